/- Texts of the proof. -/
import Derived.Test.YtjkilacmkbmmbaaGreatDoorPe11
import Derived.Test.YtjkilacmkbmmbaaGreatDoorPe10
set_option maxRecDepth 100000
set_option maxHeartbeats 8000000
namespace Go.Proofs.YtjkilacmkbmmbaaGreatDoor
open Go.Proofs.Tryz Go.RowKit Lx Vx Mx Msk
theorem fU {B:Nat}{w0 w w':World}{row:Option Nat}(hb:Below B w0 w)(hg:w.grownBy w' row)(hB:B<=w0.heap.size)(hr: ∀k,row=some k->B<=k):Below B w0 w':=
 ⟨hg.os.trans hb.os,hg.tape.trans hb.tape,hg.output.trans hb.output,a6 hb.size hg.size,fun k hk=>(hg.block k (aO (aO hk hB) hb.size) (fun e=>by have:=hr k e.symm;omega)).trans (hb.block k hk)⟩
theorem iV {w w':World}(hb:ao w w')(row:Option Nat):w.grownBy w' row:=⟨hb.os,hb.tape,hb.output,hb.size,fun k hk _=>hb.block k hk⟩
theorem xB {a b c:World}{row row':Option Nat}(h:a.grownBy b row)(k:b.grownBy c row')(hr: ∀j,row'=some j->a.heap.size<=j\/row=some j):a.grownBy c row:=
 ⟨k.os.trans h.os,k.tape.trans h.tape,k.output.trans h.output,a6 h.size k.size,fun q hq hne=>(k.block q (aO hq h.size) (fun e=>by
   rcases hr q e.symm with h1|h1
   ·omega
   ·exact hne h1.symm)).trans (h.block q hq hne)⟩
theorem tH {a c:World}(h:a.grownBy c none)(row:Option Nat):a.grownBy c row:=⟨h.os,h.tape,h.output,h.size,fun i hi _=>h.block i hi (by simp)⟩
theorem lC {ops:Array Oper}{rest:List Oper}{o:Oper}{a:Act}{w:World}{Q:Exit->Act->World->Prop}(hgd:o.guard=none)(s x:Operand)(ho:o.op= .call {callee:= .builtin .append,args:= #[s,x],argTypes:= #[24,24]})
  (base:Nat) (v:Value) (l:List Int) (r:Int) (hs:a.eval s=v) (hown:w.ownsRow base 3 1 v l.length (c8 l)) (gn c:Nat) (hx:a.eval x= .slice (some (ae gn 0)) 1 c) (hn:w.cell? (ae gn 0)=some (ag r)) (hl:l.length<=1000000) (hb:base<=w.heap.size)
  (h: ∀v' w',w'.ownsRow base 3 1 v' (l.length+1) (c8 (l++[r]))->((v'.ownBlock=v.ownBlock/\w.grownBy w' v.ownBlock/\ ∀w2:World,w2.ownsRow base 3 1 v' (l.length+1) (c8 (l++[r]))->w2.ownsRow base 3 1 v l.length (c8 l))\/(w.grownBy w' none/\ ∃g,v'.ownBlock=some g/\w.heap.size<=g))->wpList prog ops Q rest (a.put o.dst v') w'):wpList prog ops Q (o::rest) a w:=by
 refine wpList_plain hgd fun K hK=> ?_;obtain⟨v',w',hr,h1,h2⟩:=C3 w base v l r hown gn c hn o.type hl hb;unfold Oper.wp execOp;simp only[ho,resolve,invoke,builtin,jF,kE,gW,iR,dl,eO,hs,hx,hr];exact hK _ _ (h v' w' h1 h2)
def O7 (B:Nat)(res:Option (List Int))(t:List Int)(tv:Value)(w:World)(e:Ending)(w':World):Prop:=
 w.grownBy w' tv.ownBlock/\((∃who v',res=some who/\e= .returned (.tuple #[v',.bool true])/\w'.ownsRow B 3 1 v' who.length (c8 who))\/(res=none/\e= .returned (.tuple #[af,.bool false])/\w'.ownsRow B 3 1 tv t.length (c8 t)))
theorem sR {α β:Type}{f:α->Option β}{l:List α}{j:Nat}{x:α}(h:l[j]? =some x):(l.drop j).findSome? f=match f x with|some y=>some y|none=>(l.drop (j+1)).findSome? f:=by
 obtain⟨h1,h2⟩:=aE.1 h;rw[bx h1,h2];rw[List.findSome?_cons];cases f x<;>rfl
theorem J9 (pools:List (List Int))(pv:Value)(w0:World)(hP:fo w0 pv pools)(hpl:pools.length<=1000): ∀(k:Nat) (t:List Int) (tv:Value) (w:World),t.length+k=pools.length->ao w0 w->w.ownsRow w0.heap.size 3 1 tv t.length (c8 t)->
  Calls prog 164 #[pv,tv] w (O7 w0.heap.size (iZ pools k t) t tv w):=by
 intro k;induction k with
 |zero=>
  intro t tv w hk hb hown;obtain⟨pp,pc,rfl,hplen,_⟩:=hP;obtain⟨ta,tc,htv,_,_⟩:=qq hown (by omega);have he:((t.length:Int)==(pools.length:Int))=true:=(by rw[beq_iff_eq];omega);have HO:=bL hown;subst htv;clear hown;go_enter func164,ntmps164
  go_wp2_with fail;go_ret2;exact⟨jb _ _,.inl ⟨t,_,rfl,rfl,HO.o⟩⟩
 |succ k ih=>
  intro t tv w hk hb hown;have IH:=bL ih;clear ih;obtain⟨pool,hpool⟩: ∃p,pools[t.length]? =some p:=⟨pools[t.length]'(by omega),ax (by omega)⟩
  have HP:=bL hP;obtain⟨pp,pc,rfl,hplen,hall⟩:=hP;obtain⟨gp,op,sv,hpp,hcp0,hrowp⟩:=hall _ _ hpool;subst hpp;have hcp:=aj hb hcp0;obtain⟨ap,cp,rfl,hlenp,hcells⟩:=hrowp;have HC:=bL hcells;obtain⟨ta,tc,htv,_,_⟩:=qq hown (by omega);subst htv;have hne:((t.length:Int)==(pools.length:Int))=false:=(by rw[bf];omega);have hlt:(t.length:Int)<(pools.length:Int):=(by omega);have ht0:(0:Int)<=(t.length:Int):=(by omega);have HO:=bL hown;have HB:=bL hb
  have HE:P3 (iZ pools (k+1) t=pool.findSome? fun r=>if r∈t then none else iZ pools k (t++[r])):=by
   show _=_;rw[iZ];congr 1;simp[List.getD,hpool]
  clear hall hcells hown hb hpool hcp0;go_enter func164,ntmps164
  go_wp2_with fail;go_loopw [7,8,9,22] (fun _ _ _ x wr=> ∃j:Nat,x=ag (j:Int)/\j<=pool.length/\P3 (iZ pools (k+1) t=(pool.drop j).findSome? fun r=>if r∈t then none else iZ pools k (t++[r]))/\P3 (wr.ownsRow w0.heap.size 3 1 (.slice ta t.length tc) t.length (c8 t))/\P3 (w.grownBy wr (Value.slice ta t.length tc).ownBlock)) (fun _ _ _ x _=>pool.length-(intOf x).toNat);case atStart=>exact⟨0,rfl,by omega,HE,HO,jb _ _⟩
  case round=>
   obtain⟨j,rfl,hj,hX,hO,hG⟩:=hrel;have hj0:(0:Int)<=(j:Int):=(by omega);by_cases hltj:j<pool.length
   ·have hltj':(j:Int)<(pool.length:Int):=(by omega);obtain⟨r,hjr⟩: ∃r,pool[j]? =some r:=⟨pool[j],ax hltj⟩
    obtain⟨g,o,hpe,c0⟩:=HC.o j _ hjr;subst hpe;have hrow: ∀q,(Value.slice ta t.length tc).ownBlock=some q->w0.heap.size<=q:=fun q hq=>(HO.o.lt q hq).1;have HBr:=bL (fU HB.o hG.o (aA _) hrow);have hS:=sR (f:=fun r=>if r∈t then none else iZ pools k (t++[r])) hjr;have c1:=jo t (.slice ta t.length tc) r wr (qq hO.o (by omega));have c0':=aj HBr.o c0;by_cases hm:r∈t
    ·rw[ay hm]at hS;rw[a7 hm]at c1;have HX:=bL (hX.o.trans hS);clear hS hX hjr;go_wp2_with fail;refine c1.mono ?_;rintro e w2 ⟨rfl,b2⟩;have HO2:=bL (gT hO.o b2);have HG2:=bL (hG.o.trans (iV b2 _));clear c1 hO hG b2;go_wp2_with fail;go_roundw;case rel=>exact⟨j+1,by go_num,by omega,HX,HO2,HG2⟩
     case measure=>simp[intOf];omega
    ·rw[aw hm]at hS;rw[bj hm]at c1;have HX:=bL (hX.o.trans hS);clear hS hX hjr hm;go_wp2_with fail;refine c1.mono ?_;rintro e w2 ⟨rfl,b2⟩;have HO2:=bL (gT hO.o b2);have HG2:=bL (hG.o.trans (iV b2 _));have HB2:=bL (au HBr.o b2);clear c1 hO hG b2 HBr c0 c0';have bA:=am w2 (.cells #[ag r] 3);have nA:=aC w2 (.cells #[ag r] 3);generalize hwA:w2.alloc (.cells #[ag r] 3)=wA at*;have zA:=ak 0 nA;have HOA:=bL (gT HO2.o bA);have HGA:=bL (HG2.o.trans (iV bA _));have HBA:=bL (au HB2.o bA);clear bA nA HO2 HG2 HB2
     go_wp2_with(first
      |(refine lC rfl _ _ rfl w0.heap.size _ t r rfl ?ho w2.heap.size 1 rfl zA ?hl ?hb ?_
        case ho=>exact HOA.o
        case hl=>omega
        case hb=>exact HBA.o.size
        intro v' w3 ho3 hcase))
     have hl1:(t++[r]).length=t.length+1:=(by simp)
     have hfar: ∀w4:World,w3.grownBy w4 v'.ownBlock->wA.grownBy w4 (Value.slice ta t.length tc).ownBlock/\((v'.ownBlock=(Value.slice ta t.length tc).ownBlock)\/wA.grownBy w4 none):=fun w4 h4=>by
      rcases hcase with⟨e,g1,_⟩|⟨g1,q,e,hq⟩
      ·rw[e]at h4;exact⟨g1.trans h4,.inl e⟩
      ·rw[e]at h4;have:=xB g1 h4 (fun j hj=>by cases hj;exact .inl hq);exact⟨tH this _,.inr this⟩
     have HB3:=bL (fU HBA.o (hfar w3 (jb _ _)).1 (aA _) hrow);have c2:=IH.o (t++[r]) v' w3 (by rw[hl1];omega) HB3.o (by rw[hl1];exact ho3);have HF:=bL hfar
     have HC3:P3 (∀w2:World,(v'.ownBlock=(Value.slice ta t.length tc).ownBlock)\/wA.grownBy w2 none->w2.ownsRow w0.heap.size 3 1 v' (t.length+1) (c8 (t++[r]))->w2.ownsRow w0.heap.size 3 1 (.slice ta t.length tc) t.length (c8 t)):=fun w2 hor h2=>by
      rcases hcase with⟨_,_,h⟩|⟨_,q,e,hq⟩
      ·exact h w2 h2
      ·rcases hor with h|h
       ·exfalso;rw[e]at h;have:=(HOA.o.lt q h.symm).2;omega
       ·exact HOA.o.kept h (by cases hz:(Value.slice ta t.length tc).ownBlock<;>simp)
     have HL:=bL hl1;clear hcase hfar ho3 hl1 HB3;refine c2.mono ?_;rintro e w4 ⟨hg4,⟨who,v2,hw,rfl,ho4⟩|⟨hw,rfl,ho4⟩⟩
     ·have HX2:P3 (iZ pools (k+1) t=some who):=by
       show _=_;rw[HX.o,hw]
      have HR:=bL (HGA.o.trans (HF.o w4 hg4).1);clear c2 hg4 hw;go_wp2_with fail;go_ret2;exact⟨HR.o,.inl ⟨who,v2,HX2.o,rfl,ho4⟩⟩
     ·have HX2:P3 (iZ pools (k+1) t=(pool.drop (j+1)).findSome? fun r=>if r∈t then none else iZ pools k (t++[r])):=by
       show _=_;rw[HX.o,hw]
      have HR:=bL (HGA.o.trans (HF.o w4 hg4).1);have HR2:=bL (HC3.o w4 (HF.o w4 hg4).2 (by rw[HL.o]at ho4;exact ho4));clear c2 hg4 hw ho4;go_wp2_with fail;go_roundw;case rel=>exact⟨j+1,by go_num,by omega,HX2,HR2,HR⟩
      case measure=>simp[intOf];omega
   ·have hltj': ¬(j:Int)<(pool.length:Int):=(by omega)
    have HX:P3 (iZ pools (k+1) t=none):=by
     show _=_;rw[hX.o,dc (by omega)];rfl
    go_wp2_with fail;go_ret2;exact⟨hG.o,.inr ⟨HX.o,rfl,hO.o⟩⟩
def gH (f:Nat->Bool)(x y:Int):Bool:=decide (0<=x)&&decide (y<=1440)&&decide (x<=y)&&eqm (fun i=>(inl [(x,y)] i&& !f i)&&decide (i<1440)) fun _=>false
theorem tI (f:Nat->Bool)(x y:Int)(w:World):
  Calls prog 98 #[.agg (mv f),.agg #[ag x,ag y]] w fun e w'=>e= .returned (.bool (gH f x y))/\ao w w':=by
 have hz:=dU;have hb0:ao w ((w.alloc (.cells (mv f) 61)).alloc (.cells #[ag x,ag y] 143)):=(am _ _).alloc (by simp) _;have h1:((w.alloc (.cells (mv f) 61)).alloc (.cells #[ag x,ag y] 143)).heap[w.heap.size]? =ah (mv f) 61:=by(repeat (first|refine cY _ _ _ (by simp only[aP];omega) ?_|exact dq _ _ _ (by first|rfl|simp only[aP])))
 have h2:((w.alloc (.cells (mv f) 61)).alloc (.cells #[ag x,ag y] 143)).heap[w.heap.size+1]? =ah #[ag x,ag y] 143:=by(repeat (first|refine cY _ _ _ (by simp only[aP];omega) ?_|exact dq _ _ _ (by first|rfl|simp only[aP])))
 have fl: ¬(0<=x/\y<=1440/\x<=y)->gH f x y=false:=fun h=>by
  unfold gH;by_cases h1:0<=x<;>by_cases h2:y<=1440<;>by_cases h3:x<=y<;>simp[h1,h2,h3]at h⊢
 by_cases hc:0<=x/\y<=1440/\x<=y
 case neg=>
  rw[fl hc];clear fl;go_enter func98,ntmps98;by_cases hx:x<0
  case' neg=>
   by_cases hy:1440<y;case' neg=>have hxy:y<x:=by omega
  all_goals
   go_wp2
   go_ret
   exact⟨rfl,hb0⟩
 case pos=>
  obtain⟨hx',hy',hxy'⟩:=hc;have e:gH f x y=eqm (fun i=>(inl [(x,y)] i&& !f i)&&decide (i<1440)) fun _=>false:=(by unfold gH;simp[hx',hy',hxy']);rw[e];clear e fl;have he:=Mg (fun i=>(inl [(x,y)] i&& !f i)&&decide (i<1440)) (fun _=>false);generalize hw0:(w.alloc (.cells (mv f) 61)).alloc (.cells #[ag x,ag y] 143)=w0 at*;have y0:=ak 0 h2;have y1:=ak 1 h2;go_enter func98,ntmps98;go_wp2;refine dt (fun M φ W=>ao w0 W/\(M 1=true-> ∃g,φ 21= .slice (some (ae g 0)) 1 1/\W.heap[g]? =ah #[ag x,ag y] 143)) [kn 20 (.agg #[ag x,ag y]),td 21,kn 22 (.agg (mv (inl [(x,y)]))),kn 23 (.agg (mv f)),kn 24 (.agg (mv fun i=>(inl [(x,y)] i&& !f i)&&decide (i<1440))),kn 25 (.agg (mv fun _=>false)),kn 26 (.bool (eqm (fun i=>(inl [(x,y)] i&& !f i)&&decide (i<1440)) fun _=>false)),kn 4 (.bool (eqm (fun i=>(inl [(x,y)] i&& !f i)&&decide (i<1440)) fun _=>false))] (fun _=>⟨(aG _ _).drew,(fun h=>by cases h)⟩) (fun _ _ _ _ hb h=>⟨au h.1 hb,fun c=>(h.2 c).imp fun _ q=>⟨q.1,ai hb q.2⟩⟩) (by kernel_rfl) (fun M φ W hJ hcl F l hl hF=> ?_) (fun M φ W hM hJ=> ?_)
  ·simp only[kn,td,dN,aQ,aW,Act.put,aB,aI,aH]at hl;subst hl;simp only[dg,Nat.reduceAdd]at hF;obtain⟨hJ,hT⟩:=hJ;dsimp only[kn,td,dC,en,dS,Act.put];and_intros;all_goals first|exact trivial|intro hw hn hm K hK
   all_goals try (go_simp;with_reducible exact hK _ _ ⟨rfl,aG _ _⟩)
   ·refine d9 143 _ rfl _ (by simp[Act.eval,hF]) _ _ _ _ (ai hJ h2) underlying143 rfl (by kernel_rfl) ?_;exact hK _ _ ⟨rfl,aG _ _⟩
   ·have hb:=am W (.cells #[ag x,ag y] 143);go_simp;exact hK _ _ ⟨trivial,au hJ hb,fun _=>⟨_,dI ..,aC W _⟩⟩
   ·obtain⟨g,e21,hg⟩:=hT (hw ⟨1,.data⟩ (by simp) rfl rfl);rw[e21]at hF;go_simp;refine(tn _ _ _ (Hk hg)).mono ?_;rintro e W' ⟨rfl,hb⟩;exact hK _ _ ⟨rfl,hb⟩
   ·refine d9 61 _ rfl _ (by simp[Act.eval,hF]) _ _ _ _ (ai hJ h1) bQ rfl (ba _) ?_;exact hK _ _ ⟨rfl,aG _ _⟩
   ·go_simp;refine(pT _ _ _).mono ?_;rintro e W' ⟨rfl,hb⟩;exact hK _ _ ⟨rfl,hb⟩
  ·simp only[kn,td,dP,aQ,aW,Act.put,aB,aI,aH];have HB:P3 (ao w W):=au hb0 hJ.1;clear hM hJ hz he;go_wp2;go_ret;exact⟨rfl,HB.o⟩
theorem it {w w':World}{g o:Nat}{xs:List Value}(h:w.rangeAt g o xs)(hb:ao w w'):w'.rangeAt g o xs:=fun j u hj=>(hb.cell (bT (h j u hj))).trans (h j u hj)
theorem Mp (f:Nat->Bool):(mv f).toList.length=23:=by rw[bP];exact bO f
theorem zL {op:Oper}{a:Act}{w:World}{K:Act->World->Prop}{Q:Exit->Act->World->Prop}(x:Operand)(ho:op.op= .load 61 x)(b o:Nat)(hx:a.eval x=ab b o)(f:Nat->Bool)(hc:w.rangeAt b o (mv f).toList)(h:K (a.put op.dst (.agg (mv f))) w):op.wp prog a w K Q:=by
 refine wp_load_mid 61 x ho b o hx (mv f).toList _ hc bQ rfl (by rw[Mp];kernel_rfl) ?_;simpa using h
theorem Hm:prog.underlying 143=some (.struct (prog.fieldsOf 143)):=by kernel_rfl
def sx (w:World)(v:Value)(fs:List (Nat->Bool)):Prop:= ∃p c,v= .slice p fs.length c/\fs.length<9223372036854775808/\ ∀(j:Nat) (f:Nat->Bool),fs[j]? =some f-> ∃g o:Nat,p=some ⟨g,o,none⟩/\w.rangeAt g (o+j*23) (mv f).toList
theorem sx.below {w w':World}{v:Value}{fs:List (Nat->Bool)}(h:sx w v fs)(hb:ao w w'):sx w' v fs:=by
 obtain⟨p,c,h1,h2,h3⟩:=h;refine⟨p,c,h1,h2,fun j f hj=> ?_⟩;obtain⟨g,o,e,hr⟩:=h3 j f hj;exact⟨g,o,e,it hr hb⟩
def okP (fs:List (Nat->Bool))(x y:Int)(r:Int):Bool:=gH (fs.getD r.toNat fun _=>false) x y
theorem lD {α:Type}{l:List α}{i:Nat}{x:α}(h:l[i]? =some x):l.take (i+1)=l.take i++[x]:=by
 obtain⟨h1,h2⟩:=aE.1 h;rw[ft,h];rfl
theorem zN {l m:List Int}{x:Int}(h:l++[x]=m):m.length=l.length+1:=by rw[<-h];simp
theorem xC {w1 wB w3:World}{v v':Value}{n:Nat}{xs:List Value}{C:Prop}(hb:ao w1 wB)(ho:wB.ownsRow w1.heap.size 3 1 v n xs)(hc:(v'.ownBlock=v.ownBlock/\wB.grownBy w3 v.ownBlock/\C)\/(wB.grownBy w3 none/\ ∃g,v'.ownBlock=some g/\wB.heap.size<=g)):ao w1 w3:=by
 rcases hc with⟨_,h,_⟩|⟨h,_⟩
 ·exact fU hb h (aA _) (fun k hk=>(ho.lt k hk).1)
 ·exact fU hb h (aA _) (fun k hk=>by cases hk)
theorem Ho:prog.underlying 33=some (.slice 24):=by kernel_rfl
theorem Ka:(prog.info? 24).map (fun i=>(i.zero,i.size,i.bytes))=some (some (af),1,24):=by kernel_rfl
structure kV (B:Nat)(w:World)(v:Value)(vs:List Value)(ls:List (List Int)):Prop where
 o:w.ownsRow B 24 1 v vs.length vs
 len:vs.length=ls.length
 each: ∀(i:Nat) (sv:Value) (l:List Int),vs[i]? =some sv->ls[i]? =some l->w.ownsRow B 3 1 sv l.length (c8 l)
theorem kV.below {B:Nat}{w w':World}{v:Value}{vs:List Value}{ls:List (List Int)}(h:kV B w v vs ls)(hb:ao w w'):kV B w' v vs ls:=
 ⟨gT h.o hb,h.len,fun i sv l h1 h2=>gT (h.each i sv l h1 h2) hb⟩
theorem kV.row {B:Nat}{w:World}{v:Value}{vs:List Value}{ls:List (List Int)}(h:kV B w v vs ls)(hl:ls.length<9223372036854775808)(hs: ∀l∈ls,l.length<9223372036854775808):fo w v ls:=by
 rcases h.o.2 with⟨rfl,e⟩|⟨g,cap,cur,rfl,_,hg,_,_,_,ht⟩
 ·refine⟨none,0,by rw[<-h.len,e],hl,fun j n hj=> ?_⟩;have:=(aE.1 hj).1;rw[<-h.len]at this;omega
 ·refine⟨_,cap,by rw[h.len],hl,fun j l hj=> ?_⟩;have hj':=(aE.1 hj).1;rw[<-h.len]at hj';have hv:vs[j]? =some vs[j]:=ax hj';refine⟨g,0,vs[j],rfl,?_,qq (h.each j _ l hv hj) (hs l (aM hj))⟩;rw[bK,aV w g j cur _ (0,0) hg,<-bo]
  have e:(vs:List Value)[j]? =cur.toList[j]? :=by
   have h1:=congrArg (fun l:List Value=>l[j]?) ht;rw[Nat.mul_one,dA hj']at h1;exact h1.symm
  rw[<-e,hv]
theorem kV.snoc {B:Nat}{w w':World}{v v' sv:Value}{vs:List Value}{ls:List (List Int)}{l:List Int}(h:kV B w v vs ls)(hs:w.ownsRow B 3 1 sv l.length (c8 l))(ho:w'.ownsRow B 24 1 v' (vs.length+1) (vs++[sv]))(hg:w.grownBy w' v.ownBlock):kV B w' v' (vs++[sv]) (ls++[l]):=by
 have far: ∀(u:Value) (m:List Int),w.ownsRow B 3 1 u m.length (c8 m)->w'.ownsRow B 3 1 u m.length (c8 m):=fun u m hu=>by
  refine hu.kept hg ?_;cases hb:u.ownBlock with
  |none=>exact .inl rfl
  |some k=>
   refine .inr fun e=> ?_;rcases hu.2 with⟨rfl,_⟩|⟨g,cap,cur,rfl,_,hgg,_⟩
   ·cases hb
   ·have hk:k=g:=(by simpa[Value.ownBlock] using hb.symm);subst hk;exact qK h.o hgg (by decide) e.symm
 refine⟨by simpa using ho,by simp[h.len],fun i u m h1 h2=> ?_⟩;by_cases hi:i<vs.length
 ·rw[d6 hi]at h1;rw[d6 (by rw[<-h.len];exact hi)]at h2;exact far u m (h.each i u m h1 h2)
 ·rw[dG (by omega)]at h1;rw[dG (by rw[<-h.len];omega),<-h.len]at h2
  have e:i-vs.length=0:=by
   have:=(aE.1 h1).1;simp at this;omega
  rw[e]at h1 h2;simp at h1 h2;subst h1 h2;exact far _ _ hs
theorem mQ {w:World}{B:Nat}{e:TypeId}{size:Nat}{v:Value}{n:Nat}{xs:List Value}(h:w.ownsRow B e size v n xs): ∃(q:Option Addr) (c:Nat),v= .slice q n c:=by
 rcases h.2 with⟨e,hn⟩|⟨_,_,_,e,_⟩
 ·exact⟨_,_,by rw[e,hn]⟩
 ·exact⟨_,_,e⟩
theorem qr {w:World}{B B':Nat}{e:TypeId}{size:Nat}{v:Value}{n:Nat}{xs:List Value}(h:w.ownsRow B' e size v n xs)(hB:B<=B'):w.ownsRow B e size v n xs:=by
 refine⟨h.1,?_⟩;rcases h.2 with hn|⟨g,cap,cur,e1,hb,rest⟩
 ·exact .inl hn
 ·exact .inr ⟨g,cap,cur,e1,a6 hB hb,rest⟩
theorem AF (roles:List (List Int))(rv:Value)(fs:List (Nat->Bool))(fv:Value)(x y:Int)(w:World)(hR:fo w rv roles)(hF:sx w fv fs)(hin: ∀p∈roles,p.length<=1000/\ ∀r∈p,0<=r/\r<(fs.length:Int))(hrl:roles.length<=1000):
  Calls prog 163 #[rv,fv,.agg #[ag x,ag y]] w fun e w'=> ∃v,e= .returned v/\fo w' v (gj (okP fs x y) roles)/\ao w w':=by
 have bA:=am w (.cells #[ag x,ag y] 143);have nA:=aC w (.cells #[ag x,ag y] 143);generalize hwA:w.alloc (.cells #[ag x,ag y] 143)=wA at*;have HR:=bL (hR.below bA);have HF:=bL (hF.below bA);have HB:=bL bA;have HIN:=bL hin;have hlA:w.heap.size<wA.heap.size:=aF nA;obtain⟨pr,cr,rfl,hlr,_⟩:=hR;obtain⟨pf,cf,rfl,hlf,_⟩:=hF;clear bA hin;go_enter func163,ntmps163
 go_wp2_with fail;go_loopw [7,9,10,12,15] (fun a _ _ _ t wr=> ∃(j:Nat) (vs:List Value) (qo:Option Addr) (co:Nat),a= .slice qo vs.length co/\t=ag (j:Int)/\j<=roles.length/\P3 (kV wA.heap.size wr (.slice qo vs.length co) vs (gj (okP fs x y) (roles.take j)))/\P3 (ao wA wr)) (fun _ _ _ _ t _=>roles.length-(intOf t).toNat);case atStart=>exact⟨0,[],_,_,rfl,rfl,by omega,⟨bV _ _ _ _,rfl,fun i sv l h _=>by simp at h⟩,aG _ _⟩
 case round=>
  obtain⟨j,vs,qo,co,rfl,rfl,hj,HO,HBr⟩:=hrel;have hj0:(0:Int)<=(j:Int):=(by omega);by_cases hlt:j<roles.length
  ·have hlt':(j:Int)<(roles.length:Int):=(by omega);obtain⟨role,hjr⟩: ∃r,roles[j]? =some r:=⟨roles[j],ax hlt⟩
   obtain⟨_,_,e1,_,hall⟩:=HR.o;cases e1;obtain⟨gr,or,sv,hpe,hc0,hrow0⟩:=hall j _ hjr;subst hpe;have hc:=aj HBr.o hc0;obtain⟨ar,ac,rfl,hlrole,hcells⟩:=hrow0.below HBr.o;have HC:=bL hcells;have HJR:=bL hjr;have HIR:=bL (HIN.o role (aM hjr));have hrole:role.length<=1000:=HIR.o.1
   have HSM:P3 (∀i:Nat,((role.take i).filter (okP fs x y)).length<=1000000):=fun i=>by
    have h2:=List.length_filter_le (okP fs x y) (role.take i);have h3:=List.length_take_le' i role;omega
   clear hall hc0 hrow0 hcells hjr;obtain⟨w1,hw1⟩: ∃q,q=wr:=⟨_,rfl⟩
   have n50:=(HBr.o.block _ hlA).trans nA;have HFr:=bL (HF.o.below HBr.o);rw[<-hw1]at n50 HFr HC;have HBr1:P3 (ao wA w1):=(by rw[hw1];exact HBr);have HO1:P3 (kV wA.heap.size w1 (.slice qo vs.length co) vs (gj (okP fs x y) (roles.take j))):=(by rw[hw1];exact HO);have HW1:=bL hw1;go_wp2_with fail;go_loopw [10,12,21] (fun a _ t W=> ∃(i:Nat) (qc:Option Addr) (cc:Nat),a= .slice qc ((role.take i).filter (okP fs x y)).length cc/\t=ag (i:Int)/\i<=role.length/\P3 (W.ownsRow w1.heap.size 3 1 (.slice qc ((role.take i).filter (okP fs x y)).length cc) ((role.take i).filter (okP fs x y)).length (c8 ((role.take i).filter (okP fs x y))))/\P3 (ao w1 W)) (fun _ _ t _=>role.length-(intOf t).toNat);case atStart=>exact⟨0,none,0,rfl,rfl,by omega,bV _ _ _ _,by rw[HW1.o];exact aG _ _⟩
   case round=>
    obtain⟨i,qc,cc,rfl,rfl,hi,HOc,HBc⟩:=hrel;have hi0:(0:Int)<=(i:Int):=(by omega);by_cases hlti:i<role.length
    ·have hlti':(i:Int)<(role.length:Int):=(by omega);obtain⟨r,hir⟩: ∃r,role[i]? =some r:=⟨role[i],ax hlti⟩
     obtain⟨h1,h2⟩:=HIR.o.2 r (aM hir);obtain⟨rn,hrn⟩: ∃rn:Nat,r=(rn:Int):=⟨r.toNat,by omega⟩
     subst hrn;obtain⟨f,hf⟩: ∃f,fs[rn]? =some f:=⟨fs[rn]'(by omega),ax (by omega)⟩
     obtain⟨ga,oa,hpa,ca0⟩:=HC.o i _ hir;subst hpa;have ca:=aj HBc.o ca0;obtain⟨_,_,e3,_,hallf⟩:=HFr.o;cases e3;obtain⟨gf,of,hpf,rgf0⟩:=hallf rn f hf;subst hpf;have rgf:=it rgf0 HBc.o;have n5:=ai HBc.o n50
     have HOK:P3 (okP fs x y (rn:Int)=gH f x y):=by
      show _=_;unfold okP;rw[cg];congr 1;simp[List.getD,hf]
     clear hallf rgf0 ca0 hf h1;go_wp2_with fail;refine dt (fun _ _ W=>ao wr W) [kn 25 (.slice (some (ae gf of)) fs.length cf),kn 26 (ag (rn:Int)),kn 27 (ab gf (of+rn*23)),kn 28 (.agg (mv f)),kn 29 (.agg #[ag x,ag y]),kn 30 (.bool (gH f x y))] (fun _=>(aG _ _).drew) (fun _ _ _ _ hb h=>au h hb) (by kernel_rfl) (fun M φ W2 hJ hcl FF ll hll hFF=> ?_) (fun M φ W5 hM hJ=> ?_)
     ·simp only[kn,dN,aQ,aW,Act.put,aB,aI,aH]at hll;subst hll;simp only[dg,Nat.reduceAdd]at hFF;dsimp only[kn,dC,en,dS,Act.put];and_intros;all_goals first|exact trivial|intro qw qn qm K hK
      all_goals try (go_simp;with_reducible exact hK _ _ ⟨rfl,aG _ _⟩)
      ·refine zL _ rfl gf (of+rn*23) (by simp[Act.eval,hFF]) f (it rgf hJ) ?_;exact hK _ _ ⟨rfl,aG _ _⟩
      ·refine d9 143 _ rfl _ (by simp[Act.eval,hFF]) _ _ _ _ (ai hJ n5) Hm rfl (by kernel_rfl) ?_;exact hK _ _ ⟨rfl,aG _ _⟩
      ·go_simp;refine(tI f x y W2).mono ?_;rintro r' W' ⟨rfl,hb'⟩;exact hK _ _ ⟨rfl,hb'⟩
     ·simp only[kn,dP,aQ,aW,Act.put,aB,aI,aH];clear hM;have HO5:=bL (gT HOc.o hJ);have HB5:=bL (au HBc.o hJ);cases hok:gH f x y with
      |true=>
       have bA:=am W5 (.cells #[ag (rn:Int)] 3);have nA:=aC W5 (.cells #[ag (rn:Int)] 3);generalize hwA:W5.alloc (.cells #[ag (rn:Int)] 3)=wB at*;have zA:=ak 0 nA;have HOA:=bL (gT HO5.o bA);have HBA:=bL (au HB5.o bA)
       have HFt:P3 (((role.take i).filter (okP fs x y))++[(rn:Int)]=(role.take (i+1)).filter (okP fs x y)):=by
        show _=_;rw[lD hir,List.filter_append];congr 1;rw[List.filter_cons,ay (by rw[HOK.o];exact hok)];rfl
       clear bA nA hok hJ hir
       go_wp2_with(first
        |(refine lC rfl _ _ rfl w1.heap.size _ ((role.take i).filter (okP fs x y)) (rn:Int) rfl ?ho W5.heap.size 1 rfl zA ?hl ?hb ?_
          case ho=>exact HOA.o
          case hl=>exact HSM.o i
          case hb=>exact HBA.o.size
          intro v' w3 ho3 hcase))
       have HB3:=bL (xC HBA.o HOA.o hcase);have HO3:=bL ho3;clear hcase ho3;go_wp2_with fail;go_roundw
       case rel=>
        have h3:=HO3.o;rw[HFt.o,<-zN HFt.o]at h3;obtain⟨q',c',hv'⟩:=mQ h3;subst hv';exact⟨i+1,q',c',rfl,by go_num,by omega,h3,HB3⟩
       case measure=>simp[intOf];omega
      |false=>
       have HFt:P3 ((role.take i).filter (okP fs x y)=(role.take (i+1)).filter (okP fs x y)):=by
        show _=_;rw[lD hir,List.filter_append,List.filter_cons,aw (by rw[HOK.o,hok];decide)];simp
       clear hok hJ hir;go_wp2_with fail;go_roundw
       case rel=>
        have h3:=HO5.o;rw[HFt.o]at h3;exact⟨i+1,qc,cc,by rw[HFt.o],by go_num,by omega,h3,HB5⟩
       case measure=>simp[intOf];omega
    ·have hlti': ¬(i:Int)<(role.length:Int):=(by omega);have hie:i=role.length:=(by omega)
     have HOe:P3 (wr.ownsRow w1.heap.size 3 1 (.slice qc ((role.take i).filter (okP fs x y)).length cc) (role.filter (okP fs x y)).length (c8 (role.filter (okP fs x y)))):=by
      have h:=HOc.o;rw[hie,cj (aA _)]at h⊢;exact h
     obtain⟨nl,hnl⟩:=aq (((role.take i).filter (okP fs x y)).length);rw[hnl]at HOe⊢;have HBw:=bL (au HBr1.o HBc.o);have HOO:=bL (HO1.o.below HBc.o);have bB:=am wr (.cells #[.slice qc nl cc] 24);have nB:=aC wr (.cells #[.slice qc nl cc] 24);generalize hwB:wr.alloc (.cells #[.slice qc nl cc] 24)=wB at*;have zB:=ak 0 nB;have HOB:=bL (HOO.o.below bB);have HcB:=bL (qr (gT HOe.o bB) HBr1.o.size);have HBB:=bL (au HBw.o bB)
     have HT:P3 (gj (okP fs x y) (roles.take j)++[role.filter (okP fs x y)]=gj (okP fs x y) (roles.take (j+1))):=by
      show _=_;unfold gj;rw[lD HJR.o,dh];rfl
     obtain⟨i0,hi0',hz0,hs0,hby0⟩:=pL Ka;have HI:=bL hi0'
     have hvl:vs.length<=1000:=by
      rw[HOB.o.len];unfold gj;rw[aZ];have:=List.length_take_le' j roles;omega
     clear HOc HBw HOO bB nB HOe hi0' hnl hie HO1 HBr1 HBc
     go_wp2_with(first
      |(refine iK wB rfl _ _ 33 rfl wA.heap.size 24 i0 (af) 1 24 Ho HI.o hz0 hs0 hby0 rfl (by decide) _ vs.length vs rfl HOB.o.o ⟨wr.heap.size,0,none⟩ 1 1 [.slice qc nl cc] rfl rfl ?hn ?h1 ?h63 ?hby ?hb ?_
        case hn=>
         intro q u hq
         match q,hq with
         |0,hq=>cases aK hq;simpa[Addr.add] using zB
         |q+1,hq=>simp at hq
        case h1=>simp[Value.oneCell']
        case h63=>unfold maxLen;omega
        case hby=>omega
        case hb=>exact HBB.o.size
        intro v' w3 ho3 hg3 _))
     have HO3:=bL (HOB.o.snoc HcB.o ho3 hg3);have HB3:=bL (fU HBB.o hg3 (aA _) (fun k hk=>(HOB.o.o.lt k hk).1));clear ho3 hg3;go_wp2_with fail;go_roundw
     case rel=>
      have h3:=HO3.o;rw[HT.o]at h3;have e1:(vs++[Value.slice qc nl cc]).length=vs.length+1:=(by simp);obtain⟨q',c',hv'⟩:=mQ h3.o;subst hv';exact⟨j+1,_,q',c',rfl,by go_num,by omega,h3,HB3⟩
     case measure=>simp[intOf];omega
  ·have hlt': ¬(j:Int)<(roles.length:Int):=(by omega)
   have HRO:P3 (fo wr (.slice qo vs.length co) (gj (okP fs x y) roles)):=by
    have e:j=roles.length:=(by omega);have h:=HO.o;rw[e,cj (aA _)]at h;refine h.row (by unfold gj;rw[aZ];exact hlr) fun l hl=> ?_;unfold gj at hl;rw[dw]at hl;obtain⟨p,hp,rfl⟩:=hl;have h1:=(HIN.o p hp).1;have h2:=List.length_filter_le (okP fs x y) p;omega
   have HBB:=bL (au HB.o HBr.o);go_wp2_with fail;go_ret;exact⟨_,rfl,HRO.o,HBB.o⟩
theorem kh {w w':World}(h:Tab w)(hb:ao w w'):Tab w':=fun j hj=>(hb.cell (bT (h j hj))).trans (h j hj)
theorem zO (f:Nat->Bool)(w:World)(hT:Tab w):
  Calls prog 179 #[.agg (mv f)] w fun e w'=>(∃v,e= .returned v/\w'.ownsRow w.heap.size 143 2 v (rs f 1440).length (iG (rs f 1440)))/\lj f 1440 (rs f 1440)/\ao w w':=by
 have hmf: ∀(fn:Fn) (first cap:Array Value) (w:World),(Instr.makeFunc fn first cap).run prog w= .ok (.func fn first cap) w:=fun _ _ _ _=>rfl;have hW1:((w.alloc (.cells (mv f) 61)).alloc (.cells #[af] 144)).heap[w.heap.size]? =ah (mv f) 61:=by(repeat (first|refine cY _ _ _ (by simp only[aP];omega) ?_|exact dq _ _ _ (by first|rfl|simp only[aP])))
 have hW2:((w.alloc (.cells (mv f) 61)).alloc (.cells #[af] 144)).heap[w.heap.size+1]? =ah #[af] 144:=by(repeat (first|refine cY _ _ _ (by simp only[aP];omega) ?_|exact dq _ _ _ (by first|rfl|simp only[aP])))
 have hb0:ao w ((w.alloc (.cells (mv f) 61)).alloc (.cells #[af] 144)):=(am _ _).alloc (by simp) _;have cv:=C2 f w _ _ hT (by omega) ⟨hb0,⟨_,hW2,bV _ _ _ _⟩,sq.zero f,by omega⟩;clear hW2 hb0;go_enter func179,ntmps179
 go_wp2_with(first
  |(refine aR rfl 61 _ rfl _ rfl _ _ _ _ hW1 bQ rfl (ba _) ?_)
  |(go_at_call 197;refine cv.mono ?_;rintro e w' ⟨rfl,hbel,⟨v,hv,hown⟩,hruns⟩;have c1:=cell_of_one hv;have HR:P3 (_):=hown;have HN:P3 (lj f 1440 (rs f 1440)):=hruns;clear hown hruns))
 go_ret;exact⟨⟨v,rfl,HR.o⟩,HN.o,hbel⟩
namespace Msk
theorem zU (f:Nat->Bool): ∀m,f m=true-> ∃a,a<=m/\(a=0\/f (a-1)=false)/\ ∀i,a<=i->i<=m->f i=true
 |0,h=>⟨0,aA _,.inl rfl,fun i _ hi=>by rw[show i=0 by omega];exact h⟩
 |m+1,h=>by
  cases hm:f m with
  |false=>exact⟨m+1,aA _,.inr hm,fun i h1 h2=>by rw[show i=m+1 by omega];exact h⟩
  |true=>
   obtain⟨a,h1,h2,h3⟩:=zU f m hm;refine⟨a,by omega,h2,fun i hi hi'=> ?_⟩;by_cases e:i=m+1
   ·rw[e];exact h
   ·exact h3 i hi (by omega)
theorem Ke (f:Nat->Bool): ∀n,lj f n (rs f n)/\((n=0\/f (n-1)=false)->qJ (-1) (rs f n)<n):=by
 intro n;induction n using Nat.strongRecOn with
 |ind n ih=>
  match n,ih with
  |0,_=>exact⟨lj.zero f,fun _=>by show(-1:Int)<0;omega⟩
  |m+1,ih=>
   cases hm:f m with
   |false=>
    have e:rs f (m+1)=rs f m:=(by rw[rs,hm];rfl);have h:=(ih m (by omega)).1;rw[e];refine⟨h.skip (m+1) (by omega) fun i h1 h2=>by rw[show i=m by omega];exact hm,fun _=> ?_⟩;have:=h.last;omega
   |true=>
    obtain⟨a,h1,h2,h3⟩:=zU f m hm;obtain⟨r1,r2⟩:=ih a (by omega);have e:=BQ f a h2 (m-a) (fun i q1 q2=>h3 i q1 (by omega));rw[show a+(m-a+1)=m+1 by omega]at e;rw[e];refine⟨r1.run (r2 h2) (m+1) (by omega) (fun i q1 q2=>h3 i q1 (by omega)),fun h=> ?_⟩;rcases h with h|h
    ·omega
    ·rw[show m+1-1=m by omega,hm]at h;cases h
theorem yJ (f:Nat->Bool)(n:Nat):lj f n (rs f n):=(Ke f n).1
end Msk
def iv (f:In×Value):Array Value:= #[ag f.1.op,ag f.1.a,ag f.1.b,ag f.1.to,f.2]
def i7 (S:List (In×Value)):List Value:=S.flatMap fun f=>(iv f).toList
theorem oU: ∀S:List (In×Value),(i7 S).length=S.length*5
 |[]=>rfl
 |f::S=>by
  have:=oU S;unfold i7 at this⊢;rw[List.flatMap_cons,aL,this];have h:(iv f).toList.length=5:=rfl;rw[h,bz];omega
theorem Fk (S:List (In×Value))(f:In×Value):i7 (S++[f])=i7 S++(iv f).toList:=by
 unfold i7;rw[dZ];simp
structure WsC (w0:World)(gm:Nat)(mp:Value)(S:List (In×Value))(W:World):Prop where
 bel:ao w0 W
 gt:w0.heap.size<=gm
 row: ∃sv,W.heap[gm]? =ah #[mp,sv] 205/\W.ownsRow w0.heap.size 234 5 sv S.length (i7 S)
theorem WsC.below {w0 W W':World}{gm:Nat}{mp:Value}{S:List (In×Value)}(h:WsC w0 gm mp S W)(hb:ao W W'):WsC w0 gm mp S W':=by
 obtain⟨h1,h2,sv,h3,h4⟩:=h;exact⟨au h1 hb,h2,sv,ai hb h3,g6 h4 hb⟩
theorem Kn:(prog.info? 234).map (fun i=>(i.zero,i.size,i.bytes))=some (some (.agg #[ag 0,ag 0,ag 0,ag 0,af]),5,56):=by kernel_rfl
theorem Ib:prog.underlying 203=some (.slice 234):=by kernel_rfl
def tK (gm:Nat)(W:World):Option Nat:=match W.cell? (ae gm 1) with
 |some v=>v.ownBlock
 |none=>none
theorem oh {gm:Nat}{W:World}{mp sv:Value}(h:W.heap[gm]? =ah #[mp,sv] 205):tK gm W=sv.ownBlock:=by
 unfold tK;rw[aV _ _ 1 _ _ _ h];rfl
structure Fr2 (gm:Nat)(W W':World):Prop where
 blk: ∀q,q<W.heap.size->q≠gm->tK gm W≠some q->W'.heap[q]? =W.heap[q]?
 row:tK gm W'=tK gm W\/ ∃g,tK gm W'=some g/\W.heap.size<=g
 size:W.heap.size<=W'.heap.size
theorem Fr2.trans {gm:Nat}{w w' w'':World}(h:Fr2 gm w w')(h':Fr2 gm w' w''):Fr2 gm w w'':=by
 refine⟨fun q hq hne hr=> ?_,?_,a6 h.size h'.size⟩
 ·refine(h'.blk q (aO hq h.size) hne ?_).trans (h.blk q hq hne hr);rcases h.row with e|⟨g,e,hg⟩
  ·rw[e];exact hr
  ·rw[e];intro e2;injection e2 with e2;omega
 ·rcases h'.row with e|⟨g,e,hg⟩
  ·rw[e];exact h.row
  ·exact .inr ⟨g,e,a6 h.size hg⟩
theorem Fr2.below {gm:Nat}{w w':World}(hg:gm<w.heap.size)(hb:ao w w'):Fr2 gm w w':=by
 refine⟨fun q hq _ _=>hb.block q hq,.inl ?_,hb.size⟩;unfold tK;rw[dL (a:=⟨gm,1,none⟩) (hb.block gm hg)]
theorem vT:prog.underlying 234=some (.struct (prog.fieldsOf 234)):=by kernel_rfl
theorem DX (f:In×Value):(iv f).toList.length=5:=rfl
theorem Oe {f:In×Value}(h: ∃p n c,f.2= .slice p n c):(iv f).all (·.oneCell')=true:=by
 obtain⟨p,n,c,e⟩:=h;unfold iv;rw[e];simp[Value.oneCell']
theorem Of (f:In×Value)(h: ∃p n c,f.2= .slice p n c)(W:World):(Instr.buildSlice 203 1 #[(0,.agg (iv f))]).run prog W= .ok (.slice (some (ae W.heap.size 0)) 1 1) (W.alloc (.cells (iv f) 234)):=by
 obtain⟨p,n,c,e⟩:=h;unfold iv;rw[e];kernel_rfl
theorem Ic {op:Oper}{a:Act}{w:World}{K:Act->World->Prop}{Q:Exit->Act->World->Prop}(x:Operand)(ho:op.op= .buildSlice 203 1 #[(0,x)])(f:In×Value)(hf: ∃p n c,f.2= .slice p n c)(hx:a.eval x= .agg (iv f))(h:K (a.put op.dst (.slice (some (ae w.heap.size 0)) 1 1)) (w.alloc (.cells (iv f) 234))):op.wp prog a w K Q:=by
 unfold Oper.wp execOp;have hb:=Of f hf w;simp only[ho,hx,iR,dl,eO,jF,kE,gW,hb];exact h
structure Lh (base:Nat)(sv:Value)(n:Nat)(xs:List Value)(f:In×Value)(W1:World)(R:World->Prop)(D:Nat->Bool)(φ:Nat->Value)(W:World):Prop where
 grown:D 10=false->W1.grownBy W sv.ownBlock
 own:D 7=false->W.ownsRow base 234 5 sv n xs
 one:D 6=true->D 7=false-> ∃g,φ 10= .slice (some (ae g 0)) 1 1/\W.heap[g]? =ah (iv f) 234
 app:D 7=true->D 10=false->W.ownsRow base 234 5 (φ 11) (n+1) (xs++(iv f).toList)/\((φ 11).ownBlock=sv.ownBlock\/ ∃g,(φ 11).ownBlock=some g/\W1.heap.size<=g)
 fin:D 10=true->R W
theorem Ko (w0:World)(gm:Nat)(mp:Value)(S:List (In×Value))(f:In×Value)(W:World)(h:WsC w0 gm mp S W)(hS:S.length<=1000)(hf: ∃p n c,f.2= .slice p n c):
  Calls prog 178 #[ab gm 0,.agg (iv f)] W fun e W'=>e= .returned (.tuple #[])/\WsC w0 gm mp (S++[f]) W'/\(∀(q:Nat) (c:Array Value) (T:TypeId),W.heap[q]? =ah c T->T≠234->q≠gm->W'.heap[q]? =ah c T)/\Fr2 gm W W':=by
 obtain⟨hbel,hgt,sv,nM0,own0⟩:=h;obtain⟨i0,hi,hz0,hz1,hz2⟩:=iW Kn;have HZ:=aY hz0;have HFS0:=aY hf;clear hf;have bB:=am W (.cells (iv f) 234);have nB0:=aC W (.cells (iv f) 234);have nM:=ai bB nM0;have own1:=g6 own0 bB;have HRB:=aY (oh nM0);have HBW:P3 (∀q,q<W.heap.size->(W.alloc (.cells (iv f) 234)).heap[q]? =W.heap[q]?):=fun q hq=>bB.block q hq;have HSW:P3 (W.heap.size<=(W.alloc (.cells (iv f) 234)).heap.size):=bB.size;have hneM:=jY own1 nM (by decide)
 have hneB:some W.heap.size≠sv.ownBlock:=fun e=>by
  have:=(own0.lt _ e.symm).2;omega
 have hb1:=au hbel bB;have hb0:=hb1.size;obtain⟨p0,c0,hsv⟩:=bU own0;subst hsv;have HFR:P3 (∀(q:Nat) (c:Array Value) (T:TypeId),W.heap[q]? =ah c T->(W.alloc (.cells (iv f) 234)).heap[q]? =ah c T):=fun q c T hq=>ai bB hq;obtain⟨gb,hgb⟩:=aq W.heap.size;generalize hwB:W.alloc (.cells (iv f) 234)=wB at*;rw[hgb]at hneB;have nB:wB.heap[gb]? =ah (iv f) 234:=by rw[<-hgb];exact nB0
 clear hz0 nB0 nM0 own0 bB hbel;go_enter func178,ntmps178;go_wp2_with fail;clear hwB;obtain⟨R,hR⟩: ∃R:World->Prop,R=fun W'=>WsC w0 gm mp (S++[f]) W'/\(∀(q:Nat) (c:Array Value) (T:TypeId),W.heap[q]? =ah c T->T≠234->q≠gm->W'.heap[q]? =ah c T)/\Fr2 gm W W':=⟨_,rfl⟩
 have HR:=aY hR
 have HRb:P3 (∀W W',ao W W'->R W->R W'):=by
  subst hR;rintro W1 W' hb ⟨h1,h2,h3⟩;obtain⟨_,_,_,hgm,_⟩:=id h1;exact⟨h1.below hb,fun q c T a b d=>(hb.block _ (aF (h2 q c T a b d))).trans (h2 q c T a b d),h3.trans (Fr2.below (aF hgm) hb)⟩
 clear hR;refine dt (Lh w0.heap.size (.slice p0 S.length c0) S.length (i7 S) f wB R) [kn 4 (ab gm 0),kn 5 (ab gm 0),kn 6 (ab gm 0),kn 7 (ab gm 1),kn 8 (.slice p0 S.length c0),kn 9 (.agg (iv f)),td 10,td 11,kn 12 (ab gm 0),kn 13 (ab gm 1),nk] (fun _=>⟨fun _=>⟨rfl,rfl,rfl,aA _,fun _ _ _=>rfl⟩,fun _=>own1,(fun h=>by cases h),(fun h=>by cases h),(fun h=>by cases h)⟩) (fun _ _ _ _ hb h=>⟨fun e=>oG (h.grown e) hb,fun e=>g6 (h.own e) hb,fun e e'=>(h.one e e').imp fun _ q=>⟨q.1,ai hb q.2⟩,fun e e'=>⟨g6 (h.app e e').1 hb,(h.app e e').2⟩,fun e=>HRb.o _ _ hb (h.fin e)⟩) (by kernel_rfl) (fun D φ W2 hJ hcl F l hl hF=> ?_) (fun D φ W2 hM hJ=> ?_)
 ·simp only[kn,td,nk,dN,aQ,aW,Act.put,aB,aI,aH]at hl;subst hl;simp only[dg,Nat.reduceAdd]at hF
  have h10:D 7=false->D 10=false:=fun h7=>by
   cases h:D 10 with
   |false=>rfl
   |true=>rw[hcl 10 _ rfl h ⟨7,.data⟩ (by simp) rfl rfl]at h7;cases h7
  dsimp only[kn,td,nk,dC,en,dS,Act.put];and_intros;all_goals first|exact trivial|intro hw hn hm K hK
  all_goals try (go_simp;with_reducible exact hK _ _ ⟨rfl,aG _ _⟩)
  ·have nM2:=((hJ.grown (h10 (hn 7 _ rfl (by kernel_rfl)))).block _ (aF nM) hneM).trans nM;have z2:=ak 1 nM2;go_simp;exact hK _ _ ⟨rfl,aG _ _⟩
  ·have no7:D 7=false:=by
    cases h:D 7 with
    |false=>rfl
    |true=>
     have:=hn 6 _ rfl (by kernel_rfl);rw[hcl 7 _ rfl h ⟨6,.data⟩ (by simp) rfl rfl]at this;cases this
   have nB2:=((hJ.grown (h10 no7)).block _ (aF nB) hneB).trans nB;refine d9 234 _ rfl _ (by simp[Act.eval,hF]) _ _ _ _ nB2 vT rfl (by kernel_rfl) ?_;exact hK _ _ ⟨rfl,aG _ _⟩
  ·have hb:=am W2 (.cells (iv f) 234);have no7:=hn 7 _ rfl (by kernel_rfl);refine Ic _ rfl f HFS0.o (by simp[Act.eval,hF]) ?_;exact hK _ _ ⟨trivial,fun _=>oG (hJ.grown (h10 no7)) hb,fun _=>g6 (hJ.own no7) hb,fun _ _=>⟨_,dI ..,aC W2 _⟩,(fun h=>by simp[no7]at h),(fun h=>by simp[h10 no7]at h)⟩
  ·obtain⟨g,e10,hh⟩:=hJ.one (hw ⟨6,.data⟩ (by simp) rfl rfl) hm;have hG:=hJ.grown (h10 hm);rw[e10]at hF;refine sM _ _ 203 rfl w0.heap.size 234 i0 _ 5 56 Ib hi HZ.o hz1 hz2 rfl (by decide) (.slice p0 S.length c0) S.length (i7 S) (by simp[Act.eval,hF]) (hJ.own hm) ⟨g,0,none⟩ 1 1 (iv f).toList (by simp[Act.eval,hF]) (DX f) ?c1 ?c2 (by unfold maxLen;omega) (by omega) ?c5 ?_
   case c1=>
    intro q u hq;rw[uB];exact(aV _ _ _ _ _ _ hh).trans (by rw[bK,<-bo];exact hq)
   case c2=>
    intro u hu;have:=Oe HFS0.o;rw[Array.all_eq_true_iff_forall_mem]at this;exact this u (Array.mem_def.2 hu)
   case c5=>exact a6 hb0 hG.size
   intro v' W' hown hgrow hblk;exact hK _ _ ⟨trivial,fun _=>vf hG hgrow,(fun e=>by simp at e),(fun _ e=>by simp at e),fun _ _=>by rw[dI];exact⟨hown,hblk.imp id fun e=>⟨_,e,hG.size⟩⟩,(fun e=>by simp[h10 hm]at e)⟩
  ·have q7:=hw ⟨7,.data⟩ (by simp) rfl rfl;obtain⟨own7,blk7⟩:=hJ.app q7 hm;have hG:=hJ.grown hm;obtain⟨p7,c7,hv7⟩:=bU own7;rw[hv7]at hF own7 blk7;have nM2:=(hG.block _ (aF nM) hneM).trans nM;have z2:=ak 1 nM2;have y2:=bl _ _ 1 _ _ nM2;have hne7:=jY own7 nM2 (by decide);have nS:(W2.setCell ⟨gm,1,none⟩ (.slice p7 (S.length+1) c7)).heap[gm]? =ah #[mp,.slice p7 (S.length+1) c7] 205:=aX W2 gm 1 _ _ _ nM2
   have bS:ao w0 (W2.setCell ⟨gm,1,none⟩ (.slice p7 (S.length+1) c7)):=by
    refine Below.setCell (p:=⟨gm,1,none⟩) ⟨hG.os.trans hb1.os,hG.tape.trans hb1.tape,hG.output.trans hb1.output,a6 hb1.size hG.size,fun q hq=> ?_⟩ hgt _;refine(hG.block q (aO hq hb1.size) fun e=> ?_).trans (hb1.block q hq);have:=(own1.lt _ e.symm).1;omega
   have own8:(W2.setCell ⟨gm,1,none⟩ (.slice p7 (S.length+1) c7)).ownsRow w0.heap.size 234 5 (.slice p7 (S.length+1) c7) (S++[f]).length (i7 (S++[f])):=by
    rw[Fk,aL,dX];refine own7.kept (row:=some gm) ⟨rfl,rfl,rfl,by simp,fun q hq hr=>aN W2 ⟨gm,1,none⟩ q _ fun e=>hr (congrArg some e)⟩ (.inr fun e=>hne7 e.symm)
   have hf2:Fr2 gm W (W2.setCell ⟨gm,1,none⟩ (.slice p7 (S.length+1) c7)):=by
    refine⟨fun q hq hne hr=> ?_,?_,?_⟩
    ·refine(aN W2 ⟨gm,1,none⟩ q _ hne).trans ((hG.block q (aO hq HSW.o) fun e=> ?_).trans (HBW.o q hq));exact hr (HRB.o.trans e.symm)
    ·rw[oh nS,HRB.o];exact blk7.imp id fun⟨g,e,hg⟩=>⟨g,e,a6 HSW.o hg⟩
    ·have h1:=HSW.o;have h2:=hG.size;simp;omega
   have HJ:P3 (∀φ',Lh w0.heap.size (.slice p0 S.length c0) S.length (i7 S) f wB R (fun k=>decide (10=k)||D k) φ' (W2.setCell ⟨gm,1,none⟩ (.slice p7 (S.length+1) c7))):=fun _=>⟨(fun h=>by simp at h),(fun h=>by simp[q7]at h),(fun _ h=>by simp[q7]at h),(fun _ h=>by simp at h),fun _=>by rw[HR.o];exact⟨⟨bS,hgt,_,nS,own8⟩,fun q c T hq hT hne=>(by
    have h1:=HFR.o q c T hq;exact(aN W2 ⟨gm,1,none⟩ q _ hne).trans ((hG.block _ (aF h1) (jY own1 h1 hT)).trans h1)),hf2⟩⟩
   clear own7 own8 nS bS hJ hf2;go_simp;exact hK undef _ ⟨trivial,HJ.o _⟩
 ·have hn:=hJ.fin (hM 10 (by decide) rfl);rw[HR.o]at hn;have HN:=aY hn;simp only[kn,td,nk,dP,aQ,aW,Act.put,aB,aI,aH];clear hM hJ hn;go_wp2_with fail;exact⟨rfl,_,dY rfl _ _ _,rfl,HN.o⟩
structure Got where
 m:M
 l:List Kp
 n:Int
 er:Int
 at_:Nat
def jK (cs:List Cd)(l:List Kp)(runs ver rule day:Int):Got:=
 if nT l ver rule day=true then⟨(l.getD (gX rule day l 0).toNat k0).m,fT l (gX rule day l 0)++[l.getD (gX rule day l 0).toNat k0],runs,0,0⟩
 else if(iU cs rule day).1≠0 then⟨fun _=>false,[],0,(iU cs rule day).1,(iU cs rule day).2⟩
 else⟨oY cs rule day,uD (fT l (gX rule day l 0)++[⟨rule,day,ver,oY cs rule day⟩]),IntKind.i64.wrap (runs+1),0,0⟩
theorem MO (cs:List Cd)(l:List Kp)(cv lv:Value)(runs ver rule day:Int)(w:World)(h:dM 0 w cv l)(hl:l.length<=676622540150)(hin:InV w lv cs):
  Calls prog 159 #[.agg #[cv,ag runs],lv,ag ver,ag rule,ag day] w (yF (jK cs l runs ver rule day).m (jK cs l runs ver rule day).l (jK cs l runs ver rule day).n (jK cs l runs ver rule day).er ((jK cs l runs ver rule day).at_:Int) w):=by
 unfold jK;by_cases hh:nT l ver rule day=true
 ·rw[ay hh];exact Ml l cv lv runs ver rule day w h hl hh
 ·rw[aw hh];have hm:nT l ver rule day=false:=Bool.eq_false_iff.2 hh;by_cases he:(iU cs rule day).1≠0
  ·rw[ay he];exact Hj cs l cv lv runs ver rule day w h hl hin hm he
  ·rw[aw he];exact Mm cs l cv lv runs ver rule day w h hl hin hm (Classical.not_not.1 he)
namespace Mx
end Mx
section
theorem vY (w:World)(ty:TypeId)(base p:Option Addr)(n cap c:Nat)(hle:n<=cap):(Builtin.append_ #[24,24] ty #[.slice base n cap,.slice p 0 c]).run prog w= .ok (.slice base n cap) w:=by
 obtain⟨i0,hi,hz0,hz1,hz2⟩:=pL oc;cases base<;>cases p<;>simp[Builtin.append_,fX sw,sizeOf,typeInfo,hi,hle,Builtin.lenOf,Builtin.firstCells,storeCells,loadCells,loadCellsFrom]
theorem Fv {w:World}{B:Nat}{e:TypeId}{size:Nat}{v:Value}{n:Nat}{xs:List Value}(h:w.ownsRow B e size v n xs): ∃(q:Option Addr) (c:Nat),v= .slice q n c/\n<=c:=by
 rcases h.2 with⟨e,hn⟩|⟨_,_,_,e,_,_,hc,_⟩
 ·exact⟨_,_,by rw[e,hn],by omega⟩
 ·exact⟨_,_,e,hc⟩
section
variable {ops:Array Oper} {rest:List Oper} {op:Oper} {a:Act} {w:World} {Q:Exit->Act->World->Prop}
theorem oV (hgd:op.guard=none)(s x:Operand)(ho:op.op= .call {callee:= .builtin .append,args:= #[s,x],argTypes:= #[24,24]})(base:Nat)(l t:List Int)(v vx:Value)(hs:a.eval s=v)(hown:w.ownsRow base 3 1 v l.length (c8 l))(hx:a.eval x=vx)(hk:dQ w vx t)(hS:l.length+t.length<=1000000)(hb:base<=w.heap.size)
  (h: ∀v' w',w'.ownsRow base 3 1 v' (l++t).length (c8 (l++t))->w.grownBy w' v.ownBlock->wpList prog ops Q rest (a.put op.dst v') w'):wpList prog ops Q (op::rest) a w:=by
 obtain⟨p,c,e,hlc,hr⟩:=hk;subst e;by_cases hl:t=[]
 ·subst hl;obtain⟨p1,c1,e1,hn1⟩:=Fv hown;subst e1;rw[gZ]at h;refine Go.Lib.wpList_append_run w hgd s x _ _ ho _ _ hs hx _ _ (vY w _ p1 p _ c1 c hn1) (h _ _ hown ⟨rfl,rfl,rfl,aA _,fun _ _ _=>rfl⟩)
 ·have h0:0<t.length:=List.length_pos_iff.2 hl;obtain⟨g,o,hp,_⟩:=hr 0 t[0] (ax h0);subst hp;obtain⟨i0,hi,hz0,hz1,hz2⟩:=pL oc;refine iK (w:=w) hgd s x 24 ho base 3 i0 _ 1 8 sw hi hz0 hz1 hz2 rfl (by decide) v l.length (c8 l) hs hown ⟨g,o,none⟩ t.length c (c8 t) hx (by rw[kb,Nat.mul_one]) ?_ ?_ (by unfold maxLen;omega) (by omega) hb fun v' w' h1 h2 _=> ?_
  ·intro q u hq;unfold c8 at hq;rw[bg]at hq;cases hx2:t[q]? with
   |none=>rw[hx2]at hq;cases hq
   |some z=>
    rw[hx2]at hq;cases aK hq;obtain⟨g',o',e',hc'⟩:=hr q z hx2;cases e';rcases Nat.eq_zero_or_pos q with h0|h0
    ·subst h0;simpa[Addr.add] using hc'
    ·simpa[Addr.add,Nat.ne_of_gt h0] using hc'
  ·intro u hu;unfold c8 at hu;rw[dw]at hu;obtain⟨z,_,rfl⟩:=hu;rfl
  ·refine h v' w' ?_ h2;rw[aL];unfold c8 at h1⊢;rw[dh];exact h1
theorem De (W:World):(Instr.buildSlice 24 0 #[]).run prog W= .ok (.slice (some (ae W.heap.size 0)) 0 0) (W.alloc (.cells #[] 3)):=by
 kernel_rfl
theorem sT (hg:op.guard=none)(ho:op.op= .buildSlice 24 0 #[])(h:wpList prog ops Q rest (a.put op.dst (.slice (some (ae w.heap.size 0)) 0 0)) (w.alloc (.cells #[] 3))):wpList prog ops Q (op::rest) a w:=
 wpList_plain hg fun _ hK=>by
  unfold Oper.wp execOp;have hb:=De w;simp only[ho,iR,eO,jF,kE,gW,hb];exact hK _ _ h
end
theorem Iq (w:World){g:Nat}(h:w.heap[g]? =ah #[] 3)(B:Nat)(hB:B<=g):w.ownsRow B 3 1 (.slice (some (ae g 0)) ([]:List Int).length 0) ([]:List Int).length (c8 []):=
 ⟨rfl,.inr ⟨g,0,#[],rfl,hB,h,aA _,df _,rfl,rfl⟩⟩
theorem Ca {w:World}{g:Nat}{n:Int}(h:w.heap[g]? =ah #[ag n] 3):dQ w (.slice (some (ae g 0)) 1 1) [n]:=
 ⟨_,_,rfl,by simp,fun j m hj=>⟨g,0,rfl,by
   match j,hj with
   |0,hj=>cases aK hj;exact ak 0 h
   |j+1,hj=>simp at hj⟩⟩
theorem kV.low {B B':Nat}{w:World}{v:Value}{vs:List Value}{ls:List (List Int)}(h:kV B' w v vs ls)(hB:B<=B'):kV B w v vs ls:=
 ⟨qr h.o hB,h.len,fun i sv l h1 h2=>qr (h.each i sv l h1 h2) hB⟩
theorem kV.first {B:Nat}{w:World}{v:Value}{vs:List Value}{who:List Int}{ts:List (List Int)}(h:kV B w v vs (who::ts)): ∃(g c:Nat) (sv:Value),v= .slice (some (ae g 0)) (ts.length+1) c/\w.cell? (ae g 0)=some sv/\w.ownsRow B 3 1 sv who.length (c8 who):=by
 have hl:vs.length=ts.length+1:=h.len;rcases h.o.2 with⟨_,e⟩|⟨g,cap,cur,e,_,hg,_,_,_,ht⟩
 ·omega
 ·have h0:0<vs.length:=by omega
  have hv:vs[0]? =some vs[0]:=ax h0;refine⟨g,cap,vs[0],by rw[e,hl],?_,h.each 0 _ who hv rfl⟩;rw[aV w g 0 cur _ (0,0) hg,<-bo]
  have e:(vs:List Value)[0]? =cur.toList[0]? :=by
   have h1:=congrArg (fun l:List Value=>l[0]?) ht;rw[Nat.mul_one,dA h0]at h1;exact h1.symm
  rw[<-e,hv]
def okB (bs:List Bool)(r:Int):Bool:=bs.getD r.toNat false
end
namespace Lx
def Co (ts:List T1)(r:List Tk):Prop:=0<r.length\/ts=[]
theorem Co.up {ts:List T1}{r q:List Tk}(h:Co ts r)(hl:r.length<=q.length):Co ts q:=by
 rcases h with h|h
 ·exact .inl (by omega)
 ·exact .inr h
end Lx
theorem D1 {r d:Int}: ∀(l:List Kp) (j:Nat),0<=gX r d l j-> ∃(n:Nat) (k:Kp),gX r d l j=(j:Int)+n/\l[n]? =some k/\k.r=r/\k.d=d
 |[],j,h=>by
  have:gX r d [] j= -1:=rfl;omega
 |k::l,j,h=>by
  by_cases hk:k.r=r/\k.d=d
  ·refine⟨0,k,?_,rfl,hk.1,hk.2⟩;rw[gX,ay hk];omega
  ·rw[gX,aw hk]at h⊢;obtain⟨n,k',e,h1,h2,h3⟩:=D1 l (j+1) h;exact⟨n+1,k',by rw[e];omega,h1,h2,h3⟩
theorem On {l:List Kp}{v r d:Int}(h:nT l v r d=true): ∃(n:Nat) (k:Kp),gX r d l 0=(n:Int)/\l[n]? =some k/\k.r=r/\k.d=d/\k.v=v/\l.getD (gX r d l 0).toNat Vx.k0=k:=by
 unfold nT at h;rw[bq,bH,bH]at h;obtain⟨n,k,e,h1,h2,h3⟩:=D1 l 0 h.1;have e':gX r d l 0=(n:Int):=by rw[e];omega
 have e2:l.getD (gX r d l 0).toNat Vx.k0=k:=by rw[e',cg];simp[List.getD,h1]
 exact⟨n,k,e',h1,h2,h3,by rw[<-e2];exact h.2,e2⟩
end Go.Proofs.YtjkilacmkbmmbaaGreatDoor
