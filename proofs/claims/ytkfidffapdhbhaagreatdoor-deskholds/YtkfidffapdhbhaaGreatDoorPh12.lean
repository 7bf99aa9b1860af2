/- Texts of the proof. -/
import Derived.Test.YtkfidffapdhbhaaGreatDoorPh11
import Derived.Test.YtkfidffapdhbhaaGreatDoorPh10
import Derived.Lib.SmallJoins
set_option maxRecDepth 100000
set_option maxHeartbeats 8000000
namespace Go.Proofs.YtkfidffapdhbhaaGreatDoor
open Go.Proofs.Tryz Go.RowKit Lx Vx Mx Msk
def fR (f:Nat->Bool)(x y:Int):Bool:=decide (0<=x)&&decide (y<=1440)&&decide (x<=y)&&eqm (fun i=>(inl [(x,y)] i&& !f i)&&decide (i<1440)) fun _=>false
theorem tL (f:Nat->Bool)(x y:Int)(w:World):
  Calls prog 35 #[.agg (mv f),.agg #[ag x,ag y]] w fun e w'=>e= .returned (.bool (fR f x y))/\aq w w':=by
 have hz:=eG;have hb0:aq w ((w.alloc (.cells (mv f) 86)).alloc (.cells #[ag x,ag y] 89)):=(am _ _).alloc (by simp) _;have h1:((w.alloc (.cells (mv f) 86)).alloc (.cells #[ag x,ag y] 89)).heap[w.heap.size]? =ah (mv f) 86:=by(repeat (first|refine dj _ _ _ (by simp only[aU];omega) ?_|exact dz _ _ _ (by first|rfl|simp only[aU])))
 have h2:((w.alloc (.cells (mv f) 86)).alloc (.cells #[ag x,ag y] 89)).heap[w.heap.size+1]? =ah #[ag x,ag y] 89:=by(repeat (first|refine dj _ _ _ (by simp only[aU];omega) ?_|exact dz _ _ _ (by first|rfl|simp only[aU])))
 have fl: ¬(0<=x/\y<=1440/\x<=y)->fR f x y=false:=fun h=>by
  unfold fR;by_cases h1:0<=x<;>by_cases h2:y<=1440<;>by_cases h3:x<=y<;>simp[h1,h2,h3]at h⊢
 by_cases hc:0<=x/\y<=1440/\x<=y
 case neg=>
  rw[fl hc];clear fl;go_enter func35,ntmps35;by_cases hx:x<0
  case' neg=>
   by_cases hy:1440<y;case' neg=>have hxy:y<x:=by omega
  all_goals
   go_wp2
   go_ret
   exact⟨rfl,hb0⟩
 case pos=>
  obtain⟨hx',hy',hxy'⟩:=hc;have e:fR f x y=eqm (fun i=>(inl [(x,y)] i&& !f i)&&decide (i<1440)) fun _=>false:=(by unfold fR;simp[hx',hy',hxy']);rw[e];clear e fl;have he:=LR (fun i=>(inl [(x,y)] i&& !f i)&&decide (i<1440)) (fun _=>false);generalize hw0:(w.alloc (.cells (mv f) 86)).alloc (.cells #[ag x,ag y] 89)=w0 at*;have y0:=ak 0 h2;have y1:=ak 1 h2;go_enter func35,ntmps35;go_wp2;refine dn (fun M φ W=>aq w0 W/\(M 1=true-> ∃g,φ 21= .slice (some (ae g 0)) 1 1/\W.heap[g]? =ah #[ag x,ag y] 89)) [kn 20 (.agg #[ag x,ag y]),td 21,kn 22 (.agg (mv (inl [(x,y)]))),kn 23 (.agg (mv f)),kn 24 (.agg (mv fun i=>(inl [(x,y)] i&& !f i)&&decide (i<1440))),kn 25 (.agg (mv fun _=>false)),kn 26 (.bool (eqm (fun i=>(inl [(x,y)] i&& !f i)&&decide (i<1440)) fun _=>false)),kn 4 (.bool (eqm (fun i=>(inl [(x,y)] i&& !f i)&&decide (i<1440)) fun _=>false))] (fun _=>⟨(aI _ _).drew,(fun h=>by cases h)⟩) (fun _ _ _ _ hb h=>⟨aw h.1 hb,fun c=>(h.2 c).imp fun _ q=>⟨q.1,ai hb q.2⟩⟩) (by kernel_rfl) (fun M φ W hJ hcl F l hl hF=> ?_) (fun M φ W hM hJ=> ?_)
  ·simp only[kn,td,dX,aR,aX,Act.put,aA,aK,aJ]at hl;subst hl;simp only[dc,Nat.reduceAdd]at hF;obtain⟨hJ,hT⟩:=hJ;dsimp only[kn,td,dC,eJ,eg,Act.put];and_intros;all_goals first|exact trivial|intro hw hn hm K hK
   all_goals try (go_simp;with_reducible exact hK _ _ ⟨rfl,aI _ _⟩)
   ·refine eo 89 _ rfl _ (by simp[Act.eval,hF]) _ _ _ _ (ai hJ h2) underlying89 rfl (by kernel_rfl) ?_;exact hK _ _ ⟨rfl,aI _ _⟩
   ·have hb:=am W (.cells #[ag x,ag y] 89);go_simp;exact hK _ _ ⟨trivial,aw hJ hb,fun _=>⟨_,dD ..,aE W _⟩⟩
   ·obtain⟨g,e21,hg⟩:=hT (hw ⟨1,.data⟩ (by simp) rfl rfl);rw[e21]at hF;go_simp;refine(tw _ _ _ (Hd hg)).mono ?_;rintro e W' ⟨rfl,hb⟩;exact hK _ _ ⟨rfl,hb⟩
   ·refine eo 86 _ rfl _ (by simp[Act.eval,hF]) _ _ _ _ (ai hJ h1) bV rfl (bh _) ?_;exact hK _ _ ⟨rfl,aI _ _⟩
   ·go_simp;refine(pY _ _ _).mono ?_;rintro e W' ⟨rfl,hb⟩;exact hK _ _ ⟨rfl,hb⟩
  ·simp only[kn,td,en,aR,aX,Act.put,aA,aK,aJ];have HB:PH (aq w W):=aw hb0 hJ.1;clear hM hJ hz he;go_wp2;go_ret;exact⟨rfl,HB.o⟩
theorem iI {w w':World}{g o:Nat}{xs:List Value}(h:w.rangeAt g o xs)(hb:aq w w'):w'.rangeAt g o xs:=fun j u hj=>(hb.cell (bP (h j u hj))).trans (h j u hj)
theorem L0 (f:Nat->Bool):(mv f).toList.length=23:=by rw[bQ];exact bO f
theorem zE {op:Oper}{a:Act}{w:World}{K:Act->World->Prop}{Q:Exit->Act->World->Prop}(x:Operand)(ho:op.op= .load 86 x)(b o:Nat)(hx:a.eval x=ab b o)(f:Nat->Bool)(hc:w.rangeAt b o (mv f).toList)(h:K (a.put op.dst (.agg (mv f))) w):op.wp prog a w K Q:=by
 refine wp_load_mid 86 x ho b o hx (mv f).toList _ hc bV rfl (by rw[L0];kernel_rfl) ?_;simpa using h
theorem Hf:prog.underlying 89=some (.struct (prog.fieldsOf 89)):=by kernel_rfl
def sA (w:World)(v:Value)(fs:List (Nat->Bool)):Prop:= ∃p c,v= .slice p fs.length c/\fs.length<9223372036854775808/\ ∀(j:Nat) (f:Nat->Bool),fs[j]? =some f-> ∃g o:Nat,p=some ⟨g,o,none⟩/\w.rangeAt g (o+j*23) (mv f).toList
theorem sA.below {w w':World}{v:Value}{fs:List (Nat->Bool)}(h:sA w v fs)(hb:aq w w'):sA w' v fs:=by
 obtain⟨p,c,h1,h2,h3⟩:=h;refine⟨p,c,h1,h2,fun j f hj=> ?_⟩;obtain⟨g,o,e,hr⟩:=h3 j f hj;exact⟨g,o,e,iI hr hb⟩
def okP (fs:List (Nat->Bool))(x y:Int)(r:Int):Bool:=fR (fs.getD r.toNat fun _=>false) x y
theorem lT {α:Type}{l:List α}{i:Nat}{x:α}(h:l[i]? =some x):l.take (i+1)=l.take i++[x]:=by
 obtain⟨h1,h2⟩:=aF.1 h;rw[fD,h];rfl
theorem zI {l m:List Int}{x:Int}(h:l++[x]=m):m.length=l.length+1:=by rw[<-h];simp
theorem xB {w1 wB w3:World}{v v':Value}{n:Nat}{xs:List Value}{C:Prop}(hb:aq w1 wB)(ho:wB.ownsRow w1.heap.size 3 1 v n xs)(hc:(v'.ownBlock=v.ownBlock/\wB.grownBy w3 v.ownBlock/\C)\/(wB.grownBy w3 none/\ ∃g,v'.ownBlock=some g/\wB.heap.size<=g)):aq w1 w3:=by
 rcases hc with⟨_,h,_⟩|⟨h,_⟩
 ·exact gY hb h (aB _) (fun k hk=>(ho.lt k hk).1)
 ·exact gY hb h (aB _) (fun k hk=>by cases hk)
theorem BM:prog.underlying 39=some (.slice 34):=by kernel_rfl
theorem JV:(prog.info? 34).map (fun i=>(i.zero,i.size,i.bytes))=some (some (af),1,24):=by kernel_rfl
structure lm (B:Nat)(w:World)(v:Value)(vs:List Value)(ls:List (List Int)):Prop where
 o:w.ownsRow B 34 1 v vs.length vs
 len:vs.length=ls.length
 each: ∀(i:Nat) (sv:Value) (l:List Int),vs[i]? =some sv->ls[i]? =some l->w.ownsRow B 3 1 sv l.length (dp l)
theorem lm.below {B:Nat}{w w':World}{v:Value}{vs:List Value}{ls:List (List Int)}(h:lm B w v vs ls)(hb:aq w w'):lm B w' v vs ls:=
 ⟨g7 h.o hb,h.len,fun i sv l h1 h2=>g7 (h.each i sv l h1 h2) hb⟩
theorem lm.row {B:Nat}{w:World}{v:Value}{vs:List Value}{ls:List (List Int)}(h:lm B w v vs ls)(hl:ls.length<9223372036854775808)(hs: ∀l∈ls,l.length<9223372036854775808):fk w v ls:=by
 rcases h.o.2 with⟨rfl,e⟩|⟨g,cap,cur,rfl,_,hg,_,_,_,ht⟩
 ·refine⟨none,0,by rw[<-h.len,e],hl,fun j n hj=> ?_⟩;have:=(aF.1 hj).1;rw[<-h.len]at this;omega
 ·refine⟨_,cap,by rw[h.len],hl,fun j l hj=> ?_⟩;have hj':=(aF.1 hj).1;rw[<-h.len]at hj';have hv:vs[j]? =some vs[j]:=az hj';refine⟨g,0,vs[j],rfl,?_,qy (h.each j _ l hv hj) (hs l (aM hj))⟩;rw[bN,aZ w g j cur _ (0,0) hg,<-bp]
  have e:(vs:List Value)[j]? =cur.toList[j]? :=by
   have h1:=congrArg (fun l:List Value=>l[j]?) ht;rw[Nat.mul_one,dI hj']at h1;exact h1.symm
  rw[<-e,hv]
theorem lm.snoc {B:Nat}{w w':World}{v v' sv:Value}{vs:List Value}{ls:List (List Int)}{l:List Int}(h:lm B w v vs ls)(hs:w.ownsRow B 3 1 sv l.length (dp l))(ho:w'.ownsRow B 34 1 v' (vs.length+1) (vs++[sv]))(hg:w.grownBy w' v.ownBlock):lm B w' v' (vs++[sv]) (ls++[l]):=by
 have far: ∀(u:Value) (m:List Int),w.ownsRow B 3 1 u m.length (dp m)->w'.ownsRow B 3 1 u m.length (dp m):=fun u m hu=>by
  refine hu.kept hg ?_;cases hb:u.ownBlock with
  |none=>exact .inl rfl
  |some k=>
   refine .inr fun e=> ?_;rcases hu.2 with⟨rfl,_⟩|⟨g,cap,cur,rfl,_,hgg,_⟩
   ·cases hb
   ·have hk:k=g:=(by simpa[Value.ownBlock] using hb.symm);subst hk;exact qN h.o hgg (by decide) e.symm
 refine⟨by simpa using ho,by simp[h.len],fun i u m h1 h2=> ?_⟩;by_cases hi:i<vs.length
 ·rw[du hi]at h1;rw[du (by rw[<-h.len];exact hi)]at h2;exact far u m (h.each i u m h1 h2)
 ·rw[dh (by omega)]at h1;rw[dh (by rw[<-h.len];omega),<-h.len]at h2
  have e:i-vs.length=0:=by
   have:=(aF.1 h1).1;simp at this;omega
  rw[e]at h1 h2;simp at h1 h2;subst h1 h2;exact far _ _ hs
theorem nh {w:World}{B:Nat}{e:TypeId}{size:Nat}{v:Value}{n:Nat}{xs:List Value}(h:w.ownsRow B e size v n xs): ∃(q:Option Addr) (c:Nat),v= .slice q n c:=by
 rcases h.2 with⟨e,hn⟩|⟨_,_,_,e,_⟩
 ·exact⟨_,_,by rw[e,hn]⟩
 ·exact⟨_,_,e⟩
theorem qz {w:World}{B B':Nat}{e:TypeId}{size:Nat}{v:Value}{n:Nat}{xs:List Value}(h:w.ownsRow B' e size v n xs)(hB:B<=B'):w.ownsRow B e size v n xs:=by
 refine⟨h.1,?_⟩;rcases h.2 with hn|⟨g,cap,cur,e1,hb,rest⟩
 ·exact .inl hn
 ·exact .inr ⟨g,cap,cur,e1,bf hB hb,rest⟩
theorem Au (roles:List (List Int))(rv:Value)(fs:List (Nat->Bool))(fv:Value)(x y:Int)(w:World)(hR:fk w rv roles)(hF:sA w fv fs)(hin: ∀p∈roles,p.length<=1000/\ ∀r∈p,0<=r/\r<(fs.length:Int))(hrl:roles.length<=1000):
  Calls prog 79 #[rv,fv,.agg #[ag x,ag y]] w fun e w'=> ∃v,e= .returned v/\fk w' v (kQ (okP fs x y) roles)/\aq w w':=by
 have bA:=am w (.cells #[ag x,ag y] 89);have nA:=aE w (.cells #[ag x,ag y] 89);generalize hwA:w.alloc (.cells #[ag x,ag y] 89)=wA at*;have HR:=bK (hR.below bA);have HF:=bK (hF.below bA);have HB:=bK bA;have HIN:=bK hin;have hlA:w.heap.size<wA.heap.size:=aH nA;obtain⟨pr,cr,rfl,hlr,_⟩:=hR;obtain⟨pf,cf,rfl,hlf,_⟩:=hF;go_enter func79,ntmps79
 go_wp2_with fail;go_loopw [7,9,10,12,15] (fun a _ _ _ t wr=> ∃(j:Nat) (vs:List Value) (qo:Option Addr) (co:Nat),a= .slice qo vs.length co/\t=ag (j:Int)/\j<=roles.length/\PH (lm wA.heap.size wr (.slice qo vs.length co) vs (kQ (okP fs x y) (roles.take j)))/\PH (aq wA wr)) (fun _ _ _ _ t _=>roles.length-(intOf t).toNat);case atStart=>exact⟨0,[],_,_,rfl,rfl,by omega,⟨cY _ _ _ _,rfl,fun i sv l h _=>by simp at h⟩,aI _ _⟩
 case round=>
  obtain⟨j,vs,qo,co,rfl,rfl,hj,HO,HBr⟩:=hrel;have hj0:(0:Int)<=(j:Int):=(by omega);by_cases hlt:j<roles.length
  ·have hlt':(j:Int)<(roles.length:Int):=(by omega);obtain⟨role,hjr⟩: ∃r,roles[j]? =some r:=⟨roles[j],az hlt⟩
   obtain⟨_,_,e1,_,hall⟩:=HR.o;cases e1;obtain⟨gr,or,sv,hpe,hc0,hrow0⟩:=hall j _ hjr;subst hpe;have hc:=aj HBr.o hc0;obtain⟨ar,ac,rfl,hlrole,hcells⟩:=hrow0.below HBr.o;have HC:=bK hcells;have HJR:=bK hjr;have HIR:=bK (HIN.o role (aM hjr));have hrole:role.length<=1000:=HIR.o.1
   have HSM:PH (∀i:Nat,((role.take i).filter (okP fs x y)).length<=1000000):=fun i=>by
    have h2:=List.length_filter_le (okP fs x y) (role.take i);have h3:=List.length_take_le' i role;omega
   obtain⟨w1,hw1⟩: ∃q,q=wr:=⟨_,rfl⟩
   have n50:=(HBr.o.block _ hlA).trans nA;have HFr:=bK (HF.o.below HBr.o);rw[<-hw1]at n50 HFr HC;have HBr1:PH (aq wA w1):=(by rw[hw1];exact HBr);have HO1:PH (lm wA.heap.size w1 (.slice qo vs.length co) vs (kQ (okP fs x y) (roles.take j))):=(by rw[hw1];exact HO);have HW1:=bK hw1;go_wp2_with fail;go_loopw [10,12,21] (fun a _ t W=> ∃(i:Nat) (qc:Option Addr) (cc:Nat),a= .slice qc ((role.take i).filter (okP fs x y)).length cc/\t=ag (i:Int)/\i<=role.length/\PH (W.ownsRow w1.heap.size 3 1 (.slice qc ((role.take i).filter (okP fs x y)).length cc) ((role.take i).filter (okP fs x y)).length (dp ((role.take i).filter (okP fs x y))))/\PH (aq w1 W)) (fun _ _ t _=>role.length-(intOf t).toNat);case atStart=>exact⟨0,none,0,rfl,rfl,by omega,cY _ _ _ _,by rw[HW1.o];exact aI _ _⟩
   case round=>
    obtain⟨i,qc,cc,rfl,rfl,hi,HOc,HBc⟩:=hrel;have hi0:(0:Int)<=(i:Int):=(by omega);by_cases hlti:i<role.length
    ·have hlti':(i:Int)<(role.length:Int):=(by omega);obtain⟨r,hir⟩: ∃r,role[i]? =some r:=⟨role[i],az hlti⟩
     obtain⟨h1,h2⟩:=HIR.o.2 r (aM hir);obtain⟨rn,hrn⟩: ∃rn:Nat,r=(rn:Int):=⟨r.toNat,by omega⟩
     subst hrn;obtain⟨f,hf⟩: ∃f,fs[rn]? =some f:=⟨fs[rn]'(by omega),az (by omega)⟩
     obtain⟨ga,oa,hpa,ca0⟩:=HC.o i _ hir;subst hpa;have ca:=aj HBc.o ca0;obtain⟨_,_,e3,_,hallf⟩:=HFr.o;cases e3;obtain⟨gf,of,hpf,rgf0⟩:=hallf rn f hf;subst hpf;have rgf:=iI rgf0 HBc.o;have n5:=ai HBc.o n50
     have HOK:PH (okP fs x y (rn:Int)=fR f x y):=by
      show _=_;unfold okP;rw[cZ];congr 1;simp[List.getD,hf]
     go_wp2_with fail;refine dn (fun _ _ W=>aq wr W) [kn 25 (.slice (some (ae gf of)) fs.length cf),kn 26 (ag (rn:Int)),kn 27 (ab gf (of+rn*23)),kn 28 (.agg (mv f)),kn 29 (.agg #[ag x,ag y]),kn 30 (.bool (fR f x y))] (fun _=>(aI _ _).drew) (fun _ _ _ _ hb h=>aw h hb) (by kernel_rfl) (fun M φ W2 hJ hcl FF ll hll hFF=> ?_) (fun M φ W5 hM hJ=> ?_)
     ·simp only[kn,dX,aR,aX,Act.put,aA,aK,aJ]at hll;subst hll;simp only[dc,Nat.reduceAdd]at hFF;dsimp only[kn,dC,eJ,eg,Act.put];and_intros;all_goals first|exact trivial|intro qw qn qm K hK
      all_goals try (go_simp;with_reducible exact hK _ _ ⟨rfl,aI _ _⟩)
      ·refine zE _ rfl gf (of+rn*23) (by simp[Act.eval,hFF]) f (iI rgf hJ) ?_;exact hK _ _ ⟨rfl,aI _ _⟩
      ·refine eo 89 _ rfl _ (by simp[Act.eval,hFF]) _ _ _ _ (ai hJ n5) Hf rfl (by kernel_rfl) ?_;exact hK _ _ ⟨rfl,aI _ _⟩
      ·go_simp;refine(tL f x y W2).mono ?_;rintro r' W' ⟨rfl,hb'⟩;exact hK _ _ ⟨rfl,hb'⟩
     ·simp only[kn,en,aR,aX,Act.put,aA,aK,aJ];have HO5:=bK (g7 HOc.o hJ);have HB5:=bK (aw HBc.o hJ);cases hok:fR f x y with
      |true=>
       have bA:=am W5 (.cells #[ag (rn:Int)] 3);have nA:=aE W5 (.cells #[ag (rn:Int)] 3);generalize hwA:W5.alloc (.cells #[ag (rn:Int)] 3)=wB at*;have zA:=ak 0 nA;have HOA:=bK (g7 HO5.o bA);have HBA:=bK (aw HB5.o bA)
       have HFt:PH (((role.take i).filter (okP fs x y))++[(rn:Int)]=(role.take (i+1)).filter (okP fs x y)):=by
        show _=_;rw[lT hir,List.filter_append];congr 1;rw[List.filter_cons,aD (by rw[HOK.o];exact hok)];rfl
       go_wp2_with(first
        |(refine lS rfl _ _ rfl w1.heap.size _ ((role.take i).filter (okP fs x y)) (rn:Int) rfl ?ho W5.heap.size 1 rfl zA ?hl ?hb ?_
          case ho=>exact HOA.o
          case hl=>exact HSM.o i
          case hb=>exact HBA.o.size
          intro v' w3 ho3 hcase))
       have HB3:=bK (xB HBA.o HOA.o hcase);have HO3:=bK ho3;go_wp2_with fail;go_roundw
       case rel=>
        have h3:=HO3.o;rw[HFt.o,<-zI HFt.o]at h3;obtain⟨q',c',hv'⟩:=nh h3;subst hv';exact⟨i+1,q',c',rfl,by go_num,by omega,h3,HB3⟩
       case measure=>simp[intOf];omega
      |false=>
       have HFt:PH ((role.take i).filter (okP fs x y)=(role.take (i+1)).filter (okP fs x y)):=by
        show _=_;rw[lT hir,List.filter_append,List.filter_cons,ax (by rw[HOK.o,hok];decide)];simp
       go_wp2_with fail;go_roundw
       case rel=>
        have h3:=HO5.o;rw[HFt.o]at h3;exact⟨i+1,qc,cc,by rw[HFt.o],by go_num,by omega,h3,HB5⟩
       case measure=>simp[intOf];omega
    ·have hlti': ¬(i:Int)<(role.length:Int):=(by omega);have hie:i=role.length:=(by omega)
     have HOe:PH (wr.ownsRow w1.heap.size 3 1 (.slice qc ((role.take i).filter (okP fs x y)).length cc) (role.filter (okP fs x y)).length (dp (role.filter (okP fs x y)))):=by
      have h:=HOc.o;rw[hie,cj (aB _)]at h⊢;exact h
     obtain⟨nl,hnl⟩:=au (((role.take i).filter (okP fs x y)).length);rw[hnl]at HOe⊢;have HBw:=bK (aw HBr1.o HBc.o);have HOO:=bK (HO1.o.below HBc.o);have bB:=am wr (.cells #[.slice qc nl cc] 34);have nB:=aE wr (.cells #[.slice qc nl cc] 34);generalize hwB:wr.alloc (.cells #[.slice qc nl cc] 34)=wB at*;have zB:=ak 0 nB;have HOB:=bK (HOO.o.below bB);have HcB:=bK (qz (g7 HOe.o bB) HBr1.o.size);have HBB:=bK (aw HBw.o bB)
     have HT:PH (kQ (okP fs x y) (roles.take j)++[role.filter (okP fs x y)]=kQ (okP fs x y) (roles.take (j+1))):=by
      show _=_;unfold kQ;rw[lT HJR.o,dT];rfl
     obtain⟨i0,hi0',hz0,hs0,hby0⟩:=oq JV;have HI:=bK hi0'
     have hvl:vs.length<=1000:=by
      rw[HOB.o.len];unfold kQ;rw[ba];have:=List.length_take_le' j roles;omega
     go_wp2_with(first
      |(refine iZ wB rfl _ _ 39 rfl wA.heap.size 34 i0 (af) 1 24 BM HI.o hz0 hs0 hby0 rfl (by decide) _ vs.length vs rfl HOB.o.o ⟨wr.heap.size,0,none⟩ 1 1 [.slice qc nl cc] rfl rfl ?hn ?h1 ?h63 ?hby ?hb ?_
        case hn=>
         intro q u hq
         match q,hq with
         |0,hq=>cases aN hq;simpa[Addr.add] using zB
         |q+1,hq=>simp at hq
        case h1=>simp[Value.oneCell']
        case h63=>unfold maxLen;omega
        case hby=>omega
        case hb=>exact HBB.o.size
        intro v' w3 ho3 hg3 _))
     have HO3:=bK (HOB.o.snoc HcB.o ho3 hg3);have HB3:=bK (gY HBB.o hg3 (aB _) (fun k hk=>(HOB.o.o.lt k hk).1));go_wp2_with fail;go_roundw
     case rel=>
      have h3:=HO3.o;rw[HT.o]at h3;have e1:(vs++[Value.slice qc nl cc]).length=vs.length+1:=(by simp);obtain⟨q',c',hv'⟩:=nh h3.o;subst hv';exact⟨j+1,_,q',c',rfl,by go_num,by omega,h3,HB3⟩
     case measure=>simp[intOf];omega
  ·have hlt': ¬(j:Int)<(roles.length:Int):=(by omega)
   have HRO:PH (fk wr (.slice qo vs.length co) (kQ (okP fs x y) roles)):=by
    have e:j=roles.length:=(by omega);have h:=HO.o;rw[e,cj (aB _)]at h;refine h.row (by unfold kQ;rw[ba];exact hlr) fun l hl=> ?_;unfold kQ at hl;rw[dU]at hl;obtain⟨p,hp,rfl⟩:=hl;have h1:=(HIN.o p hp).1;have h2:=List.length_filter_le (okP fs x y) p;omega
   have HBB:=bK (aw HB.o HBr.o);go_wp2_with fail;go_ret;exact⟨_,rfl,HRO.o,HBB.o⟩
theorem kK {w w':World}(h:Tab w)(hb:aq w w'):Tab w':=fun j hj=>(hb.cell (bP (h j hj))).trans (h j hj)
theorem zJ (f:Nat->Bool)(w:World)(hT:Tab w):
  Calls prog 95 #[.agg (mv f)] w fun e w'=>(∃v,e= .returned v/\w'.ownsRow w.heap.size 89 2 v (rs f 1440).length (iT (rs f 1440)))/\lC f 1440 (rs f 1440)/\aq w w':=by
 have hmf: ∀(fn:Fn) (first cap:Array Value) (w:World),(Instr.makeFunc fn first cap).run prog w= .ok (.func fn first cap) w:=fun _ _ _ _=>rfl;have hW1:((w.alloc (.cells (mv f) 86)).alloc (.cells #[af] 120)).heap[w.heap.size]? =ah (mv f) 86:=by(repeat (first|refine dj _ _ _ (by simp only[aU];omega) ?_|exact dz _ _ _ (by first|rfl|simp only[aU])))
 have hW2:((w.alloc (.cells (mv f) 86)).alloc (.cells #[af] 120)).heap[w.heap.size+1]? =ah #[af] 120:=by(repeat (first|refine dj _ _ _ (by simp only[aU];omega) ?_|exact dz _ _ _ (by first|rfl|simp only[aU])))
 have hb0:aq w ((w.alloc (.cells (mv f) 86)).alloc (.cells #[af] 120)):=(am _ _).alloc (by simp) _;have cv:=CS f w _ _ hT (by omega) ⟨hb0,⟨_,hW2,cY _ _ _ _⟩,sy.zero f,by omega⟩;clear hW2 hb0;go_enter func95,ntmps95
 go_wp2_with(first
  |(refine aQ rfl 86 _ rfl _ rfl _ _ _ _ hW1 bV rfl (bh _) ?_)
  |(go_at_call 126;refine cv.mono ?_;rintro e w' ⟨rfl,hbel,⟨v,hv,hown⟩,hruns⟩;have c1:=cell_of_one hv;have HR:PH (_):=hown;have HN:PH (lC f 1440 (rs f 1440)):=hruns;clear hown hruns))
 go_ret;exact⟨⟨v,rfl,HR.o⟩,HN.o,hbel⟩
namespace Msk
theorem zO (f:Nat->Bool): ∀m,f m=true-> ∃a,a<=m/\(a=0\/f (a-1)=false)/\ ∀i,a<=i->i<=m->f i=true
 |0,h=>⟨0,aB _,.inl rfl,fun i _ hi=>by rw[show i=0 by omega];exact h⟩
 |m+1,h=>by
  cases hm:f m with
  |false=>exact⟨m+1,aB _,.inr hm,fun i h1 h2=>by rw[show i=m+1 by omega];exact h⟩
  |true=>
   obtain⟨a,h1,h2,h3⟩:=zO f m hm;refine⟨a,by omega,h2,fun i hi hi'=> ?_⟩;by_cases e:i=m+1
   ·rw[e];exact h
   ·exact h3 i hi (by omega)
theorem JX (f:Nat->Bool): ∀n,lC f n (rs f n)/\((n=0\/f (n-1)=false)->qM (-1) (rs f n)<n):=by
 intro n;induction n using Nat.strongRecOn with
 |ind n ih=>
  match n,ih with
  |0,_=>exact⟨lC.zero f,fun _=>by show(-1:Int)<0;omega⟩
  |m+1,ih=>
   cases hm:f m with
   |false=>
    have e:rs f (m+1)=rs f m:=(by rw[rs,hm];rfl);have h:=(ih m (by omega)).1;rw[e];refine⟨h.skip (m+1) (by omega) fun i h1 h2=>by rw[show i=m by omega];exact hm,fun _=> ?_⟩;have:=h.last;omega
   |true=>
    obtain⟨a,h1,h2,h3⟩:=zO f m hm;obtain⟨r1,r2⟩:=ih a (by omega);have e:=BJ f a h2 (m-a) (fun i q1 q2=>h3 i q1 (by omega));rw[show a+(m-a+1)=m+1 by omega]at e;rw[e];refine⟨r1.run (r2 h2) (m+1) (by omega) (fun i q1 q2=>h3 i q1 (by omega)),fun h=> ?_⟩;rcases h with h|h
    ·omega
    ·rw[show m+1-1=m by omega,hm]at h;cases h
theorem DG (f:Nat->Bool)(n:Nat):lC f n (rs f n):=(JX f n).1
end Msk
def iv (f:In×Value):Array Value:= #[ag f.1.op,ag f.1.a,ag f.1.b,ag f.1.to,f.2]
def jr (S:List (In×Value)):List Value:=S.flatMap fun f=>(iv f).toList
theorem ph: ∀S:List (In×Value),(jr S).length=S.length*5
 |[]=>rfl
 |f::S=>by
  have:=ph S;unfold jr at this⊢;rw[List.flatMap_cons,aP,this];have h:(iv f).toList.length=5:=rfl;rw[h,bJ];omega
theorem Fd (S:List (In×Value))(f:In×Value):jr (S++[f])=jr S++(iv f).toList:=by
 unfold jr;rw[fw];simp
structure WsC (w0:World)(gm:Nat)(mp:Value)(S:List (In×Value))(W:World):Prop where
 bel:aq w0 W
 gt:w0.heap.size<=gm
 row: ∃sv,W.heap[gm]? =ah #[mp,sv] 139/\W.ownsRow w0.heap.size 179 5 sv S.length (jr S)
theorem WsC.below {w0 W W':World}{gm:Nat}{mp:Value}{S:List (In×Value)}(h:WsC w0 gm mp S W)(hb:aq W W'):WsC w0 gm mp S W':=by
 obtain⟨h1,h2,sv,h3,h4⟩:=h;exact⟨aw h1 hb,h2,sv,ai hb h3,il h4 hb⟩
theorem J7:(prog.info? 179).map (fun i=>(i.zero,i.size,i.bytes))=some (some (.agg #[ag 0,ag 0,ag 0,ag 0,af]),5,56):=by kernel_rfl
theorem H4:prog.underlying 137=some (.slice 179):=by kernel_rfl
def tN (gm:Nat)(W:World):Option Nat:=match W.cell? (ae gm 1) with
 |some v=>v.ownBlock
 |none=>none
theorem oB {gm:Nat}{W:World}{mp sv:Value}(h:W.heap[gm]? =ah #[mp,sv] 139):tN gm W=sv.ownBlock:=by
 unfold tN;rw[aZ _ _ 1 _ _ _ h];rfl
structure Fr2 (gm:Nat)(W W':World):Prop where
 blk: ∀q,q<W.heap.size->q≠gm->tN gm W≠some q->W'.heap[q]? =W.heap[q]?
 row:tN gm W'=tN gm W\/ ∃g,tN gm W'=some g/\W.heap.size<=g
 size:W.heap.size<=W'.heap.size
theorem Fr2.trans {gm:Nat}{w w' w'':World}(h:Fr2 gm w w')(h':Fr2 gm w' w''):Fr2 gm w w'':=by
 refine⟨fun q hq hne hr=> ?_,?_,bf h.size h'.size⟩
 ·refine(h'.blk q (aT hq h.size) hne ?_).trans (h.blk q hq hne hr);rcases h.row with e|⟨g,e,hg⟩
  ·rw[e];exact hr
  ·rw[e];intro e2;injection e2 with e2;omega
 ·rcases h'.row with e|⟨g,e,hg⟩
  ·rw[e];exact h.row
  ·exact .inr ⟨g,e,bf h.size hg⟩
theorem Fr2.below {gm:Nat}{w w':World}(hg:gm<w.heap.size)(hb:aq w w'):Fr2 gm w w':=by
 refine⟨fun q hq _ _=>hb.block q hq,.inl ?_,hb.size⟩;unfold tN;rw[dY (a:=⟨gm,1,none⟩) (hb.block gm hg)]
theorem vU:prog.underlying 179=some (.struct (prog.fieldsOf 179)):=by kernel_rfl
theorem DQ (f:In×Value):(iv f).toList.length=5:=rfl
theorem NP {f:In×Value}(h: ∃p n c,f.2= .slice p n c):(iv f).all (·.oneCell')=true:=by
 obtain⟨p,n,c,e⟩:=h;unfold iv;rw[e];simp[Value.oneCell']
theorem NQ (f:In×Value)(h: ∃p n c,f.2= .slice p n c)(W:World):(Instr.buildSlice 137 1 #[(0,.agg (iv f))]).run prog W= .ok (.slice (some (ae W.heap.size 0)) 1 1) (W.alloc (.cells (iv f) 179)):=by
 obtain⟨p,n,c,e⟩:=h;unfold iv;rw[e];kernel_rfl
theorem H5 {op:Oper}{a:Act}{w:World}{K:Act->World->Prop}{Q:Exit->Act->World->Prop}(x:Operand)(ho:op.op= .buildSlice 137 1 #[(0,x)])(f:In×Value)(hf: ∃p n c,f.2= .slice p n c)(hx:a.eval x= .agg (iv f))(h:K (a.put op.dst (.slice (some (ae w.heap.size 0)) 1 1)) (w.alloc (.cells (iv f) 179))):op.wp prog a w K Q:=by
 unfold Oper.wp execOp;have hb:=NQ f hf w;simp only[ho,hx,iB,dH,ff,ju,jU,gF,hb];exact h
structure KP (base:Nat)(sv:Value)(n:Nat)(xs:List Value)(f:In×Value)(W1:World)(R:World->Prop)(D:Nat->Bool)(φ:Nat->Value)(W:World):Prop where
 grown:D 10=false->W1.grownBy W sv.ownBlock
 own:D 7=false->W.ownsRow base 179 5 sv n xs
 one:D 6=true->D 7=false-> ∃g,φ 10= .slice (some (ae g 0)) 1 1/\W.heap[g]? =ah (iv f) 179
 app:D 7=true->D 10=false->W.ownsRow base 179 5 (φ 11) (n+1) (xs++(iv f).toList)/\((φ 11).ownBlock=sv.ownBlock\/ ∃g,(φ 11).ownBlock=some g/\W1.heap.size<=g)
 fin:D 10=true->R W
theorem J8 (w0:World)(gm:Nat)(mp:Value)(S:List (In×Value))(f:In×Value)(W:World)(h:WsC w0 gm mp S W)(hS:S.length<=1000)(hf: ∃p n c,f.2= .slice p n c):
  Calls prog 94 #[ab gm 0,.agg (iv f)] W fun e W'=>e= .returned (.tuple #[])/\WsC w0 gm mp (S++[f]) W'/\(∀(q:Nat) (c:Array Value) (T:TypeId),W.heap[q]? =ah c T->T≠179->q≠gm->W'.heap[q]? =ah c T)/\Fr2 gm W W':=by
 obtain⟨hbel,hgt,sv,nM0,own0⟩:=h;obtain⟨i0,hi,hz0,hz1,hz2⟩:=jp J7;have HZ:=a8 hz0;have HFS0:=a8 hf;clear hf;have bB:=am W (.cells (iv f) 179);have nB0:=aE W (.cells (iv f) 179);have nM:=ai bB nM0;have own1:=il own0 bB;have HRB:=a8 (oB nM0);have HBW:PH (∀q,q<W.heap.size->(W.alloc (.cells (iv f) 179)).heap[q]? =W.heap[q]?):=fun q hq=>bB.block q hq;have HSW:PH (W.heap.size<=(W.alloc (.cells (iv f) 179)).heap.size):=bB.size;have hneM:=kj own1 nM (by decide)
 have hneB:some W.heap.size≠sv.ownBlock:=fun e=>by
  have:=(own0.lt _ e.symm).2;omega
 have hb1:=aw hbel bB;have hb0:=hb1.size;obtain⟨p0,c0,hsv⟩:=di own0;subst hsv;have HFR:PH (∀(q:Nat) (c:Array Value) (T:TypeId),W.heap[q]? =ah c T->(W.alloc (.cells (iv f) 179)).heap[q]? =ah c T):=fun q c T hq=>ai bB hq;obtain⟨gb,hgb⟩:=au W.heap.size;generalize hwB:W.alloc (.cells (iv f) 179)=wB at*;rw[hgb]at hneB;have nB:wB.heap[gb]? =ah (iv f) 179:=by rw[<-hgb];exact nB0
 clear hz0 nB0 nM0 own0 bB hbel;go_enter func94,ntmps94;go_wp2_with fail;clear hwB;obtain⟨R,hR⟩: ∃R:World->Prop,R=fun W'=>WsC w0 gm mp (S++[f]) W'/\(∀(q:Nat) (c:Array Value) (T:TypeId),W.heap[q]? =ah c T->T≠179->q≠gm->W'.heap[q]? =ah c T)/\Fr2 gm W W':=⟨_,rfl⟩
 have HR:=a8 hR
 have HRb:PH (∀W W',aq W W'->R W->R W'):=by
  subst hR;rintro W1 W' hb ⟨h1,h2,h3⟩;obtain⟨_,_,_,hgm,_⟩:=id h1;exact⟨h1.below hb,fun q c T a b d=>(hb.block _ (aH (h2 q c T a b d))).trans (h2 q c T a b d),h3.trans (Fr2.below (aH hgm) hb)⟩
 clear hR;refine dn (KP w0.heap.size (.slice p0 S.length c0) S.length (jr S) f wB R) [kn 4 (ab gm 0),kn 5 (ab gm 0),kn 6 (ab gm 0),kn 7 (ab gm 1),kn 8 (.slice p0 S.length c0),kn 9 (.agg (iv f)),td 10,td 11,kn 12 (ab gm 0),kn 13 (ab gm 1),nk] (fun _=>⟨fun _=>⟨rfl,rfl,rfl,aB _,fun _ _ _=>rfl⟩,fun _=>own1,(fun h=>by cases h),(fun h=>by cases h),(fun h=>by cases h)⟩) (fun _ _ _ _ hb h=>⟨fun e=>oS (h.grown e) hb,fun e=>il (h.own e) hb,fun e e'=>(h.one e e').imp fun _ q=>⟨q.1,ai hb q.2⟩,fun e e'=>⟨il (h.app e e').1 hb,(h.app e e').2⟩,fun e=>HRb.o _ _ hb (h.fin e)⟩) (by kernel_rfl) (fun D φ W2 hJ hcl F l hl hF=> ?_) (fun D φ W2 hM hJ=> ?_)
 ·simp only[kn,td,nk,dX,aR,aX,Act.put,aA,aK,aJ]at hl;subst hl;simp only[dc,Nat.reduceAdd]at hF
  have h10:D 7=false->D 10=false:=fun h7=>by
   cases h:D 10 with
   |false=>rfl
   |true=>rw[hcl 10 _ rfl h ⟨7,.data⟩ (by simp) rfl rfl]at h7;cases h7
  dsimp only[kn,td,nk,dC,eJ,eg,Act.put];and_intros;all_goals first|exact trivial|intro hw hn hm K hK
  all_goals try (go_simp;with_reducible exact hK _ _ ⟨rfl,aI _ _⟩)
  ·have nM2:=((hJ.grown (h10 (hn 7 _ rfl (by kernel_rfl)))).block _ (aH nM) hneM).trans nM;have z2:=ak 1 nM2;go_simp;exact hK _ _ ⟨rfl,aI _ _⟩
  ·have no7:D 7=false:=by
    cases h:D 7 with
    |false=>rfl
    |true=>
     have:=hn 6 _ rfl (by kernel_rfl);rw[hcl 7 _ rfl h ⟨6,.data⟩ (by simp) rfl rfl]at this;cases this
   have nB2:=((hJ.grown (h10 no7)).block _ (aH nB) hneB).trans nB;refine eo 179 _ rfl _ (by simp[Act.eval,hF]) _ _ _ _ nB2 vU rfl (by kernel_rfl) ?_;exact hK _ _ ⟨rfl,aI _ _⟩
  ·have hb:=am W2 (.cells (iv f) 179);have no7:=hn 7 _ rfl (by kernel_rfl);refine H5 _ rfl f HFS0.o (by simp[Act.eval,hF]) ?_;exact hK _ _ ⟨trivial,fun _=>oS (hJ.grown (h10 no7)) hb,fun _=>il (hJ.own no7) hb,fun _ _=>⟨_,dD ..,aE W2 _⟩,(fun h=>by simp[no7]at h),(fun h=>by simp[h10 no7]at h)⟩
  ·obtain⟨g,e10,hh⟩:=hJ.one (hw ⟨6,.data⟩ (by simp) rfl rfl) hm;have hG:=hJ.grown (h10 hm);rw[e10]at hF;refine sR _ _ 137 rfl w0.heap.size 179 i0 _ 5 56 H4 hi HZ.o hz1 hz2 rfl (by decide) (.slice p0 S.length c0) S.length (jr S) (by simp[Act.eval,hF]) (hJ.own hm) ⟨g,0,none⟩ 1 1 (iv f).toList (by simp[Act.eval,hF]) (DQ f) ?c1 ?c2 (by unfold maxLen;omega) (by omega) ?c5 ?_
   case c1=>
    intro q u hq;rw[uH];exact(aZ _ _ _ _ _ _ hh).trans (by rw[bN,<-bp];exact hq)
   case c2=>
    intro u hu;have:=NP HFS0.o;rw[Array.all_eq_true_iff_forall_mem]at this;exact this u (Array.mem_def.2 hu)
   case c5=>exact bf hb0 hG.size
   intro v' W' hown hgrow hblk;exact hK _ _ ⟨trivial,fun _=>vf hG hgrow,(fun e=>by simp at e),(fun _ e=>by simp at e),fun _ _=>by rw[dD];exact⟨hown,hblk.imp id fun e=>⟨_,e,hG.size⟩⟩,(fun e=>by simp[h10 hm]at e)⟩
  ·have q7:=hw ⟨7,.data⟩ (by simp) rfl rfl;obtain⟨own7,blk7⟩:=hJ.app q7 hm;have hG:=hJ.grown hm;obtain⟨p7,c7,hv7⟩:=di own7;rw[hv7]at hF own7 blk7;have nM2:=(hG.block _ (aH nM) hneM).trans nM;have z2:=ak 1 nM2;have y2:=bl _ _ 1 _ _ nM2;have hne7:=kj own7 nM2 (by decide);have nS:(W2.setCell ⟨gm,1,none⟩ (.slice p7 (S.length+1) c7)).heap[gm]? =ah #[mp,.slice p7 (S.length+1) c7] 139:=aY W2 gm 1 _ _ _ nM2
   have bS:aq w0 (W2.setCell ⟨gm,1,none⟩ (.slice p7 (S.length+1) c7)):=by
    refine Below.setCell (p:=⟨gm,1,none⟩) ⟨hG.os.trans hb1.os,hG.tape.trans hb1.tape,hG.output.trans hb1.output,bf hb1.size hG.size,fun q hq=> ?_⟩ hgt _;refine(hG.block q (aT hq hb1.size) fun e=> ?_).trans (hb1.block q hq);have:=(own1.lt _ e.symm).1;omega
   have own8:(W2.setCell ⟨gm,1,none⟩ (.slice p7 (S.length+1) c7)).ownsRow w0.heap.size 179 5 (.slice p7 (S.length+1) c7) (S++[f]).length (jr (S++[f])):=by
    rw[Fd,aP,dP];refine own7.kept (row:=some gm) ⟨rfl,rfl,rfl,by simp,fun q hq hr=>aO W2 ⟨gm,1,none⟩ q _ fun e=>hr (congrArg some e)⟩ (.inr fun e=>hne7 e.symm)
   have hf2:Fr2 gm W (W2.setCell ⟨gm,1,none⟩ (.slice p7 (S.length+1) c7)):=by
    refine⟨fun q hq hne hr=> ?_,?_,?_⟩
    ·refine(aO W2 ⟨gm,1,none⟩ q _ hne).trans ((hG.block q (aT hq HSW.o) fun e=> ?_).trans (HBW.o q hq));exact hr (HRB.o.trans e.symm)
    ·rw[oB nS,HRB.o];exact blk7.imp id fun⟨g,e,hg⟩=>⟨g,e,bf HSW.o hg⟩
    ·have h1:=HSW.o;have h2:=hG.size;simp;omega
   have HJ:PH (∀φ',KP w0.heap.size (.slice p0 S.length c0) S.length (jr S) f wB R (fun k=>decide (10=k)||D k) φ' (W2.setCell ⟨gm,1,none⟩ (.slice p7 (S.length+1) c7))):=fun _=>⟨(fun h=>by simp at h),(fun h=>by simp[q7]at h),(fun _ h=>by simp[q7]at h),(fun _ h=>by simp at h),fun _=>by rw[HR.o];exact⟨⟨bS,hgt,_,nS,own8⟩,fun q c T hq hT hne=>(by
    have h1:=HFR.o q c T hq;exact(aO W2 ⟨gm,1,none⟩ q _ hne).trans ((hG.block _ (aH h1) (kj own1 h1 hT)).trans h1)),hf2⟩⟩
   clear own7 own8 nS bS hJ hf2;go_simp;exact hK undef _ ⟨trivial,HJ.o _⟩
 ·have hn:=hJ.fin (hM 10 (by decide) rfl);rw[HR.o]at hn;have HN:=a8 hn;simp only[kn,td,nk,en,aR,aX,Act.put,aA,aK,aJ];clear hM hJ hn;go_wp2_with fail;exact⟨rfl,_,eN rfl _ _ _,rfl,HN.o⟩
structure Got where
 m:M
 l:List Kp
 n:Int
 er:Int
 at_:Nat
def jd (cs:List Cd)(l:List Kp)(runs ver rule day:Int):Got:=
 if mX l ver rule day=true then⟨(l.getD (gI rule day l 0).toNat k0).m,fY l (gI rule day l 0)++[l.getD (gI rule day l 0).toNat k0],runs,0,0⟩
 else if(jb cs rule day).1≠0 then⟨fun _=>false,[],0,(jb cs rule day).1,(jb cs rule day).2⟩
 else⟨oj cs rule day,sw (fY l (gI rule day l 0)++[⟨rule,day,ver,oj cs rule day⟩]),IntKind.i64.wrap (runs+1),0,0⟩
theorem Mn (cs:List Cd)(l:List Kp)(cv lv:Value)(runs ver rule day:Int)(w:World)(h:ef 0 w cv l)(hl:l.length<=676622540150)(hin:InV w lv cs):
  Calls prog 74 #[.agg #[cv,ag runs],lv,ag ver,ag rule,ag day] w (yC (jd cs l runs ver rule day).m (jd cs l runs ver rule day).l (jd cs l runs ver rule day).n (jd cs l runs ver rule day).er ((jd cs l runs ver rule day).at_:Int) w):=by
 unfold jd;by_cases hh:mX l ver rule day=true
 ·rw[aD hh];exact LW l cv lv runs ver rule day w h hl hh
 ·rw[ax hh];have hm:mX l ver rule day=false:=Bool.eq_false_iff.2 hh;by_cases he:(jb cs rule day).1≠0
  ·rw[aD he];exact Hb cs l cv lv runs ver rule day w h hl hin hm he
  ·rw[ax he];exact LX cs l cv lv runs ver rule day w h hl hin hm (Classical.not_not.1 he)
namespace Mx
end Mx
section
theorem vZ (w:World)(ty:TypeId)(base p:Option Addr)(n cap c:Nat)(hle:n<=cap):(Builtin.append_ #[34,34] ty #[.slice base n cap,.slice p 0 c]).run prog w= .ok (.slice base n cap) w:=by
 obtain⟨i0,hi,hz0,hz1,hz2⟩:=oq om;cases base<;>cases p<;>simp[Builtin.append_,fT qx,sizeOf,typeInfo,hi,hle,Builtin.lenOf,Builtin.firstCells,storeCells,loadCells,loadCellsFrom]
theorem xU {w:World}{B:Nat}{e:TypeId}{size:Nat}{v:Value}{n:Nat}{xs:List Value}(h:w.ownsRow B e size v n xs): ∃(q:Option Addr) (c:Nat),v= .slice q n c/\n<=c:=by
 rcases h.2 with⟨e,hn⟩|⟨_,_,_,e,_,_,hc,_⟩
 ·exact⟨_,_,by rw[e,hn],by omega⟩
 ·exact⟨_,_,e,hc⟩
section
variable {ops:Array Oper} {rest:List Oper} {op:Oper} {a:Act} {w:World} {Q:Exit->Act->World->Prop}
theorem tU (hgd:op.guard=none)(s x:Operand)(ho:op.op= .call {callee:= .builtin .append,args:= #[s,x],argTypes:= #[34,34]})(base:Nat)(l t:List Int)(v vx:Value)(hs:a.eval s=v)(hown:w.ownsRow base 3 1 v l.length (dp l))(hx:a.eval x=vx)(hk:dS w vx t)(hS:l.length+t.length<=1000000)(hb:base<=w.heap.size)
  (h: ∀v' w',w'.ownsRow base 3 1 v' (l++t).length (dp (l++t))->w.grownBy w' v.ownBlock->wpList prog ops Q rest (a.put op.dst v') w'):wpList prog ops Q (op::rest) a w:=by
 obtain⟨p,c,e,hlc,hr⟩:=hk;subst e;by_cases hl:t=[]
 ·subst hl;obtain⟨p1,c1,e1,hn1⟩:=xU hown;subst e1;rw[ik]at h;refine Go.Lib.wpList_append_run w hgd s x _ _ ho _ _ hs hx _ _ (vZ w _ p1 p _ c1 c hn1) (h _ _ hown ⟨rfl,rfl,rfl,aB _,fun _ _ _=>rfl⟩)
 ·have h0:0<t.length:=List.length_pos_iff.2 hl;obtain⟨g,o,hp,_⟩:=hr 0 t[0] (az h0);subst hp;obtain⟨i0,hi,hz0,hz1,hz2⟩:=oq om;refine iZ (w:=w) hgd s x 34 ho base 3 i0 _ 1 8 qx hi hz0 hz1 hz2 rfl (by decide) v l.length (dp l) hs hown ⟨g,o,none⟩ t.length c (dp t) hx (by rw[kJ,Nat.mul_one]) ?_ ?_ (by unfold maxLen;omega) (by omega) hb fun v' w' h1 h2 _=> ?_
  ·intro q u hq;unfold dp at hq;rw[bg]at hq;cases hx2:t[q]? with
   |none=>rw[hx2]at hq;cases hq
   |some z=>
    rw[hx2]at hq;cases aN hq;obtain⟨g',o',e',hc'⟩:=hr q z hx2;cases e';rcases Nat.eq_zero_or_pos q with h0|h0
    ·subst h0;simpa[Addr.add] using hc'
    ·simpa[Addr.add,Nat.ne_of_gt h0] using hc'
  ·intro u hu;unfold dp at hu;rw[dU]at hu;obtain⟨z,_,rfl⟩:=hu;rfl
  ·refine h v' w' ?_ h2;rw[aP];unfold dp at h1⊢;rw[dT];exact h1
theorem C5 (W:World):(Instr.buildSlice 34 0 #[]).run prog W= .ok (.slice (some (ae W.heap.size 0)) 0 0) (W.alloc (.cells #[] 3)):=by
 kernel_rfl
theorem sX (hg:op.guard=none)(ho:op.op= .buildSlice 34 0 #[])(h:wpList prog ops Q rest (a.put op.dst (.slice (some (ae w.heap.size 0)) 0 0)) (w.alloc (.cells #[] 3))):wpList prog ops Q (op::rest) a w:=
 wpList_plain hg fun _ hK=>by
  unfold Oper.wp execOp;have hb:=C5 w;simp only[ho,iB,ff,ju,jU,gF,hb];exact hK _ _ h
end
theorem Ii (w:World){g:Nat}(h:w.heap[g]? =ah #[] 3)(B:Nat)(hB:B<=g):w.ownsRow B 3 1 (.slice (some (ae g 0)) ([]:List Int).length 0) ([]:List Int).length (dp []):=
 ⟨rfl,.inr ⟨g,0,#[],rfl,hB,h,aB _,dM _,rfl,rfl⟩⟩
theorem B4 {w:World}{g:Nat}{n:Int}(h:w.heap[g]? =ah #[ag n] 3):dS w (.slice (some (ae g 0)) 1 1) [n]:=
 ⟨_,_,rfl,by simp,fun j m hj=>⟨g,0,rfl,by
   match j,hj with
   |0,hj=>cases aN hj;exact ak 0 h
   |j+1,hj=>simp at hj⟩⟩
theorem lm.low {B B':Nat}{w:World}{v:Value}{vs:List Value}{ls:List (List Int)}(h:lm B' w v vs ls)(hB:B<=B'):lm B w v vs ls:=
 ⟨qz h.o hB,h.len,fun i sv l h1 h2=>qz (h.each i sv l h1 h2) hB⟩
theorem lm.first {B:Nat}{w:World}{v:Value}{vs:List Value}{who:List Int}{ts:List (List Int)}(h:lm B w v vs (who::ts)): ∃(g c:Nat) (sv:Value),v= .slice (some (ae g 0)) (ts.length+1) c/\w.cell? (ae g 0)=some sv/\w.ownsRow B 3 1 sv who.length (dp who):=by
 have hl:vs.length=ts.length+1:=h.len;rcases h.o.2 with⟨_,e⟩|⟨g,cap,cur,e,_,hg,_,_,_,ht⟩
 ·omega
 ·have h0:0<vs.length:=by omega
  have hv:vs[0]? =some vs[0]:=az h0;refine⟨g,cap,vs[0],by rw[e,hl],?_,h.each 0 _ who hv rfl⟩;rw[aZ w g 0 cur _ (0,0) hg,<-bp]
  have e:(vs:List Value)[0]? =cur.toList[0]? :=by
   have h1:=congrArg (fun l:List Value=>l[0]?) ht;rw[Nat.mul_one,dI h0]at h1;exact h1.symm
  rw[<-e,hv]
def okB (bs:List Bool)(r:Int):Bool:=bs.getD r.toNat false
end
namespace Lx
def Co (ts:List T1)(r:List Tk):Prop:=0<r.length\/ts=[]
theorem Co.up {ts:List T1}{r q:List Tk}(h:Co ts r)(hl:r.length<=q.length):Co ts q:=by
 rcases h with h|h
 ·exact .inl (by omega)
 ·exact .inr h
end Lx
theorem DV {r d:Int}: ∀(l:List Kp) (j:Nat),0<=gI r d l j-> ∃(n:Nat) (k:Kp),gI r d l j=(j:Int)+n/\l[n]? =some k/\k.r=r/\k.d=d
 |[],j,h=>by
  have:gI r d [] j= -1:=rfl;omega
 |k::l,j,h=>by
  by_cases hk:k.r=r/\k.d=d
  ·refine⟨0,k,?_,rfl,hk.1,hk.2⟩;rw[gI,aD hk];omega
  ·rw[gI,ax hk]at h⊢;obtain⟨n,k',e,h1,h2,h3⟩:=DV l (j+1) h;exact⟨n+1,k',by rw[e];omega,h1,h2,h3⟩
theorem NY {l:List Kp}{v r d:Int}(h:mX l v r d=true): ∃(n:Nat) (k:Kp),gI r d l 0=(n:Int)/\l[n]? =some k/\k.r=r/\k.d=d/\k.v=v/\l.getD (gI r d l 0).toNat Vx.k0=k:=by
 unfold mX at h;rw[bx,cg,cg]at h;obtain⟨n,k,e,h1,h2,h3⟩:=DV l 0 h.1;have e':gI r d l 0=(n:Int):=by rw[e];omega
 have e2:l.getD (gI r d l 0).toNat Vx.k0=k:=by rw[e',cZ];simp[List.getD,h1]
 exact⟨n,k,e',h1,h2,h3,by rw[<-e2];exact h.2,e2⟩
section
open Go.ChangeShapes Go.WideShapes Go.ChangeAt Go.WideMaps Go.WideElems Go.Joins
variable {H:Type} {enc:TypeId×Value->H} {W:World}
theorem cN9:prog.cellsOf 3=1:=by kernel_rfl
theorem Oe (g o n:Nat):(⟨g,o,none⟩:Addr).add n=⟨g,o+n,none⟩:=by
 by_cases h:n=0
 ·subst h;simp[Addr.add]
 ·simp[Addr.add,h]
theorem IG {α:Type}{l:List α}(h:l.length=3): ∃a b c,l=[a,b,c]:=by
 match l,h with
 |[a,b,c],_=>exact⟨a,b,c,rfl⟩
theorem wi {α:Type}(d0:α){size:Nat}{t e:TypeId}(ht:prog.underlying t=some (.slice e))(hsz:prog.cellsOf e=size)(h0:0<size)(Q:(Nat->Option Value)->α->Prop)
  (hel: ∀(fuel:Nat) (cs:List Value) (y:DataW H×List MemPlace),DataW.trod enc prog W 0 (fun _=>true) true fuel e cs=some y-> ∃u:α,cs.length=size/\Q (fun k=>cs[k]?) u) {fuel:Nat} {cs:List Value} {x:DataW H×List MemPlace}
  (h:DataW.trod enc prog W 0 (fun _=>true) true fuel t cs=some x):
  ∃(p:Option Addr) (len cap:Nat) (us:List α),cs=[.slice p len cap]/\us.length=len/\len<9223372036854775808/\ ∀(j:Nat) (u:α),us[j]? =some u-> ∃g o:Nat,p=some ⟨g,o,none⟩/\ ∃c:List Value,c.length=size/\(∀k v,c[k]? =some v->W.cell? (ae g (o+j*size+k))=some v)/\Q (fun k=>c[k]?) u:=by
 rcases DataW.trod_slice ht h with⟨e1,_⟩|⟨a,len,cap,elems,rest,m,hf,e1,_,_,hlc,hm,hlen,hall,_⟩
 ·exact⟨none,0,0,[],e1,rfl,by decide,fun j u hj=>by simp at hj⟩
 ·have hl2:len<9223372036854775808:=by unfold maxLen at hm;omega
  have each: ∀i,i<len-> ∃u:α,∃g o:Nat,a=⟨g,o,none⟩/\ ∃c:List Value,c.length=size/\(∀k v,c[k]? =some v->W.cell? (ae g (o+i*size+k))=some v)/\Q (fun k=>c[k]?) u:=by
   intro i hi;have h1:=hall i hi;rw[hsz]at h1;have hy:elems[i]? =some (elems[i]'(by omega)):=az _;rw[hy,Option.bind_eq_some_iff]at h1;obtain⟨c,hc,htr⟩:=h1;obtain⟨u,hcl,hq⟩:=hel _ _ _ htr
   have spot:a.spot=none:=by
    have h2:=hall 0 (by omega);rw[hsz]at h2;have hy0:elems[0]? =some (elems[0]'(by omega)):=az _;rw[hy0,Option.bind_eq_some_iff]at h2;obtain⟨c',hc',htr'⟩:=h2;obtain⟨_,hcl',_⟩:=hel _ _ _ htr';have e0:c'[0]? =some (c'[0]'(by omega)):=az _;have q0:=(World.cells?_some hc').2.2 0 (by omega);rw[e0]at q0;have q':=World.cell?_spot q0;simpa[Addr.add] using q'
   obtain⟨g,o,s⟩:=a;have q:=(World.cells?_some hc).2.2;dsimp only at spot;subst spot;refine⟨u,g,o,rfl,c,hcl,fun k v hk=> ?_,hq⟩;have hk':k<c.length:=(aF.1 hk).1;have qk:=q k (by omega);rw[Oe,Oe,hk]at qk;exact qk
  let pick:Nat->α:=fun i=>if h:i<len then Classical.choose (each i h) else d0;have hpick: ∀i (h:i<len),pick i=Classical.choose (each i h):=fun i h=>(by simp only[pick,h,dif_pos]);refine⟨some a,len,cap,(List.range len).map pick,e1,by simp,hl2,fun j u hj=> ?_⟩
  have hjl:j<len:=by
   have:=(aF.1 hj).1;simpa using this
  rw[bg,List.getElem?_range hjl]at hj;have hu:u=Classical.choose (each j hjl):=(aN hj).symm.trans (hpick j hjl);rw[hu];obtain⟨g,o,ea,c,h1,h2,h3⟩:=Classical.choose_spec (each j hjl);exact⟨g,o,by rw[ea],c,h1,h2,h3⟩
theorem KW {α:Type}{l:List α}(h:l.length=4): ∃a b c d,l=[a,b,c,d]:=by
 match l,h with
 |[a,b,c,d],_=>exact⟨a,b,c,d,rfl⟩
end
end Go.Proofs.YtkfidffapdhbhaaGreatDoor
