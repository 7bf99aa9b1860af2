/- Texts of the proof. -/
import Derived.Test.YtaoljfdfhggbbaaGreatDoorPc14
import Derived.Test.YtaoljfdfhggbbaaGreatDoorPc13
set_option maxRecDepth 100000
set_option maxHeartbeats 8000000
namespace Go.Proofs.YtaoljfdfhggbbaaGreatDoor
open Go.Proofs.Tryz Go.RowKit Lx Vx Mx Msk
theorem gZ {B:Nat}{c w w':World}{row:Option Nat}(a:Below B c w)(b:w.grownBy w' row)(f:B<=c.heap.size)(g: ∀k,row=some k->B<=k):Below B c w':=
 ⟨b.os.trans a.os,b.tape.trans a.tape,b.output.trans a.output,bf a.size b.size,fun k d=>(b.block k (aT (aT d f) a.size) (fun e=>by have:=g k e.symm;omega)).trans (a.block k d)⟩
theorem jl {w w':World}(a:aq w w')(row:Option Nat):w.grownBy w' row:=⟨a.os,a.tape,a.output,a.size,fun k b _=>a.block k b⟩
theorem xH {a b c:World}{row d:Option Nat}(h:a.grownBy b row)(k:b.grownBy c d)(l: ∀j,d=some j->a.heap.size<=j\/row=some j):a.grownBy c row:=
 ⟨k.os.trans h.os,k.tape.trans h.tape,k.output.trans h.output,bf h.size k.size,fun q i f=>(k.block q (aT i h.size) (fun e=>by
   rcases l q e.symm with g|g
   ·omega
   ·exact f g.symm)).trans (h.block q i f)⟩
theorem tO {a c:World}(h:a.grownBy c none)(row:Option Nat):a.grownBy c row:=⟨h.os,h.tape,h.output,h.size,fun i hi _=>h.block i hi (by simp)⟩
theorem lT {i:Array Oper}{d:List Oper}{o:Oper}{a:Act}{w:World}{Q:Exit->Act->World->Prop}(k:o.guard=none)(s x:Operand)(z:o.op= .call {callee:= .builtin .append,args:= #[s,x],argTypes:= #[23,23]})
  (b:Nat) (v:Value) (l:List Int) (r:Int) (B:a.eval s=v) (f:w.ownsRow b 3 1 v l.length (dp l)) (j c:Nat) (C:a.eval x= .slice (some (ae j 0)) 1 c) (y:w.cell? (ae j 0)=some (ag r)) (u:l.length<=1000000) (t:b<=w.heap.size)
  (h: ∀e w',w'.ownsRow b 3 1 e (l.length+1) (dp (l++[r]))->((e.ownBlock=v.ownBlock/\w.grownBy w' v.ownBlock/\ ∀m:World,m.ownsRow b 3 1 e (l.length+1) (dp (l++[r]))->m.ownsRow b 3 1 v l.length (dp l))\/(w.grownBy w' none/\ ∃g,e.ownBlock=some g/\w.heap.size<=g))->wpList prog i Q d (a.put o.dst e) w'):wpList prog i Q (o::d) a w:=by
 refine wpList_plain k fun K q=> ?_;obtain⟨e,w',A,n,p⟩:=C2 w b v l r f j c y o.type u t;unfold Oper.wp execOp;simp only[z,resolve,invoke,builtin,ju,jV,gG,iC,dI,fg,B,C,A];exact q _ _ (h e w' n p)
def OO (B:Nat)(res:Option (List Int))(t:List Int)(a:Value)(w:World)(e:Ending)(w':World):Prop:=
 w.grownBy w' a.ownBlock/\((∃who b,res=some who/\e= .returned (.tuple #[b,.bool true])/\w'.ownsRow B 3 1 b who.length (dp who))\/(res=none/\e= .returned (.tuple #[af,.bool false])/\w'.ownsRow B 3 1 a t.length (dp t)))
theorem s6 {α β:Type}{f:α->Option β}{l:List α}{j:Nat}{x:α}(h:l[j]? =some x):(l.drop j).findSome? f=match f x with|some y=>some y|none=>(l.drop (j+1)).findSome? f:=by
 obtain⟨a,b⟩:=aG.1 h;rw[bx a,b];rw[List.findSome?_cons];cases f x<;>rfl
theorem JZ (a:List (List Int))(pv:Value)(u:World)(hP:fk u pv a)(ay:a.length<=1000): ∀(k:Nat) (t:List Int) (T:Value) (w:World),t.length+k=a.length->aq u w->w.ownsRow u.heap.size 3 1 T t.length (dp t)->
  Calls prog 77 #[pv,T] w (OO u.heap.size (lG a k t) t T w):=by
 intro k;induction k with
 |zero=>
  intro t T w hk P b;obtain⟨pp,pc,rfl,H,_⟩:=hP;obtain⟨l,m,J,_,_⟩:=qB b (by omega);have he:((t.length:Int)==(a.length:Int))=true:=(by rw[beq_iff_eq];omega);have V:=bK b;subst J;go_enter func77,ntmps77
  go_wp2_with fail;go_ret2;exact⟨jt _ _,.inl ⟨t,_,rfl,rfl,V.o⟩⟩
 |succ k ih=>
  intro t T w hk P b;have IH:=bK ih;obtain⟨pool,d⟩: ∃p,a[t.length]? =some p:=⟨a[t.length]'(by omega),az (by omega)⟩
  have HP:=bK hP;obtain⟨pp,pc,rfl,H,O⟩:=hP;obtain⟨gp,op,sv,al,Q,I⟩:=O _ _ d;subst al;have ao:=aj P Q;obtain⟨ap,cp,rfl,ae,n⟩:=I;have HC:=bK n;obtain⟨l,m,J,_,_⟩:=qB b (by omega);subst J;have av:((t.length:Int)==(a.length:Int))=false:=(by rw[bj];omega);have au:(t.length:Int)<(a.length:Int):=(by omega);have a0:(0:Int)<=(t.length:Int):=(by omega);have V:=bK b;have HB:=bK P
  have HE:PN (lG a (k+1) t=pool.findSome? fun r=>if r∈t then none else lG a k (t++[r])):=by
   show _=_;rw[lG];congr 1;simp[List.getD,d]
  go_enter func77,ntmps77
  go_wp2_with fail;go_loopw [7,8,9,22] (fun _ _ _ x wr=> ∃j:Nat,x=ag (j:Int)/\j<=pool.length/\PN (lG a (k+1) t=(pool.drop j).findSome? fun r=>if r∈t then none else lG a k (t++[r]))/\PN (wr.ownsRow u.heap.size 3 1 (.slice l t.length m) t.length (dp t))/\PN (w.grownBy wr (Value.slice l t.length m).ownBlock)) (fun _ _ _ x _=>pool.length-(intOf x).toNat);case atStart=>exact⟨0,rfl,by omega,HE,V,jt _ _⟩
  case round=>
   obtain⟨j,rfl,hj,hX,Y,X⟩:=hrel;have ar:(0:Int)<=(j:Int):=(by omega);by_cases S:j<pool.length
   ·have G:(j:Int)<(pool.length:Int):=(by omega);obtain⟨r,R⟩: ∃r,pool[j]? =some r:=⟨pool[j],az S⟩
    obtain⟨g,o,ai,c0⟩:=HC.o j _ R;subst ai;have z: ∀q,(Value.slice l t.length m).ownBlock=some q->u.heap.size<=q:=fun q hq=>(V.o.lt q hq).1;have M:=bK (gZ HB.o X.o (aB _) z);have Z:=s6 (f:=fun r=>if r∈t then none else lG a k (t++[r])) R;have c1:=jF t (.slice l t.length m) r wr (qB Y.o (by omega));have an:=aj M.o c0;by_cases hm:r∈t
    ·rw[aD hm]at Z;rw[bm hm]at c1;have K:=bK (hX.o.trans Z);go_wp2_with fail;refine c1.mono ?_;rintro e i ⟨rfl,b2⟩;have B:=bK (ia Y.o b2);have A:=bK (X.o.trans (jl b2 _));go_wp2_with fail;go_roundw;case rel=>exact⟨j+1,by go_num,by omega,K,B,A⟩
     case measure=>simp[intOf];omega
    ·rw[ax hm]at Z;rw[bn hm]at c1;have K:=bK (hX.o.trans Z);go_wp2_with fail;refine c1.mono ?_;rintro e i ⟨rfl,b2⟩;have B:=bK (ia Y.o b2);have A:=bK (X.o.trans (jl b2 _));have aa:=bK (aw M.o b2);have bA:=am i (.cells #[ag r] 3);have nA:=aE i (.cells #[ag r] 3);generalize a1:i.alloc (.cells #[ag r] 3)=wA at*;have zA:=ak 0 nA;have C:=bK (ia B.o bA);have N:=bK (A.o.trans (jl bA _));have L:=bK (aw aa.o bA)
     go_wp2_with(first
      |(refine lT rfl _ _ rfl u.heap.size _ t r rfl ?ho i.heap.size 1 rfl zA ?hl ?hb ?_
        case ho=>exact C.o
        case hl=>omega
        case hb=>exact L.o.size
        intro U w3 af c))
     have F:(t++[r]).length=t.length+1:=(by simp)
     have y: ∀v:World,w3.grownBy v U.ownBlock->wA.grownBy v (Value.slice l t.length m).ownBlock/\((U.ownBlock=(Value.slice l t.length m).ownBlock)\/wA.grownBy v none):=fun v W=>by
      rcases c with⟨e,g1,_⟩|⟨g1,q,e,hq⟩
      ·rw[e]at W;exact⟨g1.trans W,.inl e⟩
      ·rw[e]at W;have:=xH g1 W (fun j hj=>by cases hj;exact .inl hq);exact⟨tO this _,.inr this⟩
     have ab:=bK (gZ L.o (y w3 (jt _ _)).1 (aB _) z);have c2:=IH.o (t++[r]) U w3 (by rw[F];omega) ab.o (by rw[F];exact af);have HF:=bK y
     have ac:PN (∀i:World,(U.ownBlock=(Value.slice l t.length m).ownBlock)\/wA.grownBy i none->i.ownsRow u.heap.size 3 1 U (t.length+1) (dp (t++[r]))->i.ownsRow u.heap.size 3 1 (.slice l t.length m) t.length (dp t)):=fun i ah h2=>by
      rcases c with⟨_,_,h⟩|⟨_,q,e,hq⟩
      ·exact h i h2
      ·rcases ah with h|h
       ·exfalso;rw[e]at h;have:=(C.o.lt q h.symm).2;omega
       ·exact C.o.kept h (by cases hz:(Value.slice l t.length m).ownBlock<;>simp)
     have HL:=bK F;refine c2.mono ?_;rintro e v ⟨E,⟨who,v2,hw,rfl,s⟩|⟨hw,rfl,s⟩⟩
     ·have D:PN (lG a (k+1) t=some who):=by
       show _=_;rw[K.o,hw]
      have HR:=bK (N.o.trans (HF.o v E).1);go_wp2_with fail;go_ret2;exact⟨HR.o,.inl ⟨who,v2,D.o,rfl,s⟩⟩
     ·have D:PN (lG a (k+1) t=(pool.drop (j+1)).findSome? fun r=>if r∈t then none else lG a k (t++[r])):=by
       show _=_;rw[K.o,hw]
      have HR:=bK (N.o.trans (HF.o v E).1);have ad:=bK (ac.o v (HF.o v E).2 (by rw[HL.o]at s;exact s));go_wp2_with fail;go_roundw;case rel=>exact⟨j+1,by go_num,by omega,D,ad,HR⟩
      case measure=>simp[intOf];omega
   ·have G: ¬(j:Int)<(pool.length:Int):=(by omega)
    have K:PN (lG a (k+1) t=none):=by
     show _=_;rw[hX.o,dg (by omega)];rfl
    go_wp2_with fail;go_ret2;exact⟨X.o,.inr ⟨K.o,rfl,Y.o⟩⟩
def fQ (f:Nat->Bool)(x y:Int):Bool:=decide (0<=x)&&decide (y<=1440)&&decide (x<=y)&&eqm (fun i=>(inl [(x,y)] i&& !f i)&&decide (i<1440)) fun _=>false
theorem tP (f:Nat->Bool)(x y:Int)(w:World):
  Calls prog 32 #[.agg (mv f),.agg #[ag x,ag y]] w fun e w'=>e= .returned (.bool (fQ f x y))/\aq w w':=by
 have O:=eI;have k:aq w ((w.alloc (.cells (mv f) 84)).alloc (.cells #[ag x,ag y] 87)):=(am _ _).alloc (by simp) _;have s:((w.alloc (.cells (mv f) 84)).alloc (.cells #[ag x,ag y] 87)).heap[w.heap.size]? =ah (mv f) 84:=by(repeat (first|refine dl _ _ _ (by simp only[aU];omega) ?_|exact dC _ _ _ (by first|rfl|simp only[aU])))
 have j:((w.alloc (.cells (mv f) 84)).alloc (.cells #[ag x,ag y] 87)).heap[w.heap.size+1]? =ah #[ag x,ag y] 87:=by(repeat (first|refine dl _ _ _ (by simp only[aU];omega) ?_|exact dC _ _ _ (by first|rfl|simp only[aU])))
 have r: ¬(0<=x/\y<=1440/\x<=y)->fQ f x y=false:=fun h=>by
  unfold fQ;by_cases s:0<=x<;>by_cases j:y<=1440<;>by_cases C:x<=y<;>simp[s,j,C]at h⊢
 by_cases v:0<=x/\y<=1440/\x<=y
 case neg=>
  rw[r v];clear r;go_enter func32,ntmps32;by_cases S:x<0
  case' neg=>
   by_cases T:1440<y;case' neg=>have N:y<x:=by omega
  all_goals
   go_wp2
   go_ret
   exact⟨rfl,k⟩
 case pos=>
  obtain⟨t,u,m⟩:=v;have e:fQ f x y=eqm (fun i=>(inl [(x,y)] i&& !f i)&&decide (i<1440)) fun _=>false:=(by unfold fQ;simp[t,u,m]);rw[e];clear e r;have H:=LY (fun i=>(inl [(x,y)] i&& !f i)&&decide (i<1440)) (fun _=>false);generalize L:(w.alloc (.cells (mv f) 84)).alloc (.cells #[ag x,ag y] 87)=P at*;have U:=ak 0 j;have V:=ak 1 j;go_enter func32,ntmps32;go_wp2;refine dh (fun M φ W=>aq P W/\(M 1=true-> ∃g,φ 21= .slice (some (ae g 0)) 1 1/\W.heap[g]? =ah #[ag x,ag y] 87)) [kn 20 (.agg #[ag x,ag y]),td 21,kn 22 (.agg (mv (inl [(x,y)]))),kn 23 (.agg (mv f)),kn 24 (.agg (mv fun i=>(inl [(x,y)] i&& !f i)&&decide (i<1440))),kn 25 (.agg (mv fun _=>false)),kn 26 (.bool (eqm (fun i=>(inl [(x,y)] i&& !f i)&&decide (i<1440)) fun _=>false)),kn 4 (.bool (eqm (fun i=>(inl [(x,y)] i&& !f i)&&decide (i<1440)) fun _=>false))] (fun _=>⟨(aI _ _).drew,(fun h=>by cases h)⟩) (fun _ _ _ _ b h=>⟨aw h.1 b,fun c=>(h.2 c).imp fun _ q=>⟨q.1,ai b q.2⟩⟩) (by kernel_rfl) (fun M φ W a G F l z n=> ?_) (fun M φ W D a=> ?_)
  ·simp only[kn,td,dW,aQ,aX,Act.put,aA,aK,aJ]at z;subst z;simp only[cZ,Nat.reduceAdd]at n;obtain⟨a,E⟩:=a;dsimp only[kn,td,dB,eN,eg,Act.put];and_intros;all_goals first|exact trivial|intro J R Q K d
   all_goals try (go_simp;with_reducible exact d _ _ ⟨rfl,aI _ _⟩)
   ·refine dU 87 _ rfl _ (by simp[Act.eval,n]) _ _ _ _ (ai a j) underlying87 rfl (by kernel_rfl) ?_;exact d _ _ ⟨rfl,aI _ _⟩
   ·have b:=am W (.cells #[ag x,ag y] 87);go_simp;exact d _ _ ⟨trivial,aw a b,fun _=>⟨_,dF ..,aE W _⟩⟩
   ·obtain⟨g,p,I⟩:=E (J ⟨1,.data⟩ (by simp) rfl rfl);rw[p]at n;go_simp;refine(tC _ _ _ (Hm I)).mono ?_;rintro e B ⟨rfl,b⟩;exact d _ _ ⟨rfl,b⟩
   ·refine dU 84 _ rfl _ (by simp[Act.eval,n]) _ _ _ _ (ai a s) bV rfl (bh _) ?_;exact d _ _ ⟨rfl,aI _ _⟩
   ·go_simp;refine(qe _ _ _).mono ?_;rintro e B ⟨rfl,b⟩;exact d _ _ ⟨rfl,b⟩
  ·simp only[kn,td,eh,aQ,aX,Act.put,aA,aK,aJ];have A:PN (aq w W):=aw k a.1;clear D a O H;go_wp2;go_ret;exact⟨rfl,A.o⟩
theorem jm {w w':World}{g o:Nat}{xs:List Value}(h:w.rangeAt g o xs)(b:aq w w'):w'.rangeAt g o xs:=fun j u a=>(b.cell (bP (h j u a))).trans (h j u a)
theorem L7 (f:Nat->Bool):(mv f).toList.length=23:=by rw[bQ];exact bO f
theorem zS {op:Oper}{a:Act}{w:World}{K:Act->World->Prop}{Q:Exit->Act->World->Prop}(x:Operand)(d:op.op= .load 84 x)(b o:Nat)(e:a.eval x=ab b o)(f:Nat->Bool)(c:w.rangeAt b o (mv f).toList)(h:K (a.put op.dst (.agg (mv f))) w):op.wp prog a w K Q:=by
 refine wp_load_mid 84 x d b o e (mv f).toList _ c bV rfl (by rw[L7];kernel_rfl) ?_;simpa using h
theorem Hp:prog.underlying 87=some (.struct (prog.fieldsOf 87)):=by kernel_rfl
def sH (w:World)(v:Value)(a:List (Nat->Bool)):Prop:= ∃p c,v= .slice p a.length c/\a.length<9223372036854775808/\ ∀(j:Nat) (f:Nat->Bool),a[j]? =some f-> ∃g o:Nat,p=some ⟨g,o,none⟩/\w.rangeAt g (o+j*23) (mv f).toList
theorem sH.below {w w':World}{v:Value}{a:List (Nat->Bool)}(h:sH w v a)(k:aq w w'):sH w' v a:=by
 obtain⟨p,c,b,d,i⟩:=h;refine⟨p,c,b,d,fun j f l=> ?_⟩;obtain⟨g,o,e,m⟩:=i j f l;exact⟨g,o,e,jm m k⟩
def okP (a:List (Nat->Bool))(x y:Int)(r:Int):Bool:=fQ (a.getD r.toNat fun _=>false) x y
theorem lU {α:Type}{l:List α}{i:Nat}{x:α}(h:l[i]? =some x):l.take (i+1)=l.take i++[x]:=by
 obtain⟨a,b⟩:=aG.1 h;rw[fD,h];rfl
theorem zU {l m:List Int}{x:Int}(h:l++[x]=m):m.length=l.length+1:=by rw[<-h];simp
theorem xI {c a d:World}{v f:Value}{n:Nat}{xs:List Value}{C:Prop}(e:aq c a)(j:a.ownsRow c.heap.size 3 1 v n xs)(i:(f.ownBlock=v.ownBlock/\a.grownBy d v.ownBlock/\C)\/(a.grownBy d none/\ ∃g,f.ownBlock=some g/\a.heap.size<=g)):aq c d:=by
 rcases i with⟨_,h,_⟩|⟨h,_⟩
 ·exact gZ e h (aB _) (fun k b=>(j.lt k b).1)
 ·exact gZ e h (aB _) (fun k b=>by cases b)
theorem BV:prog.underlying 27=some (.slice 23):=by kernel_rfl
theorem J1:(prog.info? 23).map (fun i=>(i.zero,i.size,i.bytes))=some (some (af),1,24):=by kernel_rfl
structure lr (B:Nat)(w:World)(v:Value)(vs:List Value)(ls:List (List Int)):Prop where
 o:w.ownsRow B 23 1 v vs.length vs
 len:vs.length=ls.length
 each: ∀(i:Nat) (sv:Value) (l:List Int),vs[i]? =some sv->ls[i]? =some l->w.ownsRow B 3 1 sv l.length (dp l)
theorem lr.below {B:Nat}{w w':World}{v:Value}{c:List Value}{b:List (List Int)}(h:lr B w v c b)(a:aq w w'):lr B w' v c b:=
 ⟨ia h.o a,h.len,fun i sv l d e=>ia (h.each i sv l d e) a⟩
theorem lr.row {B:Nat}{w:World}{v:Value}{d:List Value}{f:List (List Int)}(h:lr B w v d f)(k:f.length<9223372036854775808)(q: ∀l∈f,l.length<9223372036854775808):fk w v f:=by
 rcases h.o.2 with⟨rfl,e⟩|⟨g,cap,b,rfl,_,p,_,_,_,r⟩
 ·refine⟨none,0,by rw[<-h.len,e],k,fun j n c=> ?_⟩;have:=(aG.1 c).1;rw[<-h.len]at this;omega
 ·refine⟨_,cap,by rw[h.len],k,fun j l c=> ?_⟩;have a:=(aG.1 c).1;rw[<-h.len]at a;have m:d[j]? =some d[j]:=az a;refine⟨g,0,d[j],rfl,?_,qB (h.each j _ l m c) (q l (aM c))⟩;rw[bN,aZ w g j b _ (0,0) p,<-bp]
  have e:(d:List Value)[j]? =b.toList[j]? :=by
   have i:=congrArg (fun l:List Value=>l[j]?) r;rw[Nat.mul_one,dK a]at i;exact i.symm
  rw[<-e,m]
theorem lr.snoc {B:Nat}{w w':World}{v p sv:Value}{c:List Value}{n:List (List Int)}{l:List Int}(h:lr B w v c n)(x:w.ownsRow B 3 1 sv l.length (dp l))(t:w'.ownsRow B 23 1 p (c.length+1) (c++[sv]))(r:w.grownBy w' v.ownBlock):lr B w' p (c++[sv]) (n++[l]):=by
 have d: ∀(u:Value) (m:List Int),w.ownsRow B 3 1 u m.length (dp m)->w'.ownsRow B 3 1 u m.length (dp m):=fun u m j=>by
  refine j.kept r ?_;cases hb:u.ownBlock with
  |none=>exact .inl rfl
  |some k=>
   refine .inr fun e=> ?_;rcases j.2 with⟨rfl,_⟩|⟨g,cap,q,rfl,_,f,_⟩
   ·cases hb
   ·have s:k=g:=(by simpa[Value.ownBlock] using hb.symm);subst s;exact qR h.o f (by decide) e.symm
 refine⟨by simpa using t,by simp[h.len],fun i u m a b=> ?_⟩;by_cases hi:i<c.length
 ·rw[du hi]at a;rw[du (by rw[<-h.len];exact hi)]at b;exact d u m (h.each i u m a b)
 ·rw[dj (by omega)]at a;rw[dj (by rw[<-h.len];omega),<-h.len]at b
  have e:i-c.length=0:=by
   have:=(aG.1 a).1;simp at this;omega
  rw[e]at a b;simp at a b;subst a b;exact d _ _ x
theorem np {w:World}{B:Nat}{e:TypeId}{size:Nat}{v:Value}{n:Nat}{xs:List Value}(h:w.ownsRow B e size v n xs): ∃(q:Option Addr) (c:Nat),v= .slice q n c:=by
 rcases h.2 with⟨e,a⟩|⟨_,_,_,e,_⟩
 ·exact⟨_,_,by rw[e,a]⟩
 ·exact⟨_,_,e⟩
theorem qC {w:World}{B c:Nat}{e:TypeId}{size:Nat}{v:Value}{n:Nat}{xs:List Value}(h:w.ownsRow c e size v n xs)(f:B<=c):w.ownsRow B e size v n xs:=by
 refine⟨h.1,?_⟩;rcases h.2 with j|⟨g,cap,b,d,i,a⟩
 ·exact .inl j
 ·exact .inr ⟨g,cap,b,d,bf f i,a⟩
theorem AD (roles:List (List Int))(rv:Value)(c:List (Nat->Bool))(fv:Value)(x y:Int)(w:World)(hR:fk w rv roles)(hF:sH w fv c)(aV: ∀p∈roles,p.length<=1000/\ ∀r∈p,0<=r/\r<(c.length:Int))(bp:roles.length<=1000):
  Calls prog 76 #[rv,fv,.agg #[ag x,ag y]] w fun e w'=> ∃v,e= .returned v/\fk w' v (kR (okP c x y) roles)/\aq w w':=by
 have U:=am w (.cells #[ag x,ag y] 87);have nA:=aE w (.cells #[ag x,ag y] 87);generalize bi:w.alloc (.cells #[ag x,ag y] 87)=X at*;have HR:=bK (hR.below U);have HF:=bK (hF.below U);have HB:=bK U;have ad:=bK aV;have aW:w.heap.size<X.heap.size:=aH nA;obtain⟨pr,cr,rfl,aY,_⟩:=hR;obtain⟨pf,cf,rfl,bo,_⟩:=hF;go_enter func76,ntmps76
 go_wp2_with fail;go_loopw [7,9,10,12,15] (fun a _ _ _ t wr=> ∃(j:Nat) (n:List Value) (qo:Option Addr) (co:Nat),a= .slice qo n.length co/\t=ag (j:Int)/\j<=roles.length/\PN (lr X.heap.size wr (.slice qo n.length co) n (kR (okP c x y) (roles.take j)))/\PN (aq X wr)) (fun _ _ _ _ t _=>roles.length-(intOf t).toNat);case atStart=>exact⟨0,[],_,_,rfl,rfl,by omega,⟨dc _ _ _ _,rfl,fun i sv l h _=>by simp at h⟩,aI _ _⟩
 case round=>
  obtain⟨j,n,qo,co,rfl,rfl,hj,HO,m⟩:=hrel;have bn:(0:Int)<=(j:Int):=(by omega);by_cases aZ:j<roles.length
  ·have a4:(j:Int)<(roles.length:Int):=(by omega);obtain⟨b,P⟩: ∃r,roles[j]? =some r:=⟨roles[j],az aZ⟩
   obtain⟨_,_,e1,_,ay⟩:=HR.o;cases e1;obtain⟨gr,or,sv,bd,aT,S⟩:=ay j _ P;subst bd;have hc:=aj m.o aT;obtain⟨ar,ac,rfl,a8,E⟩:=S.below m.o;have HC:=bK E;have aC:=bK P;have ah:=bK (ad.o b (aM P));have bg:b.length<=1000:=ah.o.1
   have aO:PN (∀i:Nat,((b.take i).filter (okP c x y)).length<=1000000):=fun i=>by
    have h2:=List.length_filter_le (okP c x y) (b.take i);have z:=List.length_take_le' i b;omega
   obtain⟨V,G⟩: ∃q,q=wr:=⟨_,rfl⟩
   have a6:=(m.o.block _ aW).trans nA;have aa:=bK (HF.o.below m.o);rw[<-G]at a6 aa HC;have H:PN (aq X V):=(by rw[G];exact m);have aF:PN (lr X.heap.size V (.slice qo n.length co) n (kR (okP c x y) (roles.take j))):=(by rw[G];exact HO);have aP:=bK G;go_wp2_with fail;go_loopw [10,12,21] (fun a _ t W=> ∃(i:Nat) (B:Option Addr) (A:Nat),a= .slice B ((b.take i).filter (okP c x y)).length A/\t=ag (i:Int)/\i<=b.length/\PN (W.ownsRow V.heap.size 3 1 (.slice B ((b.take i).filter (okP c x y)).length A) ((b.take i).filter (okP c x y)).length (dp ((b.take i).filter (okP c x y))))/\PN (aq V W)) (fun _ _ t _=>b.length-(intOf t).toNat);case atStart=>exact⟨0,none,0,rfl,rfl,by omega,dc _ _ _ _,by rw[aP.o];exact aI _ _⟩
   case round=>
    obtain⟨i,B,A,rfl,rfl,hi,ap,g⟩:=hrel;have bm:(0:Int)<=(i:Int):=(by omega);by_cases a5:i<b.length
    ·have Q:(i:Int)<(b.length:Int):=(by omega);obtain⟨r,F⟩: ∃r,b[i]? =some r:=⟨b[i],az a5⟩
     obtain⟨h1,h2⟩:=ah.o.2 r (aM F);obtain⟨d,bf⟩: ∃d:Nat,r=(d:Int):=⟨r.toNat,by omega⟩
     subst bf;obtain⟨f,hf⟩: ∃f,c[d]? =some f:=⟨c[d]'(by omega),az (by omega)⟩
     obtain⟨ga,oa,bc,aR⟩:=HC.o i _ F;subst bc;have ca:=aj g.o aR;obtain⟨_,_,e3,_,N⟩:=aa.o;cases e3;obtain⟨gf,of,be,a7⟩:=N d f hf;subst be;have bk:=jm a7 g.o;have n5:=ai g.o a6
     have ao:PN (okP c x y (d:Int)=fQ f x y):=by
      show _=_;unfold okP;rw[cj];congr 1;simp[List.getD,hf]
     go_wp2_with fail;refine dh (fun _ _ W=>aq wr W) [kn 25 (.slice (some (ae gf of)) c.length cf),kn 26 (ag (d:Int)),kn 27 (ab gf (of+d*23)),kn 28 (.agg (mv f)),kn 29 (.agg #[ag x,ag y]),kn 30 (.bool (fQ f x y))] (fun _=>(aI _ _).drew) (fun _ _ _ _ hb h=>aw h hb) (by kernel_rfl) (fun M φ W2 hJ bl FF ll a3 L=> ?_) (fun M φ W5 hM hJ=> ?_)
     ·simp only[kn,dW,aQ,aX,Act.put,aA,aK,aJ]at a3;subst a3;simp only[cZ,Nat.reduceAdd]at L;dsimp only[kn,dB,eN,eg,Act.put];and_intros;all_goals first|exact trivial|intro qw qn qm K hK
      all_goals try (go_simp;with_reducible exact hK _ _ ⟨rfl,aI _ _⟩)
      ·refine zS _ rfl gf (of+d*23) (by simp[Act.eval,L]) f (jm bk hJ) ?_;exact hK _ _ ⟨rfl,aI _ _⟩
      ·refine dU 87 _ rfl _ (by simp[Act.eval,L]) _ _ _ _ (ai hJ n5) Hp rfl (by kernel_rfl) ?_;exact hK _ _ ⟨rfl,aI _ _⟩
      ·go_simp;refine(tP f x y W2).mono ?_;rintro r' W' ⟨rfl,aS⟩;exact hK _ _ ⟨rfl,aS⟩
     ·simp only[kn,eh,aQ,aX,Act.put,aA,aK,aJ];have al:=bK (ia ap.o hJ);have Y:=bK (aw g.o hJ);cases hok:fQ f x y with
      |true=>
       have U:=am W5 (.cells #[ag (d:Int)] 3);have nA:=aE W5 (.cells #[ag (d:Int)] 3);generalize bi:W5.alloc (.cells #[ag (d:Int)] 3)=wB at*;have zA:=ak 0 nA;have an:=bK (ia al.o U);have Z:=bK (aw Y.o U)
       have s:PN (((b.take i).filter (okP c x y))++[(d:Int)]=(b.take (i+1)).filter (okP c x y)):=by
        show _=_;rw[lU F,List.filter_append];congr 1;rw[List.filter_cons,aD (by rw[ao.o];exact hok)];rfl
       go_wp2_with(first
        |(refine lT rfl _ _ rfl V.heap.size _ ((b.take i).filter (okP c x y)) (d:Int) rfl ?ho W5.heap.size 1 rfl zA ?hl ?hb ?_
          case ho=>exact an.o
          case hl=>exact aO.o i
          case hb=>exact Z.o.size
          intro v' w3 R O))
       have I:=bK (xI Z.o an.o O);have J:=bK R;go_wp2_with fail;go_roundw
       case rel=>
        have z:=J.o;rw[s.o,<-zU s.o]at z;obtain⟨q',c',T⟩:=np z;subst T;exact⟨i+1,q',c',rfl,by go_num,by omega,z,I⟩
       case measure=>simp[intOf];omega
      |false=>
       have s:PN ((b.take i).filter (okP c x y)=(b.take (i+1)).filter (okP c x y)):=by
        show _=_;rw[lU F,List.filter_append,List.filter_cons,ax (by rw[ao.o,hok];decide)];simp
       go_wp2_with fail;go_roundw
       case rel=>
        have z:=al.o;rw[s.o]at z;exact⟨i+1,B,A,by rw[s.o],by go_num,by omega,z,Y⟩
       case measure=>simp[intOf];omega
    ·have Q: ¬(i:Int)<(b.length:Int):=(by omega);have aU:i=b.length:=(by omega)
     have av:PN (wr.ownsRow V.heap.size 3 1 (.slice B ((b.take i).filter (okP c x y)).length A) (b.filter (okP c x y)).length (dp (b.filter (okP c x y)))):=by
      have h:=ap.o;rw[aU,cQ (aB _)]at h⊢;exact h
     obtain⟨nl,bb⟩:=au (((b.take i).filter (okP c x y)).length);rw[bb]at av⊢;have a9:=bK (aw H.o g.o);have aG:=bK (aF.o.below g.o);have bB:=am wr (.cells #[.slice B nl A] 23);have nB:=aE wr (.cells #[.slice B nl A] 23);generalize br:wr.alloc (.cells #[.slice B nl A] 23)=wB at*;have zB:=ak 0 nB;have D:=bK (aG.o.below bB);have HcB:=bK (qC (ia av.o bB) H.o.size);have C:=bK (aw a9.o bB)
     have HT:PN (kR (okP c x y) (roles.take j)++[b.filter (okP c x y)]=kR (okP c x y) (roles.take (j+1))):=by
      show _=_;unfold kR;rw[lU aC.o,dN];rfl
     obtain⟨i0,a2,bj,bh,a0⟩:=oA J1;have HI:=bK a2
     have bq:n.length<=1000:=by
      rw[D.o.len];unfold kR;rw[ba];have:=List.length_take_le' j roles;omega
     go_wp2_with(first
      |(refine iZ wB rfl _ _ 27 rfl X.heap.size 23 i0 (af) 1 24 BV HI.o bj bh a0 rfl (by decide) _ n.length n rfl D.o.o ⟨wr.heap.size,0,none⟩ 1 1 [.slice B nl A] rfl rfl ?hn ?h1 ?h63 ?hby ?hb ?_
        case hn=>
         intro q u hq
         match q,hq with
         |0,hq=>cases aN hq;simpa[Addr.add] using zB
         |q+1,hq=>simp at hq
        case h1=>simp[Value.oneCell']
        case h63=>unfold maxLen;omega
        case hby=>omega
        case hb=>exact C.o.size
        intro v' w3 R a1 _))
     have J:=bK (D.o.snoc HcB.o R a1);have I:=bK (gZ C.o a1 (aB _) (fun k hk=>(D.o.o.lt k hk).1));go_wp2_with fail;go_roundw
     case rel=>
      have z:=J.o;rw[HT.o]at z;have e1:(n++[Value.slice B nl A]).length=n.length+1:=(by simp);obtain⟨q',c',T⟩:=np z.o;subst T;exact⟨j+1,_,q',c',rfl,by go_num,by omega,z,I⟩
     case measure=>simp[intOf];omega
  ·have a4: ¬(j:Int)<(roles.length:Int):=(by omega)
   have aL:PN (fk wr (.slice qo n.length co) (kR (okP c x y) roles)):=by
    have e:j=roles.length:=(by omega);have h:=HO.o;rw[e,cQ (aB _)]at h;refine h.row (by unfold kR;rw[ba];exact aY) fun l hl=> ?_;unfold kR at hl;rw[dV]at hl;obtain⟨p,hp,rfl⟩:=hl;have h1:=(ad.o p hp).1;have h2:=List.length_filter_le (okP c x y) p;omega
   have C:=bK (aw HB.o m.o);go_wp2_with fail;go_ret;exact⟨_,rfl,aL.o,C.o⟩
theorem kL {w w':World}(h:Tab w)(b:aq w w'):Tab w':=fun j a=>(b.cell (bP (h j a))).trans (h j a)
theorem zV (f:Nat->Bool)(w:World)(n:Tab w):
  Calls prog 92 #[.agg (mv f)] w fun e w'=>(∃v,e= .returned v/\w'.ownsRow w.heap.size 87 2 v (rs f 1440).length (iU (rs f 1440)))/\lE f 1440 (rs f 1440)/\aq w w':=by
 have p: ∀(j:Fn) (first cap:Array Value) (w:World),(Instr.makeFunc j first cap).run prog w= .ok (.func j first cap) w:=fun _ _ _ _=>rfl;have i:((w.alloc (.cells (mv f) 84)).alloc (.cells #[af] 118)).heap[w.heap.size]? =ah (mv f) 84:=by(repeat (first|refine dl _ _ _ (by simp only[aU];omega) ?_|exact dC _ _ _ (by first|rfl|simp only[aU])))
 have c:((w.alloc (.cells (mv f) 84)).alloc (.cells #[af] 118)).heap[w.heap.size+1]? =ah #[af] 118:=by(repeat (first|refine dl _ _ _ (by simp only[aU];omega) ?_|exact dC _ _ _ (by first|rfl|simp only[aU])))
 have d:aq w ((w.alloc (.cells (mv f) 84)).alloc (.cells #[af] 118)):=(am _ _).alloc (by simp) _;have m:=C1 f w _ _ n (by omega) ⟨d,⟨_,c,dc _ _ _ _⟩,sG.zero f,by omega⟩;clear c d;go_enter func92,ntmps92
 go_wp2_with(first
  |(refine aR rfl 84 _ rfl _ rfl _ _ _ _ i bV rfl (bh _) ?_)
  |(go_at_call 123;refine m.mono ?_;rintro e w' ⟨rfl,g,⟨v,q,b⟩,a⟩;have c1:=cell_of_one q;have l:PN (_):=b;have k:PN (lE f 1440 (rs f 1440)):=a;clear b a))
 go_ret;exact⟨⟨v,rfl,l.o⟩,k.o,g⟩
namespace Msk
theorem zZ (f:Nat->Bool): ∀m,f m=true-> ∃a,a<=m/\(a=0\/f (a-1)=false)/\ ∀i,a<=i->i<=m->f i=true
 |0,h=>⟨0,aB _,.inl rfl,fun i _ hi=>by rw[show i=0 by omega];exact h⟩
 |m+1,h=>by
  cases hm:f m with
  |false=>exact⟨m+1,aB _,.inr hm,fun i c b=>by rw[show i=m+1 by omega];exact h⟩
  |true=>
   obtain⟨a,c,b,d⟩:=zZ f m hm;refine⟨a,by omega,b,fun i hi g=> ?_⟩;by_cases e:i=m+1
   ·rw[e];exact h
   ·exact d i hi (by omega)
theorem J3 (f:Nat->Bool): ∀n,lE f n (rs f n)/\((n=0\/f (n-1)=false)->qQ (-1) (rs f n)<n):=by
 intro n;induction n using Nat.strongRecOn with
 |ind n b=>
  match n,b with
  |0,_=>exact⟨lE.zero f,fun _=>by show(-1:Int)<0;omega⟩
  |m+1,b=>
   cases hm:f m with
   |false=>
    have e:rs f (m+1)=rs f m:=(by rw[rs,hm];rfl);have h:=(b m (by omega)).1;rw[e];refine⟨h.skip (m+1) (by omega) fun i j c=>by rw[show i=m by omega];exact hm,fun _=> ?_⟩;have:=h.last;omega
   |true=>
    obtain⟨a,j,c,g⟩:=zZ f m hm;obtain⟨r1,l⟩:=b a (by omega);have e:=BS f a c (m-a) (fun i d k=>g i d (by omega));rw[show a+(m-a+1)=m+1 by omega]at e;rw[e];refine⟨r1.run (l c) (m+1) (by omega) (fun i d k=>g i d (by omega)),fun h=> ?_⟩;rcases h with h|h
    ·omega
    ·rw[show m+1-1=m by omega,hm]at h;cases h
theorem DT (f:Nat->Bool)(n:Nat):lE f n (rs f n):=(J3 f n).1
end Msk
def iv (f:In×Value):Array Value:= #[ag f.1.op,ag f.1.a,ag f.1.b,ag f.1.to,f.2]
def jr (S:List (In×Value)):List Value:=S.flatMap fun f=>(iv f).toList
theorem pm: ∀S:List (In×Value),(jr S).length=S.length*5
 |[]=>rfl
 |f::S=>by
  have:=pm S;unfold jr at this⊢;rw[List.flatMap_cons,aP,this];have h:(iv f).toList.length=5:=rfl;rw[h,bJ];omega
theorem Fo (S:List (In×Value))(f:In×Value):jr (S++[f])=jr S++(iv f).toList:=by
 unfold jr;rw[fw];simp
structure WsC (w0:World)(gm:Nat)(mp:Value)(S:List (In×Value))(W:World):Prop where
 bel:aq w0 W
 gt:w0.heap.size<=gm
 row: ∃sv,W.heap[gm]? =ah #[mp,sv] 137/\W.ownsRow w0.heap.size 177 5 sv S.length (jr S)
theorem WsC.below {d W b:World}{gm:Nat}{c:Value}{S:List (In×Value)}(h:WsC d gm c S W)(a:aq W b):WsC d gm c S b:=by
 obtain⟨e,f,sv,g,i⟩:=h;exact⟨aw e a,f,sv,ai a g,io i a⟩
theorem Ke:(prog.info? 177).map (fun i=>(i.zero,i.size,i.bytes))=some (some (.agg #[ag 0,ag 0,ag 0,ag 0,af]),5,56):=by kernel_rfl
theorem Ic:prog.underlying 135=some (.slice 177):=by kernel_rfl
def tR (gm:Nat)(W:World):Option Nat:=match W.cell? (ae gm 1) with
 |some v=>v.ownBlock
 |none=>none
theorem oG {gm:Nat}{W:World}{a sv:Value}(h:W.heap[gm]? =ah #[a,sv] 137):tR gm W=sv.ownBlock:=by
 unfold tR;rw[aZ _ _ 1 _ _ _ h];rfl
structure Fr2 (gm:Nat)(W W':World):Prop where
 blk: ∀q,q<W.heap.size->q≠gm->tR gm W≠some q->W'.heap[q]? =W.heap[q]?
 row:tR gm W'=tR gm W\/ ∃g,tR gm W'=some g/\W.heap.size<=g
 size:W.heap.size<=W'.heap.size
theorem Fr2.trans {gm:Nat}{w w' b:World}(h:Fr2 gm w w')(c:Fr2 gm w' b):Fr2 gm w b:=by
 refine⟨fun q f a i=> ?_,?_,bf h.size c.size⟩
 ·refine(c.blk q (aT f h.size) a ?_).trans (h.blk q f a i);rcases h.row with e|⟨g,e,d⟩
  ·rw[e];exact i
  ·rw[e];intro e2;injection e2 with e2;omega
 ·rcases c.row with e|⟨g,e,d⟩
  ·rw[e];exact h.row
  ·exact .inr ⟨g,e,bf h.size d⟩
theorem Fr2.below {gm:Nat}{w w':World}(c:gm<w.heap.size)(b:aq w w'):Fr2 gm w w':=by
 refine⟨fun q d _ _=>b.block q d,.inl ?_,b.size⟩;unfold tR;rw[ef (a:=⟨gm,1,none⟩) (b.block gm c)]
theorem v6:prog.underlying 177=some (.struct (prog.fieldsOf 177)):=by kernel_rfl
theorem D1 (f:In×Value):(iv f).toList.length=5:=rfl
theorem NV {f:In×Value}(h: ∃p n c,f.2= .slice p n c):(iv f).all (·.oneCell')=true:=by
 obtain⟨p,n,c,e⟩:=h;unfold iv;rw[e];simp[Value.oneCell']
theorem NW (f:In×Value)(h: ∃p n c,f.2= .slice p n c)(W:World):(Instr.buildSlice 135 1 #[(0,.agg (iv f))]).run prog W= .ok (.slice (some (ae W.heap.size 0)) 1 1) (W.alloc (.cells (iv f) 177)):=by
 obtain⟨p,n,c,e⟩:=h;unfold iv;rw[e];kernel_rfl
theorem Ie {op:Oper}{a:Act}{w:World}{K:Act->World->Prop}{Q:Exit->Act->World->Prop}(x:Operand)(e:op.op= .buildSlice 135 1 #[(0,x)])(f:In×Value)(d: ∃p n c,f.2= .slice p n c)(g:a.eval x= .agg (iv f))(h:K (a.put op.dst (.slice (some (ae w.heap.size 0)) 1 1)) (w.alloc (.cells (iv f) 177))):op.wp prog a w K Q:=by
 unfold Oper.wp execOp;have b:=NW f d w;simp only[e,g,iC,dI,fg,ju,jV,gG,b];exact h
structure KV (base:Nat)(sv:Value)(n:Nat)(xs:List Value)(f:In×Value)(W1:World)(R:World->Prop)(D:Nat->Bool)(φ:Nat->Value)(W:World):Prop where
 grown:D 10=false->W1.grownBy W sv.ownBlock
 own:D 7=false->W.ownsRow base 177 5 sv n xs
 one:D 6=true->D 7=false-> ∃g,φ 10= .slice (some (ae g 0)) 1 1/\W.heap[g]? =ah (iv f) 177
 app:D 7=true->D 10=false->W.ownsRow base 177 5 (φ 11) (n+1) (xs++(iv f).toList)/\((φ 11).ownBlock=sv.ownBlock\/ ∃g,(φ 11).ownBlock=some g/\W1.heap.size<=g)
 fin:D 10=true->R W
theorem Kf (L:World)(gm:Nat)(mp:Value)(S:List (In×Value))(f:In×Value)(W:World)(h:WsC L gm mp S W)(hS:S.length<=1000)(hf: ∃p n c,f.2= .slice p n c):
  Calls prog 91 #[ab gm 0,.agg (iv f)] W fun e z=>e= .returned (.tuple #[])/\WsC L gm mp (S++[f]) z/\(∀(q:Nat) (c:Array Value) (T:TypeId),W.heap[q]? =ah c T->T≠177->q≠gm->z.heap[q]? =ah c T)/\Fr2 gm W z:=by
 obtain⟨G,hgt,sv,Y,r⟩:=h;obtain⟨i0,hi,al,a2,a3⟩:=jp Ke;have HZ:=a8 al;have C:=a8 hf;clear hf;have N:=am W (.cells (iv f) 177);have an:=aE W (.cells (iv f) 177);have nM:=ai N Y;have s:=io r N;have aa:=a8 (oG Y);have ao:PN (∀q,q<W.heap.size->(W.alloc (.cells (iv f) 177)).heap[q]? =W.heap[q]?):=fun q m=>N.block q m;have M:PN (W.heap.size<=(W.alloc (.cells (iv f) 177)).heap.size):=N.size;have I:=ko s nM (by decide)
 have H:some W.heap.size≠sv.ownBlock:=fun e=>by
  have:=(r.lt _ e.symm).2;omega
 have j:=aw G N;have ax:=j.size;obtain⟨p0,c0,az⟩:=df r;subst az;have ap:PN (∀(q:Nat) (c:Array Value) (T:TypeId),W.heap[q]? =ah c T->(W.alloc (.cells (iv f) 177)).heap[q]? =ah c T):=fun q c T m=>ai N m;obtain⟨gb,af⟩:=au W.heap.size;generalize a1:W.alloc (.cells (iv f) 177)=wB at*;rw[af]at H;have nB:wB.heap[gb]? =ah (iv f) 177:=by rw[<-af];exact an
 clear al an Y r N G;go_enter func91,ntmps91;go_wp2_with fail;clear a1;obtain⟨R,hR⟩: ∃R:World->Prop,R=fun z=>WsC L gm mp (S++[f]) z/\(∀(q:Nat) (c:Array Value) (T:TypeId),W.heap[q]? =ah c T->T≠177->q≠gm->z.heap[q]? =ah c T)/\Fr2 gm W z:=⟨_,rfl⟩
 have HR:=a8 hR
 have ar:PN (∀W z,aq W z->R W->R z):=by
  subst hR;rintro W1 z B ⟨P,h2,h3⟩;obtain⟨_,_,_,ay,_⟩:=id P;exact⟨P.below B,fun q c T a b d=>(B.block _ (aH (h2 q c T a b d))).trans (h2 q c T a b d),h3.trans (Fr2.below (aH ay) B)⟩
 clear hR;refine dh (KV L.heap.size (.slice p0 S.length c0) S.length (jr S) f wB R) [kn 4 (ab gm 0),kn 5 (ab gm 0),kn 6 (ab gm 0),kn 7 (ab gm 1),kn 8 (.slice p0 S.length c0),kn 9 (.agg (iv f)),td 10,td 11,kn 12 (ab gm 0),kn 13 (ab gm 1),nk] (fun _=>⟨fun _=>⟨rfl,rfl,rfl,aB _,fun _ _ _=>rfl⟩,fun _=>s,(fun h=>by cases h),(fun h=>by cases h),(fun h=>by cases h)⟩) (fun _ _ _ _ B h=>⟨fun e=>oT (h.grown e) B,fun e=>io (h.own e) B,fun e e'=>(h.one e e').imp fun _ q=>⟨q.1,ai B q.2⟩,fun e e'=>⟨io (h.app e e').1 B,(h.app e e').2⟩,fun e=>ar.o _ _ B (h.fin e)⟩) (by kernel_rfl) (fun D φ A w ad F l hl Q=> ?_) (fun D φ A hM w=> ?_)
 ·simp only[kn,td,nk,dW,aQ,aX,Act.put,aA,aK,aJ]at hl;subst hl;simp only[cZ,Nat.reduceAdd]at Q
  have t:D 7=false->D 10=false:=fun h7=>by
   cases h:D 10 with
   |false=>rfl
   |true=>rw[ad 10 _ rfl h ⟨7,.data⟩ (by simp) rfl rfl]at h7;cases h7
  dsimp only[kn,td,nk,dB,eN,eg,Act.put];and_intros;all_goals first|exact trivial|intro hw V hm K hK
  all_goals try (go_simp;with_reducible exact hK _ _ ⟨rfl,aI _ _⟩)
  ·have x:=((w.grown (t (V 7 _ rfl (by kernel_rfl)))).block _ (aH nM) I).trans nM;have z2:=ak 1 x;go_simp;exact hK _ _ ⟨rfl,aI _ _⟩
  ·have y:D 7=false:=by
    cases h:D 7 with
    |false=>rfl
    |true=>
     have:=V 6 _ rfl (by kernel_rfl);rw[ad 7 _ rfl h ⟨6,.data⟩ (by simp) rfl rfl]at this;cases this
   have a4:=((w.grown (t y)).block _ (aH nB) H).trans nB;refine dU 177 _ rfl _ (by simp[Act.eval,Q]) _ _ _ _ a4 v6 rfl (by kernel_rfl) ?_;exact hK _ _ ⟨rfl,aI _ _⟩
  ·have B:=am A (.cells (iv f) 177);have y:=V 7 _ rfl (by kernel_rfl);refine Ie _ rfl f C.o (by simp[Act.eval,Q]) ?_;exact hK _ _ ⟨trivial,fun _=>oT (w.grown (t y)) B,fun _=>io (w.own y) B,fun _ _=>⟨_,dF ..,aE A _⟩,(fun h=>by simp[y]at h),(fun h=>by simp[t y]at h)⟩
  ·obtain⟨g,av,hh⟩:=w.one (hw ⟨6,.data⟩ (by simp) rfl rfl) hm;have v:=w.grown (t hm);rw[av]at Q;refine sV _ _ 135 rfl L.heap.size 177 i0 _ 5 56 Ic hi HZ.o a2 a3 rfl (by decide) (.slice p0 S.length c0) S.length (jr S) (by simp[Act.eval,Q]) (w.own hm) ⟨g,0,none⟩ 1 1 (iv f).toList (by simp[Act.eval,Q]) (D1 f) ?c1 ?c2 (by unfold maxLen;omega) (by omega) ?c5 ?_
   case c1=>
    intro q u m;rw[uM];exact(aZ _ _ _ _ _ _ hh).trans (by rw[bN,<-bp];exact m)
   case c2=>
    intro u hu;have:=NV C.o;rw[Array.all_eq_true_iff_forall_mem]at this;exact this u (Array.mem_def.2 hu)
   case c5=>exact bf ax v.size
   intro v' z aj U ac;exact hK _ _ ⟨trivial,fun _=>vo v U,(fun e=>by simp at e),(fun _ e=>by simp at e),fun _ _=>by rw[dF];exact⟨aj,ac.imp id fun e=>⟨_,e,v.size⟩⟩,(fun e=>by simp[t hm]at e)⟩
  ·have q7:=hw ⟨7,.data⟩ (by simp) rfl rfl;obtain⟨i,E⟩:=w.app q7 hm;have v:=w.grown hm;obtain⟨Z,O,a0⟩:=df i;rw[a0]at Q i E;have x:=(v.block _ (aH nM) I).trans nM;have z2:=ak 1 x;have y2:=bl _ _ 1 _ _ x;have ag:=ko i x (by decide);have nS:(A.setCell ⟨gm,1,none⟩ (.slice Z (S.length+1) O)).heap[gm]? =ah #[mp,.slice Z (S.length+1) O] 137:=aY A gm 1 _ _ _ x
   have bS:aq L (A.setCell ⟨gm,1,none⟩ (.slice Z (S.length+1) O)):=by
    refine Below.setCell (p:=⟨gm,1,none⟩) ⟨v.os.trans j.os,v.tape.trans j.tape,v.output.trans j.output,bf j.size v.size,fun q m=> ?_⟩ hgt _;refine(v.block q (aT m j.size) fun e=> ?_).trans (j.block q m);have:=(s.lt _ e.symm).1;omega
   have J:(A.setCell ⟨gm,1,none⟩ (.slice Z (S.length+1) O)).ownsRow L.heap.size 177 5 (.slice Z (S.length+1) O) (S++[f]).length (jr (S++[f])):=by
    rw[Fo,aP,dP];refine i.kept (row:=some gm) ⟨rfl,rfl,rfl,by simp,fun q m hr=>aO A ⟨gm,1,none⟩ q _ fun e=>hr (congrArg some e)⟩ (.inr fun e=>ag e.symm)
   have ae:Fr2 gm W (A.setCell ⟨gm,1,none⟩ (.slice Z (S.length+1) O)):=by
    refine⟨fun q m X hr=> ?_,?_,?_⟩
    ·refine(aO A ⟨gm,1,none⟩ q _ X).trans ((v.block q (aT m M.o) fun e=> ?_).trans (ao.o q m));exact hr (aa.o.trans e.symm)
    ·rw[oG nS,aa.o];exact E.imp id fun⟨g,e,hg⟩=>⟨g,e,bf M.o hg⟩
    ·have P:=M.o;have h2:=v.size;simp;omega
   have HJ:PN (∀φ',KV L.heap.size (.slice p0 S.length c0) S.length (jr S) f wB R (fun k=>decide (10=k)||D k) φ' (A.setCell ⟨gm,1,none⟩ (.slice Z (S.length+1) O))):=fun _=>⟨(fun h=>by simp at h),(fun h=>by simp[q7]at h),(fun _ h=>by simp[q7]at h),(fun _ h=>by simp at h),fun _=>by rw[HR.o];exact⟨⟨bS,hgt,_,nS,J⟩,fun q c T m hT X=>(by
    have P:=ap.o q c T m;exact(aO A ⟨gm,1,none⟩ q _ X).trans ((v.block _ (aH P) (ko s P hT)).trans P)),ae⟩⟩
   clear i J nS bS w ae;go_simp;exact hK undef _ ⟨trivial,HJ.o _⟩
 ·have V:=w.fin (hM 10 (by decide) rfl);rw[HR.o]at V;have HN:=a8 V;simp only[kn,td,nk,eh,aQ,aX,Act.put,aA,aK,aJ];clear hM w V;go_wp2_with fail;exact⟨rfl,_,eO rfl _ _ _,rfl,HN.o⟩
structure Got where
 m:M
 l:List Kp
 n:Int
 er:Int
 at_:Nat
def jc (b:List Cd)(l:List Kp)(runs c a day:Int):Got:=
 if mZ l c a day=true then⟨(l.getD (gJ a day l 0).toNat k0).m,fX l (gJ a day l 0)++[l.getD (gJ a day l 0).toNat k0],runs,0,0⟩
 else if(ja b a day).1≠0 then⟨fun _=>false,[],0,(ja b a day).1,(ja b a day).2⟩
 else⟨oq b a day,sE (fX l (gJ a day l 0)++[⟨a,day,c,oq b a day⟩]),IntKind.i64.wrap (runs+1),0,0⟩
theorem Mu (c:List Cd)(l:List Kp)(d lv:Value)(runs b a day:Int)(w:World)(h:en 0 w d l)(i:l.length<=676622540150)(e:InV w lv c):
  Calls prog 71 #[.agg #[d,ag runs],lv,ag b,ag a,ag day] w (yJ (jc c l runs b a day).m (jc c l runs b a day).l (jc c l runs b a day).n (jc c l runs b a day).er ((jc c l runs b a day).at_:Int) w):=by
 unfold jc;by_cases g:mZ l b a day=true
 ·rw[aD g];exact L3 l d lv runs b a day w h i g
 ·rw[ax g];have j:mZ l b a day=false:=Bool.eq_false_iff.2 g;by_cases f:(ja c a day).1≠0
  ·rw[aD f];exact Hl c l d lv runs b a day w h i e j f
  ·rw[ax f];exact L4 c l d lv runs b a day w h i e j (Classical.not_not.1 f)
end Go.Proofs.YtaoljfdfhggbbaaGreatDoor
