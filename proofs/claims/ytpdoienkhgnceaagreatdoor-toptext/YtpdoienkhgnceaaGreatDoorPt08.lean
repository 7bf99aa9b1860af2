/- Texts of the proof. -/
import Derived.Test.YtpdoienkhgnceaaGreatDoorPt07
import Derived.Lib.AppendZeros
set_option maxRecDepth 100000
set_option maxHeartbeats 8000000
namespace Go.Proofs.YtpdoienkhgnceaaGreatDoor
open Go.Proofs.Tryz Go.RowKit Lx Vx Mx Msk
namespace Vx
structure Kp where
 r:Int
 d:Int
 v:Int
 m:M
def k0:Kp:=⟨0,0,0,noM⟩
def iC (r d:Int):List Kp->Nat->Int
 |[],_=> -1
 |k::l,j=>if k.r=r/\k.d=d then(j:Int) else iC r d l (j+1)
theorem KH {r d:Int}{l:List Kp}{j:Nat}{k:Kp}(h:l[j]? =some k)(i:Nat):iC r d (l.drop j) i=if k.r=r/\k.d=d then(i:Int) else iC r d (l.drop (j+1)) (i+1):=by
 have a:=(aE.1 h).1
 have e:l.drop j=k::l.drop (j+1):=by
  rw[bG a];congr 1;exact(aE.1 h).2
 rw[e];rfl
theorem tp (r d:Int): ∀(l:List Kp) (j:Nat),iC r d l j= -1\/((j:Int)<=iC r d l j/\iC r d l j<(j:Int)+l.length)
 |[],_=> .inl rfl
 |k::l,j=>by
  unfold iC;by_cases h:k.r=r/\k.d=d
  ·rw[ax h];refine .inr ⟨gy _,?_⟩;rw[bK];omega
  ·rw[aw h];rcases tp r d l (j+1) with a|⟨a,b⟩
   ·exact .inl a
   ·refine .inr ⟨by omega,?_⟩;rw[bK];omega
def gQ (l:List Kp)(i:Int):List Kp:=if 0<=i then l.take i.toNat++l.drop (i.toNat+1) else l
def wh (l:List Kp):List Kp:=l.drop (l.length-64)
def pB (l:List Kp)(v r d:Int):Bool:=decide (0<=iC r d l 0)&&decide ((l.getD (iC r d l 0).toNat k0).v=v)
theorem Iw {l:List Kp}{i:Int}(h:i<l.length):(gQ l i).length<=l.length:=by
 unfold gQ;split
 ·simp;omega
 ·exact aA _
theorem Fm {l:List Kp}{i:Int}(a:0<=i)(h:i<l.length):(gQ l i).length+1=l.length:=by
 unfold gQ;rw[ax a];simp;omega
def al8:List Cd:=[⟨[⟨1,0,0,0,[(5,9)]⟩,⟨1,0,0,0,[(7,12)]⟩,⟨2,0,0,0,[]⟩],2,3⟩]
def al9:List Cd:=[⟨[⟨1,0,0,0,[(5,9)]⟩],1,1⟩]
section
variable {wk:Int->Bool} {day:Int} {cs:List Cd} {l:List In}
structure Fr where
 r:Nat
 k:Nat
 S:List M
section
variable (wk:Int->Bool) (day:Int) (cs:List Cd)
end
end
section
variable {wk:Int->Bool} {day:Int} {cs:List Cd} {l:List In}
abbrev Rm (cs:List Cd)(r:Nat):List In:=(cs.getD r cd0).ins
theorem nh.at (b:nh cs){r:Nat}(d:r<cs.length): ∃c,cs[r]? =some c/\Rm cs r=c.ins/\mI c.ins/\(∀(j:Nat) (x:In),c.ins[j]? =some x->fT x j c.ins.length cs.length=0)/\c.ins.length<=2000:=by
 have a:cs[r]? =some cs[r]:=az d;have ha:=jB (b.alone r _ a);exact⟨cs[r],a,by unfold Rm;rw[jh a],(b.fit r _ a).well,ha.2.2,ha.1.2⟩
end
end Vx
section
section
variable {wd:World} {gb:Nat} {X:Array Value} {L:Nat->Bool} {W:World}
end
section
variable {w0 W W':World} {F:List Fr} {S:List M} {sv fv:Value} {gb:Nat} {X:Array Value}
theorem Ix {w0 W W':World}{row:Option Nat}(a:ao w0 W)(b:W.grownBy W' row)(d: ∀k,row=some k->w0.heap.size<=k):ao w0 W':=
 ⟨b.os.trans a.os,b.tape.trans a.tape,b.output.trans a.output,bh a.size b.size,fun q c=>(b.block q (aT c a.size) fun e=>by have:=d q e.symm;omega).trans (a.block q c)⟩
end
end
section
section
variable {vals:List Value} {base n:Nat} {xs:List Value} {f:M} {L L':Nat->Bool} {W W' W1:World} {row:Option Nat}
end
theorem lW {w a:World}{g o:Nat}{xs:List Value}(h:w.rangeAt g o xs)(b:ao w a):a.rangeAt g o xs:=fun j v d=>by
 have c:=h j v d;exact aj b c
theorem Nf {op:Oper}{a:Act}{w:World}{K:Act->World->Prop}{Q:Exit->Act->World->Prop}(x:Operand)(d:op.op= .load 39 x)(b o:Nat)(e:a.eval x=ab b o)(f:M)(c:w.rangeAt b o (mv f).toList)(h:K (a.put op.dst (.agg (mv f))) w):op.wp prog a w K Q:=by
 refine wp_load_mid 39 x d b o e (mv f).toList _ c cj rfl (by rw[tm];kernel_rfl) ?_;simpa using h
end
def kv (k:Kp):Array Value:= #[ag k.r,ag k.d,ag k.v]++mv k.m
theorem qW (k:Kp):(kv k).size=26:=by simp[kv,bU]
theorem Gt (k:Kp):(kv k).toList.length=26:=by rw[cg];exact qW k
theorem DQ (k:Kp):(kv k).all (·.oneCell')=true:=by
 unfold kv;rw[Array.all_append,dI];simp[Value.oneCell']
theorem TB (k:Kp):(kv k)[0]? =some (ag k.r):=by
 unfold kv;rw[Array.getElem?_append_left (by simp)];rfl
theorem TC (k:Kp):(kv k)[1]? =some (ag k.d):=by
 unfold kv;rw[Array.getElem?_append_left (by simp)];rfl
theorem Ng (k:Kp):(kv k)[2]? =some (ag k.v):=by
 unfold kv;rw[Array.getElem?_append_left (by simp)];rfl
theorem Py (k:Kp): ∀u∈(kv k).toList,u.oneCell'=true:=by
 intro u a;have:=DQ k;rw[Array.all_eq_true_iff_forall_mem]at this;exact this u (Array.mem_def.2 a)
theorem rI:prog.underlying 297=some (.struct (prog.fieldsOf 297)):=by kernel_rfl
theorem pD (k:Kp):(prog.info? 297).map (·.size)=some (kv k).size:=by rw[qW];kernel_rfl
theorem KI (k:Kp):(prog.info? 297).map (·.size)=some (kv k).toList.length:=by rw[Gt];kernel_rfl
def iQ (l:List Kp):List Value:=l.flatMap fun k=>(kv k).toList
theorem mz (l a:List Kp):iQ (l++a)=iQ l++iQ a:=by unfold iQ;rw[fC]
theorem BH (k:Kp):iQ [k]=(kv k).toList:=by simp[iQ]
theorem qf: ∀l:List Kp,(iQ l).length=l.length*26
 |[]=>rfl
 |k::l=>by
  have h:=qf l;have e:iQ (k::l)=(kv k).toList++iQ l:=rfl;rw[e,aN,h,Gt,bK];omega
theorem KJ: ∀(l:List Kp),∀u∈iQ l,u.oneCell'=true:=fun l u a=>by
 unfold iQ at a;rw[List.mem_flatMap]at a;obtain⟨k,_,h⟩:=a;exact Py k u h
theorem zr {w:World}{g o:Nat}{xs ys:List Value}(h:w.rangeAt g o (xs++ys)):w.rangeAt g o xs:=fun j v a=>
 h j v (by rw[eP (aE.1 a).1];exact a)
theorem xk {w:World}{g o:Nat}{xs ys:List Value}(h:w.rangeAt g o (xs++ys)):w.rangeAt g (o+xs.length) ys:=fun j v a=>by
 have:=h (xs.length+j) v (by rw[dR (by omega),Nat.add_sub_cancel_left];exact a);rw[<-Nat.add_assoc]at this;exact this
def dT (B:Nat)(w:World)(v:Value)(l:List Kp):Prop:= ∃p c,v= .slice p l.length c/\l.length<=c/\c<=maxLen/\(l≠[]-> ∃g o,p=some ⟨g,o,none⟩/\B<=g/\w.rangeAt g o (iQ l))
theorem dT.later {B:Nat}{w w':World}{v:Value}{l:List Kp}(h:dT B w v l)(i:ao w w'):dT B w' v l:=by
 obtain⟨p,c,e,a,b,d⟩:=h;refine⟨p,c,e,a,b,fun j=> ?_⟩;obtain⟨g,o,k,f,m⟩:=d j;exact⟨g,o,k,f,lW m i⟩
theorem dT.low {B a:Nat}{w:World}{v:Value}{l:List Kp}(h:dT B w v l)(j:a<=B):dT a w v l:=by
 obtain⟨p,c,e,b,d,f⟩:=h;refine⟨p,c,e,b,d,fun k=> ?_⟩;obtain⟨g,o,m,i,n⟩:=f k;exact⟨g,o,m,bh j i,n⟩
theorem Nh {w:World}{g o:Nat}{l:List Kp}(h:w.rangeAt g o (iQ l)){j:Nat}{k:Kp}(c:l[j]? =some k):w.rangeAt g (o+j*26) (kv k).toList:=by
 have a:=(aE.1 c).1
 have e:l=l.take j++([k]++l.drop (j+1)):=by
  conv=>lhs;rw[<-gZ j l]
  congr 1;rw[bG a,(aE.1 c).2];rfl
 rw[e,mz,mz,BH]at h;have b:=zr (xk h);rw[qf,ef,gu (by omega)]at b;exact b
theorem dT.at {B:Nat}{w:World}{p:Option Addr}{n c:Nat}{l:List Kp}(h:dT B w (.slice p n c) l){j:Nat}{k:Kp}(a:l[j]? =some k): ∃g o,p=some ⟨g,o,none⟩/\w.rangeAt g (o+j*26) (kv k).toList:=by
 obtain⟨q,m,e,_,_,d⟩:=h;injection e with b _ _;subst b;obtain⟨g,o,f,_,i⟩:=d (by rintro rfl;simp at a);exact⟨g,o,f,Nh i a⟩
theorem uZ {d:Array Oper}{c:List Oper}{op:Oper}{a:Act}{w:World}{Q:Exit->Act->World->Prop}(e:op.guard=none)(x:Operand)(g:op.op= .load 297 x)(b o:Nat)(i:a.eval x=ab b o)(k:Kp)(f:w.rangeAt b o (kv k).toList)
  (h:wpList prog d Q c (a.put op.dst (.agg (kv k))) w):wpList prog d Q (op::c) a w:=by
 refine wpList_load_mid e 297 x g b o i (kv k).toList _ f rI rfl (KI k) ?_;simpa using h
theorem Ni (k:Kp)(n o:Nat)(a day:Int)(w:World)(i:w.heap[n]? =ah #[ag a] 3)(j:w.heap[o]? =ah #[ag day] 3):
  Calls prog 232 #[.agg (kv k),ab n 0,ab o 0] w fun e s=>e= .returned (.bool (decide (k.r=a/\k.d=day)))/\ao w s:=by
 have f:=am w (.cells (kv k) 297);have g:=aB w (.cells (kv k) 297);have y:=(aW _ _ 0 _ _ _ (ai f i)).trans rfl;have z:=(aW _ _ 0 _ _ _ (ai f j)).trans rfl;have u:=(aW _ _ 0 _ _ _ g).trans (TB k);have x:=(aW _ _ 1 _ _ _ g).trans (TC k);generalize q:w.alloc (.cells (kv k) 297)=t at*;obtain⟨r,d,v,m⟩:=k;dsimp only at*;by_cases b:r=a
 ·by_cases c:d=day
  ·rw[bc (⟨b,c⟩:r=a/\d=day)];have l:(r==a)=true:=(by simp[b]);have p:(d==day)=true:=(by simp[c]);clear b c i j g;go_enter func232,ntmps232;go_wp2_with fail;go_ret;exact⟨rfl,f⟩
  ·rw[bo (fun e:r=a/\d=day=>c e.2)];have l:(r==a)=true:=(by simp[b]);have p:(d==day)=false:=(by simp[c]);clear b c i j g;go_enter func232,ntmps232;go_wp2_with fail;go_ret;exact⟨rfl,f⟩
 ·rw[bo (fun e:r=a/\d=day=>b e.1)];have l:(r==a)=false:=(by simp[b]);clear b i j g;go_enter func232,ntmps232;go_wp2_with fail;go_ret;exact⟨rfl,f⟩
theorem vd (l:List Kp)(v:Value)(y z:Nat)(a day:Int)(w:World)(h:dT 0 w v l)(F:w.heap[y]? =ah #[ag a] 3)(G:w.heap[z]? =ah #[ag day] 3):
  Calls prog 231 #[v,.func (.func 232) #[] #[ab y 0,ab z 0]] w fun e J=>e= .returned (ag (iC a day l 0))/\ao w J:=by
 have E:=aZ h;obtain⟨p,c,rfl,A,s,_⟩:=h;have I:l.length<9223372036854775808:=by unfold maxLen at s;omega
 clear A s;go_enter func231,ntmps231;go_wp2_with fail;go_loopw [5,8] (fun _ t wr=> ∃j:Nat,t=ag (j:Int)/\j<=l.length/\iC a day l 0=iC a day (l.drop j) j/\ao w wr) (fun _ t _=>l.length-(intOf t).toNat);case atStart=>exact⟨0,rfl,by omega,rfl,aF _ _⟩
 case round=>
  obtain⟨j,rfl,K,b,i⟩:=hrel;have H:(0:Int)<=(j:Int):=(by omega);by_cases B:j<l.length
  ·have u:(j:Int)<(l.length:Int):=(by omega);obtain⟨k,f⟩: ∃p,l[j]? =some p:=⟨l[j],az B⟩
   rw[KH f]at b;obtain⟨g,o,C,D⟩:=E.o.at f;subst C;have x:=lW D i;have c1:=Ni k y z a day wr (ai i F) (ai i G);clear D f;go_wp2_with(refine uZ rfl _ rfl g (o+j*26) rfl k x ?_)
   refine c1.mono ?_;rintro e L ⟨rfl,b1⟩;have q:=au i b1;clear c1 b1 x i;by_cases m:k.r=a/\k.d=day
   ·rw[ax m]at b;have n:=aZ b;rw[bc m];clear b m;go_wp2_with fail;go_ret;exact⟨by(rw[n.o])<;>rfl,q⟩
   ·rw[aw m]at b;have n:=aZ b;rw[bo m];clear b m;go_wp2_with fail;go_roundw;case rel=>exact⟨j+1,by go_num,by omega,n.o,q⟩
    case measure=>simp[intOf];omega
  ·have u: ¬(j:Int)<(l.length:Int):=(by omega)
   have n:T4 (iC a day l 0= -1):=by
    show _=_;rw[b,dn (by omega)];rfl
   clear b;go_wp2_with fail;go_ret;exact⟨by(rw[n.o])<;>rfl,i⟩
section
theorem xV:(prog.info? 297).map (fun i=>(i.zero,i.size,i.bytes))=some (some (.agg (kv ⟨0,0,0,fun _=>false⟩)),26,208):=by kernel_rfl
theorem ve:prog.underlying 153=some (.slice 297):=by kernel_rfl
theorem oI {w:World}{a n:Nat}{sv:Value}{xs:List Value}(h:w.ownsRow a 297 26 sv n xs): ∃p c,sv= .slice p n c/\n<=c:=by
 rcases h.2 with⟨e,f⟩|⟨b,cap,d,e,_,_,g,_⟩
 ·exact⟨none,0,by rw[e,f],by omega⟩
 ·exact⟨_,cap,e,g⟩
theorem dT.of_own {w:World}{a:Nat}{v:Value}{l:List Kp}(h:w.ownsRow a 297 26 v l.length (iQ l)):dT a w v l:=by
 rcases h.2 with⟨e,d⟩|⟨g,cap,f,e,i,m,n,k,p,o⟩
 ·exact⟨none,0,by rw[e,d],by omega,by unfold maxLen;omega,fun q=>absurd (gG.1 d) q⟩
 ·refine⟨_,cap,e,n,k,fun _=>⟨g,0,rfl,i,fun j u b=> ?_⟩⟩
  have c:j<l.length*26:=by
   have:=(aE.1 b).1;rwa[qf]at this
  refine(aW _ _ _ _ _ _ m).trans ?_;rw[<-o,dJ c,bq]at b;rw[bN];exact b
theorem zu (w:World)(g:TypeId)(a p:Option Addr)(n cap c:Nat)(b:n<=cap):(Builtin.append_ #[153,153] g #[.slice a n cap,.slice p 0 c]).run prog w= .ok (.slice a n cap) w:=by
 obtain⟨i,hi,d,e,f⟩:=iV xV;cases a<;>cases p<;>simp[Builtin.append_,gS ve,sizeOf,typeInfo,hi,b,Builtin.lenOf,Builtin.firstCells,storeCells,loadCells,loadCellsFrom]
section
variable {ops:Array Oper} {rest:List Oper} {op:Oper} {a:Act} {w:World} {Q:Exit->Act->World->Prop}
theorem AY (f:op.guard=none)(s x:Operand)(z:op.op= .call {callee:= .builtin .append,args:= #[s,x],argTypes:= #[153,153]})(b:Nat)(S l:List Kp)(v C:Value)(A:a.eval s=v)(d:w.ownsRow b 297 26 v S.length (iQ S))(B:a.eval x=C)(I:dT 0 w C l)(P:S.length+l.length<=676622540160)(G:b<=w.heap.size)
  (h: ∀j i,i.ownsRow b 297 26 j (S++l).length (iQ (S++l))->w.grownBy i v.ownBlock->wpList prog ops Q rest (a.put op.dst j) i):wpList prog ops Q (op::rest) a w:=by
 obtain⟨p,c,e,J,H,M⟩:=I;subst e;by_cases y:l=[]
 ·subst y;obtain⟨O,c1,D,k⟩:=oI d;subst D;rw[iE]at h;refine Go.Lib.wpList_append_run w f s x _ _ z _ _ A B _ _ (zu w _ O p _ c1 c k) (h _ _ d ⟨rfl,rfl,rfl,aA _,fun _ _ _=>rfl⟩)
 ·obtain⟨g,o,K,_,m⟩:=M y;subst K;obtain⟨N,hi,n,r,t⟩:=iV xV;refine eC (w:=w) f s x 153 z b 297 N _ 26 208 ve hi n r t (by exact qW _) (by decide) v S.length (iQ S) A d ⟨g,o,none⟩ l.length c (iQ l) B (qf l) ?_ (KJ l) (by unfold maxLen;omega) (by omega) G fun j i E F _=> ?_
  ·intro q u L;rw[wf];exact m q u L
  ·refine h j i ?_ F;rw[aN,mz];exact E
end
theorem SV (n:Nat)(w:World)(k:0<n)(u:n<=676622540160):
  Calls prog 243 #[af,ag (n:Int)] w fun e i=> ∃v,e= .returned v/\i.ownsRow w.heap.size 297 26 v 0 []/\ao w i:=by
 obtain⟨s,hi,d,r,f⟩:=iV xV;have b:=fun t=>Go.Lib.run_append_nil_zeros (P:=prog) w 153 3 t 297 s _ .i64 .i64 ve (by kernel_rfl) hi d n k (by omega) (by omega) (by rw[f];omega);have m:=grownCap_ge w n 0 297;have a:=grownCap_le_maxLen w n 0 297 (by unfold maxLen;omega)
 have c:(Builtin.zeroCells (Value.agg (kv ⟨0,0,0,fun _=>false⟩)).cells n++Builtin.zeroCells (Value.agg (kv ⟨0,0,0,fun _=>false⟩)).cells (grownCap w n 0 297-n)).size=grownCap w n 0 297*26:=by
  rw[Array.size_append,size_zeroCells,size_zeroCells];have e:(Value.agg (kv ⟨0,0,0,fun _=>false⟩)).cells.size=26:=qW _;rw[e];omega
 have j:T4 ((w.drew.alloc (.cells (Builtin.zeroCells (Value.agg (kv ⟨0,0,0,fun _=>false⟩)).cells n++Builtin.zeroCells (Value.agg (kv ⟨0,0,0,fun _=>false⟩)).cells (grownCap w n 0 297-n)) 297)).ownsRow w.heap.size 297 26 (.slice (some (ae w.heap.size 0)) 0 (grownCap w n 0 297)) 0 []):=
  ⟨rfl,.inr ⟨w.heap.size,_,_,rfl,aA _,aB _ _,dU _,a,c,by simp⟩⟩
 have l:ao w (w.drew.alloc (.cells (Builtin.zeroCells (Value.agg (kv ⟨0,0,0,fun _=>false⟩)).cells n++Builtin.zeroCells (Value.agg (kv ⟨0,0,0,fun _=>false⟩)).cells (grownCap w n 0 297-n)) 297)):=(aF _ _).drew.alloc (aA _) _;generalize w.drew.alloc (.cells (Builtin.zeroCells (Value.agg (kv ⟨0,0,0,fun _=>false⟩)).cells n++Builtin.zeroCells (Value.agg (kv ⟨0,0,0,fun _=>false⟩)).cells (grownCap w n 0 297-n)) 297)=x at*;generalize grownCap w n 0 297=cap at*;have p:(0:Int)<(n:Int):=by omega
 have q:(n:Int)<=676622540160:=by omega
 have g:cap<=9223372036854775807:=by unfold maxLen at a;omega
 clear c a;go_enter func243,ntmps243;go_wp2_with(refine Go.Lib.wpList_append_run w rfl _ _ _ _ rfl _ _ rfl rfl _ _ (b _) ?_)
 go_ret;exact⟨_,rfl,j.o,l⟩
def iL (a:List (Value×List Kp))(j:Nat):List Kp:=(a.take j).flatMap fun p=>p.2
theorem BI {a:List (Value×List Kp)}{j:Nat}{p:Value×List Kp}(h:a[j]? =some p):iL a (j+1)=iL a j++p.2:=by
 unfold iL;rw[fF,h,fC];simp
theorem Pz (a:List (Value×List Kp))(j:Nat):(iL a j).length<=(iL a a.length).length:=by
 unfold iL;rw[gI];conv=>rhs;rw[<-gZ j a]
 rw[fC,aN];omega
theorem zw (a:List (Value×List Kp))(K M P:Nat)(w:World)(L: ∀(j:Nat) (p:Value×List Kp),a[j]? =some p->w.cell? (ae K (M+j))=some p.1/\dT 0 w p.1 p.2)(T:a.length<=1000)(Q:0<(iL a a.length).length)(R:(iL a a.length).length<=676622540160):
  Calls prog 240 #[.slice (some (ae K M)) a.length P] w fun e O=> ∃v,e= .returned v/\O.ownsRow w.heap.size 297 26 v (iL a a.length).length (iQ (iL a a.length))/\ao w O:=by
 have J:=aZ L;have c:=fun j=>Pz a j;clear L;go_enter func240,ntmps240;go_wp2_with fail;go_loopw [3,5,11] (fun s _ t wr=> ∃j:Nat,s=ag ((iL a j).length:Int)/\t=ag (j:Int)/\j<=a.length/\wr=w) (fun _ _ t _=>a.length-(intOf t).toNat);case atStart=>exact⟨0,rfl,rfl,by omega,rfl⟩
 case round=>
  obtain⟨j,rfl,rfl,S,r⟩:=hrel;replace r:=r.symm;subst r;have I:(0:Int)<=(j:Int):=(by omega);by_cases n:j<a.length
  ·have g:(j:Int)<(a.length:Int):=(by omega);obtain⟨p,b⟩: ∃p,a[j]? =some p:=⟨a[j],az n⟩
   obtain⟨D,u⟩:=J.o j p b;have e:=BI b;have m1:=c (j+1);rw[e,aN]at m1;obtain⟨N,lp⟩:=p;obtain⟨pp,X,B,_,_,_⟩:=u;dsimp only at D B e m1;subst B;have C:T4 ((iL a j).length+lp.length=(iL a (j+1)).length):=(by show _=_;rw[e,aN]);clear e b;have V:((iL a j).length:Int)+(lp.length:Int)<=676622540160:=(by omega);have U:(0:Int)<=((iL a j).length:Int)+(lp.length:Int):=(by omega);generalize (iL a j).length=sj at*;generalize lp.length=Y at*;clear m1 c;go_wp2_with fail;go_roundw;case rel=>exact⟨j+1,by(rw[<-C.o])<;>go_num,by go_num,by omega,trivial⟩
   case measure=>simp[intOf];omega
  ·have g: ¬(j:Int)<(a.length:Int):=(by omega);have F:j=a.length:=(by omega);subst F;have c1:=SV (iL a a.length).length w Q R;go_wp2_with fail;refine c1.mono ?_;rintro e w1 ⟨v1,rfl,d,b1⟩;obtain⟨Z,q1,rfl,_⟩:=oI d;clear c1;go_wp2_with fail;go_loopw [6,8,27] (fun s _ t wr=> ∃j:Nat,t=ag (j:Int)/\j<=a.length/\wr.ownsRow w.heap.size 297 26 s (iL a j).length (iQ (iL a j))/\ao w wr) (fun _ _ t _=>a.length-(intOf t).toNat);case atStart=>exact⟨0,rfl,by omega,d,b1⟩
   case round=>
    obtain⟨j,rfl,S,f,b2⟩:=hrel;have I:(0:Int)<=(j:Int):=(by omega);obtain⟨p2,q2,rfl,_⟩:=oI f;by_cases n:j<a.length
    ·have g:(j:Int)<(a.length:Int):=(by omega);obtain⟨p,b⟩: ∃p,a[j]? =some p:=⟨a[j],az n⟩
     obtain⟨D,u⟩:=J.o j p b;have e:=BI b;have m1:=c (j+1);rw[e,aN]at m1;have m:=u.later b2;have H:=aj b2 D;have l:=b2.size;have A:(iL a j).length+p.2.length<=676622540160:=(by omega);obtain⟨N,lp⟩:=p;dsimp only at H m e A;have C:=aZ e;have y:=aZ m;have i:=aZ f;have x:=aZ b2;clear e b u D d b1 m1 m f b2 c
     go_wp2_with(refine AY rfl _ _ rfl w.heap.size (iL a j) lp _ N rfl i.o rfl y.o A l ?_
                 intro v9 W q z
                 rw[<-C.o]at q
                 have G:ao w W:=Ix x.o z fun k u=>(i.o.lt k u).1
                 have E:=aZ q
                 clear i y x C q z)
     go_roundw;case rel=>exact⟨j+1,by go_num,by omega,E.o,G⟩
     case measure=>simp[intOf];omega
    ·have g: ¬(j:Int)<(a.length:Int):=(by omega);have F:j=a.length:=(by omega);subst F;clear d b1;go_wp2_with fail;go_ret;exact⟨_,rfl,f,b2⟩
end
theorem Rn (k:Kp)(W:World):(Instr.buildSlice 153 1 #[(0,.agg (kv k))]).run prog W= .ok (.slice (some (ae W.heap.size 0)) 1 1) (W.alloc (.cells (kv k) 297)):=by
 kernel_rfl
theorem uy {c:Array Oper}{b:List Oper}{op:Oper}{a:Act}{w:World}{Q:Exit->Act->World->Prop}(d:op.guard=none)(x:Operand)(g:op.op= .buildSlice 153 1 #[(0,x)])(k:Kp)(i:a.eval x= .agg (kv k))
  (h:wpList prog c Q b (a.put op.dst (.slice (some (ae w.heap.size 0)) 1 1)) (w.alloc (.cells (kv k) 297))):wpList prog c Q (op::b) a w:=
 wpList_plain d fun _ e=>by
  unfold Oper.wp execOp;have f:=Rn k w;simp only[g,i,jl,cQ,fu,kb,lg,iB,f];exact e _ _ h
theorem dT.take {B:Nat}{w:World}{p:Option Addr}{n c:Nat}{l:List Kp}(h:dT B w (.slice p n c) l)(j:Nat)(m:j<=l.length):dT B w (.slice p j c) (l.take j):=by
 obtain⟨v,s,e,u,f,i⟩:=h;injection e with b t d;subst b d;refine⟨p,c,by rw[ef,gu m],by rw[ef];omega,f,fun q=> ?_⟩;obtain⟨g,o,r,k,a⟩:=i (by rintro rfl;simp at q);refine⟨g,o,r,k,?_⟩;rw[<-gZ j l,mz]at a;exact zr a
theorem dT.drop {B:Nat}{w:World}{p:Option Addr}{n c:Nat}{l:List Kp}(h:dT B w (.slice p n c) l)(j:Nat)(m:j<=l.length):dT B w (.slice (if c=j then p else Option.map (fun x=>x.add (j*26)) p) (l.length-j) (c-j)) (l.drop j):=by
 obtain⟨z,t,e,v,y,i⟩:=h;injection e with d u f;subst d f;refine⟨_,c-j,by rw[fi],by rw[fi];omega,by omega,fun a=> ?_⟩
 have r:j<l.length:=by
  rcases Nat.lt_or_ge j l.length with q|q
  ·exact q
  ·exact absurd (dn q) a
 obtain⟨g,o,s,k,b⟩:=i (by rintro rfl;simp at a);subst s;refine⟨g,o+j*26,?_,k,?_⟩
 ·rw[aw (by omega)];show some ((⟨g,o,none⟩:Addr).add (j*26))=_;rw[wf]
 ·rw[<-gZ j l,mz]at b;have:=xk b;rwa[qf,ef,gu m]at this
theorem dT.one {w:World}{g:Nat}{k:Kp}(h:w.heap[g]? =ah (kv k) 297):dT 0 w (.slice (some (ae g 0)) 1 1) [k]:=
 ⟨_,1,rfl,by simp,by unfold maxLen;omega,fun _=>⟨g,0,rfl,dU _,fun j u a=>by
   rw[BH]at a;refine(aW _ _ _ _ _ _ h).trans ?_;rw[bN,<-bq];exact a⟩⟩
theorem DR {w:World}{b d:Nat}{e:TypeId}{size n:Nat}{v:Value}{xs:List Value}(h:w.ownsRow d e size v n xs)(i:b<=d):w.ownsRow b e size v n xs:=by
 obtain⟨f,c⟩:=h;rcases c with c|⟨g,cap,a,e,q,r⟩
 ·exact⟨f,.inl c⟩
 ·exact⟨f,.inr ⟨g,cap,a,e,bh i q,r⟩⟩
theorem dT.none (B:Nat)(w:World)(p:Option Addr)(c:Nat)(a:c<=maxLen):dT B w (.slice p 0 c) []:=⟨p,c,rfl,by simp,a,fun h=>absurd rfl h⟩
theorem DS (l:List Kp)(v:Value)(i:Int)(hi:i<0)(k:Kp)(w:World)(h:dT 0 w v l)(hl:l.length<=676622540150):
  Calls prog 233 #[v,ag (i:Int),.agg (kv k)] w fun e t=> ∃L,e= .returned L/\t.ownsRow w.heap.size 297 26 L (l++[k]).length (iQ (l++[k]))/\ao w t:=by
 obtain⟨R,J⟩:=aq (l++[k]);rw[J];have H:=am w (.cells (kv k) 297);have Y:=aB w (.cells (kv k) 297);have r:=h.later H;obtain⟨p,c,rfl,U,D,_⟩:=h;have S:(0:Int)<=(l.length:Int):=by omega
 have T:(l.length:Int)<=676622540150:=by omega
 have K:c<=9223372036854775807:=by unfold maxLen at D;omega
 generalize V:w.alloc (.cells (kv k) 297)=m at*;have A:T4 (dT 0 m (.slice p l.length c) l):=r;have B:T4 (dT 0 m (.slice (if c=l.length then p else Option.map (fun x=>x.add (l.length*26)) p) 0 (c-l.length)) []):=dT.none _ _ _ _ (by omega);have HK:=aZ r;have M:=aZ H;go_enter func233,ntmps233;go_wp2_with fail;go_quiet (fail);generalize (if c=l.length then p else Option.map (fun x=>x.add (l.length*26)) p)=n at*;have y:ao m (m.drewN nq):=du (aF _ _) nq;obtain⟨b,s⟩:=aq (m.drewN nq);rw[s]at y;rw[s];have E:b.heap[w.heap.size]? =ah (kv k) 297:=ai y Y;have O:=am b (.cells (kv k) 297);have Z:=aB b (.cells (kv k) 297);generalize W:b.alloc (.cells (kv k) 297)=u at*;have I:=am u (.cells #[.slice p l.length c,.slice n 0 (c-l.length),.slice (some (ae b.heap.size 0)) 1 1] 153);have G:=aB u (.cells #[.slice p l.length c,.slice n 0 (c-l.length),.slice (some (ae b.heap.size 0)) 1 1] 153);have f:=y.trans ((au O I).mono y.size);have F:=ai I Z;have r1:dT 0 m (.slice p l.length c) (l):=A.o;have r2:dT 0 m (.slice n 0 (c-l.length)) ([]):=B.o;have q1:=r1.later f;have q2:=r2.later f;have q3:=dT.one F;have q:=au M.o f;generalize X:u.alloc (.cells #[.slice p l.length c,.slice n 0 (c-l.length),.slice (some (ae b.heap.size 0)) 1 1] 153)=z at*
 have c1:=zw [(.slice p l.length c,l),(.slice n 0 (c-l.length),[]),(.slice (some (ae b.heap.size 0)) 1 1,[k])] u.heap.size 0 3 z (fun j pr a=>by
  match j,a with
  |0,a=>cases a;exact⟨(aW _ _ _ _ _ _ G).trans rfl,q1⟩
  |1,a=>cases a;exact⟨(aW _ _ _ _ _ _ G).trans rfl,q2⟩
  |2,a=>cases a;exact⟨(aW _ _ _ _ _ _ G).trans rfl,q3⟩
  |j+3,a=>simp at a) (by simp) (by first|(simp[iL];done)|(simp[iL];omega)) (by simp[iL];omega)
 have Q:iL [(.slice p l.length c,l),(.slice n 0 (c-l.length),[]),(.slice (some (ae b.heap.size 0)) 1 1,[k])] 3=R:=by
  rw[<-J];simp[iL]
 have P:Calls prog 240 #[.slice (some (ae u.heap.size 0)) 3 3] z fun e t=> ∃v,e= .returned v/\t.ownsRow z.heap.size 297 26 v R.length (iQ R)/\ao z t:=by
  have:=c1;simp only[bK,fN,bN,Nat.reduceAdd,Q]at this;exact this
 go_wp2_with(first
  |(refine aO rfl 297 _ rfl _ rfl _ _ _ _ E rI rfl (pD k) ?_)
  |(refine uy rfl _ rfl k rfl ?_))
 refine P.mono ?_;rintro e w9 ⟨v9,rfl,d,N⟩;have g:=DR d q.size;have C:=au q N;obtain⟨p9,c9,rfl,_⟩:=oI d;go_wp2_with fail;go_ret;exact⟨_,rfl,g,C⟩
theorem Iy (l:List Kp)(v:Value)(i:Nat)(hi:i<l.length)(k:Kp)(w:World)(h:dT 0 w v l)(hl:l.length<=676622540150):
  Calls prog 233 #[v,ag (i:Int),.agg (kv k)] w fun e u=> ∃O,e= .returned O/\u.ownsRow w.heap.size 297 26 O ((l.take i++l.drop (i+1))++[k]).length (iQ ((l.take i++l.drop (i+1))++[k]))/\ao w u:=by
 obtain⟨R,M⟩:=aq ((l.take i++l.drop (i+1))++[k]);rw[M];have I:=am w (.cells (kv k) 297);have nA:=aB w (.cells (kv k) 297);have g:=h.later I;obtain⟨p,c,rfl,Z,E,_⟩:=h;have X:(0:Int)<=(l.length:Int):=by omega
 have Y:(l.length:Int)<=676622540150:=by omega
 have N:c<=9223372036854775807:=by unfold maxLen at E;omega
 generalize aa:w.alloc (.cells (kv k) 297)=n at*;have A:T4 (dT 0 n (.slice p i c) (l.take i)):=g.take i (by omega);have B:T4 (dT 0 n (.slice (if c=i+1 then p else Option.map (fun x=>x.add ((i+1)*26)) p) (l.length-(i+1)) (c-(i+1))) (l.drop (i+1))):=g.drop (i+1) (by omega);have V:(0:Int)<=(i:Int):=by omega
 have W:(i:Int)<(l.length:Int):=by omega
 have HK:=aZ g;have P:=aZ I;go_enter func233,ntmps233;go_wp2_with fail;go_quiet (fail);generalize (if c=l.length then p else Option.map (fun x=>x.add (l.length*26)) p)=q8 at*;have K:ao n (n.drewN nq):=du (aF _ _) nq;obtain⟨wE,t⟩:=aq (n.drewN nq);rw[t]at K;rw[t];go_wp2_with fail;go_quiet (fail);generalize (if c=i+1 then p else Option.map (fun x=>x.add ((i+1)*26)) p)=q at*;have L:ao wE (wE.drewN nq):=du (aF _ _) nq;obtain⟨b,s⟩:=aq (wE.drewN nq);rw[s]at L;rw[s];have C:=au K L;have F:b.heap[w.heap.size]? =ah (kv k) 297:=ai C nA;have S:=am b (.cells (kv k) 297);have nB:=aB b (.cells (kv k) 297);generalize ab:b.alloc (.cells (kv k) 297)=y at*;have J:=am y (.cells #[.slice p i c,.slice q (l.length-(i+1)) (c-(i+1)),.slice (some (ae b.heap.size 0)) 1 1] 153);have H:=aB y (.cells #[.slice p i c,.slice q (l.length-(i+1)) (c-(i+1)),.slice (some (ae b.heap.size 0)) 1 1] 153);have f:=C.trans ((au S J).mono C.size);have G:=ai J nB;have r1:dT 0 n (.slice p i c) (l.take i):=A.o;have r2:dT 0 n (.slice q (l.length-(i+1)) (c-(i+1))) (l.drop (i+1)):=B.o;have q1:=r1.later f;have q2:=r2.later f;have q3:=dT.one G;have r:=au P.o f;generalize ac:y.alloc (.cells #[.slice p i c,.slice q (l.length-(i+1)) (c-(i+1)),.slice (some (ae b.heap.size 0)) 1 1] 153)=z at*
 have c1:=zw [(.slice p i c,l.take i),(.slice q (l.length-(i+1)) (c-(i+1)),l.drop (i+1)),(.slice (some (ae b.heap.size 0)) 1 1,[k])] y.heap.size 0 3 z (fun j pr a=>by
  match j,a with
  |0,a=>cases a;exact⟨(aW _ _ _ _ _ _ H).trans rfl,q1⟩
  |1,a=>cases a;exact⟨(aW _ _ _ _ _ _ H).trans rfl,q2⟩
  |2,a=>cases a;exact⟨(aW _ _ _ _ _ _ H).trans rfl,q3⟩
  |j+3,a=>simp at a) (by simp) (by first|(simp[iL];done)|(simp[iL];omega)) (by simp[iL];omega)
 have U:iL [(.slice p i c,l.take i),(.slice q (l.length-(i+1)) (c-(i+1)),l.drop (i+1)),(.slice (some (ae b.heap.size 0)) 1 1,[k])] 3=R:=by
  rw[<-M];simp[iL]
 have T:Calls prog 240 #[.slice (some (ae y.heap.size 0)) 3 3] z fun e u=> ∃v,e= .returned v/\u.ownsRow z.heap.size 297 26 v R.length (iQ R)/\ao z u:=by
  have:=c1;simp only[bK,fN,bN,Nat.reduceAdd,U]at this;exact this
 go_wp2_with(first
  |(refine aO rfl 297 _ rfl _ rfl _ _ _ _ F rI rfl (pD k) ?_)
  |(refine uy rfl _ rfl k rfl ?_))
 refine T.mono ?_;rintro e w9 ⟨v9,rfl,d,Q⟩;have m:=DR d r.size;have D:=au r Q;obtain⟨p9,c9,rfl,_⟩:=oI d;go_wp2_with fail;go_ret;exact⟨_,rfl,m,D⟩
theorem Iz (B:Nat)(l:List Kp)(v:Value)(w:World)(h:dT B w v l)(C:l.length<=676622540160):
  Calls prog 234 #[v] w fun e i=> ∃g,e= .returned g/\dT B i g (wh l)/\i=w:=by
 have d:=aZ h;obtain⟨p,c,rfl,z,b,_⟩:=h;have x:(0:Int)<=(l.length:Int):=by omega
 have y:(l.length:Int)<=676622540160:=by omega
 have f:c<=9223372036854775807:=by unfold maxLen at b;omega
 unfold wh;by_cases n:64<l.length
 ·obtain⟨j,r⟩:=aq (l.length-64);rw[r];have a:=aZ (d.o.drop j (by omega));have m:(l.length:Int)-64=(j:Int):=(by omega);have A:IntKind.i64.wrap ((j:Int))=(j:Int):=(by rw[bQ];omega);have s:(0:Int)<(j:Int):=(by omega);have t:j<=l.length:=(by omega);have u:(j:Int)<=(l.length:Int):=(by omega);have q: ¬c=j:=(by omega);rw[aw q]at a;go_enter func234,ntmps234;go_wp2_with fail;go_ret;exact⟨_,rfl,a.o,rfl⟩
 ·have k:l.length-64=0:=by omega
  rw[k];have a:T4 (dT B w (.slice p l.length c) (l.drop 0)):=d.o;have m:(l.length:Int)-64<=0:=(by omega);go_enter func234,ntmps234;go_wp2_with fail;go_ret;exact⟨_,rfl,a.o,rfl⟩
section
theorem dT.set {B:Nat}{w:World}{v:Value}{l:List Kp}(h:dT B w v l){g:Nat}(t:g<B)(X:Array Value):dT B (w.setRow g X) v l:=by
 obtain⟨p,c,e,d,f,i⟩:=h;refine⟨p,c,e,d,f,fun q=> ?_⟩;obtain⟨b,o,r,k,s⟩:=i q;refine⟨b,o,r,k,fun j u n=> ?_⟩;have a:=s j u n;have m:=aQ w g b X (by omega);unfold World.cell? at a⊢;rw[m];exact a
structure GJ (w0 w1:World)(ga B:Nat)(m:M)(R:List Kp)(runs er at_:Int)(im ic iF:Nat)(L:Nat->Bool)(W:World):Prop where
 bel:ao w0 W
 low: ∀q,q<B->q≠ga->q≠ga+1->q≠ga+2->W.heap[q]? =w1.heap[q]?
 size:B<=W.heap.size
 b0:w0.heap.size<=ga
 b1:ga+2<B
 m0:L im=false->W.heap[ga]? =ah (mv fun _=>false) 39
 m1:L im=true->W.heap[ga]? =ah (mv m) 39
 c0:L ic=false->W.heap[ga+1]? =ah #[af,ag 0] 155
 c1:L ic=true-> ∃v',W.heap[ga+1]? =ah #[v',ag runs] 155/\dT B W v' R
 f0:L iF=false->W.heap[ga+2]? =ah #[ag 0,ag 0] 26
 f1:L iF=true->W.heap[ga+2]? =ah #[ag er,ag at_] 26
section
variable {w0 w1:World} {ga B:Nat} {m:M} {R:List Kp} {runs er at_:Int} {im ic iF:Nat} {L:Nat->Bool} {W W':World}
theorem tV {i k:Nat}{b:Bool}(h:(decide (i=k)||b)=false):b=false:=(Bool.or_eq_false_iff.1 h).2
theorem nK {i k:Nat}{b:Bool}(a:i≠k)(h:(decide (i=k)||b)=true):b=true:=by simpa[a] using h
theorem GJ.below (h:GJ w0 w1 ga B m R runs er at_ im ic iF L W)(f:ao W W'):GJ w0 w1 ga B m R runs er at_ im ic iF L W':=by
 have lt: ∀q,q<B->W'.heap[q]? =W.heap[q]? :=fun q i=>f.block q (aT i h.size);have g:=h.b1;exact⟨au h.bel f,fun q a b c d=>(lt q a).trans (h.low q a b c d),bh h.size f.size,h.b0,h.b1,fun e=>(lt _ (by omega)).trans (h.m0 e),fun e=>(lt _ (by omega)).trans (h.m1 e),fun e=>(lt _ (by omega)).trans (h.c0 e),fun e=>(h.c1 e).imp fun _ q=>⟨(lt _ (by omega)).trans q.1,q.2.later f⟩,fun e=>(lt _ (by omega)).trans (h.f0 e),fun e=>(lt _ (by omega)).trans (h.f1 e)⟩
theorem GJ.same (h:GJ w0 w1 ga B m R runs er at_ im ic iF L W)(i:Nat)(a:i≠im)(b:i≠ic)(c:i≠iF):GJ w0 w1 ga B m R runs er at_ im ic iF (fun k=>decide (i=k)||L k) W:=
 ⟨h.bel,h.low,h.size,h.b0,h.b1,fun e=>h.m0 (tV e),fun e=>h.m1 (nK a e),fun e=>h.c0 (tV e),fun e=>h.c1 (nK b e),fun e=>h.f0 (tV e),fun e=>h.f1 (nK c e)⟩
theorem GJ.mask (h:GJ w0 w1 ga B m R runs er at_ im ic iF L W)(n:L im=false)(j:im≠ic)(l:im≠iF):GJ w0 w1 ga B m R runs er at_ im ic iF (fun k=>decide (im=k)||L k) (W.setRow ga (mv m)):=by
 have f: ∀q,q≠ga->(W.setRow ga (mv m)).heap[q]? =W.heap[q]? :=fun q p=>aQ W ga q (mv m) p;have o:=h.b1;refine⟨below_setRow h.bel h.b0 _,fun q a b c d=>(f q b).trans (h.low q a b c d),by simpa using h.size,h.b0,h.b1,fun e=>(by simp at e),fun _=>aK _ _ _ _ _ _ (h.m0 n),fun e=>(f _ (by omega)).trans (h.c0 (tV e)),fun e=> ?_,fun e=>(f _ (by omega)).trans (h.f0 (tV e)),fun e=>(f _ (by omega)).trans (h.f1 (nK l e))⟩;obtain⟨r,g,i⟩:=h.c1 (nK j e);exact⟨r,(f _ (by omega)).trans g,i.set (by omega) _⟩
theorem GJ.cache (h:GJ w0 w1 ga B m R runs er at_ im ic iF L W)(l:L ic=false)(i:ic≠im)(j:ic≠iF){g:Value}(r:dT B W g R):GJ w0 w1 ga B m R runs er at_ im ic iF (fun k=>decide (ic=k)||L k) (W.setRow (ga+1) #[g,ag runs]):=by
 have f: ∀q,q≠ga+1->(W.setRow (ga+1) #[g,ag runs]).heap[q]? =W.heap[q]? :=fun q p=>aQ W (ga+1) q _ p;have o:=h.b1;have n:=h.b0;exact⟨below_setRow h.bel (by omega) _,fun q a b c d=>(f q c).trans (h.low q a b c d),by simpa using h.size,h.b0,h.b1,fun e=>(f _ (by omega)).trans (h.m0 (tV e)),fun e=>(f _ (by omega)).trans (h.m1 (nK i e)),fun e=>(by simp at e),fun _=>⟨g,aK _ _ _ _ _ _ (h.c0 l),r.set (by omega) _⟩,fun e=>(f _ (by omega)).trans (h.f0 (tV e)),fun e=>(f _ (by omega)).trans (h.f1 (nK j e))⟩
theorem GJ.fault (h:GJ w0 w1 ga B m R runs er at_ im ic iF L W)(n:L iF=false)(j:iF≠im)(l:iF≠ic):GJ w0 w1 ga B m R runs er at_ im ic iF (fun k=>decide (iF=k)||L k) (W.setRow (ga+2) #[ag er,ag at_]):=by
 have f: ∀q,q≠ga+2->(W.setRow (ga+2) #[ag er,ag at_]).heap[q]? =W.heap[q]? :=fun q r=>aQ W (ga+2) q _ r;have p:=h.b1;have o:=h.b0;refine⟨below_setRow h.bel (by omega) _,fun q a b c d=>(f q d).trans (h.low q a b c d),by simpa using h.size,h.b0,h.b1,fun e=>(f _ (by omega)).trans (h.m0 (tV e)),fun e=>(f _ (by omega)).trans (h.m1 (nK j e)),fun e=>(f _ (by omega)).trans (h.c0 (tV e)),fun e=> ?_,fun e=>(by simp at e),fun _=>aK _ _ _ _ _ _ (h.f0 n)⟩;obtain⟨s,g,i⟩:=h.c1 (nK l e);exact⟨s,(f _ (by omega)).trans g,i.set (by omega) _⟩
end
structure GT (B:Nat)(R0 R:List Kp)(runs:Int)(i0 i1 i2 s0 s1 s2:Nat)(M:Nat->Bool)(φ:Nat->Value)(W:World):Prop where
 t0:M i0=true->dT B W (φ s0) R0
 t1:M i1=true->dT B W (φ s1) R
 t2:M i2=true-> ∃v',φ s2= .agg #[v',ag runs]/\dT B W v' R
section
variable {B:Nat} {R0 R:List Kp} {runs:Int} {i0 i1 i2 s0 s1 s2:Nat} {M:Nat->Bool} {φ φ':Nat->Value} {W W':World}
theorem GT.mono (h:GT B R0 R runs i0 i1 i2 s0 s1 s2 M φ W)(a: ∀v l,dT B W v l->dT B W' v l):GT B R0 R runs i0 i1 i2 s0 s1 s2 M φ W':=⟨fun e=>a _ _ (h.t0 e),fun e=>a _ _ (h.t1 e),fun e=>(h.t2 e).imp fun _ q=>⟨q.1,a _ _ q.2⟩⟩
theorem GT.on (h:GT B R0 R runs i0 i1 i2 s0 s1 s2 M φ W)(i:Nat)(b:i≠i0->φ' s0=φ s0)(c:i≠i1->φ' s1=φ s1)(d:i≠i2->φ' s2=φ s2)(k0:i=i0->dT B W (φ' s0) R0)(f:i=i1->dT B W (φ' s1) R)(g:i=i2-> ∃a,φ' s2= .agg #[a,ag runs]/\dT B W a R):GT B R0 R runs i0 i1 i2 s0 s1 s2 (fun k=>decide (i=k)||M k) φ' W:=by
 refine⟨fun e=> ?_,fun e=> ?_,fun e=> ?_⟩
 ·by_cases q:i=i0
  ·exact k0 q
  ·rw[b q];exact h.t0 (nK q e)
 ·by_cases q:i=i1
  ·exact f q
  ·rw[c q];exact h.t1 (nK q e)
 ·by_cases q:i=i2
  ·exact g q
  ·rw[d q];exact h.t2 (nK q e)
theorem GT.mark (h:GT B R0 R runs i0 i1 i2 s0 s1 s2 M φ W)(i:Nat)(a:i≠i0)(b:i≠i1)(c:i≠i2):GT B R0 R runs i0 i1 i2 s0 s1 s2 (fun k=>decide (i=k)||M k) φ W:=⟨fun e=>h.t0 (nK a e),fun e=>h.t1 (nK b e),fun e=>h.t2 (nK c e)⟩
end
theorem PA (k:Kp)(j:Nat)(_:j<23):(kv k)[3+j]? =(mv k.m)[j]? :=by
 unfold kv;rw[Array.getElem?_append_right (by simp)];simp
theorem Nj {w:World}{g:Nat}{k:Kp}(h:w.heap[g]? =ah (kv k) 297):w.rangeAt g 3 (mv k.m).toList:=fun j u b=>by
 have a:j<23:=by
  have:=(aE.1 b).1;rwa[tm]at this
 refine(aW _ _ _ _ _ _ h).trans ?_;rw[PA k j a,<-bq];exact b
theorem BJ:prog.underlying 155=some (.struct (prog.fieldsOf 155)):=by kernel_rfl
theorem sh:(prog.info? 155).map (·.size)=some 2:=by kernel_rfl
theorem oJ:(prog.info? 26).map (·.size)=some 2:=by kernel_rfl
def AZ (m:M)(R:List Kp)(runs er at_:Int)(w:World)(e:Ending)(b:World):Prop:= ∃a,e= .returned (.tuple #[.agg (mv m),.agg #[a,ag runs],.agg #[ag er,ag at_]])/\dT w.heap.size b a R/\ao w b
theorem xW {a:Act}{w0 w:World}(g:Nat)(m:M)(R:List Kp)(runs er at_:Int)(e:Value)(q:a.defers=[])(f:a.tmps.getD 10 undef=ab g 0)(i:a.tmps.getD 11 undef=ab (g+1) 0)(j:a.tmps.getD 12 undef=ab (g+2) 0)
  (r:w.heap[g]? =ah (mv m) 39) (k:w.heap[g+1]? =ah #[e,ag runs] 155) (l:w.heap[g+2]? =ah #[ag er,ag at_] 26) (s:dT w0.heap.size w e R) (p:ao w0 w):bodyPost prog f212 (AZ m R runs er at_ w0) .ret a w:=by
 refine aX (v:= .tuple #[.agg (mv m),.agg #[e,ag runs],.agg #[ag er,ag at_]]) ?_ q ⟨e,rfl,s,p⟩;have b:a.tmps[10]?.getD undef=ab g 0:=by simpa using f
 have c:a.tmps[11]?.getD undef=ab (g+1) 0:=by simpa using i
 have d:a.tmps[12]?.getD undef=ab (g+2) 0:=by simpa using j
 have t:=dZ (P:=prog) w g 39 39 _ _ _ r cj rfl (bg _);have n:=dZ (P:=prog) w (g+1) 155 155 _ _ _ k BJ rfl sh;have o:=dZ (P:=prog) w (g+2) 26 26 _ _ _ l mL rfl oJ;simp[results,results212,b,c,d,asAddr,t,n,o]
end
theorem xl (l:List Kp)(v:Value)(i:Int)(k:Kp)(w:World)(h:dT 0 w v l)(g:l.length<=676622540150)(hi:i<l.length):
  Calls prog 233 #[v,ag i,.agg (kv k)] w fun e b=> ∃a,e= .returned a/\dT w.heap.size b a (gQ l i++[k])/\ao w b:=by
 by_cases f:0<=i
 ·obtain⟨n,rfl⟩: ∃n:Nat,i=(n:Int):=⟨i.toNat,by omega⟩
  refine(Iy l v n (by omega) k w h g).mono ?_;rintro e b ⟨a,rfl,own,d⟩
  have c:gQ l (n:Int)=l.take n++l.drop (n+1):=by
   unfold gQ;rw[ax f,di]
  rw[c];exact⟨a,rfl,dT.of_own own,d⟩
 ·refine(DS l v i (by omega) k w h g).mono ?_;rintro e b ⟨a,rfl,own,d⟩
  have c:gQ l i=l:=by
   unfold gQ;rw[aw f]
  rw[c];exact⟨a,rfl,dT.of_own own,d⟩
theorem KK:(#[ag 0,ag 0,ag 0,.int .u64 0,.int .u64 0,.int .u64 0,.int .u64 0,.int .u64 0,.int .u64 0,.int .u64 0,.int .u64 0,.int .u64 0,.int .u64 0,.int .u64 0,.int .u64 0,.int .u64 0,.int .u64 0,.int .u64 0,.int .u64 0,.int .u64 0,.int .u64 0,.int .u64 0,.int .u64 0,.int .u64 0,.int .u64 0,.int .u64 0]:Array Value)=kv ⟨0,0,0,fun _=>false⟩:=by
 unfold kv;rw[<-ea];rfl
theorem KL (r d v:Int)(m:M)(W:World):(Instr.build 297 #[(0,ag r),(1,ag d),(2,ag v),(3,.agg (mv m))]).run prog W= .ok (.agg (kv ⟨r,d,v,m⟩)) W:=by
 kernel_rfl
theorem xX {c:Array Oper}{b:List Oper}{op:Oper}{a:Act}{w:World}{Q:Exit->Act->World->Prop}(e:op.guard=none)(f g i j:Operand)(s:op.op= .build 297 #[(0,f),(1,g),(2,i),(3,j)])(r d v:Int)(m:M)(k:a.eval f=ag r)(l:a.eval g=ag d)(n:a.eval i=ag v)(o:a.eval j= .agg (mv m))
  (h:wpList prog c Q b (a.put op.dst (.agg (kv ⟨r,d,v,m⟩))) w):wpList prog c Q (op::b) a w:=
 wpList_plain e fun _ p=>by
  unfold Oper.wp execOp;have q:=KL r d v m w;simp only[s,k,l,n,o,jl,cQ,fu,kb,lg,iB,q];exact p _ _ h
theorem DT (b:Value)(runs a day:Int)(w:World): ∃W,(((((w.alloc (.cells #[b,ag runs] 155)).alloc (.cells #[ag a] 3)).alloc (.cells #[ag day] 3)).alloc (.cells (mv fun _=>false) 39)).alloc (.cells #[af,ag 0] 155)).alloc (.cells #[ag 0,ag 0] 26)=W/\ao w W/\W.heap[w.heap.size]? =ah #[b,ag runs] 155/\W.heap[w.heap.size+1]? =ah #[ag a] 3/\W.heap[w.heap.size+2]? =ah #[ag day] 3/\W.heap[w.heap.size+3]? =ah (mv fun _=>false) 39/\W.heap[w.heap.size+4]? =ah #[af,ag 0] 155/\W.heap[w.heap.size+5]? =ah #[ag 0,ag 0] 26:=
 ⟨_,rfl,(((((am _ _).alloc (by simp) _).alloc (by simp;omega) _).alloc (by simp;omega) _).alloc (by simp;omega) _).alloc (by simp;omega) _,by(repeat (first|refine dh _ _ _ (by simp only[aP];omega) ?_|exact dA _ _ _ (by first|rfl|simp only[aP]))),by(repeat (first|refine dh _ _ _ (by simp only[aP];omega) ?_|exact dA _ _ _ (by first|rfl|simp only[aP]))),by(repeat (first|refine dh _ _ _ (by simp only[aP];omega) ?_|exact dA _ _ _ (by first|rfl|simp only[aP]))),by(repeat (first|refine dh _ _ _ (by simp only[aP];omega) ?_|exact dA _ _ _ (by first|rfl|simp only[aP]))),by(repeat (first|refine dh _ _ _ (by simp only[aP];omega) ?_|exact dA _ _ _ (by first|rfl|simp only[aP]))),by(repeat (first|refine dh _ _ _ (by simp only[aP];omega) ?_|exact dA _ _ _ (by first|rfl|simp only[aP])))⟩
theorem PB (l:List Kp)(cv lv:Value)(runs x a day:Int)(w:World)(h:dT 0 w cv l)(hl:l.length<=676622540150)(r:pB l x a day=true):
  Calls prog 212 #[.agg #[cv,ag runs],lv,ag x,ag a,ag day] w (AZ (l.getD (iC a day l 0).toNat k0).m (gQ l (iC a day l 0)++[l.getD (iC a day l 0).toNat k0]) runs 0 0 w):=by
 obtain⟨i,t⟩:=aq (iC a day l 0);have S:=tp a day l 0;rw[t]at S;have an:i<l.length:=by omega
 have a1:i<=676622540150:=by omega
 have a2: -1<=i:=by omega
 have hz:=ea;obtain⟨wA,av,bA,n5,n8,n9,aa,ac,ad⟩:=DT cv runs a day w;have c1:=vd l cv (w.heap.size+1) (w.heap.size+2) a day wA (h.later bA) n8 n9;rw[t]at c1;have z5:=ak 0 n5
 have hh:0<=i/\(l.getD i.toNat k0).v=x:=by
  unfold pB at r;rw[t,bx,bL,bL]at r;exact r
 obtain⟨a9,s⟩:=hh;rw[t];obtain⟨n,rfl⟩: ∃n:Nat,i=(n:Int):=⟨i.toNat,by omega⟩
 rw[di]at s⊢;obtain⟨k,hk⟩: ∃k,l[n]? =some k:=⟨l[n]'(by omega),az (by omega)⟩
 have T:l.getD n k0=k:=by simp[List.getD,hk]
 rw[T]at s⊢;have HK:=aZ h;obtain⟨p,c,rfl,aE,al,_⟩:=h;obtain⟨g,o,ar,V⟩:=HK.o.at hk;subst ar;have HB:=aZ bA;clear t S r T al bA;go_enter func212,ntmps212;go_wp2_with fail;refine c1.mono ?_;rintro e L ⟨rfl,b1⟩;have z:=aZ (au HB.o b1);have G:=lW V z.o
 have y2:L.cell? (ae g (o+n*26+2))=some (ag x):=by
  rw[<-s];exact G 2 _ (by rw[bq];exact Ng k)
 have m5:=ai b1 n5;have E:=ai b1 aa;have F:=ai b1 ac;have u:=ai b1 ad;have a0:=ak 0 m5;have aG:(n:Int)<(l.length:Int):=by omega
 have bE:=am L (.cells (kv ⟨0,0,0,fun _=>false⟩) 297);have nE:=aB L (.cells (kv ⟨0,0,0,fun _=>false⟩) 297);generalize aw:L.alloc (.cells (kv ⟨0,0,0,fun _=>false⟩) 297)=wE at*;have I:=below_setRow bE (aA _) (kv k);have nF:=aK _ _ _ (kv k) _ _ nE;generalize Y:wE.setRow L.heap.size (kv k)=H at*;clear c1 s n5 n8 n9 aa ac ad b1 av z5 V HB;have ax:=KK
 go_wp2_with(first
  |(refine uZ rfl _ rfl g (o+n*26) rfl k G ?_)
  |(refine aC rfl 297 _ _ rfl _ _ rfl rfl _ _ nE (pD _) (by simp[qW]) (DQ _) ?_))
 obtain⟨j,f⟩:=aq L.heap.size;have N:=aZ (au z.o I);have R:j<H.heap.size:=by rw[<-f];exact aH nF
 have a7:w.heap.size+5<j:=by rw[<-f];exact aH u
 have ay:H.heap[j]? =ah (kv k) 297:=by rw[<-f];exact nF
 replace m5:=ai I m5;replace E:=ai I E;replace F:=ai I F;replace u:=ai I u;rw[Y,f];clear nF I bE nE aw Y G y2 a0 f hz z ax;refine dH (fun M φ W=>GJ w H (w.heap.size+3) H.heap.size k.m (gQ l (n:Int)++[k]) runs 0 0 11 12 13 M W/\GT H.heap.size (gQ l (n:Int)++[k]) (gQ l (n:Int)++[k]) runs 6 1000 9 46 1000 49 M φ W) [kn 40 (ab j 3),kn 41 (.agg (mv k.m)),kn 42 (ab w.heap.size 0),kn 43 (.slice (some (ae g o)) l.length c),kn 44 (ag (n:Int)),kn 45 (.agg (kv k)),td 46,kn 47 (ab w.heap.size 1),kn 48 (ag runs),td 49,kn 50 (.agg #[ag 0,ag 0]),nk,nk,nk] (fun _=>⟨⟨(N.o).trans ((aF H.heap.size H).drew.mono N.o.size),fun _ _ _ _ _=>rfl,aA _,by omega,by omega,fun _=>E,(fun e=>by cases e),fun _=>F,(fun e=>by cases e),fun _=>u,(fun e=>by cases e)⟩,(fun e=>by cases e),(fun e=>by cases e),(fun e=>by cases e)⟩) (fun _ _ _ _ hb h=>⟨h.1.below hb,h.2.mono fun _ _ q=>q.later hb⟩) (by kernel_rfl) (fun M φ W2 b a6 FF ll U d=> ?_) (fun M φ W2 hM b=> ?_)
 ·simp only[kn,td,nk,d6,aR,a8,Act.put,aD,aJ,aI]at U;subst U;simp only[dz,Nat.reduceAdd]at d;obtain⟨b,A⟩:=b;have O:=(b.low j R (by omega) (by omega) (by omega)).trans ay;have b5:=(b.low w.heap.size (by omega) (by omega) (by omega) (by omega)).trans m5;have aL:=ak 0 b5;have aM:=ak 1 b5;clear b5;dsimp only[kn,td,nk,dK,fo,eD,Act.put];and_intros;all_goals first|exact trivial|intro qw qn J K y
  all_goals try (go_simp;with_reducible exact y _ _ ⟨rfl,aF _ _⟩)
  ·refine Nf _ rfl j 3 (by simp[Act.eval,d]) k.m (Nj O) ?_;exact y _ _ ⟨rfl,aF _ _⟩
  ·refine fh 297 _ rfl j (by simp[Act.eval,d]) _ _ _ _ O rI rfl (pD k) ?_;exact y _ _ ⟨rfl,aF _ _⟩
  ·have ao:=HK.o.later b.bel;go_simp;refine(xl l _ (n:Int) k W2 ao hl an).mono ?_;rintro r' W' ⟨v',rfl,ap,P⟩;exact y _ _ ⟨trivial,(b.below P).same 6 (by decide) (by decide) (by decide),(A.mono fun _ _ q=>q.later P).on 6 (fun h=>absurd rfl h) (fun _=>dE (by decide)) (fun _=>dE (by decide)) (fun _=>by rw[dX];exact ap.low b.size) (fun h=>by cases h) (fun h=>by cases h)⟩
  ·have Z:=A.t0 (qw ⟨6,.data⟩ (by simp) rfl rfl);obtain⟨p6,c6,C,_⟩:=id Z;obtain⟨nn,B⟩:=aq ((gQ l (n:Int)++[k]).length);rw[B]at C;rw[C]at d;go_simp;exact y _ _ ⟨trivial,b.same 9 (by decide) (by decide) (by decide),A.on 9 (fun _=>dE (by decide)) (fun _=>dE (by decide)) (fun h=>absurd rfl h) (fun h=>by cases h) (fun h=>by cases h) (fun _=>⟨_,dX ..,C▸Z⟩)⟩
  ·refine eo 39 _ _ rfl _ (mv k.m) (by simp[Act.eval,d]) (by simp[Act.eval,d]) _ _ (b.m0 J) (bg _) (by simp[bU]) (dI _) ?_;exact y undef _ ⟨trivial,b.mask J (by decide) (by decide),(A.mono fun v l X=>X.set (by omega) _).mark 11 (by decide) (by decide) (by decide)⟩
  ·obtain⟨v9,e9,k9⟩:=A.t2 (qw ⟨9,.data⟩ (by simp) rfl rfl);obtain⟨p9,c9,D,_⟩:=id k9;obtain⟨nn,B⟩:=aq ((gQ l (n:Int)++[k]).length);rw[B]at D;rw[e9,D]at d;refine eo 155 _ _ rfl _ #[.slice p9 nn c9,ag runs] (by simp[Act.eval,d]) (by simp[Act.eval,d]) _ _ (b.c0 J) sh (by simp) (by simp[Value.oneCell']) ?_;exact y undef _ ⟨trivial,b.cache J (by decide) (by decide) (D▸k9),(A.mono fun v l X=>X.set (by omega) _).mark 12 (by decide) (by decide) (by decide)⟩
  ·refine eo 26 _ _ rfl _ #[ag 0,ag 0] (by simp[Act.eval,d]) (by simp[Act.eval,d]) _ _ (b.f0 J) oJ (by simp) (by simp[Value.oneCell']) ?_;exact y undef _ ⟨trivial,b.fault J (by decide) (by decide),(A.mono fun v l X=>X.set (by omega) _).mark 13 (by decide) (by decide) (by decide)⟩
 ·obtain⟨b,_⟩:=b;have aj:=b.m1 (hM 11 (by decide) rfl);obtain⟨v9,hC,af⟩:=b.c1 (hM 12 (by decide) rfl);have hF:=b.f1 (hM 13 (by decide) rfl);have Q:=b.bel;have a3:=Q.size;have a5:=b.b1;have a4:=b.b0;simp only[kn,td,nk,ep,aR,a8,Act.put,aD,aJ,aI];clear hM b;go_wp2_with fail;exact xW (w.heap.size+3) k.m (gQ l (n:Int)++[k]) runs 0 0 v9 rfl rfl rfl rfl aj hC hF (af.low (by omega)) Q
theorem Nk {b:List Cd}{a day:Int}(h:(je b a day).1=0):(je b a day).2=0:=by
 unfold je at h⊢;by_cases c:(jV b).1≠0
 ·rw[ax c]at h;exact absurd h c
 ·rw[aw c]at h⊢;split
  ·rfl
  ·split<;>rfl
theorem KM (x:List Cd)(l:List Kp)(cv lv:Value)(runs z a day:Int)(w:World)(h:dT 0 w cv l)(hl:l.length<=676622540150)(av:InV w lv x)(m:pB l z a day=false)(G:(je x a day).1≠0):
  Calls prog 212 #[.agg #[cv,ag runs],lv,ag z,ag a,ag day] w (AZ (fun _=>false) [] 0 (je x a day).1 ((je x a day).2:Int) w):=by
 obtain⟨i,F⟩:=aq (iC a day l 0);have ar:=tp a day l 0;rw[F]at ar;have aW:i<l.length:=by omega
 have aB:i<=676622540150:=by omega
 have aE: -1<=i:=by omega
 have hz:=ea;obtain⟨wA,bb,bA,n5,n8,n9,a3,a4,a5⟩:=DT cv runs a day w;have c1:=vd l cv (w.heap.size+1) (w.heap.size+2) a day wA (h.later bA) n8 n9;rw[F]at c1;have z5:=ak 0 n5;obtain⟨er,S⟩:=aq ((je x a day).1);obtain⟨at_,Q⟩: ∃q:Int,((je x a day).2:Int)=q:=⟨_,rfl⟩
 obtain⟨f,hf⟩:=aq (qv x a day);obtain⟨sn,a1⟩: ∃q:Int,(uY x a day:Int)=q:=⟨_,rfl⟩
 have O:T4 (∀W,ao w W->Calls prog 9 #[lv,ag a,ag day] W (CS f sn er at_ W)):=fun W hW=>by
  have:=xU x lv a day W (av.below hW);rw[S,Q,hf,a1]at this;exact this
 rw[S]at G⊢;rw[Q];have aN:(er==0)=false:=bl.2 G;have aO:(er !=0)=true:=by simpa using G
 have HK:=aZ h;obtain⟨p,c,rfl,aX,ap,_⟩:=h;have HB:=aZ bA;have aY:c<=9223372036854775807:=by unfold maxLen at ap;omega
 have ax: ∀k,l[i.toNat]? =some k->0<=i->k.v≠z:=fun k hk E e=>by
  have:l.getD i.toNat k0=k:=(by simp[List.getD,hk]);unfold pB at m;rw[F,this,Bool.and_eq_false_iff,decide_eq_false_iff_not,decide_eq_false_iff_not]at m;rcases m with q|q
  ·exact q E
  ·exact q e
 have ad:=aZ ax;go_enter func212,ntmps212;go_wp2_with fail;refine c1.mono ?_;rintro e w1 ⟨rfl,b1⟩;have A:=aZ (au HB.o b1);have H:=ai b1 n5;have I:=ai b1 n8;have J:=ai b1 n9;have s:=ai b1 a3;have t:=ai b1 a4;have r:=ai b1 a5;have bi:=ak 0 H;have bj:=ak 0 I;have bk:=ak 0 J;have c2:=O.o w1 A.o;by_cases E:0<=i
 case' pos=>
  obtain⟨n,rfl⟩: ∃n:Nat,i=(n:Int):=⟨i.toNat,by omega⟩
  obtain⟨k,hk⟩: ∃k,l[n]? =some k:=⟨l[n]'(by omega),az (by omega)⟩
  have aw:=ad.o k hk E;obtain⟨g,o,ay,a0⟩:=HK.o.at hk;have a9:=lW a0 A.o;have y2:w1.cell? (ae g (o+n*26+2))=some (ag k.v):=a9 2 _ (by rw[bq];exact Ng k);have a2:(k.v==z)=false:=bl.2 aw;have ba:(n:Int)<(l.length:Int):=(by omega);subst ay;obtain⟨kv9,U⟩:=aq k.v;rw[U]at y2 a2;go_wp2_with fail;generalize (n:Int)=i at*;generalize (some ⟨g,o,none⟩:Option Addr)=p at*
 case' neg=>
  have aV:i<0:=(by omega);go_wp2_with fail
 all_goals
  refine c2.mono ?_
  rintro e j ⟨rfl,b3⟩
  have ab:=aZ (au A.o b3)
  replace H:=ai b3 H
  replace I:=ai b3 I
  replace J:=ai b3 J
  replace s:=ai b3 s
  replace t:=ai b3 t
  replace r:=ai b3 r
  have bX:ao j ((j.alloc (.cells (mv fun _=>false) 39)).alloc (.cells #[ag 0,ag 0] 26)):=(am _ _).alloc (by simp) _
  have Z:((j.alloc (.cells (mv fun _=>false) 39)).alloc (.cells #[ag 0,ag 0] 26)).heap[j.heap.size]? =ah (mv fun _=>false) 39:=by(repeat (first|refine dh _ _ _ (by simp only[aP];omega) ?_|exact dA _ _ _ (by first|rfl|simp only[aP])))
  have a6:((j.alloc (.cells (mv fun _=>false) 39)).alloc (.cells #[ag 0,ag 0] 26)).heap[j.heap.size+1]? =ah #[ag 0,ag 0] 26:=by(repeat (first|refine dh _ _ _ (by simp only[aP];omega) ?_|exact dA _ _ _ (by first|rfl|simp only[aP])))
  generalize bc:(j.alloc (.cells (mv fun _=>false) 39)).alloc (.cells #[ag 0,ag 0] 26)=wX at*
  have a7:=aK _ _ _ (mv f) _ _ Z
  have aa:=(aQ wX j.heap.size (j.heap.size+1) (mv f) (by omega)).trans a6
  have bY:=below_setRow bX (aA _) (mv f)
  generalize bd:wX.setRow j.heap.size (mv f)=wY at*
  have bf:=(aQ wY (j.heap.size+1) j.heap.size #[ag er,ag at_] (by omega)).trans a7
  have u:=aK _ _ _ #[ag er,ag at_] _ _ aa
  have C:=below_setRow bY (by omega:j.heap.size<=j.heap.size+1) #[ag er,ag at_]
  generalize be:wY.setRow (j.heap.size+1) #[ag er,ag at_]=w4 at*
  have aT:w.heap.size+5<j.heap.size:=aH r
  replace H:=ai C H
  replace I:=ai C I
  replace J:=ai C J
  replace s:=ai C s
  replace t:=ai C t
  replace r:=ai C r
  have bh:=ak 0 u
  have z8:=ak 0 I
  have z9:=ak 0 J
  have ac:=aZ (au ab.o C)
  go_wp2_with(first
   |(refine aC rfl 39 _ _ rfl _ _ rfl rfl _ _ Z (bg _) (by simp[bU]) (dI _) ?_)
   |(refine aC rfl 26 _ _ rfl _ _ rfl rfl _ _ aa (by kernel_rfl) (by simp) (by simp[Value.oneCell']) ?_))
  have B:=ac
  obtain⟨N,Y⟩:=aq w4
  obtain⟨y,D⟩:=aq (j.heap.size+1)
  rw[Y]
  rw[Y]at H s t r u B
  simp only[D]at u⊢
  have T:y<N.heap.size:=aH u
  have aU:w.heap.size+5<y:=by omega
  refine dH (fun M φ W=>GJ w N (w.heap.size+3) N.heap.size (fun _=>false) [] 0 er at_ 3 4 5 M W/\GT N.heap.size [] [] 0 1000 1001 1002 1000 1000 1000 M φ W) [kn 62 (.agg (mv fun _=>false)),kn 63 (.agg #[af,ag 0]),kn 64 (.agg #[ag er,ag at_]),nk,nk,nk] (fun _=>⟨⟨(B.o).trans ((aF N.heap.size N).drew.mono B.o.size),fun _ _ _ _ _=>rfl,aA _,by omega,by omega,fun _=>s,(fun e=>by cases e),fun _=>t,(fun e=>by cases e),fun _=>r,(fun e=>by cases e)⟩,(fun e=>by cases e),(fun e=>by cases e),(fun e=>by cases e)⟩) (fun _ _ _ _ hb h=>⟨h.1.below hb,h.2.mono fun _ _ q=>q.later hb⟩) (by kernel_rfl) (fun M φ W2 b aS FF ll V d=> ?_) (fun M φ W2 hM b=> ?_)
  ·simp only[kn,nk,d6,aR,a8,Act.put,aD,aJ,aI]at V
   subst V
   simp only[dz,Nat.reduceAdd]at d
   obtain⟨b,hT⟩:=b
   have aj:=(b.low y T (by omega) (by omega) (by omega)).trans u
   dsimp only[kn,td,nk,dK,fo,eD,Act.put]
   and_intros
   all_goals first|exact trivial|intro qw qn L K P
   all_goals try (go_simp;with_reducible exact P _ _ ⟨rfl,aF _ _⟩)
   ·refine fh 26 _ rfl y (by simp[Act.eval,d]) _ _ _ _ aj mL rfl oJ ?_
    exact P _ _ ⟨rfl,aF _ _⟩
   ·refine eo 39 _ _ rfl _ (mv fun _=>false) (by simp[Act.eval,d]) (by simp[Act.eval,d]) _ _ (b.m0 L) (bg _) (by simp[bU]) (dI _) ?_
    exact P undef _ ⟨trivial,b.mask L (by decide) (by decide),(hT.mono fun v l X=>X.set (by omega) _).mark 3 (by decide) (by decide) (by decide)⟩
   ·refine eo 155 _ _ rfl _ #[af,ag 0] (by simp[Act.eval,d]) (by simp[Act.eval,d]) _ _ (b.c0 L) sh (by simp) (by simp[Value.oneCell']) ?_
    exact P undef _ ⟨trivial,b.cache L (by decide) (by decide) (dT.none _ _ _ _ (dU _)),(hT.mono fun v l X=>X.set (by omega) _).mark 4 (by decide) (by decide) (by decide)⟩
   ·refine eo 26 _ _ rfl _ #[ag er,ag at_] (by simp[Act.eval,d]) (by simp[Act.eval,d]) _ _ (b.f0 L) oJ (by simp) (by simp[Value.oneCell']) ?_
    exact P undef _ ⟨trivial,b.fault L (by decide) (by decide),(hT.mono fun v l X=>X.set (by omega) _).mark 5 (by decide) (by decide) (by decide)⟩
  ·obtain⟨b,_⟩:=b
   have an:=b.m1 (hM 3 (by decide) rfl)
   obtain⟨v9,hC,al⟩:=b.c1 (hM 4 (by decide) rfl)
   have hF:=b.f1 (hM 5 (by decide) rfl)
   have R:=b.bel
   have aG:=R.size
   have aM:=b.b1
   have aL:=b.b0
   simp only[kn,nk,ep,aR,a8,Act.put,aD,aJ,aI]
   go_wp2_with fail
   exact xW (w.heap.size+3) (fun _=>false) [] 0 er at_ v9 rfl rfl rfl rfl an hC hF (al.low (by omega)) R
theorem PC (C:List Cd)(l:List Kp)(cv lv:Value)(runs b a day:Int)(w:World)(h:dT 0 w cv l)(hl:l.length<=676622540150)(aS:InV w lv C)(u:pB l b a day=false)(ax:(je C a day).1=0):
  Calls prog 212 #[.agg #[cv,ag runs],lv,ag b,ag a,ag day] w (AZ (qv C a day) (wh (gQ l (iC a day l 0)++[⟨a,day,b,qv C a day⟩])) (IntKind.i64.wrap (runs+1)) 0 0 w):=by
 obtain⟨i,F⟩:=aq (iC a day l 0);have aN:=tp a day l 0;rw[F]at aN;have ar:i<l.length:=by omega
 have bo:i<=676622540150:=by omega
 have bp: -1<=i:=by omega
 have hz:=ea;obtain⟨wA,b7,bA,n5,n8,n9,be,bf,bh⟩:=DT cv runs a day w;have c1:=vd l cv (w.heap.size+1) (w.heap.size+2) a day wA (h.later bA) n8 n9;rw[F]at c1;have z5:=ak 0 n5;obtain⟨er,O⟩:=aq ((je C a day).1);obtain⟨at_,ad⟩: ∃q:Int,((je C a day).2:Int)=q:=⟨_,rfl⟩
 obtain⟨f,hf⟩:=aq (qv C a day);obtain⟨sn,ba⟩: ∃q:Int,(uY C a day:Int)=q:=⟨_,rfl⟩
 have aa:T4 (∀W,ao w W->Calls prog 9 #[lv,ag a,ag day] W (CS f sn er at_ W)):=fun W hW=>by
  have:=xU C lv a day W (aS.below hW);rw[O,ad,hf,ba]at this;exact this
 rw[F,hf];obtain⟨rn,R⟩:=aq (IntKind.i64.wrap (runs+1));obtain⟨RR,ac⟩:=aq (wh (gQ l i++[(⟨a,day,b,f⟩:Kp)]));rw[R,ac];have a5:=aZ R;have a6:=aZ ac
 have af:at_=0:=by
  rw[<-ad,Nk ax];rfl
 rw[ax]at O;subst O af
 have aM:(gQ l i++[(⟨a,day,b,f⟩:Kp)]).length<=676622540160:=by
  have:=Iw (l:=l) ar;simp;omega
 have HK:=aZ h;obtain⟨p,c,rfl,b2,aL,_⟩:=h;have HB:=aZ bA;have b4:c<=9223372036854775807:=by unfold maxLen at aL;omega
 have aW: ∀k,l[i.toNat]? =some k->0<=i->k.v≠b:=fun k hk P e=>by
  have:l.getD i.toNat k0=k:=(by simp[List.getD,hk]);unfold pB at u;rw[F,this,Bool.and_eq_false_iff,decide_eq_false_iff_not,decide_eq_false_iff_not]at u;rcases u with q|q
  ·exact q P
  ·exact q e
 have a4:=aZ aW;go_enter func212,ntmps212;go_wp2_with fail;refine c1.mono ?_;rintro e w1 ⟨rfl,b1⟩;have J:=aZ (au HB.o b1);have I:=ai b1 n5;have V:=ai b1 n8;have X:=ai b1 n9;have x:=ai b1 be;have y:=ai b1 bf;have s:=ai b1 bh;have bJ:=ak 0 I;have bK:=ak 0 V;have bL:=ak 0 X;have c2:=aa.o w1 J.o;by_cases P:0<=i
 case' pos=>
  obtain⟨n,rfl⟩: ∃n:Nat,i=(n:Int):=⟨i.toNat,by omega⟩
  obtain⟨k,hk⟩: ∃k,l[n]? =some k:=⟨l[n]'(by omega),az (by omega)⟩
  have aV:=a4.o k hk P;obtain⟨g,o,aX,aY⟩:=HK.o.at hk;have bn:=lW aY J.o;have y2:w1.cell? (ae g (o+n*26+2))=some (ag k.v):=bn 2 _ (by rw[bq];exact Ng k);have bb:(k.v==b)=false:=bl.2 aV;have b6:(n:Int)<(l.length:Int):=(by omega);subst aX;obtain⟨kv9,av⟩:=aq k.v;rw[av]at y2 bb;go_wp2_with fail;generalize (n:Int)=i at*;generalize (some ⟨g,o,none⟩:Option Addr)=p at*
 case' neg=>
  have bz:i<0:=(by omega);go_wp2_with fail
 all_goals
  refine c2.mono ?_
  rintro e t ⟨rfl,b3⟩
  have a2:=aZ (au J.o b3)
  replace I:=ai b3 I
  replace V:=ai b3 V
  replace X:=ai b3 X
  replace x:=ai b3 x
  replace y:=ai b3 y
  replace s:=ai b3 s
  have bX:ao t ((t.alloc (.cells (mv fun _=>false) 39)).alloc (.cells #[ag 0,ag 0] 26)):=(am _ _).alloc (by simp) _
  have a0:((t.alloc (.cells (mv fun _=>false) 39)).alloc (.cells #[ag 0,ag 0] 26)).heap[t.heap.size]? =ah (mv fun _=>false) 39:=by(repeat (first|refine dh _ _ _ (by simp only[aP];omega) ?_|exact dA _ _ _ (by first|rfl|simp only[aP])))
  have bk:((t.alloc (.cells (mv fun _=>false) 39)).alloc (.cells #[ag 0,ag 0] 26)).heap[t.heap.size+1]? =ah #[ag 0,ag 0] 26:=by(repeat (first|refine dh _ _ _ (by simp only[aP];omega) ?_|exact dA _ _ _ (by first|rfl|simp only[aP])))
  generalize b9:(t.alloc (.cells (mv fun _=>false) 39)).alloc (.cells #[ag 0,ag 0] 26)=wX at*
  have bm:=aK _ _ _ (mv f) _ _ a0
  have a1:=(aQ wX t.heap.size (t.heap.size+1) (mv f) (by omega)).trans bk
  have bY:=below_setRow bX (aA _) (mv f)
  generalize bB:wX.setRow t.heap.size (mv f)=wY at*
  have A:=(aQ wY (t.heap.size+1) t.heap.size #[ag 0,ag 0] (by omega)).trans bm
  have bi:=aK _ _ _ #[ag 0,ag 0] _ _ a1
  have N:=below_setRow bY (by omega:t.heap.size<=t.heap.size+1) #[ag 0,ag 0]
  generalize bC:wY.setRow (t.heap.size+1) #[ag 0,ag 0]=w4 at*
  have bv:w.heap.size+5<t.heap.size:=aH s
  replace I:=ai N I
  replace V:=ai N V
  replace X:=ai N X
  replace x:=ai N x
  replace y:=ai N y
  replace s:=ai N s
  have bI:=ak 0 bi
  have z8:=ak 0 V
  have z9:=ak 0 X
  have a3:=aZ (au a2.o N)
  have bE:=am w4 (.cells (kv ⟨0,0,0,fun _=>false⟩) 297)
  have nE:=aB w4 (.cells (kv ⟨0,0,0,fun _=>false⟩) 297)
  generalize b8:w4.alloc (.cells (kv ⟨0,0,0,fun _=>false⟩) 297)=wE at*
  have L:=below_setRow bE (aA _) (kv ⟨a,day,b,f⟩)
  have nF:=aK _ _ _ (kv ⟨a,day,b,f⟩) _ _ nE
  generalize bc:wE.setRow w4.heap.size (kv ⟨a,day,b,f⟩)=H at*
  have bD:=KK
  go_wp2_with(first
   |(refine aC rfl 39 _ _ rfl _ _ rfl rfl _ _ a0 (bg _) (by simp[bU]) (dI _) ?_)
   |(refine aC rfl 26 _ _ rfl _ _ rfl rfl _ _ a1 (by kernel_rfl) (by simp) (by simp[Value.oneCell']) ?_)
   |(refine aO rfl 39 _ rfl _ rfl _ _ _ _ A cj rfl (bg _) ?_)
   |(refine xX rfl _ _ _ _ rfl a day b f rfl rfl rfl rfl ?_)
   |(refine aC rfl 297 _ _ rfl _ _ rfl rfl _ _ nE (pD _) (by simp[qW]) (DQ _) ?_))
  obtain⟨z,m⟩:=aq t.heap.size
  obtain⟨B,r⟩:=aq w4.heap.size
  have Z:=aZ (au a3.o L)
  have ap:B<H.heap.size:=by rw[<-r];exact aH nF
  have an:z<H.heap.size:=by rw[<-m];exact aT (aH A) L.size
  have bw:w.heap.size+5<z:=by omega
  have bx:z<B:=by rw[<-m,<-r];exact aH A
  have bj:H.heap[B]? =ah (kv ⟨a,day,b,f⟩) 297:=by rw[<-r];exact nF
  replace A:H.heap[z]? =ah (mv f) 39:=by rw[<-m];exact ai L A
  replace I:=ai L I
  replace x:=ai L x
  replace y:=ai L y
  replace s:=ai L s
  rw[bc]
  simp only[m,r]
  refine dH (fun M φ W=>GJ w H (w.heap.size+3) H.heap.size f RR rn 0 0 12 13 14 M W/\GT H.heap.size (gQ l i++[⟨a,day,b,f⟩]) RR rn 5 6 10 75 76 80 M φ W) [kn 70 (.agg (mv f)),kn 71 (ab w.heap.size 0),kn 72 (.slice p l.length c),kn 73 (ag i),kn 74 (.agg (kv ⟨a,day,b,f⟩)),td 75,td 76,kn 77 (ab w.heap.size 1),kn 78 (ag runs),kn 79 (ag rn),td 80,kn 81 (.agg #[ag 0,ag 0]),nk,nk,nk] (fun _=>⟨⟨(Z.o).trans ((aF H.heap.size H).drew.mono Z.o.size),fun _ _ _ _ _=>rfl,aA _,by omega,by omega,fun _=>x,(fun e=>by cases e),fun _=>y,(fun e=>by cases e),fun _=>s,(fun e=>by cases e)⟩,(fun e=>by cases e),(fun e=>by cases e),(fun e=>by cases e)⟩) (fun _ _ _ _ hb h=>⟨h.1.below hb,h.2.mono fun _ _ q=>q.later hb⟩) (by kernel_rfl) (fun M φ W2 d bu FF ll aw j=> ?_) (fun M φ W2 hM d=> ?_)
  ·simp only[kn,td,nk,d6,aR,a8,Act.put,aD,aJ,aI]at aw
   subst aw
   simp only[dz,Nat.reduceAdd]at j
   obtain⟨d,E⟩:=d
   have a7:=(d.low z an (by omega) (by omega) (by omega)).trans A
   have a9:=(d.low B ap (by omega) (by omega) (by omega)).trans bj
   have b5:=(d.low w.heap.size (by omega) (by omega) (by omega) (by omega)).trans I
   have bG:=ak 0 b5
   have bH:=ak 1 b5
   have R:=a5.o
   dsimp only[kn,td,nk,dK,fo,eD,Act.put]
   and_intros
   all_goals first|exact trivial|intro qw qn Y K D
   all_goals try (go_simp;with_reducible exact D _ _ ⟨rfl,aF _ _⟩)
   ·refine fh 39 _ rfl z (by simp[Act.eval,j]) _ _ _ _ a7 cj rfl (bg _) ?_
    exact D _ _ ⟨rfl,aF _ _⟩
   ·refine fh 297 _ rfl B (by simp[Act.eval,j]) _ _ _ _ a9 rI rfl (pD _) ?_
    exact D _ _ ⟨rfl,aF _ _⟩
   ·have aU:=HK.o.later d.bel
    go_simp
    refine(xl l _ i _ W2 aU hl ar).mono ?_
    rintro r' W' ⟨v',rfl,G,aj⟩
    exact D _ _ ⟨trivial,(d.below aj).same 5 (by decide) (by decide) (by decide),(E.mono fun _ _ q=>q.later aj).on 5 (fun h=>absurd rfl h) (fun _=>dE (by decide)) (fun _=>dE (by decide)) (fun _=>by rw[dX];exact G.low d.size) (fun h=>by cases h) (fun h=>by cases h)⟩
   ·have bd:=E.t0 (qw ⟨5,.data⟩ (by simp) rfl rfl)
    generalize φ 75=v5 at*
    go_simp
    refine(Iz _ _ v5 W2 bd aM).mono ?_
    rintro r' W' ⟨v',rfl,G,U⟩
    replace U:=U.symm
    subst U
    rw[a6.o]at G
    exact D _ _ ⟨trivial,d.same 6 (by decide) (by decide) (by decide),E.on 6 (fun _=>dE (by decide)) (fun h=>absurd rfl h) (fun _=>dE (by decide)) (fun h=>by cases h) (fun _=>by rw[dX];exact G) (fun h=>by cases h)⟩
   ·have ay:=E.t1 (qw ⟨6,.data⟩ (by simp) rfl rfl)
    obtain⟨p6,c6,S,_⟩:=id ay
    obtain⟨nn,Q⟩:=aq RR.length
    rw[Q]at S
    rw[S]at j
    go_simp
    exact D _ _ ⟨trivial,d.same 10 (by decide) (by decide) (by decide),E.on 10 (fun _=>dE (by decide)) (fun _=>dE (by decide)) (fun h=>absurd rfl h) (fun h=>by cases h) (fun h=>by cases h) (fun _=>⟨_,dX ..,S▸ay⟩)⟩
   ·refine eo 39 _ _ rfl _ (mv f) (by simp[Act.eval,j]) (by simp[Act.eval,j]) _ _ (d.m0 Y) (bg _) (by simp[bU]) (dI _) ?_
    exact D undef _ ⟨trivial,d.mask Y (by decide) (by decide),(E.mono fun v l hv=>hv.set (by omega) _).mark 12 (by decide) (by decide) (by decide)⟩
   ·obtain⟨v9,e9,k9⟩:=E.t2 (qw ⟨10,.data⟩ (by simp) rfl rfl)
    obtain⟨p9,c9,T,_⟩:=id k9
    obtain⟨nn,Q⟩:=aq RR.length
    rw[Q]at T
    rw[e9,T]at j
    refine eo 155 _ _ rfl _ #[.slice p9 nn c9,ag rn] (by simp[Act.eval,j]) (by simp[Act.eval,j]) _ _ (d.c0 Y) sh (by simp) (by simp[Value.oneCell']) ?_
    exact D undef _ ⟨trivial,d.cache Y (by decide) (by decide) (T▸k9),(E.mono fun v l hv=>hv.set (by omega) _).mark 13 (by decide) (by decide) (by decide)⟩
   ·refine eo 26 _ _ rfl _ #[ag 0,ag 0] (by simp[Act.eval,j]) (by simp[Act.eval,j]) _ _ (d.f0 Y) oJ (by simp) (by simp[Value.oneCell']) ?_
    exact D undef _ ⟨trivial,d.fault Y (by decide) (by decide),(E.mono fun v l hv=>hv.set (by omega) _).mark 14 (by decide) (by decide) (by decide)⟩
  ·obtain⟨d,_⟩:=d
   have aG:=d.m1 (hM 12 (by decide) rfl)
   obtain⟨v9,hC,aE⟩:=d.c1 (hM 13 (by decide) rfl)
   have hF:=d.f1 (hM 14 (by decide) rfl)
   have al:=d.bel
   have br:=al.size
   have bt:=d.b1
   have bs:=d.b0
   simp only[kn,td,nk,ep,aR,a8,Act.put,aD,aJ,aI]
   go_wp2_with fail
   exact xW (w.heap.size+3) f RR rn 0 0 v9 rfl rfl rfl rfl aG hC hF (aE.low (by omega)) al
end Go.Proofs.YtpdoienkhgnceaaGreatDoor
