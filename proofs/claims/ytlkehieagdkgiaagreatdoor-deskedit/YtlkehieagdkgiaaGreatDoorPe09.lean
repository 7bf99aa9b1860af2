/- Texts of the proof. -/
import Derived.Test.YtlkehieagdkgiaaGreatDoorPe08
import Derived.Lib.AppendZeros
set_option maxRecDepth 100000
set_option maxHeartbeats 8000000
namespace Go.Proofs.YtlkehieagdkgiaaGreatDoor
open Go.Proofs.Tryz Go.RowKit Lx Vx Mx Msk
namespace Vx
structure Kp where
 r:Int
 d:Int
 v:Int
 m:M
def k0:Kp:=⟨0,0,0,noM⟩
def fQ (r d:Int):List Kp->Nat->Int
 |[],_=> -1
 |k::l,j=>if k.r=r/\k.d=d then(j:Int) else fQ r d l (j+1)
theorem IK {r d:Int}{l:List Kp}{j:Nat}{k:Kp}(h:l[j]? =some k)(i:Nat):fQ r d (l.drop j) i=if k.r=r/\k.d=d then(i:Int) else fQ r d (l.drop (j+1)) (i+1):=by
 have a:=(aF.1 h).1
 have e:l.drop j=k::l.drop (j+1):=by
  rw[bJ a];congr 1;exact(aF.1 h).2
 rw[e];rfl
theorem sS (r d:Int): ∀(l:List Kp) (j:Nat),fQ r d l j= -1\/((j:Int)<=fQ r d l j/\fQ r d l j<(j:Int)+l.length)
 |[],_=> .inl rfl
 |k::l,j=>by
  unfold fQ;by_cases h:k.r=r/\k.d=d
  ·rw[aB h];refine .inr ⟨io _,?_⟩;rw[bV];omega
  ·rw[ax h];rcases sS r d l (j+1) with a|⟨a,b⟩
   ·exact .inl a
   ·refine .inr ⟨by omega,?_⟩;rw[bV];omega
def fC (l:List Kp)(i:Int):List Kp:=if 0<=i then l.take i.toNat++l.drop (i.toNat+1) else l
def qx (l:List Kp):List Kp:=l.drop (l.length-64)
def mg (l:List Kp)(v r d:Int):Bool:=decide (0<=fQ r d l 0)&&decide ((l.getD (fQ r d l 0).toNat k0).v=v)
theorem Ga {l:List Kp}{i:Int}(h:i<l.length):(fC l i).length<=l.length:=by
 unfold fC;split
 ·simp;omega
 ·exact aD _
theorem DS {l:List Kp}{i:Int}(a:0<=i)(h:i<l.length):(fC l i).length+1=l.length:=by
 unfold fC;rw[aB a];simp;omega
def al8:List Cd:=[⟨[⟨1,0,0,0,[(5,9)]⟩,⟨1,0,0,0,[(7,12)]⟩,⟨2,0,0,0,[]⟩],2,3⟩]
def al9:List Cd:=[⟨[⟨1,0,0,0,[(5,9)]⟩],1,1⟩]
section
variable {wk:Int->Bool} {day:Int} {cs:List Cd} {l:List In}
structure Fr where
 r:Nat
 k:Nat
 S:List M
section
variable (wk:Int->Bool) (day:Int) (cs:List Cd)
end
end
section
variable {wk:Int->Bool} {day:Int} {cs:List Cd} {l:List In}
abbrev O0 (cs:List Cd)(r:Nat):List In:=(cs.getD r cd0).ins
theorem mM.at (b:mM cs){r:Nat}(d:r<cs.length): ∃c,cs[r]? =some c/\O0 cs r=c.ins/\mw c.ins/\(∀(j:Nat) (x:In),c.ins[j]? =some x->gg x j c.ins.length cs.length=0)/\c.ins.length<=2000:=by
 have a:cs[r]? =some cs[r]:=ay d;have ha:=jD (b.alone r _ a);exact⟨cs[r],a,by unfold O0;rw[jl a],(b.fit r _ a).well,ha.2.2,ha.1.2⟩
end
end Vx
section
section
variable {wd:World} {gb:Nat} {X:Array Value} {L:Nat->Bool} {W:World}
end
section
variable {w0 W W':World} {F:List Fr} {S:List M} {sv fv:Value} {gb:Nat} {X:Array Value}
theorem Gb {w0 W W':World}{row:Option Nat}(a:aq w0 W)(b:W.grownBy W' row)(d: ∀k,row=some k->w0.heap.size<=k):aq w0 W':=
 ⟨b.os.trans a.os,b.tape.trans a.tape,b.output.trans a.output,bg a.size b.size,fun q c=>(b.block q (aU c a.size) fun e=>by have:=d q e.symm;omega).trans (a.block q c)⟩
end
end
section
section
variable {vals:List Value} {base n:Nat} {xs:List Value} {f:M} {L L':Nat->Bool} {W W' W1:World} {row:Option Nat}
end
theorem lL {w w':World}{g o:Nat}{xs:List Value}(h:w.rangeAt g o xs)(a:aq w w'):w'.rangeAt g o xs:=fun j v c=>by
 have b:=h j v c;exact aj a b
theorem KU {op:Oper}{a:Act}{w:World}{K:Act->World->Prop}{Q:Exit->Act->World->Prop}(x:Operand)(d:op.op= .load 55 x)(b o:Nat)(e:a.eval x=ab b o)(f:M)(c:w.rangeAt b o (mv f).toList)(h:K (a.put op.dst (.agg (mv f))) w):op.wp prog a w K Q:=by
 refine wp_load_mid 55 x d b o e (mv f).toList _ c dm rfl (by rw[sQ];kernel_rfl) ?_;simpa using h
end
def kv (k:Kp):Array Value:= #[ag k.r,ag k.d,ag k.v]++mv k.m
theorem qG (k:Kp):(kv k).size=26:=by simp[kv,di]
theorem EN (k:Kp):(kv k).toList.length=26:=by rw[df];exact qG k
theorem CF (k:Kp):(kv k).all (·.oneCell')=true:=by
 unfold kv;rw[Array.all_append,dW];simp[Value.oneCell']
theorem QP (k:Kp):(kv k)[0]? =some (ag k.r):=by
 unfold kv;rw[Array.getElem?_append_left (by simp)];rfl
theorem QQ (k:Kp):(kv k)[1]? =some (ag k.d):=by
 unfold kv;rw[Array.getElem?_append_left (by simp)];rfl
theorem KV (k:Kp):(kv k)[2]? =some (ag k.v):=by
 unfold kv;rw[Array.getElem?_append_left (by simp)];rfl
theorem Nf (k:Kp): ∀u∈(kv k).toList,u.oneCell'=true:=by
 intro u a;have:=CF k;rw[Array.all_eq_true_iff_forall_mem]at this;exact this u (Array.mem_def.2 a)
theorem rj:prog.underlying 223=some (.struct (prog.fieldsOf 223)):=by kernel_rfl
theorem o5 (k:Kp):(prog.info? 223).map (·.size)=some (kv k).size:=by rw[qG];kernel_rfl
theorem IL (k:Kp):(prog.info? 223).map (·.size)=some (kv k).toList.length:=by rw[EN];kernel_rfl
def iU (l:List Kp):List Value:=l.flatMap fun k=>(kv k).toList
theorem mi (l a:List Kp):iU (l++a)=iU l++iU a:=by unfold iU;rw[fG]
theorem AO (k:Kp):iU [k]=(kv k).toList:=by simp[iU]
theorem pS: ∀l:List Kp,(iU l).length=l.length*26
 |[]=>rfl
 |k::l=>by
  have h:=pS l;have e:iU (k::l)=(kv k).toList++iU l:=rfl;rw[e,aP,h,EN,bV];omega
theorem IM: ∀(l:List Kp),∀u∈iU l,u.oneCell'=true:=fun l u a=>by
 unfold iU at a;rw[List.mem_flatMap]at a;obtain⟨k,_,h⟩:=a;exact Nf k u h
theorem yI {w:World}{g o:Nat}{xs ys:List Value}(h:w.rangeAt g o (xs++ys)):w.rangeAt g o xs:=fun j v a=>
 h j v (by rw[dT (aF.1 a).1];exact a)
theorem v6 {w:World}{g o:Nat}{xs ys:List Value}(h:w.rangeAt g o (xs++ys)):w.rangeAt g (o+xs.length) ys:=fun j v a=>by
 have:=h (xs.length+j) v (by rw[dB (by omega),Nat.add_sub_cancel_left];exact a);rw[<-Nat.add_assoc]at this;exact this
def eD (B:Nat)(w:World)(v:Value)(l:List Kp):Prop:= ∃p c,v= .slice p l.length c/\l.length<=c/\c<=maxLen/\(l≠[]-> ∃g o,p=some ⟨g,o,none⟩/\B<=g/\w.rangeAt g o (iU l))
theorem eD.later {B:Nat}{w w':World}{v:Value}{l:List Kp}(h:eD B w v l)(i:aq w w'):eD B w' v l:=by
 obtain⟨p,c,e,a,b,d⟩:=h;refine⟨p,c,e,a,b,fun j=> ?_⟩;obtain⟨g,o,k,f,m⟩:=d j;exact⟨g,o,k,f,lL m i⟩
theorem eD.low {B a:Nat}{w:World}{v:Value}{l:List Kp}(h:eD B w v l)(j:a<=B):eD a w v l:=by
 obtain⟨p,c,e,b,d,f⟩:=h;refine⟨p,c,e,b,d,fun k=> ?_⟩;obtain⟨g,o,m,i,n⟩:=f k;exact⟨g,o,m,bg j i,n⟩
theorem KW {w:World}{g o:Nat}{l:List Kp}(h:w.rangeAt g o (iU l)){j:Nat}{k:Kp}(c:l[j]? =some k):w.rangeAt g (o+j*26) (kv k).toList:=by
 have a:=(aF.1 c).1
 have e:l=l.take j++([k]++l.drop (j+1)):=by
  conv=>lhs;rw[<-gY j l]
  congr 1;rw[bJ a,(aF.1 c).2];rfl
 rw[e,mi,mi,AO]at h;have b:=yI (v6 h);rw[pS,eI,fg (by omega)]at b;exact b
theorem eD.at {B:Nat}{w:World}{p:Option Addr}{n c:Nat}{l:List Kp}(h:eD B w (.slice p n c) l){j:Nat}{k:Kp}(a:l[j]? =some k): ∃g o,p=some ⟨g,o,none⟩/\w.rangeAt g (o+j*26) (kv k).toList:=by
 obtain⟨q,m,e,_,_,d⟩:=h;injection e with b _ _;subst b;obtain⟨g,o,f,_,i⟩:=d (by rintro rfl;simp at a);exact⟨g,o,f,KW i a⟩
theorem uw {d:Array Oper}{c:List Oper}{op:Oper}{a:Act}{w:World}{Q:Exit->Act->World->Prop}(e:op.guard=none)(x:Operand)(g:op.op= .load 223 x)(b o:Nat)(i:a.eval x=ab b o)(k:Kp)(f:w.rangeAt b o (kv k).toList)
  (h:wpList prog d Q c (a.put op.dst (.agg (kv k))) w):wpList prog d Q (op::c) a w:=by
 refine wpList_load_mid e 223 x g b o i (kv k).toList _ f rj rfl (IL k) ?_;simpa using h
theorem KX (k:Kp)(n o:Nat)(a day:Int)(w:World)(i:w.heap[n]? =ah #[ag a] 3)(j:w.heap[o]? =ah #[ag day] 3):
  Calls prog 163 #[.agg (kv k),ab n 0,ab o 0] w fun e w'=>e= .returned (.bool (decide (k.r=a/\k.d=day)))/\aq w w':=by
 have f:=am w (.cells (kv k) 223);have g:=aG w (.cells (kv k) 223);have x:=(aZ _ _ 0 _ _ _ (ai f i)).trans rfl;have y:=(aZ _ _ 0 _ _ _ (ai f j)).trans rfl;have t:=(aZ _ _ 0 _ _ _ g).trans (QP k);have u:=(aZ _ _ 1 _ _ _ g).trans (QQ k);generalize q:w.alloc (.cells (kv k) 223)=s at*;obtain⟨r,d,v,m⟩:=k;dsimp only at*;by_cases b:r=a
 ·by_cases c:d=day
  ·rw[bh (⟨b,c⟩:r=a/\d=day)];have l:(r==a)=true:=(by simp[b]);have p:(d==day)=true:=(by simp[c]);clear b c i j g;go_enter func163,ntmps163;go_wp2_with fail;go_ret;exact⟨rfl,f⟩
  ·rw[bn (fun e:r=a/\d=day=>c e.2)];have l:(r==a)=true:=(by simp[b]);have p:(d==day)=false:=(by simp[c]);clear b c i j g;go_enter func163,ntmps163;go_wp2_with fail;go_ret;exact⟨rfl,f⟩
 ·rw[bn (fun e:r=a/\d=day=>b e.1)];have l:(r==a)=false:=(by simp[b]);clear b i j g;go_enter func163,ntmps163;go_wp2_with fail;go_ret;exact⟨rfl,f⟩
theorem ux (l:List Kp)(v:Value)(y z:Nat)(a day:Int)(w:World)(h:eD 0 w v l)(F:w.heap[y]? =ah #[ag a] 3)(G:w.heap[z]? =ah #[ag day] 3):
  Calls prog 162 #[v,.func (.func 163) #[] #[ab y 0,ab z 0]] w fun e w'=>e= .returned (ag (fQ a day l 0))/\aq w w':=by
 have E:=ba h;obtain⟨p,c,rfl,A,s,_⟩:=h;have I:l.length<9223372036854775808:=by unfold maxLen at s;omega
 clear A s;go_enter func162,ntmps162;go_wp2_with fail;go_loopw [5,8] (fun _ t wr=> ∃j:Nat,t=ag (j:Int)/\j<=l.length/\fQ a day l 0=fQ a day (l.drop j) j/\aq w wr) (fun _ t _=>l.length-(intOf t).toNat);case atStart=>exact⟨0,rfl,by omega,rfl,aH _ _⟩
 case round=>
  obtain⟨j,rfl,J,b,i⟩:=hrel;have H:(0:Int)<=(j:Int):=(by omega);by_cases B:j<l.length
  ·have u:(j:Int)<(l.length:Int):=(by omega);obtain⟨k,f⟩: ∃p,l[j]? =some p:=⟨l[j],ay B⟩
   rw[IK f]at b;obtain⟨g,o,C,D⟩:=E.o.at f;subst C;have x:=lL D i;have c1:=KX k y z a day wr (ai i F) (ai i G);clear D f;go_wp2_with(refine uw rfl _ rfl g (o+j*26) rfl k x ?_)
   refine c1.mono ?_;rintro e K ⟨rfl,b1⟩;have q:=aw i b1;clear c1 b1 x i;by_cases m:k.r=a/\k.d=day
   ·rw[aB m]at b;have n:=ba b;rw[bh m];clear b m;go_wp2_with fail;go_ret;exact⟨by(rw[n.o])<;>rfl,q⟩
   ·rw[ax m]at b;have n:=ba b;rw[bn m];clear b m;go_wp2_with fail;go_roundw;case rel=>exact⟨j+1,by go_num,by omega,n.o,q⟩
    case measure=>simp[intOf];omega
  ·have u: ¬(j:Int)<(l.length:Int):=(by omega)
   have n:Rb (fQ a day l 0= -1):=by
    show _=_;rw[b,dq (by omega)];rfl
   clear b;go_wp2_with fail;go_ret;exact⟨by(rw[n.o])<;>rfl,i⟩
section
theorem xn:(prog.info? 223).map (fun i=>(i.zero,i.size,i.bytes))=some (some (.agg (kv ⟨0,0,0,fun _=>false⟩)),26,208):=by kernel_rfl
theorem uy:prog.underlying 69=some (.slice 223):=by kernel_rfl
theorem ol {w:World}{a n:Nat}{sv:Value}{xs:List Value}(h:w.ownsRow a 223 26 sv n xs): ∃p c,sv= .slice p n c/\n<=c:=by
 rcases h.2 with⟨e,f⟩|⟨b,cap,d,e,_,_,g,_⟩
 ·exact⟨none,0,by rw[e,f],by omega⟩
 ·exact⟨_,cap,e,g⟩
theorem eD.of_own {w:World}{a:Nat}{v:Value}{l:List Kp}(h:w.ownsRow a 223 26 v l.length (iU l)):eD a w v l:=by
 rcases h.2 with⟨e,d⟩|⟨g,cap,f,e,i,m,n,k,p,o⟩
 ·exact⟨none,0,by rw[e,d],by omega,by unfold maxLen;omega,fun q=>absurd (iu.1 d) q⟩
 ·refine⟨_,cap,e,n,k,fun _=>⟨g,0,rfl,i,fun j u b=> ?_⟩⟩
  have c:j<l.length*26:=by
   have:=(aF.1 b).1;rwa[pS]at this
  refine(aZ _ _ _ _ _ _ m).trans ?_;rw[<-o,dP c,bx]at b;rw[cY];exact b
theorem yJ (w:World)(g:TypeId)(a p:Option Addr)(n cap c:Nat)(b:n<=cap):(Builtin.append_ #[69,69] g #[.slice a n cap,.slice p 0 c]).run prog w= .ok (.slice a n cap) w:=by
 obtain⟨i,hi,d,e,f⟩:=jw xn;cases a<;>cases p<;>simp[Builtin.append_,gu uy,sizeOf,typeInfo,hi,b,Builtin.lenOf,Builtin.firstCells,storeCells,loadCells,loadCellsFrom]
section
variable {ops:Array Oper} {rest:List Oper} {op:Oper} {a:Act} {w:World} {Q:Exit->Act->World->Prop}
theorem zX (f:op.guard=none)(s x:Operand)(y:op.op= .call {callee:= .builtin .append,args:= #[s,x],argTypes:= #[69,69]})(b:Nat)(S l:List Kp)(v B:Value)(z:a.eval s=v)(d:w.ownsRow b 223 26 v S.length (iU S))(A:a.eval x=B)(H:eD 0 w B l)(O:S.length+l.length<=676622540160)(F:b<=w.heap.size)
  (h: ∀i w',w'.ownsRow b 223 26 i (S++l).length (iU (S++l))->w.grownBy w' v.ownBlock->wpList prog ops Q rest (a.put op.dst i) w'):wpList prog ops Q (op::rest) a w:=by
 obtain⟨p,c,e,I,G,L⟩:=H;subst e;by_cases t:l=[]
 ·subst t;obtain⟨N,c1,C,j⟩:=ol d;subst C;rw[gH]at h;refine Go.Lib.wpList_append_run w f s x _ _ y _ _ z A _ _ (yJ w _ N p _ c1 c j) (h _ _ d ⟨rfl,rfl,rfl,aD _,fun _ _ _=>rfl⟩)
 ·obtain⟨g,o,J,_,k⟩:=L t;subst J;obtain⟨M,hi,m,n,r⟩:=jw xn;refine jf (w:=w) f s x 69 y b 223 M _ 26 208 uy hi m n r (by exact qG _) (by decide) v S.length (iU S) z d ⟨g,o,none⟩ l.length c (iU l) A (pS l) ?_ (IM l) (by unfold maxLen;omega) (by omega) F fun i w' D E _=> ?_
  ·intro q u K;rw[vC];exact k q u K
  ·refine h i w' ?_ E;rw[aP,mi];exact D
end
theorem Qb (n:Nat)(w:World)(j:0<n)(t:n<=676622540160):
  Calls prog 190 #[af,ag (n:Int)] w fun e w'=> ∃v,e= .returned v/\w'.ownsRow w.heap.size 223 26 v 0 []/\aq w w':=by
 obtain⟨r,hi,d,q,f⟩:=jw xn;have b:=fun s=>Go.Lib.run_append_nil_zeros (P:=prog) w 69 3 s 223 r _ .i64 .i64 uy (by kernel_rfl) hi d n j (by omega) (by omega) (by rw[f];omega);have l:=grownCap_ge w n 0 223;have a:=grownCap_le_maxLen w n 0 223 (by unfold maxLen;omega)
 have c:(Builtin.zeroCells (Value.agg (kv ⟨0,0,0,fun _=>false⟩)).cells n++Builtin.zeroCells (Value.agg (kv ⟨0,0,0,fun _=>false⟩)).cells (grownCap w n 0 223-n)).size=grownCap w n 0 223*26:=by
  rw[Array.size_append,size_zeroCells,size_zeroCells];have e:(Value.agg (kv ⟨0,0,0,fun _=>false⟩)).cells.size=26:=qG _;rw[e];omega
 have i:Rb ((w.drew.alloc (.cells (Builtin.zeroCells (Value.agg (kv ⟨0,0,0,fun _=>false⟩)).cells n++Builtin.zeroCells (Value.agg (kv ⟨0,0,0,fun _=>false⟩)).cells (grownCap w n 0 223-n)) 223)).ownsRow w.heap.size 223 26 (.slice (some (ae w.heap.size 0)) 0 (grownCap w n 0 223)) 0 []):=
  ⟨rfl,.inr ⟨w.heap.size,_,_,rfl,aD _,aG _ _,dF _,a,c,by simp⟩⟩
 have k:aq w (w.drew.alloc (.cells (Builtin.zeroCells (Value.agg (kv ⟨0,0,0,fun _=>false⟩)).cells n++Builtin.zeroCells (Value.agg (kv ⟨0,0,0,fun _=>false⟩)).cells (grownCap w n 0 223-n)) 223)):=(aH _ _).drew.alloc (aD _) _;generalize w.drew.alloc (.cells (Builtin.zeroCells (Value.agg (kv ⟨0,0,0,fun _=>false⟩)).cells n++Builtin.zeroCells (Value.agg (kv ⟨0,0,0,fun _=>false⟩)).cells (grownCap w n 0 223-n)) 223)=u at*;generalize grownCap w n 0 223=cap at*;have m:(0:Int)<(n:Int):=by omega
 have p:(n:Int)<=676622540160:=by omega
 have g:cap<=9223372036854775807:=by unfold maxLen at a;omega
 clear c a;go_enter func190,ntmps190;go_wp2_with(refine Go.Lib.wpList_append_run w rfl _ _ _ _ rfl _ _ rfl rfl _ _ (b _) ?_)
 go_ret;exact⟨_,rfl,i.o,k⟩
def iO (a:List (Value×List Kp))(j:Nat):List Kp:=(a.take j).flatMap fun p=>p.2
theorem AP {a:List (Value×List Kp)}{j:Nat}{p:Value×List Kp}(h:a[j]? =some p):iO a (j+1)=iO a j++p.2:=by
 unfold iO;rw[eX,h,fG];simp
theorem Ng (a:List (Value×List Kp))(j:Nat):(iO a j).length<=(iO a a.length).length:=by
 unfold iO;rw[gI];conv=>rhs;rw[<-gY j a]
 rw[fG,aP];omega
theorem yK (a:List (Value×List Kp))(K M O:Nat)(w:World)(L: ∀(j:Nat) (p:Value×List Kp),a[j]? =some p->w.cell? (ae K (M+j))=some p.1/\eD 0 w p.1 p.2)(S:a.length<=1000)(P:0<(iO a a.length).length)(Q:(iO a a.length).length<=676622540160):
  Calls prog 178 #[.slice (some (ae K M)) a.length O] w fun e w'=> ∃v,e= .returned v/\w'.ownsRow w.heap.size 223 26 v (iO a a.length).length (iU (iO a a.length))/\aq w w':=by
 have J:=ba L;have c:=fun j=>Ng a j;clear L;go_enter func178,ntmps178;go_wp2_with fail;go_loopw [3,5,11] (fun s _ t wr=> ∃j:Nat,s=ag ((iO a j).length:Int)/\t=ag (j:Int)/\j<=a.length/\wr=w) (fun _ _ t _=>a.length-(intOf t).toNat);case atStart=>exact⟨0,rfl,rfl,by omega,rfl⟩
 case round=>
  obtain⟨j,rfl,rfl,R,r⟩:=hrel;replace r:=r.symm;subst r;have I:(0:Int)<=(j:Int):=(by omega);by_cases n:j<a.length
  ·have g:(j:Int)<(a.length:Int):=(by omega);obtain⟨p,b⟩: ∃p,a[j]? =some p:=⟨a[j],ay n⟩
   obtain⟨D,u⟩:=J.o j p b;have e:=AP b;have m1:=c (j+1);rw[e,aP]at m1;obtain⟨N,lp⟩:=p;obtain⟨pp,W,B,_,_,_⟩:=u;dsimp only at D B e m1;subst B;have C:Rb ((iO a j).length+lp.length=(iO a (j+1)).length):=(by show _=_;rw[e,aP]);clear e b;have U:((iO a j).length:Int)+(lp.length:Int)<=676622540160:=(by omega);have T:(0:Int)<=((iO a j).length:Int)+(lp.length:Int):=(by omega);generalize (iO a j).length=sj at*;generalize lp.length=X at*;clear m1 c;go_wp2_with fail;go_roundw;case rel=>exact⟨j+1,by(rw[<-C.o])<;>go_num,by go_num,by omega,trivial⟩
   case measure=>simp[intOf];omega
  ·have g: ¬(j:Int)<(a.length:Int):=(by omega);have F:j=a.length:=(by omega);subst F;have c1:=Qb (iO a a.length).length w P Q;go_wp2_with fail;refine c1.mono ?_;rintro e w1 ⟨v1,rfl,d,b1⟩;obtain⟨Y,q1,rfl,_⟩:=ol d;clear c1;go_wp2_with fail;go_loopw [6,8,27] (fun s _ t wr=> ∃j:Nat,t=ag (j:Int)/\j<=a.length/\wr.ownsRow w.heap.size 223 26 s (iO a j).length (iU (iO a j))/\aq w wr) (fun _ _ t _=>a.length-(intOf t).toNat);case atStart=>exact⟨0,rfl,by omega,d,b1⟩
   case round=>
    obtain⟨j,rfl,R,f,b2⟩:=hrel;have I:(0:Int)<=(j:Int):=(by omega);obtain⟨Z,q2,rfl,_⟩:=ol f;by_cases n:j<a.length
    ·have g:(j:Int)<(a.length:Int):=(by omega);obtain⟨p,b⟩: ∃p,a[j]? =some p:=⟨a[j],ay n⟩
     obtain⟨D,u⟩:=J.o j p b;have e:=AP b;have m1:=c (j+1);rw[e,aP]at m1;have m:=u.later b2;have H:=aj b2 D;have l:=b2.size;have A:(iO a j).length+p.2.length<=676622540160:=(by omega);obtain⟨N,lp⟩:=p;dsimp only at H m e A;have C:=ba e;have y:=ba m;have i:=ba f;have x:=ba b2;clear e b u D d b1 m1 m f b2 c
     go_wp2_with(refine zX rfl _ _ rfl w.heap.size (iO a j) lp _ N rfl i.o rfl y.o A l ?_
                 intro v9 V q z
                 rw[<-C.o]at q
                 have G:aq w V:=Gb x.o z fun k u=>(i.o.lt k u).1
                 have E:=ba q
                 clear i y x C q z)
     go_roundw;case rel=>exact⟨j+1,by go_num,by omega,E.o,G⟩
     case measure=>simp[intOf];omega
    ·have g: ¬(j:Int)<(a.length:Int):=(by omega);have F:j=a.length:=(by omega);subst F;clear d b1;go_wp2_with fail;go_ret;exact⟨_,rfl,f,b2⟩
end
theorem O1 (k:Kp)(W:World):(Instr.buildSlice 69 1 #[(0,.agg (kv k))]).run prog W= .ok (.slice (some (ae W.heap.size 0)) 1 1) (W.alloc (.cells (kv k) 223)):=by
 kernel_rfl
theorem tT {c:Array Oper}{b:List Oper}{op:Oper}{a:Act}{w:World}{Q:Exit->Act->World->Prop}(d:op.guard=none)(x:Operand)(g:op.op= .buildSlice 69 1 #[(0,x)])(k:Kp)(i:a.eval x= .agg (kv k))
  (h:wpList prog c Q b (a.put op.dst (.slice (some (ae w.heap.size 0)) 1 1)) (w.alloc (.cells (kv k) 223))):wpList prog c Q (op::b) a w:=
 wpList_plain d fun _ e=>by
  unfold Oper.wp execOp;have f:=O1 k w;simp only[g,i,jp,dO,fA,j8,lg,iA,f];exact e _ _ h
theorem eD.take {B:Nat}{w:World}{p:Option Addr}{n c:Nat}{l:List Kp}(h:eD B w (.slice p n c) l)(j:Nat)(m:j<=l.length):eD B w (.slice p j c) (l.take j):=by
 obtain⟨v,s,e,u,f,i⟩:=h;injection e with b t d;subst b d;refine⟨p,c,by rw[eI,fg m],by rw[eI];omega,f,fun q=> ?_⟩;obtain⟨g,o,r,k,a⟩:=i (by rintro rfl;simp at q);refine⟨g,o,r,k,?_⟩;rw[<-gY j l,mi]at a;exact yI a
theorem eD.drop {B:Nat}{w:World}{p:Option Addr}{n c:Nat}{l:List Kp}(h:eD B w (.slice p n c) l)(j:Nat)(m:j<=l.length):eD B w (.slice (if c=j then p else Option.map (fun x=>x.add (j*26)) p) (l.length-j) (c-j)) (l.drop j):=by
 obtain⟨z,t,e,v,y,i⟩:=h;injection e with d u f;subst d f;refine⟨_,c-j,by rw[fz],by rw[fz];omega,by omega,fun a=> ?_⟩
 have r:j<l.length:=by
  rcases Nat.lt_or_ge j l.length with q|q
  ·exact q
  ·exact absurd (dq q) a
 obtain⟨g,o,s,k,b⟩:=i (by rintro rfl;simp at a);subst s;refine⟨g,o+j*26,?_,k,?_⟩
 ·rw[ax (by omega)];show some ((⟨g,o,none⟩:Addr).add (j*26))=_;rw[vC]
 ·rw[<-gY j l,mi]at b;have:=v6 b;rwa[pS,eI,fg m]at this
theorem eD.one {w:World}{g:Nat}{k:Kp}(h:w.heap[g]? =ah (kv k) 223):eD 0 w (.slice (some (ae g 0)) 1 1) [k]:=
 ⟨_,1,rfl,by simp,by unfold maxLen;omega,fun _=>⟨g,0,rfl,dF _,fun j u a=>by
   rw[AO]at a;refine(aZ _ _ _ _ _ _ h).trans ?_;rw[cY,<-bx];exact a⟩⟩
theorem CG {w:World}{b d:Nat}{e:TypeId}{size n:Nat}{v:Value}{xs:List Value}(h:w.ownsRow d e size v n xs)(i:b<=d):w.ownsRow b e size v n xs:=by
 obtain⟨f,c⟩:=h;rcases c with c|⟨g,cap,a,e,q,r⟩
 ·exact⟨f,.inl c⟩
 ·exact⟨f,.inr ⟨g,cap,a,e,bg i q,r⟩⟩
theorem eD.none (B:Nat)(w:World)(p:Option Addr)(c:Nat)(a:c<=maxLen):eD B w (.slice p 0 c) []:=⟨p,c,rfl,by simp,a,fun h=>absurd rfl h⟩
theorem CH (l:List Kp)(v:Value)(i:Int)(hi:i<0)(k:Kp)(w:World)(h:eD 0 w v l)(hl:l.length<=676622540150):
  Calls prog 164 #[v,ag (i:Int),.agg (kv k)] w fun e w'=> ∃K,e= .returned K/\w'.ownsRow w.heap.size 223 26 K (l++[k]).length (iU (l++[k]))/\aq w w':=by
 obtain⟨R,I⟩:=au (l++[k]);rw[I];have G:=am w (.cells (kv k) 223);have X:=aG w (.cells (kv k) 223);have r:=h.later G;obtain⟨p,c,rfl,T,C,_⟩:=h;have Q:(0:Int)<=(l.length:Int):=by omega
 have S:(l.length:Int)<=676622540150:=by omega
 have J:c<=9223372036854775807:=by unfold maxLen at C;omega
 generalize U:w.alloc (.cells (kv k) 223)=m at*;have z:Rb (eD 0 m (.slice p l.length c) l):=r;have A:Rb (eD 0 m (.slice (if c=l.length then p else Option.map (fun x=>x.add (l.length*26)) p) 0 (c-l.length)) []):=eD.none _ _ _ _ (by omega);have HK:=ba r;have L:=ba G;go_enter func164,ntmps164;go_wp2_with fail;go_quiet (fail);generalize (if c=l.length then p else Option.map (fun x=>x.add (l.length*26)) p)=n at*;have u:aq m (m.drewN nq):=du (aH _ _) nq;obtain⟨b,s⟩:=au (m.drewN nq);rw[s]at u;rw[s];have D:b.heap[w.heap.size]? =ah (kv k) 223:=ai u X;have N:=am b (.cells (kv k) 223);have Y:=aG b (.cells (kv k) 223);generalize V:b.alloc (.cells (kv k) 223)=t at*;have H:=am t (.cells #[.slice p l.length c,.slice n 0 (c-l.length),.slice (some (ae b.heap.size 0)) 1 1] 69);have F:=aG t (.cells #[.slice p l.length c,.slice n 0 (c-l.length),.slice (some (ae b.heap.size 0)) 1 1] 69);have f:=u.trans ((aw N H).mono u.size);have E:=ai H Y;have r1:eD 0 m (.slice p l.length c) (l):=z.o;have r2:eD 0 m (.slice n 0 (c-l.length)) ([]):=A.o;have Z:=r1.later f;have q2:=r2.later f;have q3:=eD.one E;have q:=aw L.o f;generalize W:t.alloc (.cells #[.slice p l.length c,.slice n 0 (c-l.length),.slice (some (ae b.heap.size 0)) 1 1] 69)=y at*
 have c1:=yK [(.slice p l.length c,l),(.slice n 0 (c-l.length),[]),(.slice (some (ae b.heap.size 0)) 1 1,[k])] t.heap.size 0 3 y (fun j pr a=>by
  match j,a with
  |0,a=>cases a;exact⟨(aZ _ _ _ _ _ _ F).trans rfl,Z⟩
  |1,a=>cases a;exact⟨(aZ _ _ _ _ _ _ F).trans rfl,q2⟩
  |2,a=>cases a;exact⟨(aZ _ _ _ _ _ _ F).trans rfl,q3⟩
  |j+3,a=>simp at a) (by simp) (by first|(simp[iO];done)|(simp[iO];omega)) (by simp[iO];omega)
 have P:iO [(.slice p l.length c,l),(.slice n 0 (c-l.length),[]),(.slice (some (ae b.heap.size 0)) 1 1,[k])] 3=R:=by
  rw[<-I];simp[iO]
 have O:Calls prog 178 #[.slice (some (ae t.heap.size 0)) 3 3] y fun e w'=> ∃v,e= .returned v/\w'.ownsRow y.heap.size 223 26 v R.length (iU R)/\aq y w':=by
  have:=c1;simp only[bV,gU,cY,Nat.reduceAdd,P]at this;exact this
 go_wp2_with(first
  |(refine aR rfl 223 _ rfl _ rfl _ _ _ _ D rj rfl (o5 k) ?_)
  |(refine tT rfl _ rfl k rfl ?_))
 refine O.mono ?_;rintro e w9 ⟨v9,rfl,d,M⟩;have g:=CG d q.size;have B:=aw q M;obtain⟨p9,c9,rfl,_⟩:=ol d;go_wp2_with fail;go_ret;exact⟨_,rfl,g,B⟩
theorem Gc (l:List Kp)(v:Value)(i:Nat)(hi:i<l.length)(k:Kp)(w:World)(h:eD 0 w v l)(hl:l.length<=676622540150):
  Calls prog 164 #[v,ag (i:Int),.agg (kv k)] w fun e w'=> ∃N,e= .returned N/\w'.ownsRow w.heap.size 223 26 N ((l.take i++l.drop (i+1))++[k]).length (iU ((l.take i++l.drop (i+1))++[k]))/\aq w w':=by
 obtain⟨R,L⟩:=au ((l.take i++l.drop (i+1))++[k]);rw[L];have H:=am w (.cells (kv k) 223);have nA:=aG w (.cells (kv k) 223);have g:=h.later H;obtain⟨p,c,rfl,Y,D,_⟩:=h;have W:(0:Int)<=(l.length:Int):=by omega
 have X:(l.length:Int)<=676622540150:=by omega
 have M:c<=9223372036854775807:=by unfold maxLen at D;omega
 generalize Z:w.alloc (.cells (kv k) 223)=n at*;have z:Rb (eD 0 n (.slice p i c) (l.take i)):=g.take i (by omega);have A:Rb (eD 0 n (.slice (if c=i+1 then p else Option.map (fun x=>x.add ((i+1)*26)) p) (l.length-(i+1)) (c-(i+1))) (l.drop (i+1))):=g.drop (i+1) (by omega);have U:(0:Int)<=(i:Int):=by omega
 have V:(i:Int)<(l.length:Int):=by omega
 have HK:=ba g;have O:=ba H;go_enter func164,ntmps164;go_wp2_with fail;go_quiet (fail);generalize (if c=l.length then p else Option.map (fun x=>x.add (l.length*26)) p)=q8 at*;have J:aq n (n.drewN nq):=du (aH _ _) nq;obtain⟨wE,t⟩:=au (n.drewN nq);rw[t]at J;rw[t];go_wp2_with fail;go_quiet (fail);generalize (if c=i+1 then p else Option.map (fun x=>x.add ((i+1)*26)) p)=q at*;have K:aq wE (wE.drewN nq):=du (aH _ _) nq;obtain⟨b,s⟩:=au (wE.drewN nq);rw[s]at K;rw[s];have B:=aw J K;have E:b.heap[w.heap.size]? =ah (kv k) 223:=ai B nA;have Q:=am b (.cells (kv k) 223);have nB:=aG b (.cells (kv k) 223);generalize aa:b.alloc (.cells (kv k) 223)=u at*;have I:=am u (.cells #[.slice p i c,.slice q (l.length-(i+1)) (c-(i+1)),.slice (some (ae b.heap.size 0)) 1 1] 69);have G:=aG u (.cells #[.slice p i c,.slice q (l.length-(i+1)) (c-(i+1)),.slice (some (ae b.heap.size 0)) 1 1] 69);have f:=B.trans ((aw Q I).mono B.size);have F:=ai I nB;have r1:eD 0 n (.slice p i c) (l.take i):=z.o;have r2:eD 0 n (.slice q (l.length-(i+1)) (c-(i+1))) (l.drop (i+1)):=A.o;have q1:=r1.later f;have q2:=r2.later f;have q3:=eD.one F;have r:=aw O.o f;generalize ab:u.alloc (.cells #[.slice p i c,.slice q (l.length-(i+1)) (c-(i+1)),.slice (some (ae b.heap.size 0)) 1 1] 69)=y at*
 have c1:=yK [(.slice p i c,l.take i),(.slice q (l.length-(i+1)) (c-(i+1)),l.drop (i+1)),(.slice (some (ae b.heap.size 0)) 1 1,[k])] u.heap.size 0 3 y (fun j pr a=>by
  match j,a with
  |0,a=>cases a;exact⟨(aZ _ _ _ _ _ _ G).trans rfl,q1⟩
  |1,a=>cases a;exact⟨(aZ _ _ _ _ _ _ G).trans rfl,q2⟩
  |2,a=>cases a;exact⟨(aZ _ _ _ _ _ _ G).trans rfl,q3⟩
  |j+3,a=>simp at a) (by simp) (by first|(simp[iO];done)|(simp[iO];omega)) (by simp[iO];omega)
 have T:iO [(.slice p i c,l.take i),(.slice q (l.length-(i+1)) (c-(i+1)),l.drop (i+1)),(.slice (some (ae b.heap.size 0)) 1 1,[k])] 3=R:=by
  rw[<-L];simp[iO]
 have S:Calls prog 178 #[.slice (some (ae u.heap.size 0)) 3 3] y fun e w'=> ∃v,e= .returned v/\w'.ownsRow y.heap.size 223 26 v R.length (iU R)/\aq y w':=by
  have:=c1;simp only[bV,gU,cY,Nat.reduceAdd,T]at this;exact this
 go_wp2_with(first
  |(refine aR rfl 223 _ rfl _ rfl _ _ _ _ E rj rfl (o5 k) ?_)
  |(refine tT rfl _ rfl k rfl ?_))
 refine S.mono ?_;rintro e w9 ⟨v9,rfl,d,P⟩;have m:=CG d r.size;have C:=aw r P;obtain⟨p9,c9,rfl,_⟩:=ol d;go_wp2_with fail;go_ret;exact⟨_,rfl,m,C⟩
theorem Ge (B:Nat)(l:List Kp)(v:Value)(w:World)(h:eD B w v l)(A:l.length<=676622540160):
  Calls prog 166 #[v] w fun e w'=> ∃g,e= .returned g/\eD B w' g (qx l)/\w'=w:=by
 have d:=ba h;obtain⟨p,c,rfl,y,b,_⟩:=h;have u:(0:Int)<=(l.length:Int):=by omega
 have x:(l.length:Int)<=676622540160:=by omega
 have f:c<=9223372036854775807:=by unfold maxLen at b;omega
 unfold qx;by_cases m:64<l.length
 ·obtain⟨j,q⟩:=au (l.length-64);rw[q];have a:=ba (d.o.drop j (by omega));have k:(l.length:Int)-64=(j:Int):=(by omega);have z:IntKind.i64.wrap ((j:Int))=(j:Int):=(by rw[bU];omega);have r:(0:Int)<(j:Int):=(by omega);have s:j<=l.length:=(by omega);have t:(j:Int)<=(l.length:Int):=(by omega);have n: ¬c=j:=(by omega);rw[ax n]at a;go_enter func166,ntmps166;go_wp2_with fail;go_ret;exact⟨_,rfl,a.o,rfl⟩
 ·have i:l.length-64=0:=by omega
  rw[i];have a:Rb (eD B w (.slice p l.length c) (l.drop 0)):=d.o;have k:(l.length:Int)-64<=0:=(by omega);go_enter func166,ntmps166;go_wp2_with fail;go_ret;exact⟨_,rfl,a.o,rfl⟩
section
theorem eD.set {B:Nat}{w:World}{v:Value}{l:List Kp}(h:eD B w v l){g:Nat}(t:g<B)(X:Array Value):eD B (w.setRow g X) v l:=by
 obtain⟨p,c,e,d,f,i⟩:=h;refine⟨p,c,e,d,f,fun q=> ?_⟩;obtain⟨b,o,r,k,s⟩:=i q;refine⟨b,o,r,k,fun j u n=> ?_⟩;have a:=s j u n;have m:=aW w g b X (by omega);unfold World.cell? at a⊢;rw[m];exact a
structure GJ (w0 w1:World)(ga B:Nat)(m:M)(R:List Kp)(runs er at_:Int)(im ic iF:Nat)(L:Nat->Bool)(W:World):Prop where
 bel:aq w0 W
 low: ∀q,q<B->q≠ga->q≠ga+1->q≠ga+2->W.heap[q]? =w1.heap[q]?
 size:B<=W.heap.size
 b0:w0.heap.size<=ga
 b1:ga+2<B
 m0:L im=false->W.heap[ga]? =ah (mv fun _=>false) 55
 m1:L im=true->W.heap[ga]? =ah (mv m) 55
 c0:L ic=false->W.heap[ga+1]? =ah #[af,ag 0] 71
 c1:L ic=true-> ∃v',W.heap[ga+1]? =ah #[v',ag runs] 71/\eD B W v' R
 f0:L iF=false->W.heap[ga+2]? =ah #[ag 0,ag 0] 48
 f1:L iF=true->W.heap[ga+2]? =ah #[ag er,ag at_] 48
section
variable {w0 w1:World} {ga B:Nat} {m:M} {R:List Kp} {runs er at_:Int} {im ic iF:Nat} {L:Nat->Bool} {W W':World}
theorem tA {i k:Nat}{b:Bool}(h:(decide (i=k)||b)=false):b=false:=(Bool.or_eq_false_iff.1 h).2
theorem mV {i k:Nat}{b:Bool}(a:i≠k)(h:(decide (i=k)||b)=true):b=true:=by simpa[a] using h
theorem GJ.below (h:GJ w0 w1 ga B m R runs er at_ im ic iF L W)(f:aq W W'):GJ w0 w1 ga B m R runs er at_ im ic iF L W':=by
 have lt: ∀q,q<B->W'.heap[q]? =W.heap[q]? :=fun q i=>f.block q (aU i h.size);have g:=h.b1;exact⟨aw h.bel f,fun q a b c d=>(lt q a).trans (h.low q a b c d),bg h.size f.size,h.b0,h.b1,fun e=>(lt _ (by omega)).trans (h.m0 e),fun e=>(lt _ (by omega)).trans (h.m1 e),fun e=>(lt _ (by omega)).trans (h.c0 e),fun e=>(h.c1 e).imp fun _ q=>⟨(lt _ (by omega)).trans q.1,q.2.later f⟩,fun e=>(lt _ (by omega)).trans (h.f0 e),fun e=>(lt _ (by omega)).trans (h.f1 e)⟩
theorem GJ.same (h:GJ w0 w1 ga B m R runs er at_ im ic iF L W)(i:Nat)(a:i≠im)(b:i≠ic)(c:i≠iF):GJ w0 w1 ga B m R runs er at_ im ic iF (fun k=>decide (i=k)||L k) W:=
 ⟨h.bel,h.low,h.size,h.b0,h.b1,fun e=>h.m0 (tA e),fun e=>h.m1 (mV a e),fun e=>h.c0 (tA e),fun e=>h.c1 (mV b e),fun e=>h.f0 (tA e),fun e=>h.f1 (mV c e)⟩
theorem GJ.mask (h:GJ w0 w1 ga B m R runs er at_ im ic iF L W)(n:L im=false)(j:im≠ic)(l:im≠iF):GJ w0 w1 ga B m R runs er at_ im ic iF (fun k=>decide (im=k)||L k) (W.setRow ga (mv m)):=by
 have f: ∀q,q≠ga->(W.setRow ga (mv m)).heap[q]? =W.heap[q]? :=fun q p=>aW W ga q (mv m) p;have o:=h.b1;refine⟨below_setRow h.bel h.b0 _,fun q a b c d=>(f q b).trans (h.low q a b c d),by simpa using h.size,h.b0,h.b1,fun e=>(by simp at e),fun _=>aL _ _ _ _ _ _ (h.m0 n),fun e=>(f _ (by omega)).trans (h.c0 (tA e)),fun e=> ?_,fun e=>(f _ (by omega)).trans (h.f0 (tA e)),fun e=>(f _ (by omega)).trans (h.f1 (mV l e))⟩;obtain⟨r,g,i⟩:=h.c1 (mV j e);exact⟨r,(f _ (by omega)).trans g,i.set (by omega) _⟩
theorem GJ.cache (h:GJ w0 w1 ga B m R runs er at_ im ic iF L W)(l:L ic=false)(i:ic≠im)(j:ic≠iF){g:Value}(r:eD B W g R):GJ w0 w1 ga B m R runs er at_ im ic iF (fun k=>decide (ic=k)||L k) (W.setRow (ga+1) #[g,ag runs]):=by
 have f: ∀q,q≠ga+1->(W.setRow (ga+1) #[g,ag runs]).heap[q]? =W.heap[q]? :=fun q p=>aW W (ga+1) q _ p;have o:=h.b1;have n:=h.b0;exact⟨below_setRow h.bel (by omega) _,fun q a b c d=>(f q c).trans (h.low q a b c d),by simpa using h.size,h.b0,h.b1,fun e=>(f _ (by omega)).trans (h.m0 (tA e)),fun e=>(f _ (by omega)).trans (h.m1 (mV i e)),fun e=>(by simp at e),fun _=>⟨g,aL _ _ _ _ _ _ (h.c0 l),r.set (by omega) _⟩,fun e=>(f _ (by omega)).trans (h.f0 (tA e)),fun e=>(f _ (by omega)).trans (h.f1 (mV j e))⟩
theorem GJ.fault (h:GJ w0 w1 ga B m R runs er at_ im ic iF L W)(n:L iF=false)(j:iF≠im)(l:iF≠ic):GJ w0 w1 ga B m R runs er at_ im ic iF (fun k=>decide (iF=k)||L k) (W.setRow (ga+2) #[ag er,ag at_]):=by
 have f: ∀q,q≠ga+2->(W.setRow (ga+2) #[ag er,ag at_]).heap[q]? =W.heap[q]? :=fun q r=>aW W (ga+2) q _ r;have p:=h.b1;have o:=h.b0;refine⟨below_setRow h.bel (by omega) _,fun q a b c d=>(f q d).trans (h.low q a b c d),by simpa using h.size,h.b0,h.b1,fun e=>(f _ (by omega)).trans (h.m0 (tA e)),fun e=>(f _ (by omega)).trans (h.m1 (mV j e)),fun e=>(f _ (by omega)).trans (h.c0 (tA e)),fun e=> ?_,fun e=>(by simp at e),fun _=>aL _ _ _ _ _ _ (h.f0 n)⟩;obtain⟨s,g,i⟩:=h.c1 (mV l e);exact⟨s,(f _ (by omega)).trans g,i.set (by omega) _⟩
end
structure GT (B:Nat)(R0 R:List Kp)(runs:Int)(i0 i1 i2 s0 s1 s2:Nat)(M:Nat->Bool)(φ:Nat->Value)(W:World):Prop where
 t0:M i0=true->eD B W (φ s0) R0
 t1:M i1=true->eD B W (φ s1) R
 t2:M i2=true-> ∃v',φ s2= .agg #[v',ag runs]/\eD B W v' R
section
variable {B:Nat} {R0 R:List Kp} {runs:Int} {i0 i1 i2 s0 s1 s2:Nat} {M:Nat->Bool} {φ φ':Nat->Value} {W W':World}
theorem GT.mono (h:GT B R0 R runs i0 i1 i2 s0 s1 s2 M φ W)(a: ∀v l,eD B W v l->eD B W' v l):GT B R0 R runs i0 i1 i2 s0 s1 s2 M φ W':=⟨fun e=>a _ _ (h.t0 e),fun e=>a _ _ (h.t1 e),fun e=>(h.t2 e).imp fun _ q=>⟨q.1,a _ _ q.2⟩⟩
theorem GT.on (h:GT B R0 R runs i0 i1 i2 s0 s1 s2 M φ W)(i:Nat)(b:i≠i0->φ' s0=φ s0)(c:i≠i1->φ' s1=φ s1)(d:i≠i2->φ' s2=φ s2)(k0:i=i0->eD B W (φ' s0) R0)(f:i=i1->eD B W (φ' s1) R)(g:i=i2-> ∃a,φ' s2= .agg #[a,ag runs]/\eD B W a R):GT B R0 R runs i0 i1 i2 s0 s1 s2 (fun k=>decide (i=k)||M k) φ' W:=by
 refine⟨fun e=> ?_,fun e=> ?_,fun e=> ?_⟩
 ·by_cases q:i=i0
  ·exact k0 q
  ·rw[b q];exact h.t0 (mV q e)
 ·by_cases q:i=i1
  ·exact f q
  ·rw[c q];exact h.t1 (mV q e)
 ·by_cases q:i=i2
  ·exact g q
  ·rw[d q];exact h.t2 (mV q e)
theorem GT.mark (h:GT B R0 R runs i0 i1 i2 s0 s1 s2 M φ W)(i:Nat)(a:i≠i0)(b:i≠i1)(c:i≠i2):GT B R0 R runs i0 i1 i2 s0 s1 s2 (fun k=>decide (i=k)||M k) φ W:=⟨fun e=>h.t0 (mV a e),fun e=>h.t1 (mV b e),fun e=>h.t2 (mV c e)⟩
end
theorem Nh (k:Kp)(j:Nat)(_:j<23):(kv k)[3+j]? =(mv k.m)[j]? :=by
 unfold kv;rw[Array.getElem?_append_right (by simp)];simp
theorem KY {w:World}{g:Nat}{k:Kp}(h:w.heap[g]? =ah (kv k) 223):w.rangeAt g 3 (mv k.m).toList:=fun j u b=>by
 have a:j<23:=by
  have:=(aF.1 b).1;rwa[sQ]at this
 refine(aZ _ _ _ _ _ _ h).trans ?_;rw[Nh k j a,<-bx];exact b
theorem AQ:prog.underlying 71=some (.struct (prog.fieldsOf 71)):=by kernel_rfl
theorem rL:(prog.info? 71).map (·.size)=some 2:=by kernel_rfl
theorem oq:(prog.info? 48).map (·.size)=some 2:=by kernel_rfl
def zY (m:M)(R:List Kp)(runs er at_:Int)(w:World)(e:Ending)(w':World):Prop:= ∃a,e= .returned (.tuple #[.agg (mv m),.agg #[a,ag runs],.agg #[ag er,ag at_]])/\eD w.heap.size w' a R/\aq w w'
theorem xo {a:Act}{w0 w:World}(g:Nat)(m:M)(R:List Kp)(runs er at_:Int)(e:Value)(q:a.defers=[])(f:a.tmps.getD 10 undef=ab g 0)(i:a.tmps.getD 11 undef=ab (g+1) 0)(j:a.tmps.getD 12 undef=ab (g+2) 0)
  (r:w.heap[g]? =ah (mv m) 55) (k:w.heap[g+1]? =ah #[e,ag runs] 71) (l:w.heap[g+2]? =ah #[ag er,ag at_] 48) (s:eD w0.heap.size w e R) (p:aq w0 w):bodyPost prog f137 (zY m R runs er at_ w0) .ret a w:=by
 refine aX (v:= .tuple #[.agg (mv m),.agg #[e,ag runs],.agg #[ag er,ag at_]]) ?_ q ⟨e,rfl,s,p⟩;have b:a.tmps[10]?.getD undef=ab g 0:=by simpa using f
 have c:a.tmps[11]?.getD undef=ab (g+1) 0:=by simpa using i
 have d:a.tmps[12]?.getD undef=ab (g+2) 0:=by simpa using j
 have t:=en (P:=prog) w g 55 55 _ _ _ r dm rfl (bl _);have n:=en (P:=prog) w (g+1) 71 71 _ _ _ k AQ rfl rL;have o:=en (P:=prog) w (g+2) 48 48 _ _ _ l mz rfl oq;simp[results,results137,b,c,d,asAddr,t,n,o]
end
theorem v7 (l:List Kp)(v:Value)(i:Int)(k:Kp)(w:World)(h:eD 0 w v l)(f:l.length<=676622540150)(hi:i<l.length):
  Calls prog 164 #[v,ag i,.agg (kv k)] w fun e w'=> ∃a,e= .returned a/\eD w.heap.size w' a (fC l i++[k])/\aq w w':=by
 by_cases d:0<=i
 ·obtain⟨n,rfl⟩: ∃n:Nat,i=(n:Int):=⟨i.toNat,by omega⟩
  refine(Gc l v n (by omega) k w h f).mono ?_;rintro e w' ⟨a,rfl,own,c⟩
  have b:fC l (n:Int)=l.take n++l.drop (n+1):=by
   unfold fC;rw[aB d,dj]
  rw[b];exact⟨a,rfl,eD.of_own own,c⟩
 ·refine(CH l v i (by omega) k w h f).mono ?_;rintro e w' ⟨a,rfl,own,c⟩
  have b:fC l i=l:=by
   unfold fC;rw[ax d]
  rw[b];exact⟨a,rfl,eD.of_own own,c⟩
theorem IN:(#[ag 0,ag 0,ag 0,.int .u64 0,.int .u64 0,.int .u64 0,.int .u64 0,.int .u64 0,.int .u64 0,.int .u64 0,.int .u64 0,.int .u64 0,.int .u64 0,.int .u64 0,.int .u64 0,.int .u64 0,.int .u64 0,.int .u64 0,.int .u64 0,.int .u64 0,.int .u64 0,.int .u64 0,.int .u64 0,.int .u64 0,.int .u64 0,.int .u64 0]:Array Value)=kv ⟨0,0,0,fun _=>false⟩:=by
 unfold kv;rw[<-eR];rfl
theorem IP (r d v:Int)(m:M)(W:World):(Instr.build 223 #[(0,ag r),(1,ag d),(2,ag v),(3,.agg (mv m))]).run prog W= .ok (.agg (kv ⟨r,d,v,m⟩)) W:=by
 kernel_rfl
theorem xp {c:Array Oper}{b:List Oper}{op:Oper}{a:Act}{w:World}{Q:Exit->Act->World->Prop}(e:op.guard=none)(f g i j:Operand)(s:op.op= .build 223 #[(0,f),(1,g),(2,i),(3,j)])(r d v:Int)(m:M)(k:a.eval f=ag r)(l:a.eval g=ag d)(n:a.eval i=ag v)(o:a.eval j= .agg (mv m))
  (h:wpList prog c Q b (a.put op.dst (.agg (kv ⟨r,d,v,m⟩))) w):wpList prog c Q (op::b) a w:=
 wpList_plain e fun _ p=>by
  unfold Oper.wp execOp;have q:=IP r d v m w;simp only[s,k,l,n,o,jp,dO,fA,j8,lg,iA,q];exact p _ _ h
theorem CJ (b:Value)(runs a day:Int)(w:World): ∃W,(((((w.alloc (.cells #[b,ag runs] 71)).alloc (.cells #[ag a] 3)).alloc (.cells #[ag day] 3)).alloc (.cells (mv fun _=>false) 55)).alloc (.cells #[af,ag 0] 71)).alloc (.cells #[ag 0,ag 0] 48)=W/\aq w W/\W.heap[w.heap.size]? =ah #[b,ag runs] 71/\W.heap[w.heap.size+1]? =ah #[ag a] 3/\W.heap[w.heap.size+2]? =ah #[ag day] 3/\W.heap[w.heap.size+3]? =ah (mv fun _=>false) 55/\W.heap[w.heap.size+4]? =ah #[af,ag 0] 71/\W.heap[w.heap.size+5]? =ah #[ag 0,ag 0] 48:=
 ⟨_,rfl,(((((am _ _).alloc (by simp) _).alloc (by simp;omega) _).alloc (by simp;omega) _).alloc (by simp;omega) _).alloc (by simp;omega) _,by(repeat (first|refine dt _ _ _ (by simp only[aV];omega) ?_|exact dJ _ _ _ (by first|rfl|simp only[aV]))),by(repeat (first|refine dt _ _ _ (by simp only[aV];omega) ?_|exact dJ _ _ _ (by first|rfl|simp only[aV]))),by(repeat (first|refine dt _ _ _ (by simp only[aV];omega) ?_|exact dJ _ _ _ (by first|rfl|simp only[aV]))),by(repeat (first|refine dt _ _ _ (by simp only[aV];omega) ?_|exact dJ _ _ _ (by first|rfl|simp only[aV]))),by(repeat (first|refine dt _ _ _ (by simp only[aV];omega) ?_|exact dJ _ _ _ (by first|rfl|simp only[aV]))),by(repeat (first|refine dt _ _ _ (by simp only[aV];omega) ?_|exact dJ _ _ _ (by first|rfl|simp only[aV])))⟩
theorem Ni (l:List Kp)(cv lv:Value)(runs x a day:Int)(w:World)(h:eD 0 w cv l)(hl:l.length<=676622540150)(r:mg l x a day=true):
  Calls prog 137 #[.agg #[cv,ag runs],lv,ag x,ag a,ag day] w (zY (l.getD (fQ a day l 0).toNat k0).m (fC l (fQ a day l 0)++[l.getD (fQ a day l 0).toNat k0]) runs 0 0 w):=by
 obtain⟨i,t⟩:=au (fQ a day l 0);have S:=sS a day l 0;rw[t]at S;have an:i<l.length:=by omega
 have a2:i<=676622540150:=by omega
 have a3: -1<=i:=by omega
 have hz:=eR;obtain⟨wA,ar,bA,n5,n8,n9,aa,ac,ad⟩:=CJ cv runs a day w;have c1:=ux l cv (w.heap.size+1) (w.heap.size+2) a day wA (h.later bA) n8 n9;rw[t]at c1;have z5:=ak 0 n5
 have hh:0<=i/\(l.getD i.toNat k0).v=x:=by
  unfold mg at r;rw[t,bz,bT,bT]at r;exact r
 obtain⟨a9,s⟩:=hh;rw[t];obtain⟨n,rfl⟩: ∃n:Nat,i=(n:Int):=⟨i.toNat,by omega⟩
 rw[dj]at s⊢;obtain⟨k,hk⟩: ∃k,l[n]? =some k:=⟨l[n]'(by omega),ay (by omega)⟩
 have T:l.getD n k0=k:=by simp[List.getD,hk]
 rw[T]at s⊢;have HK:=ba h;obtain⟨p,c,rfl,aB,al,_⟩:=h;obtain⟨g,o,aq,V⟩:=HK.o.at hk;subst aq;have HB:=ba bA;clear t S r T al bA;go_enter func137,ntmps137;go_wp2_with fail;refine c1.mono ?_;rintro e L ⟨rfl,b1⟩;have z:=ba (aw HB.o b1);have G:=lL V z.o
 have y2:L.cell? (ae g (o+n*26+2))=some (ag x):=by
  rw[<-s];exact G 2 _ (by rw[bx];exact KV k)
 have m5:=ai b1 n5;have E:=ai b1 aa;have F:=ai b1 ac;have u:=ai b1 ad;have a1:=ak 0 m5;have aC:(n:Int)<(l.length:Int):=by omega
 have bE:=am L (.cells (kv ⟨0,0,0,fun _=>false⟩) 223);have nE:=aG L (.cells (kv ⟨0,0,0,fun _=>false⟩) 223);generalize av:L.alloc (.cells (kv ⟨0,0,0,fun _=>false⟩) 223)=wE at*;have I:=below_setRow bE (aD _) (kv k);have nF:=aL _ _ _ (kv k) _ _ nE;generalize Y:wE.setRow L.heap.size (kv k)=H at*;clear c1 s n5 n8 n9 aa ac ad b1 ar z5 V HB;have ax:=IN
 go_wp2_with(first
  |(refine uw rfl _ rfl g (o+n*26) rfl k G ?_)
  |(refine az rfl 223 _ _ rfl _ _ rfl rfl _ _ nE (o5 _) (by simp[qG]) (CF _) ?_))
 obtain⟨j,f⟩:=au L.heap.size;have N:=ba (aw z.o I);have R:j<H.heap.size:=by rw[<-f];exact aI nF
 have a8:w.heap.size+5<j:=by rw[<-f];exact aI u
 have a0:H.heap[j]? =ah (kv k) 223:=by rw[<-f];exact nF
 replace m5:=ai I m5;replace E:=ai I E;replace F:=ai I F;replace u:=ai I u;rw[Y,f];clear nF I bE nE av Y G y2 a1 f hz z ax;refine dl (fun M φ W=>GJ w H (w.heap.size+3) H.heap.size k.m (fC l (n:Int)++[k]) runs 0 0 11 12 13 M W/\GT H.heap.size (fC l (n:Int)++[k]) (fC l (n:Int)++[k]) runs 6 1000 9 46 1000 49 M φ W) [kn 40 (ab j 3),kn 41 (.agg (mv k.m)),kn 42 (ab w.heap.size 0),kn 43 (.slice (some (ae g o)) l.length c),kn 44 (ag (n:Int)),kn 45 (.agg (kv k)),td 46,kn 47 (ab w.heap.size 1),kn 48 (ag runs),td 49,kn 50 (.agg #[ag 0,ag 0]),nk,nk,nk] (fun _=>⟨⟨(N.o).trans ((aH H.heap.size H).drew.mono N.o.size),fun _ _ _ _ _=>rfl,aD _,by omega,by omega,fun _=>E,(fun e=>by cases e),fun _=>F,(fun e=>by cases e),fun _=>u,(fun e=>by cases e)⟩,(fun e=>by cases e),(fun e=>by cases e),(fun e=>by cases e)⟩) (fun _ _ _ _ hb h=>⟨h.1.below hb,h.2.mono fun _ _ q=>q.later hb⟩) (by kernel_rfl) (fun M φ W2 b a7 FF ll U d=> ?_) (fun M φ W2 hM b=> ?_)
 ·simp only[kn,td,nk,dX,aQ,aT,Act.put,aA,aK,aJ]at U;subst U;simp only[dn,Nat.reduceAdd]at d;obtain⟨b,A⟩:=b;have O:=(b.low j R (by omega) (by omega) (by omega)).trans a0;have b5:=(b.low w.heap.size (by omega) (by omega) (by omega) (by omega)).trans m5;have aE:=ak 0 b5;have aF:=ak 1 b5;clear b5;dsimp only[kn,td,nk,dy,eJ,dY,Act.put];and_intros;all_goals first|exact trivial|intro qw qn J K y
  all_goals try (go_simp;with_reducible exact y _ _ ⟨rfl,aH _ _⟩)
  ·refine KU _ rfl j 3 (by simp[Act.eval,d]) k.m (KY O) ?_;exact y _ _ ⟨rfl,aH _ _⟩
  ·refine eN 223 _ rfl j (by simp[Act.eval,d]) _ _ _ _ O rj rfl (o5 k) ?_;exact y _ _ ⟨rfl,aH _ _⟩
  ·have ao:=HK.o.later b.bel;go_simp;refine(v7 l _ (n:Int) k W2 ao hl an).mono ?_;rintro r' W' ⟨v',rfl,ap,P⟩;exact y _ _ ⟨trivial,(b.below P).same 6 (by decide) (by decide) (by decide),(A.mono fun _ _ q=>q.later P).on 6 (fun h=>absurd rfl h) (fun _=>dH (by decide)) (fun _=>dH (by decide)) (fun _=>by rw[dV];exact ap.low b.size) (fun h=>by cases h) (fun h=>by cases h)⟩
  ·have Z:=A.t0 (qw ⟨6,.data⟩ (by simp) rfl rfl);obtain⟨p6,c6,C,_⟩:=id Z;obtain⟨nn,B⟩:=au ((fC l (n:Int)++[k]).length);rw[B]at C;rw[C]at d;go_simp;exact y _ _ ⟨trivial,b.same 9 (by decide) (by decide) (by decide),A.on 9 (fun _=>dH (by decide)) (fun _=>dH (by decide)) (fun h=>absurd rfl h) (fun h=>by cases h) (fun h=>by cases h) (fun _=>⟨_,dV ..,C▸Z⟩)⟩
  ·refine eQ 55 _ _ rfl _ (mv k.m) (by simp[Act.eval,d]) (by simp[Act.eval,d]) _ _ (b.m0 J) (bl _) (by simp[di]) (dW _) ?_;exact y undef _ ⟨trivial,b.mask J (by decide) (by decide),(A.mono fun v l X=>X.set (by omega) _).mark 11 (by decide) (by decide) (by decide)⟩
  ·obtain⟨v9,e9,k9⟩:=A.t2 (qw ⟨9,.data⟩ (by simp) rfl rfl);obtain⟨p9,c9,D,_⟩:=id k9;obtain⟨nn,B⟩:=au ((fC l (n:Int)++[k]).length);rw[B]at D;rw[e9,D]at d;refine eQ 71 _ _ rfl _ #[.slice p9 nn c9,ag runs] (by simp[Act.eval,d]) (by simp[Act.eval,d]) _ _ (b.c0 J) rL (by simp) (by simp[Value.oneCell']) ?_;exact y undef _ ⟨trivial,b.cache J (by decide) (by decide) (D▸k9),(A.mono fun v l X=>X.set (by omega) _).mark 12 (by decide) (by decide) (by decide)⟩
  ·refine eQ 48 _ _ rfl _ #[ag 0,ag 0] (by simp[Act.eval,d]) (by simp[Act.eval,d]) _ _ (b.f0 J) oq (by simp) (by simp[Value.oneCell']) ?_;exact y undef _ ⟨trivial,b.fault J (by decide) (by decide),(A.mono fun v l X=>X.set (by omega) _).mark 13 (by decide) (by decide) (by decide)⟩
 ·obtain⟨b,_⟩:=b;have aj:=b.m1 (hM 11 (by decide) rfl);obtain⟨v9,hC,af⟩:=b.c1 (hM 12 (by decide) rfl);have hF:=b.f1 (hM 13 (by decide) rfl);have Q:=b.bel;have a4:=Q.size;have a6:=b.b1;have a5:=b.b0;simp only[kn,td,nk,d8,aQ,aT,Act.put,aA,aK,aJ];clear hM b;go_wp2_with fail;exact xo (w.heap.size+3) k.m (fC l (n:Int)++[k]) runs 0 0 v9 rfl rfl rfl rfl aj hC hF (af.low (by omega)) Q
theorem KZ {b:List Cd}{a day:Int}(h:(jh b a day).1=0):(jh b a day).2=0:=by
 unfold jh at h⊢;by_cases c:(jT b).1≠0
 ·rw[aB c]at h;exact absurd h c
 ·rw[ax c]at h⊢;split
  ·rfl
  ·split<;>rfl
end Go.Proofs.YtlkehieagdkgiaaGreatDoor
