/- Texts of the proof. -/
import Derived.Test.YtaoljfdfhggbbaaGreatDoorPc11
import Derived.Lib.AppendZeros
set_option maxRecDepth 100000
set_option maxHeartbeats 8000000
namespace Go.Proofs.YtaoljfdfhggbbaaGreatDoor
open Go.Proofs.Tryz Go.RowKit Lx Vx Mx Msk
namespace Vx
structure Kp where
 r:Int
 d:Int
 v:Int
 m:M
def k0:Kp:=⟨0,0,0,noM⟩
def gJ (r d:Int):List Kp->Nat->Int
 |[],_=> -1
 |k::l,j=>if k.r=r/\k.d=d then(j:Int) else gJ r d l (j+1)
theorem Hf {r d:Int}{l:List Kp}{j:Nat}{k:Kp}(h:l[j]? =some k)(i:Nat):gJ r d (l.drop j) i=if k.r=r/\k.d=d then(i:Int) else gJ r d (l.drop (j+1)) (i+1):=by
 have a:=(aG.1 h).1
 have e:l.drop j=k::l.drop (j+1):=by
  rw[bx a];congr 1;exact(aG.1 h).2
 rw[e];rfl
theorem rU (r d:Int): ∀(l:List Kp) (j:Nat),gJ r d l j= -1\/((j:Int)<=gJ r d l j/\gJ r d l j<(j:Int)+l.length)
 |[],_=> .inl rfl
 |k::l,j=>by
  unfold gJ;by_cases h:k.r=r/\k.d=d
  ·rw[aD h];refine .inr ⟨gY _,?_⟩;rw[bJ];omega
  ·rw[ax h];rcases rU r d l (j+1) with a|⟨a,b⟩
   ·exact .inl a
   ·refine .inr ⟨by omega,?_⟩;rw[bJ];omega
def fX (l:List Kp)(i:Int):List Kp:=if 0<=i then l.take i.toNat++l.drop (i.toNat+1) else l
def sE (l:List Kp):List Kp:=l.drop (l.length-64)
def mZ (l:List Kp)(v r d:Int):Bool:=decide (0<=gJ r d l 0)&&decide ((l.getD (gJ r d l 0).toNat k0).v=v)
theorem Fa {l:List Kp}{i:Int}(h:i<l.length):(fX l i).length<=l.length:=by
 unfold fX;split
 ·simp;omega
 ·exact aB _
theorem CZ {l:List Kp}{i:Int}(a:0<=i)(h:i<l.length):(fX l i).length+1=l.length:=by
 unfold fX;rw[aD a];simp;omega
def al8:List Cd:=[⟨[⟨1,0,0,0,[(5,9)]⟩,⟨1,0,0,0,[(7,12)]⟩,⟨2,0,0,0,[]⟩],2,3⟩]
def al9:List Cd:=[⟨[⟨1,0,0,0,[(5,9)]⟩],1,1⟩]
section
variable {wk:Int->Bool} {day:Int} {cs:List Cd} {l:List In}
structure Fr where
 r:Nat
 k:Nat
 S:List M
section
variable (wk:Int->Bool) (day:Int) (cs:List Cd)
end
end
section
variable {wk:Int->Bool} {day:Int} {cs:List Cd} {l:List In}
abbrev ND (cs:List Cd)(r:Nat):List In:=(cs.getD r cd0).ins
theorem mu.at (b:mu cs){r:Nat}(d:r<cs.length): ∃c,cs[r]? =some c/\ND cs r=c.ins/\ma c.ins/\(∀(j:Nat) (x:In),c.ins[j]? =some x->fO x j c.ins.length cs.length=0)/\c.ins.length<=2000:=by
 have a:cs[r]? =some cs[r]:=az d;have ha:=jx (b.alone r _ a);exact⟨cs[r],a,by unfold ND;rw[jd a],(b.fit r _ a).well,ha.2.2,ha.1.2⟩
end
end Vx
section
section
variable {wd:World} {gb:Nat} {X:Array Value} {L:Nat->Bool} {W:World}
end
section
variable {w0 W W':World} {F:List Fr} {S:List M} {sv fv:Value} {gb:Nat} {X:Array Value}
theorem Fb {w0 W W':World}{row:Option Nat}(a:aq w0 W)(b:W.grownBy W' row)(d: ∀k,row=some k->w0.heap.size<=k):aq w0 W':=
 ⟨b.os.trans a.os,b.tape.trans a.tape,b.output.trans a.output,bf a.size b.size,fun q c=>(b.block q (aT c a.size) fun e=>by have:=d q e.symm;omega).trans (a.block q c)⟩
end
end
section
section
variable {vals:List Value} {base n:Nat} {xs:List Value} {f:M} {L L':Nat->Bool} {W W' W1:World} {row:Option Nat}
end
theorem lA {w w':World}{g o:Nat}{xs:List Value}(h:w.rangeAt g o xs)(a:aq w w'):w'.rangeAt g o xs:=fun j v c=>by
 have b:=h j v c;exact aj a b
theorem JP {op:Oper}{a:Act}{w:World}{K:Act->World->Prop}{Q:Exit->Act->World->Prop}(x:Operand)(d:op.op= .load 84 x)(b o:Nat)(e:a.eval x=ab b o)(f:M)(c:w.rangeAt b o (mv f).toList)(h:K (a.put op.dst (.agg (mv f))) w):op.wp prog a w K Q:=by
 refine wp_load_mid 84 x d b o e (mv f).toList _ c bV rfl (by rw[rS];kernel_rfl) ?_;simpa using h
end
def kv (k:Kp):Array Value:= #[ag k.r,ag k.d,ag k.v]++mv k.m
theorem pW (k:Kp):(kv k).size=26:=by simp[kv,bO]
theorem DQ (k:Kp):(kv k).toList.length=26:=by rw[bQ];exact pW k
theorem BO (k:Kp):(kv k).all (·.oneCell')=true:=by
 unfold kv;rw[Array.all_append,dQ];simp[Value.oneCell']
theorem Pq (k:Kp):(kv k)[0]? =some (ag k.r):=by
 unfold kv;rw[Array.getElem?_append_left (by simp)];rfl
theorem Pr (k:Kp):(kv k)[1]? =some (ag k.d):=by
 unfold kv;rw[Array.getElem?_append_left (by simp)];rfl
theorem JQ (k:Kp):(kv k)[2]? =some (ag k.v):=by
 unfold kv;rw[Array.getElem?_append_left (by simp)];rfl
theorem L0 (k:Kp): ∀u∈(kv k).toList,u.oneCell'=true:=by
 intro u a;have:=BO k;rw[Array.all_eq_true_iff_forall_mem]at this;exact this u (Array.mem_def.2 a)
theorem qz:prog.underlying 184=some (.struct (prog.fieldsOf 184)):=by kernel_rfl
theorem oy (k:Kp):(prog.info? 184).map (·.size)=some (kv k).size:=by rw[pW];kernel_rfl
theorem Hh (k:Kp):(prog.info? 184).map (·.size)=some (kv k).toList.length:=by rw[DQ];kernel_rfl
def iL (l:List Kp):List Value:=l.flatMap fun k=>(kv k).toList
theorem lS (l a:List Kp):iL (l++a)=iL l++iL a:=by unfold iL;rw[fw]
theorem zK (k:Kp):iL [k]=(kv k).toList:=by simp[iL]
theorem o7: ∀l:List Kp,(iL l).length=l.length*26
 |[]=>rfl
 |k::l=>by
  have h:=o7 l;have e:iL (k::l)=(kv k).toList++iL l:=rfl;rw[e,aP,h,DQ,bJ];omega
theorem Hi: ∀(l:List Kp),∀u∈iL l,u.oneCell'=true:=fun l u a=>by
 unfold iL at a;rw[List.mem_flatMap]at a;obtain⟨k,_,h⟩:=a;exact L0 k u h
theorem xB {w:World}{g o:Nat}{xs ys:List Value}(h:w.rangeAt g o (xs++ys)):w.rangeAt g o xs:=fun j v a=>
 h j v (by rw[du (aG.1 a).1];exact a)
theorem vq {w:World}{g o:Nat}{xs ys:List Value}(h:w.rangeAt g o (xs++ys)):w.rangeAt g (o+xs.length) ys:=fun j v a=>by
 have:=h (xs.length+j) v (by rw[dj (by omega),Nat.add_sub_cancel_left];exact a);rw[<-Nat.add_assoc]at this;exact this
def en (B:Nat)(w:World)(v:Value)(l:List Kp):Prop:= ∃p c,v= .slice p l.length c/\l.length<=c/\c<=maxLen/\(l≠[]-> ∃g o,p=some ⟨g,o,none⟩/\B<=g/\w.rangeAt g o (iL l))
theorem en.later {B:Nat}{w w':World}{v:Value}{l:List Kp}(h:en B w v l)(i:aq w w'):en B w' v l:=by
 obtain⟨p,c,e,a,b,d⟩:=h;refine⟨p,c,e,a,b,fun j=> ?_⟩;obtain⟨g,o,k,f,m⟩:=d j;exact⟨g,o,k,f,lA m i⟩
theorem en.low {B a:Nat}{w:World}{v:Value}{l:List Kp}(h:en B w v l)(j:a<=B):en a w v l:=by
 obtain⟨p,c,e,b,d,f⟩:=h;refine⟨p,c,e,b,d,fun k=> ?_⟩;obtain⟨g,o,m,i,n⟩:=f k;exact⟨g,o,m,bf j i,n⟩
theorem JR {w:World}{g o:Nat}{l:List Kp}(h:w.rangeAt g o (iL l)){j:Nat}{k:Kp}(c:l[j]? =some k):w.rangeAt g (o+j*26) (kv k).toList:=by
 have a:=(aG.1 c).1
 have e:l=l.take j++([k]++l.drop (j+1)):=by
  conv=>lhs;rw[<-gM j l]
  congr 1;rw[bx a,(aG.1 c).2];rfl
 rw[e,lS,lS,zK]at h;have b:=xB (vq h);rw[o7,eE,fj (by omega)]at b;exact b
theorem en.at {B:Nat}{w:World}{p:Option Addr}{n c:Nat}{l:List Kp}(h:en B w (.slice p n c) l){j:Nat}{k:Kp}(a:l[j]? =some k): ∃g o,p=some ⟨g,o,none⟩/\w.rangeAt g (o+j*26) (kv k).toList:=by
 obtain⟨q,m,e,_,_,d⟩:=h;injection e with b _ _;subst b;obtain⟨g,o,f,_,i⟩:=d (by rintro rfl;simp at a);exact⟨g,o,f,JR i a⟩
theorem tH {d:Array Oper}{c:List Oper}{op:Oper}{a:Act}{w:World}{Q:Exit->Act->World->Prop}(e:op.guard=none)(x:Operand)(g:op.op= .load 184 x)(b o:Nat)(i:a.eval x=ab b o)(k:Kp)(f:w.rangeAt b o (kv k).toList)
  (h:wpList prog d Q c (a.put op.dst (.agg (kv k))) w):wpList prog d Q (op::c) a w:=by
 refine wpList_load_mid e 184 x g b o i (kv k).toList _ f qz rfl (Hh k) ?_;simpa using h
theorem JS (k:Kp)(n o:Nat)(a day:Int)(w:World)(i:w.heap[n]? =ah #[ag a] 3)(j:w.heap[o]? =ah #[ag day] 3):
  Calls prog 98 #[.agg (kv k),ab n 0,ab o 0] w fun e w'=>e= .returned (.bool (decide (k.r=a/\k.d=day)))/\aq w w':=by
 have f:=am w (.cells (kv k) 184);have g:=aE w (.cells (kv k) 184);have u:=(aZ _ _ 0 _ _ _ (ai f i)).trans rfl;have x:=(aZ _ _ 0 _ _ _ (ai f j)).trans rfl;have s:=(aZ _ _ 0 _ _ _ g).trans (Pq k);have t:=(aZ _ _ 1 _ _ _ g).trans (Pr k);generalize p:w.alloc (.cells (kv k) 184)=q at*;obtain⟨r,d,v,m⟩:=k;dsimp only at*;by_cases b:r=a
 ·by_cases c:d=day
  ·rw[bm (⟨b,c⟩:r=a/\d=day)];have l:(r==a)=true:=(by simp[b]);have e2:(d==day)=true:=(by simp[c]);clear b c i j g;go_enter func98,ntmps98;go_wp2_with fail;go_ret;exact⟨rfl,f⟩
  ·rw[bn (fun e:r=a/\d=day=>c e.2)];have l:(r==a)=true:=(by simp[b]);have e2:(d==day)=false:=(by simp[c]);clear b c i j g;go_enter func98,ntmps98;go_wp2_with fail;go_ret;exact⟨rfl,f⟩
 ·rw[bn (fun e:r=a/\d=day=>b e.1)];have l:(r==a)=false:=(by simp[b]);clear b i j g;go_enter func98,ntmps98;go_wp2_with fail;go_ret;exact⟨rfl,f⟩
theorem tI (l:List Kp)(v:Value)(y z:Nat)(a day:Int)(w:World)(h:en 0 w v l)(F:w.heap[y]? =ah #[ag a] 3)(G:w.heap[z]? =ah #[ag day] 3):
  Calls prog 97 #[v,.func (.func 98) #[] #[ab y 0,ab z 0]] w fun e w'=>e= .returned (ag (gJ a day l 0))/\aq w w':=by
 have E:=a8 h;obtain⟨p,c,rfl,A,s,_⟩:=h;have I:l.length<9223372036854775808:=by unfold maxLen at s;omega
 clear A s;go_enter func97,ntmps97;go_wp2_with fail;go_loopw [5,8] (fun _ t wr=> ∃j:Nat,t=ag (j:Int)/\j<=l.length/\gJ a day l 0=gJ a day (l.drop j) j/\aq w wr) (fun _ t _=>l.length-(intOf t).toNat);case atStart=>exact⟨0,rfl,by omega,rfl,aI _ _⟩
 case round=>
  obtain⟨j,rfl,J,b,i⟩:=hrel;have H:(0:Int)<=(j:Int):=(by omega);by_cases B:j<l.length
  ·have u:(j:Int)<(l.length:Int):=(by omega);obtain⟨k,f⟩: ∃p,l[j]? =some p:=⟨l[j],az B⟩
   rw[Hf f]at b;obtain⟨g,o,C,D⟩:=E.o.at f;subst C;have x:=lA D i;have c1:=JS k y z a day wr (ai i F) (ai i G);clear D f;go_wp2_with(refine tH rfl _ rfl g (o+j*26) rfl k x ?_)
   refine c1.mono ?_;rintro e K ⟨rfl,b1⟩;have q:=aw i b1;clear c1 b1 x i;by_cases m:k.r=a/\k.d=day
   ·rw[aD m]at b;have n:=a8 b;rw[bm m];clear b m;go_wp2_with fail;go_ret;exact⟨by(rw[n.o])<;>rfl,q⟩
   ·rw[ax m]at b;have n:=a8 b;rw[bn m];clear b m;go_wp2_with fail;go_roundw;case rel=>exact⟨j+1,by go_num,by omega,n.o,q⟩
    case measure=>simp[intOf];omega
  ·have u: ¬(j:Int)<(l.length:Int):=(by omega)
   have n:PN (gJ a day l 0= -1):=by
    show _=_;rw[b,dg (by omega)];rfl
   clear b;go_wp2_with fail;go_ret;exact⟨by(rw[n.o])<;>rfl,i⟩
section
theorem vV:(prog.info? 184).map (fun i=>(i.zero,i.size,i.bytes))=some (some (.agg (kv ⟨0,0,0,fun _=>false⟩)),26,208):=by kernel_rfl
theorem tJ:prog.underlying 49=some (.slice 184):=by kernel_rfl
theorem ng {w:World}{a n:Nat}{sv:Value}{xs:List Value}(h:w.ownsRow a 184 26 sv n xs): ∃p c,sv= .slice p n c/\n<=c:=by
 rcases h.2 with⟨e,e2⟩|⟨b,cap,d,e,_,_,f,_⟩
 ·exact⟨none,0,by rw[e,e2],by omega⟩
 ·exact⟨_,cap,e,f⟩
theorem en.of_own {w:World}{a:Nat}{v:Value}{l:List Kp}(h:w.ownsRow a 184 26 v l.length (iL l)):en a w v l:=by
 rcases h.2 with⟨e,e2⟩|⟨g,cap,d,e,f,k,m,i,o,n⟩
 ·exact⟨none,0,by rw[e,e2],by omega,by unfold maxLen;omega,fun q=>absurd (ig.1 e2) q⟩
 ·refine⟨_,cap,e,m,i,fun _=>⟨g,0,rfl,f,fun j u b=> ?_⟩⟩
  have c:j<l.length*26:=by
   have:=(aG.1 b).1;rwa[o7]at this
  refine(aZ _ _ _ _ _ _ k).trans ?_;rw[<-n,dK c,bp]at b;rw[bN];exact b
theorem xC (w:World)(g:TypeId)(a p:Option Addr)(n cap c:Nat)(b:n<=cap):(Builtin.append_ #[49,49] g #[.slice a n cap,.slice p 0 c]).run prog w= .ok (.slice a n cap) w:=by
 obtain⟨i,hi,d,e,f⟩:=jp vV;cases a<;>cases p<;>simp[Builtin.append_,fR tJ,sizeOf,typeInfo,hi,b,Builtin.lenOf,Builtin.firstCells,storeCells,loadCells,loadCellsFrom]
section
variable {ops:Array Oper} {rest:List Oper} {op:Oper} {a:Act} {w:World} {Q:Exit->Act->World->Prop}
theorem yI (f:op.guard=none)(s x:Operand)(y:op.op= .call {callee:= .builtin .append,args:= #[s,x],argTypes:= #[49,49]})(b:Nat)(S l:List Kp)(v B:Value)(z:a.eval s=v)(d:w.ownsRow b 184 26 v S.length (iL S))(A:a.eval x=B)(H:en 0 w B l)(O:S.length+l.length<=676622540160)(F:b<=w.heap.size)
  (h: ∀i w',w'.ownsRow b 184 26 i (S++l).length (iL (S++l))->w.grownBy w' v.ownBlock->wpList prog ops Q rest (a.put op.dst i) w'):wpList prog ops Q (op::rest) a w:=by
 obtain⟨p,c,e,I,G,L⟩:=H;subst e;by_cases t:l=[]
 ·subst t;obtain⟨N,c1,C,j⟩:=ng d;subst C;rw[il]at h;refine Go.Lib.wpList_append_run w f s x _ _ y _ _ z A _ _ (xC w _ N p _ c1 c j) (h _ _ d ⟨rfl,rfl,rfl,aB _,fun _ _ _=>rfl⟩)
 ·obtain⟨g,o,J,_,k⟩:=L t;subst J;obtain⟨M,hi,m,n,r⟩:=jp vV;refine iZ (w:=w) f s x 49 y b 184 M _ 26 208 tJ hi m n r (by exact pW _) (by decide) v S.length (iL S) z d ⟨g,o,none⟩ l.length c (iL l) A (o7 l) ?_ (Hi l) (by unfold maxLen;omega) (by omega) F fun i w' D E _=> ?_
  ·intro q u K;rw[uM];exact k q u K
  ·refine h i w' ?_ E;rw[aP,lS];exact D
end
theorem ON (n:Nat)(w:World)(j:0<n)(t:n<=676622540160):
  Calls prog 146 #[af,ag (n:Int)] w fun e w'=> ∃v,e= .returned v/\w'.ownsRow w.heap.size 184 26 v 0 []/\aq w w':=by
 obtain⟨r,hi,d,q,f⟩:=jp vV;have b:=fun s=>Go.Lib.run_append_nil_zeros (P:=prog) w 49 3 s 184 r _ .i64 .i64 tJ (by kernel_rfl) hi d n j (by omega) (by omega) (by rw[f];omega);have l:=grownCap_ge w n 0 184;have a:=grownCap_le_maxLen w n 0 184 (by unfold maxLen;omega)
 have c:(Builtin.zeroCells (Value.agg (kv ⟨0,0,0,fun _=>false⟩)).cells n++Builtin.zeroCells (Value.agg (kv ⟨0,0,0,fun _=>false⟩)).cells (grownCap w n 0 184-n)).size=grownCap w n 0 184*26:=by
  rw[Array.size_append,size_zeroCells,size_zeroCells];have e:(Value.agg (kv ⟨0,0,0,fun _=>false⟩)).cells.size=26:=pW _;rw[e];omega
 have i:PN ((w.drew.alloc (.cells (Builtin.zeroCells (Value.agg (kv ⟨0,0,0,fun _=>false⟩)).cells n++Builtin.zeroCells (Value.agg (kv ⟨0,0,0,fun _=>false⟩)).cells (grownCap w n 0 184-n)) 184)).ownsRow w.heap.size 184 26 (.slice (some (ae w.heap.size 0)) 0 (grownCap w n 0 184)) 0 []):=
  ⟨rfl,.inr ⟨w.heap.size,_,_,rfl,aB _,aE _ _,dw _,a,c,by simp⟩⟩
 have k:aq w (w.drew.alloc (.cells (Builtin.zeroCells (Value.agg (kv ⟨0,0,0,fun _=>false⟩)).cells n++Builtin.zeroCells (Value.agg (kv ⟨0,0,0,fun _=>false⟩)).cells (grownCap w n 0 184-n)) 184)):=(aI _ _).drew.alloc (aB _) _;generalize w.drew.alloc (.cells (Builtin.zeroCells (Value.agg (kv ⟨0,0,0,fun _=>false⟩)).cells n++Builtin.zeroCells (Value.agg (kv ⟨0,0,0,fun _=>false⟩)).cells (grownCap w n 0 184-n)) 184)=u at*;generalize grownCap w n 0 184=cap at*;have m:(0:Int)<(n:Int):=by omega
 have p:(n:Int)<=676622540160:=by omega
 have g:cap<=9223372036854775807:=by unfold maxLen at a;omega
 clear c a;go_enter func146,ntmps146;go_wp2_with(refine Go.Lib.wpList_append_run w rfl _ _ _ _ rfl _ _ rfl rfl _ _ (b _) ?_)
 go_ret;exact⟨_,rfl,i.o,k⟩
def iD (a:List (Value×List Kp))(j:Nat):List Kp:=(a.take j).flatMap fun p=>p.2
theorem zL {a:List (Value×List Kp)}{j:Nat}{p:Value×List Kp}(h:a[j]? =some p):iD a (j+1)=iD a j++p.2:=by
 unfold iD;rw[fD,h,fw];simp
theorem L1 (a:List (Value×List Kp))(j:Nat):(iD a j).length<=(iD a a.length).length:=by
 unfold iD;rw[gc];conv=>rhs;rw[<-gM j a]
 rw[fw,aP];omega
theorem xD (a:List (Value×List Kp))(K M O:Nat)(w:World)(L: ∀(j:Nat) (p:Value×List Kp),a[j]? =some p->w.cell? (ae K (M+j))=some p.1/\en 0 w p.1 p.2)(S:a.length<=1000)(P:0<(iD a a.length).length)(Q:(iD a a.length).length<=676622540160):
  Calls prog 126 #[.slice (some (ae K M)) a.length O] w fun e w'=> ∃v,e= .returned v/\w'.ownsRow w.heap.size 184 26 v (iD a a.length).length (iL (iD a a.length))/\aq w w':=by
 have J:=a8 L;have c:=fun j=>L1 a j;clear L;go_enter func126,ntmps126;go_wp2_with fail;go_loopw [3,5,11] (fun s _ t wr=> ∃j:Nat,s=ag ((iD a j).length:Int)/\t=ag (j:Int)/\j<=a.length/\wr=w) (fun _ _ t _=>a.length-(intOf t).toNat);case atStart=>exact⟨0,rfl,rfl,by omega,rfl⟩
 case round=>
  obtain⟨j,rfl,rfl,R,r⟩:=hrel;replace r:=r.symm;subst r;have I:(0:Int)<=(j:Int):=(by omega);by_cases n:j<a.length
  ·have g:(j:Int)<(a.length:Int):=(by omega);obtain⟨p,b⟩: ∃p,a[j]? =some p:=⟨a[j],az n⟩
   obtain⟨D,u⟩:=J.o j p b;have e:=zL b;have m1:=c (j+1);rw[e,aP]at m1;obtain⟨N,lp⟩:=p;obtain⟨pp,W,B,_,_,_⟩:=u;dsimp only at D B e m1;subst B;have C:PN ((iD a j).length+lp.length=(iD a (j+1)).length):=(by show _=_;rw[e,aP]);clear e b;have U:((iD a j).length:Int)+(lp.length:Int)<=676622540160:=(by omega);have T:(0:Int)<=((iD a j).length:Int)+(lp.length:Int):=(by omega);generalize (iD a j).length=sj at*;generalize lp.length=X at*;clear m1 c;go_wp2_with fail;go_roundw;case rel=>exact⟨j+1,by(rw[<-C.o])<;>go_num,by go_num,by omega,trivial⟩
   case measure=>simp[intOf];omega
  ·have g: ¬(j:Int)<(a.length:Int):=(by omega);have F:j=a.length:=(by omega);subst F;have c1:=ON (iD a a.length).length w P Q;go_wp2_with fail;refine c1.mono ?_;rintro e w1 ⟨v1,rfl,d,b1⟩;obtain⟨Y,q1,rfl,_⟩:=ng d;clear c1;go_wp2_with fail;go_loopw [6,8,27] (fun s _ t wr=> ∃j:Nat,t=ag (j:Int)/\j<=a.length/\wr.ownsRow w.heap.size 184 26 s (iD a j).length (iL (iD a j))/\aq w wr) (fun _ _ t _=>a.length-(intOf t).toNat);case atStart=>exact⟨0,rfl,by omega,d,b1⟩
   case round=>
    obtain⟨j,rfl,R,f,b2⟩:=hrel;have I:(0:Int)<=(j:Int):=(by omega);obtain⟨Z,q2,rfl,_⟩:=ng f;by_cases n:j<a.length
    ·have g:(j:Int)<(a.length:Int):=(by omega);obtain⟨p,b⟩: ∃p,a[j]? =some p:=⟨a[j],az n⟩
     obtain⟨D,u⟩:=J.o j p b;have e:=zL b;have m1:=c (j+1);rw[e,aP]at m1;have m:=u.later b2;have H:=aj b2 D;have l:=b2.size;have A:(iD a j).length+p.2.length<=676622540160:=(by omega);obtain⟨N,lp⟩:=p;dsimp only at H m e A;have C:=a8 e;have y:=a8 m;have i:=a8 f;have x:=a8 b2;clear e b u D d b1 m1 m f b2 c
     go_wp2_with(refine yI rfl _ _ rfl w.heap.size (iD a j) lp _ N rfl i.o rfl y.o A l ?_
                 intro v9 V q z
                 rw[<-C.o]at q
                 have G:aq w V:=Fb x.o z fun k u=>(i.o.lt k u).1
                 have E:=a8 q
                 clear i y x C q z)
     go_roundw;case rel=>exact⟨j+1,by go_num,by omega,E.o,G⟩
     case measure=>simp[intOf];omega
    ·have g: ¬(j:Int)<(a.length:Int):=(by omega);have F:j=a.length:=(by omega);subst F;clear d b1;go_wp2_with fail;go_ret;exact⟨_,rfl,f,b2⟩
end
theorem NE (k:Kp)(W:World):(Instr.buildSlice 49 1 #[(0,.agg (kv k))]).run prog W= .ok (.slice (some (ae W.heap.size 0)) 1 1) (W.alloc (.cells (kv k) 184)):=by
 kernel_rfl
theorem sZ {c:Array Oper}{b:List Oper}{op:Oper}{a:Act}{w:World}{Q:Exit->Act->World->Prop}(d:op.guard=none)(x:Operand)(g:op.op= .buildSlice 49 1 #[(0,x)])(k:Kp)(i:a.eval x= .agg (kv k))
  (h:wpList prog c Q b (a.put op.dst (.slice (some (ae w.heap.size 0)) 1 1)) (w.alloc (.cells (kv k) 184))):wpList prog c Q (op::b) a w:=
 wpList_plain d fun _ e=>by
  unfold Oper.wp execOp;have f:=NE k w;simp only[g,i,iC,dI,fg,ju,jV,gG,f];exact e _ _ h
theorem en.take {B:Nat}{w:World}{p:Option Addr}{n c:Nat}{l:List Kp}(h:en B w (.slice p n c) l)(j:Nat)(m:j<=l.length):en B w (.slice p j c) (l.take j):=by
 obtain⟨u,s,e,t,f,i⟩:=h;injection e with b e2 d;subst b d;refine⟨p,c,by rw[eE,fj m],by rw[eE];omega,f,fun q=> ?_⟩;obtain⟨g,o,r,k,a⟩:=i (by rintro rfl;simp at q);refine⟨g,o,r,k,?_⟩;rw[<-gM j l,lS]at a;exact xB a
theorem en.drop {B:Nat}{w:World}{p:Option Addr}{n c:Nat}{l:List Kp}(h:en B w (.slice p n c) l)(j:Nat)(m:j<=l.length):en B w (.slice (if c=j then p else Option.map (fun x=>x.add (j*26)) p) (l.length-j) (c-j)) (l.drop j):=by
 obtain⟨y,t,e,u,v,i⟩:=h;injection e with d e2 f;subst d f;refine⟨_,c-j,by rw[fo],by rw[fo];omega,by omega,fun a=> ?_⟩
 have r:j<l.length:=by
  rcases Nat.lt_or_ge j l.length with q|q
  ·exact q
  ·exact absurd (dg q) a
 obtain⟨g,o,s,k,b⟩:=i (by rintro rfl;simp at a);subst s;refine⟨g,o+j*26,?_,k,?_⟩
 ·rw[ax (by omega)];show some ((⟨g,o,none⟩:Addr).add (j*26))=_;rw[uM]
 ·rw[<-gM j l,lS]at b;have:=vq b;rwa[o7,eE,fj m]at this
theorem en.one {w:World}{g:Nat}{k:Kp}(h:w.heap[g]? =ah (kv k) 184):en 0 w (.slice (some (ae g 0)) 1 1) [k]:=
 ⟨_,1,rfl,by simp,by unfold maxLen;omega,fun _=>⟨g,0,rfl,dw _,fun j u a=>by
   rw[zK]at a;refine(aZ _ _ _ _ _ _ h).trans ?_;rw[bN,<-bp];exact a⟩⟩
theorem BP {w:World}{b d:Nat}{e:TypeId}{size n:Nat}{v:Value}{xs:List Value}(h:w.ownsRow d e size v n xs)(i:b<=d):w.ownsRow b e size v n xs:=by
 obtain⟨f,c⟩:=h;rcases c with c|⟨g,cap,a,e,q,r⟩
 ·exact⟨f,.inl c⟩
 ·exact⟨f,.inr ⟨g,cap,a,e,bf i q,r⟩⟩
theorem en.none (B:Nat)(w:World)(p:Option Addr)(c:Nat)(a:c<=maxLen):en B w (.slice p 0 c) []:=⟨p,c,rfl,by simp,a,fun h=>absurd rfl h⟩
theorem BQ (l:List Kp)(v:Value)(i:Int)(hi:i<0)(k:Kp)(w:World)(h:en 0 w v l)(hl:l.length<=676622540150):
  Calls prog 99 #[v,ag (i:Int),.agg (kv k)] w fun e w'=> ∃K,e= .returned K/\w'.ownsRow w.heap.size 184 26 K (l++[k]).length (iL (l++[k]))/\aq w w':=by
 obtain⟨R,I⟩:=au (l++[k]);rw[I];have G:=am w (.cells (kv k) 184);have X:=aE w (.cells (kv k) 184);have r:=h.later G;obtain⟨p,c,rfl,T,C,_⟩:=h;have Q:(0:Int)<=(l.length:Int):=by omega
 have S:(l.length:Int)<=676622540150:=by omega
 have J:c<=9223372036854775807:=by unfold maxLen at C;omega
 generalize U:w.alloc (.cells (kv k) 184)=m at*;have z:PN (en 0 m (.slice p l.length c) l):=r;have A:PN (en 0 m (.slice (if c=l.length then p else Option.map (fun x=>x.add (l.length*26)) p) 0 (c-l.length)) []):=en.none _ _ _ _ (by omega);have HK:=a8 r;have L:=a8 G;go_enter func99,ntmps99;go_wp2_with fail;go_quiet (fail);generalize (if c=l.length then p else Option.map (fun x=>x.add (l.length*26)) p)=n at*;have u:aq m (m.drewN nq):=dD (aI _ _) nq;obtain⟨b,s⟩:=au (m.drewN nq);rw[s]at u;rw[s];have D:b.heap[w.heap.size]? =ah (kv k) 184:=ai u X;have N:=am b (.cells (kv k) 184);have Y:=aE b (.cells (kv k) 184);generalize V:b.alloc (.cells (kv k) 184)=t at*;have H:=am t (.cells #[.slice p l.length c,.slice n 0 (c-l.length),.slice (some (ae b.heap.size 0)) 1 1] 49);have F:=aE t (.cells #[.slice p l.length c,.slice n 0 (c-l.length),.slice (some (ae b.heap.size 0)) 1 1] 49);have f:=u.trans ((aw N H).mono u.size);have E:=ai H Y;have r1:en 0 m (.slice p l.length c) (l):=z.o;have r2:en 0 m (.slice n 0 (c-l.length)) ([]):=A.o;have Z:=r1.later f;have q2:=r2.later f;have q3:=en.one E;have q:=aw L.o f;generalize W:t.alloc (.cells #[.slice p l.length c,.slice n 0 (c-l.length),.slice (some (ae b.heap.size 0)) 1 1] 49)=y at*
 have c1:=xD [(.slice p l.length c,l),(.slice n 0 (c-l.length),[]),(.slice (some (ae b.heap.size 0)) 1 1,[k])] t.heap.size 0 3 y (fun j pr a=>by
  match j,a with
  |0,a=>cases a;exact⟨(aZ _ _ _ _ _ _ F).trans rfl,Z⟩
  |1,a=>cases a;exact⟨(aZ _ _ _ _ _ _ F).trans rfl,q2⟩
  |2,a=>cases a;exact⟨(aZ _ _ _ _ _ _ F).trans rfl,q3⟩
  |j+3,a=>simp at a) (by simp) (by first|(simp[iD];done)|(simp[iD];omega)) (by simp[iD];omega)
 have P:iD [(.slice p l.length c,l),(.slice n 0 (c-l.length),[]),(.slice (some (ae b.heap.size 0)) 1 1,[k])] 3=R:=by
  rw[<-I];simp[iD]
 have O:Calls prog 126 #[.slice (some (ae t.heap.size 0)) 3 3] y fun e w'=> ∃v,e= .returned v/\w'.ownsRow y.heap.size 184 26 v R.length (iL R)/\aq y w':=by
  have:=c1;simp only[bJ,gK,bN,Nat.reduceAdd,P]at this;exact this
 go_wp2_with(first
  |(refine aR rfl 184 _ rfl _ rfl _ _ _ _ D qz rfl (oy k) ?_)
  |(refine sZ rfl _ rfl k rfl ?_))
 refine O.mono ?_;rintro e w9 ⟨v9,rfl,d,M⟩;have g:=BP d q.size;have B:=aw q M;obtain⟨p9,c9,rfl,_⟩:=ng d;go_wp2_with fail;go_ret;exact⟨_,rfl,g,B⟩
theorem Fc (l:List Kp)(v:Value)(i:Nat)(hi:i<l.length)(k:Kp)(w:World)(h:en 0 w v l)(hl:l.length<=676622540150):
  Calls prog 99 #[v,ag (i:Int),.agg (kv k)] w fun e w'=> ∃N,e= .returned N/\w'.ownsRow w.heap.size 184 26 N ((l.take i++l.drop (i+1))++[k]).length (iL ((l.take i++l.drop (i+1))++[k]))/\aq w w':=by
 obtain⟨R,L⟩:=au ((l.take i++l.drop (i+1))++[k]);rw[L];have H:=am w (.cells (kv k) 184);have nA:=aE w (.cells (kv k) 184);have g:=h.later H;obtain⟨p,c,rfl,Y,D,_⟩:=h;have W:(0:Int)<=(l.length:Int):=by omega
 have X:(l.length:Int)<=676622540150:=by omega
 have M:c<=9223372036854775807:=by unfold maxLen at D;omega
 generalize Z:w.alloc (.cells (kv k) 184)=n at*;have z:PN (en 0 n (.slice p i c) (l.take i)):=g.take i (by omega);have A:PN (en 0 n (.slice (if c=i+1 then p else Option.map (fun x=>x.add ((i+1)*26)) p) (l.length-(i+1)) (c-(i+1))) (l.drop (i+1))):=g.drop (i+1) (by omega);have U:(0:Int)<=(i:Int):=by omega
 have V:(i:Int)<(l.length:Int):=by omega
 have HK:=a8 g;have O:=a8 H;go_enter func99,ntmps99;go_wp2_with fail;go_quiet (fail);generalize (if c=l.length then p else Option.map (fun x=>x.add (l.length*26)) p)=q8 at*;have J:aq n (n.drewN nq):=dD (aI _ _) nq;obtain⟨wE,t⟩:=au (n.drewN nq);rw[t]at J;rw[t];go_wp2_with fail;go_quiet (fail);generalize (if c=i+1 then p else Option.map (fun x=>x.add ((i+1)*26)) p)=q at*;have K:aq wE (wE.drewN nq):=dD (aI _ _) nq;obtain⟨b,s⟩:=au (wE.drewN nq);rw[s]at K;rw[s];have B:=aw J K;have E:b.heap[w.heap.size]? =ah (kv k) 184:=ai B nA;have Q:=am b (.cells (kv k) 184);have nB:=aE b (.cells (kv k) 184);generalize aa:b.alloc (.cells (kv k) 184)=u at*;have I:=am u (.cells #[.slice p i c,.slice q (l.length-(i+1)) (c-(i+1)),.slice (some (ae b.heap.size 0)) 1 1] 49);have G:=aE u (.cells #[.slice p i c,.slice q (l.length-(i+1)) (c-(i+1)),.slice (some (ae b.heap.size 0)) 1 1] 49);have f:=B.trans ((aw Q I).mono B.size);have F:=ai I nB;have r1:en 0 n (.slice p i c) (l.take i):=z.o;have r2:en 0 n (.slice q (l.length-(i+1)) (c-(i+1))) (l.drop (i+1)):=A.o;have q1:=r1.later f;have q2:=r2.later f;have q3:=en.one F;have r:=aw O.o f;generalize ab:u.alloc (.cells #[.slice p i c,.slice q (l.length-(i+1)) (c-(i+1)),.slice (some (ae b.heap.size 0)) 1 1] 49)=y at*
 have c1:=xD [(.slice p i c,l.take i),(.slice q (l.length-(i+1)) (c-(i+1)),l.drop (i+1)),(.slice (some (ae b.heap.size 0)) 1 1,[k])] u.heap.size 0 3 y (fun j pr a=>by
  match j,a with
  |0,a=>cases a;exact⟨(aZ _ _ _ _ _ _ G).trans rfl,q1⟩
  |1,a=>cases a;exact⟨(aZ _ _ _ _ _ _ G).trans rfl,q2⟩
  |2,a=>cases a;exact⟨(aZ _ _ _ _ _ _ G).trans rfl,q3⟩
  |j+3,a=>simp at a) (by simp) (by first|(simp[iD];done)|(simp[iD];omega)) (by simp[iD];omega)
 have T:iD [(.slice p i c,l.take i),(.slice q (l.length-(i+1)) (c-(i+1)),l.drop (i+1)),(.slice (some (ae b.heap.size 0)) 1 1,[k])] 3=R:=by
  rw[<-L];simp[iD]
 have S:Calls prog 126 #[.slice (some (ae u.heap.size 0)) 3 3] y fun e w'=> ∃v,e= .returned v/\w'.ownsRow y.heap.size 184 26 v R.length (iL R)/\aq y w':=by
  have:=c1;simp only[bJ,gK,bN,Nat.reduceAdd,T]at this;exact this
 go_wp2_with(first
  |(refine aR rfl 184 _ rfl _ rfl _ _ _ _ E qz rfl (oy k) ?_)
  |(refine sZ rfl _ rfl k rfl ?_))
 refine S.mono ?_;rintro e w9 ⟨v9,rfl,d,P⟩;have m:=BP d r.size;have C:=aw r P;obtain⟨p9,c9,rfl,_⟩:=ng d;go_wp2_with fail;go_ret;exact⟨_,rfl,m,C⟩
theorem Fd (B:Nat)(l:List Kp)(v:Value)(w:World)(h:en B w v l)(z:l.length<=676622540160):
  Calls prog 101 #[v] w fun e w'=> ∃g,e= .returned g/\en B w' g (sE l)/\w'=w:=by
 have d:=a8 h;obtain⟨p,c,rfl,x,b,_⟩:=h;have t:(0:Int)<=(l.length:Int):=by omega
 have u:(l.length:Int)<=676622540160:=by omega
 have f:c<=9223372036854775807:=by unfold maxLen at b;omega
 unfold sE;by_cases k:64<l.length
 ·obtain⟨j,n⟩:=au (l.length-64);rw[n];have a:=a8 (d.o.drop j (by omega));have i:(l.length:Int)-64=(j:Int):=(by omega);have y:IntKind.i64.wrap ((j:Int))=(j:Int):=(by rw[bz];omega);have q:(0:Int)<(j:Int):=(by omega);have r:j<=l.length:=(by omega);have s:(j:Int)<=(l.length:Int):=(by omega);have m: ¬c=j:=(by omega);rw[ax m]at a;go_enter func101,ntmps101;go_wp2_with fail;go_ret;exact⟨_,rfl,a.o,rfl⟩
 ·have e0:l.length-64=0:=by omega
  rw[e0];have a:PN (en B w (.slice p l.length c) (l.drop 0)):=d.o;have i:(l.length:Int)-64<=0:=(by omega);go_enter func101,ntmps101;go_wp2_with fail;go_ret;exact⟨_,rfl,a.o,rfl⟩
section
theorem en.set {B:Nat}{w:World}{v:Value}{l:List Kp}(h:en B w v l){g:Nat}(t:g<B)(X:Array Value):en B (w.setRow g X) v l:=by
 obtain⟨p,c,e,d,f,i⟩:=h;refine⟨p,c,e,d,f,fun q=> ?_⟩;obtain⟨b,o,r,k,s⟩:=i q;refine⟨b,o,r,k,fun j u n=> ?_⟩;have a:=s j u n;have m:=aV w g b X (by omega);unfold World.cell? at a⊢;rw[m];exact a
structure GJ (w0 w1:World)(ga B:Nat)(m:M)(R:List Kp)(runs er at_:Int)(im ic iF:Nat)(L:Nat->Bool)(W:World):Prop where
 bel:aq w0 W
 low: ∀q,q<B->q≠ga->q≠ga+1->q≠ga+2->W.heap[q]? =w1.heap[q]?
 size:B<=W.heap.size
 b0:w0.heap.size<=ga
 b1:ga+2<B
 m0:L im=false->W.heap[ga]? =ah (mv fun _=>false) 84
 m1:L im=true->W.heap[ga]? =ah (mv m) 84
 c0:L ic=false->W.heap[ga+1]? =ah #[af,ag 0] 51
 c1:L ic=true-> ∃v',W.heap[ga+1]? =ah #[v',ag runs] 51/\en B W v' R
 f0:L iF=false->W.heap[ga+2]? =ah #[ag 0,ag 0] 93
 f1:L iF=true->W.heap[ga+2]? =ah #[ag er,ag at_] 93
section
variable {w0 w1:World} {ga B:Nat} {m:M} {R:List Kp} {runs er at_:Int} {im ic iF:Nat} {L:Nat->Bool} {W W':World}
theorem sF {i k:Nat}{b:Bool}(h:(decide (i=k)||b)=false):b=false:=(Bool.or_eq_false_iff.1 h).2
theorem mD {i k:Nat}{b:Bool}(a:i≠k)(h:(decide (i=k)||b)=true):b=true:=by simpa[a] using h
theorem GJ.below (h:GJ w0 w1 ga B m R runs er at_ im ic iF L W)(f:aq W W'):GJ w0 w1 ga B m R runs er at_ im ic iF L W':=by
 have lt: ∀q,q<B->W'.heap[q]? =W.heap[q]? :=fun q i=>f.block q (aT i h.size);have g:=h.b1;exact⟨aw h.bel f,fun q a b c d=>(lt q a).trans (h.low q a b c d),bf h.size f.size,h.b0,h.b1,fun e=>(lt _ (by omega)).trans (h.m0 e),fun e=>(lt _ (by omega)).trans (h.m1 e),fun e=>(lt _ (by omega)).trans (h.c0 e),fun e=>(h.c1 e).imp fun _ q=>⟨(lt _ (by omega)).trans q.1,q.2.later f⟩,fun e=>(lt _ (by omega)).trans (h.f0 e),fun e=>(lt _ (by omega)).trans (h.f1 e)⟩
theorem GJ.same (h:GJ w0 w1 ga B m R runs er at_ im ic iF L W)(i:Nat)(a:i≠im)(b:i≠ic)(c:i≠iF):GJ w0 w1 ga B m R runs er at_ im ic iF (fun k=>decide (i=k)||L k) W:=
 ⟨h.bel,h.low,h.size,h.b0,h.b1,fun e=>h.m0 (sF e),fun e=>h.m1 (mD a e),fun e=>h.c0 (sF e),fun e=>h.c1 (mD b e),fun e=>h.f0 (sF e),fun e=>h.f1 (mD c e)⟩
theorem GJ.mask (h:GJ w0 w1 ga B m R runs er at_ im ic iF L W)(l:L im=false)(i:im≠ic)(j:im≠iF):GJ w0 w1 ga B m R runs er at_ im ic iF (fun k=>decide (im=k)||L k) (W.setRow ga (mv m)):=by
 have f: ∀q,q≠ga->(W.setRow ga (mv m)).heap[q]? =W.heap[q]? :=fun q o=>aV W ga q (mv m) o;have n:=h.b1;refine⟨below_setRow h.bel h.b0 _,fun q a b c d=>(f q b).trans (h.low q a b c d),by simpa using h.size,h.b0,h.b1,fun e=>(by simp at e),fun _=>aL _ _ _ _ _ _ (h.m0 l),fun e=>(f _ (by omega)).trans (h.c0 (sF e)),fun e=> ?_,fun e=>(f _ (by omega)).trans (h.f0 (sF e)),fun e=>(f _ (by omega)).trans (h.f1 (mD j e))⟩;obtain⟨p,g,e2⟩:=h.c1 (mD i e);exact⟨p,(f _ (by omega)).trans g,e2.set (by omega) _⟩
theorem GJ.cache (h:GJ w0 w1 ga B m R runs er at_ im ic iF L W)(l:L ic=false)(i:ic≠im)(j:ic≠iF){g:Value}(r:en B W g R):GJ w0 w1 ga B m R runs er at_ im ic iF (fun k=>decide (ic=k)||L k) (W.setRow (ga+1) #[g,ag runs]):=by
 have f: ∀q,q≠ga+1->(W.setRow (ga+1) #[g,ag runs]).heap[q]? =W.heap[q]? :=fun q p=>aV W (ga+1) q _ p;have o:=h.b1;have n:=h.b0;exact⟨below_setRow h.bel (by omega) _,fun q a b c d=>(f q c).trans (h.low q a b c d),by simpa using h.size,h.b0,h.b1,fun e=>(f _ (by omega)).trans (h.m0 (sF e)),fun e=>(f _ (by omega)).trans (h.m1 (mD i e)),fun e=>(by simp at e),fun _=>⟨g,aL _ _ _ _ _ _ (h.c0 l),r.set (by omega) _⟩,fun e=>(f _ (by omega)).trans (h.f0 (sF e)),fun e=>(f _ (by omega)).trans (h.f1 (mD j e))⟩
theorem GJ.fault (h:GJ w0 w1 ga B m R runs er at_ im ic iF L W)(l:L iF=false)(i:iF≠im)(j:iF≠ic):GJ w0 w1 ga B m R runs er at_ im ic iF (fun k=>decide (iF=k)||L k) (W.setRow (ga+2) #[ag er,ag at_]):=by
 have f: ∀q,q≠ga+2->(W.setRow (ga+2) #[ag er,ag at_]).heap[q]? =W.heap[q]? :=fun q p=>aV W (ga+2) q _ p;have o:=h.b1;have n:=h.b0;refine⟨below_setRow h.bel (by omega) _,fun q a b c d=>(f q d).trans (h.low q a b c d),by simpa using h.size,h.b0,h.b1,fun e=>(f _ (by omega)).trans (h.m0 (sF e)),fun e=>(f _ (by omega)).trans (h.m1 (mD i e)),fun e=>(f _ (by omega)).trans (h.c0 (sF e)),fun e=> ?_,fun e=>(by simp at e),fun _=>aL _ _ _ _ _ _ (h.f0 l)⟩;obtain⟨r,g,e2⟩:=h.c1 (mD j e);exact⟨r,(f _ (by omega)).trans g,e2.set (by omega) _⟩
end
structure GT (B:Nat)(R0 R:List Kp)(runs:Int)(i0 i1 i2 s0 s1 s2:Nat)(M:Nat->Bool)(φ:Nat->Value)(W:World):Prop where
 t0:M i0=true->en B W (φ s0) R0
 t1:M i1=true->en B W (φ s1) R
 t2:M i2=true-> ∃v',φ s2= .agg #[v',ag runs]/\en B W v' R
section
variable {B:Nat} {R0 R:List Kp} {runs:Int} {i0 i1 i2 s0 s1 s2:Nat} {M:Nat->Bool} {φ φ':Nat->Value} {W W':World}
theorem GT.mono (h:GT B R0 R runs i0 i1 i2 s0 s1 s2 M φ W)(a: ∀v l,en B W v l->en B W' v l):GT B R0 R runs i0 i1 i2 s0 s1 s2 M φ W':=⟨fun e=>a _ _ (h.t0 e),fun e=>a _ _ (h.t1 e),fun e=>(h.t2 e).imp fun _ q=>⟨q.1,a _ _ q.2⟩⟩
theorem GT.on (h:GT B R0 R runs i0 i1 i2 s0 s1 s2 M φ W)(i:Nat)(b:i≠i0->φ' s0=φ s0)(c:i≠i1->φ' s1=φ s1)(d:i≠i2->φ' s2=φ s2)(k0:i=i0->en B W (φ' s0) R0)(f:i=i1->en B W (φ' s1) R)(g:i=i2-> ∃a,φ' s2= .agg #[a,ag runs]/\en B W a R):GT B R0 R runs i0 i1 i2 s0 s1 s2 (fun k=>decide (i=k)||M k) φ' W:=by
 refine⟨fun e=> ?_,fun e=> ?_,fun e=> ?_⟩
 ·by_cases q:i=i0
  ·exact k0 q
  ·rw[b q];exact h.t0 (mD q e)
 ·by_cases q:i=i1
  ·exact f q
  ·rw[c q];exact h.t1 (mD q e)
 ·by_cases q:i=i2
  ·exact g q
  ·rw[d q];exact h.t2 (mD q e)
theorem GT.mark (h:GT B R0 R runs i0 i1 i2 s0 s1 s2 M φ W)(i:Nat)(a:i≠i0)(b:i≠i1)(c:i≠i2):GT B R0 R runs i0 i1 i2 s0 s1 s2 (fun k=>decide (i=k)||M k) φ W:=⟨fun e=>h.t0 (mD a e),fun e=>h.t1 (mD b e),fun e=>h.t2 (mD c e)⟩
end
theorem L2 (k:Kp)(j:Nat)(_:j<23):(kv k)[3+j]? =(mv k.m)[j]? :=by
 unfold kv;rw[Array.getElem?_append_right (by simp)];simp
theorem JT {w:World}{g:Nat}{k:Kp}(h:w.heap[g]? =ah (kv k) 184):w.rangeAt g 3 (mv k.m).toList:=fun j u b=>by
 have a:j<23:=by
  have:=(aG.1 b).1;rwa[rS]at this
 refine(aZ _ _ _ _ _ _ h).trans ?_;rw[L2 k j a,<-bp];exact b
theorem zN:prog.underlying 51=some (.struct (prog.fieldsOf 51)):=by kernel_rfl
theorem qP:(prog.info? 51).map (·.size)=some 2:=by kernel_rfl
theorem nh:(prog.info? 93).map (·.size)=some 2:=by kernel_rfl
def yJ (m:M)(R:List Kp)(runs er at_:Int)(w:World)(e:Ending)(w':World):Prop:= ∃a,e= .returned (.tuple #[.agg (mv m),.agg #[a,ag runs],.agg #[ag er,ag at_]])/\en w.heap.size w' a R/\aq w w'
theorem vW {a:Act}{w0 w:World}(g:Nat)(m:M)(R:List Kp)(runs er at_:Int)(e:Value)(q:a.defers=[])(f:a.tmps.getD 10 undef=ab g 0)(i:a.tmps.getD 11 undef=ab (g+1) 0)(j:a.tmps.getD 12 undef=ab (g+2) 0)
  (r:w.heap[g]? =ah (mv m) 84) (k:w.heap[g+1]? =ah #[e,ag runs] 51) (l:w.heap[g+2]? =ah #[ag er,ag at_] 93) (s:en w0.heap.size w e R) (p:aq w0 w):bodyPost prog f71 (yJ m R runs er at_ w0) .ret a w:=by
 refine aW (v:= .tuple #[.agg (mv m),.agg #[e,ag runs],.agg #[ag er,ag at_]]) ?_ q ⟨e,rfl,s,p⟩;have b:a.tmps[10]?.getD undef=ab g 0:=by simpa using f
 have c:a.tmps[11]?.getD undef=ab (g+1) 0:=by simpa using i
 have d:a.tmps[12]?.getD undef=ab (g+2) 0:=by simpa using j
 have t:=dX (P:=prog) w g 84 84 _ _ _ r bV rfl (bh _);have n:=dX (P:=prog) w (g+1) 51 51 _ _ _ k zN rfl qP;have o:=dX (P:=prog) w (g+2) 93 93 _ _ _ l me rfl nh;simp[results,results71,b,c,d,asAddr,t,n,o]
end
end Go.Proofs.YtaoljfdfhggbbaaGreatDoor
