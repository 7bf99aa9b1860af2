/- Texts of the proof. -/
import Derived.Test.YtpdoienkhgnceaaGreatDoorPt02
set_option maxRecDepth 100000
set_option maxHeartbeats 8000000
namespace Go.Proofs.YtpdoienkhgnceaaGreatDoor
open Go.Proofs.Tryz Go.RowKit Lx Vx Mx Msk
section
theorem Ku (f:Nat->Bool)(x y:Nat)(l:x<=y):
  bits .or .u64 (wd f (x/64):Int) (IntKind.u64.wrap (((2^(y-x)-1:Nat):Int)*2^(x%64)))=((wd (fun i=>f i||(decide (x<=i)&&decide (i<y))) (x/64):Nat):Int):=by
 have e:IntKind.u64.wrap (((2^(y-x)-1:Nat):Int)*2^(x%64))=((wd (fun i=>decide (x<=i)&&decide (i<y)) (x/64):Nat):Int):=by
  have a:wd (fun i=>decide (x<=i)&&decide (i<y)) (x/64)=(2^(y-x)-1)*2^(x%64)%18446744073709551616:=by
   symm;refine oy _ _ _ (Nat.mod_lt _ (by omega)) fun j b=> ?_;rw[AH _ _ j b,C2];have d:(x%64<=j)=(x<=64*(x/64)+j):=(by apply propext;omega);by_cases c:x%64<=j
   ·have g:(j-x%64<y-x)=(64*(x/64)+j<y):=(by apply propext;omega);simp only[d,g]
   ·have k: ¬x<=64*(x/64)+j:=(by omega);simp[c,k]
  rw[ie,a];have:((2:Int)^(x%64))=((2^(x%64):Nat):Int):=(by simp);rw[this];omega
 rw[e,bits_or_u64_nat _ _ (iq _ _) (iq _ _),CO]
theorem Pc (f:Nat->Bool)(x y:Nat)(a:x<=y)(b:y<=64*(x/64)+64)(c:x<1472):
  (mv f).setIfInBounds (x/64) (.int .u64 (bits .or .u64 (wd f (x/64):Int) (IntKind.u64.wrap (((2^(y-x)-1:Nat):Int)*2^(x%64)))))=mv fun i=>f i||(decide (x<=i)&&decide (i<y)):=by
 rw[Ku f x y a,C3 _ _ _ (by omega)];refine jj fun i hi=> ?_;by_cases h:i/64=x/64
 ·rw[ax h]
 ·rw[aw h];by_cases q:x<=i
  ·have: ¬i<y:=(by omega);simp[this]
  ·simp[q]
theorem Ih (f:Nat->Bool)(x v:Int)(h:v=max x 0):mv f=mv fun i=>f i||(decide (x<=(i:Int))&&decide ((i:Int)<v)):=jj fun i _=>by
 have: ¬(x<=(i:Int)/\(i:Int)<v):=by omega
 by_cases a:x<=(i:Int)
 ·have: ¬(i:Int)<v:=by omega
  simp[this]
 ·simp[a]
theorem Kv (f:Nat->Bool)(x:Int)(k n:Nat)(e:x<=k)(j:k<=n):(mv fun i=>(f i||(decide (x<=(i:Int))&&decide ((i:Int)<(k:Int))))||(decide (k<=i)&&decide (i<n)))=mv fun i=>f i||(decide (x<=(i:Int))&&decide ((i:Int)<(n:Int))):=jj fun i _=>by
 by_cases g:i<k
 ·have a: ¬k<=i:=by omega
  have b:(i:Int)<k:=(by omega);have c:(i:Int)<n:=(by omega);simp[a,b,c]
 ·have a:k<=i:=by omega
  have b: ¬(i:Int)<k:=(by omega);have c:((i:Int)<n)=(i<n):=(by apply propext;omega);have d:x<=(i:Int):=(by omega);simp[a,b,d]
theorem xM (f:Nat->Bool)(x:Int)(k n q r:Nat)(b:x<=k)(a:k<=n)(c:n<=64*(k/64)+64)(m:k<1472)(j:q=k/64)(l:r=k%64)(d:Nat)(g:d=n-k)
  (F:Nat->Bool) (e:F=fun i=>f i||(decide (x<=(i:Int))&&decide ((i:Int)<(k:Int)))):
  (mv F).setIfInBounds q (.int .u64 (bits .or .u64 (wd F q:Int) (IntKind.u64.wrap (((2^d-1:Nat):Int)*2^r))))=mv fun i=>f i||(decide (x<=(i:Int))&&decide ((i:Int)<(n:Int))):=by
 subst j l g;rw[Pc F k n a c m,e];exact Kv f x k n b a
theorem M1 (f:Nat->Bool)(x y v:Int)(a:v=max x 0\/(v<=y/\v<=1440))(b:y<=v\/1440<=v):(mv fun i=>f i||(decide (x<=(i:Int))&&decide ((i:Int)<v)))=mv fun i=>f i||(decide (x<=(i:Int))&&decide ((i:Int)<y)&&decide (i<1440)):=jj fun i _=>by
 congr 1;rw[Bool.eq_iff_iff];simp only[bx,bL];omega
attribute [local go_sem↓] Go.wp_at_zero Go.wp_at_succ
theorem M2 (f:Nat->Bool)(g:Nat)(x y:Int)(w:World)(G:w.heap[g]? =ah (mv f) 39):
  Calls prog 129 #[ab g 0,.agg #[ag x,ag y]] w fun e n=>e= .returned (.tuple #[])/\
   n.heap[g]? =ah (mv fun i=>f i||(decide (x<=(i:Int))&&decide ((i:Int)<y)&&decide (i<1440))) 39/\Below g w n:=by
 have l:=aH G;go_enter func129,ntmps129;go_wp2;go_region;all_goals go_wp2
 all_goals
  go_loopw [4] (fun i wr=> ∃v:Int,i=ag v/\0<=v/\x<=v/\(v=max x 0\/(v<=y/\v<=1440))/\wr.heap[g]? =ah (mv fun i=>f i||(decide (x<=(i:Int))&&decide ((i:Int)<v))) 39/\Below g w wr) (fun i _=>(1440-intOf i).toNat)
  case atStart=>
   refine⟨_,rfl,by omega,by omega,.inl (by omega),?_,?_⟩
   ·exact iX (dh _ _ _ l G) (Ih f x _ (by omega))
   ·exact((aF _ _).alloc (Nat.le_of_lt l) _).drew
  case round=>
   obtain⟨v,rfl,S,j,B,c,a⟩:=hrel
   by_cases A:v<y/\v<1440
   ·obtain⟨N,O⟩:=A
    obtain⟨k,rfl⟩: ∃k:Nat,v=k:=⟨v.toNat,by omega⟩
    obtain⟨b,rfl⟩: ∃b:Nat,y=b:=⟨y.toNat,by omega⟩
    generalize D:(fun i:Nat=>f i||(decide (x<=(i:Int))&&decide ((i:Int)<(k:Int))))=F at c
    have s:T4 (F=fun i:Nat=>f i||(decide (x<=(i:Int))&&decide ((i:Int)<(k:Int)))):=D.symm
    obtain⟨m,d⟩: ∃m:Nat,m=64*(k/64)+64:=⟨_,rfl⟩
    have P:m<=k+64/\k<m/\m<=1472:=by omega
    have t:T4 (m=64*(k/64)+64):=d
    have p:=fun w=>xc k (by omega) w
    rw[<-d]at p
    have T:T4 ((k:Int)=max x 0\/((k:Int)<=b/\(k:Int)<=1440)):=B
    obtain⟨q,H⟩: ∃q:Nat,q=k/64:=⟨_,rfl⟩
    obtain⟨r,I⟩: ∃r:Nat,r=k%64:=⟨_,rfl⟩
    have u:T4 (q=k/64):=H
    have z:T4 (r=k%64):=I
    have t1:(k:Int)/64=(q:Int):=by omega
    have t2:(k:Int)%64=(r:Int):=by omega
    have W:(k:Int).tdiv 64=(q:Int):=by rw[Int.tdiv_eq_ediv_of_nonneg (by omega)];exact t1
    have X:(k:Int).tmod 64=(r:Int):=by rw[Int.tmod_eq_emod_of_nonneg (by omega)];exact t2
    have U:=lj c q (by omega)
    have V:=bu _ _ q _ _ c
    have L:(0:Int)<=(q:Int):=by omega
    have M:(q:Int)<23:=by omega
    have Q:(0:Int)<=(r:Int):=by omega
    have R:(r:Int)<64:=by omega
    have Y:IntKind.i64.wrap (q:Int)=(q:Int):=by rw[bQ];omega
    have Z:IntKind.i64.wrap (r:Int)=(r:Int):=by rw[bQ];omega
    have t7:IntKind.i64.wrap ((m:Int)-(k:Int))=(m:Int)-(k:Int):=by rw[bQ];omega
    have t8:IntKind.i64.wrap (1440-(k:Int))=1440-(k:Int):=by rw[bQ];omega
    clear B d H I D
    rcases(show(m<=b/\m<=1440)\/(b<m/\b<=1440)\/(1440<m/\1440<b) from by omega) with C|C|C
    ·first
     |(exfalso;omega)
     |(have J:IntKind.i64.wrap ((m:Int)-(k:Int))=(m:Int)-(k:Int):=by rw[bQ];omega
       go_wp2_with(go_at_call 175;refine(p _).mono ?_;rintro e n ⟨rfl,rfl⟩)
       go_region_with ((go_at_call 176;refine(AL _ ?_ ?_ _).mono ?_;omega;omega;rintro e K ⟨rfl,rfl⟩))
       all_goals
        go_wp2
        go_roundw
        case rel=>
         have E:=t.o
         refine⟨m,rfl,by omega,by omega,.inr ⟨by omega,by omega⟩,?_,(a.setCell (aA _) _).drew⟩
         refine iX (aY _ _ _ _ _ _ c) ?_
         exact xM f x k m q r j (by omega) (by omega) (by omega) u.o z.o _ (by omega) F s.o
        case measure=>simp[intOf];omega)
    ·first
     |(exfalso;omega)
     |(have J:IntKind.i64.wrap ((b:Int)-(k:Int))=(b:Int)-(k:Int):=by rw[bQ];omega
       go_wp2_with(go_at_call 175;refine(p _).mono ?_;rintro e n ⟨rfl,rfl⟩)
       go_region_with ((go_at_call 176;refine(AL _ ?_ ?_ _).mono ?_;omega;omega;rintro e K ⟨rfl,rfl⟩))
       all_goals
        go_wp2
        go_roundw
        case rel=>
         have E:=t.o
         refine⟨b,rfl,by omega,by omega,.inr ⟨by omega,by omega⟩,?_,(a.setCell (aA _) _).drew⟩
         refine iX (aY _ _ _ _ _ _ c) ?_
         exact xM f x k b q r j (by omega) (by omega) (by omega) u.o z.o _ (by omega) F s.o
        case measure=>simp[intOf];omega)
    ·first
     |(exfalso;omega)
     |(have J:IntKind.i64.wrap ((1440:Int)-(k:Int))=(1440:Int)-(k:Int):=by rw[bQ];omega
       go_wp2_with(go_at_call 175;refine(p _).mono ?_;rintro e n ⟨rfl,rfl⟩)
       go_region_with ((go_at_call 176;refine(AL _ ?_ ?_ _).mono ?_;omega;omega;rintro e K ⟨rfl,rfl⟩))
       all_goals
        go_wp2
        go_roundw
        case rel=>
         have E:=t.o
         refine⟨1440,rfl,by omega,by omega,.inr ⟨by omega,by omega⟩,?_,(a.setCell (aA _) _).drew⟩
         refine iX (aY _ _ _ _ _ _ c) ?_
         exact xM f x k 1440 q r j (by omega) (by omega) (by omega) u.o z.o _ (by omega) F s.o
        case measure=>simp[intOf];omega)
   ·go_wp2
    go_end0
    exact⟨rfl,iX c (M1 f x y v B (by omega)),a⟩
end
def Row (w:World)(v:Value)(l:List (Int×Int)):Prop:=
 (∃c,v= .slice none 0 c/\l=[])\/ ∃g o c:Nat,v= .slice (some (ae g o)) l.length c/\l.length<9223372036854775808/\ ∀j,j<l.length->w.cell? (ae g (o+j*2))=some (ag (l.getD j (0,0)).1)/\w.cell? (ae g (o+j*2+1))=some (ag (l.getD j (0,0)).2)
theorem Row.later {w w':World}{v:Value}{l:List (Int×Int)}(h:Row w v l)(a:ao w w'):Row w' v l:=by
 rcases h with h|⟨g,o,c,i,f,d⟩
 ·exact .inl h
 ·refine .inr ⟨g,o,c,i,f,fun j e=> ?_⟩;obtain⟨c1,b⟩:=d j e;exact⟨aj a c1,aj a b⟩
def inl (l:List (Int×Int))(i:Nat):Bool:=l.any fun s=>decide (s.1<=(i:Int))&&decide ((i:Int)<s.2)&&decide (i<1440)
theorem M4 (l:List (Int×Int))(k:Nat)(a:k<l.length):(mv fun i=>inl (l.take k) i||(decide ((l.getD k (0,0)).1<=(i:Int))&&decide ((i:Int)<(l.getD k (0,0)).2)&&decide (i<1440)))=mv (inl (l.take (k+1))):=by
 have e:l.take (k+1)=l.take k++[l.getD k (0,0)]:=by
  rw[List.take_succ_eq_append_getElem a];simp[List.getD,a]
 refine jj fun i _=> ?_;rw[e];simp[inl]
theorem uT (v:Value)(l:List (Int×Int))(w:World)(K:Row w v l):
  Calls prog 84 #[v] w fun e H=>e= .returned (.agg (mv (inl l)))/\ao w H:=by
 have N:=ea;have t:((w.alloc (.cells (mv fun _=>false) 39)).alloc (.cells (mv fun _=>false) 39)).heap[w.heap.size]? =ah (mv fun _=>false) 39:=by(repeat (first|refine dh _ _ _ (by simp only[aP];omega) ?_|exact dA _ _ _ (by first|rfl|simp only[aP])))
 have F:((w.alloc (.cells (mv fun _=>false) 39)).alloc (.cells (mv fun _=>false) 39)).heap[w.heap.size+1]? =ah (mv fun _=>false) 39:=by(repeat (first|refine dh _ _ _ (by simp only[aP];omega) ?_|exact dA _ _ _ (by first|rfl|simp only[aP])))
 have n:ao w ((w.alloc (.cells (mv fun _=>false) 39)).alloc (.cells (mv fun _=>false) 39)):=(am _ _).alloc (by simp) _;rcases K with⟨c,rfl,rfl⟩|⟨g,o,c,rfl,G,b⟩
 ·go_enter func84,ntmps84;go_wp2;refine wp_loop_rounds 1 ?_;rw[rounds_succ]
  go_wp2_with(first
   |(refine aO rfl 39 _ rfl _ rfl _ _ _ _ F cj rfl (bg _) ?_)
   |(refine aC rfl 39 _ _ rfl _ _ rfl rfl _ _ t (bg _) (by simp[bU]) (dI _) ?_))
  refine aX (v:= .agg (mv (inl []))) ?_ rfl ⟨rfl,below_setRow n (aA _) _⟩;exact bn rfl _ _ w.heap.size _ _ _ _ rfl (aK _ _ _ _ _ _ t) cj rfl (bg _)
 ·have I:T4 (∀j,j<l.length->w.cell? (ae g (o+j*2))=some (ag (l.getD j (0,0)).1)/\w.cell? (ae g (o+j*2+1))=some (ag (l.getD j (0,0)).2)):=b;clear b;go_enter func84,ntmps84;go_wp2;go_loopw [8] (fun i wr=> ∃k:Nat,k<=l.length/\i=ag k/\wr.heap[w.heap.size]? =ah (mv fun _=>false) 39/\wr.heap[w.heap.size+1]? =ah (mv (inl (l.take k))) 39/\ao w wr) (fun i _=>l.length-(intOf i).toNat);case atStart=>exact⟨0,dU _,rfl,t,iX F (jj fun i _=>by simp[inl]),n⟩
  case round=>
   obtain⟨k,M,rfl,r,q,a⟩:=hrel;by_cases p:k<l.length
   ·obtain⟨c1,C⟩:=I.o k p;have D:=aj a c1;have E:=aj a C;have d:=M4 l k p;generalize L:l.getD k (0,0)=s at D E d;obtain⟨x,y⟩:=s;dsimp only at D E d;have J:T4 ((mv fun i=>inl (l.take k) i||(decide (x<=(i:Int))&&decide ((i:Int)<y)&&decide (i<1440)))=mv (inl (l.take (k+1)))):=d;have f:=dh _ (.cells #[ag x,ag y] 171) _ (aH q) q;have B:=dh _ (.cells #[ag x,ag y] 171) _ (aH r) r;have u:=a.alloc a.size (.cells #[ag x,ag y] 171);clear c1 C d L;go_wp2_with(go_at_call 129;refine(M2 _ _ _ _ _ f).mono ?_;rintro e H ⟨rfl,A,m⟩)
    go_roundw;case rel=>exact⟨k+1,by omega,by go_num,(m.block _ (by omega)).trans B,iX A J.o,u.trans (m.mono (by omega))⟩
    case measure=>simp[intOf];omega
   ·have z:k=l.length:=(by omega);subst z;have f:=iX q (by rw[gI]);clear q
    go_wp2_with(first
     |(refine aO rfl 39 _ rfl _ rfl _ _ _ _ f cj rfl (bg _) ?_)
     |(refine aC rfl 39 _ _ rfl _ _ rfl rfl _ _ r (bg _) (by simp[bU]) (dI _) ?_))
    refine aX (v:= .agg (mv (inl l))) ?_ rfl ⟨rfl,below_setRow a (aA _) _⟩;exact bn rfl _ _ w.heap.size _ _ _ _ rfl (aK _ _ _ _ _ _ r) cj rfl (bg _)
namespace Vx
abbrev Way (E:Nat->Nat->Bool)(i k:Nat):Prop:=Relation.TransGen (fun a b=>E a b=true) i k
def wars (E:Nat->Nat->Bool):Nat->Nat->Nat->Bool
 |0,i,k=>E i k
 |m+1,i,k=>wars E m i k||(wars E m i m&&wars E m m k)
theorem se {E:Nat->Nat->Bool}{m i k:Nat}(h:wars E m i k=true): ∀d,wars E (m+d) i k=true
 |0=>h
 |d+1=>by
  show wars E ((m+d)+1) i k=true;simp only[wars,se h d,Bool.true_or]
theorem Dw {E:Nat->Nat->Bool}{m i j k:Nat}(o:j<m)(d:wars E m i j=true)(c:wars E m j k=true):wars E m i k=true:=by
 induction m generalizing i j k with
 |zero=>omega
 |succ m n=>
  by_cases l:j=m
  ·subst l;simp only[wars,iD,bx]at d c⊢
   have a:wars E j i j=true:=by
    rcases d with h|⟨h,_⟩<;>exact h
   have b:wars E j j k=true:=by
    rcases c with h|⟨_,h⟩<;>exact h
   exact .inr ⟨a,b⟩
  ·have f:j<m:=(by omega);simp only[wars,iD,bx]at d c⊢;rcases d with d|⟨d,g⟩
   ·rcases c with c|⟨c,e⟩
    ·exact .inl (n f d c)
    ·exact .inr ⟨n f d c,e⟩
   ·rcases c with c|⟨c,e⟩
    ·exact .inr ⟨d,n f g c⟩
    ·exact .inr ⟨d,e⟩
def rk (E:Nat->Nat->Bool)(n i:Nat):Nat:=Msk.cnt (fun k=>wars E n i k) n
theorem DE {f g:Nat->Bool}: ∀{n:Nat},(∀k,k<n->f k=true->g k=true)->Msk.cnt f n<=Msk.cnt g n
 |0,_=>aA _
 |n+1,h=>by
  have b:=DE (f:=f) (g:=g) (n:=n) (fun k a=>h k (by omega));simp only[Msk.cnt];have:=h n (by omega);cases hf:f n with
  |false=>cases g n<;>simp<;>omega
  |true=>rw[this hf];simp;omega
theorem DF {f g:Nat->Bool}: ∀{n s:Nat},s<n->(∀k,k<n->f k=true->g k=true)->f s=false->g s=true->Msk.cnt f n<Msk.cnt g n
 |0,_,d,_,_,_=>by omega
 |n+1,s,d,h,a,b=>by
  simp only[Msk.cnt];by_cases e:s=n
  ·subst e;have:=DE (f:=f) (g:=g) (n:=s) (fun k c=>h k (by omega));rw[a,b];simp;omega
  ·have i:=DF (f:=f) (g:=g) (n:=n) (s:=s) (by omega) (fun k c=>h k (by omega)) a b;have:=h n (by omega);cases hf:f n with
   |false=>cases g n<;>simp<;>omega
   |true=>rw[this hf];simp;omega
theorem Pd {E:Nat->Nat->Bool}{n i s:Nat}(b:s<n)(c:E i s=true)(d:wars E n s s=false):rk E n s<rk E n i:=by
 have a:wars E n i s=true:=by have:=se (E:=E) (m:=0) c n;simpa using this
 exact DF b (fun k _ e=>Dw b a e) d a
theorem SK (E:Nat->Nat->Bool)(n i:Nat):rk E n i<=n:=Msk.QK _ _
structure In where
 op:Int
 a:Int
 b:Int
 to:Int
 sp:List (Int×Int)
structure Cd where
 ins:List In
 high:Int
 steps:Int
def in0:In:=⟨0,0,0,0,[]⟩
def cd0:Cd:=⟨[],0,0⟩
def risL:List (Int×Int)->Int->Bool
 |[],_=>true
 |s::l,e=>if s.1<=e\/s.2<=s.1\/1440<s.2 then false else risL l s.2
theorem Kw {l:List (Int×Int)}{j:Nat}{s:Int×Int}{e:Int}(h:l[j]? =some s):risL (l.drop j) e=if s.1<=e\/s.2<=s.1\/1440<s.2 then false else risL (l.drop (j+1)) s.2:=by
 obtain⟨a,b⟩:=aE.1 h;rw[bG a,b];rfl
def fT (x:In)(k n rules:Nat):Int:=
 if x.op=2\/x.op=3\/x.op=4 then 0
 else if x.op=1 then(if risL x.sp (-1)=true then 0 else 2)
 else if x.op=5 then(if x.a≠0/\ -1439<=x.a/\x.a<=1439 then 0 else 3)
 else if x.op=6 then(if(k:Int)+2<=x.to/\x.to<=n then(if 1<=x.a/\x.a<=127 then 0 else 3) else 8)
 else if x.op=7 then(if(k:Int)+2<=x.to/\x.to<=n then(if 0<=x.a/\x.a<=x.b/\x.b<146097 then 0 else 3) else 8)
 else if x.op=8 then(if 0<=x.a/\x.a<rules then 0 else 6)
 else 1
def qt:List In->Nat->Nat->Nat->Int
 |[],_,_,_=>0
 |x::l,k,n,r=>if fT x k n r≠0 then fT x k n r else qt l (k+1) n r
theorem Kx {l:List In}{j n r:Nat}{x:In}(h:l[j]? =some x):qt (l.drop j) j n r=if fT x j n r≠0 then fT x j n r else qt (l.drop (j+1)) (j+1) n r:=by
 obtain⟨a,b⟩:=aE.1 h;rw[bG a,b];rfl
theorem Gk {n r:Nat}: ∀{l:List In} {k:Nat},qt l k n r=0-> ∀j x,l[j]? =some x->fT x (k+j) n r=0
 |[],_,_,j,x,a=>by simp at a
 |y::l,k,h,j,x,a=>by
  by_cases b:fT y k n r=0
  ·have c:qt l (k+1) n r=0:=(by simpa[qt,b] using h);cases j with
   |zero=>simp at a;subst a;simpa using b
   |succ j=>
    have:=Gk c j x (by simpa using a);rw[show k+(j+1)=k+1+j by omega];exact this
  ·exfalso;simp[qt,b]at h
def aloneE (c:Cd)(rules:Nat):Int:=
 if¬(1<=c.ins.length/\c.ins.length<=2000) then 5
 else if¬((1<=c.high/\c.high<=100)/\(1<=c.steps/\c.steps<=20000)) then 4
 else qt c.ins 0 c.ins.length rules
def gW (E:Nat->Int):Nat->Nat->Int×Nat
 |0,_=>(0,0)
 |m+1,i=>if E i≠0 then(E i,i) else gW E m (i+1)
theorem qe {E:Nat->Int}: ∀(m i:Nat),(gW E m i).1=0->gW E m i=(0,0)/\ ∀j,i<=j->j<i+m->E j=0
 |0,_,_=>⟨rfl,fun j b c=>by omega⟩
 |m+1,i,h=>by
  by_cases a:E i=0
  ·have d:gW E (m+1) i=gW E m (i+1):=(by simp[gW,a]);rw[d]at h⊢;obtain⟨b,c⟩:=qe m (i+1) h;refine⟨b,fun j f g=> ?_⟩;by_cases e:j=i
   ·rw[e];exact a
   ·exact c j (by omega) (by omega)
  ·exfalso;simp[gW,a]at h
def eff (x:In):Int:=if x.op=1\/x.op=8 then 1 else if x.op=2\/x.op=3\/x.op=4 then-1 else 0
def tk (x:In):Int:=if x.op=5 then 1 else if x.op=2\/x.op=3\/x.op=4 then 2 else 0
def isG (x:In):Prop:=x.op=6\/x.op=7
def hAt (l:List In):Nat->Int
 |0=>0
 |j+1=>hAt l j+eff (l.getD j in0)
def mxH (b:List Cd)(l:List In):Nat->Int
 |0=>0
 |j+1=>max (if(l.getD j in0).op=8 then max (mxH b l j) (hAt l j+(b.getD (l.getD j in0).a.toNat cd0).high) else mxH b l j) (hAt l (j+1))
def stS (b:List Cd)(l:List In):Nat->Int
 |0=>0
 |j+1=>stS b l j+1+(if(l.getD j in0).op=8 then(b.getD (l.getD j in0).a.toNat cd0).steps else 0)
theorem qV {l:List In}{j:Nat}{x:In}(h:l[j]? =some x):l.getD j in0=x:=by simp[List.getD,h]
theorem jN {l:List In}{j:Nat}{x:In}(h:l[j]? =some x):hAt l (j+1)=hAt l j+eff x:=by rw[hAt,qV h]
theorem k6 {cs:List Cd}{l:List In}{j:Nat}{x:In}(h:l[j]? =some x):mxH cs l (j+1)=max (if x.op=8 then max (mxH cs l j) (hAt l j+(cs.getD x.a.toNat cd0).high) else mxH cs l j) (hAt l (j+1)):=by rw[mxH,qV h]
theorem kh {cs:List Cd}{l:List In}{j:Nat}{x:In}(h:l[j]? =some x):stS cs l (j+1)=stS cs l j+1+(if x.op=8 then(cs.getD x.a.toNat cd0).steps else 0):=by rw[stS,qV h]
theorem Q2 (a:List Cd)(l:List In)(j:Nat):mxH a l j<=mxH a l (j+1):=by
 simp only[mxH];split<;>omega
theorem DG (a:List Cd)(l:List In){j k:Nat}(h:j<=k):mxH a l j<=mxH a l k:=by
 obtain⟨d,rfl⟩:=Nat.exists_eq_add_of_le h;clear h;induction d with
 |zero=>exact gy _
 |succ d b=>exact Int.le_trans b (Q2 a l (j+d))
theorem Ky (a:List Cd)(l:List In): ∀j,hAt l j<=mxH a l j
 |0=>gy _
 |j+1=>by
  simp only[mxH];omega
theorem Pe {a:List Cd}{l:List In}{j n:Nat}(h:j<=n):hAt l j<=mxH a l n:=Int.le_trans (Ky a l j) (DG a l h)
theorem M5 {cs:List Cd}{l:List In}{j n:Nat}{x:In}(b:l[j]? =some x)(h:j<n)(c:x.op=8):hAt l j+(cs.getD x.a.toNat cd0).high<=mxH cs l n:=by
 refine Int.le_trans ?_ (DG cs l (show j+1<=n by omega));rw[k6 b,ax c];omega
structure mI (l:List In):Prop where
 tk: ∀j x,l[j]? =some x->tk x<=hAt l j
 to: ∀j x,l[j]? =some x->isG x->hAt l x.to.toNat=hAt l j+1
 fin:hAt l l.length=1
structure Q5 (cs:List Cd)(c:Cd):Prop where
 well:mI c.ins
 high:mxH cs c.ins c.ins.length=c.high
 steps:stS cs c.ins c.ins.length=c.steps
def Ii (l:List In):Bool:=((List.range l.length).all fun j=>decide (tk (l.getD j in0)<=hAt l j)&&(!(decide ((l.getD j in0).op=6)||decide ((l.getD j in0).op=7))||decide (hAt l (l.getD j in0).to.toNat=hAt l j+1)))&&decide (hAt l l.length=1)
theorem Kz {l:List In}:Ii l=true↔mI l:=by
 unfold Ii;rw[bx,dl,bL];constructor
 ·rintro⟨g,i⟩;refine⟨fun j x a=> ?_,fun j x a b=> ?_,i⟩
  ·have c:=g j (ip.2 (aE.1 a).1);rw[qV a,bx,bL]at c;exact c.1
  ·have c:=g j (ip.2 (aE.1 a).1);rw[qV a,bx,iD]at c;rcases c.2 with d|d
   ·unfold isG at b;rcases b with e|e<;>simp[e]at d
   ·exact dM d
 ·intro h;refine⟨fun j n=> ?_,h.fin⟩;have f:=ip.1 n;have a:l[j]? =some l[j]:=az f;rw[qV a,bx,iD];refine⟨bc (h.tk j _ a),?_⟩;by_cases b:isG l[j]
  ·exact .inr (bc (h.to j _ a b))
  ·left;unfold isG at b;have k: ¬(l[j]).op=6:=fun e=>b (.inl e);have m: ¬(l[j]).op=7:=fun e=>b (.inr e);simp[k,m]
def pA (a:List Cd)(c:Cd):Bool:=Ii c.ins&&(decide (mxH a c.ins c.ins.length=c.high)&&decide (stS a c.ins c.ins.length=c.steps))
theorem nJ {a:List Cd}{c:Cd}:pA a c=true↔Q5 a c:=by
 unfold pA;rw[bx,bx,bL,bL,Kz];exact⟨fun h=>⟨h.1,h.2.1,h.2.2⟩,fun h=>⟨h.well,h.high,h.steps⟩⟩
def gK (b:List Cd)(i k:Nat):Bool:=(b.getD i cd0).ins.any fun x=>decide (x.op=8)&&decide (x.a=(k:Int))
def qJ (a:List Cd)(i:Nat):Int:=if wars (gK a) a.length i i=true then 9 else if pA a (a.getD i cd0)=true then 0 else 8
def jV (a:List Cd):Int×Nat:=
 if 40<a.length then(5,0)
 else if(gW (fun i=>aloneE (a.getD i cd0) a.length) a.length 0).1≠0 then gW (fun i=>aloneE (a.getD i cd0) a.length) a.length 0
 else gW (qJ a) a.length 0
structure nh (cs:List Cd):Prop where
 len:cs.length<=40
 alone: ∀(i:Nat) (c:Cd),cs[i]? =some c->aloneE c cs.length=0
 cyc: ∀i,i<cs.length->wars (gK cs) cs.length i i=false
 fit: ∀(i:Nat) (c:Cd),cs[i]? =some c->Q5 cs c
theorem jh {a:List Cd}{i:Nat}{c:Cd}(h:a[i]? =some c):a.getD i cd0=c:=by simp[List.getD,h]
theorem Fj {d:List Cd}(h:(jV d).1=0):nh d:=by
 unfold jV at h;by_cases g:40<d.length
 ·rw[ax g]at h;simp at h
 ·rw[aw g]at h;by_cases e:(gW (fun i=>aloneE (d.getD i cd0) d.length) d.length 0).1≠0
  ·rw[ax e]at h;exact absurd h e
  ·rw[aw e]at h;have a:=(qe _ _ (Decidable.not_not.1 e)).2;have b:=(qe _ _ h).2;refine⟨by omega,fun i c hi=> ?_,fun i hi=> ?_,fun i c hi=> ?_⟩
   ·have:=a i (by omega) (by have:=(aE.1 hi).1;omega);rw[jh hi]at this;exact this
   ·have:=b i (by omega) (by omega);unfold qJ at this;cases f:wars (gK d) d.length i i with
    |false=>rfl
    |true=>rw[ax f]at this;simp at this
   ·have:=b i (by omega) (by have:=(aE.1 hi).1;omega);unfold qJ at this;rw[jh hi]at this;by_cases f:wars (gK d) d.length i i=true
    ·rw[ax f]at this;simp at this
    ·rw[aw f]at this;by_cases j:pA d c=true
     ·exact nJ.1 j
     ·rw[aw j]at this;simp at this
theorem jB {c:Cd}{r:Nat}(h:aloneE c r=0):(1<=c.ins.length/\c.ins.length<=2000)/\((1<=c.high/\c.high<=100)/\(1<=c.steps/\c.steps<=20000))/\ ∀j x,c.ins[j]? =some x->fT x j c.ins.length r=0:=by
 unfold aloneE at h;by_cases a:1<=c.ins.length/\c.ins.length<=2000
 ·rw[aw (fun e=>e a)]at h;by_cases b:(1<=c.high/\c.high<=100)/\(1<=c.steps/\c.steps<=20000)
  ·rw[aw (fun e=>e b)]at h;refine⟨a,b,fun j x d=> ?_⟩;have:=Gk h j x d;simpa using this
  ·rw[ax b]at h;simp at h
 ·rw[ax a]at h;simp at h
theorem xN {x:In}{k n r:Nat}(h:fT x k n r=0)(c:x.op=8):0<=x.a/\x.a<r:=by
 simp only[fT,c]at h;simp only[show¬((8:Int)=2\/(8:Int)=3\/(8:Int)=4) by omega,show¬(8:Int)=1 by omega,show¬(8:Int)=5 by omega,show¬(8:Int)=6 by omega,show¬(8:Int)=7 by omega,if_false,if_true]at h;by_cases b:0<=x.a/\x.a<r
 ·exact b
 ·rw[aw b]at h;simp at h
theorem tb {x:In}{k n r:Nat}(h:fT x k n r=0)(b:isG x):(k:Int)+2<=x.to/\x.to<=n:=by
 rcases b with b|b
 ·simp only[fT,b]at h;simp only[show¬((6:Int)=2\/(6:Int)=3\/(6:Int)=4) by omega,show¬(6:Int)=1 by omega,show¬(6:Int)=5 by omega,if_false,if_true]at h;by_cases a:(k:Int)+2<=x.to/\x.to<=n
  ·exact a
  ·rw[aw a]at h;simp at h
 ·simp only[fT,b]at h;simp only[show¬((7:Int)=2\/(7:Int)=3\/(7:Int)=4) by omega,show¬(7:Int)=1 by omega,show¬(7:Int)=5 by omega,show¬(7:Int)=6 by omega,if_false,if_true]at h;by_cases a:(k:Int)+2<=x.to/\x.to<=n
  ·exact a
  ·rw[aw a]at h;simp at h
def lk:List (Int×Int)->Int->Option Int
 |[],_=>none
 |e::L,k=>if k=e.1 then some e.2 else lk L k
def upL:List (Int×Int)->Int->Int->List (Int×Int)
 |[],k,v=>[(k,v)]
 |e::L,k,v=>if k=e.1 then(k,v)::L else e::upL L k v
theorem CQ: ∀(L:List (Int×Int)) (k v q:Int),lk (upL L k v) q=if q=k then some v else lk L q
 |[],k,v,q=>by simp[upL,lk]
 |e::L,k,v,q=>by
  unfold upL;by_cases h:k=e.1
  ·rw[ax h];simp only[lk];by_cases a:q=k
   ·rw[ax a,ax a]
   ·rw[aw a,aw a,aw (fun b=>a (b.trans h.symm))]
  ·rw[aw h];simp only[lk];rw[CQ L k v q];by_cases a:q=e.1
   ·rw[ax a,aw (fun b=>h (b.symm.trans a)),ax a]
   ·rw[aw a,aw a]
structure mx (l:List In)(k:Nat)(L:List (Int×Int)):Prop where
 set: ∀(j:Nat) (x:In),j<k->l[j]? =some x->isG x->lk L x.to=some (hAt l j+1)
 got: ∀p v,lk L p=some v-> ∃(j:Nat) (x:In),j<k/\l[j]? =some x/\isG x/\x.to=p/\v=hAt l j+1
 tk: ∀(j:Nat) (x:In),j<k->l[j]? =some x->tk x<=hAt l j
 met: ∀p:Nat,p<k-> ∀v,lk L (p:Int)=some v->v=hAt l p
def Tos (l:List In):Prop:= ∀(j:Nat) (x:In),l[j]? =some x->isG x->(j:Int)+2<=x.to/\x.to<=l.length
theorem mx.nil (l:List In):mx l 0 []:=⟨fun j x h=>by omega,fun p v h=>by simp[lk]at h,fun j x h=>by omega,fun p h=>by omega⟩
theorem mx.step {l:List In}{k:Nat}{L:List (Int×Int)}{x:In}(h:mx l k L)(i:Tos l)(f:l[k]? =some x)(q:Vx.tk x<=hAt l k)(o: ∀v,lk L (k:Int)=some v->v=hAt l k)(m: ¬isG x):mx l (k+1) L:=by
 have _:=i;refine⟨fun j y n a b=> ?_,fun p v c=> ?_,fun j y n a=> ?_,fun p c v d=> ?_⟩
 ·by_cases e:j=k
  ·subst e;rw[f]at a;cases a;exact absurd b m
  ·exact h.set j y (by omega) a b
 ·obtain⟨j,y,r,g⟩:=h.got p v c;exact⟨j,y,by omega,g⟩
 ·by_cases e:j=k
  ·subst e;rw[f]at a;cases a;exact q
  ·exact h.tk j y (by omega) a
 ·by_cases e:p=k
  ·subst e;exact o v d
  ·exact h.met p (by omega) v d
theorem mx.stepG {l:List In}{k:Nat}{L:List (Int×Int)}{x:In}(h:mx l k L)(n:Tos l)(c:l[k]? =some x)(r:Vx.tk x<=hAt l k)(q: ∀v,lk L (k:Int)=some v->v=hAt l k)(i:isG x)(ha: ∀v,lk L x.to=some v->v=hAt l k+1):mx l (k+1) (upL L x.to (hAt l k+1)):=by
 have t:=n k x c i;refine⟨fun j y o a f=> ?_,fun p v b=> ?_,fun j y o a=> ?_,fun p b v g=> ?_⟩
 ·rw[CQ];by_cases e:j=k
  ·subst e;rw[c]at a;cases a;rw[ax rfl]
  ·have:=h.set j y (by omega) a f;by_cases d:y.to=x.to
   ·rw[ax d];rw[d]at this;rw[ha _ this]
   ·rw[aw d];exact this
 ·rw[CQ]at b;by_cases e:p=x.to
  ·rw[ax e]at b;exact⟨k,x,by omega,c,i,e.symm,(ay b).symm⟩
  ·rw[aw e]at b;obtain⟨j,y,s,m⟩:=h.got p v b;exact⟨j,y,by omega,m⟩
 ·by_cases e:j=k
  ·subst e;rw[c]at a;cases a;exact r
  ·exact h.tk j y (by omega) a
 ·rw[CQ,aw (by omega)]at g;by_cases e:p=k
  ·subst e;exact q v g
  ·exact h.met p (by omega) v g
theorem Q6 {l:List In}{k:Nat}{x:In}(b:l[k]? =some x)(h:hAt l k<tk x): ¬mI l:=fun a=>by
 have:=a.tk k x b;omega
theorem mx.not_met {l:List In}{k:Nat}{L:List (Int×Int)}(h:mx l k L){p:Nat}{v:Int}(c:lk L (p:Int)=some v)(e:v≠hAt l p): ¬mI l:=fun f=>by
 obtain⟨j,x,_,b,a,d,rfl⟩:=h.got _ _ c;have:=f.to j x b a;rw[d]at this;simp at this;exact e this.symm
theorem mx.not_two {l:List In}{k:Nat}{L:List (Int×Int)}{x:In}(h:mx l k L)(n:l[k]? =some x)(e:isG x){v:Int}(g:lk L x.to=some v)(m:v≠hAt l k+1): ¬mI l:=fun c=>by
 obtain⟨j,y,_,f,a,i,rfl⟩:=h.got _ _ g;have b:=c.to j y f a;have d:=c.to k x n e;rw[i]at b;exact m (b.symm.trans d)
theorem mx.fin {l:List In}{L:List (Int×Int)}(h:mx l l.length L)(m:Tos l):(hAt l l.length=1/\ ∀v,lk L (l.length:Int)=some v->v=hAt l l.length)↔mI l:=by
 constructor
 ·rintro⟨i,k⟩;refine⟨fun j x a=>h.tk j x (aE.1 a).1 a,fun j x a d=> ?_,i⟩;have t:=m j x a d;have b:=h.set j x (aE.1 a).1 a d;have e:x.to=(x.to.toNat:Int):=(by omega);rw[e]at b;by_cases n:x.to.toNat<l.length
  ·exact(h.met _ n _ b).symm
  ·have g:x.to.toNat=l.length:=(by omega);rw[g]at b⊢;exact(k _ b).symm
 ·intro f;refine⟨f.fin,fun v o=> ?_⟩;exact Classical.byContradiction fun c=>h.not_met o c f
section
abbrev M:=Nat->Bool
def spM (l:List (Int×Int)):M:=fun i=>l.any fun s=>decide (s.1<=(i:Int))&&decide ((i:Int)<s.2)&&decide (i<1440)
def unM (f g:M):M:=fun i=>(f i||g i)&&decide (i<1440)
def dfM (f g:M):M:=fun i=>(f i&& !g i)&&decide (i<1440)
def boM (f g:M):M:=fun i=>(f i&&g i)&&decide (i<1440)
def shM (f:M)(x:Int):M:=fun t=>decide (t<1440)&&(decide (x<=(t:Int))&&(decide ((t:Int)-x<1440)&&f ((t:Int)-x).toNat))
def noM:M:=fun _=>false
def AW (F:M->M)(S:List M):List M:=match S.reverse with
 |g::T=>T.reverse++[F g]
 |[]=>[]
def oD (F:M->M->M)(S:List M):List M:=match S.reverse with
 |g::f::T=>T.reverse++[F f g]
 |_=>[]
theorem AX (F:M->M)(T:List M)(g:M):AW F (T++[g])=T++[F g]:=by simp[AW]
theorem mJ (F:M->M->M)(T:List M)(f g:M):oD F (T++[f,g])=T++[F f g]:=by simp[oD]
theorem zj {S:List M}(h:1<=S.length): ∃T g,S=T++[g]:=by
 rcases List.eq_nil_or_concat S with rfl|⟨T,g,rfl⟩
 ·simp at h
 ·exact⟨T,g,by simp⟩
theorem v6 {S:List M}(h:2<=S.length): ∃T f g,S=T++[f,g]:=by
 obtain⟨T,g,rfl⟩:=zj (S:=S) (by omega);obtain⟨U,f,rfl⟩:=zj (S:=T) (by simp at h;omega);exact⟨U,f,g,by simp⟩
structure St where
 k:Nat
 S:List M
 n:Nat
section
variable (wk:Int->Bool) (day:Int)
def onD (x:In):Bool:=if x.op=6 then wk x.a else decide (x.a<=day)&&decide (day<=x.b)
def dC (ev:Nat->M×Nat)(x:In)(s:St):St:=
 if x.op=1 then⟨s.k+1,s.S++[spM x.sp],s.n+1⟩
 else if x.op=2 then⟨s.k+1,oD unM s.S,s.n+1⟩
 else if x.op=3 then⟨s.k+1,oD dfM s.S,s.n+1⟩
 else if x.op=4 then⟨s.k+1,oD boM s.S,s.n+1⟩
 else if x.op=5 then⟨s.k+1,AW (fun f=>shM f x.a) s.S,s.n+1⟩
 else if x.op=8 then⟨s.k+1,s.S++[(ev x.a.toNat).1],s.n+1+(ev x.a.toNat).2⟩
 else if onD wk day x=true then⟨s.k+1,s.S,s.n+1⟩
 else⟨x.to.toNat,s.S++[noM],s.n+1⟩
def goV (ev:Nat->M×Nat)(l:List In):Nat->St->St
 |0,s=>s
 |f+1,s=>match l[s.k]? with
  |none=>s
  |some x=>goV ev l f (dC wk day ev x s)
def runV (ev:Nat->M×Nat)(l:List In)(s:St):St:=goV wk day ev l (l.length-s.k) s
def evV (cs:List Cd):Nat->Nat->M×Nat
 |0,_=>(noM,0)
 |d+1,r=>((runV wk day (evV cs d) (cs.getD r cd0).ins ⟨0,[],0⟩).S.getD 0 noM,(runV wk day (evV cs d) (cs.getD r cd0).ins ⟨0,[],0⟩).n)
end
structure oF (cs:List Cd)(l:List In)(s:St):Prop where
 le:s.k<=l.length
 hi:(s.S.length:Int)=hAt l s.k
 st:(s.n:Int)<=stS cs l s.k
 on:s.k=0\/1<=s.n
variable {wk:Int->Bool} {day:Int} {ev:Nat->M×Nat} {cs:List Cd} {l:List In}
theorem oF.nil:oF cs l ⟨0,[],0⟩:=⟨dU _,by simp[hAt],by simp[stS],.inl rfl⟩
theorem xO (b: ∀i,0<=(cs.getD i cd0).steps){j k:Nat}(h:j<=k):stS cs l j<=stS cs l k:=by
 obtain⟨d,rfl⟩:=Nat.exists_eq_add_of_le h;clear h;induction d with
 |zero=>exact gy _
 |succ d c=>
  refine Int.le_trans c ?_;show stS cs l (j+d)<=stS cs l ((j+d)+1);simp only[stS];have:=b (l.getD (j+d) in0).a.toNat;split<;>omega
theorem uU {x:In}{k n r:Nat}(h:fT x k n r=0):x.op=1\/x.op=2\/x.op=3\/x.op=4\/x.op=5\/x.op=8\/isG x:=by
 unfold fT at h;unfold isG;split at h
 ·omega
 split at h
 ·omega
 split at h
 ·omega
 split at h
 ·omega
 split at h
 ·omega
 split at h
 ·omega
 ·simp at h
theorem oF.step {s:St}{x:In}{r:Nat}(v:oF cs l s)(w:mI l)(m:l[s.k]? =some x)(hi:fT x s.k l.length r=0)(y: ∀i,0<=(cs.getD i cd0).steps)
  (q:x.op=8->((ev x.a.toNat).2:Int)<=(cs.getD x.a.toNat cd0).steps):oF cs l (dC wk day ev x s)/\s.k<(dC wk day ev x s).k:=by
 have F:=(aE.1 m).1;have A:=w.tk _ _ m;have c:=kh (cs:=cs) m;have z:=jN m;have j:=v.hi;have C:=v.st;rcases uU hi with b|b|b|b|b|b|b
 ·have e:dC wk day ev x s=⟨s.k+1,s.S++[spM x.sp],s.n+1⟩:=by simp[dC,b]
  rw[e];have:eff x=1:=(by simp[eff,b]);rw[aw (by omega)]at c;refine⟨⟨by dsimp only;omega,?_,?_,.inr (by dsimp only;omega)⟩,by dsimp only;omega⟩
  ·dsimp only;rw[aN];simp;omega
  ·dsimp only;omega
 ·have e:dC wk day ev x s=⟨s.k+1,oD unM s.S,s.n+1⟩:=by simp[dC,b]
  rw[e];have o:eff x= -1:=(by simp[eff,b]);have p:tk x=2:=(by simp[tk,b]);obtain⟨T,f,g,d⟩:=v6 (S:=s.S) (by omega);rw[aw (by omega)]at c;rw[d]at j;simp at j;refine⟨⟨by dsimp only;omega,?_,?_,.inr (by dsimp only;omega)⟩,by dsimp only;omega⟩
  ·dsimp only;rw[d,mJ];simp;omega
  ·dsimp only;omega
 ·have e:dC wk day ev x s=⟨s.k+1,oD dfM s.S,s.n+1⟩:=by simp[dC,b]
  rw[e];have o:eff x= -1:=(by simp[eff,b]);have p:tk x=2:=(by simp[tk,b]);obtain⟨T,f,g,d⟩:=v6 (S:=s.S) (by omega);rw[aw (by omega)]at c;rw[d]at j;simp at j;refine⟨⟨by dsimp only;omega,?_,?_,.inr (by dsimp only;omega)⟩,by dsimp only;omega⟩
  ·dsimp only;rw[d,mJ];simp;omega
  ·dsimp only;omega
 ·have e:dC wk day ev x s=⟨s.k+1,oD boM s.S,s.n+1⟩:=by simp[dC,b]
  rw[e];have o:eff x= -1:=(by simp[eff,b]);have p:tk x=2:=(by simp[tk,b]);obtain⟨T,f,g,d⟩:=v6 (S:=s.S) (by omega);rw[aw (by omega)]at c;rw[d]at j;simp at j;refine⟨⟨by dsimp only;omega,?_,?_,.inr (by dsimp only;omega)⟩,by dsimp only;omega⟩
  ·dsimp only;rw[d,mJ];simp;omega
  ·dsimp only;omega
 ·have e:dC wk day ev x s=⟨s.k+1,AW (fun f=>shM f x.a) s.S,s.n+1⟩:=by simp[dC,b]
  rw[e];have o:eff x=0:=(by simp[eff,b]);have p:tk x=1:=(by simp[tk,b]);obtain⟨T,g,d⟩:=zj (S:=s.S) (by omega);rw[aw (by omega)]at c;rw[d]at j;simp at j;refine⟨⟨by dsimp only;omega,?_,?_,.inr (by dsimp only;omega)⟩,by dsimp only;omega⟩
  ·dsimp only;rw[d,AX];simp;omega
  ·dsimp only;omega
 ·have e:dC wk day ev x s=⟨s.k+1,s.S++[(ev x.a.toNat).1],s.n+1+(ev x.a.toNat).2⟩:=by simp[dC,b]
  rw[e];have o:eff x=1:=(by simp[eff,b]);have D:=q b;rw[ax b]at c;refine⟨⟨by dsimp only;omega,?_,?_,.inr (by dsimp only;omega)⟩,by dsimp only;omega⟩
  ·dsimp only;rw[aN];simp;omega
  ·dsimp only;omega
 ·have B:=tb hi b;have hgt:=w.to _ _ m b;have t: ¬x.op=8:=(by unfold isG at b;omega);rw[aw t]at c
  have E:eff x=0:=by
   unfold eff;unfold isG at b;rw[aw (by omega),aw (by omega)]
  by_cases u:onD wk day x=true
  ·have e:dC wk day ev x s=⟨s.k+1,s.S,s.n+1⟩:=by
    unfold isG at b;unfold dC;rw[aw (by omega),aw (by omega),aw (by omega),aw (by omega),aw (by omega),aw (by omega),ax u]
   rw[e];refine⟨⟨by dsimp only;omega,?_,?_,.inr (by dsimp only;omega)⟩,by dsimp only;omega⟩
   ·dsimp only;omega
   ·dsimp only;omega
  ·have e:dC wk day ev x s=⟨x.to.toNat,s.S++[noM],s.n+1⟩:=by
    unfold isG at b;unfold dC;rw[aw (by omega),aw (by omega),aw (by omega),aw (by omega),aw (by omega),aw (by omega),aw u]
   rw[e];have:=xO (l:=l) y (show s.k+1<=x.to.toNat by omega);refine⟨⟨by dsimp only;omega,?_,?_,.inr (by dsimp only;omega)⟩,by dsimp only;omega⟩
   ·dsimp only;rw[aN];simp;omega
   ·dsimp only;omega
theorem xP {s:St}(h:s.k=l.length):runV wk day ev l s=s:=by
 unfold runV;rw[show l.length-s.k=0 by omega];rfl
def Up (wk:Int->Bool)(day:Int)(ev:Nat->M×Nat)(l:List In):Prop:= ∀s x,l[s.k]? =some x->s.k<(dC wk day ev x s).k
theorem xQ (a:Up wk day ev l): ∀(f:Nat) (s:St),l.length-s.k<=f->goV wk day ev l f s=goV wk day ev l (l.length-s.k) s
 |0,s,h=>by rw[show l.length-s.k=0 by omega]
 |f+1,s,h=>by
  cases hx:l[s.k]? with
  |none=>
   have:l.length<=s.k:=List.getElem?_eq_none_iff.1 hx;rw[show l.length-s.k=0 by omega];simp[goV,hx]
  |some x=>
   have d:=(aE.1 hx).1;obtain⟨m,b⟩: ∃m,l.length-s.k=m+1:=⟨l.length-s.k-1,by omega⟩
   have c:=a s x hx;rw[b];simp only[goV,hx];rw[xQ a f _ (by omega),xQ a m _ (by omega)]
theorem my (b:Up wk day ev l){s:St}{x:In}(a:l[s.k]? =some x):runV wk day ev l s=runV wk day ev l (dC wk day ev x s):=by
 have e:=(aE.1 a).1;obtain⟨m,c⟩: ∃m,l.length-s.k=m+1:=⟨l.length-s.k-1,by omega⟩
 have d:=b s x a;unfold runV;rw[c];simp only[goV,a];rw[xQ b m _ (by omega)]
theorem Ij {r:Nat}(hi: ∀(j:Nat) (x:In),l[j]? =some x->fT x j l.length r=0):Up wk day ev l:=fun s x b=>by
 rcases uU (hi _ _ b) with a|a|a|a|a|a|a
 ·simp[dC,a]
 ·simp[dC,a]
 ·simp[dC,a]
 ·simp[dC,a]
 ·simp[dC,a]
 ·simp[dC,a]
 ·have c:=tb (hi _ _ b) a;unfold isG at a;unfold dC;rw[aw (by omega),aw (by omega),aw (by omega),aw (by omega),aw (by omega),aw (by omega)];split
  ·dsimp only;omega
  ·dsimp only;omega
theorem oF.run {r:Nat}(g:mI l)(hi: ∀(j:Nat) (x:In),l[j]? =some x->fT x j l.length r=0)(d: ∀i,0<=(cs.getD i cd0).steps)
  (b: ∀(j:Nat) (x:In),l[j]? =some x->x.op=8->((ev x.a.toNat).2:Int)<=(cs.getD x.a.toNat cd0).steps): ∀(f:Nat) (s:St),l.length-s.k<=f->oF cs l s->oF cs l (runV wk day ev l s)/\(runV wk day ev l s).k=l.length
 |f,s,o,c=>by
  have n:Up wk day ev l:=Ij hi;cases hx:l[s.k]? with
  |none=>
   have e:l.length<=s.k:=List.getElem?_eq_none_iff.1 hx;have m:=c.le;rw[xP (by omega)];exact⟨c,by omega⟩
  |some x=>
   have p:=(aE.1 hx).1;obtain⟨e,m⟩:=c.step (wk:=wk) (day:=day) (ev:=ev) g hx (hi _ _ hx) d (b _ _ hx);rw[my n hx];cases f with
   |zero=>omega
   |succ f=>exact oF.run g hi d b f _ (by omega) e
theorem nh.steps0 (h:nh cs)(i:Nat):0<=(cs.getD i cd0).steps:=by
 cases hi:cs[i]? with
 |none=>simp[List.getD,hi,cd0]
 |some c=>
  rw[jh hi];have:=(jB (h.alone i c hi)).2.1;omega
theorem nh.call (h:nh cs){i:Nat}{c:Cd}(d:cs[i]? =some c){j:Nat}{x:In}(f:c.ins[j]? =some x)(e:x.op=8):x.a.toNat<cs.length/\(x.a.toNat:Int)=x.a/\rk (gK cs) cs.length x.a.toNat<rk (gK cs) cs.length i:=by
 have g:=xN ((jB (h.alone i c d)).2.2 j x f) e;have b:x.a.toNat<cs.length:=by omega
 refine⟨b,by omega,Pd b ?_ (h.cyc _ b)⟩;unfold gK;rw[jh d,List.any_eq_true];exact⟨x,aL f,by simp[e];omega⟩
theorem nh.run (h:nh cs): ∀(d i:Nat) (c:Cd),cs[i]? =some c->rk (gK cs) cs.length i<d->
  1<=(evV wk day cs d i).2/\((evV wk day cs d i).2:Int)<=c.steps/\oF cs c.ins (runV wk day (evV wk day cs (d-1)) c.ins ⟨0,[],0⟩)/\(runV wk day (evV wk day cs (d-1)) c.ins ⟨0,[],0⟩).k=c.ins.length/\(runV wk day (evV wk day cs (d-1)) c.ins ⟨0,[],0⟩).S=[(evV wk day cs d i).1]/\(runV wk day (evV wk day cs (d-1)) c.ins ⟨0,[],0⟩).n=(evV wk day cs d i).2
 |0,_,_,_,v=>by omega
 |d+1,i,c,l,v=>by
  have ha:=jB (h.alone i c l);have o:=h.fit i c l
  have e:=oF.run (wk:=wk) (day:=day) (ev:=evV wk day cs d) (cs:=cs) o.well ha.2.2 h.steps0 (fun j x y w=>by
   obtain⟨b,_,s⟩:=h.call l y w;have p:cs[x.a.toNat]? =some cs[x.a.toNat]:=az b;rw[jh p];exact(h.run d _ _ p (by omega)).2.1) c.ins.length ⟨0,[],0⟩ (by simp) oF.nil
  rw[Nat.add_sub_cancel]
  have r:evV wk day cs (d+1) i=((runV wk day (evV wk day cs d) c.ins ⟨0,[],0⟩).S.getD 0 noM,(runV wk day (evV wk day cs d) c.ins ⟨0,[],0⟩).n):=by
   rw[evV,jh l]
  rw[r];dsimp only;generalize runV wk day (evV wk day cs d) c.ins ⟨0,[],0⟩=R at*;obtain⟨f,q⟩:=e;have b:=f.hi;have m:=f.st;rw[q]at b m;rw[o.well.fin]at b;rw[o.steps]at m;have s:=f.on;refine⟨by omega,m,f,q,?_,rfl⟩;obtain⟨T,g,t⟩:=zj (S:=R.S) (by omega);rw[t]at b⊢
  have u:T=[]:=by
   apply fX;simp at b;omega
  subst u;simp
end
end Vx
theorem aZ {p:Prop}(h:p):T4 p:=h
theorem rG (n m:Int)(w:World):Calls prog 29 #[ag n,ag m] w fun e c=>e= .returned (.bool (decide (0<=n/\n<m)))/\c=w:=by
 by_cases a:0<=n
 ·by_cases b:n<m
  ·rw[bc (⟨a,b⟩:0<=n/\n<m)];go_enter func29,ntmps29;go_wp2;go_ret;exact⟨rfl,rfl⟩
  ·rw[bo (fun e:0<=n/\n<m=>b e.2)];go_enter func29,ntmps29;go_wp2;go_ret;exact⟨rfl,rfl⟩
 ·rw[bo (fun e:0<=n/\n<m=>a e.1)];go_enter func29,ntmps29;go_wp2;go_ret;exact⟨rfl,rfl⟩
theorem lO (n lo hi:Int)(w:World):Calls prog 100 #[ag n,ag lo,ag hi] w fun e c=>e= .returned (.bool (decide (lo<=n/\n<=hi)))/\c=w:=by
 by_cases a:lo<=n
 ·by_cases b:n<=hi
  ·rw[bc (⟨a,b⟩:lo<=n/\n<=hi)];go_enter func100,ntmps100;go_wp2;go_ret;exact⟨rfl,rfl⟩
  ·rw[bo (fun e:lo<=n/\n<=hi=>b e.2)];go_enter func100,ntmps100;go_wp2;go_ret;exact⟨rfl,rfl⟩
 ·rw[bo (fun e:lo<=n/\n<=hi=>a e.1)];go_enter func100,ntmps100;go_wp2;go_ret;exact⟨rfl,rfl⟩
theorem mK (b:Bool)(e:Int)(w:World):Calls prog 144 #[.bool b,ag e] w fun r a=>r= .returned (ag (if b=true then 0 else e))/\a=w:=by
 cases b
 ·go_enter func144,ntmps144;go_wp2;go_ret;exact⟨rfl,rfl⟩
 ·go_enter func144,ntmps144;go_wp2;go_ret;exact⟨rfl,rfl⟩
def oG (w:World)(v:Value)(l:List (Int×Int)):Prop:=(l=[]/\ ∃p c,v= .slice p 0 c)\/Row w v l
theorem oG.later {w w':World}{v:Value}{l:List (Int×Int)}(h:oG w v l)(a:ao w w'):oG w' v l:=by
 rcases h with h|h
 ·exact .inl h
 ·exact .inr (h.later a)
theorem oG.form {w:World}{v:Value}{l:List (Int×Int)}(h:oG w v l): ∃p c,v= .slice p l.length c/\l.length<9223372036854775808/\ ∀(j:Nat) (s:Int×Int),l[j]? =some s-> ∃g o:Nat,p=some ⟨g,o,none⟩/\w.cell? (ae g (o+j*2))=some (ag s.1)/\w.cell? (ae g (o+j*2+1))=some (ag s.2):=by
 rcases h with⟨rfl,p,c,rfl⟩|⟨c,rfl,rfl⟩|⟨g,o,c,rfl,f,d⟩
 ·exact⟨p,c,rfl,by decide,fun j s a=>by simp at a⟩
 ·exact⟨none,c,rfl,by decide,fun j s a=>by simp at a⟩
 ·refine⟨_,c,rfl,f,fun j s a=>⟨g,o,rfl,?_⟩⟩;have b:=(aE.1 a).1;have:=d j b;have e:l.getD j (0,0)=s:=(by simp[List.getD,a]);rw[e]at this;exact this
theorem Q7 (p:Option Addr)(c:Nat)(w:World):
  Calls prog 84 #[.slice p 0 c] w fun e f=>e= .returned (.agg (mv (inl [])))/\ao w f:=by
 have g:=ea;have b:((w.alloc (.cells (mv fun _=>false) 39)).alloc (.cells (mv fun _=>false) 39)).heap[w.heap.size]? =ah (mv fun _=>false) 39:=by(repeat (first|refine dh _ _ _ (by simp only[aP];omega) ?_|exact dA _ _ _ (by first|rfl|simp only[aP])))
 have d:((w.alloc (.cells (mv fun _=>false) 39)).alloc (.cells (mv fun _=>false) 39)).heap[w.heap.size+1]? =ah (mv fun _=>false) 39:=by(repeat (first|refine dh _ _ _ (by simp only[aP];omega) ?_|exact dA _ _ _ (by first|rfl|simp only[aP])))
 have a:ao w ((w.alloc (.cells (mv fun _=>false) 39)).alloc (.cells (mv fun _=>false) 39)):=(am _ _).alloc (by simp) _
 ·go_enter func84,ntmps84;go_wp2;refine wp_loop_rounds 1 ?_;rw[rounds_succ]
  go_wp2_with(first
   |(refine aO rfl 39 _ rfl _ rfl _ _ _ _ d cj rfl (bg _) ?_)
   |(refine aC rfl 39 _ _ rfl _ _ rfl rfl _ _ b (bg _) (by simp[bU]) (dI _) ?_))
  refine aX (v:= .agg (mv (inl []))) ?_ rfl ⟨rfl,below_setRow a (aA _) _⟩;exact bn rfl _ _ w.heap.size _ _ _ _ rfl (aK _ _ _ _ _ _ b) cj rfl (bg _)
theorem Gl (v:Value)(l:List (Int×Int))(w:World)(a:oG w v l):
  Calls prog 84 #[v] w fun e b=>e= .returned (.agg (mv (inl l)))/\ao w b:=by
 rcases a with⟨rfl,p,c,rfl⟩|a
 ·exact Q7 p c w
 ·exact uT v l w a
theorem Ik (l:List (Int×Int))(v:Value)(w:World)(h:oG w v l):Calls prog 145 #[v] w fun r E=>r= .returned (.bool (risL l (-1)))/\ao w E:=by
 obtain⟨p,c,rfl,z,u⟩:=h.form;have i:=aZ u;clear u h;go_enter func145,ntmps145;go_wp2_with fail;go_loopw [3,8] (fun x t wr=> ∃(j:Nat) (e:Int),x=ag e/\t=ag (j:Int)/\j<=l.length/\risL l (-1)=risL (l.drop j) e/\ao w wr) (fun _ t _=>l.length-(intOf t).toNat);case atStart=>exact⟨0,-1,rfl,rfl,by omega,rfl,aF _ _⟩
 case round=>
  obtain⟨j,e,rfl,rfl,H,a,k⟩:=hrel;have D:(0:Int)<=(j:Int):=(by omega);by_cases n:j<l.length
  ·have m:(j:Int)<(l.length:Int):=(by omega);obtain⟨s,b⟩: ∃p,l[j]? =some p:=⟨l[j],az n⟩
   rw[Kw b]at a;obtain⟨g,o,q,c0,c1⟩:=i.o j _ b;subst q;obtain⟨x,y⟩:=s;dsimp only at c0 c1 a;have F:=aj k c0;have G:=aj k c1;have f:=k.alloc k.size (.cells #[ag x,ag y] 171);by_cases A:x<=e
   ·rw[ax (.inl A)]at a;have d:=aZ a;clear a b i c0 c1;go_wp2_with fail;go_ret;exact⟨by(rw[d.o])<;>rfl,f⟩
   ·by_cases B:y<=x
    ·rw[ax (.inr (.inl B))]at a;have d:=aZ a;clear a b i c0 c1;go_wp2_with fail;go_ret;exact⟨by(rw[d.o])<;>rfl,f⟩
    ·by_cases C:1440<y
     ·rw[ax (.inr (.inr C))]at a;have d:=aZ a;clear a b i c0 c1;go_wp2_with fail;go_ret;exact⟨by(rw[d.o])<;>rfl,f⟩
     ·rw[aw (by omega)]at a;have d:=aZ a;clear a b c0 c1;go_wp2_with fail;go_roundw;case rel=>exact⟨j+1,y,rfl,by go_num,by omega,d.o,f⟩
      case measure=>simp[intOf];omega
  ·have m: ¬(j:Int)<(l.length:Int):=(by omega)
   have d:T4 (risL l (-1)=true):=by
    show _=_;rw[a,dn (by omega)];rfl
   clear a i;go_wp2_with fail;go_ret;exact⟨by(rw[d.o])<;>rfl,k⟩
theorem tf:prog.underlying 140=some (.struct (prog.fieldsOf 140)):=by kernel_rfl
def nmD (op a b:Int):Bool:=if op=6 then decide (1<=a/\a<=127) else decide (0<=a/\a<=b/\b<146097)
theorem ux (op a b t:Int)(sv:Value)(w:World):Calls prog 146 #[.agg #[ag op,ag a,ag b,ag t,sv]] w fun r k=>r= .returned (.bool (nmD op a b))/\ao w k:=by
 have c:=am w (.cells #[ag op,ag a,ag b,ag t,sv] 140);have d:=aB w (.cells #[ag op,ag a,ag b,ag t,sv] 140);generalize m:w.alloc (.cells #[ag op,ag a,ag b,ag t,sv] 140)=n at*;have o:=ak 0 d;have p:=ak 1 d;have s:=ak 2 d;have u:=ak 3 d;have v:=ak 4 d;by_cases f:op=6
 ·have e:nmD op a b=decide (1<=a/\a<=127):=ax f;rw[e];subst f;have c1:=lO a 1 127 n;generalize decide (1<=a/\a<=127)=q at*;go_enter func146,ntmps146;go_wp2_with fail;refine c1.mono ?_;rintro r k ⟨rfl,rfl⟩;go_wp2_with fail;go_ret;exact⟨rfl,c⟩
 ·have e:nmD op a b=decide (0<=a/\a<=b/\b<146097):=aw f;have l:(op==6)=false:=bl.2 f;rw[e];by_cases g:0<=a
  ·by_cases i:a<=b
   ·by_cases j:b<146097
    ·rw[bc (⟨g,i,j⟩:0<=a/\a<=b/\b<146097)];go_enter func146,ntmps146;go_wp2_with fail;go_ret;exact⟨rfl,c⟩
    ·rw[bo (fun e:0<=a/\a<=b/\b<146097=>j e.2.2)];go_enter func146,ntmps146;go_wp2_with fail;go_ret;exact⟨rfl,c⟩
   ·rw[bo (fun e:0<=a/\a<=b/\b<146097=>i e.2.1)];go_enter func146,ntmps146;go_wp2_with fail;go_ret;exact⟨rfl,c⟩
  ·rw[bo (fun e:0<=a/\a<=b/\b<146097=>g e.1)];go_enter func146,ntmps146;go_wp2_with fail;go_ret;exact⟨rfl,c⟩
theorem Pf (a b t:Int)(sv:Value)(k n r:Nat)(w:World):Calls prog 101 #[.agg #[ag 2,ag a,ag b,ag t,sv],ag (k:Int),ag (n:Int),ag (r:Int)] w fun e g=>e= .returned (ag 0)/\ao w g:=by
 have d:=am w (.cells #[ag 2,ag a,ag b,ag t,sv] 140);have c:=aB w (.cells #[ag 2,ag a,ag b,ag t,sv] 140);generalize f:w.alloc (.cells #[ag 2,ag a,ag b,ag t,sv] 140)=i at*;have j:=ak 0 c;have l:=ak 1 c;have m:=ak 2 c;have o:=ak 3 c;have p:=ak 4 c;go_enter func101,ntmps101;go_wp2_with fail;go_ret;exact⟨rfl,d⟩
theorem Pg (a b t:Int)(sv:Value)(k n r:Nat)(w:World):Calls prog 101 #[.agg #[ag 3,ag a,ag b,ag t,sv],ag (k:Int),ag (n:Int),ag (r:Int)] w fun e g=>e= .returned (ag 0)/\ao w g:=by
 have d:=am w (.cells #[ag 3,ag a,ag b,ag t,sv] 140);have c:=aB w (.cells #[ag 3,ag a,ag b,ag t,sv] 140);generalize f:w.alloc (.cells #[ag 3,ag a,ag b,ag t,sv] 140)=i at*;have j:=ak 0 c;have l:=ak 1 c;have m:=ak 2 c;have o:=ak 3 c;have p:=ak 4 c;go_enter func101,ntmps101;go_wp2_with fail;go_ret;exact⟨rfl,d⟩
theorem Ph (a b t:Int)(sv:Value)(k n r:Nat)(w:World):Calls prog 101 #[.agg #[ag 4,ag a,ag b,ag t,sv],ag (k:Int),ag (n:Int),ag (r:Int)] w fun e g=>e= .returned (ag 0)/\ao w g:=by
 have d:=am w (.cells #[ag 4,ag a,ag b,ag t,sv] 140);have c:=aB w (.cells #[ag 4,ag a,ag b,ag t,sv] 140);generalize f:w.alloc (.cells #[ag 4,ag a,ag b,ag t,sv] 140)=i at*;have j:=ak 0 c;have l:=ak 1 c;have m:=ak 2 c;have o:=ak 3 c;have p:=ak 4 c;go_enter func101,ntmps101;go_wp2_with fail;go_ret;exact⟨rfl,d⟩
theorem Pi (a b t:Int)(sv:Value)(k n r:Nat)(w:World)(sp:List (Int×Int))(h:oG w sv sp):Calls prog 101 #[.agg #[ag 1,ag a,ag b,ag t,sv],ag (k:Int),ag (n:Int),ag (r:Int)] w fun e m=>e= .returned (ag (if risL sp (-1)=true then 0 else 2))/\ao w m:=by
 have d:=am w (.cells #[ag 1,ag a,ag b,ag t,sv] 140);have c:=aB w (.cells #[ag 1,ag a,ag b,ag t,sv] 140);generalize l:w.alloc (.cells #[ag 1,ag a,ag b,ag t,sv] 140)=p at*;have v:=ak 0 c;have x:=ak 1 c;have y:=ak 2 c;have z:=ak 3 c;have A:=ak 4 c;have c1:=Ik sp sv p (h.later d);have i:=fun W=>mK (risL sp (-1)) 2 W;generalize (if risL sp (-1)=true then(0:Int) else 2)=u at*;generalize risL sp (-1)=q at*;go_enter func101,ntmps101;go_wp2_with fail;refine c1.mono ?_;rintro e o ⟨rfl,f⟩;have g:=au d f;have j:=i o;go_wp2_with fail;refine j.mono ?_;rintro e s ⟨rfl,rfl⟩;go_wp2_with fail;go_ret;exact⟨rfl,g⟩
theorem Pj (a b t:Int)(sv:Value)(k n r:Nat)(w:World):Calls prog 101 #[.agg #[ag 5,ag a,ag b,ag t,sv],ag (k:Int),ag (n:Int),ag (r:Int)] w fun e p=>e= .returned (ag (if a≠0/\ -1439<=a/\a<=1439 then 0 else 3))/\ao w p:=by
 have d:=am w (.cells #[ag 5,ag a,ag b,ag t,sv] 140);have c:=aB w (.cells #[ag 5,ag a,ag b,ag t,sv] 140);generalize m:w.alloc (.cells #[ag 5,ag a,ag b,ag t,sv] 140)=g at*;have x:=ak 0 c;have y:=ak 1 c;have z:=ak 2 c;have A:=ak 3 c;have B:=ak 4 c;by_cases ha:a=0
 ·subst ha;have f:=mK false 3 g;rw[aw (fun e=>e.1 rfl)];go_enter func101,ntmps101;go_wp2_with fail;refine f.mono ?_;rintro e s ⟨rfl,rfl⟩;go_wp2_with fail;go_ret;exact⟨rfl,d⟩
 ·have j:(a==0)=false:=bl.2 ha;have c1:=lO a (-1439) 1439 g;have f:=mK (decide (-1439<=a/\a<=1439)) 3 g
  have i:T4 ((if a≠0/\ -1439<=a/\a<=1439 then(0:Int) else 3)=if decide (-1439<=a/\a<=1439)=true then 0 else 3):=by
   show _=_;by_cases h: -1439<=a/\a<=1439
   ·rw[ax ⟨ha,h⟩,ax (bc h)]
   ·rw[aw (fun e=>h e.2),aw (by simpa using h)]
  rw[i.o];generalize (if decide (-1439<=a/\a<=1439)=true then(0:Int) else 3)=u at*;generalize decide (-1439<=a/\a<=1439)=q at*;have l:(a !=0)=true:=(by simpa using ha);go_enter func101,ntmps101;go_wp2_with fail;refine c1.mono ?_;rintro e v ⟨rfl,rfl⟩;go_wp2_with fail;refine f.mono ?_;rintro e s ⟨rfl,rfl⟩;go_wp2_with fail;go_ret;exact⟨rfl,d⟩
theorem Pk (a b t:Int)(sv:Value)(k n r:Nat)(w:World)(y:k<=2000):Calls prog 101 #[.agg #[ag 6,ag a,ag b,ag t,sv],ag (k:Int),ag (n:Int),ag (r:Int)] w fun e x=>e= .returned (ag (if(k:Int)+2<=t/\t<=n then(if nmD 6 a b=true then 0 else 3) else 8))/\ao w x:=by
 have d:=am w (.cells #[ag 6,ag a,ag b,ag t,sv] 140);have c:=aB w (.cells #[ag 6,ag a,ag b,ag t,sv] 140);generalize v:w.alloc (.cells #[ag 6,ag a,ag b,ag t,sv] 140)=j at*;have A:=ak 0 c;have B:=ak 1 c;have C:=ak 2 c;have D:=ak 3 c;have E:=ak 4 c;have p:(0:Int)<=(k:Int):=by omega
 have s:(k:Int)<=2000:=by omega
 have c1:=lO t ((k:Int)+2) (n:Int) j;have l:=ux 6 a b t sv j;have m:=fun W=>mK (nmD 6 a b) 3 W;by_cases h:(k:Int)+2<=t/\t<=n
 ·rw[ax h];rw[bc h]at c1;generalize (if nmD 6 a b=true then(0:Int) else 3)=u at*;generalize nmD 6 a b=q at*;go_enter func101,ntmps101;go_wp2_with fail;refine c1.mono ?_;rintro e i ⟨rfl,rfl⟩;go_wp2_with(refine aO rfl 140 _ rfl _ rfl _ _ _ _ c tf rfl (by kernel_rfl) ?_)
  refine l.mono ?_;rintro e i ⟨rfl,f⟩;have g:=au d f;have o:=m i;go_wp2_with fail;refine o.mono ?_;rintro e z ⟨rfl,rfl⟩;go_wp2_with fail;go_ret;exact⟨rfl,g⟩
 ·rw[aw h];rw[bo h]at c1;go_enter func101,ntmps101;go_wp2_with fail;refine c1.mono ?_;rintro e i ⟨rfl,rfl⟩;go_wp2_with fail;go_ret;exact⟨rfl,d⟩
theorem Pl (a b t:Int)(sv:Value)(k n r:Nat)(w:World)(y:k<=2000):Calls prog 101 #[.agg #[ag 7,ag a,ag b,ag t,sv],ag (k:Int),ag (n:Int),ag (r:Int)] w fun e x=>e= .returned (ag (if(k:Int)+2<=t/\t<=n then(if nmD 7 a b=true then 0 else 3) else 8))/\ao w x:=by
 have d:=am w (.cells #[ag 7,ag a,ag b,ag t,sv] 140);have c:=aB w (.cells #[ag 7,ag a,ag b,ag t,sv] 140);generalize v:w.alloc (.cells #[ag 7,ag a,ag b,ag t,sv] 140)=j at*;have A:=ak 0 c;have B:=ak 1 c;have C:=ak 2 c;have D:=ak 3 c;have E:=ak 4 c;have p:(0:Int)<=(k:Int):=by omega
 have s:(k:Int)<=2000:=by omega
 have c1:=lO t ((k:Int)+2) (n:Int) j;have l:=ux 7 a b t sv j;have m:=fun W=>mK (nmD 7 a b) 3 W;by_cases h:(k:Int)+2<=t/\t<=n
 ·rw[ax h];rw[bc h]at c1;generalize (if nmD 7 a b=true then(0:Int) else 3)=u at*;generalize nmD 7 a b=q at*;go_enter func101,ntmps101;go_wp2_with fail;refine c1.mono ?_;rintro e i ⟨rfl,rfl⟩;go_wp2_with(refine aO rfl 140 _ rfl _ rfl _ _ _ _ c tf rfl (by kernel_rfl) ?_)
  refine l.mono ?_;rintro e i ⟨rfl,f⟩;have g:=au d f;have o:=m i;go_wp2_with fail;refine o.mono ?_;rintro e z ⟨rfl,rfl⟩;go_wp2_with fail;go_ret;exact⟨rfl,g⟩
 ·rw[aw h];rw[bo h]at c1;go_enter func101,ntmps101;go_wp2_with fail;refine c1.mono ?_;rintro e i ⟨rfl,rfl⟩;go_wp2_with fail;go_ret;exact⟨rfl,d⟩
theorem Pm (a b t:Int)(sv:Value)(k n r:Nat)(w:World):Calls prog 101 #[.agg #[ag 8,ag a,ag b,ag t,sv],ag (k:Int),ag (n:Int),ag (r:Int)] w fun e l=>e= .returned (ag (if 0<=a/\a<r then 0 else 6))/\ao w l:=by
 have d:=am w (.cells #[ag 8,ag a,ag b,ag t,sv] 140);have c:=aB w (.cells #[ag 8,ag a,ag b,ag t,sv] 140);generalize j:w.alloc (.cells #[ag 8,ag a,ag b,ag t,sv] 140)=f at*;have s:=ak 0 c;have v:=ak 1 c;have x:=ak 2 c;have y:=ak 3 c;have z:=ak 4 c;have c1:=rG a (r:Int) f;have i:=mK (decide (0<=a/\a<(r:Int))) 6 f
 have g:T4 ((if 0<=a/\a<(r:Int) then(0:Int) else 6)=if decide (0<=a/\a<(r:Int))=true then 0 else 6):=by
  show _=_;by_cases h:0<=a/\a<(r:Int)
  ·rw[ax h,ax (bc h)]
  ·rw[aw h,aw (by simpa using h)]
 rw[g.o];generalize (if decide (0<=a/\a<(r:Int))=true then(0:Int) else 6)=u at*;generalize decide (0<=a/\a<(r:Int))=q at*;go_enter func101,ntmps101;go_wp2_with fail;refine c1.mono ?_;rintro e m ⟨rfl,rfl⟩;go_wp2_with fail;refine i.mono ?_;rintro e p ⟨rfl,rfl⟩;go_wp2_with fail;go_ret;exact⟨rfl,d⟩
theorem Pn (op:Int)(a b t:Int)(sv:Value)(k n r:Nat)(w:World)(i:(op==1)=false)(j:(op==2)=false)(l:(op==3)=false)(m:(op==4)=false)(o:(op==5)=false)(p:(op==6)=false)(q:(op==7)=false)(s:(op==8)=false):Calls prog 101 #[.agg #[ag op,ag a,ag b,ag t,sv],ag (k:Int),ag (n:Int),ag (r:Int)] w fun e g=>e= .returned (ag 1)/\ao w g:=by
 have d:=am w (.cells #[ag op,ag a,ag b,ag t,sv] 140);have c:=aB w (.cells #[ag op,ag a,ag b,ag t,sv] 140);generalize f:w.alloc (.cells #[ag op,ag a,ag b,ag t,sv] 140)=u at*;have v:=ak 0 c;have x:=ak 1 c;have y:=ak 2 c;have z:=ak 3 c;have A:=ak 4 c;go_enter func101,ntmps101;go_wp2_with fail;go_ret;exact⟨rfl,d⟩
theorem KA (x:In)(sv:Value)(k n r:Nat)(w:World)(h:oG w sv x.sp)(p:k<=2000):Calls prog 101 #[.agg #[ag x.op,ag x.a,ag x.b,ag x.to,sv],ag (k:Int),ag (n:Int),ag (r:Int)] w fun e q=>e= .returned (ag (fT x k n r))/\ao w q:=by
 obtain⟨op,a,b,t,sp⟩:=x;dsimp only at h⊢;unfold fT;dsimp only;by_cases l:op=2
 ·subst l;exact Pf a b t sv k n r w
 by_cases m:op=3
 ·subst m;exact Pg a b t sv k n r w
 by_cases o:op=4
 ·subst o;exact Ph a b t sv k n r w
 rw[aw (by omega)];by_cases d:op=1
 ·subst d;exact Pi a b t sv k n r w sp h
 rw[aw d];by_cases f:op=5
 ·subst f;exact Pj a b t sv k n r w
 rw[aw f];by_cases g:op=6
 ·subst g;have c:=Pk a b t sv k n r w p;have e:nmD 6 a b=decide (1<=a/\a<=127):=ax rfl;rw[e]at c;rw[ax rfl];simpa only[bL] using c
 rw[aw g];by_cases i:op=7
 ·subst i;have c:=Pl a b t sv k n r w p;have e:nmD 7 a b=decide (0<=a/\a<=b/\b<146097):=aw (by decide);rw[e]at c;rw[ax rfl];simpa only[bL] using c
 rw[aw i];by_cases j:op=8
 ·subst j;exact Pm a b t sv k n r w
 rw[aw j];exact Pn op a b t sv k n r w (bl.2 d) (bl.2 l) (bl.2 m) (bl.2 o) (bl.2 f) (bl.2 g) (bl.2 i) (bl.2 j)
end Go.Proofs.YtpdoienkhgnceaaGreatDoor
