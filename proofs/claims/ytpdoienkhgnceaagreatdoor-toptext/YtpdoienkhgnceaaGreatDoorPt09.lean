/- Texts of the proof. -/
import Derived.Lib.SlicesCompact
import Derived.Test.YtpdoienkhgnceaaGreatDoorPt04
import Derived.Test.YtpdoienkhgnceaaGreatDoorPt07
set_option maxRecDepth 100000
set_option maxHeartbeats 8000000
namespace Go.Proofs.YtpdoienkhgnceaaGreatDoor
open Go.Proofs.Tryz Go.RowKit Lx Vx Mx Msk
namespace Msk
def rs (f:Nat->Bool):Nat->List (Int×Int)
 |0=>[]
 |n+1=>if f n then(if n≠0/\f (n-1)=true then(rs f n).dropLast++[(((rs f n).getLastD (0,0)).1,(n:Int)+1)] else rs f n++[((n:Int),(n:Int)+1)]) else rs f n
theorem A0 (f:Nat->Bool)(n:Nat): ∀k,(∀i,n<=i->i<n+k->f i=false)->rs f (n+k)=rs f n
 |0,_=>rfl
 |k+1,h=>by
  have c:=A0 f n k fun i a b=>h i a (by omega);have e:f (n+k)=false:=h _ (by omega) (by omega);rw[<-Nat.add_assoc,rs,c,e];simp
theorem DU (f:Nat->Bool)(a:Nat)(b:a=0\/f (a-1)=false): ∀k,(∀i,a<=i->i<a+(k+1)->f i=true)->rs f (a+(k+1))=rs f a++[((a:Int),((a+(k+1):Nat):Int))]
 |0,h=>by
  have e:f a=true:=h a (by omega) (by omega);rw[bN,rs,e]
  have: ¬(a≠0/\f (a-1)=true):=by
   rintro⟨g,c⟩;rcases b with b|b
   ·exact g b
   ·rw[b]at c;cases c
  rw[ax rfl,aw this];simp
 |k+1,h=>by
  have j:=DU f a b k fun i x y=>h i x (by omega);have e:f (a+(k+1))=true:=h _ (by omega) (by omega);have d:f (a+(k+1)-1)=true:=h _ (by omega) (by omega);rw[<-Nat.add_assoc a (k+1) 1,rs,j,e,ax rfl,ax ⟨by omega,d⟩];simp
theorem PD (f:Nat->Bool)(p a b:Nat)(m:p<=a)(n:a<b)(e:p=0\/f p=false)(d: ∀i,p<=i->i<a->f i=false)(c: ∀i,a<=i->i<b->f i=true):
  rs f b=rs f p++[((a:Int),(b:Int))]:=by
 have j:rs f a=rs f p:=by
  have:=A0 f p (a-p) fun i x y=>d i x (by omega);rw[Nat.add_sub_cancel' m]at this;exact this
 have l:a=0\/f (a-1)=false:=by
  by_cases ha:a=0
  ·exact .inl ha
  ·right;by_cases g:p=a
   ·subst g;rcases e with e|e
    ·exact absurd e ha
    ·have:=c p (by omega) n;rw[e]at this;cases this
   ·exact d _ (by omega) (by omega)
 obtain⟨k,rfl⟩: ∃k,b=a+(k+1):=⟨b-a-1,by omega⟩
 rw[DU f a l k c,j]
theorem Ro (f:Nat->Bool)(p n:Nat)(h:p<=n)(a: ∀i,p<=i->i<n->f i=false):rs f n=rs f p:=by
 have:=A0 f p (n-p) fun i x y=>a i x (by omega);rw[Nat.add_sub_cancel' h]at this;exact this
def good (last:Int)(n:Int):List (Int×Int)->Prop
 |[]=>True
 |s::l=>last<s.1/\s.1<s.2/\s.2<=n/\good s.2 n l
def si (last:Int):List (Int×Int)->Int
 |[]=>last
 |s::l=>si s.2 l
theorem BL (n a b:Int)(d:b<=n)(c:a<b): ∀(l:List (Int×Int)) (last:Int),good last n l->si last l<a->good last n (l++[(a,b)])
 |[],_,_,h=>⟨h,c,d,trivial⟩
 |s::l,_,⟨e,f,g,i⟩,h=>⟨e,f,g,BL n a b d c l s.2 i h⟩
theorem zy (a b:Int): ∀(l:List (Int×Int)) (last:Int),si last (l++[(a,b)])=b
 |[],_=>rfl
 |_::l,_=>zy a b l _
theorem vf (n m:Int)(h:n<=m): ∀(l:List (Int×Int)) (last:Int),good last n l->good last m l
 |[],_,_=>trivial
 |_::l,_,⟨a,b,c,d⟩=>⟨a,b,Int.le_trans c h,vf n m h l _ d⟩
def len:List (Int×Int)->Int
 |[]=>0
 |s::l=>(s.2-s.1)+len l
theorem DV (a b:Int): ∀l:List (Int×Int),len (l++[(a,b)])=len l+(b-a)
 |[]=>by simp[len]
 |s::l=>by have:=DV a b l;simp only[List.cons_append,len,this];omega
structure mc (f:Nat->Bool)(n:Nat)(l:List (Int×Int)):Prop where
 good:good (-1) n l
 last:si (-1) l<=n
 many:len l=Msk.cnt f n
 has: ∀i,i<n->(l.any fun s=>decide (s.1<=(i:Int))&&decide ((i:Int)<s.2))=f i
 few:l.length<=n
theorem mc.zero (f:Nat->Bool):mc f 0 []:=⟨trivial,by simp[si],by simp[len,Msk.cnt],fun i hi=>by omega,by simp⟩
theorem mc.skip {f:Nat->Bool}{n:Nat}{l:List (Int×Int)}(h:mc f n l)(m:Nat)(u:n<=m)(a: ∀i,n<=i->i<m->f i=false):mc f m l:=by
 refine⟨vf _ _ (by omega) _ _ h.good,by have:=h.last;omega,?_,?_,by have:=h.few;omega⟩
 ·have e:m=n+(m-n):=by omega
  rw[h.many,e,AK,JE (f:=fun j=>f (n+j)) fun j t=>a _ (by omega) (by omega)];rfl
 ·intro i hi;by_cases b:i<n
  ·exact h.has i b
  ·rw[a i (by omega) hi];have g:=h.good
   have c: ∀(l:List (Int×Int)) (last:Int),Msk.good last n l->(l.any fun s=>decide (s.1<=(i:Int))&&decide ((i:Int)<s.2))=false:=by
    intro l;induction l with
    |nil=>intro _ _;rfl
    |cons s l o=>
     intro last k;obtain⟨p,q,r,d⟩:=k;have: ¬(i:Int)<s.2:=(by omega);simp[o _ d,this]
   exact c l _ g
theorem mc.run {f:Nat->Bool}{a:Nat}{l:List (Int×Int)}(h:mc f a l)(ha:si (-1) l<a)(b:Nat)(m:a<b)(c: ∀i,a<=i->i<b->f i=true):mc f b (l++[((a:Int),(b:Int))]):=by
 refine⟨BL _ _ _ (by omega) (by omega) _ _ (vf _ _ (by omega) _ _ h.good) ha,by rw[zy];omega,?_,?_,?_⟩
 ·have e:b=a+(b-a):=by omega
  have q:cnt f b=cnt f a+(b-a):=by
   rw[e,AK,Mj (f:=fun j=>f (a+j)) fun j n=>c _ (by omega) (by omega)];omega
  rw[DV,h.many,q];omega
 ·intro i hi;rw[List.any_append];by_cases d:i<a
  ·rw[h.has i d];have: ¬(a:Int)<=(i:Int):=(by omega);simp[this]
  ·have g:(a:Int)<=(i:Int):=(by omega);have k:(i:Int)<(b:Int):=(by omega);rw[c i (by omega) hi];simp[g,k]
 ·have:=h.few;simp only[aN,bK,fN];omega
structure tW (f:Nat->Bool)(p:Nat)(l:List (Int×Int)):Prop where
 runs:mc f p l
 same:l=rs f p
 gap:(p=0/\l=[])\/f p=false\/p=1440
theorem tW.zero (f:Nat->Bool):tW f 0 []:=⟨mc.zero f,rfl,.inl ⟨rfl,rfl⟩⟩
theorem tW.next {f:Nat->Bool}{p:Nat}{l:List (Int×Int)}(h:tW f p l)(a b:Nat)(m:p<=a)(j:a<b)(o:b<=1440)(d: ∀i,p<=i->i<a->f i=false)
  (c: ∀i,a<=i->i<b->f i=true) (n:b<1440->f b=false):tW f b (l++[((a:Int),(b:Int))]):=by
 have k:p=0\/f p=false:=by
  rcases h.gap with⟨g,_⟩|g|g
  ·exact .inl g
  ·exact .inr g
  ·omega
 refine⟨(h.runs.skip a m d).run ?_ b j c,by rw[h.same,PD f p a b m j k d c],?_⟩
 ·have q:=h.runs.last;rcases h.gap with⟨_,g⟩|g|g
  ·subst g;simp[si];omega
  ·have:a≠p:=fun e=>by
    have:=c a (aA _) j;rw[e,g]at this;cases this
   omega
  ·omega
 ·by_cases h:b=1440
  ·exact .inr (.inr h)
  ·exact .inr (.inl (n (by omega)))
theorem tW.all {f:Nat->Bool}{p:Nat}{l:List (Int×Int)}(h:tW f p l)(b:p<=1440)(a: ∀i,p<=i->i<1440->f i=false):l=rs f 1440/\mc f 1440 l:=
 ⟨by rw[h.same,Ro f p 1440 b a],h.runs.skip 1440 b a⟩
end Msk
namespace Mx
structure Sv where
 len:Int
 bef:Int
 aft:Int
 roles:List (List Int)
def jE (l b a:Int):Bool:=decide (1<=l/\l<=1440/\0<=b/\b<=1440/\0<=a/\a<=1440/\b+l+a<=1440)
def lP (p:List Int)(n:Int):Nat->Nat->Int
 |0,_=>0
 |m+1,i=>if p.getD i 0<0\/n<=p.getD i 0 then 6 else if 0<i/\p.getD i 0<=p.getD (i-1) 0 then 2 else lP p n m (i+1)
def ia (p:List Int)(n:Int):Int:=if p.length<1\/8<p.length then 5 else lP p n p.length 0
def jC (n:Int):List (List Int)->Int
 |[]=>0
 |p::l=>if ia p n≠0 then ia p n else jC n l
theorem Fo {l:List (List Int)}{j:Nat}{p:List Int}(n:Int)(h:l[j]? =some p):jC n (l.drop j)=if ia p n≠0 then ia p n else jC n (l.drop (j+1)):=by
 obtain⟨a,b⟩:=aE.1 h;rw[bG a,b];rfl
def ff (s:Sv)(n:Int):Int:=if jE s.len s.bef s.aft=false then 3 else if s.roles.length<1\/4<s.roles.length then 5 else jC n s.roles
def kR (s:Sv):Int:=s.bef+s.len+s.aft
def gX (ok:Int->Bool)(roles:List (List Int)):List (List Int):=roles.map fun p=>p.filter ok
def js (a:List (List Int)):Nat->List Int->Option (List Int)
 |0,t=>some t
 |k+1,t=>(a.getD t.length []).findSome? fun r=>if r∈t then none else js a k (t++[r])
def vh (W:Int)(f:Nat->Bool):List Int:=((Msk.rs f 1440).filter fun s=>decide (W<=s.2-s.1)).map fun s=>s.1
def zC (W:Int)(a:List (Nat->Bool))(p:List Int):List Int:=p.flatMap fun r=>vh W (a.getD r.toNat fun _=>false)
def pE (W:Int)(a:List (Nat->Bool))(roles:List (List Int)):List Int:=roles.flatMap (zC W a)
def g6 (W:Int)(a:List (Nat->Bool))(roles:List (List Int)):List Int:=Go.Lib.compact ((pE W a roles).mergeSort fun x y=>decide (x<=y))
end Mx
def fZ (w:World)(v:Value)(a:List (List Int)):Prop:= ∃p c,v= .slice p a.length c/\a.length<9223372036854775808/\ ∀(j:Nat) (l:List Int),a[j]? =some l-> ∃(g o:Nat) (sv:Value),p=some ⟨g,o,none⟩/\w.cell? (ae g (o+j))=some sv/\fk w sv l
theorem fZ.below {w d:World}{v:Value}{b:List (List Int)}(h:fZ w v b)(a:ao w d):fZ d v b:=by
 obtain⟨p,c,f,i,k⟩:=h;refine⟨p,c,f,i,fun j l n=> ?_⟩;obtain⟨g,o,sv,e,m,q⟩:=k j l n;exact⟨g,o,sv,e,aj a m,q.below a⟩
def svV (s:Sv)(a:Value):Value:= .agg #[ag s.len,ag s.bef,ag s.aft,a]
theorem vj (l b a:Int)(c:Value)(w:World)(h:jE l b a=true\/(1<=l/\l<=1440/\0<=b/\b<=1440/\0<=a/\a<=1440)):
  Calls prog 213 #[.agg #[ag l,ag b,ag a,c]] w fun e f=>e= .returned (ag (b+l+a))/\ao w f:=by
 have j:1<=l/\l<=1440/\0<=b/\b<=1440/\0<=a/\a<=1440:=by
  rcases h with h|h
  ·unfold jE at h;rw[bL]at h;omega
  ·exact h
 have g:IntKind.i64.wrap (b+l)=b+l:=by rw[bQ];omega
 have i:IntKind.i64.wrap (b+l+a)=b+l+a:=by rw[bQ];omega
 have d:=am w (.cells #[ag l,ag b,ag a,c] 53);go_enter func213,ntmps213
 go_wp2_with fail;go_ret;exact⟨rfl,d⟩
theorem Nl (l b a:Int)(f:Value)(w:World):Calls prog 192 #[.agg #[ag l,ag b,ag a,f]] w fun e t=>e= .returned (.bool (jE l b a))/\ao w t:=by
 have r:=am w (.cells #[ag l,ag b,ag a,f] 53);have g:=aB w (.cells #[ag l,ag b,ag a,f] 53);generalize s:w.alloc (.cells #[ag l,ag b,ag a,f] 53)=u at*;have x:=ak 0 g;have y:=ak 1 g;have z:=ak 2 g;have A:=ak 3 g;have d:=bO r
 have neg: ¬(1<=l/\l<=1440/\0<=b/\b<=1440/\0<=a/\a<=1440/\b+l+a<=1440)->T4 (jE l b a=false):=fun h=>by
  show _=_;unfold jE;exact bo h
 by_cases i:1<=l
 case neg=>
  have c:=neg (by omega);go_enter func192,ntmps192
  go_wp2_with fail;go_ret;exact⟨by(rw[c.o])<;>rfl,d.o⟩
 by_cases j:l<=1440
 case neg=>
  have c:=neg (by omega);go_enter func192,ntmps192
  go_wp2_with fail;go_ret;exact⟨by(rw[c.o])<;>rfl,d.o⟩
 by_cases k:0<=b
 case neg=>
  have c:=neg (by omega);go_enter func192,ntmps192
  go_wp2_with fail;go_ret;exact⟨by(rw[c.o])<;>rfl,d.o⟩
 by_cases m:b<=1440
 case neg=>
  have c:=neg (by omega);go_enter func192,ntmps192
  go_wp2_with fail;go_ret;exact⟨by(rw[c.o])<;>rfl,d.o⟩
 by_cases n:0<=a
 case neg=>
  have c:=neg (by omega);go_enter func192,ntmps192
  go_wp2_with fail;go_ret;exact⟨by(rw[c.o])<;>rfl,d.o⟩
 by_cases p:a<=1440
 case neg=>
  have c:=neg (by omega);go_enter func192,ntmps192
  go_wp2_with fail;go_ret;exact⟨by(rw[c.o])<;>rfl,d.o⟩
 have c1:=vj l b a f u (.inr ⟨i,j,k,m,n,p⟩)
 have q:T4 (jE l b a=decide (b+l+a<=1440)):=by
  show _=_;unfold jE;simp[i,j,k,m,n,p]
 go_enter func192,ntmps192
 go_wp2_with fail;refine c1.mono ?_;rintro e v ⟨rfl,b1⟩;go_wp2_with fail;go_ret;exact⟨by(rw[q.o])<;>rfl,au d.o b1⟩
theorem IA (p:List Int)(n:Int)(i:Nat)(hi:i<p.length):lP p n (p.length-i) i=if p.getD i 0<0\/n<=p.getD i 0 then 6 else if 0<i/\p.getD i 0<=p.getD (i-1) 0 then 2 else lP p n (p.length-(i+1)) (i+1):=by
 rw[show p.length-i=(p.length-(i+1))+1 by omega];rfl
theorem BM {l:List Int}{j:Nat}{x:Int}(h:l[j]? =some x):l.getD j 0=x:=by simp[List.getD,h]
theorem Nm (p:List Int)(v:Value)(n:Int)(w:World)(h:fk w v p):Calls prog 193 #[v,ag n] w fun e M=>e= .returned (ag (ia p n))/\M=w:=by
 obtain⟨ad,c,rfl,E,D⟩:=h;have l:=bO D;clear D;by_cases O:(p.length:Int)<1
 ·have y:T4 (ia p n=5):=by
   show _=_;unfold ia;rw[ax (by omega)]
  clear l;go_enter func193,ntmps193
  go_wp2_with fail;go_ret;exact⟨by(rw[y.o])<;>rfl,rfl⟩
 by_cases P:8<(p.length:Int)
 ·have y:T4 (ia p n=5):=by
   show _=_;unfold ia;rw[ax (by omega)]
  clear l;go_enter func193,ntmps193
  go_wp2_with fail;go_ret;exact⟨by(rw[y.o])<;>rfl,rfl⟩
 have m:T4 (ia p n=lP p n p.length 0):=by
  show _=_;unfold ia;rw[aw (by omega)]
 go_enter func193,ntmps193
 go_wp2_with fail;go_loopw [5,6,17] (fun _ _ t wr=> ∃j:Nat,t=ag (j:Int)/\j<=p.length/\T4 (ia p n=lP p n (p.length-j) j)/\wr=w) (fun _ _ t _=>p.length-(intOf t).toNat);case atStart=>exact⟨0,rfl,by omega,by exact m,rfl⟩
 case round=>
  obtain⟨j,rfl,Q,d,rfl⟩:=hrel;have F:(0:Int)<=(j:Int):=(by omega);by_cases s:j<p.length
  ·have u:(j:Int)<(p.length:Int):=(by omega);obtain⟨r,b⟩: ∃r,p[j]? =some r:=⟨p[j],az s⟩
   obtain⟨g,o,B,c0⟩:=l.o j _ b;subst B;have a:=IA p n j s;rw[BM b]at a;by_cases J:r<0
   ·have f:T4 (ia p n=6):=d.o.trans (a.trans (ax (.inl J)));clear a d b l m;go_wp2_with fail;go_ret;exact⟨by(rw[f.o])<;>rfl,rfl⟩
   by_cases C:n<=r
   ·have f:T4 (ia p n=6):=d.o.trans (a.trans (ax (.inr C)));clear a d b l m;go_wp2_with fail;go_ret;exact⟨by(rw[f.o])<;>rfl,rfl⟩
   rw[aw (by omega)]at a;by_cases L:j=0
   ·rw[aw (by omega)]at a;have z: ¬0<(j:Int):=(by omega);have f:=bO (d.o.trans a);clear a d b L;go_wp2_with fail;go_roundw;case rel=>exact⟨j+1,by go_num,by omega,f,trivial⟩
    case measure=>simp[intOf];omega
   ·obtain⟨q,i⟩: ∃q,p[j-1]? =some q:=⟨p[j-1]'(by omega),az (by omega)⟩
    obtain⟨N,R,x,c1⟩:=l.o (j-1) _ i;cases x;rw[BM i]at a;obtain⟨k,A⟩: ∃k:Nat,k=j-1:=⟨_,rfl⟩
    rw[<-A]at c1;have K:IntKind.i64.wrap ((j:Int)-1)=(k:Int):=(by rw[bQ];omega);have z:0<(j:Int):=(by omega);have G:(0:Int)<=(k:Int):=(by omega);have H:(k:Int)<(p.length:Int):=(by omega);by_cases I:r<=q
    ·rw[ax ⟨by omega,I⟩]at a;have f:=bO (d.o.trans a);clear a d b i l m A;go_wp2_with fail;go_ret;exact⟨by(rw[f.o])<;>rfl,rfl⟩
    ·rw[aw (by omega)]at a;have f:=bO (d.o.trans a);clear a d b i A;go_wp2_with fail;go_roundw;case rel=>exact⟨j+1,by go_num,by omega,f,trivial⟩
     case measure=>simp[intOf];omega
  ·have u: ¬(j:Int)<(p.length:Int):=(by omega)
   have f:T4 (ia p n=0):=by
    show _=_;rw[d.o,show p.length-j=0 by omega];rfl
   clear d l m;go_wp2_with fail;go_ret;exact⟨by(rw[f.o])<;>rfl,rfl⟩
theorem zD (s:Sv)(z:Value)(n:Int)(w:World)(h:fZ w z s.roles):Calls prog 153 #[svV s z,ag n] w fun e S=>e= .returned (ag (ff s n))/\ao w S:=by
 obtain⟨l,b,a,roles⟩:=s;dsimp only at h;unfold svV;dsimp only;have H:=am w (.cells #[ag l,ag b,ag a,z] 53);have y:=aB w (.cells #[ag l,ag b,ag a,z] 53);have M:=bO (h.below H);obtain⟨ad,c,rfl,I,_⟩:=h;generalize Q:w.alloc (.cells #[ag l,ag b,ag a,.slice ad roles.length c] 53)=V at*;have c1:=Nl l b a (.slice ad roles.length c) V;have L:=bO H;obtain⟨mb,v⟩:=aq (jE l b a);rw[v]at c1;have z0:=ak 0 y;have z1:=ak 1 y;have z2:=ak 2 y;have W:=ak 3 y;have G:=bO v;go_enter func153,ntmps153
 go_wp2_with fail;refine c1.mono ?_;rintro e T ⟨rfl,b1⟩;have y3:=aj b1 W;have d:=bO (au L.o b1);have B:=bO (M.o.below b1);cases mb with
 |false=>
  have i:T4 (ff ⟨l,b,a,roles⟩ n=3):=by
   show _=_;unfold ff;rw[ax G.o]
  go_wp2_with fail;go_ret;exact⟨by(rw[i.o])<;>rfl,d.o⟩
 |true=>
  have A:T4 (ff ⟨l,b,a,roles⟩ n=if roles.length<1\/4<roles.length then 5 else jC n roles):=by
   show _=_;unfold ff;rw[aw (by rw[G.o];decide)]
  by_cases Y:(roles.length:Int)<1
  ·have i:=bO (A.o.trans (ax (by omega)));go_wp2_with fail;go_ret;exact⟨by(rw[i.o])<;>rfl,d.o⟩
  by_cases Z:4<(roles.length:Int)
  ·have i:=bO (A.o.trans (ax (by omega)));go_wp2_with fail;go_ret;exact⟨by(rw[i.o])<;>rfl,d.o⟩
  have i:=bO (A.o.trans (aw (by omega)));go_wp2_with fail;go_loopw [6,7,24] (fun _ _ t wr=> ∃j:Nat,t=ag (j:Int)/\j<=roles.length/\T4 (ff ⟨l,b,a,roles⟩ n=jC n (roles.drop j))/\wr=T) (fun _ _ t _=>roles.length-(intOf t).toNat);case atStart=>exact⟨0,rfl,by omega,i,rfl⟩
  case round=>
   obtain⟨j,rfl,hj,D,rfl⟩:=hrel;have P:(0:Int)<=(j:Int):=(by omega);by_cases E:j<roles.length
   ·have u:(j:Int)<(roles.length:Int):=(by omega);obtain⟨K,q⟩: ∃r,roles[j]? =some r:=⟨roles[j],az E⟩
    obtain⟨N,X,O,_,p⟩:=B.o;cases O;obtain⟨g,o,sv,k,c0,x⟩:=p j _ q;subst k;have m:=Fo n q;have C:=Nm K sv n wr x;obtain⟨J,k⟩:=aq (ia K n);rw[k]at C m;by_cases F:J=0
    ·subst F;rw[aw (by simp)]at m;have f:=bO (D.o.trans m);go_wp2_with fail;refine C.mono ?_;rintro e U ⟨rfl,rfl⟩;go_wp2_with fail;go_roundw;case rel=>exact⟨j+1,by go_num,by omega,f,trivial⟩
     case measure=>simp[intOf];omega
    ·rw[ax F]at m;have R:(J==0)=false:=bl.2 F;have f:=bO (D.o.trans m);go_wp2_with fail;refine C.mono ?_;rintro e U ⟨rfl,rfl⟩;go_wp2_with fail;go_ret;exact⟨by(rw[f.o])<;>rfl,d.o⟩
   ·have u: ¬(j:Int)<(roles.length:Int):=(by omega)
    have f:T4 (ff ⟨l,b,a,roles⟩ n=0):=by
     show _=_;rw[D.o,dn (by omega)];rfl
    go_wp2_with fail;go_ret;exact⟨by(rw[f.o])<;>rfl,d.o⟩
def A1 (f:Nat->Bool)(p r:Nat):Prop:=p<=r/\r<=1440/\(∀i,p<=i->i<r->f i=false)/\(r<1440->f r=true)
theorem Nn (f:Nat->Bool)(k q r x:Nat)(l:q=k/64)(m:r=k%64)(e:x=wd f q/2^r)(d:x=0): ∀i,k<=i->i<64*q+64->f i=false:=by
 intro i g j
 have a:(wd f q/2^r).testBit (i-k)=f i:=by
  rw[vU,jy];have b:64*q+(i-k+r)=i:=(by omega);have c:i-k+r<64:=(by omega);simp[b,c]
 rw[<-e,d]at a;simpa using a.symm
theorem No (f:Nat->Bool)(k q r x t:Nat)(o:q=k/64)(p:r=k%64)(n:x=wd f q/2^r)(c:x.testBit t=true)(m: ∀j,j<t->x.testBit j=false):
  f (k+t)=true/\k+t<64*q+64/\ ∀i,k<=i->i<k+t->f i=false:=by
 subst n
 have d: ∀j,(wd f q/2^r).testBit j=(decide (j+r<64)&&f (k+j)):=by
  intro j;rw[vU,jy];have e:64*q+(j+r)=k+j:=(by omega);rw[e]
 rw[d]at c;simp only[bx,bL]at c;refine⟨c.2,by omega,fun i a b=> ?_⟩;have:=m (i-k) (by omega);rw[d]at this;have g:i-k+r<64:=by omega
 have l:k+(i-k)=i:=by omega
 simpa[g,l] using this
theorem vk (f:Nat->Bool)(p:Nat)(hp:p<=1440)(w:World)(L:Tab w):
  Calls prog 143 #[.agg (mv f),ag p] w fun e E=>(∃r:Nat,e= .returned (ag r)/\A1 f p r)/\ao w E:=by
 have T:(w.alloc (.cells (mv f) 39)).heap[w.heap.size]? =ah (mv f) 39:=by(repeat (first|refine dh _ _ _ (by simp only[aP];omega) ?_|exact dA _ _ _ (by first|rfl|simp only[aP])))
 have g:ao w (w.alloc (.cells (mv f) 39)):=am _ _;have n:=L.later g;have R:T4 (Tab (w.alloc (.cells (mv f) 39))):=n;clear L n;go_enter func143,ntmps143;go_wp2;go_loop [5] (fun a=> ∃k:Nat,p<=k/\k<=1472/\a=ag k/\ ∀i,p<=i->i<k->f i=false) (fun a=>1472-(intOf a).toNat);case atStart=>exact⟨p,aA _,by omega,rfl,fun i a b=>by omega⟩
 case round=>
  obtain⟨k,Y,W,rfl,v⟩:=hrel;have C:T4 (∀i,p<=i->i<k->f i=false):=v;clear v;by_cases X:k<1440
  ·obtain⟨q,y⟩: ∃q:Nat,q=k/64:=⟨_,rfl⟩
   obtain⟨r,D⟩: ∃r:Nat,r=k%64:=⟨_,rfl⟩
   have t1:(k:Int)/64=(q:Int):=(by omega);have t2:(k:Int)%64=(r:Int):=(by omega);have A:q<23:=(by omega);have U:(0:Int)<=(q:Int):=(by omega);have V:(q:Int)<23:=(by omega);have Z:(r:Int)<64:=(by omega);have ca:=lj T q A;obtain⟨x,B⟩: ∃x:Nat,x=wd f q/2^r:=⟨_,rfl⟩
   have J:x<18446744073709551616:=(by have:=iq f q;have:=Nat.div_le_self (wd f q) (2^r);omega);have p1:(wd f q:Int)/2^r=(x:Int):=(by rw[B];simp);have G:=fun w=>xc k (by omega) w;obtain⟨m,I⟩: ∃m:Nat,m=64*(k/64)+64:=⟨_,rfl⟩
   rw[<-I]at G;by_cases c:x=0
   ·have z:=Nn f k q r x y D B c;have x0:((x:Int) !=0)=false:=(by simp[c]);have S:T4 (∀i,k<=i->i<64*q+64->f i=false):=z;have u:m=64*q+64:=(by omega);have P:T4 (m=64*q+64):=u;have Q:T4 (q=k/64):=y;clear z B c y D I u;go_wp2_with(go_at_call 175;refine(G _).mono ?_;rintro e E ⟨rfl,rfl⟩)
    have hM:=P.o;have hQ:=Q.o;go_round
    case rel=>
     refine⟨m,by omega,by omega,rfl,fun i a b=> ?_⟩;by_cases d:i<k
     ·exact C.o i a d
     ·exact S.o i (by omega) (by omega)
    case measure=>simp[intOf];omega
   ·obtain⟨t,M,s,l,K⟩:=QN x J c _ R.o;obtain⟨N,s2,O⟩:=No f k q r x t y D B s l;have x0:((x:Int) !=0)=true:=(by simp[c]);have F:T4 (f (k+t)=true/\k+t<64*q+64/\ ∀i,k<=i->i<k+t->f i=false):=⟨N,s2,O⟩
    have HE:T4 (∀j,j<t->x.testBit j=false):=l;clear B c y D I s l N O G;by_cases H:k+t<=1440
    ·go_wp2_with(go_at_call 184;refine K.mono ?_;rintro e E ⟨rfl,rfl⟩)
     go_ret;refine⟨⟨k+t,sZ (uH (by omega)),?_⟩,g⟩;refine⟨by omega,H,fun i a b=> ?_,fun _=>F.o.1⟩;by_cases d:i<k
     ·exact C.o i a d
     ·exact F.o.2.2 i (by omega) b
    ·go_wp2_with(go_at_call 184;refine K.mono ?_;rintro e E ⟨rfl,rfl⟩)
     go_ret;refine⟨⟨1440,sZ (uH (by omega)),?_⟩,g⟩;refine⟨by omega,by omega,fun i a b=> ?_,fun h=>by omega⟩;by_cases d:i<k
     ·exact C.o i a d
     ·exact F.o.2.2 i (by omega) (by omega)
  ·go_wp2;go_ret;refine⟨⟨1440,sZ (uH (by omega)),?_⟩,g⟩;exact⟨by omega,by omega,fun i a b=>C.o i a (by omega),fun h=>by omega⟩
def Oz (B:Nat)(w a:World):Prop:=w.heap.size<=a.heap.size/\ ∀k c,B<=k->w.heap[k]? =ah c 39->a.heap[k]? =ah c 39
theorem PE:mv (inl [((0:Int),(1440:Int))])=mv fun i=>decide (i<1440):=jj fun i _=>by
 have:((i:Int)<1440)=(i<1440):=by apply propext;omega
 simp[inl,this]
theorem KN {W:World}{g:Nat}{x y:Int}{t:TypeId}(a:W.heap[g]? =ah #[ag x,ag y] t):Row W (.slice (some (ae g 0)) 1 1) [(x,y)]:=by
 refine .inr ⟨_,0,1,rfl,by simp,fun j b=> ?_⟩;have:j=0:=by simpa using b
 subst this;exact⟨by rw[aW _ _ _ _ _ _ a];rfl,by rw[aW _ _ _ _ _ _ a];rfl⟩
theorem KO (f:Nat->Bool)(K:Nat)(C:Array Value)(I:Nat->World->Prop)(R:World->Prop)(w:World)(hI:I 0 w)
  (eK: ∀t w,(callFunc K t).run prog w= .ok (.enter K t) w)
  (hT: ∀p wr,I p wr->Tab wr) (d: ∀p wr z,I p wr->ao wr z->I p z)
  (J: ∀(p a b:Nat) (wr:World),w.heap.size<=wr.heap.size->I p wr->p<=a->a<b->b<=1440->(∀i,p<=i->i<a->f i=false)->(∀i,a<=i->i<b->f i=true)->(b<1440->f b=false)->
    Calls prog K (#[.agg #[ag a,ag b]]++C) wr fun e z=>((e= .returned (.bool true)/\I b z)\/(e= .returned (.bool false)/\R z))/\Oz w.heap.size wr z)
  (T: ∀(p:Nat) (wr:World),I p wr->p<=1440->(∀i,p<=i->i<1440->f i=false)->R wr):
  Calls prog 98 #[.agg (mv f),.func (.func K) #[] C] w fun e z=>e= .returned (.tuple #[])/\R z:=by
 have hz:=ea;have h1:(w.alloc (.cells (mv f) 39)).heap[w.heap.size]? =ah (mv f) 39:=by(repeat (first|refine dh _ _ _ (by simp only[aP];omega) ?_|exact dA _ _ _ (by first|rfl|simp only[aP])))
 go_enter func98,ntmps98;go_wp2;obtain⟨w0,L⟩:=aq (w.alloc (.cells (mv f) 39));have bw:ao w w0:=by rw[<-L];exact am _ _
 rw[L]at h1;simp only[L];refine sL 6 (fun M φ W=>ao w0 W/\(M 1=true-> ∃g,φ 8= .slice (some (ae g 0)) 1 1/\W.heap[g]? =ah #[ag 0,ag 1440] 171)/\(M 5=true-> ∃g c,φ 4=ab g 0/\w.heap.size<g/\W.heap[g]? =ah (mv c) 39)) [kn 7 (.agg #[ag 0,ag 1440]),td 8,kn 9 (.agg (mv fun i=>decide (i<1440))),kn 10 (.agg (mv f)),kn 11 (.agg (mv fun i=>(decide (i<1440)&& !f i)&&decide (i<1440))),td 4,nk] (fun _=>⟨(aF _ _).drew,(fun h=>by cases h),(fun h=>by cases h)⟩) (fun _ _ _ _ j h=>⟨au h.1 j,fun c=>(h.2.1 c).imp fun _ q=>⟨q.1,ai j q.2⟩,fun c=>(h.2.2 c).imp fun _ q=>q.imp fun _ q=>⟨q.1,q.2.1,ai j q.2.2⟩⟩) (by kernel_rfl) (by kernel_rfl) (fun M φ W q6 D F l hl N=> ?_);simp only[kn,td,nk,d6,aR,a8,Act.put,aD,aJ,aI]at hl;subst hl;simp only[dz,Nat.reduceAdd]at N;obtain⟨D,G,Q⟩:=D;have k:=ai D h1;have a2:=D.size;have a4:=aH h1;dsimp only[kn,td,nk,dK,fo,eD,Act.put];and_intros;all_goals first|exact trivial|intro hw hn hm K' E
 all_goals try (go_simp;with_reducible exact E _ _ ⟨rfl,aF _ _⟩)
 ·have j:=am W (.cells #[ag 0,ag 1440] 171);go_simp;exact E _ _ ⟨trivial,fun _=>⟨au D j,fun _=>⟨_,dX ..,aB W _⟩,fun c=>(Q (by simpa using c)).imp fun _ q=>q.imp fun _ q=>⟨(dE (by decide)).trans q.1,q.2.1,ai j q.2.2⟩⟩,(fun c=>by simp[q6]at c)⟩
 ·obtain⟨g,e8,hg⟩:=G (hw ⟨1,.data⟩ (by simp) rfl rfl);rw[e8]at N;go_simp;refine(uT _ _ _ (KN hg)).mono ?_;rintro e W' ⟨rfl,j⟩;exact E _ _ ⟨by rw[PE],j⟩
 ·refine fh 39 _ rfl _ (by simp[Act.eval,N]) _ _ _ _ k cj rfl (bg _) ?_;exact E _ _ ⟨rfl,aF _ _⟩
 ·go_simp;refine(ro _ _ _).mono ?_;rintro e W' ⟨rfl,j⟩;exact E _ _ ⟨rfl,j⟩
 ·have j:=am W (.cells (mv fun _=>false) 39);go_simp;exact E _ _ ⟨trivial,fun _=>⟨au D j,fun c=>(G (by simpa using c)).imp fun _ q=>⟨(dE (by decide)).trans q.1,ai j q.2⟩,fun _=>⟨_,_,dX ..,by omega,aB W _⟩⟩,(fun c=>by simp[q6]at c)⟩
 ·obtain⟨g8,e8,_⟩:=G (hw ⟨1,.phase⟩ (by simp) rfl rfl);obtain⟨g,c,e4,a3,U⟩:=Q (hw ⟨5,.data⟩ (by simp) rfl rfl);rw[e8,e4]at N;refine eo 39 _ _ rfl _ (mv fun i=>(decide (i<1440)&& !f i)&&decide (i<1440)) (by simp[Act.eval,N]) (by simp[Act.eval,N]) _ _ U (bg _) (by simp[bU]) (dI _) ?_;refine E undef _ ⟨trivial,(fun c=>by simp at c),fun _=> ?_⟩;simp only[ep,aR,a8,Act.put,aD,aJ,aI,e8,e4];have hg:=aK _ _ _ (mv fun i=>(decide (i<1440)&& !f i)&&decide (i<1440)) _ _ U;replace k:=(aQ W g w.heap.size (mv fun i=>(decide (i<1440)&& !f i)&&decide (i<1440)) (by omega)).trans k;have S:=below_setRow (au bw D) (by omega:w.heap.size<=g) (mv fun i=>(decide (i<1440)&& !f i)&&decide (i<1440));have P:=d 0 w _ hI S;generalize W.setRow g (mv fun i=>(decide (i<1440)&& !f i)&&decide (i<1440))=W at*;have al:=hT 0 W P
  go_wp2_with(first
   |(refine aO rfl 39 _ rfl _ rfl _ _ _ _ k cj rfl (bg _) ?_)
   |(go_at_call 143;refine(vk f 0 (by omega) _ al).mono ?_;rintro e w1 ⟨⟨r,rfl,hr⟩,m⟩))
  have ac:=d 0 W w1 P m;have ax:=ai m k;have ar:=ai m hg;have a0:w.heap.size<=w1.heap.size:=(by have:=S.size;have:=m.size;omega);have HR:T4 (A1 f 0 r):=hr;go_loopw [5] (fun v wr=> ∃p a:Nat,v=ag a/\A1 f p a/\I p wr/\w.heap.size<=wr.heap.size/\wr.heap[w.heap.size]? =ah (mv f) 39/\wr.heap[g]? =ah (mv fun i=>(decide (i<1440)&& !f i)&&decide (i<1440)) 39) (fun v _=>(1440-intOf v).toNat);case atStart=>exact⟨0,r,rfl,HR.o,ac,a0,ax,ar⟩
  case round=>
   obtain⟨p,a,rfl,H,B,a2,ay,V⟩:=hrel;obtain⟨q1,q2,q3,q4⟩:=H;by_cases Y:a<1440
   ·have H:=q4 Y;have aj:=hT p wr B;have Q3:T4 (∀i,p<=i->i<a->f i=false):=q3;have Q4:T4 (f a=true):=H
    go_wp2_with(first
     |(refine aO rfl 39 _ rfl _ rfl _ _ _ _ V cj rfl (bg _) ?_)
     |(go_at_call 143;refine(vk _ a (by omega) _ aj).mono ?_;rintro e w3 ⟨⟨b,rfl,j⟩,n⟩))
    obtain⟨b1,b2,b3,b4⟩:=j;have ha:=Q4.o
    have u: ∀i,a<=i->i<b->f i=true:=fun i x y=>by
     have A:i<1440:=(by omega);have:=b3 i x y;simpa[A] using this
    have an:a<b:=by
     rcases Nat.lt_or_ge a b with h|h
     ·exact h
     ·have e:b=a:=(by omega);subst e;have:=b4 Y;simp[ha]at this
    have ap:b<1440->f b=false:=fun h=>by
     have:=b4 h;simpa[h] using this
    have ad:=d p wr w3 B n;have a1:w.heap.size<=w3.heap.size:=(by have:=n.size;omega);have az:=ai n ay;have av:=ai n V;have hc:=J p a b w3 a1 ad q1 an b2 Q3.o u ap;have Hyes:T4 (∀i,a<=i->i<b->f i=true):=u;refine hc.mono ?_;rintro e w4 ⟨⟨rfl,O⟩|⟨rfl,af⟩,⟨a5,X⟩⟩
    ·have Z:=X _ _ (aA _) az;have aw:=X _ _ (by omega) av;have ak:=hT b w4 O
     go_wp2_with(first
      |(refine aO rfl 39 _ rfl _ rfl _ _ _ _ Z cj rfl (bg _) ?_)
      |(go_at_call 143;refine(vk f b b2 _ ak).mono ?_;rintro e w5 ⟨⟨r',rfl,aa⟩,s⟩))
     go_roundw;case rel=>exact⟨b,r',rfl,aa,d b w4 w5 O s,by have:=s.size;omega,ai s Z,ai s aw⟩
     case measure=>
      have:=aa.1;simp[intOf];omega
    ·go_wp2;refine aX (eN rfl _ _ _) rfl ?_;exact⟨rfl,af⟩
   ·have Hend:T4 (R wr):=T p wr B (by omega) (fun i x y=>q3 i x (by omega));go_wp2;go_end0;exact⟨rfl,Hend.o⟩
def iZ:List (Int×Int)->List Value
 |[]=>[]
 |s::l=>ag s.1::ag s.2::iZ l
theorem vn (x y:Int): ∀l:List (Int×Int),iZ (l++[(x,y)])=iZ l++[ag x,ag y]
 |[]=>rfl
 |s::l=>by simp[iZ,vn x y l]
theorem DW: ∀(l:List (Int×Int)) (j:Nat),j<l.length->(iZ l)[j*2]? =some (ag (l.getD j (0,0)).1)/\(iZ l)[j*2+1]? =some (ag (l.getD j (0,0)).2)
 |[],j,h=>by simp at h
 |s::l,0,_=>by simp[iZ]
 |s::l,j+1,h=>by
  have:=DW l j (by simpa using h);have e:(j+1)*2=j*2+1+1:=(by omega);rw[e];simpa[iZ] using this
theorem Rp:(prog.info? 171).map (fun i=>(i.zero,i.size,i.bytes))=some (some (.agg #[ag 0,ag 0]),2,16):=by kernel_rfl
theorem BN:prog.underlying 137=some (.slice 171):=by kernel_rfl
theorem it {w f:World}{a:Nat}{e:TypeId}{size:Nat}{v:Value}{n:Nat}{xs:List Value}(h:w.ownsRow a e size v n xs)(j:ao w f):f.ownsRow a e size v n xs:=by
 obtain⟨i,c⟩:=h;refine⟨i,?_⟩;rcases c with c|⟨g,cap,b,l,k,d,r⟩
 ·exact .inl c
 ·exact .inr ⟨g,cap,b,l,k,(j.block g (aH d)).trans d,r⟩
theorem sm {w:World}{a:Nat}{e:TypeId}{size:Nat}{v:Value}{n:Nat}{xs:List Value}(h:w.ownsRow a e size v n xs){k:Nat}{c:Array Value}{t:TypeId}(d:w.heap[k]? =ah c t)(m:t≠e):v.ownBlock≠some k:=by
 obtain⟨_,b⟩:=h;rcases b with⟨b,_⟩|⟨g,cap,f,o,p,l,r⟩
 ·subst b;simp[Value.ownBlock]
 ·subst o;intro i;have j:g=k:=(by simpa[Value.ownBlock] using i);subst j;rw[l]at d;exact m (Obj.cells.inj (ay d)).2.1.symm
theorem xm {w:World}{a:Nat}{v:Value}{l:List (Int×Int)}(h:w.ownsRow a 171 2 v l.length (iZ l))(q:l.length<9223372036854775808):Row w v l:=by
 obtain⟨_,e⟩:=h;rcases e with⟨e,f⟩|⟨g,cap,d,r,x,i,f,s,t,o⟩
 ·exact .inl ⟨0,e,gG.1 f⟩
 ·refine .inr ⟨g,0,cap,r,q,fun j p=> ?_⟩;obtain⟨m,n⟩:=DW l j p
  have b: ∀k u,(iZ l)[k]? =some u->d[k]? =some u:=fun k u c=>by
   rw[<-o,gC]at c;split at c
   ·simpa using c
   ·cases c
  rw[bN,aW _ _ _ _ _ _ i,aW _ _ _ _ _ _ i];exact⟨b _ _ m,b _ _ n⟩
theorem xY (x y:Int)(v:Value)(l:List (Int×Int))(a t:Nat)(w:World)(S:l.length<=1440)(m:a<=w.heap.size)(F:a<=t)
  (s:w.heap[t]? =ah #[v] 137) (f:w.ownsRow a 171 2 v l.length (iZ l)):
  Calls prog 99 #[.agg #[ag x,ag y],ab t 0] w fun e E=>
   e= .returned (.bool true)/\Below a w E/\(∃D,E.heap[t]? =ah #[D] 137/\E.ownsRow a 171 2 D (l++[(x,y)]).length (iZ (l++[(x,y)])))/\ ∀B,Oz B w E:=by
 obtain⟨T,hi,J,K,L⟩:=iV Rp;have c1:=cell_of_one s;have f1:=free_of_one s;have U:=aH s;have I:=sm f s (by decide);go_enter func99,ntmps99;go_wp2_with(at_builtin;refine eC _ rfl _ _ 137 rfl a 171 T (.agg #[ag 0,ag 0]) 2 16 BN hi J K L rfl (by decide) v l.length (iZ l) rfl ((f.alloc _).alloc _) ⟨w.heap.size+1,0,none⟩ 1 1 [ag x,ag y] rfl rfl ?c1 ?c2 ?c3 ?c4 ?c5 ?_)
 case c1=>
  intro j u n;match j,n with
  |0,n=>simp at n;subst n;simp[Addr.add]
  |1,n=>simp at n;subst n;simp[Addr.add]
 case c2=>intro u O;simp at O;rcases O with rfl|rfl<;>rfl
 case c3=>unfold maxLen;omega
 case c4=>omega
 case c5=>simp;omega
 ·intro D M d b _;have q:=dh _ (.cells #[ag x,ag y] 171) _ U s;have r:=dh _ (.cells #[ag x,ag y] 171) _ (aH q) q;have i:=(b.block _ (aH r) (fun e=>I e.symm)).trans r;have c3:=cell_of_one i;have f3:=free_of_one i;have C:=sm d i (by decide)
  obtain⟨g,cap,rfl⟩: ∃g cap,D= .slice (some (ae g 0)) (l.length+1) cap:=by
   rcases d.2 with⟨_,h⟩|⟨g,cap,_,h,_⟩
   ·omega
   ·exact⟨g,cap,h⟩
  have G:Below a w M:=(((aF _ _).alloc m _).alloc (by simp only[aP];omega) _).grown b (by simp only[aP];omega) (fun k p=>(f.lt k p).1);have V:T4 ((w.alloc (.cells #[ag x,ag y] 171)).heap.size=w.heap.size+1):=aP _ _;have P:T4 (M.ownsRow a 171 2 (.slice (some (ae g 0)) (l.length+1) cap) (l.length+1) (iZ l++[ag x,ag y])):=d;have N:T4 (((w.alloc (.cells #[ag x,ag y] 171)).alloc (.cells #[ag x,ag y] 171)).grownBy M v.ownBlock):=b;clear c1 f1 q r d b;go_wp2;go_ret;refine⟨rfl,G.setCell F _,⟨_,one_setCell i,?_⟩,fun B=>⟨?_,fun k c _ p=> ?_⟩⟩
  ·rw[vn];simp only[aN,bK,fN,bN];exact ownsRow_setCell_other P.o C _
  ·have R:=N.o.size;simp only[aP]at R;simp;omega
  ·have z:=dh _ (.cells #[ag x,ag y] 171) _ (aH p) p;have A:=dh _ (.cells #[ag x,ag y] 171) _ (aH z) z;have H:=(N.o.block _ (aH A) (fun e=>sm f p (by decide) e.symm)).trans A;refine(aM _ _ _ _ fun e=> ?_).trans H;have Q:k=t:=e;subst Q;rw[s]at p;exact absurd (Obj.cells.inj (ay p)).2.1 (by decide)
structure SI (f:Nat->Bool)(w0:World)(Bl:Nat)(p:Nat)(w:World):Prop where
 bel:ao w0 w
 row: ∃v,w.heap[Bl]? =ah #[v] 137/\w.ownsRow w0.heap.size 171 2 v (rs f p).length (iZ (rs f p))
 seen:tW f p (rs f p)
 le:p<=1440
def SR (f:Nat->Bool)(a:World)(b:Nat)(w:World):Prop:=
 ao a w/\(∃v,w.heap[b]? =ah #[v] 137/\w.ownsRow a.heap.size 171 2 v (rs f 1440).length (iZ (rs f 1440)))/\mc f 1440 (rs f 1440)
theorem Fp (f:Nat->Bool)(i w:World)(d:Nat)(z:Tab i)(C:i.heap.size<=d)(y:SI f i d 0 w):
  Calls prog 98 #[.agg (mv f),.func (.func 99) #[] #[ab d 0]] w fun e u=>
   e= .returned (.tuple #[])/\SR f i d u:=by
 refine KO f 99 _ (SI f i d) (SR f i d) w y (fun _ _=>by simp[go_sem]) (fun p wr h=>z.later h.bel) ?_ ?_ ?_
 ·intro p wr u h k;obtain⟨v,n,o⟩:=h.row;exact⟨au h.bel k,⟨v,ai k n,it o k⟩,h.seen,h.le⟩
 ·intro p a b wr B h s q l g m r;obtain⟨v,n,o⟩:=h.row;have t:=h.seen.next a b s q l g m r;have e:rs f b=rs f p++[((a:Int),(b:Int))]:=t.same.symm;refine(xY a b v (rs f p) i.heap.size d wr (by have:=h.seen.runs.few;have:=h.le;omega) h.bel.size C n o).mono ?_;rintro D u ⟨rfl,k,c,j⟩;rw[<-e]at c t;exact⟨.inl ⟨rfl,h.bel.trans k,c,t,l⟩,j _⟩
 ·intro p wr h A g;obtain⟨e,x⟩:=h.seen.all A g;have c:=h.row;rw[e]at c x;exact⟨h.bel,c,x⟩
def dt (l:List Int):List Value:=l.map fun n=>ag n
theorem kS (l:List Int):(dt l).length=l.length:=by simp[dt]
theorem lQ (l:List Int)(n:Int):dt (l++[n])=dt l++[ag n]:=by simp[dt]
theorem tX:prog.underlying 43=some (.slice 3):=by kernel_rfl
theorem pF:(prog.info? 3).map (fun i=>(i.zero,i.size,i.bytes))=some (some (ag 0),1,8):=by kernel_rfl
theorem qX {t:TypeId}{z:Value}{a b:Nat}(h:(prog.info? t).map (fun i=>(i.zero,i.size,i.bytes))=some (some z,a,b)): ∃i,prog.info? t=some i/\i.zero=some z/\i.size=a/\i.bytes=b:=by
 cases hi:prog.info? t with
 |none=>rw[hi]at h;cases h
 |some i=>
  rw[hi]at h;have c:=ay h;exact⟨i,rfl,congrArg (fun x=>x.1) c,congrArg (fun x=>x.2.1) c,congrArg (fun x=>x.2.2) c⟩
theorem rJ {w:World}{a:Nat}{v:Value}{l:List Int}(h:w.ownsRow a 3 1 v l.length (dt l))(f:l.length<9223372036854775808):fk w v l:=by
 rcases h.2 with⟨rfl,e⟩|⟨g,cap,c,rfl,_,i,_,_,_,k⟩
 ·refine⟨none,0,by rw[e],f,fun j n b=> ?_⟩;have:=(aE.1 b).1;omega
 ·refine⟨_,cap,rfl,f,fun j n b=>⟨g,0,rfl,?_⟩⟩;have d:=(aE.1 b).1;rw[bN,aW w g j c 3 (0,0) i,<-bq];have e:(dt l)[j]? =some (ag n):=(by simp[dt,b]);rw[<-k,Nat.mul_one,dJ d]at e;exact e
theorem Fq (w:World)(a:Nat)(v:Value)(l:List Int)(r:Int)(f:w.ownsRow a 3 1 v l.length (dt l))(t c:Nat)(hn:w.cell? (ae t 0)=some (ag r))(F:TypeId)(hl:l.length<=1000000)(hb:a<=w.heap.size):
  ∃D G,(Builtin.append_ #[43,43] F #[v,.slice (some (ae t 0)) 1 c]).run prog w= .ok D G/\G.ownsRow a 3 1 D (l.length+1) (dt (l++[r]))/\
   ((D.ownBlock=v.ownBlock/\w.grownBy G v.ownBlock/\ ∀T:World,T.ownsRow a 3 1 D (l.length+1) (dt (l++[r]))->T.ownsRow a 3 1 v l.length (dt l))\/(w.grownBy G none/\ ∃g,D.ownBlock=some g/\w.heap.size<=g)):=by
 obtain⟨i,hi,X,q,J⟩:=qX pF
 have b: ∀(j:Nat) u,[ag r][j]? =some u->w.cell? ((⟨t,0,none⟩:Addr).add j)=some u:=fun j u C=>by
  match j,C with
  |0,C=>cases ay C;simpa[Addr.add] using hn
  |j+1,C=>simp at C
 have Q:l.length+1<=maxLen:=by unfold maxLen;omega
 have grown: ∀(d:Nat),(w.drew.alloc (.cells ((dt l).toArray++[ag r].toArray++Builtin.zeroCells (ag 0).cells (grownCap w (l.length+1) d 3-(l.length+1))) 3)).ownsRow a 3 1 (.slice (some (ae w.heap.size 0)) (l.length+1) (grownCap w (l.length+1) d 3)) (l.length+1) (dt (l++[r]))/\
   w.grownBy (w.drew.alloc (.cells ((dt l).toArray++[ag r].toArray++Builtin.zeroCells (ag 0).cells (grownCap w (l.length+1) d 3-(l.length+1))) 3)) none:=by
  intro d;have M:=grownCap_ge w (l.length+1) d 3;have o:=grownCap_le_maxLen w (l.length+1) d 3 Q;refine⟨⟨by rw[kS];simp,.inr ⟨w.heap.size,_,_,rfl,hb,aB w.drew _,M,o,?_,?_⟩⟩,⟨rfl,rfl,rfl,by simp,fun k E _=>Array.getElem?_push_lt E|>.trans (eO E).symm⟩⟩
  ·simp only[Array.size_append,List.size_toArray,size_zeroCells,kS];show l.length+[ag r].length+(grownCap w (l.length+1) d 3-(l.length+1))*1=_;simp only[bK,fN];omega
  ·rw[lQ];simp only[Array.toList_append,dw];rw[<-dw,show(l.length+1)*1=(dt l++[ag r]).length by simp[kS]];exact List.take_left
 rcases f.2 with⟨rfl,Y⟩|⟨g,cap,n,rfl,I,W,ab,o,K,s⟩
 ·have N:l=[]:=fX Y;subst N;have B:=run_append_nil (P:=prog) w 43 F 3 i (ag 0) tX hi X ⟨t,0,none⟩ 1 c [ag r] (by rw[q];rfl) b (by omega) (by omega) (by omega);have A:=grown 0;refine⟨_,_,B,?_,.inr ⟨?_,_,rfl,aA _⟩⟩
  ·simpa[dt] using A.1
  ·simpa[dt] using A.2
 ·by_cases m:l.length+1<=cap
  ·have z:l.length*i.size+[ag r].length<=n.size:=(by rw[q,K];simp;omega);have B:=run_append_room (P:=prog) w 43 F 3 i tX hi g l.length cap n W ⟨t,0,none⟩ 1 c [ag r] (by rw[q];rfl) b (by simp[Value.oneCell']) m z;refine⟨_,_,B,⟨by rw[kS];simp,.inr ⟨g,cap,_,rfl,I,aK w g n _ 3 _ W,m,o,?_,?_⟩⟩,.inl ⟨rfl,⟨rfl,rfl,rfl,by simp,fun k _ E=>aQ w g k _ (fun e=>E (by simp[Value.ownBlock,e]))⟩,fun T h2=> ?_⟩⟩
   ·rw[q];simp only[List.size_toArray,aN,ef,fi,cg];simp only[bK,fN];omega
   ·rw[q,s,lQ,show(l.length+1)*1=(dt l++[ag r]).length by simp[kS]];exact List.take_left
   ·refine⟨f.1,?_⟩;rcases h2.2 with⟨e,_⟩|⟨g',U,x,e,H,L,aa,O,R,S⟩
    ·cases e
    ·injection e with y e2 Z;injection y with y;injection y with y;subst y Z;refine .inr ⟨g,cap,x,rfl,H,L,by omega,O,R,?_⟩;have V:=congrArg (List.take (l.length*1)) S;rw[List.take_take,lQ,gu (by omega),List.take_append_of_le_length (by rw[kS];omega)]at V;rw[V];exact da (by rw[kS];omega)
  ·have p: ∀j u,(dt l)[j]? =some u->w.cell? ((⟨g,0,none⟩:Addr).add j)=some u:=f.cells (g:=g) rfl;have B:=run_append_grow (P:=prog) w 43 F 3 i (ag 0) tX hi X ⟨g,0,none⟩ l.length cap (dt l) (by rw[q];exact f.1) p ⟨t,0,none⟩ 1 c [ag r] (by rw[q];rfl) b (by omega) (by omega) (growslice_fits (by omega) (by rw[J];omega));exact⟨_,_,B,(grown cap).1,.inr ⟨(grown cap).2,_,rfl,aA _⟩⟩
theorem io {B:Nat}{c w f:World}{row:Option Nat}(a:Below B c w)(b:w.grownBy f row)(g:B<=c.heap.size)(i: ∀k,row=some k->B<=k):Below B c f:=
 ⟨b.os.trans a.os,b.tape.trans a.tape,b.output.trans a.output,bh a.size b.size,fun k d=>(b.block k (aT (aT d g) a.size) (fun e=>by have:=i k e.symm;omega)).trans (a.block k d)⟩
theorem jo {w b:World}(a:ao w b)(row:Option Nat):w.grownBy b row:=⟨a.os,a.tape,a.output,a.size,fun k c _=>a.block k c⟩
theorem zE {a b c:World}{row d:Option Nat}(h:a.grownBy b row)(k:b.grownBy c d)(l: ∀j,d=some j->a.heap.size<=j\/row=some j):a.grownBy c row:=
 ⟨k.os.trans h.os,k.tape.trans h.tape,k.output.trans h.output,bh h.size k.size,fun q i f=>(k.block q (aT i h.size) (fun e=>by
   rcases l q e.symm with g|g
   ·omega
   ·exact f g.symm)).trans (h.block q i f)⟩
theorem vo {a c:World}(h:a.grownBy c none)(row:Option Nat):a.grownBy c row:=⟨h.os,h.tape,h.output,h.size,fun i hi _=>h.block i hi (by simp)⟩
theorem mA {j:Array Oper}{d:List Oper}{o:Oper}{a:Act}{w:World}{Q:Exit->Act->World->Prop}(m:o.guard=none)(s x:Operand)(A:o.op= .call {callee:= .builtin .append,args:= #[s,x],argTypes:= #[43,43]})
  (b:Nat) (v:Value) (l:List Int) (r:Int) (C:a.eval s=v) (i:w.ownsRow b 3 1 v l.length (dt l)) (k c:Nat) (D:a.eval x= .slice (some (ae k 0)) 1 c) (z:w.cell? (ae k 0)=some (ag r)) (y:l.length<=1000000) (u:b<=w.heap.size)
  (h: ∀e f,f.ownsRow b 3 1 e (l.length+1) (dt (l++[r]))->((e.ownBlock=v.ownBlock/\w.grownBy f v.ownBlock/\ ∀n:World,n.ownsRow b 3 1 e (l.length+1) (dt (l++[r]))->n.ownsRow b 3 1 v l.length (dt l))\/(w.grownBy f none/\ ∃g,e.ownBlock=some g/\w.heap.size<=g))->wpList prog j Q d (a.put o.dst e) f):wpList prog j Q (o::d) a w:=by
 refine wpList_plain m fun K t=> ?_;obtain⟨e,f,B,p,q⟩:=Fq w b v l r i k c z o.type y u;unfold Oper.wp execOp;simp only[A,resolve,invoke,builtin,kb,lg,iB,jl,cQ,fu,C,D,B];exact t _ _ (h e f p q)
def SW (B:Nat)(res:Option (List Int))(t:List Int)(b:Value)(w:World)(e:Ending)(a:World):Prop:=
 w.grownBy a b.ownBlock/\((∃who c,res=some who/\e= .returned (.tuple #[c,.bool true])/\a.ownsRow B 3 1 c who.length (dt who))\/(res=none/\e= .returned (.tuple #[af,.bool false])/\a.ownsRow B 3 1 b t.length (dt t)))
theorem uA {α β:Type}{f:α->Option β}{l:List α}{j:Nat}{x:α}(h:l[j]? =some x):(l.drop j).findSome? f=match f x with|some y=>some y|none=>(l.drop (j+1)).findSome? f:=by
 obtain⟨a,b⟩:=aE.1 h;rw[bG a,b];rw[List.findSome?_cons];cases f x<;>rfl
theorem Np (a:List (List Int))(pv:Value)(u:World)(hP:fZ u pv a)(a0:a.length<=1000): ∀(k:Nat) (t:List Int) (S:Value) (w:World),t.length+k=a.length->ao u w->w.ownsRow u.heap.size 3 1 S t.length (dt t)->
  Calls prog 217 #[pv,S] w (SW u.heap.size (js a k t) t S w):=by
 intro k;induction k with
 |zero=>
  intro t S w hk hb b;obtain⟨pp,pc,rfl,H,_⟩:=hP;obtain⟨l,m,J,_,_⟩:=rJ b (by omega);have he:((t.length:Int)==(a.length:Int))=true:=(by rw[beq_iff_eq];omega);have U:=bO b;subst J;go_enter func217,ntmps217
  go_wp2_with fail;go_ret2;exact⟨jx _ _,.inl ⟨t,_,rfl,rfl,U.o⟩⟩
 |succ k ih=>
  intro t S w hk hb b;have IH:=bO ih;obtain⟨pool,d⟩: ∃p,a[t.length]? =some p:=⟨a[t.length]'(by omega),az (by omega)⟩
  have HP:=bO hP;obtain⟨pp,pc,rfl,H,O⟩:=hP;obtain⟨gp,op,sv,al,P,I⟩:=O _ _ d;subst al;have aq:=aj hb P;obtain⟨ap,cp,rfl,ae,n⟩:=I;have HC:=bO n;obtain⟨l,m,J,_,_⟩:=rJ b (by omega);subst J;have ay:((t.length:Int)==(a.length:Int))=false:=(by rw[bl];omega);have av:(t.length:Int)<(a.length:Int):=(by omega);have a1:(0:Int)<=(t.length:Int):=(by omega);have U:=bO b;have HB:=bO hb
  have HE:T4 (js a (k+1) t=pool.findSome? fun r=>if r∈t then none else js a k (t++[r])):=by
   show _=_;rw[js];congr 1;simp[List.getD,d]
  go_enter func217,ntmps217
  go_wp2_with fail;go_loopw [7,8,9,22] (fun _ _ _ x wr=> ∃j:Nat,x=ag (j:Int)/\j<=pool.length/\T4 (js a (k+1) t=(pool.drop j).findSome? fun r=>if r∈t then none else js a k (t++[r]))/\T4 (wr.ownsRow u.heap.size 3 1 (.slice l t.length m) t.length (dt t))/\T4 (w.grownBy wr (Value.slice l t.length m).ownBlock)) (fun _ _ _ x _=>pool.length-(intOf x).toNat);case atStart=>exact⟨0,rfl,by omega,HE,U,jx _ _⟩
  case round=>
   obtain⟨j,rfl,hj,hX,X,W⟩:=hrel;have ar:(0:Int)<=(j:Int):=(by omega);by_cases R:j<pool.length
   ·have G:(j:Int)<(pool.length:Int):=(by omega);obtain⟨r,Q⟩: ∃r,pool[j]? =some r:=⟨pool[j],az R⟩
    obtain⟨g,o,ai,c0⟩:=HC.o j _ Q;subst ai;have z: ∀q,(Value.slice l t.length m).ownBlock=some q->u.heap.size<=q:=fun q hq=>(U.o.lt q hq).1;have M:=bO (io HB.o W.o (aA _) z);have Y:=uA (f:=fun r=>if r∈t then none else js a k (t++[r])) Q;have c1:=lV t (.slice l t.length m) r wr (rJ X.o (by omega));have an:=aj M.o c0;by_cases Z:r∈t
    ·rw[ax Z]at Y;rw[bc Z]at c1;have K:=bO (hX.o.trans Y);go_wp2_with fail;refine c1.mono ?_;rintro e i ⟨rfl,b2⟩;have B:=bO (it X.o b2);have A:=bO (W.o.trans (jo b2 _));go_wp2_with fail;go_roundw;case rel=>exact⟨j+1,by go_num,by omega,K,B,A⟩
     case measure=>simp[intOf];omega
    ·rw[aw Z]at Y;rw[bo Z]at c1;have K:=bO (hX.o.trans Y);go_wp2_with fail;refine c1.mono ?_;rintro e i ⟨rfl,b2⟩;have B:=bO (it X.o b2);have A:=bO (W.o.trans (jo b2 _));have aa:=bO (au M.o b2);have bA:=am i (.cells #[ag r] 3);have nA:=aB i (.cells #[ag r] 3);generalize a2:i.alloc (.cells #[ag r] 3)=wA at*;have zA:=ak 0 nA;have C:=bO (it B.o bA);have N:=bO (A.o.trans (jo bA _));have L:=bO (au aa.o bA)
     go_wp2_with(first
      |(refine mA rfl _ _ rfl u.heap.size _ t r rfl ?ho i.heap.size 1 rfl zA ?hl ?hb ?_
        case ho=>exact C.o
        case hl=>omega
        case hb=>exact L.o.size
        intro T w3 af c))
     have F:(t++[r]).length=t.length+1:=(by simp)
     have y: ∀v:World,w3.grownBy v T.ownBlock->wA.grownBy v (Value.slice l t.length m).ownBlock/\((T.ownBlock=(Value.slice l t.length m).ownBlock)\/wA.grownBy v none):=fun v V=>by
      rcases c with⟨e,g1,_⟩|⟨g1,q,e,hq⟩
      ·rw[e]at V;exact⟨g1.trans V,.inl e⟩
      ·rw[e]at V;have:=zE g1 V (fun j hj=>by cases hj;exact .inl hq);exact⟨vo this _,.inr this⟩
     have ab:=bO (io L.o (y w3 (jx _ _)).1 (aA _) z);have c2:=IH.o (t++[r]) T w3 (by rw[F];omega) ab.o (by rw[F];exact af);have HF:=bO y
     have ac:T4 (∀i:World,(T.ownBlock=(Value.slice l t.length m).ownBlock)\/wA.grownBy i none->i.ownsRow u.heap.size 3 1 T (t.length+1) (dt (t++[r]))->i.ownsRow u.heap.size 3 1 (.slice l t.length m) t.length (dt t)):=fun i ah h2=>by
      rcases c with⟨_,_,h⟩|⟨_,q,e,hq⟩
      ·exact h i h2
      ·rcases ah with h|h
       ·exfalso;rw[e]at h;have:=(C.o.lt q h.symm).2;omega
       ·exact C.o.kept h (by cases hz:(Value.slice l t.length m).ownBlock<;>simp)
     have HL:=bO F;refine c2.mono ?_;rintro e v ⟨E,⟨who,v2,hw,rfl,s⟩|⟨hw,rfl,s⟩⟩
     ·have D:T4 (js a (k+1) t=some who):=by
       show _=_;rw[K.o,hw]
      have HR:=bO (N.o.trans (HF.o v E).1);go_wp2_with fail;go_ret2;exact⟨HR.o,.inl ⟨who,v2,D.o,rfl,s⟩⟩
     ·have D:T4 (js a (k+1) t=(pool.drop (j+1)).findSome? fun r=>if r∈t then none else js a k (t++[r])):=by
       show _=_;rw[K.o,hw]
      have HR:=bO (N.o.trans (HF.o v E).1);have ad:=bO (ac.o v (HF.o v E).2 (by rw[HL.o]at s;exact s));go_wp2_with fail;go_roundw;case rel=>exact⟨j+1,by go_num,by omega,D,ad,HR⟩
      case measure=>simp[intOf];omega
   ·have G: ¬(j:Int)<(pool.length:Int):=(by omega)
    have K:T4 (js a (k+1) t=none):=by
     show _=_;rw[hX.o,dn (by omega)];rfl
    go_wp2_with fail;go_ret2;exact⟨W.o,.inr ⟨K.o,rfl,X.o⟩⟩
def jt (f:Nat->Bool)(x y:Int):Bool:=decide (0<=x)&&decide (y<=1440)&&decide (x<=y)&&eqm (fun i=>(inl [(x,y)] i&& !f i)&&decide (i<1440)) fun _=>false
theorem BO (f:Nat->Bool)(x y:Int)(w:World):
  Calls prog 160 #[.agg (mv f),.agg #[ag x,ag y]] w fun e P=>e= .returned (.bool (jt f x y))/\ao w P:=by
 have O:=ea;have k:ao w ((w.alloc (.cells (mv f) 39)).alloc (.cells #[ag x,ag y] 171)):=(am _ _).alloc (by simp) _;have s:((w.alloc (.cells (mv f) 39)).alloc (.cells #[ag x,ag y] 171)).heap[w.heap.size]? =ah (mv f) 39:=by(repeat (first|refine dh _ _ _ (by simp only[aP];omega) ?_|exact dA _ _ _ (by first|rfl|simp only[aP])))
 have j:((w.alloc (.cells (mv f) 39)).alloc (.cells #[ag x,ag y] 171)).heap[w.heap.size+1]? =ah #[ag x,ag y] 171:=by(repeat (first|refine dh _ _ _ (by simp only[aP];omega) ?_|exact dA _ _ _ (by first|rfl|simp only[aP])))
 have r: ¬(0<=x/\y<=1440/\x<=y)->jt f x y=false:=fun h=>by
  unfold jt;by_cases s:0<=x<;>by_cases j:y<=1440<;>by_cases C:x<=y<;>simp[s,j,C]at h⊢
 by_cases v:0<=x/\y<=1440/\x<=y
 case neg=>
  rw[r v];clear r;go_enter func160,ntmps160;by_cases T:x<0
  case' neg=>
   by_cases U:1440<y;case' neg=>have N:y<x:=by omega
  all_goals
   go_wp2
   go_ret
   exact⟨rfl,k⟩
 case pos=>
  obtain⟨t,u,m⟩:=v;have e:jt f x y=eqm (fun i=>(inl [(x,y)] i&& !f i)&&decide (i<1440)) fun _=>false:=(by unfold jt;simp[t,u,m]);rw[e];clear e r;have H:=Gq (fun i=>(inl [(x,y)] i&& !f i)&&decide (i<1440)) (fun _=>false);generalize L:(w.alloc (.cells (mv f) 39)).alloc (.cells #[ag x,ag y] 171)=Q at*;have V:=ak 0 j;have X:=ak 1 j;go_enter func160,ntmps160;go_wp2;refine dH (fun M φ W=>ao Q W/\(M 1=true-> ∃g,φ 21= .slice (some (ae g 0)) 1 1/\W.heap[g]? =ah #[ag x,ag y] 171)) [kn 20 (.agg #[ag x,ag y]),td 21,kn 22 (.agg (mv (inl [(x,y)]))),kn 23 (.agg (mv f)),kn 24 (.agg (mv fun i=>(inl [(x,y)] i&& !f i)&&decide (i<1440))),kn 25 (.agg (mv fun _=>false)),kn 26 (.bool (eqm (fun i=>(inl [(x,y)] i&& !f i)&&decide (i<1440)) fun _=>false)),kn 4 (.bool (eqm (fun i=>(inl [(x,y)] i&& !f i)&&decide (i<1440)) fun _=>false))] (fun _=>⟨(aF _ _).drew,(fun h=>by cases h)⟩) (fun _ _ _ _ b h=>⟨au h.1 b,fun c=>(h.2 c).imp fun _ q=>⟨q.1,ai b q.2⟩⟩) (by kernel_rfl) (fun M φ W a G F l z n=> ?_) (fun M φ W D a=> ?_)
  ·simp only[kn,td,d6,aR,a8,Act.put,aD,aJ,aI]at z;subst z;simp only[dz,Nat.reduceAdd]at n;obtain⟨a,E⟩:=a;dsimp only[kn,td,dK,fo,eD,Act.put];and_intros;all_goals first|exact trivial|intro J S R K d
   all_goals try (go_simp;with_reducible exact d _ _ ⟨rfl,aF _ _⟩)
   ·refine fh 171 _ rfl _ (by simp[Act.eval,n]) _ _ _ _ (ai a j) underlying171 rfl (by kernel_rfl) ?_;exact d _ _ ⟨rfl,aF _ _⟩
   ·have b:=am W (.cells #[ag x,ag y] 171);go_simp;exact d _ _ ⟨trivial,au a b,fun _=>⟨_,dX ..,aB W _⟩⟩
   ·obtain⟨g,p,I⟩:=E (J ⟨1,.data⟩ (by simp) rfl rfl);rw[p]at n;go_simp;refine(uT _ _ _ (KN I)).mono ?_;rintro e B ⟨rfl,b⟩;exact d _ _ ⟨rfl,b⟩
   ·refine fh 39 _ rfl _ (by simp[Act.eval,n]) _ _ _ _ (ai a s) cj rfl (bg _) ?_;exact d _ _ ⟨rfl,aF _ _⟩
   ·go_simp;refine(ro _ _ _).mono ?_;rintro e B ⟨rfl,b⟩;exact d _ _ ⟨rfl,b⟩
  ·simp only[kn,td,ep,aR,a8,Act.put,aD,aJ,aI];have A:T4 (ao w W):=au k a.1;clear D a O H;go_wp2;go_ret;exact⟨rfl,A.o⟩
end Go.Proofs.YtpdoienkhgnceaaGreatDoor
