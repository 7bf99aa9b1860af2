/- Texts of the proof. -/
import Derived.Lib.SlicesCompact
import Derived.Test.YtlkehieagdkgiaaGreatDoorPe04
import Derived.Test.YtlkehieagdkgiaaGreatDoorPe05
import Derived.Test.YtlkehieagdkgiaaGreatDoorPe01
set_option maxRecDepth 100000
set_option maxHeartbeats 8000000
namespace Go.Proofs.YtlkehieagdkgiaaGreatDoor
open Go.Proofs.Tryz Go.RowKit Lx Vx Mx Msk
namespace Msk
def rs (f:Nat->Bool):Nat->List (Int×Int)
 |0=>[]
 |n+1=>if f n then(if n≠0/\f (n-1)=true then(rs f n).dropLast++[(((rs f n).getLastD (0,0)).1,(n:Int)+1)] else rs f n++[((n:Int),(n:Int)+1)]) else rs f n
theorem zZ (f:Nat->Bool)(n:Nat): ∀k,(∀i,n<=i->i<n+k->f i=false)->rs f (n+k)=rs f n
 |0,_=>rfl
 |k+1,h=>by
  have c:=zZ f n k fun i a b=>h i a (by omega);have e:f (n+k)=false:=h _ (by omega) (by omega);rw[<-Nat.add_assoc,rs,c,e];simp
theorem CK (f:Nat->Bool)(a:Nat)(b:a=0\/f (a-1)=false): ∀k,(∀i,a<=i->i<a+(k+1)->f i=true)->rs f (a+(k+1))=rs f a++[((a:Int),((a+(k+1):Nat):Int))]
 |0,h=>by
  have e:f a=true:=h a (by omega) (by omega);rw[cY,rs,e]
  have: ¬(a≠0/\f (a-1)=true):=by
   rintro⟨g,c⟩;rcases b with b|b
   ·exact g b
   ·rw[b]at c;cases c
  rw[aB rfl,ax this];simp
 |k+1,h=>by
  have j:=CK f a b k fun i x y=>h i x (by omega);have e:f (a+(k+1))=true:=h _ (by omega) (by omega);have d:f (a+(k+1)-1)=true:=h _ (by omega) (by omega);rw[<-Nat.add_assoc a (k+1) 1,rs,j,e,aB rfl,aB ⟨by omega,d⟩];simp
theorem Nk (f:Nat->Bool)(p a b:Nat)(m:p<=a)(n:a<b)(e:p=0\/f p=false)(d: ∀i,p<=i->i<a->f i=false)(c: ∀i,a<=i->i<b->f i=true):
  rs f b=rs f p++[((a:Int),(b:Int))]:=by
 have j:rs f a=rs f p:=by
  have:=zZ f p (a-p) fun i x y=>d i x (by omega);rw[Nat.add_sub_cancel' m]at this;exact this
 have l:a=0\/f (a-1)=false:=by
  by_cases ha:a=0
  ·exact .inl ha
  ·right;by_cases g:p=a
   ·subst g;rcases e with e|e
    ·exact absurd e ha
    ·have:=c p (by omega) n;rw[e]at this;cases this
   ·exact d _ (by omega) (by omega)
 obtain⟨k,rfl⟩: ∃k,b=a+(k+1):=⟨b-a-1,by omega⟩
 rw[CK f a l k c,j]
theorem O2 (f:Nat->Bool)(p n:Nat)(h:p<=n)(a: ∀i,p<=i->i<n->f i=false):rs f n=rs f p:=by
 have:=zZ f p (n-p) fun i x y=>a i x (by omega);rw[Nat.add_sub_cancel' h]at this;exact this
def good (last:Int)(n:Int):List (Int×Int)->Prop
 |[]=>True
 |s::l=>last<s.1/\s.1<s.2/\s.2<=n/\good s.2 n l
def rN (last:Int):List (Int×Int)->Int
 |[]=>last
 |s::l=>rN s.2 l
theorem AR (n a b:Int)(d:b<=n)(c:a<b): ∀(l:List (Int×Int)) (last:Int),good last n l->rN last l<a->good last n (l++[(a,b)])
 |[],_,_,h=>⟨h,c,d,trivial⟩
 |s::l,_,⟨e,f,g,i⟩,h=>⟨e,f,g,AR n a b d c l s.2 i h⟩
theorem yL (a b:Int): ∀(l:List (Int×Int)) (last:Int),rN last (l++[(a,b)])=b
 |[],_=>rfl
 |_::l,_=>yL a b l _
theorem uz (n m:Int)(h:n<=m): ∀(l:List (Int×Int)) (last:Int),good last n l->good last m l
 |[],_,_=>trivial
 |_::l,_,⟨a,b,c,d⟩=>⟨a,b,Int.le_trans c h,uz n m h l _ d⟩
def len:List (Int×Int)->Int
 |[]=>0
 |s::l=>(s.2-s.1)+len l
theorem CL (a b:Int): ∀l:List (Int×Int),len (l++[(a,b)])=len l+(b-a)
 |[]=>by simp[len]
 |s::l=>by have:=CL a b l;simp only[List.cons_append,len,this];omega
structure lP (f:Nat->Bool)(n:Nat)(l:List (Int×Int)):Prop where
 good:good (-1) n l
 last:rN (-1) l<=n
 many:len l=Msk.cnt f n
 has: ∀i,i<n->(l.any fun s=>decide (s.1<=(i:Int))&&decide ((i:Int)<s.2))=f i
 few:l.length<=n
theorem lP.zero (f:Nat->Bool):lP f 0 []:=⟨trivial,by simp[rN],by simp[len,Msk.cnt],fun i hi=>by omega,by simp⟩
theorem lP.skip {f:Nat->Bool}{n:Nat}{l:List (Int×Int)}(h:lP f n l)(m:Nat)(u:n<=m)(a: ∀i,n<=i->i<m->f i=false):lP f m l:=by
 refine⟨uz _ _ (by omega) _ _ h.good,by have:=h.last;omega,?_,?_,by have:=h.few;omega⟩
 ·have e:m=n+(m-n):=by omega
  rw[h.many,e,zI,G6 (f:=fun j=>f (n+j)) fun j t=>a _ (by omega) (by omega)];rfl
 ·intro i hi;by_cases b:i<n
  ·exact h.has i b
  ·rw[a i (by omega) hi];have g:=h.good
   have c: ∀(l:List (Int×Int)) (last:Int),Msk.good last n l->(l.any fun s=>decide (s.1<=(i:Int))&&decide ((i:Int)<s.2))=false:=by
    intro l;induction l with
    |nil=>intro _ _;rfl
    |cons s l o=>
     intro last k;obtain⟨p,q,r,d⟩:=k;have: ¬(i:Int)<s.2:=(by omega);simp[o _ d,this]
   exact c l _ g
theorem lP.run {f:Nat->Bool}{a:Nat}{l:List (Int×Int)}(h:lP f a l)(ha:rN (-1) l<a)(b:Nat)(m:a<b)(c: ∀i,a<=i->i<b->f i=true):lP f b (l++[((a:Int),(b:Int))]):=by
 refine⟨AR _ _ _ (by omega) (by omega) _ _ (uz _ _ (by omega) _ _ h.good) ha,by rw[yL];omega,?_,?_,?_⟩
 ·have e:b=a+(b-a):=by omega
  have q:cnt f b=cnt f a+(b-a):=by
   rw[e,zI,J3 (f:=fun j=>f (a+j)) fun j n=>c _ (by omega) (by omega)];omega
  rw[CL,h.many,q];omega
 ·intro i hi;rw[List.any_append];by_cases d:i<a
  ·rw[h.has i d];have: ¬(a:Int)<=(i:Int):=(by omega);simp[this]
  ·have g:(a:Int)<=(i:Int):=(by omega);have k:(i:Int)<(b:Int):=(by omega);rw[c i (by omega) hi];simp[g,k]
 ·have:=h.few;simp only[aP,bV,gU];omega
structure tB (f:Nat->Bool)(p:Nat)(l:List (Int×Int)):Prop where
 runs:lP f p l
 same:l=rs f p
 gap:(p=0/\l=[])\/f p=false\/p=1440
theorem tB.zero (f:Nat->Bool):tB f 0 []:=⟨lP.zero f,rfl,.inl ⟨rfl,rfl⟩⟩
theorem tB.next {f:Nat->Bool}{p:Nat}{l:List (Int×Int)}(h:tB f p l)(a b:Nat)(m:p<=a)(j:a<b)(o:b<=1440)(d: ∀i,p<=i->i<a->f i=false)
  (c: ∀i,a<=i->i<b->f i=true) (n:b<1440->f b=false):tB f b (l++[((a:Int),(b:Int))]):=by
 have k:p=0\/f p=false:=by
  rcases h.gap with⟨g,_⟩|g|g
  ·exact .inl g
  ·exact .inr g
  ·omega
 refine⟨(h.runs.skip a m d).run ?_ b j c,by rw[h.same,Nk f p a b m j k d c],?_⟩
 ·have q:=h.runs.last;rcases h.gap with⟨_,g⟩|g|g
  ·subst g;simp[rN];omega
  ·have:a≠p:=fun e=>by
    have:=c a (aD _) j;rw[e,g]at this;cases this
   omega
  ·omega
 ·by_cases h:b=1440
  ·exact .inr (.inr h)
  ·exact .inr (.inl (n (by omega)))
theorem tB.all {f:Nat->Bool}{p:Nat}{l:List (Int×Int)}(h:tB f p l)(b:p<=1440)(a: ∀i,p<=i->i<1440->f i=false):l=rs f 1440/\lP f 1440 l:=
 ⟨by rw[h.same,O2 f p 1440 b a],h.runs.skip 1440 b a⟩
end Msk
namespace Mx
structure Sv where
 len:Int
 bef:Int
 aft:Int
 roles:List (List Int)
def kO (l b a:Int):Bool:=decide (1<=l/\l<=1440/\0<=b/\b<=1440/\0<=a/\a<=1440/\b+l+a<=1440)
def oy (p:List Int)(n:Int):Nat->Nat->Int
 |0,_=>0
 |m+1,i=>if p.getD i 0<0\/n<=p.getD i 0 then 6 else if 0<i/\p.getD i 0<=p.getD (i-1) 0 then 2 else oy p n m (i+1)
def iV (p:List Int)(n:Int):Int:=if p.length<1\/8<p.length then 5 else oy p n p.length 0
def kP (n:Int):List (List Int)->Int
 |[]=>0
 |p::l=>if iV p n≠0 then iV p n else kP n l
theorem DT {l:List (List Int)}{j:Nat}{p:List Int}(n:Int)(h:l[j]? =some p):kP n (l.drop j)=if iV p n≠0 then iV p n else kP n (l.drop (j+1)):=by
 obtain⟨a,b⟩:=aF.1 h;rw[bJ a,b];rfl
def fD (s:Sv)(n:Int):Int:=if kO s.len s.bef s.aft=false then 3 else if s.roles.length<1\/4<s.roles.length then 5 else kP n s.roles
def Gf (s:Sv):Int:=s.bef+s.len+s.aft
def kX (ok:Int->Bool)(roles:List (List Int)):List (List Int):=roles.map fun p=>p.filter ok
def lS (a:List (List Int)):Nat->List Int->Option (List Int)
 |0,t=>some t
 |k+1,t=>(a.getD t.length []).findSome? fun r=>if r∈t then none else lS a k (t++[r])
def yM (W:Int)(f:Nat->Bool):List Int:=((Msk.rs f 1440).filter fun s=>decide (W<=s.2-s.1)).map fun s=>s.1
def BH (W:Int)(a:List (Nat->Bool))(p:List Int):List Int:=p.flatMap fun r=>yM W (a.getD r.toNat fun _=>false)
def sT (W:Int)(a:List (Nat->Bool))(roles:List (List Int)):List Int:=roles.flatMap (BH W a)
def iS (W:Int)(a:List (Nat->Bool))(roles:List (List Int)):List Int:=Go.Lib.compact ((sT W a roles).mergeSort fun x y=>decide (x<=y))
end Mx
def fu (w:World)(v:Value)(a:List (List Int)):Prop:= ∃p c,v= .slice p a.length c/\a.length<9223372036854775808/\ ∀(j:Nat) (l:List Int),a[j]? =some l-> ∃(g o:Nat) (sv:Value),p=some ⟨g,o,none⟩/\w.cell? (ae g (o+j))=some sv/\dM w sv l
theorem fu.below {w w':World}{v:Value}{b:List (List Int)}(h:fu w v b)(a:aq w w'):fu w' v b:=by
 obtain⟨p,c,d,f,i⟩:=h;refine⟨p,c,d,f,fun j l m=> ?_⟩;obtain⟨g,o,sv,e,k,n⟩:=i j l m;exact⟨g,o,sv,e,aj a k,n.below a⟩
def svV (s:Sv)(a:Value):Value:= .agg #[ag s.len,ag s.bef,ag s.aft,a]
theorem uA (l b a:Int)(c:Value)(w:World)(h:kO l b a=true\/(1<=l/\l<=1440/\0<=b/\b<=1440/\0<=a/\a<=1440)):
  Calls prog 138 #[.agg #[ag l,ag b,ag a,c]] w fun e w'=>e= .returned (ag (b+l+a))/\aq w w':=by
 have i:1<=l/\l<=1440/\0<=b/\b<=1440/\0<=a/\a<=1440:=by
  rcases h with h|h
  ·unfold kO at h;rw[bT]at h;omega
  ·exact h
 have f:IntKind.i64.wrap (b+l)=b+l:=by rw[bU];omega
 have g:IntKind.i64.wrap (b+l+a)=b+l+a:=by rw[bU];omega
 have d:=am w (.cells #[ag l,ag b,ag a,c] 36);go_enter func138,ntmps138
 go_wp2_with fail;go_ret;exact⟨rfl,d⟩
theorem K4 (l b a:Int)(f:Value)(w:World):Calls prog 109 #[.agg #[ag l,ag b,ag a,f]] w fun e w'=>e= .returned (.bool (kO l b a))/\aq w w':=by
 have r:=am w (.cells #[ag l,ag b,ag a,f] 36);have g:=aG w (.cells #[ag l,ag b,ag a,f] 36);generalize s:w.alloc (.cells #[ag l,ag b,ag a,f] 36)=t at*;have v:=ak 0 g;have x:=ak 1 g;have y:=ak 2 g;have z:=ak 3 g;have d:=cj r
 have neg: ¬(1<=l/\l<=1440/\0<=b/\b<=1440/\0<=a/\a<=1440/\b+l+a<=1440)->Rb (kO l b a=false):=fun h=>by
  show _=_;unfold kO;exact bn h
 by_cases i:1<=l
 case neg=>
  have c:=neg (by omega);go_enter func109,ntmps109
  go_wp2_with fail;go_ret;exact⟨by(rw[c.o])<;>rfl,d.o⟩
 by_cases j:l<=1440
 case neg=>
  have c:=neg (by omega);go_enter func109,ntmps109
  go_wp2_with fail;go_ret;exact⟨by(rw[c.o])<;>rfl,d.o⟩
 by_cases k:0<=b
 case neg=>
  have c:=neg (by omega);go_enter func109,ntmps109
  go_wp2_with fail;go_ret;exact⟨by(rw[c.o])<;>rfl,d.o⟩
 by_cases m:b<=1440
 case neg=>
  have c:=neg (by omega);go_enter func109,ntmps109
  go_wp2_with fail;go_ret;exact⟨by(rw[c.o])<;>rfl,d.o⟩
 by_cases n:0<=a
 case neg=>
  have c:=neg (by omega);go_enter func109,ntmps109
  go_wp2_with fail;go_ret;exact⟨by(rw[c.o])<;>rfl,d.o⟩
 by_cases p:a<=1440
 case neg=>
  have c:=neg (by omega);go_enter func109,ntmps109
  go_wp2_with fail;go_ret;exact⟨by(rw[c.o])<;>rfl,d.o⟩
 have c1:=uA l b a f t (.inr ⟨i,j,k,m,n,p⟩)
 have q:Rb (kO l b a=decide (b+l+a<=1440)):=by
  show _=_;unfold kO;simp[i,j,k,m,n,p]
 go_enter func109,ntmps109
 go_wp2_with fail;refine c1.mono ?_;rintro e u ⟨rfl,b1⟩;go_wp2_with fail;go_ret;exact⟨by(rw[q.o])<;>rfl,aw d.o b1⟩
theorem Gg (p:List Int)(n:Int)(i:Nat)(hi:i<p.length):oy p n (p.length-i) i=if p.getD i 0<0\/n<=p.getD i 0 then 6 else if 0<i/\p.getD i 0<=p.getD (i-1) 0 then 2 else oy p n (p.length-(i+1)) (i+1):=by
 rw[show p.length-i=(p.length-(i+1))+1 by omega];rfl
theorem AS {l:List Int}{j:Nat}{x:Int}(h:l[j]? =some x):l.getD j 0=x:=by simp[List.getD,h]
theorem K5 (p:List Int)(v:Value)(n:Int)(w:World)(h:dM w v p):Calls prog 110 #[v,ag n] w fun e w'=>e= .returned (ag (iV p n))/\w'=w:=by
 obtain⟨ad,c,rfl,E,D⟩:=h;have l:=cj D;clear D;by_cases N:(p.length:Int)<1
 ·have y:Rb (iV p n=5):=by
   show _=_;unfold iV;rw[aB (by omega)]
  clear l;go_enter func110,ntmps110
  go_wp2_with fail;go_ret;exact⟨by(rw[y.o])<;>rfl,rfl⟩
 by_cases O:8<(p.length:Int)
 ·have y:Rb (iV p n=5):=by
   show _=_;unfold iV;rw[aB (by omega)]
  clear l;go_enter func110,ntmps110
  go_wp2_with fail;go_ret;exact⟨by(rw[y.o])<;>rfl,rfl⟩
 have m:Rb (iV p n=oy p n p.length 0):=by
  show _=_;unfold iV;rw[ax (by omega)]
 go_enter func110,ntmps110
 go_wp2_with fail;go_loopw [5,6,17] (fun _ _ t wr=> ∃j:Nat,t=ag (j:Int)/\j<=p.length/\Rb (iV p n=oy p n (p.length-j) j)/\wr=w) (fun _ _ t _=>p.length-(intOf t).toNat);case atStart=>exact⟨0,rfl,by omega,by exact m,rfl⟩
 case round=>
  obtain⟨j,rfl,P,d,rfl⟩:=hrel;have F:(0:Int)<=(j:Int):=(by omega);by_cases s:j<p.length
  ·have u:(j:Int)<(p.length:Int):=(by omega);obtain⟨r,b⟩: ∃r,p[j]? =some r:=⟨p[j],ay s⟩
   obtain⟨g,o,B,c0⟩:=l.o j _ b;subst B;have a:=Gg p n j s;rw[AS b]at a;by_cases J:r<0
   ·have f:Rb (iV p n=6):=d.o.trans (a.trans (aB (.inl J)));clear a d b l m;go_wp2_with fail;go_ret;exact⟨by(rw[f.o])<;>rfl,rfl⟩
   by_cases C:n<=r
   ·have f:Rb (iV p n=6):=d.o.trans (a.trans (aB (.inr C)));clear a d b l m;go_wp2_with fail;go_ret;exact⟨by(rw[f.o])<;>rfl,rfl⟩
   rw[ax (by omega)]at a;by_cases L:j=0
   ·rw[ax (by omega)]at a;have z: ¬0<(j:Int):=(by omega);have f:=cj (d.o.trans a);clear a d b L;go_wp2_with fail;go_roundw;case rel=>exact⟨j+1,by go_num,by omega,f,trivial⟩
    case measure=>simp[intOf];omega
   ·obtain⟨q,i⟩: ∃q,p[j-1]? =some q:=⟨p[j-1]'(by omega),ay (by omega)⟩
    obtain⟨M,Q,x,c1⟩:=l.o (j-1) _ i;cases x;rw[AS i]at a;obtain⟨k,A⟩: ∃k:Nat,k=j-1:=⟨_,rfl⟩
    rw[<-A]at c1;have K:IntKind.i64.wrap ((j:Int)-1)=(k:Int):=(by rw[bU];omega);have z:0<(j:Int):=(by omega);have G:(0:Int)<=(k:Int):=(by omega);have H:(k:Int)<(p.length:Int):=(by omega);by_cases I:r<=q
    ·rw[aB ⟨by omega,I⟩]at a;have f:=cj (d.o.trans a);clear a d b i l m A;go_wp2_with fail;go_ret;exact⟨by(rw[f.o])<;>rfl,rfl⟩
    ·rw[ax (by omega)]at a;have f:=cj (d.o.trans a);clear a d b i A;go_wp2_with fail;go_roundw;case rel=>exact⟨j+1,by go_num,by omega,f,trivial⟩
     case measure=>simp[intOf];omega
  ·have u: ¬(j:Int)<(p.length:Int):=(by omega)
   have f:Rb (iV p n=0):=by
    show _=_;rw[d.o,show p.length-j=0 by omega];rfl
   clear d l m;go_wp2_with fail;go_ret;exact⟨by(rw[f.o])<;>rfl,rfl⟩
theorem yN (s:Sv)(z:Value)(n:Int)(w:World)(h:fu w z s.roles):Calls prog 63 #[svV s z,ag n] w fun e w'=>e= .returned (ag (fD s n))/\aq w w':=by
 obtain⟨l,b,a,roles⟩:=s;dsimp only at h;unfold svV;dsimp only;have H:=am w (.cells #[ag l,ag b,ag a,z] 36);have y:=aG w (.cells #[ag l,ag b,ag a,z] 36);have L:=cj (h.below H);obtain⟨ad,c,rfl,I,_⟩:=h;generalize P:w.alloc (.cells #[ag l,ag b,ag a,.slice ad roles.length c] 36)=T at*;have c1:=K4 l b a (.slice ad roles.length c) T;have K:=cj H;obtain⟨mb,v⟩:=au (kO l b a);rw[v]at c1;have z0:=ak 0 y;have z1:=ak 1 y;have z2:=ak 2 y;have U:=ak 3 y;have G:=cj v;go_enter func63,ntmps63
 go_wp2_with fail;refine c1.mono ?_;rintro e R ⟨rfl,b1⟩;have Z:=aj b1 U;have d:=cj (aw K.o b1);have B:=cj (L.o.below b1);cases mb with
 |false=>
  have i:Rb (fD ⟨l,b,a,roles⟩ n=3):=by
   show _=_;unfold fD;rw[aB G.o]
  go_wp2_with fail;go_ret;exact⟨by(rw[i.o])<;>rfl,d.o⟩
 |true=>
  have A:Rb (fD ⟨l,b,a,roles⟩ n=if roles.length<1\/4<roles.length then 5 else kP n roles):=by
   show _=_;unfold fD;rw[ax (by rw[G.o];decide)]
  by_cases W:(roles.length:Int)<1
  ·have i:=cj (A.o.trans (aB (by omega)));go_wp2_with fail;go_ret;exact⟨by(rw[i.o])<;>rfl,d.o⟩
  by_cases X:4<(roles.length:Int)
  ·have i:=cj (A.o.trans (aB (by omega)));go_wp2_with fail;go_ret;exact⟨by(rw[i.o])<;>rfl,d.o⟩
  have i:=cj (A.o.trans (ax (by omega)));go_wp2_with fail;go_loopw [6,7,24] (fun _ _ t wr=> ∃j:Nat,t=ag (j:Int)/\j<=roles.length/\Rb (fD ⟨l,b,a,roles⟩ n=kP n (roles.drop j))/\wr=R) (fun _ _ t _=>roles.length-(intOf t).toNat);case atStart=>exact⟨0,rfl,by omega,i,rfl⟩
  case round=>
   obtain⟨j,rfl,Y,D,rfl⟩:=hrel;have O:(0:Int)<=(j:Int):=(by omega);by_cases E:j<roles.length
   ·have u:(j:Int)<(roles.length:Int):=(by omega);obtain⟨pl,q⟩: ∃r,roles[j]? =some r:=⟨roles[j],ay E⟩
    obtain⟨M,V,N,_,p⟩:=B.o;cases N;obtain⟨g,o,sv,k,c0,x⟩:=p j _ q;subst k;have m:=DT n q;have C:=K5 pl sv n wr x;obtain⟨J,k⟩:=au (iV pl n);rw[k]at C m;by_cases F:J=0
    ·subst F;rw[ax (by simp)]at m;have f:=cj (D.o.trans m);go_wp2_with fail;refine C.mono ?_;rintro e S ⟨rfl,rfl⟩;go_wp2_with fail;go_roundw;case rel=>exact⟨j+1,by go_num,by omega,f,trivial⟩
     case measure=>simp[intOf];omega
    ·rw[aB F]at m;have Q:(J==0)=false:=bm.2 F;have f:=cj (D.o.trans m);go_wp2_with fail;refine C.mono ?_;rintro e S ⟨rfl,rfl⟩;go_wp2_with fail;go_ret;exact⟨by(rw[f.o])<;>rfl,d.o⟩
   ·have u: ¬(j:Int)<(roles.length:Int):=(by omega)
    have f:Rb (fD ⟨l,b,a,roles⟩ n=0):=by
     show _=_;rw[D.o,dq (by omega)];rfl
    go_wp2_with fail;go_ret;exact⟨by(rw[f.o])<;>rfl,d.o⟩
def Aa (f:Nat->Bool)(p r:Nat):Prop:=p<=r/\r<=1440/\(∀i,p<=i->i<r->f i=false)/\(r<1440->f r=true)
theorem K6 (f:Nat->Bool)(k q r x:Nat)(l:q=k/64)(m:r=k%64)(e:x=wd f q/2^r)(d:x=0): ∀i,k<=i->i<64*q+64->f i=false:=by
 intro i g j
 have a:(wd f q/2^r).testBit (i-k)=f i:=by
  rw[uY,jB];have b:64*q+(i-k+r)=i:=(by omega);have c:i-k+r<64:=(by omega);simp[b,c]
 rw[<-e,d]at a;simpa using a.symm
theorem K7 (f:Nat->Bool)(k q r x t:Nat)(o:q=k/64)(p:r=k%64)(n:x=wd f q/2^r)(c:x.testBit t=true)(m: ∀j,j<t->x.testBit j=false):
  f (k+t)=true/\k+t<64*q+64/\ ∀i,k<=i->i<k+t->f i=false:=by
 subst n
 have d: ∀j,(wd f q/2^r).testBit j=(decide (j+r<64)&&f (k+j)):=by
  intro j;rw[uY,jB];have e:64*q+(j+r)=k+j:=(by omega);rw[e]
 rw[d]at c;simp only[bz,bT]at c;refine⟨c.2,by omega,fun i a b=> ?_⟩;have:=m (i-k) (by omega);rw[d]at this;have g:i-k+r<64:=by omega
 have l:k+(i-k)=i:=by omega
 simpa[g,l] using this
theorem uB (f:Nat->Bool)(p:Nat)(hp:p<=1440)(w:World)(K:Tab w):
  Calls prog 189 #[.agg (mv f),ag p] w fun e w'=>(∃r:Nat,e= .returned (ag r)/\Aa f p r)/\aq w w':=by
 have S:(w.alloc (.cells (mv f) 55)).heap[w.heap.size]? =ah (mv f) 55:=by(repeat (first|refine dt _ _ _ (by simp only[aV];omega) ?_|exact dJ _ _ _ (by first|rfl|simp only[aV])))
 have g:aq w (w.alloc (.cells (mv f) 55)):=am _ _;have n:=K.later g;have Q:Rb (Tab (w.alloc (.cells (mv f) 55))):=n;clear K n;go_enter func189,ntmps189;go_wp2;go_loop [5] (fun a=> ∃k:Nat,p<=k/\k<=1472/\a=ag k/\ ∀i,p<=i->i<k->f i=false) (fun a=>1472-(intOf a).toNat);case atStart=>exact⟨p,aD _,by omega,rfl,fun i a b=>by omega⟩
 case round=>
  obtain⟨k,X,V,rfl,v⟩:=hrel;have C:Rb (∀i,p<=i->i<k->f i=false):=v;clear v;by_cases W:k<1440
  ·obtain⟨q,y⟩: ∃q:Nat,q=k/64:=⟨_,rfl⟩
   obtain⟨r,D⟩: ∃r:Nat,r=k%64:=⟨_,rfl⟩
   have t1:(k:Int)/64=(q:Int):=(by omega);have t2:(k:Int)%64=(r:Int):=(by omega);have A:q<23:=(by omega);have T:(0:Int)<=(q:Int):=(by omega);have U:(q:Int)<23:=(by omega);have Y:(r:Int)<64:=(by omega);have ca:=li S q A;obtain⟨x,B⟩: ∃x:Nat,x=wd f q/2^r:=⟨_,rfl⟩
   have I:x<18446744073709551616:=(by have:=iq f q;have:=Nat.div_le_self (wd f q) (2^r);omega);have p1:(wd f q:Int)/2^r=(x:Int):=(by rw[B];simp);have F:=fun w=>vV k (by omega) w;obtain⟨m,H⟩: ∃m:Nat,m=64*(k/64)+64:=⟨_,rfl⟩
   rw[<-H]at F;by_cases c:x=0
   ·have z:=K6 f k q r x y D B c;have x0:((x:Int) !=0)=false:=(by simp[c]);have R:Rb (∀i,k<=i->i<64*q+64->f i=false):=z;have u:m=64*q+64:=(by omega);have O:Rb (m=64*q+64):=u;have P:Rb (q=k/64):=y;clear z B c y D H u;go_wp2_with(go_at_call 85;refine(F _).mono ?_;rintro e w' ⟨rfl,rfl⟩)
    have hM:=O.o;have hQ:=P.o;go_round
    case rel=>
     refine⟨m,by omega,by omega,rfl,fun i a b=> ?_⟩;by_cases d:i<k
     ·exact C.o i a d
     ·exact R.o i (by omega) (by omega)
    case measure=>simp[intOf];omega
   ·obtain⟨t,L,s,l,J⟩:=Oo x I c _ Q.o;obtain⟨M,Z,N⟩:=K7 f k q r x t y D B s l;have x0:((x:Int) !=0)=true:=(by simp[c]);have E:Rb (f (k+t)=true/\k+t<64*q+64/\ ∀i,k<=i->i<k+t->f i=false):=⟨M,Z,N⟩
    have HE:Rb (∀j,j<t->x.testBit j=false):=l;clear B c y D H s l M N F;by_cases G:k+t<=1440
    ·go_wp2_with(go_at_call 212;refine J.mono ?_;rintro e w' ⟨rfl,rfl⟩)
     go_ret;refine⟨⟨k+t,sH (tZ (by omega)),?_⟩,g⟩;refine⟨by omega,G,fun i a b=> ?_,fun _=>E.o.1⟩;by_cases d:i<k
     ·exact C.o i a d
     ·exact E.o.2.2 i (by omega) b
    ·go_wp2_with(go_at_call 212;refine J.mono ?_;rintro e w' ⟨rfl,rfl⟩)
     go_ret;refine⟨⟨1440,sH (tZ (by omega)),?_⟩,g⟩;refine⟨by omega,by omega,fun i a b=> ?_,fun h=>by omega⟩;by_cases d:i<k
     ·exact C.o i a d
     ·exact E.o.2.2 i (by omega) (by omega)
  ·go_wp2;go_ret;refine⟨⟨1440,sH (tZ (by omega)),?_⟩,g⟩;exact⟨by omega,by omega,fun i a b=>C.o i a (by omega),fun h=>by omega⟩
def L3 (B:Nat)(w w':World):Prop:=w.heap.size<=w'.heap.size/\ ∀k c,B<=k->w.heap[k]? =ah c 55->w'.heap[k]? =ah c 55
theorem Nl:mv (inl [((0:Int),(1440:Int))])=mv fun i=>decide (i<1440):=jm fun i _=>by
 have:((i:Int)<1440)=(i<1440):=by apply propext;omega
 simp[inl,this]
theorem IR {W:World}{g:Nat}{x y:Int}{t:TypeId}(a:W.heap[g]? =ah #[ag x,ag y] t):Row W (.slice (some (ae g 0)) 1 1) [(x,y)]:=by
 refine .inr ⟨_,0,1,rfl,by simp,fun j b=> ?_⟩;have:j=0:=by simpa using b
 subst this;exact⟨by rw[aZ _ _ _ _ _ _ a];rfl,by rw[aZ _ _ _ _ _ _ a];rfl⟩
theorem IS (f:Nat->Bool)(K:Nat)(C:Array Value)(I:Nat->World->Prop)(R:World->Prop)(w:World)(hI:I 0 w)
  (eK: ∀t w,(callFunc K t).run prog w= .ok (.enter K t) w)
  (hT: ∀p wr,I p wr->Tab wr) (d: ∀p wr w',I p wr->aq wr w'->I p w')
  (H: ∀(p a b:Nat) (wr:World),w.heap.size<=wr.heap.size->I p wr->p<=a->a<b->b<=1440->(∀i,p<=i->i<a->f i=false)->(∀i,a<=i->i<b->f i=true)->(b<1440->f b=false)->
    Calls prog K (#[.agg #[ag a,ag b]]++C) wr fun e w'=>((e= .returned (.bool true)/\I b w')\/(e= .returned (.bool false)/\R w'))/\L3 w.heap.size wr w')
  (S: ∀(p:Nat) (wr:World),I p wr->p<=1440->(∀i,p<=i->i<1440->f i=false)->R wr):
  Calls prog 176 #[.agg (mv f),.func (.func K) #[] C] w fun e w'=>e= .returned (.tuple #[])/\R w':=by
 have hz:=eR;have h1:(w.alloc (.cells (mv f) 55)).heap[w.heap.size]? =ah (mv f) 55:=by(repeat (first|refine dt _ _ _ (by simp only[aV];omega) ?_|exact dJ _ _ _ (by first|rfl|simp only[aV])))
 go_enter func176,ntmps176;go_wp2;obtain⟨w0,J⟩:=au (w.alloc (.cells (mv f) 55));have bw:aq w w0:=by rw[<-J];exact am _ _
 rw[J]at h1;simp only[J];refine se 6 (fun M φ W=>aq w0 W/\(M 1=true-> ∃g,φ 8= .slice (some (ae g 0)) 1 1/\W.heap[g]? =ah #[ag 0,ag 1440] 57)/\(M 5=true-> ∃g c,φ 4=ab g 0/\w.heap.size<g/\W.heap[g]? =ah (mv c) 55)) [kn 7 (.agg #[ag 0,ag 1440]),td 8,kn 9 (.agg (mv fun i=>decide (i<1440))),kn 10 (.agg (mv f)),kn 11 (.agg (mv fun i=>(decide (i<1440)&& !f i)&&decide (i<1440))),td 4,nk] (fun _=>⟨(aH _ _).drew,(fun h=>by cases h),(fun h=>by cases h)⟩) (fun _ _ _ _ j h=>⟨aw h.1 j,fun c=>(h.2.1 c).imp fun _ q=>⟨q.1,ai j q.2⟩,fun c=>(h.2.2 c).imp fun _ q=>q.imp fun _ q=>⟨q.1,q.2.1,ai j q.2.2⟩⟩) (by kernel_rfl) (by kernel_rfl) (fun M φ W q6 B F l hl L=> ?_);simp only[kn,td,nk,dX,aQ,aT,Act.put,aA,aK,aJ]at hl;subst hl;simp only[dn,Nat.reduceAdd]at L;obtain⟨B,E,P⟩:=B;have k:=ai B h1;have a1:=B.size;have a3:=aI h1;dsimp only[kn,td,nk,dy,eJ,dY,Act.put];and_intros;all_goals first|exact trivial|intro hw hn hm K' D
 all_goals try (go_simp;with_reducible exact D _ _ ⟨rfl,aH _ _⟩)
 ·have j:=am W (.cells #[ag 0,ag 1440] 57);go_simp;exact D _ _ ⟨trivial,fun _=>⟨aw B j,fun _=>⟨_,dV ..,aG W _⟩,fun c=>(P (by simpa using c)).imp fun _ q=>q.imp fun _ q=>⟨(dH (by decide)).trans q.1,q.2.1,ai j q.2.2⟩⟩,(fun c=>by simp[q6]at c)⟩
 ·obtain⟨g,e8,hg⟩:=E (hw ⟨1,.data⟩ (by simp) rfl rfl);rw[e8]at L;go_simp;refine(um _ _ _ (IR hg)).mono ?_;rintro e W' ⟨rfl,j⟩;exact D _ _ ⟨by rw[Nl],j⟩
 ·refine eN 55 _ rfl _ (by simp[Act.eval,L]) _ _ _ _ k dm rfl (bl _) ?_;exact D _ _ ⟨rfl,aH _ _⟩
 ·go_simp;refine(qN _ _ _).mono ?_;rintro e W' ⟨rfl,j⟩;exact D _ _ ⟨rfl,j⟩
 ·have j:=am W (.cells (mv fun _=>false) 55);go_simp;exact D _ _ ⟨trivial,fun _=>⟨aw B j,fun c=>(E (by simpa using c)).imp fun _ q=>⟨(dH (by decide)).trans q.1,ai j q.2⟩,fun _=>⟨_,_,dV ..,by omega,aG W _⟩⟩,(fun c=>by simp[q6]at c)⟩
 ·obtain⟨g8,e8,_⟩:=E (hw ⟨1,.phase⟩ (by simp) rfl rfl);obtain⟨g,c,e4,a2,T⟩:=P (hw ⟨5,.data⟩ (by simp) rfl rfl);rw[e8,e4]at L;refine eQ 55 _ _ rfl _ (mv fun i=>(decide (i<1440)&& !f i)&&decide (i<1440)) (by simp[Act.eval,L]) (by simp[Act.eval,L]) _ _ T (bl _) (by simp[di]) (dW _) ?_;refine D undef _ ⟨trivial,(fun c=>by simp at c),fun _=> ?_⟩;simp only[d8,aQ,aT,Act.put,aA,aK,aJ,e8,e4];have hg:=aL _ _ _ (mv fun i=>(decide (i<1440)&& !f i)&&decide (i<1440)) _ _ T;replace k:=(aW W g w.heap.size (mv fun i=>(decide (i<1440)&& !f i)&&decide (i<1440)) (by omega)).trans k;have Q:=below_setRow (aw bw B) (by omega:w.heap.size<=g) (mv fun i=>(decide (i<1440)&& !f i)&&decide (i<1440));have O:=d 0 w _ hI Q;generalize W.setRow g (mv fun i=>(decide (i<1440)&& !f i)&&decide (i<1440))=W at*;have ak:=hT 0 W O
  go_wp2_with(first
   |(refine aR rfl 55 _ rfl _ rfl _ _ _ _ k dm rfl (bl _) ?_)
   |(go_at_call 189;refine(uB f 0 (by omega) _ ak).mono ?_;rintro e w1 ⟨⟨r,rfl,hr⟩,m⟩))
  have aa:=d 0 W w1 O m;have av:=ai m k;have ao:=ai m hg;have az:w.heap.size<=w1.heap.size:=(by have:=Q.size;have:=m.size;omega);have HR:Rb (Aa f 0 r):=hr;go_loopw [5] (fun v wr=> ∃p a:Nat,v=ag a/\Aa f p a/\I p wr/\w.heap.size<=wr.heap.size/\wr.heap[w.heap.size]? =ah (mv f) 55/\wr.heap[g]? =ah (mv fun i=>(decide (i<1440)&& !f i)&&decide (i<1440)) 55) (fun v _=>(1440-intOf v).toNat);case atStart=>exact⟨0,r,rfl,HR.o,aa,az,av,ao⟩
  case round=>
   obtain⟨p,a,rfl,G,A,a1,ax,U⟩:=hrel;obtain⟨q1,q2,q3,q4⟩:=G;by_cases X:a<1440
   ·have G:=q4 X;have af:=hT p wr A;have Q3:Rb (∀i,p<=i->i<a->f i=false):=q3;have Q4:Rb (f a=true):=G
    go_wp2_with(first
     |(refine aR rfl 55 _ rfl _ rfl _ _ _ _ U dm rfl (bl _) ?_)
     |(go_at_call 189;refine(uB _ a (by omega) _ af).mono ?_;rintro e w3 ⟨⟨b,rfl,j⟩,n⟩))
    obtain⟨b1,b2,b3,b4⟩:=j;have ha:=Q4.o
    have u: ∀i,a<=i->i<b->f i=true:=fun i x y=>by
     have z:i<1440:=(by omega);have:=b3 i x y;simpa[z] using this
    have al:a<b:=by
     rcases Nat.lt_or_ge a b with h|h
     ·exact h
     ·have e:b=a:=(by omega);subst e;have:=b4 X;simp[ha]at this
    have an:b<1440->f b=false:=fun h=>by
     have:=b4 h;simpa[h] using this
    have ac:=d p wr w3 A n;have a0:w.heap.size<=w3.heap.size:=(by have:=n.size;omega);have ay:=ai n ax;have ap:=ai n U;have hc:=H p a b w3 a0 ac q1 al b2 Q3.o u an;have Hyes:Rb (∀i,a<=i->i<b->f i=true):=u;refine hc.mono ?_;rintro e w4 ⟨⟨rfl,N⟩|⟨rfl,ad⟩,⟨a4,V⟩⟩
    ·have Y:=V _ _ (aD _) ay;have ar:=V _ _ (by omega) ap;have aj:=hT b w4 N
     go_wp2_with(first
      |(refine aR rfl 55 _ rfl _ rfl _ _ _ _ Y dm rfl (bl _) ?_)
      |(go_at_call 189;refine(uB f b b2 _ aj).mono ?_;rintro e w5 ⟨⟨r',rfl,Z⟩,s⟩))
     go_roundw;case rel=>exact⟨b,r',rfl,Z,d b w4 w5 N s,by have:=s.size;omega,ai s Y,ai s ar⟩
     case measure=>
      have:=Z.1;simp[intOf];omega
    ·go_wp2;refine aX (eW rfl _ _ _) rfl ?_;exact⟨rfl,ad⟩
   ·have Hend:Rb (R wr):=S p wr A (by omega) (fun i x y=>q3 i x (by omega));go_wp2;go_end0;exact⟨rfl,Hend.o⟩
def jb:List (Int×Int)->List Value
 |[]=>[]
 |s::l=>ag s.1::ag s.2::jb l
theorem uC (x y:Int): ∀l:List (Int×Int),jb (l++[(x,y)])=jb l++[ag x,ag y]
 |[]=>rfl
 |s::l=>by simp[jb,uC x y l]
theorem CM: ∀(l:List (Int×Int)) (j:Nat),j<l.length->(jb l)[j*2]? =some (ag (l.getD j (0,0)).1)/\(jb l)[j*2+1]? =some (ag (l.getD j (0,0)).2)
 |[],j,h=>by simp at h
 |s::l,0,_=>by simp[jb]
 |s::l,j+1,h=>by
  have:=CM l j (by simpa using h);have e:(j+1)*2=j*2+1+1:=(by omega);rw[e];simpa[jb] using this
theorem O3:(prog.info? 57).map (fun i=>(i.zero,i.size,i.bytes))=some (some (.agg #[ag 0,ag 0]),2,16):=by kernel_rfl
theorem AT:prog.underlying 89=some (.slice 57):=by kernel_rfl
theorem ir {w w':World}{a:Nat}{e:TypeId}{size:Nat}{v:Value}{n:Nat}{xs:List Value}(h:w.ownsRow a e size v n xs)(i:aq w w'):w'.ownsRow a e size v n xs:=by
 obtain⟨f,c⟩:=h;refine⟨f,?_⟩;rcases c with c|⟨g,cap,b,k,j,d,r⟩
 ·exact .inl c
 ·exact .inr ⟨g,cap,b,k,j,(i.block g (aI d)).trans d,r⟩
theorem rO {w:World}{a:Nat}{e:TypeId}{size:Nat}{v:Value}{n:Nat}{xs:List Value}(h:w.ownsRow a e size v n xs){k:Nat}{c:Array Value}{t:TypeId}(d:w.heap[k]? =ah c t)(m:t≠e):v.ownBlock≠some k:=by
 obtain⟨_,b⟩:=h;rcases b with⟨b,_⟩|⟨g,cap,f,o,p,l,r⟩
 ·subst b;simp[Value.ownBlock]
 ·subst o;intro i;have j:g=k:=(by simpa[Value.ownBlock] using i);subst j;rw[l]at d;exact m (Obj.cells.inj (aN d)).2.1.symm
theorem v8 {w:World}{a:Nat}{v:Value}{l:List (Int×Int)}(h:w.ownsRow a 57 2 v l.length (jb l))(q:l.length<9223372036854775808):Row w v l:=by
 obtain⟨_,e⟩:=h;rcases e with⟨e,f⟩|⟨g,cap,d,r,x,i,f,s,t,o⟩
 ·exact .inl ⟨0,e,iu.1 f⟩
 ·refine .inr ⟨g,0,cap,r,q,fun j p=> ?_⟩;obtain⟨m,n⟩:=CM l j p
  have b: ∀k u,(jb l)[k]? =some u->d[k]? =some u:=fun k u c=>by
   rw[<-o,jz]at c;split at c
   ·simpa using c
   ·cases c
  rw[cY,aZ _ _ _ _ _ _ i,aZ _ _ _ _ _ _ i];exact⟨b _ _ m,b _ _ n⟩
theorem xq (x y:Int)(v:Value)(l:List (Int×Int))(a t:Nat)(w:World)(R:l.length<=1440)(m:a<=w.heap.size)(E:a<=t)
  (s:w.heap[t]? =ah #[v] 89) (f:w.ownsRow a 57 2 v l.length (jb l)):
  Calls prog 177 #[.agg #[ag x,ag y],ab t 0] w fun e w'=>
   e= .returned (.bool true)/\Below a w w'/\(∃D,w'.heap[t]? =ah #[D] 89/\w'.ownsRow a 57 2 D (l++[(x,y)]).length (jb (l++[(x,y)])))/\ ∀B,L3 B w w':=by
 obtain⟨S,hi,I,J,K⟩:=jw O3;have c1:=cell_of_one s;have f1:=free_of_one s;have T:=aI s;have H:=rO f s (by decide);go_enter func177,ntmps177;go_wp2_with(at_builtin;refine jf _ rfl _ _ 89 rfl a 57 S (.agg #[ag 0,ag 0]) 2 16 AT hi I J K rfl (by decide) v l.length (jb l) rfl ((f.alloc _).alloc _) ⟨w.heap.size+1,0,none⟩ 1 1 [ag x,ag y] rfl rfl ?c1 ?c2 ?c3 ?c4 ?c5 ?_)
 case c1=>
  intro j u n;match j,n with
  |0,n=>simp at n;subst n;simp[Addr.add]
  |1,n=>simp at n;subst n;simp[Addr.add]
 case c2=>intro u N;simp at N;rcases N with rfl|rfl<;>rfl
 case c3=>unfold maxLen;omega
 case c4=>omega
 case c5=>simp;omega
 ·intro D L d b _;have q:=dt _ (.cells #[ag x,ag y] 57) _ T s;have r:=dt _ (.cells #[ag x,ag y] 57) _ (aI q) q;have i:=(b.block _ (aI r) (fun e=>H e.symm)).trans r;have c3:=cell_of_one i;have f3:=free_of_one i;have C:=rO d i (by decide)
  obtain⟨g,cap,rfl⟩: ∃g cap,D= .slice (some (ae g 0)) (l.length+1) cap:=by
   rcases d.2 with⟨_,h⟩|⟨g,cap,_,h,_⟩
   ·omega
   ·exact⟨g,cap,h⟩
  have F:Below a w L:=(((aH _ _).alloc m _).alloc (by simp only[aV];omega) _).grown b (by simp only[aV];omega) (fun k p=>(f.lt k p).1);have U:Rb ((w.alloc (.cells #[ag x,ag y] 57)).heap.size=w.heap.size+1):=aV _ _;have O:Rb (L.ownsRow a 57 2 (.slice (some (ae g 0)) (l.length+1) cap) (l.length+1) (jb l++[ag x,ag y])):=d;have M:Rb (((w.alloc (.cells #[ag x,ag y] 57)).alloc (.cells #[ag x,ag y] 57)).grownBy L v.ownBlock):=b;clear c1 f1 q r d b;go_wp2;go_ret;refine⟨rfl,F.setCell E _,⟨_,one_setCell i,?_⟩,fun B=>⟨?_,fun k c _ p=> ?_⟩⟩
  ·rw[uC];simp only[aP,bV,gU,cY];exact ownsRow_setCell_other O.o C _
  ·have Q:=M.o.size;simp only[aV]at Q;simp;omega
  ·have z:=dt _ (.cells #[ag x,ag y] 57) _ (aI p) p;have A:=dt _ (.cells #[ag x,ag y] 57) _ (aI z) z;have G:=(M.o.block _ (aI A) (fun e=>rO f p (by decide) e.symm)).trans A;refine(aO _ _ _ _ fun e=> ?_).trans G;have P:k=t:=e;subst P;rw[s]at p;exact absurd (Obj.cells.inj (aN p)).2.1 (by decide)
structure SI (f:Nat->Bool)(w0:World)(Bl:Nat)(p:Nat)(w:World):Prop where
 bel:aq w0 w
 row: ∃v,w.heap[Bl]? =ah #[v] 89/\w.ownsRow w0.heap.size 57 2 v (rs f p).length (jb (rs f p))
 seen:tB f p (rs f p)
 le:p<=1440
def SR (f:Nat->Bool)(a:World)(b:Nat)(w:World):Prop:=
 aq a w/\(∃v,w.heap[b]? =ah #[v] 89/\w.ownsRow a.heap.size 57 2 v (rs f 1440).length (jb (rs f 1440)))/\lP f 1440 (rs f 1440)
theorem DU (f:Nat->Bool)(i w:World)(d:Nat)(y:Tab i)(B:i.heap.size<=d)(x:SI f i d 0 w):
  Calls prog 176 #[.agg (mv f),.func (.func 177) #[] #[ab d 0]] w fun e w'=>
   e= .returned (.tuple #[])/\SR f i d w':=by
 refine IS f 177 _ (SI f i d) (SR f i d) w x (fun _ _=>by simp[go_sem]) (fun p wr h=>y.later h.bel) ?_ ?_ ?_
 ·intro p wr w' h k;obtain⟨v,n,o⟩:=h.row;exact⟨aw h.bel k,⟨v,ai k n,ir o k⟩,h.seen,h.le⟩
 ·intro p a b wr A h s q l g m r;obtain⟨v,n,o⟩:=h.row;have t:=h.seen.next a b s q l g m r;have e:rs f b=rs f p++[((a:Int),(b:Int))]:=t.same.symm;refine(xq a b v (rs f p) i.heap.size d wr (by have:=h.seen.runs.few;have:=h.le;omega) h.bel.size B n o).mono ?_;rintro C w' ⟨rfl,k,c,j⟩;rw[<-e]at c t;exact⟨.inl ⟨rfl,h.bel.trans k,c,t,l⟩,j _⟩
 ·intro p wr h z g;obtain⟨e,u⟩:=h.seen.all z g;have c:=h.row;rw[e]at c u;exact⟨h.bel,c,u⟩
def dz (l:List Int):List Value:=l.map fun n=>ag n
theorem kQ (l:List Int):(dz l).length=l.length:=by simp[dz]
theorem lE (l:List Int)(n:Int):dz (l++[n])=dz l++[ag n]:=by simp[dz]
theorem ro:prog.underlying 37=some (.slice 3):=by kernel_rfl
theorem o6:(prog.info? 3).map (fun i=>(i.zero,i.size,i.bytes))=some (some (ag 0),1,8):=by kernel_rfl
theorem o7 {t:TypeId}{z:Value}{a b:Nat}(h:(prog.info? t).map (fun i=>(i.zero,i.size,i.bytes))=some (some z,a,b)): ∃i,prog.info? t=some i/\i.zero=some z/\i.size=a/\i.bytes=b:=by
 cases hi:prog.info? t with
 |none=>rw[hi]at h;cases h
 |some i=>
  rw[hi]at h;have c:=aN h;exact⟨i,rfl,congrArg (fun x=>x.1) c,congrArg (fun x=>x.2.1) c,congrArg (fun x=>x.2.2) c⟩
theorem rq {w:World}{a:Nat}{v:Value}{l:List Int}(h:w.ownsRow a 3 1 v l.length (dz l))(f:l.length<9223372036854775808):dM w v l:=by
 rcases h.2 with⟨rfl,e⟩|⟨g,cap,c,rfl,_,i,_,_,_,k⟩
 ·refine⟨none,0,by rw[e],f,fun j n b=> ?_⟩;have:=(aF.1 b).1;omega
 ·refine⟨_,cap,rfl,f,fun j n b=>⟨g,0,rfl,?_⟩⟩;have d:=(aF.1 b).1;rw[cY,aZ w g j c 3 (0,0) i,<-bx];have e:(dz l)[j]? =some (ag n):=(by simp[dz,b]);rw[<-k,Nat.mul_one,dP d]at e;exact e
theorem DV (w:World)(a:Nat)(v:Value)(l:List Int)(r:Int)(f:w.ownsRow a 3 1 v l.length (dz l))(t c:Nat)(hn:w.cell? (ae t 0)=some (ag r))(F:TypeId)(hl:l.length<=1000000)(hb:a<=w.heap.size):
  ∃D w',(Builtin.append_ #[37,37] F #[v,.slice (some (ae t 0)) 1 c]).run prog w= .ok D w'/\w'.ownsRow a 3 1 D (l.length+1) (dz (l++[r]))/\
   ((D.ownBlock=v.ownBlock/\w.grownBy w' v.ownBlock/\ ∀S:World,S.ownsRow a 3 1 D (l.length+1) (dz (l++[r]))->S.ownsRow a 3 1 v l.length (dz l))\/(w.grownBy w' none/\ ∃g,D.ownBlock=some g/\w.heap.size<=g)):=by
 obtain⟨i,hi,W,q,I⟩:=o7 o6
 have b: ∀(j:Nat) u,[ag r][j]? =some u->w.cell? ((⟨t,0,none⟩:Addr).add j)=some u:=fun j u C=>by
  match j,C with
  |0,C=>cases aN C;simpa[Addr.add] using hn
  |j+1,C=>simp at C
 have O:l.length+1<=maxLen:=by unfold maxLen;omega
 have grown: ∀(d:Nat),(w.drew.alloc (.cells ((dz l).toArray++[ag r].toArray++Builtin.zeroCells (ag 0).cells (grownCap w (l.length+1) d 3-(l.length+1))) 3)).ownsRow a 3 1 (.slice (some (ae w.heap.size 0)) (l.length+1) (grownCap w (l.length+1) d 3)) (l.length+1) (dz (l++[r]))/\
   w.grownBy (w.drew.alloc (.cells ((dz l).toArray++[ag r].toArray++Builtin.zeroCells (ag 0).cells (grownCap w (l.length+1) d 3-(l.length+1))) 3)) none:=by
  intro d;have L:=grownCap_ge w (l.length+1) d 3;have o:=grownCap_le_maxLen w (l.length+1) d 3 O;refine⟨⟨by rw[kQ];simp,.inr ⟨w.heap.size,_,_,rfl,hb,aG w.drew _,L,o,?_,?_⟩⟩,⟨rfl,rfl,rfl,by simp,fun k E _=>Array.getElem?_push_lt E|>.trans (gh E).symm⟩⟩
  ·simp only[Array.size_append,List.size_toArray,size_zeroCells,kQ];show l.length+[ag r].length+(grownCap w (l.length+1) d 3-(l.length+1))*1=_;simp only[bV,gU];omega
  ·rw[lE];simp only[Array.toList_append,ef];rw[<-ef,show(l.length+1)*1=(dz l++[ag r]).length by simp[kQ]];exact List.take_left
 rcases f.2 with⟨rfl,X⟩|⟨g,cap,n,rfl,H,V,ab,o,J,s⟩
 ·have M:l=[]:=gZ X;subst M;have B:=run_append_nil (P:=prog) w 37 F 3 i (ag 0) ro hi W ⟨t,0,none⟩ 1 c [ag r] (by rw[q];rfl) b (by omega) (by omega) (by omega);have A:=grown 0;refine⟨_,_,B,?_,.inr ⟨?_,_,rfl,aD _⟩⟩
  ·simpa[dz] using A.1
  ·simpa[dz] using A.2
 ·by_cases m:l.length+1<=cap
  ·have z:l.length*i.size+[ag r].length<=n.size:=(by rw[q,J];simp;omega);have B:=run_append_room (P:=prog) w 37 F 3 i ro hi g l.length cap n V ⟨t,0,none⟩ 1 c [ag r] (by rw[q];rfl) b (by simp[Value.oneCell']) m z;refine⟨_,_,B,⟨by rw[kQ];simp,.inr ⟨g,cap,_,rfl,H,aL w g n _ 3 _ V,m,o,?_,?_⟩⟩,.inl ⟨rfl,⟨rfl,rfl,rfl,by simp,fun k _ E=>aW w g k _ (fun e=>E (by simp[Value.ownBlock,e]))⟩,fun S Z=> ?_⟩⟩
   ·rw[q];simp only[List.size_toArray,aP,eI,fz,df];simp only[bV,gU];omega
   ·rw[q,s,lE,show(l.length+1)*1=(dz l++[ag r]).length by simp[kQ]];exact List.take_left
   ·refine⟨f.1,?_⟩;rcases Z.2 with⟨e,_⟩|⟨g',T,x,e,G,K,aa,N,Q,R⟩
    ·cases e
    ·injection e with y e2 Y;injection y with y;injection y with y;subst y Y;refine .inr ⟨g,cap,x,rfl,G,K,by omega,N,Q,?_⟩;have U:=congrArg (List.take (l.length*1)) R;rw[List.take_take,lE,fg (by omega),List.take_append_of_le_length (by rw[kQ];omega)]at U;rw[U];exact dh (by rw[kQ];omega)
  ·have p: ∀j u,(dz l)[j]? =some u->w.cell? ((⟨g,0,none⟩:Addr).add j)=some u:=f.cells (g:=g) rfl;have B:=run_append_grow (P:=prog) w 37 F 3 i (ag 0) ro hi W ⟨g,0,none⟩ l.length cap (dz l) (by rw[q];exact f.1) p ⟨t,0,none⟩ 1 c [ag r] (by rw[q];rfl) b (by omega) (by omega) (growslice_fits (by omega) (by rw[I];omega));exact⟨_,_,B,(grown cap).1,.inr ⟨(grown cap).2,_,rfl,aD _⟩⟩
theorem fT {B:Nat}{c w w':World}{row:Option Nat}(a:Below B c w)(b:w.grownBy w' row)(f:B<=c.heap.size)(g: ∀k,row=some k->B<=k):Below B c w':=
 ⟨b.os.trans a.os,b.tape.trans a.tape,b.output.trans a.output,bg a.size b.size,fun k d=>(b.block k (aU (aU d f) a.size) (fun e=>by have:=g k e.symm;omega)).trans (a.block k d)⟩
theorem js {w w':World}(a:aq w w')(row:Option Nat):w.grownBy w' row:=⟨a.os,a.tape,a.output,a.size,fun k b _=>a.block k b⟩
theorem yO {a b c:World}{row d:Option Nat}(h:a.grownBy b row)(k:b.grownBy c d)(l: ∀j,d=some j->a.heap.size<=j\/row=some j):a.grownBy c row:=
 ⟨k.os.trans h.os,k.tape.trans h.tape,k.output.trans h.output,bg h.size k.size,fun q i f=>(k.block q (aU i h.size) (fun e=>by
   rcases l q e.symm with g|g
   ·omega
   ·exact f g.symm)).trans (h.block q i f)⟩
theorem uD {a c:World}(h:a.grownBy c none)(row:Option Nat):a.grownBy c row:=⟨h.os,h.tape,h.output,h.size,fun i hi _=>h.block i hi (by simp)⟩
theorem mj {i:Array Oper}{d:List Oper}{o:Oper}{a:Act}{w:World}{Q:Exit->Act->World->Prop}(k:o.guard=none)(s x:Operand)(z:o.op= .call {callee:= .builtin .append,args:= #[s,x],argTypes:= #[37,37]})
  (b:Nat) (v:Value) (l:List Int) (r:Int) (B:a.eval s=v) (f:w.ownsRow b 3 1 v l.length (dz l)) (j c:Nat) (C:a.eval x= .slice (some (ae j 0)) 1 c) (y:w.cell? (ae j 0)=some (ag r)) (u:l.length<=1000000) (t:b<=w.heap.size)
  (h: ∀e w',w'.ownsRow b 3 1 e (l.length+1) (dz (l++[r]))->((e.ownBlock=v.ownBlock/\w.grownBy w' v.ownBlock/\ ∀m:World,m.ownsRow b 3 1 e (l.length+1) (dz (l++[r]))->m.ownsRow b 3 1 v l.length (dz l))\/(w.grownBy w' none/\ ∃g,e.ownBlock=some g/\w.heap.size<=g))->wpList prog i Q d (a.put o.dst e) w'):wpList prog i Q (o::d) a w:=by
 refine wpList_plain k fun K q=> ?_;obtain⟨e,w',A,n,p⟩:=DV w b v l r f j c y o.type u t;unfold Oper.wp execOp;simp only[z,resolve,invoke,builtin,j8,lg,iA,jp,dO,fA,B,C,A];exact q _ _ (h e w' n p)
def Qc (B:Nat)(res:Option (List Int))(t:List Int)(a:Value)(w:World)(e:Ending)(w':World):Prop:=
 w.grownBy w' a.ownBlock/\((∃who b,res=some who/\e= .returned (.tuple #[b,.bool true])/\w'.ownsRow B 3 1 b who.length (dz who))\/(res=none/\e= .returned (.tuple #[af,.bool false])/\w'.ownsRow B 3 1 a t.length (dz t)))
theorem tU {α β:Type}{f:α->Option β}{l:List α}{j:Nat}{x:α}(h:l[j]? =some x):(l.drop j).findSome? f=match f x with|some y=>some y|none=>(l.drop (j+1)).findSome? f:=by
 obtain⟨a,b⟩:=aF.1 h;rw[bJ a,b];rw[List.findSome?_cons];cases f x<;>rfl
theorem K8 (a:List (List Int))(pv:Value)(u:World)(hP:fu u pv a)(az:a.length<=1000): ∀(k:Nat) (t:List Int) (S:Value) (w:World),t.length+k=a.length->aq u w->w.ownsRow u.heap.size 3 1 S t.length (dz t)->
  Calls prog 142 #[pv,S] w (Qc u.heap.size (lS a k t) t S w):=by
 intro k;induction k with
 |zero=>
  intro t S w hk hb b;obtain⟨pp,pc,rfl,H,_⟩:=hP;obtain⟨l,m,J,_,_⟩:=rq b (by omega);have he:((t.length:Int)==(a.length:Int))=true:=(by rw[beq_iff_eq];omega);have U:=cj b;subst J;go_enter func142,ntmps142
  go_wp2_with fail;go_ret2;exact⟨jA _ _,.inl ⟨t,_,rfl,rfl,U.o⟩⟩
 |succ k ih=>
  intro t S w hk hb b;have IH:=cj ih;obtain⟨pool,d⟩: ∃p,a[t.length]? =some p:=⟨a[t.length]'(by omega),ay (by omega)⟩
  have HP:=cj hP;obtain⟨pp,pc,rfl,H,O⟩:=hP;obtain⟨gp,op,sv,al,P,I⟩:=O _ _ d;subst al;have ao:=aj hb P;obtain⟨ap,cp,rfl,ae,n⟩:=I;have HC:=cj n;obtain⟨l,m,J,_,_⟩:=rq b (by omega);subst J;have av:((t.length:Int)==(a.length:Int))=false:=(by rw[bm];omega);have au:(t.length:Int)<(a.length:Int):=(by omega);have a0:(0:Int)<=(t.length:Int):=(by omega);have U:=cj b;have HB:=cj hb
  have HE:Rb (lS a (k+1) t=pool.findSome? fun r=>if r∈t then none else lS a k (t++[r])):=by
   show _=_;rw[lS];congr 1;simp[List.getD,d]
  go_enter func142,ntmps142
  go_wp2_with fail;go_loopw [7,8,9,22] (fun _ _ _ x wr=> ∃j:Nat,x=ag (j:Int)/\j<=pool.length/\Rb (lS a (k+1) t=(pool.drop j).findSome? fun r=>if r∈t then none else lS a k (t++[r]))/\Rb (wr.ownsRow u.heap.size 3 1 (.slice l t.length m) t.length (dz t))/\Rb (w.grownBy wr (Value.slice l t.length m).ownBlock)) (fun _ _ _ x _=>pool.length-(intOf x).toNat);case atStart=>exact⟨0,rfl,by omega,HE,U,jA _ _⟩
  case round=>
   obtain⟨j,rfl,hj,hX,X,W⟩:=hrel;have ar:(0:Int)<=(j:Int):=(by omega);by_cases R:j<pool.length
   ·have G:(j:Int)<(pool.length:Int):=(by omega);obtain⟨r,Q⟩: ∃r,pool[j]? =some r:=⟨pool[j],ay R⟩
    obtain⟨g,o,ai,c0⟩:=HC.o j _ Q;subst ai;have z: ∀q,(Value.slice l t.length m).ownBlock=some q->u.heap.size<=q:=fun q hq=>(U.o.lt q hq).1;have M:=cj (fT HB.o W.o (aD _) z);have Y:=tU (f:=fun r=>if r∈t then none else lS a k (t++[r])) Q;have c1:=jM t (.slice l t.length m) r wr (rq X.o (by omega));have an:=aj M.o c0;by_cases Z:r∈t
    ·rw[aB Z]at Y;rw[bh Z]at c1;have K:=cj (hX.o.trans Y);go_wp2_with fail;refine c1.mono ?_;rintro e i ⟨rfl,b2⟩;have B:=cj (ir X.o b2);have A:=cj (W.o.trans (js b2 _));go_wp2_with fail;go_roundw;case rel=>exact⟨j+1,by go_num,by omega,K,B,A⟩
     case measure=>simp[intOf];omega
    ·rw[ax Z]at Y;rw[bn Z]at c1;have K:=cj (hX.o.trans Y);go_wp2_with fail;refine c1.mono ?_;rintro e i ⟨rfl,b2⟩;have B:=cj (ir X.o b2);have A:=cj (W.o.trans (js b2 _));have aa:=cj (aw M.o b2);have bA:=am i (.cells #[ag r] 3);have nA:=aG i (.cells #[ag r] 3);generalize a1:i.alloc (.cells #[ag r] 3)=wA at*;have zA:=ak 0 nA;have C:=cj (ir B.o bA);have N:=cj (A.o.trans (js bA _));have L:=cj (aw aa.o bA)
     go_wp2_with(first
      |(refine mj rfl _ _ rfl u.heap.size _ t r rfl ?ho i.heap.size 1 rfl zA ?hl ?hb ?_
        case ho=>exact C.o
        case hl=>omega
        case hb=>exact L.o.size
        intro T w3 af c))
     have F:(t++[r]).length=t.length+1:=(by simp)
     have y: ∀v:World,w3.grownBy v T.ownBlock->wA.grownBy v (Value.slice l t.length m).ownBlock/\((T.ownBlock=(Value.slice l t.length m).ownBlock)\/wA.grownBy v none):=fun v V=>by
      rcases c with⟨e,g1,_⟩|⟨g1,q,e,hq⟩
      ·rw[e]at V;exact⟨g1.trans V,.inl e⟩
      ·rw[e]at V;have:=yO g1 V (fun j hj=>by cases hj;exact .inl hq);exact⟨uD this _,.inr this⟩
     have ab:=cj (fT L.o (y w3 (jA _ _)).1 (aD _) z);have c2:=IH.o (t++[r]) T w3 (by rw[F];omega) ab.o (by rw[F];exact af);have HF:=cj y
     have ac:Rb (∀i:World,(T.ownBlock=(Value.slice l t.length m).ownBlock)\/wA.grownBy i none->i.ownsRow u.heap.size 3 1 T (t.length+1) (dz (t++[r]))->i.ownsRow u.heap.size 3 1 (.slice l t.length m) t.length (dz t)):=fun i ah h2=>by
      rcases c with⟨_,_,h⟩|⟨_,q,e,hq⟩
      ·exact h i h2
      ·rcases ah with h|h
       ·exfalso;rw[e]at h;have:=(C.o.lt q h.symm).2;omega
       ·exact C.o.kept h (by cases hz:(Value.slice l t.length m).ownBlock<;>simp)
     have HL:=cj F;refine c2.mono ?_;rintro e v ⟨E,⟨who,v2,hw,rfl,s⟩|⟨hw,rfl,s⟩⟩
     ·have D:Rb (lS a (k+1) t=some who):=by
       show _=_;rw[K.o,hw]
      have HR:=cj (N.o.trans (HF.o v E).1);go_wp2_with fail;go_ret2;exact⟨HR.o,.inl ⟨who,v2,D.o,rfl,s⟩⟩
     ·have D:Rb (lS a (k+1) t=(pool.drop (j+1)).findSome? fun r=>if r∈t then none else lS a k (t++[r])):=by
       show _=_;rw[K.o,hw]
      have HR:=cj (N.o.trans (HF.o v E).1);have ad:=cj (ac.o v (HF.o v E).2 (by rw[HL.o]at s;exact s));go_wp2_with fail;go_roundw;case rel=>exact⟨j+1,by go_num,by omega,D,ad,HR⟩
      case measure=>simp[intOf];omega
   ·have G: ¬(j:Int)<(pool.length:Int):=(by omega)
    have K:Rb (lS a (k+1) t=none):=by
     show _=_;rw[hX.o,dq (by omega)];rfl
    go_wp2_with fail;go_ret2;exact⟨W.o,.inr ⟨K.o,rfl,X.o⟩⟩
end Go.Proofs.YtlkehieagdkgiaaGreatDoor
