/- Texts of the proof. -/
import Derived.Lib.SlicesCompact
import Derived.Test.YtaoljfdfhggbbaaGreatDoorPc06
import Derived.Test.YtaoljfdfhggbbaaGreatDoorPc07
import Derived.Test.YtaoljfdfhggbbaaGreatDoorPc01
set_option maxRecDepth 100000
set_option maxHeartbeats 8000000
namespace Go.Proofs.YtaoljfdfhggbbaaGreatDoor
open Go.Proofs.Tryz Go.RowKit Lx Vx Mx Msk
namespace Msk
def rs (f:Nat->Bool):Nat->List (Int×Int)
 |0=>[]
 |n+1=>if f n then(if n≠0/\f (n-1)=true then(rs f n).dropLast++[(((rs f n).getLastD (0,0)).1,(n:Int)+1)] else rs f n++[((n:Int),(n:Int)+1)]) else rs f n
theorem yK (f:Nat->Bool)(n:Nat): ∀k,(∀i,n<=i->i<n+k->f i=false)->rs f (n+k)=rs f n
 |0,_=>rfl
 |k+1,h=>by
  have c:=yK f n k fun i a b=>h i a (by omega);have e:f (n+k)=false:=h _ (by omega) (by omega);rw[<-Nat.add_assoc,rs,c,e];simp
theorem BS (f:Nat->Bool)(a:Nat)(b:a=0\/f (a-1)=false): ∀k,(∀i,a<=i->i<a+(k+1)->f i=true)->rs f (a+(k+1))=rs f a++[((a:Int),((a+(k+1):Nat):Int))]
 |0,h=>by
  have e:f a=true:=h a (by omega) (by omega);rw[bN,rs,e]
  have: ¬(a≠0/\f (a-1)=true):=by
   rintro⟨d,c⟩;rcases b with b|b
   ·exact d b
   ·rw[b]at c;cases c
  rw[aD rfl,ax this];simp
 |k+1,h=>by
  have g:=BS f a b k fun i x y=>h i x (by omega);have e:f (a+(k+1))=true:=h _ (by omega) (by omega);have e2:f (a+(k+1)-1)=true:=h _ (by omega) (by omega);rw[<-Nat.add_assoc a (k+1) 1,rs,g,e,aD rfl,aD ⟨by omega,e2⟩];simp
theorem L5 (f:Nat->Bool)(p a b:Nat)(m:p<=a)(n:a<b)(e:p=0\/f p=false)(d: ∀i,p<=i->i<a->f i=false)(c: ∀i,a<=i->i<b->f i=true):
  rs f b=rs f p++[((a:Int),(b:Int))]:=by
 have j:rs f a=rs f p:=by
  have:=yK f p (a-p) fun i x y=>d i x (by omega);rw[Nat.add_sub_cancel' m]at this;exact this
 have l:a=0\/f (a-1)=false:=by
  by_cases ha:a=0
  ·exact .inl ha
  ·right;by_cases g:p=a
   ·subst g;rcases e with e|e
    ·exact absurd e ha
    ·have:=c p (by omega) n;rw[e]at this;cases this
   ·exact d _ (by omega) (by omega)
 obtain⟨k,rfl⟩: ∃k,b=a+(k+1):=⟨b-a-1,by omega⟩
 rw[BS f a l k c,j]
theorem NF (f:Nat->Bool)(p n:Nat)(h:p<=n)(a: ∀i,p<=i->i<n->f i=false):rs f n=rs f p:=by
 have:=yK f p (n-p) fun i x y=>a i x (by omega);rw[Nat.add_sub_cancel' h]at this;exact this
def good (last:Int)(n:Int):List (Int×Int)->Prop
 |[]=>True
 |s::l=>last<s.1/\s.1<s.2/\s.2<=n/\good s.2 n l
def qQ (last:Int):List (Int×Int)->Int
 |[]=>last
 |s::l=>qQ s.2 l
theorem zO (n a b:Int)(d:b<=n)(c:a<b): ∀(l:List (Int×Int)) (last:Int),good last n l->qQ last l<a->good last n (l++[(a,b)])
 |[],_,_,h=>⟨h,c,d,trivial⟩
 |s::l,_,⟨e,f,g,i⟩,h=>⟨e,f,g,zO n a b d c l s.2 i h⟩
theorem xE (a b:Int): ∀(l:List (Int×Int)) (last:Int),qQ last (l++[(a,b)])=b
 |[],_=>rfl
 |_::l,_=>xE a b l _
theorem tK (n m:Int)(h:n<=m): ∀(l:List (Int×Int)) (last:Int),good last n l->good last m l
 |[],_,_=>trivial
 |_::l,_,⟨a,b,c,d⟩=>⟨a,b,Int.le_trans c h,tK n m h l _ d⟩
def len:List (Int×Int)->Int
 |[]=>0
 |s::l=>(s.2-s.1)+len l
theorem BT (a b:Int): ∀l:List (Int×Int),len (l++[(a,b)])=len l+(b-a)
 |[]=>by simp[len]
 |s::l=>by have:=BT a b l;simp only[List.cons_append,len,this];omega
structure lE (f:Nat->Bool)(n:Nat)(l:List (Int×Int)):Prop where
 good:good (-1) n l
 last:qQ (-1) l<=n
 many:len l=Msk.cnt f n
 has: ∀i,i<n->(l.any fun s=>decide (s.1<=(i:Int))&&decide ((i:Int)<s.2))=f i
 few:l.length<=n
theorem lE.zero (f:Nat->Bool):lE f 0 []:=⟨trivial,by simp[qQ],by simp[len,Msk.cnt],fun i hi=>by omega,by simp⟩
theorem lE.skip {f:Nat->Bool}{n:Nat}{l:List (Int×Int)}(h:lE f n l)(m:Nat)(u:n<=m)(a: ∀i,n<=i->i<m->f i=false):lE f m l:=by
 refine⟨tK _ _ (by omega) _ _ h.good,by have:=h.last;omega,?_,?_,by have:=h.few;omega⟩
 ·have e:m=n+(m-n):=by omega
  rw[h.many,e,yu,F3 (f:=fun j=>f (n+j)) fun j t=>a _ (by omega) (by omega)];rfl
 ·intro i hi;by_cases b:i<n
  ·exact h.has i b
  ·rw[a i (by omega) hi];have g:=h.good
   have c: ∀(l:List (Int×Int)) (last:Int),Msk.good last n l->(l.any fun s=>decide (s.1<=(i:Int))&&decide ((i:Int)<s.2))=false:=by
    intro l;induction l with
    |nil=>intro _ _;rfl
    |cons s l o=>
     intro last k;obtain⟨p,q,r,d⟩:=k;have: ¬(i:Int)<s.2:=(by omega);simp[o _ d,this]
   exact c l _ g
theorem lE.run {f:Nat->Bool}{a:Nat}{l:List (Int×Int)}(h:lE f a l)(ha:qQ (-1) l<a)(b:Nat)(m:a<b)(c: ∀i,a<=i->i<b->f i=true):lE f b (l++[((a:Int),(b:Int))]):=by
 refine⟨zO _ _ _ (by omega) (by omega) _ _ (tK _ _ (by omega) _ _ h.good) ha,by rw[xE];omega,?_,?_,?_⟩
 ·have e:b=a+(b-a):=by omega
  have q:cnt f b=cnt f a+(b-a):=by
   rw[e,yu,I0 (f:=fun j=>f (a+j)) fun j n=>c _ (by omega) (by omega)];omega
  rw[BT,h.many,q];omega
 ·intro i hi;rw[List.any_append];by_cases d:i<a
  ·rw[h.has i d];have: ¬(a:Int)<=(i:Int):=(by omega);simp[this]
  ·have g:(a:Int)<=(i:Int):=(by omega);have k:(i:Int)<(b:Int):=(by omega);rw[c i (by omega) hi];simp[g,k]
 ·have:=h.few;simp only[aP,bJ,gK];omega
structure sG (f:Nat->Bool)(p:Nat)(l:List (Int×Int)):Prop where
 runs:lE f p l
 same:l=rs f p
 gap:(p=0/\l=[])\/f p=false\/p=1440
theorem sG.zero (f:Nat->Bool):sG f 0 []:=⟨lE.zero f,rfl,.inl ⟨rfl,rfl⟩⟩
theorem sG.next {f:Nat->Bool}{p:Nat}{l:List (Int×Int)}(h:sG f p l)(a b:Nat)(m:p<=a)(j:a<b)(o:b<=1440)(d: ∀i,p<=i->i<a->f i=false)
  (c: ∀i,a<=i->i<b->f i=true) (n:b<1440->f b=false):sG f b (l++[((a:Int),(b:Int))]):=by
 have k:p=0\/f p=false:=by
  rcases h.gap with⟨g,_⟩|g|g
  ·exact .inl g
  ·exact .inr g
  ·omega
 refine⟨(h.runs.skip a m d).run ?_ b j c,by rw[h.same,L5 f p a b m j k d c],?_⟩
 ·have q:=h.runs.last;rcases h.gap with⟨_,g⟩|g|g
  ·subst g;simp[qQ];omega
  ·have:a≠p:=fun e=>by
    have:=c a (aB _) j;rw[e,g]at this;cases this
   omega
  ·omega
 ·by_cases h:b=1440
  ·exact .inr (.inr h)
  ·exact .inr (.inl (n (by omega)))
theorem sG.all {f:Nat->Bool}{p:Nat}{l:List (Int×Int)}(h:sG f p l)(b:p<=1440)(a: ∀i,p<=i->i<1440->f i=false):l=rs f 1440/\lE f 1440 l:=
 ⟨by rw[h.same,NF f p 1440 b a],h.runs.skip 1440 b a⟩
end Msk
namespace Mx
structure Sv where
 len:Int
 bef:Int
 aft:Int
 roles:List (List Int)
def kI (l b a:Int):Bool:=decide (1<=l/\l<=1440/\0<=b/\b<=1440/\0<=a/\a<=1440/\b+l+a<=1440)
def ni (p:List Int)(n:Int):Nat->Nat->Int
 |0,_=>0
 |m+1,i=>if p.getD i 0<0\/n<=p.getD i 0 then 6 else if 0<i/\p.getD i 0<=p.getD (i-1) 0 then 2 else ni p n m (i+1)
def iM (p:List Int)(n:Int):Int:=if p.length<1\/8<p.length then 5 else ni p n p.length 0
def kJ (n:Int):List (List Int)->Int
 |[]=>0
 |p::l=>if iM p n≠0 then iM p n else kJ n l
theorem C0 {l:List (List Int)}{j:Nat}{p:List Int}(n:Int)(h:l[j]? =some p):kJ n (l.drop j)=if iM p n≠0 then iM p n else kJ n (l.drop (j+1)):=by
 obtain⟨a,b⟩:=aG.1 h;rw[bx a,b];rfl
def fq (s:Sv)(n:Int):Int:=if kI s.len s.bef s.aft=false then 3 else if s.roles.length<1\/4<s.roles.length then 5 else kJ n s.roles
def PL (s:Sv):Int:=s.bef+s.len+s.aft
def kR (a:Int->Bool)(roles:List (List Int)):List (List Int):=roles.map fun p=>p.filter a
def lG (a:List (List Int)):Nat->List Int->Option (List Int)
 |0,t=>some t
 |k+1,t=>(a.getD t.length []).findSome? fun r=>if r∈t then none else lG a k (t++[r])
def xF (W:Int)(f:Nat->Bool):List Int:=((Msk.rs f 1440).filter fun s=>decide (W<=s.2-s.1)).map fun s=>s.1
def AP (W:Int)(a:List (Nat->Bool))(p:List Int):List Int:=p.flatMap fun r=>xF W (a.getD r.toNat fun _=>false)
def rV (W:Int)(a:List (Nat->Bool))(roles:List (List Int)):List Int:=roles.flatMap (AP W a)
def iI (W:Int)(a:List (Nat->Bool))(roles:List (List Int)):List Int:=Go.Lib.compact ((rV W a roles).mergeSort fun x y=>decide (x<=y))
end Mx
def fk (w:World)(v:Value)(a:List (List Int)):Prop:= ∃p c,v= .slice p a.length c/\a.length<9223372036854775808/\ ∀(j:Nat) (l:List Int),a[j]? =some l-> ∃(g o:Nat) (sv:Value),p=some ⟨g,o,none⟩/\w.cell? (ae g (o+j))=some sv/\dS w sv l
theorem fk.below {w w':World}{v:Value}{b:List (List Int)}(h:fk w v b)(a:aq w w'):fk w' v b:=by
 obtain⟨p,c,d,f,i⟩:=h;refine⟨p,c,d,f,fun j l m=> ?_⟩;obtain⟨g,o,sv,e,k,n⟩:=i j l m;exact⟨g,o,sv,e,aj a k,n.below a⟩
def svV (s:Sv)(a:Value):Value:= .agg #[ag s.len,ag s.bef,ag s.aft,a]
theorem tL (l b a:Int)(c:Value)(w:World)(h:kI l b a=true\/(1<=l/\l<=1440/\0<=b/\b<=1440/\0<=a/\a<=1440)):
  Calls prog 72 #[.agg #[ag l,ag b,ag a,c]] w fun e w'=>e= .returned (ag (b+l+a))/\aq w w':=by
 have g:1<=l/\l<=1440/\0<=b/\b<=1440/\0<=a/\a<=1440:=by
  rcases h with h|h
  ·unfold kI at h;rw[cg]at h;omega
  ·exact h
 have f:IntKind.i64.wrap (b+l)=b+l:=by rw[bz];omega
 have e2:IntKind.i64.wrap (b+l+a)=b+l+a:=by rw[bz];omega
 have d:=am w (.cells #[ag l,ag b,ag a,c] 29);go_enter func72,ntmps72
 go_wp2_with fail;go_ret;exact⟨rfl,d⟩
theorem JV (l b a:Int)(f:Value)(w:World):Calls prog 47 #[.agg #[ag l,ag b,ag a,f]] w fun e w'=>e= .returned (.bool (kI l b a))/\aq w w':=by
 have r:=am w (.cells #[ag l,ag b,ag a,f] 29);have g:=aE w (.cells #[ag l,ag b,ag a,f] 29);generalize s:w.alloc (.cells #[ag l,ag b,ag a,f] 29)=t at*;have v:=ak 0 g;have x:=ak 1 g;have y:=ak 2 g;have z:=ak 3 g;have d:=bK r
 have neg: ¬(1<=l/\l<=1440/\0<=b/\b<=1440/\0<=a/\a<=1440/\b+l+a<=1440)->PN (kI l b a=false):=fun h=>by
  show _=_;unfold kI;exact bn h
 by_cases i:1<=l
 case neg=>
  have c:=neg (by omega);go_enter func47,ntmps47
  go_wp2_with fail;go_ret;exact⟨by(rw[c.o])<;>rfl,d.o⟩
 by_cases j:l<=1440
 case neg=>
  have c:=neg (by omega);go_enter func47,ntmps47
  go_wp2_with fail;go_ret;exact⟨by(rw[c.o])<;>rfl,d.o⟩
 by_cases k:0<=b
 case neg=>
  have c:=neg (by omega);go_enter func47,ntmps47
  go_wp2_with fail;go_ret;exact⟨by(rw[c.o])<;>rfl,d.o⟩
 by_cases m:b<=1440
 case neg=>
  have c:=neg (by omega);go_enter func47,ntmps47
  go_wp2_with fail;go_ret;exact⟨by(rw[c.o])<;>rfl,d.o⟩
 by_cases n:0<=a
 case neg=>
  have c:=neg (by omega);go_enter func47,ntmps47
  go_wp2_with fail;go_ret;exact⟨by(rw[c.o])<;>rfl,d.o⟩
 by_cases p:a<=1440
 case neg=>
  have c:=neg (by omega);go_enter func47,ntmps47
  go_wp2_with fail;go_ret;exact⟨by(rw[c.o])<;>rfl,d.o⟩
 have c1:=tL l b a f t (.inr ⟨i,j,k,m,n,p⟩)
 have q:PN (kI l b a=decide (b+l+a<=1440)):=by
  show _=_;unfold kI;simp[i,j,k,m,n,p]
 go_enter func47,ntmps47
 go_wp2_with fail;refine c1.mono ?_;rintro e u ⟨rfl,b1⟩;go_wp2_with fail;go_ret;exact⟨by(rw[q.o])<;>rfl,aw d.o b1⟩
theorem Fe (p:List Int)(n:Int)(i:Nat)(hi:i<p.length):ni p n (p.length-i) i=if p.getD i 0<0\/n<=p.getD i 0 then 6 else if 0<i/\p.getD i 0<=p.getD (i-1) 0 then 2 else ni p n (p.length-(i+1)) (i+1):=by
 rw[show p.length-i=(p.length-(i+1))+1 by omega];rfl
theorem zP {l:List Int}{j:Nat}{x:Int}(h:l[j]? =some x):l.getD j 0=x:=by simp[List.getD,h]
theorem JW (p:List Int)(v:Value)(n:Int)(w:World)(h:dS w v p):Calls prog 48 #[v,ag n] w fun e w'=>e= .returned (ag (iM p n))/\w'=w:=by
 obtain⟨ad,c,rfl,E,D⟩:=h;have l:=bK D;clear D;by_cases N:(p.length:Int)<1
 ·have y:PN (iM p n=5):=by
   show _=_;unfold iM;rw[aD (by omega)]
  clear l;go_enter func48,ntmps48
  go_wp2_with fail;go_ret;exact⟨by(rw[y.o])<;>rfl,rfl⟩
 by_cases O:8<(p.length:Int)
 ·have y:PN (iM p n=5):=by
   show _=_;unfold iM;rw[aD (by omega)]
  clear l;go_enter func48,ntmps48
  go_wp2_with fail;go_ret;exact⟨by(rw[y.o])<;>rfl,rfl⟩
 have m:PN (iM p n=ni p n p.length 0):=by
  show _=_;unfold iM;rw[ax (by omega)]
 go_enter func48,ntmps48
 go_wp2_with fail;go_loopw [5,6,17] (fun _ _ t wr=> ∃j:Nat,t=ag (j:Int)/\j<=p.length/\PN (iM p n=ni p n (p.length-j) j)/\wr=w) (fun _ _ t _=>p.length-(intOf t).toNat);case atStart=>exact⟨0,rfl,by omega,by exact m,rfl⟩
 case round=>
  obtain⟨j,rfl,P,d,rfl⟩:=hrel;have F:(0:Int)<=(j:Int):=(by omega);by_cases s:j<p.length
  ·have u:(j:Int)<(p.length:Int):=(by omega);obtain⟨r,b⟩: ∃r,p[j]? =some r:=⟨p[j],az s⟩
   obtain⟨g,o,B,c0⟩:=l.o j _ b;subst B;have a:=Fe p n j s;rw[zP b]at a;by_cases J:r<0
   ·have f:PN (iM p n=6):=d.o.trans (a.trans (aD (.inl J)));clear a d b l m;go_wp2_with fail;go_ret;exact⟨by(rw[f.o])<;>rfl,rfl⟩
   by_cases C:n<=r
   ·have f:PN (iM p n=6):=d.o.trans (a.trans (aD (.inr C)));clear a d b l m;go_wp2_with fail;go_ret;exact⟨by(rw[f.o])<;>rfl,rfl⟩
   rw[ax (by omega)]at a;by_cases L:j=0
   ·rw[ax (by omega)]at a;have z: ¬0<(j:Int):=(by omega);have f:=bK (d.o.trans a);clear a d b L;go_wp2_with fail;go_roundw;case rel=>exact⟨j+1,by go_num,by omega,f,trivial⟩
    case measure=>simp[intOf];omega
   ·obtain⟨q,i⟩: ∃q,p[j-1]? =some q:=⟨p[j-1]'(by omega),az (by omega)⟩
    obtain⟨M,Q,x,c1⟩:=l.o (j-1) _ i;cases x;rw[zP i]at a;obtain⟨k,A⟩: ∃k:Nat,k=j-1:=⟨_,rfl⟩
    rw[<-A]at c1;have K:IntKind.i64.wrap ((j:Int)-1)=(k:Int):=(by rw[bz];omega);have z:0<(j:Int):=(by omega);have G:(0:Int)<=(k:Int):=(by omega);have H:(k:Int)<(p.length:Int):=(by omega);by_cases I:r<=q
    ·rw[aD ⟨by omega,I⟩]at a;have f:=bK (d.o.trans a);clear a d b i l m A;go_wp2_with fail;go_ret;exact⟨by(rw[f.o])<;>rfl,rfl⟩
    ·rw[ax (by omega)]at a;have f:=bK (d.o.trans a);clear a d b i A;go_wp2_with fail;go_roundw;case rel=>exact⟨j+1,by go_num,by omega,f,trivial⟩
     case measure=>simp[intOf];omega
  ·have u: ¬(j:Int)<(p.length:Int):=(by omega)
   have f:PN (iM p n=0):=by
    show _=_;rw[d.o,show p.length-j=0 by omega];rfl
   clear d l m;go_wp2_with fail;go_ret;exact⟨by(rw[f.o])<;>rfl,rfl⟩
theorem xG (s:Sv)(z:Value)(n:Int)(w:World)(h:fk w z s.roles):Calls prog 25 #[svV s z,ag n] w fun e w'=>e= .returned (ag (fq s n))/\aq w w':=by
 obtain⟨l,b,a,roles⟩:=s;dsimp only at h;unfold svV;dsimp only;have H:=am w (.cells #[ag l,ag b,ag a,z] 29);have y:=aE w (.cells #[ag l,ag b,ag a,z] 29);have L:=bK (h.below H);obtain⟨ad,c,rfl,I,_⟩:=h;generalize P:w.alloc (.cells #[ag l,ag b,ag a,.slice ad roles.length c] 29)=T at*;have c1:=JV l b a (.slice ad roles.length c) T;have K:=bK H;obtain⟨mb,v⟩:=au (kI l b a);rw[v]at c1;have z0:=ak 0 y;have z1:=ak 1 y;have z2:=ak 2 y;have U:=ak 3 y;have G:=bK v;go_enter func25,ntmps25
 go_wp2_with fail;refine c1.mono ?_;rintro e R ⟨rfl,b1⟩;have Z:=aj b1 U;have d:=bK (aw K.o b1);have B:=bK (L.o.below b1);cases mb with
 |false=>
  have i:PN (fq ⟨l,b,a,roles⟩ n=3):=by
   show _=_;unfold fq;rw[aD G.o]
  go_wp2_with fail;go_ret;exact⟨by(rw[i.o])<;>rfl,d.o⟩
 |true=>
  have A:PN (fq ⟨l,b,a,roles⟩ n=if roles.length<1\/4<roles.length then 5 else kJ n roles):=by
   show _=_;unfold fq;rw[ax (by rw[G.o];decide)]
  by_cases W:(roles.length:Int)<1
  ·have i:=bK (A.o.trans (aD (by omega)));go_wp2_with fail;go_ret;exact⟨by(rw[i.o])<;>rfl,d.o⟩
  by_cases X:4<(roles.length:Int)
  ·have i:=bK (A.o.trans (aD (by omega)));go_wp2_with fail;go_ret;exact⟨by(rw[i.o])<;>rfl,d.o⟩
  have i:=bK (A.o.trans (ax (by omega)));go_wp2_with fail;go_loopw [6,7,24] (fun _ _ t wr=> ∃j:Nat,t=ag (j:Int)/\j<=roles.length/\PN (fq ⟨l,b,a,roles⟩ n=kJ n (roles.drop j))/\wr=R) (fun _ _ t _=>roles.length-(intOf t).toNat);case atStart=>exact⟨0,rfl,by omega,i,rfl⟩
  case round=>
   obtain⟨j,rfl,Y,D,rfl⟩:=hrel;have O:(0:Int)<=(j:Int):=(by omega);by_cases E:j<roles.length
   ·have u:(j:Int)<(roles.length:Int):=(by omega);obtain⟨pl,q⟩: ∃r,roles[j]? =some r:=⟨roles[j],az E⟩
    obtain⟨M,V,N,_,p⟩:=B.o;cases N;obtain⟨g,o,sv,k,c0,x⟩:=p j _ q;subst k;have m:=C0 n q;have C:=JW pl sv n wr x;obtain⟨J,k⟩:=au (iM pl n);rw[k]at C m;by_cases F:J=0
    ·subst F;rw[ax (by simp)]at m;have f:=bK (D.o.trans m);go_wp2_with fail;refine C.mono ?_;rintro e S ⟨rfl,rfl⟩;go_wp2_with fail;go_roundw;case rel=>exact⟨j+1,by go_num,by omega,f,trivial⟩
     case measure=>simp[intOf];omega
    ·rw[aD F]at m;have Q:(J==0)=false:=bj.2 F;have f:=bK (D.o.trans m);go_wp2_with fail;refine C.mono ?_;rintro e S ⟨rfl,rfl⟩;go_wp2_with fail;go_ret;exact⟨by(rw[f.o])<;>rfl,d.o⟩
   ·have u: ¬(j:Int)<(roles.length:Int):=(by omega)
    have f:PN (fq ⟨l,b,a,roles⟩ n=0):=by
     show _=_;rw[D.o,dg (by omega)];rfl
    go_wp2_with fail;go_ret;exact⟨by(rw[f.o])<;>rfl,d.o⟩
def yL (f:Nat->Bool)(p r:Nat):Prop:=p<=r/\r<=1440/\(∀i,p<=i->i<r->f i=false)/\(r<1440->f r=true)
theorem JX (f:Nat->Bool)(k q r x:Nat)(j:q=k/64)(l:r=k%64)(d:x=wd f q/2^r)(c:x=0): ∀i,k<=i->i<64*q+64->f i=false:=by
 intro i e g
 have a:(wd f q/2^r).testBit (i-k)=f i:=by
  rw[ut,jv];have b:64*q+(i-k+r)=i:=(by omega);have e2:i-k+r<64:=(by omega);simp[b,e2]
 rw[<-d,c]at a;simpa using a.symm
theorem JY (f:Nat->Bool)(k q r x t:Nat)(n:q=k/64)(o:r=k%64)(m:x=wd f q/2^r)(c:x.testBit t=true)(l: ∀j,j<t->x.testBit j=false):
  f (k+t)=true/\k+t<64*q+64/\ ∀i,k<=i->i<k+t->f i=false:=by
 subst m
 have d: ∀j,(wd f q/2^r).testBit j=(decide (j+r<64)&&f (k+j)):=by
  intro j;rw[ut,jv];have e:64*q+(j+r)=k+j:=(by omega);rw[e]
 rw[d]at c;simp only[bG,cg]at c;refine⟨c.2,by omega,fun i a b=> ?_⟩;have:=l (i-k) (by omega);rw[d]at this;have e2:i-k+r<64:=by omega
 have g:k+(i-k)=i:=by omega
 simpa[e2,g] using this
theorem tM (f:Nat->Bool)(p:Nat)(hp:p<=1440)(w:World)(K:Tab w):
  Calls prog 144 #[.agg (mv f),ag p] w fun e w'=>(∃r:Nat,e= .returned (ag r)/\yL f p r)/\aq w w':=by
 have S:(w.alloc (.cells (mv f) 84)).heap[w.heap.size]? =ah (mv f) 84:=by(repeat (first|refine dl _ _ _ (by simp only[aU];omega) ?_|exact dC _ _ _ (by first|rfl|simp only[aU])))
 have g:aq w (w.alloc (.cells (mv f) 84)):=am _ _;have n:=K.later g;have Q:PN (Tab (w.alloc (.cells (mv f) 84))):=n;clear K n;go_enter func144,ntmps144;go_wp2;go_loop [5] (fun a=> ∃k:Nat,p<=k/\k<=1472/\a=ag k/\ ∀i,p<=i->i<k->f i=false) (fun a=>1472-(intOf a).toNat);case atStart=>exact⟨p,aB _,by omega,rfl,fun i a b=>by omega⟩
 case round=>
  obtain⟨k,X,V,rfl,v⟩:=hrel;have C:PN (∀i,p<=i->i<k->f i=false):=v;clear v;by_cases W:k<1440
  ·obtain⟨q,y⟩: ∃q:Nat,q=k/64:=⟨_,rfl⟩
   obtain⟨r,D⟩: ∃r:Nat,r=k%64:=⟨_,rfl⟩
   have t1:(k:Int)/64=(q:Int):=(by omega);have t2:(k:Int)%64=(r:Int):=(by omega);have A:q<23:=(by omega);have T:(0:Int)<=(q:Int):=(by omega);have U:(q:Int)<23:=(by omega);have Y:(r:Int)<64:=(by omega);have ca:=kW S q A;obtain⟨x,B⟩: ∃x:Nat,x=wd f q/2^r:=⟨_,rfl⟩
   have I:x<18446744073709551616:=(by have:=g7 f q;have:=Nat.div_le_self (wd f q) (2^r);omega);have p1:(wd f q:Int)/2^r=(x:Int):=(by rw[B];simp);have F:=fun w=>vj k (by omega) w;obtain⟨m,H⟩: ∃m:Nat,m=64*(k/64)+64:=⟨_,rfl⟩
   rw[<-H]at F;by_cases c:x=0
   ·have z:=JX f k q r x y D B c;have x0:((x:Int) !=0)=false:=(by simp[c]);have R:PN (∀i,k<=i->i<64*q+64->f i=false):=z;have u:m=64*q+64:=(by omega);have O:PN (m=64*q+64):=u;have P:PN (q=k/64):=y;clear z B c y D H u;go_wp2_with(go_at_call 105;refine(F _).mono ?_;rintro e w' ⟨rfl,rfl⟩)
    have hM:=O.o;have hQ:=P.o;go_round
    case rel=>
     refine⟨m,by omega,by omega,rfl,fun i a b=> ?_⟩;by_cases d:i<k
     ·exact C.o i a d
     ·exact R.o i (by omega) (by omega)
    case measure=>simp[intOf];omega
   ·obtain⟨t,L,s,l,J⟩:=M1 x I c _ Q.o;obtain⟨M,Z,N⟩:=JY f k q r x t y D B s l;have x0:((x:Int) !=0)=true:=(by simp[c]);have E:PN (f (k+t)=true/\k+t<64*q+64/\ ∀i,k<=i->i<k+t->f i=false):=⟨M,Z,N⟩
    have HE:PN (∀j,j<t->x.testBit j=false):=l;clear B c y D H s l M N F;by_cases G:k+t<=1440
    ·go_wp2_with(go_at_call 178;refine J.mono ?_;rintro e w' ⟨rfl,rfl⟩)
     go_ret;refine⟨⟨k+t,rJ (tj (by omega)),?_⟩,g⟩;refine⟨by omega,G,fun i a b=> ?_,fun _=>E.o.1⟩;by_cases d:i<k
     ·exact C.o i a d
     ·exact E.o.2.2 i (by omega) b
    ·go_wp2_with(go_at_call 178;refine J.mono ?_;rintro e w' ⟨rfl,rfl⟩)
     go_ret;refine⟨⟨1440,rJ (tj (by omega)),?_⟩,g⟩;refine⟨by omega,by omega,fun i a b=> ?_,fun h=>by omega⟩;by_cases d:i<k
     ·exact C.o i a d
     ·exact E.o.2.2 i (by omega) (by omega)
  ·go_wp2;go_ret;refine⟨⟨1440,rJ (tj (by omega)),?_⟩,g⟩;exact⟨by omega,by omega,fun i a b=>C.o i a (by omega),fun h=>by omega⟩
def KQ (B:Nat)(w w':World):Prop:=w.heap.size<=w'.heap.size/\ ∀k c,B<=k->w.heap[k]? =ah c 84->w'.heap[k]? =ah c 84
theorem L6:mv (inl [((0:Int),(1440:Int))])=mv fun i=>decide (i<1440):=je fun i _=>by
 have:((i:Int)<1440)=(i<1440):=by apply propext;omega
 simp[inl,this]
theorem Hm {W:World}{g:Nat}{x y:Int}{t:TypeId}(a:W.heap[g]? =ah #[ag x,ag y] t):Row W (.slice (some (ae g 0)) 1 1) [(x,y)]:=by
 refine .inr ⟨_,0,1,rfl,by simp,fun j b=> ?_⟩;have:j=0:=by simpa using b
 subst this;exact⟨by rw[aZ _ _ _ _ _ _ a];rfl,by rw[aZ _ _ _ _ _ _ a];rfl⟩
theorem Ho (f:Nat->Bool)(K:Nat)(C:Array Value)(I:Nat->World->Prop)(R:World->Prop)(w:World)(hI:I 0 w)
  (eK: ∀t w,(callFunc K t).run prog w= .ok (.enter K t) w)
  (hT: ∀p wr,I p wr->Tab wr) (d: ∀p wr w',I p wr->aq wr w'->I p w')
  (H: ∀(p a b:Nat) (wr:World),w.heap.size<=wr.heap.size->I p wr->p<=a->a<b->b<=1440->(∀i,p<=i->i<a->f i=false)->(∀i,a<=i->i<b->f i=true)->(b<1440->f b=false)->
    Calls prog K (#[.agg #[ag a,ag b]]++C) wr fun e w'=>((e= .returned (.bool true)/\I b w')\/(e= .returned (.bool false)/\R w'))/\KQ w.heap.size wr w')
  (S: ∀(p:Nat) (wr:World),I p wr->p<=1440->(∀i,p<=i->i<1440->f i=false)->R wr):
  Calls prog 123 #[.agg (mv f),.func (.func K) #[] C] w fun e w'=>e= .returned (.tuple #[])/\R w':=by
 have hz:=eI;have h1:(w.alloc (.cells (mv f) 84)).heap[w.heap.size]? =ah (mv f) 84:=by(repeat (first|refine dl _ _ _ (by simp only[aU];omega) ?_|exact dC _ _ _ (by first|rfl|simp only[aU])))
 go_enter func123,ntmps123;go_wp2;obtain⟨w0,J⟩:=au (w.alloc (.cells (mv f) 84));have bw:aq w w0:=by rw[<-J];exact am _ _
 rw[J]at h1;simp only[J];refine ro 6 (fun M φ W=>aq w0 W/\(M 1=true-> ∃g,φ 8= .slice (some (ae g 0)) 1 1/\W.heap[g]? =ah #[ag 0,ag 1440] 87)/\(M 5=true-> ∃g c,φ 4=ab g 0/\w.heap.size<g/\W.heap[g]? =ah (mv c) 84)) [kn 7 (.agg #[ag 0,ag 1440]),td 8,kn 9 (.agg (mv fun i=>decide (i<1440))),kn 10 (.agg (mv f)),kn 11 (.agg (mv fun i=>(decide (i<1440)&& !f i)&&decide (i<1440))),td 4,nk] (fun _=>⟨(aI _ _).drew,(fun h=>by cases h),(fun h=>by cases h)⟩) (fun _ _ _ _ j h=>⟨aw h.1 j,fun c=>(h.2.1 c).imp fun _ q=>⟨q.1,ai j q.2⟩,fun c=>(h.2.2 c).imp fun _ q=>q.imp fun _ q=>⟨q.1,q.2.1,ai j q.2.2⟩⟩) (by kernel_rfl) (by kernel_rfl) (fun M φ W q6 B F l hl L=> ?_);simp only[kn,td,nk,dW,aQ,aX,Act.put,aA,aK,aJ]at hl;subst hl;simp only[cZ,Nat.reduceAdd]at L;obtain⟨B,E,P⟩:=B;have k:=ai B h1;have a1:=B.size;have a3:=aH h1;dsimp only[kn,td,nk,dB,eN,eg,Act.put];and_intros;all_goals first|exact trivial|intro hw hn hm K' D
 all_goals try (go_simp;with_reducible exact D _ _ ⟨rfl,aI _ _⟩)
 ·have j:=am W (.cells #[ag 0,ag 1440] 87);go_simp;exact D _ _ ⟨trivial,fun _=>⟨aw B j,fun _=>⟨_,dF ..,aE W _⟩,fun c=>(P (by simpa using c)).imp fun _ q=>q.imp fun _ q=>⟨(cY (by decide)).trans q.1,q.2.1,ai j q.2.2⟩⟩,(fun c=>by simp[q6]at c)⟩
 ·obtain⟨g,e8,hg⟩:=E (hw ⟨1,.data⟩ (by simp) rfl rfl);rw[e8]at L;go_simp;refine(tC _ _ _ (Hm hg)).mono ?_;rintro e W' ⟨rfl,j⟩;exact D _ _ ⟨by rw[L6],j⟩
 ·refine dU 84 _ rfl _ (by simp[Act.eval,L]) _ _ _ _ k bV rfl (bh _) ?_;exact D _ _ ⟨rfl,aI _ _⟩
 ·go_simp;refine(qe _ _ _).mono ?_;rintro e W' ⟨rfl,j⟩;exact D _ _ ⟨rfl,j⟩
 ·have j:=am W (.cells (mv fun _=>false) 84);go_simp;exact D _ _ ⟨trivial,fun _=>⟨aw B j,fun c=>(E (by simpa using c)).imp fun _ q=>⟨(cY (by decide)).trans q.1,ai j q.2⟩,fun _=>⟨_,_,dF ..,by omega,aE W _⟩⟩,(fun c=>by simp[q6]at c)⟩
 ·obtain⟨g8,e8,_⟩:=E (hw ⟨1,.phase⟩ (by simp) rfl rfl);obtain⟨g,c,e4,a2,T⟩:=P (hw ⟨5,.data⟩ (by simp) rfl rfl);rw[e8,e4]at L;refine eG 84 _ _ rfl _ (mv fun i=>(decide (i<1440)&& !f i)&&decide (i<1440)) (by simp[Act.eval,L]) (by simp[Act.eval,L]) _ _ T (bh _) (by simp[bO]) (dQ _) ?_;refine D undef _ ⟨trivial,(fun c=>by simp at c),fun _=> ?_⟩;simp only[eh,aQ,aX,Act.put,aA,aK,aJ,e8,e4];have hg:=aL _ _ _ (mv fun i=>(decide (i<1440)&& !f i)&&decide (i<1440)) _ _ T;replace k:=(aV W g w.heap.size (mv fun i=>(decide (i<1440)&& !f i)&&decide (i<1440)) (by omega)).trans k;have Q:=below_setRow (aw bw B) (by omega:w.heap.size<=g) (mv fun i=>(decide (i<1440)&& !f i)&&decide (i<1440));have O:=d 0 w _ hI Q;generalize W.setRow g (mv fun i=>(decide (i<1440)&& !f i)&&decide (i<1440))=W at*;have ak:=hT 0 W O
  go_wp2_with(first
   |(refine aR rfl 84 _ rfl _ rfl _ _ _ _ k bV rfl (bh _) ?_)
   |(go_at_call 144;refine(tM f 0 (by omega) _ ak).mono ?_;rintro e w1 ⟨⟨r,rfl,hr⟩,m⟩))
  have aa:=d 0 W w1 O m;have av:=ai m k;have ao:=ai m hg;have az:w.heap.size<=w1.heap.size:=(by have:=Q.size;have:=m.size;omega);have HR:PN (yL f 0 r):=hr;go_loopw [5] (fun v wr=> ∃p a:Nat,v=ag a/\yL f p a/\I p wr/\w.heap.size<=wr.heap.size/\wr.heap[w.heap.size]? =ah (mv f) 84/\wr.heap[g]? =ah (mv fun i=>(decide (i<1440)&& !f i)&&decide (i<1440)) 84) (fun v _=>(1440-intOf v).toNat);case atStart=>exact⟨0,r,rfl,HR.o,aa,az,av,ao⟩
  case round=>
   obtain⟨p,a,rfl,G,A,a1,ax,U⟩:=hrel;obtain⟨q1,q2,q3,q4⟩:=G;by_cases X:a<1440
   ·have G:=q4 X;have af:=hT p wr A;have Q3:PN (∀i,p<=i->i<a->f i=false):=q3;have Q4:PN (f a=true):=G
    go_wp2_with(first
     |(refine aR rfl 84 _ rfl _ rfl _ _ _ _ U bV rfl (bh _) ?_)
     |(go_at_call 144;refine(tM _ a (by omega) _ af).mono ?_;rintro e w3 ⟨⟨b,rfl,j⟩,n⟩))
    obtain⟨b1,b2,b3,b4⟩:=j;have ha:=Q4.o
    have u: ∀i,a<=i->i<b->f i=true:=fun i x y=>by
     have z:i<1440:=(by omega);have:=b3 i x y;simpa[z] using this
    have al:a<b:=by
     rcases Nat.lt_or_ge a b with h|h
     ·exact h
     ·have e:b=a:=(by omega);subst e;have:=b4 X;simp[ha]at this
    have an:b<1440->f b=false:=fun h=>by
     have:=b4 h;simpa[h] using this
    have ac:=d p wr w3 A n;have a0:w.heap.size<=w3.heap.size:=(by have:=n.size;omega);have ay:=ai n ax;have ap:=ai n U;have hc:=H p a b w3 a0 ac q1 al b2 Q3.o u an;have Hyes:PN (∀i,a<=i->i<b->f i=true):=u;refine hc.mono ?_;rintro e w4 ⟨⟨rfl,N⟩|⟨rfl,ad⟩,⟨a4,V⟩⟩
    ·have Y:=V _ _ (aB _) ay;have ar:=V _ _ (by omega) ap;have aj:=hT b w4 N
     go_wp2_with(first
      |(refine aR rfl 84 _ rfl _ rfl _ _ _ _ Y bV rfl (bh _) ?_)
      |(go_at_call 144;refine(tM f b b2 _ aj).mono ?_;rintro e w5 ⟨⟨r',rfl,Z⟩,s⟩))
     go_roundw;case rel=>exact⟨b,r',rfl,Z,d b w4 w5 N s,by have:=s.size;omega,ai s Y,ai s ar⟩
     case measure=>
      have:=Z.1;simp[intOf];omega
    ·go_wp2;refine aW (eO rfl _ _ _) rfl ?_;exact⟨rfl,ad⟩
   ·have Hend:PN (R wr):=S p wr A (by omega) (fun i x y=>q3 i x (by omega));go_wp2;go_end0;exact⟨rfl,Hend.o⟩
def iU:List (Int×Int)->List Value
 |[]=>[]
 |s::l=>ag s.1::ag s.2::iU l
theorem tN (x y:Int): ∀l:List (Int×Int),iU (l++[(x,y)])=iU l++[ag x,ag y]
 |[]=>rfl
 |s::l=>by simp[iU,tN x y l]
theorem BU: ∀(l:List (Int×Int)) (j:Nat),j<l.length->(iU l)[j*2]? =some (ag (l.getD j (0,0)).1)/\(iU l)[j*2+1]? =some (ag (l.getD j (0,0)).2)
 |[],j,h=>by simp at h
 |s::l,0,_=>by simp[iU]
 |s::l,j+1,h=>by
  have:=BU l j (by simpa using h);have e:(j+1)*2=j*2+1+1:=(by omega);rw[e];simpa[iU] using this
theorem NG:(prog.info? 87).map (fun i=>(i.zero,i.size,i.bytes))=some (some (.agg #[ag 0,ag 0]),2,16):=by kernel_rfl
theorem zQ:prog.underlying 118=some (.slice 87):=by kernel_rfl
theorem ia {w w':World}{a:Nat}{e:TypeId}{size:Nat}{v:Value}{n:Nat}{xs:List Value}(h:w.ownsRow a e size v n xs)(i:aq w w'):w'.ownsRow a e size v n xs:=by
 obtain⟨f,c⟩:=h;refine⟨f,?_⟩;rcases c with c|⟨g,cap,b,k,j,d,r⟩
 ·exact .inl c
 ·exact .inr ⟨g,cap,b,k,j,(i.block g (aH d)).trans d,r⟩
theorem qR {w:World}{a:Nat}{e:TypeId}{size:Nat}{v:Value}{n:Nat}{xs:List Value}(h:w.ownsRow a e size v n xs){k:Nat}{c:Array Value}{t:TypeId}(d:w.heap[k]? =ah c t)(l:t≠e):v.ownBlock≠some k:=by
 obtain⟨_,b⟩:=h;rcases b with⟨b,_⟩|⟨g,cap,f,m,o,j,r⟩
 ·subst b;simp[Value.ownBlock]
 ·subst m;intro i;have e2:g=k:=(by simpa[Value.ownBlock] using i);subst e2;rw[j]at d;exact l (Obj.cells.inj (aN d)).2.1.symm
theorem vu {w:World}{a:Nat}{v:Value}{l:List (Int×Int)}(h:w.ownsRow a 87 2 v l.length (iU l))(p:l.length<9223372036854775808):Row w v l:=by
 obtain⟨_,e⟩:=h;rcases e with⟨e,f⟩|⟨g,cap,d,q,t,i,f,r,s,n⟩
 ·exact .inl ⟨0,e,ig.1 f⟩
 ·refine .inr ⟨g,0,cap,q,p,fun j o=> ?_⟩;obtain⟨m,e2⟩:=BU l j o
  have b: ∀k u,(iU l)[k]? =some u->d[k]? =some u:=fun k u c=>by
   rw[<-n,js]at c;split at c
   ·simpa using c
   ·cases c
  rw[bN,aZ _ _ _ _ _ _ i,aZ _ _ _ _ _ _ i];exact⟨b _ _ m,b _ _ e2⟩
theorem vY (x y:Int)(v:Value)(l:List (Int×Int))(a t:Nat)(w:World)(S:l.length<=1440)(m:a<=w.heap.size)(E:a<=t)
  (s:w.heap[t]? =ah #[v] 118) (f:w.ownsRow a 87 2 v l.length (iU l)):
  Calls prog 124 #[.agg #[ag x,ag y],ab t 0] w fun e w'=>
   e= .returned (.bool true)/\Below a w w'/\(∃D,w'.heap[t]? =ah #[D] 118/\w'.ownsRow a 87 2 D (l++[(x,y)]).length (iU (l++[(x,y)])))/\ ∀B,KQ B w w':=by
 obtain⟨T,hi,I,J,K⟩:=jp NG;have c1:=cell_of_one s;have f1:=free_of_one s;have U:=aH s;have H:=qR f s (by decide);go_enter func124,ntmps124;go_wp2_with(at_builtin;refine iZ _ rfl _ _ 118 rfl a 87 T (.agg #[ag 0,ag 0]) 2 16 zQ hi I J K rfl (by decide) v l.length (iU l) rfl ((f.alloc _).alloc _) ⟨w.heap.size+1,0,none⟩ 1 1 [ag x,ag y] rfl rfl ?c1 ?c2 ?N ?c4 ?c5 ?_)
 case c1=>
  intro j u n;match j,n with
  |0,n=>simp at n;subst n;simp[Addr.add]
  |1,n=>simp at n;subst n;simp[Addr.add]
 case c2=>intro u O;simp at O;rcases O with rfl|rfl<;>rfl
 case N=>unfold maxLen;omega
 case c4=>omega
 case c5=>simp;omega
 ·intro D L d b _;have q:=dl _ (.cells #[ag x,ag y] 87) _ U s;have r:=dl _ (.cells #[ag x,ag y] 87) _ (aH q) q;have i:=(b.block _ (aH r) (fun e=>H e.symm)).trans r;have N:=cell_of_one i;have f3:=free_of_one i;have C:=qR d i (by decide)
  obtain⟨g,cap,rfl⟩: ∃g cap,D= .slice (some (ae g 0)) (l.length+1) cap:=by
   rcases d.2 with⟨_,h⟩|⟨g,cap,_,h,_⟩
   ·omega
   ·exact⟨g,cap,h⟩
  have F:Below a w L:=(((aI _ _).alloc m _).alloc (by simp only[aU];omega) _).grown b (by simp only[aU];omega) (fun k p=>(f.lt k p).1);have V:PN ((w.alloc (.cells #[ag x,ag y] 87)).heap.size=w.heap.size+1):=aU _ _;have P:PN (L.ownsRow a 87 2 (.slice (some (ae g 0)) (l.length+1) cap) (l.length+1) (iU l++[ag x,ag y])):=d;have M:PN (((w.alloc (.cells #[ag x,ag y] 87)).alloc (.cells #[ag x,ag y] 87)).grownBy L v.ownBlock):=b;clear c1 f1 q r d b;go_wp2;go_ret;refine⟨rfl,F.setCell E _,⟨_,one_setCell i,?_⟩,fun B=>⟨?_,fun k c _ p=> ?_⟩⟩
  ·rw[tN];simp only[aP,bJ,gK,bN];exact ownsRow_setCell_other P.o C _
  ·have R:=M.o.size;simp only[aU]at R;simp;omega
  ·have z:=dl _ (.cells #[ag x,ag y] 87) _ (aH p) p;have A:=dl _ (.cells #[ag x,ag y] 87) _ (aH z) z;have G:=(M.o.block _ (aH A) (fun e=>qR f p (by decide) e.symm)).trans A;refine(aO _ _ _ _ fun e=> ?_).trans G;have Q:k=t:=e;subst Q;rw[s]at p;exact absurd (Obj.cells.inj (aN p)).2.1 (by decide)
structure SI (f:Nat->Bool)(w0:World)(Bl:Nat)(p:Nat)(w:World):Prop where
 bel:aq w0 w
 row: ∃v,w.heap[Bl]? =ah #[v] 118/\w.ownsRow w0.heap.size 87 2 v (rs f p).length (iU (rs f p))
 seen:sG f p (rs f p)
 le:p<=1440
def SR (f:Nat->Bool)(a:World)(b:Nat)(w:World):Prop:=
 aq a w/\(∃v,w.heap[b]? =ah #[v] 118/\w.ownsRow a.heap.size 87 2 v (rs f 1440).length (iU (rs f 1440)))/\lE f 1440 (rs f 1440)
theorem C1 (f:Nat->Bool)(i w:World)(d:Nat)(y:Tab i)(B:i.heap.size<=d)(x:SI f i d 0 w):
  Calls prog 123 #[.agg (mv f),.func (.func 124) #[] #[ab d 0]] w fun e w'=>
   e= .returned (.tuple #[])/\SR f i d w':=by
 refine Ho f 124 _ (SI f i d) (SR f i d) w x (fun _ _=>by simp[go_sem]) (fun p wr h=>y.later h.bel) ?_ ?_ ?_
 ·intro p wr w' h k;obtain⟨v,n,o⟩:=h.row;exact⟨aw h.bel k,⟨v,ai k n,ia o k⟩,h.seen,h.le⟩
 ·intro p a b wr A h s q l g m r;obtain⟨v,n,o⟩:=h.row;have t:=h.seen.next a b s q l g m r;have e:rs f b=rs f p++[((a:Int),(b:Int))]:=t.same.symm;refine(vY a b v (rs f p) i.heap.size d wr (by have:=h.seen.runs.few;have:=h.le;omega) h.bel.size B n o).mono ?_;rintro C w' ⟨rfl,k,c,j⟩;rw[<-e]at c t;exact⟨.inl ⟨rfl,h.bel.trans k,c,t,l⟩,j _⟩
 ·intro p wr h z g;obtain⟨e,u⟩:=h.seen.all z g;have c:=h.row;rw[e]at c u;exact⟨h.bel,c,u⟩
def dp (l:List Int):List Value:=l.map fun n=>ag n
theorem kK (l:List Int):(dp l).length=l.length:=by simp[dp]
theorem lq (l:List Int)(n:Int):dp (l++[n])=dp l++[ag n]:=by simp[dp]
theorem qA:prog.underlying 23=some (.slice 3):=by kernel_rfl
theorem oz:(prog.info? 3).map (fun i=>(i.zero,i.size,i.bytes))=some (some (ag 0),1,8):=by kernel_rfl
theorem oA {t:TypeId}{z:Value}{a b:Nat}(h:(prog.info? t).map (fun i=>(i.zero,i.size,i.bytes))=some (some z,a,b)): ∃i,prog.info? t=some i/\i.zero=some z/\i.size=a/\i.bytes=b:=by
 cases hi:prog.info? t with
 |none=>rw[hi]at h;cases h
 |some i=>
  rw[hi]at h;have c:=aN h;exact⟨i,rfl,congrArg (fun x=>x.1) c,congrArg (fun x=>x.2.1) c,congrArg (fun x=>x.2.2) c⟩
theorem qB {w:World}{a:Nat}{v:Value}{l:List Int}(h:w.ownsRow a 3 1 v l.length (dp l))(f:l.length<9223372036854775808):dS w v l:=by
 rcases h.2 with⟨rfl,e⟩|⟨g,cap,c,rfl,_,i,_,_,_,k⟩
 ·refine⟨none,0,by rw[e],f,fun j n b=> ?_⟩;have:=(aG.1 b).1;omega
 ·refine⟨_,cap,rfl,f,fun j n b=>⟨g,0,rfl,?_⟩⟩;have d:=(aG.1 b).1;rw[bN,aZ w g j c 3 (0,0) i,<-bp];have e:(dp l)[j]? =some (ag n):=(by simp[dp,b]);rw[<-k,Nat.mul_one,dK d]at e;exact e
theorem C2 (w:World)(a:Nat)(v:Value)(l:List Int)(r:Int)(f:w.ownsRow a 3 1 v l.length (dp l))(t c:Nat)(hn:w.cell? (ae t 0)=some (ag r))(F:TypeId)(hl:l.length<=1000000)(Z:a<=w.heap.size):
  ∃D w',(Builtin.append_ #[23,23] F #[v,.slice (some (ae t 0)) 1 c]).run prog w= .ok D w'/\w'.ownsRow a 3 1 D (l.length+1) (dp (l++[r]))/\
   ((D.ownBlock=v.ownBlock/\w.grownBy w' v.ownBlock/\ ∀S:World,S.ownsRow a 3 1 D (l.length+1) (dp (l++[r]))->S.ownsRow a 3 1 v l.length (dp l))\/(w.grownBy w' none/\ ∃g,D.ownBlock=some g/\w.heap.size<=g)):=by
 obtain⟨i,hi,W,q,I⟩:=oA oz
 have b: ∀(j:Nat) u,[ag r][j]? =some u->w.cell? ((⟨t,0,none⟩:Addr).add j)=some u:=fun j u C=>by
  match j,C with
  |0,C=>cases aN C;simpa[Addr.add] using hn
  |j+1,C=>simp at C
 have O:l.length+1<=maxLen:=by unfold maxLen;omega
 have grown: ∀(d:Nat),(w.drew.alloc (.cells ((dp l).toArray++[ag r].toArray++Builtin.zeroCells (ag 0).cells (grownCap w (l.length+1) d 3-(l.length+1))) 3)).ownsRow a 3 1 (.slice (some (ae w.heap.size 0)) (l.length+1) (grownCap w (l.length+1) d 3)) (l.length+1) (dp (l++[r]))/\
   w.grownBy (w.drew.alloc (.cells ((dp l).toArray++[ag r].toArray++Builtin.zeroCells (ag 0).cells (grownCap w (l.length+1) d 3-(l.length+1))) 3)) none:=by
  intro d;have L:=grownCap_ge w (l.length+1) d 3;have o:=grownCap_le_maxLen w (l.length+1) d 3 O;refine⟨⟨by rw[kK];simp,.inr ⟨w.heap.size,_,_,rfl,Z,aE w.drew _,L,o,?_,?_⟩⟩,⟨rfl,rfl,rfl,by simp,fun k E _=>Array.getElem?_push_lt E|>.trans (fP E).symm⟩⟩
  ·simp only[Array.size_append,List.size_toArray,size_zeroCells,kK];show l.length+[ag r].length+(grownCap w (l.length+1) d 3-(l.length+1))*1=_;simp only[bJ,gK];omega
  ·rw[lq];simp only[Array.toList_append,eo];rw[<-eo,show(l.length+1)*1=(dp l++[ag r]).length by simp[kK]];exact List.take_left
 rcases f.2 with⟨rfl,e0⟩|⟨g,cap,n,rfl,H,V,ab,o,J,s⟩
 ·have M:l=[]:=gN e0;subst M;have B:=run_append_nil (P:=prog) w 23 F 3 i (ag 0) qA hi W ⟨t,0,none⟩ 1 c [ag r] (by rw[q];rfl) b (by omega) (by omega) (by omega);have A:=grown 0;refine⟨_,_,B,?_,.inr ⟨?_,_,rfl,aB _⟩⟩
  ·simpa[dp] using A.1
  ·simpa[dp] using A.2
 ·by_cases m:l.length+1<=cap
  ·have z:l.length*i.size+[ag r].length<=n.size:=(by rw[q,J];simp;omega);have B:=run_append_room (P:=prog) w 23 F 3 i qA hi g l.length cap n V ⟨t,0,none⟩ 1 c [ag r] (by rw[q];rfl) b (by simp[Value.oneCell']) m z;refine⟨_,_,B,⟨by rw[kK];simp,.inr ⟨g,cap,_,rfl,H,aL w g n _ 3 _ V,m,o,?_,?_⟩⟩,.inl ⟨rfl,⟨rfl,rfl,rfl,by simp,fun k _ E=>aV w g k _ (fun e=>E (by simp[Value.ownBlock,e]))⟩,fun S Y=> ?_⟩⟩
   ·rw[q];simp only[List.size_toArray,aP,eE,fo,bQ];simp only[bJ,gK];omega
   ·rw[q,s,lq,show(l.length+1)*1=(dp l++[ag r]).length by simp[kK]];exact List.take_left
   ·refine⟨f.1,?_⟩;rcases Y.2 with⟨e,_⟩|⟨g',T,x,e,G,K,aa,N,Q,R⟩
    ·cases e
    ·injection e with y e2 X;injection y with y;injection y with y;subst y X;refine .inr ⟨g,cap,x,rfl,G,K,by omega,N,Q,?_⟩;have U:=congrArg (List.take (l.length*1)) R;rw[List.take_take,lq,fj (by omega),List.take_append_of_le_length (by rw[kK];omega)]at U;rw[U];exact cQ (by rw[kK];omega)
  ·have p: ∀j u,(dp l)[j]? =some u->w.cell? ((⟨g,0,none⟩:Addr).add j)=some u:=f.cells (g:=g) rfl;have B:=run_append_grow (P:=prog) w 23 F 3 i (ag 0) qA hi W ⟨g,0,none⟩ l.length cap (dp l) (by rw[q];exact f.1) p ⟨t,0,none⟩ 1 c [ag r] (by rw[q];rfl) b (by omega) (by omega) (growslice_fits (by omega) (by rw[I];omega));exact⟨_,_,B,(grown cap).1,.inr ⟨(grown cap).2,_,rfl,aB _⟩⟩
end Go.Proofs.YtaoljfdfhggbbaaGreatDoor
