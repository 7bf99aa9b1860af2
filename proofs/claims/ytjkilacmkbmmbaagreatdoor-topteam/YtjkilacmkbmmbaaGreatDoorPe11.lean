/- Texts of the proof. -/
import Derived.Lib.SlicesCompact
import Derived.Test.YtjkilacmkbmmbaaGreatDoorPe04
import Derived.Test.YtjkilacmkbmmbaaGreatDoorPe05
import Derived.Test.YtjkilacmkbmmbaaGreatDoorPe01
set_option maxRecDepth 100000
set_option maxHeartbeats 8000000
namespace Go.Proofs.YtjkilacmkbmmbaaGreatDoor
open Go.Proofs.Tryz Go.RowKit Lx Vx Mx Msk
namespace Msk
def rs (f:Nat->Bool):Nat->List (Int×Int)
 |0=>[]
 |n+1=>if f n then(if n≠0/\f (n-1)=true then(rs f n).dropLast++[(((rs f n).getLastD (0,0)).1,(n:Int)+1)] else rs f n++[((n:Int),(n:Int)+1)]) else rs f n
theorem yG (f:Nat->Bool)(n:Nat): ∀k,(∀i,n<=i->i<n+k->f i=false)->rs f (n+k)=rs f n
 |0,_=>rfl
 |k+1,h=>by
  have ih:=yG f n k fun i a b=>h i a (by omega);have e:f (n+k)=false:=h _ (by omega) (by omega);rw[<-Nat.add_assoc,rs,ih,e];simp
theorem BQ (f:Nat->Bool)(a:Nat)(h0:a=0\/f (a-1)=false): ∀k,(∀i,a<=i->i<a+(k+1)->f i=true)->rs f (a+(k+1))=rs f a++[((a:Int),((a+(k+1):Nat):Int))]
 |0,h=>by
  have e:f a=true:=h a (by omega) (by omega);rw[bK,rs,e]
  have: ¬(a≠0/\f (a-1)=true):=by
   rintro⟨h1,h2⟩;rcases h0 with h0|h0
   ·exact h1 h0
   ·rw[h0]at h2;cases h2
  rw[ay rfl,aw this];simp
 |k+1,h=>by
  have ih:=BQ f a h0 k fun i x y=>h i x (by omega);have e:f (a+(k+1))=true:=h _ (by omega) (by omega);have e2:f (a+(k+1)-1)=true:=h _ (by omega) (by omega);rw[<-Nat.add_assoc a (k+1) 1,rs,ih,e,ay rfl,ay ⟨by omega,e2⟩];simp
theorem Mn (f:Nat->Bool)(p a b:Nat)(h1:p<=a)(h2:a<b)(hp:p=0\/f p=false)(hno: ∀i,p<=i->i<a->f i=false)(hyes: ∀i,a<=i->i<b->f i=true):
  rs f b=rs f p++[((a:Int),(b:Int))]:=by
 have e1:rs f a=rs f p:=by
  have:=yG f p (a-p) fun i x y=>hno i x (by omega);rw[Nat.add_sub_cancel' h1]at this;exact this
 have h0:a=0\/f (a-1)=false:=by
  by_cases ha:a=0
  ·exact .inl ha
  ·right;by_cases hpa:p=a
   ·subst hpa;rcases hp with hp|hp
    ·exact absurd hp ha
    ·have:=hyes p (by omega) h2;rw[hp]at this;cases this
   ·exact hno _ (by omega) (by omega)
 obtain⟨k,rfl⟩: ∃k,b=a+(k+1):=⟨b-a-1,by omega⟩
 rw[BQ f a h0 k hyes,e1]
theorem NX (f:Nat->Bool)(p n:Nat)(h:p<=n)(hno: ∀i,p<=i->i<n->f i=false):rs f n=rs f p:=by
 have:=yG f p (n-p) fun i x y=>hno i x (by omega);rw[Nat.add_sub_cancel' h]at this;exact this
def good (last:Int)(n:Int):List (Int×Int)->Prop
 |[]=>True
 |s::l=>last<s.1/\s.1<s.2/\s.2<=n/\good s.2 n l
def qJ (last:Int):List (Int×Int)->Int
 |[]=>last
 |s::l=>qJ s.2 l
theorem zI (n a b:Int)(hb:b<=n)(hab:a<b): ∀(l:List (Int×Int)) (last:Int),good last n l->qJ last l<a->good last n (l++[(a,b)])
 |[],_,_,h=>⟨h,hab,hb,trivial⟩
 |s::l,_,⟨h1,h2,h3,h4⟩,h=>⟨h1,h2,h3,zI n a b hb hab l s.2 h4 h⟩
theorem xy (a b:Int): ∀(l:List (Int×Int)) (last:Int),qJ last (l++[(a,b)])=b
 |[],_=>rfl
 |_::l,_=>xy a b l _
theorem tB (n m:Int)(h:n<=m): ∀(l:List (Int×Int)) (last:Int),good last n l->good last m l
 |[],_,_=>trivial
 |_::l,_,⟨h1,h2,h3,h4⟩=>⟨h1,h2,Int.le_trans h3 h,tB n m h l _ h4⟩
def len:List (Int×Int)->Int
 |[]=>0
 |s::l=>(s.2-s.1)+len l
theorem BR (a b:Int): ∀l:List (Int×Int),len (l++[(a,b)])=len l+(b-a)
 |[]=>by simp[len]
 |s::l=>by have:=BR a b l;simp only[List.cons_append,len,this];omega
structure lj (f:Nat->Bool)(n:Nat)(l:List (Int×Int)):Prop where
 good:good (-1) n l
 last:qJ (-1) l<=n
 many:len l=Msk.cnt f n
 has: ∀i,i<n->(l.any fun s=>decide (s.1<=(i:Int))&&decide ((i:Int)<s.2))=f i
 few:l.length<=n
theorem lj.zero (f:Nat->Bool):lj f 0 []:=⟨trivial,by simp[qJ],by simp[len,Msk.cnt],fun i hi=>by omega,by simp⟩
theorem lj.skip {f:Nat->Bool}{n:Nat}{l:List (Int×Int)}(h:lj f n l)(m:Nat)(hm:n<=m)(hno: ∀i,n<=i->i<m->f i=false):lj f m l:=by
 refine⟨tB _ _ (by omega) _ _ h.good,by have:=h.last;omega,?_,?_,by have:=h.few;omega⟩
 ·have e:m=n+(m-n):=by omega
  rw[h.many,e,yo,F2 (f:=fun j=>f (n+j)) fun j hj=>hno _ (by omega) (by omega)];rfl
 ·intro i hi;by_cases hin:i<n
  ·exact h.has i hin
  ·rw[hno i (by omega) hi];have hg:=h.good
   have key: ∀(l:List (Int×Int)) (last:Int),Msk.good last n l->(l.any fun s=>decide (s.1<=(i:Int))&&decide ((i:Int)<s.2))=false:=by
    intro l;induction l with
    |nil=>intro _ _;rfl
    |cons s l ih=>
     intro last hl;obtain⟨h1,h2,h3,h4⟩:=hl;have: ¬(i:Int)<s.2:=(by omega);simp[ih _ h4,this]
   exact key l _ hg
theorem lj.run {f:Nat->Bool}{a:Nat}{l:List (Int×Int)}(h:lj f a l)(ha:qJ (-1) l<a)(b:Nat)(hab:a<b)(hyes: ∀i,a<=i->i<b->f i=true):lj f b (l++[((a:Int),(b:Int))]):=by
 refine⟨zI _ _ _ (by omega) (by omega) _ _ (tB _ _ (by omega) _ _ h.good) ha,by rw[xy];omega,?_,?_,?_⟩
 ·have e:b=a+(b-a):=by omega
  have q:cnt f b=cnt f a+(b-a):=by
   rw[e,yo,I8 (f:=fun j=>f (a+j)) fun j hj=>hyes _ (by omega) (by omega)];omega
  rw[BR,h.many,q];omega
 ·intro i hi;rw[List.any_append];by_cases hia:i<a
  ·rw[h.has i hia];have: ¬(a:Int)<=(i:Int):=(by omega);simp[this]
  ·have h1:(a:Int)<=(i:Int):=(by omega);have h2:(i:Int)<(b:Int):=(by omega);rw[hyes i (by omega) hi];simp[h1,h2]
 ·have:=h.few;simp only[aL,bz,fc];omega
structure sq (f:Nat->Bool)(p:Nat)(l:List (Int×Int)):Prop where
 runs:lj f p l
 same:l=rs f p
 gap:(p=0/\l=[])\/f p=false\/p=1440
theorem sq.zero (f:Nat->Bool):sq f 0 []:=⟨lj.zero f,rfl,.inl ⟨rfl,rfl⟩⟩
theorem sq.next {f:Nat->Bool}{p:Nat}{l:List (Int×Int)}(h:sq f p l)(a b:Nat)(h1:p<=a)(h2:a<b)(h3:b<=1440)(hno: ∀i,p<=i->i<a->f i=false)
  (hyes: ∀i,a<=i->i<b->f i=true) (hb:b<1440->f b=false):sq f b (l++[((a:Int),(b:Int))]):=by
 have hp0:p=0\/f p=false:=by
  rcases h.gap with⟨g,_⟩|g|g
  ·exact .inl g
  ·exact .inr g
  ·omega
 refine⟨(h.runs.skip a h1 hno).run ?_ b h2 hyes,by rw[h.same,Mn f p a b h1 h2 hp0 hno hyes],?_⟩
 ·have hl:=h.runs.last;rcases h.gap with⟨_,g⟩|g|g
  ·subst g;simp[qJ];omega
  ·have:a≠p:=fun e=>by
    have:=hyes a (aA _) h2;rw[e,g]at this;cases this
   omega
  ·omega
 ·by_cases h:b=1440
  ·exact .inr (.inr h)
  ·exact .inr (.inl (hb (by omega)))
theorem sq.all {f:Nat->Bool}{p:Nat}{l:List (Int×Int)}(h:sq f p l)(hp:p<=1440)(hno: ∀i,p<=i->i<1440->f i=false):l=rs f 1440/\lj f 1440 l:=
 ⟨by rw[h.same,NX f p 1440 hp hno],h.runs.skip 1440 hp hno⟩
end Msk
namespace Mx
structure Sv where
 len:Int
 bef:Int
 aft:Int
 roles:List (List Int)
def iY (l b a:Int):Bool:=decide (1<=l/\l<=1440/\0<=b/\b<=1440/\0<=a/\a<=1440/\b+l+a<=1440)
def kT (p:List Int)(n:Int):Nat->Nat->Int
 |0,_=>0
 |m+1,i=>if p.getD i 0<0\/n<=p.getD i 0 then 6 else if 0<i/\p.getD i 0<=p.getD (i-1) 0 then 2 else kT p n m (i+1)
def gG (p:List Int)(n:Int):Int:=if p.length<1\/8<p.length then 5 else kT p n p.length 0
def jf (n:Int):List (List Int)->Int
 |[]=>0
 |p::l=>if gG p n≠0 then gG p n else jf n l
theorem C1 {l:List (List Int)}{j:Nat}{p:List Int}(n:Int)(h:l[j]? =some p):jf n (l.drop j)=if gG p n≠0 then gG p n else jf n (l.drop (j+1)):=by
 obtain⟨h1,h2⟩:=aE.1 h;rw[bx h1,h2];rfl
def dW (s:Sv)(n:Int):Int:=if iY s.len s.bef s.aft=false then 3 else if s.roles.length<1\/4<s.roles.length then 5 else jf n s.roles
def jx (s:Sv):Int:=s.bef+s.len+s.aft
def gj (ok:Int->Bool)(roles:List (List Int)):List (List Int):=roles.map fun p=>p.filter ok
def iZ (pools:List (List Int)):Nat->List Int->Option (List Int)
 |0,t=>some t
 |k+1,t=>(pools.getD t.length []).findSome? fun r=>if r∈t then none else iZ pools k (t++[r])
def tD (W:Int)(f:Nat->Bool):List Int:=((Msk.rs f 1440).filter fun s=>decide (W<=s.2-s.1)).map fun s=>s.1
def xz (W:Int)(fs:List (Nat->Bool))(p:List Int):List Int:=p.flatMap fun r=>tD W (fs.getD r.toNat fun _=>false)
def nV (W:Int)(fs:List (Nat->Bool))(roles:List (List Int)):List Int:=roles.flatMap (xz W fs)
def gz (W:Int)(fs:List (Nat->Bool))(roles:List (List Int)):List Int:=Go.Lib.compact ((nV W fs roles).mergeSort fun x y=>decide (x<=y))
end Mx
def fo (w:World)(v:Value)(ls:List (List Int)):Prop:= ∃p c,v= .slice p ls.length c/\ls.length<9223372036854775808/\ ∀(j:Nat) (l:List Int),ls[j]? =some l-> ∃(g o:Nat) (sv:Value),p=some ⟨g,o,none⟩/\w.cell? (ae g (o+j))=some sv/\dQ w sv l
theorem fo.below {w w':World}{v:Value}{ls:List (List Int)}(h:fo w v ls)(hb:ao w w'):fo w' v ls:=by
 obtain⟨p,c,h1,h2,h3⟩:=h;refine⟨p,c,h1,h2,fun j l hj=> ?_⟩;obtain⟨g,o,sv,e,hc,hr⟩:=h3 j l hj;exact⟨g,o,sv,e,aj hb hc,hr.below hb⟩
def svV (s:Sv)(rv:Value):Value:= .agg #[ag s.len,ag s.bef,ag s.aft,rv]
theorem tE (l b a:Int)(rv:Value)(w:World)(h:iY l b a=true\/(1<=l/\l<=1440/\0<=b/\b<=1440/\0<=a/\a<=1440)):
  Calls prog 160 #[.agg #[ag l,ag b,ag a,rv]] w fun e w'=>e= .returned (ag (b+l+a))/\ao w w':=by
 have h':1<=l/\l<=1440/\0<=b/\b<=1440/\0<=a/\a<=1440:=by
  rcases h with h|h
  ·unfold iY at h;rw[bH]at h;omega
  ·exact h
 have e1:IntKind.i64.wrap (b+l)=b+l:=by rw[bG];omega
 have e2:IntKind.i64.wrap (b+l+a)=b+l+a:=by rw[bG];omega
 have bA:=am w (.cells #[ag l,ag b,ag a,rv] 35);clear h h';go_enter func160,ntmps160
 go_wp2_with fail;go_ret;exact⟨rfl,bA⟩
theorem J5 (l b a:Int)(rv:Value)(w:World):Calls prog 131 #[.agg #[ag l,ag b,ag a,rv]] w fun e w'=>e= .returned (.bool (iY l b a))/\ao w w':=by
 have bA:=am w (.cells #[ag l,ag b,ag a,rv] 35);have nA:=aC w (.cells #[ag l,ag b,ag a,rv] 35);generalize hwA:w.alloc (.cells #[ag l,ag b,ag a,rv] 35)=wA at*;have z0:=ak 0 nA;have z1:=ak 1 nA;have z2:=ak 2 nA;have z3:=ak 3 nA;have HB:=bL bA;clear nA bA
 have neg: ¬(1<=l/\l<=1440/\0<=b/\b<=1440/\0<=a/\a<=1440/\b+l+a<=1440)->P3 (iY l b a=false):=fun h=>by
  show _=_;unfold iY;exact bj h
 by_cases h1:1<=l
 case neg=>
  have HN:=neg (by omega);clear neg;go_enter func131,ntmps131
  go_wp2_with fail;go_ret;exact⟨by(rw[HN.o])<;>rfl,HB.o⟩
 by_cases h2:l<=1440
 case neg=>
  have HN:=neg (by omega);clear neg;go_enter func131,ntmps131
  go_wp2_with fail;go_ret;exact⟨by(rw[HN.o])<;>rfl,HB.o⟩
 by_cases h3:0<=b
 case neg=>
  have HN:=neg (by omega);clear neg;go_enter func131,ntmps131
  go_wp2_with fail;go_ret;exact⟨by(rw[HN.o])<;>rfl,HB.o⟩
 by_cases h4:b<=1440
 case neg=>
  have HN:=neg (by omega);clear neg;go_enter func131,ntmps131
  go_wp2_with fail;go_ret;exact⟨by(rw[HN.o])<;>rfl,HB.o⟩
 by_cases h5:0<=a
 case neg=>
  have HN:=neg (by omega);clear neg;go_enter func131,ntmps131
  go_wp2_with fail;go_ret;exact⟨by(rw[HN.o])<;>rfl,HB.o⟩
 by_cases h6:a<=1440
 case neg=>
  have HN:=neg (by omega);clear neg;go_enter func131,ntmps131
  go_wp2_with fail;go_ret;exact⟨by(rw[HN.o])<;>rfl,HB.o⟩
 have c1:=tE l b a rv wA (.inr ⟨h1,h2,h3,h4,h5,h6⟩)
 have HP:P3 (iY l b a=decide (b+l+a<=1440)):=by
  show _=_;unfold iY;simp[h1,h2,h3,h4,h5,h6]
 clear neg;go_enter func131,ntmps131
 go_wp2_with fail;refine c1.mono ?_;rintro e w1 ⟨rfl,b1⟩;go_wp2_with fail;go_ret;exact⟨by(rw[HP.o])<;>rfl,au HB.o b1⟩
theorem Fb (p:List Int)(n:Int)(i:Nat)(hi:i<p.length):kT p n (p.length-i) i=if p.getD i 0<0\/n<=p.getD i 0 then 6 else if 0<i/\p.getD i 0<=p.getD (i-1) 0 then 2 else kT p n (p.length-(i+1)) (i+1):=by
 rw[show p.length-i=(p.length-(i+1))+1 by omega];rfl
theorem zJ {l:List Int}{j:Nat}{x:Int}(h:l[j]? =some x):l.getD j 0=x:=by simp[List.getD,h]
theorem J6 (p:List Int)(v:Value)(n:Int)(w:World)(h:dQ w v p):Calls prog 132 #[v,ag n] w fun e w'=>e= .returned (ag (gG p n))/\w'=w:=by
 obtain⟨ad,c,rfl,hlen,hc⟩:=h;have HC:=bL hc;clear hc;by_cases h1:(p.length:Int)<1
 ·have HN:P3 (gG p n=5):=by
   show _=_;unfold gG;rw[ay (by omega)]
  clear HC;go_enter func132,ntmps132
  go_wp2_with fail;go_ret;exact⟨by(rw[HN.o])<;>rfl,rfl⟩
 by_cases h2:8<(p.length:Int)
 ·have HN:P3 (gG p n=5):=by
   show _=_;unfold gG;rw[ay (by omega)]
  clear HC;go_enter func132,ntmps132
  go_wp2_with fail;go_ret;exact⟨by(rw[HN.o])<;>rfl,rfl⟩
 have HE:P3 (gG p n=kT p n p.length 0):=by
  show _=_;unfold gG;rw[aw (by omega)]
 go_enter func132,ntmps132
 go_wp2_with fail;go_loopw [5,6,17] (fun _ _ t wr=> ∃j:Nat,t=ag (j:Int)/\j<=p.length/\P3 (gG p n=kT p n (p.length-j) j)/\wr=w) (fun _ _ t _=>p.length-(intOf t).toNat);case atStart=>exact⟨0,rfl,by omega,by exact HE,rfl⟩
 case round=>
  obtain⟨j,rfl,hj,hX,rfl⟩:=hrel;have hj0:(0:Int)<=(j:Int):=(by omega);by_cases hlt:j<p.length
  ·have hlt':(j:Int)<(p.length:Int):=(by omega);obtain⟨r,hjr⟩: ∃r,p[j]? =some r:=⟨p[j],ax hlt⟩
   obtain⟨g,o,hpe,c0⟩:=HC.o j _ hjr;subst hpe;have hS:=Fb p n j hlt;rw[zJ hjr]at hS;by_cases hr:r<0
   ·have HX:P3 (gG p n=6):=hX.o.trans (hS.trans (ay (.inl hr)));clear hS hX hjr HC HE;go_wp2_with fail;go_ret;exact⟨by(rw[HX.o])<;>rfl,rfl⟩
   by_cases hr2:n<=r
   ·have HX:P3 (gG p n=6):=hX.o.trans (hS.trans (ay (.inr hr2)));clear hS hX hjr HC HE;go_wp2_with fail;go_ret;exact⟨by(rw[HX.o])<;>rfl,rfl⟩
   rw[aw (by omega)]at hS;by_cases hz:j=0
   ·rw[aw (by omega)]at hS;have hjp: ¬0<(j:Int):=(by omega);have HX:=bL (hX.o.trans hS);clear hS hX hjr hz;go_wp2_with fail;go_roundw;case rel=>exact⟨j+1,by go_num,by omega,HX,trivial⟩
    case measure=>simp[intOf];omega
   ·obtain⟨q,hjq⟩: ∃q,p[j-1]? =some q:=⟨p[j-1]'(by omega),ax (by omega)⟩
    obtain⟨g',o',hpe',c1⟩:=HC.o (j-1) _ hjq;cases hpe';rw[zJ hjq]at hS;obtain⟨k,hk⟩: ∃k:Nat,k=j-1:=⟨_,rfl⟩
    rw[<-hk]at c1;have hwk:IntKind.i64.wrap ((j:Int)-1)=(k:Int):=(by rw[bG];omega);have hjp:0<(j:Int):=(by omega);have hk0:(0:Int)<=(k:Int):=(by omega);have hkl:(k:Int)<(p.length:Int):=(by omega);by_cases hq:r<=q
    ·rw[ay ⟨by omega,hq⟩]at hS;have HX:=bL (hX.o.trans hS);clear hS hX hjr hjq HC HE hk;go_wp2_with fail;go_ret;exact⟨by(rw[HX.o])<;>rfl,rfl⟩
    ·rw[aw (by omega)]at hS;have HX:=bL (hX.o.trans hS);clear hS hX hjr hjq hk;go_wp2_with fail;go_roundw;case rel=>exact⟨j+1,by go_num,by omega,HX,trivial⟩
     case measure=>simp[intOf];omega
  ·have hlt': ¬(j:Int)<(p.length:Int):=(by omega)
   have HX:P3 (gG p n=0):=by
    show _=_;rw[hX.o,show p.length-j=0 by omega];rfl
   clear hX HC HE;go_wp2_with fail;go_ret;exact⟨by(rw[HX.o])<;>rfl,rfl⟩
theorem xA (s:Sv)(rv:Value)(n:Int)(w:World)(h:fo w rv s.roles):Calls prog 91 #[svV s rv,ag n] w fun e w'=>e= .returned (ag (dW s n))/\ao w w':=by
 obtain⟨l,b,a,roles⟩:=s;dsimp only at h;unfold svV;dsimp only;have bA:=am w (.cells #[ag l,ag b,ag a,rv] 35);have nA:=aC w (.cells #[ag l,ag b,ag a,rv] 35);have HR:=bL (h.below bA);obtain⟨ad,c,rfl,hlen,_⟩:=h;generalize hwA:w.alloc (.cells #[ag l,ag b,ag a,.slice ad roles.length c] 35)=wA at*;have c1:=J5 l b a (.slice ad roles.length c) wA;have HB:=bL bA;obtain⟨mb,hmb⟩:=aq (iY l b a);rw[hmb]at c1;have z0:=ak 0 nA;have z1:=ak 1 nA;have z2:=ak 2 nA;have z3:=ak 3 nA;have HM:=bL hmb;clear bA hmb;go_enter func91,ntmps91
 go_wp2_with fail;refine c1.mono ?_;rintro e w1 ⟨rfl,b1⟩;have y3:=aj b1 z3;have HB1:=bL (au HB.o b1);have HR1:=bL (HR.o.below b1);clear c1 z0 z1 z2 z3 nA hwA HR HB b1;cases mb with
 |false=>
  have HX:P3 (dW ⟨l,b,a,roles⟩ n=3):=by
   show _=_;unfold dW;rw[ay HM.o]
  go_wp2_with fail;go_ret;exact⟨by(rw[HX.o])<;>rfl,HB1.o⟩
 |true=>
  have HE:P3 (dW ⟨l,b,a,roles⟩ n=if roles.length<1\/4<roles.length then 5 else jf n roles):=by
   show _=_;unfold dW;rw[aw (by rw[HM.o];decide)]
  by_cases h1:(roles.length:Int)<1
  ·have HX:=bL (HE.o.trans (ay (by omega)));clear HE;go_wp2_with fail;go_ret;exact⟨by(rw[HX.o])<;>rfl,HB1.o⟩
  by_cases h2:4<(roles.length:Int)
  ·have HX:=bL (HE.o.trans (ay (by omega)));clear HE;go_wp2_with fail;go_ret;exact⟨by(rw[HX.o])<;>rfl,HB1.o⟩
  have HX:=bL (HE.o.trans (aw (by omega)));clear HE HM;go_wp2_with fail;go_loopw [6,7,24] (fun _ _ t wr=> ∃j:Nat,t=ag (j:Int)/\j<=roles.length/\P3 (dW ⟨l,b,a,roles⟩ n=jf n (roles.drop j))/\wr=w1) (fun _ _ t _=>roles.length-(intOf t).toNat);case atStart=>exact⟨0,rfl,by omega,HX,rfl⟩
  case round=>
   obtain⟨j,rfl,hj,hX,rfl⟩:=hrel;have hj0:(0:Int)<=(j:Int):=(by omega);by_cases hlt:j<roles.length
   ·have hlt':(j:Int)<(roles.length:Int):=(by omega);obtain⟨pl,hjp⟩: ∃r,roles[j]? =some r:=⟨roles[j],ax hlt⟩
    obtain⟨ad',c',e',_,hall⟩:=HR1.o;cases e';obtain⟨g,o,sv,hpe,c0,hrow⟩:=hall j _ hjp;subst hpe;have hS:=C1 n hjp;have c2:=J6 pl sv n wr hrow;obtain⟨pe,hpe⟩:=aq (gG pl n);rw[hpe]at c2 hS;by_cases hz:pe=0
    ·subst hz;rw[aw (by simp)]at hS;have HX2:=bL (hX.o.trans hS);clear hS hX hjp hall hrow hpe;go_wp2_with fail;refine c2.mono ?_;rintro e w2 ⟨rfl,rfl⟩;go_wp2_with fail;go_roundw;case rel=>exact⟨j+1,by go_num,by omega,HX2,trivial⟩
     case measure=>simp[intOf];omega
    ·rw[ay hz]at hS;have hz':(pe==0)=false:=bf.2 hz;have HX2:=bL (hX.o.trans hS);clear hS hX hjp hall hrow hpe;go_wp2_with fail;refine c2.mono ?_;rintro e w2 ⟨rfl,rfl⟩;go_wp2_with fail;go_ret;exact⟨by(rw[HX2.o])<;>rfl,HB1.o⟩
   ·have hlt': ¬(j:Int)<(roles.length:Int):=(by omega)
    have HX2:P3 (dW ⟨l,b,a,roles⟩ n=0):=by
     show _=_;rw[hX.o,dc (by omega)];rfl
    clear hX;go_wp2_with fail;go_ret;exact⟨by(rw[HX2.o])<;>rfl,HB1.o⟩
def yI (f:Nat->Bool)(p r:Nat):Prop:=p<=r/\r<=1440/\(∀i,p<=i->i<r->f i=false)/\(r<1440->f r=true)
theorem J7 (f:Nat->Bool)(k q r x:Nat)(hq:q=k/64)(hr:r=k%64)(hx:x=wd f q/2^r)(h0:x=0): ∀i,k<=i->i<64*q+64->f i=false:=by
 intro i h1 h2
 have hb:(wd f q/2^r).testBit (i-k)=f i:=by
  rw[ub,jc];have e1:64*q+(i-k+r)=i:=(by omega);have e2:i-k+r<64:=(by omega);simp[e1,e2]
 rw[<-hx,h0]at hb;simpa using hb.symm
theorem J8 (f:Nat->Bool)(k q r x t:Nat)(hq:q=k/64)(hr:r=k%64)(hx:x=wd f q/2^r)(h1:x.testBit t=true)(h2: ∀j,j<t->x.testBit j=false):
  f (k+t)=true/\k+t<64*q+64/\ ∀i,k<=i->i<k+t->f i=false:=by
 subst hx
 have hb: ∀j,(wd f q/2^r).testBit j=(decide (j+r<64)&&f (k+j)):=by
  intro j;rw[ub,jc];have e1:64*q+(j+r)=k+j:=(by omega);rw[e1]
 rw[hb]at h1;simp only[bq,bH]at h1;refine⟨h1.2,by omega,fun i a b=> ?_⟩;have:=h2 (i-k) (by omega);rw[hb]at this;have e2:i-k+r<64:=by omega
 have e3:k+(i-k)=i:=by omega
 simpa[e2,e3] using this
theorem tF (f:Nat->Bool)(p:Nat)(hp:p<=1440)(w:World)(hT:Tab w):
  Calls prog 208 #[.agg (mv f),ag p] w fun e w'=>(∃r:Nat,e= .returned (ag r)/\yI f p r)/\ao w w':=by
 have h1:(w.alloc (.cells (mv f) 61)).heap[w.heap.size]? =ah (mv f) 61:=by(repeat (first|refine cY _ _ _ (by simp only[aP];omega) ?_|exact dq _ _ _ (by first|rfl|simp only[aP])))
 have hb0:ao w (w.alloc (.cells (mv f) 61)):=am _ _;have hT':=hT.later hb0;have HT:P3 (Tab (w.alloc (.cells (mv f) 61))):=hT';clear hT hT';go_enter func208,ntmps208;go_wp2;go_loop [5] (fun a=> ∃k:Nat,p<=k/\k<=1472/\a=ag k/\ ∀i,p<=i->i<k->f i=false) (fun a=>1472-(intOf a).toNat);case atStart=>exact⟨p,aA _,by omega,rfl,fun i a b=>by omega⟩
 case round=>
  obtain⟨k,hpk,hk2,rfl,hno⟩:=hrel;have HN:P3 (∀i,p<=i->i<k->f i=false):=hno;clear hno;by_cases hlt:k<1440
  ·obtain⟨q,hq⟩: ∃q:Nat,q=k/64:=⟨_,rfl⟩
   obtain⟨r,hr⟩: ∃r:Nat,r=k%64:=⟨_,rfl⟩
   have t1:(k:Int)/64=(q:Int):=(by omega);have t2:(k:Int)%64=(r:Int):=(by omega);have hq23:q<23:=(by omega);have hi0:(0:Int)<=(q:Int):=(by omega);have hi1:(q:Int)<23:=(by omega);have hr1:(r:Int)<64:=(by omega);have ca:=kG h1 q hq23;obtain⟨x,hx⟩: ∃x:Nat,x=wd f q/2^r:=⟨_,rfl⟩
   have hxl:x<18446744073709551616:=(by have:=gS f q;have:=Nat.div_le_self (wd f q) (2^r);omega);have p1:(wd f q:Int)/2^r=(x:Int):=(by rw[hx];simp);have cw:=fun w=>uZ k (by omega) w;obtain⟨m,hm⟩: ∃m:Nat,m=64*(k/64)+64:=⟨_,rfl⟩
   rw[<-hm]at cw;by_cases hx0:x=0
   ·have z:=J7 f k q r x hq hr hx hx0;have x0:((x:Int) !=0)=false:=(by simp[hx0]);have HZ:P3 (∀i,k<=i->i<64*q+64->f i=false):=z;have hm':m=64*q+64:=(by omega);have HM:P3 (m=64*q+64):=hm';have HQ:P3 (q=k/64):=hq;clear z hx hx0 hq hr hm hm';go_wp2_with(go_at_call 152;refine(cw _).mono ?_;rintro e w' ⟨rfl,rfl⟩)
    have hM:=HM.o;have hQ:=HQ.o;go_round
    case rel=>
     refine⟨m,by omega,by omega,rfl,fun i a b=> ?_⟩;by_cases hik:i<k
     ·exact HN.o i a hik
     ·exact HZ.o i (by omega) (by omega)
    case measure=>simp[intOf];omega
   ·obtain⟨t,ht64,hb1,hb2,ct⟩:=Nm x hxl hx0 _ HT.o;obtain⟨s1,s2,s3⟩:=J8 f k q r x t hq hr hx hb1 hb2;have x0:((x:Int) !=0)=true:=(by simp[hx0]);have HS:P3 (f (k+t)=true/\k+t<64*q+64/\ ∀i,k<=i->i<k+t->f i=false):=⟨s1,s2,s3⟩
    have HE:P3 (∀j,j<t->x.testBit j=false):=hb2;clear hx hx0 hq hr hm hb1 hb2 s1 s3 cw;by_cases hle:k+t<=1440
    ·go_wp2_with(go_at_call 192;refine ct.mono ?_;rintro e w' ⟨rfl,rfl⟩)
     go_ret;refine⟨⟨k+t,rz (sX (by omega)),?_⟩,hb0⟩;refine⟨by omega,hle,fun i a b=> ?_,fun _=>HS.o.1⟩;by_cases hik:i<k
     ·exact HN.o i a hik
     ·exact HS.o.2.2 i (by omega) b
    ·go_wp2_with(go_at_call 192;refine ct.mono ?_;rintro e w' ⟨rfl,rfl⟩)
     go_ret;refine⟨⟨1440,rz (sX (by omega)),?_⟩,hb0⟩;refine⟨by omega,by omega,fun i a b=> ?_,fun h=>by omega⟩;by_cases hik:i<k
     ·exact HN.o i a hik
     ·exact HS.o.2.2 i (by omega) (by omega)
  ·go_wp2;go_ret;refine⟨⟨1440,rz (sX (by omega)),?_⟩,hb0⟩;exact⟨by omega,by omega,fun i a b=>HN.o i a (by omega),fun h=>by omega⟩
def Ld (B:Nat)(w w':World):Prop:=w.heap.size<=w'.heap.size/\ ∀k c,B<=k->w.heap[k]? =ah c 61->w'.heap[k]? =ah c 61
theorem Mo:mv (inl [((0:Int),(1440:Int))])=mv fun i=>decide (i<1440):=iP fun i _=>by
 have:((i:Int)<1440)=(i<1440):=by apply propext;omega
 simp[inl,this]
theorem Hk {W:World}{g:Nat}{x y:Int}{t:TypeId}(hb:W.heap[g]? =ah #[ag x,ag y] t):Row W (.slice (some (ae g 0)) 1 1) [(x,y)]:=by
 refine .inr ⟨_,0,1,rfl,by simp,fun j hj=> ?_⟩;have:j=0:=by simpa using hj
 subst this;exact⟨by rw[aV _ _ _ _ _ _ hb];rfl,by rw[aV _ _ _ _ _ _ hb];rfl⟩
theorem Hl (f:Nat->Bool)(K:Nat)(C:Array Value)(I:Nat->World->Prop)(R:World->Prop)(w:World)(hI:I 0 w)
  (eK: ∀args w,(callFunc K args).run prog w= .ok (.enter K args) w)
  (hT: ∀p wr,I p wr->Tab wr) (hmono: ∀p wr w',I p wr->ao wr w'->I p w')
  (hstep: ∀(p a b:Nat) (wr:World),w.heap.size<=wr.heap.size->I p wr->p<=a->a<b->b<=1440->(∀i,p<=i->i<a->f i=false)->(∀i,a<=i->i<b->f i=true)->(b<1440->f b=false)->
    Calls prog K (#[.agg #[ag a,ag b]]++C) wr fun e w'=>((e= .returned (.bool true)/\I b w')\/(e= .returned (.bool false)/\R w'))/\Ld w.heap.size wr w')
  (hend: ∀(p:Nat) (wr:World),I p wr->p<=1440->(∀i,p<=i->i<1440->f i=false)->R wr):
  Calls prog 197 #[.agg (mv f),.func (.func K) #[] C] w fun e w'=>e= .returned (.tuple #[])/\R w':=by
 have hz:=dU;have h1:(w.alloc (.cells (mv f) 61)).heap[w.heap.size]? =ah (mv f) 61:=by(repeat (first|refine cY _ _ _ (by simp only[aP];omega) ?_|exact dq _ _ _ (by first|rfl|simp only[aP])))
 go_enter func197,ntmps197;go_wp2;obtain⟨w0,hw0⟩:=aq (w.alloc (.cells (mv f) 61));have bw:ao w w0:=by rw[<-hw0];exact am _ _
 rw[hw0]at h1;simp only[hw0];clear hw0;refine qW 6 (fun M φ W=>ao w0 W/\(M 1=true-> ∃g,φ 8= .slice (some (ae g 0)) 1 1/\W.heap[g]? =ah #[ag 0,ag 1440] 143)/\(M 5=true-> ∃g c,φ 4=ab g 0/\w.heap.size<g/\W.heap[g]? =ah (mv c) 61)) [kn 7 (.agg #[ag 0,ag 1440]),td 8,kn 9 (.agg (mv fun i=>decide (i<1440))),kn 10 (.agg (mv f)),kn 11 (.agg (mv fun i=>(decide (i<1440)&& !f i)&&decide (i<1440))),td 4,nk] (fun _=>⟨(aG _ _).drew,(fun h=>by cases h),(fun h=>by cases h)⟩) (fun _ _ _ _ hb h=>⟨au h.1 hb,fun c=>(h.2.1 c).imp fun _ q=>⟨q.1,ai hb q.2⟩,fun c=>(h.2.2 c).imp fun _ q=>q.imp fun _ q=>⟨q.1,q.2.1,ai hb q.2.2⟩⟩) (by kernel_rfl) (by kernel_rfl) (fun M φ W q6 hJ F l hl hF=> ?_);simp only[kn,td,nk,dN,aQ,aW,Act.put,aB,aI,aH]at hl;subst hl;simp only[dg,Nat.reduceAdd]at hF;obtain⟨hJ,hT1,hT5⟩:=hJ;have hgm:=ai hJ h1;have hsz:=hJ.size;have hlw:=aF h1;dsimp only[kn,td,nk,dC,en,dS,Act.put];and_intros;all_goals first|exact trivial|intro hw hn hm K' hK
 all_goals try (go_simp;with_reducible exact hK _ _ ⟨rfl,aG _ _⟩)
 ·have hb:=am W (.cells #[ag 0,ag 1440] 143);go_simp;exact hK _ _ ⟨trivial,fun _=>⟨au hJ hb,fun _=>⟨_,dI ..,aC W _⟩,fun c=>(hT5 (by simpa using c)).imp fun _ q=>q.imp fun _ q=>⟨(dy (by decide)).trans q.1,q.2.1,ai hb q.2.2⟩⟩,(fun c=>by simp[q6]at c)⟩
 ·obtain⟨g,e8,hg⟩:=hT1 (hw ⟨1,.data⟩ (by simp) rfl rfl);rw[e8]at hF;go_simp;refine(tn _ _ _ (Hk hg)).mono ?_;rintro e W' ⟨rfl,hb⟩;exact hK _ _ ⟨by rw[Mo],hb⟩
 ·refine d9 61 _ rfl _ (by simp[Act.eval,hF]) _ _ _ _ hgm bQ rfl (ba _) ?_;exact hK _ _ ⟨rfl,aG _ _⟩
 ·go_simp;refine(pT _ _ _).mono ?_;rintro e W' ⟨rfl,hb⟩;exact hK _ _ ⟨rfl,hb⟩
 ·have hb:=am W (.cells (mv fun _=>false) 61);go_simp;exact hK _ _ ⟨trivial,fun _=>⟨au hJ hb,fun c=>(hT1 (by simpa using c)).imp fun _ q=>⟨(dy (by decide)).trans q.1,ai hb q.2⟩,fun _=>⟨_,_,dI ..,by omega,aC W _⟩⟩,(fun c=>by simp[q6]at c)⟩
 ·obtain⟨g8,e8,_⟩:=hT1 (hw ⟨1,.phase⟩ (by simp) rfl rfl);obtain⟨g,c,e4,hgB,hg0⟩:=hT5 (hw ⟨5,.data⟩ (by simp) rfl rfl);rw[e8,e4]at hF;refine dT 61 _ _ rfl _ (mv fun i=>(decide (i<1440)&& !f i)&&decide (i<1440)) (by simp[Act.eval,hF]) (by simp[Act.eval,hF]) _ _ hg0 (ba _) (by simp[bO]) (dH _) ?_;refine hK undef _ ⟨trivial,(fun c=>by simp at c),fun _=> ?_⟩;simp only[dP,aQ,aW,Act.put,aB,aI,aH,e8,e4];have hg:=aJ _ _ _ (mv fun i=>(decide (i<1440)&& !f i)&&decide (i<1440)) _ _ hg0;replace hgm:=(aT W g w.heap.size (mv fun i=>(decide (i<1440)&& !f i)&&decide (i<1440)) (by omega)).trans hgm;have hb0:=below_setRow (au bw hJ) (by omega:w.heap.size<=g) (mv fun i=>(decide (i<1440)&& !f i)&&decide (i<1440));have hIW:=hmono 0 w _ hI hb0;generalize W.setRow g (mv fun i=>(decide (i<1440)&& !f i)&&decide (i<1440))=W at*;clear hK hF hw hn hm hJ hT1 hT5 e8 e4 hg0 hI h1 hz bw hsz hlw;have hTW:=hT 0 W hIW
  go_wp2_with(first
   |(refine aR rfl 61 _ rfl _ rfl _ _ _ _ hgm bQ rfl (ba _) ?_)
   |(go_at_call 208;refine(tF f 0 (by omega) _ hTW).mono ?_;rintro e w1 ⟨⟨r,rfl,hr⟩,hb1⟩))
  have hI1:=hmono 0 W w1 hIW hb1;have hm1:=ai hb1 hgm;have hg1:=ai hb1 hg;have hs1:w.heap.size<=w1.heap.size:=(by have:=hb0.size;have:=hb1.size;omega);clear hIW hgm hg hb0 hTW hb1;have HR:P3 (yI f 0 r):=hr;clear hr;go_loopw [5] (fun v wr=> ∃p a:Nat,v=ag a/\yI f p a/\I p wr/\w.heap.size<=wr.heap.size/\wr.heap[w.heap.size]? =ah (mv f) 61/\wr.heap[g]? =ah (mv fun i=>(decide (i<1440)&& !f i)&&decide (i<1440)) 61) (fun v _=>(1440-intOf v).toNat);case atStart=>exact⟨0,r,rfl,HR.o,hI1,hs1,hm1,hg1⟩
  case round=>
   obtain⟨p,a,rfl,hfa,hIp,hsz,hm2,hg2⟩:=hrel;obtain⟨q1,q2,q3,q4⟩:=hfa;clear hI1 hm1 hg1 hs1 HR;by_cases hlt:a<1440
   ·have hfa:=q4 hlt;have hT2:=hT p wr hIp;have Q3:P3 (∀i,p<=i->i<a->f i=false):=q3;have Q4:P3 (f a=true):=hfa;clear q3 q4 hfa
    go_wp2_with(first
     |(refine aR rfl 61 _ rfl _ rfl _ _ _ _ hg2 bQ rfl (ba _) ?_)
     |(go_at_call 208;refine(tF _ a (by omega) _ hT2).mono ?_;rintro e w3 ⟨⟨b,rfl,hb⟩,hb3⟩))
    obtain⟨b1,b2,b3,b4⟩:=hb;have ha:=Q4.o
    have hyes: ∀i,a<=i->i<b->f i=true:=fun i x y=>by
     have h1440:i<1440:=(by omega);have:=b3 i x y;simpa[h1440] using this
    have hab:a<b:=by
     rcases Nat.lt_or_ge a b with h|h
     ·exact h
     ·have e:b=a:=(by omega);subst e;have:=b4 hlt;simp[ha]at this
    have hbb:b<1440->f b=false:=fun h=>by
     have:=b4 h;simpa[h] using this
    have hI3:=hmono p wr w3 hIp hb3;have hs3:w.heap.size<=w3.heap.size:=(by have:=hb3.size;omega);have hm3:=ai hb3 hm2;have hg3:=ai hb3 hg2;have hc:=hstep p a b w3 hs3 hI3 q1 hab b2 Q3.o hyes hbb;have Hyes:P3 (∀i,a<=i->i<b->f i=true):=hyes;clear b3 b4 hyes hbb hIp hm2 hg2 hT2 hI3 ha hb3;refine hc.mono ?_;rintro e w4 ⟨⟨rfl,hI4⟩|⟨rfl,hR4⟩,⟨hz4,hk4⟩⟩
    ·have hm4:=hk4 _ _ (aA _) hm3;have hg4:=hk4 _ _ (by omega) hg3;have hT4:=hT b w4 hI4;clear hk4 hm3 hg3 hc
     go_wp2_with(first
      |(refine aR rfl 61 _ rfl _ rfl _ _ _ _ hm4 bQ rfl (ba _) ?_)
      |(go_at_call 208;refine(tF f b b2 _ hT4).mono ?_;rintro e w5 ⟨⟨r',rfl,hr'⟩,hb5⟩))
     go_roundw;case rel=>exact⟨b,r',rfl,hr',hmono b w4 w5 hI4 hb5,by have:=hb5.size;omega,ai hb5 hm4,ai hb5 hg4⟩
     case measure=>
      have:=hr'.1;simp[intOf];omega
    ·clear hk4 hm3 hg3 hc;go_wp2;refine aU (dY rfl _ _ _) rfl ?_;exact⟨rfl,hR4⟩
   ·have Hend:P3 (R wr):=hend p wr hIp (by omega) (fun i x y=>q3 i x (by omega));clear q3 q4;go_wp2;go_end0;exact⟨rfl,Hend.o⟩
def iG:List (Int×Int)->List Value
 |[]=>[]
 |s::l=>ag s.1::ag s.2::iG l
theorem tG (x y:Int): ∀l:List (Int×Int),iG (l++[(x,y)])=iG l++[ag x,ag y]
 |[]=>rfl
 |s::l=>by simp[iG,tG x y l]
theorem BS: ∀(l:List (Int×Int)) (j:Nat),j<l.length->(iG l)[j*2]? =some (ag (l.getD j (0,0)).1)/\(iG l)[j*2+1]? =some (ag (l.getD j (0,0)).2)
 |[],j,h=>by simp at h
 |s::l,0,_=>by simp[iG]
 |s::l,j+1,h=>by
  have:=BS l j (by simpa using h);have e:(j+1)*2=j*2+1+1:=(by omega);rw[e];simpa[iG] using this
theorem NY:(prog.info? 143).map (fun i=>(i.zero,i.size,i.bytes))=some (some (.agg #[ag 0,ag 0]),2,16):=by kernel_rfl
theorem zK:prog.underlying 144=some (.slice 143):=by kernel_rfl
theorem gT {w w':World}{base:Nat}{e:TypeId}{size:Nat}{v:Value}{n:Nat}{xs:List Value}(h:w.ownsRow base e size v n xs)(hb:ao w w'):w'.ownsRow base e size v n xs:=by
 obtain⟨h1,h2⟩:=h;refine⟨h1,?_⟩;rcases h2 with h2|⟨g,cap,cur,hv,hg,hh,r⟩
 ·exact .inl h2
 ·exact .inr ⟨g,cap,cur,hv,hg,(hb.block g (aF hh)).trans hh,r⟩
theorem qK {w:World}{base:Nat}{e:TypeId}{size:Nat}{v:Value}{n:Nat}{xs:List Value}(h:w.ownsRow base e size v n xs){k:Nat}{c:Array Value}{t:TypeId}(hk:w.heap[k]? =ah c t)(ht:t≠e):v.ownBlock≠some k:=by
 obtain⟨_,h2⟩:=h;rcases h2 with⟨h2,_⟩|⟨g,cap,cur,hv,hg,hh,r⟩
 ·subst h2;simp[Value.ownBlock]
 ·subst hv;intro e1;have e2:g=k:=(by simpa[Value.ownBlock] using e1);subst e2;rw[hh]at hk;exact ht (Obj.cells.inj (aK hk)).2.1.symm
theorem vk {w:World}{base:Nat}{v:Value}{l:List (Int×Int)}(h:w.ownsRow base 143 2 v l.length (iG l))(hl:l.length<9223372036854775808):Row w v l:=by
 obtain⟨_,h2⟩:=h;rcases h2 with⟨h2,h3⟩|⟨g,cap,cur,hv,hg,hh,h3,h4,h5,h6⟩
 ·exact .inl ⟨0,h2,gV.1 h3⟩
 ·refine .inr ⟨g,0,cap,hv,hl,fun j hj=> ?_⟩;obtain⟨e1,e2⟩:=BS l j hj
  have key: ∀k u,(iG l)[k]? =some u->cur[k]? =some u:=fun k u hk=>by
   rw[<-h6,ja]at hk;split at hk
   ·simpa using hk
   ·cases hk
  rw[bK,aV _ _ _ _ _ _ hh,aV _ _ _ _ _ _ hh];exact⟨key _ _ e1,key _ _ e2⟩
theorem vR (x y:Int)(v:Value)(l:List (Int×Int))(base Bl:Nat)(w:World)(hll:l.length<=1440)(hbase:base<=w.heap.size)(hbl:base<=Bl)
  (hl:w.heap[Bl]? =ah #[v] 144) (hown:w.ownsRow base 143 2 v l.length (iG l)):
  Calls prog 198 #[.agg #[ag x,ag y],ab Bl 0] w fun e w'=>
   e= .returned (.bool true)/\Below base w w'/\(∃v',w'.heap[Bl]? =ah #[v'] 144/\w'.ownsRow base 143 2 v' (l++[(x,y)]).length (iG (l++[(x,y)])))/\ ∀B,Ld B w w':=by
 obtain⟨i0,hi,hz0,hz1,hz2⟩:=iW NY;have c1:=cell_of_one hl;have f1:=free_of_one hl;have l1:=aF hl;have hob:=qK hown hl (by decide);go_enter func198,ntmps198;go_wp2_with(at_builtin;refine iK _ rfl _ _ 144 rfl base 143 i0 (.agg #[ag 0,ag 0]) 2 16 zK hi hz0 hz1 hz2 rfl (by decide) v l.length (iG l) rfl ((hown.alloc _).alloc _) ⟨w.heap.size+1,0,none⟩ 1 1 [ag x,ag y] rfl rfl ?c1 ?c2 ?c3 ?c4 ?c5 ?_)
 case c1=>
  intro j u hj;match j,hj with
  |0,hj=>simp at hj;subst hj;simp[Addr.add]
  |1,hj=>simp at hj;subst hj;simp[Addr.add]
 case c2=>intro u hu;simp at hu;rcases hu with rfl|rfl<;>rfl
 case c3=>unfold maxLen;omega
 case c4=>omega
 case c5=>simp;omega
 ·intro v' w1 hown' hgrow _;have hl1:=cY _ (.cells #[ag x,ag y] 143) _ l1 hl;have hl2:=cY _ (.cells #[ag x,ag y] 143) _ (aF hl1) hl1;have hl3:=(hgrow.block _ (aF hl2) (fun e=>hob e.symm)).trans hl2;have c3:=cell_of_one hl3;have f3:=free_of_one hl3;have hob':=qK hown' hl3 (by decide)
  obtain⟨g,cap,rfl⟩: ∃g cap,v'= .slice (some (ae g 0)) (l.length+1) cap:=by
   rcases hown'.2 with⟨_,h⟩|⟨g,cap,_,h,_⟩
   ·omega
   ·exact⟨g,cap,h⟩
  have hbw:Below base w w1:=(((aG _ _).alloc hbase _).alloc (by simp only[aP];omega) _).grown hgrow (by simp only[aP];omega) (fun k hk=>(hown.lt k hk).1);have HO:P3 ((w.alloc (.cells #[ag x,ag y] 143)).heap.size=w.heap.size+1):=aP _ _;have HW:P3 (w1.ownsRow base 143 2 (.slice (some (ae g 0)) (l.length+1) cap) (l.length+1) (iG l++[ag x,ag y])):=hown';have HG:P3 (((w.alloc (.cells #[ag x,ag y] 143)).alloc (.cells #[ag x,ag y] 143)).grownBy w1 v.ownBlock):=hgrow;clear c1 f1 hl1 hl2 hown' hgrow;go_wp2;go_ret;refine⟨rfl,hbw.setCell hbl _,⟨_,one_setCell hl3,?_⟩,fun B=>⟨?_,fun k c _ hk=> ?_⟩⟩
  ·rw[tG];simp only[aL,bz,fc,bK];exact ownsRow_setCell_other HW.o hob' _
  ·have h1:=HG.o.size;simp only[aP]at h1;simp;omega
  ·have hk1:=cY _ (.cells #[ag x,ag y] 143) _ (aF hk) hk;have hk2:=cY _ (.cells #[ag x,ag y] 143) _ (aF hk1) hk1;have hk3:=(HG.o.block _ (aF hk2) (fun e=>qK hown hk (by decide) e.symm)).trans hk2;refine(aN _ _ _ _ fun e=> ?_).trans hk3;have e':k=Bl:=e;subst e';rw[hl]at hk;exact absurd (Obj.cells.inj (aK hk)).2.1 (by decide)
structure SI (f:Nat->Bool)(w0:World)(Bl:Nat)(p:Nat)(w:World):Prop where
 bel:ao w0 w
 row: ∃v,w.heap[Bl]? =ah #[v] 144/\w.ownsRow w0.heap.size 143 2 v (rs f p).length (iG (rs f p))
 seen:sq f p (rs f p)
 le:p<=1440
def SR (f:Nat->Bool)(w0:World)(Bl:Nat)(w:World):Prop:=
 ao w0 w/\(∃v,w.heap[Bl]? =ah #[v] 144/\w.ownsRow w0.heap.size 143 2 v (rs f 1440).length (iG (rs f 1440)))/\lj f 1440 (rs f 1440)
theorem C2 (f:Nat->Bool)(w0 w:World)(Bl:Nat)(hT:Tab w0)(lb:w0.heap.size<=Bl)(hI:SI f w0 Bl 0 w):
  Calls prog 197 #[.agg (mv f),.func (.func 198) #[] #[ab Bl 0]] w fun e w'=>
   e= .returned (.tuple #[])/\SR f w0 Bl w':=by
 refine Hl f 198 _ (SI f w0 Bl) (SR f w0 Bl) w hI (fun _ _=>by simp[go_sem]) (fun p wr h=>hT.later h.bel) ?_ ?_ ?_
 ·intro p wr w' h hb;obtain⟨v,h1,h2⟩:=h.row;exact⟨au h.bel hb,⟨v,ai hb h1,gT h2 hb⟩,h.seen,h.le⟩
 ·intro p a b wr hsz h hpa hab hb3 hno hyes hbb;obtain⟨v,h1,h2⟩:=h.row;have hs:=h.seen.next a b hpa hab hb3 hno hyes hbb;have e:rs f b=rs f p++[((a:Int),(b:Int))]:=hs.same.symm;refine(vR a b v (rs f p) w0.heap.size Bl wr (by have:=h.seen.runs.few;have:=h.le;omega) h.bel.size lb h1 h2).mono ?_;rintro e' w' ⟨rfl,hb,hrow,hab'⟩;rw[<-e]at hrow hs;exact⟨.inl ⟨rfl,h.bel.trans hb,hrow,hs,hb3⟩,hab' _⟩
 ·intro p wr h hp hno;obtain⟨e,hr⟩:=h.seen.all hp hno;have hrow:=h.row;rw[e]at hrow hr;exact⟨h.bel,hrow,hr⟩
def c8 (l:List Int):List Value:=l.map fun n=>ag n
theorem kb (l:List Int):(c8 l).length=l.length:=by simp[c8]
theorem kU (l:List Int)(n:Int):c8 (l++[n])=c8 l++[ag n]:=by simp[c8]
theorem sw:prog.underlying 24=some (.slice 3):=by kernel_rfl
theorem oc:(prog.info? 3).map (fun i=>(i.zero,i.size,i.bytes))=some (some (ag 0),1,8):=by kernel_rfl
theorem pL {t:TypeId}{z:Value}{a b:Nat}(h:(prog.info? t).map (fun i=>(i.zero,i.size,i.bytes))=some (some z,a,b)): ∃i,prog.info? t=some i/\i.zero=some z/\i.size=a/\i.bytes=b:=by
 cases hi:prog.info? t with
 |none=>rw[hi]at h;cases h
 |some i=>
  rw[hi]at h;have h':=aK h;exact⟨i,rfl,congrArg (fun x=>x.1) h',congrArg (fun x=>x.2.1) h',congrArg (fun x=>x.2.2) h'⟩
theorem qq {w:World}{base:Nat}{v:Value}{l:List Int}(h:w.ownsRow base 3 1 v l.length (c8 l))(hl:l.length<9223372036854775808):dQ w v l:=by
 rcases h.2 with⟨rfl,e⟩|⟨g,cap,cur,rfl,_,hg,_,_,_,ht⟩
 ·refine⟨none,0,by rw[e],hl,fun j n hj=> ?_⟩;have:=(aE.1 hj).1;omega
 ·refine⟨_,cap,rfl,hl,fun j n hj=>⟨g,0,rfl,?_⟩⟩;have hj':=(aE.1 hj).1;rw[bK,aV w g j cur 3 (0,0) hg,<-bo];have e:(c8 l)[j]? =some (ag n):=(by simp[c8,hj]);rw[<-ht,Nat.mul_one,dA hj']at e;exact e
theorem C3 (w:World)(base:Nat)(v:Value)(l:List Int)(r:Int)(hown:w.ownsRow base 3 1 v l.length (c8 l))(gn c:Nat)(hn:w.cell? (ae gn 0)=some (ag r))(ty:TypeId)(hl:l.length<=1000000)(hb:base<=w.heap.size):
  ∃v' w',(Builtin.append_ #[24,24] ty #[v,.slice (some (ae gn 0)) 1 c]).run prog w= .ok v' w'/\w'.ownsRow base 3 1 v' (l.length+1) (c8 (l++[r]))/\
   ((v'.ownBlock=v.ownBlock/\w.grownBy w' v.ownBlock/\ ∀w2:World,w2.ownsRow base 3 1 v' (l.length+1) (c8 (l++[r]))->w2.ownsRow base 3 1 v l.length (c8 l))\/(w.grownBy w' none/\ ∃g,v'.ownBlock=some g/\w.heap.size<=g)):=by
 obtain⟨i,hi,hz,hs,hby⟩:=pL oc
 have hnews: ∀(j:Nat) u,[ag r][j]? =some u->w.cell? ((⟨gn,0,none⟩:Addr).add j)=some u:=fun j u hu=>by
  match j,hu with
  |0,hu=>cases aK hu;simpa[Addr.add] using hn
  |j+1,hu=>simp at hu
 have hml:l.length+1<=maxLen:=by unfold maxLen;omega
 have grown: ∀(old:Nat),(w.drew.alloc (.cells ((c8 l).toArray++[ag r].toArray++Builtin.zeroCells (ag 0).cells (grownCap w (l.length+1) old 3-(l.length+1))) 3)).ownsRow base 3 1 (.slice (some (ae w.heap.size 0)) (l.length+1) (grownCap w (l.length+1) old 3)) (l.length+1) (c8 (l++[r]))/\
   w.grownBy (w.drew.alloc (.cells ((c8 l).toArray++[ag r].toArray++Builtin.zeroCells (ag 0).cells (grownCap w (l.length+1) old 3-(l.length+1))) 3)) none:=by
  intro old;have hge:=grownCap_ge w (l.length+1) old 3;have hcm:=grownCap_le_maxLen w (l.length+1) old 3 hml;refine⟨⟨by rw[kb];simp,.inr ⟨w.heap.size,_,_,rfl,hb,aC w.drew _,hge,hcm,?_,?_⟩⟩,⟨rfl,rfl,rfl,by simp,fun k hk _=>Array.getElem?_push_lt hk|>.trans (fk hk).symm⟩⟩
  ·simp only[Array.size_append,List.size_toArray,size_zeroCells,kb];show l.length+[ag r].length+(grownCap w (l.length+1) old 3-(l.length+1))*1=_;simp only[bz,fc];omega
  ·rw[kU];simp only[Array.toList_append,dm];rw[<-dm,show(l.length+1)*1=(c8 l++[ag r]).length by simp[kb]];exact List.take_left
 rcases hown.2 with⟨rfl,e0⟩|⟨g,cap,cur,rfl,hbg,hg,hnc,hcm,hcs,htake⟩
 ·have hl0:l=[]:=fp e0;subst hl0;have hr:=run_append_nil (P:=prog) w 24 ty 3 i (ag 0) sw hi hz ⟨gn,0,none⟩ 1 c [ag r] (by rw[hs];rfl) hnews (by omega) (by omega) (by omega);have hgr:=grown 0;refine⟨_,_,hr,?_,.inr ⟨?_,_,rfl,aA _⟩⟩
  ·simpa[c8] using hgr.1
  ·simpa[c8] using hgr.2
 ·by_cases hroom:l.length+1<=cap
  ·have hfit:l.length*i.size+[ag r].length<=cur.size:=(by rw[hs,hcs];simp;omega);have hr:=run_append_room (P:=prog) w 24 ty 3 i sw hi g l.length cap cur hg ⟨gn,0,none⟩ 1 c [ag r] (by rw[hs];rfl) hnews (by simp[Value.oneCell']) hroom hfit;refine⟨_,_,hr,⟨by rw[kb];simp,.inr ⟨g,cap,_,rfl,hbg,aJ w g cur _ 3 _ hg,hroom,hcm,?_,?_⟩⟩,.inl ⟨rfl,⟨rfl,rfl,rfl,by simp,fun k _ hk=>aT w g k _ (fun e=>hk (by simp[Value.ownBlock,e]))⟩,fun w2 h2=> ?_⟩⟩
   ·rw[hs];simp only[List.size_toArray,aL,d8,eN,bP];simp only[bz,fc];omega
   ·rw[hs,htake,kU,show(l.length+1)*1=(c8 l++[ag r]).length by simp[kb]];exact List.take_left
   ·refine⟨hown.1,?_⟩;rcases h2.2 with⟨e,_⟩|⟨g',cap',cur',e,hb',hg',hn',hm',hs',ht'⟩
    ·cases e
    ·injection e with e1 e2 e3;injection e1 with e1;injection e1 with e1;subst e1 e3;refine .inr ⟨g,cap,cur',rfl,hb',hg',by omega,hm',hs',?_⟩;have h3:=congrArg (List.take (l.length*1)) ht';rw[List.take_take,kU,fC (by omega),List.take_append_of_le_length (by rw[kb];omega)]at h3;rw[h3];exact cj (by rw[kb];omega)
  ·have holds: ∀j u,(c8 l)[j]? =some u->w.cell? ((⟨g,0,none⟩:Addr).add j)=some u:=hown.cells (g:=g) rfl;have hr:=run_append_grow (P:=prog) w 24 ty 3 i (ag 0) sw hi hz ⟨g,0,none⟩ l.length cap (c8 l) (by rw[hs];exact hown.1) holds ⟨gn,0,none⟩ 1 c [ag r] (by rw[hs];rfl) hnews (by omega) (by omega) (growslice_fits (by omega) (by rw[hby];omega));exact⟨_,_,hr,(grown cap).1,.inr ⟨(grown cap).2,_,rfl,aA _⟩⟩
end Go.Proofs.YtjkilacmkbmmbaaGreatDoor
