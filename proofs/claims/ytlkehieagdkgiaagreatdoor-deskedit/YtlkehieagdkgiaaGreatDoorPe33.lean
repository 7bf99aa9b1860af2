/- Texts of the proof. -/
import Derived.Test.YtlkehieagdkgiaaGreatDoorPe32
import Derived.Great.BuildSlice
set_option maxRecDepth 100000
set_option maxHeartbeats 8000000
namespace Go.Proofs.YtlkehieagdkgiaaGreatDoor
open Go.Proofs.Tryz Go.RowKit Lx Vx Mx Msk
structure Co where
 rules:List Ru
 res:List (List UInt8)
 svs:List Sv
 aps:List Ap
def coD (d:Dk):Co:=⟨d.rules,d.res,d.svs,d.aps⟩
def mS (c:Co)(r day:Int):M:=if atP5 c.rules (c.res.getD r.toNat [])<0 then noM else gX c.rules (wkB day) day (atP5 c.rules (c.res.getD r.toNat [])).toNat
def fS (c:Co)(r day a:Int):M:=rW (mS c r day) (inl (kZ r day a c.aps 0))
def fq (c:Co)(n:Int)(a:Ap)(day min:Int)(who:List Int):Ap×Int:=
 if isN day 146097=false\/isN min 1440=false then(ap0,3) else
 if min-a.bef<0\/1440<min+a.len+a.aft then(ap0,3) else
 if jO who (c.svs.getD a.sv.toNat sv0).roles≠0 then(ap0,jO who (c.svs.getD a.sv.toNat sv0).roles) else
 if(who.any fun r=> !ff (fS c r day n) (min-a.bef) (min+a.len+a.aft))=true then(ap0,10) else({a with fr:=min-a.bef,to:=min+a.len+a.aft,day:=day,min:=min,who:=who},0)
def kU (c:Co)(n:Int):Ap:=⟨1,10,0,0,n,(c.svs.getD n.toNat sv0).bef,(c.svs.getD n.toNat sv0).aft,(c.svs.getD n.toNat sv0).len,0,0,[]⟩
def kE (c:Co)(n day min:Int)(who:List Int):An×Co:=
 if isN n c.svs.length=false then(noA 6,c) else
 if 30<=c.aps.length then(noA 5,c) else
 if(fq c (-1) (kU c n) day min who).2≠0 then(noA (fq c (-1) (kU c n) day min who).2,c) else(jd c.aps.length,{c with aps:=c.aps++[(fq c (-1) (kU c n) day min who).1]})
def fU (c:Co)(n:Int)(f:Ap->Ap×Int):An×Co:=
 if isN n c.aps.length=false\/(c.aps.getD n.toNat ap0).st=3 then(noA 6,c) else
 if(f (c.aps.getD n.toNat ap0)).2≠0 then(noA (f (c.aps.getD n.toNat ap0)).2,c) else(noA 0,{c with aps:=c.aps.set n.toNat (f (c.aps.getD n.toNat ap0)).1})
def vN (c:Co)(t:Int):An×Co:=if t<0\/1000<t then(noA 3,c) else(noA 0,{c with aps:=c.aps.map (ib t)})
def Aj (c:Co)(name:List UInt8):An×Co:=
 if 12<=c.res.length then(noA 5,c) else if atP5 c.rules name<0 then(noA 7,c) else(jd c.res.length,{c with res:=c.res++[name]})
def Ak (c:Co)(s:Sv):An×Co:=
 if 8<=c.svs.length then(noA 5,c) else if fD s c.res.length≠0 then(noA (fD s c.res.length),c) else(jd c.svs.length,{c with svs:=c.svs++[s]})
def GQ (c:Co)(s:Sv)(day:Int):Nat->Nat->List M
 |0,_=>[]
 |m+1,r=>(if s.roles.any (fun p=>decide ((r:Int)∈p))=true then fS c r day (-1) else noM)::GQ c s day m (r+1)
def uS (c:Co)(s:Sv)(day:Int):Nat->Nat->List (List M)
 |0,_=>[]
 |m+1,i=>GQ c s (day+i) c.res.length 0::uS c s day m (i+1)
def vO (c:Co)(n day days:Int):An×Co:=
 if isN n c.svs.length=false then(noA 6,c) else
 if isN day 146097=false\/days<1\/30<days\/146097<day+days then(noA 3,c) else
 if(ia (c.svs.getD n.toNat sv0) (uS c (c.svs.getD n.toNat sv0) day days.toNat 0)).err≠0 then(noA (ia (c.svs.getD n.toNat sv0) (uS c (c.svs.getD n.toNat sv0) day days.toNat 0)).err,c) else(⟨0,0,(ia (c.svs.getD n.toNat sv0) (uS c (c.svs.getD n.toNat sv0) day days.toNat 0)).day+day,(ia (c.svs.getD n.toNat sv0) (uS c (c.svs.getD n.toNat sv0) day days.toNat 0)).min,(ia (c.svs.getD n.toNat sv0) (uS c (c.svs.getD n.toNat sv0) day days.toNat 0)).who,[]⟩,c)
def rF (c:Co):List Ap->Nat->List Int
 |[],_=>[]
 |a::l,i=>if a.st≠3/\(a.who.any fun r=> !ff (mS c r a.day) a.fr a.to)=true then(i:Int)::rF c l (i+1) else rF c l (i+1)
def jE (c:Co)(r:Int×List Ru):An×Co:=if r.1≠0 then(noA r.1,c) else(⟨0,0,0,0,[],rF {c with rules:=r.2} c.aps 0⟩,{c with rules:=r.2})
def doS (c:Co)(x:Cm):An×Co:=
 if x.kind=1 then jE c (fY x.text) else
 if x.kind=2 then Aj c x.name else
 if x.kind=3 then Ak c x.sv else
 if x.kind=4 then vO c x.n x.day x.days else
 if x.kind=5 then kE c x.n x.sday x.smin x.swho else
 if x.kind=6 then fU c x.n (fun a=>(fy a 2,0)) else
 if x.kind=7 then fU c x.n (fun a=>(fy a 3,0)) else
 if x.kind=8 then fU c x.n (fun a=>fq c x.n a x.sday x.smin x.swho) else
 if x.kind=9 then vN c x.days else(noA 1,c)
def iK:Co->List Cm->List An×Co
 |c,[]=>([],c)
 |c,x::l=>((doS c x).1::(iK (doS c x).2 l).1,(iK (doS c x).2 l).2)
def co0:Co:=⟨[],[],[],[]⟩
structure DI (d:Dk):Prop where
 flt:iB d.rules=(0,0)
 vl:d.vers.length=d.rules.length
 kv: ∀e∈d.kept,e.v<=d.given
 vg: ∀v∈d.vers,v<=d.given
 ki: ∀e∈d.kept,∀i:Nat,e.r=(i:Int)->d.vers[i]? =some e.v->e.m=gX d.rules (wkB e.d) e.d i
 ad: ∀a∈d.aps,0<=a.day/\a.day<146097
theorem Dh {l:List Ru}(h:iB l=(0,0)){i:Nat}(hi:i<l.length){day:Int}(d:0<=day)(e:day<146097):(jh (fd l) (i:Int) day).1=0/\oZ (fd l) (i:Int) day=gX l (wkB day) day i:=by
 have b:(iB l).1=0:=by rw[h]
 have c:=Ee (JD b)
 have a:(jh (fd l) (i:Int) day).1=0:=by
  unfold jh;rw[c,ax (by simp),xG,ax (by omega),ax (by omega)]
 refine⟨a,?_⟩;unfold oZ;rw[aB a,dj,NY];refine E6 (sZ b).1 _ _ _ _ hi ?_;rw[xG];have:=A4 l (i:Int);unfold muR;omega
theorem Lz {l:List Vx.Kp}{i:Int}{e:Vx.Kp}(h:e∈fC l i):e∈l:=by
 unfold fC at h;split at h
 ·rcases da.1 h with h|h
  ·exact List.mem_of_mem_take h
  ·exact List.mem_of_mem_drop h
 ·exact h
theorem vP {l:List Vx.Kp}{i:Int}{e x:Vx.Kp}(h:x∈fC l i++[e]):x∈l\/x=e:=(da.1 h).imp Lz cQ.1
theorem Di {d:Dk}(h:DI d)(r:Int){day:Int}(B:0<=day)(C:day<146097):(fw d r day).1=mS (coD d) r day/\DI (fw d r day).2/\coD (fw d r day).2=coD d:=by
 have D:=ny d.rules (d.res.getD r.toNat []);by_cases f:atP5 d.rules (d.res.getD r.toNat [])<0
 ·have e:fw d r day=(noM,d):=aB f;rw[e];exact⟨(aB f).symm,h,rfl⟩
 ·obtain⟨i,g⟩: ∃i:Nat,atP5 d.rules (d.res.getD r.toNat [])=(i:Int):=⟨(atP5 d.rules (d.res.getD r.toNat [])).toNat,by omega⟩
  have e:fw d r day=((jk (fd d.rules) d.kept d.runs (d.vers.getD i 0) (i:Int) day).m,{d with kept:=(jk (fd d.rules) d.kept d.runs (d.vers.getD i 0) (i:Int) day).l,runs:=(jk (fd d.rules) d.kept d.runs (d.vers.getD i 0) (i:Int) day).n}):=by
   unfold fw;dsimp only;rw[ax f,g,dj]
  have q:mS (coD d) r day=gX d.rules (wkB day) day i:=by
   unfold mS coD;dsimp only;rw[ax f,g,dj]
  rw[e,q];rw[g]at D;clear e q f g;have hi:i<d.rules.length:=(by omega);obtain⟨v,o⟩: ∃v,d.vers[i]? =some v:=⟨d.vers[i]'(by rw[h.vl];exact hi),ay _⟩
  have p:d.vers.getD i 0=v:=(by simp[List.getD,o]);obtain⟨E,F⟩:=Dh h.flt hi B C;rw[p];unfold jk;by_cases k:mg d.kept v (i:Int) day=true
  ·rw[aB k];obtain⟨n,e,G,s,t,u,w,y⟩:=Pr k;dsimp only;rw[y];have b:=aM s;have A:e.m=gX d.rules (wkB day) day i:=(by rw[<-u];exact h.ki e b i t (by rw[w];exact o));refine⟨A,⟨h.flt,h.vl,fun x a=> ?_,h.vg,fun x a=> ?_,h.ad⟩,rfl⟩
   ·rcases vP a with a|rfl
    ·exact h.kv x a
    ·exact h.kv _ b
   ·rcases vP a with a|rfl
    ·exact h.ki x a
    ·exact h.ki _ b
  ·rw[ax k,ax (fun c=>c E)];dsimp only;rw[F];refine⟨rfl,⟨h.flt,h.vl,fun x a=> ?_,h.vg,fun x a=> ?_,h.ad⟩,rfl⟩
   ·rcases vP (List.mem_of_mem_drop a) with a|rfl
    ·exact h.kv x a
    ·exact h.vg _ (aM o)
   ·rcases vP (List.mem_of_mem_drop a) with a|rfl
    ·exact h.ki x a
    ·intro j z _
     have:j=i:=by
      have e:(i:Int)=(j:Int):=z;omega
     subst this;rfl
def Ste (d:Dk)(a:Dk):Prop:=DI a/\coD a=coD d
theorem E7 {d:Dk}(h:DI d)(r e:Int){day:Int}(f:0<=day)(g:day<146097):(iH d r day e).1=fS (coD d) r day e/\Ste d (iH d r day e).2:=by
 obtain⟨a,b,c⟩:=Di h r f g;exact⟨by unfold iH fS;rw[a];rfl,b,c⟩
theorem Dj {f:Int->Dk->Bool×Dk}{g:Co->Int->Bool}(i: ∀x d,DI d->(f x d).1=g (coD d) x/\Ste d (f x d).2): ∀(l:List Int) (d:Dk),DI d->(jt f l d).1=l.any (g (coD d))/\Ste d (jt f l d).2
 |[],d,h=>⟨rfl,h,rfl⟩
 |x::l,d,h=>by
  obtain⟨a,b,c⟩:=i x d h;unfold jt;by_cases e:(f x d).1=true
  ·rw[aB e];refine⟨?_,b,c⟩;rw[List.any_cons,<-a,e];rfl
  ·rw[ax e];obtain⟨j,k,m⟩:=Dj i l (f x d).2 b;refine⟨?_,k,m.trans c⟩;rw[j,c,List.any_cons,<-a];simp[e]
theorem xH {d:Dk}(h:DI d)(n:Int)(a:Ap)(day min:Int)(who:List Int):(fh d n a day min who).1=fq (coD d) n a day min who/\Ste d (fh d n a day min who).2:=by
 unfold fh fq;by_cases b:isN day 146097=false\/isN min 1440=false
 ·rw[aB b,aB b];exact⟨rfl,h,rfl⟩
 rw[ax b,ax b];by_cases e:min-a.bef<0\/1440<min+a.len+a.aft
 ·rw[aB e,aB e];exact⟨rfl,h,rfl⟩
 rw[ax e,ax e];show((if jO who (d.svs.getD a.sv.toNat sv0).roles≠0 then _ else _:(Ap×Int)×Dk).1=(if jO who (d.svs.getD a.sv.toNat sv0).roles≠0 then _ else _))/\_;by_cases i:jO who (d.svs.getD a.sv.toNat sv0).roles≠0
 ·rw[aB i,aB i];exact⟨rfl,h,rfl⟩
 rw[ax i,ax i]
 have j:0<=day/\day<146097:=by
  have:isN day 146097=true:=(by simpa using fun c=>b (.inl c));simpa[isN] using this
 obtain⟨p,q⟩:=Dj (g:=fun c r=> !ff (fS c r day n) (min-a.bef) (min+a.len+a.aft)) (f:=lc day n (min-a.bef) (min+a.len+a.aft)) (fun x d h=>by
  obtain⟨k,l⟩:=E7 h x n j.1 j.2;exact⟨by unfold lc;rw[k],l⟩) who d h
 dsimp only;rw[p];split
 ·exact⟨rfl,q⟩
 ·exact⟨rfl,q⟩
theorem Dl (s:Sv){day:Int}(i:0<=day)(j:day<146097): ∀(m r:Nat) (d:Dk),DI d->(gG s day m r d).1=GQ (coD d) s day m r/\Ste d (gG s day m r d).2
 |0,_,d,h=>⟨rfl,h,rfl⟩
 |m+1,r,d,h=>by
  unfold gG GQ;dsimp only;split
  ·obtain⟨a,b,c⟩:=E7 h (r:Int) (-1) i j;obtain⟨e,f,g⟩:=Dl s i j m (r+1) _ b;exact⟨by rw[a,e,c],f,g.trans c⟩
  ·obtain⟨e,f,g⟩:=Dl s i j m (r+1) d h;exact⟨by rw[e],f,g⟩
theorem JE (s:Sv){day:Int}(j:0<=day): ∀(m i:Nat) (d:Dk),DI d->day+i+m<=146097->(iW s day m i d).1=uS (coD d) s day m i/\Ste d (iW s day m i d).2
 |0,_,d,h,_=>⟨rfl,h,rfl⟩
 |m+1,i,d,h,k=>by
  unfold iW uS;dsimp only;obtain⟨a,b,c⟩:=Dl s (day:=day+i) (by omega) (by omega) d.res.length 0 d h;obtain⟨e,f,g⟩:=JE s j m (i+1) _ b (by omega);exact⟨by rw[a,e,c];rfl,f,g.trans c⟩
theorem Dm: ∀(N:Nat) (a b:Ex),lX N a b=true->a=b
 |0,_,_,h=>by cases h
 |N+1,a,b,h=>by
  unfold lX at h;simp only[bz,bT,dD]at h;obtain⟨⟨⟨⟨c,d⟩,e⟩,f⟩,j,k⟩:=h;have g:a.kids=b.kids:=List.ext_getElem j fun i hi l=>Dm N _ _ (k (a.kids[i],b.kids[i]) (List.mem_iff_getElem.2 ⟨i,by simp;omega,by simp⟩));cases a;cases b;simp only at c d e f g;subst c d e f g;rfl
theorem Al {c new:List Ru}{k:Nat}(h:ju c new (k:Int)=false): ∃u,c[k]? =some u/\new[k]? =some u:=by
 unfold ju at h;rw[dj]at h;cases ha:c[k]? with
 |none=>rw[ha]at h;cases h
 |some a=>
  cases hb:new[k]? with
  |none=>rw[ha,hb]at h;cases h
  |some b=>
   rw[ha,hb]at h;simp only[Bool.or_eq_false_iff,Bool.not_eq_false']at h;have d:=h.2;unfold qA at d;simp only[bz,bT]at d;have:a=b:=Prod.ext d.1 (Dm _ _ _ d.2);exact⟨a,rfl,by rw[this]⟩
theorem NZ {l:List Ru}(h:(dC l).1=0){k:Nat}{u:Ru}(b:l[k]? =some u):atP5 l u.1=(k:Int):=by
 have a:=(ER h).1 k (aF.1 b).1;unfold lk1 at a;rw[b]at a;simpa using a
theorem Bp {L d:List Ru}(o:(dC L).1=0)(c:(dC d).1=0)(w:Int->Bool)(day:Int): ∀(m i:Nat),muR d i<m->i<d.length->ju L d (i:Int)=false->(∀k∈gK d (i:Int),ju L d k=false)->gX L w day i=gX d w day i
 |0,_,h,_,_,_=>by omega
 |m+1,i,K,hi,G,z=>by
  obtain⟨u,E,n⟩:=Al G;rw[ph o E,ph c n];refine oA _ u.2 (aD _) fun x B=> ?_;obtain⟨M,N,_⟩:=sY c (aM n) B;obtain⟨k,l⟩: ∃k:Nat,atP5 d x=(k:Int):=⟨(atP5 d x).toNat,by omega⟩
  have s:=oB c n B;rw[l,dj]at s;have A:Lx.Way (fun a b=>(iT d a).contains b) i k:=Relation.TransGen.single (by simpa using s);have f:k<d.length:=(by omega);have r:(k:Int)∈gK d (i:Int):=(mX c hi).2 ⟨k,rfl,f,A⟩;have g:=z _ r;obtain⟨v,I,J⟩:=Al g
  have t:v.1=x:=by
   obtain⟨O,y,C⟩:=Io l;rw[J]at y;cases y;exact C
  have D:atP5 L x=(k:Int):=(by rw[<-t];exact NZ o I);rw[D,l,dj];refine Bp o c w day m k (by have:=sU c hi s;omega) f g fun j F=>z j ?_;obtain⟨H,e,p,q⟩:=(mX c f).1 F;exact(mX c hi).2 ⟨H,e,p,A.trans q⟩
theorem N0 {t:List UInt8}(h:(fY t).1=0):iB (fY t).2=(0,0):=by
 unfold fY at h⊢;split at h
 ·rename_i a;exact absurd h a
 ·rename_i a;rw[ax a];exact Bm h
structure DJ (d:Dk):Prop extends DI d where
 gv:0<=d.given
theorem Ste.j {d a:Dk}(h:DJ d)(c:Ste d a)(b:a.given=d.given):DJ a:=⟨c.1,by rw[b];exact h.gv⟩
theorem Ef {d:Dk}(h:DJ d){l:List Ru}(o:iB l=(0,0)):DI {d with rules:=l,vers:=qB d l,given:=d.given+1}:=by
 have b:(qB d l).length=l.length:=by simp[qB]
 refine⟨o,b,fun e j=>by have:=h.kv e j;show e.v<=d.given+1;omega,fun v g=> ?_,fun e j i r g=> ?_,h.ad⟩
 ·show v<=d.given+1;unfold qB at g;obtain⟨i,_,rfl⟩:=dR.1 g;split
  ·omega
  ·by_cases q:i<d.vers.length
   ·have:=h.vg (d.vers.getD i 0) (by simp[List.getD,ay q]);omega
   ·have:d.vers.getD i 0=0:=(by simp[List.getD,eO (by omega:d.vers.length<=i)]);have:=h.gv;omega
 ·show e.m=gX l (wkB e.d) e.d i;have hi:i<l.length:=(by rw[<-b];exact(aF.1 g).1);have a:(qB d l)[i]? =some e.v:=g;unfold qB at a;rw[a8,List.getElem?_range hi]at a;replace a:(if ju d.rules l (i:Int)=true\/(gK l (i:Int)).any (ju d.rules l)=true then d.given+1 else d.vers.getD i 0)=e.v:=aN a;by_cases q:ju d.rules l (i:Int)=true\/(gK l (i:Int)).any (ju d.rules l)=true
  ·rw[aB q]at a;have:=h.kv e j;omega
  ·rw[ax q]at a;have p:ju d.rules l (i:Int)=false:=(by simpa using fun c=>q (.inl c))
   have t: ∀k∈gK l (i:Int),ju d.rules l k=false:=fun k s=>by
    have: ¬(gK l (i:Int)).any (ju d.rules l)=true:=fun c=>q (.inr c);simp only[List.any_eq_true,not_exists,not_and]at this;simpa using this k s
   obtain⟨u,u1,_⟩:=Al p;have f:i<d.vers.length:=(by rw[h.vl];exact(aF.1 u1).1)
   have n:d.vers[i]? =some e.v:=by
    rw[<-a,ay f];simp[List.getD,ay f]
   rw[h.ki e j i r n];exact Bp (sZ (by rw[h.flt])).1 (sZ (by rw[o])).1 _ _ _ i (Nat.lt_succ_self _) hi p t
theorem xI: ∀(l:List Ap) (i:Nat) (d:Dk),DI d->(∀a∈l,0<=a.day/\a.day<146097)->(fi l i d).1=rF (coD d) l i/\Ste d (fi l i d).2
 |[],_,d,h,_=>⟨rfl,h,rfl⟩
 |a::l,i,d,h,m=>by
  unfold fi rF;by_cases j:a.st=3
  ·rw[aB j,ax (fun c=>c.1 j)];exact xI l (i+1) d h fun b k=>m b (bL _ k)
  ·rw[ax j];have ha:=m a bq
   obtain⟨p,w,q⟩:=Dj (g:=fun c r=> !ff (mS c r a.day) a.fr a.to) (f:=lr a.day a.fr a.to) (fun x d h=>by
    obtain⟨s,t,u⟩:=Di h x ha.1 ha.2;exact⟨by unfold lr;rw[s],t,u⟩) a.who d h
   obtain⟨v,n,o⟩:=xI l (i+1) _ w fun b k=>m b (bL _ k);dsimp only;refine⟨?_,n,o.trans q⟩;rw[v,q,p];by_cases e:(a.who.any fun r=> !ff (mS (coD d) r a.day) a.fr a.to)=true
   ·rw[aB e,aB ⟨j,e⟩]
   ·rw[ax e,ax fun c=>e c.2]
theorem E8 {c:Co}{n:Int}{a:Ap}{day min:Int}{who:List Int}(h:(fq c n a day min who).2=0):0<=(fq c n a day min who).1.day/\(fq c n a day min who).1.day<146097:=by
 unfold fq at h⊢;split
 ·rename_i b;rw[aB b]at h;cases h
 rename_i b;rw[ax b]at h;split
 ·rename_i e;rw[aB e]at h;cases h
 rename_i e;rw[ax e]at h;split
 ·rename_i d;rw[aB d]at h;exact absurd h d
 rename_i d;rw[ax d]at h;split
 ·rename_i f;rw[aB f]at h;cases h
 have:isN day 146097=true:=by simpa using fun c=>b (.inl c)
 simpa[isN] using this
def Rl (p:An×Dk)(q:An×Co):Prop:=p.1=q.1/\coD p.2=q.2/\DJ p.2
theorem Rl.ite {c:Prop}[Decidable c]{p a:An×Dk}{q b:An×Co}(h:c->Rl p q)(d: ¬c->Rl a b):Rl (if c then p else a) (if c then q else b):=by
 by_cases e:c
 ·rw[aB e,aB e];exact h e
 ·rw[ax e,ax e];exact d e
theorem pZ {n m:Int}(h: ¬isN n m=false):0<=n/\n<m:=by
 have:isN n m=true:=by simpa using h
 simpa[isN] using this
theorem Rl.aps {d c:Dk}(h:DJ d)(b:Ste d c)(f:c.given=d.given)(a:An){l:List Ap}(g: ∀x∈l,0<=x.day/\x.day<146097):Rl (a,{c with aps:=l}) (a,{coD d with aps:=l}):=by
 have e:=b.2;unfold coD at e;simp only[Co.mk.injEq]at e;refine⟨rfl,?_,⟨⟨b.1.flt,b.1.vl,b.1.kv,b.1.vg,b.1.ki,g⟩,by show 0<=c.given;rw[f];exact h.gv⟩⟩;unfold coD;simp only[Co.mk.injEq];exact⟨e.1,e.2.1,e.2.2.1,trivial⟩
theorem Dn {d:Dk}(h:DJ d)(n:Int)(f:Ap->Dk->(Ap×Int)×Dk)(g:Ap->Ap×Int)(l: ∀a,(f a d).1=g a/\Ste d (f a d).2/\Cor d (f a d).2)(m: ∀a∈d.aps,(g a).2=0->0<=(g a).1.day/\(g a).1.day<146097):Rl (iL d n f) (fU (coD d) n g):=by
 unfold iL fU;refine .ite (fun _=>⟨rfl,rfl,h⟩) fun i=> ?_;obtain⟨p,q,r⟩:=l (d.aps.getD n.toNat ap0);dsimp only;rw[p];refine .ite (fun _=>⟨rfl,q.2,q.j h r.given⟩) fun k=> ?_;have b:(f (d.aps.getD n.toNat ap0) d).2.aps=d.aps:=congrArg Co.aps q.2;rw[b];refine .aps h q r.given _ fun a ha=> ?_;rcases List.mem_or_eq_of_mem_set ha with ha|rfl
 ·exact h.ad a ha
 ·have o:=pZ fun c=>i (.inl c);have e:n.toNat<d.aps.length:=(by omega);exact m _ (by simp[List.getD,ay e]) (by simpa using k)
theorem Qs {d:Dk}(h:DJ d)(x:Cm):Rl (doP d x) (doS (coD d) x):=by
 have f: ∀a,Rl (a,d) (a,coD d):=fun a=>⟨rfl,rfl,h⟩
 unfold doP doS;refine .ite (fun _=> ?_) fun _=> .ite (fun _=> ?_) fun _=> .ite (fun _=> ?_) fun _=> .ite (fun _=> ?_) fun _=> .ite (fun _=> ?_) fun _=> .ite (fun _=> ?_) fun _=> .ite (fun _=> ?_) fun _=> .ite (fun _=> ?_) fun _=> .ite (fun _=> ?_) fun _=>f _
 ·refine .ite (fun _=>f _) fun e=> ?_;obtain⟨p,q⟩:=xI d.aps 0 _ (Ef h (N0 (by simpa using e))) h.ad;dsimp only;refine⟨by rw[p];rfl,q.2,q.1,?_⟩;rw[(qC d.aps 0 _).given];have:=h.gv;show 0<=d.given+1;omega
 ·exact .ite (fun _=>f _) fun _=> .ite (fun _=>f _) fun _=>⟨rfl,rfl,⟨⟨h.flt,h.vl,h.kv,h.vg,h.ki,h.ad⟩,h.gv⟩⟩
 ·exact .ite (fun _=>f _) fun _=> .ite (fun _=>f _) fun _=>⟨rfl,rfl,⟨⟨h.flt,h.vl,h.kv,h.vg,h.ki,h.ad⟩,h.gv⟩⟩
 ·refine .ite (fun _=>f _) fun _=> .ite (fun _=>f _) fun k=> ?_;have r:=pZ fun c=>k (.inl c);obtain⟨p,q⟩:=JE (d.svs.getD x.n.toNat sv0) r.1 x.days.toNat 0 d h.toDI (by omega);have g:=(xF (d.svs.getD x.n.toNat sv0) x.day x.days.toNat 0 d).given;dsimp only;rw[p];exact .ite (fun _=>⟨rfl,q.2,q.j h g⟩) fun _=>⟨rfl,q.2,q.j h g⟩
 ·refine .ite (fun _=>f _) fun _=> .ite (fun _=>f _) fun _=> ?_;obtain⟨p,q⟩:=xH h.toDI (-1) (kU (coD d) x.n) x.sday x.smin x.swho;have g:=(mD d (-1) (kU (coD d) x.n) x.sday x.smin x.swho).given;have i:(fh d (-1) (kU (coD d) x.n) x.sday x.smin x.swho).2.aps=d.aps:=congrArg Co.aps q.2;have m:(⟨1,10,0,0,x.n,(d.svs.getD x.n.toNat sv0).bef,(d.svs.getD x.n.toNat sv0).aft,(d.svs.getD x.n.toNat sv0).len,0,0,[]⟩:Ap)=kU (coD d) x.n:=rfl;dsimp only;rw[m,p,i];refine .ite (fun _=>⟨rfl,q.2,q.j h g⟩) fun l=> .aps h q g _ fun a ha=> ?_;rcases da.1 ha with ha|ha
  ·exact h.ad a ha
  ·cases cQ.1 ha;exact E8 (by simpa using l)
 ·exact Dn h _ _ _ (fun a=>⟨rfl,⟨h.toDI,rfl⟩,Cor.refl d⟩) fun a ha _=>h.ad a ha
 ·exact Dn h _ _ _ (fun a=>⟨rfl,⟨h.toDI,rfl⟩,Cor.refl d⟩) fun a ha _=>h.ad a ha
 ·exact Dn h _ _ _ (fun a=>⟨(xH h.toDI _ a _ _ _).1,(xH h.toDI _ a _ _ _).2,mD d _ a _ _ _⟩) fun a _ e=>E8 e
 ·refine .ite (fun _=>f _) fun _=> .aps h ⟨h.toDI,rfl⟩ rfl _ fun a ha=> ?_;obtain⟨b,o,rfl⟩:=dR.1 ha;have:=h.ad b o;unfold ib fy;split
  ·exact this
  split<;>exact this
theorem E9: ∀(l:List Cm) (d:Dk),DJ d->(playP d l).1=(iK (coD d) l).1/\coD (playP d l).2=(iK (coD d) l).2/\DJ (playP d l).2
 |[],d,h=>⟨rfl,rfl,h⟩
 |x::l,d,h=>by
  obtain⟨a,b,c⟩:=Qs h x;obtain⟨e,f,g⟩:=E9 l _ c;unfold playP iK;rw[<-a,<-b];exact⟨by rw[e],f,g⟩
theorem Pw:DJ dk0:=⟨⟨zo.flt,zo.vl,(fun e a=>by cases a),(fun e a=>by cases a),(fun e a=>by cases a),(fun e a=>by cases a)⟩,zo.gv.1⟩
theorem qd (l:List Cm):(playP dk0 l).1=(iK co0 l).1/\coD (playP dk0 l).2=(iK co0 l).2/\DJ (playP dk0 l).2:=E9 l dk0 Pw
structure AW (S:List Sv)(a:Ap):Prop where
 lo:0<=a.fr
 hi:a.to<=1440
 fr:a.fr=a.min-a.bef
 to:a.to=a.min+a.len+a.aft
 meas:1<=a.len/\0<=a.bef/\0<=a.aft
 sv:0<=a.sv/\a.sv<S.length
 who:a.who.length=(S.getD a.sv.toNat sv0).roles.length
def NC (a b:Ap):Prop:=a.st=3\/b.st=3\/a.day≠b.day\/a.to<=b.fr\/b.to<=a.fr\/ ∀r∈a.who,r∉b.who
theorem NC.symm {a b:Ap}(h:NC a b):NC b a:=by
 rcases h with h|h|h|h|h|h
 ·exact .inr (.inl h)
 ·exact .inl h
 ·exact .inr (.inr (.inl fun e=>h e.symm))
 ·exact .inr (.inr (.inr (.inr (.inl h))))
 ·exact .inr (.inr (.inr (.inl h)))
 ·exact .inr (.inr (.inr (.inr (.inr fun r d c=>h r c d))))
structure CI (c:Co):Prop where
 svs: ∀s∈c.svs,(1<=s.len/\0<=s.bef/\0<=s.aft)/\1<=s.roles.length
 aps: ∀a∈c.aps,AW c.svs a
 nc: ∀(i j:Nat) (a b:Ap),i≠j->c.aps[i]? =some a->c.aps[j]? =some b->NC a b
theorem LA {f:Nat->Bool}{x y:Int}(h:ff f x y=true){i:Nat}(a:x<=(i:Int))(b:(i:Int)<y):f i=true:=by
 unfold ff at h;simp only[bz,bT]at h;obtain⟨⟨⟨_,d⟩,_⟩,c⟩:=h;have:=xi c i (by omega);have hi:i<1440:=by omega
 simpa[inl,a,b,hi] using this
theorem Do (r day c:Int){b:Ap}(e:b.st≠3)(f:b.day=day)(g:r∈b.who): ∀(l:List Ap) (i j:Nat),l[j]? =some b->((i+j:Nat):Int)≠c->(b.fr,b.to)∈kZ r day c l i
 |[],_,_,h,_=>by simp at h
 |a::l,i,0,h,d=>by
  cases h;unfold kZ;rw[aB ⟨by simpa using d,e,f,g⟩];exact bq
 |a::l,i,j+1,h,d=>by
  have:=Do r day c e f g l (i+1) j h (by rw[show i+1+j=i+(j+1) by omega];exact d);unfold kZ;split
  ·exact bL _ this
  ·exact this
theorem xJ {c:Co}{n:Int}{a:Ap}{day min:Int}{who:List Int}(h:(fq c n a day min who).2=0)(D:1<=a.len/\0<=a.bef/\0<=a.aft)(F:0<=a.sv/\a.sv<c.svs.length):
  AW c.svs (fq c n a day min who).1/\ ∀(j:Nat) (b:Ap),(j:Int)≠n->c.aps[j]? =some b->AW c.svs b->NC (fq c n a day min who).1 b:=by
 unfold fq at h⊢;split at h
 ·exact absurd h (by decide)
 split at h
 ·exact absurd h (by decide)
 split at h
 ·rename_i i;exact absurd h i
 split at h
 ·exact absurd h (by decide)
 rename_i z u i v;rw[ax z,ax u,ax i,ax v]
 have G:who.length=(c.svs.getD a.sv.toNat sv0).roles.length:=by
  have d:jO who (c.svs.getD a.sv.toNat sv0).roles=0:=d7 i;unfold jO at d;split at d
  ·exact absurd d (by decide)
  ·rename_i e;exact d7 e
 refine⟨⟨?_,?_,rfl,rfl,D,F,G⟩,fun j b C B f=> ?_⟩
 ·show 0<=min-a.bef;omega
 ·show min+a.len+a.aft<=1440;omega
 by_cases t:b.st=3
 ·exact .inr (.inl t)
 by_cases g:day≠b.day
 ·exact .inr (.inr (.inl g))
 have g:b.day=day:=(d7 g:day=b.day).symm;by_cases w:min+a.len+a.aft<=b.fr
 ·exact .inr (.inr (.inr (.inl w)))
 by_cases y:b.to<=min-a.bef
 ·exact .inr (.inr (.inr (.inr (.inl y))))
 refine .inr (.inr (.inr (.inr (.inr fun r E m=>v ?_))));refine List.any_eq_true.2 ⟨r,E,?_⟩;cases hh:ff (fS c r day n) (min-a.bef) (min+a.len+a.aft) with
 |false=>rfl
 |true=>
  exfalso;have A: ¬(min-a.bef<0):=fun e=>u (.inl e);have H:=f.fr;have I:=f.to;have J:=f.meas;have K:=f.lo;have L:=f.hi
  obtain⟨x,o,p,q,s⟩: ∃x:Nat,min-a.bef<=(x:Int)/\(x:Int)<min+a.len+a.aft/\b.fr<=(x:Int)/\(x:Int)<b.to:=by
   by_cases e:min-a.bef<=b.fr
   ·exact⟨b.fr.toNat,by omega,by omega,by omega,by omega⟩
   ·exact⟨(min-a.bef).toNat,by omega,by omega,by omega,by omega⟩
  have k:=LA hh o p;unfold fS rW at k;simp only[bz,Bool.not_eq_true']at k
  have l:inl (kZ r day n c.aps 0) x=true:=by
   unfold inl;exact List.any_eq_true.2 ⟨_,Do r day n t g m c.aps 0 j B (by rw[cY];exact C),by simp[q,s];omega⟩
  rw[l]at k;exact absurd k.1.2 (by decide)
theorem AW.settle {S:List Sv}{a:Ap}(h:AW S a)(s:Int):AW S (fy a s):=⟨h.lo,h.hi,h.fr,h.to,h.meas,h.sv,h.who⟩
theorem NC.settle {a b:Ap}(h:NC a b)(c:a.st≠3)(s:Int):NC (fy a s) b:=by
 rcases h with h|h
 ·exact absurd h c
 ·exact .inr h
theorem AW.tick {S:List Sv}{a:Ap}(h:AW S a)(t:Int):AW S (ib t a):=by
 unfold ib;split
 ·exact h
 split
 ·exact h.settle 3
 ·exact⟨h.lo,h.hi,h.fr,h.to,h.meas,h.sv,h.who⟩
theorem NC.tick {a b:Ap}(h:NC a b)(t:Int):NC (ib t a) b:=by
 unfold ib;split
 ·exact h
 split
 ·exact .inl rfl
 ·exact h
theorem CI.set {c:Co}(h:CI c){n:Nat}{p:Ap}(l:AW c.svs p)(k: ∀(j:Nat) (b:Ap),j≠n->c.aps[j]? =some b->NC p b):CI {c with aps:=c.aps.set n p}:=by
 refine⟨h.svs,fun a ha=> ?_,fun i j a b e hi d=> ?_⟩
 ·rcases List.mem_or_eq_of_mem_set ha with ha|rfl
  ·exact h.aps a ha
  ·exact l
 ·replace hi:(c.aps.set n p)[i]? =some a:=hi;replace d:(c.aps.set n p)[j]? =some b:=d;rw[List.getElem?_set]at hi d;by_cases f:n=i
  ·rw[aB f]at hi;rw[ax (by omega)]at d;split at hi
   ·cases hi;exact k j b (by omega) d
   ·cases hi
  ·rw[ax f]at hi;by_cases g:n=j
   ·rw[aB g]at d;split at d
    ·cases d;exact(k i a (by omega) hi).symm
    ·cases d
   ·rw[ax g]at d;exact h.nc i j a b e hi d
theorem CI.change {c:Co}(h:CI c)(n:Int)(f:Ap->Ap×Int)(i: ∀a,c.aps[n.toNat]? =some a->0<=n->a.st≠3->(f a).2=0->AW c.svs (f a).1/\ ∀(j:Nat) (b:Ap),j≠n.toNat->c.aps[j]? =some b->NC (f a).1 b):CI (fU c n f).2:=by
 unfold fU;split
 ·exact h
 split
 ·exact h
 rename_i d g;obtain⟨l,p⟩:=pZ fun e=>d (.inl e);have k:n.toNat<c.aps.length:=by omega
 have e:c.aps[n.toNat]? =some (c.aps.getD n.toNat ap0):=by rw[dg,ay k];rfl
 obtain⟨m,o⟩:=i _ e l (fun e=>d (.inr e)) (d7 g);exact h.set m o
theorem Ma {c:Co}(h:CI c)(x:Cm):CI (doS c x).2:=by
 unfold doS;split
 ·unfold jE;split
  ·exact h
  ·exact⟨h.svs,h.aps,h.nc⟩
 split
 ·unfold Aj;split
  ·exact h
  split
  ·exact h
  ·exact⟨h.svs,h.aps,h.nc⟩
 split
 ·unfold Ak;split
  ·exact h
  split
  ·exact h
  rename_i _ e;refine⟨fun s l=> ?_,fun a ha=> ?_,h.nc⟩
  ·rcases da.1 l with l|l
   ·exact h.svs s l
   ·cases cQ.1 l;have m:fD x.sv c.res.length=0:=d7 e;unfold fD at m;split at m
    ·exact absurd m (by decide)
    ·rename_i B;have:kO x.sv.len x.sv.bef x.sv.aft=true:=(by simpa using B);unfold kO at this;have:=gj this;split at m
     ·exact absurd m (by decide)
     ·omega
  ·have q:=h.aps a ha;have l:=q.sv;have r:a.sv.toNat<c.svs.length:=(by omega);refine⟨q.lo,q.hi,q.fr,q.to,q.meas,⟨l.1,?_⟩,q.who.trans ?_⟩
   ·show a.sv<((c.svs++[x.sv]).length:Nat);rw[aP];omega
   ·show _=((c.svs++[x.sv]).getD a.sv.toNat sv0).roles.length;rw[dg,dg,dT r]
 split
 ·unfold vO;split
  ·exact h
  split
  ·exact h
  split
  ·exact h
  ·exact h
 split
 ·unfold kE;split
  ·exact h
  split
  ·exact h
  split
  ·exact h
  rename_i E _ F;obtain⟨H,I⟩:=pZ E;have r:x.n.toNat<c.svs.length:=(by omega);have G:c.svs.getD x.n.toNat sv0∈c.svs:=(by rw[dg,ay r];exact List.getElem_mem r);obtain⟨t,u⟩:=xJ (d7 F) (h.svs _ G).1 ⟨H,I⟩;generalize (fq c (-1) (kU c x.n) x.sday x.smin x.swho).1=p at t u;have o: ∀(j:Nat) (b:Ap),c.aps[j]? =some b->NC p b:=fun j b f=>u j b (by omega) f (h.aps b (aM f));refine⟨h.svs,fun a ha=> ?_,fun i j a b k hi d=> ?_⟩
  ·rcases da.1 ha with ha|ha
   ·exact h.aps a ha
   ·cases cQ.1 ha;exact t
  ·replace hi:(c.aps++[p])[i]? =some a:=hi;replace d:(c.aps++[p])[j]? =some b:=d;by_cases C:i<c.aps.length
   ·rw[dT C]at hi;by_cases w:j<c.aps.length
    ·rw[dT w]at d;exact h.nc i j a b k hi d
    ·have:=(aF.1 d).1;rw[aP,d9]at this;rw[dB (by omega),show j-c.aps.length=0 by omega]at d;cases d;exact(o i a hi).symm
   ·have:=(aF.1 hi).1;rw[aP,d9]at this;rw[dB (by omega),show i-c.aps.length=0 by omega]at hi;cases hi;by_cases w:j<c.aps.length
    ·rw[dT w]at d;exact o j b d
    ·have:=(aF.1 d).1;rw[aP,d9]at this;omega
 split
 ·exact h.change _ _ fun a ha _ y _=>⟨(h.aps a (aM ha)).settle 2,fun j b d f=>(h.nc _ _ a b (Ne.symm d) ha f).settle y 2⟩
 split
 ·exact h.change _ _ fun a ha _ y _=>⟨(h.aps a (aM ha)).settle 3,fun j b d f=>(h.nc _ _ a b (Ne.symm d) ha f).settle y 3⟩
 split
 ·refine h.change _ _ fun a ha J _ D=> ?_;have q:=h.aps a (aM ha);obtain⟨t,u⟩:=xJ D q.meas q.sv;exact⟨t,fun j b d f=>u j b (by omega) f (h.aps b (aM f))⟩
 split
 ·unfold vN;split
  ·exact h
  refine⟨h.svs,fun a ha=> ?_,fun i j a b k hi d=> ?_⟩
  ·obtain⟨v,g,rfl⟩:=dR.1 ha;exact(h.aps v g).tick _
  ·replace hi:(c.aps.map (ib x.days))[i]? =some a:=hi;replace d:(c.aps.map (ib x.days))[j]? =some b:=d;rw[a8]at hi d;obtain⟨v,g,rfl⟩:=eh.1 hi;obtain⟨A,z,rfl⟩:=eh.1 d;exact(((h.nc i j v A k g z).tick _).symm.tick _).symm
 ·exact h
theorem Fa: ∀(l:List Cm) (c:Co),CI c->CI (iK c l).2
 |[],_,h=>h
 |x::l,_,h=>Fa l _ (Ma h x)
theorem JF:CI co0:=⟨fun s c=>absurd c List.not_mem_nil,fun a ha=>absurd ha List.not_mem_nil,fun i j a b _ hi _=>by simp[co0]at hi⟩
theorem Bq: ∀(l m:List Cm) (c:Co),iK c (l++m)=((iK c l).1++(iK (iK c l).2 m).1,(iK (iK c l).2 m).2)
 |[],_,_=>rfl
 |x::l,m,c=>by
  show((doS c x).1::(iK (doS c x).2 (l++m)).1,(iK (doS c x).2 (l++m)).2)=_;rw[Bq l m];rfl
theorem r7: ∀(l:List Cm) (c:Co),(iK c l).1.length=l.length
 |[],_=>rfl
 |x::l,c=>congrArg (· +1) (r7 l (doS c x).2)
theorem JG {f g:Nat->Bool}{x y:Int}(h:ff f x y=true)(b: ∀i,i<1440->f i=true->g i=true):ff g x y=true:=by
 unfold ff at h⊢;simp only[bz]at h⊢;refine⟨h.1,CB fun i hi=> ?_⟩;have:=xi h.2 i hi;by_cases a:i<1440
 ·cases hf:f i with
  |true=>simp[b i a hf]
  |false=>
   have t:inl [(x,y)] i=false:=(by simpa[hf,a] using this);simp[t]
 ·simp[a]
structure Q1 (c:Co)(n day min:Int)(who:List Int)(p:Ap):Prop where
 is:kE c n day min who=(jd c.aps.length,{c with aps:=c.aps++[p]})
 pl:(fq c (-1) (kU c n) day min who).2=0
 nn:isN n c.svs.length=true
 st:p.st=1/\p.left=10
 at_:p.day=day/\p.who=who/\p.fr=min-(kU c n).bef/\p.to=min+(kU c n).len+(kU c n).aft
 meas:1<=(kU c n).len/\0<=(kU c n).bef/\0<=(kU c n).aft
 wl:1<=who.length
theorem xK {c:Co}{n:Int}{a:Ap}{day min:Int}{who:List Int}(b:(fq c n a day min who).2=0):(fq c n a day min who).1={a with fr:=min-a.bef,to:=min+a.len+a.aft,day:=day,min:=min,who:=who}:=by
 unfold fq at b⊢;split at b
 ·exact absurd b (by decide)
 split at b
 ·exact absurd b (by decide)
 split at b
 ·rename_i d;exact absurd b d
 split at b
 ·exact absurd b (by decide)
 rename_i e f d g;rw[ax e,ax f,ax d,ax g]
theorem Fb {c:Co}(o:CI c){n day min:Int}{who:List Int}(h:(kE c n day min who).1.err=0): ∃p,Q1 c n day min who p:=by
 refine⟨(fq c (-1) (kU c n) day min who).1,?_⟩
 have e: ¬isN n c.svs.length=false/\(fq c (-1) (kU c n) day min who).2=0/\kE c n day min who=(jd c.aps.length,{c with aps:=c.aps++[(fq c (-1) (kU c n) day min who).1]}):=by
  unfold kE at h⊢;split at h
  ·exact absurd (show(6:Int)=0 from h) (by decide)
  split at h
  ·exact absurd (show(5:Int)=0 from h) (by decide)
  split at h
  ·rename_i d;exact absurd h d
  rename_i j m d;rw[ax j,ax m,ax d];exact⟨j,d7 d,rfl⟩
 obtain⟨g,b,i⟩:=e;obtain⟨s,t⟩:=pZ g;have k:n.toNat<c.svs.length:=by omega
 have r:c.svs.getD n.toNat sv0∈c.svs:=by rw[dg,ay k];exact List.getElem_mem k
 have f:=o.svs _ r;obtain⟨u,_⟩:=xJ (a:=kU c n) b f.1 ⟨s,t⟩;have q:=u.who;rw[xK b]at q⊢;have l:who.length=(c.svs.getD n.toNat sv0).roles.length:=q;rw[xK b]at i;exact⟨i,b,by simpa using g,⟨rfl,rfl⟩,⟨rfl,rfl,rfl,rfl⟩,f.1,by rw[l];exact f.2⟩
theorem JH (f:Nat->Bool)(x y:Int):ff f x y=true↔0<=x/\y<=1440/\x<=y/\ ∀i:Nat,x<=(i:Int)->(i:Int)<y->f i=true:=by
 unfold ff;rw[bz,bz,bz,bT,bT,bT];constructor
 ·rintro⟨⟨⟨b,d⟩,e⟩,g⟩;refine⟨b,d,e,fun i hi j=> ?_⟩;have h:=xi g i (by omega);have a:inl [(x,y)] i=true:=(by simp[inl];omega);have c:decide (i<1440)=true:=bh (by omega);rw[a,c]at h;simpa using h
 ·rintro⟨b,d,e,g⟩;refine⟨⟨⟨b,d⟩,e⟩,CB fun i _=> ?_⟩;cases a:inl [(x,y)] i with
  |false=>rfl
  |true=>
   simp[inl]at a;rw[g i (by omega) (by omega)];rfl
structure Fit (s:Sv)(fs:List (Nat->Bool))(m:Int)(who:List Int):Prop where
 len:who.length=s.roles.length
 mem: ∀(i:Nat) (r:Int) (p:List Int),who[i]? =some r->s.roles[i]? =some p->r∈p
 nd:who.Nodup
 ok: ∀r∈who,okP fs (m-s.bef) (m-s.bef+Gf s) r=true
def Dp (roles:List (List Int))(b:List (Nat->Bool))(x y:Int):List Int->Nat->List Int->Bool
 |[],_,_=>true
 |r::l,i,a=>if r∉roles.getD i []\/r∈a\/okP b x y r=false then false else Dp roles b x y l (i+1) (addN a r)
def oY (s:Sv)(a:List (List (Nat->Bool)))(day min:Int)(who:List Int):Bool:=if day<0\/(a.length:Int)<=day\/who.length≠s.roles.length then false else Dp s.roles (a.getD day.toNat []) (min-s.bef) (min+s.len+s.aft) who 0 []
theorem Dq {roles:List (List Int)}{d:List (Nat->Bool)}{x y:Int}: ∀{l:List Int} {i:Nat} {a:List Int},Dp roles d x y l i a=true↔(∀(k:Nat) (r:Int),l[k]? =some r->r∈roles.getD (i+k) [])/\(∀r∈l,r∉a)/\l.Nodup/\ ∀r∈l,okP d x y r=true
 |[],i,a=>by simp[Dp]
 |r::l,i,a=>by
  rw[Dp];by_cases h:r∉roles.getD i []\/r∈a\/okP d x y r=false
  ·rw[aB h];constructor
   ·intro h;cases h
   ·rintro⟨j,m,_,q⟩;exfalso;rcases h with h|h|h
    ·exact h (j 0 r rfl)
    ·exact m r bq h
    ·rw[q r bq]at h;cases h
  ·rw[ax h,Dq];have j:r∈roles.getD i []:=Classical.not_not.1 fun e=>h (.inl e);have m:r∉a:=fun e=>h (.inr (.inl e))
   have p:okP d x y r=true:=by
    cases c:okP d x y r with
    |true=>rfl
    |false=>exact absurd (.inr (.inr c)) h
   constructor
   ·rintro⟨n,f,g,o⟩;refine⟨fun k u c=> ?_,fun u b=> ?_,List.nodup_cons.2 ⟨fun s=> ?_,g⟩,fun u b=> ?_⟩
    ·match k,c with
     |0,c=>cases aN c;exact j
     |k+1,c=>
      have:=n k u (by simpa using c);rw[show i+(k+1)=i+1+k by omega];exact this
    ·rcases bO.1 b with rfl|b
     ·exact m
     ·exact fun e=>f u b ((qY _ _ _).2 (.inl e))
    ·exact f r s ((qY _ _ _).2 (.inr rfl))
    ·rcases bO.1 b with rfl|b
     ·exact p
     ·exact o u b
   ·rintro⟨n,f,g,o⟩;refine⟨fun k u c=> ?_,fun u b e=> ?_,(List.nodup_cons.1 g).2,fun u b=>o u (bL _ b)⟩
    ·have:=n (k+1) u (by simpa using c);rw[show i+1+k=i+(k+1) by omega];exact this
    ·rcases(qY _ _ _).1 e with e|rfl
     ·exact f u (bL _ b) e
     ·exact(List.nodup_cons.1 g).1 b
theorem mU {s:Sv}{a:List (List (Nat->Bool))}{day min:Int}{who:List Int}:oY s a day min who=true↔ ∃(d:Nat) (k:List (Nat->Bool)),day=(d:Int)/\a[d]? =some k/\Fit s k min who:=by
 unfold oY;by_cases h:day<0\/(a.length:Int)<=day\/who.length≠s.roles.length
 ·rw[aB h];constructor
  ·intro h;cases h
  ·rintro⟨d,k,rfl,l,j⟩;exfalso;have f:=(aF.1 l).1;have m:=j.len;omega
 ·rw[ax h];obtain⟨d,l⟩: ∃d:Nat,day=(d:Int):=⟨day.toNat,by omega⟩
  subst l;have v:who.length=s.roles.length:=Classical.not_not.1 fun e=>h (.inr (.inr e));have b:d<a.length:=(by omega);have c:a[d]? =some (a[d]'b):=ay b;have q:a.getD (Int.toNat (d:Int)) []=a[d]'b:=(by simp[List.getD,c]);have t:min+s.len+s.aft=min-s.bef+Gf s:=(by unfold Gf;omega);rw[q,t,Dq];constructor
  ·rintro⟨w,_,x,y⟩;refine⟨d,_,rfl,c,v,fun i r p f m=> ?_,x,y⟩;have:=w i r f;rwa[cY,show s.roles.getD i []=p by simp[List.getD,m]]at this
  ·rintro⟨o,k,e,g,j⟩;have:o=d:=(by omega);subst this;rw[c]at g;cases aN g;refine⟨fun i r f=> ?_,(fun r _ e=>by cases e),j.nd,j.ok⟩;have u:=(aF.1 f).1;have n:s.roles[i]? =some (s.roles[i]'(by omega)):=ay _;rw[cY,show s.roles.getD i []=s.roles[i]'(by omega) by simp[List.getD,n]];exact j.mem i r _ f n
def cH (n x y:Int)(who:List Int):Cm:=⟨5,n,0,0,[],[],sv0,x,y,who⟩
def cT (t:Int):Cm:=⟨9,0,0,t,[],[],sv0,0,0,[]⟩
def cX (k n:Int):Cm:=⟨k,n,0,0,[],[],sv0,0,0,[]⟩
theorem JI (l:List Cm):(playP dk0 l).1.length=l.length:=by rw[(qd l).1,r7]
def sv1 (len:Int):Sv:=⟨len,0,0,[[0]]⟩
def c1 (L:List Ru)(len:Int)(aps:List Ap):Co:=⟨L,[[97]],[sv1 len],aps⟩
def cR (t:List UInt8):Cm:=⟨1,0,0,0,t,[],sv0,0,0,[]⟩
def cS (s:Sv):Cm:=⟨3,0,0,0,[],[],s,0,0,[]⟩
def cF (n day days:Int):Cm:=⟨4,n,day,days,[],[],sv0,0,0,[]⟩
theorem Ds {c:Co}{x:Cm}(h:(doS c x).1.err≠0):(doS c x).2=c:=by
 have d: ∀(n:Int) (f:Ap->Ap×Int),(fU c n f).1.err≠0->(fU c n f).2=c:=fun n f h=>by
  unfold fU at h⊢;split at h
  ·rename_i a;rw[aB a]
  rename_i a;split at h
  ·rename_i b;rw[ax a,aB b]
  ·exact absurd rfl h
 unfold doS at h⊢;split at h
 ·rename_i k;rw[aB k];unfold jE at h⊢;split at h
  ·rename_i a;rw[aB a]
  ·exact absurd rfl h
 rename_i g;rw[ax g];split at h
 ·rename_i k;rw[aB k];unfold Aj at h⊢;split at h
  ·rename_i a;rw[aB a]
  rename_i a;split at h
  ·rename_i b;rw[ax a,aB b]
  ·exact absurd rfl h
 rename_i i;rw[ax i];split at h
 ·rename_i k;rw[aB k];unfold Ak at h⊢;split at h
  ·rename_i a;rw[aB a]
  rename_i a;split at h
  ·rename_i b;rw[ax a,aB b]
  ·exact absurd rfl h
 rename_i j;rw[ax j];split at h
 ·rename_i k;rw[aB k];unfold vO;split
  ·rfl
  split
  ·rfl
  split<;>rfl
 rename_i l;rw[ax l];split at h
 ·rename_i k;rw[aB k];unfold kE at h⊢;split at h
  ·rename_i a;rw[aB a]
  rename_i a;split at h
  ·rename_i b;rw[ax a,aB b]
  rename_i b;split at h
  ·rename_i e;rw[ax a,ax b,aB e]
  ·exact absurd rfl h
 rename_i m;rw[ax m];split at h
 ·rename_i k;rw[aB k];exact d _ _ h
 rename_i o;rw[ax o];split at h
 ·rename_i k;rw[aB k];exact d _ _ h
 rename_i p;rw[ax p];split at h
 ·rename_i k;rw[aB k];exact d _ _ h
 rename_i q;rw[ax q];split at h
 ·rename_i k;rw[aB k];unfold vN at h⊢;split at h
  ·rename_i a;rw[aB a]
  ·exact absurd rfl h
 rename_i r;rw[ax r]
def SvI (c:Co):Prop:= ∀s∈c.svs,Gl s c.res.length
theorem JJ {s:Sv}{n m:Int}(h:Gl s n)(c:n<=m):Gl s m:=⟨h.meas,h.r1,h.r4,fun p a=>⟨(h.pool p a).len1,(h.pool p a).len8,fun r b=>⟨((h.pool p a).bd r b).1,Int.lt_of_lt_of_le ((h.pool p a).bd r b).2 c⟩,(h.pool p a).up⟩⟩
theorem qL {c a:Co}(h:SvI c)(e:a.svs=c.svs)(d:a.res=c.res):SvI a:=fun s b=>by
 rw[e]at b;rw[d];exact h s b
theorem jY (c:Co)(n:Int)(f:Ap->Ap×Int):(fU c n f).2.svs=c.svs/\(fU c n f).2.res=c.res/\(fU c n f).2.rules=c.rules:=by
 unfold fU;split
 ·exact⟨rfl,rfl,rfl⟩
 split<;>exact⟨rfl,rfl,rfl⟩
theorem uT (c:Co)(n day min:Int)(who:List Int):(kE c n day min who).2.svs=c.svs/\(kE c n day min who).2.res=c.res/\(kE c n day min who).2.rules=c.rules:=by
 unfold kE;split
 ·exact⟨rfl,rfl,rfl⟩
 split
 ·exact⟨rfl,rfl,rfl⟩
 split<;>exact⟨rfl,rfl,rfl⟩
theorem Qt {c:Co}(h:SvI c)(x:Cm):SvI (doS c x).2:=by
 unfold doS;split
 ·unfold jE;split
  ·exact h
  ·exact qL h rfl rfl
 split
 ·unfold Aj;split
  ·exact h
  split
  ·exact h
  ·intro s a;refine JJ (h s a) ?_;show(c.res.length:Int)<=((c.res++[x.name]).length:Int)
   rw[aP];omega
 split
 ·unfold Ak;split
  ·exact h
  split
  ·exact h
  ·rename_i b;intro s a;rcases da.1 a with a|a
   ·exact h s a
   ·cases cQ.1 a;exact tD (Classical.not_not.1 b)
 split
 ·unfold vO;split
  ·exact h
  split
  ·exact h
  split<;>exact h
 split
 ·exact qL h (uT ..).1 (uT ..).2.1
 split
 ·exact qL h (jY ..).1 (jY ..).2.1
 split
 ·exact qL h (jY ..).1 (jY ..).2.1
 split
 ·exact qL h (jY ..).1 (jY ..).2.1
 split
 ·unfold vN;split
  ·exact h
  ·exact qL h rfl rfl
 ·exact h
theorem Px:SvI co0:=fun _ a=>absurd a List.not_mem_nil
theorem Dt {who:List Int}{roles:List (List Int)}: ∀m i:Nat,qh who roles m i=0-> ∀k,i<=k->k<i+m->who.getD k 0∈roles.getD k []
 |0,i,_,k,c,d=>by omega
 |m+1,i,h,k,c,d=>by
  rw[qh]at h;split at h
  ·cases h
  split at h
  ·cases h
  rename_i a b;by_cases e:k=i
  ·subst e;exact Classical.not_not.1 a
  ·exact Dt m (i+1) h k (by omega) (by omega)
theorem Py {who:List Int}{roles:List (List Int)}(h:jO who roles=0){r:Int}(f:r∈who): ∃p∈roles,r∈p:=by
 unfold jO at h;split at h
 ·cases h
 rename_i d;have e:=Classical.not_not.1 d;obtain⟨i,hi⟩:=List.getElem?_of_mem f;have c:=(aF.1 hi).1;have a:=Dt _ _ h i (dF _) (by omega);have b:roles[i]? =some (roles[i]'(by omega)):=ay _;rw[dg,dg,hi,b]at a;exact⟨_,List.getElem_mem _,a⟩
def s6 (c:Co)(p:Ap):Prop:=p.fr<p.to/\ ∀r∈p.who,(0<=r/\r<(c.res.length:Int))/\ff (mS c r p.day) p.fr p.to=true
theorem s6.keep {c a:Co}{p:Ap}(h:s6 c p)(b:a.res=c.res)(d:a.rules=c.rules):s6 a p:=by
 refine⟨h.1,fun r e=> ?_⟩;have:=h.2 r e;unfold mS at this⊢;rw[b,d];exact this
theorem zp {c:Co}(k:SvI c){n:Int}{a:Ap}{day min:Int}{who:List Int}(q:1<=a.len/\0<=a.bef/\0<=a.aft)(s:0<=a.sv/\a.sv<c.svs.length)(h:(fq c n a day min who).2=0):s6 c (fq c n a day min who).1:=by
 rw[xK h];have f:a.sv.toNat<c.svs.length:=by omega
 have o:c.svs.getD a.sv.toNat sv0∈c.svs:=by rw[dg,ay f];exact List.getElem_mem f
 have d:=k _ o;unfold fq at h;split at h
 ·cases h
 split at h
 ·cases h
 split at h
 ·rename_i b;exact absurd h b
 split at h
 ·cases h
 rename_i _ _ b j;refine⟨by show min-a.bef<min+a.len+a.aft;omega,fun r g=> ?_⟩;obtain⟨p,l,e⟩:=Py (Classical.not_not.1 b) g;refine⟨(d.pool p l).bd r e,?_⟩
 have m:ff (fS c r day n) (min-a.bef) (min+a.len+a.aft)=true:=by
  cases hb:ff (fS c r day n) (min-a.bef) (min+a.len+a.aft) with
  |true=>rfl
  |false=>exact absurd (List.any_eq_true.2 ⟨r,g,by rw[hb];rfl⟩) j
 refine JG m fun i _ hi=> ?_;unfold fS rW at hi;simp only[bz]at hi;exact hi.1.1
theorem Eg {c:Co}(j:CI c)(i:SvI c){n day min:Int}{who:List Int}(h:(kE c n day min who).1.err=0):0<=(kE c n day min who).1.num/\ ∃p,(kE c n day min who).2.aps[(kE c n day min who).1.num.toNat]? =some p/\s6 (kE c n day min who).2 p:=by
 obtain⟨p,b⟩:=Fb j h;obtain⟨o,r⟩:=pZ (n:=n) (m:=c.svs.length) (by rw[b.nn];decide);have l:=zp i (a:=kU c n) b.meas ⟨o,r⟩ b.pl;have k:=uT c n day min who
 have g:(fq c (-1) (kU c n) day min who).1=p:=by
  have e:=b.is;unfold kE at e;rw[ax (by rw[b.nn];decide)]at e;split at e
  ·have:=congrArg (fun q=>q.1.err) e;exact absurd this (by decide:(5:Int)≠0)
  rw[ax (fun q=>q b.pl)]at e;have d:=congrArg (fun q=>q.2.aps) e;have f:=List.append_cancel_left d;exact(List.cons.inj f).1
 refine⟨by rw[b.is];exact Int.natCast_nonneg _,p,?_,?_⟩
 ·rw[b.is];show(c.aps++[p])[(c.aps.length:Int).toNat]? =some p;rw[dj];simp
 ·rw[<-g];exact l.keep k.2.1 k.2.2
theorem Eh {c:Co}(i:CI c)(g:SvI c){n day min:Int}{who:List Int}(h:(fU c n fun a=>fq c n a day min who).1.err=0): ∃p,(fU c n fun a=>fq c n a day min who).2.aps[n.toNat]? =some p/\0<=n/\n<c.aps.length/\s6 (fU c n fun a=>fq c n a day min who).2 p:=by
 have k:=jY c n fun a=>fq c n a day min who;unfold fU at h k⊢;split at h
 ·exact absurd h (by decide:(6:Int)≠0)
 rename_i e;rw[ax e]at k⊢;split at h
 ·rename_i b;exact absurd h b
 rename_i b;rw[ax b]at k⊢;obtain⟨o,r⟩:=pZ (n:=n) (m:=c.aps.length) fun q=>e (.inl q);have d:n.toNat<c.aps.length:=by omega
 have l:c.aps.getD n.toNat ap0∈c.aps:=by rw[dg,ay d];exact List.getElem_mem d
 have f:=i.aps _ l;have j:=zp g (a:=c.aps.getD n.toNat ap0) f.meas f.sv (Classical.not_not.1 b);refine⟨_,?_,o,r,j.keep k.2.1 k.2.2⟩;show(c.aps.set n.toNat _)[n.toNat]? =_;rw[eP d]
def mE (c:Co)(a:Ap)(r:Int):Bool:=decide (0<=atP5 c.rules (c.res.getD r.toNat []))&&ff (gX c.rules (wkB a.day) a.day (atP5 c.rules (c.res.getD r.toNat [])).toNat) a.fr a.to
def qD (c:Co)(a:Ap):Bool:=a.who.all (mE c a)
theorem JK {c:Co}{a:Ap}(h:a.fr<a.to)(r:Int):ff (mS c r a.day) a.fr a.to=mE c a r:=by
 unfold mS mE;by_cases b:atP5 c.rules (c.res.getD r.toNat [])<0
 ·rw[aB b,bn (by omega),Bool.false_and];cases hb:ff noM a.fr a.to with
  |false=>rfl
  |true=>
   have d:=(JH _ _ _).1 hb;have:=d.2.2.2 a.fr.toNat (by omega) (by omega);cases this
 ·rw[ax b,bh (by omega),ip]
theorem JL {c:Co}{a:Ap}(h:a.fr<a.to):(a.who.any fun r=> !ff (mS c r a.day) a.fr a.to)= !qD c a:=by
 unfold qD;rw[List.not_all_eq_any_not];congr 1;funext r;rw[JK h]
def ld (c:Co):List Ap->Nat->List Int
 |[],_=>[]
 |a::l,i=>if a.st≠3/\qD c a=false then(i:Int)::ld c l (i+1) else ld c l (i+1)
theorem zu {c:Co}: ∀(l:List Ap) (i:Nat),(∀a∈l,a.fr<a.to)->rF c l i=ld c l i
 |[],_,_=>rfl
 |a::l,i,h=>by
  have ha:=h a bq;have f:=zu (c:=c) l (i+1) fun b e=>h b (bL _ e);unfold rF ld;rw[JL ha,f];by_cases d:qD c a=false
  ·rw[d];simp only[Bool.not_false]
  ·have:qD c a=true:=(by simpa using d);rw[this];simp
theorem Du {c:Co}: ∀(l:List Ap) (i:Nat) (a:Ap),ld c (l++[a]) i=ld c l i++if a.st≠3/\qD c a=false then [((i+l.length:Nat):Int)] else []
 |[],_,_=>rfl
 |b::l,i,a=>by
  have d:=Du (c:=c) l (i+1) a;rw[List.cons_append,ld,ld,d,bV,show i+1+l.length=i+(l.length+1) by omega];split<;>rfl
theorem Pz {c:Co}(h:CI c): ∀a∈c.aps,a.fr<a.to:=fun a ha=>by
 have b:=h.aps a ha;have:=b.fr;have:=b.to;have:=b.meas;omega
theorem N3 (l:List Cm)(s:List UInt8):(iK co0 (l++[⟨1,0,0,0,s,[],sv0,0,0,[]⟩])).1[l.length]? =some (jE (iK co0 l).2 (fY s)).1/\(iK co0 (l++[⟨1,0,0,0,s,[],sv0,0,0,[]⟩])).2=(jE (iK co0 l).2 (fY s)).2:=by
 rw[Bq];refine⟨?_,rfl⟩;rw[dB (by rw[r7];exact aD _),r7,iM];rfl
theorem LC {c:Co}{r:Int×List Ru}(h:(jE c r).1.err≠0):(jE c r).2=c/\(jE c r).1.list=[]:=by
 unfold jE at h⊢;split at h
 ·rename_i a;rw[aB a];exact⟨rfl,rfl⟩
 ·exact absurd rfl h
theorem N4 {c:Co}(b:CI c){r:Int×List Ru}(h:(jE c r).1.err=0):r.1=0/\(jE c r).2={c with rules:=r.2}/\(jE c r).1.list=ld {c with rules:=r.2} c.aps 0:=by
 unfold jE at h⊢;split at h
 ·rename_i a;exact absurd h a
 ·rename_i a;rw[ax a];exact⟨Classical.not_not.1 a,rfl,zu _ _ (Pz b)⟩
theorem Dv {d:Dk}{c:Co}(h:coD d=c):d.rules=c.rules/\d.res=c.res/\d.svs=c.svs/\d.aps=c.aps:=by
 subst h;exact⟨rfl,rfl,rfl,rfl⟩
theorem LD (l:List Cm){p:Ap}(c:p∈(playP dk0 l).2.aps):mF (playP dk0 l).2.rules p.day=(0,0)/\iB (playP dk0 l).2.rules=(0,0):=by
 have a:=(qd l).2.2;have d:=a.ad p c;have b:=sZ (l:=(playP dk0 l).2.rules) (by rw[a.flt]);refine⟨?_,a.flt⟩;unfold mF;rw[ax (fun q=>q b.1),ax (by omega)]
theorem JM (l:List Cm)(s:List UInt8): ∃a:An,(playP dk0 (l++[cR s])).1[l.length]? =some a/\(a.err≠0->coD (playP dk0 (l++[cR s])).2=coD (playP dk0 l).2/\a.list=[])/\(a.err=0->(fY s).1=0/\coD (playP dk0 (l++[cR s])).2={coD (playP dk0 l).2 with rules:=(fY s).2}/\a.list=ld (coD (playP dk0 (l++[cR s])).2) (playP dk0 l).2.aps 0):=by
 obtain⟨f,e⟩:=N3 l s;have j:=Fa l co0 JF;have d:=(qd l).2.1;refine⟨(jE (iK co0 l).2 (fY s)).1,?_,fun h=> ?_,fun h=> ?_⟩
 ·rw[(qd _).1];exact f
 ·obtain⟨a,b⟩:=LC h;rw[(qd _).2.1,d];exact⟨e.trans a,b⟩
 ·obtain⟨a,b,c⟩:=N4 j h;have g:=e.trans b;have i:coD (playP dk0 (l++[cR s])).2={(iK co0 l).2 with rules:=(fY s).2}:=(qd _).2.1.trans g;obtain⟨_,_,_,k⟩:=Dv d;rw[i,d,k];exact⟨a,rfl,c⟩
end Go.Proofs.YtlkehieagdkgiaaGreatDoor
