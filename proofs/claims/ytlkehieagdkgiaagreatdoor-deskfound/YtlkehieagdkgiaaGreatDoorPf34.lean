/- Texts of the proof. -/
import Derived.Test.YtlkehieagdkgiaaGreatDoorPf33
set_option maxRecDepth 100000
set_option maxHeartbeats 8000000
namespace Go.Proofs.YtlkehieagdkgiaaGreatDoor
open Go.Proofs.Tryz Go.RowKit Lx Vx Mx Msk
structure Co where
 rules:List Ru
 res:List (List UInt8)
 svs:List Sv
 aps:List Ap
def coD (d:Dk):Co:=⟨d.rules,d.res,d.svs,d.aps⟩
def mS (c:Co)(r day:Int):M:=if atP5 c.rules (c.res.getD r.toNat [])<0 then noM else iJ c.rules (wkB day) day (atP5 c.rules (c.res.getD r.toNat [])).toNat
def fS (c:Co)(r day a:Int):M:=rT (mS c r day) (inl (kX r day a c.aps 0))
def ia (c:Co)(n:Int)(a:Ap)(day min:Int)(who:List Int):Ap×Int:=
 if isN day 146097=false\/isN min 1440=false then(ap0,3) else
 if min-a.bef<0\/1440<min+a.len+a.aft then(ap0,3) else
 if jQ who (c.svs.getD a.sv.toNat sv0).roles≠0 then(ap0,jQ who (c.svs.getD a.sv.toNat sv0).roles) else
 if(who.any fun r=> !gW (fS c r day n) (min-a.bef) (min+a.len+a.aft))=true then(ap0,10) else({a with fr:=min-a.bef,to:=min+a.len+a.aft,day:=day,min:=min,who:=who},0)
def jX (c:Co)(n:Int):Ap:=⟨1,10,0,0,n,(c.svs.getD n.toNat sv0).bef,(c.svs.getD n.toNat sv0).aft,(c.svs.getD n.toNat sv0).len,0,0,[]⟩
def la (c:Co)(n day min:Int)(who:List Int):An×Co:=
 if isN n c.svs.length=false then(noA 6,c) else
 if 30<=c.aps.length then(noA 5,c) else
 if(ia c (-1) (jX c n) day min who).2≠0 then(noA (ia c (-1) (jX c n) day min who).2,c) else(je c.aps.length,{c with aps:=c.aps++[(ia c (-1) (jX c n) day min who).1]})
def oZ (c:Co)(n:Int)(f:Ap->Ap×Int):An×Co:=
 if isN n c.aps.length=false\/(c.aps.getD n.toNat ap0).st=3 then(noA 6,c) else
 if(f (c.aps.getD n.toNat ap0)).2≠0 then(noA (f (c.aps.getD n.toNat ap0)).2,c) else(noA 0,{c with aps:=c.aps.set n.toNat (f (c.aps.getD n.toNat ap0)).1})
def Mv (c:Co)(t:Int):An×Co:=if t<0\/1000<t then(noA 3,c) else(noA 0,{c with aps:=c.aps.map (iK t)})
def PD (c:Co)(name:List UInt8):An×Co:=
 if 12<=c.res.length then(noA 5,c) else if atP5 c.rules name<0 then(noA 7,c) else(je c.res.length,{c with res:=c.res++[name]})
def PE (c:Co)(s:Sv):An×Co:=
 if 8<=c.svs.length then(noA 5,c) else if fo s c.res.length≠0 then(noA (fo s c.res.length),c) else(je c.svs.length,{c with svs:=c.svs++[s]})
def ry (c:Co)(s:Sv)(day:Int):Nat->Nat->List M
 |0,_=>[]
 |m+1,r=>(if s.roles.any (fun p=>decide ((r:Int)∈p))=true then fS c r day (-1) else noM)::ry c s day m (r+1)
def lT (c:Co)(s:Sv)(day:Int):Nat->Nat->List (List M)
 |0,_=>[]
 |m+1,i=>ry c s (day+i) c.res.length 0::lT c s day m (i+1)
def fQ (c:Co)(n day days:Int):An×Co:=
 if isN n c.svs.length=false then(noA 6,c) else
 if isN day 146097=false\/days<1\/30<days\/146097<day+days then(noA 3,c) else
 if(fy (c.svs.getD n.toNat sv0) (lT c (c.svs.getD n.toNat sv0) day days.toNat 0)).err≠0 then(noA (fy (c.svs.getD n.toNat sv0) (lT c (c.svs.getD n.toNat sv0) day days.toNat 0)).err,c) else(⟨0,0,(fy (c.svs.getD n.toNat sv0) (lT c (c.svs.getD n.toNat sv0) day days.toNat 0)).day+day,(fy (c.svs.getD n.toNat sv0) (lT c (c.svs.getD n.toNat sv0) day days.toNat 0)).min,(fy (c.svs.getD n.toNat sv0) (lT c (c.svs.getD n.toNat sv0) day days.toNat 0)).who,[]⟩,c)
def uQ (c:Co):List Ap->Nat->List Int
 |[],_=>[]
 |a::l,i=>if a.st≠3/\(a.who.any fun r=> !gW (mS c r a.day) a.fr a.to)=true then(i:Int)::uQ c l (i+1) else uQ c l (i+1)
def J4 (c:Co)(r:Int×List Ru):An×Co:=if r.1≠0 then(noA r.1,c) else(⟨0,0,0,0,[],uQ {c with rules:=r.2} c.aps 0⟩,{c with rules:=r.2})
def doS (c:Co)(x:Cm):An×Co:=
 if x.kind=1 then J4 c (iM x.text) else
 if x.kind=2 then PD c x.name else
 if x.kind=3 then PE c x.sv else
 if x.kind=4 then fQ c x.n x.day x.days else
 if x.kind=5 then la c x.n x.sday x.smin x.swho else
 if x.kind=6 then oZ c x.n (fun a=>(fC a 2,0)) else
 if x.kind=7 then oZ c x.n (fun a=>(fC a 3,0)) else
 if x.kind=8 then oZ c x.n (fun a=>ia c x.n a x.sday x.smin x.swho) else
 if x.kind=9 then Mv c x.days else(noA 1,c)
def ib:Co->List Cm->List An×Co
 |c,[]=>([],c)
 |c,x::l=>((doS c x).1::(ib (doS c x).2 l).1,(ib (doS c x).2 l).2)
def co0:Co:=⟨[],[],[],[]⟩
structure DI (d:Dk):Prop where
 flt:iE d.rules=(0,0)
 vl:d.vers.length=d.rules.length
 kv: ∀e∈d.kept,e.v<=d.given
 vg: ∀v∈d.vers,v<=d.given
 ki: ∀e∈d.kept,∀i:Nat,e.r=(i:Int)->d.vers[i]? =some e.v->e.m=iJ d.rules (wkB e.d) e.d i
 ad: ∀a∈d.aps,0<=a.day/\a.day<146097
theorem xB {l:List Ru}(h:iE l=(0,0)){i:Nat}(hi:i<l.length){day:Int}(d:0<=day)(e:day<146097):(jl (eW l) (i:Int) day).1=0/\mF (eW l) (i:Int) day=iJ l (wkB day) day i:=by
 have b:(iE l).1=0:=by rw[h]
 have c:=Et (J3 b)
 have a:(jl (eW l) (i:Int) day).1=0:=by
  unfold jl;rw[c,ax (by simp),xA,ax (by omega),ax (by omega)]
 refine⟨a,?_⟩;unfold mF;rw[aB a,cj,Od];refine Fi (vP b).1 _ _ _ _ hi ?_;rw[xA];have:=A8 l (i:Int);unfold muR;omega
theorem L2 {l:List Vx.Kp}{i:Int}{e:Vx.Kp}(h:e∈fA l i):e∈l:=by
 unfold fA at h;split at h
 ·rcases bN.1 h with h|h
  ·exact List.mem_of_mem_take h
  ·exact List.mem_of_mem_drop h
 ·exact h
theorem vQ {l:List Vx.Kp}{i:Int}{e x:Vx.Kp}(h:x∈fA l i++[e]):x∈l\/x=e:=(bN.1 h).imp L2 bL.1
theorem xC {d:Dk}(h:DI d)(r:Int){day:Int}(A:0<=day)(B:day<146097):(eQ d r day).1=mS (coD d) r day/\DI (eQ d r day).2/\coD (eQ d r day).2=coD d:=by
 have C:=mu d.rules (d.res.getD r.toNat []);by_cases f:atP5 d.rules (d.res.getD r.toNat [])<0
 ·have e:eQ d r day=(noM,d):=aB f;rw[e];exact⟨(aB f).symm,h,rfl⟩
 ·obtain⟨i,g⟩: ∃i:Nat,atP5 d.rules (d.res.getD r.toNat [])=(i:Int):=⟨(atP5 d.rules (d.res.getD r.toNat [])).toNat,by omega⟩
  have e:eQ d r day=((g6 (eW d.rules) d.kept d.runs (d.vers.getD i 0) (i:Int) day).m,{d with kept:=(g6 (eW d.rules) d.kept d.runs (d.vers.getD i 0) (i:Int) day).l,runs:=(g6 (eW d.rules) d.kept d.runs (d.vers.getD i 0) (i:Int) day).n}):=by
   unfold eQ;dsimp only;rw[ax f,g,cj]
  have q:mS (coD d) r day=iJ d.rules (wkB day) day i:=by
   unfold mS coD;dsimp only;rw[ax f,g,cj]
  rw[e,q];rw[g]at C;clear e q f g;have hi:i<d.rules.length:=(by omega);obtain⟨v,o⟩: ∃v,d.vers[i]? =some v:=⟨d.vers[i]'(by rw[h.vl];exact hi),ay _⟩
  have p:d.vers.getD i 0=v:=(by simp[List.getD,o]);obtain⟨D,E⟩:=xB h.flt hi A B;rw[p];unfold g6;by_cases k:ku d.kept v (i:Int) day=true
  ·rw[aB k];obtain⟨n,e,F,e2,s,t,u,w⟩:=Pz k;dsimp only;rw[w];have b:=aN e2;have z:e.m=iJ d.rules (wkB day) day i:=(by rw[<-t];exact h.ki e b i s (by rw[u];exact o));refine⟨z,⟨h.flt,h.vl,fun x a=> ?_,h.vg,fun x a=> ?_,h.ad⟩,rfl⟩
   ·rcases vQ a with a|rfl
    ·exact h.kv x a
    ·exact h.kv _ b
   ·rcases vQ a with a|rfl
    ·exact h.ki x a
    ·exact h.ki _ b
  ·rw[ax k,ax (fun c=>c D)];dsimp only;rw[E];refine⟨rfl,⟨h.flt,h.vl,fun x a=> ?_,h.vg,fun x a=> ?_,h.ad⟩,rfl⟩
   ·rcases vQ (List.mem_of_mem_drop a) with a|rfl
    ·exact h.kv x a
    ·exact h.vg _ (aN o)
   ·rcases vQ (List.mem_of_mem_drop a) with a|rfl
    ·exact h.ki x a
    ·intro j y _
     have:j=i:=by
      have e:(i:Int)=(j:Int):=y;omega
     subst this;rfl
def Ste (d:Dk)(a:Dk):Prop:=DI a/\coD a=coD d
theorem Fj {d:Dk}(h:DI d)(r e:Int){day:Int}(f:0<=day)(g:day<146097):(iB d r day e).1=fS (coD d) r day e/\Ste d (iB d r day e).2:=by
 obtain⟨a,b,c⟩:=xC h r f g;exact⟨by unfold iB fS;rw[a];rfl,b,c⟩
theorem Dj {f:Int->Dk->Bool×Dk}{g:Co->Int->Bool}(i: ∀x d,DI d->(f x d).1=g (coD d) x/\Ste d (f x d).2): ∀(l:List Int) (d:Dk),DI d->(jf f l d).1=l.any (g (coD d))/\Ste d (jf f l d).2
 |[],d,h=>⟨rfl,h,rfl⟩
 |x::l,d,h=>by
  obtain⟨a,b,c⟩:=i x d h;unfold jf;by_cases e:(f x d).1=true
  ·rw[aB e];refine⟨?_,b,c⟩;rw[List.any_cons,<-a,e];rfl
  ·rw[ax e];obtain⟨j,k,m⟩:=Dj i l (f x d).2 b;refine⟨?_,k,m.trans c⟩;rw[j,c,List.any_cons,<-a];simp[e]
theorem xD {d:Dk}(h:DI d)(n:Int)(a:Ap)(day min:Int)(who:List Int):(fd d n a day min who).1=ia (coD d) n a day min who/\Ste d (fd d n a day min who).2:=by
 unfold fd ia;by_cases b:isN day 146097=false\/isN min 1440=false
 ·rw[aB b,aB b];exact⟨rfl,h,rfl⟩
 rw[ax b,ax b];by_cases e:min-a.bef<0\/1440<min+a.len+a.aft
 ·rw[aB e,aB e];exact⟨rfl,h,rfl⟩
 rw[ax e,ax e];show((if jQ who (d.svs.getD a.sv.toNat sv0).roles≠0 then _ else _:(Ap×Int)×Dk).1=(if jQ who (d.svs.getD a.sv.toNat sv0).roles≠0 then _ else _))/\_;by_cases i:jQ who (d.svs.getD a.sv.toNat sv0).roles≠0
 ·rw[aB i,aB i];exact⟨rfl,h,rfl⟩
 rw[ax i,ax i]
 have j:0<=day/\day<146097:=by
  have:isN day 146097=true:=(by simpa using fun c=>b (.inl c));simpa[isN] using this
 obtain⟨p,q⟩:=Dj (g:=fun c r=> !gW (fS c r day n) (min-a.bef) (min+a.len+a.aft)) (f:=kY day n (min-a.bef) (min+a.len+a.aft)) (fun x d h=>by
  obtain⟨k,e2⟩:=Fj h x n j.1 j.2;exact⟨by unfold kY;rw[k],e2⟩) who d h
 dsimp only;rw[p];split
 ·exact⟨rfl,q⟩
 ·exact⟨rfl,q⟩
theorem Dl (s:Sv){day:Int}(i:0<=day)(j:day<146097): ∀(m r:Nat) (d:Dk),DI d->(fD s day m r d).1=ry (coD d) s day m r/\Ste d (fD s day m r d).2
 |0,_,d,h=>⟨rfl,h,rfl⟩
 |m+1,r,d,h=>by
  unfold fD ry;dsimp only;split
  ·obtain⟨a,b,c⟩:=Fj h (r:Int) (-1) i j;obtain⟨e,f,g⟩:=Dl s i j m (r+1) _ b;exact⟨by rw[a,e,c],f,g.trans c⟩
  ·obtain⟨e,f,g⟩:=Dl s i j m (r+1) d h;exact⟨by rw[e],f,g⟩
theorem J5 (s:Sv){day:Int}(j:0<=day): ∀(m i:Nat) (d:Dk),DI d->day+i+m<=146097->(gV s day m i d).1=lT (coD d) s day m i/\Ste d (gV s day m i d).2
 |0,_,d,h,_=>⟨rfl,h,rfl⟩
 |m+1,i,d,h,k=>by
  unfold gV lT;dsimp only;obtain⟨a,b,c⟩:=Dl s (day:=day+i) (by omega) (by omega) d.res.length 0 d h;obtain⟨e,f,g⟩:=J5 s j m (i+1) _ b (by omega);exact⟨by rw[a,e,c];rfl,f,g.trans c⟩
theorem Dm: ∀(N:Nat) (a b:Ex),lV N a b=true->a=b
 |0,_,_,h=>by cases h
 |N+1,a,b,h=>by
  unfold lV at h;simp only[br,bz,du]at h;obtain⟨⟨⟨⟨c,d⟩,e⟩,f⟩,j,k⟩:=h;have g:a.kids=b.kids:=List.ext_getElem j fun i hi l=>Dm N _ _ (k (a.kids[i],b.kids[i]) (List.mem_iff_getElem.2 ⟨i,by simp;omega,by simp⟩));cases a;cases b;simp only at c d e f g;subst c d e f g;rfl
theorem Am {c new:List Ru}{k:Nat}(h:ju c new (k:Int)=false): ∃u,c[k]? =some u/\new[k]? =some u:=by
 unfold ju at h;rw[cj]at h;cases ha:c[k]? with
 |none=>rw[ha]at h;cases h
 |some a=>
  cases hb:new[k]? with
  |none=>rw[ha,hb]at h;cases h
  |some b=>
   rw[ha,hb]at h;simp only[Bool.or_eq_false_iff,Bool.not_eq_false']at h;have d:=h.2;unfold qr at d;simp only[br,bz]at d;have:a=b:=Prod.ext d.1 (Dm _ _ _ d.2);exact⟨a,rfl,by rw[this]⟩
theorem Oe {l:List Ru}(h:(dy l).1=0){k:Nat}{u:Ru}(b:l[k]? =some u):atP5 l u.1=(k:Int):=by
 have a:=(E3 h).1 k (aE.1 b).1;unfold lk1 at a;rw[b]at a;simpa using a
theorem Bs {L d:List Ru}(o:(dy L).1=0)(c:(dy d).1=0)(w:Int->Bool)(day:Int): ∀(m i:Nat),muR d i<m->i<d.length->ju L d (i:Int)=false->(∀k∈gO d (i:Int),ju L d k=false)->iJ L w day i=iJ d w day i
 |0,_,h,_,_,_=>by omega
 |m+1,i,J,hi,F,z=>by
  obtain⟨u,D,n⟩:=Am F;rw[oS o D,oS c n];refine oh _ u.2 (aD _) fun x B=> ?_;obtain⟨K,M,_⟩:=sN c (aN n) B;obtain⟨k,l⟩: ∃k:Nat,atP5 d x=(k:Int):=⟨(atP5 d x).toNat,by omega⟩
  have s:=oi c n B;rw[l,cj]at s;have A:Lx.Way (fun a b=>(iW d a).contains b) i k:=Relation.TransGen.single (by simpa using s);have f:k<d.length:=(by omega);have r:(k:Int)∈gO d (i:Int):=(mX c hi).2 ⟨k,rfl,f,A⟩;have g:=z _ r;obtain⟨v,H,I⟩:=Am g
  have t:v.1=x:=by
   obtain⟨N,y,e2⟩:=IN l;rw[I]at y;cases y;exact e2
  have C:atP5 L x=(k:Int):=(by rw[<-t];exact Oe o H);rw[C,l,cj];refine Bs o c w day m k (by have:=sJ c hi s;omega) f g fun j E=>z j ?_;obtain⟨G,e,p,q⟩:=(mX c f).1 E;exact(mX c hi).2 ⟨G,e,p,A.trans q⟩
theorem Of {t:List UInt8}(h:(iM t).1=0):iE (iM t).2=(0,0):=by
 unfold iM at h⊢;split at h
 ·rename_i a;exact absurd h a
 ·rename_i a;rw[ax a];exact Bp h
structure DJ (d:Dk):Prop extends DI d where
 gv:0<=d.given
theorem Ste.j {d a:Dk}(h:DJ d)(c:Ste d a)(b:a.given=d.given):DJ a:=⟨c.1,by rw[b];exact h.gv⟩
theorem Eu {d:Dk}(h:DJ d){l:List Ru}(o:iE l=(0,0)):DI {d with rules:=l,vers:=qt d l,given:=d.given+1}:=by
 have b:(qt d l).length=l.length:=by simp[qt]
 refine⟨o,b,fun e j=>by have:=h.kv e j;show e.v<=d.given+1;omega,fun v g=> ?_,fun e j i r g=> ?_,h.ad⟩
 ·show v<=d.given+1;unfold qt at g;obtain⟨i,_,rfl⟩:=dI.1 g;split
  ·omega
  ·by_cases q:i<d.vers.length
   ·have:=h.vg (d.vers.getD i 0) (by simp[List.getD,ay q]);omega
   ·have:d.vers.getD i 0=0:=(by simp[List.getD,eU (by omega:d.vers.length<=i)]);have:=h.gv;omega
 ·show e.m=iJ l (wkB e.d) e.d i;have hi:i<l.length:=(by rw[<-b];exact(aE.1 g).1);have a:(qt d l)[i]? =some e.v:=g;unfold qt at a;rw[bj,List.getElem?_range hi]at a;replace a:(if ju d.rules l (i:Int)=true\/(gO l (i:Int)).any (ju d.rules l)=true then d.given+1 else d.vers.getD i 0)=e.v:=aM a;by_cases q:ju d.rules l (i:Int)=true\/(gO l (i:Int)).any (ju d.rules l)=true
  ·rw[aB q]at a;have:=h.kv e j;omega
  ·rw[ax q]at a;have p:ju d.rules l (i:Int)=false:=(by simpa using fun c=>q (.inl c))
   have t: ∀k∈gO l (i:Int),ju d.rules l k=false:=fun k s=>by
    have: ¬(gO l (i:Int)).any (ju d.rules l)=true:=fun c=>q (.inr c);simp only[List.any_eq_true,not_exists,not_and]at this;simpa using this k s
   obtain⟨u,u1,_⟩:=Am p;have f:i<d.vers.length:=(by rw[h.vl];exact(aE.1 u1).1)
   have n:d.vers[i]? =some e.v:=by
    rw[<-a,ay f];simp[List.getD,ay f]
   rw[h.ki e j i r n];exact Bs (vP (by rw[h.flt])).1 (vP (by rw[o])).1 _ _ _ i (Nat.lt_succ_self _) hi p t
theorem xE: ∀(l:List Ap) (i:Nat) (d:Dk),DI d->(∀a∈l,0<=a.day/\a.day<146097)->(ff l i d).1=uQ (coD d) l i/\Ste d (ff l i d).2
 |[],_,d,h,_=>⟨rfl,h,rfl⟩
 |a::l,i,d,h,m=>by
  unfold ff uQ;by_cases j:a.st=3
  ·rw[aB j,ax (fun c=>c.1 j)];exact xE l (i+1) d h fun b k=>m b (bG _ k)
  ·rw[ax j];have ha:=m a bf
   obtain⟨p,v,q⟩:=Dj (g:=fun c r=> !gW (mS c r a.day) a.fr a.to) (f:=lw a.day a.fr a.to) (fun x d h=>by
    obtain⟨s,e2,t⟩:=xC h x ha.1 ha.2;exact⟨by unfold lw;rw[s],e2,t⟩) a.who d h
   obtain⟨u,n,o⟩:=xE l (i+1) _ v fun b k=>m b (bG _ k);dsimp only;refine⟨?_,n,o.trans q⟩;rw[u,q,p];by_cases e:(a.who.any fun r=> !gW (mS (coD d) r a.day) a.fr a.to)=true
   ·rw[aB e,aB ⟨j,e⟩]
   ·rw[ax e,ax fun c=>e c.2]
theorem Fk {c:Co}{n:Int}{a:Ap}{day min:Int}{who:List Int}(h:(ia c n a day min who).2=0):0<=(ia c n a day min who).1.day/\(ia c n a day min who).1.day<146097:=by
 unfold ia at h⊢;split
 ·rename_i b;rw[aB b]at h;cases h
 rename_i b;rw[ax b]at h;split
 ·rename_i e;rw[aB e]at h;cases h
 rename_i e;rw[ax e]at h;split
 ·rename_i d;rw[aB d]at h;exact absurd h d
 rename_i d;rw[ax d]at h;split
 ·rename_i f;rw[aB f]at h;cases h
 have:isN day 146097=true:=by simpa using fun c=>b (.inl c)
 simpa[isN] using this
def Rl (p:An×Dk)(q:An×Co):Prop:=p.1=q.1/\coD p.2=q.2/\DJ p.2
theorem Rl.ite {c:Prop}[Decidable c]{p a:An×Dk}{q b:An×Co}(h:c->Rl p q)(d: ¬c->Rl a b):Rl (if c then p else a) (if c then q else b):=by
 by_cases e:c
 ·rw[aB e,aB e];exact h e
 ·rw[ax e,ax e];exact d e
theorem rz {n m:Int}(h: ¬isN n m=false):0<=n/\n<m:=by
 have:isN n m=true:=by simpa using h
 simpa[isN] using this
theorem Rl.aps {d c:Dk}(h:DJ d)(b:Ste d c)(f:c.given=d.given)(a:An){l:List Ap}(g: ∀x∈l,0<=x.day/\x.day<146097):Rl (a,{c with aps:=l}) (a,{coD d with aps:=l}):=by
 have e:=b.2;unfold coD at e;simp only[Co.mk.injEq]at e;refine⟨rfl,?_,⟨⟨b.1.flt,b.1.vl,b.1.kv,b.1.vg,b.1.ki,g⟩,by show 0<=c.given;rw[f];exact h.gv⟩⟩;unfold coD;simp only[Co.mk.injEq];exact⟨e.1,e.2.1,e.2.2.1,trivial⟩
theorem Dn {d:Dk}(h:DJ d)(n:Int)(f:Ap->Dk->(Ap×Int)×Dk)(g:Ap->Ap×Int)(l: ∀a,(f a d).1=g a/\Ste d (f a d).2/\Cor d (f a d).2)(m: ∀a∈d.aps,(g a).2=0->0<=(g a).1.day/\(g a).1.day<146097):Rl (ig d n f) (oZ (coD d) n g):=by
 unfold ig oZ;refine .ite (fun _=>⟨rfl,rfl,h⟩) fun i=> ?_;obtain⟨p,q,r⟩:=l (d.aps.getD n.toNat ap0);dsimp only;rw[p];refine .ite (fun _=>⟨rfl,q.2,q.j h r.given⟩) fun k=> ?_;have b:(f (d.aps.getD n.toNat ap0) d).2.aps=d.aps:=congrArg Co.aps q.2;rw[b];refine .aps h q r.given _ fun a ha=> ?_;rcases List.mem_or_eq_of_mem_set ha with ha|rfl
 ·exact h.ad a ha
 ·have o:=rz fun c=>i (.inl c);have e:n.toNat<d.aps.length:=(by omega);exact m _ (by simp[List.getD,ay e]) (by simpa using k)
theorem BO {d:Dk}(h:DJ d)(x:Cm):Rl (doP d x) (doS (coD d) x):=by
 have f: ∀a,Rl (a,d) (a,coD d):=fun a=>⟨rfl,rfl,h⟩
 unfold doP doS;refine .ite (fun _=> ?_) fun _=> .ite (fun _=> ?_) fun _=> .ite (fun _=> ?_) fun _=> .ite (fun _=> ?_) fun _=> .ite (fun _=> ?_) fun _=> .ite (fun _=> ?_) fun _=> .ite (fun _=> ?_) fun _=> .ite (fun _=> ?_) fun _=> .ite (fun _=> ?_) fun _=>f _
 ·refine .ite (fun _=>f _) fun e=> ?_;obtain⟨p,q⟩:=xE d.aps 0 _ (Eu h (Of (by simpa using e))) h.ad;dsimp only;refine⟨by rw[p];rfl,q.2,q.1,?_⟩;rw[(qu d.aps 0 _).given];have:=h.gv;show 0<=d.given+1;omega
 ·exact .ite (fun _=>f _) fun _=> .ite (fun _=>f _) fun _=>⟨rfl,rfl,⟨⟨h.flt,h.vl,h.kv,h.vg,h.ki,h.ad⟩,h.gv⟩⟩
 ·exact .ite (fun _=>f _) fun _=> .ite (fun _=>f _) fun _=>⟨rfl,rfl,⟨⟨h.flt,h.vl,h.kv,h.vg,h.ki,h.ad⟩,h.gv⟩⟩
 ·refine .ite (fun _=>f _) fun _=> .ite (fun _=>f _) fun e2=> ?_;have o:=rz fun c=>e2 (.inl c);obtain⟨p,q⟩:=J5 (d.svs.getD x.n.toNat sv0) o.1 x.days.toNat 0 d h.toDI (by omega);have g:=(xz (d.svs.getD x.n.toNat sv0) x.day x.days.toNat 0 d).given;dsimp only;rw[p];exact .ite (fun _=>⟨rfl,q.2,q.j h g⟩) fun _=>⟨rfl,q.2,q.j h g⟩
 ·refine .ite (fun _=>f _) fun _=> .ite (fun _=>f _) fun _=> ?_;obtain⟨p,q⟩:=xD h.toDI (-1) (jX (coD d) x.n) x.sday x.smin x.swho;have g:=(mD d (-1) (jX (coD d) x.n) x.sday x.smin x.swho).given;have i:(fd d (-1) (jX (coD d) x.n) x.sday x.smin x.swho).2.aps=d.aps:=congrArg Co.aps q.2;have l:(⟨1,10,0,0,x.n,(d.svs.getD x.n.toNat sv0).bef,(d.svs.getD x.n.toNat sv0).aft,(d.svs.getD x.n.toNat sv0).len,0,0,[]⟩:Ap)=jX (coD d) x.n:=rfl;dsimp only;rw[l,p,i];refine .ite (fun _=>⟨rfl,q.2,q.j h g⟩) fun k=> .aps h q g _ fun a ha=> ?_;rcases bN.1 ha with ha|ha
  ·exact h.ad a ha
  ·cases bL.1 ha;exact Fk (by simpa using k)
 ·exact Dn h _ _ _ (fun a=>⟨rfl,⟨h.toDI,rfl⟩,Cor.refl d⟩) fun a ha _=>h.ad a ha
 ·exact Dn h _ _ _ (fun a=>⟨rfl,⟨h.toDI,rfl⟩,Cor.refl d⟩) fun a ha _=>h.ad a ha
 ·exact Dn h _ _ _ (fun a=>⟨(xD h.toDI _ a _ _ _).1,(xD h.toDI _ a _ _ _).2,mD d _ a _ _ _⟩) fun a _ e=>Fk e
 ·refine .ite (fun _=>f _) fun _=> .aps h ⟨h.toDI,rfl⟩ rfl _ fun a ha=> ?_;obtain⟨b,m,rfl⟩:=dI.1 ha;have:=h.ad b m;unfold iK fC;split
  ·exact this
  split<;>exact this
theorem Fl: ∀(l:List Cm) (d:Dk),DJ d->(playP d l).1=(ib (coD d) l).1/\coD (playP d l).2=(ib (coD d) l).2/\DJ (playP d l).2
 |[],d,h=>⟨rfl,rfl,h⟩
 |x::l,d,h=>by
  obtain⟨a,b,c⟩:=BO h x;obtain⟨e,f,g⟩:=Fl l _ c;unfold playP ib;rw[<-a,<-b];exact⟨by rw[e],f,g⟩
theorem PF:DJ dk0:=⟨⟨zn.flt,zn.vl,(fun e a=>by cases a),(fun e a=>by cases a),(fun e a=>by cases a),(fun e a=>by cases a)⟩,zn.gv.1⟩
theorem rD (l:List Cm):(playP dk0 l).1=(ib co0 l).1/\coD (playP dk0 l).2=(ib co0 l).2/\DJ (playP dk0 l).2:=Fl l dk0 PF
section
def oE (a b:Int):Ex:=⟨3,a,b,[],[]⟩
def fM (a b:Int):M:=fun i=>(decide (a<=(i:Int))&&decide ((i:Int)<b))&&decide (i<1440)
def oL (a b:Int):List Ru:=[([97],oE a b)]
theorem Mw {a b:Int}:gI (oL a b) ([97],oE a b)=[]:=by
 have:nms (oE a b)=[]:=by simp[oE,md,jN]
 unfold gI;dsimp only;rw[this];rfl
theorem PG {a b:Int}:iW (oL a b)=fun _=>[]:=by
 funext i;match i with
 |0=>exact(qS rfl).trans (by rw[Mw];rfl)
 |i+1=>rfl
section
variable {a b:Int} (h:0<=a/\a<b/\b<=1440)
 include h
theorem Og:gH (oL a b)=(0,0):=by
 have c:(shapeP (oE a b) 1 0).1=0:=by
  have:aloneP (oE a b)=0:=(by simp[aloneP,oE,kidsP,rangeP,h]);rw[kQ,ax (by decide),ax (by simp[this])];rfl
 unfold gH oL jT ruleP;rw[c];rfl
theorem G4:dy (oL a b)=(0,0):=by
 refine F8 (by rw[Og h]) ?_ ?_ ?_
 ·intro i hi;match i,hi with
  |0,_=>rfl
  |i+1,hi=>exact absurd hi (by show¬(i+1<1);omega)
 ·intro i hi;match i,hi with
  |0,_=>show decide (-1∈gI (oL a b) ([97],oE a b))=false;rw[Mw];decide
  |i+1,hi=>exact absurd hi (by show¬(i+1<1);omega)
 ·intro i hi;unfold lk3;rw[PG];match i,hi with
  |0,_=>rfl
  |i+1,hi=>exact absurd hi (by show¬(i+1<1);omega)
theorem My:iE (oL a b)=(0,0):=by
 have c:stdE (oE a b)=true:=by rw[sL];rfl
 have c0:(gd (oL a b)).getD 0 []=[⟨1,0,0,0,rs (mnE (oE a b)) 1440⟩]:=by rw[ng (u:=([97],oE a b)) rfl,oT c]
 have m0:gS (oL a b) 0=(1,1):=by
  rw[vM (by rw[G4 h]) (by show 0<1;decide)];unfold mG;rw[c0];rfl
 unfold iE;rw[G4 h,ax (by decide)]
 have:kE (gS (oL a b)) (oL a b).length 0= -1:=by
  show kE (gS (oL a b)) 1 0= -1;unfold kE;rw[m0,ax (by decide)];rfl
 rw[this,ax (by decide)]
theorem PH (c:Int->Bool)(day:Int):iJ (oL a b) c day 0=fM a b:=by
 rw[oS (by rw[G4 h]) (u:=([97],oE a b)) rfl,jK];rfl
end
end
def aS:List UInt8:=[114,117,108,101,32,97,32,61,32,48,57,58,48,48,45,49,55,58,48,48,59]
theorem PI:lj aS=(0,oL 540 1020):=by kernel_rfl
theorem PK:iM aS=(0,oL 540 1020):=by
 unfold iM;rw[PI,ax (by decide),My (by decide)]
def ly:Sv:=⟨60,0,0,[[0]]⟩
def aC:List Cm:=[⟨1,0,0,0,aS,[],sv0,0,0,[]⟩,⟨2,0,0,0,[],[97],sv0,0,0,[]⟩,⟨3,0,0,0,[],[],ly,0,0,[]⟩,⟨4,0,7,2,[],[],sv0,0,0,[]⟩,⟨5,0,0,0,[],[],sv0,7,540,[0]⟩]
def dA (aps:List Ap)(k:List Vx.Kp)(n:Int):Dk:=⟨oL 540 1020,[[97]],[ly],aps,[1],1,k,n⟩
theorem G5 (k:List Vx.Kp)(n day:Int)(g:0<=day)(j:day<146097):g6 (eW (oL 540 1020)) k n 1 0 day=if ku k 1 0 day=true then⟨(k.getD (fB 0 day k 0).toNat k0).m,fA k (fB 0 day k 0)++[k.getD (fB 0 day k 0).toNat k0],n,0,0⟩ else⟨fM 540 1020,qi (fA k (fB 0 day k 0)++[⟨0,day,1,fM 540 1020⟩]),IntKind.i64.wrap (n+1),0,0⟩:=by
 obtain⟨f,e2⟩:=xB (My (a:=540) (b:=1020) (by decide)) (i:=0) (by decide) g j;rw[PH (by decide)]at e2;have d: ¬(jl (eW (oL 540 1020)) 0 day).1≠0:=fun c=>c f;have e:mF (eW (oL 540 1020)) 0 day=fM 540 1020:=e2;unfold g6;rw[ax d,e]
theorem Ao (aps:List Ap)(k:List Vx.Kp)(n day:Int):eQ (dA aps k n) 0 day=((g6 (eW (oL 540 1020)) k n 1 0 day).m,dA aps (g6 (eW (oL 540 1020)) k n 1 0 day).l (g6 (eW (oL 540 1020)) k n 1 0 day).n):=rfl
def kA (day:Int):Vx.Kp:=⟨0,day,1,fM 540 1020⟩
theorem a_7:eQ (dA [] [] 0) 0 7=(fM 540 1020,dA [] [kA 7] 1):=by
 rw[Ao,G5 _ _ _ (by decide) (by decide)];rfl
theorem a_8:eQ (dA [] [kA 7] 1) 0 8=(fM 540 1020,dA [] [kA 7,kA 8] 2):=by
 rw[Ao,G5 _ _ _ (by decide) (by decide)];rfl
theorem Q8:eQ (dA [] [kA 7,kA 8] 2) 0 7=(fM 540 1020,dA [] [kA 8,kA 7] 2):=by
 rw[Ao,G5 _ _ _ (by decide) (by decide)];rfl
def mA:M:=rT (fM 540 1020) (inl [])
theorem Qz:gV ly 7 2 0 (dA [] [] 0)=([[mA],[mA]],dA [] [kA 7,kA 8] 2):=by
 have f7:iB (dA [] [] 0) ((0:Nat):Int) (7+((0:Nat):Int)) (-1)=(mA,dA [] [kA 7] 1):=by
  unfold iB;show(rT (eQ (dA [] [] 0) 0 7).1 _,(eQ (dA [] [] 0) 0 7).2)=_;rw[a_7];rfl
 have f8:iB (dA [] [kA 7] 1) ((0:Nat):Int) (7+((1:Nat):Int)) (-1)=(mA,dA [] [kA 7,kA 8] 2):=by
  unfold iB;show(rT (eQ (dA [] [kA 7] 1) 0 8).1 _,(eQ (dA [] [kA 7] 1) 0 8).2)=_;rw[a_8];rfl
 have a:fD ly (7+((0:Nat):Int)) 1 0 (dA [] [] 0)=([mA],dA [] [kA 7] 1):=by
  unfold fD;rw[aB (by decide),f7];rfl
 have b:fD ly (7+((1:Nat):Int)) 1 0 (dA [] [kA 7] 1)=([mA],dA [] [kA 7,kA 8] 2):=by
  unfold fD;rw[aB (by decide),f8];rfl
 have c:gV ly 7 1 1 (dA [] [kA 7] 1)=([[mA]],dA [] [kA 7,kA 8] 2):=by
  show((fD ly (7+((1:Nat):Int)) 1 0 (dA [] [kA 7] 1)).1::[],(fD ly (7+((1:Nat):Int)) 1 0 (dA [] [kA 7] 1)).2)=_;rw[b]
 show((fD ly (7+((0:Nat):Int)) 1 0 (dA [] [] 0)).1::(gV ly 7 1 1 (fD ly (7+((0:Nat):Int)) 1 0 (dA [] [] 0)).2).1,(gV ly 7 1 1 (fD ly (7+((0:Nat):Int)) 1 0 (dA [] [] 0)).2).2)=_;rw[a,c]
theorem Oh:jG 60 0 0 [[0]] [mA]=some (540,[0]):=by
 have e:nz 60 [mA] [[0]]=[540]:=by kernel_rfl
 have e2:gL 60 [mA] [[0]]=[540]:=by
  unfold gL;rw[e,List.mergeSort_singleton];rfl
 unfold jG;show(gL 60 [mA] [[0]]).findSome? _=_;rw[e2];kernel_rfl
theorem PL:fH (dA [] [] 0) 0 7 2=(⟨0,0,7,540,[0],[]⟩,dA [] [kA 7,kA 8] 2):=by
 have e:fy ly [[mA],[mA]]=⟨0,0,540,[0]⟩:=by
  have a:jW ly [[mA],[mA]]=0:=(by decide)
  have e2:kW ly [[mA],[mA]] 0=some (0,540,[0]):=by
   unfold kW;show(match jG 60 0 0 [[0]] [mA] with|some x=>some (0,x.1,x.2)|none=>_)=_;rw[Oh]
  unfold fy;rw[ax (by decide),ax (by rw[a];decide),e2];rfl
 unfold fH;rw[ax (by decide),ax (by decide)];show(let q:=gV ly 7 2 0 (dA [] [] 0);let f:=fy ly q.1;if f.err≠0 then(noA f.err,q.2) else((⟨0,0,f.day+7,f.min,f.who,[]⟩:An),q.2))=_;rw[Qz];dsimp only;rw[e];rfl
def apA:Ap:=⟨1,10,540,600,0,0,0,60,7,540,[0]⟩
theorem PM:lJ (dA [] [kA 7,kA 8] 2) 0 7 540 [0]=(je 0,dA [apA] [kA 8,kA 7] 2):=by
 have a:kY 7 (-1) 540 600 0 (dA [] [kA 7,kA 8] 2)=(false,dA [] [kA 8,kA 7] 2):=by
  unfold kY iB;rw[Q8];have:gW mA 540 600=true:=(by kernel_rfl);show(!gW mA 540 600,_)=_;rw[this];rfl
 have c:fd (dA [] [kA 7,kA 8] 2) (-1) ⟨1,10,0,0,0,0,0,60,0,0,[]⟩ 7 540 [0]=((apA,0),dA [] [kA 8,kA 7] 2):=by
  have d:jf (kY 7 (-1) 540 600) [0] (dA [] [kA 7,kA 8] 2)=(false,dA [] [kA 8,kA 7] 2):=by
   show(if(kY 7 (-1) 540 600 0 (dA [] [kA 7,kA 8] 2)).1=true then _ else jf _ [] (kY 7 (-1) 540 600 0 (dA [] [kA 7,kA 8] 2)).2)=_;rw[a];rfl
  unfold fd;rw[ax (by decide),ax (by decide),ax (by decide)];show(let b:=jf (kY 7 (-1) 540 600) [0] (dA [] [kA 7,kA 8] 2);_:(Ap×Int)×Dk)=_;rw[d];rfl
 unfold lJ;rw[ax (by decide),ax (by decide)];show(let p:=fd (dA [] [kA 7,kA 8] 2) (-1) ⟨1,10,0,0,0,0,0,60,0,0,[]⟩ 7 540 [0];_:An×Dk)=_;rw[c];rfl
theorem PN:playP dk0 aC=([noA 0,je 0,je 0,⟨0,0,7,540,[0],[]⟩,je 0],dA [apA] [kA 8,kA 7] 2):=by
 have a:doP dk0 ⟨1,0,0,0,aS,[],sv0,0,0,[]⟩=(noA 0,⟨oL 540 1020,[],[],[],[1],1,[],0⟩):=by
  show mL dk0 (iM aS)=_;rw[PK]
  have ev:qt dk0 (oL 540 1020)=[1]:=by
   have e:ju dk0.rules (oL 540 1020) (((0:Nat)):Int)=true:=rfl;show [if ju dk0.rules (oL 540 1020) (((0:Nat)):Int)=true\/_ then _ else _]=_;rw[aB (Or.inl e)];rfl
  unfold mL;rw[ax (by decide),ev];rfl
 have e2:doP ⟨oL 540 1020,[],[],[],[1],1,[],0⟩ ⟨2,0,0,0,[],[97],sv0,0,0,[]⟩=(je 0,⟨oL 540 1020,[[97]],[],[],[1],1,[],0⟩):=rfl;have b:doP ⟨oL 540 1020,[[97]],[],[],[1],1,[],0⟩ ⟨3,0,0,0,[],[],ly,0,0,[]⟩=(je 0,dA [] [] 0):=rfl;have c:doP (dA [] [] 0) ⟨4,0,7,2,[],[],sv0,0,0,[]⟩=(⟨0,0,7,540,[0],[]⟩,dA [] [kA 7,kA 8] 2):=PL;have d:doP (dA [] [kA 7,kA 8] 2) ⟨5,0,0,0,[],[],sv0,7,540,[0]⟩=(je 0,dA [apA] [kA 8,kA 7] 2):=PM;unfold aC;simp only[playP,a,e2,b,c,d]
def anF (l:List (An×Value×Value)):List Value:=l.flatMap fun a=>(anC a.1 a.2.1 a.2.2).toList
structure o5 (B:Nat)(w:World)(p:List An×Dk)(rv ev sv av asv:Value)(ss:List (Sv×Value))(aa:List (Ap×Value))(ls:List (An×Value×Value)):Prop where
 rules: ∃us,InR w rv us/\us.map (fun p=>p.1)=p.2.rules
 res:w.ownsRow B 9 1 ev p.2.res.length (p.2.res.map lg)
 svs:w.ownsRow B 36 4 sv ss.length (svF ss)
 sve:ss.map (fun p=>p.1)=p.2.svs
 svr: ∀q∈ss,fG w q.2 q.1.roles
 aps:w.ownsRow B 45 11 av aa.length (apF aa)
 ape:aa.map (fun p=>p.1)=p.2.aps
 apr: ∀q∈aa,dT w q.2 q.1.who
 ans:w.ownsRow B 43 6 asv ls.length (anF ls)
 ane:ls.map (fun p=>p.1)=p.1
 anr: ∀a∈ls,rt B w a.2.1 a.1.who/\dT w a.2.2 a.1.list
theorem o5.below {B:Nat}{w w':World}{p:List An×Dk}{k ev sv av d:Value}{l:List (Sv×Value)}{g:List (Ap×Value)}{j:List (An×Value×Value)}(h:o5 B w p k ev sv av d l g j)(c:aq w w'):o5 B w' p k ev sv av d l g j:=by
 have rk: ∀{e s n:Nat} {u:Value} {xs:List Value},w.ownsRow B e s u n xs->w'.ownsRow B e s u n xs:=fun i=>bJ i fun b f=>c.block b (i.lt b f).2;obtain⟨r,m,o⟩:=h.rules;exact⟨⟨r,m.below c,o⟩,rk h.res,rk h.svs,h.sve,fun q f=>(h.svr q f).below c,rk h.aps,h.ape,fun q f=>(h.apr q f).below c,rk h.ans,h.ane,fun a ha=>⟨⟨(h.anr a ha).1.1.below c,(h.anr a ha).1.2⟩,(h.anr a ha).2.below c⟩⟩
def G6 (B:Nat)(ys:List Nat)(l:List Cm)(w:World)(e:Ending)(w':World):Prop:=aq w w'/\((60<l.length/\e= .returned (.tuple #[.agg #[af,af,af,af],af,ag 0,ag 5]))\/(l.length<=60/\ ∃(b ev sv av a:Value) (f:List (Sv×Value)) (c:List (Ap×Value)) (d:List (An×Value×Value)),e= .returned (.tuple #[.agg #[b,ev,sv,av],a,ag (playP dk0 l).2.runs,ag 0])/\Rob (fun k=>k∉ys) (fun u=>o5 B u (playP dk0 l) b ev sv av a f c d) w'))
theorem Q9:(prog.info? 43).map (fun i=>(i.zero,i.size,i.bytes))=some (some (.agg #[ag 0,ag 0,ag 0,ag 0,af,af]),6,80):=by kernel_rfl
theorem QA:prog.underlying 30=some (.slice 43):=by kernel_rfl
theorem dsT:prog.underlying 29=some (.struct (prog.fieldsOf 29)):=by kernel_rfl
theorem Fm (c:Cm)(p q:Option Addr)(n m k j:Nat):(doC c (.slice p n k) (.slice q m j)).all (·.oneCell')=true:=by simp[doC,lg,Value.oneCell']
theorem Bt {R:Ending->World->Prop}{a:Act}{w:World}(g:Nat)(c:Array Value)(x:Value)(n er:Int)(o:c.size=4)(p:a.defers=[])(i:a.tmps.getD 2 undef=ab g 0)(j:a.tmps.getD 3 undef=x)(k:a.tmps.getD 4 undef=ag n)(l:a.tmps.getD 5 undef=ag er)
  (q:w.heap[g]? =ah c 29) (m:R (.returned (.tuple #[.agg c,x,ag n,ag er])) w):bodyPost prog f9 R .ret a w:=by
 refine aY (v:= .tuple #[.agg c,x,ag n,ag er]) ?_ p m;have s:f9.results= #[ResultVar.cell 2 29,ResultVar.tmp 3,ResultVar.tmp 4,ResultVar.tmp 5]:=rfl;have b:a.tmps[2]?.getD undef=ab g 0:=by simpa using i
 have d:a.tmps[3]?.getD undef=x:=by simpa using j
 have e:a.tmps[4]?.getD undef=ag n:=by simpa using k
 have f:a.tmps[5]?.getD undef=ag er:=by simpa using l
 have r:=eE (P:=prog) w g 29 29 _ _ _ q dsT rfl (by rw[o];kernel_rfl);simp[results,b,d,e,f,asAddr,r]
theorem J6 {d:Nat}{t:Tr}{L c:List Nat}(h: ∀b∈c,b∈L){q:Nat}(e:Fx d (t.ad L) q):Fx d (t.ad c) q:=⟨e.1,fun a=>e.2 (by
 rcases bN.1 a with a|a
 ·exact dJ _ (h q a)
 ·exact dm _ a)⟩
theorem dC.sub {B c:Nat}{d:Dk}{t:Tr}{L e:List Nat}{w:World}(h:dC B c d (t.ad L) w)(g: ∀b∈e,b∈L):dC B c d (t.ad e) w:=by
 obtain⟨k,m,j,o,kv,n,i,h⟩:=h;have mv: ∀{Φ:World->Prop},Rob (Fx c (t.ad L)) Φ w->Rob (Fx c (t.ad e)) Φ w:=fun l=>l.move (aD _) (fun _ _ _=>rfl) fun q _ a=>J6 g a
 exact⟨k,m,j,o,kv,n,i,h.blk,h.lo,mv h.rules,mv h.codes,mv h.vers,mv h.kept,h.res,h.svs,h.sve,fun p f=>mv (h.svr p f),h.aps,h.ape,fun p f=>mv (h.apr p f),fun q a=>h.nx q (by
  rcases bN.1 a with a|a
  ·exact dJ _ (g q a)
  ·exact dm _ a)⟩
theorem Do (B:Nat)(ys:List Nat)(cs:List (Cm×Value×Value))(v:Value)(w:World)(aZ:B<=w.heap.size)(h:k6 w v cs)(hT:Tbs B w)(bn: ∀q∈cs,G3 q.1)(c1: ∀q∈cs,Rob (fun k=>k<B) (fun u=>dT u q.2.2 q.1.swho) w)(c3: ∀q∈ys,B<=q/\ ∃c T f,w.heap[q]? =some (.cells c T f)/\ ¬(T=195\/T=216\/T=57)):Calls prog 9 #[v] w (G6 B ys (cs.map fun q=>q.1) w):=by
 obtain⟨m,hA,bA,nA⟩:=nb w #[af,af,af,af] 29;have HR:=aF h;obtain⟨p,kc,rfl,bk,cF⟩:=h;obtain⟨n,hn⟩:=au cs.length;have HN:=aF hn;have bM:=aF bn;have HT:=aF hT;have bT:=aF c1;have ar:=aF c3;have b2:=aF bA;rw[hn]at bk⊢;obtain⟨l,E⟩:=au (cs.map (fun q=>q.1));have cq:l.length=n:=by rw[<-E,aX,hn]
 rw[E];have HL:=aF E;have ao:=aF cq;by_cases bW:60<n
 ·have aY:(60:Int)<(n:Int):=by omega
  have HO:=aF (below_setRow bA (aD _) #[af,af,af,af]);have bR:=aF (aL _ _ _ #[af,af,af,af] _ _ nA);go_enter func9,ntmps9;go_wp2_with(refine aA rfl 29 _ _ rfl _ _ rfl rfl _ _ nA (by kernel_rfl) rfl (by simp[Value.oneCell']) ?_)
  exact Bt w.heap.size _ _ 0 5 rfl rfl rfl rfl rfl rfl bR.o ⟨HO.o,.inl ⟨by rw[ao.o];exact bW,rfl⟩⟩
 ·have aY: ¬(60:Int)<(n:Int):=by omega
  obtain⟨wB,hB,bB,nB⟩:=nb m #[af,af,af,af,af,af,ag 0,af,ag 0] 73;have cB:w.heap.size<m.heap.size:=(by rw[<-hA];simp);have cC:m.heap.size<wB.heap.size:=(by rw[<-hB];simp)
  have ch:=Py (B:=B) (xs:=w.heap.size::ys) (by omega) (fun q d=>by
   rcases bo.1 d with rfl|d
   ·omega
   ·obtain⟨D,_,_,_,z,_⟩:=ar.o q d;have:=aI z;omega) nB
  have b5:=aF ch;have b3:=aF (fk (aw b2.o bB) (bt bB nA));go_enter func9,ntmps9;go_wp2_with fail;go_loopw [7,9,16] (fun v _ q wr=> ∃(j:Nat) (dd:Dk) (A:Tr) (L:List Nat) (G:List (An×Value×Value)),q=ag (j:Int)/\j<=n/\(A.xs=w.heap.size::ys/\ ∀q,q<w.heap.size->Gx m.heap.size A q)/\dC B m.heap.size dd (A.ad L) wr/\(∀b,v.ownBlock=some b->b∈L)/\(∀b∈L,∃c,wr.heap[b]? =ah c 43)/\(aq w wr/\wr.heap[w.heap.size]? =ah #[af,af,af,af] 29)/\wr.ownsRow m.heap.size 43 6 v j (anF G)/\G.length=j/\dd.given<=j/\(∀a∈G,Rob (Fx m.heap.size (A.ad L)) (fun u=>rt B u a.2.1 a.1.who) wr/\Rob (Fx m.heap.size (A.ad L)) (fun u=>dT u a.2.2 a.1.list) wr)/\playP dk0 l=(G.map (fun a=>a.1)++(playP dd (l.drop j)).1,(playP dd (l.drop j)).2)) (fun _ _ q _=>n-(intOf q).toNat);case atStart=>exact⟨0,dk0,⟨af,af,af,w.heap.size::ys⟩,[],[],rfl,by omega,⟨rfl,fun q d=>⟨by omega,nofun,nofun,nofun⟩⟩,b5.o,(fun b i=>by cases i),(fun b i=>by cases i),b3.o,dl _ _ _ _,rfl,gh _,(fun a ha=>by cases ha),rfl⟩
  case round=>
   obtain⟨j,dd,A,L,G,rfl,hj,⟨H,cn⟩,hd,bY,bZ,⟨U,b1⟩,C,a6,cm,Z,hX⟩:=hrel;have cA:(0:Int)<=(j:Int):=(by omega);by_cases co:j<n
   ·have bh:(j:Int)<(n:Int):=(by omega);obtain⟨⟨c,rv,wv⟩,V⟩: ∃q,cs[j]? =some q:=⟨cs[j]'(by rw[HN.o];exact co),ay _⟩
    have cp:l[j]? =some c:=(by rw[<-HL.o,bj,V];rfl);rw[G2 dd cp]at hX;obtain⟨p',k',e',_,ax⟩:=HR.o;injection e' with e1 e3 e2;subst e1 e2;obtain⟨X,g,o,cx,bp⟩:=ax j _ V;subst cx;dsimp only at X bp;have bd:=bM.o _ (aN V);have bq:=fZ bp U;have bb:=X.below U;obtain⟨N,J,rfl,_,_⟩:=X.roles;obtain⟨pw,kw,rfl,_,_⟩:=X.who;obtain⟨wZ,wC,hZ,nZ,hC,bC,nC⟩:=nbs wr #[ag 0,ag 0,ag 0,ag 0,.string ⟨#[]⟩,.string ⟨#[]⟩,ag 0,ag 0,ag 0,af,ag 0,ag 0,af] (doC c (.slice N c.sv.roles.length J) (.slice pw c.swho.length kw)) 41;have a0:=hd.below bC;have O:=aw U bC;have b0:=bt bC b1;have ca:Tbs B wC:=fun W hW=>HT.o W ((O.mono aZ).trans hW)
    have ba: ∀b∈L,∃c,wC.heap[b]? =ah c 43:=fun b i=>by
     obtain⟨x,hx⟩:=bZ b i;exact⟨x,bt bC hx⟩
    have cD:=bd B m.heap.size dd (A.ad L) wC N pw J kw a0 ca (bg aZ O.size) (by omega) (fun b i=>by
     rcases bN.1 i with i|i
     ·obtain⟨x,hx⟩:=ba b i;exact⟨x,_,_,hx,by decide⟩
     ·rw[H]at i;rcases bo.1 i with rfl|i
      ·exact⟨_,_,_,b0,by decide⟩
      ·obtain⟨_,x,T,f,z,h3⟩:=ar.o b i;exact⟨x,T,f,bt O z,h3⟩) (bb.below bC) ((bT.o _ (aN V)).below O)
    have cw:=bJ C fun b d=>bC.block b (C.lt b d).2
    have be:(∀b∈L,Gx m.heap.size (A.ad L) b)/\Gx m.heap.size (A.ad L) w.heap.size:=by
     obtain⟨_,_,_,_,_,_,_,t⟩:=a0;exact⟨fun b i=>(t.nx b (dJ _ i)).2.2,(t.nx _ (dm _ (by rw[H];exact bf))).2.2⟩
    have aS:=aF b0;obtain⟨P,hP⟩:=au (doP dd c);have bH:Rg (P.2.given<=dd.given+1):=(by have:=J1 dd c;rw[hP]at this;exact this);rw[hP]at cD hX
    have HX:Rg (playP dk0 l=((G.map (fun a=>a.1)++[P.1])++(playP P.2 (l.drop (j+1))).1,(playP P.2 (l.drop (j+1))).2)):=by
     show _=_;rw[hX,dD];rfl
    have aG:Rg (∀a∈G,Rob (Fx m.heap.size (A.ad L)) (fun u=>rt B u a.2.1 a.1.who) wC/\Rob (Fx m.heap.size (A.ad L)) (fun u=>dT u a.2.2 a.1.list) wC):=fun a ha=>⟨(Z a ha).1.below bC,(Z a ha).2.below bC⟩
    have am:=aF O;have c4:=aF a0;have ap:=aF cw;have an:=aF be;have aE:=aF bY;have bI:=aF ba;have bK:=aF a6;have bS:=aF H;have ac:=aF cn;have b7:=aF cm;go_wp2_with(first|(refine wpList_load_mid rfl 41 _ rfl g (o+j*13) rfl (doC c (.slice N c.sv.roles.length J) (.slice pw c.swho.length kw)).toList _ bq doT rfl (by kernel_rfl) ?_)|(refine aA rfl 41 _ _ rfl _ _ rfl rfl _ _ nZ (by kernel_rfl) rfl (Fm _ _ _ _ _ _ _) ?_;rw[hC])|(refine aR rfl 41 _ rfl _ rfl _ _ _ _ nC doT rfl (by kernel_rfl) ?_))
    refine cD.mono ?_;rintro e w4 ⟨t',aB,lv,rfl,ci,r,bz,bi⟩
    obtain⟨y,c0,rfl⟩: ∃y:Tr,y.xs=w.heap.size::ys/\t'=y.ad L:=⟨⟨t'.ev,t'.sv,t'.av,w.heap.size::ys⟩,rfl,by
     have e:=r.xs;obtain⟨a1,a2,a3,a4⟩:=t';dsimp only[Tr.ad]at e⊢;rw[e,bS.o]⟩
    obtain⟨p5,c5,bw,_,_⟩:=bz.here.1;obtain⟨p6,c6,bx,_,_⟩:=bi.here;obtain⟨wE,hE,S,nE⟩:=nb w4 #[ag P.1.err,ag P.1.num,ag P.1.day,ag P.1.min,aB,lv] 43;have cc:aq w w4:=am.o.trans ⟨r.os,r.tape,r.output,r.size,fun q d=>r.blk q (ac.o q d) (aU d am.o.size)⟩;have bF:Rg (∀q,q<w.heap.size->Gx m.heap.size y q):=fun q d=>r.gx q (aU d am.o.size) (ac.o q d);have ce:=aw cc S;have Y:wE.ownsRow m.heap.size 43 6 u7 j (anF G):=bJ ap.o fun b d=>(S.block b (aU (ap.o.lt b d).2 r.size)).trans (r.blk b (an.o.1 b (aE.o b d)) (ap.o.lt b d).2);have bc:=ci.below S;have aV:=aF (bt S ((r.blk _ an.o.2 (aI aS.o)).trans aS.o))
    have c8:Rg (∀b∈L,∃c,wE.heap[b]? =ah c 43):=fun b i=>by
     obtain⟨x,hx⟩:=bI.o b i;exact⟨x,bt S ((r.blk b (an.o.1 b i) (aI hx)).trans hx)⟩
    have aP:Rg (∀a∈G++[(P.1,aB,lv)],Rob (Fx m.heap.size (y.ad L)) (fun u=>rt B u a.2.1 a.1.who) wE/\Rob (Fx m.heap.size (y.ad L)) (fun u=>dT u a.2.2 a.1.list) wE):=fun a ha=>by
     rcases bN.1 ha with ha|ha
     ·exact⟨(r.rob (aG.o a ha).1).below S,(r.rob (aG.o a ha).2).below S⟩
     ·rw[bL.1 ha];exact⟨bz.below S,bi.below S⟩
    have b6:=aF bc
    have cy:m.heap.size<=wE.heap.size:=by
     obtain⟨_,_,_,_,_,_,_,t⟩:=bc;exact Nat.le_of_lt (aI t.blk)
    have aC:=aF ce;have bV:(#[ag P.1.err,ag P.1.num,ag P.1.day,ag P.1.min,aB,lv]:Array Value).all (·.oneCell')=true:=(by rw[bw,bx];simp[Value.oneCell']);unfold anC;subst bw bx;go_wp2_with(at_builtin;refine iO rfl _ _ 30 43 rfl QA Q9 rfl (by decide) (by decide) rfl Y rfl nE rfl bV (by omega) cy ?_)
    rintro v2 R a8 a5 cf g5 c7 rfl;obtain⟨L',cj,bX,c9,ct⟩:=b6.o.grown Y aE.o a5 a8 cf;have cd:aq w R/\R.heap[w.heap.size]? =ah #[af,af,af,af] 29:=⟨aC.o.grown a5 aC.o.size (fun k hk=>by have:=(Y.lt k hk).1;omega),(a5.block _ (aI aV.o) (fun e=>by have:=(Y.lt _ e.symm).1;omega)).trans aV.o⟩
    have bP:Rg (∃(L:List Nat) (I:List (An×Value×Value)),dC B m.heap.size P.2 (y.ad L) R/\(∀b,(Value.slice (some (ae g5 0)) (j+1) c7).ownBlock=some b->b∈L)/\(∀b∈L,∃c,R.heap[b]? =ah c 43)/\(aq w R/\R.heap[w.heap.size]? =ah #[af,af,af,af] 29)/\R.ownsRow m.heap.size 43 6 (.slice (some (ae g5 0)) (j+1) c7) (j+1) (anF I)/\I.length=j+1/\(∀a∈I,Rob (Fx m.heap.size (y.ad L)) (fun u=>rt B u a.2.1 a.1.who) R/\Rob (Fx m.heap.size (y.ad L)) (fun u=>dT u a.2.2 a.1.list) R)/\I.map (fun a=>a.1)=G.map (fun a=>a.1)++[P.1]):=by
     have bu: ∀b∈[g5],b∈L':=fun b i=>(by rw[bL.1 i];exact bX g5 rfl);have bl: ∀{Φ:World->Prop},Rob (Fx m.heap.size (y.ad L)) Φ wE->Rob (Fx m.heap.size (y.ad [g5])) Φ R:=fun hR=>(ct _ hR).move (aD _) (fun _ _ _=>rfl) fun q _ d=>J6 bu d;refine⟨[g5],G++[_],cj.sub bu,fun b i=>by rw[bL];exact(aM i).symm,fun b i=> ?_,cd,?_,by rw[aO,bK.o];rfl,fun a ha=>⟨bl (aP.o a ha).1,bl (aP.o a ha).2⟩,by rw[dO];rfl⟩
     ·rw[bL.1 i];rcases a8.2 with⟨e,_⟩|⟨g',cap,bU,e,_,cl,_⟩
      ·cases e
      ·injection e with e1 _ _;injection e1 with e1;injection e1 with e1;subst e1;exact⟨bU,cl⟩
     ·unfold anF;rw[fN];exact a8
    go_wp2_with fail;go_roundw
    case rel=>
     obtain⟨L,I,q1,q2,q3,q4,q5,q6,q7,q8⟩:=bP.o;exact⟨j+1,P.2,y,L,I,by go_num,by omega,⟨c0,bF.o⟩,q1,q2,q3,q4,q5,q6,by have:=bH.o;have:=b7.o;omega,q7,by rw[q8];exact HX.o⟩
    case measure=>simp[intOf];omega
   ·have bh: ¬(j:Int)<(n:Int):=(by omega);obtain rfl:n=j:=(by omega);rw[dn (by rw[ao.o];exact aD _)]at hX
    have HX:Rg (playP dk0 l=(G.map (fun a=>a.1),dd)):=by
     show _=_;rw[hX];simp[playP]
    obtain⟨bn,rv,cv,vv,kv,ss,aa,t⟩:=hd
    obtain⟨N,J,bs⟩: ∃p c,rv= .slice p dd.rules.length c:=by
     obtain⟨us,D,z⟩:=t.rules.here;obtain⟨p,c,e⟩:=D.form;exact⟨p,c,by rw[e,<-z,aX]⟩
    obtain⟨pe,ke,ck⟩:=dj t.res;obtain⟨ps,ks,cz⟩:=dj t.svs;obtain⟨pa,ka,cb⟩:=dj t.aps;obtain⟨px,kx,c2⟩:=dj C;have z0:=cr 0 t.blk rfl;have z1:=cr (v:=A.ev) 1 t.blk rfl;have z2:=cr (v:=A.sv) 2 t.blk rfl;have z3:=cr (v:=A.av) 3 t.blk rfl;have z8:=cr 8 t.blk rfl;obtain⟨n0,h0⟩:=au dd.rules.length;obtain⟨n1,D⟩:=au dd.res.length;obtain⟨n2,z⟩:=au ss.length;obtain⟨n3,h3⟩:=au aa.length;obtain⟨rn,br⟩:=au dd.runs;have ak:A.ev= .slice pe n1 ke:=(by rw[<-D];exact ck);have al:A.sv= .slice ps n2 ks:=(by rw[<-z];exact cz);have ai:A.av= .slice pa n3 ka:=(by rw[<-h3];exact cb);rw[bs,h0]at z0;rw[ak]at z1;rw[al]at z2;rw[ai]at z3;rw[br]at z8;subst c2;have a9:=b1
    have bO:Rg (∀W:World,wr.heap.size<=W.heap.size->(∀q,q<wr.heap.size->q≠w.heap.size->q∉ys->W.heap[q]? =wr.heap[q]?)->o5 B W (playP dk0 l) (.slice N n0 J) (.slice pe n1 ke) (.slice ps n2 ks) (.slice pa n3 ka) (.slice px n kx) ss aa G):=fun W hs hW=>by
     have mv: ∀{Φ:World->Prop},Rob (Fx m.heap.size (A.ad L)) Φ wr->Φ W:=fun hR=>hR W hs fun q d E=>hW q E (fun e=>d.2 (dm _ (by rw[H,e];exact bf))) fun e=>d.2 (dm _ (by rw[H];exact bG _ e));have a7:=fun q (d:q∈w.heap.size::ys)=>(t.nx q (dm _ (by rw[H];exact d))).2.2;have rk: ∀{B e s k:Nat} {u:Value} {xs:List Value},wr.ownsRow B e s u k xs->(∀q∈w.heap.size::ys,some q≠u.ownBlock)->W.ownsRow B e s u k xs:=fun hr hn=>bJ hr fun b i=>hW b (hr.lt b i).2 (fun e=>hn b (by rw[e];exact bf) i.symm) fun e=>hn b (bG _ e) i.symm
     have bm:=rk C fun q d e=>by
      have D:=(C.lt _ e.symm).1;rcases bo.1 d with rfl|d
      ·omega
      ·obtain⟨_,_,_,_,z,_⟩:=ar.o q d;have:=aI z;omega
     rw[HX.o];refine⟨?_,?_,?_,t.sve,fun q d=>mv (t.svr q d),?_,t.ape,fun q d=>mv (t.apr q d),⟨bm.1.trans (by rw[a6]),?_⟩,rfl,fun a ha=>⟨mv (Z a ha).1,mv (Z a ha).2⟩⟩
     ·rw[<-h0,<-bs];exact mv t.rules
     ·rw[<-ak];exact rk t.res fun q d=>(a7 q d).2.1
     ·rw[<-al];exact rk t.svs fun q d=>(a7 q d).2.2.1
     ·rw[<-ai];exact rk t.aps fun q d=>(a7 q d).2.2.2
     ·rw[a6];exact bm.2.imp id fun⟨g,c,cu,q1,q2,q3⟩=>⟨g,c,cu,q1,by omega,q3⟩
    have bQ:Rg ((playP dk0 l).2.runs=rn):=(by show _=_;rw[HX.o];exact br);have b4:=aF U;have cE:=aI a9;go_upto_region 10 with fail;refine cZ (fun M _ W=>(M 6=false->aq wr W)/\(M 6=true-> ∃Q,aq wr Q/\Below Q.heap.size (Q.setRow w.heap.size #[.slice N n0 J,.slice pe n1 ke,.slice ps n2 ks,.slice pa n3 ka]) W)) [kn 26 (ab m.heap.size 0),kn 27 (.agg #[.slice N n0 J,.slice pe n1 ke,.slice ps n2 ks,.slice pa n3 ka]),kn 28 (.slice px n kx),kn 29 (ab m.heap.size 7),kn 30 (ab m.heap.size 8),kn 31 (ag rn),nk,kn 3 (.slice px n kx),kn 4 (ag rn),kn 5 (ag 0)] (fun _=>⟨fun _=>(aH _ _).drew,(fun h=>by cases h)⟩) (fun _ _ _ _ i h=>⟨fun c=>(h.1 c).trans (i.mono (h.1 c).size),fun c=> ?_⟩) (by kernel_rfl) ?_ ?_
    ·obtain⟨Q,D,z⟩:=h.2 c;exact⟨Q,D,z.trans (i.mono (by have:=z.size;simpa using this))⟩
    ·rintro M φ W hJ hc F l' E hF;have HJ:=aF hJ;simp only[kn,nk,eh,aQ,aT,Act.put,az,aK,aJ]at E;subst E;simp only[dc,Nat.reduceAdd]at hF;dsimp only[kn,nk,dz,eV,eo,Act.put];and_intros;all_goals first|exact trivial|intro hw hn t K hK
     all_goals try (go_simp;with_reducible exact hK _ _ ⟨rfl,aH _ _⟩)
     ·have i:=HJ.o.1 (hn 6 _ rfl (by kernel_rfl));have z0:=aj i z0;have z1:=aj i z1;have z2:=aj i z2;have z3:=aj i z3;go_simp;exact hK _ _ ⟨rfl,aH _ _⟩
     ·have z8:W.cell? (ae m.heap.size 8)=some (ag rn):=by
       cases d:M 6 with
       |false=>exact((HJ.o.1 d).cell (cg z8)).trans z8
       |true=>
        obtain⟨Q,D,z⟩:=HJ.o.2 d;have hz:=aj D z8;exact(eI ((z.block _ (cg hz)).trans (aW Q w.heap.size m.heap.size _ (by omega)))).trans hz
      go_simp;exact hK _ _ ⟨rfl,aH _ _⟩
     ·have i:=HJ.o.1 t;have nW:=bt i a9;show Oper.wp _ _ _ _ _ _;refine i7 (ops:= #[]) rfl (aA rfl 29 _ _ rfl _ #[.slice N n0 J,.slice pe n1 ke,.slice ps n2 ks,.slice pa n3 ka] (by simp[Act.eval,hF]) (by simp[Act.eval,hF]) _ _ nW (by kernel_rfl) rfl (by simp[Value.oneCell']) ?_);exact⟨rfl,hK undef _ ⟨trivial,fun c=>by simp at c,fun _=>⟨W,i,aH _ _⟩⟩⟩
    ·rintro M φ W hM hJ;obtain⟨Q,D,z⟩:=hJ.2 (hM 6 (by decide) rfl);simp only[kn,nk,eD,aQ,aT,Act.put,az,aK,aJ];have m0:=bt D a9;have m2:=aL _ _ _ #[.slice N n0 J,.slice pe n1 ke,.slice ps n2 ks,.slice pa n3 ka] _ _ m0;have bv:Q.heap.size<=W.heap.size:=(by have:=z.size;simpa using this);have hW: ∀q,q<wr.heap.size->q≠w.heap.size->W.heap[q]? =wr.heap[q]? :=fun q E d=>(z.block q (aU E D.size)).trans ((aW Q w.heap.size q _ d).trans (D.block q E));have b8:=aF ((z.block _ (aI m0)).trans m2);have b9:=aF ((below_setRow (aw b4.o D) (aD _) #[.slice N n0 J,.slice pe n1 ke,.slice ps n2 ks,.slice pa n3 ka]).trans (z.mono (Nat.le_of_lt (aI m0))));have bD:Rg (Rob (fun k=>k∉ys) (fun u=>o5 B u (playP dk0 l) (.slice N n0 J) (.slice pe n1 ke) (.slice ps n2 ks) (.slice pa n3 ka) (.slice px n kx) ss aa G) W):=fun u hu ha=>bO.o u (bg D.size (bg bv hu)) fun q E d hy=>(ha q hy (aU E (bg D.size bv))).trans (hW q E d);go_wp2_with fail;exact Bt w.heap.size #[.slice N n0 J,.slice pe n1 ke,.slice ps n2 ks,.slice pa n3 ka] _ rn 0 rfl rfl rfl rfl rfl rfl b8.o ⟨b9.o,.inr ⟨by rw[ao.o];omega,_,_,_,_,_,_,_,_,by rw[bQ.o];rfl,bD.o⟩⟩
theorem L3 (a:List (Cm×Value×Value))(v:Value)(w:World)(h:k6 w v a)(f:Tbs w.heap.size w)(b: ∀q∈a,G3 q.1):Calls prog 9 #[v] w (G6 w.heap.size [] (a.map fun q=>q.1) w):=
 Do _ [] a v w (aD _) h f b (fun q c u i ha=>by
  obtain⟨_,_,_,_,e⟩:=id h;obtain⟨j,g⟩:=List.getElem?_of_mem c;exact pB (e j q g).1.who fun k d=>ha k d d) (fun q c=>absurd c List.not_mem_nil)
end Go.Proofs.YtlkehieagdkgiaaGreatDoor
