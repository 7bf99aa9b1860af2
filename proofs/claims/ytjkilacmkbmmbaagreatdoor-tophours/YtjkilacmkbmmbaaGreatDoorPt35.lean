/- Texts of the proof. -/
import Derived.Test.YtjkilacmkbmmbaaGreatDoorPt34
import Derived.Great.BuildSlice
set_option maxRecDepth 100000
set_option maxHeartbeats 8000000
namespace Go.Proofs.YtjkilacmkbmmbaaGreatDoor
open Go.Proofs.Tryz Go.RowKit Lx Vx Mx Msk
structure Co where
 rules:List Ru
 res:List (List UInt8)
 svs:List Sv
 aps:List Ap
def coD (d:Dk):Co:=⟨d.rules,d.res,d.svs,d.aps⟩
def mS (c:Co)(r day:Int):M:=if atP5 c.rules (c.res.getD r.toNat [])<0 then noM else meanP c.rules (wkB day) day (atP5 c.rules (c.res.getD r.toNat [])).toNat
def fS (c:Co)(r day but:Int):M:=pg (mS c r day) (inl (mz r day but c.aps 0))
def mu (c:Co)(n:Int)(a:Ap)(day min:Int)(who:List Int):Ap×Int:=
 if isN day 146097=false\/isN min 1440=false then(ap0,3) else
 if min-a.bef<0\/1440<min+a.len+a.aft then(ap0,3) else
 if wN who (c.svs.getD a.sv.toNat sv0).roles≠0 then(ap0,wN who (c.svs.getD a.sv.toNat sv0).roles) else
 if(who.any fun r=> !jl (fS c r day n) (min-a.bef) (min+a.len+a.aft))=true then(ap0,10) else({a with fr:=min-a.bef,to:=min+a.len+a.aft,day:=day,min:=min,who:=who},0)
def xh (c:Co)(n:Int):Ap:=⟨1,10,0,0,n,(c.svs.getD n.toNat sv0).bef,(c.svs.getD n.toNat sv0).aft,(c.svs.getD n.toNat sv0).len,0,0,[]⟩
def QT (c:Co)(n day min:Int)(who:List Int):An×Co:=
 if isN n c.svs.length=false then(noA 6,c) else
 if 30<=c.aps.length then(noA 5,c) else
 if(mu c (-1) (xh c n) day min who).2≠0 then(noA (mu c (-1) (xh c n) day min who).2,c) else(lH c.aps.length,{c with aps:=c.aps++[(mu c (-1) (xh c n) day min who).1]})
def sf (c:Co)(n:Int)(f:Ap->Ap×Int):An×Co:=
 if isN n c.aps.length=false\/(c.aps.getD n.toNat ap0).st=3 then(noA 6,c) else
 if(f (c.aps.getD n.toNat ap0)).2≠0 then(noA (f (c.aps.getD n.toNat ap0)).2,c) else(noA 0,{c with aps:=c.aps.set n.toNat (f (c.aps.getD n.toNat ap0)).1})
def QU (c:Co)(t:Int):An×Co:=if t<0\/1000<t then(noA 3,c) else(noA 0,{c with aps:=c.aps.map (jz t)})
def LY (c:Co)(name:List UInt8):An×Co:=
 if 12<=c.res.length then(noA 5,c) else if atP5 c.rules name<0 then(noA 7,c) else(lH c.res.length,{c with res:=c.res++[name]})
def LZ (c:Co)(s:Sv):An×Co:=
 if 8<=c.svs.length then(noA 5,c) else if eW s c.res.length≠0 then(noA (eW s c.res.length),c) else(lH c.svs.length,{c with svs:=c.svs++[s]})
def G2 (c:Co)(s:Sv)(day:Int):Nat->Nat->List M
 |0,_=>[]
 |m+1,r=>(if s.roles.any (fun p=>decide ((r:Int)∈p))=true then fS c r day (-1) else noM)::G2 c s day m (r+1)
def lZ (c:Co)(s:Sv)(day:Int):Nat->Nat->List (List M)
 |0,_=>[]
 |m+1,i=>G2 c s (day+i) c.res.length 0::lZ c s day m (i+1)
def ph (c:Co)(n day days:Int):An×Co:=
 if isN n c.svs.length=false then(noA 6,c) else
 if isN day 146097=false\/days<1\/30<days\/146097<day+days then(noA 3,c) else
 if(findP (c.svs.getD n.toNat sv0) (lZ c (c.svs.getD n.toNat sv0) day days.toNat 0)).err≠0 then(noA (findP (c.svs.getD n.toNat sv0) (lZ c (c.svs.getD n.toNat sv0) day days.toNat 0)).err,c) else(⟨0,0,(findP (c.svs.getD n.toNat sv0) (lZ c (c.svs.getD n.toNat sv0) day days.toNat 0)).day+day,(findP (c.svs.getD n.toNat sv0) (lZ c (c.svs.getD n.toNat sv0) day days.toNat 0)).min,(findP (c.svs.getD n.toNat sv0) (lZ c (c.svs.getD n.toNat sv0) day days.toNat 0)).who,[]⟩,c)
def uA (c:Co):List Ap->Nat->List Int
 |[],_=>[]
 |a::l,i=>if a.st≠3/\(a.who.any fun r=> !jl (mS c r a.day) a.fr a.to)=true then(i:Int)::uA c l (i+1) else uA c l (i+1)
def JW (c:Co)(r:Int×List Ru):An×Co:=if r.1≠0 then(noA r.1,c) else(⟨0,0,0,0,[],uA {c with rules:=r.2} c.aps 0⟩,{c with rules:=r.2})
def doS (c:Co)(x:Cm):An×Co:=
 if x.kind=1 then JW c (fN x.text) else
 if x.kind=2 then LY c x.name else
 if x.kind=3 then LZ c x.sv else
 if x.kind=4 then ph c x.n x.day x.days else
 if x.kind=5 then QT c x.n x.sday x.smin x.swho else
 if x.kind=6 then sf c x.n (fun a=>(jy a 2,0)) else
 if x.kind=7 then sf c x.n (fun a=>(jy a 3,0)) else
 if x.kind=8 then sf c x.n (fun a=>mu c x.n a x.sday x.smin x.swho) else
 if x.kind=9 then QU c x.days else(noA 1,c)
def jK:Co->List Cm->List An×Co
 |c,[]=>([],c)
 |c,x::l=>((doS c x).1::(jK (doS c x).2 l).1,(jK (doS c x).2 l).2)
def co0:Co:=⟨[],[],[],[]⟩
structure DI (d:Dk):Prop where
 flt:gL d.rules=(0,0)
 vl:d.vers.length=d.rules.length
 kv: ∀e∈d.kept,e.v<=d.given
 vg: ∀v∈d.vers,v<=d.given
 ki: ∀e∈d.kept,∀i:Nat,e.r=(i:Int)->d.vers[i]? =some e.v->e.m=meanP d.rules (wkB e.d) e.d i
 ad: ∀a∈d.aps,0<=a.day/\a.day<146097
theorem L0 {l:List Ru}(h:gL l=(0,0)){i:Nat}(hi:i<l.length){day:Int}(h0:0<=day)(h1:day<146097):(jg (fp l) (i:Int) day).1=0/\pP (fp l) (i:Int) day=meanP l (wkB day) day i:=by
 have hf:(gL l).1=0:=by rw[h]
 have hw:=Er (JV hf)
 have he:(jg (fp l) (i:Int) day).1=0:=by
  unfold jg;rw[hw,aw (by simp),xg,aw (by omega),aw (by omega)]
 refine⟨he,?_⟩;unfold pP;rw[ax he,cj,Og];refine Fg (vu hf).1 _ _ _ _ hi ?_;rw[xg];have:=AQ l (i:Int);unfold muR;omega
theorem L1 {l:List Vx.Kp}{i:Int}{e:Vx.Kp}(h:e∈gz l i):e∈l:=by
 unfold gz at h;split at h
 ·rcases cY.1 h with h|h
  ·exact List.mem_of_mem_take h
  ·exact List.mem_of_mem_drop h
 ·exact h
theorem vw {l:List Vx.Kp}{i:Int}{e x:Vx.Kp}(h:x∈gz l i++[e]):x∈l\/x=e:=(cY.1 h).imp L1 cg.1
theorem Do {d:Dk}(h:DI d)(r:Int){day:Int}(h0:0<=day)(h1:day<146097):(gK d r day).1=mS (coD d) r day/\DI (gK d r day).2/\coD (gK d r day).2=coD d:=by
 have hb:=oD d.rules (d.res.getD r.toNat []);by_cases hk:atP5 d.rules (d.res.getD r.toNat [])<0
 ·have e:gK d r day=(noM,d):=ax hk;rw[e];exact⟨(ax hk).symm,h,rfl⟩
 ·obtain⟨i,ek⟩: ∃i:Nat,atP5 d.rules (d.res.getD r.toNat [])=(i:Int):=⟨(atP5 d.rules (d.res.getD r.toNat [])).toNat,by omega⟩
  have e:gK d r day=((jT (fp d.rules) d.kept d.runs (d.vers.getD i 0) (i:Int) day).m,{d with kept:=(jT (fp d.rules) d.kept d.runs (d.vers.getD i 0) (i:Int) day).l,runs:=(jT (fp d.rules) d.kept d.runs (d.vers.getD i 0) (i:Int) day).n}):=by
   unfold gK;dsimp only;rw[aw hk,ek,cj]
  have e':mS (coD d) r day=meanP d.rules (wkB day) day i:=by
   unfold mS coD;dsimp only;rw[aw hk,ek,cj]
  rw[e,e'];rw[ek]at hb;clear e e' hk ek;have hi:i<d.rules.length:=(by omega);obtain⟨v,hv⟩: ∃v,d.vers[i]? =some v:=⟨d.vers[i]'(by rw[h.vl];exact hi),ay _⟩
  have hvd:d.vers.getD i 0=v:=(by simp[List.getD,hv]);obtain⟨he,hm⟩:=L0 h.flt hi h0 h1;rw[hvd];unfold jT;by_cases hh:oG d.kept v (i:Int) day=true
  ·rw[ax hh];obtain⟨n,e,e1,e2,e3,e4,e5,e6⟩:=PF hh;dsimp only;rw[e6];have hmem:=aN e2;have em:e.m=meanP d.rules (wkB day) day i:=(by rw[<-e4];exact h.ki e hmem i e3 (by rw[e5];exact hv));refine⟨em,⟨h.flt,h.vl,fun x hx=> ?_,h.vg,fun x hx=> ?_,h.ad⟩,rfl⟩
   ·rcases vw hx with hx|rfl
    ·exact h.kv x hx
    ·exact h.kv _ hmem
   ·rcases vw hx with hx|rfl
    ·exact h.ki x hx
    ·exact h.ki _ hmem
  ·rw[aw hh,aw (fun c=>c he)];dsimp only;rw[hm];refine⟨rfl,⟨h.flt,h.vl,fun x hx=> ?_,h.vg,fun x hx=> ?_,h.ad⟩,rfl⟩
   ·rcases vw (List.mem_of_mem_drop hx) with hx|rfl
    ·exact h.kv x hx
    ·exact h.vg _ (aN hv)
   ·rcases vw (List.mem_of_mem_drop hx) with hx|rfl
    ·exact h.ki x hx
    ·intro j ej _
     have:j=i:=by
      have e:(i:Int)=(j:Int):=ej;omega
     subst this;rfl
def Ste (d:Dk)(d':Dk):Prop:=DI d'/\coD d'=coD d
theorem Fh {d:Dk}(h:DI d)(r but:Int){day:Int}(h0:0<=day)(h1:day<146097):(kK d r day but).1=fS (coD d) r day but/\Ste d (kK d r day but).2:=by
 obtain⟨a,b,c⟩:=Do h r h0 h1;exact⟨by unfold kK fS;rw[a];rfl,b,c⟩
theorem Dp {f:Int->Dk->Bool×Dk}{g:Co->Int->Bool}(hf: ∀x d,DI d->(f x d).1=g (coD d) x/\Ste d (f x d).2): ∀(l:List Int) (d:Dk),DI d->(j4 f l d).1=l.any (g (coD d))/\Ste d (j4 f l d).2
 |[],d,h=>⟨rfl,h,rfl⟩
 |x::l,d,h=>by
  obtain⟨a,b,c⟩:=hf x d h;unfold j4;by_cases e:(f x d).1=true
  ·rw[ax e];refine⟨?_,b,c⟩;rw[List.any_cons,<-a,e];rfl
  ·rw[aw e];obtain⟨a',b',c'⟩:=Dp hf l (f x d).2 b;refine⟨?_,b',c'.trans c⟩;rw[a',c,List.any_cons,<-a];simp[e]
theorem xi {d:Dk}(h:DI d)(n:Int)(a:Ap)(day min:Int)(who:List Int):(pI d n a day min who).1=mu (coD d) n a day min who/\Ste d (pI d n a day min who).2:=by
 unfold pI mu;by_cases h1:isN day 146097=false\/isN min 1440=false
 ·rw[ax h1,ax h1];exact⟨rfl,h,rfl⟩
 rw[aw h1,aw h1];by_cases h2:min-a.bef<0\/1440<min+a.len+a.aft
 ·rw[ax h2,ax h2];exact⟨rfl,h,rfl⟩
 rw[aw h2,aw h2];show((if wN who (d.svs.getD a.sv.toNat sv0).roles≠0 then _ else _:(Ap×Int)×Dk).1=(if wN who (d.svs.getD a.sv.toNat sv0).roles≠0 then _ else _))/\_;by_cases h3:wN who (d.svs.getD a.sv.toNat sv0).roles≠0
 ·rw[ax h3,ax h3];exact⟨rfl,h,rfl⟩
 rw[aw h3,aw h3]
 have hd:0<=day/\day<146097:=by
  have:isN day 146097=true:=(by simpa using fun c=>h1 (.inl c));simpa[isN] using this
 obtain⟨p,q⟩:=Dp (g:=fun c r=> !jl (fS c r day n) (min-a.bef) (min+a.len+a.aft)) (f:=BL day n (min-a.bef) (min+a.len+a.aft)) (fun x d h=>by
  obtain⟨e1,e2⟩:=Fh h x n hd.1 hd.2;exact⟨by unfold BL;rw[e1],e2⟩) who d h
 dsimp only;rw[p];split
 ·exact⟨rfl,q⟩
 ·exact⟨rfl,q⟩
theorem Dq (s:Sv){day:Int}(h0:0<=day)(h1:day<146097): ∀(m r:Nat) (d:Dk),DI d->(it s day m r d).1=G2 (coD d) s day m r/\Ste d (it s day m r d).2
 |0,_,d,h=>⟨rfl,h,rfl⟩
 |m+1,r,d,h=>by
  unfold it G2;dsimp only;split
  ·obtain⟨a,b,c⟩:=Fh h (r:Int) (-1) h0 h1;obtain⟨a',b',c'⟩:=Dq s h0 h1 m (r+1) _ b;exact⟨by rw[a,a',c],b',c'.trans c⟩
  ·obtain⟨a',b',c'⟩:=Dq s h0 h1 m (r+1) d h;exact⟨by rw[a'],b',c'⟩
theorem JX (s:Sv){day:Int}(h0:0<=day): ∀(m i:Nat) (d:Dk),DI d->day+i+m<=146097->(jC s day m i d).1=lZ (coD d) s day m i/\Ste d (jC s day m i d).2
 |0,_,d,h,_=>⟨rfl,h,rfl⟩
 |m+1,i,d,h,hm=>by
  unfold jC lZ;dsimp only;obtain⟨a,b,c⟩:=Dq s (day:=day+i) (by omega) (by omega) d.res.length 0 d h;obtain⟨a',b',c'⟩:=JX s h0 m (i+1) _ b (by omega);exact⟨by rw[a,a',c];rfl,b',c'.trans c⟩
theorem Dr: ∀(N:Nat) (a b:Ex),lK N a b=true->a=b
 |0,_,_,h=>by cases h
 |N+1,a,b,h=>by
  unfold lK at h;simp only[bj,bq,cZ]at h;obtain⟨⟨⟨⟨h1,h2⟩,h3⟩,h4⟩,h5,h6⟩:=h;have hk:a.kids=b.kids:=List.ext_getElem h5 fun i hi hj=>Dr N _ _ (h6 (a.kids[i],b.kids[i]) (List.mem_iff_getElem.2 ⟨i,by simp;omega,by simp⟩));cases a;cases b;simp only at h1 h2 h3 h4 hk;subst h1 h2 h3 h4 hk;rfl
theorem zP {old new:List Ru}{k:Nat}(h:jD old new (k:Int)=false): ∃u,old[k]? =some u/\new[k]? =some u:=by
 unfold jD at h;rw[cj]at h;cases ha:old[k]? with
 |none=>rw[ha]at h;cases h
 |some a=>
  cases hb:new[k]? with
  |none=>rw[ha,hb]at h;cases h
  |some b=>
   rw[ha,hb]at h;simp only[Bool.or_eq_false_iff,Bool.not_eq_false']at h;have h2:=h.2;unfold qe at h2;simp only[bj,bq]at h2;have:a=b:=Prod.ext h2.1 (Dr _ _ _ h2.2);exact⟨a,rfl,by rw[this]⟩
theorem Fi {l:List Ru}(h:(di l).1=0){k:Nat}{u:Ru}(hu:l[k]? =some u):atP5 l u.1=(k:Int):=by
 have h1:=(E0 h).1 k (aD.1 hu).1;unfold lk1 at h1;rw[hu]at h1;simpa using h1
theorem Be {L L':List Ru}(hc:(di L).1=0)(hc':(di L').1=0)(wk:Int->Bool)(day:Int): ∀(m i:Nat),muR L' i<m->i<L'.length->jD L L' (i:Int)=false->(∀k∈gd L' (i:Int),jD L L' k=false)->meanP L wk day i=meanP L' wk day i
 |0,_,h,_,_,_=>by omega
 |m+1,i,hm,hi,hn,hu=>by
  obtain⟨u,h1,h2⟩:=zP hn;rw[kG hc h1,kG hc' h2];refine nO _ u.2 (aA _) fun x hx=> ?_;obtain⟨q0,q1,_⟩:=sd hc' (aN h2) hx;obtain⟨k,ek⟩: ∃k:Nat,atP5 L' x=(k:Int):=⟨(atP5 L' x).toNat,by omega⟩
  have hl:=nP hc' h2 hx;rw[ek,cj]at hl;have hw:Lx.Way (fun a b=>(ik L' a).contains b) i k:=Relation.TransGen.single (by simpa using hl);have hkl:k<L'.length:=(by omega);have hku:(k:Int)∈gd L' (i:Int):=(mL hc' hi).2 ⟨k,rfl,hkl,hw⟩;have hnk:=hu _ hku;obtain⟨v,v1,v2⟩:=zP hnk
  have hvx:v.1=x:=by
   obtain⟨v',e1,e2⟩:=IG ek;rw[v2]at e1;cases e1;exact e2
  have eL:atP5 L x=(k:Int):=(by rw[<-hvx];exact Fi hc v1);rw[eL,ek,cj];refine Be hc hc' wk day m k (by have:=sa hc' hi hl;omega) hkl hnk fun j hj=>hu j ?_;obtain⟨j',e,hjl,hjw⟩:=(mL hc' hkl).1 hj;exact(mL hc' hi).2 ⟨j',e,hjl,hw.trans hjw⟩
theorem Oh {t:List UInt8}(h:(fN t).1=0):gL (fN t).2=(0,0):=by
 unfold fN at h⊢;split at h
 ·rename_i h1;exact absurd h h1
 ·rename_i h1;rw[aw h1];exact Bb h
structure DJ (d:Dk):Prop extends DI d where
 gv:0<=d.given
theorem Ste.j {d d':Dk}(h:DJ d)(hs:Ste d d')(hg:d'.given=d.given):DJ d':=⟨hs.1,by rw[hg];exact h.gv⟩
theorem Es {d:Dk}(h:DJ d){l:List Ru}(hl:gL l=(0,0)):DI {d with rules:=l,vers:=ru d l,given:=d.given+1}:=by
 have hlen:(ru d l).length=l.length:=by simp[ru]
 refine⟨hl,hlen,fun e he=>by have:=h.kv e he;show e.v<=d.given+1;omega,fun v hv=> ?_,fun e he i ei hv=> ?_,h.ad⟩
 ·show v<=d.given+1;unfold ru at hv;obtain⟨i,_,rfl⟩:=dM.1 hv;split
  ·omega
  ·by_cases q:i<d.vers.length
   ·have:=h.vg (d.vers.getD i 0) (by simp[List.getD,ay q]);omega
   ·have:d.vers.getD i 0=0:=(by simp[List.getD,eU (by omega:d.vers.length<=i)]);have:=h.gv;omega
 ·show e.m=meanP l (wkB e.d) e.d i;have hi:i<l.length:=(by rw[<-hlen];exact(aD.1 hv).1);have hv2:(ru d l)[i]? =some e.v:=hv;unfold ru at hv2;rw[bc,List.getElem?_range hi]at hv2;replace hv2:(if jD d.rules l (i:Int)=true\/(gd l (i:Int)).any (jD d.rules l)=true then d.given+1 else d.vers.getD i 0)=e.v:=aI hv2;by_cases q:jD d.rules l (i:Int)=true\/(gd l (i:Int)).any (jD d.rules l)=true
  ·rw[ax q]at hv2;have:=h.kv e he;omega
  ·rw[aw q]at hv2;have q1:jD d.rules l (i:Int)=false:=(by simpa using fun c=>q (.inl c))
   have q2: ∀k∈gd l (i:Int),jD d.rules l k=false:=fun k hk=>by
    have: ¬(gd l (i:Int)).any (jD d.rules l)=true:=fun c=>q (.inr c);simp only[List.any_eq_true,not_exists,not_and]at this;simpa using this k hk
   obtain⟨u,u1,_⟩:=zP q1;have hio:i<d.vers.length:=(by rw[h.vl];exact(aD.1 u1).1)
   have hvo:d.vers[i]? =some e.v:=by
    rw[<-hv2,ay hio];simp[List.getD,ay hio]
   rw[h.ki e he i ei hvo];exact Be (vu (by rw[h.flt])).1 (vu (by rw[hl])).1 _ _ _ i (Nat.lt_succ_self _) hi q1 q2
theorem xj: ∀(l:List Ap) (i:Nat) (d:Dk),DI d->(∀a∈l,0<=a.day/\a.day<146097)->(eX l i d).1=uA (coD d) l i/\Ste d (eX l i d).2
 |[],_,d,h,_=>⟨rfl,h,rfl⟩
 |a::l,i,d,h,hd=>by
  unfold eX uA;by_cases hs:a.st=3
  ·rw[ax hs,aw (fun c=>c.1 hs)];exact xj l (i+1) d h fun b hb=>hd b (bx _ hb)
  ·rw[aw hs];have ha:=hd a bo
   obtain⟨p,q1,q2⟩:=Dp (g:=fun c r=> !jl (mS c r a.day) a.fr a.to) (f:=kR a.day a.fr a.to) (fun x d h=>by
    obtain⟨e1,e2,e3⟩:=Do h x ha.1 ha.2;exact⟨by unfold kR;rw[e1],e2,e3⟩) a.who d h
   obtain⟨p',q1',q2'⟩:=xj l (i+1) _ q1 fun b hb=>hd b (bx _ hb);dsimp only;refine⟨?_,q1',q2'.trans q2⟩;rw[p',q2,p];by_cases e:(a.who.any fun r=> !jl (mS (coD d) r a.day) a.fr a.to)=true
   ·rw[ax e,ax ⟨hs,e⟩]
   ·rw[aw e,aw fun c=>e c.2]
theorem Fj {c:Co}{n:Int}{a:Ap}{day min:Int}{who:List Int}(h:(mu c n a day min who).2=0):0<=(mu c n a day min who).1.day/\(mu c n a day min who).1.day<146097:=by
 unfold mu at h⊢;split
 ·rename_i h1;rw[ax h1]at h;cases h
 rename_i h1;rw[aw h1]at h;split
 ·rename_i h2;rw[ax h2]at h;cases h
 rename_i h2;rw[aw h2]at h;split
 ·rename_i h3;rw[ax h3]at h;exact absurd h h3
 rename_i h3;rw[aw h3]at h;split
 ·rename_i h4;rw[ax h4]at h;cases h
 have:isN day 146097=true:=by simpa using fun c=>h1 (.inl c)
 simpa[isN] using this
def Rl (p:An×Dk)(q:An×Co):Prop:=p.1=q.1/\coD p.2=q.2/\DJ p.2
theorem Rl.ite {c:Prop}[Decidable c]{p p':An×Dk}{q q':An×Co}(h:c->Rl p q)(h': ¬c->Rl p' q'):Rl (if c then p else p') (if c then q else q'):=by
 by_cases e:c
 ·rw[ax e,ax e];exact h e
 ·rw[aw e,aw e];exact h' e
theorem JY {n m:Int}(h: ¬isN n m=false):0<=n/\n<m:=by
 have:isN n m=true:=by simpa using h
 simpa[isN] using this
theorem Rl.aps {d d':Dk}(h:DJ d)(hs:Ste d d')(hg:d'.given=d.given)(a:An){l:List Ap}(hl: ∀x∈l,0<=x.day/\x.day<146097):Rl (a,{d' with aps:=l}) (a,{coD d with aps:=l}):=by
 have e:=hs.2;unfold coD at e;simp only[Co.mk.injEq]at e;refine⟨rfl,?_,⟨⟨hs.1.flt,hs.1.vl,hs.1.kv,hs.1.vg,hs.1.ki,hl⟩,by show 0<=d'.given;rw[hg];exact h.gv⟩⟩;unfold coD;simp only[Co.mk.injEq];exact⟨e.1,e.2.1,e.2.2.1,trivial⟩
theorem Ds {d:Dk}(h:DJ d)(n:Int)(f:Ap->Dk->(Ap×Int)×Dk)(g:Ap->Ap×Int)(hf: ∀a,(f a d).1=g a/\Ste d (f a d).2/\Cor d (f a d).2)(hg: ∀a∈d.aps,(g a).2=0->0<=(g a).1.day/\(g a).1.day<146097):Rl (oQ d n f) (sf (coD d) n g):=by
 unfold oQ sf;refine .ite (fun _=>⟨rfl,rfl,h⟩) fun h1=> ?_;obtain⟨p,q,r⟩:=hf (d.aps.getD n.toNat ap0);dsimp only;rw[p];refine .ite (fun _=>⟨rfl,q.2,q.j h r.given⟩) fun h2=> ?_;have eap:(f (d.aps.getD n.toNat ap0) d).2.aps=d.aps:=congrArg Co.aps q.2;rw[eap];refine .aps h q r.given _ fun a ha=> ?_;rcases List.mem_or_eq_of_mem_set ha with ha|rfl
 ·exact h.ad a ha
 ·have hn:=JY fun c=>h1 (.inl c);have hn':n.toNat<d.aps.length:=(by omega);exact hg _ (by simp[List.getD,ay hn']) (by simpa using h2)
theorem QV {d:Dk}(h:DJ d)(x:Cm):Rl (doP d x) (doS (coD d) x):=by
 have no: ∀a,Rl (a,d) (a,coD d):=fun a=>⟨rfl,rfl,h⟩
 unfold doP doS;refine .ite (fun _=> ?_) fun _=> .ite (fun _=> ?_) fun _=> .ite (fun _=> ?_) fun _=> .ite (fun _=> ?_) fun _=> .ite (fun _=> ?_) fun _=> .ite (fun _=> ?_) fun _=> .ite (fun _=> ?_) fun _=> .ite (fun _=> ?_) fun _=> .ite (fun _=> ?_) fun _=>no _
 ·refine .ite (fun _=>no _) fun e=> ?_;obtain⟨p,q⟩:=xj d.aps 0 _ (Es h (Oh (by simpa using e))) h.ad;dsimp only;refine⟨by rw[p];rfl,q.2,q.1,?_⟩;rw[(qg d.aps 0 _).given];have:=h.gv;show 0<=d.given+1;omega
 ·exact .ite (fun _=>no _) fun _=> .ite (fun _=>no _) fun _=>⟨rfl,rfl,⟨⟨h.flt,h.vl,h.kv,h.vg,h.ki,h.ad⟩,h.gv⟩⟩
 ·exact .ite (fun _=>no _) fun _=> .ite (fun _=>no _) fun _=>⟨rfl,rfl,⟨⟨h.flt,h.vl,h.kv,h.vg,h.ki,h.ad⟩,h.gv⟩⟩
 ·refine .ite (fun _=>no _) fun _=> .ite (fun _=>no _) fun e2=> ?_;have hd:=JY fun c=>e2 (.inl c);obtain⟨p,q⟩:=JX (d.svs.getD x.n.toNat sv0) hd.1 x.days.toNat 0 d h.toDI (by omega);have hg:=(xd (d.svs.getD x.n.toNat sv0) x.day x.days.toNat 0 d).given;dsimp only;rw[p];exact .ite (fun _=>⟨rfl,q.2,q.j h hg⟩) fun _=>⟨rfl,q.2,q.j h hg⟩
 ·refine .ite (fun _=>no _) fun _=> .ite (fun _=>no _) fun _=> ?_;obtain⟨p,q⟩:=xi h.toDI (-1) (xh (coD d) x.n) x.sday x.smin x.swho;have hg:=(qf d (-1) (xh (coD d) x.n) x.sday x.smin x.swho).given;have eap:(pI d (-1) (xh (coD d) x.n) x.sday x.smin x.swho).2.aps=d.aps:=congrArg Co.aps q.2;have hN:(⟨1,10,0,0,x.n,(d.svs.getD x.n.toNat sv0).bef,(d.svs.getD x.n.toNat sv0).aft,(d.svs.getD x.n.toNat sv0).len,0,0,[]⟩:Ap)=xh (coD d) x.n:=rfl;dsimp only;rw[hN,p,eap];refine .ite (fun _=>⟨rfl,q.2,q.j h hg⟩) fun e3=> .aps h q hg _ fun a ha=> ?_;rcases cY.1 ha with ha|ha
  ·exact h.ad a ha
  ·cases cg.1 ha;exact Fj (by simpa using e3)
 ·exact Ds h _ _ _ (fun a=>⟨rfl,⟨h.toDI,rfl⟩,Cor.refl d⟩) fun a ha _=>h.ad a ha
 ·exact Ds h _ _ _ (fun a=>⟨rfl,⟨h.toDI,rfl⟩,Cor.refl d⟩) fun a ha _=>h.ad a ha
 ·exact Ds h _ _ _ (fun a=>⟨(xi h.toDI _ a _ _ _).1,(xi h.toDI _ a _ _ _).2,qf d _ a _ _ _⟩) fun a _ e=>Fj e
 ·refine .ite (fun _=>no _) fun _=> .aps h ⟨h.toDI,rfl⟩ rfl _ fun a ha=> ?_;obtain⟨b,hb,rfl⟩:=dM.1 ha;have:=h.ad b hb;unfold jz jy;split
  ·exact this
  split<;>exact this
theorem Fk: ∀(l:List Cm) (d:Dk),DJ d->(fw d l).1=(jK (coD d) l).1/\coD (fw d l).2=(jK (coD d) l).2/\DJ (fw d l).2
 |[],d,h=>⟨rfl,rfl,h⟩
 |x::l,d,h=>by
  obtain⟨a,b,c⟩:=QV h x;obtain⟨a',b',c'⟩:=Fk l _ c;unfold fw jK;rw[<-a,<-b];exact⟨by rw[a'],b',c'⟩
theorem PK:DJ dk0:=⟨⟨yI.flt,yI.vl,(fun e he=>by cases he),(fun e he=>by cases he),(fun e he=>by cases he),(fun e he=>by cases he)⟩,yI.gv.1⟩
theorem JZ (l:List Cm):(fw dk0 l).1=(jK co0 l).1/\coD (fw dk0 l).2=(jK co0 l).2/\DJ (fw dk0 l).2:=Fk l dk0 PK
theorem J1 (f:Nat->Bool)(x y:Int):jl f x y=true↔0<=x/\y<=1440/\x<=y/\ ∀i:Nat,x<=(i:Int)->(i:Int)<y->f i=true:=by
 unfold jl;rw[bj,bj,bj,bq,bq,bq];constructor
 ·rintro⟨⟨⟨h1,h2⟩,h3⟩,h4⟩;refine⟨h1,h2,h3,fun i hi hi'=> ?_⟩;have h:=Ld h4 i (by omega);have hin:inl [(x,y)] i=true:=(by simp[inl];omega);have h14:decide (i<1440)=true:=a6 (by omega);rw[hin,h14]at h;simpa using h
 ·rintro⟨h1,h2,h3,h4⟩;refine⟨⟨⟨h1,h2⟩,h3⟩,CL fun i _=> ?_⟩;cases hin:inl [(x,y)] i with
  |false=>rfl
  |true=>
   simp[inl]at hin;rw[h4 i (by omega) (by omega)];rfl
structure Fit (s:Sv)(fs:List (Nat->Bool))(m:Int)(who:List Int):Prop where
 len:who.length=s.roles.length
 mem: ∀(i:Nat) (r:Int) (p:List Int),who[i]? =some r->s.roles[i]? =some p->r∈p
 nd:who.Nodup
 ok: ∀r∈who,okP fs (m-s.bef) (m-s.bef+ko s) r=true
def qU:List Int->List Int->Bool
 |x::l,y::k=>if y≠x then decide (x<y) else qU l k
 |_,_=>true
theorem Bf: ∀l:List Int,qU l l=true
 |[]=>rfl
 |x::l=>by rw[qU,aw (by simp)];exact Bf l
theorem Dt: ∀(t l k:List Int),qU (t++l) (t++k)=qU l k
 |[],_,_=>rfl
 |x::t,l,k=>by
  show qU (x::(t++l)) (x::(t++k))=_;rw[qU,aw (by simp)];exact Dt t l k
theorem Oi {x y:Int}(h:x<y)(l k:List Int):qU (x::l) (y::k)=true:=by
 rw[qU,ax (by omega)];exact a6 h
structure Val (pools:List (List Int))(t u:List Int):Prop where
 len:t.length+u.length=pools.length
 mem: ∀(i:Nat) (r:Int),u[i]? =some r->r∈pools.getD (t.length+i) []
 nd:(t++u).Nodup
theorem sZ {pools:List (List Int)}: ∀{k:Nat} {t who:List Int},t.length+k=pools.length->t.Nodup->jk pools k t=some who-> ∃u,who=t++u/\Val pools t u
 |0,t,who,hk,hn,h=>by
  cases aI h;exact⟨[],by simp,⟨by simpa using hk,fun i r hi=>by simp at hi,by simpa using hn⟩⟩
 |k+1,t,who,hk,hn,h=>by
  rw[jk]at h;obtain⟨r,hr,hs⟩:=tz h;by_cases hm:r∈t
  ·rw[ax hm]at hs;cases hs
  ·rw[aw hm]at hs;obtain⟨u,e,hv⟩:=sZ (k:=k) (t:=t++[r]) (by simp;omega) (List.nodup_append.2 ⟨hn,by simp,fun a ha b hb=>by rw[cg.1 hb];rintro rfl;exact hm ha⟩) hs;refine⟨r::u,by rw[e,dx];rfl,⟨?_,fun i q hi=> ?_,?_⟩⟩
   ·have:=hv.len;simp at this⊢;omega
   ·match i,hi with
    |0,hi=>cases aI hi;exact hr
    |i+1,hi=>
     have:=hv.mem i q (by simpa using hi);rw[aO]at this;rw[show t.length+(i+1)=t.length+[r].length+i by simp;omega];exact this
   ·have:=hv.nd;rw[dx]at this;exact this
theorem mj {α β:Type}(f:α->Option β): ∀l:List α,(l.findSome? f=none/\ ∀x∈l,f x=none)\/ ∃pre x post y,l=pre++x::post/\(∀z∈pre,f z=none)/\f x=some y/\l.findSome? f=some y
 |[]=> .inl ⟨rfl,fun x hx=>by cases hx⟩
 |x::l=>by
  cases hx:f x with
  |some y=>exact .inr ⟨[],x,l,y,rfl,(fun z hz=>by cases hz),hx,by rw[List.findSome?_cons,hx]⟩
  |none=>
   rcases mj f l with⟨h1,h2⟩|⟨pre,z,post,y,h1,h2,h3,h4⟩
   ·refine .inl ⟨by rw[List.findSome?_cons,hx];exact h1,fun z hz=> ?_⟩;rcases bp.1 hz with rfl|hz
    ·exact hx
    ·exact h2 z hz
   ·refine .inr ⟨x::pre,z,post,y,by rw[h1];rfl,fun q hq=> ?_,h3,by rw[List.findSome?_cons,hx];exact h4⟩;rcases bp.1 hq with rfl|hq
    ·exact hx
    ·exact h2 q hq
theorem qi {pools:List (List Int)}(hup: ∀p∈pools,p.Pairwise (· < ·)): ∀{k:Nat} {t:List Int},t.length+k=pools.length-> ∀u,Val pools t u-> ∃who,jk pools k t=some who/\qU who (t++u)=true
 |0,t,hk,u,hv=>by
  have hu:u=[]:=fO (by have:=hv.len;omega);subst hu;exact⟨t,rfl,by rw[eV];exact Bf t⟩
 |k+1,t,hk,u,hv=>by
  match u,hv with
  |[],hv=>have:=hv.len;simp at this;omega
  |r::u,hv=>
   have hr:r∈pools.getD t.length []:=hv.mem 0 r rfl
   have hrt:r∉t:=fun h=>by
    have:=(List.nodup_append.1 hv.nd).2.2 r h r bo;exact this rfl
   have hv':Val pools (t++[r]) u:=by
    refine⟨?_,fun i q hi=> ?_,?_⟩
    ·have:=hv.len;simp at this⊢;omega
    ·have:=hv.mem (i+1) q (by simpa using hi);rw[show t.length+(i+1)=(t++[r]).length+i by simp;omega]at this;exact this
    ·rw[dx];exact hv.nd
   obtain⟨who1,e1,l1⟩:=qi hup (k:=k) (t:=t++[r]) (by simp;omega) u hv'
   have hf:(if r∈t then none else jk pools k (t++[r]))=some who1:=by
    rw[aw hrt];exact e1
   rcases mj (fun q=>if q∈t then none else jk pools k (t++[q])) (pools.getD t.length []) with⟨_,h2⟩|⟨pre,x,post,y,h1,h2,h3,h4⟩
   ·have:=h2 r hr;rw[hf]at this;cases this
   ·refine⟨y,by rw[jk];exact h4,?_⟩;by_cases hxr:x=r
    ·subst hxr;rw[hf]at h3;cases aI h3;rw[dx]at l1;exact l1
    ·have hlt:x<r:=by
      rw[h1]at hr;rcases cY.1 hr with hp|hp
      ·have:=h2 r hp;rw[hf]at this;cases this
      ·rcases bp.1 hp with e|hp
       ·exact absurd e.symm hxr
       ·have hpw:(pools.getD t.length []).Pairwise (· < ·):=by
         cases hq:pools[t.length]? with
         |none=>simp[List.getD,hq]
         |some p=>
          have:pools.getD t.length []=p:=(by simp[List.getD,hq]);rw[this];exact hup p (aN hq)
        rw[h1,List.pairwise_append]at hpw;exact(List.pairwise_cons.1 hpw.2.1).1 r hp
     have hxt:x∉t:=fun hx=>by
      rw[ax hx]at h3;cases h3
     rw[aw hxt]at h3;have hnt:t.Nodup:=(List.nodup_append.1 hv.nd).1;obtain⟨u2,e2,_⟩:=sZ (k:=k) (t:=t++[x]) (by simp;omega) (List.nodup_append.2 ⟨hnt,by simp,fun a ha b hb=>by rw[cg.1 hb];rintro rfl;exact hxt ha⟩) h3;rw[e2,dx,Dt];exact Oi hlt _ _
theorem Du {n:Int}: ∀{l:List (Int×Int)} {last:Int},good last n l-> ∀s∈l,∀t∈l,t.1<=s.2->s.2<t.2->False
 |[],_,_,s,hs,_,_,_,_=>by cases hs
 |q::l,last,h,s,hs,t,ht,h1,h2=>by
  obtain⟨g1,g2,g3,g4⟩:=h;rcases bp.1 hs with es|hs'
  ·subst es;rcases bp.1 ht with et|ht'
   ·subst et;omega
   ·have:=qv g4 t ht';omega
  ·rcases bp.1 ht with et|ht'
   ·subst et;have:=qv g4 s hs';omega
   ·exact Du g4 s hs' t ht' h1 h2
theorem zQ (fs:List (Nat->Bool))(x y r:Int):okP fs x y r=true↔0<=x/\y<=1440/\x<=y/\ ∀i:Nat,x<=(i:Int)->(i:Int)<y->(fs.getD r.toNat fun _=>false) i=true:=J1 _ x y
theorem yJ (ok:Int->Bool)(roles:List (List Int))(i:Nat):(gJ ok roles).getD i []=(roles.getD i []).filter ok:=by
 unfold gJ;rw[dQ,dQ,bc];cases roles[i]? <;>rfl
theorem vy {s:Sv}{fs:List (Nat->Bool)}{x:Int}{who:List Int}:Fit s fs (x+s.bef) who↔Val (gJ (okP fs x (x+ko s)) s.roles) [] who:=by
 have e:x+s.bef-s.bef=x:=by omega
 constructor
 ·rintro⟨h1,h2,h3,h4⟩;rw[e]at h4;refine⟨by unfold gJ;rw[bf];simpa using h1,fun i r hi=> ?_,by simpa using h3⟩;rw[yJ,fF,bG,List.mem_filter];have hil:=(aD.1 hi).1;have hp:s.roles[i]? =some (s.roles[i]'(by omega)):=ay _;refine⟨?_,h4 r (aN hi)⟩;rw[show s.roles.getD i []=s.roles[i]'(by omega) by simp[List.getD,hp]];exact h2 i r _ hi hp
 ·rintro⟨h1,h2,h3⟩;have hl:who.length=s.roles.length:=(by unfold gJ at h1;rw[bf]at h1;simpa using h1)
  have h5: ∀(i:Nat) (r:Int),who[i]? =some r->r∈s.roles.getD i []/\okP fs x (x+ko s) r=true:=fun i r hi=>by
   have:=h2 i r hi;rwa[yJ,fF,bG,List.mem_filter]at this
  refine⟨hl,fun i r p hi hp=> ?_,by simpa using h3,fun r hr=> ?_⟩
  ·have:=(h5 i r hi).1;rwa[show s.roles.getD i []=p by simp[List.getD,hp]]at this
  ·obtain⟨i,hi,rfl⟩:=List.getElem_of_mem hr;rw[e];exact(h5 i _ (ay hi)).2
theorem xk {ok:Int->Bool}{s:Sv}{n:Int}(h:zC s n): ∀p∈gJ ok s.roles,p.Pairwise (· < ·):=fun p hp=>by
 unfold gJ at hp;rw[dM]at hp;obtain⟨q,hq,rfl⟩:=hp;exact(h.pool q hq).up.filter _
theorem zS {x:Int}{zs:List Int}(h:x∈zs):x∈Go.Lib.compact zs:=by
 have key: ∀n,n<=zs.length-> ∀j,j<n->zs.getD j 0∈Go.Lib.compactUpTo zs.toArray n:=by
  intro n;induction n with
  |zero=>intro _ j hj;omega
  |succ n ih=>
   intro hn j hj;rw[Go.Lib.compactUpTo_succ];by_cases e:j=n
   ·subst e;cases hk:Go.Lib.keeps zs.toArray j with
    |true=>
     rw[ax rfl,getElem!_pos _ j (by simpa using(by omega:j<zs.length))];simp[List.getD,ay (by omega:j<zs.length)]
    |false=>
     have h0:j≠0:=fun e=>(by subst e;simp[Go.Lib.keeps]at hk);have:=ih (by omega) (j-1) (by omega)
     have heq:zs.getD j 0=zs.getD (j-1) 0:=by
      have h1:j<zs.length:=(by omega);have h2:j-1<zs.length:=(by omega);simp[Go.Lib.keeps,h0]at hk;simp only[List.getD];exact hk
     rw[heq];exact fG _ this
   ·exact fG _ (ih (by omega) j (by omega))
 obtain⟨j,hj,rfl⟩:=List.getElem_of_mem h;have:=key zs.length (aA _) j hj;show _∈Go.Lib.compactUpTo _ _;simpa[List.getD,ay hj] using this
theorem Et (zs:List Int):(Go.Lib.compact zs).Sublist zs:=by
 have e:zs=(List.range zs.length).map (zs.toArray[·]!):=by
  apply List.ext_getElem (by simp);intro i h1 h2;simp[h1]
 unfold Go.Lib.compact Go.Lib.compactUpTo;conv=>rhs;rw[e]
 exact List.Sublist.map _ (List.filter_sublist)
theorem J2 (W:Int)(fs:List (Nat->Bool))(roles:List (List Int)):(gN W fs roles).Pairwise (· <= ·):=by
 have h:((oI W fs roles).mergeSort fun x y=>decide (x<=y)).Pairwise (fun a b=>decide (a<=b)=true):=List.pairwise_mergeSort (fun a b c h1 h2=>by simp at h1 h2⊢;omega) (fun a b=>by simp;omega) _;exact(h.imp (fun h=>eE h)).sublist (Et _)
theorem G3 {W x:Int}{fs:List (Nat->Bool)}{roles:List (List Int)}:x∈gN W fs roles↔ ∃p∈roles,∃r∈p,∃s∈rs (fs.getD r.toNat fun _=>false) 1440,W<=s.2-s.1/\s.1=x:=by
 have h0:x∈gN W fs roles↔x∈oI W fs roles:=⟨fun h=>List.mem_mergeSort.1 (vO h),fun h=>zS (List.mem_mergeSort.2 h)⟩
 rw[h0];unfold oI yd ua;simp only[List.mem_flatMap,dM,List.mem_filter,bq];constructor
 ·rintro⟨p,hp,r,hr,s,⟨hs,hw⟩,e⟩;exact⟨p,hp,r,hr,s,hs,hw,e⟩
 ·rintro⟨p,hp,r,hr,s,hs,hw,e⟩;exact⟨p,hp,r,hr,s,⟨hs,hw⟩,e⟩
theorem G4 {f:Nat->Bool}{x y:Int}(h0:0<=x)(hxy:x<y)(hy:y<=1440)(h: ∀i:Nat,x<=(i:Int)->(i:Int)<y->f i=true): ∃s∈rs f 1440,s.1<=x/\y<=s.2/\(0<=s.1/\s.2<=1440/\ ∀i:Nat,s.1<=(i:Int)->(i:Int)<s.2->f i=true):=by
 have hR:=zy f 1440
 have has: ∀i:Nat,i<1440->(f i=true↔ ∃s∈rs f 1440,s.1<=(i:Int)/\(i:Int)<s.2):=fun i hi=>by
  rw[<-hR.has i hi,List.any_eq_true];simp
 have hg:=qv hR.good
 have full: ∀s∈rs f 1440,0<=s.1/\s.2<=1440/\ ∀i:Nat,s.1<=(i:Int)->(i:Int)<s.2->f i=true:=fun s hs=>by
  obtain⟨g1,g2,g3⟩:=hg s hs;exact⟨by omega,g3,fun i h1 h2=>(has i (by omega)).2 ⟨s,hs,h1,h2⟩⟩
 obtain⟨n,hn⟩: ∃n:Nat,x=(n:Int):=⟨x.toNat,by omega⟩
 obtain⟨s,hs,h1,h2⟩:=(has n (by omega)).1 (h n (by omega) (by omega));refine⟨s,hs,by omega,?_,full s hs⟩;refine jI fun hlt=> ?_;obtain⟨g1,g2,g3⟩:=hg s hs;obtain⟨m,hm⟩: ∃m:Nat,s.2=(m:Int):=⟨s.2.toNat,by omega⟩
 obtain⟨t,ht,t1,t2⟩:=(has m (by omega)).1 (h m (by omega) (by omega));exact Du hR.good s hs t ht (by omega) (by omega)
theorem Bg {s:Sv}{n:Int}{fs:List (Nat->Bool)}{x:Int}{who:List Int}(hS:zC s n)(h:Fit s fs (x+s.bef) who): ∃p∈gN (ko s) fs s.roles,p<=x/\Fit s fs (p+s.bef) who:=by
 have hme:=hS.meas;unfold jw at hme;have hme:=eE hme;have hW:1<=ko s:=by unfold ko;omega
 have ex: ∀(l:List Int),(∀r∈l,∃t∈rs (fs.getD r.toNat fun _=>false) 1440,t.1<=x/\x+ko s<=t.2/\(0<=t.1/\t.2<=1440/\ ∀i:Nat,t.1<=(i:Int)->(i:Int)<t.2->(fs.getD r.toNat fun _=>false) i=true))->l≠[]->
   ∃p,p<=x/\0<=p/\(∃r∈l,∃t∈rs (fs.getD r.toNat fun _=>false) 1440,ko s<=t.2-t.1/\t.1=p)/\ ∀r∈l,∃t:Int×Int,t.1<=p/\x+ko s<=t.2/\t.2<=1440/\ ∀i:Nat,t.1<=(i:Int)->(i:Int)<t.2->(fs.getD r.toNat fun _=>false) i=true:=by
  intro l;induction l with
  |nil=>intro _ h;exact absurd rfl h
  |cons r l ih=>
   intro hl _;obtain⟨t,ht,t1,t2,t3,t4,t5⟩:=hl r bo;by_cases hn:l=[]
   ·subst hn;refine⟨t.1,t1,t3,⟨r,bo,t,ht,by omega,rfl⟩,fun q hq=> ?_⟩;rw[cg.1 hq];exact⟨t,fJ _,t2,t4,t5⟩
   ·obtain⟨p,p1,p2,⟨r0,hr0,t0,ht0,w0,e0⟩,p4⟩:=ih (fun q hq=>hl q (bx _ hq)) hn;by_cases hle:t.1<=p
    ·refine⟨p,p1,p2,⟨r0,bx _ hr0,t0,ht0,w0,e0⟩,fun q hq=> ?_⟩;rcases bp.1 hq with rfl|hq
     ·exact⟨t,hle,t2,t4,t5⟩
     ·exact p4 q hq
    ·refine⟨t.1,t1,t3,⟨r,bo,t,ht,by omega,rfl⟩,fun q hq=> ?_⟩;rcases bp.1 hq with rfl|hq
     ·exact⟨t,fJ _,t2,t4,t5⟩
     ·obtain⟨u,u1,u2,u4,u5⟩:=p4 q hq;exact⟨u,by omega,u2,u4,u5⟩
 have hwl:=h.len;have hr1:=hS.r1;have hwn:who≠[]:=fun e=>by rw[e]at hwl;simp at hwl;omega
 obtain⟨p,p1,p2,⟨r,hr,t,ht,w0,e0⟩,p4⟩:=ex who (fun r hr=>by
  have:=(zQ _ _ _ _).1 (h.ok r hr);rw[show x+s.bef-s.bef=x by omega]at this;exact G4 this.1 (by omega) this.2.1 this.2.2.2) hwn
 refine⟨p,?_,p1,⟨h.len,h.mem,h.nd,fun r hr=>by
  rw[show p+s.bef-s.bef=p by omega,zQ];obtain⟨t,t1,t2,t4,t5⟩:=p4 r hr;exact⟨p2,by omega,by omega,fun i h1 h2=>t5 i (by omega) (by omega)⟩⟩⟩
 obtain⟨i,hi,rfl⟩:=List.getElem_of_mem hr;have hp:s.roles[i]? =some (s.roles[i]'(by omega)):=ay _;exact G3.2 ⟨_,aN hp,_,h.mem i _ _ (ay hi) hp,t,ht,w0,e0⟩
theorem G5 {s:Sv}{n:Int}{fs:List (Nat->Bool)}(hS:zC s n){m:Int}{who:List Int}(h:iU s.len s.bef s.aft s.roles fs=some (m,who)):Fit s fs m who/\ ∀m' who',Fit s fs m' who'->m<m'\/m=m'/\qU who who'=true:=by
 unfold iU at h;have hW:s.bef+s.len+s.aft=ko s:=rfl;rcases mj (rK s.len s.bef s.aft s.roles fs) (gN (s.bef+s.len+s.aft) fs s.roles) with⟨h1,_⟩|⟨pre,x,post,y,h1,h2,h3,h4⟩
 ·rw[h1]at h;cases h
 ·rw[h4]at h;cases aI h;unfold rK at h3;rw[hW]at h3;cases hp:jk (gJ (okP fs x (x+ko s)) s.roles) s.roles.length [] with
  |none=>rw[hp]at h3;cases h3
  |some w0=>
   rw[hp]at h3;have h3':=aI h3;have e1:x+s.bef=m:=congrArg Prod.fst h3';have e2:w0=who:=congrArg Prod.snd h3';subst e1 e2;have hfl:(gJ (okP fs x (x+ko s)) s.roles).length=s.roles.length:=(by unfold gJ;rw[bf]);obtain⟨u,eu,hv⟩:=sZ (by rw[hfl];simp) (by simp) hp;rw[List.nil_append]at eu;subst eu;refine⟨vy.2 hv,fun m' who' hf=> ?_⟩;obtain⟨x',rfl⟩: ∃x',m'=x'+s.bef:=⟨m'-s.bef,by omega⟩
   obtain⟨p,hpp,hpx,hfp⟩:=Bg hS hf
   have hxp:x<=p:=by
    rw[<-hW,h1]at hpp;rcases cY.1 hpp with hq|hq
    ·exfalso;have:=h2 p hq;unfold rK at this;rw[hW]at this;obtain⟨w1,e1,_⟩:=qi (xk hS) (k:=s.roles.length) (t:=[]) (by unfold gJ;rw[bf];simp) who' (vy.1 hfp);rw[e1]at this;cases this
    ·rcases bp.1 hq with rfl|hq
     ·exact fJ _
     ·have hup:=J2 (s.bef+s.len+s.aft) fs s.roles;rw[h1,List.pairwise_append]at hup;exact(List.pairwise_cons.1 hup.2.1).1 p hq
   by_cases hlt:x<x'
   ·exact .inl (by omega)
   ·have hx:x=x':=(by omega);subst hx;refine .inr ⟨rfl,?_⟩;obtain⟨w1,e1,l1⟩:=qi (xk hS) (k:=s.roles.length) (t:=[]) (by unfold gJ;rw[bf];simp) who' (vy.1 hf);rw[hp]at e1;cases aI e1;simpa using l1
theorem yK {s:Sv}{n:Int}{fs:List (Nat->Bool)}(hS:zC s n)(h:iU s.len s.bef s.aft s.roles fs=none)(m:Int)(who:List Int): ¬Fit s fs m who:=fun hf=>by
 unfold iU at h;obtain⟨x,rfl⟩: ∃x,m=x+s.bef:=⟨m-s.bef,by omega⟩
 obtain⟨p,hpp,hpx,hfp⟩:=Bg hS hf;have hW:s.bef+s.len+s.aft=ko s:=rfl;rcases mj (rK s.len s.bef s.aft s.roles fs) (gN (s.bef+s.len+s.aft) fs s.roles) with⟨_,h2⟩|⟨_,_,_,_,_,_,_,h4⟩
 ·have:=h2 p (by rw[hW];exact hpp);unfold rK at this;rw[hW]at this;obtain⟨w1,e1,_⟩:=qi (xk hS) (k:=s.roles.length) (t:=[]) (by unfold gJ;rw[bf];simp) who (vy.1 hfp);rw[e1]at this;cases this
 ·rw[h4]at h;cases h
def Dv (roles:List (List Int))(fs:List (Nat->Bool))(x y:Int):List Int->Nat->List Int->Bool
 |[],_,_=>true
 |r::l,i,had=>if r∉roles.getD i []\/r∈had\/okP fs x y r=false then false else Dv roles fs x y l (i+1) (addN had r)
def oF (s:Sv)(ds:List (List (Nat->Bool)))(day min:Int)(who:List Int):Bool:=if day<0\/(ds.length:Int)<=day\/who.length≠s.roles.length then false else Dv s.roles (ds.getD day.toNat []) (min-s.bef) (min+s.len+s.aft) who 0 []
theorem Dw {roles:List (List Int)}{fs:List (Nat->Bool)}{x y:Int}: ∀{l:List Int} {i:Nat} {had:List Int},Dv roles fs x y l i had=true↔(∀(k:Nat) (r:Int),l[k]? =some r->r∈roles.getD (i+k) [])/\(∀r∈l,r∉had)/\l.Nodup/\ ∀r∈l,okP fs x y r=true
 |[],i,had=>by simp[Dv]
 |r::l,i,had=>by
  rw[Dv];by_cases h:r∉roles.getD i []\/r∈had\/okP fs x y r=false
  ·rw[ax h];constructor
   ·intro h;cases h
   ·rintro⟨h1,h2,_,h4⟩;exfalso;rcases h with h|h|h
    ·exact h (h1 0 r rfl)
    ·exact h2 r bo h
    ·rw[h4 r bo]at h;cases h
  ·rw[aw h,Dw];have h1:r∈roles.getD i []:=Classical.not_not.1 fun e=>h (.inl e);have h2:r∉had:=fun e=>h (.inr (.inl e))
   have h3:okP fs x y r=true:=by
    cases hk:okP fs x y r with
    |true=>rfl
    |false=>exact absurd (.inr (.inr hk)) h
   constructor
   ·rintro⟨q1,q2,q3,q4⟩;refine⟨fun k u hk=> ?_,fun u hu=> ?_,List.nodup_cons.2 ⟨fun hm=> ?_,q3⟩,fun u hu=> ?_⟩
    ·match k,hk with
     |0,hk=>cases aI hk;exact h1
     |k+1,hk=>
      have:=q1 k u (by simpa using hk);rw[show i+(k+1)=i+1+k by omega];exact this
    ·rcases bp.1 hu with rfl|hu
     ·exact h2
     ·exact fun e=>q2 u hu ((qH _ _ _).2 (.inl e))
    ·exact q2 r hm ((qH _ _ _).2 (.inr rfl))
    ·rcases bp.1 hu with rfl|hu
     ·exact h3
     ·exact q4 u hu
   ·rintro⟨q1,q2,q3,q4⟩;refine⟨fun k u hk=> ?_,fun u hu e=> ?_,(List.nodup_cons.1 q3).2,fun u hu=>q4 u (bx _ hu)⟩
    ·have:=q1 (k+1) u (by simpa using hk);rw[show i+1+k=i+(k+1) by omega];exact this
    ·rcases(qH _ _ _).1 e with e|rfl
     ·exact q2 u (bx _ hu) e
     ·exact(List.nodup_cons.1 q3).1 hu
theorem mI {s:Sv}{ds:List (List (Nat->Bool))}{day min:Int}{who:List Int}:oF s ds day min who=true↔ ∃(d:Nat) (fs:List (Nat->Bool)),day=(d:Int)/\ds[d]? =some fs/\Fit s fs min who:=by
 unfold oF;by_cases h:day<0\/(ds.length:Int)<=day\/who.length≠s.roles.length
 ·rw[ax h];constructor
  ·intro h;cases h
  ·rintro⟨d,fs,rfl,hd,hf⟩;exfalso;have h1:=(aD.1 hd).1;have h2:=hf.len;omega
 ·rw[aw h];obtain⟨d,hd⟩: ∃d:Nat,day=(d:Int):=⟨day.toNat,by omega⟩
  subst hd;have hl:who.length=s.roles.length:=Classical.not_not.1 fun e=>h (.inr (.inr e));have hdl:d<ds.length:=(by omega);have hds:ds[d]? =some (ds[d]'hdl):=ay hdl;have eg:ds.getD (Int.toNat (d:Int)) []=ds[d]'hdl:=(by simp[List.getD,hds]);have ey:min+s.len+s.aft=min-s.bef+ko s:=(by unfold ko;omega);rw[eg,ey,Dw];constructor
  ·rintro⟨q1,_,q3,q4⟩;refine⟨d,_,rfl,hds,hl,fun i r p h1 h2=> ?_,q3,q4⟩;have:=q1 i r h1;rwa[bG,show s.roles.getD i []=p by simp[List.getD,h2]]at this
  ·rintro⟨d',fs,e,hd',hf⟩;have:d'=d:=(by omega);subst this;rw[hds]at hd';cases aI hd';refine⟨fun i r h1=> ?_,(fun r _ e=>by cases e),hf.nd,hf.ok⟩;have hil:=(aD.1 h1).1;have hp:s.roles[i]? =some (s.roles[i]'(by omega)):=ay _;rw[bG,show s.roles.getD i []=s.roles[i]'(by omega) by simp[List.getD,hp]];exact hf.mem i r _ h1 hp
theorem Bh (p:List Int)(n:Int): ∀m i,k6 p n m i=0\/k6 p n m i=6\/k6 p n m i=2
 |0,_=> .inl rfl
 |m+1,i=>by
  rw[k6];by_cases c1:p.getD i 0<0\/n<=p.getD i 0
  ·rw[ax c1];exact .inr (.inl rfl)
  ·rw[aw c1];by_cases c2:0<i/\p.getD i 0<=p.getD (i-1) 0
   ·rw[ax c2];exact .inr (.inr rfl)
   ·rw[aw c2];exact Bh p n m (i+1)
theorem yL (n:Int): ∀l:List (List Int),0<=js n l/\js n l<=6
 |[]=>⟨fJ _,show(0:Int)<=6 by decide⟩
 |p::l=>by
  have hp:0<=gQ p n/\gQ p n<=6:=by
   unfold gQ;by_cases h:p.length<1\/8<p.length
   ·rw[ax h];decide
   ·rw[aw h];rcases Bh p n p.length 0 with h|h|h<;>rw[h]<;>decide
  rw[js];by_cases h:gQ p n≠0
  ·rw[ax h];exact hp
  ·rw[aw h];exact yL n l
theorem G6 (s:Sv)(n:Int):0<=eW s n/\eW s n<=6:=by
 unfold eW;by_cases h1:jw s.len s.bef s.aft=false
 ·rw[ax h1];decide
 ·rw[aw h1];by_cases h2:s.roles.length<1\/4<s.roles.length
  ·rw[ax h2];decide
  ·rw[aw h2];exact yL n _
theorem Bi (s:Sv): ∀l:List (List (Nat->Bool)),0<=iN s l/\iN s l<=6
 |[]=>⟨fJ _,show(0:Int)<=6 by decide⟩
 |d::l=>by
  rw[iN];by_cases h:eW s d.length≠0
  ·rw[ax h];exact G6 s _
  ·rw[aw h];exact Bi s l
theorem yM {s:Sv}: ∀{l:List (List (Nat->Bool))} {n:Nat} {x:Nat×Int×List Int},jV s l n=some x-> ∃(k:Nat) (fs:List (Nat->Bool)),x.1=n+k/\l[k]? =some fs/\iU s.len s.bef s.aft s.roles fs=some (x.2.1,x.2.2)/\ ∀(j:Nat) (gs:List (Nat->Bool)),j<k->l[j]? =some gs->iU s.len s.bef s.aft s.roles gs=none
 |[],n,x,h=>by cases h
 |d::l,n,x,h=>by
  rw[jV]at h;cases hp:iU s.len s.bef s.aft s.roles d with
  |some y=>
   rw[hp]at h;cases aI h;exact⟨0,d,rfl,rfl,hp,fun j gs hj _=>by omega⟩
  |none=>
   rw[hp]at h;obtain⟨k,fs,e1,e2,e3,e4⟩:=yM h;refine⟨k+1,fs,by omega,by simpa using e2,e3,fun j gs hj hg=> ?_⟩;match j,hg with
   |0,hg=>cases aI hg;exact hp
   |j+1,hg=>exact e4 j gs (by omega) (by simpa using hg)
theorem yN {s:Sv}: ∀{l:List (List (Nat->Bool))} {n:Nat},jV s l n=none-> ∀fs∈l,iU s.len s.bef s.aft s.roles fs=none
 |[],_,_,fs,hf=>by cases hf
 |d::l,n,h,fs,hf=>by
  rw[jV]at h;cases hp:iU s.len s.bef s.aft s.roles d with
  |some y=>rw[hp]at h;cases h
  |none=>
   rw[hp]at h;rcases bp.1 hf with rfl|hf
   ·exact hp
   ·exact yN h fs hf
theorem J3 {s:Sv}{ds:List (List (Nat->Bool))}(h:(findP s ds).err=0):ds.length<=30/\iN s ds=0/\ ∃(d:Nat) (fs:List (Nat->Bool)),(findP s ds).day=(d:Int)/\ds[d]? =some fs/\iU s.len s.bef s.aft s.roles fs=some ((findP s ds).min,(findP s ds).who)/\ ∀(j:Nat) (gs:List (Nat->Bool)),j<d->ds[j]? =some gs->iU s.len s.bef s.aft s.roles gs=none:=by
 unfold findP at h⊢;by_cases h1:30<ds.length
 ·rw[ax h1]at h;cases h
 ·rw[aw h1]at h⊢;by_cases h2:iN s ds≠0
  ·rw[ax h2]at h;exact absurd h h2
  ·rw[aw h2]at h⊢;have h2':iN s ds=0:=Classical.not_not.1 h2;cases hd:jV s ds 0 with
   |none=>rw[hd]at h;cases h
   |some x=>
    obtain⟨k,fs,e1,e2,e3,e4⟩:=yM hd;exact⟨by omega,h2',k,fs,by show((x.1:Nat):Int)=_;omega,e2,e3,e4⟩
theorem J4 {s:Sv}{ds:List (List (Nat->Bool))}(h:(findP s ds).err=11):ds.length<=30/\iN s ds=0/\ ∀fs∈ds,iU s.len s.bef s.aft s.roles fs=none:=by
 unfold findP at h;by_cases h1:30<ds.length
 ·rw[ax h1]at h;cases h
 ·rw[aw h1]at h;by_cases h2:iN s ds≠0
  ·rw[ax h2]at h;have:=Bi s ds;dsimp only at h;omega
  ·rw[aw h2]at h;have h2':iN s ds=0:=Classical.not_not.1 h2;cases hd:jV s ds 0 with
   |none=>exact⟨by omega,h2',yN hd⟩
   |some x=>rw[hd]at h;cases h
def SP (f:Nat->Bool)(len m:Int):Prop:=0<=m/\m+len<=1440/\ ∀i:Nat,m<=(i:Int)->(i:Int)<m+len->f i=true
def sv1 (len:Int):Sv:=⟨len,0,0,[[0]]⟩
theorem vz {len m:Int}{who:List Int}{f:Nat->Bool}(h1:1<=len):Fit (sv1 len) [f] m who↔who=[0]/\SP f len m:=by
 have ew:ko (sv1 len)=len:=by show 0+len+0=len;omega
 have ok:okP [f] (m-(sv1 len).bef) (m-(sv1 len).bef+ko (sv1 len)) 0=true↔SP f len m:=by
  rw[zQ,ew,show m-(sv1 len).bef=m from Int.sub_zero m];exact⟨fun⟨a,b,_,d⟩=>⟨a,b,d⟩,fun⟨a,b,d⟩=>⟨a,b,by omega,d⟩⟩
 constructor
 ·rintro⟨h2,h3,_,h5⟩;match who,h2 with
  |[r],_=>
   have hr:r=0:=(by simpa using h3 0 r [0] rfl rfl);subst hr;exact⟨rfl,ok.1 (h5 0 (by simp))⟩
 ·rintro⟨rfl,h⟩;refine⟨rfl,fun i r p hi hp=> ?_,by simp,fun r hr=> ?_⟩
  ·match i,hi,hp with
   |0,hi,hp=>cases hi;cases hp;simp
  ·cases cg.1 hr;exact ok.2 h
theorem Dx {len:Int}(h:1<=len/\len<=1440): ∀{ds:List (List (Nat->Bool))},(∀fs∈ds,∃f,fs=[f])->iN (sv1 len) ds=0
 |[],_=>rfl
 |fs::ds,hd=>by
  obtain⟨f,rfl⟩:=hd fs bo
  have e:eW (sv1 len) (([f]:List (Nat->Bool)).length:Int)=0:=by
   have hm:jw len 0 0=true:=a6 (by omega);show(if jw len 0 0=false then 3 else _)=_;rw[hm];rfl
  rw[iN,e,aw (by simp)];exact Dx h fun fs hf=>hd fs (bx _ hf)
theorem L2 {len:Int}(h:1<=len/\len<=1440){ds:List (List (Nat->Bool))}(h30:ds.length<=30)(hd: ∀fs∈ds,∃f,fs=[f]):
  (∃(d:Nat) (m:Int) (f:Nat->Bool),findP (sv1 len) ds=⟨0,d,m,[0]⟩/\ds[d]? =some [f]/\SP f len m/\(∀m',SP f len m'->m<=m')/\ ∀(j:Nat) g,j<d->ds[j]? =some [g]-> ∀m',¬SP g len m')\/((findP (sv1 len) ds).err=11/\ ∀g,[g]∈ds-> ∀m',¬SP g len m'):=by
 have hz:=Dx h hd;have hok: ∀fs∈ds,zC (sv1 len) fs.length:=fun fs hf=>C0 (wz hz fs hf);by_cases he:(findP (sv1 len) ds).err=0
 ·obtain⟨_,_,d,fs,e1,e2,e3,e4⟩:=J3 he;have hm:=aN e2;obtain⟨f,rfl⟩:=hd fs hm;obtain⟨f1,f2⟩:=G5 (hok _ hm) e3;obtain⟨g1,g2⟩:=(vz h.1).1 f1;refine .inl ⟨d,(findP (sv1 len) ds).min,f,?_,e2,g2,fun m' hm'=> ?_,fun j g hj hg m' hm'=> ?_⟩
  ·generalize findP (sv1 len) ds=q at*;cases q;dsimp only at he e1 g1;rw[he,e1,g1]
  ·rcases f2 m' [0] ((vz h.1).2 ⟨rfl,hm'⟩) with q|⟨q,_⟩<;>omega
  ·exact yK (hok _ (aN hg)) (e4 j _ hj hg) m' [0] ((vz h.1).2 ⟨rfl,hm'⟩)
 ·have e11:(findP (sv1 len) ds).err=11:=by
   unfold findP at he⊢;rw[aw (by omega),aw (by rw[hz];simp)]at he⊢;split at he
   ·exact absurd rfl he
   ·rfl
  obtain⟨_,_,e3⟩:=J4 e11;exact .inr ⟨e11,fun g hg m' hm'=>yK (hok _ hg) (e3 _ hg) m' [0] ((vz h.1).2 ⟨rfl,hm'⟩)⟩
def c1 (L:List Ru)(len:Int)(aps:List Ap):Co:=⟨L,[[97]],[sv1 len],aps⟩
theorem Fl (L:List Ru)(len:Int)(aps:List Ap)(day:Int): ∀n i:Nat,lZ (c1 L len aps) (sv1 len) day n i=(List.range' i n).map fun(k:Nat)=>[fS (c1 L len aps) 0 (day+(k:Int)) (-1)]
 |0,_=>rfl
 |n+1,i=>by
  rw[List.range'_succ,bV,<-Fl L len aps day n (i+1)];rfl
theorem lC {f:Nat->Bool}{len m:Int}:SP (pg f (inl [])) len m↔SP f len m:=by
 have e: ∀i:Nat,i<1440->pg f (inl []) i=f i:=fun i hi=>by
  unfold pg;rw[a6 hi];simp[inl]
 exact⟨fun⟨a,b,c⟩=>⟨a,b,fun i h1 h2=>by rw[<-e i (by omega)];exact c i h1 h2⟩,fun⟨a,b,c⟩=>⟨a,b,fun i h1 h2=>by rw[e i (by omega)];exact c i h1 h2⟩⟩
def cR (t:List UInt8):Cm:=⟨1,0,0,0,t,[],sv0,0,0,[]⟩
def cAd:Cm:=⟨2,0,0,0,[],[97],sv0,0,0,[]⟩
def cS (s:Sv):Cm:=⟨3,0,0,0,[],[],s,0,0,[]⟩
def cF (n day days:Int):Cm:=⟨4,n,day,days,[],[],sv0,0,0,[]⟩
theorem uB (L:List Ru){len:Int}(aps:List Ap)(h:1<=len/\len<=1440){day:Int}{days:Nat}(h0:0<=day)(h1:day+days<=146097)(hd:1<=days/\days<=30):
  (ph (c1 L len aps) 0 day days).2=c1 L len aps/\((∃(d:Nat) (m:Int),d<days/\(ph (c1 L len aps) 0 day days).1=⟨0,0,d+day,m,[0],[]⟩/\SP (fS (c1 L len aps) 0 (day+d) (-1)) len m/\(∀m',SP (fS (c1 L len aps) 0 (day+d) (-1)) len m'->m<=m')/\ ∀j:Nat,j<d-> ∀m',¬SP (fS (c1 L len aps) 0 (day+j) (-1)) len m')\/((ph (c1 L len aps) 0 day days).1=noA 11/\ ∀j:Nat,j<days-> ∀m',¬SP (fS (c1 L len aps) 0 (day+j) (-1)) len m')):=by
 have hw:=Fl L len aps day days 0
 have hat: ∀j:Nat,j<days->(lZ (c1 L len aps) (sv1 len) day days 0)[j]? =some [fS (c1 L len aps) 0 (day+(j:Int)) (-1)]:=fun j hj=>by
  rw[hw,bc,List.getElem?_range' hj];simp
 have hl:(lZ (c1 L len aps) (sv1 len) day days 0).length=days:=by rw[hw];simp
 have eF:ph (c1 L len aps) 0 day days=if(findP (sv1 len) (lZ (c1 L len aps) (sv1 len) day days 0)).err≠0 then(noA (findP (sv1 len) (lZ (c1 L len aps) (sv1 len) day days 0)).err,c1 L len aps) else(⟨0,0,(findP (sv1 len) (lZ (c1 L len aps) (sv1 len) day days 0)).day+day,(findP (sv1 len) (lZ (c1 L len aps) (sv1 len) day days 0)).min,(findP (sv1 len) (lZ (c1 L len aps) (sv1 len) day days 0)).who,[]⟩,c1 L len aps):=by
  have i1: ¬isN 0 (c1 L len aps).svs.length=false:=(by show¬isN 0 1=false;decide)
  have i2: ¬(isN day 146097=false\/(days:Int)<1\/30<(days:Int)\/146097<day+days):=by
   rintro(q|q|q|q)
   ·simp[isN]at q;omega
   all_goals omega
  unfold ph;rw[aw i1,aw i2];rfl
 rw[eF]
 rcases L2 h (ds:=lZ (c1 L len aps) (sv1 len) day days 0) (by omega) (fun fs hf=>by
  rw[hw]at hf;obtain⟨k,_,rfl⟩:=dM.1 hf;exact⟨_,rfl⟩) with⟨d,m,f,e,e1,e2,e3,e4⟩|⟨e,e1⟩
 ·have hdl:d<days:=by rw[<-hl];exact(aD.1 e1).1
  rw[hat d hdl]at e1;cases aI e1;rw[e,aw (fun c=>c rfl)];exact⟨rfl,.inl ⟨d,m,hdl,rfl,e2,e3,fun j hj m'=>e4 j _ hj (hat j (by omega)) m'⟩⟩
 ·rw[e,ax (by decide)];exact⟨rfl,.inr ⟨rfl,fun j hj m'=>e1 _ (aN (hat j hj)) m'⟩⟩
theorem L3 {t:List UInt8}{L:List Ru}(h:fN t=(0,L))(ha:0<=atP5 L [97]){len:Int}(hl:1<=len/\len<=1440):jK co0 [cR t,cAd,cS (sv1 len)]=([noA 0,lH 0,lH 0],c1 L len []):=by
 have e1:doS co0 (cR t)=(noA 0,⟨L,[],[],[]⟩):=by
  show JW co0 (fN t)=_;rw[h];rfl
 have e2:doS ⟨L,[],[],[]⟩ cAd=(lH 0,⟨L,[[97]],[],[]⟩):=by
  show LY ⟨L,[],[],[]⟩ [97]=_;unfold LY;rw[aw (by show¬12<=0;decide),aw (by show¬atP5 L [97]<0;omega)];rfl
 have e3:doS ⟨L,[[97]],[],[]⟩ (cS (sv1 len))=(lH 0,c1 L len []):=by
  have hm:jw len 0 0=true:=a6 (by omega)
  have hw:eW (sv1 len) (([[97]]:List (List UInt8)).length:Int)=0:=by
   show(if jw len 0 0=false then 3 else _)=_;rw[hm];rfl
  show LZ ⟨L,[[97]],[],[]⟩ (sv1 len)=_;unfold LZ;rw[aw (by show¬8<=0;decide),aw (by rw[hw];simp)];rfl
 simp only[jK,e1,e2,e3]
theorem xl {L:List Ru}{k:Nat}(ha:atP5 L [97]=(k:Int))(len day:Int):fS (c1 L len []) 0 day (-1)=pg (meanP L (wkB day) day k) (inl []):=by
 have:mS (c1 L len []) 0 day=meanP L (wkB day) day k:=by
  show(if atP5 L [97]<0 then noM else meanP L (wkB day) day (atP5 L [97]).toNat)=_;rw[ha,aw (by omega),cj]
 unfold fS;rw[this];rfl
end Go.Proofs.YtjkilacmkbmmbaaGreatDoor
