/- Texts of the proof. -/
import Derived.Test.YtkfidffapdhbhaaGreatDoorPk33
open Go.Proofs.Tryz
set_option maxRecDepth 100000
set_option maxHeartbeats 8000000
namespace Go.Proofs.YtkfidffapdhbhaaGreatDoor
section
open Lx Vx Mx Msk
structure Co where
 rules:List Ru
 res:List (List UInt8)
 svs:List Sv
 aps:List Ap
def coD (d:Dk):Co:=⟨d.rules,d.res,d.svs,d.aps⟩
def mS (c:Co)(r day:Int):M:=if atP5 c.rules (c.res.getD r.toNat [])<0 then noM else gY c.rules (wkB day) day (atP5 c.rules (c.res.getD r.toNat [])).toNat
def fS (c:Co)(r day but:Int):M:=r0 (mS c r day) (inl (kb r day but c.aps 0))
def jI (c:Co)(n:Int)(a:Ap)(day min:Int)(who:List Int):Ap×Int:=
 if isN day 146097=false\/isN min 1440=false then(ap0,3) else
 if min-a.bef<0\/1440<min+a.len+a.aft then(ap0,3) else
 if jH who (c.svs.getD a.sv.toNat sv0).roles≠0 then(ap0,jH who (c.svs.getD a.sv.toNat sv0).roles) else
 if(who.any fun r=> !gO (fS c r day n) (min-a.bef) (min+a.len+a.aft))=true then(ap0,10) else({a with fr:=min-a.bef,to:=min+a.len+a.aft,day:=day,min:=min,who:=who},0)
def tB (c:Co)(n:Int):Ap:=⟨1,10,0,0,n,(c.svs.getD n.toNat sv0).bef,(c.svs.getD n.toNat sv0).aft,(c.svs.getD n.toNat sv0).len,0,0,[]⟩
def JX (c:Co)(n day min:Int)(who:List Int):An×Co:=
 if isN n c.svs.length=false then(noA 6,c) else
 if 30<=c.aps.length then(noA 5,c) else
 if(jI c (-1) (tB c n) day min who).2≠0 then(noA (jI c (-1) (tB c n) day min who).2,c) else(iW c.aps.length,{c with aps:=c.aps++[(jI c (-1) (tB c n) day min who).1]})
def nU (c:Co)(n:Int)(f:Ap->Ap×Int):An×Co:=
 if isN n c.aps.length=false\/(c.aps.getD n.toNat ap0).st=3 then(noA 6,c) else
 if(f (c.aps.getD n.toNat ap0)).2≠0 then(noA (f (c.aps.getD n.toNat ap0)).2,c) else(noA 0,{c with aps:=c.aps.set n.toNat (f (c.aps.getD n.toNat ap0)).1})
def JY (c:Co)(t:Int):An×Co:=if t<0\/1000<t then(noA 3,c) else(noA 0,{c with aps:=c.aps.map (g6 t)})
def M6 (c:Co)(name:List UInt8):An×Co:=
 if 12<=c.res.length then(noA 5,c) else if atP5 c.rules name<0 then(noA 7,c) else(iW c.res.length,{c with res:=c.res++[name]})
def M7 (c:Co)(s:Sv):An×Co:=
 if 8<=c.svs.length then(noA 5,c) else if fb s c.res.length≠0 then(noA (fb s c.res.length),c) else(iW c.svs.length,{c with svs:=c.svs++[s]})
def EZ (c:Co)(s:Sv)(day:Int):Nat->Nat->List M
 |0,_=>[]
 |m+1,r=>(if s.roles.any (fun p=>decide ((r:Int)∈p))=true then fS c r day (-1) else noM)::EZ c s day m (r+1)
def tC (c:Co)(s:Sv)(day:Int):Nat->Nat->List (List M)
 |0,_=>[]
 |m+1,i=>EZ c s (day+i) c.res.length 0::tC c s day m (i+1)
def JZ (c:Co)(n day days:Int):An×Co:=
 if isN n c.svs.length=false then(noA 6,c) else
 if isN day 146097=false\/days<1\/30<days\/146097<day+days then(noA 3,c) else
 if(gy (c.svs.getD n.toNat sv0) (tC c (c.svs.getD n.toNat sv0) day days.toNat 0)).err≠0 then(noA (gy (c.svs.getD n.toNat sv0) (tC c (c.svs.getD n.toNat sv0) day days.toNat 0)).err,c) else(⟨0,0,(gy (c.svs.getD n.toNat sv0) (tC c (c.svs.getD n.toNat sv0) day days.toNat 0)).day+day,(gy (c.svs.getD n.toNat sv0) (tC c (c.svs.getD n.toNat sv0) day days.toNat 0)).min,(gy (c.svs.getD n.toNat sv0) (tC c (c.svs.getD n.toNat sv0) day days.toNat 0)).who,[]⟩,c)
def tD (c:Co):List Ap->Nat->List Int
 |[],_=>[]
 |a::l,i=>if a.st≠3/\(a.who.any fun r=> !gO (mS c r a.day) a.fr a.to)=true then(i:Int)::tD c l (i+1) else tD c l (i+1)
def Ho (c:Co)(r:Int×List Ru):An×Co:=if r.1≠0 then(noA r.1,c) else(⟨0,0,0,0,[],tD {c with rules:=r.2} c.aps 0⟩,{c with rules:=r.2})
def doS (c:Co)(x:Cm):An×Co:=
 if x.kind=1 then Ho c (ia x.text) else
 if x.kind=2 then M6 c x.name else
 if x.kind=3 then M7 c x.sv else
 if x.kind=4 then JZ c x.n x.day x.days else
 if x.kind=5 then JX c x.n x.sday x.smin x.swho else
 if x.kind=6 then nU c x.n (fun a=>(eV a 2,0)) else
 if x.kind=7 then nU c x.n (fun a=>(eV a 3,0)) else
 if x.kind=8 then nU c x.n (fun a=>jI c x.n a x.sday x.smin x.swho) else
 if x.kind=9 then JY c x.days else(noA 1,c)
def qE:Co->List Cm->List An×Co
 |c,[]=>([],c)
 |c,x::l=>((doS c x).1::(qE (doS c x).2 l).1,(qE (doS c x).2 l).2)
def co0:Co:=⟨[],[],[],[]⟩
structure DI (d:Dk):Prop where
 flt:ie d.rules=(0,0)
 vl:d.vers.length=d.rules.length
 kv: ∀e∈d.kept,e.v<=d.given
 vg: ∀v∈d.vers,v<=d.given
 ki: ∀e∈d.kept,∀i:Nat,e.r=(i:Int)->d.vers[i]? =some e.v->e.m=gY d.rules (wkB e.d) e.d i
 ad: ∀a∈d.aps,0<=a.day/\a.day<146097
theorem BH {l:List Ru}(h:ie l=(0,0)){i:Nat}(hi:i<l.length){day:Int}(h0:0<=day)(h1:day<146097):(iL (eE l) (i:Int) day).1=0/\nz (eE l) (i:Int) day=gY l (wkB day) day i:=by
 have hf:(ie l).1=0:=by rw[h]
 have hw:=CC (Hm hf)
 have he:(iL (eE l) (i:Int) day).1=0:=by
  unfold iL;rw[hw,au (by simp),vB,au (by omega),au (by omega)]
 refine⟨he,?_⟩;unfold nz;rw[ay he,bV,LI];refine Dm (um hf).1 _ _ _ _ hi ?_;rw[vB];have:=yR l (i:Int);unfold muR;omega
theorem Jy {l:List Vx.Kp}{i:Int}{e:Vx.Kp}(h:e∈fI l i):e∈l:=by
 unfold fI at h;split at h
 ·rcases bT.1 h with h|h
  ·exact List.mem_of_mem_take h
  ·exact List.mem_of_mem_drop h
 ·exact h
theorem uo {l:List Vx.Kp}{i:Int}{e x:Vx.Kp}(h:x∈fI l i++[e]):x∈l\/x=e:=(bT.1 h).imp Jy dh.1
theorem BI {d:Dk}(h:DI d)(r:Int){day:Int}(h0:0<=day)(h1:day<146097):(eU d r day).1=mS (coD d) r day/\DI (eU d r day).2/\coD (eU d r day).2=coD d:=by
 have hb:=nt d.rules (d.res.getD r.toNat []);by_cases hk:atP5 d.rules (d.res.getD r.toNat [])<0
 ·have e:eU d r day=(noM,d):=ay hk;rw[e];exact⟨(ay hk).symm,h,rfl⟩
 ·obtain⟨i,ek⟩: ∃i:Nat,atP5 d.rules (d.res.getD r.toNat [])=(i:Int):=⟨(atP5 d.rules (d.res.getD r.toNat [])).toNat,by omega⟩
  have e:eU d r day=((iN (eE d.rules) d.kept d.runs (d.vers.getD i 0) (i:Int) day).m,{d with kept:=(iN (eE d.rules) d.kept d.runs (d.vers.getD i 0) (i:Int) day).l,runs:=(iN (eE d.rules) d.kept d.runs (d.vers.getD i 0) (i:Int) day).n}):=by
   unfold eU;dsimp only;rw[au hk,ek,bV]
  have e':mS (coD d) r day=gY d.rules (wkB day) day i:=by
   unfold mS coD;dsimp only;rw[au hk,ek,bV]
  rw[e,e'];rw[ek]at hb;clear e e' hk ek;have hi:i<d.rules.length:=(by omega);obtain⟨v,hv⟩: ∃v,d.vers[i]? =some v:=⟨d.vers[i]'(by rw[h.vl];exact hi),ax _⟩
  have hvd:d.vers.getD i 0=v:=(by simp[List.getD,hv]);obtain⟨he,hm⟩:=BH h.flt hi h0 h1;rw[hvd];unfold iN;by_cases hh:mE d.kept v (i:Int) day=true
  ·rw[ay hh];obtain⟨n,e,e1,e2,e3,e4,e5,e6⟩:=M1 hh;dsimp only;rw[e6];have hmem:=aK e2;have em:e.m=gY d.rules (wkB day) day i:=(by rw[<-e4];exact h.ki e hmem i e3 (by rw[e5];exact hv));refine⟨em,⟨h.flt,h.vl,fun x hx=> ?_,h.vg,fun x hx=> ?_,h.ad⟩,rfl⟩
   ·rcases uo hx with hx|rfl
    ·exact h.kv x hx
    ·exact h.kv _ hmem
   ·rcases uo hx with hx|rfl
    ·exact h.ki x hx
    ·exact h.ki _ hmem
  ·rw[au hh,au (fun c=>c he)];dsimp only;rw[hm];refine⟨rfl,⟨h.flt,h.vl,fun x hx=> ?_,h.vg,fun x hx=> ?_,h.ad⟩,rfl⟩
   ·rcases uo (List.mem_of_mem_drop hx) with hx|rfl
    ·exact h.kv x hx
    ·exact h.vg _ (aK hv)
   ·rcases uo (List.mem_of_mem_drop hx) with hx|rfl
    ·exact h.ki x hx
    ·intro j ej _
     have:j=i:=by
      have e:(i:Int)=(j:Int):=ej;omega
     subst this;rfl
def Ste (d:Dk)(d':Dk):Prop:=DI d'/\coD d'=coD d
theorem Dn {d:Dk}(h:DI d)(r but:Int){day:Int}(h0:0<=day)(h1:day<146097):(gZ d r day but).1=fS (coD d) r day but/\Ste d (gZ d r day but).2:=by
 obtain⟨a,b,c⟩:=BI h r h0 h1;exact⟨by unfold gZ fS;rw[a];rfl,b,c⟩
theorem BJ {f:Int->Dk->Bool×Dk}{g:Co->Int->Bool}(hf: ∀x d,DI d->(f x d).1=g (coD d) x/\Ste d (f x d).2): ∀(l:List Int) (d:Dk),DI d->(iX f l d).1=l.any (g (coD d))/\Ste d (iX f l d).2
 |[],d,h=>⟨rfl,h,rfl⟩
 |x::l,d,h=>by
  obtain⟨a,b,c⟩:=hf x d h;unfold iX;by_cases e:(f x d).1=true
  ·rw[ay e];refine⟨?_,b,c⟩;rw[List.any_cons,<-a,e];rfl
  ·rw[au e];obtain⟨a',b',c'⟩:=BJ hf l (f x d).2 b;refine⟨?_,b',c'.trans c⟩;rw[a',c,List.any_cons,<-a];simp[e]
theorem vC {d:Dk}(h:DI d)(n:Int)(a:Ap)(day min:Int)(who:List Int):(eJ d n a day min who).1=jI (coD d) n a day min who/\Ste d (eJ d n a day min who).2:=by
 unfold eJ jI;by_cases h1:isN day 146097=false\/isN min 1440=false
 ·rw[ay h1,ay h1];exact⟨rfl,h,rfl⟩
 rw[au h1,au h1];by_cases h2:min-a.bef<0\/1440<min+a.len+a.aft
 ·rw[ay h2,ay h2];exact⟨rfl,h,rfl⟩
 rw[au h2,au h2];show((if jH who (d.svs.getD a.sv.toNat sv0).roles≠0 then _ else _:(Ap×Int)×Dk).1=(if jH who (d.svs.getD a.sv.toNat sv0).roles≠0 then _ else _))/\_;by_cases h3:jH who (d.svs.getD a.sv.toNat sv0).roles≠0
 ·rw[ay h3,ay h3];exact⟨rfl,h,rfl⟩
 rw[au h3,au h3]
 have hd:0<=day/\day<146097:=by
  have:isN day 146097=true:=(by simpa using fun c=>h1 (.inl c));simpa[isN] using this
 obtain⟨p,q⟩:=BJ (g:=fun c r=> !gO (fS c r day n) (min-a.bef) (min+a.len+a.aft)) (f:=kh day n (min-a.bef) (min+a.len+a.aft)) (fun x d h=>by
  obtain⟨e1,e2⟩:=Dn h x n hd.1 hd.2;exact⟨by unfold kh;rw[e1],e2⟩) who d h
 dsimp only;rw[p];split
 ·exact⟨rfl,q⟩
 ·exact⟨rfl,q⟩
theorem BK (s:Sv){day:Int}(h0:0<=day)(h1:day<146097): ∀(m r:Nat) (d:Dk),DI d->(fJ s day m r d).1=EZ (coD d) s day m r/\Ste d (fJ s day m r d).2
 |0,_,d,h=>⟨rfl,h,rfl⟩
 |m+1,r,d,h=>by
  unfold fJ EZ;dsimp only;split
  ·obtain⟨a,b,c⟩:=Dn h (r:Int) (-1) h0 h1;obtain⟨a',b',c'⟩:=BK s h0 h1 m (r+1) _ b;exact⟨by rw[a,a',c],b',c'.trans c⟩
  ·obtain⟨a',b',c'⟩:=BK s h0 h1 m (r+1) d h;exact⟨by rw[a'],b',c'⟩
theorem Hp (s:Sv){day:Int}(h0:0<=day): ∀(m i:Nat) (d:Dk),DI d->day+i+m<=146097->(it s day m i d).1=tC (coD d) s day m i/\Ste d (it s day m i d).2
 |0,_,d,h,_=>⟨rfl,h,rfl⟩
 |m+1,i,d,h,hm=>by
  unfold it tC;dsimp only;obtain⟨a,b,c⟩:=BK s (day:=day+i) (by omega) (by omega) d.res.length 0 d h;obtain⟨a',b',c'⟩:=Hp s h0 m (i+1) _ b (by omega);exact⟨by rw[a,a',c];rfl,b',c'.trans c⟩
end
section
open Lx Vx Mx Msk
theorem BL: ∀(N:Nat) (a b:Ex),li N a b=true->a=b
 |0,_,_,h=>by cases h
 |N+1,a,b,h=>by
  unfold li at h;simp only[bv,bU,dr]at h;obtain⟨⟨⟨⟨h1,h2⟩,h3⟩,h4⟩,h5,h6⟩:=h;have hk:a.kids=b.kids:=List.ext_getElem h5 fun i hi hj=>BL N _ _ (h6 (a.kids[i],b.kids[i]) (List.mem_iff_getElem.2 ⟨i,by simp;omega,by simp⟩));cases a;cases b;simp only at h1 h2 h3 h4 hk;subst h1 h2 h3 h4 hk;rfl
theorem xV {old new:List Ru}{k:Nat}(h:iY old new (k:Int)=false): ∃u,old[k]? =some u/\new[k]? =some u:=by
 unfold iY at h;rw[bV]at h;cases ha:old[k]? with
 |none=>rw[ha]at h;cases h
 |some a=>
  cases hb:new[k]? with
  |none=>rw[ha,hb]at h;cases h
  |some b=>
   rw[ha,hb]at h;simp only[Bool.or_eq_false_iff,Bool.not_eq_false']at h;have h2:=h.2;unfold pg at h2;simp only[bv,bU]at h2;have:a=b:=Prod.ext h2.1 (BL _ _ _ h2.2);exact⟨a,rfl,by rw[this]⟩
theorem LJ {l:List Ru}(h:(dj l).1=0){k:Nat}{u:Ru}(hu:l[k]? =some u):atP5 l u.1=(k:Int):=by
 have h1:=(C6 h).1 k (aE.1 hu).1;unfold lk1 at h1;rw[hu]at h1;simpa using h1
theorem zo {L L':List Ru}(hc:(dj L).1=0)(hc':(dj L').1=0)(wk:Int->Bool)(day:Int): ∀(m i:Nat),muR L' i<m->i<L'.length->iY L L' (i:Int)=false->(∀k∈fP L' (i:Int),iY L L' k=false)->gY L wk day i=gY L' wk day i
 |0,_,h,_,_,_=>by omega
 |m+1,i,hm,hi,hn,hu=>by
  obtain⟨u,h1,h2⟩:=xV hn;rw[nK hc h1,nK hc' h2];refine mJ _ u.2 (az _) fun x hx=> ?_;obtain⟨q0,q1,_⟩:=rA hc' (aK h2) hx;obtain⟨k,ek⟩: ∃k:Nat,atP5 L' x=(k:Int):=⟨(atP5 L' x).toNat,by omega⟩
  have hl:=mK hc' h2 hx;rw[ek,bV]at hl;have hw:Lx.Way (fun a b=>(ip L' a).contains b) i k:=Relation.TransGen.single (by simpa using hl);have hkl:k<L'.length:=(by omega);have hku:(k:Int)∈fP L' (i:Int):=(me hc' hi).2 ⟨k,rfl,hkl,hw⟩;have hnk:=hu _ hku;obtain⟨v,v1,v2⟩:=xV hnk
  have hvx:v.1=x:=by
   obtain⟨v',e1,e2⟩:=F0 ek;rw[v2]at e1;cases e1;exact e2
  have eL:atP5 L x=(k:Int):=(by rw[<-hvx];exact LJ hc v1);rw[eL,ek,bV];refine zo hc hc' wk day m k (by have:=ru hc' hi hl;omega) hkl hnk fun j hj=>hu j ?_;obtain⟨j',e,hjl,hjw⟩:=(me hc' hkl).1 hj;exact(me hc' hi).2 ⟨j',e,hjl,hw.trans hjw⟩
theorem LK {t:List UInt8}(h:(ia t).1=0):ie (ia t).2=(0,0):=by
 unfold ia at h⊢;split at h
 ·rename_i h1;exact absurd h h1
 ·rename_i h1;rw[au h1];exact zk h
structure DJ (d:Dk):Prop extends DI d where
 gv:0<=d.given
theorem Ste.j {d d':Dk}(h:DJ d)(hs:Ste d d')(hg:d'.given=d.given):DJ d':=⟨hs.1,by rw[hg];exact h.gv⟩
theorem CD {d:Dk}(h:DJ d){l:List Ru}(hl:ie l=(0,0)):DI {d with rules:=l,vers:=ph d l,given:=d.given+1}:=by
 have hlen:(ph d l).length=l.length:=by simp[ph]
 refine⟨hl,hlen,fun e he=>by have:=h.kv e he;show e.v<=d.given+1;omega,fun v hv=> ?_,fun e he i ei hv=> ?_,h.ad⟩
 ·show v<=d.given+1;unfold ph at hv;obtain⟨i,_,rfl⟩:=dN.1 hv;split
  ·omega
  ·by_cases q:i<d.vers.length
   ·have:=h.vg (d.vers.getD i 0) (by simp[List.getD,ax q]);omega
   ·have:d.vers.getD i 0=0:=(by simp[List.getD,eI (by omega:d.vers.length<=i)]);have:=h.gv;omega
 ·show e.m=gY l (wkB e.d) e.d i;have hi:i<l.length:=(by rw[<-hlen];exact(aE.1 hv).1);have hv2:(ph d l)[i]? =some e.v:=hv;unfold ph at hv2;rw[a8,List.getElem?_range hi]at hv2;replace hv2:(if iY d.rules l (i:Int)=true\/(fP l (i:Int)).any (iY d.rules l)=true then d.given+1 else d.vers.getD i 0)=e.v:=aL hv2;by_cases q:iY d.rules l (i:Int)=true\/(fP l (i:Int)).any (iY d.rules l)=true
  ·rw[ay q]at hv2;have:=h.kv e he;omega
  ·rw[au q]at hv2;have q1:iY d.rules l (i:Int)=false:=(by simpa using fun c=>q (.inl c))
   have q2: ∀k∈fP l (i:Int),iY d.rules l k=false:=fun k hk=>by
    have: ¬(fP l (i:Int)).any (iY d.rules l)=true:=fun c=>q (.inr c);simp only[List.any_eq_true,not_exists,not_and]at this;simpa using this k hk
   obtain⟨u,u1,_⟩:=xV q1;have hio:i<d.vers.length:=(by rw[h.vl];exact(aE.1 u1).1)
   have hvo:d.vers[i]? =some e.v:=by
    rw[<-hv2,ax hio];simp[List.getD,ax hio]
   rw[h.ki e he i ei hvo];exact zo (um (by rw[h.flt])).1 (um (by rw[hl])).1 _ _ _ i (Nat.lt_succ_self _) hi q1 q2
theorem vD: ∀(l:List Ap) (i:Nat) (d:Dk),DI d->(∀a∈l,0<=a.day/\a.day<146097)->(eN l i d).1=tD (coD d) l i/\Ste d (eN l i d).2
 |[],_,d,h,_=>⟨rfl,h,rfl⟩
 |a::l,i,d,h,hd=>by
  unfold eN tD;by_cases hs:a.st=3
  ·rw[ay hs,au (fun c=>c.1 hs)];exact vD l (i+1) d h fun b hb=>hd b (bx _ hb)
  ·rw[au hs];have ha:=hd a bo
   obtain⟨p,q1,q2⟩:=BJ (g:=fun c r=> !gO (mS c r a.day) a.fr a.to) (f:=kH a.day a.fr a.to) (fun x d h=>by
    obtain⟨e1,e2,e3⟩:=BI h x ha.1 ha.2;exact⟨by unfold kH;rw[e1],e2,e3⟩) a.who d h
   obtain⟨p',q1',q2'⟩:=vD l (i+1) _ q1 fun b hb=>hd b (bx _ hb);dsimp only;refine⟨?_,q1',q2'.trans q2⟩;rw[p',q2,p];by_cases e:(a.who.any fun r=> !gO (mS (coD d) r a.day) a.fr a.to)=true
   ·rw[ay e,ay ⟨hs,e⟩]
   ·rw[au e,au fun c=>e c.2]
theorem Do {c:Co}{n:Int}{a:Ap}{day min:Int}{who:List Int}(h:(jI c n a day min who).2=0):0<=(jI c n a day min who).1.day/\(jI c n a day min who).1.day<146097:=by
 unfold jI at h⊢;split
 ·rename_i h1;rw[ay h1]at h;cases h
 rename_i h1;rw[au h1]at h;split
 ·rename_i h2;rw[ay h2]at h;cases h
 rename_i h2;rw[au h2]at h;split
 ·rename_i h3;rw[ay h3]at h;exact absurd h h3
 rename_i h3;rw[au h3]at h;split
 ·rename_i h4;rw[ay h4]at h;cases h
 have:isN day 146097=true:=by simpa using fun c=>h1 (.inl c)
 simpa[isN] using this
def Rl (p:An×Dk)(q:An×Co):Prop:=p.1=q.1/\coD p.2=q.2/\DJ p.2
theorem Rl.ite {c:Prop}[Decidable c]{p p':An×Dk}{q q':An×Co}(h:c->Rl p q)(h': ¬c->Rl p' q'):Rl (if c then p else p') (if c then q else q'):=by
 by_cases e:c
 ·rw[ay e,ay e];exact h e
 ·rw[au e,au e];exact h' e
theorem xo {n m:Int}(h: ¬isN n m=false):0<=n/\n<m:=by
 have:isN n m=true:=by simpa using h
 simpa[isN] using this
theorem Rl.aps {d d':Dk}(h:DJ d)(hs:Ste d d')(hg:d'.given=d.given)(a:An){l:List Ap}(hl: ∀x∈l,0<=x.day/\x.day<146097):Rl (a,{d' with aps:=l}) (a,{coD d with aps:=l}):=by
 have e:=hs.2;unfold coD at e;simp only[Co.mk.injEq]at e;refine⟨rfl,?_,⟨⟨hs.1.flt,hs.1.vl,hs.1.kv,hs.1.vg,hs.1.ki,hl⟩,by show 0<=d'.given;rw[hg];exact h.gv⟩⟩;unfold coD;simp only[Co.mk.injEq];exact⟨e.1,e.2.1,e.2.2.1,trivial⟩
theorem BM {d:Dk}(h:DJ d)(n:Int)(f:Ap->Dk->(Ap×Int)×Dk)(g:Ap->Ap×Int)(hf: ∀a,(f a d).1=g a/\Ste d (f a d).2/\Cor d (f a d).2)(hg: ∀a∈d.aps,(g a).2=0->0<=(g a).1.day/\(g a).1.day<146097):Rl (ib d n f) (nU (coD d) n g):=by
 unfold ib nU;refine .ite (fun _=>⟨rfl,rfl,h⟩) fun h1=> ?_;obtain⟨p,q,r⟩:=hf (d.aps.getD n.toNat ap0);dsimp only;rw[p];refine .ite (fun _=>⟨rfl,q.2,q.j h r.given⟩) fun h2=> ?_;have eap:(f (d.aps.getD n.toNat ap0) d).2.aps=d.aps:=congrArg Co.aps q.2;rw[eap];refine .aps h q r.given _ fun a ha=> ?_;rcases List.mem_or_eq_of_mem_set ha with ha|rfl
 ·exact h.ad a ha
 ·have hn:=xo fun c=>h1 (.inl c);have hn':n.toNat<d.aps.length:=(by omega);exact hg _ (by simp[List.getD,ax hn']) (by simpa using h2)
theorem N0 {d:Dk}(h:DJ d)(x:Cm):Rl (doP d x) (doS (coD d) x):=by
 have no: ∀a,Rl (a,d) (a,coD d):=fun a=>⟨rfl,rfl,h⟩
 unfold doP doS;refine .ite (fun _=> ?_) fun _=> .ite (fun _=> ?_) fun _=> .ite (fun _=> ?_) fun _=> .ite (fun _=> ?_) fun _=> .ite (fun _=> ?_) fun _=> .ite (fun _=> ?_) fun _=> .ite (fun _=> ?_) fun _=> .ite (fun _=> ?_) fun _=> .ite (fun _=> ?_) fun _=>no _
 ·refine .ite (fun _=>no _) fun e=> ?_;obtain⟨p,q⟩:=vD d.aps 0 _ (CD h (LK (by simpa using e))) h.ad;dsimp only;refine⟨by rw[p];rfl,q.2,q.1,?_⟩;rw[(pj d.aps 0 _).given];have:=h.gv;show 0<=d.given+1;omega
 ·exact .ite (fun _=>no _) fun _=> .ite (fun _=>no _) fun _=>⟨rfl,rfl,⟨⟨h.flt,h.vl,h.kv,h.vg,h.ki,h.ad⟩,h.gv⟩⟩
 ·exact .ite (fun _=>no _) fun _=> .ite (fun _=>no _) fun _=>⟨rfl,rfl,⟨⟨h.flt,h.vl,h.kv,h.vg,h.ki,h.ad⟩,h.gv⟩⟩
 ·refine .ite (fun _=>no _) fun _=> .ite (fun _=>no _) fun e2=> ?_;have hd:=xo fun c=>e2 (.inl c);obtain⟨p,q⟩:=Hp (d.svs.getD x.n.toNat sv0) hd.1 x.days.toNat 0 d h.toDI (by omega);have hg:=(vA (d.svs.getD x.n.toNat sv0) x.day x.days.toNat 0 d).given;dsimp only;rw[p];exact .ite (fun _=>⟨rfl,q.2,q.j h hg⟩) fun _=>⟨rfl,q.2,q.j h hg⟩
 ·refine .ite (fun _=>no _) fun _=> .ite (fun _=>no _) fun _=> ?_;obtain⟨p,q⟩:=vC h.toDI (-1) (tB (coD d) x.n) x.sday x.smin x.swho;have hg:=(lN d (-1) (tB (coD d) x.n) x.sday x.smin x.swho).given;have eap:(eJ d (-1) (tB (coD d) x.n) x.sday x.smin x.swho).2.aps=d.aps:=congrArg Co.aps q.2;have hN:(⟨1,10,0,0,x.n,(d.svs.getD x.n.toNat sv0).bef,(d.svs.getD x.n.toNat sv0).aft,(d.svs.getD x.n.toNat sv0).len,0,0,[]⟩:Ap)=tB (coD d) x.n:=rfl;dsimp only;rw[hN,p,eap];refine .ite (fun _=>⟨rfl,q.2,q.j h hg⟩) fun e3=> .aps h q hg _ fun a ha=> ?_;rcases bT.1 ha with ha|ha
  ·exact h.ad a ha
  ·cases dh.1 ha;exact Do (by simpa using e3)
 ·exact BM h _ _ _ (fun a=>⟨rfl,⟨h.toDI,rfl⟩,Cor.refl d⟩) fun a ha _=>h.ad a ha
 ·exact BM h _ _ _ (fun a=>⟨rfl,⟨h.toDI,rfl⟩,Cor.refl d⟩) fun a ha _=>h.ad a ha
 ·exact BM h _ _ _ (fun a=>⟨(vC h.toDI _ a _ _ _).1,(vC h.toDI _ a _ _ _).2,lN d _ a _ _ _⟩) fun a _ e=>Do e
 ·refine .ite (fun _=>no _) fun _=> .aps h ⟨h.toDI,rfl⟩ rfl _ fun a ha=> ?_;obtain⟨b,hb,rfl⟩:=dN.1 ha;have:=h.ad b hb;unfold g6 eV;split
  ·exact this
  split<;>exact this
theorem Dp: ∀(l:List Cm) (d:Dk),DJ d->(fV d l).1=(qE (coD d) l).1/\coD (fV d l).2=(qE (coD d) l).2/\DJ (fV d l).2
 |[],d,h=>⟨rfl,rfl,h⟩
 |x::l,d,h=>by
  obtain⟨a,b,c⟩:=N0 h x;obtain⟨a',b',c'⟩:=Dp l _ c;unfold fV qE;rw[<-a,<-b];exact⟨by rw[a'],b',c'⟩
theorem M8:DJ dk0:=⟨⟨xn.flt,xn.vl,(fun e he=>by cases he),(fun e he=>by cases he),(fun e he=>by cases he),(fun e he=>by cases he)⟩,xn.gv.1⟩
theorem M9 (l:List Cm):(fV dk0 l).1=(qE co0 l).1/\coD (fV dk0 l).2=(qE co0 l).2/\DJ (fV dk0 l).2:=Dp l dk0 M8
end
section
open Lx Vx Mx Msk
structure AW (S:List Sv)(a:Ap):Prop where
 lo:0<=a.fr
 hi:a.to<=1440
 fr:a.fr=a.min-a.bef
 to:a.to=a.min+a.len+a.aft
 meas:1<=a.len/\0<=a.bef/\0<=a.aft
 sv:0<=a.sv/\a.sv<S.length
 who:a.who.length=(S.getD a.sv.toNat sv0).roles.length
def NC (a b:Ap):Prop:=a.st=3\/b.st=3\/a.day≠b.day\/a.to<=b.fr\/b.to<=a.fr\/ ∀r∈a.who,r∉b.who
theorem NC.symm {a b:Ap}(h:NC a b):NC b a:=by
 rcases h with h|h|h|h|h|h
 ·exact .inr (.inl h)
 ·exact .inl h
 ·exact .inr (.inr (.inl fun e=>h e.symm))
 ·exact .inr (.inr (.inr (.inr (.inl h))))
 ·exact .inr (.inr (.inr (.inl h)))
 ·exact .inr (.inr (.inr (.inr (.inr fun r hr hr'=>h r hr' hr))))
structure CI (c:Co):Prop where
 svs: ∀s∈c.svs,(1<=s.len/\0<=s.bef/\0<=s.aft)/\1<=s.roles.length
 aps: ∀a∈c.aps,AW c.svs a
 nc: ∀(i j:Nat) (a b:Ap),i≠j->c.aps[i]? =some a->c.aps[j]? =some b->NC a b
theorem Jz {f:Nat->Bool}{x y:Int}(h:gO f x y=true){i:Nat}(h1:x<=(i:Int))(h2:(i:Int)<y):f i=true:=by
 unfold gO at h;simp only[bv,bU]at h;obtain⟨⟨⟨_,hy⟩,_⟩,he⟩:=h;have:=IR he i (by omega);have hi:i<1440:=by omega
 simpa[inl,h1,h2,hi] using this
theorem BN (r day but:Int){b:Ap}(h1:b.st≠3)(h2:b.day=day)(h3:r∈b.who): ∀(l:List Ap) (i j:Nat),l[j]? =some b->((i+j:Nat):Int)≠but->(b.fr,b.to)∈kb r day but l i
 |[],_,_,h,_=>by simp at h
 |a::l,i,0,h,hn=>by
  cases h;unfold kb;rw[ay ⟨by simpa using hn,h1,h2,h3⟩];exact bo
 |a::l,i,j+1,h,hn=>by
  have:=BN r day but h1 h2 h3 l (i+1) j h (by rw[show i+1+j=i+(j+1) by omega];exact hn);unfold kb;split
  ·exact bx _ this
  ·exact this
theorem BO {c:Co}{n:Int}{a:Ap}{day min:Int}{who:List Int}(h:(jI c n a day min who).2=0)(hm:1<=a.len/\0<=a.bef/\0<=a.aft)(hs:0<=a.sv/\a.sv<c.svs.length):
  AW c.svs (jI c n a day min who).1/\ ∀(j:Nat) (b:Ap),(j:Int)≠n->c.aps[j]? =some b->AW c.svs b->NC (jI c n a day min who).1 b:=by
 unfold jI at h⊢;split at h
 ·exact absurd h (by decide)
 split at h
 ·exact absurd h (by decide)
 split at h
 ·rename_i h3;exact absurd h h3
 split at h
 ·exact absurd h (by decide)
 rename_i h1 h2 h3 h4;rw[au h1,au h2,au h3,au h4]
 have hw:who.length=(c.svs.getD a.sv.toNat sv0).roles.length:=by
  have h3':jH who (c.svs.getD a.sv.toNat sv0).roles=0:=dS h3;unfold jH at h3';split at h3'
  ·exact absurd h3' (by decide)
  ·rename_i e;exact dS e
 refine⟨⟨?_,?_,rfl,rfl,hm,hs,hw⟩,fun j b hj hb hB=> ?_⟩
 ·show 0<=min-a.bef;omega
 ·show min+a.len+a.aft<=1440;omega
 by_cases e1:b.st=3
 ·exact .inr (.inl e1)
 by_cases e2:day≠b.day
 ·exact .inr (.inr (.inl e2))
 have e2:b.day=day:=(dS e2:day=b.day).symm;by_cases e3:min+a.len+a.aft<=b.fr
 ·exact .inr (.inr (.inr (.inl e3)))
 by_cases e4:b.to<=min-a.bef
 ·exact .inr (.inr (.inr (.inr (.inl e4))))
 refine .inr (.inr (.inr (.inr (.inr fun r hr hr'=>h4 ?_))));refine List.any_eq_true.2 ⟨r,hr,?_⟩;cases hh:gO (fS c r day n) (min-a.bef) (min+a.len+a.aft) with
 |false=>rfl
 |true=>
  exfalso;have h2': ¬(min-a.bef<0):=fun e=>h2 (.inl e);have q1:=hB.fr;have q2:=hB.to;have q3:=hB.meas;have q4:=hB.lo;have q5:=hB.hi
  obtain⟨x,hx1,hx2,hx3,hx4⟩: ∃x:Nat,min-a.bef<=(x:Int)/\(x:Int)<min+a.len+a.aft/\b.fr<=(x:Int)/\(x:Int)<b.to:=by
   by_cases e:min-a.bef<=b.fr
   ·exact⟨b.fr.toNat,by omega,by omega,by omega,by omega⟩
   ·exact⟨(min-a.bef).toNat,by omega,by omega,by omega,by omega⟩
  have hf:=Jz hh hx1 hx2;unfold fS r0 at hf;simp only[bv,Bool.not_eq_true']at hf
  have hin:inl (kb r day n c.aps 0) x=true:=by
   unfold inl;exact List.any_eq_true.2 ⟨_,BN r day n e1 e2 hr' c.aps 0 j hb (by rw[bN];exact hj),by simp[hx3,hx4];omega⟩
  rw[hin]at hf;exact absurd hf.1.2 (by decide)
theorem AW.settle {S:List Sv}{a:Ap}(h:AW S a)(s:Int):AW S (eV a s):=⟨h.lo,h.hi,h.fr,h.to,h.meas,h.sv,h.who⟩
theorem NC.settle {a b:Ap}(h:NC a b)(h3:a.st≠3)(s:Int):NC (eV a s) b:=by
 rcases h with h|h
 ·exact absurd h h3
 ·exact .inr h
theorem AW.tick {S:List Sv}{a:Ap}(h:AW S a)(t:Int):AW S (g6 t a):=by
 unfold g6;split
 ·exact h
 split
 ·exact h.settle 3
 ·exact⟨h.lo,h.hi,h.fr,h.to,h.meas,h.sv,h.who⟩
theorem NC.tick {a b:Ap}(h:NC a b)(t:Int):NC (g6 t a) b:=by
 unfold g6;split
 ·exact h
 split
 ·exact .inl rfl
 ·exact h
theorem CI.set {c:Co}(h:CI c){n:Nat}{p:Ap}(hp:AW c.svs p)(hn: ∀(j:Nat) (b:Ap),j≠n->c.aps[j]? =some b->NC p b):CI {c with aps:=c.aps.set n p}:=by
 refine⟨h.svs,fun a ha=> ?_,fun i j a b hij hi hj=> ?_⟩
 ·rcases List.mem_or_eq_of_mem_set ha with ha|rfl
  ·exact h.aps a ha
  ·exact hp
 ·replace hi:(c.aps.set n p)[i]? =some a:=hi;replace hj:(c.aps.set n p)[j]? =some b:=hj;rw[List.getElem?_set]at hi hj;by_cases ei:n=i
  ·rw[ay ei]at hi;rw[au (by omega)]at hj;split at hi
   ·cases hi;exact hn j b (by omega) hj
   ·cases hi
  ·rw[au ei]at hi;by_cases ej:n=j
   ·rw[ay ej]at hj;split at hj
    ·cases hj;exact(hn i a (by omega) hi).symm
    ·cases hj
   ·rw[au ej]at hj;exact h.nc i j a b hij hi hj
theorem CI.change {c:Co}(h:CI c)(n:Int)(f:Ap->Ap×Int)(hf: ∀a,c.aps[n.toNat]? =some a->0<=n->a.st≠3->(f a).2=0->AW c.svs (f a).1/\ ∀(j:Nat) (b:Ap),j≠n.toNat->c.aps[j]? =some b->NC (f a).1 b):CI (nU c n f).2:=by
 unfold nU;split
 ·exact h
 split
 ·exact h
 rename_i h1 h2;obtain⟨i0,i1⟩:=xo fun e=>h1 (.inl e);have hl:n.toNat<c.aps.length:=by omega
 have e:c.aps[n.toNat]? =some (c.aps.getD n.toNat ap0):=by rw[dE,ax hl];rfl
 obtain⟨q1,q2⟩:=hf _ e i0 (fun e=>h1 (.inr e)) (dS h2);exact h.set q1 q2
theorem N1 {c:Co}(h:CI c)(x:Cm):CI (doS c x).2:=by
 unfold doS;split
 ·unfold Ho;split
  ·exact h
  ·exact⟨h.svs,h.aps,h.nc⟩
 split
 ·unfold M6;split
  ·exact h
  split
  ·exact h
  ·exact⟨h.svs,h.aps,h.nc⟩
 split
 ·unfold M7;split
  ·exact h
  split
  ·exact h
  rename_i _ e;refine⟨fun s hs=> ?_,fun a ha=> ?_,h.nc⟩
  ·rcases bT.1 hs with hs|hs
   ·exact h.svs s hs
   ·cases dh.1 hs;have e':fb x.sv c.res.length=0:=dS e;unfold fb at e';split at e'
    ·exact absurd e' (by decide)
    ·rename_i e2;have:jU x.sv.len x.sv.bef x.sv.aft=true:=(by simpa using e2);unfold jU at this;have:=fD this;split at e'
     ·exact absurd e' (by decide)
     ·omega
  ·have q:=h.aps a ha;have hs:=q.sv;have hl:a.sv.toNat<c.svs.length:=(by omega);refine⟨q.lo,q.hi,q.fr,q.to,q.meas,⟨hs.1,?_⟩,q.who.trans ?_⟩
   ·show a.sv<((c.svs++[x.sv]).length:Nat);rw[aN];omega
   ·show _=((c.svs++[x.sv]).getD a.sv.toNat sv0).roles.length;rw[dE,dE,dI hl]
 split
 ·unfold JZ;split
  ·exact h
  split
  ·exact h
  split
  ·exact h
  ·exact h
 split
 ·unfold JX;split
  ·exact h
  split
  ·exact h
  split
  ·exact h
  rename_i h1 _ h2;obtain⟨i0,i1⟩:=xo h1;have hl:x.n.toNat<c.svs.length:=(by omega);have hv:c.svs.getD x.n.toNat sv0∈c.svs:=(by rw[dE,ax hl];exact List.getElem_mem hl);obtain⟨q1,q2⟩:=BO (dS h2) (h.svs _ hv).1 ⟨i0,i1⟩;generalize (jI c (-1) (tB c x.n) x.sday x.smin x.swho).1=p at q1 q2;have q2': ∀(j:Nat) (b:Ap),c.aps[j]? =some b->NC p b:=fun j b hb=>q2 j b (by omega) hb (h.aps b (aK hb));refine⟨h.svs,fun a ha=> ?_,fun i j a b hij hi hj=> ?_⟩
  ·rcases bT.1 ha with ha|ha
   ·exact h.aps a ha
   ·cases dh.1 ha;exact q1
  ·replace hi:(c.aps++[p])[i]? =some a:=hi;replace hj:(c.aps++[p])[j]? =some b:=hj;by_cases ei:i<c.aps.length
   ·rw[dI ei]at hi;by_cases ej:j<c.aps.length
    ·rw[dI ej]at hj;exact h.nc i j a b hij hi hj
    ·have:=(aE.1 hj).1;rw[aN,dL]at this;rw[dt (by omega),show j-c.aps.length=0 by omega]at hj;cases hj;exact(q2' i a hi).symm
   ·have:=(aE.1 hi).1;rw[aN,dL]at this;rw[dt (by omega),show i-c.aps.length=0 by omega]at hi;cases hi;by_cases ej:j<c.aps.length
    ·rw[dI ej]at hj;exact q2' j b hj
    ·have:=(aE.1 hj).1;rw[aN,dL]at this;omega
 split
 ·exact h.change _ _ fun a ha _ h3 _=>⟨(h.aps a (aK ha)).settle 2,fun j b hj hb=>(h.nc _ _ a b (Ne.symm hj) ha hb).settle h3 2⟩
 split
 ·exact h.change _ _ fun a ha _ h3 _=>⟨(h.aps a (aK ha)).settle 3,fun j b hj hb=>(h.nc _ _ a b (Ne.symm hj) ha hb).settle h3 3⟩
 split
 ·refine h.change _ _ fun a ha hn _ h0=> ?_;have q:=h.aps a (aK ha);obtain⟨q1,q2⟩:=BO h0 q.meas q.sv;exact⟨q1,fun j b hj hb=>q2 j b (by omega) hb (h.aps b (aK hb))⟩
 split
 ·unfold JY;split
  ·exact h
  refine⟨h.svs,fun a ha=> ?_,fun i j a b hij hi hj=> ?_⟩
  ·obtain⟨a',ha',rfl⟩:=dN.1 ha;exact(h.aps a' ha').tick _
  ·replace hi:(c.aps.map (g6 x.days))[i]? =some a:=hi;replace hj:(c.aps.map (g6 x.days))[j]? =some b:=hj;rw[a8]at hi hj;obtain⟨a',ha',rfl⟩:=d8.1 hi;obtain⟨b',hb',rfl⟩:=d8.1 hj;exact(((h.nc i j a' b' hij ha' hb').tick _).symm.tick _).symm
 ·exact h
theorem Dq: ∀(l:List Cm) (c:Co),CI c->CI (qE c l).2
 |[],_,h=>h
 |x::l,_,h=>Dq l _ (N1 h x)
theorem Na:CI co0:=⟨fun s hs=>absurd hs List.not_mem_nil,fun a ha=>absurd ha List.not_mem_nil,fun i j a b _ hi _=>by simp[co0]at hi⟩
end
section
open Go.RowKit Lx Vx Mx Msk
theorem J1 {B:Nat}{w:World}{av:Value}{aa:List (Ap×Value)}(h:w.ownsRow B 38 11 av aa.length (apF aa))(hr: ∀q∈aa,dy w q.2 q.1.who){j:Nat}(hj:j<aa.length): ∃(a:Ap) (p:Option Addr) (c g ca:Nat),aa[j]? =some (a,.slice p a.who.length c)/\av= .slice (some (ae g 0)) aa.length ca/\w.rangeAt g (j*11) (apC (a,.slice p a.who.length c)).toList/\dy w (.slice p a.who.length c) a.who:=by
 obtain⟨⟨a,v⟩,hp⟩: ∃p,aa[j]? =some p:=⟨aa[j],ax hj⟩
 have ha:=hr _ (aK hp);obtain⟨p,c,hv,_,_⟩:=id ha;dsimp only at hv ha;subst hv;obtain⟨g,ca,e1,_,e3⟩:=jx r7 h rfl hp;exact⟨a,p,c,g,ca,hp,e1,e3,ha⟩
theorem Dr {w:World}{v:Value}{l:List Int}(h:dy w v l):l.length<9223372036854775808:=by
 obtain⟨_,_,_,h,_⟩:=h;exact h
theorem Ds {w:World}{p:Option Addr}{n c:Nat}{l:List Int}(h:dy w (.slice p n c) l){j:Nat}{x:Int}(hx:l[j]? =some x): ∃g o:Nat,p=some ⟨g,o,none⟩/\w.cell? (ae g (o+j))=some (ag x):=by
 obtain⟨_,_,e,_,h⟩:=h;injection e with e1;subst e1;exact h j x hx
theorem BP {B:Nat}{w:World}{e:TypeId}{m:Nat}{v:Value}{n:Nat}{xs:List Value}(h:w.ownsRow B e m v n xs):n<=9223372036854775807:=by
 rcases h.2 with⟨_,e⟩|⟨_,_,_,_,_,_,h1,h2,_⟩
 ·omega
 ·unfold maxLen at h2;omega
end
section
open Go.RowKit Lx Vx Mx Msk
theorem Hq {B:Nat}(rv ev sv av:Value)(aa:List (Ap×Value))(w:World)(hO:w.ownsRow B 38 11 av aa.length (apF aa))(hr: ∀q∈aa,dy w q.2 q.1.who)(hn: ∀(i j:Nat) (p q:Ap×Value),i≠j->aa[i]? =some p->aa[j]? =some q->NC p.1 q.1):
  Calls prog 8 #[.agg #[rv,ev,sv,av]] w fun e w'=>e= .returned (.bool false)/\Below w.heap.size w w':=by
 obtain⟨wA,hA,bA,nA⟩:=nb w #[rv,ev,sv,av] 29;have hOA:=bp hO fun b hq=>bA.block b (hO.lt b hq).2;have HAP:OK (∀j,j<aa.length-> ∃(a:Ap) (p:Option Addr) (c g ca:Nat),aa[j]? =some (a,.slice p a.who.length c)/\av= .slice (some (ae g 0)) aa.length ca/\wA.rangeAt g (j*11) (apC (a,.slice p a.who.length c)).toList/\dy wA (.slice p a.who.length c) a.who):=fun j hj=>J1 hOA (fun q hq=>(hr q hq).below bA) hj;obtain⟨pa,ca,hv,hcap⟩:=xj hO;have hmx:=BP hO;obtain⟨n,hl⟩: ∃n,aa.length=n:=⟨_,rfl⟩
 rw[hl]at hv hcap HAP hmx;subst hv;have HN:=aB hn;have HBA:=aB bA;have y:=cr 3 nA rfl;have hcap':(n:Int)<=(ca:Int):=by omega
 clear hO hOA hr hn nA bA hl;go_enter func8,ntmps8;go_wp2_with fail;go_loopw [3,4,6,8,10,14] (fun _ _ _ _ _ q wr=> ∃j:Nat,q=ag (j:Int)/\j<=n/\Below wA.heap.size wA wr) (fun _ _ _ _ _ q _=>n-(intOf q).toNat);case atStart=>exact⟨0,rfl,by omega,aG _ _⟩
 case round=>
  obtain⟨j,rfl,hj,hbr⟩:=hrel;have hj0:(0:Int)<=(j:Int):=(by omega);by_cases hjn:j<n
  ·have hjn':(j:Int)<(n:Int):=(by omega);obtain⟨a,pw,cw,g,ca',ha,e,hrg,hw⟩:=HAP.o j hjn;injection e with e1 e3 e2;subst e1 e2;clear e3;have hrg2:=fX hrg hbr;obtain⟨wo,rfl⟩: ∃q,q=wr:=⟨_,rfl⟩
   obtain⟨wZ,wB,hZ,nZ,hB,bB,nB⟩:=nbs wo apZ (apC (a,.slice pw a.who.length cw)) 38;unfold apZ at hZ nZ
   have yB:wB.cell? (ae w.heap.size 3)=some (.slice (some (ae g 0)) n ca):=by
    have:=(aq hbr bB).cell (bJ y);exact this.trans y
   have z0:wB.cell? (ae wo.heap.size 0)=some (ag a.st):=cr 0 nB rfl;have hbB:=aq hbr bB;have HB:=aB hbB;have HW:=aB hw;have HA:=aB ha;obtain⟨b1,hb1⟩: ∃q,(a.st==3)=q:=⟨_,rfl⟩
   clear hrg hw hbr bB hbB ha;cases b1 with
   |true=>
    clear yB;go_wp2_with(first|(refine wpList_load_mid rfl 38 _ rfl g (j*11) rfl (apC (a,.slice pw a.who.length cw)).toList _ hrg2 apT rfl (by kernel_rfl) ?_)|(refine aw rfl 38 _ _ rfl _ _ rfl rfl _ _ nZ (by kernel_rfl) rfl (fL _ _ _ _) ?_;rw[hB]))
    go_roundw;case rel=>exact⟨j+1,by go_num,by omega,HB.o⟩
    case measure=>simp[intOf];omega
   |false=>
    have hjc:(j:Int)<=(ca:Int):=(by omega);have NB:=aB nB;clear nB;go_wp2_with(first|(refine wpList_load_mid rfl 38 _ rfl g (j*11) rfl (apC (a,.slice pw a.who.length cw)).toList _ hrg2 apT rfl (by kernel_rfl) ?_)|(refine aw rfl 38 _ _ rfl _ _ rfl rfl _ _ nZ (by kernel_rfl) rfl (fL _ _ _ _) ?_;rw[hB]))
    clear hrg2 nZ hB hZ z0 yB;go_loopw [6,8,10,27] (fun _ _ _ q wr=> ∃k:Nat,q=ag (k:Int)/\k<=j/\Below wB.heap.size wB wr) (fun _ _ _ q _=>j-(intOf q).toNat);case atStart=>exact⟨0,rfl,by omega,aG _ _⟩
    case round=>
     obtain⟨k,rfl,hk,hbr2⟩:=hrel;have hk0:(0:Int)<=(k:Int):=(by omega);by_cases hkj:k<j
     ·have hkj':(k:Int)<(j:Int):=(by omega);obtain⟨b,pv,cv,g2,ca2,hb,e,hrg,hv⟩:=HAP.o k (by omega);injection e with e1 e3 e2;injection e1 with e1;injection e1 with e1;subst e1 e2;clear e3;have hNC:NC a b:=HN.o j k _ _ (by omega) HA.o hb;have hbr3:=aq HB.o hbr2;have hrg2:=fX hrg hbr3;obtain⟨wp,rfl⟩: ∃q,q=wr:=⟨_,rfl⟩
      obtain⟨wZ,wC,hZ,nZ,hC,bC,nC⟩:=nbs wp apZ (apC (b,.slice pv b.who.length cv)) 38;unfold apZ at hZ nZ;have nD:=bt bC (bt hbr2 NB.o);have x2:wC.cell? (ae wo.heap.size 2)=some (ag a.fr):=cr 2 nD rfl;have x3:wC.cell? (ae wo.heap.size 3)=some (ag a.to):=cr 3 nD rfl;have x8:wC.cell? (ae wo.heap.size 8)=some (ag a.day):=cr 8 nD rfl;have x10:wC.cell? (ae wo.heap.size 10)=some (.slice pw a.who.length cw):=cr 10 nD rfl;have y0:wC.cell? (ae wp.heap.size 0)=some (ag b.st):=cr 0 nC rfl;have y2:wC.cell? (ae wp.heap.size 2)=some (ag b.fr):=cr 2 nC rfl;have y3:wC.cell? (ae wp.heap.size 3)=some (ag b.to):=cr 3 nC rfl;have y8:wC.cell? (ae wp.heap.size 8)=some (ag b.day):=cr 8 nC rfl;have y10:wC.cell? (ae wp.heap.size 10)=some (.slice pv b.who.length cv):=cr 10 nC rfl;have hbC:=aq hbr2 bC;have HC:=aB hbC;have HWA:=aB (HW.o.below (aq HB.o hbC));have HWB:=aB (hv.below (aq hbr3 bC));obtain⟨q1,hq1⟩: ∃q,(b.st==3)=q:=⟨_,rfl⟩
      obtain⟨q2,hq2⟩: ∃q,(a.day !=b.day)=q:=⟨_,rfl⟩
      have H:q1=true\/(q1=false/\q2=true)\/(q1=false/\q2=false/\a.to<=b.fr)\/(q1=false/\q2=false/\ ¬a.to<=b.fr/\b.to<=a.fr)\/(q1=false/\q2=false/\ ¬a.to<=b.fr/\ ¬b.to<=a.fr/\ ∀r∈a.who,r∉b.who):=by
       by_cases h3:a.to<=b.fr<;>by_cases h4:b.to<=a.fr<;>cases q1<;>cases q2<;>simp[h3,h4];rcases hNC with h|h|h|h|h|h
       ·rw[h]at hb1;cases hb1
       ·rw[h]at hq1;cases hq1
       ·exact absurd hq2 (by simpa using h)
       ·exact absurd h h3
       ·exact absurd h h4
       ·exact h
      clear hNC hrg hv hbr3 bC hbC hb nD nC hbr2;rcases H with rfl|⟨rfl,rfl⟩|⟨rfl,rfl,h3⟩|⟨rfl,rfl,h3,h4⟩|⟨rfl,rfl,h3,h4,h5⟩;rotate_left 4
      ·have HF:=aB h5;clear h5;have hna:=Dr HWA.o;have hnb:=Dr HWB.o;go_wp2_with(first|(refine wpList_load_mid rfl 38 _ rfl g (k*11) rfl (apC (b,.slice pv b.who.length cv)).toList _ hrg2 apT rfl (by kernel_rfl) ?_)|(refine aw rfl 38 _ _ rfl _ _ rfl rfl _ _ nZ (by kernel_rfl) rfl (fL _ _ _ _) ?_;rw[hC]))
       clear x2 x3 x8 y0 y2 y3 y8 hrg2 nZ hZ hC;go_loopw [8,10,61] (fun _ _ q wr=> ∃x:Nat,q=ag (x:Int)/\x<=a.who.length/\wr=wC) (fun _ _ q _=>a.who.length-(intOf q).toNat);case atStart=>exact⟨0,rfl,by omega,rfl⟩
       case round=>
        obtain⟨x,rfl,hx,hwr⟩:=hrel;replace hwr:=hwr.symm;subst hwr;have hx0:(0:Int)<=(x:Int):=(by omega);by_cases hxn:x<a.who.length
        ·have hxn':(x:Int)<(a.who.length:Int):=(by omega);obtain⟨r,hr⟩: ∃r,a.who[x]? =some r:=⟨_,ax hxn⟩
         obtain⟨ga,oa,ep,c0⟩:=Ds HWA.o hr;subst ep;have HRM:OK (r∉b.who):=HF.o r (aK hr);clear hr;go_wp2_with fail;go_loopw [10,69] (fun _ q wr=> ∃y:Nat,q=ag (y:Int)/\y<=b.who.length/\wr=wC) (fun _ q _=>b.who.length-(intOf q).toNat);case atStart=>exact⟨0,rfl,by omega,rfl⟩
         case round=>
          obtain⟨y,rfl,hy,hwr⟩:=hrel;replace hwr:=hwr.symm;subst hwr;have hy0:(0:Int)<=(y:Int):=(by omega);by_cases hyn:y<b.who.length
          ·have hyn':(y:Int)<(b.who.length:Int):=(by omega);obtain⟨z,hz⟩: ∃z,b.who[y]? =some z:=⟨_,ax hyn⟩
           obtain⟨gb,ob,ep,c1⟩:=Ds HWB.o hz;subst ep;have hrz:(r==z)=false:=bg.2 fun e=>HRM.o (by rw[e];exact aK hz);clear hz;go_wp2_with fail;go_roundw;case rel=>exact⟨y+1,by go_num,by omega,trivial⟩
           case measure=>simp[intOf];omega
          ·have hyn': ¬(y:Int)<(b.who.length:Int):=(by omega);go_wp2_with fail;go_roundw;case rel=>exact⟨x+1,by go_num,by omega,trivial⟩
           case measure=>simp[intOf];omega
        ·have hxn': ¬(x:Int)<(a.who.length:Int):=(by omega);go_wp2_with fail;go_roundw;case rel=>exact⟨k+1,by go_num,by omega,HC.o⟩
         case measure=>simp[intOf];omega
      all_goals
       go_upto_region 8 with(first|(refine wpList_load_mid rfl 38 _ rfl g (k*11) rfl (apC (b,.slice pv b.who.length cv)).toList _ hrg2 apT rfl (by kernel_rfl) ?_)|(refine aw rfl 38 _ _ rfl _ _ rfl rfl _ _ nZ (by kernel_rfl) rfl (fL _ _ _ _) ?_;rw[hC]))
       go_wp2_with fail
       go_roundw
       case rel=>exact⟨k+1,by go_num,by omega,HC.o⟩
       case measure=>simp[intOf];omega
     ·have hkj': ¬(k:Int)<(j:Int):=(by omega);go_wp2_with fail;go_roundw;case rel=>exact⟨j+1,by go_num,by omega,aq HB.o hbr2⟩
      case measure=>simp[intOf];omega
  ·have hjn': ¬(j:Int)<(n:Int):=(by omega);go_wp2_with fail;go_ret;exact⟨rfl,aq HBA.o hbr⟩
end
section
open Lx Vx Mx Msk
def oE (a b:Int):Ex:=⟨3,a,b,[],[]⟩
def fM (a b:Int):M:=fun i=>(decide (a<=(i:Int))&&decide ((i:Int)<b))&&decide (i<1440)
def oL (a b:Int):List Ru:=[([97],oE a b)]
theorem J2 {a b:Int}:fH (oL a b) ([97],oE a b)=[]:=by
 have:nms (oE a b)=[]:=by simp[oE,lu,jm]
 unfold fH;dsimp only;rw[this];rfl
theorem Nb {a b:Int}:ip (oL a b)=fun _=>[]:=by
 funext i;match i with
 |0=>exact(pR rfl).trans (by rw[J2];rfl)
 |i+1=>rfl
section
variable {a b:Int} (h:0<=a/\a<b/\b<=1440)
 include h
theorem LL:fG (oL a b)=(0,0):=by
 have s1:(shapeP (oE a b) 1 0).1=0:=by
  have:aloneP (oE a b)=0:=(by simp[aloneP,oE,kidsP,rangeP,h]);rw[jR,au (by decide),au (by simp[this])];rfl
 unfold fG oL jr ruleP;rw[s1];rfl
theorem E0:dj (oL a b)=(0,0):=by
 refine D5 (by rw[LL h]) ?_ ?_ ?_
 ·intro i hi;match i,hi with
  |0,_=>rfl
  |i+1,hi=>exact absurd hi (by show¬(i+1<1);omega)
 ·intro i hi;match i,hi with
  |0,_=>show decide (-1∈fH (oL a b) ([97],oE a b))=false;rw[J2];decide
  |i+1,hi=>exact absurd hi (by show¬(i+1<1);omega)
 ·intro i hi;unfold lk3;rw[Nb];match i,hi with
  |0,_=>rfl
  |i+1,hi=>exact absurd hi (by show¬(i+1<1);omega)
theorem J3:ie (oL a b)=(0,0):=by
 have hs:stdE (oE a b)=true:=by rw[ry];rfl
 have c0:(fz (oL a b)).getD 0 []=[⟨1,0,0,0,rs (mnE (oE a b)) 1440⟩]:=by rw[mi (u:=([97],oE a b)) rfl,nL hs]
 have m0:fR (oL a b) 0=(1,1):=by
  rw[ui (by rw[E0 h]) (by show 0<1;decide)];unfold lO;rw[c0];rfl
 unfold ie;rw[E0 h,au (by decide)]
 have:jG (fR (oL a b)) (oL a b).length 0= -1:=by
  show jG (fR (oL a b)) 1 0= -1;unfold jG;rw[m0,au (by decide)];rfl
 rw[this,au (by decide)]
theorem Nc (wk:Int->Bool)(day:Int):gY (oL a b) wk day 0=fM a b:=by
 rw[nK (by rw[E0 h]) (u:=([97],oE a b)) rfl,jh];rfl
end
end
section
open Lx Vx Mx Msk
def aS:List UInt8:=[114,117,108,101,32,97,32,61,32,48,57,58,48,48,45,49,55,58,48,48,59]
theorem Nd:kj aS=(0,oL 540 1020):=by kernel_rfl
theorem Nf:ia aS=(0,oL 540 1020):=by
 unfold ia;rw[Nd,au (by decide),J3 (by decide)]
def kI:Sv:=⟨60,0,0,[[0]]⟩
def aC:List Cm:=[⟨1,0,0,0,aS,[],sv0,0,0,[]⟩,⟨2,0,0,0,[],[97],sv0,0,0,[]⟩,⟨3,0,0,0,[],[],kI,0,0,[]⟩,⟨4,0,7,2,[],[],sv0,0,0,[]⟩,⟨5,0,0,0,[],[],sv0,7,540,[0]⟩]
def dA (aps:List Ap)(k:List Vx.Kp)(n:Int):Dk:=⟨oL 540 1020,[[97]],[kI],aps,[1],1,k,n⟩
theorem E1 (k:List Vx.Kp)(n day:Int)(h0:0<=day)(h1:day<146097):iN (eE (oL 540 1020)) k n 1 0 day=if mE k 1 0 day=true then⟨(k.getD (gc 0 day k 0).toNat k0).m,fI k (gc 0 day k 0)++[k.getD (gc 0 day k 0).toNat k0],n,0,0⟩ else⟨fM 540 1020,rS (fI k (gc 0 day k 0)++[⟨0,day,1,fM 540 1020⟩]),IntKind.i64.wrap (n+1),0,0⟩:=by
 obtain⟨e1,e2⟩:=BH (J3 (a:=540) (b:=1020) (by decide)) (i:=0) (by decide) h0 h1;rw[Nc (by decide)]at e2;have e1': ¬(iL (eE (oL 540 1020)) 0 day).1≠0:=fun c=>c e1;have e2':nz (eE (oL 540 1020)) 0 day=fM 540 1020:=e2;unfold iN;rw[au e1',e2']
theorem xW (aps:List Ap)(k:List Vx.Kp)(n day:Int):eU (dA aps k n) 0 day=((iN (eE (oL 540 1020)) k n 1 0 day).m,dA aps (iN (eE (oL 540 1020)) k n 1 0 day).l (iN (eE (oL 540 1020)) k n 1 0 day).n):=rfl
def kA (day:Int):Vx.Kp:=⟨0,day,1,fM 540 1020⟩
theorem a_7:eU (dA [] [] 0) 0 7=(fM 540 1020,dA [] [kA 7] 1):=by
 rw[xW,E1 _ _ _ (by decide) (by decide)];rfl
theorem a_8:eU (dA [] [kA 7] 1) 0 8=(fM 540 1020,dA [] [kA 7,kA 8] 2):=by
 rw[xW,E1 _ _ _ (by decide) (by decide)];rfl
theorem OC:eU (dA [] [kA 7,kA 8] 2) 0 7=(fM 540 1020,dA [] [kA 8,kA 7] 2):=by
 rw[xW,E1 _ _ _ (by decide) (by decide)];rfl
def mA:M:=r0 (fM 540 1020) (inl [])
theorem N3:it kI 7 2 0 (dA [] [] 0)=([[mA],[mA]],dA [] [kA 7,kA 8] 2):=by
 have f7:gZ (dA [] [] 0) ((0:Nat):Int) (7+((0:Nat):Int)) (-1)=(mA,dA [] [kA 7] 1):=by
  unfold gZ;show(r0 (eU (dA [] [] 0) 0 7).1 _,(eU (dA [] [] 0) 0 7).2)=_;rw[a_7];rfl
 have f8:gZ (dA [] [kA 7] 1) ((0:Nat):Int) (7+((1:Nat):Int)) (-1)=(mA,dA [] [kA 7,kA 8] 2):=by
  unfold gZ;show(r0 (eU (dA [] [kA 7] 1) 0 8).1 _,(eU (dA [] [kA 7] 1) 0 8).2)=_;rw[a_8];rfl
 have p7:fJ kI (7+((0:Nat):Int)) 1 0 (dA [] [] 0)=([mA],dA [] [kA 7] 1):=by
  unfold fJ;rw[ay (by decide),f7];rfl
 have p8:fJ kI (7+((1:Nat):Int)) 1 0 (dA [] [kA 7] 1)=([mA],dA [] [kA 7,kA 8] 2):=by
  unfold fJ;rw[ay (by decide),f8];rfl
 have w8:it kI 7 1 1 (dA [] [kA 7] 1)=([[mA]],dA [] [kA 7,kA 8] 2):=by
  show((fJ kI (7+((1:Nat):Int)) 1 0 (dA [] [kA 7] 1)).1::[],(fJ kI (7+((1:Nat):Int)) 1 0 (dA [] [kA 7] 1)).2)=_;rw[p8]
 show((fJ kI (7+((0:Nat):Int)) 1 0 (dA [] [] 0)).1::(it kI 7 1 1 (fJ kI (7+((0:Nat):Int)) 1 0 (dA [] [] 0)).2).1,(it kI 7 1 1 (fJ kI (7+((0:Nat):Int)) 1 0 (dA [] [] 0)).2).2)=_;rw[p7,w8]
theorem LM:lT 60 0 0 [[0]] [mA]=some (540,[0]):=by
 have e:rt 60 [mA] [[0]]=[540]:=by kernel_rfl
 have e2:io 60 [mA] [[0]]=[540]:=by
  unfold io;rw[e,List.mergeSort_singleton];rfl
 unfold lT;show(io 60 [mA] [[0]]).findSome? _=_;rw[e2];kernel_rfl
theorem Ng:jk (dA [] [] 0) 0 7 2=(⟨0,0,7,540,[0],[]⟩,dA [] [kA 7,kA 8] 2):=by
 have e:gy kI [[mA],[mA]]=⟨0,0,540,[0]⟩:=by
  have e1:ld kI [[mA],[mA]]=0:=(by decide)
  have e2:lg kI [[mA],[mA]] 0=some (0,540,[0]):=by
   unfold lg;show(match lT 60 0 0 [[0]] [mA] with|some x=>some (0,x.1,x.2)|none=>_)=_;rw[LM]
  unfold gy;rw[au (by decide),au (by rw[e1];decide),e2];rfl
 unfold jk;rw[au (by decide),au (by decide)];show(let q:=it kI 7 2 0 (dA [] [] 0);let f:=gy kI q.1;if f.err≠0 then(noA f.err,q.2) else((⟨0,0,f.day+7,f.min,f.who,[]⟩:An),q.2))=_;rw[N3];dsimp only;rw[e];rfl
def apA:Ap:=⟨1,10,540,600,0,0,0,60,7,540,[0]⟩
theorem Nh:lh (dA [] [kA 7,kA 8] 2) 0 7 540 [0]=(iW 0,dA [apA] [kA 8,kA 7] 2):=by
 have eb:kh 7 (-1) 540 600 0 (dA [] [kA 7,kA 8] 2)=(false,dA [] [kA 8,kA 7] 2):=by
  unfold kh gZ;rw[OC];have:gO mA 540 600=true:=(by kernel_rfl);show(!gO mA 540 600,_)=_;rw[this];rfl
 have ep:eJ (dA [] [kA 7,kA 8] 2) (-1) ⟨1,10,0,0,0,0,0,60,0,0,[]⟩ 7 540 [0]=((apA,0),dA [] [kA 8,kA 7] 2):=by
  have es:iX (kh 7 (-1) 540 600) [0] (dA [] [kA 7,kA 8] 2)=(false,dA [] [kA 8,kA 7] 2):=by
   show(if(kh 7 (-1) 540 600 0 (dA [] [kA 7,kA 8] 2)).1=true then _ else iX _ [] (kh 7 (-1) 540 600 0 (dA [] [kA 7,kA 8] 2)).2)=_;rw[eb];rfl
  unfold eJ;rw[au (by decide),au (by decide),au (by decide)];show(let b:=iX (kh 7 (-1) 540 600) [0] (dA [] [kA 7,kA 8] 2);_:(Ap×Int)×Dk)=_;rw[es];rfl
 unfold lh;rw[au (by decide),au (by decide)];show(let p:=eJ (dA [] [kA 7,kA 8] 2) (-1) ⟨1,10,0,0,0,0,0,60,0,0,[]⟩ 7 540 [0];_:An×Dk)=_;rw[ep];rfl
theorem Ni:fV dk0 aC=([noA 0,iW 0,iW 0,⟨0,0,7,540,[0],[]⟩,iW 0],dA [apA] [kA 8,kA 7] 2):=by
 have e1:doP dk0 ⟨1,0,0,0,aS,[],sv0,0,0,[]⟩=(noA 0,⟨oL 540 1020,[],[],[],[1],1,[],0⟩):=by
  show mT dk0 (ia aS)=_;rw[Nf]
  have ev:ph dk0 (oL 540 1020)=[1]:=by
   have hn:iY dk0.rules (oL 540 1020) (((0:Nat)):Int)=true:=rfl;show [if iY dk0.rules (oL 540 1020) (((0:Nat)):Int)=true\/_ then _ else _]=_;rw[ay (Or.inl hn)];rfl
  unfold mT;rw[au (by decide),ev];rfl
 have e2:doP ⟨oL 540 1020,[],[],[],[1],1,[],0⟩ ⟨2,0,0,0,[],[97],sv0,0,0,[]⟩=(iW 0,⟨oL 540 1020,[[97]],[],[],[1],1,[],0⟩):=rfl;have e3:doP ⟨oL 540 1020,[[97]],[],[],[1],1,[],0⟩ ⟨3,0,0,0,[],[],kI,0,0,[]⟩=(iW 0,dA [] [] 0):=rfl;have e4:doP (dA [] [] 0) ⟨4,0,7,2,[],[],sv0,0,0,[]⟩=(⟨0,0,7,540,[0],[]⟩,dA [] [kA 7,kA 8] 2):=Ng;have e5:doP (dA [] [kA 7,kA 8] 2) ⟨5,0,0,0,[],[],sv0,7,540,[0]⟩=(iW 0,dA [apA] [kA 8,kA 7] 2):=Nh;unfold aC;simp only[fV,e1,e2,e3,e4,e5]
end
end Go.Proofs.YtkfidffapdhbhaaGreatDoor
