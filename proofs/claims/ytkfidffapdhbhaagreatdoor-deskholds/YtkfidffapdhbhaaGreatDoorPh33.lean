/- Texts of the proof. -/
import Derived.Test.YtkfidffapdhbhaaGreatDoorPh32
set_option maxRecDepth 100000
set_option maxHeartbeats 8000000
namespace Go.Proofs.YtkfidffapdhbhaaGreatDoor
open Go.Proofs.Tryz Go.RowKit Lx Vx Mx Msk
structure Co where
 rules:List Ru
 res:List (List UInt8)
 svs:List Sv
 aps:List Ap
def coD (d:Dk):Co:=⟨d.rules,d.res,d.svs,d.aps⟩
def mS (c:Co)(r day:Int):M:=if atP5 c.rules (c.res.getD r.toNat [])<0 then noM else io c.rules (wkB day) day (atP5 c.rules (c.res.getD r.toNat [])).toNat
def fS (c:Co)(r day but:Int):M:=pN (mS c r day) (inl (ib r day but c.aps 0))
def fN (c:Co)(n:Int)(a:Ap)(day min:Int)(who:List Int):Ap×Int:=
 if isN day 146097=false\/isN min 1440=false then(ap0,3) else
 if min-a.bef<0\/1440<min+a.len+a.aft then(ap0,3) else
 if j6 who (c.svs.getD a.sv.toNat sv0).roles≠0 then(ap0,j6 who (c.svs.getD a.sv.toNat sv0).roles) else
 if(who.any fun r=> !fR (fS c r day n) (min-a.bef) (min+a.len+a.aft))=true then(ap0,10) else({a with fr:=min-a.bef,to:=min+a.len+a.aft,day:=day,min:=min,who:=who},0)
def jN (c:Co)(n:Int):Ap:=⟨1,10,0,0,n,(c.svs.getD n.toNat sv0).bef,(c.svs.getD n.toNat sv0).aft,(c.svs.getD n.toNat sv0).len,0,0,[]⟩
def iX (c:Co)(n day min:Int)(who:List Int):An×Co:=
 if isN n c.svs.length=false then(noA 6,c) else
 if 30<=c.aps.length then(noA 5,c) else
 if(fN c (-1) (jN c n) day min who).2≠0 then(noA (fN c (-1) (jN c n) day min who).2,c) else(iV c.aps.length,{c with aps:=c.aps++[(fN c (-1) (jN c n) day min who).1]})
def oH (c:Co)(n:Int)(f:Ap->Ap×Int):An×Co:=
 if isN n c.aps.length=false\/(c.aps.getD n.toNat ap0).st=3 then(noA 6,c) else
 if(f (c.aps.getD n.toNat ap0)).2≠0 then(noA (f (c.aps.getD n.toNat ap0)).2,c) else(noA 0,{c with aps:=c.aps.set n.toNat (f (c.aps.getD n.toNat ap0)).1})
def sK (c:Co)(t:Int):An×Co:=if t<0\/1000<t then(noA 3,c) else(noA 0,{c with aps:=c.aps.map (fg t)})
def N3 (c:Co)(name:List UInt8):An×Co:=
 if 12<=c.res.length then(noA 5,c) else if atP5 c.rules name<0 then(noA 7,c) else(iV c.res.length,{c with res:=c.res++[name]})
def N4 (c:Co)(s:Sv):An×Co:=
 if 8<=c.svs.length then(noA 5,c) else if fq s c.res.length≠0 then(noA (fq s c.res.length),c) else(iV c.svs.length,{c with svs:=c.svs++[s]})
def FB (c:Co)(s:Sv)(day:Int):Nat->Nat->List M
 |0,_=>[]
 |m+1,r=>(if s.roles.any (fun p=>decide ((r:Int)∈p))=true then fS c r day (-1) else noM)::FB c s day m (r+1)
def ua (c:Co)(s:Sv)(day:Int):Nat->Nat->List (List M)
 |0,_=>[]
 |m+1,i=>FB c s (day+i) c.res.length 0::ua c s day m (i+1)
def KS (c:Co)(n day days:Int):An×Co:=
 if isN n c.svs.length=false then(noA 6,c) else
 if isN day 146097=false\/days<1\/30<days\/146097<day+days then(noA 3,c) else
 if(gO (c.svs.getD n.toNat sv0) (ua c (c.svs.getD n.toNat sv0) day days.toNat 0)).err≠0 then(noA (gO (c.svs.getD n.toNat sv0) (ua c (c.svs.getD n.toNat sv0) day days.toNat 0)).err,c) else(⟨0,0,(gO (c.svs.getD n.toNat sv0) (ua c (c.svs.getD n.toNat sv0) day days.toNat 0)).day+day,(gO (c.svs.getD n.toNat sv0) (ua c (c.svs.getD n.toNat sv0) day days.toNat 0)).min,(gO (c.svs.getD n.toNat sv0) (ua c (c.svs.getD n.toNat sv0) day days.toNat 0)).who,[]⟩,c)
def ub (c:Co):List Ap->Nat->List Int
 |[],_=>[]
 |a::l,i=>if a.st≠3/\(a.who.any fun r=> !fR (mS c r a.day) a.fr a.to)=true then(i:Int)::ub c l (i+1) else ub c l (i+1)
def IA (c:Co)(r:Int×List Ru):An×Co:=if r.1≠0 then(noA r.1,c) else(⟨0,0,0,0,[],ub {c with rules:=r.2} c.aps 0⟩,{c with rules:=r.2})
def doS (c:Co)(x:Cm):An×Co:=
 if x.kind=1 then IA c (ir x.text) else
 if x.kind=2 then N3 c x.name else
 if x.kind=3 then N4 c x.sv else
 if x.kind=4 then KS c x.n x.day x.days else
 if x.kind=5 then iX c x.n x.sday x.smin x.swho else
 if x.kind=6 then oH c x.n (fun a=>(eX a 2,0)) else
 if x.kind=7 then oH c x.n (fun a=>(eX a 3,0)) else
 if x.kind=8 then oH c x.n (fun a=>fN c x.n a x.sday x.smin x.swho) else
 if x.kind=9 then sK c x.days else(noA 1,c)
def iY:Co->List Cm->List An×Co
 |c,[]=>([],c)
 |c,x::l=>((doS c x).1::(iY (doS c x).2 l).1,(iY (doS c x).2 l).2)
def co0:Co:=⟨[],[],[],[]⟩
structure DI (d:Dk):Prop where
 flt:iy d.rules=(0,0)
 vl:d.vers.length=d.rules.length
 kv: ∀e∈d.kept,e.v<=d.given
 vg: ∀v∈d.vers,v<=d.given
 ki: ∀e∈d.kept,∀i:Nat,e.r=(i:Int)->d.vers[i]? =some e.v->e.m=io d.rules (wkB e.d) e.d i
 ad: ∀a∈d.aps,0<=a.day/\a.day<146097
theorem Cg {l:List Ru}(h:iy l=(0,0)){i:Nat}(hi:i<l.length){day:Int}(h0:0<=day)(h1:day<146097):(jb (eU l) (i:Int) day).1=0/\oj (eU l) (i:Int) day=io l (wkB day) day i:=by
 have hf:(iy l).1=0:=by rw[h]
 have hw:=Dc (Iz hf)
 have he:(jb (eU l) (i:Int) day).1=0:=by
  unfold jb;rw[hw,ax (by simp),wf,ax (by omega),ax (by omega)]
 refine⟨he,?_⟩;unfold oj;rw[aD he,cZ,Mw];refine DY (uS hf).1 _ _ _ _ hi ?_;rw[wf];have:=zQ l (i:Int);unfold muR;omega
theorem Kq {l:List Vx.Kp}{i:Int}{e:Vx.Kp}(h:e∈fY l i):e∈l:=by
 unfold fY at h;split at h
 ·rcases bU.1 h with h|h
  ·exact List.mem_of_mem_take h
  ·exact List.mem_of_mem_drop h
 ·exact h
theorem uT {l:List Vx.Kp}{i:Int}{e x:Vx.Kp}(h:x∈fY l i++[e]):x∈l\/x=e:=(bU.1 h).imp Kq bT.1
theorem Ch {d:Dk}(h:DI d)(r:Int){day:Int}(h0:0<=day)(h1:day<146097):(fi d r day).1=mS (coD d) r day/\DI (fi d r day).2/\coD (fi d r day).2=coD d:=by
 have hb:=oh d.rules (d.res.getD r.toNat []);by_cases hk:atP5 d.rules (d.res.getD r.toNat [])<0
 ·have e:fi d r day=(noM,d):=aD hk;rw[e];exact⟨(aD hk).symm,h,rfl⟩
 ·obtain⟨i,ek⟩: ∃i:Nat,atP5 d.rules (d.res.getD r.toNat [])=(i:Int):=⟨(atP5 d.rules (d.res.getD r.toNat [])).toNat,by omega⟩
  have e:fi d r day=((jd (eU d.rules) d.kept d.runs (d.vers.getD i 0) (i:Int) day).m,{d with kept:=(jd (eU d.rules) d.kept d.runs (d.vers.getD i 0) (i:Int) day).l,runs:=(jd (eU d.rules) d.kept d.runs (d.vers.getD i 0) (i:Int) day).n}):=by
   unfold fi;dsimp only;rw[ax hk,ek,cZ]
  have e':mS (coD d) r day=io d.rules (wkB day) day i:=by
   unfold mS coD;dsimp only;rw[ax hk,ek,cZ]
  rw[e,e'];rw[ek]at hb;clear e e' hk ek;have hi:i<d.rules.length:=(by omega);obtain⟨v,hv⟩: ∃v,d.vers[i]? =some v:=⟨d.vers[i]'(by rw[h.vl];exact hi),az _⟩
  have hvd:d.vers.getD i 0=v:=(by simp[List.getD,hv]);obtain⟨he,hm⟩:=Cg h.flt hi h0 h1;rw[hvd];unfold jd;by_cases hh:mX d.kept v (i:Int) day=true
  ·rw[aD hh];obtain⟨n,e,e1,e2,e3,e4,e5,e6⟩:=NY hh;dsimp only;rw[e6];have hmem:=aM e2;have em:e.m=io d.rules (wkB day) day i:=(by rw[<-e4];exact h.ki e hmem i e3 (by rw[e5];exact hv));refine⟨em,⟨h.flt,h.vl,fun x hx=> ?_,h.vg,fun x hx=> ?_,h.ad⟩,rfl⟩
   ·rcases uT hx with hx|rfl
    ·exact h.kv x hx
    ·exact h.kv _ hmem
   ·rcases uT hx with hx|rfl
    ·exact h.ki x hx
    ·exact h.ki _ hmem
  ·rw[ax hh,ax (fun c=>c he)];dsimp only;rw[hm];refine⟨rfl,⟨h.flt,h.vl,fun x hx=> ?_,h.vg,fun x hx=> ?_,h.ad⟩,rfl⟩
   ·rcases uT (List.mem_of_mem_drop hx) with hx|rfl
    ·exact h.kv x hx
    ·exact h.vg _ (aM hv)
   ·rcases uT (List.mem_of_mem_drop hx) with hx|rfl
    ·exact h.ki x hx
    ·intro j ej _
     have:j=i:=by
      have e:(i:Int)=(j:Int):=ej;omega
     subst this;rfl
def Ste (d:Dk)(d':Dk):Prop:=DI d'/\coD d'=coD d
theorem DZ {d:Dk}(h:DI d)(r but:Int){day:Int}(h0:0<=day)(h1:day<146097):(ip d r day but).1=fS (coD d) r day but/\Ste d (ip d r day but).2:=by
 obtain⟨a,b,c⟩:=Ch h r h0 h1;exact⟨by unfold ip fS;rw[a];rfl,b,c⟩
theorem Ci {f:Int->Dk->Bool×Dk}{g:Co->Int->Bool}(hf: ∀x d,DI d->(f x d).1=g (coD d) x/\Ste d (f x d).2): ∀(l:List Int) (d:Dk),DI d->(jn f l d).1=l.any (g (coD d))/\Ste d (jn f l d).2
 |[],d,h=>⟨rfl,h,rfl⟩
 |x::l,d,h=>by
  obtain⟨a,b,c⟩:=hf x d h;unfold jn;by_cases e:(f x d).1=true
  ·rw[aD e];refine⟨?_,b,c⟩;rw[List.any_cons,<-a,e];rfl
  ·rw[ax e];obtain⟨a',b',c'⟩:=Ci hf l (f x d).2 b;refine⟨?_,b',c'.trans c⟩;rw[a',c,List.any_cons,<-a];simp[e]
theorem wg {d:Dk}(h:DI d)(n:Int)(a:Ap)(day min:Int)(who:List Int):(eW d n a day min who).1=fN (coD d) n a day min who/\Ste d (eW d n a day min who).2:=by
 unfold eW fN;by_cases h1:isN day 146097=false\/isN min 1440=false
 ·rw[aD h1,aD h1];exact⟨rfl,h,rfl⟩
 rw[ax h1,ax h1];by_cases h2:min-a.bef<0\/1440<min+a.len+a.aft
 ·rw[aD h2,aD h2];exact⟨rfl,h,rfl⟩
 rw[ax h2,ax h2];show((if j6 who (d.svs.getD a.sv.toNat sv0).roles≠0 then _ else _:(Ap×Int)×Dk).1=(if j6 who (d.svs.getD a.sv.toNat sv0).roles≠0 then _ else _))/\_;by_cases h3:j6 who (d.svs.getD a.sv.toNat sv0).roles≠0
 ·rw[aD h3,aD h3];exact⟨rfl,h,rfl⟩
 rw[ax h3,ax h3]
 have hd:0<=day/\day<146097:=by
  have:isN day 146097=true:=(by simpa using fun c=>h1 (.inl c));simpa[isN] using this
 obtain⟨p,q⟩:=Ci (g:=fun c r=> !fR (fS c r day n) (min-a.bef) (min+a.len+a.aft)) (f:=kR day n (min-a.bef) (min+a.len+a.aft)) (fun x d h=>by
  obtain⟨e1,e2⟩:=DZ h x n hd.1 hd.2;exact⟨by unfold kR;rw[e1],e2⟩) who d h
 dsimp only;rw[p];split
 ·exact⟨rfl,q⟩
 ·exact⟨rfl,q⟩
theorem Cj (s:Sv){day:Int}(h0:0<=day)(h1:day<146097): ∀(m r:Nat) (d:Dk),DI d->(fZ s day m r d).1=FB (coD d) s day m r/\Ste d (fZ s day m r d).2
 |0,_,d,h=>⟨rfl,h,rfl⟩
 |m+1,r,d,h=>by
  unfold fZ FB;dsimp only;split
  ·obtain⟨a,b,c⟩:=DZ h (r:Int) (-1) h0 h1;obtain⟨a',b',c'⟩:=Cj s h0 h1 m (r+1) _ b;exact⟨by rw[a,a',c],b',c'.trans c⟩
  ·obtain⟨a',b',c'⟩:=Cj s h0 h1 m (r+1) d h;exact⟨by rw[a'],b',c'⟩
theorem IB (s:Sv){day:Int}(h0:0<=day): ∀(m i:Nat) (d:Dk),DI d->day+i+m<=146097->(iM s day m i d).1=ua (coD d) s day m i/\Ste d (iM s day m i d).2
 |0,_,d,h,_=>⟨rfl,h,rfl⟩
 |m+1,i,d,h,hm=>by
  unfold iM ua;dsimp only;obtain⟨a,b,c⟩:=Cj s (day:=day+i) (by omega) (by omega) d.res.length 0 d h;obtain⟨a',b',c'⟩:=IB s h0 m (i+1) _ b (by omega);exact⟨by rw[a,a',c];rfl,b',c'.trans c⟩
theorem Ck: ∀(N:Nat) (a b:Ex),lJ N a b=true->a=b
 |0,_,_,h=>by cases h
 |N+1,a,b,h=>by
  unfold lJ at h;simp only[bx,cg,dr]at h;obtain⟨⟨⟨⟨h1,h2⟩,h3⟩,h4⟩,h5,h6⟩:=h;have hk:a.kids=b.kids:=List.ext_getElem h5 fun i hi hj=>Ck N _ _ (h6 (a.kids[i],b.kids[i]) (List.mem_iff_getElem.2 ⟨i,by simp;omega,by simp⟩));cases a;cases b;simp only at h1 h2 h3 h4 hk;subst h1 h2 h3 h4 hk;rfl
theorem yN {old new:List Ru}{k:Nat}(h:jo old new (k:Int)=false): ∃u,old[k]? =some u/\new[k]? =some u:=by
 unfold jo at h;rw[cZ]at h;cases ha:old[k]? with
 |none=>rw[ha]at h;cases h
 |some a=>
  cases hb:new[k]? with
  |none=>rw[ha,hb]at h;cases h
  |some b=>
   rw[ha,hb]at h;simp only[Bool.or_eq_false_iff,Bool.not_eq_false']at h;have h2:=h.2;unfold pO at h2;simp only[bx,cg]at h2;have:a=b:=Prod.ext h2.1 (Ck _ _ _ h2.2);exact⟨a,rfl,by rw[this]⟩
theorem My {l:List Ru}(h:(dq l).1=0){k:Nat}{u:Ru}(hu:l[k]? =some u):atP5 l u.1=(k:Int):=by
 have h1:=(DH h).1 k (aF.1 hu).1;unfold lk1 at h1;rw[hu]at h1;simpa using h1
theorem Am {L L':List Ru}(hc:(dq L).1=0)(hc':(dq L').1=0)(wk:Int->Bool)(day:Int): ∀(m i:Nat),muR L' i<m->i<L'.length->jo L L' (i:Int)=false->(∀k∈gh L' (i:Int),jo L L' k=false)->io L wk day i=io L' wk day i
 |0,_,h,_,_,_=>by omega
 |m+1,i,hm,hi,hn,hu=>by
  obtain⟨u,h1,h2⟩:=yN hn;rw[oy hc h1,oy hc' h2];refine ni _ u.2 (aB _) fun x hx=> ?_;obtain⟨q0,q1,_⟩:=rW hc' (aM h2) hx;obtain⟨k,ek⟩: ∃k:Nat,atP5 L' x=(k:Int):=⟨(atP5 L' x).toNat,by omega⟩
  have hl:=np hc' h2 hx;rw[ek,cZ]at hl;have hw:Lx.Way (fun a b=>(iJ L' a).contains b) i k:=Relation.TransGen.single (by simpa using hl);have hkl:k<L'.length:=(by omega);have hku:(k:Int)∈gh L' (i:Int):=(mD hc' hi).2 ⟨k,rfl,hkl,hw⟩;have hnk:=hu _ hku;obtain⟨v,v1,v2⟩:=yN hnk
  have hvx:v.1=x:=by
   obtain⟨v',e1,e2⟩:=GI ek;rw[v2]at e1;cases e1;exact e2
  have eL:atP5 L x=(k:Int):=(by rw[<-hvx];exact My hc v1);rw[eL,ek,cZ];refine Am hc hc' wk day m k (by have:=rS hc' hi hl;omega) hkl hnk fun j hj=>hu j ?_;obtain⟨j',e,hjl,hjw⟩:=(mD hc' hkl).1 hj;exact(mD hc' hi).2 ⟨j',e,hjl,hw.trans hjw⟩
theorem Mz {t:List UInt8}(h:(ir t).1=0):iy (ir t).2=(0,0):=by
 unfold ir at h⊢;split at h
 ·rename_i h1;exact absurd h h1
 ·rename_i h1;rw[ax h1];exact Aj h
structure DJ (d:Dk):Prop extends DI d where
 gv:0<=d.given
theorem Ste.j {d d':Dk}(h:DJ d)(hs:Ste d d')(hg:d'.given=d.given):DJ d':=⟨hs.1,by rw[hg];exact h.gv⟩
theorem Dd {d:Dk}(h:DJ d){l:List Ru}(hl:iy l=(0,0)):DI {d with rules:=l,vers:=pP d l,given:=d.given+1}:=by
 have hlen:(pP d l).length=l.length:=by simp[pP]
 refine⟨hl,hlen,fun e he=>by have:=h.kv e he;show e.v<=d.given+1;omega,fun v hv=> ?_,fun e he i ei hv=> ?_,h.ad⟩
 ·show v<=d.given+1;unfold pP at hv;obtain⟨i,_,rfl⟩:=dU.1 hv;split
  ·omega
  ·by_cases q:i<d.vers.length
   ·have:=h.vg (d.vers.getD i 0) (by simp[List.getD,az q]);omega
   ·have:d.vers.getD i 0=0:=(by simp[List.getD,eV (by omega:d.vers.length<=i)]);have:=h.gv;omega
 ·show e.m=io l (wkB e.d) e.d i;have hi:i<l.length:=(by rw[<-hlen];exact(aF.1 hv).1);have hv2:(pP d l)[i]? =some e.v:=hv;unfold pP at hv2;rw[bg,List.getElem?_range hi]at hv2;replace hv2:(if jo d.rules l (i:Int)=true\/(gh l (i:Int)).any (jo d.rules l)=true then d.given+1 else d.vers.getD i 0)=e.v:=aN hv2;by_cases q:jo d.rules l (i:Int)=true\/(gh l (i:Int)).any (jo d.rules l)=true
  ·rw[aD q]at hv2;have:=h.kv e he;omega
  ·rw[ax q]at hv2;have q1:jo d.rules l (i:Int)=false:=(by simpa using fun c=>q (.inl c))
   have q2: ∀k∈gh l (i:Int),jo d.rules l k=false:=fun k hk=>by
    have: ¬(gh l (i:Int)).any (jo d.rules l)=true:=fun c=>q (.inr c);simp only[List.any_eq_true,not_exists,not_and]at this;simpa using this k hk
   obtain⟨u,u1,_⟩:=yN q1;have hio:i<d.vers.length:=(by rw[h.vl];exact(aF.1 u1).1)
   have hvo:d.vers[i]? =some e.v:=by
    rw[<-hv2,az hio];simp[List.getD,az hio]
   rw[h.ki e he i ei hvo];exact Am (uS (by rw[h.flt])).1 (uS (by rw[hl])).1 _ _ _ i (Nat.lt_succ_self _) hi q1 q2
theorem wh: ∀(l:List Ap) (i:Nat) (d:Dk),DI d->(∀a∈l,0<=a.day/\a.day<146097)->(eY l i d).1=ub (coD d) l i/\Ste d (eY l i d).2
 |[],_,d,h,_=>⟨rfl,h,rfl⟩
 |a::l,i,d,h,hd=>by
  unfold eY ub;by_cases hs:a.st=3
  ·rw[aD hs,ax (fun c=>c.1 hs)];exact wh l (i+1) d h fun b hb=>hd b (bH _ hb)
  ·rw[ax hs];have ha:=hd a bq
   obtain⟨p,q1,q2⟩:=Ci (g:=fun c r=> !fR (mS c r a.day) a.fr a.to) (f:=kY a.day a.fr a.to) (fun x d h=>by
    obtain⟨e1,e2,e3⟩:=Ch h x ha.1 ha.2;exact⟨by unfold kY;rw[e1],e2,e3⟩) a.who d h
   obtain⟨p',q1',q2'⟩:=wh l (i+1) _ q1 fun b hb=>hd b (bH _ hb);dsimp only;refine⟨?_,q1',q2'.trans q2⟩;rw[p',q2,p];by_cases e:(a.who.any fun r=> !fR (mS (coD d) r a.day) a.fr a.to)=true
   ·rw[aD e,aD ⟨hs,e⟩]
   ·rw[ax e,ax fun c=>e c.2]
theorem D0 {c:Co}{n:Int}{a:Ap}{day min:Int}{who:List Int}(h:(fN c n a day min who).2=0):0<=(fN c n a day min who).1.day/\(fN c n a day min who).1.day<146097:=by
 unfold fN at h⊢;split
 ·rename_i h1;rw[aD h1]at h;cases h
 rename_i h1;rw[ax h1]at h;split
 ·rename_i h2;rw[aD h2]at h;cases h
 rename_i h2;rw[ax h2]at h;split
 ·rename_i h3;rw[aD h3]at h;exact absurd h h3
 rename_i h3;rw[ax h3]at h;split
 ·rename_i h4;rw[aD h4]at h;cases h
 have:isN day 146097=true:=by simpa using fun c=>h1 (.inl c)
 simpa[isN] using this
def Rl (p:An×Dk)(q:An×Co):Prop:=p.1=q.1/\coD p.2=q.2/\DJ p.2
theorem Rl.ite {c:Prop}[Decidable c]{p p':An×Dk}{q q':An×Co}(h:c->Rl p q)(h': ¬c->Rl p' q'):Rl (if c then p else p') (if c then q else q'):=by
 by_cases e:c
 ·rw[aD e,aD e];exact h e
 ·rw[ax e,ax e];exact h' e
theorem ud {n m:Int}(h: ¬isN n m=false):0<=n/\n<m:=by
 have:isN n m=true:=by simpa using h
 simpa[isN] using this
theorem Rl.aps {d d':Dk}(h:DJ d)(hs:Ste d d')(hg:d'.given=d.given)(a:An){l:List Ap}(hl: ∀x∈l,0<=x.day/\x.day<146097):Rl (a,{d' with aps:=l}) (a,{coD d with aps:=l}):=by
 have e:=hs.2;unfold coD at e;simp only[Co.mk.injEq]at e;refine⟨rfl,?_,⟨⟨hs.1.flt,hs.1.vl,hs.1.kv,hs.1.vg,hs.1.ki,hl⟩,by show 0<=d'.given;rw[hg];exact h.gv⟩⟩;unfold coD;simp only[Co.mk.injEq];exact⟨e.1,e.2.1,e.2.2.1,trivial⟩
theorem Cl {d:Dk}(h:DJ d)(n:Int)(f:Ap->Dk->(Ap×Int)×Dk)(g:Ap->Ap×Int)(hf: ∀a,(f a d).1=g a/\Ste d (f a d).2/\Cor d (f a d).2)(hg: ∀a∈d.aps,(g a).2=0->0<=(g a).1.day/\(g a).1.day<146097):Rl (it d n f) (oH (coD d) n g):=by
 unfold it oH;refine .ite (fun _=>⟨rfl,rfl,h⟩) fun h1=> ?_;obtain⟨p,q,r⟩:=hf (d.aps.getD n.toNat ap0);dsimp only;rw[p];refine .ite (fun _=>⟨rfl,q.2,q.j h r.given⟩) fun h2=> ?_;have eap:(f (d.aps.getD n.toNat ap0) d).2.aps=d.aps:=congrArg Co.aps q.2;rw[eap];refine .aps h q r.given _ fun a ha=> ?_;rcases List.mem_or_eq_of_mem_set ha with ha|rfl
 ·exact h.ad a ha
 ·have hn:=ud fun c=>h1 (.inl c);have hn':n.toNat<d.aps.length:=(by omega);exact hg _ (by simp[List.getD,az hn']) (by simpa using h2)
theorem OZ {d:Dk}(h:DJ d)(x:Cm):Rl (doP d x) (doS (coD d) x):=by
 have no: ∀a,Rl (a,d) (a,coD d):=fun a=>⟨rfl,rfl,h⟩
 unfold doP doS;refine .ite (fun _=> ?_) fun _=> .ite (fun _=> ?_) fun _=> .ite (fun _=> ?_) fun _=> .ite (fun _=> ?_) fun _=> .ite (fun _=> ?_) fun _=> .ite (fun _=> ?_) fun _=> .ite (fun _=> ?_) fun _=> .ite (fun _=> ?_) fun _=> .ite (fun _=> ?_) fun _=>no _
 ·refine .ite (fun _=>no _) fun e=> ?_;obtain⟨p,q⟩:=wh d.aps 0 _ (Dd h (Mz (by simpa using e))) h.ad;dsimp only;refine⟨by rw[p];rfl,q.2,q.1,?_⟩;rw[(pQ d.aps 0 _).given];have:=h.gv;show 0<=d.given+1;omega
 ·exact .ite (fun _=>no _) fun _=> .ite (fun _=>no _) fun _=>⟨rfl,rfl,⟨⟨h.flt,h.vl,h.kv,h.vg,h.ki,h.ad⟩,h.gv⟩⟩
 ·exact .ite (fun _=>no _) fun _=> .ite (fun _=>no _) fun _=>⟨rfl,rfl,⟨⟨h.flt,h.vl,h.kv,h.vg,h.ki,h.ad⟩,h.gv⟩⟩
 ·refine .ite (fun _=>no _) fun _=> .ite (fun _=>no _) fun e2=> ?_;have hd:=ud fun c=>e2 (.inl c);obtain⟨p,q⟩:=IB (d.svs.getD x.n.toNat sv0) hd.1 x.days.toNat 0 d h.toDI (by omega);have hg:=(we (d.svs.getD x.n.toNat sv0) x.day x.days.toNat 0 d).given;dsimp only;rw[p];exact .ite (fun _=>⟨rfl,q.2,q.j h hg⟩) fun _=>⟨rfl,q.2,q.j h hg⟩
 ·refine .ite (fun _=>no _) fun _=> .ite (fun _=>no _) fun _=> ?_;obtain⟨p,q⟩:=wg h.toDI (-1) (jN (coD d) x.n) x.sday x.smin x.swho;have hg:=(mf d (-1) (jN (coD d) x.n) x.sday x.smin x.swho).given;have eap:(eW d (-1) (jN (coD d) x.n) x.sday x.smin x.swho).2.aps=d.aps:=congrArg Co.aps q.2;have hN:(⟨1,10,0,0,x.n,(d.svs.getD x.n.toNat sv0).bef,(d.svs.getD x.n.toNat sv0).aft,(d.svs.getD x.n.toNat sv0).len,0,0,[]⟩:Ap)=jN (coD d) x.n:=rfl;dsimp only;rw[hN,p,eap];refine .ite (fun _=>⟨rfl,q.2,q.j h hg⟩) fun e3=> .aps h q hg _ fun a ha=> ?_;rcases bU.1 ha with ha|ha
  ·exact h.ad a ha
  ·cases bT.1 ha;exact D0 (by simpa using e3)
 ·exact Cl h _ _ _ (fun a=>⟨rfl,⟨h.toDI,rfl⟩,Cor.refl d⟩) fun a ha _=>h.ad a ha
 ·exact Cl h _ _ _ (fun a=>⟨rfl,⟨h.toDI,rfl⟩,Cor.refl d⟩) fun a ha _=>h.ad a ha
 ·exact Cl h _ _ _ (fun a=>⟨(wg h.toDI _ a _ _ _).1,(wg h.toDI _ a _ _ _).2,mf d _ a _ _ _⟩) fun a _ e=>D0 e
 ·refine .ite (fun _=>no _) fun _=> .aps h ⟨h.toDI,rfl⟩ rfl _ fun a ha=> ?_;obtain⟨b,hb,rfl⟩:=dU.1 ha;have:=h.ad b hb;unfold fg eX;split
  ·exact this
  split<;>exact this
theorem D1: ∀(l:List Cm) (d:Dk),DJ d->(playP d l).1=(iY (coD d) l).1/\coD (playP d l).2=(iY (coD d) l).2/\DJ (playP d l).2
 |[],d,h=>⟨rfl,rfl,h⟩
 |x::l,d,h=>by
  obtain⟨a,b,c⟩:=OZ h x;obtain⟨a',b',c'⟩:=D1 l _ c;unfold playP iY;rw[<-a,<-b];exact⟨by rw[a'],b',c'⟩
theorem N5:DJ dk0:=⟨⟨xY.flt,xY.vl,(fun e he=>by cases he),(fun e he=>by cases he),(fun e he=>by cases he),(fun e he=>by cases he)⟩,xY.gv.1⟩
theorem Cn (l:List Cm):(playP dk0 l).1=(iY co0 l).1/\coD (playP dk0 l).2=(iY co0 l).2/\DJ (playP dk0 l).2:=D1 l dk0 N5
section
def oE (a b:Int):Ex:=⟨3,a,b,[],[]⟩
def fM (a b:Int):M:=fun i=>(decide (a<=(i:Int))&&decide ((i:Int)<b))&&decide (i<1440)
def oL (a b:Int):List Ru:=[([97],oE a b)]
theorem KU {a b:Int}:fX (oL a b) ([97],oE a b)=[]:=by
 have:nms (oE a b)=[]:=by simp[oE,lO,jF]
 unfold fX;dsimp only;rw[this];rfl
theorem N6 {a b:Int}:iJ (oL a b)=fun _=>[]:=by
 funext i;match i with
 |0=>exact(qr rfl).trans (by rw[KU];rfl)
 |i+1=>rfl
section
variable {a b:Int} (h:0<=a/\a<b/\b<=1440)
 include h
theorem MA:fW (oL a b)=(0,0):=by
 have s1:(shapeP (oE a b) 1 0).1=0:=by
  have:aloneP (oE a b)=0:=(by simp[aloneP,oE,kidsP,rangeP,h]);rw[kE,ax (by decide),ax (by simp[this])];rfl
 unfold fW oL jK ruleP;rw[s1];rfl
theorem FC:dq (oL a b)=(0,0):=by
 refine EJ (by rw[MA h]) ?_ ?_ ?_
 ·intro i hi;match i,hi with
  |0,_=>rfl
  |i+1,hi=>exact absurd hi (by show¬(i+1<1);omega)
 ·intro i hi;match i,hi with
  |0,_=>show decide (-1∈fX (oL a b) ([97],oE a b))=false;rw[KU];decide
  |i+1,hi=>exact absurd hi (by show¬(i+1<1);omega)
 ·intro i hi;unfold lk3;rw[N6];match i,hi with
  |0,_=>rfl
  |i+1,hi=>exact absurd hi (by show¬(i+1<1);omega)
theorem KV:iy (oL a b)=(0,0):=by
 have hs:stdE (oE a b)=true:=by rw[rU];rfl
 have c0:(fL (oL a b)).getD 0 []=[⟨1,0,0,0,rs (mnE (oE a b)) 1440⟩]:=by rw[mG (u:=([97],oE a b)) rfl,oz hs]
 have m0:gu (oL a b) 0=(1,1):=by
  rw[uP (by rw[FC h]) (by show 0<1;decide)];unfold mg;rw[c0];rfl
 unfold iy;rw[FC h,ax (by decide)]
 have:jZ (gu (oL a b)) (oL a b).length 0= -1:=by
  show jZ (gu (oL a b)) 1 0= -1;unfold jZ;rw[m0,ax (by decide)];rfl
 rw[this,ax (by decide)]
theorem N7 (wk:Int->Bool)(day:Int):io (oL a b) wk day 0=fM a b:=by
 rw[oy (by rw[FC h]) (u:=([97],oE a b)) rfl,jB];rfl
end
end
def aS:List UInt8:=[114,117,108,101,32,97,32,61,32,48,57,58,48,48,45,49,55,58,48,48,59]
theorem N8:kS aS=(0,oL 540 1020):=by kernel_rfl
theorem N9:ir aS=(0,oL 540 1020):=by
 unfold ir;rw[N8,ax (by decide),KV (by decide)]
def kZ:Sv:=⟨60,0,0,[[0]]⟩
def aC:List Cm:=[⟨1,0,0,0,aS,[],sv0,0,0,[]⟩,⟨2,0,0,0,[],[97],sv0,0,0,[]⟩,⟨3,0,0,0,[],[],kZ,0,0,[]⟩,⟨4,0,7,2,[],[],sv0,0,0,[]⟩,⟨5,0,0,0,[],[],sv0,7,540,[0]⟩]
def dA (aps:List Ap)(k:List Vx.Kp)(n:Int):Dk:=⟨oL 540 1020,[[97]],[kZ],aps,[1],1,k,n⟩
theorem FD (k:List Vx.Kp)(n day:Int)(h0:0<=day)(h1:day<146097):jd (eU (oL 540 1020)) k n 1 0 day=if mX k 1 0 day=true then⟨(k.getD (gI 0 day k 0).toNat k0).m,fY k (gI 0 day k 0)++[k.getD (gI 0 day k 0).toNat k0],n,0,0⟩ else⟨fM 540 1020,sw (fY k (gI 0 day k 0)++[⟨0,day,1,fM 540 1020⟩]),IntKind.i64.wrap (n+1),0,0⟩:=by
 obtain⟨e1,e2⟩:=Cg (KV (a:=540) (b:=1020) (by decide)) (i:=0) (by decide) h0 h1;rw[N7 (by decide)]at e2;have e1': ¬(jb (eU (oL 540 1020)) 0 day).1≠0:=fun c=>c e1;have e2':oj (eU (oL 540 1020)) 0 day=fM 540 1020:=e2;unfold jd;rw[ax e1',e2']
theorem yO (aps:List Ap)(k:List Vx.Kp)(n day:Int):fi (dA aps k n) 0 day=((jd (eU (oL 540 1020)) k n 1 0 day).m,dA aps (jd (eU (oL 540 1020)) k n 1 0 day).l (jd (eU (oL 540 1020)) k n 1 0 day).n):=rfl
def kA (day:Int):Vx.Kp:=⟨0,day,1,fM 540 1020⟩
theorem a_7:fi (dA [] [] 0) 0 7=(fM 540 1020,dA [] [kA 7] 1):=by
 rw[yO,FD _ _ _ (by decide) (by decide)];rfl
theorem a_8:fi (dA [] [kA 7] 1) 0 8=(fM 540 1020,dA [] [kA 7,kA 8] 2):=by
 rw[yO,FD _ _ _ (by decide) (by decide)];rfl
theorem Pz:fi (dA [] [kA 7,kA 8] 2) 0 7=(fM 540 1020,dA [] [kA 8,kA 7] 2):=by
 rw[yO,FD _ _ _ (by decide) (by decide)];rfl
def mA:M:=pN (fM 540 1020) (inl [])
theorem O0:iM kZ 7 2 0 (dA [] [] 0)=([[mA],[mA]],dA [] [kA 7,kA 8] 2):=by
 have f7:ip (dA [] [] 0) ((0:Nat):Int) (7+((0:Nat):Int)) (-1)=(mA,dA [] [kA 7] 1):=by
  unfold ip;show(pN (fi (dA [] [] 0) 0 7).1 _,(fi (dA [] [] 0) 0 7).2)=_;rw[a_7];rfl
 have f8:ip (dA [] [kA 7] 1) ((0:Nat):Int) (7+((1:Nat):Int)) (-1)=(mA,dA [] [kA 7,kA 8] 2):=by
  unfold ip;show(pN (fi (dA [] [kA 7] 1) 0 8).1 _,(fi (dA [] [kA 7] 1) 0 8).2)=_;rw[a_8];rfl
 have p7:fZ kZ (7+((0:Nat):Int)) 1 0 (dA [] [] 0)=([mA],dA [] [kA 7] 1):=by
  unfold fZ;rw[aD (by decide),f7];rfl
 have p8:fZ kZ (7+((1:Nat):Int)) 1 0 (dA [] [kA 7] 1)=([mA],dA [] [kA 7,kA 8] 2):=by
  unfold fZ;rw[aD (by decide),f8];rfl
 have w8:iM kZ 7 1 1 (dA [] [kA 7] 1)=([[mA]],dA [] [kA 7,kA 8] 2):=by
  show((fZ kZ (7+((1:Nat):Int)) 1 0 (dA [] [kA 7] 1)).1::[],(fZ kZ (7+((1:Nat):Int)) 1 0 (dA [] [kA 7] 1)).2)=_;rw[p8]
 show((fZ kZ (7+((0:Nat):Int)) 1 0 (dA [] [] 0)).1::(iM kZ 7 1 1 (fZ kZ (7+((0:Nat):Int)) 1 0 (dA [] [] 0)).2).1,(iM kZ 7 1 1 (fZ kZ (7+((0:Nat):Int)) 1 0 (dA [] [] 0)).2).2)=_;rw[p7,w8]
theorem MB:mo 60 0 0 [[0]] [mA]=some (540,[0]):=by
 have e:rR 60 [mA] [[0]]=[540]:=by kernel_rfl
 have e2:iH 60 [mA] [[0]]=[540]:=by
  unfold iH;rw[e,List.mergeSort_singleton];rfl
 unfold mo;show(iH 60 [mA] [[0]]).findSome? _=_;rw[e2];kernel_rfl
theorem Oa:jD (dA [] [] 0) 0 7 2=(⟨0,0,7,540,[0],[]⟩,dA [] [kA 7,kA 8] 2):=by
 have e:gO kZ [[mA],[mA]]=⟨0,0,540,[0]⟩:=by
  have e1:lG kZ [[mA],[mA]]=0:=(by decide)
  have e2:lH kZ [[mA],[mA]] 0=some (0,540,[0]):=by
   unfold lH;show(match mo 60 0 0 [[0]] [mA] with|some x=>some (0,x.1,x.2)|none=>_)=_;rw[MB]
  unfold gO;rw[ax (by decide),ax (by rw[e1];decide),e2];rfl
 unfold jD;rw[ax (by decide),ax (by decide)];show(let q:=iM kZ 7 2 0 (dA [] [] 0);let f:=gO kZ q.1;if f.err≠0 then(noA f.err,q.2) else((⟨0,0,f.day+7,f.min,f.who,[]⟩:An),q.2))=_;rw[O0];dsimp only;rw[e];rfl
def apA:Ap:=⟨1,10,540,600,0,0,0,60,7,540,[0]⟩
theorem Ob:lI (dA [] [kA 7,kA 8] 2) 0 7 540 [0]=(iV 0,dA [apA] [kA 8,kA 7] 2):=by
 have eb:kR 7 (-1) 540 600 0 (dA [] [kA 7,kA 8] 2)=(false,dA [] [kA 8,kA 7] 2):=by
  unfold kR ip;rw[Pz];have:fR mA 540 600=true:=(by kernel_rfl);show(!fR mA 540 600,_)=_;rw[this];rfl
 have ep:eW (dA [] [kA 7,kA 8] 2) (-1) ⟨1,10,0,0,0,0,0,60,0,0,[]⟩ 7 540 [0]=((apA,0),dA [] [kA 8,kA 7] 2):=by
  have es:jn (kR 7 (-1) 540 600) [0] (dA [] [kA 7,kA 8] 2)=(false,dA [] [kA 8,kA 7] 2):=by
   show(if(kR 7 (-1) 540 600 0 (dA [] [kA 7,kA 8] 2)).1=true then _ else jn _ [] (kR 7 (-1) 540 600 0 (dA [] [kA 7,kA 8] 2)).2)=_;rw[eb];rfl
  unfold eW;rw[ax (by decide),ax (by decide),ax (by decide)];show(let b:=jn (kR 7 (-1) 540 600) [0] (dA [] [kA 7,kA 8] 2);_:(Ap×Int)×Dk)=_;rw[es];rfl
 unfold lI;rw[ax (by decide),ax (by decide)];show(let p:=eW (dA [] [kA 7,kA 8] 2) (-1) ⟨1,10,0,0,0,0,0,60,0,0,[]⟩ 7 540 [0];_:An×Dk)=_;rw[ep];rfl
theorem Oc:playP dk0 aC=([noA 0,iV 0,iV 0,⟨0,0,7,540,[0],[]⟩,iV 0],dA [apA] [kA 8,kA 7] 2):=by
 have e1:doP dk0 ⟨1,0,0,0,aS,[],sv0,0,0,[]⟩=(noA 0,⟨oL 540 1020,[],[],[],[1],1,[],0⟩):=by
  show nO dk0 (ir aS)=_;rw[N9]
  have ev:pP dk0 (oL 540 1020)=[1]:=by
   have hn:jo dk0.rules (oL 540 1020) (((0:Nat)):Int)=true:=rfl;show [if jo dk0.rules (oL 540 1020) (((0:Nat)):Int)=true\/_ then _ else _]=_;rw[aD (Or.inl hn)];rfl
  unfold nO;rw[ax (by decide),ev];rfl
 have e2:doP ⟨oL 540 1020,[],[],[],[1],1,[],0⟩ ⟨2,0,0,0,[],[97],sv0,0,0,[]⟩=(iV 0,⟨oL 540 1020,[[97]],[],[],[1],1,[],0⟩):=rfl;have e3:doP ⟨oL 540 1020,[[97]],[],[],[1],1,[],0⟩ ⟨3,0,0,0,[],[],kZ,0,0,[]⟩=(iV 0,dA [] [] 0):=rfl;have e4:doP (dA [] [] 0) ⟨4,0,7,2,[],[],sv0,0,0,[]⟩=(⟨0,0,7,540,[0],[]⟩,dA [] [kA 7,kA 8] 2):=Oa;have e5:doP (dA [] [kA 7,kA 8] 2) ⟨5,0,0,0,[],[],sv0,7,540,[0]⟩=(iV 0,dA [apA] [kA 8,kA 7] 2):=Ob;unfold aC;simp only[playP,e1,e2,e3,e4,e5]
def anF (l:List (An×Value×Value)):List Value:=l.flatMap fun a=>(anC a.1 a.2.1 a.2.2).toList
structure rE (B:Nat)(w:World)(p:List An×Dk)(rv ev sv av asv:Value)(ss:List (Sv×Value))(aa:List (Ap×Value))(ls:List (An×Value×Value)):Prop where
 rules: ∃us,InR w rv us/\us.map (fun p=>p.1)=p.2.rules
 res:w.ownsRow B 9 1 ev p.2.res.length (p.2.res.map kN)
 svs:w.ownsRow B 41 4 sv ss.length (svF ss)
 sve:ss.map (fun p=>p.1)=p.2.svs
 svr: ∀q∈ss,fk w q.2 q.1.roles
 aps:w.ownsRow B 38 11 av aa.length (apF aa)
 ape:aa.map (fun p=>p.1)=p.2.aps
 apr: ∀q∈aa,dS w q.2 q.1.who
 ans:w.ownsRow B 47 6 asv ls.length (anF ls)
 ane:ls.map (fun p=>p.1)=p.1
 anr: ∀a∈ls,rC B w a.2.1 a.1.who/\dS w a.2.2 a.1.list
theorem rE.below {B:Nat}{w w':World}{p:List An×Dk}{rv ev sv av asv:Value}{ss:List (Sv×Value)}{aa:List (Ap×Value)}{ls:List (An×Value×Value)}(h:rE B w p rv ev sv av asv ss aa ls)(hb:aq w w'):rE B w' p rv ev sv av asv ss aa ls:=by
 have rk: ∀{e s n:Nat} {u:Value} {xs:List Value},w.ownsRow B e s u n xs->w'.ownsRow B e s u n xs:=fun hr=>br hr fun b hq=>hb.block b (hr.lt b hq).2;obtain⟨us,h1,h2⟩:=h.rules;exact⟨⟨us,h1.below hb,h2⟩,rk h.res,rk h.svs,h.sve,fun q hq=>(h.svr q hq).below hb,rk h.aps,h.ape,fun q hq=>(h.apr q hq).below hb,rk h.ans,h.ane,fun a ha=>⟨⟨(h.anr a ha).1.1.below hb,(h.anr a ha).1.2⟩,(h.anr a ha).2.below hb⟩⟩
def FE (B:Nat)(ys:List Nat)(l:List Cm)(w:World)(e:Ending)(w':World):Prop:=aq w w'/\((60<l.length/\e= .returned (.tuple #[.agg #[af,af,af,af],af,ag 0,ag 5]))\/(l.length<=60/\ ∃(rv ev sv av asv:Value) (ss:List (Sv×Value)) (aa:List (Ap×Value)) (ls:List (An×Value×Value)),e= .returned (.tuple #[.agg #[rv,ev,sv,av],asv,ag (playP dk0 l).2.runs,ag 0])/\Rob (fun k=>k∉ys) (fun u=>rE B u (playP dk0 l) rv ev sv av asv ss aa ls) w'))
theorem PA:(prog.info? 47).map (fun i=>(i.zero,i.size,i.bytes))=some (some (.agg #[ag 0,ag 0,ag 0,ag 0,af,af]),6,80):=by kernel_rfl
theorem O1:prog.underlying 30=some (.slice 47):=by kernel_rfl
theorem dsT:prog.underlying 29=some (.struct (prog.fieldsOf 29)):=by kernel_rfl
theorem D2 (c:Cm)(p q:Option Addr)(n m k j:Nat):(doC c (.slice p n k) (.slice q m j)).all (·.oneCell')=true:=by simp[doC,kN,Value.oneCell']
theorem Ao {R:Ending->World->Prop}{a:Act}{w:World}(g:Nat)(c:Array Value)(x:Value)(n er:Int)(hc:c.size=4)(hd:a.defers=[])(h2:a.tmps.getD 2 undef=ab g 0)(h3:a.tmps.getD 3 undef=x)(h4:a.tmps.getD 4 undef=ag n)(h5:a.tmps.getD 5 undef=ag er)
  (hg:w.heap[g]? =ah c 29) (hR:R (.returned (.tuple #[.agg c,x,ag n,ag er])) w):bodyPost prog f7 R .ret a w:=by
 refine aW (v:= .tuple #[.agg c,x,ag n,ag er]) ?_ hd hR;have hf:f7.results= #[ResultVar.cell 2 29,ResultVar.tmp 3,ResultVar.tmp 4,ResultVar.tmp 5]:=rfl;have h2':a.tmps[2]?.getD undef=ab g 0:=by simpa using h2
 have h3':a.tmps[3]?.getD undef=x:=by simpa using h3
 have h4':a.tmps[4]?.getD undef=ag n:=by simpa using h4
 have h5':a.tmps[5]?.getD undef=ag er:=by simpa using h5
 have hv:=dV (P:=prog) w g 29 29 _ _ _ hg dsT rfl (by rw[hc];kernel_rfl);simp[results,h2',h3',h4',h5',asAddr,hv]
theorem IC {gD:Nat}{t:Tr}{L L':List Nat}(h: ∀b∈L',b∈L){q:Nat}(hq:Fx gD (t.ad L) q):Fx gD (t.ad L') q:=⟨hq.1,fun hx=>hq.2 (by
 rcases bU.1 hx with hx|hx
 ·exact fK _ (h q hx)
 ·exact eB _ hx)⟩
theorem dt.sub {B gD:Nat}{d:Dk}{t:Tr}{L L':List Nat}{w:World}(h:dt B gD d (t.ad L) w)(hs: ∀b∈L',b∈L):dt B gD d (t.ad L') w:=by
 obtain⟨h0,rv,cv,vv,kv,ss,aa,h⟩:=h;have mv: ∀{Φ:World->Prop},Rob (Fx gD (t.ad L)) Φ w->Rob (Fx gD (t.ad L')) Φ w:=fun hR=>hR.move (aB _) (fun _ _ _=>rfl) fun q _ hq=>IC hs hq
 exact⟨h0,rv,cv,vv,kv,ss,aa,h.blk,h.lo,mv h.rules,mv h.codes,mv h.vers,mv h.kept,h.res,h.svs,h.sve,fun p hp=>mv (h.svr p hp),h.aps,h.ape,fun p hp=>mv (h.apr p hp),fun q hq=>h.nx q (by
  rcases bU.1 hq with hq|hq
  ·exact fK _ (hs q hq)
  ·exact eB _ hq)⟩
theorem Cp (B:Nat)(ys:List Nat)(cs:List (Cm×Value×Value))(v:Value)(w:World)(hB0:B<=w.heap.size)(h:kT w v cs)(hT:Tbs B w)(hok: ∀q∈cs,FA q.1)(hwh: ∀q∈cs,Rob (fun k=>k<B) (fun u=>dS u q.2.2 q.1.swho) w)(hys: ∀q∈ys,B<=q/\ ∃c T f,w.heap[q]? =some (.cells c T f)/\ ¬(T=142\/T=179\/T=89)):Calls prog 7 #[v] w (FE B ys (cs.map fun q=>q.1) w):=by
 obtain⟨wA,hA,bA,nA⟩:=nb w #[af,af,af,af] 29;have HR:=aG h;obtain⟨p,kc,rfl,hlen,hx0⟩:=h;obtain⟨n,hn⟩:=au cs.length;have HN:=aG hn;have HOK:=aG hok;have HT:=aG hT;have HWH:=aG hwh;have HYS:=aG hys;have HBA:=aG bA;rw[hn]at hlen⊢;obtain⟨l,hl⟩:=au (cs.map (fun q=>q.1));have hll:l.length=n:=by rw[<-hl,ba,hn]
 rw[hl];have HL:=aG hl;have HLL:=aG hll;by_cases h60:60<n
 ·have h60':(60:Int)<(n:Int):=by omega
  have HO:=aG (below_setRow bA (aB _) #[af,af,af,af]);have HRR:=aG (aL _ _ _ #[af,af,af,af] _ _ nA);go_enter func7,ntmps7;go_wp2_with(refine ay rfl 29 _ _ rfl _ _ rfl rfl _ _ nA (by kernel_rfl) rfl (by simp[Value.oneCell']) ?_)
  exact Ao w.heap.size _ _ 0 5 rfl rfl rfl rfl rfl rfl HRR.o ⟨HO.o,.inl ⟨by rw[HLL.o];exact h60,rfl⟩⟩
 ·have h60': ¬(60:Int)<(n:Int):=by omega
  obtain⟨wB,hB,bB,nB⟩:=nb wA #[af,af,af,af,af,af,ag 0,af,ag 0] 55;have hwA:w.heap.size<wA.heap.size:=(by rw[<-hA];simp);have hwB:wA.heap.size<wB.heap.size:=(by rw[<-hB];simp)
  have hd0:=NX (B:=B) (xs:=w.heap.size::ys) (by omega) (fun q hq=>by
   rcases bz.1 hq with rfl|hq
   ·omega
   ·obtain⟨h1,_,_,_,h2,_⟩:=HYS.o q hq;have:=aH h2;omega) nB
  have HD0:=aG hd0;have HBB:=aG (fI (aw HBA.o bB) (bt bB nA));go_enter func7,ntmps7;go_wp2_with fail;go_loopw [7,9,16] (fun v _ q wr=> ∃(j:Nat) (dd:Dk) (tt:Tr) (L:List Nat) (ls:List (An×Value×Value)),q=ag (j:Int)/\j<=n/\(tt.xs=w.heap.size::ys/\ ∀q,q<w.heap.size->Gx wA.heap.size tt q)/\dt B wA.heap.size dd (tt.ad L) wr/\(∀b,v.ownBlock=some b->b∈L)/\(∀b∈L,∃c,wr.heap[b]? =ah c 47)/\(aq w wr/\wr.heap[w.heap.size]? =ah #[af,af,af,af] 29)/\wr.ownsRow wA.heap.size 47 6 v j (anF ls)/\ls.length=j/\dd.given<=j/\(∀a∈ls,Rob (Fx wA.heap.size (tt.ad L)) (fun u=>rC B u a.2.1 a.1.who) wr/\Rob (Fx wA.heap.size (tt.ad L)) (fun u=>dS u a.2.2 a.1.list) wr)/\playP dk0 l=(ls.map (fun a=>a.1)++(playP dd (l.drop j)).1,(playP dd (l.drop j)).2)) (fun _ _ q _=>n-(intOf q).toNat);case atStart=>exact⟨0,dk0,⟨af,af,af,w.heap.size::ys⟩,[],[],rfl,by omega,⟨rfl,fun q hq=>⟨by omega,nofun,nofun,nofun⟩⟩,HD0.o,(fun b hb=>by cases hb),(fun b hb=>by cases hb),HBB.o,cY _ _ _ _,rfl,gX _,(fun a ha=>by cases ha),rfl⟩
  case round=>
   obtain⟨j,dd,tt,L,ls,rfl,hj,⟨htx,hgx⟩,hd,hLb,hLt,⟨hbr,hzr⟩,hown,hlj,hgv,hrb,hX⟩:=hrel;have hj0:(0:Int)<=(j:Int):=(by omega);by_cases hjn:j<n
   ·have hjn':(j:Int)<(n:Int):=(by omega);obtain⟨⟨c,rv,wv⟩,hcj⟩: ∃q,cs[j]? =some q:=⟨cs[j]'(by rw[HN.o];exact hjn),az _⟩
    have hlc:l[j]? =some c:=(by rw[<-HL.o,bg,hcj];rfl);rw[Fz dd hlc]at hX;obtain⟨p',k',e',_,hcell⟩:=HR.o;injection e' with e1 e3 e2;subst e1 e2;obtain⟨hcm,g,o,hpe,hrg⟩:=hcell j _ hcj;subst hpe;dsimp only at hcm hrg;have hdok:=HOK.o _ (aM hcj);have hrg':=iI hrg hbr;have hcm':=hcm.below hbr;obtain⟨pr,kr,rfl,_,_⟩:=hcm.roles;obtain⟨pw,kw,rfl,_,_⟩:=hcm.who;obtain⟨wZ,wC,hZ,nZ,hC,bC,nC⟩:=nbs wr #[ag 0,ag 0,ag 0,ag 0,.string ⟨#[]⟩,.string ⟨#[]⟩,ag 0,ag 0,ag 0,af,ag 0,ag 0,af] (doC c (.slice pr c.sv.roles.length kr) (.slice pw c.swho.length kw)) 45;have hdC:=hd.below bC;have hbC:=aw hbr bC;have hzC:=bt bC hzr;have hTC:Tbs B wC:=fun W hW=>HT.o W ((hbC.mono hB0).trans hW)
    have hLC: ∀b∈L,∃c,wC.heap[b]? =ah c 47:=fun b hb=>by
     obtain⟨x,hx⟩:=hLt b hb;exact⟨x,bt bC hx⟩
    have cD:=hdok B wA.heap.size dd (tt.ad L) wC pr pw kr kw hdC hTC (bf hB0 hbC.size) (by omega) (fun b hb=>by
     rcases bU.1 hb with hb|hb
     ·obtain⟨x,hx⟩:=hLC b hb;exact⟨x,_,_,hx,by decide⟩
     ·rw[htx]at hb;rcases bz.1 hb with rfl|hb
      ·exact⟨_,_,_,hzC,by decide⟩
      ·obtain⟨_,x,T,f,h2,h3⟩:=HYS.o b hb;exact⟨x,T,f,bt hbC h2,h3⟩) (hcm'.below bC) ((HWH.o _ (aM hcj)).below hbC)
    have hoC:=br hown fun b hq=>bC.block b (hown.lt b hq).2
    have hgxL:(∀b∈L,Gx wA.heap.size (tt.ad L) b)/\Gx wA.heap.size (tt.ad L) w.heap.size:=by
     obtain⟨_,_,_,_,_,_,_,hm⟩:=hdC;exact⟨fun b hb=>(hm.nx b (fK _ hb)).2.2,(hm.nx _ (eB _ (by rw[htx];exact bq))).2.2⟩
    have HZC:=aG hzC;obtain⟨P,hP⟩:=au (doP dd c);have HGV:PH (P.2.given<=dd.given+1):=(by have:=Ix dd c;rw[hP]at this;exact this);rw[hP]at cD hX
    have HX:PH (playP dk0 l=((ls.map (fun a=>a.1)++[P.1])++(playP P.2 (l.drop (j+1))).1,(playP P.2 (l.drop (j+1))).2)):=by
     show _=_;rw[hX,eh];rfl
    have HRB:PH (∀a∈ls,Rob (Fx wA.heap.size (tt.ad L)) (fun u=>rC B u a.2.1 a.1.who) wC/\Rob (Fx wA.heap.size (tt.ad L)) (fun u=>dS u a.2.2 a.1.list) wC):=fun a ha=>⟨(hrb a ha).1.below bC,(hrb a ha).2.below bC⟩
    have HBC:=aG hbC;have HDC:=aG hdC;have HOC:=aG hoC;have HGX:=aG hgxL;have HLB:=aG hLb;have HLC:=aG hLC;have HLJ:=aG hlj;have HTX:=aG htx;have HGX0:=aG hgx;have HDG:=aG hgv;go_wp2_with(first|(refine wpList_load_mid rfl 45 _ rfl g (o+j*13) rfl (doC c (.slice pr c.sv.roles.length kr) (.slice pw c.swho.length kw)).toList _ hrg' doT rfl (by kernel_rfl) ?_)|(refine ay rfl 45 _ _ rfl _ _ rfl rfl _ _ nZ (by kernel_rfl) rfl (D2 _ _ _ _ _ _ _) ?_;rw[hC])|(refine aQ rfl 45 _ rfl _ rfl _ _ _ _ nC doT rfl (by kernel_rfl) ?_))
    refine cD.mono ?_;rintro e w4 ⟨t',wv',lv,rfl,hd4,hk4,hw4,hl4⟩
    obtain⟨tt',htt,rfl⟩: ∃tt':Tr,tt'.xs=w.heap.size::ys/\t'=tt'.ad L:=⟨⟨t'.ev,t'.sv,t'.av,w.heap.size::ys⟩,rfl,by
     have e:=hk4.xs;obtain⟨a1,a2,a3,a4⟩:=t';dsimp only[Tr.ad]at e⊢;rw[e,HTX.o]⟩
    obtain⟨p5,c5,hv5,_,_⟩:=hw4.here.1;obtain⟨p6,c6,hv6,_,_⟩:=hl4.here;obtain⟨wE,hE,bE,nE⟩:=nb w4 #[ag P.1.err,ag P.1.num,ag P.1.day,ag P.1.min,wv',lv] 47;have hb4:aq w w4:=HBC.o.trans ⟨hk4.os,hk4.tape,hk4.output,hk4.size,fun q hq=>hk4.blk q (HGX0.o q hq) (aT hq HBC.o.size)⟩;have HG4:PH (∀q,q<w.heap.size->Gx wA.heap.size tt' q):=fun q hq=>hk4.gx q (aT hq HBC.o.size) (HGX0.o q hq);have hbE:=aw hb4 bE;have hoE:wE.ownsRow wA.heap.size 47 6 u7 j (anF ls):=br HOC.o fun b hq=>(bE.block b (aT (HOC.o.lt b hq).2 hk4.size)).trans (hk4.blk b (HGX.o.1 b (HLB.o b hq)) (HOC.o.lt b hq).2);have hdE:=hd4.below bE;have HZE:=aG (bt bE ((hk4.blk _ HGX.o.2 (aH HZC.o)).trans HZC.o))
    have HLE:PH (∀b∈L,∃c,wE.heap[b]? =ah c 47):=fun b hb=>by
     obtain⟨x,hx⟩:=HLC.o b hb;exact⟨x,bt bE ((hk4.blk b (HGX.o.1 b hb) (aH hx)).trans hx)⟩
    have HRE:PH (∀a∈ls++[(P.1,wv',lv)],Rob (Fx wA.heap.size (tt'.ad L)) (fun u=>rC B u a.2.1 a.1.who) wE/\Rob (Fx wA.heap.size (tt'.ad L)) (fun u=>dS u a.2.2 a.1.list) wE):=fun a ha=>by
     rcases bU.1 ha with ha|ha
     ·exact⟨(hk4.rob (HRB.o a ha).1).below bE,(hk4.rob (HRB.o a ha).2).below bE⟩
     ·rw[bT.1 ha];exact⟨hw4.below bE,hl4.below bE⟩
    have HDE:=aG hdE
    have hsE:wA.heap.size<=wE.heap.size:=by
     obtain⟨_,_,_,_,_,_,_,hm⟩:=hdE;exact Nat.le_of_lt (aH hm.blk)
    have HBE:=aG hbE;have h1c:(#[ag P.1.err,ag P.1.num,ag P.1.day,ag P.1.min,wv',lv]:Array Value).all (·.oneCell')=true:=(by rw[hv5,hv6];simp[Value.oneCell']);unfold anC;subst hv5 hv6;go_wp2_with(at_builtin;refine iA rfl _ _ 30 47 rfl O1 PA rfl (by decide) (by decide) rfl hoE rfl nE rfl h1c (by omega) hsE ?_)
    rintro v2 w5 ho5 hgr hbl g5 c7 rfl;obtain⟨L',hd5,hL5,hL6,hmv⟩:=HDE.o.grown hoE HLB.o hgr ho5 hbl;have hb5:aq w w5/\w5.heap[w.heap.size]? =ah #[af,af,af,af] 29:=⟨HBE.o.grown hgr HBE.o.size (fun k hk=>by have:=(hoE.lt k hk).1;omega),(hgr.block _ (aH HZE.o) (fun e=>by have:=(hoE.lt _ e.symm).1;omega)).trans HZE.o⟩
    have HR5:PH (∃(L:List Nat) (ls':List (An×Value×Value)),dt B wA.heap.size P.2 (tt'.ad L) w5/\(∀b,(Value.slice (some (ae g5 0)) (j+1) c7).ownBlock=some b->b∈L)/\(∀b∈L,∃c,w5.heap[b]? =ah c 47)/\(aq w w5/\w5.heap[w.heap.size]? =ah #[af,af,af,af] 29)/\w5.ownsRow wA.heap.size 47 6 (.slice (some (ae g5 0)) (j+1) c7) (j+1) (anF ls')/\ls'.length=j+1/\(∀a∈ls',Rob (Fx wA.heap.size (tt'.ad L)) (fun u=>rC B u a.2.1 a.1.who) w5/\Rob (Fx wA.heap.size (tt'.ad L)) (fun u=>dS u a.2.2 a.1.list) w5)/\ls'.map (fun a=>a.1)=ls.map (fun a=>a.1)++[P.1]):=by
     have hsb: ∀b∈[g5],b∈L':=fun b hb=>(by rw[bT.1 hb];exact hL5 g5 rfl);have hm2: ∀{Φ:World->Prop},Rob (Fx wA.heap.size (tt'.ad L)) Φ wE->Rob (Fx wA.heap.size (tt'.ad [g5])) Φ w5:=fun hR=>(hmv _ hR).move (aB _) (fun _ _ _=>rfl) fun q _ hq=>IC hsb hq;refine⟨[g5],ls++[_],hd5.sub hsb,fun b hb=>by rw[bT];exact(aN hb).symm,fun b hb=> ?_,hb5,?_,by rw[aP,HLJ.o];rfl,fun a ha=>⟨hm2 (HRE.o a ha).1,hm2 (HRE.o a ha).2⟩,by rw[dT];rfl⟩
     ·rw[bT.1 hb];rcases ho5.2 with⟨e,_⟩|⟨g',cap,cur,e,_,hg',_⟩
      ·cases e
      ·injection e with e1 _ _;injection e1 with e1;injection e1 with e1;subst e1;exact⟨cur,hg'⟩
     ·unfold anF;rw[fw];exact ho5
    go_wp2_with fail;go_roundw
    case rel=>
     obtain⟨L,ls',q1,q2,q3,q4,q5,q6,q7,q8⟩:=HR5.o;exact⟨j+1,P.2,tt',L,ls',by go_num,by omega,⟨htt,HG4.o⟩,q1,q2,q3,q4,q5,q6,by have:=HGV.o;have:=HDG.o;omega,q7,by rw[q8];exact HX.o⟩
    case measure=>simp[intOf];omega
   ·have hjn': ¬(j:Int)<(n:Int):=(by omega);obtain rfl:n=j:=(by omega);rw[df (by rw[HLL.o];exact aB _)]at hX
    have HX:PH (playP dk0 l=(ls.map (fun a=>a.1),dd)):=by
     show _=_;rw[hX];simp[playP]
    obtain⟨hok,rv,cv,vv,kv,ss,aa,hm⟩:=hd
    obtain⟨pr,kr,hrv⟩: ∃p c,rv= .slice p dd.rules.length c:=by
     obtain⟨us,h1,h2⟩:=hm.rules.here;obtain⟨p,c,e⟩:=h1.form;exact⟨p,c,by rw[e,<-h2,ba]⟩
    obtain⟨pe,ke,hev⟩:=di hm.res;obtain⟨ps,ks,hsv⟩:=di hm.svs;obtain⟨pa,ka,hav⟩:=di hm.aps;obtain⟨px,kx,hxv⟩:=di hown;have z0:=cr 0 hm.blk rfl;have z1:=cr (v:=tt.ev) 1 hm.blk rfl;have z2:=cr (v:=tt.sv) 2 hm.blk rfl;have z3:=cr (v:=tt.av) 3 hm.blk rfl;have z8:=cr 8 hm.blk rfl;obtain⟨n0,h0⟩:=au dd.rules.length;obtain⟨n1,h1⟩:=au dd.res.length;obtain⟨n2,h2⟩:=au ss.length;obtain⟨n3,h3⟩:=au aa.length;obtain⟨rn,hrn⟩:=au dd.runs;have hev':tt.ev= .slice pe n1 ke:=(by rw[<-h1];exact hev);have hsv':tt.sv= .slice ps n2 ks:=(by rw[<-h2];exact hsv);have hav':tt.av= .slice pa n3 ka:=(by rw[<-h3];exact hav);rw[hrv,h0]at z0;rw[hev']at z1;rw[hsv']at z2;rw[hav']at z3;rw[hrn]at z8;subst hxv;have nAr:=hzr
    have HPY:PH (∀W:World,wr.heap.size<=W.heap.size->(∀q,q<wr.heap.size->q≠w.heap.size->q∉ys->W.heap[q]? =wr.heap[q]?)->rE B W (playP dk0 l) (.slice pr n0 kr) (.slice pe n1 ke) (.slice ps n2 ks) (.slice pa n3 ka) (.slice px n kx) ss aa ls):=fun W hs hW=>by
     have mv: ∀{Φ:World->Prop},Rob (Fx wA.heap.size (tt.ad L)) Φ wr->Φ W:=fun hR=>hR W hs fun q hq hl=>hW q hl (fun e=>hq.2 (eB _ (by rw[htx,e];exact bq))) fun e=>hq.2 (eB _ (by rw[htx];exact bH _ e));have hnx:=fun q (hq:q∈w.heap.size::ys)=>(hm.nx q (eB _ (by rw[htx];exact hq))).2.2;have rk: ∀{B e s k:Nat} {u:Value} {xs:List Value},wr.ownsRow B e s u k xs->(∀q∈w.heap.size::ys,some q≠u.ownBlock)->W.ownsRow B e s u k xs:=fun hr hn=>br hr fun b hb=>hW b (hr.lt b hb).2 (fun e=>hn b (by rw[e];exact bq) hb.symm) fun e=>hn b (bH _ e) hb.symm
     have hoW:=rk hown fun q hq e=>by
      have h1:=(hown.lt _ e.symm).1;rcases bz.1 hq with rfl|hq
      ·omega
      ·obtain⟨_,_,_,_,h2,_⟩:=HYS.o q hq;have:=aH h2;omega
     rw[HX.o];refine⟨?_,?_,?_,hm.sve,fun q hq=>mv (hm.svr q hq),?_,hm.ape,fun q hq=>mv (hm.apr q hq),⟨hoW.1.trans (by rw[hlj]),?_⟩,rfl,fun a ha=>⟨mv (hrb a ha).1,mv (hrb a ha).2⟩⟩
     ·rw[<-h0,<-hrv];exact mv hm.rules
     ·rw[<-hev'];exact rk hm.res fun q hq=>(hnx q hq).2.1
     ·rw[<-hsv'];exact rk hm.svs fun q hq=>(hnx q hq).2.2.1
     ·rw[<-hav'];exact rk hm.aps fun q hq=>(hnx q hq).2.2.2
     ·rw[hlj];exact hoW.2.imp id fun⟨g,c,cu,q1,q2,q3⟩=>⟨g,c,cu,q1,by omega,q3⟩
    have HRN:PH ((playP dk0 l).2.runs=rn):=(by show _=_;rw[HX.o];exact hrn);have HBR:=aG hbr;have hwr:=aH nAr;go_upto_region 10 with fail;refine dn (fun M _ W=>(M 6=false->aq wr W)/\(M 6=true-> ∃W0,aq wr W0/\Below W0.heap.size (W0.setRow w.heap.size #[.slice pr n0 kr,.slice pe n1 ke,.slice ps n2 ks,.slice pa n3 ka]) W)) [kn 26 (ab wA.heap.size 0),kn 27 (.agg #[.slice pr n0 kr,.slice pe n1 ke,.slice ps n2 ks,.slice pa n3 ka]),kn 28 (.slice px n kx),kn 29 (ab wA.heap.size 7),kn 30 (ab wA.heap.size 8),kn 31 (ag rn),nk,kn 3 (.slice px n kx),kn 4 (ag rn),kn 5 (ag 0)] (fun _=>⟨fun _=>(aI _ _).drew,(fun h=>by cases h)⟩) (fun _ _ _ _ hb h=>⟨fun c=>(h.1 c).trans (hb.mono (h.1 c).size),fun c=> ?_⟩) (by kernel_rfl) ?_ ?_
    ·obtain⟨W0,h1,h2⟩:=h.2 c;exact⟨W0,h1,h2.trans (hb.mono (by have:=h2.size;simpa using this))⟩
    ·rintro M φ W hJ hc F l' hl hF;have HJ:=aG hJ;simp only[kn,nk,dX,aR,aX,Act.put,aA,aK,aJ]at hl;subst hl;simp only[dc,Nat.reduceAdd]at hF;dsimp only[kn,nk,dC,eJ,eg,Act.put];and_intros;all_goals first|exact trivial|intro hw hn hm K hK
     all_goals try (go_simp;with_reducible exact hK _ _ ⟨rfl,aI _ _⟩)
     ·have hb:=HJ.o.1 (hn 6 _ rfl (by kernel_rfl));have z0:=aj hb z0;have z1:=aj hb z1;have z2:=aj hb z2;have z3:=aj hb z3;go_simp;exact hK _ _ ⟨rfl,aI _ _⟩
     ·have z8:W.cell? (ae wA.heap.size 8)=some (ag rn):=by
       cases hq:M 6 with
       |false=>exact((HJ.o.1 hq).cell (bP z8)).trans z8
       |true=>
        obtain⟨W0,h1,h2⟩:=HJ.o.2 hq;have hz:=aj h1 z8;exact(dY ((h2.block _ (bP hz)).trans (aV W0 w.heap.size wA.heap.size _ (by omega)))).trans hz
      go_simp;exact hK _ _ ⟨rfl,aI _ _⟩
     ·have hb:=HJ.o.1 hm;have nW:=bt hb nAr;show Oper.wp _ _ _ _ _ _;refine iP (ops:= #[]) rfl (ay rfl 29 _ _ rfl _ #[.slice pr n0 kr,.slice pe n1 ke,.slice ps n2 ks,.slice pa n3 ka] (by simp[Act.eval,hF]) (by simp[Act.eval,hF]) _ _ nW (by kernel_rfl) rfl (by simp[Value.oneCell']) ?_);exact⟨rfl,hK undef _ ⟨trivial,fun c=>by simp at c,fun _=>⟨W,hb,aI _ _⟩⟩⟩
    ·rintro M φ W hM hJ;obtain⟨W0,h1,h2⟩:=hJ.2 (hM 6 (by decide) rfl);simp only[kn,nk,en,aR,aX,Act.put,aA,aK,aJ];have m0:=bt h1 nAr;have m2:=aL _ _ _ #[.slice pr n0 kr,.slice pe n1 ke,.slice ps n2 ks,.slice pa n3 ka] _ _ m0;have hsz:W0.heap.size<=W.heap.size:=(by have:=h2.size;simpa using this);have hW: ∀q,q<wr.heap.size->q≠w.heap.size->W.heap[q]? =wr.heap[q]? :=fun q hl hq=>(h2.block q (aT hl h1.size)).trans ((aV W0 w.heap.size q _ hq).trans (h1.block q hl));have HF1:=aG ((h2.block _ (aH m0)).trans m2);have HF2:=aG ((below_setRow (aw HBR.o h1) (aB _) #[.slice pr n0 kr,.slice pe n1 ke,.slice ps n2 ks,.slice pa n3 ka]).trans (h2.mono (Nat.le_of_lt (aH m0))));have HF3:PH (Rob (fun k=>k∉ys) (fun u=>rE B u (playP dk0 l) (.slice pr n0 kr) (.slice pe n1 ke) (.slice ps n2 ks) (.slice pa n3 ka) (.slice px n kx) ss aa ls) W):=fun u hu ha=>HPY.o u (bf h1.size (bf hsz hu)) fun q hl hq hy=>(ha q hy (aT hl (bf h1.size hsz))).trans (hW q hl hq);go_wp2_with fail;exact Ao w.heap.size #[.slice pr n0 kr,.slice pe n1 ke,.slice ps n2 ks,.slice pa n3 ka] _ rn 0 rfl rfl rfl rfl rfl rfl HF1.o ⟨HF2.o,.inr ⟨by rw[HLL.o];omega,_,_,_,_,_,_,_,_,by rw[HRN.o];rfl,HF3.o⟩⟩
theorem Kr (cs:List (Cm×Value×Value))(v:Value)(w:World)(h:kT w v cs)(hT:Tbs w.heap.size w)(hok: ∀q∈cs,FA q.1):Calls prog 7 #[v] w (FE w.heap.size [] (cs.map fun q=>q.1) w):=
 Cp _ [] cs v w (aB _) h hT hok (fun q hq u hu ha=>by
  obtain⟨_,_,_,_,h3⟩:=id h;obtain⟨j,hj⟩:=List.getElem?_of_mem hq;exact oT (h3 j q hj).1.who fun k hk=>ha k hk hk) (fun q hq=>absurd hq List.not_mem_nil)
end Go.Proofs.YtkfidffapdhbhaaGreatDoor
