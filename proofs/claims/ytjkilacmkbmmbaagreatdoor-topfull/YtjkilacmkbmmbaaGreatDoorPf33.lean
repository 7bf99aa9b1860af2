/- Texts of the proof. -/
import Derived.Test.YtjkilacmkbmmbaaGreatDoorPf32
import Derived.Great.BuildSlice
set_option maxRecDepth 100000
set_option maxHeartbeats 8000000
namespace Go.Proofs.YtjkilacmkbmmbaaGreatDoor
open Go.Proofs.Tryz Go.RowKit Lx Vx Mx Msk
theorem Cu: ∀(N:Nat) (a b:Ex),lg N a b=true->a=b
 |0,_,_,h=>by cases h
 |N+1,a,b,h=>by
  unfold lg at h;simp only[bn,bz,dh]at h;obtain⟨⟨⟨⟨h1,h2⟩,h3⟩,h4⟩,h5,h6⟩:=h;have hk:a.kids=b.kids:=List.ext_getElem h5 fun i hi hj=>Cu N _ _ (h6 (a.kids[i],b.kids[i]) (List.mem_iff_getElem.2 ⟨i,by simp;omega,by simp⟩));cases a;cases b;simp only at h1 h2 h3 h4 hk;subst h1 h2 h3 h4 hk;rfl
theorem yO {old new:List Ru}{k:Nat}(h:jp old new (k:Int)=false): ∃u,old[k]? =some u/\new[k]? =some u:=by
 unfold jp at h;rw[bV]at h;cases ha:old[k]? with
 |none=>rw[ha]at h;cases h
 |some a=>
  cases hb:new[k]? with
  |none=>rw[ha,hb]at h;cases h
  |some b=>
   rw[ha,hb]at h;simp only[Bool.or_eq_false_iff,Bool.not_eq_false']at h;have h2:=h.2;unfold pB at h2;simp only[bn,bz]at h2;have:a=b:=Prod.ext h2.1 (Cu _ _ _ h2.2);exact⟨a,rfl,by rw[this]⟩
theorem Nc {l:List Ru}(h:(dg l).1=0){k:Nat}{u:Ru}(hu:l[k]? =some u):atP5 l u.1=(k:Int):=by
 have h1:=(DU h).1 k (aE.1 hu).1;unfold lk1 at h1;rw[hu]at h1;simpa using h1
theorem As {L L':List Ru}(hc:(dg L).1=0)(hc':(dg L').1=0)(wk:Int->Bool)(day:Int): ∀(m i:Nat),muR L' i<m->i<L'.length->jp L L' (i:Int)=false->(∀k∈fL L' (i:Int),jp L L' k=false)->fT L wk day i=fT L' wk day i
 |0,_,h,_,_,_=>by omega
 |m+1,i,hm,hi,hn,hu=>by
  obtain⟨u,h1,h2⟩:=yO hn;rw[nP hc h1,nP hc' h2];refine mL _ u.2 (aA _) fun x hx=> ?_;obtain⟨q0,q1,_⟩:=rN hc' (aL h2) hx;obtain⟨k,ek⟩: ∃k:Nat,atP5 L' x=(k:Int):=⟨(atP5 L' x).toNat,by omega⟩
  have hl:=mM hc' h2 hx;rw[ek,bV]at hl;have hw:Lx.Way (fun a b=>(iq L' a).contains b) i k:=Relation.TransGen.single (by simpa using hl);have hkl:k<L'.length:=(by omega);have hku:(k:Int)∈fL L' (i:Int):=(mf hc' hi).2 ⟨k,rfl,hkl,hw⟩;have hnk:=hu _ hku;obtain⟨v,v1,v2⟩:=yO hnk
  have hvx:v.1=x:=by
   obtain⟨v',e1,e2⟩:=GZ ek;rw[v2]at e1;cases e1;exact e2
  have eL:atP5 L x=(k:Int):=(by rw[<-hvx];exact Nc hc v1);rw[eL,ek,bV];refine As hc hc' wk day m k (by have:=rI hc' hi hl;omega) hkl hnk fun j hj=>hu j ?_;obtain⟨j',e,hjl,hjw⟩:=(mf hc' hkl).1 hj;exact(mf hc' hi).2 ⟨j',e,hjl,hw.trans hjw⟩
theorem Nd {t:List UInt8}(h:(fE t).1=0):ia (fE t).2=(0,0):=by
 unfold fE at h⊢;split at h
 ·rename_i h1;exact absurd h h1
 ·rename_i h1;rw[aw h1];exact Ao h
structure DJ (d:Dk):Prop extends DI d where
 gv:0<=d.given
theorem Ste.j {d d':Dk}(h:DJ d)(hs:Ste d d')(hg:d'.given=d.given):DJ d':=⟨hs.1,by rw[hg];exact h.gv⟩
theorem Dr {d:Dk}(h:DJ d){l:List Ru}(hl:ia l=(0,0)):DI {d with rules:=l,vers:=qL d l,given:=d.given+1}:=by
 have hlen:(qL d l).length=l.length:=by simp[qL]
 refine⟨hl,hlen,fun e he=>by have:=h.kv e he;show e.v<=d.given+1;omega,fun v hv=> ?_,fun e he i ei hv=> ?_,h.ad⟩
 ·show v<=d.given+1;unfold qL at hv;obtain⟨i,_,rfl⟩:=du.1 hv;split
  ·omega
  ·by_cases q:i<d.vers.length
   ·have:=h.vg (d.vers.getD i 0) (by simp[List.getD,ax q]);omega
   ·have:d.vers.getD i 0=0:=(by simp[List.getD,en (by omega:d.vers.length<=i)]);have:=h.gv;omega
 ·show e.m=fT l (wkB e.d) e.d i;have hi:i<l.length:=(by rw[<-hlen];exact(aE.1 hv).1);have hv2:(qL d l)[i]? =some e.v:=hv;unfold qL at hv2;rw[bg,List.getElem?_range hi]at hv2;replace hv2:(if jp d.rules l (i:Int)=true\/(fL l (i:Int)).any (jp d.rules l)=true then d.given+1 else d.vers.getD i 0)=e.v:=aK hv2;by_cases q:jp d.rules l (i:Int)=true\/(fL l (i:Int)).any (jp d.rules l)=true
  ·rw[ay q]at hv2;have:=h.kv e he;omega
  ·rw[aw q]at hv2;have q1:jp d.rules l (i:Int)=false:=(by simpa using fun c=>q (.inl c))
   have q2: ∀k∈fL l (i:Int),jp d.rules l k=false:=fun k hk=>by
    have: ¬(fL l (i:Int)).any (jp d.rules l)=true:=fun c=>q (.inr c);simp only[List.any_eq_true,not_exists,not_and]at this;simpa using this k hk
   obtain⟨u,u1,_⟩:=yO q1;have hio:i<d.vers.length:=(by rw[h.vl];exact(aE.1 u1).1)
   have hvo:d.vers[i]? =some e.v:=by
    rw[<-hv2,ax hio];simp[List.getD,ax hio]
   rw[h.ki e he i ei hvo];exact As (uL (by rw[h.flt])).1 (uL (by rw[hl])).1 _ _ _ i (Nat.lt_succ_self _) hi q1 q2
theorem wi: ∀(l:List Ap) (i:Nat) (d:Dk),DI d->(∀a∈l,0<=a.day/\a.day<146097)->(eo l i d).1=tS (coD d) l i/\Ste d (eo l i d).2
 |[],_,d,h,_=>⟨rfl,h,rfl⟩
 |a::l,i,d,h,hd=>by
  unfold eo tS;by_cases hs:a.st=3
  ·rw[ay hs,aw (fun c=>c.1 hs)];exact wi l (i+1) d h fun b hb=>hd b (bp _ hb)
  ·rw[aw hs];have ha:=hd a bf
   obtain⟨p,q1,q2⟩:=Cs (g:=fun c r=> !gu (mS c r a.day) a.fr a.to) (f:=kB a.day a.fr a.to) (fun x d h=>by
    obtain⟨e1,e2,e3⟩:=Cr h x ha.1 ha.2;exact⟨by unfold kB;rw[e1],e2,e3⟩) a.who d h
   obtain⟨p',q1',q2'⟩:=wi l (i+1) _ q1 fun b hb=>hd b (bp _ hb);dsimp only;refine⟨?_,q1',q2'.trans q2⟩;rw[p',q2,p];by_cases e:(a.who.any fun r=> !gu (mS (coD d) r a.day) a.fr a.to)=true
   ·rw[ay e,ay ⟨hs,e⟩]
   ·rw[aw e,aw fun c=>e c.2]
theorem Ea {c:Co}{n:Int}{a:Ap}{day min:Int}{who:List Int}(h:(kE c n a day min who).2=0):0<=(kE c n a day min who).1.day/\(kE c n a day min who).1.day<146097:=by
 unfold kE at h⊢;split
 ·rename_i h1;rw[ay h1]at h;cases h
 rename_i h1;rw[aw h1]at h;split
 ·rename_i h2;rw[ay h2]at h;cases h
 rename_i h2;rw[aw h2]at h;split
 ·rename_i h3;rw[ay h3]at h;exact absurd h h3
 rename_i h3;rw[aw h3]at h;split
 ·rename_i h4;rw[ay h4]at h;cases h
 have:isN day 146097=true:=by simpa using fun c=>h1 (.inl c)
 simpa[isN] using this
def Rl (p:An×Dk)(q:An×Co):Prop:=p.1=q.1/\coD p.2=q.2/\DJ p.2
theorem Rl.ite {c:Prop}[Decidable c]{p p':An×Dk}{q q':An×Co}(h:c->Rl p q)(h': ¬c->Rl p' q'):Rl (if c then p else p') (if c then q else q'):=by
 by_cases e:c
 ·rw[ay e,ay e];exact h e
 ·rw[aw e,aw e];exact h' e
theorem IT {n m:Int}(h: ¬isN n m=false):0<=n/\n<m:=by
 have:isN n m=true:=by simpa using h
 simpa[isN] using this
theorem Rl.aps {d d':Dk}(h:DJ d)(hs:Ste d d')(hg:d'.given=d.given)(a:An){l:List Ap}(hl: ∀x∈l,0<=x.day/\x.day<146097):Rl (a,{d' with aps:=l}) (a,{coD d with aps:=l}):=by
 have e:=hs.2;unfold coD at e;simp only[Co.mk.injEq]at e;refine⟨rfl,?_,⟨⟨hs.1.flt,hs.1.vl,hs.1.kv,hs.1.vg,hs.1.ki,hl⟩,by show 0<=d'.given;rw[hg];exact h.gv⟩⟩;unfold coD;simp only[Co.mk.injEq];exact⟨e.1,e.2.1,e.2.2.1,trivial⟩
theorem Cv {d:Dk}(h:DJ d)(n:Int)(f:Ap->Dk->(Ap×Int)×Dk)(g:Ap->Ap×Int)(hf: ∀a,(f a d).1=g a/\Ste d (f a d).2/\Cor d (f a d).2)(hg: ∀a∈d.aps,(g a).2=0->0<=(g a).1.day/\(g a).1.day<146097):Rl (nV d n f) (rQ (coD d) n g):=by
 unfold nV rQ;refine .ite (fun _=>⟨rfl,rfl,h⟩) fun h1=> ?_;obtain⟨p,q,r⟩:=hf (d.aps.getD n.toNat ap0);dsimp only;rw[p];refine .ite (fun _=>⟨rfl,q.2,q.j h r.given⟩) fun h2=> ?_;have eap:(f (d.aps.getD n.toNat ap0) d).2.aps=d.aps:=congrArg Co.aps q.2;rw[eap];refine .aps h q r.given _ fun a ha=> ?_;rcases List.mem_or_eq_of_mem_set ha with ha|rfl
 ·exact h.ad a ha
 ·have hn:=IT fun c=>h1 (.inl c);have hn':n.toNat<d.aps.length:=(by omega);exact hg _ (by simp[List.getD,ax hn']) (by simpa using h2)
theorem PL {d:Dk}(h:DJ d)(x:Cm):Rl (doP d x) (doS (coD d) x):=by
 have no: ∀a,Rl (a,d) (a,coD d):=fun a=>⟨rfl,rfl,h⟩
 unfold doP doS;refine .ite (fun _=> ?_) fun _=> .ite (fun _=> ?_) fun _=> .ite (fun _=> ?_) fun _=> .ite (fun _=> ?_) fun _=> .ite (fun _=> ?_) fun _=> .ite (fun _=> ?_) fun _=> .ite (fun _=> ?_) fun _=> .ite (fun _=> ?_) fun _=> .ite (fun _=> ?_) fun _=>no _
 ·refine .ite (fun _=>no _) fun e=> ?_;obtain⟨p,q⟩:=wi d.aps 0 _ (Dr h (Nd (by simpa using e))) h.ad;dsimp only;refine⟨by rw[p];rfl,q.2,q.1,?_⟩;rw[(pC d.aps 0 _).given];have:=h.gv;show 0<=d.given+1;omega
 ·exact .ite (fun _=>no _) fun _=> .ite (fun _=>no _) fun _=>⟨rfl,rfl,⟨⟨h.flt,h.vl,h.kv,h.vg,h.ki,h.ad⟩,h.gv⟩⟩
 ·exact .ite (fun _=>no _) fun _=> .ite (fun _=>no _) fun _=>⟨rfl,rfl,⟨⟨h.flt,h.vl,h.kv,h.vg,h.ki,h.ad⟩,h.gv⟩⟩
 ·refine .ite (fun _=>no _) fun _=> .ite (fun _=>no _) fun e2=> ?_;have hd:=IT fun c=>e2 (.inl c);obtain⟨p,q⟩:=IS (d.svs.getD x.n.toNat sv0) hd.1 x.days.toNat 0 d h.toDI (by omega);have hg:=(we (d.svs.getD x.n.toNat sv0) x.day x.days.toNat 0 d).given;dsimp only;rw[p];exact .ite (fun _=>⟨rfl,q.2,q.j h hg⟩) fun _=>⟨rfl,q.2,q.j h hg⟩
 ·refine .ite (fun _=>no _) fun _=> .ite (fun _=>no _) fun _=> ?_;obtain⟨p,q⟩:=wh h.toDI (-1) (tR (coD d) x.n) x.sday x.smin x.swho;have hg:=(mX d (-1) (tR (coD d) x.n) x.sday x.smin x.swho).given;have eap:(fB d (-1) (tR (coD d) x.n) x.sday x.smin x.swho).2.aps=d.aps:=congrArg Co.aps q.2;have hN:(⟨1,10,0,0,x.n,(d.svs.getD x.n.toNat sv0).bef,(d.svs.getD x.n.toNat sv0).aft,(d.svs.getD x.n.toNat sv0).len,0,0,[]⟩:Ap)=tR (coD d) x.n:=rfl;dsimp only;rw[hN,p,eap];refine .ite (fun _=>⟨rfl,q.2,q.j h hg⟩) fun e3=> .aps h q hg _ fun a ha=> ?_;rcases bO.1 ha with ha|ha
  ·exact h.ad a ha
  ·cases bK.1 ha;exact Ea (by simpa using e3)
 ·exact Cv h _ _ _ (fun a=>⟨rfl,⟨h.toDI,rfl⟩,Cor.refl d⟩) fun a ha _=>h.ad a ha
 ·exact Cv h _ _ _ (fun a=>⟨rfl,⟨h.toDI,rfl⟩,Cor.refl d⟩) fun a ha _=>h.ad a ha
 ·exact Cv h _ _ _ (fun a=>⟨(wh h.toDI _ a _ _ _).1,(wh h.toDI _ a _ _ _).2,mX d _ a _ _ _⟩) fun a _ e=>Ea e
 ·refine .ite (fun _=>no _) fun _=> .aps h ⟨h.toDI,rfl⟩ rfl _ fun a ha=> ?_;obtain⟨b,hb,rfl⟩:=du.1 ha;have:=h.ad b hb;unfold Fz pJ;split
  ·exact this
  split<;>exact this
theorem Eb: ∀(l:List Cm) (d:Dk),DJ d->(eZ d l).1=(jj (coD d) l).1/\coD (eZ d l).2=(jj (coD d) l).2/\DJ (eZ d l).2
 |[],d,h=>⟨rfl,rfl,h⟩
 |x::l,d,h=>by
  obtain⟨a,b,c⟩:=PL h x;obtain⟨a',b',c'⟩:=Eb l _ c;unfold eZ jj;rw[<-a,<-b];exact⟨by rw[a'],b',c'⟩
theorem OK:DJ dk0:=⟨⟨xV.flt,xV.vl,(fun e he=>by cases he),(fun e he=>by cases he),(fun e he=>by cases he),(fun e he=>by cases he)⟩,xV.gv.1⟩
theorem Cw (l:List Cm):(eZ dk0 l).1=(jj co0 l).1/\coD (eZ dk0 l).2=(jj co0 l).2/\DJ (eZ dk0 l).2:=Eb l dk0 OK
theorem Au (f:Nat->Bool)(x y:Int):gu f x y=true↔0<=x/\y<=1440/\x<=y/\ ∀i:Nat,x<=(i:Int)->(i:Int)<y->f i=true:=by
 unfold gu;rw[bn,bn,bn,bz,bz,bz];constructor
 ·rintro⟨⟨⟨h1,h2⟩,h3⟩,h4⟩;refine⟨h1,h2,h3,fun i hi hi'=> ?_⟩;have h:=J6 h4 i (by omega);have hin:inl [(x,y)] i=true:=(by simp[inl];omega);have h14:decide (i<1440)=true:=ba (by omega);rw[hin,h14]at h;simpa using h
 ·rintro⟨h1,h2,h3,h4⟩;refine⟨⟨⟨h1,h2⟩,h3⟩,J5 fun i _=> ?_⟩;cases hin:inl [(x,y)] i with
  |false=>rfl
  |true=>
   simp[inl]at hin;rw[h4 i (by omega) (by omega)];rfl
structure Fit (s:Sv)(fs:List (Nat->Bool))(m:Int)(who:List Int):Prop where
 len:who.length=s.roles.length
 mem: ∀(i:Nat) (r:Int) (p:List Int),who[i]? =some r->s.roles[i]? =some p->r∈p
 nd:who.Nodup
 ok: ∀r∈who,okP fs (m-s.bef) (m-s.bef+jX s) r=true
def qu:List Int->List Int->Bool
 |x::l,y::k=>if y≠x then decide (x<y) else qu l k
 |_,_=>true
theorem Av: ∀l:List Int,qu l l=true
 |[]=>rfl
 |x::l=>by rw[qu,aw (by simp)];exact Av l
theorem Cx: ∀(t l k:List Int),qu (t++l) (t++k)=qu l k
 |[],_,_=>rfl
 |x::t,l,k=>by
  show qu (x::(t++l)) (x::(t++k))=_;rw[qu,aw (by simp)];exact Cx t l k
theorem Nf {x y:Int}(h:x<y)(l k:List Int):qu (x::l) (y::k)=true:=by
 rw[qu,ay (by omega)];exact ba h
structure Val (pools:List (List Int))(t u:List Int):Prop where
 len:t.length+u.length=pools.length
 mem: ∀(i:Nat) (r:Int),u[i]? =some r->r∈pools.getD (t.length+i) []
 nd:(t++u).Nodup
theorem sD {pools:List (List Int)}: ∀{k:Nat} {t who:List Int},t.length+k=pools.length->t.Nodup->iW pools k t=some who-> ∃u,who=t++u/\Val pools t u
 |0,t,who,hk,hn,h=>by
  cases aK h;exact⟨[],by simp,⟨by simpa using hk,fun i r hi=>by simp at hi,by simpa using hn⟩⟩
 |k+1,t,who,hk,hn,h=>by
  rw[iW]at h;obtain⟨r,hr,hs⟩:=sM h;by_cases hm:r∈t
  ·rw[ay hm]at hs;cases hs
  ·rw[aw hm]at hs;obtain⟨u,e,hv⟩:=sD (k:=k) (t:=t++[r]) (by simp;omega) (List.nodup_append.2 ⟨hn,by simp,fun a ha b hb=>by rw[bK.1 hb];rintro rfl;exact hm ha⟩) hs;refine⟨r::u,by rw[e,di];rfl,⟨?_,fun i q hi=> ?_,?_⟩⟩
   ·have:=hv.len;simp at this⊢;omega
   ·match i,hi with
    |0,hi=>cases aK hi;exact hr
    |i+1,hi=>
     have:=hv.mem i q (by simpa using hi);rw[aN]at this;rw[show t.length+(i+1)=t.length+[r].length+i by simp;omega];exact this
   ·have:=hv.nd;rw[di]at this;exact this
theorem lO {α β:Type}(f:α->Option β): ∀l:List α,(l.findSome? f=none/\ ∀x∈l,f x=none)\/ ∃pre x post y,l=pre++x::post/\(∀z∈pre,f z=none)/\f x=some y/\l.findSome? f=some y
 |[]=> .inl ⟨rfl,fun x hx=>by cases hx⟩
 |x::l=>by
  cases hx:f x with
  |some y=>exact .inr ⟨[],x,l,y,rfl,(fun z hz=>by cases hz),hx,by rw[List.findSome?_cons,hx]⟩
  |none=>
   rcases lO f l with⟨h1,h2⟩|⟨pre,z,post,y,h1,h2,h3,h4⟩
   ·refine .inl ⟨by rw[List.findSome?_cons,hx];exact h1,fun z hz=> ?_⟩;rcases bo.1 hz with rfl|hz
    ·exact hx
    ·exact h2 z hz
   ·refine .inr ⟨x::pre,z,post,y,by rw[h1];rfl,fun q hq=> ?_,h3,by rw[List.findSome?_cons,hx];exact h4⟩;rcases bo.1 hq with rfl|hq
    ·exact hx
    ·exact h2 q hq
theorem pD {pools:List (List Int)}(hup: ∀p∈pools,p.Pairwise (· < ·)): ∀{k:Nat} {t:List Int},t.length+k=pools.length-> ∀u,Val pools t u-> ∃who,iW pools k t=some who/\qu who (t++u)=true
 |0,t,hk,u,hv=>by
  have hu:u=[]:=fp (by have:=hv.len;omega);subst hu;exact⟨t,rfl,by rw[gg];exact Av t⟩
 |k+1,t,hk,u,hv=>by
  match u,hv with
  |[],hv=>have:=hv.len;simp at this;omega
  |r::u,hv=>
   have hr:r∈pools.getD t.length []:=hv.mem 0 r rfl
   have hrt:r∉t:=fun h=>by
    have:=(List.nodup_append.1 hv.nd).2.2 r h r bf;exact this rfl
   have hv':Val pools (t++[r]) u:=by
    refine⟨?_,fun i q hi=> ?_,?_⟩
    ·have:=hv.len;simp at this⊢;omega
    ·have:=hv.mem (i+1) q (by simpa using hi);rw[show t.length+(i+1)=(t++[r]).length+i by simp;omega]at this;exact this
    ·rw[di];exact hv.nd
   obtain⟨who1,e1,l1⟩:=pD hup (k:=k) (t:=t++[r]) (by simp;omega) u hv'
   have hf:(if r∈t then none else iW pools k (t++[r]))=some who1:=by
    rw[aw hrt];exact e1
   rcases lO (fun q=>if q∈t then none else iW pools k (t++[q])) (pools.getD t.length []) with⟨_,h2⟩|⟨pre,x,post,y,h1,h2,h3,h4⟩
   ·have:=h2 r hr;rw[hf]at this;cases this
   ·refine⟨y,by rw[iW];exact h4,?_⟩;by_cases hxr:x=r
    ·subst hxr;rw[hf]at h3;cases aK h3;rw[di]at l1;exact l1
    ·have hlt:x<r:=by
      rw[h1]at hr;rcases bO.1 hr with hp|hp
      ·have:=h2 r hp;rw[hf]at this;cases this
      ·rcases bo.1 hp with e|hp
       ·exact absurd e.symm hxr
       ·have hpw:(pools.getD t.length []).Pairwise (· < ·):=by
         cases hq:pools[t.length]? with
         |none=>simp[List.getD,hq]
         |some p=>
          have:pools.getD t.length []=p:=(by simp[List.getD,hq]);rw[this];exact hup p (aL hq)
        rw[h1,List.pairwise_append]at hpw;exact(List.pairwise_cons.1 hpw.2.1).1 r hp
     have hxt:x∉t:=fun hx=>by
      rw[ay hx]at h3;cases h3
     rw[aw hxt]at h3;have hnt:t.Nodup:=(List.nodup_append.1 hv.nd).1;obtain⟨u2,e2,_⟩:=sD (k:=k) (t:=t++[x]) (by simp;omega) (List.nodup_append.2 ⟨hnt,by simp,fun a ha b hb=>by rw[bK.1 hb];rintro rfl;exact hxt ha⟩) h3;rw[e2,di,Cx];exact Nf hlt _ _
theorem Cy {n:Int}: ∀{l:List (Int×Int)} {last:Int},good last n l-> ∀s∈l,∀t∈l,t.1<=s.2->s.2<t.2->False
 |[],_,_,s,hs,_,_,_,_=>by cases hs
 |q::l,last,h,s,hs,t,ht,h1,h2=>by
  obtain⟨g1,g2,g3,g4⟩:=h;rcases bo.1 hs with es|hs'
  ·subst es;rcases bo.1 ht with et|ht'
   ·subst et;omega
   ·have:=pI g4 t ht';omega
  ·rcases bo.1 ht with et|ht'
   ·subst et;have:=pI g4 s hs';omega
   ·exact Cy g4 s hs' t ht' h1 h2
theorem yP (fs:List (Nat->Bool))(x y r:Int):okP fs x y r=true↔0<=x/\y<=1440/\x<=y/\ ∀i:Nat,x<=(i:Int)->(i:Int)<y->(fs.getD r.toNat fun _=>false) i=true:=Au _ x y
theorem xW (ok:Int->Bool)(roles:List (List Int))(i:Nat):(gj ok roles).getD i []=(roles.getD i []).filter ok:=by
 unfold gj;rw[dW,dW,bg];cases roles[i]? <;>rfl
theorem uN {s:Sv}{fs:List (Nat->Bool)}{x:Int}{who:List Int}:Fit s fs (x+s.bef) who↔Val (gj (okP fs x (x+jX s)) s.roles) [] who:=by
 have e:x+s.bef-s.bef=x:=by omega
 constructor
 ·rintro⟨h1,h2,h3,h4⟩;rw[e]at h4;refine⟨by unfold gj;rw[a8];simpa using h1,fun i r hi=> ?_,by simpa using h3⟩;rw[xW,fc,bH,List.mem_filter];have hil:=(aE.1 hi).1;have hp:s.roles[i]? =some (s.roles[i]'(by omega)):=ax _;refine⟨?_,h4 r (aL hi)⟩;rw[show s.roles.getD i []=s.roles[i]'(by omega) by simp[List.getD,hp]];exact h2 i r _ hi hp
 ·rintro⟨h1,h2,h3⟩;have hl:who.length=s.roles.length:=(by unfold gj at h1;rw[a8]at h1;simpa using h1)
  have h5: ∀(i:Nat) (r:Int),who[i]? =some r->r∈s.roles.getD i []/\okP fs x (x+jX s) r=true:=fun i r hi=>by
   have:=h2 i r hi;rwa[xW,fc,bH,List.mem_filter]at this
  refine⟨hl,fun i r p hi hp=> ?_,by simpa using h3,fun r hr=> ?_⟩
  ·have:=(h5 i r hi).1;rwa[show s.roles.getD i []=p by simp[List.getD,hp]]at this
  ·obtain⟨i,hi,rfl⟩:=List.getElem_of_mem hr;rw[e];exact(h5 i _ (ax hi)).2
theorem wj {ok:Int->Bool}{s:Sv}{n:Int}(h:yI s n): ∀p∈gj ok s.roles,p.Pairwise (· < ·):=fun p hp=>by
 unfold gj at hp;rw[du]at hp;obtain⟨q,hq,rfl⟩:=hp;exact(h.pool q hq).up.filter _
theorem yQ {x:Int}{zs:List Int}(h:x∈zs):x∈Go.Lib.compact zs:=by
 have key: ∀n,n<=zs.length-> ∀j,j<n->zs.getD j 0∈Go.Lib.compactUpTo zs.toArray n:=by
  intro n;induction n with
  |zero=>intro _ j hj;omega
  |succ n ih=>
   intro hn j hj;rw[Go.Lib.compactUpTo_succ];by_cases e:j=n
   ·subst e;cases hk:Go.Lib.keeps zs.toArray j with
    |true=>
     rw[ay rfl,getElem!_pos _ j (by simpa using(by omega:j<zs.length))];simp[List.getD,ax (by omega:j<zs.length)]
    |false=>
     have h0:j≠0:=fun e=>(by subst e;simp[Go.Lib.keeps]at hk);have:=ih (by omega) (j-1) (by omega)
     have heq:zs.getD j 0=zs.getD (j-1) 0:=by
      have h1:j<zs.length:=(by omega);have h2:j-1<zs.length:=(by omega);simp[Go.Lib.keeps,h0]at hk;simp only[List.getD];exact hk
     rw[heq];exact fd _ this
   ·exact fd _ (ih (by omega) j (by omega))
 obtain⟨j,hj,rfl⟩:=List.getElem_of_mem h;have:=key zs.length (aA _) j hj;show _∈Go.Lib.compactUpTo _ _;simpa[List.getD,ax hj] using this
theorem Ds (zs:List Int):(Go.Lib.compact zs).Sublist zs:=by
 have e:zs=(List.range zs.length).map (zs.toArray[·]!):=by
  apply List.ext_getElem (by simp);intro i h1 h2;simp[h1]
 unfold Go.Lib.compact Go.Lib.compactUpTo;conv=>rhs;rw[e]
 exact List.Sublist.map _ (List.filter_sublist)
theorem IU (W:Int)(fs:List (Nat->Bool))(roles:List (List Int)):(gC W fs roles).Pairwise (· <= ·):=by
 have h:((nN W fs roles).mergeSort fun x y=>decide (x<=y)).Pairwise (fun a b=>decide (a<=b)=true):=List.pairwise_mergeSort (fun a b c h1 h2=>by simp at h1 h2⊢;omega) (fun a b=>by simp;omega) _;exact(h.imp (fun h=>eJ h)).sublist (Ds _)
theorem FT {W x:Int}{fs:List (Nat->Bool)}{roles:List (List Int)}:x∈gC W fs roles↔ ∃p∈roles,∃r∈p,∃s∈rs (fs.getD r.toNat fun _=>false) 1440,W<=s.2-s.1/\s.1=x:=by
 have h0:x∈gC W fs roles↔x∈nN W fs roles:=⟨fun h=>List.mem_mergeSort.1 (vk h),fun h=>yQ (List.mem_mergeSort.2 h)⟩
 rw[h0];unfold nN xy tr;simp only[List.mem_flatMap,du,List.mem_filter,bz];constructor
 ·rintro⟨p,hp,r,hr,s,⟨hs,hw⟩,e⟩;exact⟨p,hp,r,hr,s,hs,hw,e⟩
 ·rintro⟨p,hp,r,hr,s,hs,hw,e⟩;exact⟨p,hp,r,hr,s,⟨hs,hw⟩,e⟩
theorem FU {f:Nat->Bool}{x y:Int}(h0:0<=x)(hxy:x<y)(hy:y<=1440)(h: ∀i:Nat,x<=(i:Int)->(i:Int)<y->f i=true): ∃s∈rs f 1440,s.1<=x/\y<=s.2/\(0<=s.1/\s.2<=1440/\ ∀i:Nat,s.1<=(i:Int)->(i:Int)<s.2->f i=true):=by
 have hR:=yG f 1440
 have has: ∀i:Nat,i<1440->(f i=true↔ ∃s∈rs f 1440,s.1<=(i:Int)/\(i:Int)<s.2):=fun i hi=>by
  rw[<-hR.has i hi,List.any_eq_true];simp
 have hg:=pI hR.good
 have full: ∀s∈rs f 1440,0<=s.1/\s.2<=1440/\ ∀i:Nat,s.1<=(i:Int)->(i:Int)<s.2->f i=true:=fun s hs=>by
  obtain⟨g1,g2,g3⟩:=hg s hs;exact⟨by omega,g3,fun i h1 h2=>(has i (by omega)).2 ⟨s,hs,h1,h2⟩⟩
 obtain⟨n,hn⟩: ∃n:Nat,x=(n:Int):=⟨x.toNat,by omega⟩
 obtain⟨s,hs,h1,h2⟩:=(has n (by omega)).1 (h n (by omega) (by omega));refine⟨s,hs,by omega,?_,full s hs⟩;refine gd fun hlt=> ?_;obtain⟨g1,g2,g3⟩:=hg s hs;obtain⟨m,hm⟩: ∃m:Nat,s.2=(m:Int):=⟨s.2.toNat,by omega⟩
 obtain⟨t,ht,t1,t2⟩:=(has m (by omega)).1 (h m (by omega) (by omega));exact Cy hR.good s hs t ht (by omega) (by omega)
theorem Aw {s:Sv}{n:Int}{fs:List (Nat->Bool)}{x:Int}{who:List Int}(hS:yI s n)(h:Fit s fs (x+s.bef) who): ∃p∈gC (jX s) fs s.roles,p<=x/\Fit s fs (p+s.bef) who:=by
 have hme:=hS.meas;unfold iV at hme;have hme:=eJ hme;have hW:1<=jX s:=by unfold jX;omega
 have ex: ∀(l:List Int),(∀r∈l,∃t∈rs (fs.getD r.toNat fun _=>false) 1440,t.1<=x/\x+jX s<=t.2/\(0<=t.1/\t.2<=1440/\ ∀i:Nat,t.1<=(i:Int)->(i:Int)<t.2->(fs.getD r.toNat fun _=>false) i=true))->l≠[]->
   ∃p,p<=x/\0<=p/\(∃r∈l,∃t∈rs (fs.getD r.toNat fun _=>false) 1440,jX s<=t.2-t.1/\t.1=p)/\ ∀r∈l,∃t:Int×Int,t.1<=p/\x+jX s<=t.2/\t.2<=1440/\ ∀i:Nat,t.1<=(i:Int)->(i:Int)<t.2->(fs.getD r.toNat fun _=>false) i=true:=by
  intro l;induction l with
  |nil=>intro _ h;exact absurd rfl h
  |cons r l ih=>
   intro hl _;obtain⟨t,ht,t1,t2,t3,t4,t5⟩:=hl r bf;by_cases hn:l=[]
   ·subst hn;refine⟨t.1,t1,t3,⟨r,bf,t,ht,by omega,rfl⟩,fun q hq=> ?_⟩;rw[bK.1 hq];exact⟨t,fi _,t2,t4,t5⟩
   ·obtain⟨p,p1,p2,⟨r0,hr0,t0,ht0,w0,e0⟩,p4⟩:=ih (fun q hq=>hl q (bp _ hq)) hn;by_cases hle:t.1<=p
    ·refine⟨p,p1,p2,⟨r0,bp _ hr0,t0,ht0,w0,e0⟩,fun q hq=> ?_⟩;rcases bo.1 hq with rfl|hq
     ·exact⟨t,hle,t2,t4,t5⟩
     ·exact p4 q hq
    ·refine⟨t.1,t1,t3,⟨r,bf,t,ht,by omega,rfl⟩,fun q hq=> ?_⟩;rcases bo.1 hq with rfl|hq
     ·exact⟨t,fi _,t2,t4,t5⟩
     ·obtain⟨u,u1,u2,u4,u5⟩:=p4 q hq;exact⟨u,by omega,u2,u4,u5⟩
 have hwl:=h.len;have hr1:=hS.r1;have hwn:who≠[]:=fun e=>by rw[e]at hwl;simp at hwl;omega
 obtain⟨p,p1,p2,⟨r,hr,t,ht,w0,e0⟩,p4⟩:=ex who (fun r hr=>by
  have:=(yP _ _ _ _).1 (h.ok r hr);rw[show x+s.bef-s.bef=x by omega]at this;exact FU this.1 (by omega) this.2.1 this.2.2.2) hwn
 refine⟨p,?_,p1,⟨h.len,h.mem,h.nd,fun r hr=>by
  rw[show p+s.bef-s.bef=p by omega,yP];obtain⟨t,t1,t2,t4,t5⟩:=p4 r hr;exact⟨p2,by omega,by omega,fun i h1 h2=>t5 i (by omega) (by omega)⟩⟩⟩
 obtain⟨i,hi,rfl⟩:=List.getElem_of_mem hr;have hp:s.roles[i]? =some (s.roles[i]'(by omega)):=ax _;exact FT.2 ⟨_,aL hp,_,h.mem i _ _ (ax hi) hp,t,ht,w0,e0⟩
theorem FV {s:Sv}{n:Int}{fs:List (Nat->Bool)}(hS:yI s n){m:Int}{who:List Int}(h:iC s.len s.bef s.aft s.roles fs=some (m,who)):Fit s fs m who/\ ∀m' who',Fit s fs m' who'->m<m'\/m=m'/\qu who who'=true:=by
 unfold iC at h;have hW:s.bef+s.len+s.aft=jX s:=rfl;rcases lO (re s.len s.bef s.aft s.roles fs) (gC (s.bef+s.len+s.aft) fs s.roles) with⟨h1,_⟩|⟨pre,x,post,y,h1,h2,h3,h4⟩
 ·rw[h1]at h;cases h
 ·rw[h4]at h;cases aK h;unfold re at h3;rw[hW]at h3;cases hp:iW (gj (okP fs x (x+jX s)) s.roles) s.roles.length [] with
  |none=>rw[hp]at h3;cases h3
  |some w0=>
   rw[hp]at h3;have h3':=aK h3;have e1:x+s.bef=m:=congrArg Prod.fst h3';have e2:w0=who:=congrArg Prod.snd h3';subst e1 e2;have hfl:(gj (okP fs x (x+jX s)) s.roles).length=s.roles.length:=(by unfold gj;rw[a8]);obtain⟨u,eu,hv⟩:=sD (by rw[hfl];simp) (by simp) hp;rw[List.nil_append]at eu;subst eu;refine⟨uN.2 hv,fun m' who' hf=> ?_⟩;obtain⟨x',rfl⟩: ∃x',m'=x'+s.bef:=⟨m'-s.bef,by omega⟩
   obtain⟨p,hpp,hpx,hfp⟩:=Aw hS hf
   have hxp:x<=p:=by
    rw[<-hW,h1]at hpp;rcases bO.1 hpp with hq|hq
    ·exfalso;have:=h2 p hq;unfold re at this;rw[hW]at this;obtain⟨w1,e1,_⟩:=pD (wj hS) (k:=s.roles.length) (t:=[]) (by unfold gj;rw[a8];simp) who' (uN.1 hfp);rw[e1]at this;cases this
    ·rcases bo.1 hq with rfl|hq
     ·exact fi _
     ·have hup:=IU (s.bef+s.len+s.aft) fs s.roles;rw[h1,List.pairwise_append]at hup;exact(List.pairwise_cons.1 hup.2.1).1 p hq
   by_cases hlt:x<x'
   ·exact .inl (by omega)
   ·have hx:x=x':=(by omega);subst hx;refine .inr ⟨rfl,?_⟩;obtain⟨w1,e1,l1⟩:=pD (wj hS) (k:=s.roles.length) (t:=[]) (by unfold gj;rw[a8];simp) who' (uN.1 hf);rw[hp]at e1;cases aK e1;simpa using l1
theorem xX {s:Sv}{n:Int}{fs:List (Nat->Bool)}(hS:yI s n)(h:iC s.len s.bef s.aft s.roles fs=none)(m:Int)(who:List Int): ¬Fit s fs m who:=fun hf=>by
 unfold iC at h;obtain⟨x,rfl⟩: ∃x,m=x+s.bef:=⟨m-s.bef,by omega⟩
 obtain⟨p,hpp,hpx,hfp⟩:=Aw hS hf;have hW:s.bef+s.len+s.aft=jX s:=rfl;rcases lO (re s.len s.bef s.aft s.roles fs) (gC (s.bef+s.len+s.aft) fs s.roles) with⟨_,h2⟩|⟨_,_,_,_,_,_,_,h4⟩
 ·have:=h2 p (by rw[hW];exact hpp);unfold re at this;rw[hW]at this;obtain⟨w1,e1,_⟩:=pD (wj hS) (k:=s.roles.length) (t:=[]) (by unfold gj;rw[a8];simp) who (uN.1 hfp);rw[e1]at this;cases this
 ·rw[h4]at h;cases h
def Cz (roles:List (List Int))(fs:List (Nat->Bool))(x y:Int):List Int->Nat->List Int->Bool
 |[],_,_=>true
 |r::l,i,had=>if r∉roles.getD i []\/r∈had\/okP fs x y r=false then false else Cz roles fs x y l (i+1) (addN had r)
def nJ (s:Sv)(ds:List (List (Nat->Bool)))(day min:Int)(who:List Int):Bool:=if day<0\/(ds.length:Int)<=day\/who.length≠s.roles.length then false else Cz s.roles (ds.getD day.toNat []) (min-s.bef) (min+s.len+s.aft) who 0 []
theorem CA {roles:List (List Int)}{fs:List (Nat->Bool)}{x y:Int}: ∀{l:List Int} {i:Nat} {had:List Int},Cz roles fs x y l i had=true↔(∀(k:Nat) (r:Int),l[k]? =some r->r∈roles.getD (i+k) [])/\(∀r∈l,r∉had)/\l.Nodup/\ ∀r∈l,okP fs x y r=true
 |[],i,had=>by simp[Cz]
 |r::l,i,had=>by
  rw[Cz];by_cases h:r∉roles.getD i []\/r∈had\/okP fs x y r=false
  ·rw[ay h];constructor
   ·intro h;cases h
   ·rintro⟨h1,h2,_,h4⟩;exfalso;rcases h with h|h|h
    ·exact h (h1 0 r rfl)
    ·exact h2 r bf h
    ·rw[h4 r bf]at h;cases h
  ·rw[aw h,CA];have h1:r∈roles.getD i []:=Classical.not_not.1 fun e=>h (.inl e);have h2:r∉had:=fun e=>h (.inr (.inl e))
   have h3:okP fs x y r=true:=by
    cases hk:okP fs x y r with
    |true=>rfl
    |false=>exact absurd (.inr (.inr hk)) h
   constructor
   ·rintro⟨q1,q2,q3,q4⟩;refine⟨fun k u hk=> ?_,fun u hu=> ?_,List.nodup_cons.2 ⟨fun hm=> ?_,q3⟩,fun u hu=> ?_⟩
    ·match k,hk with
     |0,hk=>cases aK hk;exact h1
     |k+1,hk=>
      have:=q1 k u (by simpa using hk);rw[show i+(k+1)=i+1+k by omega];exact this
    ·rcases bo.1 hu with rfl|hu
     ·exact h2
     ·exact fun e=>q2 u hu ((pY _ _ _).2 (.inl e))
    ·exact q2 r hm ((pY _ _ _).2 (.inr rfl))
    ·rcases bo.1 hu with rfl|hu
     ·exact h3
     ·exact q4 u hu
   ·rintro⟨q1,q2,q3,q4⟩;refine⟨fun k u hk=> ?_,fun u hu e=> ?_,(List.nodup_cons.1 q3).2,fun u hu=>q4 u (bp _ hu)⟩
    ·have:=q1 (k+1) u (by simpa using hk);rw[show i+1+k=i+(k+1) by omega];exact this
    ·rcases(pY _ _ _).1 e with e|rfl
     ·exact q2 u (bp _ hu) e
     ·exact(List.nodup_cons.1 q3).1 hu
theorem mc {s:Sv}{ds:List (List (Nat->Bool))}{day min:Int}{who:List Int}:nJ s ds day min who=true↔ ∃(d:Nat) (fs:List (Nat->Bool)),day=(d:Int)/\ds[d]? =some fs/\Fit s fs min who:=by
 unfold nJ;by_cases h:day<0\/(ds.length:Int)<=day\/who.length≠s.roles.length
 ·rw[ay h];constructor
  ·intro h;cases h
  ·rintro⟨d,fs,rfl,hd,hf⟩;exfalso;have h1:=(aE.1 hd).1;have h2:=hf.len;omega
 ·rw[aw h];obtain⟨d,hd⟩: ∃d:Nat,day=(d:Int):=⟨day.toNat,by omega⟩
  subst hd;have hl:who.length=s.roles.length:=Classical.not_not.1 fun e=>h (.inr (.inr e));have hdl:d<ds.length:=(by omega);have hds:ds[d]? =some (ds[d]'hdl):=ax hdl;have eg:ds.getD (Int.toNat (d:Int)) []=ds[d]'hdl:=(by simp[List.getD,hds]);have ey:min+s.len+s.aft=min-s.bef+jX s:=(by unfold jX;omega);rw[eg,ey,CA];constructor
  ·rintro⟨q1,_,q3,q4⟩;refine⟨d,_,rfl,hds,hl,fun i r p h1 h2=> ?_,q3,q4⟩;have:=q1 i r h1;rwa[bH,show s.roles.getD i []=p by simp[List.getD,h2]]at this
  ·rintro⟨d',fs,e,hd',hf⟩;have:d'=d:=(by omega);subst this;rw[hds]at hd';cases aK hd';refine⟨fun i r h1=> ?_,(fun r _ e=>by cases e),hf.nd,hf.ok⟩;have hil:=(aE.1 h1).1;have hp:s.roles[i]? =some (s.roles[i]'(by omega)):=ax _;rw[bH,show s.roles.getD i []=s.roles[i]'(by omega) by simp[List.getD,hp]];exact hf.mem i r _ h1 hp
theorem Ax (p:List Int)(n:Int): ∀m i,kN p n m i=0\/kN p n m i=6\/kN p n m i=2
 |0,_=> .inl rfl
 |m+1,i=>by
  rw[kN];by_cases c1:p.getD i 0<0\/n<=p.getD i 0
  ·rw[ay c1];exact .inr (.inl rfl)
  ·rw[aw c1];by_cases c2:0<i/\p.getD i 0<=p.getD (i-1) 0
   ·rw[ay c2];exact .inr (.inr rfl)
   ·rw[aw c2];exact Ax p n m (i+1)
theorem xY (n:Int): ∀l:List (List Int),0<=jc n l/\jc n l<=6
 |[]=>⟨fi _,show(0:Int)<=6 by decide⟩
 |p::l=>by
  have hp:0<=gG p n/\gG p n<=6:=by
   unfold gG;by_cases h:p.length<1\/8<p.length
   ·rw[ay h];decide
   ·rw[aw h];rcases Ax p n p.length 0 with h|h|h<;>rw[h]<;>decide
  rw[jc];by_cases h:gG p n≠0
  ·rw[ay h];exact hp
  ·rw[aw h];exact xY n l
theorem FW (s:Sv)(n:Int):0<=ef s n/\ef s n<=6:=by
 unfold ef;by_cases h1:iV s.len s.bef s.aft=false
 ·rw[ay h1];decide
 ·rw[aw h1];by_cases h2:s.roles.length<1\/4<s.roles.length
  ·rw[ay h2];decide
  ·rw[aw h2];exact xY n _
theorem Ay (s:Sv): ∀l:List (List (Nat->Bool)),0<=it s l/\it s l<=6
 |[]=>⟨fi _,show(0:Int)<=6 by decide⟩
 |d::l=>by
  rw[it];by_cases h:ef s d.length≠0
  ·rw[ay h];exact FW s _
  ·rw[aw h];exact Ay s l
theorem xZ {s:Sv}: ∀{l:List (List (Nat->Bool))} {n:Nat} {x:Nat×Int×List Int},jL s l n=some x-> ∃(k:Nat) (fs:List (Nat->Bool)),x.1=n+k/\l[k]? =some fs/\iC s.len s.bef s.aft s.roles fs=some (x.2.1,x.2.2)/\ ∀(j:Nat) (gs:List (Nat->Bool)),j<k->l[j]? =some gs->iC s.len s.bef s.aft s.roles gs=none
 |[],n,x,h=>by cases h
 |d::l,n,x,h=>by
  rw[jL]at h;cases hp:iC s.len s.bef s.aft s.roles d with
  |some y=>
   rw[hp]at h;cases aK h;exact⟨0,d,rfl,rfl,hp,fun j gs hj _=>by omega⟩
  |none=>
   rw[hp]at h;obtain⟨k,fs,e1,e2,e3,e4⟩:=xZ h;refine⟨k+1,fs,by omega,by simpa using e2,e3,fun j gs hj hg=> ?_⟩;match j,hg with
   |0,hg=>cases aK hg;exact hp
   |j+1,hg=>exact e4 j gs (by omega) (by simpa using hg)
theorem ya {s:Sv}: ∀{l:List (List (Nat->Bool))} {n:Nat},jL s l n=none-> ∀fs∈l,iC s.len s.bef s.aft s.roles fs=none
 |[],_,_,fs,hf=>by cases hf
 |d::l,n,h,fs,hf=>by
  rw[jL]at h;cases hp:iC s.len s.bef s.aft s.roles d with
  |some y=>rw[hp]at h;cases h
  |none=>
   rw[hp]at h;rcases bo.1 hf with rfl|hf
   ·exact hp
   ·exact ya h fs hf
theorem IV {s:Sv}{ds:List (List (Nat->Bool))}(h:(findP s ds).err=0):ds.length<=30/\it s ds=0/\ ∃(d:Nat) (fs:List (Nat->Bool)),(findP s ds).day=(d:Int)/\ds[d]? =some fs/\iC s.len s.bef s.aft s.roles fs=some ((findP s ds).min,(findP s ds).who)/\ ∀(j:Nat) (gs:List (Nat->Bool)),j<d->ds[j]? =some gs->iC s.len s.bef s.aft s.roles gs=none:=by
 unfold findP at h⊢;by_cases h1:30<ds.length
 ·rw[ay h1]at h;cases h
 ·rw[aw h1]at h⊢;by_cases h2:it s ds≠0
  ·rw[ay h2]at h;exact absurd h h2
  ·rw[aw h2]at h⊢;have h2':it s ds=0:=Classical.not_not.1 h2;cases hd:jL s ds 0 with
   |none=>rw[hd]at h;cases h
   |some x=>
    obtain⟨k,fs,e1,e2,e3,e4⟩:=xZ hd;exact⟨by omega,h2',k,fs,by show((x.1:Nat):Int)=_;omega,e2,e3,e4⟩
theorem IW {s:Sv}{ds:List (List (Nat->Bool))}(h:(findP s ds).err=11):ds.length<=30/\it s ds=0/\ ∀fs∈ds,iC s.len s.bef s.aft s.roles fs=none:=by
 unfold findP at h;by_cases h1:30<ds.length
 ·rw[ay h1]at h;cases h
 ·rw[aw h1]at h;by_cases h2:it s ds≠0
  ·rw[ay h2]at h;have:=Ay s ds;dsimp only at h;omega
  ·rw[aw h2]at h;have h2':it s ds=0:=Classical.not_not.1 h2;cases hd:jL s ds 0 with
   |none=>exact⟨by omega,h2',ya hd⟩
   |some x=>rw[hd]at h;cases h
def SP (f:Nat->Bool)(len m:Int):Prop:=0<=m/\m+len<=1440/\ ∀i:Nat,m<=(i:Int)->(i:Int)<m+len->f i=true
def sv1 (len:Int):Sv:=⟨len,0,0,[[0]]⟩
theorem uO {len m:Int}{who:List Int}{f:Nat->Bool}(h1:1<=len):Fit (sv1 len) [f] m who↔who=[0]/\SP f len m:=by
 have ew:jX (sv1 len)=len:=by show 0+len+0=len;omega
 have ok:okP [f] (m-(sv1 len).bef) (m-(sv1 len).bef+jX (sv1 len)) 0=true↔SP f len m:=by
  rw[yP,ew,show m-(sv1 len).bef=m from Int.sub_zero m];exact⟨fun⟨a,b,_,d⟩=>⟨a,b,d⟩,fun⟨a,b,d⟩=>⟨a,b,by omega,d⟩⟩
 constructor
 ·rintro⟨h2,h3,_,h5⟩;match who,h2 with
  |[r],_=>
   have hr:r=0:=(by simpa using h3 0 r [0] rfl rfl);subst hr;exact⟨rfl,ok.1 (h5 0 (by simp))⟩
 ·rintro⟨rfl,h⟩;refine⟨rfl,fun i r p hi hp=> ?_,by simp,fun r hr=> ?_⟩
  ·match i,hi,hp with
   |0,hi,hp=>cases hi;cases hp;simp
  ·cases bK.1 hr;exact ok.2 h
theorem CB {len:Int}(h:1<=len/\len<=1440): ∀{ds:List (List (Nat->Bool))},(∀fs∈ds,∃f,fs=[f])->it (sv1 len) ds=0
 |[],_=>rfl
 |fs::ds,hd=>by
  obtain⟨f,rfl⟩:=hd fs bf
  have e:ef (sv1 len) (([f]:List (Nat->Bool)).length:Int)=0:=by
   have hm:iV len 0 0=true:=ba (by omega);show(if iV len 0 0=false then 3 else _)=_;rw[hm];rfl
  rw[it,e,aw (by simp)];exact CB h fun fs hf=>hd fs (bp _ hf)
theorem KU {len:Int}(h:1<=len/\len<=1440){ds:List (List (Nat->Bool))}(h30:ds.length<=30)(hd: ∀fs∈ds,∃f,fs=[f]):
  (∃(d:Nat) (m:Int) (f:Nat->Bool),findP (sv1 len) ds=⟨0,d,m,[0]⟩/\ds[d]? =some [f]/\SP f len m/\(∀m',SP f len m'->m<=m')/\ ∀(j:Nat) g,j<d->ds[j]? =some [g]-> ∀m',¬SP g len m')\/((findP (sv1 len) ds).err=11/\ ∀g,[g]∈ds-> ∀m',¬SP g len m'):=by
 have hz:=CB h hd;have hok: ∀fs∈ds,yI (sv1 len) fs.length:=fun fs hf=>sq (vT hz fs hf);by_cases he:(findP (sv1 len) ds).err=0
 ·obtain⟨_,_,d,fs,e1,e2,e3,e4⟩:=IV he;have hm:=aL e2;obtain⟨f,rfl⟩:=hd fs hm;obtain⟨f1,f2⟩:=FV (hok _ hm) e3;obtain⟨g1,g2⟩:=(uO h.1).1 f1;refine .inl ⟨d,(findP (sv1 len) ds).min,f,?_,e2,g2,fun m' hm'=> ?_,fun j g hj hg m' hm'=> ?_⟩
  ·generalize findP (sv1 len) ds=q at*;cases q;dsimp only at he e1 g1;rw[he,e1,g1]
  ·rcases f2 m' [0] ((uO h.1).2 ⟨rfl,hm'⟩) with q|⟨q,_⟩<;>omega
  ·exact xX (hok _ (aL hg)) (e4 j _ hj hg) m' [0] ((uO h.1).2 ⟨rfl,hm'⟩)
 ·have e11:(findP (sv1 len) ds).err=11:=by
   unfold findP at he⊢;rw[aw (by omega),aw (by rw[hz];simp)]at he⊢;split at he
   ·exact absurd rfl he
   ·rfl
  obtain⟨_,_,e3⟩:=IW e11;exact .inr ⟨e11,fun g hg m' hm'=>xX (hok _ hg) (e3 _ hg) m' [0] ((uO h.1).2 ⟨rfl,hm'⟩)⟩
def c1 (L:List Ru)(len:Int)(aps:List Ap):Co:=⟨L,[[97]],[sv1 len],aps⟩
theorem Ec (L:List Ru)(len:Int)(aps:List Ap)(day:Int): ∀n i:Nat,lE (c1 L len aps) (sv1 len) day n i=(List.range' i n).map fun(k:Nat)=>[fS (c1 L len aps) 0 (day+(k:Int)) (-1)]
 |0,_=>rfl
 |n+1,i=>by
  rw[List.range'_succ,dm,<-Ec L len aps day n (i+1)];rfl
theorem uP {f:Nat->Bool}{len m:Int}:SP (mV f (inl [])) len m↔SP f len m:=by
 have e: ∀i:Nat,i<1440->mV f (inl []) i=f i:=fun i hi=>by
  unfold mV;rw[ba hi];simp[inl]
 exact⟨fun⟨a,b,c⟩=>⟨a,b,fun i h1 h2=>by rw[<-e i (by omega)];exact c i h1 h2⟩,fun⟨a,b,c⟩=>⟨a,b,fun i h1 h2=>by rw[e i (by omega)];exact c i h1 h2⟩⟩
def cR (t:List UInt8):Cm:=⟨1,0,0,0,t,[],sv0,0,0,[]⟩
def cAd:Cm:=⟨2,0,0,0,[],[97],sv0,0,0,[]⟩
def cS (s:Sv):Cm:=⟨3,0,0,0,[],[],s,0,0,[]⟩
def cF (n day days:Int):Cm:=⟨4,n,day,days,[],[],sv0,0,0,[]⟩
theorem Az (L:List Ru){len:Int}(aps:List Ap)(h:1<=len/\len<=1440){day:Int}{days:Nat}(h0:0<=day)(h1:day+days<=146097)(hd:1<=days/\days<=30):
  (oz (c1 L len aps) 0 day days).2=c1 L len aps/\((∃(d:Nat) (m:Int),d<days/\(oz (c1 L len aps) 0 day days).1=⟨0,0,d+day,m,[0],[]⟩/\SP (fS (c1 L len aps) 0 (day+d) (-1)) len m/\(∀m',SP (fS (c1 L len aps) 0 (day+d) (-1)) len m'->m<=m')/\ ∀j:Nat,j<d-> ∀m',¬SP (fS (c1 L len aps) 0 (day+j) (-1)) len m')\/((oz (c1 L len aps) 0 day days).1=noA 11/\ ∀j:Nat,j<days-> ∀m',¬SP (fS (c1 L len aps) 0 (day+j) (-1)) len m')):=by
 have hw:=Ec L len aps day days 0
 have hat: ∀j:Nat,j<days->(lE (c1 L len aps) (sv1 len) day days 0)[j]? =some [fS (c1 L len aps) 0 (day+(j:Int)) (-1)]:=fun j hj=>by
  rw[hw,bg,List.getElem?_range' hj];simp
 have hl:(lE (c1 L len aps) (sv1 len) day days 0).length=days:=by rw[hw];simp
 have eF:oz (c1 L len aps) 0 day days=if(findP (sv1 len) (lE (c1 L len aps) (sv1 len) day days 0)).err≠0 then(noA (findP (sv1 len) (lE (c1 L len aps) (sv1 len) day days 0)).err,c1 L len aps) else(⟨0,0,(findP (sv1 len) (lE (c1 L len aps) (sv1 len) day days 0)).day+day,(findP (sv1 len) (lE (c1 L len aps) (sv1 len) day days 0)).min,(findP (sv1 len) (lE (c1 L len aps) (sv1 len) day days 0)).who,[]⟩,c1 L len aps):=by
  have i1: ¬isN 0 (c1 L len aps).svs.length=false:=(by show¬isN 0 1=false;decide)
  have i2: ¬(isN day 146097=false\/(days:Int)<1\/30<(days:Int)\/146097<day+days):=by
   rintro(q|q|q|q)
   ·simp[isN]at q;omega
   all_goals omega
  unfold oz;rw[aw i1,aw i2];rfl
 rw[eF]
 rcases KU h (ds:=lE (c1 L len aps) (sv1 len) day days 0) (by omega) (fun fs hf=>by
  rw[hw]at hf;obtain⟨k,_,rfl⟩:=du.1 hf;exact⟨_,rfl⟩) with⟨d,m,f,e,e1,e2,e3,e4⟩|⟨e,e1⟩
 ·have hdl:d<days:=by rw[<-hl];exact(aE.1 e1).1
  rw[hat d hdl]at e1;cases aK e1;rw[e,aw (fun c=>c rfl)];exact⟨rfl,.inl ⟨d,m,hdl,rfl,e2,e3,fun j hj m'=>e4 j _ hj (hat j (by omega)) m'⟩⟩
 ·rw[e,ay (by decide)];exact⟨rfl,.inr ⟨rfl,fun j hj m'=>e1 _ (aL (hat j hj)) m'⟩⟩
theorem CC {t:List UInt8}{L:List Ru}(h:fE t=(0,L))(ha:0<=atP5 L [97]){len:Int}(hl:1<=len/\len<=1440):jj co0 [cR t,cAd,cS (sv1 len)]=([noA 0,jw 0,jw 0],c1 L len []):=by
 have e1:doS co0 (cR t)=(noA 0,⟨L,[],[],[]⟩):=by
  show IR co0 (fE t)=_;rw[h];rfl
 have e2:doS ⟨L,[],[],[]⟩ cAd=(jw 0,⟨L,[[97]],[],[]⟩):=by
  show KP ⟨L,[],[],[]⟩ [97]=_;unfold KP;rw[aw (by show¬12<=0;decide),aw (by show¬atP5 L [97]<0;omega)];rfl
 have e3:doS ⟨L,[[97]],[],[]⟩ (cS (sv1 len))=(jw 0,c1 L len []):=by
  have hm:iV len 0 0=true:=ba (by omega)
  have hw:ef (sv1 len) (([[97]]:List (List UInt8)).length:Int)=0:=by
   show(if iV len 0 0=false then 3 else _)=_;rw[hm];rfl
  show KQ ⟨L,[[97]],[],[]⟩ (sv1 len)=_;unfold KQ;rw[aw (by show¬8<=0;decide),aw (by rw[hw];simp)];rfl
 simp only[jj,e1,e2,e3]
theorem KV {L:List Ru}{k:Nat}(ha:atP5 L [97]=(k:Int))(len day:Int):fS (c1 L len []) 0 day (-1)=mV (fT L (wkB day) day k) (inl []):=by
 have:mS (c1 L len []) 0 day=fT L (wkB day) day k:=by
  show(if atP5 L [97]<0 then noM else fT L (wkB day) day (atP5 L [97]).toNat)=_;rw[ha,aw (by omega),bV]
 unfold fS;rw[this];rfl
section
def oE (a b:Int):Ex:=⟨3,a,b,[],[]⟩
def fM (a b:Int):M:=fun i=>(decide (a<=(i:Int))&&decide ((i:Int)<b))&&decide (i<1440)
def oL (a b:Int):List Ru:=[([97],oE a b)]
theorem Ly {a b:Int}:fA (oL a b) ([97],oE a b)=[]:=by
 have:nms (oE a b)=[]:=by simp[oE,lq,jl]
 unfold fA;dsimp only;rw[this];rfl
theorem OL {a b:Int}:iq (oL a b)=fun _=>[]:=by
 funext i;match i with
 |0=>exact(p8 rfl).trans (by rw[Ly];rfl)
 |i+1=>rfl
section
variable {a b:Int} (h:0<=a/\a<b/\b<=1440)
 include h
theorem Ng:fz (oL a b)=(0,0):=by
 have s1:(shapeP (oE a b) 1 0).1=0:=by
  have:aloneP (oE a b)=0:=(by simp[aloneP,oE,kidsP,rangeP,h]);rw[jB,aw (by decide),aw (by simp[this])];rfl
 unfold fz oL jt ruleP;rw[s1];rfl
theorem FX:dg (oL a b)=(0,0):=by
 refine EX (by rw[Ng h]) ?_ ?_ ?_
 ·intro i hi;match i,hi with
  |0,_=>rfl
  |i+1,hi=>exact absurd hi (by show¬(i+1<1);omega)
 ·intro i hi;match i,hi with
  |0,_=>show decide (-1∈fA (oL a b) ([97],oE a b))=false;rw[Ly];decide
  |i+1,hi=>exact absurd hi (by show¬(i+1<1);omega)
 ·intro i hi;unfold lk3;rw[OL];match i,hi with
  |0,_=>rfl
  |i+1,hi=>exact absurd hi (by show¬(i+1<1);omega)
theorem Lz:ia (oL a b)=(0,0):=by
 have hs:stdE (oE a b)=true:=by rw[rK];rfl
 have c0:(ff (oL a b)).getD 0 []=[⟨1,0,0,0,rs (mnE (oE a b)) 1440⟩]:=by rw[mj (u:=([97],oE a b)) rfl,nQ hs]
 have m0:fO (oL a b) 0=(1,1):=by
  rw[uH (by rw[FX h]) (by show 0<1;decide)];unfold lP;rw[c0];rfl
 unfold ia;rw[FX h,aw (by decide)]
 have:jH (fO (oL a b)) (oL a b).length 0= -1:=by
  show jH (fO (oL a b)) 1 0= -1;unfold jH;rw[m0,aw (by decide)];rfl
 rw[this,aw (by decide)]
theorem IX (wk:Int->Bool)(day:Int):fT (oL a b) wk day 0=fM a b:=by
 rw[nP (by rw[FX h]) (u:=([97],oE a b)) rfl,jg];rfl
end
end
theorem sE {a b len m:Int}(h:0<=a/\a<b/\b<=1440)(hl:1<=len):SP (fM a b) len m↔a<=m/\m+len<=b:=by
 constructor
 ·rintro⟨p,q,c⟩;have h1:=c m.toNat (by omega) (by omega);have h2:=c (m+len-1).toNat (by omega) (by omega);unfold fM at h1 h2;simp only[bn,bz]at h1 h2;omega
 ·rintro⟨p,q⟩;refine⟨by omega,by omega,fun i h1 h2=> ?_⟩;unfold fM;simp only[bn,bz];omega
theorem OM {a b len day:Int}(h:0<=a/\a<b/\b<=1440)(hl:1<=len/\len<=1440){days:Nat}(h0:0<=day)(h1:day+days<=146097)(hd:1<=days/\days<=30):(oz (c1 (oL a b) len []) 0 day days).1=if b-a<len then noA 11 else⟨0,0,day,a,[0],[]⟩:=by
 have hF: ∀j:Nat,fS (c1 (oL a b) len []) 0 (day+(j:Int)) (-1)=mV (fM a b) (inl []):=fun j=>by
  rw[KV (k:=0) (by rfl) len,IX h]
 rcases(Az (oL a b) [] hl (day:=day) (days:=days) h0 h1 hd).2 with⟨d,m,_,e,e1,e2,e3⟩|⟨e,e1⟩
 ·rw[hF,uP,sE h hl.1]at e1;have e4:=e2 a (by rw[hF,uP,sE h hl.1];omega)
  have hd0:d=0:=by
   match d,e3 with
   |0,_=>rfl
   |d+1,e3=>exact absurd (by rw[hF,uP,sE h hl.1];exact e1) (e3 0 (by omega) m)
  subst hd0;rw[aw (by omega),e];have:m=a:=(by omega);subst this;congr 1;omega
 ·have:=e1 0 (by omega) a;rw[hF,uP,sE h hl.1]at this;rw[ay (by omega)];exact e
def aS:List UInt8:=[114,117,108,101,32,97,32,61,32,48,57,58,48,48,45,49,55,58,48,48,59]
theorem ON:jy aS=(0,oL 540 1020):=by kernel_rfl
theorem OO:fE aS=(0,oL 540 1020):=by
 unfold fE;rw[ON,aw (by decide),Lz (by decide)]
end Go.Proofs.YtjkilacmkbmmbaaGreatDoor
