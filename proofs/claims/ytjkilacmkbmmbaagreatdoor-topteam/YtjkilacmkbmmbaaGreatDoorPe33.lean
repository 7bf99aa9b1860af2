/- Texts of the proof. -/
import Derived.Test.YtjkilacmkbmmbaaGreatDoorPe32
import Derived.Great.BuildSlice
set_option maxRecDepth 100000
set_option maxHeartbeats 8000000
namespace Go.Proofs.YtjkilacmkbmmbaaGreatDoor
open Go.Proofs.Tryz Go.RowKit Lx Vx Mx Msk
theorem Ct: ∀(N:Nat) (a b:Ex),lq N a b=true->a=b
 |0,_,_,h=>by cases h
 |N+1,a,b,h=>by
  unfold lq at h;simp only[bq,bH,dj]at h;obtain⟨⟨⟨⟨h1,h2⟩,h3⟩,h4⟩,h5,h6⟩:=h;have hk:a.kids=b.kids:=List.ext_getElem h5 fun i hi hj=>Ct N _ _ (h6 (a.kids[i],b.kids[i]) (List.mem_iff_getElem.2 ⟨i,by simp;omega,by simp⟩));cases a;cases b;simp only at h1 h2 h3 h4 hk;subst h1 h2 h3 h4 hk;rfl
theorem yQ {old new:List Ru}{k:Nat}(h:jr old new (k:Int)=false): ∃u,old[k]? =some u/\new[k]? =some u:=by
 unfold jr at h;rw[cg]at h;cases ha:old[k]? with
 |none=>rw[ha]at h;cases h
 |some a=>
  cases hb:new[k]? with
  |none=>rw[ha,hb]at h;cases h
  |some b=>
   rw[ha,hb]at h;simp only[Bool.or_eq_false_iff,Bool.not_eq_false']at h;have h2:=h.2;unfold pF at h2;simp only[bq,bH]at h2;have:a=b:=Prod.ext h2.1 (Ct _ _ _ h2.2);exact⟨a,rfl,by rw[this]⟩
theorem MY {l:List Ru}(h:(di l).1=0){k:Nat}{u:Ru}(hu:l[k]? =some u):atP5 l u.1=(k:Int):=by
 have h1:=(DQ h).1 k (aE.1 hu).1;unfold lk1 at h1;rw[hu]at h1;simpa using h1
theorem As {L L':List Ru}(hc:(di L).1=0)(hc':(di L').1=0)(wk:Int->Bool)(day:Int): ∀(m i:Nat),muR L' i<m->i<L'.length->jr L L' (i:Int)=false->(∀k∈fK L' (i:Int),jr L L' k=false)->fW L wk day i=fW L' wk day i
 |0,_,h,_,_,_=>by omega
 |m+1,i,hm,hi,hn,hu=>by
  obtain⟨u,h1,h2⟩:=yQ hn;rw[od hc h1,od hc' h2];refine mR _ u.2 (aA _) fun x hx=> ?_;obtain⟨q0,q1,_⟩:=rQ hc' (aM h2) hx;obtain⟨k,ek⟩: ∃k:Nat,atP5 L' x=(k:Int):=⟨(atP5 L' x).toNat,by omega⟩
  have hl:=mT hc' h2 hx;rw[ek,cg]at hl;have hw:Lx.Way (fun a b=>(iy L' a).contains b) i k:=Relation.TransGen.single (by simpa using hl);have hkl:k<L'.length:=(by omega);have hku:(k:Int)∈fK L' (i:Int):=(mn hc' hi).2 ⟨k,rfl,hkl,hw⟩;have hnk:=hu _ hku;obtain⟨v,v1,v2⟩:=yQ hnk
  have hvx:v.1=x:=by
   obtain⟨v',e1,e2⟩:=GP ek;rw[v2]at e1;cases e1;exact e2
  have eL:atP5 L x=(k:Int):=(by rw[<-hvx];exact MY hc v1);rw[eL,ek,cg];refine As hc hc' wk day m k (by have:=rL hc' hi hl;omega) hkl hnk fun j hj=>hu j ?_;obtain⟨j',e,hjl,hjw⟩:=(mn hc' hkl).1 hj;exact(mn hc' hi).2 ⟨j',e,hjl,hw.trans hjw⟩
theorem MZ {t:List UInt8}(h:(fO t).1=0):ii (fO t).2=(0,0):=by
 unfold fO at h⊢;split at h
 ·rename_i h1;exact absurd h h1
 ·rename_i h1;rw[aw h1];exact Ao h
structure DJ (d:Dk):Prop extends DI d where
 gv:0<=d.given
theorem Ste.j {d d':Dk}(h:DJ d)(hs:Ste d d')(hg:d'.given=d.given):DJ d':=⟨hs.1,by rw[hg];exact h.gv⟩
theorem Dm {d:Dk}(h:DJ d){l:List Ru}(hl:ii l=(0,0)):DI {d with rules:=l,vers:=qR d l,given:=d.given+1}:=by
 have hlen:(qR d l).length=l.length:=by simp[qR]
 refine⟨hl,hlen,fun e he=>by have:=h.kv e he;show e.v<=d.given+1;omega,fun v hv=> ?_,fun e he i ei hv=> ?_,h.ad⟩
 ·show v<=d.given+1;unfold qR at hv;obtain⟨i,_,rfl⟩:=dw.1 hv;split
  ·omega
  ·by_cases q:i<d.vers.length
   ·have:=h.vg (d.vers.getD i 0) (by simp[List.getD,ax q]);omega
   ·have:d.vers.getD i 0=0:=(by simp[List.getD,ep (by omega:d.vers.length<=i)]);have:=h.gv;omega
 ·show e.m=fW l (wkB e.d) e.d i;have hi:i<l.length:=(by rw[<-hlen];exact(aE.1 hv).1);have hv2:(qR d l)[i]? =some e.v:=hv;unfold qR at hv2;rw[bg,List.getElem?_range hi]at hv2;replace hv2:(if jr d.rules l (i:Int)=true\/(fK l (i:Int)).any (jr d.rules l)=true then d.given+1 else d.vers.getD i 0)=e.v:=aK hv2;by_cases q:jr d.rules l (i:Int)=true\/(fK l (i:Int)).any (jr d.rules l)=true
  ·rw[ay q]at hv2;have:=h.kv e he;omega
  ·rw[aw q]at hv2;have q1:jr d.rules l (i:Int)=false:=(by simpa using fun c=>q (.inl c))
   have q2: ∀k∈fK l (i:Int),jr d.rules l k=false:=fun k hk=>by
    have: ¬(fK l (i:Int)).any (jr d.rules l)=true:=fun c=>q (.inr c);simp only[List.any_eq_true,not_exists,not_and]at this;simpa using this k hk
   obtain⟨u,u1,_⟩:=yQ q1;have hio:i<d.vers.length:=(by rw[h.vl];exact(aE.1 u1).1)
   have hvo:d.vers[i]? =some e.v:=by
    rw[<-hv2,ax hio];simp[List.getD,ax hio]
   rw[h.ki e he i ei hvo];exact As (uN (by rw[h.flt])).1 (uN (by rw[hl])).1 _ _ _ i (Nat.lt_succ_self _) hi q1 q2
theorem wj: ∀(l:List Ap) (i:Nat) (d:Dk),DI d->(∀a∈l,0<=a.day/\a.day<146097)->(eB l i d).1=tX (coD d) l i/\Ste d (eB l i d).2
 |[],_,d,h,_=>⟨rfl,h,rfl⟩
 |a::l,i,d,h,hd=>by
  unfold eB tX;by_cases hs:a.st=3
  ·rw[ay hs,aw (fun c=>c.1 hs)];exact wj l (i+1) d h fun b hb=>hd b (bn _ hb)
  ·rw[aw hs];have ha:=hd a bc
   obtain⟨p,q1,q2⟩:=Cr (g:=fun c r=> !gH (mS c r a.day) a.fr a.to) (f:=kJ a.day a.fr a.to) (fun x d h=>by
    obtain⟨e1,e2,e3⟩:=Cq h x ha.1 ha.2;exact⟨by unfold kJ;rw[e1],e2,e3⟩) a.who d h
   obtain⟨p',q1',q2'⟩:=wj l (i+1) _ q1 fun b hb=>hd b (bn _ hb);dsimp only;refine⟨?_,q1',q2'.trans q2⟩;rw[p',q2,p];by_cases e:(a.who.any fun r=> !gH (mS (coD d) r a.day) a.fr a.to)=true
   ·rw[ay e,ay ⟨hs,e⟩]
   ·rw[aw e,aw fun c=>e c.2]
theorem D6 {c:Co}{n:Int}{a:Ap}{day min:Int}{who:List Int}(h:(lg c n a day min who).2=0):0<=(lg c n a day min who).1.day/\(lg c n a day min who).1.day<146097:=by
 unfold lg at h⊢;split
 ·rename_i h1;rw[ay h1]at h;cases h
 rename_i h1;rw[aw h1]at h;split
 ·rename_i h2;rw[ay h2]at h;cases h
 rename_i h2;rw[aw h2]at h;split
 ·rename_i h3;rw[ay h3]at h;exact absurd h h3
 rename_i h3;rw[aw h3]at h;split
 ·rename_i h4;rw[ay h4]at h;cases h
 have:isN day 146097=true:=by simpa using fun c=>h1 (.inl c)
 simpa[isN] using this
def Rl (p:An×Dk)(q:An×Co):Prop:=p.1=q.1/\coD p.2=q.2/\DJ p.2
theorem Rl.ite {c:Prop}[Decidable c]{p p':An×Dk}{q q':An×Co}(h:c->Rl p q)(h': ¬c->Rl p' q'):Rl (if c then p else p') (if c then q else q'):=by
 by_cases e:c
 ·rw[ay e,ay e];exact h e
 ·rw[aw e,aw e];exact h' e
theorem II {n m:Int}(h: ¬isN n m=false):0<=n/\n<m:=by
 have:isN n m=true:=by simpa using h
 simpa[isN] using this
theorem Rl.aps {d d':Dk}(h:DJ d)(hs:Ste d d')(hg:d'.given=d.given)(a:An){l:List Ap}(hl: ∀x∈l,0<=x.day/\x.day<146097):Rl (a,{d' with aps:=l}) (a,{coD d with aps:=l}):=by
 have e:=hs.2;unfold coD at e;simp only[Co.mk.injEq]at e;refine⟨rfl,?_,⟨⟨hs.1.flt,hs.1.vl,hs.1.kv,hs.1.vg,hs.1.ki,hl⟩,by show 0<=d'.given;rw[hg];exact h.gv⟩⟩;unfold coD;simp only[Co.mk.injEq];exact⟨e.1,e.2.1,e.2.2.1,trivial⟩
theorem Cu {d:Dk}(h:DJ d)(n:Int)(f:Ap->Dk->(Ap×Int)×Dk)(g:Ap->Ap×Int)(hf: ∀a,(f a d).1=g a/\Ste d (f a d).2/\Cor d (f a d).2)(hg: ∀a∈d.aps,(g a).2=0->0<=(g a).1.day/\(g a).1.day<146097):Rl (oi d n f) (rT (coD d) n g):=by
 unfold oi rT;refine .ite (fun _=>⟨rfl,rfl,h⟩) fun h1=> ?_;obtain⟨p,q,r⟩:=hf (d.aps.getD n.toNat ap0);dsimp only;rw[p];refine .ite (fun _=>⟨rfl,q.2,q.j h r.given⟩) fun h2=> ?_;have eap:(f (d.aps.getD n.toNat ap0) d).2.aps=d.aps:=congrArg Co.aps q.2;rw[eap];refine .aps h q r.given _ fun a ha=> ?_;rcases List.mem_or_eq_of_mem_set ha with ha|rfl
 ·exact h.ad a ha
 ·have hn:=II fun c=>h1 (.inl c);have hn':n.toNat<d.aps.length:=(by omega);exact hg _ (by simp[List.getD,ax hn']) (by simpa using h2)
theorem Po {d:Dk}(h:DJ d)(x:Cm):Rl (doP d x) (doS (coD d) x):=by
 have no: ∀a,Rl (a,d) (a,coD d):=fun a=>⟨rfl,rfl,h⟩
 unfold doP doS;refine .ite (fun _=> ?_) fun _=> .ite (fun _=> ?_) fun _=> .ite (fun _=> ?_) fun _=> .ite (fun _=> ?_) fun _=> .ite (fun _=> ?_) fun _=> .ite (fun _=> ?_) fun _=> .ite (fun _=> ?_) fun _=> .ite (fun _=> ?_) fun _=> .ite (fun _=> ?_) fun _=>no _
 ·refine .ite (fun _=>no _) fun e=> ?_;obtain⟨p,q⟩:=wj d.aps 0 _ (Dm h (MZ (by simpa using e))) h.ad;dsimp only;refine⟨by rw[p];rfl,q.2,q.1,?_⟩;rw[(pG d.aps 0 _).given];have:=h.gv;show 0<=d.given+1;omega
 ·exact .ite (fun _=>no _) fun _=> .ite (fun _=>no _) fun _=>⟨rfl,rfl,⟨⟨h.flt,h.vl,h.kv,h.vg,h.ki,h.ad⟩,h.gv⟩⟩
 ·exact .ite (fun _=>no _) fun _=> .ite (fun _=>no _) fun _=>⟨rfl,rfl,⟨⟨h.flt,h.vl,h.kv,h.vg,h.ki,h.ad⟩,h.gv⟩⟩
 ·refine .ite (fun _=>no _) fun _=> .ite (fun _=>no _) fun e2=> ?_;have hd:=II fun c=>e2 (.inl c);obtain⟨p,q⟩:=IG (d.svs.getD x.n.toNat sv0) hd.1 x.days.toNat 0 d h.toDI (by omega);have hg:=(we (d.svs.getD x.n.toNat sv0) x.day x.days.toNat 0 d).given;dsimp only;rw[p];exact .ite (fun _=>⟨rfl,q.2,q.j h hg⟩) fun _=>⟨rfl,q.2,q.j h hg⟩
 ·refine .ite (fun _=>no _) fun _=> .ite (fun _=>no _) fun _=> ?_;obtain⟨p,q⟩:=wi h.toDI (-1) (tW (coD d) x.n) x.sday x.smin x.swho;have hg:=(np d (-1) (tW (coD d) x.n) x.sday x.smin x.swho).given;have eap:(fA d (-1) (tW (coD d) x.n) x.sday x.smin x.swho).2.aps=d.aps:=congrArg Co.aps q.2;have hN:(⟨1,10,0,0,x.n,(d.svs.getD x.n.toNat sv0).bef,(d.svs.getD x.n.toNat sv0).aft,(d.svs.getD x.n.toNat sv0).len,0,0,[]⟩:Ap)=tW (coD d) x.n:=rfl;dsimp only;rw[hN,p,eap];refine .ite (fun _=>⟨rfl,q.2,q.j h hg⟩) fun e3=> .aps h q hg _ fun a ha=> ?_;rcases bJ.1 ha with ha|ha
  ·exact h.ad a ha
  ·cases bv.1 ha;exact D6 (by simpa using e3)
 ·exact Cu h _ _ _ (fun a=>⟨rfl,⟨h.toDI,rfl⟩,Cor.refl d⟩) fun a ha _=>h.ad a ha
 ·exact Cu h _ _ _ (fun a=>⟨rfl,⟨h.toDI,rfl⟩,Cor.refl d⟩) fun a ha _=>h.ad a ha
 ·exact Cu h _ _ _ (fun a=>⟨(wi h.toDI _ a _ _ _).1,(wi h.toDI _ a _ _ _).2,np d _ a _ _ _⟩) fun a _ e=>D6 e
 ·refine .ite (fun _=>no _) fun _=> .aps h ⟨h.toDI,rfl⟩ rfl _ fun a ha=> ?_;obtain⟨b,hb,rfl⟩:=dw.1 ha;have:=h.ad b hb;unfold Fq pN;split
  ·exact this
  split<;>exact this
theorem D7: ∀(l:List Cm) (d:Dk),DJ d->(eZ d l).1=(ib (coD d) l).1/\coD (eZ d l).2=(ib (coD d) l).2/\DJ (eZ d l).2
 |[],d,h=>⟨rfl,rfl,h⟩
 |x::l,d,h=>by
  obtain⟨a,b,c⟩:=Po h x;obtain⟨a',b',c'⟩:=D7 l _ c;unfold eZ ib;rw[<-a,<-b];exact⟨by rw[a'],b',c'⟩
theorem Ou:DJ dk0:=⟨⟨xW.flt,xW.vl,(fun e he=>by cases he),(fun e he=>by cases he),(fun e he=>by cases he),(fun e he=>by cases he)⟩,xW.gv.1⟩
theorem Cv (l:List Cm):(eZ dk0 l).1=(ib co0 l).1/\coD (eZ dk0 l).2=(ib co0 l).2/\DJ (eZ dk0 l).2:=D7 l dk0 Ou
theorem Au (f:Nat->Bool)(x y:Int):gH f x y=true↔0<=x/\y<=1440/\x<=y/\ ∀i:Nat,x<=(i:Int)->(i:Int)<y->f i=true:=by
 unfold gH;rw[bq,bq,bq,bH,bH,bH];constructor
 ·rintro⟨⟨⟨h1,h2⟩,h3⟩,h4⟩;refine⟨h1,h2,h3,fun i hi hi'=> ?_⟩;have h:=JT h4 i (by omega);have hin:inl [(x,y)] i=true:=(by simp[inl];omega);have h14:decide (i<1440)=true:=a7 (by omega);rw[hin,h14]at h;simpa using h
 ·rintro⟨h1,h2,h3,h4⟩;refine⟨⟨⟨h1,h2⟩,h3⟩,JS fun i _=> ?_⟩;cases hin:inl [(x,y)] i with
  |false=>rfl
  |true=>
   simp[inl]at hin;rw[h4 i (by omega) (by omega)];rfl
structure Fit (s:Sv)(fs:List (Nat->Bool))(m:Int)(who:List Int):Prop where
 len:who.length=s.roles.length
 mem: ∀(i:Nat) (r:Int) (p:List Int),who[i]? =some r->s.roles[i]? =some p->r∈p
 nd:who.Nodup
 ok: ∀r∈who,okP fs (m-s.bef) (m-s.bef+jx s) r=true
def qC:List Int->List Int->Bool
 |x::l,y::k=>if y≠x then decide (x<y) else qC l k
 |_,_=>true
theorem Av: ∀l:List Int,qC l l=true
 |[]=>rfl
 |x::l=>by rw[qC,aw (by simp)];exact Av l
theorem Cw: ∀(t l k:List Int),qC (t++l) (t++k)=qC l k
 |[],_,_=>rfl
 |x::t,l,k=>by
  show qC (x::(t++l)) (x::(t++k))=_;rw[qC,aw (by simp)];exact Cw t l k
theorem M1 {x y:Int}(h:x<y)(l k:List Int):qC (x::l) (y::k)=true:=by
 rw[qC,ay (by omega)];exact a7 h
structure Val (pools:List (List Int))(t u:List Int):Prop where
 len:t.length+u.length=pools.length
 mem: ∀(i:Nat) (r:Int),u[i]? =some r->r∈pools.getD (t.length+i) []
 nd:(t++u).Nodup
theorem sG {pools:List (List Int)}: ∀{k:Nat} {t who:List Int},t.length+k=pools.length->t.Nodup->iZ pools k t=some who-> ∃u,who=t++u/\Val pools t u
 |0,t,who,hk,hn,h=>by
  cases aK h;exact⟨[],by simp,⟨by simpa using hk,fun i r hi=>by simp at hi,by simpa using hn⟩⟩
 |k+1,t,who,hk,hn,h=>by
  rw[iZ]at h;obtain⟨r,hr,hs⟩:=sS h;by_cases hm:r∈t
  ·rw[ay hm]at hs;cases hs
  ·rw[aw hm]at hs;obtain⟨u,e,hv⟩:=sG (k:=k) (t:=t++[r]) (by simp;omega) (List.nodup_append.2 ⟨hn,by simp,fun a ha b hb=>by rw[bv.1 hb];rintro rfl;exact hm ha⟩) hs;refine⟨r::u,by rw[e,dm];rfl,⟨?_,fun i q hi=> ?_,?_⟩⟩
   ·have:=hv.len;simp at this⊢;omega
   ·match i,hi with
    |0,hi=>cases aK hi;exact hr
    |i+1,hi=>
     have:=hv.mem i q (by simpa using hi);rw[aL]at this;rw[show t.length+(i+1)=t.length+[r].length+i by simp;omega];exact this
   ·have:=hv.nd;rw[dm]at this;exact this
theorem lU {α β:Type}(f:α->Option β): ∀l:List α,(l.findSome? f=none/\ ∀x∈l,f x=none)\/ ∃pre x post y,l=pre++x::post/\(∀z∈pre,f z=none)/\f x=some y/\l.findSome? f=some y
 |[]=> .inl ⟨rfl,fun x hx=>by cases hx⟩
 |x::l=>by
  cases hx:f x with
  |some y=>exact .inr ⟨[],x,l,y,rfl,(fun z hz=>by cases hz),hx,by rw[List.findSome?_cons,hx]⟩
  |none=>
   rcases lU f l with⟨h1,h2⟩|⟨pre,z,post,y,h1,h2,h3,h4⟩
   ·refine .inl ⟨by rw[List.findSome?_cons,hx];exact h1,fun z hz=> ?_⟩;rcases bh.1 hz with rfl|hz
    ·exact hx
    ·exact h2 z hz
   ·refine .inr ⟨x::pre,z,post,y,by rw[h1];rfl,fun q hq=> ?_,h3,by rw[List.findSome?_cons,hx];exact h4⟩;rcases bh.1 hq with rfl|hq
    ·exact hx
    ·exact h2 q hq
theorem pH {pools:List (List Int)}(hup: ∀p∈pools,p.Pairwise (· < ·)): ∀{k:Nat} {t:List Int},t.length+k=pools.length-> ∀u,Val pools t u-> ∃who,iZ pools k t=some who/\qC who (t++u)=true
 |0,t,hk,u,hv=>by
  have hu:u=[]:=fp (by have:=hv.len;omega);subst hu;exact⟨t,rfl,by rw[gZ];exact Av t⟩
 |k+1,t,hk,u,hv=>by
  match u,hv with
  |[],hv=>have:=hv.len;simp at this;omega
  |r::u,hv=>
   have hr:r∈pools.getD t.length []:=hv.mem 0 r rfl
   have hrt:r∉t:=fun h=>by
    have:=(List.nodup_append.1 hv.nd).2.2 r h r bc;exact this rfl
   have hv':Val pools (t++[r]) u:=by
    refine⟨?_,fun i q hi=> ?_,?_⟩
    ·have:=hv.len;simp at this⊢;omega
    ·have:=hv.mem (i+1) q (by simpa using hi);rw[show t.length+(i+1)=(t++[r]).length+i by simp;omega]at this;exact this
    ·rw[dm];exact hv.nd
   obtain⟨who1,e1,l1⟩:=pH hup (k:=k) (t:=t++[r]) (by simp;omega) u hv'
   have hf:(if r∈t then none else iZ pools k (t++[r]))=some who1:=by
    rw[aw hrt];exact e1
   rcases lU (fun q=>if q∈t then none else iZ pools k (t++[q])) (pools.getD t.length []) with⟨_,h2⟩|⟨pre,x,post,y,h1,h2,h3,h4⟩
   ·have:=h2 r hr;rw[hf]at this;cases this
   ·refine⟨y,by rw[iZ];exact h4,?_⟩;by_cases hxr:x=r
    ·subst hxr;rw[hf]at h3;cases aK h3;rw[dm]at l1;exact l1
    ·have hlt:x<r:=by
      rw[h1]at hr;rcases bJ.1 hr with hp|hp
      ·have:=h2 r hp;rw[hf]at this;cases this
      ·rcases bh.1 hp with e|hp
       ·exact absurd e.symm hxr
       ·have hpw:(pools.getD t.length []).Pairwise (· < ·):=by
         cases hq:pools[t.length]? with
         |none=>simp[List.getD,hq]
         |some p=>
          have:pools.getD t.length []=p:=(by simp[List.getD,hq]);rw[this];exact hup p (aM hq)
        rw[h1,List.pairwise_append]at hpw;exact(List.pairwise_cons.1 hpw.2.1).1 r hp
     have hxt:x∉t:=fun hx=>by
      rw[ay hx]at h3;cases h3
     rw[aw hxt]at h3;have hnt:t.Nodup:=(List.nodup_append.1 hv.nd).1;obtain⟨u2,e2,_⟩:=sG (k:=k) (t:=t++[x]) (by simp;omega) (List.nodup_append.2 ⟨hnt,by simp,fun a ha b hb=>by rw[bv.1 hb];rintro rfl;exact hxt ha⟩) h3;rw[e2,dm,Cw];exact M1 hlt _ _
theorem Cx {n:Int}: ∀{l:List (Int×Int)} {last:Int},good last n l-> ∀s∈l,∀t∈l,t.1<=s.2->s.2<t.2->False
 |[],_,_,s,hs,_,_,_,_=>by cases hs
 |q::l,last,h,s,hs,t,ht,h1,h2=>by
  obtain⟨g1,g2,g3,g4⟩:=h;rcases bh.1 hs with es|hs'
  ·subst es;rcases bh.1 ht with et|ht'
   ·subst et;omega
   ·have:=pM g4 t ht';omega
  ·rcases bh.1 ht with et|ht'
   ·subst et;have:=pM g4 s hs';omega
   ·exact Cx g4 s hs' t ht' h1 h2
theorem yR (fs:List (Nat->Bool))(x y r:Int):okP fs x y r=true↔0<=x/\y<=1440/\x<=y/\ ∀i:Nat,x<=(i:Int)->(i:Int)<y->(fs.getD r.toNat fun _=>false) i=true:=Au _ x y
theorem xX (ok:Int->Bool)(roles:List (List Int))(i:Nat):(gj ok roles).getD i []=(roles.getD i []).filter ok:=by
 unfold gj;rw[dJ,dJ,bg];cases roles[i]? <;>rfl
theorem uP {s:Sv}{fs:List (Nat->Bool)}{x:Int}{who:List Int}:Fit s fs (x+s.bef) who↔Val (gj (okP fs x (x+jx s)) s.roles) [] who:=by
 have e:x+s.bef-s.bef=x:=by omega
 constructor
 ·rintro⟨h1,h2,h3,h4⟩;rw[e]at h4;refine⟨by unfold gj;rw[aZ];simpa using h1,fun i r hi=> ?_,by simpa using h3⟩;rw[xX,fc,bK,List.mem_filter];have hil:=(aE.1 hi).1;have hp:s.roles[i]? =some (s.roles[i]'(by omega)):=ax _;refine⟨?_,h4 r (aM hi)⟩;rw[show s.roles.getD i []=s.roles[i]'(by omega) by simp[List.getD,hp]];exact h2 i r _ hi hp
 ·rintro⟨h1,h2,h3⟩;have hl:who.length=s.roles.length:=(by unfold gj at h1;rw[aZ]at h1;simpa using h1)
  have h5: ∀(i:Nat) (r:Int),who[i]? =some r->r∈s.roles.getD i []/\okP fs x (x+jx s) r=true:=fun i r hi=>by
   have:=h2 i r hi;rwa[xX,fc,bK,List.mem_filter]at this
  refine⟨hl,fun i r p hi hp=> ?_,by simpa using h3,fun r hr=> ?_⟩
  ·have:=(h5 i r hi).1;rwa[show s.roles.getD i []=p by simp[List.getD,hp]]at this
  ·obtain⟨i,hi,rfl⟩:=List.getElem_of_mem hr;rw[e];exact(h5 i _ (ax hi)).2
theorem wl {ok:Int->Bool}{s:Sv}{n:Int}(h:vS s n): ∀p∈gj ok s.roles,p.Pairwise (· < ·):=fun p hp=>by
 unfold gj at hp;rw[dw]at hp;obtain⟨q,hq,rfl⟩:=hp;exact(h.pool q hq).up.filter _
theorem yS {x:Int}{zs:List Int}(h:x∈zs):x∈Go.Lib.compact zs:=by
 have key: ∀n,n<=zs.length-> ∀j,j<n->zs.getD j 0∈Go.Lib.compactUpTo zs.toArray n:=by
  intro n;induction n with
  |zero=>intro _ j hj;omega
  |succ n ih=>
   intro hn j hj;rw[Go.Lib.compactUpTo_succ];by_cases e:j=n
   ·subst e;cases hk:Go.Lib.keeps zs.toArray j with
    |true=>
     rw[ay rfl,getElem!_pos _ j (by simpa using(by omega:j<zs.length))];simp[List.getD,ax (by omega:j<zs.length)]
    |false=>
     have h0:j≠0:=fun e=>(by subst e;simp[Go.Lib.keeps]at hk);have:=ih (by omega) (j-1) (by omega)
     have heq:zs.getD j 0=zs.getD (j-1) 0:=by
      have h1:j<zs.length:=(by omega);have h2:j-1<zs.length:=(by omega);simp[Go.Lib.keeps,h0]at hk;simp only[List.getD];exact hk
     rw[heq];exact fd _ this
   ·exact fd _ (ih (by omega) j (by omega))
 obtain⟨j,hj,rfl⟩:=List.getElem_of_mem h;have:=key zs.length (aA _) j hj;show _∈Go.Lib.compactUpTo _ _;simpa[List.getD,ax hj] using this
theorem Dn (zs:List Int):(Go.Lib.compact zs).Sublist zs:=by
 have e:zs=(List.range zs.length).map (zs.toArray[·]!):=by
  apply List.ext_getElem (by simp);intro i h1 h2;simp[h1]
 unfold Go.Lib.compact Go.Lib.compactUpTo;conv=>rhs;rw[e]
 exact List.Sublist.map _ (List.filter_sublist)
theorem IJ (W:Int)(fs:List (Nat->Bool))(roles:List (List Int)):(gz W fs roles).Pairwise (· <= ·):=by
 have h:((nV W fs roles).mergeSort fun x y=>decide (x<=y)).Pairwise (fun a b=>decide (a<=b)=true):=List.pairwise_mergeSort (fun a b c h1 h2=>by simp at h1 h2⊢;omega) (fun a b=>by simp;omega) _;exact(h.imp (fun h=>eG h)).sublist (Dn _)
theorem FK {W x:Int}{fs:List (Nat->Bool)}{roles:List (List Int)}:x∈gz W fs roles↔ ∃p∈roles,∃r∈p,∃s∈rs (fs.getD r.toNat fun _=>false) 1440,W<=s.2-s.1/\s.1=x:=by
 have h0:x∈gz W fs roles↔x∈nV W fs roles:=⟨fun h=>List.mem_mergeSort.1 (vm h),fun h=>yS (List.mem_mergeSort.2 h)⟩
 rw[h0];unfold nV xz tD;simp only[List.mem_flatMap,dw,List.mem_filter,bH];constructor
 ·rintro⟨p,hp,r,hr,s,⟨hs,hw⟩,e⟩;exact⟨p,hp,r,hr,s,hs,hw,e⟩
 ·rintro⟨p,hp,r,hr,s,hs,hw,e⟩;exact⟨p,hp,r,hr,s,⟨hs,hw⟩,e⟩
theorem FL {f:Nat->Bool}{x y:Int}(h0:0<=x)(hxy:x<y)(hy:y<=1440)(h: ∀i:Nat,x<=(i:Int)->(i:Int)<y->f i=true): ∃s∈rs f 1440,s.1<=x/\y<=s.2/\(0<=s.1/\s.2<=1440/\ ∀i:Nat,s.1<=(i:Int)->(i:Int)<s.2->f i=true):=by
 have hR:=yJ f 1440
 have has: ∀i:Nat,i<1440->(f i=true↔ ∃s∈rs f 1440,s.1<=(i:Int)/\(i:Int)<s.2):=fun i hi=>by
  rw[<-hR.has i hi,List.any_eq_true];simp
 have hg:=pM hR.good
 have full: ∀s∈rs f 1440,0<=s.1/\s.2<=1440/\ ∀i:Nat,s.1<=(i:Int)->(i:Int)<s.2->f i=true:=fun s hs=>by
  obtain⟨g1,g2,g3⟩:=hg s hs;exact⟨by omega,g3,fun i h1 h2=>(has i (by omega)).2 ⟨s,hs,h1,h2⟩⟩
 obtain⟨n,hn⟩: ∃n:Nat,x=(n:Int):=⟨x.toNat,by omega⟩
 obtain⟨s,hs,h1,h2⟩:=(has n (by omega)).1 (h n (by omega) (by omega));refine⟨s,hs,by omega,?_,full s hs⟩;refine d7 fun hlt=> ?_;obtain⟨g1,g2,g3⟩:=hg s hs;obtain⟨m,hm⟩: ∃m:Nat,s.2=(m:Int):=⟨s.2.toNat,by omega⟩
 obtain⟨t,ht,t1,t2⟩:=(has m (by omega)).1 (h m (by omega) (by omega));exact Cx hR.good s hs t ht (by omega) (by omega)
theorem Aw {s:Sv}{n:Int}{fs:List (Nat->Bool)}{x:Int}{who:List Int}(hS:vS s n)(h:Fit s fs (x+s.bef) who): ∃p∈gz (jx s) fs s.roles,p<=x/\Fit s fs (p+s.bef) who:=by
 have hme:=hS.meas;unfold iY at hme;have hme:=eG hme;have hW:1<=jx s:=by unfold jx;omega
 have ex: ∀(l:List Int),(∀r∈l,∃t∈rs (fs.getD r.toNat fun _=>false) 1440,t.1<=x/\x+jx s<=t.2/\(0<=t.1/\t.2<=1440/\ ∀i:Nat,t.1<=(i:Int)->(i:Int)<t.2->(fs.getD r.toNat fun _=>false) i=true))->l≠[]->
   ∃p,p<=x/\0<=p/\(∃r∈l,∃t∈rs (fs.getD r.toNat fun _=>false) 1440,jx s<=t.2-t.1/\t.1=p)/\ ∀r∈l,∃t:Int×Int,t.1<=p/\x+jx s<=t.2/\t.2<=1440/\ ∀i:Nat,t.1<=(i:Int)->(i:Int)<t.2->(fs.getD r.toNat fun _=>false) i=true:=by
  intro l;induction l with
  |nil=>intro _ h;exact absurd rfl h
  |cons r l ih=>
   intro hl _;obtain⟨t,ht,t1,t2,t3,t4,t5⟩:=hl r bc;by_cases hn:l=[]
   ·subst hn;refine⟨t.1,t1,t3,⟨r,bc,t,ht,by omega,rfl⟩,fun q hq=> ?_⟩;rw[bv.1 hq];exact⟨t,fi _,t2,t4,t5⟩
   ·obtain⟨p,p1,p2,⟨r0,hr0,t0,ht0,w0,e0⟩,p4⟩:=ih (fun q hq=>hl q (bn _ hq)) hn;by_cases hle:t.1<=p
    ·refine⟨p,p1,p2,⟨r0,bn _ hr0,t0,ht0,w0,e0⟩,fun q hq=> ?_⟩;rcases bh.1 hq with rfl|hq
     ·exact⟨t,hle,t2,t4,t5⟩
     ·exact p4 q hq
    ·refine⟨t.1,t1,t3,⟨r,bc,t,ht,by omega,rfl⟩,fun q hq=> ?_⟩;rcases bh.1 hq with rfl|hq
     ·exact⟨t,fi _,t2,t4,t5⟩
     ·obtain⟨u,u1,u2,u4,u5⟩:=p4 q hq;exact⟨u,by omega,u2,u4,u5⟩
 have hwl:=h.len;have hr1:=hS.r1;have hwn:who≠[]:=fun e=>by rw[e]at hwl;simp at hwl;omega
 obtain⟨p,p1,p2,⟨r,hr,t,ht,w0,e0⟩,p4⟩:=ex who (fun r hr=>by
  have:=(yR _ _ _ _).1 (h.ok r hr);rw[show x+s.bef-s.bef=x by omega]at this;exact FL this.1 (by omega) this.2.1 this.2.2.2) hwn
 refine⟨p,?_,p1,⟨h.len,h.mem,h.nd,fun r hr=>by
  rw[show p+s.bef-s.bef=p by omega,yR];obtain⟨t,t1,t2,t4,t5⟩:=p4 r hr;exact⟨p2,by omega,by omega,fun i h1 h2=>t5 i (by omega) (by omega)⟩⟩⟩
 obtain⟨i,hi,rfl⟩:=List.getElem_of_mem hr;have hp:s.roles[i]? =some (s.roles[i]'(by omega)):=ax _;exact FK.2 ⟨_,aM hp,_,h.mem i _ _ (ax hi) hp,t,ht,w0,e0⟩
theorem xY {s:Sv}{n:Int}{fs:List (Nat->Bool)}(hS:vS s n){m:Int}{who:List Int}(h:iH s.len s.bef s.aft s.roles fs=some (m,who)):Fit s fs m who/\ ∀m' who',Fit s fs m' who'->m<m'\/m=m'/\qC who who'=true:=by
 unfold iH at h;have hW:s.bef+s.len+s.aft=jx s:=rfl;rcases lU (rj s.len s.bef s.aft s.roles fs) (gz (s.bef+s.len+s.aft) fs s.roles) with⟨h1,_⟩|⟨pre,x,post,y,h1,h2,h3,h4⟩
 ·rw[h1]at h;cases h
 ·rw[h4]at h;cases aK h;unfold rj at h3;rw[hW]at h3;cases hp:iZ (gj (okP fs x (x+jx s)) s.roles) s.roles.length [] with
  |none=>rw[hp]at h3;cases h3
  |some w0=>
   rw[hp]at h3;have h3':=aK h3;have e1:x+s.bef=m:=congrArg Prod.fst h3';have e2:w0=who:=congrArg Prod.snd h3';subst e1 e2;have hfl:(gj (okP fs x (x+jx s)) s.roles).length=s.roles.length:=(by unfold gj;rw[aZ]);obtain⟨u,eu,hv⟩:=sG (by rw[hfl];simp) (by simp) hp;rw[List.nil_append]at eu;subst eu;refine⟨uP.2 hv,fun m' who' hf=> ?_⟩;obtain⟨x',rfl⟩: ∃x',m'=x'+s.bef:=⟨m'-s.bef,by omega⟩
   obtain⟨p,hpp,hpx,hfp⟩:=Aw hS hf
   have hxp:x<=p:=by
    rw[<-hW,h1]at hpp;rcases bJ.1 hpp with hq|hq
    ·exfalso;have:=h2 p hq;unfold rj at this;rw[hW]at this;obtain⟨w1,e1,_⟩:=pH (wl hS) (k:=s.roles.length) (t:=[]) (by unfold gj;rw[aZ];simp) who' (uP.1 hfp);rw[e1]at this;cases this
    ·rcases bh.1 hq with rfl|hq
     ·exact fi _
     ·have hup:=IJ (s.bef+s.len+s.aft) fs s.roles;rw[h1,List.pairwise_append]at hup;exact(List.pairwise_cons.1 hup.2.1).1 p hq
   by_cases hlt:x<x'
   ·exact .inl (by omega)
   ·have hx:x=x':=(by omega);subst hx;refine .inr ⟨rfl,?_⟩;obtain⟨w1,e1,l1⟩:=pH (wl hS) (k:=s.roles.length) (t:=[]) (by unfold gj;rw[aZ];simp) who' (uP.1 hf);rw[hp]at e1;cases aK e1;simpa using l1
theorem sH {s:Sv}{n:Int}{fs:List (Nat->Bool)}(hS:vS s n)(h:iH s.len s.bef s.aft s.roles fs=none)(m:Int)(who:List Int): ¬Fit s fs m who:=fun hf=>by
 unfold iH at h;obtain⟨x,rfl⟩: ∃x,m=x+s.bef:=⟨m-s.bef,by omega⟩
 obtain⟨p,hpp,hpx,hfp⟩:=Aw hS hf;have hW:s.bef+s.len+s.aft=jx s:=rfl;rcases lU (rj s.len s.bef s.aft s.roles fs) (gz (s.bef+s.len+s.aft) fs s.roles) with⟨_,h2⟩|⟨_,_,_,_,_,_,_,h4⟩
 ·have:=h2 p (by rw[hW];exact hpp);unfold rj at this;rw[hW]at this;obtain⟨w1,e1,_⟩:=pH (wl hS) (k:=s.roles.length) (t:=[]) (by unfold gj;rw[aZ];simp) who (uP.1 hfp);rw[e1]at this;cases this
 ·rw[h4]at h;cases h
def Cy (roles:List (List Int))(fs:List (Nat->Bool))(x y:Int):List Int->Nat->List Int->Bool
 |[],_,_=>true
 |r::l,i,had=>if r∉roles.getD i []\/r∈had\/okP fs x y r=false then false else Cy roles fs x y l (i+1) (addN had r)
def nQ (s:Sv)(ds:List (List (Nat->Bool)))(day min:Int)(who:List Int):Bool:=if day<0\/(ds.length:Int)<=day\/who.length≠s.roles.length then false else Cy s.roles (ds.getD day.toNat []) (min-s.bef) (min+s.len+s.aft) who 0 []
theorem Cz {roles:List (List Int)}{fs:List (Nat->Bool)}{x y:Int}: ∀{l:List Int} {i:Nat} {had:List Int},Cy roles fs x y l i had=true↔(∀(k:Nat) (r:Int),l[k]? =some r->r∈roles.getD (i+k) [])/\(∀r∈l,r∉had)/\l.Nodup/\ ∀r∈l,okP fs x y r=true
 |[],i,had=>by simp[Cy]
 |r::l,i,had=>by
  rw[Cy];by_cases h:r∉roles.getD i []\/r∈had\/okP fs x y r=false
  ·rw[ay h];constructor
   ·intro h;cases h
   ·rintro⟨h1,h2,_,h4⟩;exfalso;rcases h with h|h|h
    ·exact h (h1 0 r rfl)
    ·exact h2 r bc h
    ·rw[h4 r bc]at h;cases h
  ·rw[aw h,Cz];have h1:r∈roles.getD i []:=Classical.not_not.1 fun e=>h (.inl e);have h2:r∉had:=fun e=>h (.inr (.inl e))
   have h3:okP fs x y r=true:=by
    cases hk:okP fs x y r with
    |true=>rfl
    |false=>exact absurd (.inr (.inr hk)) h
   constructor
   ·rintro⟨q1,q2,q3,q4⟩;refine⟨fun k u hk=> ?_,fun u hu=> ?_,List.nodup_cons.2 ⟨fun hm=> ?_,q3⟩,fun u hu=> ?_⟩
    ·match k,hk with
     |0,hk=>cases aK hk;exact h1
     |k+1,hk=>
      have:=q1 k u (by simpa using hk);rw[show i+(k+1)=i+1+k by omega];exact this
    ·rcases bh.1 hu with rfl|hu
     ·exact h2
     ·exact fun e=>q2 u hu ((qg _ _ _).2 (.inl e))
    ·exact q2 r hm ((qg _ _ _).2 (.inr rfl))
    ·rcases bh.1 hu with rfl|hu
     ·exact h3
     ·exact q4 u hu
   ·rintro⟨q1,q2,q3,q4⟩;refine⟨fun k u hk=> ?_,fun u hu e=> ?_,(List.nodup_cons.1 q3).2,fun u hu=>q4 u (bn _ hu)⟩
    ·have:=q1 (k+1) u (by simpa using hk);rw[show i+1+k=i+(k+1) by omega];exact this
    ·rcases(qg _ _ _).1 e with e|rfl
     ·exact q2 u (bn _ hu) e
     ·exact(List.nodup_cons.1 q3).1 hu
theorem mi {s:Sv}{ds:List (List (Nat->Bool))}{day min:Int}{who:List Int}:nQ s ds day min who=true↔ ∃(d:Nat) (fs:List (Nat->Bool)),day=(d:Int)/\ds[d]? =some fs/\Fit s fs min who:=by
 unfold nQ;by_cases h:day<0\/(ds.length:Int)<=day\/who.length≠s.roles.length
 ·rw[ay h];constructor
  ·intro h;cases h
  ·rintro⟨d,fs,rfl,hd,hf⟩;exfalso;have h1:=(aE.1 hd).1;have h2:=hf.len;omega
 ·rw[aw h];obtain⟨d,hd⟩: ∃d:Nat,day=(d:Int):=⟨day.toNat,by omega⟩
  subst hd;have hl:who.length=s.roles.length:=Classical.not_not.1 fun e=>h (.inr (.inr e));have hdl:d<ds.length:=(by omega);have hds:ds[d]? =some (ds[d]'hdl):=ax hdl;have eg:ds.getD (Int.toNat (d:Int)) []=ds[d]'hdl:=(by simp[List.getD,hds]);have ey:min+s.len+s.aft=min-s.bef+jx s:=(by unfold jx;omega);rw[eg,ey,Cz];constructor
  ·rintro⟨q1,_,q3,q4⟩;refine⟨d,_,rfl,hds,hl,fun i r p h1 h2=> ?_,q3,q4⟩;have:=q1 i r h1;rwa[bK,show s.roles.getD i []=p by simp[List.getD,h2]]at this
  ·rintro⟨d',fs,e,hd',hf⟩;have:d'=d:=(by omega);subst this;rw[hds]at hd';cases aK hd';refine⟨fun i r h1=> ?_,(fun r _ e=>by cases e),hf.nd,hf.ok⟩;have hil:=(aE.1 h1).1;have hp:s.roles[i]? =some (s.roles[i]'(by omega)):=ax _;rw[bK,show s.roles.getD i []=s.roles[i]'(by omega) by simp[List.getD,hp]];exact hf.mem i r _ h1 hp
theorem Ax (p:List Int)(n:Int): ∀m i,kT p n m i=0\/kT p n m i=6\/kT p n m i=2
 |0,_=> .inl rfl
 |m+1,i=>by
  rw[kT];by_cases c1:p.getD i 0<0\/n<=p.getD i 0
  ·rw[ay c1];exact .inr (.inl rfl)
  ·rw[aw c1];by_cases c2:0<i/\p.getD i 0<=p.getD (i-1) 0
   ·rw[ay c2];exact .inr (.inr rfl)
   ·rw[aw c2];exact Ax p n m (i+1)
theorem xZ (n:Int): ∀l:List (List Int),0<=jf n l/\jf n l<=6
 |[]=>⟨fi _,show(0:Int)<=6 by decide⟩
 |p::l=>by
  have hp:0<=gG p n/\gG p n<=6:=by
   unfold gG;by_cases h:p.length<1\/8<p.length
   ·rw[ay h];decide
   ·rw[aw h];rcases Ax p n p.length 0 with h|h|h<;>rw[h]<;>decide
  rw[jf];by_cases h:gG p n≠0
  ·rw[ay h];exact hp
  ·rw[aw h];exact xZ n l
theorem FM (s:Sv)(n:Int):0<=dW s n/\dW s n<=6:=by
 unfold dW;by_cases h1:iY s.len s.bef s.aft=false
 ·rw[ay h1];decide
 ·rw[aw h1];by_cases h2:s.roles.length<1\/4<s.roles.length
  ·rw[ay h2];decide
  ·rw[aw h2];exact xZ n _
theorem Ay (s:Sv): ∀l:List (List (Nat->Bool)),0<=ia s l/\ia s l<=6
 |[]=>⟨fi _,show(0:Int)<=6 by decide⟩
 |d::l=>by
  rw[ia];by_cases h:dW s d.length≠0
  ·rw[ay h];exact FM s _
  ·rw[aw h];exact Ay s l
theorem ya {s:Sv}: ∀{l:List (List (Nat->Bool))} {n:Nat} {x:Nat×Int×List Int},jQ s l n=some x-> ∃(k:Nat) (fs:List (Nat->Bool)),x.1=n+k/\l[k]? =some fs/\iH s.len s.bef s.aft s.roles fs=some (x.2.1,x.2.2)/\ ∀(j:Nat) (gs:List (Nat->Bool)),j<k->l[j]? =some gs->iH s.len s.bef s.aft s.roles gs=none
 |[],n,x,h=>by cases h
 |d::l,n,x,h=>by
  rw[jQ]at h;cases hp:iH s.len s.bef s.aft s.roles d with
  |some y=>
   rw[hp]at h;cases aK h;exact⟨0,d,rfl,rfl,hp,fun j gs hj _=>by omega⟩
  |none=>
   rw[hp]at h;obtain⟨k,fs,e1,e2,e3,e4⟩:=ya h;refine⟨k+1,fs,by omega,by simpa using e2,e3,fun j gs hj hg=> ?_⟩;match j,hg with
   |0,hg=>cases aK hg;exact hp
   |j+1,hg=>exact e4 j gs (by omega) (by simpa using hg)
theorem yc {s:Sv}: ∀{l:List (List (Nat->Bool))} {n:Nat},jQ s l n=none-> ∀fs∈l,iH s.len s.bef s.aft s.roles fs=none
 |[],_,_,fs,hf=>by cases hf
 |d::l,n,h,fs,hf=>by
  rw[jQ]at h;cases hp:iH s.len s.bef s.aft s.roles d with
  |some y=>rw[hp]at h;cases h
  |none=>
   rw[hp]at h;rcases bh.1 hf with rfl|hf
   ·exact hp
   ·exact yc h fs hf
theorem Az {s:Sv}{ds:List (List (Nat->Bool))}(h:(findP s ds).err=0):ds.length<=30/\ia s ds=0/\ ∃(d:Nat) (fs:List (Nat->Bool)),(findP s ds).day=(d:Int)/\ds[d]? =some fs/\iH s.len s.bef s.aft s.roles fs=some ((findP s ds).min,(findP s ds).who)/\ ∀(j:Nat) (gs:List (Nat->Bool)),j<d->ds[j]? =some gs->iH s.len s.bef s.aft s.roles gs=none:=by
 unfold findP at h⊢;by_cases h1:30<ds.length
 ·rw[ay h1]at h;cases h
 ·rw[aw h1]at h⊢;by_cases h2:ia s ds≠0
  ·rw[ay h2]at h;exact absurd h h2
  ·rw[aw h2]at h⊢;have h2':ia s ds=0:=Classical.not_not.1 h2;cases hd:jQ s ds 0 with
   |none=>rw[hd]at h;cases h
   |some x=>
    obtain⟨k,fs,e1,e2,e3,e4⟩:=ya hd;exact⟨by omega,h2',k,fs,by show((x.1:Nat):Int)=_;omega,e2,e3,e4⟩
theorem AA {s:Sv}{ds:List (List (Nat->Bool))}(h:(findP s ds).err=11):ds.length<=30/\ia s ds=0/\ ∀fs∈ds,iH s.len s.bef s.aft s.roles fs=none:=by
 unfold findP at h;by_cases h1:30<ds.length
 ·rw[ay h1]at h;cases h
 ·rw[aw h1]at h;by_cases h2:ia s ds≠0
  ·rw[ay h2]at h;have:=Ay s ds;dsimp only at h;omega
  ·rw[aw h2]at h;have h2':ia s ds=0:=Classical.not_not.1 h2;cases hd:jQ s ds 0 with
   |none=>exact⟨by omega,h2',yc hd⟩
   |some x=>rw[hd]at h;cases h
def SP (f:Nat->Bool)(len m:Int):Prop:=0<=m/\m+len<=1440/\ ∀i:Nat,m<=(i:Int)->(i:Int)<m+len->f i=true
def sv1 (len:Int):Sv:=⟨len,0,0,[[0]]⟩
theorem uQ {len m:Int}{who:List Int}{f:Nat->Bool}(h1:1<=len):Fit (sv1 len) [f] m who↔who=[0]/\SP f len m:=by
 have ew:jx (sv1 len)=len:=by show 0+len+0=len;omega
 have ok:okP [f] (m-(sv1 len).bef) (m-(sv1 len).bef+jx (sv1 len)) 0=true↔SP f len m:=by
  rw[yR,ew,show m-(sv1 len).bef=m from Int.sub_zero m];exact⟨fun⟨a,b,_,d⟩=>⟨a,b,d⟩,fun⟨a,b,d⟩=>⟨a,b,by omega,d⟩⟩
 constructor
 ·rintro⟨h2,h3,_,h5⟩;match who,h2 with
  |[r],_=>
   have hr:r=0:=(by simpa using h3 0 r [0] rfl rfl);subst hr;exact⟨rfl,ok.1 (h5 0 (by simp))⟩
 ·rintro⟨rfl,h⟩;refine⟨rfl,fun i r p hi hp=> ?_,by simp,fun r hr=> ?_⟩
  ·match i,hi,hp with
   |0,hi,hp=>cases hi;cases hp;simp
  ·cases bv.1 hr;exact ok.2 h
theorem CA {len:Int}(h:1<=len/\len<=1440): ∀{ds:List (List (Nat->Bool))},(∀fs∈ds,∃f,fs=[f])->ia (sv1 len) ds=0
 |[],_=>rfl
 |fs::ds,hd=>by
  obtain⟨f,rfl⟩:=hd fs bc
  have e:dW (sv1 len) (([f]:List (Nat->Bool)).length:Int)=0:=by
   have hm:iY len 0 0=true:=a7 (by omega);show(if iY len 0 0=false then 3 else _)=_;rw[hm];rfl
  rw[ia,e,aw (by simp)];exact CA h fun fs hf=>hd fs (bn _ hf)
theorem KE {len:Int}(h:1<=len/\len<=1440){ds:List (List (Nat->Bool))}(h30:ds.length<=30)(hd: ∀fs∈ds,∃f,fs=[f]):
  (∃(d:Nat) (m:Int) (f:Nat->Bool),findP (sv1 len) ds=⟨0,d,m,[0]⟩/\ds[d]? =some [f]/\SP f len m/\(∀m',SP f len m'->m<=m')/\ ∀(j:Nat) g,j<d->ds[j]? =some [g]-> ∀m',¬SP g len m')\/((findP (sv1 len) ds).err=11/\ ∀g,[g]∈ds-> ∀m',¬SP g len m'):=by
 have hz:=CA h hd;have hok: ∀fs∈ds,vS (sv1 len) fs.length:=fun fs hf=>qt (sy hz fs hf);by_cases he:(findP (sv1 len) ds).err=0
 ·obtain⟨_,_,d,fs,e1,e2,e3,e4⟩:=Az he;have hm:=aM e2;obtain⟨f,rfl⟩:=hd fs hm;obtain⟨f1,f2⟩:=xY (hok _ hm) e3;obtain⟨g1,g2⟩:=(uQ h.1).1 f1;refine .inl ⟨d,(findP (sv1 len) ds).min,f,?_,e2,g2,fun m' hm'=> ?_,fun j g hj hg m' hm'=> ?_⟩
  ·generalize findP (sv1 len) ds=q at*;cases q;dsimp only at he e1 g1;rw[he,e1,g1]
  ·rcases f2 m' [0] ((uQ h.1).2 ⟨rfl,hm'⟩) with q|⟨q,_⟩<;>omega
  ·exact sH (hok _ (aM hg)) (e4 j _ hj hg) m' [0] ((uQ h.1).2 ⟨rfl,hm'⟩)
 ·have e11:(findP (sv1 len) ds).err=11:=by
   unfold findP at he⊢;rw[aw (by omega),aw (by rw[hz];simp)]at he⊢;split at he
   ·exact absurd rfl he
   ·rfl
  obtain⟨_,_,e3⟩:=AA e11;exact .inr ⟨e11,fun g hg m' hm'=>sH (hok _ hg) (e3 _ hg) m' [0] ((uQ h.1).2 ⟨rfl,hm'⟩)⟩
def c1 (L:List Ru)(len:Int)(aps:List Ap):Co:=⟨L,[[97]],[sv1 len],aps⟩
theorem D8 (L:List Ru)(len:Int)(aps:List Ap)(day:Int): ∀n i:Nat,jN (c1 L len aps) (sv1 len) day n i=(List.range' i n).map fun(k:Nat)=>[fS (c1 L len aps) 0 (day+(k:Int)) (-1)]
 |0,_=>rfl
 |n+1,i=>by
  rw[List.range'_succ,dl,<-D8 L len aps day n (i+1)];rfl
theorem uR {f:Nat->Bool}{len m:Int}:SP (nh f (inl [])) len m↔SP f len m:=by
 have e: ∀i:Nat,i<1440->nh f (inl []) i=f i:=fun i hi=>by
  unfold nh;rw[a7 hi];simp[inl]
 exact⟨fun⟨a,b,c⟩=>⟨a,b,fun i h1 h2=>by rw[<-e i (by omega)];exact c i h1 h2⟩,fun⟨a,b,c⟩=>⟨a,b,fun i h1 h2=>by rw[e i (by omega)];exact c i h1 h2⟩⟩
def cR (t:List UInt8):Cm:=⟨1,0,0,0,t,[],sv0,0,0,[]⟩
def cAd:Cm:=⟨2,0,0,0,[],[97],sv0,0,0,[]⟩
def cS (s:Sv):Cm:=⟨3,0,0,0,[],[],s,0,0,[]⟩
def cF (n day days:Int):Cm:=⟨4,n,day,days,[],[],sv0,0,0,[]⟩
theorem IK (L:List Ru){len:Int}(aps:List Ap)(h:1<=len/\len<=1440){day:Int}{days:Nat}(h0:0<=day)(h1:day+days<=146097)(hd:1<=days/\days<=30):
  (kY (c1 L len aps) 0 day days).2=c1 L len aps/\((∃(d:Nat) (m:Int),d<days/\(kY (c1 L len aps) 0 day days).1=⟨0,0,d+day,m,[0],[]⟩/\SP (fS (c1 L len aps) 0 (day+d) (-1)) len m/\(∀m',SP (fS (c1 L len aps) 0 (day+d) (-1)) len m'->m<=m')/\ ∀j:Nat,j<d-> ∀m',¬SP (fS (c1 L len aps) 0 (day+j) (-1)) len m')\/((kY (c1 L len aps) 0 day days).1=noA 11/\ ∀j:Nat,j<days-> ∀m',¬SP (fS (c1 L len aps) 0 (day+j) (-1)) len m')):=by
 have hw:=D8 L len aps day days 0
 have hat: ∀j:Nat,j<days->(jN (c1 L len aps) (sv1 len) day days 0)[j]? =some [fS (c1 L len aps) 0 (day+(j:Int)) (-1)]:=fun j hj=>by
  rw[hw,bg,List.getElem?_range' hj];simp
 have hl:(jN (c1 L len aps) (sv1 len) day days 0).length=days:=by rw[hw];simp
 have eF:kY (c1 L len aps) 0 day days=if(findP (sv1 len) (jN (c1 L len aps) (sv1 len) day days 0)).err≠0 then(noA (findP (sv1 len) (jN (c1 L len aps) (sv1 len) day days 0)).err,c1 L len aps) else(⟨0,0,(findP (sv1 len) (jN (c1 L len aps) (sv1 len) day days 0)).day+day,(findP (sv1 len) (jN (c1 L len aps) (sv1 len) day days 0)).min,(findP (sv1 len) (jN (c1 L len aps) (sv1 len) day days 0)).who,[]⟩,c1 L len aps):=by
  have i1: ¬isN 0 (c1 L len aps).svs.length=false:=(by show¬isN 0 1=false;decide)
  have i2: ¬(isN day 146097=false\/(days:Int)<1\/30<(days:Int)\/146097<day+days):=by
   rintro(q|q|q|q)
   ·simp[isN]at q;omega
   all_goals omega
  unfold kY;rw[aw i1,aw i2];rfl
 rw[eF]
 rcases KE h (ds:=jN (c1 L len aps) (sv1 len) day days 0) (by omega) (fun fs hf=>by
  rw[hw]at hf;obtain⟨k,_,rfl⟩:=dw.1 hf;exact⟨_,rfl⟩) with⟨d,m,f,e,e1,e2,e3,e4⟩|⟨e,e1⟩
 ·have hdl:d<days:=by rw[<-hl];exact(aE.1 e1).1
  rw[hat d hdl]at e1;cases aK e1;rw[e,aw (fun c=>c rfl)];exact⟨rfl,.inl ⟨d,m,hdl,rfl,e2,e3,fun j hj m'=>e4 j _ hj (hat j (by omega)) m'⟩⟩
 ·rw[e,ay (by decide)];exact⟨rfl,.inr ⟨rfl,fun j hj m'=>e1 _ (aM (hat j hj)) m'⟩⟩
theorem KF {t:List UInt8}{L:List Ru}(h:fO t=(0,L))(ha:0<=atP5 L [97]){len:Int}(hl:1<=len/\len<=1440):ib co0 [cR t,cAd,cS (sv1 len)]=([noA 0,jL 0,jL 0],c1 L len []):=by
 have e1:doS co0 (cR t)=(noA 0,⟨L,[],[],[]⟩):=by
  show Cp co0 (fO t)=_;rw[h];rfl
 have e2:doS ⟨L,[],[],[]⟩ cAd=(jL 0,⟨L,[[97]],[],[]⟩):=by
  show Cl ⟨L,[],[],[]⟩ [97]=_;unfold Cl;rw[aw (by show¬12<=0;decide),aw (by show¬atP5 L [97]<0;omega)];rfl
 have e3:doS ⟨L,[[97]],[],[]⟩ (cS (sv1 len))=(jL 0,c1 L len []):=by
  have hm:iY len 0 0=true:=a7 (by omega)
  have hw:dW (sv1 len) (([[97]]:List (List UInt8)).length:Int)=0:=by
   show(if iY len 0 0=false then 3 else _)=_;rw[hm];rfl
  show Cn ⟨L,[[97]],[],[]⟩ (sv1 len)=_;unfold Cn;rw[aw (by show¬8<=0;decide),aw (by rw[hw];simp)];rfl
 simp only[ib,e1,e2,e3]
theorem KG {L:List Ru}{k:Nat}(ha:atP5 L [97]=(k:Int))(len day:Int):fS (c1 L len []) 0 day (-1)=nh (fW L (wkB day) day k) (inl []):=by
 have:mS (c1 L len []) 0 day=fW L (wkB day) day k:=by
  show(if atP5 L [97]<0 then noM else fW L (wkB day) day (atP5 L [97]).toNat)=_;rw[ha,aw (by omega),cg]
 unfold fS;rw[this];rfl
section
def oE (a b:Int):Ex:=⟨3,a,b,[],[]⟩
def fM (a b:Int):M:=fun i=>(decide (a<=(i:Int))&&decide ((i:Int)<b))&&decide (i<1440)
def oL (a b:Int):List Ru:=[([97],oE a b)]
theorem Ll {a b:Int}:fz (oL a b) ([97],oE a b)=[]:=by
 have:nms (oE a b)=[]:=by simp[oE,ly,jn]
 unfold fz;dsimp only;rw[this];rfl
theorem Ov {a b:Int}:iy (oL a b)=fun _=>[]:=by
 funext i;match i with
 |0=>exact(qi rfl).trans (by rw[Ll];rfl)
 |i+1=>rfl
section
variable {a b:Int} (h:0<=a/\a<b/\b<=1440)
 include h
theorem M2:fy (oL a b)=(0,0):=by
 have s1:(shapeP (oE a b) 1 0).1=0:=by
  have:aloneP (oE a b)=0:=(by simp[aloneP,oE,kidsP,rangeP,h]);rw[jB,aw (by decide),aw (by simp[this])];rfl
 unfold fy oL ju ruleP;rw[s1];rfl
theorem FN:di (oL a b)=(0,0):=by
 refine EQ (by rw[M2 h]) ?_ ?_ ?_
 ·intro i hi;match i,hi with
  |0,_=>rfl
  |i+1,hi=>exact absurd hi (by show¬(i+1<1);omega)
 ·intro i hi;match i,hi with
  |0,_=>show decide (-1∈fz (oL a b) ([97],oE a b))=false;rw[Ll];decide
  |i+1,hi=>exact absurd hi (by show¬(i+1<1);omega)
 ·intro i hi;unfold lk3;rw[Ov];match i,hi with
  |0,_=>rfl
  |i+1,hi=>exact absurd hi (by show¬(i+1<1);omega)
theorem Lm:ii (oL a b)=(0,0):=by
 have hs:stdE (oE a b)=true:=by rw[rO];rfl
 have c0:(ff (oL a b)).getD 0 []=[⟨1,0,0,0,rs (mnE (oE a b)) 1440⟩]:=by rw[mr (u:=([97],oE a b)) rfl,oe hs]
 have m0:fN (oL a b) 0=(1,1):=by
  rw[uK (by rw[FN h]) (by show 0<1;decide)];unfold lV;rw[c0];rfl
 unfold ii;rw[FN h,aw (by decide)]
 have:jJ (fN (oL a b)) (oL a b).length 0= -1:=by
  show jJ (fN (oL a b)) 1 0= -1;unfold jJ;rw[m0,aw (by decide)];rfl
 rw[this,aw (by decide)]
theorem IL (wk:Int->Bool)(day:Int):fW (oL a b) wk day 0=fM a b:=by
 rw[od (by rw[FN h]) (u:=([97],oE a b)) rfl,jk];rfl
end
end
theorem sI {a b len m:Int}(h:0<=a/\a<b/\b<=1440)(hl:1<=len):SP (fM a b) len m↔a<=m/\m+len<=b:=by
 constructor
 ·rintro⟨p,q,c⟩;have h1:=c m.toNat (by omega) (by omega);have h2:=c (m+len-1).toNat (by omega) (by omega);unfold fM at h1 h2;simp only[bq,bH]at h1 h2;omega
 ·rintro⟨p,q⟩;refine⟨by omega,by omega,fun i h1 h2=> ?_⟩;unfold fM;simp only[bq,bH];omega
theorem Ow {a b len day:Int}(h:0<=a/\a<b/\b<=1440)(hl:1<=len/\len<=1440){days:Nat}(h0:0<=day)(h1:day+days<=146097)(hd:1<=days/\days<=30):(kY (c1 (oL a b) len []) 0 day days).1=if b-a<len then noA 11 else⟨0,0,day,a,[0],[]⟩:=by
 have hF: ∀j:Nat,fS (c1 (oL a b) len []) 0 (day+(j:Int)) (-1)=nh (fM a b) (inl []):=fun j=>by
  rw[KG (k:=0) (by rfl) len,IL h]
 rcases(IK (oL a b) [] hl (day:=day) (days:=days) h0 h1 hd).2 with⟨d,m,_,e,e1,e2,e3⟩|⟨e,e1⟩
 ·rw[hF,uR,sI h hl.1]at e1;have e4:=e2 a (by rw[hF,uR,sI h hl.1];omega)
  have hd0:d=0:=by
   match d,e3 with
   |0,_=>rfl
   |d+1,e3=>exact absurd (by rw[hF,uR,sI h hl.1];exact e1) (e3 0 (by omega) m)
  subst hd0;rw[aw (by omega),e];have:m=a:=(by omega);subst this;congr 1;omega
 ·have:=e1 0 (by omega) a;rw[hF,uR,sI h hl.1]at this;rw[ay (by omega)];exact e
def cHd (day m:Int)(who:List Int):Cm:=⟨5,0,0,0,[],[],sv0,day,m,who⟩
theorem IM {M:M}{T:List (Int×Int)}{x y:Int}:gH (nh M (inl T)) x y=true↔0<=x/\y<=1440/\x<=y/\ ∀i:Nat,x<=(i:Int)->(i:Int)<y->M i=true/\inl T i=false:=by
 rw[Au];refine and_congr_right fun h0=>and_congr_right fun h1=>and_congr_right fun h2=>forall_congr' fun i=>imp_congr_right fun a=>imp_congr_right fun b=> ?_;unfold nh;rw[a7 (by omega:i<1440)];simp
theorem kN: ∀(l m:List Cm) (c:Co),ib c (l++m)=((ib c l).1++(ib (ib c l).2 m).1,(ib (ib c l).2 m).2)
 |[],_,_=>rfl
 |x::l,m,c=>by
  show((doS c x).1::(ib (doS c x).2 (l++m)).1,(ib (doS c x).2 (l++m)).2)=_;rw[kN l m];rfl
theorem qU: ∀(l:List Cm) (c:Co),(ib c l).1.length=l.length
 |[],_=>rfl
 |x::l,c=>congrArg (· +1) (qU l (doS c x).2)
end Go.Proofs.YtjkilacmkbmmbaaGreatDoor
