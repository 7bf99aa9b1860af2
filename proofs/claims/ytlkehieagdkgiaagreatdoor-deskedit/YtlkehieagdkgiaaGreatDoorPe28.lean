/- Texts of the proof. -/
import Derived.Test.YtlkehieagdkgiaaGreatDoorPe27
set_option maxRecDepth 100000
set_option maxHeartbeats 8000000
namespace Go.Proofs.YtlkehieagdkgiaaGreatDoor
open Go.Proofs.Tryz Go.RowKit Lx Vx Mx Msk
section
section
variable {B gD:Nat} {d:Dk} {t:Tr} {w w':World}
theorem zi (x:List UInt8)(w:World)(h:dE B gD d t w):Calls prog 62 #[ab gD 0,jU x] w fun r w'=>r= .returned (ag (atP5 d.rules x))/\aq w w':=by
 unfold jU;obtain⟨l,o,c,i⟩:=nb w #[.string ⟨x.toArray⟩] 9;obtain⟨_,j,n,s,kv,q,m,f⟩:=h.below c;obtain⟨k,a,b⟩:=f.rules.here;have c0:=Gz k j x w.heap.size l a i;rw[b]at c0;obtain⟨p,g,rfl⟩:=a.form;have v:=cr 0 f.blk rfl;go_enter func62,ntmps62;go_wp2_with fail;refine c0.mono ?_;rintro e u ⟨rfl,b1⟩;go_wp2_with fail;go_ret;exact⟨rfl,aw c b1⟩
theorem nJ {a e size n:Nat}{v:Value}{xs:List Value}(h:w.ownsRow a e size v n xs)(m:0<n): ∃g c,v= .slice (some (ae g 0)) n c/\a<=g/\ ∀(k:Nat) (u:Value),xs[k]? =some u->w.cell? (ae g k)=some u:=by
 rcases h.2 with⟨_,l⟩|⟨g,cap,d,rfl,f,i,_,_,_,j⟩
 ·omega
 ·refine⟨g,cap,rfl,f,fun k u b=> ?_⟩;rw[aZ _ _ k _ _ _ i,<-bx];rw[<-j]at b;exact(dP (by have:=(aF.1 b).1;simp at this;omega)).symm.trans b
theorem orZ {i k:Nat}{b:Bool}(a:i≠k):(decide (i=k)||b)=b:=by simp[a]
theorem Lp {c:List Cd}{l:List Vx.Kp}{runs v r b:Int}(f:l.length<=64):(jk c l runs v r b).l.length<=64:=by
 unfold jk;split
 ·rename_i a;unfold mg at a;rw[bz,bT]at a;have d:=sS r b l 0;have e:=DS (l:=l) a.1 (by omega);simp;omega
 ·split
  ·simp
  ·simp[qx];omega
theorem Qn {W:World}{g b:Nat}{c f:Array Value}{T a:TypeId}(h:W.heap[g]? =ah c T)(d:W.heap[b]? =ah f a)(j:T≠a):g≠b:=fun e=>by
 subst e;rw[h]at d;injection d with k;injection k with _ i _;exact j i
theorem Lq {W W':World}{v:Value}{l:List Vx.Kp}(h:eD W.heap.size W' v l):Rob (fun q=>W.heap.size<=q/\q<W'.heap.size) (fun u=>eD 0 u v l) W':=fun u s ha=>by
 obtain⟨p,c,b,d,e,f⟩:=h;refine⟨p,c,b,d,e,fun k=> ?_⟩;obtain⟨g,o,m,i,n⟩:=f k;refine⟨g,o,m,dF _,fun j x r=> ?_⟩;have a:=n j x r;rw[<-a];exact et (ha g ⟨i,cZ a⟩ (cZ a))
theorem NQ {lo hi g:Nat}{Φ:World->Prop}{W:World}{xs:Array Value}(h:Rob (fun q=>lo<=q/\q<hi) Φ W)(a:g<lo\/hi<=g):Rob (fun q=>lo<=q/\q<hi) Φ (W.setRow g xs):=h.move (by simp) (fun q b _=>aW _ _ _ _ (by omega)) fun _ _ h=>h
def mtT (G:Got)(p:Option Addr)(c:Nat):Value:= .tuple #[.agg (mv G.m),.agg #[.slice p G.l.length c,ag G.n],.agg #[ag G.er,ag (G.at_:Int)]]
def At (φ:Nat->Value)(k:Nat)(wX W:World)(c:Array Value)(T:TypeId):Prop:= ∃g:Nat,φ k=ab g 0/\wX.heap.size<=g/\W.heap[g]? =ah c T
theorem At.later {φ:Nat->Value}{k:Nat}{wX W W':World}{c:Array Value}{T:TypeId}(h:At φ k wX W c T)(e:aq W W'):At φ k wX W' c T:=by
 obtain⟨g,a,b,d⟩:=h;exact⟨g,a,b,bt e d⟩
theorem At.put {φ:Nat->Value}{k:Nat}{wX W:World}{c:Array Value}{T:TypeId}(h:At φ k wX W c T){s:Nat}{v:Value}(d:s≠k):At (oQ φ (some s) v) k wX W c T:=by
 obtain⟨g,a,b⟩:=h;exact⟨g,(dH d).trans a,b⟩
theorem At.set {φ:Nat->Value}{k g:Nat}{wX W:World}{c d x:Array Value}{T a:TypeId}(h:At φ k wX W c T)(j:W.heap[g]? =ah d a)(i:T≠a):At φ k wX (W.setRow g x) c T:=by
 obtain⟨q,e,f,b⟩:=h;exact⟨q,e,f,(aW _ _ _ _ (Qn b j i)).trans b⟩
theorem C3 {φ:Nat->Value}{k:Nat}{wX W:World}{c:Array Value}{T:TypeId}(a:aq wX W):At (oQ φ (some k) (ab W.heap.size 0)) k wX (W.alloc (.cells c T)) c T:=⟨_,dV,a.size,aG _ _⟩
def Out (φ:Nat->Value)(k lo hi:Nat):Prop:= ∃g:Nat,φ k=ab g 0/\(g<lo\/hi<=g)
theorem Out.put {φ:Nat->Value}{k lo hi s:Nat}{v:Value}(h:Out φ k lo hi)(c:s≠k):Out (oQ φ (some s) v) k lo hi:=by
 obtain⟨g,a,b⟩:=h;exact⟨g,(dH c).trans a,b⟩
def xy (wX:World)(G:Got)(φ:Nat->Value)(W:World)(b8 b9 b0:Bool):Prop:= ∃p c lo hi,φ 42=mtT G p c/\wX.heap.size<=lo/\hi<=W.heap.size/\Rob (fun q=>lo<=q/\q<hi) (fun u=>eD 0 u (.slice p G.l.length c) G.l) W/\(b8=true->Out φ 8 lo hi)/\(b9=true->Out φ 9 lo hi)/\(b0=true->Out φ 10 lo hi)
section
variable {wX:World} {G:Got} {φ:Nat->Value} {W W':World} {b8 b9 b0:Bool}
theorem xy.put (h:xy wX G φ W b8 b9 b0){s:Nat}{v:Value}(l:s≠42)(m:s≠8)(n:s≠9)(j:s≠10):xy wX G (oQ φ (some s) v) W b8 b9 b0:=by
 obtain⟨p,k,lo,hi,a,b,d,e,f,g,i⟩:=h;exact⟨p,k,lo,hi,(dH l).trans a,b,d,e,fun c=>(f c).put m,fun c=>(g c).put n,fun c=>(i c).put j⟩
theorem xy.set (h:xy wX G φ W b8 b9 b0){g:Nat}{x:Array Value}(j: ∀lo hi,(b8=true->Out φ 8 lo hi)->(b9=true->Out φ 9 lo hi)->(b0=true->Out φ 10 lo hi)->g<lo\/hi<=g):xy wX G φ (W.setRow g x) b8 b9 b0:=by
 obtain⟨p,k,lo,hi,d,e,f,i,a,b,c⟩:=h;exact⟨p,k,lo,hi,d,e,by simpa using f,NQ i (j lo hi a b c),a,b,c⟩
theorem C4 {k lo hi g:Nat}(h:Out φ k lo hi)(e:φ k=ab g 0):g<lo\/hi<=g:=by
 obtain⟨q,a,b⟩:=h;rw[e]at a;injection a with a;injection a with a;injection a with a;rw[a];exact b
end
structure MtJ (wX:World)(G:Got)(M:Nat->Bool)(φ:Nat->Value)(W:World):Prop where
 bel:aq wX W
 get:M 17=true->xy wX G φ W (M 22) (M 23) (M 24)
 mov:M 18=true->φ 24=φ 42
 ext:M 20=true-> ∃p c,φ 42=mtT G p c/\φ 44= .agg #[.slice p G.l.length c,ag G.n]
 al8:M 22=true->At φ 8 wX W (bif M 25 then mv G.m else mv fun _=>false) 55
 al9:M 23=true->M 26=false->At φ 9 wX W #[af,ag 0] 71
 st9:M 26=true-> ∃p c,φ 42=mtT G p c/\At φ 9 wX W #[.slice p G.l.length c,ag G.n] 71
 al0:M 24=true->At φ 10 wX W (bif M 27 then #[ag G.er,ag (G.at_:Int)] else #[ag 0,ag 0]) 48
theorem MtJ.later {wX:World}{G:Got}{M:Nat->Bool}{φ:Nat->Value}{W W':World}(h:MtJ wX G M φ W)(a:aq W W'):MtJ wX G M φ W':=⟨aw h.bel a,fun c=>by
 obtain⟨p,k,lo,hi,b,d,f,g,i⟩:=h.get c;exact⟨p,k,lo,hi,b,d,bg f a.size,g.below a,i⟩,h.mov,h.ext,fun c=>(h.al8 c).later a,fun c e=>(h.al9 c e).later a,fun c=>by
 obtain⟨p,k,b,d⟩:=h.st9 c;exact⟨p,k,b,d.later a⟩,fun c=>(h.al0 c).later a⟩
theorem mr {M:Nat->Bool}{i k:Nat}{p:Prop}(b:M k=false)(c:(decide (i=k)||M k)=true)(a:i≠k):p:=by rw[orZ a,b]at c;cases c
theorem upM {M:Nat->Bool}{i k:Nat}{b:Bool}(c:(decide (i=k)||M k)=b)(a:i≠k):M k=b:=by rwa[orZ a]at c
theorem qj {M:Nat->Bool}{i k:Nat}(a:i≠k):(decide (i=k)||M k)=M k:=orZ a
theorem je {a b:Bool}(h:a=true->b=true)(c:b=false):a=false:=by
 cases a with
 |false=>rfl
 |true=>rw[h rfl]at c;cases c
theorem Bg (r day:Int)(w:World)(h:dE B gD d t w)(h0:0<=r)(hr:r<d.res.length):Calls prog 106 #[ab gD 0,ag r,ag day] w fun e w'=>e= .returned (.agg (mv (fw d r day).1))/\dE B gD (fw d r day).2 t w'/\Kd gD t t w w':=by
 obtain⟨ri,rfl⟩: ∃k:Nat,r=(k:Int):=⟨r.toNat,by omega⟩
 have hz:=eR;obtain⟨wA,V,bA,nA⟩:=nb w (mv fun _=>false) 55;have a7:=h.below bA;have a1:=aE a7;have H0:=aE h;obtain⟨bh,rv,cv,vv,kv,ss,aa,C⟩:=a7;obtain⟨x,hx⟩: ∃x,d.res[ri]? =some x:=⟨d.res[ri]'(by omega),ay _⟩
 have c0:=zi x wA a1.o;have z1:=cr 1 C.blk rfl;obtain⟨ge,ce,he,_,bb⟩:=nJ C.res (by omega);have zx:=bb ri (jU x) (by rw[a8,hx];rfl);rw[he]at z1;obtain⟨n,hn⟩:=au d.res.length;rw[hn]at z1 hr;have ai:=aE bh;have HX:Rb (d.res.getD ri []=x):=by show _=_;simp[List.getD,hx]
 obtain⟨k,hk⟩:=au (atP5 d.rules x);rw[hk]at c0;have HK:=aE hk;have aO:=aE bA
 have HM:Rb (∀P:M×Dk->Prop,((k<0->P (noM,d))/\(¬k<0->P ((jk (fd d.rules) d.kept d.runs (d.vers.getD k.toNat 0) k day).m,{d with kept:=(jk (fd d.rules) d.kept d.runs (d.vers.getD k.toNat 0) k day).l,runs:=(jk (fd d.rules) d.kept d.runs (d.vers.getD k.toNat 0) k day).n})))->P (fw d ri day)):=fun P hP=>by
  unfold fw;simp only[dj,HX.o,HK.o];by_cases q:k<0
  ·rw[aB q];exact hP.1 q
  ·rw[ax q];exact hP.2 q
 have bx:(0:Int)<=(ri:Int):=by omega
 unfold jU at zx c0;go_enter func106,ntmps106;go_wp2_with fail;refine c0.mono ?_;rintro e w1 ⟨rfl,b1⟩;have Y:=bt b1 nA;have bq:=aE (a1.o.below b1);have ad:=aE (aw aO.o b1);by_cases bc:k<0
 ·have a5:=below_setRow ad.o (aD _) (mv fun _=>false);have HR:=aE (aL _ _ _ (mv fun _=>false) _ _ Y);have HO:=aE (HM.o (fun p=>(.agg (mv fun _=>false):Value)= .agg (mv p.1)/\dE B gD p.2 t (w1.setRow w.heap.size (mv fun _=>false))/\Kd gD t t w (w1.setRow w.heap.size (mv fun _=>false))) ⟨fun _=>⟨rfl,H0.o.below a5,Kd.of a5⟩,fun q=>absurd bc (by omega)⟩);go_wp2_with(refine az rfl 55 _ _ rfl _ _ rfl rfl _ _ Y (bl _) (by simp[di]) (dW _) ?_)
  refine aX (v:= .agg (mv fun _=>false)) ?_ rfl ⟨by rw[HO.o.1],HO.o.2⟩;exact bf rfl _ _ w.heap.size _ _ _ _ rfl HR.o dm rfl (bl _)
 ·obtain⟨ki,rfl⟩: ∃q:Nat,k=(q:Int):=⟨k.toNat,by omega⟩
  have bd:ki<d.vers.length:=by
   have:=ny d.rules x;rw[HK.o]at this;have:=ai.o.vl;omega
  obtain⟨_,rv,cv,vv,kv,ss,aa,an⟩:=H0.o;have C:=an.below ad.o;have z4:=cr 4 C.blk rfl;have z5:=cr 5 C.blk rfl;have z7:=cr 7 C.blk rfl;have z8:=cr 8 C.blk rfl;obtain⟨pv,a2,rfl,bz,bi⟩:=C.vers.here;obtain⟨f,ac⟩: ∃q,d.vers[ki]? =some q:=⟨d.vers[ki],ay bd⟩
  obtain⟨gv,ov,rfl,zv⟩:=bi ki f ac;obtain⟨pk,ck,rfl,_,_⟩:=C.kept.here;obtain⟨pc,cc,rfl,_,_⟩:=C.codes.here.form;obtain⟨nv,be⟩:=au d.vers.length;obtain⟨nq,aF⟩:=au d.kept.length;obtain⟨nc,aC⟩:=au ((fd d.rules).length);rw[be]at z5;rw[aF]at z7;rw[aC]at z4;have bp:(ki:Int)<(nv:Int):=(by omega);have bn:(0:Int)<=(ki:Int):=(by omega)
  have cG: ∀W,aq w1 W->Calls prog 137 #[.agg #[.slice pk nq ck,ag d.runs],.slice pc nc cc,ag f,ag (ki:Int),ag day] W (zY (jk (fd d.rules) d.kept d.runs f ki day).m (jk (fd d.rules) d.kept d.runs f ki day).l (jk (fd d.rules) d.kept d.runs f ki day).n (jk (fd d.rules) d.kept d.runs f ki day).er ((jk (fd d.rules) d.kept d.runs f ki day).at_:Int) W):=fun W hW=>by
   have h1:=(C.kept.below hW).here;have h2:=(C.codes.below hW).here;rw[aF]at h1;rw[aC]at h2;exact NN _ _ _ _ _ _ _ _ W h1 (by have:=ai.o.kl;omega) h2
  have aS:Rb (d.vers.getD ki 0=f):=(by show _=_;simp[List.getD,ac]);have L:=aE an;obtain⟨G,hG⟩:=au (jk (fd d.rules) d.kept d.runs f ki day);rw[hG]at cG;have HG:=aE hG;have bs:=aI an.blk;go_upto_region 4 with fail;refine dl (MtJ w1 G) [kn 25 (ab gD 0),kn 26 (ab gD 0),kn 27 (ab gD 7),kn 28 (.agg #[.slice pk nq ck,ag d.runs]),kn 29 (ab gD 0),kn 30 (ab gD 0),kn 31 (ab gD 4),kn 32 (.slice pc nc cc),kn 33 (ab gD 0),kn 34 (ab gD 0),kn 35 (ab gD 5),kn 36 (.slice (some (ae gv ov)) nv a2),kn 37 (ag (ki:Int)),kn 38 (ab gv (ov+ki)),kn 39 (ag f),kn 40 (ag (ki:Int)),kn 41 (ag day),td 42,td 24,kn 43 (.agg (mv G.m)),td 44,kn 45 (.agg #[ag G.er,ag (G.at_:Int)]),td 8,td 9,td 10,nk,nk,nk] (fun _=>⟨(aH _ _).drew,nofun,nofun,nofun,nofun,nofun,nofun,nofun⟩) (fun _ _ _ _ b h=>h.later b) (by kernel_rfl) ?_ ?_
  ·rintro M φ W S hc F l hl z;have zz:=fun(q:Addr) (x:Value) (h:w1.cell? q=some x)=>aj S.bel h;have z4:=zz _ _ z4;have z5:=zz _ _ z5;have z7:=zz _ _ z7;have z8:=zz _ _ z8;have zv:=zz _ _ zv;have cG:=cG W S.bel;have HC:=aE hc;have i:=aE S;simp only[kn,td,nk,dX,aQ,aT,Act.put,aA,aK,aJ]at hl;subst hl;simp only[dn,Nat.reduceAdd]at z;dsimp only[kn,td,nk,dy,eJ,dY,Act.put];and_intros;all_goals first|exact trivial|intro Q hn C K J
   all_goals try (go_simp;with_reducible exact J _ _ ⟨rfl,aH _ _⟩)
   ·have a3:=hn 18 _ rfl (by kernel_rfl);have a4:M 20=false:=je (fun h=>HC.o 20 _ rfl h ⟨18,.data⟩ (by simp) rfl rfl) a3;have ak:M 26=false:=je (fun h=>HC.o 26 _ rfl h ⟨20,.data⟩ (by simp) rfl rfl) a4;go_simp;refine cG.mono ?_;rintro r' W' ⟨v',rfl,a9,aZ⟩;obtain⟨p,c9,hv,_⟩:=id a9;subst hv;have hj:=i.o.later aZ
    have ou: ∀{k:Nat} {c:Array Value} {T:TypeId},At φ k w1 W c T->k≠42->Out (oQ φ (some 42) (mtT G p c9)) k W.heap.size W'.heap.size:=fun h hk=>by
     obtain⟨g,h1,_,h3⟩:=h;exact⟨g,(dH fun e=>hk e.symm).trans h1,.inl (aI h3)⟩
    exact J _ _ ⟨trivial,hj.bel,fun _=>⟨p,c9,W.heap.size,W'.heap.size,dV,i.o.bel.size,aD _,Lq a9,fun c=>ou (i.o.al8 (upM c (by decide))) (by decide),fun c=>ou (i.o.al9 (upM c (by decide)) ak) (by decide),fun c=>ou (i.o.al0 (upM c (by decide))) (by decide)⟩,fun c=>mr a3 c (by decide),fun c=>mr a4 c (by decide),fun c=>by rw[qj (by decide)];exact(hj.al8 (upM c (by decide))).put (by decide),fun c H=>(hj.al9 (upM c (by decide)) ak).put (by decide),fun c=>mr ak c (by decide),fun c=>by rw[qj (by decide)];exact(hj.al0 (upM c (by decide))).put (by decide)⟩
   ·have U:=Q ⟨17,.data⟩ (by simp) rfl rfl;have j:=i.o;go_simp
    exact J _ _ ⟨trivial,j.bel,fun c=>(j.get U).put (by decide) (by decide) (by decide) (by decide),fun _=>dV.trans (dH (by decide)).symm,fun c=>by rw[dH (by decide),dH (by decide)];exact j.ext (upM c (by decide)),fun c=>(j.al8 (upM c (by decide))).put (by decide),fun c H=>(j.al9 (upM c (by decide)) (upM H (by decide))).put (by decide),fun c=>by
     obtain⟨p,k,u,y⟩:=j.st9 (upM c (by decide));exact⟨p,k,(dH (by decide)).trans u,y.put (by decide)⟩,fun c=>(j.al0 (upM c (by decide))).put (by decide)⟩
   ·obtain⟨p,k,lo,hi,a,_⟩:=i.o.get (HC.o 18 _ rfl (Q ⟨18,.data⟩ (by simp) rfl rfl) ⟨17,.data⟩ (by simp) rfl rfl);rw[i.o.mov (Q ⟨18,.data⟩ (by simp) rfl rfl),a]at z;unfold mtT at z;go_simp;exact J _ _ ⟨rfl,aH _ _⟩
   ·have U:=HC.o 18 _ rfl (Q ⟨18,.data⟩ (by simp) rfl rfl) ⟨17,.data⟩ (by simp) rfl rfl;obtain⟨p,k,lo,hi,a,_⟩:=i.o.get U;rw[i.o.mov (Q ⟨18,.data⟩ (by simp) rfl rfl),a]at z;unfold mtT at z;have j:=i.o;go_simp
    exact J _ _ ⟨trivial,j.bel,fun c=>(j.get U).put (by decide) (by decide) (by decide) (by decide),fun c=>by rw[dH (by decide),dH (by decide)];exact j.mov (upM c (by decide)),fun _=>⟨p,k,(dH (by decide)).trans a,dV⟩,fun c=>(j.al8 (upM c (by decide))).put (by decide),fun c H=>(j.al9 (upM c (by decide)) (upM H (by decide))).put (by decide),fun c=>by
     obtain⟨p,k,u,y⟩:=j.st9 (upM c (by decide));exact⟨p,k,(dH (by decide)).trans u,y.put (by decide)⟩,fun c=>(j.al0 (upM c (by decide))).put (by decide)⟩
   ·obtain⟨p,k,lo,hi,a,_⟩:=i.o.get (HC.o 18 _ rfl (Q ⟨18,.data⟩ (by simp) rfl rfl) ⟨17,.data⟩ (by simp) rfl rfl);rw[i.o.mov (Q ⟨18,.data⟩ (by simp) rfl rfl),a]at z;unfold mtT at z;go_simp;exact J _ _ ⟨rfl,aH _ _⟩
   ·have hd:=hn 25 _ rfl (by kernel_rfl);have j:=i.o;have b:=am W (.cells (mv fun _=>false) 55);go_simp
    exact J _ _ ⟨trivial,aw j.bel b,fun c=>by
     obtain⟨p,k,lo,hi,u,y,Z,e4,e5,e6,e7⟩:=j.get (upM c (by decide));exact⟨p,k,lo,hi,(dH (by decide)).trans u,y,bg Z b.size,e4.below b,fun _=>⟨W.heap.size,dV,.inr Z⟩,fun c=>(e6 (upM c (by decide))).put (by decide),fun c=>(e7 (upM c (by decide))).put (by decide)⟩,fun c=>by rw[dH (by decide),dH (by decide)];exact j.mov (upM c (by decide)),fun c=>by rw[dH (by decide),dH (by decide)];exact j.ext (upM c (by decide)),fun _=>by rw[qj (by decide),hd];exact C3 j.bel,fun c H=>((j.al9 (upM c (by decide)) (upM H (by decide))).later b).put (by decide),fun c=>by
     obtain⟨p,k,u,y⟩:=j.st9 (upM c (by decide));exact⟨p,k,(dH (by decide)).trans u,(y.later b).put (by decide)⟩,fun c=>by rw[qj (by decide)];exact((j.al0 (upM c (by decide))).later b).put (by decide)⟩
   ·have hd:=hn 26 _ rfl (by kernel_rfl);have j:=i.o;have b:=am W (.cells #[af,ag 0] 71);go_simp
    exact J _ _ ⟨trivial,aw j.bel b,fun c=>by
     obtain⟨p,k,lo,hi,u,y,Z,e4,e5,e6,e7⟩:=j.get (upM c (by decide));exact⟨p,k,lo,hi,(dH (by decide)).trans u,y,bg Z b.size,e4.below b,fun c=>(e5 (upM c (by decide))).put (by decide),fun _=>⟨W.heap.size,dV,.inr Z⟩,fun c=>(e7 (upM c (by decide))).put (by decide)⟩,fun c=>by rw[dH (by decide),dH (by decide)];exact j.mov (upM c (by decide)),fun c=>by rw[dH (by decide),dH (by decide)];exact j.ext (upM c (by decide)),fun c=>by rw[qj (by decide)];exact((j.al8 (upM c (by decide))).later b).put (by decide),fun _ _=>C3 j.bel,fun c=>mr hd c (by decide),fun c=>by rw[qj (by decide)];exact((j.al0 (upM c (by decide))).later b).put (by decide)⟩
   ·have hd:=hn 27 _ rfl (by kernel_rfl);have j:=i.o;have b:=am W (.cells #[ag 0,ag 0] 48);go_simp
    exact J _ _ ⟨trivial,aw j.bel b,fun c=>by
     obtain⟨p,k,lo,hi,u,y,Z,e4,e5,e6,e7⟩:=j.get (upM c (by decide));exact⟨p,k,lo,hi,(dH (by decide)).trans u,y,bg Z b.size,e4.below b,fun c=>(e5 (upM c (by decide))).put (by decide),fun c=>(e6 (upM c (by decide))).put (by decide),fun _=>⟨W.heap.size,dV,.inr Z⟩⟩,fun c=>by rw[dH (by decide),dH (by decide)];exact j.mov (upM c (by decide)),fun c=>by rw[dH (by decide),dH (by decide)];exact j.ext (upM c (by decide)),fun c=>by rw[qj (by decide)];exact((j.al8 (upM c (by decide))).later b).put (by decide),fun c H=>((j.al9 (upM c (by decide)) (upM H (by decide))).later b).put (by decide),fun c=>by
     obtain⟨p,k,u,y⟩:=j.st9 (upM c (by decide));exact⟨p,k,(dH (by decide)).trans u,(y.later b).put (by decide)⟩,fun _=>by rw[qj (by decide),hd];exact C3 j.bel⟩
   ·have V:=Q ⟨22,.data⟩ (by simp) rfl rfl;have j:=i.o;obtain⟨g,e,A,s⟩:=j.al8 V;rw[C]at s;rw[e]at z;show Oper.wp _ _ _ _ _ _;refine gV (ops:= #[]) rfl (az rfl 55 _ _ rfl _ (mv G.m) (by simp[Act.eval,z]) (by simp[Act.eval,z]) _ _ s (bl _) (by simp[di]) (dW _) ?_)
    exact⟨rfl,J undef _ ⟨trivial,below_setRow j.bel A _,fun c=>(j.get (upM c (by decide))).set fun lo hi o8 o9 o0=>C4 (o8 V) e,fun c=>j.mov (upM c (by decide)),fun c=>j.ext (upM c (by decide)),fun _=>⟨g,e,A,aL _ _ _ _ _ _ s⟩,fun c H=>(j.al9 (upM c (by decide)) (upM H (by decide))).set s (by decide),fun c=>by
     obtain⟨p,k,u,y⟩:=j.st9 (upM c (by decide));exact⟨p,k,u,y.set s (by decide)⟩,fun c=>by rw[qj (by decide)];exact(j.al0 (upM c (by decide))).set s (by decide)⟩⟩
   ·have V:=Q ⟨23,.data⟩ (by simp) rfl rfl;have j:=i.o;obtain⟨g,e,A,s⟩:=j.al9 V C;obtain⟨p,k,a,aV⟩:=j.ext (Q ⟨20,.data⟩ (by simp) rfl rfl);rw[aV]at z;rw[e]at z;show Oper.wp _ _ _ _ _ _;refine gV (ops:= #[]) rfl (az rfl 71 _ _ rfl _ #[.slice p G.l.length k,ag G.n] (by simp[Act.eval,z]) (by simp[Act.eval,z]) _ _ s (by kernel_rfl) rfl (by simp[Value.oneCell']) ?_);exact⟨rfl,J undef _ ⟨trivial,below_setRow j.bel A _,fun c=>(j.get (upM c (by decide))).set fun lo hi o8 o9 o0=>C4 (o9 V) e,fun c=>j.mov (upM c (by decide)),fun c=>j.ext (upM c (by decide)),fun c=>by rw[qj (by decide)];exact(j.al8 (upM c (by decide))).set s (by decide),fun _ c=>by simp at c,fun _=>⟨p,k,a,g,e,A,aL _ _ _ _ _ _ s⟩,fun c=>by rw[qj (by decide)];exact(j.al0 (upM c (by decide))).set s (by decide)⟩⟩
   ·have V:=Q ⟨24,.data⟩ (by simp) rfl rfl;have j:=i.o;obtain⟨g,e,A,s⟩:=j.al0 V;rw[C]at s;rw[e]at z;show Oper.wp _ _ _ _ _ _;refine gV (ops:= #[]) rfl (az rfl 48 _ _ rfl _ #[ag G.er,ag (G.at_:Int)] (by simp[Act.eval,z]) (by simp[Act.eval,z]) _ _ s (by kernel_rfl) rfl (by simp[Value.oneCell']) ?_)
    exact⟨rfl,J undef _ ⟨trivial,below_setRow j.bel A _,fun c=>(j.get (upM c (by decide))).set fun lo hi o8 o9 o0=>C4 (o0 V) e,fun c=>j.mov (upM c (by decide)),fun c=>j.ext (upM c (by decide)),fun c=>by rw[qj (by decide)];exact(j.al8 (upM c (by decide))).set s (by decide),fun c H=>(j.al9 (upM c (by decide)) (upM H (by decide))).set s (by decide),fun c=>by
     obtain⟨p,k,u,y⟩:=j.st9 (upM c (by decide));exact⟨p,k,u,y.set s (by decide)⟩,fun _=>⟨g,e,A,aL _ _ _ _ _ _ s⟩⟩⟩
  ·rintro M φ D hM S;obtain⟨R,N,lo,hi,a,bv,bu,aG,_,o9,_⟩:=S.get (hM 17 (by decide) rfl);obtain⟨g8,e8,l8,k8⟩:=S.al8 (hM 22 (by decide) rfl);rw[hM 25 (by decide) rfl]at k8;obtain⟨p',H,O,g9,e9,l9,k9⟩:=S.st9 (hM 26 (by decide) rfl);obtain⟨br,aU,b2,b0⟩:=S.al0 (hM 24 (by decide) rfl)
   obtain⟨rfl,rfl⟩:R=p'/\N=H:=by
    rw[a]at O;simp only[mtT,Value.tuple.injEq,Value.agg.injEq,Array.mk.injEq,List.cons.injEq,Value.slice.injEq,and_true,true_and]at O;exact O
   have a6:=S.bel;simp only[kn,td,nk,d8,aQ,aT,Act.put,aA,aK,aJ];rw[a,S.mov (hM 18 (by decide) rfl),a,e8,e9,aU];generalize φ 44=b3;have I:=aw ad.o a6;have bm:=bt a6 Y;have E:=bt I L.o.blk;have bw:w.heap.size<w1.heap.size:=aI Y
   have th:D.there gD 7 2:=fun j hj=>by
    refine⟨?_,bo _ _ _ _ _ E⟩;match j,hj with
    |0,_=>exact Option.isSome_iff_exists.2 ⟨_,cr 7 E rfl⟩
    |1,_=>exact Option.isSome_iff_exists.2 ⟨_,cr 8 E rfl⟩
   have ba:(D.setCells gD 7 [.slice R G.l.length N,ag G.n]).heap[gD]? =ah #[rv,t.ev,t.sv,t.av,.slice pc (fd d.rules).length cc,.slice (some (ae gv ov)) d.vers.length a2,ag d.given,.slice R G.l.length N,ag G.n] 73:=aY _ gD 8 _ _ _ (aY D gD 7 _ _ _ E);have ho: ∀q,q≠gD->(D.setCells gD 7 [.slice R G.l.length N,ag G.n]).heap[q]? =D.heap[q]? :=fun q X=>fI gD _ _ D q X;have aM:(D.setCells gD 7 [.slice R G.l.length N,ag G.n]).heap.size=D.heap.size:=(by simp[World.setCells]);have ao:(D.setCells gD 7 [.slice R G.l.length N,ag G.n]).os=D.os/\(D.setCells gD 7 [.slice R G.l.length N,ag G.n]).tape=D.tape/\(D.setCells gD 7 [.slice R G.l.length N,ag G.n]).output=D.output:=⟨rfl,rfl,rfl⟩
   have bk:=(ho g8 (by omega)).trans k8;have aN:=(ho w.heap.size (by omega)).trans bm;generalize bj:D.setCells gD 7 [.slice R G.l.length N,ag G.n]=W3 at*;have aP:=aE th;have HR:=aE (aL _ _ _ (mv G.m) _ _ aN)
   have HO:Rb (dE B gD {d with kept:=G.l,runs:=G.n} t (W3.setRow w.heap.size (mv G.m))/\Kd gD t t w (W3.setRow w.heap.size (mv G.m))):=by
    have hk: ∀q,q<w.heap.size->q≠gD->(W3.setRow w.heap.size (mv G.m)).heap[q]? =w.heap[q]? :=fun q hl X=>((aW _ _ _ _ (by omega)).trans (ho q X)).trans (I.block q hl);have ar:w.heap.size<=(W3.setRow w.heap.size (mv G.m)).heap.size:=(by simp;rw[aM];exact I.size);have a0: ∀{Φ:World->Prop},Rob (Fx gD t) Φ w->Rob (Fx gD t) Φ (W3.setRow w.heap.size (mv G.m)):=fun hR=>hR.move ar (fun q X hl=>hk q hl X.1.1) fun _ _ h=>h;have ok:=ai.o;refine⟨⟨⟨ok.flt,ok.vl,?_,ok.rl,ok.sl,ok.al,ok.gv,ok.nm,ok.sv,ok.ap⟩,rv,_,_,.slice R G.l.length N,ss,aa,L.o.put ar hk ((aW _ _ _ _ (by omega)).trans ba) rfl rfl rfl (a0 L.o.rules) (a0 L.o.codes) (a0 L.o.vers) ?_⟩,⟨?_,?_,?_,ar,fun q X hl=>hk q hl X.1,fun _ _ h=>h,rfl⟩⟩
    ·rw[<-HG.o];exact Lp ok.kl
    ·refine aG.move (by simp;rw[aM];exact aD _) (fun q X _=> ?_) (fun q _ X=>H0.o.fx (.inr (by omega)));exact(aW _ _ _ _ (by omega)).trans (ho q (by omega))
    ·exact ao.1.trans I.os
    ·exact ao.2.1.trans I.tape
    ·exact ao.2.2.trans I.output
   have HP:=aE (HM.o (fun p=>(.agg (mv G.m):Value)= .agg (mv p.1)/\dE B gD p.2 t (W3.setRow w.heap.size (mv G.m))/\Kd gD t t w (W3.setRow w.heap.size (mv G.m))) ⟨fun q=>absurd q (by omega),fun _=>by
    have e:jk (fd d.rules) d.kept d.runs (d.vers.getD (ki:Int).toNat 0) ki day=G:=(by rw[dj,aS.o];exact HG.o);rw[e];exact⟨rfl,HO.o⟩⟩)
   go_wp2_with(first|(refine aR rfl 71 _ rfl _ rfl _ _ _ _ k9 AQ rfl (by kernel_rfl) ?_;clear k9)|(refine wpList_store_mid rfl 71 _ _ rfl gD 7 #[.slice R G.l.length N,ag G.n] rfl rfl ?th (by kernel_rfl) (by simp[Value.oneCell']) ?_;(case th=>exact aP.o);rw[bj])|(refine aR rfl 55 _ rfl _ rfl _ _ _ _ bk dm rfl (bl _) ?_)|(refine az rfl 55 _ _ rfl _ _ rfl rfl _ _ aN (bl _) (by simp[di]) (dW _) ?_))
   refine aX (v:= .agg (mv G.m)) ?_ rfl ⟨by rw[HP.o.1],HP.o.2⟩;exact bf rfl _ _ w.heap.size _ _ _ _ rfl HR.o dm rfl (bl _)
end
end
theorem iN {p:Array Oper}{f:List Oper}{o:Oper}{a:Act}{Q:Exit->Act->World->Prop}{w:World}(A:o.guard=none)(s x:Operand)(r T:TypeId){z:Value}{size d:Nat}(P:o.op= .call {callee:= .builtin .append,args:= #[s,x],argTypes:= #[r,r]})
  (D:prog.underlying r=some (.slice T)) (B:(prog.info? T).map (fun i=>(i.zero,i.size,i.bytes))=some (some z,size,d)) (U:z.cells.size=size) (C:0<size) (y:d<=1000)
  {e n:Nat} {v:Value} {xs:List Value} (R:a.eval s=v) (m:w.ownsRow e T size v n xs) {g c:Nat} {b:Array Value} (S:a.eval x= .slice (some (ae g 0)) 1 c) (O:w.heap[g]? =ah b T) (N:b.size=size) (K:b.all (·.oneCell')=true) (V:n<=100000) (k:e<=w.heap.size)
  (h: ∀l w',w'.ownsRow e T size l (n+1) (xs++b.toList)->w.grownBy w' v.ownBlock->(l.ownBlock=v.ownBlock\/l.ownBlock=some w.heap.size)->(∃t J,l= .slice (some (ae t 0)) (n+1) J)->wpList prog p Q f (a.put o.dst l) w'):wpList prog p Q (o::f) a w:=by
 obtain⟨i,hi,F,G,H⟩:=o7 B;refine wpList_append_own_at w A s x r P e T i z size d D hi F G H U C v n xs R m ⟨g,0,none⟩ 1 c b.toList S (by rw[df,N,Nat.one_mul]) (fun j u E=> ?_) (fun u E=> ?_) (by unfold maxLen;omega) (bg (Nat.mul_le_mul (by omega:n+1<=100001) y) (by decide)) k fun l w' I L _ M=>h l w' I L M ?_
 ·rw[show(⟨g,0,none⟩:Addr).add j=⟨g,j,none⟩ by simp[Addr.add];exact fun h=>h.symm,aZ _ _ _ _ _ _ O,<-bx];exact E
 ·exact(Array.all_eq_true'.1 K) u (Array.mem_toList_iff.1 E)
 ·rcases I.2 with⟨_,q⟩|⟨t,cap,_,q,_⟩
  ·omega
  ·exact⟨t,cap,q⟩
theorem py {α:Type}{m:Nat}{f:α->Array Value}(a: ∀p,(f p).size=m): ∀{l:List α} {j:Nat} {p:α},l[j]? =some p-> ∀k,k<m->(l.flatMap fun p=>(f p).toList)[j*m+k]? =(f p)[k]?
 |[],j,p,h,_,_=>by simp at h
 |x::l,0,p,h,k,b=>by
  have:x=p:=(by simpa using h);subst this;rw[List.flatMap_cons,Nat.zero_mul,cY,dT (by rw[df,a];exact b),bx]
 |x::l,j+1,p,h,k,b=>by
  rw[List.flatMap_cons,dB (by rw[df,a,Nat.add_mul];omega),df,a];have:=py a (l:=l) (j:=j) (p:=p) (by simpa using h) k b;rw[show(j+1)*m+k-m=j*m+k by rw[Nat.add_mul];omega];exact this
theorem iJ {α:Type}{m a e n:Nat}{f:α->Array Value}{w:World}{v:Value}{l:List α}(b: ∀p,(f p).size=m)(h:w.ownsRow a e m v n (l.flatMap fun p=>(f p).toList))(s:n=l.length){j:Nat}{p:α}(d:l[j]? =some p): ∃g c,v= .slice (some (ae g 0)) n c/\a<=g/\w.rangeAt g (j*m) (f p).toList:=by
 obtain⟨g,c,r,o,q⟩:=nJ h (by have:=(aF.1 d).1;omega);refine⟨g,c,r,o,fun k u i=>q _ u ?_⟩;rw[py b d k (by have:=(aF.1 i).1;rw[df,b]at this;exact this),<-bx];exact i
theorem nbs (w:World)(z c:Array Value)(T:TypeId): ∃a W,w.alloc (.cells z T)=a/\a.heap[w.heap.size]? =ah z T/\a.setRow w.heap.size c=W/\aq w W/\W.heap[w.heap.size]? =ah c T:=by
 obtain⟨a,d,e,b⟩:=nb w z T;exact⟨a,_,d,b,rfl,below_setRow e (aD _) c,aL _ _ _ c _ _ b⟩
def apZ:Array Value:= #[ag 0,ag 0,ag 0,ag 0,ag 0,ag 0,ag 0,ag 0,ag 0,ag 0,af]
theorem gQ (a:Ap)(p:Option Addr)(n c:Nat):(apC (a,.slice p n c)).all (·.oneCell')=true:=by simp[apC,Value.oneCell']
theorem Qo:(prog.info? 57).map (fun i=>(i.zero,i.size,i.bytes))=some (some (.agg #[ag 0,ag 0]),2,16):=by kernel_rfl
theorem pA (p:Ap×Value):(apC p).size=11:=rfl
theorem rB (p:Sv×Value):(svC p).size=4:=rfl
def tkB (r day b:Int)(a:Ap)(i:Nat):Bool:=(((i:Int) !=b)&&((a.st !=3)&&((a.day==day)&&decide (r∈a.who))))
theorem GA (r day b:Int){l:List Ap}{j:Nat}{a:Ap}(h:l[j]? =some a):kZ r day b (l.drop j) j=if tkB r day b a j=true then(a.fr,a.to)::kZ r day b (l.drop (j+1)) (j+1) else kZ r day b (l.drop (j+1)) (j+1):=by
 obtain⟨c,d⟩:=aF.1 h;rw[bJ c,d];have e:(tkB r day b a j=true)=((j:Int)≠b/\a.st≠3/\a.day=day/\r∈a.who):=by simp[tkB]
 simp only[kZ,e]
section
section
variable {B gD:Nat} {d:Dk} {t:Tr} {w w':World}
theorem DkM.ap (b: ∃m k o kv n e,DkM B gD d t m k o kv n e w){j:Nat}(y:j<d.aps.length): ∃(a:Ap) (p:Option Addr) (c g f:Nat),d.aps[j]? =some a/\t.av= .slice (some (ae g 0)) d.aps.length f/\B<=g/\w.rangeAt g (j*11) (apC (a,.slice p a.who.length c)).toList/\Rob (Fx gD t) (fun u=>dM u (.slice p a.who.length c) a.who) w:=by
 obtain⟨m,k,o,kv,n,e,b⟩:=b;have x:e.length=d.aps.length:=by rw[<-b.ape,bc]
 obtain⟨⟨a,v⟩,i⟩: ∃p,e[j]? =some p:=⟨e[j]'(by omega),ay _⟩
 have ha:=b.apr _ (aM i);obtain⟨p,c,l,_,_⟩:=ha.here;dsimp only at l ha;subst l;obtain⟨g,f,q,r,s⟩:=iJ pA b.aps rfl i;refine⟨a,p,c,g,f,by rw[<-b.ape,a8,i];rfl,by rw[q,x],r,s,ha⟩
theorem C5 (r day g:Int)(w:World)(h:dE B gD d t w)(h0:0<=r)(hr:r<d.res.length):Calls prog 70 #[ab gD 0,ag r,ag day,ag g] w fun e w'=>e= .returned (.agg (mv (iH d r day g).1))/\dE B gD (iH d r day g).2 t w'/\Kd gD t t w w':=by
 have hz:=eR;obtain⟨X,hA,bA,nA⟩:=nb w (mv fun _=>false) 55;have a1:X.heap.size=w.heap.size+1:=by rw[<-hA];simp
 have aj:=h.opened (aD _) a1 bA;have ac:=aE aj;obtain⟨ay,ak⟩:=aj;have aF:=aE ak;obtain⟨rv,cv,vv,kv,ss,aa,hm⟩:=ak;have ar:aa.length=d.aps.length:=by rw[<-hm.ape,bc]
 obtain⟨n,hn⟩:=au d.aps.length;have HN:=aE hn;obtain⟨pa,ca,R⟩:=cg hm.aps;rw[ar,hn]at R;have z3:=cr 3 hm.blk rfl;have a8:X.cell? (ae gD 3)=some t.av:=z3;have C:t.av= .slice pa n ca:=R;rw[C]at a8;have aV:n<=30:=by rw[<-hn];exact ay.al
 have a9:=aE C;have H0:=aE h;have aA:=aE bA;have aJ:=aE h0;have aK:=aE hr;have ba:w.heap.size<=X.heap.size:=by omega
 clear h hm ar hn z3 R C ay h0 hr bA a1;go_enter func70,ntmps70;go_wp2_with fail;clear a8 hA;go_loopw [9,10,11,18] (fun v _ _ q wr=> ∃(j:Nat) (l:List (Int×Int)),q=ag (j:Int)/\j<=n/\aq X wr/\wr.ownsRow X.heap.size 57 2 v l.length (jb l)/\l.length<=j/\kZ r day g d.aps 0=l++kZ r day g (d.aps.drop j) j) (fun _ _ _ q _=>n-(intOf q).toNat);case atStart=>exact⟨0,[],rfl,by omega,aH _ _,dp _ _ _ _,aD _,rfl⟩
 case round=>
  obtain⟨j,l,rfl,hj,s,m,aQ,Z⟩:=hrel;have aZ:(0:Int)<=(j:Int):=(by omega);by_cases aO:j<n
  ·have ao:(j:Int)<(n:Int):=(by omega);obtain⟨a,V,P,ga,aM,ha,a3,_,a0,K⟩:=DkM.ap aF.o (j:=j) (by rw[HN.o];exact aO);have e0:Value.slice pa n ca= .slice (some (ae ga 0)) n aM:=(by rw[<-a9.o,<-HN.o];exact a3);injection e0 with e1 e3 e2;subst e1 e2;clear e3 a3;rw[GA r day g ha]at Z;have u:=eB a0 s;have L:=(K.below s).here;obtain⟨wZ,wB,hZ,nZ,hB,bB,nB⟩:=nbs wr apZ (apC (a,.slice V a.who.length P)) 45;unfold apZ at hZ nZ;have y0:wB.cell? (ae wr.heap.size 0)=some (ag a.st):=cr 0 nB rfl;have y8:wB.cell? (ae wr.heap.size 8)=some (ag a.day):=cr 8 nB rfl;have aU:wB.cell? (ae wr.heap.size 10)=some (.slice V a.who.length P):=cr 10 nB rfl;have Y:=jM a.who _ r wB (L.below bB);have ah:=aw s bB;have F:=br m fun b H=>bB.block b (m.lt b H).2;obtain⟨b1,aN⟩:=au ((j:Int) !=g);obtain⟨b2,S⟩:=au (a.st !=3);obtain⟨b3,G⟩:=au (a.day==day);obtain⟨b4,D⟩:=au (decide (r∈a.who));have hT:tkB r day g a j=(b1&&(b2&&(b3&&b4))):=(by unfold tkB;rw[aN,S,G,D]);rw[hT]at Z;rw[D]at Y;obtain⟨fr,am⟩:=au a.fr;obtain⟨to,a2⟩:=au a.to;have I:=aE Z;have cT:=fun W=>uL a V P W;rw[am,a2]at I cT;have M:=aE ah;have f:=aE F;clear Z hT D a0 L K m s F ah ha am a2;cases b1 with
   |false=>
    clear Y cT S G;go_wp2_with(first|(refine wpList_load_mid rfl 45 _ rfl ga (j*11) rfl (apC (a,.slice V a.who.length P)).toList _ u apT rfl (by kernel_rfl) ?_)|(refine az rfl 45 _ _ rfl _ _ rfl rfl _ _ nZ (by kernel_rfl) rfl (gQ _ _ _ _) ?_;rw[hB]))
    go_roundw;case rel=>exact⟨j+1,l,by go_num,by omega,M.o,f.o,by omega,I.o⟩
    case measure=>simp[intOf];omega
   |true=>
    cases b2 with
    |false=>
     clear Y cT G;go_wp2_with(first|(refine wpList_load_mid rfl 45 _ rfl ga (j*11) rfl (apC (a,.slice V a.who.length P)).toList _ u apT rfl (by kernel_rfl) ?_)|(refine az rfl 45 _ _ rfl _ _ rfl rfl _ _ nZ (by kernel_rfl) rfl (gQ _ _ _ _) ?_;rw[hB]))
     go_roundw;case rel=>exact⟨j+1,l,by go_num,by omega,M.o,f.o,by omega,I.o⟩
     case measure=>simp[intOf];omega
    |true=>
     cases b3 with
     |false=>
      clear Y cT;go_wp2_with(first|(refine wpList_load_mid rfl 45 _ rfl ga (j*11) rfl (apC (a,.slice V a.who.length P)).toList _ u apT rfl (by kernel_rfl) ?_)|(refine az rfl 45 _ _ rfl _ _ rfl rfl _ _ nZ (by kernel_rfl) rfl (gQ _ _ _ _) ?_;rw[hB]))
      go_roundw;case rel=>exact⟨j+1,l,by go_num,by omega,M.o,f.o,by omega,I.o⟩
      case measure=>simp[intOf];omega
     |true=>
      go_wp2_with(first|(refine wpList_load_mid rfl 45 _ rfl ga (j*11) rfl (apC (a,.slice V a.who.length P)).toList _ u apT rfl (by kernel_rfl) ?_)|(refine az rfl 45 _ _ rfl _ _ rfl rfl _ _ nZ (by kernel_rfl) rfl (gQ _ _ _ _) ?_;rw[hB]))
      refine Y.mono ?_;rintro e w1 ⟨rfl,b1⟩;have z:=aw M.o b1;have c:=br f.o fun b H=>b1.block b (f.o.lt b H).2;have U:=bt b1 nB;clear Y y0 y8 aU nB u b1 M f S G;cases b4 with
      |false=>
       have M:=aE z;have f:=aE c;clear cT z c U;go_wp2_with fail;go_roundw;case rel=>exact⟨j+1,l,by go_num,by omega,M.o,f.o,by omega,I.o⟩
       case measure=>simp[intOf];omega
      |true=>
       have ad:=cT w1;clear cT;go_wp2_with(refine aR rfl 45 _ rfl _ rfl _ _ _ _ U apT rfl (by kernel_rfl) ?_)
       refine ad.mono ?_;rintro e w2 ⟨rfl,b2⟩;have J:=aw z b2;have x:=br c fun b H=>b2.block b (c.lt b H).2;obtain⟨wC,hC,bC,nC⟩:=nb w2 #[ag fr,ag to] 57;have y:=br x fun b H=>bC.block b (x.lt b H).2;have A:=aw J bC;clear ad z c U x J b2 bC;go_wp2_with(at_builtin;refine iN rfl _ _ 89 57 rfl AT Qo rfl (by decide) (by decide) rfl y rfl nC rfl (by simp[Value.oneCell']) (by omega) A.size ?_)
       rintro v' w4 E an _ g4 c4 rfl;have D:=A.grown an A.size (fun k hk=>(y.lt k hk).1)
       have f:Rb (w4.ownsRow X.heap.size 57 2 (.slice (some (ae g4 0)) (l.length+1) c4) (l++[(fr,to)]).length (jb (l++[(fr,to)]))):=by
        show World.ownsRow _ _ _ _ _ _ _;rw[uC,aP];exact E
       clear y E an A hC nC;go_wp2_with fail;go_roundw;case rel=>exact⟨j+1,l++[(fr,to)],by go_num,by omega,D,f.o,by simp;omega,by rw[I.o];simp⟩
       case measure=>simp[intOf];omega
  ·have ao: ¬(j:Int)<(n:Int):=(by omega)
   have af:kZ r day g d.aps 0=l:=by
    rw[Z,dq (by have:=HN.o;omega)];simp[kZ]
   have I:=aE af;have T:=ac.o.below s;have cM:=Bg r day wr T aJ.o aK.o;have f:=aE m;have aB:=aE s;have aY:=aE T;have a7:=bt s nA;obtain⟨pl,cl,aT⟩:=cg m;subst aT;clear Z af m s T nA aQ;go_wp2_with fail;refine cM.mono ?_;rintro e w1 ⟨rfl,ai,p⟩
   have c:w1.ownsRow X.heap.size 57 2 (.slice pl l.length cl) l.length (jb l):=br f.o fun b H=>by
    have ax:=f.o.lt b H;exact p.blk b (ac.o.fx (.inr ax.1)).1 ax.2
   have cO:=EH _ l w1 (it.of_own c).row;have a4:=Kd.at (t:=t) (t':=t) H0.o (aD _) ⟨p.os,p.tape,p.output,p.size,p.blk,p.gx,rfl⟩ a7;have aG:=aE p;have aC:=aE ai;obtain⟨N,Q⟩:=au ((fw d r day).1);rw[Q];have aI:=aE Q;clear cM c p ai Q a7;go_wp2_with fail;refine cO.mono ?_;rintro e w2 ⟨rfl,b2⟩;have cD:=qN N (inl l) w2;have a5:=bt b2 a4;clear cO a4;go_wp2_with fail;refine cD.mono ?_;rintro e w3 ⟨rfl,b3⟩;have O:=aw b2 b3;have a6:=bt b3 a5;have hk: ∀k,k<w3.heap.size->k≠w.heap.size->(w3.setRow w.heap.size (mv fun i=>(N i&& !inl l i)&&decide (i<1440))).heap[k]? =w3.heap[k]? :=fun k _ aS=>aW _ _ _ _ aS
   have HO:Rb (dE B gD (fw d r day).2 t (w3.setRow w.heap.size (mv fun i=>(N i&& !inl l i)&&decide (i<1440)))/\Kd gD t t w (w3.setRow w.heap.size (mv fun i=>(N i&& !inl l i)&&decide (i<1440)))):=by
    refine⟨(aC.o.below O).closed (by simp) hk,?_⟩;have k1:=Kd.opened (aw aA.o aB.o) (aG.o.trans (Kd.of O));exact k1.closed (aD _) rfl rfl rfl (by simp) hk
   have HR:=aE (aL _ _ _ (mv fun i=>(N i&& !inl l i)&&decide (i<1440)) _ _ a6)
   have HF:Rb (iH d r day g=(fun i=>(N i&& !inl l i)&&decide (i<1440),(fw d r day).2)):=by
    show _=_;unfold iH rW;rw[I.o,aI.o]
   clear cD hk b2 b3 O a5;go_wp2_with(refine az rfl 55 _ _ rfl _ _ rfl rfl _ _ a6 (bl _) (by simp[di]) (dW _) ?_)
   refine aX (v:= .agg (mv fun i=>(N i&& !inl l i)&&decide (i<1440))) ?_ rfl ⟨by rw[HF.o],by rw[HF.o];exact HO.o.1,HO.o.2⟩;exact bf rfl _ _ w.heap.size _ _ _ _ rfl HR.o dm rfl (bl _)
end
end
section
section
variable {B gD:Nat} {d:Dk} {t:Tr}
theorem Lr {p i q s o:Nat}{x:Option Addr}{sv:Value}{a:Ap}{r day min num:Int}(w:World)(h:dE B gD d t w)(L:0<=r)(O:r<d.res.length)(j:w.heap[p]? =ah #[ab gD 0] 99)(k:w.heap[i]? =ah #[ag day,ag min,sv] 39)(m:w.heap[q]? =ah #[ag num] 3)(n:w.heap[s]? =ah (apC (a,.slice x a.who.length o)) 45)(z:Gx gD t i)(A:Gx gD t q)(C:Gx gD t s)(y:Gx gD t p):
  Calls prog 69 #[ag r,ab p 0,ab i 0,ab q 0,ab s 0] w fun e w'=>e= .returned (.bool (lc day num a.fr a.to r d).1)/\dE B gD (lc day num a.fr a.to r d).2 t w'/\Kd gD t t w w':=by
 unfold lc;dsimp only;go_enter func69,ntmps69;go_upto_region 1 with fail;refine dl (fun M _ W=>Kd gD t t w W/\dE B gD (bif M 5 then(iH d r day num).2 else d) t W) [kn 7 (ab gD 0),kn 8 (ag r),kn 9 (ab i 0),kn 10 (ag day),kn 11 (ag num),dk 12 (.agg (mv (iH d r day num).1)),kn 13 (.agg (apC (a,.slice x a.who.length o))),kn 14 (.agg #[ag a.fr,ag a.to]),kn 15 (.bool (ff (iH d r day num).1 a.fr a.to)),kn 16 (.bool (!(ff (iH d r day num).1 a.fr a.to))),kn 6 (.bool (!(ff (iH d r day num).1 a.fr a.to)))] (fun _=>⟨Kd.of (aH _ _).drew,h.below (aH _ _).drew⟩) (fun _ _ _ _ H h=>⟨h.1.trans (Kd.of H),h.2.below H⟩) (by kernel_rfl) ?_ ?_
 ·rintro M φ W ⟨c,g⟩ _ F l I E;have S:=cr 0 ((c.blk _ y (aI j)).trans j) rfl;have T:=cr 0 ((c.blk _ z (aI k)).trans k) rfl;have U:=cr 0 ((c.blk _ A (aI m)).trans m) rfl;have P:=(c.blk _ C (aI n)).trans n;clear j k m n;simp only[kn,dk,dX,aQ,aT,Act.put,aA,aK,aJ]at I;subst I;simp only[dn,Nat.reduceAdd]at E;dsimp only[kn,dk,dy,eJ,dY,Act.put];and_intros;all_goals first|exact trivial|intro R Q N K f
  all_goals try (go_simp;with_reducible exact f _ _ ⟨rfl,aH _ _⟩)
  ·rw[N]at g;go_simp;refine(C5 r day num W g L O).mono ?_;rintro J D ⟨rfl,u,v⟩;exact f _ _ ⟨rfl,c.trans v,u⟩
  ·show Oper.wp _ _ _ _ _ _;refine eN 45 _ rfl _ (by simp[Act.eval,E]) _ _ _ _ P apT rfl (by kernel_rfl) ?_;exact f _ _ ⟨rfl,aH _ _⟩
  ·go_simp;refine(uL a x o W).mono ?_;rintro J D ⟨rfl,b⟩;exact f _ _ ⟨rfl,b⟩
  ·go_simp;refine(rP _ a.fr a.to W).mono ?_;rintro J D ⟨rfl,b⟩;exact f _ _ ⟨rfl,b⟩
 ·rintro M φ W G ⟨c,g⟩;rw[G 5 (by decide) rfl]at g;simp only[kn,dk,d8,aQ,aT,Act.put,aA,aK,aJ];clear j k m n G;go_wp2_with fail;go_ret;exact⟨rfl,g,c⟩
theorem Jl {n c m:Nat}{q:Option Addr}{a:Ap}{r:Int}(w:World)(h:dE B gD d t w)(E:0<=r)(H:r<d.res.length)(j:w.heap[n]? =ah #[ab gD 0] 99)(k:w.heap[c]? =ah (apC (a,.slice q a.who.length m)) 45)(u:Gx gD t c)(s:Gx gD t n):
  Calls prog 105 #[ag r,ab n 0,ab c 0] w fun e w'=>e= .returned (.bool (lr a.day a.fr a.to r d).1)/\dE B gD (lr a.day a.fr a.to r d).2 t w'/\Kd gD t t w w':=by
 unfold lr;dsimp only;go_enter func105,ntmps105;go_upto_region 1 with fail;refine dl (fun M _ W=>Kd gD t t w W/\dE B gD (bif M 5 then(fw d r a.day).2 else d) t W) [kn 5 (ab gD 0),kn 6 (ag r),kn 7 (ab c 8),kn 8 (ab c 8),kn 9 (ag a.day),dk 10 (.agg (mv (fw d r a.day).1)),kn 11 (.agg (apC (a,.slice q a.who.length m))),kn 12 (.agg #[ag a.fr,ag a.to]),kn 13 (.bool (ff (fw d r a.day).1 a.fr a.to)),kn 14 (.bool (!(ff (fw d r a.day).1 a.fr a.to))),kn 4 (.bool (!(ff (fw d r a.day).1 a.fr a.to)))] (fun _=>⟨Kd.of (aH _ _).drew,h.below (aH _ _).drew⟩) (fun _ _ _ _ z h=>⟨h.1.trans (Kd.of z),h.2.below z⟩) (by kernel_rfl) ?_ ?_
 ·rintro M φ W ⟨i,g⟩ _ F l A x;have L:=cr 0 ((i.blk _ s (aI j)).trans j) rfl;have D:=(i.blk _ u (aI k)).trans k;have N:W.cell? (ae c 8)=some (ag a.day):=cr 8 D rfl;clear j k;simp only[kn,dk,dX,aQ,aT,Act.put,aA,aK,aJ]at A;subst A;simp only[dn,Nat.reduceAdd]at x;dsimp only[kn,dk,dy,eJ,dY,Act.put];and_intros;all_goals first|exact trivial|intro J I G K f
  all_goals try (go_simp;with_reducible exact f _ _ ⟨rfl,aH _ _⟩)
  ·rw[G]at g;go_simp;refine(Bg r a.day W g E H).mono ?_;rintro C v ⟨rfl,o,p⟩;exact f _ _ ⟨rfl,i.trans p,o⟩
  ·show Oper.wp _ _ _ _ _ _;refine eN 45 _ rfl _ (by simp[Act.eval,x]) _ _ _ _ D apT rfl (by kernel_rfl) ?_;exact f _ _ ⟨rfl,aH _ _⟩
  ·go_simp;refine(uL a q m W).mono ?_;rintro C v ⟨rfl,b⟩;exact f _ _ ⟨rfl,b⟩
  ·go_simp;refine(rP _ a.fr a.to W).mono ?_;rintro C v ⟨rfl,b⟩;exact f _ _ ⟨rfl,b⟩
 ·rintro M φ W y ⟨i,g⟩;rw[y 5 (by decide) rfl]at g;simp only[kn,dk,d8,aQ,aT,Act.put,aA,aK,aJ];clear j k y;go_wp2_with fail;go_ret;exact⟨rfl,g,i⟩
end
end
section
theorem Jm (u v:Ru)(s t:Option Addr)(p r:Nat)(w:World)(ha:qX w (u,.slice s u.2.kids.length p))(H:qX w (v,.slice t v.2.kids.length r)):Calls prog 103 #[.agg #[.string ⟨u.1.toArray⟩,ag u.2.kind,ag u.2.a,ag u.2.b,.string ⟨u.2.name.toArray⟩,.slice s u.2.kids.length p],.agg #[.string ⟨v.1.toArray⟩,ag v.2.kind,ag v.2.a,ag v.2.b,.string ⟨v.2.name.toArray⟩,.slice t v.2.kids.length r]] w fun e w'=>e= .returned (.bool (qA u v))/\aq w w':=by
 obtain⟨J,L,D,F⟩:=nb w #[.string ⟨u.1.toArray⟩,ag u.2.kind,ag u.2.a,ag u.2.b,.string ⟨u.2.name.toArray⟩,.slice s u.2.kids.length p] 86;obtain⟨K,I,y,j⟩:=nb J #[.string ⟨v.1.toArray⟩,ag v.2.kind,ag v.2.a,ag v.2.b,.string ⟨v.2.name.toArray⟩,.slice t v.2.kids.length r] 86;have f:=aw D y;have i:=bt y F;obtain⟨_,_,d,E⟩:=ha;obtain⟨_,_,G,m⟩:=H;have c:=Lo d _ _ (hgt u.2+1) G u.2 v.2 s t p r K (fun k z=>aU z f.size) (fun k z=>aU z f.size) (Nat.lt_succ_self _) (E.kept fun g _ A=>f.block g A) (m.kept fun g _ A=>f.block g A);have C:Rb (qA u v=(decide (u.1=v.1)&&lX (hgt u.2+1) u.2 v.2)):=rfl;have N:=cr 0 i rfl;have O:=cr 1 i rfl;have P:=cr 2 i rfl;have Q:=cr 3 i rfl;have R:=cr 4 i rfl;have S:=cr 5 i rfl;have T:=cr 0 j rfl;have U:=cr 1 j rfl;have V:=cr 2 j rfl;have W:=cr 3 j rfl;have X:=cr 4 j rfl;have Y:=cr 5 j rfl;have B:=aE f;have n:=rJ u.1 v.1;clear E m D y F j i f;by_cases q:u.1=v.1
 ·rw[bh q]at n;have x:=aE q;clear q;go_enter func103,ntmps103;go_wp2_with fail;refine c.mono ?_;rintro e M ⟨rfl,l⟩;have f:=aw B.o l;clear c l;go_wp2_with fail;go_ret;exact⟨by rw[C.o];simp[x.o],f⟩
 ·rw[bn q]at n;have x:=aE q;clear c q;go_enter func103,ntmps103;go_wp2_with fail;go_ret;exact⟨by rw[C.o];simp[x.o],B.o⟩
section
variable {B gD:Nat} {d:Dk} {t:Tr}
theorem Jn {X Y k:Nat}{v2:Value}{j:List (Ru×Value)}(w:World)(h:dE B gD d t w)(C:InR w v2 j)(hk:k<j.length)(n1:w.heap[X]? =ah #[ab gD 0] 99)(n2:w.heap[Y]? =ah #[v2] 24):
  Calls prog 102 #[ag (k:Int),ab X 0,ab Y 0] w fun e w'=>e= .returned (.bool (ju d.rules (j.map (fun p=>p.1)) (k:Int)))/\aq w w':=by
 obtain⟨_,rv,cv,vv,kv,ss,aa,A⟩:=h;obtain⟨U,i,r⟩:=A.rules.here;have v:=cr 0 A.blk rfl;obtain⟨pr,g,rfl⟩:=i.form;obtain⟨pn,cn,rfl⟩:=C.form;obtain⟨n,T⟩:=au U.length;obtain⟨m,S⟩: ∃m,j.length=m:=⟨_,rfl⟩
 have HU:=aE C;have HR:=aE i;rw[T]at v;rw[S]at n2 hk;have ad:(0:Int)<=(k:Int):=by omega
 have af:(k:Int)<(m:Int):=by omega
 obtain⟨⟨b,vb⟩,c⟩: ∃p,j[k]? =some p:=⟨j[k]'(by omega),ay _⟩
 by_cases ai:k<n
 ·have u:((k:Int)>=(n:Int))=False:=by simp;omega
  have ac:(k:Int)<(n:Int):=(by omega);obtain⟨⟨a,va⟩,ha⟩: ∃p,U[k]? =some p:=⟨U[k]'(by omega),ay _⟩
  obtain⟨y,D,e3,G,H,I,J,L,N⟩:=i.cells k _ ha;obtain⟨Z,o4,e4,b0,b1,b2,b3,O,b5⟩:=C.cells k _ c;have ra:=i.all _ (aM ha);have rb:=C.all _ (aM c);obtain⟨p1,c1,q1⟩:=(Classical.choose_spec ra.2.2).form;obtain⟨p2,V,q2⟩:=(Classical.choose_spec rb.2.2).form;dsimp only at G H I J L N b0 b1 b2 b3 O b5 q1 q2;subst q1 q2 e3 e4
  have E:Rb (ju d.rules (j.map (fun p=>p.1)) (k:Int)= !qA a b):=by
   show _=_;have P:d.rules[k]? =some a:=(by rw[<-r,a8,ha];rfl);have h2:(j.map (fun p=>p.1))[k]? =some b:=(by rw[a8,c];rfl);have h3: ¬(d.rules.length:Int)<=(k:Int):=(by rw[<-r,bc];omega);unfold ju;rw[dj,P,h2];simp[h3]
  go_enter func102,ntmps102;go_upto_region 1 with fail;refine dl (fun _ _ W=>aq w W) [kn 5 (ag (k:Int)),kn 6 (ab gD 0),kn 7 (ab gD 0),kn 8 (ab gD 0),kn 9 (ab gD 0),kn 10 (.slice (some (ae y D)) n g),kn 11 (ag (n:Int)),kn 12 (.bool false),kn 13 (.bool false),kn 14 (ab gD 0),kn 15 (ab gD 0),kn 16 (ab gD 0),kn 17 (ab gD 0),kn 18 (.slice (some (ae y D)) n g),kn 19 (ag (k:Int)),kn 20 (ab y (D+k*6)),kn 21 (.agg #[.string ⟨a.1.toArray⟩,ag a.2.kind,ag a.2.a,ag a.2.b,.string ⟨a.2.name.toArray⟩,.slice p1 a.2.kids.length c1]),kn 22 (.slice (some (ae Z o4)) m cn),kn 23 (ag (k:Int)),kn 24 (ab Z (o4+k*6)),kn 25 (.agg #[.string ⟨b.1.toArray⟩,ag b.2.kind,ag b.2.a,ag b.2.b,.string ⟨b.2.name.toArray⟩,.slice p2 b.2.kids.length V]),kn 26 (.bool (qA a b)),kn 27 (.bool (!qA a b)),kn 28 (.bool (!qA a b)),kn 4 (.bool (!qA a b))] (fun _=>(aH _ _).drew) (fun _ _ _ _ c h=>aw h c) (by kernel_rfl) ?_ ?_
  ·rintro M φ W c _ F l s Q;have z1:=cr 0 (bt c n1) rfl;have z2:=cr 0 (bt c n2) rfl;have v:W.cell? (ae gD 0)=some (.slice (some (ae y D)) n g):=aj c v;have f:=fun(q:Addr) (x:Value) (h:w.cell? q=some x)=>aj c h;have G:=f _ _ G;have H:=f _ _ H;have I:=f _ _ I;have J:=f _ _ J;have L:=f _ _ L;have N:=f _ _ N;have b0:=f _ _ b0;have b1:=f _ _ b1;have b2:=f _ _ b2;have b3:=f _ _ b3;have O:=f _ _ O;have b5:=f _ _ b5;have cS:=Jm a b p1 p2 c1 V W (ra.below c) (rb.below c);simp only[kn,dX,aQ,aT,Act.put,aA,aK,aJ]at s;subst s;simp only[dn,Nat.reduceAdd]at Q;dsimp only[kn,dy,eJ,dY,Act.put];and_intros;all_goals first|exact trivial|intro hw T A K z
   all_goals try (go_simp;with_reducible exact z _ _ ⟨rfl,aH _ _⟩)
   go_simp;refine cS.mono ?_;rintro r' W' ⟨rfl,R⟩;exact z _ _ ⟨rfl,R⟩
  ·rintro M φ W hM c;simp only[kn,d8,aQ,aT,Act.put,aA,aK,aJ];go_wp2_with fail;go_ret;exact⟨by rw[E.o];rfl,c⟩
 ·have u:(n:Int)<=(k:Int):=by omega
  have E:Rb (ju d.rules (j.map (fun p=>p.1)) (k:Int)=true):=by
   show _=_;have P:d.rules[k]? =none:=(by rw[<-r,a8,eO (by omega)];rfl);unfold ju;rw[dj,P]
  go_enter func102,ntmps102;go_upto_region 1 with fail;refine dl (fun _ _ W=>aq w W) [kn 5 (ag (k:Int)),kn 6 (ab gD 0),kn 7 (ab gD 0),kn 8 (ab gD 0),kn 9 (ab gD 0),kn 10 (.slice pr n g),kn 11 (ag (n:Int)),kn 12 (.bool true),kn 13 (.bool true),kn 14 (undef),kn 15 (undef),kn 16 (undef),kn 17 (undef),kn 18 (undef),kn 19 (undef),kn 20 (undef),kn 21 (undef),kn 22 (undef),kn 23 (undef),kn 24 (undef),kn 25 (undef),kn 26 (undef),kn 27 (undef),kn 28 (.bool true),kn 4 (.bool true)] (fun _=>(aH _ _).drew) (fun _ _ _ _ c h=>aw h c) (by kernel_rfl) ?_ ?_
  ·rintro M φ W c _ F l s Q;have z1:=cr 0 (bt c n1) rfl;have v:W.cell? (ae gD 0)=some (.slice pr n g):=aj c v;simp only[kn,dX,aQ,aT,Act.put,aA,aK,aJ]at s;subst s;simp only[dn,Nat.reduceAdd]at Q;dsimp only[kn,dy,eJ,dY,Act.put];and_intros;all_goals first|exact trivial|intro hw T A K z
   all_goals try (go_simp;with_reducible exact z _ _ ⟨rfl,aH _ _⟩)
  ·rintro M φ W hM c;simp only[kn,d8,aQ,aT,Act.put,aA,aK,aJ];go_wp2_with fail;go_ret;exact⟨by rw[E.o];rfl,c⟩
end
end
end Go.Proofs.YtlkehieagdkgiaaGreatDoor
