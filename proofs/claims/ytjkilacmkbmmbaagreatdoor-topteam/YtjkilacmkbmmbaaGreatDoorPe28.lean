/- Texts of the proof. -/
import Derived.Test.YtjkilacmkbmmbaaGreatDoorPe27
set_option maxRecDepth 100000
set_option maxHeartbeats 8000000
namespace Go.Proofs.YtjkilacmkbmmbaaGreatDoor
open Go.Proofs.Tryz Go.RowKit Lx Vx Mx Msk
section
section
variable {B gD:Nat} {d:Dk} {t:Tr} {w w':World}
theorem xT (x:List UInt8)(w:World)(h:dE B gD d t w):Calls prog 90 #[ab gD 0,kK x] w fun r w'=>r= .returned (ag (atP5 d.rules x))/\ao w w':=by
 unfold kK;obtain⟨wA,hA,bA,nA⟩:=nb w #[.string ⟨x.toArray⟩] 9;obtain⟨_,rv,cv,vv,kv,ss,aa,hm⟩:=h.below bA;obtain⟨us,hin,hus⟩:=hm.rules.here;have c0:=Ft us rv x w.heap.size wA hin nA;rw[hus]at c0;obtain⟨pv,cr',rfl⟩:=hin.form;have z0:=cr 0 hm.blk rfl;clear hm hin hus h nA;go_enter func90,ntmps90;go_wp2_with fail;refine c0.mono ?_;rintro e w1 ⟨rfl,b1⟩;clear c0;go_wp2_with fail;go_ret;exact⟨rfl,au bA b1⟩
theorem rS {base e size n:Nat}{v:Value}{xs:List Value}(h:w.ownsRow base e size v n xs)(hn:0<n): ∃g c,v= .slice (some (ae g 0)) n c/\base<=g/\ ∀(k:Nat) (u:Value),xs[k]? =some u->w.cell? (ae g k)=some u:=by
 rcases h.2 with⟨_,h2⟩|⟨g,cap,cur,rfl,hg,hh,_,_,_,ht⟩
 ·omega
 ·refine⟨g,cap,rfl,hg,fun k u hu=> ?_⟩;rw[aV _ _ k _ _ _ hh,<-bo];rw[<-ht]at hu;exact(dA (by have:=(aE.1 hu).1;simp at this;omega)).symm.trans hu
theorem orZ {i k:Nat}{b:Bool}(hne:i≠k):(decide (i=k)||b)=b:=by simp[hne]
theorem Kv {cs:List Cd}{l:List Vx.Kp}{runs v r dd:Int}(hl:l.length<=64):(jK cs l runs v r dd).l.length<=64:=by
 unfold jK;split
 ·rename_i hh;unfold nT at hh;rw[bq,bH]at hh;have h1:=rK r dd l 0;have h2:=C0 (l:=l) hh.1 (by omega);simp;omega
 ·split
  ·simp
  ·simp[uD];omega
theorem Pi {W:World}{g g':Nat}{c c':Array Value}{T T':TypeId}(h:W.heap[g]? =ah c T)(h':W.heap[g']? =ah c' T')(hT:T≠T'):g≠g':=fun e=>by
 subst e;rw[h]at h';injection h' with hb;injection hb with _ h2 _;exact hT h2
theorem Kw {W W':World}{v:Value}{l:List Vx.Kp}(h:dM W.heap.size W' v l):Rob (fun q=>W.heap.size<=q/\q<W'.heap.size) (fun u=>dM 0 u v l) W':=fun u hu ha=>by
 obtain⟨p,c,h1,h2,h3,h4⟩:=h;refine⟨p,c,h1,h2,h3,fun hn=> ?_⟩;obtain⟨g,o,hp,hB,hr⟩:=h4 hn;refine⟨g,o,hp,df _,fun j x hx=> ?_⟩;have hc:=hr j x hx;rw[<-hc];exact dL (ha g ⟨hB,bT hc⟩ (bT hc))
theorem MR {lo hi g:Nat}{Φ:World->Prop}{W:World}{xs:Array Value}(h:Rob (fun q=>lo<=q/\q<hi) Φ W)(hg:g<lo\/hi<=g):Rob (fun q=>lo<=q/\q<hi) Φ (W.setRow g xs):=h.move (by simp) (fun q hq _=>aT _ _ _ _ (by omega)) fun _ _ h=>h
def mtT (G:Got)(p:Option Addr)(c:Nat):Value:= .tuple #[.agg (mv G.m),.agg #[.slice p G.l.length c,ag G.n],.agg #[ag G.er,ag (G.at_:Int)]]
def At (φ:Nat->Value)(k:Nat)(wX W:World)(c:Array Value)(T:TypeId):Prop:= ∃g:Nat,φ k=ab g 0/\wX.heap.size<=g/\W.heap[g]? =ah c T
theorem At.later {φ:Nat->Value}{k:Nat}{wX W W':World}{c:Array Value}{T:TypeId}(h:At φ k wX W c T)(hb:ao W W'):At φ k wX W' c T:=by
 obtain⟨g,h1,h2,h3⟩:=h;exact⟨g,h1,h2,bt hb h3⟩
theorem At.put {φ:Nat->Value}{k:Nat}{wX W:World}{c:Array Value}{T:TypeId}(h:At φ k wX W c T){s:Nat}{v:Value}(hs:s≠k):At (pR φ (some s) v) k wX W c T:=by
 obtain⟨g,h1,h2⟩:=h;exact⟨g,(dy hs).trans h1,h2⟩
theorem At.set {φ:Nat->Value}{k g:Nat}{wX W:World}{c c' x:Array Value}{T T':TypeId}(h:At φ k wX W c T)(hg:W.heap[g]? =ah c' T')(hT:T≠T'):At φ k wX (W.setRow g x) c T:=by
 obtain⟨q,h1,h2,h3⟩:=h;exact⟨q,h1,h2,(aT _ _ _ _ (Pi h3 hg hT)).trans h3⟩
theorem B6 {φ:Nat->Value}{k:Nat}{wX W:World}{c:Array Value}{T:TypeId}(hb:ao wX W):At (pR φ (some k) (ab W.heap.size 0)) k wX (W.alloc (.cells c T)) c T:=⟨_,dI,hb.size,aC _ _⟩
def Out (φ:Nat->Value)(k lo hi:Nat):Prop:= ∃g:Nat,φ k=ab g 0/\(g<lo\/hi<=g)
theorem Out.put {φ:Nat->Value}{k lo hi s:Nat}{v:Value}(h:Out φ k lo hi)(hs:s≠k):Out (pR φ (some s) v) k lo hi:=by
 obtain⟨g,h1,h2⟩:=h;exact⟨g,(dy hs).trans h1,h2⟩
def vW (wX:World)(G:Got)(φ:Nat->Value)(W:World)(b8 b9 b0:Bool):Prop:= ∃p c lo hi,φ 42=mtT G p c/\wX.heap.size<=lo/\hi<=W.heap.size/\Rob (fun q=>lo<=q/\q<hi) (fun u=>dM 0 u (.slice p G.l.length c) G.l) W/\(b8=true->Out φ 8 lo hi)/\(b9=true->Out φ 9 lo hi)/\(b0=true->Out φ 10 lo hi)
section
variable {wX:World} {G:Got} {φ:Nat->Value} {W W':World} {b8 b9 b0:Bool}
theorem vW.put (h:vW wX G φ W b8 b9 b0){s:Nat}{v:Value}(h1:s≠42)(h8:s≠8)(h9:s≠9)(h0:s≠10):vW wX G (pR φ (some s) v) W b8 b9 b0:=by
 obtain⟨p,k,lo,hi,e1,e2,e3,e4,e5,e6,e7⟩:=h;exact⟨p,k,lo,hi,(dy h1).trans e1,e2,e3,e4,fun c=>(e5 c).put h8,fun c=>(e6 c).put h9,fun c=>(e7 c).put h0⟩
theorem vW.set (h:vW wX G φ W b8 b9 b0){g:Nat}{x:Array Value}(hg: ∀lo hi,(b8=true->Out φ 8 lo hi)->(b9=true->Out φ 9 lo hi)->(b0=true->Out φ 10 lo hi)->g<lo\/hi<=g):vW wX G φ (W.setRow g x) b8 b9 b0:=by
 obtain⟨p,k,lo,hi,e1,e2,e3,e4,e5,e6,e7⟩:=h;exact⟨p,k,lo,hi,e1,e2,by simpa using e3,MR e4 (hg lo hi e5 e6 e7),e5,e6,e7⟩
theorem B7 {k lo hi g:Nat}(h:Out φ k lo hi)(e:φ k=ab g 0):g<lo\/hi<=g:=by
 obtain⟨q,h1,h2⟩:=h;rw[e]at h1;injection h1 with h1;injection h1 with h1;injection h1 with h1;rw[h1];exact h2
end
structure MtJ (wX:World)(G:Got)(M:Nat->Bool)(φ:Nat->Value)(W:World):Prop where
 bel:ao wX W
 get:M 17=true->vW wX G φ W (M 22) (M 23) (M 24)
 mov:M 18=true->φ 24=φ 42
 ext:M 20=true-> ∃p c,φ 42=mtT G p c/\φ 44= .agg #[.slice p G.l.length c,ag G.n]
 al8:M 22=true->At φ 8 wX W (bif M 25 then mv G.m else mv fun _=>false) 61
 al9:M 23=true->M 26=false->At φ 9 wX W #[af,ag 0] 93
 st9:M 26=true-> ∃p c,φ 42=mtT G p c/\At φ 9 wX W #[.slice p G.l.length c,ag G.n] 93
 al0:M 24=true->At φ 10 wX W (bif M 27 then #[ag G.er,ag (G.at_:Int)] else #[ag 0,ag 0]) 47
theorem MtJ.later {wX:World}{G:Got}{M:Nat->Bool}{φ:Nat->Value}{W W':World}(h:MtJ wX G M φ W)(hb:ao W W'):MtJ wX G M φ W':=⟨au h.bel hb,fun c=>by
 obtain⟨p,k,lo,hi,e1,e2,e3,e4,e5⟩:=h.get c;exact⟨p,k,lo,hi,e1,e2,a6 e3 hb.size,e4.below hb,e5⟩,h.mov,h.ext,fun c=>(h.al8 c).later hb,fun c c'=>(h.al9 c c').later hb,fun c=>by
 obtain⟨p,k,e1,e2⟩:=h.st9 c;exact⟨p,k,e1,e2.later hb⟩,fun c=>(h.al0 c).later hb⟩
theorem lH {M:Nat->Bool}{i k:Nat}{p:Prop}(hk:M k=false)(c:(decide (i=k)||M k)=true)(hne:i≠k):p:=by rw[orZ hne,hk]at c;cases c
theorem upM {M:Nat->Bool}{i k:Nat}{b:Bool}(c:(decide (i=k)||M k)=b)(hne:i≠k):M k=b:=by rwa[orZ hne]at c
theorem pg {M:Nat->Bool}{i k:Nat}(hne:i≠k):(decide (i=k)||M k)=M k:=orZ hne
theorem iJ {a b:Bool}(h:a=true->b=true)(hb:b=false):a=false:=by
 cases a with
 |false=>rfl
 |true=>rw[h rfl]at hb;cases hb
theorem Aj (r day:Int)(w:World)(h:dE B gD d t w)(h0:0<=r)(hr:r<d.res.length):Calls prog 128 #[ab gD 0,ag r,ag day] w fun e w'=>e= .returned (.agg (mv (gu d r day).1))/\dE B gD (gu d r day).2 t w'/\Kd gD t t w w':=by
 obtain⟨ri,rfl⟩: ∃k:Nat,r=(k:Int):=⟨r.toNat,by omega⟩
 have hz:=dU;obtain⟨wA,hA,bA,nA⟩:=nb w (mv fun _=>false) 61;have hdA:=h.below bA;have HDA:=aD hdA;have H0:=aD h;obtain⟨hok,rv,cv,vv,kv,ss,aa,hm⟩:=hdA;obtain⟨x,hx⟩: ∃x,d.res[ri]? =some x:=⟨d.res[ri]'(by omega),ax _⟩
 have c0:=xT x wA HDA.o;have z1:=cr 1 hm.blk rfl;obtain⟨ge,ce,he,_,hce⟩:=rS hm.res (by omega);have zx:=hce ri (kK x) (by rw[bg,hx];rfl);rw[he]at z1;obtain⟨n,hn⟩:=aq d.res.length;rw[hn]at z1 hr;have HOK:=aD hok;have HX:P3 (d.res.getD ri []=x):=by show _=_;simp[List.getD,hx]
 obtain⟨k,hk⟩:=aq (atP5 d.rules x);rw[hk]at c0;have HK:=aD hk;have HBA:=aD bA
 have HM:P3 (∀P:M×Dk->Prop,((k<0->P (noM,d))/\(¬k<0->P ((jK (eR d.rules) d.kept d.runs (d.vers.getD k.toNat 0) k day).m,{d with kept:=(jK (eR d.rules) d.kept d.runs (d.vers.getD k.toNat 0) k day).l,runs:=(jK (eR d.rules) d.kept d.runs (d.vers.getD k.toNat 0) k day).n})))->P (gu d ri day)):=fun P hP=>by
  unfold gu;simp only[cg,HX.o,HK.o];by_cases q:k<0
  ·rw[ay q];exact hP.1 q
  ·rw[aw q];exact hP.2 q
 have hri:(0:Int)<=(ri:Int):=by omega
 unfold kK at zx c0;clear hm he hce hn hk hx h h0 hok bA;go_enter func128,ntmps128;go_wp2_with fail;refine c0.mono ?_;rintro e w1 ⟨rfl,b1⟩;have nA1:=bt b1 nA;have HD1:=aD (HDA.o.below b1);have HB1:=aD (au HBA.o b1);clear c0 z1 zx nA b1 HDA HBA;by_cases hk0:k<0
 ·have hb2:=below_setRow HB1.o (aA _) (mv fun _=>false);have HR:=aD (aJ _ _ _ (mv fun _=>false) _ _ nA1);have HO:=aD (HM.o (fun p=>(.agg (mv fun _=>false):Value)= .agg (mv p.1)/\dE B gD p.2 t (w1.setRow w.heap.size (mv fun _=>false))/\Kd gD t t w (w1.setRow w.heap.size (mv fun _=>false))) ⟨fun _=>⟨rfl,H0.o.below hb2,Kd.of hb2⟩,fun q=>absurd hk0 (by omega)⟩);clear hb2 HM;go_wp2_with(refine az rfl 61 _ _ rfl _ _ rfl rfl _ _ nA1 (ba _) (by simp[bO]) (dH _) ?_)
  refine aU (v:= .agg (mv fun _=>false)) ?_ rfl ⟨by rw[HO.o.1],HO.o.2⟩;exact a8 rfl _ _ w.heap.size _ _ _ _ rfl HR.o bQ rfl (ba _)
 ·obtain⟨ki,rfl⟩: ∃q:Nat,k=(q:Int):=⟨k.toNat,by omega⟩
  have hkl:ki<d.vers.length:=by
   have:=nP d.rules x;rw[HK.o]at this;have:=HOK.o.vl;omega
  obtain⟨_,rv,cv,vv,kv,ss,aa,hm0⟩:=H0.o;have hm:=hm0.below HB1.o;have z4:=cr 4 hm.blk rfl;have z5:=cr 5 hm.blk rfl;have z7:=cr 7 hm.blk rfl;have z8:=cr 8 hm.blk rfl;obtain⟨pv,cvv,rfl,hvl,hvc⟩:=hm.vers.here;obtain⟨ver,hver⟩: ∃q,d.vers[ki]? =some q:=⟨d.vers[ki],ax hkl⟩
  obtain⟨gv,ov,rfl,zv⟩:=hvc ki ver hver;obtain⟨pk,ck,rfl,_,_⟩:=hm.kept.here;obtain⟨pc,cc,rfl,_,_⟩:=hm.codes.here.form;obtain⟨nv,hnv⟩:=aq d.vers.length;obtain⟨nq,hnk⟩:=aq d.kept.length;obtain⟨nc,hnc⟩:=aq ((eR d.rules).length);rw[hnv]at z5;rw[hnk]at z7;rw[hnc]at z4;have hkl':(ki:Int)<(nv:Int):=(by omega);have hk0':(0:Int)<=(ki:Int):=(by omega)
  have cG: ∀W,ao w1 W->Calls prog 159 #[.agg #[.slice pk nq ck,ag d.runs],.slice pc nc cc,ag ver,ag (ki:Int),ag day] W (yF (jK (eR d.rules) d.kept d.runs ver ki day).m (jK (eR d.rules) d.kept d.runs ver ki day).l (jK (eR d.rules) d.kept d.runs ver ki day).n (jK (eR d.rules) d.kept d.runs ver ki day).er ((jK (eR d.rules) d.kept d.runs ver ki day).at_:Int) W):=fun W hW=>by
   have h1:=(hm.kept.below hW).here;have h2:=(hm.codes.below hW).here;rw[hnk]at h1;rw[hnc]at h2;exact MO _ _ _ _ _ _ _ _ W h1 (by have:=HOK.o.kl;omega) h2
  have HVE:P3 (d.vers.getD ki 0=ver):=(by show _=_;simp[List.getD,hver]);have HMM:=aD hm0;obtain⟨G,hG⟩:=aq (jK (eR d.rules) d.kept d.runs ver ki day);rw[hG]at cG;have HG:=aD hG;have hgd:=aF hm0.blk;clear hG hm hm0 hver hvc hvl hnv hnk hnc hk0;go_upto_region 4 with fail;refine dt (MtJ w1 G) [kn 25 (ab gD 0),kn 26 (ab gD 0),kn 27 (ab gD 7),kn 28 (.agg #[.slice pk nq ck,ag d.runs]),kn 29 (ab gD 0),kn 30 (ab gD 0),kn 31 (ab gD 4),kn 32 (.slice pc nc cc),kn 33 (ab gD 0),kn 34 (ab gD 0),kn 35 (ab gD 5),kn 36 (.slice (some (ae gv ov)) nv cvv),kn 37 (ag (ki:Int)),kn 38 (ab gv (ov+ki)),kn 39 (ag ver),kn 40 (ag (ki:Int)),kn 41 (ag day),td 42,td 24,kn 43 (.agg (mv G.m)),td 44,kn 45 (.agg #[ag G.er,ag (G.at_:Int)]),td 8,td 9,td 10,nk,nk,nk] (fun _=>⟨(aG _ _).drew,nofun,nofun,nofun,nofun,nofun,nofun,nofun⟩) (fun _ _ _ _ hb h=>h.later hb) (by kernel_rfl) ?_ ?_
  ·rintro M φ W hJ hc F l hl hF;have zz:=fun(q:Addr) (x:Value) (h:w1.cell? q=some x)=>aj hJ.bel h;have z4:=zz _ _ z4;have z5:=zz _ _ z5;have z7:=zz _ _ z7;have z8:=zz _ _ z8;have zv:=zz _ _ zv;have cG:=cG W hJ.bel;have HC:=aD hc;have HJ:=aD hJ;clear hc hJ zz;simp only[kn,td,nk,dN,aQ,aW,Act.put,aB,aI,aH]at hl;subst hl;simp only[dg,Nat.reduceAdd]at hF;dsimp only[kn,td,nk,dC,en,dS,Act.put];and_intros;all_goals first|exact trivial|intro hw hn hm K hK
   all_goals try (go_simp;with_reducible exact hK _ _ ⟨rfl,aG _ _⟩)
   ·have h18:=hn 18 _ rfl (by kernel_rfl);have h20:M 20=false:=iJ (fun h=>HC.o 20 _ rfl h ⟨18,.data⟩ (by simp) rfl rfl) h18;have h26:M 26=false:=iJ (fun h=>HC.o 26 _ rfl h ⟨20,.data⟩ (by simp) rfl rfl) h20;clear hw hn;go_simp;refine cG.mono ?_;rintro r' W' ⟨v',rfl,hkr,hb'⟩;obtain⟨p,c9,hv,_⟩:=id hkr;subst hv;have hj:=HJ.o.later hb'
    have ou: ∀{k:Nat} {c:Array Value} {T:TypeId},At φ k w1 W c T->k≠42->Out (pR φ (some 42) (mtT G p c9)) k W.heap.size W'.heap.size:=fun h hk=>by
     obtain⟨g,h1,_,h3⟩:=h;exact⟨g,(dy fun e=>hk e.symm).trans h1,.inl (aF h3)⟩
    exact hK _ _ ⟨trivial,hj.bel,fun _=>⟨p,c9,W.heap.size,W'.heap.size,dI,HJ.o.bel.size,aA _,Kw hkr,fun c=>ou (HJ.o.al8 (upM c (by decide))) (by decide),fun c=>ou (HJ.o.al9 (upM c (by decide)) h26) (by decide),fun c=>ou (HJ.o.al0 (upM c (by decide))) (by decide)⟩,fun c=>lH h18 c (by decide),fun c=>lH h20 c (by decide),fun c=>by rw[pg (by decide)];exact(hj.al8 (upM c (by decide))).put (by decide),fun c c'=>(hj.al9 (upM c (by decide)) h26).put (by decide),fun c=>lH h26 c (by decide),fun c=>by rw[pg (by decide)];exact(hj.al0 (upM c (by decide))).put (by decide)⟩
   ·have h17:=hw ⟨17,.data⟩ (by simp) rfl rfl;have j:=HJ.o;clear hw hn;go_simp
    exact hK _ _ ⟨trivial,j.bel,fun c=>(j.get h17).put (by decide) (by decide) (by decide) (by decide),fun _=>dI.trans (dy (by decide)).symm,fun c=>by rw[dy (by decide),dy (by decide)];exact j.ext (upM c (by decide)),fun c=>(j.al8 (upM c (by decide))).put (by decide),fun c c'=>(j.al9 (upM c (by decide)) (upM c' (by decide))).put (by decide),fun c=>by
     obtain⟨p,k,e1,e2⟩:=j.st9 (upM c (by decide));exact⟨p,k,(dy (by decide)).trans e1,e2.put (by decide)⟩,fun c=>(j.al0 (upM c (by decide))).put (by decide)⟩
   ·obtain⟨p,k,lo,hi,e42,_⟩:=HJ.o.get (HC.o 18 _ rfl (hw ⟨18,.data⟩ (by simp) rfl rfl) ⟨17,.data⟩ (by simp) rfl rfl);rw[HJ.o.mov (hw ⟨18,.data⟩ (by simp) rfl rfl),e42]at hF;unfold mtT at hF;clear hw hn;go_simp;exact hK _ _ ⟨rfl,aG _ _⟩
   ·have h17:=HC.o 18 _ rfl (hw ⟨18,.data⟩ (by simp) rfl rfl) ⟨17,.data⟩ (by simp) rfl rfl;obtain⟨p,k,lo,hi,e42,_⟩:=HJ.o.get h17;rw[HJ.o.mov (hw ⟨18,.data⟩ (by simp) rfl rfl),e42]at hF;unfold mtT at hF;have j:=HJ.o;clear hw hn;go_simp
    exact hK _ _ ⟨trivial,j.bel,fun c=>(j.get h17).put (by decide) (by decide) (by decide) (by decide),fun c=>by rw[dy (by decide),dy (by decide)];exact j.mov (upM c (by decide)),fun _=>⟨p,k,(dy (by decide)).trans e42,dI⟩,fun c=>(j.al8 (upM c (by decide))).put (by decide),fun c c'=>(j.al9 (upM c (by decide)) (upM c' (by decide))).put (by decide),fun c=>by
     obtain⟨p,k,e1,e2⟩:=j.st9 (upM c (by decide));exact⟨p,k,(dy (by decide)).trans e1,e2.put (by decide)⟩,fun c=>(j.al0 (upM c (by decide))).put (by decide)⟩
   ·obtain⟨p,k,lo,hi,e42,_⟩:=HJ.o.get (HC.o 18 _ rfl (hw ⟨18,.data⟩ (by simp) rfl rfl) ⟨17,.data⟩ (by simp) rfl rfl);rw[HJ.o.mov (hw ⟨18,.data⟩ (by simp) rfl rfl),e42]at hF;unfold mtT at hF;clear hw hn;go_simp;exact hK _ _ ⟨rfl,aG _ _⟩
   ·have hd:=hn 25 _ rfl (by kernel_rfl);have j:=HJ.o;have hb:=am W (.cells (mv fun _=>false) 61);clear hw hn;go_simp
    exact hK _ _ ⟨trivial,au j.bel hb,fun c=>by
     obtain⟨p,k,lo,hi,e1,e2,e3,e4,e5,e6,e7⟩:=j.get (upM c (by decide));exact⟨p,k,lo,hi,(dy (by decide)).trans e1,e2,a6 e3 hb.size,e4.below hb,fun _=>⟨W.heap.size,dI,.inr e3⟩,fun c=>(e6 (upM c (by decide))).put (by decide),fun c=>(e7 (upM c (by decide))).put (by decide)⟩,fun c=>by rw[dy (by decide),dy (by decide)];exact j.mov (upM c (by decide)),fun c=>by rw[dy (by decide),dy (by decide)];exact j.ext (upM c (by decide)),fun _=>by rw[pg (by decide),hd];exact B6 j.bel,fun c c'=>((j.al9 (upM c (by decide)) (upM c' (by decide))).later hb).put (by decide),fun c=>by
     obtain⟨p,k,e1,e2⟩:=j.st9 (upM c (by decide));exact⟨p,k,(dy (by decide)).trans e1,(e2.later hb).put (by decide)⟩,fun c=>by rw[pg (by decide)];exact((j.al0 (upM c (by decide))).later hb).put (by decide)⟩
   ·have hd:=hn 26 _ rfl (by kernel_rfl);have j:=HJ.o;have hb:=am W (.cells #[af,ag 0] 93);clear hw hn;go_simp
    exact hK _ _ ⟨trivial,au j.bel hb,fun c=>by
     obtain⟨p,k,lo,hi,e1,e2,e3,e4,e5,e6,e7⟩:=j.get (upM c (by decide));exact⟨p,k,lo,hi,(dy (by decide)).trans e1,e2,a6 e3 hb.size,e4.below hb,fun c=>(e5 (upM c (by decide))).put (by decide),fun _=>⟨W.heap.size,dI,.inr e3⟩,fun c=>(e7 (upM c (by decide))).put (by decide)⟩,fun c=>by rw[dy (by decide),dy (by decide)];exact j.mov (upM c (by decide)),fun c=>by rw[dy (by decide),dy (by decide)];exact j.ext (upM c (by decide)),fun c=>by rw[pg (by decide)];exact((j.al8 (upM c (by decide))).later hb).put (by decide),fun _ _=>B6 j.bel,fun c=>lH hd c (by decide),fun c=>by rw[pg (by decide)];exact((j.al0 (upM c (by decide))).later hb).put (by decide)⟩
   ·have hd:=hn 27 _ rfl (by kernel_rfl);have j:=HJ.o;have hb:=am W (.cells #[ag 0,ag 0] 47);clear hw hn;go_simp
    exact hK _ _ ⟨trivial,au j.bel hb,fun c=>by
     obtain⟨p,k,lo,hi,e1,e2,e3,e4,e5,e6,e7⟩:=j.get (upM c (by decide));exact⟨p,k,lo,hi,(dy (by decide)).trans e1,e2,a6 e3 hb.size,e4.below hb,fun c=>(e5 (upM c (by decide))).put (by decide),fun c=>(e6 (upM c (by decide))).put (by decide),fun _=>⟨W.heap.size,dI,.inr e3⟩⟩,fun c=>by rw[dy (by decide),dy (by decide)];exact j.mov (upM c (by decide)),fun c=>by rw[dy (by decide),dy (by decide)];exact j.ext (upM c (by decide)),fun c=>by rw[pg (by decide)];exact((j.al8 (upM c (by decide))).later hb).put (by decide),fun c c'=>((j.al9 (upM c (by decide)) (upM c' (by decide))).later hb).put (by decide),fun c=>by
     obtain⟨p,k,e1,e2⟩:=j.st9 (upM c (by decide));exact⟨p,k,(dy (by decide)).trans e1,(e2.later hb).put (by decide)⟩,fun _=>by rw[pg (by decide),hd];exact B6 j.bel⟩
   ·have hA:=hw ⟨22,.data⟩ (by simp) rfl rfl;have j:=HJ.o;obtain⟨g,e,hge,nW⟩:=j.al8 hA;rw[hm]at nW;rw[e]at hF;show Oper.wp _ _ _ _ _ _;refine lL (ops:= #[]) rfl (az rfl 61 _ _ rfl _ (mv G.m) (by simp[Act.eval,hF]) (by simp[Act.eval,hF]) _ _ nW (ba _) (by simp[bO]) (dH _) ?_)
    exact⟨rfl,hK undef _ ⟨trivial,below_setRow j.bel hge _,fun c=>(j.get (upM c (by decide))).set fun lo hi o8 o9 o0=>B7 (o8 hA) e,fun c=>j.mov (upM c (by decide)),fun c=>j.ext (upM c (by decide)),fun _=>⟨g,e,hge,aJ _ _ _ _ _ _ nW⟩,fun c c'=>(j.al9 (upM c (by decide)) (upM c' (by decide))).set nW (by decide),fun c=>by
     obtain⟨p,k,e1,e2⟩:=j.st9 (upM c (by decide));exact⟨p,k,e1,e2.set nW (by decide)⟩,fun c=>by rw[pg (by decide)];exact(j.al0 (upM c (by decide))).set nW (by decide)⟩⟩
   ·have hA:=hw ⟨23,.data⟩ (by simp) rfl rfl;have j:=HJ.o;obtain⟨g,e,hge,nW⟩:=j.al9 hA hm;obtain⟨p,k,e42,e44⟩:=j.ext (hw ⟨20,.data⟩ (by simp) rfl rfl);rw[e44]at hF;rw[e]at hF;show Oper.wp _ _ _ _ _ _;refine lL (ops:= #[]) rfl (az rfl 93 _ _ rfl _ #[.slice p G.l.length k,ag G.n] (by simp[Act.eval,hF]) (by simp[Act.eval,hF]) _ _ nW (by kernel_rfl) rfl (by simp[Value.oneCell']) ?_);exact⟨rfl,hK undef _ ⟨trivial,below_setRow j.bel hge _,fun c=>(j.get (upM c (by decide))).set fun lo hi o8 o9 o0=>B7 (o9 hA) e,fun c=>j.mov (upM c (by decide)),fun c=>j.ext (upM c (by decide)),fun c=>by rw[pg (by decide)];exact(j.al8 (upM c (by decide))).set nW (by decide),fun _ c=>by simp at c,fun _=>⟨p,k,e42,g,e,hge,aJ _ _ _ _ _ _ nW⟩,fun c=>by rw[pg (by decide)];exact(j.al0 (upM c (by decide))).set nW (by decide)⟩⟩
   ·have hA:=hw ⟨24,.data⟩ (by simp) rfl rfl;have j:=HJ.o;obtain⟨g,e,hge,nW⟩:=j.al0 hA;rw[hm]at nW;rw[e]at hF;show Oper.wp _ _ _ _ _ _;refine lL (ops:= #[]) rfl (az rfl 47 _ _ rfl _ #[ag G.er,ag (G.at_:Int)] (by simp[Act.eval,hF]) (by simp[Act.eval,hF]) _ _ nW (by kernel_rfl) rfl (by simp[Value.oneCell']) ?_)
    exact⟨rfl,hK undef _ ⟨trivial,below_setRow j.bel hge _,fun c=>(j.get (upM c (by decide))).set fun lo hi o8 o9 o0=>B7 (o0 hA) e,fun c=>j.mov (upM c (by decide)),fun c=>j.ext (upM c (by decide)),fun c=>by rw[pg (by decide)];exact(j.al8 (upM c (by decide))).set nW (by decide),fun c c'=>(j.al9 (upM c (by decide)) (upM c' (by decide))).set nW (by decide),fun c=>by
     obtain⟨p,k,e1,e2⟩:=j.st9 (upM c (by decide));exact⟨p,k,e1,e2.set nW (by decide)⟩,fun _=>⟨g,e,hge,aJ _ _ _ _ _ _ nW⟩⟩⟩
  ·rintro M φ W2 hM hJ;obtain⟨pq,cq,lo,hi,e42,hlo,hhi,hrob,_,o9,_⟩:=hJ.get (hM 17 (by decide) rfl);obtain⟨g8,e8,l8,k8⟩:=hJ.al8 (hM 22 (by decide) rfl);rw[hM 25 (by decide) rfl]at k8;obtain⟨p',c',e42',g9,e9,l9,k9⟩:=hJ.st9 (hM 26 (by decide) rfl);obtain⟨g10,e10,l10,k10⟩:=hJ.al0 (hM 24 (by decide) rfl)
   obtain⟨rfl,rfl⟩:pq=p'/\cq=c':=by
    rw[e42]at e42';simp only[mtT,Value.tuple.injEq,Value.agg.injEq,Array.mk.injEq,List.cons.injEq,Value.slice.injEq,and_true,true_and]at e42';exact e42'
   have hbW:=hJ.bel;simp only[kn,td,nk,dP,aQ,aW,Act.put,aB,aI,aH];rw[e42,hJ.mov (hM 18 (by decide) rfl),e42,e8,e9,e10];generalize φ 44=x44;have hwW:=au HB1.o hbW;have nA2:=bt hbW nA1;have blk2:=bt hwW HMM.o.blk;have hlw:w.heap.size<w1.heap.size:=aF nA1
   have th:W2.there gD 7 2:=fun j hj=>by
    refine⟨?_,bl _ _ _ _ _ blk2⟩;match j,hj with
    |0,_=>exact Option.isSome_iff_exists.2 ⟨_,cr 7 blk2 rfl⟩
    |1,_=>exact Option.isSome_iff_exists.2 ⟨_,cr 8 blk2 rfl⟩
   have hb3:(W2.setCells gD 7 [.slice pq G.l.length cq,ag G.n]).heap[gD]? =ah #[rv,t.ev,t.sv,t.av,.slice pc (eR d.rules).length cc,.slice (some (ae gv ov)) d.vers.length cvv,ag d.given,.slice pq G.l.length cq,ag G.n] 95:=aX _ gD 8 _ _ _ (aX W2 gD 7 _ _ _ blk2);have ho: ∀q,q≠gD->(W2.setCells gD 7 [.slice pq G.l.length cq,ag G.n]).heap[q]? =W2.heap[q]? :=fun q hq=>gd gD _ _ W2 q hq;have hs3:(W2.setCells gD 7 [.slice pq G.l.length cq,ag G.n]).heap.size=W2.heap.size:=(by simp[World.setCells]);have ho3:(W2.setCells gD 7 [.slice pq G.l.length cq,ag G.n]).os=W2.os/\(W2.setCells gD 7 [.slice pq G.l.length cq,ag G.n]).tape=W2.tape/\(W2.setCells gD 7 [.slice pq G.l.length cq,ag G.n]).output=W2.output:=⟨rfl,rfl,rfl⟩
   have k83:=(ho g8 (by omega)).trans k8;have nA3:=(ho w.heap.size (by omega)).trans nA2;generalize hw3:W2.setCells gD 7 [.slice pq G.l.length cq,ag G.n]=W3 at*;have HTH:=aD th;have HR:=aD (aJ _ _ _ (mv G.m) _ _ nA3)
   have HO:P3 (dE B gD {d with kept:=G.l,runs:=G.n} t (W3.setRow w.heap.size (mv G.m))/\Kd gD t t w (W3.setRow w.heap.size (mv G.m))):=by
    have hk: ∀q,q<w.heap.size->q≠gD->(W3.setRow w.heap.size (mv G.m)).heap[q]? =w.heap[q]? :=fun q hl hq=>((aT _ _ _ _ (by omega)).trans (ho q hq)).trans (hwW.block q hl);have hsz:w.heap.size<=(W3.setRow w.heap.size (mv G.m)).heap.size:=(by simp;rw[hs3];exact hwW.size);have mvR: ∀{Φ:World->Prop},Rob (Fx gD t) Φ w->Rob (Fx gD t) Φ (W3.setRow w.heap.size (mv G.m)):=fun hR=>hR.move hsz (fun q hq hl=>hk q hl hq.1.1) fun _ _ h=>h;have ok:=HOK.o;refine⟨⟨⟨ok.flt,ok.vl,?_,ok.rl,ok.sl,ok.al,ok.gv,ok.nm,ok.sv,ok.ap⟩,rv,_,_,.slice pq G.l.length cq,ss,aa,HMM.o.put hsz hk ((aT _ _ _ _ (by omega)).trans hb3) rfl rfl rfl (mvR HMM.o.rules) (mvR HMM.o.codes) (mvR HMM.o.vers) ?_⟩,⟨?_,?_,?_,hsz,fun q hq hl=>hk q hl hq.1,fun _ _ h=>h,rfl⟩⟩
    ·rw[<-HG.o];exact Kv ok.kl
    ·refine hrob.move (by simp;rw[hs3];exact aA _) (fun q hq _=> ?_) (fun q _ hq=>H0.o.fx (.inr (by omega)));exact(aT _ _ _ _ (by omega)).trans (ho q (by omega))
    ·exact ho3.1.trans hwW.os
    ·exact ho3.2.1.trans hwW.tape
    ·exact ho3.2.2.trans hwW.output
   have HP:=aD (HM.o (fun p=>(.agg (mv G.m):Value)= .agg (mv p.1)/\dE B gD p.2 t (W3.setRow w.heap.size (mv G.m))/\Kd gD t t w (W3.setRow w.heap.size (mv G.m))) ⟨fun q=>absurd q (by omega),fun _=>by
    have e:jK (eR d.rules) d.kept d.runs (d.vers.getD (ki:Int).toNat 0) ki day=G:=(by rw[cg,HVE.o];exact HG.o);rw[e];exact⟨rfl,HO.o⟩⟩)
   clear HO HM hJ hM hrob th hb3 ho hs3 ho3 blk2 hwW hbW nA2 e8 e9 e10 e42 e42' l8 l9 l10 k8 k10 o9 hlo hhi z4 z5 z7 z8 zv cG;go_wp2_with(first|(refine aR rfl 93 _ rfl _ rfl _ _ _ _ k9 zE rfl (by kernel_rfl) ?_;clear k9)|(refine wpList_store_mid rfl 93 _ _ rfl gD 7 #[.slice pq G.l.length cq,ag G.n] rfl rfl ?th (by kernel_rfl) (by simp[Value.oneCell']) ?_;(case th=>exact HTH.o);rw[hw3])|(refine aR rfl 61 _ rfl _ rfl _ _ _ _ k83 bQ rfl (ba _) ?_)|(refine az rfl 61 _ _ rfl _ _ rfl rfl _ _ nA3 (ba _) (by simp[bO]) (dH _) ?_))
   refine aU (v:= .agg (mv G.m)) ?_ rfl ⟨by rw[HP.o.1],HP.o.2⟩;exact a8 rfl _ _ w.heap.size _ _ _ _ rfl HR.o bQ rfl (ba _)
end
end
theorem ik {ops:Array Oper}{rest:List Oper}{o:Oper}{a:Act}{Q:Exit->Act->World->Prop}{w:World}(hgd:o.guard=none)(s x:Operand)(ty T:TypeId){z:Value}{size bytes:Nat}(ho:o.op= .call {callee:= .builtin .append,args:= #[s,x],argTypes:= #[ty,ty]})
  (hty:prog.underlying ty=some (.slice T)) (hin:(prog.info? T).map (fun i=>(i.zero,i.size,i.bytes))=some (some z,size,bytes)) (hz:z.cells.size=size) (hsz:0<size) (hby:bytes<=1000)
  {base n:Nat} {v:Value} {xs:List Value} (hs:a.eval s=v) (hown:w.ownsRow base T size v n xs) {g c:Nat} {cells:Array Value} (hx:a.eval x= .slice (some (ae g 0)) 1 c) (hg:w.heap[g]? =ah cells T) (hc:cells.size=size) (h1:cells.all (·.oneCell')=true) (hn:n<=100000) (hbase:base<=w.heap.size)
  (h: ∀v' w',w'.ownsRow base T size v' (n+1) (xs++cells.toList)->w.grownBy w' v.ownBlock->(v'.ownBlock=v.ownBlock\/v'.ownBlock=some w.heap.size)->(∃g' c',v'= .slice (some (ae g' 0)) (n+1) c')->wpList prog ops Q rest (a.put o.dst v') w'):wpList prog ops Q (o::rest) a w:=by
 obtain⟨i,hi,hz0,hz1,hz2⟩:=pL hin;refine wpList_append_own_at w hgd s x ty ho base T i z size bytes hty hi hz0 hz1 hz2 hz hsz v n xs hs hown ⟨g,0,none⟩ 1 c cells.toList hx (by rw[bP,hc,Nat.one_mul]) (fun j u hu=> ?_) (fun u hu=> ?_) (by unfold maxLen;omega) (a6 (Nat.mul_le_mul (by omega:n+1<=100001) hby) (by decide)) hbase fun v' w' h2 h3 _ h5=>h v' w' h2 h3 h5 ?_
 ·rw[show(⟨g,0,none⟩:Addr).add j=⟨g,j,none⟩ by simp[Addr.add];exact fun h=>h.symm,aV _ _ _ _ _ _ hg,<-bo];exact hu
 ·exact(Array.all_eq_true'.1 h1) u (Array.mem_toList_iff.1 hu)
 ·rcases h2.2 with⟨_,q⟩|⟨g',cap,_,q,_⟩
  ·omega
  ·exact⟨g',cap,q⟩
theorem oj {α:Type}{m:Nat}{f:α->Array Value}(hf: ∀p,(f p).size=m): ∀{l:List α} {j:Nat} {p:α},l[j]? =some p-> ∀k,k<m->(l.flatMap fun p=>(f p).toList)[j*m+k]? =(f p)[k]?
 |[],j,p,h,_,_=>by simp at h
 |x::l,0,p,h,k,hk=>by
  have:x=p:=(by simpa using h);subst this;rw[List.flatMap_cons,Nat.zero_mul,bK,d6 (by rw[bP,hf];exact hk),bo]
 |x::l,j+1,p,h,k,hk=>by
  rw[List.flatMap_cons,dG (by rw[bP,hf,Nat.add_mul];omega),bP,hf];have:=oj hf (l:=l) (j:=j) (p:=p) (by simpa using h) k hk;rw[show(j+1)*m+k-m=j*m+k by rw[Nat.add_mul];omega];exact this
theorem lI {α:Type}{m base e n:Nat}{f:α->Array Value}{w:World}{v:Value}{l:List α}(hf: ∀p,(f p).size=m)(h:w.ownsRow base e m v n (l.flatMap fun p=>(f p).toList))(hn:n=l.length){j:Nat}{p:α}(hj:l[j]? =some p): ∃g c,v= .slice (some (ae g 0)) n c/\base<=g/\w.rangeAt g (j*m) (f p).toList:=by
 obtain⟨g,c,hv,hb,hc⟩:=rS h (by have:=(aE.1 hj).1;omega);refine⟨g,c,hv,hb,fun k u hu=>hc _ u ?_⟩;rw[oj hf hj k (by have:=(aE.1 hu).1;rw[bP,hf]at this;exact this),<-bo];exact hu
theorem nbs (w:World)(z c:Array Value)(T:TypeId): ∃wZ W,w.alloc (.cells z T)=wZ/\wZ.heap[w.heap.size]? =ah z T/\wZ.setRow w.heap.size c=W/\ao w W/\W.heap[w.heap.size]? =ah c T:=by
 obtain⟨wZ,h1,h2,h3⟩:=nb w z T;exact⟨wZ,_,h1,h3,rfl,below_setRow h2 (aA _) c,aJ _ _ _ c _ _ h3⟩
def apZ:Array Value:= #[ag 0,ag 0,ag 0,ag 0,ag 0,ag 0,ag 0,ag 0,ag 0,ag 0,af]
theorem mC (a:Ap)(p:Option Addr)(n c:Nat):(apC (a,.slice p n c)).all (·.oneCell')=true:=by simp[apC,Value.oneCell']
theorem Pj:(prog.info? 143).map (fun i=>(i.zero,i.size,i.bytes))=some (some (.agg #[ag 0,ag 0]),2,16):=by kernel_rfl
theorem B8 (p:Ap×Value):(apC p).size=11:=rfl
theorem vX (p:Sv×Value):(svC p).size=4:=rfl
def tkB (r day but:Int)(a:Ap)(i:Nat):Bool:=(((i:Int) !=but)&&((a.st !=3)&&((a.day==day)&&decide (r∈a.who))))
theorem Fu (r day but:Int){l:List Ap}{j:Nat}{a:Ap}(h:l[j]? =some a):kC r day but (l.drop j) j=if tkB r day but a j=true then(a.fr,a.to)::kC r day but (l.drop (j+1)) (j+1) else kC r day but (l.drop (j+1)) (j+1):=by
 obtain⟨h1,h2⟩:=aE.1 h;rw[bx h1,h2];have e:(tkB r day but a j=true)=((j:Int)≠but/\a.st≠3/\a.day=day/\r∈a.who):=by simp[tkB]
 simp only[kC,e]
section
section
variable {B gD:Nat} {d:Dk} {t:Tr} {w w':World}
theorem DkM.ap (hm: ∃rv cv vv kv ss aa,DkM B gD d t rv cv vv kv ss aa w){j:Nat}(hj:j<d.aps.length): ∃(a:Ap) (p:Option Addr) (c g ca:Nat),d.aps[j]? =some a/\t.av= .slice (some (ae g 0)) d.aps.length ca/\B<=g/\w.rangeAt g (j*11) (apC (a,.slice p a.who.length c)).toList/\Rob (Fx gD t) (fun u=>dQ u (.slice p a.who.length c) a.who) w:=by
 obtain⟨rv,cv,vv,kv,ss,aa,hm⟩:=hm;have hl:aa.length=d.aps.length:=by rw[<-hm.ape,aZ]
 obtain⟨⟨a,v⟩,hp⟩: ∃p,aa[j]? =some p:=⟨aa[j]'(by omega),ax _⟩
 have ha:=hm.apr _ (aM hp);obtain⟨p,c,hv,_,_⟩:=ha.here;dsimp only at hv ha;subst hv;obtain⟨g,ca,e1,e2,e3⟩:=lI B8 hm.aps rfl hp;refine⟨a,p,c,g,ca,by rw[<-hm.ape,bg,hp];rfl,by rw[e1,hl],e2,e3,ha⟩
theorem B9 (r day but:Int)(w:World)(h:dE B gD d t w)(h0:0<=r)(hr:r<d.res.length):Calls prog 99 #[ab gD 0,ag r,ag day,ag but] w fun e w'=>e= .returned (.agg (mv (i8 d r day but).1))/\dE B gD (i8 d r day but).2 t w'/\Kd gD t t w w':=by
 have hz:=dU;obtain⟨wA,hA,bA,nA⟩:=nb w (mv fun _=>false) 61;have hsA:wA.heap.size=w.heap.size+1:=by rw[<-hA];simp
 have hdA:=h.opened (aA _) hsA bA;have HDA:=aD hdA;obtain⟨hok,hdm⟩:=hdA;have HDM:=aD hdm;obtain⟨rv,cv,vv,kv,ss,aa,hm⟩:=hdm;have hla:aa.length=d.aps.length:=by rw[<-hm.ape,aZ]
 obtain⟨n,hn⟩:=aq d.aps.length;have HN:=aD hn;obtain⟨pa,ca,hav⟩:=bU hm.aps;rw[hla,hn]at hav;have z3:=cr 3 hm.blk rfl;have z3':wA.cell? (ae gD 3)=some t.av:=z3;have hav':t.av= .slice pa n ca:=hav;rw[hav']at z3';have hn30:n<=30:=by rw[<-hn];exact hok.al
 have HAV:=aD hav';have H0:=aD h;have HBA:=aD bA;have HR0:=aD h0;have HR1:=aD hr;have hwA:w.heap.size<=wA.heap.size:=by omega
 clear h hm hla hn z3 hav hav' hok h0 hr bA hsA;go_enter func99,ntmps99;go_wp2_with fail;clear z3' hA;go_loopw [9,10,11,18] (fun v _ _ q wr=> ∃(j:Nat) (l:List (Int×Int)),q=ag (j:Int)/\j<=n/\ao wA wr/\wr.ownsRow wA.heap.size 143 2 v l.length (iG l)/\l.length<=j/\kC r day but d.aps 0=l++kC r day but (d.aps.drop j) j) (fun _ _ _ q _=>n-(intOf q).toNat);case atStart=>exact⟨0,[],rfl,by omega,aG _ _,bV _ _ _ _,aA _,rfl⟩
 case round=>
  obtain⟨j,l,rfl,hj,hbr,hown,hlj,hX⟩:=hrel;have hj0:(0:Int)<=(j:Int):=(by omega);by_cases hjn:j<n
  ·have hjn':(j:Int)<(n:Int):=(by omega);obtain⟨a,pw,cw,ga,ca',ha,hva,_,hrg,hrob⟩:=DkM.ap HDM.o (j:=j) (by rw[HN.o];exact hjn);have e0:Value.slice pa n ca= .slice (some (ae ga 0)) n ca':=(by rw[<-HAV.o,<-HN.o];exact hva);injection e0 with e1 e3 e2;subst e1 e2;clear e3 hva;rw[Fu r day but ha]at hX;have hrg2:=it hrg hbr;have hrow:=(hrob.below hbr).here;obtain⟨wZ,wB,hZ,nZ,hB,bB,nB⟩:=nbs wr apZ (apC (a,.slice pw a.who.length cw)) 122;unfold apZ at hZ nZ;have y0:wB.cell? (ae wr.heap.size 0)=some (ag a.st):=cr 0 nB rfl;have y8:wB.cell? (ae wr.heap.size 8)=some (ag a.day):=cr 8 nB rfl;have y10:wB.cell? (ae wr.heap.size 10)=some (.slice pw a.who.length cw):=cr 10 nB rfl;have cC:=jo a.who _ r wB (hrow.below bB);have hbB:=au hbr bB;have hownB:=bp hown fun b hq=>bB.block b (hown.lt b hq).2;obtain⟨b1,hb1⟩:=aq ((j:Int) !=but);obtain⟨b2,hb2⟩:=aq (a.st !=3);obtain⟨b3,hb3⟩:=aq (a.day==day);obtain⟨b4,hb4⟩:=aq (decide (r∈a.who));have hT:tkB r day but a j=(b1&&(b2&&(b3&&b4))):=(by unfold tkB;rw[hb1,hb2,hb3,hb4]);rw[hT]at hX;rw[hb4]at cC;obtain⟨fr,hfr⟩:=aq a.fr;obtain⟨to,hto⟩:=aq a.to;have HX:=aD hX;have cT:=fun W=>tO a pw cw W;rw[hfr,hto]at HX cT;have HB:=aD hbB;have HOW:=aD hownB;clear hX hT hb4 hrg hrow hrob hown hbr hownB hbB ha hfr hto;cases b1 with
   |false=>
    clear cC cT hb2 hb3;go_wp2_with(first|(refine wpList_load_mid rfl 122 _ rfl ga (j*11) rfl (apC (a,.slice pw a.who.length cw)).toList _ hrg2 apT rfl (by kernel_rfl) ?_)|(refine az rfl 122 _ _ rfl _ _ rfl rfl _ _ nZ (by kernel_rfl) rfl (mC _ _ _ _) ?_;rw[hB]))
    go_roundw;case rel=>exact⟨j+1,l,by go_num,by omega,HB.o,HOW.o,by omega,HX.o⟩
    case measure=>simp[intOf];omega
   |true=>
    cases b2 with
    |false=>
     clear cC cT hb3;go_wp2_with(first|(refine wpList_load_mid rfl 122 _ rfl ga (j*11) rfl (apC (a,.slice pw a.who.length cw)).toList _ hrg2 apT rfl (by kernel_rfl) ?_)|(refine az rfl 122 _ _ rfl _ _ rfl rfl _ _ nZ (by kernel_rfl) rfl (mC _ _ _ _) ?_;rw[hB]))
     go_roundw;case rel=>exact⟨j+1,l,by go_num,by omega,HB.o,HOW.o,by omega,HX.o⟩
     case measure=>simp[intOf];omega
    |true=>
     cases b3 with
     |false=>
      clear cC cT;go_wp2_with(first|(refine wpList_load_mid rfl 122 _ rfl ga (j*11) rfl (apC (a,.slice pw a.who.length cw)).toList _ hrg2 apT rfl (by kernel_rfl) ?_)|(refine az rfl 122 _ _ rfl _ _ rfl rfl _ _ nZ (by kernel_rfl) rfl (mC _ _ _ _) ?_;rw[hB]))
      go_roundw;case rel=>exact⟨j+1,l,by go_num,by omega,HB.o,HOW.o,by omega,HX.o⟩
      case measure=>simp[intOf];omega
     |true=>
      go_wp2_with(first|(refine wpList_load_mid rfl 122 _ rfl ga (j*11) rfl (apC (a,.slice pw a.who.length cw)).toList _ hrg2 apT rfl (by kernel_rfl) ?_)|(refine az rfl 122 _ _ rfl _ _ rfl rfl _ _ nZ (by kernel_rfl) rfl (mC _ _ _ _) ?_;rw[hB]))
      refine cC.mono ?_;rintro e w1 ⟨rfl,b1⟩;have hb1w:=au HB.o b1;have hown1:=bp HOW.o fun b hq=>b1.block b (HOW.o.lt b hq).2;have nB1:=bt b1 nB;clear cC y0 y8 y10 nB hrg2 b1 HB HOW hb2 hb3;cases b4 with
      |false=>
       have HB:=aD hb1w;have HOW:=aD hown1;clear cT hb1w hown1 nB1;go_wp2_with fail;go_roundw;case rel=>exact⟨j+1,l,by go_num,by omega,HB.o,HOW.o,by omega,HX.o⟩
       case measure=>simp[intOf];omega
      |true=>
       have cT1:=cT w1;clear cT;go_wp2_with(refine aR rfl 122 _ rfl _ rfl _ _ _ _ nB1 apT rfl (by kernel_rfl) ?_)
       refine cT1.mono ?_;rintro e w2 ⟨rfl,b2⟩;have hb2w:=au hb1w b2;have hown2:=bp hown1 fun b hq=>b2.block b (hown1.lt b hq).2;obtain⟨wC,hC,bC,nC⟩:=nb w2 #[ag fr,ag to] 143;have hown3:=bp hown2 fun b hq=>bC.block b (hown2.lt b hq).2;have hb3w:=au hb2w bC;clear cT1 hb1w hown1 nB1 hown2 hb2w b2 bC;go_wp2_with(at_builtin;refine ik rfl _ _ 144 143 rfl zK Pj rfl (by decide) (by decide) rfl hown3 rfl nC rfl (by simp[Value.oneCell']) (by omega) hb3w.size ?_)
       rintro v' w4 hown4 hgr _ g4 c4 rfl;have hb4:=hb3w.grown hgr hb3w.size (fun k hk=>(hown3.lt k hk).1)
       have HOW:P3 (w4.ownsRow wA.heap.size 143 2 (.slice (some (ae g4 0)) (l.length+1) c4) (l++[(fr,to)]).length (iG (l++[(fr,to)]))):=by
        show World.ownsRow _ _ _ _ _ _ _;rw[tG,aL];exact hown4
       clear hown3 hown4 hgr hb3w hC nC;go_wp2_with fail;go_roundw;case rel=>exact⟨j+1,l++[(fr,to)],by go_num,by omega,hb4,HOW.o,by simp;omega,by rw[HX.o];simp⟩
       case measure=>simp[intOf];omega
  ·have hjn': ¬(j:Int)<(n:Int):=(by omega)
   have hX2:kC r day but d.aps 0=l:=by
    rw[hX,dc (by have:=HN.o;omega)];simp[kC]
   have HX:=aD hX2;have hdr:=HDA.o.below hbr;have cM:=Aj r day wr hdr HR0.o HR1.o;have HOW:=aD hown;have HBR:=aD hbr;have HDR:=aD hdr;have nAr:=bt hbr nA;obtain⟨pl,cl,hvl⟩:=bU hown;subst hvl;clear hX hX2 hown hbr hdr nA hlj;go_wp2_with fail;refine cM.mono ?_;rintro e w1 ⟨rfl,hd1,hk1⟩
   have hown1:w1.ownsRow wA.heap.size 143 2 (.slice pl l.length cl) l.length (iG l):=bp HOW.o fun b hq=>by
    have hlt:=HOW.o.lt b hq;exact hk1.blk b (HDA.o.fx (.inr hlt.1)).1 hlt.2
   have cO:=DF _ l w1 (gU.of_own hown1).row;have nA1:=Kd.at (t:=t) (t':=t) H0.o (aA _) ⟨hk1.os,hk1.tape,hk1.output,hk1.size,hk1.blk,hk1.gx,rfl⟩ nAr;have HK1:=aD hk1;have HD1:=aD hd1;obtain⟨M0,hM0⟩:=aq ((gu d r day).1);rw[hM0];have HM0:=aD hM0;clear cM hown1 hk1 hd1 hM0 nAr;go_wp2_with fail;refine cO.mono ?_;rintro e w2 ⟨rfl,b2⟩;have cD:=pT M0 (inl l) w2;have nA2:=bt b2 nA1;clear cO nA1;go_wp2_with fail;refine cD.mono ?_;rintro e w3 ⟨rfl,b3⟩;have b23:=au b2 b3;have nA3:=bt b3 nA2;have hk: ∀k,k<w3.heap.size->k≠w.heap.size->(w3.setRow w.heap.size (mv fun i=>(M0 i&& !inl l i)&&decide (i<1440))).heap[k]? =w3.heap[k]? :=fun k _ hne=>aT _ _ _ _ hne
   have HO:P3 (dE B gD (gu d r day).2 t (w3.setRow w.heap.size (mv fun i=>(M0 i&& !inl l i)&&decide (i<1440)))/\Kd gD t t w (w3.setRow w.heap.size (mv fun i=>(M0 i&& !inl l i)&&decide (i<1440)))):=by
    refine⟨(HD1.o.below b23).closed (by simp) hk,?_⟩;have k1:=Kd.opened (au HBA.o HBR.o) (HK1.o.trans (Kd.of b23));exact k1.closed (aA _) rfl rfl rfl (by simp) hk
   have HR:=aD (aJ _ _ _ (mv fun i=>(M0 i&& !inl l i)&&decide (i<1440)) _ _ nA3)
   have HF:P3 (i8 d r day but=(fun i=>(M0 i&& !inl l i)&&decide (i<1440),(gu d r day).2)):=by
    show _=_;unfold i8 nh;rw[HX.o,HM0.o]
   clear cD hk b2 b3 b23 nA2;go_wp2_with(refine az rfl 61 _ _ rfl _ _ rfl rfl _ _ nA3 (ba _) (by simp[bO]) (dH _) ?_)
   refine aU (v:= .agg (mv fun i=>(M0 i&& !inl l i)&&decide (i<1440))) ?_ rfl ⟨by rw[HF.o],by rw[HF.o];exact HO.o.1,HO.o.2⟩;exact a8 rfl _ _ w.heap.size _ _ _ _ rfl HR.o bQ rfl (ba _)
end
end
section
section
variable {B gD:Nat} {d:Dk} {t:Tr}
theorem Kx {g1 g2 g3 g4 ca:Nat}{pa:Option Addr}{sv:Value}{a:Ap}{r day min num:Int}(w:World)(h:dE B gD d t w)(h0:0<=r)(hr:r<d.res.length)(n1:w.heap[g1]? =ah #[ab gD 0] 115)(n2:w.heap[g2]? =ah #[ag day,ag min,sv] 26)(n3:w.heap[g3]? =ah #[ag num] 3)(n4:w.heap[g4]? =ah (apC (a,.slice pa a.who.length ca)) 122)(xg2:Gx gD t g2)(xg3:Gx gD t g3)(xg4:Gx gD t g4)(xg1:Gx gD t g1):
  Calls prog 97 #[ag r,ab g1 0,ab g2 0,ab g3 0,ab g4 0] w fun e w'=>e= .returned (.bool (oH day num a.fr a.to r d).1)/\dE B gD (oH day num a.fr a.to r d).2 t w'/\Kd gD t t w w':=by
 unfold oH;dsimp only;go_enter func97,ntmps97;go_upto_region 1 with fail;refine dt (fun M _ W=>Kd gD t t w W/\dE B gD (bif M 5 then(i8 d r day num).2 else d) t W) [kn 7 (ab gD 0),kn 8 (ag r),kn 9 (ab g2 0),kn 10 (ag day),kn 11 (ag num),dk 12 (.agg (mv (i8 d r day num).1)),kn 13 (.agg (apC (a,.slice pa a.who.length ca))),kn 14 (.agg #[ag a.fr,ag a.to]),kn 15 (.bool (gH (i8 d r day num).1 a.fr a.to)),kn 16 (.bool (!(gH (i8 d r day num).1 a.fr a.to))),kn 6 (.bool (!(gH (i8 d r day num).1 a.fr a.to)))] (fun _=>⟨Kd.of (aG _ _).drew,h.below (aG _ _).drew⟩) (fun _ _ _ _ hb h=>⟨h.1.trans (Kd.of hb),h.2.below hb⟩) (by kernel_rfl) ?_ ?_
 ·rintro M φ W ⟨hk,hd⟩ _ F l hl hF;have z1:=cr 0 ((hk.blk _ xg1 (aF n1)).trans n1) rfl;have z2:=cr 0 ((hk.blk _ xg2 (aF n2)).trans n2) rfl;have z3:=cr 0 ((hk.blk _ xg3 (aF n3)).trans n3) rfl;have z4:=(hk.blk _ xg4 (aF n4)).trans n4;clear n1 n2 n3 n4;simp only[kn,dk,dN,aQ,aW,Act.put,aB,aI,aH]at hl;subst hl;simp only[dg,Nat.reduceAdd]at hF;dsimp only[kn,dk,dC,en,dS,Act.put];and_intros;all_goals first|exact trivial|intro hw hn hm K hK
  all_goals try (go_simp;with_reducible exact hK _ _ ⟨rfl,aG _ _⟩)
  ·rw[hm]at hd;go_simp;refine(B9 r day num W hd h0 hr).mono ?_;rintro r' W' ⟨rfl,hd',hk'⟩;exact hK _ _ ⟨rfl,hk.trans hk',hd'⟩
  ·show Oper.wp _ _ _ _ _ _;refine d9 122 _ rfl _ (by simp[Act.eval,hF]) _ _ _ _ z4 apT rfl (by kernel_rfl) ?_;exact hK _ _ ⟨rfl,aG _ _⟩
  ·go_simp;refine(tO a pa ca W).mono ?_;rintro r' W' ⟨rfl,hb'⟩;exact hK _ _ ⟨rfl,hb'⟩
  ·go_simp;refine(tI _ a.fr a.to W).mono ?_;rintro r' W' ⟨rfl,hb'⟩;exact hK _ _ ⟨rfl,hb'⟩
 ·rintro M φ W hM ⟨hk,hd⟩;rw[hM 5 (by decide) rfl]at hd;simp only[kn,dk,dP,aQ,aW,Act.put,aB,aI,aH];clear n1 n2 n3 n4 hM;go_wp2_with fail;go_ret;exact⟨rfl,hd,hk⟩
theorem Im {g1 g4 ca:Nat}{pa:Option Addr}{a:Ap}{r:Int}(w:World)(h:dE B gD d t w)(h0:0<=r)(hr:r<d.res.length)(n1:w.heap[g1]? =ah #[ab gD 0] 115)(n4:w.heap[g4]? =ah (apC (a,.slice pa a.who.length ca)) 122)(xg4:Gx gD t g4)(xg1:Gx gD t g1):
  Calls prog 127 #[ag r,ab g1 0,ab g4 0] w fun e w'=>e= .returned (.bool (kJ a.day a.fr a.to r d).1)/\dE B gD (kJ a.day a.fr a.to r d).2 t w'/\Kd gD t t w w':=by
 unfold kJ;dsimp only;go_enter func127,ntmps127;go_upto_region 1 with fail;refine dt (fun M _ W=>Kd gD t t w W/\dE B gD (bif M 5 then(gu d r a.day).2 else d) t W) [kn 5 (ab gD 0),kn 6 (ag r),kn 7 (ab g4 8),kn 8 (ab g4 8),kn 9 (ag a.day),dk 10 (.agg (mv (gu d r a.day).1)),kn 11 (.agg (apC (a,.slice pa a.who.length ca))),kn 12 (.agg #[ag a.fr,ag a.to]),kn 13 (.bool (gH (gu d r a.day).1 a.fr a.to)),kn 14 (.bool (!(gH (gu d r a.day).1 a.fr a.to))),kn 4 (.bool (!(gH (gu d r a.day).1 a.fr a.to)))] (fun _=>⟨Kd.of (aG _ _).drew,h.below (aG _ _).drew⟩) (fun _ _ _ _ hb h=>⟨h.1.trans (Kd.of hb),h.2.below hb⟩) (by kernel_rfl) ?_ ?_
 ·rintro M φ W ⟨hk,hd⟩ _ F l hl hF;have z1:=cr 0 ((hk.blk _ xg1 (aF n1)).trans n1) rfl;have z4:=(hk.blk _ xg4 (aF n4)).trans n4;have z8:W.cell? (ae g4 8)=some (ag a.day):=cr 8 z4 rfl;clear n1 n4;simp only[kn,dk,dN,aQ,aW,Act.put,aB,aI,aH]at hl;subst hl;simp only[dg,Nat.reduceAdd]at hF;dsimp only[kn,dk,dC,en,dS,Act.put];and_intros;all_goals first|exact trivial|intro hw hn hm K hK
  all_goals try (go_simp;with_reducible exact hK _ _ ⟨rfl,aG _ _⟩)
  ·rw[hm]at hd;go_simp;refine(Aj r a.day W hd h0 hr).mono ?_;rintro r' W' ⟨rfl,hd',hk'⟩;exact hK _ _ ⟨rfl,hk.trans hk',hd'⟩
  ·show Oper.wp _ _ _ _ _ _;refine d9 122 _ rfl _ (by simp[Act.eval,hF]) _ _ _ _ z4 apT rfl (by kernel_rfl) ?_;exact hK _ _ ⟨rfl,aG _ _⟩
  ·go_simp;refine(tO a pa ca W).mono ?_;rintro r' W' ⟨rfl,hb'⟩;exact hK _ _ ⟨rfl,hb'⟩
  ·go_simp;refine(tI _ a.fr a.to W).mono ?_;rintro r' W' ⟨rfl,hb'⟩;exact hK _ _ ⟨rfl,hb'⟩
 ·rintro M φ W hM ⟨hk,hd⟩;rw[hM 5 (by decide) rfl]at hd;simp only[kn,dk,dP,aQ,aW,Act.put,aB,aI,aH];clear n1 n4 hM;go_wp2_with fail;go_ret;exact⟨rfl,hd,hk⟩
end
end
section
theorem Io (u v:Ru)(pa pb:Option Addr)(ca cb:Nat)(w:World)(ha:qf w (u,.slice pa u.2.kids.length ca))(hb:qf w (v,.slice pb v.2.kids.length cb)):Calls prog 125 #[.agg #[.string ⟨u.1.toArray⟩,ag u.2.kind,ag u.2.a,ag u.2.b,.string ⟨u.2.name.toArray⟩,.slice pa u.2.kids.length ca],.agg #[.string ⟨v.1.toArray⟩,ag v.2.kind,ag v.2.a,ag v.2.b,.string ⟨v.2.name.toArray⟩,.slice pb v.2.kids.length cb]] w fun e w'=>e= .returned (.bool (pF u v))/\ao w w':=by
 obtain⟨wA,hA,bA,nA⟩:=nb w #[.string ⟨u.1.toArray⟩,ag u.2.kind,ag u.2.a,ag u.2.b,.string ⟨u.2.name.toArray⟩,.slice pa u.2.kids.length ca] 54;obtain⟨wB,hwB,bB,nB⟩:=nb wA #[.string ⟨v.1.toArray⟩,ag v.2.kind,ag v.2.a,ag v.2.b,.string ⟨v.2.name.toArray⟩,.slice pb v.2.kids.length cb] 54;have hbw:=au bA bB;have nA':=bt bB nA;obtain⟨_,_,d,hd⟩:=ha;obtain⟨_,_,d',hd'⟩:=hb;have c:=Ku d _ _ (hgt u.2+1) d' u.2 v.2 pa pb ca cb wB (fun k hk=>aO hk hbw.size) (fun k hk=>aO hk hbw.size) (Nat.lt_succ_self _) (hd.kept fun g _ hl=>hbw.block g hl) (hd'.kept fun g _ hl=>hbw.block g hl);have HS:P3 (pF u v=(decide (u.1=v.1)&&lq (hgt u.2+1) u.2 v.2)):=rfl;have x0:=cr 0 nA' rfl;have x1:=cr 1 nA' rfl;have x2:=cr 2 nA' rfl;have x3:=cr 3 nA' rfl;have x4:=cr 4 nA' rfl;have x5:=cr 5 nA' rfl;have y0:=cr 0 nB rfl;have y1:=cr 1 nB rfl;have y2:=cr 2 nB rfl;have y3:=cr 3 nB rfl;have y4:=cr 4 nB rfl;have y5:=cr 5 nB rfl;have HB:=aD hbw;have hns:=ti u.1 v.1;clear hd hd' bA bB nA nB nA' hbw;by_cases q:u.1=v.1
 ·rw[a7 q]at hns;have HQ:=aD q;clear q;go_enter func125,ntmps125;go_wp2_with fail;refine c.mono ?_;rintro e w1 ⟨rfl,hb1⟩;have hbw:=au HB.o hb1;clear c hb1;go_wp2_with fail;go_ret;exact⟨by rw[HS.o];simp[HQ.o],hbw⟩
 ·rw[bj q]at hns;have HQ:=aD q;clear c q;go_enter func125,ntmps125;go_wp2_with fail;go_ret;exact⟨by rw[HS.o];simp[HQ.o],HB.o⟩
section
variable {B gD:Nat} {d:Dk} {t:Tr}
theorem Ip {g1 g2 k:Nat}{v2:Value}{us:List (Ru×Value)}(w:World)(h:dE B gD d t w)(hu:InR w v2 us)(hk:k<us.length)(n1:w.heap[g1]? =ah #[ab gD 0] 115)(n2:w.heap[g2]? =ah #[v2] 45):
  Calls prog 124 #[ag (k:Int),ab g1 0,ab g2 0] w fun e w'=>e= .returned (.bool (jr d.rules (us.map (fun p=>p.1)) (k:Int)))/\ao w w':=by
 obtain⟨_,rv,cv,vv,kv,ss,aa,hm⟩:=h;obtain⟨ur,hur,her⟩:=hm.rules.here;have z0:=cr 0 hm.blk rfl;obtain⟨pr,cr',rfl⟩:=hur.form;obtain⟨pn,cn,rfl⟩:=hu.form;obtain⟨n,hn⟩:=aq ur.length;obtain⟨m,hm'⟩: ∃m,us.length=m:=⟨_,rfl⟩
 have HU:=aD hu;have HR:=aD hur;rw[hn]at z0;rw[hm']at n2 hk;have hk0:(0:Int)<=(k:Int):=by omega
 have hkm:(k:Int)<(m:Int):=by omega
 obtain⟨⟨b,vb⟩,hb⟩: ∃p,us[k]? =some p:=⟨us[k]'(by omega),ax _⟩
 by_cases hlt:k<n
 ·have hlt':((k:Int)>=(n:Int))=False:=by simp;omega
  have hlt2:(k:Int)<(n:Int):=(by omega);obtain⟨⟨a,va⟩,ha⟩: ∃p,ur[k]? =some p:=⟨ur[k]'(by omega),ax _⟩
  obtain⟨g3,o3,e3,a0,a1,a2,a3,a4,a5⟩:=hur.cells k _ ha;obtain⟨g4,o4,e4,b0,b1,b2,b3,b4,b5⟩:=hu.cells k _ hb;have ra:=hur.all _ (aM ha);have rb:=hu.all _ (aM hb);obtain⟨p1,c1,q1⟩:=(Classical.choose_spec ra.2.2).form;obtain⟨p2,c2,q2⟩:=(Classical.choose_spec rb.2.2).form;dsimp only at a0 a1 a2 a3 a4 a5 b0 b1 b2 b3 b4 b5 q1 q2;subst q1 q2 e3 e4
  have HN:P3 (jr d.rules (us.map (fun p=>p.1)) (k:Int)= !pF a b):=by
   show _=_;have h1:d.rules[k]? =some a:=(by rw[<-her,bg,ha];rfl);have h2:(us.map (fun p=>p.1))[k]? =some b:=(by rw[bg,hb];rfl);have h3: ¬(d.rules.length:Int)<=(k:Int):=(by rw[<-her,aZ];omega);unfold jr;rw[cg,h1,h2];simp[h3]
  clear hm hur hu hn hm' ha hb her HU HR hk;go_enter func124,ntmps124;go_upto_region 1 with fail;refine dt (fun _ _ W=>ao w W) [kn 5 (ag (k:Int)),kn 6 (ab gD 0),kn 7 (ab gD 0),kn 8 (ab gD 0),kn 9 (ab gD 0),kn 10 (.slice (some (ae g3 o3)) n cr'),kn 11 (ag (n:Int)),kn 12 (.bool false),kn 13 (.bool false),kn 14 (ab gD 0),kn 15 (ab gD 0),kn 16 (ab gD 0),kn 17 (ab gD 0),kn 18 (.slice (some (ae g3 o3)) n cr'),kn 19 (ag (k:Int)),kn 20 (ab g3 (o3+k*6)),kn 21 (.agg #[.string ⟨a.1.toArray⟩,ag a.2.kind,ag a.2.a,ag a.2.b,.string ⟨a.2.name.toArray⟩,.slice p1 a.2.kids.length c1]),kn 22 (.slice (some (ae g4 o4)) m cn),kn 23 (ag (k:Int)),kn 24 (ab g4 (o4+k*6)),kn 25 (.agg #[.string ⟨b.1.toArray⟩,ag b.2.kind,ag b.2.a,ag b.2.b,.string ⟨b.2.name.toArray⟩,.slice p2 b.2.kids.length c2]),kn 26 (.bool (pF a b)),kn 27 (.bool (!pF a b)),kn 28 (.bool (!pF a b)),kn 4 (.bool (!pF a b))] (fun _=>(aG _ _).drew) (fun _ _ _ _ hb h=>au h hb) (by kernel_rfl) ?_ ?_
  ·rintro M φ W hb _ F l hl hF;have z1:=cr 0 (bt hb n1) rfl;have z2:=cr 0 (bt hb n2) rfl;have z0:W.cell? (ae gD 0)=some (.slice (some (ae g3 o3)) n cr'):=aj hb z0;have zz:=fun(q:Addr) (x:Value) (h:w.cell? q=some x)=>aj hb h;have a0:=zz _ _ a0;have a1:=zz _ _ a1;have a2:=zz _ _ a2;have a3:=zz _ _ a3;have a4:=zz _ _ a4;have a5:=zz _ _ a5;have b0:=zz _ _ b0;have b1:=zz _ _ b1;have b2:=zz _ _ b2;have b3:=zz _ _ b3;have b4:=zz _ _ b4;have b5:=zz _ _ b5;have cS:=Io a b p1 p2 c1 c2 W (ra.below hb) (rb.below hb);clear zz n1 n2;simp only[kn,dN,aQ,aW,Act.put,aB,aI,aH]at hl;subst hl;simp only[dg,Nat.reduceAdd]at hF;dsimp only[kn,dC,en,dS,Act.put];and_intros;all_goals first|exact trivial|intro hw hn hm K hK
   all_goals try (go_simp;with_reducible exact hK _ _ ⟨rfl,aG _ _⟩)
   go_simp;refine cS.mono ?_;rintro r' W' ⟨rfl,hb'⟩;exact hK _ _ ⟨rfl,hb'⟩
  ·rintro M φ W hM hb;simp only[kn,dP,aQ,aW,Act.put,aB,aI,aH];clear hM n1 n2 a0 a1 a2 a3 a4 a5 b0 b1 b2 b3 b4 b5;go_wp2_with fail;go_ret;exact⟨by rw[HN.o];rfl,hb⟩
 ·have hlt':(n:Int)<=(k:Int):=by omega
  have HN:P3 (jr d.rules (us.map (fun p=>p.1)) (k:Int)=true):=by
   show _=_;have h1:d.rules[k]? =none:=(by rw[<-her,bg,ep (by omega)];rfl);unfold jr;rw[cg,h1]
  clear hm hur hu hn hm' hb her HU HR hk;go_enter func124,ntmps124;go_upto_region 1 with fail;refine dt (fun _ _ W=>ao w W) [kn 5 (ag (k:Int)),kn 6 (ab gD 0),kn 7 (ab gD 0),kn 8 (ab gD 0),kn 9 (ab gD 0),kn 10 (.slice pr n cr'),kn 11 (ag (n:Int)),kn 12 (.bool true),kn 13 (.bool true),kn 14 (undef),kn 15 (undef),kn 16 (undef),kn 17 (undef),kn 18 (undef),kn 19 (undef),kn 20 (undef),kn 21 (undef),kn 22 (undef),kn 23 (undef),kn 24 (undef),kn 25 (undef),kn 26 (undef),kn 27 (undef),kn 28 (.bool true),kn 4 (.bool true)] (fun _=>(aG _ _).drew) (fun _ _ _ _ hb h=>au h hb) (by kernel_rfl) ?_ ?_
  ·rintro M φ W hb _ F l hl hF;have z1:=cr 0 (bt hb n1) rfl;have z0:W.cell? (ae gD 0)=some (.slice pr n cr'):=aj hb z0;simp only[kn,dN,aQ,aW,Act.put,aB,aI,aH]at hl;subst hl;simp only[dg,Nat.reduceAdd]at hF;dsimp only[kn,dC,en,dS,Act.put];and_intros;all_goals first|exact trivial|intro hw hn hm K hK
   all_goals try (go_simp;with_reducible exact hK _ _ ⟨rfl,aG _ _⟩)
  ·rintro M φ W hM hb;simp only[kn,dP,aQ,aW,Act.put,aB,aI,aH];clear hM z0 n1 n2;go_wp2_with fail;go_ret;exact⟨by rw[HN.o];rfl,hb⟩
end
end
end Go.Proofs.YtjkilacmkbmmbaaGreatDoor
