/- Texts of the proof. -/
import Derived.Test.YtpdoienkhgnceaaGreatDoorPt22
set_option maxRecDepth 100000
set_option maxHeartbeats 8000000
namespace Go.Proofs.YtpdoienkhgnceaaGreatDoor
open Go.Proofs.Tryz Go.RowKit Lx Vx Mx Msk
section
section
variable {B gD:Nat} {d:Dk} {t:Tr} {w w':World}
theorem Aa (x:List UInt8)(w:World)(h:dS B gD d t w):Calls prog 152 #[ab gD 0,ly x] w fun r w'=>r= .returned (ag (atP5 d.rules x))/\ao w w':=by
 unfold ly;obtain⟨l,o,c,i⟩:=nb w #[.string ⟨x.toArray⟩] 9;obtain⟨_,j,n,s,kv,q,m,f⟩:=h.below c;obtain⟨k,a,b⟩:=f.rules.here;have c0:=IT k j x w.heap.size l a i;rw[b]at c0;obtain⟨p,g,rfl⟩:=a.form;have v:=cr 0 f.blk rfl;go_enter func152,ntmps152;go_wp2_with fail;refine c0.mono ?_;rintro e u ⟨rfl,b1⟩;go_wp2_with fail;go_ret;exact⟨rfl,au c b1⟩
theorem tB {a e size n:Nat}{v:Value}{xs:List Value}(h:w.ownsRow a e size v n xs)(m:0<n): ∃g c,v= .slice (some (ae g 0)) n c/\a<=g/\ ∀(k:Nat) (u:Value),xs[k]? =some u->w.cell? (ae g k)=some u:=by
 rcases h.2 with⟨_,l⟩|⟨g,cap,d,rfl,f,i,_,_,_,j⟩
 ·omega
 ·refine⟨g,cap,rfl,f,fun k u b=> ?_⟩;rw[aW _ _ k _ _ _ i,<-bq];rw[<-j]at b;exact(dJ (by have:=(aE.1 b).1;simp at this;omega)).symm.trans b
theorem orZ {i k:Nat}{b:Bool}(a:i≠k):(decide (i=k)||b)=b:=by simp[a]
theorem NG {c:List Cd}{l:List Vx.Kp}{runs v r b:Int}(f:l.length<=64):(ku c l runs v r b).l.length<=64:=by
 unfold ku;split
 ·rename_i a;unfold pB at a;rw[bx,bL]at a;have d:=tp r b l 0;have e:=Fm (l:=l) a.1 (by omega);simp;omega
 ·split
  ·simp
  ·simp[wh];omega
theorem S9 {W:World}{g b:Nat}{c f:Array Value}{T a:TypeId}(h:W.heap[g]? =ah c T)(d:W.heap[b]? =ah f a)(j:T≠a):g≠b:=fun e=>by
 subst e;rw[h]at d;injection d with k;injection k with _ i _;exact j i
theorem NH {W W':World}{v:Value}{l:List Vx.Kp}(h:dT W.heap.size W' v l):Rob (fun q=>W.heap.size<=q/\q<W'.heap.size) (fun u=>dT 0 u v l) W':=fun u s ha=>by
 obtain⟨p,c,b,d,e,f⟩:=h;refine⟨p,c,b,d,e,fun k=> ?_⟩;obtain⟨g,o,m,i,n⟩:=f k;refine⟨g,o,m,dU _,fun j x r=> ?_⟩;have a:=n j x r;rw[<-a];exact dP (ha g ⟨i,aU a⟩ (aU a))
theorem P6 {lo hi g:Nat}{Φ:World->Prop}{W:World}{xs:Array Value}(h:Rob (fun q=>lo<=q/\q<hi) Φ W)(a:g<lo\/hi<=g):Rob (fun q=>lo<=q/\q<hi) Φ (W.setRow g xs):=h.move (by simp) (fun q b _=>aQ _ _ _ _ (by omega)) fun _ _ h=>h
def mtT (G:Got)(p:Option Addr)(c:Nat):Value:= .tuple #[.agg (mv G.m),.agg #[.slice p G.l.length c,ag G.n],.agg #[ag G.er,ag (G.at_:Int)]]
def At (φ:Nat->Value)(k:Nat)(wX W:World)(c:Array Value)(T:TypeId):Prop:= ∃g:Nat,φ k=ab g 0/\wX.heap.size<=g/\W.heap[g]? =ah c T
theorem At.later {φ:Nat->Value}{k:Nat}{wX W W':World}{c:Array Value}{T:TypeId}(h:At φ k wX W c T)(e:ao W W'):At φ k wX W' c T:=by
 obtain⟨g,a,b,d⟩:=h;exact⟨g,a,b,bt e d⟩
theorem At.put {φ:Nat->Value}{k:Nat}{wX W:World}{c:Array Value}{T:TypeId}(h:At φ k wX W c T){s:Nat}{v:Value}(d:s≠k):At (rj φ (some s) v) k wX W c T:=by
 obtain⟨g,a,b⟩:=h;exact⟨g,(dE d).trans a,b⟩
theorem At.set {φ:Nat->Value}{k g:Nat}{wX W:World}{c d x:Array Value}{T a:TypeId}(h:At φ k wX W c T)(j:W.heap[g]? =ah d a)(i:T≠a):At φ k wX (W.setRow g x) c T:=by
 obtain⟨q,e,f,b⟩:=h;exact⟨q,e,f,(aQ _ _ _ _ (S9 b j i)).trans b⟩
theorem Ed {φ:Nat->Value}{k:Nat}{wX W:World}{c:Array Value}{T:TypeId}(a:ao wX W):At (rj φ (some k) (ab W.heap.size 0)) k wX (W.alloc (.cells c T)) c T:=⟨_,dX,a.size,aB _ _⟩
def Out (φ:Nat->Value)(k lo hi:Nat):Prop:= ∃g:Nat,φ k=ab g 0/\(g<lo\/hi<=g)
theorem Out.put {φ:Nat->Value}{k lo hi s:Nat}{v:Value}(h:Out φ k lo hi)(c:s≠k):Out (rj φ (some s) v) k lo hi:=by
 obtain⟨g,a,b⟩:=h;exact⟨g,(dE c).trans a,b⟩
def yf (wX:World)(G:Got)(φ:Nat->Value)(W:World)(b8 b9 b0:Bool):Prop:= ∃p c lo hi,φ 42=mtT G p c/\wX.heap.size<=lo/\hi<=W.heap.size/\Rob (fun q=>lo<=q/\q<hi) (fun u=>dT 0 u (.slice p G.l.length c) G.l) W/\(b8=true->Out φ 8 lo hi)/\(b9=true->Out φ 9 lo hi)/\(b0=true->Out φ 10 lo hi)
section
variable {wX:World} {G:Got} {φ:Nat->Value} {W W':World} {b8 b9 b0:Bool}
theorem yf.put (h:yf wX G φ W b8 b9 b0){s:Nat}{v:Value}(l:s≠42)(m:s≠8)(n:s≠9)(j:s≠10):yf wX G (rj φ (some s) v) W b8 b9 b0:=by
 obtain⟨p,k,lo,hi,a,b,d,e,f,g,i⟩:=h;exact⟨p,k,lo,hi,(dE l).trans a,b,d,e,fun c=>(f c).put m,fun c=>(g c).put n,fun c=>(i c).put j⟩
theorem yf.set (h:yf wX G φ W b8 b9 b0){g:Nat}{x:Array Value}(j: ∀lo hi,(b8=true->Out φ 8 lo hi)->(b9=true->Out φ 9 lo hi)->(b0=true->Out φ 10 lo hi)->g<lo\/hi<=g):yf wX G φ (W.setRow g x) b8 b9 b0:=by
 obtain⟨p,k,lo,hi,d,e,f,i,a,b,c⟩:=h;exact⟨p,k,lo,hi,d,e,by simpa using f,P6 i (j lo hi a b c),a,b,c⟩
theorem Ee {k lo hi g:Nat}(h:Out φ k lo hi)(e:φ k=ab g 0):g<lo\/hi<=g:=by
 obtain⟨q,a,b⟩:=h;rw[e]at a;injection a with a;injection a with a;injection a with a;rw[a];exact b
end
structure MtJ (wX:World)(G:Got)(M:Nat->Bool)(φ:Nat->Value)(W:World):Prop where
 bel:ao wX W
 get:M 17=true->yf wX G φ W (M 22) (M 23) (M 24)
 mov:M 18=true->φ 24=φ 42
 ext:M 20=true-> ∃p c,φ 42=mtT G p c/\φ 44= .agg #[.slice p G.l.length c,ag G.n]
 al8:M 22=true->At φ 8 wX W (bif M 25 then mv G.m else mv fun _=>false) 39
 al9:M 23=true->M 26=false->At φ 9 wX W #[af,ag 0] 155
 st9:M 26=true-> ∃p c,φ 42=mtT G p c/\At φ 9 wX W #[.slice p G.l.length c,ag G.n] 155
 al0:M 24=true->At φ 10 wX W (bif M 27 then #[ag G.er,ag (G.at_:Int)] else #[ag 0,ag 0]) 26
theorem MtJ.later {wX:World}{G:Got}{M:Nat->Bool}{φ:Nat->Value}{W W':World}(h:MtJ wX G M φ W)(a:ao W W'):MtJ wX G M φ W':=⟨au h.bel a,fun c=>by
 obtain⟨p,k,lo,hi,b,d,f,g,i⟩:=h.get c;exact⟨p,k,lo,hi,b,d,bh f a.size,g.below a,i⟩,h.mov,h.ext,fun c=>(h.al8 c).later a,fun c e=>(h.al9 c e).later a,fun c=>by
 obtain⟨p,k,b,d⟩:=h.st9 c;exact⟨p,k,b,d.later a⟩,fun c=>(h.al0 c).later a⟩
theorem rS {M:Nat->Bool}{i k:Nat}{p:Prop}(b:M k=false)(c:(decide (i=k)||M k)=true)(a:i≠k):p:=by rw[orZ a,b]at c;cases c
theorem upM {M:Nat->Bool}{i k:Nat}{b:Bool}(c:(decide (i=k)||M k)=b)(a:i≠k):M k=b:=by rwa[orZ a]at c
theorem qy {M:Nat->Bool}{i k:Nat}(a:i≠k):(decide (i=k)||M k)=M k:=orZ a
theorem np {a b:Bool}(h:a=true->b=true)(c:b=false):a=false:=by
 cases a with
 |false=>rfl
 |true=>rw[h rfl]at c;cases c
theorem Ca (r day:Int)(w:World)(h:dS B gD d t w)(h0:0<=r)(hr:r<d.res.length):Calls prog 189 #[ab gD 0,ag r,ag day] w fun e w'=>e= .returned (.agg (mv (gY d r day).1))/\dS B gD (gY d r day).2 t w'/\Kd gD t t w w':=by
 obtain⟨ri,rfl⟩: ∃k:Nat,r=(k:Int):=⟨r.toNat,by omega⟩
 have hz:=ea;obtain⟨wA,V,bA,nA⟩:=nb w (mv fun _=>false) 39;have a7:=h.below bA;have a1:=aG a7;have H0:=aG h;obtain⟨be,rv,cv,vv,kv,ss,aa,C⟩:=a7;obtain⟨x,hx⟩: ∃x,d.res[ri]? =some x:=⟨d.res[ri]'(by omega),az _⟩
 have c0:=Aa x wA a1.o;have z1:=cr 1 C.blk rfl;obtain⟨ge,ce,he,_,ba⟩:=tB C.res (by omega);have zx:=ba ri (ly x) (by rw[bf,hx];rfl);rw[he]at z1;obtain⟨n,hn⟩:=aq d.res.length;rw[hn]at z1 hr;have ai:=aG be;have HX:T4 (d.res.getD ri []=x):=by show _=_;simp[List.getD,hx]
 obtain⟨k,hk⟩:=aq (atP5 d.rules x);rw[hk]at c0;have HK:=aG hk;have aP:=aG bA
 have HM:T4 (∀P:M×Dk->Prop,((k<0->P (noM,d))/\(¬k<0->P ((ku (eZ d.rules) d.kept d.runs (d.vers.getD k.toNat 0) k day).m,{d with kept:=(ku (eZ d.rules) d.kept d.runs (d.vers.getD k.toNat 0) k day).l,runs:=(ku (eZ d.rules) d.kept d.runs (d.vers.getD k.toNat 0) k day).n})))->P (gY d ri day)):=fun P hP=>by
  unfold gY;simp only[di,HX.o,HK.o];by_cases q:k<0
  ·rw[ax q];exact hP.1 q
  ·rw[aw q];exact hP.2 q
 have bx:(0:Int)<=(ri:Int):=by omega
 unfold ly at zx c0;go_enter func189,ntmps189;go_wp2_with fail;refine c0.mono ?_;rintro e w1 ⟨rfl,b1⟩;have Y:=bt b1 nA;have bp:=aG (a1.o.below b1);have ad:=aG (au aP.o b1);by_cases bb:k<0
 ·have a5:=below_setRow ad.o (aA _) (mv fun _=>false);have HR:=aG (aK _ _ _ (mv fun _=>false) _ _ Y);have HO:=aG (HM.o (fun p=>(.agg (mv fun _=>false):Value)= .agg (mv p.1)/\dS B gD p.2 t (w1.setRow w.heap.size (mv fun _=>false))/\Kd gD t t w (w1.setRow w.heap.size (mv fun _=>false))) ⟨fun _=>⟨rfl,H0.o.below a5,Kd.of a5⟩,fun q=>absurd bb (by omega)⟩);go_wp2_with(refine aC rfl 39 _ _ rfl _ _ rfl rfl _ _ Y (bg _) (by simp[bU]) (dI _) ?_)
  refine aX (v:= .agg (mv fun _=>false)) ?_ rfl ⟨by rw[HO.o.1],HO.o.2⟩;exact bn rfl _ _ w.heap.size _ _ _ _ rfl HR.o cj rfl (bg _)
 ·obtain⟨ki,rfl⟩: ∃q:Nat,k=(q:Int):=⟨k.toNat,by omega⟩
  have bc:ki<d.vers.length:=by
   have:=py d.rules x;rw[HK.o]at this;have:=ai.o.vl;omega
  obtain⟨_,rv,cv,vv,kv,ss,aa,an⟩:=H0.o;have C:=an.below ad.o;have z4:=cr 4 C.blk rfl;have z5:=cr 5 C.blk rfl;have z7:=cr 7 C.blk rfl;have z8:=cr 8 C.blk rfl;obtain⟨pv,a2,rfl,bz,bi⟩:=C.vers.here;obtain⟨f,ac⟩: ∃q,d.vers[ki]? =some q:=⟨d.vers[ki],az bc⟩
  obtain⟨gv,ov,rfl,zv⟩:=bi ki f ac;obtain⟨pk,ck,rfl,_,_⟩:=C.kept.here;obtain⟨pc,cc,rfl,_,_⟩:=C.codes.here.form;obtain⟨nv,bd⟩:=aq d.vers.length;obtain⟨nq,aE⟩:=aq d.kept.length;obtain⟨nc,aB⟩:=aq ((eZ d.rules).length);rw[bd]at z5;rw[aE]at z7;rw[aB]at z4;have bo:(ki:Int)<(nv:Int):=(by omega);have bm:(0:Int)<=(ki:Int):=(by omega)
  have cG: ∀W,ao w1 W->Calls prog 212 #[.agg #[.slice pk nq ck,ag d.runs],.slice pc nc cc,ag f,ag (ki:Int),ag day] W (AZ (ku (eZ d.rules) d.kept d.runs f ki day).m (ku (eZ d.rules) d.kept d.runs f ki day).l (ku (eZ d.rules) d.kept d.runs f ki day).n (ku (eZ d.rules) d.kept d.runs f ki day).er ((ku (eZ d.rules) d.kept d.runs f ki day).at_:Int) W):=fun W hW=>by
   have h1:=(C.kept.below hW).here;have h2:=(C.codes.below hW).here;rw[aE]at h1;rw[aB]at h2;exact P4 _ _ _ _ _ _ _ _ W h1 (by have:=ai.o.kl;omega) h2
  have aT:T4 (d.vers.getD ki 0=f):=(by show _=_;simp[List.getD,ac]);have L:=aG an;obtain⟨G,hG⟩:=aq (ku (eZ d.rules) d.kept d.runs f ki day);rw[hG]at cG;have HG:=aG hG;have br:=aH an.blk;go_upto_region 4 with fail;refine dH (MtJ w1 G) [kn 25 (ab gD 0),kn 26 (ab gD 0),kn 27 (ab gD 7),kn 28 (.agg #[.slice pk nq ck,ag d.runs]),kn 29 (ab gD 0),kn 30 (ab gD 0),kn 31 (ab gD 4),kn 32 (.slice pc nc cc),kn 33 (ab gD 0),kn 34 (ab gD 0),kn 35 (ab gD 5),kn 36 (.slice (some (ae gv ov)) nv a2),kn 37 (ag (ki:Int)),kn 38 (ab gv (ov+ki)),kn 39 (ag f),kn 40 (ag (ki:Int)),kn 41 (ag day),td 42,td 24,kn 43 (.agg (mv G.m)),td 44,kn 45 (.agg #[ag G.er,ag (G.at_:Int)]),td 8,td 9,td 10,nk,nk,nk] (fun _=>⟨(aF _ _).drew,nofun,nofun,nofun,nofun,nofun,nofun,nofun⟩) (fun _ _ _ _ b h=>h.later b) (by kernel_rfl) ?_ ?_
  ·rintro M φ W S hc F l hl z;have zz:=fun(q:Addr) (x:Value) (h:w1.cell? q=some x)=>aj S.bel h;have z4:=zz _ _ z4;have z5:=zz _ _ z5;have z7:=zz _ _ z7;have z8:=zz _ _ z8;have zv:=zz _ _ zv;have cG:=cG W S.bel;have HC:=aG hc;have i:=aG S;simp only[kn,td,nk,d6,aR,a8,Act.put,aD,aJ,aI]at hl;subst hl;simp only[dz,Nat.reduceAdd]at z;dsimp only[kn,td,nk,dK,fo,eD,Act.put];and_intros;all_goals first|exact trivial|intro Q hn C K J
   all_goals try (go_simp;with_reducible exact J _ _ ⟨rfl,aF _ _⟩)
   ·have a3:=hn 18 _ rfl (by kernel_rfl);have a4:M 20=false:=np (fun h=>HC.o 20 _ rfl h ⟨18,.data⟩ (by simp) rfl rfl) a3;have ak:M 26=false:=np (fun h=>HC.o 26 _ rfl h ⟨20,.data⟩ (by simp) rfl rfl) a4;go_simp;refine cG.mono ?_;rintro r' W' ⟨v',rfl,a9,aW⟩;obtain⟨p,c9,hv,_⟩:=id a9;subst hv;have hj:=i.o.later aW
    have ou: ∀{k:Nat} {c:Array Value} {T:TypeId},At φ k w1 W c T->k≠42->Out (rj φ (some 42) (mtT G p c9)) k W.heap.size W'.heap.size:=fun h hk=>by
     obtain⟨g,h1,_,h3⟩:=h;exact⟨g,(dE fun e=>hk e.symm).trans h1,.inl (aH h3)⟩
    exact J _ _ ⟨trivial,hj.bel,fun _=>⟨p,c9,W.heap.size,W'.heap.size,dX,i.o.bel.size,aA _,NH a9,fun c=>ou (i.o.al8 (upM c (by decide))) (by decide),fun c=>ou (i.o.al9 (upM c (by decide)) ak) (by decide),fun c=>ou (i.o.al0 (upM c (by decide))) (by decide)⟩,fun c=>rS a3 c (by decide),fun c=>rS a4 c (by decide),fun c=>by rw[qy (by decide)];exact(hj.al8 (upM c (by decide))).put (by decide),fun c H=>(hj.al9 (upM c (by decide)) ak).put (by decide),fun c=>rS ak c (by decide),fun c=>by rw[qy (by decide)];exact(hj.al0 (upM c (by decide))).put (by decide)⟩
   ·have U:=Q ⟨17,.data⟩ (by simp) rfl rfl;have j:=i.o;go_simp
    exact J _ _ ⟨trivial,j.bel,fun c=>(j.get U).put (by decide) (by decide) (by decide) (by decide),fun _=>dX.trans (dE (by decide)).symm,fun c=>by rw[dE (by decide),dE (by decide)];exact j.ext (upM c (by decide)),fun c=>(j.al8 (upM c (by decide))).put (by decide),fun c H=>(j.al9 (upM c (by decide)) (upM H (by decide))).put (by decide),fun c=>by
     obtain⟨p,k,u,y⟩:=j.st9 (upM c (by decide));exact⟨p,k,(dE (by decide)).trans u,y.put (by decide)⟩,fun c=>(j.al0 (upM c (by decide))).put (by decide)⟩
   ·obtain⟨p,k,lo,hi,a,_⟩:=i.o.get (HC.o 18 _ rfl (Q ⟨18,.data⟩ (by simp) rfl rfl) ⟨17,.data⟩ (by simp) rfl rfl);rw[i.o.mov (Q ⟨18,.data⟩ (by simp) rfl rfl),a]at z;unfold mtT at z;go_simp;exact J _ _ ⟨rfl,aF _ _⟩
   ·have U:=HC.o 18 _ rfl (Q ⟨18,.data⟩ (by simp) rfl rfl) ⟨17,.data⟩ (by simp) rfl rfl;obtain⟨p,k,lo,hi,a,_⟩:=i.o.get U;rw[i.o.mov (Q ⟨18,.data⟩ (by simp) rfl rfl),a]at z;unfold mtT at z;have j:=i.o;go_simp
    exact J _ _ ⟨trivial,j.bel,fun c=>(j.get U).put (by decide) (by decide) (by decide) (by decide),fun c=>by rw[dE (by decide),dE (by decide)];exact j.mov (upM c (by decide)),fun _=>⟨p,k,(dE (by decide)).trans a,dX⟩,fun c=>(j.al8 (upM c (by decide))).put (by decide),fun c H=>(j.al9 (upM c (by decide)) (upM H (by decide))).put (by decide),fun c=>by
     obtain⟨p,k,u,y⟩:=j.st9 (upM c (by decide));exact⟨p,k,(dE (by decide)).trans u,y.put (by decide)⟩,fun c=>(j.al0 (upM c (by decide))).put (by decide)⟩
   ·obtain⟨p,k,lo,hi,a,_⟩:=i.o.get (HC.o 18 _ rfl (Q ⟨18,.data⟩ (by simp) rfl rfl) ⟨17,.data⟩ (by simp) rfl rfl);rw[i.o.mov (Q ⟨18,.data⟩ (by simp) rfl rfl),a]at z;unfold mtT at z;go_simp;exact J _ _ ⟨rfl,aF _ _⟩
   ·have hd:=hn 25 _ rfl (by kernel_rfl);have j:=i.o;have b:=am W (.cells (mv fun _=>false) 39);go_simp
    exact J _ _ ⟨trivial,au j.bel b,fun c=>by
     obtain⟨p,k,lo,hi,u,y,Z,e4,e5,e6,e7⟩:=j.get (upM c (by decide));exact⟨p,k,lo,hi,(dE (by decide)).trans u,y,bh Z b.size,e4.below b,fun _=>⟨W.heap.size,dX,.inr Z⟩,fun c=>(e6 (upM c (by decide))).put (by decide),fun c=>(e7 (upM c (by decide))).put (by decide)⟩,fun c=>by rw[dE (by decide),dE (by decide)];exact j.mov (upM c (by decide)),fun c=>by rw[dE (by decide),dE (by decide)];exact j.ext (upM c (by decide)),fun _=>by rw[qy (by decide),hd];exact Ed j.bel,fun c H=>((j.al9 (upM c (by decide)) (upM H (by decide))).later b).put (by decide),fun c=>by
     obtain⟨p,k,u,y⟩:=j.st9 (upM c (by decide));exact⟨p,k,(dE (by decide)).trans u,(y.later b).put (by decide)⟩,fun c=>by rw[qy (by decide)];exact((j.al0 (upM c (by decide))).later b).put (by decide)⟩
   ·have hd:=hn 26 _ rfl (by kernel_rfl);have j:=i.o;have b:=am W (.cells #[af,ag 0] 155);go_simp
    exact J _ _ ⟨trivial,au j.bel b,fun c=>by
     obtain⟨p,k,lo,hi,u,y,Z,e4,e5,e6,e7⟩:=j.get (upM c (by decide));exact⟨p,k,lo,hi,(dE (by decide)).trans u,y,bh Z b.size,e4.below b,fun c=>(e5 (upM c (by decide))).put (by decide),fun _=>⟨W.heap.size,dX,.inr Z⟩,fun c=>(e7 (upM c (by decide))).put (by decide)⟩,fun c=>by rw[dE (by decide),dE (by decide)];exact j.mov (upM c (by decide)),fun c=>by rw[dE (by decide),dE (by decide)];exact j.ext (upM c (by decide)),fun c=>by rw[qy (by decide)];exact((j.al8 (upM c (by decide))).later b).put (by decide),fun _ _=>Ed j.bel,fun c=>rS hd c (by decide),fun c=>by rw[qy (by decide)];exact((j.al0 (upM c (by decide))).later b).put (by decide)⟩
   ·have hd:=hn 27 _ rfl (by kernel_rfl);have j:=i.o;have b:=am W (.cells #[ag 0,ag 0] 26);go_simp
    exact J _ _ ⟨trivial,au j.bel b,fun c=>by
     obtain⟨p,k,lo,hi,u,y,Z,e4,e5,e6,e7⟩:=j.get (upM c (by decide));exact⟨p,k,lo,hi,(dE (by decide)).trans u,y,bh Z b.size,e4.below b,fun c=>(e5 (upM c (by decide))).put (by decide),fun c=>(e6 (upM c (by decide))).put (by decide),fun _=>⟨W.heap.size,dX,.inr Z⟩⟩,fun c=>by rw[dE (by decide),dE (by decide)];exact j.mov (upM c (by decide)),fun c=>by rw[dE (by decide),dE (by decide)];exact j.ext (upM c (by decide)),fun c=>by rw[qy (by decide)];exact((j.al8 (upM c (by decide))).later b).put (by decide),fun c H=>((j.al9 (upM c (by decide)) (upM H (by decide))).later b).put (by decide),fun c=>by
     obtain⟨p,k,u,y⟩:=j.st9 (upM c (by decide));exact⟨p,k,(dE (by decide)).trans u,(y.later b).put (by decide)⟩,fun _=>by rw[qy (by decide),hd];exact Ed j.bel⟩
   ·have V:=Q ⟨22,.data⟩ (by simp) rfl rfl;have j:=i.o;obtain⟨g,e,A,s⟩:=j.al8 V;rw[C]at s;rw[e]at z;show Oper.wp _ _ _ _ _ _;refine oq (ops:= #[]) rfl (aC rfl 39 _ _ rfl _ (mv G.m) (by simp[Act.eval,z]) (by simp[Act.eval,z]) _ _ s (bg _) (by simp[bU]) (dI _) ?_)
    exact⟨rfl,J undef _ ⟨trivial,below_setRow j.bel A _,fun c=>(j.get (upM c (by decide))).set fun lo hi o8 o9 o0=>Ee (o8 V) e,fun c=>j.mov (upM c (by decide)),fun c=>j.ext (upM c (by decide)),fun _=>⟨g,e,A,aK _ _ _ _ _ _ s⟩,fun c H=>(j.al9 (upM c (by decide)) (upM H (by decide))).set s (by decide),fun c=>by
     obtain⟨p,k,u,y⟩:=j.st9 (upM c (by decide));exact⟨p,k,u,y.set s (by decide)⟩,fun c=>by rw[qy (by decide)];exact(j.al0 (upM c (by decide))).set s (by decide)⟩⟩
   ·have V:=Q ⟨23,.data⟩ (by simp) rfl rfl;have j:=i.o;obtain⟨g,e,A,s⟩:=j.al9 V C;obtain⟨p,k,a,aV⟩:=j.ext (Q ⟨20,.data⟩ (by simp) rfl rfl);rw[aV]at z;rw[e]at z;show Oper.wp _ _ _ _ _ _;refine oq (ops:= #[]) rfl (aC rfl 155 _ _ rfl _ #[.slice p G.l.length k,ag G.n] (by simp[Act.eval,z]) (by simp[Act.eval,z]) _ _ s (by kernel_rfl) rfl (by simp[Value.oneCell']) ?_);exact⟨rfl,J undef _ ⟨trivial,below_setRow j.bel A _,fun c=>(j.get (upM c (by decide))).set fun lo hi o8 o9 o0=>Ee (o9 V) e,fun c=>j.mov (upM c (by decide)),fun c=>j.ext (upM c (by decide)),fun c=>by rw[qy (by decide)];exact(j.al8 (upM c (by decide))).set s (by decide),fun _ c=>by simp at c,fun _=>⟨p,k,a,g,e,A,aK _ _ _ _ _ _ s⟩,fun c=>by rw[qy (by decide)];exact(j.al0 (upM c (by decide))).set s (by decide)⟩⟩
   ·have V:=Q ⟨24,.data⟩ (by simp) rfl rfl;have j:=i.o;obtain⟨g,e,A,s⟩:=j.al0 V;rw[C]at s;rw[e]at z;show Oper.wp _ _ _ _ _ _;refine oq (ops:= #[]) rfl (aC rfl 26 _ _ rfl _ #[ag G.er,ag (G.at_:Int)] (by simp[Act.eval,z]) (by simp[Act.eval,z]) _ _ s (by kernel_rfl) rfl (by simp[Value.oneCell']) ?_)
    exact⟨rfl,J undef _ ⟨trivial,below_setRow j.bel A _,fun c=>(j.get (upM c (by decide))).set fun lo hi o8 o9 o0=>Ee (o0 V) e,fun c=>j.mov (upM c (by decide)),fun c=>j.ext (upM c (by decide)),fun c=>by rw[qy (by decide)];exact(j.al8 (upM c (by decide))).set s (by decide),fun c H=>(j.al9 (upM c (by decide)) (upM H (by decide))).set s (by decide),fun c=>by
     obtain⟨p,k,u,y⟩:=j.st9 (upM c (by decide));exact⟨p,k,u,y.set s (by decide)⟩,fun _=>⟨g,e,A,aK _ _ _ _ _ _ s⟩⟩⟩
  ·rintro M φ D hM S;obtain⟨R,N,lo,hi,a,bv,bs,aL,_,o9,_⟩:=S.get (hM 17 (by decide) rfl);obtain⟨g8,e8,l8,k8⟩:=S.al8 (hM 22 (by decide) rfl);rw[hM 25 (by decide) rfl]at k8;obtain⟨p',H,O,g9,e9,l9,k9⟩:=S.st9 (hM 26 (by decide) rfl);obtain⟨bq,aU,b2,b0⟩:=S.al0 (hM 24 (by decide) rfl)
   obtain⟨rfl,rfl⟩:R=p'/\N=H:=by
    rw[a]at O;simp only[mtT,Value.tuple.injEq,Value.agg.injEq,Array.mk.injEq,List.cons.injEq,Value.slice.injEq,and_true,true_and]at O;exact O
   have a6:=S.bel;simp only[kn,td,nk,ep,aR,a8,Act.put,aD,aJ,aI];rw[a,S.mov (hM 18 (by decide) rfl),a,e8,e9,aU];generalize φ 44=b3;have I:=au ad.o a6;have bl:=bt a6 Y;have E:=bt I L.o.blk;have bw:w.heap.size<w1.heap.size:=aH Y
   have th:D.there gD 7 2:=fun j hj=>by
    refine⟨?_,bu _ _ _ _ _ E⟩;match j,hj with
    |0,_=>exact Option.isSome_iff_exists.2 ⟨_,cr 7 E rfl⟩
    |1,_=>exact Option.isSome_iff_exists.2 ⟨_,cr 8 E rfl⟩
   have aZ:(D.setCells gD 7 [.slice R G.l.length N,ag G.n]).heap[gD]? =ah #[rv,t.ev,t.sv,t.av,.slice pc (eZ d.rules).length cc,.slice (some (ae gv ov)) d.vers.length a2,ag d.given,.slice R G.l.length N,ag G.n] 157:=aY _ gD 8 _ _ _ (aY D gD 7 _ _ _ E);have ho: ∀q,q≠gD->(D.setCells gD 7 [.slice R G.l.length N,ag G.n]).heap[q]? =D.heap[q]? :=fun q X=>iH gD _ _ D q X;have aM:(D.setCells gD 7 [.slice R G.l.length N,ag G.n]).heap.size=D.heap.size:=(by simp[World.setCells]);have ar:(D.setCells gD 7 [.slice R G.l.length N,ag G.n]).os=D.os/\(D.setCells gD 7 [.slice R G.l.length N,ag G.n]).tape=D.tape/\(D.setCells gD 7 [.slice R G.l.length N,ag G.n]).output=D.output:=⟨rfl,rfl,rfl⟩
   have bk:=(ho g8 (by omega)).trans k8;have aN:=(ho w.heap.size (by omega)).trans bl;generalize bj:D.setCells gD 7 [.slice R G.l.length N,ag G.n]=W3 at*;have aS:=aG th;have HR:=aG (aK _ _ _ (mv G.m) _ _ aN)
   have HO:T4 (dS B gD {d with kept:=G.l,runs:=G.n} t (W3.setRow w.heap.size (mv G.m))/\Kd gD t t w (W3.setRow w.heap.size (mv G.m))):=by
    have hk: ∀q,q<w.heap.size->q≠gD->(W3.setRow w.heap.size (mv G.m)).heap[q]? =w.heap[q]? :=fun q hl X=>((aQ _ _ _ _ (by omega)).trans (ho q X)).trans (I.block q hl);have ay:w.heap.size<=(W3.setRow w.heap.size (mv G.m)).heap.size:=(by simp;rw[aM];exact I.size);have a0: ∀{Φ:World->Prop},Rob (Fx gD t) Φ w->Rob (Fx gD t) Φ (W3.setRow w.heap.size (mv G.m)):=fun hR=>hR.move ay (fun q X hl=>hk q hl X.1.1) fun _ _ h=>h;have ok:=ai.o;refine⟨⟨⟨ok.flt,ok.vl,?_,ok.rl,ok.sl,ok.al,ok.gv,ok.nm,ok.sv,ok.ap⟩,rv,_,_,.slice R G.l.length N,ss,aa,L.o.put ay hk ((aQ _ _ _ _ (by omega)).trans aZ) rfl rfl rfl (a0 L.o.rules) (a0 L.o.codes) (a0 L.o.vers) ?_⟩,⟨?_,?_,?_,ay,fun q X hl=>hk q hl X.1,fun _ _ h=>h,rfl⟩⟩
    ·rw[<-HG.o];exact NG ok.kl
    ·refine aL.move (by simp;rw[aM];exact aA _) (fun q X _=> ?_) (fun q _ X=>H0.o.fx (.inr (by omega)));exact(aQ _ _ _ _ (by omega)).trans (ho q (by omega))
    ·exact ar.1.trans I.os
    ·exact ar.2.1.trans I.tape
    ·exact ar.2.2.trans I.output
   have HP:=aG (HM.o (fun p=>(.agg (mv G.m):Value)= .agg (mv p.1)/\dS B gD p.2 t (W3.setRow w.heap.size (mv G.m))/\Kd gD t t w (W3.setRow w.heap.size (mv G.m))) ⟨fun q=>absurd q (by omega),fun _=>by
    have e:ku (eZ d.rules) d.kept d.runs (d.vers.getD (ki:Int).toNat 0) ki day=G:=(by rw[di,aT.o];exact HG.o);rw[e];exact⟨rfl,HO.o⟩⟩)
   go_wp2_with(first|(refine aO rfl 155 _ rfl _ rfl _ _ _ _ k9 BJ rfl (by kernel_rfl) ?_;clear k9)|(refine wpList_store_mid rfl 155 _ _ rfl gD 7 #[.slice R G.l.length N,ag G.n] rfl rfl ?th (by kernel_rfl) (by simp[Value.oneCell']) ?_;(case th=>exact aS.o);rw[bj])|(refine aO rfl 39 _ rfl _ rfl _ _ _ _ bk cj rfl (bg _) ?_)|(refine aC rfl 39 _ _ rfl _ _ rfl rfl _ _ aN (bg _) (by simp[bU]) (dI _) ?_))
   refine aX (v:= .agg (mv G.m)) ?_ rfl ⟨by rw[HP.o.1],HP.o.2⟩;exact bn rfl _ _ w.heap.size _ _ _ _ rfl HR.o cj rfl (bg _)
end
end
theorem iT {p:Array Oper}{f:List Oper}{o:Oper}{a:Act}{Q:Exit->Act->World->Prop}{w:World}(B:o.guard=none)(s x:Operand)(t T:TypeId){z:Value}{size d:Nat}(R:o.op= .call {callee:= .builtin .append,args:= #[s,x],argTypes:= #[t,t]})
  (E:prog.underlying t=some (.slice T)) (C:(prog.info? T).map (fun i=>(i.zero,i.size,i.bytes))=some (some z,size,d)) (V:z.cells.size=size) (D:0<size) (A:d<=1000)
  {e n:Nat} {v:Value} {xs:List Value} (S:a.eval s=v) (m:w.ownsRow e T size v n xs) {g c:Nat} {b:Array Value} (U:a.eval x= .slice (some (ae g 0)) 1 c) (P:w.heap[g]? =ah b T) (O:b.size=size) (L:b.all (·.oneCell')=true) (W:n<=100000) (k:e<=w.heap.size)
  (h: ∀l r,r.ownsRow e T size l (n+1) (xs++b.toList)->w.grownBy r v.ownBlock->(l.ownBlock=v.ownBlock\/l.ownBlock=some w.heap.size)->(∃y K,l= .slice (some (ae y 0)) (n+1) K)->wpList prog p Q f (a.put o.dst l) r):wpList prog p Q (o::f) a w:=by
 obtain⟨i,hi,G,H,I⟩:=qX C;refine wpList_append_own_at w B s x t R e T i z size d E hi G H I V D v n xs S m ⟨g,0,none⟩ 1 c b.toList U (by rw[cg,O,Nat.one_mul]) (fun j u F=> ?_) (fun u F=> ?_) (by unfold maxLen;omega) (bh (Nat.mul_le_mul (by omega:n+1<=100001) A) (by decide)) k fun l r J M _ N=>h l r J M N ?_
 ·rw[show(⟨g,0,none⟩:Addr).add j=⟨g,j,none⟩ by simp[Addr.add];exact fun h=>h.symm,aW _ _ _ _ _ _ P,<-bq];exact F
 ·exact(Array.all_eq_true'.1 L) u (Array.mem_toList_iff.1 F)
 ·rcases J.2 with⟨_,q⟩|⟨y,cap,_,q,_⟩
  ·omega
  ·exact⟨y,cap,q⟩
theorem pL {α:Type}{m:Nat}{f:α->Array Value}(a: ∀p,(f p).size=m): ∀{l:List α} {j:Nat} {p:α},l[j]? =some p-> ∀k,k<m->(l.flatMap fun p=>(f p).toList)[j*m+k]? =(f p)[k]?
 |[],j,p,h,_,_=>by simp at h
 |x::l,0,p,h,k,b=>by
  have:x=p:=(by simpa using h);subst this;rw[List.flatMap_cons,Nat.zero_mul,bN,eP (by rw[cg,a];exact b),bq]
 |x::l,j+1,p,h,k,b=>by
  rw[List.flatMap_cons,dR (by rw[cg,a,Nat.add_mul];omega),cg,a];have:=pL a (l:=l) (j:=j) (p:=p) (by simpa using h) k b;rw[show(j+1)*m+k-m=j*m+k by rw[Nat.add_mul];omega];exact this
theorem qp {α:Type}{m a e n:Nat}{f:α->Array Value}{w:World}{v:Value}{l:List α}(b: ∀p,(f p).size=m)(h:w.ownsRow a e m v n (l.flatMap fun p=>(f p).toList))(s:n=l.length){j:Nat}{p:α}(d:l[j]? =some p): ∃g c,v= .slice (some (ae g 0)) n c/\a<=g/\w.rangeAt g (j*m) (f p).toList:=by
 obtain⟨g,c,r,o,q⟩:=tB h (by have:=(aE.1 d).1;omega);refine⟨g,c,r,o,fun k u i=>q _ u ?_⟩;rw[pL b d k (by have:=(aE.1 i).1;rw[cg,b]at this;exact this),<-bq];exact i
theorem nbs (w:World)(z c:Array Value)(T:TypeId): ∃a W,w.alloc (.cells z T)=a/\a.heap[w.heap.size]? =ah z T/\a.setRow w.heap.size c=W/\ao w W/\W.heap[w.heap.size]? =ah c T:=by
 obtain⟨a,d,e,b⟩:=nb w z T;exact⟨a,_,d,b,rfl,below_setRow e (aA _) c,aK _ _ _ c _ _ b⟩
def apZ:Array Value:= #[ag 0,ag 0,ag 0,ag 0,ag 0,ag 0,ag 0,ag 0,ag 0,ag 0,af]
theorem re (a:Ap)(p:Option Addr)(n c:Nat):(apC (a,.slice p n c)).all (·.oneCell')=true:=by simp[apC,Value.oneCell']
theorem Ta:(prog.info? 171).map (fun i=>(i.zero,i.size,i.bytes))=some (some (.agg #[ag 0,ag 0]),2,16):=by kernel_rfl
theorem NI (p:Ap×Value):(apC p).size=11:=rfl
theorem NJ (p:Sv×Value):(svC p).size=4:=rfl
def tkB (r day b:Int)(a:Ap)(i:Nat):Bool:=(((i:Int) !=b)&&((a.st !=3)&&((a.day==day)&&decide (r∈a.who))))
theorem IU (r day b:Int){l:List Ap}{j:Nat}{a:Ap}(h:l[j]? =some a):ni r day b (l.drop j) j=if tkB r day b a j=true then(a.fr,a.to)::ni r day b (l.drop (j+1)) (j+1) else ni r day b (l.drop (j+1)) (j+1):=by
 obtain⟨c,d⟩:=aE.1 h;rw[bG c,d];have e:(tkB r day b a j=true)=((j:Int)≠b/\a.st≠3/\a.day=day/\r∈a.who):=by simp[tkB]
 simp only[ni,e]
section
section
variable {B gD:Nat} {d:Dk} {t:Tr} {w w':World}
theorem DkM.ap (b: ∃m k o kv n e,DkM B gD d t m k o kv n e w){j:Nat}(y:j<d.aps.length): ∃(a:Ap) (p:Option Addr) (c g f:Nat),d.aps[j]? =some a/\t.av= .slice (some (ae g 0)) d.aps.length f/\B<=g/\w.rangeAt g (j*11) (apC (a,.slice p a.who.length c)).toList/\Rob (Fx gD t) (fun u=>fk u (.slice p a.who.length c) a.who) w:=by
 obtain⟨m,k,o,kv,n,e,b⟩:=b;have x:e.length=d.aps.length:=by rw[<-b.ape,bm]
 obtain⟨⟨a,v⟩,i⟩: ∃p,e[j]? =some p:=⟨e[j]'(by omega),az _⟩
 have ha:=b.apr _ (aL i);obtain⟨p,c,l,_,_⟩:=ha.here;dsimp only at l ha;subst l;obtain⟨g,f,q,r,s⟩:=qp NI b.aps rfl i;refine⟨a,p,c,g,f,by rw[<-b.ape,bf,i];rfl,by rw[q,x],r,s,ha⟩
theorem NK (r day g:Int)(w:World)(h:dS B gD d t w)(h0:0<=r)(hr:r<d.res.length):Calls prog 161 #[ab gD 0,ag r,ag day,ag g] w fun e w'=>e= .returned (.agg (mv (lc d r day g).1))/\dS B gD (lc d r day g).2 t w'/\Kd gD t t w w':=by
 have hz:=ea;obtain⟨Y,hA,bA,nA⟩:=nb w (mv fun _=>false) 39;have a0:Y.heap.size=w.heap.size+1:=by rw[<-hA];simp
 have aj:=h.opened (aA _) a0 bA;have ac:=aG aj;obtain⟨ay,ak⟩:=aj;have aE:=aG ak;obtain⟨rv,cv,vv,kv,ss,aa,hm⟩:=ak;have aw:aa.length=d.aps.length:=by rw[<-hm.ape,bm]
 obtain⟨n,hn⟩:=aq d.aps.length;have HN:=aG hn;obtain⟨pa,ca,S⟩:=dy hm.aps;rw[aw,hn]at S;have z3:=cr 3 hm.blk rfl;have a7:Y.cell? (ae gD 3)=some t.av:=z3;have C:t.av= .slice pa n ca:=S;rw[C]at a7;have aW:n<=30:=by rw[<-hn];exact ay.al
 have a8:=aG C;have H0:=aG h;have a9:=aG bA;have aJ:=aG h0;have aL:=aG hr;have ba:w.heap.size<=Y.heap.size:=by omega
 clear h hm aw hn z3 S C ay h0 hr bA a0;go_enter func161,ntmps161;go_wp2_with fail;clear a7 hA;go_loopw [9,10,11,18] (fun v _ _ q wr=> ∃(j:Nat) (l:List (Int×Int)),q=ag (j:Int)/\j<=n/\ao Y wr/\wr.ownsRow Y.heap.size 171 2 v l.length (iZ l)/\l.length<=j/\ni r day g d.aps 0=l++ni r day g (d.aps.drop j) j) (fun _ _ _ q _=>n-(intOf q).toNat);case atStart=>exact⟨0,[],rfl,by omega,aF _ _,df _ _ _ _,aA _,rfl⟩
 case round=>
  obtain⟨j,l,rfl,hj,s,m,aS,hX⟩:=hrel;have aZ:(0:Int)<=(j:Int):=(by omega);by_cases aR:j<n
  ·have ar:(j:Int)<(n:Int):=(by omega);obtain⟨a,X,Q,ga,aM,ha,a2,_,az,K⟩:=DkM.ap aE.o (j:=j) (by rw[HN.o];exact aR);have e0:Value.slice pa n ca= .slice (some (ae ga 0)) n aM:=(by rw[<-a8.o,<-HN.o];exact a2);injection e0 with e1 e3 e2;subst e1 e2;clear e3 a2;rw[IU r day g ha]at hX;have u:=gU az s;have L:=(K.below s).here;obtain⟨wZ,wB,hZ,nZ,hB,bB,nB⟩:=nbs wr apZ (apC (a,.slice X a.who.length Q)) 197;unfold apZ at hZ nZ;have y0:wB.cell? (ae wr.heap.size 0)=some (ag a.st):=cr 0 nB rfl;have y8:wB.cell? (ae wr.heap.size 8)=some (ag a.day):=cr 8 nB rfl;have aV:wB.cell? (ae wr.heap.size 10)=some (.slice X a.who.length Q):=cr 10 nB rfl;have Z:=lV a.who _ r wB (L.below bB);have ah:=au s bB;have F:=bH m fun b H=>bB.block b (m.lt b H).2;obtain⟨b1,aP⟩:=aq ((j:Int) !=g);obtain⟨b2,T⟩:=aq (a.st !=3);obtain⟨b3,G⟩:=aq (a.day==day);obtain⟨b4,D⟩:=aq (decide (r∈a.who));have hT:tkB r day g a j=(b1&&(b2&&(b3&&b4))):=(by unfold tkB;rw[aP,T,G,D]);rw[hT]at hX;rw[D]at Z;obtain⟨fr,am⟩:=aq a.fr;obtain⟨to,a1⟩:=aq a.to;have I:=aG hX;have P:=fun W=>B9 a X Q W;rw[am,a1]at I P;have M:=aG ah;have f:=aG F;clear hX hT D az L K m s F ah ha am a1;cases b1 with
   |false=>
    clear Z P T G;go_wp2_with(first|(refine wpList_load_mid rfl 197 _ rfl ga (j*11) rfl (apC (a,.slice X a.who.length Q)).toList _ u apT rfl (by kernel_rfl) ?_)|(refine aC rfl 197 _ _ rfl _ _ rfl rfl _ _ nZ (by kernel_rfl) rfl (re _ _ _ _) ?_;rw[hB]))
    go_roundw;case rel=>exact⟨j+1,l,by go_num,by omega,M.o,f.o,by omega,I.o⟩
    case measure=>simp[intOf];omega
   |true=>
    cases b2 with
    |false=>
     clear Z P G;go_wp2_with(first|(refine wpList_load_mid rfl 197 _ rfl ga (j*11) rfl (apC (a,.slice X a.who.length Q)).toList _ u apT rfl (by kernel_rfl) ?_)|(refine aC rfl 197 _ _ rfl _ _ rfl rfl _ _ nZ (by kernel_rfl) rfl (re _ _ _ _) ?_;rw[hB]))
     go_roundw;case rel=>exact⟨j+1,l,by go_num,by omega,M.o,f.o,by omega,I.o⟩
     case measure=>simp[intOf];omega
    |true=>
     cases b3 with
     |false=>
      clear Z P;go_wp2_with(first|(refine wpList_load_mid rfl 197 _ rfl ga (j*11) rfl (apC (a,.slice X a.who.length Q)).toList _ u apT rfl (by kernel_rfl) ?_)|(refine aC rfl 197 _ _ rfl _ _ rfl rfl _ _ nZ (by kernel_rfl) rfl (re _ _ _ _) ?_;rw[hB]))
      go_roundw;case rel=>exact⟨j+1,l,by go_num,by omega,M.o,f.o,by omega,I.o⟩
      case measure=>simp[intOf];omega
     |true=>
      go_wp2_with(first|(refine wpList_load_mid rfl 197 _ rfl ga (j*11) rfl (apC (a,.slice X a.who.length Q)).toList _ u apT rfl (by kernel_rfl) ?_)|(refine aC rfl 197 _ _ rfl _ _ rfl rfl _ _ nZ (by kernel_rfl) rfl (re _ _ _ _) ?_;rw[hB]))
      refine Z.mono ?_;rintro e w1 ⟨rfl,b1⟩;have z:=au M.o b1;have c:=bH f.o fun b H=>b1.block b (f.o.lt b H).2;have V:=bt b1 nB;clear Z y0 y8 aV nB u b1 M f T G;cases b4 with
      |false=>
       have M:=aG z;have f:=aG c;clear P z c V;go_wp2_with fail;go_roundw;case rel=>exact⟨j+1,l,by go_num,by omega,M.o,f.o,by omega,I.o⟩
       case measure=>simp[intOf];omega
      |true=>
       have ad:=P w1;clear P;go_wp2_with(refine aO rfl 197 _ rfl _ rfl _ _ _ _ V apT rfl (by kernel_rfl) ?_)
       refine ad.mono ?_;rintro e w2 ⟨rfl,b2⟩;have J:=au z b2;have x:=bH c fun b H=>b2.block b (c.lt b H).2;obtain⟨wC,hC,bC,nC⟩:=nb w2 #[ag fr,ag to] 171;have y:=bH x fun b H=>bC.block b (x.lt b H).2;have A:=au J bC;clear ad z c V x J b2 bC;go_wp2_with(at_builtin;refine iT rfl _ _ 137 171 rfl BN Ta rfl (by decide) (by decide) rfl y rfl nC rfl (by simp[Value.oneCell']) (by omega) A.size ?_)
       rintro v' w4 E an _ g4 c4 rfl;have D:=A.grown an A.size (fun k hk=>(y.lt k hk).1)
       have f:T4 (w4.ownsRow Y.heap.size 171 2 (.slice (some (ae g4 0)) (l.length+1) c4) (l++[(fr,to)]).length (iZ (l++[(fr,to)]))):=by
        show World.ownsRow _ _ _ _ _ _ _;rw[vn,aN];exact E
       clear y E an A hC nC;go_wp2_with fail;go_roundw;case rel=>exact⟨j+1,l++[(fr,to)],by go_num,by omega,D,f.o,by simp;omega,by rw[I.o];simp⟩
       case measure=>simp[intOf];omega
  ·have ar: ¬(j:Int)<(n:Int):=(by omega)
   have af:ni r day g d.aps 0=l:=by
    rw[hX,dn (by have:=HN.o;omega)];simp[ni]
   have I:=aG af;have U:=ac.o.below s;have cM:=Ca r day wr U aJ.o aL.o;have f:=aG m;have aB:=aG s;have aY:=aG U;have a6:=bt s nA;obtain⟨pl,cl,aU⟩:=dy m;subst aU;clear hX af m s U nA aS;go_wp2_with fail;refine cM.mono ?_;rintro e w1 ⟨rfl,ai,p⟩
   have c:w1.ownsRow Y.heap.size 171 2 (.slice pl l.length cl) l.length (iZ l):=bH f.o fun b H=>by
    have ax:=f.o.lt b H;exact p.blk b (ac.o.fx (.inr ax.1)).1 ax.2
   have cO:=Gl _ l w1 (iu.of_own c).row;have a3:=Kd.at (t:=t) (t':=t) H0.o (aA _) ⟨p.os,p.tape,p.output,p.size,p.blk,p.gx,rfl⟩ a6;have aH:=aG p;have aD:=aG ai;obtain⟨N,R⟩:=aq ((gY d r day).1);rw[R];have aI:=aG R;clear cM c p ai R a6;go_wp2_with fail;refine cO.mono ?_;rintro e w2 ⟨rfl,b2⟩;have cD:=ro N (inl l) w2;have a4:=bt b2 a3;clear cO a3;go_wp2_with fail;refine cD.mono ?_;rintro e w3 ⟨rfl,b3⟩;have O:=au b2 b3;have a5:=bt b3 a4;have hk: ∀k,k<w3.heap.size->k≠w.heap.size->(w3.setRow w.heap.size (mv fun i=>(N i&& !inl l i)&&decide (i<1440))).heap[k]? =w3.heap[k]? :=fun k _ aT=>aQ _ _ _ _ aT
   have HO:T4 (dS B gD (gY d r day).2 t (w3.setRow w.heap.size (mv fun i=>(N i&& !inl l i)&&decide (i<1440)))/\Kd gD t t w (w3.setRow w.heap.size (mv fun i=>(N i&& !inl l i)&&decide (i<1440)))):=by
    refine⟨(aD.o.below O).closed (by simp) hk,?_⟩;have k1:=Kd.opened (au a9.o aB.o) (aH.o.trans (Kd.of O));exact k1.closed (aA _) rfl rfl rfl (by simp) hk
   have HR:=aG (aK _ _ _ (mv fun i=>(N i&& !inl l i)&&decide (i<1440)) _ _ a5)
   have HF:T4 (lc d r day g=(fun i=>(N i&& !inl l i)&&decide (i<1440),(gY d r day).2)):=by
    show _=_;unfold lc sC;rw[I.o,aI.o]
   clear cD hk b2 b3 O a4;go_wp2_with(refine aC rfl 39 _ _ rfl _ _ rfl rfl _ _ a5 (bg _) (by simp[bU]) (dI _) ?_)
   refine aX (v:= .agg (mv fun i=>(N i&& !inl l i)&&decide (i<1440))) ?_ rfl ⟨by rw[HF.o],by rw[HF.o];exact HO.o.1,HO.o.2⟩;exact bn rfl _ _ w.heap.size _ _ _ _ rfl HR.o cj rfl (bg _)
end
end
section
section
variable {B gD:Nat} {d:Dk} {t:Tr}
theorem Ln {n c m:Nat}{q:Option Addr}{a:Ap}{r:Int}(w:World)(h:dS B gD d t w)(G:0<=r)(I:r<d.res.length)(j:w.heap[n]? =ah #[ab gD 0] 190)(k:w.heap[c]? =ah (apC (a,.slice q a.who.length m)) 197)(u:Gx gD t c)(s:Gx gD t n):
  Calls prog 188 #[ag r,ab n 0,ab c 0] w fun e D=>e= .returned (.bool (lx a.day a.fr a.to r d).1)/\dS B gD (lx a.day a.fr a.to r d).2 t D/\Kd gD t t w D:=by
 unfold lx;dsimp only;go_enter func188,ntmps188;go_upto_region 1 with fail;refine dH (fun M _ W=>Kd gD t t w W/\dS B gD (bif M 5 then(gY d r a.day).2 else d) t W) [kn 5 (ab gD 0),kn 6 (ag r),kn 7 (ab c 8),kn 8 (ab c 8),kn 9 (ag a.day),dk 10 (.agg (mv (gY d r a.day).1)),kn 11 (.agg (apC (a,.slice q a.who.length m))),kn 12 (.agg #[ag a.fr,ag a.to]),kn 13 (.bool (jt (gY d r a.day).1 a.fr a.to)),kn 14 (.bool (!(jt (gY d r a.day).1 a.fr a.to))),kn 4 (.bool (!(jt (gY d r a.day).1 a.fr a.to)))] (fun _=>⟨Kd.of (aF _ _).drew,h.below (aF _ _).drew⟩) (fun _ _ _ _ z h=>⟨h.1.trans (Kd.of z),h.2.below z⟩) (by kernel_rfl) ?_ ?_
 ·rintro M φ W ⟨i,g⟩ _ F l A x;have N:=cr 0 ((i.blk _ s (aH j)).trans j) rfl;have E:=(i.blk _ u (aH k)).trans k;have O:W.cell? (ae c 8)=some (ag a.day):=cr 8 E rfl;clear j k;simp only[kn,dk,d6,aR,a8,Act.put,aD,aJ,aI]at A;subst A;simp only[dz,Nat.reduceAdd]at x;dsimp only[kn,dk,dK,fo,eD,Act.put];and_intros;all_goals first|exact trivial|intro L J H K f
  all_goals try (go_simp;with_reducible exact f _ _ ⟨rfl,aF _ _⟩)
  ·rw[H]at g;go_simp;refine(Ca r a.day W g G I).mono ?_;rintro C v ⟨rfl,o,p⟩;exact f _ _ ⟨rfl,i.trans p,o⟩
  ·show Oper.wp _ _ _ _ _ _;refine fh 197 _ rfl _ (by simp[Act.eval,x]) _ _ _ _ E apT rfl (by kernel_rfl) ?_;exact f _ _ ⟨rfl,aF _ _⟩
  ·go_simp;refine(B9 a q m W).mono ?_;rintro C v ⟨rfl,b⟩;exact f _ _ ⟨rfl,b⟩
  ·go_simp;refine(BO _ a.fr a.to W).mono ?_;rintro C v ⟨rfl,b⟩;exact f _ _ ⟨rfl,b⟩
 ·rintro M φ W y ⟨i,g⟩;rw[y 5 (by decide) rfl]at g;simp only[kn,dk,ep,aR,a8,Act.put,aD,aJ,aI];clear j k y;go_wp2_with fail;go_ret;exact⟨rfl,g,i⟩
end
end
section
theorem Lo (u v:Ru)(s t:Option Addr)(p r:Nat)(w:World)(ha:rC w (u,.slice s u.2.kids.length p))(H:rC w (v,.slice t v.2.kids.length r)):Calls prog 186 #[.agg #[.string ⟨u.1.toArray⟩,ag u.2.kind,ag u.2.a,ag u.2.b,.string ⟨u.2.name.toArray⟩,.slice s u.2.kids.length p],.agg #[.string ⟨v.1.toArray⟩,ag v.2.kind,ag v.2.a,ag v.2.b,.string ⟨v.2.name.toArray⟩,.slice t v.2.kids.length r]] w fun e J=>e= .returned (.bool (qN u v))/\ao w J:=by
 obtain⟨K,M,D,F⟩:=nb w #[.string ⟨u.1.toArray⟩,ag u.2.kind,ag u.2.a,ag u.2.b,.string ⟨u.2.name.toArray⟩,.slice s u.2.kids.length p] 80;obtain⟨L,I,y,j⟩:=nb K #[.string ⟨v.1.toArray⟩,ag v.2.kind,ag v.2.a,ag v.2.b,.string ⟨v.2.name.toArray⟩,.slice t v.2.kids.length r] 80;have f:=au D y;have i:=bt y F;obtain⟨_,_,d,E⟩:=ha;obtain⟨_,_,G,m⟩:=H;have c:=NF d _ _ (hgt u.2+1) G u.2 v.2 s t p r L (fun k z=>aT z f.size) (fun k z=>aT z f.size) (Nat.lt_succ_self _) (E.kept fun g _ A=>f.block g A) (m.kept fun g _ A=>f.block g A);have C:T4 (qN u v=(decide (u.1=v.1)&&mg (hgt u.2+1) u.2 v.2)):=rfl;have O:=cr 0 i rfl;have P:=cr 1 i rfl;have Q:=cr 2 i rfl;have R:=cr 3 i rfl;have S:=cr 4 i rfl;have T:=cr 5 i rfl;have U:=cr 0 j rfl;have V:=cr 1 j rfl;have W:=cr 2 j rfl;have X:=cr 3 j rfl;have Y:=cr 4 j rfl;have Z:=cr 5 j rfl;have B:=aG f;have n:=uQ u.1 v.1;clear E m D y F j i f;by_cases q:u.1=v.1
 ·rw[bc q]at n;have x:=aG q;clear q;go_enter func186,ntmps186;go_wp2_with fail;refine c.mono ?_;rintro e N ⟨rfl,l⟩;have f:=au B.o l;clear c l;go_wp2_with fail;go_ret;exact⟨by rw[C.o];simp[x.o],f⟩
 ·rw[bo q]at n;have x:=aG q;clear c q;go_enter func186,ntmps186;go_wp2_with fail;go_ret;exact⟨by rw[C.o];simp[x.o],B.o⟩
section
variable {B gD:Nat} {d:Dk} {t:Tr}
theorem Lp {X Y k:Nat}{v2:Value}{j:List (Ru×Value)}(w:World)(h:dS B gD d t w)(C:InR w v2 j)(hk:k<j.length)(n1:w.heap[X]? =ah #[ab gD 0] 190)(n2:w.heap[Y]? =ah #[v2] 23):
  Calls prog 185 #[ag (k:Int),ab X 0,ab Y 0] w fun e w'=>e= .returned (.bool (jP d.rules (j.map (fun p=>p.1)) (k:Int)))/\ao w w':=by
 obtain⟨_,rv,cv,vv,kv,ss,aa,A⟩:=h;obtain⟨U,i,r⟩:=A.rules.here;have v:=cr 0 A.blk rfl;obtain⟨pr,g,rfl⟩:=i.form;obtain⟨pn,cn,rfl⟩:=C.form;obtain⟨n,T⟩:=aq U.length;obtain⟨m,S⟩: ∃m,j.length=m:=⟨_,rfl⟩
 have HU:=aG C;have HR:=aG i;rw[T]at v;rw[S]at n2 hk;have ad:(0:Int)<=(k:Int):=by omega
 have af:(k:Int)<(m:Int):=by omega
 obtain⟨⟨b,vb⟩,c⟩: ∃p,j[k]? =some p:=⟨j[k]'(by omega),az _⟩
 by_cases ai:k<n
 ·have u:((k:Int)>=(n:Int))=False:=by simp;omega
  have ac:(k:Int)<(n:Int):=(by omega);obtain⟨⟨a,va⟩,ha⟩: ∃p,U[k]? =some p:=⟨U[k]'(by omega),az _⟩
  obtain⟨y,D,e3,G,H,I,J,L,N⟩:=i.cells k _ ha;obtain⟨Z,o4,e4,b0,b1,b2,b3,O,b5⟩:=C.cells k _ c;have ra:=i.all _ (aL ha);have rb:=C.all _ (aL c);obtain⟨p1,c1,q1⟩:=(Classical.choose_spec ra.2.2).form;obtain⟨p2,V,q2⟩:=(Classical.choose_spec rb.2.2).form;dsimp only at G H I J L N b0 b1 b2 b3 O b5 q1 q2;subst q1 q2 e3 e4
  have E:T4 (jP d.rules (j.map (fun p=>p.1)) (k:Int)= !qN a b):=by
   show _=_;have P:d.rules[k]? =some a:=(by rw[<-r,bf,ha];rfl);have h2:(j.map (fun p=>p.1))[k]? =some b:=(by rw[bf,c];rfl);have h3: ¬(d.rules.length:Int)<=(k:Int):=(by rw[<-r,bm];omega);unfold jP;rw[di,P,h2];simp[h3]
  go_enter func185,ntmps185;go_upto_region 1 with fail;refine dH (fun _ _ W=>ao w W) [kn 5 (ag (k:Int)),kn 6 (ab gD 0),kn 7 (ab gD 0),kn 8 (ab gD 0),kn 9 (ab gD 0),kn 10 (.slice (some (ae y D)) n g),kn 11 (ag (n:Int)),kn 12 (.bool false),kn 13 (.bool false),kn 14 (ab gD 0),kn 15 (ab gD 0),kn 16 (ab gD 0),kn 17 (ab gD 0),kn 18 (.slice (some (ae y D)) n g),kn 19 (ag (k:Int)),kn 20 (ab y (D+k*6)),kn 21 (.agg #[.string ⟨a.1.toArray⟩,ag a.2.kind,ag a.2.a,ag a.2.b,.string ⟨a.2.name.toArray⟩,.slice p1 a.2.kids.length c1]),kn 22 (.slice (some (ae Z o4)) m cn),kn 23 (ag (k:Int)),kn 24 (ab Z (o4+k*6)),kn 25 (.agg #[.string ⟨b.1.toArray⟩,ag b.2.kind,ag b.2.a,ag b.2.b,.string ⟨b.2.name.toArray⟩,.slice p2 b.2.kids.length V]),kn 26 (.bool (qN a b)),kn 27 (.bool (!qN a b)),kn 28 (.bool (!qN a b)),kn 4 (.bool (!qN a b))] (fun _=>(aF _ _).drew) (fun _ _ _ _ c h=>au h c) (by kernel_rfl) ?_ ?_
  ·rintro M φ W c _ F l s Q;have z1:=cr 0 (bt c n1) rfl;have z2:=cr 0 (bt c n2) rfl;have v:W.cell? (ae gD 0)=some (.slice (some (ae y D)) n g):=aj c v;have f:=fun(q:Addr) (x:Value) (h:w.cell? q=some x)=>aj c h;have G:=f _ _ G;have H:=f _ _ H;have I:=f _ _ I;have J:=f _ _ J;have L:=f _ _ L;have N:=f _ _ N;have b0:=f _ _ b0;have b1:=f _ _ b1;have b2:=f _ _ b2;have b3:=f _ _ b3;have O:=f _ _ O;have b5:=f _ _ b5;have cS:=Lo a b p1 p2 c1 V W (ra.below c) (rb.below c);simp only[kn,d6,aR,a8,Act.put,aD,aJ,aI]at s;subst s;simp only[dz,Nat.reduceAdd]at Q;dsimp only[kn,dK,fo,eD,Act.put];and_intros;all_goals first|exact trivial|intro hw T A K z
   all_goals try (go_simp;with_reducible exact z _ _ ⟨rfl,aF _ _⟩)
   go_simp;refine cS.mono ?_;rintro r' W' ⟨rfl,R⟩;exact z _ _ ⟨rfl,R⟩
  ·rintro M φ W hM c;simp only[kn,ep,aR,a8,Act.put,aD,aJ,aI];go_wp2_with fail;go_ret;exact⟨by rw[E.o];rfl,c⟩
 ·have u:(n:Int)<=(k:Int):=by omega
  have E:T4 (jP d.rules (j.map (fun p=>p.1)) (k:Int)=true):=by
   show _=_;have P:d.rules[k]? =none:=(by rw[<-r,bf,fc (by omega)];rfl);unfold jP;rw[di,P]
  go_enter func185,ntmps185;go_upto_region 1 with fail;refine dH (fun _ _ W=>ao w W) [kn 5 (ag (k:Int)),kn 6 (ab gD 0),kn 7 (ab gD 0),kn 8 (ab gD 0),kn 9 (ab gD 0),kn 10 (.slice pr n g),kn 11 (ag (n:Int)),kn 12 (.bool true),kn 13 (.bool true),kn 14 (undef),kn 15 (undef),kn 16 (undef),kn 17 (undef),kn 18 (undef),kn 19 (undef),kn 20 (undef),kn 21 (undef),kn 22 (undef),kn 23 (undef),kn 24 (undef),kn 25 (undef),kn 26 (undef),kn 27 (undef),kn 28 (.bool true),kn 4 (.bool true)] (fun _=>(aF _ _).drew) (fun _ _ _ _ c h=>au h c) (by kernel_rfl) ?_ ?_
  ·rintro M φ W c _ F l s Q;have z1:=cr 0 (bt c n1) rfl;have v:W.cell? (ae gD 0)=some (.slice pr n g):=aj c v;simp only[kn,d6,aR,a8,Act.put,aD,aJ,aI]at s;subst s;simp only[dz,Nat.reduceAdd]at Q;dsimp only[kn,dK,fo,eD,Act.put];and_intros;all_goals first|exact trivial|intro hw T A K z
   all_goals try (go_simp;with_reducible exact z _ _ ⟨rfl,aF _ _⟩)
  ·rintro M φ W hM c;simp only[kn,ep,aR,a8,Act.put,aD,aJ,aI];go_wp2_with fail;go_ret;exact⟨by rw[E.o];rfl,c⟩
end
end
section
theorem P7 (n c:Nat)(w:World):(binOp .eql 43 (.slice none n c) (af)).run prog w= .ok (.bool true) w:=by rfl
theorem RS (q:Addr)(n c:Nat)(w:World):(binOp .eql 43 (.slice (some q) n c) (af)).run prog w= .ok (.bool false) w:=by rfl
attribute [local go_sem] P7 RS
theorem IW (a:List Int)(v:Value)(w:World)(h:fk w v a)(E:a.length<=1000):Calls prog 164 #[v] w fun e f=> ∃d,e= .returned d/\f.ownsRow w.heap.size 3 1 d a.length (dt a)/\ao w f:=by
 have m:=aG h;obtain⟨p,c,rfl,F,t⟩:=h;cases p with
 |none=>
  have y:a=[]:=by
   cases a with
   |nil=>rfl
   |cons x l=>
    obtain⟨g,o,e,_⟩:=t 0 x rfl;cases e
  subst y;go_enter func164,ntmps164;go_wp2_with fail;go_ret;exact⟨_,rfl,df _ _ _ _,aF _ _⟩
 |some q=>
  obtain⟨C,r,b,B⟩:=nb w #[] 3;have j:=Lq C B w.heap.size (aA _);have z:=m.o.below b;go_enter func164,ntmps164;go_wp2_with(first|(refine uD rfl rfl ?_;rw[r])|(at_builtin;refine vC rfl _ _ rfl w.heap.size [] a _ _ rfl j rfl z (by simp;omega) b.size ?_))
  intro d f i n;have s:=b.grown n b.size (fun k u=>(j.lt k u).1);obtain⟨G,D,A⟩:=dy i;subst A;go_wp2_with fail;go_ret;exact⟨_,rfl,i,s⟩
end
section
section
variable {B gD:Nat} {d d':Dk} {t t':Tr} {rv cv vv kv:Value} {ss ss':List (Sv×Value)} {aa aa':List (Ap×Value)} {w w':World}
theorem DkM.turn (h:DkM B gD d t rv cv vv kv ss aa w)(c:Kd gD t t' w w')(l:w'.heap[gD]? =ah #[rv,t'.ev,t'.sv,t'.av,cv,vv,ag d'.given,kv,ag d'.runs] 157)(g:d'.rules=d.rules)(j:d'.vers=d.vers)(k:d'.kept=d.kept)
  (r1:w'.ownsRow B 9 1 t'.ev d'.res.length (d'.res.map ly)) (v:w'.ownsRow B 53 4 t'.sv ss'.length (svF ss')) (x:w'.ownsRow B 197 11 t'.av aa'.length (apF aa')) (r:ss'.map (fun p=>p.1)=d'.svs) (s:aa'.map (fun p=>p.1)=d'.aps)
  (n: ∀p∈ss',p∈ss\/Rob (Fx gD t') (fun u=>fZ u p.2 p.1.roles) w') (o: ∀p∈aa',(∃a,(a,p.2)∈aa/\a.who=p.1.who)\/Rob (Fx gD t') (fun u=>fk u p.2 p.1.who) w'):DkM B gD d' t' rv cv vv kv ss' aa' w':=by
 refine⟨l,h.lo,by rw[g];exact c.rob h.rules,by rw[g];exact c.rob h.codes,by rw[j];exact c.rob h.vers,by rw[k];exact c.rob h.kept,r1,v,r,fun p b=> ?_,x,s,fun p b=> ?_,fun q i=> ?_⟩
 ·rcases n p b with b|b
  ·exact c.rob (h.svr p b)
  ·exact b
 ·rcases o p b with⟨a,b,e⟩|b
  ·rw[<-e];exact c.rob (h.apr (a,p.2) b)
  ·exact b
 ·rw[c.xs]at i;have f:=h.nx q i;have m:=c.gx q f.1 f.2.2;exact⟨aT f.1 c.size,f.2.1,m⟩
theorem Lr {k:Nat}{v:Value}(_:DkM B gD d t rv cv vv kv ss aa w){l:World}{b:Value}(m:b=t.ev\/b=t.sv\/b=t.av)(g:w.grownBy l b.ownBlock)(n:v.ownBlock=b.ownBlock\/v.ownBlock=some w.heap.size)(j:(t'={t with ev:=v}/\b=t.ev)\/(t'={t with sv:=v}/\b=t.sv)\/(t'={t with av:=v}/\b=t.av)):Kd gD t t' w (l.setCell ⟨gD,k,none⟩ v):=by
 have i: ∀q,Gx gD t q->some q≠b.ownBlock:=fun q a=>by
  rcases m with rfl|rfl|rfl
  ·exact a.2.1
  ·exact a.2.2.1
  ·exact a.2.2.2
 have c: ∀q,q<w.heap.size->Gx gD t q->some q≠v.ownBlock:=fun q f a=>by
  rcases n with e|e
  ·rw[e];exact i q a
  ·rw[e];intro e;have:=ay e;omega
 refine⟨g.os,g.tape,g.output,by simpa using g.size,fun q a f=>((aM _ _ _ _ a.1).trans (g.block q f (i q a))),fun q f a=> ?_,?_⟩
 ·rcases j with⟨rfl,_⟩|⟨rfl,_⟩|⟨rfl,_⟩
  ·exact⟨a.1,c q f a,a.2.2.1,a.2.2.2⟩
  ·exact⟨a.1,a.2.1,c q f a,a.2.2.2⟩
  ·exact⟨a.1,a.2.1,a.2.2.1,c q f a⟩
 ·rcases j with⟨rfl,_⟩|⟨rfl,_⟩|⟨rfl,_⟩<;>rfl
theorem vD {b1 b2 T1 c p q n o:Nat}{d f:Value}{r s:List Value}(j:w.ownsRow b1 T1 p d n r)(k:w.ownsRow b2 c q f o s)(l:T1≠c){b:Nat}(a:d.ownBlock=some b):f.ownBlock≠some b:=by
 rcases j.2 with⟨e,_⟩|⟨g,cap,i,e,_,m,_⟩
 ·rw[e]at a;cases a
 ·rw[e]at a;have:g=b:=ay a;subst this;exact j6 k m l
theorem wu {T1 g j v i t:Nat}{l m:Value}{o x:List Value}{k:Nat}{u:Value}{n:World}(a: ∃c,w.heap[gD]? =ah c 157)(d:w.ownsRow B T1 j l i o)(p:w.ownsRow B g v m t x)(r:T1≠g)(q:(157:Nat)≠T1)(s:w.grownBy n m.ownBlock):(n.setCell ⟨gD,k,none⟩ u).ownsRow B T1 j l i o:=by
 obtain⟨c,a⟩:=a;refine bH d fun b f=> ?_;exact(aM _ _ _ _ (fun e=>j6 d a q (by rw[f,e]))).trans (s.block b (d.lt b f).2 (fun e=>vD d p r f e.symm))
theorem Ab {p:List Int}{n a:Int}(c:n<=a): ∀(m i:Nat),lP p n m i=0->lP p a m i=0
 |0,_,_=>rfl
 |m+1,i,h=>by
  unfold lP at h⊢;split at h
  ·cases h
  ·rename_i d;rw[aw (by omega)];split at h
   ·cases h
   ·rename_i b;rw[aw b];exact Ab c m (i+1) h
theorem xr {n b:Int}(c:n<=b): ∀(l:List (List Int)),jC n l=0->jC b l=0
 |[],_=>rfl
 |p::l,h=>by
  unfold jC at h⊢;by_cases a:ia p n=0
  ·rw[aw (by simpa using a)]at h
   have d:ia p b=0:=by
    unfold ia at a⊢;split at a
    ·cases a
    ·rename_i e;rw[aw e];exact Ab c _ _ a
   rw[aw (by simpa using d)];exact xr c l h
  ·rw[ax a]at h;exact absurd h a
theorem FE {s:Sv}{n a:Int}(d:n<=a)(h:ff s n=0):ff s a=0:=by
 unfold ff at h⊢;split at h
 ·cases h
 ·rename_i b;rw[aw b];split at h
  ·cases h
  ·rename_i c;rw[aw c];exact xr d _ h
def qz (B:Nat)(w:World)(v:Value)(l:List Int):Prop:=fk w v l/\(∀p n k,v= .slice p n k->n<=k)/\ ∀b,v.ownBlock=some b->B<=b
def A6 (B gD:Nat)(p:An×Dk)(t:Tr)(w:World)(e:Ending)(w':World):Prop:= ∃(t':Tr) (a lv:Value),e= .returned (.agg (anC p.1 a lv))/\dS B gD p.2 t' w'/\Kd gD t t' w w'/\Rob (Fx gD t') (fun u=>qz B u a p.1.who) w'/\Rob (Fx gD t') (fun u=>fk u lv p.1.list) w'
theorem iM (P:Nat->Prop)(w:World):Rob P (fun u=>fk u (af) []) w:=fun u _ _=>⟨none,0,rfl,by simp,fun j n a=>by simp at a⟩
theorem ja {B:Nat}(P:Nat->Prop)(w:World):Rob P (fun u=>qz B u (af) []) w:=fun u _ _=>⟨⟨none,0,rfl,by simp,fun j n a=>by simp at a⟩,(fun p n k e=>by cases e;exact aA _),fun b e=>by cases e⟩
theorem jb {q:Nat}{W:World}(b:dS B gD d (t'.add q) W)(e:Kd gD t t' w W)(f:w.heap.size<=q)(c:Array Value):dS B gD d t' (W.setRow q c)/\Kd gD t t' w (W.setRow q c):=
 ⟨b.closed (by simp) fun k _ a=>aQ _ _ _ _ a,e.closed f rfl rfl rfl (by simp) fun k _ a=>aQ _ _ _ _ a⟩
theorem TF:(prog.info? 9).map (fun i=>(i.zero,i.size,i.bytes))=some (some (.string ⟨#[]⟩),1,16):=by kernel_rfl
theorem Tb:prog.underlying 103=some (.slice 9):=by kernel_rfl
theorem IX (x:List UInt8)(w:World)(h:dS B gD d t w)(hx:x.length<=9223372036854775807):Calls prog 107 #[ab gD 0,ly x] w (A6 B gD (sU d x) t w):=by
 obtain⟨Z,hA,bA,nA⟩:=nb w #[ag 0,ag 0,ag 0,ag 0,af,af] 47;have az:Z.heap.size=w.heap.size+1:=by rw[<-hA];simp
 have P:=h.opened (aA _) az bA;have D:=aG P;obtain⟨c,rv,cv,vv,kv,ss,aa,hm⟩:=P;obtain⟨pe,ce,Q⟩:=dy hm.res;obtain⟨n,Y⟩:=aq d.res.length
 have z1:Z.cell? (ae gD 1)=some (.slice pe n ce):=by
  have:=cr (v:=t.ev) 1 hm.blk rfl;rw[this,<-Y];exact congrArg some Q
 have a0:n<=12:=by rw[<-Y];exact c.rl
 have F:=aG Y;have cR:=fun(e:Int) (W:World)=>iS e W;have J:=aG bA;have E:T4 (t.ev= .slice pe n ce):=by show _=_;rw[<-Y];exact Q
 have HM:=aG hm;have HX:=aG hx;have ai:=aG c;unfold ly;by_cases G:12<=n
 ·have M:(12:Int)<=(n:Int):=by omega
  have K:T4 (sU d x=(noA 5,d)):=(by show _=_;unfold sU;rw[ax (by rw[F.o];exact G)]);go_enter func107,ntmps107;go_wp2_with fail;refine(cR 5 Z).mono ?_;rintro e w1 ⟨rfl,b1⟩;have U:=bt b1 nA;have N:=au J.o b1;have z:=aG (jb (D.o.below b1) (Kd.of (t:=t) (gD:=gD) N) (aA _) (anC (noA 5) (af) (af)));have L:=aG (aK _ _ _ (anC (noA 5) (af) (af)) _ _ U);go_wp2_with(refine aC rfl 47 _ _ rfl _ _ rfl rfl _ _ U (by kernel_rfl) rfl (by simp[anC,Value.oneCell']) ?_)
  refine aX (v:= .agg (anC (noA 5) (af) (af))) ?_ rfl ?_
  ·exact bn rfl _ _ w.heap.size _ _ _ _ rfl L.o anT rfl (by kernel_rfl)
  ·rw[K.o];exact⟨t,_,_,rfl,z.o.1,z.o.2,ja _ _,iM _ _⟩
 ·have M: ¬(12:Int)<=(n:Int):=by omega
  have cC:=Aa x Z D.o;unfold ly at cC;obtain⟨k,hk⟩:=aq (atP5 d.rules x);rw[hk]at cC;have HK:=aG hk;go_enter func107,ntmps107;go_wp2_with fail;refine cC.mono ?_;rintro e w1 ⟨rfl,b1⟩;have U:=bt b1 nA;have I:=aG (au J.o b1);have ad:=aG (D.o.below b1);have ah:=aG (HM.o.below b1);have a5:=aj b1 z1;by_cases R:k<0
  ·have K:T4 (sU d x=(noA 7,d)):=(by show _=_;unfold sU;rw[aw (by rw[F.o];exact G),HK.o,ax R]);have ak:=cR 7 w1;go_wp2_with fail;refine ak.mono ?_;rintro e q ⟨rfl,b2⟩;have n2:=bt b2 U;have N:=au I.o b2;have z:=aG (jb (ad.o.below b2) (Kd.of (t:=t) (gD:=gD) N) (aA _) (anC (noA 7) (af) (af)));have L:=aG (aK _ _ _ (anC (noA 7) (af) (af)) _ _ n2);go_wp2_with(refine aC rfl 47 _ _ rfl _ _ rfl rfl _ _ n2 (by kernel_rfl) rfl (by simp[anC,Value.oneCell']) ?_)
   refine aX (v:= .agg (anC (noA 7) (af) (af))) ?_ rfl ?_
   ·exact bn rfl _ _ w.heap.size _ _ _ _ rfl L.o anT rfl (by kernel_rfl)
   ·rw[K.o];exact⟨t,_,_,rfl,z.o.1,z.o.2,ja _ _,iM _ _⟩
  ·have K:T4 (sU d x=(me n,{d with res:=d.res++[x]})):=(by show _=_;unfold sU;rw[aw (by rw[F.o];exact G),HK.o,aw R,F.o]);obtain⟨X,hB,bB,nB⟩:=nb w1 #[.string ⟨x.toArray⟩] 9;have u:=ah.o.below bB
   have S:X.ownsRow B 9 1 (.slice pe n ce) n (d.res.map ly):=by
    have:=u.res;rw[F.o]at this;rw[<-E.o];exact this
   have am:B<=X.heap.size:=(by have:=u.lo;have:=aH u.blk;omega);have f:=aG u;have ac:=aG (au I.o bB);have V:=bt bB U;go_wp2_with(at_builtin;refine iT rfl _ _ 103 9 rfl Tb TF rfl (by decide) (by decide) rfl S rfl nB rfl (by simp[Value.oneCell']) (by omega) am ?_)
   rintro v' q C ao O m l rfl;have g:=f.o.blk;have ay:=f.o.nx w.heap.size (aV ..)
   have j:X.grownBy q (t.add w.heap.size).ev.ownBlock:=by
    show X.grownBy q t.ev.ownBlock;rw[E.o];exact ao
   have H:Kd gD (t.add w.heap.size) (({t with ev:= .slice (some (ae m 0)) (n+1) l}:Tr).add w.heap.size) X (q.setCell ⟨gD,1,none⟩ (.slice (some (ae m 0)) (n+1) l)):=Lr f.o (.inl rfl) j (by show _=t.ev.ownBlock\/_;rw[E.o];exact O) (.inl ⟨rfl,rfl⟩);have i:=(j.block gD (aH g) (fun e=>j6 f.o.res g (by decide) e.symm)).trans g;have A:=aY q gD 1 _ _ (.slice (some (ae m 0)) (n+1) l) i;have y1:=cr 1 i rfl;have x1:=bu _ _ 1 _ _ i;have n3:=(H.blk w.heap.size ay.2.2 (aH V)).trans V
   have av:DkM B gD {d with res:=d.res++[x]} (({t with ev:= .slice (some (ae m 0)) (n+1) l}:Tr).add w.heap.size) rv cv vv kv ss aa (q.setCell ⟨gD,1,none⟩ (.slice (some (ae m 0)) (n+1) l)):=by
    refine f.o.turn H A rfl rfl rfl ?_ (wu ⟨_,g⟩ f.o.svs f.o.res (by decide) (by decide) j) (wu ⟨_,g⟩ f.o.aps f.o.res (by decide) (by decide) j) f.o.sve f.o.ape (fun p hp=> .inl hp) (fun p hp=> .inl ⟨p.1,hp,rfl⟩);refine bH ?_ fun b N=>aM q ⟨gD,1,none⟩ b _ (fun e=>j6 C i (by decide) (by rw[<-show b=gD from e];exact N));show q.ownsRow B _ 1 (.slice (some (ae m 0)) (n+1) l) (d.res++[x]).length ((d.res++[x]).map ly);rw[aN,F.o,dV];exact C
   have c:=ai.o;have a1:((d.res++[x]).length:Int)=(d.res.length:Int)+1:=(by simp)
   have an:dS B gD {d with res:=d.res++[x]} (({t with ev:= .slice (some (ae m 0)) (n+1) l}:Tr).add w.heap.size) (q.setCell ⟨gD,1,none⟩ (.slice (some (ae m 0)) (n+1) l)):=⟨⟨c.flt,c.vl,c.kl,by show(d.res++[x]).length<=12;rw[aN,F.o];simp;omega,c.sl,c.al,c.gv,fun y T=>by
    rcases cZ.1 T with T|T
    ·exact c.nm y T
    ·rw[bJ.1 T];exact HX.o,fun s hs=>FE (by show(d.res.length:Int)<=((d.res++[x]).length:Int);omega) (c.sv s hs),fun a ha=>by
    obtain⟨q1,q2,q3,q4,q5,q6,q7⟩:=c.ap a ha;exact⟨q1,q2,q3,q4,q5,q6,fun r hr=>⟨(q7 r hr).1,by have:=(q7 r hr).2;show r<((d.res++[x]).length:Int);omega⟩⟩⟩,_,_,_,_,_,_,av⟩
   have ar:=Kd.opened ac.o H;have z:=aG (jb an ar (aA _) (anC (me n) (af) (af)));have y3:=cr 1 A rfl;generalize a3:q.setCell ⟨gD,1,none⟩ (.slice (some (ae m 0)) (n+1) l)=w3 at*;have L:=aG (aK _ _ _ (anC (me n) (af) (af)) _ _ n3);have a2:IntKind.i64.wrap ((n:Int)+1-1)=(n:Int):=(by rw[bQ];omega);have a4:w3.cell? (ae gD 1)=some (.slice (some (ae m 0)) (n+1) l):=y3;go_wp2_with(refine aC rfl 47 _ _ rfl _ _ rfl rfl _ _ n3 (by kernel_rfl) rfl (by simp[Value.oneCell']) ?_)
   refine aX (v:= .agg (anC (me n) (af) (af))) ?_ rfl ?_
   ·exact bn rfl _ _ w.heap.size _ _ _ _ rfl L.o anT rfl (by kernel_rfl)
   ·rw[K.o];exact⟨_,_,_,rfl,z.o.1,z.o.2,ja _ _,iM _ _⟩
end
end
section
def vE (c:Array Value):Nat->List Value->Array Value
 |_,[]=>c
 |o,v::a=>vE (c.setIfInBounds o v) (o+1) a
theorem Cb: ∀(a:List Value) (c:Array Value) (o:Nat),(vE c o a).size=c.size
 |[],_,_=>rfl
 |v::a,c,o=>by rw[vE,Cb a,ig]
theorem GK: ∀(a:List Value) (c:Array Value) (o k:Nat),o+a.length<=c.size->(vE c o a)[k]? =if o<=k/\k<o+a.length then a[k-o]? else c[k]?
 |[],c,o,k,_=>by rw[aw (by rintro⟨b,d⟩;rw[fN]at d;omega)];rfl
 |v::a,c,o,k,h=>by
  rw[bK]at h;rw[vE,GK a _ (o+1) k (by rw[ig];omega),bK];by_cases b:o+1<=k/\k<o+1+a.length
  ·rw[ax b,ax (by omega),show k-o=(k-(o+1))+1 by omega,List.getElem?_cons_succ]
  ·rw[aw b];by_cases d:k=o
   ·subst d;rw[ax (by omega),gO (by omega),jw];rfl
   ·rw[aw (by omega),dj (by omega)]
theorem Cc {g:Nat}{T:TypeId}: ∀(a:List Value) (o:Nat) (w:World) (c:Array Value),w.heap[g]? =ah c T->(w.setCells g o a).heap[g]? =ah (vE c o a) T
 |[],_,_,_,h=>h
 |v::a,o,w,c,h=>by
  rw[World.setCells,vE];exact Cc a (o+1) _ _ (aY w g o _ _ v h)
theorem kL (g:Nat): ∀(a:List Value) (o:Nat) (w:World),(w.setCells g o a).os=w.os/\(w.setCells g o a).tape=w.tape/\(w.setCells g o a).output=w.output/\(w.setCells g o a).heap.size=w.heap.size
 |[],_,_=>⟨rfl,rfl,rfl,rfl⟩
 |v::a,o,w=>by
  rw[World.setCells];obtain⟨b,c,d,e⟩:=kL g a (o+1) (w.setCell ⟨g,o,none⟩ v);exact⟨b,c,d,e.trans (by simp)⟩
theorem pN {α:Type}{m:Nat}{f:α->Array Value}(a: ∀p,(f p).size=m): ∀l:List α,(l.flatMap fun p=>(f p).toList).length=l.length*m
 |[]=>by simp
 |x::l=>by rw[List.flatMap_cons,aN,pN a l,cg,a,bK,Nat.add_mul];omega
theorem P8 {α:Type}{m b e:Nat}{f:α->Array Value}{w:World}{v:Value}{l:List α}(A:0<m)(c: ∀p,(f p).size=m)(h:w.ownsRow b e m v l.length (l.flatMap fun p=>(f p).toList)){j g:Nat}{p:α}(z:j<l.length)(n:v.ownBlock=some g):(w.setCells g (j*m) (f p).toList).ownsRow b e m v (l.set j p).length ((l.set j p).flatMap fun p=>(f p).toList):=by
 rcases h.2 with⟨i,_⟩|⟨t,cap,o,i,F,J,B,G,L,M⟩
 ·rw[i]at n;cases n
 ·rw[i]at n;have:t=g:=ay n;subst this
  have K:j*m+m<=l.length*m:=by
   have:(j+1)*m<=l.length*m:=Nat.mul_le_mul_right m z;rw[Nat.add_mul,Nat.one_mul]at this;exact this
  have H:l.length*m<=cap*m:=Nat.mul_le_mul_right m B;refine⟨pN c _,.inr ⟨t,cap,vE o (j*m) (f p).toList,by rw[jD];exact i,F,Cc _ _ _ _ J,by rw[jD];exact B,G,by rw[Cb];exact L,?_⟩⟩;rw[jD];apply List.ext_getElem?;intro k;by_cases q:k<l.length*m
  ·rw[dJ q,bq,GK _ _ _ _ (by rw[cg,c];omega),cg,c];have C:k=(k/m)*m+k%m:=(by rw[Nat.mul_comm];exact(Nat.div_add_mod k m).symm);have D:k%m<m:=Nat.mod_lt _ A;have I:k/m<l.length:=(Nat.div_lt_iff_lt_mul A).2 q;by_cases a:j*m<=k/\k<j*m+m
   ·rw[ax a]
    have s:k/m=j:=by
     apply Nat.div_eq_of_lt_le
     ·exact a.1
     ·rw[Nat.succ_mul];exact a.2
    have d:(l.set j p)[j]? =some p:=(by rw[fQ z]);have:=pL c d (k-j*m) (by omega);rw[show j*m+(k-j*m)=k by omega]at this;rw[this,<-bq]
   ·rw[aw a]
    have r:k/m≠j:=fun s=>by
     rw[s]at C;omega
    obtain⟨x,E⟩: ∃x,l[k/m]? =some x:=⟨l[k/m],az I⟩
    have u:=pL c E (k%m) D;have y:=pL c (show(l.set j p)[k/m]? =some x by rw[gH (fun e=>r e.symm)];exact E) (k%m) D;rw[<-C]at u y;rw[y,<-u,<-M,dJ q,bq]
  ·rw[fc (by rw[ef];omega),fc (by rw[pN c,jD];omega)]
section
variable {B gD:Nat} {d:Dk} {t:Tr} {w:World}
end
end
section
theorem Ls {m a e n:Nat}{w:World}{v:Value}{xs:List Value}(h:w.ownsRow a e m v n xs){j g c:Nat}(r:j<n)(o:v= .slice (some (ae g 0)) n c):w.there g (j*m) m:=fun k s=>by
 rcases h.2 with⟨_,q⟩|⟨p,cap,i,d,_,f,t,_,u,_⟩
 ·omega
 ·rw[o]at d;injection d with b _ _;injection b with b;injection b with b;subst b;have l:(j+1)*m<=cap*m:=Nat.mul_le_mul_right m (by omega);rw[Nat.add_mul,Nat.one_mul]at l;refine⟨?_,bu _ _ _ _ _ f⟩;rw[aW _ _ _ _ _ _ f,eO (by omega)];rfl
section
variable {B gD:Nat} {d:Dk} {t:Tr}
end
end
end Go.Proofs.YtpdoienkhgnceaaGreatDoor
