/- Texts of the proof. -/
import Derived.Test.YtlkehieagdkgiaaGreatDoorPe30
set_option maxRecDepth 100000
set_option maxHeartbeats 8000000
namespace Go.Proofs.YtlkehieagdkgiaaGreatDoor
open Go.Proofs.Tryz Go.RowKit Lx Vx Mx Msk
section
theorem svI:(prog.info? 36).map (fun i=>(i.zero,i.size,i.bytes))=some (some (.agg #[ag 0,ag 0,ag 0,af]),4,48):=by kernel_rfl
theorem QU:prog.underlying 26=some (.slice 36):=by kernel_rfl
theorem wn {s:Sv}{n:Int}(h:fD s n=0):s.roles.length<=1000/\ ∀l∈s.roles,l.length<=1000:=by
 unfold fD at h;split at h
 ·cases h
 ·split at h
  ·cases h
  ·refine⟨by omega,?_⟩
   have: ∀l:List (List Int),kP n l=0-> ∀p∈l,p.length<=1000:=fun l=>by
    induction l with
    |nil=>intro _ p b;cases b
    |cons q l c=>
     intro h p b;unfold kP at h;by_cases a:iV q n=0
     ·rw[ax (by simpa using a)]at h;rcases bO.1 b with rfl|b
      ·unfold iV at a;split at a
       ·cases a
       ·omega
      ·exact c h p b
     ·rw[aB a]at h;exact absurd h a
   exact this _ h
def rE (d:World)(B T size n:Nat)(v:Value)(xs:List Value)(c:Array Value)(b:Value)(a W:World):Prop:=aq d a/\a.grownBy W v.ownBlock/\(b.ownBlock=v.ownBlock\/b.ownBlock=some a.heap.size)/\W.ownsRow B T size b (n+1) (xs++c.toList)
structure SvJ (wX:World)(B gD:Nat)(s:Sv)(v:Value)(ns:Nat)(ss:List (Sv×Value))(M:Nat->Bool)(φ:Nat->Value)(W:World):Prop where
 bel:M 9=false->aq wX W
 cop:M 7=true->M 9=false-> ∃p k,φ 33= .agg (svC (s,.slice p s.roles.length k))/\Rob (fun q=>wX.heap.size<=q) (fun u=>fu u (.slice p s.roles.length k) s.roles) W
 one:M 8=true->M 9=false-> ∃g c x,φ 34= .slice (some (ae g 0)) 1 c/\φ 33= .agg x/\W.heap[g]? =ah x 36
 app:M 9=true->M 13=false-> ∃g c p k W0,φ 35= .slice (some (ae g 0)) (ns+1) c/\rE wX B 36 4 ns v (svF ss) (svC (s,.slice p s.roles.length k)) (φ 35) W0 W/\Rob (fun q=>wX.heap.size<=q/\q<W0.heap.size) (fun u=>fu u (.slice p s.roles.length k) s.roles) W
 sto:M 13=true-> ∃g c p k W0 W1,φ 35= .slice (some (ae g 0)) (ns+1) c/\rE wX B 36 4 ns v (svF ss) (svC (s,.slice p s.roles.length k)) (φ 35) W0 W1/\Below W1.heap.size (W1.setCell ⟨gD,2,none⟩ (φ 35)) W/\Rob (fun q=>wX.heap.size<=q/\q<W0.heap.size) (fun u=>fu u (.slice p s.roles.length k) s.roles) W
theorem rE.below {i:World}{B T size n:Nat}{v:Value}{xs:List Value}{c:Array Value}{g:Value}{e W d:World}(h:rE i B T size n v xs c g e W)(a:aq W d):rE i B T size n v xs c g e d:=⟨h.1,⟨a.os.trans h.2.1.os,a.tape.trans h.2.1.tape,a.output.trans h.2.1.output,bg h.2.1.size a.size,fun k f j=>(a.block k (aU f h.2.1.size)).trans (h.2.1.block k f j)⟩,h.2.2.1,br h.2.2.2 fun b l=>a.block b (h.2.2.2.lt b l).2⟩
theorem Ly (a:List (Sv×Value))(p:Sv×Value):svF (a++[p])=svF a++(svC p).toList:=by simp[svF]
theorem DkM.addSv {B gD:Nat}{d:Dk}{t:Tr}{M J N kv:Value}{C:List (Sv×Value)}{I:List (Ap×Value)}{D E i W:World}{s:Sv}{v f:Value}(r:DkM B gD d t M J N kv C I D)(O:rE D B 36 4 C.length t.sv (svF C) (svC (s,v)) f E i)(P:Below i.heap.size (i.setCell ⟨gD,2,none⟩ f) W)(z:Rob (fun q=>D.heap.size<=q/\q<E.heap.size) (fun u=>fu u v s.roles) W):
  DkM B gD {d with svs:=d.svs++[s]} {t with sv:=f} M J N kv (C++[(s,v)]) I W/\Kd gD t {t with sv:=f} D W:=by
 obtain⟨x,g,L,l⟩:=O;have a:=r.below x;have Q:=aI r.blk;have G:=C7 (t':={t with sv:=f}) (k:=2) a (.inr (.inl rfl)) g L (.inr (.inl ⟨rfl,rfl⟩));have j:=(g.block gD (aI a.blk) fun e=>iI a.svs a.blk (by decide) e.symm).trans a.blk;have H: ∀b,f.ownBlock=some b->b≠gD:=fun b F e=>iI l j (by decide) (by rw[F,e]);have m:Below (i.setCell ⟨gD,2,none⟩ f).heap.size (i.setCell ⟨gD,2,none⟩ f) W:=P.mono (by simp);have y:=G.trans (Kd.of m);have c: ∀{e s n:Nat} {u:Value} {xs:List Value},(i.setCell ⟨gD,2,none⟩ f).ownsRow B e s u n xs->W.ownsRow B e s u n xs:=fun K=>br K fun b w=>m.block b (K.lt b w).2;refine⟨a.turn y (bt m (aY i gD 2 _ _ f j)) rfl rfl rfl (c (qI ⟨_,a.blk⟩ a.res a.svs (by decide) (by decide) g)) (c (br ?_ fun b w=>aO i ⟨gD,2,none⟩ b f (H b w))) (c (qI ⟨_,a.blk⟩ a.aps a.svs (by decide) (by decide) g)) (by simp[a.sve]) a.ape (fun p o=> ?_) (fun p o=> .inl ⟨p.1,o,rfl⟩),(Kd.of x).trans y⟩
 ·rw[aP,Ly];exact l
 ·rcases da.1 o with o|o
  ·exact .inl o
  ·rw[cQ.1 o];refine .inr (z.move (aD _) (fun _ _ _=>rfl) fun q S w=>⟨⟨by omega,mq r.res (.inr w.1),fun e=> ?_,mq r.aps (.inr w.1)⟩,fun R=>by have:=(r.nx q R).1;omega⟩);rcases L with A|A
   ·have:=(a.svs.lt q (by rw[<-A,<-e])).2;have:=(r.svs.lt q (by rw[<-A,<-e])).2;omega
   ·have:q=E.heap.size:=aN (e.trans A);omega
section
variable {B gD:Nat} {d:Dk} {t:Tr}
theorem GM (s:Sv)(p:Option Addr)(c:Nat)(w:World)(h:dE B gD d t w)(hr:fu w (.slice p s.roles.length c) s.roles):Calls prog 31 #[ab gD 0,.agg (svC (s,.slice p s.roles.length c))] w (rD B gD (sD d s) t w):=by
 obtain⟨Q,hA,bA,nA⟩:=nb w (svC (s,.slice p s.roles.length c)) 36;obtain⟨wB,hB,bB,nB⟩:=nb Q #[ag 0,ag 0,ag 0,ag 0,af,af] 43;have aY:wB.heap.size=Q.heap.size+1:=by rw[<-hB];simp
 have bn:Q.heap.size=w.heap.size+1:=by rw[<-hA];simp
 have X:=aw bA bB;have aV:=h.opened (q:=Q.heap.size) bA.size aY X;have a6:=aE aV;have ai:=aE X;have ad:=bt bB nA;have a7:=aE (hr.below X);obtain⟨j,rv,cv,vv,kv,ss,aa,A⟩:=aV;have a5:ss.length=d.svs.length:=by rw[<-A.sve,bc]
 obtain⟨ps,cs,ac⟩:=cg A.svs;obtain⟨pe,ce,ay⟩:=cg A.res;obtain⟨m,N⟩:=au ss.length;obtain⟨ne,Z⟩:=au d.res.length;rw[N]at ac;rw[Z]at ay;have z2:wB.cell? (ae gD 2)=some (.slice ps m cs):=(cr (v:=t.sv) 2 A.blk rfl).trans (congrArg some ac);have z1:wB.cell? (ae gD 1)=some (.slice pe ne ce):=(cr (v:=t.ev) 1 A.blk rfl).trans (congrArg some ay);have bv:m<=8:=by rw[<-N,a5];exact j.sl
 have bp:ne<=12:=by rw[<-Z];exact j.rl
 have H:Rb (d.svs.length=m):=by show _=_;rw[<-a5,N]
 have a8:=aE N;have an:=aE Z;have a9:Rb (t.sv= .slice ps m cs):=ac;have HM:=aE A;have bd:=aE j;have bx:w.heap.size<Q.heap.size:=by omega
 have bu:gD<w.heap.size:=by
  obtain⟨_,_,_,_,_,_,_,bm⟩:=h;exact aI bm.blk
 have H0:=aE h;clear h hr A j a5 ac ay N Z nA bA bB X bn aY;by_cases V:8<=m
 ·have bh:(8:Int)<=(m:Int):=by omega
  have HP:Rb (sD d s=(noA 5,d)):=(by show _=_;unfold sD;rw[aB (by rw[H.o];exact V)]);have cR:=fj 5 wB;go_enter func31,ntmps31;go_wp2_with fail;refine cR.mono ?_;rintro e w2 ⟨rfl,b2⟩;have n2:=bt b2 nB;have HO:=aE (fK (a6.o.below b2) (Kd.of (aw ai.o b2)) (by omega) (anC (noA 5) (af) (af)));have HR:=aE (aL _ _ _ (anC (noA 5) (af) (af)) _ _ n2);clear cR b2 nB;go_wp2_with(refine az rfl 43 _ _ rfl _ _ rfl rfl _ _ n2 (by kernel_rfl) rfl (by simp[anC,noA,Value.oneCell']) ?_)
  refine aX (v:= .agg (anC (noA 5) (af) (af))) ?_ rfl ?_
  ·exact bf rfl _ _ Q.heap.size _ _ _ _ rfl HR.o anT rfl (by kernel_rfl)
  ·rw[HP.o];exact⟨t,_,_,rfl,HO.o.1,HO.o.2,fp _ _,eE _ _⟩
 ·have bh: ¬(8:Int)<=(m:Int):=by omega
  obtain⟨er,Y⟩:=au (fD s ne);have T:=aE Y;go_enter func31,ntmps31;go_upto_region 3 with fail;refine dl (fun _ _ W=>aq wB W) [kn 14 (.agg (svC (s,.slice p s.roles.length c))),kn 15 (ab gD 0),kn 16 (ab gD 0),kn 17 (ab gD 0),kn 18 (ab gD 1),kn 19 (.slice pe ne ce),kn 20 (ag (ne:Int)),kn 21 (ag er),kn 5 (ag er)] (fun _=>(aH _ _).drew) (fun _ _ _ _ f h=>aw h f) (by kernel_rfl) ?_ ?_
  ·rintro M φ W f _ F l S R;have n1:=bt f ad;have z1:=aj f z1;have cW:=yN s (.slice p s.roles.length c) (ne:Int) W (a7.o.below f);rw[Y]at cW;clear Y ad nB z2;simp only[kn,dX,aQ,aT,Act.put,aA,aK,aJ]at S;subst S;simp only[dn,Nat.reduceAdd]at R;dsimp only[kn,dy,eJ,dY,Act.put];and_intros;all_goals first|exact trivial|intro hw hn A K L
   all_goals try (go_simp;with_reducible exact L _ _ ⟨rfl,aH _ _⟩)
   ·show Oper.wp _ _ _ _ _ _;refine eN 36 _ rfl _ (by simp[Act.eval,R]) _ _ _ _ n1 svT rfl (by kernel_rfl) ?_;exact L _ _ ⟨rfl,aH _ _⟩
   ·go_simp;refine cW.mono ?_;rintro r' W' ⟨rfl,ao⟩;exact L _ _ ⟨rfl,ao⟩
  ·rintro M φ wX hM f;simp only[kn,d8,aQ,aT,Act.put,aA,aK,aJ];have aZ:=bt f ad;have O:=bt f nB;have y2:=aj f z2;have ak:=aE f;have k:=HM.o.below f;have bb:=aE k;clear hM f ad nB z1 z2 Y k hA hB;by_cases h0:er=0
   ·subst h0;have a4:=wn T.o;have k:=bb.o;have bk:=aI k.blk;have z:wX.ownsRow B 36 4 (.slice ps m cs) m (svF ss):=(by have:=k.svs;rw[a8.o]at this;rw[<-a9.o];exact this);have bi:B<=wX.heap.size:=(by have:=k.lo;omega);go_upto_region 6 with fail;refine dl (SvJ wX B gD s (.slice ps m cs) m ss) [kn 26 (ab gD 0),kn 27 (ab gD 0),kn 28 (ab gD 0),kn 29 (ab gD 0),kn 30 (ab gD 2),kn 31 (.slice ps m cs),kn 32 (.agg (svC (s,.slice p s.roles.length c))),td 33,td 34,td 35,kn 36 (ab gD 0),kn 37 (ab gD 0),kn 38 (ab gD 2),nk] (fun _=>⟨fun _=>(aH _ _).drew,(fun h=>by cases h),(fun h=>by cases h),(fun h=>by cases h),(fun h=>by cases h)⟩) (fun _ _ _ _ f h=>⟨fun c=>(h.bel c).trans (f.mono (h.bel c).size),fun c r=> ?_,fun c r=> ?_,fun c r=> ?_,fun c=> ?_⟩) (by kernel_rfl) ?_ ?_
    ·obtain⟨C,r,e,hr⟩:=h.cop c r;exact⟨C,r,e,hr.below f⟩
    ·obtain⟨g,c1,x,e1,e2,hg⟩:=h.one c r;exact⟨g,c1,x,e1,e2,bt f hg⟩
    ·obtain⟨g,c1,C,k',W0,e1,hg,hr⟩:=h.app c r;exact⟨g,c1,C,k',W0,e1,hg.below f,hr.below f⟩
    ·obtain⟨g,c1,C,k',W0,W1,e1,hg,aN,hr⟩:=h.sto c;exact⟨g,c1,C,k',W0,W1,e1,hg,aN.trans (f.mono (by have:=aN.size;simpa using this)),hr.below f⟩
    ·rintro M φ W hJ hc F l S R;have aF:M 9=true->M 8=true:=fun h=>hc 9 _ rfl h ⟨8,.data⟩ (by simp) rfl rfl;have aC:M 8=true->M 7=true:=fun h=>hc 8 _ rfl h ⟨7,.data⟩ (by simp) rfl rfl;have aM:M 13=true->M 9=true:=fun h=>hc 13 _ rfl h ⟨9,.data⟩ (by simp) rfl rfl;have n:=aE (fV aF (fV aC aM));have U:=aE hJ;clear hc aF aC aM hJ;simp only[kn,td,nk,dX,aQ,aT,Act.put,aA,aK,aJ]at S;subst S;simp only[dn,Nat.reduceAdd]at R;dsimp only[kn,dk,td,nk,dy,eJ,dY,Act.put];and_intros;all_goals first|exact trivial|intro hw hn A K L
     all_goals try (go_simp;with_reducible exact L _ _ ⟨rfl,aH _ _⟩)
     ·have f:=U.o.bel (hn 9 _ rfl (by kernel_rfl));have y:=aj f y2;go_simp;exact L _ _ ⟨rfl,aH _ _⟩
     ·have n1:=bt (U.o.bel (je n.o.1 (je n.o.2.1 (hn 7 _ rfl (by kernel_rfl))))) aZ;show Oper.wp _ _ _ _ _ _;refine eN 36 _ rfl _ (by simp[Act.eval,R]) _ _ _ _ n1 svT rfl (by kernel_rfl) ?_;exact L _ _ ⟨rfl,aH _ _⟩
     ·have V:=je n.o.2.1 A;have E:=je n.o.1 V;have hD:=je n.o.2.2 E;have f:=U.o.bel E;have cC:=GF s p c W ((a7.o.below ak.o).below f) a4.1 a4.2;clear hw hn;go_simp;refine cC.mono ?_;rintro r' W' ⟨C,r,rfl,i,ao⟩;exact L _ _ ⟨trivial,fun _=>aw f ao,fun _ _=>⟨C,r,dV,i.move (aD _) (fun _ _ _=>rfl) fun q _ G=>bg f.size G⟩,fun c _=>mr V c (by decide),fun c _=>mr E c (by decide),fun c=>mr hD c (by decide)⟩
     ·have h7:=hw ⟨7,.data⟩ (by simp) rfl rfl;have E:=je n.o.1 A;have hD:=je n.o.2.2 E;have f:=U.o.bel E;obtain⟨C,r,J,i⟩:=U.o.cop h7 E;have aR:=am W (.cells (svC (s,.slice C s.roles.length r)) 36);have HF:=aE R;rw[J]at R;clear hw hn;go_simp;exact L _ _ ⟨trivial,fun _=>aw f aR,fun _ _=>⟨C,r,(dH (by decide)).trans J,i.below aR⟩,fun _ _=>⟨W.heap.size,1,_,dV,(dH (by decide)).trans J,aG _ _⟩,fun c _=>mr E c (by decide),fun c=>mr hD c (by decide)⟩
     ·have V:=hw ⟨8,.data⟩ (by simp) rfl rfl;have hD:=je n.o.2.2 A;have f:=U.o.bel A;obtain⟨C,r,J,i⟩:=U.o.cop (n.o.2.1 V) A;obtain⟨g,c1,x,be,ah,hg⟩:=U.o.one V A;obtain rfl:svC (s,.slice C s.roles.length r)=x:=(by rw[J]at ah;injection ah);have a3:=br z fun b G=>f.block b (z.lt b G).2;show Oper.wp _ _ _ _ _ _;refine gV (ops:= #[]) rfl (iN (c:=c1) rfl _ _ 26 36 rfl QU svI rfl (by decide) (by decide) (by simp[Act.eval,R]) a3 (by simp[Act.eval,R,be]) hg rfl (qJ _ _ _ _) (by omega) (bg bi f.size) ?_);rintro v' w' ho a0 bj ⟨g2,c2,rfl⟩;refine⟨rfl,L _ _ ⟨trivial,fun c=>by simp at c,fun _ c=>by simp at c,fun _ c=>by simp at c,fun _ _=>⟨g2,c2,C,r,W,dV,?_,Rob.move (P:=fun q=>wX.heap.size<=q/\q<W.heap.size) (w:=W) (fun u hu ha=>i u hu fun q G S=>ha q ⟨G,S⟩ S) a0.size (fun q G S=>a0.block q S fun e=>by have:=(z.lt q e.symm).2;omega) fun _ _ h=>h⟩,fun c=>mr hD c (by decide)⟩⟩;rw[dV];exact⟨f,a0,bj,ho⟩
     ·have E:=hw ⟨9,.data⟩ (by simp) rfl rfl;obtain⟨g,c1,C,r,W0,D,hG,i⟩:=U.o.app E A;have I:=(hG.2.1.block gD (aU bk hG.1.size) fun e=>iI z k.blk (by decide) e.symm).trans (bt hG.1 k.blk);have y:=cr 2 I rfl;have x2:=bo _ _ 2 _ _ I;rw[D]at R;clear hw hn I;go_simp;refine L undef _ ⟨trivial,fun c=> ?_,fun _ c=> ?_,fun _ c=> ?_,fun _ c=>by simp at c,fun _=>⟨g,c1,C,r,W0,W,D,hG,by rw[D];exact aH _ _,i.move (by simp) (fun q G _=>aO _ _ _ _ (fun e=>by have:q=gD:=e;omega)) fun _ _ h=>h⟩⟩
      ·rw[orZ (by decide),E]at c;cases c
      ·rw[orZ (by decide),E]at c;cases c
      ·rw[orZ (by decide),E]at c;cases c
    ·rintro M φ W hM hJ;obtain⟨g,c1,C,r,W0,W1,D,hG,av,i⟩:=hJ.sto (hM 13 (by decide) rfl);simp only[kn,td,nk,d8,aQ,aT,Act.put,aA,aK,aJ];rw[D]at hG av;rw[D];obtain⟨a2,a1⟩:=k.addSv (d:=d) (s:=s) (by rw[a8.o];show rE wX B 36 4 m t.sv _ _ _ _ _;rw[a9.o];exact hG) av i;have j:=bd.o;have bl:((d.svs++[s]).length:Int)=(d.svs.length:Int)+1:=(by simp)
     have aS:dE B gD {d with svs:=d.svs++[s]} (({t with sv:= .slice (some (ae g 0)) (m+1) c1}:Tr).add Q.heap.size) W:=⟨⟨j.flt,j.vl,j.kl,j.rl,by show(d.svs++[s]).length<=8;rw[aP,H.o];simp;omega,j.al,j.gv,j.nm,fun q G=>by
      rcases da.1 G with G|G
      ·exact j.sv q G
      ·rw[cQ.1 G];show fD s (d.res.length:Int)=0;rw[an.o];exact T.o,fun a ha=>by
      obtain⟨q1,q2⟩:=j.ap a ha;exact⟨⟨q1.1,by have:=q1.2;show a.sv<((d.svs++[s]).length:Int);omega⟩,q2⟩⟩,_,_,_,_,_,_,a2⟩
     have aW:Kd gD t {t with sv:= .slice (some (ae g 0)) (m+1) c1} w W:=Kd.opened (q:=Q.heap.size) (aw ai.o ak.o) a1;have HP:Rb (sD d s=(jd m,{d with svs:=d.svs++[s]})):=(by show _=_;unfold sD;rw[ax (by rw[H.o];exact V),an.o,T.o,ax (by simp),H.o]);have ba:=(a1.blk Q.heap.size (k.nx _ bq).2.2 (aI O)).trans O;have y3:W.cell? (ae gD 2)=some (.slice (some (ae g 0)) (m+1) c1):=cr 2 a2.blk rfl;have HO:=aE (fK aS aW (by omega) (anC (jd m) (af) (af)));have HR:=aE (aL _ _ _ (anC (jd m) (af) (af)) _ _ ba);have bw:IntKind.i64.wrap ((m:Int)+1-1)=(m:Int):=(by rw[bU];omega);clear hM hJ hG av i a2 a1 aS aW j bl y2 aZ O k z a4;go_wp2_with(refine az rfl 43 _ _ rfl _ _ rfl rfl _ _ ba (by kernel_rfl) rfl (by simp[Value.oneCell']) ?_)
     refine aX (v:= .agg (anC (jd m) (af) (af))) ?_ rfl ?_
     ·exact bf rfl _ _ Q.heap.size _ _ _ _ rfl HR.o anT rfl (by kernel_rfl)
     ·rw[HP.o];exact⟨_,_,_,rfl,HO.o.1,HO.o.2,fp _ _,eE _ _⟩
   ·have bs:(er !=0)=true:=(by simpa using h0);have HP:Rb (sD d s=(noA er,d)):=(by show _=_;unfold sD;rw[ax (by rw[H.o];exact V),an.o,T.o,aB h0]);clear h0;have cR:=fj er wX;go_wp2_with fail;refine cR.mono ?_;rintro e w2 ⟨rfl,b2⟩;have n2:=bt b2 O;have ar:=aw ak.o b2;have HO:=aE (fK (a6.o.below ar) (Kd.of (aw ai.o ar)) (by omega) (anC (noA er) (af) (af)));have HR:=aE (aL _ _ _ (anC (noA er) (af) (af)) _ _ n2);clear cR b2 ar O;go_wp2_with(refine az rfl 43 _ _ rfl _ _ rfl rfl _ _ n2 (by kernel_rfl) rfl (by simp[anC,noA,Value.oneCell']) ?_)
    refine aX (v:= .agg (anC (noA er) (af) (af))) ?_ rfl ?_
    ·exact bf rfl _ _ Q.heap.size _ _ _ _ rfl HR.o anT rfl (by kernel_rfl)
    ·rw[HP.o];exact⟨t,_,_,rfl,HO.o.1,HO.o.2,fp _ _,eE _ _⟩
end
end
def mkF (l:List M):List Value:=l.flatMap fun f=>(mv f).toList
theorem qK (f:M):(mv f).size=23:=di f
theorem NU (n:Nat):(lm n).toList=mkF (List.replicate n fun _=>false):=by
 apply List.ext_getElem?;intro i;by_cases hi:i<n*23
 ·have a:i/23<n:=Nat.div_lt_of_lt_mul (by omega);have b:i%23<23:=Nat.mod_lt _ (by omega);have c:i=i/23*23+i%23:=(by omega);have d:(List.replicate n (fun _=>false:M))[i/23]? =some fun _=>false:=(by rw[iy,aB a]);rw[c,bx,A6 a b];exact(py qK d _ b).symm
 ·rw[eO (by simp[lm,madeCells];omega),eO (by unfold mkF;rw[pB qK,List.length_replicate];omega)]
theorem Ju (f:List Int->Bool)(F:Nat)(q:Array Value)(a:List (List Int))(O:Value)(w:World)(eF: ∀m w,(callFunc F m).run prog w= .ok (.enter F m) w)(h:fu w O a)(N: ∀l∈a,∀sv W,aq w W->dM W sv l->Calls prog F (#[sv]++q) W fun e w'=>e= .returned (.bool (f l))/\aq W w'):
  Calls prog 139 #[O,.func (.func F) #[] q] w fun e w'=> ∃k:Int,e= .returned (ag k)/\decide (0<=k)=a.any f/\aq w w':=by
 have R:=aE h;obtain⟨p,c,rfl,C,K⟩:=h;have Q:=aE N;obtain⟨n,I⟩:=au a.length;have L:=aE I;rw[I]at C⊢;have aa:(n:Int)<9223372036854775808:=by omega
 clear N I K;go_enter func139,ntmps139;go_wp2_with fail;go_loopw [5,8] (fun _ t wr=> ∃(j:Nat),t=ag (j:Int)/\j<=n/\aq w wr/\a.any f=(a.drop j).any f) (fun _ t _=>n-(intOf t).toNat);case atStart=>exact⟨0,rfl,by omega,aH _ _,rfl⟩
 case round=>
  obtain⟨j,rfl,hj,d,s⟩:=hrel;have H:(0:Int)<=(j:Int):=(by omega);by_cases Z:j<n
  ·have D:(j:Int)<(n:Int):=(by omega);obtain⟨x,G⟩: ∃x,a[j]? =some x:=⟨a[j]'(by have:=L.o;omega),ay _⟩
   have B:(a.drop j).any f=(f x||(a.drop (j+1)).any f):=by
    obtain⟨X,Y⟩:=aF.1 G;rw[bJ X,Y];rfl
   rw[B]at s;obtain⟨p',c',S,_,i⟩:=R.o;injection S with T V U;subst T U;obtain⟨g,o,sv,J,z,r⟩:=i j x G;subst J;have A:=aj d z;have c1:=Q.o x (aM G) sv wr d (r.below d);obtain⟨ps,cs,rfl,_,_⟩:=r;obtain⟨b,M⟩:=au (f x);rw[M]at c1 s;have E:=aE s;have P:=aE d;clear s M G i B z d V;go_wp2_with fail;refine c1.mono ?_;rintro e w1 ⟨rfl,v⟩;have y:=aw P.o v;clear c1 A v;cases b with
   |true=>
    have u:Rb (a.any f=true):=E.o;clear E;go_wp2_with fail;go_ret;exact⟨j,rfl,by rw[u.o];exact bh H,y⟩
   |false=>
    have u:Rb (a.any f=(a.drop (j+1)).any f):=E.o;clear E;go_wp2_with fail;go_roundw;case rel=>exact⟨j+1,by go_num,by omega,y,u.o⟩
    case measure=>simp[intOf];omega
  ·have D: ¬(j:Int)<(n:Int):=(by omega)
   have u:Rb (a.any f=false):=by
    show _=_;rw[s,dq (by have:=L.o;omega)];rfl
   clear s;go_wp2_with fail;go_ret;exact⟨-1,rfl,by rw[u.o];rfl,d⟩
theorem Ah (f:List Int->Bool)(F:Nat)(a:Array Value)(i:List (List Int))(n:Value)(w:World)(t: ∀d w,(callFunc F d).run prog w= .ok (.enter F d) w)(h:fu w n i)(r: ∀l∈i,∀sv W,aq w W->dM W sv l->Calls prog F (#[sv]++a) W fun e w'=>e= .returned (.bool (f l))/\aq W w'):
  Calls prog 111 #[n,.func (.func F) #[] a] w fun e w'=>e= .returned (.bool (i.any f))/\aq w w':=by
 have c0:=Ju f F a i n w t h r;obtain⟨p,c,rfl,m,j⟩:=h;clear j m r;go_enter func111,ntmps111;go_wp2_with fail;refine c0.mono ?_;rintro e x ⟨k,rfl,v,u⟩;clear c0;obtain⟨b,g⟩: ∃q,i.any f=q:=⟨_,rfl⟩
 rw[g]at v;have s:=aE g;clear g;go_wp2_with fail;go_ret;exact⟨by rw[s.o];rfl,u⟩
theorem GN {d j:Nat}(l:List Int)(sv:Value)(W:World)(h:dM W sv l)(f:W.heap[d]? =ah #[ag (j:Int)] 3):Calls prog 112 #[sv,ab d 0] W fun e w'=>e= .returned (.bool (decide ((j:Int)∈l)))/\aq W w':=by
 have c1:=jM l sv (j:Int) W h;have z:=cr 0 f rfl;obtain⟨p,c,rfl,b,a⟩:=h;clear b a f;go_enter func112,ntmps112;go_wp2_with fail;refine c1.mono ?_;rintro e i ⟨rfl,g⟩;clear c1;go_wp2_with fail;go_ret;exact⟨rfl,g⟩
section
theorem rY (d:Dk)(r day a:Int):Cor d (iH d r day a).2:=tI d r day
theorem Jv (s:Sv)(day:Int){n j:Nat}(a:j<n)(d:Dk):gG s day (n-j) j d=if s.roles.any (fun p=>decide ((j:Int)∈p))=true then((iH d (j:Int) day (-1)).1::(gG s day (n-(j+1)) (j+1) (iH d (j:Int) day (-1)).2).1,(gG s day (n-(j+1)) (j+1) (iH d (j:Int) day (-1)).2).2) else(noM::(gG s day (n-(j+1)) (j+1) d).1,(gG s day (n-(j+1)) (j+1) d).2):=by
 rw[show n-j=(n-(j+1))+1 by omega];rfl
section
variable {B gD:Nat} {d:Dk} {t:Tr} {w w':World}
theorem dE.wr (h:dE B gD d t w)(l:w.heap.size<=w'.heap.size)(c: ∀k,k<w.heap.size->k∉t.xs->w'.heap[k]? =w.heap[k]?):dE B gD d t w':=by
 obtain⟨r,A,o,D,kv,C,m,h⟩:=h;have mv: ∀{Φ:World->Prop},Rob (Fx gD t) Φ w->Rob (Fx gD t) Φ w':=fun v=>v.move l (fun k x y=>c k y x.2) fun _ _ h=>h;have rk: ∀{e s n:Nat} {u:Value} {xs:List Value},w.ownsRow B e s u n xs->(∀q∈t.xs,some q≠u.ownBlock)->w'.ownsRow B e s u n xs:=fun j z=>br j fun b i=>c b (j.lt b i).2 fun g=>z b g i.symm;exact⟨r,A,o,D,kv,C,m,(c gD (aI h.blk) fun g=>(h.nx gD g).2.2.1 rfl).trans h.blk,h.lo,mv h.rules,mv h.codes,mv h.vers,mv h.kept,rk h.res fun q a=>(h.nx q a).2.2.2.1,rk h.svs fun q a=>(h.nx q a).2.2.2.2.1,h.sve,fun p f=>mv (h.svr p f),rk h.aps fun q a=>(h.nx q a).2.2.2.2.2,h.ape,fun p f=>mv (h.apr p f),fun q a=>⟨aU (h.nx q a).1 l,(h.nx q a).2⟩⟩
theorem Kd.on {q:Nat}(h:Kd gD t t w w'):Kd gD (t.add q) (t.add q) w w':=⟨h.os,h.tape,h.output,h.size,h.blk,fun _ _ h=>h,rfl⟩
theorem Kd.off {q:Nat}(h:Kd gD (t.add q) (t.add q) w w'):Kd gD t t w w':=⟨h.os,h.tape,h.output,h.size,h.blk,fun _ _ h=>h,rfl⟩
structure FrJ (B gD:Nat)(t:Tr)(d e:Dk)(wX:World)(gm o:Nat)(c:Array Value)(M:Nat->Bool)(W:World):Prop where
 kd:M 7=false->Kd gD t t wX W
 st:M 7=false->dE B gD (bif M 5 then e else d) (t.add gm) W
 fin:M 7=true-> ∃W0,Kd gD t t wX W0/\dE B gD e (t.add gm) W0/\Below W0.heap.size (W0.setCells gm o c.toList) W
theorem Ed (s:Sv)(p:Option Addr)(c:Nat)(day:Int)(w:World)(h:dE B gD d t w)(hr:Rob (Fx gD t) (fun u=>fu u (.slice p s.roles.length c) s.roles) w):Calls prog 66 #[ab gD 0,.agg (svC (s,.slice p s.roles.length c)),ag day] w fun e w'=> ∃gm,e= .returned (.slice (some (ae gm 0)) d.res.length d.res.length)/\w.heap.size<=gm/\w'.ownsRow w.heap.size 55 23 (.slice (some (ae gm 0)) d.res.length d.res.length) d.res.length (mkF (gG s day d.res.length 0 d).1)/\dE B gD (gG s day d.res.length 0 d).2 t w'/\Kd gD t t w w':=by
 obtain⟨a,hA,bA,nA⟩:=nb w (svC (s,.slice p s.roles.length c)) 36;obtain⟨aM,rv,cv,vv,kv,ss,aa,Y⟩:=h.below bA;obtain⟨pe,ce,al⟩:=cg Y.res;obtain⟨n,L⟩:=au d.res.length;rw[L]at al;have z1:a.cell? (ae gD 1)=some (.slice pe n ce):=(cr (v:=t.ev) 1 Y.blk rfl).trans (congrArg some al);have bm:n<=12:=by rw[<-L];exact aM.rl
 have aG:=yY n (by omega) a;obtain⟨wM,hM,bM,nM⟩:=nb a (lm n) 55;have bi:wM.heap.size=a.heap.size+1:=by rw[<-hM];simp
 have ai:=aw bA bM;have a8:=h.opened (q:=a.heap.size) bA.size bi ai
 have aL:wM.ownsRow a.heap.size 55 23 (.slice (some (ae a.heap.size 0)) n n) n (mkF (List.replicate n fun _=>false)):=by
  refine⟨by unfold mkF;rw[pB qK,List.length_replicate],.inr ⟨a.heap.size,n,lm n,rfl,aD _,nM,aD _,by unfold maxLen;omega,by simp[lm,madeCells],?_⟩⟩;rw[NU,dh (by unfold mkF;rw[pB qK,List.length_replicate];exact aD _)]
 rw[hM]at aG;have HN:=aE L;have aY:=aE a8;have bc:=aE aL;have aS:=aE ai;have bd:=aE hr;have HG:Rb (∀q,w.heap.size<=q->Gx gD t q):=fun q r=>(h.fx (.inr r)).1;have bk:=bt bM nA;have bo:w.heap.size<a.heap.size:=by rw[<-hA];simp
 have bp:a.heap.size<wM.heap.size:=by omega
 have eF: ∀V w,(callFunc 112 V).run prog w= .ok (.enter 112 V) w:=fun _ _=>rfl;rw[L];clear h hr Y aM al L nA bA bM ai a8 aL nM;go_enter func66,ntmps66;go_wp2_with fail;clear z1 aG hA hM;go_loopw [8,18] (fun _ q wr=> ∃(j:Nat) (y:Dk) (l:List M),q=ag (j:Int)/\j<=n/\Cor d y/\dE B gD y (t.add a.heap.size) wr/\Kd gD t t w wr/\wr.ownsRow a.heap.size 55 23 (.slice (some (ae a.heap.size 0)) n n) n (mkF (l++List.replicate (n-j) fun _=>false))/\l.length=j/\wr.heap[w.heap.size]? =ah (svC (s,.slice p s.roles.length c)) 36/\gG s day n 0 d=(l++(gG s day (n-j) j y).1,(gG s day (n-j) j y).2)) (fun _ q _=>n-(intOf q).toNat);case atStart=>exact⟨0,d,[],rfl,by omega,Cor.refl d,aY.o,Kd.of aS.o,bc.o,rfl,bk,rfl⟩
 case round=>
  obtain⟨j,y,l,rfl,hj,P,hd,hk,m,ao,aj,hX⟩:=hrel;have bf:(0:Int)<=(j:Int):=(by omega);have ak:y.res=d.res:=(by obtain⟨_,_,rfl⟩:=P;rfl);by_cases am:j<n
  ·have X:(j:Int)<(n:Int):=(by omega);rw[Jv s day am]at hX;obtain⟨wC,hC,bC,nC⟩:=nb wr #[ag (j:Int)] 3;have an:=hk.trans (Kd.of bC);have a7:=hd.below bC;have N:=br m fun b r=>bC.block b (m.lt b r).2;have aO:=(an.rob bd.o).here;have av:=bt bC aj;have yb:wC.cell? (ae w.heap.size 3)=some (.slice p s.roles.length c):=cr 3 av rfl;have cC:=Ah (fun p=>decide ((j:Int)∈p)) 112 #[ab wr.heap.size 0] s.roles (.slice p s.roles.length c) wC eF aO (fun l _ sv W hW aR=>GN l sv W aR (bt hW nC));obtain⟨nr,ap⟩:=au s.roles.length;rw[ap]at yb cC;have bn:=aE ap;obtain⟨bb,a5⟩:=au (s.roles.any (fun p=>decide ((j:Int)∈p)));rw[a5]at cC hX;have HX:=aE hX;have a1:=aE an;have a0:=aE a7;have af:=aE N;have az:=aE P;have G:=aE ao;have aW:=aE ak;have ay:=aE av;have bs:a.heap.size<wr.heap.size:=aU (m.lt _ rfl).2 (aD _);clear hX a5 ap aj m hk an hd a7 N P aO ao ak bC av;go_wp2_with fail;refine cC.mono ?_;rintro e w1 ⟨rfl,b1⟩;have x:=a1.o.trans (Kd.of b1);have Q:=a0.o.below b1;have i:=br af.o fun b r=>b1.block b (af.o.lt b r).2;have E:=bt b1 nC;have O:=bt b1 ay.o;clear cC yb nC hC a1 a0 af ay b1;cases bb with
   |false=>
    have aX:=aE Q;have aZ:=aE x
    have ba:Rb (w1.ownsRow a.heap.size 55 23 (.slice (some (ae a.heap.size 0)) n n) n (mkF ((l++[noM])++List.replicate (n-(j+1)) fun _=>false))):=by
     show World.ownsRow _ _ _ _ _ _ _
     have e:l++List.replicate (n-j) (fun _=>false:M)=(l++[noM])++List.replicate (n-(j+1)) fun _=>false:=by
      rw[show n-j=(n-(j+1))+1 by omega,List.replicate_succ,ef];rfl
     rw[<-e];exact i
    have HZ:Rb (gG s day n 0 d=((l++[noM])++(gG s day (n-(j+1)) (j+1) y).1,(gG s day (n-(j+1)) (j+1) y).2)):=by
     show _=_;rw[HX.o,ax (by simp),ef];rfl
    have ad:=aE O;clear HX Q x i E O;go_wp2_with fail;go_roundw;case rel=>exact⟨j+1,y,l++[noM],by go_num,by omega,az.o,aX.o,aZ.o,ba.o,by rw[aP,G.o];rfl,ad.o,HZ.o⟩
    case measure=>simp[intOf];omega
   |true=>
    have aC:(j:Int)<y.res.length:=(by rw[aW.o,HN.o];exact X);obtain⟨f,hf⟩:=au ((iH y (j:Int) day (-1)).1);obtain⟨de,R⟩:=au ((iH y (j:Int) day (-1)).2);have aV:Rb (Cor d de):=(by have:=az.o.trans (rY y (j:Int) day (-1));rw[R]at this;exact this)
    have HZ:Rb (gG s day n 0 d=((l++[f])++(gG s day (n-(j+1)) (j+1) de).1,(gG s day (n-(j+1)) (j+1) de).2)):=by
     show _=_;rw[HX.o,aB rfl,hf,R,ef];rfl
    have J:Gx gD t wr.heap.size:=HG.o _ (by omega);have a9:Gx gD t a.heap.size:=HG.o _ (by omega);clear HX;go_upto_region 6 with fail;refine dl (fun M _ W=>FrJ B gD t y de w1 a.heap.size (j*23) (mv f) M W) [kn 25 (.slice (some (ae a.heap.size 0)) n n),kn 26 (ag (j:Int)),kn 27 (ab gD 0),kn 28 (ag (j:Int)),kn 29 (ag day),dk 30 (.agg (mv f)),kn 31 (ab a.heap.size (j*23)),nk] (fun _=>⟨fun _=>Kd.of (aH _ _).drew,fun _=>Q.below (aH _ _).drew,(fun h=>by cases h)⟩) (fun _ _ _ _ hb h=>⟨fun c=>(h.kd c).trans (Kd.of hb),fun c=>(h.st c).below hb,fun c=> ?_⟩) (by kernel_rfl) ?_ ?_
    ·obtain⟨U,h1,h2,h3⟩:=h.fin c;exact⟨U,h1,h2,h3.trans (hb.mono (by have:=h3.size;rw[(eY _ _ _ _).2.2.2]at this;exact this))⟩
    ·rintro M φ W hJ hc F l' hl hF;have a2:M 7=true->M 5=true:=fun h=>hc 7 _ rfl h ⟨5,.data⟩ (by simp) rfl rfl;have HC:=aE a2;have HJ:=aE hJ;clear hc a2 hJ;simp only[kn,dk,nk,dX,aQ,aT,Act.put,aA,aK,aJ]at hl;subst hl;simp only[dn,Nat.reduceAdd]at hF;dsimp only[kn,dk,nk,dy,eJ,dY,Act.put];and_intros;all_goals first|exact trivial|intro hw hn Y K hK
     all_goals try (go_simp;with_reducible exact hK _ _ ⟨rfl,aH _ _⟩)
     ·have z:=cr 0 (((HJ.o.kd (hn 7 _ rfl (by kernel_rfl))).blk _ J (aI E)).trans E) rfl;go_simp;exact hK _ _ ⟨rfl,aH _ _⟩
     ·have z:=cr 0 (((HJ.o.kd (je HC.o (hn 5 _ rfl (by kernel_rfl)))).blk _ J (aI E)).trans E) rfl;go_simp;exact hK _ _ ⟨rfl,aH _ _⟩
     ·have h7:=je HC.o Y;have ar:dE B gD y (t.add a.heap.size) W:=(by have:=HJ.o.st h7;rw[Y]at this;exact this);have cF:=C5 (j:Int) day (-1) W ar bf aC;rw[hf,R]at cF;clear hw hn;go_simp;refine cF.mono ?_;rintro r' W' ⟨rfl,be,bh⟩;exact hK _ _ ⟨rfl,fun _=>(HJ.o.kd h7).trans bh.off,fun _=>be,fun c=>mr h7 c (by decide)⟩
     ·have h5:=hw ⟨5,.data⟩ (by simp) rfl rfl;have ar:dE B gD de (t.add a.heap.size) W:=(by have:=HJ.o.st Y;rw[h5]at this;exact this);have aF:=HJ.o.kd Y;have aN:=br i fun b r=>aF.blk b (HG.o b (by have:=(i.lt b r).1;omega)) (i.lt b r).2;have bj:W.there a.heap.size (j*23) (mv f).size:=(by rw[di];exact uP aN am rfl);show Oper.wp _ _ _ _ _ _;refine wp_store_mid 55 _ _ rfl a.heap.size (j*23) (mv f) (by simp[Act.eval,hF]) (by simp[Act.eval,hF]) bj (bl _) (dW _) ?_;refine hK undef _ ⟨trivial,fun c=>by simp at c,fun c=>by simp at c,fun _=>⟨W,aF,ar,aH _ _⟩⟩
    ·rintro M φ W hM hJ;obtain⟨U,C,a6,A⟩:=hJ.fin (hM 7 (by decide) rfl);simp only[kn,dk,nk,d8,aQ,aT,Act.put,aA,aK,aJ];have D:(l++List.replicate (n-j) (fun _=>false:Nat->Bool)).length=n:=(by rw[aP,List.length_replicate,G.o];omega);have Z:=br i fun b r=>C.blk b (HG.o b (by have:=(i.lt b r).1;omega)) (i.lt b r).2;have T:=(eY a.heap.size (mv f).toList (j*23) U).2.2.2;have aq: ∀q,q≠a.heap.size->(U.setCells a.heap.size (j*23) (mv f).toList).heap[q]? =U.heap[q]? :=fun q r=>fI a.heap.size _ _ U q r;have I:Below (U.setCells a.heap.size (j*23) (mv f).toList).heap.size (U.setCells a.heap.size (j*23) (mv f).toList) W:=A.mono (j9 T);have S:=E1 (f:=mv) (p:=f) (by decide) qK (l:=l++List.replicate (n-j) fun _=>false) (by rw[D];exact Z) (j:=j) (by rw[D];exact am) rfl
     have ac:(l++List.replicate (n-j) (fun _=>false:Nat->Bool)).set j f=(l++[f])++List.replicate (n-(j+1)) fun _=>false:=by
      rw[show n-j=(n-(j+1))+1 by omega,List.replicate_succ,List.set_append_right _ _ (by rw[G.o];exact aD _),G.o,iM,ef];rfl
     have HO:Rb (W.ownsRow a.heap.size 55 23 (.slice (some (ae a.heap.size 0)) n n) n (mkF ((l++[f])++List.replicate (n-(j+1)) fun _=>false))):=by
      rw[iE,D,ac]at S;exact br S fun b r=>I.block b (S.lt b r).2
     have HD:=aE ((a6.wr (j9 T.symm) fun k _ hx=>aq k fun e=>hx (by rw[e];exact bq)).below I);have a3:=C.size;have a4:=x.size;have H: ∀q,q≠a.heap.size->q<w1.heap.size->Gx gD t q->W.heap[q]? =w1.heap[q]? :=fun q r hl hg=>(A.block q (by omega)).trans ((aq q r).trans (C.blk q hg hl));have HK:Rb (Kd gD t t w W):=⟨A.os.trans ((eY _ _ _ _).1.trans (C.os.trans x.os)),A.tape.trans ((eY _ _ _ _).2.1.trans (C.tape.trans x.tape)),A.output.trans ((eY _ _ _ _).2.2.1.trans (C.output.trans x.output)),bg a4 (bg a3 (by have:=A.size;rw[T]at this;exact this)),fun q r hl=>(H q (by omega) (by omega) r).trans (x.blk q r hl),fun _ _ h=>h,rfl⟩
     have ad:=aE ((H w.heap.size (by omega) (aI O) (HG.o _ (aD _))).trans O);clear hM hJ C a6 A I aq S ac Z i D T H a3 a4 Q x E O hf R aC J a9;go_wp2_with fail;go_roundw;case rel=>exact⟨j+1,de,l++[f],by go_num,by omega,aV.o,HD.o,HK.o,HO.o,by rw[aP,G.o];rfl,ad.o,HZ.o⟩
     case measure=>simp[intOf];omega
  ·have X: ¬(j:Int)<(n:Int):=(by omega);obtain rfl:n=j:=(by omega);rw[iM]at hX m
   have HX:Rb (gG s day n 0 d=(l,y)):=by
    show _=_;rw[hX];simp[gG]
   have HD:=aE (hd.closed (w':=wr) (aD _) fun _ _ _=>rfl);have HK:=aE hk
   have HO:Rb (wr.ownsRow w.heap.size 55 23 (.slice (some (ae a.heap.size 0)) n n) n (mkF l)):=by
    have h1:l++List.replicate 0 (fun _=>false:M)=l:=(by simp);rw[h1]at m;exact⟨m.1,m.2.imp id fun⟨g,c,cu,q1,q2,q3⟩=>⟨g,c,cu,q1,by omega,q3⟩⟩
   clear hX hd hk m P ak ao aj;go_wp2_with fail;go_ret;exact⟨a.heap.size,rfl,by omega,by rw[HX.o];exact HO.o,by rw[HX.o];exact HD.o,HK.o⟩
end
end
theorem Pp:(prog.info? 46).map (fun i=>(i.zero,i.size,i.bytes))=some (some (af),1,24):=by kernel_rfl
theorem NV:prog.underlying 142=some (.slice 46):=by kernel_rfl
theorem slT:prog.underlying 39=some (.struct (prog.fieldsOf 39)):=by kernel_rfl
theorem Jw (s:Sv)(day:Int){m j:Nat}(a:j<m)(d:Dk):iW s day (m-j) j d=((gG s (day+j) d.res.length 0 d).1::(iW s day (m-(j+1)) (j+1) (gG s (day+j) d.res.length 0 d).2).1,(iW s day (m-(j+1)) (j+1) (gG s (day+j) d.res.length 0 d).2).2):=by
 rw[show m-j=(m-(j+1))+1 by omega];rfl
theorem pC (s:Sv)(day:Int): ∀(m r:Nat) (d:Dk),Cor d (gG s day m r d).2/\(gG s day m r d).1.length=m
 |0,_,d=>⟨Cor.refl d,rfl⟩
 |m+1,r,d=>by
  unfold gG;split
  ·exact⟨(rY d r day (-1)).trans (pC s day m (r+1) _).1,congrArg (· +1) (pC s day m (r+1) _).2⟩
  ·exact⟨(pC s day m (r+1) d).1,congrArg (· +1) (pC s day m (r+1) d).2⟩
theorem mD (d:Dk)(n:Int)(a:Ap)(day min:Int)(who:List Int):Cor d (fh d n a day min who).2:=by
 have h:=xD (f:=lc day n (min-a.bef) (min+a.len+a.aft)) (fun x d=>rY d x day n) who d;unfold fh;dsimp only;repeat' split
 all_goals first|exact Cor.refl d|exact h
theorem De (s:Sv): ∀(l:List (List (Nat->Bool))) (k:Nat) {x:Nat×Int×List Int},lU s l k=some x->x.1<k+l.length
 |[],k,x,h=>by simp[lU]at h
 |f::l,k,x,h=>by
  unfold lU at h;split at h
  ·cases h;simp
  ·have:=De s l (k+1) h;simp only[bV];omega
theorem Jx (s:Sv)(l:List (List (Nat->Bool))):0<=(ia s l).day/\(ia s l).day<=30:=by
 unfold ia;split
 ·exact⟨io _,by show(0:Int)<=30;omega⟩
 ·split
  ·exact⟨io _,by show(0:Int)<=30;omega⟩
  ·split
   ·rename_i h;have:=De s l 0 h;exact⟨by show(0:Int)<=((_:Nat):Int);omega,by show((_:Nat):Int)<=30;omega⟩
   ·exact⟨io _,by show(0:Int)<=30;omega⟩
theorem Jy {w:World}{B q:Nat}{v:Value}{m:List (List M)}{n:List Value}(o:w.ownsRow B 46 1 v m.length n)(L:m.length<=1000)(N:q<=1000)(E: ∀(i:Nat) (a:List M) (u:Value),m[i]? =some a->n[i]? =some u->a.length=q/\w.ownsRow B 55 23 u q (mkF a)):vE w v m:=by
 obtain⟨p,c,x⟩:=cg o;refine⟨p,c,x,by omega,fun j a s=> ?_⟩;have G:=(aF.1 s).1;obtain⟨u,t⟩: ∃u,n[j]? =some u:=⟨n[j]'(by have:=o.1;omega),ay _⟩
 obtain⟨g,J,e,_,D⟩:=nJ o (by omega);rw[x]at e;injection e with z _ _;obtain⟨b,d⟩:=E j a u s t;refine⟨g,0,u,z,by rw[cY];exact D j u t,?_⟩;obtain⟨I,y,k⟩:=cg d;refine⟨I,y,by rw[b];exact k,by omega,fun i f hi=> ?_⟩;have F:=(aF.1 hi).1;obtain⟨C,K,r,_,H⟩:=iJ (f:=mv) (l:=a) qK d b.symm hi;rw[k]at r;injection r with A _ _;exact⟨C,0,A,by rw[cY];exact H⟩
end Go.Proofs.YtlkehieagdkgiaaGreatDoor
