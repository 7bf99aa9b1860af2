/- Texts of the proof. -/
import Derived.Test.YtaoljfdfhggbbaaGreatDoorPc39
set_option maxRecDepth 100000
set_option maxHeartbeats 8000000
namespace Go.Proofs.YtaoljfdfhggbbaaGreatDoor
open Go.Proofs.Tryz Go.RowKit Lx Vx Mx Msk
section
theorem ly {R:Ending->World->Prop}{a:Act}{w:World}(g:Nat)(c:Array Value)(er:Int)(j:c.size=11)(k:a.defers=[])(e:a.tmps.getD 8 undef=ab g 0)(f:a.tmps.getD 9 undef=ag er)
  (l:w.heap[g]? =ah c 45) (i:R (.returned (.tuple #[.agg c,ag er])) w):bodyPost prog f18 R .ret a w:=by
 refine aW (v:= .tuple #[.agg c,ag er]) ?_ k i;have n:f18.results= #[ResultVar.cell 8 45,ResultVar.tmp 9]:=rfl;have b:a.tmps[8]?.getD undef=ab g 0:=by simpa using e
 have d:a.tmps[9]?.getD undef=ag er:=by simpa using f
 have m:=dX (P:=prog) w g 45 45 _ _ _ l apT rfl (by rw[j];kernel_rfl);simp[results,b,d,asAddr,m]
theorem Cz {who:List Int}{roles:List (List Int)}{n:Int}(f: ∀p∈roles,xK p n)(o:who.length=roles.length): ∀(m i:Nat),i+m=who.length->rD who roles m i=0-> ∀k,i<=k-> ∀r,who[k]? =some r->0<=r/\r<n
 |0,i,h,_,k,l,r,c=>by have:=(aG.1 c).1;omega
 |m+1,i,h,a,k,l,r,c=>by
  unfold rD at a;split at a
  ·cases a
  ·rename_i d;split at a
   ·cases a
   ·by_cases e:k=i
    ·subst e;have g:who.getD k 0=r:=(by simp[List.getD,c]);obtain⟨p,b⟩: ∃p,roles[k]? =some p:=⟨roles[k]'(by omega),az _⟩
     have j:roles.getD k []=p:=(by simp[List.getD,b]);rw[g,j]at d;exact(f p (aM b)).bd r (dT d)
    ·exact Cz f o m (i+1) (by omega) a k (by omega) r c
theorem Ee {who:List Int}{s:Sv}{n:Int}(f:fq s n=0)(h:j7 who s.roles=0):(∀r∈who,0<=r/\r<n)/\who.length<=4:=by
 have b:=vZ f;unfold j7 at h;split at h
 ·cases h
 ·rename_i d;have a:who.length=s.roles.length:=dT d;refine⟨fun r e=> ?_,by have:=b.r4;omega⟩;obtain⟨k,c⟩:=List.getElem?_of_mem e;exact Cz b.pool a who.length 0 (by omega) h k (dw _) r c
section
variable {B gD:Nat} {d:Dk} {t:Tr} {w W:World}
theorem qK {e b:Nat}(g:dt B gD d ((t.add e).add b) W)(i:Kd gD t t w W)(f:w.heap.size<=b)(c:Array Value):dt B gD d t (W.setRow b c)/\Kd gD t t w (W.setRow b c):=
 ⟨(g.closed (by simp) fun k _ a=>aV _ _ _ _ a).closed (aB _) fun _ _ _=>rfl,i.closed f rfl rfl rfl (by simp) fun k _ a=>aV _ _ _ _ a⟩
def u9 (B gD:Nat)(p:(Ap×Int)×Dk)(t:Tr)(w:World)(e:Ending)(w':World):Prop:= ∃sv,e= .returned (.tuple #[.agg (apC (p.1.1,sv)),ag p.1.2])/\dt B gD p.2 t w'/\Kd gD t t w w'/\Rob (Fx gD t) (fun u=>dS u sv p.1.1.who) w'
structure PlJ (w5:World)(g3:Nat)(a:Ap)(sv:Value)(fr to:Int)(M:Nat->Bool)(W:World):Prop where
 kp:bo g3 w5 W
 ap: ∃x y,W.heap[g3]? =ah (apC ({a with fr:=x,to:=y},sv)) 45/\(M 14=true->x=fr)/\(M 16=true->y=to)
structure ClJ (wX:World)(g3:Nat)(day min:Int)(who:List Int)(nw:Nat)(M:Nat->Bool)(φ:Nat->Value)(W:World):Prop where
 bel:M 9=false->aq wX W
 cl:M 6=true-> ∃p c,φ 76= .slice p nw c/\(M 9=false->W.ownsRow wX.heap.size 3 1 (.slice p nw c) nw (dp who))
 bu:M 7=true->φ 77= .agg #[ag day,ag min,φ 76]
 fin:M 9=true-> ∃p c W0,aq wX W0/\W0.ownsRow wX.heap.size 3 1 (.slice p nw c) nw (dp who)/\Below W0.heap.size (W0.setCells g3 8 [ag day,ag min,.slice p nw c]) W
theorem yi (num:Int)(a:Ap)(pa pw:Option Addr)(ca cw:Nat)(day min:Int)(who:List Int)(w:World)(h:dt B gD d t w)(hs:0<=a.sv/\a.sv<d.svs.length)(hm:0<=a.bef/\a.bef<=1440/\0<=a.aft/\a.aft<=1440/\0<=a.len/\a.len<=1440)(hw:Rob (Fx gD t) (fun u=>dS u (.slice pw who.length cw) who) w)(bD:who.length<=cw):Calls prog 18 #[ab gD 0,ag num,.agg (apC (a,.slice pa a.who.length ca)),.agg #[ag day,ag min,.slice pw who.length cw]] w (u9 B gD (eY d num a day min who) t w):=by
 obtain⟨w1,h1,b1,n1⟩:=nb w #[ab gD 0] 55;obtain⟨i,h2,b2,n2⟩:=nb w1 #[ag num] 3;obtain⟨r,h3,b3,n3⟩:=nb i (apC (a,.slice pa a.who.length ca)) 45;obtain⟨L,h4,b4,n4⟩:=nb r #[ag day,ag min,.slice pw who.length cw] 25;obtain⟨w5,h5,b5,n5⟩:=nb L #[ag 0,ag 0,ag 0,ag 0,ag 0,ag 0,ag 0,ag 0,ag 0,ag 0,af] 45;have s1:w1.heap.size=w.heap.size+1:=by rw[<-h1];simp
 have s2:i.heap.size=w1.heap.size+1:=by rw[<-h2];simp
 have s3:r.heap.size=i.heap.size+1:=by rw[<-h3];simp
 have s4:L.heap.size=r.heap.size+1:=by rw[<-h4];simp
 have s5:w5.heap.size=L.heap.size+1:=by rw[<-h5];simp
 have b0:=aw b1 b2;have bE:=h.below b0;have bF:=bE.opened (q:=i.heap.size) (aB _) s3 b3;have bG:=(bF.below b4).opened (q:=L.heap.size) (aB _) s5 b5;have aE:=aw b4 b5;have aC:=aw b3 aE;have a9:=aw b2 aC;have b6:=aw b1 a9;have m1:=bt a9 n1;have m2:=bt aC n2;have m3:=bt aE n3;have m4:=bt b5 n4;have a5:=aF bG;have G:PN (Kd gD t t w w5):=Kd.of b6;have H0:=aF h;have HG:PN (∀q,w.heap.size<=q->Gx gD t q):=fun q J=>(h.fx (.inr J)).1;have HW:=aF hw;have aG:=pX day 146097 w5;have an:=pX min 1440 w5;obtain⟨c1,aU⟩:=au (isN day 146097);obtain⟨c2,aW⟩:=au (isN min 1440);rw[aU]at aG;rw[aW]at an;have bs:=aF aU;have a4:=aF aW;have y0:w5.cell? (ae r.heap.size 0)=some (ag day):=cr 0 m4 rfl;have y1:w5.cell? (ae r.heap.size 1)=some (ag min):=cr 1 m4 rfl;have HS:=aF hs;have HM:=aF hm;have cx:w.heap.size<w1.heap.size:=by omega
 have ck:w1.heap.size<i.heap.size:=by omega
 have cm:i.heap.size<r.heap.size:=by omega
 have cn:r.heap.size<L.heap.size:=by omega
 have co:L.heap.size<w5.heap.size:=by omega
 clear h bE bF bG b0 aE aC a9 b6 b1 b2 b3 b4 b5 s1 s2 s3 s4 s5 n1 n2 n3 n4 aU aW hs hm hw;go_enter func18,ntmps18;go_wp2_with fail;refine aG.mono ?_;rintro e wa ⟨rfl,ch⟩;subst ch;clear aG;cases c1 with
 |false=>
  have S:PN (eY d num a day min who=((ap0,3),d)):=(by show _=_;unfold eY;rw[aD (.inl bs.o)]);clear an;have n:=aF (qK a5.o G.o (by omega) #[ag 0,ag 0,ag 0,ag 0,ag 0,ag 0,ag 0,ag 0,ag 0,ag 0,af]);have U:=aF (aL _ _ _ #[ag 0,ag 0,ag 0,ag 0,ag 0,ag 0,ag 0,ag 0,ag 0,ag 0,af] _ _ n5);go_wp2_with(refine ay rfl 45 _ _ rfl _ _ rfl rfl _ _ n5 (by kernel_rfl) rfl (by simp[Value.oneCell']) ?_)
  refine ly L.heap.size _ 3 rfl rfl rfl rfl U.o ?_;rw[S.o];exact⟨_,rfl,n.o.1,n.o.2,et _ _⟩
 |true=>
  go_wp2_with fail;refine an.mono ?_;rintro e wb ⟨rfl,ci⟩;subst ci;clear an;cases c2 with
  |false=>
   have S:PN (eY d num a day min who=((ap0,3),d)):=(by show _=_;unfold eY;rw[aD (.inr a4.o)]);have n:=aF (qK a5.o G.o (by omega) #[ag 0,ag 0,ag 0,ag 0,ag 0,ag 0,ag 0,ag 0,ag 0,ag 0,af]);have U:=aF (aL _ _ _ #[ag 0,ag 0,ag 0,ag 0,ag 0,ag 0,ag 0,ag 0,ag 0,ag 0,af] _ _ n5);go_wp2_with(refine ay rfl 45 _ _ rfl _ _ rfl rfl _ _ n5 (by kernel_rfl) rfl (by simp[Value.oneCell']) ?_)
   refine ly L.heap.size _ 3 rfl rfl rfl rfl U.o ?_;rw[S.o];exact⟨_,rfl,n.o.1,n.o.2,et _ _⟩
  |true=>
   have cj:0<=min/\min<1440:=(by have:=a4.o;simpa[isN] using this);have hm:=HM.o;have q1:IntKind.i64.wrap (min-a.bef)=min-a.bef:=(by rw[bz];omega);have q2:IntKind.i64.wrap (min+a.len)=min+a.len:=(by rw[bz];omega);have q3:IntKind.i64.wrap (min+a.len+a.aft)=min+a.len+a.aft:=(by rw[bz];omega);clear hm;go_upto_region 3 with fail
   refine dh (fun M _ W=>PlJ wb i.heap.size a (.slice pa a.who.length ca) (min-a.bef) (min+a.len+a.aft) M W) [kn 23 (ab r.heap.size 1),kn 24 (ag min),kn 25 (ab i.heap.size 5),kn 26 (ag a.bef),kn 27 (ag (min-a.bef)),kn 28 (ab r.heap.size 1),kn 29 (ag min),kn 30 (ab i.heap.size 7),kn 31 (ag a.len),kn 32 (ag (min+a.len)),kn 33 (ab i.heap.size 6),kn 34 (ag a.aft),kn 35 (ag (min+a.len+a.aft)),kn 36 (ab i.heap.size 2),nk,kn 37 (ab i.heap.size 3),nk] (fun _=>⟨bo.of_below (aI _ _).drew,a.fr,a.to,m3,(fun h=>by cases h),(fun h=>by cases h)⟩) (fun _ _ _ _ f h=>⟨h.kp.trans (bo.of_below f),by
    obtain⟨x,y,e1,e2,e3⟩:=h.ap;exact⟨x,y,bt f e1,e2,e3⟩⟩) (by kernel_rfl) ?_ ?_
   ·rintro M φ W O hc F l m hF;obtain⟨x,y,z,ex,ey⟩:=O.ap;have z5:W.cell? (ae i.heap.size 5)=some (ag a.bef):=cr 5 z rfl;have z6:W.cell? (ae i.heap.size 6)=some (ag a.aft):=cr 6 z rfl;have z7:W.cell? (ae i.heap.size 7)=some (ag a.len):=cr 7 z rfl;have z2:W.cell? (ae i.heap.size 2)=some (ag x):=cr 2 z rfl;have z3:W.cell? (ae i.heap.size 3)=some (ag y):=cr 3 z rfl;have x2:=bl _ _ 2 _ _ z;have x3:=bl _ _ 3 _ _ z;have z1:W.cell? (ae r.heap.size 1)=some (ag min):=cr 1 ((O.kp.block _ (aH m4) (fun e=>by have:=aN e;omega)).trans m4) rfl;have HA:=aF (eV z (eV ex ey));have HK:=aF O.kp;clear hc O z ex ey y0 y1 m1 m2 m3 m4 n5;simp only[kn,nk,dW,aQ,aX,Act.put,aA,aK,aJ]at m;subst m;simp only[cZ,Nat.reduceAdd]at hF;dsimp only[kn,nk,dB,eN,eg,Act.put];and_intros;all_goals first|exact trivial|intro hw hn hm K Q
    all_goals try (go_simp;with_reducible exact Q _ _ ⟨rfl,aI _ _⟩)
    ·go_simp;refine Q undef _ ⟨trivial,HK.o.trans (iE W _ 2 (ag (min-a.bef))),min-a.bef,y,aY W i.heap.size 2 _ _ (ag (min-a.bef)) HA.o.1,fun _=>rfl,fun c=>HA.o.2.2 (by rw[orZ (by decide)]at c;exact c)⟩
    ·go_simp;refine Q undef _ ⟨trivial,HK.o.trans (iE W _ 3 (ag (min+a.len+a.aft))),x,min+a.len+a.aft,aY W i.heap.size 3 _ _ (ag (min+a.len+a.aft)) HA.o.1,fun c=>HA.o.2.1 (by rw[orZ (by decide)]at c;exact c),fun _=>rfl⟩
   ·rintro M φ w6 hM O;simp only[kn,nk,eh,aQ,aX,Act.put,aA,aK,aJ];obtain⟨x,y,z,ex,ey⟩:=O.ap;obtain rfl:=ex (hM 14 (by decide) rfl);obtain rfl:=ey (hM 16 (by decide) rfl);have j:=O.kp;obtain⟨fr,be⟩:=au (min-a.bef);obtain⟨to,bp⟩:=au (min+a.len+a.aft);rw[be,bp]at z⊢;have ak:=aF be;have am:=aF bp;have Y: ∀{q:Nat},q≠i.heap.size->some q≠some i.heap.size:=fun h e=>h (aN e);have ai:=aF (a5.o.wr j.size (fun k m hx=>j.block k m (Y fun e=>hx (by rw[e];exact bH _ bq))));have al:PN (Kd gD t t w w6):=⟨j.os.trans G.o.os,j.tape.trans G.o.tape,j.output.trans G.o.output,bf G.o.size j.size,fun q J m=>(j.block q (by omega) (Y (by omega))).trans (G.o.blk q J m),fun _ _ h=>h,rfl⟩
    have k1:=(j.block _ (aH m1) (Y (by omega))).trans m1;have k2:=(j.block _ (aH m2) (Y (by omega))).trans m2;have k4:=(j.block _ (aH m4) (Y (by omega))).trans m4;have k5:=(j.block _ (aH n5) (Y (by omega))).trans n5;have u2:w6.cell? (ae i.heap.size 2)=some (ag fr):=cr 2 z rfl;have u3:w6.cell? (ae i.heap.size 3)=some (ag to):=cr 3 z rfl;have bW:=aF j.size;clear hM O j m1 m2 m3 m4 n5 y0 y1 be bp q1 q2 q3 h1 h2 h3 h4 h5 ex ey
    have N:PN (¬(isN day 146097=false\/isN min 1440=false)):=by
     show¬_;rw[bs.o,a4.o];simp
    by_cases h4:fr<0
    ·have S:PN (eY d num a day min who=((ap0,3),d)):=(by show _=_;unfold eY;rw[ax N.o,ak.o,am.o,aD (.inl h4)]);have n:=aF (qK ai.o al.o (by omega) #[ag 0,ag 0,ag 0,ag 0,ag 0,ag 0,ag 0,ag 0,ag 0,ag 0,af]);have U:=aF (aL _ _ _ #[ag 0,ag 0,ag 0,ag 0,ag 0,ag 0,ag 0,ag 0,ag 0,ag 0,af] _ _ k5);go_wp2_with(refine ay rfl 45 _ _ rfl _ _ rfl rfl _ _ k5 (by kernel_rfl) rfl (by simp[Value.oneCell']) ?_)
     refine ly L.heap.size _ 3 rfl rfl rfl rfl U.o ?_;rw[S.o];exact⟨_,rfl,n.o.1,n.o.2,et _ _⟩
    ·by_cases h5:1440<to
     ·have S:PN (eY d num a day min who=((ap0,3),d)):=(by show _=_;unfold eY;rw[ax N.o,ak.o,am.o,aD (.inr h5)]);have n:=aF (qK ai.o al.o (by omega) #[ag 0,ag 0,ag 0,ag 0,ag 0,ag 0,ag 0,ag 0,ag 0,ag 0,af]);have U:=aF (aL _ _ _ #[ag 0,ag 0,ag 0,ag 0,ag 0,ag 0,ag 0,ag 0,ag 0,ag 0,af] _ _ k5);go_wp2_with(refine ay rfl 45 _ _ rfl _ _ rfl rfl _ _ k5 (by kernel_rfl) rfl (by simp[Value.oneCell']) ?_)
      refine ly L.heap.size _ 3 rfl rfl rfl rfl U.o ?_;rw[S.o];exact⟨_,rfl,n.o.1,n.o.2,et _ _⟩
     ·have bC:PN (¬(fr<0\/1440<to)):=fun h=>(by omega);have cd:=ai.o;obtain⟨bL,rv,cv,vv,kv,ss,aa,X⟩:=cd;obtain⟨k,hk⟩: ∃k:Nat,a.sv=(k:Int):=⟨a.sv.toNat,by have:=HS.o;omega⟩
      have bJ:k<ss.length:=by
       have h1:ss.length=d.svs.length:=(by rw[<-X.sve,ba]);have:=HS.o;omega
      obtain⟨⟨s,sv⟩,av⟩: ∃q,ss[k]? =some q:=⟨ss[k],az bJ⟩
      have bn:d.svs[k]? =some s:=(by rw[<-X.sve,bg,av];rfl);have ar:=(X.svr _ (aM av)).here;obtain⟨gs,b9,e1,_,bM⟩:=jQ we X.svs rfl av;obtain⟨ns,bK⟩:=au ss.length;rw[bK]at e1;have z2:w6.cell? (ae gD 2)=some (.slice (some (ae gs 0)) ns b9):=(cr (v:=t.sv) 2 X.blk rfl).trans (congrArg some e1);obtain⟨pr,aO,bN,_,_⟩:=id ar;dsimp only at bN ar;subst bN;have zr:w6.cell? (ae gs (k*4+3))=some (.slice pr s.roles.length aO):=bM 3 _ rfl;have u4:w6.cell? (ae i.heap.size 4)=some (ag (k:Int)):=(cr 4 z rfl).trans (by rw[hk];rfl);have cs:(k:Int)<(ns:Int):=(by omega);have cq:(0:Int)<=(k:Int):=(by omega);have bx:PN (d.svs.getD a.sv.toNat sv0=s):=(by show _=_;rw[hk];simp[List.getD,bn]);have bZ:=aF (bL.sv s (aM bn));have a3:=(al.o.rob HW.o).here;obtain⟨er,ao⟩:=au (j7 who s.roles);have a6:=aF ao;have bU:=aF ar;have bY:=aF a3;obtain⟨nr,bh⟩:=au s.roles.length;obtain⟨D,bi⟩:=au who.length;have ac:=aF bi;have bT:=aF bh;rw[bh]at zr;rw[bi]at k4 bD⊢;have u0:w6.cell? (ae r.heap.size 2)=some (.slice pw D cw):=cr 2 k4 rfl;have u1:w6.cell? (ae w.heap.size 0)=some (ab gD 0):=cr 0 k1 rfl;clear bL X hk bJ av bn ar bM e1 bK a3 bh bi;go_upto_region 6 with fail;refine dh (fun _ _ W=>aq w6 W) [kn 47 (ab r.heap.size 2),kn 48 (.slice pw D cw),kn 49 (ab gD 0),kn 50 (ab gD 0),kn 51 (ab gD 0),kn 52 (ab gD 2),kn 53 (.slice (some (ae gs 0)) ns b9),kn 54 (ab i.heap.size 4),kn 55 (ag (k:Int)),kn 56 (ab gs (k*4)),kn 57 (ab gs (k*4+3)),kn 58 (.slice pr nr aO),kn 59 (ag er),kn 10 (ag er)] (fun _=>(aI _ _).drew) (fun _ _ _ _ f h=>aw h f) (by kernel_rfl) ?_ ?_
      ·rintro M φ W f _ F l m hF;have zz:=fun(q:Addr) (x:Value) (h:w6.cell? q=some x)=>aj f h;have u0:=zz _ _ u0;have u1:=zz _ _ u1;have u4:=zz _ _ u4;have z2:=zz _ _ z2;have zr:=zz _ _ zr;have cW:=Cf who s.roles pw cw (.slice pr s.roles.length aO) W (bY.o.below f) (by rw[ac.o];exact bD) (bU.o.below f);rw[ao,ac.o,bT.o]at cW;clear zz ao k1 k2 k4 k5 z u2 u3;simp only[kn,dW,aQ,aX,Act.put,aA,aK,aJ]at m;subst m;simp only[cZ,Nat.reduceAdd]at hF;dsimp only[kn,dB,eN,eg,Act.put];and_intros;all_goals first|exact trivial|intro hw hn hm K Q
       all_goals try (go_simp;with_reducible exact Q _ _ ⟨rfl,aI _ _⟩)
       go_simp;refine cW.mono ?_;rintro r' W' ⟨rfl,aS⟩;exact Q _ _ ⟨rfl,aS⟩
      ·rintro M φ w7 hM f;simp only[kn,eh,aQ,aX,Act.put,aA,aK,aJ];have bv:=aF (ai.o.below f);have a7:=aF (al.o.trans (Kd.of f));have j1:=bt f k1;have j2:=bt f k2;have j4:=bt f k4;have j5:=bt f k5;have j3:=bt f z;have v0:w7.cell? (ae r.heap.size 2)=some (.slice pw D cw):=cr 2 j4 rfl;have ce:wb.heap.size<=w7.heap.size:=bf bW.o f.size;clear hM f k1 k2 k4 k5 z u0 u1 u2 u3 u4 z2 zr ao;by_cases h0:er=0
       ·subst h0;have a1:=Ee bZ.o a6.o;have eF: ∀a2 w,(callFunc 31 a2).run prog w= .ok (.enter 31 a2) w:=fun _ _=>rfl;have hL: ∀q,w.heap.size<=q-> ∀W,Kd gD t t w7 W-> ∀{c:Array Value} {T:TypeId},w7.heap[q]? =ah c T->W.heap[q]? =ah c T:=fun q J W A c T hc=>(A.blk q (HG.o q J) (aH hc)).trans hc
        have cC:=pD (kS day num fr to) (fun s W=>dt B gD s ((t.add i.heap.size).add L.heap.size) W/\Kd gD t t w7 W/\Cor d s) 31 #[ab w.heap.size 0,ab r.heap.size 0,ab w1.heap.size 0,ab i.heap.size 0] who (.slice pw who.length cw) d w7 eF ⟨bv.o,Kd.of (aI _ _),Cor.refl d⟩ (fun s W A=>((a7.o.trans A.2.1).rob HW.o).here) (fun x hx s W A=>by
         have cf:s.res=d.res:=(by obtain⟨_,_,rfl⟩:=A.2.2;rfl);refine(Kn (a:={a with fr:=fr,to:=to}) W A.1 (a1.1 x hx).1 (by rw[cf];exact(a1.1 x hx).2) (hL _ (aB _) W A.2.1 j1) (hL _ (by omega) W A.2.1 j4) (hL _ (by omega) W A.2.1 j2) (hL _ (by omega) W A.2.1 j3) (HG.o _ (by omega)) (HG.o _ (by omega)) (HG.o _ (by omega)) (HG.o _ (aB _))).mono fun e w' hh=>⟨hh.1,hh.2.1,A.2.1.trans ⟨hh.2.2.os,hh.2.2.tape,hh.2.2.output,hh.2.2.size,hh.2.2.blk,fun _ _ h=>h,rfl⟩,A.2.2.trans (qZ s x day num)⟩)
        rw[ac.o]at cC;have HL:=aF hL;obtain⟨bb,bc⟩:=au ((jn (kS day num fr to) who d).1);obtain⟨de,bd⟩:=au ((jn (kS day num fr to) who d).2);rw[bc,bd]at cC
        have a8:PN (eY d num a day min who=if bb=true then((ap0,10),de) else(({a with fr:=fr,to:=to,day:=day,min:=min,who:=who},0),de)):=by
         show _=_;unfold eY;rw[ax N.o,ak.o,am.o,ax bC.o,bx.o,a6.o,ax (by simp)];simp only[bc,bd]
        clear bc bd hL;go_wp2_with fail;refine cC.mono ?_;rintro e Z ⟨rfl,bI,V,cc⟩;have i4:=HL.o _ (by omega) Z V j4;have i3:=HL.o _ (by omega) Z V j3;have i5:=HL.o _ (by omega) Z V j5;have bw:=aF bI;have H:=aF (a7.o.trans V);have ct:wb.heap.size<=Z.heap.size:=bf ce V.size;clear cC bI V cc v0 j1 j2 j3 j4 j5 HL;cases bb with
        |true=>
         have S:PN (eY d num a day min who=((ap0,10),de)):=a8.o;have n:=aF (qK bw.o H.o (by omega) #[ag 0,ag 0,ag 0,ag 0,ag 0,ag 0,ag 0,ag 0,ag 0,ag 0,af]);have U:=aF (aL _ _ _ #[ag 0,ag 0,ag 0,ag 0,ag 0,ag 0,ag 0,ag 0,ag 0,ag 0,af] _ _ i5);go_wp2_with(refine ay rfl 45 _ _ rfl _ _ rfl rfl _ _ i5 (by kernel_rfl) rfl (by simp[Value.oneCell']) ?_)
         refine ly L.heap.size _ 10 rfl rfl rfl rfl U.o ?_;rw[S.o];exact⟨_,rfl,n.o.1,n.o.2,et _ _⟩
        |false=>
         have S:PN (eY d num a day min who=(({a with fr:=fr,to:=to,day:=day,min:=min,who:=who},0),de)):=a8.o;clear a8;have v0:Z.cell? (ae r.heap.size 0)=some (ag day):=cr 0 i4 rfl;have v1:Z.cell? (ae r.heap.size 1)=some (ag min):=cr 1 i4 rfl;have v2:Z.cell? (ae r.heap.size 2)=some (.slice pw D cw):=cr 2 i4 rfl;have bX:=aF ((H.o.rob HW.o).here);go_upto_region 12 with fail
         refine dh (ClJ Z i.heap.size day min who D) [kn 70 (ab r.heap.size 0),kn 71 (ag day),kn 72 (ab r.heap.size 1),kn 73 (ag min),kn 74 (ab r.heap.size 2),kn 75 (.slice pw D cw),td 76,td 77,kn 78 (ab i.heap.size 8),nk] (fun _=>⟨fun _=>(aI _ _).drew,(fun h=>by cases h),(fun h=>by cases h),(fun h=>by cases h)⟩) (fun _ _ _ _ f h=>⟨fun c=>(h.bel c).trans (f.mono (h.bel c).size),fun c=>by
          obtain⟨p,k,e1,e2⟩:=h.cl c;exact⟨p,k,e1,fun c'=>br (e2 c') fun b J=>f.block b ((e2 c').lt b J).2⟩,h.bu,fun c=>by
          obtain⟨p,k,W0,e1,e2,e3⟩:=h.fin c;exact⟨p,k,W0,e1,e2,e3.trans (f.mono (by have:=e3.size;rw[(eP _ _ _ _).2.2.2]at this;exact this))⟩⟩) (by kernel_rfl) ?_ ?_
         ·rintro M φ W O hc F l m hF;have b7:M 7=true->M 6=true:=fun h=>hc 7 _ rfl h ⟨6,.data⟩ (by simp) rfl rfl;have b8:M 9=true->M 7=true:=fun h=>hc 9 _ rfl h ⟨7,.data⟩ (by simp) rfl rfl;have HC:=aF (eV b7 b8);have HJ:=aF O;clear hc b7 b8 O;simp only[kn,td,nk,dW,aQ,aX,Act.put,aA,aK,aJ]at m;subst m;simp only[cZ,Nat.reduceAdd]at hF;dsimp only[kn,td,nk,dB,eN,eg,Act.put];and_intros;all_goals first|exact trivial|intro hw hn hm K Q
          all_goals try (go_simp;with_reducible exact Q _ _ ⟨rfl,aI _ _⟩)
          ·have f:=HJ.o.bel (iX HC.o.2 (hn 7 _ rfl (by kernel_rfl)));have v0:=aj f v0;go_simp;exact Q _ _ ⟨rfl,aI _ _⟩
          ·have f:=HJ.o.bel (iX HC.o.2 (hn 7 _ rfl (by kernel_rfl)));have v1:=aj f v1;go_simp;exact Q _ _ ⟨rfl,aI _ _⟩
          ·have f:=HJ.o.bel (iX HC.o.2 (iX HC.o.1 (hn 6 _ rfl (by kernel_rfl))));have v2:=aj f v2;go_simp;exact Q _ _ ⟨rfl,aI _ _⟩
          ·have h7:=iX HC.o.1 hm;have h9:=iX HC.o.2 h7;have f:=HJ.o.bel h9;have cL:=yd who (.slice pw who.length cw) W (bX.o.below f) (by have:=a1.2;omega);rw[ac.o]at cL;clear hw hn;go_simp;refine cL.mono ?_;rintro r' W' ⟨v',rfl,bj,aS⟩;obtain⟨E,C,rfl⟩:=df bj;exact Q _ _ ⟨trivial,fun _=>aw f aS,fun _=>⟨E,C,dF,fun _=>⟨bj.1,bj.2.imp id fun⟨g,c,cu,q1,q2,q3⟩=>⟨g,c,cu,q1,bf f.size q2,q3⟩⟩⟩,fun c=>lZ h7 c (by decide),fun c=>lZ h9 c (by decide)⟩
          ·have h6:=hw ⟨6,.data⟩ (by simp) rfl rfl;have h9:=iX HC.o.2 hm;have f:=HJ.o.bel h9;obtain⟨E,C,I,ho⟩:=HJ.o.cl h6;rw[I]at hF;clear hw hn;go_simp;exact Q _ _ ⟨trivial,fun _=>f,fun _=>⟨E,C,(cY (by decide)).trans I,fun _=>ho h9⟩,fun _=>by rw[dF,cY (by decide),I],fun c=>lZ h9 c (by decide)⟩
          ·have h7:=hw ⟨7,.data⟩ (by simp) rfl rfl;have f:=HJ.o.bel hm;obtain⟨E,C,I,ho⟩:=HJ.o.cl (HC.o.1 h7);have aP:=HJ.o.bu h7;rw[I]at aP;have bO:=bt f i3
           have cg:W.there i.heap.size 8 3:=fun k hk=>by
            refine⟨?_,bl _ _ _ _ _ bO⟩;rw[aZ _ _ _ _ _ _ bO,fP (by rw[sM];omega)];rfl
           show Oper.wp _ _ _ _ _ _;refine wp_store_mid 25 _ _ rfl i.heap.size 8 #[ag day,ag min,.slice E D C] (by simp[Act.eval,hF]) (by simp[Act.eval,hF,aP]) cg (by kernel_rfl) (by simp[Value.oneCell']) ?_;refine Q undef _ ⟨trivial,fun c=>by simp at c,fun _=>⟨E,C,I,fun c=>by simp at c⟩,fun _=>by rw[I];exact aP,fun _=>⟨E,C,W,f,ho hm,aI _ _⟩⟩
         ·rintro M φ W hM O;obtain⟨E,C,W0,h1,ho,h2⟩:=O.fin (hM 9 (by decide) rfl);simp only[kn,td,nk,eh,aQ,aX,Act.put,aA,aK,aJ];have f3:=ua [ag day,ag min,.slice E D C] 8 W0 _ (bt h1 i3);have a0:=(eP i.heap.size [ag day,ag min,.slice E D C] 8 W0).2.2.2;have bB:=h2.mono (jW a0);have bA:W.heap[i.heap.size]? =ah (apC ({a with fr:=fr,to:=to,day:=day,min:=min,who:=who},.slice E D C)) 45:=bt bB f3;have bk: ∀q,q≠i.heap.size->(W0.setCells i.heap.size 8 [ag day,ag min,.slice E D C]).heap[q]? =W0.heap[q]? :=fun q J=>fz i.heap.size _ _ W0 q J;have A: ∀q,q<Z.heap.size->q≠i.heap.size->W.heap[q]? =Z.heap[q]? :=fun q m J=>(h2.block q (aT m h1.size)).trans ((bk q J).trans (h1.block q m));have bm:Z.heap.size<=W.heap.size:=(by have:=h2.size;rw[a0]at this;exact bf h1.size this);have bP:=(A _ (aH i5) (by omega)).trans i5;have bR:=aF (bw.o.wr bm fun q m hx=>A q m fun e=>hx (by rw[e];exact bH _ bq));have bS:PN (Kd gD t t w W):=⟨h2.os.trans ((eP _ _ _ _).1.trans (h1.os.trans H.o.os)),h2.tape.trans ((eP _ _ _ _).2.1.trans (h1.tape.trans H.o.tape)),h2.output.trans ((eP _ _ _ _).2.2.1.trans (h1.output.trans H.o.output)),bf H.o.size bm,fun q J m=>(A q (by omega) (by omega)).trans (H.o.blk q J m),fun _ _ h=>h,rfl⟩
          obtain⟨cA,ad⟩:=au (apC ({a with fr:=fr,to:=to,day:=day,min:=min,who:=who},.slice E D C));have n:=aF (qK bR.o bS.o (by omega) cA)
          have bV:PN (Rob (Fx gD t) (fun u=>dS u (.slice E D C) who) (W.setRow L.heap.size cA)):=by
           refine Rob.imp (Rob.move (P:=fun q=>Z.heap.size<=q) (Φ:=fun u=>u.ownsRow Z.heap.size 3 1 (.slice E D C) D (dp who)) (w:=W0) (fun u _ ha=>br ho fun b f=>ha b (ho.lt b f).1 (ho.lt b f).2) (by have:=h2.size;rw[a0]at this;simpa using this) (fun q J m=>(aV _ _ _ _ (by omega)).trans ((h2.block q m).trans (bk q (by omega)))) fun q _ J=>H0.o.fx (.inr (by omega))) fun u hu=>pt (by rw[ac.o];exact hu) (by have:=a1.2;omega)
          have U:=aF (aL _ _ _ cA _ _ bP);have cb:cA.all (·.oneCell')=true:=(by rw[<-ad];exact iJ _ _ _ _);have R:cA.size=11:=(by rw[<-ad];rfl);rw[ad]at bA;have bQ:=aF ad;clear hM O h1 h2 bB ho f3 bk A a0 bm i3 i4 i5 v0 v1 v2 ad;go_wp2_with(first|(refine aR rfl 45 _ rfl _ rfl _ _ _ _ bA apT rfl (by rw[R];kernel_rfl) ?_)|(refine ay rfl 45 _ _ rfl _ _ rfl rfl _ _ bP (by rw[R];kernel_rfl) (by rw[R];rfl) cb ?_))
          refine ly L.heap.size cA 0 R rfl rfl rfl U.o ?_;rw[S.o];exact⟨.slice E D C,by rw[bQ.o],n.o.1,n.o.2,bV.o⟩
       ·have cp:(er !=0)=true:=(by simpa using h0);have S:PN (eY d num a day min who=((ap0,er),d)):=(by show _=_;unfold eY;rw[ax N.o,ak.o,am.o,ax bC.o,bx.o,a6.o,aD h0]);clear h0;have n:=aF (qK bv.o a7.o (by omega) #[ag 0,ag 0,ag 0,ag 0,ag 0,ag 0,ag 0,ag 0,ag 0,ag 0,af]);have U:=aF (aL _ _ _ #[ag 0,ag 0,ag 0,ag 0,ag 0,ag 0,ag 0,ag 0,ag 0,ag 0,af] _ _ j5);go_wp2_with(refine ay rfl 45 _ _ rfl _ _ rfl rfl _ _ j5 (by kernel_rfl) rfl (by simp[Value.oneCell']) ?_)
        refine ly L.heap.size _ er rfl rfl rfl rfl U.o ?_;rw[S.o];exact⟨_,rfl,n.o.1,n.o.2,et _ _⟩
end
end
end Go.Proofs.YtaoljfdfhggbbaaGreatDoor
