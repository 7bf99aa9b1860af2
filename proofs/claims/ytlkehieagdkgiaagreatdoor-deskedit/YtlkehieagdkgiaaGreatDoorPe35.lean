/- Texts of the proof. -/
import Derived.Test.YtlkehieagdkgiaaGreatDoorPe32
set_option maxRecDepth 100000
set_option maxHeartbeats 8000000
namespace Go.Proofs.YtlkehieagdkgiaaGreatDoor
open Go.Proofs.Tryz Go.RowKit Lx Vx Mx Msk
section
theorem lJ {R:Ending->World->Prop}{a:Act}{w:World}(g:Nat)(c:Array Value)(er:Int)(j:c.size=11)(k:a.defers=[])(e:a.tmps.getD 8 undef=ab g 0)(f:a.tmps.getD 9 undef=ag er)
  (l:w.heap[g]? =ah c 45) (i:R (.returned (.tuple #[.agg c,ag er])) w):bodyPost prog f39 R .ret a w:=by
 refine aX (v:= .tuple #[.agg c,ag er]) ?_ k i;have n:f39.results= #[ResultVar.cell 8 45,ResultVar.tmp 9]:=rfl;have b:a.tmps[8]?.getD undef=ab g 0:=by simpa using e
 have d:a.tmps[9]?.getD undef=ag er:=by simpa using f
 have m:=en (P:=prog) w g 45 45 _ _ _ l apT rfl (by rw[j];kernel_rfl);simp[results,b,d,asAddr,m]
theorem Dx {who:List Int}{roles:List (List Int)}{n:Int}(f: ∀p∈roles,yR p n)(o:who.length=roles.length): ∀(m i:Nat),i+m=who.length->qh who roles m i=0-> ∀k,i<=k-> ∀r,who[k]? =some r->0<=r/\r<n
 |0,i,h,_,k,l,r,c=>by have:=(aF.1 c).1;omega
 |m+1,i,h,a,k,l,r,c=>by
  unfold qh at a;split at a
  ·cases a
  ·rename_i d;split at a
   ·cases a
   ·by_cases e:k=i
    ·subst e;have g:who.getD k 0=r:=(by simp[List.getD,c]);obtain⟨p,b⟩: ∃p,roles[k]? =some p:=⟨roles[k]'(by omega),ay _⟩
     have j:roles.getD k []=p:=(by simp[List.getD,b]);rw[g,j]at d;exact(f p (aM b)).bd r (d7 d)
    ·exact Dx f o m (i+1) (by omega) a k (by omega) r c
theorem Fe {who:List Int}{s:Sv}{n:Int}(f:fD s n=0)(h:jO who s.roles=0):(∀r∈who,0<=r/\r<n)/\who.length<=4:=by
 have b:=tD f;unfold jO at h;split at h
 ·cases h
 ·rename_i d;have a:who.length=s.roles.length:=d7 d;refine⟨fun r e=> ?_,by have:=b.r4;omega⟩;obtain⟨k,c⟩:=List.getElem?_of_mem e;exact Dx b.pool a who.length 0 (by omega) h k (dF _) r c
section
variable {B gD:Nat} {d:Dk} {t:Tr} {w W:World}
theorem rG {e b:Nat}(g:dE B gD d ((t.add e).add b) W)(i:Kd gD t t w W)(f:w.heap.size<=b)(c:Array Value):dE B gD d t (W.setRow b c)/\Kd gD t t w (W.setRow b c):=
 ⟨(g.closed (by simp) fun k _ a=>aW _ _ _ _ a).closed (aD _) fun _ _ _=>rfl,i.closed f rfl rfl rfl (by simp) fun k _ a=>aW _ _ _ _ a⟩
def vQ (B gD:Nat)(p:(Ap×Int)×Dk)(t:Tr)(w:World)(e:Ending)(w':World):Prop:= ∃sv,e= .returned (.tuple #[.agg (apC (p.1.1,sv)),ag p.1.2])/\dE B gD p.2 t w'/\Kd gD t t w w'/\Rob (Fx gD t) (fun u=>dM u sv p.1.1.who) w'
structure PlJ (w5:World)(g3:Nat)(a:Ap)(sv:Value)(fr to:Int)(M:Nat->Bool)(W:World):Prop where
 kp:bp g3 w5 W
 ap: ∃x y,W.heap[g3]? =ah (apC ({a with fr:=x,to:=y},sv)) 45/\(M 14=true->x=fr)/\(M 16=true->y=to)
structure ClJ (wX:World)(g3:Nat)(day min:Int)(who:List Int)(nw:Nat)(M:Nat->Bool)(φ:Nat->Value)(W:World):Prop where
 bel:M 9=false->aq wX W
 cl:M 6=true-> ∃p c,φ 76= .slice p nw c/\(M 9=false->W.ownsRow wX.heap.size 3 1 (.slice p nw c) nw (dz who))
 bu:M 7=true->φ 77= .agg #[ag day,ag min,φ 76]
 fin:M 9=true-> ∃p c W0,aq wX W0/\W0.ownsRow wX.heap.size 3 1 (.slice p nw c) nw (dz who)/\Below W0.heap.size (W0.setCells g3 8 [ag day,ag min,.slice p nw c]) W
theorem zw (num:Int)(a:Ap)(pa pw:Option Addr)(ca cw:Nat)(day min:Int)(who:List Int)(w:World)(h:dE B gD d t w)(hs:0<=a.sv/\a.sv<d.svs.length)(hm:0<=a.bef/\a.bef<=1440/\0<=a.aft/\a.aft<=1440/\0<=a.len/\a.len<=1440)(hw:Rob (Fx gD t) (fun u=>dM u (.slice pw who.length cw) who) w)(bC:who.length<=cw):Calls prog 39 #[ab gD 0,ag num,.agg (apC (a,.slice pa a.who.length ca)),.agg #[ag day,ag min,.slice pw who.length cw]] w (vQ B gD (fh d num a day min who) t w):=by
 obtain⟨w1,h1,b1,n1⟩:=nb w #[ab gD 0] 99;obtain⟨i,h2,b2,n2⟩:=nb w1 #[ag num] 3;obtain⟨r,h3,b3,n3⟩:=nb i (apC (a,.slice pa a.who.length ca)) 45;obtain⟨L,h4,b4,n4⟩:=nb r #[ag day,ag min,.slice pw who.length cw] 39;obtain⟨w5,h5,b5,n5⟩:=nb L #[ag 0,ag 0,ag 0,ag 0,ag 0,ag 0,ag 0,ag 0,ag 0,ag 0,af] 45;have s1:w1.heap.size=w.heap.size+1:=by rw[<-h1];simp
 have s2:i.heap.size=w1.heap.size+1:=by rw[<-h2];simp
 have s3:r.heap.size=i.heap.size+1:=by rw[<-h3];simp
 have s4:L.heap.size=r.heap.size+1:=by rw[<-h4];simp
 have s5:w5.heap.size=L.heap.size+1:=by rw[<-h5];simp
 have bz:=aw b1 b2;have bD:=h.below bz;have bE:=bD.opened (q:=i.heap.size) (aD _) s3 b3;have bF:=(bE.below b4).opened (q:=L.heap.size) (aD _) s5 b5;have aG:=aw b4 b5;have aF:=aw b3 aG;have aC:=aw b2 aF;have b0:=aw b1 aC;have m1:=bt aC n1;have m2:=bt aF n2;have m3:=bt aG n3;have m4:=bt b5 n4;have a5:=aE bF;have G:Rb (Kd gD t t w w5):=Kd.of b0;have H0:=aE h;have HG:Rb (∀q,w.heap.size<=q->Gx gD t q):=fun q J=>(h.fx (.inr J)).1;have HW:=aE hw;have aO:=qH day 146097 w5;have an:=qH min 1440 w5;obtain⟨c1,aX⟩:=au (isN day 146097);obtain⟨c2,ba⟩:=au (isN min 1440);rw[aX]at aO;rw[ba]at an;have bs:=aE aX;have a4:=aE ba;have y0:w5.cell? (ae r.heap.size 0)=some (ag day):=cr 0 m4 rfl;have y1:w5.cell? (ae r.heap.size 1)=some (ag min):=cr 1 m4 rfl;have HS:=aE hs;have HM:=aE hm;have cy:w.heap.size<w1.heap.size:=by omega
 have cm:w1.heap.size<i.heap.size:=by omega
 have cn:i.heap.size<r.heap.size:=by omega
 have co:r.heap.size<L.heap.size:=by omega
 have cp:L.heap.size<w5.heap.size:=by omega
 clear h bD bE bF bz aG aF aC b0 b1 b2 b3 b4 b5 s1 s2 s3 s4 s5 n1 n2 n3 n4 aX ba hs hm hw;go_enter func39,ntmps39;go_wp2_with fail;refine aO.mono ?_;rintro e wa ⟨rfl,ci⟩;subst ci;clear aO;cases c1 with
 |false=>
  have S:Rb (fh d num a day min who=((ap0,3),d)):=(by show _=_;unfold fh;rw[aB (.inl bs.o)]);clear an;have n:=aE (rG a5.o G.o (by omega) #[ag 0,ag 0,ag 0,ag 0,ag 0,ag 0,ag 0,ag 0,ag 0,ag 0,af]);have U:=aE (aL _ _ _ #[ag 0,ag 0,ag 0,ag 0,ag 0,ag 0,ag 0,ag 0,ag 0,ag 0,af] _ _ n5);go_wp2_with(refine az rfl 45 _ _ rfl _ _ rfl rfl _ _ n5 (by kernel_rfl) rfl (by simp[Value.oneCell']) ?_)
  refine lJ L.heap.size _ 3 rfl rfl rfl rfl U.o ?_;rw[S.o];exact⟨_,rfl,n.o.1,n.o.2,eE _ _⟩
 |true=>
  go_wp2_with fail;refine an.mono ?_;rintro e wb ⟨rfl,cj⟩;subst cj;clear an;cases c2 with
  |false=>
   have S:Rb (fh d num a day min who=((ap0,3),d)):=(by show _=_;unfold fh;rw[aB (.inr a4.o)]);have n:=aE (rG a5.o G.o (by omega) #[ag 0,ag 0,ag 0,ag 0,ag 0,ag 0,ag 0,ag 0,ag 0,ag 0,af]);have U:=aE (aL _ _ _ #[ag 0,ag 0,ag 0,ag 0,ag 0,ag 0,ag 0,ag 0,ag 0,ag 0,af] _ _ n5);go_wp2_with(refine az rfl 45 _ _ rfl _ _ rfl rfl _ _ n5 (by kernel_rfl) rfl (by simp[Value.oneCell']) ?_)
   refine lJ L.heap.size _ 3 rfl rfl rfl rfl U.o ?_;rw[S.o];exact⟨_,rfl,n.o.1,n.o.2,eE _ _⟩
  |true=>
   have ck:0<=min/\min<1440:=(by have:=a4.o;simpa[isN] using this);have hm:=HM.o;have q1:IntKind.i64.wrap (min-a.bef)=min-a.bef:=(by rw[bU];omega);have q2:IntKind.i64.wrap (min+a.len)=min+a.len:=(by rw[bU];omega);have q3:IntKind.i64.wrap (min+a.len+a.aft)=min+a.len+a.aft:=(by rw[bU];omega);clear hm;go_upto_region 3 with fail
   refine dl (fun M _ W=>PlJ wb i.heap.size a (.slice pa a.who.length ca) (min-a.bef) (min+a.len+a.aft) M W) [kn 23 (ab r.heap.size 1),kn 24 (ag min),kn 25 (ab i.heap.size 5),kn 26 (ag a.bef),kn 27 (ag (min-a.bef)),kn 28 (ab r.heap.size 1),kn 29 (ag min),kn 30 (ab i.heap.size 7),kn 31 (ag a.len),kn 32 (ag (min+a.len)),kn 33 (ab i.heap.size 6),kn 34 (ag a.aft),kn 35 (ag (min+a.len+a.aft)),kn 36 (ab i.heap.size 2),nk,kn 37 (ab i.heap.size 3),nk] (fun _=>⟨bp.of_below (aH _ _).drew,a.fr,a.to,m3,(fun h=>by cases h),(fun h=>by cases h)⟩) (fun _ _ _ _ f h=>⟨h.kp.trans (bp.of_below f),by
    obtain⟨x,y,e1,e2,e3⟩:=h.ap;exact⟨x,y,bt f e1,e2,e3⟩⟩) (by kernel_rfl) ?_ ?_
   ·rintro M φ W O hc F l m hF;obtain⟨x,y,z,ex,ey⟩:=O.ap;have z5:W.cell? (ae i.heap.size 5)=some (ag a.bef):=cr 5 z rfl;have z6:W.cell? (ae i.heap.size 6)=some (ag a.aft):=cr 6 z rfl;have z7:W.cell? (ae i.heap.size 7)=some (ag a.len):=cr 7 z rfl;have z2:W.cell? (ae i.heap.size 2)=some (ag x):=cr 2 z rfl;have z3:W.cell? (ae i.heap.size 3)=some (ag y):=cr 3 z rfl;have x2:=bo _ _ 2 _ _ z;have x3:=bo _ _ 3 _ _ z;have z1:W.cell? (ae r.heap.size 1)=some (ag min):=cr 1 ((O.kp.block _ (aI m4) (fun e=>by have:=aN e;omega)).trans m4) rfl;have HA:=aE (fV z (fV ex ey));have HK:=aE O.kp;clear hc O z ex ey y0 y1 m1 m2 m3 m4 n5;simp only[kn,nk,dX,aQ,aT,Act.put,aA,aK,aJ]at m;subst m;simp only[dn,Nat.reduceAdd]at hF;dsimp only[kn,nk,dy,eJ,dY,Act.put];and_intros;all_goals first|exact trivial|intro hw hn hm K Q
    all_goals try (go_simp;with_reducible exact Q _ _ ⟨rfl,aH _ _⟩)
    ·go_simp;refine Q undef _ ⟨trivial,HK.o.trans (iP W _ 2 (ag (min-a.bef))),min-a.bef,y,aY W i.heap.size 2 _ _ (ag (min-a.bef)) HA.o.1,fun _=>rfl,fun c=>HA.o.2.2 (by rw[orZ (by decide)]at c;exact c)⟩
    ·go_simp;refine Q undef _ ⟨trivial,HK.o.trans (iP W _ 3 (ag (min+a.len+a.aft))),x,min+a.len+a.aft,aY W i.heap.size 3 _ _ (ag (min+a.len+a.aft)) HA.o.1,fun c=>HA.o.2.1 (by rw[orZ (by decide)]at c;exact c),fun _=>rfl⟩
   ·rintro M φ w6 hM O;simp only[kn,nk,d8,aQ,aT,Act.put,aA,aK,aJ];obtain⟨x,y,z,ex,ey⟩:=O.ap;obtain rfl:=ex (hM 14 (by decide) rfl);obtain rfl:=ey (hM 16 (by decide) rfl);have j:=O.kp;obtain⟨fr,bf⟩:=au (min-a.bef);obtain⟨to,bn⟩:=au (min+a.len+a.aft);rw[bf,bn]at z⊢;have ak:=aE bf;have am:=aE bn;have Y: ∀{q:Nat},q≠i.heap.size->some q≠some i.heap.size:=fun h e=>h (aN e);have ai:=aE (a5.o.wr j.size (fun k m hx=>j.block k m (Y fun e=>hx (by rw[e];exact bL _ bq))));have al:Rb (Kd gD t t w w6):=⟨j.os.trans G.o.os,j.tape.trans G.o.tape,j.output.trans G.o.output,bg G.o.size j.size,fun q J m=>(j.block q (by omega) (Y (by omega))).trans (G.o.blk q J m),fun _ _ h=>h,rfl⟩
    have k1:=(j.block _ (aI m1) (Y (by omega))).trans m1;have k2:=(j.block _ (aI m2) (Y (by omega))).trans m2;have k4:=(j.block _ (aI m4) (Y (by omega))).trans m4;have k5:=(j.block _ (aI n5) (Y (by omega))).trans n5;have u2:w6.cell? (ae i.heap.size 2)=some (ag fr):=cr 2 z rfl;have u3:w6.cell? (ae i.heap.size 3)=some (ag to):=cr 3 z rfl;have bW:=aE j.size;clear hM O j m1 m2 m3 m4 n5 y0 y1 bf bn q1 q2 q3 h1 h2 h3 h4 h5 ex ey
    have N:Rb (¬(isN day 146097=false\/isN min 1440=false)):=by
     show¬_;rw[bs.o,a4.o];simp
    by_cases h4:fr<0
    ·have S:Rb (fh d num a day min who=((ap0,3),d)):=(by show _=_;unfold fh;rw[ax N.o,ak.o,am.o,aB (.inl h4)]);have n:=aE (rG ai.o al.o (by omega) #[ag 0,ag 0,ag 0,ag 0,ag 0,ag 0,ag 0,ag 0,ag 0,ag 0,af]);have U:=aE (aL _ _ _ #[ag 0,ag 0,ag 0,ag 0,ag 0,ag 0,ag 0,ag 0,ag 0,ag 0,af] _ _ k5);go_wp2_with(refine az rfl 45 _ _ rfl _ _ rfl rfl _ _ k5 (by kernel_rfl) rfl (by simp[Value.oneCell']) ?_)
     refine lJ L.heap.size _ 3 rfl rfl rfl rfl U.o ?_;rw[S.o];exact⟨_,rfl,n.o.1,n.o.2,eE _ _⟩
    ·by_cases h5:1440<to
     ·have S:Rb (fh d num a day min who=((ap0,3),d)):=(by show _=_;unfold fh;rw[ax N.o,ak.o,am.o,aB (.inr h5)]);have n:=aE (rG ai.o al.o (by omega) #[ag 0,ag 0,ag 0,ag 0,ag 0,ag 0,ag 0,ag 0,ag 0,ag 0,af]);have U:=aE (aL _ _ _ #[ag 0,ag 0,ag 0,ag 0,ag 0,ag 0,ag 0,ag 0,ag 0,ag 0,af] _ _ k5);go_wp2_with(refine az rfl 45 _ _ rfl _ _ rfl rfl _ _ k5 (by kernel_rfl) rfl (by simp[Value.oneCell']) ?_)
      refine lJ L.heap.size _ 3 rfl rfl rfl rfl U.o ?_;rw[S.o];exact⟨_,rfl,n.o.1,n.o.2,eE _ _⟩
     ·have bB:Rb (¬(fr<0\/1440<to)):=fun h=>(by omega);have cd:=ai.o;obtain⟨bJ,rv,cv,vv,kv,ss,aa,X⟩:=cd;obtain⟨k,hk⟩: ∃k:Nat,a.sv=(k:Int):=⟨a.sv.toNat,by have:=HS.o;omega⟩
      have bH:k<ss.length:=by
       have h1:ss.length=d.svs.length:=(by rw[<-X.sve,bc]);have:=HS.o;omega
      obtain⟨⟨s,sv⟩,av⟩: ∃q,ss[k]? =some q:=⟨ss[k],ay bH⟩
      have bm:d.svs[k]? =some s:=(by rw[<-X.sve,a8,av];rfl);have ar:=(X.svr _ (aM av)).here;obtain⟨gs,b8,e1,_,bK⟩:=iJ rB X.svs rfl av;obtain⟨ns,bI⟩:=au ss.length;rw[bI]at e1;have z2:w6.cell? (ae gD 2)=some (.slice (some (ae gs 0)) ns b8):=(cr (v:=t.sv) 2 X.blk rfl).trans (congrArg some e1);obtain⟨pr,aP,bM,_,_⟩:=id ar;dsimp only at bM ar;subst bM;have zr:w6.cell? (ae gs (k*4+3))=some (.slice pr s.roles.length aP):=bK 3 _ rfl;have u4:w6.cell? (ae i.heap.size 4)=some (ag (k:Int)):=(cr 4 z rfl).trans (by rw[hk];rfl);have ct:(k:Int)<(ns:Int):=(by omega);have cs:(0:Int)<=(k:Int):=(by omega);have bx:Rb (d.svs.getD a.sv.toNat sv0=s):=(by show _=_;rw[hk];simp[List.getD,bm]);have bZ:=aE (bJ.sv s (aM bm));have a3:=(al.o.rob HW.o).here;obtain⟨er,ao⟩:=au (jO who s.roles);have a6:=aE ao;have bT:=aE ar;have bY:=aE a3;obtain⟨nr,bh⟩:=au s.roles.length;obtain⟨D,bi⟩:=au who.length;have ac:=aE bi;have bS:=aE bh;rw[bh]at zr;rw[bi]at k4 bC⊢;have u0:w6.cell? (ae r.heap.size 2)=some (.slice pw D cw):=cr 2 k4 rfl;have u1:w6.cell? (ae w.heap.size 0)=some (ab gD 0):=cr 0 k1 rfl;clear bJ X hk bH av bm ar bK e1 bI a3 bh bi;go_upto_region 6 with fail;refine dl (fun _ _ W=>aq w6 W) [kn 47 (ab r.heap.size 2),kn 48 (.slice pw D cw),kn 49 (ab gD 0),kn 50 (ab gD 0),kn 51 (ab gD 0),kn 52 (ab gD 2),kn 53 (.slice (some (ae gs 0)) ns b8),kn 54 (ab i.heap.size 4),kn 55 (ag (k:Int)),kn 56 (ab gs (k*4)),kn 57 (ab gs (k*4+3)),kn 58 (.slice pr nr aP),kn 59 (ag er),kn 10 (ag er)] (fun _=>(aH _ _).drew) (fun _ _ _ _ f h=>aw h f) (by kernel_rfl) ?_ ?_
      ·rintro M φ W f _ F l m hF;have zz:=fun(q:Addr) (x:Value) (h:w6.cell? q=some x)=>aj f h;have u0:=zz _ _ u0;have u1:=zz _ _ u1;have u4:=zz _ _ u4;have z2:=zz _ _ z2;have zr:=zz _ _ zr;have cW:=C6 who s.roles pw cw (.slice pr s.roles.length aP) W (bY.o.below f) (by rw[ac.o];exact bC) (bT.o.below f);rw[ao,ac.o,bS.o]at cW;clear zz ao k1 k2 k4 k5 z u2 u3;simp only[kn,dX,aQ,aT,Act.put,aA,aK,aJ]at m;subst m;simp only[dn,Nat.reduceAdd]at hF;dsimp only[kn,dy,eJ,dY,Act.put];and_intros;all_goals first|exact trivial|intro hw hn hm K Q
       all_goals try (go_simp;with_reducible exact Q _ _ ⟨rfl,aH _ _⟩)
       go_simp;refine cW.mono ?_;rintro r' W' ⟨rfl,aV⟩;exact Q _ _ ⟨rfl,aV⟩
      ·rintro M φ w7 hM f;simp only[kn,d8,aQ,aT,Act.put,aA,aK,aJ];have bv:=aE (ai.o.below f);have a7:=aE (al.o.trans (Kd.of f));have j1:=bt f k1;have j2:=bt f k2;have j4:=bt f k4;have j5:=bt f k5;have j3:=bt f z;have v0:w7.cell? (ae r.heap.size 2)=some (.slice pw D cw):=cr 2 j4 rfl;have ce:wb.heap.size<=w7.heap.size:=bg bW.o f.size;clear hM f k1 k2 k4 k5 z u0 u1 u2 u3 u4 z2 zr ao;by_cases h0:er=0
       ·subst h0;have a1:=Fe bZ.o a6.o;have eF: ∀a2 w,(callFunc 69 a2).run prog w= .ok (.enter 69 a2) w:=fun _ _=>rfl;have hL: ∀q,w.heap.size<=q-> ∀W,Kd gD t t w7 W-> ∀{c:Array Value} {T:TypeId},w7.heap[q]? =ah c T->W.heap[q]? =ah c T:=fun q J W A c T hc=>(A.blk q (HG.o q J) (aI hc)).trans hc
        have cC:=qi (lc day num fr to) (fun s W=>dE B gD s ((t.add i.heap.size).add L.heap.size) W/\Kd gD t t w7 W/\Cor d s) 69 #[ab w.heap.size 0,ab r.heap.size 0,ab w1.heap.size 0,ab i.heap.size 0] who (.slice pw who.length cw) d w7 eF ⟨bv.o,Kd.of (aH _ _),Cor.refl d⟩ (fun s W A=>((a7.o.trans A.2.1).rob HW.o).here) (fun x hx s W A=>by
         have cf:s.res=d.res:=(by obtain⟨_,_,rfl⟩:=A.2.2;rfl);refine(Lr (a:={a with fr:=fr,to:=to}) W A.1 (a1.1 x hx).1 (by rw[cf];exact(a1.1 x hx).2) (hL _ (aD _) W A.2.1 j1) (hL _ (by omega) W A.2.1 j4) (hL _ (by omega) W A.2.1 j2) (hL _ (by omega) W A.2.1 j3) (HG.o _ (by omega)) (HG.o _ (by omega)) (HG.o _ (by omega)) (HG.o _ (aD _))).mono fun e w' hh=>⟨hh.1,hh.2.1,A.2.1.trans ⟨hh.2.2.os,hh.2.2.tape,hh.2.2.output,hh.2.2.size,hh.2.2.blk,fun _ _ h=>h,rfl⟩,A.2.2.trans (rY s x day num)⟩)
        rw[ac.o]at cC;have HL:=aE hL;obtain⟨bb,bd⟩:=au ((jt (lc day num fr to) who d).1);obtain⟨de,be⟩:=au ((jt (lc day num fr to) who d).2);rw[bd,be]at cC
        have a9:Rb (fh d num a day min who=if bb=true then((ap0,10),de) else(({a with fr:=fr,to:=to,day:=day,min:=min,who:=who},0),de)):=by
         show _=_;unfold fh;rw[ax N.o,ak.o,am.o,ax bB.o,bx.o,a6.o,ax (by simp)];simp only[bd,be]
        clear bd be hL;go_wp2_with fail;refine cC.mono ?_;rintro e Z ⟨rfl,bG,V,cc⟩;have i4:=HL.o _ (by omega) Z V j4;have i3:=HL.o _ (by omega) Z V j3;have i5:=HL.o _ (by omega) Z V j5;have bw:=aE bG;have H:=aE (a7.o.trans V);have cx:wb.heap.size<=Z.heap.size:=bg ce V.size;clear cC bG V cc v0 j1 j2 j3 j4 j5 HL;cases bb with
        |true=>
         have S:Rb (fh d num a day min who=((ap0,10),de)):=a9.o;have n:=aE (rG bw.o H.o (by omega) #[ag 0,ag 0,ag 0,ag 0,ag 0,ag 0,ag 0,ag 0,ag 0,ag 0,af]);have U:=aE (aL _ _ _ #[ag 0,ag 0,ag 0,ag 0,ag 0,ag 0,ag 0,ag 0,ag 0,ag 0,af] _ _ i5);go_wp2_with(refine az rfl 45 _ _ rfl _ _ rfl rfl _ _ i5 (by kernel_rfl) rfl (by simp[Value.oneCell']) ?_)
         refine lJ L.heap.size _ 10 rfl rfl rfl rfl U.o ?_;rw[S.o];exact⟨_,rfl,n.o.1,n.o.2,eE _ _⟩
        |false=>
         have S:Rb (fh d num a day min who=(({a with fr:=fr,to:=to,day:=day,min:=min,who:=who},0),de)):=a9.o;clear a9;have v0:Z.cell? (ae r.heap.size 0)=some (ag day):=cr 0 i4 rfl;have v1:Z.cell? (ae r.heap.size 1)=some (ag min):=cr 1 i4 rfl;have v2:Z.cell? (ae r.heap.size 2)=some (.slice pw D cw):=cr 2 i4 rfl;have bX:=aE ((H.o.rob HW.o).here);go_upto_region 12 with fail
         refine dl (ClJ Z i.heap.size day min who D) [kn 70 (ab r.heap.size 0),kn 71 (ag day),kn 72 (ab r.heap.size 1),kn 73 (ag min),kn 74 (ab r.heap.size 2),kn 75 (.slice pw D cw),td 76,td 77,kn 78 (ab i.heap.size 8),nk] (fun _=>⟨fun _=>(aH _ _).drew,(fun h=>by cases h),(fun h=>by cases h),(fun h=>by cases h)⟩) (fun _ _ _ _ f h=>⟨fun c=>(h.bel c).trans (f.mono (h.bel c).size),fun c=>by
          obtain⟨p,k,e1,e2⟩:=h.cl c;exact⟨p,k,e1,fun c'=>br (e2 c') fun b J=>f.block b ((e2 c').lt b J).2⟩,h.bu,fun c=>by
          obtain⟨p,k,W0,e1,e2,e3⟩:=h.fin c;exact⟨p,k,W0,e1,e2,e3.trans (f.mono (by have:=e3.size;rw[(eY _ _ _ _).2.2.2]at this;exact this))⟩⟩) (by kernel_rfl) ?_ ?_
         ·rintro M φ W O hc F l m hF;have b6:M 7=true->M 6=true:=fun h=>hc 7 _ rfl h ⟨6,.data⟩ (by simp) rfl rfl;have b7:M 9=true->M 7=true:=fun h=>hc 9 _ rfl h ⟨7,.data⟩ (by simp) rfl rfl;have HC:=aE (fV b6 b7);have HJ:=aE O;clear hc b6 b7 O;simp only[kn,td,nk,dX,aQ,aT,Act.put,aA,aK,aJ]at m;subst m;simp only[dn,Nat.reduceAdd]at hF;dsimp only[kn,td,nk,dy,eJ,dY,Act.put];and_intros;all_goals first|exact trivial|intro hw hn hm K Q
          all_goals try (go_simp;with_reducible exact Q _ _ ⟨rfl,aH _ _⟩)
          ·have f:=HJ.o.bel (je HC.o.2 (hn 7 _ rfl (by kernel_rfl)));have v0:=aj f v0;go_simp;exact Q _ _ ⟨rfl,aH _ _⟩
          ·have f:=HJ.o.bel (je HC.o.2 (hn 7 _ rfl (by kernel_rfl)));have v1:=aj f v1;go_simp;exact Q _ _ ⟨rfl,aH _ _⟩
          ·have f:=HJ.o.bel (je HC.o.2 (je HC.o.1 (hn 6 _ rfl (by kernel_rfl))));have v2:=aj f v2;go_simp;exact Q _ _ ⟨rfl,aH _ _⟩
          ·have h7:=je HC.o.1 hm;have h9:=je HC.o.2 h7;have f:=HJ.o.bel h9;have cL:=zk who (.slice pw who.length cw) W (bX.o.below f) (by have:=a1.2;omega);rw[ac.o]at cL;clear hw hn;go_simp;refine cL.mono ?_;rintro r' W' ⟨v',rfl,bj,aV⟩;obtain⟨E,C,rfl⟩:=cg bj;exact Q _ _ ⟨trivial,fun _=>aw f aV,fun _=>⟨E,C,dV,fun _=>⟨bj.1,bj.2.imp id fun⟨g,c,cu,q1,q2,q3⟩=>⟨g,c,cu,q1,bg f.size q2,q3⟩⟩⟩,fun c=>mr h7 c (by decide),fun c=>mr h9 c (by decide)⟩
          ·have h6:=hw ⟨6,.data⟩ (by simp) rfl rfl;have h9:=je HC.o.2 hm;have f:=HJ.o.bel h9;obtain⟨E,C,I,ho⟩:=HJ.o.cl h6;rw[I]at hF;clear hw hn;go_simp;exact Q _ _ ⟨trivial,fun _=>f,fun _=>⟨E,C,(dH (by decide)).trans I,fun _=>ho h9⟩,fun _=>by rw[dV,dH (by decide),I],fun c=>mr h9 c (by decide)⟩
          ·have h7:=hw ⟨7,.data⟩ (by simp) rfl rfl;have f:=HJ.o.bel hm;obtain⟨E,C,I,ho⟩:=HJ.o.cl (HC.o.1 h7);have aS:=HJ.o.bu h7;rw[I]at aS;have bN:=bt f i3
           have ch:W.there i.heap.size 8 3:=fun k hk=>by
            refine⟨?_,bo _ _ _ _ _ bN⟩;rw[aZ _ _ _ _ _ _ bN,gh (by rw[pA];omega)];rfl
           show Oper.wp _ _ _ _ _ _;refine wp_store_mid 39 _ _ rfl i.heap.size 8 #[ag day,ag min,.slice E D C] (by simp[Act.eval,hF]) (by simp[Act.eval,hF,aS]) ch (by kernel_rfl) (by simp[Value.oneCell']) ?_;refine Q undef _ ⟨trivial,fun c=>by simp at c,fun _=>⟨E,C,I,fun c=>by simp at c⟩,fun _=>by rw[I];exact aS,fun _=>⟨E,C,W,f,ho hm,aH _ _⟩⟩
         ·rintro M φ W hM O;obtain⟨E,C,W0,h1,ho,h2⟩:=O.fin (hM 9 (by decide) rfl);simp only[kn,td,nk,d8,aQ,aT,Act.put,aA,aK,aJ];have f3:=uO [ag day,ag min,.slice E D C] 8 W0 _ (bt h1 i3);have a0:=(eY i.heap.size [ag day,ag min,.slice E D C] 8 W0).2.2.2;have bA:=h2.mono (j9 a0);have b9:W.heap[i.heap.size]? =ah (apC ({a with fr:=fr,to:=to,day:=day,min:=min,who:=who},.slice E D C)) 45:=bt bA f3;have bk: ∀q,q≠i.heap.size->(W0.setCells i.heap.size 8 [ag day,ag min,.slice E D C]).heap[q]? =W0.heap[q]? :=fun q J=>fI i.heap.size _ _ W0 q J;have A: ∀q,q<Z.heap.size->q≠i.heap.size->W.heap[q]? =Z.heap[q]? :=fun q m J=>(h2.block q (aU m h1.size)).trans ((bk q J).trans (h1.block q m));have bl:Z.heap.size<=W.heap.size:=(by have:=h2.size;rw[a0]at this;exact bg h1.size this);have bO:=(A _ (aI i5) (by omega)).trans i5;have bQ:=aE (bw.o.wr bl fun q m hx=>A q m fun e=>hx (by rw[e];exact bL _ bq));have bR:Rb (Kd gD t t w W):=⟨h2.os.trans ((eY _ _ _ _).1.trans (h1.os.trans H.o.os)),h2.tape.trans ((eY _ _ _ _).2.1.trans (h1.tape.trans H.o.tape)),h2.output.trans ((eY _ _ _ _).2.2.1.trans (h1.output.trans H.o.output)),bg H.o.size bl,fun q J m=>(A q (by omega) (by omega)).trans (H.o.blk q J m),fun _ _ h=>h,rfl⟩
          obtain⟨cA,ad⟩:=au (apC ({a with fr:=fr,to:=to,day:=day,min:=min,who:=who},.slice E D C));have n:=aE (rG bQ.o bR.o (by omega) cA)
          have bV:Rb (Rob (Fx gD t) (fun u=>dM u (.slice E D C) who) (W.setRow L.heap.size cA)):=by
           refine Rob.imp (Rob.move (P:=fun q=>Z.heap.size<=q) (Φ:=fun u=>u.ownsRow Z.heap.size 3 1 (.slice E D C) D (dz who)) (w:=W0) (fun u _ ha=>br ho fun b f=>ha b (ho.lt b f).1 (ho.lt b f).2) (by have:=h2.size;rw[a0]at this;simpa using this) (fun q J m=>(aW _ _ _ _ (by omega)).trans ((h2.block q m).trans (bk q (by omega)))) fun q _ J=>H0.o.fx (.inr (by omega))) fun u hu=>nK (by rw[ac.o];exact hu) (by have:=a1.2;omega)
          have U:=aE (aL _ _ _ cA _ _ bO);have cb:cA.all (·.oneCell')=true:=(by rw[<-ad];exact gQ _ _ _ _);have R:cA.size=11:=(by rw[<-ad];rfl);rw[ad]at b9;have bP:=aE ad;clear hM O h1 h2 bA ho f3 bk A a0 bl i3 i4 i5 v0 v1 v2 ad;go_wp2_with(first|(refine aR rfl 45 _ rfl _ rfl _ _ _ _ b9 apT rfl (by rw[R];kernel_rfl) ?_)|(refine az rfl 45 _ _ rfl _ _ rfl rfl _ _ bO (by rw[R];kernel_rfl) (by rw[R];rfl) cb ?_))
          refine lJ L.heap.size cA 0 R rfl rfl rfl U.o ?_;rw[S.o];exact⟨.slice E D C,by rw[bP.o],n.o.1,n.o.2,bV.o⟩
       ·have cq:(er !=0)=true:=(by simpa using h0);have S:Rb (fh d num a day min who=((ap0,er),d)):=(by show _=_;unfold fh;rw[ax N.o,ak.o,am.o,ax bB.o,bx.o,a6.o,aB h0]);clear h0;have n:=aE (rG bv.o a7.o (by omega) #[ag 0,ag 0,ag 0,ag 0,ag 0,ag 0,ag 0,ag 0,ag 0,ag 0,af]);have U:=aE (aL _ _ _ #[ag 0,ag 0,ag 0,ag 0,ag 0,ag 0,ag 0,ag 0,ag 0,ag 0,af] _ _ j5);go_wp2_with(refine az rfl 45 _ _ rfl _ _ rfl rfl _ _ j5 (by kernel_rfl) rfl (by simp[Value.oneCell']) ?_)
        refine lJ L.heap.size _ er rfl rfl rfl rfl U.o ?_;rw[S.o];exact⟨_,rfl,n.o.1,n.o.2,eE _ _⟩
end
end
section
theorem Q6:(prog.info? 45).map (fun i=>(i.zero,i.size,i.bytes))=some (some (.agg #[ag 0,ag 0,ag 0,ag 0,ag 0,ag 0,ag 0,ag 0,ag 0,ag 0,af]),11,104):=by kernel_rfl
theorem Qy:prog.underlying 27=some (.slice 45):=by kernel_rfl
def uU (d:Dk)(a:Ap):Prop:=(0<=a.sv/\a.sv<d.svs.length)/\(0<=a.fr/\a.fr<=a.to/\a.to<=1440)/\(0<=a.left/\a.left<=10)/\(0<=a.bef/\a.bef<=1440/\0<=a.aft/\a.aft<=1440/\0<=a.len/\a.len<=1440)/\(0<=a.day/\a.day<146097)/\a.who.length<=4/\ ∀r∈a.who,0<=r/\r<d.res.length
theorem Bt {d:Dk}{num:Int}{a:Ap}{day min:Int}{who:List Int}(l:uK d)(o:0<=a.sv/\a.sv<d.svs.length)(m:0<=a.left/\a.left<=10)(n:0<=a.bef/\a.bef<=1440/\0<=a.aft/\a.aft<=1440/\0<=a.len/\a.len<=1440)(h:(fh d num a day min who).1.2=0):uU d (fh d num a day min who).1.1:=by
 unfold fh at h⊢;dsimp only at h⊢;by_cases f:isN day 146097=false\/isN min 1440=false
 ·rw[aB f]at h;cases h
 rw[ax f]at h⊢;by_cases i:min-a.bef<0\/1440<min+a.len+a.aft
 ·rw[aB i]at h;cases h
 rw[ax i]at h⊢;by_cases b:jO who (d.svs.getD a.sv.toNat sv0).roles≠0
 ·rw[aB b]at h;exact absurd h b
 rw[ax b]at h⊢;split at h
 ·cases h
 ·rename_i k;rw[ax k];obtain⟨s,c⟩: ∃s,d.svs[a.sv.toNat]? =some s:=⟨d.svs[a.sv.toNat]'(by omega),ay _⟩
  have e:d.svs.getD a.sv.toNat sv0=s:=(by simp[List.getD,c]);rw[e]at b;have j:=Fe (l.sv s (aM c)) (d7 b)
  have g:0<=day/\day<146097:=by
   have:isN day 146097=true:=by
    cases hq:isN day 146097 with
    |true=>rfl
    |false=>exact absurd (.inl hq) f
   simpa[isN] using this
  exact⟨o,⟨by show 0<=min-a.bef;omega,by show min-a.bef<=min+a.len+a.aft;omega,by show min+a.len+a.aft<=1440;omega⟩,m,n,g,j.2,j.1⟩
theorem LK (a:List (Ap×Value))(p:Ap×Value):apF (a++[p])=apF a++(apC p).toList:=by simp[apF]
theorem DkM.addAp {B gD:Nat}{d:Dk}{t:Tr}{H F J kv:Value}{I:List (Sv×Value)}{y:List (Ap×Value)}{z K j W:World}{a:Ap}{v g:Value}(N:DkM B gD d t H F J kv I y z)(L:rE z B 45 11 y.length t.av (apF y) (apC (a,v)) g K j)(M:Below j.heap.size (j.setCell ⟨gD,3,none⟩ g) W)(x:Rob (Fx gD t) (fun u=>dM u v a.who) z):
  DkM B gD {d with aps:=d.aps++[a]} {t with av:=g} H F J kv I (y++[(a,v)]) W/\Kd gD t {t with av:=g} z W:=by
 obtain⟨o,i,O,m⟩:=L;have c:=N.below o;have C:=C7 (t':={t with av:=g}) (k:=3) c (.inr (.inr rfl)) i O (.inr (.inr ⟨rfl,rfl⟩));have l:=(i.block gD (aI c.blk) fun e=>iI c.aps c.blk (by decide) e.symm).trans c.blk;have D: ∀b,g.ownBlock=some b->b≠gD:=fun b A e=>iI m l (by decide) (by rw[A,e]);have q:Below (j.setCell ⟨gD,3,none⟩ g).heap.size (j.setCell ⟨gD,3,none⟩ g) W:=M.mono (by simp);have r:=C.trans (Kd.of q);have f: ∀{e s n:Nat} {u:Value} {xs:List Value},(j.setCell ⟨gD,3,none⟩ g).ownsRow B e s u n xs->W.ownsRow B e s u n xs:=fun G=>br G fun b E=>q.block b (G.lt b E).2;refine⟨c.turn r (bt q (aY j gD 3 _ _ g l)) rfl rfl rfl (f (qI ⟨_,c.blk⟩ c.res c.aps (by decide) (by decide) i)) (f (qI ⟨_,c.blk⟩ c.svs c.aps (by decide) (by decide) i)) (f (br ?_ fun b E=>aO j ⟨gD,3,none⟩ b g (D b E))) c.sve (by simp[c.ape]) (fun p w=> .inl w) (fun p w=> ?_),(Kd.of o).trans r⟩
 ·rw[aP,LK];exact m
 ·rcases da.1 w with w|w
  ·exact .inl ⟨p.1,w,rfl⟩
  ·rw[cQ.1 w];exact .inr (r.rob (x.below o))
structure ApJ (wX:World)(B gD:Nat)(c:Array Value)(v:Value)(na:Nat)(aa:List (Ap×Value))(M:Nat->Bool)(φ:Nat->Value)(W:World):Prop where
 bel:M 8=false->aq wX W
 one:M 7=true->M 8=false-> ∃g k,φ 62= .slice (some (ae g 0)) 1 k/\W.heap[g]? =ah c 45
 app:M 8=true->M 12=false-> ∃g k W0,φ 63= .slice (some (ae g 0)) (na+1) k/\rE wX B 45 11 na v (apF aa) c (φ 63) W0 W
 sto:M 12=true-> ∃g k W0 W1,φ 63= .slice (some (ae g 0)) (na+1) k/\rE wX B 45 11 na v (apF aa) c (φ 63) W0 W1/\Below W1.heap.size (W1.setCell ⟨gD,3,none⟩ (φ 63)) W
section
variable {B gD:Nat} {d:Dk} {t:Tr}
theorem LL (n day min:Int)(who:List Int)(pw:Option Addr)(cw:Nat)(w:World)(h:dE B gD d t w)(hw:Rob (Fx gD t) (fun u=>dM u (.slice pw who.length cw) who) w)(b6:who.length<=cw):Calls prog 33 #[ab gD 0,ag n,.agg #[ag day,ag min,.slice pw who.length cw]] w (rD B gD (lV d n day min who) t w):=by
 obtain⟨D,h1,b1,n1⟩:=nb w #[ag day,ag min,.slice pw who.length cw] 39;obtain⟨w2,h2,b2,n2⟩:=nb D #[ag 0,ag 0,ag 0,ag 0,af,af] 43;have s1:D.heap.size=w.heap.size+1:=by rw[<-h1];simp
 have s2:w2.heap.size=D.heap.size+1:=by rw[<-h2];simp
 have a2:=aw b1 b2;have ad:=h.opened (q:=D.heap.size) b1.size s2 a2;have m1:=bt b2 n1;have aO:=aE ad;have bk:Rb (Kd gD t t w w2):=Kd.of a2;have H0:=aE h;have HW:=aE hw;have a9:=aE a2;have HG:Rb (∀q,w.heap.size<=q->Gx gD t q):=fun q p=>(h.fx (.inr p)).1;obtain⟨i,rv,cv,vv,kv,ss,aa,I⟩:=ad;have bJ:ss.length=d.svs.length:=by rw[<-I.sve,bc]
 have b0:aa.length=d.aps.length:=by rw[<-I.ape,bc]
 obtain⟨ps,cs,a7⟩:=cg I.svs;obtain⟨pa,ca,aV⟩:=cg I.aps;obtain⟨ns,a5⟩:=au ss.length;obtain⟨na,bb⟩:=au aa.length;rw[a5]at a7;rw[bb]at aV;have z2:w2.cell? (ae gD 2)=some (.slice ps ns cs):=(cr (v:=t.sv) 2 I.blk rfl).trans (congrArg some a7);have z3:w2.cell? (ae gD 3)=some (.slice pa na ca):=(cr (v:=t.av) 3 I.blk rfl).trans (congrArg some aV);have a0:Rb (d.svs.length=ns):=by show _=_;rw[<-bJ,a5]
 have ar:Rb (d.aps.length=na):=by show _=_;rw[<-b0,bb]
 have bP:Rb (t.sv= .slice ps ns cs):=a7;have bp:=aE a5;have HM:=aE I;have bm:=aE i;have cc:na<=30:=by rw[<-ar.o];exact i.al
 have cN:=qH n (ns:Int) w2;obtain⟨c1,O⟩:=au (isN n (ns:Int));rw[O]at cN;have ao:=aE O;have co:w.heap.size<D.heap.size:=by omega
 have cp:D.heap.size<w2.heap.size:=by omega
 clear h hw b1 b2 a2 I i bJ b0 a7 aV a5 bb O n1 s1 s2;go_enter func33,ntmps33;go_wp2_with fail;refine cN.mono ?_;rintro e wa ⟨rfl,cf⟩;subst cf;clear cN;cases c1 with
 |false=>
  have HP:Rb (lV d n day min who=(noA 6,d)):=(by show _=_;unfold lV;rw[a0.o,aB ao.o]);clear h1 h2 z2 z3 m1;have cR:=fj 6 wa;go_wp2_with fail;refine cR.mono ?_;rintro e w9 ⟨rfl,H⟩;have n9:=bt H n2;have V:=aE (fK (aO.o.below H) (bk.o.trans (Kd.of H)) (by omega) (anC (noA 6) (af) (af)));have HR:=aE (aL _ _ _ (anC (noA 6) (af) (af)) _ _ n9);clear cR H n2;go_wp2_with(refine az rfl 43 _ _ rfl _ _ rfl rfl _ _ n9 (by kernel_rfl) rfl (by simp[anC,noA,Value.oneCell']) ?_)
  refine aX (v:= .agg (anC (noA 6) (af) (af))) ?_ rfl ?_
  ·exact bf rfl _ _ D.heap.size _ _ _ _ rfl HR.o anT rfl (by kernel_rfl)
  ·rw[HP.o];exact⟨t,_,_,rfl,V.o.1,V.o.2,fp _ _,eE _ _⟩
 |true=>
  by_cases bx:30<=na
  ·have bz:(30:Int)<=(na:Int):=(by omega);have HP:Rb (lV d n day min who=(noA 5,d)):=(by show _=_;unfold lV;rw[a0.o,ax (by rw[ao.o];simp),ar.o,aB bx]);clear h1 h2 z2 m1;have cR:=fj 5 wa;go_wp2_with fail;refine cR.mono ?_;rintro e w9 ⟨rfl,H⟩;have n9:=bt H n2;have V:=aE (fK (aO.o.below H) (bk.o.trans (Kd.of H)) (by omega) (anC (noA 5) (af) (af)));have HR:=aE (aL _ _ _ (anC (noA 5) (af) (af)) _ _ n9);clear cR H n2;go_wp2_with(refine az rfl 43 _ _ rfl _ _ rfl rfl _ _ n9 (by kernel_rfl) rfl (by simp[anC,noA,Value.oneCell']) ?_)
   refine aX (v:= .agg (anC (noA 5) (af) (af))) ?_ rfl ?_
   ·exact bf rfl _ _ D.heap.size _ _ _ _ rfl HR.o anT rfl (by kernel_rfl)
   ·rw[HP.o];exact⟨t,_,_,rfl,V.o.1,V.o.2,fp _ _,eE _ _⟩
  ·have bz: ¬(30:Int)<=(na:Int):=(by omega);have hn:0<=n/\n<(ns:Int):=(by have:=ao.o;simpa[isN] using this);obtain⟨k,rfl⟩: ∃k:Nat,n=(k:Int):=⟨n.toNat,by omega⟩
   have bC:k<ss.length:=(by rw[bp.o];omega);have bY:(0:Int)<=(k:Int):=(by omega);have bZ:(k:Int)<(ns:Int):=hn.2;obtain⟨⟨s,sv⟩,a6⟩: ∃q,ss[k]? =some q:=⟨ss[k],ay bC⟩
   have be:d.svs[k]? =some s:=(by rw[<-HM.o.sve,a8,a6];rfl);obtain⟨pr,bv,bI,_,_⟩:=(HM.o.svr _ (aM a6)).here;dsimp only at bI;subst bI;obtain⟨gs,bQ,e1,_,bG⟩:=iJ rB HM.o.svs rfl a6;have e0:Value.slice ps ns cs= .slice (some (ae gs 0)) ns bQ:=(by rw[<-bP.o,<-bp.o];exact e1);injection e0 with e2 e3 e4;subst e2 e4;obtain⟨R,Y⟩: ∃q:Ap,q=⟨1,10,0,0,(k:Int),s.bef,s.aft,s.len,0,0,[]⟩:=⟨_,rfl⟩
   obtain⟨wY,T,hY,nY,h3,b3,n3⟩:=nbs wa #[ag 0,ag 0,ag 0,af] (svC (s,.slice pr s.roles.length bv)) 36;obtain⟨wZ,w4,hZ,nZ,h4,b4,n4⟩:=nbs T #[ag 0,ag 0,ag 0,ag 0,ag 0,ag 0,ag 0,ag 0,ag 0,ag 0,af] #[ag 1,ag 10,ag 0,ag 0,ag (k:Int),ag s.bef,ag s.aft,ag s.len,ag 0,ag 0,af] 45;have s4:w4.heap.size=T.heap.size+1:=(by rw[<-h4,<-hZ];simp);have b7:=(aO.o.below b3).opened (q:=T.heap.size) (aD _) s4 b4;have a3:=aw b3 b4;have q0:T.cell? (ae wa.heap.size 0)=some (ag s.len):=cr 0 n3 rfl;have q1:T.cell? (ae wa.heap.size 1)=some (ag s.bef):=cr 1 n3 rfl;have q2:T.cell? (ae wa.heap.size 2)=some (ag s.aft):=cr 2 n3 rfl;have m4:=bt a3 m1;have l4:=bt a3 n2;have ba:=(tD (bm.o.sv s (aM be))).meas
   have aF:0<=s.bef/\s.bef<=1440/\0<=s.aft/\s.aft<=1440/\0<=s.len/\s.len<=1440:=by
    unfold kO at ba;have:=gj ba;omega
   have an:0<=R.sv/\R.sv<d.svs.length:=(by rw[Y,a0.o];exact⟨bY,bZ⟩);have Z:0<=R.bef/\R.bef<=1440/\0<=R.aft/\R.aft<=1440/\0<=R.len/\R.len<=1440:=(by rw[Y];exact aF);have cm:wa.heap.size<T.heap.size:=aI n3;have G:=aE (aw a9.o a3)
   have bK:Rob (Fx gD ((t.add D.heap.size).add T.heap.size)) (fun u=>dM u (.slice pw who.length cw) who) w4:=HW.o.move G.o.size (fun q _ hl=>G.o.block q hl) fun q hl p=>⟨p.1,fun Q=>by
    rcases bO.1 Q with e|Q
    ·omega
    ·rcases bO.1 Q with e|Q
     ·omega
     ·exact p.2 Q⟩
   have cP:=zw (-1) R none pw 0 cw day min who w4 b7 an Z bK b6;obtain⟨P,hP⟩:=au (fh d (-1) R day min who);rw[hP]at cP;unfold vQ at cP
   have a1:Rb (lV d (k:Int) day min who=if P.1.2≠0 then(noA P.1.2,P.2) else(jd P.2.aps.length,{P.2 with aps:=P.2.aps++[P.1.1]})):=by
    show _=_;have e:d.svs.getD k sv0=s:=(by simp[List.getD,be]);unfold lV;rw[a0.o,ax (by rw[ao.o];simp),ar.o,ax bx];simp only[dj,e];rw[Y]at hP;rw[hP]
   have bi:Rb (Cor d P.2):=(by have:=mD d (-1) R day min who;rw[hP]at this;exact this)
   have bh:Rb (P.1.2=0->uU d P.1.1):=fun e=>by
    have:=Bt (num:= -1) (a:=R) (day:=day) (min:=min) (who:=who) bm.o an (by rw[Y];exact⟨by show(0:Int)<=10;omega,io _⟩) Z (by rw[hP];exact e);rw[hP]at this;exact this
   subst Y;obtain⟨nw,bF⟩:=au who.length;rw[bF]at cP m4⊢;have bN:=aE (Kd.of (gD:=gD) (t:=t) G.o);have cn:wa.heap.size<w4.heap.size:=(by omega);clear h1 h2 hn bC a6 be e1 e3 b7 a3 ba aF an Z bK hP b3 b4 m1 n2 s4 bF b6 G a9;go_wp2_with(first|(refine wpList_load_mid rfl 36 _ rfl gs (k*4) rfl (svC (s,.slice pr s.roles.length bv)).toList _ bG svT rfl (by kernel_rfl) ?_)|(refine az rfl 36 _ _ rfl _ _ rfl rfl _ _ nY (by kernel_rfl) rfl (qJ _ _ _ _) ?_;rw[h3])|(refine az rfl 45 _ _ rfl _ _ rfl rfl _ _ nZ (by kernel_rfl) rfl (by simp[Value.oneCell']) ?_;rw[h4])|(refine aR rfl 45 _ rfl _ rfl _ _ _ _ n4 apT rfl (by kernel_rfl) ?_)|(refine aR rfl 39 _ rfl _ rfl _ _ _ _ m4 slT rfl (by kernel_rfl) ?_))
   refine cP.mono ?_;rintro e w5 ⟨cx,rfl,b8,z,L⟩;obtain⟨p5,c5,ce,_,_⟩:=L.here;subst ce;have bw:=HG.o T.heap.size (by omega);have n5:=(z.blk _ bw (aI n4)).trans n4;have l5:=(z.blk _ (HG.o D.heap.size (by omega)) (aI l4)).trans l4;obtain⟨nx,cd⟩:=au P.1.1.who.length;rw[cd]at L⊢;obtain⟨cA,E⟩:=au (apC (P.1.1,.slice p5 nx c5));have a4:cA.all (·.oneCell')=true:=(by rw[<-E];exact gQ _ _ _ _);have m:cA.size=11:=(by rw[<-E];rfl);rw[E];obtain⟨U,r⟩:=au (w5.setRow T.heap.size cA);have n6:=aL _ _ _ cA _ _ n5;rw[r]at n6;have ak: ∀q,q≠T.heap.size->U.heap[q]? =w5.heap[q]? :=fun q p=>r▸aW _ _ _ _ p;have bH:U.heap.size=w5.heap.size:=(by rw[<-r];simp);have bA:dE B gD P.2 (t.add D.heap.size) U:=b8.closed (by omega) fun q _ p=>ak q p;have aN:Rob (Fx gD (t.add D.heap.size)) (fun u=>dM u (.slice p5 nx c5) P.1.1.who) U:=L.move (by omega) (fun q p _=>ak q fun e=>p.2 (by rw[e];exact bq)) fun q _ p=>⟨p.1,fun Q=>p.2 (bL _ Q)⟩
   have aC:Kd gD t t w4 w5:=⟨z.os,z.tape,z.output,z.size,z.blk,fun _ _ h=>h,rfl⟩
   have A:=aE ((bN.o.trans aC).closed (w':=U) (q:=T.heap.size) (by omega) (by rw[<-r];rfl) (by rw[<-r];rfl) (by rw[<-r];rfl) (by omega) fun q _ p=>ak q p);have l6:=(ak _ (by omega)).trans l5;have bj:=aE bA;have bn:=aE aN;have ci:w4.heap.size<=U.heap.size:=(by rw[bH];exact z.size);obtain⟨er,bB⟩:=au P.1.2;rw[bB]at a1 bh⊢;clear cP b8 z aC L bA aN ak bH l5 l4 bB n4 m4 hY hZ nY nZ h3 h4 q0 q1 q2 bG n3 z2 z3 bw;by_cases h0:er=0
   ·subst h0;obtain⟨i,ct,ck,cy,cq,cu,aS,j⟩:=bj.o;obtain⟨pb,cb,ac⟩:=cg j.aps;obtain⟨f,ah⟩: ∃q,aS.length=q:=⟨_,rfl⟩
    have ai:P.2.aps.length=f:=(by rw[<-j.ape,bc,ah])
    have bE:f=na:=by
     obtain⟨_,_,e⟩:=bi.o;rw[<-ai,e];exact ar.o
    have HP:Rb (lV d (k:Int) day min who=(jd f,{P.2 with aps:=P.2.aps++[P.1.1]})):=a1.o.trans (by rw[ax (by simp),ai]);rw[ah]at ac;have z3:U.cell? (ae gD 3)=some (.slice pb f cb):=(cr (v:=t.av) 3 j.blk rfl).trans (congrArg some ac);have J:U.ownsRow B 45 11 (.slice pb f cb) f (apF aS):=(by have:=j.aps;rw[ah]at this;rw[<-show t.av=_ from ac];exact this);have bW:=aI j.blk;have bS:B<=U.heap.size:=(by have:=j.lo;omega);have bM:Rb (t.av= .slice pb f cb):=ac;have bl:=aE ah;have ch:f<30:=(by omega);clear ah ai bE ac a1;go_upto_region 10 with(refine az rfl 45 _ _ rfl _ _ rfl rfl _ _ n5 (by rw[m];kernel_rfl) (by rw[m];rfl) a4 ?_;rw[r])
    clear n5 r;refine dl (ApJ U B gD cA (.slice pb f cb) f aS) [kn 55 (ab gD 0),kn 56 (ab gD 0),kn 57 (ab gD 0),kn 58 (ab gD 0),kn 59 (ab gD 3),kn 60 (.slice pb f cb),kn 61 (.agg cA),td 62,td 63,kn 64 (ab gD 0),kn 65 (ab gD 0),kn 66 (ab gD 3),nk] (fun _=>⟨fun _=>(aH _ _).drew,(fun h=>by cases h),(fun h=>by cases h),(fun h=>by cases h)⟩) (fun _ _ _ _ S h=>⟨fun c=>(h.bel c).trans (S.mono (h.bel c).size),fun c c'=> ?_,fun c c'=> ?_,fun c=> ?_⟩) (by kernel_rfl) ?_ ?_
    ·obtain⟨g,c1,e1,hg⟩:=h.one c c';exact⟨g,c1,e1,bt S hg⟩
    ·obtain⟨g,c1,W0,e1,hg⟩:=h.app c c';exact⟨g,c1,W0,e1,hg.below S⟩
    ·obtain⟨g,c1,W0,W1,e1,hg,O⟩:=h.sto c;exact⟨g,c1,W0,W1,e1,hg,O.trans (S.mono (by have:=O.size;simpa using this))⟩
    ·rintro M φ W hJ hc F l hl hF;have bs:M 8=true->M 7=true:=fun h=>hc 8 _ rfl h ⟨7,.data⟩ (by simp) rfl rfl;have bu:M 12=true->M 8=true:=fun h=>hc 12 _ rfl h ⟨8,.data⟩ (by simp) rfl rfl;have aq:=aE (fV bs bu);have HJ:=aE hJ;clear hc bs bu hJ;simp only[kn,td,nk,dX,aQ,aT,Act.put,aA,aK,aJ]at hl;subst hl;simp only[dn,Nat.reduceAdd]at hF;dsimp only[kn,td,nk,dy,eJ,dY,Act.put];and_intros;all_goals first|exact trivial|intro hw hn I K hK
     all_goals try (go_simp;with_reducible exact hK _ _ ⟨rfl,aH _ _⟩)
     ·have S:=HJ.o.bel (hn 8 _ rfl (by kernel_rfl));have y:=aj S z3;go_simp;exact hK _ _ ⟨rfl,aH _ _⟩
     ·have nW:=bt (HJ.o.bel (je aq.o.1 (hn 7 _ rfl (by kernel_rfl)))) n6;show Oper.wp _ _ _ _ _ _;refine eN 45 _ rfl _ (by simp[Act.eval,hF]) _ _ _ _ nW apT rfl (by rw[m];kernel_rfl) ?_;exact hK _ _ ⟨rfl,aH _ _⟩
     ·have h8:=je aq.o.1 I;have hD:=je aq.o.2 h8;have S:=HJ.o.bel h8;have b5:=am W (.cells cA 45);rw[<-E]at hF b5;clear hw hn;unfold apC at hF;go_simp;refine hK _ _ ⟨trivial,fun _=>aw S b5,fun _ _=>⟨W.heap.size,1,dV,?_⟩,fun c _=>mr h8 c (by decide),fun c=>mr hD c (by decide)⟩;rw[<-E];exact aG _ _
     ·have h7:=hw ⟨7,.data⟩ (by simp) rfl rfl;have hD:=je aq.o.2 I;have S:=HJ.o.bel I;obtain⟨g,c1,bR,hg⟩:=HJ.o.one h7 I;have bd:=br J fun b p=>S.block b (J.lt b p).2;show Oper.wp _ _ _ _ _ _;refine gV (ops:= #[]) rfl (iN (c:=c1) rfl _ _ 27 45 rfl Qy Q6 rfl (by decide) (by decide) (by simp[Act.eval,hF]) bd (by simp[Act.eval,hF,bR]) hg m a4 (by omega) (bg bS S.size) ?_);rintro v' w' ho bX bV ⟨g2,c2,rfl⟩;refine⟨rfl,hK _ _ ⟨trivial,fun c=>by simp at c,fun _ c=>by simp at c,fun _ _=>⟨g2,c2,W,dV,?_⟩,fun c=>mr hD c (by decide)⟩⟩;rw[dV];exact⟨S,bX,bV,ho⟩
     ·have h8:=hw ⟨8,.data⟩ (by simp) rfl rfl;obtain⟨g,c1,W0,N,hG⟩:=HJ.o.app h8 I;have X:=(hG.2.1.block gD (aU bW hG.1.size) fun e=>iI J j.blk (by decide) e.symm).trans (bt hG.1 j.blk);have y:=cr 3 X rfl;have x3:=bo _ _ 3 _ _ X;rw[N]at hF;clear hw hn X;go_simp;refine hK undef _ ⟨trivial,fun c=> ?_,fun _ c=> ?_,fun _ c=>by simp at c,fun _=>⟨g,c1,W0,W,N,hG,by rw[N];exact aH _ _⟩⟩
      ·rw[orZ (by decide),h8]at c;cases c
      ·rw[orZ (by decide),h8]at c;cases c
    ·rintro M φ W hM hJ;obtain⟨g,c1,W0,W1,N,hG,aY⟩:=hJ.sto (hM 12 (by decide) rfl);simp only[kn,td,nk,d8,aQ,aT,Act.put,aA,aK,aJ];rw[N]at hG aY;rw[N];obtain⟨aZ,C⟩:=j.addAp (d:=P.2) (a:=P.1.1) (v:= .slice p5 nx c5) (by rw[bl.o,E];show rE U B 45 11 f t.av _ _ _ _ _;rw[bM.o];exact hG) aY bn.o;have bT:uU d P.1.1:=bh.o trivial
     have ad:dE B gD {P.2 with aps:=P.2.aps++[P.1.1]} (({t with av:= .slice (some (ae g 0)) (f+1) c1}:Tr).add D.heap.size) W:=by
      refine⟨⟨i.flt,i.vl,i.kl,i.rl,i.sl,?_,i.gv,i.nm,i.sv,fun x Q=> ?_⟩,_,_,_,_,_,_,aZ⟩
      ·show(P.2.aps++[P.1.1]).length<=30;rw[aP,<-j.ape,bc,bl.o];simp;omega
      ·rcases da.1 Q with Q|Q
       ·exact i.ap x Q
       ·rw[cQ.1 Q];obtain⟨_,_,e⟩:=bi.o;rw[e];exact bT
     have bD:Kd gD t {t with av:= .slice (some (ae g 0)) (f+1) c1} w W:=⟨C.os.trans A.o.os,C.tape.trans A.o.tape,C.output.trans A.o.output,bg A.o.size C.size,fun q p hl=>(C.blk q p (aU hl A.o.size)).trans (A.o.blk q p hl),fun q hl p=>C.gx q (aU hl A.o.size) p,rfl⟩
     have lW:=(C.blk D.heap.size (j.nx _ bq).2.2 (aI l6)).trans l6;have y3:W.cell? (ae gD 3)=some (.slice (some (ae g 0)) (f+1) c1):=cr 3 aZ.blk rfl;have V:=aE (fK ad bD (by omega) (anC (jd f) (af) (af)));have HR:=aE (aL _ _ _ (anC (jd f) (af) (af)) _ _ lW);have cj:IntKind.i64.wrap ((f:Int)+1-1)=(f:Int):=(by rw[bU];omega);clear hM hJ hG aY aZ C ad bD i j J E a4 m l6 n6 z3;go_wp2_with(refine az rfl 43 _ _ rfl _ _ rfl rfl _ _ lW (by kernel_rfl) rfl (by simp[Value.oneCell']) ?_)
     refine aX (v:= .agg (anC (jd f) (af) (af))) ?_ rfl ?_
     ·exact bf rfl _ _ D.heap.size _ _ _ _ rfl HR.o anT rfl (by kernel_rfl)
     ·rw[HP.o];exact⟨_,_,_,rfl,V.o.1,V.o.2,fp _ _,eE _ _⟩
   ·have cl:(er !=0)=true:=(by simpa using h0);have HP:Rb (lV d (k:Int) day min who=(noA er,P.2)):=a1.o.trans (by rw[aB h0]);clear h0;go_wp2_with(refine az rfl 45 _ _ rfl _ _ rfl rfl _ _ n5 (by rw[m];kernel_rfl) (by rw[m];rfl) a4 ?_;rw[r])
    clear n5 r;have cR:=fj er U;go_wp2_with fail;refine cR.mono ?_;rintro e w9 ⟨rfl,H⟩;have n9:=bt H l6;have V:=aE (fK (bj.o.below H) (A.o.trans (Kd.of H)) (by omega) (anC (noA er) (af) (af)));have HR:=aE (aL _ _ _ (anC (noA er) (af) (af)) _ _ n9);clear cR H l6;go_wp2_with(refine az rfl 43 _ _ rfl _ _ rfl rfl _ _ n9 (by kernel_rfl) rfl (by simp[anC,noA,Value.oneCell']) ?_)
    refine aX (v:= .agg (anC (noA er) (af) (af))) ?_ rfl ?_
    ·exact bf rfl _ _ D.heap.size _ _ _ _ rfl HR.o anT rfl (by kernel_rfl)
    ·rw[HP.o];exact⟨t,_,_,rfl,V.o.1,V.o.2,fp _ _,eE _ _⟩
end
end
end Go.Proofs.YtlkehieagdkgiaaGreatDoor
