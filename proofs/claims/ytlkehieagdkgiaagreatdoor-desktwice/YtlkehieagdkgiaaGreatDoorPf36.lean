/- Texts of the proof. -/
import Derived.Test.YtlkehieagdkgiaaGreatDoorPf35
import Derived.Test.YtlkehieagdkgiaaGreatDoorPf34
set_option maxRecDepth 100000
set_option maxHeartbeats 8000000
namespace Go.Proofs.YtlkehieagdkgiaaGreatDoor
open Go.Proofs.Tryz Go.RowKit Lx Vx Mx Msk
section
section
variable {B gD:Nat} {d:Dk} {t:Tr}
theorem tB (n:Int)(F:Nat)(O:Array Value)(f:Ap->Dk->(Ap×Int)×Dk)(w:World)(h:dC B gD d t w)(eF: ∀L w,(callFunc F L).run prog w= .ok (.enter F L) w)
  (a0: ∀(a:Ap) (p:Option Addr) (c:Nat) (W:World),a∈d.aps->dC B gD d (t.add w.heap.size) W->aq w W->Rob (Fx gD (t.add w.heap.size)) (fun u=>dT u (.slice p a.who.length c) a.who) W->Calls prog F (#[.agg (apC (a,.slice p a.who.length c))]++O) W (vR B gD (f a d) (t.add w.heap.size) W))
  (a3: ∀a∈d.aps,(f a d).1.2=0->uR d (f a d).1.1) (bh: ∀a,Cor d (f a d).2):Calls prog 34 #[ab gD 0,ag n,.func (.func F) #[] O] w (ru B gD (ig d n f) t w):=by
 obtain⟨w1,Q,b1,n1⟩:=nb w #[ag 0,ag 0,ag 0,ag 0,af,af] 43;have s1:w1.heap.size=w.heap.size+1:=by rw[<-Q];simp
 have a1:=h.opened (aD _) s1 b1;have X:=aF a1;have Y:Rg (Kd gD t t w w1):=Kd.of b1;have aO:=aF b1;have HG:Rg (∀q,w.heap.size<=q->Gx gD t q):=fun q hq=>(h.fx (.inr hq)).1;have aP:=aF a0;have aU:=aF a3;have aS:=aF bh;obtain⟨m,a2⟩:=a1;have aR:=aF a2;obtain⟨rv,cv,vv,kv,ss,aa,hm⟩:=a2;have ba:aa.length=d.aps.length:=by rw[<-hm.ape,aX]
 obtain⟨pa,ca,ai⟩:=dj hm.aps;obtain⟨s,a8⟩:=au d.aps.length;rw[ba,a8]at ai;have z3:w1.cell? (ae gD 3)=some (.slice pa s ca):=(cr (v:=t.av) 3 hm.blk rfl).trans (congrArg some ai);have A:Rg (t.av= .slice pa s ca):=ai;have C:=aF a8;have bz:w.heap.size<w1.heap.size:=by omega
 have cN:=qB n (s:Int) w1;obtain⟨c1,ay⟩:=au (isN n (s:Int));rw[ay]at cN;have U:=aF ay;go_enter func34,ntmps34;go_wp2_with fail;refine cN.mono ?_;rintro e wa ⟨rfl,bs⟩;subst bs;cases c1 with
 |false=>
  have Z:Rg (ig d n f=(noA 6,d)):=(by show _=_;unfold ig;rw[C.o,aB (.inl U.o)]);have cR:=fp 6 wa;go_wp2_with fail;refine cR.mono ?_;rintro e w9 ⟨rfl,E⟩;have T:=bt E n1;have D:=aF (fT (X.o.below E) (Y.o.trans (Kd.of E)) (by omega) (anC (noA 6) (af) (af)));have HR:=aF (aL _ _ _ (anC (noA 6) (af) (af)) _ _ T);go_wp2_with(refine aA rfl 43 _ _ rfl _ _ rfl rfl _ _ T (by kernel_rfl) rfl (by simp[anC,noA,Value.oneCell']) ?_)
  refine aY (v:= .agg (anC (noA 6) (af) (af))) ?_ rfl ?_
  ·exact bc rfl _ _ w.heap.size _ _ _ _ rfl HR.o anT rfl (by kernel_rfl)
  ·rw[Z.o];exact⟨t,_,_,rfl,D.o.1,D.o.2,fu _ _,eO _ _⟩
 |true=>
  have hn:0<=n/\n<(s:Int):=(by have:=U.o;simpa[isN] using this);obtain⟨k,rfl⟩: ∃k:Nat,n=(k:Int):=⟨n.toNat,by omega⟩
  have bw:(0:Int)<=(k:Int):=(by omega);have bx:(k:Int)<(s:Int):=hn.2;have R:k<s:=(by omega);obtain⟨a,pw,cw,r,aW,ha,br,_,aE,aG⟩:=DkM.ap aR.o (j:=k) (by rw[C.o];exact R);have e0:Value.slice pa s ca= .slice (some (ae r 0)) s aW:=(by rw[<-A.o,<-C.o];exact br);injection e0 with e2 e3 e4;subst e2 e4;have zs:wa.cell? (ae r (k*11))=some (ag a.st):=aE 0 _ rfl;have a7:a∈d.aps:=aN ha;have bi:d.aps.getD k ap0=a:=(by simp[List.getD,ha]);have cB:=aP.o a pw cw wa a7 X.o aO.o aG;unfold vR at cB;obtain⟨P,hP⟩:=au (f a d);rw[hP]at cB;obtain⟨st,aM⟩:=au a.st;rw[aM]at zs
  have am:Rg (ig d (k:Int) f=if st=3 then(noA 6,d) else if P.1.2≠0 then(noA P.1.2,P.2) else(noA 0,{P.2 with aps:=P.2.aps.set k P.1.1})):=by
   show _=_;unfold ig;simp only[cj,bi,hP,aM,C.o,U.o];by_cases e:st=3
   ·simp[e]
   ·simp[e]
  have an:Rg (Cor d P.2):=(by have:=aS.o a;rw[hP]at this;exact this);have ak:Rg (P.1.2=0->uR d P.1.1):=(by have:=aU.o a a7;rw[hP]at this;exact this);by_cases h3:st=3
  ·have aZ:(st==3)=true:=(by simpa using h3);have Z:Rg (ig d (k:Int) f=(noA 6,d)):=am.o.trans (by rw[aB h3]);have cR:=fp 6 wa;go_wp2_with fail;refine cR.mono ?_;rintro e w9 ⟨rfl,E⟩;have T:=bt E n1;have D:=aF (fT (X.o.below E) (Y.o.trans (Kd.of E)) (by omega) (anC (noA 6) (af) (af)));have HR:=aF (aL _ _ _ (anC (noA 6) (af) (af)) _ _ T);go_wp2_with(refine aA rfl 43 _ _ rfl _ _ rfl rfl _ _ T (by kernel_rfl) rfl (by simp[anC,noA,Value.oneCell']) ?_)
   refine aY (v:= .agg (anC (noA 6) (af) (af))) ?_ rfl ?_
   ·exact bc rfl _ _ w.heap.size _ _ _ _ rfl HR.o anT rfl (by kernel_rfl)
   ·rw[Z.o];exact⟨t,_,_,rfl,D.o.1,D.o.2,fu _ _,eO _ _⟩
  ·have aZ:(st==3)=false:=(by simpa using h3);have V:=aF (am.o.trans (by rw[ax h3]));go_wp2_with(refine wpList_load_mid rfl 45 _ rfl r (k*11) rfl (apC (a,.slice pw a.who.length cw)).toList _ aE apT rfl (by kernel_rfl) ?_)
   refine cB.mono ?_;rintro e w5 ⟨b4,rfl,be,z,H⟩;obtain⟨p5,c5,bq,_,_⟩:=H.here;subst bq;obtain⟨nx,bn⟩:=au P.1.1.who.length;rw[bn]at H⊢;obtain⟨N,I⟩:=au (apC (P.1.1,.slice p5 nx c5));have ad:N.all (·.oneCell')=true:=(by rw[<-I];exact iV _ _ _ _);have i:N.size=11:=(by rw[<-I];rfl);rw[I];obtain⟨wZ,w6,hZ,nZ,h6,b6,n6⟩:=nbs w5 #[ag 0,ag 0,ag 0,ag 0,ag 0,ag 0,ag 0,ag 0,ag 0,ag 0,af] N 45;have a4:Kd gD t t wa w5:=⟨z.os,z.tape,z.output,z.size,z.blk,fun _ _ h=>h,rfl⟩
   have l5:=(z.blk _ (HG.o w.heap.size (aD _)) (aI n1)).trans n1;have l6:=bt b6 l5;have ao:=aF (be.below b6);have ar:=aF (Y.o.trans (a4.trans (Kd.of b6)));have aV:=aF (H.below b6);obtain⟨er,bg⟩:=au P.1.2;rw[bg]at V ak⊢;by_cases h0:er=0
   ·subst h0;have Z:Rg (ig d (k:Int) f=(noA 0,{P.2 with aps:=P.2.aps.set k P.1.1})):=V.o.trans (by rw[ax (by simp)]);obtain⟨m,b2,bu,b5,b0,b3,ac,G⟩:=ao.o;have aw:P.2.aps=d.aps:=(by obtain⟨_,_,e⟩:=an.o;rw[e]);have a9:ac.length=s:=(by rw[<-C.o,<-aw,<-G.ape,aX]);have bk:k<ac.length:=(by omega);have S:w6.ownsRow B 45 11 (.slice (some (ae r 0)) s ca) s (apF ac):=(by have:=G.aps;rw[a9]at this;rw[<-A.o];exact this);have z3:w6.cell? (ae gD 3)=some (.slice (some (ae r 0)) s ca):=(cr (v:=t.av) 3 G.blk rfl).trans (congrArg some A.o);have bj:w.heap.size≠r:=fun e=>(G.nx w.heap.size bf).2.2.2.2.2 (by show _=t.av.ownBlock;rw[A.o,e];rfl);go_upto_region 6 with(refine aA rfl 45 _ _ rfl _ _ rfl rfl _ _ nZ (by rw[i];kernel_rfl) (by rw[i];rfl) ad ?_;rw[h6])
    refine cZ (fun M _ W=>(M 8=false->aq w6 W)/\(M 8=true-> ∃J,aq w6 J/\Below J.heap.size (J.setCells r (k*11) N.toList) W)) [kn 48 (ab gD 0),kn 49 (ab gD 0),kn 50 (ab gD 0),kn 51 (ab gD 3),kn 52 (.slice (some (ae r 0)) s ca),kn 53 (ag (k:Int)),kn 54 (.agg N),kn 55 (ab r (k*11)),nk] (fun _=>⟨fun _=>(aH _ _).drew,(fun h=>by cases h)⟩) (fun _ _ _ _ hb h=>⟨fun c=>(h.1 c).trans (hb.mono (h.1 c).size),fun c=> ?_⟩) (by kernel_rfl) ?_ ?_
    ·obtain⟨J,Q,h2⟩:=h.2 c;exact⟨J,Q,h2.trans (hb.mono (by have:=h2.size;rw[(fg _ _ _ _).2.2.2]at this;exact this))⟩
    ·rintro M φ W hJ hc F l hl hF;have HJ:=aF hJ;simp only[kn,nk,eh,aQ,aT,Act.put,az,aK,aJ]at hl;subst hl;simp only[dc,Nat.reduceAdd]at hF;dsimp only[kn,nk,dz,eV,eo,Act.put];and_intros;all_goals first|exact trivial|intro hw hn hm K hK
     all_goals try (go_simp;with_reducible exact hK _ _ ⟨rfl,aH _ _⟩)
     ·have hb:=HJ.o.1 (hn 8 _ rfl (by kernel_rfl));have y:=aj hb z3;go_simp;exact hK _ _ ⟨rfl,aH _ _⟩
     ·have nW:=bt (HJ.o.1 (hn 8 _ rfl (by kernel_rfl))) n6;show Oper.wp _ _ _ _ _ _;refine dX 45 _ rfl _ (by simp[Act.eval,hF]) _ _ _ _ nW apT rfl (by rw[i];kernel_rfl) ?_;exact hK _ _ ⟨rfl,aH _ _⟩
     ·have hb:=HJ.o.1 hm;have aC:=bJ S fun b hq=>hb.block b (S.lt b hq).2;have bp:W.there r (k*11) N.size:=(by rw[i];exact uN aC R rfl);show Oper.wp _ _ _ _ _ _;refine wp_store_mid 45 _ _ rfl r (k*11) N (by simp[Act.eval,hF]) (by simp[Act.eval,hF]) bp (by rw[i];kernel_rfl) ad ?_;exact hK undef _ ⟨trivial,fun c=>by simp at c,fun _=>⟨W,hb,aH _ _⟩⟩
    ·rintro M φ W hM hJ;obtain⟨J,Q,h2⟩:=hJ.2 (hM 8 (by decide) rfl);simp only[kn,nk,eD,aQ,aT,Act.put,az,aK,aJ];have bm:=G.below Q;obtain⟨a6,a5⟩:=bm.setAp (j:=k) (g:=r) bk (by show t.av.ownBlock=_;rw[A.o];rfl) (P.1.1,.slice p5 nx c5) (.inr (aV.o.below Q));rw[I]at a6 a5;have bo:=(fg r N.toList (k*11) J).2.2.2;have ah:=h2.mono (kh bo);have bb:uR d P.1.1:=ak.o trivial
     have bd:dC B gD {P.2 with aps:=P.2.aps.set k P.1.1} (t.add w.heap.size) W:=by
      refine dC.below ⟨⟨m.flt,m.vl,m.kl,m.rl,m.sl,by simpa using m.al,m.gv,m.nm,m.sv,fun x hx=> ?_⟩,_,_,_,_,_,_,a6⟩ ah;rcases List.mem_or_eq_of_mem_set hx with hx|rfl
      ·exact m.ap x hx
      ·obtain⟨_,_,e⟩:=an.o;rw[e];exact bb
     have bl:Kd gD t t w W:=ar.o.trans (Kd.off (q:=w.heap.size) (((Kd.of Q).trans a5).trans (Kd.of ah)));have lW:=bt ah ((fP r _ _ J _ bj).trans (bt Q l6));have D:=aF (fT bd bl (aD _) #[ag 0,ag 0,ag 0,ag 0,af,af]);have HR:=aF (aL _ _ _ #[ag 0,ag 0,ag 0,ag 0,af,af] _ _ lW);go_wp2_with(refine aA rfl 43 _ _ rfl _ _ rfl rfl _ _ lW (by kernel_rfl) rfl (by simp[Value.oneCell']) ?_)
     refine aY (v:= .agg #[ag 0,ag 0,ag 0,ag 0,af,af]) ?_ rfl ?_
     ·exact bc rfl _ _ w.heap.size _ _ _ _ rfl HR.o anT rfl (by kernel_rfl)
     ·rw[Z.o];exact⟨_,_,_,rfl,D.o.1,D.o.2,fu _ _,eO _ _⟩
   ·have bv:(er !=0)=true:=(by simpa using h0);have Z:Rg (ig d (k:Int) f=(noA er,P.2)):=V.o.trans (by rw[aB h0]);go_wp2_with(refine aA rfl 45 _ _ rfl _ _ rfl rfl _ _ nZ (by rw[i];kernel_rfl) (by rw[i];rfl) ad ?_;rw[h6])
    have cR:=fp er w6;go_wp2_with fail;refine cR.mono ?_;rintro e w9 ⟨rfl,E⟩;have T:=bt E l6;have D:=aF (fT (ao.o.below E) (ar.o.trans (Kd.of E)) (by omega) (anC (noA er) (af) (af)));have HR:=aF (aL _ _ _ (anC (noA er) (af) (af)) _ _ T);go_wp2_with(refine aA rfl 43 _ _ rfl _ _ rfl rfl _ _ T (by kernel_rfl) rfl (by simp[anC,noA,Value.oneCell']) ?_)
    refine aY (v:= .agg (anC (noA er) (af) (af))) ?_ rfl ?_
    ·exact bc rfl _ _ w.heap.size _ _ _ _ rfl HR.o anT rfl (by kernel_rfl)
    ·rw[Z.o];exact⟨t,_,_,rfl,D.o.1,D.o.2,fu _ _,eO _ _⟩
end
end
section
theorem J7 {R:Ending->World->Prop}{a:Act}{w:World}(g:Nat)(c:Array Value)(er:Int)(j:c.size=11)(k:a.defers=[])(e:a.tmps.getD 4 undef=ab g 0)(f:a.tmps.getD 5 undef=ag er)
  (l:w.heap[g]? =ah c 45) (i:R (.returned (.tuple #[.agg c,ag er])) w):bodyPost prog f38 R .ret a w:=by
 refine aY (v:= .tuple #[.agg c,ag er]) ?_ k i;have n:f38.results= #[ResultVar.cell 4 45,ResultVar.tmp 5]:=rfl;have b:a.tmps[4]?.getD undef=ab g 0:=by simpa using e
 have d:a.tmps[5]?.getD undef=ag er:=by simpa using f
 have m:=eE (P:=prog) w g 45 45 _ _ _ l apT rfl (by rw[j];kernel_rfl);simp[results,b,d,asAddr,m]
section
variable {B gD:Nat} {d:Dk} {t:Tr}
theorem Bv (h:uH d){a:Ap}(ha:a∈d.aps)(s:Int):uR d (fC a s):=by
 obtain⟨b,c,f,e⟩:=h.ap a ha;exact⟨b,c,⟨gh _,by show(0:Int)<=10;omega⟩,e⟩
theorem L6 {X y:Nat}(c:Cm)(a:Ap)(p J:Option Addr)(k x:Nat)(rv:Value)(w:World)(h:dC B gD d t w)(n1:w.heap[X]? =ah #[ab gD 0] 99)(n2:w.heap[y]? =ah (doC c rv (.slice J c.swho.length x)) 41)(ha:uR d a)(hw:Rob (Fx gD t) (fun u=>dT u (.slice J c.swho.length x) c.swho) w)(C:c.swho.length<=x):
  Calls prog 38 #[.agg (apC (a,.slice p a.who.length k)),ab X 0,ab y 0] w (vR B gD (fd d c.n a c.sday c.smin c.swho) t w):=by
 obtain⟨m,hA,z,nA⟩:=nb w (apC (a,.slice p a.who.length k)) 45;obtain⟨r,hB,Q,U⟩:=nb m #[ag 0,ag 0,ag 0,ag 0,ag 0,ag 0,ag 0,ag 0,ag 0,ag 0,af] 45;have sB:r.heap.size=m.heap.size+1:=by rw[<-hB];simp
 have b:=aw z Q;have E:=h.opened (q:=m.heap.size) z.size sB b;have m1:=bt b n1;have I:=bt b n2;have mA:=bt Q nA;have z1:=cr 0 m1 rfl;have y1:r.cell? (ae y 1)=some (ag c.n):=cr 1 I rfl;have ad:r.cell? (ae y 10)=some (ag c.sday):=cr 10 I rfl;have ai:r.cell? (ae y 11)=some (ag c.smin):=cr 11 I rfl;have V:r.cell? (ae y 12)=some (.slice J c.swho.length x):=cr 12 I rfl
 have G:Rob (Fx gD (t.add m.heap.size)) (fun u=>dT u (.slice J c.swho.length x) c.swho) r:=hw.move b.size (fun q _ Z=>b.block q Z) fun q Z l=>⟨l.1,fun H=>by
  rcases bo.1 H with e|H
  ·have:=z.size;omega
  ·exact l.2 H⟩
 have A:=zo c.n a p J k x c.sday c.smin c.swho r E ha.1 ha.2.2.2.1 G C;obtain⟨P,Y⟩:=au (fd d c.n a c.sday c.smin c.swho);rw[Y]at A⊢;unfold vR at A;have H0:=aF h;have N:Rg (Kd gD t t w r):=Kd.of b;have aa:w.heap.size<m.heap.size:=by rw[<-hA];simp
 have M:Rg (Gx gD t m.heap.size):=(h.fx (.inr z.size)).1;obtain⟨nw,F⟩:=au c.swho.length;rw[F]at A V;clear h z Q b sB E n1 n2 nA m1 I G Y hw F C;go_enter func38,ntmps38;go_wp2_with(refine aR rfl 45 _ rfl _ rfl _ _ _ _ mA apT rfl (by kernel_rfl) ?_)
 refine A.mono ?_;rintro e K ⟨ac,rfl,D,f,g⟩;obtain⟨p5,W,T,_,_⟩:=g.here;subst T;have n5:=(f.blk _ M.o (aI U)).trans U;obtain⟨nx,S⟩:=au P.1.1.who.length;rw[S]at g⊢;obtain⟨v,j⟩:=au (apC (P.1.1,.slice p5 nx W));have R:v.all (·.oneCell')=true:=by rw[<-j];exact iV _ _ _ _
 have i:v.size=11:=by rw[<-j];rfl
 rw[j];have s:Kd gD t t r K:=⟨f.os,f.tape,f.output,f.size,f.blk,fun _ _ h=>h,rfl⟩
 have O:=aF (fk (D.closed (w':=K.setRow m.heap.size v) (by simp) fun q _ l=>aW _ _ _ _ l) (fk ((N.o.trans s).closed (w':=K.setRow m.heap.size v) (q:=m.heap.size) (by omega) rfl rfl rfl (by simp) fun q _ l=>aW _ _ _ _ l) (g.move (w':=K.setRow m.heap.size v) (P':=Fx gD t) (by simp) (fun q l _=>aW _ _ _ _ fun e=>l.2 (by rw[e];exact bf)) fun q _ l=>⟨l.1,fun H=>l.2 (bG _ H)⟩)));have HR:=aF (aL _ _ _ v _ _ n5);have L:=aF j;clear A D f s g j U;go_wp2_with(refine aA rfl 45 _ _ rfl _ _ rfl rfl _ _ n5 (by rw[i];kernel_rfl) (by rw[i];rfl) R ?_)
 refine J7 m.heap.size v P.1.2 i rfl rfl rfl HR.o ?_;exact⟨.slice p5 nx W,by rw[L.o],O.o.1,O.o.2.1,O.o.2.2⟩
theorem L7 (c:Cm)(pr C:Option Addr)(E l:Nat)(w:World)(h:dC B gD d t w)(H:c.swho.length<=l)(L:Rob (fun q=>q<B) (fun u=>dT u (.slice C c.swho.length l) c.swho) w)(aa:5<=c.kind/\c.kind<=8):Calls prog 19 #[ab gD 0,.agg (doC c (.slice pr c.sv.roles.length E) (.slice C c.swho.length l))] w (ru B gD (doP d c) t w):=by
 obtain⟨w1,h1,b1,X⟩:=nb w #[ab gD 0] 99;obtain⟨D,h2,b2,Y⟩:=nb w1 (doC c (.slice pr c.sv.roles.length E) (.slice C c.swho.length l)) 41;obtain⟨M,h3,b3,T⟩:=nb D #[ag 0,ag 0,ag 0,ag 0,af,af] 43;have f:=aw b1 b2;have g:=aw f b3;have b:=h.opened (q:=D.heap.size) f.size (by rw[<-h3];simp) g;have S:=bt b3 Y;have R:=bt (aw b2 b3) X;have z1:=cr 0 R rfl;obtain⟨y0,y1,y2,y3,y4,y5,y6,y7,y8,y9,ac,ad,ae⟩:=Dh S;have HB:=aF g;have HQ:=aF f.size
 have Q:Rg (Gx gD (t.add D.heap.size) D.heap.size):=by
  obtain⟨_,_,_,_,_,_,_,hm⟩:=b;exact(hm.nx _ bf).2.2
 have s:Rob (Fx gD (t.add D.heap.size)) (fun u=>dT u (.slice C c.swho.length l) c.swho) M:=L.move g.size (fun q _ J=>g.block q J) fun q J K=>⟨(h.fx (.inl K)).1,fun y=>by
  rcases bo.1 y with e|y
  ·have:=f.size;omega
  ·exact(h.fx (.inl K)).2 y⟩
 rcases(show c.kind=5\/c.kind=6\/c.kind=7\/c.kind=8 by omega) with A|A|A|A
 case' inl=>
  have i:=L5 c.n c.sday c.smin c.swho C l M b s H;generalize F:lJ d c.n c.sday c.smin c.swho=P at i
 case' inr.inl=>
  have i:=tB c.n 35 #[] (fun a d=>((fC a 2,0),d)) M b (fun _ _=>rfl) (fun a p c W ha G z O=>(Eo a p c W).mono fun e w' j=>⟨_,j.1,G.below j.2,Kd.of j.2,O.below j.2⟩) (fun a ha _=>Bv b.1 ha 2) (fun a=>Cor.refl d);generalize F:ig d c.n (fun a d=>((fC a 2,0),d))=P at i
 case' inr.inr.inl=>
  have i:=tB c.n 37 #[] (fun a d=>((fC a 3,0),d)) M b (fun _ _=>rfl) (fun a p c W ha G z O=>(GQ a p c W).mono fun e w' j=>⟨_,j.1,G.below j.2,Kd.of j.2,O.below j.2⟩) (fun a ha _=>Bv b.1 ha 3) (fun a=>Cor.refl d);generalize F:ig d c.n (fun a d=>((fC a 3,0),d))=P at i
 case' inr.inr.inr=>
  have i:=tB c.n 38 #[ab w.heap.size 0,ab w1.heap.size 0] (fun a d=>fd d c.n a c.sday c.smin c.swho) M b (fun _ _=>rfl) (fun a p k W ha G z O=>L6 c a p C k l _ W G (bt z R) (bt z S) (b.1.ap a ha) (s.move z.size (fun q _ J=>z.block q J) fun q J K=>⟨K.1,fun y=>by
   rcases bo.1 y with e|y
   ·omega
   ·exact K.2 y⟩) H) (fun a ha e=>Bu b.1 (b.1.ap a ha).1 (b.1.ap a ha).2.2.1 (b.1.ap a ha).2.2.2.1 e) (fun a=>mD d _ a _ _ _)
  generalize F:ig d c.n (fun a d=>fd d c.n a c.sday c.smin c.swho)=P at i
 all_goals
  have HP:Rg (doP d c=P):=by
   show _=_;rw[<-F];unfold doP;repeat (first|rw[aB A]|rw[ax (by omega)])
  clear b1 b2 b3 f g b X Y F R S s
  try rw[A]at y0
  clear A
  go_enter func19,ntmps19
  go_wp2_with fail
  refine i.mono ?_
  rintro e w4 ⟨t',wv,lv,rfl,I,m,x,r⟩
  obtain⟨t0,o1,o2,o3,o4⟩:=JZ HB.o HQ.o I m x r (anC P.1 wv lv)
  obtain⟨p5,U,rfl,_,_⟩:=x.here.1
  obtain⟨p6,V,rfl,_,_⟩:=r.here
  have Z:=(m.blk _ Q.o (aI T)).trans T
  have N:=aF (fk o1 (fk o2 (fk o3 o4)))
  have HR:=aF (aL _ _ _ (anC P.1 (.slice p5 P.1.who.length U) (.slice p6 P.1.list.length V)) _ _ Z)
  clear i I m x r o1 o2 o3 o4 T
  go_wp2_with(refine aA rfl 43 _ _ rfl _ _ rfl rfl _ _ Z (by kernel_rfl) rfl (by simp[anC,Value.oneCell']) ?_)
  refine aY (v:= .agg (anC P.1 (.slice p5 P.1.who.length U) (.slice p6 P.1.list.length V))) ?_ rfl ?_
  ·exact bc rfl _ _ D.heap.size _ _ _ _ rfl HR.o anT rfl (by kernel_rfl)
  ·rw[HP.o]
   exact⟨t0,_,_,rfl,N.o.1,N.o.2.1,N.o.2.2.1,N.o.2.2.2⟩
theorem Dq (c:Cm):G3 c:=fun B gD d t w i j f g h l k m n b e=>by
 by_cases a:5<=c.kind/\c.kind<=8
 ·exact L7 c i j f g w h (b.cap _ _ _ rfl) e a
 ·exact J2 c a B gD d t w i j f g h l k m n b e
end
end
section
section
variable {w w':World}
theorem J8:dT w (af) []:=⟨none,0,rfl,by decide,fun j n h=>by simp at h⟩
theorem Aq:fG w (af) []:=⟨none,0,rfl,by decide,fun j n h=>by simp at h⟩
theorem Oi {g:Nat}{sv:Value}{l:List Int}{T:TypeId}(h:w.heap[g]? =ah #[sv] T)(b:dT w sv l):fG w (.slice (some (ae g 0)) 1 1) [l]:=by
 refine⟨some ⟨g,0,none⟩,1,rfl,by simp,fun j m a=> ?_⟩;match j,a with
 |0,a=>cases a;exact⟨g,0,sv,rfl,a8 _ _ _ _ _ _ h,b⟩
 |j+1,a=>simp at a
def tC (B:Nat)(w:World)(v:Value)(a:List (Cm×Value×Value)):Prop:=w.ownsRow B 41 13 v a.length (a.flatMap fun q=>(doC q.1 q.2.1 q.2.2).toList)/\ ∀q∈a,Rob (fun k=>some k≠v.ownBlock) (fun u=>lL u q.1 q.2.1 q.2.2) w
theorem vS {B:Nat}{v:Value}{a:List (Cm×Value×Value)}(h:w.ownsRow B 41 13 v a.length (a.flatMap fun q=>(doC q.1 q.2.1 q.2.2).toList))(i: ∀q∈a,lL w q.1 q.2.1 q.2.2)(l:a.length<9223372036854775808):k6 w v a:=by
 obtain⟨p,k,d⟩:=dj h;refine⟨p,k,d,l,fun j q b=>⟨i q (aN b),?_⟩⟩;obtain⟨g,c,e,_,m⟩:=kZ (f:=fun q:Cm×Value×Value=>doC q.1 q.2.1 q.2.2) (fun q=>rfl) h rfl b;rw[d]at e;cases e;exact⟨g,0,rfl,by rw[bQ];exact m⟩
theorem tC.row {B:Nat}{v:Value}{a:List (Cm×Value×Value)}(h:tC B w v a)(b:a.length<9223372036854775808):k6 w v a:=vS h.1 (fun q c=>(h.2 q c).here) b
theorem tC.below {B:Nat}{v:Value}{c:List (Cm×Value×Value)}(h:tC B w v c)(d:aq w w'):tC B w' v c:=
 ⟨bJ h.1 fun b a=>d.block b (h.1.lt b a).2,fun q a=>(h.2 q a).below d⟩
theorem Oj {c:Cm}{a b:Value}(h:lL w c a b):(doC c a b).all (·.oneCell')=true:=by
 obtain⟨_,_,rfl,_⟩:=h.roles;obtain⟨_,_,rfl,_⟩:=h.who;exact Fm ..
theorem sQ: ∀a:List (Cm×Value×Value),(a.flatMap fun q=>(doC q.1 q.2.1 q.2.2).toList).length=a.length*13
 |[]=>rfl
 |c::a=>by
  rw[List.flatMap_cons,aO,sQ a,bO];show 13+_=_;omega
theorem PO {a:List (Cm×Value×Value)}{g o:Nat}(h: ∀(j:Nat) (q:Cm×Value×Value),a[j]? =some q->w.rangeAt g (o+j*13) (doC q.1 q.2.1 q.2.2).toList):w.rangeAt g o (a.flatMap fun q=>(doC q.1 q.2.1 q.2.2).toList):=by
 intro k u c
 have d:k<a.length*13:=by
  have:=(aE.1 c).1;rwa[sQ]at this
 obtain⟨q,b⟩: ∃q,a[k/13]? =some q:=⟨_,ay (by omega)⟩
 have e:=oW (f:=fun q:Cm×Value×Value=>doC q.1 q.2.1 q.2.2) (m:=13) (fun q=>rfl) b (k%13) (Nat.mod_lt _ (by decide));rw[show k/13*13+k%13=k by omega,c]at e;have:=h _ q b (k%13) u (by rw[bv];exact e.symm);rwa[show o+k/13*13+k%13=o+k by omega]at this
theorem uS {n:Array Oper}{d:List Oper}{o:Oper}{a:Act}{Q:Exit->Act->World->Prop}(E:o.guard=none)(s x:Operand)(X:o.op= .call {callee:= .builtin .append,args:= #[s,x],argTypes:= #[22,22]})
  {B:Nat} {v P:Value} {r c:List (Cm×Value×Value)} (Z:a.eval s=v) (D:tC B w v r) (hx:a.eval x=P) (U:k6 w P c) (R:0<c.length) (M: ∀q∈c,Rob (fun k=>some k≠v.ownBlock) (fun u=>lL u q.1 q.2.1 q.2.2) w) (W:r.length+c.length<=100000) (L:B<=w.heap.size)
  (h: ∀C w',tC B w' C (r++c)->Below B w w'->w.grownBy w' v.ownBlock->wpList prog n Q d (a.put o.dst C) w'):wpList prog n Q (o::d) a w:=by
 obtain⟨i,hi,I,J,K⟩:=oR (t:=41) (z:= .agg (doC ⟨0,0,0,0,[],[],sv0,0,0,[]⟩ (af) (af))) (a:=13) (b:=152) (by kernel_rfl);obtain⟨p,k,rfl,_,N⟩:=U;obtain⟨q0,G⟩: ∃q,c[0]? =some q:=⟨_,ay R⟩
 obtain⟨_,g,A,rfl,_⟩:=N 0 q0 G
 have T:w.rangeAt g A (c.flatMap fun q=>(doC q.1 q.2.1 q.2.2).toList):=PO fun j q V=>by
  obtain⟨_,g',o',e,Y⟩:=N j q V;cases e;exact Y
 refine wpList_append_own_at w E s x 22 X B 41 i _ 13 152 (by kernel_rfl) hi I J K rfl (by decide) v r.length _ Z D.1 ⟨g,A,none⟩ c.length k (c.flatMap fun q=>(doC q.1 q.2.1 q.2.2).toList) hx ?_ (fun j u m=> ?_) (fun u m=> ?_) (by unfold maxLen;omega) (bg (Nat.mul_le_mul_right _ W) (by decide)) L fun C w' S y _ f=> ?_
 ·exact sQ c
 ·rw[show(⟨g,A,none⟩:Addr).add j=⟨g,A+j,none⟩ by simp[Addr.add]];exact T j u m
 ·obtain⟨q,F,m⟩:=List.mem_flatMap.1 m;exact Array.all_eq_true'.1 (Oj (M q F).here) u (Array.mem_toList_iff.1 m)
 ·refine h C w' ⟨?_,fun q F=> ?_⟩ (it (aH _ _) y L fun k l=>(D.1.lt k l).1) y
  ·rw[aO,fN];exact S
  ·have H:Rob (fun k=>some k≠v.ownBlock) (fun u=>lL u q.1 q.2.1 q.2.2) w:=(bN.1 F).elim (D.2 q) (M q);refine H.move y.size (fun k l O=>y.block k O l) fun k O l=> ?_;rcases f with f|f
   ·rw[f];exact l
   ·rw[f];intro e;cases e;omega
theorem rW {B g n m:Nat}{a:Array Value}{T:TypeId}(h:w.heap[g]? =ah a T)(c:B<=g)(b:a.size=n*m)(d:n<=maxLen):w.ownsRow B T m (.slice (some (ae g 0)) n n) n a.toList:=
 ⟨by rw[cQ];exact b,.inr ⟨g,n,a,rfl,c,h,aD _,d,b,by rw[dg (by rw[cQ,b];exact aD _)]⟩⟩
theorem uT (c:Cm)(a:c.sv.roles=[])(b:c.swho=[])(d:c.text.length<=9223372036854775807)(f:c.name.length<=9223372036854775807):lL w c (af) (af):=
 ⟨by rw[a];exact Aq,by rw[b];exact J8,d,f,fun p n k e=>by cases e;exact aD _⟩
end
def sC (a:Value):List (Cm×Value×Value):=[(⟨1,0,0,0,aS,[],sv0,0,0,[]⟩,af,af),(⟨2,0,0,0,[],[97],sv0,0,0,[]⟩,af,af),(⟨3,0,0,0,[],[],ly,0,0,[]⟩,a,af)]
theorem J9 (w:World):Calls prog 18 #[] w fun e w'=> ∃v b,e= .returned v/\aq w w'/\tC w.heap.size w' v (sC b):=by
 obtain⟨x,D,b1,s⟩:=nb w #[ag 0] 3;obtain⟨l,E,b2,t⟩:=nb x #[.slice (some (ae w.heap.size 0)) 1 1] 37;have c:=aF b1;have a:=aF b2;have m:=aF s;have d:=aF t;clear b1 b2 s t;go_enter func18,ntmps18;go_wp2_with fail;go_ret;obtain⟨b,j⟩:=au (.slice (some (ae x.heap.size 0)) 1 1:Value)
 suffices H: ∀W,l.alloc (.cells ((sC b).flatMap fun q=>(doC q.1 q.2.1 q.2.2).toList).toArray 41)=W->aq w W/\tC w.heap.size W (.slice (some (ae l.heap.size 0)) 3 3) (sC b) by
  rw[j];exact⟨_,b,rfl,H _ rfl⟩
 intro G A;obtain⟨C,f,b3,B⟩:=nb l ((sC b).flatMap fun q=>(doC q.1 q.2.1 q.2.2).toList).toArray 41;rw[A]at f;subst f;have z:=aw c.o a.o;refine⟨aw z b3,rW (n:=3) B (bg c.o.size a.o.size) rfl (by decide),fun q i u F ha=> ?_⟩;have g: ∀k,k<l.heap.size->u.heap[k]? =l.heap[k]? :=fun k r=>(ha k (fun e=>Nat.ne_of_lt r (aM e)) (aU r b3.size)).trans (b3.block k r);subst j;rcases bo.1 i with rfl|i
 ·exact uT _ rfl rfl (by decide) (by decide)
 rcases bo.1 i with rfl|i
 ·exact uT _ rfl rfl (by decide) (by decide)
 cases bL.1 i;have y:=bt a.o m.o;exact⟨Oi ((g _ (aI d.o)).trans d.o) (C8 ((g _ (aI y)).trans y)),J8,dL _,dL _,fun p n k e=>by cases e;exact aD _⟩
end
def eC (g:Nat):List (Cm×Value×Value):=[(⟨4,0,7,2,[],[],sv0,0,0,[]⟩,af,af),(⟨5,0,0,0,[],[],sv0,7,540,[0]⟩,af,.slice (some (ae g 0)) 1 1)]
theorem wn (w:World)(hT:Tbs w.heap.size w):Calls prog 8 #[] w fun e w'=>e= .returned (.bool true)/\aq w w':=by
 have c1:=J9 w;have HT:=aF hT;clear hT;go_enter func8,ntmps8;go_wp2_with fail;refine c1.mono ?_;rintro e l ⟨v,rv,rfl,b1,F⟩;have J:=aF b1;have X:=aF F;clear b1 c1;obtain⟨p,k,Q⟩:=dj F.1;subst Q;dsimp only[sC,List.length]at F⊢;clear F;obtain⟨w2,h2,b2,G⟩:=nb l #[ag 0] 3;obtain⟨w3,h3,b3,H⟩:=nb w2 #[ag 4,ag 0,ag 7,ag 2,.string ⟨#[]⟩,.string ⟨#[]⟩,ag 0,ag 0,ag 0,af,ag 0,ag 0,af,ag 5,ag 0,ag 0,ag 0,.string ⟨#[]⟩,.string ⟨#[]⟩,ag 0,ag 0,ag 0,af,ag 7,ag 540,.slice (some (ae l.heap.size 0)) 1 1] 41;have s:=(X.o.below b2).below b3;have z:=aw b2 b3
 have O: ∀q∈eC l.heap.size,Rob (fun j=>some j≠(Value.slice p 3 k).ownBlock) (fun u=>lL u q.1 q.2.1 q.2.2) w3:=fun q C u hu ha=>by
  rcases bo.1 C with rfl|C
  ·exact uT _ rfl rfl (dL _) (dL _)
  cases bL.1 C;have y:=bt b3 G;exact⟨Aq,C8 ((ha _ (fun e=>Nat.lt_irrefl _ (X.o.1.lt _ e.symm).2) (aI y)).trans y),dL _,dL _,fun p n k e=>by cases e;exact aD _⟩
 have hX:k6 w3 (.slice (some (ae w2.heap.size 0)) 2 2) (eC l.heap.size):=vS (B:=0) (rW (n:=2) H (dL _) rfl (by decide)) (fun q C=>(O q C).here) (by decide:2<9223372036854775808);have m:=aF (aw J.o z);have r:=aF s;have Y:=aF O;have Z:=aF hX;clear s O hX b2 b3 G H z;go_wp2_with(refine uS rfl _ _ rfl rfl r.o rfl Z.o (show 0<2 by decide) Y.o (show 5<=100000 by decide) m.o.size ?_;intro v' w4 t b4 _)
 have b:=m.o.trans b4;have K:=aF b;have N:=L3 (sC rv++eC l.heap.size) v' w4 (t.row (show 5<9223372036854775808 by decide)) (fun W hW=>HT.o W (aw b hW)) (fun q _=>Dq q.1);rw[show(sC rv++eC l.heap.size).map (fun q=>q.1)=aC from rfl]at N;clear b b4 t Z Y r;refine N.mono ?_;clear N;rintro e I ⟨b5,h5⟩;rcases h5 with⟨P,_⟩|⟨P,ac,ev,sv,av,ab,ss,aa,V,rfl,a⟩
 ·exact absurd P (by decide)
 clear P;replace a:=a.here;rw[PN]at a⊢
 have A:V.length=5:=by
  have:=congrArg List.length a.ane;rw[aX]at this;exact this
 have x:aa.length=1:=by
  have:=congrArg List.length a.ape;rw[aX]at this;exact this
 obtain⟨us,D,U⟩:=a.rules;obtain⟨p1,k1,rfl⟩:=D.form;obtain⟨p2,k2,rfl⟩:=dj a.res;obtain⟨p3,k3,rfl⟩:=dj a.svs;obtain⟨pa,ka,rfl⟩:=dj a.aps;obtain⟨q3,d⟩: ∃q,V[3]? =some q:=⟨_,ay (by omega)⟩
 obtain⟨q4,i⟩: ∃q,V[4]? =some q:=⟨_,ay (by omega)⟩
 have f3:q3.1=⟨0,0,7,540,[0],[]⟩:=by
  have:=congrArg (·[3]?) a.ane;rw[bj,d]at this;exact aM this
 have f4:q4.1=je 0:=by
  have:=congrArg (·[4]?) a.ane;rw[bj,i]at this;exact aM this
 obtain⟨g,c,Q,S,r3⟩:=kZ (f:=fun p:An×Value×Value=>anC p.1 p.2.1 p.2.2) (fun _=>rfl) a.ans rfl d;obtain⟨g',c',R,T,r4⟩:=kZ (f:=fun p:An×Value×Value=>anC p.1 p.2.1 p.2.2) (fun _=>rfl) a.ans rfl i;subst Q;cases R;have y3:I.cell? (ae g 21)=some (ag 540):=r3 3 _ (by rw[f3];rfl);have y4:I.cell? (ae g 24)=some (ag 0):=r4 0 _ (by rw[f4];rfl);rw[x,A];clear a D r3 r4 f3 f4 d i S T U A x h2 h3;dsimp only[dA];generalize us.length=n1;generalize ss.length=H;generalize List.length [[97]]=G;obtain⟨wZ,wC,hZ,nZ,hC,E,nC⟩:=nbs I #[af,af,af,af] #[.slice p1 n1 k1,.slice p2 G k2,.slice p3 H k3,.slice pa 1 ka] 29;have z3:=aj E y3;have z4:=aj E y4;have y5:wC.cell? (ae I.heap.size 3)=some (.slice pa 1 ka):=cr 3 nC rfl;have L:=aF (aw K.o b5);have M:=aF (aw L.o E);clear y3 y4 b5 E nC;go_wp2_with(refine aA rfl 29 _ _ rfl _ _ rfl rfl _ _ nZ (by kernel_rfl) rfl (by simp[Value.oneCell']) ?_)
 go_ret;exact⟨rfl,M.o⟩
section
open Go.ChangeShapes Go.WideShapes Go.ChangeAt Go.WideMaps Go.WideElems Go.Joins
variable {H:Type} {enc:TypeId×Value->H} {W:World}
theorem PQ:prog.cellsOf 37=1:=by kernel_rfl
theorem QC:prog.cellsOf 34=1:=by kernel_rfl
theorem PR:prog.cellsOf 36=4:=by kernel_rfl
theorem L8 (a:Nat)(b:List Value)(y:DataW H×List MemPlace)(h:DataW.trod enc prog W 0 (fun _=>true) true a 3 b=some y): ∃u:Int,b.length=1/\(fun k:Nat=>b[k]?) 0=some (ag u):=by
 obtain⟨x,e,_⟩:=DataW.trod_int underlying3 h;subst e;exact⟨x,rfl,rfl⟩
theorem zp {a:Nat}{f:List Value}{x:DataW H×List MemPlace}(h:DataW.trod enc prog W 0 (fun _=>true) true a 37 f=some x): ∃(sl:Value) (l:List Int),f=[sl]/\dT W sl l:=by
 obtain⟨p,len,cap,s,e,i,n,b⟩:=xF (0:Int) (Q:=fun c u=>c 0=some (ag u)) qW cN9 (by decide) L8 h;refine⟨_,s,e,p,cap,by rw[i],by rw[i];exact n,fun j u m=> ?_⟩;obtain⟨g,o,q,c,k,d,r⟩:=b j u m;exact⟨g,o,q,by simpa using d 0 _ r⟩
theorem G7 (a:Nat)(b:List Value)(y:DataW H×List MemPlace)(h:DataW.trod enc prog W 0 (fun _=>true) true a 37 b=some y): ∃u:List Int×Value,b.length=1/\((fun k:Nat=>b[k]?) 0=some u.2/\dT W u.2 u.1):=by
 obtain⟨sl,l,rfl,c⟩:=zp h;exact⟨(l,sl),rfl,rfl,c⟩
theorem Ev {a:Nat}{i:List Value}{x:DataW H×List MemPlace}(h:DataW.trod enc prog W 0 (fun _=>true) true a 34 i=some x): ∃(sl:Value) (l:List (List Int)),i=[sl]/\fG W sl l:=by
 obtain⟨p,len,cap,m,e,k,q,b⟩:=xF (([],af):List Int×Value) (Q:=fun c u=>c 0=some u.2/\dT W u.2 u.1) CS PQ (by decide) G7 h;refine⟨_,m.map (fun u=>u.1),e,p,cap,by rw[aX,k],by rw[aX,k];exact q,fun j l d=> ?_⟩;rw[bj]at d;cases hu:m[j]? with
 |none=>rw[hu]at d;cases d
 |some u=>
  rw[hu]at d;cases aM d;obtain⟨g,o,r,c,n,f,s,t⟩:=b j u hu;exact⟨g,o,u.2,r,by simpa using f 0 _ s,t⟩
end
section
open Go.ChangeShapes Go.WideShapes Go.ChangeAt Go.WideMaps Go.WideElems Go.Joins
variable {H:Type} {enc:TypeId×Value->H} {W:World}
theorem PS:prog.cellsOf 39=3:=by kernel_rfl
theorem Rb:prog.cellsOf 9=1:=by kernel_rfl
theorem PT:prog.cellsOf 41=13:=by kernel_rfl
theorem G8 {b:Nat}{i:List Value}{x:DataW H×List MemPlace}(h:DataW.trod enc prog W 0 (fun _=>true) true b 37 i=some x): ∃(sl:Value) (l:List Int),i=[sl]/\dT W sl l/\ ∀p n k,sl= .slice p n k->n<=k:=by
 obtain⟨sl,l,e,q⟩:=zp h;refine⟨sl,l,e,q,fun p n k e2=> ?_⟩;rw[e,e2]at h;rcases DataW.trod_slice qW h with⟨c,_⟩|⟨a,j,g,d,o,m,_,c,_,_,f,r,_⟩
 ·cases c;exact aD _
 ·cases c;exact f
theorem G9 {d:Nat}{f:List Value}{y:DataW H×List MemPlace}(h:DataW.trod enc prog W 0 (fun _=>true) true d 39 f=some y): ∃(a b:Int) (sl:Value) (l:List Int),f=[ag a,ag b,sl]/\dT W sl l/\ ∀p n k,sl= .slice p n k->n<=k:=by
 obtain⟨xs,m,_,_,q,s,c⟩:=DataW.trod_struct underlying39 h;rw[PS]at q;obtain⟨c0,c1,e,rfl⟩:=Ka q;obtain⟨t,u,v,rfl⟩:=Ka (show xs.length=3 from s);have i:DataW.trod enc prog W 0 (fun _=>true) true m 3 (([c0,c1,e].drop 0).take (prog.cellsOf 3))=some t:=c 0 _ rfl;have j:DataW.trod enc prog W 0 (fun _=>true) true m 3 (([c0,c1,e].drop 1).take (prog.cellsOf 3))=some u:=c 1 _ rfl;have o:DataW.trod enc prog W 0 (fun _=>true) true m 37 (([c0,c1,e].drop 2).take (prog.cellsOf 37))=some v:=c 2 _ rfl;rw[cN9]at i j;rw[PQ]at o;obtain⟨a,e0,_⟩:=DataW.trod_int underlying3 i;obtain⟨b,g,_⟩:=DataW.trod_int underlying3 j;obtain⟨sl,l,e2,r⟩:=G8 o;simp at e0 g e2;subst e0 g e2;exact⟨a,b,e,l,rfl,r⟩
theorem L9 {f:Nat}{i:List Value}{y:DataW H×List MemPlace}(h:DataW.trod enc prog W 0 (fun _=>true) true f 36 i=some y): ∃(a b c:Int) (sl:Value) (l:List (List Int)),i=[ag a,ag b,ag c,sl]/\fG W sl l:=by
 obtain⟨xs,m,_,_,r,t,d⟩:=DataW.trod_struct underlying36 h;rw[PR]at r;obtain⟨c0,c1,g,e,rfl⟩:=Mz r;obtain⟨u,v,w,x,rfl⟩:=Mz (show xs.length=4 from t);have n:DataW.trod enc prog W 0 (fun _=>true) true m 3 (([c0,c1,g,e].drop 0).take (prog.cellsOf 3))=some u:=d 0 _ rfl;have o:DataW.trod enc prog W 0 (fun _=>true) true m 3 (([c0,c1,g,e].drop 1).take (prog.cellsOf 3))=some v:=d 1 _ rfl;have p:DataW.trod enc prog W 0 (fun _=>true) true m 3 (([c0,c1,g,e].drop 2).take (prog.cellsOf 3))=some w:=d 2 _ rfl;have q:DataW.trod enc prog W 0 (fun _=>true) true m 34 (([c0,c1,g,e].drop 3).take (prog.cellsOf 34))=some x:=d 3 _ rfl;rw[cN9]at n o p;rw[QC]at q;obtain⟨a,e0,_⟩:=DataW.trod_int underlying3 n;obtain⟨b,j,_⟩:=DataW.trod_int underlying3 o;obtain⟨c,e2,_⟩:=DataW.trod_int underlying3 p;obtain⟨sl,l,k,s⟩:=Ev q;simp at e0 j e2 k;subst e0 j e2 k;exact⟨a,b,c,e,l,rfl,s⟩
theorem Bw {a:Nat}{b:List Value}{y:DataW H×List MemPlace}(h:DataW.trod enc prog W 0 (fun _=>true) true a 9 b=some y): ∃s:List UInt8,b=[lg s]/\s.length<=9223372036854775807:=by
 obtain⟨s,e,_,c⟩:=DataW.trod_string underlying9 h;refine⟨s.data.toList,by rw[e];rfl,?_⟩;unfold maxLen at c;have:s.data.toList.length=s.size:=cQ;omega
theorem Ma (p:Nat)(o:List Value)(y:DataW H×List MemPlace)(h:DataW.trod enc prog W 0 (fun _=>true) true p 41 o=some y): ∃u:Cm×Value×Value,o.length=13/\((∀k,(fun k:Nat=>o[k]?) k=(doC u.1 u.2.1 u.2.2).toList[k]?)/\lL W u.1 u.2.1 u.2.2):=by
 obtain⟨xs,m,_,_,hl,hx,n⟩:=DataW.trod_struct underlying41 h;rw[PT]at hl
 obtain⟨D,E,F,G,I,J,K,M,rfl⟩: ∃D E F G I J K M,xs=[D,E,F,G,I,J,K,M]:=by
  match xs,(show xs.length=8 from hx) with
  |[a,b,c,d,e,f,g,h],_=>exact⟨a,b,c,d,e,f,g,h,rfl⟩
 obtain⟨c0,c1,q,r,s,t,v,w,x,z,A,B,C,rfl⟩: ∃c0 c1 q r s t v w x z A B C,o=[c0,c1,q,r,s,t,v,w,x,z,A,B,C]:=by
  match o,hl with
  |[a,b,c,d,e,f,g,h,i,j,k,l,m],_=>exact⟨a,b,c,d,e,f,g,h,i,j,k,l,m,rfl⟩
 generalize hL:[c0,c1,q,r,s,t,v,w,x,z,A,B,C]=L at n;have S:DataW.trod enc prog W 0 (fun _=>true) true m 3 ((L.drop 0).take (prog.cellsOf 3))=some D:=n 0 _ rfl;have T:DataW.trod enc prog W 0 (fun _=>true) true m 3 ((L.drop 1).take (prog.cellsOf 3))=some E:=n 1 _ rfl;have U:DataW.trod enc prog W 0 (fun _=>true) true m 3 ((L.drop 2).take (prog.cellsOf 3))=some F:=n 2 _ rfl;have V:DataW.trod enc prog W 0 (fun _=>true) true m 3 ((L.drop 3).take (prog.cellsOf 3))=some G:=n 3 _ rfl;have X:DataW.trod enc prog W 0 (fun _=>true) true m 9 ((L.drop 4).take (prog.cellsOf 9))=some I:=n 4 _ rfl;have Y:DataW.trod enc prog W 0 (fun _=>true) true m 9 ((L.drop 5).take (prog.cellsOf 9))=some J:=n 5 _ rfl;have Z:DataW.trod enc prog W 0 (fun _=>true) true m 36 ((L.drop 6).take (prog.cellsOf 36))=some K:=n 6 _ rfl;have h7:DataW.trod enc prog W 0 (fun _=>true) true m 39 ((L.drop 10).take (prog.cellsOf 39))=some M:=n 7 _ rfl;rw[cN9]at S T U V;rw[Rb]at X Y;rw[PR]at Z;rw[PS]at h7;subst hL;obtain⟨z0,e0,_⟩:=DataW.trod_int underlying3 S;obtain⟨z1,N,_⟩:=DataW.trod_int underlying3 T;obtain⟨z2,e2,_⟩:=DataW.trod_int underlying3 U;obtain⟨z3,O,_⟩:=DataW.trod_int underlying3 V;obtain⟨s4,P,l4⟩:=Bw X;obtain⟨s5,Q,l5⟩:=Bw Y;obtain⟨a6,b6,d6,r6,l6,R,q6⟩:=L9 Z;obtain⟨a7,b7,w7,l7,e7,q7,k7⟩:=G9 h7;simp at e0 N e2 O P Q R e7;refine⟨(⟨z0,z1,z2,z3,s4,s5,⟨a6,b6,d6,l6⟩,a7,b7,l7⟩,r6,w7),rfl,fun k=> ?_,q6,q7,l4,l5,k7⟩;simp only[e0,N,e2,O,P,Q,R,e7];rfl
theorem Dr {r:Reach}{b0:Nat}{v:Value}{d:DataW H}{q:List MemPlace}(B:Value.okWide prog W r b0 22 v)(h:DataW.Trod enc prog W 0 (fun _=>true) true 22 v d q): ∃m,k6 W v m:=by
 obtain⟨l,k0,c0,rfl⟩:=okWide_slice underlying22 B;obtain⟨f,t⟩:=h;obtain⟨p,len,cap,E,e,i,z,a⟩:=xF ((⟨0,0,0,0,[],[],sv0,0,0,[]⟩,af,af):Cm×Value×Value) (Q:=fun c u=>(∀k,c k=(doC u.1 u.2.1 u.2.2).toList[k]?)/\lL W u.1 u.2.1 u.2.2) underlying22 PT (by decide) Ma t;have n:Value.slice l k0 c0= .slice p len cap:=by simpa[Value.cells] using e
 refine⟨E,p,cap,by rw[n,i],by rw[i];exact z,fun j u w=> ?_⟩;obtain⟨g,o,A,c,s,b,C,D⟩:=a j u w;exact⟨D,g,o,A,fun k x y=>b k x ((C k).trans y)⟩
theorem Fp {r:List TypeId}{l:List (DataW H)}(i:(DataW.weightsEach prog r l).all (· <=reachBytes)=true){j:Nat}(x:r[j]? =some 22){d:DataW H}(t:l[j]? =some d){v:Value}{p:List MemPlace}(h:DataW.Trod enc prog W 0 (fun _=>true) true 22 v d p){k:List (Cm×Value×Value)}(w:k6 W v k):k.length<=1000000000000:=by
 obtain⟨z,y,b,_⟩:=w;obtain⟨n,u⟩:=h;rcases DataW.trod_slice underlying22 u with⟨e,_⟩|⟨a,len,cap,c,g,m,_,e,ex,_,_,_,q,_⟩
 ·have f:v=af:=by rw[b]at e⊢;simpa[Value.cells] using e
  rw[b]at f;injection f with _ e2;omega
 ·have f:v= .slice (some a) len cap:=by rw[b]at e⊢;simpa[Value.cells] using e
  have s:d= .slice (c.map (·.1)) (g.map (·.1)):=congrArg Prod.fst ex;subst s;have o:=sized_slice i x t underlying22;rw[show prog.bytesOf 41=152 by kernel_rfl,aX,aX]at o;rw[b]at f;injection f with _ e2;unfold reachBytes at o;omega
theorem Ds {c:World}{v:Value}{d:DataW H}{p:List MemPlace}(h:DataW.Trod enc prog W 0 (fun _=>true) true 22 v d p)(e:aq W c)(a: ∀x∈p,x.block<W.heap.size):DataW.Trod enc prog c 0 (fun b=>decide (b<W.heap.size)) true 22 v d p:=
 Below.trod (by kernel_rfl) (by kernel_rfl) (fb (by kernel_rfl)) h e a
end
end Go.Proofs.YtlkehieagdkgiaaGreatDoor
