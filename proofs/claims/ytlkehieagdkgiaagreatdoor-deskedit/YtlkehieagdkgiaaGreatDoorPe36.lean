/- Texts of the proof. -/
import Derived.Test.YtlkehieagdkgiaaGreatDoorPe35
import Derived.Test.YtlkehieagdkgiaaGreatDoorPe34
set_option maxRecDepth 100000
set_option maxHeartbeats 8000000
namespace Go.Proofs.YtlkehieagdkgiaaGreatDoor
open Go.Proofs.Tryz Go.RowKit Lx Vx Mx Msk
section
section
variable {B gD:Nat} {d:Dk} {t:Tr}
theorem tK (n:Int)(F:Nat)(O:Array Value)(f:Ap->Dk->(Ap×Int)×Dk)(w:World)(h:dE B gD d t w)(eF: ∀L w,(callFunc F L).run prog w= .ok (.enter F L) w)
  (a0: ∀(a:Ap) (p:Option Addr) (c:Nat) (W:World),a∈d.aps->dE B gD d (t.add w.heap.size) W->aq w W->Rob (Fx gD (t.add w.heap.size)) (fun u=>dM u (.slice p a.who.length c) a.who) W->Calls prog F (#[.agg (apC (a,.slice p a.who.length c))]++O) W (vQ B gD (f a d) (t.add w.heap.size) W))
  (a3: ∀a∈d.aps,(f a d).1.2=0->uU d (f a d).1.1) (bg: ∀a,Cor d (f a d).2):Calls prog 34 #[ab gD 0,ag n,.func (.func F) #[] O] w (rD B gD (iL d n f) t w):=by
 obtain⟨w1,Q,b1,n1⟩:=nb w #[ag 0,ag 0,ag 0,ag 0,af,af] 43;have s1:w1.heap.size=w.heap.size+1:=by rw[<-Q];simp
 have a1:=h.opened (aD _) s1 b1;have X:=aE a1;have Y:Rb (Kd gD t t w w1):=Kd.of b1;have aO:=aE b1;have HG:Rb (∀q,w.heap.size<=q->Gx gD t q):=fun q hq=>(h.fx (.inr hq)).1;have aP:=aE a0;have aU:=aE a3;have aS:=aE bg;obtain⟨m,a2⟩:=a1;have aR:=aE a2;obtain⟨rv,cv,vv,kv,ss,aa,hm⟩:=a2;have aZ:aa.length=d.aps.length:=by rw[<-hm.ape,bc]
 obtain⟨pa,ca,ai⟩:=cg hm.aps;obtain⟨s,a8⟩:=au d.aps.length;rw[aZ,a8]at ai;have z3:w1.cell? (ae gD 3)=some (.slice pa s ca):=(cr (v:=t.av) 3 hm.blk rfl).trans (congrArg some ai);have A:Rb (t.av= .slice pa s ca):=ai;have C:=aE a8;have b0:w.heap.size<w1.heap.size:=by omega
 have cN:=qH n (s:Int) w1;obtain⟨c1,ay⟩:=au (isN n (s:Int));rw[ay]at cN;have U:=aE ay;go_enter func34,ntmps34;go_wp2_with fail;refine cN.mono ?_;rintro e wa ⟨rfl,bu⟩;subst bu;cases c1 with
 |false=>
  have Z:Rb (iL d n f=(noA 6,d)):=(by show _=_;unfold iL;rw[C.o,aB (.inl U.o)]);have cR:=fj 6 wa;go_wp2_with fail;refine cR.mono ?_;rintro e w9 ⟨rfl,E⟩;have T:=bt E n1;have D:=aE (fK (X.o.below E) (Y.o.trans (Kd.of E)) (by omega) (anC (noA 6) (af) (af)));have HR:=aE (aL _ _ _ (anC (noA 6) (af) (af)) _ _ T);go_wp2_with(refine az rfl 43 _ _ rfl _ _ rfl rfl _ _ T (by kernel_rfl) rfl (by simp[anC,noA,Value.oneCell']) ?_)
  refine aX (v:= .agg (anC (noA 6) (af) (af))) ?_ rfl ?_
  ·exact bf rfl _ _ w.heap.size _ _ _ _ rfl HR.o anT rfl (by kernel_rfl)
  ·rw[Z.o];exact⟨t,_,_,rfl,D.o.1,D.o.2,fp _ _,eE _ _⟩
 |true=>
  have hn:0<=n/\n<(s:Int):=(by have:=U.o;simpa[isN] using this);obtain⟨k,rfl⟩: ∃k:Nat,n=(k:Int):=⟨n.toNat,by omega⟩
  have bx:(0:Int)<=(k:Int):=(by omega);have bz:(k:Int)<(s:Int):=hn.2;have R:k<s:=(by omega);obtain⟨a,pw,cw,r,aW,ha,bs,_,aF,aG⟩:=DkM.ap aR.o (j:=k) (by rw[C.o];exact R);have e0:Value.slice pa s ca= .slice (some (ae r 0)) s aW:=(by rw[<-A.o,<-C.o];exact bs);injection e0 with e2 e3 e4;subst e2 e4;have zs:wa.cell? (ae r (k*11))=some (ag a.st):=aF 0 _ rfl;have a7:a∈d.aps:=aM ha;have bh:d.aps.getD k ap0=a:=(by simp[List.getD,ha]);have cB:=aP.o a pw cw wa a7 X.o aO.o aG;unfold vQ at cB;obtain⟨P,hP⟩:=au (f a d);rw[hP]at cB;obtain⟨st,aN⟩:=au a.st;rw[aN]at zs
  have am:Rb (iL d (k:Int) f=if st=3 then(noA 6,d) else if P.1.2≠0 then(noA P.1.2,P.2) else(noA 0,{P.2 with aps:=P.2.aps.set k P.1.1})):=by
   show _=_;unfold iL;simp only[dj,bh,hP,aN,C.o,U.o];by_cases e:st=3
   ·simp[e]
   ·simp[e]
  have an:Rb (Cor d P.2):=(by have:=aS.o a;rw[hP]at this;exact this);have ak:Rb (P.1.2=0->uU d P.1.1):=(by have:=aU.o a a7;rw[hP]at this;exact this);by_cases h3:st=3
  ·have aY:(st==3)=true:=(by simpa using h3);have Z:Rb (iL d (k:Int) f=(noA 6,d)):=am.o.trans (by rw[aB h3]);have cR:=fj 6 wa;go_wp2_with fail;refine cR.mono ?_;rintro e w9 ⟨rfl,E⟩;have T:=bt E n1;have D:=aE (fK (X.o.below E) (Y.o.trans (Kd.of E)) (by omega) (anC (noA 6) (af) (af)));have HR:=aE (aL _ _ _ (anC (noA 6) (af) (af)) _ _ T);go_wp2_with(refine az rfl 43 _ _ rfl _ _ rfl rfl _ _ T (by kernel_rfl) rfl (by simp[anC,noA,Value.oneCell']) ?_)
   refine aX (v:= .agg (anC (noA 6) (af) (af))) ?_ rfl ?_
   ·exact bf rfl _ _ w.heap.size _ _ _ _ rfl HR.o anT rfl (by kernel_rfl)
   ·rw[Z.o];exact⟨t,_,_,rfl,D.o.1,D.o.2,fp _ _,eE _ _⟩
  ·have aY:(st==3)=false:=(by simpa using h3);have V:=aE (am.o.trans (by rw[ax h3]));go_wp2_with(refine wpList_load_mid rfl 45 _ rfl r (k*11) rfl (apC (a,.slice pw a.who.length cw)).toList _ aF apT rfl (by kernel_rfl) ?_)
   refine cB.mono ?_;rintro e w5 ⟨b5,rfl,bd,z,H⟩;obtain⟨p5,c5,bp,_,_⟩:=H.here;subst bp;obtain⟨nx,bm⟩:=au P.1.1.who.length;rw[bm]at H⊢;obtain⟨N,I⟩:=au (apC (P.1.1,.slice p5 nx c5));have ad:N.all (·.oneCell')=true:=(by rw[<-I];exact gQ _ _ _ _);have i:N.size=11:=(by rw[<-I];rfl);rw[I];obtain⟨wZ,w6,hZ,nZ,h6,b6,n6⟩:=nbs w5 #[ag 0,ag 0,ag 0,ag 0,ag 0,ag 0,ag 0,ag 0,ag 0,ag 0,af] N 45;have a4:Kd gD t t wa w5:=⟨z.os,z.tape,z.output,z.size,z.blk,fun _ _ h=>h,rfl⟩
   have l5:=(z.blk _ (HG.o w.heap.size (aD _)) (aI n1)).trans n1;have l6:=bt b6 l5;have ao:=aE (bd.below b6);have ar:=aE (Y.o.trans (a4.trans (Kd.of b6)));have aV:=aE (H.below b6);obtain⟨er,be⟩:=au P.1.2;rw[be]at V ak⊢;by_cases h0:er=0
   ·subst h0;have Z:Rb (iL d (k:Int) f=(noA 0,{P.2 with aps:=P.2.aps.set k P.1.1})):=V.o.trans (by rw[ax (by simp)]);obtain⟨m,b3,bv,b7,b2,b4,ac,G⟩:=ao.o;have aw:P.2.aps=d.aps:=(by obtain⟨_,_,e⟩:=an.o;rw[e]);have a9:ac.length=s:=(by rw[<-C.o,<-aw,<-G.ape,bc]);have bj:k<ac.length:=(by omega);have S:w6.ownsRow B 45 11 (.slice (some (ae r 0)) s ca) s (apF ac):=(by have:=G.aps;rw[a9]at this;rw[<-A.o];exact this);have z3:w6.cell? (ae gD 3)=some (.slice (some (ae r 0)) s ca):=(cr (v:=t.av) 3 G.blk rfl).trans (congrArg some A.o);have bi:w.heap.size≠r:=fun e=>(G.nx w.heap.size bq).2.2.2.2.2 (by show _=t.av.ownBlock;rw[A.o,e];rfl);go_upto_region 6 with(refine az rfl 45 _ _ rfl _ _ rfl rfl _ _ nZ (by rw[i];kernel_rfl) (by rw[i];rfl) ad ?_;rw[h6])
    refine dl (fun M _ W=>(M 8=false->aq w6 W)/\(M 8=true-> ∃J,aq w6 J/\Below J.heap.size (J.setCells r (k*11) N.toList) W)) [kn 48 (ab gD 0),kn 49 (ab gD 0),kn 50 (ab gD 0),kn 51 (ab gD 3),kn 52 (.slice (some (ae r 0)) s ca),kn 53 (ag (k:Int)),kn 54 (.agg N),kn 55 (ab r (k*11)),nk] (fun _=>⟨fun _=>(aH _ _).drew,(fun h=>by cases h)⟩) (fun _ _ _ _ hb h=>⟨fun c=>(h.1 c).trans (hb.mono (h.1 c).size),fun c=> ?_⟩) (by kernel_rfl) ?_ ?_
    ·obtain⟨J,Q,h2⟩:=h.2 c;exact⟨J,Q,h2.trans (hb.mono (by have:=h2.size;rw[(eY _ _ _ _).2.2.2]at this;exact this))⟩
    ·rintro M φ W hJ hc F l hl hF;have HJ:=aE hJ;simp only[kn,nk,dX,aQ,aT,Act.put,aA,aK,aJ]at hl;subst hl;simp only[dn,Nat.reduceAdd]at hF;dsimp only[kn,nk,dy,eJ,dY,Act.put];and_intros;all_goals first|exact trivial|intro hw hn hm K hK
     all_goals try (go_simp;with_reducible exact hK _ _ ⟨rfl,aH _ _⟩)
     ·have hb:=HJ.o.1 (hn 8 _ rfl (by kernel_rfl));have y:=aj hb z3;go_simp;exact hK _ _ ⟨rfl,aH _ _⟩
     ·have nW:=bt (HJ.o.1 (hn 8 _ rfl (by kernel_rfl))) n6;show Oper.wp _ _ _ _ _ _;refine eN 45 _ rfl _ (by simp[Act.eval,hF]) _ _ _ _ nW apT rfl (by rw[i];kernel_rfl) ?_;exact hK _ _ ⟨rfl,aH _ _⟩
     ·have hb:=HJ.o.1 hm;have aC:=br S fun b hq=>hb.block b (S.lt b hq).2;have bo:W.there r (k*11) N.size:=(by rw[i];exact uP aC R rfl);show Oper.wp _ _ _ _ _ _;refine wp_store_mid 45 _ _ rfl r (k*11) N (by simp[Act.eval,hF]) (by simp[Act.eval,hF]) bo (by rw[i];kernel_rfl) ad ?_;exact hK undef _ ⟨trivial,fun c=>by simp at c,fun _=>⟨W,hb,aH _ _⟩⟩
    ·rintro M φ W hM hJ;obtain⟨J,Q,h2⟩:=hJ.2 (hM 8 (by decide) rfl);simp only[kn,nk,d8,aQ,aT,Act.put,aA,aK,aJ];have bl:=G.below Q;obtain⟨a6,a5⟩:=bl.setAp (j:=k) (g:=r) bj (by show t.av.ownBlock=_;rw[A.o];rfl) (P.1.1,.slice p5 nx c5) (.inr (aV.o.below Q));rw[I]at a6 a5;have bn:=(eY r N.toList (k*11) J).2.2.2;have ah:=h2.mono (j9 bn);have ba:uU d P.1.1:=ak.o trivial
     have bb:dE B gD {P.2 with aps:=P.2.aps.set k P.1.1} (t.add w.heap.size) W:=by
      refine dE.below ⟨⟨m.flt,m.vl,m.kl,m.rl,m.sl,by simpa using m.al,m.gv,m.nm,m.sv,fun x hx=> ?_⟩,_,_,_,_,_,_,a6⟩ ah;rcases List.mem_or_eq_of_mem_set hx with hx|rfl
      ·exact m.ap x hx
      ·obtain⟨_,_,e⟩:=an.o;rw[e];exact ba
     have bk:Kd gD t t w W:=ar.o.trans (Kd.off (q:=w.heap.size) (((Kd.of Q).trans a5).trans (Kd.of ah)));have lW:=bt ah ((fI r _ _ J _ bi).trans (bt Q l6));have D:=aE (fK bb bk (aD _) #[ag 0,ag 0,ag 0,ag 0,af,af]);have HR:=aE (aL _ _ _ #[ag 0,ag 0,ag 0,ag 0,af,af] _ _ lW);go_wp2_with(refine az rfl 43 _ _ rfl _ _ rfl rfl _ _ lW (by kernel_rfl) rfl (by simp[Value.oneCell']) ?_)
     refine aX (v:= .agg #[ag 0,ag 0,ag 0,ag 0,af,af]) ?_ rfl ?_
     ·exact bf rfl _ _ w.heap.size _ _ _ _ rfl HR.o anT rfl (by kernel_rfl)
     ·rw[Z.o];exact⟨_,_,_,rfl,D.o.1,D.o.2,fp _ _,eE _ _⟩
   ·have bw:(er !=0)=true:=(by simpa using h0);have Z:Rb (iL d (k:Int) f=(noA er,P.2)):=V.o.trans (by rw[aB h0]);go_wp2_with(refine az rfl 45 _ _ rfl _ _ rfl rfl _ _ nZ (by rw[i];kernel_rfl) (by rw[i];rfl) ad ?_;rw[h6])
    have cR:=fj er w6;go_wp2_with fail;refine cR.mono ?_;rintro e w9 ⟨rfl,E⟩;have T:=bt E l6;have D:=aE (fK (ao.o.below E) (ar.o.trans (Kd.of E)) (by omega) (anC (noA er) (af) (af)));have HR:=aE (aL _ _ _ (anC (noA er) (af) (af)) _ _ T);go_wp2_with(refine az rfl 43 _ _ rfl _ _ rfl rfl _ _ T (by kernel_rfl) rfl (by simp[anC,noA,Value.oneCell']) ?_)
    refine aX (v:= .agg (anC (noA er) (af) (af))) ?_ rfl ?_
    ·exact bf rfl _ _ w.heap.size _ _ _ _ rfl HR.o anT rfl (by kernel_rfl)
    ·rw[Z.o];exact⟨t,_,_,rfl,D.o.1,D.o.2,fp _ _,eE _ _⟩
end
end
section
theorem JQ {R:Ending->World->Prop}{a:Act}{w:World}(g:Nat)(c:Array Value)(er:Int)(j:c.size=11)(k:a.defers=[])(e:a.tmps.getD 4 undef=ab g 0)(f:a.tmps.getD 5 undef=ag er)
  (l:w.heap[g]? =ah c 45) (i:R (.returned (.tuple #[.agg c,ag er])) w):bodyPost prog f38 R .ret a w:=by
 refine aX (v:= .tuple #[.agg c,ag er]) ?_ k i;have n:f38.results= #[ResultVar.cell 4 45,ResultVar.tmp 5]:=rfl;have b:a.tmps[4]?.getD undef=ab g 0:=by simpa using e
 have d:a.tmps[5]?.getD undef=ag er:=by simpa using f
 have m:=en (P:=prog) w g 45 45 _ _ _ l apT rfl (by rw[j];kernel_rfl);simp[results,b,d,asAddr,m]
section
variable {B gD:Nat} {d:Dk} {t:Tr}
theorem Bu (h:uK d){a:Ap}(ha:a∈d.aps)(s:Int):uU d (fy a s):=by
 obtain⟨b,c,f,e⟩:=h.ap a ha;exact⟨b,c,⟨io _,by show(0:Int)<=10;omega⟩,e⟩
theorem LM {X y:Nat}(c:Cm)(a:Ap)(p J:Option Addr)(k x:Nat)(rv:Value)(w:World)(h:dE B gD d t w)(n1:w.heap[X]? =ah #[ab gD 0] 99)(n2:w.heap[y]? =ah (doC c rv (.slice J c.swho.length x)) 41)(ha:uU d a)(hw:Rob (Fx gD t) (fun u=>dM u (.slice J c.swho.length x) c.swho) w)(C:c.swho.length<=x):
  Calls prog 38 #[.agg (apC (a,.slice p a.who.length k)),ab X 0,ab y 0] w (vQ B gD (fh d c.n a c.sday c.smin c.swho) t w):=by
 obtain⟨m,hA,z,nA⟩:=nb w (apC (a,.slice p a.who.length k)) 45;obtain⟨r,hB,Q,U⟩:=nb m #[ag 0,ag 0,ag 0,ag 0,ag 0,ag 0,ag 0,ag 0,ag 0,ag 0,af] 45;have sB:r.heap.size=m.heap.size+1:=by rw[<-hB];simp
 have b:=aw z Q;have E:=h.opened (q:=m.heap.size) z.size sB b;have m1:=bt b n1;have I:=bt b n2;have mA:=bt Q nA;have z1:=cr 0 m1 rfl;have y1:r.cell? (ae y 1)=some (ag c.n):=cr 1 I rfl;have ad:r.cell? (ae y 10)=some (ag c.sday):=cr 10 I rfl;have ai:r.cell? (ae y 11)=some (ag c.smin):=cr 11 I rfl;have V:r.cell? (ae y 12)=some (.slice J c.swho.length x):=cr 12 I rfl
 have G:Rob (Fx gD (t.add m.heap.size)) (fun u=>dM u (.slice J c.swho.length x) c.swho) r:=hw.move b.size (fun q _ Z=>b.block q Z) fun q Z l=>⟨l.1,fun H=>by
  rcases bO.1 H with e|H
  ·have:=z.size;omega
  ·exact l.2 H⟩
 have A:=zw c.n a p J k x c.sday c.smin c.swho r E ha.1 ha.2.2.2.1 G C;obtain⟨P,Y⟩:=au (fh d c.n a c.sday c.smin c.swho);rw[Y]at A⊢;unfold vQ at A;have H0:=aE h;have N:Rb (Kd gD t t w r):=Kd.of b;have aa:w.heap.size<m.heap.size:=by rw[<-hA];simp
 have M:Rb (Gx gD t m.heap.size):=(h.fx (.inr z.size)).1;obtain⟨nw,F⟩:=au c.swho.length;rw[F]at A V;clear h z Q b sB E n1 n2 nA m1 I G Y hw F C;go_enter func38,ntmps38;go_wp2_with(refine aR rfl 45 _ rfl _ rfl _ _ _ _ mA apT rfl (by kernel_rfl) ?_)
 refine A.mono ?_;rintro e K ⟨ac,rfl,D,f,g⟩;obtain⟨p5,W,T,_,_⟩:=g.here;subst T;have n5:=(f.blk _ M.o (aI U)).trans U;obtain⟨nx,S⟩:=au P.1.1.who.length;rw[S]at g⊢;obtain⟨v,j⟩:=au (apC (P.1.1,.slice p5 nx W));have R:v.all (·.oneCell')=true:=by rw[<-j];exact gQ _ _ _ _
 have i:v.size=11:=by rw[<-j];rfl
 rw[j];have s:Kd gD t t r K:=⟨f.os,f.tape,f.output,f.size,f.blk,fun _ _ h=>h,rfl⟩
 have O:=aE (fV (D.closed (w':=K.setRow m.heap.size v) (by simp) fun q _ l=>aW _ _ _ _ l) (fV ((N.o.trans s).closed (w':=K.setRow m.heap.size v) (q:=m.heap.size) (by omega) rfl rfl rfl (by simp) fun q _ l=>aW _ _ _ _ l) (g.move (w':=K.setRow m.heap.size v) (P':=Fx gD t) (by simp) (fun q l _=>aW _ _ _ _ fun e=>l.2 (by rw[e];exact bq)) fun q _ l=>⟨l.1,fun H=>l.2 (bL _ H)⟩)));have HR:=aE (aL _ _ _ v _ _ n5);have L:=aE j;clear A D f s g j U;go_wp2_with(refine az rfl 45 _ _ rfl _ _ rfl rfl _ _ n5 (by rw[i];kernel_rfl) (by rw[i];rfl) R ?_)
 refine JQ m.heap.size v P.1.2 i rfl rfl rfl HR.o ?_;exact⟨.slice p5 nx W,by rw[L.o],O.o.1,O.o.2.1,O.o.2.2⟩
theorem LN (c:Cm)(pr C:Option Addr)(E l:Nat)(w:World)(h:dE B gD d t w)(H:c.swho.length<=l)(L:Rob (fun q=>q<B) (fun u=>dM u (.slice C c.swho.length l) c.swho) w)(aa:5<=c.kind/\c.kind<=8):Calls prog 19 #[ab gD 0,.agg (doC c (.slice pr c.sv.roles.length E) (.slice C c.swho.length l))] w (rD B gD (doP d c) t w):=by
 obtain⟨w1,h1,b1,X⟩:=nb w #[ab gD 0] 99;obtain⟨D,h2,b2,Y⟩:=nb w1 (doC c (.slice pr c.sv.roles.length E) (.slice C c.swho.length l)) 41;obtain⟨M,h3,b3,T⟩:=nb D #[ag 0,ag 0,ag 0,ag 0,af,af] 43;have f:=aw b1 b2;have g:=aw f b3;have b:=h.opened (q:=D.heap.size) f.size (by rw[<-h3];simp) g;have S:=bt b3 Y;have R:=bt (aw b2 b3) X;have z1:=cr 0 R rfl;obtain⟨y0,y1,y2,y3,y4,y5,y6,y7,y8,y9,ac,ad,ae⟩:=Df S;have HB:=aE g;have HQ:=aE f.size
 have Q:Rb (Gx gD (t.add D.heap.size) D.heap.size):=by
  obtain⟨_,_,_,_,_,_,_,hm⟩:=b;exact(hm.nx _ bq).2.2
 have s:Rob (Fx gD (t.add D.heap.size)) (fun u=>dM u (.slice C c.swho.length l) c.swho) M:=L.move g.size (fun q _ J=>g.block q J) fun q J K=>⟨(h.fx (.inl K)).1,fun y=>by
  rcases bO.1 y with e|y
  ·have:=f.size;omega
  ·exact(h.fx (.inl K)).2 y⟩
 rcases(show c.kind=5\/c.kind=6\/c.kind=7\/c.kind=8 by omega) with A|A|A|A
 case' inl=>
  have i:=LL c.n c.sday c.smin c.swho C l M b s H;generalize F:lV d c.n c.sday c.smin c.swho=P at i
 case' inr.inl=>
  have i:=tK c.n 35 #[] (fun a d=>((fy a 2,0),d)) M b (fun _ _=>rfl) (fun a p c W ha G z O=>(Ea a p c W).mono fun e w' j=>⟨_,j.1,G.below j.2,Kd.of j.2,O.below j.2⟩) (fun a ha _=>Bu b.1 ha 2) (fun a=>Cor.refl d);generalize F:iL d c.n (fun a d=>((fy a 2,0),d))=P at i
 case' inr.inr.inl=>
  have i:=tK c.n 37 #[] (fun a d=>((fy a 3,0),d)) M b (fun _ _=>rfl) (fun a p c W ha G z O=>(GC a p c W).mono fun e w' j=>⟨_,j.1,G.below j.2,Kd.of j.2,O.below j.2⟩) (fun a ha _=>Bu b.1 ha 3) (fun a=>Cor.refl d);generalize F:iL d c.n (fun a d=>((fy a 3,0),d))=P at i
 case' inr.inr.inr=>
  have i:=tK c.n 38 #[ab w.heap.size 0,ab w1.heap.size 0] (fun a d=>fh d c.n a c.sday c.smin c.swho) M b (fun _ _=>rfl) (fun a p k W ha G z O=>LM c a p C k l _ W G (bt z R) (bt z S) (b.1.ap a ha) (s.move z.size (fun q _ J=>z.block q J) fun q J K=>⟨K.1,fun y=>by
   rcases bO.1 y with e|y
   ·omega
   ·exact K.2 y⟩) H) (fun a ha e=>Bt b.1 (b.1.ap a ha).1 (b.1.ap a ha).2.2.1 (b.1.ap a ha).2.2.2.1 e) (fun a=>mD d _ a _ _ _)
  generalize F:iL d c.n (fun a d=>fh d c.n a c.sday c.smin c.swho)=P at i
 all_goals
  have HP:Rb (doP d c=P):=by
   show _=_;rw[<-F];unfold doP;repeat (first|rw[aB A]|rw[ax (by omega)])
  clear b1 b2 b3 f g b X Y F R S s
  try rw[A]at y0
  clear A
  go_enter func19,ntmps19
  go_wp2_with fail
  refine i.mono ?_
  rintro e w4 ⟨t',wv,lv,rfl,I,m,x,r⟩
  obtain⟨t0,o1,o2,o3,o4⟩:=JA HB.o HQ.o I m x r (anC P.1 wv lv)
  obtain⟨p5,U,rfl,_,_⟩:=x.here.1
  obtain⟨p6,V,rfl,_,_⟩:=r.here
  have Z:=(m.blk _ Q.o (aI T)).trans T
  have N:=aE (fV o1 (fV o2 (fV o3 o4)))
  have HR:=aE (aL _ _ _ (anC P.1 (.slice p5 P.1.who.length U) (.slice p6 P.1.list.length V)) _ _ Z)
  clear i I m x r o1 o2 o3 o4 T
  go_wp2_with(refine az rfl 43 _ _ rfl _ _ rfl rfl _ _ Z (by kernel_rfl) rfl (by simp[anC,Value.oneCell']) ?_)
  refine aX (v:= .agg (anC P.1 (.slice p5 P.1.who.length U) (.slice p6 P.1.list.length V))) ?_ rfl ?_
  ·exact bf rfl _ _ D.heap.size _ _ _ _ rfl HR.o anT rfl (by kernel_rfl)
  ·rw[HP.o]
   exact⟨t0,_,_,rfl,N.o.1,N.o.2.1,N.o.2.2.1,N.o.2.2.2⟩
theorem xP (c:Cm):GP c:=fun B gD d t w i j f g h l k m n b e=>by
 by_cases a:5<=c.kind/\c.kind<=8
 ·exact LN c i j f g w h (b.cap _ _ _ rfl) e a
 ·exact JC c a B gD d t w i j f g h l k m n b e
end
end
section
section
variable {w w':World}
theorem JR:dM w (af) []:=⟨none,0,rfl,by decide,fun j n h=>by simp at h⟩
theorem Ff:fu w (af) []:=⟨none,0,rfl,by decide,fun j n h=>by simp at h⟩
theorem Oa {g:Nat}{sv:Value}{l:List Int}{T:TypeId}(h:w.heap[g]? =ah #[sv] T)(b:dM w sv l):fu w (.slice (some (ae g 0)) 1 1) [l]:=by
 refine⟨some ⟨g,0,none⟩,1,rfl,by simp,fun j m a=> ?_⟩;match j,a with
 |0,a=>cases a;exact⟨g,0,sv,rfl,aZ _ _ _ _ _ _ h,b⟩
 |j+1,a=>simp at a
def tL (B:Nat)(w:World)(v:Value)(a:List (Cm×Value×Value)):Prop:=w.ownsRow B 41 13 v a.length (a.flatMap fun q=>(doC q.1 q.2.1 q.2.2).toList)/\ ∀q∈a,Rob (fun k=>some k≠v.ownBlock) (fun u=>lQ u q.1 q.2.1 q.2.2) w
theorem vR {B:Nat}{v:Value}{a:List (Cm×Value×Value)}(h:w.ownsRow B 41 13 v a.length (a.flatMap fun q=>(doC q.1 q.2.1 q.2.2).toList))(i: ∀q∈a,lQ w q.1 q.2.1 q.2.2)(l:a.length<9223372036854775808):lI w v a:=by
 obtain⟨p,k,d⟩:=cg h;refine⟨p,k,d,l,fun j q b=>⟨i q (aM b),?_⟩⟩;obtain⟨g,c,e,_,m⟩:=iJ (f:=fun q:Cm×Value×Value=>doC q.1 q.2.1 q.2.2) (fun q=>rfl) h rfl b;rw[d]at e;cases e;exact⟨g,0,rfl,by rw[cY];exact m⟩
theorem tL.row {B:Nat}{v:Value}{a:List (Cm×Value×Value)}(h:tL B w v a)(b:a.length<9223372036854775808):lI w v a:=vR h.1 (fun q c=>(h.2 q c).here) b
theorem tL.below {B:Nat}{v:Value}{c:List (Cm×Value×Value)}(h:tL B w v c)(d:aq w w'):tL B w' v c:=
 ⟨br h.1 fun b a=>d.block b (h.1.lt b a).2,fun q a=>(h.2 q a).below d⟩
theorem Ob {c:Cm}{a b:Value}(h:lQ w c a b):(doC c a b).all (·.oneCell')=true:=by
 obtain⟨_,_,rfl,_⟩:=h.roles;obtain⟨_,_,rfl,_⟩:=h.who;exact Fd ..
theorem Aq: ∀a:List (Cm×Value×Value),(a.flatMap fun q=>(doC q.1 q.2.1 q.2.2).toList).length=a.length*13
 |[]=>rfl
 |c::a=>by
  rw[List.flatMap_cons,aP,Aq a,bV];show 13+_=_;omega
theorem PK {a:List (Cm×Value×Value)}{g o:Nat}(h: ∀(j:Nat) (q:Cm×Value×Value),a[j]? =some q->w.rangeAt g (o+j*13) (doC q.1 q.2.1 q.2.2).toList):w.rangeAt g o (a.flatMap fun q=>(doC q.1 q.2.1 q.2.2).toList):=by
 intro k u c
 have d:k<a.length*13:=by
  have:=(aF.1 c).1;rwa[Aq]at this
 obtain⟨q,b⟩: ∃q,a[k/13]? =some q:=⟨_,ay (by omega)⟩
 have e:=py (f:=fun q:Cm×Value×Value=>doC q.1 q.2.1 q.2.2) (m:=13) (fun q=>rfl) b (k%13) (Nat.mod_lt _ (by decide));rw[show k/13*13+k%13=k by omega,c]at e;have:=h _ q b (k%13) u (by rw[bx];exact e.symm);rwa[show o+k/13*13+k%13=o+k by omega]at this
theorem uV {n:Array Oper}{d:List Oper}{o:Oper}{a:Act}{Q:Exit->Act->World->Prop}(E:o.guard=none)(s x:Operand)(X:o.op= .call {callee:= .builtin .append,args:= #[s,x],argTypes:= #[22,22]})
  {B:Nat} {v P:Value} {r c:List (Cm×Value×Value)} (Z:a.eval s=v) (D:tL B w v r) (hx:a.eval x=P) (U:lI w P c) (R:0<c.length) (M: ∀q∈c,Rob (fun k=>some k≠v.ownBlock) (fun u=>lQ u q.1 q.2.1 q.2.2) w) (W:r.length+c.length<=100000) (L:B<=w.heap.size)
  (h: ∀C w',tL B w' C (r++c)->Below B w w'->w.grownBy w' v.ownBlock->wpList prog n Q d (a.put o.dst C) w'):wpList prog n Q (o::d) a w:=by
 obtain⟨i,hi,I,J,K⟩:=o7 (t:=41) (z:= .agg (doC ⟨0,0,0,0,[],[],sv0,0,0,[]⟩ (af) (af))) (a:=13) (b:=152) (by kernel_rfl);obtain⟨p,k,rfl,_,N⟩:=U;obtain⟨q0,G⟩: ∃q,c[0]? =some q:=⟨_,ay R⟩
 obtain⟨_,g,A,rfl,_⟩:=N 0 q0 G
 have T:w.rangeAt g A (c.flatMap fun q=>(doC q.1 q.2.1 q.2.2).toList):=PK fun j q V=>by
  obtain⟨_,g',o',e,Y⟩:=N j q V;cases e;exact Y
 refine wpList_append_own_at w E s x 22 X B 41 i _ 13 152 (by kernel_rfl) hi I J K rfl (by decide) v r.length _ Z D.1 ⟨g,A,none⟩ c.length k (c.flatMap fun q=>(doC q.1 q.2.1 q.2.2).toList) hx ?_ (fun j u m=> ?_) (fun u m=> ?_) (by unfold maxLen;omega) (bg (Nat.mul_le_mul_right _ W) (by decide)) L fun C w' S y _ f=> ?_
 ·exact Aq c
 ·rw[show(⟨g,A,none⟩:Addr).add j=⟨g,A+j,none⟩ by simp[Addr.add]];exact T j u m
 ·obtain⟨q,F,m⟩:=List.mem_flatMap.1 m;exact Array.all_eq_true'.1 (Ob (M q F).here) u (Array.mem_toList_iff.1 m)
 ·refine h C w' ⟨?_,fun q F=> ?_⟩ (fT (aH _ _) y L fun k l=>(D.1.lt k l).1) y
  ·rw[aP,fG];exact S
  ·have H:Rob (fun k=>some k≠v.ownBlock) (fun u=>lQ u q.1 q.2.1 q.2.2) w:=(da.1 F).elim (D.2 q) (M q);refine H.move y.size (fun k l O=>y.block k O l) fun k O l=> ?_;rcases f with f|f
   ·rw[f];exact l
   ·rw[f];intro e;cases e;omega
theorem r8 {B g n m:Nat}{a:Array Value}{T:TypeId}(h:w.heap[g]? =ah a T)(c:B<=g)(b:a.size=n*m)(d:n<=maxLen):w.ownsRow B T m (.slice (some (ae g 0)) n n) n a.toList:=
 ⟨by rw[df];exact b,.inr ⟨g,n,a,rfl,c,h,aD _,d,b,by rw[dh (by rw[df,b];exact aD _)]⟩⟩
theorem uW (c:Cm)(a:c.sv.roles=[])(b:c.swho=[])(d:c.text.length<=9223372036854775807)(f:c.name.length<=9223372036854775807):lQ w c (af) (af):=
 ⟨by rw[a];exact Ff,by rw[b];exact JR,d,f,fun p n k e=>by cases e;exact aD _⟩
end
def sC (a:Value):List (Cm×Value×Value):=[(⟨1,0,0,0,aS,[],sv0,0,0,[]⟩,af,af),(⟨2,0,0,0,[],[97],sv0,0,0,[]⟩,af,af),(⟨3,0,0,0,[],[],lw,0,0,[]⟩,a,af)]
theorem JS (w:World):Calls prog 18 #[] w fun e w'=> ∃v b,e= .returned v/\aq w w'/\tL w.heap.size w' v (sC b):=by
 obtain⟨x,D,b1,s⟩:=nb w #[ag 0] 3;obtain⟨l,E,b2,t⟩:=nb x #[.slice (some (ae w.heap.size 0)) 1 1] 37;have c:=aE b1;have a:=aE b2;have m:=aE s;have d:=aE t;clear b1 b2 s t;go_enter func18,ntmps18;go_wp2_with fail;go_ret;obtain⟨b,j⟩:=au (.slice (some (ae x.heap.size 0)) 1 1:Value)
 suffices H: ∀W,l.alloc (.cells ((sC b).flatMap fun q=>(doC q.1 q.2.1 q.2.2).toList).toArray 41)=W->aq w W/\tL w.heap.size W (.slice (some (ae l.heap.size 0)) 3 3) (sC b) by
  rw[j];exact⟨_,b,rfl,H _ rfl⟩
 intro G A;obtain⟨C,f,b3,B⟩:=nb l ((sC b).flatMap fun q=>(doC q.1 q.2.1 q.2.2).toList).toArray 41;rw[A]at f;subst f;have z:=aw c.o a.o;refine⟨aw z b3,r8 (n:=3) B (bg c.o.size a.o.size) rfl (by decide),fun q i u F ha=> ?_⟩;have g: ∀k,k<l.heap.size->u.heap[k]? =l.heap[k]? :=fun k r=>(ha k (fun e=>Nat.ne_of_lt r (aN e)) (aU r b3.size)).trans (b3.block k r);subst j;rcases bO.1 i with rfl|i
 ·exact uW _ rfl rfl (by decide) (by decide)
 rcases bO.1 i with rfl|i
 ·exact uW _ rfl rfl (by decide) (by decide)
 cases cQ.1 i;have y:=bt a.o m.o;exact⟨Oa ((g _ (aI d.o)).trans d.o) (xA ((g _ (aI y)).trans y)),JR,dF _,dF _,fun p n k e=>by cases e;exact aD _⟩
end
def eC (g:Nat):List (Cm×Value×Value):=[(⟨4,0,7,2,[],[],sv0,0,0,[]⟩,af,af),(⟨5,0,0,0,[],[],sv0,7,540,[0]⟩,af,.slice (some (ae g 0)) 1 1)]
theorem Ei (w:World)(hT:Tbs w.heap.size w):Calls prog 8 #[] w fun e w'=>e= .returned (.bool true)/\aq w w':=by
 have c1:=JS w;have HT:=aE hT;clear hT;go_enter func8,ntmps8;go_wp2_with fail;refine c1.mono ?_;rintro e l ⟨v,rv,rfl,b1,F⟩;have J:=aE b1;have X:=aE F;clear b1 c1;obtain⟨p,k,Q⟩:=cg F.1;subst Q;dsimp only[sC,List.length]at F⊢;clear F;obtain⟨w2,h2,b2,G⟩:=nb l #[ag 0] 3;obtain⟨w3,h3,b3,H⟩:=nb w2 #[ag 4,ag 0,ag 7,ag 2,.string ⟨#[]⟩,.string ⟨#[]⟩,ag 0,ag 0,ag 0,af,ag 0,ag 0,af,ag 5,ag 0,ag 0,ag 0,.string ⟨#[]⟩,.string ⟨#[]⟩,ag 0,ag 0,ag 0,af,ag 7,ag 540,.slice (some (ae l.heap.size 0)) 1 1] 41;have s:=(X.o.below b2).below b3;have z:=aw b2 b3
 have O: ∀q∈eC l.heap.size,Rob (fun j=>some j≠(Value.slice p 3 k).ownBlock) (fun u=>lQ u q.1 q.2.1 q.2.2) w3:=fun q C u hu ha=>by
  rcases bO.1 C with rfl|C
  ·exact uW _ rfl rfl (dF _) (dF _)
  cases cQ.1 C;have y:=bt b3 G;exact⟨Ff,xA ((ha _ (fun e=>Nat.lt_irrefl _ (X.o.1.lt _ e.symm).2) (aI y)).trans y),dF _,dF _,fun p n k e=>by cases e;exact aD _⟩
 have hX:lI w3 (.slice (some (ae w2.heap.size 0)) 2 2) (eC l.heap.size):=vR (B:=0) (r8 (n:=2) H (dF _) rfl (by decide)) (fun q C=>(O q C).here) (by decide:2<9223372036854775808);have m:=aE (aw J.o z);have r:=aE s;have Y:=aE O;have Z:=aE hX;clear s O hX b2 b3 G H z;go_wp2_with(refine uV rfl _ _ rfl rfl r.o rfl Z.o (show 0<2 by decide) Y.o (show 5<=100000 by decide) m.o.size ?_;intro v' w4 t b4 _)
 have b:=m.o.trans b4;have K:=aE b;have N:=xM (sC rv++eC l.heap.size) v' w4 (t.row (show 5<9223372036854775808 by decide)) (fun W hW=>HT.o W (aw b hW)) (fun q _=>xP q.1);rw[show(sC rv++eC l.heap.size).map (fun q=>q.1)=aC from rfl]at N;clear b b4 t Z Y r;refine N.mono ?_;clear N;rintro e I ⟨b5,h5⟩;rcases h5 with⟨P,_⟩|⟨P,ac,ev,sv,av,ab,ss,aa,V,rfl,a⟩
 ·exact absurd P (by decide)
 clear P;replace a:=a.here;rw[PI]at a⊢
 have A:V.length=5:=by
  have:=congrArg List.length a.ane;rw[bc]at this;exact this
 have x:aa.length=1:=by
  have:=congrArg List.length a.ape;rw[bc]at this;exact this
 obtain⟨us,D,U⟩:=a.rules;obtain⟨p1,k1,rfl⟩:=D.form;obtain⟨p2,k2,rfl⟩:=cg a.res;obtain⟨p3,k3,rfl⟩:=cg a.svs;obtain⟨pa,ka,rfl⟩:=cg a.aps;obtain⟨q3,d⟩: ∃q,V[3]? =some q:=⟨_,ay (by omega)⟩
 obtain⟨q4,i⟩: ∃q,V[4]? =some q:=⟨_,ay (by omega)⟩
 have f3:q3.1=⟨0,0,7,540,[0],[]⟩:=by
  have:=congrArg (·[3]?) a.ane;rw[a8,d]at this;exact aN this
 have f4:q4.1=jd 0:=by
  have:=congrArg (·[4]?) a.ane;rw[a8,i]at this;exact aN this
 obtain⟨g,c,Q,S,r3⟩:=iJ (f:=fun p:An×Value×Value=>anC p.1 p.2.1 p.2.2) (fun _=>rfl) a.ans rfl d;obtain⟨g',c',R,T,r4⟩:=iJ (f:=fun p:An×Value×Value=>anC p.1 p.2.1 p.2.2) (fun _=>rfl) a.ans rfl i;subst Q;cases R;have y3:I.cell? (ae g 21)=some (ag 540):=r3 3 _ (by rw[f3];rfl);have y4:I.cell? (ae g 24)=some (ag 0):=r4 0 _ (by rw[f4];rfl);rw[x,A];clear a D r3 r4 f3 f4 d i S T U A x h2 h3;dsimp only[dA];generalize us.length=n1;generalize ss.length=H;generalize List.length [[97]]=G;obtain⟨wZ,wC,hZ,nZ,hC,E,nC⟩:=nbs I #[af,af,af,af] #[.slice p1 n1 k1,.slice p2 G k2,.slice p3 H k3,.slice pa 1 ka] 29;have z3:=aj E y3;have z4:=aj E y4;have y5:wC.cell? (ae I.heap.size 3)=some (.slice pa 1 ka):=cr 3 nC rfl;have L:=aE (aw K.o b5);have M:=aE (aw L.o E);clear y3 y4 b5 E nC;go_wp2_with(refine az rfl 29 _ _ rfl _ _ rfl rfl _ _ nZ (by kernel_rfl) rfl (by simp[Value.oneCell']) ?_)
 go_ret;exact⟨rfl,M.o⟩
section
open Go.ChangeShapes Go.WideShapes Go.ChangeAt Go.WideMaps Go.WideElems Go.Joins
variable {H:Type} {enc:TypeId×Value->H} {W:World}
theorem PM:prog.cellsOf 37=1:=by kernel_rfl
theorem Qz:prog.cellsOf 34=1:=by kernel_rfl
theorem PN:prog.cellsOf 36=4:=by kernel_rfl
theorem LO (a:Nat)(b:List Value)(y:DataW H×List MemPlace)(h:DataW.trod enc prog W 0 (fun _=>true) true a 3 b=some y): ∃u:Int,b.length=1/\(fun k:Nat=>b[k]?) 0=some (ag u):=by
 obtain⟨x,e,_⟩:=DataW.trod_int underlying3 h;subst e;exact⟨x,rfl,rfl⟩
theorem zy {a:Nat}{f:List Value}{x:DataW H×List MemPlace}(h:DataW.trod enc prog W 0 (fun _=>true) true a 37 f=some x): ∃(sl:Value) (l:List Int),f=[sl]/\dM W sl l:=by
 obtain⟨p,len,cap,s,e,i,n,b⟩:=xQ (0:Int) (Q:=fun c u=>c 0=some (ag u)) ro cN9 (by decide) LO h;refine⟨_,s,e,p,cap,by rw[i],by rw[i];exact n,fun j u m=> ?_⟩;obtain⟨g,o,q,c,k,d,r⟩:=b j u m;exact⟨g,o,q,by simpa using d 0 _ r⟩
theorem GU (a:Nat)(b:List Value)(y:DataW H×List MemPlace)(h:DataW.trod enc prog W 0 (fun _=>true) true a 37 b=some y): ∃u:List Int×Value,b.length=1/\((fun k:Nat=>b[k]?) 0=some u.2/\dM W u.2 u.1):=by
 obtain⟨sl,l,rfl,c⟩:=zy h;exact⟨(l,sl),rfl,rfl,c⟩
theorem Ej {a:Nat}{i:List Value}{x:DataW H×List MemPlace}(h:DataW.trod enc prog W 0 (fun _=>true) true a 34 i=some x): ∃(sl:Value) (l:List (List Int)),i=[sl]/\fu W sl l:=by
 obtain⟨p,len,cap,m,e,k,q,b⟩:=xQ (([],af):List Int×Value) (Q:=fun c u=>c 0=some u.2/\dM W u.2 u.1) CN PM (by decide) GU h;refine⟨_,m.map (fun u=>u.1),e,p,cap,by rw[bc,k],by rw[bc,k];exact q,fun j l d=> ?_⟩;rw[a8]at d;cases hu:m[j]? with
 |none=>rw[hu]at d;cases d
 |some u=>
  rw[hu]at d;cases aN d;obtain⟨g,o,r,c,n,f,s,t⟩:=b j u hu;exact⟨g,o,u.2,r,by simpa using f 0 _ s,t⟩
end
section
open Go.ChangeShapes Go.WideShapes Go.ChangeAt Go.WideMaps Go.WideElems Go.Joins
variable {H:Type} {enc:TypeId×Value->H} {W:World}
theorem PO:prog.cellsOf 39=3:=by kernel_rfl
theorem Q7:prog.cellsOf 9=1:=by kernel_rfl
theorem PP:prog.cellsOf 41=13:=by kernel_rfl
theorem GV {b:Nat}{i:List Value}{x:DataW H×List MemPlace}(h:DataW.trod enc prog W 0 (fun _=>true) true b 37 i=some x): ∃(sl:Value) (l:List Int),i=[sl]/\dM W sl l/\ ∀p n k,sl= .slice p n k->n<=k:=by
 obtain⟨sl,l,e,r⟩:=zy h;refine⟨sl,l,e,r,fun p n k q=> ?_⟩;rw[e,q]at h;rcases DataW.trod_slice ro h with⟨c,_⟩|⟨a,j,g,d,o,m,_,c,_,_,f,s,_⟩
 ·cases c;exact aD _
 ·cases c;exact f
theorem GW {d:Nat}{f:List Value}{y:DataW H×List MemPlace}(h:DataW.trod enc prog W 0 (fun _=>true) true d 39 f=some y): ∃(a b:Int) (sl:Value) (l:List Int),f=[ag a,ag b,sl]/\dM W sl l/\ ∀p n k,sl= .slice p n k->n<=k:=by
 obtain⟨xs,m,_,_,s,u,c⟩:=DataW.trod_struct underlying39 h;rw[PO]at s;obtain⟨c0,c1,e,rfl⟩:=JT s;obtain⟨v,w,x,rfl⟩:=JT (show xs.length=3 from u);have o:DataW.trod enc prog W 0 (fun _=>true) true m 3 (([c0,c1,e].drop 0).take (prog.cellsOf 3))=some v:=c 0 _ rfl;have q:DataW.trod enc prog W 0 (fun _=>true) true m 3 (([c0,c1,e].drop 1).take (prog.cellsOf 3))=some w:=c 1 _ rfl;have r:DataW.trod enc prog W 0 (fun _=>true) true m 37 (([c0,c1,e].drop 2).take (prog.cellsOf 37))=some x:=c 2 _ rfl;rw[cN9]at o q;rw[PM]at r;obtain⟨a,g,_⟩:=DataW.trod_int underlying3 o;obtain⟨b,i,_⟩:=DataW.trod_int underlying3 q;obtain⟨sl,l,j,t⟩:=GV r;simp at g i j;subst g i j;exact⟨a,b,e,l,rfl,t⟩
theorem LP {f:Nat}{i:List Value}{y:DataW H×List MemPlace}(h:DataW.trod enc prog W 0 (fun _=>true) true f 36 i=some y): ∃(a b c:Int) (sl:Value) (l:List (List Int)),i=[ag a,ag b,ag c,sl]/\fu W sl l:=by
 obtain⟨xs,m,_,_,t,v,d⟩:=DataW.trod_struct underlying36 h;rw[PN]at t;obtain⟨c0,c1,g,e,rfl⟩:=Mg t;obtain⟨w,x,z,A,rfl⟩:=Mg (show xs.length=4 from v);have p:DataW.trod enc prog W 0 (fun _=>true) true m 3 (([c0,c1,g,e].drop 0).take (prog.cellsOf 3))=some w:=d 0 _ rfl;have q:DataW.trod enc prog W 0 (fun _=>true) true m 3 (([c0,c1,g,e].drop 1).take (prog.cellsOf 3))=some x:=d 1 _ rfl;have r:DataW.trod enc prog W 0 (fun _=>true) true m 3 (([c0,c1,g,e].drop 2).take (prog.cellsOf 3))=some z:=d 2 _ rfl;have s:DataW.trod enc prog W 0 (fun _=>true) true m 34 (([c0,c1,g,e].drop 3).take (prog.cellsOf 34))=some A:=d 3 _ rfl;rw[cN9]at p q r;rw[Qz]at s;obtain⟨a,j,_⟩:=DataW.trod_int underlying3 p;obtain⟨b,k,_⟩:=DataW.trod_int underlying3 q;obtain⟨c,n,_⟩:=DataW.trod_int underlying3 r;obtain⟨sl,l,o,u⟩:=Ej s;simp at j k n o;subst j k n o;exact⟨a,b,c,e,l,rfl,u⟩
theorem Bv {a:Nat}{b:List Value}{y:DataW H×List MemPlace}(h:DataW.trod enc prog W 0 (fun _=>true) true a 9 b=some y): ∃s:List UInt8,b=[jU s]/\s.length<=9223372036854775807:=by
 obtain⟨s,e,_,c⟩:=DataW.trod_string underlying9 h;refine⟨s.data.toList,by rw[e];rfl,?_⟩;unfold maxLen at c;have:s.data.toList.length=s.size:=df;omega
theorem LQ (p:Nat)(o:List Value)(y:DataW H×List MemPlace)(h:DataW.trod enc prog W 0 (fun _=>true) true p 41 o=some y): ∃u:Cm×Value×Value,o.length=13/\((∀k,(fun k:Nat=>o[k]?) k=(doC u.1 u.2.1 u.2.2).toList[k]?)/\lQ W u.1 u.2.1 u.2.2):=by
 obtain⟨xs,m,_,_,hl,hx,n⟩:=DataW.trod_struct underlying41 h;rw[PP]at hl
 obtain⟨D,E,F,G,I,J,K,M,rfl⟩: ∃D E F G I J K M,xs=[D,E,F,G,I,J,K,M]:=by
  match xs,(show xs.length=8 from hx) with
  |[a,b,c,d,e,f,g,h],_=>exact⟨a,b,c,d,e,f,g,h,rfl⟩
 obtain⟨c0,c1,q,r,s,t,v,w,x,z,A,B,C,rfl⟩: ∃c0 c1 q r s t v w x z A B C,o=[c0,c1,q,r,s,t,v,w,x,z,A,B,C]:=by
  match o,hl with
  |[a,b,c,d,e,f,g,h,i,j,k,l,m],_=>exact⟨a,b,c,d,e,f,g,h,i,j,k,l,m,rfl⟩
 generalize hL:[c0,c1,q,r,s,t,v,w,x,z,A,B,C]=L at n;have V:DataW.trod enc prog W 0 (fun _=>true) true m 3 ((L.drop 0).take (prog.cellsOf 3))=some D:=n 0 _ rfl;have X:DataW.trod enc prog W 0 (fun _=>true) true m 3 ((L.drop 1).take (prog.cellsOf 3))=some E:=n 1 _ rfl;have Y:DataW.trod enc prog W 0 (fun _=>true) true m 3 ((L.drop 2).take (prog.cellsOf 3))=some F:=n 2 _ rfl;have Z:DataW.trod enc prog W 0 (fun _=>true) true m 3 ((L.drop 3).take (prog.cellsOf 3))=some G:=n 3 _ rfl;have h4:DataW.trod enc prog W 0 (fun _=>true) true m 9 ((L.drop 4).take (prog.cellsOf 9))=some I:=n 4 _ rfl;have h5:DataW.trod enc prog W 0 (fun _=>true) true m 9 ((L.drop 5).take (prog.cellsOf 9))=some J:=n 5 _ rfl;have h6:DataW.trod enc prog W 0 (fun _=>true) true m 36 ((L.drop 6).take (prog.cellsOf 36))=some K:=n 6 _ rfl;have h7:DataW.trod enc prog W 0 (fun _=>true) true m 39 ((L.drop 10).take (prog.cellsOf 39))=some M:=n 7 _ rfl;rw[cN9]at V X Y Z;rw[Q7]at h4 h5;rw[PN]at h6;rw[PO]at h7;subst hL;obtain⟨z0,N,_⟩:=DataW.trod_int underlying3 V;obtain⟨z1,O,_⟩:=DataW.trod_int underlying3 X;obtain⟨z2,P,_⟩:=DataW.trod_int underlying3 Y;obtain⟨z3,Q,_⟩:=DataW.trod_int underlying3 Z;obtain⟨s4,R,l4⟩:=Bv h4;obtain⟨s5,S,l5⟩:=Bv h5;obtain⟨a6,b6,d6,r6,l6,T,q6⟩:=LP h6;obtain⟨a7,b7,w7,l7,U,q7,k7⟩:=GW h7;simp at N O P Q R S T U;refine⟨(⟨z0,z1,z2,z3,s4,s5,⟨a6,b6,d6,l6⟩,a7,b7,l7⟩,r6,w7),rfl,fun k=> ?_,q6,q7,l4,l5,k7⟩;simp only[N,O,P,Q,R,S,T,U];rfl
theorem LR {r:Reach}{b0:Nat}{v:Value}{d:DataW H}{q:List MemPlace}(B:Value.okWide prog W r b0 22 v)(h:DataW.Trod enc prog W 0 (fun _=>true) true 22 v d q): ∃m,lI W v m:=by
 obtain⟨l,k0,c0,rfl⟩:=okWide_slice underlying22 B;obtain⟨f,t⟩:=h;obtain⟨p,len,cap,E,e,i,z,a⟩:=xQ ((⟨0,0,0,0,[],[],sv0,0,0,[]⟩,af,af):Cm×Value×Value) (Q:=fun c u=>(∀k,c k=(doC u.1 u.2.1 u.2.2).toList[k]?)/\lQ W u.1 u.2.1 u.2.2) underlying22 PP (by decide) LQ t;have n:Value.slice l k0 c0= .slice p len cap:=by simpa[Value.cells] using e
 refine⟨E,p,cap,by rw[n,i],by rw[i];exact z,fun j u w=> ?_⟩;obtain⟨g,o,A,c,s,b,C,D⟩:=a j u w;exact⟨D,g,o,A,fun k x y=>b k x ((C k).trans y)⟩
theorem LS {c:World}{v:Value}{d:DataW H}{p:List MemPlace}(h:DataW.Trod enc prog W 0 (fun _=>true) true 22 v d p)(e:aq W c)(a: ∀x∈p,x.block<W.heap.size):DataW.Trod enc prog c 0 (fun b=>decide (b<W.heap.size)) true 22 v d p:=
 Below.trod (by kernel_rfl) (by kernel_rfl) (gj (by kernel_rfl)) h e a
end
section
abbrev DoF (cs:List (Cm×Value×Value)):List Value:=cs.flatMap fun q=>(doC q.1 q.2.1 q.2.2).toList
def DoB (B:Nat)(w:World)(cs:List (Cm×Value×Value)):Prop:= ∀q∈cs,Rob (fun k=>k<B) (fun u=>lQ u q.1 q.2.1 q.2.2) w
theorem DoB.below {B:Nat}{w w':World}{cs:List (Cm×Value×Value)}(h:DoB B w cs)(a:aq w w'):DoB B w' cs:=fun q b=>(h q b).below a
theorem Dy {w u:World}{v:Value}{d:List (List Int)}(h:fu w v d)(b: ∀q,q<w.heap.size->u.heap[q]? =w.heap[q]?):fu u v d:=by
 obtain⟨p,c,f,i,k⟩:=h;refine⟨p,c,f,i,fun j x l=> ?_⟩;obtain⟨g,o,sv,e,a,m⟩:=k j x l;exact⟨g,o,sv,e,(et (b g (cZ a))).trans a,sF m b⟩
theorem PQ {w:World}{v:Value}{cs:List (Cm×Value×Value)}(h:lI w v cs):DoB w.heap.size w cs:=fun q e u _ ha=>by
 obtain⟨_,_,_,_,b⟩:=h;obtain⟨j,d⟩:=List.getElem?_of_mem e;have c:=(b j q d).1;exact⟨Dy c.roles fun k a=>ha k a a,sF c.who fun k a=>ha k a a,c.text,c.name,c.cap⟩
theorem xR (w:World)(k:TypeId)(d p:Option Addr)(n cap c:Nat)(e:n<=cap):(Builtin.append_ #[22,22] k #[.slice d n cap,.slice p 0 c]).run prog w= .ok (.slice d n cap) w:=by
 obtain⟨l,hi,g,i,j⟩:=o7 (t:=41) (z:= .agg (doC ⟨0,0,0,0,[],[],sv0,0,0,[]⟩ (af) (af))) (a:=13) (b:=152) (by kernel_rfl);have f:prog.underlying 22=some (.slice 41):=by kernel_rfl
 cases d<;>cases p<;>simp[Builtin.append_,gu f,sizeOf,typeInfo,hi,e,Builtin.lenOf,Builtin.firstCells,storeCells,loadCells,loadCellsFrom]
theorem ws {g:Array Oper}{b:List Oper}{o:Oper}{a:Act}{w:World}{Q:Exit->Act->World->Prop}(d:o.guard=none)(s x:Operand)(r:o.op= .call {callee:= .builtin .append,args:= #[s,x],argTypes:= #[22,22]})
  {B:Nat} {v A:Value} {cs ds:List (Cm×Value×Value)} (t:a.eval s=v) (i:w.ownsRow B 41 13 v cs.length (DoF cs)) (y:a.eval x=A) (n:lI w A ds) (H:DoB B w (cs++ds)) (I:cs.length+ds.length<=100000) (G:B<=w.heap.size)
  (h: ∀j w',w'.ownsRow B 41 13 j (cs++ds).length (DoF (cs++ds))->w.grownBy w' v.ownBlock->wpList prog g Q b (a.put o.dst j) w'):wpList prog g Q (o::b) a w:=by
 by_cases m:ds=[]
 ·subst m;obtain⟨J,c1,C,l⟩:=zj i;obtain⟨p,c,D,_⟩:=n;subst C D;rw[gH]at h;exact Go.Lib.wpList_append_run w d s x _ _ r _ _ t y _ _ (xR w _ J p _ c1 c l) (h _ _ i ⟨rfl,rfl,rfl,aD _,fun _ _ _=>rfl⟩)
 ·have z: ∀q∈cs++ds,Rob (fun k=>some k≠v.ownBlock) (fun u=>lQ u q.1 q.2.1 q.2.2) w:=fun q f=>(H q f).move (aD _) (fun _ _ _=>rfl) fun k _ K e=>by have:=(i.lt k e.symm).1;omega
  exact uV d s x r t ⟨i,fun q f=>z q (ft _ f)⟩ y n (List.length_pos_iff.2 m) (fun q f=>z q (eV _ f)) I G fun j w' E _ F=>h j w' E.1 F
theorem Ek (W:World):(Instr.buildSlice 22 0 #[]).run prog W= .ok (.slice (some (ae W.heap.size 0)) 0 0) (W.alloc (.cells #[] 41)):=by kernel_rfl
section
variable {w0 W W':World} {i t v:Nat} {cs ds:List (Cm×Value×Value)} {M:Nat->Bool} {φ:Nat->Value} {l:List Cm} {B:Nat} {rv ev sv av asv:Value} {rn:Int} {ss:List (Sv×Value)} {aa:List (Ap×Value)} {ls:List (An×Value×Value)} {k s p:Nat} {u:Value}
theorem pD.one {p:List An×Dk}(h:pD B W p rv ev sv av asv ss aa ls):(#[rv,ev,sv,av]:Array Value).all (·.oneCell')=true:=by
 obtain⟨b,a,_⟩:=h.rules;obtain⟨_,_,rfl⟩:=a.form;obtain⟨_,_,rfl⟩:=cg h.res;obtain⟨_,_,rfl⟩:=cg h.svs;obtain⟨_,_,rfl⟩:=cg h.aps;simp[Value.oneCell']
variable {lv:Value} {o:Oper} {F:Act} {K:Act->World->Prop} {X:Exit->Act->World->Prop} {sO xO:Operand}
end
end
theorem Oc {w b:World}{c d:List (Cm×Value×Value)}(f:DoB w.heap.size w c)(g: ∀q∈d,DoB w.heap.size w [q])(e:aq w b):DoB b.heap.size b (c++d):=fun q a=>by
 have h:Rob (fun k=>k<w.heap.size) (fun u=>lQ u q.1 q.2.1 q.2.2) w:=(da.1 a).elim (f q) fun a=>g q a q (cQ.2 rfl);exact(h.below e).move (aD _) (fun _ _ _=>rfl) fun k _ i=>aU i e.size
theorem PR {w:World}{c:Cm}{b sl:Value}(h: ∀u,(∀k,k<w.heap.size->u.heap[k]? =w.heap[k]?)->lQ u c b sl):DoB w.heap.size w [(c,b,sl)]:=fun q d u _ ha=>by
 cases cQ.1 d;exact h u fun k a=>ha k a a
theorem fP.len {B:Nat->Prop}{d:Nat}{w:World}{sl:Value}{a:List Ex}(h:fP B d w sl a):a.length<9223372036854775808:=by
 cases d with
 |zero=>rw[h.1];decide
 |succ d=>
  rcases h with⟨h,_⟩|⟨_,_,_,_,_,b,_⟩
  ·rw[h];decide
  ·exact b
theorem Od (d:Nat): ∀(B Q:Nat->Prop) (d':Nat) (e:Ex) (O P:Option Addr) (s u:Nat) (w:World),fP B d w (.slice O e.kids.length s) e.kids->fP Q d' w (.slice P e.kids.length u) e.kids->Calls prog 53 #[.agg #[ag e.kind,ag e.a,ag e.b,.string ⟨e.name.toArray⟩,.slice O e.kids.length s],.agg #[ag e.kind,ag e.a,ag e.b,.string ⟨e.name.toArray⟩,.slice P e.kids.length u]] w fun r w'=>r= .returned (.bool true)/\aq w w':=by
 induction d using Nat.strongRecOn with
 |ind d ih=>
 intro B Q d' e O P s u w ha m;have A:=ha.len;obtain⟨n,N⟩:=au e.kids.length;rw[N]at ha m A⊢;obtain⟨wA,hA,bA,nA⟩:=nb w #[ag e.kind,ag e.a,ag e.b,.string ⟨e.name.toArray⟩,.slice O n s] 84;obtain⟨wB,hB,R,v⟩:=nb wA #[ag e.kind,ag e.a,ag e.b,.string ⟨e.name.toArray⟩,.slice P n u] 84;have f:=aw bA R;have i:=bt R nA;have x0:=cr 0 i rfl;have x1:=cr 1 i rfl;have x2:=cr 2 i rfl;have x3:=cr 3 i rfl;have x4:=cr 4 i rfl;have y0:=cr 0 v rfl;have y1:=cr 1 v rfl;have y2:=cr 2 v rfl;have y3:=cr 3 v rfl;have y4:=cr 4 v rfl;have HA:=aE (ha.kept fun g _ p=>f.block g p);have HB:=aE (m.kept fun g _ p=>f.block g p);have HW:=aE f;have HN:=aE N;have HI:=aE ih;have y: ∀z:Int,(z !=z)=false:=fun z=>by simp
 have h1:=y e.kind;have h2:=y e.a;have h3:=y e.b;have h4:(e.name !=e.name)=false:=by simp
 have h5:=y (n:Int);clear bA R nA v i f ih ha m N y;go_enter func53,ntmps53;go_wp2_with fail;clear x0 x1 x2 x3 y0 y1 y2 y3 h1 h2 h3 h4 h5;go_loopw [5,44] (fun _ t wr=> ∃j:Nat,t=ag (j:Int)/\j<=n/\aq wB wr) (fun _ t _=>n-(intOf t).toNat);case atStart=>exact⟨0,rfl,by omega,aH _ _⟩
 case round=>
  obtain⟨j,rfl,hj,c⟩:=hrel;have aa:(0:Int)<=(j:Int):=(by omega);by_cases ac:j<n
  ·have C:(j:Int)<(n:Int):=(by omega);have D: ∃x,e.kids[j]? =some x/\True:=⟨e.kids[j]'(by have:=HN.o;omega),ay _,trivial⟩
   obtain⟨x,D,_⟩:=D;obtain⟨d1,S,V,c1,p1,q1,e1,Y,E,G,H,I,J,r1⟩:=HA.o.at D;obtain⟨d2,T,X,c2,p2,q2,e2,Z,b0,b1,b2,b3,L,r2⟩:=HB.o.at D;injection Y with Y s0 s3;injection Z with Z s5 s4;clear s0 s5;subst Y Z s3 s4;have z2:wr.cell? (ae w.heap.size 4)=some (.slice (some (ae S V)) n s):=aj c x4;have z3:wr.cell? (ae wA.heap.size 4)=some (.slice (some (ae T X)) n u):=aj c y4;replace E:=aj c E;replace G:=aj c G;replace H:=aj c H;replace I:=aj c I;replace J:=aj c J;replace b0:=aj c b0;replace b1:=aj c b1;replace b2:=aj c b2;replace b3:=aj c b3;replace L:=aj c L;have cE:=fun(W:World) (hW:aq wr W)=>HI.o d1 (by omega) B Q d2 x p1 p2 q1 q2 W (r1.kept fun g _ p=>(aw c hW).block g p) (r2.kept fun g _ p=>(aw c hW).block g p);clear r1 r2 D e1 e2 x4 y4;go_upto_region 6 with fail;refine dl (fun _ _ W=>aq wr W) [kn 47 (ab w.heap.size 4),kn 48 (.slice (some (ae S V)) n s),kn 49 (ag (j:Int)),kn 50 (ab S (V+j*5)),kn 51 (.agg #[ag x.kind,ag x.a,ag x.b,.string ⟨x.name.toArray⟩,.slice p1 x.kids.length q1]),kn 52 (ab wA.heap.size 4),kn 53 (.slice (some (ae T X)) n u),kn 54 (ag (j:Int)),kn 55 (ab T (X+j*5)),kn 56 (.agg #[ag x.kind,ag x.a,ag x.b,.string ⟨x.name.toArray⟩,.slice p2 x.kids.length q2]),kn 57 (.bool true),kn 58 (.bool false)] (fun _=>(aH _ _).drew) (fun _ _ _ _ m h=>aw h m) (by kernel_rfl) ?_ ?_
   ·rintro M φ W m _ F l p hF;have k:=fun(q:Addr) (x:Value) (h:wr.cell? q=some x)=>aj m h;have E:=k _ _ E;have G:=k _ _ G;have H:=k _ _ H;have I:=k _ _ I;have J:=k _ _ J;have b0:=k _ _ b0;have b1:=k _ _ b1;have b2:=k _ _ b2;have b3:=k _ _ b3;have L:=k _ _ L;have z2:=k _ _ z2;have z3:=k _ _ z3;have cS:=cE W m;simp only[kn,dX,aQ,aT,Act.put,aA,aK,aJ]at p;subst p;simp only[dn,Nat.reduceAdd]at hF;dsimp only[kn,dy,eJ,dY,Act.put];and_intros;all_goals first|exact trivial|intro hw N hm K hK
    all_goals try (go_simp;with_reducible exact hK _ _ ⟨rfl,aH _ _⟩)
    ·go_simp;refine cS.mono ?_;rintro r' W' ⟨rfl,U⟩;exact hK _ _ ⟨rfl,U⟩
   ·rintro M φ W hM m;simp only[kn,d8,aQ,aT,Act.put,aA,aK,aJ];have f:=aw c m;clear m c z2 z3;go_wp2_with fail;go_roundw;case rel=>exact⟨j+1,by go_num,by omega,f⟩
    case measure=>simp[intOf];omega
  ·have C: ¬(j:Int)<(n:Int):=(by omega);have f:=aw HW.o c;go_wp2_with fail;go_ret;exact⟨rfl,f⟩
theorem JU (C i:List (Ru×Value))(va vb:Value)(w:World)(ha:InR w va C)(f:InR w vb i)(V:C.map (fun p=>p.1)=i.map (fun p=>p.1)):Calls prog 25 #[va,vb] w fun r w'=>r= .returned (.bool true)/\aq w w':=by
 obtain⟨pa,Y,rfl⟩:=ha.form;obtain⟨pb,Z,rfl⟩:=f.form;have N:=ha.len;have k:i.length=C.length:=by simpa using(congrArg List.length V).symm
 obtain⟨n,P⟩:=au C.length;have R:=aE ha;have S:=aE f;have X:=aE V;rw[k,P];rw[P]at N k;have HL:=aE k;have HN:=aE P;have h5:((n:Int) !=(n:Int))=false:=by simp
 clear ha f V k P;go_enter func25,ntmps25;go_wp2_with fail;clear h5;go_loopw [5,13] (fun _ t wr=> ∃j:Nat,t=ag (j:Int)/\j<=n/\aq w wr) (fun _ t _=>n-(intOf t).toNat);case atStart=>exact⟨0,rfl,by omega,aH _ _⟩
 case round=>
  obtain⟨j,rfl,hj,c⟩:=hrel;have aa:(0:Int)<=(j:Int):=(by omega);by_cases ac:j<n
  ·have O:(j:Int)<(n:Int):=(by omega);have y: ∃x,C[j]? =some x:=⟨C[j]'(by have:=HN.o;omega),ay _⟩
   have z: ∃x,i[j]? =some x:=⟨i[j]'(by have:=HL.o;omega),ay _⟩
   obtain⟨⟨u,v1⟩,y⟩:=y;obtain⟨⟨d,v2⟩,z⟩:=z
   have hu:d=u:=by
    have:=congrArg (fun l=>l[j]?) X.o;rw[a8,a8,y,z]at this;exact(aN this).symm
   subst hu;obtain⟨m,A,e1,D,E,G,H,I,J⟩:=R.o.cells j _ y;obtain⟨s,B,e2,b0,b1,b2,b3,L,b5⟩:=S.o.cells j _ z;obtain⟨_,_,d1,r1⟩:=R.o.all _ (aM y);obtain⟨_,_,d2,Q⟩:=S.o.all _ (aM z);obtain⟨p1,q1,g1⟩:=r1.form;obtain⟨p2,q2,g2⟩:=Q.form;dsimp only at D E G H I J b0 b1 b2 b3 L b5 g1 g2 r1 Q;subst g1 g2 e1 e2;replace D:=aj c D;replace E:=aj c E;replace G:=aj c G;replace H:=aj c H;replace I:=aj c I;replace J:=aj c J;replace b0:=aj c b0;replace b1:=aj c b1;replace b2:=aj c b2;replace b3:=aj c b3;replace L:=aj c L;replace b5:=aj c b5;have cE:=fun(W:World) (hW:aq wr W)=>Od d1 _ _ d2 d.2 p1 p2 q1 q2 W (r1.kept fun g _ v=>(aw c hW).block g v) (Q.kept fun g _ v=>(aw c hW).block g v);have h1:(d.1 !=d.1)=false:=(by simp);clear r1 Q y z;go_upto_region 6 with fail;refine dl (fun _ _ W=>aq wr W) [kn 16 (.slice (some (ae m A)) n Y),kn 17 (ag (j:Int)),kn 18 (ab m (A+j*6)),kn 19 (ab m (A+j*6)),kn 20 (.string ⟨d.1.toArray⟩),kn 21 (.slice (some (ae s B)) n Z),kn 22 (ag (j:Int)),kn 23 (ab s (B+j*6)),kn 24 (ab s (B+j*6)),kn 25 (.string ⟨d.1.toArray⟩),kn 26 (.bool false),kn 27 (.bool false),kn 28 (.slice (some (ae m A)) n Y),kn 29 (ag (j:Int)),kn 30 (ab m (A+j*6)),kn 31 (ab m (A+j*6+1)),kn 32 (.agg #[ag d.2.kind,ag d.2.a,ag d.2.b,.string ⟨d.2.name.toArray⟩,.slice p1 d.2.kids.length q1]),kn 33 (.slice (some (ae s B)) n Z),kn 34 (ag (j:Int)),kn 35 (ab s (B+j*6)),kn 36 (ab s (B+j*6+1)),kn 37 (.agg #[ag d.2.kind,ag d.2.a,ag d.2.b,.string ⟨d.2.name.toArray⟩,.slice p2 d.2.kids.length q2]),kn 38 (.bool true),kn 39 (.bool false),kn 40 (.bool false)] (fun _=>(aH _ _).drew) (fun _ _ _ _ f h=>aw h f) (by kernel_rfl) ?_ ?_
   ·rintro M φ W f _ F l v hF;have e:=fun(q:Addr) (x:Value) (h:wr.cell? q=some x)=>aj f h;have D:=e _ _ D;have E:=e _ _ E;have G:=e _ _ G;have H:=e _ _ H;have I:=e _ _ I;have J:=e _ _ J;have b0:=e _ _ b0;have b1:=e _ _ b1;have b2:=e _ _ b2;have b3:=e _ _ b3;have L:=e _ _ L;have b5:=e _ _ b5;have cS:=cE W f;simp only[kn,dX,aQ,aT,Act.put,aA,aK,aJ]at v;subst v;simp only[dn,Nat.reduceAdd]at hF;dsimp only[kn,dy,eJ,dY,Act.put];and_intros;all_goals first|exact trivial|intro hw P hm K hK
    all_goals try (go_simp;with_reducible exact hK _ _ ⟨rfl,aH _ _⟩)
    ·go_simp;refine cS.mono ?_;rintro r' W' ⟨rfl,T⟩;exact hK _ _ ⟨rfl,T⟩
   ·rintro M φ W hM f;simp only[kn,d8,aQ,aT,Act.put,aA,aK,aJ];have U:=aw c f;clear f c;go_wp2_with fail;go_roundw;case rel=>exact⟨j+1,by go_num,by omega,U⟩
    case measure=>simp[intOf];omega
  ·have O: ¬(j:Int)<(n:Int):=(by omega);clear R S X;go_wp2_with fail;go_ret;exact⟨rfl,c⟩
theorem JW (x y i j:Int)(p q:Value)(l f:List Int)(w:World)(ha:dM w p l)(u:dM w q f):Calls prog 16 #[.agg #[ag x,ag y,p],.agg #[ag i,ag j,q]] w fun e w'=>e= .returned (.bool (decide (x=i/\y=j/\l=f)))/\aq w w':=by
 obtain⟨B,D,t,v⟩:=nb w #[ag x,ag y,p] 39;obtain⟨C,E,s,n⟩:=nb B #[ag i,ag j,q] 39;have a:=aw t s;have c:=JV l f p q C (ha.below a) (u.below a);have d:=bt s v;have G:=cr 0 d rfl;have H:=cr 1 d rfl;have I:=cr 2 d rfl;have J:=cr 0 n rfl;have K:=cr 1 n rfl;have L:=cr 2 n rfl;have r:=aE a;obtain⟨_,_,rfl,_,_⟩:=ha;obtain⟨_,_,rfl,_,_⟩:=u;clear t s v n d a;by_cases k:x=i
 ·subst k;have z:(x==x)=true:=(by simp);by_cases m:y=j
  ·subst m;have A:(y==y)=true:=(by simp);rw[show decide (x=x/\y=y/\l=f)=decide (l=f) by simp];generalize decide (l=f)=b at*;go_enter func16,ntmps16;go_wp2_with fail;refine c.mono ?_;rintro e F ⟨rfl,g⟩;have a:=aw r.o g;clear c g;go_wp2_with fail;go_ret;exact⟨rfl,a⟩
  ·have A:(y==j)=false:=(by simpa using m);rw[bn (fun h=>m h.2.1)];clear c m;go_enter func16,ntmps16;go_wp2_with fail;go_ret;exact⟨rfl,r.o⟩
 ·have z:(x==i)=false:=by simpa using k
  rw[bn (fun h=>k h.1)];clear c k;go_enter func16,ntmps16;go_wp2_with fail;go_ret;exact⟨rfl,r.o⟩
end Go.Proofs.YtlkehieagdkgiaaGreatDoor
