/- Texts of the proof. -/
import Derived.Test.YtlkehieagdkgiaaGreatDoorPr35
import Derived.Test.YtlkehieagdkgiaaGreatDoorPr34
import Derived.Great.BuildSlice
set_option maxRecDepth 100000
set_option maxHeartbeats 8000000
namespace Go.Proofs.YtlkehieagdkgiaaGreatDoor
open Go.Proofs.Tryz Go.RowKit Lx Vx Mx Msk
section
section
variable {B gD:Nat} {d:Dk} {t:Tr}
theorem tF (n:Int)(F:Nat)(O:Array Value)(f:Ap->Dk->(Ap×Int)×Dk)(w:World)(h:dy B gD d t w)(eF: ∀L w,(callFunc F L).run prog w= .ok (.enter F L) w)
  (a0: ∀(a:Ap) (p:Option Addr) (c:Nat) (W:World),a∈d.aps->dy B gD d (t.add w.heap.size) W->aq w W->Rob (Fx gD (t.add w.heap.size)) (fun u=>dH u (.slice p a.who.length c) a.who) W->Calls prog F (#[.agg (apC (a,.slice p a.who.length c))]++O) W (vN B gD (f a d) (t.add w.heap.size) W))
  (a3: ∀a∈d.aps,(f a d).1.2=0->uP d (f a d).1.1) (bg: ∀a,Cor d (f a d).2):Calls prog 34 #[ab gD 0,ag n,.func (.func F) #[] O] w (ry B gD (iG d n f) t w):=by
 obtain⟨w1,Q,b1,n1⟩:=nb w #[ag 0,ag 0,ag 0,ag 0,af,af] 43;have s1:w1.heap.size=w.heap.size+1:=by rw[<-Q];simp
 have a1:=h.opened (aE _) s1 b1;have X:=aD a1;have Y:QR (Kd gD t t w w1):=Kd.of b1;have aO:=aD b1;have HG:QR (∀q,w.heap.size<=q->Gx gD t q):=fun q hq=>(h.fx (.inr hq)).1;have aQ:=aD a0;have aU:=aD a3;have aS:=aD bg;obtain⟨m,a2⟩:=a1;have aR:=aD a2;obtain⟨rv,cv,vv,kv,ss,aa,hm⟩:=a2;have aZ:aa.length=d.aps.length:=by rw[<-hm.ape,ba]
 obtain⟨pa,ca,ai⟩:=bK hm.aps;obtain⟨s,a8⟩:=au d.aps.length;rw[aZ,a8]at ai;have z3:w1.cell? (ae gD 3)=some (.slice pa s ca):=(cr (v:=t.av) 3 hm.blk rfl).trans (congrArg some ai);have A:QR (t.av= .slice pa s ca):=ai;have C:=aD a8;have b0:w.heap.size<w1.heap.size:=by omega
 have cN:=qB n (s:Int) w1;obtain⟨c1,ay⟩:=au (isN n (s:Int));rw[ay]at cN;have U:=aD ay;go_enter func34,ntmps34;go_wp2_with fail;refine cN.mono ?_;rintro e wa ⟨rfl,bu⟩;subst bu;cases c1 with
 |false=>
  have Z:QR (iG d n f=(noA 6,d)):=(by show _=_;unfold iG;rw[C.o,aB (.inl U.o)]);have cR:=ff 6 wa;go_wp2_with fail;refine cR.mono ?_;rintro e w9 ⟨rfl,E⟩;have T:=bt E n1;have D:=aD (fG (X.o.below E) (Y.o.trans (Kd.of E)) (by omega) (anC (noA 6) (af) (af)));have HR:=aD (aL _ _ _ (anC (noA 6) (af) (af)) _ _ T);go_wp2_with(refine az rfl 43 _ _ rfl _ _ rfl rfl _ _ T (by kernel_rfl) rfl (by simp[anC,noA,Value.oneCell']) ?_)
  refine aX (v:= .agg (anC (noA 6) (af) (af))) ?_ rfl ?_
  ·exact bf rfl _ _ w.heap.size _ _ _ _ rfl HR.o anT rfl (by kernel_rfl)
  ·rw[Z.o];exact⟨t,_,_,rfl,D.o.1,D.o.2,fi _ _,eB _ _⟩
 |true=>
  have hn:0<=n/\n<(s:Int):=(by have:=U.o;simpa[isN] using this);obtain⟨k,rfl⟩: ∃k:Nat,n=(k:Int):=⟨n.toNat,by omega⟩
  have bx:(0:Int)<=(k:Int):=(by omega);have bz:(k:Int)<(s:Int):=hn.2;have R:k<s:=(by omega);obtain⟨a,pw,cw,r,aW,ha,bs,_,aF,aG⟩:=DkM.ap aR.o (j:=k) (by rw[C.o];exact R);have e0:Value.slice pa s ca= .slice (some (ae r 0)) s aW:=(by rw[<-A.o,<-C.o];exact bs);injection e0 with e2 e3 e4;subst e2 e4;have zs:wa.cell? (ae r (k*11))=some (ag a.st):=aF 0 _ rfl;have a7:a∈d.aps:=aM ha;have bh:d.aps.getD k ap0=a:=(by simp[List.getD,ha]);have cB:=aQ.o a pw cw wa a7 X.o aO.o aG;unfold vN at cB;obtain⟨P,hP⟩:=au (f a d);rw[hP]at cB;obtain⟨st,aN⟩:=au a.st;rw[aN]at zs
  have am:QR (iG d (k:Int) f=if st=3 then(noA 6,d) else if P.1.2≠0 then(noA P.1.2,P.2) else(noA 0,{P.2 with aps:=P.2.aps.set k P.1.1})):=by
   show _=_;unfold iG;simp only[cY,bh,hP,aN,C.o,U.o];by_cases e:st=3
   ·simp[e]
   ·simp[e]
  have an:QR (Cor d P.2):=(by have:=aS.o a;rw[hP]at this;exact this);have ak:QR (P.1.2=0->uP d P.1.1):=(by have:=aU.o a a7;rw[hP]at this;exact this);by_cases h3:st=3
  ·have aY:(st==3)=true:=(by simpa using h3);have Z:QR (iG d (k:Int) f=(noA 6,d)):=am.o.trans (by rw[aB h3]);have cR:=ff 6 wa;go_wp2_with fail;refine cR.mono ?_;rintro e w9 ⟨rfl,E⟩;have T:=bt E n1;have D:=aD (fG (X.o.below E) (Y.o.trans (Kd.of E)) (by omega) (anC (noA 6) (af) (af)));have HR:=aD (aL _ _ _ (anC (noA 6) (af) (af)) _ _ T);go_wp2_with(refine az rfl 43 _ _ rfl _ _ rfl rfl _ _ T (by kernel_rfl) rfl (by simp[anC,noA,Value.oneCell']) ?_)
   refine aX (v:= .agg (anC (noA 6) (af) (af))) ?_ rfl ?_
   ·exact bf rfl _ _ w.heap.size _ _ _ _ rfl HR.o anT rfl (by kernel_rfl)
   ·rw[Z.o];exact⟨t,_,_,rfl,D.o.1,D.o.2,fi _ _,eB _ _⟩
  ·have aY:(st==3)=false:=(by simpa using h3);have V:=aD (am.o.trans (by rw[ax h3]));go_wp2_with(refine wpList_load_mid rfl 45 _ rfl r (k*11) rfl (apC (a,.slice pw a.who.length cw)).toList _ aF apT rfl (by kernel_rfl) ?_)
   refine cB.mono ?_;rintro e w5 ⟨b5,rfl,bd,z,H⟩;obtain⟨p5,c5,bq,_,_⟩:=H.here;subst bq;obtain⟨nx,bm⟩:=au P.1.1.who.length;rw[bm]at H⊢;obtain⟨N,I⟩:=au (apC (P.1.1,.slice p5 nx c5));have ad:N.all (·.oneCell')=true:=(by rw[<-I];exact gU _ _ _ _);have i:N.size=11:=(by rw[<-I];rfl);rw[I];obtain⟨wZ,w6,hZ,nZ,h6,b6,n6⟩:=nbs w5 #[ag 0,ag 0,ag 0,ag 0,ag 0,ag 0,ag 0,ag 0,ag 0,ag 0,af] N 45;have a4:Kd gD t t wa w5:=⟨z.os,z.tape,z.output,z.size,z.blk,fun _ _ h=>h,rfl⟩
   have l5:=(z.blk _ (HG.o w.heap.size (aE _)) (aI n1)).trans n1;have l6:=bt b6 l5;have ao:=aD (bd.below b6);have ar:=aD (Y.o.trans (a4.trans (Kd.of b6)));have aV:=aD (H.below b6);obtain⟨er,be⟩:=au P.1.2;rw[be]at V ak⊢;by_cases h0:er=0
   ·subst h0;have Z:QR (iG d (k:Int) f=(noA 0,{P.2 with aps:=P.2.aps.set k P.1.1})):=V.o.trans (by rw[ax (by simp)]);obtain⟨m,b3,bv,b7,b2,b4,ac,G⟩:=ao.o;have aw:P.2.aps=d.aps:=(by obtain⟨_,_,e⟩:=an.o;rw[e]);have a9:ac.length=s:=(by rw[<-C.o,<-aw,<-G.ape,ba]);have bj:k<ac.length:=(by omega);have S:w6.ownsRow B 45 11 (.slice (some (ae r 0)) s ca) s (apF ac):=(by have:=G.aps;rw[a9]at this;rw[<-A.o];exact this);have z3:w6.cell? (ae gD 3)=some (.slice (some (ae r 0)) s ca):=(cr (v:=t.av) 3 G.blk rfl).trans (congrArg some A.o);have bi:w.heap.size≠r:=fun e=>(G.nx w.heap.size bp).2.2.2.2.2 (by show _=t.av.ownBlock;rw[A.o,e];rfl);go_upto_region 6 with(refine az rfl 45 _ _ rfl _ _ rfl rfl _ _ nZ (by rw[i];kernel_rfl) (by rw[i];rfl) ad ?_;rw[h6])
    refine dh (fun M _ W=>(M 8=false->aq w6 W)/\(M 8=true-> ∃J,aq w6 J/\Below J.heap.size (J.setCells r (k*11) N.toList) W)) [kn 48 (ab gD 0),kn 49 (ab gD 0),kn 50 (ab gD 0),kn 51 (ab gD 3),kn 52 (.slice (some (ae r 0)) s ca),kn 53 (ag (k:Int)),kn 54 (.agg N),kn 55 (ab r (k*11)),nk] (fun _=>⟨fun _=>(aH _ _).drew,(fun h=>by cases h)⟩) (fun _ _ _ _ hb h=>⟨fun c=>(h.1 c).trans (hb.mono (h.1 c).size),fun c=> ?_⟩) (by kernel_rfl) ?_ ?_
    ·obtain⟨J,Q,h2⟩:=h.2 c;exact⟨J,Q,h2.trans (hb.mono (by have:=h2.size;rw[(eU _ _ _ _).2.2.2]at this;exact this))⟩
    ·rintro M φ W hJ hc F l hl hF;have HJ:=aD hJ;simp only[kn,nk,dV,aP,aT,Act.put,aA,aK,aJ]at hl;subst hl;simp only[di,Nat.reduceAdd]at hF;dsimp only[kn,nk,du,eG,dY,Act.put];and_intros;all_goals first|exact trivial|intro hw hn hm K hK
     all_goals try (go_simp;with_reducible exact hK _ _ ⟨rfl,aH _ _⟩)
     ·have hb:=HJ.o.1 (hn 8 _ rfl (by kernel_rfl));have y:=aj hb z3;go_simp;exact hK _ _ ⟨rfl,aH _ _⟩
     ·have nW:=bt (HJ.o.1 (hn 8 _ rfl (by kernel_rfl))) n6;show Oper.wp _ _ _ _ _ _;refine eI 45 _ rfl _ (by simp[Act.eval,hF]) _ _ _ _ nW apT rfl (by rw[i];kernel_rfl) ?_;exact hK _ _ ⟨rfl,aH _ _⟩
     ·have hb:=HJ.o.1 hm;have aC:=br S fun b hq=>hb.block b (S.lt b hq).2;have bo:W.there r (k*11) N.size:=(by rw[i];exact uK aC R rfl);show Oper.wp _ _ _ _ _ _;refine wp_store_mid 45 _ _ rfl r (k*11) N (by simp[Act.eval,hF]) (by simp[Act.eval,hF]) bo (by rw[i];kernel_rfl) ad ?_;exact hK undef _ ⟨trivial,fun c=>by simp at c,fun _=>⟨W,hb,aH _ _⟩⟩
    ·rintro M φ W hM hJ;obtain⟨J,Q,h2⟩:=hJ.2 (hM 8 (by decide) rfl);simp only[kn,nk,d7,aP,aT,Act.put,aA,aK,aJ];have bl:=G.below Q;obtain⟨a6,a5⟩:=bl.setAp (j:=k) (g:=r) bj (by show t.av.ownBlock=_;rw[A.o];rfl) (P.1.1,.slice p5 nx c5) (.inr (aV.o.below Q));rw[I]at a6 a5;have bn:=(eU r N.toList (k*11) J).2.2.2;have ah:=h2.mono (jx bn);have bb:uP d P.1.1:=ak.o trivial
     have bc:dy B gD {P.2 with aps:=P.2.aps.set k P.1.1} (t.add w.heap.size) W:=by
      refine dy.below ⟨⟨m.flt,m.vl,m.kl,m.rl,m.sl,by simpa using m.al,m.gv,m.nm,m.sv,fun x hx=> ?_⟩,_,_,_,_,_,_,a6⟩ ah;rcases List.mem_or_eq_of_mem_set hx with hx|rfl
      ·exact m.ap x hx
      ·obtain⟨_,_,e⟩:=an.o;rw[e];exact bb
     have bk:Kd gD t t w W:=ar.o.trans (Kd.off (q:=w.heap.size) (((Kd.of Q).trans a5).trans (Kd.of ah)));have lW:=bt ah ((fE r _ _ J _ bi).trans (bt Q l6));have D:=aD (fG bc bk (aE _) #[ag 0,ag 0,ag 0,ag 0,af,af]);have HR:=aD (aL _ _ _ #[ag 0,ag 0,ag 0,ag 0,af,af] _ _ lW);go_wp2_with(refine az rfl 43 _ _ rfl _ _ rfl rfl _ _ lW (by kernel_rfl) rfl (by simp[Value.oneCell']) ?_)
     refine aX (v:= .agg #[ag 0,ag 0,ag 0,ag 0,af,af]) ?_ rfl ?_
     ·exact bf rfl _ _ w.heap.size _ _ _ _ rfl HR.o anT rfl (by kernel_rfl)
     ·rw[Z.o];exact⟨_,_,_,rfl,D.o.1,D.o.2,fi _ _,eB _ _⟩
   ·have bw:(er !=0)=true:=(by simpa using h0);have Z:QR (iG d (k:Int) f=(noA er,P.2)):=V.o.trans (by rw[aB h0]);go_wp2_with(refine az rfl 45 _ _ rfl _ _ rfl rfl _ _ nZ (by rw[i];kernel_rfl) (by rw[i];rfl) ad ?_;rw[h6])
    have cR:=ff er w6;go_wp2_with fail;refine cR.mono ?_;rintro e w9 ⟨rfl,E⟩;have T:=bt E l6;have D:=aD (fG (ao.o.below E) (ar.o.trans (Kd.of E)) (by omega) (anC (noA er) (af) (af)));have HR:=aD (aL _ _ _ (anC (noA er) (af) (af)) _ _ T);go_wp2_with(refine az rfl 43 _ _ rfl _ _ rfl rfl _ _ T (by kernel_rfl) rfl (by simp[anC,noA,Value.oneCell']) ?_)
    refine aX (v:= .agg (anC (noA er) (af) (af))) ?_ rfl ?_
    ·exact bf rfl _ _ w.heap.size _ _ _ _ rfl HR.o anT rfl (by kernel_rfl)
    ·rw[Z.o];exact⟨t,_,_,rfl,D.o.1,D.o.2,fi _ _,eB _ _⟩
end
end
section
theorem JK {R:Ending->World->Prop}{a:Act}{w:World}(g:Nat)(c:Array Value)(er:Int)(j:c.size=11)(k:a.defers=[])(e:a.tmps.getD 4 undef=ab g 0)(f:a.tmps.getD 5 undef=ag er)
  (l:w.heap[g]? =ah c 45) (i:R (.returned (.tuple #[.agg c,ag er])) w):bodyPost prog f38 R .ret a w:=by
 refine aX (v:= .tuple #[.agg c,ag er]) ?_ k i;have n:f38.results= #[ResultVar.cell 4 45,ResultVar.tmp 5]:=rfl;have b:a.tmps[4]?.getD undef=ab g 0:=by simpa using e
 have d:a.tmps[5]?.getD undef=ag er:=by simpa using f
 have m:=ef (P:=prog) w g 45 45 _ _ _ l apT rfl (by rw[j];kernel_rfl);simp[results,b,d,asAddr,m]
section
variable {B gD:Nat} {d:Dk} {t:Tr}
theorem Bi (h:uE d){a:Ap}(ha:a∈d.aps)(s:Int):uP d (fp a s):=by
 obtain⟨b,c,f,e⟩:=h.ap a ha;exact⟨b,c,⟨ig _,by show(0:Int)<=10;omega⟩,e⟩
theorem LD {X y:Nat}(c:Cm)(a:Ap)(p J:Option Addr)(k x:Nat)(rv:Value)(w:World)(h:dy B gD d t w)(n1:w.heap[X]? =ah #[ab gD 0] 99)(n2:w.heap[y]? =ah (doC c rv (.slice J c.swho.length x)) 41)(ha:uP d a)(hw:Rob (Fx gD t) (fun u=>dH u (.slice J c.swho.length x) c.swho) w)(C:c.swho.length<=x):
  Calls prog 38 #[.agg (apC (a,.slice p a.who.length k)),ab X 0,ab y 0] w (vN B gD (fc d c.n a c.sday c.smin c.swho) t w):=by
 obtain⟨m,hA,z,nA⟩:=nb w (apC (a,.slice p a.who.length k)) 45;obtain⟨r,hB,Q,U⟩:=nb m #[ag 0,ag 0,ag 0,ag 0,ag 0,ag 0,ag 0,ag 0,ag 0,ag 0,af] 45;have sB:r.heap.size=m.heap.size+1:=by rw[<-hB];simp
 have b:=aw z Q;have E:=h.opened (q:=m.heap.size) z.size sB b;have m1:=bt b n1;have I:=bt b n2;have mA:=bt Q nA;have z1:=cr 0 m1 rfl;have y1:r.cell? (ae y 1)=some (ag c.n):=cr 1 I rfl;have ad:r.cell? (ae y 10)=some (ag c.sday):=cr 10 I rfl;have ai:r.cell? (ae y 11)=some (ag c.smin):=cr 11 I rfl;have V:r.cell? (ae y 12)=some (.slice J c.swho.length x):=cr 12 I rfl
 have G:Rob (Fx gD (t.add m.heap.size)) (fun u=>dH u (.slice J c.swho.length x) c.swho) r:=hw.move b.size (fun q _ Z=>b.block q Z) fun q Z l=>⟨l.1,fun H=>by
  rcases bz.1 H with e|H
  ·have:=z.size;omega
  ·exact l.2 H⟩
 have A:=zf c.n a p J k x c.sday c.smin c.swho r E ha.1 ha.2.2.2.1 G C;obtain⟨P,Y⟩:=au (fc d c.n a c.sday c.smin c.swho);rw[Y]at A⊢;unfold vN at A;have H0:=aD h;have N:QR (Kd gD t t w r):=Kd.of b;have aa:w.heap.size<m.heap.size:=by rw[<-hA];simp
 have M:QR (Gx gD t m.heap.size):=(h.fx (.inr z.size)).1;obtain⟨nw,F⟩:=au c.swho.length;rw[F]at A V;clear h z Q b sB E n1 n2 nA m1 I G Y hw F C;go_enter func38,ntmps38;go_wp2_with(refine aR rfl 45 _ rfl _ rfl _ _ _ _ mA apT rfl (by kernel_rfl) ?_)
 refine A.mono ?_;rintro e K ⟨ac,rfl,D,f,g⟩;obtain⟨p5,W,T,_,_⟩:=g.here;subst T;have n5:=(f.blk _ M.o (aI U)).trans U;obtain⟨nx,S⟩:=au P.1.1.who.length;rw[S]at g⊢;obtain⟨v,j⟩:=au (apC (P.1.1,.slice p5 nx W));have R:v.all (·.oneCell')=true:=by rw[<-j];exact gU _ _ _ _
 have i:v.size=11:=by rw[<-j];rfl
 rw[j];have s:Kd gD t t r K:=⟨f.os,f.tape,f.output,f.size,f.blk,fun _ _ h=>h,rfl⟩
 have O:=aD (fP (D.closed (w':=K.setRow m.heap.size v) (by simp) fun q _ l=>aW _ _ _ _ l) (fP ((N.o.trans s).closed (w':=K.setRow m.heap.size v) (q:=m.heap.size) (by omega) rfl rfl rfl (by simp) fun q _ l=>aW _ _ _ _ l) (g.move (w':=K.setRow m.heap.size v) (P':=Fx gD t) (by simp) (fun q l _=>aW _ _ _ _ fun e=>l.2 (by rw[e];exact bp)) fun q _ l=>⟨l.1,fun H=>l.2 (bJ _ H)⟩)));have HR:=aD (aL _ _ _ v _ _ n5);have L:=aD j;clear A D f s g j U;go_wp2_with(refine az rfl 45 _ _ rfl _ _ rfl rfl _ _ n5 (by rw[i];kernel_rfl) (by rw[i];rfl) R ?_)
 refine JK m.heap.size v P.1.2 i rfl rfl rfl HR.o ?_;exact⟨.slice p5 nx W,by rw[L.o],O.o.1,O.o.2.1,O.o.2.2⟩
theorem LF (c:Cm)(pr C:Option Addr)(E l:Nat)(w:World)(h:dy B gD d t w)(H:c.swho.length<=l)(L:Rob (fun q=>q<B) (fun u=>dH u (.slice C c.swho.length l) c.swho) w)(aa:5<=c.kind/\c.kind<=8):Calls prog 19 #[ab gD 0,.agg (doC c (.slice pr c.sv.roles.length E) (.slice C c.swho.length l))] w (ry B gD (doP d c) t w):=by
 obtain⟨w1,h1,b1,X⟩:=nb w #[ab gD 0] 99;obtain⟨D,h2,b2,Y⟩:=nb w1 (doC c (.slice pr c.sv.roles.length E) (.slice C c.swho.length l)) 41;obtain⟨M,h3,b3,T⟩:=nb D #[ag 0,ag 0,ag 0,ag 0,af,af] 43;have f:=aw b1 b2;have g:=aw f b3;have b:=h.opened (q:=D.heap.size) f.size (by rw[<-h3];simp) g;have S:=bt b3 Y;have R:=bt (aw b2 b3) X;have z1:=cr 0 R rfl;obtain⟨y0,y1,y2,y3,y4,y5,y6,y7,y8,y9,ac,ad,ae⟩:=C9 S;have HB:=aD g;have HQ:=aD f.size
 have Q:QR (Gx gD (t.add D.heap.size) D.heap.size):=by
  obtain⟨_,_,_,_,_,_,_,hm⟩:=b;exact(hm.nx _ bp).2.2
 have s:Rob (Fx gD (t.add D.heap.size)) (fun u=>dH u (.slice C c.swho.length l) c.swho) M:=L.move g.size (fun q _ J=>g.block q J) fun q J K=>⟨(h.fx (.inl K)).1,fun y=>by
  rcases bz.1 y with e|y
  ·have:=f.size;omega
  ·exact(h.fx (.inl K)).2 y⟩
 rcases(show c.kind=5\/c.kind=6\/c.kind=7\/c.kind=8 by omega) with A|A|A|A
 case' inl=>
  have i:=LC c.n c.sday c.smin c.swho C l M b s H;generalize F:lQ d c.n c.sday c.smin c.swho=P at i
 case' inr.inl=>
  have i:=tF c.n 35 #[] (fun a d=>((fp a 2,0),d)) M b (fun _ _=>rfl) (fun a p c W ha G z O=>(D6 a p c W).mono fun e w' j=>⟨_,j.1,G.below j.2,Kd.of j.2,O.below j.2⟩) (fun a ha _=>Bi b.1 ha 2) (fun a=>Cor.refl d);generalize F:iG d c.n (fun a d=>((fp a 2,0),d))=P at i
 case' inr.inr.inl=>
  have i:=tF c.n 37 #[] (fun a d=>((fp a 3,0),d)) M b (fun _ _=>rfl) (fun a p c W ha G z O=>(Gv a p c W).mono fun e w' j=>⟨_,j.1,G.below j.2,Kd.of j.2,O.below j.2⟩) (fun a ha _=>Bi b.1 ha 3) (fun a=>Cor.refl d);generalize F:iG d c.n (fun a d=>((fp a 3,0),d))=P at i
 case' inr.inr.inr=>
  have i:=tF c.n 38 #[ab w.heap.size 0,ab w1.heap.size 0] (fun a d=>fc d c.n a c.sday c.smin c.swho) M b (fun _ _=>rfl) (fun a p k W ha G z O=>LD c a p C k l _ W G (bt z R) (bt z S) (b.1.ap a ha) (s.move z.size (fun q _ J=>z.block q J) fun q J K=>⟨K.1,fun y=>by
   rcases bz.1 y with e|y
   ·omega
   ·exact K.2 y⟩) H) (fun a ha e=>Bh b.1 (b.1.ap a ha).1 (b.1.ap a ha).2.2.1 (b.1.ap a ha).2.2.2.1 e) (fun a=>mx d _ a _ _ _)
  generalize F:iG d c.n (fun a d=>fc d c.n a c.sday c.smin c.swho)=P at i
 all_goals
  have HP:QR (doP d c=P):=by
   show _=_;rw[<-F];unfold doP;repeat (first|rw[aB A]|rw[ax (by omega)])
  clear b1 b2 b3 f g b X Y F R S s
  try rw[A]at y0
  clear A
  go_enter func19,ntmps19
  go_wp2_with fail
  refine i.mono ?_
  rintro e w4 ⟨t',wv,lv,rfl,I,m,x,r⟩
  obtain⟨t0,o1,o2,o3,o4⟩:=JD HB.o HQ.o I m x r (anC P.1 wv lv)
  obtain⟨p5,U,rfl,_,_⟩:=x.here.1
  obtain⟨p6,V,rfl,_,_⟩:=r.here
  have Z:=(m.blk _ Q.o (aI T)).trans T
  have N:=aD (fP o1 (fP o2 (fP o3 o4)))
  have HR:=aD (aL _ _ _ (anC P.1 (.slice p5 P.1.who.length U) (.slice p6 P.1.list.length V)) _ _ Z)
  clear i I m x r o1 o2 o3 o4 T
  go_wp2_with(refine az rfl 43 _ _ rfl _ _ rfl rfl _ _ Z (by kernel_rfl) rfl (by simp[anC,Value.oneCell']) ?_)
  refine aX (v:= .agg (anC P.1 (.slice p5 P.1.who.length U) (.slice p6 P.1.list.length V))) ?_ rfl ?_
  ·exact bf rfl _ _ D.heap.size _ _ _ _ rfl HR.o anT rfl (by kernel_rfl)
  ·rw[HP.o]
   exact⟨t0,_,_,rfl,N.o.1,N.o.2.1,N.o.2.2.1,N.o.2.2.2⟩
theorem rD (c:Cm):GI c:=fun B gD d t w i j f g h l k m n b e=>by
 by_cases a:5<=c.kind/\c.kind<=8
 ·exact LF c i j f g w h (b.cap _ _ _ rfl) e a
 ·exact JF c a B gD d t w i j f g h l k m n b e
end
end
section
section
variable {w w':World}
theorem JL:dH w (af) []:=⟨none,0,rfl,by decide,fun j n h=>by simp at h⟩
theorem E7:fj w (af) []:=⟨none,0,rfl,by decide,fun j n h=>by simp at h⟩
theorem NV {g:Nat}{sv:Value}{l:List Int}{T:TypeId}(h:w.heap[g]? =ah #[sv] T)(b:dH w sv l):fj w (.slice (some (ae g 0)) 1 1) [l]:=by
 refine⟨some ⟨g,0,none⟩,1,rfl,by simp,fun j m a=> ?_⟩;match j,a with
 |0,a=>cases a;exact⟨g,0,sv,rfl,a8 _ _ _ _ _ _ h,b⟩
 |j+1,a=>simp at a
def tG (B:Nat)(w:World)(v:Value)(a:List (Cm×Value×Value)):Prop:=w.ownsRow B 41 13 v a.length (a.flatMap fun q=>(doC q.1 q.2.1 q.2.2).toList)/\ ∀q∈a,Rob (fun k=>some k≠v.ownBlock) (fun u=>mB u q.1 q.2.1 q.2.2) w
theorem vO {B:Nat}{v:Value}{a:List (Cm×Value×Value)}(h:w.ownsRow B 41 13 v a.length (a.flatMap fun q=>(doC q.1 q.2.1 q.2.2).toList))(i: ∀q∈a,mB w q.1 q.2.1 q.2.2)(l:a.length<9223372036854775808):jR w v a:=by
 obtain⟨p,k,d⟩:=bK h;refine⟨p,k,d,l,fun j q b=>⟨i q (aM b),?_⟩⟩;obtain⟨g,c,e,_,m⟩:=iD (f:=fun q:Cm×Value×Value=>doC q.1 q.2.1 q.2.2) (fun q=>rfl) h rfl b;rw[d]at e;cases e;exact⟨g,0,rfl,by rw[bV];exact m⟩
theorem tG.row {B:Nat}{v:Value}{a:List (Cm×Value×Value)}(h:tG B w v a)(b:a.length<9223372036854775808):jR w v a:=vO h.1 (fun q c=>(h.2 q c).here) b
theorem tG.below {B:Nat}{v:Value}{c:List (Cm×Value×Value)}(h:tG B w v c)(d:aq w w'):tG B w' v c:=
 ⟨br h.1 fun b a=>d.block b (h.1.lt b a).2,fun q a=>(h.2 q a).below d⟩
theorem NW {c:Cm}{a b:Value}(h:mB w c a b):(doC c a b).all (·.oneCell')=true:=by
 obtain⟨_,_,rfl,_⟩:=h.roles;obtain⟨_,_,rfl,_⟩:=h.who;exact EW ..
theorem Ae: ∀a:List (Cm×Value×Value),(a.flatMap fun q=>(doC q.1 q.2.1 q.2.2).toList).length=a.length*13
 |[]=>rfl
 |c::a=>by
  rw[List.flatMap_cons,aQ,Ae a,bU];show 13+_=_;omega
theorem Pq {a:List (Cm×Value×Value)}{g o:Nat}(h: ∀(j:Nat) (q:Cm×Value×Value),a[j]? =some q->w.rangeAt g (o+j*13) (doC q.1 q.2.1 q.2.2).toList):w.rangeAt g o (a.flatMap fun q=>(doC q.1 q.2.1 q.2.2).toList):=by
 intro k u c
 have d:k<a.length*13:=by
  have:=(aF.1 c).1;rwa[Ae]at this
 obtain⟨q,b⟩: ∃q,a[k/13]? =some q:=⟨_,ay (by omega)⟩
 have e:=o6 (f:=fun q:Cm×Value×Value=>doC q.1 q.2.1 q.2.2) (m:=13) (fun q=>rfl) b (k%13) (Nat.mod_lt _ (by decide));rw[show k/13*13+k%13=k by omega,c]at e;have:=h _ q b (k%13) u (by rw[bq];exact e.symm);rwa[show o+k/13*13+k%13=o+k by omega]at this
theorem uQ {n:Array Oper}{d:List Oper}{o:Oper}{a:Act}{Q:Exit->Act->World->Prop}(E:o.guard=none)(s x:Operand)(X:o.op= .call {callee:= .builtin .append,args:= #[s,x],argTypes:= #[22,22]})
  {B:Nat} {v P:Value} {r c:List (Cm×Value×Value)} (Z:a.eval s=v) (D:tG B w v r) (hx:a.eval x=P) (U:jR w P c) (R:0<c.length) (M: ∀q∈c,Rob (fun k=>some k≠v.ownBlock) (fun u=>mB u q.1 q.2.1 q.2.2) w) (W:r.length+c.length<=100000) (L:B<=w.heap.size)
  (h: ∀C w',tG B w' C (r++c)->Below B w w'->w.grownBy w' v.ownBlock->wpList prog n Q d (a.put o.dst C) w'):wpList prog n Q (o::d) a w:=by
 obtain⟨i,hi,I,J,K⟩:=oW (t:=41) (z:= .agg (doC ⟨0,0,0,0,[],[],sv0,0,0,[]⟩ (af) (af))) (a:=13) (b:=152) (by kernel_rfl);obtain⟨p,k,rfl,_,N⟩:=U;obtain⟨q0,G⟩: ∃q,c[0]? =some q:=⟨_,ay R⟩
 obtain⟨_,g,A,rfl,_⟩:=N 0 q0 G
 have T:w.rangeAt g A (c.flatMap fun q=>(doC q.1 q.2.1 q.2.2).toList):=Pq fun j q V=>by
  obtain⟨_,g',o',e,Y⟩:=N j q V;cases e;exact Y
 refine wpList_append_own_at w E s x 22 X B 41 i _ 13 152 (by kernel_rfl) hi I J K rfl (by decide) v r.length _ Z D.1 ⟨g,A,none⟩ c.length k (c.flatMap fun q=>(doC q.1 q.2.1 q.2.2).toList) hx ?_ (fun j u m=> ?_) (fun u m=> ?_) (by unfold maxLen;omega) (bg (Nat.mul_le_mul_right _ W) (by decide)) L fun C w' S y _ f=> ?_
 ·exact Ae c
 ·rw[show(⟨g,A,none⟩:Addr).add j=⟨g,A+j,none⟩ by simp[Addr.add]];exact T j u m
 ·obtain⟨q,F,m⟩:=List.mem_flatMap.1 m;exact Array.all_eq_true'.1 (NW (M q F).here) u (Array.mem_toList_iff.1 m)
 ·refine h C w' ⟨?_,fun q F=> ?_⟩ (gK (aH _ _) y L fun k l=>(D.1.lt k l).1) y
  ·rw[aQ,fC];exact S
  ·have H:Rob (fun k=>some k≠v.ownBlock) (fun u=>mB u q.1 q.2.1 q.2.2) w:=(cg.1 F).elim (D.2 q) (M q);refine H.move y.size (fun k l O=>y.block k O l) fun k O l=> ?_;rcases f with f|f
   ·rw[f];exact l
   ·rw[f];intro e;cases e;omega
theorem uR {B g n m:Nat}{a:Array Value}{T:TypeId}(h:w.heap[g]? =ah a T)(c:B<=g)(b:a.size=n*m)(d:n<=maxLen):w.ownsRow B T m (.slice (some (ae g 0)) n n) n a.toList:=
 ⟨by rw[cZ];exact b,.inr ⟨g,n,a,rfl,c,h,aE _,d,b,by rw[dg (by rw[cZ,b];exact aE _)]⟩⟩
theorem Dj (c:Cm)(a:c.sv.roles=[])(b:c.swho=[])(d:c.text.length<=9223372036854775807)(f:c.name.length<=9223372036854775807):mB w c (af) (af):=
 ⟨by rw[a];exact E7,by rw[b];exact JL,d,f,fun p n k e=>by cases e;exact aE _⟩
end
def sC (a:Value):List (Cm×Value×Value):=[(⟨1,0,0,0,aS,[],sv0,0,0,[]⟩,af,af),(⟨2,0,0,0,[],[97],sv0,0,0,[]⟩,af,af),(⟨3,0,0,0,[],[],lm,0,0,[]⟩,a,af)]
theorem JM (w:World):Calls prog 18 #[] w fun e w'=> ∃v b,e= .returned v/\aq w w'/\tG w.heap.size w' v (sC b):=by
 obtain⟨x,D,b1,s⟩:=nb w #[ag 0] 3;obtain⟨l,E,b2,t⟩:=nb x #[.slice (some (ae w.heap.size 0)) 1 1] 37;have c:=aD b1;have a:=aD b2;have m:=aD s;have d:=aD t;clear b1 b2 s t;go_enter func18,ntmps18;go_wp2_with fail;go_ret;obtain⟨b,j⟩:=au (.slice (some (ae x.heap.size 0)) 1 1:Value)
 suffices H: ∀W,l.alloc (.cells ((sC b).flatMap fun q=>(doC q.1 q.2.1 q.2.2).toList).toArray 41)=W->aq w W/\tG w.heap.size W (.slice (some (ae l.heap.size 0)) 3 3) (sC b) by
  rw[j];exact⟨_,b,rfl,H _ rfl⟩
 intro G A;obtain⟨C,f,b3,B⟩:=nb l ((sC b).flatMap fun q=>(doC q.1 q.2.1 q.2.2).toList).toArray 41;rw[A]at f;subst f;have z:=aw c.o a.o;refine⟨aw z b3,uR (n:=3) B (bg c.o.size a.o.size) rfl (by decide),fun q i u F ha=> ?_⟩;have g: ∀k,k<l.heap.size->u.heap[k]? =l.heap[k]? :=fun k r=>(ha k (fun e=>Nat.ne_of_lt r (aN e)) (aU r b3.size)).trans (b3.block k r);subst j;rcases bz.1 i with rfl|i
 ·exact Dj _ rfl rfl (by decide) (by decide)
 rcases bz.1 i with rfl|i
 ·exact Dj _ rfl rfl (by decide) (by decide)
 cases da.1 i;have y:=bt a.o m.o;exact⟨NV ((g _ (aI d.o)).trans d.o) (C0 ((g _ (aI y)).trans y)),JL,dz _,dz _,fun p n k e=>by cases e;exact aE _⟩
end
def eC (g:Nat):List (Cm×Value×Value):=[(⟨4,0,7,2,[],[],sv0,0,0,[]⟩,af,af),(⟨5,0,0,0,[],[],sv0,7,540,[0]⟩,af,.slice (some (ae g 0)) 1 1)]
theorem wf (w:World)(hT:Tbs w.heap.size w):Calls prog 8 #[] w fun e w'=>e= .returned (.bool true)/\aq w w':=by
 have c1:=JM w;have HT:=aD hT;clear hT;go_enter func8,ntmps8;go_wp2_with fail;refine c1.mono ?_;rintro e l ⟨v,rv,rfl,b1,F⟩;have J:=aD b1;have X:=aD F;clear b1 c1;obtain⟨p,k,Q⟩:=bK F.1;subst Q;dsimp only[sC,List.length]at F⊢;clear F;obtain⟨w2,h2,b2,G⟩:=nb l #[ag 0] 3;obtain⟨w3,h3,b3,H⟩:=nb w2 #[ag 4,ag 0,ag 7,ag 2,.string ⟨#[]⟩,.string ⟨#[]⟩,ag 0,ag 0,ag 0,af,ag 0,ag 0,af,ag 5,ag 0,ag 0,ag 0,.string ⟨#[]⟩,.string ⟨#[]⟩,ag 0,ag 0,ag 0,af,ag 7,ag 540,.slice (some (ae l.heap.size 0)) 1 1] 41;have s:=(X.o.below b2).below b3;have z:=aw b2 b3
 have O: ∀q∈eC l.heap.size,Rob (fun j=>some j≠(Value.slice p 3 k).ownBlock) (fun u=>mB u q.1 q.2.1 q.2.2) w3:=fun q C u hu ha=>by
  rcases bz.1 C with rfl|C
  ·exact Dj _ rfl rfl (dz _) (dz _)
  cases da.1 C;have y:=bt b3 G;exact⟨E7,C0 ((ha _ (fun e=>Nat.lt_irrefl _ (X.o.1.lt _ e.symm).2) (aI y)).trans y),dz _,dz _,fun p n k e=>by cases e;exact aE _⟩
 have hX:jR w3 (.slice (some (ae w2.heap.size 0)) 2 2) (eC l.heap.size):=vO (B:=0) (uR (n:=2) H (dz _) rfl (by decide)) (fun q C=>(O q C).here) (by decide:2<9223372036854775808);have m:=aD (aw J.o z);have r:=aD s;have Y:=aD O;have Z:=aD hX;clear s O hX b2 b3 G H z;go_wp2_with(refine uQ rfl _ _ rfl rfl r.o rfl Z.o (show 0<2 by decide) Y.o (show 5<=100000 by decide) m.o.size ?_;intro v' w4 t b4 _)
 have b:=m.o.trans b4;have K:=aD b;have N:=rA (sC rv++eC l.heap.size) v' w4 (t.row (show 5<9223372036854775808 by decide)) (fun W hW=>HT.o W (aw b hW)) (fun q _=>rD q.1);rw[show(sC rv++eC l.heap.size).map (fun q=>q.1)=aC from rfl]at N;clear b b4 t Z Y r;refine N.mono ?_;clear N;rintro e I ⟨b5,h5⟩;rcases h5 with⟨P,_⟩|⟨P,ac,ev,sv,av,ab,ss,aa,V,rfl,a⟩
 ·exact absurd P (by decide)
 clear P;replace a:=a.here;rw[Pp]at a⊢
 have A:V.length=5:=by
  have:=congrArg List.length a.ane;rw[ba]at this;exact this
 have x:aa.length=1:=by
  have:=congrArg List.length a.ape;rw[ba]at this;exact this
 obtain⟨us,D,U⟩:=a.rules;obtain⟨p1,k1,rfl⟩:=D.form;obtain⟨p2,k2,rfl⟩:=bK a.res;obtain⟨p3,k3,rfl⟩:=bK a.svs;obtain⟨pa,ka,rfl⟩:=bK a.aps;obtain⟨q3,d⟩: ∃q,V[3]? =some q:=⟨_,ay (by omega)⟩
 obtain⟨q4,i⟩: ∃q,V[4]? =some q:=⟨_,ay (by omega)⟩
 have f3:q3.1=⟨0,0,7,540,[0],[]⟩:=by
  have:=congrArg (·[3]?) a.ane;rw[aZ,d]at this;exact aN this
 have f4:q4.1=iZ 0:=by
  have:=congrArg (·[4]?) a.ane;rw[aZ,i]at this;exact aN this
 obtain⟨g,c,Q,S,r3⟩:=iD (f:=fun p:An×Value×Value=>anC p.1 p.2.1 p.2.2) (fun _=>rfl) a.ans rfl d;obtain⟨g',c',R,T,r4⟩:=iD (f:=fun p:An×Value×Value=>anC p.1 p.2.1 p.2.2) (fun _=>rfl) a.ans rfl i;subst Q;cases R;have y3:I.cell? (ae g 21)=some (ag 540):=r3 3 _ (by rw[f3];rfl);have y4:I.cell? (ae g 24)=some (ag 0):=r4 0 _ (by rw[f4];rfl);rw[x,A];clear a D r3 r4 f3 f4 d i S T U A x h2 h3;dsimp only[dA];generalize us.length=n1;generalize ss.length=H;generalize List.length [[97]]=G;obtain⟨wZ,wC,hZ,nZ,hC,E,nC⟩:=nbs I #[af,af,af,af] #[.slice p1 n1 k1,.slice p2 G k2,.slice p3 H k3,.slice pa 1 ka] 29;have z3:=aj E y3;have z4:=aj E y4;have y5:wC.cell? (ae I.heap.size 3)=some (.slice pa 1 ka):=cr 3 nC rfl;have L:=aD (aw K.o b5);have M:=aD (aw L.o E);clear y3 y4 b5 E nC;go_wp2_with(refine az rfl 29 _ _ rfl _ _ rfl rfl _ _ nZ (by kernel_rfl) rfl (by simp[Value.oneCell']) ?_)
 go_ret;exact⟨rfl,M.o⟩
section
open Go.ChangeShapes Go.WideShapes Go.ChangeAt Go.WideMaps Go.WideElems Go.Joins
variable {H:Type} {enc:TypeId×Value->H} {W:World}
theorem Ps:prog.cellsOf 37=1:=by kernel_rfl
theorem Qg:prog.cellsOf 34=1:=by kernel_rfl
theorem Pu:prog.cellsOf 36=4:=by kernel_rfl
theorem LG (a:Nat)(b:List Value)(y:DataW H×List MemPlace)(h:DataW.trod enc prog W 0 (fun _=>true) true a 3 b=some y): ∃u:Int,b.length=1/\(fun k:Nat=>b[k]?) 0=some (ag u):=by
 obtain⟨x,e,_⟩:=DataW.trod_int underlying3 h;subst e;exact⟨x,rfl,rfl⟩
theorem zg {a:Nat}{f:List Value}{x:DataW H×List MemPlace}(h:DataW.trod enc prog W 0 (fun _=>true) true a 37 f=some x): ∃(sl:Value) (l:List Int),f=[sl]/\dH W sl l:=by
 obtain⟨p,len,cap,s,e,i,n,b⟩:=xF (0:Int) (Q:=fun c u=>c 0=some (ag u)) qY cN9 (by decide) LG h;refine⟨_,s,e,p,cap,by rw[i],by rw[i];exact n,fun j u m=> ?_⟩;obtain⟨g,o,q,c,k,d,r⟩:=b j u m;exact⟨g,o,q,by simpa using d 0 _ r⟩
theorem GP (a:Nat)(b:List Value)(y:DataW H×List MemPlace)(h:DataW.trod enc prog W 0 (fun _=>true) true a 37 b=some y): ∃u:List Int×Value,b.length=1/\((fun k:Nat=>b[k]?) 0=some u.2/\dH W u.2 u.1):=by
 obtain⟨sl,l,rfl,c⟩:=zg h;exact⟨(l,sl),rfl,rfl,c⟩
theorem Ec {a:Nat}{i:List Value}{x:DataW H×List MemPlace}(h:DataW.trod enc prog W 0 (fun _=>true) true a 34 i=some x): ∃(sl:Value) (l:List (List Int)),i=[sl]/\fj W sl l:=by
 obtain⟨p,len,cap,m,e,k,q,b⟩:=xF (([],af):List Int×Value) (Q:=fun c u=>c 0=some u.2/\dH W u.2 u.1) CG Ps (by decide) GP h;refine⟨_,m.map (fun u=>u.1),e,p,cap,by rw[ba,k],by rw[ba,k];exact q,fun j l d=> ?_⟩;rw[aZ]at d;cases hu:m[j]? with
 |none=>rw[hu]at d;cases d
 |some u=>
  rw[hu]at d;cases aN d;obtain⟨g,o,r,c,n,f,s,t⟩:=b j u hu;exact⟨g,o,u.2,r,by simpa using f 0 _ s,t⟩
end
section
open Go.ChangeShapes Go.WideShapes Go.ChangeAt Go.WideMaps Go.WideElems Go.Joins
variable {H:Type} {enc:TypeId×Value->H} {W:World}
theorem Pv:prog.cellsOf 39=3:=by kernel_rfl
theorem QM:prog.cellsOf 9=1:=by kernel_rfl
theorem Pw:prog.cellsOf 41=13:=by kernel_rfl
theorem GQ {b:Nat}{i:List Value}{x:DataW H×List MemPlace}(h:DataW.trod enc prog W 0 (fun _=>true) true b 37 i=some x): ∃(sl:Value) (l:List Int),i=[sl]/\dH W sl l/\ ∀p n k,sl= .slice p n k->n<=k:=by
 obtain⟨sl,l,e,r⟩:=zg h;refine⟨sl,l,e,r,fun p n k q=> ?_⟩;rw[e,q]at h;rcases DataW.trod_slice qY h with⟨c,_⟩|⟨a,j,g,d,o,m,_,c,_,_,f,s,_⟩
 ·cases c;exact aE _
 ·cases c;exact f
theorem GR {d:Nat}{f:List Value}{y:DataW H×List MemPlace}(h:DataW.trod enc prog W 0 (fun _=>true) true d 39 f=some y): ∃(a b:Int) (sl:Value) (l:List Int),f=[ag a,ag b,sl]/\dH W sl l/\ ∀p n k,sl= .slice p n k->n<=k:=by
 obtain⟨xs,m,_,_,s,u,c⟩:=DataW.trod_struct underlying39 h;rw[Pv]at s;obtain⟨c0,c1,e,rfl⟩:=JN s;obtain⟨v,w,x,rfl⟩:=JN (show xs.length=3 from u);have o:DataW.trod enc prog W 0 (fun _=>true) true m 3 (([c0,c1,e].drop 0).take (prog.cellsOf 3))=some v:=c 0 _ rfl;have q:DataW.trod enc prog W 0 (fun _=>true) true m 3 (([c0,c1,e].drop 1).take (prog.cellsOf 3))=some w:=c 1 _ rfl;have r:DataW.trod enc prog W 0 (fun _=>true) true m 37 (([c0,c1,e].drop 2).take (prog.cellsOf 37))=some x:=c 2 _ rfl;rw[cN9]at o q;rw[Ps]at r;obtain⟨a,g,_⟩:=DataW.trod_int underlying3 o;obtain⟨b,i,_⟩:=DataW.trod_int underlying3 q;obtain⟨sl,l,j,t⟩:=GQ r;simp at g i j;subst g i j;exact⟨a,b,e,l,rfl,t⟩
theorem LH {f:Nat}{i:List Value}{y:DataW H×List MemPlace}(h:DataW.trod enc prog W 0 (fun _=>true) true f 36 i=some y): ∃(a b c:Int) (sl:Value) (l:List (List Int)),i=[ag a,ag b,ag c,sl]/\fj W sl l:=by
 obtain⟨xs,m,_,_,t,v,d⟩:=DataW.trod_struct underlying36 h;rw[Pu]at t;obtain⟨c0,c1,g,e,rfl⟩:=L3 t;obtain⟨w,x,z,A,rfl⟩:=L3 (show xs.length=4 from v);have p:DataW.trod enc prog W 0 (fun _=>true) true m 3 (([c0,c1,g,e].drop 0).take (prog.cellsOf 3))=some w:=d 0 _ rfl;have q:DataW.trod enc prog W 0 (fun _=>true) true m 3 (([c0,c1,g,e].drop 1).take (prog.cellsOf 3))=some x:=d 1 _ rfl;have r:DataW.trod enc prog W 0 (fun _=>true) true m 3 (([c0,c1,g,e].drop 2).take (prog.cellsOf 3))=some z:=d 2 _ rfl;have s:DataW.trod enc prog W 0 (fun _=>true) true m 34 (([c0,c1,g,e].drop 3).take (prog.cellsOf 34))=some A:=d 3 _ rfl;rw[cN9]at p q r;rw[Qg]at s;obtain⟨a,j,_⟩:=DataW.trod_int underlying3 p;obtain⟨b,k,_⟩:=DataW.trod_int underlying3 q;obtain⟨c,n,_⟩:=DataW.trod_int underlying3 r;obtain⟨sl,l,o,u⟩:=Ec s;simp at j k n o;subst j k n o;exact⟨a,b,c,e,l,rfl,u⟩
theorem Bj {a:Nat}{b:List Value}{y:DataW H×List MemPlace}(h:DataW.trod enc prog W 0 (fun _=>true) true a 9 b=some y): ∃s:List UInt8,b=[jB s]/\s.length<=9223372036854775807:=by
 obtain⟨s,e,_,c⟩:=DataW.trod_string underlying9 h;refine⟨s.data.toList,by rw[e];rfl,?_⟩;unfold maxLen at c;have:s.data.toList.length=s.size:=cZ;omega
theorem LI (p:Nat)(o:List Value)(y:DataW H×List MemPlace)(h:DataW.trod enc prog W 0 (fun _=>true) true p 41 o=some y): ∃u:Cm×Value×Value,o.length=13/\((∀k,(fun k:Nat=>o[k]?) k=(doC u.1 u.2.1 u.2.2).toList[k]?)/\mB W u.1 u.2.1 u.2.2):=by
 obtain⟨xs,m,_,_,hl,hx,n⟩:=DataW.trod_struct underlying41 h;rw[Pw]at hl
 obtain⟨D,E,F,G,I,J,K,M,rfl⟩: ∃D E F G I J K M,xs=[D,E,F,G,I,J,K,M]:=by
  match xs,(show xs.length=8 from hx) with
  |[a,b,c,d,e,f,g,h],_=>exact⟨a,b,c,d,e,f,g,h,rfl⟩
 obtain⟨c0,c1,q,r,s,t,v,w,x,z,A,B,C,rfl⟩: ∃c0 c1 q r s t v w x z A B C,o=[c0,c1,q,r,s,t,v,w,x,z,A,B,C]:=by
  match o,hl with
  |[a,b,c,d,e,f,g,h,i,j,k,l,m],_=>exact⟨a,b,c,d,e,f,g,h,i,j,k,l,m,rfl⟩
 generalize hL:[c0,c1,q,r,s,t,v,w,x,z,A,B,C]=L at n;have V:DataW.trod enc prog W 0 (fun _=>true) true m 3 ((L.drop 0).take (prog.cellsOf 3))=some D:=n 0 _ rfl;have X:DataW.trod enc prog W 0 (fun _=>true) true m 3 ((L.drop 1).take (prog.cellsOf 3))=some E:=n 1 _ rfl;have Y:DataW.trod enc prog W 0 (fun _=>true) true m 3 ((L.drop 2).take (prog.cellsOf 3))=some F:=n 2 _ rfl;have Z:DataW.trod enc prog W 0 (fun _=>true) true m 3 ((L.drop 3).take (prog.cellsOf 3))=some G:=n 3 _ rfl;have h4:DataW.trod enc prog W 0 (fun _=>true) true m 9 ((L.drop 4).take (prog.cellsOf 9))=some I:=n 4 _ rfl;have h5:DataW.trod enc prog W 0 (fun _=>true) true m 9 ((L.drop 5).take (prog.cellsOf 9))=some J:=n 5 _ rfl;have h6:DataW.trod enc prog W 0 (fun _=>true) true m 36 ((L.drop 6).take (prog.cellsOf 36))=some K:=n 6 _ rfl;have h7:DataW.trod enc prog W 0 (fun _=>true) true m 39 ((L.drop 10).take (prog.cellsOf 39))=some M:=n 7 _ rfl;rw[cN9]at V X Y Z;rw[QM]at h4 h5;rw[Pu]at h6;rw[Pv]at h7;subst hL;obtain⟨z0,N,_⟩:=DataW.trod_int underlying3 V;obtain⟨z1,O,_⟩:=DataW.trod_int underlying3 X;obtain⟨z2,P,_⟩:=DataW.trod_int underlying3 Y;obtain⟨z3,Q,_⟩:=DataW.trod_int underlying3 Z;obtain⟨s4,R,l4⟩:=Bj h4;obtain⟨s5,S,l5⟩:=Bj h5;obtain⟨a6,b6,d6,r6,l6,T,q6⟩:=LH h6;obtain⟨a7,b7,w7,l7,U,q7,k7⟩:=GR h7;simp at N O P Q R S T U;refine⟨(⟨z0,z1,z2,z3,s4,s5,⟨a6,b6,d6,l6⟩,a7,b7,l7⟩,r6,w7),rfl,fun k=> ?_,q6,q7,l4,l5,k7⟩;simp only[N,O,P,Q,R,S,T,U];rfl
theorem Dl {r:Reach}{b0:Nat}{v:Value}{d:DataW H}{q:List MemPlace}(B:Value.okWide prog W r b0 22 v)(h:DataW.Trod enc prog W 0 (fun _=>true) true 22 v d q): ∃m,jR W v m:=by
 obtain⟨l,k0,c0,rfl⟩:=okWide_slice underlying22 B;obtain⟨f,t⟩:=h;obtain⟨p,len,cap,E,e,i,z,a⟩:=xF ((⟨0,0,0,0,[],[],sv0,0,0,[]⟩,af,af):Cm×Value×Value) (Q:=fun c u=>(∀k,c k=(doC u.1 u.2.1 u.2.2).toList[k]?)/\mB W u.1 u.2.1 u.2.2) underlying22 Pw (by decide) LI t;have n:Value.slice l k0 c0= .slice p len cap:=by simpa[Value.cells] using e
 refine⟨E,p,cap,by rw[n,i],by rw[i];exact z,fun j u w=> ?_⟩;obtain⟨g,o,A,c,s,b,C,D⟩:=a j u w;exact⟨D,g,o,A,fun k x y=>b k x ((C k).trans y)⟩
theorem Dm {c:World}{v:Value}{d:DataW H}{p:List MemPlace}(h:DataW.Trod enc prog W 0 (fun _=>true) true 22 v d p)(e:aq W c)(a: ∀x∈p,x.block<W.heap.size):DataW.Trod enc prog c 0 (fun b=>decide (b<W.heap.size)) true 22 v d p:=
 Below.trod (by kernel_rfl) (by kernel_rfl) (fI (by kernel_rfl)) h e a
end
section
abbrev DoF (cs:List (Cm×Value×Value)):List Value:=cs.flatMap fun q=>(doC q.1 q.2.1 q.2.2).toList
def DoB (B:Nat)(w:World)(cs:List (Cm×Value×Value)):Prop:= ∀q∈cs,Rob (fun k=>k<B) (fun u=>mB u q.1 q.2.1 q.2.2) w
theorem DoB.below {B:Nat}{w w':World}{cs:List (Cm×Value×Value)}(h:DoB B w cs)(a:aq w w'):DoB B w' cs:=fun q b=>(h q b).below a
theorem Dn {w u:World}{v:Value}{d:List (List Int)}(h:fj w v d)(b: ∀q,q<w.heap.size->u.heap[q]? =w.heap[q]?):fj u v d:=by
 obtain⟨p,c,f,i,k⟩:=h;refine⟨p,c,f,i,fun j x l=> ?_⟩;obtain⟨g,o,sv,e,a,m⟩:=k j x l;exact⟨g,o,sv,e,(en (b g (bN a))).trans a,sy m b⟩
theorem JO {w:World}{v:Value}{cs:List (Cm×Value×Value)}(h:jR w v cs):DoB w.heap.size w cs:=fun q e u _ ha=>by
 obtain⟨_,_,_,_,b⟩:=h;obtain⟨j,d⟩:=List.getElem?_of_mem e;have c:=(b j q d).1;exact⟨Dn c.roles fun k a=>ha k a a,sy c.who fun k a=>ha k a a,c.text,c.name,c.cap⟩
theorem xG (w:World)(k:TypeId)(d p:Option Addr)(n cap c:Nat)(e:n<=cap):(Builtin.append_ #[22,22] k #[.slice d n cap,.slice p 0 c]).run prog w= .ok (.slice d n cap) w:=by
 obtain⟨l,hi,g,i,j⟩:=oW (t:=41) (z:= .agg (doC ⟨0,0,0,0,[],[],sv0,0,0,[]⟩ (af) (af))) (a:=13) (b:=152) (by kernel_rfl);have f:prog.underlying 22=some (.slice 41):=by kernel_rfl
 cases d<;>cases p<;>simp[Builtin.append_,fX f,sizeOf,typeInfo,hi,e,Builtin.lenOf,Builtin.firstCells,storeCells,loadCells,loadCellsFrom]
theorem Ed {g:Array Oper}{b:List Oper}{o:Oper}{a:Act}{w:World}{Q:Exit->Act->World->Prop}(d:o.guard=none)(s x:Operand)(r:o.op= .call {callee:= .builtin .append,args:= #[s,x],argTypes:= #[22,22]})
  {B:Nat} {v A:Value} {cs ds:List (Cm×Value×Value)} (t:a.eval s=v) (i:w.ownsRow B 41 13 v cs.length (DoF cs)) (y:a.eval x=A) (n:jR w A ds) (H:DoB B w (cs++ds)) (I:cs.length+ds.length<=100000) (G:B<=w.heap.size)
  (h: ∀j w',w'.ownsRow B 41 13 j (cs++ds).length (DoF (cs++ds))->w.grownBy w' v.ownBlock->wpList prog g Q b (a.put o.dst j) w'):wpList prog g Q (o::b) a w:=by
 by_cases m:ds=[]
 ·subst m;obtain⟨J,c1,C,l⟩:=yY i;obtain⟨p,c,D,_⟩:=n;subst C D;rw[gu]at h;exact Go.Lib.wpList_append_run w d s x _ _ r _ _ t y _ _ (xG w _ J p _ c1 c l) (h _ _ i ⟨rfl,rfl,rfl,aE _,fun _ _ _=>rfl⟩)
 ·have z: ∀q∈cs++ds,Rob (fun k=>some k≠v.ownBlock) (fun u=>mB u q.1 q.2.1 q.2.2) w:=fun q f=>(H q f).move (aE _) (fun _ _ _=>rfl) fun k _ K e=>by have:=(i.lt k e.symm).1;omega
  exact uQ d s x r t ⟨i,fun q f=>z q (fR _ f)⟩ y n (List.length_pos_iff.2 m) (fun q f=>z q (eP _ f)) I G fun j w' E _ F=>h j w' E.1 F
section
variable {w0 W W':World} {i t v:Nat} {cs ds:List (Cm×Value×Value)} {M:Nat->Bool} {φ:Nat->Value} {l:List Cm} {B:Nat} {rv ev sv av asv:Value} {rn:Int} {ss:List (Sv×Value)} {aa:List (Ap×Value)} {ls:List (An×Value×Value)} {k s p:Nat} {u:Value}
theorem po.one {p:List An×Dk}(h:po B W p rv ev sv av asv ss aa ls):(#[rv,ev,sv,av]:Array Value).all (·.oneCell')=true:=by
 obtain⟨b,a,_⟩:=h.rules;obtain⟨_,_,rfl⟩:=a.form;obtain⟨_,_,rfl⟩:=bK h.res;obtain⟨_,_,rfl⟩:=bK h.svs;obtain⟨_,_,rfl⟩:=bK h.aps;simp[Value.oneCell']
variable {lv:Value} {o:Oper} {F:Act} {K:Act->World->Prop} {X:Exit->Act->World->Prop} {sO xO:Operand}
end
end
section
section
variable {w0 W:World} {i t v k:Nat} {cs ds:List (Cm×Value×Value)} {M:Nat->Bool} {φ:Nat->Value}
end
theorem po.at7 {B:Nat}{W:World}{P:List An×Dk}{t ev sv av b:Value}{u:List (Sv×Value)}{o:List (Ap×Value)}{m:List (An×Value×Value)}(h:po B W P t ev sv av b u o m): ∃i k,b= .slice i P.1.length k/\ ∀(j:Nat) (a:An),P.1[j]? =some a-> ∃(g:Nat) (n lv:Value),i=some ⟨g,0,none⟩/\W.rangeAt g (j*6) (anC a n lv).toList/\rx B W n a.who/\dH W lv a.list:=by
 obtain⟨i,k,e⟩:=bK h.ans;have s:m.length=P.1.length:=by rw[<-h.ane,ba]
 refine⟨i,k,by rw[e,s],fun j a ha=> ?_⟩;rw[<-h.ane,aZ]at ha;obtain⟨q,l,rfl⟩:=dU.1 ha;obtain⟨g,c,d,_,r⟩:=iD (f:=fun p:An×Value×Value=>anC p.1 p.2.1 p.2.2) (fun _=>rfl) h.ans rfl l;rw[e]at d;injection d with d;exact⟨g,q.2.1,q.2.2,d,r,(h.anr q (aM l)).1,(h.anr q (aM l)).2⟩
end
theorem Bk: ∀(l m:List Cm) (c:Co),gy c (l++m)=((gy c l).1++(gy (gy c l).2 m).1,(gy (gy c l).2 m).2)
 |[],_,_=>rfl
 |x::l,m,c=>by
  show((doS c x).1::(gy (doS c x).2 (l++m)).1,(gy (doS c x).2 (l++m)).2)=_;rw[Bk l m];rfl
theorem Bm: ∀(l:List Cm) (c:Co),(gy c l).1.length=l.length
 |[],_=>rfl
 |x::l,c=>congrArg (· +1) (Bm l (doS c x).2)
theorem JP {f g:Nat->Bool}{x y:Int}(h:fk f x y=true)(b: ∀i,i<1440->f i=true->g i=true):fk g x y=true:=by
 unfold fk at h⊢;simp only[bv]at h⊢;refine⟨h.1,Cv fun i hi=> ?_⟩;have:=wO h.2 i hi;by_cases a:i<1440
 ·cases hf:f i with
  |true=>simp[b i a hf]
  |false=>
   have t:inl [(x,y)] i=false:=(by simpa[hf,a] using this);simp[t]
 ·simp[a]
structure QN (c:Co)(n day min:Int)(who:List Int)(p:Ap):Prop where
 is:kh c n day min who=(iZ c.aps.length,{c with aps:=c.aps++[p]})
 pl:(fA c (-1) (kQ c n) day min who).2=0
 nn:isN n c.svs.length=true
 st:p.st=1/\p.left=10
 at_:p.day=day/\p.who=who/\p.fr=min-(kQ c n).bef/\p.to=min+(kQ c n).len+(kQ c n).aft
 meas:1<=(kQ c n).len/\0<=(kQ c n).bef/\0<=(kQ c n).aft
 wl:1<=who.length
theorem xH {c:Co}{n:Int}{a:Ap}{day min:Int}{who:List Int}(b:(fA c n a day min who).2=0):(fA c n a day min who).1={a with fr:=min-a.bef,to:=min+a.len+a.aft,day:=day,min:=min,who:=who}:=by
 unfold fA at b⊢;split at b
 ·exact absurd b (by decide)
 split at b
 ·exact absurd b (by decide)
 split at b
 ·rename_i d;exact absurd b d
 split at b
 ·exact absurd b (by decide)
 rename_i e f d g;rw[ax e,ax f,ax d,ax g]
theorem NX {c:Co}(o:CI c){n day min:Int}{who:List Int}(h:(kh c n day min who).1.err=0): ∃p,QN c n day min who p:=by
 refine⟨(fA c (-1) (kQ c n) day min who).1,?_⟩
 have e: ¬isN n c.svs.length=false/\(fA c (-1) (kQ c n) day min who).2=0/\kh c n day min who=(iZ c.aps.length,{c with aps:=c.aps++[(fA c (-1) (kQ c n) day min who).1]}):=by
  unfold kh at h⊢;split at h
  ·exact absurd (show(6:Int)=0 from h) (by decide)
  split at h
  ·exact absurd (show(5:Int)=0 from h) (by decide)
  split at h
  ·rename_i d;exact absurd h d
  rename_i j m d;rw[ax j,ax m,ax d];exact⟨j,dX d,rfl⟩
 obtain⟨g,b,i⟩:=e;obtain⟨s,t⟩:=rB g;have k:n.toNat<c.svs.length:=by omega
 have r:c.svs.getD n.toNat sv0∈c.svs:=by rw[dc,ay k];exact List.getElem_mem k
 have f:=o.svs _ r;obtain⟨u,_⟩:=xD (a:=kQ c n) b f.1 ⟨s,t⟩;have q:=u.who;rw[xH b]at q⊢;have l:who.length=(c.svs.getD n.toNat sv0).roles.length:=q;rw[xH b]at i;exact⟨i,b,by simpa using g,⟨rfl,rfl⟩,⟨rfl,rfl,rfl,rfl⟩,f.1,by rw[l];exact f.2⟩
theorem JQ (f:Nat->Bool)(x y:Int):fk f x y=true↔0<=x/\y<=1440/\x<=y/\ ∀i:Nat,x<=(i:Int)->(i:Int)<y->f i=true:=by
 unfold fk;rw[bv,bv,bv,bL,bL,bL];constructor
 ·rintro⟨⟨⟨b,d⟩,e⟩,g⟩;refine⟨b,d,e,fun i hi j=> ?_⟩;have h:=wO g i (by omega);have a:inl [(x,y)] i=true:=(by simp[inl];omega);have c:decide (i<1440)=true:=bj (by omega);rw[a,c]at h;simpa using h
 ·rintro⟨b,d,e,g⟩;refine⟨⟨⟨b,d⟩,e⟩,Cv fun i _=> ?_⟩;cases a:inl [(x,y)] i with
  |false=>rfl
  |true=>
   simp[inl]at a;rw[g i (by omega) (by omega)];rfl
structure Fit (s:Sv)(fs:List (Nat->Bool))(m:Int)(who:List Int):Prop where
 len:who.length=s.roles.length
 mem: ∀(i:Nat) (r:Int) (p:List Int),who[i]? =some r->s.roles[i]? =some p->r∈p
 nd:who.Nodup
 ok: ∀r∈who,okP fs (m-s.bef) (m-s.bef+F8 s) r=true
def Do (roles:List (List Int))(b:List (Nat->Bool))(x y:Int):List Int->Nat->List Int->Bool
 |[],_,_=>true
 |r::l,i,a=>if r∉roles.getD i []\/r∈a\/okP b x y r=false then false else Do roles b x y l (i+1) (addN a r)
def oS (s:Sv)(a:List (List (Nat->Bool)))(day min:Int)(who:List Int):Bool:=if day<0\/(a.length:Int)<=day\/who.length≠s.roles.length then false else Do s.roles (a.getD day.toNat []) (min-s.bef) (min+s.len+s.aft) who 0 []
theorem Dp {roles:List (List Int)}{d:List (Nat->Bool)}{x y:Int}: ∀{l:List Int} {i:Nat} {a:List Int},Do roles d x y l i a=true↔(∀(k:Nat) (r:Int),l[k]? =some r->r∈roles.getD (i+k) [])/\(∀r∈l,r∉a)/\l.Nodup/\ ∀r∈l,okP d x y r=true
 |[],i,a=>by simp[Do]
 |r::l,i,a=>by
  rw[Do];by_cases h:r∉roles.getD i []\/r∈a\/okP d x y r=false
  ·rw[aB h];constructor
   ·intro h;cases h
   ·rintro⟨j,m,_,q⟩;exfalso;rcases h with h|h|h
    ·exact h (j 0 r rfl)
    ·exact m r bp h
    ·rw[q r bp]at h;cases h
  ·rw[ax h,Dp];have j:r∈roles.getD i []:=Classical.not_not.1 fun e=>h (.inl e);have m:r∉a:=fun e=>h (.inr (.inl e))
   have p:okP d x y r=true:=by
    cases c:okP d x y r with
    |true=>rfl
    |false=>exact absurd (.inr (.inr c)) h
   constructor
   ·rintro⟨n,f,g,o⟩;refine⟨fun k u c=> ?_,fun u b=> ?_,List.nodup_cons.2 ⟨fun s=> ?_,g⟩,fun u b=> ?_⟩
    ·match k,c with
     |0,c=>cases aN c;exact j
     |k+1,c=>
      have:=n k u (by simpa using c);rw[show i+(k+1)=i+1+k by omega];exact this
    ·rcases bz.1 b with rfl|b
     ·exact m
     ·exact fun e=>f u b ((qS _ _ _).2 (.inl e))
    ·exact f r s ((qS _ _ _).2 (.inr rfl))
    ·rcases bz.1 b with rfl|b
     ·exact p
     ·exact o u b
   ·rintro⟨n,f,g,o⟩;refine⟨fun k u c=> ?_,fun u b e=> ?_,(List.nodup_cons.1 g).2,fun u b=>o u (bJ _ b)⟩
    ·have:=n (k+1) u (by simpa using c);rw[show i+1+k=i+(k+1) by omega];exact this
    ·rcases(qS _ _ _).1 e with e|rfl
     ·exact f u (bJ _ b) e
     ·exact(List.nodup_cons.1 g).1 b
theorem mO {s:Sv}{a:List (List (Nat->Bool))}{day min:Int}{who:List Int}:oS s a day min who=true↔ ∃(d:Nat) (k:List (Nat->Bool)),day=(d:Int)/\a[d]? =some k/\Fit s k min who:=by
 unfold oS;by_cases h:day<0\/(a.length:Int)<=day\/who.length≠s.roles.length
 ·rw[aB h];constructor
  ·intro h;cases h
  ·rintro⟨d,k,rfl,l,j⟩;exfalso;have f:=(aF.1 l).1;have m:=j.len;omega
 ·rw[ax h];obtain⟨d,l⟩: ∃d:Nat,day=(d:Int):=⟨day.toNat,by omega⟩
  subst l;have v:who.length=s.roles.length:=Classical.not_not.1 fun e=>h (.inr (.inr e));have b:d<a.length:=(by omega);have c:a[d]? =some (a[d]'b):=ay b;have q:a.getD (Int.toNat (d:Int)) []=a[d]'b:=(by simp[List.getD,c]);have t:min+s.len+s.aft=min-s.bef+F8 s:=(by unfold F8;omega);rw[q,t,Dp];constructor
  ·rintro⟨w,_,x,y⟩;refine⟨d,_,rfl,c,v,fun i r p f m=> ?_,x,y⟩;have:=w i r f;rwa[bV,show s.roles.getD i []=p by simp[List.getD,m]]at this
  ·rintro⟨o,k,e,g,j⟩;have:o=d:=(by omega);subst this;rw[c]at g;cases aN g;refine⟨fun i r f=> ?_,(fun r _ e=>by cases e),j.nd,j.ok⟩;have u:=(aF.1 f).1;have n:s.roles[i]? =some (s.roles[i]'(by omega)):=ay _;rw[bV,show s.roles.getD i []=s.roles[i]'(by omega) by simp[List.getD,n]];exact j.mem i r _ f n
def cH (n x y:Int)(who:List Int):Cm:=⟨5,n,0,0,[],[],sv0,x,y,who⟩
def cT (t:Int):Cm:=⟨9,0,0,t,[],[],sv0,0,0,[]⟩
def cX (k n:Int):Cm:=⟨k,n,0,0,[],[],sv0,0,0,[]⟩
theorem uS (l:List Cm):(playP dk0 l).1.length=l.length:=by rw[(pU l).1,Bm]
def sv1 (len:Int):Sv:=⟨len,0,0,[[0]]⟩
def c1 (L:List Ru)(len:Int)(aps:List Ap):Co:=⟨L,[[97]],[sv1 len],aps⟩
def cR (t:List UInt8):Cm:=⟨1,0,0,0,t,[],sv0,0,0,[]⟩
def cS (s:Sv):Cm:=⟨3,0,0,0,[],[],s,0,0,[]⟩
def cF (n day days:Int):Cm:=⟨4,n,day,days,[],[],sv0,0,0,[]⟩
theorem uT {c:Co}{x:Cm}(h:(doS c x).1.err≠0):(doS c x).2=c:=by
 have d: ∀(n:Int) (f:Ap->Ap×Int),(il c n f).1.err≠0->(il c n f).2=c:=fun n f h=>by
  unfold il at h⊢;split at h
  ·rename_i a;rw[aB a]
  rename_i a;split at h
  ·rename_i b;rw[ax a,aB b]
  ·exact absurd rfl h
 unfold doS at h⊢;split at h
 ·rename_i k;rw[aB k];unfold ze at h⊢;split at h
  ·rename_i a;rw[aB a]
  ·exact absurd rfl h
 rename_i g;rw[ax g];split at h
 ·rename_i k;rw[aB k];unfold GK at h⊢;split at h
  ·rename_i a;rw[aB a]
  rename_i a;split at h
  ·rename_i b;rw[ax a,aB b]
  ·exact absurd rfl h
 rename_i i;rw[ax i];split at h
 ·rename_i k;rw[aB k];unfold GL at h⊢;split at h
  ·rename_i a;rw[aB a]
  rename_i a;split at h
  ·rename_i b;rw[ax a,aB b]
  ·exact absurd rfl h
 rename_i j;rw[ax j];split at h
 ·rename_i k;rw[aB k];unfold BC;split
  ·rfl
  split
  ·rfl
  split<;>rfl
 rename_i l;rw[ax l];split at h
 ·rename_i k;rw[aB k];unfold kh at h⊢;split at h
  ·rename_i a;rw[aB a]
  rename_i a;split at h
  ·rename_i b;rw[ax a,aB b]
  rename_i b;split at h
  ·rename_i e;rw[ax a,ax b,aB e]
  ·exact absurd rfl h
 rename_i m;rw[ax m];split at h
 ·rename_i k;rw[aB k];exact d _ _ h
 rename_i o;rw[ax o];split at h
 ·rename_i k;rw[aB k];exact d _ _ h
 rename_i p;rw[ax p];split at h
 ·rename_i k;rw[aB k];exact d _ _ h
 rename_i q;rw[ax q];split at h
 ·rename_i k;rw[aB k];unfold BB at h⊢;split at h
  ·rename_i a;rw[aB a]
  ·exact absurd rfl h
 rename_i r;rw[ax r]
def kN:Co->List Cm->List Cm
 |_,[]=>[]
 |c,x::l=>if(doS c x).1.err=0 then x::kN (doS c x).2 l else kN c l
theorem uU: ∀(l:List Cm) (c:Co),(gy c (kN c l)).2=(gy c l).2/\ ∀a∈(gy c (kN c l)).1,a.err=0
 |[],_=>⟨rfl,fun a h=>by cases h⟩
 |x::l,c=>by
  by_cases h:(doS c x).1.err=0
  ·obtain⟨a,b⟩:=uU l (doS c x).2;rw[kN,aB h];refine⟨a,fun y d=> ?_⟩;rcases bz.1 d with rfl|d
   ·exact h
   ·exact b y d
  ·obtain⟨a,b⟩:=uU l c
   have e:(gy c (x::l)).2=(gy c l).2:=by
    show(gy (doS c x).2 l).2=_;rw[uT h]
   rw[kN,ax h,e];exact⟨a,b⟩
theorem uV: ∀(l:List Cm) (c:Co) (x:Cm),kN c (l++[x])=kN c l++if(doS (gy c l).2 x).1.err=0 then [x] else []
 |[],c,x=>rfl
 |y::l,c,x=>by
  rw[List.cons_append,kN,kN];by_cases h:(doS c y).1.err=0
  ·rw[aB h,aB h,uV l (doS c y).2 x,List.cons_append];rfl
  ·rw[ax h,ax h,uV l c x];show _=kN c l++if(doS (gy (doS c y).2 l).2 x).1.err=0 then [x] else []
   rw[uT h]
theorem Ag: ∀(l:List Cm) (c:Co) (i:Nat) (x:Cm),l[i]? =some x->(gy c l).1[i]? =some (doS (gy c (l.take i)).2 x).1
 |[],_,_,_,h=>by simp at h
 |y::l,c,0,x,h=>by cases h;rfl
 |y::l,c,i+1,x,h=>by
  have:=Ag l (doS c y).2 i x (by simpa using h);exact this
end Go.Proofs.YtlkehieagdkgiaaGreatDoor
