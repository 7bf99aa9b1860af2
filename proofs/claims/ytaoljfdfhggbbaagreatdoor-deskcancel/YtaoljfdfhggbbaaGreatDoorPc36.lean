/- Texts of the proof. -/
import Derived.Test.YtaoljfdfhggbbaaGreatDoorPc35
import Derived.Test.YtaoljfdfhggbbaaGreatDoorPc22
set_option maxRecDepth 100000
set_option maxHeartbeats 8000000
namespace Go.Proofs.YtaoljfdfhggbbaaGreatDoor
open Go.Proofs.Tryz Go.RowKit Lx Vx Mx Msk
section
theorem Dg {w w':World}{g o n:Nat}(h:w.there g o n)(a:aq w w'):w'.there g o n:=fun j b=>by
 obtain⟨v,d⟩:=Option.isSome_iff_exists.1 (h j b).1;have c:=bP d;exact⟨Option.isSome_iff_exists.2 ⟨v,(a.cell c).trans d⟩,(a.frozen c).trans (h j b).2⟩
theorem Iu (k:Int)(a:Ap):(gF k a).who=a.who:=by
 unfold gF eB;split
 ·rfl
 ·split<;>rfl
def lw (d:Dk)(k:Int)(j:Nat):Dk:={d with aps:=(d.aps.take j).map (gF k)++d.aps.drop j}
theorem wg {d:Dk}{k:Int}{j:Nat}{a:Ap}(h:d.aps[j]? =some a):(lw d k j).aps[j]? =some a:=by
 have b:=(aG.1 h).1;unfold lw;dsimp only;rw[dj (by simp;omega)];simp[fj (Nat.le_of_lt b),h]
theorem yf {d:Dk}{k:Int}{j:Nat}{a:Ap}(h:d.aps[j]? =some a):({lw d k j with aps:=(lw d k j).aps.set j (gF k a)}:Dk)=lw d k (j+1):=by
 obtain⟨b,e⟩:=aG.1 h;unfold lw;dsimp only;congr 1;rw[List.set_append_right _ _ (by simp;omega),bx b,e];simp only[ba,eE,fj (Nat.le_of_lt b),iO,aJ];rw[fD,h];simp
theorem Mz {d:Dk}{k:Int}{j:Nat}{a:Ap}(h:tV d)(e:0<=k)(ha:d.aps[j]? =some a):tV {d with aps:=d.aps.set j (gF k a)}:=by
 refine⟨h.flt,h.vl,h.kl,h.rl,h.sl,by simpa using h.al,h.gv,h.nm,h.sv,fun b c=> ?_⟩;rcases List.mem_or_eq_of_mem_set c with c|rfl
 ·exact h.ap b c
 ·have:=h.ap a (aM ha);unfold gF eB;split
  ·exact this
  ·split
   ·exact⟨this.1,this.2.1,⟨gY _,by show(0:Int)<=10;omega⟩,this.2.2.2⟩
   ·exact⟨this.1,this.2.1,⟨by dsimp only;omega,by dsimp only;have:=this.2.2.1;omega⟩,this.2.2.2⟩
def Ch (b:World)(g o:Nat)(c:Array Value)(i:Nat)(M:Nat->Bool)(_:Nat->Value)(W:World):Prop:=
 (M i=false->aq b W)/\(M i=true-> ∃a,aq b a/\Below a.heap.size (a.setCells g o c.toList) W)
theorem Ch.on {e:World}{g o i:Nat}{c:Array Value}(M:Nat->Bool)(φ:Nat->Value)(W a:World)(d:aq W a)(h:Ch e g o c i M φ W):Ch e g o c i M φ a:=by
 refine⟨fun x=>(h.1 x).trans (d.mono (h.1 x).size),fun x=> ?_⟩;obtain⟨f,j,b⟩:=h.2 x;exact⟨f,j,b.trans (d.mono (by have:=b.size;rw[(eP _ _ _ _).2.2.2]at this;exact this))⟩
theorem ub {m a e n:Nat}{w:World}{v:Value}{xs:List Value}(h:w.ownsRow a e m v n xs){j g c:Nat}(q:j<n)(l:v= .slice (some (ae g 0)) n c):w.there g (j*m) m:=fun k r=>by
 rcases h.2 with⟨_,p⟩|⟨o,cap,f,e0,_,d,s,_,t,_⟩
 ·omega
 ·rw[l]at e0;injection e0 with b _ _;injection b with b;injection b with b;subst b;have i:(j+1)*m<=cap*m:=Nat.mul_le_mul_right m (by omega);rw[Nat.add_mul,Nat.one_mul]at i;refine⟨?_,bl _ _ _ _ _ d⟩;rw[aZ _ _ _ _ _ _ d,fP (by omega)];rfl
theorem Ko {α:Type}{l:List α}{j:Nat}{a:α}(h:l[j]? =some a):l.set j a=l:=by
 apply List.ext_getElem?;intro i;by_cases e:j=i
 ·subst e;rw[fh (aG.1 h).1,h]
 ·rw[fI e]
section
variable {B gD:Nat} {d:Dk} {t:Tr}
theorem Kq (k:Int)(w:World)(h:dt B gD d t w):Calls prog 19 #[ab gD 0,ag k] w (qI B gD (qY d k) t w):=by
 obtain⟨V,hA,bA,nA⟩:=nb w #[ag 0,ag 0,ag 0,ag 0,af,af] 43;have aS:V.heap.size=w.heap.size+1:=by rw[<-hA];simp
 have a5:=h.opened (aB _) aS bA;have Z:=aF a5;have a0:=aF bA;have H0:=aF h;obtain⟨am,rv,cv,vv,kv,ss,aa,S⟩:=a5;have aE:aa.length=d.aps.length:=by rw[<-S.ape,ba]
 obtain⟨n,hn⟩:=au d.aps.length;obtain⟨pa,ca,p⟩:=df S.aps;rw[aE,hn]at p;have D:t.av= .slice pa n ca:=p
 have z3:V.cell? (ae gD 3)=some (.slice pa n ca):=by
  have:=cr (v:=t.av) 3 S.blk rfl;rw[this,D]
 have bw:n<=30:=by rw[<-hn];exact am.al
 have P:=aF hn;have ar:=aF D;have bx:=aF am;have b7:w.heap.size<V.heap.size:=by omega
 clear h S aE hn p D am aS bA;by_cases hk:k<0\/1000<k
 ·have HP:PN (qY d k=(noA 3,d)):=by show _=_;unfold qY;rw[aD hk]
  have cR:=fb 3 V;have bs:k<0\/ ¬k<0/\1000<k:=(by omega);clear hk
  rcases bs with a8|⟨a8,H⟩<;>
   (go_enter func19,ntmps19
    go_wp2_with fail
    refine cR.mono ?_
    rintro e w1 ⟨rfl,b1⟩
    have n1:=bt b1 nA
    have N:=aw a0.o b1
    have HO:=aF (fB (Z.o.below b1) (Kd.of (t:=t) (gD:=gD) N) (aB _) (anC (noA 3) (af) (af)))
    have HR:=aF (aL _ _ _ (anC (noA 3) (af) (af)) _ _ n1)
    clear cR z3 b1 N nA
    go_wp2_with(refine ay rfl 43 _ _ rfl _ _ rfl rfl _ _ n1 (by kernel_rfl) rfl (by simp[anC,Value.oneCell']) ?_)
    refine aW (v:= .agg (anC (noA 3) (af) (af))) ?_ rfl ?_
    ·exact bc rfl _ _ w.heap.size _ _ _ _ rfl HR.o anT rfl (by kernel_rfl)
    ·rw[HP.o]
     exact⟨t,_,_,rfl,HO.o.1,HO.o.2,ff _ _,et _ _⟩)
 ·have a8: ¬k<0:=fun e=>hk (.inl e);have H: ¬1000<k:=fun e=>hk (.inr e);have bg:PN (0<=k):=(by show(0:Int)<=k;omega)
  have HP:PN (qY d k=(noA 0,lw d k n)):=by
   show _=_;unfold qY lw;rw[ax hk,cQ (by rw[P.o];exact aB _),dg (by rw[P.o];exact aB _),il]
  clear hk;go_enter func19,ntmps19;go_wp2_with fail;clear hA z3;go_loopw [5,6,20] (fun _ _ q wr=> ∃j:Nat,q=ag (j:Int)/\j<=n/\dt B gD (lw d k j) (t.add w.heap.size) wr/\Kd gD (t.add w.heap.size) (t.add w.heap.size) V wr) (fun _ _ q _=>n-(intOf q).toNat);case atStart=>exact⟨0,rfl,by omega,Z.o,Kd.of (aI _ _)⟩
  case round=>
   obtain⟨j,rfl,hj,hd,I⟩:=hrel;have b3:(0:Int)<=(j:Int):=(by omega);by_cases b4:j<n
   ·have a7:(j:Int)<(n:Int):=(by omega);obtain⟨a,ha⟩: ∃a,d.aps[j]? =some a:=⟨d.aps[j]'(by have:=P.o;omega),az _⟩
    have aj:(lw d k j).aps.length=n:=(by unfold lw;simp;have:=P.o;omega);have p:(lw d k j).aps[j]? =some a:=wg ha;obtain⟨a',m,i,A,br,ai,ao,_,x,T⟩:=DkM.ap hd.2 (j:=j) (by omega);rw[p]at ai;have:a=a':=aN ai;subst this;rw[aj]at ao;have L:t.av= .slice (some (ae A 0)) n br:=ao;have e0:=ar.o.symm.trans L;injection e0 with e1 e3 e2;subst e1 e2;clear e3 ai ao;obtain⟨wZ,f,hZ,U,Q,bB,nB⟩:=nbs wr apZ (apC (a,.slice m a.who.length i)) 45;unfold apZ at hZ U;obtain⟨gx,G⟩:=au wr.heap.size;have an:f.heap.size=gx+1:=(by rw[<-Q,<-hZ,<-G];simp);rw[G]at U Q;have a6:=hd.opened (q:=gx) (by omega) an bB;have y0:f.cell? (ae gx 0)=some (ag a.st):=(by rw[<-G];exact cr 0 nB rfl);have y1:f.cell? (ae gx 1)=some (ag a.left):=(by rw[<-G];exact cr 1 nB rfl);have a4:=hd.1.ap a (aM p);have b6:=a4.2.2.1;have HA:=aF ha;have bi:=aF aj;have X:=aF L;have ac:=aF G;have Y:=aF bB;have HD:=aF hd;have be:=aF a6;have a1:=aF I;have bn:=aF T;have b0:=aF an;have bv:gx<f.heap.size:=(by omega);clear a4 hd I T an a6 bB ha aj L p;by_cases z:a.st=1
    ·have aU:(a.st !=1)=false:=(by rw[z];rfl);have a2:=aF z;clear z;have b9:IntKind.i64.wrap (a.left-k)=a.left-k:=(by rw[bz];omega);have aq:f.heap[gx]? =ah (apC (a,.slice m a.who.length i)) 45:=(by rw[<-ac.o];exact nB);have x1:=bl _ _ 1 _ _ aq;have nC:(f.setCell ⟨gx,1,none⟩ (ag (a.left-k))).heap[gx]? =ah (apC ({a with left:=a.left-k},.slice m a.who.length i)) 45:=aY f gx 1 _ _ _ aq;have oC: ∀q,q≠gx->(f.setCell ⟨gx,1,none⟩ (ag (a.left-k))).heap[q]? =f.heap[q]? :=fun q hq=>aO _ _ _ _ hq;have sC:(f.setCell ⟨gx,1,none⟩ (ag (a.left-k))).heap.size=f.heap.size:=(by simp);have kC:(f.setCell ⟨gx,1,none⟩ (ag (a.left-k))).os=f.os/\(f.setCell ⟨gx,1,none⟩ (ag (a.left-k))).tape=f.tape/\(f.setCell ⟨gx,1,none⟩ (ag (a.left-k))).output=f.output:=⟨rfl,rfl,rfl⟩
     generalize b8:f.setCell ⟨gx,1,none⟩ (ag (a.left-k))=wC at*;have bu:wC.cell? (ae gx 1)=some (ag (a.left-k)):=cr 1 nC rfl
     have C:PN (∀s:World,f.heap.size<=s.heap.size->(∀q,q<f.heap.size->q≠gx->s.heap[q]? =f.heap[q]?)->s.os=f.os->s.tape=f.tape->s.output=f.output->dt B gD (lw d k j) (t.add w.heap.size) s/\Kd gD (t.add w.heap.size) (t.add w.heap.size) V s/\Rob (Fx gD (t.add w.heap.size)) (fun u=>dS u (.slice m a.who.length i) a.who) s):=fun s h1 h2 h3 h4 h5=>by
      have N:=Y.o;refine⟨be.o.closed h1 h2,a1.o.trans ((Kd.of N).closed (q:=gx) (by rw[ac.o];exact aB _) h3 h4 h5 h1 h2),bn.o.move (bf N.size h1) (fun q _ hl=> ?_) fun _ _ h=>h⟩;have:=ac.o;exact(h2 q (aT hl N.size) (by omega)).trans (N.block q hl)
     by_cases aG:a.left-k<=0
     case' pos=>
      have HT:PN (gF k a=eB a 3):=(by show _=_;unfold gF;rw[ax (by simpa using a2.o),aD aG]);have cS:=rG {a with left:=a.left-k} 3 m i wC;dsimp only at cS;have bb:=nC;go_wp2_with(first|(refine wpList_load_mid rfl 45 _ rfl A (j*11) rfl (apC (a,.slice m a.who.length i)).toList _ x apT rfl (by kernel_rfl) ?_;clear x)|(refine ay rfl 45 _ _ rfl _ _ rfl rfl _ _ U (by kernel_rfl) rfl (iJ _ _ _ _) ?_;rw[Q];clear U Q)|(refine aR rfl 45 _ rfl _ rfl _ _ _ _ nC apT rfl (by kernel_rfl) ?_;clear nC))
      refine cS.mono ?_;rintro e w5 ⟨rfl,b5⟩;have n5:=bt b5 bb
      have nX:(w5.setRow gx (apC (eB {a with left:=a.left-k} 3,.slice m a.who.length i))).heap[gx]? =ah (apC (gF k a,.slice m a.who.length i)) 45:=by
       rw[HT.o];exact aL _ _ _ _ _ _ n5
      have R:=C.o (w5.setRow gx (apC (eB {a with left:=a.left-k} 3,.slice m a.who.length i))) (by simp;rw[<-sC];exact b5.size) (fun q hl hq=>((aV _ _ _ _ hq).trans (b5.block q (by omega))).trans (oC q hq)) (b5.os.trans kC.1) (b5.tape.trans kC.2.1) (b5.output.trans kC.2.2);generalize aZ:w5.setRow gx (apC (eB {a with left:=a.left-k} 3,.slice m a.who.length i))=s at*;clear cS bb b5 bu y0 y1 nB x1 hZ
     case' neg=>
      have HT:PN (gF k a={a with left:=a.left-k}):=(by show _=_;unfold gF;rw[ax (by simpa using a2.o),ax aG])
      have nX:wC.heap[gx]? =ah (apC (gF k a,.slice m a.who.length i)) 45:=by
       rw[HT.o];exact nC
      have R:=C.o wC (by rw[sC];exact aB _) (fun q _ hq=>oC q hq) kC.1 kC.2.1 kC.2.2;obtain⟨s,rfl⟩: ∃q,q=wC:=⟨_,rfl⟩
      clear nC
     all_goals
      obtain⟨⟨bd,bD,b2,bF,bC,bE,bp,J⟩,a9,aP⟩:=R
      have aC:bp.length=n:=by have:=congrArg List.length J.ape;rw[ba]at this;exact this.trans bi.o
      have zA:s.cell? (ae gD 3)=some (.slice (some (ae A 0)) n ca):=(cr (v:=t.av) 3 J.blk rfl).trans (congrArg some X.o)
      have bo:PN (s.there A (j*11) 11):=ub J.aps (c:=ca) (by omega) (by rw[aC];exact X.o)
      have bj:=aF J
      have bk:=aF bd
      have bh:=aF a9
      have bm:=aF aP
      obtain⟨cA,E⟩:=au (apC (gF k a,.slice m a.who.length i))
      have a3:cA.all (·.oneCell')=true:=by rw[<-E];exact iJ _ _ _ _
      have r:cA.size=11:=by rw[<-E];rfl
      rw[E]at nX
      clear J bd a9 aP oC sC kC C aq
      go_upto_region 10 with(first|(refine wpList_load_mid rfl 45 _ rfl A (j*11) rfl (apC (a,.slice m a.who.length i)).toList _ x apT rfl (by kernel_rfl) ?_;clear x)|(refine ay rfl 45 _ _ rfl _ _ rfl rfl _ _ U (by kernel_rfl) rfl (iJ _ _ _ _) ?_;rw[Q];clear U Q)|(refine ay rfl 45 _ _ rfl _ _ rfl rfl _ _ n5 (by kernel_rfl) rfl (iJ _ _ _ _) ?_;rw[aZ];clear n5 aZ))
      refine dh (Ch s A (j*11) cA 8) [kn 38 (ab gD 0),kn 39 (ab gD 0),kn 40 (ab gD 0),kn 41 (ab gD 3),kn 42 (.slice (some (ae A 0)) n ca),kn 43 (ag (j:Int)),kn 44 (.agg cA),kn 45 (ab A (j*11)),nk] (fun _=>⟨fun _=>(aI _ _).drew,(fun h=>by cases h)⟩) Ch.on (by kernel_rfl) ?_ ?_
      ·rintro M φ W hJ hc F l hl hF
       have HJ:=aF hJ
       clear hc hJ
       simp only[kn,nk,dW,aQ,aX,Act.put,aA,aK,aJ]at hl
       subst hl
       simp only[cZ,Nat.reduceAdd]at hF
       dsimp only[kn,nk,dB,eN,eg,Act.put]
       and_intros
       all_goals first|exact trivial|intro hw hn S K hK
       all_goals try (go_simp;with_reducible exact hK _ _ ⟨rfl,aI _ _⟩)
       ·have y:=((HJ.o.1 (hn 8 _ rfl (by kernel_rfl))).cell (bP zA)).trans zA
        go_simp
        exact hK _ _ ⟨rfl,aI _ _⟩
       ·have nW:=bt (HJ.o.1 (hn 8 _ rfl (by kernel_rfl))) nX
        show Oper.wp _ _ _ _ _ _
        refine dU 45 _ rfl _ (by simp[Act.eval,hF]) _ _ _ _ nW apT rfl (by rw[r];kernel_rfl) ?_
        exact hK _ _ ⟨rfl,aI _ _⟩
       ·have N:=HJ.o.1 S
        show Oper.wp _ _ _ _ _ _
        refine wp_store_mid 45 _ _ rfl A (j*11) cA (by simp[Act.eval,hF]) (by simp[Act.eval,hF]) (by rw[r];exact Dg bo.o N) (by rw[r];kernel_rfl) a3 ?_
        exact hK undef _ ⟨trivial,fun c=>by simp at c,fun _=>⟨W,N,aI _ _⟩⟩
      ·rintro M φ W hM hJ
       obtain⟨W0,O,h2⟩:=hJ.2 (hM 8 (by decide) rfl)
       simp only[kn,nk,eh,aQ,aX,Act.put,aA,aK,aJ]
       obtain⟨ak,H⟩:=(bj.o.below O).setAp (j:=j) (g:=A) (by omega) (by show t.av.ownBlock=_;rw[X.o];rfl) (gF k a,.slice m a.who.length i) (.inr (by
        show Rob _ (fun u=>dS u (.slice m a.who.length i) (gF k a).who) W0;rw[Iu];exact bm.o.below O))
       rw[E]at ak H
       have ad:=h2.mono (jW (eP A cA.toList (j*11) W0).2.2.2)
       have P:PN (dt B gD (lw d k (j+1)) (t.add w.heap.size) W/\Kd gD (t.add w.heap.size) (t.add w.heap.size) V W):=by
        refine⟨dt.below ?_ ad,((bh.o.trans (Kd.of O)).trans H).trans (Kd.of ad)⟩;rw[<-yf HA.o];exact⟨Mz bk.o bg.o (by rw[wg HA.o]),_,_,_,_,_,_,ak⟩
       clear hM hJ ak H O h2 ad aC nX zA E a3 r
       go_wp2_with fail
       go_roundw
       case rel=>exact⟨j+1,by go_num,by omega,P.o⟩
       case measure=>simp[intOf];omega
    ·have aU:(a.st !=1)=true:=(by simpa using z)
     have P:PN (dt B gD (lw d k (j+1)) (t.add w.heap.size) f/\Kd gD (t.add w.heap.size) (t.add w.heap.size) V f):=by
      refine⟨?_,a1.o.trans (Kd.of Y.o)⟩;rw[<-yf HA.o];have e:gF k a=a:=(by unfold gF;rw[aD z]);rw[e,Ko (wg HA.o)];exact HD.o.below Y.o
     clear z y1 nB;go_wp2_with(first|(refine wpList_load_mid rfl 45 _ rfl A (j*11) rfl (apC (a,.slice m a.who.length i)).toList _ x apT rfl (by kernel_rfl) ?_;clear x)|(refine ay rfl 45 _ _ rfl _ _ rfl rfl _ _ U (by kernel_rfl) rfl (iJ _ _ _ _) ?_;rw[Q];clear U Q))
     go_roundw;case rel=>exact⟨j+1,by go_num,by omega,P.o⟩
     case measure=>simp[intOf];omega
   ·have a7: ¬(j:Int)<(n:Int):=(by omega);obtain rfl:n=j:=(by omega)
    have nq:wr.heap[w.heap.size]? =ah #[ag 0,ag 0,ag 0,ag 0,af,af] 43:=by
     obtain⟨_,_,_,_,_,_,_,S⟩:=Z.o;exact(I.blk w.heap.size (S.nx w.heap.size (bq ..)).2.2 (aH nA)).trans nA
    have HO:=aF (fB hd (Kd.opened a0.o I) (aB _) (anC (noA 0) (af) (af)));have HR:=aF (aL _ _ _ (anC (noA 0) (af) (af)) _ _ nq);clear hd I nA;go_wp2_with(refine ay rfl 43 _ _ rfl _ _ rfl rfl _ _ nq (by kernel_rfl) rfl (by simp[Value.oneCell']) ?_)
    refine aW (v:= .agg (anC (noA 0) (af) (af))) ?_ rfl ?_
    ·exact bc rfl _ _ w.heap.size _ _ _ _ rfl HR.o anT rfl (by kernel_rfl)
    ·rw[HP.o];exact⟨_,_,_,rfl,HO.o.1,HO.o.2,ff _ _,et _ _⟩
end
end
theorem vA {e:Func}(m:e.results= #[ResultVar.cell 2 45,ResultVar.tmp 3]){R:Ending->World->Prop}{a:Act}{w:World}(g:Nat)(c:Array Value)(er:Int)(k:c.size=11)(l:a.defers=[])(f:a.tmps.getD 2 undef=ab g 0)(i:a.tmps.getD 3 undef=ag er)
  (n:w.heap[g]? =ah c 45) (j:R (.returned (.tuple #[.agg c,ag er])) w):bodyPost prog e R .ret a w:=by
 refine aW (v:= .tuple #[.agg c,ag er]) ?_ l j;have b:a.tmps[2]?.getD undef=ab g 0:=by simpa using f
 have d:a.tmps[3]?.getD undef=ag er:=by simpa using i
 have o:=dX (P:=prog) w g 45 45 _ _ _ n apT rfl (by rw[k];kernel_rfl);simp[results,m,b,d,asAddr,o]
theorem Dh (a:Ap)(p:Option Addr)(c:Nat)(w:World):Calls prog 14 #[.agg (apC (a,.slice p a.who.length c))] w fun e w'=>e= .returned (.tuple #[.agg (apC (eB a 2,.slice p a.who.length c)),ag 0])/\aq w w':=by
 obtain⟨m,t,f,l⟩:=nb w (apC (a,.slice p a.who.length c)) 45;obtain⟨s,r,g,d⟩:=nb m apZ 45;unfold apZ at r d;have b:=bt g l;have j:=aw f g;have i:=rG a 2 p c s;go_enter func14,ntmps14;go_wp2_with(refine aR rfl 45 _ rfl _ rfl _ _ _ _ b apT rfl (by kernel_rfl) ?_)
 refine i.mono ?_;rintro e u ⟨rfl,b1⟩;have k:=bt b1 d;have n:=aF (below_setRow (aw j b1) f.size (apC (eB a 2,.slice p a.who.length c)));have q:=aF (aL _ _ _ (apC (eB a 2,.slice p a.who.length c)) _ _ k);clear i b1 d l b j;go_wp2_with(refine ay rfl 45 _ _ rfl _ _ rfl rfl _ _ k (by kernel_rfl) rfl (iJ _ _ _ _) ?_)
 exact vA rfl m.heap.size _ 0 rfl rfl rfl rfl q.o ⟨rfl,n.o⟩
theorem Fz (a:Ap)(p:Option Addr)(c:Nat)(w:World):Calls prog 16 #[.agg (apC (a,.slice p a.who.length c))] w fun e w'=>e= .returned (.tuple #[.agg (apC (eB a 3,.slice p a.who.length c)),ag 0])/\aq w w':=by
 obtain⟨m,t,f,l⟩:=nb w (apC (a,.slice p a.who.length c)) 45;obtain⟨s,r,g,d⟩:=nb m apZ 45;unfold apZ at r d;have b:=bt g l;have j:=aw f g;have i:=rG a 3 p c s;go_enter func16,ntmps16;go_wp2_with(refine aR rfl 45 _ rfl _ rfl _ _ _ _ b apT rfl (by kernel_rfl) ?_)
 refine i.mono ?_;rintro e u ⟨rfl,b1⟩;have k:=bt b1 d;have n:=aF (below_setRow (aw j b1) f.size (apC (eB a 3,.slice p a.who.length c)));have q:=aF (aL _ _ _ (apC (eB a 3,.slice p a.who.length c)) _ _ k);clear i b1 d l b j;go_wp2_with(refine ay rfl 45 _ _ rfl _ _ rfl rfl _ _ k (by kernel_rfl) rfl (iJ _ _ _ _) ?_)
 exact vA rfl m.heap.size _ 0 rfl rfl rfl rfl q.o ⟨rfl,n.o⟩
theorem O2:(prog.info? 23).map (fun i=>(i.zero,i.size,i.bytes))=some (some (af),1,24):=by kernel_rfl
theorem svT:prog.underlying 29=some (.struct (prog.fieldsOf 29)):=by kernel_rfl
theorem uV (s:Sv)(p:Option Addr)(n c:Nat):(svC (s,.slice p n c)).all (·.oneCell')=true:=by simp[svC,Value.oneCell']
structure FA (B:Nat)(v:Value)(ls:List (List Int))(vs:List Value)(w:World):Prop where
 o:w.ownsRow B 23 1 v ls.length vs
 each: ∀(i:Nat) (l:List Int) (u:Value),ls[i]? =some l->vs[i]? =some u->w.ownsRow B 3 1 u l.length (dp l)
theorem pt {w:World}{B:Nat}{v:Value}{l:List Int}(h:w.ownsRow B 3 1 v l.length (dp l))(i:l.length<9223372036854775808):dS w v l:=by
 obtain⟨p,c,b⟩:=df h;refine⟨p,c,b,i,fun j x a=> ?_⟩;obtain⟨g,k,e,_,f⟩:=r7 h (by have:=(aG.1 a).1;omega);rw[b]at e;injection e with d _ _;refine⟨g,0,d,?_⟩;rw[bN];exact f j _ (by unfold dp;rw[bg,a];rfl)
theorem FA.rob {B:Nat}{v:Value}{a:List (List Int)}{d:List Value}{w:World}(h:FA B v a d w)(A:a.length<9223372036854775808)(D: ∀l∈a,l.length<9223372036854775808):Rob (fun q=>B<=q) (fun u=>fk u v a) w:=fun u _ ha=>by
 have m: ∀{e n:Nat} {x:Value} {xs:List Value},w.ownsRow B e 1 x n xs->u.ownsRow B e 1 x n xs:=fun h=>br h fun b k=>ha b (h.lt b k).1 (h.lt b k).2;have f:=m h.o;have C:d.length=a.length:=by have:=f.1;omega
 obtain⟨p,c,r⟩:=df f;refine⟨p,c,r,A,fun j l i=> ?_⟩;have z:=(aG.1 i).1;obtain⟨x,s⟩: ∃x,d[j]? =some x:=⟨d[j]'(by omega),az _⟩
 obtain⟨g,E,e,_,y⟩:=r7 f (by omega);rw[r]at e;injection e with t _ _;exact⟨g,0,x,t,by rw[bN];exact y j x s,pt (m (h.each j l x i s)) (D l (aM i))⟩
theorem FB (s:Sv)(p:Option Addr)(c:Nat)(w:World)(h:fk w (.slice p s.roles.length c) s.roles)(hl:s.roles.length<=1000)(hp: ∀l∈s.roles,l.length<=1000):Calls prog 26 #[.agg (svC (s,.slice p s.roles.length c))] w fun e w'=> ∃p' c',e= .returned (.agg (svC (s,.slice p' s.roles.length c')))/\Rob (fun q=>w.heap.size<=q) (fun u=>fk u (.slice p' s.roles.length c') s.roles) w'/\aq w w':=by
 obtain⟨P,hA,bA,nA⟩:=nb w (svC (s,.slice p s.roles.length c)) 29;obtain⟨wB,hB,bB,nB⟩:=nb P #[ag 0,ag 0,ag 0,af] 29;have O:=bt bB nA;have y:=aw bA bB;have hr:=h.below y;obtain⟨n,hn⟩:=au s.roles.length;have z3:wB.cell? (ae w.heap.size 3)=some (.slice p n c):=by rw[<-hn];exact cr 3 O rfl
 have F:=aF hn;have HR:=aF hr;have HB:=aF y;have HP:=aF hp;have av:w.heap.size<=wB.heap.size:=y.size;rw[hn]at hl;have a2:(n:Int)<=1000:=by omega
 clear h hn hr hp nA bA bB y;go_enter func26,ntmps26;go_wp2_with fail;go_loopw [3,5,9] (fun v _ q wr=> ∃(j:Nat) (vs:List Value),q=ag (j:Int)/\j<=n/\aq wB wr/\FA wB.heap.size v (s.roles.take j) vs wr) (fun _ _ q _=>n-(intOf q).toNat);case atStart=>exact⟨0,[],rfl,by omega,aI _ _,dc _ _ _ _,fun i l u hi=>by simp at hi⟩
 case round=>
  obtain⟨j,vs,rfl,hj,a,r⟩:=hrel;have a0:(0:Int)<=(j:Int):=(by omega);by_cases a1:j<n
  ·have V:(j:Int)<(n:Int):=(by omega);obtain⟨l,C⟩: ∃l,s.roles[j]? =some l:=⟨s.roles[j]'(by have:=F.o;omega),az _⟩
   obtain⟨p0,c0,e0,N,U⟩:=HR.o;injection e0 with e1 e3 e2;subst e1 e2;obtain⟨g,o,sv,e4,hc,I⟩:=U j l C;subst e4;clear e3 N U;have ad:=aj a hc;have cC:=yd l sv wr (I.below a) (HP.o l (aM C));obtain⟨ps,cs,ao,N,an⟩:=I;subst ao;have HL:=aF C;have L:=aF r;have S:=aF a;clear N an C hc r a;go_wp2_with fail;refine cC.mono ?_;rintro e w1 ⟨v1,rfl,D,b1⟩;obtain⟨p1,c1,ap⟩:=df D;subst ap;obtain⟨wC,hC,bC,nC⟩:=nb w1 #[.slice p1 l.length c1] 23;have A:=aw b1 bC;have f:=br L.o.o fun b G=>A.block b (L.o.o.lt b G).2;have B:=aw S.o A;have al:(s.roles.take j).length=j:=(by rw[eE,F.o];omega);rw[al]at f;have K:=aF (br D fun b G=>bC.block b (D.lt b G).2);have R:=aF A;clear cC D b1 bC ad A;go_wp2_with(at_builtin;refine iB rfl _ _ 27 23 rfl BV O2 rfl (by decide) (by decide) rfl f rfl nC rfl (by simp[Value.oneCell']) (by omega) B.size ?_)
   rintro v2 w2 X M _ g2 c2 rfl;have z:=B.grown M B.size (fun k hk=>(f.lt k hk).1)
   have T:PN (FA wB.heap.size (.slice (some (ae g2 0)) (j+1) c2) (s.roles.take (j+1)) (vs++[.slice p1 l.length c1]) w2):=by
    have W: ∀{x:Value} {m:Nat} {xs:List Value} {B':Nat},wC.ownsRow B' 3 1 x m xs->w2.ownsRow B' 3 1 x m xs:=fun Q=>br Q fun b y=>M.block b (Q.lt b y).2 (fun e=>po Q f (by decide) y e.symm);have ar:vs.length=j:=(by have:=f.1;omega);refine⟨?_,fun i l' u hi hu=> ?_⟩
    ·rw[eE,F.o,fj (by omega)];exact X
    ·by_cases e:i=j
     ·subst e;rw[dK (by omega),HL.o]at hi;have:l=l':=aN hi;subst this;rw[dj (by omega),ar,iO]at hu;have:Value.slice p1 l.length c1=u:=aN hu;subst this;refine W ⟨K.o.1,?_⟩;rcases K.o.2 with q|⟨gq,cq,cu,q1,q2,q3⟩
      ·exact .inl q
      ·exact .inr ⟨gq,cq,cu,q1,bf S.o.size q2,q3⟩
     ·have ai:i<j:=by
       have:=(aG.1 hi).1;rw[eE]at this;omega
      rw[dK (by omega)]at hi;rw[du (by omega)]at hu;have Q:=L.o.each i l' u (by rw[dK ai];exact hi) hu;exact W (br Q fun b y=>R.o.block b (Q.lt b y).2)
   clear f X M B nC hC K R;go_wp2_with fail;go_roundw;case rel=>exact⟨j+1,_,by go_num,by omega,z,T.o⟩
   case measure=>simp[intOf];omega
  ·have V: ¬(j:Int)<(n:Int):=(by omega);obtain rfl:n=j:=(by omega);have aa:s.roles.take n=s.roles:=cQ (by rw[F.o];exact aB _);rw[aa]at r;have ho:=r.o;rw[F.o]at ho;obtain⟨t,d,hv⟩:=df ho;subst hv;have E:=bt a O;have ab:=bt a nB
   have ax:w.heap.size<P.heap.size:=by
    have:=hA▸(aH (aE w (.cells (svC (s,.slice p s.roles.length c)) 29)));omega
   have J:w.heap.size≠P.heap.size:=(by omega);have x3:=bl _ _ 3 _ _ E;have y3:wr.cell? (ae w.heap.size 3)=some (.slice p n c):=aj a z3;have nC:(wr.setCell ⟨w.heap.size,3,none⟩ (.slice t n d)).heap[w.heap.size]? =ah (svC (s,.slice t n d)) 29:=aY wr w.heap.size 3 _ _ _ E;have nD:=(aO wr ⟨w.heap.size,3,none⟩ P.heap.size (.slice t n d) (fun e=>J e.symm)).trans ab;have z:=(aw HB.o a).setCell (p:=⟨w.heap.size,3,none⟩) (aB _) (.slice t n d);have H:=r.rob (by rw[F.o];omega) (fun l ak=>by have:=HP.o l ak;omega);have Y: ∀q,q≠w.heap.size->(wr.setCell ⟨w.heap.size,3,none⟩ (.slice t n d)).heap[q]? =wr.heap[q]? :=fun q G=>aO _ _ _ _ G;have Z:(wr.setCell ⟨w.heap.size,3,none⟩ (.slice t n d)).heap.size=wr.heap.size:=(by simp);generalize a3:wr.setCell ⟨w.heap.size,3,none⟩ (.slice t n d)=wC at*;have a4:=aH nB
   have HO:PN (Rob (fun q=>w.heap.size<=q) (fun u=>fk u (.slice t n d) s.roles) (wC.setRow P.heap.size (svC (s,.slice t n d)))/\aq w (wC.setRow P.heap.size (svC (s,.slice t n d)))):=by
    refine⟨H.move (by simp;rw[Z];exact aB _) (fun q G _=> ?_) (fun q _ G=>bf av G),below_setRow z (by have:=aH E;have:=hA▸(am w (.cells (svC (s,.slice p s.roles.length c)) 29)).size;exact this) _⟩;exact(aV _ _ _ _ (by omega)).trans (Y q (by omega))
   have ac:=aF (aL _ _ _ (svC (s,.slice t n d)) _ _ nD);clear r ho H Y Z z E ab O J aa z3;go_wp2_with(first|(refine aR rfl 29 _ rfl _ rfl _ _ _ _ nC svT rfl (by kernel_rfl) ?_)|(refine ay rfl 29 _ _ rfl _ _ rfl rfl _ _ nD (by kernel_rfl) rfl (uV _ _ _ _) ?_))
   refine aW (v:= .agg (svC (s,.slice t n d))) ?_ rfl ⟨t,d,by rw[F.o],by rw[F.o];exact HO.o.1,HO.o.2⟩;exact bc rfl _ _ P.heap.size _ _ _ _ rfl ac.o svT rfl (by kernel_rfl)
section
theorem MA {l:List Ru}{r x:Int}(h:x∈gg l r): ∃k:Nat,x=(k:Int)/\k<l.length:=by
 unfold gg at h;split at h
 ·cases h
 ·obtain⟨k,a,rfl⟩:=dV.1 h;exact⟨k,rfl,jf.1 (List.mem_filter.1 a).1⟩
theorem As (f:Int->Bool): ∀l:List Int,(jn (fun x (s:Unit)=>(f x,s)) l ()).1=l.any f
 |[]=>rfl
 |x::l=>by
  unfold jn;rw[List.any_cons];cases h:f x with
  |true=>simp
  |false=>simpa using As f l
def ud (d:Dk)(l:List Ru)(i:Nat):Int:=if jo d.rules l (i:Int)=true\/(gg l (i:Int)).any (jo d.rules l)=true then d.given else d.vers.getD i 0
def nT (d:Dk)(l:List Ru):List Int:=(List.range l.length).map (ud d l)
theorem ue (d:Dk){l:List Ru}{j:Nat}(a:j<l.length):(nT d l).take (j+1)=(nT d l).take j++[ud d l j]:=by
 unfold nT;rw[fD,bg,List.getElem?_range a];rfl
section
variable {B gD:Nat} {d:Dk} {t:Tr}
theorem Kr {v2:Value}{R:List (Ru×Value)}(w:World)(h:dt B gD d t w)(hu:InR w v2 R)(hl:R.length<=1000):Calls prog 22 #[ab gD 0,v2] w fun e w'=> ∃v',e= .returned v'/\w'.ownsRow w.heap.size 3 1 v' R.length (dp (nT d (R.map (fun p=>p.1))))/\aq w w':=by
 obtain⟨pn,cn,rfl⟩:=hu.form;obtain⟨wA,hA,bA,nA⟩:=nb w #[ab gD 0] 55;obtain⟨wB,a5,bB,nB⟩:=nb wA #[.slice pn R.length cn] 32;have M:=aw bA bB;have Q:=bt bB nA;obtain⟨z,N⟩:=au (R.map (fun p=>p.1));have Z:z.length=R.length:=by rw[<-N,ba]
 have HD:=aF (h.below M);have HU:=aF (hu.below M);obtain⟨n,hn⟩:=au R.length;have HL:=aF (Z.trans hn);rw[hn]at a5 nB hl Z;rw[N,hn];have HX:=aF N;have HN:=aF hn;have HB:=aF M;have aC:(n:Int)<=1000:=by omega
 have z1:=cr 0 Q rfl;have z2:=cr 0 nB rfl;obtain⟨al,rv,cv,vv,kv,ss,aa,hm⟩:=HD.o;have z6:=cr 6 hm.blk rfl;have z5:=cr 5 hm.blk rfl;obtain⟨pv,a9,rfl,a4,an⟩:=hm.vers.here;obtain⟨nv,P⟩:=au d.vers.length;rw[P]at z5;have HV:=aF an;have ar:=aF (P.symm.trans al.vl);have ap:=aF P;have eF: ∀S w,(callFunc 40 S).run prog w= .ok (.enter 40 S) w:=fun _ _=>rfl;clear h hu N Z hn bA bB M nA hm al an a4 P;go_enter func22,ntmps22;go_wp2_with fail;go_loopw [6,7,8,12] (fun v _ _ q wr=> ∃j:Nat,q=ag (j:Int)/\j<=n/\aq wB wr/\wr.ownsRow wB.heap.size 3 1 v j (dp ((nT d z).take j))) (fun _ _ _ q _=>n-(intOf q).toNat);case atStart=>exact⟨0,rfl,by omega,aI _ _,dc _ _ _ _⟩
 case round=>
  obtain⟨j,rfl,hj,r,A⟩:=hrel;have aA:(0:Int)<=(j:Int):=(by omega);by_cases O:j<n
  ·have ak:(j:Int)<(n:Int):=(by omega);have y1:=cr 0 (bt r Q) rfl;have y2:=cr 0 (bt r nB) rfl;have y6:=aj r z6;have y5:=aj r z5
   have cN: ∀(k:Nat) (W:World),k<n->aq wB W->Calls prog 40 #[ag (k:Int),ab w.heap.size 0,ab wA.heap.size 0] W fun e w'=>e= .returned (.bool (jo d.rules z (k:Int)))/\aq W w':=fun k W J K=>by
    rw[<-HX.o];have hU:=HU.o.below K;exact Iq W (HD.o.below K) hU (by rw[HN.o];exact J) (bt K Q) (by rw[HN.o];exact bt K nB)
   have c1:=cN j wr O r;have Y:=aF cN;obtain⟨b1,f⟩:=au (jo d.rules z (j:Int));rw[f]at c1;have X:=aF f;have ao:=aF r;have l:=aF A;clear cN f r A;go_wp2_with fail;refine c1.mono ?_;rintro e w1 ⟨rfl,f⟩;have F:=aw ao.o f;cases b1 with
   |true=>
    have I:=aF f;clear c1 f Y
    have C:PN (ud d z j=d.given):=by
     show _=_;unfold ud;rw[aD (.inl X.o)]
    obtain⟨wC,hC,D,V⟩:=nb w1 #[ag d.given] 3;have a:=aw F D;have i:=br l.o fun b T=>(show wC.heap[b]? =wr.heap[b]? from(D.block b (aT (l.o.lt b T).2 I.o.size)).trans (I.o.block b (l.o.lt b T).2))
    clear D I y5;go_wp2_with(at_builtin;refine iB rfl _ _ 23 3 rfl qA oz rfl (by decide) (by decide) rfl i rfl V rfl (by simp[Value.oneCell']) (by omega) a.size ?_)
    rintro v2 w2 y u _ g2 c2 rfl;have m:=a.grown u a.size (fun k J=>(i.lt k J).1)
    have HO:PN (w2.ownsRow wB.heap.size 3 1 (.slice (some (ae g2 0)) (j+1) c2) (j+1) (dp ((nT d z).take (j+1)))):=by
     show World.ownsRow _ _ _ _ _ _ _;rw[ue d (by rw[HL.o];exact O),C.o,lq];exact y
    clear i y u a V hC;go_wp2_with fail;go_roundw;case rel=>exact⟨j+1,by go_num,by omega,m,HO.o⟩
    case measure=>simp[intOf];omega
   |false=>
    have a6:=aj f y2;have a7:=aj f y6;have ac:=aj f y5;have cU:=JD R (.slice pn n cn) (j:Int) w1 (by have:=HU.o.below F;rw[HN.o]at this;exact this);rw[HX.o]at cU;have af:=aF f;clear c1 f y1 y2 y5 y6;go_wp2_with fail;refine cU.mono ?_;rintro e w3 ⟨v3,rfl,am,L⟩;have G:=aw F L;have ah:=aF (aw af.o L)
    have cC:=pD (fun x (s:Unit)=>(jo d.rules z x,s)) (fun _ W=>aq w3 W) 40 #[ab w.heap.size 0,ab wA.heap.size 0] (gg z (j:Int)) v3 () w3 eF (aI _ _) (fun _ W K=>am.below K) (fun x hx _ W K=>by
     obtain⟨k,rfl,J⟩:=MA hx;rw[HL.o]at J;exact(Y.o k W J (aw G K)).mono fun e w' hh=>⟨hh.1,aw K hh.2⟩)
    rw[As]at cC;obtain⟨p3,c3,rfl,a2,a3⟩:=am;obtain⟨b2,m⟩:=au ((gg z (j:Int)).any (jo d.rules z));rw[m]at cC;have ad:=aF m;have x5:=(L.cell (bP ac)).trans ac;have x1:=cr 0 (bt G Q) rfl;clear cU a2 a3 m L a6 a7 ac af Y;go_wp2_with fail;refine cC.mono ?_;rintro e w4 ⟨rfl,E⟩;have H:=aw G E;have I:=aF (aw ah.o E);have u5:=aj E x5;have u1:=aj E x1;clear cC E ah x5 x1;cases b2 with
    |true=>
     have C:PN (ud d z j=d.given):=by
      show _=_;unfold ud;rw[aD (.inr ad.o)]
     obtain⟨wC,hC,D,V⟩:=nb w4 #[ag d.given] 3;have a:=aw H D;have i:=br l.o fun b T=>(show wC.heap[b]? =wr.heap[b]? from(D.block b (aT (l.o.lt b T).2 I.o.size)).trans (I.o.block b (l.o.lt b T).2))
     clear D I u5 u1;go_wp2_with(at_builtin;refine iB rfl _ _ 23 3 rfl qA oz rfl (by decide) (by decide) rfl i rfl V rfl (by simp[Value.oneCell']) (by omega) a.size ?_)
     rintro v2 w2 y u _ g2 c2 rfl;have m:=a.grown u a.size (fun k J=>(i.lt k J).1)
     have HO:PN (w2.ownsRow wB.heap.size 3 1 (.slice (some (ae g2 0)) (j+1) c2) (j+1) (dp ((nT d z).take (j+1)))):=by
      show World.ownsRow _ _ _ _ _ _ _;rw[ue d (by rw[HL.o];exact O),C.o,lq];exact y
     clear i y u a V hC;go_wp2_with fail;go_roundw;case rel=>exact⟨j+1,by go_num,by omega,m,HO.o⟩
     case measure=>simp[intOf];omega
    |false=>
     have a0:j<nv:=by
      apply dT;intro hc;have h1:=X.o;have h2:d.rules[j]? =none:=eX (by have:=ar.o;omega);unfold jo at h1;rw[cj,h2]at h1;cases h1
     have a8:(j:Int)<(nv:Int):=(by omega);obtain⟨x,hx⟩: ∃x,d.vers[j]? =some x:=⟨d.vers[j]'(by have:=ap.o;omega),az _⟩
     obtain⟨gv,ov,a1,ai⟩:=HV.o j x hx;subst a1;have uv:=aj H ai;have av:=aF hx;clear ai hx a0
     have C:PN (ud d z j=x):=by
      show _=_;unfold ud;rw[ax (by rw[X.o,ad.o];simp)];simp[List.getD,av.o]
     obtain⟨wC,hC,D,V⟩:=nb w4 #[ag x] 3;have a:=aw H D;have i:=br l.o fun b T=>(show wC.heap[b]? =wr.heap[b]? from(D.block b (aT (l.o.lt b T).2 I.o.size)).trans (I.o.block b (l.o.lt b T).2))
     clear D I;go_wp2_with(at_builtin;refine iB rfl _ _ 23 3 rfl qA oz rfl (by decide) (by decide) rfl i rfl V rfl (by simp[Value.oneCell']) (by omega) a.size ?_)
     rintro v2 w2 y u _ g2 c2 rfl;have m:=a.grown u a.size (fun k J=>(i.lt k J).1)
     have HO:PN (w2.ownsRow wB.heap.size 3 1 (.slice (some (ae g2 0)) (j+1) c2) (j+1) (dp ((nT d z).take (j+1)))):=by
      show World.ownsRow _ _ _ _ _ _ _;rw[ue d (by rw[HL.o];exact O),C.o,lq];exact y
     clear i y u a V hC;go_wp2_with fail;go_roundw;case rel=>exact⟨j+1,by go_num,by omega,m,HO.o⟩
     case measure=>simp[intOf];omega
  ·have ak: ¬(j:Int)<(n:Int):=(by omega);obtain rfl:n=j:=(by omega);have ay:=aw HB.o r
   have U:wr.ownsRow w.heap.size 3 1 u6 n (dp (nT d z)):=by
    rw[cQ (by unfold nT;rw[ba,List.length_range,HL.o];exact aB _)]at A;exact⟨A.1,A.2.imp id fun⟨g,c,cu,q1,q2,q3⟩=>⟨g,c,cu,q1,bf HB.o.size q2,q3⟩⟩
   have HR:=aF U;clear A U;go_wp2_with fail;go_ret;exact⟨_,rfl,HR.o,ay⟩
end
end
def NmK:Nat->List Ex->Prop
 |0,_=>True
 |d+1,a=> ∀(j:Nat) (k:Ex),a[j]? =some k->k.name.length<=9223372036854775807/\NmK d k.kids
theorem D5: ∀d,NmK d []
 |0=>trivial
 |d+1=>fun j k h=>by simp at h
theorem Ci {k:Ex}{a:List Ex}(b:k.name.length<=9223372036854775807)(c: ∀d,NmK d k.kids)(e: ∀d,NmK d a): ∀d,NmK d (k::a)
 |0=>trivial
 |d+1=>fun j q h=>by
  cases j with
  |zero=>
   simp at h;subst h;exact⟨b,c d⟩
  |succ j=>exact e (d+1) j q (by simpa using h)
theorem vB {B:Nat->Prop}: ∀{d:Nat} {w:World} {sl:Value} {a:List Ex},dy B d w sl a->NmK d a->fZ (fun k=>k<w.heap.size) d w sl a
 |0,_,_,_,h,_=>h
 |d+1,w,sl,a,h,t=>by
  rcases h with h|⟨g,o,c,A,m,s,i⟩
  ·exact .inl h
  ·by_cases e:a=[]
   ·subst e;exact .inl ⟨rfl,_,c,m⟩
   ·obtain⟨k0,b⟩: ∃k,a[0]? =some k:=by
     cases a with
     |nil=>exact absurd rfl e
     |cons x l=>exact⟨x,rfl⟩
    obtain⟨_,y,_⟩:=i 0 k0 b;refine .inr ⟨g,o,c,bP y,m,s,fun j k f=> ?_⟩;obtain⟨z,c0,c1,n,p,q,r⟩:=i j k f;obtain⟨u,v⟩:=t j k f;exact⟨u,z,c0,c1,n,p,q,vB r v⟩
def NmR (L:List Ru):Prop:= ∀p∈L,p.1.length<=9223372036854775807/\p.2.name.length<=9223372036854775807/\ ∀d,NmK d p.2.kids
theorem Di {w0 w:World}{v:Value}{a:List (Ru×Value)}(h:mB w0 w v a)(j:a.length<=40)(e:NmR (a.map (fun p=>p.1))):InR w v a:=by
 refine⟨Bt h.own (by omega),by omega,fun p b=> ?_⟩;obtain⟨d,c⟩:=h.kids p b;obtain⟨f,g,i⟩:=e p.1 (dV.2 ⟨p,b,rfl⟩);exact⟨f,g,d,vB c (i d)⟩
theorem FC (l:List UInt8):(firstT l).text.length<=20:=by
 unfold firstT lg oK mx kQ j8 bad;repeat' split
 all_goals simp
 all_goals omega
def NmX (e:Ex):Prop:=e.name.length<=20/\ ∀d,NmK d e.kids
theorem uW (k a b:Int){x:List UInt8}(h:x.length<=20):NmX ⟨k,a,b,x,[]⟩:=⟨h,D5⟩
theorem yO (k a b:Int){t:Ex}(h:NmX t):NmX ⟨k,a,b,[],[t]⟩:=⟨by simp,Ci (by have:=h.1;omega) h.2 D5⟩
theorem yP (k a b:Int){s t:Ex}(h:NmX s)(c:NmX t):NmX ⟨k,a,b,[],[s,t]⟩:=⟨by simp,Ci (by have:=h.1;omega) h.2 (yO k a b c).2⟩
def Gd (r:List Tk):Prop:= ∀q∈r,q.1.text.length<=20
theorem Gd.tl {r:List Tk}(h:Gd r):Gd r.tail:=fun q a=>h q (List.mem_of_mem_tail a)
theorem Gd.text {r:List Tk}(h:Gd r):(textP r).length<=20:=by
 cases r with
 |nil=>exact dw _
 |cons p r=>exact h p bq
theorem Gd.shift {r:List Tk}(h:Gd r):Gd (fH r):=by
 unfold fH;split
 ·exact h.tl.tl
 ·exact h.tl
theorem ifo {c:Prop}[Decidable c]{α:Type}{x y z:α}(h:(if c then x else y)=z):x=z\/y=z:=by
 by_cases a:c
 ·rw[aD a]at h;exact .inl h
 ·rw[ax a]at h;exact .inr h
theorem Iv (E:Nat): ∀(f m d:Nat) (e:Ex) (r:List Tk) (n:Nat) (q:Ex) (s:List Tk) (u:Nat),m<=8->(m=1\/m=3\/m=5->NmX e)->Gd r->goP E f m d e r n= .ok (q,s,u)->NmX q/\Gd s
 |0,m,d,e,r,n,q,s,u,_,_,_,h=>(dG h).elim
 |f+1,m,d,e,r,n,q,s,u,x,t,b,h=>by
  have c:=Iv E f;match m,x with
  |0,_=>
   rw[ux]at h;obtain⟨k,r1,p,j,g⟩:=dz h;have a:=c 2 _ _ _ _ _ _ _ (by omega) (by omega) b j;exact c 1 _ _ _ _ _ _ _ (by omega) (fun _=>a.1) a.2 g
  |1,_=>
   rw[uy]at h;have i:=t (by omega);rcases ifo h with h|h
   ·obtain⟨k,r1,p,j,g⟩:=dz h;obtain⟨e2,w,v,l,o⟩:=dz g;have a:=c 2 _ _ _ _ _ _ _ (by omega) (by omega) b.tl j;cases dM l;exact c 1 _ _ _ _ _ _ _ (by omega) (fun _=>yP _ _ _ i a.1) a.2 o
   ·rcases ifo h with h|h
    ·obtain⟨k,r1,p,j,g⟩:=dz h;obtain⟨e2,w,v,l,o⟩:=dz g;have a:=c 2 _ _ _ _ _ _ _ (by omega) (by omega) b.tl j;cases dM l;exact c 1 _ _ _ _ _ _ _ (by omega) (fun _=>yP _ _ _ i a.1) a.2 o
    ·cases h;exact⟨i,b⟩
  |2,_=>
   rw[uz]at h;obtain⟨k,r1,p,j,g⟩:=dz h;have a:=c 4 _ _ _ _ _ _ _ (by omega) (by omega) b j;exact c 3 _ _ _ _ _ _ _ (by omega) (fun _=>a.1) a.2 g
  |3,_=>
   rw[uA]at h;have i:=t (by omega);rcases ifo h with h|h
   ·obtain⟨k,r1,p,j,g⟩:=dz h;obtain⟨e2,w,v,l,o⟩:=dz g;have a:=c 4 _ _ _ _ _ _ _ (by omega) (by omega) b.tl j;cases dM l;exact c 3 _ _ _ _ _ _ _ (by omega) (fun _=>yP _ _ _ i a.1) a.2 o
   ·cases h;exact⟨i,b⟩
  |4,_=>
   rw[uB]at h;obtain⟨k,r1,p,j,g⟩:=dz h;have a:=c 6 _ _ _ _ _ _ _ (by omega) (by omega) b j;exact c 5 _ _ _ _ _ _ _ (by omega) (fun _=>a.1) a.2 g
  |5,_=>
   rw[uC]at h;have i:=t (by omega);rcases ifo h with h|h
   ·rcases ifo h with h|h
    ·exact(dG h).elim
    ·rcases ifo h with h|h
     ·exact(dG h).elim
     ·obtain⟨e2,w,v,l,o⟩:=dz h;cases dM l;exact c 5 _ _ _ _ _ _ _ (by omega) (fun _=>yO _ _ _ i) b.shift.tl o
   ·cases h;exact⟨i,b⟩
  |6,_=>
   rw[uD]at h;rcases ifo h with h|h
   ·exact(dG h).elim
   ·rcases ifo h with h|h
    ·obtain⟨k,r1,p,j,g⟩:=dz h;have a:=c 0 _ _ _ _ _ _ _ (by omega) (by omega) b.tl j;rcases ifo g with g|g
     ·cases g;exact⟨a.1,a.2.tl⟩
     ·exact(dG g).elim
    ·rcases ifo h with h|h
     ·cases dM h;exact⟨uW _ _ _ (by simp),b.tl⟩
     ·rcases ifo h with h|h
      ·cases dM h;exact⟨uW _ _ _ (by simp),b.tl⟩
      ·rcases ifo h with h|h
       ·exact c 7 _ _ _ _ _ _ _ (by omega) (by omega) b.tl h
       ·rcases ifo h with h|h
        ·rcases ifo h with h|h
         ·exact(dG h).elim
         ·rcases ifo h with h|h
          ·rcases ifo h with h|h
           ·exact(dG h).elim
           ·rcases ifo h with h|h
            ·exact(dG h).elim
            ·exact c 8 _ _ _ _ _ _ _ (by omega) (by omega) b.tl.tl.tl.tl h
          ·exact c 8 _ _ _ _ _ _ _ (by omega) (by omega) b.tl.tl h
        ·rcases ifo h with h|h
         ·cases dM h;exact⟨uW _ _ _ b.text,b.tl⟩
         ·rcases ifo h with h|h
          ·exact(dG h).elim
          ·rcases ifo h with h|h
           ·rcases ifo h with h|h
            ·exact(dG h).elim
            ·rcases ifo h with h|h
             ·exact(dG h).elim
             ·cases dM h;exact⟨uW _ _ _ (by simp),b.tl.tl.tl⟩
           ·exact(dG h).elim
  |7,_=>
   rw[uE]at h;rcases ifo h with h|h
   ·exact(dG h).elim
   ·rcases ifo h with h|h
    ·exact c 7 _ _ _ _ _ _ _ (by omega) (by omega) b.tl.tl h
    ·exact c 8 _ _ _ _ _ _ _ (by omega) (by omega) b.tl h
  |8,_=>
   rw[uF]at h;rcases ifo h with h|h
   ·obtain⟨k,r1,p,j,g⟩:=dz h;have a:=c 4 _ _ _ _ _ _ _ (by omega) (by omega) b.tl j;cases dM g;exact⟨yO _ _ _ a.1,a.2⟩
   ·exact(dG h).elim
theorem Au (E:Nat): ∀(f:Nat) (c:List Ru) (r:List Tk) {L:List Ru},Gd r->(∀u∈c,u.1.length<=20/\NmX u.2)->iT E f c r= .ok L-> ∀u∈L,u.1.length<=20/\NmX u.2
 |0,c,r,L,_,ha,h=>by cases h;exact ha
 |f+1,c,r,L,e,ha,h=>by
  unfold iT at h;split at h
  ·cases h;exact ha
  ·split at h
   ·split at h
    ·cases h
    ·unfold oQ at h;split at h
     ·cases h
     ·rename_i b;split at b
      ·cases b
      ·split at b
       ·split at b
        ·cases b
        ·rename_i g;split at b
         ·cases b
         ·split at b
          ·cases b;have a:=Iv E _ 0 _ _ _ _ _ _ _ (by omega) (by omega) e.tl.tl.tl g
           exact Au E f _ _ a.2.tl (fun u d=>by
            rcases bU.1 d with d|d
            ·exact ha u d
            ·rw[bT.1 d];exact⟨e.tl.text,a.1⟩) h
          ·cases b
       ·cases b
   ·cases h
theorem FD {l:List UInt8}{a:List Tk}{k:Nat}(h:fG l a k):Gd a:=by
 obtain⟨n,c⟩:=h;refine fG.ind (M:=fun a _=>Gd a) (fun p b=>by cases b) ?_ n c;intro a k _ _ _ d p b;rcases bU.1 b with h|h
 ·exact d p h
 ·rw[show p=(firstT (l.drop k),k) by simpa using h];exact FC _
theorem mB.rob {c w:World}{v:Value}{a:List (Ru×Value)}(h:mB c w v a)(e:a.length<=40)(k:NmR (a.map (fun p=>p.1))):Rob (fun q=>c.heap.size<=q) (fun u=>InR u v a) w:=fun u _ ha=>
 Di (w0:=c) ⟨br h.own fun b f=>ha b (h.own.lt b f).1 (h.own.lt b f).2,fun p l=>by
  obtain⟨d,i⟩:=h.kids p l;exact⟨d,i.kept fun g j e=>ha g j e⟩⟩ e k
end Go.Proofs.YtaoljfdfhggbbaaGreatDoor
