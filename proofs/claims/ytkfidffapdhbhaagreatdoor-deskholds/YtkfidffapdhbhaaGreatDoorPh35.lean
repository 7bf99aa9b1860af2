/- Texts of the proof. -/
import Derived.Test.YtkfidffapdhbhaaGreatDoorPh34
import Derived.Test.YtkfidffapdhbhaaGreatDoorPh33
set_option maxRecDepth 100000
set_option maxHeartbeats 8000000
namespace Go.Proofs.YtkfidffapdhbhaaGreatDoor
open Go.Proofs.Tryz Go.RowKit Lx Vx Mx Msk
section
section
variable {B gD:Nat} {d:Dk} {t:Tr}
theorem sL (n:Int)(F:Nat)(caps:Array Value)(f:Ap->Dk->(Ap×Int)×Dk)(w:World)(h:dt B gD d t w)(eF: ∀args w,(callFunc F args).run prog w= .ok (.enter F args) w)
  (hbec: ∀(a:Ap) (p:Option Addr) (c:Nat) (W:World),a∈d.aps->dt B gD d (t.add w.heap.size) W->aq w W->Rob (Fx gD (t.add w.heap.size)) (fun u=>dS u (.slice p a.who.length c) a.who) W->Calls prog F (#[.agg (apC (a,.slice p a.who.length c))]++caps) W (uU B gD (f a d) (t.add w.heap.size) W))
  (hfok: ∀a∈d.aps,(f a d).1.2=0->ue d (f a d).1.1) (hfc: ∀a,Cor d (f a d).2):Calls prog 16 #[ab gD 0,ag n,.func (.func F) #[] caps] w (qF B gD (it d n f) t w):=by
 obtain⟨w1,h1,b1,n1⟩:=nb w #[ag 0,ag 0,ag 0,ag 0,af,af] 47;have s1:w1.heap.size=w.heap.size+1:=by rw[<-h1];simp
 have hd1:=h.opened (aB _) s1 b1;have HD1:=aG hd1;have HK1:PH (Kd gD t t w w1):=Kd.of b1;have HB1:=aG b1;have HG:PH (∀q,w.heap.size<=q->Gx gD t q):=fun q hq=>(h.fx (.inr hq)).1;have HBE:=aG hbec;have HFO:=aG hfok;have HFC:=aG hfc;obtain⟨hok,hdm⟩:=hd1;have HDM:=aG hdm;obtain⟨rv,cv,vv,kv,ss,aa,hm⟩:=hdm;have haa:aa.length=d.aps.length:=by rw[<-hm.ape,ba]
 obtain⟨pa,ca,hav⟩:=di hm.aps;obtain⟨na,hna⟩:=au d.aps.length;rw[haa,hna]at hav;have z3:w1.cell? (ae gD 3)=some (.slice pa na ca):=(cr (v:=t.av) 3 hm.blk rfl).trans (congrArg some hav);have HAV:PH (t.av= .slice pa na ca):=hav;have HNA:=aG hna;have hw1:w.heap.size<w1.heap.size:=by omega
 have cN:=pU n (na:Int) w1;obtain⟨c1,hb1⟩:=au (isN n (na:Int));rw[hb1]at cN;have HBN:=aG hb1;go_enter func16,ntmps16;go_wp2_with fail;refine cN.mono ?_;rintro e wa ⟨rfl,hwa⟩;subst hwa;cases c1 with
 |false=>
  have HP:PH (it d n f=(noA 6,d)):=(by show _=_;unfold it;rw[HNA.o,aD (.inl HBN.o)]);have cR:=eZ 6 wa;go_wp2_with fail;refine cR.mono ?_;rintro e w9 ⟨rfl,b9⟩;have n9:=bt b9 n1;have HO:=aG (fB (HD1.o.below b9) (HK1.o.trans (Kd.of b9)) (by omega) (anC (noA 6) (af) (af)));have HR:=aG (aL _ _ _ (anC (noA 6) (af) (af)) _ _ n9);go_wp2_with(refine ay rfl 47 _ _ rfl _ _ rfl rfl _ _ n9 (by kernel_rfl) rfl (by simp[anC,noA,Value.oneCell']) ?_)
  refine aW (v:= .agg (anC (noA 6) (af) (af))) ?_ rfl ?_
  ·exact bc rfl _ _ w.heap.size _ _ _ _ rfl HR.o anT rfl (by kernel_rfl)
  ·rw[HP.o];exact⟨t,_,_,rfl,HO.o.1,HO.o.2,fd _ _,et _ _⟩
 |true=>
  have hn:0<=n/\n<(na:Int):=(by have:=HBN.o;simpa[isN] using this);obtain⟨k,rfl⟩: ∃k:Nat,n=(k:Int):=⟨n.toNat,by omega⟩
  have hk0:(0:Int)<=(k:Int):=(by omega);have hkn:(k:Int)<(na:Int):=hn.2;have hkn':k<na:=(by omega);obtain⟨a,pw,cw,ga,ca',ha,hva,_,hrg,hrob⟩:=DkM.ap HDM.o (j:=k) (by rw[HNA.o];exact hkn');have e0:Value.slice pa na ca= .slice (some (ae ga 0)) na ca':=(by rw[<-HAV.o,<-HNA.o];exact hva);injection e0 with e2 e3 e4;subst e2 e4;have zs:wa.cell? (ae ga (k*11))=some (ag a.st):=hrg 0 _ rfl;have hma:a∈d.aps:=aM ha;have hgd:d.aps.getD k ap0=a:=(by simp[List.getD,ha]);have cB:=HBE.o a pw cw wa hma HD1.o HB1.o hrob;unfold uU at cB;obtain⟨P,hP⟩:=au (f a d);rw[hP]at cB;obtain⟨st,hst⟩:=au a.st;rw[hst]at zs
  have HCP:PH (it d (k:Int) f=if st=3 then(noA 6,d) else if P.1.2≠0 then(noA P.1.2,P.2) else(noA 0,{P.2 with aps:=P.2.aps.set k P.1.1})):=by
   show _=_;unfold it;simp only[cZ,hgd,hP,hst,HNA.o,HBN.o];by_cases e:st=3
   ·simp[e]
   ·simp[e]
  have HCR:PH (Cor d P.2):=(by have:=HFC.o a;rw[hP]at this;exact this);have HAP:PH (P.1.2=0->ue d P.1.1):=(by have:=HFO.o a hma;rw[hP]at this;exact this);by_cases h3:st=3
  ·have h3':(st==3)=true:=(by simpa using h3);have HP:PH (it d (k:Int) f=(noA 6,d)):=HCP.o.trans (by rw[aD h3]);have cR:=eZ 6 wa;go_wp2_with fail;refine cR.mono ?_;rintro e w9 ⟨rfl,b9⟩;have n9:=bt b9 n1;have HO:=aG (fB (HD1.o.below b9) (HK1.o.trans (Kd.of b9)) (by omega) (anC (noA 6) (af) (af)));have HR:=aG (aL _ _ _ (anC (noA 6) (af) (af)) _ _ n9);go_wp2_with(refine ay rfl 47 _ _ rfl _ _ rfl rfl _ _ n9 (by kernel_rfl) rfl (by simp[anC,noA,Value.oneCell']) ?_)
   refine aW (v:= .agg (anC (noA 6) (af) (af))) ?_ rfl ?_
   ·exact bc rfl _ _ w.heap.size _ _ _ _ rfl HR.o anT rfl (by kernel_rfl)
   ·rw[HP.o];exact⟨t,_,_,rfl,HO.o.1,HO.o.2,fd _ _,et _ _⟩
  ·have h3':(st==3)=false:=(by simpa using h3);have HCQ:=aG (HCP.o.trans (by rw[ax h3]));go_wp2_with(refine wpList_load_mid rfl 38 _ rfl ga (k*11) rfl (apC (a,.slice pw a.who.length cw)).toList _ hrg apT rfl (by kernel_rfl) ?_)
   refine cB.mono ?_;rintro e w5 ⟨sv5,rfl,hd5,hk5,hrb5⟩;obtain⟨p5,c5,hv5,_,_⟩:=hrb5.here;subst hv5;obtain⟨nx,hnx⟩:=au P.1.1.who.length;rw[hnx]at hrb5⊢;obtain⟨cA,hcA⟩:=au (apC (P.1.1,.slice p5 nx c5));have h1c:cA.all (·.oneCell')=true:=(by rw[<-hcA];exact iu _ _ _ _);have hc11:cA.size=11:=(by rw[<-hcA];rfl);rw[hcA];obtain⟨wZ,w6,hZ,nZ,h6,b6,n6⟩:=nbs w5 #[ag 0,ag 0,ag 0,ag 0,ag 0,ag 0,ag 0,ag 0,ag 0,ag 0,af] cA 38;have hk15:Kd gD t t wa w5:=⟨hk5.os,hk5.tape,hk5.output,hk5.size,hk5.blk,fun _ _ h=>h,rfl⟩
   have l5:=(hk5.blk _ (HG.o w.heap.size (aB _)) (aH n1)).trans n1;have l6:=bt b6 l5;have HD6:=aG (hd5.below b6);have HK6:=aG (HK1.o.trans (hk15.trans (Kd.of b6)));have HRB:=aG (hrb5.below b6);obtain⟨er,her⟩:=au P.1.2;rw[her]at HCQ HAP⊢;by_cases h0:er=0
   ·subst h0;have HP:PH (it d (k:Int) f=(noA 0,{P.2 with aps:=P.2.aps.set k P.1.1})):=HCQ.o.trans (by rw[ax (by simp)]);obtain⟨hok,rv',cv',vv',kv',ss',aa',hm6⟩:=HD6.o;have haps:P.2.aps=d.aps:=(by obtain⟨_,_,e⟩:=HCR.o;rw[e]);have hna':aa'.length=na:=(by rw[<-HNA.o,<-haps,<-hm6.ape,ba]);have hka:k<aa'.length:=(by omega);have hown:w6.ownsRow B 38 11 (.slice (some (ae ga 0)) na ca) na (apF aa'):=(by have:=hm6.aps;rw[hna']at this;rw[<-HAV.o];exact this);have z3:w6.cell? (ae gD 3)=some (.slice (some (ae ga 0)) na ca):=(cr (v:=t.av) 3 hm6.blk rfl).trans (congrArg some HAV.o);have hgw:w.heap.size≠ga:=fun e=>(hm6.nx w.heap.size bq).2.2.2.2.2 (by show _=t.av.ownBlock;rw[HAV.o,e];rfl);go_upto_region 6 with(refine ay rfl 38 _ _ rfl _ _ rfl rfl _ _ nZ (by rw[hc11];kernel_rfl) (by rw[hc11];rfl) h1c ?_;rw[h6])
    refine dn (fun M _ W=>(M 8=false->aq w6 W)/\(M 8=true-> ∃W0,aq w6 W0/\Below W0.heap.size (W0.setCells ga (k*11) cA.toList) W)) [kn 48 (ab gD 0),kn 49 (ab gD 0),kn 50 (ab gD 0),kn 51 (ab gD 3),kn 52 (.slice (some (ae ga 0)) na ca),kn 53 (ag (k:Int)),kn 54 (.agg cA),kn 55 (ab ga (k*11)),nk] (fun _=>⟨fun _=>(aI _ _).drew,(fun h=>by cases h)⟩) (fun _ _ _ _ hb h=>⟨fun c=>(h.1 c).trans (hb.mono (h.1 c).size),fun c=> ?_⟩) (by kernel_rfl) ?_ ?_
    ·obtain⟨W0,h1,h2⟩:=h.2 c;exact⟨W0,h1,h2.trans (hb.mono (by have:=h2.size;rw[(eO _ _ _ _).2.2.2]at this;exact this))⟩
    ·rintro M φ W hJ hc F l hl hF;have HJ:=aG hJ;simp only[kn,nk,dX,aR,aX,Act.put,aA,aK,aJ]at hl;subst hl;simp only[dc,Nat.reduceAdd]at hF;dsimp only[kn,nk,dC,eJ,eg,Act.put];and_intros;all_goals first|exact trivial|intro hw hn hm K hK
     all_goals try (go_simp;with_reducible exact hK _ _ ⟨rfl,aI _ _⟩)
     ·have hb:=HJ.o.1 (hn 8 _ rfl (by kernel_rfl));have y:=aj hb z3;go_simp;exact hK _ _ ⟨rfl,aI _ _⟩
     ·have nW:=bt (HJ.o.1 (hn 8 _ rfl (by kernel_rfl))) n6;show Oper.wp _ _ _ _ _ _;refine eo 38 _ rfl _ (by simp[Act.eval,hF]) _ _ _ _ nW apT rfl (by rw[hc11];kernel_rfl) ?_;exact hK _ _ ⟨rfl,aI _ _⟩
     ·have hb:=HJ.o.1 hm;have howW:=br hown fun b hq=>hb.block b (hown.lt b hq).2;have hth:W.there ga (k*11) cA.size:=(by rw[hc11];exact tX howW hkn' rfl);show Oper.wp _ _ _ _ _ _;refine wp_store_mid 38 _ _ rfl ga (k*11) cA (by simp[Act.eval,hF]) (by simp[Act.eval,hF]) hth (by rw[hc11];kernel_rfl) h1c ?_;exact hK undef _ ⟨trivial,fun c=>by simp at c,fun _=>⟨W,hb,aI _ _⟩⟩
    ·rintro M φ W hM hJ;obtain⟨W0,h1,h2⟩:=hJ.2 (hM 8 (by decide) rfl);simp only[kn,nk,en,aR,aX,Act.put,aA,aK,aJ];have hm0:=hm6.below h1;obtain⟨hm2,hk2⟩:=hm0.setAp (j:=k) (g:=ga) hka (by show t.av.ownBlock=_;rw[HAV.o];rfl) (P.1.1,.slice p5 nx c5) (.inr (HRB.o.below h1));rw[hcA]at hm2 hk2;have hsz:=(eO ga cA.toList (k*11) W0).2.2.2;have h2':=h2.mono (jV hsz);have hap:ue d P.1.1:=HAP.o trivial
     have hd2:dt B gD {P.2 with aps:=P.2.aps.set k P.1.1} (t.add w.heap.size) W:=by
      refine dt.below ⟨⟨hok.flt,hok.vl,hok.kl,hok.rl,hok.sl,by simpa using hok.al,hok.gv,hok.nm,hok.sv,fun x hx=> ?_⟩,_,_,_,_,_,_,hm2⟩ h2';rcases List.mem_or_eq_of_mem_set hx with hx|rfl
      ·exact hok.ap x hx
      ·obtain⟨_,_,e⟩:=HCR.o;rw[e];exact hap
     have hkw:Kd gD t t w W:=HK6.o.trans (Kd.off (q:=w.heap.size) (((Kd.of h1).trans hk2).trans (Kd.of h2')));have lW:=bt h2' ((fz ga _ _ W0 _ hgw).trans (bt h1 l6));have HO:=aG (fB hd2 hkw (aB _) #[ag 0,ag 0,ag 0,ag 0,af,af]);have HR:=aG (aL _ _ _ #[ag 0,ag 0,ag 0,ag 0,af,af] _ _ lW);go_wp2_with(refine ay rfl 47 _ _ rfl _ _ rfl rfl _ _ lW (by kernel_rfl) rfl (by simp[Value.oneCell']) ?_)
     refine aW (v:= .agg #[ag 0,ag 0,ag 0,ag 0,af,af]) ?_ rfl ?_
     ·exact bc rfl _ _ w.heap.size _ _ _ _ rfl HR.o anT rfl (by kernel_rfl)
     ·rw[HP.o];exact⟨_,_,_,rfl,HO.o.1,HO.o.2,fd _ _,et _ _⟩
   ·have h0':(er !=0)=true:=(by simpa using h0);have HP:PH (it d (k:Int) f=(noA er,P.2)):=HCQ.o.trans (by rw[aD h0]);go_wp2_with(refine ay rfl 38 _ _ rfl _ _ rfl rfl _ _ nZ (by rw[hc11];kernel_rfl) (by rw[hc11];rfl) h1c ?_;rw[h6])
    have cR:=eZ er w6;go_wp2_with fail;refine cR.mono ?_;rintro e w9 ⟨rfl,b9⟩;have n9:=bt b9 l6;have HO:=aG (fB (HD6.o.below b9) (HK6.o.trans (Kd.of b9)) (by omega) (anC (noA er) (af) (af)));have HR:=aG (aL _ _ _ (anC (noA er) (af) (af)) _ _ n9);go_wp2_with(refine ay rfl 47 _ _ rfl _ _ rfl rfl _ _ n9 (by kernel_rfl) rfl (by simp[anC,noA,Value.oneCell']) ?_)
    refine aW (v:= .agg (anC (noA er) (af) (af))) ?_ rfl ?_
    ·exact bc rfl _ _ w.heap.size _ _ _ _ rfl HR.o anT rfl (by kernel_rfl)
    ·rw[HP.o];exact⟨t,_,_,rfl,HO.o.1,HO.o.2,fd _ _,et _ _⟩
end
end
section
theorem ID {R:Ending->World->Prop}{a:Act}{w:World}(g:Nat)(c:Array Value)(er:Int)(hc:c.size=11)(hd:a.defers=[])(h2:a.tmps.getD 4 undef=ab g 0)(h3:a.tmps.getD 5 undef=ag er)
  (hg:w.heap[g]? =ah c 38) (hR:R (.returned (.tuple #[.agg c,ag er])) w):bodyPost prog f20 R .ret a w:=by
 refine aW (v:= .tuple #[.agg c,ag er]) ?_ hd hR;have hf:f20.results= #[ResultVar.cell 4 38,ResultVar.tmp 5]:=rfl;have h2':a.tmps[4]?.getD undef=ab g 0:=by simpa using h2
 have h3':a.tmps[5]?.getD undef=ag er:=by simpa using h3
 have hv:=dV (P:=prog) w g 38 38 _ _ _ hg apT rfl (by rw[hc];kernel_rfl);simp[results,h2',h3',asAddr,hv]
section
variable {B gD:Nat} {d:Dk} {t:Tr}
theorem Ar (h:tR d){a:Ap}(ha:a∈d.aps)(s:Int):ue d (eX a s):=by
 obtain⟨q1,q2,q3,q4⟩:=h.ap a ha;exact⟨q1,q2,⟨gX _,by show(0:Int)<=10;omega⟩,q4⟩
theorem Ku {g1 g2:Nat}(c:Cm)(a:Ap)(p pw:Option Addr)(k cw:Nat)(rv:Value)(w:World)(h:dt B gD d t w)(n1:w.heap[g1]? =ah #[ab gD 0] 57)(n2:w.heap[g2]? =ah (doC c rv (.slice pw c.swho.length cw)) 45)(ha:ue d a)(hw:Rob (Fx gD t) (fun u=>dS u (.slice pw c.swho.length cw) c.swho) w)(hcw:c.swho.length<=cw):
  Calls prog 20 #[.agg (apC (a,.slice p a.who.length k)),ab g1 0,ab g2 0] w (uU B gD (eW d c.n a c.sday c.smin c.swho) t w):=by
 obtain⟨wA,hA,bA,nA⟩:=nb w (apC (a,.slice p a.who.length k)) 38;obtain⟨wB,hB,bB,nB⟩:=nb wA #[ag 0,ag 0,ag 0,ag 0,ag 0,ag 0,ag 0,ag 0,ag 0,ag 0,af] 38;have sB:wB.heap.size=wA.heap.size+1:=by rw[<-hB];simp
 have b02:=aw bA bB;have hdB:=h.opened (q:=wA.heap.size) bA.size sB b02;have m1:=bt b02 n1;have m2:=bt b02 n2;have mA:=bt bB nA;have z1:=cr 0 m1 rfl;have y1:wB.cell? (ae g2 1)=some (ag c.n):=cr 1 m2 rfl;have y10:wB.cell? (ae g2 10)=some (ag c.sday):=cr 10 m2 rfl;have y11:wB.cell? (ae g2 11)=some (ag c.smin):=cr 11 m2 rfl;have y12:wB.cell? (ae g2 12)=some (.slice pw c.swho.length cw):=cr 12 m2 rfl
 have hwB:Rob (Fx gD (t.add wA.heap.size)) (fun u=>dS u (.slice pw c.swho.length cw) c.swho) wB:=hw.move b02.size (fun q _ hl=>b02.block q hl) fun q hl hq=>⟨hq.1,fun hx=>by
  rcases bz.1 hx with e|hx
  ·have:=bA.size;omega
  ·exact hq.2 hx⟩
 have cP:=xZ c.n a p pw k cw c.sday c.smin c.swho wB hdB ha.1 ha.2.2.2.1 hwB hcw;obtain⟨P,hP⟩:=au (eW d c.n a c.sday c.smin c.swho);rw[hP]at cP⊢;unfold uU at cP;have H0:=aG h;have HK2:PH (Kd gD t t w wB):=Kd.of b02;have hwA:w.heap.size<wA.heap.size:=by rw[<-hA];simp
 have HGX:PH (Gx gD t wA.heap.size):=(h.fx (.inr bA.size)).1;obtain⟨nw,hnw⟩:=au c.swho.length;rw[hnw]at cP y12;clear h bA bB b02 sB hdB n1 n2 nA m1 m2 hwB hP hw hnw hcw;go_enter func20,ntmps20;go_wp2_with(refine aQ rfl 38 _ rfl _ rfl _ _ _ _ mA apT rfl (by kernel_rfl) ?_)
 refine cP.mono ?_;rintro e w5 ⟨sv5,rfl,hd5,hk5,hrb5⟩;obtain⟨p5,c5,hv5,_,_⟩:=hrb5.here;subst hv5;have n5:=(hk5.blk _ HGX.o (aH nB)).trans nB;obtain⟨nx,hnx⟩:=au P.1.1.who.length;rw[hnx]at hrb5⊢;obtain⟨cA,hcA⟩:=au (apC (P.1.1,.slice p5 nx c5));have h1c:cA.all (·.oneCell')=true:=by rw[<-hcA];exact iu _ _ _ _
 have hc11:cA.size=11:=by rw[<-hcA];rfl
 rw[hcA];have hk5':Kd gD t t wB w5:=⟨hk5.os,hk5.tape,hk5.output,hk5.size,hk5.blk,fun _ _ h=>h,rfl⟩
 have HO:=aG (fI (hd5.closed (w':=w5.setRow wA.heap.size cA) (by simp) fun q _ hq=>aV _ _ _ _ hq) (fI ((HK2.o.trans hk5').closed (w':=w5.setRow wA.heap.size cA) (q:=wA.heap.size) (by omega) rfl rfl rfl (by simp) fun q _ hq=>aV _ _ _ _ hq) (hrb5.move (w':=w5.setRow wA.heap.size cA) (P':=Fx gD t) (by simp) (fun q hq _=>aV _ _ _ _ fun e=>hq.2 (by rw[e];exact bq)) fun q _ hq=>⟨hq.1,fun hx=>hq.2 (bH _ hx)⟩)));have HR:=aG (aL _ _ _ cA _ _ n5);have HCA:=aG hcA;clear cP hd5 hk5 hk5' hrb5 hcA nB;go_wp2_with(refine ay rfl 38 _ _ rfl _ _ rfl rfl _ _ n5 (by rw[hc11];kernel_rfl) (by rw[hc11];rfl) h1c ?_)
 refine ID wA.heap.size cA P.1.2 hc11 rfl rfl rfl HR.o ?_;exact⟨.slice p5 nx c5,by rw[HCA.o],HO.o.1,HO.o.2.1,HO.o.2.2⟩
theorem Kv (c:Cm)(pr pw:Option Addr)(cr2 cw:Nat)(w:World)(h:dt B gD d t w)(hcw:c.swho.length<=cw)(hwho:Rob (fun q=>q<B) (fun u=>dS u (.slice pw c.swho.length cw) c.swho) w)(h58:5<=c.kind/\c.kind<=8):Calls prog 10 #[ab gD 0,.agg (doC c (.slice pr c.sv.roles.length cr2) (.slice pw c.swho.length cw))] w (qF B gD (doP d c) t w):=by
 obtain⟨w1,h1,b1,n1⟩:=nb w #[ab gD 0] 57;obtain⟨w2,h2,b2,n2⟩:=nb w1 (doC c (.slice pr c.sv.roles.length cr2) (.slice pw c.swho.length cw)) 45;obtain⟨w3,h3,b3,n3⟩:=nb w2 #[ag 0,ag 0,ag 0,ag 0,af,af] 47;have b12:=aw b1 b2;have b13:=aw b12 b3;have hd3:=h.opened (q:=w2.heap.size) b12.size (by rw[<-h3];simp) b13;have m2:=bt b3 n2;have k1:=bt (aw b2 b3) n1;have z1:=cr 0 k1 rfl;obtain⟨y0,y1,y2,y3,y4,y5,y6,y7,y8,y9,y10,y11,y12⟩:=Ce m2;have HB:=aG b13;have HQ:=aG b12.size
 have HGX:PH (Gx gD (t.add w2.heap.size) w2.heap.size):=by
  obtain⟨_,_,_,_,_,_,_,hm⟩:=hd3;exact(hm.nx _ bq).2.2
 have hw3:Rob (Fx gD (t.add w2.heap.size)) (fun u=>dS u (.slice pw c.swho.length cw) c.swho) w3:=hwho.move b13.size (fun q _ hl=>b13.block q hl) fun q hl hq=>⟨(h.fx (.inl hq)).1,fun hx=>by
  rcases bz.1 hx with e|hx
  ·have:=b12.size;omega
  ·exact(h.fx (.inl hq)).2 hx⟩
 rcases(show c.kind=5\/c.kind=6\/c.kind=7\/c.kind=8 by omega) with hk|hk|hk|hk
 case' inl=>
  have cC:=Kt c.n c.sday c.smin c.swho pw cw w3 hd3 hw3 hcw;generalize hP:lI d c.n c.sday c.smin c.swho=P at cC
 case' inr.inl=>
  have cC:=sL c.n 17 #[] (fun a d=>((eX a 2,0),d)) w3 hd3 (fun _ _=>rfl) (fun a p c W ha hW hb hr=>(C8 a p c W).mono fun e w' hh=>⟨_,hh.1,hW.below hh.2,Kd.of hh.2,hr.below hh.2⟩) (fun a ha _=>Ar hd3.1 ha 2) (fun a=>Cor.refl d);generalize hP:it d c.n (fun a d=>((eX a 2,0),d))=P at cC
 case' inr.inr.inl=>
  have cC:=sL c.n 19 #[] (fun a d=>((eX a 3,0),d)) w3 hd3 (fun _ _=>rfl) (fun a p c W ha hW hb hr=>(Fm a p c W).mono fun e w' hh=>⟨_,hh.1,hW.below hh.2,Kd.of hh.2,hr.below hh.2⟩) (fun a ha _=>Ar hd3.1 ha 3) (fun a=>Cor.refl d);generalize hP:it d c.n (fun a d=>((eX a 3,0),d))=P at cC
 case' inr.inr.inr=>
  have cC:=sL c.n 20 #[ab w.heap.size 0,ab w1.heap.size 0] (fun a d=>eW d c.n a c.sday c.smin c.swho) w3 hd3 (fun _ _=>rfl) (fun a p k W ha hW hb hr=>Ku c a p pw k cw _ W hW (bt hb k1) (bt hb m2) (hd3.1.ap a ha) (hw3.move hb.size (fun q _ hl=>hb.block q hl) fun q hl hq=>⟨hq.1,fun hx=>by
   rcases bz.1 hx with e|hx
   ·omega
   ·exact hq.2 hx⟩) hcw) (fun a ha e=>Aq hd3.1 (hd3.1.ap a ha).1 (hd3.1.ap a ha).2.2.1 (hd3.1.ap a ha).2.2.2.1 e) (fun a=>mf d _ a _ _ _)
  generalize hP:it d c.n (fun a d=>eW d c.n a c.sday c.smin c.swho)=P at cC
 all_goals
  have HP:PH (doP d c=P):=by
   show _=_;rw[<-hP];unfold doP;repeat (first|rw[aD hk]|rw[ax (by omega)])
  clear b1 b2 b3 b12 b13 hd3 n1 n2 hP k1 m2 hw3
  try rw[hk]at y0
  clear hk
  go_enter func10,ntmps10
  go_wp2_with fail
  refine cC.mono ?_
  rintro e w4 ⟨t',wv,lv,rfl,hd4,hk4,hw4,hl4⟩
  obtain⟨t0,o1,o2,o3,o4⟩:=Iw HB.o HQ.o hd4 hk4 hw4 hl4 (anC P.1 wv lv)
  obtain⟨p5,c5,rfl,_,_⟩:=hw4.here.1
  obtain⟨p6,c6,rfl,_,_⟩:=hl4.here
  have n4:=(hk4.blk _ HGX.o (aH n3)).trans n3
  have HO:=aG (fI o1 (fI o2 (fI o3 o4)))
  have HR:=aG (aL _ _ _ (anC P.1 (.slice p5 P.1.who.length c5) (.slice p6 P.1.list.length c6)) _ _ n4)
  clear cC hd4 hk4 hw4 hl4 o1 o2 o3 o4 n3
  go_wp2_with(refine ay rfl 47 _ _ rfl _ _ rfl rfl _ _ n4 (by kernel_rfl) rfl (by simp[anC,Value.oneCell']) ?_)
  refine aW (v:= .agg (anC P.1 (.slice p5 P.1.who.length c5) (.slice p6 P.1.list.length c6))) ?_ rfl ?_
  ·exact bc rfl _ _ w2.heap.size _ _ _ _ rfl HR.o anT rfl (by kernel_rfl)
  ·rw[HP.o]
   exact⟨t0,_,_,rfl,HO.o.1,HO.o.2.1,HO.o.2.2.1,HO.o.2.2.2⟩
theorem Cr (c:Cm):FA c:=fun B gD d t w pr pw kr kw h hT hB hg hx hc hr=>by
 by_cases h5:5<=c.kind/\c.kind<=8
 ·exact Kv c pr pw kr kw w h (hc.cap _ _ _ rfl) hr h5
 ·exact Iy c h5 B gD d t w pr pw kr kw h hT hB hg hx hc hr
end
end
section
section
variable {w w':World}
theorem IE:dS w (af) []:=⟨none,0,rfl,by decide,fun j n h=>by simp at h⟩
theorem yP:fk w (af) []:=⟨none,0,rfl,by decide,fun j n h=>by simp at h⟩
theorem MC {g:Nat}{sv:Value}{l:List Int}{T:TypeId}(h:w.heap[g]? =ah #[sv] T)(hr:dS w sv l):fk w (.slice (some (ae g 0)) 1 1) [l]:=by
 refine⟨some ⟨g,0,none⟩,1,rfl,by simp,fun j m hj=> ?_⟩;match j,hj with
 |0,hj=>cases hj;exact⟨g,0,sv,rfl,aZ _ _ _ _ _ _ h,hr⟩
 |j+1,hj=>simp at hj
def sM (B:Nat)(w:World)(v:Value)(cs:List (Cm×Value×Value)):Prop:=w.ownsRow B 45 13 v cs.length (cs.flatMap fun q=>(doC q.1 q.2.1 q.2.2).toList)/\ ∀q∈cs,Rob (fun k=>some k≠v.ownBlock) (fun u=>lu u q.1 q.2.1 q.2.2) w
theorem uV {B:Nat}{v:Value}{cs:List (Cm×Value×Value)}(h:w.ownsRow B 45 13 v cs.length (cs.flatMap fun q=>(doC q.1 q.2.1 q.2.2).toList))(hc: ∀q∈cs,lu w q.1 q.2.1 q.2.2)(hl:cs.length<9223372036854775808):kT w v cs:=by
 obtain⟨p,k,hv⟩:=di h;refine⟨p,k,hv,hl,fun j q hj=>⟨hc q (aM hj),?_⟩⟩;obtain⟨g,c,e,_,hr⟩:=jy (f:=fun q:Cm×Value×Value=>doC q.1 q.2.1 q.2.2) (fun q=>rfl) h rfl hj;rw[hv]at e;cases e;exact⟨g,0,rfl,by rw[bN];exact hr⟩
theorem sM.row {B:Nat}{v:Value}{cs:List (Cm×Value×Value)}(h:sM B w v cs)(hl:cs.length<9223372036854775808):kT w v cs:=uV h.1 (fun q hq=>(h.2 q hq).here) hl
theorem sM.below {B:Nat}{v:Value}{cs:List (Cm×Value×Value)}(h:sM B w v cs)(hb:aq w w'):sM B w' v cs:=
 ⟨br h.1 fun b hq=>hb.block b (h.1.lt b hq).2,fun q hq=>(h.2 q hq).below hb⟩
theorem ME {c:Cm}{rv wv:Value}(h:lu w c rv wv):(doC c rv wv).all (·.oneCell')=true:=by
 obtain⟨_,_,rfl,_⟩:=h.roles;obtain⟨_,_,rfl,_⟩:=h.who;exact D2 ..
theorem rY: ∀cs:List (Cm×Value×Value),(cs.flatMap fun q=>(doC q.1 q.2.1 q.2.2).toList).length=cs.length*13
 |[]=>rfl
 |c::cs=>by
  rw[List.flatMap_cons,aP,rY cs,bJ];show 13+_=_;omega
theorem Od {cs:List (Cm×Value×Value)}{g o:Nat}(h: ∀(j:Nat) (q:Cm×Value×Value),cs[j]? =some q->w.rangeAt g (o+j*13) (doC q.1 q.2.1 q.2.2).toList):w.rangeAt g o (cs.flatMap fun q=>(doC q.1 q.2.1 q.2.2).toList):=by
 intro k u hu
 have hk:k<cs.length*13:=by
  have:=(aF.1 hu).1;rwa[rY]at this
 obtain⟨q,hq⟩: ∃q,cs[k/13]? =some q:=⟨_,az (by omega)⟩
 have e:=oD (f:=fun q:Cm×Value×Value=>doC q.1 q.2.1 q.2.2) (m:=13) (fun q=>rfl) hq (k%13) (Nat.mod_lt _ (by decide));rw[show k/13*13+k%13=k by omega,hu]at e;have:=h _ q hq (k%13) u (by rw[bp];exact e.symm);rwa[show o+k/13*13+k%13=o+k by omega]at this
theorem uf {ops:Array Oper}{rest:List Oper}{o:Oper}{a:Act}{Q:Exit->Act->World->Prop}(hgd:o.guard=none)(s x:Operand)(ho:o.op= .call {callee:= .builtin .append,args:= #[s,x],argTypes:= #[22,22]})
  {B:Nat} {v xv:Value} {cs ds:List (Cm×Value×Value)} (hs:a.eval s=v) (hO:sM B w v cs) (hx:a.eval x=xv) (hX:kT w xv ds) (h0:0<ds.length) (hR: ∀q∈ds,Rob (fun k=>some k≠v.ownBlock) (fun u=>lu u q.1 q.2.1 q.2.2) w) (hn:cs.length+ds.length<=100000) (hB:B<=w.heap.size)
  (h: ∀v' w',sM B w' v' (cs++ds)->Below B w w'->w.grownBy w' v.ownBlock->wpList prog ops Q rest (a.put o.dst v') w'):wpList prog ops Q (o::rest) a w:=by
 obtain⟨i,hi,hz0,hz1,hz2⟩:=oq (t:=45) (z:= .agg (doC ⟨0,0,0,0,[],[],sv0,0,0,[]⟩ (af) (af))) (a:=13) (b:=152) (by kernel_rfl);obtain⟨p,k,rfl,_,hc⟩:=hX;obtain⟨q0,hq0⟩: ∃q,ds[0]? =some q:=⟨_,az h0⟩
 obtain⟨_,g,of,rfl,_⟩:=hc 0 q0 hq0
 have hF:w.rangeAt g of (ds.flatMap fun q=>(doC q.1 q.2.1 q.2.2).toList):=Od fun j q hj=>by
  obtain⟨_,g',o',e,hr⟩:=hc j q hj;cases e;exact hr
 refine wpList_append_own_at w hgd s x 22 ho B 45 i _ 13 152 (by kernel_rfl) hi hz0 hz1 hz2 rfl (by decide) v cs.length _ hs hO.1 ⟨g,of,none⟩ ds.length k (ds.flatMap fun q=>(doC q.1 q.2.1 q.2.2).toList) hx ?_ (fun j u hu=> ?_) (fun u hu=> ?_) (by unfold maxLen;omega) (bf (Nat.mul_le_mul_right _ hn) (by decide)) hB fun v' w' h2 h3 _ h5=> ?_
 ·exact rY ds
 ·rw[show(⟨g,of,none⟩:Addr).add j=⟨g,of+j,none⟩ by simp[Addr.add]];exact hF j u hu
 ·obtain⟨q,hq,hu⟩:=List.mem_flatMap.1 hu;exact Array.all_eq_true'.1 (ME (hR q hq).here) u (Array.mem_toList_iff.1 hu)
 ·refine h v' w' ⟨?_,fun q hq=> ?_⟩ (gY (aI _ _) h3 hB fun k hk=>(hO.1.lt k hk).1) h3
  ·rw[aP,fw];exact h2
  ·have H:Rob (fun k=>some k≠v.ownBlock) (fun u=>lu u q.1 q.2.1 q.2.2) w:=(bU.1 hq).elim (hO.2 q) (hR q);refine H.move h3.size (fun k hk hl=>h3.block k hl hk) fun k hl hk=> ?_;rcases h5 with h5|h5
   ·rw[h5];exact hk
   ·rw[h5];intro e;cases e;omega
theorem qX {B g n m:Nat}{cur:Array Value}{T:TypeId}(h:w.heap[g]? =ah cur T)(hB:B<=g)(hs:cur.size=n*m)(hn:n<=maxLen):w.ownsRow B T m (.slice (some (ae g 0)) n n) n cur.toList:=
 ⟨by rw[bQ];exact hs,.inr ⟨g,n,cur,rfl,hB,h,aB _,hn,hs,by rw[cj (by rw[bQ,hs];exact aB _)]⟩⟩
theorem ya (c:Cm)(h1:c.sv.roles=[])(h2:c.swho=[])(h3:c.text.length<=9223372036854775807)(h4:c.name.length<=9223372036854775807):lu w c (af) (af):=
 ⟨by rw[h1];exact yP,by rw[h2];exact IE,h3,h4,fun p n k e=>by cases e;exact aB _⟩
end
def sC (rv:Value):List (Cm×Value×Value):=[(⟨1,0,0,0,aS,[],sv0,0,0,[]⟩,af,af),(⟨2,0,0,0,[],[97],sv0,0,0,[]⟩,af,af),(⟨3,0,0,0,[],[],kZ,0,0,[]⟩,rv,af)]
theorem IF (w:World):Calls prog 9 #[] w fun e w'=> ∃v rv,e= .returned v/\aq w w'/\sM w.heap.size w' v (sC rv):=by
 obtain⟨w1,h1,b1,n1⟩:=nb w #[ag 0] 3;obtain⟨w2,h2,b2,n2⟩:=nb w1 #[.slice (some (ae w.heap.size 0)) 1 1] 34;have HB1:=aG b1;have HB2:=aG b2;have HN1:=aG n1;have HN2:=aG n2;clear b1 b2 n1 n2;go_enter func9,ntmps9;go_wp2_with fail;go_ret;obtain⟨rv,hrv⟩:=au (.slice (some (ae w1.heap.size 0)) 1 1:Value)
 suffices H: ∀W,w2.alloc (.cells ((sC rv).flatMap fun q=>(doC q.1 q.2.1 q.2.2).toList).toArray 45)=W->aq w W/\sM w.heap.size W (.slice (some (ae w2.heap.size 0)) 3 3) (sC rv) by
  rw[hrv];exact⟨_,rv,rfl,H _ rfl⟩
 intro w3 h3;obtain⟨w3',h3',b3,n3⟩:=nb w2 ((sC rv).flatMap fun q=>(doC q.1 q.2.1 q.2.2).toList).toArray 45;rw[h3]at h3';subst h3';have bb:=aw HB1.o HB2.o;refine⟨aw bb b3,qX (n:=3) n3 (bf HB1.o.size HB2.o.size) rfl (by decide),fun q hq u hu ha=> ?_⟩;have ha': ∀k,k<w2.heap.size->u.heap[k]? =w2.heap[k]? :=fun k hk=>(ha k (fun e=>Nat.ne_of_lt hk (aN e)) (aT hk b3.size)).trans (b3.block k hk);subst hrv;rcases bz.1 hq with rfl|hq
 ·exact ya _ rfl rfl (by decide) (by decide)
 rcases bz.1 hq with rfl|hq
 ·exact ya _ rfl rfl (by decide) (by decide)
 cases bT.1 hq;have y1:=bt HB2.o HN1.o;exact⟨MC ((ha' _ (aH HN2.o)).trans HN2.o) (B4 ((ha' _ (aH y1)).trans y1)),IE,dM _,dM _,fun p n k e=>by cases e;exact aB _⟩
end
def eC (g:Nat):List (Cm×Value×Value):=[(⟨4,0,7,2,[],[],sv0,0,0,[]⟩,af,af),(⟨5,0,0,0,[],[],sv0,7,540,[0]⟩,af,.slice (some (ae g 0)) 1 1)]
theorem De (w:World)(hT:Tbs w.heap.size w):Calls prog 6 #[] w fun e w'=>e= .returned (.bool true)/\aq w w':=by
 have c1:=IF w;have HT:=aG hT;clear hT;go_enter func6,ntmps6;go_wp2_with fail;refine c1.mono ?_;rintro e w1 ⟨v,rv,rfl,b1,ho⟩;have HB1:=aG b1;have HO:=aG ho;clear b1 c1;obtain⟨p,k,hv⟩:=di ho.1;subst hv;dsimp only[sC,List.length]at ho⊢;clear ho;obtain⟨w2,h2,b2,n2⟩:=nb w1 #[ag 0] 3;obtain⟨w3,h3,b3,n3⟩:=nb w2 #[ag 4,ag 0,ag 7,ag 2,.string ⟨#[]⟩,.string ⟨#[]⟩,ag 0,ag 0,ag 0,af,ag 0,ag 0,af,ag 5,ag 0,ag 0,ag 0,.string ⟨#[]⟩,.string ⟨#[]⟩,ag 0,ag 0,ag 0,af,ag 7,ag 540,.slice (some (ae w1.heap.size 0)) 1 1] 45;have hO3:=(HO.o.below b2).below b3;have hbb:=aw b2 b3
 have hR: ∀q∈eC w1.heap.size,Rob (fun j=>some j≠(Value.slice p 3 k).ownBlock) (fun u=>lu u q.1 q.2.1 q.2.2) w3:=fun q hq u hu ha=>by
  rcases bz.1 hq with rfl|hq
  ·exact ya _ rfl rfl (dM _) (dM _)
  cases bT.1 hq;have y:=bt b3 n2;exact⟨yP,B4 ((ha _ (fun e=>Nat.lt_irrefl _ (HO.o.1.lt _ e.symm).2) (aH y)).trans y),dM _,dM _,fun p n k e=>by cases e;exact aB _⟩
 have hX:kT w3 (.slice (some (ae w2.heap.size 0)) 2 2) (eC w1.heap.size):=uV (B:=0) (qX (n:=2) n3 (dM _) rfl (by decide)) (fun q hq=>(hR q hq).here) (by decide:2<9223372036854775808);have HB3:=aG (aw HB1.o hbb);have HO3:=aG hO3;have HR:=aG hR;have HX:=aG hX;clear hO3 hR hX b2 b3 n2 n3 hbb;go_wp2_with(refine uf rfl _ _ rfl rfl HO3.o rfl HX.o (show 0<2 by decide) HR.o (show 5<=100000 by decide) HB3.o.size ?_;intro v' w4 hO4 b4 _)
 have hb4:=HB3.o.trans b4;have HB4:=aG hb4;have c2:=Kr (sC rv++eC w1.heap.size) v' w4 (hO4.row (show 5<9223372036854775808 by decide)) (fun W hW=>HT.o W (aw hb4 hW)) (fun q _=>Cr q.1);rw[show(sC rv++eC w1.heap.size).map (fun q=>q.1)=aC from rfl]at c2;clear hb4 b4 hO4 HX HR HO3;refine c2.mono ?_;clear c2;rintro e w5 ⟨b5,h5⟩;rcases h5 with⟨hl,_⟩|⟨hl,rw',ev,sv,av,asv,ss,aa,ls,rfl,hP⟩
 ·exact absurd hl (by decide)
 clear hl;replace hP:=hP.here;rw[Oc]at hP⊢
 have hl5:ls.length=5:=by
  have:=congrArg List.length hP.ane;rw[ba]at this;exact this
 have ha1:aa.length=1:=by
  have:=congrArg List.length hP.ape;rw[ba]at this;exact this
 obtain⟨us,hus,hx3⟩:=hP.rules;obtain⟨p1,k1,rfl⟩:=hus.form;obtain⟨p2,k2,rfl⟩:=di hP.res;obtain⟨p3,k3,rfl⟩:=di hP.svs;obtain⟨pa,ka,rfl⟩:=di hP.aps;obtain⟨q3,hq3⟩: ∃q,ls[3]? =some q:=⟨_,az (by omega)⟩
 obtain⟨q4,hq4⟩: ∃q,ls[4]? =some q:=⟨_,az (by omega)⟩
 have f3:q3.1=⟨0,0,7,540,[0],[]⟩:=by
  have:=congrArg (·[3]?) hP.ane;rw[bg,hq3]at this;exact aN this
 have f4:q4.1=iV 0:=by
  have:=congrArg (·[4]?) hP.ane;rw[bg,hq4]at this;exact aN this
 obtain⟨g,c,hv,hx1,r3⟩:=jy (f:=fun p:An×Value×Value=>anC p.1 p.2.1 p.2.2) (fun _=>rfl) hP.ans rfl hq3;obtain⟨g',c',hv',hx2,r4⟩:=jy (f:=fun p:An×Value×Value=>anC p.1 p.2.1 p.2.2) (fun _=>rfl) hP.ans rfl hq4;subst hv;cases hv';have y3:w5.cell? (ae g 21)=some (ag 540):=r3 3 _ (by rw[f3];rfl);have y4:w5.cell? (ae g 24)=some (ag 0):=r4 0 _ (by rw[f4];rfl);rw[ha1,hl5];clear hP hus r3 r4 f3 f4 hq3 hq4 hx1 hx2 hx3 hl5 ha1 h2 h3;dsimp only[dA];generalize us.length=n1;generalize ss.length=n3;generalize List.length [[97]]=n2;obtain⟨wZ,wC,hZ,nZ,hC,bC,nC⟩:=nbs w5 #[af,af,af,af] #[.slice p1 n1 k1,.slice p2 n2 k2,.slice p3 n3 k3,.slice pa 1 ka] 29;have z3:=aj bC y3;have z4:=aj bC y4;have y5:wC.cell? (ae w5.heap.size 3)=some (.slice pa 1 ka):=cr 3 nC rfl;have HB5:=aG (aw HB4.o b5);have HB6:=aG (aw HB5.o bC);clear y3 y4 b5 bC nC;go_wp2_with(refine ay rfl 29 _ _ rfl _ _ rfl rfl _ _ nZ (by kernel_rfl) rfl (by simp[Value.oneCell']) ?_)
 go_ret;exact⟨rfl,HB6.o⟩
section
open Go.ChangeShapes Go.WideShapes Go.ChangeAt Go.WideMaps Go.WideElems Go.Joins
variable {H:Type} {enc:TypeId×Value->H} {W:World}
theorem Of:prog.cellsOf 34=1:=by kernel_rfl
theorem O3:prog.cellsOf 39=1:=by kernel_rfl
theorem Og:prog.cellsOf 41=4:=by kernel_rfl
theorem Kw (fuel:Nat)(cs:List Value)(y:DataW H×List MemPlace)(h:DataW.trod enc prog W 0 (fun _=>true) true fuel 3 cs=some y): ∃u:Int,cs.length=1/\(fun k:Nat=>cs[k]?) 0=some (ag u):=by
 obtain⟨x,e,_⟩:=DataW.trod_int underlying3 h;subst e;exact⟨x,rfl,rfl⟩
theorem yc {fuel:Nat}{cs:List Value}{x:DataW H×List MemPlace}(h:DataW.trod enc prog W 0 (fun _=>true) true fuel 34 cs=some x): ∃(sl:Value) (l:List Int),cs=[sl]/\dS W sl l:=by
 obtain⟨p,len,cap,us,e,hl,hn,hall⟩:=wi (0:Int) (Q:=fun c u=>c 0=some (ag u)) qx cN9 (by decide) Kw h;refine⟨_,us,e,p,cap,by rw[hl],by rw[hl];exact hn,fun j u hj=> ?_⟩;obtain⟨g,o,hp,c,hcl,hcc,q0⟩:=hall j u hj;exact⟨g,o,hp,by simpa using hcc 0 _ q0⟩
theorem FG (fuel:Nat)(cs:List Value)(y:DataW H×List MemPlace)(h:DataW.trod enc prog W 0 (fun _=>true) true fuel 34 cs=some y): ∃u:List Int×Value,cs.length=1/\((fun k:Nat=>cs[k]?) 0=some u.2/\dS W u.2 u.1):=by
 obtain⟨sl,l,rfl,hr⟩:=yc h;exact⟨(l,sl),rfl,rfl,hr⟩
theorem Df {fuel:Nat}{cs:List Value}{x:DataW H×List MemPlace}(h:DataW.trod enc prog W 0 (fun _=>true) true fuel 39 cs=some x): ∃(sl:Value) (l:List (List Int)),cs=[sl]/\fk W sl l:=by
 obtain⟨p,len,cap,us,e,hl,hn,hall⟩:=wi (([],af):List Int×Value) (Q:=fun c u=>c 0=some u.2/\dS W u.2 u.1) BM Of (by decide) FG h;refine⟨_,us.map (fun u=>u.1),e,p,cap,by rw[ba,hl],by rw[ba,hl];exact hn,fun j l hj=> ?_⟩;rw[bg]at hj;cases hu:us[j]? with
 |none=>rw[hu]at hj;cases hj
 |some u=>
  rw[hu]at hj;cases aN hj;obtain⟨g,o,hp,c,hcl,hcc,q0,q1⟩:=hall j u hu;exact⟨g,o,u.2,hp,by simpa using hcc 0 _ q0,q1⟩
end
section
open Go.ChangeShapes Go.WideShapes Go.ChangeAt Go.WideMaps Go.WideElems Go.Joins
variable {H:Type} {enc:TypeId×Value->H} {W:World}
theorem Oh:prog.cellsOf 36=3:=by kernel_rfl
theorem PC:prog.cellsOf 9=1:=by kernel_rfl
theorem Oi:prog.cellsOf 45=13:=by kernel_rfl
theorem FH {fuel:Nat}{cs:List Value}{x:DataW H×List MemPlace}(h:DataW.trod enc prog W 0 (fun _=>true) true fuel 34 cs=some x): ∃(sl:Value) (l:List Int),cs=[sl]/\dS W sl l/\ ∀p n k,sl= .slice p n k->n<=k:=by
 obtain⟨sl,l,e,hr⟩:=yc h;refine⟨sl,l,e,hr,fun p n k e2=> ?_⟩;rw[e,e2]at h;rcases DataW.trod_slice qx h with⟨e1,_⟩|⟨a,len',cap',elems,rest,m,_,e1,_,_,hlc,hm,_⟩
 ·cases e1;exact aB _
 ·cases e1;exact hlc
theorem yd {fuel:Nat}{cs:List Value}{y:DataW H×List MemPlace}(h:DataW.trod enc prog W 0 (fun _=>true) true fuel 36 cs=some y): ∃(a b:Int) (sl:Value) (l:List Int),cs=[ag a,ag b,sl]/\dS W sl l/\ ∀p n k,sl= .slice p n k->n<=k:=by
 obtain⟨xs,m,_,_,hl,hx,hall⟩:=DataW.trod_struct underlying36 h;rw[Oh]at hl;obtain⟨c0,c1,c2,rfl⟩:=IG hl;obtain⟨x0,x1,x2,rfl⟩:=IG (show xs.length=3 from hx);have h0:DataW.trod enc prog W 0 (fun _=>true) true m 3 (([c0,c1,c2].drop 0).take (prog.cellsOf 3))=some x0:=hall 0 _ rfl;have h1:DataW.trod enc prog W 0 (fun _=>true) true m 3 (([c0,c1,c2].drop 1).take (prog.cellsOf 3))=some x1:=hall 1 _ rfl;have h2:DataW.trod enc prog W 0 (fun _=>true) true m 34 (([c0,c1,c2].drop 2).take (prog.cellsOf 34))=some x2:=hall 2 _ rfl;rw[cN9]at h0 h1;rw[Of]at h2;obtain⟨a,e0,_⟩:=DataW.trod_int underlying3 h0;obtain⟨b,e1,_⟩:=DataW.trod_int underlying3 h1;obtain⟨sl,l,e2,hr⟩:=FH h2;simp at e0 e1 e2;subst e0 e1 e2;exact⟨a,b,c2,l,rfl,hr⟩
theorem Kx {fuel:Nat}{cs:List Value}{y:DataW H×List MemPlace}(h:DataW.trod enc prog W 0 (fun _=>true) true fuel 41 cs=some y): ∃(a b c:Int) (sl:Value) (l:List (List Int)),cs=[ag a,ag b,ag c,sl]/\fk W sl l:=by
 obtain⟨xs,m,_,_,hl,hx,hall⟩:=DataW.trod_struct underlying41 h;rw[Og]at hl;obtain⟨c0,c1,c2,c3,rfl⟩:=KW hl;obtain⟨x0,x1,x2,x3,rfl⟩:=KW (show xs.length=4 from hx);have h0:DataW.trod enc prog W 0 (fun _=>true) true m 3 (([c0,c1,c2,c3].drop 0).take (prog.cellsOf 3))=some x0:=hall 0 _ rfl;have h1:DataW.trod enc prog W 0 (fun _=>true) true m 3 (([c0,c1,c2,c3].drop 1).take (prog.cellsOf 3))=some x1:=hall 1 _ rfl;have h2:DataW.trod enc prog W 0 (fun _=>true) true m 3 (([c0,c1,c2,c3].drop 2).take (prog.cellsOf 3))=some x2:=hall 2 _ rfl;have h3:DataW.trod enc prog W 0 (fun _=>true) true m 39 (([c0,c1,c2,c3].drop 3).take (prog.cellsOf 39))=some x3:=hall 3 _ rfl;rw[cN9]at h0 h1 h2;rw[O3]at h3;obtain⟨a,e0,_⟩:=DataW.trod_int underlying3 h0;obtain⟨b,e1,_⟩:=DataW.trod_int underlying3 h1;obtain⟨c,e2,_⟩:=DataW.trod_int underlying3 h2;obtain⟨sl,l,e3,hr⟩:=Df h3;simp at e0 e1 e2 e3;subst e0 e1 e2 e3;exact⟨a,b,c,c3,l,rfl,hr⟩
theorem As {fuel:Nat}{cs:List Value}{y:DataW H×List MemPlace}(h:DataW.trod enc prog W 0 (fun _=>true) true fuel 9 cs=some y): ∃s:List UInt8,cs=[kN s]/\s.length<=9223372036854775807:=by
 obtain⟨s,e,_,hs⟩:=DataW.trod_string underlying9 h;refine⟨s.data.toList,by rw[e];rfl,?_⟩;unfold maxLen at hs;have:s.data.toList.length=s.size:=bQ;omega
theorem Ky (fuel:Nat)(cs:List Value)(y:DataW H×List MemPlace)(h:DataW.trod enc prog W 0 (fun _=>true) true fuel 45 cs=some y): ∃u:Cm×Value×Value,cs.length=13/\((∀k,(fun k:Nat=>cs[k]?) k=(doC u.1 u.2.1 u.2.2).toList[k]?)/\lu W u.1 u.2.1 u.2.2):=by
 obtain⟨xs,m,_,_,hl,hx,hall⟩:=DataW.trod_struct underlying45 h;rw[Oi]at hl
 obtain⟨x0,x1,x2,x3,x4,x5,x6,x7,rfl⟩: ∃x0 x1 x2 x3 x4 x5 x6 x7,xs=[x0,x1,x2,x3,x4,x5,x6,x7]:=by
  match xs,(show xs.length=8 from hx) with
  |[a,b,c,d,e,f,g,h],_=>exact⟨a,b,c,d,e,f,g,h,rfl⟩
 obtain⟨c0,c1,c2,c3,c4,c5,c6,c7,c8,c9,ca,cb,cc,rfl⟩: ∃c0 c1 c2 c3 c4 c5 c6 c7 c8 c9 ca cb cc,cs=[c0,c1,c2,c3,c4,c5,c6,c7,c8,c9,ca,cb,cc]:=by
  match cs,hl with
  |[a,b,c,d,e,f,g,h,i,j,k,l,m],_=>exact⟨a,b,c,d,e,f,g,h,i,j,k,l,m,rfl⟩
 generalize hL:[c0,c1,c2,c3,c4,c5,c6,c7,c8,c9,ca,cb,cc]=L at hall;have h0:DataW.trod enc prog W 0 (fun _=>true) true m 3 ((L.drop 0).take (prog.cellsOf 3))=some x0:=hall 0 _ rfl;have h1:DataW.trod enc prog W 0 (fun _=>true) true m 3 ((L.drop 1).take (prog.cellsOf 3))=some x1:=hall 1 _ rfl;have h2:DataW.trod enc prog W 0 (fun _=>true) true m 3 ((L.drop 2).take (prog.cellsOf 3))=some x2:=hall 2 _ rfl;have h3:DataW.trod enc prog W 0 (fun _=>true) true m 3 ((L.drop 3).take (prog.cellsOf 3))=some x3:=hall 3 _ rfl;have h4:DataW.trod enc prog W 0 (fun _=>true) true m 9 ((L.drop 4).take (prog.cellsOf 9))=some x4:=hall 4 _ rfl;have h5:DataW.trod enc prog W 0 (fun _=>true) true m 9 ((L.drop 5).take (prog.cellsOf 9))=some x5:=hall 5 _ rfl;have h6:DataW.trod enc prog W 0 (fun _=>true) true m 41 ((L.drop 6).take (prog.cellsOf 41))=some x6:=hall 6 _ rfl;have h7:DataW.trod enc prog W 0 (fun _=>true) true m 36 ((L.drop 10).take (prog.cellsOf 36))=some x7:=hall 7 _ rfl;rw[cN9]at h0 h1 h2 h3;rw[PC]at h4 h5;rw[Og]at h6;rw[Oh]at h7;subst hL;obtain⟨z0,e0,_⟩:=DataW.trod_int underlying3 h0;obtain⟨z1,e1,_⟩:=DataW.trod_int underlying3 h1;obtain⟨z2,e2,_⟩:=DataW.trod_int underlying3 h2;obtain⟨z3,e3,_⟩:=DataW.trod_int underlying3 h3;obtain⟨s4,e4,l4⟩:=As h4;obtain⟨s5,e5,l5⟩:=As h5;obtain⟨a6,b6,d6,r6,l6,e6,q6⟩:=Kx h6;obtain⟨a7,b7,w7,l7,e7,q7,k7⟩:=yd h7;simp at e0 e1 e2 e3 e4 e5 e6 e7;refine⟨(⟨z0,z1,z2,z3,s4,s5,⟨a6,b6,d6,l6⟩,a7,b7,l7⟩,r6,w7),rfl,fun k=> ?_,q6,q7,l4,l5,k7⟩;simp only[e0,e1,e2,e3,e4,e5,e6,e7];rfl
theorem Kz {r:Reach}{b0:Nat}{v:Value}{d:DataW H}{q:List MemPlace}(hv:Value.okWide prog W r b0 22 v)(h:DataW.Trod enc prog W 0 (fun _=>true) true 22 v d q): ∃cs,kT W v cs:=by
 obtain⟨ao,k0,c0,rfl⟩:=okWide_slice underlying22 hv;obtain⟨fuel,hf⟩:=h;obtain⟨p,len,cap,us,e,hl,hn,hall⟩:=wi ((⟨0,0,0,0,[],[],sv0,0,0,[]⟩,af,af):Cm×Value×Value) (Q:=fun c u=>(∀k,c k=(doC u.1 u.2.1 u.2.2).toList[k]?)/\lu W u.1 u.2.1 u.2.2) underlying22 Oi (by decide) Ky hf;have e':Value.slice ao k0 c0= .slice p len cap:=by simpa[Value.cells] using e
 refine⟨us,p,cap,by rw[e',hl],by rw[hl];exact hn,fun j u hj=> ?_⟩;obtain⟨g,o,hp,c,hcl,hcc,q0,q1⟩:=hall j u hj;exact⟨q1,g,o,hp,fun k x hk=>hcc k x ((q0 k).trans hk)⟩
theorem MF {ts:List TypeId}{dx:List (DataW H)}(hsz:(DataW.weightsEach prog ts dx).all (· <=reachBytes)=true){j:Nat}(ht:ts[j]? =some 22){d:DataW H}(hd:dx[j]? =some d){v:Value}{p:List MemPlace}(h:DataW.Trod enc prog W 0 (fun _=>true) true 22 v d p){cs:List (Cm×Value×Value)}(hr:kT W v cs):cs.length<=1000000000000:=by
 obtain⟨pv,cv,hv0,_⟩:=hr;obtain⟨fuel,hf⟩:=h;rcases DataW.trod_slice underlying22 hf with⟨e,_⟩|⟨a,len,cap,elems,rest,m,_,e,ex,_,_,_,hlen,_⟩
 ·have e':v=af:=by rw[hv0]at e⊢;simpa[Value.cells] using e
  rw[hv0]at e';injection e' with _ e2;omega
 ·have e':v= .slice (some a) len cap:=by rw[hv0]at e⊢;simpa[Value.cells] using e
  have ed:d= .slice (elems.map (·.1)) (rest.map (·.1)):=congrArg Prod.fst ex;subst ed;have hb:=sized_slice hsz ht hd underlying22;rw[show prog.bytesOf 45=152 by kernel_rfl,ba,ba]at hb;rw[hv0]at e';injection e' with _ e2;unfold reachBytes at hb;omega
theorem II {r:Reach}{b0:Nat}{v:Value}{d:DataW H}{q:List MemPlace}(hv:Value.okWide prog W r b0 36 v)(h:DataW.Trod enc prog W 0 (fun _=>true) true 36 v d q): ∃(a b:Int) (sl:Value) (l:List Int),v= .agg #[ag a,ag b,sl]/\dS W sl l/\ ∀p n k,sl= .slice p n k->n<=k:=by
 obtain⟨cs,rfl,_⟩:=okWide_struct underlying36 hv;obtain⟨fuel,hf⟩:=h;obtain⟨a,b,sl,l,e,hr⟩:=yd hf;have e':cs.toList=[ag a,ag b,sl]:=e;exact⟨a,b,sl,l,by rw[<-Array.toList_inj.1 (show cs.toList= #[ag a,ag b,sl].toList from e')],hr⟩
theorem KA {W':World}{v:Value}{d:DataW H}{p:List MemPlace}(h:DataW.Trod enc prog W 0 (fun _=>true) true 22 v d p)(hb:aq W W')(hlt: ∀x∈p,x.block<W.heap.size):DataW.Trod enc prog W' 0 (fun b=>decide (b<W.heap.size)) true 22 v d p:=
 Below.trod (by kernel_rfl) (by kernel_rfl) (fE (by kernel_rfl)) h hb hlt
theorem FI {W':World}{v:Value}{d:DataW H}{p:List MemPlace}(h:DataW.Trod enc prog W 0 (fun _=>true) true 36 v d p)(hb:aq W W')(hlt: ∀x∈p,x.block<W.heap.size):DataW.Trod enc prog W' 0 (fun b=>decide (b<W.heap.size)) true 36 v d p:=
 Below.trod (by kernel_rfl) (by kernel_rfl) (fE (by kernel_rfl)) h hb hlt
end
end Go.Proofs.YtkfidffapdhbhaaGreatDoor
