/- Texts of the proof. -/
import Derived.Test.YtjkilacmkbmmbaaGreatDoorPe32
set_option maxRecDepth 100000
set_option maxHeartbeats 8000000
namespace Go.Proofs.YtjkilacmkbmmbaaGreatDoor
open Go.Proofs.Tryz Go.RowKit Lx Vx Mx Msk
section
theorem kZ {R:Ending->World->Prop}{a:Act}{w:World}(g:Nat)(c:Array Value)(er:Int)(hc:c.size=11)(hd:a.defers=[])(h2:a.tmps.getD 8 undef=ab g 0)(h3:a.tmps.getD 9 undef=ag er)
  (hg:w.heap[g]? =ah c 122) (hR:R (.returned (.tuple #[.agg c,ag er])) w):bodyPost prog f57 R .ret a w:=by
 refine aU (v:= .tuple #[.agg c,ag er]) ?_ hd hR;have hf:f57.results= #[ResultVar.cell 8 122,ResultVar.tmp 9]:=rfl;have h2':a.tmps[8]?.getD undef=ab g 0:=by simpa using h2
 have h3':a.tmps[9]?.getD undef=ag er:=by simpa using h3
 have hv:=dR (P:=prog) w g 122 122 _ _ _ hg apT rfl (by rw[hc];kernel_rfl);simp[results,h2',h3',asAddr,hv]
theorem CD {who:List Int}{roles:List (List Int)}{n:Int}(hp: ∀p∈roles,xE p n)(hl:who.length=roles.length): ∀(m i:Nat),i+m=who.length->rt who roles m i=0-> ∀k,i<=k-> ∀r,who[k]? =some r->0<=r/\r<n
 |0,i,h,_,k,hk,r,hr=>by have:=(aE.1 hr).1;omega
 |m+1,i,h,hw,k,hk,r,hr=>by
  unfold rt at hw;split at hw
  ·cases hw
  ·rename_i h1;split at hw
   ·cases hw
   ·by_cases e:k=i
    ·subst e;have h2:who.getD k 0=r:=(by simp[List.getD,hr]);obtain⟨p,hpk⟩: ∃p,roles[k]? =some p:=⟨roles[k]'(by omega),ax _⟩
     have h3:roles.getD k []=p:=(by simp[List.getD,hpk]);rw[h2,h3]at h1;exact(hp p (aM hpk)).bd r (d7 h1)
    ·exact CD hp hl m (i+1) (by omega) hw k (by omega) r hr
theorem Ea {who:List Int}{s:Sv}{n:Int}(hs:dW s n=0)(h:jV who s.roles=0):(∀r∈who,0<=r/\r<n)/\who.length<=4:=by
 have ho:=qt hs;unfold jV at h;split at h
 ·cases h
 ·rename_i hl;have hl':who.length=s.roles.length:=d7 hl;refine⟨fun r hr=> ?_,by have:=ho.r4;omega⟩;obtain⟨k,hk⟩:=List.getElem?_of_mem hr;exact CD ho.pool hl' who.length 0 (by omega) h k (df _) r hk
section
variable {B gD:Nat} {d:Dk} {t:Tr} {w W:World}
theorem qE {g3 g5:Nat}(hd:dE B gD d ((t.add g3).add g5) W)(hk:Kd gD t t w W)(h5:w.heap.size<=g5)(c:Array Value):dE B gD d t (W.setRow g5 c)/\Kd gD t t w (W.setRow g5 c):=
 ⟨(hd.closed (by simp) fun k _ hne=>aT _ _ _ _ hne).closed (aA _) fun _ _ _=>rfl,hk.closed h5 rfl rfl rfl (by simp) fun k _ hne=>aT _ _ _ _ hne⟩
def Ln (B gD:Nat)(p:(Ap×Int)×Dk)(t:Tr)(w:World)(e:Ending)(w':World):Prop:= ∃sv,e= .returned (.tuple #[.agg (apC (p.1.1,sv)),ag p.1.2])/\dE B gD p.2 t w'/\Kd gD t t w w'/\Rob (Fx gD t) (fun u=>dQ u sv p.1.1.who) w'
structure PlJ (w5:World)(g3:Nat)(a:Ap)(sv:Value)(fr to:Int)(M:Nat->Bool)(W:World):Prop where
 kp:bm g3 w5 W
 ap: ∃x y,W.heap[g3]? =ah (apC ({a with fr:=x,to:=y},sv)) 122/\(M 14=true->x=fr)/\(M 16=true->y=to)
structure ClJ (wX:World)(g3:Nat)(day min:Int)(who:List Int)(nw:Nat)(M:Nat->Bool)(φ:Nat->Value)(W:World):Prop where
 bel:M 9=false->ao wX W
 cl:M 6=true-> ∃p c,φ 76= .slice p nw c/\(M 9=false->W.ownsRow wX.heap.size 3 1 (.slice p nw c) nw (c8 who))
 bu:M 7=true->φ 77= .agg #[ag day,ag min,φ 76]
 fin:M 9=true-> ∃p c W0,ao wX W0/\W0.ownsRow wX.heap.size 3 1 (.slice p nw c) nw (c8 who)/\Below W0.heap.size (W0.setCells g3 8 [ag day,ag min,.slice p nw c]) W
theorem FP (num:Int)(a:Ap)(pa pw:Option Addr)(ca cw:Nat)(day min:Int)(who:List Int)(w:World)(h:dE B gD d t w)(hs:0<=a.sv/\a.sv<d.svs.length)(hm:0<=a.bef/\a.bef<=1440/\0<=a.aft/\a.aft<=1440/\0<=a.len/\a.len<=1440)(hw:Rob (Fx gD t) (fun u=>dQ u (.slice pw who.length cw) who) w)(hcw:who.length<=cw):Calls prog 57 #[ab gD 0,ag num,.agg (apC (a,.slice pa a.who.length ca)),.agg #[ag day,ag min,.slice pw who.length cw]] w (Ln B gD (fA d num a day min who) t w):=by
 obtain⟨w1,h1,b1,n1⟩:=nb w #[ab gD 0] 115;obtain⟨w2,h2,b2,n2⟩:=nb w1 #[ag num] 3;obtain⟨w3,h3,b3,n3⟩:=nb w2 (apC (a,.slice pa a.who.length ca)) 122;obtain⟨w4,h4,b4,n4⟩:=nb w3 #[ag day,ag min,.slice pw who.length cw] 26;obtain⟨w5,h5,b5,n5⟩:=nb w4 #[ag 0,ag 0,ag 0,ag 0,ag 0,ag 0,ag 0,ag 0,ag 0,ag 0,af] 122;have s1:w1.heap.size=w.heap.size+1:=by rw[<-h1];simp
 have s2:w2.heap.size=w1.heap.size+1:=by rw[<-h2];simp
 have s3:w3.heap.size=w2.heap.size+1:=by rw[<-h3];simp
 have s4:w4.heap.size=w3.heap.size+1:=by rw[<-h4];simp
 have s5:w5.heap.size=w4.heap.size+1:=by rw[<-h5];simp
 have b02:=au b1 b2;have hd2:=h.below b02;have hd3:=hd2.opened (q:=w2.heap.size) (aA _) s3 b3;have hd5:=(hd3.below b4).opened (q:=w4.heap.size) (aA _) s5 b5;have b45:=au b4 b5;have b35:=au b3 b45;have b25:=au b2 b35;have b05:=au b1 b25;have m1:=bt b25 n1;have m2:=bt b35 n2;have m3:=bt b45 n3;have m4:=bt b5 n4;have HD5:=aD hd5;have HK5:P3 (Kd gD t t w w5):=Kd.of b05;have H0:=aD h;have HG:P3 (∀q,w.heap.size<=q->Gx gD t q):=fun q hq=>(h.fx (.inr hq)).1;have HW:=aD hw;have cN1:=rR day 146097 w5;have cN2:=rR min 1440 w5;obtain⟨c1,hb1⟩:=aq (isN day 146097);obtain⟨c2,hb2⟩:=aq (isN min 1440);rw[hb1]at cN1;rw[hb2]at cN2;have HB1:=aD hb1;have HB2:=aD hb2;have y0:w5.cell? (ae w3.heap.size 0)=some (ag day):=cr 0 m4 rfl;have y1:w5.cell? (ae w3.heap.size 1)=some (ag min):=cr 1 m4 rfl;have HS:=aD hs;have HM:=aD hm;have hww:w.heap.size<w1.heap.size:=by omega
 have hw12:w1.heap.size<w2.heap.size:=by omega
 have hw23:w2.heap.size<w3.heap.size:=by omega
 have hw34:w3.heap.size<w4.heap.size:=by omega
 have hw45:w4.heap.size<w5.heap.size:=by omega
 clear h hd2 hd3 hd5 b02 b45 b35 b25 b05 b1 b2 b3 b4 b5 s1 s2 s3 s4 s5 n1 n2 n3 n4 hb1 hb2 hs hm hw;go_enter func57,ntmps57;go_wp2_with fail;refine cN1.mono ?_;rintro e wa ⟨rfl,hwa⟩;subst hwa;clear cN1;cases c1 with
 |false=>
  have HP:P3 (fA d num a day min who=((ap0,3),d)):=(by show _=_;unfold fA;rw[ay (.inl HB1.o)]);clear cN2;have HO:=aD (qE HD5.o HK5.o (by omega) #[ag 0,ag 0,ag 0,ag 0,ag 0,ag 0,ag 0,ag 0,ag 0,ag 0,af]);have HR:=aD (aJ _ _ _ #[ag 0,ag 0,ag 0,ag 0,ag 0,ag 0,ag 0,ag 0,ag 0,ag 0,af] _ _ n5);go_wp2_with(refine az rfl 122 _ _ rfl _ _ rfl rfl _ _ n5 (by kernel_rfl) rfl (by simp[Value.oneCell']) ?_)
  refine kZ w4.heap.size _ 3 rfl rfl rfl rfl HR.o ?_;rw[HP.o];exact⟨_,rfl,HO.o.1,HO.o.2,eE _ _⟩
 |true=>
  go_wp2_with fail;refine cN2.mono ?_;rintro e wb ⟨rfl,hwb⟩;subst hwb;clear cN2;cases c2 with
  |false=>
   have HP:P3 (fA d num a day min who=((ap0,3),d)):=(by show _=_;unfold fA;rw[ay (.inr HB2.o)]);have HO:=aD (qE HD5.o HK5.o (by omega) #[ag 0,ag 0,ag 0,ag 0,ag 0,ag 0,ag 0,ag 0,ag 0,ag 0,af]);have HR:=aD (aJ _ _ _ #[ag 0,ag 0,ag 0,ag 0,ag 0,ag 0,ag 0,ag 0,ag 0,ag 0,af] _ _ n5);go_wp2_with(refine az rfl 122 _ _ rfl _ _ rfl rfl _ _ n5 (by kernel_rfl) rfl (by simp[Value.oneCell']) ?_)
   refine kZ w4.heap.size _ 3 rfl rfl rfl rfl HR.o ?_;rw[HP.o];exact⟨_,rfl,HO.o.1,HO.o.2,eE _ _⟩
  |true=>
   have hmin:0<=min/\min<1440:=(by have:=HB2.o;simpa[isN] using this);have hm:=HM.o;have q1:IntKind.i64.wrap (min-a.bef)=min-a.bef:=(by rw[bG];omega);have q2:IntKind.i64.wrap (min+a.len)=min+a.len:=(by rw[bG];omega);have q3:IntKind.i64.wrap (min+a.len+a.aft)=min+a.len+a.aft:=(by rw[bG];omega);clear hm;go_upto_region 3 with fail
   refine dt (fun M _ W=>PlJ wb w2.heap.size a (.slice pa a.who.length ca) (min-a.bef) (min+a.len+a.aft) M W) [kn 23 (ab w3.heap.size 1),kn 24 (ag min),kn 25 (ab w2.heap.size 5),kn 26 (ag a.bef),kn 27 (ag (min-a.bef)),kn 28 (ab w3.heap.size 1),kn 29 (ag min),kn 30 (ab w2.heap.size 7),kn 31 (ag a.len),kn 32 (ag (min+a.len)),kn 33 (ab w2.heap.size 6),kn 34 (ag a.aft),kn 35 (ag (min+a.len+a.aft)),kn 36 (ab w2.heap.size 2),nk,kn 37 (ab w2.heap.size 3),nk] (fun _=>⟨bm.of_below (aG _ _).drew,a.fr,a.to,m3,(fun h=>by cases h),(fun h=>by cases h)⟩) (fun _ _ _ _ hb h=>⟨h.kp.trans (bm.of_below hb),by
    obtain⟨x,y,e1,e2,e3⟩:=h.ap;exact⟨x,y,bt hb e1,e2,e3⟩⟩) (by kernel_rfl) ?_ ?_
   ·rintro M φ W hJ hc F l hl hF;obtain⟨x,y,eA,ex,ey⟩:=hJ.ap;have z5:W.cell? (ae w2.heap.size 5)=some (ag a.bef):=cr 5 eA rfl;have z6:W.cell? (ae w2.heap.size 6)=some (ag a.aft):=cr 6 eA rfl;have z7:W.cell? (ae w2.heap.size 7)=some (ag a.len):=cr 7 eA rfl;have z2:W.cell? (ae w2.heap.size 2)=some (ag x):=cr 2 eA rfl;have z3:W.cell? (ae w2.heap.size 3)=some (ag y):=cr 3 eA rfl;have x2:=bl _ _ 2 _ _ eA;have x3:=bl _ _ 3 _ _ eA;have z1:W.cell? (ae w3.heap.size 1)=some (ag min):=cr 1 ((hJ.kp.block _ (aF m4) (fun e=>by have:=aK e;omega)).trans m4) rfl;have HA:=aD (fE eA (fE ex ey));have HK:=aD hJ.kp;clear hc hJ eA ex ey y0 y1 m1 m2 m3 m4 n5;simp only[kn,nk,dN,aQ,aW,Act.put,aB,aI,aH]at hl;subst hl;simp only[dg,Nat.reduceAdd]at hF;dsimp only[kn,nk,dC,en,dS,Act.put];and_intros;all_goals first|exact trivial|intro hw hn hm K hK
    all_goals try (go_simp;with_reducible exact hK _ _ ⟨rfl,aG _ _⟩)
    ·go_simp;refine hK undef _ ⟨trivial,HK.o.trans (ip W _ 2 (ag (min-a.bef))),min-a.bef,y,aX W w2.heap.size 2 _ _ (ag (min-a.bef)) HA.o.1,fun _=>rfl,fun c=>HA.o.2.2 (by rw[orZ (by decide)]at c;exact c)⟩
    ·go_simp;refine hK undef _ ⟨trivial,HK.o.trans (ip W _ 3 (ag (min+a.len+a.aft))),x,min+a.len+a.aft,aX W w2.heap.size 3 _ _ (ag (min+a.len+a.aft)) HA.o.1,fun c=>HA.o.2.1 (by rw[orZ (by decide)]at c;exact c),fun _=>rfl⟩
   ·rintro M φ w6 hM hJ;simp only[kn,nk,dP,aQ,aW,Act.put,aB,aI,aH];obtain⟨x,y,eA,ex,ey⟩:=hJ.ap;obtain rfl:=ex (hM 14 (by decide) rfl);obtain rfl:=ey (hM 16 (by decide) rfl);have hkp:=hJ.kp;obtain⟨fr,hfr⟩:=aq (min-a.bef);obtain⟨to,hto⟩:=aq (min+a.len+a.aft);rw[hfr,hto]at eA⊢;have HFR:=aD hfr;have HTO:=aD hto;have hne: ∀{q:Nat},q≠w2.heap.size->some q≠some w2.heap.size:=fun h e=>h (aK e);have HD6:=aD (HD5.o.wr hkp.size (fun k hl hx=>hkp.block k hl (hne fun e=>hx (by rw[e];exact bn _ bc))));have HK6:P3 (Kd gD t t w w6):=⟨hkp.os.trans HK5.o.os,hkp.tape.trans HK5.o.tape,hkp.output.trans HK5.o.output,a6 HK5.o.size hkp.size,fun q hq hl=>(hkp.block q (by omega) (hne (by omega))).trans (HK5.o.blk q hq hl),fun _ _ h=>h,rfl⟩
    have k1:=(hkp.block _ (aF m1) (hne (by omega))).trans m1;have k2:=(hkp.block _ (aF m2) (hne (by omega))).trans m2;have k4:=(hkp.block _ (aF m4) (hne (by omega))).trans m4;have k5:=(hkp.block _ (aF n5) (hne (by omega))).trans n5;have u2:w6.cell? (ae w2.heap.size 2)=some (ag fr):=cr 2 eA rfl;have u3:w6.cell? (ae w2.heap.size 3)=some (ag to):=cr 3 eA rfl;have HSZ:=aD hkp.size;clear hM hJ hkp m1 m2 m3 m4 n5 y0 y1 hfr hto q1 q2 q3 h1 h2 h3 h4 h5 ex ey
    have HB12:P3 (¬(isN day 146097=false\/isN min 1440=false)):=by
     show¬_;rw[HB1.o,HB2.o];simp
    by_cases h4:fr<0
    ·have HP:P3 (fA d num a day min who=((ap0,3),d)):=(by show _=_;unfold fA;rw[aw HB12.o,HFR.o,HTO.o,ay (.inl h4)]);have HO:=aD (qE HD6.o HK6.o (by omega) #[ag 0,ag 0,ag 0,ag 0,ag 0,ag 0,ag 0,ag 0,ag 0,ag 0,af]);have HR:=aD (aJ _ _ _ #[ag 0,ag 0,ag 0,ag 0,ag 0,ag 0,ag 0,ag 0,ag 0,ag 0,af] _ _ k5);go_wp2_with(refine az rfl 122 _ _ rfl _ _ rfl rfl _ _ k5 (by kernel_rfl) rfl (by simp[Value.oneCell']) ?_)
     refine kZ w4.heap.size _ 3 rfl rfl rfl rfl HR.o ?_;rw[HP.o];exact⟨_,rfl,HO.o.1,HO.o.2,eE _ _⟩
    ·by_cases h5:1440<to
     ·have HP:P3 (fA d num a day min who=((ap0,3),d)):=(by show _=_;unfold fA;rw[aw HB12.o,HFR.o,HTO.o,ay (.inr h5)]);have HO:=aD (qE HD6.o HK6.o (by omega) #[ag 0,ag 0,ag 0,ag 0,ag 0,ag 0,ag 0,ag 0,ag 0,ag 0,af]);have HR:=aD (aJ _ _ _ #[ag 0,ag 0,ag 0,ag 0,ag 0,ag 0,ag 0,ag 0,ag 0,ag 0,af] _ _ k5);go_wp2_with(refine az rfl 122 _ _ rfl _ _ rfl rfl _ _ k5 (by kernel_rfl) rfl (by simp[Value.oneCell']) ?_)
      refine kZ w4.heap.size _ 3 rfl rfl rfl rfl HR.o ?_;rw[HP.o];exact⟨_,rfl,HO.o.1,HO.o.2,eE _ _⟩
     ·have h45:P3 (¬(fr<0\/1440<to)):=fun h=>(by omega);have hd6:=HD6.o;obtain⟨hok,rv,cv,vv,kv,ss,aa,hmm⟩:=hd6;obtain⟨k,hk⟩: ∃k:Nat,a.sv=(k:Int):=⟨a.sv.toNat,by have:=HS.o;omega⟩
      have hks:k<ss.length:=by
       have h1:ss.length=d.svs.length:=(by rw[<-hmm.sve,aZ]);have:=HS.o;omega
      obtain⟨⟨s,sv⟩,hsk⟩: ∃q,ss[k]? =some q:=⟨ss[k],ax hks⟩
      have hsd:d.svs[k]? =some s:=(by rw[<-hmm.sve,bg,hsk];rfl);have hrb:=(hmm.svr _ (aM hsk)).here;obtain⟨gs,cs',e1,_,hrg⟩:=lI vX hmm.svs rfl hsk;obtain⟨ns,hns⟩:=aq ss.length;rw[hns]at e1;have z2:w6.cell? (ae gD 2)=some (.slice (some (ae gs 0)) ns cs'):=(cr (v:=t.sv) 2 hmm.blk rfl).trans (congrArg some e1);obtain⟨pr,crr,hse,_,_⟩:=id hrb;dsimp only at hse hrb;subst hse;have zr:w6.cell? (ae gs (k*4+3))=some (.slice pr s.roles.length crr):=hrg 3 _ rfl;have u4:w6.cell? (ae w2.heap.size 4)=some (ag (k:Int)):=(cr 4 eA rfl).trans (by rw[hk];rfl);have hkn:(k:Int)<(ns:Int):=(by omega);have hk0:(0:Int)<=(k:Int):=(by omega);have HSV:P3 (d.svs.getD a.sv.toNat sv0=s):=(by show _=_;rw[hk];simp[List.getD,hsd]);have HWS:=aD (hok.sv s (aM hsd));have hwho:=(HK6.o.rob HW.o).here;obtain⟨er,her⟩:=aq (jV who s.roles);have HER:=aD her;have HRB:=aD hrb;have HWH:=aD hwho;obtain⟨nr,hnr⟩:=aq s.roles.length;obtain⟨nw,hnw⟩:=aq who.length;have HNW:=aD hnw;have HNR:=aD hnr;rw[hnr]at zr;rw[hnw]at k4 hcw⊢;have u0:w6.cell? (ae w3.heap.size 2)=some (.slice pw nw cw):=cr 2 k4 rfl;have u1:w6.cell? (ae w.heap.size 0)=some (ab gD 0):=cr 0 k1 rfl;clear hok hmm hk hks hsk hsd hrb hrg e1 hns hwho hnr hnw;go_upto_region 6 with fail;refine dt (fun _ _ W=>ao w6 W) [kn 47 (ab w3.heap.size 2),kn 48 (.slice pw nw cw),kn 49 (ab gD 0),kn 50 (ab gD 0),kn 51 (ab gD 0),kn 52 (ab gD 2),kn 53 (.slice (some (ae gs 0)) ns cs'),kn 54 (ab w2.heap.size 4),kn 55 (ag (k:Int)),kn 56 (ab gs (k*4)),kn 57 (ab gs (k*4+3)),kn 58 (.slice pr nr crr),kn 59 (ag er),kn 10 (ag er)] (fun _=>(aG _ _).drew) (fun _ _ _ _ hb h=>au h hb) (by kernel_rfl) ?_ ?_
      ·rintro M φ W hb _ F l hl hF;have zz:=fun(q:Addr) (x:Value) (h:w6.cell? q=some x)=>aj hb h;have u0:=zz _ _ u0;have u1:=zz _ _ u1;have u4:=zz _ _ u4;have z2:=zz _ _ z2;have zr:=zz _ _ zr;have cW:=Cb who s.roles pw cw (.slice pr s.roles.length crr) W (HWH.o.below hb) (by rw[HNW.o];exact hcw) (HRB.o.below hb);rw[her,HNW.o,HNR.o]at cW;clear zz her k1 k2 k4 k5 eA u2 u3;simp only[kn,dN,aQ,aW,Act.put,aB,aI,aH]at hl;subst hl;simp only[dg,Nat.reduceAdd]at hF;dsimp only[kn,dC,en,dS,Act.put];and_intros;all_goals first|exact trivial|intro hw hn hm K hK
       all_goals try (go_simp;with_reducible exact hK _ _ ⟨rfl,aG _ _⟩)
       go_simp;refine cW.mono ?_;rintro r' W' ⟨rfl,hb'⟩;exact hK _ _ ⟨rfl,hb'⟩
      ·rintro M φ w7 hM hb;simp only[kn,dP,aQ,aW,Act.put,aB,aI,aH];have HD7:=aD (HD6.o.below hb);have HK7:=aD (HK6.o.trans (Kd.of hb));have j1:=bt hb k1;have j2:=bt hb k2;have j4:=bt hb k4;have j5:=bt hb k5;have j3:=bt hb eA;have v0:w7.cell? (ae w3.heap.size 2)=some (.slice pw nw cw):=cr 2 j4 rfl;have hs7:wb.heap.size<=w7.heap.size:=a6 HSZ.o hb.size;clear hM hb k1 k2 k4 k5 eA u0 u1 u2 u3 u4 z2 zr her;by_cases h0:er=0
       ·subst h0;have hwr:=Ea HWS.o HER.o;have eF: ∀args w,(callFunc 97 args).run prog w= .ok (.enter 97 args) w:=fun _ _=>rfl;have hL: ∀q,w.heap.size<=q-> ∀W,Kd gD t t w7 W-> ∀{c:Array Value} {T:TypeId},w7.heap[q]? =ah c T->W.heap[q]? =ah c T:=fun q hq W hW c T hc=>(hW.blk q (HG.o q hq) (aF hc)).trans hc
        have cC:=o7 (oH day num fr to) (fun s W=>dE B gD s ((t.add w2.heap.size).add w4.heap.size) W/\Kd gD t t w7 W/\Cor d s) 97 #[ab w.heap.size 0,ab w3.heap.size 0,ab w1.heap.size 0,ab w2.heap.size 0] who (.slice pw who.length cw) d w7 eF ⟨HD7.o,Kd.of (aG _ _),Cor.refl d⟩ (fun s W hW=>((HK7.o.trans hW.2.1).rob HW.o).here) (fun x hx s W hW=>by
         have hsr:s.res=d.res:=(by obtain⟨_,_,rfl⟩:=hW.2.2;rfl);refine(Kx (a:={a with fr:=fr,to:=to}) W hW.1 (hwr.1 x hx).1 (by rw[hsr];exact(hwr.1 x hx).2) (hL _ (aA _) W hW.2.1 j1) (hL _ (by omega) W hW.2.1 j4) (hL _ (by omega) W hW.2.1 j2) (hL _ (by omega) W hW.2.1 j3) (HG.o _ (by omega)) (HG.o _ (by omega)) (HG.o _ (by omega)) (HG.o _ (aA _))).mono fun e w' hh=>⟨hh.1,hh.2.1,hW.2.1.trans ⟨hh.2.2.os,hh.2.2.tape,hh.2.2.output,hh.2.2.size,hh.2.2.blk,fun _ _ h=>h,rfl⟩,hW.2.2.trans (qS s x day num)⟩)
        rw[HNW.o]at cC;have HL:=aD hL;obtain⟨bb,hbb⟩:=aq ((jy (oH day num fr to) who d).1);obtain⟨de,hde⟩:=aq ((jy (oH day num fr to) who d).2);rw[hbb,hde]at cC
        have HPP:P3 (fA d num a day min who=if bb=true then((ap0,10),de) else(({a with fr:=fr,to:=to,day:=day,min:=min,who:=who},0),de)):=by
         show _=_;unfold fA;rw[aw HB12.o,HFR.o,HTO.o,aw h45.o,HSV.o,HER.o,aw (by simp)];simp only[hbb,hde]
        clear hbb hde hL;go_wp2_with fail;refine cC.mono ?_;rintro e w8 ⟨rfl,hd8,hk8,hco⟩;have i4:=HL.o _ (by omega) w8 hk8 j4;have i3:=HL.o _ (by omega) w8 hk8 j3;have i5:=HL.o _ (by omega) w8 hk8 j5;have HD8:=aD hd8;have HK8:=aD (HK7.o.trans hk8);have hs8:wb.heap.size<=w8.heap.size:=a6 hs7 hk8.size;clear cC hd8 hk8 hco v0 j1 j2 j3 j4 j5 HL;cases bb with
        |true=>
         have HP:P3 (fA d num a day min who=((ap0,10),de)):=HPP.o;have HO:=aD (qE HD8.o HK8.o (by omega) #[ag 0,ag 0,ag 0,ag 0,ag 0,ag 0,ag 0,ag 0,ag 0,ag 0,af]);have HR:=aD (aJ _ _ _ #[ag 0,ag 0,ag 0,ag 0,ag 0,ag 0,ag 0,ag 0,ag 0,ag 0,af] _ _ i5);go_wp2_with(refine az rfl 122 _ _ rfl _ _ rfl rfl _ _ i5 (by kernel_rfl) rfl (by simp[Value.oneCell']) ?_)
         refine kZ w4.heap.size _ 10 rfl rfl rfl rfl HR.o ?_;rw[HP.o];exact⟨_,rfl,HO.o.1,HO.o.2,eE _ _⟩
        |false=>
         have HP:P3 (fA d num a day min who=(({a with fr:=fr,to:=to,day:=day,min:=min,who:=who},0),de)):=HPP.o;clear HPP;have v0:w8.cell? (ae w3.heap.size 0)=some (ag day):=cr 0 i4 rfl;have v1:w8.cell? (ae w3.heap.size 1)=some (ag min):=cr 1 i4 rfl;have v2:w8.cell? (ae w3.heap.size 2)=some (.slice pw nw cw):=cr 2 i4 rfl;have HW8:=aD ((HK8.o.rob HW.o).here);go_upto_region 12 with fail
         refine dt (ClJ w8 w2.heap.size day min who nw) [kn 70 (ab w3.heap.size 0),kn 71 (ag day),kn 72 (ab w3.heap.size 1),kn 73 (ag min),kn 74 (ab w3.heap.size 2),kn 75 (.slice pw nw cw),td 76,td 77,kn 78 (ab w2.heap.size 8),nk] (fun _=>⟨fun _=>(aG _ _).drew,(fun h=>by cases h),(fun h=>by cases h),(fun h=>by cases h)⟩) (fun _ _ _ _ hb h=>⟨fun c=>(h.bel c).trans (hb.mono (h.bel c).size),fun c=>by
          obtain⟨p,k,e1,e2⟩:=h.cl c;exact⟨p,k,e1,fun c'=>bp (e2 c') fun b hq=>hb.block b ((e2 c').lt b hq).2⟩,h.bu,fun c=>by
          obtain⟨p,k,W0,e1,e2,e3⟩:=h.fin c;exact⟨p,k,W0,e1,e2,e3.trans (hb.mono (by have:=e3.size;rw[(fV _ _ _ _).2.2.2]at this;exact this))⟩⟩) (by kernel_rfl) ?_ ?_
         ·rintro M φ W hJ hc F l hl hF;have c76:M 7=true->M 6=true:=fun h=>hc 7 _ rfl h ⟨6,.data⟩ (by simp) rfl rfl;have c97:M 9=true->M 7=true:=fun h=>hc 9 _ rfl h ⟨7,.data⟩ (by simp) rfl rfl;have HC:=aD (fE c76 c97);have HJ:=aD hJ;clear hc c76 c97 hJ;simp only[kn,td,nk,dN,aQ,aW,Act.put,aB,aI,aH]at hl;subst hl;simp only[dg,Nat.reduceAdd]at hF;dsimp only[kn,td,nk,dC,en,dS,Act.put];and_intros;all_goals first|exact trivial|intro hw hn hm K hK
          all_goals try (go_simp;with_reducible exact hK _ _ ⟨rfl,aG _ _⟩)
          ·have hb:=HJ.o.bel (iJ HC.o.2 (hn 7 _ rfl (by kernel_rfl)));have v0:=aj hb v0;go_simp;exact hK _ _ ⟨rfl,aG _ _⟩
          ·have hb:=HJ.o.bel (iJ HC.o.2 (hn 7 _ rfl (by kernel_rfl)));have v1:=aj hb v1;go_simp;exact hK _ _ ⟨rfl,aG _ _⟩
          ·have hb:=HJ.o.bel (iJ HC.o.2 (iJ HC.o.1 (hn 6 _ rfl (by kernel_rfl))));have v2:=aj hb v2;go_simp;exact hK _ _ ⟨rfl,aG _ _⟩
          ·have h7:=iJ HC.o.1 hm;have h9:=iJ HC.o.2 h7;have hb:=HJ.o.bel h9;have cL:=xU who (.slice pw who.length cw) W (HW8.o.below hb) (by have:=hwr.2;omega);rw[HNW.o]at cL;clear hw hn;go_simp;refine cL.mono ?_;rintro r' W' ⟨v',rfl,ho',hb'⟩;obtain⟨p9,c9,rfl⟩:=bU ho';exact hK _ _ ⟨trivial,fun _=>au hb hb',fun _=>⟨p9,c9,dI,fun _=>⟨ho'.1,ho'.2.imp id fun⟨g,c,cu,q1,q2,q3⟩=>⟨g,c,cu,q1,a6 hb.size q2,q3⟩⟩⟩,fun c=>lH h7 c (by decide),fun c=>lH h9 c (by decide)⟩
          ·have h6:=hw ⟨6,.data⟩ (by simp) rfl rfl;have h9:=iJ HC.o.2 hm;have hb:=HJ.o.bel h9;obtain⟨p9,c9,e76,ho⟩:=HJ.o.cl h6;rw[e76]at hF;clear hw hn;go_simp;exact hK _ _ ⟨trivial,fun _=>hb,fun _=>⟨p9,c9,(dy (by decide)).trans e76,fun _=>ho h9⟩,fun _=>by rw[dI,dy (by decide),e76],fun c=>lH h9 c (by decide)⟩
          ·have h7:=hw ⟨7,.data⟩ (by simp) rfl rfl;have hb:=HJ.o.bel hm;obtain⟨p9,c9,e76,ho⟩:=HJ.o.cl (HC.o.1 h7);have e77:=HJ.o.bu h7;rw[e76]at e77;have i3W:=bt hb i3
           have hth:W.there w2.heap.size 8 3:=fun k hk=>by
            refine⟨?_,bl _ _ _ _ _ i3W⟩;rw[aV _ _ _ _ _ _ i3W,fk (by rw[B8];omega)];rfl
           show Oper.wp _ _ _ _ _ _;refine wp_store_mid 26 _ _ rfl w2.heap.size 8 #[ag day,ag min,.slice p9 nw c9] (by simp[Act.eval,hF]) (by simp[Act.eval,hF,e77]) hth (by kernel_rfl) (by simp[Value.oneCell']) ?_;refine hK undef _ ⟨trivial,fun c=>by simp at c,fun _=>⟨p9,c9,e76,fun c=>by simp at c⟩,fun _=>by rw[e76];exact e77,fun _=>⟨p9,c9,W,hb,ho hm,aG _ _⟩⟩
         ·rintro M φ W hM hJ;obtain⟨p9,c9,W0,h1,ho,h2⟩:=hJ.fin (hM 9 (by decide) rfl);simp only[kn,td,nk,dP,aQ,aW,Act.put,aB,aI,aH];have f3:=tT [ag day,ag min,.slice p9 nw c9] 8 W0 _ (bt h1 i3);have hsz:=(fV w2.heap.size [ag day,ag min,.slice p9 nw c9] 8 W0).2.2.2;have h2':=h2.mono (Nat.le_of_eq hsz);have g3W:W.heap[w2.heap.size]? =ah (apC ({a with fr:=fr,to:=to,day:=day,min:=min,who:=who},.slice p9 nw c9)) 122:=bt h2' f3;have hot: ∀q,q≠w2.heap.size->(W0.setCells w2.heap.size 8 [ag day,ag min,.slice p9 nw c9]).heap[q]? =W0.heap[q]? :=fun q hq=>gd w2.heap.size _ _ W0 q hq;have hW: ∀q,q<w8.heap.size->q≠w2.heap.size->W.heap[q]? =w8.heap[q]? :=fun q hl hq=>(h2.block q (aO hl h1.size)).trans ((hot q hq).trans (h1.block q hl));have hsW:w8.heap.size<=W.heap.size:=(by have:=h2.size;rw[hsz]at this;exact a6 h1.size this);have i5W:=(hW _ (aF i5) (by omega)).trans i5;have HDW:=aD (HD8.o.wr hsW fun q hl hx=>hW q hl fun e=>hx (by rw[e];exact bn _ bc));have HKW:P3 (Kd gD t t w W):=⟨h2.os.trans ((fV _ _ _ _).1.trans (h1.os.trans HK8.o.os)),h2.tape.trans ((fV _ _ _ _).2.1.trans (h1.tape.trans HK8.o.tape)),h2.output.trans ((fV _ _ _ _).2.2.1.trans (h1.output.trans HK8.o.output)),a6 HK8.o.size hsW,fun q hq hl=>(hW q (by omega) (by omega)).trans (HK8.o.blk q hq hl),fun _ _ h=>h,rfl⟩
          obtain⟨cA,hcA⟩:=aq (apC ({a with fr:=fr,to:=to,day:=day,min:=min,who:=who},.slice p9 nw c9));have HO:=aD (qE HDW.o HKW.o (by omega) cA)
          have HRI:P3 (Rob (Fx gD t) (fun u=>dQ u (.slice p9 nw c9) who) (W.setRow w4.heap.size cA)):=by
           refine Rob.imp (Rob.move (P:=fun q=>w8.heap.size<=q) (Φ:=fun u=>u.ownsRow w8.heap.size 3 1 (.slice p9 nw c9) nw (c8 who)) (w:=W0) (fun u _ ha=>bp ho fun b hb=>ha b (ho.lt b hb).1 (ho.lt b hb).2) (by have:=h2.size;rw[hsz]at this;simpa using this) (fun q hq hl=>(aT _ _ _ _ (by omega)).trans ((h2.block q hl).trans (hot q (by omega)))) fun q _ hq=>H0.o.fx (.inr (by omega))) fun u hu=>mD (by rw[HNW.o];exact hu) (by have:=hwr.2;omega)
          have HR:=aD (aJ _ _ _ cA _ _ i5W);have h1c:cA.all (·.oneCell')=true:=(by rw[<-hcA];exact mC _ _ _ _);have hc11:cA.size=11:=(by rw[<-hcA];rfl);rw[hcA]at g3W;have HCA:=aD hcA;clear hM hJ h1 h2 h2' ho f3 hot hW hsz hsW i3 i4 i5 v0 v1 v2 hcA;go_wp2_with(first|(refine aR rfl 122 _ rfl _ rfl _ _ _ _ g3W apT rfl (by rw[hc11];kernel_rfl) ?_)|(refine az rfl 122 _ _ rfl _ _ rfl rfl _ _ i5W (by rw[hc11];kernel_rfl) (by rw[hc11];rfl) h1c ?_))
          refine kZ w4.heap.size cA 0 hc11 rfl rfl rfl HR.o ?_;rw[HP.o];exact⟨.slice p9 nw c9,by rw[HCA.o],HO.o.1,HO.o.2,HRI.o⟩
       ·have h0':(er !=0)=true:=(by simpa using h0);have HP:P3 (fA d num a day min who=((ap0,er),d)):=(by show _=_;unfold fA;rw[aw HB12.o,HFR.o,HTO.o,aw h45.o,HSV.o,HER.o,ay h0]);clear h0;have HO:=aD (qE HD7.o HK7.o (by omega) #[ag 0,ag 0,ag 0,ag 0,ag 0,ag 0,ag 0,ag 0,ag 0,ag 0,af]);have HR:=aD (aJ _ _ _ #[ag 0,ag 0,ag 0,ag 0,ag 0,ag 0,ag 0,ag 0,ag 0,ag 0,af] _ _ j5);go_wp2_with(refine az rfl 122 _ _ rfl _ _ rfl rfl _ _ j5 (by kernel_rfl) rfl (by simp[Value.oneCell']) ?_)
        refine kZ w4.heap.size _ er rfl rfl rfl rfl HR.o ?_;rw[HP.o];exact⟨_,rfl,HO.o.1,HO.o.2,eE _ _⟩
end
end
section
theorem PY:(prog.info? 122).map (fun i=>(i.zero,i.size,i.bytes))=some (some (.agg #[ag 0,ag 0,ag 0,ag 0,ag 0,ag 0,ag 0,ag 0,ag 0,ag 0,af]),11,104):=by kernel_rfl
theorem Pr:prog.underlying 67=some (.slice 122):=by kernel_rfl
def KM (d:Dk)(a:Ap):Prop:=(0<=a.sv/\a.sv<d.svs.length)/\(0<=a.fr/\a.fr<=a.to/\a.to<=1440)/\(0<=a.left/\a.left<=10)/\(0<=a.bef/\a.bef<=1440/\0<=a.aft/\a.aft<=1440/\0<=a.len/\a.len<=1440)/\(0<=a.day/\a.day<146097)/\a.who.length<=4/\ ∀r∈a.who,0<=r/\r<d.res.length
theorem IW {d:Dk}{num:Int}{a:Ap}{day min:Int}{who:List Int}(hd:B4 d)(hs:0<=a.sv/\a.sv<d.svs.length)(hl:0<=a.left/\a.left<=10)(hm:0<=a.bef/\a.bef<=1440/\0<=a.aft/\a.aft<=1440/\0<=a.len/\a.len<=1440)(h:(fA d num a day min who).1.2=0):KM d (fA d num a day min who).1.1:=by
 unfold fA at h⊢;dsimp only at h⊢;by_cases h1:isN day 146097=false\/isN min 1440=false
 ·rw[ay h1]at h;cases h
 rw[aw h1]at h⊢;by_cases h2:min-a.bef<0\/1440<min+a.len+a.aft
 ·rw[ay h2]at h;cases h
 rw[aw h2]at h⊢;by_cases h3:jV who (d.svs.getD a.sv.toNat sv0).roles≠0
 ·rw[ay h3]at h;exact absurd h h3
 rw[aw h3]at h⊢;split at h
 ·cases h
 ·rename_i h4;rw[aw h4];obtain⟨s,hsv⟩: ∃s,d.svs[a.sv.toNat]? =some s:=⟨d.svs[a.sv.toNat]'(by omega),ax _⟩
  have e:d.svs.getD a.sv.toNat sv0=s:=(by simp[List.getD,hsv]);rw[e]at h3;have hw:=Ea (hd.sv s (aM hsv)) (d7 h3)
  have hdy:0<=day/\day<146097:=by
   have:isN day 146097=true:=by
    cases hq:isN day 146097 with
    |true=>rfl
    |false=>exact absurd (.inl hq) h1
   simpa[isN] using this
  exact⟨hs,⟨by show 0<=min-a.bef;omega,by show min-a.bef<=min+a.len+a.aft;omega,by show min+a.len+a.aft<=1440;omega⟩,hl,hm,hdy,hw.2,hw.1⟩
theorem KN (aa:List (Ap×Value))(p:Ap×Value):apF (aa++[p])=apF aa++(apC p).toList:=by simp[apF]
theorem DkM.addAp {B gD:Nat}{d:Dk}{t:Tr}{rv cv vv kv:Value}{ss:List (Sv×Value)}{aa:List (Ap×Value)}{wX W0 W1 W:World}{a:Ap}{v v':Value}(hm:DkM B gD d t rv cv vv kv ss aa wX)(hG:qB wX B 122 11 aa.length t.av (apF aa) (apC (a,v)) v' W0 W1)(hb:Below W1.heap.size (W1.setCell ⟨gD,3,none⟩ v') W)(hrob:Rob (Fx gD t) (fun u=>dQ u v a.who) wX):
  DkM B gD {d with aps:=d.aps++[a]} {t with av:=v'} rv cv vv kv ss (aa++[(a,v)]) W/\Kd gD t {t with av:=v'} wX W:=by
 obtain⟨hb0,hgr,hv,hown⟩:=hG;have hm0:=hm.below hb0;have hkd:=Cc (t':={t with av:=v'}) (k:=3) hm0 (.inr (.inr rfl)) hgr hv (.inr (.inr ⟨rfl,rfl⟩));have blk2:=(hgr.block gD (aF hm0.blk) fun e=>iu hm0.aps hm0.blk (by decide) e.symm).trans hm0.blk;have hne: ∀b,v'.ownBlock=some b->b≠gD:=fun b hb' e=>iu hown blk2 (by decide) (by rw[hb',e]);have hbW:Below (W1.setCell ⟨gD,3,none⟩ v').heap.size (W1.setCell ⟨gD,3,none⟩ v') W:=hb.mono (by simp);have hkW:=hkd.trans (Kd.of hbW);have keep: ∀{e s n:Nat} {u:Value} {xs:List Value},(W1.setCell ⟨gD,3,none⟩ v').ownsRow B e s u n xs->W.ownsRow B e s u n xs:=fun hr=>bp hr fun b hq=>hbW.block b (hr.lt b hq).2;refine⟨hm0.turn hkW (bt hbW (aX W1 gD 3 _ _ v' blk2)) rfl rfl rfl (keep (pO ⟨_,hm0.blk⟩ hm0.res hm0.aps (by decide) (by decide) hgr)) (keep (pO ⟨_,hm0.blk⟩ hm0.svs hm0.aps (by decide) (by decide) hgr)) (keep (bp ?_ fun b hq=>aN W1 ⟨gD,3,none⟩ b v' (hne b hq))) hm0.sve (by simp[hm0.ape]) (fun p hp=> .inl hp) (fun p hp=> ?_),(Kd.of hb0).trans hkW⟩
 ·rw[aL,KN];exact hown
 ·rcases bJ.1 hp with hp|hp
  ·exact .inl ⟨p.1,hp,rfl⟩
  ·rw[bv.1 hp];exact .inr (hkW.rob (hrob.below hb0))
structure ApJ (wX:World)(B gD:Nat)(c:Array Value)(v:Value)(na:Nat)(aa:List (Ap×Value))(M:Nat->Bool)(φ:Nat->Value)(W:World):Prop where
 bel:M 8=false->ao wX W
 one:M 7=true->M 8=false-> ∃g k,φ 62= .slice (some (ae g 0)) 1 k/\W.heap[g]? =ah c 122
 app:M 8=true->M 12=false-> ∃g k W0,φ 63= .slice (some (ae g 0)) (na+1) k/\qB wX B 122 11 na v (apF aa) c (φ 63) W0 W
 sto:M 12=true-> ∃g k W0 W1,φ 63= .slice (some (ae g 0)) (na+1) k/\qB wX B 122 11 na v (apF aa) c (φ 63) W0 W1/\Below W1.heap.size (W1.setCell ⟨gD,3,none⟩ (φ 63)) W
section
variable {B gD:Nat} {d:Dk} {t:Tr}
theorem KO (n day min:Int)(who:List Int)(pw:Option Addr)(cw:Nat)(w:World)(h:dE B gD d t w)(hw:Rob (Fx gD t) (fun u=>dQ u (.slice pw who.length cw) who) w)(hcw:who.length<=cw):Calls prog 51 #[ab gD 0,ag n,.agg #[ag day,ag min,.slice pw who.length cw]] w (tR B gD (kX d n day min who) t w):=by
 obtain⟨w1,h1,b1,n1⟩:=nb w #[ag day,ag min,.slice pw who.length cw] 26;obtain⟨w2,h2,b2,n2⟩:=nb w1 #[ag 0,ag 0,ag 0,ag 0,af,af] 28;have s1:w1.heap.size=w.heap.size+1:=by rw[<-h1];simp
 have s2:w2.heap.size=w1.heap.size+1:=by rw[<-h2];simp
 have b02:=au b1 b2;have hd2:=h.opened (q:=w1.heap.size) b1.size s2 b02;have m1:=bt b2 n1;have HD2:=aD hd2;have HK2:P3 (Kd gD t t w w2):=Kd.of b02;have H0:=aD h;have HW:=aD hw;have HB02:=aD b02;have HG:P3 (∀q,w.heap.size<=q->Gx gD t q):=fun q hq=>(h.fx (.inr hq)).1;obtain⟨hok,rv,cv,vv,kv,ss,aa,hm⟩:=hd2;have hss:ss.length=d.svs.length:=by rw[<-hm.sve,aZ]
 have haa:aa.length=d.aps.length:=by rw[<-hm.ape,aZ]
 obtain⟨ps,cs,hsv⟩:=bU hm.svs;obtain⟨pa,ca,hav⟩:=bU hm.aps;obtain⟨ns,hns⟩:=aq ss.length;obtain⟨na,hna⟩:=aq aa.length;rw[hns]at hsv;rw[hna]at hav;have z2:w2.cell? (ae gD 2)=some (.slice ps ns cs):=(cr (v:=t.sv) 2 hm.blk rfl).trans (congrArg some hsv);have z3:w2.cell? (ae gD 3)=some (.slice pa na ca):=(cr (v:=t.av) 3 hm.blk rfl).trans (congrArg some hav);have HNS:P3 (d.svs.length=ns):=by show _=_;rw[<-hss,hns]
 have HNA:P3 (d.aps.length=na):=by show _=_;rw[<-haa,hna]
 have HSV:P3 (t.sv= .slice ps ns cs):=hsv;have HSS:=aD hns;have HM:=aD hm;have HOK:=aD hok;have hna30:na<=30:=by rw[<-HNA.o];exact hok.al
 have cN:=rR n (ns:Int) w2;obtain⟨c1,hb1⟩:=aq (isN n (ns:Int));rw[hb1]at cN;have HB1:=aD hb1;have hw1:w.heap.size<w1.heap.size:=by omega
 have hw2:w1.heap.size<w2.heap.size:=by omega
 clear h hw b1 b2 b02 hm hok hss haa hsv hav hns hna hb1 n1 s1 s2;go_enter func51,ntmps51;go_wp2_with fail;refine cN.mono ?_;rintro e wa ⟨rfl,hwa⟩;subst hwa;clear cN;cases c1 with
 |false=>
  have HP:P3 (kX d n day min who=(noA 6,d)):=(by show _=_;unfold kX;rw[HNS.o,ay HB1.o]);clear h1 h2 z2 z3 m1;have cR:=fY 6 wa;go_wp2_with fail;refine cR.mono ?_;rintro e w9 ⟨rfl,b9⟩;have n9:=bt b9 n2;have HO:=aD (gC (HD2.o.below b9) (HK2.o.trans (Kd.of b9)) (by omega) (anC (noA 6) (af) (af)));have HR:=aD (aJ _ _ _ (anC (noA 6) (af) (af)) _ _ n9);clear cR b9 n2;go_wp2_with(refine az rfl 28 _ _ rfl _ _ rfl rfl _ _ n9 (by kernel_rfl) rfl (by simp[anC,noA,Value.oneCell']) ?_)
  refine aU (v:= .agg (anC (noA 6) (af) (af))) ?_ rfl ?_
  ·exact a8 rfl _ _ w1.heap.size _ _ _ _ rfl HR.o anT rfl (by kernel_rfl)
  ·rw[HP.o];exact⟨t,_,_,rfl,HO.o.1,HO.o.2,gg _ _,eE _ _⟩
 |true=>
  by_cases h30:30<=na
  ·have h30':(30:Int)<=(na:Int):=(by omega);have HP:P3 (kX d n day min who=(noA 5,d)):=(by show _=_;unfold kX;rw[HNS.o,aw (by rw[HB1.o];simp),HNA.o,ay h30]);clear h1 h2 z2 m1;have cR:=fY 5 wa;go_wp2_with fail;refine cR.mono ?_;rintro e w9 ⟨rfl,b9⟩;have n9:=bt b9 n2;have HO:=aD (gC (HD2.o.below b9) (HK2.o.trans (Kd.of b9)) (by omega) (anC (noA 5) (af) (af)));have HR:=aD (aJ _ _ _ (anC (noA 5) (af) (af)) _ _ n9);clear cR b9 n2;go_wp2_with(refine az rfl 28 _ _ rfl _ _ rfl rfl _ _ n9 (by kernel_rfl) rfl (by simp[anC,noA,Value.oneCell']) ?_)
   refine aU (v:= .agg (anC (noA 5) (af) (af))) ?_ rfl ?_
   ·exact a8 rfl _ _ w1.heap.size _ _ _ _ rfl HR.o anT rfl (by kernel_rfl)
   ·rw[HP.o];exact⟨t,_,_,rfl,HO.o.1,HO.o.2,gg _ _,eE _ _⟩
  ·have h30': ¬(30:Int)<=(na:Int):=(by omega);have hn:0<=n/\n<(ns:Int):=(by have:=HB1.o;simpa[isN] using this);obtain⟨k,rfl⟩: ∃k:Nat,n=(k:Int):=⟨n.toNat,by omega⟩
   have hks:k<ss.length:=(by rw[HSS.o];omega);have hk0:(0:Int)<=(k:Int):=(by omega);have hkn:(k:Int)<(ns:Int):=hn.2;obtain⟨⟨s,sv⟩,hsk⟩: ∃q,ss[k]? =some q:=⟨ss[k],ax hks⟩
   have hsd:d.svs[k]? =some s:=(by rw[<-HM.o.sve,bg,hsk];rfl);obtain⟨pr,crr,hse,_,_⟩:=(HM.o.svr _ (aM hsk)).here;dsimp only at hse;subst hse;obtain⟨gs,cs',e1,_,hrg⟩:=lI vX HM.o.svs rfl hsk;have e0:Value.slice ps ns cs= .slice (some (ae gs 0)) ns cs':=(by rw[<-HSV.o,<-HSS.o];exact e1);injection e0 with e2 e3 e4;subst e2 e4;obtain⟨A0,hA0⟩: ∃q:Ap,q=⟨1,10,0,0,(k:Int),s.bef,s.aft,s.len,0,0,[]⟩:=⟨_,rfl⟩
   obtain⟨wY,w3,hY,nY,h3,b3,n3⟩:=nbs wa #[ag 0,ag 0,ag 0,af] (svC (s,.slice pr s.roles.length crr)) 35;obtain⟨wZ,w4,hZ,nZ,h4,b4,n4⟩:=nbs w3 #[ag 0,ag 0,ag 0,ag 0,ag 0,ag 0,ag 0,ag 0,ag 0,ag 0,af] #[ag 1,ag 10,ag 0,ag 0,ag (k:Int),ag s.bef,ag s.aft,ag s.len,ag 0,ag 0,af] 122;have s4:w4.heap.size=w3.heap.size+1:=(by rw[<-h4,<-hZ];simp);have hd4:=(HD2.o.below b3).opened (q:=w3.heap.size) (aA _) s4 b4;have b24:=au b3 b4;have q0:w3.cell? (ae wa.heap.size 0)=some (ag s.len):=cr 0 n3 rfl;have q1:w3.cell? (ae wa.heap.size 1)=some (ag s.bef):=cr 1 n3 rfl;have q2:w3.cell? (ae wa.heap.size 2)=some (ag s.aft):=cr 2 n3 rfl;have m4:=bt b24 m1;have l4:=bt b24 n2;have hms:=(qt (HOK.o.sv s (aM hsd))).meas
   have hms':0<=s.bef/\s.bef<=1440/\0<=s.aft/\s.aft<=1440/\0<=s.len/\s.len<=1440:=by
    unfold iY at hms;have:=eG hms;omega
   have hsvs:0<=A0.sv/\A0.sv<d.svs.length:=(by rw[hA0,HNS.o];exact⟨hk0,hkn⟩);have hbds:0<=A0.bef/\A0.bef<=1440/\0<=A0.aft/\A0.aft<=1440/\0<=A0.len/\A0.len<=1440:=(by rw[hA0];exact hms');have h34:wa.heap.size<w3.heap.size:=aF n3;have HB04:=aD (au HB02.o b24)
   have hw4:Rob (Fx gD ((t.add w1.heap.size).add w3.heap.size)) (fun u=>dQ u (.slice pw who.length cw) who) w4:=HW.o.move HB04.o.size (fun q _ hl=>HB04.o.block q hl) fun q hl hq=>⟨hq.1,fun hx=>by
    rcases bh.1 hx with e|hx
    ·omega
    ·rcases bh.1 hx with e|hx
     ·omega
     ·exact hq.2 hx⟩
   have cP:=FP (-1) A0 none pw 0 cw day min who w4 hd4 hsvs hbds hw4 hcw;obtain⟨P,hP⟩:=aq (fA d (-1) A0 day min who);rw[hP]at cP;unfold Ln at cP
   have HPP:P3 (kX d (k:Int) day min who=if P.1.2≠0 then(noA P.1.2,P.2) else(jL P.2.aps.length,{P.2 with aps:=P.2.aps++[P.1.1]})):=by
    show _=_;have e:d.svs.getD k sv0=s:=(by simp[List.getD,hsd]);unfold kX;rw[HNS.o,aw (by rw[HB1.o];simp),HNA.o,aw h30];simp only[cg,e];rw[hA0]at hP;rw[hP]
   have HCR:P3 (Cor d P.2):=(by have:=np d (-1) A0 day min who;rw[hP]at this;exact this)
   have HAP:P3 (P.1.2=0->KM d P.1.1):=fun e=>by
    have:=IW (num:= -1) (a:=A0) (day:=day) (min:=min) (who:=who) HOK.o hsvs (by rw[hA0];exact⟨by show(0:Int)<=10;omega,fi _⟩) hbds (by rw[hP];exact e);rw[hP]at this;exact this
   subst hA0;obtain⟨nw,hnw⟩:=aq who.length;rw[hnw]at cP m4⊢;have HK4:=aD (Kd.of (gD:=gD) (t:=t) HB04.o);have hs4:wa.heap.size<w4.heap.size:=(by omega);clear h1 h2 hn hks hsk hsd e1 e3 hd4 b24 hms hms' hsvs hbds hw4 hP b3 b4 m1 n2 s4 hnw hcw HB04 HB02;go_wp2_with(first|(refine wpList_load_mid rfl 35 _ rfl gs (k*4) rfl (svC (s,.slice pr s.roles.length crr)).toList _ hrg svT rfl (by kernel_rfl) ?_)|(refine az rfl 35 _ _ rfl _ _ rfl rfl _ _ nY (by kernel_rfl) rfl (uL _ _ _ _) ?_;rw[h3])|(refine az rfl 122 _ _ rfl _ _ rfl rfl _ _ nZ (by kernel_rfl) rfl (by simp[Value.oneCell']) ?_;rw[h4])|(refine aR rfl 122 _ rfl _ rfl _ _ _ _ n4 apT rfl (by kernel_rfl) ?_)|(refine aR rfl 26 _ rfl _ rfl _ _ _ _ m4 slT rfl (by kernel_rfl) ?_))
   refine cP.mono ?_;rintro e w5 ⟨sv5,rfl,hd5,hk5,hrb5⟩;obtain⟨p5,c5,hv5,_,_⟩:=hrb5.here;subst hv5;have gx3:=HG.o w3.heap.size (by omega);have n5:=(hk5.blk _ gx3 (aF n4)).trans n4;have l5:=(hk5.blk _ (HG.o w1.heap.size (by omega)) (aF l4)).trans l4;obtain⟨nx,hnx⟩:=aq P.1.1.who.length;rw[hnx]at hrb5⊢;obtain⟨cA,hcA⟩:=aq (apC (P.1.1,.slice p5 nx c5));have h1c:cA.all (·.oneCell')=true:=(by rw[<-hcA];exact mC _ _ _ _);have hc11:cA.size=11:=(by rw[<-hcA];rfl);rw[hcA];obtain⟨w6,hw6⟩:=aq (w5.setRow w3.heap.size cA);have n6:=aJ _ _ _ cA _ _ n5;rw[hw6]at n6;have ho6: ∀q,q≠w3.heap.size->w6.heap[q]? =w5.heap[q]? :=fun q hq=>hw6▸aT _ _ _ _ hq;have hs6:w6.heap.size=w5.heap.size:=(by rw[<-hw6];simp);have hd6:dE B gD P.2 (t.add w1.heap.size) w6:=hd5.closed (by omega) fun q _ hq=>ho6 q hq;have hrb6:Rob (Fx gD (t.add w1.heap.size)) (fun u=>dQ u (.slice p5 nx c5) P.1.1.who) w6:=hrb5.move (by omega) (fun q hq _=>ho6 q fun e=>hq.2 (by rw[e];exact bc)) fun q _ hq=>⟨hq.1,fun hx=>hq.2 (bn _ hx)⟩
   have hk45:Kd gD t t w4 w5:=⟨hk5.os,hk5.tape,hk5.output,hk5.size,hk5.blk,fun _ _ h=>h,rfl⟩
   have HK6:=aD ((HK4.o.trans hk45).closed (w':=w6) (q:=w3.heap.size) (by omega) (by rw[<-hw6];rfl) (by rw[<-hw6];rfl) (by rw[<-hw6];rfl) (by omega) fun q _ hq=>ho6 q hq);have l6:=(ho6 _ (by omega)).trans l5;have HD6:=aD hd6;have HRB6:=aD hrb6;have hs46:w4.heap.size<=w6.heap.size:=(by rw[hs6];exact hk5.size);obtain⟨er,her⟩:=aq P.1.2;rw[her]at HPP HAP⊢;clear cP hd5 hk5 hk45 hrb5 hd6 hrb6 ho6 hs6 l5 l4 her n4 m4 hY hZ nY nZ h3 h4 q0 q1 q2 hrg n3 z2 z3 gx3;by_cases h0:er=0
   ·subst h0;obtain⟨hok,rv',cv',vv',kv',ss',aa',hm6⟩:=HD6.o;obtain⟨pb,cb,hbv⟩:=bU hm6.aps;obtain⟨nb',hnb⟩: ∃q,aa'.length=q:=⟨_,rfl⟩
    have hnb2:P.2.aps.length=nb':=(by rw[<-hm6.ape,aZ,hnb])
    have hnb3:nb'=na:=by
     obtain⟨_,_,e⟩:=HCR.o;rw[<-hnb2,e];exact HNA.o
    have HP:P3 (kX d (k:Int) day min who=(jL nb',{P.2 with aps:=P.2.aps++[P.1.1]})):=HPP.o.trans (by rw[aw (by simp),hnb2]);rw[hnb]at hbv;have z3:w6.cell? (ae gD 3)=some (.slice pb nb' cb):=(cr (v:=t.av) 3 hm6.blk rfl).trans (congrArg some hbv);have hown:w6.ownsRow B 122 11 (.slice pb nb' cb) nb' (apF aa'):=(by have:=hm6.aps;rw[hnb]at this;rw[<-show t.av=_ from hbv];exact this);have hg6:=aF hm6.blk;have hB6:B<=w6.heap.size:=(by have:=hm6.lo;omega);have HBV:P3 (t.av= .slice pb nb' cb):=hbv;have HNB:=aD hnb;have hn30:nb'<30:=(by omega);clear hnb hnb2 hnb3 hbv HPP;go_upto_region 10 with(refine az rfl 122 _ _ rfl _ _ rfl rfl _ _ n5 (by rw[hc11];kernel_rfl) (by rw[hc11];rfl) h1c ?_;rw[hw6])
    clear n5 hw6;refine dt (ApJ w6 B gD cA (.slice pb nb' cb) nb' aa') [kn 55 (ab gD 0),kn 56 (ab gD 0),kn 57 (ab gD 0),kn 58 (ab gD 0),kn 59 (ab gD 3),kn 60 (.slice pb nb' cb),kn 61 (.agg cA),td 62,td 63,kn 64 (ab gD 0),kn 65 (ab gD 0),kn 66 (ab gD 3),nk] (fun _=>⟨fun _=>(aG _ _).drew,(fun h=>by cases h),(fun h=>by cases h),(fun h=>by cases h)⟩) (fun _ _ _ _ hb h=>⟨fun c=>(h.bel c).trans (hb.mono (h.bel c).size),fun c c'=> ?_,fun c c'=> ?_,fun c=> ?_⟩) (by kernel_rfl) ?_ ?_
    ·obtain⟨g,c1,e1,hg⟩:=h.one c c';exact⟨g,c1,e1,bt hb hg⟩
    ·obtain⟨g,c1,W0,e1,hg⟩:=h.app c c';exact⟨g,c1,W0,e1,hg.below hb⟩
    ·obtain⟨g,c1,W0,W1,e1,hg,hb1⟩:=h.sto c;exact⟨g,c1,W0,W1,e1,hg,hb1.trans (hb.mono (by have:=hb1.size;simpa using this))⟩
    ·rintro M φ W hJ hc F l hl hF;have c87:M 8=true->M 7=true:=fun h=>hc 8 _ rfl h ⟨7,.data⟩ (by simp) rfl rfl;have cD8:M 12=true->M 8=true:=fun h=>hc 12 _ rfl h ⟨8,.data⟩ (by simp) rfl rfl;have HCS:=aD (fE c87 cD8);have HJ:=aD hJ;clear hc c87 cD8 hJ;simp only[kn,td,nk,dN,aQ,aW,Act.put,aB,aI,aH]at hl;subst hl;simp only[dg,Nat.reduceAdd]at hF;dsimp only[kn,td,nk,dC,en,dS,Act.put];and_intros;all_goals first|exact trivial|intro hw hn hm K hK
     all_goals try (go_simp;with_reducible exact hK _ _ ⟨rfl,aG _ _⟩)
     ·have hb:=HJ.o.bel (hn 8 _ rfl (by kernel_rfl));have y:=aj hb z3;go_simp;exact hK _ _ ⟨rfl,aG _ _⟩
     ·have nW:=bt (HJ.o.bel (iJ HCS.o.1 (hn 7 _ rfl (by kernel_rfl)))) n6;show Oper.wp _ _ _ _ _ _;refine d9 122 _ rfl _ (by simp[Act.eval,hF]) _ _ _ _ nW apT rfl (by rw[hc11];kernel_rfl) ?_;exact hK _ _ ⟨rfl,aG _ _⟩
     ·have h8:=iJ HCS.o.1 hm;have hD:=iJ HCS.o.2 h8;have hb:=HJ.o.bel h8;have hbA:=am W (.cells cA 122);rw[<-hcA]at hF hbA;clear hw hn;unfold apC at hF;go_simp;refine hK _ _ ⟨trivial,fun _=>au hb hbA,fun _ _=>⟨W.heap.size,1,dI,?_⟩,fun c _=>lH h8 c (by decide),fun c=>lH hD c (by decide)⟩;rw[<-hcA];exact aC _ _
     ·have h7:=hw ⟨7,.data⟩ (by simp) rfl rfl;have hD:=iJ HCS.o.2 hm;have hb:=HJ.o.bel hm;obtain⟨g,c1,e62,hg⟩:=HJ.o.one h7 hm;have hownW:=bp hown fun b hq=>hb.block b (hown.lt b hq).2;show Oper.wp _ _ _ _ _ _;refine lL (ops:= #[]) rfl (ik (c:=c1) rfl _ _ 67 122 rfl Pr PY rfl (by decide) (by decide) (by simp[Act.eval,hF]) hownW (by simp[Act.eval,hF,e62]) hg hc11 h1c (by omega) (a6 hB6 hb.size) ?_);rintro v' w' ho hgr hbl ⟨g2,c2,rfl⟩;refine⟨rfl,hK _ _ ⟨trivial,fun c=>by simp at c,fun _ c=>by simp at c,fun _ _=>⟨g2,c2,W,dI,?_⟩,fun c=>lH hD c (by decide)⟩⟩;rw[dI];exact⟨hb,hgr,hbl,ho⟩
     ·have h8:=hw ⟨8,.data⟩ (by simp) rfl rfl;obtain⟨g,c1,W0,e63,hG⟩:=HJ.o.app h8 hm;have blkW:=(hG.2.1.block gD (aO hg6 hG.1.size) fun e=>iu hown hm6.blk (by decide) e.symm).trans (bt hG.1 hm6.blk);have y:=cr 3 blkW rfl;have x3:=bl _ _ 3 _ _ blkW;rw[e63]at hF;clear hw hn blkW;go_simp;refine hK undef _ ⟨trivial,fun c=> ?_,fun _ c=> ?_,fun _ c=>by simp at c,fun _=>⟨g,c1,W0,W,e63,hG,by rw[e63];exact aG _ _⟩⟩
      ·rw[orZ (by decide),h8]at c;cases c
      ·rw[orZ (by decide),h8]at c;cases c
    ·rintro M φ W hM hJ;obtain⟨g,c1,W0,W1,e63,hG,hbW⟩:=hJ.sto (hM 12 (by decide) rfl);simp only[kn,td,nk,dP,aQ,aW,Act.put,aB,aI,aH];rw[e63]at hG hbW;rw[e63];obtain⟨hm2,hk2⟩:=hm6.addAp (d:=P.2) (a:=P.1.1) (v:= .slice p5 nx c5) (by rw[HNB.o,hcA];show qB w6 B 122 11 nb' t.av _ _ _ _ _;rw[HBV.o];exact hG) hbW HRB6.o;have hap:KM d P.1.1:=HAP.o trivial
     have hd2:dE B gD {P.2 with aps:=P.2.aps++[P.1.1]} (({t with av:= .slice (some (ae g 0)) (nb'+1) c1}:Tr).add w1.heap.size) W:=by
      refine⟨⟨hok.flt,hok.vl,hok.kl,hok.rl,hok.sl,?_,hok.gv,hok.nm,hok.sv,fun x hx=> ?_⟩,_,_,_,_,_,_,hm2⟩
      ·show(P.2.aps++[P.1.1]).length<=30;rw[aL,<-hm6.ape,aZ,HNB.o];simp;omega
      ·rcases bJ.1 hx with hx|hx
       ·exact hok.ap x hx
       ·rw[bv.1 hx];obtain⟨_,_,e⟩:=HCR.o;rw[e];exact hap
     have hkw:Kd gD t {t with av:= .slice (some (ae g 0)) (nb'+1) c1} w W:=⟨hk2.os.trans HK6.o.os,hk2.tape.trans HK6.o.tape,hk2.output.trans HK6.o.output,a6 HK6.o.size hk2.size,fun q hq hl=>(hk2.blk q hq (aO hl HK6.o.size)).trans (HK6.o.blk q hq hl),fun q hl hq=>hk2.gx q (aO hl HK6.o.size) hq,rfl⟩
     have lW:=(hk2.blk w1.heap.size (hm6.nx _ bc).2.2 (aF l6)).trans l6;have y3:W.cell? (ae gD 3)=some (.slice (some (ae g 0)) (nb'+1) c1):=cr 3 hm2.blk rfl;have HO:=aD (gC hd2 hkw (by omega) (anC (jL nb') (af) (af)));have HR:=aD (aJ _ _ _ (anC (jL nb') (af) (af)) _ _ lW);have hw1':IntKind.i64.wrap ((nb':Int)+1-1)=(nb':Int):=(by rw[bG];omega);clear hM hJ hG hbW hm2 hk2 hd2 hkw hok hm6 hown hcA h1c hc11 l6 n6 z3;go_wp2_with(refine az rfl 28 _ _ rfl _ _ rfl rfl _ _ lW (by kernel_rfl) rfl (by simp[Value.oneCell']) ?_)
     refine aU (v:= .agg (anC (jL nb') (af) (af))) ?_ rfl ?_
     ·exact a8 rfl _ _ w1.heap.size _ _ _ _ rfl HR.o anT rfl (by kernel_rfl)
     ·rw[HP.o];exact⟨_,_,_,rfl,HO.o.1,HO.o.2,gg _ _,eE _ _⟩
   ·have h0':(er !=0)=true:=(by simpa using h0);have HP:P3 (kX d (k:Int) day min who=(noA er,P.2)):=HPP.o.trans (by rw[ay h0]);clear h0;go_wp2_with(refine az rfl 122 _ _ rfl _ _ rfl rfl _ _ n5 (by rw[hc11];kernel_rfl) (by rw[hc11];rfl) h1c ?_;rw[hw6])
    clear n5 hw6;have cR:=fY er w6;go_wp2_with fail;refine cR.mono ?_;rintro e w9 ⟨rfl,b9⟩;have n9:=bt b9 l6;have HO:=aD (gC (HD6.o.below b9) (HK6.o.trans (Kd.of b9)) (by omega) (anC (noA er) (af) (af)));have HR:=aD (aJ _ _ _ (anC (noA er) (af) (af)) _ _ n9);clear cR b9 l6;go_wp2_with(refine az rfl 28 _ _ rfl _ _ rfl rfl _ _ n9 (by kernel_rfl) rfl (by simp[anC,noA,Value.oneCell']) ?_)
    refine aU (v:= .agg (anC (noA er) (af) (af))) ?_ rfl ?_
    ·exact a8 rfl _ _ w1.heap.size _ _ _ _ rfl HR.o anT rfl (by kernel_rfl)
    ·rw[HP.o];exact⟨t,_,_,rfl,HO.o.1,HO.o.2,gg _ _,eE _ _⟩
end
end
end Go.Proofs.YtjkilacmkbmmbaaGreatDoor
