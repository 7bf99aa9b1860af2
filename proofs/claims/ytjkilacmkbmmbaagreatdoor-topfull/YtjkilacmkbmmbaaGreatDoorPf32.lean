/- Texts of the proof. -/
import Derived.Test.YtjkilacmkbmmbaaGreatDoorPf31
set_option maxRecDepth 100000
set_option maxHeartbeats 8000000
namespace Go.Proofs.YtjkilacmkbmmbaaGreatDoor
open Go.Proofs.Tryz Go.RowKit Lx Vx Mx Msk
section
section
variable {B gD:Nat} {d:Dk} {t:Tr}
theorem IM (n day days:Int)(w:World)(h:dD B gD d t w)(hT: ∀W,Below B w W->Tab W)(hBw:B<=w.heap.size):Calls prog 50 #[ab gD 0,ag n,ag day,ag days] w (tL B gD (jN d n day days) t w):=by
 obtain⟨wA,hA,bA,nA⟩:=nb w #[ag 0,ag 0,ag 0,ag 0,af,af] 28;have hsA:wA.heap.size=w.heap.size+1:=by rw[<-hA];simp
 have hdA:=h.opened (aA _) hsA bA;have HD1:=aD hdA;have HK1:Qo (Kd gD t t w wA):=Kd.of bA;have H0:=aD h;obtain⟨hok,rv,cv,vv,kv,ss,aa,hm⟩:=hdA;have hss:ss.length=d.svs.length:=by rw[<-hm.sve,a8]
 obtain⟨ps,cs,hsv⟩:=c8 hm.svs;obtain⟨ns,hns⟩:=aq ss.length;rw[hns]at hsv;have z2:wA.cell? (ae gD 2)=some (.slice ps ns cs):=(cr (v:=t.sv) 2 hm.blk rfl).trans (congrArg some hsv);have HNS:Qo (d.svs.length=ns):=by show _=_;rw[<-hss,hns]
 have HSS:=aD hns;have HSV:Qo (t.sv= .slice ps ns cs):=hsv;have HM:=aD hm;have HOK:=aD hok;have HT:=aD hT;have n1:=nA;have cN1:=rO n (ns:Int) wA;have cN2:=rO day 146097 wA;obtain⟨b1,hb1⟩:=aq (isN n (ns:Int));obtain⟨b2,hb2⟩:=aq (isN day 146097);rw[hb1]at cN1;rw[hb2]at cN2;have HB1:=aD hb1;have HB2:=aD hb2;have HBW:=aD hBw;clear h hm hok hss hsv hns hT hb1 hb2 nA hsA hBw;go_enter func50,ntmps50;go_wp2_with fail;refine cN1.mono ?_;rintro e w1 ⟨rfl,hw1⟩;subst hw1;clear cN1;cases b1 with
 |false=>
  have HP:Qo (jN d n day days=(noA 6,d)):=(by show _=_;unfold jN;rw[HNS.o,ay HB1.o]);clear cN2 hA z2 bA;have cR:=fV 6 w1;go_wp2_with fail;refine cR.mono ?_;rintro e w9 ⟨rfl,b9⟩;have n9:=bt b9 n1;have HO:=aD (gF (HD1.o.below b9) (HK1.o.trans (Kd.of b9)) (aA _) (anC (noA 6) (af) (af)));have HR:=aD (aJ _ _ _ (anC (noA 6) (af) (af)) _ _ n9);clear cR b9 n1;go_wp2_with(refine az rfl 28 _ _ rfl _ _ rfl rfl _ _ n9 (by kernel_rfl) rfl (by simp[anC,noA,Value.oneCell']) ?_)
  refine aU (v:= .agg (anC (noA 6) (af) (af))) ?_ rfl ?_
  ·exact a6 rfl _ _ w.heap.size _ _ _ _ rfl HR.o anT rfl (by kernel_rfl)
  ·rw[HP.o];exact⟨t,_,_,rfl,HO.o.1,HO.o.2,fZ _ _,eE _ _⟩
 |true=>
  go_wp2_with fail;refine cN2.mono ?_;rintro e w2 ⟨rfl,hw2⟩;subst hw2;clear cN2;cases b2 with
  |false=>
   have HP:Qo (jN d n day days=(noA 3,d)):=(by show _=_;unfold jN;rw[HNS.o,aw (by rw[HB1.o];simp),ay (.inl HB2.o)]);clear hA z2 bA;have cR:=fV 3 w2;go_wp2_with fail;refine cR.mono ?_;rintro e w9 ⟨rfl,b9⟩;have n9:=bt b9 n1;have HO:=aD (gF (HD1.o.below b9) (HK1.o.trans (Kd.of b9)) (aA _) (anC (noA 3) (af) (af)));have HR:=aD (aJ _ _ _ (anC (noA 3) (af) (af)) _ _ n9);clear cR b9 n1;go_wp2_with(refine az rfl 28 _ _ rfl _ _ rfl rfl _ _ n9 (by kernel_rfl) rfl (by simp[anC,noA,Value.oneCell']) ?_)
   refine aU (v:= .agg (anC (noA 3) (af) (af))) ?_ rfl ?_
   ·exact a6 rfl _ _ w.heap.size _ _ _ _ rfl HR.o anT rfl (by kernel_rfl)
   ·rw[HP.o];exact⟨t,_,_,rfl,HO.o.1,HO.o.2,fZ _ _,eE _ _⟩
  |true=>
   have hday:0<=day/\day<146097:=(by have:=HB2.o;simpa[isN] using this);by_cases h1:days<1
   ·have HP:Qo (jN d n day days=(noA 3,d)):=(by show _=_;unfold jN;rw[HNS.o,aw (by rw[HB1.o];simp),ay (.inr (.inl h1))]);clear hA z2 bA;have cR:=fV 3 w2;go_wp2_with fail;refine cR.mono ?_;rintro e w9 ⟨rfl,b9⟩;have n9:=bt b9 n1;have HO:=aD (gF (HD1.o.below b9) (HK1.o.trans (Kd.of b9)) (aA _) (anC (noA 3) (af) (af)));have HR:=aD (aJ _ _ _ (anC (noA 3) (af) (af)) _ _ n9);clear cR b9 n1;go_wp2_with(refine az rfl 28 _ _ rfl _ _ rfl rfl _ _ n9 (by kernel_rfl) rfl (by simp[anC,noA,Value.oneCell']) ?_)
    refine aU (v:= .agg (anC (noA 3) (af) (af))) ?_ rfl ?_
    ·exact a6 rfl _ _ w.heap.size _ _ _ _ rfl HR.o anT rfl (by kernel_rfl)
    ·rw[HP.o];exact⟨t,_,_,rfl,HO.o.1,HO.o.2,fZ _ _,eE _ _⟩
   ·by_cases h2:30<days
    ·have HP:Qo (jN d n day days=(noA 3,d)):=(by show _=_;unfold jN;rw[HNS.o,aw (by rw[HB1.o];simp),ay (.inr (.inr (.inl h2)))]);clear hA z2 bA;have cR:=fV 3 w2;go_wp2_with fail;refine cR.mono ?_;rintro e w9 ⟨rfl,b9⟩;have n9:=bt b9 n1;have HO:=aD (gF (HD1.o.below b9) (HK1.o.trans (Kd.of b9)) (aA _) (anC (noA 3) (af) (af)));have HR:=aD (aJ _ _ _ (anC (noA 3) (af) (af)) _ _ n9);clear cR b9 n1;go_wp2_with(refine az rfl 28 _ _ rfl _ _ rfl rfl _ _ n9 (by kernel_rfl) rfl (by simp[anC,noA,Value.oneCell']) ?_)
     refine aU (v:= .agg (anC (noA 3) (af) (af))) ?_ rfl ?_
     ·exact a6 rfl _ _ w.heap.size _ _ _ _ rfl HR.o anT rfl (by kernel_rfl)
     ·rw[HP.o];exact⟨t,_,_,rfl,HO.o.1,HO.o.2,fZ _ _,eE _ _⟩
    ·have hwr:IntKind.i64.wrap (day+days)=day+days:=(by rw[bq];omega);by_cases h3:146097<day+days
     ·have HP:Qo (jN d n day days=(noA 3,d)):=(by show _=_;unfold jN;rw[HNS.o,aw (by rw[HB1.o];simp),ay (.inr (.inr (.inr h3)))]);clear hA z2 bA;have cR:=fV 3 w2;go_wp2_with fail;refine cR.mono ?_;rintro e w9 ⟨rfl,b9⟩;have n9:=bt b9 n1;have HO:=aD (gF (HD1.o.below b9) (HK1.o.trans (Kd.of b9)) (aA _) (anC (noA 3) (af) (af)));have HR:=aD (aJ _ _ _ (anC (noA 3) (af) (af)) _ _ n9);clear cR b9 n1;go_wp2_with(refine az rfl 28 _ _ rfl _ _ rfl rfl _ _ n9 (by kernel_rfl) rfl (by simp[anC,noA,Value.oneCell']) ?_)
      refine aU (v:= .agg (anC (noA 3) (af) (af))) ?_ rfl ?_
      ·exact a6 rfl _ _ w.heap.size _ _ _ _ rfl HR.o anT rfl (by kernel_rfl)
      ·rw[HP.o];exact⟨t,_,_,rfl,HO.o.1,HO.o.2,fZ _ _,eE _ _⟩
     ·have hn:0<=n/\n<(ns:Int):=(by have:=HB1.o;simpa[isN] using this);obtain⟨k,rfl⟩: ∃k:Nat,n=(k:Int):=⟨n.toNat,by omega⟩
      have hks:k<ss.length:=(by rw[HSS.o];omega);have hk0:(0:Int)<=(k:Int):=(by omega);have hkn:(k:Int)<(ns:Int):=hn.2;obtain⟨⟨s,sv⟩,hsk⟩: ∃q,ss[k]? =some q:=⟨ss[k],ax hks⟩
      have hsd:d.svs[k]? =some s:=(by rw[<-HM.o.sve,bg,hsk];rfl);have hrb:=HM.o.svr _ (aL hsk);obtain⟨pr,crr,hse,_,_⟩:=hrb.here;dsimp only at hse hrb;subst hse;obtain⟨gs,cs',e1,_,hrg⟩:=lD vY HM.o.svs rfl hsk;have e0:Value.slice ps ns cs= .slice (some (ae gs 0)) ns cs':=(by rw[<-HSV.o,<-HSS.o];exact e1);injection e0 with e2 e3 e4;subst e2 e4;obtain⟨m,rfl⟩: ∃m:Nat,days=(m:Int):=⟨days.toNat,by omega⟩
      obtain⟨wZ,wB,hZ,nZ,hB,bB,nB⟩:=nbs w2 #[ag 0,ag 0,ag 0,af] (svC (s,.slice pr s.roles.length crr)) 35;have hdB:=HD1.o.below bB;have n1B:=bt bB n1
      have HFD:Qo (jN d (k:Int) day (m:Int)=(if(findP s (jo s day m 0 d).1).err≠0 then(noA (findP s (jo s day m 0 d).1).err,(jo s day m 0 d).2) else(⟨0,0,(findP s (jo s day m 0 d).1).day+day,(findP s (jo s day m 0 d).1).min,(findP s (jo s day m 0 d).1).who,[]⟩,(jo s day m 0 d).2))):=by
       show _=_;have:d.svs.getD k sv0=s:=(by simp[List.getD,hsd]);unfold jN
       rw[HNS.o,aw (by rw[HB1.o];simp),aw (fun h=>by
        rcases h with h|h|h|h
        ·rw[HB2.o]at h;cases h
        ·omega
        ·omega
        ·omega)]
       simp only[bV,this]
      have HRB:=aD (hrb.below bB);have HDB:=aD hdB;have HKB:=aD (HK1.o.trans (Kd.of bB));have HG:Qo (∀q,w.heap.size<=q->Gx gD t q):=fun q hq=>(H0.o.fx (.inr hq)).1;have HSM:=aD (vt (HOK.o.sv s (aL hsd)));obtain⟨nr,hnr⟩:=aq d.res.length;have hnr12:nr<=12:=(by rw[<-hnr];exact HOK.o.rl);have HNR:=aD hnr;have hww:w.heap.size<=wB.heap.size:=HKB.o.size;have hw2w:w.heap.size<=w2.heap.size:=HK1.o.size;have hm30:m<=30:=(by omega);have hdm:day+(m:Int)<=146097:=(by omega);have hwlt:=aF n1B;have hw2l:=aF nB;clear hA bA hn hks hsk hsd hrb e1 e3 hdB hnr n1 bB HB1 HB2 HNS HSS HSV HM HD1 HK1;go_wp2_with(first|(refine wpList_load_mid rfl 35 _ rfl gs (k*4) rfl (svC (s,.slice pr s.roles.length crr)).toList _ hrg svT rfl (by kernel_rfl) ?_)|(refine az rfl 35 _ _ rfl _ _ rfl rfl _ _ nZ (by kernel_rfl) rfl (uI _ _ _ _) ?_;rw[hB]))
      clear z2 hrg hZ nZ hB hwr h1 h2 h3;go_loopw [10,11,51] (fun v _ q wr=> ∃(j:Nat) (dd:Dk) (L:List Nat) (ms:List (List (Nat->Bool))) (vs:List Value),q=ag (j:Int)/\j<=m/\Cor d dd/\dD B gD dd ((t.add w.heap.size).ad L) wr/\(∀b,v.ownBlock=some b->b∈L)/\(∀b∈L,wB.heap.size<=b)/\Kd gD t t wB wr/\wr.ownsRow wB.heap.size 55 1 v j vs/\ms.length=j/\(∀(i:Nat) (fs:List (Nat->Bool)) (u:Value),ms[i]? =some fs->vs[i]? =some u->fs.length=nr/\wr.ownsRow wB.heap.size 61 23 u nr (mkF fs))/\jo s day m 0 d=(ms++(jo s day (m-j) j dd).1,(jo s day (m-j) j dd).2)) (fun _ _ q _=>m-(intOf q).toNat);case atStart=>exact⟨0,d,[],[],[],rfl,by omega,Cor.refl d,HDB.o,(fun b hb=>by cases hb),(fun b hb=>by cases hb),Kd.of (aG _ _),bU _ _ _ _,rfl,(fun i fs u hi=>by simp at hi),rfl⟩
      case round=>
       obtain⟨j,dd,L,ms,vs,rfl,hj,hco,hd,hLb,hLl,hk,hown,hms,hel,hX⟩:=hrel;have hj0:(0:Int)<=(j:Int):=(by omega);have hcr:dd.res=d.res:=(by obtain⟨_,_,rfl⟩:=hco;rfl);by_cases hjm:j<m
       ·have hjm':(j:Int)<(m:Int):=(by omega);rw[IJ s day hjm,hcr,HNR.o]at hX;have hbx:=(hk.blk _ (HG.o w2.heap.size (by omega)) hw2l).trans nB
        have hrW:Rob (Fx gD ((t.add w.heap.size).ad L)) (fun u=>fo u (.slice pr s.roles.length crr) s.roles) wr:=HRB.o.move hk.size (fun q hq hl=>hk.blk q hq.1 hl) fun q hl hq=>⟨hq.1,fun hx=>by
         rcases bO.1 hx with hx|hx
         ·have:=hLl q hx;omega
         ·exact hq.2 hx⟩
        have cF:=Do s pr crr (day+(j:Int)) wr hd hrW;rw[hcr,HNR.o]at cF;have hwj:IntKind.i64.wrap (day+(j:Int))=day+(j:Int):=(by rw[bq];omega);obtain⟨fs,hfs⟩:=aq ((ib s (day+(j:Int)) nr 0 dd).1);obtain⟨de,hde⟩:=aq ((ib s (day+(j:Int)) nr 0 dd).2)
        have HFC:Qo (Cor d de/\fs.length=nr):=by
         have:=oe s (day+(j:Int)) nr 0 dd;rw[hfs,hde]at this;exact⟨hco.trans this.1,this.2⟩
        rw[hfs,hde]at cF hX
        have HX:Qo (jo s day m 0 d=((ms++[fs])++(jo s day (m-(j+1)) (j+1) de).1,(jo s day (m-(j+1)) (j+1) de).2)):=by
         show _=_;rw[hX,di];rfl
        have HOW:=aD hown;have HEL:=aD hel;have HLB:=aD hLb;have HLL:=aD hLl;have HK:=aD hk;have HMS:=aD hms;have hwsz:wB.heap.size<=wr.heap.size:=hk.size;clear hX hfs hde hown hel hLb hLl hk hms hco hcr hd hrW;go_wp2_with(refine aR rfl 35 _ rfl _ rfl _ _ _ _ hbx svT rfl (by kernel_rfl) ?_)
        refine cF.mono ?_;rintro e w3 ⟨gm,rfl,hgm,hom,hd3,hk3⟩;have hk3':Kd gD t t wr w3:=⟨hk3.os,hk3.tape,hk3.output,hk3.size,hk3.blk,fun _ _ h=>h,rfl⟩
        obtain⟨wC,hC,bC,nC⟩:=nb w3 #[.slice (some (ae gm 0)) nr nr] 55;have keep: ∀{e s n:Nat} {u:Value} {xs:List Value},wr.ownsRow wB.heap.size e s u n xs->wC.ownsRow wB.heap.size e s u n xs:=fun hr=>bv hr fun b hq=>(bC.block b (aP (hr.lt b hq).2 hk3.size)).trans (hk3.blk b (HG.o b (by have:=(hr.lt b hq).1;omega)) (hr.lt b hq).2);have hoC:=keep HOW.o;have hdC:=hd3.below bC;have HKC:=aD (HK.o.trans (hk3'.trans (Kd.of bC)))
        have HOM:Qo (wC.ownsRow wB.heap.size 61 23 (.slice (some (ae gm 0)) nr nr) nr (mkF fs)):=by
         have h1:=bv hom fun b hq=>bC.block b (hom.lt b hq).2;exact⟨h1.1,h1.2.imp id fun⟨g,c,cu,q1,q2,q3⟩=>⟨g,c,cu,q1,aZ hwsz q2,q3⟩⟩
        have HEC:Qo (∀(i:Nat) (fs:List (Nat->Bool)) (u:Value),ms[i]? =some fs->vs[i]? =some u->fs.length=nr/\wC.ownsRow wB.heap.size 61 23 u nr (mkF fs)):=fun i fs u h1 h2=>⟨(HEL.o i fs u h1 h2).1,keep (HEL.o i fs u h1 h2).2⟩
        have HDC:=aD hdC;have hwC:wB.heap.size<=wC.heap.size:=HKC.o.size;clear cF hbx hk3 hk3' hd3 hom keep bC hdC HK HEL hgm;go_wp2_with(at_builtin;refine ie rfl _ _ 154 55 rfl Na OE rfl (by decide) (by decide) rfl hoC rfl nC rfl (by simp[Value.oneCell']) (by omega) hwC ?_)
        rintro v2 w4 ho4 hgr hbl g4 c4 rfl;obtain⟨L',hd4,hL4,hL5,_⟩:=HDC.o.grown hoC HLB.o hgr ho4 hbl;have hk4:Kd gD t t wB w4:=⟨hgr.os.trans HKC.o.os,hgr.tape.trans HKC.o.tape,hgr.output.trans HKC.o.output,aZ HKC.o.size hgr.size,fun q hq hl=>(hgr.block q (aP hl HKC.o.size) (fun e=>by have:=(hoC.lt q e.symm).1;omega)).trans (HKC.o.blk q hq hl),fun _ _ h=>h,rfl⟩
        have keep4: ∀{u:Value} {n:Nat} {xs:List Value},wC.ownsRow wB.heap.size 61 23 u n xs->w4.ownsRow wB.heap.size 61 23 u n xs:=fun hr=>bv hr fun b hq=>hgr.block b (hr.lt b hq).2 fun e=>tK hr hoC (by decide) hq e.symm
        have HR4:Qo (∃(L:List Nat) (vs':List Value),dD B gD de ((t.add w.heap.size).ad L) w4/\(∀b,(Value.slice (some (ae g4 0)) (j+1) c4).ownBlock=some b->b∈L)/\(∀b∈L,wB.heap.size<=b)/\Kd gD t t wB w4/\w4.ownsRow wB.heap.size 55 1 (.slice (some (ae g4 0)) (j+1) c4) (j+1) vs'/\(∀(i:Nat) (fs':List (Nat->Bool)) (u:Value),(ms++[fs])[i]? =some fs'->vs'[i]? =some u->fs'.length=nr/\w4.ownsRow wB.heap.size 61 23 u nr (mkF fs'))):=by
         refine⟨L',_,hd4,hL4,fun b hb=> ?_,hk4,ho4,fun i fs' u h1 h2=> ?_⟩
         ·rcases hL5 b hb with h|h
          ·exact HLL.o b h
          ·have:=h.1;omega
         ·have hvl:vs.length=j:=(by have:=HOW.o.1;omega);by_cases e:i=j
          ·subst e;rw[dG (by have:=HMS.o;omega),HMS.o,iu]at h1;rw[dG (by omega),hvl,iu]at h2;have e1:fs=fs':=aK h1;have e2:Value.slice (some (ae gm 0)) nr nr=u:=aK h2;subst e1 e2;exact⟨HFC.o.2,keep4 HOM.o⟩
          ·have hij:i<j:=by
            have:=(aE.1 h1).1;rw[aN,HMS.o]at this;simp at this;omega
           rw[dZ (by have:=HMS.o;omega)]at h1;rw[dZ (by omega)]at h2;exact⟨(HEC.o i fs' u h1 h2).1,keep4 (HEC.o i fs' u h1 h2).2⟩
        clear hoC ho4 hgr hbl nC hC hd4 hL4 hL5 hk4 keep4 HDC HKC HOM HEC HOW;go_wp2_with fail;go_roundw
        case rel=>
         obtain⟨L,vs',q1,q2,q3,q4,q5,q6⟩:=HR4.o;exact⟨j+1,de,L,ms++[fs],vs',by go_num,by omega,HFC.o.1,q1,q2,q3,q4,q5,by rw[aN,HMS.o];rfl,q6,HX.o⟩
        case measure=>simp[intOf];omega
       ·have hjm': ¬(j:Int)<(m:Int):=(by omega);obtain rfl:m=j:=(by omega);rw[iu]at hX
        have hX2:jo s day m 0 d=(ms,dd):=by
         rw[hX];simp[jo]
        have hkw:=HKB.o.trans hk;have hkBr:=hk.size;have hbx:=(hk.blk _ (HG.o w2.heap.size hw2w) hw2l).trans nB;have n1r:=(hk.blk _ (HG.o w.heap.size (aA _)) hwlt).trans n1B;have hrow:=((hk.rob (t':=t) (HRB.o.move (P':=Fx gD t) (aA _) (fun _ _ _=>rfl) fun q _ hq=>⟨hq.1,fun hx=>hq.2 (bp _ hx)⟩))).here;have hDs:uB wr u10 ms:=IL (by rw[hms];exact hown) (by omega) (by omega) hel;have hTb:=HT.o wr (Kd.below H0.o hkw HBW.o);have cM:=H5 s (.slice pr s.roles.length crr) ms u10 wr hTb hrow hDs;unfold svV Fk at cM;rw[hX2]at HFD;obtain⟨fr,hfr⟩:=aq (findP s ms);have HFR:Qo (0<=fr.day/\fr.day<=30):=(by have:=IK s ms;rw[hfr]at this;exact this);rw[hfr]at cM HFD;obtain⟨pw,cw,hu10⟩:=c8 hown;subst hu10;have HDr:=aD hd.drop;have HKr:=aD hkw;clear hX hX2 hk hkw hd hLb hLl hown hel hms hco hcr hrow hDs hTb hfr HSM;go_wp2_with(refine aR rfl 35 _ rfl _ rfl _ _ _ _ hbx svT rfl (by kernel_rfl) ?_)
        refine cM.mono ?_;rintro e w5 ⟨v5,rfl,ho5,b5⟩;obtain⟨p5,c5,hv5⟩:=c8 ho5;subst hv5;obtain⟨nw,hnw⟩:=aq fr.who.length;rw[hnw]at ho5;obtain⟨wY,w6,hY,nY,h6,b6,n6⟩:=nbs w5 #[ag 0,ag 0,af] #[ag fr.day,ag fr.min,.slice p5 nw c5] 26;have n15:=bt b5 n1r;have hk5:=HKr.o.trans (Kd.of b5);have hd5:=HDr.o.below b5;have HK5:=aD hk5;have HD5:=aD hd5;have HO5:=aD ho5;have HNW:=aD hnw;have h5w:w.heap.size<w5.heap.size:=aF n15;have hwr:w.heap.size<wr.heap.size:=aP hwlt hkBr;have hr5:wr.heap.size<=w5.heap.size:=b5.size;obtain⟨er,her⟩:=aq fr.err;rw[her]at HFD;rw[hnw,her];have HB6:=aD b6;clear cM hbx b5 n1r hk5 hd5 ho5 hnw her b6 HKr;by_cases h0:er=0
        ·subst h0;have HP:Qo (jN d (k:Int) day (m:Int)=(⟨0,0,fr.day+day,fr.min,fr.who,[]⟩,dd)):=HFD.o.trans (by rw[aw (by simp)]);have hwd:IntKind.i64.wrap (fr.day+day)=fr.day+day:=(by have:=HFR.o;rw[bq];omega);have y6:w6.cell? (ae w5.heap.size 0)=some (ag fr.day):=cr 0 n6 rfl;have x6:=bj _ _ 0 _ _ n6;obtain⟨w7,hw7⟩:=aq (w6.setCell ⟨w5.heap.size,0,none⟩ (ag (fr.day+day)));have n7:w7.heap[w5.heap.size]? =ah #[ag (fr.day+day),ag fr.min,.slice p5 nw c5] 26:=hw7▸aW w6 w5.heap.size 0 _ _ (ag (fr.day+day)) n6;have b7:ao w5 w7:=hw7▸HB6.o.setCell (p:=⟨w5.heap.size,0,none⟩) (aA _) (ag (fr.day+day));have n17:=bt b7 n15
         have HRB5:Qo (Rob (Fx gD t) (fun u=>mn B u (.slice p5 nw c5) fr.who) (w7.setRow w.heap.size (anC ⟨0,0,fr.day+day,fr.min,fr.who,[]⟩ (.slice p5 nw c5) (af)))):=by
          refine Rob.imp (Rob.move (P:=fun q=>wr.heap.size<=q) (Φ:=fun u=>u.ownsRow wr.heap.size 3 1 (.slice p5 nw c5) nw (df fr.who)) (w:=w7) (fun u hu ha=>bv HO5.o fun b hb=>(ha b (HO5.o.lt b hb).1 (aP (HO5.o.lt b hb).2 b7.size)).trans (b7.block b (HO5.o.lt b hb).2)) (by simp) (fun q hq _=>aT _ _ _ _ (by omega)) fun q _ hq=>H0.o.fx (.inr (by omega))) fun u hu=>⟨oQ (by rw[HNW.o];exact hu) (by
           rw[HNW.o];rcases hu.2 with⟨_,e⟩|⟨_,_,_,_,_,_,_,e,_⟩
           ·omega
           ·unfold maxLen at e;omega),(fun p n k e=>by
           cases e;rcases hu.2 with⟨e,e2⟩|⟨_,_,_,e,_,_,e2,_⟩
           ·omega
           ·cases e;exact e2),fun b e=>aZ (aZ HBW.o (Nat.le_of_lt hwr)) (hu.lt b e).1⟩
         have HO:=aD (gF (HD5.o.below b7) (HK5.o.trans (Kd.of b7)) (aA _) (anC ⟨0,0,fr.day+day,fr.min,fr.who,[]⟩ (.slice p5 nw c5) (af)));have HR:=aD (aJ _ _ _ (anC ⟨0,0,fr.day+day,fr.min,fr.who,[]⟩ (.slice p5 nw c5) (af)) _ _ n17);clear b7 n15 n6 HB6 HFD;go_wp2_with(first|(refine aR rfl 26 _ rfl _ rfl _ _ _ _ n7 slT rfl (by kernel_rfl) ?_)|(refine az rfl 26 _ _ rfl _ _ rfl rfl _ _ nY (by kernel_rfl) rfl (by simp[Value.oneCell']) ?_;rw[h6])|(refine az rfl 28 _ _ rfl _ _ rfl rfl _ _ n17 (by kernel_rfl) rfl (by simp[Value.oneCell']) ?_))
         refine aU (v:= .agg (anC ⟨0,0,fr.day+day,fr.min,fr.who,[]⟩ (.slice p5 nw c5) (af))) ?_ rfl ?_
         ·exact a6 rfl _ _ w.heap.size _ _ _ _ rfl HR.o anT rfl (by kernel_rfl)
         ·rw[HP.o];exact⟨t,_,_,rfl,HO.o.1,HO.o.2,HRB5.o,eE _ _⟩
        ·have h0':(er !=0)=true:=(by simpa using h0);have HP:Qo (jN d (k:Int) day (m:Int)=(noA er,dd)):=HFD.o.trans (by rw[ay h0]);have n1:=bt HB6.o n15;have HD1:=aD (HD5.o.below HB6.o);have HK1:=aD (HK5.o.trans (Kd.of HB6.o));clear h0 n15 HB6 HFD n6;go_wp2_with(refine az rfl 26 _ _ rfl _ _ rfl rfl _ _ nY (by kernel_rfl) rfl (by simp[Value.oneCell']) ?_;rw[h6])
         clear nY hY h6;have cR:=fV er w6;go_wp2_with fail;refine cR.mono ?_;rintro e w9 ⟨rfl,b9⟩;have n9:=bt b9 n1;have HO:=aD (gF (HD1.o.below b9) (HK1.o.trans (Kd.of b9)) (aA _) (anC (noA er) (af) (af)));have HR:=aD (aJ _ _ _ (anC (noA er) (af) (af)) _ _ n9);clear cR b9 n1;go_wp2_with(refine az rfl 28 _ _ rfl _ _ rfl rfl _ _ n9 (by kernel_rfl) rfl (by simp[anC,noA,Value.oneCell']) ?_)
         refine aU (v:= .agg (anC (noA er) (af) (af))) ?_ rfl ?_
         ·exact a6 rfl _ _ w.heap.size _ _ _ _ rfl HR.o anT rfl (by kernel_rfl)
         ·rw[HP.o];exact⟨t,_,_,rfl,HO.o.1,HO.o.2,fZ _ _,eE _ _⟩
end
end
section
def doC (c:Cm)(rv wv:Value):Array Value:= #[ag c.kind,ag c.n,ag c.day,ag c.days,kC c.text,kC c.name,ag c.sv.len,ag c.sv.bef,ag c.sv.aft,rv,ag c.sday,ag c.smin,wv]
def doP (d:Dk)(c:Cm):An×Dk:=
 if c.kind=1 then qr d (fE c.text) else
 if c.kind=2 then ro d c.name else
 if c.kind=3 then rq d c.sv else
 if c.kind=4 then jN d c.n c.day c.days else
 if c.kind=5 then kR d c.n c.sday c.smin c.swho else
 if c.kind=6 then nV d c.n (fun a d=>((pJ a 2,0),d)) else
 if c.kind=7 then nV d c.n (fun a d=>((pJ a 3,0),d)) else
 if c.kind=8 then nV d c.n (fun a d=>fB d c.n a c.sday c.smin c.swho) else
 if c.kind=9 then Lv d c.days else(noA 1,d)
theorem doT:prog.underlying 37=some (.struct (prog.fieldsOf 37)):=by kernel_rfl
section
variable {B gD:Nat} {d:Dk} {t:Tr} {w w3 w4:World}
theorem Tr.back {t':Tr}{q:Nat}(h:t'.xs=(t.add q).xs):t'=(Tr.mk t'.ev t'.sv t'.av t.xs).add q:=by
 obtain⟨a,b,c,x⟩:=t';dsimp only at h;subst h;rfl
theorem IN {q:Nat}{p:An×Dk}{wv lv:Value}{t':Tr}(hb:ao w w3)(hq:w.heap.size<=q)(hd:dD B gD p.2 t' w4)(hk:Kd gD (t.add q) t' w3 w4)(hw:Rob (Fx gD t') (fun u=>mn B u wv p.1.who) w4)(hl:Rob (Fx gD t') (fun u=>dR u lv p.1.list) w4)(c:Array Value):
  ∃t0:Tr,dD B gD p.2 t0 (w4.setRow q c)/\Kd gD t t0 w (w4.setRow q c)/\Rob (Fx gD t0) (fun u=>mn B u wv p.1.who) (w4.setRow q c)/\Rob (Fx gD t0) (fun u=>dR u lv p.1.list) (w4.setRow q c):=by
 have e:=Tr.back hk.xs;obtain⟨t0,rfl⟩: ∃t0:Tr,t'=t0.add q:=⟨_,e⟩
 have hk0:=Kd.opened hb hk;have hr:=gF hd hk0 hq c;have mv: ∀{Φ:World->Prop},Rob (Fx gD (t0.add q)) Φ w4->Rob (Fx gD t0) Φ (w4.setRow q c):=fun hR=>hR.move (by simp) (fun k hf _=>aT _ _ _ _ fun e=>hf.2 (by rw[e];exact bf)) fun k _ hf=>⟨hf.1,fun hx=>hf.2 (bp _ hx)⟩
 exact⟨t0,hr.1,hr.2,mv hw,mv hl⟩
theorem Cp {c:Cm}{rv wv:Value}{g:Nat}(m:w.heap[g]? =ah (doC c rv wv) 37):w.cell? (ae g 0)=some (ag c.kind)/\w.cell? (ae g 1)=some (ag c.n)/\w.cell? (ae g 2)=some (ag c.day)/\w.cell? (ae g 3)=some (ag c.days)/\w.cell? (ae g 4)=some (.string ⟨c.text.toArray⟩)/\w.cell? (ae g 5)=some (.string ⟨c.name.toArray⟩)/\w.cell? (ae g 6)=some (ag c.sv.len)/\w.cell? (ae g 7)=some (ag c.sv.bef)/\w.cell? (ae g 8)=some (ag c.sv.aft)/\w.cell? (ae g 9)=some rv/\w.cell? (ae g 10)=some (ag c.sday)/\w.cell? (ae g 11)=some (ag c.smin)/\w.cell? (ae g 12)=some wv:=
 ⟨cr 0 m rfl,cr 1 m rfl,cr 2 m rfl,cr 3 m rfl,cr 4 m rfl,cr 5 m rfl,cr 6 m rfl,cr 7 m rfl,cr 8 m rfl,cr 9 m rfl,cr 10 m rfl,cr 11 m rfl,cr 12 m rfl⟩
end
end
def dk0:Dk:=⟨[],[],[],[],[],0,[],0⟩
def eZ:Dk->List Cm->List An×Dk
 |d,[]=>([],d)
 |d,c::l=>((doP d c).1::(eZ (doP d c).2 l).1,(eZ (doP d c).2 l).2)
theorem FP {l:List Cm}{j:Nat}{c:Cm}(d:Dk)(h:l[j]? =some c):eZ d (l.drop j)=((doP d c).1::(eZ (doP d c).2 (l.drop (j+1))).1,(eZ (doP d c).2 (l.drop (j+1))).2):=by
 obtain⟨h1,h2⟩:=aE.1 h;rw[bx h1,h2];rfl
theorem pC: ∀(l:List Ap) (i:Nat) (d:Dk),Cor d (eo l i d).2
 |[],_,d=>Cor.refl d
 |a::l,i,d=>by
  unfold eo;split
  ·exact pC l (i+1) d
  ·exact(v8 (fun x d=>sB d x a.day) a.who d).trans (pC l (i+1) _)
theorem we (s:Sv)(day:Int): ∀(m i:Nat) (d:Dk),Cor d (jo s day m i d).2
 |0,_,d=>Cor.refl d
 |m+1,i,d=>by
  unfold jo;exact(oe s _ _ 0 d).1.trans (we s day m (i+1) _)
theorem Cor.given {d d':Dk}(h:Cor d d'):d'.given=d.given:=by
 obtain⟨_,_,rfl⟩:=h;rfl
theorem oZ (d:Dk)(n:Int)(f:Ap->Dk->(Ap×Int)×Dk)(hf: ∀a d,Cor d (f a d).2):(nV d n f).2.given=d.given:=by
 unfold nV;dsimp only;repeat' split
 ·rfl
 ·exact(hf _ d).given
 ·exact(hf _ d).given
theorem IP (d:Dk)(c:Cm):(doP d c).2.given<=d.given+1:=by
 have le: ∀{x:Int},x=d.given->x<=d.given+1:=fun h=>by omega
 unfold doP;split
 ·unfold qr;split
  ·exact le rfl
  ·exact Int.le_of_eq (pC _ 0 _).given
 ·split
  ·unfold ro;repeat' split
   all_goals exact le rfl
  ·split
   ·unfold rq;repeat' split
    all_goals exact le rfl
   ·split
    ·unfold jN;dsimp only;repeat' split
     all_goals first|exact le rfl|exact le (we _ _ _ 0 d).given
    ·split
     ·unfold kR;dsimp only;repeat' split
      all_goals first|exact le rfl|exact le (mX d _ _ _ _ _).given
     ·split
      ·exact le (oZ d _ _ fun a d=>Cor.refl d)
      ·split
       ·exact le (oZ d _ _ fun a d=>Cor.refl d)
       ·split
        ·exact le (oZ d _ _ fun a d=>mX d _ a _ _ _)
        ·split
         ·unfold Lv;split;all_goals exact le rfl
         ·exact le rfl
structure la (w:World)(c:Cm)(rv wv:Value):Prop where
 roles:fo w rv c.sv.roles
 who:dR w wv c.swho
 text:c.text.length<=9223372036854775807
 name:c.name.length<=9223372036854775807
 cap: ∀p n k,wv= .slice p n k->n<=k
theorem la.below {w w':World}{c:Cm}{rv wv:Value}(h:la w c rv wv)(hb:ao w w'):la w' c rv wv:=⟨h.roles.below hb,h.who.below hb,h.text,h.name,h.cap⟩
def mY (w:World)(v:Value)(cs:List (Cm×Value×Value)):Prop:= ∃p k,v= .slice p cs.length k/\cs.length<9223372036854775808/\ ∀(j:Nat) (q:Cm×Value×Value),cs[j]? =some q->la w q.1 q.2.1 q.2.2/\ ∃g o:Nat,p=some ⟨g,o,none⟩/\w.rangeAt g (o+j*13) (doC q.1 q.2.1 q.2.2).toList
theorem mY.below {w w':World}{v:Value}{cs:List (Cm×Value×Value)}(h:mY w v cs)(hb:ao w w'):mY w' v cs:=by
 obtain⟨p,k,h1,h2,h3⟩:=h;refine⟨p,k,h1,h2,fun j q hj=> ?_⟩;obtain⟨a,g,o,b,c⟩:=h3 j q hj;exact⟨a.below hb,g,o,b,il c hb⟩
theorem Dp {w u:World}{v:Value}{ns:List Int}(h:dR w v ns)(hu: ∀q,q<w.heap.size->u.heap[q]? =w.heap[q]?):dR u v ns:=by
 obtain⟨p,c,h1,h2,h3⟩:=h;refine⟨p,c,h1,h2,fun j x hj=> ?_⟩;obtain⟨g,o,e,hc⟩:=h3 j x hj;exact⟨g,o,e,(dK (hu g (bT hc))).trans hc⟩
def wf (c:Cm):Prop:= ∀(B gD:Nat) (d:Dk) (t:Tr) (w:World) (pr pw:Option Addr) (kr kw:Nat),dD B gD d t w->Tbs B w->B<=w.heap.size->d.given+1<=1000000->FM w t.xs->la w c (.slice pr c.sv.roles.length kr) (.slice pw c.swho.length kw)->Rob (fun q=>q<B) (fun u=>dR u (.slice pw c.swho.length kw) c.swho) w->Calls prog 32 #[ab gD 0,.agg (doC c (.slice pr c.sv.roles.length kr) (.slice pw c.swho.length kw))] w (tL B gD (doP d c) t w)
theorem xV:B9 dk0:=⟨by decide,rfl,by decide,by decide,by decide,by decide,by decide,(fun x hx=>by cases hx),(fun x hx=>by cases hx),(fun x hx=>by cases hx)⟩
theorem OF {B gD:Nat}{xs:List Nat}{w:World}(hB:B<=gD)(hx: ∀q∈xs,q<w.heap.size/\B<=q/\q≠gD)(h:w.heap[gD]? =ah #[af,af,af,af,af,af,ag 0,af,ag 0] 95):dD B gD dk0 ⟨af,af,af,xs⟩ w:=
 ⟨xV,af,af,af,af,[],[],h,hB,fun u _ _=>⟨[],⟨.inl ⟨rfl,none,0,rfl⟩,by simp,fun p hp=>by cases hp⟩,rfl⟩,fun u _ _=>⟨[],⟨none,0,rfl,by simp,fun j u hj=>by simp at hj⟩,rfl⟩,eE _ _,fun u _ _=>⟨none,0,rfl,aA _,by unfold maxLen;omega,fun h=>absurd rfl h⟩,bU _ _ _ _,bU _ _ _ _,rfl,(fun p hp=>by cases hp),bU _ _ _ _,rfl,(fun p hp=>by cases hp),fun q hq=>⟨(hx q hq).1,(hx q hq).2.1,(hx q hq).2.2,nofun,nofun,nofun⟩⟩
theorem rt {E:Nat->Int}: ∀(m i:Nat),(∀j,i<=j->j<i+m->E j=0)->gh E m i=(0,0)
 |0,_,_=>rfl
 |m+1,i,h=>by
  simp only[gh];rw[aw (by simpa using h i (aA _) (by omega)),rt m (i+1) fun j h1 h2=>h j (by omega) (by omega)]
theorem Dq {cs:List Cd}(h:lV cs):jv cs=(0,0):=by
 have e1:gh (fun i=>aloneE (cs.getD i cd0) cs.length) cs.length 0=(0,0):=rt _ _ fun j _ hj=>by
  have hx:cs[j]? =some (cs[j]'(by omega)):=ax (by omega);rw[iK hx];exact h.alone j _ hx
 have e2:gh (pm cs) cs.length 0=(0,0):=rt _ _ fun j _ hj=>by
  have hx:cs[j]? =some (cs[j]'(by omega)):=ax (by omega);unfold pm;rw[aw (by rw[h.cyc j (by omega)];simp),iK hx,ay (mc.2 (h.fit j _ hx))]
 have hl:=h.len;unfold jv;rw[aw (by omega),e1,aw (by simp),e2]
theorem Aq {n r:Nat}: ∀(l:List In) (k:Nat),(∀j x,l[j]? =some x->fj x (k+j) n r=0)->oS l k n r=0
 |[],_,_=>rfl
 |x::l,k,h=>by
  have h0:=h 0 x rfl;rw[Nat.add_zero]at h0;simp only[oS];rw[aw (by simpa using h0)]
  exact Aq l (k+1) fun j y hy=>by
   have:=h (j+1) y (by simpa using hy);rw[show k+(j+1)=k+1+j by omega]at this;exact this
theorem qN {E:Nat->Nat->Bool}{ρ:Nat->Nat}(h: ∀i k,E i k=true->ρ k<ρ i): ∀(m i k:Nat),Vx.wars E m i k=true->ρ k<ρ i
 |0,i,k,hw=>h i k hw
 |m+1,i,k,hw=>by
  simp only[Vx.wars,gc,bn]at hw;rcases hw with hw|⟨h1,h2⟩
  ·exact qN h m i k hw
  ·have a:=qN h m i m h1;have b:=qN h m m k h2;omega
theorem Cq {m:Nat->Int×Int}: ∀(k j:Nat),¬0<=jH m k j-> ∀i,j<=i->i<j+k->mR (m i)=false
 |0,_,_,i,h1,h2=>by omega
 |k+1,j,h,i,h1,h2=>by
  simp only[jH]at h;by_cases hm:mR (m j)=true
  ·rw[ay hm]at h;omega
  ·rw[aw hm]at h;by_cases e:i=j
   ·subst e;simpa using hm
   ·exact Cq k (j+1) h i (by omega) (by omega)
theorem uL {l:List Ru}(h:(ia l).1=0):(dg l).1=0/\ ∀i,i<l.length->mR (fO l i)=false:=by
 unfold ia at h;by_cases h0:(dg l).1≠0
 ·rw[ay h0]at h;exact absurd h h0
 ·rw[aw h0]at h;refine⟨by simpa using h0,?_⟩;by_cases h1:0<=jH (fO l) l.length 0
  ·rw[ay h1]at h;exact absurd h (by show¬(4:Int)=0;omega)
  ·intro i hi;exact Cq _ _ h1 i (dF _) (by omega)
theorem wg (l:List Ru):(eR l).length=l.length:=by unfold eR;rw[tC,mw]
theorem yN {l:List Ru}{i:Nat}(hi:i<l.length):(eR l)[i]? =some ⟨(ff l).getD i [],(fO l i).1,(fO l i).2⟩:=by
 unfold eR d9;rw[bg,List.getElem?_range (by rw[mw];exact hi)];rfl
theorem sC {l:List Ru}(h:(dg l).1=0){i:Nat}(hi:i<l.length):lI ((ff l).getD i [])/\ ∀j x,((ff l).getD i [])[j]? =some x->fj x j ((ff l).getD i []).length l.length=0:=by
 have hu:l[i]? =some l[i]:=ax hi;have hm:=aL hu;rw[mj hu];exact Ik ((qq h).2 _ hm).ok fun x hx=>⟨(rN h hm hx).1,(rN h hm hx).2.1⟩
theorem IQ {l:List Ru}(h:(ia l).1=0):lV (eR l):=by
 obtain⟨hc,hm⟩:=uL h;have hlen:=wg l
 have at_: ∀{i:Nat} {c:Cd},(eR l)[i]? =some c->i<l.length/\c=⟨(ff l).getD i [],(fO l i).1,(fO l i).2⟩:=fun {i c} hx=>by
  have hi:i<l.length:=(by rw[<-hlen];exact(aE.1 hx).1);rw[yN hi]at hx;exact⟨hi,(aK hx).symm⟩
 have lim: ∀i,i<l.length->mxH (eR l) ((ff l).getD i []) ((ff l).getD i []).length=(fO l i).1/\stS (eR l) ((ff l).getD i []) ((ff l).getD i []).length=(fO l i).2/\1<=(fO l i).1/\(fO l i).1<=100/\1<=(fO l i).2/\(fO l i).2<=20000:=fun i hi=>by
  have e:=uH hc hi;have hno:=hm i hi;unfold mR at hno;rw[Bool.or_eq_false_iff,decide_eq_false_iff_not,decide_eq_false_iff_not]at hno;have e1:(fO l i).1=min (mxH (eR l) ((ff l).getD i []) ((ff l).getD i []).length) 101:=congrArg Prod.fst e;have e2:(fO l i).2=min (stS (eR l) ((ff l).getD i []) ((ff l).getD i []).length) 20001:=congrArg Prod.snd e;have hp:=B8 hc hi;have hf:=(sC hc hi).1.fin;have ht:=Hd (eR l) ((ff l).getD i []) ((ff l).getD i []).length;omega
 refine⟨by rw[hlen];exact(qq hc).1,fun i c hx=> ?_,fun i hi=> ?_,fun i c hx=> ?_⟩
 ·obtain⟨hi,rfl⟩:=at_ hx;have hb:=vW hc hi;have hl:=lim i hi;unfold aloneE;rw[aw (by intro q;exact q ⟨hb.1,aZ hb.2 (by omega)⟩),aw (by intro q;exact q ⟨⟨hl.2.2.1,hl.2.2.2.1⟩,hl.2.2.2.2⟩)];refine Aq _ _ fun j x hjx=> ?_;rw[bH,hlen];exact(sC hc hi).2 j x hjx
 ·cases hw:Vx.wars (fN (eR l)) (eR l).length i i with
  |false=>rfl
  |true=>
   have:=qN (ρ:=muR l) (E:=fN (eR l)) (fun i k hE=>by
    unfold fN at hE;rw[List.any_eq_true]at hE;obtain⟨x,hx,hxp⟩:=hE;rw[bn,bz,bz]at hxp;by_cases hi:i<l.length
    ·have hxc:(eR l).getD i cd0=⟨(ff l).getD i [],(fO l i).1,(fO l i).2⟩:=iK (yN hi);rw[hxc]at hx;obtain⟨j,hj,hjx⟩:=List.mem_iff_getElem.1 hx;have hjx':((ff l).getD i [])[j]? =some x:=(by rw[ax hj];exact congrArg some hjx);have:=((rh hc).lt i j x (by rw[mw];exact hi) hjx' hxp.1).2.2;rw[hxp.2,bV]at this;exact this
    ·have:(eR l).getD i cd0=cd0:=by
      have:(eR l)[i]? =none:=en (by rw[hlen];omega);simp[List.getD,this]
     rw[this]at hx;cases hx) _ i i hw
   omega
 ·obtain⟨hi,rfl⟩:=at_ hx;have hl:=lim i hi;exact⟨(sC hc hi).1,hl.1,hl.2.1⟩
section
theorem D6 {wk:Int->Bool}{day:Int}{env:List UInt8->Nat->Bool}(he: ∀x (i:Nat),1440<=i->env x i=false): ∀(N:Nat) (e:Ex),SizeOf.sizeOf e<=N-> ∀(i:Nat),1440<=i->eQ wk day env e i=false
 |0,e,hN,_,_=>by cases e;simp at hN
 |N+1,e,hN,i,hi=>by
  have hk: ∀j,(e.kids.map (eQ wk day env)).getD j nev i=false:=fun j=>by
   cases hj:e.kids[j]? with
   |none=>simp[List.getD,hj,nev]
   |some k=>
    have hm:=aL hj;have:=D6 (wk:=wk) (day:=day) he N k (by have:=gJ hm;omega) i hi;simpa[List.getD,bg,hj] using this
  have hd:decide (i<1440)=false:=(by simp;omega);rw[jg];unfold mg;split
  ·exact hd
  split
  ·simp[hd]
  split
  ·split
   ·exact hk 0
   ·rfl
  split
  ·split
   ·exact hk 0
   ·rfl
  split
  ·simp[hd]
  split
  ·simp[hd]
  split
  ·simp[hd]
  split
  ·unfold shf;simp[hd]
  split
  ·exact he _ i hi
  ·rfl
theorem OH (e:Ex){i:Nat}(hi:1440<=i):mnE e i=false:=D6 (fun _ _ _=>rfl) _ e (aA _) i hi
theorem OI {f:Nat->Bool}(h: ∀i:Nat,1440<=i->f i=false):spM (rs f 1440)=f:=by
 funext i;unfold spM;by_cases hi:i<1440
 ·have:=(yG f 1440).has i hi;simpa[hi] using this
 ·rw[h i (by omega)];have hd:decide (i<1440)=false:=(by simp;omega);simp[hd]
section
variable {wk:Int->Bool} {day:Int} {ev:Nat->M×Nat} {l:List In} {num:List UInt8->Int} {env:List UInt8->Nat->Bool} {x:In} {s:Vx.St}
theorem Qb (ho:x.op=1):dy wk day ev x s=⟨s.k+1,s.S++[spM x.sp],s.n+1⟩:=by simp[dy,ho]
theorem Qc (ho:x.op=2):dy wk day ev x s=⟨s.k+1,mE unM s.S,s.n+1⟩:=by simp[dy,ho]
theorem Qd (ho:x.op=3):dy wk day ev x s=⟨s.k+1,mE dfM s.S,s.n+1⟩:=by simp[dy,ho]
theorem Qe (ho:x.op=4):dy wk day ev x s=⟨s.k+1,mE boM s.S,s.n+1⟩:=by simp[dy,ho]
theorem Qf (ho:x.op=5):dy wk day ev x s=⟨s.k+1,yA (fun f=>shM f x.a) s.S,s.n+1⟩:=by simp[dy,ho]
theorem Qg (ho:x.op=8):dy wk day ev x s=⟨s.k+1,s.S++[(ev x.a.toNat).1],s.n+1+(ev x.a.toNat).2⟩:=by simp[dy,ho]
theorem PI (ho:x.op=6\/x.op=7)(hd:onD wk day x=true):dy wk day ev x s=⟨s.k+1,s.S,s.n+1⟩:=by
 unfold dy;rw[aw (by omega),aw (by omega),aw (by omega),aw (by omega),aw (by omega),aw (by omega),ay hd]
theorem OJ (ho:x.op=6\/x.op=7)(hd: ¬onD wk day x=true):dy wk day ev x s=⟨x.to.toNat,s.S++[noM],s.n+1⟩:=by
 unfold dy;rw[aw (by omega),aw (by omega),aw (by omega),aw (by omega),aw (by omega),aw (by omega),aw hd]
theorem Ar (hu:Up wk day ev l){b ln:Nat}{S:List M}{n:Nat}{v:M}(hx:l[b]? =some x)(ho:x.op=6\/x.op=7)(hto:x.to=((b+1+ln:Nat):Int))(hk: ∃n',runV wk day ev l ⟨b+1,S,n+1⟩=runV wk day ev l ⟨b+1+ln,S++[v],n'⟩):
  ∃n',runV wk day ev l ⟨b,S,n⟩=runV wk day ev l ⟨b+(ln+1),S++[if onD wk day x=true then v else nev],n'⟩:=by
 rw[lu hu (s:=⟨b,S,n⟩) hx,show b+(ln+1)=b+1+ln by omega];by_cases hd:onD wk day x=true
 ·rw[ay hd,PI ho hd];exact hk
 ·rw[aw hd,OJ ho hd,hto,bV];exact⟨n+1,rfl⟩
theorem D7 (hu:Up wk day ev l): ∀(N:Nat) (e:Ex),SizeOf.sizeOf e<=N->OKE e->(∀x∈nms e,(ev (num x).toNat).1=env x)-> ∀(b:Nat) (S:List M) (n:Nat),jM l b (bL num e b)-> ∃n',runV wk day ev l ⟨b,S,n⟩=runV wk day ev l ⟨b+(bL num e b).length,S++[eQ wk day env e],n'⟩
 |0,e,hN,_,_,_,_,_,_=>by cases e;simp at hN
 |N+1,e,hN,h,hn,b,S,n,hs=>by
  have ih: ∀k∈e.kids,∀(b:Nat) (S:List M) (n:Nat),jM l b (bL num k b)-> ∃n',runV wk day ev l ⟨b,S,n⟩=runV wk day ev l ⟨b+(bL num k b).length,S++[eQ wk day env k],n'⟩:=fun k hk=>D7 hu N k (by have:=gJ hk;omega) (h.kid hk) (fun x hx=>hn x (uD hk hx));cases hstd:stdE e with
  |true=>
   rw[nQ hstd]at hs⊢;rw[lu hu (s:=⟨b,S,n⟩) hs.one,B5 hstd,Qb rfl];refine⟨n+1,?_⟩;rw[OI (fun i hi=>OH e hi)];rfl
  |false=>
   rcases mO h hstd with⟨q,k,hk⟩|⟨q,k,hk⟩|⟨q,k,hk⟩|q|⟨q,k,m,hk⟩
   ·have hm:k∈e.kids:=(by rw[hk];simp)
    have hv:eQ wk day env e=if wk e.a=true then eQ wk day env k else nev:=by
     rw[jg,q,H9,hk];rfl
    rw[oM q (by rw[hk];rfl)]at hs⊢;have:=Ar hu (n:=n) hs.one (.inl rfl) rfl (ih k hm (b+1) S (n+1) hs.tail);rw[show onD wk day (⟨6,e.a,0,((b+1+(bL num k (b+1)).length:Nat):Int),[]⟩:In)=wk e.a from by unfold onD;rw[ay rfl]]at this;rw[hv,bG];exact this
   ·have hm:k∈e.kids:=(by rw[hk];simp)
    have hv:eQ wk day env e=if(decide (e.a<=day)&&decide (day<=e.b))=true then eQ wk day env k else nev:=by
     rw[jg,q,Ia,hk];by_cases hw:e.a<=day/\day<=e.b
     ·rw[ay hw,ay (by simp[hw])];rfl
     ·rw[aw hw,aw (by rw[bn,bz,bz];exact hw)];rfl
    rw[mN q (by rw[hk];rfl)]at hs⊢;have:=Ar hu (n:=n) hs.one (.inr rfl) rfl (ih k hm (b+1) S (n+1) hs.tail);rw[show onD wk day (⟨7,e.a,e.b,((b+1+(bL num k (b+1)).length:Nat):Int),[]⟩:In)=(decide (e.a<=day)&&decide (day<=e.b)) from by unfold onD;rw[aw (by show¬(7:Int)=6;omega)]]at this;rw[hv,bG];exact this
   ·have hm:k∈e.kids:=(by rw[hk];simp)
    have hv:eQ wk day env e=shM (eQ wk day env k) e.a:=by
     rw[jg,q,If,hk];rfl
    rw[py hstd q hk]at hs⊢;obtain⟨n',e'⟩:=ih k hm b S n hs.left;rw[e',hv,lu hu (s:=⟨b+(bL num k b).length,S++[eQ wk day env k],n'⟩) hs.right.one,Qf rfl];refine⟨n'+1,?_⟩;rw[aN,dX,<-Nat.add_assoc,yB]
   ·have hv:eQ wk day env e=env e.name:=(by rw[jg,q,DW]);rw[oK q]at hs⊢;rw[lu hu (s:=⟨b,S,n⟩) hs.one,hv,Qg rfl];refine⟨n+1+(ev (num e.name).toNat).2,?_⟩;dsimp only;rw[hn _ (uE q)];rfl
   ·have hm:k∈e.kids:=(by rw[hk];simp);have hm':m∈e.kids:=(by rw[hk];simp);rw[qJ hstd q hk]at hs⊢;obtain⟨n1,e1⟩:=ih k hm b S n hs.left.left;obtain⟨n2,e2⟩:=ih m hm' (b+(bL num k b).length) (S++[eQ wk day env k]) n1 hs.left.right;have hx:=hs.right.one;rw[aN,<-Nat.add_assoc]at hx
    have el:b+(bL num k b++bL num m (b+(bL num k b).length)++[(⟨opK e.kind,0,0,0,[]⟩:In)]).length=b+(bL num k b).length+(bL num m (b+(bL num k b).length)).length+1:=by
     rw[aN,aN,dX];omega
    rw[e1,e2,lu hu (s:=⟨b+(bL num k b).length+(bL num m (b+(bL num k b).length)).length,S++[eQ wk day env k]++[eQ wk day env m],n2⟩) hx,el];refine⟨n2+1,?_⟩;rw[di,List.singleton_append];rcases q with q|q|q
    ·have hv:eQ wk day env e=unM (eQ wk day env k) (eQ wk day env m):=by
      rw[jg,q,Ib,hk];rfl
     rw[hv,Qc (by show opK e.kind=2;rw[q];decide)];dsimp only;rw[lJ]
    ·have hv:eQ wk day env e=dfM (eQ wk day env k) (eQ wk day env m):=by
      rw[jg,q,Ic,hk];rfl
     rw[hv,Qd (by show opK e.kind=3;rw[q];decide)];dsimp only;rw[lJ]
    ·have hv:eQ wk day env e=boM (eQ wk day env k) (eQ wk day env m):=by
      rw[jg,q,Ie,hk];rfl
     rw[hv,Qe (by show opK e.kind=4;rw[q];decide)];dsimp only;rw[lJ]
end
theorem D8 {l:List Ru}(h:(dg l).1=0)(wk:Int->Bool)(day:Int): ∀(d i:Nat),i<l.length->muR l i<d->(evV wk day (eR l) d i).1=fT l wk day i
 |0,_,_,hd=>by omega
 |d+1,i,hi,hd=>by
  have hu0:l[i]? =some l[i]:=ax hi;have hm:=aL hu0;have hcd:(eR l).getD i cd0=⟨(ff l).getD i [],(fO l i).1,(fO l i).2⟩:=iK (yN hi);have hup:Up wk day (evV wk day (eR l) d) ((ff l).getD i []):=E1 (sC h hi).2;have hok:=((qq h).2 _ hm).ok;have hseg:jM ((ff l).getD i []) 0 (bL (atP5 l) (l[i]).2 0):=fun j _=>(by rw[mj hu0,bH])
  have hnm: ∀x∈nms (l[i]).2,(evV wk day (eR l) d (atP5 l x).toNat).1=fT l wk day (atP5 l x).toNat:=fun x hx=>by
   obtain⟨h0,h1,h2⟩:=rN h hm hx;have hlt:(atP5 l x).toNat<l.length:=(by omega);have hr:muR l (atP5 l x).toNat<muR l i:=rI h hi (by rw[p8 hu0];exact du.2 ⟨_,h2,rfl⟩);exact D8 h wk day d _ hlt (by omega)
  obtain⟨n',e'⟩:=D7 (env:=fun x=>fT l wk day (atP5 l x).toNat) hup _ _ (aA _) hok hnm 0 [] 0 hseg;rw[evV,hcd];dsimp only;rw[e',vJ (by dsimp only;rw[bH,mj hu0])];show eQ wk day _ _=_;rw[nP h hu0]
theorem Nb (day:Int):dU day=wkB day:=rfl
end
structure Co where
 rules:List Ru
 res:List (List UInt8)
 svs:List Sv
 aps:List Ap
def coD (d:Dk):Co:=⟨d.rules,d.res,d.svs,d.aps⟩
def mS (c:Co)(r day:Int):M:=if atP5 c.rules (c.res.getD r.toNat [])<0 then noM else fT c.rules (wkB day) day (atP5 c.rules (c.res.getD r.toNat [])).toNat
def fS (c:Co)(r day but:Int):M:=mV (mS c r day) (inl (ld r day but c.aps 0))
def kE (c:Co)(n:Int)(a:Ap)(day min:Int)(who:List Int):Ap×Int:=
 if isN day 146097=false\/isN min 1440=false then(ap0,3) else
 if min-a.bef<0\/1440<min+a.len+a.aft then(ap0,3) else
 if jJ who (c.svs.getD a.sv.toNat sv0).roles≠0 then(ap0,jJ who (c.svs.getD a.sv.toNat sv0).roles) else
 if(who.any fun r=> !gu (fS c r day n) (min-a.bef) (min+a.len+a.aft))=true then(ap0,10) else({a with fr:=min-a.bef,to:=min+a.len+a.aft,day:=day,min:=min,who:=who},0)
def tR (c:Co)(n:Int):Ap:=⟨1,10,0,0,n,(c.svs.getD n.toNat sv0).bef,(c.svs.getD n.toNat sv0).aft,(c.svs.getD n.toNat sv0).len,0,0,[]⟩
def FQ (c:Co)(n day min:Int)(who:List Int):An×Co:=
 if isN n c.svs.length=false then(noA 6,c) else
 if 30<=c.aps.length then(noA 5,c) else
 if(kE c (-1) (tR c n) day min who).2≠0 then(noA (kE c (-1) (tR c n) day min who).2,c) else(jw c.aps.length,{c with aps:=c.aps++[(kE c (-1) (tR c n) day min who).1]})
def rQ (c:Co)(n:Int)(f:Ap->Ap×Int):An×Co:=
 if isN n c.aps.length=false\/(c.aps.getD n.toNat ap0).st=3 then(noA 6,c) else
 if(f (c.aps.getD n.toNat ap0)).2≠0 then(noA (f (c.aps.getD n.toNat ap0)).2,c) else(noA 0,{c with aps:=c.aps.set n.toNat (f (c.aps.getD n.toNat ap0)).1})
def PK (c:Co)(t:Int):An×Co:=if t<0\/1000<t then(noA 3,c) else(noA 0,{c with aps:=c.aps.map (Fz t)})
def KP (c:Co)(name:List UInt8):An×Co:=
 if 12<=c.res.length then(noA 5,c) else if atP5 c.rules name<0 then(noA 7,c) else(jw c.res.length,{c with res:=c.res++[name]})
def KQ (c:Co)(s:Sv):An×Co:=
 if 8<=c.svs.length then(noA 5,c) else if ef s c.res.length≠0 then(noA (ef s c.res.length),c) else(jw c.svs.length,{c with svs:=c.svs++[s]})
def FR (c:Co)(s:Sv)(day:Int):Nat->Nat->List M
 |0,_=>[]
 |m+1,r=>(if s.roles.any (fun p=>decide ((r:Int)∈p))=true then fS c r day (-1) else noM)::FR c s day m (r+1)
def lE (c:Co)(s:Sv)(day:Int):Nat->Nat->List (List M)
 |0,_=>[]
 |m+1,i=>FR c s (day+i) c.res.length 0::lE c s day m (i+1)
def oz (c:Co)(n day days:Int):An×Co:=
 if isN n c.svs.length=false then(noA 6,c) else
 if isN day 146097=false\/days<1\/30<days\/146097<day+days then(noA 3,c) else
 if(findP (c.svs.getD n.toNat sv0) (lE c (c.svs.getD n.toNat sv0) day days.toNat 0)).err≠0 then(noA (findP (c.svs.getD n.toNat sv0) (lE c (c.svs.getD n.toNat sv0) day days.toNat 0)).err,c) else(⟨0,0,(findP (c.svs.getD n.toNat sv0) (lE c (c.svs.getD n.toNat sv0) day days.toNat 0)).day+day,(findP (c.svs.getD n.toNat sv0) (lE c (c.svs.getD n.toNat sv0) day days.toNat 0)).min,(findP (c.svs.getD n.toNat sv0) (lE c (c.svs.getD n.toNat sv0) day days.toNat 0)).who,[]⟩,c)
def tS (c:Co):List Ap->Nat->List Int
 |[],_=>[]
 |a::l,i=>if a.st≠3/\(a.who.any fun r=> !gu (mS c r a.day) a.fr a.to)=true then(i:Int)::tS c l (i+1) else tS c l (i+1)
def IR (c:Co)(r:Int×List Ru):An×Co:=if r.1≠0 then(noA r.1,c) else(⟨0,0,0,0,[],tS {c with rules:=r.2} c.aps 0⟩,{c with rules:=r.2})
def doS (c:Co)(x:Cm):An×Co:=
 if x.kind=1 then IR c (fE x.text) else
 if x.kind=2 then KP c x.name else
 if x.kind=3 then KQ c x.sv else
 if x.kind=4 then oz c x.n x.day x.days else
 if x.kind=5 then FQ c x.n x.sday x.smin x.swho else
 if x.kind=6 then rQ c x.n (fun a=>(pJ a 2,0)) else
 if x.kind=7 then rQ c x.n (fun a=>(pJ a 3,0)) else
 if x.kind=8 then rQ c x.n (fun a=>kE c x.n a x.sday x.smin x.swho) else
 if x.kind=9 then PK c x.days else(noA 1,c)
def jj:Co->List Cm->List An×Co
 |c,[]=>([],c)
 |c,x::l=>((doS c x).1::(jj (doS c x).2 l).1,(jj (doS c x).2 l).2)
def co0:Co:=⟨[],[],[],[]⟩
structure DI (d:Dk):Prop where
 flt:ia d.rules=(0,0)
 vl:d.vers.length=d.rules.length
 kv: ∀e∈d.kept,e.v<=d.given
 vg: ∀v∈d.vers,v<=d.given
 ki: ∀e∈d.kept,∀i:Nat,e.r=(i:Int)->d.vers[i]? =some e.v->e.m=fT d.rules (wkB e.d) e.d i
 ad: ∀a∈d.aps,0<=a.day/\a.day<146097
theorem KR {l:List Ru}(h:ia l=(0,0)){i:Nat}(hi:i<l.length){day:Int}(h0:0<=day)(h1:day<146097):(iS (eR l) (i:Int) day).1=0/\oU (eR l) (i:Int) day=fT l (wkB day) day i:=by
 have hf:(ia l).1=0:=by rw[h]
 have hw:=Dq (IQ hf)
 have he:(iS (eR l) (i:Int) day).1=0:=by
  unfold iS;rw[hw,aw (by simp),wg,aw (by omega),aw (by omega)]
 refine⟨he,?_⟩;unfold oU;rw[ay he,bV,Nb];refine D8 (uL hf).1 _ _ _ _ hi ?_;rw[wg];have:=zW l (i:Int);unfold muR;omega
theorem KS {l:List Vx.Kp}{i:Int}{e:Vx.Kp}(h:e∈fQ l i):e∈l:=by
 unfold fQ at h;split at h
 ·rcases bO.1 h with h|h
  ·exact List.mem_of_mem_take h
  ·exact List.mem_of_mem_drop h
 ·exact h
theorem uM {l:List Vx.Kp}{i:Int}{e x:Vx.Kp}(h:x∈fQ l i++[e]):x∈l\/x=e:=(bO.1 h).imp KS bK.1
theorem Cr {d:Dk}(h:DI d)(r:Int){day:Int}(h0:0<=day)(h1:day<146097):(gy d r day).1=mS (coD d) r day/\DI (gy d r day).2/\coD (gy d r day).2=coD d:=by
 have hb:=nH d.rules (d.res.getD r.toNat []);by_cases hk:atP5 d.rules (d.res.getD r.toNat [])<0
 ·have e:gy d r day=(noM,d):=ay hk;rw[e];exact⟨(ay hk).symm,h,rfl⟩
 ·obtain⟨i,ek⟩: ∃i:Nat,atP5 d.rules (d.res.getD r.toNat [])=(i:Int):=⟨(atP5 d.rules (d.res.getD r.toNat [])).toNat,by omega⟩
  have e:gy d r day=((jI (eR d.rules) d.kept d.runs (d.vers.getD i 0) (i:Int) day).m,{d with kept:=(jI (eR d.rules) d.kept d.runs (d.vers.getD i 0) (i:Int) day).l,runs:=(jI (eR d.rules) d.kept d.runs (d.vers.getD i 0) (i:Int) day).n}):=by
   unfold gy;dsimp only;rw[aw hk,ek,bV]
  have e':mS (coD d) r day=fT d.rules (wkB day) day i:=by
   unfold mS coD;dsimp only;rw[aw hk,ek,bV]
  rw[e,e'];rw[ek]at hb;clear e e' hk ek;have hi:i<d.rules.length:=(by omega);obtain⟨v,hv⟩: ∃v,d.vers[i]? =some v:=⟨d.vers[i]'(by rw[h.vl];exact hi),ax _⟩
  have hvd:d.vers.getD i 0=v:=(by simp[List.getD,hv]);obtain⟨he,hm⟩:=KR h.flt hi h0 h1;rw[hvd];unfold jI;by_cases hh:nK d.kept v (i:Int) day=true
  ·rw[ay hh];obtain⟨n,e,e1,e2,e3,e4,e5,e6⟩:=OG hh;dsimp only;rw[e6];have hmem:=aL e2;have em:e.m=fT d.rules (wkB day) day i:=(by rw[<-e4];exact h.ki e hmem i e3 (by rw[e5];exact hv));refine⟨em,⟨h.flt,h.vl,fun x hx=> ?_,h.vg,fun x hx=> ?_,h.ad⟩,rfl⟩
   ·rcases uM hx with hx|rfl
    ·exact h.kv x hx
    ·exact h.kv _ hmem
   ·rcases uM hx with hx|rfl
    ·exact h.ki x hx
    ·exact h.ki _ hmem
  ·rw[aw hh,aw (fun c=>c he)];dsimp only;rw[hm];refine⟨rfl,⟨h.flt,h.vl,fun x hx=> ?_,h.vg,fun x hx=> ?_,h.ad⟩,rfl⟩
   ·rcases uM (List.mem_of_mem_drop hx) with hx|rfl
    ·exact h.kv x hx
    ·exact h.vg _ (aL hv)
   ·rcases uM (List.mem_of_mem_drop hx) with hx|rfl
    ·exact h.ki x hx
    ·intro j ej _
     have:j=i:=by
      have e:(i:Int)=(j:Int):=ej;omega
     subst this;rfl
def Ste (d:Dk)(d':Dk):Prop:=DI d'/\coD d'=coD d
theorem D9 {d:Dk}(h:DI d)(r but:Int){day:Int}(h0:0<=day)(h1:day<146097):(iY d r day but).1=fS (coD d) r day but/\Ste d (iY d r day but).2:=by
 obtain⟨a,b,c⟩:=Cr h r h0 h1;exact⟨by unfold iY fS;rw[a];rfl,b,c⟩
theorem Cs {f:Int->Dk->Bool×Dk}{g:Co->Int->Bool}(hf: ∀x d,DI d->(f x d).1=g (coD d) x/\Ste d (f x d).2): ∀(l:List Int) (d:Dk),DI d->(jx f l d).1=l.any (g (coD d))/\Ste d (jx f l d).2
 |[],d,h=>⟨rfl,h,rfl⟩
 |x::l,d,h=>by
  obtain⟨a,b,c⟩:=hf x d h;unfold jx;by_cases e:(f x d).1=true
  ·rw[ay e];refine⟨?_,b,c⟩;rw[List.any_cons,<-a,e];rfl
  ·rw[aw e];obtain⟨a',b',c'⟩:=Cs hf l (f x d).2 b;refine⟨?_,b',c'.trans c⟩;rw[a',c,List.any_cons,<-a];simp[e]
theorem wh {d:Dk}(h:DI d)(n:Int)(a:Ap)(day min:Int)(who:List Int):(fB d n a day min who).1=kE (coD d) n a day min who/\Ste d (fB d n a day min who).2:=by
 unfold fB kE;by_cases h1:isN day 146097=false\/isN min 1440=false
 ·rw[ay h1,ay h1];exact⟨rfl,h,rfl⟩
 rw[aw h1,aw h1];by_cases h2:min-a.bef<0\/1440<min+a.len+a.aft
 ·rw[ay h2,ay h2];exact⟨rfl,h,rfl⟩
 rw[aw h2,aw h2];show((if jJ who (d.svs.getD a.sv.toNat sv0).roles≠0 then _ else _:(Ap×Int)×Dk).1=(if jJ who (d.svs.getD a.sv.toNat sv0).roles≠0 then _ else _))/\_;by_cases h3:jJ who (d.svs.getD a.sv.toNat sv0).roles≠0
 ·rw[ay h3,ay h3];exact⟨rfl,h,rfl⟩
 rw[aw h3,aw h3]
 have hd:0<=day/\day<146097:=by
  have:isN day 146097=true:=(by simpa using fun c=>h1 (.inl c));simpa[isN] using this
 obtain⟨p,q⟩:=Cs (g:=fun c r=> !gu (fS c r day n) (min-a.bef) (min+a.len+a.aft)) (f:=oy day n (min-a.bef) (min+a.len+a.aft)) (fun x d h=>by
  obtain⟨e1,e2⟩:=D9 h x n hd.1 hd.2;exact⟨by unfold oy;rw[e1],e2⟩) who d h
 dsimp only;rw[p];split
 ·exact⟨rfl,q⟩
 ·exact⟨rfl,q⟩
theorem Ct (s:Sv){day:Int}(h0:0<=day)(h1:day<146097): ∀(m r:Nat) (d:Dk),DI d->(ib s day m r d).1=FR (coD d) s day m r/\Ste d (ib s day m r d).2
 |0,_,d,h=>⟨rfl,h,rfl⟩
 |m+1,r,d,h=>by
  unfold ib FR;dsimp only;split
  ·obtain⟨a,b,c⟩:=D9 h (r:Int) (-1) h0 h1;obtain⟨a',b',c'⟩:=Ct s h0 h1 m (r+1) _ b;exact⟨by rw[a,a',c],b',c'.trans c⟩
  ·obtain⟨a',b',c'⟩:=Ct s h0 h1 m (r+1) d h;exact⟨by rw[a'],b',c'⟩
theorem IS (s:Sv){day:Int}(h0:0<=day): ∀(m i:Nat) (d:Dk),DI d->day+i+m<=146097->(jo s day m i d).1=lE (coD d) s day m i/\Ste d (jo s day m i d).2
 |0,_,d,h,_=>⟨rfl,h,rfl⟩
 |m+1,i,d,h,hm=>by
  unfold jo lE;dsimp only;obtain⟨a,b,c⟩:=Ct s (day:=day+i) (by omega) (by omega) d.res.length 0 d h;obtain⟨a',b',c'⟩:=IS s h0 m (i+1) _ b (by omega);exact⟨by rw[a,a',c];rfl,b',c'.trans c⟩
end Go.Proofs.YtjkilacmkbmmbaaGreatDoor
