/- Texts of the proof. -/
import Derived.Test.YtkfidffapdhbhaaGreatDoorPh31
set_option maxRecDepth 100000
set_option maxHeartbeats 8000000
namespace Go.Proofs.YtkfidffapdhbhaaGreatDoor
open Go.Proofs.Tryz Go.RowKit Lx Vx Mx Msk
section
section
variable {B gD:Nat} {d:Dk} {t:Tr}
theorem Iv (n day days:Int)(w:World)(h:dt B gD d t w)(hT: ∀W,Below B w W->Tab W)(hBw:B<=w.heap.size):Calls prog 14 #[ab gD 0,ag n,ag day,ag days] w (qF B gD (jD d n day days) t w):=by
 obtain⟨wA,hA,bA,nA⟩:=nb w #[ag 0,ag 0,ag 0,ag 0,af,af] 47;have hsA:wA.heap.size=w.heap.size+1:=by rw[<-hA];simp
 have hdA:=h.opened (aB _) hsA bA;have HD1:=aG hdA;have HK1:PH (Kd gD t t w wA):=Kd.of bA;have H0:=aG h;obtain⟨hok,rv,cv,vv,kv,ss,aa,hm⟩:=hdA;have hss:ss.length=d.svs.length:=by rw[<-hm.sve,ba]
 obtain⟨ps,cs,hsv⟩:=di hm.svs;obtain⟨ns,hns⟩:=au ss.length;rw[hns]at hsv;have z2:wA.cell? (ae gD 2)=some (.slice ps ns cs):=(cr (v:=t.sv) 2 hm.blk rfl).trans (congrArg some hsv);have HNS:PH (d.svs.length=ns):=by show _=_;rw[<-hss,hns]
 have HSS:=aG hns;have HSV:PH (t.sv= .slice ps ns cs):=hsv;have HM:=aG hm;have HOK:=aG hok;have HT:=aG hT;have n1:=nA;have cN1:=pU n (ns:Int) wA;have cN2:=pU day 146097 wA;obtain⟨b1,hb1⟩:=au (isN n (ns:Int));obtain⟨b2,hb2⟩:=au (isN day 146097);rw[hb1]at cN1;rw[hb2]at cN2;have HB1:=aG hb1;have HB2:=aG hb2;have HBW:=aG hBw;clear h hm hok hss hsv hns hT hb1 hb2 nA hsA hBw;go_enter func14,ntmps14;go_wp2_with fail;refine cN1.mono ?_;rintro e w1 ⟨rfl,hw1⟩;subst hw1;clear cN1;cases b1 with
 |false=>
  have HP:PH (jD d n day days=(noA 6,d)):=(by show _=_;unfold jD;rw[HNS.o,aD HB1.o]);clear cN2 hA z2 bA;have cR:=eZ 6 w1;go_wp2_with fail;refine cR.mono ?_;rintro e w9 ⟨rfl,b9⟩;have n9:=bt b9 n1;have HO:=aG (fB (HD1.o.below b9) (HK1.o.trans (Kd.of b9)) (aB _) (anC (noA 6) (af) (af)));have HR:=aG (aL _ _ _ (anC (noA 6) (af) (af)) _ _ n9);clear cR b9 n1;go_wp2_with(refine ay rfl 47 _ _ rfl _ _ rfl rfl _ _ n9 (by kernel_rfl) rfl (by simp[anC,noA,Value.oneCell']) ?_)
  refine aW (v:= .agg (anC (noA 6) (af) (af))) ?_ rfl ?_
  ·exact bc rfl _ _ w.heap.size _ _ _ _ rfl HR.o anT rfl (by kernel_rfl)
  ·rw[HP.o];exact⟨t,_,_,rfl,HO.o.1,HO.o.2,fd _ _,et _ _⟩
 |true=>
  go_wp2_with fail;refine cN2.mono ?_;rintro e w2 ⟨rfl,hw2⟩;subst hw2;clear cN2;cases b2 with
  |false=>
   have HP:PH (jD d n day days=(noA 3,d)):=(by show _=_;unfold jD;rw[HNS.o,ax (by rw[HB1.o];simp),aD (.inl HB2.o)]);clear hA z2 bA;have cR:=eZ 3 w2;go_wp2_with fail;refine cR.mono ?_;rintro e w9 ⟨rfl,b9⟩;have n9:=bt b9 n1;have HO:=aG (fB (HD1.o.below b9) (HK1.o.trans (Kd.of b9)) (aB _) (anC (noA 3) (af) (af)));have HR:=aG (aL _ _ _ (anC (noA 3) (af) (af)) _ _ n9);clear cR b9 n1;go_wp2_with(refine ay rfl 47 _ _ rfl _ _ rfl rfl _ _ n9 (by kernel_rfl) rfl (by simp[anC,noA,Value.oneCell']) ?_)
   refine aW (v:= .agg (anC (noA 3) (af) (af))) ?_ rfl ?_
   ·exact bc rfl _ _ w.heap.size _ _ _ _ rfl HR.o anT rfl (by kernel_rfl)
   ·rw[HP.o];exact⟨t,_,_,rfl,HO.o.1,HO.o.2,fd _ _,et _ _⟩
  |true=>
   have hday:0<=day/\day<146097:=(by have:=HB2.o;simpa[isN] using this);by_cases h1:days<1
   ·have HP:PH (jD d n day days=(noA 3,d)):=(by show _=_;unfold jD;rw[HNS.o,ax (by rw[HB1.o];simp),aD (.inr (.inl h1))]);clear hA z2 bA;have cR:=eZ 3 w2;go_wp2_with fail;refine cR.mono ?_;rintro e w9 ⟨rfl,b9⟩;have n9:=bt b9 n1;have HO:=aG (fB (HD1.o.below b9) (HK1.o.trans (Kd.of b9)) (aB _) (anC (noA 3) (af) (af)));have HR:=aG (aL _ _ _ (anC (noA 3) (af) (af)) _ _ n9);clear cR b9 n1;go_wp2_with(refine ay rfl 47 _ _ rfl _ _ rfl rfl _ _ n9 (by kernel_rfl) rfl (by simp[anC,noA,Value.oneCell']) ?_)
    refine aW (v:= .agg (anC (noA 3) (af) (af))) ?_ rfl ?_
    ·exact bc rfl _ _ w.heap.size _ _ _ _ rfl HR.o anT rfl (by kernel_rfl)
    ·rw[HP.o];exact⟨t,_,_,rfl,HO.o.1,HO.o.2,fd _ _,et _ _⟩
   ·by_cases h2:30<days
    ·have HP:PH (jD d n day days=(noA 3,d)):=(by show _=_;unfold jD;rw[HNS.o,ax (by rw[HB1.o];simp),aD (.inr (.inr (.inl h2)))]);clear hA z2 bA;have cR:=eZ 3 w2;go_wp2_with fail;refine cR.mono ?_;rintro e w9 ⟨rfl,b9⟩;have n9:=bt b9 n1;have HO:=aG (fB (HD1.o.below b9) (HK1.o.trans (Kd.of b9)) (aB _) (anC (noA 3) (af) (af)));have HR:=aG (aL _ _ _ (anC (noA 3) (af) (af)) _ _ n9);clear cR b9 n1;go_wp2_with(refine ay rfl 47 _ _ rfl _ _ rfl rfl _ _ n9 (by kernel_rfl) rfl (by simp[anC,noA,Value.oneCell']) ?_)
     refine aW (v:= .agg (anC (noA 3) (af) (af))) ?_ rfl ?_
     ·exact bc rfl _ _ w.heap.size _ _ _ _ rfl HR.o anT rfl (by kernel_rfl)
     ·rw[HP.o];exact⟨t,_,_,rfl,HO.o.1,HO.o.2,fd _ _,et _ _⟩
    ·have hwr:IntKind.i64.wrap (day+days)=day+days:=(by rw[bG];omega);by_cases h3:146097<day+days
     ·have HP:PH (jD d n day days=(noA 3,d)):=(by show _=_;unfold jD;rw[HNS.o,ax (by rw[HB1.o];simp),aD (.inr (.inr (.inr h3)))]);clear hA z2 bA;have cR:=eZ 3 w2;go_wp2_with fail;refine cR.mono ?_;rintro e w9 ⟨rfl,b9⟩;have n9:=bt b9 n1;have HO:=aG (fB (HD1.o.below b9) (HK1.o.trans (Kd.of b9)) (aB _) (anC (noA 3) (af) (af)));have HR:=aG (aL _ _ _ (anC (noA 3) (af) (af)) _ _ n9);clear cR b9 n1;go_wp2_with(refine ay rfl 47 _ _ rfl _ _ rfl rfl _ _ n9 (by kernel_rfl) rfl (by simp[anC,noA,Value.oneCell']) ?_)
      refine aW (v:= .agg (anC (noA 3) (af) (af))) ?_ rfl ?_
      ·exact bc rfl _ _ w.heap.size _ _ _ _ rfl HR.o anT rfl (by kernel_rfl)
      ·rw[HP.o];exact⟨t,_,_,rfl,HO.o.1,HO.o.2,fd _ _,et _ _⟩
     ·have hn:0<=n/\n<(ns:Int):=(by have:=HB1.o;simpa[isN] using this);obtain⟨k,rfl⟩: ∃k:Nat,n=(k:Int):=⟨n.toNat,by omega⟩
      have hks:k<ss.length:=(by rw[HSS.o];omega);have hk0:(0:Int)<=(k:Int):=(by omega);have hkn:(k:Int)<(ns:Int):=hn.2;obtain⟨⟨s,sv⟩,hsk⟩: ∃q,ss[k]? =some q:=⟨ss[k],az hks⟩
      have hsd:d.svs[k]? =some s:=(by rw[<-HM.o.sve,bg,hsk];rfl);have hrb:=HM.o.svr _ (aM hsk);obtain⟨pr,crr,hse,_,_⟩:=hrb.here;dsimp only at hse hrb;subst hse;obtain⟨gs,cs',e1,_,hrg⟩:=jy vY HM.o.svs rfl hsk;have e0:Value.slice ps ns cs= .slice (some (ae gs 0)) ns cs':=(by rw[<-HSV.o,<-HSS.o];exact e1);injection e0 with e2 e3 e4;subst e2 e4;obtain⟨m,rfl⟩: ∃m:Nat,days=(m:Int):=⟨days.toNat,by omega⟩
      obtain⟨wZ,wB,hZ,nZ,hB,bB,nB⟩:=nbs w2 #[ag 0,ag 0,ag 0,af] (svC (s,.slice pr s.roles.length crr)) 41;have hdB:=HD1.o.below bB;have n1B:=bt bB n1
      have HFD:PH (jD d (k:Int) day (m:Int)=(if(gO s (iM s day m 0 d).1).err≠0 then(noA (gO s (iM s day m 0 d).1).err,(iM s day m 0 d).2) else(⟨0,0,(gO s (iM s day m 0 d).1).day+day,(gO s (iM s day m 0 d).1).min,(gO s (iM s day m 0 d).1).who,[]⟩,(iM s day m 0 d).2))):=by
       show _=_;have:d.svs.getD k sv0=s:=(by simp[List.getD,hsd]);unfold jD
       rw[HNS.o,ax (by rw[HB1.o];simp),ax (fun h=>by
        rcases h with h|h|h|h
        ·rw[HB2.o]at h;cases h
        ·omega
        ·omega
        ·omega)]
       simp only[cZ,this]
      have HRB:=aG (hrb.below bB);have HDB:=aG hdB;have HKB:=aG (HK1.o.trans (Kd.of bB));have HG:PH (∀q,w.heap.size<=q->Gx gD t q):=fun q hq=>(H0.o.fx (.inr hq)).1;have HSM:=aG (vu (HOK.o.sv s (aM hsd)));obtain⟨nr,hnr⟩:=au d.res.length;have hnr12:nr<=12:=(by rw[<-hnr];exact HOK.o.rl);have HNR:=aG hnr;have hww:w.heap.size<=wB.heap.size:=HKB.o.size;have hw2w:w.heap.size<=w2.heap.size:=HK1.o.size;have hm30:m<=30:=(by omega);have hdm:day+(m:Int)<=146097:=(by omega);have hwlt:=aH n1B;have hw2l:=aH nB;clear hA bA hn hks hsk hsd hrb e1 e3 hdB hnr n1 bB HB1 HB2 HNS HSS HSV HM HD1 HK1;go_wp2_with(first|(refine wpList_load_mid rfl 41 _ rfl gs (k*4) rfl (svC (s,.slice pr s.roles.length crr)).toList _ hrg svT rfl (by kernel_rfl) ?_)|(refine ay rfl 41 _ _ rfl _ _ rfl rfl _ _ nZ (by kernel_rfl) rfl (uQ _ _ _ _) ?_;rw[hB]))
      clear z2 hrg hZ nZ hB hwr h1 h2 h3;go_loopw [10,11,51] (fun v _ q wr=> ∃(j:Nat) (dd:Dk) (L:List Nat) (ms:List (List (Nat->Bool))) (vs:List Value),q=ag (j:Int)/\j<=m/\Cor d dd/\dt B gD dd ((t.add w.heap.size).ad L) wr/\(∀b,v.ownBlock=some b->b∈L)/\(∀b∈L,wB.heap.size<=b)/\Kd gD t t wB wr/\wr.ownsRow wB.heap.size 78 1 v j vs/\ms.length=j/\(∀(i:Nat) (fs:List (Nat->Bool)) (u:Value),ms[i]? =some fs->vs[i]? =some u->fs.length=nr/\wr.ownsRow wB.heap.size 86 23 u nr (mkF fs))/\iM s day m 0 d=(ms++(iM s day (m-j) j dd).1,(iM s day (m-j) j dd).2)) (fun _ _ q _=>m-(intOf q).toNat);case atStart=>exact⟨0,d,[],[],[],rfl,by omega,Cor.refl d,HDB.o,(fun b hb=>by cases hb),(fun b hb=>by cases hb),Kd.of (aI _ _),cY _ _ _ _,rfl,(fun i fs u hi=>by simp at hi),rfl⟩
      case round=>
       obtain⟨j,dd,L,ms,vs,rfl,hj,hco,hd,hLb,hLl,hk,hown,hms,hel,hX⟩:=hrel;have hj0:(0:Int)<=(j:Int):=(by omega);have hcr:dd.res=d.res:=(by obtain⟨_,_,rfl⟩:=hco;rfl);by_cases hjm:j<m
       ·have hjm':(j:Int)<(m:Int):=(by omega);rw[Is s day hjm,hcr,HNR.o]at hX;have hbx:=(hk.blk _ (HG.o w2.heap.size (by omega)) hw2l).trans nB
        have hrW:Rob (Fx gD ((t.add w.heap.size).ad L)) (fun u=>fk u (.slice pr s.roles.length crr) s.roles) wr:=HRB.o.move hk.size (fun q hq hl=>hk.blk q hq.1 hl) fun q hl hq=>⟨hq.1,fun hx=>by
         rcases bU.1 hx with hx|hx
         ·have:=hLl q hx;omega
         ·exact hq.2 hx⟩
        have cF:=Db s pr crr (day+(j:Int)) wr hd hrW;rw[hcr,HNR.o]at cF;have hwj:IntKind.i64.wrap (day+(j:Int))=day+(j:Int):=(by rw[bG];omega);obtain⟨fs,hfs⟩:=au ((fZ s (day+(j:Int)) nr 0 dd).1);obtain⟨de,hde⟩:=au ((fZ s (day+(j:Int)) nr 0 dd).2)
        have HFC:PH (Cor d de/\fs.length=nr):=by
         have:=oG s (day+(j:Int)) nr 0 dd;rw[hfs,hde]at this;exact⟨hco.trans this.1,this.2⟩
        rw[hfs,hde]at cF hX
        have HX:PH (iM s day m 0 d=((ms++[fs])++(iM s day (m-(j+1)) (j+1) de).1,(iM s day (m-(j+1)) (j+1) de).2)):=by
         show _=_;rw[hX,eh];rfl
        have HOW:=aG hown;have HEL:=aG hel;have HLB:=aG hLb;have HLL:=aG hLl;have HK:=aG hk;have HMS:=aG hms;have hwsz:wB.heap.size<=wr.heap.size:=hk.size;clear hX hfs hde hown hel hLb hLl hk hms hco hcr hd hrW;go_wp2_with(refine aQ rfl 41 _ rfl _ rfl _ _ _ _ hbx svT rfl (by kernel_rfl) ?_)
        refine cF.mono ?_;rintro e w3 ⟨gm,rfl,hgm,hom,hd3,hk3⟩;have hk3':Kd gD t t wr w3:=⟨hk3.os,hk3.tape,hk3.output,hk3.size,hk3.blk,fun _ _ h=>h,rfl⟩
        obtain⟨wC,hC,bC,nC⟩:=nb w3 #[.slice (some (ae gm 0)) nr nr] 78;have keep: ∀{e s n:Nat} {u:Value} {xs:List Value},wr.ownsRow wB.heap.size e s u n xs->wC.ownsRow wB.heap.size e s u n xs:=fun hr=>br hr fun b hq=>(bC.block b (aT (hr.lt b hq).2 hk3.size)).trans (hk3.blk b (HG.o b (by have:=(hr.lt b hq).1;omega)) (hr.lt b hq).2);have hoC:=keep HOW.o;have hdC:=hd3.below bC;have HKC:=aG (HK.o.trans (hk3'.trans (Kd.of bC)))
        have HOM:PH (wC.ownsRow wB.heap.size 86 23 (.slice (some (ae gm 0)) nr nr) nr (mkF fs)):=by
         have h1:=br hom fun b hq=>bC.block b (hom.lt b hq).2;exact⟨h1.1,h1.2.imp id fun⟨g,c,cu,q1,q2,q3⟩=>⟨g,c,cu,q1,bf hwsz q2,q3⟩⟩
        have HEC:PH (∀(i:Nat) (fs:List (Nat->Bool)) (u:Value),ms[i]? =some fs->vs[i]? =some u->fs.length=nr/\wC.ownsRow wB.heap.size 86 23 u nr (mkF fs)):=fun i fs u h1 h2=>⟨(HEL.o i fs u h1 h2).1,keep (HEL.o i fs u h1 h2).2⟩
        have HDC:=aG hdC;have hwC:wB.heap.size<=wC.heap.size:=HKC.o.size;clear cF hbx hk3 hk3' hd3 hom keep bC hdC HK HEL hgm;go_wp2_with(at_builtin;refine iA rfl _ _ 77 78 rfl Mu NW rfl (by decide) (by decide) rfl hoC rfl nC rfl (by simp[Value.oneCell']) (by omega) hwC ?_)
        rintro v2 w4 ho4 hgr hbl g4 c4 rfl;obtain⟨L',hd4,hL4,hL5,_⟩:=HDC.o.grown hoC HLB.o hgr ho4 hbl;have hk4:Kd gD t t wB w4:=⟨hgr.os.trans HKC.o.os,hgr.tape.trans HKC.o.tape,hgr.output.trans HKC.o.output,bf HKC.o.size hgr.size,fun q hq hl=>(hgr.block q (aT hl HKC.o.size) (fun e=>by have:=(hoC.lt q e.symm).1;omega)).trans (HKC.o.blk q hq hl),fun _ _ h=>h,rfl⟩
        have keep4: ∀{u:Value} {n:Nat} {xs:List Value},wC.ownsRow wB.heap.size 86 23 u n xs->w4.ownsRow wB.heap.size 86 23 u n xs:=fun hr=>br hr fun b hq=>hgr.block b (hr.lt b hq).2 fun e=>pj hr hoC (by decide) hq e.symm
        have HR4:PH (∃(L:List Nat) (vs':List Value),dt B gD de ((t.add w.heap.size).ad L) w4/\(∀b,(Value.slice (some (ae g4 0)) (j+1) c4).ownBlock=some b->b∈L)/\(∀b∈L,wB.heap.size<=b)/\Kd gD t t wB w4/\w4.ownsRow wB.heap.size 78 1 (.slice (some (ae g4 0)) (j+1) c4) (j+1) vs'/\(∀(i:Nat) (fs':List (Nat->Bool)) (u:Value),(ms++[fs])[i]? =some fs'->vs'[i]? =some u->fs'.length=nr/\w4.ownsRow wB.heap.size 86 23 u nr (mkF fs'))):=by
         refine⟨L',_,hd4,hL4,fun b hb=> ?_,hk4,ho4,fun i fs' u h1 h2=> ?_⟩
         ·rcases hL5 b hb with h|h
          ·exact HLL.o b h
          ·have:=h.1;omega
         ·have hvl:vs.length=j:=(by have:=HOW.o.1;omega);by_cases e:i=j
          ·subst e;rw[dh (by have:=HMS.o;omega),HMS.o,iN]at h1;rw[dh (by omega),hvl,iN]at h2;have e1:fs=fs':=aN h1;have e2:Value.slice (some (ae gm 0)) nr nr=u:=aN h2;subst e1 e2;exact⟨HFC.o.2,keep4 HOM.o⟩
          ·have hij:i<j:=by
            have:=(aF.1 h1).1;rw[aP,HMS.o]at this;simp at this;omega
           rw[du (by have:=HMS.o;omega)]at h1;rw[du (by omega)]at h2;exact⟨(HEC.o i fs' u h1 h2).1,keep4 (HEC.o i fs' u h1 h2).2⟩
        clear hoC ho4 hgr hbl nC hC hd4 hL4 hL5 hk4 keep4 HDC HKC HOM HEC HOW;go_wp2_with fail;go_roundw
        case rel=>
         obtain⟨L,vs',q1,q2,q3,q4,q5,q6⟩:=HR4.o;exact⟨j+1,de,L,ms++[fs],vs',by go_num,by omega,HFC.o.1,q1,q2,q3,q4,q5,by rw[aP,HMS.o];rfl,q6,HX.o⟩
        case measure=>simp[intOf];omega
       ·have hjm': ¬(j:Int)<(m:Int):=(by omega);obtain rfl:m=j:=(by omega);rw[iN]at hX
        have hX2:iM s day m 0 d=(ms,dd):=by
         rw[hX];simp[iM]
        have hkw:=HKB.o.trans hk;have hkBr:=hk.size;have hbx:=(hk.blk _ (HG.o w2.heap.size hw2w) hw2l).trans nB;have n1r:=(hk.blk _ (HG.o w.heap.size (aB _)) hwlt).trans n1B;have hrow:=((hk.rob (t':=t) (HRB.o.move (P':=Fx gD t) (aB _) (fun _ _ _=>rfl) fun q _ hq=>⟨hq.1,fun hx=>hq.2 (bH _ hx)⟩))).here;have hDs:uJ wr u10 ms:=Iu (by rw[hms];exact hown) (by omega) (by omega) hel;have hTb:=HT.o wr (Kd.below H0.o hkw HBW.o);have cM:=Hj s (.slice pr s.roles.length crr) ms u10 wr hTb hrow hDs;unfold svV E6 at cM;rw[hX2]at HFD;obtain⟨fr,hfr⟩:=au (gO s ms);have HFR:PH (0<=fr.day/\fr.day<=30):=(by have:=It s ms;rw[hfr]at this;exact this);rw[hfr]at cM HFD;obtain⟨pw,cw,hu10⟩:=di hown;subst hu10;have HDr:=aG hd.drop;have HKr:=aG hkw;clear hX hX2 hk hkw hd hLb hLl hown hel hms hco hcr hrow hDs hTb hfr HSM;go_wp2_with(refine aQ rfl 41 _ rfl _ rfl _ _ _ _ hbx svT rfl (by kernel_rfl) ?_)
        refine cM.mono ?_;rintro e w5 ⟨v5,rfl,ho5,b5⟩;obtain⟨p5,c5,hv5⟩:=di ho5;subst hv5;obtain⟨nw,hnw⟩:=au fr.who.length;rw[hnw]at ho5;obtain⟨wY,w6,hY,nY,h6,b6,n6⟩:=nbs w5 #[ag 0,ag 0,af] #[ag fr.day,ag fr.min,.slice p5 nw c5] 36;have n15:=bt b5 n1r;have hk5:=HKr.o.trans (Kd.of b5);have hd5:=HDr.o.below b5;have HK5:=aG hk5;have HD5:=aG hd5;have HO5:=aG ho5;have HNW:=aG hnw;have h5w:w.heap.size<w5.heap.size:=aH n15;have hwr:w.heap.size<wr.heap.size:=aT hwlt hkBr;have hr5:wr.heap.size<=w5.heap.size:=b5.size;obtain⟨er,her⟩:=au fr.err;rw[her]at HFD;rw[hnw,her];have HB6:=aG b6;clear cM hbx b5 n1r hk5 hd5 ho5 hnw her b6 HKr;by_cases h0:er=0
        ·subst h0;have HP:PH (jD d (k:Int) day (m:Int)=(⟨0,0,fr.day+day,fr.min,fr.who,[]⟩,dd)):=HFD.o.trans (by rw[ax (by simp)]);have hwd:IntKind.i64.wrap (fr.day+day)=fr.day+day:=(by have:=HFR.o;rw[bG];omega);have y6:w6.cell? (ae w5.heap.size 0)=some (ag fr.day):=cr 0 n6 rfl;have x6:=bl _ _ 0 _ _ n6;obtain⟨w7,hw7⟩:=au (w6.setCell ⟨w5.heap.size,0,none⟩ (ag (fr.day+day)));have n7:w7.heap[w5.heap.size]? =ah #[ag (fr.day+day),ag fr.min,.slice p5 nw c5] 36:=hw7▸aY w6 w5.heap.size 0 _ _ (ag (fr.day+day)) n6;have b7:aq w5 w7:=hw7▸HB6.o.setCell (p:=⟨w5.heap.size,0,none⟩) (aB _) (ag (fr.day+day));have n17:=bt b7 n15
         have HRB5:PH (Rob (Fx gD t) (fun u=>rC B u (.slice p5 nw c5) fr.who) (w7.setRow w.heap.size (anC ⟨0,0,fr.day+day,fr.min,fr.who,[]⟩ (.slice p5 nw c5) (af)))):=by
          refine Rob.imp (Rob.move (P:=fun q=>wr.heap.size<=q) (Φ:=fun u=>u.ownsRow wr.heap.size 3 1 (.slice p5 nw c5) nw (dp fr.who)) (w:=w7) (fun u hu ha=>br HO5.o fun b hb=>(ha b (HO5.o.lt b hb).1 (aT (HO5.o.lt b hb).2 b7.size)).trans (b7.block b (HO5.o.lt b hb).2)) (by simp) (fun q hq _=>aV _ _ _ _ (by omega)) fun q _ hq=>H0.o.fx (.inr (by omega))) fun u hu=>⟨pm (by rw[HNW.o];exact hu) (by
           rw[HNW.o];rcases hu.2 with⟨_,e⟩|⟨_,_,_,_,_,_,_,e,_⟩
           ·omega
           ·unfold maxLen at e;omega),(fun p n k e=>by
           cases e;rcases hu.2 with⟨e,e2⟩|⟨_,_,_,e,_,_,e2,_⟩
           ·omega
           ·cases e;exact e2),fun b e=>bf (bf HBW.o (Nat.le_of_lt hwr)) (hu.lt b e).1⟩
         have HO:=aG (fB (HD5.o.below b7) (HK5.o.trans (Kd.of b7)) (aB _) (anC ⟨0,0,fr.day+day,fr.min,fr.who,[]⟩ (.slice p5 nw c5) (af)));have HR:=aG (aL _ _ _ (anC ⟨0,0,fr.day+day,fr.min,fr.who,[]⟩ (.slice p5 nw c5) (af)) _ _ n17);clear b7 n15 n6 HB6 HFD;go_wp2_with(first|(refine aQ rfl 36 _ rfl _ rfl _ _ _ _ n7 slT rfl (by kernel_rfl) ?_)|(refine ay rfl 36 _ _ rfl _ _ rfl rfl _ _ nY (by kernel_rfl) rfl (by simp[Value.oneCell']) ?_;rw[h6])|(refine ay rfl 47 _ _ rfl _ _ rfl rfl _ _ n17 (by kernel_rfl) rfl (by simp[Value.oneCell']) ?_))
         refine aW (v:= .agg (anC ⟨0,0,fr.day+day,fr.min,fr.who,[]⟩ (.slice p5 nw c5) (af))) ?_ rfl ?_
         ·exact bc rfl _ _ w.heap.size _ _ _ _ rfl HR.o anT rfl (by kernel_rfl)
         ·rw[HP.o];exact⟨t,_,_,rfl,HO.o.1,HO.o.2,HRB5.o,et _ _⟩
        ·have h0':(er !=0)=true:=(by simpa using h0);have HP:PH (jD d (k:Int) day (m:Int)=(noA er,dd)):=HFD.o.trans (by rw[aD h0]);have n1:=bt HB6.o n15;have HD1:=aG (HD5.o.below HB6.o);have HK1:=aG (HK5.o.trans (Kd.of HB6.o));clear h0 n15 HB6 HFD n6;go_wp2_with(refine ay rfl 36 _ _ rfl _ _ rfl rfl _ _ nY (by kernel_rfl) rfl (by simp[Value.oneCell']) ?_;rw[h6])
         clear nY hY h6;have cR:=eZ er w6;go_wp2_with fail;refine cR.mono ?_;rintro e w9 ⟨rfl,b9⟩;have n9:=bt b9 n1;have HO:=aG (fB (HD1.o.below b9) (HK1.o.trans (Kd.of b9)) (aB _) (anC (noA er) (af) (af)));have HR:=aG (aL _ _ _ (anC (noA er) (af) (af)) _ _ n9);clear cR b9 n1;go_wp2_with(refine ay rfl 47 _ _ rfl _ _ rfl rfl _ _ n9 (by kernel_rfl) rfl (by simp[anC,noA,Value.oneCell']) ?_)
         refine aW (v:= .agg (anC (noA er) (af) (af))) ?_ rfl ?_
         ·exact bc rfl _ _ w.heap.size _ _ _ _ rfl HR.o anT rfl (by kernel_rfl)
         ·rw[HP.o];exact⟨t,_,_,rfl,HO.o.1,HO.o.2,fd _ _,et _ _⟩
end
end
section
def doC (c:Cm)(rv wv:Value):Array Value:= #[ag c.kind,ag c.n,ag c.day,ag c.days,kN c.text,kN c.name,ag c.sv.len,ag c.sv.bef,ag c.sv.aft,rv,ag c.sday,ag c.smin,wv]
def doP (d:Dk)(c:Cm):An×Dk:=
 if c.kind=1 then nO d (ir c.text) else
 if c.kind=2 then rz d c.name else
 if c.kind=3 then rA d c.sv else
 if c.kind=4 then jD d c.n c.day c.days else
 if c.kind=5 then lI d c.n c.sday c.smin c.swho else
 if c.kind=6 then it d c.n (fun a d=>((eX a 2,0),d)) else
 if c.kind=7 then it d c.n (fun a d=>((eX a 3,0),d)) else
 if c.kind=8 then it d c.n (fun a d=>eW d c.n a c.sday c.smin c.swho) else
 if c.kind=9 then qU d c.days else(noA 1,d)
theorem doT:prog.underlying 45=some (.struct (prog.fieldsOf 45)):=by kernel_rfl
section
variable {B gD:Nat} {d:Dk} {t:Tr} {w w3 w4:World}
theorem Tr.back {t':Tr}{q:Nat}(h:t'.xs=(t.add q).xs):t'=(Tr.mk t'.ev t'.sv t'.av t.xs).add q:=by
 obtain⟨a,b,c,x⟩:=t';dsimp only at h;subst h;rfl
theorem Iw {q:Nat}{p:An×Dk}{wv lv:Value}{t':Tr}(hb:aq w w3)(hq:w.heap.size<=q)(hd:dt B gD p.2 t' w4)(hk:Kd gD (t.add q) t' w3 w4)(hw:Rob (Fx gD t') (fun u=>rC B u wv p.1.who) w4)(hl:Rob (Fx gD t') (fun u=>dS u lv p.1.list) w4)(c:Array Value):
  ∃t0:Tr,dt B gD p.2 t0 (w4.setRow q c)/\Kd gD t t0 w (w4.setRow q c)/\Rob (Fx gD t0) (fun u=>rC B u wv p.1.who) (w4.setRow q c)/\Rob (Fx gD t0) (fun u=>dS u lv p.1.list) (w4.setRow q c):=by
 have e:=Tr.back hk.xs;obtain⟨t0,rfl⟩: ∃t0:Tr,t'=t0.add q:=⟨_,e⟩
 have hk0:=Kd.opened hb hk;have hr:=fB hd hk0 hq c;have mv: ∀{Φ:World->Prop},Rob (Fx gD (t0.add q)) Φ w4->Rob (Fx gD t0) Φ (w4.setRow q c):=fun hR=>hR.move (by simp) (fun k hf _=>aV _ _ _ _ fun e=>hf.2 (by rw[e];exact bq)) fun k _ hf=>⟨hf.1,fun hx=>hf.2 (bH _ hx)⟩
 exact⟨t0,hr.1,hr.2,mv hw,mv hl⟩
theorem Ce {c:Cm}{rv wv:Value}{g:Nat}(m:w.heap[g]? =ah (doC c rv wv) 45):w.cell? (ae g 0)=some (ag c.kind)/\w.cell? (ae g 1)=some (ag c.n)/\w.cell? (ae g 2)=some (ag c.day)/\w.cell? (ae g 3)=some (ag c.days)/\w.cell? (ae g 4)=some (.string ⟨c.text.toArray⟩)/\w.cell? (ae g 5)=some (.string ⟨c.name.toArray⟩)/\w.cell? (ae g 6)=some (ag c.sv.len)/\w.cell? (ae g 7)=some (ag c.sv.bef)/\w.cell? (ae g 8)=some (ag c.sv.aft)/\w.cell? (ae g 9)=some rv/\w.cell? (ae g 10)=some (ag c.sday)/\w.cell? (ae g 11)=some (ag c.smin)/\w.cell? (ae g 12)=some wv:=
 ⟨cr 0 m rfl,cr 1 m rfl,cr 2 m rfl,cr 3 m rfl,cr 4 m rfl,cr 5 m rfl,cr 6 m rfl,cr 7 m rfl,cr 8 m rfl,cr 9 m rfl,cr 10 m rfl,cr 11 m rfl,cr 12 m rfl⟩
theorem Mv (c:Cm)(pr pw:Option Addr)(cr2 cw:Nat)(w:World)(h:dt B gD d t w)(hx:c.text.length<=9223372036854775807)(hT:Tbs B w)(hBw:B<=w.heap.size)(hg:d.given+1<=1000000)(hxs:Fv w t.xs)(hn:c.name.length<=9223372036854775807)(hr:fk w (.slice pr c.sv.roles.length cr2) c.sv.roles)(h58: ¬(5<=c.kind/\c.kind<=8)):Calls prog 10 #[ab gD 0,.agg (doC c (.slice pr c.sv.roles.length cr2) (.slice pw c.swho.length cw))] w (qF B gD (doP d c) t w):=by
 obtain⟨w1,h1,b1,n1⟩:=nb w #[ab gD 0] 57;obtain⟨w2,h2,b2,n2⟩:=nb w1 (doC c (.slice pr c.sv.roles.length cr2) (.slice pw c.swho.length cw)) 45;obtain⟨w3,h3,b3,n3⟩:=nb w2 #[ag 0,ag 0,ag 0,ag 0,af,af] 47;have b12:=aw b1 b2;have b13:=aw b12 b3;have hd3:=h.opened (q:=w2.heap.size) b12.size (by rw[<-h3];simp) b13;have m2:=bt b3 n2;have k1:=bt (aw b2 b3) n1;have z1:=cr 0 k1 rfl;obtain⟨y0,y1,y2,y3,y4,y5,y6,y7,y8,y9,y10,y11,y12⟩:=Ce m2;have HB:=aG b13;have HQ:=aG b12.size
 have HGX:PH (Gx gD (t.add w2.heap.size) w2.heap.size):=by
  obtain⟨_,_,_,_,_,_,_,hm⟩:=hd3;exact(hm.nx _ bq).2.2
 have hT3:=hT.below (b13.mono hBw);have hB3:=bf hBw b13.size;rcases(show c.kind=1\/c.kind=2\/c.kind=3\/c.kind=4\/c.kind=9\/(c.kind<1\/9<c.kind) by omega) with hk|hk|hk|hk|hk|hk
 case' inl=>
  have hx3:Fv w3 (t.add w2.heap.size).xs:=fun k hk=>by
   rcases bz.1 hk with rfl|hk
   ·exact⟨_,_,_,n3,by decide⟩
   ·obtain⟨c,T,f,hc,hn⟩:=hxs k hk;exact⟨c,T,f,bt b13 hc,hn⟩
  have cC:=Ip c.text w3 hd3 hx hT3 hB3 hg hx3;clear hx3;generalize hP:nO d (ir c.text)=P at cC
 case' inr.inl=>
  have cC:=Fl c.name w3 hd3 hn;generalize hP:rz d c.name=P at cC
 case' inr.inr.inl=>
  have cC:=Fw c.sv pr cr2 w3 hd3 (hr.below b13);generalize hP:rA d c.sv=P at cC
 case' inr.inr.inr.inl=>
  have cC:=Iv c.n c.day c.days w3 hd3 (fun W hW=>(hT3 W hW).2.2) hB3;generalize hP:jD d c.n c.day c.days=P at cC
 case' inr.inr.inr.inr.inl=>
  have cC:=Kk c.days w3 hd3;generalize hP:qU d c.days=P at cC
 case' inr.inr.inr.inr.inr=>
  have cC:=(show Calls prog 23 #[ag 1] w3 (qF B gD (noA 1,d) (t.add w2.heap.size) w3) from(eZ 1 w3).mono fun e w hh=>⟨_,_,_,hh.1,hd3.below hh.2,Kd.of hh.2,fd _ _,et _ _⟩)
  generalize hP:((noA 1,d):An×Dk)=P at cC
 all_goals
  have HP:PH (doP d c=P):=by
   show _=_;rw[<-hP];unfold doP;repeat (first|rw[aD hk]|rw[ax (by omega)])
  clear b1 b2 b3 b12 b13 hd3 n1 n2 hP k1 m2 hT3 hB3
  try rw[hk]at y0
  try (have e1:(c.kind==1)=false:=by simp;omega
       have e2:(c.kind==2)=false:=by simp;omega
       have e3:(c.kind==3)=false:=by simp;omega
       have e4:(c.kind==4)=false:=by simp;omega
       have e5:(c.kind==5)=false:=by simp;omega
       have e6:(c.kind==6)=false:=by simp;omega
       have e7:(c.kind==7)=false:=by simp;omega
       have e8:(c.kind==8)=false:=by simp;omega
       have e9:(c.kind==9)=false:=by simp;omega)
  clear hk
  go_enter func10,ntmps10
  go_wp2_with fail
  refine cC.mono ?_
  rintro e w4 ⟨t',wv,lv,rfl,hd4,hk4,hw4,hl4⟩
  obtain⟨t0,o1,o2,o3,o4⟩:=Iw HB.o HQ.o hd4 hk4 hw4 hl4 (anC P.1 wv lv)
  obtain⟨p5,c5,rfl,_,_⟩:=hw4.here.1
  obtain⟨p6,c6,rfl,_,_⟩:=hl4.here
  have n4:=(hk4.blk _ HGX.o (aH n3)).trans n3
  have HO:=aG (fI o1 (fI o2 (fI o3 o4)))
  have HR:=aG (aL _ _ _ (anC P.1 (.slice p5 P.1.who.length c5) (.slice p6 P.1.list.length c6)) _ _ n4)
  clear cC hd4 hk4 hw4 hl4 o1 o2 o3 o4 n3
  go_wp2_with(refine ay rfl 47 _ _ rfl _ _ rfl rfl _ _ n4 (by kernel_rfl) rfl (by simp[anC,Value.oneCell']) ?_)
  refine aW (v:= .agg (anC P.1 (.slice p5 P.1.who.length c5) (.slice p6 P.1.list.length c6))) ?_ rfl ?_
  ·exact bc rfl _ _ w2.heap.size _ _ _ _ rfl HR.o anT rfl (by kernel_rfl)
  ·rw[HP.o]
   exact⟨t0,_,_,rfl,HO.o.1,HO.o.2.1,HO.o.2.2.1,HO.o.2.2.2⟩
end
end
def dk0:Dk:=⟨[],[],[],[],[],0,[],0⟩
def playP:Dk->List Cm->List An×Dk
 |d,[]=>([],d)
 |d,c::l=>((doP d c).1::(playP (doP d c).2 l).1,(playP (doP d c).2 l).2)
theorem Fz {l:List Cm}{j:Nat}{c:Cm}(d:Dk)(h:l[j]? =some c):playP d (l.drop j)=((doP d c).1::(playP (doP d c).2 (l.drop (j+1))).1,(playP (doP d c).2 (l.drop (j+1))).2):=by
 obtain⟨h1,h2⟩:=aF.1 h;rw[bv h1,h2];rfl
theorem pQ: ∀(l:List Ap) (i:Nat) (d:Dk),Cor d (eY l i d).2
 |[],_,d=>Cor.refl d
 |a::l,i,d=>by
  unfold eY;split
  ·exact pQ l (i+1) d
  ·exact(v8 (fun x d=>sI d x a.day) a.who d).trans (pQ l (i+1) _)
theorem we (s:Sv)(day:Int): ∀(m i:Nat) (d:Dk),Cor d (iM s day m i d).2
 |0,_,d=>Cor.refl d
 |m+1,i,d=>by
  unfold iM;exact(oG s _ _ 0 d).1.trans (we s day m (i+1) _)
theorem Cor.given {d d':Dk}(h:Cor d d'):d'.given=d.given:=by
 obtain⟨_,_,rfl⟩:=h;rfl
theorem pD (d:Dk)(n:Int)(f:Ap->Dk->(Ap×Int)×Dk)(hf: ∀a d,Cor d (f a d).2):(it d n f).2.given=d.given:=by
 unfold it;dsimp only;repeat' split
 ·rfl
 ·exact(hf _ d).given
 ·exact(hf _ d).given
theorem Ix (d:Dk)(c:Cm):(doP d c).2.given<=d.given+1:=by
 have le: ∀{x:Int},x=d.given->x<=d.given+1:=fun h=>by omega
 unfold doP;split
 ·unfold nO;split
  ·exact le rfl
  ·exact Int.le_of_eq (pQ _ 0 _).given
 ·split
  ·unfold rz;repeat' split
   all_goals exact le rfl
  ·split
   ·unfold rA;repeat' split
    all_goals exact le rfl
   ·split
    ·unfold jD;dsimp only;repeat' split
     all_goals first|exact le rfl|exact le (we _ _ _ 0 d).given
    ·split
     ·unfold lI;dsimp only;repeat' split
      all_goals first|exact le rfl|exact le (mf d _ _ _ _ _).given
     ·split
      ·exact le (pD d _ _ fun a d=>Cor.refl d)
      ·split
       ·exact le (pD d _ _ fun a d=>Cor.refl d)
       ·split
        ·exact le (pD d _ _ fun a d=>mf d _ a _ _ _)
        ·split
         ·unfold qU;split;all_goals exact le rfl
         ·exact le rfl
structure lu (w:World)(c:Cm)(rv wv:Value):Prop where
 roles:fk w rv c.sv.roles
 who:dS w wv c.swho
 text:c.text.length<=9223372036854775807
 name:c.name.length<=9223372036854775807
 cap: ∀p n k,wv= .slice p n k->n<=k
theorem lu.below {w w':World}{c:Cm}{rv wv:Value}(h:lu w c rv wv)(hb:aq w w'):lu w' c rv wv:=⟨h.roles.below hb,h.who.below hb,h.text,h.name,h.cap⟩
def kT (w:World)(v:Value)(cs:List (Cm×Value×Value)):Prop:= ∃p k,v= .slice p cs.length k/\cs.length<9223372036854775808/\ ∀(j:Nat) (q:Cm×Value×Value),cs[j]? =some q->lu w q.1 q.2.1 q.2.2/\ ∃g o:Nat,p=some ⟨g,o,none⟩/\w.rangeAt g (o+j*13) (doC q.1 q.2.1 q.2.2).toList
theorem kT.below {w w':World}{v:Value}{cs:List (Cm×Value×Value)}(h:kT w v cs)(hb:aq w w'):kT w' v cs:=by
 obtain⟨p,k,h1,h2,h3⟩:=h;refine⟨p,k,h1,h2,fun j q hj=> ?_⟩;obtain⟨a,g,o,b,c⟩:=h3 j q hj;exact⟨a.below hb,g,o,b,iI c hb⟩
theorem oT {w u:World}{v:Value}{ns:List Int}(h:dS w v ns)(hu: ∀q,q<w.heap.size->u.heap[q]? =w.heap[q]?):dS u v ns:=by
 obtain⟨p,c,h1,h2,h3⟩:=h;refine⟨p,c,h1,h2,fun j x hj=> ?_⟩;obtain⟨g,o,e,hc⟩:=h3 j x hj;exact⟨g,o,e,(dY (hu g (bP hc))).trans hc⟩
def FA (c:Cm):Prop:= ∀(B gD:Nat) (d:Dk) (t:Tr) (w:World) (pr pw:Option Addr) (kr kw:Nat),dt B gD d t w->Tbs B w->B<=w.heap.size->d.given+1<=1000000->Fv w t.xs->lu w c (.slice pr c.sv.roles.length kr) (.slice pw c.swho.length kw)->Rob (fun q=>q<B) (fun u=>dS u (.slice pw c.swho.length kw) c.swho) w->Calls prog 10 #[ab gD 0,.agg (doC c (.slice pr c.sv.roles.length kr) (.slice pw c.swho.length kw))] w (qF B gD (doP d c) t w)
theorem Iy (c:Cm)(hk: ¬(5<=c.kind/\c.kind<=8)):FA c:=fun _ _ _ _ w pr pw kr kw h hT hB hg hx hc _=>Mv c pr pw kr kw w h hc.text hT hB hg hx hc.name hc.roles hk
theorem xY:tR dk0:=⟨by decide,rfl,by decide,by decide,by decide,by decide,by decide,(fun x hx=>by cases hx),(fun x hx=>by cases hx),(fun x hx=>by cases hx)⟩
theorem NX {B gD:Nat}{xs:List Nat}{w:World}(hB:B<=gD)(hx: ∀q∈xs,q<w.heap.size/\B<=q/\q≠gD)(h:w.heap[gD]? =ah #[af,af,af,af,af,af,ag 0,af,ag 0] 55):dt B gD dk0 ⟨af,af,af,xs⟩ w:=
 ⟨xY,af,af,af,af,[],[],h,hB,fun u _ _=>⟨[],⟨.inl ⟨rfl,none,0,rfl⟩,by simp,fun p hp=>by cases hp⟩,rfl⟩,fun u _ _=>⟨[],⟨none,0,rfl,by simp,fun j u hj=>by simp at hj⟩,rfl⟩,et _ _,fun u _ _=>⟨none,0,rfl,aB _,by unfold maxLen;omega,fun h=>absurd rfl h⟩,cY _ _ _ _,cY _ _ _ _,rfl,(fun p hp=>by cases hp),cY _ _ _ _,rfl,(fun p hp=>by cases hp),fun q hq=>⟨(hx q hq).1,(hx q hq).2.1,(hx q hq).2.2,nofun,nofun,nofun⟩⟩
theorem rD {E:Nat->Int}: ∀(m i:Nat),(∀j,i<=j->j<i+m->E j=0)->gK E m i=(0,0)
 |0,_,_=>rfl
 |m+1,i,h=>by
  simp only[gK];rw[ax (by simpa using h i (aB _) (by omega)),rD m (i+1) fun j h1 h2=>h j (by omega) (by omega)]
theorem Dc {cs:List Cd}(h:mq cs):jM cs=(0,0):=by
 have e1:gK (fun i=>aloneE (cs.getD i cd0) cs.length) cs.length 0=(0,0):=rD _ _ fun j _ hj=>by
  have hx:cs[j]? =some (cs[j]'(by omega)):=az (by omega);rw[je hx];exact h.alone j _ hx
 have e2:gK (pI cs) cs.length 0=(0,0):=rD _ _ fun j _ hj=>by
  have hx:cs[j]? =some (cs[j]'(by omega)):=az (by omega);unfold pI;rw[ax (by rw[h.cyc j (by omega)];simp),je hx,aD (oi.2 (h.fit j _ hx))]
 have hl:=h.len;unfold jM;rw[ax (by omega),e1,ax (by simp),e2]
theorem Ak {n r:Nat}: ∀(l:List In) (k:Nat),(∀j x,l[j]? =some x->fP x (k+j) n r=0)->po l k n r=0
 |[],_,_=>rfl
 |x::l,k,h=>by
  have h0:=h 0 x rfl;rw[Nat.add_zero]at h0;simp only[po];rw[ax (by simpa using h0)]
  exact Ak l (k+1) fun j y hy=>by
   have:=h (j+1) y (by simpa using hy);rw[show k+(j+1)=k+1+j by omega]at this;exact this
theorem qW {E:Nat->Nat->Bool}{ρ:Nat->Nat}(h: ∀i k,E i k=true->ρ k<ρ i): ∀(m i k:Nat),Vx.wars E m i k=true->ρ k<ρ i
 |0,i,k,hw=>h i k hw
 |m+1,i,k,hw=>by
  simp only[Vx.wars,ii,bx]at hw;rcases hw with hw|⟨h1,h2⟩
  ·exact qW h m i k hw
  ·have a:=qW h m i m h1;have b:=qW h m m k h2;omega
theorem Cf {m:Nat->Int×Int}: ∀(k j:Nat),¬0<=jZ m k j-> ∀i,j<=i->i<j+k->nK (m i)=false
 |0,_,_,i,h1,h2=>by omega
 |k+1,j,h,i,h1,h2=>by
  simp only[jZ]at h;by_cases hm:nK (m j)=true
  ·rw[aD hm]at h;omega
  ·rw[ax hm]at h;by_cases e:i=j
   ·subst e;simpa using hm
   ·exact Cf k (j+1) h i (by omega) (by omega)
theorem uS {l:List Ru}(h:(iy l).1=0):(dq l).1=0/\ ∀i,i<l.length->nK (gu l i)=false:=by
 unfold iy at h;by_cases h0:(dq l).1≠0
 ·rw[aD h0]at h;exact absurd h h0
 ·rw[ax h0]at h;refine⟨by simpa using h0,?_⟩;by_cases h1:0<=jZ (gu l) l.length 0
  ·rw[aD h1]at h;exact absurd h (by show¬(4:Int)=0;omega)
  ·intro i hi;exact Cf _ _ h1 i (dM _) (by omega)
theorem wf (l:List Ru):(eU l).length=l.length:=by unfold eU;rw[tM,mM]
theorem yM {l:List Ru}{i:Nat}(hi:i<l.length):(eU l)[i]? =some ⟨(fL l).getD i [],(gu l i).1,(gu l i).2⟩:=by
 unfold eU eR;rw[bg,List.getElem?_range (by rw[mM];exact hi)];rfl
theorem sJ {l:List Ru}(h:(dq l).1=0){i:Nat}(hi:i<l.length):lZ ((fL l).getD i [])/\ ∀j x,((fL l).getD i [])[j]? =some x->fP x j ((fL l).getD i []).length l.length=0:=by
 have hu:l[i]? =some l[i]:=az hi;have hm:=aM hu;rw[mG hu];exact H3 ((qE h).2 _ hm).ok fun x hx=>⟨(rW h hm hx).1,(rW h hm hx).2.1⟩
theorem Iz {l:List Ru}(h:(iy l).1=0):mq (eU l):=by
 obtain⟨hc,hm⟩:=uS h;have hlen:=wf l
 have at_: ∀{i:Nat} {c:Cd},(eU l)[i]? =some c->i<l.length/\c=⟨(fL l).getD i [],(gu l i).1,(gu l i).2⟩:=fun {i c} hx=>by
  have hi:i<l.length:=(by rw[<-hlen];exact(aF.1 hx).1);rw[yM hi]at hx;exact⟨hi,(aN hx).symm⟩
 have lim: ∀i,i<l.length->mxH (eU l) ((fL l).getD i []) ((fL l).getD i []).length=(gu l i).1/\stS (eU l) ((fL l).getD i []) ((fL l).getD i []).length=(gu l i).2/\1<=(gu l i).1/\(gu l i).1<=100/\1<=(gu l i).2/\(gu l i).2<=20000:=fun i hi=>by
  have e:=uP hc hi;have hno:=hm i hi;unfold nK at hno;rw[Bool.or_eq_false_iff,decide_eq_false_iff_not,decide_eq_false_iff_not]at hno;have e1:(gu l i).1=min (mxH (eU l) ((fL l).getD i []) ((fL l).getD i []).length) 101:=congrArg Prod.fst e;have e2:(gu l i).2=min (stS (eU l) ((fL l).getD i []) ((fL l).getD i []).length) 20001:=congrArg Prod.snd e;have hp:=BZ hc hi;have hf:=(sJ hc hi).1.fin;have ht:=GW (eU l) ((fL l).getD i []) ((fL l).getD i []).length;omega
 refine⟨by rw[hlen];exact(qE hc).1,fun i c hx=> ?_,fun i hi=> ?_,fun i c hx=> ?_⟩
 ·obtain⟨hi,rfl⟩:=at_ hx;have hb:=vW hc hi;have hl:=lim i hi;unfold aloneE;rw[ax (by intro q;exact q ⟨hb.1,bf hb.2 (by omega)⟩),ax (by intro q;exact q ⟨⟨hl.2.2.1,hl.2.2.2.1⟩,hl.2.2.2.2⟩)];refine Ak _ _ fun j x hjx=> ?_;rw[bN,hlen];exact(sJ hc hi).2 j x hjx
 ·cases hw:Vx.wars (gj (eU l)) (eU l).length i i with
  |false=>rfl
  |true=>
   have:=qW (ρ:=muR l) (E:=gj (eU l)) (fun i k hE=>by
    unfold gj at hE;rw[List.any_eq_true]at hE;obtain⟨x,hx,hxp⟩:=hE;rw[bx,cg,cg]at hxp;by_cases hi:i<l.length
    ·have hxc:(eU l).getD i cd0=⟨(fL l).getD i [],(gu l i).1,(gu l i).2⟩:=je (yM hi);rw[hxc]at hx;obtain⟨j,hj,hjx⟩:=List.mem_iff_getElem.1 hx;have hjx':((fL l).getD i [])[j]? =some x:=(by rw[az hj];exact congrArg some hjx);have:=((rx hc).lt i j x (by rw[mM];exact hi) hjx' hxp.1).2.2;rw[hxp.2,cZ]at this;exact this
    ·have:(eU l).getD i cd0=cd0:=by
      have:(eU l)[i]? =none:=eV (by rw[hlen];omega);simp[List.getD,this]
     rw[this]at hx;cases hx) _ i i hw
   omega
 ·obtain⟨hi,rfl⟩:=at_ hx;have hl:=lim i hi;exact⟨(sJ hc hi).1,hl.1,hl.2.1⟩
section
theorem DW {wk:Int->Bool}{day:Int}{env:List UInt8->Nat->Bool}(he: ∀x (i:Nat),1440<=i->env x i=false): ∀(N:Nat) (e:Ex),SizeOf.sizeOf e<=N-> ∀(i:Nat),1440<=i->ft wk day env e i=false
 |0,e,hN,_,_=>by cases e;simp at hN
 |N+1,e,hN,i,hi=>by
  have hk: ∀j,(e.kids.map (ft wk day env)).getD j nev i=false:=fun j=>by
   cases hj:e.kids[j]? with
   |none=>simp[List.getD,hj,nev]
   |some k=>
    have hm:=aM hj;have:=DW (wk:=wk) (day:=day) he N k (by have:=iR hm;omega) i hi;simpa[List.getD,bg,hj] using this
  have hd:decide (i<1440)=false:=(by simp;omega);rw[jB];unfold mE;split
  ·exact hd
  split
  ·simp[hd]
  split
  ·split
   ·exact hk 0
   ·rfl
  split
  ·split
   ·exact hk 0
   ·rfl
  split
  ·simp[hd]
  split
  ·simp[hd]
  split
  ·simp[hd]
  split
  ·unfold shf;simp[hd]
  split
  ·exact he _ i hi
  ·rfl
theorem NZ (e:Ex){i:Nat}(hi:1440<=i):mnE e i=false:=DW (fun _ _ _=>rfl) _ e (aB _) i hi
theorem N0 {f:Nat->Bool}(h: ∀i:Nat,1440<=i->f i=false):spM (rs f 1440)=f:=by
 funext i;unfold spM;by_cases hi:i<1440
 ·have:=(DG f 1440).has i hi;simpa[hi] using this
 ·rw[h i (by omega)];have hd:decide (i<1440)=false:=(by simp;omega);simp[hd]
section
variable {wk:Int->Bool} {day:Int} {ev:Nat->M×Nat} {l:List In} {num:List UInt8->Int} {env:List UInt8->Nat->Bool} {x:In} {s:Vx.St}
theorem Ps (ho:x.op=1):dG wk day ev x s=⟨s.k+1,s.S++[spM x.sp],s.n+1⟩:=by simp[dG,ho]
theorem Pu (ho:x.op=2):dG wk day ev x s=⟨s.k+1,mT unM s.S,s.n+1⟩:=by simp[dG,ho]
theorem Pv (ho:x.op=3):dG wk day ev x s=⟨s.k+1,mT dfM s.S,s.n+1⟩:=by simp[dG,ho]
theorem Pw (ho:x.op=4):dG wk day ev x s=⟨s.k+1,mT boM s.S,s.n+1⟩:=by simp[dG,ho]
theorem Px (ho:x.op=5):dG wk day ev x s=⟨s.k+1,yz (fun f=>shM f x.a) s.S,s.n+1⟩:=by simp[dG,ho]
theorem Py (ho:x.op=8):dG wk day ev x s=⟨s.k+1,s.S++[(ev x.a.toNat).1],s.n+1+(ev x.a.toNat).2⟩:=by simp[dG,ho]
theorem OY (ho:x.op=6\/x.op=7)(hd:onD wk day x=true):dG wk day ev x s=⟨s.k+1,s.S,s.n+1⟩:=by
 unfold dG;rw[ax (by omega),ax (by omega),ax (by omega),ax (by omega),ax (by omega),ax (by omega),aD hd]
theorem N1 (ho:x.op=6\/x.op=7)(hd: ¬onD wk day x=true):dG wk day ev x s=⟨x.to.toNat,s.S++[noM],s.n+1⟩:=by
 unfold dG;rw[ax (by omega),ax (by omega),ax (by omega),ax (by omega),ax (by omega),ax (by omega),ax hd]
theorem Al (hu:Up wk day ev l){b ln:Nat}{S:List M}{n:Nat}{v:M}(hx:l[b]? =some x)(ho:x.op=6\/x.op=7)(hto:x.to=((b+1+ln:Nat):Int))(hk: ∃n',runV wk day ev l ⟨b+1,S,n+1⟩=runV wk day ev l ⟨b+1+ln,S++[v],n'⟩):
  ∃n',runV wk day ev l ⟨b,S,n⟩=runV wk day ev l ⟨b+(ln+1),S++[if onD wk day x=true then v else nev],n'⟩:=by
 rw[lQ hu (s:=⟨b,S,n⟩) hx,show b+(ln+1)=b+1+ln by omega];by_cases hd:onD wk day x=true
 ·rw[aD hd,OY ho hd];exact hk
 ·rw[ax hd,N1 ho hd,hto,cZ];exact⟨n+1,rfl⟩
theorem DX (hu:Up wk day ev l): ∀(N:Nat) (e:Ex),SizeOf.sizeOf e<=N->OKE e->(∀x∈nms e,(ev (num x).toNat).1=env x)-> ∀(b:Nat) (S:List M) (n:Nat),j8 l b (bL num e b)-> ∃n',runV wk day ev l ⟨b,S,n⟩=runV wk day ev l ⟨b+(bL num e b).length,S++[ft wk day env e],n'⟩
 |0,e,hN,_,_,_,_,_,_=>by cases e;simp at hN
 |N+1,e,hN,h,hn,b,S,n,hs=>by
  have ih: ∀k∈e.kids,∀(b:Nat) (S:List M) (n:Nat),j8 l b (bL num k b)-> ∃n',runV wk day ev l ⟨b,S,n⟩=runV wk day ev l ⟨b+(bL num k b).length,S++[ft wk day env k],n'⟩:=fun k hk=>DX hu N k (by have:=iR hk;omega) (h.kid hk) (fun x hx=>hn x (uL hk hx));cases hstd:stdE e with
  |true=>
   rw[oz hstd]at hs⊢;rw[lQ hu (s:=⟨b,S,n⟩) hs.one,BW hstd,Ps rfl];refine⟨n+1,?_⟩;rw[N0 (fun i hi=>NZ e hi)];rfl
  |false=>
   rcases ny h hstd with⟨q,k,hk⟩|⟨q,k,hk⟩|⟨q,k,hk⟩|q|⟨q,k,m,hk⟩
   ·have hm:k∈e.kids:=(by rw[hk];simp)
    have hv:ft wk day env e=if wk e.a=true then ft wk day env k else nev:=by
     rw[jB,q,Ho,hk];rfl
    rw[o7 q (by rw[hk];rfl)]at hs⊢;have:=Al hu (n:=n) hs.one (.inl rfl) rfl (ih k hm (b+1) S (n+1) hs.tail);rw[show onD wk day (⟨6,e.a,0,((b+1+(bL num k (b+1)).length:Nat):Int),[]⟩:In)=wk e.a from by unfold onD;rw[aD rfl]]at this;rw[hv,bJ];exact this
   ·have hm:k∈e.kids:=(by rw[hk];simp)
    have hv:ft wk day env e=if(decide (e.a<=day)&&decide (day<=e.b))=true then ft wk day env k else nev:=by
     rw[jB,q,Hp,hk];by_cases hw:e.a<=day/\day<=e.b
     ·rw[aD hw,aD (by simp[hw])];rfl
     ·rw[ax hw,ax (by rw[bx,cg,cg];exact hw)];rfl
    rw[nt q (by rw[hk];rfl)]at hs⊢;have:=Al hu (n:=n) hs.one (.inr rfl) rfl (ih k hm (b+1) S (n+1) hs.tail);rw[show onD wk day (⟨7,e.a,e.b,((b+1+(bL num k (b+1)).length:Nat):Int),[]⟩:In)=(decide (e.a<=day)&&decide (day<=e.b)) from by unfold onD;rw[ax (by show¬(7:Int)=6;omega)]]at this;rw[hv,bJ];exact this
   ·have hm:k∈e.kids:=(by rw[hk];simp)
    have hv:ft wk day env e=shM (ft wk day env k) e.a:=by
     rw[jB,q,Hu,hk];rfl
    rw[pL hstd q hk]at hs⊢;obtain⟨n',e'⟩:=ih k hm b S n hs.left;rw[e',hv,lQ hu (s:=⟨b+(bL num k b).length,S++[ft wk day env k],n'⟩) hs.right.one,Px rfl];refine⟨n'+1,?_⟩;rw[aP,dP,<-Nat.add_assoc,yA]
   ·have hv:ft wk day env e=env e.name:=(by rw[jB,q,DL]);rw[o6 q]at hs⊢;rw[lQ hu (s:=⟨b,S,n⟩) hs.one,hv,Py rfl];refine⟨n+1+(ev (num e.name).toNat).2,?_⟩;dsimp only;rw[hn _ (uM q)];rfl
   ·have hm:k∈e.kids:=(by rw[hk];simp);have hm':m∈e.kids:=(by rw[hk];simp);rw[qS hstd q hk]at hs⊢;obtain⟨n1,e1⟩:=ih k hm b S n hs.left.left;obtain⟨n2,e2⟩:=ih m hm' (b+(bL num k b).length) (S++[ft wk day env k]) n1 hs.left.right;have hx:=hs.right.one;rw[aP,<-Nat.add_assoc]at hx
    have el:b+(bL num k b++bL num m (b+(bL num k b).length)++[(⟨opK e.kind,0,0,0,[]⟩:In)]).length=b+(bL num k b).length+(bL num m (b+(bL num k b).length)).length+1:=by
     rw[aP,aP,dP];omega
    rw[e1,e2,lQ hu (s:=⟨b+(bL num k b).length+(bL num m (b+(bL num k b).length)).length,S++[ft wk day env k]++[ft wk day env m],n2⟩) hx,el];refine⟨n2+1,?_⟩;rw[eh,List.singleton_append];rcases q with q|q|q
    ·have hv:ft wk day env e=unM (ft wk day env k) (ft wk day env m):=by
      rw[jB,q,Hq,hk];rfl
     rw[hv,Pu (by show opK e.kind=2;rw[q];decide)];dsimp only;rw[l3]
    ·have hv:ft wk day env e=dfM (ft wk day env k) (ft wk day env m):=by
      rw[jB,q,Hr,hk];rfl
     rw[hv,Pv (by show opK e.kind=3;rw[q];decide)];dsimp only;rw[l3]
    ·have hv:ft wk day env e=boM (ft wk day env k) (ft wk day env m):=by
      rw[jB,q,Ht,hk];rfl
     rw[hv,Pw (by show opK e.kind=4;rw[q];decide)];dsimp only;rw[l3]
end
theorem DY {l:List Ru}(h:(dq l).1=0)(wk:Int->Bool)(day:Int): ∀(d i:Nat),i<l.length->muR l i<d->(evV wk day (eU l) d i).1=io l wk day i
 |0,_,_,hd=>by omega
 |d+1,i,hi,hd=>by
  have hu0:l[i]? =some l[i]:=az hi;have hm:=aM hu0;have hcd:(eU l).getD i cd0=⟨(fL l).getD i [],(gu l i).1,(gu l i).2⟩:=je (yM hi);have hup:Up wk day (evV wk day (eU l) d) ((fL l).getD i []):=EN (sJ h hi).2;have hok:=((qE h).2 _ hm).ok;have hseg:j8 ((fL l).getD i []) 0 (bL (atP5 l) (l[i]).2 0):=fun j _=>(by rw[mG hu0,bN])
  have hnm: ∀x∈nms (l[i]).2,(evV wk day (eU l) d (atP5 l x).toNat).1=io l wk day (atP5 l x).toNat:=fun x hx=>by
   obtain⟨h0,h1,h2⟩:=rW h hm hx;have hlt:(atP5 l x).toNat<l.length:=(by omega);have hr:muR l (atP5 l x).toNat<muR l i:=rS h hi (by rw[qr hu0];exact dU.2 ⟨_,h2,rfl⟩);exact DY h wk day d _ hlt (by omega)
  obtain⟨n',e'⟩:=DX (env:=fun x=>io l wk day (atP5 l x).toNat) hup _ _ (aB _) hok hnm 0 [] 0 hseg;rw[evV,hcd];dsimp only;rw[e',vJ (by dsimp only;rw[bN,mG hu0])];show ft wk day _ _=_;rw[oy h hu0]
theorem Mw (day:Int):eI day=wkB day:=rfl
end
end Go.Proofs.YtkfidffapdhbhaaGreatDoor
