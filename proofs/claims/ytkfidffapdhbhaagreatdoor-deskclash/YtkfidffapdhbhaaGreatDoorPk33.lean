/- Texts of the proof. -/
import Derived.Test.YtkfidffapdhbhaaGreatDoorPk32
open Go.Proofs.Tryz
set_option maxRecDepth 100000
set_option maxHeartbeats 8000000
namespace Go.Proofs.YtkfidffapdhbhaaGreatDoor
section
open Go.RowKit Lx Vx Mx Msk
section
variable {B gD:Nat} {d:Dk} {t:Tr}
theorem Hi (n day days:Int)(w:World)(h:dm B gD d t w)(hT: ∀W,Below B w W->Tab W)(hBw:B<=w.heap.size):Calls prog 14 #[ab gD 0,ag n,ag day,ag days] w (qg B gD (jk d n day days) t w):=by
 obtain⟨wA,hA,bA,nA⟩:=nb w #[ag 0,ag 0,ag 0,ag 0,af,af] 47;have hsA:wA.heap.size=w.heap.size+1:=by rw[<-hA];simp
 have hdA:=h.opened (az _) hsA bA;have HD1:=aB hdA;have HK1:OK (Kd gD t t w wA):=Kd.of bA;have H0:=aB h;obtain⟨hok,rv,cv,vv,kv,ss,aa,hm⟩:=hdA;have hss:ss.length=d.svs.length:=by rw[<-hm.sve,bf]
 obtain⟨ps,cs,hsv⟩:=cZ hm.svs;obtain⟨ns,hns⟩: ∃q,ss.length=q:=⟨_,rfl⟩
 rw[hns]at hsv;have z2:wA.cell? (ae gD 2)=some (.slice ps ns cs):=(cr (v:=t.sv) 2 hm.blk rfl).trans (congrArg some hsv);have HNS:OK (d.svs.length=ns):=by show _=_;rw[<-hss,hns]
 have HSS:=aB hns;have HSV:OK (t.sv= .slice ps ns cs):=hsv;have HM:=aB hm;have HOK:=aB hok;have HT:=aB hT;have n1:=nA;have cN1:=pA n (ns:Int) wA;have cN2:=pA day 146097 wA;obtain⟨b1,hb1⟩: ∃q,isN n (ns:Int)=q:=⟨_,rfl⟩
 obtain⟨b2,hb2⟩: ∃q,isN day 146097=q:=⟨_,rfl⟩
 rw[hb1]at cN1;rw[hb2]at cN2;have HB1:=aB hb1;have HB2:=aB hb2;have HBW:=aB hBw;clear h hm hok hss hsv hns hT hb1 hb2 nA hsA hBw;go_enter func14,ntmps14;go_wp2_with fail;refine cN1.mono ?_;rintro e w1 ⟨rfl,hw1⟩;subst hw1;clear cN1;cases b1 with
 |false=>
  have HP:OK (jk d n day days=(noA 6,d)):=(by show _=_;unfold jk;rw[HNS.o,ay HB1.o]);clear cN2 hA z2 bA;have cR:=eO 6 w1;go_wp2_with fail;refine cR.mono ?_;rintro e w9 ⟨rfl,b9⟩;have n9:=bt b9 n1;have HO:=aB (fj (HD1.o.below b9) (HK1.o.trans (Kd.of b9)) (az _) (anC (noA 6) (af) (af)));have HR:=aB (aJ _ _ _ (anC (noA 6) (af) (af)) _ _ n9);clear cR b9 n1;go_wp2_with(refine aw rfl 47 _ _ rfl _ _ rfl rfl _ _ n9 (by kernel_rfl) rfl (by simp[anC,noA,Value.oneCell']) ?_)
  refine aU (v:= .agg (anC (noA 6) (af) (af))) ?_ rfl ?_
  ·exact aZ rfl _ _ w.heap.size _ _ _ _ rfl HR.o anT rfl (by kernel_rfl)
  ·rw[HP.o];exact⟨t,_,_,rfl,HO.o.1,HO.o.2,bQ _ _,bQ _ _⟩
 |true=>
  go_wp2_with fail;refine cN2.mono ?_;rintro e w2 ⟨rfl,hw2⟩;subst hw2;clear cN2;cases b2 with
  |false=>
   have HP:OK (jk d n day days=(noA 3,d)):=(by show _=_;unfold jk;rw[HNS.o,au (by rw[HB1.o];simp),ay (.inl HB2.o)]);clear hA z2 bA;have cR:=eO 3 w2;go_wp2_with fail;refine cR.mono ?_;rintro e w9 ⟨rfl,b9⟩;have n9:=bt b9 n1;have HO:=aB (fj (HD1.o.below b9) (HK1.o.trans (Kd.of b9)) (az _) (anC (noA 3) (af) (af)));have HR:=aB (aJ _ _ _ (anC (noA 3) (af) (af)) _ _ n9);clear cR b9 n1;go_wp2_with(refine aw rfl 47 _ _ rfl _ _ rfl rfl _ _ n9 (by kernel_rfl) rfl (by simp[anC,noA,Value.oneCell']) ?_)
   refine aU (v:= .agg (anC (noA 3) (af) (af))) ?_ rfl ?_
   ·exact aZ rfl _ _ w.heap.size _ _ _ _ rfl HR.o anT rfl (by kernel_rfl)
   ·rw[HP.o];exact⟨t,_,_,rfl,HO.o.1,HO.o.2,bQ _ _,bQ _ _⟩
  |true=>
   have hday:0<=day/\day<146097:=(by have:=HB2.o;simpa[isN] using this);by_cases h1:days<1
   ·have HP:OK (jk d n day days=(noA 3,d)):=(by show _=_;unfold jk;rw[HNS.o,au (by rw[HB1.o];simp),ay (.inr (.inl h1))]);clear hA z2 bA;have cR:=eO 3 w2;go_wp2_with fail;refine cR.mono ?_;rintro e w9 ⟨rfl,b9⟩;have n9:=bt b9 n1;have HO:=aB (fj (HD1.o.below b9) (HK1.o.trans (Kd.of b9)) (az _) (anC (noA 3) (af) (af)));have HR:=aB (aJ _ _ _ (anC (noA 3) (af) (af)) _ _ n9);clear cR b9 n1;go_wp2_with(refine aw rfl 47 _ _ rfl _ _ rfl rfl _ _ n9 (by kernel_rfl) rfl (by simp[anC,noA,Value.oneCell']) ?_)
    refine aU (v:= .agg (anC (noA 3) (af) (af))) ?_ rfl ?_
    ·exact aZ rfl _ _ w.heap.size _ _ _ _ rfl HR.o anT rfl (by kernel_rfl)
    ·rw[HP.o];exact⟨t,_,_,rfl,HO.o.1,HO.o.2,bQ _ _,bQ _ _⟩
   ·by_cases h2:30<days
    ·have HP:OK (jk d n day days=(noA 3,d)):=(by show _=_;unfold jk;rw[HNS.o,au (by rw[HB1.o];simp),ay (.inr (.inr (.inl h2)))]);clear hA z2 bA;have cR:=eO 3 w2;go_wp2_with fail;refine cR.mono ?_;rintro e w9 ⟨rfl,b9⟩;have n9:=bt b9 n1;have HO:=aB (fj (HD1.o.below b9) (HK1.o.trans (Kd.of b9)) (az _) (anC (noA 3) (af) (af)));have HR:=aB (aJ _ _ _ (anC (noA 3) (af) (af)) _ _ n9);clear cR b9 n1;go_wp2_with(refine aw rfl 47 _ _ rfl _ _ rfl rfl _ _ n9 (by kernel_rfl) rfl (by simp[anC,noA,Value.oneCell']) ?_)
     refine aU (v:= .agg (anC (noA 3) (af) (af))) ?_ rfl ?_
     ·exact aZ rfl _ _ w.heap.size _ _ _ _ rfl HR.o anT rfl (by kernel_rfl)
     ·rw[HP.o];exact⟨t,_,_,rfl,HO.o.1,HO.o.2,bQ _ _,bQ _ _⟩
    ·have hwr:IntKind.i64.wrap (day+days)=day+days:=(by rw[br];omega);by_cases h3:146097<day+days
     ·have HP:OK (jk d n day days=(noA 3,d)):=(by show _=_;unfold jk;rw[HNS.o,au (by rw[HB1.o];simp),ay (.inr (.inr (.inr h3)))]);clear hA z2 bA;have cR:=eO 3 w2;go_wp2_with fail;refine cR.mono ?_;rintro e w9 ⟨rfl,b9⟩;have n9:=bt b9 n1;have HO:=aB (fj (HD1.o.below b9) (HK1.o.trans (Kd.of b9)) (az _) (anC (noA 3) (af) (af)));have HR:=aB (aJ _ _ _ (anC (noA 3) (af) (af)) _ _ n9);clear cR b9 n1;go_wp2_with(refine aw rfl 47 _ _ rfl _ _ rfl rfl _ _ n9 (by kernel_rfl) rfl (by simp[anC,noA,Value.oneCell']) ?_)
      refine aU (v:= .agg (anC (noA 3) (af) (af))) ?_ rfl ?_
      ·exact aZ rfl _ _ w.heap.size _ _ _ _ rfl HR.o anT rfl (by kernel_rfl)
      ·rw[HP.o];exact⟨t,_,_,rfl,HO.o.1,HO.o.2,bQ _ _,bQ _ _⟩
     ·have hn:0<=n/\n<(ns:Int):=(by have:=HB1.o;simpa[isN] using this);obtain⟨k,rfl⟩: ∃k:Nat,n=(k:Int):=⟨n.toNat,by omega⟩
      have hks:k<ss.length:=(by rw[HSS.o];omega);have hk0:(0:Int)<=(k:Int):=(by omega);have hkn:(k:Int)<(ns:Int):=hn.2;obtain⟨⟨s,sv⟩,hsk⟩: ∃q,ss[k]? =some q:=⟨ss[k],ax hks⟩
      have hsd:d.svs[k]? =some s:=(by rw[<-HM.o.sve,a8,hsk];rfl);have hrb:=HM.o.svr _ (aK hsk);obtain⟨pr,crr,hse,_,_⟩:=hrb.here;dsimp only at hse hrb;subst hse;obtain⟨gs,cs',e1,_,hrg⟩:=jx r8 HM.o.svs rfl hsk;have e0:Value.slice ps ns cs= .slice (some (ae gs 0)) ns cs':=(by rw[<-HSV.o,<-HSS.o];exact e1);injection e0 with e2 e3 e4;subst e2 e4;obtain⟨m,rfl⟩: ∃m:Nat,days=(m:Int):=⟨days.toNat,by omega⟩
      obtain⟨wZ,wB,hZ,nZ,hB,bB,nB⟩:=nbs w2 #[ag 0,ag 0,ag 0,af] (svC (s,.slice pr s.roles.length crr)) 41;have hdB:=HD1.o.below bB;have n1B:=bt bB n1
      have HFD:OK (jk d (k:Int) day (m:Int)=(if(gy s (it s day m 0 d).1).err≠0 then(noA (gy s (it s day m 0 d).1).err,(it s day m 0 d).2) else(⟨0,0,(gy s (it s day m 0 d).1).day+day,(gy s (it s day m 0 d).1).min,(gy s (it s day m 0 d).1).who,[]⟩,(it s day m 0 d).2))):=by
       show _=_;have:d.svs.getD k sv0=s:=(by simp[List.getD,hsd]);unfold jk
       rw[HNS.o,au (by rw[HB1.o];simp),au (fun h=>by
        rcases h with h|h|h|h
        ·rw[HB2.o]at h;cases h
        ·omega
        ·omega
        ·omega)]
       simp only[bV,this]
      have HRB:=aB (hrb.below bB);have HDB:=aB hdB;have HKB:=aB (HK1.o.trans (Kd.of bB));have HG:OK (∀q,w.heap.size<=q->Gx gD t q):=fun q hq=>(H0.o.fx (.inr hq)).1;have HSM:=aB (uK (HOK.o.sv s (aK hsd)));obtain⟨nr,hnr⟩: ∃q,d.res.length=q:=⟨_,rfl⟩
      have hnr12:nr<=12:=(by rw[<-hnr];exact HOK.o.rl);have HNR:=aB hnr;have hww:w.heap.size<=wB.heap.size:=HKB.o.size;have hw2w:w.heap.size<=w2.heap.size:=HK1.o.size;have hm30:m<=30:=(by omega);have hdm:day+(m:Int)<=146097:=(by omega);have hwlt:=aF n1B;have hw2l:=aF nB;clear hA bA hn hks hsk hsd hrb e1 e3 hdB hnr n1 bB HB1 HB2 HNS HSS HSV HM HD1 HK1;go_wp2_with(first|(refine wpList_load_mid rfl 41 _ rfl gs (k*4) rfl (svC (s,.slice pr s.roles.length crr)).toList _ hrg svT rfl (by kernel_rfl) ?_)|(refine aw rfl 41 _ _ rfl _ _ rfl rfl _ _ nZ (by kernel_rfl) rfl (uj _ _ _ _) ?_;rw[hB]))
      clear z2 hrg hZ nZ hB hwr h1 h2 h3;go_loopw [10,11,51] (fun v _ q wr=> ∃(j:Nat) (dd:Dk) (L:List Nat) (ms:List (List (Nat->Bool))) (vs:List Value),q=ag (j:Int)/\j<=m/\Cor d dd/\dm B gD dd ((t.add w.heap.size).ad L) wr/\(∀b,v.ownBlock=some b->b∈L)/\(∀b∈L,wB.heap.size<=b)/\Kd gD t t wB wr/\wr.ownsRow wB.heap.size 78 1 v j vs/\ms.length=j/\(∀(i:Nat) (fs:List (Nat->Bool)) (u:Value),ms[i]? =some fs->vs[i]? =some u->fs.length=nr/\wr.ownsRow wB.heap.size 86 23 u nr (mkF fs))/\it s day m 0 d=(ms++(it s day (m-j) j dd).1,(it s day (m-j) j dd).2)) (fun _ _ q _=>m-(intOf q).toNat);case atStart=>exact⟨0,d,[],[],[],rfl,by omega,Cor.refl d,HDB.o,(fun b hb=>by cases hb),(fun b hb=>by cases hb),Kd.of (aG _ _),cj _ _ _ _,rfl,(fun i fs u hi=>by simp at hi),rfl⟩
      case round=>
       obtain⟨j,dd,L,ms,vs,rfl,hj,hco,hd,hLb,hLl,hk,hown,hms,hel,hX⟩:=hrel;have hj0:(0:Int)<=(j:Int):=(by omega);have hcr:dd.res=d.res:=(by obtain⟨_,_,rfl⟩:=hco;rfl);by_cases hjm:j<m
       ·have hjm':(j:Int)<(m:Int):=(by omega);rw[He s day hjm,hcr,HNR.o]at hX;have hbx:=(hk.blk _ (HG.o w2.heap.size (by omega)) hw2l).trans nB
        have hrW:Rob (Fx gD ((t.add w.heap.size).ad L)) (fun u=>ft u (.slice pr s.roles.length crr) s.roles) wr:=HRB.o.move hk.size (fun q hq hl=>hk.blk q hq.1 hl) fun q hl hq=>⟨hq.1,fun hx=>by
         rcases bT.1 hx with hx|hx
         ·have:=hLl q hx;omega
         ·exact hq.2 hx⟩
        have cF:=CA s pr crr (day+(j:Int)) wr hd hrW;rw[hcr,HNR.o]at cF;have hwj:IntKind.i64.wrap (day+(j:Int))=day+(j:Int):=(by rw[br];omega);obtain⟨fs,hfs⟩: ∃q,(fJ s (day+(j:Int)) nr 0 dd).1=q:=⟨_,rfl⟩
        obtain⟨de,hde⟩: ∃q,(fJ s (day+(j:Int)) nr 0 dd).2=q:=⟨_,rfl⟩
        have HFC:OK (Cor d de/\fs.length=nr):=by
         have:=nT s (day+(j:Int)) nr 0 dd;rw[hfs,hde]at this;exact⟨hco.trans this.1,this.2⟩
        rw[hfs,hde]at cF hX
        have HX:OK (it s day m 0 d=((ms++[fs])++(it s day (m-(j+1)) (j+1) de).1,(it s day (m-(j+1)) (j+1) de).2)):=by
         show _=_;rw[hX,dT];rfl
        have HOW:=aB hown;have HEL:=aB hel;have HLB:=aB hLb;have HLL:=aB hLl;have HK:=aB hk;have HMS:=aB hms;have hwsz:wB.heap.size<=wr.heap.size:=hk.size;clear hX hfs hde hown hel hLb hLl hk hms hco hcr hd hrW;go_wp2_with(refine aO rfl 41 _ rfl _ rfl _ _ _ _ hbx svT rfl (by kernel_rfl) ?_)
        refine cF.mono ?_;rintro e w3 ⟨gm,rfl,hgm,hom,hd3,hk3⟩;have hk3':Kd gD t t wr w3:=⟨hk3.os,hk3.tape,hk3.output,hk3.size,hk3.blk,fun _ _ h=>h,rfl⟩
        obtain⟨wC,hC,bC,nC⟩:=nb w3 #[.slice (some (ae gm 0)) nr nr] 78;have keep: ∀{e s n:Nat} {u:Value} {xs:List Value},wr.ownsRow wB.heap.size e s u n xs->wC.ownsRow wB.heap.size e s u n xs:=fun hr=>bp hr fun b hq=>(bC.block b (aR (hr.lt b hq).2 hk3.size)).trans (hk3.blk b (HG.o b (by have:=(hr.lt b hq).1;omega)) (hr.lt b hq).2);have hoC:=keep HOW.o;have hdC:=hd3.below bC;have HKC:=aB (HK.o.trans (hk3'.trans (Kd.of bC)))
        have HOM:OK (wC.ownsRow wB.heap.size 86 23 (.slice (some (ae gm 0)) nr nr) nr (mkF fs)):=by
         have h1:=bp hom fun b hq=>bC.block b (hom.lt b hq).2;exact⟨h1.1,h1.2.imp id fun⟨g,c,cu,q1,q2,q3⟩=>⟨g,c,cu,q1,ba hwsz q2,q3⟩⟩
        have HEC:OK (∀(i:Nat) (fs:List (Nat->Bool)) (u:Value),ms[i]? =some fs->vs[i]? =some u->fs.length=nr/\wC.ownsRow wB.heap.size 86 23 u nr (mkF fs)):=fun i fs u h1 h2=>⟨(HEL.o i fs u h1 h2).1,keep (HEL.o i fs u h1 h2).2⟩
        have HDC:=aB hdC;have hwC:wB.heap.size<=wC.heap.size:=HKC.o.size;clear cF hbx hk3 hk3' hd3 hom keep bC hdC HK HEL hgm;go_wp2_with(at_builtin;refine ig rfl _ _ 77 78 rfl LG MY rfl (by decide) (by decide) rfl hoC rfl nC rfl (by simp[Value.oneCell']) (by omega) hwC ?_)
        rintro v2 w4 ho4 hgr hbl g4 c4 rfl;obtain⟨L',hd4,hL4,hL5,_⟩:=HDC.o.grown hoC HLB.o hgr ho4 hbl;have hk4:Kd gD t t wB w4:=⟨hgr.os.trans HKC.o.os,hgr.tape.trans HKC.o.tape,hgr.output.trans HKC.o.output,ba HKC.o.size hgr.size,fun q hq hl=>(hgr.block q (aR hl HKC.o.size) (fun e=>by have:=(hoC.lt q e.symm).1;omega)).trans (HKC.o.blk q hq hl),fun _ _ h=>h,rfl⟩
        have keep4: ∀{u:Value} {n:Nat} {xs:List Value},wC.ownsRow wB.heap.size 86 23 u n xs->w4.ownsRow wB.heap.size 86 23 u n xs:=fun hr=>bp hr fun b hq=>hgr.block b (hr.lt b hq).2 fun e=>oJ hr hoC (by decide) hq e.symm
        have HR4:OK (∃(L:List Nat) (vs':List Value),dm B gD de ((t.add w.heap.size).ad L) w4/\(∀b,(Value.slice (some (ae g4 0)) (j+1) c4).ownBlock=some b->b∈L)/\(∀b∈L,wB.heap.size<=b)/\Kd gD t t wB w4/\w4.ownsRow wB.heap.size 78 1 (.slice (some (ae g4 0)) (j+1) c4) (j+1) vs'/\(∀(i:Nat) (fs':List (Nat->Bool)) (u:Value),(ms++[fs])[i]? =some fs'->vs'[i]? =some u->fs'.length=nr/\w4.ownsRow wB.heap.size 86 23 u nr (mkF fs'))):=by
         refine⟨L',_,hd4,hL4,fun b hb=> ?_,hk4,ho4,fun i fs' u h1 h2=> ?_⟩
         ·rcases hL5 b hb with h|h
          ·exact HLL.o b h
          ·have:=h.1;omega
         ·have hvl:vs.length=j:=(by have:=HOW.o.1;omega);by_cases e:i=j
          ·subst e;rw[dt (by have:=HMS.o;omega),HMS.o,iu]at h1;rw[dt (by omega),hvl,iu]at h2;have e1:fs=fs':=aL h1;have e2:Value.slice (some (ae gm 0)) nr nr=u:=aL h2;subst e1 e2;exact⟨HFC.o.2,keep4 HOM.o⟩
          ·have hij:i<j:=by
            have:=(aE.1 h1).1;rw[aN,HMS.o]at this;simp at this;omega
           rw[dI (by have:=HMS.o;omega)]at h1;rw[dI (by omega)]at h2;exact⟨(HEC.o i fs' u h1 h2).1,keep4 (HEC.o i fs' u h1 h2).2⟩
        clear hoC ho4 hgr hbl nC hC hd4 hL4 hL5 hk4 keep4 HDC HKC HOM HEC HOW;go_wp2_with fail;go_roundw
        case rel=>
         obtain⟨L,vs',q1,q2,q3,q4,q5,q6⟩:=HR4.o;exact⟨j+1,de,L,ms++[fs],vs',by go_num,by omega,HFC.o.1,q1,q2,q3,q4,q5,by rw[aN,HMS.o];rfl,q6,HX.o⟩
        case measure=>simp[intOf];omega
       ·have hjm': ¬(j:Int)<(m:Int):=(by omega);obtain rfl:m=j:=(by omega);rw[iu]at hX
        have hX2:it s day m 0 d=(ms,dd):=by
         rw[hX];simp[it]
        have hkw:=HKB.o.trans hk;have hkBr:=hk.size;have hbx:=(hk.blk _ (HG.o w2.heap.size hw2w) hw2l).trans nB;have n1r:=(hk.blk _ (HG.o w.heap.size (az _)) hwlt).trans n1B;have hrow:=((hk.rob (t':=t) (HRB.o.move (P':=Fx gD t) (az _) (fun _ _ _=>rfl) fun q _ hq=>⟨hq.1,fun hx=>hq.2 (bx _ hx)⟩))).here;have hDs:ua wr u10 ms:=Hh (by rw[hms];exact hown) (by omega) (by omega) hel;have hTb:=HT.o wr (Kd.below H0.o hkw HBW.o);have cM:=Gz s (.slice pr s.roles.length crr) ms u10 wr hTb hrow hDs;unfold svV Es at cM;rw[hX2]at HFD;obtain⟨fr,hfr⟩: ∃q,gy s ms=q:=⟨_,rfl⟩
        have HFR:OK (0<=fr.day/\fr.day<=30):=(by have:=Hf s ms;rw[hfr]at this;exact this);rw[hfr]at cM HFD;obtain⟨pw,cw,hu10⟩:=cZ hown;subst hu10;have HDr:=aB hd.drop;have HKr:=aB hkw;clear hX hX2 hk hkw hd hLb hLl hown hel hms hco hcr hrow hDs hTb hfr HSM;go_wp2_with(refine aO rfl 41 _ rfl _ rfl _ _ _ _ hbx svT rfl (by kernel_rfl) ?_)
        refine cM.mono ?_;rintro e w5 ⟨v5,rfl,ho5,b5⟩;obtain⟨p5,c5,hv5⟩:=cZ ho5;subst hv5;obtain⟨nw,hnw⟩: ∃q,fr.who.length=q:=⟨_,rfl⟩
        rw[hnw]at ho5;obtain⟨wY,w6,hY,nY,h6,b6,n6⟩:=nbs w5 #[ag 0,ag 0,af] #[ag fr.day,ag fr.min,.slice p5 nw c5] 36;have n15:=bt b5 n1r;have hk5:=HKr.o.trans (Kd.of b5);have hd5:=HDr.o.below b5;have HK5:=aB hk5;have HD5:=aB hd5;have HO5:=aB ho5;have HNW:=aB hnw;have h5w:w.heap.size<w5.heap.size:=aF n15;have hwr:w.heap.size<wr.heap.size:=aR hwlt hkBr;have hr5:wr.heap.size<=w5.heap.size:=b5.size;obtain⟨er,her⟩: ∃q,fr.err=q:=⟨_,rfl⟩
        rw[her]at HFD;rw[hnw,her];have HB6:=aB b6;clear cM hbx b5 n1r hk5 hd5 ho5 hnw her b6 HKr;by_cases h0:er=0
        ·subst h0;have HP:OK (jk d (k:Int) day (m:Int)=(⟨0,0,fr.day+day,fr.min,fr.who,[]⟩,dd)):=HFD.o.trans (by rw[au (by simp)]);have hwd:IntKind.i64.wrap (fr.day+day)=fr.day+day:=(by have:=HFR.o;rw[br];omega);have y6:w6.cell? (ae w5.heap.size 0)=some (ag fr.day):=cr 0 n6 rfl;have x6:=bh _ _ 0 _ _ n6;obtain⟨w7,hw7⟩: ∃W,w6.setCell ⟨w5.heap.size,0,none⟩ (ag (fr.day+day))=W:=⟨_,rfl⟩
         have n7:w7.heap[w5.heap.size]? =ah #[ag (fr.day+day),ag fr.min,.slice p5 nw c5] 36:=hw7▸aV w6 w5.heap.size 0 _ _ (ag (fr.day+day)) n6;have b7:Below w5.heap.size w5 w7:=hw7▸HB6.o.setCell (p:=⟨w5.heap.size,0,none⟩) (az _) (ag (fr.day+day));have n17:=bt b7 n15
         have HRB5:OK (Rob (Fx gD t) (fun u=>dy u (.slice p5 nw c5) fr.who) (w7.setRow w.heap.size (anC ⟨0,0,fr.day+day,fr.min,fr.who,[]⟩ (.slice p5 nw c5) (af)))):=by
          refine Rob.imp (Rob.move (P:=fun q=>wr.heap.size<=q) (Φ:=fun u=>u.ownsRow wr.heap.size 3 1 (.slice p5 nw c5) nw (di fr.who)) (w:=w7) (fun u hu ha=>bp HO5.o fun b hb=>(ha b (HO5.o.lt b hb).1 (aR (HO5.o.lt b hb).2 b7.size)).trans (b7.block b (HO5.o.lt b hb).2)) (by simp) (fun q hq _=>aT _ _ _ _ (by omega)) fun q _ hq=>H0.o.fx (.inr (by omega))) fun u hu=>oK (by rw[HNW.o];exact hu) (by
           rw[HNW.o];rcases hu.2 with⟨_,e⟩|⟨_,_,_,_,_,_,_,e,_⟩
           ·omega
           ·unfold maxLen at e;omega)
         have HO:=aB (fj (HD5.o.below b7) (HK5.o.trans (Kd.of b7)) (az _) (anC ⟨0,0,fr.day+day,fr.min,fr.who,[]⟩ (.slice p5 nw c5) (af)));have HR:=aB (aJ _ _ _ (anC ⟨0,0,fr.day+day,fr.min,fr.who,[]⟩ (.slice p5 nw c5) (af)) _ _ n17);clear b7 n15 n6 HB6 HFD;go_wp2_with(first|(refine aO rfl 36 _ rfl _ rfl _ _ _ _ n7 slT rfl (by kernel_rfl) ?_)|(refine aw rfl 36 _ _ rfl _ _ rfl rfl _ _ nY (by kernel_rfl) rfl (by simp[Value.oneCell']) ?_;rw[h6])|(refine aw rfl 47 _ _ rfl _ _ rfl rfl _ _ n17 (by kernel_rfl) rfl (by simp[Value.oneCell']) ?_))
         refine aU (v:= .agg (anC ⟨0,0,fr.day+day,fr.min,fr.who,[]⟩ (.slice p5 nw c5) (af))) ?_ rfl ?_
         ·exact aZ rfl _ _ w.heap.size _ _ _ _ rfl HR.o anT rfl (by kernel_rfl)
         ·rw[HP.o];exact⟨t,_,_,rfl,HO.o.1,HO.o.2,HRB5.o,bQ _ _⟩
        ·have h0':(er !=0)=true:=(by simpa using h0);have HP:OK (jk d (k:Int) day (m:Int)=(noA er,dd)):=HFD.o.trans (by rw[ay h0]);have n1:=bt HB6.o n15;have HD1:=aB (HD5.o.below HB6.o);have HK1:=aB (HK5.o.trans (Kd.of HB6.o));clear h0 n15 HB6 HFD n6;go_wp2_with(refine aw rfl 36 _ _ rfl _ _ rfl rfl _ _ nY (by kernel_rfl) rfl (by simp[Value.oneCell']) ?_;rw[h6])
         clear nY hY h6;have cR:=eO er w6;go_wp2_with fail;refine cR.mono ?_;rintro e w9 ⟨rfl,b9⟩;have n9:=bt b9 n1;have HO:=aB (fj (HD1.o.below b9) (HK1.o.trans (Kd.of b9)) (az _) (anC (noA er) (af) (af)));have HR:=aB (aJ _ _ _ (anC (noA er) (af) (af)) _ _ n9);clear cR b9 n1;go_wp2_with(refine aw rfl 47 _ _ rfl _ _ rfl rfl _ _ n9 (by kernel_rfl) rfl (by simp[anC,noA,Value.oneCell']) ?_)
         refine aU (v:= .agg (anC (noA er) (af) (af))) ?_ rfl ?_
         ·exact aZ rfl _ _ w.heap.size _ _ _ _ rfl HR.o anT rfl (by kernel_rfl)
         ·rw[HP.o];exact⟨t,_,_,rfl,HO.o.1,HO.o.2,bQ _ _,bQ _ _⟩
end
end
section
open Go.RowKit Lx Vx Mx Msk
def doC (c:Cm)(rv wv:Value):Array Value:= #[ag c.kind,ag c.n,ag c.day,ag c.days,j6 c.text,j6 c.name,ag c.sv.len,ag c.sv.bef,ag c.sv.aft,rv,ag c.sday,ag c.smin,wv]
def doP (d:Dk)(c:Cm):An×Dk:=
 if c.kind=1 then mT d (ia c.text) else
 if c.kind=2 then qR d c.name else
 if c.kind=3 then qS d c.sv else
 if c.kind=4 then jk d c.n c.day c.days else
 if c.kind=5 then lh d c.n c.sday c.smin c.swho else
 if c.kind=6 then ib d c.n (fun a d=>((eV a 2,0),d)) else
 if c.kind=7 then ib d c.n (fun a d=>((eV a 3,0),d)) else
 if c.kind=8 then ib d c.n (fun a d=>eJ d c.n a c.sday c.smin c.swho) else
 if c.kind=9 then qB d c.days else(noA 1,d)
theorem doT:prog.underlying 45=some (.struct (prog.fieldsOf 45)):=by kernel_rfl
section
variable {B gD:Nat} {d:Dk} {t:Tr} {w w3 w4:World}
theorem Tr.back {t':Tr}{q:Nat}(h:t'.xs=(t.add q).xs):t'=(Tr.mk t'.ev t'.sv t'.av t.xs).add q:=by
 obtain⟨a,b,c,x⟩:=t';dsimp only at h;subst h;rfl
theorem Hj {q:Nat}{p:An×Dk}{wv lv:Value}{t':Tr}(hb:Below w.heap.size w w3)(hq:w.heap.size<=q)(hd:dm B gD p.2 t' w4)(hk:Kd gD (t.add q) t' w3 w4)(hw:Rob (Fx gD t') (fun u=>dy u wv p.1.who) w4)(hl:Rob (Fx gD t') (fun u=>dy u lv p.1.list) w4)(c:Array Value):
  ∃t0:Tr,dm B gD p.2 t0 (w4.setRow q c)/\Kd gD t t0 w (w4.setRow q c)/\Rob (Fx gD t0) (fun u=>dy u wv p.1.who) (w4.setRow q c)/\Rob (Fx gD t0) (fun u=>dy u lv p.1.list) (w4.setRow q c):=by
 have e:=Tr.back hk.xs;obtain⟨t0,rfl⟩: ∃t0:Tr,t'=t0.add q:=⟨_,e⟩
 have hk0:=Kd.opened hb hk;have hr:=fj hd hk0 hq c;have mv: ∀{Φ:World->Prop},Rob (Fx gD (t0.add q)) Φ w4->Rob (Fx gD t0) Φ (w4.setRow q c):=fun hR=>hR.move (by simp) (fun k hf _=>aT _ _ _ _ fun e=>hf.2 (by rw[e];exact bo)) fun k _ hf=>⟨hf.1,fun hx=>hf.2 (bx _ hx)⟩
 exact⟨t0,hr.1,hr.2,mv hw,mv hl⟩
theorem BF {c:Cm}{rv wv:Value}{g:Nat}(m:w.heap[g]? =ah (doC c rv wv) 45):w.cell? (ae g 0)=some (ag c.kind)/\w.cell? (ae g 1)=some (ag c.n)/\w.cell? (ae g 2)=some (ag c.day)/\w.cell? (ae g 3)=some (ag c.days)/\w.cell? (ae g 4)=some (.string ⟨c.text.toArray⟩)/\w.cell? (ae g 5)=some (.string ⟨c.name.toArray⟩)/\w.cell? (ae g 6)=some (ag c.sv.len)/\w.cell? (ae g 7)=some (ag c.sv.bef)/\w.cell? (ae g 8)=some (ag c.sv.aft)/\w.cell? (ae g 9)=some rv/\w.cell? (ae g 10)=some (ag c.sday)/\w.cell? (ae g 11)=some (ag c.smin)/\w.cell? (ae g 12)=some wv:=
 ⟨cr 0 m rfl,cr 1 m rfl,cr 2 m rfl,cr 3 m rfl,cr 4 m rfl,cr 5 m rfl,cr 6 m rfl,cr 7 m rfl,cr 8 m rfl,cr 9 m rfl,cr 10 m rfl,cr 11 m rfl,cr 12 m rfl⟩
theorem LH (c:Cm)(pr pw:Option Addr)(cr2 cw:Nat)(w:World)(h:dm B gD d t w)(hx:c.text.length<=9223372036854775807)(hT:Tbs B w)(hBw:B<=w.heap.size)(hg:d.given+1<=1000000)(hxs:EU w t.xs)(hn:c.name.length<=9223372036854775807)(hr:ft w (.slice pr c.sv.roles.length cr2) c.sv.roles)(h58: ¬(5<=c.kind/\c.kind<=8)):Calls prog 10 #[ab gD 0,.agg (doC c (.slice pr c.sv.roles.length cr2) (.slice pw c.swho.length cw))] w (qg B gD (doP d c) t w):=by
 obtain⟨w1,h1,b1,n1⟩:=nb w #[ab gD 0] 57;obtain⟨w2,h2,b2,n2⟩:=nb w1 (doC c (.slice pr c.sv.roles.length cr2) (.slice pw c.swho.length cw)) 45;obtain⟨w3,h3,b3,n3⟩:=nb w2 #[ag 0,ag 0,ag 0,ag 0,af,af] 47;have b12:=aq b1 b2;have b13:=aq b12 b3;have hd3:=h.opened (q:=w2.heap.size) b12.size (by rw[<-h3];simp) b13;have m2:=bt b3 n2;have k1:=bt (aq b2 b3) n1;have z1:=cr 0 k1 rfl;obtain⟨y0,y1,y2,y3,y4,y5,y6,y7,y8,y9,y10,y11,y12⟩:=BF m2;have HB:=aB b13;have HQ:=aB b12.size
 have HGX:OK (Gx gD (t.add w2.heap.size) w2.heap.size):=by
  obtain⟨_,_,_,_,_,_,_,hm⟩:=hd3;exact(hm.nx _ bo).2.2
 have hT3:=hT.below (b13.mono hBw);have hB3:=ba hBw b13.size;rcases(show c.kind=1\/c.kind=2\/c.kind=3\/c.kind=4\/c.kind=9\/(c.kind<1\/9<c.kind) by omega) with hk|hk|hk|hk|hk|hk
 case' inl=>
  have hx3:EU w3 (t.add w2.heap.size).xs:=fun k hk=>by
   rcases bG.1 hk with rfl|hk
   ·exact⟨_,_,_,n3,by decide⟩
   ·obtain⟨c,T,f,hc,hn⟩:=hxs k hk;exact⟨c,T,f,bt b13 hc,hn⟩
  have cC:=Ha c.text w3 hd3 hx hT3 hB3 hg hx3;clear hx3;generalize hP:mT d (ia c.text)=P at cC
 case' inr.inl=>
  have cC:=EM c.name w3 hd3 hn;generalize hP:qR d c.name=P at cC
 case' inr.inr.inl=>
  have cC:=EV c.sv pr cr2 w3 hd3 (hr.below b13);generalize hP:qS d c.sv=P at cC
 case' inr.inr.inr.inl=>
  have cC:=Hi c.n c.day c.days w3 hd3 (fun W hW=>(hT3 W hW).2.2) hB3;generalize hP:jk d c.n c.day c.days=P at cC
 case' inr.inr.inr.inr.inl=>
  have cC:=Jt c.days w3 hd3;generalize hP:qB d c.days=P at cC
 case' inr.inr.inr.inr.inr=>
  have cC:=(show Calls prog 23 #[ag 1] w3 (qg B gD (noA 1,d) (t.add w2.heap.size) w3) from(eO 1 w3).mono fun e w hh=>⟨_,_,_,hh.1,hd3.below hh.2,Kd.of hh.2,bQ _ _,bQ _ _⟩)
  generalize hP:((noA 1,d):An×Dk)=P at cC
 all_goals
  have HP:OK (doP d c=P):=by
   show _=_;rw[<-hP];unfold doP;repeat (first|rw[ay hk]|rw[au (by omega)])
  clear b1 b2 b3 b12 b13 hd3 n1 n2 hP k1 m2 hT3 hB3
  try rw[hk]at y0
  try (have e1:(c.kind==1)=false:=by simp;omega
       have e2:(c.kind==2)=false:=by simp;omega
       have e3:(c.kind==3)=false:=by simp;omega
       have e4:(c.kind==4)=false:=by simp;omega
       have e5:(c.kind==5)=false:=by simp;omega
       have e6:(c.kind==6)=false:=by simp;omega
       have e7:(c.kind==7)=false:=by simp;omega
       have e8:(c.kind==8)=false:=by simp;omega
       have e9:(c.kind==9)=false:=by simp;omega)
  clear hk
  go_enter func10,ntmps10
  go_wp2_with fail
  refine cC.mono ?_
  rintro e w4 ⟨t',wv,lv,rfl,hd4,hk4,hw4,hl4⟩
  obtain⟨t0,o1,o2,o3,o4⟩:=Hj HB.o HQ.o hd4 hk4 hw4 hl4 (anC P.1 wv lv)
  obtain⟨p5,c5,rfl,_,_⟩:=hw4.here
  obtain⟨p6,c6,rfl,_,_⟩:=hl4.here
  have n4:=(hk4.blk _ HGX.o (aF n3)).trans n3
  have HO:=aB (fw o1 (fw o2 (fw o3 o4)))
  have HR:=aB (aJ _ _ _ (anC P.1 (.slice p5 P.1.who.length c5) (.slice p6 P.1.list.length c6)) _ _ n4)
  clear cC hd4 hk4 hw4 hl4 o1 o2 o3 o4 n3
  go_wp2_with(refine aw rfl 47 _ _ rfl _ _ rfl rfl _ _ n4 (by kernel_rfl) rfl (by simp[anC,Value.oneCell']) ?_)
  refine aU (v:= .agg (anC P.1 (.slice p5 P.1.who.length c5) (.slice p6 P.1.list.length c6))) ?_ rfl ?_
  ·exact aZ rfl _ _ w2.heap.size _ _ _ _ rfl HR.o anT rfl (by kernel_rfl)
  ·rw[HP.o]
   exact⟨t0,_,_,rfl,HO.o.1,HO.o.2.1,HO.o.2.2.1,HO.o.2.2.2⟩
end
end
section
open Go.RowKit Lx Vx Mx Msk
def dk0:Dk:=⟨[],[],[],[],[],0,[],0⟩
def fV:Dk->List Cm->List An×Dk
 |d,[]=>([],d)
 |d,c::l=>((doP d c).1::(fV (doP d c).2 l).1,(fV (doP d c).2 l).2)
theorem EX {l:List Cm}{j:Nat}{c:Cm}(d:Dk)(h:l[j]? =some c):fV d (l.drop j)=((doP d c).1::(fV (doP d c).2 (l.drop (j+1))).1,(fV (doP d c).2 (l.drop (j+1))).2):=by
 obtain⟨h1,h2⟩:=aE.1 h;rw[bq h1,h2];rfl
theorem pj: ∀(l:List Ap) (i:Nat) (d:Dk),Cor d (eN l i d).2
 |[],_,d=>Cor.refl d
 |a::l,i,d=>by
  unfold eN;split
  ·exact pj l (i+1) d
  ·exact(vy (fun x d=>r9 d x a.day) a.who d).trans (pj l (i+1) _)
theorem vA (s:Sv)(day:Int): ∀(m i:Nat) (d:Dk),Cor d (it s day m i d).2
 |0,_,d=>Cor.refl d
 |m+1,i,d=>by
  unfold it;exact(nT s _ _ 0 d).1.trans (vA s day m (i+1) _)
theorem Cor.given {d d':Dk}(h:Cor d d'):d'.given=d.given:=by
 obtain⟨_,_,rfl⟩:=h;rfl
theorem oT (d:Dk)(n:Int)(f:Ap->Dk->(Ap×Int)×Dk)(hf: ∀a d,Cor d (f a d).2):(ib d n f).2.given=d.given:=by
 unfold ib;dsimp only;repeat' split
 ·rfl
 ·exact(hf _ d).given
 ·exact(hf _ d).given
theorem Hk (d:Dk)(c:Cm):(doP d c).2.given<=d.given+1:=by
 have le: ∀{x:Int},x=d.given->x<=d.given+1:=fun h=>by omega
 unfold doP;split
 ·unfold mT;split
  ·exact le rfl
  ·exact Int.le_of_eq (pj _ 0 _).given
 ·split
  ·unfold qR;repeat' split
   all_goals exact le rfl
  ·split
   ·unfold qS;repeat' split
    all_goals exact le rfl
   ·split
    ·unfold jk;dsimp only;repeat' split
     all_goals first|exact le rfl|exact le (vA _ _ _ 0 d).given
    ·split
     ·unfold lh;dsimp only;repeat' split
      all_goals first|exact le rfl|exact le (lN d _ _ _ _ _).given
     ·split
      ·exact le (oT d _ _ fun a d=>Cor.refl d)
      ·split
       ·exact le (oT d _ _ fun a d=>Cor.refl d)
       ·split
        ·exact le (oT d _ _ fun a d=>lN d _ a _ _ _)
        ·split
         ·unfold qB;split;all_goals exact le rfl
         ·exact le rfl
structure mV (w:World)(c:Cm)(rv wv:Value):Prop where
 roles:ft w rv c.sv.roles
 who:dy w wv c.swho
 text:c.text.length<=9223372036854775807
 name:c.name.length<=9223372036854775807
 cap: ∀p n k,wv= .slice p n k->n<=k
theorem mV.below {w w':World}{c:Cm}{rv wv:Value}(h:mV w c rv wv)(hb:Below w.heap.size w w'):mV w' c rv wv:=⟨h.roles.below hb,h.who.below hb,h.text,h.name,h.cap⟩
def mW (w:World)(v:Value)(cs:List (Cm×Value×Value)):Prop:= ∃p k,v= .slice p cs.length k/\cs.length<9223372036854775808/\ ∀(j:Nat) (q:Cm×Value×Value),cs[j]? =some q->mV w q.1 q.2.1 q.2.2/\ ∃g o:Nat,p=some ⟨g,o,none⟩/\w.rangeAt g (o+j*13) (doC q.1 q.2.1 q.2.2).toList
theorem mW.below {w w':World}{v:Value}{cs:List (Cm×Value×Value)}(h:mW w v cs)(hb:Below w.heap.size w w'):mW w' v cs:=by
 obtain⟨p,k,h1,h2,h3⟩:=h;refine⟨p,k,h1,h2,fun j q hj=> ?_⟩;obtain⟨a,g,o,b,c⟩:=h3 j q hj;exact⟨a.below hb,g,o,b,fX c hb⟩
theorem CB {w u:World}{v:Value}{ns:List Int}(h:dy w v ns)(hu: ∀q,q<w.heap.size->u.heap[q]? =w.heap[q]?):dy u v ns:=by
 obtain⟨p,c,h1,h2,h3⟩:=h;refine⟨p,c,h1,h2,fun j x hj=> ?_⟩;obtain⟨g,o,e,hc⟩:=h3 j x hj;exact⟨g,o,e,(dY (hu g (bJ hc))).trans hc⟩
def EY (c:Cm):Prop:= ∀(B gD:Nat) (d:Dk) (t:Tr) (w:World) (pr pw:Option Addr) (kr kw:Nat),dm B gD d t w->Tbs B w->B<=w.heap.size->d.given+1<=1000000->EU w t.xs->mV w c (.slice pr c.sv.roles.length kr) (.slice pw c.swho.length kw)->Rob (fun q=>q<B) (fun u=>dy u (.slice pw c.swho.length kw) c.swho) w->Calls prog 10 #[ab gD 0,.agg (doC c (.slice pr c.sv.roles.length kr) (.slice pw c.swho.length kw))] w (qg B gD (doP d c) t w)
theorem Hl (c:Cm)(hk: ¬(5<=c.kind/\c.kind<=8)):EY c:=fun _ _ _ _ w pr pw kr kw h hT hB hg hx hc _=>LH c pr pw kr kw w h hc.text hT hB hg hx hc.name hc.roles hk
theorem xn:tm dk0:=⟨by decide,rfl,by decide,by decide,by decide,by decide,by decide,(fun x hx=>by cases hx),(fun x hx=>by cases hx),(fun x hx=>by cases hx)⟩
theorem MZ {B gD:Nat}{xs:List Nat}{w:World}(hB:B<=gD)(hx: ∀q∈xs,q<w.heap.size/\B<=q/\q≠gD)(h:w.heap[gD]? =ah #[af,af,af,af,af,af,ag 0,af,ag 0] 55):dm B gD dk0 ⟨af,af,af,xs⟩ w:=
 ⟨xn,af,af,af,af,[],[],h,hB,fun u _ _=>⟨[],⟨.inl ⟨rfl,none,0,rfl⟩,by simp,fun p hp=>by cases hp⟩,rfl⟩,fun u _ _=>⟨[],⟨none,0,rfl,by simp,fun j u hj=>by simp at hj⟩,rfl⟩,bQ _ _,fun u _ _=>⟨none,0,rfl,az _,by unfold maxLen;omega,fun h=>absurd rfl h⟩,cj _ _ _ _,cj _ _ _ _,rfl,(fun p hp=>by cases hp),cj _ _ _ _,rfl,(fun p hp=>by cases hp),fun q hq=>⟨(hx q hq).1,(hx q hq).2.1,(hx q hq).2.2,nofun,nofun,nofun⟩⟩
end
section
open Go.RowKit Lx Vx Msk
theorem qU {E:Nat->Int}: ∀(m i:Nat),(∀j,i<=j->j<i+m->E j=0)->gg E m i=(0,0)
 |0,_,_=>rfl
 |m+1,i,h=>by
  simp only[gg];rw[au (by simpa using h i (az _) (by omega)),qU m (i+1) fun j h1 h2=>h j (by omega) (by omega)]
theorem CC {cs:List Cd}(h:lU cs):jt cs=(0,0):=by
 have e1:gg (fun i=>aloneE (cs.getD i cd0) cs.length) cs.length 0=(0,0):=qU _ _ fun j _ hj=>by
  have hx:cs[j]? =some (cs[j]'(by omega)):=ax (by omega);rw[iO hx];exact h.alone j _ hx
 have e2:gg (oY cs) cs.length 0=(0,0):=qU _ _ fun j _ hj=>by
  have hx:cs[j]? =some (cs[j]'(by omega)):=ax (by omega);unfold oY;rw[au (by rw[h.cyc j (by omega)];simp),iO hx,ay (ny.2 (h.fit j _ hx))]
 have hl:=h.len;unfold jt;rw[au (by omega),e1,au (by simp),e2]
theorem zl {n r:Nat}: ∀(l:List In) (k:Nat),(∀j x,l[j]? =some x->fB x (k+j) n r=0)->oM l k n r=0
 |[],_,_=>rfl
 |x::l,k,h=>by
  have h0:=h 0 x rfl;rw[Nat.add_zero]at h0;simp only[oM];rw[au (by simpa using h0)]
  exact zl l (k+1) fun j y hy=>by
   have:=h (j+1) y (by simpa using hy);rw[show k+(j+1)=k+1+j by omega]at this;exact this
theorem qD {E:Nat->Nat->Bool}{ρ:Nat->Nat}(h: ∀i k,E i k=true->ρ k<ρ i): ∀(m i k:Nat),Vx.wars E m i k=true->ρ k<ρ i
 |0,i,k,hw=>h i k hw
 |m+1,i,k,hw=>by
  simp only[Vx.wars,gV,bv]at hw;rcases hw with hw|⟨h1,h2⟩
  ·exact qD h m i k hw
  ·have a:=qD h m i m h1;have b:=qD h m m k h2;omega
theorem BG {m:Nat->Int×Int}: ∀(k j:Nat),¬0<=jG m k j-> ∀i,j<=i->i<j+k->mP (m i)=false
 |0,_,_,i,h1,h2=>by omega
 |k+1,j,h,i,h1,h2=>by
  simp only[jG]at h;by_cases hm:mP (m j)=true
  ·rw[ay hm]at h;omega
  ·rw[au hm]at h;by_cases e:i=j
   ·subst e;simpa using hm
   ·exact BG k (j+1) h i (by omega) (by omega)
theorem um {l:List Ru}(h:(ie l).1=0):(dj l).1=0/\ ∀i,i<l.length->mP (fR l i)=false:=by
 unfold ie at h;by_cases h0:(dj l).1≠0
 ·rw[ay h0]at h;exact absurd h h0
 ·rw[au h0]at h;refine⟨by simpa using h0,?_⟩;by_cases h1:0<=jG (fR l) l.length 0
  ·rw[ay h1]at h;exact absurd h (by show¬(4:Int)=0;omega)
  ·intro i hi;exact BG _ _ h1 i (dW _) (by omega)
theorem vB (l:List Ru):(eE l).length=l.length:=by unfold eE;rw[tb,mr]
theorem xU {l:List Ru}{i:Nat}(hi:i<l.length):(eE l)[i]? =some ⟨(fz l).getD i [],(fR l i).1,(fR l i).2⟩:=by
 unfold eE eD;rw[a8,List.getElem?_range (by rw[mr];exact hi)];rfl
theorem sa {l:List Ru}(h:(dj l).1=0){i:Nat}(hi:i<l.length):lH ((fz l).getD i [])/\ ∀j x,((fz l).getD i [])[j]? =some x->fB x j ((fz l).getD i []).length l.length=0:=by
 have hu:l[i]? =some l[i]:=ax hi;have hm:=aK hu;rw[mi hu];exact GO ((qf h).2 _ hm).ok fun x hx=>⟨(rA h hm hx).1,(rA h hm hx).2.1⟩
theorem Hm {l:List Ru}(h:(ie l).1=0):lU (eE l):=by
 obtain⟨hc,hm⟩:=um h;have hlen:=vB l
 have at_: ∀{i:Nat} {c:Cd},(eE l)[i]? =some c->i<l.length/\c=⟨(fz l).getD i [],(fR l i).1,(fR l i).2⟩:=fun {i c} hx=>by
  have hi:i<l.length:=(by rw[<-hlen];exact(aE.1 hx).1);rw[xU hi]at hx;exact⟨hi,(aL hx).symm⟩
 have lim: ∀i,i<l.length->mxH (eE l) ((fz l).getD i []) ((fz l).getD i []).length=(fR l i).1/\stS (eE l) ((fz l).getD i []) ((fz l).getD i []).length=(fR l i).2/\1<=(fR l i).1/\(fR l i).1<=100/\1<=(fR l i).2/\(fR l i).2<=20000:=fun i hi=>by
  have e:=ui hc hi;have hno:=hm i hi;unfold mP at hno;rw[Bool.or_eq_false_iff,decide_eq_false_iff_not,decide_eq_false_iff_not]at hno;have e1:(fR l i).1=min (mxH (eE l) ((fz l).getD i []) ((fz l).getD i []).length) 101:=congrArg Prod.fst e;have e2:(fR l i).2=min (stS (eE l) ((fz l).getD i []) ((fz l).getD i []).length) 20001:=congrArg Prod.snd e;have hp:=Br hc hi;have hf:=(sa hc hi).1.fin;have ht:=Gc (eE l) ((fz l).getD i []) ((fz l).getD i []).length;omega
 refine⟨by rw[hlen];exact(qf hc).1,fun i c hx=> ?_,fun i hi=> ?_,fun i c hx=> ?_⟩
 ·obtain⟨hi,rfl⟩:=at_ hx;have hb:=vo hc hi;have hl:=lim i hi;unfold aloneE;rw[au (by intro q;exact q ⟨hb.1,ba hb.2 (by omega)⟩),au (by intro q;exact q ⟨⟨hl.2.2.1,hl.2.2.2.1⟩,hl.2.2.2.2⟩)];refine zl _ _ fun j x hjx=> ?_;rw[bN,hlen];exact(sa hc hi).2 j x hjx
 ·cases hw:Vx.wars (fQ (eE l)) (eE l).length i i with
  |false=>rfl
  |true=>
   have:=qD (ρ:=muR l) (E:=fQ (eE l)) (fun i k hE=>by
    unfold fQ at hE;rw[List.any_eq_true]at hE;obtain⟨x,hx,hxp⟩:=hE;rw[bv,bU,bU]at hxp;by_cases hi:i<l.length
    ·have hxc:(eE l).getD i cd0=⟨(fz l).getD i [],(fR l i).1,(fR l i).2⟩:=iO (xU hi);rw[hxc]at hx;obtain⟨j,hj,hjx⟩:=List.mem_iff_getElem.1 hx;have hjx':((fz l).getD i [])[j]? =some x:=(by rw[ax hj];exact congrArg some hjx);have:=((qP hc).lt i j x (by rw[mr];exact hi) hjx' hxp.1).2.2;rw[hxp.2,bV]at this;exact this
    ·have:(eE l).getD i cd0=cd0:=by
      have:(eE l)[i]? =none:=eI (by rw[hlen];omega);simp[List.getD,this]
     rw[this]at hx;cases hx) _ i i hw
   omega
 ·obtain⟨hi,rfl⟩:=at_ hx;have hl:=lim i hi;exact⟨(sa hc hi).1,hl.1,hl.2.1⟩
end
section
open Go.RowKit Lx Vx Msk
theorem Dj {wk:Int->Bool}{day:Int}{env:List UInt8->Nat->Bool}(he: ∀x (i:Nat),1440<=i->env x i=false): ∀(N:Nat) (e:Ex),SizeOf.sizeOf e<=N-> ∀(i:Nat),1440<=i->fc wk day env e i=false
 |0,e,hN,_,_=>by cases e;simp at hN
 |N+1,e,hN,i,hi=>by
  have hk: ∀j,(e.kids.map (fc wk day env)).getD j nev i=false:=fun j=>by
   cases hj:e.kids[j]? with
   |none=>simp[List.getD,hj,nev]
   |some k=>
    have hm:=aK hj;have:=Dj (wk:=wk) (day:=day) he N k (by have:=iC hm;omega) i hi;simpa[List.getD,a8,hj] using this
  have hd:decide (i<1440)=false:=(by simp;omega);rw[jh];unfold mf;split
  ·exact hd
  split
  ·simp[hd]
  split
  ·split
   ·exact hk 0
   ·rfl
  split
  ·split
   ·exact hk 0
   ·rfl
  split
  ·simp[hd]
  split
  ·simp[hd]
  split
  ·simp[hd]
  split
  ·unfold shf;simp[hd]
  split
  ·exact he _ i hi
  ·rfl
theorem M2 (e:Ex){i:Nat}(hi:1440<=i):mnE e i=false:=Dj (fun _ _ _=>rfl) _ e (az _) i hi
theorem M4 {f:Nat->Bool}(h: ∀i:Nat,1440<=i->f i=false):spM (rs f 1440)=f:=by
 funext i;unfold spM;by_cases hi:i<1440
 ·have:=(C5 f 1440).has i hi;simpa[hi] using this
 ·rw[h i (by omega)];have hd:decide (i<1440)=false:=(by simp;omega);simp[hd]
section
variable {wk:Int->Bool} {day:Int} {ev:Nat->M×Nat} {l:List In} {num:List UInt8->Int} {env:List UInt8->Nat->Bool} {x:In} {s:Vx.St}
theorem Ow (ho:x.op=1):dC wk day ev x s=⟨s.k+1,s.S++[spM x.sp],s.n+1⟩:=by simp[dC,ho]
theorem Ox (ho:x.op=2):dC wk day ev x s=⟨s.k+1,mz unM s.S,s.n+1⟩:=by simp[dC,ho]
theorem Oy (ho:x.op=3):dC wk day ev x s=⟨s.k+1,mz dfM s.S,s.n+1⟩:=by simp[dC,ho]
theorem Oz (ho:x.op=4):dC wk day ev x s=⟨s.k+1,mz boM s.S,s.n+1⟩:=by simp[dC,ho]
theorem OA (ho:x.op=5):dC wk day ev x s=⟨s.k+1,xI (fun f=>shM f x.a) s.S,s.n+1⟩:=by simp[dC,ho]
theorem OB (ho:x.op=8):dC wk day ev x s=⟨s.k+1,s.S++[(ev x.a.toNat).1],s.n+1+(ev x.a.toNat).2⟩:=by simp[dC,ho]
theorem NZ (ho:x.op=6\/x.op=7)(hd:onD wk day x=true):dC wk day ev x s=⟨s.k+1,s.S,s.n+1⟩:=by
 unfold dC;rw[au (by omega),au (by omega),au (by omega),au (by omega),au (by omega),au (by omega),ay hd]
theorem M5 (ho:x.op=6\/x.op=7)(hd: ¬onD wk day x=true):dC wk day ev x s=⟨x.to.toNat,s.S++[noM],s.n+1⟩:=by
 unfold dC;rw[au (by omega),au (by omega),au (by omega),au (by omega),au (by omega),au (by omega),au hd]
theorem zn (hu:Up wk day ev l){b ln:Nat}{S:List M}{n:Nat}{v:M}(hx:l[b]? =some x)(ho:x.op=6\/x.op=7)(hto:x.to=((b+1+ln:Nat):Int))(hk: ∃n',runV wk day ev l ⟨b+1,S,n+1⟩=runV wk day ev l ⟨b+1+ln,S++[v],n'⟩):
  ∃n',runV wk day ev l ⟨b,S,n⟩=runV wk day ev l ⟨b+(ln+1),S++[if onD wk day x=true then v else nev],n'⟩:=by
 rw[lx hu (s:=⟨b,S,n⟩) hx,show b+(ln+1)=b+1+ln by omega];by_cases hd:onD wk day x=true
 ·rw[ay hd,NZ ho hd];exact hk
 ·rw[au hd,M5 ho hd,hto,bV];exact⟨n+1,rfl⟩
theorem Dl (hu:Up wk day ev l): ∀(N:Nat) (e:Ex),SizeOf.sizeOf e<=N->OKE e->(∀x∈nms e,(ev (num x).toNat).1=env x)-> ∀(b:Nat) (S:List M) (n:Nat),jK l b (bK num e b)-> ∃n',runV wk day ev l ⟨b,S,n⟩=runV wk day ev l ⟨b+(bK num e b).length,S++[fc wk day env e],n'⟩
 |0,e,hN,_,_,_,_,_,_=>by cases e;simp at hN
 |N+1,e,hN,h,hn,b,S,n,hs=>by
  have ih: ∀k∈e.kids,∀(b:Nat) (S:List M) (n:Nat),jK l b (bK num k b)-> ∃n',runV wk day ev l ⟨b,S,n⟩=runV wk day ev l ⟨b+(bK num k b).length,S++[fc wk day env k],n'⟩:=fun k hk=>Dl hu N k (by have:=iC hk;omega) (h.kid hk) (fun x hx=>hn x (ud hk hx));cases hstd:stdE e with
  |true=>
   rw[nL hstd]at hs⊢;rw[lx hu (s:=⟨b,S,n⟩) hs.one,Bo hstd,Ow rfl];refine⟨n+1,?_⟩;rw[M4 (fun i hi=>M2 e hi)];rfl
  |false=>
   rcases mM h hstd with⟨q,k,hk⟩|⟨q,k,hk⟩|⟨q,k,hk⟩|q|⟨q,k,m,hk⟩
   ·have hm:k∈e.kids:=(by rw[hk];simp)
    have hv:fc wk day env e=if wk e.a=true then fc wk day env k else nev:=by
     rw[jh,q,GD,hk];rfl
    rw[oG q (by rw[hk];rfl)]at hs⊢;have:=zn hu (n:=n) hs.one (.inl rfl) rfl (ih k hm (b+1) S (n+1) hs.tail);rw[show onD wk day (⟨6,e.a,0,((b+1+(bK num k (b+1)).length:Nat):Int),[]⟩:In)=wk e.a from by unfold onD;rw[ay rfl]]at this;rw[hv,bz];exact this
   ·have hm:k∈e.kids:=(by rw[hk];simp)
    have hv:fc wk day env e=if(decide (e.a<=day)&&decide (day<=e.b))=true then fc wk day env k else nev:=by
     rw[jh,q,GE,hk];by_cases hw:e.a<=day/\day<=e.b
     ·rw[ay hw,ay (by simp[hw])];rfl
     ·rw[au hw,au (by rw[bv,bU,bU];exact hw)];rfl
    rw[mL q (by rw[hk];rfl)]at hs⊢;have:=zn hu (n:=n) hs.one (.inr rfl) rfl (ih k hm (b+1) S (n+1) hs.tail);rw[show onD wk day (⟨7,e.a,e.b,((b+1+(bK num k (b+1)).length:Nat):Int),[]⟩:In)=(decide (e.a<=day)&&decide (day<=e.b)) from by unfold onD;rw[au (by show¬(7:Int)=6;omega)]]at this;rw[hv,bz];exact this
   ·have hm:k∈e.kids:=(by rw[hk];simp)
    have hv:fc wk day env e=shM (fc wk day env k) e.a:=by
     rw[jh,q,GI,hk];rfl
    rw[o6 hstd q hk]at hs⊢;obtain⟨n',e'⟩:=ih k hm b S n hs.left;rw[e',hv,lx hu (s:=⟨b+(bK num k b).length,S++[fc wk day env k],n'⟩) hs.right.one,OA rfl];refine⟨n'+1,?_⟩;rw[aN,dL,<-Nat.add_assoc,xJ]
   ·have hv:fc wk day env e=env e.name:=(by rw[jh,q,C8]);rw[oF q]at hs⊢;rw[lx hu (s:=⟨b,S,n⟩) hs.one,hv,OB rfl];refine⟨n+1+(ev (num e.name).toNat).2,?_⟩;dsimp only;rw[hn _ (ue q)];rfl
   ·have hm:k∈e.kids:=(by rw[hk];simp);have hm':m∈e.kids:=(by rw[hk];simp);rw[qz hstd q hk]at hs⊢;obtain⟨n1,e1⟩:=ih k hm b S n hs.left.left;obtain⟨n2,e2⟩:=ih m hm' (b+(bK num k b).length) (S++[fc wk day env k]) n1 hs.left.right;have hx:=hs.right.one;rw[aN,<-Nat.add_assoc]at hx
    have el:b+(bK num k b++bK num m (b+(bK num k b).length)++[(⟨opK e.kind,0,0,0,[]⟩:In)]).length=b+(bK num k b).length+(bK num m (b+(bK num k b).length)).length+1:=by
     rw[aN,aN,dL];omega
    rw[e1,e2,lx hu (s:=⟨b+(bK num k b).length+(bK num m (b+(bK num k b).length)).length,S++[fc wk day env k]++[fc wk day env m],n2⟩) hx,el];refine⟨n2+1,?_⟩;rw[dT,List.singleton_append];rcases q with q|q|q
    ·have hv:fc wk day env e=unM (fc wk day env k) (fc wk day env m):=by
      rw[jh,q,GF,hk];rfl
     rw[hv,Ox (by show opK e.kind=2;rw[q];decide)];dsimp only;rw[lI]
    ·have hv:fc wk day env e=dfM (fc wk day env k) (fc wk day env m):=by
      rw[jh,q,GG,hk];rfl
     rw[hv,Oy (by show opK e.kind=3;rw[q];decide)];dsimp only;rw[lI]
    ·have hv:fc wk day env e=boM (fc wk day env k) (fc wk day env m):=by
      rw[jh,q,GH,hk];rfl
     rw[hv,Oz (by show opK e.kind=4;rw[q];decide)];dsimp only;rw[lI]
end
theorem Dm {l:List Ru}(h:(dj l).1=0)(wk:Int->Bool)(day:Int): ∀(d i:Nat),i<l.length->muR l i<d->(evV wk day (eE l) d i).1=gY l wk day i
 |0,_,_,hd=>by omega
 |d+1,i,hi,hd=>by
  have hu0:l[i]? =some l[i]:=ax hi;have hm:=aK hu0;have hcd:(eE l).getD i cd0=⟨(fz l).getD i [],(fR l i).1,(fR l i).2⟩:=iO (xU hi);have hup:Up wk day (evV wk day (eE l) d) ((fz l).getD i []):=D9 (sa h hi).2;have hok:=((qf h).2 _ hm).ok;have hseg:jK ((fz l).getD i []) 0 (bK (atP5 l) (l[i]).2 0):=fun j _=>(by rw[mi hu0,bN])
  have hnm: ∀x∈nms (l[i]).2,(evV wk day (eE l) d (atP5 l x).toNat).1=gY l wk day (atP5 l x).toNat:=fun x hx=>by
   obtain⟨h0,h1,h2⟩:=rA h hm hx;have hlt:(atP5 l x).toNat<l.length:=(by omega);have hr:muR l (atP5 l x).toNat<muR l i:=ru h hi (by rw[pR hu0];exact dN.2 ⟨_,h2,rfl⟩);exact Dm h wk day d _ hlt (by omega)
  obtain⟨n',e'⟩:=Dl (env:=fun x=>gY l wk day (atP5 l x).toNat) hup _ _ (az _) hok hnm 0 [] 0 hseg;rw[evV,hcd];dsimp only;rw[e',uW (by dsimp only;rw[bN,mi hu0])];show fc wk day _ _=_;rw[nK h hu0]
theorem LI (day:Int):eh day=wkB day:=rfl
end
end Go.Proofs.YtkfidffapdhbhaaGreatDoor
