/- Texts of the proof. -/
import Derived.Test.YtjkilacmkbmmbaaGreatDoorPe31
set_option maxRecDepth 100000
set_option maxHeartbeats 8000000
namespace Go.Proofs.YtjkilacmkbmmbaaGreatDoor
open Go.Proofs.Tryz Go.RowKit Lx Vx Mx Msk
section
section
variable {B gD:Nat} {d:Dk} {t:Tr}
theorem IC (n day days:Int)(w:World)(h:dE B gD d t w)(hT: ∀W,Below B w W->Tab W)(hBw:B<=w.heap.size):Calls prog 50 #[ab gD 0,ag n,ag day,ag days] w (tR B gD (jS d n day days) t w):=by
 obtain⟨wA,hA,bA,nA⟩:=nb w #[ag 0,ag 0,ag 0,ag 0,af,af] 28;have hsA:wA.heap.size=w.heap.size+1:=by rw[<-hA];simp
 have hdA:=h.opened (aA _) hsA bA;have HD1:=aD hdA;have HK1:P3 (Kd gD t t w wA):=Kd.of bA;have H0:=aD h;obtain⟨hok,rv,cv,vv,kv,ss,aa,hm⟩:=hdA;have hss:ss.length=d.svs.length:=by rw[<-hm.sve,aZ]
 obtain⟨ps,cs,hsv⟩:=bU hm.svs;obtain⟨ns,hns⟩:=aq ss.length;rw[hns]at hsv;have z2:wA.cell? (ae gD 2)=some (.slice ps ns cs):=(cr (v:=t.sv) 2 hm.blk rfl).trans (congrArg some hsv);have HNS:P3 (d.svs.length=ns):=by show _=_;rw[<-hss,hns]
 have HSS:=aD hns;have HSV:P3 (t.sv= .slice ps ns cs):=hsv;have HM:=aD hm;have HOK:=aD hok;have HT:=aD hT;have n1:=nA;have cN1:=rR n (ns:Int) wA;have cN2:=rR day 146097 wA;obtain⟨b1,hb1⟩:=aq (isN n (ns:Int));obtain⟨b2,hb2⟩:=aq (isN day 146097);rw[hb1]at cN1;rw[hb2]at cN2;have HB1:=aD hb1;have HB2:=aD hb2;have HBW:=aD hBw;clear h hm hok hss hsv hns hT hb1 hb2 nA hsA hBw;go_enter func50,ntmps50;go_wp2_with fail;refine cN1.mono ?_;rintro e w1 ⟨rfl,hw1⟩;subst hw1;clear cN1;cases b1 with
 |false=>
  have HP:P3 (jS d n day days=(noA 6,d)):=(by show _=_;unfold jS;rw[HNS.o,ay HB1.o]);clear cN2 hA z2 bA;have cR:=fY 6 w1;go_wp2_with fail;refine cR.mono ?_;rintro e w9 ⟨rfl,b9⟩;have n9:=bt b9 n1;have HO:=aD (gC (HD1.o.below b9) (HK1.o.trans (Kd.of b9)) (aA _) (anC (noA 6) (af) (af)));have HR:=aD (aJ _ _ _ (anC (noA 6) (af) (af)) _ _ n9);clear cR b9 n1;go_wp2_with(refine az rfl 28 _ _ rfl _ _ rfl rfl _ _ n9 (by kernel_rfl) rfl (by simp[anC,noA,Value.oneCell']) ?_)
  refine aU (v:= .agg (anC (noA 6) (af) (af))) ?_ rfl ?_
  ·exact a8 rfl _ _ w.heap.size _ _ _ _ rfl HR.o anT rfl (by kernel_rfl)
  ·rw[HP.o];exact⟨t,_,_,rfl,HO.o.1,HO.o.2,gg _ _,eE _ _⟩
 |true=>
  go_wp2_with fail;refine cN2.mono ?_;rintro e w2 ⟨rfl,hw2⟩;subst hw2;clear cN2;cases b2 with
  |false=>
   have HP:P3 (jS d n day days=(noA 3,d)):=(by show _=_;unfold jS;rw[HNS.o,aw (by rw[HB1.o];simp),ay (.inl HB2.o)]);clear hA z2 bA;have cR:=fY 3 w2;go_wp2_with fail;refine cR.mono ?_;rintro e w9 ⟨rfl,b9⟩;have n9:=bt b9 n1;have HO:=aD (gC (HD1.o.below b9) (HK1.o.trans (Kd.of b9)) (aA _) (anC (noA 3) (af) (af)));have HR:=aD (aJ _ _ _ (anC (noA 3) (af) (af)) _ _ n9);clear cR b9 n1;go_wp2_with(refine az rfl 28 _ _ rfl _ _ rfl rfl _ _ n9 (by kernel_rfl) rfl (by simp[anC,noA,Value.oneCell']) ?_)
   refine aU (v:= .agg (anC (noA 3) (af) (af))) ?_ rfl ?_
   ·exact a8 rfl _ _ w.heap.size _ _ _ _ rfl HR.o anT rfl (by kernel_rfl)
   ·rw[HP.o];exact⟨t,_,_,rfl,HO.o.1,HO.o.2,gg _ _,eE _ _⟩
  |true=>
   have hday:0<=day/\day<146097:=(by have:=HB2.o;simpa[isN] using this);by_cases h1:days<1
   ·have HP:P3 (jS d n day days=(noA 3,d)):=(by show _=_;unfold jS;rw[HNS.o,aw (by rw[HB1.o];simp),ay (.inr (.inl h1))]);clear hA z2 bA;have cR:=fY 3 w2;go_wp2_with fail;refine cR.mono ?_;rintro e w9 ⟨rfl,b9⟩;have n9:=bt b9 n1;have HO:=aD (gC (HD1.o.below b9) (HK1.o.trans (Kd.of b9)) (aA _) (anC (noA 3) (af) (af)));have HR:=aD (aJ _ _ _ (anC (noA 3) (af) (af)) _ _ n9);clear cR b9 n1;go_wp2_with(refine az rfl 28 _ _ rfl _ _ rfl rfl _ _ n9 (by kernel_rfl) rfl (by simp[anC,noA,Value.oneCell']) ?_)
    refine aU (v:= .agg (anC (noA 3) (af) (af))) ?_ rfl ?_
    ·exact a8 rfl _ _ w.heap.size _ _ _ _ rfl HR.o anT rfl (by kernel_rfl)
    ·rw[HP.o];exact⟨t,_,_,rfl,HO.o.1,HO.o.2,gg _ _,eE _ _⟩
   ·by_cases h2:30<days
    ·have HP:P3 (jS d n day days=(noA 3,d)):=(by show _=_;unfold jS;rw[HNS.o,aw (by rw[HB1.o];simp),ay (.inr (.inr (.inl h2)))]);clear hA z2 bA;have cR:=fY 3 w2;go_wp2_with fail;refine cR.mono ?_;rintro e w9 ⟨rfl,b9⟩;have n9:=bt b9 n1;have HO:=aD (gC (HD1.o.below b9) (HK1.o.trans (Kd.of b9)) (aA _) (anC (noA 3) (af) (af)));have HR:=aD (aJ _ _ _ (anC (noA 3) (af) (af)) _ _ n9);clear cR b9 n1;go_wp2_with(refine az rfl 28 _ _ rfl _ _ rfl rfl _ _ n9 (by kernel_rfl) rfl (by simp[anC,noA,Value.oneCell']) ?_)
     refine aU (v:= .agg (anC (noA 3) (af) (af))) ?_ rfl ?_
     ·exact a8 rfl _ _ w.heap.size _ _ _ _ rfl HR.o anT rfl (by kernel_rfl)
     ·rw[HP.o];exact⟨t,_,_,rfl,HO.o.1,HO.o.2,gg _ _,eE _ _⟩
    ·have hwr:IntKind.i64.wrap (day+days)=day+days:=(by rw[bG];omega);by_cases h3:146097<day+days
     ·have HP:P3 (jS d n day days=(noA 3,d)):=(by show _=_;unfold jS;rw[HNS.o,aw (by rw[HB1.o];simp),ay (.inr (.inr (.inr h3)))]);clear hA z2 bA;have cR:=fY 3 w2;go_wp2_with fail;refine cR.mono ?_;rintro e w9 ⟨rfl,b9⟩;have n9:=bt b9 n1;have HO:=aD (gC (HD1.o.below b9) (HK1.o.trans (Kd.of b9)) (aA _) (anC (noA 3) (af) (af)));have HR:=aD (aJ _ _ _ (anC (noA 3) (af) (af)) _ _ n9);clear cR b9 n1;go_wp2_with(refine az rfl 28 _ _ rfl _ _ rfl rfl _ _ n9 (by kernel_rfl) rfl (by simp[anC,noA,Value.oneCell']) ?_)
      refine aU (v:= .agg (anC (noA 3) (af) (af))) ?_ rfl ?_
      ·exact a8 rfl _ _ w.heap.size _ _ _ _ rfl HR.o anT rfl (by kernel_rfl)
      ·rw[HP.o];exact⟨t,_,_,rfl,HO.o.1,HO.o.2,gg _ _,eE _ _⟩
     ·have hn:0<=n/\n<(ns:Int):=(by have:=HB1.o;simpa[isN] using this);obtain⟨k,rfl⟩: ∃k:Nat,n=(k:Int):=⟨n.toNat,by omega⟩
      have hks:k<ss.length:=(by rw[HSS.o];omega);have hk0:(0:Int)<=(k:Int):=(by omega);have hkn:(k:Int)<(ns:Int):=hn.2;obtain⟨⟨s,sv⟩,hsk⟩: ∃q,ss[k]? =some q:=⟨ss[k],ax hks⟩
      have hsd:d.svs[k]? =some s:=(by rw[<-HM.o.sve,bg,hsk];rfl);have hrb:=HM.o.svr _ (aM hsk);obtain⟨pr,crr,hse,_,_⟩:=hrb.here;dsimp only at hse hrb;subst hse;obtain⟨gs,cs',e1,_,hrg⟩:=lI vX HM.o.svs rfl hsk;have e0:Value.slice ps ns cs= .slice (some (ae gs 0)) ns cs':=(by rw[<-HSV.o,<-HSS.o];exact e1);injection e0 with e2 e3 e4;subst e2 e4;obtain⟨m,rfl⟩: ∃m:Nat,days=(m:Int):=⟨days.toNat,by omega⟩
      obtain⟨wZ,wB,hZ,nZ,hB,bB,nB⟩:=nbs w2 #[ag 0,ag 0,ag 0,af] (svC (s,.slice pr s.roles.length crr)) 35;have hdB:=HD1.o.below bB;have n1B:=bt bB n1
      have HFD:P3 (jS d (k:Int) day (m:Int)=(if(findP s (jq s day m 0 d).1).err≠0 then(noA (findP s (jq s day m 0 d).1).err,(jq s day m 0 d).2) else(⟨0,0,(findP s (jq s day m 0 d).1).day+day,(findP s (jq s day m 0 d).1).min,(findP s (jq s day m 0 d).1).who,[]⟩,(jq s day m 0 d).2))):=by
       show _=_;have:d.svs.getD k sv0=s:=(by simp[List.getD,hsd]);unfold jS
       rw[HNS.o,aw (by rw[HB1.o];simp),aw (fun h=>by
        rcases h with h|h|h|h
        ·rw[HB2.o]at h;cases h
        ·omega
        ·omega
        ·omega)]
       simp only[cg,this]
      have HRB:=aD (hrb.below bB);have HDB:=aD hdB;have HKB:=aD (HK1.o.trans (Kd.of bB));have HG:P3 (∀q,w.heap.size<=q->Gx gD t q):=fun q hq=>(H0.o.fx (.inr hq)).1;have HSM:=aD (vu (HOK.o.sv s (aM hsd)));obtain⟨nr,hnr⟩:=aq d.res.length;have hnr12:nr<=12:=(by rw[<-hnr];exact HOK.o.rl);have HNR:=aD hnr;have hww:w.heap.size<=wB.heap.size:=HKB.o.size;have hw2w:w.heap.size<=w2.heap.size:=HK1.o.size;have hm30:m<=30:=(by omega);have hdm:day+(m:Int)<=146097:=(by omega);have hwlt:=aF n1B;have hw2l:=aF nB;clear hA bA hn hks hsk hsd hrb e1 e3 hdB hnr n1 bB HB1 HB2 HNS HSS HSV HM HD1 HK1;go_wp2_with(first|(refine wpList_load_mid rfl 35 _ rfl gs (k*4) rfl (svC (s,.slice pr s.roles.length crr)).toList _ hrg svT rfl (by kernel_rfl) ?_)|(refine az rfl 35 _ _ rfl _ _ rfl rfl _ _ nZ (by kernel_rfl) rfl (uL _ _ _ _) ?_;rw[hB]))
      clear z2 hrg hZ nZ hB hwr h1 h2 h3;go_loopw [10,11,51] (fun v _ q wr=> ∃(j:Nat) (dd:Dk) (L:List Nat) (ms:List (List (Nat->Bool))) (vs:List Value),q=ag (j:Int)/\j<=m/\Cor d dd/\dE B gD dd ((t.add w.heap.size).ad L) wr/\(∀b,v.ownBlock=some b->b∈L)/\(∀b∈L,wB.heap.size<=b)/\Kd gD t t wB wr/\wr.ownsRow wB.heap.size 55 1 v j vs/\ms.length=j/\(∀(i:Nat) (fs:List (Nat->Bool)) (u:Value),ms[i]? =some fs->vs[i]? =some u->fs.length=nr/\wr.ownsRow wB.heap.size 61 23 u nr (mkF fs))/\jq s day m 0 d=(ms++(jq s day (m-j) j dd).1,(jq s day (m-j) j dd).2)) (fun _ _ q _=>m-(intOf q).toNat);case atStart=>exact⟨0,d,[],[],[],rfl,by omega,Cor.refl d,HDB.o,(fun b hb=>by cases hb),(fun b hb=>by cases hb),Kd.of (aG _ _),bV _ _ _ _,rfl,(fun i fs u hi=>by simp at hi),rfl⟩
      case round=>
       obtain⟨j,dd,L,ms,vs,rfl,hj,hco,hd,hLb,hLl,hk,hown,hms,hel,hX⟩:=hrel;have hj0:(0:Int)<=(j:Int):=(by omega);have hcr:dd.res=d.res:=(by obtain⟨_,_,rfl⟩:=hco;rfl);by_cases hjm:j<m
       ·have hjm':(j:Int)<(m:Int):=(by omega);rw[Iz s day hjm,hcr,HNR.o]at hX;have hbx:=(hk.blk _ (HG.o w2.heap.size (by omega)) hw2l).trans nB
        have hrW:Rob (Fx gD ((t.add w.heap.size).ad L)) (fun u=>fo u (.slice pr s.roles.length crr) s.roles) wr:=HRB.o.move hk.size (fun q hq hl=>hk.blk q hq.1 hl) fun q hl hq=>⟨hq.1,fun hx=>by
         rcases bJ.1 hx with hx|hx
         ·have:=hLl q hx;omega
         ·exact hq.2 hx⟩
        have cF:=Di s pr crr (day+(j:Int)) wr hd hrW;rw[hcr,HNR.o]at cF;have hwj:IntKind.i64.wrap (day+(j:Int))=day+(j:Int):=(by rw[bG];omega);obtain⟨fs,hfs⟩:=aq ((ij s (day+(j:Int)) nr 0 dd).1);obtain⟨de,hde⟩:=aq ((ij s (day+(j:Int)) nr 0 dd).2)
        have HFC:P3 (Cor d de/\fs.length=nr):=by
         have:=om s (day+(j:Int)) nr 0 dd;rw[hfs,hde]at this;exact⟨hco.trans this.1,this.2⟩
        rw[hfs,hde]at cF hX
        have HX:P3 (jq s day m 0 d=((ms++[fs])++(jq s day (m-(j+1)) (j+1) de).1,(jq s day (m-(j+1)) (j+1) de).2)):=by
         show _=_;rw[hX,dm];rfl
        have HOW:=aD hown;have HEL:=aD hel;have HLB:=aD hLb;have HLL:=aD hLl;have HK:=aD hk;have HMS:=aD hms;have hwsz:wB.heap.size<=wr.heap.size:=hk.size;clear hX hfs hde hown hel hLb hLl hk hms hco hcr hd hrW;go_wp2_with(refine aR rfl 35 _ rfl _ rfl _ _ _ _ hbx svT rfl (by kernel_rfl) ?_)
        refine cF.mono ?_;rintro e w3 ⟨gm,rfl,hgm,hom,hd3,hk3⟩;have hk3':Kd gD t t wr w3:=⟨hk3.os,hk3.tape,hk3.output,hk3.size,hk3.blk,fun _ _ h=>h,rfl⟩
        obtain⟨wC,hC,bC,nC⟩:=nb w3 #[.slice (some (ae gm 0)) nr nr] 55;have keep: ∀{e s n:Nat} {u:Value} {xs:List Value},wr.ownsRow wB.heap.size e s u n xs->wC.ownsRow wB.heap.size e s u n xs:=fun hr=>bp hr fun b hq=>(bC.block b (aO (hr.lt b hq).2 hk3.size)).trans (hk3.blk b (HG.o b (by have:=(hr.lt b hq).1;omega)) (hr.lt b hq).2);have hoC:=keep HOW.o;have hdC:=hd3.below bC;have HKC:=aD (HK.o.trans (hk3'.trans (Kd.of bC)))
        have HOM:P3 (wC.ownsRow wB.heap.size 61 23 (.slice (some (ae gm 0)) nr nr) nr (mkF fs)):=by
         have h1:=bp hom fun b hq=>bC.block b (hom.lt b hq).2;exact⟨h1.1,h1.2.imp id fun⟨g,c,cu,q1,q2,q3⟩=>⟨g,c,cu,q1,a6 hwsz q2,q3⟩⟩
        have HEC:P3 (∀(i:Nat) (fs:List (Nat->Bool)) (u:Value),ms[i]? =some fs->vs[i]? =some u->fs.length=nr/\wC.ownsRow wB.heap.size 61 23 u nr (mkF fs)):=fun i fs u h1 h2=>⟨(HEL.o i fs u h1 h2).1,keep (HEL.o i fs u h1 h2).2⟩
        have HDC:=aD hdC;have hwC:wB.heap.size<=wC.heap.size:=HKC.o.size;clear cF hbx hk3 hk3' hd3 hom keep bC hdC HK HEL hgm;go_wp2_with(at_builtin;refine ik rfl _ _ 154 55 rfl MW Ol rfl (by decide) (by decide) rfl hoC rfl nC rfl (by simp[Value.oneCell']) (by omega) hwC ?_)
        rintro v2 w4 ho4 hgr hbl g4 c4 rfl;obtain⟨L',hd4,hL4,hL5,_⟩:=HDC.o.grown hoC HLB.o hgr ho4 hbl;have hk4:Kd gD t t wB w4:=⟨hgr.os.trans HKC.o.os,hgr.tape.trans HKC.o.tape,hgr.output.trans HKC.o.output,a6 HKC.o.size hgr.size,fun q hq hl=>(hgr.block q (aO hl HKC.o.size) (fun e=>by have:=(hoC.lt q e.symm).1;omega)).trans (HKC.o.blk q hq hl),fun _ _ h=>h,rfl⟩
        have keep4: ∀{u:Value} {n:Nat} {xs:List Value},wC.ownsRow wB.heap.size 61 23 u n xs->w4.ownsRow wB.heap.size 61 23 u n xs:=fun hr=>bp hr fun b hq=>hgr.block b (hr.lt b hq).2 fun e=>tQ hr hoC (by decide) hq e.symm
        have HR4:P3 (∃(L:List Nat) (vs':List Value),dE B gD de ((t.add w.heap.size).ad L) w4/\(∀b,(Value.slice (some (ae g4 0)) (j+1) c4).ownBlock=some b->b∈L)/\(∀b∈L,wB.heap.size<=b)/\Kd gD t t wB w4/\w4.ownsRow wB.heap.size 55 1 (.slice (some (ae g4 0)) (j+1) c4) (j+1) vs'/\(∀(i:Nat) (fs':List (Nat->Bool)) (u:Value),(ms++[fs])[i]? =some fs'->vs'[i]? =some u->fs'.length=nr/\w4.ownsRow wB.heap.size 61 23 u nr (mkF fs'))):=by
         refine⟨L',_,hd4,hL4,fun b hb=> ?_,hk4,ho4,fun i fs' u h1 h2=> ?_⟩
         ·rcases hL5 b hb with h|h
          ·exact HLL.o b h
          ·have:=h.1;omega
         ·have hvl:vs.length=j:=(by have:=HOW.o.1;omega);by_cases e:i=j
          ·subst e;rw[dG (by have:=HMS.o;omega),HMS.o,iB]at h1;rw[dG (by omega),hvl,iB]at h2;have e1:fs=fs':=aK h1;have e2:Value.slice (some (ae gm 0)) nr nr=u:=aK h2;subst e1 e2;exact⟨HFC.o.2,keep4 HOM.o⟩
          ·have hij:i<j:=by
            have:=(aE.1 h1).1;rw[aL,HMS.o]at this;simp at this;omega
           rw[d6 (by have:=HMS.o;omega)]at h1;rw[d6 (by omega)]at h2;exact⟨(HEC.o i fs' u h1 h2).1,keep4 (HEC.o i fs' u h1 h2).2⟩
        clear hoC ho4 hgr hbl nC hC hd4 hL4 hL5 hk4 keep4 HDC HKC HOM HEC HOW;go_wp2_with fail;go_roundw
        case rel=>
         obtain⟨L,vs',q1,q2,q3,q4,q5,q6⟩:=HR4.o;exact⟨j+1,de,L,ms++[fs],vs',by go_num,by omega,HFC.o.1,q1,q2,q3,q4,q5,by rw[aL,HMS.o];rfl,q6,HX.o⟩
        case measure=>simp[intOf];omega
       ·have hjm': ¬(j:Int)<(m:Int):=(by omega);obtain rfl:m=j:=(by omega);rw[iB]at hX
        have hX2:jq s day m 0 d=(ms,dd):=by
         rw[hX];simp[jq]
        have hkw:=HKB.o.trans hk;have hkBr:=hk.size;have hbx:=(hk.blk _ (HG.o w2.heap.size hw2w) hw2l).trans nB;have n1r:=(hk.blk _ (HG.o w.heap.size (aA _)) hwlt).trans n1B;have hrow:=((hk.rob (t':=t) (HRB.o.move (P':=Fx gD t) (aA _) (fun _ _ _=>rfl) fun q _ hq=>⟨hq.1,fun hx=>hq.2 (bn _ hx)⟩))).here;have hDs:uE wr u10 ms:=IB (by rw[hms];exact hown) (by omega) (by omega) hel;have hTb:=HT.o wr (Kd.below H0.o hkw HBW.o);have cM:=Hr s (.slice pr s.roles.length crr) ms u10 wr hTb hrow hDs;unfold svV Fd at cM;rw[hX2]at HFD;obtain⟨fr,hfr⟩:=aq (findP s ms);have HFR:P3 (0<=fr.day/\fr.day<=30):=(by have:=IA s ms;rw[hfr]at this;exact this);rw[hfr]at cM HFD;obtain⟨pw,cw,hu10⟩:=bU hown;subst hu10;have HDr:=aD hd.drop;have HKr:=aD hkw;clear hX hX2 hk hkw hd hLb hLl hown hel hms hco hcr hrow hDs hTb hfr HSM;go_wp2_with(refine aR rfl 35 _ rfl _ rfl _ _ _ _ hbx svT rfl (by kernel_rfl) ?_)
        refine cM.mono ?_;rintro e w5 ⟨v5,rfl,ho5,b5⟩;obtain⟨p5,c5,hv5⟩:=bU ho5;subst hv5;obtain⟨nw,hnw⟩:=aq fr.who.length;rw[hnw]at ho5;obtain⟨wY,w6,hY,nY,h6,b6,n6⟩:=nbs w5 #[ag 0,ag 0,af] #[ag fr.day,ag fr.min,.slice p5 nw c5] 26;have n15:=bt b5 n1r;have hk5:=HKr.o.trans (Kd.of b5);have hd5:=HDr.o.below b5;have HK5:=aD hk5;have HD5:=aD hd5;have HO5:=aD ho5;have HNW:=aD hnw;have h5w:w.heap.size<w5.heap.size:=aF n15;have hwr:w.heap.size<wr.heap.size:=aO hwlt hkBr;have hr5:wr.heap.size<=w5.heap.size:=b5.size;obtain⟨er,her⟩:=aq fr.err;rw[her]at HFD;rw[hnw,her];have HB6:=aD b6;clear cM hbx b5 n1r hk5 hd5 ho5 hnw her b6 HKr;by_cases h0:er=0
        ·subst h0;have HP:P3 (jS d (k:Int) day (m:Int)=(⟨0,0,fr.day+day,fr.min,fr.who,[]⟩,dd)):=HFD.o.trans (by rw[aw (by simp)]);have hwd:IntKind.i64.wrap (fr.day+day)=fr.day+day:=(by have:=HFR.o;rw[bG];omega);have y6:w6.cell? (ae w5.heap.size 0)=some (ag fr.day):=cr 0 n6 rfl;have x6:=bl _ _ 0 _ _ n6;obtain⟨w7,hw7⟩:=aq (w6.setCell ⟨w5.heap.size,0,none⟩ (ag (fr.day+day)));have n7:w7.heap[w5.heap.size]? =ah #[ag (fr.day+day),ag fr.min,.slice p5 nw c5] 26:=hw7▸aX w6 w5.heap.size 0 _ _ (ag (fr.day+day)) n6;have b7:ao w5 w7:=hw7▸HB6.o.setCell (p:=⟨w5.heap.size,0,none⟩) (aA _) (ag (fr.day+day));have n17:=bt b7 n15
         have HRB5:P3 (Rob (Fx gD t) (fun u=>mw B u (.slice p5 nw c5) fr.who) (w7.setRow w.heap.size (anC ⟨0,0,fr.day+day,fr.min,fr.who,[]⟩ (.slice p5 nw c5) (af)))):=by
          refine Rob.imp (Rob.move (P:=fun q=>wr.heap.size<=q) (Φ:=fun u=>u.ownsRow wr.heap.size 3 1 (.slice p5 nw c5) nw (c8 fr.who)) (w:=w7) (fun u hu ha=>bp HO5.o fun b hb=>(ha b (HO5.o.lt b hb).1 (aO (HO5.o.lt b hb).2 b7.size)).trans (b7.block b (HO5.o.lt b hb).2)) (by simp) (fun q hq _=>aT _ _ _ _ (by omega)) fun q _ hq=>H0.o.fx (.inr (by omega))) fun u hu=>⟨mD (by rw[HNW.o];exact hu) (by
           rw[HNW.o];rcases hu.2 with⟨_,e⟩|⟨_,_,_,_,_,_,_,e,_⟩
           ·omega
           ·unfold maxLen at e;omega),(fun p n k e=>by
           cases e;rcases hu.2 with⟨e,e2⟩|⟨_,_,_,e,_,_,e2,_⟩
           ·omega
           ·cases e;exact e2),fun b e=>a6 (a6 HBW.o (Nat.le_of_lt hwr)) (hu.lt b e).1⟩
         have HO:=aD (gC (HD5.o.below b7) (HK5.o.trans (Kd.of b7)) (aA _) (anC ⟨0,0,fr.day+day,fr.min,fr.who,[]⟩ (.slice p5 nw c5) (af)));have HR:=aD (aJ _ _ _ (anC ⟨0,0,fr.day+day,fr.min,fr.who,[]⟩ (.slice p5 nw c5) (af)) _ _ n17);clear b7 n15 n6 HB6 HFD;go_wp2_with(first|(refine aR rfl 26 _ rfl _ rfl _ _ _ _ n7 slT rfl (by kernel_rfl) ?_)|(refine az rfl 26 _ _ rfl _ _ rfl rfl _ _ nY (by kernel_rfl) rfl (by simp[Value.oneCell']) ?_;rw[h6])|(refine az rfl 28 _ _ rfl _ _ rfl rfl _ _ n17 (by kernel_rfl) rfl (by simp[Value.oneCell']) ?_))
         refine aU (v:= .agg (anC ⟨0,0,fr.day+day,fr.min,fr.who,[]⟩ (.slice p5 nw c5) (af))) ?_ rfl ?_
         ·exact a8 rfl _ _ w.heap.size _ _ _ _ rfl HR.o anT rfl (by kernel_rfl)
         ·rw[HP.o];exact⟨t,_,_,rfl,HO.o.1,HO.o.2,HRB5.o,eE _ _⟩
        ·have h0':(er !=0)=true:=(by simpa using h0);have HP:P3 (jS d (k:Int) day (m:Int)=(noA er,dd)):=HFD.o.trans (by rw[ay h0]);have n1:=bt HB6.o n15;have HD1:=aD (HD5.o.below HB6.o);have HK1:=aD (HK5.o.trans (Kd.of HB6.o));clear h0 n15 HB6 HFD n6;go_wp2_with(refine az rfl 26 _ _ rfl _ _ rfl rfl _ _ nY (by kernel_rfl) rfl (by simp[Value.oneCell']) ?_;rw[h6])
         clear nY hY h6;have cR:=fY er w6;go_wp2_with fail;refine cR.mono ?_;rintro e w9 ⟨rfl,b9⟩;have n9:=bt b9 n1;have HO:=aD (gC (HD1.o.below b9) (HK1.o.trans (Kd.of b9)) (aA _) (anC (noA er) (af) (af)));have HR:=aD (aJ _ _ _ (anC (noA er) (af) (af)) _ _ n9);clear cR b9 n1;go_wp2_with(refine az rfl 28 _ _ rfl _ _ rfl rfl _ _ n9 (by kernel_rfl) rfl (by simp[anC,noA,Value.oneCell']) ?_)
         refine aU (v:= .agg (anC (noA er) (af) (af))) ?_ rfl ?_
         ·exact a8 rfl _ _ w.heap.size _ _ _ _ rfl HR.o anT rfl (by kernel_rfl)
         ·rw[HP.o];exact⟨t,_,_,rfl,HO.o.1,HO.o.2,gg _ _,eE _ _⟩
end
end
section
def doC (c:Cm)(rv wv:Value):Array Value:= #[ag c.kind,ag c.n,ag c.day,ag c.days,kK c.text,kK c.name,ag c.sv.len,ag c.sv.bef,ag c.sv.aft,rv,ag c.sday,ag c.smin,wv]
def doP (d:Dk)(c:Cm):An×Dk:=
 if c.kind=1 then qA d (fO c.text) else
 if c.kind=2 then ru d c.name else
 if c.kind=3 then rx d c.sv else
 if c.kind=4 then jS d c.n c.day c.days else
 if c.kind=5 then kX d c.n c.sday c.smin c.swho else
 if c.kind=6 then oi d c.n (fun a d=>((pN a 2,0),d)) else
 if c.kind=7 then oi d c.n (fun a d=>((pN a 3,0),d)) else
 if c.kind=8 then oi d c.n (fun a d=>fA d c.n a c.sday c.smin c.swho) else
 if c.kind=9 then Lj d c.days else(noA 1,d)
theorem doT:prog.underlying 37=some (.struct (prog.fieldsOf 37)):=by kernel_rfl
section
variable {B gD:Nat} {d:Dk} {t:Tr} {w w3 w4:World}
theorem Tr.back {t':Tr}{q:Nat}(h:t'.xs=(t.add q).xs):t'=(Tr.mk t'.ev t'.sv t'.av t.xs).add q:=by
 obtain⟨a,b,c,x⟩:=t';dsimp only at h;subst h;rfl
theorem ID {q:Nat}{p:An×Dk}{wv lv:Value}{t':Tr}(hb:ao w w3)(hq:w.heap.size<=q)(hd:dE B gD p.2 t' w4)(hk:Kd gD (t.add q) t' w3 w4)(hw:Rob (Fx gD t') (fun u=>mw B u wv p.1.who) w4)(hl:Rob (Fx gD t') (fun u=>dQ u lv p.1.list) w4)(c:Array Value):
  ∃t0:Tr,dE B gD p.2 t0 (w4.setRow q c)/\Kd gD t t0 w (w4.setRow q c)/\Rob (Fx gD t0) (fun u=>mw B u wv p.1.who) (w4.setRow q c)/\Rob (Fx gD t0) (fun u=>dQ u lv p.1.list) (w4.setRow q c):=by
 have e:=Tr.back hk.xs;obtain⟨t0,rfl⟩: ∃t0:Tr,t'=t0.add q:=⟨_,e⟩
 have hk0:=Kd.opened hb hk;have hr:=gC hd hk0 hq c;have mv: ∀{Φ:World->Prop},Rob (Fx gD (t0.add q)) Φ w4->Rob (Fx gD t0) Φ (w4.setRow q c):=fun hR=>hR.move (by simp) (fun k hf _=>aT _ _ _ _ fun e=>hf.2 (by rw[e];exact bc)) fun k _ hf=>⟨hf.1,fun hx=>hf.2 (bn _ hx)⟩
 exact⟨t0,hr.1,hr.2,mv hw,mv hl⟩
theorem Cj {c:Cm}{rv wv:Value}{g:Nat}(m:w.heap[g]? =ah (doC c rv wv) 37):w.cell? (ae g 0)=some (ag c.kind)/\w.cell? (ae g 1)=some (ag c.n)/\w.cell? (ae g 2)=some (ag c.day)/\w.cell? (ae g 3)=some (ag c.days)/\w.cell? (ae g 4)=some (.string ⟨c.text.toArray⟩)/\w.cell? (ae g 5)=some (.string ⟨c.name.toArray⟩)/\w.cell? (ae g 6)=some (ag c.sv.len)/\w.cell? (ae g 7)=some (ag c.sv.bef)/\w.cell? (ae g 8)=some (ag c.sv.aft)/\w.cell? (ae g 9)=some rv/\w.cell? (ae g 10)=some (ag c.sday)/\w.cell? (ae g 11)=some (ag c.smin)/\w.cell? (ae g 12)=some wv:=
 ⟨cr 0 m rfl,cr 1 m rfl,cr 2 m rfl,cr 3 m rfl,cr 4 m rfl,cr 5 m rfl,cr 6 m rfl,cr 7 m rfl,cr 8 m rfl,cr 9 m rfl,cr 10 m rfl,cr 11 m rfl,cr 12 m rfl⟩
end
end
def dk0:Dk:=⟨[],[],[],[],[],0,[],0⟩
def eZ:Dk->List Cm->List An×Dk
 |d,[]=>([],d)
 |d,c::l=>((doP d c).1::(eZ (doP d c).2 l).1,(eZ (doP d c).2 l).2)
theorem FI {l:List Cm}{j:Nat}{c:Cm}(d:Dk)(h:l[j]? =some c):eZ d (l.drop j)=((doP d c).1::(eZ (doP d c).2 (l.drop (j+1))).1,(eZ (doP d c).2 (l.drop (j+1))).2):=by
 obtain⟨h1,h2⟩:=aE.1 h;rw[bx h1,h2];rfl
theorem pG: ∀(l:List Ap) (i:Nat) (d:Dk),Cor d (eB l i d).2
 |[],_,d=>Cor.refl d
 |a::l,i,d=>by
  unfold eB;split
  ·exact pG l (i+1) d
  ·exact(v8 (fun x d=>sE d x a.day) a.who d).trans (pG l (i+1) _)
theorem we (s:Sv)(day:Int): ∀(m i:Nat) (d:Dk),Cor d (jq s day m i d).2
 |0,_,d=>Cor.refl d
 |m+1,i,d=>by
  unfold jq;exact(om s _ _ 0 d).1.trans (we s day m (i+1) _)
theorem Cor.given {d d':Dk}(h:Cor d d'):d'.given=d.given:=by
 obtain⟨_,_,rfl⟩:=h;rfl
theorem ph (d:Dk)(n:Int)(f:Ap->Dk->(Ap×Int)×Dk)(hf: ∀a d,Cor d (f a d).2):(oi d n f).2.given=d.given:=by
 unfold oi;dsimp only;repeat' split
 ·rfl
 ·exact(hf _ d).given
 ·exact(hf _ d).given
theorem IE (d:Dk)(c:Cm):(doP d c).2.given<=d.given+1:=by
 have le: ∀{x:Int},x=d.given->x<=d.given+1:=fun h=>by omega
 unfold doP;split
 ·unfold qA;split
  ·exact le rfl
  ·exact Int.le_of_eq (pG _ 0 _).given
 ·split
  ·unfold ru;repeat' split
   all_goals exact le rfl
  ·split
   ·unfold rx;repeat' split
    all_goals exact le rfl
   ·split
    ·unfold jS;dsimp only;repeat' split
     all_goals first|exact le rfl|exact le (we _ _ _ 0 d).given
    ·split
     ·unfold kX;dsimp only;repeat' split
      all_goals first|exact le rfl|exact le (np d _ _ _ _ _).given
     ·split
      ·exact le (ph d _ _ fun a d=>Cor.refl d)
      ·split
       ·exact le (ph d _ _ fun a d=>Cor.refl d)
       ·split
        ·exact le (ph d _ _ fun a d=>np d _ a _ _ _)
        ·split
         ·unfold Lj;split;all_goals exact le rfl
         ·exact le rfl
structure jM (w:World)(c:Cm)(rv wv:Value):Prop where
 roles:fo w rv c.sv.roles
 who:dQ w wv c.swho
 text:c.text.length<=9223372036854775807
 name:c.name.length<=9223372036854775807
 cap: ∀p n k,wv= .slice p n k->n<=k
theorem jM.below {w w':World}{c:Cm}{rv wv:Value}(h:jM w c rv wv)(hb:ao w w'):jM w' c rv wv:=⟨h.roles.below hb,h.who.below hb,h.text,h.name,h.cap⟩
def lT (w:World)(v:Value)(cs:List (Cm×Value×Value)):Prop:= ∃p k,v= .slice p cs.length k/\cs.length<9223372036854775808/\ ∀(j:Nat) (q:Cm×Value×Value),cs[j]? =some q->jM w q.1 q.2.1 q.2.2/\ ∃g o:Nat,p=some ⟨g,o,none⟩/\w.rangeAt g (o+j*13) (doC q.1 q.2.1 q.2.2).toList
theorem lT.below {w w':World}{v:Value}{cs:List (Cm×Value×Value)}(h:lT w v cs)(hb:ao w w'):lT w' v cs:=by
 obtain⟨p,k,h1,h2,h3⟩:=h;refine⟨p,k,h1,h2,fun j q hj=> ?_⟩;obtain⟨a,g,o,b,c⟩:=h3 j q hj;exact⟨a.below hb,g,o,b,it c hb⟩
theorem Dj {w u:World}{v:Value}{ns:List Int}(h:dQ w v ns)(hu: ∀q,q<w.heap.size->u.heap[q]? =w.heap[q]?):dQ u v ns:=by
 obtain⟨p,c,h1,h2,h3⟩:=h;refine⟨p,c,h1,h2,fun j x hj=> ?_⟩;obtain⟨g,o,e,hc⟩:=h3 j x hj;exact⟨g,o,e,(dL (hu g (bT hc))).trans hc⟩
def wf (c:Cm):Prop:= ∀(B gD:Nat) (d:Dk) (t:Tr) (w:World) (pr pw:Option Addr) (kr kw:Nat),dE B gD d t w->Tbs B w->B<=w.heap.size->d.given+1<=1000000->FE w t.xs->jM w c (.slice pr c.sv.roles.length kr) (.slice pw c.swho.length kw)->Rob (fun q=>q<B) (fun u=>dQ u (.slice pw c.swho.length kw) c.swho) w->Calls prog 32 #[ab gD 0,.agg (doC c (.slice pr c.sv.roles.length kr) (.slice pw c.swho.length kw))] w (tR B gD (doP d c) t w)
theorem xW:B4 dk0:=⟨by decide,rfl,by decide,by decide,by decide,by decide,by decide,(fun x hx=>by cases hx),(fun x hx=>by cases hx),(fun x hx=>by cases hx)⟩
theorem Om {B gD:Nat}{xs:List Nat}{w:World}(hB:B<=gD)(hx: ∀q∈xs,q<w.heap.size/\B<=q/\q≠gD)(h:w.heap[gD]? =ah #[af,af,af,af,af,af,ag 0,af,ag 0] 95):dE B gD dk0 ⟨af,af,af,xs⟩ w:=
 ⟨xW,af,af,af,af,[],[],h,hB,fun u _ _=>⟨[],⟨.inl ⟨rfl,none,0,rfl⟩,by simp,fun p hp=>by cases hp⟩,rfl⟩,fun u _ _=>⟨[],⟨none,0,rfl,by simp,fun j u hj=>by simp at hj⟩,rfl⟩,eE _ _,fun u _ _=>⟨none,0,rfl,aA _,by unfold maxLen;omega,fun h=>absurd rfl h⟩,bV _ _ _ _,bV _ _ _ _,rfl,(fun p hp=>by cases hp),bV _ _ _ _,rfl,(fun p hp=>by cases hp),fun q hq=>⟨(hx q hq).1,(hx q hq).2.1,(hx q hq).2.2,nofun,nofun,nofun⟩⟩
theorem ry {E:Nat->Int}: ∀(m i:Nat),(∀j,i<=j->j<i+m->E j=0)->gh E m i=(0,0)
 |0,_,_=>rfl
 |m+1,i,h=>by
  simp only[gh];rw[aw (by simpa using h i (aA _) (by omega)),ry m (i+1) fun j h1 h2=>h j (by omega) (by omega)]
theorem Dl {cs:List Cd}(h:l3 cs):jw cs=(0,0):=by
 have e1:gh (fun i=>aloneE (cs.getD i cd0) cs.length) cs.length 0=(0,0):=ry _ _ fun j _ hj=>by
  have hx:cs[j]? =some (cs[j]'(by omega)):=ax (by omega);rw[iO hx];exact h.alone j _ hx
 have e2:gh (pA cs) cs.length 0=(0,0):=ry _ _ fun j _ hj=>by
  have hx:cs[j]? =some (cs[j]'(by omega)):=ax (by omega);unfold pA;rw[aw (by rw[h.cyc j (by omega)];simp),iO hx,ay (mi.2 (h.fit j _ hx))]
 have hl:=h.len;unfold jw;rw[aw (by omega),e1,aw (by simp),e2]
theorem Aq {n r:Nat}: ∀(l:List In) (k:Nat),(∀j x,l[j]? =some x->fj x (k+j) n r=0)->oW l k n r=0
 |[],_,_=>rfl
 |x::l,k,h=>by
  have h0:=h 0 x rfl;rw[Nat.add_zero]at h0;simp only[oW];rw[aw (by simpa using h0)]
  exact Aq l (k+1) fun j y hy=>by
   have:=h (j+1) y (by simpa using hy);rw[show k+(j+1)=k+1+j by omega]at this;exact this
theorem qT {E:Nat->Nat->Bool}{ρ:Nat->Nat}(h: ∀i k,E i k=true->ρ k<ρ i): ∀(m i k:Nat),Vx.wars E m i k=true->ρ k<ρ i
 |0,i,k,hw=>h i k hw
 |m+1,i,k,hw=>by
  simp only[Vx.wars,gY,bq]at hw;rcases hw with hw|⟨h1,h2⟩
  ·exact qT h m i k hw
  ·have a:=qT h m i m h1;have b:=qT h m m k h2;omega
theorem Ck {m:Nat->Int×Int}: ∀(k j:Nat),¬0<=jJ m k j-> ∀i,j<=i->i<j+k->mY (m i)=false
 |0,_,_,i,h1,h2=>by omega
 |k+1,j,h,i,h1,h2=>by
  simp only[jJ]at h;by_cases hm:mY (m j)=true
  ·rw[ay hm]at h;omega
  ·rw[aw hm]at h;by_cases e:i=j
   ·subst e;simpa using hm
   ·exact Ck k (j+1) h i (by omega) (by omega)
theorem uN {l:List Ru}(h:(ii l).1=0):(di l).1=0/\ ∀i,i<l.length->mY (fN l i)=false:=by
 unfold ii at h;by_cases h0:(di l).1≠0
 ·rw[ay h0]at h;exact absurd h h0
 ·rw[aw h0]at h;refine⟨by simpa using h0,?_⟩;by_cases h1:0<=jJ (fN l) l.length 0
  ·rw[ay h1]at h;exact absurd h (by show¬(4:Int)=0;omega)
  ·intro i hi;exact Ck _ _ h1 i (df _) (by omega)
theorem wg (l:List Ru):(eR l).length=l.length:=by unfold eR;rw[tJ,mB]
theorem yP {l:List Ru}{i:Nat}(hi:i<l.length):(eR l)[i]? =some ⟨(ff l).getD i [],(fN l i).1,(fN l i).2⟩:=by
 unfold eR eh;rw[bg,List.getElem?_range (by rw[mB];exact hi)];rfl
theorem sF {l:List Ru}(h:(di l).1=0){i:Nat}(hi:i<l.length):lN ((ff l).getD i [])/\ ∀j x,((ff l).getD i [])[j]? =some x->fj x j ((ff l).getD i []).length l.length=0:=by
 have hu:l[i]? =some l[i]:=ax hi;have hm:=aM hu;rw[mr hu];exact Ia ((qz h).2 _ hm).ok fun x hx=>⟨(rQ h hm hx).1,(rQ h hm hx).2.1⟩
theorem IF {l:List Ru}(h:(ii l).1=0):l3 (eR l):=by
 obtain⟨hc,hm⟩:=uN h;have hlen:=wg l
 have at_: ∀{i:Nat} {c:Cd},(eR l)[i]? =some c->i<l.length/\c=⟨(ff l).getD i [],(fN l i).1,(fN l i).2⟩:=fun {i c} hx=>by
  have hi:i<l.length:=(by rw[<-hlen];exact(aE.1 hx).1);rw[yP hi]at hx;exact⟨hi,(aK hx).symm⟩
 have lim: ∀i,i<l.length->mxH (eR l) ((ff l).getD i []) ((ff l).getD i []).length=(fN l i).1/\stS (eR l) ((ff l).getD i []) ((ff l).getD i []).length=(fN l i).2/\1<=(fN l i).1/\(fN l i).1<=100/\1<=(fN l i).2/\(fN l i).2<=20000:=fun i hi=>by
  have e:=uK hc hi;have hno:=hm i hi;unfold mY at hno;rw[Bool.or_eq_false_iff,decide_eq_false_iff_not,decide_eq_false_iff_not]at hno;have e1:(fN l i).1=min (mxH (eR l) ((ff l).getD i []) ((ff l).getD i []).length) 101:=congrArg Prod.fst e;have e2:(fN l i).2=min (stS (eR l) ((ff l).getD i []) ((ff l).getD i []).length) 20001:=congrArg Prod.snd e;have hp:=B3 hc hi;have hf:=(sF hc hi).1.fin;have ht:=G3 (eR l) ((ff l).getD i []) ((ff l).getD i []).length;omega
 refine⟨by rw[hlen];exact(qz hc).1,fun i c hx=> ?_,fun i hi=> ?_,fun i c hx=> ?_⟩
 ·obtain⟨hi,rfl⟩:=at_ hx;have hb:=vV hc hi;have hl:=lim i hi;unfold aloneE;rw[aw (by intro q;exact q ⟨hb.1,a6 hb.2 (by omega)⟩),aw (by intro q;exact q ⟨⟨hl.2.2.1,hl.2.2.2.1⟩,hl.2.2.2.2⟩)];refine Aq _ _ fun j x hjx=> ?_;rw[bK,hlen];exact(sF hc hi).2 j x hjx
 ·cases hw:Vx.wars (fL (eR l)) (eR l).length i i with
  |false=>rfl
  |true=>
   have:=qT (ρ:=muR l) (E:=fL (eR l)) (fun i k hE=>by
    unfold fL at hE;rw[List.any_eq_true]at hE;obtain⟨x,hx,hxp⟩:=hE;rw[bq,bH,bH]at hxp;by_cases hi:i<l.length
    ·have hxc:(eR l).getD i cd0=⟨(ff l).getD i [],(fN l i).1,(fN l i).2⟩:=iO (yP hi);rw[hxc]at hx;obtain⟨j,hj,hjx⟩:=List.mem_iff_getElem.1 hx;have hjx':((ff l).getD i [])[j]? =some x:=(by rw[ax hj];exact congrArg some hjx);have:=((rq hc).lt i j x (by rw[mB];exact hi) hjx' hxp.1).2.2;rw[hxp.2,cg]at this;exact this
    ·have:(eR l).getD i cd0=cd0:=by
      have:(eR l)[i]? =none:=ep (by rw[hlen];omega);simp[List.getD,this]
     rw[this]at hx;cases hx) _ i i hw
   omega
 ·obtain⟨hi,rfl⟩:=at_ hx;have hl:=lim i hi;exact⟨(sF hc hi).1,hl.1,hl.2.1⟩
section
theorem D2 {wk:Int->Bool}{day:Int}{env:List UInt8->Nat->Bool}(he: ∀x (i:Nat),1440<=i->env x i=false): ∀(N:Nat) (e:Ex),SizeOf.sizeOf e<=N-> ∀(i:Nat),1440<=i->eQ wk day env e i=false
 |0,e,hN,_,_=>by cases e;simp at hN
 |N+1,e,hN,i,hi=>by
  have hk: ∀j,(e.kids.map (eQ wk day env)).getD j nev i=false:=fun j=>by
   cases hj:e.kids[j]? with
   |none=>simp[List.getD,hj,nev]
   |some k=>
    have hm:=aM hj;have:=D2 (wk:=wk) (day:=day) he N k (by have:=gK hm;omega) i hi;simpa[List.getD,bg,hj] using this
  have hd:decide (i<1440)=false:=(by simp;omega);rw[jk];unfold mo;split
  ·exact hd
  split
  ·simp[hd]
  split
  ·split
   ·exact hk 0
   ·rfl
  split
  ·split
   ·exact hk 0
   ·rfl
  split
  ·simp[hd]
  split
  ·simp[hd]
  split
  ·simp[hd]
  split
  ·unfold shf;simp[hd]
  split
  ·exact he _ i hi
  ·rfl
theorem Oo (e:Ex){i:Nat}(hi:1440<=i):mnE e i=false:=D2 (fun _ _ _=>rfl) _ e (aA _) i hi
theorem Oq {f:Nat->Bool}(h: ∀i:Nat,1440<=i->f i=false):spM (rs f 1440)=f:=by
 funext i;unfold spM;by_cases hi:i<1440
 ·have:=(yJ f 1440).has i hi;simpa[hi] using this
 ·rw[h i (by omega)];have hd:decide (i<1440)=false:=(by simp;omega);simp[hd]
section
variable {wk:Int->Bool} {day:Int} {ev:Nat->M×Nat} {l:List In} {num:List UInt8->Int} {env:List UInt8->Nat->Bool} {x:In} {s:Vx.St}
theorem PR (ho:x.op=1):dz wk day ev x s=⟨s.k+1,s.S++[spM x.sp],s.n+1⟩:=by simp[dz,ho]
theorem PS (ho:x.op=2):dz wk day ev x s=⟨s.k+1,mK unM s.S,s.n+1⟩:=by simp[dz,ho]
theorem PT (ho:x.op=3):dz wk day ev x s=⟨s.k+1,mK dfM s.S,s.n+1⟩:=by simp[dz,ho]
theorem PU (ho:x.op=4):dz wk day ev x s=⟨s.k+1,mK boM s.S,s.n+1⟩:=by simp[dz,ho]
theorem PV (ho:x.op=5):dz wk day ev x s=⟨s.k+1,yC (fun f=>shM f x.a) s.S,s.n+1⟩:=by simp[dz,ho]
theorem PW (ho:x.op=8):dz wk day ev x s=⟨s.k+1,s.S++[(ev x.a.toNat).1],s.n+1+(ev x.a.toNat).2⟩:=by simp[dz,ho]
theorem Pm (ho:x.op=6\/x.op=7)(hd:onD wk day x=true):dz wk day ev x s=⟨s.k+1,s.S,s.n+1⟩:=by
 unfold dz;rw[aw (by omega),aw (by omega),aw (by omega),aw (by omega),aw (by omega),aw (by omega),ay hd]
theorem Ot (ho:x.op=6\/x.op=7)(hd: ¬onD wk day x=true):dz wk day ev x s=⟨x.to.toNat,s.S++[noM],s.n+1⟩:=by
 unfold dz;rw[aw (by omega),aw (by omega),aw (by omega),aw (by omega),aw (by omega),aw (by omega),aw hd]
theorem Ar (hu:Up wk day ev l){b ln:Nat}{S:List M}{n:Nat}{v:M}(hx:l[b]? =some x)(ho:x.op=6\/x.op=7)(hto:x.to=((b+1+ln:Nat):Int))(hk: ∃n',runV wk day ev l ⟨b+1,S,n+1⟩=runV wk day ev l ⟨b+1+ln,S++[v],n'⟩):
  ∃n',runV wk day ev l ⟨b,S,n⟩=runV wk day ev l ⟨b+(ln+1),S++[if onD wk day x=true then v else nev],n'⟩:=by
 rw[lA hu (s:=⟨b,S,n⟩) hx,show b+(ln+1)=b+1+ln by omega];by_cases hd:onD wk day x=true
 ·rw[ay hd,Pm ho hd];exact hk
 ·rw[aw hd,Ot ho hd,hto,cg];exact⟨n+1,rfl⟩
theorem D3 (hu:Up wk day ev l): ∀(N:Nat) (e:Ex),SizeOf.sizeOf e<=N->OKE e->(∀x∈nms e,(ev (num x).toNat).1=env x)-> ∀(b:Nat) (S:List M) (n:Nat),jR l b (bN num e b)-> ∃n',runV wk day ev l ⟨b,S,n⟩=runV wk day ev l ⟨b+(bN num e b).length,S++[eQ wk day env e],n'⟩
 |0,e,hN,_,_,_,_,_,_=>by cases e;simp at hN
 |N+1,e,hN,h,hn,b,S,n,hs=>by
  have ih: ∀k∈e.kids,∀(b:Nat) (S:List M) (n:Nat),jR l b (bN num k b)-> ∃n',runV wk day ev l ⟨b,S,n⟩=runV wk day ev l ⟨b+(bN num k b).length,S++[eQ wk day env k],n'⟩:=fun k hk=>D3 hu N k (by have:=gK hk;omega) (h.kid hk) (fun x hx=>hn x (uG hk hx));cases hstd:stdE e with
  |true=>
   rw[oe hstd]at hs⊢;rw[lA hu (s:=⟨b,S,n⟩) hs.one,B0 hstd,PR rfl];refine⟨n+1,?_⟩;rw[Oq (fun i hi=>Oo e hi)];rfl
  |false=>
   rcases mV h hstd with⟨q,k,hk⟩|⟨q,k,hk⟩|⟨q,k,hk⟩|q|⟨q,k,m,hk⟩
   ·have hm:k∈e.kids:=(by rw[hk];simp)
    have hv:eQ wk day env e=if wk e.a=true then eQ wk day env k else nev:=by
     rw[jk,q,Hy,hk];rfl
    rw[oS q (by rw[hk];rfl)]at hs⊢;have:=Ar hu (n:=n) hs.one (.inl rfl) rfl (ih k hm (b+1) S (n+1) hs.tail);rw[show onD wk day (⟨6,e.a,0,((b+1+(bN num k (b+1)).length:Nat):Int),[]⟩:In)=wk e.a from by unfold onD;rw[ay rfl]]at this;rw[hv,bz];exact this
   ·have hm:k∈e.kids:=(by rw[hk];simp)
    have hv:eQ wk day env e=if(decide (e.a<=day)&&decide (day<=e.b))=true then eQ wk day env k else nev:=by
     rw[jk,q,Hz,hk];by_cases hw:e.a<=day/\day<=e.b
     ·rw[ay hw,ay (by simp[hw])];rfl
     ·rw[aw hw,aw (by rw[bq,bH,bH];exact hw)];rfl
    rw[mU q (by rw[hk];rfl)]at hs⊢;have:=Ar hu (n:=n) hs.one (.inr rfl) rfl (ih k hm (b+1) S (n+1) hs.tail);rw[show onD wk day (⟨7,e.a,e.b,((b+1+(bN num k (b+1)).length:Nat):Int),[]⟩:In)=(decide (e.a<=day)&&decide (day<=e.b)) from by unfold onD;rw[aw (by show¬(7:Int)=6;omega)]]at this;rw[hv,bz];exact this
   ·have hm:k∈e.kids:=(by rw[hk];simp)
    have hv:eQ wk day env e=shM (eQ wk day env k) e.a:=by
     rw[jk,q,H5,hk];rfl
    rw[pD hstd q hk]at hs⊢;obtain⟨n',e'⟩:=ih k hm b S n hs.left;rw[e',hv,lA hu (s:=⟨b+(bN num k b).length,S++[eQ wk day env k],n'⟩) hs.right.one,PV rfl];refine⟨n'+1,?_⟩;rw[aL,dX,<-Nat.add_assoc,yD]
   ·have hv:eQ wk day env e=env e.name:=(by rw[jk,q,DS]);rw[oR q]at hs⊢;rw[lA hu (s:=⟨b,S,n⟩) hs.one,hv,PW rfl];refine⟨n+1+(ev (num e.name).toNat).2,?_⟩;dsimp only;rw[hn _ (uH q)];rfl
   ·have hm:k∈e.kids:=(by rw[hk];simp);have hm':m∈e.kids:=(by rw[hk];simp);rw[qP hstd q hk]at hs⊢;obtain⟨n1,e1⟩:=ih k hm b S n hs.left.left;obtain⟨n2,e2⟩:=ih m hm' (b+(bN num k b).length) (S++[eQ wk day env k]) n1 hs.left.right;have hx:=hs.right.one;rw[aL,<-Nat.add_assoc]at hx
    have el:b+(bN num k b++bN num m (b+(bN num k b).length)++[(⟨opK e.kind,0,0,0,[]⟩:In)]).length=b+(bN num k b).length+(bN num m (b+(bN num k b).length)).length+1:=by
     rw[aL,aL,dX];omega
    rw[e1,e2,lA hu (s:=⟨b+(bN num k b).length+(bN num m (b+(bN num k b).length)).length,S++[eQ wk day env k]++[eQ wk day env m],n2⟩) hx,el];refine⟨n2+1,?_⟩;rw[dm,List.singleton_append];rcases q with q|q|q
    ·have hv:eQ wk day env e=unM (eQ wk day env k) (eQ wk day env m):=by
      rw[jk,q,H2,hk];rfl
     rw[hv,PS (by show opK e.kind=2;rw[q];decide)];dsimp only;rw[lO]
    ·have hv:eQ wk day env e=dfM (eQ wk day env k) (eQ wk day env m):=by
      rw[jk,q,H3,hk];rfl
     rw[hv,PT (by show opK e.kind=3;rw[q];decide)];dsimp only;rw[lO]
    ·have hv:eQ wk day env e=boM (eQ wk day env k) (eQ wk day env m):=by
      rw[jk,q,H4,hk];rfl
     rw[hv,PU (by show opK e.kind=4;rw[q];decide)];dsimp only;rw[lO]
end
theorem D4 {l:List Ru}(h:(di l).1=0)(wk:Int->Bool)(day:Int): ∀(d i:Nat),i<l.length->muR l i<d->(evV wk day (eR l) d i).1=fW l wk day i
 |0,_,_,hd=>by omega
 |d+1,i,hi,hd=>by
  have hu0:l[i]? =some l[i]:=ax hi;have hm:=aM hu0;have hcd:(eR l).getD i cd0=⟨(ff l).getD i [],(fN l i).1,(fN l i).2⟩:=iO (yP hi);have hup:Up wk day (evV wk day (eR l) d) ((ff l).getD i []):=EU (sF h hi).2;have hok:=((qz h).2 _ hm).ok;have hseg:jR ((ff l).getD i []) 0 (bN (atP5 l) (l[i]).2 0):=fun j _=>(by rw[mr hu0,bK])
  have hnm: ∀x∈nms (l[i]).2,(evV wk day (eR l) d (atP5 l x).toNat).1=fW l wk day (atP5 l x).toNat:=fun x hx=>by
   obtain⟨h0,h1,h2⟩:=rQ h hm hx;have hlt:(atP5 l x).toNat<l.length:=(by omega);have hr:muR l (atP5 l x).toNat<muR l i:=rL h hi (by rw[qi hu0];exact dw.2 ⟨_,h2,rfl⟩);exact D4 h wk day d _ hlt (by omega)
  obtain⟨n',e'⟩:=D3 (env:=fun x=>fW l wk day (atP5 l x).toNat) hup _ _ (aA _) hok hnm 0 [] 0 hseg;rw[evV,hcd];dsimp only;rw[e',vI (by dsimp only;rw[bK,mr hu0])];show eQ wk day _ _=_;rw[od h hu0]
theorem MX (day:Int):dV day=wkB day:=rfl
end
structure Co where
 rules:List Ru
 res:List (List UInt8)
 svs:List Sv
 aps:List Ap
def coD (d:Dk):Co:=⟨d.rules,d.res,d.svs,d.aps⟩
def mS (c:Co)(r day:Int):M:=if atP5 c.rules (c.res.getD r.toNat [])<0 then noM else fW c.rules (wkB day) day (atP5 c.rules (c.res.getD r.toNat [])).toNat
def fS (c:Co)(r day but:Int):M:=nh (mS c r day) (inl (kC r day but c.aps 0))
def lg (c:Co)(n:Int)(a:Ap)(day min:Int)(who:List Int):Ap×Int:=
 if isN day 146097=false\/isN min 1440=false then(ap0,3) else
 if min-a.bef<0\/1440<min+a.len+a.aft then(ap0,3) else
 if jV who (c.svs.getD a.sv.toNat sv0).roles≠0 then(ap0,jV who (c.svs.getD a.sv.toNat sv0).roles) else
 if(who.any fun r=> !gH (fS c r day n) (min-a.bef) (min+a.len+a.aft))=true then(ap0,10) else({a with fr:=min-a.bef,to:=min+a.len+a.aft,day:=day,min:=min,who:=who},0)
def tW (c:Co)(n:Int):Ap:=⟨1,10,0,0,n,(c.svs.getD n.toNat sv0).bef,(c.svs.getD n.toNat sv0).aft,(c.svs.getD n.toNat sv0).len,0,0,[]⟩
def FJ (c:Co)(n day min:Int)(who:List Int):An×Co:=
 if isN n c.svs.length=false then(noA 6,c) else
 if 30<=c.aps.length then(noA 5,c) else
 if(lg c (-1) (tW c n) day min who).2≠0 then(noA (lg c (-1) (tW c n) day min who).2,c) else(jL c.aps.length,{c with aps:=c.aps++[(lg c (-1) (tW c n) day min who).1]})
def rT (c:Co)(n:Int)(f:Ap->Ap×Int):An×Co:=
 if isN n c.aps.length=false\/(c.aps.getD n.toNat ap0).st=3 then(noA 6,c) else
 if(f (c.aps.getD n.toNat ap0)).2≠0 then(noA (f (c.aps.getD n.toNat ap0)).2,c) else(noA 0,{c with aps:=c.aps.set n.toNat (f (c.aps.getD n.toNat ap0)).1})
def Pn (c:Co)(t:Int):An×Co:=if t<0\/1000<t then(noA 3,c) else(noA 0,{c with aps:=c.aps.map (Fq t)})
def Cl (c:Co)(name:List UInt8):An×Co:=
 if 12<=c.res.length then(noA 5,c) else if atP5 c.rules name<0 then(noA 7,c) else(jL c.res.length,{c with res:=c.res++[name]})
def Cn (c:Co)(s:Sv):An×Co:=
 if 8<=c.svs.length then(noA 5,c) else if dW s c.res.length≠0 then(noA (dW s c.res.length),c) else(jL c.svs.length,{c with svs:=c.svs++[s]})
def wh (c:Co)(s:Sv)(day:Int):Nat->Nat->List M
 |0,_=>[]
 |m+1,r=>(if s.roles.any (fun p=>decide ((r:Int)∈p))=true then fS c r day (-1) else noM)::wh c s day m (r+1)
def jN (c:Co)(s:Sv)(day:Int):Nat->Nat->List (List M)
 |0,_=>[]
 |m+1,i=>wh c s (day+i) c.res.length 0::jN c s day m (i+1)
def kY (c:Co)(n day days:Int):An×Co:=
 if isN n c.svs.length=false then(noA 6,c) else
 if isN day 146097=false\/days<1\/30<days\/146097<day+days then(noA 3,c) else
 if(findP (c.svs.getD n.toNat sv0) (jN c (c.svs.getD n.toNat sv0) day days.toNat 0)).err≠0 then(noA (findP (c.svs.getD n.toNat sv0) (jN c (c.svs.getD n.toNat sv0) day days.toNat 0)).err,c) else(⟨0,0,(findP (c.svs.getD n.toNat sv0) (jN c (c.svs.getD n.toNat sv0) day days.toNat 0)).day+day,(findP (c.svs.getD n.toNat sv0) (jN c (c.svs.getD n.toNat sv0) day days.toNat 0)).min,(findP (c.svs.getD n.toNat sv0) (jN c (c.svs.getD n.toNat sv0) day days.toNat 0)).who,[]⟩,c)
def tX (c:Co):List Ap->Nat->List Int
 |[],_=>[]
 |a::l,i=>if a.st≠3/\(a.who.any fun r=> !gH (mS c r a.day) a.fr a.to)=true then(i:Int)::tX c l (i+1) else tX c l (i+1)
def Cp (c:Co)(r:Int×List Ru):An×Co:=if r.1≠0 then(noA r.1,c) else(⟨0,0,0,0,[],tX {c with rules:=r.2} c.aps 0⟩,{c with rules:=r.2})
def doS (c:Co)(x:Cm):An×Co:=
 if x.kind=1 then Cp c (fO x.text) else
 if x.kind=2 then Cl c x.name else
 if x.kind=3 then Cn c x.sv else
 if x.kind=4 then kY c x.n x.day x.days else
 if x.kind=5 then FJ c x.n x.sday x.smin x.swho else
 if x.kind=6 then rT c x.n (fun a=>(pN a 2,0)) else
 if x.kind=7 then rT c x.n (fun a=>(pN a 3,0)) else
 if x.kind=8 then rT c x.n (fun a=>lg c x.n a x.sday x.smin x.swho) else
 if x.kind=9 then Pn c x.days else(noA 1,c)
def ib:Co->List Cm->List An×Co
 |c,[]=>([],c)
 |c,x::l=>((doS c x).1::(ib (doS c x).2 l).1,(ib (doS c x).2 l).2)
def co0:Co:=⟨[],[],[],[]⟩
structure DI (d:Dk):Prop where
 flt:ii d.rules=(0,0)
 vl:d.vers.length=d.rules.length
 kv: ∀e∈d.kept,e.v<=d.given
 vg: ∀v∈d.vers,v<=d.given
 ki: ∀e∈d.kept,∀i:Nat,e.r=(i:Int)->d.vers[i]? =some e.v->e.m=fW d.rules (wkB e.d) e.d i
 ad: ∀a∈d.aps,0<=a.day/\a.day<146097
theorem KC {l:List Ru}(h:ii l=(0,0)){i:Nat}(hi:i<l.length){day:Int}(h0:0<=day)(h1:day<146097):(iU (eR l) (i:Int) day).1=0/\oY (eR l) (i:Int) day=fW l (wkB day) day i:=by
 have hf:(ii l).1=0:=by rw[h]
 have hw:=Dl (IF hf)
 have he:(iU (eR l) (i:Int) day).1=0:=by
  unfold iU;rw[hw,aw (by simp),wg,aw (by omega),aw (by omega)]
 refine⟨he,?_⟩;unfold oY;rw[ay he,cg,MX];refine D4 (uN hf).1 _ _ _ _ hi ?_;rw[wg];have:=zW l (i:Int);unfold muR;omega
theorem KD {l:List Vx.Kp}{i:Int}{e:Vx.Kp}(h:e∈fT l i):e∈l:=by
 unfold fT at h;split at h
 ·rcases bJ.1 h with h|h
  ·exact List.mem_of_mem_take h
  ·exact List.mem_of_mem_drop h
 ·exact h
theorem uO {l:List Vx.Kp}{i:Int}{e x:Vx.Kp}(h:x∈fT l i++[e]):x∈l\/x=e:=(bJ.1 h).imp KD bv.1
theorem Cq {d:Dk}(h:DI d)(r:Int){day:Int}(h0:0<=day)(h1:day<146097):(gu d r day).1=mS (coD d) r day/\DI (gu d r day).2/\coD (gu d r day).2=coD d:=by
 have hb:=nP d.rules (d.res.getD r.toNat []);by_cases hk:atP5 d.rules (d.res.getD r.toNat [])<0
 ·have e:gu d r day=(noM,d):=ay hk;rw[e];exact⟨(ay hk).symm,h,rfl⟩
 ·obtain⟨i,ek⟩: ∃i:Nat,atP5 d.rules (d.res.getD r.toNat [])=(i:Int):=⟨(atP5 d.rules (d.res.getD r.toNat [])).toNat,by omega⟩
  have e:gu d r day=((jK (eR d.rules) d.kept d.runs (d.vers.getD i 0) (i:Int) day).m,{d with kept:=(jK (eR d.rules) d.kept d.runs (d.vers.getD i 0) (i:Int) day).l,runs:=(jK (eR d.rules) d.kept d.runs (d.vers.getD i 0) (i:Int) day).n}):=by
   unfold gu;dsimp only;rw[aw hk,ek,cg]
  have e':mS (coD d) r day=fW d.rules (wkB day) day i:=by
   unfold mS coD;dsimp only;rw[aw hk,ek,cg]
  rw[e,e'];rw[ek]at hb;clear e e' hk ek;have hi:i<d.rules.length:=(by omega);obtain⟨v,hv⟩: ∃v,d.vers[i]? =some v:=⟨d.vers[i]'(by rw[h.vl];exact hi),ax _⟩
  have hvd:d.vers.getD i 0=v:=(by simp[List.getD,hv]);obtain⟨he,hm⟩:=KC h.flt hi h0 h1;rw[hvd];unfold jK;by_cases hh:nT d.kept v (i:Int) day=true
  ·rw[ay hh];obtain⟨n,e,e1,e2,e3,e4,e5,e6⟩:=On hh;dsimp only;rw[e6];have hmem:=aM e2;have em:e.m=fW d.rules (wkB day) day i:=(by rw[<-e4];exact h.ki e hmem i e3 (by rw[e5];exact hv));refine⟨em,⟨h.flt,h.vl,fun x hx=> ?_,h.vg,fun x hx=> ?_,h.ad⟩,rfl⟩
   ·rcases uO hx with hx|rfl
    ·exact h.kv x hx
    ·exact h.kv _ hmem
   ·rcases uO hx with hx|rfl
    ·exact h.ki x hx
    ·exact h.ki _ hmem
  ·rw[aw hh,aw (fun c=>c he)];dsimp only;rw[hm];refine⟨rfl,⟨h.flt,h.vl,fun x hx=> ?_,h.vg,fun x hx=> ?_,h.ad⟩,rfl⟩
   ·rcases uO (List.mem_of_mem_drop hx) with hx|rfl
    ·exact h.kv x hx
    ·exact h.vg _ (aM hv)
   ·rcases uO (List.mem_of_mem_drop hx) with hx|rfl
    ·exact h.ki x hx
    ·intro j ej _
     have:j=i:=by
      have e:(i:Int)=(j:Int):=ej;omega
     subst this;rfl
def Ste (d:Dk)(d':Dk):Prop:=DI d'/\coD d'=coD d
theorem D5 {d:Dk}(h:DI d)(r but:Int){day:Int}(h0:0<=day)(h1:day<146097):(i8 d r day but).1=fS (coD d) r day but/\Ste d (i8 d r day but).2:=by
 obtain⟨a,b,c⟩:=Cq h r h0 h1;exact⟨by unfold i8 fS;rw[a];rfl,b,c⟩
theorem Cr {f:Int->Dk->Bool×Dk}{g:Co->Int->Bool}(hf: ∀x d,DI d->(f x d).1=g (coD d) x/\Ste d (f x d).2): ∀(l:List Int) (d:Dk),DI d->(jy f l d).1=l.any (g (coD d))/\Ste d (jy f l d).2
 |[],d,h=>⟨rfl,h,rfl⟩
 |x::l,d,h=>by
  obtain⟨a,b,c⟩:=hf x d h;unfold jy;by_cases e:(f x d).1=true
  ·rw[ay e];refine⟨?_,b,c⟩;rw[List.any_cons,<-a,e];rfl
  ·rw[aw e];obtain⟨a',b',c'⟩:=Cr hf l (f x d).2 b;refine⟨?_,b',c'.trans c⟩;rw[a',c,List.any_cons,<-a];simp[e]
theorem wi {d:Dk}(h:DI d)(n:Int)(a:Ap)(day min:Int)(who:List Int):(fA d n a day min who).1=lg (coD d) n a day min who/\Ste d (fA d n a day min who).2:=by
 unfold fA lg;by_cases h1:isN day 146097=false\/isN min 1440=false
 ·rw[ay h1,ay h1];exact⟨rfl,h,rfl⟩
 rw[aw h1,aw h1];by_cases h2:min-a.bef<0\/1440<min+a.len+a.aft
 ·rw[ay h2,ay h2];exact⟨rfl,h,rfl⟩
 rw[aw h2,aw h2];show((if jV who (d.svs.getD a.sv.toNat sv0).roles≠0 then _ else _:(Ap×Int)×Dk).1=(if jV who (d.svs.getD a.sv.toNat sv0).roles≠0 then _ else _))/\_;by_cases h3:jV who (d.svs.getD a.sv.toNat sv0).roles≠0
 ·rw[ay h3,ay h3];exact⟨rfl,h,rfl⟩
 rw[aw h3,aw h3]
 have hd:0<=day/\day<146097:=by
  have:isN day 146097=true:=(by simpa using fun c=>h1 (.inl c));simpa[isN] using this
 obtain⟨p,q⟩:=Cr (g:=fun c r=> !gH (fS c r day n) (min-a.bef) (min+a.len+a.aft)) (f:=oH day n (min-a.bef) (min+a.len+a.aft)) (fun x d h=>by
  obtain⟨e1,e2⟩:=D5 h x n hd.1 hd.2;exact⟨by unfold oH;rw[e1],e2⟩) who d h
 dsimp only;rw[p];split
 ·exact⟨rfl,q⟩
 ·exact⟨rfl,q⟩
theorem Cs (s:Sv){day:Int}(h0:0<=day)(h1:day<146097): ∀(m r:Nat) (d:Dk),DI d->(ij s day m r d).1=wh (coD d) s day m r/\Ste d (ij s day m r d).2
 |0,_,d,h=>⟨rfl,h,rfl⟩
 |m+1,r,d,h=>by
  unfold ij wh;dsimp only;split
  ·obtain⟨a,b,c⟩:=D5 h (r:Int) (-1) h0 h1;obtain⟨a',b',c'⟩:=Cs s h0 h1 m (r+1) _ b;exact⟨by rw[a,a',c],b',c'.trans c⟩
  ·obtain⟨a',b',c'⟩:=Cs s h0 h1 m (r+1) d h;exact⟨by rw[a'],b',c'⟩
theorem IG (s:Sv){day:Int}(h0:0<=day): ∀(m i:Nat) (d:Dk),DI d->day+i+m<=146097->(jq s day m i d).1=jN (coD d) s day m i/\Ste d (jq s day m i d).2
 |0,_,d,h,_=>⟨rfl,h,rfl⟩
 |m+1,i,d,h,hm=>by
  unfold jq jN;dsimp only;obtain⟨a,b,c⟩:=Cs s (day:=day+i) (by omega) (by omega) d.res.length 0 d h;obtain⟨a',b',c'⟩:=IG s h0 m (i+1) _ b (by omega);exact⟨by rw[a,a',c];rfl,b',c'.trans c⟩
end Go.Proofs.YtjkilacmkbmmbaaGreatDoor
