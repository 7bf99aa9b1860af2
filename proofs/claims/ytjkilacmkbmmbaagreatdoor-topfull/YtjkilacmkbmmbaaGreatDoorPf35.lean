/- Texts of the proof. -/
import Derived.Test.YtjkilacmkbmmbaaGreatDoorPf34
import Derived.Test.YtjkilacmkbmmbaaGreatDoorPf33
import Derived.Lib.ItoaNum
import Derived.Lib.Join
set_option maxRecDepth 100000
set_option maxHeartbeats 8000000
namespace Go.Proofs.YtjkilacmkbmmbaaGreatDoor
open Go.Proofs.Tryz Go.RowKit Lx Vx Mx Msk
section
theorem Qi:(prog.info? 122).map (fun i=>(i.zero,i.size,i.bytes))=some (some (.agg #[ag 0,ag 0,ag 0,ag 0,ag 0,ag 0,ag 0,ag 0,ag 0,ag 0,af]),11,104):=by kernel_rfl
theorem PO:prog.underlying 67=some (.slice 122):=by kernel_rfl
def KX (d:Dk)(a:Ap):Prop:=(0<=a.sv/\a.sv<d.svs.length)/\(0<=a.fr/\a.fr<=a.to/\a.to<=1440)/\(0<=a.left/\a.left<=10)/\(0<=a.bef/\a.bef<=1440/\0<=a.aft/\a.aft<=1440/\0<=a.len/\a.len<=1440)/\(0<=a.day/\a.day<146097)/\a.who.length<=4/\ ∀r∈a.who,0<=r/\r<d.res.length
theorem IZ {d:Dk}{num:Int}{a:Ap}{day min:Int}{who:List Int}(hd:B9 d)(hs:0<=a.sv/\a.sv<d.svs.length)(hl:0<=a.left/\a.left<=10)(hm:0<=a.bef/\a.bef<=1440/\0<=a.aft/\a.aft<=1440/\0<=a.len/\a.len<=1440)(h:(fB d num a day min who).1.2=0):KX d (fB d num a day min who).1.1:=by
 unfold fB at h⊢;dsimp only at h⊢;by_cases h1:isN day 146097=false\/isN min 1440=false
 ·rw[ay h1]at h;cases h
 rw[aw h1]at h⊢;by_cases h2:min-a.bef<0\/1440<min+a.len+a.aft
 ·rw[ay h2]at h;cases h
 rw[aw h2]at h⊢;by_cases h3:jJ who (d.svs.getD a.sv.toNat sv0).roles≠0
 ·rw[ay h3]at h;exact absurd h h3
 rw[aw h3]at h⊢;split at h
 ·cases h
 ·rename_i h4;rw[aw h4];obtain⟨s,hsv⟩: ∃s,d.svs[a.sv.toNat]? =some s:=⟨d.svs[a.sv.toNat]'(by omega),ax _⟩
  have e:d.svs.getD a.sv.toNat sv0=s:=(by simp[List.getD,hsv]);rw[e]at h3;have hw:=Ee (hd.sv s (aL hsv)) (gd h3)
  have hdy:0<=day/\day<146097:=by
   have:isN day 146097=true:=by
    cases hq:isN day 146097 with
    |true=>rfl
    |false=>exact absurd (.inl hq) h1
   simpa[isN] using this
  exact⟨hs,⟨by show 0<=min-a.bef;omega,by show min-a.bef<=min+a.len+a.aft;omega,by show min+a.len+a.aft<=1440;omega⟩,hl,hm,hdy,hw.2,hw.1⟩
theorem KY (aa:List (Ap×Value))(p:Ap×Value):apF (aa++[p])=apF aa++(apC p).toList:=by simp[apF]
theorem DkM.addAp {B gD:Nat}{d:Dk}{t:Tr}{rv cv vv kv:Value}{ss:List (Sv×Value)}{aa:List (Ap×Value)}{wX W0 W1 W:World}{a:Ap}{v v':Value}(hm:DkM B gD d t rv cv vv kv ss aa wX)(hG:qt wX B 122 11 aa.length t.av (apF aa) (apC (a,v)) v' W0 W1)(hb:Below W1.heap.size (W1.setCell ⟨gD,3,none⟩ v') W)(hrob:Rob (Fx gD t) (fun u=>dR u v a.who) wX):
  DkM B gD {d with aps:=d.aps++[a]} {t with av:=v'} rv cv vv kv ss (aa++[(a,v)]) W/\Kd gD t {t with av:=v'} wX W:=by
 obtain⟨hb0,hgr,hv,hown⟩:=hG;have hm0:=hm.below hb0;have hkd:=Ch (t':={t with av:=v'}) (k:=3) hm0 (.inr (.inr rfl)) hgr hv (.inr (.inr ⟨rfl,rfl⟩));have blk2:=(hgr.block gD (aF hm0.blk) fun e=>io hm0.aps hm0.blk (by decide) e.symm).trans hm0.blk;have hne: ∀b,v'.ownBlock=some b->b≠gD:=fun b hb' e=>io hown blk2 (by decide) (by rw[hb',e]);have hbW:Below (W1.setCell ⟨gD,3,none⟩ v').heap.size (W1.setCell ⟨gD,3,none⟩ v') W:=hb.mono (by simp);have hkW:=hkd.trans (Kd.of hbW);have keep: ∀{e s n:Nat} {u:Value} {xs:List Value},(W1.setCell ⟨gD,3,none⟩ v').ownsRow B e s u n xs->W.ownsRow B e s u n xs:=fun hr=>bv hr fun b hq=>hbW.block b (hr.lt b hq).2;refine⟨hm0.turn hkW (bt hbW (aW W1 gD 3 _ _ v' blk2)) rfl rfl rfl (keep (pK ⟨_,hm0.blk⟩ hm0.res hm0.aps (by decide) (by decide) hgr)) (keep (pK ⟨_,hm0.blk⟩ hm0.svs hm0.aps (by decide) (by decide) hgr)) (keep (bv ?_ fun b hq=>aM W1 ⟨gD,3,none⟩ b v' (hne b hq))) hm0.sve (by simp[hm0.ape]) (fun p hp=> .inl hp) (fun p hp=> ?_),(Kd.of hb0).trans hkW⟩
 ·rw[aN,KY];exact hown
 ·rcases bO.1 hp with hp|hp
  ·exact .inl ⟨p.1,hp,rfl⟩
  ·rw[bK.1 hp];exact .inr (hkW.rob (hrob.below hb0))
structure ApJ (wX:World)(B gD:Nat)(c:Array Value)(v:Value)(na:Nat)(aa:List (Ap×Value))(M:Nat->Bool)(φ:Nat->Value)(W:World):Prop where
 bel:M 8=false->ao wX W
 one:M 7=true->M 8=false-> ∃g k,φ 62= .slice (some (ae g 0)) 1 k/\W.heap[g]? =ah c 122
 app:M 8=true->M 12=false-> ∃g k W0,φ 63= .slice (some (ae g 0)) (na+1) k/\qt wX B 122 11 na v (apF aa) c (φ 63) W0 W
 sto:M 12=true-> ∃g k W0 W1,φ 63= .slice (some (ae g 0)) (na+1) k/\qt wX B 122 11 na v (apF aa) c (φ 63) W0 W1/\Below W1.heap.size (W1.setCell ⟨gD,3,none⟩ (φ 63)) W
section
variable {B gD:Nat} {d:Dk} {t:Tr}
theorem KZ (n day min:Int)(who:List Int)(pw:Option Addr)(cw:Nat)(w:World)(h:dD B gD d t w)(hw:Rob (Fx gD t) (fun u=>dR u (.slice pw who.length cw) who) w)(hcw:who.length<=cw):Calls prog 51 #[ab gD 0,ag n,.agg #[ag day,ag min,.slice pw who.length cw]] w (tL B gD (kR d n day min who) t w):=by
 obtain⟨w1,h1,b1,n1⟩:=nb w #[ag day,ag min,.slice pw who.length cw] 26;obtain⟨w2,h2,b2,n2⟩:=nb w1 #[ag 0,ag 0,ag 0,ag 0,af,af] 28;have s1:w1.heap.size=w.heap.size+1:=by rw[<-h1];simp
 have s2:w2.heap.size=w1.heap.size+1:=by rw[<-h2];simp
 have b02:=au b1 b2;have hd2:=h.opened (q:=w1.heap.size) b1.size s2 b02;have m1:=bt b2 n1;have HD2:=aD hd2;have HK2:Qo (Kd gD t t w w2):=Kd.of b02;have H0:=aD h;have HW:=aD hw;have HB02:=aD b02;have HG:Qo (∀q,w.heap.size<=q->Gx gD t q):=fun q hq=>(h.fx (.inr hq)).1;obtain⟨hok,rv,cv,vv,kv,ss,aa,hm⟩:=hd2;have hss:ss.length=d.svs.length:=by rw[<-hm.sve,a8]
 have haa:aa.length=d.aps.length:=by rw[<-hm.ape,a8]
 obtain⟨ps,cs,hsv⟩:=c8 hm.svs;obtain⟨pa,ca,hav⟩:=c8 hm.aps;obtain⟨ns,hns⟩:=aq ss.length;obtain⟨na,hna⟩:=aq aa.length;rw[hns]at hsv;rw[hna]at hav;have z2:w2.cell? (ae gD 2)=some (.slice ps ns cs):=(cr (v:=t.sv) 2 hm.blk rfl).trans (congrArg some hsv);have z3:w2.cell? (ae gD 3)=some (.slice pa na ca):=(cr (v:=t.av) 3 hm.blk rfl).trans (congrArg some hav);have HNS:Qo (d.svs.length=ns):=by show _=_;rw[<-hss,hns]
 have HNA:Qo (d.aps.length=na):=by show _=_;rw[<-haa,hna]
 have HSV:Qo (t.sv= .slice ps ns cs):=hsv;have HSS:=aD hns;have HM:=aD hm;have HOK:=aD hok;have hna30:na<=30:=by rw[<-HNA.o];exact hok.al
 have cN:=rO n (ns:Int) w2;obtain⟨c1,hb1⟩:=aq (isN n (ns:Int));rw[hb1]at cN;have HB1:=aD hb1;have hw1:w.heap.size<w1.heap.size:=by omega
 have hw2:w1.heap.size<w2.heap.size:=by omega
 clear h hw b1 b2 b02 hm hok hss haa hsv hav hns hna hb1 n1 s1 s2;go_enter func51,ntmps51;go_wp2_with fail;refine cN.mono ?_;rintro e wa ⟨rfl,hwa⟩;subst hwa;clear cN;cases c1 with
 |false=>
  have HP:Qo (kR d n day min who=(noA 6,d)):=(by show _=_;unfold kR;rw[HNS.o,ay HB1.o]);clear h1 h2 z2 z3 m1;have cR:=fV 6 wa;go_wp2_with fail;refine cR.mono ?_;rintro e w9 ⟨rfl,b9⟩;have n9:=bt b9 n2;have HO:=aD (gF (HD2.o.below b9) (HK2.o.trans (Kd.of b9)) (by omega) (anC (noA 6) (af) (af)));have HR:=aD (aJ _ _ _ (anC (noA 6) (af) (af)) _ _ n9);clear cR b9 n2;go_wp2_with(refine az rfl 28 _ _ rfl _ _ rfl rfl _ _ n9 (by kernel_rfl) rfl (by simp[anC,noA,Value.oneCell']) ?_)
  refine aU (v:= .agg (anC (noA 6) (af) (af))) ?_ rfl ?_
  ·exact a6 rfl _ _ w1.heap.size _ _ _ _ rfl HR.o anT rfl (by kernel_rfl)
  ·rw[HP.o];exact⟨t,_,_,rfl,HO.o.1,HO.o.2,fZ _ _,eE _ _⟩
 |true=>
  by_cases h30:30<=na
  ·have h30':(30:Int)<=(na:Int):=(by omega);have HP:Qo (kR d n day min who=(noA 5,d)):=(by show _=_;unfold kR;rw[HNS.o,aw (by rw[HB1.o];simp),HNA.o,ay h30]);clear h1 h2 z2 m1;have cR:=fV 5 wa;go_wp2_with fail;refine cR.mono ?_;rintro e w9 ⟨rfl,b9⟩;have n9:=bt b9 n2;have HO:=aD (gF (HD2.o.below b9) (HK2.o.trans (Kd.of b9)) (by omega) (anC (noA 5) (af) (af)));have HR:=aD (aJ _ _ _ (anC (noA 5) (af) (af)) _ _ n9);clear cR b9 n2;go_wp2_with(refine az rfl 28 _ _ rfl _ _ rfl rfl _ _ n9 (by kernel_rfl) rfl (by simp[anC,noA,Value.oneCell']) ?_)
   refine aU (v:= .agg (anC (noA 5) (af) (af))) ?_ rfl ?_
   ·exact a6 rfl _ _ w1.heap.size _ _ _ _ rfl HR.o anT rfl (by kernel_rfl)
   ·rw[HP.o];exact⟨t,_,_,rfl,HO.o.1,HO.o.2,fZ _ _,eE _ _⟩
  ·have h30': ¬(30:Int)<=(na:Int):=(by omega);have hn:0<=n/\n<(ns:Int):=(by have:=HB1.o;simpa[isN] using this);obtain⟨k,rfl⟩: ∃k:Nat,n=(k:Int):=⟨n.toNat,by omega⟩
   have hks:k<ss.length:=(by rw[HSS.o];omega);have hk0:(0:Int)<=(k:Int):=(by omega);have hkn:(k:Int)<(ns:Int):=hn.2;obtain⟨⟨s,sv⟩,hsk⟩: ∃q,ss[k]? =some q:=⟨ss[k],ax hks⟩
   have hsd:d.svs[k]? =some s:=(by rw[<-HM.o.sve,bg,hsk];rfl);obtain⟨pr,crr,hse,_,_⟩:=(HM.o.svr _ (aL hsk)).here;dsimp only at hse;subst hse;obtain⟨gs,cs',e1,_,hrg⟩:=lD vY HM.o.svs rfl hsk;have e0:Value.slice ps ns cs= .slice (some (ae gs 0)) ns cs':=(by rw[<-HSV.o,<-HSS.o];exact e1);injection e0 with e2 e3 e4;subst e2 e4;obtain⟨A0,hA0⟩: ∃q:Ap,q=⟨1,10,0,0,(k:Int),s.bef,s.aft,s.len,0,0,[]⟩:=⟨_,rfl⟩
   obtain⟨wY,w3,hY,nY,h3,b3,n3⟩:=nbs wa #[ag 0,ag 0,ag 0,af] (svC (s,.slice pr s.roles.length crr)) 35;obtain⟨wZ,w4,hZ,nZ,h4,b4,n4⟩:=nbs w3 #[ag 0,ag 0,ag 0,ag 0,ag 0,ag 0,ag 0,ag 0,ag 0,ag 0,af] #[ag 1,ag 10,ag 0,ag 0,ag (k:Int),ag s.bef,ag s.aft,ag s.len,ag 0,ag 0,af] 122;have s4:w4.heap.size=w3.heap.size+1:=(by rw[<-h4,<-hZ];simp);have hd4:=(HD2.o.below b3).opened (q:=w3.heap.size) (aA _) s4 b4;have b24:=au b3 b4;have q0:w3.cell? (ae wa.heap.size 0)=some (ag s.len):=cr 0 n3 rfl;have q1:w3.cell? (ae wa.heap.size 1)=some (ag s.bef):=cr 1 n3 rfl;have q2:w3.cell? (ae wa.heap.size 2)=some (ag s.aft):=cr 2 n3 rfl;have m4:=bt b24 m1;have l4:=bt b24 n2;have hms:=(sq (HOK.o.sv s (aL hsd))).meas
   have hms':0<=s.bef/\s.bef<=1440/\0<=s.aft/\s.aft<=1440/\0<=s.len/\s.len<=1440:=by
    unfold iV at hms;have:=eJ hms;omega
   have hsvs:0<=A0.sv/\A0.sv<d.svs.length:=(by rw[hA0,HNS.o];exact⟨hk0,hkn⟩);have hbds:0<=A0.bef/\A0.bef<=1440/\0<=A0.aft/\A0.aft<=1440/\0<=A0.len/\A0.len<=1440:=(by rw[hA0];exact hms');have h34:wa.heap.size<w3.heap.size:=aF n3;have HB04:=aD (au HB02.o b24)
   have hw4:Rob (Fx gD ((t.add w1.heap.size).add w3.heap.size)) (fun u=>dR u (.slice pw who.length cw) who) w4:=HW.o.move HB04.o.size (fun q _ hl=>HB04.o.block q hl) fun q hl hq=>⟨hq.1,fun hx=>by
    rcases bo.1 hx with e|hx
    ·omega
    ·rcases bo.1 hx with e|hx
     ·omega
     ·exact hq.2 hx⟩
   have cP:=FY (-1) A0 none pw 0 cw day min who w4 hd4 hsvs hbds hw4 hcw;obtain⟨P,hP⟩:=aq (fB d (-1) A0 day min who);rw[hP]at cP;unfold LA at cP
   have HPP:Qo (kR d (k:Int) day min who=if P.1.2≠0 then(noA P.1.2,P.2) else(jw P.2.aps.length,{P.2 with aps:=P.2.aps++[P.1.1]})):=by
    show _=_;have e:d.svs.getD k sv0=s:=(by simp[List.getD,hsd]);unfold kR;rw[HNS.o,aw (by rw[HB1.o];simp),HNA.o,aw h30];simp only[bV,e];rw[hA0]at hP;rw[hP]
   have HCR:Qo (Cor d P.2):=(by have:=mX d (-1) A0 day min who;rw[hP]at this;exact this)
   have HAP:Qo (P.1.2=0->KX d P.1.1):=fun e=>by
    have:=IZ (num:= -1) (a:=A0) (day:=day) (min:=min) (who:=who) HOK.o hsvs (by rw[hA0];exact⟨by show(0:Int)<=10;omega,fi _⟩) hbds (by rw[hP];exact e);rw[hP]at this;exact this
   subst hA0;obtain⟨nw,hnw⟩:=aq who.length;rw[hnw]at cP m4⊢;have HK4:=aD (Kd.of (gD:=gD) (t:=t) HB04.o);have hs4:wa.heap.size<w4.heap.size:=(by omega);clear h1 h2 hn hks hsk hsd e1 e3 hd4 b24 hms hms' hsvs hbds hw4 hP b3 b4 m1 n2 s4 hnw hcw HB04 HB02;go_wp2_with(first|(refine wpList_load_mid rfl 35 _ rfl gs (k*4) rfl (svC (s,.slice pr s.roles.length crr)).toList _ hrg svT rfl (by kernel_rfl) ?_)|(refine az rfl 35 _ _ rfl _ _ rfl rfl _ _ nY (by kernel_rfl) rfl (uI _ _ _ _) ?_;rw[h3])|(refine az rfl 122 _ _ rfl _ _ rfl rfl _ _ nZ (by kernel_rfl) rfl (by simp[Value.oneCell']) ?_;rw[h4])|(refine aR rfl 122 _ rfl _ rfl _ _ _ _ n4 apT rfl (by kernel_rfl) ?_)|(refine aR rfl 26 _ rfl _ rfl _ _ _ _ m4 slT rfl (by kernel_rfl) ?_))
   refine cP.mono ?_;rintro e w5 ⟨sv5,rfl,hd5,hk5,hrb5⟩;obtain⟨p5,c5,hv5,_,_⟩:=hrb5.here;subst hv5;have gx3:=HG.o w3.heap.size (by omega);have n5:=(hk5.blk _ gx3 (aF n4)).trans n4;have l5:=(hk5.blk _ (HG.o w1.heap.size (by omega)) (aF l4)).trans l4;obtain⟨nx,hnx⟩:=aq P.1.1.who.length;rw[hnx]at hrb5⊢;obtain⟨cA,hcA⟩:=aq (apC (P.1.1,.slice p5 nx c5));have h1c:cA.all (·.oneCell')=true:=(by rw[<-hcA];exact mx _ _ _ _);have hc11:cA.size=11:=(by rw[<-hcA];rfl);rw[hcA];obtain⟨w6,hw6⟩:=aq (w5.setRow w3.heap.size cA);have n6:=aJ _ _ _ cA _ _ n5;rw[hw6]at n6;have ho6: ∀q,q≠w3.heap.size->w6.heap[q]? =w5.heap[q]? :=fun q hq=>hw6▸aT _ _ _ _ hq;have hs6:w6.heap.size=w5.heap.size:=(by rw[<-hw6];simp);have hd6:dD B gD P.2 (t.add w1.heap.size) w6:=hd5.closed (by omega) fun q _ hq=>ho6 q hq;have hrb6:Rob (Fx gD (t.add w1.heap.size)) (fun u=>dR u (.slice p5 nx c5) P.1.1.who) w6:=hrb5.move (by omega) (fun q hq _=>ho6 q fun e=>hq.2 (by rw[e];exact bf)) fun q _ hq=>⟨hq.1,fun hx=>hq.2 (bp _ hx)⟩
   have hk45:Kd gD t t w4 w5:=⟨hk5.os,hk5.tape,hk5.output,hk5.size,hk5.blk,fun _ _ h=>h,rfl⟩
   have HK6:=aD ((HK4.o.trans hk45).closed (w':=w6) (q:=w3.heap.size) (by omega) (by rw[<-hw6];rfl) (by rw[<-hw6];rfl) (by rw[<-hw6];rfl) (by omega) fun q _ hq=>ho6 q hq);have l6:=(ho6 _ (by omega)).trans l5;have HD6:=aD hd6;have HRB6:=aD hrb6;have hs46:w4.heap.size<=w6.heap.size:=(by rw[hs6];exact hk5.size);obtain⟨er,her⟩:=aq P.1.2;rw[her]at HPP HAP⊢;clear cP hd5 hk5 hk45 hrb5 hd6 hrb6 ho6 hs6 l5 l4 her n4 m4 hY hZ nY nZ h3 h4 q0 q1 q2 hrg n3 z2 z3 gx3;by_cases h0:er=0
   ·subst h0;obtain⟨hok,rv',cv',vv',kv',ss',aa',hm6⟩:=HD6.o;obtain⟨pb,cb,hbv⟩:=c8 hm6.aps;obtain⟨nb',hnb⟩: ∃q,aa'.length=q:=⟨_,rfl⟩
    have hnb2:P.2.aps.length=nb':=(by rw[<-hm6.ape,a8,hnb])
    have hnb3:nb'=na:=by
     obtain⟨_,_,e⟩:=HCR.o;rw[<-hnb2,e];exact HNA.o
    have HP:Qo (kR d (k:Int) day min who=(jw nb',{P.2 with aps:=P.2.aps++[P.1.1]})):=HPP.o.trans (by rw[aw (by simp),hnb2]);rw[hnb]at hbv;have z3:w6.cell? (ae gD 3)=some (.slice pb nb' cb):=(cr (v:=t.av) 3 hm6.blk rfl).trans (congrArg some hbv);have hown:w6.ownsRow B 122 11 (.slice pb nb' cb) nb' (apF aa'):=(by have:=hm6.aps;rw[hnb]at this;rw[<-show t.av=_ from hbv];exact this);have hg6:=aF hm6.blk;have hB6:B<=w6.heap.size:=(by have:=hm6.lo;omega);have HBV:Qo (t.av= .slice pb nb' cb):=hbv;have HNB:=aD hnb;have hn30:nb'<30:=(by omega);clear hnb hnb2 hnb3 hbv HPP;go_upto_region 10 with(refine az rfl 122 _ _ rfl _ _ rfl rfl _ _ n5 (by rw[hc11];kernel_rfl) (by rw[hc11];rfl) h1c ?_;rw[hw6])
    clear n5 hw6;refine dq (ApJ w6 B gD cA (.slice pb nb' cb) nb' aa') [kn 55 (ab gD 0),kn 56 (ab gD 0),kn 57 (ab gD 0),kn 58 (ab gD 0),kn 59 (ab gD 3),kn 60 (.slice pb nb' cb),kn 61 (.agg cA),td 62,td 63,kn 64 (ab gD 0),kn 65 (ab gD 0),kn 66 (ab gD 3),nk] (fun _=>⟨fun _=>(aG _ _).drew,(fun h=>by cases h),(fun h=>by cases h),(fun h=>by cases h)⟩) (fun _ _ _ _ hb h=>⟨fun c=>(h.bel c).trans (hb.mono (h.bel c).size),fun c c'=> ?_,fun c c'=> ?_,fun c=> ?_⟩) (by kernel_rfl) ?_ ?_
    ·obtain⟨g,c1,e1,hg⟩:=h.one c c';exact⟨g,c1,e1,bt hb hg⟩
    ·obtain⟨g,c1,W0,e1,hg⟩:=h.app c c';exact⟨g,c1,W0,e1,hg.below hb⟩
    ·obtain⟨g,c1,W0,W1,e1,hg,hb1⟩:=h.sto c;exact⟨g,c1,W0,W1,e1,hg,hb1.trans (hb.mono (by have:=hb1.size;simpa using this))⟩
    ·rintro M φ W hJ hc F l hl hF;have c87:M 8=true->M 7=true:=fun h=>hc 8 _ rfl h ⟨7,.data⟩ (by simp) rfl rfl;have cD8:M 12=true->M 8=true:=fun h=>hc 12 _ rfl h ⟨8,.data⟩ (by simp) rfl rfl;have HCS:=aD (fF c87 cD8);have HJ:=aD hJ;clear hc c87 cD8 hJ;simp only[kn,td,nk,dM,aQ,aV,Act.put,aB,aI,aH]at hl;subst hl;simp only[dc,Nat.reduceAdd]at hF;dsimp only[kn,td,nk,dB,ea,dQ,Act.put];and_intros;all_goals first|exact trivial|intro hw hn hm K hK
     all_goals try (go_simp;with_reducible exact hK _ _ ⟨rfl,aG _ _⟩)
     ·have hb:=HJ.o.bel (hn 8 _ rfl (by kernel_rfl));have y:=aj hb z3;go_simp;exact hK _ _ ⟨rfl,aG _ _⟩
     ·have nW:=bt (HJ.o.bel (iE HCS.o.1 (hn 7 _ rfl (by kernel_rfl)))) n6;show Oper.wp _ _ _ _ _ _;refine d7 122 _ rfl _ (by simp[Act.eval,hF]) _ _ _ _ nW apT rfl (by rw[hc11];kernel_rfl) ?_;exact hK _ _ ⟨rfl,aG _ _⟩
     ·have h8:=iE HCS.o.1 hm;have hD:=iE HCS.o.2 h8;have hb:=HJ.o.bel h8;have hbA:=am W (.cells cA 122);rw[<-hcA]at hF hbA;clear hw hn;unfold apC at hF;go_simp;refine hK _ _ ⟨trivial,fun _=>au hb hbA,fun _ _=>⟨W.heap.size,1,dI,?_⟩,fun c _=>lC h8 c (by decide),fun c=>lC hD c (by decide)⟩;rw[<-hcA];exact aC _ _
     ·have h7:=hw ⟨7,.data⟩ (by simp) rfl rfl;have hD:=iE HCS.o.2 hm;have hb:=HJ.o.bel hm;obtain⟨g,c1,e62,hg⟩:=HJ.o.one h7 hm;have hownW:=bv hown fun b hq=>hb.block b (hown.lt b hq).2;show Oper.wp _ _ _ _ _ _;refine lG (ops:= #[]) rfl (ie (c:=c1) rfl _ _ 67 122 rfl PO Qi rfl (by decide) (by decide) (by simp[Act.eval,hF]) hownW (by simp[Act.eval,hF,e62]) hg hc11 h1c (by omega) (aZ hB6 hb.size) ?_);rintro v' w' ho hgr hbl ⟨g2,c2,rfl⟩;refine⟨rfl,hK _ _ ⟨trivial,fun c=>by simp at c,fun _ c=>by simp at c,fun _ _=>⟨g2,c2,W,dI,?_⟩,fun c=>lC hD c (by decide)⟩⟩;rw[dI];exact⟨hb,hgr,hbl,ho⟩
     ·have h8:=hw ⟨8,.data⟩ (by simp) rfl rfl;obtain⟨g,c1,W0,e63,hG⟩:=HJ.o.app h8 hm;have blkW:=(hG.2.1.block gD (aP hg6 hG.1.size) fun e=>io hown hm6.blk (by decide) e.symm).trans (bt hG.1 hm6.blk);have y:=cr 3 blkW rfl;have x3:=bj _ _ 3 _ _ blkW;rw[e63]at hF;clear hw hn blkW;go_simp;refine hK undef _ ⟨trivial,fun c=> ?_,fun _ c=> ?_,fun _ c=>by simp at c,fun _=>⟨g,c1,W0,W,e63,hG,by rw[e63];exact aG _ _⟩⟩
      ·rw[orZ (by decide),h8]at c;cases c
      ·rw[orZ (by decide),h8]at c;cases c
    ·rintro M φ W hM hJ;obtain⟨g,c1,W0,W1,e63,hG,hbW⟩:=hJ.sto (hM 12 (by decide) rfl);simp only[kn,td,nk,dO,aQ,aV,Act.put,aB,aI,aH];rw[e63]at hG hbW;rw[e63];obtain⟨hm2,hk2⟩:=hm6.addAp (d:=P.2) (a:=P.1.1) (v:= .slice p5 nx c5) (by rw[HNB.o,hcA];show qt w6 B 122 11 nb' t.av _ _ _ _ _;rw[HBV.o];exact hG) hbW HRB6.o;have hap:KX d P.1.1:=HAP.o trivial
     have hd2:dD B gD {P.2 with aps:=P.2.aps++[P.1.1]} (({t with av:= .slice (some (ae g 0)) (nb'+1) c1}:Tr).add w1.heap.size) W:=by
      refine⟨⟨hok.flt,hok.vl,hok.kl,hok.rl,hok.sl,?_,hok.gv,hok.nm,hok.sv,fun x hx=> ?_⟩,_,_,_,_,_,_,hm2⟩
      ·show(P.2.aps++[P.1.1]).length<=30;rw[aN,<-hm6.ape,a8,HNB.o];simp;omega
      ·rcases bO.1 hx with hx|hx
       ·exact hok.ap x hx
       ·rw[bK.1 hx];obtain⟨_,_,e⟩:=HCR.o;rw[e];exact hap
     have hkw:Kd gD t {t with av:= .slice (some (ae g 0)) (nb'+1) c1} w W:=⟨hk2.os.trans HK6.o.os,hk2.tape.trans HK6.o.tape,hk2.output.trans HK6.o.output,aZ HK6.o.size hk2.size,fun q hq hl=>(hk2.blk q hq (aP hl HK6.o.size)).trans (HK6.o.blk q hq hl),fun q hl hq=>hk2.gx q (aP hl HK6.o.size) hq,rfl⟩
     have lW:=(hk2.blk w1.heap.size (hm6.nx _ bf).2.2 (aF l6)).trans l6;have y3:W.cell? (ae gD 3)=some (.slice (some (ae g 0)) (nb'+1) c1):=cr 3 hm2.blk rfl;have HO:=aD (gF hd2 hkw (by omega) (anC (jw nb') (af) (af)));have HR:=aD (aJ _ _ _ (anC (jw nb') (af) (af)) _ _ lW);have hw1':IntKind.i64.wrap ((nb':Int)+1-1)=(nb':Int):=(by rw[bq];omega);clear hM hJ hG hbW hm2 hk2 hd2 hkw hok hm6 hown hcA h1c hc11 l6 n6 z3;go_wp2_with(refine az rfl 28 _ _ rfl _ _ rfl rfl _ _ lW (by kernel_rfl) rfl (by simp[Value.oneCell']) ?_)
     refine aU (v:= .agg (anC (jw nb') (af) (af))) ?_ rfl ?_
     ·exact a6 rfl _ _ w1.heap.size _ _ _ _ rfl HR.o anT rfl (by kernel_rfl)
     ·rw[HP.o];exact⟨_,_,_,rfl,HO.o.1,HO.o.2,fZ _ _,eE _ _⟩
   ·have h0':(er !=0)=true:=(by simpa using h0);have HP:Qo (kR d (k:Int) day min who=(noA er,P.2)):=HPP.o.trans (by rw[ay h0]);clear h0;go_wp2_with(refine az rfl 122 _ _ rfl _ _ rfl rfl _ _ n5 (by rw[hc11];kernel_rfl) (by rw[hc11];rfl) h1c ?_;rw[hw6])
    clear n5 hw6;have cR:=fV er w6;go_wp2_with fail;refine cR.mono ?_;rintro e w9 ⟨rfl,b9⟩;have n9:=bt b9 l6;have HO:=aD (gF (HD6.o.below b9) (HK6.o.trans (Kd.of b9)) (by omega) (anC (noA er) (af) (af)));have HR:=aD (aJ _ _ _ (anC (noA er) (af) (af)) _ _ n9);clear cR b9 l6;go_wp2_with(refine az rfl 28 _ _ rfl _ _ rfl rfl _ _ n9 (by kernel_rfl) rfl (by simp[anC,noA,Value.oneCell']) ?_)
    refine aU (v:= .agg (anC (noA er) (af) (af))) ?_ rfl ?_
    ·exact a6 rfl _ _ w1.heap.size _ _ _ _ rfl HR.o anT rfl (by kernel_rfl)
    ·rw[HP.o];exact⟨t,_,_,rfl,HO.o.1,HO.o.2,fZ _ _,eE _ _⟩
end
end
section
section
variable {w w':World}
theorem I0:dR w (af) []:=⟨none,0,rfl,by decide,fun j n h=>by simp at h⟩
theorem Ef:fo w (af) []:=⟨none,0,rfl,by decide,fun j n h=>by simp at h⟩
theorem Nh {g:Nat}{sv:Value}{l:List Int}{T:TypeId}(h:w.heap[g]? =ah #[sv] T)(hr:dR w sv l):fo w (.slice (some (ae g 0)) 1 1) [l]:=by
 refine⟨some ⟨g,0,none⟩,1,rfl,by simp,fun j m hj=> ?_⟩;match j,hj with
 |0,hj=>cases hj;exact⟨g,0,sv,rfl,aX _ _ _ _ _ _ h,hr⟩
 |j+1,hj=>simp at hj
def kT (B:Nat)(w:World)(v:Value)(cs:List (Cm×Value×Value)):Prop:=w.ownsRow B 37 13 v cs.length (cs.flatMap fun q=>(doC q.1 q.2.1 q.2.2).toList)/\ ∀q∈cs,Rob (fun k=>some k≠v.ownBlock) (fun u=>la u q.1 q.2.1 q.2.2) w
theorem yS {B:Nat}{v:Value}{cs:List (Cm×Value×Value)}(h:w.ownsRow B 37 13 v cs.length (cs.flatMap fun q=>(doC q.1 q.2.1 q.2.2).toList))(hc: ∀q∈cs,la w q.1 q.2.1 q.2.2)(hl:cs.length<9223372036854775808):mY w v cs:=by
 obtain⟨p,k,hv⟩:=c8 h;refine⟨p,k,hv,hl,fun j q hj=>⟨hc q (aL hj),?_⟩⟩;obtain⟨g,c,e,_,hr⟩:=lD (f:=fun q:Cm×Value×Value=>doC q.1 q.2.1 q.2.2) (fun q=>rfl) h rfl hj;rw[hv]at e;cases e;exact⟨g,0,rfl,by rw[bH];exact hr⟩
theorem kT.row {B:Nat}{v:Value}{cs:List (Cm×Value×Value)}(h:kT B w v cs)(hl:cs.length<9223372036854775808):mY w v cs:=yS h.1 (fun q hq=>(h.2 q hq).here) hl
theorem kT.below {B:Nat}{v:Value}{cs:List (Cm×Value×Value)}(h:kT B w v cs)(hb:ao w w'):kT B w' v cs:=
 ⟨bv h.1 fun b hq=>hb.block b (h.1.lt b hq).2,fun q hq=>(h.2 q hq).below hb⟩
theorem Ni {c:Cm}{rv wv:Value}(h:la w c rv wv):(doC c rv wv).all (·.oneCell')=true:=by
 obtain⟨_,_,rfl,_⟩:=h.roles;obtain⟨_,_,rfl,_⟩:=h.who;exact Ed ..
theorem uQ: ∀cs:List (Cm×Value×Value),(cs.flatMap fun q=>(doC q.1 q.2.1 q.2.2).toList).length=cs.length*13
 |[]=>rfl
 |c::cs=>by
  rw[List.flatMap_cons,aN,uQ cs,bG];show 13+_=_;omega
theorem OP {cs:List (Cm×Value×Value)}{g o:Nat}(h: ∀(j:Nat) (q:Cm×Value×Value),cs[j]? =some q->w.rangeAt g (o+j*13) (doC q.1 q.2.1 q.2.2).toList):w.rangeAt g o (cs.flatMap fun q=>(doC q.1 q.2.1 q.2.2).toList):=by
 intro k u hu
 have hk:k<cs.length*13:=by
  have:=(aE.1 hu).1;rwa[uQ]at this
 obtain⟨q,hq⟩: ∃q,cs[k/13]? =some q:=⟨_,ax (by omega)⟩
 have e:=oc (f:=fun q:Cm×Value×Value=>doC q.1 q.2.1 q.2.2) (m:=13) (fun q=>rfl) hq (k%13) (Nat.mod_lt _ (by decide));rw[show k/13*13+k%13=k by omega,hu]at e;have:=h _ q hq (k%13) u (by rw[bm];exact e.symm);rwa[show o+k/13*13+k%13=o+k by omega]at this
theorem lF {ops:Array Oper}{rest:List Oper}{o:Oper}{a:Act}{Q:Exit->Act->World->Prop}(hgd:o.guard=none)(s x:Operand)(ho:o.op= .call {callee:= .builtin .append,args:= #[s,x],argTypes:= #[30,30]})
  {B:Nat} {v xv:Value} {cs ds:List (Cm×Value×Value)} (hs:a.eval s=v) (hO:kT B w v cs) (hx:a.eval x=xv) (hX:mY w xv ds) (h0:0<ds.length) (hR: ∀q∈ds,Rob (fun k=>some k≠v.ownBlock) (fun u=>la u q.1 q.2.1 q.2.2) w) (hn:cs.length+ds.length<=100000) (hB:B<=w.heap.size)
  (h: ∀v' w',kT B w' v' (cs++ds)->Below B w w'->w.grownBy w' v.ownBlock->wpList prog ops Q rest (a.put o.dst v') w'):wpList prog ops Q (o::rest) a w:=by
 obtain⟨i,hi,hz0,hz1,hz2⟩:=pH (t:=37) (z:= .agg (doC ⟨0,0,0,0,[],[],sv0,0,0,[]⟩ (af) (af))) (a:=13) (b:=152) (by kernel_rfl);obtain⟨p,k,rfl,_,hc⟩:=hX;obtain⟨q0,hq0⟩: ∃q,ds[0]? =some q:=⟨_,ax h0⟩
 obtain⟨_,g,of,rfl,_⟩:=hc 0 q0 hq0
 have hF:w.rangeAt g of (ds.flatMap fun q=>(doC q.1 q.2.1 q.2.2).toList):=OP fun j q hj=>by
  obtain⟨_,g',o',e,hr⟩:=hc j q hj;cases e;exact hr
 refine wpList_append_own_at w hgd s x 30 ho B 37 i _ 13 152 (by kernel_rfl) hi hz0 hz1 hz2 rfl (by decide) v cs.length _ hs hO.1 ⟨g,of,none⟩ ds.length k (ds.flatMap fun q=>(doC q.1 q.2.1 q.2.2).toList) hx ?_ (fun j u hu=> ?_) (fun u hu=> ?_) (by unfold maxLen;omega) (aZ (Nat.mul_le_mul_right _ hn) (by decide)) hB fun v' w' h2 h3 _ h5=> ?_
 ·exact uQ ds
 ·rw[show(⟨g,of,none⟩:Addr).add j=⟨g,of+j,none⟩ by simp[Addr.add]];exact hF j u hu
 ·obtain⟨q,hq,hu⟩:=List.mem_flatMap.1 hu;exact Array.all_eq_true'.1 (Ni (hR q hq).here) u (Array.mem_toList_iff.1 hu)
 ·refine h v' w' ⟨?_,fun q hq=> ?_⟩ (gO (aG _ _) h3 hB fun k hk=>(hO.1.lt k hk).1) h3
  ·rw[aN,eV];exact h2
  ·have H:Rob (fun k=>some k≠v.ownBlock) (fun u=>la u q.1 q.2.1 q.2.2) w:=(bO.1 hq).elim (hO.2 q) (hR q);refine H.move h3.size (fun k hk hl=>h3.block k hl hk) fun k hl hk=> ?_;rcases h5 with h5|h5
   ·rw[h5];exact hk
   ·rw[h5];intro e;cases e;omega
theorem qO {B g n m:Nat}{cur:Array Value}{T:TypeId}(h:w.heap[g]? =ah cur T)(hB:B<=g)(hs:cur.size=n*m)(hn:n<=maxLen):w.ownsRow B T m (.slice (some (ae g 0)) n n) n cur.toList:=
 ⟨by rw[bP];exact hs,.inr ⟨g,n,cur,rfl,hB,h,aA _,hn,hs,by rw[cg (by rw[bP,hs];exact aA _)]⟩⟩
theorem CE (c:Cm)(h1:c.sv.roles=[])(h2:c.swho=[])(h3:c.text.length<=9223372036854775807)(h4:c.name.length<=9223372036854775807):la w c (af) (af):=
 ⟨by rw[h1];exact Ef,by rw[h2];exact I0,h3,h4,fun p n k e=>by cases e;exact aA _⟩
end
end
theorem oR: ∀(l m:List Cm) (c:Co),jj c (l++m)=((jj c l).1++(jj (jj c l).2 m).1,(jj (jj c l).2 m).2)
 |[],_,_=>rfl
 |x::l,m,c=>by
  show((doS c x).1::(jj (doS c x).2 (l++m)).1,(jj (doS c x).2 (l++m)).2)=_;rw[oR l m];rfl
theorem qP: ∀(l:List Cm) (c:Co),(jj c l).1.length=l.length
 |[],_=>rfl
 |x::l,c=>congrArg (· +1) (qP l (doS c x).2)
section
section
variable {B gD:Nat} {d:Dk} {t:Tr}
theorem Nj (c:Cm)(pr pw:Option Addr)(cr2 cw:Nat)(w:World)(h:dD B gD d t w)(hx:c.text.length<=9223372036854775807)(hT:Tbs B w)(hBw:B<=w.heap.size)(hg:d.given+1<=1000000)(hxs:FM w t.xs)(hn:c.name.length<=9223372036854775807)(hr:fo w (.slice pr c.sv.roles.length cr2) c.sv.roles)(h14:1<=c.kind/\c.kind<=4):Calls prog 32 #[ab gD 0,.agg (doC c (.slice pr c.sv.roles.length cr2) (.slice pw c.swho.length cw))] w (tL B gD (doP d c) t w):=by
 obtain⟨w1,h1,b1,n1⟩:=nb w #[ab gD 0] 115;obtain⟨w2,h2,b2,n2⟩:=nb w1 (doC c (.slice pr c.sv.roles.length cr2) (.slice pw c.swho.length cw)) 37;obtain⟨w3,h3,b3,n3⟩:=nb w2 #[ag 0,ag 0,ag 0,ag 0,af,af] 28;have b12:=au b1 b2;have b13:=au b12 b3;have hd3:=h.opened (q:=w2.heap.size) b12.size (by rw[<-h3];simp) b13;have m2:=bt b3 n2;have k1:=bt (au b2 b3) n1;have z1:=cr 0 k1 rfl;obtain⟨y0,y1,y2,y3,y4,y5,y6,y7,y8,y9,y10,y11,y12⟩:=Cp m2;have HB:=aD b13;have HQ:=aD b12.size
 have HGX:Qo (Gx gD (t.add w2.heap.size) w2.heap.size):=by
  obtain⟨_,_,_,_,_,_,_,hm⟩:=hd3;exact(hm.nx _ bf).2.2
 have hT3:=hT.below (b13.mono hBw);have hB3:=aZ hBw b13.size;rcases(show c.kind=1\/c.kind=2\/c.kind=3\/c.kind=4 by omega) with hk|hk|hk|hk
 case' inl=>
  have hx3:FM w3 (t.add w2.heap.size).xs:=fun k hk=>by
   rcases bo.1 hk with rfl|hk
   ·exact⟨_,_,_,n3,by decide⟩
   ·obtain⟨c,T,f,hc,hn⟩:=hxs k hk;exact⟨c,T,f,bt b13 hc,hn⟩
  have cC:=IF c.text w3 hd3 hx hT3 hB3 hg hx3;clear hx3;generalize hP:qr d (fE c.text)=P at cC
 case' inr.inl=>
  have cC:=FE c.name w3 hd3 hn;generalize hP:ro d c.name=P at cC
 case' inr.inr.inl=>
  have cC:=FN c.sv pr cr2 w3 hd3 (hr.below b13);generalize hP:rq d c.sv=P at cC
 case' inr.inr.inr=>
  have cC:=IM c.n c.day c.days w3 hd3 (fun W hW=>(hT3 W hW).2.2) hB3;generalize hP:jN d c.n c.day c.days=P at cC
 all_goals
  have HP:Qo (doP d c=P):=by
   show _=_;rw[<-hP];unfold doP;repeat (first|rw[ay hk]|rw[aw (by omega)])
  clear b1 b2 b3 b12 b13 hd3 n1 n2 hP k1 m2 hT3 hB3
  try rw[hk]at y0
  try (have e1:(c.kind==1)=false:=by simp;omega
       have e2:(c.kind==2)=false:=by simp;omega
       have e3:(c.kind==3)=false:=by simp;omega
       have e4:(c.kind==4)=false:=by simp;omega
       have e5:(c.kind==5)=false:=by simp;omega
       have e6:(c.kind==6)=false:=by simp;omega
       have e7:(c.kind==7)=false:=by simp;omega
       have e8:(c.kind==8)=false:=by simp;omega
       have e9:(c.kind==9)=false:=by simp;omega)
  clear hk
  go_enter func32,ntmps32
  go_wp2_with fail
  refine cC.mono ?_
  rintro e w4 ⟨t',wv,lv,rfl,hd4,hk4,hw4,hl4⟩
  obtain⟨t0,o1,o2,o3,o4⟩:=IN HB.o HQ.o hd4 hk4 hw4 hl4 (anC P.1 wv lv)
  obtain⟨p5,c5,rfl,_,_⟩:=hw4.here.1
  obtain⟨p6,c6,rfl,_,_⟩:=hl4.here
  have n4:=(hk4.blk _ HGX.o (aF n3)).trans n3
  have HO:=aD (fF o1 (fF o2 (fF o3 o4)))
  have HR:=aD (aJ _ _ _ (anC P.1 (.slice p5 P.1.who.length c5) (.slice p6 P.1.list.length c6)) _ _ n4)
  clear cC hd4 hk4 hw4 hl4 o1 o2 o3 o4 n3
  go_wp2_with(refine az rfl 28 _ _ rfl _ _ rfl rfl _ _ n4 (by kernel_rfl) rfl (by simp[anC,Value.oneCell']) ?_)
  refine aU (v:= .agg (anC P.1 (.slice p5 P.1.who.length c5) (.slice p6 P.1.list.length c6))) ?_ rfl ?_
  ·exact a6 rfl _ _ w2.heap.size _ _ _ _ rfl HR.o anT rfl (by kernel_rfl)
  ·rw[HP.o]
   exact⟨t0,_,_,rfl,HO.o.1,HO.o.2.1,HO.o.2.2.1,HO.o.2.2.2⟩
theorem Nk (c:Cm)(pr pw:Option Addr)(cr2 cw:Nat)(w:World)(h:dD B gD d t w)(hcw:c.swho.length<=cw)(hwho:Rob (fun q=>q<B) (fun u=>dR u (.slice pw c.swho.length cw) c.swho) w)(hk:c.kind=5):Calls prog 32 #[ab gD 0,.agg (doC c (.slice pr c.sv.roles.length cr2) (.slice pw c.swho.length cw))] w (tL B gD (doP d c) t w):=by
 obtain⟨w1,h1,b1,n1⟩:=nb w #[ab gD 0] 115;obtain⟨w2,h2,b2,n2⟩:=nb w1 (doC c (.slice pr c.sv.roles.length cr2) (.slice pw c.swho.length cw)) 37;obtain⟨w3,h3,b3,n3⟩:=nb w2 #[ag 0,ag 0,ag 0,ag 0,af,af] 28;have b12:=au b1 b2;have b13:=au b12 b3;have hd3:=h.opened (q:=w2.heap.size) b12.size (by rw[<-h3];simp) b13;have m2:=bt b3 n2;have k1:=bt (au b2 b3) n1;have z1:=cr 0 k1 rfl;obtain⟨y0,y1,y2,y3,y4,y5,y6,y7,y8,y9,y10,y11,y12⟩:=Cp m2;have HB:=aD b13;have HQ:=aD b12.size
 have HGX:Qo (Gx gD (t.add w2.heap.size) w2.heap.size):=by
  obtain⟨_,_,_,_,_,_,_,hm⟩:=hd3;exact(hm.nx _ bf).2.2
 have hw3:Rob (Fx gD (t.add w2.heap.size)) (fun u=>dR u (.slice pw c.swho.length cw) c.swho) w3:=hwho.move b13.size (fun q _ hl=>b13.block q hl) fun q hl hq=>⟨(h.fx (.inl hq)).1,fun hx=>by
  rcases bo.1 hx with e|hx
  ·have:=b12.size;omega
  ·exact(h.fx (.inl hq)).2 hx⟩
 have cC:=KZ c.n c.sday c.smin c.swho pw cw w3 hd3 hw3 hcw;generalize hP:kR d c.n c.sday c.smin c.swho=P at cC
 have HP:Qo (doP d c=P):=by
  show _=_;rw[<-hP];unfold doP;repeat (first|rw[ay hk]|rw[aw (by omega)])
 clear b1 b2 b3 b12 b13 hd3 n1 n2 hP k1 m2 hw3;try rw[hk]at y0
 clear hk;go_enter func32,ntmps32;go_wp2_with fail;refine cC.mono ?_;rintro e w4 ⟨t',wv,lv,rfl,hd4,hk4,hw4,hl4⟩;obtain⟨t0,o1,o2,o3,o4⟩:=IN HB.o HQ.o hd4 hk4 hw4 hl4 (anC P.1 wv lv);obtain⟨p5,c5,rfl,_,_⟩:=hw4.here.1;obtain⟨p6,c6,rfl,_,_⟩:=hl4.here;have n4:=(hk4.blk _ HGX.o (aF n3)).trans n3;have HO:=aD (fF o1 (fF o2 (fF o3 o4)));have HR:=aD (aJ _ _ _ (anC P.1 (.slice p5 P.1.who.length c5) (.slice p6 P.1.list.length c6)) _ _ n4);clear cC hd4 hk4 hw4 hl4 o1 o2 o3 o4 n3;go_wp2_with(refine az rfl 28 _ _ rfl _ _ rfl rfl _ _ n4 (by kernel_rfl) rfl (by simp[anC,Value.oneCell']) ?_)
 refine aU (v:= .agg (anC P.1 (.slice p5 P.1.who.length c5) (.slice p6 P.1.list.length c6))) ?_ rfl ?_
 ·exact a6 rfl _ _ w2.heap.size _ _ _ _ rfl HR.o anT rfl (by kernel_rfl)
 ·rw[HP.o];exact⟨t0,_,_,rfl,HO.o.1,HO.o.2.1,HO.o.2.2.1,HO.o.2.2.2⟩
theorem I1 (c:Cm)(hk:1<=c.kind/\c.kind<=4):wf c:=fun _ _ _ _ w pr pw kr kw h hT hB hg hx hc _=>Nj c pr pw kr kw w h hc.text hT hB hg hx hc.name hc.roles hk
theorem OQ (c:Cm)(hk:c.kind=5):wf c:=fun _ _ _ _ w pr pw kr kw h _ _ _ _ hc hr=>Nk c pr pw kr kw w h (hc.cap _ _ _ rfl) hr hk
theorem OR (c:Cm)(hk:c.kind=1\/c.kind=2\/c.kind=3\/c.kind=4\/c.kind=5):wf c:=by
 by_cases h5:c.kind=5
 ·exact OQ c h5
 ·exact I1 c (by omega)
end
end
theorem FZ (t:List UInt8)(w:World):Calls prog 19 #[.string ⟨t.toArray⟩] w fun e w'=>e= .returned (.agg (doC (cR t) (af) (af)))/\ao w w':=by
 obtain⟨wA,hA,bA,nA⟩:=nb w #[ag 0,ag 0,ag 0,ag 0,.string ⟨#[]⟩,.string ⟨#[]⟩,ag 0,ag 0,ag 0,af,ag 0,ag 0,af] 37;have HF:=aD (aJ _ _ _ #[ag 1,ag 0,ag 0,ag 0,.string ⟨t.toArray⟩,.string ⟨#[]⟩,ag 0,ag 0,ag 0,af,ag 0,ag 0,af] _ _ nA);have HB:=aD (below_setRow bA (aA _) #[ag 1,ag 0,ag 0,ag 0,.string ⟨t.toArray⟩,.string ⟨#[]⟩,ag 0,ag 0,ag 0,af,ag 0,ag 0,af]);clear bA;go_enter func19,ntmps19;go_wp2_with(refine az rfl 37 _ _ rfl _ _ rfl rfl _ _ nA (by kernel_rfl) rfl (by simp[Value.oneCell']) ?_)
 refine aU (v:= .agg #[ag 1,ag 0,ag 0,ag 0,.string ⟨t.toArray⟩,.string ⟨#[]⟩,ag 0,ag 0,ag 0,af,ag 0,ag 0,af]) ?_ rfl ⟨rfl,HB.o⟩;exact a6 rfl _ _ w.heap.size _ _ _ _ rfl HF.o doT rfl (by kernel_rfl)
theorem tT (n day days:Int)(w:World):Calls prog 14 #[ag n,ag day,ag days] w fun e w'=>e= .returned (.agg (doC (cF n day days) (af) (af)))/\ao w w':=by
 obtain⟨wA,hA,bA,nA⟩:=nb w #[ag 0,ag 0,ag 0,ag 0,.string ⟨#[]⟩,.string ⟨#[]⟩,ag 0,ag 0,ag 0,af,ag 0,ag 0,af] 37;have HF:=aD (aJ _ _ _ #[ag 4,ag n,ag day,ag days,.string ⟨#[]⟩,.string ⟨#[]⟩,ag 0,ag 0,ag 0,af,ag 0,ag 0,af] _ _ nA);have HB:=aD (below_setRow bA (aA _) #[ag 4,ag n,ag day,ag days,.string ⟨#[]⟩,.string ⟨#[]⟩,ag 0,ag 0,ag 0,af,ag 0,ag 0,af]);clear bA;go_enter func14,ntmps14;go_wp2_with(refine az rfl 37 _ _ rfl _ _ rfl rfl _ _ nA (by kernel_rfl) rfl (by simp[Value.oneCell']) ?_)
 refine aU (v:= .agg #[ag 4,ag n,ag day,ag days,.string ⟨#[]⟩,.string ⟨#[]⟩,ag 0,ag 0,ag 0,af,ag 0,ag 0,af]) ?_ rfl ⟨rfl,HB.o⟩;exact a6 rfl _ _ w.heap.size _ _ _ _ rfl HF.o doT rfl (by kernel_rfl)
def oC (t:List UInt8)(len:Int)(rv:Value):List (Cm×Value×Value):=[(cR t,af,af),(cAd,af,af),(cS (sv1 len),rv,af)]
theorem Eg (t:List UInt8)(len:Int)(w:World)(ht:t.length<=9223372036854775807):Calls prog 12 #[.string ⟨t.toArray⟩,ag len] w fun e w'=> ∃v rv,e= .returned v/\ao w w'/\kT w.heap.size w' v (oC t len rv):=by
 have c1:=FZ t w;go_enter func12,ntmps12;go_wp2_with fail;refine c1.mono ?_;rintro e wr ⟨rfl,br⟩;clear c1;obtain⟨w1,h1,b1,n1⟩:=nb wr #[ag 0] 3;obtain⟨w2,h2,b2,n2⟩:=nb w1 #[.slice (some (ae wr.heap.size 0)) 1 1] 24;have HBR:=aD br;have HB1:=aD b1;have HB2:=aD b2;have HN1:=aD n1;have HN2:=aD n2;have HT:=aD ht;clear b1 b2 n1 n2 br ht;dsimp only[doC];go_wp2_with fail;go_ret;obtain⟨rv,hrv⟩:=aq (.slice (some (ae w1.heap.size 0)) 1 1:Value)
 suffices H: ∀W,w2.alloc (.cells ((oC t len rv).flatMap fun q=>(doC q.1 q.2.1 q.2.2).toList).toArray 37)=W->ao w W/\kT w.heap.size W (.slice (some (ae w2.heap.size 0)) 3 3) (oC t len rv) by
  rw[hrv];exact⟨_,rv,rfl,H _ rfl⟩
 intro w3 h3;obtain⟨w3',h3',b3,n3⟩:=nb w2 ((oC t len rv).flatMap fun q=>(doC q.1 q.2.1 q.2.2).toList).toArray 37;rw[h3]at h3';subst h3';have bb:=(au HBR.o HB1.o).trans (HB2.o.mono (aZ HBR.o.size HB1.o.size));refine⟨au bb b3,qO (n:=3) n3 bb.size rfl (by decide),fun q hq u hu ha=> ?_⟩;have ha': ∀k,k<w2.heap.size->u.heap[k]? =w2.heap[k]? :=fun k hk=>(ha k (fun e=>Nat.ne_of_lt hk (aK e)) (aP hk b3.size)).trans (b3.block k hk);subst hrv;rcases bo.1 hq with rfl|hq
 ·exact CE _ rfl rfl HT.o (dF _)
 rcases bo.1 hq with rfl|hq
 ·exact CE _ rfl rfl (dF _) (by decide)
 cases bK.1 hq;have y1:=bt HB2.o HN1.o;exact⟨Nh ((ha' _ (aF HN2.o)).trans HN2.o) (KK ((ha' _ (aF y1)).trans y1)),I0,dF _,dF _,fun p n k e=>by cases e;exact aA _⟩
def PP (cs:List Cm)(w:World)(e:Ending)(w':World):Prop:= ∃(a:An) (wv lv:Value),(eZ dk0 cs).1[cs.length-1]? =some a/\e= .returned (.agg (anC a wv lv))/\mn w.heap.size w' wv a.who/\dR w' lv a.list/\ao w w'
theorem F0 (l:List Cm):(eZ dk0 l).1.length=l.length:=by rw[(Cw l).1,qP]
theorem CF (cs:List (Cm×Value×Value))(v:Value)(w:World)(hs:mY w v cs)(h0:0<cs.length)(h60:cs.length<=60)(hT:Tbs w.heap.size w)(hok: ∀q∈cs,wf q.1):Calls prog 11 #[v] w (PP (cs.map fun q=>q.1) w):=by
 obtain⟨wA,hA,bA,nA⟩:=nb w #[ag 0,ag 0,ag 0,ag 0,af,af] 28
 have c1:=KW w.heap.size [w.heap.size] cs v wA bA.size (hs.below bA) (fun W hW=>hT W (bA.trans hW)) hok (fun q hq u hu ha=>by
  obtain⟨_,_,_,_,h3⟩:=id hs;obtain⟨j,hj⟩:=List.getElem?_of_mem hq;exact Dp (h3 j q hj).1.who fun k hk=>(ha k hk (aP hk bA.size)).trans (bA.block k hk)) (fun q hq=>by
  cases bK.1 hq;exact⟨aA _,_,_,_,nA,by decide⟩)
 have HBA:=aD bA;have NA:=aD nA;obtain⟨n,hn⟩: ∃n,cs.length=n+1:=⟨cs.length-1,by omega⟩
 have hcl:(cs.map fun q=>q.1).length=n+1:=by rw[a8,hn]
 obtain⟨L,hL⟩:=aq (cs.map fun q=>q.1);rw[hL]at hcl c1⊢;have h60':n+1<=60:=by omega
 clear bA nA hT hok hs hn hL h0 h60;go_enter func11,ntmps11;go_wp2_with fail;refine c1.mono ?_;clear c1;rintro e w5 ⟨b5,h5⟩;rcases h5 with⟨hl,_⟩|⟨hl,rw',ev,sv,av,asv,ss,aa,ls,rfl,hR⟩
 ·omega
 clear hl;have hP:=hR.here
 have hl5:ls.length=n+1:=by
  have:=congrArg List.length hP.ane;rw[a8,F0,hcl]at this;exact this
 obtain⟨us,hus,hx3⟩:=hP.rules;obtain⟨p1,k1,rfl⟩:=hus.form;obtain⟨p2,k2,rfl⟩:=c8 hP.res;obtain⟨p3,k3,rfl⟩:=c8 hP.svs;obtain⟨pa,ka,rfl⟩:=c8 hP.aps;obtain⟨q,hq⟩: ∃q,ls[n]? =some q:=⟨_,ax (by omega)⟩
 have fq:(eZ dk0 L).1[L.length-1]? =some q.1:=by
  rw[hcl,Nat.add_sub_cancel,<-hP.ane,bg,hq];rfl
 have hrr:Rob (fun k=>k∉[w.heap.size]) (fun u=>mn w.heap.size u q.2.1 q.1.who/\dR u q.2.2 q.1.list) w5:=hR.imp fun u hu=>hu.anr q (aL hq);obtain⟨hr1,hr2⟩:=hP.anr q (aL hq);obtain⟨⟨pw,kw,ew,_,_⟩,_⟩:=hr1;obtain⟨pl,kl,el,_,_⟩:=hr2;obtain⟨g,c,hv,hx1,r3⟩:=lD (f:=fun p:An×Value×Value=>anC p.1 p.2.1 p.2.2) (fun _=>rfl) hP.ans rfl hq;subst hv;clear hR hP hus hx1 hx3 hq;obtain⟨a,wv,lv⟩:=q;dsimp only at hrr ew el r3 fq;subst ew el;have HRR:=aD hrr;have HF:=aD fq;rw[hl5];clear hl5 hrr fq;generalize us.length=n1;generalize ss.length=n3;generalize aa.length=n4;generalize (eZ dk0 L).2.res.length=n2;generalize (eZ dk0 L).2.runs=rn;obtain⟨wZ,wC,hZ,nZ,hC,bC,nC⟩:=nbs w5 #[af,af,af,af] #[.slice p1 n1 k1,.slice p2 n2 k2,.slice p3 n3 k3,.slice pa n4 ka] 69;have r4:=il r3 bC;have nA':=bt bC (bt b5 NA.o);have HB:=aD (HBA.o.trans ((au b5 bC).mono HBA.o.size));have HW:=aD (below_setRow HB.o (aA _) (anC a (.slice pw a.who.length kw) (.slice pl a.list.length kl)));have HX:=aD (aJ _ _ _ (anC a (.slice pw a.who.length kw) (.slice pl a.list.length kl)) _ _ nA');have HC:=aD bC;clear r3 bC b5 nC;have hw1:IntKind.i64.wrap (((n+1:Nat):Int)-1)=(n:Int):=by rw[bq];omega
 have hnz: ¬((n+1:Nat):Int)=0:=by omega
 go_wp2_with(first|(refine az rfl 69 _ _ rfl _ _ rfl rfl _ _ nZ (by kernel_rfl) rfl (by simp[Value.oneCell']) ?_;rw[hC])|(refine wpList_load_mid rfl 28 _ rfl g (n*6) rfl (anC a (.slice pw a.who.length kw) (.slice pl a.list.length kl)).toList _ r4 anT rfl (by kernel_rfl) ?_)|(refine az rfl 28 _ _ rfl _ _ rfl rfl _ _ nA' (by kernel_rfl) rfl (by simp[anC,Value.oneCell']) ?_))
 refine aU (v:= .agg (anC a (.slice pw a.who.length kw) (.slice pl a.list.length kl))) ?_ rfl (by
  have h:=HRR.o ((wC.setRow w.heap.size (anC a (.slice pw a.who.length kw) (.slice pl a.list.length kl)))) ?_ ?_
  ·exact⟨a,_,_,HF.o,rfl,h.1,h.2,HW.o⟩
  ·exact aZ HC.o.size (below_setRow (aG 0 wC) (dF _) _).size
  ·exact fun k hk hl=>(aT _ _ _ _ fun e=>hk (bK.2 e)).trans (HC.o.block k hl))
 ·exact a6 rfl _ _ w.heap.size _ _ _ _ rfl HX.o anT rfl (by kernel_rfl)
theorem wl {w0 w1 w2:World}{v:Value}{cs:List (Cm×Value×Value)}(hO:kT w0.heap.size w1 v cs)(b1:ao w0 w1)(b2:ao w1 w2)(n day days:Int): ∃w3,w2.alloc (.cells (doC (cF n day days) (af) (af)) 37)=w3/\ao w0 w3/\kT w0.heap.size w3 v cs/\mY w3 (.slice (some (ae w2.heap.size 0)) 1 1) [(cF n day days,af,af)]/\ ∀q∈[((cF n day days,af,af):Cm×Value×Value)],Rob (fun k=>some k≠v.ownBlock) (fun u=>la u q.1 q.2.1 q.2.2) w3:=by
 obtain⟨w3,h3,b3,n3⟩:=nb w2 (doC (cF n day days) (af) (af)) 37;have b13:=au b2 b3
 have hR: ∀(P:Nat->Prop),∀q∈[((cF n day days,af,af):Cm×Value×Value)],Rob P (fun u=>la u q.1 q.2.1 q.2.2) w3:=fun P q hq u _ _=>by
  cases bK.1 hq;exact CE _ rfl rfl (dF _) (dF _)
 exact⟨w3,h3,au b1 b13,hO.below b13,yS (B:=0) (qO (n:=1) n3 (dF _) rfl (by decide)) (fun q hq=>(hR (fun _=>True) q hq).here) (by decide:1<9223372036854775808),hR _⟩
theorem Nl {t:List UInt8}{L:List Ru}(h:fE t=(0,L))(ha:0<=atP5 L [97]){len:Int}(hl:1<=len/\len<=1440)(day days:Int):(eZ dk0 [cR t,cAd,cS (sv1 len),cF 0 day days]).1[3]? =some (oz (c1 L len []) 0 day days).1:=by
 rw[(Cw _).1];show(jj co0 ([cR t,cAd,cS (sv1 len)]++[cF 0 day days])).1[3]? =_;rw[oR,CC h ha hl];rfl
theorem K4 {w0 w4:World}{v:Value}{t:List UInt8}{len day days:Int}{rv:Value}(hO:kT w0.heap.size w4 v (oC t len rv++[(cF 0 day days,af,af)]))(hb:ao w0 w4)(hT:Tbs w0.heap.size w0){A:An}(hA:(eZ dk0 [cR t,cAd,cS (sv1 len),cF 0 day days]).1[3]? =some A):Calls prog 11 #[v] w4 fun e w'=> ∃(p q:Option Addr) (k m:Nat),e= .returned (.agg (anC A (.slice p A.who.length k) (.slice q A.list.length m)))/\ao w4 w':=by
 refine(CF _ v w4 (hO.row (by show 4<9223372036854775808;decide)) (by show 0<4;decide) (by show 4<=60;decide) (fun W hW=>hT W (au hb hW)) fun q hq=>I1 _ ?_).mono ?_
 ·have:q.1.kind=1\/q.1.kind=2\/q.1.kind=3\/q.1.kind=4:=by
   simp only[oC,List.cons_append,List.nil_append,bo,List.not_mem_nil,or_false]at hq;rcases hq with rfl|rfl|rfl|rfl
   ·exact .inl rfl
   ·exact .inr (.inl rfl)
   ·exact .inr (.inr (.inl rfl))
   ·exact .inr (.inr (.inr rfl))
  omega
 ·rintro e w' ⟨a,wv,lv,h1,rfl,⟨⟨p,k,rfl,_⟩,_⟩,⟨q,m,rfl,_⟩,h4⟩;have h1':(eZ dk0 [cR t,cAd,cS (sv1 len),cF 0 day days]).1[3]? =some a:=h1;rw[hA]at h1';cases aK h1';exact⟨p,q,k,m,rfl,h4⟩
theorem I2 (w:World)(hT:Tbs w.heap.size w):Calls prog 10 #[] w fun e w'=>e= .returned (.bool true)/\ao w w':=by
 have c1:=Eg aS 30 w (by decide)
 have hA:(eZ dk0 [cR aS,cAd,cS (sv1 30),cF 0 7 1]).1[3]? =some ⟨0,0,7,540,[0],[]⟩:=by
  rw[Nl OO (by decide) (by decide)];exact congrArg some ((OM (a:=540) (b:=1020) (len:=30) (day:=7) (days:=1) (by decide) (by decide) (by decide) (by decide) (by decide)).trans (aw (by decide)))
 have HA:=aD hA;have HT:=aD hT;clear hT hA;go_enter func10,ntmps10;go_wp2_with fail;refine c1.mono ?_;rintro e w1 ⟨v,rv,rfl,b1,ho⟩;clear c1;have HB1:=aD b1;have HO:=aD ho;have c2:=tT 0 7 1 w1;obtain⟨p,k,hv⟩:=c8 ho.1;subst hv;clear ho b1;go_wp2_with fail;refine c2.mono ?_;rintro e w2 ⟨rfl,b2⟩;clear c2;obtain⟨w3,h3,b3,o3,x3,r3⟩:=wl HO.o HB1.o b2 0 7 1;have HB3:=aD b3;have HO3:=aD o3;have HX:=aD x3;have HR:=aD r3;clear b3 o3 x3 r3 b2 HO;dsimp only[doC,oC,List.length]at*;go_wp2_with(refine lF rfl _ _ rfl rfl HO3.o rfl HX.o (show 0<1 by decide) HR.o (show 4<=100000 by decide) HB3.o.size ?_;intro v' w4 hO4 b4 _)
 have hb4:=HB3.o.trans b4;have HB4:=aD hb4;have c3:=K4 hO4 hb4 HT.o HA.o;clear hO4 hb4 b4 HB3 HO3 HX HR;refine c3.mono ?_;clear c3;rintro e w5 ⟨p1,p2,k1,k2,rfl,b5⟩;obtain⟨wZ,wC,hZ,nZ,hC,bC,nC⟩:=nbs w5 #[ag 0,ag 0,ag 0,ag 0,af,af] #[ag 0,ag 0,ag 7,ag 540,.slice p1 1 k1,.slice p2 0 k2] 28;have z0:=cr 0 nC rfl;have z3:=cr 3 nC rfl;have z4:=cr 4 nC rfl;have HB5:=aD (au HB4.o b5);have HB6:=aD (au HB5.o bC);clear b5 bC;dsimp only[anC,List.length];go_wp2_with(refine az rfl 28 _ _ rfl _ _ rfl rfl _ _ nZ (by kernel_rfl) rfl (by simp[Value.oneCell']) ?_;rw[hC])
 go_ret;exact⟨rfl,HB6.o⟩
theorem yU {s:ByteArray}{l:List UInt8}(h:s.data=l.toArray):Value.string s= .string ⟨l.toArray⟩:=by
 cases s;simp at h;rw[h]
theorem Nm (t:List UInt8)(len:Int)(w:World)(ht:t.length<=9223372036854775807)(s:ByteArray)(hs:s.data=t.toArray):Calls prog 12 #[.string s,ag len] w fun e w'=> ∃v rv,e= .returned v/\ao w w'/\kT w.heap.size w' v (oC t len rv):=by
 rw[yU hs];exact Eg t len w ht
namespace Lx
def pad2 (n:Nat):List UInt8:=[UInt8.ofNat (48+n/10),UInt8.ofNat (48+n%10)]
def clockL (n:Int):List UInt8:=pad2 (n.toNat/60)++58::pad2 (n.toNat%60)
def LB (n:Int)(t:Int×Int×Int):Bool:=decide (1<=t.2.2/\t.2.2<=Cal.dim t.1 t.2.1/\Cal.num t.1 t.2.1 t.2.2=n)
def F1 (n:Int)(p:Nat×Nat):Int×Int×Int:=(2000+(p.1:Int),1+(p.2:Int),n-Cal.ys (2000+(p.1:Int))-Cal.cum (2000+(p.1:Int)) (1+(p.2:Int))+1)
def OS:List (Nat×Nat):=(List.range 400).flatMap fun i=>(List.range 12).map fun j=>(i,j)
def ymd (n:Int):Int×Int×Int:=match OS.find? (fun p=>LB n (F1 n p)) with
 |some p=>F1 n p
 |none=>(0,0,0)
def yc (n:Int):List UInt8:=Lib.decDigits (ymd n).1.toNat++45::(pad2 (ymd n).2.1.toNat++45::pad2 (ymd n).2.2.toNat)
def yd (a b:Int):List UInt8:=if a=b then yc a else yc a++([46,46]++yc b)
def PQ (a:Int)(i:Nat):Bool:=decide ((a.toNat/2^i)%2=1)
def CG (a:Int):Nat->List (List UInt8)
 |0=>[]
 |i+1=>if PQ a i then CG a i++[eO.getD i []] else CG a i
def AX (a:Int):List UInt8:=Lib.join (CG a 7) [44]
def kR (k:Int):Nat:=if k=6\/k=7 then 0 else if k=8 then 1 else if k=4\/k=5 then 2 else 3
def g6 (e:Ex)(t:Nat->Nat->List UInt8):List UInt8:=
 if e.kind=1 then [110,101,118,101,114] else if e.kind=2 then [97,108,119,97,121,115]
 else if e.kind=3 then clockL e.a++45::clockL e.b else if e.kind=10 then e.name
 else if e.kind=6 then t 0 0++([32,43,32]++t 1 1) else if e.kind=7 then t 0 0++([32,45,32]++t 1 1) else if e.kind=8 then t 0 1++([32,38,32]++t 1 2)
 else if e.kind=9 then t 0 3++([32,115,104,105,102,116,32]++Lib.itoa e.a)
 else if e.kind=4 then [119,101,101,107,108,121,32]++AX e.a++[58,32]++t 0 2
 else if e.kind=5 then [100,97,116,101,115,32]++yd e.a e.b++[58,32]++t 0 2 else []
theorem OT {e:Ex}{t:Nat->Nat->List UInt8}(h:e.kind=1):g6 e t=[110,101,118,101,114]:=by
 unfold g6;rw[h];rfl
theorem OU {e:Ex}{t:Nat->Nat->List UInt8}(h:e.kind=2):g6 e t=[97,108,119,97,121,115]:=by
 unfold g6;rw[h];rfl
theorem OV {e:Ex}{t:Nat->Nat->List UInt8}(h:e.kind=3):g6 e t=clockL e.a++45::clockL e.b:=by
 unfold g6;rw[h];rfl
theorem Nn {e:Ex}{t:Nat->Nat->List UInt8}(h:e.kind=10):g6 e t=e.name:=by
 unfold g6;rw[h];rfl
theorem OW {e:Ex}{t:Nat->Nat->List UInt8}(h:e.kind=6):g6 e t=t 0 0++([32,43,32]++t 1 1):=by
 unfold g6;rw[h];rfl
theorem OX {e:Ex}{t:Nat->Nat->List UInt8}(h:e.kind=7):g6 e t=t 0 0++([32,45,32]++t 1 1):=by
 unfold g6;rw[h];rfl
theorem OY {e:Ex}{t:Nat->Nat->List UInt8}(h:e.kind=8):g6 e t=t 0 1++([32,38,32]++t 1 2):=by
 unfold g6;rw[h];rfl
theorem OZ {e:Ex}{t:Nat->Nat->List UInt8}(h:e.kind=9):g6 e t=t 0 3++([32,115,104,105,102,116,32]++Lib.itoa e.a):=by
 unfold g6;rw[h];rfl
theorem O0 {e:Ex}{t:Nat->Nat->List UInt8}(h:e.kind=4):g6 e t=[119,101,101,107,108,121,32]++AX e.a++[58,32]++t 0 2:=by
 unfold g6;rw[h];rfl
theorem O1 {e:Ex}{t:Nat->Nat->List UInt8}(h:e.kind=5):g6 e t=[100,97,116,101,115,32]++yd e.a e.b++[58,32]++t 0 2:=by
 unfold g6;rw[h];rfl
def brk (b:Bool)(s:List UInt8):List UInt8:=if b then [40]++s++[41] else s
def lX (e:Ex)(least:Nat):List UInt8:=
 brk (decide (kR e.kind<least)) (g6 e fun j l=>match e.kids.attach[j]? with|some k=>lX k.1 l|none=>[])
 termination_by SizeOf.sizeOf e
 decreasing_by exact gJ k.2
def wm (ks:List Ex)(j l:Nat):List UInt8:=match ks[j]? with|some k=>lX k l|none=>[]
theorem K5 (e:Ex)(least:Nat):lX e least=brk (decide (kR e.kind<least)) (g6 e (wm e.kids)):=by
 rw[lX];congr 2;funext j l;unfold wm
 have h: ∀(o:Option {x//x∈e.kids}) (p:Option Ex),o.map Subtype.val=p->(match o with|some k=>lX k.1 l|none=>[])=(match p with|some k=>lX k l|none=>[]):=by
  intro o p h;subst h;cases o<;>rfl
 exact h _ _ (by rw[<-bg,fG])
end Lx
end Go.Proofs.YtjkilacmkbmmbaaGreatDoor
