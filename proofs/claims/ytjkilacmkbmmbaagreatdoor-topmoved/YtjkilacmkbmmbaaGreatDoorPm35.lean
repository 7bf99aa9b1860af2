/- Texts of the proof. -/
import Derived.Test.YtjkilacmkbmmbaaGreatDoorPm34
import Derived.Test.YtjkilacmkbmmbaaGreatDoorPm33
set_option maxRecDepth 100000
set_option maxHeartbeats 8000000
namespace Go.Proofs.YtjkilacmkbmmbaaGreatDoor
open Go.Proofs.Tryz Go.RowKit Lx Vx Mx Msk
section
theorem OK:(prog.info? 122).map (fun i=>(i.zero,i.size,i.bytes))=some (some (.agg #[ag 0,ag 0,ag 0,ag 0,ag 0,ag 0,ag 0,ag 0,ag 0,ag 0,af]),11,104):=by kernel_rfl
theorem Od:prog.underlying 67=some (.slice 122):=by kernel_rfl
def vO (d:Dk)(a:Ap):Prop:=(0<=a.sv/\a.sv<d.svs.length)/\(0<=a.fr/\a.fr<=a.to/\a.to<=1440)/\(0<=a.left/\a.left<=10)/\(0<=a.bef/\a.bef<=1440/\0<=a.aft/\a.aft<=1440/\0<=a.len/\a.len<=1440)/\(0<=a.day/\a.day<146097)/\a.who.length<=4/\ ∀r∈a.who,0<=r/\r<d.res.length
theorem zW {d:Dk}{num:Int}{a:Ap}{day min:Int}{who:List Int}(hd:BC d)(hs:0<=a.sv/\a.sv<d.svs.length)(hl:0<=a.left/\a.left<=10)(hm:0<=a.bef/\a.bef<=1440/\0<=a.aft/\a.aft<=1440/\0<=a.len/\a.len<=1440)(h:(eQ d num a day min who).1.2=0):vO d (eQ d num a day min who).1.1:=by
 unfold eQ at h⊢;dsimp only at h⊢;by_cases h1:isN day 146097=false\/isN min 1440=false
 ·rw[az h1]at h;cases h
 rw[aw h1]at h⊢;by_cases h2:min-a.bef<0\/1440<min+a.len+a.aft
 ·rw[az h2]at h;cases h
 rw[aw h2]at h⊢;by_cases h3:jG who (d.svs.getD a.sv.toNat sv0).roles≠0
 ·rw[az h3]at h;exact absurd h h3
 rw[aw h3]at h⊢;split at h
 ·cases h
 ·rename_i h4;rw[aw h4];obtain⟨s,hsv⟩: ∃s,d.svs[a.sv.toNat]? =some s:=⟨d.svs[a.sv.toNat]'(by omega),ax _⟩
  have e:d.svs.getD a.sv.toNat sv0=s:=(by simp[List.getD,hsv]);rw[e]at h3;have hw:=Dw (hd.sv s (aL hsv)) (fu h3)
  have hdy:0<=day/\day<146097:=by
   have:isN day 146097=true:=by
    cases hq:isN day 146097 with
    |true=>rfl
    |false=>exact absurd (.inl hq) h1
   simpa[isN] using this
  exact⟨hs,⟨by show 0<=min-a.bef;omega,by show min-a.bef<=min+a.len+a.aft;omega,by show min+a.len+a.aft<=1440;omega⟩,hl,hm,hdy,hw.2,hw.1⟩
theorem JY (aa:List (Ap×Value))(p:Ap×Value):apF (aa++[p])=apF aa++(apC p).toList:=by simp[apF]
theorem DkM.addAp {B gD:Nat}{d:Dk}{t:Tr}{rv cv vv kv:Value}{ss:List (Sv×Value)}{aa:List (Ap×Value)}{wX W0 W1 W:World}{a:Ap}{v v':Value}(hm:DkM B gD d t rv cv vv kv ss aa wX)(hG:qg wX B 122 11 aa.length t.av (apF aa) (apC (a,v)) v' W0 W1)(hb:Below W1.heap.size (W1.setCell ⟨gD,3,none⟩ v') W)(hrob:Rob (Fx gD t) (fun u=>dJ u v a.who) wX):
  DkM B gD {d with aps:=d.aps++[a]} {t with av:=v'} rv cv vv kv ss (aa++[(a,v)]) W/\Kd gD t {t with av:=v'} wX W:=by
 obtain⟨hb0,hgr,hv,hown⟩:=hG;have hm0:=hm.below hb0;have hkd:=BJ (t':={t with av:=v'}) (k:=3) hm0 (.inr (.inr rfl)) hgr hv (.inr (.inr ⟨rfl,rfl⟩));have blk2:=(hgr.block gD (aF hm0.blk) fun e=>gX hm0.aps hm0.blk (by decide) e.symm).trans hm0.blk;have hne: ∀b,v'.ownBlock=some b->b≠gD:=fun b hb' e=>gX hown blk2 (by decide) (by rw[hb',e]);have hbW:Below (W1.setCell ⟨gD,3,none⟩ v').heap.size (W1.setCell ⟨gD,3,none⟩ v') W:=hb.mono (by simp);have hkW:=hkd.trans (Kd.of hbW);have keep: ∀{e s n:Nat} {u:Value} {xs:List Value},(W1.setCell ⟨gD,3,none⟩ v').ownsRow B e s u n xs->W.ownsRow B e s u n xs:=fun hr=>bp hr fun b hq=>hbW.block b (hr.lt b hq).2;refine⟨hm0.turn hkW (bt hbW (aW W1 gD 3 _ _ v' blk2)) rfl rfl rfl (keep (pB ⟨_,hm0.blk⟩ hm0.res hm0.aps (by decide) (by decide) hgr)) (keep (pB ⟨_,hm0.blk⟩ hm0.svs hm0.aps (by decide) (by decide) hgr)) (keep (bp ?_ fun b hq=>aM W1 ⟨gD,3,none⟩ b v' (hne b hq))) hm0.sve (by simp[hm0.ape]) (fun p hp=> .inl hp) (fun p hp=> ?_),(Kd.of hb0).trans hkW⟩
 ·rw[aN,JY];exact hown
 ·rcases bQ.1 hp with hp|hp
  ·exact .inl ⟨p.1,hp,rfl⟩
  ·rw[bK.1 hp];exact .inr (hkW.rob (hrob.below hb0))
structure ApJ (wX:World)(B gD:Nat)(c:Array Value)(v:Value)(na:Nat)(aa:List (Ap×Value))(M:Nat->Bool)(φ:Nat->Value)(W:World):Prop where
 bel:M 8=false->ao wX W
 one:M 7=true->M 8=false-> ∃g k,φ 62= .slice (some (ae g 0)) 1 k/\W.heap[g]? =ah c 122
 app:M 8=true->M 12=false-> ∃g k W0,φ 63= .slice (some (ae g 0)) (na+1) k/\qg wX B 122 11 na v (apF aa) c (φ 63) W0 W
 sto:M 12=true-> ∃g k W0 W1,φ 63= .slice (some (ae g 0)) (na+1) k/\qg wX B 122 11 na v (apF aa) c (φ 63) W0 W1/\Below W1.heap.size (W1.setCell ⟨gD,3,none⟩ (φ 63)) W
section
variable {B gD:Nat} {d:Dk} {t:Tr}
theorem JZ (n day min:Int)(who:List Int)(pw:Option Addr)(cw:Nat)(w:World)(h:dq B gD d t w)(hw:Rob (Fx gD t) (fun u=>dJ u (.slice pw who.length cw) who) w)(hcw:who.length<=cw):Calls prog 51 #[ab gD 0,ag n,.agg #[ag day,ag min,.slice pw who.length cw]] w (qU B gD (lR d n day min who) t w):=by
 obtain⟨w1,h1,b1,n1⟩:=nb w #[ag day,ag min,.slice pw who.length cw] 26;obtain⟨w2,h2,b2,n2⟩:=nb w1 #[ag 0,ag 0,ag 0,ag 0,af,af] 28;have s1:w1.heap.size=w.heap.size+1:=by rw[<-h1];simp
 have s2:w2.heap.size=w1.heap.size+1:=by rw[<-h2];simp
 have b02:=au b1 b2;have hd2:=h.opened (q:=w1.heap.size) b1.size s2 b02;have m1:=bt b2 n1;have HD2:=aD hd2;have HK2:OP (Kd gD t t w w2):=Kd.of b02;have H0:=aD h;have HW:=aD hw;have HB02:=aD b02;have HG:OP (∀q,w.heap.size<=q->Gx gD t q):=fun q hq=>(h.fx (.inr hq)).1;obtain⟨hok,rv,cv,vv,kv,ss,aa,hm⟩:=hd2;have hss:ss.length=d.svs.length:=by rw[<-hm.sve,a7]
 have haa:aa.length=d.aps.length:=by rw[<-hm.ape,a7]
 obtain⟨ps,cs,hsv⟩:=bU hm.svs;obtain⟨pa,ca,hav⟩:=bU hm.aps;obtain⟨ns,hns⟩:=aq ss.length;obtain⟨na,hna⟩:=aq aa.length;rw[hns]at hsv;rw[hna]at hav;have z2:w2.cell? (ae gD 2)=some (.slice ps ns cs):=(cr (v:=t.sv) 2 hm.blk rfl).trans (congrArg some hsv);have z3:w2.cell? (ae gD 3)=some (.slice pa na ca):=(cr (v:=t.av) 3 hm.blk rfl).trans (congrArg some hav);have HNS:OP (d.svs.length=ns):=by show _=_;rw[<-hss,hns]
 have HNA:OP (d.aps.length=na):=by show _=_;rw[<-haa,hna]
 have HSV:OP (t.sv= .slice ps ns cs):=hsv;have HSS:=aD hns;have HM:=aD hm;have HOK:=aD hok;have hna30:na<=30:=by rw[<-HNA.o];exact hok.al
 have cN:=pA n (ns:Int) w2;obtain⟨c1,hb1⟩:=aq (isN n (ns:Int));rw[hb1]at cN;have HB1:=aD hb1;have hw1:w.heap.size<w1.heap.size:=by omega
 have hw2:w1.heap.size<w2.heap.size:=by omega
 clear h hw b1 b2 b02 hm hok hss haa hsv hav hns hna hb1 n1 s1 s2;go_enter func51,ntmps51;go_wp2_with fail;refine cN.mono ?_;rintro e wa ⟨rfl,hwa⟩;subst hwa;clear cN;cases c1 with
 |false=>
  have HP:OP (lR d n day min who=(noA 6,d)):=(by show _=_;unfold lR;rw[HNS.o,az HB1.o]);clear h1 h2 z2 z3 m1;have cR:=eZ 6 wa;go_wp2_with fail;refine cR.mono ?_;rintro e w9 ⟨rfl,b9⟩;have n9:=bt b9 n2;have HO:=aD (fy (HD2.o.below b9) (HK2.o.trans (Kd.of b9)) (by omega) (anC (noA 6) (af) (af)));have HR:=aD (aJ _ _ _ (anC (noA 6) (af) (af)) _ _ n9);clear cR b9 n2;go_wp2_with(refine ay rfl 28 _ _ rfl _ _ rfl rfl _ _ n9 (by kernel_rfl) rfl (by simp[anC,noA,Value.oneCell']) ?_)
  refine aU (v:= .agg (anC (noA 6) (af) (af))) ?_ rfl ?_
  ·exact aZ rfl _ _ w1.heap.size _ _ _ _ rfl HR.o anT rfl (by kernel_rfl)
  ·rw[HP.o];exact⟨t,_,_,rfl,HO.o.1,HO.o.2,fd _ _,dV _ _⟩
 |true=>
  by_cases h30:30<=na
  ·have h30':(30:Int)<=(na:Int):=(by omega);have HP:OP (lR d n day min who=(noA 5,d)):=(by show _=_;unfold lR;rw[HNS.o,aw (by rw[HB1.o];simp),HNA.o,az h30]);clear h1 h2 z2 m1;have cR:=eZ 5 wa;go_wp2_with fail;refine cR.mono ?_;rintro e w9 ⟨rfl,b9⟩;have n9:=bt b9 n2;have HO:=aD (fy (HD2.o.below b9) (HK2.o.trans (Kd.of b9)) (by omega) (anC (noA 5) (af) (af)));have HR:=aD (aJ _ _ _ (anC (noA 5) (af) (af)) _ _ n9);clear cR b9 n2;go_wp2_with(refine ay rfl 28 _ _ rfl _ _ rfl rfl _ _ n9 (by kernel_rfl) rfl (by simp[anC,noA,Value.oneCell']) ?_)
   refine aU (v:= .agg (anC (noA 5) (af) (af))) ?_ rfl ?_
   ·exact aZ rfl _ _ w1.heap.size _ _ _ _ rfl HR.o anT rfl (by kernel_rfl)
   ·rw[HP.o];exact⟨t,_,_,rfl,HO.o.1,HO.o.2,fd _ _,dV _ _⟩
  ·have h30': ¬(30:Int)<=(na:Int):=(by omega);have hn:0<=n/\n<(ns:Int):=(by have:=HB1.o;simpa[isN] using this);obtain⟨k,rfl⟩: ∃k:Nat,n=(k:Int):=⟨n.toNat,by omega⟩
   have hks:k<ss.length:=(by rw[HSS.o];omega);have hk0:(0:Int)<=(k:Int):=(by omega);have hkn:(k:Int)<(ns:Int):=hn.2;obtain⟨⟨s,sv⟩,hsk⟩: ∃q,ss[k]? =some q:=⟨ss[k],ax hks⟩
   have hsd:d.svs[k]? =some s:=(by rw[<-HM.o.sve,bg,hsk];rfl);obtain⟨pr,crr,hse,_,_⟩:=(HM.o.svr _ (aL hsk)).here;dsimp only at hse;subst hse;obtain⟨gs,cs',e1,_,hrg⟩:=kF vD HM.o.svs rfl hsk;have e0:Value.slice ps ns cs= .slice (some (ae gs 0)) ns cs':=(by rw[<-HSV.o,<-HSS.o];exact e1);injection e0 with e2 e3 e4;subst e2 e4;obtain⟨A0,hA0⟩: ∃q:Ap,q=⟨1,10,0,0,(k:Int),s.bef,s.aft,s.len,0,0,[]⟩:=⟨_,rfl⟩
   obtain⟨wY,w3,hY,nY,h3,b3,n3⟩:=nbs wa #[ag 0,ag 0,ag 0,af] (svC (s,.slice pr s.roles.length crr)) 35;obtain⟨wZ,w4,hZ,nZ,h4,b4,n4⟩:=nbs w3 #[ag 0,ag 0,ag 0,ag 0,ag 0,ag 0,ag 0,ag 0,ag 0,ag 0,af] #[ag 1,ag 10,ag 0,ag 0,ag (k:Int),ag s.bef,ag s.aft,ag s.len,ag 0,ag 0,af] 122;have s4:w4.heap.size=w3.heap.size+1:=(by rw[<-h4,<-hZ];simp);have hd4:=(HD2.o.below b3).opened (q:=w3.heap.size) (aA _) s4 b4;have b24:=au b3 b4;have q0:w3.cell? (ae wa.heap.size 0)=some (ag s.len):=cr 0 n3 rfl;have q1:w3.cell? (ae wa.heap.size 1)=some (ag s.bef):=cr 1 n3 rfl;have q2:w3.cell? (ae wa.heap.size 2)=some (ag s.aft):=cr 2 n3 rfl;have m4:=bt b24 m1;have l4:=bt b24 n2;have hms:=(rW (HOK.o.sv s (aL hsd))).meas
   have hms':0<=s.bef/\s.bef<=1440/\0<=s.aft/\s.aft<=1440/\0<=s.len/\s.len<=1440:=by
    unfold iT at hms;have:=fB hms;omega
   have hsvs:0<=A0.sv/\A0.sv<d.svs.length:=(by rw[hA0,HNS.o];exact⟨hk0,hkn⟩);have hbds:0<=A0.bef/\A0.bef<=1440/\0<=A0.aft/\A0.aft<=1440/\0<=A0.len/\A0.len<=1440:=(by rw[hA0];exact hms');have h34:wa.heap.size<w3.heap.size:=aF n3;have HB04:=aD (au HB02.o b24)
   have hw4:Rob (Fx gD ((t.add w1.heap.size).add w3.heap.size)) (fun u=>dJ u (.slice pw who.length cw) who) w4:=HW.o.move HB04.o.size (fun q _ hl=>HB04.o.block q hl) fun q hl hq=>⟨hq.1,fun hx=>by
    rcases bl.1 hx with e|hx
    ·omega
    ·rcases bl.1 hx with e|hx
     ·omega
     ·exact hq.2 hx⟩
   have cP:=xF (-1) A0 none pw 0 cw day min who w4 hd4 hsvs hbds hw4 hcw;obtain⟨P,hP⟩:=aq (eQ d (-1) A0 day min who);rw[hP]at cP;unfold uy at cP
   have HPP:OP (lR d (k:Int) day min who=if P.1.2≠0 then(noA P.1.2,P.2) else(gT P.2.aps.length,{P.2 with aps:=P.2.aps++[P.1.1]})):=by
    show _=_;have e:d.svs.getD k sv0=s:=(by simp[List.getD,hsd]);unfold lR;rw[HNS.o,aw (by rw[HB1.o];simp),HNA.o,aw h30];simp only[bT,e];rw[hA0]at hP;rw[hP]
   have HCR:OP (Cor d P.2):=(by have:=lJ d (-1) A0 day min who;rw[hP]at this;exact this)
   have HAP:OP (P.1.2=0->vO d P.1.1):=fun e=>by
    have:=zW (num:= -1) (a:=A0) (day:=day) (min:=min) (who:=who) HOK.o hsvs (by rw[hA0];exact⟨by show(0:Int)<=10;omega,fo _⟩) hbds (by rw[hP];exact e);rw[hP]at this;exact this
   subst hA0;obtain⟨nw,hnw⟩:=aq who.length;rw[hnw]at cP m4⊢;have HK4:=aD (Kd.of (gD:=gD) (t:=t) HB04.o);have hs4:wa.heap.size<w4.heap.size:=(by omega);clear h1 h2 hn hks hsk hsd e1 e3 hd4 b24 hms hms' hsvs hbds hw4 hP b3 b4 m1 n2 s4 hnw hcw HB04 HB02;go_wp2_with(first|(refine wpList_load_mid rfl 35 _ rfl gs (k*4) rfl (svC (s,.slice pr s.roles.length crr)).toList _ hrg svT rfl (by kernel_rfl) ?_)|(refine ay rfl 35 _ _ rfl _ _ rfl rfl _ _ nY (by kernel_rfl) rfl (um _ _ _ _) ?_;rw[h3])|(refine ay rfl 122 _ _ rfl _ _ rfl rfl _ _ nZ (by kernel_rfl) rfl (by simp[Value.oneCell']) ?_;rw[h4])|(refine aQ rfl 122 _ rfl _ rfl _ _ _ _ n4 apT rfl (by kernel_rfl) ?_)|(refine aQ rfl 26 _ rfl _ rfl _ _ _ _ m4 slT rfl (by kernel_rfl) ?_))
   refine cP.mono ?_;rintro e w5 ⟨sv5,rfl,hd5,hk5,hrb5⟩;obtain⟨p5,c5,hv5,_,_⟩:=hrb5.here;subst hv5;have gx3:=HG.o w3.heap.size (by omega);have n5:=(hk5.blk _ gx3 (aF n4)).trans n4;have l5:=(hk5.blk _ (HG.o w1.heap.size (by omega)) (aF l4)).trans l4;obtain⟨nx,hnx⟩:=aq P.1.1.who.length;rw[hnx]at hrb5⊢;obtain⟨cA,hcA⟩:=aq (apC (P.1.1,.slice p5 nx c5));have h1c:cA.all (·.oneCell')=true:=(by rw[<-hcA];exact kW _ _ _ _);have hc11:cA.size=11:=(by rw[<-hcA];rfl);rw[hcA];obtain⟨w6,hw6⟩:=aq (w5.setRow w3.heap.size cA);have n6:=aJ _ _ _ cA _ _ n5;rw[hw6]at n6;have ho6: ∀q,q≠w3.heap.size->w6.heap[q]? =w5.heap[q]? :=fun q hq=>hw6▸aR _ _ _ _ hq;have hs6:w6.heap.size=w5.heap.size:=(by rw[<-hw6];simp);have hd6:dq B gD P.2 (t.add w1.heap.size) w6:=hd5.closed (by omega) fun q _ hq=>ho6 q hq;have hrb6:Rob (Fx gD (t.add w1.heap.size)) (fun u=>dJ u (.slice p5 nx c5) P.1.1.who) w6:=hrb5.move (by omega) (fun q hq _=>ho6 q fun e=>hq.2 (by rw[e];exact bf)) fun q _ hq=>⟨hq.1,fun hx=>hq.2 (bo _ hx)⟩
   have hk45:Kd gD t t w4 w5:=⟨hk5.os,hk5.tape,hk5.output,hk5.size,hk5.blk,fun _ _ h=>h,rfl⟩
   have HK6:=aD ((HK4.o.trans hk45).closed (w':=w6) (q:=w3.heap.size) (by omega) (by rw[<-hw6];rfl) (by rw[<-hw6];rfl) (by rw[<-hw6];rfl) (by omega) fun q _ hq=>ho6 q hq);have l6:=(ho6 _ (by omega)).trans l5;have HD6:=aD hd6;have HRB6:=aD hrb6;have hs46:w4.heap.size<=w6.heap.size:=(by rw[hs6];exact hk5.size);obtain⟨er,her⟩:=aq P.1.2;rw[her]at HPP HAP⊢;clear cP hd5 hk5 hk45 hrb5 hd6 hrb6 ho6 hs6 l5 l4 her n4 m4 hY hZ nY nZ h3 h4 q0 q1 q2 hrg n3 z2 z3 gx3;by_cases h0:er=0
   ·subst h0;obtain⟨hok,rv',cv',vv',kv',ss',aa',hm6⟩:=HD6.o;obtain⟨pb,cb,hbv⟩:=bU hm6.aps;obtain⟨nb',hnb⟩: ∃q,aa'.length=q:=⟨_,rfl⟩
    have hnb2:P.2.aps.length=nb':=(by rw[<-hm6.ape,a7,hnb])
    have hnb3:nb'=na:=by
     obtain⟨_,_,e⟩:=HCR.o;rw[<-hnb2,e];exact HNA.o
    have HP:OP (lR d (k:Int) day min who=(gT nb',{P.2 with aps:=P.2.aps++[P.1.1]})):=HPP.o.trans (by rw[aw (by simp),hnb2]);rw[hnb]at hbv;have z3:w6.cell? (ae gD 3)=some (.slice pb nb' cb):=(cr (v:=t.av) 3 hm6.blk rfl).trans (congrArg some hbv);have hown:w6.ownsRow B 122 11 (.slice pb nb' cb) nb' (apF aa'):=(by have:=hm6.aps;rw[hnb]at this;rw[<-show t.av=_ from hbv];exact this);have hg6:=aF hm6.blk;have hB6:B<=w6.heap.size:=(by have:=hm6.lo;omega);have HBV:OP (t.av= .slice pb nb' cb):=hbv;have HNB:=aD hnb;have hn30:nb'<30:=(by omega);clear hnb hnb2 hnb3 hbv HPP;go_upto_region 10 with(refine ay rfl 122 _ _ rfl _ _ rfl rfl _ _ n5 (by rw[hc11];kernel_rfl) (by rw[hc11];rfl) h1c ?_;rw[hw6])
    clear n5 hw6;refine di (ApJ w6 B gD cA (.slice pb nb' cb) nb' aa') [kn 55 (ab gD 0),kn 56 (ab gD 0),kn 57 (ab gD 0),kn 58 (ab gD 0),kn 59 (ab gD 3),kn 60 (.slice pb nb' cb),kn 61 (.agg cA),td 62,td 63,kn 64 (ab gD 0),kn 65 (ab gD 0),kn 66 (ab gD 3),nk] (fun _=>⟨fun _=>(aG _ _).drew,(fun h=>by cases h),(fun h=>by cases h),(fun h=>by cases h)⟩) (fun _ _ _ _ hb h=>⟨fun c=>(h.bel c).trans (hb.mono (h.bel c).size),fun c c'=> ?_,fun c c'=> ?_,fun c=> ?_⟩) (by kernel_rfl) ?_ ?_
    ·obtain⟨g,c1,e1,hg⟩:=h.one c c';exact⟨g,c1,e1,bt hb hg⟩
    ·obtain⟨g,c1,W0,e1,hg⟩:=h.app c c';exact⟨g,c1,W0,e1,hg.below hb⟩
    ·obtain⟨g,c1,W0,W1,e1,hg,hb1⟩:=h.sto c;exact⟨g,c1,W0,W1,e1,hg,hb1.trans (hb.mono (by have:=hb1.size;simpa using this))⟩
    ·rintro M φ W hJ hc F l hl hF;have c87:M 8=true->M 7=true:=fun h=>hc 8 _ rfl h ⟨7,.data⟩ (by simp) rfl rfl;have cD8:M 12=true->M 8=true:=fun h=>hc 12 _ rfl h ⟨8,.data⟩ (by simp) rfl rfl;have HCS:=aD (eE c87 cD8);have HJ:=aD hJ;clear hc c87 cD8 hJ;simp only[kn,td,nk,dL,aO,aV,Act.put,aB,aI,aH]at hl;subst hl;simp only[da,Nat.reduceAdd]at hF;dsimp only[kn,td,nk,dx,d9,dQ,Act.put];and_intros;all_goals first|exact trivial|intro hw hn hm K hK
     all_goals try (go_simp;with_reducible exact hK _ _ ⟨rfl,aG _ _⟩)
     ·have hb:=HJ.o.bel (hn 8 _ rfl (by kernel_rfl));have y:=aj hb z3;go_simp;exact hK _ _ ⟨rfl,aG _ _⟩
     ·have nW:=bt (HJ.o.bel (iB HCS.o.1 (hn 7 _ rfl (by kernel_rfl)))) n6;show Oper.wp _ _ _ _ _ _;refine dX 122 _ rfl _ (by simp[Act.eval,hF]) _ _ _ _ nW apT rfl (by rw[hc11];kernel_rfl) ?_;exact hK _ _ ⟨rfl,aG _ _⟩
     ·have h8:=iB HCS.o.1 hm;have hD:=iB HCS.o.2 h8;have hb:=HJ.o.bel h8;have hbA:=am W (.cells cA 122);rw[<-hcA]at hF hbA;clear hw hn;unfold apC at hF;go_simp;refine hK _ _ ⟨trivial,fun _=>au hb hbA,fun _ _=>⟨W.heap.size,1,dG,?_⟩,fun c _=>ly h8 c (by decide),fun c=>ly hD c (by decide)⟩;rw[<-hcA];exact aC _ _
     ·have h7:=hw ⟨7,.data⟩ (by simp) rfl rfl;have hD:=iB HCS.o.2 hm;have hb:=HJ.o.bel hm;obtain⟨g,c1,e62,hg⟩:=HJ.o.one h7 hm;have hownW:=bp hown fun b hq=>hb.block b (hown.lt b hq).2;show Oper.wp _ _ _ _ _ _;refine lB (ops:= #[]) rfl (g6 (c:=c1) rfl _ _ 67 122 rfl Od OK rfl (by decide) (by decide) (by simp[Act.eval,hF]) hownW (by simp[Act.eval,hF,e62]) hg hc11 h1c (by omega) (a6 hB6 hb.size) ?_);rintro v' w' ho hgr hbl ⟨g2,c2,rfl⟩;refine⟨rfl,hK _ _ ⟨trivial,fun c=>by simp at c,fun _ c=>by simp at c,fun _ _=>⟨g2,c2,W,dG,?_⟩,fun c=>ly hD c (by decide)⟩⟩;rw[dG];exact⟨hb,hgr,hbl,ho⟩
     ·have h8:=hw ⟨8,.data⟩ (by simp) rfl rfl;obtain⟨g,c1,W0,e63,hG⟩:=HJ.o.app h8 hm;have blkW:=(hG.2.1.block gD (aT hg6 hG.1.size) fun e=>gX hown hm6.blk (by decide) e.symm).trans (bt hG.1 hm6.blk);have y:=cr 3 blkW rfl;have x3:=bj _ _ 3 _ _ blkW;rw[e63]at hF;clear hw hn blkW;go_simp;refine hK undef _ ⟨trivial,fun c=> ?_,fun _ c=> ?_,fun _ c=>by simp at c,fun _=>⟨g,c1,W0,W,e63,hG,by rw[e63];exact aG _ _⟩⟩
      ·rw[orZ (by decide),h8]at c;cases c
      ·rw[orZ (by decide),h8]at c;cases c
    ·rintro M φ W hM hJ;obtain⟨g,c1,W0,W1,e63,hG,hbW⟩:=hJ.sto (hM 12 (by decide) rfl);simp only[kn,td,nk,dP,aO,aV,Act.put,aB,aI,aH];rw[e63]at hG hbW;rw[e63];obtain⟨hm2,hk2⟩:=hm6.addAp (d:=P.2) (a:=P.1.1) (v:= .slice p5 nx c5) (by rw[HNB.o,hcA];show qg w6 B 122 11 nb' t.av _ _ _ _ _;rw[HBV.o];exact hG) hbW HRB6.o;have hap:vO d P.1.1:=HAP.o trivial
     have hd2:dq B gD {P.2 with aps:=P.2.aps++[P.1.1]} (({t with av:= .slice (some (ae g 0)) (nb'+1) c1}:Tr).add w1.heap.size) W:=by
      refine⟨⟨hok.flt,hok.vl,hok.kl,hok.rl,hok.sl,?_,hok.gv,hok.nm,hok.sv,fun x hx=> ?_⟩,_,_,_,_,_,_,hm2⟩
      ·show(P.2.aps++[P.1.1]).length<=30;rw[aN,<-hm6.ape,a7,HNB.o];simp;omega
      ·rcases bQ.1 hx with hx|hx
       ·exact hok.ap x hx
       ·rw[bK.1 hx];obtain⟨_,_,e⟩:=HCR.o;rw[e];exact hap
     have hkw:Kd gD t {t with av:= .slice (some (ae g 0)) (nb'+1) c1} w W:=⟨hk2.os.trans HK6.o.os,hk2.tape.trans HK6.o.tape,hk2.output.trans HK6.o.output,a6 HK6.o.size hk2.size,fun q hq hl=>(hk2.blk q hq (aT hl HK6.o.size)).trans (HK6.o.blk q hq hl),fun q hl hq=>hk2.gx q (aT hl HK6.o.size) hq,rfl⟩
     have lW:=(hk2.blk w1.heap.size (hm6.nx _ bf).2.2 (aF l6)).trans l6;have y3:W.cell? (ae gD 3)=some (.slice (some (ae g 0)) (nb'+1) c1):=cr 3 hm2.blk rfl;have HO:=aD (fy hd2 hkw (by omega) (anC (gT nb') (af) (af)));have HR:=aD (aJ _ _ _ (anC (gT nb') (af) (af)) _ _ lW);have hw1':IntKind.i64.wrap ((nb':Int)+1-1)=(nb':Int):=(by rw[bx];omega);clear hM hJ hG hbW hm2 hk2 hd2 hkw hok hm6 hown hcA h1c hc11 l6 n6 z3;go_wp2_with(refine ay rfl 28 _ _ rfl _ _ rfl rfl _ _ lW (by kernel_rfl) rfl (by simp[Value.oneCell']) ?_)
     refine aU (v:= .agg (anC (gT nb') (af) (af))) ?_ rfl ?_
     ·exact aZ rfl _ _ w1.heap.size _ _ _ _ rfl HR.o anT rfl (by kernel_rfl)
     ·rw[HP.o];exact⟨_,_,_,rfl,HO.o.1,HO.o.2,fd _ _,dV _ _⟩
   ·have h0':(er !=0)=true:=(by simpa using h0);have HP:OP (lR d (k:Int) day min who=(noA er,P.2)):=HPP.o.trans (by rw[az h0]);clear h0;go_wp2_with(refine ay rfl 122 _ _ rfl _ _ rfl rfl _ _ n5 (by rw[hc11];kernel_rfl) (by rw[hc11];rfl) h1c ?_;rw[hw6])
    clear n5 hw6;have cR:=eZ er w6;go_wp2_with fail;refine cR.mono ?_;rintro e w9 ⟨rfl,b9⟩;have n9:=bt b9 l6;have HO:=aD (fy (HD6.o.below b9) (HK6.o.trans (Kd.of b9)) (by omega) (anC (noA er) (af) (af)));have HR:=aD (aJ _ _ _ (anC (noA er) (af) (af)) _ _ n9);clear cR b9 l6;go_wp2_with(refine ay rfl 28 _ _ rfl _ _ rfl rfl _ _ n9 (by kernel_rfl) rfl (by simp[anC,noA,Value.oneCell']) ?_)
    refine aU (v:= .agg (anC (noA er) (af) (af))) ?_ rfl ?_
    ·exact aZ rfl _ _ w1.heap.size _ _ _ _ rfl HR.o anT rfl (by kernel_rfl)
    ·rw[HP.o];exact⟨t,_,_,rfl,HO.o.1,HO.o.2,fd _ _,dV _ _⟩
end
end
section
section
variable {B gD:Nat} {d:Dk} {t:Tr}
theorem Fb (n:Int)(F:Nat)(caps:Array Value)(f:Ap->Dk->(Ap×Int)×Dk)(w:World)(h:dq B gD d t w)(eF: ∀args w,(callFunc F args).run prog w= .ok (.enter F args) w)
  (hbec: ∀(a:Ap) (p:Option Addr) (c:Nat) (W:World),a∈d.aps->dq B gD d (t.add w.heap.size) W->ao w W->Rob (Fx gD (t.add w.heap.size)) (fun u=>dJ u (.slice p a.who.length c) a.who) W->Calls prog F (#[.agg (apC (a,.slice p a.who.length c))]++caps) W (uy B gD (f a d) (t.add w.heap.size) W))
  (hfok: ∀a∈d.aps,(f a d).1.2=0->vO d (f a d).1.1) (hfc: ∀a,Cor d (f a d).2):Calls prog 52 #[ab gD 0,ag n,.func (.func F) #[] caps] w (qU B gD (iD d n f) t w):=by
 obtain⟨w1,h1,b1,n1⟩:=nb w #[ag 0,ag 0,ag 0,ag 0,af,af] 28;have s1:w1.heap.size=w.heap.size+1:=by rw[<-h1];simp
 have hd1:=h.opened (aA _) s1 b1;have HD1:=aD hd1;have HK1:OP (Kd gD t t w w1):=Kd.of b1;have HB1:=aD b1;have HG:OP (∀q,w.heap.size<=q->Gx gD t q):=fun q hq=>(h.fx (.inr hq)).1;have HBE:=aD hbec;have HFO:=aD hfok;have HFC:=aD hfc;obtain⟨hok,hdm⟩:=hd1;have HDM:=aD hdm;obtain⟨rv,cv,vv,kv,ss,aa,hm⟩:=hdm;have haa:aa.length=d.aps.length:=by rw[<-hm.ape,a7]
 obtain⟨pa,ca,hav⟩:=bU hm.aps;obtain⟨na,hna⟩:=aq d.aps.length;rw[haa,hna]at hav;have z3:w1.cell? (ae gD 3)=some (.slice pa na ca):=(cr (v:=t.av) 3 hm.blk rfl).trans (congrArg some hav);have HAV:OP (t.av= .slice pa na ca):=hav;have HNA:=aD hna;have hw1:w.heap.size<w1.heap.size:=by omega
 have cN:=pA n (na:Int) w1;obtain⟨c1,hb1⟩:=aq (isN n (na:Int));rw[hb1]at cN;have HBN:=aD hb1;clear h b1 hm haa hav hna hb1 s1 hbec hfok hfc hok;go_enter func52,ntmps52;go_wp2_with fail;refine cN.mono ?_;rintro e wa ⟨rfl,hwa⟩;subst hwa;clear cN;cases c1 with
 |false=>
  have HP:OP (iD d n f=(noA 6,d)):=(by show _=_;unfold iD;rw[HNA.o,az (.inl HBN.o)]);clear h1 z3;have cR:=eZ 6 wa;go_wp2_with fail;refine cR.mono ?_;rintro e w9 ⟨rfl,b9⟩;have n9:=bt b9 n1;have HO:=aD (fy (HD1.o.below b9) (HK1.o.trans (Kd.of b9)) (by omega) (anC (noA 6) (af) (af)));have HR:=aD (aJ _ _ _ (anC (noA 6) (af) (af)) _ _ n9);clear cR b9 n1;go_wp2_with(refine ay rfl 28 _ _ rfl _ _ rfl rfl _ _ n9 (by kernel_rfl) rfl (by simp[anC,noA,Value.oneCell']) ?_)
  refine aU (v:= .agg (anC (noA 6) (af) (af))) ?_ rfl ?_
  ·exact aZ rfl _ _ w.heap.size _ _ _ _ rfl HR.o anT rfl (by kernel_rfl)
  ·rw[HP.o];exact⟨t,_,_,rfl,HO.o.1,HO.o.2,fd _ _,dV _ _⟩
 |true=>
  have hn:0<=n/\n<(na:Int):=(by have:=HBN.o;simpa[isN] using this);obtain⟨k,rfl⟩: ∃k:Nat,n=(k:Int):=⟨n.toNat,by omega⟩
  have hk0:(0:Int)<=(k:Int):=(by omega);have hkn:(k:Int)<(na:Int):=hn.2;have hkn':k<na:=(by omega);obtain⟨a,pw,cw,ga,ca',ha,hva,_,hrg,hrob⟩:=DkM.ap HDM.o (j:=k) (by rw[HNA.o];exact hkn');have e0:Value.slice pa na ca= .slice (some (ae ga 0)) na ca':=(by rw[<-HAV.o,<-HNA.o];exact hva);injection e0 with e2 e3 e4;subst e2 e4;have zs:wa.cell? (ae ga (k*11))=some (ag a.st):=hrg 0 _ rfl;have hma:a∈d.aps:=aL ha;have hgd:d.aps.getD k ap0=a:=(by simp[List.getD,ha]);have cB:=HBE.o a pw cw wa hma HD1.o HB1.o hrob;unfold uy at cB;obtain⟨P,hP⟩:=aq (f a d);rw[hP]at cB;obtain⟨st,hst⟩:=aq a.st;rw[hst]at zs
  have HCP:OP (iD d (k:Int) f=if st=3 then(noA 6,d) else if P.1.2≠0 then(noA P.1.2,P.2) else(noA 0,{P.2 with aps:=P.2.aps.set k P.1.1})):=by
   show _=_;unfold iD;simp only[bT,hgd,hP,hst,HNA.o,HBN.o];by_cases e:st=3
   ·simp[e]
   ·simp[e]
  have HCR:OP (Cor d P.2):=(by have:=HFC.o a;rw[hP]at this;exact this);have HAP:OP (P.1.2=0->vO d P.1.1):=(by have:=HFO.o a hma;rw[hP]at this;exact this);clear hn hva e3 ha hma hgd hP hst hrob HBE HFO HFC;by_cases h3:st=3
  ·have h3':(st==3)=true:=(by simpa using h3);have HP:OP (iD d (k:Int) f=(noA 6,d)):=HCP.o.trans (by rw[az h3]);clear h1 h3 cB hrg HCP;have cR:=eZ 6 wa;go_wp2_with fail;refine cR.mono ?_;rintro e w9 ⟨rfl,b9⟩;have n9:=bt b9 n1;have HO:=aD (fy (HD1.o.below b9) (HK1.o.trans (Kd.of b9)) (by omega) (anC (noA 6) (af) (af)));have HR:=aD (aJ _ _ _ (anC (noA 6) (af) (af)) _ _ n9);clear cR b9 n1;go_wp2_with(refine ay rfl 28 _ _ rfl _ _ rfl rfl _ _ n9 (by kernel_rfl) rfl (by simp[anC,noA,Value.oneCell']) ?_)
   refine aU (v:= .agg (anC (noA 6) (af) (af))) ?_ rfl ?_
   ·exact aZ rfl _ _ w.heap.size _ _ _ _ rfl HR.o anT rfl (by kernel_rfl)
   ·rw[HP.o];exact⟨t,_,_,rfl,HO.o.1,HO.o.2,fd _ _,dV _ _⟩
  ·have h3':(st==3)=false:=(by simpa using h3);have HCQ:=aD (HCP.o.trans (by rw[aw h3]));clear h3 HCP h1;go_wp2_with(refine wpList_load_mid rfl 122 _ rfl ga (k*11) rfl (apC (a,.slice pw a.who.length cw)).toList _ hrg apT rfl (by kernel_rfl) ?_)
   refine cB.mono ?_;rintro e w5 ⟨sv5,rfl,hd5,hk5,hrb5⟩;obtain⟨p5,c5,hv5,_,_⟩:=hrb5.here;subst hv5;obtain⟨nx,hnx⟩:=aq P.1.1.who.length;rw[hnx]at hrb5⊢;obtain⟨cA,hcA⟩:=aq (apC (P.1.1,.slice p5 nx c5));have h1c:cA.all (·.oneCell')=true:=(by rw[<-hcA];exact kW _ _ _ _);have hc11:cA.size=11:=(by rw[<-hcA];rfl);rw[hcA];obtain⟨wZ,w6,hZ,nZ,h6,b6,n6⟩:=nbs w5 #[ag 0,ag 0,ag 0,ag 0,ag 0,ag 0,ag 0,ag 0,ag 0,ag 0,af] cA 122;have hk15:Kd gD t t wa w5:=⟨hk5.os,hk5.tape,hk5.output,hk5.size,hk5.blk,fun _ _ h=>h,rfl⟩
   have l5:=(hk5.blk _ (HG.o w.heap.size (aA _)) (aF n1)).trans n1;have l6:=bt b6 l5;have HD6:=aD (hd5.below b6);have HK6:=aD (HK1.o.trans (hk15.trans (Kd.of b6)));have HRB:=aD (hrb5.below b6);obtain⟨er,her⟩:=aq P.1.2;rw[her]at HCQ HAP⊢;clear cB hd5 hk5 hk15 hrb5 l5 n1 her hrg zs z3 b6 HDM;by_cases h0:er=0
   ·subst h0;have HP:OP (iD d (k:Int) f=(noA 0,{P.2 with aps:=P.2.aps.set k P.1.1})):=HCQ.o.trans (by rw[aw (by simp)]);obtain⟨hok,rv',cv',vv',kv',ss',aa',hm6⟩:=HD6.o;have haps:P.2.aps=d.aps:=(by obtain⟨_,_,e⟩:=HCR.o;rw[e]);have hna':aa'.length=na:=(by rw[<-HNA.o,<-haps,<-hm6.ape,a7]);have hka:k<aa'.length:=(by omega);have hown:w6.ownsRow B 122 11 (.slice (some (ae ga 0)) na ca) na (apF aa'):=(by have:=hm6.aps;rw[hna']at this;rw[<-HAV.o];exact this);have z3:w6.cell? (ae gD 3)=some (.slice (some (ae ga 0)) na ca):=(cr (v:=t.av) 3 hm6.blk rfl).trans (congrArg some HAV.o);have hgw:w.heap.size≠ga:=fun e=>(hm6.nx w.heap.size bf).2.2.2.2.2 (by show _=t.av.ownBlock;rw[HAV.o,e];rfl);go_upto_region 6 with(refine ay rfl 122 _ _ rfl _ _ rfl rfl _ _ nZ (by rw[hc11];kernel_rfl) (by rw[hc11];rfl) h1c ?_;rw[h6])
    clear nZ h6 hZ;refine di (fun M _ W=>(M 8=false->ao w6 W)/\(M 8=true-> ∃W0,ao w6 W0/\Below W0.heap.size (W0.setCells ga (k*11) cA.toList) W)) [kn 48 (ab gD 0),kn 49 (ab gD 0),kn 50 (ab gD 0),kn 51 (ab gD 3),kn 52 (.slice (some (ae ga 0)) na ca),kn 53 (ag (k:Int)),kn 54 (.agg cA),kn 55 (ab ga (k*11)),nk] (fun _=>⟨fun _=>(aG _ _).drew,(fun h=>by cases h)⟩) (fun _ _ _ _ hb h=>⟨fun c=>(h.1 c).trans (hb.mono (h.1 c).size),fun c=> ?_⟩) (by kernel_rfl) ?_ ?_
    ·obtain⟨W0,h1,h2⟩:=h.2 c;exact⟨W0,h1,h2.trans (hb.mono (by have:=h2.size;rw[(eG _ _ _ _).2.2.2]at this;exact this))⟩
    ·rintro M φ W hJ hc F l hl hF;have HJ:=aD hJ;clear hc hJ;simp only[kn,nk,dL,aO,aV,Act.put,aB,aI,aH]at hl;subst hl;simp only[da,Nat.reduceAdd]at hF;dsimp only[kn,nk,dx,d9,dQ,Act.put];and_intros;all_goals first|exact trivial|intro hw hn hm K hK
     all_goals try (go_simp;with_reducible exact hK _ _ ⟨rfl,aG _ _⟩)
     ·have hb:=HJ.o.1 (hn 8 _ rfl (by kernel_rfl));have y:=aj hb z3;go_simp;exact hK _ _ ⟨rfl,aG _ _⟩
     ·have nW:=bt (HJ.o.1 (hn 8 _ rfl (by kernel_rfl))) n6;show Oper.wp _ _ _ _ _ _;refine dX 122 _ rfl _ (by simp[Act.eval,hF]) _ _ _ _ nW apT rfl (by rw[hc11];kernel_rfl) ?_;exact hK _ _ ⟨rfl,aG _ _⟩
     ·have hb:=HJ.o.1 hm;have howW:=bp hown fun b hq=>hb.block b (hown.lt b hq).2;have hth:W.there ga (k*11) cA.size:=(by rw[hc11];exact zD howW hkn' rfl);show Oper.wp _ _ _ _ _ _;refine wp_store_mid 122 _ _ rfl ga (k*11) cA (by simp[Act.eval,hF]) (by simp[Act.eval,hF]) hth (by rw[hc11];kernel_rfl) h1c ?_;exact hK undef _ ⟨trivial,fun c=>by simp at c,fun _=>⟨W,hb,aG _ _⟩⟩
    ·rintro M φ W hM hJ;obtain⟨W0,h1,h2⟩:=hJ.2 (hM 8 (by decide) rfl);simp only[kn,nk,dP,aO,aV,Act.put,aB,aI,aH];have hm0:=hm6.below h1;obtain⟨hm2,hk2⟩:=hm0.setAp (j:=k) (g:=ga) hka (by show t.av.ownBlock=_;rw[HAV.o];rfl) (P.1.1,.slice p5 nx c5) (.inr (HRB.o.below h1));rw[hcA]at hm2 hk2;have hsz:=(eG ga cA.toList (k*11) W0).2.2.2;have h2':=h2.mono (j9 hsz);have hap:vO d P.1.1:=HAP.o trivial
     have hd2:dq B gD {P.2 with aps:=P.2.aps.set k P.1.1} (t.add w.heap.size) W:=by
      refine dq.below ⟨⟨hok.flt,hok.vl,hok.kl,hok.rl,hok.sl,by simpa using hok.al,hok.gv,hok.nm,hok.sv,fun x hx=> ?_⟩,_,_,_,_,_,_,hm2⟩ h2';rcases List.mem_or_eq_of_mem_set hx with hx|rfl
      ·exact hok.ap x hx
      ·obtain⟨_,_,e⟩:=HCR.o;rw[e];exact hap
     have hkw:Kd gD t t w W:=HK6.o.trans (Kd.off (q:=w.heap.size) (((Kd.of h1).trans hk2).trans (Kd.of h2')));have lW:=bt h2' ((eW ga _ _ W0 _ hgw).trans (bt h1 l6));have HO:=aD (fy hd2 hkw (aA _) #[ag 0,ag 0,ag 0,ag 0,af,af]);have HR:=aD (aJ _ _ _ #[ag 0,ag 0,ag 0,ag 0,af,af] _ _ lW);clear hM hJ h1 h2 h2' hm0 hm2 hk2 hd2 hkw hok hm6 hown hcA h1c hc11 l6 n6 z3 hsz;go_wp2_with(refine ay rfl 28 _ _ rfl _ _ rfl rfl _ _ lW (by kernel_rfl) rfl (by simp[Value.oneCell']) ?_)
     refine aU (v:= .agg #[ag 0,ag 0,ag 0,ag 0,af,af]) ?_ rfl ?_
     ·exact aZ rfl _ _ w.heap.size _ _ _ _ rfl HR.o anT rfl (by kernel_rfl)
     ·rw[HP.o];exact⟨_,_,_,rfl,HO.o.1,HO.o.2,fd _ _,dV _ _⟩
   ·have h0':(er !=0)=true:=(by simpa using h0);have HP:OP (iD d (k:Int) f=(noA er,P.2)):=HCQ.o.trans (by rw[az h0]);clear h0;go_wp2_with(refine ay rfl 122 _ _ rfl _ _ rfl rfl _ _ nZ (by rw[hc11];kernel_rfl) (by rw[hc11];rfl) h1c ?_;rw[h6])
    clear nZ h6 hZ;have cR:=eZ er w6;go_wp2_with fail;refine cR.mono ?_;rintro e w9 ⟨rfl,b9⟩;have n9:=bt b9 l6;have HO:=aD (fy (HD6.o.below b9) (HK6.o.trans (Kd.of b9)) (by omega) (anC (noA er) (af) (af)));have HR:=aD (aJ _ _ _ (anC (noA er) (af) (af)) _ _ n9);clear cR b9 l6;go_wp2_with(refine ay rfl 28 _ _ rfl _ _ rfl rfl _ _ n9 (by kernel_rfl) rfl (by simp[anC,noA,Value.oneCell']) ?_)
    refine aU (v:= .agg (anC (noA er) (af) (af))) ?_ rfl ?_
    ·exact aZ rfl _ _ w.heap.size _ _ _ _ rfl HR.o anT rfl (by kernel_rfl)
    ·rw[HP.o];exact⟨t,_,_,rfl,HO.o.1,HO.o.2,fd _ _,dV _ _⟩
end
end
section
theorem Ie {R:Ending->World->Prop}{a:Act}{w:World}(g:Nat)(c:Array Value)(er:Int)(hc:c.size=11)(hd:a.defers=[])(h2:a.tmps.getD 4 undef=ab g 0)(h3:a.tmps.getD 5 undef=ag er)
  (hg:w.heap[g]? =ah c 122) (hR:R (.returned (.tuple #[.agg c,ag er])) w):bodyPost prog f56 R .ret a w:=by
 refine aU (v:= .tuple #[.agg c,ag er]) ?_ hd hR;have hf:f56.results= #[ResultVar.cell 4 122,ResultVar.tmp 5]:=rfl;have h2':a.tmps[4]?.getD undef=ab g 0:=by simpa using h2
 have h3':a.tmps[5]?.getD undef=ag er:=by simpa using h3
 have hv:=dM (P:=prog) w g 122 122 _ _ _ hg apT rfl (by rw[hc];kernel_rfl);simp[results,h2',h3',asAddr,hv]
section
variable {B gD:Nat} {d:Dk} {t:Tr}
theorem J1 {g1 g2:Nat}(c:Cm)(a:Ap)(p pw:Option Addr)(k cw:Nat)(rv:Value)(w:World)(h:dq B gD d t w)(n1:w.heap[g1]? =ah #[ab gD 0] 115)(n2:w.heap[g2]? =ah (doC c rv (.slice pw c.swho.length cw)) 37)(ha:vO d a)(hw:Rob (Fx gD t) (fun u=>dJ u (.slice pw c.swho.length cw) c.swho) w)(hcw:c.swho.length<=cw):
  Calls prog 56 #[.agg (apC (a,.slice p a.who.length k)),ab g1 0,ab g2 0] w (uy B gD (eQ d c.n a c.sday c.smin c.swho) t w):=by
 obtain⟨wA,hA,bA,nA⟩:=nb w (apC (a,.slice p a.who.length k)) 122;obtain⟨wB,hB,bB,nB⟩:=nb wA #[ag 0,ag 0,ag 0,ag 0,ag 0,ag 0,ag 0,ag 0,ag 0,ag 0,af] 122;have sB:wB.heap.size=wA.heap.size+1:=by rw[<-hB];simp
 have b02:=au bA bB;have hdB:=h.opened (q:=wA.heap.size) bA.size sB b02;have m1:=bt b02 n1;have m2:=bt b02 n2;have mA:=bt bB nA;have z1:=cr 0 m1 rfl;have y1:wB.cell? (ae g2 1)=some (ag c.n):=cr 1 m2 rfl;have y10:wB.cell? (ae g2 10)=some (ag c.sday):=cr 10 m2 rfl;have y11:wB.cell? (ae g2 11)=some (ag c.smin):=cr 11 m2 rfl;have y12:wB.cell? (ae g2 12)=some (.slice pw c.swho.length cw):=cr 12 m2 rfl
 have hwB:Rob (Fx gD (t.add wA.heap.size)) (fun u=>dJ u (.slice pw c.swho.length cw) c.swho) wB:=hw.move b02.size (fun q _ hl=>b02.block q hl) fun q hl hq=>⟨hq.1,fun hx=>by
  rcases bl.1 hx with e|hx
  ·have:=bA.size;omega
  ·exact hq.2 hx⟩
 have cP:=xF c.n a p pw k cw c.sday c.smin c.swho wB hdB ha.1 ha.2.2.2.1 hwB hcw;obtain⟨P,hP⟩:=aq (eQ d c.n a c.sday c.smin c.swho);rw[hP]at cP⊢;unfold uy at cP;have H0:=aD h;have HK2:OP (Kd gD t t w wB):=Kd.of b02;have hwA:w.heap.size<wA.heap.size:=by rw[<-hA];simp
 have HGX:OP (Gx gD t wA.heap.size):=(h.fx (.inr bA.size)).1;obtain⟨nw,hnw⟩:=aq c.swho.length;rw[hnw]at cP y12;clear h bA bB b02 sB hdB n1 n2 nA m1 m2 hwB hP hw hnw hcw;go_enter func56,ntmps56;go_wp2_with(refine aQ rfl 122 _ rfl _ rfl _ _ _ _ mA apT rfl (by kernel_rfl) ?_)
 refine cP.mono ?_;rintro e w5 ⟨sv5,rfl,hd5,hk5,hrb5⟩;obtain⟨p5,c5,hv5,_,_⟩:=hrb5.here;subst hv5;have n5:=(hk5.blk _ HGX.o (aF nB)).trans nB;obtain⟨nx,hnx⟩:=aq P.1.1.who.length;rw[hnx]at hrb5⊢;obtain⟨cA,hcA⟩:=aq (apC (P.1.1,.slice p5 nx c5));have h1c:cA.all (·.oneCell')=true:=by rw[<-hcA];exact kW _ _ _ _
 have hc11:cA.size=11:=by rw[<-hcA];rfl
 rw[hcA];have hk5':Kd gD t t wB w5:=⟨hk5.os,hk5.tape,hk5.output,hk5.size,hk5.blk,fun _ _ h=>h,rfl⟩
 have HO:=aD (eE (hd5.closed (w':=w5.setRow wA.heap.size cA) (by simp) fun q _ hq=>aR _ _ _ _ hq) (eE ((HK2.o.trans hk5').closed (w':=w5.setRow wA.heap.size cA) (q:=wA.heap.size) (by omega) rfl rfl rfl (by simp) fun q _ hq=>aR _ _ _ _ hq) (hrb5.move (w':=w5.setRow wA.heap.size cA) (P':=Fx gD t) (by simp) (fun q hq _=>aR _ _ _ _ fun e=>hq.2 (by rw[e];exact bf)) fun q _ hq=>⟨hq.1,fun hx=>hq.2 (bo _ hx)⟩)));have HR:=aD (aJ _ _ _ cA _ _ n5);have HCA:=aD hcA;clear cP hd5 hk5 hk5' hrb5 hcA nB;go_wp2_with(refine ay rfl 122 _ _ rfl _ _ rfl rfl _ _ n5 (by rw[hc11];kernel_rfl) (by rw[hc11];rfl) h1c ?_)
 refine Ie wA.heap.size cA P.1.2 hc11 rfl rfl rfl HR.o ?_;exact⟨.slice p5 nx c5,by rw[HCA.o],HO.o.1,HO.o.2.1,HO.o.2.2⟩
end
end
section
section
variable {w w':World}
theorem If:dJ w (af) []:=⟨none,0,rfl,by decide,fun j n h=>by simp at h⟩
theorem Dx:fw w (af) []:=⟨none,0,rfl,by decide,fun j n h=>by simp at h⟩
theorem L0 {g:Nat}{sv:Value}{l:List Int}{T:TypeId}(h:w.heap[g]? =ah #[sv] T)(hr:dJ w sv l):fw w (.slice (some (ae g 0)) 1 1) [l]:=by
 refine⟨some ⟨g,0,none⟩,1,rfl,by simp,fun j m hj=> ?_⟩;match j,hj with
 |0,hj=>cases hj;exact⟨g,0,sv,rfl,aX _ _ _ _ _ _ h,hr⟩
 |j+1,hj=>simp at hj
def mP (B:Nat)(w:World)(v:Value)(cs:List (Cm×Value×Value)):Prop:=w.ownsRow B 37 13 v cs.length (cs.flatMap fun q=>(doC q.1 q.2.1 q.2.2).toList)/\ ∀q∈cs,Rob (fun k=>some k≠v.ownBlock) (fun u=>lz u q.1 q.2.1 q.2.2) w
theorem yo {B:Nat}{v:Value}{cs:List (Cm×Value×Value)}(h:w.ownsRow B 37 13 v cs.length (cs.flatMap fun q=>(doC q.1 q.2.1 q.2.2).toList))(hc: ∀q∈cs,lz w q.1 q.2.1 q.2.2)(hl:cs.length<9223372036854775808):mO w v cs:=by
 obtain⟨p,k,hv⟩:=bU h;refine⟨p,k,hv,hl,fun j q hj=>⟨hc q (aL hj),?_⟩⟩;obtain⟨g,c,e,_,hr⟩:=kF (f:=fun q:Cm×Value×Value=>doC q.1 q.2.1 q.2.2) (fun q=>rfl) h rfl hj;rw[hv]at e;cases e;exact⟨g,0,rfl,by rw[bH];exact hr⟩
theorem mP.row {B:Nat}{v:Value}{cs:List (Cm×Value×Value)}(h:mP B w v cs)(hl:cs.length<9223372036854775808):mO w v cs:=yo h.1 (fun q hq=>(h.2 q hq).here) hl
theorem mP.below {B:Nat}{v:Value}{cs:List (Cm×Value×Value)}(h:mP B w v cs)(hb:ao w w'):mP B w' v cs:=
 ⟨bp h.1 fun b hq=>hb.block b (h.1.lt b hq).2,fun q hq=>(h.2 q hq).below hb⟩
theorem L1 {c:Cm}{rv wv:Value}(h:lz w c rv wv):(doC c rv wv).all (·.oneCell')=true:=by
 obtain⟨_,_,rfl,_⟩:=h.roles;obtain⟨_,_,rfl,_⟩:=h.who;exact Dv ..
theorem uz: ∀cs:List (Cm×Value×Value),(cs.flatMap fun q=>(doC q.1 q.2.1 q.2.2).toList).length=cs.length*13
 |[]=>rfl
 |c::cs=>by
  rw[List.flatMap_cons,aN,uz cs,bG];show 13+_=_;omega
theorem Nt {cs:List (Cm×Value×Value)}{g o:Nat}(h: ∀(j:Nat) (q:Cm×Value×Value),cs[j]? =some q->w.rangeAt g (o+j*13) (doC q.1 q.2.1 q.2.2).toList):w.rangeAt g o (cs.flatMap fun q=>(doC q.1 q.2.1 q.2.2).toList):=by
 intro k u hu
 have hk:k<cs.length*13:=by
  have:=(aE.1 hu).1;rwa[uz]at this
 obtain⟨q,hq⟩: ∃q,cs[k/13]? =some q:=⟨_,ax (by omega)⟩
 have e:=nK (f:=fun q:Cm×Value×Value=>doC q.1 q.2.1 q.2.2) (m:=13) (fun q=>rfl) hq (k%13) (Nat.mod_lt _ (by decide));rw[show k/13*13+k%13=k by omega,hu]at e;have:=h _ q hq (k%13) u (by rw[bn];exact e.symm);rwa[show o+k/13*13+k%13=o+k by omega]at this
theorem qj {ops:Array Oper}{rest:List Oper}{o:Oper}{a:Act}{Q:Exit->Act->World->Prop}(hgd:o.guard=none)(s x:Operand)(ho:o.op= .call {callee:= .builtin .append,args:= #[s,x],argTypes:= #[30,30]})
  {B:Nat} {v xv:Value} {cs ds:List (Cm×Value×Value)} (hs:a.eval s=v) (hO:mP B w v cs) (hx:a.eval x=xv) (hX:mO w xv ds) (h0:0<ds.length) (hR: ∀q∈ds,Rob (fun k=>some k≠v.ownBlock) (fun u=>lz u q.1 q.2.1 q.2.2) w) (hn:cs.length+ds.length<=100000) (hB:B<=w.heap.size)
  (h: ∀v' w',mP B w' v' (cs++ds)->Below B w w'->w.grownBy w' v.ownBlock->wpList prog ops Q rest (a.put o.dst v') w'):wpList prog ops Q (o::rest) a w:=by
 obtain⟨i,hi,hz0,hz1,hz2⟩:=po (t:=37) (z:= .agg (doC ⟨0,0,0,0,[],[],sv0,0,0,[]⟩ (af) (af))) (a:=13) (b:=152) (by kernel_rfl);obtain⟨p,k,rfl,_,hc⟩:=hX;obtain⟨q0,hq0⟩: ∃q,ds[0]? =some q:=⟨_,ax h0⟩
 obtain⟨_,g,of,rfl,_⟩:=hc 0 q0 hq0
 have hF:w.rangeAt g of (ds.flatMap fun q=>(doC q.1 q.2.1 q.2.2).toList):=Nt fun j q hj=>by
  obtain⟨_,g',o',e,hr⟩:=hc j q hj;cases e;exact hr
 refine wpList_append_own_at w hgd s x 30 ho B 37 i _ 13 152 (by kernel_rfl) hi hz0 hz1 hz2 rfl (by decide) v cs.length _ hs hO.1 ⟨g,of,none⟩ ds.length k (ds.flatMap fun q=>(doC q.1 q.2.1 q.2.2).toList) hx ?_ (fun j u hu=> ?_) (fun u hu=> ?_) (by unfold maxLen;omega) (a6 (Nat.mul_le_mul_right _ hn) (by decide)) hB fun v' w' h2 h3 _ h5=> ?_
 ·exact uz ds
 ·rw[show(⟨g,of,none⟩:Addr).add j=⟨g,of+j,none⟩ by simp[Addr.add]];exact hF j u hu
 ·obtain⟨q,hq,hu⟩:=List.mem_flatMap.1 hu;exact Array.all_eq_true'.1 (L1 (hR q hq).here) u (Array.mem_toList_iff.1 hu)
 ·refine h v' w' ⟨?_,fun q hq=> ?_⟩ (gJ (aG _ _) h3 hB fun k hk=>(hO.1.lt k hk).1) h3
  ·rw[aN,eU];exact h2
  ·have H:Rob (fun k=>some k≠v.ownBlock) (fun u=>lz u q.1 q.2.1 q.2.2) w:=(bQ.1 hq).elim (hO.2 q) (hR q);refine H.move h3.size (fun k hk hl=>h3.block k hl hk) fun k hl hk=> ?_;rcases h5 with h5|h5
   ·rw[h5];exact hk
   ·rw[h5];intro e;cases e;omega
theorem tD {B g n m:Nat}{cur:Array Value}{T:TypeId}(h:w.heap[g]? =ah cur T)(hB:B<=g)(hs:cur.size=n*m)(hn:n<=maxLen):w.ownsRow B T m (.slice (some (ae g 0)) n n) n cur.toList:=
 ⟨by rw[bO];exact hs,.inr ⟨g,n,cur,rfl,hB,h,aA _,hn,hs,by rw[cj (by rw[bO,hs];exact aA _)]⟩⟩
theorem B5 (c:Cm)(h1:c.sv.roles=[])(h2:c.swho=[])(h3:c.text.length<=9223372036854775807)(h4:c.name.length<=9223372036854775807):lz w c (af) (af):=
 ⟨by rw[h1];exact Dx,by rw[h2];exact If,h3,h4,fun p n k e=>by cases e;exact aA _⟩
end
end
theorem tE: ∀(l m:List Cm) (c:Co),il c (l++m)=((il c l).1++(il (il c l).2 m).1,(il (il c l).2 m).2)
 |[],_,_=>rfl
 |x::l,m,c=>by
  show((doS c x).1::(il (doS c x).2 (l++m)).1,(il (doS c x).2 (l++m)).2)=_;rw[tE l m];rfl
theorem zX: ∀(l:List Cm) (c:Co),(il c l).1.length=l.length
 |[],_=>rfl
 |x::l,c=>congrArg (· +1) (zX l (doS c x).2)
section
section
variable {B gD:Nat} {d:Dk} {t:Tr}
theorem L2 (c:Cm)(pr pw:Option Addr)(cr2 cw:Nat)(w:World)(h:dq B gD d t w)(hx:c.text.length<=9223372036854775807)(hT:Tbs B w)(hBw:B<=w.heap.size)(hg:d.given+1<=1000000)(hxs:EZ w t.xs)(hn:c.name.length<=9223372036854775807)(hr:fw w (.slice pr c.sv.roles.length cr2) c.sv.roles)(h14:1<=c.kind/\c.kind<=4):Calls prog 32 #[ab gD 0,.agg (doC c (.slice pr c.sv.roles.length cr2) (.slice pw c.swho.length cw))] w (qU B gD (doP d c) t w):=by
 obtain⟨w1,h1,b1,n1⟩:=nb w #[ab gD 0] 115;obtain⟨w2,h2,b2,n2⟩:=nb w1 (doC c (.slice pr c.sv.roles.length cr2) (.slice pw c.swho.length cw)) 37;obtain⟨w3,h3,b3,n3⟩:=nb w2 #[ag 0,ag 0,ag 0,ag 0,af,af] 28;have b12:=au b1 b2;have b13:=au b12 b3;have hd3:=h.opened (q:=w2.heap.size) b12.size (by rw[<-h3];simp) b13;have m2:=bt b3 n2;have k1:=bt (au b2 b3) n1;have z1:=cr 0 k1 rfl;obtain⟨y0,y1,y2,y3,y4,y5,y6,y7,y8,y9,y10,y11,y12⟩:=vI m2;have HB:=aD b13;have HQ:=aD b12.size
 have HGX:OP (Gx gD (t.add w2.heap.size) w2.heap.size):=by
  obtain⟨_,_,_,_,_,_,_,hm⟩:=hd3;exact(hm.nx _ bf).2.2
 have hT3:=hT.below (b13.mono hBw);have hB3:=a6 hBw b13.size;rcases(show c.kind=1\/c.kind=2\/c.kind=3\/c.kind=4 by omega) with hk|hk|hk|hk
 case' inl=>
  have hx3:EZ w3 (t.add w2.heap.size).xs:=fun k hk=>by
   rcases bl.1 hk with rfl|hk
   ·exact⟨_,_,_,n3,by decide⟩
   ·obtain⟨c,T,f,hc,hn⟩:=hxs k hk;exact⟨c,T,f,bt b13 hc,hn⟩
  have cC:=Ho c.text w3 hd3 hx hT3 hB3 hg hx3;clear hx3;generalize hP:qf d (gu c.text)=P at cC
 case' inr.inl=>
  have cC:=ES c.name w3 hd3 hn;generalize hP:qS d c.name=P at cC
 case' inr.inr.inl=>
  have cC:=E0 c.sv pr cr2 w3 hd3 (hr.below b13);generalize hP:qT d c.sv=P at cC
 case' inr.inr.inr=>
  have cC:=Hv c.n c.day c.days w3 hd3 (fun W hW=>(hT3 W hW).2.2) hB3;generalize hP:jK d c.n c.day c.days=P at cC
 all_goals
  have HP:OP (doP d c=P):=by
   show _=_;rw[<-hP];unfold doP;repeat (first|rw[az hk]|rw[aw (by omega)])
  clear b1 b2 b3 b12 b13 hd3 n1 n2 hP k1 m2 hT3 hB3
  try rw[hk]at y0
  try (have e1:(c.kind==1)=false:=by simp;omega
       have e2:(c.kind==2)=false:=by simp;omega
       have e3:(c.kind==3)=false:=by simp;omega
       have e4:(c.kind==4)=false:=by simp;omega
       have e5:(c.kind==5)=false:=by simp;omega
       have e6:(c.kind==6)=false:=by simp;omega
       have e7:(c.kind==7)=false:=by simp;omega
       have e8:(c.kind==8)=false:=by simp;omega
       have e9:(c.kind==9)=false:=by simp;omega)
  clear hk
  go_enter func32,ntmps32
  go_wp2_with fail
  refine cC.mono ?_
  rintro e w4 ⟨t',wv,lv,rfl,hd4,hk4,hw4,hl4⟩
  obtain⟨t0,o1,o2,o3,o4⟩:=BP HB.o HQ.o hd4 hk4 hw4 hl4 (anC P.1 wv lv)
  obtain⟨p5,c5,rfl,_,_⟩:=hw4.here.1
  obtain⟨p6,c6,rfl,_,_⟩:=hl4.here
  have n4:=(hk4.blk _ HGX.o (aF n3)).trans n3
  have HO:=aD (eE o1 (eE o2 (eE o3 o4)))
  have HR:=aD (aJ _ _ _ (anC P.1 (.slice p5 P.1.who.length c5) (.slice p6 P.1.list.length c6)) _ _ n4)
  clear cC hd4 hk4 hw4 hl4 o1 o2 o3 o4 n3
  go_wp2_with(refine ay rfl 28 _ _ rfl _ _ rfl rfl _ _ n4 (by kernel_rfl) rfl (by simp[anC,Value.oneCell']) ?_)
  refine aU (v:= .agg (anC P.1 (.slice p5 P.1.who.length c5) (.slice p6 P.1.list.length c6))) ?_ rfl ?_
  ·exact aZ rfl _ _ w2.heap.size _ _ _ _ rfl HR.o anT rfl (by kernel_rfl)
  ·rw[HP.o]
   exact⟨t0,_,_,rfl,HO.o.1,HO.o.2.1,HO.o.2.2.1,HO.o.2.2.2⟩
theorem L3 (c:Cm)(pr pw:Option Addr)(cr2 cw:Nat)(w:World)(h:dq B gD d t w)(hcw:c.swho.length<=cw)(hwho:Rob (fun q=>q<B) (fun u=>dJ u (.slice pw c.swho.length cw) c.swho) w)(hk:c.kind=5):Calls prog 32 #[ab gD 0,.agg (doC c (.slice pr c.sv.roles.length cr2) (.slice pw c.swho.length cw))] w (qU B gD (doP d c) t w):=by
 obtain⟨w1,h1,b1,n1⟩:=nb w #[ab gD 0] 115;obtain⟨w2,h2,b2,n2⟩:=nb w1 (doC c (.slice pr c.sv.roles.length cr2) (.slice pw c.swho.length cw)) 37;obtain⟨w3,h3,b3,n3⟩:=nb w2 #[ag 0,ag 0,ag 0,ag 0,af,af] 28;have b12:=au b1 b2;have b13:=au b12 b3;have hd3:=h.opened (q:=w2.heap.size) b12.size (by rw[<-h3];simp) b13;have m2:=bt b3 n2;have k1:=bt (au b2 b3) n1;have z1:=cr 0 k1 rfl;obtain⟨y0,y1,y2,y3,y4,y5,y6,y7,y8,y9,y10,y11,y12⟩:=vI m2;have HB:=aD b13;have HQ:=aD b12.size
 have HGX:OP (Gx gD (t.add w2.heap.size) w2.heap.size):=by
  obtain⟨_,_,_,_,_,_,_,hm⟩:=hd3;exact(hm.nx _ bf).2.2
 have hw3:Rob (Fx gD (t.add w2.heap.size)) (fun u=>dJ u (.slice pw c.swho.length cw) c.swho) w3:=hwho.move b13.size (fun q _ hl=>b13.block q hl) fun q hl hq=>⟨(h.fx (.inl hq)).1,fun hx=>by
  rcases bl.1 hx with e|hx
  ·have:=b12.size;omega
  ·exact(h.fx (.inl hq)).2 hx⟩
 have cC:=JZ c.n c.sday c.smin c.swho pw cw w3 hd3 hw3 hcw;generalize hP:lR d c.n c.sday c.smin c.swho=P at cC
 have HP:OP (doP d c=P):=by
  show _=_;rw[<-hP];unfold doP;repeat (first|rw[az hk]|rw[aw (by omega)])
 clear b1 b2 b3 b12 b13 hd3 n1 n2 hP k1 m2 hw3;try rw[hk]at y0
 clear hk;go_enter func32,ntmps32;go_wp2_with fail;refine cC.mono ?_;rintro e w4 ⟨t',wv,lv,rfl,hd4,hk4,hw4,hl4⟩;obtain⟨t0,o1,o2,o3,o4⟩:=BP HB.o HQ.o hd4 hk4 hw4 hl4 (anC P.1 wv lv);obtain⟨p5,c5,rfl,_,_⟩:=hw4.here.1;obtain⟨p6,c6,rfl,_,_⟩:=hl4.here;have n4:=(hk4.blk _ HGX.o (aF n3)).trans n3;have HO:=aD (eE o1 (eE o2 (eE o3 o4)));have HR:=aD (aJ _ _ _ (anC P.1 (.slice p5 P.1.who.length c5) (.slice p6 P.1.list.length c6)) _ _ n4);clear cC hd4 hk4 hw4 hl4 o1 o2 o3 o4 n3;go_wp2_with(refine ay rfl 28 _ _ rfl _ _ rfl rfl _ _ n4 (by kernel_rfl) rfl (by simp[anC,Value.oneCell']) ?_)
 refine aU (v:= .agg (anC P.1 (.slice p5 P.1.who.length c5) (.slice p6 P.1.list.length c6))) ?_ rfl ?_
 ·exact aZ rfl _ _ w2.heap.size _ _ _ _ rfl HR.o anT rfl (by kernel_rfl)
 ·rw[HP.o];exact⟨t0,_,_,rfl,HO.o.1,HO.o.2.1,HO.o.2.2.1,HO.o.2.2.2⟩
theorem L4 (c:Cm)(pr pw:Option Addr)(cr2 cw:Nat)(w:World)(h:dq B gD d t w)(hcw:c.swho.length<=cw)(hwho:Rob (fun q=>q<B) (fun u=>dJ u (.slice pw c.swho.length cw) c.swho) w)(hk:c.kind=8):Calls prog 32 #[ab gD 0,.agg (doC c (.slice pr c.sv.roles.length cr2) (.slice pw c.swho.length cw))] w (qU B gD (doP d c) t w):=by
 obtain⟨w1,h1,b1,n1⟩:=nb w #[ab gD 0] 115;obtain⟨w2,h2,b2,n2⟩:=nb w1 (doC c (.slice pr c.sv.roles.length cr2) (.slice pw c.swho.length cw)) 37;obtain⟨w3,h3,b3,n3⟩:=nb w2 #[ag 0,ag 0,ag 0,ag 0,af,af] 28;have b12:=au b1 b2;have b13:=au b12 b3;have hd3:=h.opened (q:=w2.heap.size) b12.size (by rw[<-h3];simp) b13;have m2:=bt b3 n2;have k1:=bt (au b2 b3) n1;have z1:=cr 0 k1 rfl;obtain⟨y0,y1,y2,y3,y4,y5,y6,y7,y8,y9,y10,y11,y12⟩:=vI m2;have HB:=aD b13;have HQ:=aD b12.size
 have HGX:OP (Gx gD (t.add w2.heap.size) w2.heap.size):=by
  obtain⟨_,_,_,_,_,_,_,hm⟩:=hd3;exact(hm.nx _ bf).2.2
 have hw3:Rob (Fx gD (t.add w2.heap.size)) (fun u=>dJ u (.slice pw c.swho.length cw) c.swho) w3:=hwho.move b13.size (fun q _ hl=>b13.block q hl) fun q hl hq=>⟨(h.fx (.inl hq)).1,fun hx=>by
  rcases bl.1 hx with e|hx
  ·have:=b12.size;omega
  ·exact(h.fx (.inl hq)).2 hx⟩
 have cC:=Fb c.n 56 #[ab w.heap.size 0,ab w1.heap.size 0] (fun a d=>eQ d c.n a c.sday c.smin c.swho) w3 hd3 (fun _ _=>rfl) (fun a p k W ha hW hb hr=>J1 c a p pw k cw _ W hW (bt hb k1) (bt hb m2) (hd3.1.ap a ha) (hw3.move hb.size (fun q _ hl=>hb.block q hl) fun q hl hq=>⟨hq.1,fun hx=>by
  rcases bl.1 hx with e|hx
  ·omega
  ·exact hq.2 hx⟩) hcw) (fun a ha e=>zW hd3.1 (hd3.1.ap a ha).1 (hd3.1.ap a ha).2.2.1 (hd3.1.ap a ha).2.2.2.1 e) (fun a=>lJ d _ a _ _ _)
 generalize hP:iD d c.n (fun a d=>eQ d c.n a c.sday c.smin c.swho)=P at cC
 have HP:OP (doP d c=P):=by
  show _=_;rw[<-hP];unfold doP;repeat (first|rw[az hk]|rw[aw (by omega)])
 clear b1 b2 b3 b12 b13 hd3 n1 n2 hP k1 m2 hw3;try rw[hk]at y0
 clear hk;go_enter func32,ntmps32;go_wp2_with fail;refine cC.mono ?_;rintro e w4 ⟨t',wv,lv,rfl,hd4,hk4,hw4,hl4⟩;obtain⟨t0,o1,o2,o3,o4⟩:=BP HB.o HQ.o hd4 hk4 hw4 hl4 (anC P.1 wv lv);obtain⟨p5,c5,rfl,_,_⟩:=hw4.here.1;obtain⟨p6,c6,rfl,_,_⟩:=hl4.here;have n4:=(hk4.blk _ HGX.o (aF n3)).trans n3;have HO:=aD (eE o1 (eE o2 (eE o3 o4)));have HR:=aD (aJ _ _ _ (anC P.1 (.slice p5 P.1.who.length c5) (.slice p6 P.1.list.length c6)) _ _ n4);clear cC hd4 hk4 hw4 hl4 o1 o2 o3 o4 n3;go_wp2_with(refine ay rfl 28 _ _ rfl _ _ rfl rfl _ _ n4 (by kernel_rfl) rfl (by simp[anC,Value.oneCell']) ?_)
 refine aU (v:= .agg (anC P.1 (.slice p5 P.1.who.length c5) (.slice p6 P.1.list.length c6))) ?_ rfl ?_
 ·exact aZ rfl _ _ w2.heap.size _ _ _ _ rfl HR.o anT rfl (by kernel_rfl)
 ·rw[HP.o];exact⟨t0,_,_,rfl,HO.o.1,HO.o.2.1,HO.o.2.2.1,HO.o.2.2.2⟩
theorem Ig (c:Cm)(hk:1<=c.kind/\c.kind<=4):tz c:=fun _ _ _ _ w pr pw kr kw h hT hB hg hx hc _=>L2 c pr pw kr kw w h hc.text hT hB hg hx hc.name hc.roles hk
theorem Nu (c:Cm)(hk:c.kind=5):tz c:=fun _ _ _ _ w pr pw kr kw h _ _ _ _ hc hr=>L3 c pr pw kr kw w h (hc.cap _ _ _ rfl) hr hk
theorem Nv (c:Cm)(hk:c.kind=1\/c.kind=2\/c.kind=3\/c.kind=4\/c.kind=5):tz c:=by
 by_cases h5:c.kind=5
 ·exact Nu c h5
 ·exact Ig c (by omega)
theorem Nw (c:Cm)(hk:c.kind=8):tz c:=fun _ _ _ _ w pr pw kr kw h _ _ _ _ hc hr=>L4 c pr pw kr kw w h (hc.cap _ _ _ rfl) hr hk
theorem Nx (c:Cm)(hk:c.kind=1\/c.kind=2\/c.kind=3\/c.kind=4\/c.kind=5\/c.kind=8):tz c:=by
 by_cases h8:c.kind=8
 ·exact Nw c h8
 ·exact Nv c (by omega)
end
end
end Go.Proofs.YtjkilacmkbmmbaaGreatDoor
