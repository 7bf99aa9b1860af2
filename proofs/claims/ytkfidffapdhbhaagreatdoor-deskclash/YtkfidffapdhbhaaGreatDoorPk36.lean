/- Texts of the proof. -/
import Derived.Test.YtkfidffapdhbhaaGreatDoorPk35
import Derived.Test.YtkfidffapdhbhaaGreatDoorPk34
open Go.Proofs.Tryz
set_option maxRecDepth 100000
set_option maxHeartbeats 8000000
namespace Go.Proofs.YtkfidffapdhbhaaGreatDoor
section
open Go.RowKit Lx Vx Mx Msk
theorem OE:(prog.info? 38).map (fun i=>(i.zero,i.size,i.bytes))=some (some (.agg #[ag 0,ag 0,ag 0,ag 0,ag 0,ag 0,ag 0,ag 0,ag 0,ag 0,af]),11,104):=by kernel_rfl
theorem N5:prog.underlying 27=some (.slice 38):=by kernel_rfl
def tE (d:Dk)(a:Ap):Prop:=(0<=a.sv/\a.sv<d.svs.length)/\(0<=a.fr/\a.fr<=a.to/\a.to<=1440)/\(0<=a.left/\a.left<=10)/\(0<=a.bef/\a.bef<=1440/\0<=a.aft/\a.aft<=1440/\0<=a.len/\a.len<=1440)/\(0<=a.day/\a.day<146097)/\a.who.length<=4/\ ∀r∈a.who,0<=r/\r<d.res.length
theorem zu {d:Dk}{num:Int}{a:Ap}{day min:Int}{who:List Int}(hd:tm d)(hs:0<=a.sv/\a.sv<d.svs.length)(hl:0<=a.left/\a.left<=10)(hm:0<=a.bef/\a.bef<=1440/\0<=a.aft/\a.aft<=1440/\0<=a.len/\a.len<=1440)(h:(eJ d num a day min who).1.2=0):tE d (eJ d num a day min who).1.1:=by
 unfold eJ at h⊢;dsimp only at h⊢;by_cases h1:isN day 146097=false\/isN min 1440=false
 ·rw[ay h1]at h;cases h
 rw[au h1]at h⊢;by_cases h2:min-a.bef<0\/1440<min+a.len+a.aft
 ·rw[ay h2]at h;cases h
 rw[au h2]at h⊢;by_cases h3:jH who (d.svs.getD a.sv.toNat sv0).roles≠0
 ·rw[ay h3]at h;exact absurd h h3
 rw[au h3]at h⊢;split at h
 ·cases h
 ·rename_i h4;rw[au h4];obtain⟨s,hsv⟩: ∃s,d.svs[a.sv.toNat]? =some s:=⟨d.svs[a.sv.toNat]'(by omega),ax _⟩
  have e:d.svs.getD a.sv.toNat sv0=s:=(by simp[List.getD,hsv]);rw[e]at h3;have hw:=Du (hd.sv s (aK hsv)) (dS h3)
  have hdy:0<=day/\day<146097:=by
   have:isN day 146097=true:=by
    cases hq:isN day 146097 with
    |true=>rfl
    |false=>exact absurd (.inl hq) h1
   simpa[isN] using this
  exact⟨hs,⟨by show 0<=min-a.bef;omega,by show min-a.bef<=min+a.len+a.aft;omega,by show min+a.len+a.aft<=1440;omega⟩,hl,hm,hdy,hw.2,hw.1⟩
theorem JB (aa:List (Ap×Value))(p:Ap×Value):apF (aa++[p])=apF aa++(apC p).toList:=by simp[apF]
theorem DkM.addAp {B gD:Nat}{d:Dk}{t:Tr}{rv cv vv kv:Value}{ss:List (Sv×Value)}{aa:List (Ap×Value)}{wX W0 W1 W:World}{a:Ap}{v v':Value}(hm:DkM B gD d t rv cv vv kv ss aa wX)(hG:qh wX B 38 11 aa.length t.av (apF aa) (apC (a,v)) v' W0 W1)(hb:Below W1.heap.size (W1.setCell ⟨gD,3,none⟩ v') W)(hrob:Rob (Fx gD t) (fun u=>dy u v a.who) wX):
  DkM B gD {d with aps:=d.aps++[a]} {t with av:=v'} rv cv vv kv ss (aa++[(a,v)]) W/\Kd gD t {t with av:=v'} wX W:=by
 obtain⟨hb0,hgr,hv,hown⟩:=hG;have hm0:=hm.below hb0;have hkd:=By (t':={t with av:=v'}) (k:=3) hm0 (.inr (.inr rfl)) hgr hv (.inr (.inr ⟨rfl,rfl⟩));have blk2:=(hgr.block gD (aF hm0.blk) fun e=>g7 hm0.aps hm0.blk (by decide) e.symm).trans hm0.blk;have hne: ∀b,v'.ownBlock=some b->b≠gD:=fun b hb' e=>g7 hown blk2 (by decide) (by rw[hb',e]);have hbW:Below (W1.setCell ⟨gD,3,none⟩ v').heap.size (W1.setCell ⟨gD,3,none⟩ v') W:=hb.mono (by simp);have hkW:=hkd.trans (Kd.of hbW);have keep: ∀{e s n:Nat} {u:Value} {xs:List Value},(W1.setCell ⟨gD,3,none⟩ v').ownsRow B e s u n xs->W.ownsRow B e s u n xs:=fun hr=>bp hr fun b hq=>hbW.block b (hr.lt b hq).2;refine⟨hm0.turn hkW (bt hbW (aV W1 gD 3 _ _ v' blk2)) rfl rfl rfl (keep (pB ⟨_,hm0.blk⟩ hm0.res hm0.aps (by decide) (by decide) hgr)) (keep (pB ⟨_,hm0.blk⟩ hm0.svs hm0.aps (by decide) (by decide) hgr)) (keep (bp ?_ fun b hq=>aM W1 ⟨gD,3,none⟩ b v' (hne b hq))) hm0.sve (by simp[hm0.ape]) (fun p hp=> .inl hp) (fun p hp=> ?_),(Kd.of hb0).trans hkW⟩
 ·rw[aN,JB];exact hown
 ·rcases bT.1 hp with hp|hp
  ·exact .inl ⟨p.1,hp,rfl⟩
  ·rw[dh.1 hp];exact .inr (hkW.rob (hrob.below hb0))
structure ApJ (wX:World)(B gD:Nat)(c:Array Value)(v:Value)(na:Nat)(aa:List (Ap×Value))(M:Nat->Bool)(φ:Nat->Value)(W:World):Prop where
 bel:M 8=false->Below wX.heap.size wX W
 one:M 7=true->M 8=false-> ∃g k,φ 62= .slice (some (ae g 0)) 1 k/\W.heap[g]? =ah c 38
 app:M 8=true->M 12=false-> ∃g k W0,φ 63= .slice (some (ae g 0)) (na+1) k/\qh wX B 38 11 na v (apF aa) c (φ 63) W0 W
 sto:M 12=true-> ∃g k W0 W1,φ 63= .slice (some (ae g 0)) (na+1) k/\qh wX B 38 11 na v (apF aa) c (φ 63) W0 W1/\Below W1.heap.size (W1.setCell ⟨gD,3,none⟩ (φ 63)) W
section
variable {B gD:Nat} {d:Dk} {t:Tr}
theorem JC (n day min:Int)(who:List Int)(pw:Option Addr)(cw:Nat)(w:World)(h:dm B gD d t w)(hw:Rob (Fx gD t) (fun u=>dy u (.slice pw who.length cw) who) w)(hcw:who.length<=cw):Calls prog 15 #[ab gD 0,ag n,.agg #[ag day,ag min,.slice pw who.length cw]] w (qg B gD (lh d n day min who) t w):=by
 obtain⟨w1,h1,b1,n1⟩:=nb w #[ag day,ag min,.slice pw who.length cw] 36;obtain⟨w2,h2,b2,n2⟩:=nb w1 #[ag 0,ag 0,ag 0,ag 0,af,af] 47;have s1:w1.heap.size=w.heap.size+1:=by rw[<-h1];simp
 have s2:w2.heap.size=w1.heap.size+1:=by rw[<-h2];simp
 have b02:=aq b1 b2;have hd2:=h.opened (q:=w1.heap.size) b1.size s2 b02;have m1:=bt b2 n1;have HD2:=aB hd2;have HK2:OK (Kd gD t t w w2):=Kd.of b02;have H0:=aB h;have HW:=aB hw;have HB02:=aB b02;have HG:OK (∀q,w.heap.size<=q->Gx gD t q):=fun q hq=>(h.fx (.inr hq)).1;obtain⟨hok,rv,cv,vv,kv,ss,aa,hm⟩:=hd2;have hss:ss.length=d.svs.length:=by rw[<-hm.sve,bf]
 have haa:aa.length=d.aps.length:=by rw[<-hm.ape,bf]
 obtain⟨ps,cs,hsv⟩:=cZ hm.svs;obtain⟨pa,ca,hav⟩:=cZ hm.aps;obtain⟨ns,hns⟩: ∃q,ss.length=q:=⟨_,rfl⟩
 obtain⟨na,hna⟩: ∃q,aa.length=q:=⟨_,rfl⟩
 rw[hns]at hsv;rw[hna]at hav;have z2:w2.cell? (ae gD 2)=some (.slice ps ns cs):=(cr (v:=t.sv) 2 hm.blk rfl).trans (congrArg some hsv);have z3:w2.cell? (ae gD 3)=some (.slice pa na ca):=(cr (v:=t.av) 3 hm.blk rfl).trans (congrArg some hav);have HNS:OK (d.svs.length=ns):=by show _=_;rw[<-hss,hns]
 have HNA:OK (d.aps.length=na):=by show _=_;rw[<-haa,hna]
 have HSV:OK (t.sv= .slice ps ns cs):=hsv;have HSS:=aB hns;have HM:=aB hm;have HOK:=aB hok;have hna30:na<=30:=by rw[<-HNA.o];exact hok.al
 have cN:=pA n (ns:Int) w2;obtain⟨c1,hb1⟩: ∃q,isN n (ns:Int)=q:=⟨_,rfl⟩
 rw[hb1]at cN;have HB1:=aB hb1;have hw1:w.heap.size<w1.heap.size:=by omega
 have hw2:w1.heap.size<w2.heap.size:=by omega
 clear h hw b1 b2 b02 hm hok hss haa hsv hav hns hna hb1 n1 s1 s2;go_enter func15,ntmps15;go_wp2_with fail;refine cN.mono ?_;rintro e wa ⟨rfl,hwa⟩;subst hwa;clear cN;cases c1 with
 |false=>
  have HP:OK (lh d n day min who=(noA 6,d)):=(by show _=_;unfold lh;rw[HNS.o,ay HB1.o]);clear h1 h2 z2 z3 m1;have cR:=eO 6 wa;go_wp2_with fail;refine cR.mono ?_;rintro e w9 ⟨rfl,b9⟩;have n9:=bt b9 n2;have HO:=aB (fj (HD2.o.below b9) (HK2.o.trans (Kd.of b9)) (by omega) (anC (noA 6) (af) (af)));have HR:=aB (aJ _ _ _ (anC (noA 6) (af) (af)) _ _ n9);clear cR b9 n2;go_wp2_with(refine aw rfl 47 _ _ rfl _ _ rfl rfl _ _ n9 (by kernel_rfl) rfl (by simp[anC,noA,Value.oneCell']) ?_)
  refine aU (v:= .agg (anC (noA 6) (af) (af))) ?_ rfl ?_
  ·exact aZ rfl _ _ w1.heap.size _ _ _ _ rfl HR.o anT rfl (by kernel_rfl)
  ·rw[HP.o];exact⟨t,_,_,rfl,HO.o.1,HO.o.2,bQ _ _,bQ _ _⟩
 |true=>
  by_cases h30:30<=na
  ·have h30':(30:Int)<=(na:Int):=(by omega);have HP:OK (lh d n day min who=(noA 5,d)):=(by show _=_;unfold lh;rw[HNS.o,au (by rw[HB1.o];simp),HNA.o,ay h30]);clear h1 h2 z2 m1;have cR:=eO 5 wa;go_wp2_with fail;refine cR.mono ?_;rintro e w9 ⟨rfl,b9⟩;have n9:=bt b9 n2;have HO:=aB (fj (HD2.o.below b9) (HK2.o.trans (Kd.of b9)) (by omega) (anC (noA 5) (af) (af)));have HR:=aB (aJ _ _ _ (anC (noA 5) (af) (af)) _ _ n9);clear cR b9 n2;go_wp2_with(refine aw rfl 47 _ _ rfl _ _ rfl rfl _ _ n9 (by kernel_rfl) rfl (by simp[anC,noA,Value.oneCell']) ?_)
   refine aU (v:= .agg (anC (noA 5) (af) (af))) ?_ rfl ?_
   ·exact aZ rfl _ _ w1.heap.size _ _ _ _ rfl HR.o anT rfl (by kernel_rfl)
   ·rw[HP.o];exact⟨t,_,_,rfl,HO.o.1,HO.o.2,bQ _ _,bQ _ _⟩
  ·have h30': ¬(30:Int)<=(na:Int):=(by omega);have hn:0<=n/\n<(ns:Int):=(by have:=HB1.o;simpa[isN] using this);obtain⟨k,rfl⟩: ∃k:Nat,n=(k:Int):=⟨n.toNat,by omega⟩
   have hks:k<ss.length:=(by rw[HSS.o];omega);have hk0:(0:Int)<=(k:Int):=(by omega);have hkn:(k:Int)<(ns:Int):=hn.2;obtain⟨⟨s,sv⟩,hsk⟩: ∃q,ss[k]? =some q:=⟨ss[k],ax hks⟩
   have hsd:d.svs[k]? =some s:=(by rw[<-HM.o.sve,a8,hsk];rfl);obtain⟨pr,crr,hse,_,_⟩:=(HM.o.svr _ (aK hsk)).here;dsimp only at hse;subst hse;obtain⟨gs,cs',e1,_,hrg⟩:=jx r8 HM.o.svs rfl hsk;have e0:Value.slice ps ns cs= .slice (some (ae gs 0)) ns cs':=(by rw[<-HSV.o,<-HSS.o];exact e1);injection e0 with e2 e3 e4;subst e2 e4;obtain⟨A0,hA0⟩: ∃q:Ap,q=⟨1,10,0,0,(k:Int),s.bef,s.aft,s.len,0,0,[]⟩:=⟨_,rfl⟩
   obtain⟨wY,w3,hY,nY,h3,b3,n3⟩:=nbs wa #[ag 0,ag 0,ag 0,af] (svC (s,.slice pr s.roles.length crr)) 41;obtain⟨wZ,w4,hZ,nZ,h4,b4,n4⟩:=nbs w3 #[ag 0,ag 0,ag 0,ag 0,ag 0,ag 0,ag 0,ag 0,ag 0,ag 0,af] #[ag 1,ag 10,ag 0,ag 0,ag (k:Int),ag s.bef,ag s.aft,ag s.len,ag 0,ag 0,af] 38;have s4:w4.heap.size=w3.heap.size+1:=(by rw[<-h4,<-hZ];simp);have hd4:=(HD2.o.below b3).opened (q:=w3.heap.size) (az _) s4 b4;have b24:=aq b3 b4;have q0:w3.cell? (ae wa.heap.size 0)=some (ag s.len):=cr 0 n3 rfl;have q1:w3.cell? (ae wa.heap.size 1)=some (ag s.bef):=cr 1 n3 rfl;have q2:w3.cell? (ae wa.heap.size 2)=some (ag s.aft):=cr 2 n3 rfl;have m4:=bt b24 m1;have l4:=bt b24 n2;have hms:=(vk (HOK.o.sv s (aK hsd))).meas
   have hms':0<=s.bef/\s.bef<=1440/\0<=s.aft/\s.aft<=1440/\0<=s.len/\s.len<=1440:=by
    unfold jU at hms;have:=fD hms;omega
   have hsvs:0<=A0.sv/\A0.sv<d.svs.length:=(by rw[hA0,HNS.o];exact⟨hk0,hkn⟩);have hbds:0<=A0.bef/\A0.bef<=1440/\0<=A0.aft/\A0.aft<=1440/\0<=A0.len/\A0.len<=1440:=(by rw[hA0];exact hms');have h34:wa.heap.size<w3.heap.size:=aF n3;have HB04:=aB (aq HB02.o b24)
   have hw4:Rob (Fx gD ((t.add w1.heap.size).add w3.heap.size)) (fun u=>dy u (.slice pw who.length cw) who) w4:=HW.o.move HB04.o.size (fun q _ hl=>HB04.o.block q hl) fun q hl hq=>⟨hq.1,fun hx=>by
    rcases bG.1 hx with e|hx
    ·omega
    ·rcases bG.1 hx with e|hx
     ·omega
     ·exact hq.2 hx⟩
   have cP:=xp (-1) A0 none pw 0 cw day min who w4 hd4 hsvs hbds hw4 hcw;obtain⟨P,hP⟩: ∃q,eJ d (-1) A0 day min who=q:=⟨_,rfl⟩
   rw[hP]at cP;unfold uq at cP
   have HPP:OK (lh d (k:Int) day min who=if P.1.2≠0 then(noA P.1.2,P.2) else(iW P.2.aps.length,{P.2 with aps:=P.2.aps++[P.1.1]})):=by
    show _=_;have e:d.svs.getD k sv0=s:=(by simp[List.getD,hsd]);unfold lh;rw[HNS.o,au (by rw[HB1.o];simp),HNA.o,au h30];simp only[bV,e];rw[hA0]at hP;rw[hP]
   have HCR:OK (Cor d P.2):=(by have:=lN d (-1) A0 day min who;rw[hP]at this;exact this)
   have HAP:OK (P.1.2=0->tE d P.1.1):=fun e=>by
    have:=zu (num:= -1) (a:=A0) (day:=day) (min:=min) (who:=who) HOK.o hsvs (by rw[hA0];exact⟨by show(0:Int)<=10;omega,gJ _⟩) hbds (by rw[hP];exact e);rw[hP]at this;exact this
   subst hA0;obtain⟨nw,hnw⟩: ∃q,who.length=q:=⟨_,rfl⟩
   rw[hnw]at cP m4⊢;have HK4:=aB (Kd.of (gD:=gD) (t:=t) HB04.o);have hs4:wa.heap.size<w4.heap.size:=(by omega);clear h1 h2 hn hks hsk hsd e1 e3 hd4 b24 hms hms' hsvs hbds hw4 hP b3 b4 m1 n2 s4 hnw hcw HB04 HB02;go_wp2_with(first|(refine wpList_load_mid rfl 41 _ rfl gs (k*4) rfl (svC (s,.slice pr s.roles.length crr)).toList _ hrg svT rfl (by kernel_rfl) ?_)|(refine aw rfl 41 _ _ rfl _ _ rfl rfl _ _ nY (by kernel_rfl) rfl (uj _ _ _ _) ?_;rw[h3])|(refine aw rfl 38 _ _ rfl _ _ rfl rfl _ _ nZ (by kernel_rfl) rfl (by simp[Value.oneCell']) ?_;rw[h4])|(refine aO rfl 38 _ rfl _ rfl _ _ _ _ n4 apT rfl (by kernel_rfl) ?_)|(refine aO rfl 36 _ rfl _ rfl _ _ _ _ m4 slT rfl (by kernel_rfl) ?_))
   refine cP.mono ?_;rintro e w5 ⟨sv5,rfl,hd5,hk5,hrb5⟩;obtain⟨p5,c5,hv5,_,_⟩:=hrb5.here;subst hv5;have gx3:=HG.o w3.heap.size (by omega);have n5:=(hk5.blk _ gx3 (aF n4)).trans n4;have l5:=(hk5.blk _ (HG.o w1.heap.size (by omega)) (aF l4)).trans l4;obtain⟨nx,hnx⟩: ∃q,P.1.1.who.length=q:=⟨_,rfl⟩
   rw[hnx]at hrb5⊢;obtain⟨cA,hcA⟩: ∃q,apC (P.1.1,.slice p5 nx c5)=q:=⟨_,rfl⟩
   have h1c:cA.all (·.oneCell')=true:=(by rw[<-hcA];exact fL _ _ _ _);have hc11:cA.size=11:=(by rw[<-hcA];rfl);rw[hcA];obtain⟨w6,hw6⟩: ∃W,w5.setRow w3.heap.size cA=W:=⟨_,rfl⟩
   have n6:=aJ _ _ _ cA _ _ n5;rw[hw6]at n6;have ho6: ∀q,q≠w3.heap.size->w6.heap[q]? =w5.heap[q]? :=fun q hq=>hw6▸aT _ _ _ _ hq;have hs6:w6.heap.size=w5.heap.size:=(by rw[<-hw6];simp);have hd6:dm B gD P.2 (t.add w1.heap.size) w6:=hd5.closed (by omega) fun q _ hq=>ho6 q hq;have hrb6:Rob (Fx gD (t.add w1.heap.size)) (fun u=>dy u (.slice p5 nx c5) P.1.1.who) w6:=hrb5.move (by omega) (fun q hq _=>ho6 q fun e=>hq.2 (by rw[e];exact bo)) fun q _ hq=>⟨hq.1,fun hx=>hq.2 (bx _ hx)⟩
   have hk45:Kd gD t t w4 w5:=⟨hk5.os,hk5.tape,hk5.output,hk5.size,hk5.blk,fun _ _ h=>h,rfl⟩
   have HK6:=aB ((HK4.o.trans hk45).closed (w':=w6) (q:=w3.heap.size) (by omega) (by rw[<-hw6];rfl) (by rw[<-hw6];rfl) (by rw[<-hw6];rfl) (by omega) fun q _ hq=>ho6 q hq);have l6:=(ho6 _ (by omega)).trans l5;have HD6:=aB hd6;have HRB6:=aB hrb6;have hs46:w4.heap.size<=w6.heap.size:=(by rw[hs6];exact hk5.size);obtain⟨er,her⟩: ∃q,P.1.2=q:=⟨_,rfl⟩
   rw[her]at HPP HAP⊢;clear cP hd5 hk5 hk45 hrb5 hd6 hrb6 ho6 hs6 l5 l4 her n4 m4 hY hZ nY nZ h3 h4 q0 q1 q2 hrg n3 z2 z3 gx3;by_cases h0:er=0
   ·subst h0;obtain⟨hok,rv',cv',vv',kv',ss',aa',hm6⟩:=HD6.o;obtain⟨pb,cb,hbv⟩:=cZ hm6.aps;obtain⟨nb',hnb⟩: ∃q,aa'.length=q:=⟨_,rfl⟩
    have hnb2:P.2.aps.length=nb':=(by rw[<-hm6.ape,bf,hnb])
    have hnb3:nb'=na:=by
     obtain⟨_,_,e⟩:=HCR.o;rw[<-hnb2,e];exact HNA.o
    have HP:OK (lh d (k:Int) day min who=(iW nb',{P.2 with aps:=P.2.aps++[P.1.1]})):=HPP.o.trans (by rw[au (by simp),hnb2]);rw[hnb]at hbv;have z3:w6.cell? (ae gD 3)=some (.slice pb nb' cb):=(cr (v:=t.av) 3 hm6.blk rfl).trans (congrArg some hbv);have hown:w6.ownsRow B 38 11 (.slice pb nb' cb) nb' (apF aa'):=(by have:=hm6.aps;rw[hnb]at this;rw[<-show t.av=_ from hbv];exact this);have hg6:=aF hm6.blk;have hB6:B<=w6.heap.size:=(by have:=hm6.lo;omega);have HBV:OK (t.av= .slice pb nb' cb):=hbv;have HNB:=aB hnb;have hn30:nb'<30:=(by omega);clear hnb hnb2 hnb3 hbv HPP;go_upto_region 10 with(refine aw rfl 38 _ _ rfl _ _ rfl rfl _ _ n5 (by rw[hc11];kernel_rfl) (by rw[hc11];rfl) h1c ?_;rw[hw6])
    clear n5 hw6;refine dl (ApJ w6 B gD cA (.slice pb nb' cb) nb' aa') [kn 55 (ab gD 0),kn 56 (ab gD 0),kn 57 (ab gD 0),kn 58 (ab gD 0),kn 59 (ab gD 3),kn 60 (.slice pb nb' cb),kn 61 (.agg cA),td 62,td 63,kn 64 (ab gD 0),kn 65 (ab gD 0),kn 66 (ab gD 3),nk] (fun _=>⟨fun _=>(aG _ _).drew,(fun h=>by cases h),(fun h=>by cases h),(fun h=>by cases h)⟩) (fun _ _ _ _ hb h=>⟨fun c=>(h.bel c).trans (hb.mono (h.bel c).size),fun c c'=> ?_,fun c c'=> ?_,fun c=> ?_⟩) (by kernel_rfl) ?_ ?_
    ·obtain⟨g,c1,e1,hg⟩:=h.one c c';exact⟨g,c1,e1,bt hb hg⟩
    ·obtain⟨g,c1,W0,e1,hg⟩:=h.app c c';exact⟨g,c1,W0,e1,hg.below hb⟩
    ·obtain⟨g,c1,W0,W1,e1,hg,hb1⟩:=h.sto c;exact⟨g,c1,W0,W1,e1,hg,hb1.trans (hb.mono (by have:=hb1.size;simpa using this))⟩
    ·rintro M φ W hJ hc F l hl hF;have c87:M 8=true->M 7=true:=fun h=>hc 8 _ rfl h ⟨7,.data⟩ (by simp) rfl rfl;have cD8:M 12=true->M 8=true:=fun h=>hc 12 _ rfl h ⟨8,.data⟩ (by simp) rfl rfl;have HCS:=aB (fw c87 cD8);have HJ:=aB hJ;clear hc c87 cD8 hJ;simp only[kn,td,nk,dQ,aP,aW,Act.put,aA,aI,aH]at hl;subst hl;simp only[dc,Nat.reduceAdd]at hF;dsimp only[kn,td,nk,dx,eo,dV,Act.put];and_intros;all_goals first|exact trivial|intro hw hn hm K hK
     all_goals try (go_simp;with_reducible exact hK _ _ ⟨rfl,aG _ _⟩)
     ·have hb:=HJ.o.bel (hn 8 _ rfl (by kernel_rfl));have y:=aj hb z3;go_simp;exact hK _ _ ⟨rfl,aG _ _⟩
     ·have nW:=bt (HJ.o.bel (iH HCS.o.1 (hn 7 _ rfl (by kernel_rfl)))) n6;show Oper.wp _ _ _ _ _ _;refine d7 38 _ rfl _ (by simp[Act.eval,hF]) _ _ _ _ nW apT rfl (by rw[hc11];kernel_rfl) ?_;exact hK _ _ ⟨rfl,aG _ _⟩
     ·have h8:=iH HCS.o.1 hm;have hD:=iH HCS.o.2 h8;have hb:=HJ.o.bel h8;have hbA:=am W (.cells cA 38);rw[<-hcA]at hF hbA;clear hw hn;unfold apC at hF;go_simp;refine hK _ _ ⟨trivial,fun _=>aq hb hbA,fun _ _=>⟨W.heap.size,1,dM,?_⟩,fun c _=>lE h8 c (by decide),fun c=>lE hD c (by decide)⟩;rw[<-hcA];exact aD _ _
     ·have h7:=hw ⟨7,.data⟩ (by simp) rfl rfl;have hD:=iH HCS.o.2 hm;have hb:=HJ.o.bel hm;obtain⟨g,c1,e62,hg⟩:=HJ.o.one h7 hm;have hownW:=bp hown fun b hq=>hb.block b (hown.lt b hq).2;show Oper.wp _ _ _ _ _ _;refine lF (ops:= #[]) rfl (ig (c:=c1) rfl _ _ 27 38 rfl N5 OE rfl (by decide) (by decide) (by simp[Act.eval,hF]) hownW (by simp[Act.eval,hF,e62]) hg hc11 h1c (by omega) (ba hB6 hb.size) ?_);rintro v' w' ho hgr hbl ⟨g2,c2,rfl⟩;refine⟨rfl,hK _ _ ⟨trivial,fun c=>by simp at c,fun _ c=>by simp at c,fun _ _=>⟨g2,c2,W,dM,?_⟩,fun c=>lE hD c (by decide)⟩⟩;rw[dM];exact⟨hb,hgr,hbl,ho⟩
     ·have h8:=hw ⟨8,.data⟩ (by simp) rfl rfl;obtain⟨g,c1,W0,e63,hG⟩:=HJ.o.app h8 hm;have blkW:=(hG.2.1.block gD (aR hg6 hG.1.size) fun e=>g7 hown hm6.blk (by decide) e.symm).trans (bt hG.1 hm6.blk);have y:=cr 3 blkW rfl;have x3:=bh _ _ 3 _ _ blkW;rw[e63]at hF;clear hw hn blkW;go_simp;refine hK undef _ ⟨trivial,fun c=> ?_,fun _ c=> ?_,fun _ c=>by simp at c,fun _=>⟨g,c1,W0,W,e63,hG,by rw[e63];exact aG _ _⟩⟩
      ·rw[orZ (by decide),h8]at c;cases c
      ·rw[orZ (by decide),h8]at c;cases c
    ·rintro M φ W hM hJ;obtain⟨g,c1,W0,W1,e63,hG,hbW⟩:=hJ.sto (hM 12 (by decide) rfl);simp only[kn,td,nk,dX,aP,aW,Act.put,aA,aI,aH];rw[e63]at hG hbW;rw[e63];obtain⟨hm2,hk2⟩:=hm6.addAp (d:=P.2) (a:=P.1.1) (v:= .slice p5 nx c5) (by rw[HNB.o,hcA];show qh w6 B 38 11 nb' t.av _ _ _ _ _;rw[HBV.o];exact hG) hbW HRB6.o;have hap:tE d P.1.1:=HAP.o trivial
     have hd2:dm B gD {P.2 with aps:=P.2.aps++[P.1.1]} (({t with av:= .slice (some (ae g 0)) (nb'+1) c1}:Tr).add w1.heap.size) W:=by
      refine⟨⟨hok.flt,hok.vl,hok.kl,hok.rl,hok.sl,?_,hok.gv,hok.nm,hok.sv,fun x hx=> ?_⟩,_,_,_,_,_,_,hm2⟩
      ·show(P.2.aps++[P.1.1]).length<=30;rw[aN,<-hm6.ape,bf,HNB.o];simp;omega
      ·rcases bT.1 hx with hx|hx
       ·exact hok.ap x hx
       ·rw[dh.1 hx];obtain⟨_,_,e⟩:=HCR.o;rw[e];exact hap
     have hkw:Kd gD t {t with av:= .slice (some (ae g 0)) (nb'+1) c1} w W:=⟨hk2.os.trans HK6.o.os,hk2.tape.trans HK6.o.tape,hk2.output.trans HK6.o.output,ba HK6.o.size hk2.size,fun q hq hl=>(hk2.blk q hq (aR hl HK6.o.size)).trans (HK6.o.blk q hq hl),fun q hl hq=>hk2.gx q (aR hl HK6.o.size) hq,rfl⟩
     have lW:=(hk2.blk w1.heap.size (hm6.nx _ bo).2.2 (aF l6)).trans l6;have y3:W.cell? (ae gD 3)=some (.slice (some (ae g 0)) (nb'+1) c1):=cr 3 hm2.blk rfl;have HO:=aB (fj hd2 hkw (by omega) (anC (iW nb') (af) (af)));have HR:=aB (aJ _ _ _ (anC (iW nb') (af) (af)) _ _ lW);have hw1':IntKind.i64.wrap ((nb':Int)+1-1)=(nb':Int):=(by rw[br];omega);clear hM hJ hG hbW hm2 hk2 hd2 hkw hok hm6 hown hcA h1c hc11 l6 n6 z3;go_wp2_with(refine aw rfl 47 _ _ rfl _ _ rfl rfl _ _ lW (by kernel_rfl) rfl (by simp[Value.oneCell']) ?_)
     refine aU (v:= .agg (anC (iW nb') (af) (af))) ?_ rfl ?_
     ·exact aZ rfl _ _ w1.heap.size _ _ _ _ rfl HR.o anT rfl (by kernel_rfl)
     ·rw[HP.o];exact⟨_,_,_,rfl,HO.o.1,HO.o.2,bQ _ _,bQ _ _⟩
   ·have h0':(er !=0)=true:=(by simpa using h0);have HP:OK (lh d (k:Int) day min who=(noA er,P.2)):=HPP.o.trans (by rw[ay h0]);clear h0;go_wp2_with(refine aw rfl 38 _ _ rfl _ _ rfl rfl _ _ n5 (by rw[hc11];kernel_rfl) (by rw[hc11];rfl) h1c ?_;rw[hw6])
    clear n5 hw6;have cR:=eO er w6;go_wp2_with fail;refine cR.mono ?_;rintro e w9 ⟨rfl,b9⟩;have n9:=bt b9 l6;have HO:=aB (fj (HD6.o.below b9) (HK6.o.trans (Kd.of b9)) (by omega) (anC (noA er) (af) (af)));have HR:=aB (aJ _ _ _ (anC (noA er) (af) (af)) _ _ n9);clear cR b9 l6;go_wp2_with(refine aw rfl 47 _ _ rfl _ _ rfl rfl _ _ n9 (by kernel_rfl) rfl (by simp[anC,noA,Value.oneCell']) ?_)
    refine aU (v:= .agg (anC (noA er) (af) (af))) ?_ rfl ?_
    ·exact aZ rfl _ _ w1.heap.size _ _ _ _ rfl HR.o anT rfl (by kernel_rfl)
    ·rw[HP.o];exact⟨t,_,_,rfl,HO.o.1,HO.o.2,bQ _ _,bQ _ _⟩
end
end
section
open Go.RowKit Lx Vx Mx Msk
section
variable {B gD:Nat} {d:Dk} {t:Tr}
theorem sb (n:Int)(F:Nat)(caps:Array Value)(f:Ap->Dk->(Ap×Int)×Dk)(w:World)(h:dm B gD d t w)(eF: ∀args w,(callFunc F args).run prog w= .ok (.enter F args) w)
  (hbec: ∀(a:Ap) (p:Option Addr) (c:Nat) (W:World),a∈d.aps->dm B gD d (t.add w.heap.size) W->Below w.heap.size w W->Rob (Fx gD (t.add w.heap.size)) (fun u=>dy u (.slice p a.who.length c) a.who) W->Calls prog F (#[.agg (apC (a,.slice p a.who.length c))]++caps) W (uq B gD (f a d) (t.add w.heap.size) W))
  (hfok: ∀a∈d.aps,(f a d).1.2=0->tE d (f a d).1.1) (hfc: ∀a,Cor d (f a d).2):Calls prog 16 #[ab gD 0,ag n,.func (.func F) #[] caps] w (qg B gD (ib d n f) t w):=by
 obtain⟨w1,h1,b1,n1⟩:=nb w #[ag 0,ag 0,ag 0,ag 0,af,af] 47;have s1:w1.heap.size=w.heap.size+1:=by rw[<-h1];simp
 have hd1:=h.opened (az _) s1 b1;have HD1:=aB hd1;have HK1:OK (Kd gD t t w w1):=Kd.of b1;have HB1:=aB b1;have HG:OK (∀q,w.heap.size<=q->Gx gD t q):=fun q hq=>(h.fx (.inr hq)).1;have HBE:=aB hbec;have HFO:=aB hfok;have HFC:=aB hfc;obtain⟨hok,hdm⟩:=hd1;have HDM:=aB hdm;obtain⟨rv,cv,vv,kv,ss,aa,hm⟩:=hdm;have haa:aa.length=d.aps.length:=by rw[<-hm.ape,bf]
 obtain⟨pa,ca,hav⟩:=cZ hm.aps;obtain⟨na,hna⟩: ∃q,d.aps.length=q:=⟨_,rfl⟩
 rw[haa,hna]at hav;have z3:w1.cell? (ae gD 3)=some (.slice pa na ca):=(cr (v:=t.av) 3 hm.blk rfl).trans (congrArg some hav);have HAV:OK (t.av= .slice pa na ca):=hav;have HNA:=aB hna;have hw1:w.heap.size<w1.heap.size:=by omega
 have cN:=pA n (na:Int) w1;obtain⟨c1,hb1⟩: ∃q,isN n (na:Int)=q:=⟨_,rfl⟩
 rw[hb1]at cN;have HBN:=aB hb1;clear h b1 hm haa hav hna hb1 s1 hbec hfok hfc hok;go_enter func16,ntmps16;go_wp2_with fail;refine cN.mono ?_;rintro e wa ⟨rfl,hwa⟩;subst hwa;clear cN;cases c1 with
 |false=>
  have HP:OK (ib d n f=(noA 6,d)):=(by show _=_;unfold ib;rw[HNA.o,ay (.inl HBN.o)]);clear h1 z3;have cR:=eO 6 wa;go_wp2_with fail;refine cR.mono ?_;rintro e w9 ⟨rfl,b9⟩;have n9:=bt b9 n1;have HO:=aB (fj (HD1.o.below b9) (HK1.o.trans (Kd.of b9)) (by omega) (anC (noA 6) (af) (af)));have HR:=aB (aJ _ _ _ (anC (noA 6) (af) (af)) _ _ n9);clear cR b9 n1;go_wp2_with(refine aw rfl 47 _ _ rfl _ _ rfl rfl _ _ n9 (by kernel_rfl) rfl (by simp[anC,noA,Value.oneCell']) ?_)
  refine aU (v:= .agg (anC (noA 6) (af) (af))) ?_ rfl ?_
  ·exact aZ rfl _ _ w.heap.size _ _ _ _ rfl HR.o anT rfl (by kernel_rfl)
  ·rw[HP.o];exact⟨t,_,_,rfl,HO.o.1,HO.o.2,bQ _ _,bQ _ _⟩
 |true=>
  have hn:0<=n/\n<(na:Int):=(by have:=HBN.o;simpa[isN] using this);obtain⟨k,rfl⟩: ∃k:Nat,n=(k:Int):=⟨n.toNat,by omega⟩
  have hk0:(0:Int)<=(k:Int):=(by omega);have hkn:(k:Int)<(na:Int):=hn.2;have hkn':k<na:=(by omega);obtain⟨a,pw,cw,ga,ca',ha,hva,_,hrg,hrob⟩:=DkM.ap HDM.o (j:=k) (by rw[HNA.o];exact hkn');have e0:Value.slice pa na ca= .slice (some (ae ga 0)) na ca':=(by rw[<-HAV.o,<-HNA.o];exact hva);injection e0 with e2 e3 e4;subst e2 e4;have zs:wa.cell? (ae ga (k*11))=some (ag a.st):=hrg 0 _ rfl;have hma:a∈d.aps:=aK ha;have hgd:d.aps.getD k ap0=a:=(by simp[List.getD,ha]);have cB:=HBE.o a pw cw wa hma HD1.o HB1.o hrob;unfold uq at cB;obtain⟨P,hP⟩: ∃q,f a d=q:=⟨_,rfl⟩
  rw[hP]at cB;obtain⟨st,hst⟩: ∃q,a.st=q:=⟨_,rfl⟩
  rw[hst]at zs
  have HCP:OK (ib d (k:Int) f=if st=3 then(noA 6,d) else if P.1.2≠0 then(noA P.1.2,P.2) else(noA 0,{P.2 with aps:=P.2.aps.set k P.1.1})):=by
   show _=_;unfold ib;simp only[bV,hgd,hP,hst,HNA.o,HBN.o];by_cases e:st=3
   ·simp[e]
   ·simp[e]
  have HCR:OK (Cor d P.2):=(by have:=HFC.o a;rw[hP]at this;exact this);have HAP:OK (P.1.2=0->tE d P.1.1):=(by have:=HFO.o a hma;rw[hP]at this;exact this);clear hn hva e3 ha hma hgd hP hst hrob HBE HFO HFC;by_cases h3:st=3
  ·have h3':(st==3)=true:=(by simpa using h3);have HP:OK (ib d (k:Int) f=(noA 6,d)):=HCP.o.trans (by rw[ay h3]);clear h1 h3 cB hrg HCP;have cR:=eO 6 wa;go_wp2_with fail;refine cR.mono ?_;rintro e w9 ⟨rfl,b9⟩;have n9:=bt b9 n1;have HO:=aB (fj (HD1.o.below b9) (HK1.o.trans (Kd.of b9)) (by omega) (anC (noA 6) (af) (af)));have HR:=aB (aJ _ _ _ (anC (noA 6) (af) (af)) _ _ n9);clear cR b9 n1;go_wp2_with(refine aw rfl 47 _ _ rfl _ _ rfl rfl _ _ n9 (by kernel_rfl) rfl (by simp[anC,noA,Value.oneCell']) ?_)
   refine aU (v:= .agg (anC (noA 6) (af) (af))) ?_ rfl ?_
   ·exact aZ rfl _ _ w.heap.size _ _ _ _ rfl HR.o anT rfl (by kernel_rfl)
   ·rw[HP.o];exact⟨t,_,_,rfl,HO.o.1,HO.o.2,bQ _ _,bQ _ _⟩
  ·have h3':(st==3)=false:=(by simpa using h3);have HCQ:=aB (HCP.o.trans (by rw[au h3]));clear h3 HCP h1;go_wp2_with(refine wpList_load_mid rfl 38 _ rfl ga (k*11) rfl (apC (a,.slice pw a.who.length cw)).toList _ hrg apT rfl (by kernel_rfl) ?_)
   refine cB.mono ?_;rintro e w5 ⟨sv5,rfl,hd5,hk5,hrb5⟩;obtain⟨p5,c5,hv5,_,_⟩:=hrb5.here;subst hv5;obtain⟨nx,hnx⟩: ∃q,P.1.1.who.length=q:=⟨_,rfl⟩
   rw[hnx]at hrb5⊢;obtain⟨cA,hcA⟩: ∃q,apC (P.1.1,.slice p5 nx c5)=q:=⟨_,rfl⟩
   have h1c:cA.all (·.oneCell')=true:=(by rw[<-hcA];exact fL _ _ _ _);have hc11:cA.size=11:=(by rw[<-hcA];rfl);rw[hcA];obtain⟨wZ,w6,hZ,nZ,h6,b6,n6⟩:=nbs w5 #[ag 0,ag 0,ag 0,ag 0,ag 0,ag 0,ag 0,ag 0,ag 0,ag 0,af] cA 38;have hk15:Kd gD t t wa w5:=⟨hk5.os,hk5.tape,hk5.output,hk5.size,hk5.blk,fun _ _ h=>h,rfl⟩
   have l5:=(hk5.blk _ (HG.o w.heap.size (az _)) (aF n1)).trans n1;have l6:=bt b6 l5;have HD6:=aB (hd5.below b6);have HK6:=aB (HK1.o.trans (hk15.trans (Kd.of b6)));have HRB:=aB (hrb5.below b6);obtain⟨er,her⟩: ∃q,P.1.2=q:=⟨_,rfl⟩
   rw[her]at HCQ HAP⊢;clear cB hd5 hk5 hk15 hrb5 l5 n1 her hrg zs z3 b6 HDM;by_cases h0:er=0
   ·subst h0;have HP:OK (ib d (k:Int) f=(noA 0,{P.2 with aps:=P.2.aps.set k P.1.1})):=HCQ.o.trans (by rw[au (by simp)]);obtain⟨hok,rv',cv',vv',kv',ss',aa',hm6⟩:=HD6.o;have haps:P.2.aps=d.aps:=(by obtain⟨_,_,e⟩:=HCR.o;rw[e]);have hna':aa'.length=na:=(by rw[<-HNA.o,<-haps,<-hm6.ape,bf]);have hka:k<aa'.length:=(by omega);have hown:w6.ownsRow B 38 11 (.slice (some (ae ga 0)) na ca) na (apF aa'):=(by have:=hm6.aps;rw[hna']at this;rw[<-HAV.o];exact this);have z3:w6.cell? (ae gD 3)=some (.slice (some (ae ga 0)) na ca):=(cr (v:=t.av) 3 hm6.blk rfl).trans (congrArg some HAV.o);have hgw:w.heap.size≠ga:=fun e=>(hm6.nx w.heap.size bo).2.2.2.2.2 (by show _=t.av.ownBlock;rw[HAV.o,e];rfl);go_upto_region 6 with(refine aw rfl 38 _ _ rfl _ _ rfl rfl _ _ nZ (by rw[hc11];kernel_rfl) (by rw[hc11];rfl) h1c ?_;rw[h6])
    clear nZ h6 hZ;refine dl (fun M _ W=>(M 8=false->Below w6.heap.size w6 W)/\(M 8=true-> ∃W0,Below w6.heap.size w6 W0/\Below W0.heap.size (W0.setCells ga (k*11) cA.toList) W)) [kn 48 (ab gD 0),kn 49 (ab gD 0),kn 50 (ab gD 0),kn 51 (ab gD 3),kn 52 (.slice (some (ae ga 0)) na ca),kn 53 (ag (k:Int)),kn 54 (.agg cA),kn 55 (ab ga (k*11)),nk] (fun _=>⟨fun _=>(aG _ _).drew,(fun h=>by cases h)⟩) (fun _ _ _ _ hb h=>⟨fun c=>(h.1 c).trans (hb.mono (h.1 c).size),fun c=> ?_⟩) (by kernel_rfl) ?_ ?_
    ·obtain⟨W0,h1,h2⟩:=h.2 c;exact⟨W0,h1,h2.trans (hb.mono (by have:=h2.size;rw[(et _ _ _ _).2.2.2]at this;exact this))⟩
    ·rintro M φ W hJ hc F l hl hF;have HJ:=aB hJ;clear hc hJ;simp only[kn,nk,dQ,aP,aW,Act.put,aA,aI,aH]at hl;subst hl;simp only[dc,Nat.reduceAdd]at hF;dsimp only[kn,nk,dx,eo,dV,Act.put];and_intros;all_goals first|exact trivial|intro hw hn hm K hK
     all_goals try (go_simp;with_reducible exact hK _ _ ⟨rfl,aG _ _⟩)
     ·have hb:=HJ.o.1 (hn 8 _ rfl (by kernel_rfl));have y:=aj hb z3;go_simp;exact hK _ _ ⟨rfl,aG _ _⟩
     ·have nW:=bt (HJ.o.1 (hn 8 _ rfl (by kernel_rfl))) n6;show Oper.wp _ _ _ _ _ _;refine d7 38 _ rfl _ (by simp[Act.eval,hF]) _ _ _ _ nW apT rfl (by rw[hc11];kernel_rfl) ?_;exact hK _ _ ⟨rfl,aG _ _⟩
     ·have hb:=HJ.o.1 hm;have howW:=bp hown fun b hq=>hb.block b (hown.lt b hq).2;have hth:W.there ga (k*11) cA.size:=(by rw[hc11];exact tw howW hkn' rfl);show Oper.wp _ _ _ _ _ _;refine wp_store_mid 38 _ _ rfl ga (k*11) cA (by simp[Act.eval,hF]) (by simp[Act.eval,hF]) hth (by rw[hc11];kernel_rfl) h1c ?_;exact hK undef _ ⟨trivial,fun c=>by simp at c,fun _=>⟨W,hb,aG _ _⟩⟩
    ·rintro M φ W hM hJ;obtain⟨W0,h1,h2⟩:=hJ.2 (hM 8 (by decide) rfl);simp only[kn,nk,dX,aP,aW,Act.put,aA,aI,aH];have hm0:=hm6.below h1;obtain⟨hm2,hk2⟩:=hm0.setAp (j:=k) (g:=ga) hka (by show t.av.ownBlock=_;rw[HAV.o];rfl) (P.1.1,.slice p5 nx c5) (.inr (HRB.o.below h1));rw[hcA]at hm2 hk2;have hsz:=(et ga cA.toList (k*11) W0).2.2.2;have h2':=h2.mono (jC hsz);have hap:tE d P.1.1:=HAP.o trivial
     have hd2:dm B gD {P.2 with aps:=P.2.aps.set k P.1.1} (t.add w.heap.size) W:=by
      refine dm.below ⟨⟨hok.flt,hok.vl,hok.kl,hok.rl,hok.sl,by simpa using hok.al,hok.gv,hok.nm,hok.sv,fun x hx=> ?_⟩,_,_,_,_,_,_,hm2⟩ h2';rcases List.mem_or_eq_of_mem_set hx with hx|rfl
      ·exact hok.ap x hx
      ·obtain⟨_,_,e⟩:=HCR.o;rw[e];exact hap
     have hkw:Kd gD t t w W:=HK6.o.trans (Kd.off (q:=w.heap.size) (((Kd.of h1).trans hk2).trans (Kd.of h2')));have lW:=bt h2' ((fh ga _ _ W0 _ hgw).trans (bt h1 l6));have HO:=aB (fj hd2 hkw (az _) #[ag 0,ag 0,ag 0,ag 0,af,af]);have HR:=aB (aJ _ _ _ #[ag 0,ag 0,ag 0,ag 0,af,af] _ _ lW);clear hM hJ h1 h2 h2' hm0 hm2 hk2 hd2 hkw hok hm6 hown hcA h1c hc11 l6 n6 z3 hsz;go_wp2_with(refine aw rfl 47 _ _ rfl _ _ rfl rfl _ _ lW (by kernel_rfl) rfl (by simp[Value.oneCell']) ?_)
     refine aU (v:= .agg #[ag 0,ag 0,ag 0,ag 0,af,af]) ?_ rfl ?_
     ·exact aZ rfl _ _ w.heap.size _ _ _ _ rfl HR.o anT rfl (by kernel_rfl)
     ·rw[HP.o];exact⟨_,_,_,rfl,HO.o.1,HO.o.2,bQ _ _,bQ _ _⟩
   ·have h0':(er !=0)=true:=(by simpa using h0);have HP:OK (ib d (k:Int) f=(noA er,P.2)):=HCQ.o.trans (by rw[ay h0]);clear h0;go_wp2_with(refine aw rfl 38 _ _ rfl _ _ rfl rfl _ _ nZ (by rw[hc11];kernel_rfl) (by rw[hc11];rfl) h1c ?_;rw[h6])
    clear nZ h6 hZ;have cR:=eO er w6;go_wp2_with fail;refine cR.mono ?_;rintro e w9 ⟨rfl,b9⟩;have n9:=bt b9 l6;have HO:=aB (fj (HD6.o.below b9) (HK6.o.trans (Kd.of b9)) (by omega) (anC (noA er) (af) (af)));have HR:=aB (aJ _ _ _ (anC (noA er) (af) (af)) _ _ n9);clear cR b9 l6;go_wp2_with(refine aw rfl 47 _ _ rfl _ _ rfl rfl _ _ n9 (by kernel_rfl) rfl (by simp[anC,noA,Value.oneCell']) ?_)
    refine aU (v:= .agg (anC (noA er) (af) (af))) ?_ rfl ?_
    ·exact aZ rfl _ _ w.heap.size _ _ _ _ rfl HR.o anT rfl (by kernel_rfl)
    ·rw[HP.o];exact⟨t,_,_,rfl,HO.o.1,HO.o.2,bQ _ _,bQ _ _⟩
end
end
section
open Go.RowKit Lx Vx Mx Msk
theorem Ht {R:Ending->World->Prop}{a:Act}{w:World}(g:Nat)(c:Array Value)(er:Int)(hc:c.size=11)(hd:a.defers=[])(h2:a.tmps.getD 4 undef=ab g 0)(h3:a.tmps.getD 5 undef=ag er)
  (hg:w.heap[g]? =ah c 38) (hR:R (.returned (.tuple #[.agg c,ag er])) w):bodyPost prog f20 R .ret a w:=by
 refine aU (v:= .tuple #[.agg c,ag er]) ?_ hd hR;have hf:f20.results= #[ResultVar.cell 4 38,ResultVar.tmp 5]:=rfl;have h2':a.tmps[4]?.getD undef=ab g 0:=by simpa using h2
 have h3':a.tmps[5]?.getD undef=ag er:=by simpa using h3
 have hv:=dO (P:=prog) w g 38 38 _ _ _ hg apT rfl (by rw[hc];kernel_rfl);simp[results,h2',h3',asAddr,hv]
section
variable {B gD:Nat} {d:Dk} {t:Tr}
theorem zw (h:tm d){a:Ap}(ha:a∈d.aps)(s:Int):tE d (eV a s):=by
 obtain⟨q1,q2,q3,q4⟩:=h.ap a ha;exact⟨q1,q2,⟨gJ _,by show(0:Int)<=10;omega⟩,q4⟩
theorem JD {g1 g2:Nat}(c:Cm)(a:Ap)(p pw:Option Addr)(k cw:Nat)(rv:Value)(w:World)(h:dm B gD d t w)(n1:w.heap[g1]? =ah #[ab gD 0] 57)(n2:w.heap[g2]? =ah (doC c rv (.slice pw c.swho.length cw)) 45)(ha:tE d a)(hw:Rob (Fx gD t) (fun u=>dy u (.slice pw c.swho.length cw) c.swho) w)(hcw:c.swho.length<=cw):
  Calls prog 20 #[.agg (apC (a,.slice p a.who.length k)),ab g1 0,ab g2 0] w (uq B gD (eJ d c.n a c.sday c.smin c.swho) t w):=by
 obtain⟨wA,hA,bA,nA⟩:=nb w (apC (a,.slice p a.who.length k)) 38;obtain⟨wB,hB,bB,nB⟩:=nb wA #[ag 0,ag 0,ag 0,ag 0,ag 0,ag 0,ag 0,ag 0,ag 0,ag 0,af] 38;have sB:wB.heap.size=wA.heap.size+1:=by rw[<-hB];simp
 have b02:=aq bA bB;have hdB:=h.opened (q:=wA.heap.size) bA.size sB b02;have m1:=bt b02 n1;have m2:=bt b02 n2;have mA:=bt bB nA;have z1:=cr 0 m1 rfl;have y1:wB.cell? (ae g2 1)=some (ag c.n):=cr 1 m2 rfl;have y10:wB.cell? (ae g2 10)=some (ag c.sday):=cr 10 m2 rfl;have y11:wB.cell? (ae g2 11)=some (ag c.smin):=cr 11 m2 rfl;have y12:wB.cell? (ae g2 12)=some (.slice pw c.swho.length cw):=cr 12 m2 rfl
 have hwB:Rob (Fx gD (t.add wA.heap.size)) (fun u=>dy u (.slice pw c.swho.length cw) c.swho) wB:=hw.move b02.size (fun q _ hl=>b02.block q hl) fun q hl hq=>⟨hq.1,fun hx=>by
  rcases bG.1 hx with e|hx
  ·have:=bA.size;omega
  ·exact hq.2 hx⟩
 have cP:=xp c.n a p pw k cw c.sday c.smin c.swho wB hdB ha.1 ha.2.2.2.1 hwB hcw;obtain⟨P,hP⟩: ∃q,eJ d c.n a c.sday c.smin c.swho=q:=⟨_,rfl⟩
 rw[hP]at cP⊢;unfold uq at cP;have H0:=aB h;have HK2:OK (Kd gD t t w wB):=Kd.of b02;have hwA:w.heap.size<wA.heap.size:=by rw[<-hA];simp
 have HGX:OK (Gx gD t wA.heap.size):=(h.fx (.inr bA.size)).1;obtain⟨nw,hnw⟩: ∃q,c.swho.length=q:=⟨_,rfl⟩
 rw[hnw]at cP y12;clear h bA bB b02 sB hdB n1 n2 nA m1 m2 hwB hP hw hnw hcw;go_enter func20,ntmps20;go_wp2_with(refine aO rfl 38 _ rfl _ rfl _ _ _ _ mA apT rfl (by kernel_rfl) ?_)
 refine cP.mono ?_;rintro e w5 ⟨sv5,rfl,hd5,hk5,hrb5⟩;obtain⟨p5,c5,hv5,_,_⟩:=hrb5.here;subst hv5;have n5:=(hk5.blk _ HGX.o (aF nB)).trans nB;obtain⟨nx,hnx⟩: ∃q,P.1.1.who.length=q:=⟨_,rfl⟩
 rw[hnx]at hrb5⊢;obtain⟨cA,hcA⟩: ∃q,apC (P.1.1,.slice p5 nx c5)=q:=⟨_,rfl⟩
 have h1c:cA.all (·.oneCell')=true:=by rw[<-hcA];exact fL _ _ _ _
 have hc11:cA.size=11:=by rw[<-hcA];rfl
 rw[hcA];have hk5':Kd gD t t wB w5:=⟨hk5.os,hk5.tape,hk5.output,hk5.size,hk5.blk,fun _ _ h=>h,rfl⟩
 have HO:=aB (fw (hd5.closed (w':=w5.setRow wA.heap.size cA) (by simp) fun q _ hq=>aT _ _ _ _ hq) (fw ((HK2.o.trans hk5').closed (w':=w5.setRow wA.heap.size cA) (q:=wA.heap.size) (by omega) rfl rfl rfl (by simp) fun q _ hq=>aT _ _ _ _ hq) (hrb5.move (w':=w5.setRow wA.heap.size cA) (P':=Fx gD t) (by simp) (fun q hq _=>aT _ _ _ _ fun e=>hq.2 (by rw[e];exact bo)) fun q _ hq=>⟨hq.1,fun hx=>hq.2 (bx _ hx)⟩)));have HR:=aB (aJ _ _ _ cA _ _ n5);have HCA:=aB hcA;clear cP hd5 hk5 hk5' hrb5 hcA nB;go_wp2_with(refine aw rfl 38 _ _ rfl _ _ rfl rfl _ _ n5 (by rw[hc11];kernel_rfl) (by rw[hc11];rfl) h1c ?_)
 refine Ht wA.heap.size cA P.1.2 hc11 rfl rfl rfl HR.o ?_;exact⟨.slice p5 nx c5,by rw[HCA.o],HO.o.1,HO.o.2.1,HO.o.2.2⟩
theorem JE (c:Cm)(pr pw:Option Addr)(cr2 cw:Nat)(w:World)(h:dm B gD d t w)(hcw:c.swho.length<=cw)(hwho:Rob (fun q=>q<B) (fun u=>dy u (.slice pw c.swho.length cw) c.swho) w)(h58:5<=c.kind/\c.kind<=8):Calls prog 10 #[ab gD 0,.agg (doC c (.slice pr c.sv.roles.length cr2) (.slice pw c.swho.length cw))] w (qg B gD (doP d c) t w):=by
 obtain⟨w1,h1,b1,n1⟩:=nb w #[ab gD 0] 57;obtain⟨w2,h2,b2,n2⟩:=nb w1 (doC c (.slice pr c.sv.roles.length cr2) (.slice pw c.swho.length cw)) 45;obtain⟨w3,h3,b3,n3⟩:=nb w2 #[ag 0,ag 0,ag 0,ag 0,af,af] 47;have b12:=aq b1 b2;have b13:=aq b12 b3;have hd3:=h.opened (q:=w2.heap.size) b12.size (by rw[<-h3];simp) b13;have m2:=bt b3 n2;have k1:=bt (aq b2 b3) n1;have z1:=cr 0 k1 rfl;obtain⟨y0,y1,y2,y3,y4,y5,y6,y7,y8,y9,y10,y11,y12⟩:=BF m2;have HB:=aB b13;have HQ:=aB b12.size
 have HGX:OK (Gx gD (t.add w2.heap.size) w2.heap.size):=by
  obtain⟨_,_,_,_,_,_,_,hm⟩:=hd3;exact(hm.nx _ bo).2.2
 have hw3:Rob (Fx gD (t.add w2.heap.size)) (fun u=>dy u (.slice pw c.swho.length cw) c.swho) w3:=hwho.move b13.size (fun q _ hl=>b13.block q hl) fun q hl hq=>⟨(h.fx (.inl hq)).1,fun hx=>by
  rcases bG.1 hx with e|hx
  ·have:=b12.size;omega
  ·exact(h.fx (.inl hq)).2 hx⟩
 rcases(show c.kind=5\/c.kind=6\/c.kind=7\/c.kind=8 by omega) with hk|hk|hk|hk
 case' inl=>
  have cC:=JC c.n c.sday c.smin c.swho pw cw w3 hd3 hw3 hcw;generalize hP:lh d c.n c.sday c.smin c.swho=P at cC
 case' inr.inl=>
  have cC:=sb c.n 17 #[] (fun a d=>((eV a 2,0),d)) w3 hd3 (fun _ _=>rfl) (fun a p c W ha hW hb hr=>(Cx a p c W).mono fun e w' hh=>⟨_,hh.1,hW.below hh.2,Kd.of hh.2,hr.below hh.2⟩) (fun a ha _=>zw hd3.1 ha 2) (fun a=>Cor.refl d);generalize hP:ib d c.n (fun a d=>((eV a 2,0),d))=P at cC
 case' inr.inr.inl=>
  have cC:=sb c.n 19 #[] (fun a d=>((eV a 3,0),d)) w3 hd3 (fun _ _=>rfl) (fun a p c W ha hW hb hr=>(EN a p c W).mono fun e w' hh=>⟨_,hh.1,hW.below hh.2,Kd.of hh.2,hr.below hh.2⟩) (fun a ha _=>zw hd3.1 ha 3) (fun a=>Cor.refl d);generalize hP:ib d c.n (fun a d=>((eV a 3,0),d))=P at cC
 case' inr.inr.inr=>
  have cC:=sb c.n 20 #[ab w.heap.size 0,ab w1.heap.size 0] (fun a d=>eJ d c.n a c.sday c.smin c.swho) w3 hd3 (fun _ _=>rfl) (fun a p k W ha hW hb hr=>JD c a p pw k cw _ W hW (bt hb k1) (bt hb m2) (hd3.1.ap a ha) (hw3.move hb.size (fun q _ hl=>hb.block q hl) fun q hl hq=>⟨hq.1,fun hx=>by
   rcases bG.1 hx with e|hx
   ·omega
   ·exact hq.2 hx⟩) hcw) (fun a ha e=>zu hd3.1 (hd3.1.ap a ha).1 (hd3.1.ap a ha).2.2.1 (hd3.1.ap a ha).2.2.2.1 e) (fun a=>lN d _ a _ _ _)
  generalize hP:ib d c.n (fun a d=>eJ d c.n a c.sday c.smin c.swho)=P at cC
 all_goals
  have HP:OK (doP d c=P):=by
   show _=_;rw[<-hP];unfold doP;repeat (first|rw[ay hk]|rw[au (by omega)])
  clear b1 b2 b3 b12 b13 hd3 n1 n2 hP k1 m2 hw3
  try rw[hk]at y0
  clear hk
  go_enter func10,ntmps10
  go_wp2_with fail
  refine cC.mono ?_
  rintro e w4 ⟨t',wv,lv,rfl,hd4,hk4,hw4,hl4⟩
  obtain⟨t0,o1,o2,o3,o4⟩:=Hj HB.o HQ.o hd4 hk4 hw4 hl4 (anC P.1 wv lv)
  obtain⟨p5,c5,rfl,_,_⟩:=hw4.here
  obtain⟨p6,c6,rfl,_,_⟩:=hl4.here
  have n4:=(hk4.blk _ HGX.o (aF n3)).trans n3
  have HO:=aB (fw o1 (fw o2 (fw o3 o4)))
  have HR:=aB (aJ _ _ _ (anC P.1 (.slice p5 P.1.who.length c5) (.slice p6 P.1.list.length c6)) _ _ n4)
  clear cC hd4 hk4 hw4 hl4 o1 o2 o3 o4 n3
  go_wp2_with(refine aw rfl 47 _ _ rfl _ _ rfl rfl _ _ n4 (by kernel_rfl) rfl (by simp[anC,Value.oneCell']) ?_)
  refine aU (v:= .agg (anC P.1 (.slice p5 P.1.who.length c5) (.slice p6 P.1.list.length c6))) ?_ rfl ?_
  ·exact aZ rfl _ _ w2.heap.size _ _ _ _ rfl HR.o anT rfl (by kernel_rfl)
  ·rw[HP.o]
   exact⟨t0,_,_,rfl,HO.o.1,HO.o.2.1,HO.o.2.2.1,HO.o.2.2.2⟩
theorem BS (c:Cm):EY c:=fun B gD d t w pr pw kr kw h hT hB hg hx hc hr=>by
 by_cases h5:5<=c.kind/\c.kind<=8
 ·exact JE c pr pw kr kw w h (hc.cap _ _ _ rfl) hr h5
 ·exact Hl c h5 B gD d t w pr pw kr kw h hT hB hg hx hc hr
end
end
section
open Go.RowKit Lx Vx Mx Msk
section
variable {w w':World}
theorem Hu:dy w (af) []:=⟨none,0,rfl,by decide,fun j n h=>by simp at h⟩
theorem Dv:ft w (af) []:=⟨none,0,rfl,by decide,fun j n h=>by simp at h⟩
theorem LN {g:Nat}{sv:Value}{l:List Int}{T:TypeId}(h:w.heap[g]? =ah #[sv] T)(hr:dy w sv l):ft w (.slice (some (ae g 0)) 1 1) [l]:=by
 refine⟨some ⟨g,0,none⟩,1,rfl,by simp,fun j m hj=> ?_⟩;match j,hj with
 |0,hj=>cases hj;exact⟨g,0,sv,rfl,aX _ _ _ _ _ _ h,hr⟩
 |j+1,hj=>simp at hj
def sc (B:Nat)(w:World)(v:Value)(cs:List (Cm×Value×Value)):Prop:=w.ownsRow B 45 13 v cs.length (cs.flatMap fun q=>(doC q.1 q.2.1 q.2.2).toList)/\ ∀q∈cs,Rob (fun k=>some k≠v.ownBlock) (fun u=>mV u q.1 q.2.1 q.2.2) w
theorem Dw {B:Nat}{v:Value}{cs:List (Cm×Value×Value)}(h:w.ownsRow B 45 13 v cs.length (cs.flatMap fun q=>(doC q.1 q.2.1 q.2.2).toList))(hc: ∀q∈cs,mV w q.1 q.2.1 q.2.2)(hl:cs.length<9223372036854775808):mW w v cs:=by
 obtain⟨p,k,hv⟩:=cZ h;refine⟨p,k,hv,hl,fun j q hj=>⟨hc q (aK hj),?_⟩⟩;obtain⟨g,c,e,_,hr⟩:=jx (f:=fun q:Cm×Value×Value=>doC q.1 q.2.1 q.2.2) (fun q=>rfl) h rfl hj;rw[hv]at e;cases e;exact⟨g,0,rfl,by rw[bN];exact hr⟩
theorem sc.row {B:Nat}{v:Value}{cs:List (Cm×Value×Value)}(h:sc B w v cs)(hl:cs.length<9223372036854775808):mW w v cs:=Dw h.1 (fun q hq=>(h.2 q hq).here) hl
theorem sc.below {B:Nat}{v:Value}{cs:List (Cm×Value×Value)}(h:sc B w v cs)(hb:Below w.heap.size w w'):sc B w' v cs:=
 ⟨bp h.1 fun b hq=>hb.block b (h.1.lt b hq).2,fun q hq=>(h.2 q hq).below hb⟩
theorem LO {c:Cm}{rv wv:Value}(h:mV w c rv wv):(doC c rv wv).all (·.oneCell')=true:=by
 obtain⟨_,_,rfl,_⟩:=h.roles;obtain⟨_,_,rfl,_⟩:=h.who;exact Dt ..
theorem xY: ∀cs:List (Cm×Value×Value),(cs.flatMap fun q=>(doC q.1 q.2.1 q.2.2).toList).length=cs.length*13
 |[]=>rfl
 |c::cs=>by
  rw[List.flatMap_cons,aN,xY cs,bz];show 13+_=_;omega
theorem Nj {cs:List (Cm×Value×Value)}{g o:Nat}(h: ∀(j:Nat) (q:Cm×Value×Value),cs[j]? =some q->w.rangeAt g (o+j*13) (doC q.1 q.2.1 q.2.2).toList):w.rangeAt g o (cs.flatMap fun q=>(doC q.1 q.2.1 q.2.2).toList):=by
 intro k u hu
 have hk:k<cs.length*13:=by
  have:=(aE.1 hu).1;rwa[xY]at this
 obtain⟨q,hq⟩: ∃q,cs[k/13]? =some q:=⟨_,ax (by omega)⟩
 have e:=nP (f:=fun q:Cm×Value×Value=>doC q.1 q.2.1 q.2.2) (m:=13) (fun q=>rfl) hq (k%13) (Nat.mod_lt _ (by decide));rw[show k/13*13+k%13=k by omega,hu]at e;have:=h _ q hq (k%13) u (by rw[bn];exact e.symm);rwa[show o+k/13*13+k%13=o+k by omega]at this
theorem BT {ops:Array Oper}{rest:List Oper}{o:Oper}{a:Act}{Q:Exit->Act->World->Prop}(hgd:o.guard=none)(s x:Operand)(ho:o.op= .call {callee:= .builtin .append,args:= #[s,x],argTypes:= #[22,22]})
  {B:Nat} {v xv:Value} {cs ds:List (Cm×Value×Value)} (hs:a.eval s=v) (hO:sc B w v cs) (hx:a.eval x=xv) (hX:mW w xv ds) (h0:0<ds.length) (hR: ∀q∈ds,Rob (fun k=>some k≠v.ownBlock) (fun u=>mV u q.1 q.2.1 q.2.2) w) (hn:cs.length+ds.length<=100000) (hB:B<=w.heap.size)
  (h: ∀v' w',sc B w' v' (cs++ds)->Below B w w'->w.grownBy w' v.ownBlock->wpList prog ops Q rest (a.put o.dst v') w'):wpList prog ops Q (o::rest) a w:=by
 obtain⟨i,hi,hz0,hz1,hz2⟩:=py (t:=45) (z:= .agg (doC ⟨0,0,0,0,[],[],sv0,0,0,[]⟩ (af) (af))) (a:=13) (b:=152) (by kernel_rfl);obtain⟨p,k,rfl,_,hc⟩:=hX;obtain⟨q0,hq0⟩: ∃q,ds[0]? =some q:=⟨_,ax h0⟩
 obtain⟨_,g,of,rfl,_⟩:=hc 0 q0 hq0
 have hF:w.rangeAt g of (ds.flatMap fun q=>(doC q.1 q.2.1 q.2.2).toList):=Nj fun j q hj=>by
  obtain⟨_,g',o',e,hr⟩:=hc j q hj;cases e;exact hr
 refine wpList_append_own_at w hgd s x 22 ho B 45 i _ 13 152 (by kernel_rfl) hi hz0 hz1 hz2 rfl (by decide) v cs.length _ hs hO.1 ⟨g,of,none⟩ ds.length k (ds.flatMap fun q=>(doC q.1 q.2.1 q.2.2).toList) hx ?_ (fun j u hu=> ?_) (fun u hu=> ?_) (by unfold maxLen;omega) (ba (Nat.mul_le_mul_right _ hn) (by decide)) hB fun v' w' h2 h3 _ h5=> ?_
 ·exact xY ds
 ·rw[show(⟨g,of,none⟩:Addr).add j=⟨g,of+j,none⟩ by simp[Addr.add]];exact hF j u hu
 ·obtain⟨q,hq,hu⟩:=List.mem_flatMap.1 hu;exact Array.all_eq_true'.1 (LO (hR q hq).here) u (Array.mem_toList_iff.1 hu)
 ·refine h v' w' ⟨?_,fun q hq=> ?_⟩ (gK (aG _ _) h3 hB fun k hk=>(hO.1.lt k hk).1) h3
  ·rw[aN,ff];exact h2
  ·have H:Rob (fun k=>some k≠v.ownBlock) (fun u=>mV u q.1 q.2.1 q.2.2) w:=(bT.1 hq).elim (hO.2 q) (hR q);refine H.move h3.size (fun k hk hl=>h3.block k hl hk) fun k hl hk=> ?_;rcases h5 with h5|h5
   ·rw[h5];exact hk
   ·rw[h5];intro e;cases e;omega
theorem zy {B g n m:Nat}{cur:Array Value}{T:TypeId}(h:w.heap[g]? =ah cur T)(hB:B<=g)(hs:cur.size=n*m)(hn:n<=maxLen):w.ownsRow B T m (.slice (some (ae g 0)) n n) n cur.toList:=
 ⟨by rw[bO];exact hs,.inr ⟨g,n,cur,rfl,hB,h,az _,hn,hs,by rw[cg (by rw[bO,hs];exact az _)]⟩⟩
theorem BU (c:Cm)(h1:c.sv.roles=[])(h2:c.swho=[])(h3:c.text.length<=9223372036854775807)(h4:c.name.length<=9223372036854775807):mV w c (af) (af):=
 ⟨by rw[h1];exact Dv,by rw[h2];exact Hu,h3,h4,fun p n k e=>by cases e;exact az _⟩
end
def sC (rv:Value):List (Cm×Value×Value):=[(⟨1,0,0,0,aS,[],sv0,0,0,[]⟩,af,af),(⟨2,0,0,0,[],[97],sv0,0,0,[]⟩,af,af),(⟨3,0,0,0,[],[],kI,0,0,[]⟩,rv,af)]
theorem Hv (w:World):Calls prog 9 #[] w fun e w'=> ∃v rv,e= .returned v/\Below w.heap.size w w'/\sc w.heap.size w' v (sC rv):=by
 obtain⟨w1,h1,b1,n1⟩:=nb w #[ag 0] 3;obtain⟨w2,h2,b2,n2⟩:=nb w1 #[.slice (some (ae w.heap.size 0)) 1 1] 34;have HB1:=aB b1;have HB2:=aB b2;have HN1:=aB n1;have HN2:=aB n2;clear b1 b2 n1 n2;go_enter func9,ntmps9;go_wp2_with fail;go_ret;obtain⟨rv,hrv⟩: ∃rv,(.slice (some (ae w1.heap.size 0)) 1 1:Value)=rv:=⟨_,rfl⟩
 suffices H: ∀W,w2.alloc (.cells ((sC rv).flatMap fun q=>(doC q.1 q.2.1 q.2.2).toList).toArray 45)=W->Below w.heap.size w W/\sc w.heap.size W (.slice (some (ae w2.heap.size 0)) 3 3) (sC rv) by
  rw[hrv];exact⟨_,rv,rfl,H _ rfl⟩
 intro w3 h3;obtain⟨w3',h3',b3,n3⟩:=nb w2 ((sC rv).flatMap fun q=>(doC q.1 q.2.1 q.2.2).toList).toArray 45;rw[h3]at h3';subst h3';have bb:=aq HB1.o HB2.o;refine⟨aq bb b3,zy (n:=3) n3 (ba HB1.o.size HB2.o.size) rfl (by decide),fun q hq u hu ha=> ?_⟩;have ha': ∀k,k<w2.heap.size->u.heap[k]? =w2.heap[k]? :=fun k hk=>(ha k (fun e=>Nat.ne_of_lt hk (aL e)) (aR hk b3.size)).trans (b3.block k hk);subst hrv;rcases bG.1 hq with rfl|hq
 ·exact BU _ rfl rfl (by decide) (by decide)
 rcases bG.1 hq with rfl|hq
 ·exact BU _ rfl rfl (by decide) (by decide)
 cases dh.1 hq;have y1:=bt HB2.o HN1.o;exact⟨LN ((ha' _ (aF HN2.o)).trans HN2.o) (Bw ((ha' _ (aF y1)).trans y1)),Hu,dW _,dW _,fun p n k e=>by cases e;exact az _⟩
end
section
open Go.RowKit Lx Vx Mx Msk
def eC (g:Nat):List (Cm×Value×Value):=[(⟨4,0,7,2,[],[],sv0,0,0,[]⟩,af,af),(⟨5,0,0,0,[],[],sv0,7,540,[0]⟩,af,.slice (some (ae g 0)) 1 1)]
theorem CE (w:World)(hT:Tbs w.heap.size w):Calls prog 6 #[] w fun e w'=>e= .returned (.bool true)/\Below w.heap.size w w':=by
 have c1:=Hv w;have HT:=aB hT;clear hT;go_enter func6,ntmps6;go_wp2_with fail;refine c1.mono ?_;rintro e w1 ⟨v,rv,rfl,b1,ho⟩;have HB1:=aB b1;have HO:=aB ho;clear b1 c1;obtain⟨p,k,hv⟩:=cZ ho.1;subst hv;dsimp only[sC,List.length]at ho⊢;clear ho;obtain⟨w2,h2,b2,n2⟩:=nb w1 #[ag 0] 3;obtain⟨w3,h3,b3,n3⟩:=nb w2 #[ag 4,ag 0,ag 7,ag 2,.string ⟨#[]⟩,.string ⟨#[]⟩,ag 0,ag 0,ag 0,af,ag 0,ag 0,af,ag 5,ag 0,ag 0,ag 0,.string ⟨#[]⟩,.string ⟨#[]⟩,ag 0,ag 0,ag 0,af,ag 7,ag 540,.slice (some (ae w1.heap.size 0)) 1 1] 45;have hO3:=(HO.o.below b2).below b3;have hbb:=aq b2 b3
 have hR: ∀q∈eC w1.heap.size,Rob (fun j=>some j≠(Value.slice p 3 k).ownBlock) (fun u=>mV u q.1 q.2.1 q.2.2) w3:=fun q hq u hu ha=>by
  rcases bG.1 hq with rfl|hq
  ·exact BU _ rfl rfl (dW _) (dW _)
  cases dh.1 hq;have y:=bt b3 n2;exact⟨Dv,Bw ((ha _ (fun e=>Nat.lt_irrefl _ (HO.o.1.lt _ e.symm).2) (aF y)).trans y),dW _,dW _,fun p n k e=>by cases e;exact az _⟩
 have hX:mW w3 (.slice (some (ae w2.heap.size 0)) 2 2) (eC w1.heap.size):=Dw (B:=0) (zy (n:=2) n3 (dW _) rfl (by decide)) (fun q hq=>(hR q hq).here) (by decide:2<9223372036854775808);have HB3:=aB (aq HB1.o hbb);have HO3:=aB hO3;have HR:=aB hR;have HX:=aB hX;clear hO3 hR hX b2 b3 n2 n3 hbb;go_wp2_with(refine BT rfl _ _ rfl rfl HO3.o rfl HX.o (show 0<2 by decide) HR.o (show 5<=100000 by decide) HB3.o.size ?_;intro v' w4 hO4 b4 _)
 have hb4:=HB3.o.trans b4;have HB4:=aB hb4;have c2:=BQ (sC rv++eC w1.heap.size) v' w4 (hO4.row (show 5<9223372036854775808 by decide)) (fun W hW=>HT.o W (aq hb4 hW)) (fun q _=>BS q.1);rw[show(sC rv++eC w1.heap.size).map (fun q=>q.1)=aC from rfl]at c2;clear hb4 b4 hO4 HX HR HO3;refine c2.mono ?_;clear c2;rintro e w5 ⟨b5,h5⟩;rcases h5 with⟨hl,_⟩|⟨hl,rw',ev,sv,av,asv,ss,aa,ls,rfl,hP⟩
 ·exact absurd hl (by decide)
 clear hl;replace hP:=hP.here;rw[Ni]at hP⊢
 have hl5:ls.length=5:=by
  have:=congrArg List.length hP.ane;rw[bf]at this;exact this
 have ha1:aa.length=1:=by
  have:=congrArg List.length hP.ape;rw[bf]at this;exact this
 obtain⟨us,hus,hx3⟩:=hP.rules;obtain⟨p1,k1,rfl⟩:=hus.form;obtain⟨p2,k2,rfl⟩:=cZ hP.res;obtain⟨p3,k3,rfl⟩:=cZ hP.svs;obtain⟨pa,ka,rfl⟩:=cZ hP.aps;obtain⟨q3,hq3⟩: ∃q,ls[3]? =some q:=⟨_,ax (by omega)⟩
 obtain⟨q4,hq4⟩: ∃q,ls[4]? =some q:=⟨_,ax (by omega)⟩
 have f3:q3.1=⟨0,0,7,540,[0],[]⟩:=by
  have:=congrArg (·[3]?) hP.ane;rw[a8,hq3]at this;exact aL this
 have f4:q4.1=iW 0:=by
  have:=congrArg (·[4]?) hP.ane;rw[a8,hq4]at this;exact aL this
 obtain⟨g,c,hv,hx1,r3⟩:=jx (f:=fun p:An×Value×Value=>anC p.1 p.2.1 p.2.2) (fun _=>rfl) hP.ans rfl hq3;obtain⟨g',c',hv',hx2,r4⟩:=jx (f:=fun p:An×Value×Value=>anC p.1 p.2.1 p.2.2) (fun _=>rfl) hP.ans rfl hq4;subst hv;cases hv';have y3:w5.cell? (ae g 21)=some (ag 540):=r3 3 _ (by rw[f3];rfl);have y4:w5.cell? (ae g 24)=some (ag 0):=r4 0 _ (by rw[f4];rfl);rw[ha1,hl5];clear hP hus r3 r4 f3 f4 hq3 hq4 hx1 hx2 hx3 hl5 ha1 h2 h3;dsimp only[dA];generalize us.length=n1;generalize ss.length=n3;generalize List.length [[97]]=n2;obtain⟨wZ,wC,hZ,nZ,hC,bC,nC⟩:=nbs w5 #[af,af,af,af] #[.slice p1 n1 k1,.slice p2 n2 k2,.slice p3 n3 k3,.slice pa 1 ka] 29;have z3:=aj bC y3;have z4:=aj bC y4;have y5:wC.cell? (ae w5.heap.size 3)=some (.slice pa 1 ka):=cr 3 nC rfl;have HB5:=aB (aq HB4.o b5);have HB6:=aB (aq HB5.o bC);clear y3 y4 b5 bC nC;go_wp2_with(refine aw rfl 29 _ _ rfl _ _ rfl rfl _ _ nZ (by kernel_rfl) rfl (by simp[Value.oneCell']) ?_)
 go_ret;exact⟨rfl,HB6.o⟩
end
end Go.Proofs.YtkfidffapdhbhaaGreatDoor
