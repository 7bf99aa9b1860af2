/- Texts of the proof. -/
import Derived.Test.YtjkilacmkbmmbaaGreatDoorPe36
import Derived.Test.YtjkilacmkbmmbaaGreatDoorCards
import Derived.Test.YtjkilacmkbmmbaaGreatDoorTie
import Derived.LaidMore
import Derived.SevenTiedAt
import Derived.Lib.SmallJoins
set_option maxRecDepth 100000
set_option maxHeartbeats 8000000
namespace Go.Proofs.YtjkilacmkbmmbaaGreatDoor
open Go.Proofs.Tryz Go.RowKit Lx Vx Mx Msk
def plC (j:Nat):List (Cm×Value×Value):=(cR eS,af,af)::List.replicate j (cAd,af,af)
theorem pQ (j:Nat):(plC j).length=j+1:=by simp[plC]
theorem K4 (j:Nat):plC (j+1)=plC j++[(cAd,af,af)]:=by
 unfold plC;rw[List.replicate_succ',List.cons_append]
theorem Ee {P:Nat->Prop}{w:World}(j:Nat): ∀q∈plC j,Rob P (fun u=>jM u q.1 q.2.1 q.2.2) w:=fun q hq u _ _=>by
 rcases bh.1 hq with rfl|hq
 ·exact rU _ rfl rfl (by decide) (df _)
 ·cases(List.mem_replicate.1 hq).2;exact rU _ rfl rfl (df _) (by decide)
theorem FT (j:Nat):il (j+1)=il j++[(j:Int)]:=by
 unfold il;rw[List.range_succ,dh];rfl
def plF (j:Nat):List Value:=(plC j).flatMap fun q=>(doC q.1 q.2.1 q.2.2).toList
theorem yi {w:World}{b1 b2 s1 s2 n1 n2 k:Nat}{T1 T2:TypeId}{v1 v2:Value}{x1 x2:List Value}(h1:w.ownsRow b1 T1 s1 v1 n1 x1)(h2:w.ownsRow b2 T2 s2 v2 n2 x2)(hT:T2≠T1)(hk:v2.ownBlock=some k):some k≠v1.ownBlock:=by
 rcases h2.2 with⟨e,_⟩|⟨b,cap,cur,e,_,hb,_⟩
 ·rw[e]at hk;simp[Value.ownBlock]at hk
 ·rw[e]at hk;have:b=k:=(by simpa[Value.ownBlock] using hk);subst this;exact jY h1 hb hT
theorem sJ {w w':World}{b1 b2 s1 s2 n1 n2:Nat}{T1 T2:TypeId}{v1 v2:Value}{x1 x2:List Value}(h1:w.ownsRow b1 T1 s1 v1 n1 x1)(h2:w.ownsRow b2 T2 s2 v2 n2 x2)(hT:T2≠T1)(hg:w.grownBy w' v1.ownBlock):w'.ownsRow b2 T2 s2 v2 n2 x2:=
 bp h2 fun k hk=>hg.block k (h2.lt k hk).2 (yi h1 h2 hT hk)
theorem K5 {w0 wr:World}{v:Value}{j:Nat}(hO:wr.ownsRow w0.heap.size 37 13 v (j+1) (plF j))(b:ao w0 wr): ∃w4,wr.alloc (.cells #[ag 2,ag 0,ag 0,ag 0,.string ⟨#[]⟩,.string ⟨#[97]⟩,ag 0,ag 0,ag 0,af,ag 0,ag 0,af] 37)=w4/\ao wr w4/\jW w0.heap.size w4 v (plC j)/\lT w4 (.slice (some (ae wr.heap.size 0)) 1 1) [(cAd,af,af)]/\ ∀q∈[((cAd,af,af):Cm×Value×Value)],Rob (fun k=>some k≠v.ownBlock) (fun u=>jM u q.1 q.2.1 q.2.2) w4:=by
 have hr: ∀(P:Nat->Prop) (W:World),∀q∈[((cAd,af,af):Cm×Value×Value)],Rob P (fun u=>jM u q.1 q.2.1 q.2.2) W:=fun P W q hq u _ _=>by
  cases bv.1 hq;exact rU _ rfl rfl (df _) (by decide)
 have hD:jW w0.heap.size wr v (plC j):=⟨by rw[pQ];exact hO,Ee j⟩
 obtain⟨w4,h4,b4,o4,x4,r4⟩:=Ec hD b (aG _ _) [(cAd,af,af)] #[ag 2,ag 0,ag 0,ag 0,.string ⟨#[]⟩,.string ⟨#[97]⟩,ag 0,ag 0,ag 0,af,ag 0,ag 0,af] rfl (show 1<=60 by decide) (hr _ _);obtain⟨w4',h4',b4',_⟩:=nb wr #[ag 2,ag 0,ag 0,ag 0,.string ⟨#[]⟩,.string ⟨#[97]⟩,ag 0,ag 0,ag 0,af,ag 0,ag 0,af] 37;rw[h4]at h4';subst h4';exact⟨w4,h4,b4',o4,x4,r4⟩
def tC (n:Nat)(rv:Value):List (Cm×Value×Value):=plC n++[(cS (fP n),rv,af)]
theorem I2 (n:Nat)(rv:Value):(tC n rv).length=n+2:=by
 unfold tC;rw[aL,pQ];rfl
theorem Nc {w0 w1:World}{v pv:Value}{n:Nat}(h8:n<=8)(hO:w1.ownsRow w0.heap.size 37 13 v (n+1) (plF n))(hP:w1.ownsRow w0.heap.size 3 1 pv n (c8 (il n)))(b:ao w0 w1): ∃w2 w3,w1.alloc (.cells #[pv,pv] 24)=w2/\w2.alloc (.cells #[ag 3,ag 0,ag 0,ag 0,.string ⟨#[]⟩,.string ⟨#[]⟩,ag 60,ag 0,ag 0,.slice (some (ae w1.heap.size 0)) 2 2,ag 0,ag 0,af] 37)=w3/\ao w0 w3/\jW w0.heap.size w3 v (plC n)/\lT w3 (.slice (some (ae w2.heap.size 0)) 1 1) [(cS (fP n),.slice (some (ae w1.heap.size 0)) 2 2,af)]/\ ∀q∈[((cS (fP n),.slice (some (ae w1.heap.size 0)) 2 2,af):Cm×Value×Value)],Rob (fun k=>some k≠v.ownBlock) (fun u=>jM u q.1 q.2.1 q.2.2) w3:=by
 obtain⟨w2,h2,b2,n2⟩:=nb w1 #[pv,pv] 24;obtain⟨w3,h3,b3,n3⟩:=nb w2 #[ag 3,ag 0,ag 0,ag 0,.string ⟨#[]⟩,.string ⟨#[]⟩,ag 60,ag 0,ag 0,.slice (some (ae w1.heap.size 0)) 2 2,ag 0,ag 0,af] 37;have b23:=au b2 b3
 have hr: ∀q∈[((cS (fP n),.slice (some (ae w1.heap.size 0)) 2 2,af):Cm×Value×Value)],Rob (fun k=>some k≠v.ownBlock) (fun u=>jM u q.1 q.2.1 q.2.2) w3:=fun q hq u hu ha=>by
  cases bv.1 hq;have hp:u.ownsRow w0.heap.size 3 1 pv n (c8 (il n)):=bp hP fun k hk=>(ha k (yi hO hP (by decide) hk) (aO (hP.lt k hk).2 b23.size)).trans (b23.block k (hP.lt k hk).2);have hrow:dQ u pv (il n):=mD (B:=w0.heap.size) (by rw[lJ];exact hp) (by rw[lJ];omega);have hg:u.heap[w1.heap.size]? =ah #[pv,pv] 24:=(ha _ (fun e=>by have:=(hO.lt _ e.symm).2;omega) (aO (aF n2) b3.size)).trans (ai b3 n2);refine⟨⟨some ⟨w1.heap.size,0,none⟩,2,rfl,(show 2<9223372036854775808 by decide),fun i l hi=> ?_⟩,CE,df _,df _,fun p m k e=>by cases e;exact aA _⟩;match i,hi with
  |0,hi=>cases hi;exact⟨_,0,pv,rfl,aV _ _ _ _ _ _ hg,hrow⟩
  |1,hi=>cases hi;exact⟨_,0,pv,rfl,aV _ _ 1 _ _ _ hg,hrow⟩
  |i+2,hi=>simp[fP,cS]at hi
 exact⟨w2,w3,h2,h3,au b b23,⟨by rw[pQ];exact bp hO fun k hk=>b23.block k (hO.lt k hk).2,Ee n⟩,uT (B:=0) (mE (n:=1) n3 (df _) rfl (by decide)) (fun q hq=>(hr q hq).here) (show 1<9223372036854775808 by decide),hr⟩
theorem CI {n:Nat}{x y z:Int}{P:List (Int×Int)}{rv:Value}{cs:List (Cm×Value×Value)}(hcs:cs.map (fun q=>q.1)=P.map lK): ∀q∈tC n rv++cs++[((cF x y z,af,af):Cm×Value×Value)],wf q.1:=fun q hq=>OC _ (by
 rw[bJ,bJ]at hq;rcases hq with(hq|hq)|hq
 ·rcases bJ.1 hq with hq|hq
  ·rcases bh.1 hq with rfl|hq
   ·exact .inl rfl
   ·cases(List.mem_replicate.1 hq).2;exact .inr (.inl rfl)
  ·cases bv.1 hq;exact .inr (.inr (.inl rfl))
 ·have:q.1∈P.map lK:=by rw[<-hcs];exact dw.2 ⟨q,hq,rfl⟩
  obtain⟨j,_,e⟩:=dw.1 this;rw[<-e];exact .inr (.inr (.inr (.inr rfl)))
 ·cases bv.1 hq;exact .inr (.inr (.inr (.inl rfl))))
theorem K6 {n:Nat}{rv:Value}{P:List (Int×Int)}{cs:List (Cm×Value×Value)}(hcs:cs.map (fun q=>q.1)=P.map lK):(tC n rv++cs++[((cF 0 5 1,af,af):Cm×Value×Value)]).map (fun q=>q.1)=[cR eS]++List.replicate n cAd++[cS (fP n)]++P.map lK++[cF 0 5 1]:=by
 have e1:(tC n rv).map (fun q=>q.1)=[cR eS]++List.replicate n cAd++[cS (fP n)]:=by
  unfold tC plC;rw[dh,dl,List.map_replicate];rfl
 rw[dh,dh,hcs,e1];rfl
theorem FU (n:Int)(w:World)(hT:Tbs w.heap.size w):Calls prog 8 #[ag n] w fun e w'=>e= .returned (.bool true)/\ao w w':=by
 have c1:=IY w hT;have HT:=aD hT;clear hT;go_enter func8,ntmps8;go_wp2_with fail;refine c1.mono ?_;rintro e w1 ⟨rfl,b1⟩;clear c1;have HB1:=aD b1;clear b1;have H:(n<2)\/(¬n<2/\8<n)\/(¬n<2/\ ¬8<n):=by omega
 rcases H with g0|⟨g0,g1⟩|⟨g0,g1⟩;rotate_left 2
 ·obtain⟨N,hN⟩: ∃N:Nat,n=(N:Int):=⟨n.toNat,by omega⟩
  subst hN;have cX:Calls prog 19 #[.string ⟨#[114,117,108,101,32,97,32,61,32,48,57,58,48,48,45,49,48,58,48,48,59]⟩] w1 _:=ye eS w1;go_wp2_with fail;refine cX.mono ?_;rintro e w2 ⟨rfl,b2⟩;clear cX;obtain⟨w3,h3,b3,n3⟩:=nb w2 (doC (cR eS) (af) (af)) 37;have HO0:=aD (mE (B:=w1.heap.size) (n:=1) (m:=13) n3 b2.size rfl (by decide));have HB3:=aD (au b2 b3);have HP0:P3 (w3.ownsRow w1.heap.size 3 1 (af) 0 []):=aD ⟨rfl,.inl ⟨rfl,rfl⟩⟩;clear b2 b3 n3;dsimp only[doC]at h3⊢;have hN2:2<=N:=(by omega);have hN8:N<=8:=(by omega);go_wp2_with fail;go_loopw [3,4,5,18] (fun v pv _ q wr=> ∃j:Nat,q=ag (j:Int)/\j<=N/\wr.ownsRow w1.heap.size 37 13 v (j+1) (plF j)/\wr.ownsRow w1.heap.size 3 1 pv j (c8 (il j))/\ao w1 wr) (fun _ _ _ q _=>N-(intOf q).toNat);case atStart=>exact⟨0,rfl,df _,HO0.o,HP0.o,HB3.o⟩
  case round=>
   obtain⟨j,rfl,hj,ho,hp,hbr⟩:=hrel;have hj0:(0:Int)<=(j:Int):=(by omega);by_cases hlt:j<N
   ·have hlt':(j:Int)<(N:Int):=(by omega);obtain⟨p,k,hv⟩:=bU ho;subst hv;obtain⟨p',k',hv'⟩:=bU hp;subst hv';obtain⟨w4,h4,b4,o4,x4,r4⟩:=K5 ho hbr;have HHP:=aD (bp hp fun b hb=>b4.block b (hp.lt b hb).2);have HB4:=aD (au hbr b4);have HO4:=aD o4;have HX4:=aD x4;have HR4:=aD r4;have hp4:0<[((cAd,af,af):Cm×Value×Value)].length:=Nat.one_pos
    have hn4:(plC j).length+[((cAd,af,af):Cm×Value×Value)].length<=100000:=by
     rw[pQ];show j+1+1<=100000;omega
    clear ho hp hbr b4 o4 x4 r4;go_wp2_with(first|(refine jO rfl _ _ rfl rfl HO4.o rfl HX4.o hp4 HR4.o hn4 HB4.o.size ?_;intro v5 w5 hO5 b5 g5;obtain⟨w6,h6,b6,n6⟩:=nb w5 #[ag (j:Int)] 3;have b56:=HB4.o.trans b5;have hP6:=bp (sJ HO4.o.1 HHP.o (by decide) g5) fun b hb=>b6.block b ((sJ HO4.o.1 HHP.o (by decide) g5).lt b hb).2;have b66:=au b56 b6;have hO6:=bp hO5.1 fun b hb=>b6.block b (hO5.1.lt b hb).2;clear b5 g5 b56)|(at_builtin;refine oV rfl _ _ rfl w1.heap.size (il j) [(j:Int)] _ _ rfl (by rw[lJ];exact hP6) rfl (Ca n6) (by rw[lJ];show j+1<=1000000;omega) b66.size ?_;intro v7 w7 hP7 g7))
    have hb7:=fU b66 g7 (aA _) (fun k hk=>(hP6.lt k hk).1);have hO7:=sJ hP6 hO6 (by decide) g7;go_roundw
    case rel=>
     refine⟨j+1,by go_num,by omega,?_,?_,hb7⟩
     ·unfold plF;rw[K4];rw[aL,pQ]at hO7;exact hO7
     ·rw[FT];rw[aL,lJ]at hP7;exact hP7
    case measure=>simp[intOf];omega
   ·have hlt': ¬(j:Int)<(N:Int):=(by omega);have hjN:j=N:=(by omega);subst hjN;obtain⟨p,k,hv⟩:=bU ho;subst hv;obtain⟨p',k',hv'⟩:=bU hp;subst hv';obtain⟨w4,w5,h4,h5,b5,o5,x5,r5⟩:=Nc hN8 ho hp hbr;have HO5:=aD o5;have HX5:=aD x5;have HR5:=aD r5;have HB5:=aD b5;have hp5:0<[((cS (fP j),.slice (some (ae wr.heap.size 0)) 2 2,af):Cm×Value×Value)].length:=Nat.one_pos
    have hn5:(plC j).length+[((cS (fP j),.slice (some (ae wr.heap.size 0)) 2 2,af):Cm×Value×Value)].length<=100000:=by
     rw[pQ];show j+1+1<=100000;omega
    clear ho hp hbr b5 o5 x5 r5;obtain⟨M,hM⟩: ∃M:Nat,(j:Int)/2=(M:Int):=⟨j/2,by omega⟩
    go_wp2_with(refine jO rfl _ _ rfl rfl HO5.o rfl HX5.o hp5 HR5.o hn5 HB5.o.size ?_;intro v6 w6 hO6 b6 _)
    have HO6:=aD hO6;have HB6:=aD (HB5.o.trans b6);obtain⟨rv,hrv⟩:=aq (.slice (some (ae wr.heap.size 0)) 2 2:Value);rw[hrv]at HO6;change P3 (jW w1.heap.size w6 v6 (tC j rv)) at HO6;obtain⟨p6,k6,hv6⟩:=bU HO6.o.1;rw[I2]at hv6;subst hv6;clear HO5 HX5 HR5 HB5 hO6 b6 hp5 hn5 hrv h4 h5 HO0 HB3 HP0 h3;go_wp2_with fail;go_loopw [2,3,6,40] (fun _ v _ q wq=> ∃(i:Nat) (P:List (Int×Int)) (cs:List (Cm×Value×Value)),q=ag (i:Int)/\P.length=i/\i<=M/\yd j P/\jW w1.heap.size wq v (tC j rv++cs)/\cs.map (fun q=>q.1)=P.map lK/\ao w1 wq) (fun _ _ _ q _=>M-(intOf q).toNat);case atStart=>exact⟨0,[],[],rfl,rfl,df _,IT j,by rw[gZ];exact HO6.o,rfl,HB6.o⟩
    case round=>
     obtain⟨i,P,cs,rfl,hPl,hi,hTP,ho,hcs,hbr⟩:=hrel;have hi0:(0:Int)<=(i:Int):=(by omega)
     have hcl:cs.length=i:=by
      have:=congrArg List.length hcs;rw[aZ,aZ,hPl]at this;exact this
     have hll:(tC j rv++cs).length=j+2+i:=(by rw[aL,hcl,I2]);have hAns:=KK hN2 hN8 hTP;obtain⟨tc1,tc2⟩:=IU hN2 hN8 hTP;rw[hPl]at tc1 tc2 hAns
     have hidx:j+2+i=(tC j rv++cs++[((cF 0 5 1,af,af):Cm×Value×Value)]).length-1:=by
      rw[aL,hll];rfl
     rw[<-K6 (rv:=rv) hcs,hidx]at hAns;obtain⟨p,k,hv⟩:=bU ho.1;rw[hll]at hv;subst hv;have HOr:=aD ho;have HBR:=aD hbr;have HCS:=aD hcs;have HLL:=aD hll;by_cases hlt:i<M
     ·have hlt':(i:Int)<(j:Int)/2:=(by omega);obtain⟨r,s,hA,hTP'⟩:=tc1 (by omega);rw[hA]at hAns;have HANS:=aD hAns;have HTP:=aD hTP';have hPl':(P++[(r,s)]).length=i+1:=(by rw[aL,hPl];rfl);obtain⟨wE,hE⟩:=aq (wr.alloc (.cells #[] 37));have hbn:=fun W=>Dp W;obtain⟨oE,bE⟩:=KY hE;have HOE:=aD oE;have HBE:=aD bE;have HRE:=aD (KZ HOr.o bE);have HXE:=aD ((HOr.o.below bE).row (by omega));clear ho hcs hbr hll hAns hidx oE bE tc1 tc2 hTP hTP' hA;go_wp2_with(refine jO rfl _ _ rfl rfl HOE.o rfl HXE.o (by rw[HLL.o];omega) HRE.o (by rw[HLL.o];show 0+(j+2+i)<=100000;omega) HBE.o.size ?_;intro v' w3 hO3 b3 _)
      rw[List.nil_append]at hO3;have HO3:=aD hO3;have HB3:=aD (HBE.o.trans (b3.mono (aA _)));clear hO3 b3 HOE HBE HRE HXE hE;obtain⟨p3,k3,hv3⟩:=bU HO3.o.1;rw[HLL.o]at hv3;subst hv3;have c2:=tZ 0 5 1 w3;go_wp2_with fail;refine c2.mono ?_;rintro e w4 ⟨rfl,b4⟩;clear c2;obtain⟨w5,h5,b5,o5,x5,r5⟩:=wm HO3.o HB3.o b4 0 5 1;have HB5:=aD b5;have HO5:=aD o5;have HX:=aD x5;have HR:=aD r5;clear b5 o5 x5 r5 b4 HO3 HB3;dsimp only[doC]at h5⊢;have hp5:0<[((cF 0 5 1,af,af):Cm×Value×Value)].length:=Nat.one_pos
      have hn5:(tC j rv++cs).length+[((cF 0 5 1,af,af):Cm×Value×Value)].length<=100000:=by
       rw[HLL.o];show j+2+i+1<=100000;omega
      go_wp2_with(refine jO rfl _ _ rfl rfl HO5.o rfl HX.o hp5 HR.o hn5 HB5.o.size ?_;intro v6 w6 hO6 b6 _)
      clear hp5 hn5;have hb6:=HB5.o.trans b6;have hTr:Tbs wr.heap.size wr:=fun W hW=>HT.o W (HB1.o.trans ((au HBR.o hW).mono HB1.o.size));have c3:=Ed hO6 hb6 hTr (by rw[aL,HLL.o];omega) (by rw[aL,HLL.o];show j+2+i+1<=60;omega) (CI HCS.o) HANS.o;have HB6:=aD hb6;clear hO6 hb6 b6 HB5 HO5 HX HR hTr HANS;refine c3.mono ?_;clear c3;rintro e w7 ⟨wv,q7,k7,rfl,hwv,b7⟩;obtain⟨wZ,wC,hZ,nZ,hC,bC,nC⟩:=nbs w7 #[ag 0,ag 0,ag 0,ag 0,af,af] #[ag 0,ag 0,ag 5,ag 540,wv,.slice q7 0 k7] 28;have z0:=cr 0 nC rfl;have z3:=cr 3 nC rfl;have b67:=au b7 bC;have hwC:mw w6.heap.size wC wv [r,s]:=⟨hwv.1.below bC,hwv.2⟩
      obtain⟨⟨pw,kw,ew,_,_⟩,_⟩:=id hwC;replace ew:wv= .slice pw 2 kw:=ew;subst ew
      have rC:wC.rangeAt w7.heap.size 2 [ag 5,ag 540,.slice pw 2 kw]:=fun i u hi=>by
       match i,hi with
       |0,hi=>cases hi;exact cr 2 nC rfl
       |1,hi=>cases hi;exact cr 3 nC rfl
       |2,hi=>cases hi;exact cr 4 nC rfl
       |i+3,hi=>simp at hi
      obtain⟨w8,h8,b8,o8,x8,r8⟩:=Ec (HOr.o.below HB6.o) (au HBR.o HB6.o) b67 [(lK (r,s),af,.slice pw 2 kw)] #[ag 5,ag 0,ag 0,ag 0,.string ⟨#[]⟩,.string ⟨#[]⟩,ag 0,ag 0,ag 0,af,ag 5,ag 540,.slice pw 2 kw] rfl (show 1<=60 by decide) (fun q hq=>by
       cases bv.1 hq;exact I0 5 0 5 540 hwC)
      have HB8:=aD b8;have HO8:=aD o8;have HX8:P3 (lT w8 (.slice (some (ae wC.heap.size 0)) 1 1) [((lK (r,s),af,.slice pw 2 kw):Cm×Value×Value)]):=aD x8;have HR8:=aD r8;have hp8:0<[((lK (r,s),af,.slice pw 2 kw):Cm×Value×Value)].length:=Nat.one_pos
      have hn8:(tC j rv++cs).length+[((lK (r,s),af,.slice pw 2 kw):Cm×Value×Value)].length<=100000:=by
       rw[HLL.o];show j+2+i+1<=100000;omega
      clear b8 o8 x8 r8 b67 b7 bC hwC hwv nC HB6 HOr;dsimp only[anC,List.length];go_wp2_with(first|(refine az rfl 28 _ _ rfl _ _ rfl rfl _ _ nZ (by kernel_rfl) rfl (by simp[Value.oneCell']) ?_;rw[hC])|(refine wpList_load_mid rfl 26 _ rfl w7.heap.size 2 rfl [ag 5,ag 540,.slice pw 2 kw] _ rC PZ rfl (by kernel_rfl) ?_)|(refine jO rfl _ _ rfl rfl HO8.o rfl HX8.o hp8 HR8.o hn8 HB8.o.size ?_;intro v9 w9 hO9 b9 _))
      have HB9:=aD (HB8.o.trans b9);clear b9;go_roundw;case rel=>exact⟨i+1,P++[(r,s)],cs++[((lK (r,s),af,.slice pw 2 kw):Cm×Value×Value)],by go_num,hPl',by omega,HTP.o,by rw[<-dm];exact hO9,by rw[dh,dh,HCS.o];rfl,HB9.o⟩
      case measure=>simp[intOf];omega
     ·have hlt': ¬(i:Int)<(j:Int)/2:=(by omega);rw[tc2 (by omega)]at hAns;have HANS:=aD hAns;have c2:=tZ 0 5 1 wr;clear ho hcs hbr hll hAns hidx tc1 tc2 hTP;go_wp2_with fail;refine c2.mono ?_;rintro e w4 ⟨rfl,b4⟩;clear c2;obtain⟨w5,h5,b5,o5,x5,r5⟩:=wm HOr.o HBR.o b4 0 5 1;have HB5:=aD b5;have HO5:=aD o5;have HX:=aD x5;have HR:=aD r5;clear b5 o5 x5 r5 b4;have hp5:0<[((cF 0 5 1,af,af):Cm×Value×Value)].length:=Nat.one_pos
      have hn5:(tC j rv++cs).length+[((cF 0 5 1,af,af):Cm×Value×Value)].length<=100000:=by
       rw[HLL.o];show j+2+i+1<=100000;omega
      dsimp only[doC]at h5⊢;go_wp2_with(refine jO rfl _ _ rfl rfl HO5.o rfl HX.o hp5 HR.o hn5 HB5.o.size ?_;intro v6 w6 hO6 b6 _)
      have hb6:=HB5.o.trans b6;have hTr:Tbs w1.heap.size w1:=fun W hW=>HT.o W (au HB1.o hW);have c3:=Ed hO6 hb6 hTr (by rw[aL,HLL.o];omega) (by rw[aL,HLL.o];show j+2+i+1<=60;omega) (CI HCS.o) HANS.o;have HB6:=aD (au HB1.o hb6);clear hO6 hb6 b6 HB5 HO5 HX HR hTr HANS hp5 hn5;refine c3.mono ?_;clear c3;rintro e w7 ⟨wv,q7,k7,rfl,_,b7⟩;have HB7:=aD (au HB6.o b7);clear b7;have hF:=fun W=>I1 wv (.slice q7 0 k7) W;dsimp only[anC,noA,List.length];go_wp2_with fail;go_ret;exact⟨rfl,HB7.o⟩
 all_goals
  go_wp2_with fail
  go_ret
  exact⟨rfl,HB1.o⟩
section
open Go.ChangeShapes Go.WideShapes Go.ChangeAt Go.WideMaps Go.WideElems Go.Joins
abbrev uW:List (String×DataW Unit):=Rows.topDaysRow.laid
def Lp:String:=(Rows.topDaysRow.laid.headD default).1
def OO:String:=(Rows.topDaysRow.laid.getD 1 default).1
def P0:String:=(Rows.topDaysRow.laid.getD 2 default).1
def sK:List Int:=Lib.deBruijn64tab.map fun(n:Nat)=>(n:Int)
theorem own3:ownKnob prog.godebug=none:=by kernel_rfl
theorem I3:prog.globalNamed Lp=some 4:=by kernel_rfl
theorem OP:(prog.globals[4]?).map (·.type)=some 260:=by kernel_rfl
theorem Lq:prog.globalNamed OO=some 1:=by kernel_rfl
theorem Pv:(prog.globals[1]?).map (·.type)=some 226:=by kernel_rfl
theorem Lr:prog.globalNamed P0=some 5:=by kernel_rfl
theorem Pw:(prog.globals[5]?).map (·.type)=some 281:=by kernel_rfl
theorem cI3:prog.cellsOf 3=1:=by kernel_rfl
theorem cB3:prog.cellsOf 5=1:=by kernel_rfl
theorem cT3:prog.cellsOf 260=64:=by kernel_rfl
theorem cL3:prog.cellsOf 226=12:=by kernel_rfl
theorem cS3:prog.cellsOf 9=1:=by kernel_rfl
theorem cD3:prog.cellsOf 281=7:=by kernel_rfl
theorem I4 (os:Os)(args:Array Value):laidMetH prog uW ((World.doorLaid prog 400 os).forCall (fun _ _=>0) ⟨#[],args,[]⟩).memory:=
 laidMetH_of_parts3 (fuel:=8) (laidMet_of_run' 8 (by kernel_rfl) (by kernel_rfl)) (by kernel_rfl) (by kernel_rfl)
theorem I5 {H:Type}{enc:TypeId×Value->H}{P:Program}{w:World}{base:Nat}{sp:Nat->Bool}{held:Bool}{t e:TypeId}{n:Nat}{cs:List Value}{zs:List (List UInt8)}{p:List MemPlace}(ht:P.underlying t=some (.array n e))(he:P.underlying e=some .string)(hce:P.cellsOf e=1)(hct:P.cellsOf t=n):
  ∀fuel,DataW.trod enc P w base sp held fuel t cs=some (.agg (zs.map fun z=> .lit (.string z)),p)-> ∀(i:Nat) (z:List UInt8),zs[i]? =some z->cs[i]? =some (.string ⟨z.toArray⟩)
 |0,h,_,_,_=>by simp[DataW.trod]at h
 |fuel+1,h,i,z,hz=>by
  simp only[DataW.trod,ht,hce,hct,Nat.mul_one]at h;split at h
  ·obtain⟨xs,hm,hx⟩:=eI.1 h;have h1:xs.map (fun x=>x.1)=zs.map fun z=>(DataW.lit (.string z):DataW H):=(by simpa using congrArg Prod.fst hx);have h2:(xs.map fun x=>x.1)[i]? =some (DataW.lit (.string z):DataW H):=(by rw[h1,bg,hz];rfl);rw[bg]at h2;obtain⟨x,hx1,hx2⟩:=eI.1 h2
   have hin:i<n:=by
    have a:=(aE.1 hx1).1;have b:=Lib.mapM_length hm;simp at b;omega
   obtain⟨b,hb,hf⟩:=Lib.mapM_at hm i i (by simp[hin]);obtain⟨s,hc,rfl,_⟩:=DataW.trod_string he hf;rw[hb]at hx1;obtain rfl:=aK hx1;have hs:s.data.toList=z:=(by simpa using hx2);have h3:=congrArg (fun l:List Value=>l[0]?) hc;have h4:cs[i]? =some (.string s):=(by simpa[ja,List.getElem?_drop] using h3);rw[h4,<-hs]
  ·cases h
theorem AK {W:World}(h:laidMetH prog uW W):Tab W/\gc W/\pV W:=by
 rw[MakeChecks.laidMetH_plain _ _ _ (by kernel_rfl)]at h;obtain⟨ps,⟨g1,t1,cs1,fuel1,p1,q1,hg1,ht1,hv1,hd1,⟨g2,t2,cs2,fuel2,p2,q2,hg2,ht2,hv2,hd2,⟨g3,t3,cs3,fuel3,p3,q3,hg3,ht3,hv3,hd3,_,_⟩,_⟩,_⟩,_⟩:=h;obtain rfl:=aK (I3.symm.trans hg1);obtain rfl:=aK (OP.symm.trans ht1);obtain rfl:=aK (Lq.symm.trans hg2);obtain rfl:=aK (Pv.symm.trans ht2);obtain rfl:=aK (Lr.symm.trans hg3);obtain rfl:=aK (Pw.symm.trans ht3);refine⟨?_,?_,?_⟩
 ·have e1:=Lib.cells_of_tab (zs:=sK) underlying260 underlying5 cB3 cT3 hd1
  have t:Lib.TabIs prog W Lp .u8 sK:=by
   unfold Lib.TabIs;rw[<-e1];exact hv1
  intro i hi;have:=t.cell I3 i (by simpa[sK,Lib.deBruijn64tab] using hi);rw[this];have hl:i<Lib.deBruijn64tab.length:=(by simpa[Lib.deBruijn64tab] using hi);simp[sK,List.getD,hl]
 ·have e2:=Lib.cells_of_tab (zs:=tab) underlying226 underlying3 cI3 cL3 hd2
  have t:Lib.TabIs prog W OO .i64 tab:=by
   unfold Lib.TabIs;rw[<-e2];exact hv2
  intro i hi;exact t.cell Lq i (by simpa[tab] using hi)
 ·intro j hj
  have hz:eJ[j]? =some (eJ.getD j []):=by
   rw[dJ,ax (by exact hj)];rfl
  have hc:=I5 (zs:=eJ) underlying281 underlying9 cS3 cD3 fuel3 hd3 j _ hz;have:=World.var?_cell Lr hv3 j;rw[this];simpa using hc
end
section
open Go.ChangeShapes Go.WideShapes Go.ChangeAt Go.WideMaps Go.WideElems Go.Joins
theorem Dq {W:World}(h:laidMetH prog uW W):Tbs W.heap.size W:=fun W' hb=>by
 obtain⟨a,b,c⟩:=AK h;exact⟨fun i hi=>(hb.cell (bT (b i hi))).trans (b i hi),fun i hi=>(hb.cell (bT (c i hi))).trans (c i hi),fun i hi=>(hb.cell (bT (a i hi))).trans (a i hi)⟩
end
end Go.Proofs.YtjkilacmkbmmbaaGreatDoor
