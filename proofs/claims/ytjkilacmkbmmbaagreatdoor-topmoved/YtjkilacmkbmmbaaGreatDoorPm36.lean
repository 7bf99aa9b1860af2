/- Texts of the proof. -/
import Derived.Test.YtjkilacmkbmmbaaGreatDoorPm35
set_option maxRecDepth 100000
set_option maxHeartbeats 8000000
namespace Go.Proofs.YtjkilacmkbmmbaaGreatDoor
open Go.Proofs.Tryz Go.RowKit Lx Vx Mx Msk
theorem Fc (t:List UInt8)(w:World):Calls prog 19 #[.string ⟨t.toArray⟩] w fun e w'=>e= .returned (.agg (doC (cR t) (af) (af)))/\ao w w':=by
 obtain⟨wA,hA,bA,nA⟩:=nb w #[ag 0,ag 0,ag 0,ag 0,.string ⟨#[]⟩,.string ⟨#[]⟩,ag 0,ag 0,ag 0,af,ag 0,ag 0,af] 37;have HF:=aD (aJ _ _ _ #[ag 1,ag 0,ag 0,ag 0,.string ⟨t.toArray⟩,.string ⟨#[]⟩,ag 0,ag 0,ag 0,af,ag 0,ag 0,af] _ _ nA);have HB:=aD (below_setRow bA (aA _) #[ag 1,ag 0,ag 0,ag 0,.string ⟨t.toArray⟩,.string ⟨#[]⟩,ag 0,ag 0,ag 0,af,ag 0,ag 0,af]);clear bA;go_enter func19,ntmps19;go_wp2_with(refine ay rfl 37 _ _ rfl _ _ rfl rfl _ _ nA (by kernel_rfl) rfl (by simp[Value.oneCell']) ?_)
 refine aU (v:= .agg #[ag 1,ag 0,ag 0,ag 0,.string ⟨t.toArray⟩,.string ⟨#[]⟩,ag 0,ag 0,ag 0,af,ag 0,ag 0,af]) ?_ rfl ⟨rfl,HB.o⟩;exact aZ rfl _ _ w.heap.size _ _ _ _ rfl HF.o doT rfl (by kernel_rfl)
theorem Ih (n day days:Int)(w:World):Calls prog 14 #[ag n,ag day,ag days] w fun e w'=>e= .returned (.agg (doC (cF n day days) (af) (af)))/\ao w w':=by
 obtain⟨wA,hA,bA,nA⟩:=nb w #[ag 0,ag 0,ag 0,ag 0,.string ⟨#[]⟩,.string ⟨#[]⟩,ag 0,ag 0,ag 0,af,ag 0,ag 0,af] 37;have HF:=aD (aJ _ _ _ #[ag 4,ag n,ag day,ag days,.string ⟨#[]⟩,.string ⟨#[]⟩,ag 0,ag 0,ag 0,af,ag 0,ag 0,af] _ _ nA);have HB:=aD (below_setRow bA (aA _) #[ag 4,ag n,ag day,ag days,.string ⟨#[]⟩,.string ⟨#[]⟩,ag 0,ag 0,ag 0,af,ag 0,ag 0,af]);clear bA;go_enter func14,ntmps14;go_wp2_with(refine ay rfl 37 _ _ rfl _ _ rfl rfl _ _ nA (by kernel_rfl) rfl (by simp[Value.oneCell']) ?_)
 refine aU (v:= .agg #[ag 4,ag n,ag day,ag days,.string ⟨#[]⟩,.string ⟨#[]⟩,ag 0,ag 0,ag 0,af,ag 0,ag 0,af]) ?_ rfl ⟨rfl,HB.o⟩;exact aZ rfl _ _ w.heap.size _ _ _ _ rfl HF.o doT rfl (by kernel_rfl)
def oC (t:List UInt8)(len:Int)(rv:Value):List (Cm×Value×Value):=[(cR t,af,af),(cAd,af,af),(cS (sv1 len),rv,af)]
theorem Dy (t:List UInt8)(len:Int)(w:World)(ht:t.length<=9223372036854775807):Calls prog 12 #[.string ⟨t.toArray⟩,ag len] w fun e w'=> ∃v rv,e= .returned v/\ao w w'/\mP w.heap.size w' v (oC t len rv):=by
 have c1:=Fc t w;go_enter func12,ntmps12;go_wp2_with fail;refine c1.mono ?_;rintro e wr ⟨rfl,br⟩;clear c1;obtain⟨w1,h1,b1,n1⟩:=nb wr #[ag 0] 3;obtain⟨w2,h2,b2,n2⟩:=nb w1 #[.slice (some (ae wr.heap.size 0)) 1 1] 24;have HBR:=aD br;have HB1:=aD b1;have HB2:=aD b2;have HN1:=aD n1;have HN2:=aD n2;have HT:=aD ht;clear b1 b2 n1 n2 br ht;dsimp only[doC];go_wp2_with fail;go_ret;obtain⟨rv,hrv⟩:=aq (.slice (some (ae w1.heap.size 0)) 1 1:Value)
 suffices H: ∀W,w2.alloc (.cells ((oC t len rv).flatMap fun q=>(doC q.1 q.2.1 q.2.2).toList).toArray 37)=W->ao w W/\mP w.heap.size W (.slice (some (ae w2.heap.size 0)) 3 3) (oC t len rv) by
  rw[hrv];exact⟨_,rv,rfl,H _ rfl⟩
 intro w3 h3;obtain⟨w3',h3',b3,n3⟩:=nb w2 ((oC t len rv).flatMap fun q=>(doC q.1 q.2.1 q.2.2).toList).toArray 37;rw[h3]at h3';subst h3';have bb:=(au HBR.o HB1.o).trans (HB2.o.mono (a6 HBR.o.size HB1.o.size));refine⟨au bb b3,tD (n:=3) n3 bb.size rfl (by decide),fun q hq u hu ha=> ?_⟩;have ha': ∀k,k<w2.heap.size->u.heap[k]? =w2.heap[k]? :=fun k hk=>(ha k (fun e=>Nat.ne_of_lt hk (aK e)) (aT hk b3.size)).trans (b3.block k hk);subst hrv;rcases bl.1 hq with rfl|hq
 ·exact B5 _ rfl rfl HT.o (dF _)
 rcases bl.1 hq with rfl|hq
 ·exact B5 _ rfl rfl (dF _) (by decide)
 cases bK.1 hq;have y1:=bt HB2.o HN1.o;exact⟨L0 ((ha' _ (aF HN2.o)).trans HN2.o) (BH ((ha' _ (aF y1)).trans y1)),If,dF _,dF _,fun p n k e=>by cases e;exact aA _⟩
def Oe (cs:List Cm)(w:World)(e:Ending)(w':World):Prop:= ∃(a:An) (wv lv:Value),(playP dk0 cs).1[cs.length-1]? =some a/\e= .returned (.agg (anC a wv lv))/\oQ w.heap.size w' wv a.who/\dJ w' lv a.list/\ao w w'
theorem Fd (l:List Cm):(playP dk0 l).1.length=l.length:=by rw[(BW l).1,zX]
theorem J2 (cs:List (Cm×Value×Value))(v:Value)(w:World)(hs:mO w v cs)(h0:0<cs.length)(h60:cs.length<=60)(hT:Tbs w.heap.size w)(hok: ∀q∈cs,tz q.1):Calls prog 11 #[v] w (Oe (cs.map fun q=>q.1) w):=by
 obtain⟨wA,hA,bA,nA⟩:=nb w #[ag 0,ag 0,ag 0,ag 0,af,af] 28
 have c1:=B3 w.heap.size [w.heap.size] cs v wA bA.size (hs.below bA) (fun W hW=>hT W (bA.trans hW)) hok (fun q hq u hu ha=>by
  obtain⟨_,_,_,_,h3⟩:=id hs;obtain⟨j,hj⟩:=List.getElem?_of_mem hq;exact uR (h3 j q hj).1.who fun k hk=>(ha k hk (aT hk bA.size)).trans (bA.block k hk)) (fun q hq=>by
  cases bK.1 hq;exact⟨aA _,_,_,_,nA,by decide⟩)
 have HBA:=aD bA;have NA:=aD nA;obtain⟨n,hn⟩: ∃n,cs.length=n+1:=⟨cs.length-1,by omega⟩
 have hcl:(cs.map fun q=>q.1).length=n+1:=by rw[a7,hn]
 obtain⟨L,hL⟩:=aq (cs.map fun q=>q.1);rw[hL]at hcl c1⊢;have h60':n+1<=60:=by omega
 clear bA nA hT hok hs hn hL h0 h60;go_enter func11,ntmps11;go_wp2_with fail;refine c1.mono ?_;clear c1;rintro e w5 ⟨b5,h5⟩;rcases h5 with⟨hl,_⟩|⟨hl,rw',ev,sv,av,asv,ss,aa,ls,rfl,hR⟩
 ·omega
 clear hl;have hP:=hR.here
 have hl5:ls.length=n+1:=by
  have:=congrArg List.length hP.ane;rw[a7,Fd,hcl]at this;exact this
 obtain⟨us,hus,hx3⟩:=hP.rules;obtain⟨p1,k1,rfl⟩:=hus.form;obtain⟨p2,k2,rfl⟩:=bU hP.res;obtain⟨p3,k3,rfl⟩:=bU hP.svs;obtain⟨pa,ka,rfl⟩:=bU hP.aps;obtain⟨q,hq⟩: ∃q,ls[n]? =some q:=⟨_,ax (by omega)⟩
 have fq:(playP dk0 L).1[L.length-1]? =some q.1:=by
  rw[hcl,Nat.add_sub_cancel,<-hP.ane,bg,hq];rfl
 have hrr:Rob (fun k=>k∉[w.heap.size]) (fun u=>oQ w.heap.size u q.2.1 q.1.who/\dJ u q.2.2 q.1.list) w5:=hR.imp fun u hu=>hu.anr q (aL hq);obtain⟨hr1,hr2⟩:=hP.anr q (aL hq);obtain⟨⟨pw,kw,ew,_,_⟩,_⟩:=hr1;obtain⟨pl,kl,el,_,_⟩:=hr2;obtain⟨g,c,hv,hx1,r3⟩:=kF (f:=fun p:An×Value×Value=>anC p.1 p.2.1 p.2.2) (fun _=>rfl) hP.ans rfl hq;subst hv;clear hR hP hus hx1 hx3 hq;obtain⟨a,wv,lv⟩:=q;dsimp only at hrr ew el r3 fq;subst ew el;have HRR:=aD hrr;have HF:=aD fq;rw[hl5];clear hl5 hrr fq;generalize us.length=n1;generalize ss.length=n3;generalize aa.length=n4;generalize (playP dk0 L).2.res.length=n2;generalize (playP dk0 L).2.runs=rn;obtain⟨wZ,wC,hZ,nZ,hC,bC,nC⟩:=nbs w5 #[af,af,af,af] #[.slice p1 n1 k1,.slice p2 n2 k2,.slice p3 n3 k3,.slice pa n4 ka] 69;have r4:=ig r3 bC;have nA':=bt bC (bt b5 NA.o);have HB:=aD (HBA.o.trans ((au b5 bC).mono HBA.o.size));have HW:=aD (below_setRow HB.o (aA _) (anC a (.slice pw a.who.length kw) (.slice pl a.list.length kl)));have HX:=aD (aJ _ _ _ (anC a (.slice pw a.who.length kw) (.slice pl a.list.length kl)) _ _ nA');have HC:=aD bC;clear r3 bC b5 nC;have hw1:IntKind.i64.wrap (((n+1:Nat):Int)-1)=(n:Int):=by rw[bx];omega
 have hnz: ¬((n+1:Nat):Int)=0:=by omega
 go_wp2_with(first|(refine ay rfl 69 _ _ rfl _ _ rfl rfl _ _ nZ (by kernel_rfl) rfl (by simp[Value.oneCell']) ?_;rw[hC])|(refine wpList_load_mid rfl 28 _ rfl g (n*6) rfl (anC a (.slice pw a.who.length kw) (.slice pl a.list.length kl)).toList _ r4 anT rfl (by kernel_rfl) ?_)|(refine ay rfl 28 _ _ rfl _ _ rfl rfl _ _ nA' (by kernel_rfl) rfl (by simp[anC,Value.oneCell']) ?_))
 refine aU (v:= .agg (anC a (.slice pw a.who.length kw) (.slice pl a.list.length kl))) ?_ rfl (by
  have h:=HRR.o ((wC.setRow w.heap.size (anC a (.slice pw a.who.length kw) (.slice pl a.list.length kl)))) ?_ ?_
  ·exact⟨a,_,_,HF.o,rfl,h.1,h.2,HW.o⟩
  ·exact a6 HC.o.size (below_setRow (aG 0 wC) (dF _) _).size
  ·exact fun k hk hl=>(aR _ _ _ _ fun e=>hk (bK.2 e)).trans (HC.o.block k hl))
 ·exact aZ rfl _ _ w.heap.size _ _ _ _ rfl HX.o anT rfl (by kernel_rfl)
theorem J3 {w0 w1 w2:World}{v:Value}{cs:List (Cm×Value×Value)}(hO:mP w0.heap.size w1 v cs)(b1:ao w0 w1)(b2:ao w1 w2)(n day days:Int): ∃w3,w2.alloc (.cells (doC (cF n day days) (af) (af)) 37)=w3/\ao w0 w3/\mP w0.heap.size w3 v cs/\mO w3 (.slice (some (ae w2.heap.size 0)) 1 1) [(cF n day days,af,af)]/\ ∀q∈[((cF n day days,af,af):Cm×Value×Value)],Rob (fun k=>some k≠v.ownBlock) (fun u=>lz u q.1 q.2.1 q.2.2) w3:=by
 obtain⟨w3,h3,b3,n3⟩:=nb w2 (doC (cF n day days) (af) (af)) 37;have b13:=au b2 b3
 have hR: ∀(P:Nat->Prop),∀q∈[((cF n day days,af,af):Cm×Value×Value)],Rob P (fun u=>lz u q.1 q.2.1 q.2.2) w3:=fun P q hq u _ _=>by
  cases bK.1 hq;exact B5 _ rfl rfl (dF _) (dF _)
 exact⟨w3,h3,au b1 b13,hO.below b13,yo (B:=0) (tD (n:=1) n3 (dF _) rfl (by decide)) (fun q hq=>(hR (fun _=>True) q hq).here) (by decide:1<9223372036854775808),hR _⟩
theorem L5 {t:List UInt8}{L:List Ru}(h:gu t=(0,L))(ha:0<=atP5 L [97]){len:Int}(hl:1<=len/\len<=1440)(day days:Int):(playP dk0 [cR t,cAd,cS (sv1 len),cF 0 day days]).1[3]? =some (qF (c1 L len []) 0 day days).1:=by
 rw[(BW _).1];show(il co0 ([cR t,cAd,cS (sv1 len)]++[cF 0 day days])).1[3]? =_;rw[tE,B2 h ha hl];rfl
theorem J4 {w0 w4:World}{v:Value}{t:List UInt8}{len day days:Int}{rv:Value}(hO:mP w0.heap.size w4 v (oC t len rv++[(cF 0 day days,af,af)]))(hb:ao w0 w4)(hT:Tbs w0.heap.size w0){A:An}(hA:(playP dk0 [cR t,cAd,cS (sv1 len),cF 0 day days]).1[3]? =some A):Calls prog 11 #[v] w4 fun e w'=> ∃(p q:Option Addr) (k m:Nat),e= .returned (.agg (anC A (.slice p A.who.length k) (.slice q A.list.length m)))/\ao w4 w':=by
 refine(J2 _ v w4 (hO.row (by show 4<9223372036854775808;decide)) (by show 0<4;decide) (by show 4<=60;decide) (fun W hW=>hT W (au hb hW)) fun q hq=>Ig _ ?_).mono ?_
 ·have:q.1.kind=1\/q.1.kind=2\/q.1.kind=3\/q.1.kind=4:=by
   simp only[oC,List.cons_append,List.nil_append,bl,List.not_mem_nil,or_false]at hq;rcases hq with rfl|rfl|rfl|rfl
   ·exact .inl rfl
   ·exact .inr (.inl rfl)
   ·exact .inr (.inr (.inl rfl))
   ·exact .inr (.inr (.inr rfl))
  omega
 ·rintro e w' ⟨a,wv,lv,h1,rfl,⟨⟨p,k,rfl,_⟩,_⟩,⟨q,m,rfl,_⟩,h4⟩;have h1':(playP dk0 [cR t,cAd,cS (sv1 len),cF 0 day days]).1[3]? =some a:=h1;rw[hA]at h1';cases aK h1';exact⟨p,q,k,m,rfl,h4⟩
theorem Ii (w:World)(hT:Tbs w.heap.size w):Calls prog 10 #[] w fun e w'=>e= .returned (.bool true)/\ao w w':=by
 have c1:=Dy aS 30 w (by decide)
 have hA:(playP dk0 [cR aS,cAd,cS (sv1 30),cF 0 7 1]).1[3]? =some ⟨0,0,7,540,[0],[]⟩:=by
  rw[L5 Ib (by decide) (by decide)];exact congrArg some ((Nr (a:=540) (b:=1020) (len:=30) (day:=7) (days:=1) (by decide) (by decide) (by decide) (by decide) (by decide)).trans (aw (by decide)))
 have HA:=aD hA;have HT:=aD hT;clear hT hA;go_enter func10,ntmps10;go_wp2_with fail;refine c1.mono ?_;rintro e w1 ⟨v,rv,rfl,b1,ho⟩;clear c1;have HB1:=aD b1;have HO:=aD ho;have c2:=Ih 0 7 1 w1;obtain⟨p,k,hv⟩:=bU ho.1;subst hv;clear ho b1;go_wp2_with fail;refine c2.mono ?_;rintro e w2 ⟨rfl,b2⟩;clear c2;obtain⟨w3,h3,b3,o3,x3,r3⟩:=J3 HO.o HB1.o b2 0 7 1;have HB3:=aD b3;have HO3:=aD o3;have HX:=aD x3;have HR:=aD r3;clear b3 o3 x3 r3 b2 HO;dsimp only[doC,oC,List.length]at*;go_wp2_with(refine qj rfl _ _ rfl rfl HO3.o rfl HX.o (show 0<1 by decide) HR.o (show 4<=100000 by decide) HB3.o.size ?_;intro v' w4 hO4 b4 _)
 have hb4:=HB3.o.trans b4;have HB4:=aD hb4;have c3:=J4 hO4 hb4 HT.o HA.o;clear hO4 hb4 b4 HB3 HO3 HX HR;refine c3.mono ?_;clear c3;rintro e w5 ⟨p1,p2,k1,k2,rfl,b5⟩;obtain⟨wZ,wC,hZ,nZ,hC,bC,nC⟩:=nbs w5 #[ag 0,ag 0,ag 0,ag 0,af,af] #[ag 0,ag 0,ag 7,ag 540,.slice p1 1 k1,.slice p2 0 k2] 28;have z0:=cr 0 nC rfl;have z3:=cr 3 nC rfl;have z4:=cr 4 nC rfl;have HB5:=aD (au HB4.o b5);have HB6:=aD (au HB5.o bC);clear b5 bC;dsimp only[anC,List.length];go_wp2_with(refine ay rfl 28 _ _ rfl _ _ rfl rfl _ _ nZ (by kernel_rfl) rfl (by simp[Value.oneCell']) ?_;rw[hC])
 go_ret;exact⟨rfl,HB6.o⟩
end Go.Proofs.YtjkilacmkbmmbaaGreatDoor
