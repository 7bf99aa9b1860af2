/- Texts of the proof. -/
import Derived.Test.YtjkilacmkbmmbaaGreatDoorPf32
set_option maxRecDepth 100000
set_option maxHeartbeats 8000000
namespace Go.Proofs.YtjkilacmkbmmbaaGreatDoor
open Go.Proofs.Tryz Go.RowKit Lx Vx Mx Msk
def anF (l:List (An×Value×Value)):List Value:=l.flatMap fun a=>(anC a.1 a.2.1 a.2.2).toList
structure yR (B:Nat)(w:World)(p:List An×Dk)(rv ev sv av asv:Value)(ss:List (Sv×Value))(aa:List (Ap×Value))(ls:List (An×Value×Value)):Prop where
 rules: ∃us,InR w rv us/\us.map (fun p=>p.1)=p.2.rules
 res:w.ownsRow B 9 1 ev p.2.res.length (p.2.res.map kC)
 svs:w.ownsRow B 35 4 sv ss.length (svF ss)
 sve:ss.map (fun p=>p.1)=p.2.svs
 svr: ∀q∈ss,fo w q.2 q.1.roles
 aps:w.ownsRow B 122 11 av aa.length (apF aa)
 ape:aa.map (fun p=>p.1)=p.2.aps
 apr: ∀q∈aa,dR w q.2 q.1.who
 ans:w.ownsRow B 28 6 asv ls.length (anF ls)
 ane:ls.map (fun p=>p.1)=p.1
 anr: ∀a∈ls,mn B w a.2.1 a.1.who/\dR w a.2.2 a.1.list
theorem yR.below {B:Nat}{w w':World}{p:List An×Dk}{rv ev sv av asv:Value}{ss:List (Sv×Value)}{aa:List (Ap×Value)}{ls:List (An×Value×Value)}(h:yR B w p rv ev sv av asv ss aa ls)(hb:ao w w'):yR B w' p rv ev sv av asv ss aa ls:=by
 have rk: ∀{e s n:Nat} {u:Value} {xs:List Value},w.ownsRow B e s u n xs->w'.ownsRow B e s u n xs:=fun hr=>bv hr fun b hq=>hb.block b (hr.lt b hq).2;obtain⟨us,h1,h2⟩:=h.rules;exact⟨⟨us,h1.below hb,h2⟩,rk h.res,rk h.svs,h.sve,fun q hq=>(h.svr q hq).below hb,rk h.aps,h.ape,fun q hq=>(h.apr q hq).below hb,rk h.ans,h.ane,fun a ha=>⟨⟨(h.anr a ha).1.1.below hb,(h.anr a ha).1.2⟩,(h.anr a ha).2.below hb⟩⟩
def PM (B:Nat)(ys:List Nat)(l:List Cm)(w:World)(e:Ending)(w':World):Prop:=ao w w'/\((60<l.length/\e= .returned (.tuple #[.agg #[af,af,af,af],af,ag 0,ag 5]))\/(l.length<=60/\ ∃(rv ev sv av asv:Value) (ss:List (Sv×Value)) (aa:List (Ap×Value)) (ls:List (An×Value×Value)),e= .returned (.tuple #[.agg #[rv,ev,sv,av],asv,ag (eZ dk0 l).2.runs,ag 0])/\Rob (fun k=>k∉ys) (fun u=>yR B u (eZ dk0 l) rv ev sv av asv ss aa ls) w'))
theorem Qh:(prog.info? 28).map (fun i=>(i.zero,i.size,i.bytes))=some (some (.agg #[ag 0,ag 0,ag 0,ag 0,af,af]),6,80):=by kernel_rfl
theorem PN:prog.underlying 70=some (.slice 28):=by kernel_rfl
theorem dsT:prog.underlying 69=some (.struct (prog.fieldsOf 69)):=by kernel_rfl
theorem Ed (c:Cm)(p q:Option Addr)(n m k j:Nat):(doC c (.slice p n k) (.slice q m j)).all (·.oneCell')=true:=by simp[doC,kC,Value.oneCell']
theorem AA {R:Ending->World->Prop}{a:Act}{w:World}(g:Nat)(c:Array Value)(x:Value)(n er:Int)(hc:c.size=4)(hd:a.defers=[])(h2:a.tmps.getD 2 undef=ab g 0)(h3:a.tmps.getD 3 undef=x)(h4:a.tmps.getD 4 undef=ag n)(h5:a.tmps.getD 5 undef=ag er)
  (hg:w.heap[g]? =ah c 69) (hR:R (.returned (.tuple #[.agg c,x,ag n,ag er])) w):bodyPost prog f21 R .ret a w:=by
 refine aU (v:= .tuple #[.agg c,x,ag n,ag er]) ?_ hd hR;have hf:f21.results= #[ResultVar.cell 2 69,ResultVar.tmp 3,ResultVar.tmp 4,ResultVar.tmp 5]:=rfl;have h2':a.tmps[2]?.getD undef=ab g 0:=by simpa using h2
 have h3':a.tmps[3]?.getD undef=x:=by simpa using h3
 have h4':a.tmps[4]?.getD undef=ag n:=by simpa using h4
 have h5':a.tmps[5]?.getD undef=ag er:=by simpa using h5
 have hv:=dP (P:=prog) w g 69 69 _ _ _ hg dsT rfl (by rw[hc];kernel_rfl);simp[results,h2',h3',h4',h5',asAddr,hv]
theorem IY {gD:Nat}{t:Tr}{L L':List Nat}(h: ∀b∈L',b∈L){q:Nat}(hq:Fx gD (t.ad L) q):Fx gD (t.ad L') q:=⟨hq.1,fun hx=>hq.2 (by
 rcases bO.1 hx with hx|hx
 ·exact fd _ (h q hx)
 ·exact eh _ hx)⟩
theorem dD.sub {B gD:Nat}{d:Dk}{t:Tr}{L L':List Nat}{w:World}(h:dD B gD d (t.ad L) w)(hs: ∀b∈L',b∈L):dD B gD d (t.ad L') w:=by
 obtain⟨h0,rv,cv,vv,kv,ss,aa,h⟩:=h;have mv: ∀{Φ:World->Prop},Rob (Fx gD (t.ad L)) Φ w->Rob (Fx gD (t.ad L')) Φ w:=fun hR=>hR.move (aA _) (fun _ _ _=>rfl) fun q _ hq=>IY hs hq
 exact⟨h0,rv,cv,vv,kv,ss,aa,h.blk,h.lo,mv h.rules,mv h.codes,mv h.vers,mv h.kept,h.res,h.svs,h.sve,fun p hp=>mv (h.svr p hp),h.aps,h.ape,fun p hp=>mv (h.apr p hp),fun q hq=>h.nx q (by
  rcases bO.1 hq with hq|hq
  ·exact fd _ (hs q hq)
  ·exact eh _ hq)⟩
theorem KW (B:Nat)(ys:List Nat)(cs:List (Cm×Value×Value))(v:Value)(w:World)(hB0:B<=w.heap.size)(h:mY w v cs)(hT:Tbs B w)(hok: ∀q∈cs,wf q.1)(hwh: ∀q∈cs,Rob (fun k=>k<B) (fun u=>dR u q.2.2 q.1.swho) w)(hys: ∀q∈ys,B<=q/\ ∃c T f,w.heap[q]? =some (.cells c T f)/\ ¬(T=208\/T=234\/T=143)):Calls prog 21 #[v] w (PM B ys (cs.map fun q=>q.1) w):=by
 obtain⟨wA,hA,bA,nA⟩:=nb w #[af,af,af,af] 69;have HR:=aD h;obtain⟨p,kc,rfl,hlen,hx0⟩:=h;obtain⟨n,hn⟩:=aq cs.length;have HN:=aD hn;have HOK:=aD hok;have HT:=aD hT;have HWH:=aD hwh;have HYS:=aD hys;have HBA:=aD bA;rw[hn]at hlen⊢;obtain⟨l,hl⟩:=aq (cs.map (fun q=>q.1));have hll:l.length=n:=by rw[<-hl,a8,hn]
 rw[hl];have HL:=aD hl;have HLL:=aD hll;clear hok hT hn hx0 hl hll hwh hys;by_cases h60:60<n
 ·have h60':(60:Int)<(n:Int):=by omega
  have HO:=aD (below_setRow bA (aA _) #[af,af,af,af]);have HRR:=aD (aJ _ _ _ #[af,af,af,af] _ _ nA);clear bA;go_enter func21,ntmps21;go_wp2_with(refine az rfl 69 _ _ rfl _ _ rfl rfl _ _ nA (by kernel_rfl) rfl (by simp[Value.oneCell']) ?_)
  exact AA w.heap.size _ _ 0 5 rfl rfl rfl rfl rfl rfl HRR.o ⟨HO.o,.inl ⟨by rw[HLL.o];exact h60,rfl⟩⟩
 ·have h60': ¬(60:Int)<(n:Int):=by omega
  obtain⟨wB,hB,bB,nB⟩:=nb wA #[af,af,af,af,af,af,ag 0,af,ag 0] 95;have hwA:w.heap.size<wA.heap.size:=(by rw[<-hA];simp);have hwB:wA.heap.size<wB.heap.size:=(by rw[<-hB];simp)
  have hd0:=OF (B:=B) (xs:=w.heap.size::ys) (by omega) (fun q hq=>by
   rcases bo.1 hq with rfl|hq
   ·omega
   ·obtain⟨h1,_,_,_,h2,_⟩:=HYS.o q hq;have:=aF h2;omega) nB
  have HD0:=aD hd0;have HBB:=aD (fF (au HBA.o bB) (bt bB nA));clear bA hd0 bB;go_enter func21,ntmps21;go_wp2_with fail;go_loopw [7,9,16] (fun v _ q wr=> ∃(j:Nat) (dd:Dk) (tt:Tr) (L:List Nat) (ls:List (An×Value×Value)),q=ag (j:Int)/\j<=n/\(tt.xs=w.heap.size::ys/\ ∀q,q<w.heap.size->Gx wA.heap.size tt q)/\dD B wA.heap.size dd (tt.ad L) wr/\(∀b,v.ownBlock=some b->b∈L)/\(∀b∈L,∃c,wr.heap[b]? =ah c 28)/\(ao w wr/\wr.heap[w.heap.size]? =ah #[af,af,af,af] 69)/\wr.ownsRow wA.heap.size 28 6 v j (anF ls)/\ls.length=j/\dd.given<=j/\(∀a∈ls,Rob (Fx wA.heap.size (tt.ad L)) (fun u=>mn B u a.2.1 a.1.who) wr/\Rob (Fx wA.heap.size (tt.ad L)) (fun u=>dR u a.2.2 a.1.list) wr)/\eZ dk0 l=(ls.map (fun a=>a.1)++(eZ dd (l.drop j)).1,(eZ dd (l.drop j)).2)) (fun _ _ q _=>n-(intOf q).toNat);case atStart=>exact⟨0,dk0,⟨af,af,af,w.heap.size::ys⟩,[],[],rfl,by omega,⟨rfl,fun q hq=>⟨by omega,nofun,nofun,nofun⟩⟩,HD0.o,(fun b hb=>by cases hb),(fun b hb=>by cases hb),HBB.o,bU _ _ _ _,rfl,fi _,(fun a ha=>by cases ha),rfl⟩
  case round=>
   obtain⟨j,dd,tt,L,ls,rfl,hj,⟨htx,hgx⟩,hd,hLb,hLt,⟨hbr,hzr⟩,hown,hlj,hgv,hrb,hX⟩:=hrel;have hj0:(0:Int)<=(j:Int):=(by omega);by_cases hjn:j<n
   ·have hjn':(j:Int)<(n:Int):=(by omega);obtain⟨⟨c,rv,wv⟩,hcj⟩: ∃q,cs[j]? =some q:=⟨cs[j]'(by rw[HN.o];exact hjn),ax _⟩
    have hlc:l[j]? =some c:=(by rw[<-HL.o,bg,hcj];rfl);rw[FP dd hlc]at hX;obtain⟨p',k',e',_,hcell⟩:=HR.o;injection e' with e1 e3 e2;subst e1 e2;obtain⟨hcm,g,o,hpe,hrg⟩:=hcell j _ hcj;subst hpe;dsimp only at hcm hrg;have hdok:=HOK.o _ (aL hcj);have hrg':=il hrg hbr;have hcm':=hcm.below hbr;obtain⟨pr,kr,rfl,_,_⟩:=hcm.roles;obtain⟨pw,kw,rfl,_,_⟩:=hcm.who;obtain⟨wZ,wC,hZ,nZ,hC,bC,nC⟩:=nbs wr #[ag 0,ag 0,ag 0,ag 0,.string ⟨#[]⟩,.string ⟨#[]⟩,ag 0,ag 0,ag 0,af,ag 0,ag 0,af] (doC c (.slice pr c.sv.roles.length kr) (.slice pw c.swho.length kw)) 37;have hdC:=hd.below bC;have hbC:=au hbr bC;have hzC:=bt bC hzr;have hTC:Tbs B wC:=fun W hW=>HT.o W ((hbC.mono hB0).trans hW)
    have hLC: ∀b∈L,∃c,wC.heap[b]? =ah c 28:=fun b hb=>by
     obtain⟨x,hx⟩:=hLt b hb;exact⟨x,bt bC hx⟩
    have cD:=hdok B wA.heap.size dd (tt.ad L) wC pr pw kr kw hdC hTC (aZ hB0 hbC.size) (by omega) (fun b hb=>by
     rcases bO.1 hb with hb|hb
     ·obtain⟨x,hx⟩:=hLC b hb;exact⟨x,_,_,hx,by decide⟩
     ·rw[htx]at hb;rcases bo.1 hb with rfl|hb
      ·exact⟨_,_,_,hzC,by decide⟩
      ·obtain⟨_,x,T,f,h2,h3⟩:=HYS.o b hb;exact⟨x,T,f,bt hbC h2,h3⟩) (hcm'.below bC) ((HWH.o _ (aL hcj)).below hbC)
    have hoC:=bv hown fun b hq=>bC.block b (hown.lt b hq).2
    have hgxL:(∀b∈L,Gx wA.heap.size (tt.ad L) b)/\Gx wA.heap.size (tt.ad L) w.heap.size:=by
     obtain⟨_,_,_,_,_,_,_,hm⟩:=hdC;exact⟨fun b hb=>(hm.nx b (fd _ hb)).2.2,(hm.nx _ (eh _ (by rw[htx];exact bf))).2.2⟩
    have HZC:=aD hzC;obtain⟨P,hP⟩:=aq (doP dd c);have HGV:Qo (P.2.given<=dd.given+1):=(by have:=IP dd c;rw[hP]at this;exact this);rw[hP]at cD hX
    have HX:Qo (eZ dk0 l=((ls.map (fun a=>a.1)++[P.1])++(eZ P.2 (l.drop (j+1))).1,(eZ P.2 (l.drop (j+1))).2)):=by
     show _=_;rw[hX,di];rfl
    have HRB:Qo (∀a∈ls,Rob (Fx wA.heap.size (tt.ad L)) (fun u=>mn B u a.2.1 a.1.who) wC/\Rob (Fx wA.heap.size (tt.ad L)) (fun u=>dR u a.2.2 a.1.list) wC):=fun a ha=>⟨(hrb a ha).1.below bC,(hrb a ha).2.below bC⟩
    have HBC:=aD hbC;have HDC:=aD hdC;have HOC:=aD hoC;have HGX:=aD hgxL;have HLB:=aD hLb;have HLC:=aD hLC;have HLJ:=aD hlj;have HTX:=aD htx;have HGX0:=aD hgx;have HDG:=aD hgv;clear hX hP hrb hbC hdC hoC hgxL hLb hLC hLt hlj htx hgv hdok hcm hcm' hrg hTC hcj hlc hcell e3 hown hd hbr bC hzr hzC hgx;go_wp2_with(first|(refine wpList_load_mid rfl 37 _ rfl g (o+j*13) rfl (doC c (.slice pr c.sv.roles.length kr) (.slice pw c.swho.length kw)).toList _ hrg' doT rfl (by kernel_rfl) ?_)|(refine az rfl 37 _ _ rfl _ _ rfl rfl _ _ nZ (by kernel_rfl) rfl (Ed _ _ _ _ _ _ _) ?_;rw[hC])|(refine aR rfl 37 _ rfl _ rfl _ _ _ _ nC doT rfl (by kernel_rfl) ?_))
    refine cD.mono ?_;rintro e w4 ⟨t',wv',lv,rfl,hd4,hk4,hw4,hl4⟩
    obtain⟨tt',htt,rfl⟩: ∃tt':Tr,tt'.xs=w.heap.size::ys/\t'=tt'.ad L:=⟨⟨t'.ev,t'.sv,t'.av,w.heap.size::ys⟩,rfl,by
     have e:=hk4.xs;obtain⟨a1,a2,a3,a4⟩:=t';dsimp only[Tr.ad]at e⊢;rw[e,HTX.o]⟩
    obtain⟨p5,c5,hv5,_,_⟩:=hw4.here.1;obtain⟨p6,c6,hv6,_,_⟩:=hl4.here;obtain⟨wE,hE,bE,nE⟩:=nb w4 #[ag P.1.err,ag P.1.num,ag P.1.day,ag P.1.min,wv',lv] 28;have hb4:ao w w4:=HBC.o.trans ⟨hk4.os,hk4.tape,hk4.output,hk4.size,fun q hq=>hk4.blk q (HGX0.o q hq) (aP hq HBC.o.size)⟩;have HG4:Qo (∀q,q<w.heap.size->Gx wA.heap.size tt' q):=fun q hq=>hk4.gx q (aP hq HBC.o.size) (HGX0.o q hq);have hbE:=au hb4 bE;have hoE:wE.ownsRow wA.heap.size 28 6 u7 j (anF ls):=bv HOC.o fun b hq=>(bE.block b (aP (HOC.o.lt b hq).2 hk4.size)).trans (hk4.blk b (HGX.o.1 b (HLB.o b hq)) (HOC.o.lt b hq).2);have hdE:=hd4.below bE;have HZE:=aD (bt bE ((hk4.blk _ HGX.o.2 (aF HZC.o)).trans HZC.o))
    have HLE:Qo (∀b∈L,∃c,wE.heap[b]? =ah c 28):=fun b hb=>by
     obtain⟨x,hx⟩:=HLC.o b hb;exact⟨x,bt bE ((hk4.blk b (HGX.o.1 b hb) (aF hx)).trans hx)⟩
    have HRE:Qo (∀a∈ls++[(P.1,wv',lv)],Rob (Fx wA.heap.size (tt'.ad L)) (fun u=>mn B u a.2.1 a.1.who) wE/\Rob (Fx wA.heap.size (tt'.ad L)) (fun u=>dR u a.2.2 a.1.list) wE):=fun a ha=>by
     rcases bO.1 ha with ha|ha
     ·exact⟨(hk4.rob (HRB.o a ha).1).below bE,(hk4.rob (HRB.o a ha).2).below bE⟩
     ·rw[bK.1 ha];exact⟨hw4.below bE,hl4.below bE⟩
    have HDE:=aD hdE
    have hsE:wA.heap.size<=wE.heap.size:=by
     obtain⟨_,_,_,_,_,_,_,hm⟩:=hdE;exact Nat.le_of_lt (aF hm.blk)
    have HBE:=aD hbE;have h1c:(#[ag P.1.err,ag P.1.num,ag P.1.day,ag P.1.min,wv',lv]:Array Value).all (·.oneCell')=true:=(by rw[hv5,hv6];simp[Value.oneCell']);unfold anC;subst hv5 hv6;clear cD hd4 hk4 hw4 hl4 hb4 hbE hdE bE HRB HOC HDC HBC HLC hrg' nZ nC hZ hC;go_wp2_with(at_builtin;refine ie rfl _ _ 70 28 rfl PN Qh rfl (by decide) (by decide) rfl hoE rfl nE rfl h1c (by omega) hsE ?_)
    rintro v2 w5 ho5 hgr hbl g5 c7 rfl;obtain⟨L',hd5,hL5,hL6,hmv⟩:=HDE.o.grown hoE HLB.o hgr ho5 hbl;have hb5:ao w w5/\w5.heap[w.heap.size]? =ah #[af,af,af,af] 69:=⟨HBE.o.grown hgr HBE.o.size (fun k hk=>by have:=(hoE.lt k hk).1;omega),(hgr.block _ (aF HZE.o) (fun e=>by have:=(hoE.lt _ e.symm).1;omega)).trans HZE.o⟩
    have HR5:Qo (∃(L:List Nat) (ls':List (An×Value×Value)),dD B wA.heap.size P.2 (tt'.ad L) w5/\(∀b,(Value.slice (some (ae g5 0)) (j+1) c7).ownBlock=some b->b∈L)/\(∀b∈L,∃c,w5.heap[b]? =ah c 28)/\(ao w w5/\w5.heap[w.heap.size]? =ah #[af,af,af,af] 69)/\w5.ownsRow wA.heap.size 28 6 (.slice (some (ae g5 0)) (j+1) c7) (j+1) (anF ls')/\ls'.length=j+1/\(∀a∈ls',Rob (Fx wA.heap.size (tt'.ad L)) (fun u=>mn B u a.2.1 a.1.who) w5/\Rob (Fx wA.heap.size (tt'.ad L)) (fun u=>dR u a.2.2 a.1.list) w5)/\ls'.map (fun a=>a.1)=ls.map (fun a=>a.1)++[P.1]):=by
     have hsb: ∀b∈[g5],b∈L':=fun b hb=>(by rw[bK.1 hb];exact hL5 g5 rfl);have hm2: ∀{Φ:World->Prop},Rob (Fx wA.heap.size (tt'.ad L)) Φ wE->Rob (Fx wA.heap.size (tt'.ad [g5])) Φ w5:=fun hR=>(hmv _ hR).move (aA _) (fun _ _ _=>rfl) fun q _ hq=>IY hsb hq;refine⟨[g5],ls++[_],hd5.sub hsb,fun b hb=>by rw[bK];exact(aK hb).symm,fun b hb=> ?_,hb5,?_,by rw[aN,HLJ.o];rfl,fun a ha=>⟨hm2 (HRE.o a ha).1,hm2 (HRE.o a ha).2⟩,by rw[dr];rfl⟩
     ·rw[bK.1 hb];rcases ho5.2 with⟨e,_⟩|⟨g',cap,cur,e,_,hg',_⟩
      ·cases e
      ·injection e with e1 _ _;injection e1 with e1;injection e1 with e1;subst e1;exact⟨cur,hg'⟩
     ·unfold anF;rw[eV];exact ho5
    clear hsE hoE ho5 hgr hbl nE hE hd5 hL5 hL6 hmv hb5 HDE HBE HLE HRE h1c;go_wp2_with fail;go_roundw
    case rel=>
     obtain⟨L,ls',q1,q2,q3,q4,q5,q6,q7,q8⟩:=HR5.o;exact⟨j+1,P.2,tt',L,ls',by go_num,by omega,⟨htt,HG4.o⟩,q1,q2,q3,q4,q5,q6,by have:=HGV.o;have:=HDG.o;omega,q7,by rw[q8];exact HX.o⟩
    case measure=>simp[intOf];omega
   ·have hjn': ¬(j:Int)<(n:Int):=(by omega);obtain rfl:n=j:=(by omega);rw[da (by rw[HLL.o];exact aA _)]at hX
    have HX:Qo (eZ dk0 l=(ls.map (fun a=>a.1),dd)):=by
     show _=_;rw[hX];simp[eZ]
    obtain⟨hok,rv,cv,vv,kv,ss,aa,hm⟩:=hd
    obtain⟨pr,kr,hrv⟩: ∃p c,rv= .slice p dd.rules.length c:=by
     obtain⟨us,h1,h2⟩:=hm.rules.here;obtain⟨p,c,e⟩:=h1.form;exact⟨p,c,by rw[e,<-h2,a8]⟩
    obtain⟨pe,ke,hev⟩:=c8 hm.res;obtain⟨ps,ks,hsv⟩:=c8 hm.svs;obtain⟨pa,ka,hav⟩:=c8 hm.aps;obtain⟨px,kx,hxv⟩:=c8 hown;have z0:=cr 0 hm.blk rfl;have z1:=cr (v:=tt.ev) 1 hm.blk rfl;have z2:=cr (v:=tt.sv) 2 hm.blk rfl;have z3:=cr (v:=tt.av) 3 hm.blk rfl;have z8:=cr 8 hm.blk rfl;obtain⟨n0,h0⟩:=aq dd.rules.length;obtain⟨n1,h1⟩:=aq dd.res.length;obtain⟨n2,h2⟩:=aq ss.length;obtain⟨n3,h3⟩:=aq aa.length;obtain⟨rn,hrn⟩:=aq dd.runs;have hev':tt.ev= .slice pe n1 ke:=(by rw[<-h1];exact hev);have hsv':tt.sv= .slice ps n2 ks:=(by rw[<-h2];exact hsv);have hav':tt.av= .slice pa n3 ka:=(by rw[<-h3];exact hav);rw[hrv,h0]at z0;rw[hev']at z1;rw[hsv']at z2;rw[hav']at z3;rw[hrn]at z8;subst hxv;have nAr:=hzr
    have HPY:Qo (∀W:World,wr.heap.size<=W.heap.size->(∀q,q<wr.heap.size->q≠w.heap.size->q∉ys->W.heap[q]? =wr.heap[q]?)->yR B W (eZ dk0 l) (.slice pr n0 kr) (.slice pe n1 ke) (.slice ps n2 ks) (.slice pa n3 ka) (.slice px n kx) ss aa ls):=fun W hs hW=>by
     have mv: ∀{Φ:World->Prop},Rob (Fx wA.heap.size (tt.ad L)) Φ wr->Φ W:=fun hR=>hR W hs fun q hq hl=>hW q hl (fun e=>hq.2 (eh _ (by rw[htx,e];exact bf))) fun e=>hq.2 (eh _ (by rw[htx];exact bp _ e));have hnx:=fun q (hq:q∈w.heap.size::ys)=>(hm.nx q (eh _ (by rw[htx];exact hq))).2.2;have rk: ∀{B e s k:Nat} {u:Value} {xs:List Value},wr.ownsRow B e s u k xs->(∀q∈w.heap.size::ys,some q≠u.ownBlock)->W.ownsRow B e s u k xs:=fun hr hn=>bv hr fun b hb=>hW b (hr.lt b hb).2 (fun e=>hn b (by rw[e];exact bf) hb.symm) fun e=>hn b (bp _ e) hb.symm
     have hoW:=rk hown fun q hq e=>by
      have h1:=(hown.lt _ e.symm).1;rcases bo.1 hq with rfl|hq
      ·omega
      ·obtain⟨_,_,_,_,h2,_⟩:=HYS.o q hq;have:=aF h2;omega
     rw[HX.o];refine⟨?_,?_,?_,hm.sve,fun q hq=>mv (hm.svr q hq),?_,hm.ape,fun q hq=>mv (hm.apr q hq),⟨hoW.1.trans (by rw[hlj]),?_⟩,rfl,fun a ha=>⟨mv (hrb a ha).1,mv (hrb a ha).2⟩⟩
     ·rw[<-h0,<-hrv];exact mv hm.rules
     ·rw[<-hev'];exact rk hm.res fun q hq=>(hnx q hq).2.1
     ·rw[<-hsv'];exact rk hm.svs fun q hq=>(hnx q hq).2.2.1
     ·rw[<-hav'];exact rk hm.aps fun q hq=>(hnx q hq).2.2.2
     ·rw[hlj];exact hoW.2.imp id fun⟨g,c,cu,q1,q2,q3⟩=>⟨g,c,cu,q1,by omega,q3⟩
    have HRN:Qo ((eZ dk0 l).2.runs=rn):=(by show _=_;rw[HX.o];exact hrn);have HBR:=aD hbr;have hwr:=aF nAr;clear hX hm hown hev hsv hav hrv h0 h1 h2 h3 hrn hev' hsv' hav' hrb hLb hLt hbr hok htx hlj hgv hzr;go_upto_region 10 with fail;refine dq (fun M _ W=>(M 6=false->ao wr W)/\(M 6=true-> ∃W0,ao wr W0/\Below W0.heap.size (W0.setRow w.heap.size #[.slice pr n0 kr,.slice pe n1 ke,.slice ps n2 ks,.slice pa n3 ka]) W)) [kn 26 (ab wA.heap.size 0),kn 27 (.agg #[.slice pr n0 kr,.slice pe n1 ke,.slice ps n2 ks,.slice pa n3 ka]),kn 28 (.slice px n kx),kn 29 (ab wA.heap.size 7),kn 30 (ab wA.heap.size 8),kn 31 (ag rn),nk,kn 3 (.slice px n kx),kn 4 (ag rn),kn 5 (ag 0)] (fun _=>⟨fun _=>(aG _ _).drew,(fun h=>by cases h)⟩) (fun _ _ _ _ hb h=>⟨fun c=>(h.1 c).trans (hb.mono (h.1 c).size),fun c=> ?_⟩) (by kernel_rfl) ?_ ?_
    ·obtain⟨W0,h1,h2⟩:=h.2 c;exact⟨W0,h1,h2.trans (hb.mono (by have:=h2.size;simpa using this))⟩
    ·rintro M φ W hJ hc F l' hl hF;have HJ:=aD hJ;clear hc hJ;simp only[kn,nk,dM,aQ,aV,Act.put,aB,aI,aH]at hl;subst hl;simp only[dc,Nat.reduceAdd]at hF;dsimp only[kn,nk,dB,ea,dQ,Act.put];and_intros;all_goals first|exact trivial|intro hw hn hm K hK
     all_goals try (go_simp;with_reducible exact hK _ _ ⟨rfl,aG _ _⟩)
     ·have hb:=HJ.o.1 (hn 6 _ rfl (by kernel_rfl));have z0:=aj hb z0;have z1:=aj hb z1;have z2:=aj hb z2;have z3:=aj hb z3;go_simp;exact hK _ _ ⟨rfl,aG _ _⟩
     ·have z8:W.cell? (ae wA.heap.size 8)=some (ag rn):=by
       cases hq:M 6 with
       |false=>exact((HJ.o.1 hq).cell (bT z8)).trans z8
       |true=>
        obtain⟨W0,h1,h2⟩:=HJ.o.2 hq;have hz:=aj h1 z8;exact(dK ((h2.block _ (bT hz)).trans (aT W0 w.heap.size wA.heap.size _ (by omega)))).trans hz
      go_simp;exact hK _ _ ⟨rfl,aG _ _⟩
     ·have hb:=HJ.o.1 hm;have nW:=bt hb nAr;show Oper.wp _ _ _ _ _ _;refine lG (ops:= #[]) rfl (az rfl 69 _ _ rfl _ #[.slice pr n0 kr,.slice pe n1 ke,.slice ps n2 ks,.slice pa n3 ka] (by simp[Act.eval,hF]) (by simp[Act.eval,hF]) _ _ nW (by kernel_rfl) rfl (by simp[Value.oneCell']) ?_);exact⟨rfl,hK undef _ ⟨trivial,fun c=>by simp at c,fun _=>⟨W,hb,aG _ _⟩⟩⟩
    ·rintro M φ W hM hJ;obtain⟨W0,h1,h2⟩:=hJ.2 (hM 6 (by decide) rfl);simp only[kn,nk,dO,aQ,aV,Act.put,aB,aI,aH];have m0:=bt h1 nAr;have m2:=aJ _ _ _ #[.slice pr n0 kr,.slice pe n1 ke,.slice ps n2 ks,.slice pa n3 ka] _ _ m0;have hsz:W0.heap.size<=W.heap.size:=(by have:=h2.size;simpa using this);have hW: ∀q,q<wr.heap.size->q≠w.heap.size->W.heap[q]? =wr.heap[q]? :=fun q hl hq=>(h2.block q (aP hl h1.size)).trans ((aT W0 w.heap.size q _ hq).trans (h1.block q hl));have HF1:=aD ((h2.block _ (aF m0)).trans m2);have HF2:=aD ((below_setRow (au HBR.o h1) (aA _) #[.slice pr n0 kr,.slice pe n1 ke,.slice ps n2 ks,.slice pa n3 ka]).trans (h2.mono (Nat.le_of_lt (aF m0))));have HF3:Qo (Rob (fun k=>k∉ys) (fun u=>yR B u (eZ dk0 l) (.slice pr n0 kr) (.slice pe n1 ke) (.slice ps n2 ks) (.slice pa n3 ka) (.slice px n kx) ss aa ls) W):=fun u hu ha=>HPY.o u (aZ h1.size (aZ hsz hu)) fun q hl hq hy=>(ha q hy (aP hl (aZ h1.size hsz))).trans (hW q hl hq);clear hM hJ h1 h2 m0 m2 hsz hW z0 z1 z2 z3 z8 nAr;go_wp2_with fail;exact AA w.heap.size #[.slice pr n0 kr,.slice pe n1 ke,.slice ps n2 ks,.slice pa n3 ka] _ rn 0 rfl rfl rfl rfl rfl rfl HF1.o ⟨HF2.o,.inr ⟨by rw[HLL.o];omega,_,_,_,_,_,_,_,_,by rw[HRN.o];rfl,HF3.o⟩⟩
section
theorem kS {R:Ending->World->Prop}{a:Act}{w:World}(g:Nat)(c:Array Value)(er:Int)(hc:c.size=11)(hd:a.defers=[])(h2:a.tmps.getD 8 undef=ab g 0)(h3:a.tmps.getD 9 undef=ag er)
  (hg:w.heap[g]? =ah c 122) (hR:R (.returned (.tuple #[.agg c,ag er])) w):bodyPost prog f57 R .ret a w:=by
 refine aU (v:= .tuple #[.agg c,ag er]) ?_ hd hR;have hf:f57.results= #[ResultVar.cell 8 122,ResultVar.tmp 9]:=rfl;have h2':a.tmps[8]?.getD undef=ab g 0:=by simpa using h2
 have h3':a.tmps[9]?.getD undef=ag er:=by simpa using h3
 have hv:=dP (P:=prog) w g 122 122 _ _ _ hg apT rfl (by rw[hc];kernel_rfl);simp[results,h2',h3',asAddr,hv]
theorem CD {who:List Int}{roles:List (List Int)}{n:Int}(hp: ∀p∈roles,xD p n)(hl:who.length=roles.length): ∀(m i:Nat),i+m=who.length->rj who roles m i=0-> ∀k,i<=k-> ∀r,who[k]? =some r->0<=r/\r<n
 |0,i,h,_,k,hk,r,hr=>by have:=(aE.1 hr).1;omega
 |m+1,i,h,hw,k,hk,r,hr=>by
  unfold rj at hw;split at hw
  ·cases hw
  ·rename_i h1;split at hw
   ·cases hw
   ·by_cases e:k=i
    ·subst e;have h2:who.getD k 0=r:=(by simp[List.getD,hr]);obtain⟨p,hpk⟩: ∃p,roles[k]? =some p:=⟨roles[k]'(by omega),ax _⟩
     have h3:roles.getD k []=p:=(by simp[List.getD,hpk]);rw[h2,h3]at h1;exact(hp p (aL hpk)).bd r (gd h1)
    ·exact CD hp hl m (i+1) (by omega) hw k (by omega) r hr
theorem Ee {who:List Int}{s:Sv}{n:Int}(hs:ef s n=0)(h:jJ who s.roles=0):(∀r∈who,0<=r/\r<n)/\who.length<=4:=by
 have ho:=sq hs;unfold jJ at h;split at h
 ·cases h
 ·rename_i hl;have hl':who.length=s.roles.length:=gd hl;refine⟨fun r hr=> ?_,by have:=ho.r4;omega⟩;obtain⟨k,hk⟩:=List.getElem?_of_mem hr;exact CD ho.pool hl' who.length 0 (by omega) h k (dF _) r hk
section
variable {B gD:Nat} {d:Dk} {t:Tr} {w W:World}
theorem qv {g3 g5:Nat}(hd:dD B gD d ((t.add g3).add g5) W)(hk:Kd gD t t w W)(h5:w.heap.size<=g5)(c:Array Value):dD B gD d t (W.setRow g5 c)/\Kd gD t t w (W.setRow g5 c):=
 ⟨(hd.closed (by simp) fun k _ hne=>aT _ _ _ _ hne).closed (aA _) fun _ _ _=>rfl,hk.closed h5 rfl rfl rfl (by simp) fun k _ hne=>aT _ _ _ _ hne⟩
def LA (B gD:Nat)(p:(Ap×Int)×Dk)(t:Tr)(w:World)(e:Ending)(w':World):Prop:= ∃sv,e= .returned (.tuple #[.agg (apC (p.1.1,sv)),ag p.1.2])/\dD B gD p.2 t w'/\Kd gD t t w w'/\Rob (Fx gD t) (fun u=>dR u sv p.1.1.who) w'
structure PlJ (w5:World)(g3:Nat)(a:Ap)(sv:Value)(fr to:Int)(M:Nat->Bool)(W:World):Prop where
 kp:bl g3 w5 W
 ap: ∃x y,W.heap[g3]? =ah (apC ({a with fr:=x,to:=y},sv)) 122/\(M 14=true->x=fr)/\(M 16=true->y=to)
structure ClJ (wX:World)(g3:Nat)(day min:Int)(who:List Int)(nw:Nat)(M:Nat->Bool)(φ:Nat->Value)(W:World):Prop where
 bel:M 9=false->ao wX W
 cl:M 6=true-> ∃p c,φ 76= .slice p nw c/\(M 9=false->W.ownsRow wX.heap.size 3 1 (.slice p nw c) nw (df who))
 bu:M 7=true->φ 77= .agg #[ag day,ag min,φ 76]
 fin:M 9=true-> ∃p c W0,ao wX W0/\W0.ownsRow wX.heap.size 3 1 (.slice p nw c) nw (df who)/\Below W0.heap.size (W0.setCells g3 8 [ag day,ag min,.slice p nw c]) W
theorem FY (num:Int)(a:Ap)(pa pw:Option Addr)(ca cw:Nat)(day min:Int)(who:List Int)(w:World)(h:dD B gD d t w)(hs:0<=a.sv/\a.sv<d.svs.length)(hm:0<=a.bef/\a.bef<=1440/\0<=a.aft/\a.aft<=1440/\0<=a.len/\a.len<=1440)(hw:Rob (Fx gD t) (fun u=>dR u (.slice pw who.length cw) who) w)(hcw:who.length<=cw):Calls prog 57 #[ab gD 0,ag num,.agg (apC (a,.slice pa a.who.length ca)),.agg #[ag day,ag min,.slice pw who.length cw]] w (LA B gD (fB d num a day min who) t w):=by
 obtain⟨w1,h1,b1,n1⟩:=nb w #[ab gD 0] 115;obtain⟨w2,h2,b2,n2⟩:=nb w1 #[ag num] 3;obtain⟨w3,h3,b3,n3⟩:=nb w2 (apC (a,.slice pa a.who.length ca)) 122;obtain⟨w4,h4,b4,n4⟩:=nb w3 #[ag day,ag min,.slice pw who.length cw] 26;obtain⟨w5,h5,b5,n5⟩:=nb w4 #[ag 0,ag 0,ag 0,ag 0,ag 0,ag 0,ag 0,ag 0,ag 0,ag 0,af] 122;have s1:w1.heap.size=w.heap.size+1:=by rw[<-h1];simp
 have s2:w2.heap.size=w1.heap.size+1:=by rw[<-h2];simp
 have s3:w3.heap.size=w2.heap.size+1:=by rw[<-h3];simp
 have s4:w4.heap.size=w3.heap.size+1:=by rw[<-h4];simp
 have s5:w5.heap.size=w4.heap.size+1:=by rw[<-h5];simp
 have b02:=au b1 b2;have hd2:=h.below b02;have hd3:=hd2.opened (q:=w2.heap.size) (aA _) s3 b3;have hd5:=(hd3.below b4).opened (q:=w4.heap.size) (aA _) s5 b5;have b45:=au b4 b5;have b35:=au b3 b45;have b25:=au b2 b35;have b05:=au b1 b25;have m1:=bt b25 n1;have m2:=bt b35 n2;have m3:=bt b45 n3;have m4:=bt b5 n4;have HD5:=aD hd5;have HK5:Qo (Kd gD t t w w5):=Kd.of b05;have H0:=aD h;have HG:Qo (∀q,w.heap.size<=q->Gx gD t q):=fun q hq=>(h.fx (.inr hq)).1;have HW:=aD hw;have cN1:=rO day 146097 w5;have cN2:=rO min 1440 w5;obtain⟨c1,hb1⟩:=aq (isN day 146097);obtain⟨c2,hb2⟩:=aq (isN min 1440);rw[hb1]at cN1;rw[hb2]at cN2;have HB1:=aD hb1;have HB2:=aD hb2;have y0:w5.cell? (ae w3.heap.size 0)=some (ag day):=cr 0 m4 rfl;have y1:w5.cell? (ae w3.heap.size 1)=some (ag min):=cr 1 m4 rfl;have HS:=aD hs;have HM:=aD hm;have hww:w.heap.size<w1.heap.size:=by omega
 have hw12:w1.heap.size<w2.heap.size:=by omega
 have hw23:w2.heap.size<w3.heap.size:=by omega
 have hw34:w3.heap.size<w4.heap.size:=by omega
 have hw45:w4.heap.size<w5.heap.size:=by omega
 clear h hd2 hd3 hd5 b02 b45 b35 b25 b05 b1 b2 b3 b4 b5 s1 s2 s3 s4 s5 n1 n2 n3 n4 hb1 hb2 hs hm hw;go_enter func57,ntmps57;go_wp2_with fail;refine cN1.mono ?_;rintro e wa ⟨rfl,hwa⟩;subst hwa;clear cN1;cases c1 with
 |false=>
  have HP:Qo (fB d num a day min who=((ap0,3),d)):=(by show _=_;unfold fB;rw[ay (.inl HB1.o)]);clear cN2;have HO:=aD (qv HD5.o HK5.o (by omega) #[ag 0,ag 0,ag 0,ag 0,ag 0,ag 0,ag 0,ag 0,ag 0,ag 0,af]);have HR:=aD (aJ _ _ _ #[ag 0,ag 0,ag 0,ag 0,ag 0,ag 0,ag 0,ag 0,ag 0,ag 0,af] _ _ n5);go_wp2_with(refine az rfl 122 _ _ rfl _ _ rfl rfl _ _ n5 (by kernel_rfl) rfl (by simp[Value.oneCell']) ?_)
  refine kS w4.heap.size _ 3 rfl rfl rfl rfl HR.o ?_;rw[HP.o];exact⟨_,rfl,HO.o.1,HO.o.2,eE _ _⟩
 |true=>
  go_wp2_with fail;refine cN2.mono ?_;rintro e wb ⟨rfl,hwb⟩;subst hwb;clear cN2;cases c2 with
  |false=>
   have HP:Qo (fB d num a day min who=((ap0,3),d)):=(by show _=_;unfold fB;rw[ay (.inr HB2.o)]);have HO:=aD (qv HD5.o HK5.o (by omega) #[ag 0,ag 0,ag 0,ag 0,ag 0,ag 0,ag 0,ag 0,ag 0,ag 0,af]);have HR:=aD (aJ _ _ _ #[ag 0,ag 0,ag 0,ag 0,ag 0,ag 0,ag 0,ag 0,ag 0,ag 0,af] _ _ n5);go_wp2_with(refine az rfl 122 _ _ rfl _ _ rfl rfl _ _ n5 (by kernel_rfl) rfl (by simp[Value.oneCell']) ?_)
   refine kS w4.heap.size _ 3 rfl rfl rfl rfl HR.o ?_;rw[HP.o];exact⟨_,rfl,HO.o.1,HO.o.2,eE _ _⟩
  |true=>
   have hmin:0<=min/\min<1440:=(by have:=HB2.o;simpa[isN] using this);have hm:=HM.o;have q1:IntKind.i64.wrap (min-a.bef)=min-a.bef:=(by rw[bq];omega);have q2:IntKind.i64.wrap (min+a.len)=min+a.len:=(by rw[bq];omega);have q3:IntKind.i64.wrap (min+a.len+a.aft)=min+a.len+a.aft:=(by rw[bq];omega);clear hm;go_upto_region 3 with fail
   refine dq (fun M _ W=>PlJ wb w2.heap.size a (.slice pa a.who.length ca) (min-a.bef) (min+a.len+a.aft) M W) [kn 23 (ab w3.heap.size 1),kn 24 (ag min),kn 25 (ab w2.heap.size 5),kn 26 (ag a.bef),kn 27 (ag (min-a.bef)),kn 28 (ab w3.heap.size 1),kn 29 (ag min),kn 30 (ab w2.heap.size 7),kn 31 (ag a.len),kn 32 (ag (min+a.len)),kn 33 (ab w2.heap.size 6),kn 34 (ag a.aft),kn 35 (ag (min+a.len+a.aft)),kn 36 (ab w2.heap.size 2),nk,kn 37 (ab w2.heap.size 3),nk] (fun _=>⟨bl.of_below (aG _ _).drew,a.fr,a.to,m3,(fun h=>by cases h),(fun h=>by cases h)⟩) (fun _ _ _ _ hb h=>⟨h.kp.trans (bl.of_below hb),by
    obtain⟨x,y,e1,e2,e3⟩:=h.ap;exact⟨x,y,bt hb e1,e2,e3⟩⟩) (by kernel_rfl) ?_ ?_
   ·rintro M φ W hJ hc F l hl hF;obtain⟨x,y,eA,ex,ey⟩:=hJ.ap;have z5:W.cell? (ae w2.heap.size 5)=some (ag a.bef):=cr 5 eA rfl;have z6:W.cell? (ae w2.heap.size 6)=some (ag a.aft):=cr 6 eA rfl;have z7:W.cell? (ae w2.heap.size 7)=some (ag a.len):=cr 7 eA rfl;have z2:W.cell? (ae w2.heap.size 2)=some (ag x):=cr 2 eA rfl;have z3:W.cell? (ae w2.heap.size 3)=some (ag y):=cr 3 eA rfl;have x2:=bj _ _ 2 _ _ eA;have x3:=bj _ _ 3 _ _ eA;have z1:W.cell? (ae w3.heap.size 1)=some (ag min):=cr 1 ((hJ.kp.block _ (aF m4) (fun e=>by have:=aK e;omega)).trans m4) rfl;have HA:=aD (fF eA (fF ex ey));have HK:=aD hJ.kp;clear hc hJ eA ex ey y0 y1 m1 m2 m3 m4 n5;simp only[kn,nk,dM,aQ,aV,Act.put,aB,aI,aH]at hl;subst hl;simp only[dc,Nat.reduceAdd]at hF;dsimp only[kn,nk,dB,ea,dQ,Act.put];and_intros;all_goals first|exact trivial|intro hw hn hm K hK
    all_goals try (go_simp;with_reducible exact hK _ _ ⟨rfl,aG _ _⟩)
    ·go_simp;refine hK undef _ ⟨trivial,HK.o.trans (ii W _ 2 (ag (min-a.bef))),min-a.bef,y,aW W w2.heap.size 2 _ _ (ag (min-a.bef)) HA.o.1,fun _=>rfl,fun c=>HA.o.2.2 (by rw[orZ (by decide)]at c;exact c)⟩
    ·go_simp;refine hK undef _ ⟨trivial,HK.o.trans (ii W _ 3 (ag (min+a.len+a.aft))),x,min+a.len+a.aft,aW W w2.heap.size 3 _ _ (ag (min+a.len+a.aft)) HA.o.1,fun c=>HA.o.2.1 (by rw[orZ (by decide)]at c;exact c),fun _=>rfl⟩
   ·rintro M φ w6 hM hJ;simp only[kn,nk,dO,aQ,aV,Act.put,aB,aI,aH];obtain⟨x,y,eA,ex,ey⟩:=hJ.ap;obtain rfl:=ex (hM 14 (by decide) rfl);obtain rfl:=ey (hM 16 (by decide) rfl);have hkp:=hJ.kp;obtain⟨fr,hfr⟩:=aq (min-a.bef);obtain⟨to,hto⟩:=aq (min+a.len+a.aft);rw[hfr,hto]at eA⊢;have HFR:=aD hfr;have HTO:=aD hto;have hne: ∀{q:Nat},q≠w2.heap.size->some q≠some w2.heap.size:=fun h e=>h (aK e);have HD6:=aD (HD5.o.wr hkp.size (fun k hl hx=>hkp.block k hl (hne fun e=>hx (by rw[e];exact bp _ bf))));have HK6:Qo (Kd gD t t w w6):=⟨hkp.os.trans HK5.o.os,hkp.tape.trans HK5.o.tape,hkp.output.trans HK5.o.output,aZ HK5.o.size hkp.size,fun q hq hl=>(hkp.block q (by omega) (hne (by omega))).trans (HK5.o.blk q hq hl),fun _ _ h=>h,rfl⟩
    have k1:=(hkp.block _ (aF m1) (hne (by omega))).trans m1;have k2:=(hkp.block _ (aF m2) (hne (by omega))).trans m2;have k4:=(hkp.block _ (aF m4) (hne (by omega))).trans m4;have k5:=(hkp.block _ (aF n5) (hne (by omega))).trans n5;have u2:w6.cell? (ae w2.heap.size 2)=some (ag fr):=cr 2 eA rfl;have u3:w6.cell? (ae w2.heap.size 3)=some (ag to):=cr 3 eA rfl;have HSZ:=aD hkp.size;clear hM hJ hkp m1 m2 m3 m4 n5 y0 y1 hfr hto q1 q2 q3 h1 h2 h3 h4 h5 ex ey
    have HB12:Qo (¬(isN day 146097=false\/isN min 1440=false)):=by
     show¬_;rw[HB1.o,HB2.o];simp
    by_cases h4:fr<0
    ·have HP:Qo (fB d num a day min who=((ap0,3),d)):=(by show _=_;unfold fB;rw[aw HB12.o,HFR.o,HTO.o,ay (.inl h4)]);have HO:=aD (qv HD6.o HK6.o (by omega) #[ag 0,ag 0,ag 0,ag 0,ag 0,ag 0,ag 0,ag 0,ag 0,ag 0,af]);have HR:=aD (aJ _ _ _ #[ag 0,ag 0,ag 0,ag 0,ag 0,ag 0,ag 0,ag 0,ag 0,ag 0,af] _ _ k5);go_wp2_with(refine az rfl 122 _ _ rfl _ _ rfl rfl _ _ k5 (by kernel_rfl) rfl (by simp[Value.oneCell']) ?_)
     refine kS w4.heap.size _ 3 rfl rfl rfl rfl HR.o ?_;rw[HP.o];exact⟨_,rfl,HO.o.1,HO.o.2,eE _ _⟩
    ·by_cases h5:1440<to
     ·have HP:Qo (fB d num a day min who=((ap0,3),d)):=(by show _=_;unfold fB;rw[aw HB12.o,HFR.o,HTO.o,ay (.inr h5)]);have HO:=aD (qv HD6.o HK6.o (by omega) #[ag 0,ag 0,ag 0,ag 0,ag 0,ag 0,ag 0,ag 0,ag 0,ag 0,af]);have HR:=aD (aJ _ _ _ #[ag 0,ag 0,ag 0,ag 0,ag 0,ag 0,ag 0,ag 0,ag 0,ag 0,af] _ _ k5);go_wp2_with(refine az rfl 122 _ _ rfl _ _ rfl rfl _ _ k5 (by kernel_rfl) rfl (by simp[Value.oneCell']) ?_)
      refine kS w4.heap.size _ 3 rfl rfl rfl rfl HR.o ?_;rw[HP.o];exact⟨_,rfl,HO.o.1,HO.o.2,eE _ _⟩
     ·have h45:Qo (¬(fr<0\/1440<to)):=fun h=>(by omega);have hd6:=HD6.o;obtain⟨hok,rv,cv,vv,kv,ss,aa,hmm⟩:=hd6;obtain⟨k,hk⟩: ∃k:Nat,a.sv=(k:Int):=⟨a.sv.toNat,by have:=HS.o;omega⟩
      have hks:k<ss.length:=by
       have h1:ss.length=d.svs.length:=(by rw[<-hmm.sve,a8]);have:=HS.o;omega
      obtain⟨⟨s,sv⟩,hsk⟩: ∃q,ss[k]? =some q:=⟨ss[k],ax hks⟩
      have hsd:d.svs[k]? =some s:=(by rw[<-hmm.sve,bg,hsk];rfl);have hrb:=(hmm.svr _ (aL hsk)).here;obtain⟨gs,cs',e1,_,hrg⟩:=lD vY hmm.svs rfl hsk;obtain⟨ns,hns⟩:=aq ss.length;rw[hns]at e1;have z2:w6.cell? (ae gD 2)=some (.slice (some (ae gs 0)) ns cs'):=(cr (v:=t.sv) 2 hmm.blk rfl).trans (congrArg some e1);obtain⟨pr,crr,hse,_,_⟩:=id hrb;dsimp only at hse hrb;subst hse;have zr:w6.cell? (ae gs (k*4+3))=some (.slice pr s.roles.length crr):=hrg 3 _ rfl;have u4:w6.cell? (ae w2.heap.size 4)=some (ag (k:Int)):=(cr 4 eA rfl).trans (by rw[hk];rfl);have hkn:(k:Int)<(ns:Int):=(by omega);have hk0:(0:Int)<=(k:Int):=(by omega);have HSV:Qo (d.svs.getD a.sv.toNat sv0=s):=(by show _=_;rw[hk];simp[List.getD,hsd]);have HWS:=aD (hok.sv s (aL hsd));have hwho:=(HK6.o.rob HW.o).here;obtain⟨er,her⟩:=aq (jJ who s.roles);have HER:=aD her;have HRB:=aD hrb;have HWH:=aD hwho;obtain⟨nr,hnr⟩:=aq s.roles.length;obtain⟨nw,hnw⟩:=aq who.length;have HNW:=aD hnw;have HNR:=aD hnr;rw[hnr]at zr;rw[hnw]at k4 hcw⊢;have u0:w6.cell? (ae w3.heap.size 2)=some (.slice pw nw cw):=cr 2 k4 rfl;have u1:w6.cell? (ae w.heap.size 0)=some (ab gD 0):=cr 0 k1 rfl;clear hok hmm hk hks hsk hsd hrb hrg e1 hns hwho hnr hnw;go_upto_region 6 with fail;refine dq (fun _ _ W=>ao w6 W) [kn 47 (ab w3.heap.size 2),kn 48 (.slice pw nw cw),kn 49 (ab gD 0),kn 50 (ab gD 0),kn 51 (ab gD 0),kn 52 (ab gD 2),kn 53 (.slice (some (ae gs 0)) ns cs'),kn 54 (ab w2.heap.size 4),kn 55 (ag (k:Int)),kn 56 (ab gs (k*4)),kn 57 (ab gs (k*4+3)),kn 58 (.slice pr nr crr),kn 59 (ag er),kn 10 (ag er)] (fun _=>(aG _ _).drew) (fun _ _ _ _ hb h=>au h hb) (by kernel_rfl) ?_ ?_
      ·rintro M φ W hb _ F l hl hF;have zz:=fun(q:Addr) (x:Value) (h:w6.cell? q=some x)=>aj hb h;have u0:=zz _ _ u0;have u1:=zz _ _ u1;have u4:=zz _ _ u4;have z2:=zz _ _ z2;have zr:=zz _ _ zr;have cW:=Cg who s.roles pw cw (.slice pr s.roles.length crr) W (HWH.o.below hb) (by rw[HNW.o];exact hcw) (HRB.o.below hb);rw[her,HNW.o,HNR.o]at cW;clear zz her k1 k2 k4 k5 eA u2 u3;simp only[kn,dM,aQ,aV,Act.put,aB,aI,aH]at hl;subst hl;simp only[dc,Nat.reduceAdd]at hF;dsimp only[kn,dB,ea,dQ,Act.put];and_intros;all_goals first|exact trivial|intro hw hn hm K hK
       all_goals try (go_simp;with_reducible exact hK _ _ ⟨rfl,aG _ _⟩)
       go_simp;refine cW.mono ?_;rintro r' W' ⟨rfl,hb'⟩;exact hK _ _ ⟨rfl,hb'⟩
      ·rintro M φ w7 hM hb;simp only[kn,dO,aQ,aV,Act.put,aB,aI,aH];have HD7:=aD (HD6.o.below hb);have HK7:=aD (HK6.o.trans (Kd.of hb));have j1:=bt hb k1;have j2:=bt hb k2;have j4:=bt hb k4;have j5:=bt hb k5;have j3:=bt hb eA;have v0:w7.cell? (ae w3.heap.size 2)=some (.slice pw nw cw):=cr 2 j4 rfl;have hs7:wb.heap.size<=w7.heap.size:=aZ HSZ.o hb.size;clear hM hb k1 k2 k4 k5 eA u0 u1 u2 u3 u4 z2 zr her;by_cases h0:er=0
       ·subst h0;have hwr:=Ee HWS.o HER.o;have eF: ∀args w,(callFunc 97 args).run prog w= .ok (.enter 97 args) w:=fun _ _=>rfl;have hL: ∀q,w.heap.size<=q-> ∀W,Kd gD t t w7 W-> ∀{c:Array Value} {T:TypeId},w7.heap[q]? =ah c T->W.heap[q]? =ah c T:=fun q hq W hW c T hc=>(hW.blk q (HG.o q hq) (aF hc)).trans hc
        have cC:=oX (oy day num fr to) (fun s W=>dD B gD s ((t.add w2.heap.size).add w4.heap.size) W/\Kd gD t t w7 W/\Cor d s) 97 #[ab w.heap.size 0,ab w3.heap.size 0,ab w1.heap.size 0,ab w2.heap.size 0] who (.slice pw who.length cw) d w7 eF ⟨HD7.o,Kd.of (aG _ _),Cor.refl d⟩ (fun s W hW=>((HK7.o.trans hW.2.1).rob HW.o).here) (fun x hx s W hW=>by
         have hsr:s.res=d.res:=(by obtain⟨_,_,rfl⟩:=hW.2.2;rfl);refine(KJ (a:={a with fr:=fr,to:=to}) W hW.1 (hwr.1 x hx).1 (by rw[hsr];exact(hwr.1 x hx).2) (hL _ (aA _) W hW.2.1 j1) (hL _ (by omega) W hW.2.1 j4) (hL _ (by omega) W hW.2.1 j2) (hL _ (by omega) W hW.2.1 j3) (HG.o _ (by omega)) (HG.o _ (by omega)) (HG.o _ (by omega)) (HG.o _ (aA _))).mono fun e w' hh=>⟨hh.1,hh.2.1,hW.2.1.trans ⟨hh.2.2.os,hh.2.2.tape,hh.2.2.output,hh.2.2.size,hh.2.2.blk,fun _ _ h=>h,rfl⟩,hW.2.2.trans (qM s x day num)⟩)
        rw[HNW.o]at cC;have HL:=aD hL;obtain⟨bb,hbb⟩:=aq ((jx (oy day num fr to) who d).1);obtain⟨de,hde⟩:=aq ((jx (oy day num fr to) who d).2);rw[hbb,hde]at cC
        have HPP:Qo (fB d num a day min who=if bb=true then((ap0,10),de) else(({a with fr:=fr,to:=to,day:=day,min:=min,who:=who},0),de)):=by
         show _=_;unfold fB;rw[aw HB12.o,HFR.o,HTO.o,aw h45.o,HSV.o,HER.o,aw (by simp)];simp only[hbb,hde]
        clear hbb hde hL;go_wp2_with fail;refine cC.mono ?_;rintro e w8 ⟨rfl,hd8,hk8,hco⟩;have i4:=HL.o _ (by omega) w8 hk8 j4;have i3:=HL.o _ (by omega) w8 hk8 j3;have i5:=HL.o _ (by omega) w8 hk8 j5;have HD8:=aD hd8;have HK8:=aD (HK7.o.trans hk8);have hs8:wb.heap.size<=w8.heap.size:=aZ hs7 hk8.size;clear cC hd8 hk8 hco v0 j1 j2 j3 j4 j5 HL;cases bb with
        |true=>
         have HP:Qo (fB d num a day min who=((ap0,10),de)):=HPP.o;have HO:=aD (qv HD8.o HK8.o (by omega) #[ag 0,ag 0,ag 0,ag 0,ag 0,ag 0,ag 0,ag 0,ag 0,ag 0,af]);have HR:=aD (aJ _ _ _ #[ag 0,ag 0,ag 0,ag 0,ag 0,ag 0,ag 0,ag 0,ag 0,ag 0,af] _ _ i5);go_wp2_with(refine az rfl 122 _ _ rfl _ _ rfl rfl _ _ i5 (by kernel_rfl) rfl (by simp[Value.oneCell']) ?_)
         refine kS w4.heap.size _ 10 rfl rfl rfl rfl HR.o ?_;rw[HP.o];exact⟨_,rfl,HO.o.1,HO.o.2,eE _ _⟩
        |false=>
         have HP:Qo (fB d num a day min who=(({a with fr:=fr,to:=to,day:=day,min:=min,who:=who},0),de)):=HPP.o;clear HPP;have v0:w8.cell? (ae w3.heap.size 0)=some (ag day):=cr 0 i4 rfl;have v1:w8.cell? (ae w3.heap.size 1)=some (ag min):=cr 1 i4 rfl;have v2:w8.cell? (ae w3.heap.size 2)=some (.slice pw nw cw):=cr 2 i4 rfl;have HW8:=aD ((HK8.o.rob HW.o).here);go_upto_region 12 with fail
         refine dq (ClJ w8 w2.heap.size day min who nw) [kn 70 (ab w3.heap.size 0),kn 71 (ag day),kn 72 (ab w3.heap.size 1),kn 73 (ag min),kn 74 (ab w3.heap.size 2),kn 75 (.slice pw nw cw),td 76,td 77,kn 78 (ab w2.heap.size 8),nk] (fun _=>⟨fun _=>(aG _ _).drew,(fun h=>by cases h),(fun h=>by cases h),(fun h=>by cases h)⟩) (fun _ _ _ _ hb h=>⟨fun c=>(h.bel c).trans (hb.mono (h.bel c).size),fun c=>by
          obtain⟨p,k,e1,e2⟩:=h.cl c;exact⟨p,k,e1,fun c'=>bv (e2 c') fun b hq=>hb.block b ((e2 c').lt b hq).2⟩,h.bu,fun c=>by
          obtain⟨p,k,W0,e1,e2,e3⟩:=h.fin c;exact⟨p,k,W0,e1,e2,e3.trans (hb.mono (by have:=e3.size;rw[(fR _ _ _ _).2.2.2]at this;exact this))⟩⟩) (by kernel_rfl) ?_ ?_
         ·rintro M φ W hJ hc F l hl hF;have c76:M 7=true->M 6=true:=fun h=>hc 7 _ rfl h ⟨6,.data⟩ (by simp) rfl rfl;have c97:M 9=true->M 7=true:=fun h=>hc 9 _ rfl h ⟨7,.data⟩ (by simp) rfl rfl;have HC:=aD (fF c76 c97);have HJ:=aD hJ;clear hc c76 c97 hJ;simp only[kn,td,nk,dM,aQ,aV,Act.put,aB,aI,aH]at hl;subst hl;simp only[dc,Nat.reduceAdd]at hF;dsimp only[kn,td,nk,dB,ea,dQ,Act.put];and_intros;all_goals first|exact trivial|intro hw hn hm K hK
          all_goals try (go_simp;with_reducible exact hK _ _ ⟨rfl,aG _ _⟩)
          ·have hb:=HJ.o.bel (iE HC.o.2 (hn 7 _ rfl (by kernel_rfl)));have v0:=aj hb v0;go_simp;exact hK _ _ ⟨rfl,aG _ _⟩
          ·have hb:=HJ.o.bel (iE HC.o.2 (hn 7 _ rfl (by kernel_rfl)));have v1:=aj hb v1;go_simp;exact hK _ _ ⟨rfl,aG _ _⟩
          ·have hb:=HJ.o.bel (iE HC.o.2 (iE HC.o.1 (hn 6 _ rfl (by kernel_rfl))));have v2:=aj hb v2;go_simp;exact hK _ _ ⟨rfl,aG _ _⟩
          ·have h7:=iE HC.o.1 hm;have h9:=iE HC.o.2 h7;have hb:=HJ.o.bel h9;have cL:=xT who (.slice pw who.length cw) W (HW8.o.below hb) (by have:=hwr.2;omega);rw[HNW.o]at cL;clear hw hn;go_simp;refine cL.mono ?_;rintro r' W' ⟨v',rfl,ho',hb'⟩;obtain⟨p9,c9,rfl⟩:=c8 ho';exact hK _ _ ⟨trivial,fun _=>au hb hb',fun _=>⟨p9,c9,dI,fun _=>⟨ho'.1,ho'.2.imp id fun⟨g,c,cu,q1,q2,q3⟩=>⟨g,c,cu,q1,aZ hb.size q2,q3⟩⟩⟩,fun c=>lC h7 c (by decide),fun c=>lC h9 c (by decide)⟩
          ·have h6:=hw ⟨6,.data⟩ (by simp) rfl rfl;have h9:=iE HC.o.2 hm;have hb:=HJ.o.bel h9;obtain⟨p9,c9,e76,ho⟩:=HJ.o.cl h6;rw[e76]at hF;clear hw hn;go_simp;exact hK _ _ ⟨trivial,fun _=>hb,fun _=>⟨p9,c9,(dx (by decide)).trans e76,fun _=>ho h9⟩,fun _=>by rw[dI,dx (by decide),e76],fun c=>lC h9 c (by decide)⟩
          ·have h7:=hw ⟨7,.data⟩ (by simp) rfl rfl;have hb:=HJ.o.bel hm;obtain⟨p9,c9,e76,ho⟩:=HJ.o.cl (HC.o.1 h7);have e77:=HJ.o.bu h7;rw[e76]at e77;have i3W:=bt hb i3
           have hth:W.there w2.heap.size 8 3:=fun k hk=>by
            refine⟨?_,bj _ _ _ _ _ i3W⟩;rw[aX _ _ _ _ _ _ i3W,fk (by rw[Ce];omega)];rfl
           show Oper.wp _ _ _ _ _ _;refine wp_store_mid 26 _ _ rfl w2.heap.size 8 #[ag day,ag min,.slice p9 nw c9] (by simp[Act.eval,hF]) (by simp[Act.eval,hF,e77]) hth (by kernel_rfl) (by simp[Value.oneCell']) ?_;refine hK undef _ ⟨trivial,fun c=>by simp at c,fun _=>⟨p9,c9,e76,fun c=>by simp at c⟩,fun _=>by rw[e76];exact e77,fun _=>⟨p9,c9,W,hb,ho hm,aG _ _⟩⟩
         ·rintro M φ W hM hJ;obtain⟨p9,c9,W0,h1,ho,h2⟩:=hJ.fin (hM 9 (by decide) rfl);simp only[kn,td,nk,dO,aQ,aV,Act.put,aB,aI,aH];have f3:=tO [ag day,ag min,.slice p9 nw c9] 8 W0 _ (bt h1 i3);have hsz:=(fR w2.heap.size [ag day,ag min,.slice p9 nw c9] 8 W0).2.2.2;have h2':=h2.mono (Nat.le_of_eq hsz);have g3W:W.heap[w2.heap.size]? =ah (apC ({a with fr:=fr,to:=to,day:=day,min:=min,who:=who},.slice p9 nw c9)) 122:=bt h2' f3;have hot: ∀q,q≠w2.heap.size->(W0.setCells w2.heap.size 8 [ag day,ag min,.slice p9 nw c9]).heap[q]? =W0.heap[q]? :=fun q hq=>fY w2.heap.size _ _ W0 q hq;have hW: ∀q,q<w8.heap.size->q≠w2.heap.size->W.heap[q]? =w8.heap[q]? :=fun q hl hq=>(h2.block q (aP hl h1.size)).trans ((hot q hq).trans (h1.block q hl));have hsW:w8.heap.size<=W.heap.size:=(by have:=h2.size;rw[hsz]at this;exact aZ h1.size this);have i5W:=(hW _ (aF i5) (by omega)).trans i5;have HDW:=aD (HD8.o.wr hsW fun q hl hx=>hW q hl fun e=>hx (by rw[e];exact bp _ bf));have HKW:Qo (Kd gD t t w W):=⟨h2.os.trans ((fR _ _ _ _).1.trans (h1.os.trans HK8.o.os)),h2.tape.trans ((fR _ _ _ _).2.1.trans (h1.tape.trans HK8.o.tape)),h2.output.trans ((fR _ _ _ _).2.2.1.trans (h1.output.trans HK8.o.output)),aZ HK8.o.size hsW,fun q hq hl=>(hW q (by omega) (by omega)).trans (HK8.o.blk q hq hl),fun _ _ h=>h,rfl⟩
          obtain⟨cA,hcA⟩:=aq (apC ({a with fr:=fr,to:=to,day:=day,min:=min,who:=who},.slice p9 nw c9));have HO:=aD (qv HDW.o HKW.o (by omega) cA)
          have HRI:Qo (Rob (Fx gD t) (fun u=>dR u (.slice p9 nw c9) who) (W.setRow w4.heap.size cA)):=by
           refine Rob.imp (Rob.move (P:=fun q=>w8.heap.size<=q) (Φ:=fun u=>u.ownsRow w8.heap.size 3 1 (.slice p9 nw c9) nw (df who)) (w:=W0) (fun u _ ha=>bv ho fun b hb=>ha b (ho.lt b hb).1 (ho.lt b hb).2) (by have:=h2.size;rw[hsz]at this;simpa using this) (fun q hq hl=>(aT _ _ _ _ (by omega)).trans ((h2.block q hl).trans (hot q (by omega)))) fun q _ hq=>H0.o.fx (.inr (by omega))) fun u hu=>oQ (by rw[HNW.o];exact hu) (by have:=hwr.2;omega)
          have HR:=aD (aJ _ _ _ cA _ _ i5W);have h1c:cA.all (·.oneCell')=true:=(by rw[<-hcA];exact mx _ _ _ _);have hc11:cA.size=11:=(by rw[<-hcA];rfl);rw[hcA]at g3W;have HCA:=aD hcA;clear hM hJ h1 h2 h2' ho f3 hot hW hsz hsW i3 i4 i5 v0 v1 v2 hcA;go_wp2_with(first|(refine aR rfl 122 _ rfl _ rfl _ _ _ _ g3W apT rfl (by rw[hc11];kernel_rfl) ?_)|(refine az rfl 122 _ _ rfl _ _ rfl rfl _ _ i5W (by rw[hc11];kernel_rfl) (by rw[hc11];rfl) h1c ?_))
          refine kS w4.heap.size cA 0 hc11 rfl rfl rfl HR.o ?_;rw[HP.o];exact⟨.slice p9 nw c9,by rw[HCA.o],HO.o.1,HO.o.2,HRI.o⟩
       ·have h0':(er !=0)=true:=(by simpa using h0);have HP:Qo (fB d num a day min who=((ap0,er),d)):=(by show _=_;unfold fB;rw[aw HB12.o,HFR.o,HTO.o,aw h45.o,HSV.o,HER.o,ay h0]);clear h0;have HO:=aD (qv HD7.o HK7.o (by omega) #[ag 0,ag 0,ag 0,ag 0,ag 0,ag 0,ag 0,ag 0,ag 0,ag 0,af]);have HR:=aD (aJ _ _ _ #[ag 0,ag 0,ag 0,ag 0,ag 0,ag 0,ag 0,ag 0,ag 0,ag 0,af] _ _ j5);go_wp2_with(refine az rfl 122 _ _ rfl _ _ rfl rfl _ _ j5 (by kernel_rfl) rfl (by simp[Value.oneCell']) ?_)
        refine kS w4.heap.size _ er rfl rfl rfl rfl HR.o ?_;rw[HP.o];exact⟨_,rfl,HO.o.1,HO.o.2,eE _ _⟩
end
end
end Go.Proofs.YtjkilacmkbmmbaaGreatDoor
