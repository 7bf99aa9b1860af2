/- Texts of the proof. -/
import Derived.Test.YtjkilacmkbmmbaaGreatDoorPt35
set_option maxRecDepth 100000
set_option maxHeartbeats 8000000
namespace Go.Proofs.YtjkilacmkbmmbaaGreatDoor
open Go.Proofs.Tryz Go.RowKit Lx Vx Mx Msk
section
def oE (a b:Int):Ex:=⟨3,a,b,[],[]⟩
def fM (a b:Int):M:=fun i=>(decide (a<=(i:Int))&&decide ((i:Int)<b))&&decide (i<1440)
def oL (a b:Int):List Ru:=[([97],oE a b)]
theorem Mw {a b:Int}:fg (oL a b) ([97],oE a b)=[]:=by
 have:nms (oE a b)=[]:=by simp[oE,kh,iZ]
 unfold fg;dsimp only;rw[this];rfl
theorem PL {a b:Int}:ik (oL a b)=fun _=>[]:=by
 funext i;match i with
 |0=>exact(lO rfl).trans (by rw[Mw];rfl)
 |i+1=>rfl
section
variable {a b:Int} (h:0<=a/\a<b/\b<=1440)
 include h
theorem Oj:fH (oL a b)=(0,0):=by
 have s1:(shapeP (oE a b) 1 0).1=0:=by
  have:aloneP (oE a b)=0:=(by simp[aloneP,oE,kidsP,rangeP,h]);rw[gU,aw (by decide),aw (by simp[this])];rfl
 unfold fH oL iI ruleP;rw[s1];rfl
theorem G7:di (oL a b)=(0,0):=by
 refine xR (by rw[Oj h]) ?_ ?_ ?_
 ·intro i hi;match i,hi with
  |0,_=>rfl
  |i+1,hi=>exact absurd hi (by show¬(i+1<1);omega)
 ·intro i hi;match i,hi with
  |0,_=>show decide (-1∈fg (oL a b) ([97],oE a b))=false;rw[Mw];decide
  |i+1,hi=>exact absurd hi (by show¬(i+1<1);omega)
 ·intro i hi;unfold lk3;rw[PL];match i,hi with
  |0,_=>rfl
  |i+1,hi=>exact absurd hi (by show¬(i+1<1);omega)
theorem My:gL (oL a b)=(0,0):=by
 have hs:stdE (oE a b)=true:=by rw[mg];rfl
 have c0:(ff (oL a b)).getD 0 []=[⟨1,0,0,0,rs (mnE (oE a b)) 1440⟩]:=by rw[kH (u:=([97],oE a b)) rfl,lh hs]
 have m0:fo (oL a b) 0=(1,1):=by
  rw[oO (by rw[G7 h]) (by show 0<1;decide)];unfold li;rw[c0];rfl
 unfold gL;rw[G7 h,aw (by decide)]
 have:iC (fo (oL a b)) (oL a b).length 0= -1:=by
  show iC (fo (oL a b)) 1 0= -1;unfold iC;rw[m0,aw (by decide)];rfl
 rw[this,aw (by decide)]
theorem PM (wk:Int->Bool)(day:Int):meanP (oL a b) wk day 0=fM a b:=by
 rw[kG (by rw[G7 h]) (u:=([97],oE a b)) rfl,fL];rfl
end
end
theorem s8 {a b len m:Int}(h:0<=a/\a<b/\b<=1440)(hl:1<=len):SP (fM a b) len m↔a<=m/\m+len<=b:=by
 constructor
 ·rintro⟨p,q,c⟩;have h1:=c m.toNat (by omega) (by omega);have h2:=c (m+len-1).toNat (by omega) (by omega);unfold fM at h1 h2;simp only[bj,bq]at h1 h2;omega
 ·rintro⟨p,q⟩;refine⟨by omega,by omega,fun i h1 h2=> ?_⟩;unfold fM;simp only[bj,bq];omega
theorem J5 {a b len day:Int}(h:0<=a/\a<b/\b<=1440)(hl:1<=len/\len<=1440){days:Nat}(h0:0<=day)(h1:day+days<=146097)(hd:1<=days/\days<=30):(ph (c1 (oL a b) len []) 0 day days).1=if b-a<len then noA 11 else⟨0,0,day,a,[0],[]⟩:=by
 have hF: ∀j:Nat,fS (c1 (oL a b) len []) 0 (day+(j:Int)) (-1)=pg (fM a b) (inl []):=fun j=>by
  rw[xl (k:=0) (by rfl) len,PM h]
 rcases(uB (oL a b) [] hl (day:=day) (days:=days) h0 h1 hd).2 with⟨d,m,_,e,e1,e2,e3⟩|⟨e,e1⟩
 ·rw[hF,lC,s8 h hl.1]at e1;have e4:=e2 a (by rw[hF,lC,s8 h hl.1];omega)
  have hd0:d=0:=by
   match d,e3 with
   |0,_=>rfl
   |d+1,e3=>exact absurd (by rw[hF,lC,s8 h hl.1];exact e1) (e3 0 (by omega) m)
  subst hd0;rw[aw (by omega),e];have:m=a:=(by omega);subst this;congr 1;omega
 ·have:=e1 0 (by omega) a;rw[hF,lC,s8 h hl.1]at this;rw[ax (by omega)];exact e
def aS:List UInt8:=[114,117,108,101,32,97,32,61,32,48,57,58,48,48,45,49,55,58,48,48,59]
theorem PN:jn aS=(0,oL 540 1020):=by kernel_rfl
theorem PO:fN aS=(0,oL 540 1020):=by
 unfold fN;rw[PN,aw (by decide),My (by decide)]
def PP:Sv:=⟨60,0,0,[[0]]⟩
def dA (aps:List Ap)(k:List Vx.Kp)(n:Int):Dk:=⟨oL 540 1020,[[97]],[PP],aps,[1],1,k,n⟩
def anF (l:List (An×Value×Value)):List Value:=l.flatMap fun a=>(anC a.1 a.2.1 a.2.2).toList
structure zU (B:Nat)(w:World)(p:List An×Dk)(rv ev sv av asv:Value)(ss:List (Sv×Value))(aa:List (Ap×Value))(ls:List (An×Value×Value)):Prop where
 rules: ∃us,InR w rv us/\us.map (fun p=>p.1)=p.2.rules
 res:w.ownsRow B 9 1 ev p.2.res.length (p.2.res.map kS)
 svs:w.ownsRow B 35 4 sv ss.length (svF ss)
 sve:ss.map (fun p=>p.1)=p.2.svs
 svr: ∀q∈ss,fT w q.2 q.1.roles
 aps:w.ownsRow B 122 11 av aa.length (apF aa)
 ape:aa.map (fun p=>p.1)=p.2.aps
 apr: ∀q∈aa,d8 w q.2 q.1.who
 ans:w.ownsRow B 28 6 asv ls.length (anF ls)
 ane:ls.map (fun p=>p.1)=p.1
 anr: ∀a∈ls,d8 w a.2.1 a.1.who/\d8 w a.2.2 a.1.list
theorem zU.below {B:Nat}{w w':World}{p:List An×Dk}{rv ev sv av asv:Value}{ss:List (Sv×Value)}{aa:List (Ap×Value)}{ls:List (An×Value×Value)}(h:zU B w p rv ev sv av asv ss aa ls)(hb:ao w w'):zU B w' p rv ev sv av asv ss aa ls:=by
 have rk: ∀{e s n:Nat} {u:Value} {xs:List Value},w.ownsRow B e s u n xs->w'.ownsRow B e s u n xs:=fun hr=>bv hr fun b hq=>hb.block b (hr.lt b hq).2;obtain⟨us,h1,h2⟩:=h.rules;exact⟨⟨us,h1.below hb,h2⟩,rk h.res,rk h.svs,h.sve,fun q hq=>(h.svr q hq).below hb,rk h.aps,h.ape,fun q hq=>(h.apr q hq).below hb,rk h.ans,h.ane,fun a ha=>⟨(h.anr a ha).1.below hb,(h.anr a ha).2.below hb⟩⟩
def QW (B:Nat)(ys:List Nat)(l:List Cm)(w:World)(e:Ending)(w':World):Prop:=ao w w'/\((60<l.length/\e= .returned (.tuple #[.agg #[af,af,af,af],af,ag 0,ag 5]))\/(l.length<=60/\ ∃(rv ev sv av asv:Value) (ss:List (Sv×Value)) (aa:List (Ap×Value)) (ls:List (An×Value×Value)),e= .returned (.tuple #[.agg #[rv,ev,sv,av],asv,ag (fw dk0 l).2.runs,ag 0])/\Rob (fun k=>k∉ys) (fun u=>zU B u (fw dk0 l) rv ev sv av asv ss aa ls) w'))
theorem RD:(prog.info? 28).map (fun i=>(i.zero,i.size,i.bytes))=some (some (.agg #[ag 0,ag 0,ag 0,ag 0,af,af]),6,80):=by kernel_rfl
theorem QX:prog.underlying 70=some (.slice 28):=by kernel_rfl
theorem dsT:prog.underlying 69=some (.struct (prog.fieldsOf 69)):=by kernel_rfl
theorem Fm (c:Cm)(p q:Option Addr)(n m k j:Nat):(doC c (.slice p n k) (.slice q m j)).all (·.oneCell')=true:=by simp[doC,kS,Value.oneCell']
theorem Bj {R:Ending->World->Prop}{a:Act}{w:World}(g:Nat)(c:Array Value)(x:Value)(n er:Int)(hc:c.size=4)(hd:a.defers=[])(h2:a.tmps.getD 2 undef=ab g 0)(h3:a.tmps.getD 3 undef=x)(h4:a.tmps.getD 4 undef=ag n)(h5:a.tmps.getD 5 undef=ag er)
  (hg:w.heap[g]? =ah c 69) (hR:R (.returned (.tuple #[.agg c,x,ag n,ag er])) w):bodyPost prog f21 R .ret a w:=by
 refine aV (v:= .tuple #[.agg c,x,ag n,ag er]) ?_ hd hR;have hf:f21.results= #[ResultVar.cell 2 69,ResultVar.tmp 3,ResultVar.tmp 4,ResultVar.tmp 5]:=rfl;have h2':a.tmps[2]?.getD undef=ab g 0:=by simpa using h2
 have h3':a.tmps[3]?.getD undef=x:=by simpa using h3
 have h4':a.tmps[4]?.getD undef=ag n:=by simpa using h4
 have h5':a.tmps[5]?.getD undef=ag er:=by simpa using h5
 have hv:=eo (P:=prog) w g 69 69 _ _ _ hg dsT rfl (by rw[hc];kernel_rfl);simp[results,h2',h3',h4',h5',asAddr,hv]
theorem J6 {gD:Nat}{t:Tr}{L L':List Nat}(h: ∀b∈L',b∈L){q:Nat}(hq:Fx gD (t.ad L) q):Fx gD (t.ad L') q:=⟨hq.1,fun hx=>hq.2 (by
 rcases cY.1 hx with hx|hx
 ·exact fG _ (h q hx)
 ·exact eR _ hx)⟩
theorem dO.sub {B gD:Nat}{d:Dk}{t:Tr}{L L':List Nat}{w:World}(h:dO B gD d (t.ad L) w)(hs: ∀b∈L',b∈L):dO B gD d (t.ad L') w:=by
 obtain⟨h0,rv,cv,vv,kv,ss,aa,h⟩:=h;have mv: ∀{Φ:World->Prop},Rob (Fx gD (t.ad L)) Φ w->Rob (Fx gD (t.ad L')) Φ w:=fun hR=>hR.move (aA _) (fun _ _ _=>rfl) fun q _ hq=>J6 hs hq
 exact⟨h0,rv,cv,vv,kv,ss,aa,h.blk,h.lo,mv h.rules,mv h.codes,mv h.vers,mv h.kept,h.res,h.svs,h.sve,fun p hp=>mv (h.svr p hp),h.aps,h.ape,fun p hp=>mv (h.apr p hp),fun q hq=>h.nx q (by
  rcases cY.1 hq with hq|hq
  ·exact fG _ (hs q hq)
  ·exact eR _ hq)⟩
theorem L4 (B:Nat)(ys:List Nat)(cs:List (Cm×Value×Value))(v:Value)(w:World)(hB0:B<=w.heap.size)(h:qh w v cs)(hT:Tbs B w)(hok: ∀q∈cs,LX q.1)(hwh: ∀q∈cs,Rob (fun k=>k<B) (fun u=>d8 u q.2.2 q.1.swho) w)(hys: ∀q∈ys,B<=q/\ ∃c T f,w.heap[q]? =some (.cells c T f)/\ ¬(T=208\/T=234\/T=143)):Calls prog 21 #[v] w (QW B ys (cs.map fun q=>q.1) w):=by
 obtain⟨wA,hA,bA,nA⟩:=nb w #[af,af,af,af] 69;have HR:=aF h;obtain⟨p,kc,rfl,hlen,hx0⟩:=h;obtain⟨n,hn⟩:=aq cs.length;have HN:=aF hn;have HOK:=aF hok;have HT:=aF hT;have HWH:=aF hwh;have HYS:=aF hys;have HBA:=aF bA;rw[hn]at hlen⊢;obtain⟨l,hl⟩:=aq (cs.map (fun q=>q.1));have hll:l.length=n:=by rw[<-hl,bf,hn]
 rw[hl];have HL:=aF hl;have HLL:=aF hll;clear hok hT hn hx0 hl hll hwh hys;by_cases h60:60<n
 ·have h60':(60:Int)<(n:Int):=by omega
  have HO:=aF (below_setRow bA (aA _) #[af,af,af,af]);have HRR:=aF (aL _ _ _ #[af,af,af,af] _ _ nA);clear bA;go_enter func21,ntmps21;go_wp2_with(refine az rfl 69 _ _ rfl _ _ rfl rfl _ _ nA (by kernel_rfl) rfl (by simp[Value.oneCell']) ?_)
  exact Bj w.heap.size _ _ 0 5 rfl rfl rfl rfl rfl rfl HRR.o ⟨HO.o,.inl ⟨by rw[HLL.o];exact h60,rfl⟩⟩
 ·have h60': ¬(60:Int)<(n:Int):=by omega
  obtain⟨wB,hB,bB,nB⟩:=nb wA #[af,af,af,af,af,af,ag 0,af,ag 0] 95;have hwA:w.heap.size<wA.heap.size:=(by rw[<-hA];simp);have hwB:wA.heap.size<wB.heap.size:=(by rw[<-hB];simp)
  have hd0:=PE (B:=B) (xs:=w.heap.size::ys) (by omega) (fun q hq=>by
   rcases bp.1 hq with rfl|hq
   ·omega
   ·obtain⟨h1,_,_,_,h2,_⟩:=HYS.o q hq;have:=aG h2;omega) nB
  have HD0:=aF hd0;have HBB:=aF (jL (au HBA.o bB) (bt bB nA));clear bA hd0 bB;go_enter func21,ntmps21;go_wp2_with fail;go_loopw [7,9,16] (fun v _ q wr=> ∃(j:Nat) (dd:Dk) (tt:Tr) (L:List Nat) (ls:List (An×Value×Value)),q=ag (j:Int)/\j<=n/\(tt.xs=w.heap.size::ys/\ ∀q,q<w.heap.size->Gx wA.heap.size tt q)/\dO B wA.heap.size dd (tt.ad L) wr/\(∀b,v.ownBlock=some b->b∈L)/\(∀b∈L,∃c,wr.heap[b]? =ah c 28)/\(ao w wr/\wr.heap[w.heap.size]? =ah #[af,af,af,af] 69)/\wr.ownsRow wA.heap.size 28 6 v j (anF ls)/\ls.length=j/\dd.given<=j/\(∀a∈ls,Rob (Fx wA.heap.size (tt.ad L)) (fun u=>d8 u a.2.1 a.1.who) wr/\Rob (Fx wA.heap.size (tt.ad L)) (fun u=>d8 u a.2.2 a.1.list) wr)/\fw dk0 l=(ls.map (fun a=>a.1)++(fw dd (l.drop j)).1,(fw dd (l.drop j)).2)) (fun _ _ q _=>n-(intOf q).toNat);case atStart=>exact⟨0,dk0,⟨af,af,af,w.heap.size::ys⟩,[],[],rfl,by omega,⟨rfl,fun q hq=>⟨by omega,nofun,nofun,nofun⟩⟩,HD0.o,(fun b hb=>by cases hb),(fun b hb=>by cases hb),HBB.o,da _ _ _ _,rfl,fJ _,(fun a ha=>by cases ha),rfl⟩
  case round=>
   obtain⟨j,dd,tt,L,ls,rfl,hj,⟨htx,hgx⟩,hd,hLb,hLt,⟨hbr,hzr⟩,hown,hlj,hgv,hrb,hX⟩:=hrel;have hj0:(0:Int)<=(j:Int):=(by omega);by_cases hjn:j<n
   ·have hjn':(j:Int)<(n:Int):=(by omega);obtain⟨⟨c,rv,wv⟩,hcj⟩: ∃q,cs[j]? =some q:=⟨cs[j]'(by rw[HN.o];exact hjn),ay _⟩
    have hlc:l[j]? =some c:=(by rw[<-HL.o,bc,hcj];rfl);rw[GZ dd hlc]at hX;obtain⟨p',k',e',_,hcell⟩:=HR.o;injection e' with e1 e3 e2;subst e1 e2;obtain⟨hcm,g,o,hpe,hrg⟩:=hcell j _ hcj;subst hpe;dsimp only at hcm hrg;have hdok:=HOK.o _ (aN hcj);have hrg':=iK hrg hbr;have hcm':=hcm.below hbr;obtain⟨pr,kr,rfl,_,_⟩:=hcm.roles;obtain⟨pw,kw,rfl,_,_⟩:=hcm.who;obtain⟨wZ,wC,hZ,nZ,hC,bC,nC⟩:=nbs wr #[ag 0,ag 0,ag 0,ag 0,.string ⟨#[]⟩,.string ⟨#[]⟩,ag 0,ag 0,ag 0,af,ag 0,ag 0,af] (doC c (.slice pr c.sv.roles.length kr) (.slice pw c.swho.length kw)) 37;have hdC:=hd.below bC;have hbC:=au hbr bC;have hzC:=bt bC hzr;have hTC:Tbs B wC:=fun W hW=>HT.o W ((hbC.mono hB0).trans hW)
    have hLC: ∀b∈L,∃c,wC.heap[b]? =ah c 28:=fun b hb=>by
     obtain⟨x,hx⟩:=hLt b hb;exact⟨x,bt bC hx⟩
    have cD:=hdok B wA.heap.size dd (tt.ad L) wC pr pw kr kw hdC hTC (bg hB0 hbC.size) (by omega) (fun b hb=>by
     rcases cY.1 hb with hb|hb
     ·obtain⟨x,hx⟩:=hLC b hb;exact⟨x,_,_,hx,by decide⟩
     ·rw[htx]at hb;rcases bp.1 hb with rfl|hb
      ·exact⟨_,_,_,hzC,by decide⟩
      ·obtain⟨_,x,T,f,h2,h3⟩:=HYS.o b hb;exact⟨x,T,f,bt hbC h2,h3⟩) (hcm'.below bC) ((HWH.o _ (aN hcj)).below hbC)
    have hoC:=bv hown fun b hq=>bC.block b (hown.lt b hq).2
    have hgxL:(∀b∈L,Gx wA.heap.size (tt.ad L) b)/\Gx wA.heap.size (tt.ad L) w.heap.size:=by
     obtain⟨_,_,_,_,_,_,_,hm⟩:=hdC;exact⟨fun b hb=>(hm.nx b (fG _ hb)).2.2,(hm.nx _ (eR _ (by rw[htx];exact bo))).2.2⟩
    have HZC:=aF hzC;obtain⟨P,hP⟩:=aq (doP dd c);have HGV:RJ (P.2.given<=dd.given+1):=(by have:=JT dd c;rw[hP]at this;exact this);rw[hP]at cD hX
    have HX:RJ (fw dk0 l=((ls.map (fun a=>a.1)++[P.1])++(fw P.2 (l.drop (j+1))).1,(fw P.2 (l.drop (j+1))).2)):=by
     show _=_;rw[hX,dx];rfl
    have HRB:RJ (∀a∈ls,Rob (Fx wA.heap.size (tt.ad L)) (fun u=>d8 u a.2.1 a.1.who) wC/\Rob (Fx wA.heap.size (tt.ad L)) (fun u=>d8 u a.2.2 a.1.list) wC):=fun a ha=>⟨(hrb a ha).1.below bC,(hrb a ha).2.below bC⟩
    have HBC:=aF hbC;have HDC:=aF hdC;have HOC:=aF hoC;have HGX:=aF hgxL;have HLB:=aF hLb;have HLC:=aF hLC;have HLJ:=aF hlj;have HTX:=aF htx;have HGX0:=aF hgx;have HDG:=aF hgv;clear hX hP hrb hbC hdC hoC hgxL hLb hLC hLt hlj htx hgv hdok hcm hcm' hrg hTC hcj hlc hcell e3 hown hd hbr bC hzr hzC hgx;go_wp2_with(first|(refine wpList_load_mid rfl 37 _ rfl g (o+j*13) rfl (doC c (.slice pr c.sv.roles.length kr) (.slice pw c.swho.length kw)).toList _ hrg' doT rfl (by kernel_rfl) ?_)|(refine az rfl 37 _ _ rfl _ _ rfl rfl _ _ nZ (by kernel_rfl) rfl (Fm _ _ _ _ _ _ _) ?_;rw[hC])|(refine aR rfl 37 _ rfl _ rfl _ _ _ _ nC doT rfl (by kernel_rfl) ?_))
    refine cD.mono ?_;rintro e w4 ⟨t',wv',lv,rfl,hd4,hk4,hw4,hl4⟩
    obtain⟨tt',htt,rfl⟩: ∃tt':Tr,tt'.xs=w.heap.size::ys/\t'=tt'.ad L:=⟨⟨t'.ev,t'.sv,t'.av,w.heap.size::ys⟩,rfl,by
     have e:=hk4.xs;obtain⟨a1,a2,a3,a4⟩:=t';dsimp only[Tr.ad]at e⊢;rw[e,HTX.o]⟩
    obtain⟨p5,c5,hv5,_,_⟩:=hw4.here;obtain⟨p6,c6,hv6,_,_⟩:=hl4.here;obtain⟨wE,hE,bE,nE⟩:=nb w4 #[ag P.1.err,ag P.1.num,ag P.1.day,ag P.1.min,wv',lv] 28;have hb4:ao w w4:=HBC.o.trans ⟨hk4.os,hk4.tape,hk4.output,hk4.size,fun q hq=>hk4.blk q (HGX0.o q hq) (aQ hq HBC.o.size)⟩;have HG4:RJ (∀q,q<w.heap.size->Gx wA.heap.size tt' q):=fun q hq=>hk4.gx q (aQ hq HBC.o.size) (HGX0.o q hq);have hbE:=au hb4 bE;have hoE:wE.ownsRow wA.heap.size 28 6 u7 j (anF ls):=bv HOC.o fun b hq=>(bE.block b (aQ (HOC.o.lt b hq).2 hk4.size)).trans (hk4.blk b (HGX.o.1 b (HLB.o b hq)) (HOC.o.lt b hq).2);have hdE:=hd4.below bE;have HZE:=aF (bt bE ((hk4.blk _ HGX.o.2 (aG HZC.o)).trans HZC.o))
    have HLE:RJ (∀b∈L,∃c,wE.heap[b]? =ah c 28):=fun b hb=>by
     obtain⟨x,hx⟩:=HLC.o b hb;exact⟨x,bt bE ((hk4.blk b (HGX.o.1 b hb) (aG hx)).trans hx)⟩
    have HRE:RJ (∀a∈ls++[(P.1,wv',lv)],Rob (Fx wA.heap.size (tt'.ad L)) (fun u=>d8 u a.2.1 a.1.who) wE/\Rob (Fx wA.heap.size (tt'.ad L)) (fun u=>d8 u a.2.2 a.1.list) wE):=fun a ha=>by
     rcases cY.1 ha with ha|ha
     ·exact⟨(hk4.rob (HRB.o a ha).1).below bE,(hk4.rob (HRB.o a ha).2).below bE⟩
     ·rw[cg.1 ha];exact⟨hw4.below bE,hl4.below bE⟩
    have HDE:=aF hdE
    have hsE:wA.heap.size<=wE.heap.size:=by
     obtain⟨_,_,_,_,_,_,_,hm⟩:=hdE;exact Nat.le_of_lt (aG hm.blk)
    have HBE:=aF hbE;have h1c:(#[ag P.1.err,ag P.1.num,ag P.1.day,ag P.1.min,wv',lv]:Array Value).all (·.oneCell')=true:=(by rw[hv5,hv6];simp[Value.oneCell']);unfold anC;subst hv5 hv6;clear cD hd4 hk4 hw4 hl4 hb4 hbE hdE bE HRB HOC HDC HBC HLC hrg' nZ nC hZ hC;go_wp2_with(at_builtin;refine iO rfl _ _ 70 28 rfl QX RD rfl (by decide) (by decide) rfl hoE rfl nE rfl h1c (by omega) hsE ?_)
    rintro v2 w5 ho5 hgr hbl g5 c7 rfl;obtain⟨L',hd5,hL5,hL6,hmv⟩:=HDE.o.grown hoE HLB.o hgr ho5 hbl;have hb5:ao w w5/\w5.heap[w.heap.size]? =ah #[af,af,af,af] 69:=⟨HBE.o.grown hgr HBE.o.size (fun k hk=>by have:=(hoE.lt k hk).1;omega),(hgr.block _ (aG HZE.o) (fun e=>by have:=(hoE.lt _ e.symm).1;omega)).trans HZE.o⟩
    have HR5:RJ (∃(L:List Nat) (ls':List (An×Value×Value)),dO B wA.heap.size P.2 (tt'.ad L) w5/\(∀b,(Value.slice (some (ae g5 0)) (j+1) c7).ownBlock=some b->b∈L)/\(∀b∈L,∃c,w5.heap[b]? =ah c 28)/\(ao w w5/\w5.heap[w.heap.size]? =ah #[af,af,af,af] 69)/\w5.ownsRow wA.heap.size 28 6 (.slice (some (ae g5 0)) (j+1) c7) (j+1) (anF ls')/\ls'.length=j+1/\(∀a∈ls',Rob (Fx wA.heap.size (tt'.ad L)) (fun u=>d8 u a.2.1 a.1.who) w5/\Rob (Fx wA.heap.size (tt'.ad L)) (fun u=>d8 u a.2.2 a.1.list) w5)/\ls'.map (fun a=>a.1)=ls.map (fun a=>a.1)++[P.1]):=by
     have hsb: ∀b∈[g5],b∈L':=fun b hb=>(by rw[cg.1 hb];exact hL5 g5 rfl);have hm2: ∀{Φ:World->Prop},Rob (Fx wA.heap.size (tt'.ad L)) Φ wE->Rob (Fx wA.heap.size (tt'.ad [g5])) Φ w5:=fun hR=>(hmv _ hR).move (aA _) (fun _ _ _=>rfl) fun q _ hq=>J6 hsb hq;refine⟨[g5],ls++[_],hd5.sub hsb,fun b hb=>by rw[cg];exact(aI hb).symm,fun b hb=> ?_,hb5,?_,by rw[aO,HLJ.o];rfl,fun a ha=>⟨hm2 (HRE.o a ha).1,hm2 (HRE.o a ha).2⟩,by rw[dR];rfl⟩
     ·rw[cg.1 hb];rcases ho5.2 with⟨e,_⟩|⟨g',cap,cur,e,_,hg',_⟩
      ·cases e
      ·injection e with e1 _ _;injection e1 with e1;injection e1 with e1;subst e1;exact⟨cur,hg'⟩
     ·unfold anF;rw[fu];exact ho5
    clear hsE hoE ho5 hgr hbl nE hE hd5 hL5 hL6 hmv hb5 HDE HBE HLE HRE h1c;go_wp2_with fail;go_roundw
    case rel=>
     obtain⟨L,ls',q1,q2,q3,q4,q5,q6,q7,q8⟩:=HR5.o;exact⟨j+1,P.2,tt',L,ls',by go_num,by omega,⟨htt,HG4.o⟩,q1,q2,q3,q4,q5,q6,by have:=HGV.o;have:=HDG.o;omega,q7,by rw[q8];exact HX.o⟩
    case measure=>simp[intOf];omega
   ·have hjn': ¬(j:Int)<(n:Int):=(by omega);obtain rfl:n=j:=(by omega);rw[dg (by rw[HLL.o];exact aA _)]at hX
    have HX:RJ (fw dk0 l=(ls.map (fun a=>a.1),dd)):=by
     show _=_;rw[hX];simp[fw]
    obtain⟨hok,rv,cv,vv,kv,ss,aa,hm⟩:=hd
    obtain⟨pr,kr,hrv⟩: ∃p c,rv= .slice p dd.rules.length c:=by
     obtain⟨us,h1,h2⟩:=hm.rules.here;obtain⟨p,c,e⟩:=h1.form;exact⟨p,c,by rw[e,<-h2,bf]⟩
    obtain⟨pe,ke,hev⟩:=dl hm.res;obtain⟨ps,ks,hsv⟩:=dl hm.svs;obtain⟨pa,ka,hav⟩:=dl hm.aps;obtain⟨px,kx,hxv⟩:=dl hown;have z0:=cr 0 hm.blk rfl;have z1:=cr (v:=tt.ev) 1 hm.blk rfl;have z2:=cr (v:=tt.sv) 2 hm.blk rfl;have z3:=cr (v:=tt.av) 3 hm.blk rfl;have z8:=cr 8 hm.blk rfl;obtain⟨n0,h0⟩:=aq dd.rules.length;obtain⟨n1,h1⟩:=aq dd.res.length;obtain⟨n2,h2⟩:=aq ss.length;obtain⟨n3,h3⟩:=aq aa.length;obtain⟨rn,hrn⟩:=aq dd.runs;have hev':tt.ev= .slice pe n1 ke:=(by rw[<-h1];exact hev);have hsv':tt.sv= .slice ps n2 ks:=(by rw[<-h2];exact hsv);have hav':tt.av= .slice pa n3 ka:=(by rw[<-h3];exact hav);rw[hrv,h0]at z0;rw[hev']at z1;rw[hsv']at z2;rw[hav']at z3;rw[hrn]at z8;subst hxv;have nAr:=hzr
    have HPY:RJ (∀W:World,wr.heap.size<=W.heap.size->(∀q,q<wr.heap.size->q≠w.heap.size->q∉ys->W.heap[q]? =wr.heap[q]?)->zU B W (fw dk0 l) (.slice pr n0 kr) (.slice pe n1 ke) (.slice ps n2 ks) (.slice pa n3 ka) (.slice px n kx) ss aa ls):=fun W hs hW=>by
     have mv: ∀{Φ:World->Prop},Rob (Fx wA.heap.size (tt.ad L)) Φ wr->Φ W:=fun hR=>hR W hs fun q hq hl=>hW q hl (fun e=>hq.2 (eR _ (by rw[htx,e];exact bo))) fun e=>hq.2 (eR _ (by rw[htx];exact bx _ e));have hnx:=fun q (hq:q∈w.heap.size::ys)=>(hm.nx q (eR _ (by rw[htx];exact hq))).2.2;have rk: ∀{B e s k:Nat} {u:Value} {xs:List Value},wr.ownsRow B e s u k xs->(∀q∈w.heap.size::ys,some q≠u.ownBlock)->W.ownsRow B e s u k xs:=fun hr hn=>bv hr fun b hb=>hW b (hr.lt b hb).2 (fun e=>hn b (by rw[e];exact bo) hb.symm) fun e=>hn b (bx _ e) hb.symm
     have hoW:=rk hown fun q hq e=>by
      have h1:=(hown.lt _ e.symm).1;rcases bp.1 hq with rfl|hq
      ·omega
      ·obtain⟨_,_,_,_,h2,_⟩:=HYS.o q hq;have:=aG h2;omega
     rw[HX.o];refine⟨?_,?_,?_,hm.sve,fun q hq=>mv (hm.svr q hq),?_,hm.ape,fun q hq=>mv (hm.apr q hq),⟨hoW.1.trans (by rw[hlj]),?_⟩,rfl,fun a ha=>⟨mv (hrb a ha).1,mv (hrb a ha).2⟩⟩
     ·rw[<-h0,<-hrv];exact mv hm.rules
     ·rw[<-hev'];exact rk hm.res fun q hq=>(hnx q hq).2.1
     ·rw[<-hsv'];exact rk hm.svs fun q hq=>(hnx q hq).2.2.1
     ·rw[<-hav'];exact rk hm.aps fun q hq=>(hnx q hq).2.2.2
     ·rw[hlj];exact hoW.2.imp id fun⟨g,c,cu,q1,q2,q3⟩=>⟨g,c,cu,q1,by omega,q3⟩
    have HRN:RJ ((fw dk0 l).2.runs=rn):=(by show _=_;rw[HX.o];exact hrn);have HBR:=aF hbr;have hwr:=aG nAr;clear hX hm hown hev hsv hav hrv h0 h1 h2 h3 hrn hev' hsv' hav' hrb hLb hLt hbr hok htx hlj hgv hzr;go_upto_region 10 with fail;refine dz (fun M _ W=>(M 6=false->ao wr W)/\(M 6=true-> ∃W0,ao wr W0/\Below W0.heap.size (W0.setRow w.heap.size #[.slice pr n0 kr,.slice pe n1 ke,.slice ps n2 ks,.slice pa n3 ka]) W)) [kn 26 (ab wA.heap.size 0),kn 27 (.agg #[.slice pr n0 kr,.slice pe n1 ke,.slice ps n2 ks,.slice pa n3 ka]),kn 28 (.slice px n kx),kn 29 (ab wA.heap.size 7),kn 30 (ab wA.heap.size 8),kn 31 (ag rn),nk,kn 3 (.slice px n kx),kn 4 (ag rn),kn 5 (ag 0)] (fun _=>⟨fun _=>(aH _ _).drew,(fun h=>by cases h)⟩) (fun _ _ _ _ hb h=>⟨fun c=>(h.1 c).trans (hb.mono (h.1 c).size),fun c=> ?_⟩) (by kernel_rfl) ?_ ?_
    ·obtain⟨W0,h1,h2⟩:=h.2 c;exact⟨W0,h1,h2.trans (hb.mono (by have:=h2.size;simpa using this))⟩
    ·rintro M φ W hJ hc F l' hl hF;have HJ:=aF hJ;clear hc hJ;simp only[kn,nk,dX,aT,aZ,Act.put,aC,aK,aJ]at hl;subst hl;simp only[dm,Nat.reduceAdd]at hF;dsimp only[kn,nk,dJ,eZ,eh,Act.put];and_intros;all_goals first|exact trivial|intro hw hn hm K hK
     all_goals try (go_simp;with_reducible exact hK _ _ ⟨rfl,aH _ _⟩)
     ·have hb:=HJ.o.1 (hn 6 _ rfl (by kernel_rfl));have z0:=aj hb z0;have z1:=aj hb z1;have z2:=aj hb z2;have z3:=aj hb z3;go_simp;exact hK _ _ ⟨rfl,aH _ _⟩
     ·have z8:W.cell? (ae wA.heap.size 8)=some (ag rn):=by
       cases hq:M 6 with
       |false=>exact((HJ.o.1 hq).cell (bJ z8)).trans z8
       |true=>
        obtain⟨W0,h1,h2⟩:=HJ.o.2 hq;have hz:=aj h1 z8;exact(dT ((h2.block _ (bJ hz)).trans (aU W0 w.heap.size wA.heap.size _ (by omega)))).trans hz
      go_simp;exact hK _ _ ⟨rfl,aH _ _⟩
     ·have hb:=HJ.o.1 hm;have nW:=bt hb nAr;show Oper.wp _ _ _ _ _ _;refine mW (ops:= #[]) rfl (az rfl 69 _ _ rfl _ #[.slice pr n0 kr,.slice pe n1 ke,.slice ps n2 ks,.slice pa n3 ka] (by simp[Act.eval,hF]) (by simp[Act.eval,hF]) _ _ nW (by kernel_rfl) rfl (by simp[Value.oneCell']) ?_);exact⟨rfl,hK undef _ ⟨trivial,fun c=>by simp at c,fun _=>⟨W,hb,aH _ _⟩⟩⟩
    ·rintro M φ W hM hJ;obtain⟨W0,h1,h2⟩:=hJ.2 (hM 6 (by decide) rfl);simp only[kn,nk,ef,aT,aZ,Act.put,aC,aK,aJ];have m0:=bt h1 nAr;have m2:=aL _ _ _ #[.slice pr n0 kr,.slice pe n1 ke,.slice ps n2 ks,.slice pa n3 ka] _ _ m0;have hsz:W0.heap.size<=W.heap.size:=(by have:=h2.size;simpa using this);have hW: ∀q,q<wr.heap.size->q≠w.heap.size->W.heap[q]? =wr.heap[q]? :=fun q hl hq=>(h2.block q (aQ hl h1.size)).trans ((aU W0 w.heap.size q _ hq).trans (h1.block q hl));have HF1:=aF ((h2.block _ (aG m0)).trans m2);have HF2:=aF ((below_setRow (au HBR.o h1) (aA _) #[.slice pr n0 kr,.slice pe n1 ke,.slice ps n2 ks,.slice pa n3 ka]).trans (h2.mono (Nat.le_of_lt (aG m0))));have HF3:RJ (Rob (fun k=>k∉ys) (fun u=>zU B u (fw dk0 l) (.slice pr n0 kr) (.slice pe n1 ke) (.slice ps n2 ks) (.slice pa n3 ka) (.slice px n kx) ss aa ls) W):=fun u hu ha=>HPY.o u (bg h1.size (bg hsz hu)) fun q hl hq hy=>(ha q hy (aQ hl (bg h1.size hsz))).trans (hW q hl hq);clear hM hJ h1 h2 m0 m2 hsz hW z0 z1 z2 z3 z8 nAr;go_wp2_with fail;exact Bj w.heap.size #[.slice pr n0 kr,.slice pe n1 ke,.slice ps n2 ks,.slice pa n3 ka] _ rn 0 rfl rfl rfl rfl rfl rfl HF1.o ⟨HF2.o,.inr ⟨by rw[HLL.o];omega,_,_,_,_,_,_,_,_,by rw[HRN.o];rfl,HF3.o⟩⟩
section
section
variable {w w':World}
theorem J7:d8 w (af) []:=⟨none,0,rfl,by decide,fun j n h=>by simp at h⟩
theorem Ok:fT w (af) []:=⟨none,0,rfl,by decide,fun j n h=>by simp at h⟩
theorem Ol {g:Nat}{sv:Value}{l:List Int}{T:TypeId}(h:w.heap[g]? =ah #[sv] T)(hr:d8 w sv l):fT w (.slice (some (ae g 0)) 1 1) [l]:=by
 refine⟨some ⟨g,0,none⟩,1,rfl,by simp,fun j m hj=> ?_⟩;match j,hj with
 |0,hj=>cases hj;exact⟨g,0,sv,rfl,aX _ _ _ _ _ _ h,hr⟩
 |j+1,hj=>simp at hj
def oV (B:Nat)(w:World)(v:Value)(cs:List (Cm×Value×Value)):Prop:=w.ownsRow B 37 13 v cs.length (cs.flatMap fun q=>(doC q.1 q.2.1 q.2.2).toList)/\ ∀q∈cs,Rob (fun k=>some k≠v.ownBlock) (fun u=>oU u q.1 q.2.1 q.2.2) w
theorem Fo {B:Nat}{v:Value}{cs:List (Cm×Value×Value)}(h:w.ownsRow B 37 13 v cs.length (cs.flatMap fun q=>(doC q.1 q.2.1 q.2.2).toList))(hc: ∀q∈cs,oU w q.1 q.2.1 q.2.2)(hl:cs.length<9223372036854775808):qh w v cs:=by
 obtain⟨p,k,hv⟩:=dl h;refine⟨p,k,hv,hl,fun j q hj=>⟨hc q (aN hj),?_⟩⟩;obtain⟨g,c,e,_,hr⟩:=pJ (f:=fun q:Cm×Value×Value=>doC q.1 q.2.1 q.2.2) (fun q=>rfl) h rfl hj;rw[hv]at e;cases e;exact⟨g,0,rfl,by rw[bG];exact hr⟩
theorem oV.row {B:Nat}{v:Value}{cs:List (Cm×Value×Value)}(h:oV B w v cs)(hl:cs.length<9223372036854775808):qh w v cs:=Fo h.1 (fun q hq=>(h.2 q hq).here) hl
theorem oV.below {B:Nat}{v:Value}{cs:List (Cm×Value×Value)}(h:oV B w v cs)(hb:ao w w'):oV B w' v cs:=
 ⟨bv h.1 fun b hq=>hb.block b (h.1.lt b hq).2,fun q hq=>(h.2 q hq).below hb⟩
theorem Om {c:Cm}{rv wv:Value}(h:oU w c rv wv):(doC c rv wv).all (·.oneCell')=true:=by
 obtain⟨_,_,rfl,_⟩:=h.roles;obtain⟨_,_,rfl,_⟩:=h.who;exact Fm ..
theorem zV: ∀cs:List (Cm×Value×Value),(cs.flatMap fun q=>(doC q.1 q.2.1 q.2.2).toList).length=cs.length*13
 |[]=>rfl
 |c::cs=>by
  rw[List.flatMap_cons,aO,zV cs,bH];show 13+_=_;omega
theorem PQ {cs:List (Cm×Value×Value)}{g o:Nat}(h: ∀(j:Nat) (q:Cm×Value×Value),cs[j]? =some q->w.rangeAt g (o+j*13) (doC q.1 q.2.1 q.2.2).toList):w.rangeAt g o (cs.flatMap fun q=>(doC q.1 q.2.1 q.2.2).toList):=by
 intro k u hu
 have hk:k<cs.length*13:=by
  have:=(aD.1 hu).1;rwa[zV]at this
 obtain⟨q,hq⟩: ∃q,cs[k/13]? =some q:=⟨_,ay (by omega)⟩
 have e:=oR (f:=fun q:Cm×Value×Value=>doC q.1 q.2.1 q.2.2) (m:=13) (fun q=>rfl) hq (k%13) (Nat.mod_lt _ (by decide));rw[show k/13*13+k%13=k by omega,hu]at e;have:=h _ q hq (k%13) u (by rw[bn];exact e.symm);rwa[show o+k/13*13+k%13=o+k by omega]at this
theorem oh {ops:Array Oper}{rest:List Oper}{o:Oper}{a:Act}{Q:Exit->Act->World->Prop}(hgd:o.guard=none)(s x:Operand)(ho:o.op= .call {callee:= .builtin .append,args:= #[s,x],argTypes:= #[30,30]})
  {B:Nat} {v xv:Value} {cs ds:List (Cm×Value×Value)} (hs:a.eval s=v) (hO:oV B w v cs) (hx:a.eval x=xv) (hX:qh w xv ds) (h0:0<ds.length) (hR: ∀q∈ds,Rob (fun k=>some k≠v.ownBlock) (fun u=>oU u q.1 q.2.1 q.2.2) w) (hn:cs.length+ds.length<=100000) (hB:B<=w.heap.size)
  (h: ∀v' w',oV B w' v' (cs++ds)->Below B w w'->w.grownBy w' v.ownBlock->wpList prog ops Q rest (a.put o.dst v') w'):wpList prog ops Q (o::rest) a w:=by
 obtain⟨i,hi,hz0,hz1,hz2⟩:=qu (t:=37) (z:= .agg (doC ⟨0,0,0,0,[],[],sv0,0,0,[]⟩ (af) (af))) (a:=13) (b:=152) (by kernel_rfl);obtain⟨p,k,rfl,_,hc⟩:=hX;obtain⟨q0,hq0⟩: ∃q,ds[0]? =some q:=⟨_,ay h0⟩
 obtain⟨_,g,of,rfl,_⟩:=hc 0 q0 hq0
 have hF:w.rangeAt g of (ds.flatMap fun q=>(doC q.1 q.2.1 q.2.2).toList):=PQ fun j q hj=>by
  obtain⟨_,g',o',e,hr⟩:=hc j q hj;cases e;exact hr
 refine wpList_append_own_at w hgd s x 30 ho B 37 i _ 13 152 (by kernel_rfl) hi hz0 hz1 hz2 rfl (by decide) v cs.length _ hs hO.1 ⟨g,of,none⟩ ds.length k (ds.flatMap fun q=>(doC q.1 q.2.1 q.2.2).toList) hx ?_ (fun j u hu=> ?_) (fun u hu=> ?_) (by unfold maxLen;omega) (bg (Nat.mul_le_mul_right _ hn) (by decide)) hB fun v' w' h2 h3 _ h5=> ?_
 ·exact zV ds
 ·rw[show(⟨g,of,none⟩:Addr).add j=⟨g,of+j,none⟩ by simp[Addr.add]];exact hF j u hu
 ·obtain⟨q,hq,hu⟩:=List.mem_flatMap.1 hu;exact Array.all_eq_true'.1 (Om (hR q hq).here) u (Array.mem_toList_iff.1 hu)
 ·refine h v' w' ⟨?_,fun q hq=> ?_⟩ (gY (aH _ _) h3 hB fun k hk=>(hO.1.lt k hk).1) h3
  ·rw[aO,fu];exact h2
  ·have H:Rob (fun k=>some k≠v.ownBlock) (fun u=>oU u q.1 q.2.1 q.2.2) w:=(cY.1 hq).elim (hO.2 q) (hR q);refine H.move h3.size (fun k hk hl=>h3.block k hl hk) fun k hl hk=> ?_;rcases h5 with h5|h5
   ·rw[h5];exact hk
   ·rw[h5];intro e;cases e;omega
theorem Bk {B g n m:Nat}{cur:Array Value}{T:TypeId}(h:w.heap[g]? =ah cur T)(hB:B<=g)(hs:cur.size=n*m)(hn:n<=maxLen):w.ownsRow B T m (.slice (some (ae g 0)) n n) n cur.toList:=
 ⟨by rw[bU];exact hs,.inr ⟨g,n,cur,rfl,hB,h,aA _,hn,hs,by rw[cQ (by rw[bU,hs];exact aA _)]⟩⟩
theorem Dy (c:Cm)(h1:c.sv.roles=[])(h2:c.swho=[])(h3:c.text.length<=9223372036854775807)(h4:c.name.length<=9223372036854775807):oU w c (af) (af):=
 ⟨by rw[h1];exact Ok,by rw[h2];exact J7,h3,h4,fun p n k e=>by cases e;exact aA _⟩
end
def sC (rv:Value):List (Cm×Value×Value):=[(⟨1,0,0,0,aS,[],sv0,0,0,[]⟩,af,af),(⟨2,0,0,0,[],[97],sv0,0,0,[]⟩,af,af),(⟨3,0,0,0,[],[],PP,0,0,[]⟩,rv,af)]
end
theorem Bm: ∀(l m:List Cm) (c:Co),jK c (l++m)=((jK c l).1++(jK (jK c l).2 m).1,(jK (jK c l).2 m).2)
 |[],_,_=>rfl
 |x::l,m,c=>by
  show((doS c x).1::(jK (doS c x).2 (l++m)).1,(jK (doS c x).2 (l++m)).2)=_;rw[Bm l m];rfl
theorem Bn: ∀(l:List Cm) (c:Co),(jK c l).1.length=l.length
 |[],_=>rfl
 |x::l,c=>congrArg (· +1) (Bn l (doS c x).2)
theorem G8 (t:List UInt8)(w:World):Calls prog 19 #[.string ⟨t.toArray⟩] w fun e w'=>e= .returned (.agg (doC (cR t) (af) (af)))/\ao w w':=by
 obtain⟨wA,hA,bA,nA⟩:=nb w #[ag 0,ag 0,ag 0,ag 0,.string ⟨#[]⟩,.string ⟨#[]⟩,ag 0,ag 0,ag 0,af,ag 0,ag 0,af] 37;have HF:=aF (aL _ _ _ #[ag 1,ag 0,ag 0,ag 0,.string ⟨t.toArray⟩,.string ⟨#[]⟩,ag 0,ag 0,ag 0,af,ag 0,ag 0,af] _ _ nA);have HB:=aF (below_setRow bA (aA _) #[ag 1,ag 0,ag 0,ag 0,.string ⟨t.toArray⟩,.string ⟨#[]⟩,ag 0,ag 0,ag 0,af,ag 0,ag 0,af]);clear bA;go_enter func19,ntmps19;go_wp2_with(refine az rfl 37 _ _ rfl _ _ rfl rfl _ _ nA (by kernel_rfl) rfl (by simp[Value.oneCell']) ?_)
 refine aV (v:= .agg #[ag 1,ag 0,ag 0,ag 0,.string ⟨t.toArray⟩,.string ⟨#[]⟩,ag 0,ag 0,ag 0,af,ag 0,ag 0,af]) ?_ rfl ⟨rfl,HB.o⟩;exact a8 rfl _ _ w.heap.size _ _ _ _ rfl HF.o doT rfl (by kernel_rfl)
theorem rz (n day days:Int)(w:World):Calls prog 14 #[ag n,ag day,ag days] w fun e w'=>e= .returned (.agg (doC (cF n day days) (af) (af)))/\ao w w':=by
 obtain⟨wA,hA,bA,nA⟩:=nb w #[ag 0,ag 0,ag 0,ag 0,.string ⟨#[]⟩,.string ⟨#[]⟩,ag 0,ag 0,ag 0,af,ag 0,ag 0,af] 37;have HF:=aF (aL _ _ _ #[ag 4,ag n,ag day,ag days,.string ⟨#[]⟩,.string ⟨#[]⟩,ag 0,ag 0,ag 0,af,ag 0,ag 0,af] _ _ nA);have HB:=aF (below_setRow bA (aA _) #[ag 4,ag n,ag day,ag days,.string ⟨#[]⟩,.string ⟨#[]⟩,ag 0,ag 0,ag 0,af,ag 0,ag 0,af]);clear bA;go_enter func14,ntmps14;go_wp2_with(refine az rfl 37 _ _ rfl _ _ rfl rfl _ _ nA (by kernel_rfl) rfl (by simp[Value.oneCell']) ?_)
 refine aV (v:= .agg #[ag 4,ag n,ag day,ag days,.string ⟨#[]⟩,.string ⟨#[]⟩,ag 0,ag 0,ag 0,af,ag 0,ag 0,af]) ?_ rfl ⟨rfl,HB.o⟩;exact a8 rfl _ _ w.heap.size _ _ _ _ rfl HF.o doT rfl (by kernel_rfl)
def oC (t:List UInt8)(len:Int)(rv:Value):List (Cm×Value×Value):=[(cR t,af,af),(cAd,af,af),(cS (sv1 len),rv,af)]
theorem Fp (t:List UInt8)(len:Int)(w:World)(ht:t.length<=9223372036854775807):Calls prog 12 #[.string ⟨t.toArray⟩,ag len] w fun e w'=> ∃v rv,e= .returned v/\ao w w'/\oV w.heap.size w' v (oC t len rv):=by
 have c1:=G8 t w;go_enter func12,ntmps12;go_wp2_with fail;refine c1.mono ?_;rintro e wr ⟨rfl,br⟩;clear c1;obtain⟨w1,h1,b1,n1⟩:=nb wr #[ag 0] 3;obtain⟨w2,h2,b2,n2⟩:=nb w1 #[.slice (some (ae wr.heap.size 0)) 1 1] 24;have HBR:=aF br;have HB1:=aF b1;have HB2:=aF b2;have HN1:=aF n1;have HN2:=aF n2;have HT:=aF ht;clear b1 b2 n1 n2 br ht;dsimp only[doC];go_wp2_with fail;go_ret;obtain⟨rv,hrv⟩:=aq (.slice (some (ae w1.heap.size 0)) 1 1:Value)
 suffices H: ∀W,w2.alloc (.cells ((oC t len rv).flatMap fun q=>(doC q.1 q.2.1 q.2.2).toList).toArray 37)=W->ao w W/\oV w.heap.size W (.slice (some (ae w2.heap.size 0)) 3 3) (oC t len rv) by
  rw[hrv];exact⟨_,rv,rfl,H _ rfl⟩
 intro w3 h3;obtain⟨w3',h3',b3,n3⟩:=nb w2 ((oC t len rv).flatMap fun q=>(doC q.1 q.2.1 q.2.2).toList).toArray 37;rw[h3]at h3';subst h3';have bb:=(au HBR.o HB1.o).trans (HB2.o.mono (bg HBR.o.size HB1.o.size));refine⟨au bb b3,Bk (n:=3) n3 bb.size rfl (by decide),fun q hq u hu ha=> ?_⟩;have ha': ∀k,k<w2.heap.size->u.heap[k]? =w2.heap[k]? :=fun k hk=>(ha k (fun e=>Nat.ne_of_lt hk (aI e)) (aQ hk b3.size)).trans (b3.block k hk);subst hrv;rcases bp.1 hq with rfl|hq
 ·exact Dy _ rfl rfl HT.o (dW _)
 rcases bp.1 hq with rfl|hq
 ·exact Dy _ rfl rfl (dW _) (by decide)
 cases cg.1 hq;have y1:=bt HB2.o HN1.o;exact⟨Ol ((ha' _ (aG HN2.o)).trans HN2.o) (LP ((ha' _ (aG y1)).trans y1)),J7,dW _,dW _,fun p n k e=>by cases e;exact aA _⟩
def QY (cs:List Cm)(w:World)(e:Ending)(w':World):Prop:= ∃(a:An) (wv lv:Value),(fw dk0 cs).1[cs.length-1]? =some a/\e= .returned (.agg (anC a wv lv))/\d8 w' wv a.who/\d8 w' lv a.list/\ao w w'
theorem G9 (l:List Cm):(fw dk0 l).1.length=l.length:=by rw[(JZ l).1,Bn]
theorem L5 (cs:List (Cm×Value×Value))(v:Value)(w:World)(hs:qh w v cs)(h0:0<cs.length)(h60:cs.length<=60)(hT:Tbs w.heap.size w)(hok: ∀q∈cs,LX q.1):Calls prog 11 #[v] w (QY (cs.map fun q=>q.1) w):=by
 obtain⟨wA,hA,bA,nA⟩:=nb w #[ag 0,ag 0,ag 0,ag 0,af,af] 28
 have c1:=L4 w.heap.size [w.heap.size] cs v wA bA.size (hs.below bA) (fun W hW=>hT W (bA.trans hW)) hok (fun q hq u hu ha=>by
  obtain⟨_,_,_,_,h3⟩:=id hs;obtain⟨j,hj⟩:=List.getElem?_of_mem hq;exact Ep (h3 j q hj).1.who fun k hk=>(ha k hk (aQ hk bA.size)).trans (bA.block k hk)) (fun q hq=>by
  cases cg.1 hq;exact⟨aA _,_,_,_,nA,by decide⟩)
 have HBA:=aF bA;have NA:=aF nA;obtain⟨n,hn⟩: ∃n,cs.length=n+1:=⟨cs.length-1,by omega⟩
 have hcl:(cs.map fun q=>q.1).length=n+1:=by rw[bf,hn]
 obtain⟨L,hL⟩:=aq (cs.map fun q=>q.1);rw[hL]at hcl c1⊢;have h60':n+1<=60:=by omega
 clear bA nA hT hok hs hn hL h0 h60;go_enter func11,ntmps11;go_wp2_with fail;refine c1.mono ?_;clear c1;rintro e w5 ⟨b5,h5⟩;rcases h5 with⟨hl,_⟩|⟨hl,rw',ev,sv,av,asv,ss,aa,ls,rfl,hR⟩
 ·omega
 clear hl;have hP:=hR.here
 have hl5:ls.length=n+1:=by
  have:=congrArg List.length hP.ane;rw[bf,G9,hcl]at this;exact this
 obtain⟨us,hus,hx3⟩:=hP.rules;obtain⟨p1,k1,rfl⟩:=hus.form;obtain⟨p2,k2,rfl⟩:=dl hP.res;obtain⟨p3,k3,rfl⟩:=dl hP.svs;obtain⟨pa,ka,rfl⟩:=dl hP.aps;obtain⟨q,hq⟩: ∃q,ls[n]? =some q:=⟨_,ay (by omega)⟩
 have fq:(fw dk0 L).1[L.length-1]? =some q.1:=by
  rw[hcl,Nat.add_sub_cancel,<-hP.ane,bc,hq];rfl
 have hrr:Rob (fun k=>k∉[w.heap.size]) (fun u=>d8 u q.2.1 q.1.who/\d8 u q.2.2 q.1.list) w5:=hR.imp fun u hu=>hu.anr q (aN hq);obtain⟨hr1,hr2⟩:=hP.anr q (aN hq);obtain⟨pw,kw,ew,_,_⟩:=hr1;obtain⟨pl,kl,el,_,_⟩:=hr2;obtain⟨g,c,hv,hx1,r3⟩:=pJ (f:=fun p:An×Value×Value=>anC p.1 p.2.1 p.2.2) (fun _=>rfl) hP.ans rfl hq;subst hv;clear hR hP hus hx1 hx3 hq;obtain⟨a,wv,lv⟩:=q;dsimp only at hrr ew el r3 fq;subst ew el;have HRR:=aF hrr;have HF:=aF fq;rw[hl5];clear hl5 hrr fq;generalize us.length=n1;generalize ss.length=n3;generalize aa.length=n4;generalize (fw dk0 L).2.res.length=n2;generalize (fw dk0 L).2.runs=rn;obtain⟨wZ,wC,hZ,nZ,hC,bC,nC⟩:=nbs w5 #[af,af,af,af] #[.slice p1 n1 k1,.slice p2 n2 k2,.slice p3 n3 k3,.slice pa n4 ka] 69;have r4:=iK r3 bC;have nA':=bt bC (bt b5 NA.o);have HB:=aF (HBA.o.trans ((au b5 bC).mono HBA.o.size));have HW:=aF (below_setRow HB.o (aA _) (anC a (.slice pw a.who.length kw) (.slice pl a.list.length kl)));have HX:=aF (aL _ _ _ (anC a (.slice pw a.who.length kw) (.slice pl a.list.length kl)) _ _ nA');have HC:=aF bC;clear r3 bC b5 nC;have hw1:IntKind.i64.wrap (((n+1:Nat):Int)-1)=(n:Int):=by rw[bz];omega
 have hnz: ¬((n+1:Nat):Int)=0:=by omega
 go_wp2_with(first|(refine az rfl 69 _ _ rfl _ _ rfl rfl _ _ nZ (by kernel_rfl) rfl (by simp[Value.oneCell']) ?_;rw[hC])|(refine wpList_load_mid rfl 28 _ rfl g (n*6) rfl (anC a (.slice pw a.who.length kw) (.slice pl a.list.length kl)).toList _ r4 anT rfl (by kernel_rfl) ?_)|(refine az rfl 28 _ _ rfl _ _ rfl rfl _ _ nA' (by kernel_rfl) rfl (by simp[anC,Value.oneCell']) ?_))
 refine aV (v:= .agg (anC a (.slice pw a.who.length kw) (.slice pl a.list.length kl))) ?_ rfl (by
  have h:=HRR.o ((wC.setRow w.heap.size (anC a (.slice pw a.who.length kw) (.slice pl a.list.length kl)))) ?_ ?_
  ·exact⟨a,_,_,HF.o,rfl,h.1,h.2,HW.o⟩
  ·exact bg HC.o.size (below_setRow (aH 0 wC) (dW _) _).size
  ·exact fun k hk hl=>(aU _ _ _ _ fun e=>hk (cg.2 e)).trans (HC.o.block k hl))
 ·exact a8 rfl _ _ w.heap.size _ _ _ _ rfl HX.o anT rfl (by kernel_rfl)
theorem tb {w0 w1 w2:World}{v:Value}{cs:List (Cm×Value×Value)}(hO:oV w0.heap.size w1 v cs)(b1:ao w0 w1)(b2:ao w1 w2)(n day days:Int): ∃w3,w2.alloc (.cells (doC (cF n day days) (af) (af)) 37)=w3/\ao w0 w3/\oV w0.heap.size w3 v cs/\qh w3 (.slice (some (ae w2.heap.size 0)) 1 1) [(cF n day days,af,af)]/\ ∀q∈[((cF n day days,af,af):Cm×Value×Value)],Rob (fun k=>some k≠v.ownBlock) (fun u=>oU u q.1 q.2.1 q.2.2) w3:=by
 obtain⟨w3,h3,b3,n3⟩:=nb w2 (doC (cF n day days) (af) (af)) 37;have b13:=au b2 b3
 have hR: ∀(P:Nat->Prop),∀q∈[((cF n day days,af,af):Cm×Value×Value)],Rob P (fun u=>oU u q.1 q.2.1 q.2.2) w3:=fun P q hq u _ _=>by
  cases cg.1 hq;exact Dy _ rfl rfl (dW _) (dW _)
 exact⟨w3,h3,au b1 b13,hO.below b13,Fo (B:=0) (Bk (n:=1) n3 (dW _) rfl (by decide)) (fun q hq=>(hR (fun _=>True) q hq).here) (by decide:1<9223372036854775808),hR _⟩
theorem vA {t:List UInt8}{L:List Ru}(h:fN t=(0,L))(ha:0<=atP5 L [97]){len:Int}(hl:1<=len/\len<=1440)(day days:Int):(fw dk0 [cR t,cAd,cS (sv1 len),cF 0 day days]).1[3]? =some (ph (c1 L len []) 0 day days).1:=by
 rw[(JZ _).1];show(jK co0 ([cR t,cAd,cS (sv1 len)]++[cF 0 day days])).1[3]? =_;rw[Bm,L3 h ha hl];rfl
theorem tf {w0 w4:World}{v:Value}{t:List UInt8}{len day days:Int}{rv:Value}(hO:oV w0.heap.size w4 v (oC t len rv++[(cF 0 day days,af,af)]))(hb:ao w0 w4)(hT:Tbs w0.heap.size w0){A:An}(hA:(fw dk0 [cR t,cAd,cS (sv1 len),cF 0 day days]).1[3]? =some A):Calls prog 11 #[v] w4 fun e w'=> ∃(p q:Option Addr) (k m:Nat),e= .returned (.agg (anC A (.slice p A.who.length k) (.slice q A.list.length m)))/\ao w4 w':=by
 refine(L5 _ v w4 (hO.row (by show 4<9223372036854775808;decide)) (by show 0<4;decide) (by show 4<=60;decide) (fun W hW=>hT W (au hb hW)) fun q hq=>JU _ ?_).mono ?_
 ·have:q.1.kind=1\/q.1.kind=2\/q.1.kind=3\/q.1.kind=4:=by
   simp only[oC,List.cons_append,List.nil_append,bp,List.not_mem_nil,or_false]at hq;rcases hq with rfl|rfl|rfl|rfl
   ·exact .inl rfl
   ·exact .inr (.inl rfl)
   ·exact .inr (.inr (.inl rfl))
   ·exact .inr (.inr (.inr rfl))
  omega
 ·rintro e w' ⟨a,wv,lv,h1,rfl,⟨p,k,rfl,_⟩,⟨q,m,rfl,_⟩,h4⟩;have h1':(fw dk0 [cR t,cAd,cS (sv1 len),cF 0 day days]).1[3]? =some a:=h1;rw[hA]at h1';cases aI h1';exact⟨p,q,k,m,rfl,h4⟩
theorem rA (w:World)(hT:Tbs w.heap.size w):Calls prog 10 #[] w fun e w'=>e= .returned (.bool true)/\ao w w':=by
 have c1:=Fp aS 30 w (by decide)
 have hA:(fw dk0 [cR aS,cAd,cS (sv1 30),cF 0 7 1]).1[3]? =some ⟨0,0,7,540,[0],[]⟩:=by
  rw[vA PO (by decide) (by decide)];exact congrArg some ((J5 (a:=540) (b:=1020) (len:=30) (day:=7) (days:=1) (by decide) (by decide) (by decide) (by decide) (by decide)).trans (aw (by decide)))
 have HA:=aF hA;have HT:=aF hT;clear hT hA;go_enter func10,ntmps10;go_wp2_with fail;refine c1.mono ?_;rintro e w1 ⟨v,rv,rfl,b1,ho⟩;clear c1;have HB1:=aF b1;have HO:=aF ho;have c2:=rz 0 7 1 w1;obtain⟨p,k,hv⟩:=dl ho.1;subst hv;clear ho b1;go_wp2_with fail;refine c2.mono ?_;rintro e w2 ⟨rfl,b2⟩;clear c2;obtain⟨w3,h3,b3,o3,x3,r3⟩:=tb HO.o HB1.o b2 0 7 1;have HB3:=aF b3;have HO3:=aF o3;have HX:=aF x3;have HR:=aF r3;clear b3 o3 x3 r3 b2 HO;dsimp only[doC,oC,List.length]at*;go_wp2_with(refine oh rfl _ _ rfl rfl HO3.o rfl HX.o (show 0<1 by decide) HR.o (show 4<=100000 by decide) HB3.o.size ?_;intro v' w4 hO4 b4 _)
 have hb4:=HB3.o.trans b4;have HB4:=aF hb4;have c3:=tf hO4 hb4 HT.o HA.o;clear hO4 hb4 b4 HB3 HO3 HX HR;refine c3.mono ?_;clear c3;rintro e w5 ⟨p1,p2,k1,k2,rfl,b5⟩;obtain⟨wZ,wC,hZ,nZ,hC,bC,nC⟩:=nbs w5 #[ag 0,ag 0,ag 0,ag 0,af,af] #[ag 0,ag 0,ag 7,ag 540,.slice p1 1 k1,.slice p2 0 k2] 28;have z0:=cr 0 nC rfl;have z3:=cr 3 nC rfl;have z4:=cr 4 nC rfl;have HB5:=aF (au HB4.o b5);have HB6:=aF (au HB5.o bC);clear b5 bC;dsimp only[anC,List.length];go_wp2_with(refine az rfl 28 _ _ rfl _ _ rfl rfl _ _ nZ (by kernel_rfl) rfl (by simp[Value.oneCell']) ?_;rw[hC])
 go_ret;exact⟨rfl,HB6.o⟩
theorem zW {s:ByteArray}{l:List UInt8}(h:s.data=l.toArray):Value.string s= .string ⟨l.toArray⟩:=by
 cases s;simp at h;rw[h]
theorem zX (t:List UInt8)(len:Int)(w:World)(ht:t.length<=9223372036854775807)(s:ByteArray)(hs:s.data=t.toArray):Calls prog 12 #[.string s,ag len] w fun e w'=> ∃v rv,e= .returned v/\ao w w'/\oV w.heap.size w' v (oC t len rv):=by
 rw[zW hs];exact Fp t len w ht
end Go.Proofs.YtjkilacmkbmmbaaGreatDoor
