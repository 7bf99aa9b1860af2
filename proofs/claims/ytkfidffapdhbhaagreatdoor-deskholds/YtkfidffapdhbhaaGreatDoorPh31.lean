/- Texts of the proof. -/
import Derived.Test.YtkfidffapdhbhaaGreatDoorPh30
set_option maxRecDepth 100000
set_option maxHeartbeats 8000000
namespace Go.Proofs.YtkfidffapdhbhaaGreatDoor
open Go.Proofs.Tryz Go.RowKit Lx Vx Mx Msk
section
def Tbs (B:Nat)(w:World):Prop:= ∀W,Below B w W->gH W/\qd W/\Tab W
theorem Tbs.below {B:Nat}{w w':World}(h:Tbs B w)(hb:Below B w w'):Tbs B w':=fun _ hW=>h _ (hb.trans hW)
def Fv (w:World)(xs:List Nat):Prop:= ∀k∈xs,∃c T f,w.heap[k]? =some (.cells c T f)/\ ¬(T=142\/T=179\/T=89)
theorem wc (d:Dk)(l:List Ru):(nP d l).length=l.length:=by simp[nP]
section
variable {B gD:Nat} {d:Dk} {t:Tr}
theorem Ip (x:List UInt8)(w:World)(h:dt B gD d t w)(hx:x.length<=9223372036854775807)(hT:Tbs B w)(hB:B<=w.heap.size)(hg:d.given+1<=1000000)(hxs:Fv w t.xs):Calls prog 11 #[ab gD 0,kN x] w (qF B gD (nO d (ir x)) t w):=by
 obtain⟨wA,hA,bA,nA⟩:=nb w #[ag 0,ag 0,ag 0,ag 0,af,af] 47;have hsA:wA.heap.size=w.heap.size+1:=by rw[<-hA];simp
 have hdA:=h.opened (aB _) hsA bA;have HDA:=aG hdA;have H0:=aG h;have HBA:=aG bA;obtain⟨tb1,tb2,tb3⟩:=hT wA (bA.mono hB);have cC:=Cb x hx wA tb1 tb2 tb3;have cR:=fun(e:Int) (W:World)=>eZ e W;have HX:=aG hxs;have HG:=aG hg
 have HGD:PH (gD<w.heap.size):=by
  obtain⟨_,_,_,_,_,_,_,hm⟩:=h;exact aH hm.blk
 unfold kN;unfold KR at cC;obtain⟨er,he⟩:=au ((ir x).1);obtain⟨R,hR⟩:=au ((ir x).2);rw[he,hR]at cC;have HC:PH (ir x=(er,R)):=by show _=_;rw[<-he,<-hR]
 go_enter func11,ntmps11;go_wp2_with fail;refine cC.mono ?_;rintro e w1 ⟨rv',cv',rfl,b1,hok1⟩;have hd1:=HDA.o.below b1;have n1:=bt b1 nA;have hb1:=aw HBA.o b1;have HD1:=aG hd1;have HB1:=aG hb1;have HBB:=aG b1;have HOK1:=aG hok1;by_cases h0:er=0
 ·subst h0;obtain⟨h40,hfl,hrR,hrC⟩:=HOK1.o rfl;obtain⟨hok,rv,cv,vv,kv,ss,aa,hm⟩:=HD1.o;have z6:w1.cell? (ae gD 6)=some (ag d.given):=cr 6 hm.blk rfl;have x6:=bl _ _ 6 _ _ hm.blk;obtain⟨w2,hw2⟩:=au (w1.setCell ⟨gD,6,none⟩ (ag (d.given+1)));have blk2:w2.heap[gD]? =ah #[rv,(t.add w.heap.size).ev,(t.add w.heap.size).sv,(t.add w.heap.size).av,cv,vv,ag (d.given+1),kv,ag d.runs] 55:=hw2▸aY w1 gD 6 _ _ (ag (d.given+1)) hm.blk;have ho2: ∀q,q≠gD->w2.heap[q]? =w1.heap[q]? :=fun q hq=>hw2▸aO _ _ _ _ hq;have hs2:w2.heap.size=w1.heap.size:=(by rw[<-hw2];simp)
  have hwp:IntKind.i64.wrap (d.given+1)=d.given+1:=by
   have:=HG.o;have:=hok.gv;rw[bG];omega
  have mv2: ∀{Φ:World->Prop},Rob (Fx gD (t.add w.heap.size)) Φ w1->Rob (Fx gD (t.add w.heap.size)) Φ w2:=fun hR=>hR.move (by omega) (fun q hq _=>ho2 q hq.1.1) fun _ _ h=>h;have hm2:DkM B gD {d with given:=d.given+1} (t.add w.heap.size) rv cv vv kv ss aa w2:=hm.put (by omega) (fun q _ hq=>ho2 q hq) blk2 rfl rfl rfl (mv2 hm.rules) (mv2 hm.codes) (mv2 hm.vers) (mv2 hm.kept);have hok2:tR {d with given:=d.given+1}:=⟨hok.flt,hok.vl,hok.kl,hok.rl,hok.sl,hok.al,⟨by have:=hok.gv;show 0<=d.given+1;omega,HG.o⟩,hok.nm,hok.sv,hok.ap⟩
  have hlA:w.heap.size<=wA.heap.size:=HBA.o.size;have hgd:=HGD.o;have hin2:Rob (fun q=>wA.heap.size<=q) (fun u=> ∃us,InR u rv' us/\us.map (fun p=>p.1)=R) w2:=hrR.move (by omega) (fun q hq _=>ho2 q (by omega)) fun _ _ h=>h;obtain⟨us,hus,hmap⟩:=hin2.here;have hul:us.length=R.length:=(by rw[<-hmap,ba]);obtain⟨prv,crv,hrv⟩:=hus.form;rw[hul]at hrv;obtain⟨pcv,ccv,hcv,_,_⟩:=(hrC w1 (fun _ _ _ _ _ _=>rfl)).form;obtain⟨nR,hnR⟩:=au R.length;obtain⟨nC,hnC⟩:=au ((eU R).length);rw[hnR]at hrv;rw[hnC]at hcv;subst hrv hcv;have cV:=Kl w2 ⟨hok2,_,_,_,_,_,_,hm2⟩ hus (by omega);rw[hmap,hul,hnR]at cV;have HNR:=aG hnR;have HM2:=aG hm2;have HIN2:=aG hin2;have HS2:=aG hs2;have HO2:=aG ho2;have HCC:PH (∀u,nL w1 u->InV u (.slice pcv nC ccv) (eU R)):=hrC;have HFL:=aG hfl;have H40:=aG h40;have HOK2:=aG hok2;have n2:w2.heap[w.heap.size]? =_:=(ho2 w.heap.size (by omega)).trans n1;have HM1:=aG hm;have HBL:=aG blk2;go_wp2_with fail;refine cV.mono ?_;rintro e w3 ⟨v3,rfl,ho3,b3⟩;obtain⟨p3,c3,hv3⟩:=di ho3;subst hv3;have blk3:=bt b3 HBL.o;have x5:=bl _ _ 5 _ _ blk3;have y5:=cr 5 blk3 rfl;obtain⟨w4,hw4⟩:=au (w3.setCell ⟨gD,5,none⟩ (.slice p3 nR c3));have blk4:=aY w3 gD 5 _ _ (.slice p3 nR c3) blk3;rw[hw4]at blk4;have x0:=bl _ _ 0 _ _ blk4;have y0:=cr 0 blk4 rfl;obtain⟨w5,hw5⟩:=au (w4.setCell ⟨gD,0,none⟩ (.slice prv nR crv));have blk5:=aY w4 gD 0 _ _ (.slice prv nR crv) blk4;rw[hw5]at blk5;have x4:=bl _ _ 4 _ _ blk5;have y4:=cr 4 blk5 rfl;obtain⟨w6,hw6⟩:=au (w5.setCell ⟨gD,4,none⟩ (.slice pcv nC ccv));have blk6:=aY w5 gD 4 _ _ (.slice pcv nC ccv) blk5;rw[hw6]at blk6
  have ho6: ∀q,q≠gD->w6.heap[q]? =w3.heap[q]? :=fun q hq=>by
   rw[<-hw6,<-hw5,<-hw4];exact(aO _ _ _ _ hq).trans ((aO _ _ _ _ hq).trans (aO _ _ _ _ hq))
  have hs6:w6.heap.size=w3.heap.size:=(by rw[<-hw6,<-hw5,<-hw4];simp);have hm3:=HM2.o.below b3;have hs3:=b3.size;have hs2:=HS2.o;have h16: ∀q,q<w1.heap.size->q≠gD->w6.heap[q]? =w1.heap[q]? :=fun q hl hq=>(ho6 q hq).trans ((b3.block q (by omega)).trans (HO2.o q hq));have hsB:=HBB.o.size;have fxA: ∀q,wA.heap.size<=q->Fx gD (t.add w.heap.size) q:=fun q hq=>HDA.o.fx (.inr hq);have mv6: ∀{Φ:World->Prop},Rob (Fx gD (t.add w.heap.size)) Φ w3->Rob (Fx gD (t.add w.heap.size)) Φ w6:=fun hR=>hR.move (by omega) (fun q hq _=>ho6 q hq.1.1) fun _ _ h=>h;have hgA:gD<wA.heap.size:=(by omega);obtain⟨d1,hd1⟩: ∃q:Dk,q={d with rules:=R,vers:=pP d R,given:=d.given+1}:=⟨_,rfl⟩
  have hm6:DkM B gD d1 (t.add w.heap.size) (.slice prv nR crv) (.slice pcv nC ccv) (.slice p3 nR c3) kv ss aa w6:=by
   subst hd1;refine hm3.put (by omega) (fun q _ hq=>ho6 q hq) blk6 rfl rfl rfl ?_ ?_ ?_ (mv6 hm3.kept)
   ·exact(HIN2.o.below b3).move (by omega) (fun q hq _=>ho6 q (by omega)) fun q _ hq=>fxA q hq
   ·intro u hu ha;refine HCC.o u fun q c T f hq hT=> ?_;have hql:=aH hq;have hT1:T≠55:=(by rcases hT with rfl|rfl|rfl<;>decide)
    have hqg:q≠gD:=fun e=>by
     subst e;have h1:=HM1.o.blk;rw[h1]at hq;injection hq with hq;injection hq with _ hq _;exact hT1 hq.symm
    have hoB: ∀{e s n:Nat} {v:Value} {xs:List Value},w1.ownsRow B e s v n xs->(e=9\/e=41\/e=38)->some q≠v.ownBlock:=fun hr he e2=>by
     rcases hr.2 with⟨e,_⟩|⟨g,cap,cur,e,_,hg,_⟩
     ·rw[e]at e2;cases e2
     ·rw[e]at e2;have:q=g:=aN e2;subst this;rw[hg]at hq;injection hq with hq;injection hq with _ hq _;subst hq;revert hT he;rintro(rfl|rfl|rfl) (h|h|h)<;>cases h
    refine(ha q ⟨⟨hqg,hoB HM1.o.res (.inl rfl),hoB HM1.o.svs (.inr (.inl rfl)),hoB HM1.o.aps (.inr (.inr rfl))⟩,fun hx=> ?_⟩ (by omega)).trans (h16 q hql hqg)
    obtain⟨c',T',f',hc',hn'⟩: ∃c T f,w1.heap[q]? =some (.cells c T f)/\ ¬(T=142\/T=179\/T=89):=by
     rcases bz.1 hx with rfl|hx
     ·exact⟨_,_,_,(HO2.o _ hqg).symm.trans n2,by decide⟩
     ·obtain⟨c,T,f,hc,hn⟩:=HX.o q hx;exact⟨c,T,f,bt HB1.o hc,hn⟩
    rw[hc']at hq;injection hq with hq;injection hq with _ hq _;subst hq;exact absurd hT hn'
   ·refine Rob.imp (Rob.move (P:=fun q=>w2.heap.size<=q) (Φ:=fun u=>u.ownsRow w2.heap.size 3 1 (.slice p3 nR c3) nR (dp (nP {d with given:=d.given+1} R))) (w:=w3) (fun u _ ha=>br ho3 fun b hb=>ha b (ho3.lt b hb).1 (ho3.lt b hb).2) (by omega) (fun q hq _=>ho6 q (by omega)) fun q _ hq=>fxA q (by omega)) fun u hu=> ?_;have:=pm (w:=u) (B:=w2.heap.size) (v:= .slice p3 nR c3) (l:=nP {d with given:=d.given+1} R) (by rw[wc,HNR.o];exact hu) (by rw[wc];have:=H40.o;omega);exact this
  have hok6:tR d1:=by
   subst hd1;have hq:=HOK2.o;exact⟨HFL.o,(wc {d with given:=d.given+1} R),hq.kl,hq.rl,hq.sl,hq.al,hq.gv,hq.nm,hq.sv,hq.ap⟩
  have n6:=(ho6 _ (by omega)).trans (bt b3 n2);have HD6:=aG (show dt B gD d1 (t.add w.heap.size) w6 from⟨hok6,_,_,_,_,_,_,hm6⟩);have hk6:Kd gD t t w w6:=⟨by rw[<-hw6,<-hw5,<-hw4];exact b3.os.trans (by rw[<-hw2];exact HB1.o.os),by rw[<-hw6,<-hw5,<-hw4];exact b3.tape.trans (by rw[<-hw2];exact HB1.o.tape),by rw[<-hw6,<-hw5,<-hw4];exact b3.output.trans (by rw[<-hw2];exact HB1.o.output),by omega,fun q hq hl=>(h16 q (by omega) hq.1).trans (HB1.o.block q hl),fun _ _ h=>h,rfl⟩
  have HK6:=aG hk6;have cS:=Fu w6 HD6.o
  have HPL:PH (nO d (ir x)=(⟨0,0,0,0,[],(eY d1.aps 0 d1).1⟩,(eY d1.aps 0 d1).2)):=by
   show _=_;rw[HC.o,hd1];rfl
  obtain⟨Q,hQ⟩:=au (eY d1.aps 0 d1);rw[hQ]at cS;rw[hQ]at HPL;go_wp2_with fail;refine cS.mono ?_;rintro e w7 ⟨lv,rfl,hd7,hk7,ho7⟩;obtain⟨pl,cl,hlv⟩:=di ho7;subst hlv
  have hgx:Gx gD (t.add w.heap.size) w.heap.size:=by
   obtain⟨_,_,_,_,_,_,_,hm⟩:=HD6.o;exact(hm.nx _ bq).2.2
  have n7:=(hk7.blk _ hgx (aH n6)).trans n6;obtain⟨nq,hnq⟩:=au Q.1.length;have h67:=HK6.o.size;have ho8:w7.ownsRow w6.heap.size 3 1 (.slice pl nq cl) Q.1.length (dp Q.1):=(by rw[<-hnq];exact ho7)
  have HRB:PH (Rob (Fx gD t) (fun u=>dS u (.slice pl nq cl) Q.1) (w7.setRow w.heap.size (anC ⟨0,0,0,0,[],Q.1⟩ (af) (.slice pl nq cl)))):=by
   refine Rob.imp (Rob.move (P:=fun q=>w6.heap.size<=q) (Φ:=fun u=>u.ownsRow w6.heap.size 3 1 (.slice pl nq cl) Q.1.length (dp Q.1)) (w:=w7) (fun u _ ha=>br ho8 fun b hb=>ha b (ho8.lt b hb).1 (ho8.lt b hb).2) (by simp) (fun q hq _=>aV _ _ _ _ (by have:=aH n6;omega)) fun q _ hq=>H0.o.fx (.inr (by omega))) fun u hu=>pm hu (by
    rcases ho7.2 with⟨_,e⟩|⟨_,_,_,_,_,_,_,e,_⟩
    ·omega
    ·unfold maxLen at e;omega)
  have HO:=aG (fB hd7 (HK6.o.trans ⟨hk7.os,hk7.tape,hk7.output,hk7.size,hk7.blk,fun _ _ h=>h,rfl⟩) (aB _) (anC ⟨0,0,0,0,[],Q.1⟩ (af) (.slice pl nq cl)));have HR:=aG (aL _ _ _ (anC ⟨0,0,0,0,[],Q.1⟩ (af) (.slice pl nq cl)) _ _ n7);rw[hnq];go_wp2_with(refine ay rfl 47 _ _ rfl _ _ rfl rfl _ _ n7 (by kernel_rfl) rfl (by simp[Value.oneCell']) ?_)
  refine aW (v:= .agg (anC ⟨0,0,0,0,[],Q.1⟩ (af) (.slice pl nq cl))) ?_ rfl ?_
  ·exact bc rfl _ _ w.heap.size _ _ _ _ rfl HR.o anT rfl (by kernel_rfl)
  ·rw[HPL.o];exact⟨t,_,_,rfl,HO.o.1,HO.o.2,fd _ _,HRB.o⟩
 ·have h0':(er !=0)=true:=by simpa using h0
  have HP:PH (nO d (ir x)=(noA er,d)):=(by show _=_;rw[HC.o];unfold nO;rw[aD h0]);go_wp2_with fail;refine(cR er w1).mono ?_;rintro e w2 ⟨rfl,b2⟩;have n2:=bt b2 n1;have hd2:=HD1.o.below b2;have HO:=aG (fB hd2 (Kd.of (aw HB1.o b2)) (aB _) (anC (noA er) (af) (af)));have HR:=aG (aL _ _ _ (anC (noA er) (af) (af)) _ _ n2);go_wp2_with(refine ay rfl 47 _ _ rfl _ _ rfl rfl _ _ n2 (by kernel_rfl) rfl (by simp[anC,noA,Value.oneCell']) ?_)
  refine aW (v:= .agg (anC (noA er) (af) (af))) ?_ rfl ?_
  ·exact bc rfl _ _ w.heap.size _ _ _ _ rfl HR.o anT rfl (by kernel_rfl)
  ·rw[HP.o];exact⟨t,_,_,rfl,HO.o.1,HO.o.2,fd _ _,et _ _⟩
end
end
section
theorem svI:(prog.info? 41).map (fun i=>(i.zero,i.size,i.bytes))=some (some (.agg #[ag 0,ag 0,ag 0,af]),4,48):=by kernel_rfl
theorem Pr:prog.underlying 26=some (.slice 41):=by kernel_rfl
theorem vu {s:Sv}{n:Int}(h:fq s n=0):s.roles.length<=1000/\ ∀l∈s.roles,l.length<=1000:=by
 unfold fq at h;split at h
 ·cases h
 ·split at h
  ·cases h
  ·refine⟨by omega,?_⟩
   have: ∀l:List (List Int),kI n l=0-> ∀p∈l,p.length<=1000:=fun l=>by
    induction l with
    |nil=>intro _ p hp;cases hp
    |cons q l ih=>
     intro h p hp;unfold kI at h;by_cases hq:iL q n=0
     ·rw[ax (by simpa using hq)]at h;rcases bz.1 hp with rfl|hp
      ·unfold iL at hq;split at hq
       ·cases hq
       ·omega
      ·exact ih h p hp
     ·rw[aD hq]at h;exact absurd h hq
   exact this _ h
def qG (wX:World)(B T size n:Nat)(v:Value)(xs:List Value)(c:Array Value)(v':Value)(W0 W:World):Prop:=aq wX W0/\W0.grownBy W v.ownBlock/\(v'.ownBlock=v.ownBlock\/v'.ownBlock=some W0.heap.size)/\W.ownsRow B T size v' (n+1) (xs++c.toList)
structure SvJ (wX:World)(B gD:Nat)(s:Sv)(v:Value)(ns:Nat)(ss:List (Sv×Value))(M:Nat->Bool)(φ:Nat->Value)(W:World):Prop where
 bel:M 9=false->aq wX W
 cop:M 7=true->M 9=false-> ∃p k,φ 33= .agg (svC (s,.slice p s.roles.length k))/\Rob (fun q=>wX.heap.size<=q) (fun u=>fk u (.slice p s.roles.length k) s.roles) W
 one:M 8=true->M 9=false-> ∃g c x,φ 34= .slice (some (ae g 0)) 1 c/\φ 33= .agg x/\W.heap[g]? =ah x 41
 app:M 9=true->M 13=false-> ∃g c p k W0,φ 35= .slice (some (ae g 0)) (ns+1) c/\qG wX B 41 4 ns v (svF ss) (svC (s,.slice p s.roles.length k)) (φ 35) W0 W/\Rob (fun q=>wX.heap.size<=q/\q<W0.heap.size) (fun u=>fk u (.slice p s.roles.length k) s.roles) W
 sto:M 13=true-> ∃g c p k W0 W1,φ 35= .slice (some (ae g 0)) (ns+1) c/\qG wX B 41 4 ns v (svF ss) (svC (s,.slice p s.roles.length k)) (φ 35) W0 W1/\Below W1.heap.size (W1.setCell ⟨gD,2,none⟩ (φ 35)) W/\Rob (fun q=>wX.heap.size<=q/\q<W0.heap.size) (fun u=>fk u (.slice p s.roles.length k) s.roles) W
theorem qG.below {wX:World}{B T size n:Nat}{v:Value}{xs:List Value}{c:Array Value}{v':Value}{W0 W W':World}(h:qG wX B T size n v xs c v' W0 W)(hb:aq W W'):qG wX B T size n v xs c v' W0 W':=⟨h.1,⟨hb.os.trans h.2.1.os,hb.tape.trans h.2.1.tape,hb.output.trans h.2.1.output,bf h.2.1.size hb.size,fun k hk hn=>(hb.block k (aT hk h.2.1.size)).trans (h.2.1.block k hk hn)⟩,h.2.2.1,br h.2.2.2 fun b hq=>hb.block b (h.2.2.2.lt b hq).2⟩
theorem Ko (ss:List (Sv×Value))(p:Sv×Value):svF (ss++[p])=svF ss++(svC p).toList:=by simp[svF]
theorem DkM.addSv {B gD:Nat}{d:Dk}{t:Tr}{rv cv vv kv:Value}{ss:List (Sv×Value)}{aa:List (Ap×Value)}{wX W0 W1 W:World}{s:Sv}{v v':Value}(hm:DkM B gD d t rv cv vv kv ss aa wX)(hG:qG wX B 41 4 ss.length t.sv (svF ss) (svC (s,v)) v' W0 W1)(hb:Below W1.heap.size (W1.setCell ⟨gD,2,none⟩ v') W)(hrob:Rob (fun q=>wX.heap.size<=q/\q<W0.heap.size) (fun u=>fk u v s.roles) W):
  DkM B gD {d with svs:=d.svs++[s]} {t with sv:=v'} rv cv vv kv (ss++[(s,v)]) aa W/\Kd gD t {t with sv:=v'} wX W:=by
 obtain⟨hb0,hgr,hv,hown⟩:=hG;have hm0:=hm.below hb0;have hlt:=aH hm.blk;have hkd:=B6 (t':={t with sv:=v'}) (k:=2) hm0 (.inr (.inl rfl)) hgr hv (.inr (.inl ⟨rfl,rfl⟩));have blk2:=(hgr.block gD (aH hm0.blk) fun e=>iq hm0.svs hm0.blk (by decide) e.symm).trans hm0.blk;have hne: ∀b,v'.ownBlock=some b->b≠gD:=fun b hb' e=>iq hown blk2 (by decide) (by rw[hb',e]);have hbW:Below (W1.setCell ⟨gD,2,none⟩ v').heap.size (W1.setCell ⟨gD,2,none⟩ v') W:=hb.mono (by simp);have hkW:=hkd.trans (Kd.of hbW);have keep: ∀{e s n:Nat} {u:Value} {xs:List Value},(W1.setCell ⟨gD,2,none⟩ v').ownsRow B e s u n xs->W.ownsRow B e s u n xs:=fun hr=>br hr fun b hq=>hbW.block b (hr.lt b hq).2;refine⟨hm0.turn hkW (bt hbW (aY W1 gD 2 _ _ v' blk2)) rfl rfl rfl (keep (pV ⟨_,hm0.blk⟩ hm0.res hm0.svs (by decide) (by decide) hgr)) (keep (br ?_ fun b hq=>aO W1 ⟨gD,2,none⟩ b v' (hne b hq))) (keep (pV ⟨_,hm0.blk⟩ hm0.aps hm0.svs (by decide) (by decide) hgr)) (by simp[hm0.sve]) hm0.ape (fun p hp=> ?_) (fun p hp=> .inl ⟨p.1,hp,rfl⟩),(Kd.of hb0).trans hkW⟩
 ·rw[aP,Ko];exact hown
 ·rcases bU.1 hp with hp|hp
  ·exact .inl hp
  ·rw[bT.1 hp];refine .inr (hrob.move (aB _) (fun _ _ _=>rfl) fun q hl hq=>⟨⟨by omega,lX hm.res (.inr hq.1),fun e=> ?_,lX hm.aps (.inr hq.1)⟩,fun hx=>by have:=(hm.nx q hx).1;omega⟩);rcases hv with e'|e'
   ·have:=(hm0.svs.lt q (by rw[<-e',<-e])).2;have:=(hm.svs.lt q (by rw[<-e',<-e])).2;omega
   ·have:q=W0.heap.size:=aN (e.trans e');omega
section
variable {B gD:Nat} {d:Dk} {t:Tr}
theorem Fw (s:Sv)(p:Option Addr)(c:Nat)(w:World)(h:dt B gD d t w)(hr:fk w (.slice p s.roles.length c) s.roles):Calls prog 13 #[ab gD 0,.agg (svC (s,.slice p s.roles.length c))] w (qF B gD (rA d s) t w):=by
 obtain⟨wA,hA,bA,nA⟩:=nb w (svC (s,.slice p s.roles.length c)) 41;obtain⟨wB,hB,bB,nB⟩:=nb wA #[ag 0,ag 0,ag 0,ag 0,af,af] 47;have hsB:wB.heap.size=wA.heap.size+1:=by rw[<-hB];simp
 have hsA:wA.heap.size=w.heap.size+1:=by rw[<-hA];simp
 have hbw:=aw bA bB;have hdB:=h.opened (q:=wA.heap.size) bA.size hsB hbw;have HDB:=aG hdB;have HBW:=aG hbw;have nA':=bt bB nA;have HRR:=aG (hr.below hbw);obtain⟨hok,rv,cv,vv,kv,ss,aa,hm⟩:=hdB;have hss:ss.length=d.svs.length:=by rw[<-hm.sve,ba]
 obtain⟨ps,cs,hsv⟩:=di hm.svs;obtain⟨pe,ce,hev⟩:=di hm.res;obtain⟨ns,hns⟩:=au ss.length;obtain⟨ne,hne⟩:=au d.res.length;rw[hns]at hsv;rw[hne]at hev;have z2:wB.cell? (ae gD 2)=some (.slice ps ns cs):=(cr (v:=t.sv) 2 hm.blk rfl).trans (congrArg some hsv);have z1:wB.cell? (ae gD 1)=some (.slice pe ne ce):=(cr (v:=t.ev) 1 hm.blk rfl).trans (congrArg some hev);have hn8:ns<=8:=by rw[<-hns,hss];exact hok.sl
 have hn12:ne<=12:=by rw[<-hne];exact hok.rl
 have HNS:PH (d.svs.length=ns):=by show _=_;rw[<-hss,hns]
 have HSS:=aG hns;have HNE:=aG hne;have HSV:PH (t.sv= .slice ps ns cs):=hsv;have HM:=aG hm;have HOK:=aG hok;have hwA:w.heap.size<wA.heap.size:=by omega
 have hgl:gD<w.heap.size:=by
  obtain⟨_,_,_,_,_,_,_,hm0⟩:=h;exact aH hm0.blk
 have H0:=aG h;clear h hr hm hok hss hsv hev hns hne nA bA bB hbw hsA hsB;by_cases h8:8<=ns
 ·have h8':(8:Int)<=(ns:Int):=by omega
  have HP:PH (rA d s=(noA 5,d)):=(by show _=_;unfold rA;rw[aD (by rw[HNS.o];exact h8)]);have cR:=eZ 5 wB;go_enter func13,ntmps13;go_wp2_with fail;refine cR.mono ?_;rintro e w2 ⟨rfl,b2⟩;have n2:=bt b2 nB;have HO:=aG (fB (HDB.o.below b2) (Kd.of (aw HBW.o b2)) (by omega) (anC (noA 5) (af) (af)));have HR:=aG (aL _ _ _ (anC (noA 5) (af) (af)) _ _ n2);clear cR b2 nB;go_wp2_with(refine ay rfl 47 _ _ rfl _ _ rfl rfl _ _ n2 (by kernel_rfl) rfl (by simp[anC,noA,Value.oneCell']) ?_)
  refine aW (v:= .agg (anC (noA 5) (af) (af))) ?_ rfl ?_
  ·exact bc rfl _ _ wA.heap.size _ _ _ _ rfl HR.o anT rfl (by kernel_rfl)
  ·rw[HP.o];exact⟨t,_,_,rfl,HO.o.1,HO.o.2,fd _ _,et _ _⟩
 ·have h8': ¬(8:Int)<=(ns:Int):=by omega
  obtain⟨er,her⟩:=au (fq s ne);have HER:=aG her;go_enter func13,ntmps13;go_upto_region 3 with fail;refine dn (fun _ _ W=>aq wB W) [kn 14 (.agg (svC (s,.slice p s.roles.length c))),kn 15 (ab gD 0),kn 16 (ab gD 0),kn 17 (ab gD 0),kn 18 (ab gD 1),kn 19 (.slice pe ne ce),kn 20 (ag (ne:Int)),kn 21 (ag er),kn 5 (ag er)] (fun _=>(aI _ _).drew) (fun _ _ _ _ hb h=>aw h hb) (by kernel_rfl) ?_ ?_
  ·rintro M φ W hb _ F l hl hF;have n1:=bt hb nA';have z1:=aj hb z1;have cW:=xz s (.slice p s.roles.length c) (ne:Int) W (HRR.o.below hb);rw[her]at cW;clear her nA' nB z2;simp only[kn,dX,aR,aX,Act.put,aA,aK,aJ]at hl;subst hl;simp only[dc,Nat.reduceAdd]at hF;dsimp only[kn,dC,eJ,eg,Act.put];and_intros;all_goals first|exact trivial|intro hw hn hm K hK
   all_goals try (go_simp;with_reducible exact hK _ _ ⟨rfl,aI _ _⟩)
   ·show Oper.wp _ _ _ _ _ _;refine eo 41 _ rfl _ (by simp[Act.eval,hF]) _ _ _ _ n1 svT rfl (by kernel_rfl) ?_;exact hK _ _ ⟨rfl,aI _ _⟩
   ·go_simp;refine cW.mono ?_;rintro r' W' ⟨rfl,hb'⟩;exact hK _ _ ⟨rfl,hb'⟩
  ·rintro M φ wX hM hb;simp only[kn,en,aR,aX,Act.put,aA,aK,aJ];have nAX:=bt hb nA';have nBX:=bt hb nB;have y2:=aj hb z2;have HBX:=aG hb;have hmX:=HM.o.below hb;have HMX:=aG hmX;clear hM hb nA' nB z1 z2 her hmX hA hB;by_cases h0:er=0
   ·subst h0;have hsm:=vu HER.o;have hmX:=HMX.o;have hgX:=aH hmX.blk;have hown:wX.ownsRow B 41 4 (.slice ps ns cs) ns (svF ss):=(by have:=hmX.svs;rw[HSS.o]at this;rw[<-HSV.o];exact this);have hBX:B<=wX.heap.size:=(by have:=hmX.lo;omega);go_upto_region 6 with fail;refine dn (SvJ wX B gD s (.slice ps ns cs) ns ss) [kn 26 (ab gD 0),kn 27 (ab gD 0),kn 28 (ab gD 0),kn 29 (ab gD 0),kn 30 (ab gD 2),kn 31 (.slice ps ns cs),kn 32 (.agg (svC (s,.slice p s.roles.length c))),td 33,td 34,td 35,kn 36 (ab gD 0),kn 37 (ab gD 0),kn 38 (ab gD 2),nk] (fun _=>⟨fun _=>(aI _ _).drew,(fun h=>by cases h),(fun h=>by cases h),(fun h=>by cases h),(fun h=>by cases h)⟩) (fun _ _ _ _ hb h=>⟨fun c=>(h.bel c).trans (hb.mono (h.bel c).size),fun c c'=> ?_,fun c c'=> ?_,fun c c'=> ?_,fun c=> ?_⟩) (by kernel_rfl) ?_ ?_
    ·obtain⟨p',c',e,hr⟩:=h.cop c c';exact⟨p',c',e,hr.below hb⟩
    ·obtain⟨g,c1,x,e1,e2,hg⟩:=h.one c c';exact⟨g,c1,x,e1,e2,bt hb hg⟩
    ·obtain⟨g,c1,p',k',W0,e1,hg,hr⟩:=h.app c c';exact⟨g,c1,p',k',W0,e1,hg.below hb,hr.below hb⟩
    ·obtain⟨g,c1,p',k',W0,W1,e1,hg,hb1,hr⟩:=h.sto c;exact⟨g,c1,p',k',W0,W1,e1,hg,hb1.trans (hb.mono (by have:=hb1.size;simpa using this)),hr.below hb⟩
    ·rintro M φ W hJ hc F l hl hF;have c98:M 9=true->M 8=true:=fun h=>hc 9 _ rfl h ⟨8,.data⟩ (by simp) rfl rfl;have c87:M 8=true->M 7=true:=fun h=>hc 8 _ rfl h ⟨7,.data⟩ (by simp) rfl rfl;have cD9:M 13=true->M 9=true:=fun h=>hc 13 _ rfl h ⟨9,.data⟩ (by simp) rfl rfl;have HCS:=aG (fI c98 (fI c87 cD9));have HJ:=aG hJ;clear hc c98 c87 cD9 hJ;simp only[kn,td,nk,dX,aR,aX,Act.put,aA,aK,aJ]at hl;subst hl;simp only[dc,Nat.reduceAdd]at hF;dsimp only[kn,dk,td,nk,dC,eJ,eg,Act.put];and_intros;all_goals first|exact trivial|intro hw hn hm K hK
     all_goals try (go_simp;with_reducible exact hK _ _ ⟨rfl,aI _ _⟩)
     ·have hb:=HJ.o.bel (hn 9 _ rfl (by kernel_rfl));have y:=aj hb y2;go_simp;exact hK _ _ ⟨rfl,aI _ _⟩
     ·have n1:=bt (HJ.o.bel (iW HCS.o.1 (iW HCS.o.2.1 (hn 7 _ rfl (by kernel_rfl))))) nAX;show Oper.wp _ _ _ _ _ _;refine eo 41 _ rfl _ (by simp[Act.eval,hF]) _ _ _ _ n1 svT rfl (by kernel_rfl) ?_;exact hK _ _ ⟨rfl,aI _ _⟩
     ·have h8:=iW HCS.o.2.1 hm;have h9:=iW HCS.o.1 h8;have hD:=iW HCS.o.2.2 h9;have hb:=HJ.o.bel h9;have cC:=Fp s p c W ((HRR.o.below HBX.o).below hb) hsm.1 hsm.2;clear hw hn;go_simp;refine cC.mono ?_;rintro r' W' ⟨p',c',rfl,hrob,hb'⟩;exact hK _ _ ⟨trivial,fun _=>aw hb hb',fun _ _=>⟨p',c',dD,hrob.move (aB _) (fun _ _ _=>rfl) fun q _ hq=>bf hb.size hq⟩,fun c _=>lD h8 c (by decide),fun c _=>lD h9 c (by decide),fun c=>lD hD c (by decide)⟩
     ·have h7:=hw ⟨7,.data⟩ (by simp) rfl rfl;have h9:=iW HCS.o.1 hm;have hD:=iW HCS.o.2.2 h9;have hb:=HJ.o.bel h9;obtain⟨p',c',e33,hrob⟩:=HJ.o.cop h7 h9;have hbA:=am W (.cells (svC (s,.slice p' s.roles.length c')) 41);have HF:=aG hF;rw[e33]at hF;clear hw hn;go_simp;exact hK _ _ ⟨trivial,fun _=>aw hb hbA,fun _ _=>⟨p',c',(cQ (by decide)).trans e33,hrob.below hbA⟩,fun _ _=>⟨W.heap.size,1,_,dD,(cQ (by decide)).trans e33,aE _ _⟩,fun c _=>lD h9 c (by decide),fun c=>lD hD c (by decide)⟩
     ·have h8:=hw ⟨8,.data⟩ (by simp) rfl rfl;have hD:=iW HCS.o.2.2 hm;have hb:=HJ.o.bel hm;obtain⟨p',c',e33,hrob⟩:=HJ.o.cop (HCS.o.2.1 h8) hm;obtain⟨g,c1,x,e34,e33',hg⟩:=HJ.o.one h8 hm;obtain rfl:svC (s,.slice p' s.roles.length c')=x:=(by rw[e33]at e33';injection e33');have hownW:=br hown fun b hq=>hb.block b (hown.lt b hq).2;show Oper.wp _ _ _ _ _ _;refine iP (ops:= #[]) rfl (iA (c:=c1) rfl _ _ 26 41 rfl Pr svI rfl (by decide) (by decide) (by simp[Act.eval,hF]) hownW (by simp[Act.eval,hF,e34]) hg rfl (uQ _ _ _ _) (by omega) (bf hBX hb.size) ?_);rintro v' w' ho hgr hbl ⟨g2,c2,rfl⟩;refine⟨rfl,hK _ _ ⟨trivial,fun c=>by simp at c,fun _ c=>by simp at c,fun _ c=>by simp at c,fun _ _=>⟨g2,c2,p',c',W,dD,?_,Rob.move (P:=fun q=>wX.heap.size<=q/\q<W.heap.size) (w:=W) (fun u hu ha=>hrob u hu fun q hq hl=>ha q ⟨hq,hl⟩ hl) hgr.size (fun q hq hl=>hgr.block q hl fun e=>by have:=(hown.lt q e.symm).2;omega) fun _ _ h=>h⟩,fun c=>lD hD c (by decide)⟩⟩;rw[dD];exact⟨hb,hgr,hbl,ho⟩
     ·have h9:=hw ⟨9,.data⟩ (by simp) rfl rfl;obtain⟨g,c1,p',c',W0,e35,hG,hrob⟩:=HJ.o.app h9 hm;have blkW:=(hG.2.1.block gD (aT hgX hG.1.size) fun e=>iq hown hmX.blk (by decide) e.symm).trans (bt hG.1 hmX.blk);have y:=cr 2 blkW rfl;have x2:=bl _ _ 2 _ _ blkW;rw[e35]at hF;clear hw hn blkW;go_simp;refine hK undef _ ⟨trivial,fun c=> ?_,fun _ c=> ?_,fun _ c=> ?_,fun _ c=>by simp at c,fun _=>⟨g,c1,p',c',W0,W,e35,hG,by rw[e35];exact aI _ _,hrob.move (by simp) (fun q hq _=>aO _ _ _ _ (fun e=>by have:q=gD:=e;omega)) fun _ _ h=>h⟩⟩
      ·rw[orZ (by decide),h9]at c;cases c
      ·rw[orZ (by decide),h9]at c;cases c
      ·rw[orZ (by decide),h9]at c;cases c
    ·rintro M φ W hM hJ;obtain⟨g,c1,p',c',W0,W1,e35,hG,hbW,hrob⟩:=hJ.sto (hM 13 (by decide) rfl);simp only[kn,td,nk,en,aR,aX,Act.put,aA,aK,aJ];rw[e35]at hG hbW;rw[e35];obtain⟨hm2,hk2⟩:=hmX.addSv (d:=d) (s:=s) (by rw[HSS.o];show qG wX B 41 4 ns t.sv _ _ _ _ _;rw[HSV.o];exact hG) hbW hrob;have hok:=HOK.o;have hl1:((d.svs++[s]).length:Int)=(d.svs.length:Int)+1:=(by simp)
     have hd2:dt B gD {d with svs:=d.svs++[s]} (({t with sv:= .slice (some (ae g 0)) (ns+1) c1}:Tr).add wA.heap.size) W:=⟨⟨hok.flt,hok.vl,hok.kl,hok.rl,by show(d.svs++[s]).length<=8;rw[aP,HNS.o];simp;omega,hok.al,hok.gv,hok.nm,fun q hq=>by
      rcases bU.1 hq with hq|hq
      ·exact hok.sv q hq
      ·rw[bT.1 hq];show fq s (d.res.length:Int)=0;rw[HNE.o];exact HER.o,fun a ha=>by
      obtain⟨q1,q2⟩:=hok.ap a ha;exact⟨⟨q1.1,by have:=q1.2;show a.sv<((d.svs++[s]).length:Int);omega⟩,q2⟩⟩,_,_,_,_,_,_,hm2⟩
     have hkw:Kd gD t {t with sv:= .slice (some (ae g 0)) (ns+1) c1} w W:=Kd.opened (q:=wA.heap.size) (aw HBW.o HBX.o) hk2;have HP:PH (rA d s=(iV ns,{d with svs:=d.svs++[s]})):=(by show _=_;unfold rA;rw[ax (by rw[HNS.o];exact h8),HNE.o,HER.o,ax (by simp),HNS.o]);have nBW:=(hk2.blk wA.heap.size (hmX.nx _ bq).2.2 (aH nBX)).trans nBX;have y3:W.cell? (ae gD 2)=some (.slice (some (ae g 0)) (ns+1) c1):=cr 2 hm2.blk rfl;have HO:=aG (fB hd2 hkw (by omega) (anC (iV ns) (af) (af)));have HR:=aG (aL _ _ _ (anC (iV ns) (af) (af)) _ _ nBW);have hw1:IntKind.i64.wrap ((ns:Int)+1-1)=(ns:Int):=(by rw[bG];omega);clear hM hJ hG hbW hrob hm2 hk2 hd2 hkw hok hl1 y2 nAX nBX hmX hown hsm;go_wp2_with(refine ay rfl 47 _ _ rfl _ _ rfl rfl _ _ nBW (by kernel_rfl) rfl (by simp[Value.oneCell']) ?_)
     refine aW (v:= .agg (anC (iV ns) (af) (af))) ?_ rfl ?_
     ·exact bc rfl _ _ wA.heap.size _ _ _ _ rfl HR.o anT rfl (by kernel_rfl)
     ·rw[HP.o];exact⟨_,_,_,rfl,HO.o.1,HO.o.2,fd _ _,et _ _⟩
   ·have h0':(er !=0)=true:=(by simpa using h0);have HP:PH (rA d s=(noA er,d)):=(by show _=_;unfold rA;rw[ax (by rw[HNS.o];exact h8),HNE.o,HER.o,aD h0]);clear h0;have cR:=eZ er wX;go_wp2_with fail;refine cR.mono ?_;rintro e w2 ⟨rfl,b2⟩;have n2:=bt b2 nBX;have hb2:=aw HBX.o b2;have HO:=aG (fB (HDB.o.below hb2) (Kd.of (aw HBW.o hb2)) (by omega) (anC (noA er) (af) (af)));have HR:=aG (aL _ _ _ (anC (noA er) (af) (af)) _ _ n2);clear cR b2 hb2 nBX;go_wp2_with(refine ay rfl 47 _ _ rfl _ _ rfl rfl _ _ n2 (by kernel_rfl) rfl (by simp[anC,noA,Value.oneCell']) ?_)
    refine aW (v:= .agg (anC (noA er) (af) (af))) ?_ rfl ?_
    ·exact bc rfl _ _ wA.heap.size _ _ _ _ rfl HR.o anT rfl (by kernel_rfl)
    ·rw[HP.o];exact⟨t,_,_,rfl,HO.o.1,HO.o.2,fd _ _,et _ _⟩
end
end
def mkF (l:List M):List Value:=l.flatMap fun f=>(mv f).toList
theorem pW (f:M):(mv f).size=23:=bO f
theorem Mt (n:Nat):(kW n).toList=mkF (List.replicate n fun _=>false):=by
 apply List.ext_getElem?;intro i;by_cases hi:i<n*23
 ·have h1:i/23<n:=Nat.div_lt_of_lt_mul (by omega);have h2:i%23<23:=Nat.mod_lt _ (by omega);have h3:i=i/23*23+i%23:=(by omega);have hl:(List.replicate n (fun _=>false:M))[i/23]? =some fun _=>false:=(by rw[ig,aD h1]);rw[h3,bp,zU h1 h2];exact(oD pW hl _ h2).symm
 ·rw[eV (by simp[kW,madeCells];omega),eV (by unfold mkF;rw[oF pW,List.length_replicate];omega)]
theorem Iq (f:List Int->Bool)(F:Nat)(caps:Array Value)(ls:List (List Int))(rv:Value)(w:World)(eF: ∀args w,(callFunc F args).run prog w= .ok (.enter F args) w)(h:fk w rv ls)(hc: ∀l∈ls,∀sv W,aq w W->dS W sv l->Calls prog F (#[sv]++caps) W fun e w'=>e= .returned (.bool (f l))/\aq W w'):
  Calls prog 76 #[rv,.func (.func F) #[] caps] w fun e w'=> ∃k:Int,e= .returned (ag k)/\decide (0<=k)=ls.any f/\aq w w':=by
 have HR:=aG h;obtain⟨p,c,rfl,hlen,hx0⟩:=h;have HC:=aG hc;obtain⟨n,hn⟩:=au ls.length;have HN:=aG hn;rw[hn]at hlen⊢;have hn1:(n:Int)<9223372036854775808:=by omega
 clear hc hn hx0;go_enter func76,ntmps76;go_wp2_with fail;go_loopw [5,8] (fun _ t wr=> ∃(j:Nat),t=ag (j:Int)/\j<=n/\aq w wr/\ls.any f=(ls.drop j).any f) (fun _ t _=>n-(intOf t).toNat);case atStart=>exact⟨0,rfl,by omega,aI _ _,rfl⟩
 case round=>
  obtain⟨j,rfl,hj,hbr,hX⟩:=hrel;have hj0:(0:Int)<=(j:Int):=(by omega);by_cases hlt:j<n
  ·have hlt':(j:Int)<(n:Int):=(by omega);obtain⟨x,hx⟩: ∃x,ls[j]? =some x:=⟨ls[j]'(by have:=HN.o;omega),az _⟩
   have hdr:(ls.drop j).any f=(f x||(ls.drop (j+1)).any f):=by
    obtain⟨h1,h2⟩:=aF.1 hx;rw[bv h1,h2];rfl
   rw[hdr]at hX;obtain⟨p',c',e',_,hcell⟩:=HR.o;injection e' with e1 e3 e2;subst e1 e2;obtain⟨g,o,sv,hpe,hce,hrow⟩:=hcell j x hx;subst hpe;have hce':=aj hbr hce;have c1:=HC.o x (aM hx) sv wr hbr (hrow.below hbr);obtain⟨ps,cs,rfl,_,_⟩:=hrow;obtain⟨b,hb⟩:=au (f x);rw[hb]at c1 hX;have HX:=aG hX;have HB:=aG hbr;clear hX hb hx hcell hdr hce hbr e3;go_wp2_with fail;refine c1.mono ?_;rintro e w1 ⟨rfl,hb1⟩;have hbw:=aw HB.o hb1;clear c1 hce' hb1;cases b with
   |true=>
    have HY:PH (ls.any f=true):=HX.o;clear HX;go_wp2_with fail;go_ret;exact⟨j,rfl,by rw[HY.o];exact bm hj0,hbw⟩
   |false=>
    have HY:PH (ls.any f=(ls.drop (j+1)).any f):=HX.o;clear HX;go_wp2_with fail;go_roundw;case rel=>exact⟨j+1,by go_num,by omega,hbw,HY.o⟩
    case measure=>simp[intOf];omega
  ·have hlt': ¬(j:Int)<(n:Int):=(by omega)
   have HY:PH (ls.any f=false):=by
    show _=_;rw[hX,df (by have:=HN.o;omega)];rfl
   clear hX;go_wp2_with fail;go_ret;exact⟨-1,rfl,by rw[HY.o];rfl,hbr⟩
theorem yL (f:List Int->Bool)(F:Nat)(caps:Array Value)(ls:List (List Int))(rv:Value)(w:World)(eF: ∀args w,(callFunc F args).run prog w= .ok (.enter F args) w)(h:fk w rv ls)(hc: ∀l∈ls,∀sv W,aq w W->dS W sv l->Calls prog F (#[sv]++caps) W fun e w'=>e= .returned (.bool (f l))/\aq W w'):
  Calls prog 52 #[rv,.func (.func F) #[] caps] w fun e w'=>e= .returned (.bool (ls.any f))/\aq w w':=by
 have c0:=Iq f F caps ls rv w eF h hc;obtain⟨p,c,rfl,hx1,hx0⟩:=h;clear hx0 hx1 hc;go_enter func52,ntmps52;go_wp2_with fail;refine c0.mono ?_;rintro e w1 ⟨k,rfl,hk,hb⟩;clear c0;obtain⟨b,hb'⟩: ∃q,ls.any f=q:=⟨_,rfl⟩
 rw[hb']at hk;have HE:=aG hb';clear hb';go_wp2_with fail;go_ret;exact⟨by rw[HE.o];rfl,hb⟩
theorem Fy {g8 j:Nat}(l:List Int)(sv:Value)(W:World)(h:dS W sv l)(n8:W.heap[g8]? =ah #[ag (j:Int)] 3):Calls prog 53 #[sv,ab g8 0] W fun e w'=>e= .returned (.bool (decide ((j:Int)∈l)))/\aq W w':=by
 have c1:=jG l sv (j:Int) W h;have z:=cr 0 n8 rfl;obtain⟨p,c,rfl,hx1,hx0⟩:=h;clear hx1 hx0 n8;go_enter func53,ntmps53;go_wp2_with fail;refine c1.mono ?_;rintro e w1 ⟨rfl,hb⟩;clear c1;go_wp2_with fail;go_ret;exact⟨rfl,hb⟩
section
theorem qV (d:Dk)(r day but:Int):Cor d (ip d r day but).2:=sI d r day
theorem Ir (s:Sv)(day:Int){n j:Nat}(hj:j<n)(d:Dk):fZ s day (n-j) j d=if s.roles.any (fun p=>decide ((j:Int)∈p))=true then((ip d (j:Int) day (-1)).1::(fZ s day (n-(j+1)) (j+1) (ip d (j:Int) day (-1)).2).1,(fZ s day (n-(j+1)) (j+1) (ip d (j:Int) day (-1)).2).2) else(noM::(fZ s day (n-(j+1)) (j+1) d).1,(fZ s day (n-(j+1)) (j+1) d).2):=by
 rw[show n-j=(n-(j+1))+1 by omega];rfl
section
variable {B gD:Nat} {d:Dk} {t:Tr} {w w':World}
theorem dt.wr (h:dt B gD d t w)(hs:w.heap.size<=w'.heap.size)(hk: ∀k,k<w.heap.size->k∉t.xs->w'.heap[k]? =w.heap[k]?):dt B gD d t w':=by
 obtain⟨h0,rv,cv,vv,kv,ss,aa,h⟩:=h;have mv: ∀{Φ:World->Prop},Rob (Fx gD t) Φ w->Rob (Fx gD t) Φ w':=fun hR=>hR.move hs (fun k hf hl=>hk k hl hf.2) fun _ _ h=>h;have rk: ∀{e s n:Nat} {u:Value} {xs:List Value},w.ownsRow B e s u n xs->(∀q∈t.xs,some q≠u.ownBlock)->w'.ownsRow B e s u n xs:=fun hr hn=>br hr fun b hb=>hk b (hr.lt b hb).2 fun hx=>hn b hx hb.symm;exact⟨h0,rv,cv,vv,kv,ss,aa,(hk gD (aH h.blk) fun hx=>(h.nx gD hx).2.2.1 rfl).trans h.blk,h.lo,mv h.rules,mv h.codes,mv h.vers,mv h.kept,rk h.res fun q hq=>(h.nx q hq).2.2.2.1,rk h.svs fun q hq=>(h.nx q hq).2.2.2.2.1,h.sve,fun p hp=>mv (h.svr p hp),rk h.aps fun q hq=>(h.nx q hq).2.2.2.2.2,h.ape,fun p hp=>mv (h.apr p hp),fun q hq=>⟨aT (h.nx q hq).1 hs,(h.nx q hq).2⟩⟩
theorem Kd.on {q:Nat}(h:Kd gD t t w w'):Kd gD (t.add q) (t.add q) w w':=⟨h.os,h.tape,h.output,h.size,h.blk,fun _ _ h=>h,rfl⟩
theorem Kd.off {q:Nat}(h:Kd gD (t.add q) (t.add q) w w'):Kd gD t t w w':=⟨h.os,h.tape,h.output,h.size,h.blk,fun _ _ h=>h,rfl⟩
structure FrJ (B gD:Nat)(t:Tr)(d e:Dk)(wX:World)(gm o:Nat)(c:Array Value)(M:Nat->Bool)(W:World):Prop where
 kd:M 7=false->Kd gD t t wX W
 st:M 7=false->dt B gD (bif M 5 then e else d) (t.add gm) W
 fin:M 7=true-> ∃W0,Kd gD t t wX W0/\dt B gD e (t.add gm) W0/\Below W0.heap.size (W0.setCells gm o c.toList) W
theorem Db (s:Sv)(p:Option Addr)(c:Nat)(day:Int)(w:World)(h:dt B gD d t w)(hr:Rob (Fx gD t) (fun u=>fk u (.slice p s.roles.length c) s.roles) w):Calls prog 31 #[ab gD 0,.agg (svC (s,.slice p s.roles.length c)),ag day] w fun e w'=> ∃gm,e= .returned (.slice (some (ae gm 0)) d.res.length d.res.length)/\w.heap.size<=gm/\w'.ownsRow w.heap.size 86 23 (.slice (some (ae gm 0)) d.res.length d.res.length) d.res.length (mkF (fZ s day d.res.length 0 d).1)/\dt B gD (fZ s day d.res.length 0 d).2 t w'/\Kd gD t t w w':=by
 obtain⟨wA,hA,bA,nA⟩:=nb w (svC (s,.slice p s.roles.length c)) 41;obtain⟨hok,rv,cv,vv,kv,ss,aa,hm⟩:=h.below bA;obtain⟨pe,ce,hev⟩:=di hm.res;obtain⟨n,hne⟩:=au d.res.length;rw[hne]at hev;have z1:wA.cell? (ae gD 1)=some (.slice pe n ce):=(cr (v:=t.ev) 1 hm.blk rfl).trans (congrArg some hev);have hn12:n<=12:=by rw[<-hne];exact hok.rl
 have hmk:=xK n (by omega) wA;obtain⟨wM,hM,bM,nM⟩:=nb wA (kW n) 86;have hsM:wM.heap.size=wA.heap.size+1:=by rw[<-hM];simp
 have hbw:=aw bA bM;have hdM:=h.opened (q:=wA.heap.size) bA.size hsM hbw
 have hoM:wM.ownsRow wA.heap.size 86 23 (.slice (some (ae wA.heap.size 0)) n n) n (mkF (List.replicate n fun _=>false)):=by
  refine⟨by unfold mkF;rw[oF pW,List.length_replicate],.inr ⟨wA.heap.size,n,kW n,rfl,aB _,nM,aB _,by unfold maxLen;omega,by simp[kW,madeCells],?_⟩⟩;rw[Mt,cj (by unfold mkF;rw[oF pW,List.length_replicate];exact aB _)]
 rw[hM]at hmk;have HN:=aG hne;have HDM:=aG hdM;have HOM:=aG hoM;have HBW:=aG hbw;have HRR:=aG hr;have HG:PH (∀q,w.heap.size<=q->Gx gD t q):=fun q hq=>(h.fx (.inr hq)).1;have nAM:=bt bM nA;have hwA:w.heap.size<wA.heap.size:=by rw[<-hA];simp
 have hwM:wA.heap.size<wM.heap.size:=by omega
 have eF: ∀args w,(callFunc 53 args).run prog w= .ok (.enter 53 args) w:=fun _ _=>rfl;rw[hne];clear h hr hm hok hev hne nA bA bM hbw hdM hoM nM;go_enter func31,ntmps31;go_wp2_with fail;clear z1 hmk hA hM;go_loopw [8,18] (fun _ q wr=> ∃(j:Nat) (dd:Dk) (l:List M),q=ag (j:Int)/\j<=n/\Cor d dd/\dt B gD dd (t.add wA.heap.size) wr/\Kd gD t t w wr/\wr.ownsRow wA.heap.size 86 23 (.slice (some (ae wA.heap.size 0)) n n) n (mkF (l++List.replicate (n-j) fun _=>false))/\l.length=j/\wr.heap[w.heap.size]? =ah (svC (s,.slice p s.roles.length c)) 41/\fZ s day n 0 d=(l++(fZ s day (n-j) j dd).1,(fZ s day (n-j) j dd).2)) (fun _ q _=>n-(intOf q).toNat);case atStart=>exact⟨0,d,[],rfl,by omega,Cor.refl d,HDM.o,Kd.of HBW.o,HOM.o,rfl,nAM,rfl⟩
 case round=>
  obtain⟨j,dd,l,rfl,hj,hco,hd,hk,hown,hlj,hbx,hX⟩:=hrel;have hj0:(0:Int)<=(j:Int):=(by omega);have hcr:dd.res=d.res:=(by obtain⟨_,_,rfl⟩:=hco;rfl);by_cases hjn:j<n
  ·have hjn':(j:Int)<(n:Int):=(by omega);rw[Ir s day hjn]at hX;obtain⟨wC,hC,bC,nC⟩:=nb wr #[ag (j:Int)] 3;have hkC:=hk.trans (Kd.of bC);have hdC:=hd.below bC;have hownC:=br hown fun b hq=>bC.block b (hown.lt b hq).2;have hrC:=(hkC.rob HRR.o).here;have nAC:=bt bC hbx;have yb:wC.cell? (ae w.heap.size 3)=some (.slice p s.roles.length c):=cr 3 nAC rfl;have cC:=yL (fun p=>decide ((j:Int)∈p)) 53 #[ab wr.heap.size 0] s.roles (.slice p s.roles.length c) wC eF hrC (fun l _ sv W hW hrow=>Fy l sv W hrow (bt hW nC));obtain⟨nr,hnr⟩:=au s.roles.length;rw[hnr]at yb cC;have HNR:=aG hnr;obtain⟨bb,hbb⟩:=au (s.roles.any (fun p=>decide ((j:Int)∈p)));rw[hbb]at cC hX;have HX:=aG hX;have HKC:=aG hkC;have HDC:=aG hdC;have HOC:=aG hownC;have HCO:=aG hco;have HLJ:=aG hlj;have HCR:=aG hcr;have HBX:=aG nAC;have hwr:wA.heap.size<wr.heap.size:=aT (hown.lt _ rfl).2 (aB _);clear hX hbb hnr hbx hown hk hkC hd hdC hownC hco hrC hlj hcr bC nAC;go_wp2_with fail;refine cC.mono ?_;rintro e w1 ⟨rfl,b1⟩;have hk1:=HKC.o.trans (Kd.of b1);have hd1:=HDC.o.below b1;have how1:=br HOC.o fun b hq=>b1.block b (HOC.o.lt b hq).2;have nC1:=bt b1 nC;have nb1:=bt b1 HBX.o;clear cC yb nC hC HKC HDC HOC HBX b1;cases bb with
   |false=>
    have HD1:=aG hd1;have HK1:=aG hk1
    have HO1:PH (w1.ownsRow wA.heap.size 86 23 (.slice (some (ae wA.heap.size 0)) n n) n (mkF ((l++[noM])++List.replicate (n-(j+1)) fun _=>false))):=by
     show World.ownsRow _ _ _ _ _ _ _
     have e:l++List.replicate (n-j) (fun _=>false:M)=(l++[noM])++List.replicate (n-(j+1)) fun _=>false:=by
      rw[show n-j=(n-(j+1))+1 by omega,List.replicate_succ,eh];rfl
     rw[<-e];exact how1
    have HZ:PH (fZ s day n 0 d=((l++[noM])++(fZ s day (n-(j+1)) (j+1) dd).1,(fZ s day (n-(j+1)) (j+1) dd).2)):=by
     show _=_;rw[HX.o,ax (by simp),eh];rfl
    have HNB:=aG nb1;clear HX hd1 hk1 how1 nC1 nb1;go_wp2_with fail;go_roundw;case rel=>exact⟨j+1,dd,l++[noM],by go_num,by omega,HCO.o,HD1.o,HK1.o,HO1.o,by rw[aP,HLJ.o];rfl,HNB.o,HZ.o⟩
    case measure=>simp[intOf];omega
   |true=>
    have hjr:(j:Int)<dd.res.length:=(by rw[HCR.o,HN.o];exact hjn');obtain⟨f,hf⟩:=au ((ip dd (j:Int) day (-1)).1);obtain⟨de,hde⟩:=au ((ip dd (j:Int) day (-1)).2);have HCE:PH (Cor d de):=(by have:=HCO.o.trans (qV dd (j:Int) day (-1));rw[hde]at this;exact this)
    have HZ:PH (fZ s day n 0 d=((l++[f])++(fZ s day (n-(j+1)) (j+1) de).1,(fZ s day (n-(j+1)) (j+1) de).2)):=by
     show _=_;rw[HX.o,aD rfl,hf,hde,eh];rfl
    have hgx8:Gx gD t wr.heap.size:=HG.o _ (by omega);have hgxm:Gx gD t wA.heap.size:=HG.o _ (by omega);clear HX;go_upto_region 6 with fail;refine dn (fun M _ W=>FrJ B gD t dd de w1 wA.heap.size (j*23) (mv f) M W) [kn 25 (.slice (some (ae wA.heap.size 0)) n n),kn 26 (ag (j:Int)),kn 27 (ab gD 0),kn 28 (ag (j:Int)),kn 29 (ag day),dk 30 (.agg (mv f)),kn 31 (ab wA.heap.size (j*23)),nk] (fun _=>⟨fun _=>Kd.of (aI _ _).drew,fun _=>hd1.below (aI _ _).drew,(fun h=>by cases h)⟩) (fun _ _ _ _ hb h=>⟨fun c=>(h.kd c).trans (Kd.of hb),fun c=>(h.st c).below hb,fun c=> ?_⟩) (by kernel_rfl) ?_ ?_
    ·obtain⟨W0,h1,h2,h3⟩:=h.fin c;exact⟨W0,h1,h2,h3.trans (hb.mono (by have:=h3.size;rw[(eO _ _ _ _).2.2.2]at this;exact this))⟩
    ·rintro M φ W hJ hc F l' hl hF;have c75:M 7=true->M 5=true:=fun h=>hc 7 _ rfl h ⟨5,.data⟩ (by simp) rfl rfl;have HC:=aG c75;have HJ:=aG hJ;clear hc c75 hJ;simp only[kn,dk,nk,dX,aR,aX,Act.put,aA,aK,aJ]at hl;subst hl;simp only[dc,Nat.reduceAdd]at hF;dsimp only[kn,dk,nk,dC,eJ,eg,Act.put];and_intros;all_goals first|exact trivial|intro hw hn hm K hK
     all_goals try (go_simp;with_reducible exact hK _ _ ⟨rfl,aI _ _⟩)
     ·have z:=cr 0 (((HJ.o.kd (hn 7 _ rfl (by kernel_rfl))).blk _ hgx8 (aH nC1)).trans nC1) rfl;go_simp;exact hK _ _ ⟨rfl,aI _ _⟩
     ·have z:=cr 0 (((HJ.o.kd (iW HC.o (hn 5 _ rfl (by kernel_rfl)))).blk _ hgx8 (aH nC1)).trans nC1) rfl;go_simp;exact hK _ _ ⟨rfl,aI _ _⟩
     ·have h7:=iW HC.o hm;have hst:dt B gD dd (t.add wA.heap.size) W:=(by have:=HJ.o.st h7;rw[hm]at this;exact this);have cF:=B3 (j:Int) day (-1) W hst hj0 hjr;rw[hf,hde]at cF;clear hw hn;go_simp;refine cF.mono ?_;rintro r' W' ⟨rfl,hd',hk'⟩;exact hK _ _ ⟨rfl,fun _=>(HJ.o.kd h7).trans hk'.off,fun _=>hd',fun c=>lD h7 c (by decide)⟩
     ·have h5:=hw ⟨5,.data⟩ (by simp) rfl rfl;have hst:dt B gD de (t.add wA.heap.size) W:=(by have:=HJ.o.st hm;rw[h5]at this;exact this);have hkW:=HJ.o.kd hm;have howW:=br how1 fun b hq=>hkW.blk b (HG.o b (by have:=(how1.lt b hq).1;omega)) (how1.lt b hq).2;have hth:W.there wA.heap.size (j*23) (mv f).size:=(by rw[bO];exact tX howW hjn rfl);show Oper.wp _ _ _ _ _ _;refine wp_store_mid 86 _ _ rfl wA.heap.size (j*23) (mv f) (by simp[Act.eval,hF]) (by simp[Act.eval,hF]) hth (bh _) (dR _) ?_;refine hK undef _ ⟨trivial,fun c=>by simp at c,fun c=>by simp at c,fun _=>⟨W,hkW,hst,aI _ _⟩⟩
    ·rintro M φ W hM hJ;obtain⟨W0,hk0,hd0,hb0⟩:=hJ.fin (hM 7 (by decide) rfl);simp only[kn,dk,nk,en,aR,aX,Act.put,aA,aK,aJ];have hlen:(l++List.replicate (n-j) (fun _=>false:Nat->Bool)).length=n:=(by rw[aP,List.length_replicate,HLJ.o];omega);have how0:=br how1 fun b hq=>hk0.blk b (HG.o b (by have:=(how1.lt b hq).1;omega)) (how1.lt b hq).2;have hsz:=(eO wA.heap.size (mv f).toList (j*23) W0).2.2.2;have hot: ∀q,q≠wA.heap.size->(W0.setCells wA.heap.size (j*23) (mv f).toList).heap[q]? =W0.heap[q]? :=fun q hq=>fz wA.heap.size _ _ W0 q hq;have hb0':Below (W0.setCells wA.heap.size (j*23) (mv f).toList).heap.size (W0.setCells wA.heap.size (j*23) (mv f).toList) W:=hb0.mono (jV hsz);have hop:=DT (f:=mv) (p:=f) (by decide) pW (l:=l++List.replicate (n-j) fun _=>false) (by rw[hlen];exact how0) (j:=j) (by rw[hlen];exact hjn) rfl
     have hset:(l++List.replicate (n-j) (fun _=>false:Nat->Bool)).set j f=(l++[f])++List.replicate (n-(j+1)) fun _=>false:=by
      rw[show n-j=(n-(j+1))+1 by omega,List.replicate_succ,List.set_append_right _ _ (by rw[HLJ.o];exact aB _),HLJ.o,iN,eh];rfl
     have HO:PH (W.ownsRow wA.heap.size 86 23 (.slice (some (ae wA.heap.size 0)) n n) n (mkF ((l++[f])++List.replicate (n-(j+1)) fun _=>false))):=by
      rw[jz,hlen,hset]at hop;exact br hop fun b hq=>hb0'.block b (hop.lt b hq).2
     have HD:=aG ((hd0.wr (jV hsz.symm) fun k _ hx=>hot k fun e=>hx (by rw[e];exact bq)).below hb0');have h10:=hk0.size;have h11:=hk1.size;have hany: ∀q,q≠wA.heap.size->q<w1.heap.size->Gx gD t q->W.heap[q]? =w1.heap[q]? :=fun q hq hl hg=>(hb0.block q (by omega)).trans ((hot q hq).trans (hk0.blk q hg hl));have HK:PH (Kd gD t t w W):=⟨hb0.os.trans ((eO _ _ _ _).1.trans (hk0.os.trans hk1.os)),hb0.tape.trans ((eO _ _ _ _).2.1.trans (hk0.tape.trans hk1.tape)),hb0.output.trans ((eO _ _ _ _).2.2.1.trans (hk0.output.trans hk1.output)),bf h11 (bf h10 (by have:=hb0.size;rw[hsz]at this;exact this)),fun q hq hl=>(hany q (by omega) (by omega) hq).trans (hk1.blk q hq hl),fun _ _ h=>h,rfl⟩
     have HNB:=aG ((hany w.heap.size (by omega) (aH nb1) (HG.o _ (aB _))).trans nb1);clear hM hJ hk0 hd0 hb0 hb0' hot hop hset how0 how1 hlen hsz hany h10 h11 hd1 hk1 nC1 nb1 hf hde hjr hgx8 hgxm;go_wp2_with fail;go_roundw;case rel=>exact⟨j+1,de,l++[f],by go_num,by omega,HCE.o,HD.o,HK.o,HO.o,by rw[aP,HLJ.o];rfl,HNB.o,HZ.o⟩
     case measure=>simp[intOf];omega
  ·have hjn': ¬(j:Int)<(n:Int):=(by omega);obtain rfl:n=j:=(by omega);rw[iN]at hX hown
   have HX:PH (fZ s day n 0 d=(l,dd)):=by
    show _=_;rw[hX];simp[fZ]
   have HD:=aG (hd.closed (w':=wr) (aB _) fun _ _ _=>rfl);have HK:=aG hk
   have HO:PH (wr.ownsRow w.heap.size 86 23 (.slice (some (ae wA.heap.size 0)) n n) n (mkF l)):=by
    have h1:l++List.replicate 0 (fun _=>false:M)=l:=(by simp);rw[h1]at hown;exact⟨hown.1,hown.2.imp id fun⟨g,c,cu,q1,q2,q3⟩=>⟨g,c,cu,q1,by omega,q3⟩⟩
   clear hX hd hk hown hco hcr hlj hbx;go_wp2_with fail;go_ret;exact⟨wA.heap.size,rfl,by omega,by rw[HX.o];exact HO.o,by rw[HX.o];exact HD.o,HK.o⟩
end
end
theorem NW:(prog.info? 78).map (fun i=>(i.zero,i.size,i.bytes))=some (some (af),1,24):=by kernel_rfl
theorem Mu:prog.underlying 77=some (.slice 78):=by kernel_rfl
theorem slT:prog.underlying 36=some (.struct (prog.fieldsOf 36)):=by kernel_rfl
theorem Is (s:Sv)(day:Int){m j:Nat}(hj:j<m)(d:Dk):iM s day (m-j) j d=((fZ s (day+j) d.res.length 0 d).1::(iM s day (m-(j+1)) (j+1) (fZ s (day+j) d.res.length 0 d).2).1,(iM s day (m-(j+1)) (j+1) (fZ s (day+j) d.res.length 0 d).2).2):=by
 rw[show m-j=(m-(j+1))+1 by omega];rfl
theorem oG (s:Sv)(day:Int): ∀(m r:Nat) (d:Dk),Cor d (fZ s day m r d).2/\(fZ s day m r d).1.length=m
 |0,_,d=>⟨Cor.refl d,rfl⟩
 |m+1,r,d=>by
  unfold fZ;split
  ·exact⟨(qV d r day (-1)).trans (oG s day m (r+1) _).1,congrArg (· +1) (oG s day m (r+1) _).2⟩
  ·exact⟨(oG s day m (r+1) d).1,congrArg (· +1) (oG s day m (r+1) d).2⟩
theorem mf (d:Dk)(n:Int)(a:Ap)(day min:Int)(who:List Int):Cor d (eW d n a day min who).2:=by
 have h:=v8 (f:=kR day n (min-a.bef) (min+a.len+a.aft)) (fun x d=>qV d x day n) who d;unfold eW;dsimp only;repeat' split
 all_goals first|exact Cor.refl d|exact h
theorem Cc (s:Sv): ∀(l:List (List (Nat->Bool))) (k:Nat) {x:Nat×Int×List Int},lH s l k=some x->x.1<k+l.length
 |[],k,x,h=>by simp[lH]at h
 |f::l,k,x,h=>by
  unfold lH at h;split at h
  ·cases h;simp
  ·have:=Cc s l (k+1) h;simp only[bJ];omega
theorem It (s:Sv)(l:List (List (Nat->Bool))):0<=(gO s l).day/\(gO s l).day<=30:=by
 unfold gO;split
 ·exact⟨gX _,by show(0:Int)<=30;omega⟩
 ·split
  ·exact⟨gX _,by show(0:Int)<=30;omega⟩
  ·split
   ·rename_i h;have:=Cc s l 0 h;exact⟨by show(0:Int)<=((_:Nat):Int);omega,by show((_:Nat):Int)<=30;omega⟩
   ·exact⟨gX _,by show(0:Int)<=30;omega⟩
theorem Iu {w:World}{B nr:Nat}{v:Value}{ms:List (List M)}{vs:List Value}(ho:w.ownsRow B 78 1 v ms.length vs)(hl:ms.length<=1000)(hn:nr<=1000)(he: ∀(i:Nat) (fs:List M) (u:Value),ms[i]? =some fs->vs[i]? =some u->fs.length=nr/\w.ownsRow B 86 23 u nr (mkF fs)):uJ w v ms:=by
 obtain⟨p,c,hv⟩:=di ho;refine⟨p,c,hv,by omega,fun j fs hj=> ?_⟩;have hjl:=(aF.1 hj).1;obtain⟨u,hu⟩: ∃u,vs[j]? =some u:=⟨vs[j]'(by have:=ho.1;omega),az _⟩
 obtain⟨g,c',e,_,hc⟩:=rX ho (by omega);rw[hv]at e;injection e with e1 _ _;obtain⟨hl1,hou⟩:=he j fs u hj hu;refine⟨g,0,u,e1,by rw[bN];exact hc j u hu,?_⟩;obtain⟨p2,c2,hv2⟩:=di hou;refine⟨p2,c2,by rw[hl1];exact hv2,by omega,fun i f hi=> ?_⟩;have hil:=(aF.1 hi).1;obtain⟨g2,c3,e2,_,hr⟩:=jy (f:=mv) (l:=fs) pW hou hl1.symm hi;rw[hv2]at e2;injection e2 with e3 _ _;exact⟨g2,0,e3,by rw[bN];exact hr⟩
end Go.Proofs.YtkfidffapdhbhaaGreatDoor
