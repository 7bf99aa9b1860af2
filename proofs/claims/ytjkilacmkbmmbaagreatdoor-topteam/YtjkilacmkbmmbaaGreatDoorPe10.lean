/- Texts of the proof. -/
import Derived.Test.YtjkilacmkbmmbaaGreatDoorPe09
set_option maxRecDepth 100000
set_option maxHeartbeats 8000000
namespace Go.Proofs.YtjkilacmkbmmbaaGreatDoor
open Go.Proofs.Tryz Go.RowKit Lx Vx Mx Msk
theorem Hj (cs:List Cd)(l:List Kp)(cv lv:Value)(runs ver rule day:Int)(w:World)(h:dM 0 w cv l)(hl:l.length<=676622540150)(hin:InV w lv cs)(hmiss:nT l ver rule day=false)(hne:(iU cs rule day).1≠0):
  Calls prog 159 #[.agg #[cv,ag runs],lv,ag ver,ag rule,ag day] w (yF (fun _=>false) [] 0 (iU cs rule day).1 ((iU cs rule day).2:Int) w):=by
 obtain⟨i,hii⟩:=aq (gX rule day l 0);have hiL:=rK rule day l 0;rw[hii]at hiL;have hil:i<l.length:=by omega
 have hil2:i<=676622540150:=by omega
 have hil3: -1<=i:=by omega
 have hz:=dU;obtain⟨wA,hwA,bA,n5,n8,n9,n10,n11,n12⟩:=BP cv runs rule day w;have c1:=tz l cv (w.heap.size+1) (w.heap.size+2) rule day wA (h.later bA) n8 n9;rw[hii]at c1;have z5:=ak 0 n5;obtain⟨er,her⟩:=aq ((iU cs rule day).1);obtain⟨at_,hat⟩: ∃q:Int,((iU cs rule day).2:Int)=q:=⟨_,rfl⟩
 obtain⟨f,hf⟩:=aq (oY cs rule day);obtain⟨sn,hsn⟩: ∃q:Int,(vM cs rule day:Int)=q:=⟨_,rfl⟩
 have HRUN:P3 (∀W,ao w W->Calls prog 187 #[lv,ag rule,ag day] W (E6 f sn er at_ W)):=fun W hW=>by
  have:=BL cs lv rule day W (hin.below hW);rw[her,hat,hf,hsn]at this;exact this
 rw[her]at hne⊢;rw[hat];have hbe:(er==0)=false:=bf.2 hne;have hbn:(er !=0)=true:=by simpa using hne
 clear her hat hf hsn hne;have HK:=aY h;obtain⟨p,c,rfl,hlc,hcm,_⟩:=h;have HB:=aY bA;have hm9:c<=9223372036854775807:=by unfold maxLen at hcm;omega
 have hnh: ∀k,l[i.toNat]? =some k->0<=i->k.v≠ver:=fun k hk hi0 e=>by
  have:l.getD i.toNat k0=k:=(by simp[List.getD,hk]);unfold nT at hmiss;rw[hii,this,Bool.and_eq_false_iff,decide_eq_false_iff_not,decide_eq_false_iff_not]at hmiss;rcases hmiss with q|q
  ·exact q hi0
  ·exact q e
 have HNH:=aY hnh;clear hii hiL hmiss hcm bA hnh hin;go_enter func159,ntmps159;go_wp2_with fail;refine c1.mono ?_;rintro e w1 ⟨rfl,b1⟩;have HB1:=aY (au HB.o b1);have m5:=ai b1 n5;have m8:=ai b1 n8;have m9:=ai b1 n9;have m10:=ai b1 n10;have m11:=ai b1 n11;have m12:=ai b1 n12;have z51:=ak 0 m5;have z81:=ak 0 m8;have z91:=ak 0 m9;have c2:=HRUN.o w1 HB1.o;clear c1 n5 n8 n9 n10 n11 n12 b1 hwA z5 HB HRUN;by_cases hi0:0<=i
 case' pos=>
  obtain⟨n,rfl⟩: ∃n:Nat,i=(n:Int):=⟨i.toNat,by omega⟩
  obtain⟨k,hk⟩: ∃k,l[n]? =some k:=⟨l[n]'(by omega),ax (by omega)⟩
  have hkv:=HNH.o k hk hi0;obtain⟨g,o,hpe,hrg⟩:=HK.o.at hk;have rg1:=lc hrg HB1.o;have y2:w1.cell? (ae g (o+n*26+2))=some (ag k.v):=rg1 2 _ (by rw[bo];exact JZ k);have hvb:(k.v==ver)=false:=bf.2 hkv;have hni:(n:Int)<(l.length:Int):=(by omega);subst hpe;obtain⟨kv9,hkv9⟩:=aq k.v;rw[hkv9]at y2 hvb;clear rg1 hrg hkv hk HNH hkv9;go_wp2_with fail;clear y2 hvb hni;generalize (n:Int)=i at*;generalize (some ⟨g,o,none⟩:Option Addr)=p at*
 case' neg=>
  have hi1:i<0:=(by omega);clear HNH;go_wp2_with fail
 all_goals
  refine c2.mono ?_
  rintro e w3 ⟨rfl,b3⟩
  have HB3:=aY (au HB1.o b3)
  replace m5:=ai b3 m5
  replace m8:=ai b3 m8
  replace m9:=ai b3 m9
  replace m10:=ai b3 m10
  replace m11:=ai b3 m11
  replace m12:=ai b3 m12
  have bX:ao w3 ((w3.alloc (.cells (mv fun _=>false) 61)).alloc (.cells #[ag 0,ag 0] 47)):=(am _ _).alloc (by simp) _
  have q15:((w3.alloc (.cells (mv fun _=>false) 61)).alloc (.cells #[ag 0,ag 0] 47)).heap[w3.heap.size]? =ah (mv fun _=>false) 61:=by(repeat (first|refine cY _ _ _ (by simp only[aP];omega) ?_|exact dq _ _ _ (by first|rfl|simp only[aP])))
  have q17:((w3.alloc (.cells (mv fun _=>false) 61)).alloc (.cells #[ag 0,ag 0] 47)).heap[w3.heap.size+1]? =ah #[ag 0,ag 0] 47:=by(repeat (first|refine cY _ _ _ (by simp only[aP];omega) ?_|exact dq _ _ _ (by first|rfl|simp only[aP])))
  generalize hwX:(w3.alloc (.cells (mv fun _=>false) 61)).alloc (.cells #[ag 0,ag 0] 47)=wX at*
  have r15:=aJ _ _ _ (mv f) _ _ q15
  have r17:=(aT wX w3.heap.size (w3.heap.size+1) (mv f) (by omega)).trans q17
  have bY:=below_setRow bX (aA _) (mv f)
  generalize hwY:wX.setRow w3.heap.size (mv f)=wY at*
  have n15:=(aT wY (w3.heap.size+1) w3.heap.size #[ag er,ag at_] (by omega)).trans r15
  have n17:=aJ _ _ _ #[ag er,ag at_] _ _ r17
  have bZ:=below_setRow bY (by omega:w3.heap.size<=w3.heap.size+1) #[ag er,ag at_]
  generalize hwZ:wY.setRow (w3.heap.size+1) #[ag er,ag at_]=w4 at*
  have hgl:w.heap.size+5<w3.heap.size:=aF m12
  replace m5:=ai bZ m5
  replace m8:=ai bZ m8
  replace m9:=ai bZ m9
  replace m10:=ai bZ m10
  replace m11:=ai bZ m11
  replace m12:=ai bZ m12
  have z17:=ak 0 n17
  have z8:=ak 0 m8
  have z9:=ak 0 m9
  have HB4:=aY (au HB3.o bZ)
  clear c2 b3 bX bY bZ z51 z81 z91 HB1 HB3
  go_wp2_with(first
   |(refine az rfl 61 _ _ rfl _ _ rfl rfl _ _ q15 (ba _) (by simp[bO]) (dH _) ?_)
   |(refine az rfl 47 _ _ rfl _ _ rfl rfl _ _ r17 (by kernel_rfl) (by simp) (by simp[Value.oneCell']) ?_))
  have HBW:=HB4
  obtain⟨w2,hw2⟩:=aq w4
  obtain⟨g17,hg17e⟩:=aq (w3.heap.size+1)
  rw[hw2]
  rw[hw2]at m5 m10 m11 m12 n17 HBW
  simp only[hg17e]at n17⊢
  have hg17:g17<w2.heap.size:=aF n17
  have hgw:w.heap.size+5<g17:=by omega
  clear hwX hwY hwZ q15 q17 r15 r17 n15 HB4 z17 z8 z9 m8 m9 hw2 hz
  refine dt (fun M φ W=>GJ w w2 (w.heap.size+3) w2.heap.size (fun _=>false) [] 0 er at_ 3 4 5 M W/\GT w2.heap.size [] [] 0 1000 1001 1002 1000 1000 1000 M φ W) [kn 62 (.agg (mv fun _=>false)),kn 63 (.agg #[af,ag 0]),kn 64 (.agg #[ag er,ag at_]),nk,nk,nk] (fun _=>⟨⟨(HBW.o).trans ((aG w2.heap.size w2).drew.mono HBW.o.size),fun _ _ _ _ _=>rfl,aA _,by omega,by omega,fun _=>m10,(fun e=>by cases e),fun _=>m11,(fun e=>by cases e),fun _=>m12,(fun e=>by cases e)⟩,(fun e=>by cases e),(fun e=>by cases e),(fun e=>by cases e)⟩) (fun _ _ _ _ hb h=>⟨h.1.below hb,h.2.mono fun _ _ q=>q.later hb⟩) (by kernel_rfl) (fun M φ W2 hJ hcl FF ll hll hFF=> ?_) (fun M φ W2 hM hJ=> ?_)
  ·simp only[kn,nk,dN,aQ,aW,Act.put,aB,aI,aH]at hll
   subst hll
   simp only[dg,Nat.reduceAdd]at hFF
   obtain⟨hJ,hT⟩:=hJ
   have b17:=(hJ.low g17 hg17 (by omega) (by omega) (by omega)).trans n17
   dsimp only[kn,td,nk,dC,en,dS,Act.put]
   and_intros
   all_goals first|exact trivial|intro qw qn qm K hK
   all_goals try (go_simp;with_reducible exact hK _ _ ⟨rfl,aG _ _⟩)
   ·refine d9 47 _ rfl g17 (by simp[Act.eval,hFF]) _ _ _ _ b17 lQ rfl mP ?_
    exact hK _ _ ⟨rfl,aG _ _⟩
   ·refine dT 61 _ _ rfl _ (mv fun _=>false) (by simp[Act.eval,hFF]) (by simp[Act.eval,hFF]) _ _ (hJ.m0 qm) (ba _) (by simp[bO]) (dH _) ?_
    exact hK undef _ ⟨trivial,hJ.mask qm (by decide) (by decide),(hT.mono fun v l hv=>hv.set (by omega) _).mark 3 (by decide) (by decide) (by decide)⟩
   ·refine dT 93 _ _ rfl _ #[af,ag 0] (by simp[Act.eval,hFF]) (by simp[Act.eval,hFF]) _ _ (hJ.c0 qm) qI (by simp) (by simp[Value.oneCell']) ?_
    exact hK undef _ ⟨trivial,hJ.cache qm (by decide) (by decide) (dM.none _ _ _ _ (df _)),(hT.mono fun v l hv=>hv.set (by omega) _).mark 4 (by decide) (by decide) (by decide)⟩
   ·refine dT 47 _ _ rfl _ #[ag er,ag at_] (by simp[Act.eval,hFF]) (by simp[Act.eval,hFF]) _ _ (hJ.f0 qm) mP (by simp) (by simp[Value.oneCell']) ?_
    exact hK undef _ ⟨trivial,hJ.fault qm (by decide) (by decide),(hT.mono fun v l hv=>hv.set (by omega) _).mark 5 (by decide) (by decide) (by decide)⟩
  ·obtain⟨hJ,_⟩:=hJ
   have hM1:=hJ.m1 (hM 3 (by decide) rfl)
   obtain⟨v9,hC,hK9⟩:=hJ.c1 (hM 4 (by decide) rfl)
   have hF:=hJ.f1 (hM 5 (by decide) rfl)
   have hb9:=hJ.bel
   have hsz9:=hb9.size
   have hb1:=hJ.b1
   have hb0:=hJ.b0
   simp only[kn,nk,dP,aQ,aW,Act.put,aB,aI,aH]
   clear hM hJ
   go_wp2_with fail
   exact vP (w.heap.size+3) (fun _=>false) [] 0 er at_ v9 rfl rfl rfl rfl hM1 hC hF (hK9.low (by omega)) hb9
theorem Mm (cs:List Cd)(l:List Kp)(cv lv:Value)(runs ver rule day:Int)(w:World)(h:dM 0 w cv l)(hl:l.length<=676622540150)(hin:InV w lv cs)(hmiss:nT l ver rule day=false)(hok:(iU cs rule day).1=0):
  Calls prog 159 #[.agg #[cv,ag runs],lv,ag ver,ag rule,ag day] w (yF (oY cs rule day) (uD (fT l (gX rule day l 0)++[⟨rule,day,ver,oY cs rule day⟩])) (IntKind.i64.wrap (runs+1)) 0 0 w):=by
 obtain⟨i,hii⟩:=aq (gX rule day l 0);have hiL:=rK rule day l 0;rw[hii]at hiL;have hil:i<l.length:=by omega
 have hil2:i<=676622540150:=by omega
 have hil3: -1<=i:=by omega
 have hz:=dU;obtain⟨wA,hwA,bA,n5,n8,n9,n10,n11,n12⟩:=BP cv runs rule day w;have c1:=tz l cv (w.heap.size+1) (w.heap.size+2) rule day wA (h.later bA) n8 n9;rw[hii]at c1;have z5:=ak 0 n5;obtain⟨er,her⟩:=aq ((iU cs rule day).1);obtain⟨at_,hat⟩: ∃q:Int,((iU cs rule day).2:Int)=q:=⟨_,rfl⟩
 obtain⟨f,hf⟩:=aq (oY cs rule day);obtain⟨sn,hsn⟩: ∃q:Int,(vM cs rule day:Int)=q:=⟨_,rfl⟩
 have HRUN:P3 (∀W,ao w W->Calls prog 187 #[lv,ag rule,ag day] W (E6 f sn er at_ W)):=fun W hW=>by
  have:=BL cs lv rule day W (hin.below hW);rw[her,hat,hf,hsn]at this;exact this
 rw[hii,hf];obtain⟨rn,hrn⟩:=aq (IntKind.i64.wrap (runs+1));obtain⟨RR,hRR⟩:=aq (uD (fT l i++[(⟨rule,day,ver,f⟩:Kp)]));rw[hrn,hRR];have HRN:=aY hrn;have HRR:=aY hRR;clear hrn hRR
 have hat0:at_=0:=by
  rw[<-hat,J4 hok];rfl
 rw[hok]at her;subst her hat0
 have hdl:(fT l i++[(⟨rule,day,ver,f⟩:Kp)]).length<=676622540160:=by
  have:=E7 (l:=l) hil;simp;omega
 clear hat hf hsn hok;have HK:=aY h;obtain⟨p,c,rfl,hlc,hcm,_⟩:=h;have HB:=aY bA;have hm9:c<=9223372036854775807:=by unfold maxLen at hcm;omega
 have hnh: ∀k,l[i.toNat]? =some k->0<=i->k.v≠ver:=fun k hk hi0 e=>by
  have:l.getD i.toNat k0=k:=(by simp[List.getD,hk]);unfold nT at hmiss;rw[hii,this,Bool.and_eq_false_iff,decide_eq_false_iff_not,decide_eq_false_iff_not]at hmiss;rcases hmiss with q|q
  ·exact q hi0
  ·exact q e
 have HNH:=aY hnh;clear hii hiL hmiss hcm bA hnh hin;go_enter func159,ntmps159;go_wp2_with fail;refine c1.mono ?_;rintro e w1 ⟨rfl,b1⟩;have HB1:=aY (au HB.o b1);have m5:=ai b1 n5;have m8:=ai b1 n8;have m9:=ai b1 n9;have m10:=ai b1 n10;have m11:=ai b1 n11;have m12:=ai b1 n12;have z51:=ak 0 m5;have z81:=ak 0 m8;have z91:=ak 0 m9;have c2:=HRUN.o w1 HB1.o;clear c1 n5 n8 n9 n10 n11 n12 b1 hwA z5 HB HRUN;by_cases hi0:0<=i
 case' pos=>
  obtain⟨n,rfl⟩: ∃n:Nat,i=(n:Int):=⟨i.toNat,by omega⟩
  obtain⟨k,hk⟩: ∃k,l[n]? =some k:=⟨l[n]'(by omega),ax (by omega)⟩
  have hkv:=HNH.o k hk hi0;obtain⟨g,o,hpe,hrg⟩:=HK.o.at hk;have rg1:=lc hrg HB1.o;have y2:w1.cell? (ae g (o+n*26+2))=some (ag k.v):=rg1 2 _ (by rw[bo];exact JZ k);have hvb:(k.v==ver)=false:=bf.2 hkv;have hni:(n:Int)<(l.length:Int):=(by omega);subst hpe;obtain⟨kv9,hkv9⟩:=aq k.v;rw[hkv9]at y2 hvb;clear rg1 hrg hkv hk HNH hkv9;go_wp2_with fail;clear y2 hvb hni;generalize (n:Int)=i at*;generalize (some ⟨g,o,none⟩:Option Addr)=p at*
 case' neg=>
  have hi1:i<0:=(by omega);clear HNH;go_wp2_with fail
 all_goals
  refine c2.mono ?_
  rintro e w3 ⟨rfl,b3⟩
  have HB3:=aY (au HB1.o b3)
  replace m5:=ai b3 m5
  replace m8:=ai b3 m8
  replace m9:=ai b3 m9
  replace m10:=ai b3 m10
  replace m11:=ai b3 m11
  replace m12:=ai b3 m12
  have bX:ao w3 ((w3.alloc (.cells (mv fun _=>false) 61)).alloc (.cells #[ag 0,ag 0] 47)):=(am _ _).alloc (by simp) _
  have q15:((w3.alloc (.cells (mv fun _=>false) 61)).alloc (.cells #[ag 0,ag 0] 47)).heap[w3.heap.size]? =ah (mv fun _=>false) 61:=by(repeat (first|refine cY _ _ _ (by simp only[aP];omega) ?_|exact dq _ _ _ (by first|rfl|simp only[aP])))
  have q17:((w3.alloc (.cells (mv fun _=>false) 61)).alloc (.cells #[ag 0,ag 0] 47)).heap[w3.heap.size+1]? =ah #[ag 0,ag 0] 47:=by(repeat (first|refine cY _ _ _ (by simp only[aP];omega) ?_|exact dq _ _ _ (by first|rfl|simp only[aP])))
  generalize hwX:(w3.alloc (.cells (mv fun _=>false) 61)).alloc (.cells #[ag 0,ag 0] 47)=wX at*
  have r15:=aJ _ _ _ (mv f) _ _ q15
  have r17:=(aT wX w3.heap.size (w3.heap.size+1) (mv f) (by omega)).trans q17
  have bY:=below_setRow bX (aA _) (mv f)
  generalize hwY:wX.setRow w3.heap.size (mv f)=wY at*
  have n15:=(aT wY (w3.heap.size+1) w3.heap.size #[ag 0,ag 0] (by omega)).trans r15
  have n17:=aJ _ _ _ #[ag 0,ag 0] _ _ r17
  have bZ:=below_setRow bY (by omega:w3.heap.size<=w3.heap.size+1) #[ag 0,ag 0]
  generalize hwZ:wY.setRow (w3.heap.size+1) #[ag 0,ag 0]=w4 at*
  have hgl:w.heap.size+5<w3.heap.size:=aF m12
  replace m5:=ai bZ m5
  replace m8:=ai bZ m8
  replace m9:=ai bZ m9
  replace m10:=ai bZ m10
  replace m11:=ai bZ m11
  replace m12:=ai bZ m12
  have z17:=ak 0 n17
  have z8:=ak 0 m8
  have z9:=ak 0 m9
  have HB4:=aY (au HB3.o bZ)
  clear c2 b3 bX bY bZ z51 z81 z91 HB1 HB3
  have bE:=am w4 (.cells (kv ⟨0,0,0,fun _=>false⟩) 241)
  have nE:=aC w4 (.cells (kv ⟨0,0,0,fun _=>false⟩) 241)
  generalize hwE:w4.alloc (.cells (kv ⟨0,0,0,fun _=>false⟩) 241)=wE at*
  have bF:=below_setRow bE (aA _) (kv ⟨rule,day,ver,f⟩)
  have nF:=aJ _ _ _ (kv ⟨rule,day,ver,f⟩) _ _ nE
  generalize hwF:wE.setRow w4.heap.size (kv ⟨rule,day,ver,f⟩)=w2 at*
  have hzk:=Hh
  go_wp2_with(first
   |(refine az rfl 61 _ _ rfl _ _ rfl rfl _ _ q15 (ba _) (by simp[bO]) (dH _) ?_)
   |(refine az rfl 47 _ _ rfl _ _ rfl rfl _ _ r17 (by kernel_rfl) (by simp) (by simp[Value.oneCell']) ?_)
   |(refine aR rfl 61 _ rfl _ rfl _ _ _ _ n15 bQ rfl (ba _) ?_)
   |(refine vQ rfl _ _ _ _ rfl rule day ver f rfl rfl rfl rfl ?_)
   |(refine az rfl 241 _ _ rfl _ _ rfl rfl _ _ nE (nU _) (by simp[pK]) (BM _) ?_))
  obtain⟨g15,hg15e⟩:=aq w3.heap.size
  obtain⟨g18,hg18e⟩:=aq w4.heap.size
  have HBW:=aY (au HB4.o bF)
  have hg18:g18<w2.heap.size:=by rw[<-hg18e];exact aF nF
  have hg15:g15<w2.heap.size:=by rw[<-hg15e];exact aO (aF n15) bF.size
  have hgw:w.heap.size+5<g15:=by omega
  have hgx:g15<g18:=by rw[<-hg15e,<-hg18e];exact aF n15
  have n18:w2.heap[g18]? =ah (kv ⟨rule,day,ver,f⟩) 241:=by rw[<-hg18e];exact nF
  replace n15:w2.heap[g15]? =ah (mv f) 61:=by rw[<-hg15e];exact ai bF n15
  replace m5:=ai bF m5
  replace m10:=ai bF m10
  replace m11:=ai bF m11
  replace m12:=ai bF m12
  rw[hwF]
  simp only[hg15e,hg18e]
  clear hwX hwY hwZ hwE hwF q15 q17 r15 r17 HB4 z17 z8 z9 m8 m9 hz hzk n17 bE bF nE nF hg15e hg18e hgl
  refine dt (fun M φ W=>GJ w w2 (w.heap.size+3) w2.heap.size f RR rn 0 0 12 13 14 M W/\GT w2.heap.size (fT l i++[⟨rule,day,ver,f⟩]) RR rn 5 6 10 75 76 80 M φ W) [kn 70 (.agg (mv f)),kn 71 (ab w.heap.size 0),kn 72 (.slice p l.length c),kn 73 (ag i),kn 74 (.agg (kv ⟨rule,day,ver,f⟩)),td 75,td 76,kn 77 (ab w.heap.size 1),kn 78 (ag runs),kn 79 (ag rn),td 80,kn 81 (.agg #[ag 0,ag 0]),nk,nk,nk] (fun _=>⟨⟨(HBW.o).trans ((aG w2.heap.size w2).drew.mono HBW.o.size),fun _ _ _ _ _=>rfl,aA _,by omega,by omega,fun _=>m10,(fun e=>by cases e),fun _=>m11,(fun e=>by cases e),fun _=>m12,(fun e=>by cases e)⟩,(fun e=>by cases e),(fun e=>by cases e),(fun e=>by cases e)⟩) (fun _ _ _ _ hb h=>⟨h.1.below hb,h.2.mono fun _ _ q=>q.later hb⟩) (by kernel_rfl) (fun M φ W2 hJ hcl FF ll hll hFF=> ?_) (fun M φ W2 hM hJ=> ?_)
  ·simp only[kn,td,nk,dN,aQ,aW,Act.put,aB,aI,aH]at hll
   subst hll
   simp only[dg,Nat.reduceAdd]at hFF
   obtain⟨hJ,hT⟩:=hJ
   have b15:=(hJ.low g15 hg15 (by omega) (by omega) (by omega)).trans n15
   have b18:=(hJ.low g18 hg18 (by omega) (by omega) (by omega)).trans n18
   have b5:=(hJ.low w.heap.size (by omega) (by omega) (by omega) (by omega)).trans m5
   have y50:=ak 0 b5
   have y51:=ak 1 b5
   have hrn:=HRN.o
   clear b5
   dsimp only[kn,td,nk,dC,en,dS,Act.put]
   and_intros
   all_goals first|exact trivial|intro qw qn qm K hK
   all_goals try (go_simp;with_reducible exact hK _ _ ⟨rfl,aG _ _⟩)
   ·refine d9 61 _ rfl g15 (by simp[Act.eval,hFF]) _ _ _ _ b15 bQ rfl (ba _) ?_
    exact hK _ _ ⟨rfl,aG _ _⟩
   ·refine d9 241 _ rfl g18 (by simp[Act.eval,hFF]) _ _ _ _ b18 qp rfl (nU _) ?_
    exact hK _ _ ⟨rfl,aG _ _⟩
   ·have hk2:=HK.o.later hJ.bel
    go_simp
    refine(vj l _ i _ W2 hk2 hl hil).mono ?_
    rintro r' W' ⟨v',rfl,hk3,hb'⟩
    exact hK _ _ ⟨trivial,(hJ.below hb').same 5 (by decide) (by decide) (by decide),(hT.mono fun _ _ q=>q.later hb').on 5 (fun h=>absurd rfl h) (fun _=>dy (by decide)) (fun _=>dy (by decide)) (fun _=>by rw[dI];exact hk3.low hJ.size) (fun h=>by cases h) (fun h=>by cases h)⟩
   ·have k75:=hT.t0 (qw ⟨5,.data⟩ (by simp) rfl rfl)
    generalize φ 75=v5 at*
    go_simp
    refine(Fa _ _ v5 W2 k75 hdl).mono ?_
    rintro r' W' ⟨v',rfl,hk3,hwq⟩
    replace hwq:=hwq.symm
    subst hwq
    rw[HRR.o]at hk3
    exact hK _ _ ⟨trivial,hJ.same 6 (by decide) (by decide) (by decide),hT.on 6 (fun _=>dy (by decide)) (fun h=>absurd rfl h) (fun _=>dy (by decide)) (fun h=>by cases h) (fun _=>by rw[dI];exact hk3) (fun h=>by cases h)⟩
   ·have k76:=hT.t1 (qw ⟨6,.data⟩ (by simp) rfl rfl)
    obtain⟨p6,c6,hv6,_⟩:=id k76
    obtain⟨nn,hnn⟩:=aq RR.length
    rw[hnn]at hv6
    rw[hv6]at hFF
    go_simp
    exact hK _ _ ⟨trivial,hJ.same 10 (by decide) (by decide) (by decide),hT.on 10 (fun _=>dy (by decide)) (fun _=>dy (by decide)) (fun h=>absurd rfl h) (fun h=>by cases h) (fun h=>by cases h) (fun _=>⟨_,dI ..,hv6▸k76⟩)⟩
   ·refine dT 61 _ _ rfl _ (mv f) (by simp[Act.eval,hFF]) (by simp[Act.eval,hFF]) _ _ (hJ.m0 qm) (ba _) (by simp[bO]) (dH _) ?_
    exact hK undef _ ⟨trivial,hJ.mask qm (by decide) (by decide),(hT.mono fun v l hv=>hv.set (by omega) _).mark 12 (by decide) (by decide) (by decide)⟩
   ·obtain⟨v9,e9,k9⟩:=hT.t2 (qw ⟨10,.data⟩ (by simp) rfl rfl)
    obtain⟨p9,c9,hv9,_⟩:=id k9
    obtain⟨nn,hnn⟩:=aq RR.length
    rw[hnn]at hv9
    rw[e9,hv9]at hFF
    refine dT 93 _ _ rfl _ #[.slice p9 nn c9,ag rn] (by simp[Act.eval,hFF]) (by simp[Act.eval,hFF]) _ _ (hJ.c0 qm) qI (by simp) (by simp[Value.oneCell']) ?_
    exact hK undef _ ⟨trivial,hJ.cache qm (by decide) (by decide) (hv9▸k9),(hT.mono fun v l hv=>hv.set (by omega) _).mark 13 (by decide) (by decide) (by decide)⟩
   ·refine dT 47 _ _ rfl _ #[ag 0,ag 0] (by simp[Act.eval,hFF]) (by simp[Act.eval,hFF]) _ _ (hJ.f0 qm) mP (by simp) (by simp[Value.oneCell']) ?_
    exact hK undef _ ⟨trivial,hJ.fault qm (by decide) (by decide),(hT.mono fun v l hv=>hv.set (by omega) _).mark 14 (by decide) (by decide) (by decide)⟩
  ·obtain⟨hJ,_⟩:=hJ
   have hM1:=hJ.m1 (hM 12 (by decide) rfl)
   obtain⟨v9,hC,hK9⟩:=hJ.c1 (hM 13 (by decide) rfl)
   have hF:=hJ.f1 (hM 14 (by decide) rfl)
   have hb9:=hJ.bel
   have hsz9:=hb9.size
   have hb1:=hJ.b1
   have hb0:=hJ.b0
   simp only[kn,td,nk,dP,aQ,aW,Act.put,aB,aI,aH]
   clear hM hJ
   go_wp2_with fail
   exact vP (w.heap.size+3) f RR rn 0 0 v9 rfl rfl rfl rfl hM1 hC hF (hK9.low (by omega)) hb9
end Go.Proofs.YtjkilacmkbmmbaaGreatDoor
