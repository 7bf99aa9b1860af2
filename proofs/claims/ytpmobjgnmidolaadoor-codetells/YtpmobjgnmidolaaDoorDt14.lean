/- What expressions and rules mean, as the program finds it out. -/
import Derived.Test.YtpmobjgnmidolaaDoorDt13
import Derived.Test.YtpmobjgnmidolaaDoorDt11
import Derived.Test.YtpmobjgnmidolaaDoorDt04
import Derived.Test.YtpmobjgnmidolaaDoorDt05
import Derived.Test.YtpmobjgnmidolaaDoorDt08
import Derived.Test.YtpmobjgnmidolaaDoorDt03
namespace Go.Proofs.YtpmobjgnmidolaaDoor
open Go.RowKit Lx Msk
theorem wrongL_oke: ∀{l:List Ru} {i:Nat},(wrongL l i).1=0→ ∀u∈l,OKE u.2
 |[],_,_,u,hu=>by cases hu
 |v::l,i,h,u,hu=>by
  unfold wrongL at h;split at h
  ·rename_i h1;exact absurd h h1
  ·rename_i h1;rcases List.mem_cons.1 hu with rfl|hu
   ·have h2:ruleP u=0:=(by simpa using h1);unfold ruleP at h2;split at h2
    ·cases h2
    ·exact⟨_,_,h2⟩
   ·exact wrongL_oke h u hu
theorem wrongR_oke {l:List Ru}(h:(wrongR l).1=0):l.length≤40∧ ∀u∈l,OKE u.2:=by
 unfold wrongR at h;split at h
 ·cases h
 ·exact⟨by omega,wrongL_oke h⟩
def RuleC (D:MD)(i:Int)(f:Nat→Bool):Prop:= ∀(K:Nat→Bool) (W:World),MI D K W→Calls Tryd.prog 25 #[.pointer (some ⟨D.g,0,none⟩),.int .i64 i] W fun r W'=>r= .returned (.agg (mv f))∧MQ D (fun K'=>Les K K'∧K' i.toNat=true) W W'
section
variable {wk:Bool} {day a b:Int} {nm:Nat→Bool} {ks:List (Nat→Bool)}
theorem valK_1:valK wk day 1 a b nm ks=fun _=>false:=rfl
theorem valK_2:valK wk day 2 a b nm ks=fun i=>decide (i<1440):=rfl
theorem valK_3:valK wk day 3 a b nm ks=fun i:Nat=>(decide (a≤(i:Int))&&decide ((i:Int)<b))&&decide (i<1440):=rfl
theorem valK_4:valK wk day 4 a b nm ks=if wk=true then ks.getD 0 nev else fun _=>false:=rfl
theorem valK_5:valK wk day 5 a b nm ks=if a≤day∧day≤b then ks.getD 0 nev else fun _=>false:=rfl
theorem valK_6:valK wk day 6 a b nm ks=fun i=>(ks.getD 0 nev i||ks.getD 1 nev i)&&decide (i<1440):=rfl
theorem valK_7:valK wk day 7 a b nm ks=fun i=>(ks.getD 0 nev i&& !ks.getD 1 nev i)&&decide (i<1440):=rfl
theorem valK_8:valK wk day 8 a b nm ks=fun i=>(ks.getD 0 nev i&&ks.getD 1 nev i)&&decide (i<1440):=rfl
theorem valK_9:valK wk day 9 a b nm ks=shf (ks.getD 0 nev) a:=rfl
theorem valK_10:valK wk day 10 a b nm ks=nm:=rfl
end
theorem mapD_at {F:Ex→Nat→Bool}{ks:List Ex}{j:Nat}{k:Ex}(h:ks[j]? =some k):(ks.map F).getD j nev=F k:=by
 rw[List.getD_eq_getElem?_getD,List.getElem?_map,h];rfl
theorem mexpr_step {D:MD}{K0:Nat→Bool}{W:World}{env:List UInt8→Nat→Bool}{e:Ex}{pe:Option Addr}{ce:Nat}(h:MI D K0 W)(hok:OKE e)(d0:0≤D.day)(d1:D.day<146097)
  (hkids: ∀(j:Nat) (k:Ex),e.kids[j]? =some k→KidC D e.kind e.a e.b e.name pe e.kids ce (j:Int) (valE (wkB D.day) D.day env k)) (hrule:e.kind=10→0≤atP5 D.l e.name∧RuleC D (atP5 D.l e.name) (env e.name)):
  Calls Tryd.prog 59 #[.pointer (some ⟨D.g,0,none⟩),exV e (.slice pe e.kids.length ce)] W fun r W'=>r= .returned (.agg (mv (valE (wkB D.day) D.day env e)))∧MQ D (Les K0) W W':=by
 have hv:=valE_eq (wkB D.day) D.day env e;obtain⟨k1,k2,_,hr,_⟩:=hok.kinds;have h0:=fun hk=>hok.kid0 hk;have h1:=fun hk=>hok.kid1 hk;obtain⟨kd,a,b,nm,ks⟩:=e;unfold exV;dsimp only at*;have hc:kd=1∨kd=2∨kd=3∨kd=4∨kd=5∨kd=6∨kd=7∨kd=8∨kd=9∨kd=10:=by omega
 rw[hv];rcases hc with rfl|rfl|rfl|rfl|rfl|rfl|rfl|rfl|rfl|rfl
 ·rw[valK_1];exact expr_1 h
 ·rw[valK_2];exact expr_2 h
 ·rw[valK_3];exact expr_3 h
 ·obtain⟨k,hk,_⟩:=h0 (by decide);rw[valK_4,mapD_at hk];cases hg:wkB D.day a with
  |true=>exact expr_4t h d0 d1 hg (hkids 0 k hk)
  |false=>exact expr_4f h d0 d1 hg
 ·obtain⟨k,hk,_⟩:=h0 (by decide);rw[valK_5,mapD_at hk];by_cases hg:a≤D.day∧D.day≤b
  ·rw[if_pos hg];exact expr_5t h d0 d1 (by simp[hg.1,hg.2]) (hkids 0 k hk)
  ·rw[if_neg hg]
   exact expr_5f h d0 d1 (by
    by_cases h1:a≤D.day
    ·simp[h1,show¬D.day≤b from fun h2=>hg ⟨h1,h2⟩]
    ·simp[h1])
 ·obtain⟨k,hk,_⟩:=h0 (by decide);obtain⟨k',hk',_⟩:=h1 (by decide);rw[valK_6,mapD_at hk,mapD_at hk'];exact expr_6 h (hkids 0 k hk) (hkids 1 k' hk')
 ·obtain⟨k,hk,_⟩:=h0 (by decide);obtain⟨k',hk',_⟩:=h1 (by decide);rw[valK_7,mapD_at hk,mapD_at hk'];exact expr_7 h (hkids 0 k hk) (hkids 1 k' hk')
 ·obtain⟨k,hk,_⟩:=h0 (by decide);obtain⟨k',hk',_⟩:=h1 (by decide);rw[valK_8,mapD_at hk,mapD_at hk'];exact expr_8 h (hkids 0 k hk) (hkids 1 k' hk')
 ·obtain⟨k,hk,_⟩:=h0 (by decide);rw[valK_9,mapD_at hk];have hb:a≠0∧ -1440<a∧a<1440:=(by simpa[rangeP] using hr);exact expr_9 h (by omega) (by omega) (hkids 0 k hk)
 ·rw[valK_10];obtain⟨hx,hR⟩:=hrule rfl;exact expr_10 h hx hR
theorem mexpr_all {D:MD}{env:List UInt8→Nat→Bool}(d0:0≤D.day)(d1:D.day<146097): ∀(d:Nat) (e:Ex) (sl:Value),KidsB (fun k=>k<D.w.heap.size) d D.w sl e.kids→OKE e→(∀x∈nms e,0≤atP5 D.l x∧RuleC D (atP5 D.l x) (env x))→ ∀(K:Nat→Bool) (W:World),MI D K W→
  Calls Tryd.prog 59 #[.pointer (some ⟨D.g,0,none⟩),exV e sl] W fun r W'=>r= .returned (.agg (mv (valE (wkB D.day) D.day env e)))∧MQ D (Les K) W W':=by
 have none: ∀(e:Ex) (p:Option Addr) (c:Nat),e.kids=[]→OKE e→(∀x∈nms e,0≤atP5 D.l x∧RuleC D (atP5 D.l x) (env x))→ ∀(K:Nat→Bool) (W:World),MI D K W→
   Calls Tryd.prog 59 #[.pointer (some ⟨D.g,0,none⟩),exV e (.slice p 0 c)] W fun r W'=>r= .returned (.agg (mv (valE (wkB D.day) D.day env e)))∧MQ D (Les K) W W':=fun e p c h0 hok hn K W hM=>by
  have:=mexpr_step (env:=env) (pe:=p) (ce:=c) hM hok d0 d1 (fun j k hj=>by rw[h0]at hj;simp at hj) fun hk=>hn e.name (by rw[nms_eq,if_pos hk];simp);rw[h0]at this;exact this
 intro d;induction d with
 |zero=>
  intro e sl hk hok hn K W hM;obtain⟨h0,p,c,rfl⟩:=hk;exact none e p c h0 hok hn K W hM
 |succ d ih=>
  intro e sl hk hok hn K W hM;rcases hk with⟨h0,p,c,rfl⟩|⟨g,o,c,_,rfl,hl,hkk⟩
  ·exact none e p c h0 hok hn K W hM
  ·refine mexpr_step hM hok d0 d1 (fun j k hj=> ?_) fun hk=>hn e.name (by rw[nms_eq,if_pos hk];simp);obtain⟨_,sk,c0,c1,c2,c3,c4,r⟩:=hkk j k hj;obtain⟨ps,cs,rfl⟩:=r.form;have hmem:k∈e.kids:=List.mem_of_getElem? hj;intro bd be K' W' hM' hbd hbe n1 n2 n3 n4
   exact kid_any hM' hj hl hbd hbe n1 n2 n3 n4 c0 c1 c2 c3 c4 fun K2 W2 hM2=>ih k _ r (hok.kid hmem) (fun x hx=>hn x (by
    rw[nms_eq,List.mem_append];right;unfold nmsL;exact List.mem_flatten.2 ⟨nms k,List.mem_map.2 ⟨k,hmem,rfl⟩,hx⟩)) K2 W2 hM2
theorem mrule_all {D:MD}{us:List (Ru×Value)}(hin:InR D.w D.lv us)(hl:us.map (fun p=>p.1)=D.l)(hn:us.length=D.n)(hc:(chkW D.l).1=0)(d0:0≤D.day)(d1:D.day<146097)(hV: ∀i,D.V i=meanP D.l (wkB D.day) D.day i):
  ∀(m i:Nat),i<D.n→muR D.l i<m→RuleC D (i:Int) (D.V i)
 |0,_,_,h=>by omega
 |m+1,i,hi,hmu=>by
  intro K W hM;obtain⟨hw0,hno⟩:=chk_lk2 hc;obtain⟨h40,hoke⟩:=wrongR_oke hw0;have hll:D.l.length=D.n:=(by rw[←hl,List.length_map,hn]);cases hK:K i with
  |true=>
   obtain⟨M,h1,h2⟩:=id hM;refine(rule_known h1 hi (by omega) hK).mono ?_;rintro r W' ⟨rfl,hb⟩;rw[h2 i hi hK];exact⟨rfl,⟨K,hM.later hb,Les.refl K,hK⟩,Kp.below hb⟩
  |false=>
   obtain⟨⟨u,sl⟩,hu⟩: ∃p,us[i]? =some p:=⟨us[i]'(by omega),List.getElem?_eq_getElem _⟩
   have hul:D.l[i]? =some u:=(by rw[←hl,List.getElem?_map,hu];rfl);obtain⟨_,_,d,hkB⟩:=hin.all _ (List.mem_of_getElem? hu);dsimp only at hkB;obtain⟨ps,cs,rfl⟩:=hkB.form;obtain⟨pv,cv,hlv⟩:=hin.form;have hin':=hin;rw[hlv]at hin';obtain⟨b,o,rfl,_⟩:=hin'.cells i _ hu;rw[hn]at hlv;refine rule_new hin (by omega) hlv hn hu hM hK fun K2 W2 hM2=> ?_;have hE:=mexpr_all (env:=fun x=>D.V (atP5 D.l x).toNat) d0 d1 d u.2 _ hkB (hoke u (List.mem_of_getElem? hul)) (fun x hx=> ?_) K2 W2 hM2
   ·have e:valE (wkB D.day) D.day (fun x=>D.V (atP5 D.l x).toNat) u.2=D.V i:=by
     rw[hV i,meanP_eq hc hul];exact valE_congr _ _ (Nat.le_refl _) fun x _=>hV _
    rw[e]at hE;exact hE
   ·have hj:=lead_of_name hc hul hx;have hlt:=muR_lt hc (by omega) hj;have hjl:=leadS_lt hno i _ hj;have hb:=(atP5_bd D.l x).1
    have hn1:atP5 D.l x≠ -1:=fun e=>hno u (List.mem_of_getElem? hul) (by
     unfold spkR;exact(spoken_mem _ _).2 (.inr ⟨x,hx,e⟩))
    refine⟨by omega,?_⟩;have:=mrule_all hin hl hn hc d0 d1 hV m (atP5 D.l x).toNat (by omega) (by omega);rw[show(((atP5 D.l x).toNat:Nat):Int)=atP5 D.l x by omega]at this;exact this
end Go.Proofs.YtpmobjgnmidolaaDoor
/- What mean.All comes to. Written by genmnk.py. -/
namespace Go.Proofs.YtpmobjgnmidolaaDoor
open Go.RowKit Lx Msk
def mflt (l:List Ru)(day:Int):Int×Nat:=if(chkW l).1≠0 then chkW l else if day<0∨146097≤day then(3,0) else(0,0)
def meanL (l:List Ru)(day:Int):List (Nat→Bool):=if(mflt l day).1=0 then(List.range l.length).map (meanP l (wkB day) day) else []
def RowM (w:World)(v:Value)(fs:List (Nat→Bool)):Prop:= ∃p c,v= .slice p fs.length c∧(fs.length≤40∧fs.length≤c)∧ ∀(i:Nat) (f:Nat→Bool),fs[i]? =some f→ ∃g o:Nat,p=some ⟨g,o,none⟩∧w.rangeAt g (o+i*23) (mv f).toList
def OutMe (l:List Ru)(day:Int)(w:World)(e:Ending)(w':World):Prop:= ∃v,e= .returned (.tuple #[v,.agg #[.int .i64 (mflt l day).1,.int .i64 ((mflt l day).2:Int)]])∧RowM w' v (meanL l day)∧Below w.heap.size w w'
theorem rowM_nil (w:World)(p:Option Addr)(c:Nat):RowM w (.slice p 0 c) []:=⟨p,c,rfl,⟨by simp,by simp⟩,fun i f hi=>by simp at hi⟩
theorem rowM_of {w:World}{gm n:Nat}{F:Nat→Nat→Bool}(hn:n≤40)(h: ∀i,i<n→w.rangeAt gm (i*23) (mv (F i)).toList):RowM w (.slice (some ⟨gm,0,none⟩) n n) ((List.range n).map F):=by
 refine⟨some ⟨gm,0,none⟩,n,by simp,⟨by simpa using hn,by simp⟩,fun i f hi=>⟨gm,0,rfl,?_⟩⟩;rw[List.getElem?_map]at hi;cases hr:(List.range n)[i]? with
 |none=>rw[hr]at hi;cases hi
 |some k=>
  rw[hr]at hi;have hf:F k=f:=Option.some.inj hi;obtain⟨h1,h2⟩:=List.getElem?_eq_some_iff.1 hr;have hk:k=i:=(by rw[←h2];simp);have hin:i<n:=(by simpa using h1);rw[←hf,hk,Nat.zero_add];exact h i hin
def zcells (n:Nat):Array Value:=madeCells (mv fun _=>false) (n*23)
theorem zcells_at {n i j:Nat}(hi:i<n)(hj:j<23):(zcells n)[i*23+j]? =(mv fun _=>false)[j]? :=by
 have h1:i*23+j<n*23:=by
  have:(i+1)*23≤n*23:=Nat.mul_le_mul_right 23 hi;omega
 have h2:(i*23+j)%23=j:=by omega
 have h3:j<(mv fun _=>false).size:=by rw[mv_size];exact hj
 simp[zcells,madeCells,h1,mv_size,h2];rw[Array.getElem!_eq_getD,Array.getD_eq_getD_getElem?,Array.getElem?_eq_getElem h3];rfl
theorem zcells_range {w:World}{g n:Nat}{t:TypeId}(h:w.heap[g]? =some (.cells (zcells n) t (0,0))){i:Nat}(hi:i<n):w.rangeAt g (i*23) (mv fun _=>false).toList:=fun j v hv=>by
 have hj:j<23:=by
  have:=(List.getElem?_eq_some_iff.1 hv).1;rw[Array.length_toList,mv_size]at this;exact this
 rw[cell_of_row _ _ _ _ _ _ h,zcells_at hi hj,←Array.getElem?_toList];exact hv
theorem maskInfo6:(Tryd.prog.info? 37).map (fun i=>(i.zero,i.size,i.bytes))=some (some (.agg #[.int .u64 0, .int .u64 0, .int .u64 0, .int .u64 0, .int .u64 0, .int .u64 0, .int .u64 0, .int .u64 0, .int .u64 0, .int .u64 0, .int .u64 0, .int .u64 0, .int .u64 0, .int .u64 0, .int .u64 0, .int .u64 0, .int .u64 0, .int .u64 0, .int .u64 0, .int .u64 0, .int .u64 0, .int .u64 0, .int .u64 0]),23,184):=by kernel_rfl
theorem masksType6:Tryd.prog.underlying 32=some (.slice 37):=by kernel_rfl
theorem make_masks (n:Nat)(hn:n≤1000)(w:World):(Instr.makeSlice 32 (.int .i64 (n:Int)) (.int .i64 (n:Int))).run Tryd.prog w= .ok (.slice (some ⟨w.heap.size,0,none⟩) n n) (w.alloc (.cells (zcells n) 37)):=by
 obtain⟨i,hi,hzz⟩:=Option.map_eq_some_iff.1 maskInfo6;simp only[Prod.mk.injEq]at hzz;obtain⟨hz,hs,hb⟩:=hzz;have hr:=run_make (P:=Tryd.prog) w 32 37 i _ masksType6 hi hz .i64 .i64 n n (by omega) (Int.le_refl _) (by rw[hb];omega) (by omega);rw[hs]at hr;have e:(Value.agg #[.int .u64 0, .int .u64 0, .int .u64 0, .int .u64 0, .int .u64 0, .int .u64 0, .int .u64 0, .int .u64 0, .int .u64 0, .int .u64 0, .int .u64 0, .int .u64 0, .int .u64 0, .int .u64 0, .int .u64 0, .int .u64 0, .int .u64 0, .int .u64 0, .int .u64 0, .int .u64 0, .int .u64 0, .int .u64 0, .int .u64 0]).cells=mv fun _=>false:=mv_lit;rw[e]at hr;simpa[zcells] using hr
def asp (B n:Nat)(day:Int)(sl:Value)(l:List Ru)(i:Nat)(v:Value)(W:World):Prop:=match i with
 |0=>v= .int .i64 day
 |3=> ∃mb,v= .map (some mb)∧MapN W mb l
 |5=>v= .int .i64 (n:Int)
 |6=> ∃gk:Nat,v= .slice (some ⟨gk,0,none⟩) n n∧B≤gk∧W.heap[gk]? =some (.cells (bcells n fun _=>false) 4 (0,0))
 |8=>v= .int .i64 (n:Int)
 |9=> ∃gm:Nat,v= .slice (some ⟨gm,0,none⟩) n n∧B≤gm∧W.heap[gm]? =some (.cells (zcells n) 37 (0,0))
 |10=> ∃mb gk gm:Nat,v= .agg #[.int .i64 day,sl,.map (some mb),.slice (some ⟨gk,0,none⟩) n n,.slice (some ⟨gm,0,none⟩) n n]∧MapN W mb l∧B≤gk∧W.heap[gk]? =some (.cells (bcells n fun _=>false) 4 (0,0))∧B≤gm∧W.heap[gm]? =some (.cells (zcells n) 37 (0,0))
 |11=> ∃g:Nat,v= .pointer (some ⟨g,0,none⟩)∧B≤g∧W.heap[g]? =some (.cells #[.int .i64 0,.slice none 0 0,.map none,.slice none 0 0,.slice none 0 0] 71 (0,0))
 |_=>v=sl
theorem asp_mono {B n:Nat}{day:Int}{sl:Value}{l:List Ru}{W W':World}(hb:Below W.heap.size W W')(i:Nat)(v:Value)(h:asp B n day sl l i v W):asp B n day sl l i v W':=by
 unfold asp at*;split at h
 ·exact h
 ·obtain⟨mb,h1,h2⟩:=h;exact⟨mb,h1,h2.later (hb.block _ (lt_of_map h2))⟩
 ·exact h
 ·obtain⟨gk,h1,h2,h3⟩:=h;exact⟨gk,h1,h2,(hb.block _ (lt_of_block h3)).trans h3⟩
 ·exact h
 ·obtain⟨gk,h1,h2,h3⟩:=h;exact⟨gk,h1,h2,(hb.block _ (lt_of_block h3)).trans h3⟩
 ·obtain⟨mb,gk,gm,h1,h2,h3,h4,h5,h6⟩:=h;exact⟨mb,gk,gm,h1,h2.later (hb.block _ (lt_of_map h2)),h3,(hb.block _ (lt_of_block h4)).trans h4,h5,(hb.block _ (lt_of_block h6)).trans h6⟩
 ·obtain⟨gk,h1,h2,h3⟩:=h;exact⟨gk,h1,h2,(hb.block _ (lt_of_block h3)).trans h3⟩
 ·exact h
theorem MD.begin {w W:World}{n g gk gm mb:Nat}{day:Int}{sl:Value}{l:List Ru}{V:Nat→Nat→Bool}{old:Array Value}(hJ:Below w.heap.size w W)(hM:MapN W mb l)(b7:w.heap.size≤g)(k7:W.heap[g]? =some (.cells old 71 (0,0)))
  (b28:w.heap.size≤gk) (k28:W.heap[gk]? =some (.cells (bcells n fun _=>false) 4 (0,0))) (b31:w.heap.size≤gm) (k31:W.heap[gm]? =some (.cells (zcells n) 37 (0,0))):
  MI ⟨w,n,g,gk,gm,mb,day,sl,l,V⟩ (fun _=>false) (W.setRow g #[.int .i64 day,sl,.map (some mb),.slice (some ⟨gk,0,none⟩) n n,.slice (some ⟨gm,0,none⟩) n n]):=by
 have n1:g≠gk:=fun e=>by subst e;rw[k7]at k28;cases k28
 have n2:g≠gm:=fun e=>by subst e;rw[k7]at k31;cases k31
 have n3:gk≠gm:=fun e=>by
  subst e;rw[k28]at k31;injection k31 with e1;injection e1 with _ e2;exact absurd e2 (by decide)
 obtain⟨es,c,hm,_⟩:=id hM;have n4:mb≠gk:=fun e=>by subst e;rw[hm]at k28;cases k28
 have n5:mb≠gm:=fun e=>by subst e;rw[hm]at k31;cases k31
 have n6:mb≠g:=fun e=>by subst e;rw[hm]at k7;cases k7
 have ho: ∀q,q≠g→(W.setRow g #[.int .i64 day,sl,.map (some mb),.slice (some ⟨gk,0,none⟩) n n,.slice (some ⟨gm,0,none⟩) n n]).heap[q]? =W.heap[q]? :=fun q hq=>setRow_other _ _ _ _ hq;refine⟨fun _ _=>false,⟨below_setRow hJ b7 _,setRow_heap _ _ _ _ _ _ k7,(ho _ (fun e=>n1 e.symm)).trans k28,fun i hi=> ?_,⟨_,(ho _ (fun e=>n2 e.symm)).trans k31⟩,hM.later (ho _ n6),⟨b7,b28,b31⟩,n1,n2,n3,n4,n5⟩,fun _ _ h=>by cases h⟩;exact zcells_range ((ho _ (fun e=>n2 e.symm)).trans k31) hi
theorem mall_post {R:Ending→World→Prop}{a:Act}{w:World}(g:Nat)(v:Value)(er at_:Int)(hd:a.defers=[])(h2:a.tmps.getD 4 undef=v)(h3:a.tmps.getD 5 undef= .pointer (some ⟨g,0,none⟩))
  (hg:w.heap[g]? =some (.cells #[.int .i64 er,.int .i64 at_] 26 (0,0))) (hR:R (.returned (.tuple #[v,.agg #[.int .i64 er,.int .i64 at_]])) w):bodyPost Tryd.prog Tryd.f10 R .ret a w:=by
 refine bodyPost_ret (v:= .tuple #[v,.agg #[.int .i64 er,.int .i64 at_]]) ?_ hd hR;have h2':a.tmps[4]?.getD undef=v:=by simpa using h2
 have h3':a.tmps[5]?.getD undef= .pointer (some ⟨g,0,none⟩):=by simpa using h3
 have hv:=run_loadVar_row (P:=Tryd.prog) w g 26 26 _ _ _ hg faultType rfl (by kernel_rfl);simp[results,Tryd.results10,h2',h3',asAddr,hv]
set_option maxRecDepth 100000 in
set_option maxHeartbeats 4000000 in
theorem mall_any (us:List (Ru×Value))(v:Value)(day:Int)(w:World)(h:InR w v us):Calls Tryd.prog 10 #[v,.int .i64 day] w (OutMe (us.map (fun p=>p.1)) day w):=by
 obtain⟨l,hl⟩: ∃l,us.map (fun p=>p.1)=l:=⟨_,rfl⟩
 obtain⟨n,hn⟩: ∃n,us.length=n:=⟨_,rfl⟩
 have hll:l.length=n:=by rw[←hl,List.length_map,hn]
 obtain⟨pv,cv,rfl⟩:=h.form;have bA:=(Below.refl w.heap.size w).alloc (Nat.le_refl _) (.cells #[.int .i64 0,.int .i64 0] 26);have n1:=heap_alloc_new w (.cells #[.int .i64 0,.int .i64 0] 26);generalize hwA:w.alloc (.cells #[.int .i64 0,.int .i64 0] 26)=wA at*;have cW:=chk_any us _ wA (h.below bA);rw[hl]at cW;rw[hl,hn];have HL:=hid5 hl;have HLN:=hid5 hn;have HLL:=hid5 hll;have HI0:=hid5 h;rw[hn]at cW;clear hl hll h hn;go_enter Tryd.func10,Tryd.ntmps10;go_wp2_with fail;refine cW.mono ?_;rintro r w1 ⟨rfl,hb1⟩;have m2:=(hb1.block _ (lt_of_block n1)).trans n1;have hb1w:=bA.trans (hb1.mono bA.size);clear cW n1 hb1 bA hwA;by_cases h0:(chkW l).1=0
 ·obtain⟨hw0,_⟩:=chk_lk2 h0;have h40:=(wrongR_oke hw0).1;rw[HLL.out]at h40;have H0:=hid5 h0;rw[h0];generalize (((chkW l).2:Nat):Int)=at0 at*;have bC:=(Below.refl w1.heap.size w1).alloc (Nat.le_refl _) (.cells #[.int .i64 0,.int .i64 at0] 26);have HBw:=hid5 (hb1w.trans (bC.mono hb1w.size));have HR:=hid5 ((bC.block _ (lt_of_block m2)).trans m2);have m3:=heap_alloc_new w1 (.cells #[.int .i64 0,.int .i64 at0] 26);have Hn40:=hid5 h40;have hI40:(n:Int)≤40:=(by omega);clear bC hb1w m2 h0 h40 hw0;generalize hw2:w1.alloc (.cells #[.int .i64 0,.int .i64 at0] 26)=wB at*;have HI:=hid5 (HI0.out.below HBw.out);have z0:=(cell_of_row _ _ 0 _ _ _ m3).trans rfl;by_cases hd:day<0∨146097≤day
  ·have HF:Hid (mflt l day=(3,0)):=by
    show _=_;unfold mflt;rw[if_neg (by simpa using H0.out),if_pos hd]
   have HO:Hid (∀cs,OutMe l day w (.returned (.tuple #[.slice none 0 0,.agg #[.int .i64 3,.int .i64 0]])) (wB.setRow w.heap.size cs)):=fun cs=>by
    have hML:meanL l day=[]:=by
     unfold meanL;rw[HF.out];rfl
    refine⟨_,by rw[HF.out];rfl,?_,below_setRow HBw.out (Nat.le_refl _) _⟩;rw[hML];exact rowM_nil _ _ _
   have n9:=HR.out;by_cases hd0:day<0
   ·clear hd;go_wp2_with(refine wpList_store_row rfl 26 _ _ rfl _ _ rfl rfl _ _ n9 (by kernel_rfl) (by simp) (by simp[Value.oneCell']) ?_)
    exact mall_post w.heap.size _ 3 0 rfl rfl rfl (setRow_heap _ _ _ _ _ _ n9) (HO.out _)
   ·have hd1:146097≤day:=(by omega);clear hd;go_wp2_with(refine wpList_store_row rfl 26 _ _ rfl _ _ rfl rfl _ _ n9 (by kernel_rfl) (by simp) (by simp[Value.oneCell']) ?_)
    exact mall_post w.heap.size _ 3 0 rfl rfl rfl (setRow_heap _ _ _ _ _ _ n9) (HO.out _)
  ·have HF:Hid (mflt l day=(0,0)):=by
    show _=_;unfold mflt;rw[if_neg (by simpa using H0.out),if_neg hd]
   have HML:Hid (meanL l day=(List.range n).map (meanP l (wkB day) day)):=by
    show _=_;unfold meanL;rw[HF.out,HLL.out];rfl
   have hd0: ¬day<0:=fun e=>hd (.inl e);have hd1: ¬146097≤day:=fun e=>hd (.inr e)
   have Hall:Hid (∀(g gk gm mb i:Nat),i<n→RuleC ⟨wB,n,g,gk,gm,mb,day,.slice pv n cv,l,meanP l (wkB day) day⟩ (i:Int) (meanP l (wkB day) day i)):=fun g gk gm mb i hi=>by
    have hin:=HI.out;rw[HLN.out]at hin;exact mrule_all (D:=⟨wB,n,g,gk,gm,mb,day,.slice pv n cv,l,meanP l (wkB day) day⟩) hin HL.out HLN.out H0.out (by show 0≤day;omega) (by show day<146097;omega) (fun _=>rfl) (muR l i+1) i hi (by show muR l i<muR l i+1;omega)
   have Hmb:=hid5 (run_make_row' (P:=Tryd.prog) 61 4 (.bool false) 1 boolsType boolInfo rfl .i64 .i64 n (by omega) (by omega));rw[bcells_none]at Hmb;have Hmm:=hid5 (make_masks n (by omega));clear hd;go_wp2_with fail;clear z0 m3 hw2;refine wp_region_lastP (Below wB.heap.size wB) (asp wB.heap.size n day (.slice pv n cv) l) ((Below.refl _ _).drew) (fun W W' hb j u h=>asp_mono hb j u h) (by kernel_rfl) (by kernel_rfl) (by kernel_rfl) (by kernel_rfl) 12 (by kernel_rfl) (by kernel_rfl) [22,23,24,25,26,27,28,29,30,31,32,7] (by kernel_rfl) (by kernel_rfl) ?_ ?_
   ·intro i' s o' L A W2 ho hs hdep hJ hkept hhas;match i',ho,hs with
    |0,ho,hs=>
     cases Option.some.inj ho;cases Option.some.inj hs;have h1:A.tmps[1]?.getD undef= .int .i64 day:=(gd A 1).trans (hkept 1 (by kernel_rfl));refine wpOp_step rfl (fun K hK=> ?_);go_simp;exact hK _ _ ⟨_,rfl,rfl,hJ,Below.refl _ _⟩
    |1,ho,hs=>
     cases Option.some.inj ho;cases Option.some.inj hs;have h0:A.tmps[0]?.getD undef= .slice pv n cv:=(gd A 0).trans (hkept 0 (by kernel_rfl));refine wpOp_step rfl (fun K hK=> ?_);go_simp;exact hK _ _ ⟨_,rfl,rfl,hJ,Below.refl _ _⟩
    |2,ho,hs=>
     cases Option.some.inj ho;cases Option.some.inj hs;have h0:A.tmps[0]?.getD undef= .slice pv n cv:=(gd A 0).trans (hkept 0 (by kernel_rfl));refine wpOp_step rfl (fun K hK=> ?_);go_simp;exact hK _ _ ⟨_,rfl,rfl,hJ,Below.refl _ _⟩
    |3,ho,hs=>
     cases Option.some.inj ho;cases Option.some.inj hs;have h24:A.tmps[24]?.getD undef= .slice pv n cv:=(gd A 24).trans (hhas 2 24 rfl (hdep ⟨2,.data⟩ (by simp) rfl));have cN:=numbers_any us _ W2 (HI.out.below hJ);rw[HLN.out]at cN;refine wpOp_step rfl (fun K hK=> ?_);go_simp;refine cN.mono ?_;rintro e' W' ⟨mb,rfl,_,hM,hb'⟩;rw[HL.out]at hM;exact hK _ _ ⟨_,rfl,⟨mb,rfl,hM⟩,hJ.trans (hb'.mono hJ.size),hb'⟩
    |4,ho,hs=>
     cases Option.some.inj ho;cases Option.some.inj hs;have h0:A.tmps[0]?.getD undef= .slice pv n cv:=(gd A 0).trans (hkept 0 (by kernel_rfl));refine wpOp_step rfl (fun K hK=> ?_);go_simp;exact hK _ _ ⟨_,rfl,rfl,hJ,Below.refl _ _⟩
    |5,ho,hs=>
     cases Option.some.inj ho;cases Option.some.inj hs;have h26:A.tmps[26]?.getD undef= .slice pv n cv:=(gd A 26).trans (hhas 4 26 rfl (hdep ⟨4,.data⟩ (by simp) rfl));refine wpOp_step rfl (fun K hK=> ?_);go_simp;exact hK _ _ ⟨_,rfl,rfl,hJ,Below.refl _ _⟩
    |6,ho,hs=>
     cases Option.some.inj ho;cases Option.some.inj hs;have h27:A.tmps[27]?.getD undef= .int .i64 (n:Int):=(gd A 27).trans (hhas 5 27 rfl (hdep ⟨5,.data⟩ (by simp) rfl));have hsz:=hJ.size;have hmk:=Hmb.out W2;have hb:=(Below.refl W2.heap.size W2).alloc (Nat.le_refl _) (.cells (bcells n fun _=>false) 4);have hnew:=heap_alloc_new W2 (.cells (bcells n fun _=>false) 4);refine wpOp_step rfl (fun K hK=> ?_);go_simp;exact hK _ _ ⟨_,rfl,⟨_,rfl,hsz,hnew⟩,hJ.trans (hb.mono hJ.size),hb⟩
    |7,ho,hs=>
     cases Option.some.inj ho;cases Option.some.inj hs;have h0:A.tmps[0]?.getD undef= .slice pv n cv:=(gd A 0).trans (hkept 0 (by kernel_rfl));refine wpOp_step rfl (fun K hK=> ?_);go_simp;exact hK _ _ ⟨_,rfl,rfl,hJ,Below.refl _ _⟩
    |8,ho,hs=>
     cases Option.some.inj ho;cases Option.some.inj hs;have h29:A.tmps[29]?.getD undef= .slice pv n cv:=(gd A 29).trans (hhas 7 29 rfl (hdep ⟨7,.data⟩ (by simp) rfl));refine wpOp_step rfl (fun K hK=> ?_);go_simp;exact hK _ _ ⟨_,rfl,rfl,hJ,Below.refl _ _⟩
    |9,ho,hs=>
     cases Option.some.inj ho;cases Option.some.inj hs;have h30:A.tmps[30]?.getD undef= .int .i64 (n:Int):=(gd A 30).trans (hhas 8 30 rfl (hdep ⟨8,.data⟩ (by simp) rfl));have hsz:=hJ.size;have hmk:=Hmm.out W2;have hb:=(Below.refl W2.heap.size W2).alloc (Nat.le_refl _) (.cells (zcells n) 37);have hnew:=heap_alloc_new W2 (.cells (zcells n) 37);refine wpOp_step rfl (fun K hK=> ?_);go_simp;exact hK _ _ ⟨_,rfl,⟨_,rfl,hsz,hnew⟩,hJ.trans (hb.mono hJ.size),hb⟩
    |10,ho,hs=>
     cases Option.some.inj ho;cases Option.some.inj hs;have h22:A.tmps[22]?.getD undef= .int .i64 day:=(gd A 22).trans (hhas 0 22 rfl (hdep ⟨0,.data⟩ (by simp) rfl));have h23:A.tmps[23]?.getD undef= .slice pv n cv:=(gd A 23).trans (hhas 1 23 rfl (hdep ⟨1,.data⟩ (by simp) rfl));obtain⟨mb,e25,hM⟩:=hhas 3 25 rfl (hdep ⟨3,.data⟩ (by simp) rfl);obtain⟨gk,e28,b28,k28⟩:=hhas 6 28 rfl (hdep ⟨6,.data⟩ (by simp) rfl);obtain⟨gm,e31,b31,k31⟩:=hhas 9 31 rfl (hdep ⟨9,.data⟩ (by simp) rfl);have h25:A.tmps[25]?.getD undef= .map (some mb):=(gd A 25).trans e25;have h28:A.tmps[28]?.getD undef= .slice (some ⟨gk,0,none⟩) n n:=(gd A 28).trans e28;have h31:A.tmps[31]?.getD undef= .slice (some ⟨gm,0,none⟩) n n:=(gd A 31).trans e31;refine wpOp_step rfl (fun K hK=> ?_);go_simp;exact hK _ _ ⟨_,rfl,⟨mb,gk,gm,rfl,hM,b28,k28,b31,k31⟩,hJ,Below.refl _ _⟩
    |11,ho,hs=>
     cases Option.some.inj ho;cases Option.some.inj hs;have hsz:=hJ.size;have hb:=(Below.refl W2.heap.size W2).alloc (Nat.le_refl _) (.cells #[.int .i64 0,.slice none 0 0,.map none,.slice none 0 0,.slice none 0 0] 71);have hnew:=heap_alloc_new W2 (.cells #[.int .i64 0,.slice none 0 0,.map none,.slice none 0 0,.slice none 0 0] 71);refine wpOp_step rfl (fun K hK=> ?_);go_simp;exact hK _ _ ⟨_,rfl,⟨_,rfl,hsz,hnew⟩,hJ.trans (hb.mono hJ.size),hb⟩
    |kk+12,ho,hs=>simp at hs
   ·intro o' W2 A ho hJ hhas hkept hput;obtain⟨mb,e25,_⟩:=hhas 3 25 rfl;obtain⟨gk,e28,_,_⟩:=hhas 6 28 rfl;obtain⟨gm,e31,_,_⟩:=hhas 9 31 rfl;obtain⟨mb1,gk1,gm1,e32,hM,b28,k28,b31,k31⟩:=hhas 10 32 rfl;obtain⟨g,e7,b7,k7⟩:=hhas 11 7 rfl
    have hA:A=putAll [(22,.int .i64 day),(23,.slice pv n cv),(24,.slice pv n cv),(25,.map (some mb)),(26,.slice pv n cv),(27,.int .i64 (n:Int)),(28,.slice (some ⟨gk,0,none⟩) n n),(29,.slice pv n cv),(30,.int .i64 (n:Int)),(31,.slice (some ⟨gm,0,none⟩) n n),(32,.agg #[.int .i64 day,.slice pv n cv,.map (some mb1),.slice (some ⟨gk1,0,none⟩) n n,.slice (some ⟨gm1,0,none⟩) n n]),(7,.pointer (some ⟨g,0,none⟩))] _:=hput _ (by kernel_rfl) (fun j s v hj=>match j,hj with
     |0,hj=>by cases Option.some.inj hj;exact hhas 0 22 rfl
     |1,hj=>by cases Option.some.inj hj;exact hhas 1 23 rfl
     |2,hj=>by cases Option.some.inj hj;exact hhas 2 24 rfl
     |3,hj=>by cases Option.some.inj hj;exact e25
     |4,hj=>by cases Option.some.inj hj;exact hhas 4 26 rfl
     |5,hj=>by cases Option.some.inj hj;exact hhas 5 27 rfl
     |6,hj=>by cases Option.some.inj hj;exact e28
     |7,hj=>by cases Option.some.inj hj;exact hhas 7 29 rfl
     |8,hj=>by cases Option.some.inj hj;exact hhas 8 30 rfl
     |9,hj=>by cases Option.some.inj hj;exact e31
     |10,hj=>by cases Option.some.inj hj;exact e32
     |11,hj=>by cases Option.some.inj hj;exact e7
     |kk+12,hj=>by simp at hj)
    cases Option.some.inj ho;have hx:A.eval (.tmp 7)= .pointer (some ⟨g,0,none⟩):=e7;have hy:A.eval (.tmp 32)= .agg #[.int .i64 day,.slice pv n cv,.map (some mb1),.slice (some ⟨gk1,0,none⟩) n n,.slice (some ⟨gm1,0,none⟩) n n]:=e32;have hst:=MD.begin (day:=day) (sl:= .slice pv n cv) (V:=meanP l (wkB day) day) hJ hM b7 k7 b28 k28 b31 k31;refine wpOp_step rfl (fun K hK=> ?_);show Oper.wp _ _ _ _ _ _;refine wp_store_row 71 _ _ rfl _ _ hx hy _ _ k7 (by kernel_rfl) (by simp) (by simp[Value.oneCell']) ?_;refine hK _ _ ⟨⟨undef,rfl⟩,?_⟩;change Exit.then _ _ Exit.normal A _;subst hA;simp only[putAll_cons,putAll_nil,Act.put,List.setIfInBounds_toArray,List.set_cons_succ,List.set_cons_zero];clear hK hx hy hput hhas hkept e25 e28 e31 e32 e7 k7 k28 k31 hM;generalize W2.setRow g #[.int .i64 day,.slice pv n cv,.map (some mb1),.slice (some ⟨gk1,0,none⟩) n n,.slice (some ⟨gm1,0,none⟩) n n]=W5 at*;clear hJ;have cR:=Hall.out g gk1 gm1 mb1;have HC:=hid5 cR;clear cR Hall;go_wp2_with fail;go_loopw [8,35] (fun _ t wr=> ∃j:Nat,t= .int .i64 (j:Int)∧j≤n∧ ∃K,MI ⟨wB,n,g,gk1,gm1,mb1,day,.slice pv n cv,l,meanP l (wkB day) day⟩ K wr∧ ∀k,k<j→K k=true) (fun _ t _=>n-(intOf t).toNat);case atStart=>exact⟨0,rfl,by omega,_,hst,fun k hk=>by omega⟩
    case round=>
     obtain⟨j,rfl,hj,K,hM,hall⟩:=hrel;have hj0:(0:Int)≤(j:Int):=(by omega);have HA:=hid5 hall;clear hall hst;by_cases hlt:j<n
     ·have hlt':(j:Int)<(n:Int):=(by omega);have cJ:=HC.out j hlt K wr hM;go_wp2_with fail;refine cJ.mono ?_;rintro r W6 ⟨rfl,⟨K',hM',hle,hKj⟩,_⟩
      have HN:Hid (∃K,MI ⟨wB,n,g,gk1,gm1,mb1,day,.slice pv n cv,l,meanP l (wkB day) day⟩ K W6∧ ∀k,k<j+1→K k=true):=⟨K',hM',fun k hk=>by
       by_cases e:k=j
       ·subst e;simpa using hKj
       ·exact hle k (HA.out k (by omega))⟩
      clear cJ hM hM' hle hKj HA;go_wp2_with fail;go_roundw;case rel=>exact⟨j+1,by go_num,by omega,HN.out⟩
      case measure=>simp[intOf];omega
     ·have ej:j=n:=(by omega);have hlt': ¬(j:Int)<(n:Int):=(by omega);have k4:=(cell_of_row _ _ 4 _ _ _ hM.blk).trans rfl;have hbw:=hM.bel;have n9:=(hbw.block _ (lt_of_block HR.out)).trans HR.out
      have HO:Hid (∀cs,OutMe l day w (.returned (.tuple #[.slice (some ⟨gm1,0,none⟩) n n,.agg #[.int .i64 0,.int .i64 0]])) (wr.setRow w.heap.size cs)):=fun cs=>by
       obtain⟨M,h1,h2⟩:=hM;have hb9:=below_setRow (HBw.out.trans (hbw.mono HBw.out.size)) (Nat.le_refl w.heap.size) cs;refine⟨_,by rw[HF.out];rfl,?_,hb9⟩;rw[HML.out];refine rowM_of Hn40.out (fun i hi=> ?_);have h3:=h2 i hi (HA.out i (by omega));have h4:=MSt.meant h1 i hi;rw[h3]at h4;intro q v hv;rw[←h4 q v hv];exact World.cell?_of_block (setRow_other _ _ _ _ (by have:=(MSt.lo h1).2.2;have:=HBw.out.size;have:=lt_of_block HR.out;dsimp only at*;omega))
      clear HA hM HC;go_wp2_with(refine wpList_store_row rfl 26 _ _ rfl _ _ rfl rfl _ _ n9 (by kernel_rfl) (by simp) (by simp[Value.oneCell']) ?_)
      exact mall_post w.heap.size _ 0 0 rfl rfl rfl (setRow_heap _ _ _ _ _ _ n9) (HO.out _)
 ·have H0:=hid5 h0
  have HF:Hid (mflt l day=chkW l):=by
   show _=_;unfold mflt;rw[if_pos h0]
  have hne:((chkW l).1 !=0)=true:=(by simpa using h0);have bC:=(Below.refl w1.heap.size w1).alloc (Nat.le_refl _) (.cells #[.int .i64 (chkW l).1,.int .i64 ((chkW l).2:Int)] 26);have HBw:=hid5 (hb1w.trans (bC.mono hb1w.size));have n9:=(bC.block _ (lt_of_block m2)).trans m2;have m3:=heap_alloc_new w1 (.cells #[.int .i64 (chkW l).1,.int .i64 ((chkW l).2:Int)] 26);clear bC hb1w m2 h0;generalize hw2:w1.alloc (.cells #[.int .i64 (chkW l).1,.int .i64 ((chkW l).2:Int)] 26)=wB at*
  have HO:Hid (∀W,Below w.heap.size w W→OutMe l day w (.returned (.tuple #[.slice none 0 0,.agg #[.int .i64 (chkW l).1,.int .i64 ((chkW l).2:Int)]])) W):=fun W hW=>by
   have hML:meanL l day=[]:=by
    unfold meanL;rw[HF.out,if_neg H0.out]
   refine⟨_,by rw[HF.out],?_,hW⟩;rw[hML];exact rowM_nil _ _ _
  have z0:=(cell_of_row _ _ 0 _ _ _ m3).trans rfl;have z1:=(cell_of_row _ _ 1 _ _ _ m3).trans rfl;have y0:=(cell_of_row _ _ 0 _ _ _ n9).trans rfl;have y1:=(cell_of_row _ _ 1 _ _ _ n9).trans rfl;have x0:=frozen_of_row _ _ 0 _ _ n9;have x1:=frozen_of_row _ _ 1 _ _ n9;have hmm:=heap_setCell_same _ _ 1 _ _ (.int .i64 ((chkW l).2:Int)) (heap_setCell_same _ _ 0 _ _ (.int .i64 (chkW l).1) n9);have HBB:=hid5 ((HBw.out.setCell (p:=⟨w.heap.size,0,none⟩) (Nat.le_refl _) (.int .i64 (chkW l).1)).setCell (p:=⟨w.heap.size,1,none⟩) (Nat.le_refl _) (.int .i64 ((chkW l).2:Int)));have HMM:=hid5 hmm;clear hmm n9 m3;clear HF H0;generalize (chkW l).1=er at*;generalize (((chkW l).2:Nat):Int)=at0 at*;go_wp2_with fail;go_region;go_wp2_with fail;exact mall_post w.heap.size _ er at0 rfl rfl rfl HMM.out (HO.out _ (below_drewN HBB.out 1))
end Go.Proofs.YtpmobjgnmidolaaDoor
/- What code.meaning comes to: what a steady expression means. -/
namespace Go.Proofs.YtpmobjgnmidolaaDoor
open Go.RowKit Lx Vx Msk
theorem std_nms: ∀(N:Nat) (e:Ex),SizeOf.sizeOf e≤N→stdE e=true→nms e=[]
 |0,e,hN,_=>by cases e;simp at hN
 |N+1,e,hN,h=>by
  rw[nms_eq,if_neg (stdE_kind h).2.2,List.nil_append];unfold nmsL;rw[List.flatten_eq_nil_iff];intro x hx;obtain⟨k,hk,rfl⟩:=List.mem_map.1 hx;exact std_nms N k (by have:=kid_lt hk;omega) (stdE_kid h hk)
theorem shape_less: ∀(N:Nat) (e:Ex) (deep n deep' n':Nat),SizeOf.sizeOf e≤N→deep'≤deep→n'≤n→(shapeP e deep n).1=0→(shapeP e deep' n').1=0
 |0,e,_,_,_,_,hN,_,_,_=>by cases e;simp at hN
 |N+1,e,deep,n,deep',n',hN,hd,hn,h=>by
  have h0:=h;rw[shapeP_eq]at h⊢;by_cases h1:600<n+1∨40<deep
  ·rw[if_pos h1]at h;cases h
  ·rw[if_neg h1]at h;rw[if_neg (by omega)];by_cases h2:aloneP e≠0
   ·rw[if_pos h2]at h;exact absurd h h2
   ·rw[if_neg h2]at h⊢
    have key: ∀(ks:List Ex) (m m':Nat),(∀k∈ks,SizeOf.sizeOf k≤N)→m'≤m→(shapeL ks (deep+1) (0,m)).1=0→(shapeL ks (deep'+1) (0,m')).1=0:=by
     intro ks;induction ks with
     |nil=>intro m m' _ _ _;rfl
     |cons k ks ih=>
      intro m m' hks hm hz;rw[shapeL_cons]at hz⊢;rw[if_neg (by simp)]at hz⊢
      have hz1:(shapeP k (deep+1) m).1=0:=by
       by_cases hq:(shapeP k (deep+1) m).1=0
       ·exact hq
       ·rw[shapeL_bad hq]at hz;exact absurd hz hq
      have hz2:=shape_less N k (deep+1) m (deep'+1) m' (hks k List.mem_cons_self) (by omega) hm hz1;obtain⟨a1,_⟩:=shape_nod _ k (deep+1) m (Nat.le_refl _) hz1;obtain⟨a2,_⟩:=shape_nod _ k (deep'+1) m' (Nat.le_refl _) hz2;rw[show shapeP k (deep+1) m=(0,m+nodE k) from Prod.ext hz1 a1]at hz;rw[show shapeP k (deep'+1) m'=(0,m'+nodE k) from Prod.ext hz2 a2];exact ih _ _ (fun k' hk'=>hks k' (List.mem_cons_of_mem _ hk')) (by omega) hz
    exact key e.kids (n+1) (n'+1) (fun k hk=>by have:=kid_lt hk;omega) (by omega) h
def Rt (e:Ex):Prop:=(shapeP e 1 0).1=0
theorem Rt.ok {e:Ex}(h:Rt e):OKE e:=⟨1,0,h⟩
theorem Rt.kid {e k:Ex}(h:Rt e)(hk:k∈e.kids):Rt k:=by
 unfold Rt at h;rw[shapeP_eq,if_neg (by omega)]at h;by_cases h2:aloneP e≠0
 ·rw[if_pos h2]at h;exact absurd h h2
 ·rw[if_neg h2]at h
  have key: ∀(ks:List Ex) (m:Nat),(shapeL ks 2 (0,m)).1=0→ ∀k∈ks,Rt k:=by
   intro ks;induction ks with
   |nil=>intro m _ k hk;cases hk
   |cons k' ks ih=>
    intro m hz k hk;rw[shapeL_cons,if_neg (by simp)]at hz
    have hz1:(shapeP k' 2 m).1=0:=by
     by_cases hq:(shapeP k' 2 m).1=0
     ·exact hq
     ·rw[shapeL_bad hq]at hz;exact absurd hz hq
    rcases List.mem_cons.1 hk with rfl|hk
    ·exact shape_less _ k 2 m 1 0 (Nat.le_refl _) (by omega) (Nat.zero_le _) hz1
    ·obtain⟨a1,_⟩:=shape_nod _ k' 2 m (Nat.le_refl _) hz1;rw[show shapeP k' 2 m=(0,m+nodE k') from Prod.ext hz1 a1]at hz;exact ih _ hz k hk
  exact key e.kids 1 h k hk
theorem Rt.nod {e:Ex}(h:Rt e):nodE e≤600:=by
 have:=(shape_nod _ e 1 0 (Nat.le_refl _) h).2;omega
theorem one_chk {e:Ex}(h:Rt e)(hs:stdE e=true):chkW [([97],e)]=(0,0):=by
 have hn:nms e=[]:=std_nms _ e (Nat.le_refl _) hs
 have hsp:spkR [([97],e)] ([97],e)=[]:=by
  unfold spkR;rw[show nms (([97],e):Ru).2=[] from hn];rfl
 have hi: ∀{i:Nat},i<[(([97],e):Ru)].length→i=0:=fun hi=>by simp at hi;exact hi
 refine chk_d ?_ (fun i' h'=> ?_) (fun i' h'=> ?_) (fun i' h'=> ?_)
 ·unfold wrongR;rw[if_neg (by simp)]
  have hr:ruleP ([97],e)=0:=by
   unfold ruleP;rw[if_neg (show¬Go.Proofs.YtpmobjgnmidolaaDoor.namedL [97]=false by decide)];exact h
  unfold wrongL;rw[if_neg (by simpa using hr)];rfl
 ·rw[hi h'];simp[lk1,atP5,atF]
 ·rw[hi h'];show decide (-1∈spkR _ _)=false;rw[hsp];rfl
 ·rw[hi h']
  have hl:leadS [([97],e)] 0=[]:=by
   unfold leadS;show natsOf (spkR _ _)=[]
   rw[hsp];rfl
  unfold lk3;rw[show [(([97],e):Ru)].length+1=1+1 from rfl,fol,hl];rfl
theorem one_mean {e:Ex}(h:Rt e)(hs:stdE e=true):mflt [([97],e)] 0=(0,0)∧meanL [([97],e)] 0=[mnE e]:=by
 have hc:=one_chk h hs
 have hm:mflt [([97],e)] 0=(0,0):=by
  unfold mflt;rw[hc,if_neg (by simp),if_neg (by omega)]
 refine⟨hm,?_⟩;unfold meanL;rw[hm,if_pos rfl];show [meanP _ _ _ 0]=_;rw[meanP_eq (by rw[hc]) (show [(([97],e):Ru)][0]? =some ([97],e) from rfl)];rw[stdE_val (show stdE (([97],e):Ru).2=true from hs)]
theorem inR_one {w:World}{g:Nat}{e:Ex}{sl:Value}{d:Nat}(h:w.heap[g]? =some (.cells #[.string ⟨#[97]⟩,.int .i64 e.kind,.int .i64 e.a,.int .i64 e.b,.string ⟨e.name.toArray⟩,sl] 52 (0,0)))(hn:e.name.length≤9223372036854775807)(hk:KidsB (fun k=>k<w.heap.size) d w sl e.kids):InR w (.slice (some ⟨g,0,none⟩) 1 1) [(([97],e),sl)]:=by
 refine⟨.inr ⟨g,0,1,rfl,by simp,fun j p hj=> ?_⟩,by simp,fun p hp=> ?_⟩
 ·match j,hj with
  |0,hj=>
   cases Option.some.inj hj;exact⟨(cell_of_row _ _ 0 _ _ _ h).trans rfl,(cell_of_row _ _ 1 _ _ _ h).trans rfl,(cell_of_row _ _ 2 _ _ _ h).trans rfl,(cell_of_row _ _ 3 _ _ _ h).trans rfl,(cell_of_row _ _ 4 _ _ _ h).trans rfl,(cell_of_row _ _ 5 _ _ _ h).trans rfl⟩
  |j+1,hj=>simp at hj
 ·rw[List.mem_singleton]at hp;subst hp;exact⟨by simp,hn,d,hk⟩
set_option maxRecDepth 100000 in
set_option maxHeartbeats 2000000 in
theorem meaning_any (d:Nat)(e:Ex)(sl:Value)(w:World)(hr:Rt e)(hs:stdE e=true)(hn:e.name.length≤9223372036854775807)(hk:KidsB (fun k=>k<w.heap.size) d w sl e.kids):
  Calls Tryd.prog 46 #[exV e sl] w fun r w'=>r= .returned (.agg (mv (mnE e)))∧Below w.heap.size w w':=by
 obtain⟨p,c,hsl⟩:=hk.form;subst hsl;unfold exV;have hz:=mv_lit;have bA:=(Below.refl w.heap.size w).alloc (Nat.le_refl _) (.cells #[.int .i64 e.kind,.int .i64 e.a,.int .i64 e.b,.string ⟨e.name.toArray⟩,.slice p e.kids.length c] 50);have nA:=heap_alloc_new w (.cells #[.int .i64 e.kind,.int .i64 e.a,.int .i64 e.b,.string ⟨e.name.toArray⟩,.slice p e.kids.length c] 50);generalize hwA:w.alloc (.cells #[.int .i64 e.kind,.int .i64 e.a,.int .i64 e.b,.string ⟨e.name.toArray⟩,.slice p e.kids.length c] 50)=wA at*;have bB:=(Below.refl wA.heap.size wA).alloc (Nat.le_refl _) (.cells (mv fun _=>false) 37);have nB:=heap_alloc_new wA (.cells (mv fun _=>false) 37);have nA1:=(bB.block _ (lt_of_block nA)).trans nA;obtain⟨gB,hgB⟩: ∃q,wA.heap.size=q:=⟨_,rfl⟩
 generalize hwB:wA.alloc (.cells (mv fun _=>false) 37)=wB at*;rw[hgB]at nB;have bC:=(Below.refl wB.heap.size wB).alloc (Nat.le_refl _) (.cells #[.string ⟨#[97]⟩,.int .i64 e.kind,.int .i64 e.a,.int .i64 e.b,.string ⟨e.name.toArray⟩,.slice p e.kids.length c] 52);have nC:=heap_alloc_new wB (.cells #[.string ⟨#[97]⟩,.int .i64 e.kind,.int .i64 e.a,.int .i64 e.b,.string ⟨e.name.toArray⟩,.slice p e.kids.length c] 52);generalize hwC:wB.alloc (.cells #[.string ⟨#[97]⟩,.int .i64 e.kind,.int .i64 e.a,.int .i64 e.b,.string ⟨e.name.toArray⟩,.slice p e.kids.length c] 52)=wC at*;have bAC:Below w.heap.size w wC:=bA.trans ((bB.trans (bC.mono bB.size)).mono bA.size);have nB2:=(bC.block _ (lt_of_block nB)).trans nB;have hlow:w.heap.size≤gB:=by rw[←hgB];exact bA.size
 have hin:=inR_one (d:=d) nC hn ((hk.kept fun g _ hl=>bAC.block g hl).mono fun g hg=>Nat.lt_of_lt_of_le hg bAC.size);have cM:=mall_any _ _ 0 wC hin;obtain⟨e1,e2⟩:=one_mean hr hs;unfold OutMe at cM;simp only[List.map_cons,List.map_nil]at cM;rw[e1,e2]at cM;clear hin hk e1 e2 bA bB bC nA nC;go_enter Tryd.func46,Tryd.ntmps46
 go_wp2_with(first
  |(refine wpList_load_row rfl 50 _ rfl _ rfl _ _ _ _ nA1 exprType rfl (by kernel_rfl) ?_))
 refine cM.mono ?_;rintro r w3 ⟨v3,rfl,hrow,b3⟩;obtain⟨p3,c3,hv3,hb3,hrg⟩:=hrow;subst hv3;obtain⟨g3,o3,hp3,hr3⟩:=hrg 0 (mnE e) rfl;subst hp3;have hbw:=bAC.trans (b3.mono bAC.size);have nB3:=(b3.block _ (lt_of_block nB2)).trans nB2;simp only[Nat.zero_mul,Nat.add_zero]at hr3;have hl1:[mnE e].length=1:=rfl;rw[hl1];generalize hz0:((0:Nat):Int)=iz;have hz1:iz=0:=hz0.symm.trans rfl;subst hz1;clear hz0;have bD:=(Below.refl w3.heap.size w3).alloc (Nat.le_refl _) (.cells #[.int .i64 0,.int .i64 0] 26);have nD:=heap_alloc_new w3 (.cells #[.int .i64 0,.int .i64 0] 26);have nB4:=(bD.block _ (lt_of_block nB3)).trans nB3;have hr4:(w3.alloc (.cells #[.int .i64 0,.int .i64 0] 26)).rangeAt g3 o3 (mv (mnE e)).toList:=World.rangeAt_alloc hr3 _;have hbx:=hbw.trans (bD.mono hbw.size);generalize hwD:w3.alloc (.cells #[.int .i64 0,.int .i64 0] 26)=wD at*;have bE:=below_setRow (Below.refl w3.heap.size wD) (Nat.le_refl _) #[.int .i64 0,.int .i64 0];have hgl:=lt_of_block nB3;have nB4e:=(bE.block _ hgl).trans nB4;have hr5:(wD.setRow w3.heap.size #[.int .i64 0,.int .i64 0]).rangeAt g3 o3 (mv (mnE e)).toList:=fun j u hj=>(bE.cell (block_lt_of_cell (hr3 j u hj))).trans (hr4 j u hj);have hbe:=hbx.trans (bE.mono (Nat.le_trans hbw.size (Nat.le_refl _)));generalize hwE:wD.setRow w3.heap.size #[.int .i64 0,.int .i64 0]=wE at*;have nB5:=setRow_heap _ _ _ (mv (mnE e)) _ _ nB4e;have hbz:=below_setRow hbe hlow (mv (mnE e));clear cM hbw hbx bAC b3 bD nB2 nB3 hr3 hrg bE hr4 nB4 hbe
 go_wp2_with(first
  |(refine wpList_store_row rfl 26 _ _ rfl _ _ rfl rfl _ _ nD (by kernel_rfl) (by simp) (by simp[Value.oneCell']) ?_;rw[hwE])
  |(refine wpList_loadM rfl _ rfl g3 o3 rfl (mnE e) hr5 ?_)
  |(refine wpList_store_row rfl 37 _ _ rfl _ _ rfl rfl _ _ nB4e (maskSize _) (by simp[mv_size]) (mv_all _) ?_))
 refine bodyPost_ret (v:= .agg (mv (mnE e))) ?_ rfl ⟨rfl,hbz⟩;exact results_cell_row rfl _ _ gB _ _ _ _ rfl nB5 maskType rfl (maskSize _)
end Go.Proofs.YtpmobjgnmidolaaDoor
/- The writer, with the spans that its instructions point to; what it comes to. -/
namespace Go.Proofs.YtpmobjgnmidolaaDoor
open Go.RowKit Lx Vx Msk
def SpIn (w:World)(v:Value)(l:List (Int×Int)):Prop:=(l=[]∧ ∃p c,v= .slice p 0 c)∨ ∃(g c:Nat) (cur:Array Value),v= .slice (some ⟨g,0,none⟩) l.length c∧l.length<9223372036854775808∧w.heap[g]? =some (.cells cur 110 (0,0))∧cur.toList.take (l.length*2)=flat l
theorem SpIn.nil (w:World)(p:Option Addr)(c:Nat):SpIn w (.slice p 0 c) []:= .inl ⟨rfl,p,c,rfl⟩
theorem SpIn.form {w:World}{v:Value}{l:List (Int×Int)}(h:SpIn w v l): ∃p n c,v= .slice p n c:=by
 rcases h with⟨_,p,c,e⟩|⟨g,c,cur,e,_⟩
 ·exact⟨p,0,c,e⟩
 ·exact⟨_,_,c,e⟩
theorem SpIn.of_own {w:World}{base:Nat}{v:Value}{l:List (Int×Int)}(h:w.ownsRow base 110 2 v l.length (flat l)):SpIn w v l:=by
 rcases h.2 with⟨e,e2⟩|⟨g,cap,cur,e,hb,hg,hn,hc,hs,hx⟩
 ·exact .inl ⟨List.eq_nil_of_length_eq_zero e2,none,0,by rw[e]⟩
 ·exact .inr ⟨g,cap,cur,e,by unfold maxLen at hc;omega,hg,hx⟩
def Fr (gm:Nat)(w w':World):Prop:= ∀(q:Nat) (c:Array Value) (T:TypeId),w.heap[q]? =some (.cells c T (0,0))→T≠66→q≠gm→w'.heap[q]? =some (.cells c T (0,0))
theorem Fr.trans {gm:Nat}{w w' w'':World}(h:Fr gm w w')(h':Fr gm w' w''):Fr gm w w'':=fun q c T hq hT hne=>h' q c T (h q c T hq hT hne) hT hne
theorem Fr.below {gm:Nat}{w w':World}(hb:Below w.heap.size w w'):Fr gm w w':=fun _ _ _ hq _ _=>(hb.block _ (lt_of_block hq)).trans hq
theorem SpIn.fr {gm:Nat}{w w':World}{v:Value}{l:List (Int×Int)}(h:SpIn w v l){cw:Array Value}(hg:w.heap[gm]? =some (.cells cw 54 (0,0)))(hf:Fr gm w w'):SpIn w' v l:=by
 rcases h with h|⟨g,c,cur,e,hl,hb,hx⟩
 ·exact .inl h
 ·refine .inr ⟨g,c,cur,e,hl,hf g _ _ hb (by decide) (fun q=> ?_),hx⟩;subst q;rw[hg]at hb;injection hb with hb;injection hb with _ h2 _;exact absurd h2 (by decide)
theorem SpIn.below {w w':World}{v:Value}{l:List (Int×Int)}(h:SpIn w v l)(hb:Below w.heap.size w w'):SpIn w' v l:=by
 rcases h with h|⟨g,c,cur,e,hl,hg,hx⟩
 ·exact .inl h
 ·exact .inr ⟨g,c,cur,e,hl,(hb.block _ (lt_of_block hg)).trans hg,hx⟩
structure WOk (w0:World)(gm:Nat)(mp:Value)(S:List (In×Value))(W:World):Prop where
 st:WsC w0 gm mp S W
 sp: ∀u∈S,SpIn W u.2 u.1.sp
theorem WOk.below {w0 W W':World}{gm:Nat}{mp:Value}{S:List (In×Value)}(h:WOk w0 gm mp S W)(hb:Below W.heap.size W W'):WOk w0 gm mp S W':=
 ⟨h.st.below hb,fun u hu=>(h.sp u hu).below hb⟩
def OutX (w0:World)(gm:Nat)(mp:Value)(S:List (In×Value))(c:List In)(W:World)(r:Ending)(W':World):Prop:=r= .returned (.tuple #[])∧ ∃S',S'.map (fun u=>u.1)=c∧WOk w0 gm mp (S++S') W'∧Fr2 gm W W'
theorem Fr2.fr {w0 W W':World}{gm:Nat}{mp:Value}{S:List (In×Value)}(h:WsC w0 gm mp S W)(hf:Fr2 gm W W'):Fr gm W W':=fun q c T hq hT hne=>by
 obtain⟨_,_,sv,hg,own⟩:=h;refine(hf.blk q (lt_of_block hq) hne ?_).trans hq;rw[rowB_at hg];exact fun e=>own_neI own hq hT e.symm
theorem wput_ok {w0 W:World}{gm:Nat}{mp:Value}{S:List (In×Value)}(h:WOk w0 gm mp S W)(x:In)(v:Value)(hv:SpIn W v x.sp)(hS:S.length≤1000):
  Calls Tryd.prog 44 #[.pointer (some ⟨gm,0,none⟩),.agg #[.int .i64 x.op,.int .i64 x.a,.int .i64 x.b,.int .i64 x.to,v]] W fun e W'=>e= .returned (.tuple #[])∧WOk w0 gm mp (S++[(x,v)]) W'∧Fr2 gm W W':=by
 obtain⟨_,_,sv,hg,_⟩:=id h.st;refine(wput_any w0 gm mp S (x,v) W h.st hS hv.form).mono fun e W' ⟨he,h1,h2,h3⟩=>⟨he,⟨h1,fun u hu=> ?_⟩,h3⟩
 rcases List.mem_append.1 hu with hu|hu
 ·exact(h.sp u hu).fr hg h2
 ·rw[List.mem_singleton]at hu;subst hu;exact hv.fr hg h2
def ExprC (w0:World)(gm:Nat)(mp:Value)(l:List Ru)(k:Ex)(sk:Value):Prop:= ∀(S:List (In×Value)) (W:World),WOk w0 gm mp S W→S.length+nodE k≤700→Calls Tryd.prog 15 #[.pointer (some ⟨gm,0,none⟩),exV k sk] W (OutX w0 gm mp S (codeE (atP5 l) k S.length) W)
theorem flatI_append (S S':List (In×Value)):flatI (S++S')=flatI S++flatI S':=by unfold flatI;rw[List.flatMap_append]
theorem flatI_set (S S':List (In×Value))(x:In)(v:Value)(t:Int):(flatI (S++((x,v)::S'))).set (S.length*5+3) (.int .i64 t)=flatI (S++(({x with to:=t},v)::S')):=by
 rw[flatI_append,flatI_append,List.set_append_right _ _ (by rw[flatI_len];omega),flatI_len,Nat.add_sub_cancel_left];rfl
theorem own_to {W:World}{base g n c:Nat}{S S':List (In×Value)}{x:In}{v:Value}(t:Int)(h:W.ownsRow base 66 5 (.slice (some ⟨g,0,none⟩) n c) n (flatI (S++((x,v)::S')))):(W.setCell ⟨g,S.length*5+3,none⟩ (.int .i64 t)).ownsRow base 66 5 (.slice (some ⟨g,0,none⟩) n c) n (flatI (S++(({x with to:=t},v)::S'))):=by
 obtain⟨h1,h2⟩:=h;rcases h2 with⟨e,_⟩|⟨g',cap,cur,e,hb,hg,hn,hc,hs,hx⟩
 ·cases e
 ·injection e with e1 _ e3;injection e1 with e1;injection e1 with e1 _ _;subst e1 e3;refine⟨by rw[←flatI_set,List.length_set];exact h1,.inr ⟨g,c,cur.setIfInBounds (S.length*5+3) (.int .i64 t),rfl,hb,heap_setCell_same W g _ _ _ _ hg,hn,hc,by rw[Array.size_setIfInBounds];exact hs,?_⟩⟩;rw[Array.toList_setIfInBounds,List.take_set,hx,flatI_set]
theorem WOk.lt {w0 W:World}{gm:Nat}{mp:Value}{S:List (In×Value)}(h:WOk w0 gm mp S W):gm<W.heap.size:=by
 obtain⟨_,_,sv,hg,_⟩:=h.st;exact lt_of_block hg
end Go.Proofs.YtpmobjgnmidolaaDoor
