/- What spoken comes to: the numbers of which each rule speaks. -/
import Derived.Test.YtpmobjgnmidolaaDoorDt09
import Derived.Deep.QuietTactic
import Derived.BigQuiet
namespace Go.Proofs.YtpmobjgnmidolaaDoor
open Go.RowKit Lx
theorem eachName_any (w:World)(l:List Ru)(n mb gi i:Nat)(ls0:List (List Int))(hM:MapN w mb l)(hin:i<n)(hn:n≤1000000)(hl0:ls0.length=n):
  ∀(d:Nat) (e:Ex) (sl:Value) (r:List Int) (wr:World),KidsB (fun k=>k<w.heap.size) d w sl e.kids→SpS w l n mb gi i (ls0.set i r) wr→r.length+(nms e).length≤1000000→Calls Tryd.prog 65 #[exV e sl,sayV w gi] wr (OutS1 w l n mb gi i (ls0.set i (spoken l r (nms e))) wr)
 |0,e,sl,r,wr,hk,h,hr=>by
  obtain⟨h0,p,c,rfl⟩:=hk;have:=eachName_step w l n mb gi i ls0 hM hin hn hl0 e p c r wr h hr (by rw[h0];decide) (fun j k hj=>by rw[h0]at hj;simp at hj);rw[h0]at this;exact this
 |d+1,e,sl,r,wr,hk,h,hr=>by
  obtain⟨pe,ce,hsl⟩:=hk.form;subst hsl
  have hlk:(e.kids.length:Int)<9223372036854775808:=by
   rcases hk with⟨h0,_⟩|⟨_,_,_,_,_,hl,_⟩
   ·rw[h0];decide
   ·omega
  refine eachName_step w l n mb gi i ls0 hM hin hn hl0 e pe ce r wr h hr hlk fun j k hj=> ?_;rcases hk with⟨h0,_⟩|⟨g,o,c,hB,hs,hl,hkk⟩
  ·rw[h0]at hj;simp at hj
  ·obtain⟨_,sk,c0,c1,c2,c3,c4,q⟩:=hkk j k hj;obtain⟨ps,cs,rfl⟩:=q.form;injection hs with e1;exact⟨g,o,ps,cs,e1,c0,c1,c2,c3,c4,fun q' W hW hq=>eachName_any w l n mb gi i ls0 hM hin hn hl0 d k _ q' W q hW hq⟩
def RowsZ (w:World)(so:Value)(ls:List (List Int)):Prop:= ∃p c,so= .slice p ls.length c∧ ∀(i:Nat) (ns:List Int),ls[i]? =some ns→ ∃(g o:Nat) (v:Value),p=some ⟨g,o,none⟩∧w.cell? ⟨g,o+i,none⟩=some v∧RowI w v ns
theorem RowsZ.below {w w':World}{so:Value}{ls:List (List Int)}(h:RowsZ w so ls)(hb:Below w.heap.size w w'):RowsZ w' so ls:=by
 obtain⟨p,c,h1,h2⟩:=h;refine⟨p,c,h1,fun i ns hi=> ?_⟩;obtain⟨g,o,v,e,hc,hr⟩:=h2 i ns hi;exact⟨g,o,v,e,(hb.cell (block_lt_of_cell hc)).trans hc,hr.below hb⟩
def lsJ (l:List Ru)(j:Nat):List (List Int):=(l.take j).map (spkR l)++List.replicate (l.length-j) []
theorem lsJ_len {l:List Ru}{j:Nat}(hj:j≤l.length):(lsJ l j).length=l.length:=by simp[lsJ];omega
theorem lsJ_zero (l:List Ru):lsJ l 0=List.replicate l.length []:=by simp[lsJ]
theorem lsJ_all (l:List Ru):lsJ l l.length=l.map (spkR l):=by simp[lsJ]
theorem lsJ_same {l:List Ru}{j:Nat}(hj:j<l.length):(lsJ l j).set j []=lsJ l j:=by
 apply List.ext_getElem?;intro k;by_cases e:j=k
 ·subst e;rw[List.getElem?_set_self (by rw[lsJ_len (by omega)];omega)];have:((l.take j).map (spkR l)).length=j:=(by simp;omega);unfold lsJ;rw[List.getElem?_append_right (by omega),this,Nat.sub_self,List.getElem?_replicate,if_pos (by omega)]
 ·rw[List.getElem?_set_ne e]
theorem lsJ_next {l:List Ru}{j:Nat}{u:Ru}(hu:l[j]? =some u):(lsJ l j).set j (spkR l u)=lsJ l (j+1):=by
 have hj:j<l.length:=(List.getElem?_eq_some_iff.1 hu).1;have h1:((l.take j).map (spkR l)).length=j:=by simp;omega
 unfold lsJ;rw[List.set_append_right _ _ (by omega),h1,Nat.sub_self];obtain⟨m,hm⟩: ∃m,l.length-j=m+1:=⟨l.length-j-1,by omega⟩
 rw[hm,List.replicate_succ,List.set_cons_zero,List.take_add_one,hu,Option.toList_some,List.map_append,List.append_assoc];simp;omega
theorem slInfo5:(Tryd.prog.info? 90).map (fun i=>(i.zero,i.size,i.bytes))=some (some (.slice none 0 0),1,24):=by kernel_rfl
theorem intssType5:Tryd.prog.underlying 85=some (.slice 90):=by kernel_rfl
theorem made_nil (n:Nat):madeCells #[Value.slice none 0 0] n=(List.replicate n (Value.slice none 0 0)).toArray:=by
 apply Array.ext
 ·simp[madeCells]
 ·intro k h1 h2;simp[madeCells,Nat.mod_one]
structure SpH (w:World)(n mb:Nat)(ls:List (List Int))(W:World):Prop where
 bel:Below w.heap.size w W
 b1:W.heap[w.heap.size]? =some (.cells #[.map (some mb)] 46 (0,0))
 b5:W.heap[w.heap.size+1+1]? =some (.cells #[.slice (some ⟨w.heap.size+1,0,none⟩) n n] 85 (0,0))
 rows: ∃vs,Sps (w.heap.size+3) W (w.heap.size+1) w.heap.size vs ls
def HRel (w:World)(l:List Ru)(n mb:Nat)(t:Value)(wr:World):Prop:= ∃j:Nat,t= .int .i64 (j:Int)∧j≤n∧SpH w n mb (lsJ l j) wr
def OutSp (l:List Ru)(w:World)(e:Ending)(w':World):Prop:= ∃so,e= .returned so∧RowsZ w' so (l.map (spkR l))∧Below w.heap.size w w'
theorem SpH.open {w:World}{l:List Ru}{n mb j:Nat}{W:World}{cs:Array Value}(h:SpH w n mb (lsJ l j) W)(hn:l.length=n)(hj:j<n):SpS w l n mb W.heap.size j ((lsJ l j).set j []) ((W.alloc (.cells #[.int .i64 (j:Int)] 3)).alloc (.cells cs 52)):=by
 obtain⟨vs,hs⟩:=h.rows;have b1:=(Below.refl W.heap.size W).alloc (Nat.le_refl _) (.cells #[.int .i64 (j:Int)] 3);have b2:=b1.alloc b1.size (.cells cs 52);have hsz:(W.alloc (.cells #[.int .i64 (j:Int)] 3)).heap.size=W.heap.size+1:=by simp
 rw[lsJ_same (by omega)];refine⟨h.bel.trans (b2.mono h.bel.size),(b2.block _ (lt_of_block h.b1)).trans h.b1,(b2.block _ (lt_of_block h.b5)).trans h.b5,?_,lt_of_block h.b5,vs,(b2.block _ (lt_of_block hs.blk)).trans hs.blk,hs.len,fun k v ns h1 h2=> ?_,hs.apart,fun k v h1 e=> ?_⟩
 ·exact(Below.heap_alloc _ _ _ (by rw[hsz];omega)).trans (heap_alloc_new W _)
 ·have ho:=hs.rows k v ns h1 h2;exact owns_keep ho fun b hb=>b2.block b (ho.lt b hb).2
 ·obtain⟨ns,hns⟩: ∃ns,(lsJ l j)[k]? =some ns:=by
   have hk':k<vs.length:=(List.getElem?_eq_some_iff.1 h1).1;exact⟨(lsJ l j)[k]'(by rw[←hs.len];exact hk'),List.getElem?_eq_getElem _⟩
  have:=((hs.rows k v ns h1 hns).lt _ e).2;omega
theorem SpS.shut {w:World}{l:List Ru}{n mb gi i:Nat}{ls:List (List Int)}{W:World}(h:SpS w l n mb gi i ls W):SpH w n mb ls W:=by
 obtain⟨vs,hs⟩:=h.rows;refine⟨h.bel,h.b1,h.b5,vs,hs.blk,hs.len,hs.rows,hs.apart,fun k v h1 e=> ?_⟩
 obtain⟨ns,hns⟩: ∃ns,ls[k]? =some ns:=by
  have hk':k<vs.length:=(List.getElem?_eq_some_iff.1 h1).1;exact⟨ls[k]'(by rw[←hs.len];exact hk'),List.getElem?_eq_getElem _⟩
 have:=((hs.rows k v ns h1 hns).lt _ e).1;omega
theorem SpH.out {w:World}{l:List Ru}{n mb:Nat}{W:World}(h:SpH w n mb (lsJ l l.length) W)(hn:l.length=n)(hb: ∀u∈l,(spkR l u).length<1000000):RowsZ W (.slice (some ⟨w.heap.size+1,0,none⟩) n n) (l.map (spkR l)):=by
 obtain⟨vs,hs⟩:=h.rows;rw[lsJ_all]at hs;refine⟨_,_,by rw[List.length_map,hn],fun i ns hi=> ?_⟩;have hi':i<(l.map (spkR l)).length:=(List.getElem?_eq_some_iff.1 hi).1;obtain⟨v,hv⟩: ∃v,vs[i]? =some v:=⟨vs[i]'(by rw[hs.len];exact hi'),List.getElem?_eq_getElem _⟩
 have hlen:ns.length<1000000:=by
  rw[List.getElem?_map]at hi;obtain⟨u,hu,e⟩:=Option.map_eq_some_iff.1 hi;rw[←e];exact hb u (List.mem_of_getElem? hu)
 refine⟨w.heap.size+1,0,v,rfl,?_,rowI_of_owns (hs.rows i v ns hv hi) (by omega)⟩;rw[Nat.zero_add];exact(cell_of_row _ _ i _ _ _ hs.blk).trans (by simpa using hv)
set_option maxRecDepth 100000 in
set_option maxHeartbeats 2000000 in
theorem spoken_any (us:List (Ru×Value))(v:Value)(mb:Nat)(w:World)(h:InR w v us)(hM:MapN w mb (us.map (fun p=>p.1)))(h40:us.length≤1000)(hnm: ∀p∈us,(nms p.1.2).length≤1000):
  Calls Tryd.prog 37 #[v,.map (some mb)] w (OutSp (us.map (fun p=>p.1)) w):=by
 obtain⟨l,hl⟩: ∃l,us.map (fun p=>p.1)=l:=⟨_,rfl⟩
 have hll:l.length=us.length:=by rw[←hl,List.length_map]
 obtain⟨pv,cv,rfl⟩:=h.form;have HK:=hid5 h.cells;have HI:Hid (∀p∈us,∃d,KidsB (fun k=>k<w.heap.size) d w p.2 p.1.2.kids):=fun p hp=>(h.all p hp).2.2;have HN:=hid5 hnm;have hmk:=run_make_row' (P:=Tryd.prog) 85 90 (.slice none 0 0) 24 intssType5 slInfo5 rfl .i64 .i64 us.length (by omega) (by omega);rw[made_nil]at hmk;rw[hl]at hM⊢;have HL:Hid (us.map (fun p=>p.1)=l):=hl;have HLL:=hid5 hll;have HM:=hid5 hM;clear h hnm hl hM;have bA:=(Below.refl w.heap.size w).alloc (Nat.le_refl _) (.cells #[.map (some mb)] 46);have bB:=bA.alloc bA.size (.cells (List.replicate us.length (Value.slice none 0 0)).toArray 90);have bC:=bB.alloc bB.size (.cells #[.slice (some ⟨w.heap.size+1,0,none⟩) us.length us.length] 85);have s1:(w.alloc (.cells #[.map (some mb)] 46)).heap.size=w.heap.size+1:=by simp
 have s2:((w.alloc (.cells #[.map (some mb)] 46)).alloc (.cells (List.replicate us.length (Value.slice none 0 0)).toArray 90)).heap.size=w.heap.size+1+1:=by simp
 have hst:SpH w us.length mb (lsJ l 0) (((w.alloc (.cells #[.map (some mb)] 46)).alloc (.cells (List.replicate us.length (Value.slice none 0 0)).toArray 90)).alloc (.cells #[.slice (some ⟨w.heap.size+1,0,none⟩) us.length us.length] 85)):=by
  refine⟨bC,?_,?_,List.replicate us.length (.slice none 0 0),?_,?_,?_,?_,?_⟩
  ·exact(Below.heap_alloc _ _ _ (by rw[s2];omega)).trans ((Below.heap_alloc _ _ _ (by rw[s1];omega)).trans (heap_alloc_new w _))
  ·have:=heap_alloc_new ((w.alloc (.cells #[.map (some mb)] 46)).alloc (.cells (List.replicate us.length (Value.slice none 0 0)).toArray 90)) (.cells #[.slice (some ⟨w.heap.size+1,0,none⟩) us.length us.length] 85);rw[s2]at this;exact this
  ·refine(Below.heap_alloc _ _ _ (by rw[s2];omega)).trans ?_;have:=heap_alloc_new (w.alloc (.cells #[.map (some mb)] 46)) (.cells (List.replicate us.length (Value.slice none 0 0)).toArray 90);rw[s1]at this;exact this
  ·rw[lsJ_zero];simp[hll]
  ·intro j v ns h1 h2;rw[lsJ_zero,List.getElem?_replicate]at h2;rw[List.getElem?_replicate]at h1;split at h1
   ·split at h2
    ·cases h1;cases h2;exact World.ownsRow_nil _ _ _ _
    ·cases h2
   ·cases h1
  ·intro j k v v' b _ h1 _ h3;rw[List.getElem?_replicate]at h1;split at h1
   ·cases h1;cases h3
   ·cases h1
  ·intro j v h1 e;rw[List.getElem?_replicate]at h1;split at h1
   ·cases h1;cases e
   ·cases h1
 clear bA bB bC s1 s2 hll;have hmf: ∀(fn:Fn) (first cap:Array Value) (w:World),(Instr.makeFunc fn first cap).run Tryd.prog w= .ok (.func fn first cap) w:=fun _ _ _ _=>rfl;go_enter Tryd.func37,Tryd.ntmps37;go_wp2_with fail;go_loopw [6,7,13] (fun _ _ t wq=>HRel w l us.length mb t wq) (fun _ _ t _=>us.length-(intOf t).toNat);case atStart=>exact⟨0,rfl,by omega,hst⟩
 case round=>
  obtain⟨j,rfl,hj,hsj⟩:=hrel;clear hst hmk;have hj0:(0:Int)≤(j:Int):=(by omega);by_cases hlt:j<us.length
  ·have hlt':(j:Int)<(us.length:Int):=(by omega);obtain⟨⟨u,sk⟩,hjk⟩: ∃p,us[j]? =some p:=⟨us[j],List.getElem?_eq_getElem hlt⟩
   have hul:l[j]? =some u:=(by rw[←HL.out,List.getElem?_map,hjk];rfl);obtain⟨g,o,hpe,c0,c1,c2,c3,c4,c5⟩:=HK.out j _ hjk;obtain⟨dk,hkk⟩:=HI.out _ (List.mem_of_getElem? hjk);have hnk:=HN.out _ (List.mem_of_getElem? hjk);dsimp only at c0 c1 c2 c3 c4 c5 hkk hnk;obtain⟨ps,cs,rfl⟩:=hkk.form;subst hpe;have hbl:=hsj.bel;have d0:=(hbl.cell (block_lt_of_cell c0)).trans c0;have d1:=(hbl.cell (block_lt_of_cell c1)).trans c1;have d2:=(hbl.cell (block_lt_of_cell c2)).trans c2;have d3:=(hbl.cell (block_lt_of_cell c3)).trans c3;have d4:=(hbl.cell (block_lt_of_cell c4)).trans c4;have d5:=(hbl.cell (block_lt_of_cell c5)).trans c5;have hop:=hsj.open (cs:= #[.string ⟨u.1.toArray⟩,.int .i64 u.2.kind,.int .i64 u.2.a,.int .i64 u.2.b,.string ⟨u.2.name.toArray⟩,.slice ps u.2.kids.length cs]) HLL.out hlt;have cE:=eachName_any w l us.length mb wr.heap.size j (lsJ l j) HM.out hlt (by omega) ((lsJ_len (by rw[HLL.out];omega)).trans HLL.out) dk u.2 _ [] _ hkk hop (by simp;omega);have hnx:(lsJ l j).set j (spoken l [] (nms u.2))=lsJ l (j+1):=lsJ_next hul;rw[hnx]at cE;have hxR:=heap_alloc_new (wr.alloc (.cells #[.int .i64 (j:Int)] 3)) (.cells #[.string ⟨u.1.toArray⟩,.int .i64 u.2.kind,.int .i64 u.2.a,.int .i64 u.2.b,.string ⟨u.2.name.toArray⟩,.slice ps u.2.kids.length cs] 52);rw[show(wr.alloc (.cells #[.int .i64 (j:Int)] 3)).heap.size=wr.heap.size+1 by simp]at hxR;unfold exV sayV at cE;clear hnx hop hul hjk c0 c1 c2 c3 c4 c5 hkk hnk hbl hsj;generalize hwB:(wr.alloc (.cells #[.int .i64 (j:Int)] 3)).alloc (.cells #[.string ⟨u.1.toArray⟩,.int .i64 u.2.kind,.int .i64 u.2.a,.int .i64 u.2.b,.string ⟨u.2.name.toArray⟩,.slice ps u.2.kids.length cs] 52)=wB at*;have r1:=(cell_of_row _ _ 1 _ _ _ hxR).trans rfl;have r2:=(cell_of_row _ _ 2 _ _ _ hxR).trans rfl;have r3:=(cell_of_row _ _ 3 _ _ _ hxR).trans rfl;have r4:=(cell_of_row _ _ 4 _ _ _ hxR).trans rfl;have r5:=(cell_of_row _ _ 5 _ _ _ hxR).trans rfl;go_wp2_with fail;refine cE.mono ?_;rintro e' w2 ⟨rfl,hst2,_⟩;have hs2:=hst2.shut;clear cE hst2 hwB hxR r1 r2 r3 r4 r5;go_wp2_with fail;go_roundw;case rel=>exact⟨j+1,by go_num,by omega,hs2⟩
   case measure=>simp[intOf];omega
  ·have ej:j=us.length:=(by omega);have hlt': ¬(j:Int)<(us.length:Int):=(by omega);have k5:=(cell_of_row _ _ 0 _ _ _ hsj.b5).trans rfl
   have HO:Hid (OutSp l w (.returned (.slice (some ⟨w.heap.size+1,0,none⟩) us.length us.length)) wr):=by
    have h2:=HLL.out;refine⟨_,rfl,?_,hsj.bel⟩;rw[ej,←h2]at hsj
    have:=SpH.out hsj rfl fun x hx=>by
     rw[←HL.out]at hx;obtain⟨p,hp,rfl⟩:=List.mem_map.1 hx;have h3:=HN.out p hp;have h4:=spoken_le l (nms p.1.2) [];unfold spkR;simp at h4;omega
    rw[←h2];exact this
   clear hsj HK HI HN HM ej;go_wp2_with fail;go_ret;exact HO.out
end Go.Proofs.YtpmobjgnmidolaaDoor
/- What the three looks of check's Wrong come to. -/
namespace Go.Proofs.YtpmobjgnmidolaaDoor
open Go.RowKit Lx
def natsOf (ns:List Int):List Nat:=ns.map Int.toNat
def leadS (l:List Ru)(i:Nat):List Nat:=match l[i]? with|some u=>natsOf (spkR l u)|none=>[]
theorem leadS_at {l:List Ru}{i:Nat}{u:Ru}(h:l[i]? =some u):leadS l i=natsOf (spkR l u):=by unfold leadS;rw[h]
theorem rowsI_of {w:World}{so:Value}{l:List Ru}(h:RowsZ w so (l.map (spkR l)))(hk: ∀u∈l,-1∉spkR l u):RowsI w so l.length (leadS l):=by
 have hb: ∀u∈l,∀m∈spkR l u,0≤m∧m<l.length:=fun u hu m hm=>by
  have h1:=(spoken_len (l:=l) (nms u.2) [] List.nodup_nil (fun m hm=>by cases hm)).2 m hm;have h2:m≠ -1:=fun e=>hk u hu (e▸hm);omega
 obtain⟨p,c,h1,h2⟩:=h;refine⟨⟨p,c,by rw[h1,List.length_map],fun i hi=> ?_⟩,fun i k hk'=> ?_⟩
 ·obtain⟨u,hu⟩: ∃u,l[i]? =some u:=⟨l[i],List.getElem?_eq_getElem hi⟩
  obtain⟨g,o,v,e,hc,hr⟩:=h2 i (spkR l u) (by rw[List.getElem?_map,hu];rfl);refine⟨g,o,v,e,hc,?_⟩;rw[leadS_at hu]
  have:(natsOf (spkR l u)).map (fun k:Nat=>(k:Int))=spkR l u:=by
   unfold natsOf;rw[List.map_map]
   have hh: ∀ns:List Int,(∀m∈ns,0≤m)→ns.map ((fun k:Nat=>(k:Int))∘Int.toNat)=ns:=by
    intro ns;induction ns with
    |nil=>intro _;rfl
    |cons m ns ih=>
     intro hm;rw[List.map_cons,ih fun q hq=>hm q (List.mem_cons_of_mem _ hq)];have:=hm m List.mem_cons_self;show((m.toNat:Nat):Int)::ns=_;rw[Int.toNat_of_nonneg this]
   exact hh _ fun m hm=>(hb u (List.mem_of_getElem? hu) m hm).1
  rw[this];exact hr
 ·unfold leadS at hk';split at hk'
  ·rename_i u hu;unfold natsOf at hk';obtain⟨m,hm,rfl⟩:=List.mem_map.1 hk';have:=hb u (List.mem_of_getElem? hu) m hm;omega
  ·cases hk'
theorem atP5_self {l:List Ru}{i:Nat}{u:Ru}(h:l[i]? =some u):0≤atP5 l u.1:=by
 have aux: ∀(l:List Ru) (k i:Nat),l[i]? =some u→0≤atF l k u.1:=by
  intro l;induction l with
  |nil=>intro k i h;simp at h
  |cons v l ih=>
   intro k i h;simp only[atF];split
   ·omega
   ·rename_i hv;cases i with
    |zero=>simp at h;exact absurd (by rw[h]) hv
    |succ i=>exact ih (k+1) i (by simpa using h)
 exact aux l 0 i h
set_option maxRecDepth 100000 in
set_option maxHeartbeats 1000000 in
theorem look1_any (us:List (Ru×Value))(pv:Option Addr)(cv:Nat)(mb b4 b1 i:Nat)(u:Ru)(w:World)(h:InR w (.slice pv us.length cv) us)(hM:MapN w mb (us.map (fun p=>p.1)))(h1:w.heap[b1]? =some (.cells #[.slice pv us.length cv] 22 (0,0)))(h4:w.heap[b4]? =some (.cells #[.map (some mb)] 46 (0,0)))(hu:(us.map (fun p=>p.1))[i]? =some u):
  Calls Tryd.prog 38 #[.int .i64 (i:Int),.pointer (some ⟨b4,0,none⟩),.pointer (some ⟨b1,0,none⟩)] w fun r w'=>r= .returned (.bool (atP5 (us.map (fun p=>p.1)) u.1 !=(i:Int)))∧Below w.heap.size w w':=by
 have hlk:=fun W (hW:w.heap=W.heap)=>look6 (w:=W) (hM.later (by rw[hW])) u.1 (atP5_self hu)
 obtain⟨⟨u',sk⟩,hp,hpu⟩: ∃p,us[i]? =some p∧p.1=u:=by
  rw[List.getElem?_map]at hu;exact Option.map_eq_some_iff.1 hu
 dsimp only at hpu;subst hpu;have hi:i<us.length:=(List.getElem?_eq_some_iff.1 hp).1;obtain⟨g,o,rfl,c0,_⟩:=h.cells i _ hp;dsimp only at c0;have k1:=(cell_of_row _ _ 0 _ _ _ h1).trans rfl;have k4:=(cell_of_row _ _ 0 _ _ _ h4).trans rfl;have hi0:(0:Int)≤(i:Int):=by omega
 have hiI:(i:Int)<(us.length:Int):=by omega
 have hlk0:=fun n=>hlk (w.drewN n) rfl;have hlk1:=hlk w rfl;generalize atP5 (us.map (fun p=>p.1)) u'.1=N at*;clear hlk h hM hu hp h1 h4;go_enter Tryd.func38,Tryd.ntmps38;go_wp2_with fail;go_quiet (fail);have hbq:Below w.heap.size w (w.drewN nq):=below_drewN (Below.refl _ _) nq;go_wp2_with fail;go_ret;exact⟨rfl,hbq⟩
set_option maxRecDepth 100000 in
theorem look2_any (l:List Ru)(so:Value)(b5 i:Nat)(u:Ru)(w:World)(hZ:RowsZ w so (l.map (spkR l)))(h5:w.heap[b5]? =some (.cells #[so] 85 (0,0)))(hu:l[i]? =some u):
  Calls Tryd.prog 39 #[.int .i64 (i:Int),.pointer (some ⟨b5,0,none⟩)] w fun r w'=>r= .returned (.bool (decide (-1∈spkR l u)))∧Below w.heap.size w w':=by
 obtain⟨p,c,rfl,hrows⟩:=hZ;obtain⟨g,o,v,rfl,hc,hr⟩:=hrows i (spkR l u) (by rw[List.getElem?_map,hu];rfl);have hi:i<l.length:=(List.getElem?_eq_some_iff.1 hu).1;have cC:=contains5_any (spkR l u) v (-1) w hr;obtain⟨pv,cv,rfl,_,_⟩:=hr;have k5:=(cell_of_row _ _ 0 _ _ _ h5).trans rfl;rw[List.length_map]at k5;have hi0:(0:Int)≤(i:Int):=by omega
 have hiI:(i:Int)<(l.length:Int):=by omega
 clear hrows h5 hu;generalize decide (-1∈spkR l u)=b at*;generalize (spkR l u).length=nn at*;go_enter Tryd.func39,Tryd.ntmps39;go_wp2_with fail;refine cC.mono ?_;rintro r w1 ⟨rfl,hb⟩;clear cC;go_wp2_with fail;go_ret;exact⟨rfl,hb⟩
set_option maxRecDepth 100000 in
theorem look3_any (l:List Ru)(so:Value)(b5 i:Nat)(w:World)(hS:RowsI w so l.length (leadS l))(hl:l.length≤1000)(h5:w.heap[b5]? =some (.cells #[so] 85 (0,0)))(hi:i<l.length):
  Calls Tryd.prog 41 #[.int .i64 (i:Int),.pointer (some ⟨b5,0,none⟩)] w fun r w'=>r= .returned (.bool (fol (leadS l) (l.length+1) (fun _=>false) i i))∧Below w.heap.size w w':=by
 have cR:=reached_any so l.length (leadS l) i w hS (by omega) hi;obtain⟨p,c,rfl,_⟩:=hS.form;have k5:=(cell_of_row _ _ 0 _ _ _ h5).trans rfl;have hi0:(0:Int)≤(i:Int):=by omega
 have hiI:(i:Int)<(l.length:Int):=by omega
 generalize fol (leadS l) (l.length+1) (fun _=>false) i=m at*;clear h5 hS;go_enter Tryd.func41,Tryd.ntmps41;go_wp2_with fail;refine cR.mono ?_;rintro r w1 ⟨g,rfl,hg,hb⟩;have km:=(cell_of_row _ _ i _ _ _ hg).trans (bcells_at hi);clear cR hg;go_wp2_with fail;go_ret;exact⟨rfl,hb⟩
end Go.Proofs.YtpmobjgnmidolaaDoor
/- What check's Wrong comes to. -/
namespace Lx
def frF (p:Nat→Bool):Nat→Nat→Option Nat
 |_,0=>none
 |i,k+1=>if p i=true then some i else frF p (i+1) k
theorem frF_some {p:Nat→Bool}{j:Nat}(hp:p j=true): ∀(k i:Nat),i≤j→j<i+k→(∀i',i≤i'→i'<j→p i'=false)→frF p i k=some j
 |0,i,h1,h2,_=>by omega
 |k+1,i,h1,h2,h3=>by
  rw[frF];by_cases e:i=j
  ·subst e;rw[if_pos hp]
  ·rw[if_neg (by rw[h3 i (Nat.le_refl _) (by omega)];decide)];exact frF_some hp k (i+1) (by omega) (by omega) fun i' a b=>h3 i' (by omega) b
theorem frF_none {p:Nat→Bool}: ∀(k i:Nat),(∀i',i≤i'→i'<i+k→p i'=false)→frF p i k=none
 |0,_,_=>rfl
 |k+1,i,h=>by
  rw[frF,if_neg (by rw[h i (Nat.le_refl _) (by omega)];decide)];exact frF_none k (i+1) fun i' a b=>h i' (by omega) (by omega)
end Lx
namespace Go.Proofs.YtpmobjgnmidolaaDoor
open Go.RowKit Lx
def lk1 (l:List Ru)(i:Nat):Bool:=match l[i]? with|some u=>atP5 l u.1 !=(i:Int)|none=>false
def lk2 (l:List Ru)(i:Nat):Bool:=match l[i]? with|some u=>decide (-1∈spkR l u)|none=>false
def lk3 (l:List Ru)(i:Nat):Bool:=fol (leadS l) (l.length+1) (fun _=>false) i i
def chkW (l:List Ru):Int×Nat:=if(wrongR l).1≠0 then wrongR l else match frF (lk1 l) 0 l.length with
 |some i=>(7,i)
 |none=>match frF (lk2 l) 0 l.length with
  |some i=>(6,i)
  |none=>match frF (lk3 l) 0 l.length with
   |some i=>(9,i)
   |none=>(0,0)
theorem chk_a {l:List Ru}{i:Nat}(h0:(wrongR l).1=0)(hi:i<l.length)(hp:lk1 l i=true)(hall: ∀i',i'<i→lk1 l i'=false):chkW l=(7,i):=by
 unfold chkW;rw[if_neg (by simpa using h0),frF_some hp l.length 0 (by omega) (by omega) fun i' _ h=>hall i' h]
theorem chk_b {l:List Ru}{i:Nat}(h0:(wrongR l).1=0)(h1: ∀i',i'<l.length→lk1 l i'=false)(hi:i<l.length)(hp:lk2 l i=true)(hall: ∀i',i'<i→lk2 l i'=false):chkW l=(6,i):=by
 unfold chkW;rw[if_neg (by simpa using h0),frF_none l.length 0 fun i' _ h=>h1 i' (by omega),frF_some hp l.length 0 (by omega) (by omega) fun i' _ h=>hall i' h]
theorem chk_c {l:List Ru}{i:Nat}(h0:(wrongR l).1=0)(h1: ∀i',i'<l.length→lk1 l i'=false)(h2: ∀i',i'<l.length→lk2 l i'=false)(hi:i<l.length)(hp:lk3 l i=true)(hall: ∀i',i'<i→lk3 l i'=false):chkW l=(9,i):=by
 unfold chkW;rw[if_neg (by simpa using h0),frF_none l.length 0 fun i' _ h=>h1 i' (by omega),frF_none l.length 0 fun i' _ h=>h2 i' (by omega),frF_some hp l.length 0 (by omega) (by omega) fun i' _ h=>hall i' h]
theorem chk_d {l:List Ru}(h0:(wrongR l).1=0)(h1: ∀i',i'<l.length→lk1 l i'=false)(h2: ∀i',i'<l.length→lk2 l i'=false)(h3: ∀i',i'<l.length→lk3 l i'=false):chkW l=(0,0):=by
 unfold chkW;rw[if_neg (by simpa using h0),frF_none l.length 0 fun i' _ h=>h1 i' (by omega),frF_none l.length 0 fun i' _ h=>h2 i' (by omega),frF_none l.length 0 fun i' _ h=>h3 i' (by omega)]
def IRel (n:Nat)(p:Nat→Bool)(W0 wB:World)(t:Value)(wr:World):Prop:= ∃i:Nat,t= .int .i64 (i:Int)∧i≤n∧(∀i',i'<i→p i'=false)∧Below W0.heap.size W0 wr∧Below wB.heap.size wB wr
def ORel (l:List Ru)(n:Nat)(W0:World)(t:Value)(wr:World):Prop:= ∃k:Nat,t= .int .i64 (k:Int)∧k≤3∧((0<k→ ∀i',i'<n→lk1 l i'=false)∧(1<k→ ∀i',i'<n→lk2 l i'=false)∧(2<k→ ∀i',i'<n→lk3 l i'=false))∧Below W0.heap.size W0 wr
theorem wrong_nms {l:List Ru}(h:(wrongR l).1=0):l.length≤40∧ ∀u∈l,(nms u.2).length≤600:=by
 unfold wrongR at h;split at h
 ·cases h
 ·refine⟨by omega,?_⟩
  have aux: ∀(l:List Ru) (i:Nat),(wrongL l i).1=0→ ∀u∈l,ruleP u=0:=by
   intro l;induction l with
   |nil=>intro _ _ u hu;cases hu
   |cons x l ih=>
    intro i h u hu;rw[wrongL]at h;split at h
    ·rename_i hx;exact absurd h hx
    ·rename_i hx;rcases List.mem_cons.1 hu with rfl|hu
     ·simpa using hx
     ·exact ih _ h u hu
  intro u hu;have hr:=aux l 0 h u hu;unfold ruleP at hr;split at hr
  ·cases hr
  ·have h1:=nms_shape _ u.2 1 0 (Nat.le_refl _) hr;have h2:=shapeP_le hr;omega
set_option maxRecDepth 100000 in
set_option maxHeartbeats 8000000 in
theorem chk_any (us:List (Ru×Value))(v:Value)(w:World)(h:InR w v us):Calls Tryd.prog 13 #[v] w fun r w'=>r= .returned (.agg #[.int .i64 (chkW (us.map (fun p=>p.1))).1,.int .i64 ((chkW (us.map (fun p=>p.1))).2:Int)])∧Below w.heap.size w w':=by
 obtain⟨l,hl⟩: ∃l,us.map (fun p=>p.1)=l:=⟨_,rfl⟩
 have hll:l.length=us.length:=by rw[←hl,List.length_map]
 obtain⟨pv,cv,rfl⟩:=h.form;have bA:=(Below.refl w.heap.size w).alloc (Nat.le_refl _) (.cells #[.slice pv us.length cv] 22);have bB:=bA.alloc bA.size (.cells #[.int .i64 0,.int .i64 0] 26);have s1:(w.alloc (.cells #[.slice pv us.length cv] 22)).heap.size=w.heap.size+1:=by simp
 have n1:=(Below.heap_alloc _ (.cells #[.int .i64 0,.int .i64 0] 26) _ (lt_of_block (heap_alloc_new w (.cells #[.slice pv us.length cv] 22)))).trans (heap_alloc_new w (.cells #[.slice pv us.length cv] 22));have n2:=heap_alloc_new (w.alloc (.cells #[.slice pv us.length cv] 22)) (.cells #[.int .i64 0,.int .i64 0] 26);rw[s1]at n2;clear s1 bA;generalize hwB:(w.alloc (.cells #[.slice pv us.length cv] 22)).alloc (.cells #[.int .i64 0,.int .i64 0] 26)=wB at*;have cW:=wrong_any us _ wB (h.below bB);have k1:=(cell_of_row _ _ 0 _ _ _ n1).trans rfl;rw[hl]at cW⊢;go_enter Tryd.func13,Tryd.ntmps13;go_wp2_with fail;refine cW.mono ?_;rintro r w1 ⟨rfl,hb1⟩;have m1:=(hb1.block _ (lt_of_block n1)).trans n1;have m2:=(hb1.block _ (lt_of_block n2)).trans n2;have hb1w:=bB.trans (hb1.mono bB.size);clear cW hb1 n1 n2 bB k1 hwB;by_cases h0:(wrongR l).1=0
 ·obtain⟨h40,hnm⟩:=wrong_nms h0;rw[h0];generalize (((wrongR l).2:Nat):Int)=at0 at*;have bC:=(Below.refl w1.heap.size w1).alloc (Nat.le_refl _) (.cells #[.int .i64 0,.int .i64 at0] 26);have hb2w:=hb1w.trans (bC.mono hb1w.size);have m1':=(bC.block _ (lt_of_block m1)).trans m1;have m2':=(bC.block _ (lt_of_block m2)).trans m2;have k1:=(cell_of_row _ _ 0 _ _ _ m1').trans rfl;have cN:=numbers_any us _ _ (h.below hb2w);have m3:=heap_alloc_new w1 (.cells #[.int .i64 0,.int .i64 at0] 26);clear m1 m2 bC hb1w;generalize hw2:w1.alloc (.cells #[.int .i64 0,.int .i64 at0] 26)=w2 at*;have z0:=(cell_of_row _ _ 0 _ _ _ m3).trans rfl;go_wp2_with fail;clear z0 m3;refine cN.mono ?_;rintro r w3 ⟨mb,rfl,hmb,hM,hb3⟩;have m1:=(hb3.block _ (lt_of_block m1')).trans m1';have m2:=(hb3.block _ (lt_of_block m2')).trans m2';have hb3w:=hb2w.trans (hb3.mono hb2w.size);have bD:=(Below.refl w3.heap.size w3).alloc (Nat.le_refl _) (.cells #[.map (some mb)] 46);have hb4w:=hb3w.trans (bD.mono hb3w.size);have hM4:MapN (w3.alloc (.cells #[.map (some mb)] 46)) mb (us.map (fun p=>p.1)):=hM.later (bD.block _ (lt_of_map hM));have q1:=(bD.block _ (lt_of_block m1)).trans m1;have q2:=(bD.block _ (lt_of_block m2)).trans m2;have q4:=heap_alloc_new w3 (.cells #[.map (some mb)] 46)
  have cS:=spoken_any us _ mb _ (h.below hb4w) hM4 (by omega) (fun p hp=>by
   have:=hnm p.1 (by rw[←hl];exact List.mem_map.2 ⟨p,hp,rfl⟩);omega)
  clear cN hb3 hb3w m1 m2 m1' m2' hM hb2w k1 hw2 hmb bD;generalize hw4:w3.alloc (.cells #[.map (some mb)] 46)=w4 at*;have k1:=(cell_of_row _ _ 0 _ _ _ q1).trans rfl;have k4:=(cell_of_row _ _ 0 _ _ _ q4).trans rfl;go_wp2_with fail;refine cS.mono ?_;rintro r w5 ⟨so,rfl,hZ,hb5⟩;rw[hl]at hZ;obtain⟨pz,cz,hso,_⟩:=(show RowsZ w5 so (l.map (spkR l)) from hZ)
  rw[List.length_map,hll]at hso;obtain⟨b4,hb4⟩: ∃b,w3.heap.size=b:=⟨_,rfl⟩
  have p1:=(hb5.block _ (lt_of_block q1)).trans q1;have p2:=(hb5.block _ (lt_of_block q2)).trans q2;have p4:=(hb5.block _ (lt_of_block q4)).trans q4;have hM5:=hM4.later (hb5.block _ (lt_of_map hM4));have hb5w:=hb4w.trans (hb5.mono hb4w.size);have bE:=(Below.refl w5.heap.size w5).alloc (Nat.le_refl _) (.cells #[so] 85);have hb6w:=hb5w.trans (bE.mono hb5w.size);have x5:=heap_alloc_new w5 (.cells #[so] 85);have x1:=(bE.block _ (lt_of_block p1)).trans p1;have x2:=(bE.block _ (lt_of_block p2)).trans p2;have x4:=(bE.block _ (lt_of_block p4)).trans p4;have hM6:=hM5.later (bE.block _ (lt_of_map hM5));have hZ6:=RowsZ.below hZ bE;clear cS hb5 q1 q2 q4 hM4 hb4w hb5w p1 p2 p4 hM5 hZ bE k1 k4 hw4;generalize hw6:w5.alloc (.cells #[so] 85)=w6 at*;rw[hb4]at x4;obtain⟨b5,hb5⟩: ∃b,w5.heap.size=b:=⟨_,rfl⟩
  rw[hb5]at x5;have bF:=(Below.refl w6.heap.size w6).alloc (Nat.le_refl _) (.cells #[.int .i64 7,.func (.func 38) #[] #[.pointer (some ⟨b4,0,none⟩),.pointer (some ⟨w.heap.size,0,none⟩)],.int .i64 6,.func (.func 39) #[] #[.pointer (some ⟨b5,0,none⟩)],.int .i64 9,.func (.func 41) #[] #[.pointer (some ⟨b5,0,none⟩)]] 88);have hlo:=heap_alloc_new w6 (.cells #[.int .i64 7,.func (.func 38) #[] #[.pointer (some ⟨b4,0,none⟩),.pointer (some ⟨w.heap.size,0,none⟩)],.int .i64 6,.func (.func 39) #[] #[.pointer (some ⟨b5,0,none⟩)],.int .i64 9,.func (.func 41) #[] #[.pointer (some ⟨b5,0,none⟩)]] 88);have HbW:=hid5 (hb6w.trans (bF.mono hb6w.size));have y1:=(bF.block _ (lt_of_block x1)).trans x1;have y2:=(bF.block _ (lt_of_block x2)).trans x2;have y4:=(bF.block _ (lt_of_block x4)).trans x4;have y5:=(bF.block _ (lt_of_block x5)).trans x5;have hM7:=hM6.later (bF.block _ (lt_of_map hM6));have hZ7:=RowsZ.below hZ6 bF;have hin7:=h.below HbW.out;have HLL:=hid5 hll;have H0:=hid5 h0;have hmf: ∀(fn:Fn) (first cap:Array Value) (w:World),(Instr.makeFunc fn first cap).run Tryd.prog w= .ok (.func fn first cap) w:=fun _ _ _ _=>rfl;subst hso;clear hb6w bF x1 x2 x4 x5 hM6 hZ6;try simp only[hb4]
  try simp only[hb5]
  go_wp2_with fail;try simp only[hb4]
  try simp only[hb5]
  generalize hW0:w6.alloc (.cells #[.int .i64 7,.func (.func 38) #[] #[.pointer (some ⟨b4,0,none⟩),.pointer (some ⟨w.heap.size,0,none⟩)],.int .i64 6,.func (.func 39) #[] #[.pointer (some ⟨b5,0,none⟩)],.int .i64 9,.func (.func 41) #[] #[.pointer (some ⟨b5,0,none⟩)]] 88)=W0 at*;clear hW0 hw6 hb4 hb5;have kl:=(cell_of_row _ _ 0 _ _ _ y1).trans rfl;have g0:=(cell_of_row _ _ 0 _ _ _ hlo).trans rfl;have g1:=(cell_of_row _ _ 1 _ _ _ hlo).trans rfl;have g2:=(cell_of_row _ _ 2 _ _ _ hlo).trans rfl;have g3:=(cell_of_row _ _ 3 _ _ _ hlo).trans rfl;have g4:=(cell_of_row _ _ 4 _ _ _ hlo).trans rfl;have g5:=(cell_of_row _ _ 5 _ _ _ hlo).trans rfl;have hres:=y2
  have HC1:Hid (∀(i:Nat),i<us.length→ ∀W,Below W0.heap.size W0 W→Calls Tryd.prog 38 #[.int .i64 (i:Int),.pointer (some ⟨b4,0,none⟩),.pointer (some ⟨w.heap.size,0,none⟩)] W fun r w'=>r= .returned (.bool (lk1 l i))∧Below W.heap.size W w'):=fun i hi W hW=>by
   obtain⟨u,hu⟩: ∃u,l[i]? =some u:=⟨l[i]'(by omega),List.getElem?_eq_getElem _⟩
   have e:lk1 l i=(atP5 l u.1 !=(i:Int)):=(by unfold lk1;rw[hu]);rw[e];have:=look1_any us pv cv mb b4 w.heap.size i u W (hin7.below hW) (hM7.later (hW.block _ (lt_of_map hM7))) ((hW.block _ (lt_of_block y1)).trans y1) ((hW.block _ (lt_of_block y4)).trans y4) (by rw[hl];exact hu);rw[hl]at this;exact this
  have HC2:Hid (∀(i:Nat),i<us.length→ ∀W,Below W0.heap.size W0 W→Calls Tryd.prog 39 #[.int .i64 (i:Int),.pointer (some ⟨b5,0,none⟩)] W fun r w'=>r= .returned (.bool (lk2 l i))∧Below W.heap.size W w'):=fun i hi W hW=>by
   obtain⟨u,hu⟩: ∃u,l[i]? =some u:=⟨l[i]'(by omega),List.getElem?_eq_getElem _⟩
   have e:lk2 l i=decide (-1∈spkR l u):=(by unfold lk2;rw[hu]);rw[e];exact look2_any l _ b5 i u W (hZ7.below hW) ((hW.block _ (lt_of_block y5)).trans y5) hu
  have HC3:Hid ((∀i',i'<us.length→lk2 l i'=false)→ ∀(i:Nat),i<us.length→ ∀W,Below W0.heap.size W0 W→Calls Tryd.prog 41 #[.int .i64 (i:Int),.pointer (some ⟨b5,0,none⟩)] W fun r w'=>r= .returned (.bool (lk3 l i))∧Below W.heap.size W w'):=fun hno i hi W hW=>by
   refine look3_any l _ b5 i W (rowsI_of (hZ7.below hW) fun u hu hm=> ?_) (by omega) ((hW.block _ (lt_of_block y5)).trans y5) (by omega);obtain⟨j,hj⟩:=List.getElem?_of_mem hu;have hj':j<l.length:=(List.getElem?_eq_some_iff.1 hj).1;have:=hno j (by omega);unfold lk2 at this;rw[hj]at this;dsimp only at this;rw[decide_eq_true hm]at this;cases this
  have hI40:(us.length:Int)≤40:=(by omega);clear y1 y2 y4 y5 hM7 hZ7 hin7 hlo h hnm h40 hll h0;go_loopw [8,9,30] (fun _ _ t wr=>ORel l us.length W0 t wr) (fun _ _ t _=>3-(intOf t).toNat);case atStart=>exact⟨0,rfl,by omega,⟨fun h=>absurd h (by omega),fun h=>absurd h (by omega),fun h=>absurd h (by omega)⟩,Below.refl _ _⟩
  case round=>
   obtain⟨k,rfl,hk3,hno,hbr⟩:=hrel;match k,hk3 with
   |0,_=>
    have d0:=(hbr.cell (block_lt_of_cell g0)).trans g0;have d1:=(hbr.cell (block_lt_of_cell g1)).trans g1;have hbA:=hbr.alloc hbr.size (.cells #[.int .i64 7,.func (.func 38) #[] #[.pointer (some ⟨b4,0,none⟩),.pointer (some ⟨w.heap.size,0,none⟩)]] 88);have hxB:=heap_alloc_new wr (.cells #[.int .i64 7,.func (.func 38) #[] #[.pointer (some ⟨b4,0,none⟩),.pointer (some ⟨w.heap.size,0,none⟩)]] 88);have cL:=HC1.out;generalize hwB:wr.alloc (.cells #[.int .i64 7,.func (.func 38) #[] #[.pointer (some ⟨b4,0,none⟩),.pointer (some ⟨w.heap.size,0,none⟩)]] 88)=wB at*;have e0:=(cell_of_row _ _ 0 _ _ _ hxB).trans rfl;have e1:=(cell_of_row _ _ 1 _ _ _ hxB).trans rfl;have kl':=(hbA.cell (block_lt_of_cell kl)).trans kl;have Hno:=hid5 hno;clear hbr hno hxB g0 g1 g2 g3 g4 g5;go_wp2_with fail;clear d0 d1 kl' hwB;obtain⟨b8,hb8⟩: ∃b,wr.heap.size=b:=⟨_,rfl⟩
    simp only[hb8]at e0 e1⊢;clear hb8;go_loopw [9,36] (fun _ t wr=>IRel us.length (lk1 l) W0 wB t wr) (fun _ t _=>us.length-(intOf t).toNat);case atStart=>exact⟨0,rfl,by omega,fun i' hi'=>by omega,hbA,Below.refl _ _⟩
    case round=>
     obtain⟨i,rfl,hi,hall,hbi,hbB⟩:=hrel;have hi0:(0:Int)≤(i:Int):=(by omega);have e0':=(hbB.cell (block_lt_of_cell e0)).trans e0;have e1':=(hbB.cell (block_lt_of_cell e1)).trans e1;have Hall:=hid5 hall;by_cases hlt:i<us.length
     ·have hlt':(i:Int)<(us.length:Int):=(by omega);have cC:=cL i hlt wr hbi;clear hbA e0 e1 cL hall;cases hp:lk1 l i with
      |true=>
       rw[hp]at cC
       have HX:Hid (chkW l=(7,i)):=by
        have hall:=Hall.out;have hno:=Hno.out;have h0:=H0.out;have hlt:i<l.length:=(by rw[HLL.out];exact hlt);have hLL:=HLL.out;exact chk_a h0 hlt hp hall
       clear Hall Hno hp;go_wp2_with fail;refine cC.mono ?_;rintro r w2 ⟨rfl,hb2⟩;have e0'':=(hb2.cell (block_lt_of_cell e0')).trans e0';have hbw:=hbi.trans (hb2.mono hbi.size);have hz:=(hbw.block _ (lt_of_block hres)).trans hres;have hbF:=below_setRow ((HbW.out).trans (hbw.mono (HbW.out).size)) (show w.heap.size≤w.heap.size+1 by omega) #[.int .i64 7,.int .i64 (i:Int)];clear cC hb2 e0' e1' hbi hbB hbw
       go_wp2_with(first
        |(refine wpList_store_row rfl 26 _ _ rfl _ _ rfl rfl _ _ hz (by kernel_rfl) (by simp) (by simp[Value.oneCell']) ?_))
       refine flt_ret 2 (by kernel_rfl) (w.heap.size+1) _ _ rfl rfl (setRow_heap _ _ _ _ _ _ hz) ?_;rw[HX.out];exact⟨rfl,hbF⟩
      |false=>
       rw[hp]at cC
       have HN:Hid (∀i',i'<i+1→lk1 l i'=false):=fun i' hi'=>by
        by_cases e:i'=i
        ·rw[e];exact hp
        ·exact Hall.out i' (by omega)
       clear Hall hp;go_wp2_with fail;refine cC.mono ?_;rintro r w2 ⟨rfl,hb2⟩;have hbw:=hbi.trans (hb2.mono hbi.size);have hbw2:=hbB.trans (hb2.mono hbB.size);clear cC hb2 e0' e1' hbi hbB;go_wp2_with fail;go_roundw
       case rel=>
        (repeat apply Exists.intro);refine⟨?_,rfl⟩;exact⟨i+1,by go_num,by omega,HN.out,hbw,hbw2⟩
       case measure=>simp[intOf];omega
     ·have hlt': ¬(i:Int)<(us.length:Int):=(by omega);have ei:i=us.length:=(by omega)
      have HN:Hid (ORel l us.length W0 (.int .i64 1) wr):=by
       have hno:=Hno.out;have hall:=Hall.out;rw[ei]at hall;exact⟨1,rfl,by omega,⟨fun _=>hall,fun h=>absurd h (by omega),fun h=>absurd h (by omega)⟩,hbi⟩
      clear hbA e0 e1 e0' e1' hbB Hall Hno hall cL ei hbi;go_wp2_with fail;go_roundw;case rel=>exact HN.out
      case measure=>simp[intOf]
   |1,_=>
    have d0:=(hbr.cell (block_lt_of_cell g2)).trans g2;have d1:=(hbr.cell (block_lt_of_cell g3)).trans g3;have hbA:=hbr.alloc hbr.size (.cells #[.int .i64 6,.func (.func 39) #[] #[.pointer (some ⟨b5,0,none⟩)]] 88);have hxB:=heap_alloc_new wr (.cells #[.int .i64 6,.func (.func 39) #[] #[.pointer (some ⟨b5,0,none⟩)]] 88);have cL:=HC2.out;generalize hwB:wr.alloc (.cells #[.int .i64 6,.func (.func 39) #[] #[.pointer (some ⟨b5,0,none⟩)]] 88)=wB at*;have e0:=(cell_of_row _ _ 0 _ _ _ hxB).trans rfl;have e1:=(cell_of_row _ _ 1 _ _ _ hxB).trans rfl;have kl':=(hbA.cell (block_lt_of_cell kl)).trans kl;have Hno:=hid5 hno;clear hbr hno hxB g0 g1 g2 g3 g4 g5;go_wp2_with fail;clear d0 d1 kl' hwB;obtain⟨b8,hb8⟩: ∃b,wr.heap.size=b:=⟨_,rfl⟩
    simp only[hb8]at e0 e1⊢;clear hb8;go_loopw [9,36] (fun _ t wr=>IRel us.length (lk2 l) W0 wB t wr) (fun _ t _=>us.length-(intOf t).toNat);case atStart=>exact⟨0,rfl,by omega,fun i' hi'=>by omega,hbA,Below.refl _ _⟩
    case round=>
     obtain⟨i,rfl,hi,hall,hbi,hbB⟩:=hrel;have hi0:(0:Int)≤(i:Int):=(by omega);have e0':=(hbB.cell (block_lt_of_cell e0)).trans e0;have e1':=(hbB.cell (block_lt_of_cell e1)).trans e1;have Hall:=hid5 hall;by_cases hlt:i<us.length
     ·have hlt':(i:Int)<(us.length:Int):=(by omega);have cC:=cL i hlt wr hbi;clear hbA e0 e1 cL hall;cases hp:lk2 l i with
      |true=>
       rw[hp]at cC
       have HX:Hid (chkW l=(6,i)):=by
        have hall:=Hall.out;have hno:=Hno.out;have h0:=H0.out;have hlt:i<l.length:=(by rw[HLL.out];exact hlt);have hLL:=HLL.out;exact chk_b h0 (fun a b=>hno.1 (by omega) a (by omega)) hlt hp hall
       clear Hall Hno hp;go_wp2_with fail;refine cC.mono ?_;rintro r w2 ⟨rfl,hb2⟩;have e0'':=(hb2.cell (block_lt_of_cell e0')).trans e0';have hbw:=hbi.trans (hb2.mono hbi.size);have hz:=(hbw.block _ (lt_of_block hres)).trans hres;have hbF:=below_setRow ((HbW.out).trans (hbw.mono (HbW.out).size)) (show w.heap.size≤w.heap.size+1 by omega) #[.int .i64 6,.int .i64 (i:Int)];clear cC hb2 e0' e1' hbi hbB hbw
       go_wp2_with(first
        |(refine wpList_store_row rfl 26 _ _ rfl _ _ rfl rfl _ _ hz (by kernel_rfl) (by simp) (by simp[Value.oneCell']) ?_))
       refine flt_ret 2 (by kernel_rfl) (w.heap.size+1) _ _ rfl rfl (setRow_heap _ _ _ _ _ _ hz) ?_;rw[HX.out];exact⟨rfl,hbF⟩
      |false=>
       rw[hp]at cC
       have HN:Hid (∀i',i'<i+1→lk2 l i'=false):=fun i' hi'=>by
        by_cases e:i'=i
        ·rw[e];exact hp
        ·exact Hall.out i' (by omega)
       clear Hall hp;go_wp2_with fail;refine cC.mono ?_;rintro r w2 ⟨rfl,hb2⟩;have hbw:=hbi.trans (hb2.mono hbi.size);have hbw2:=hbB.trans (hb2.mono hbB.size);clear cC hb2 e0' e1' hbi hbB;go_wp2_with fail;go_roundw
       case rel=>
        (repeat apply Exists.intro);refine⟨?_,rfl⟩;exact⟨i+1,by go_num,by omega,HN.out,hbw,hbw2⟩
       case measure=>simp[intOf];omega
     ·have hlt': ¬(i:Int)<(us.length:Int):=(by omega);have ei:i=us.length:=(by omega)
      have HN:Hid (ORel l us.length W0 (.int .i64 2) wr):=by
       have hno:=Hno.out;have hall:=Hall.out;rw[ei]at hall;exact⟨2,rfl,by omega,⟨fun _=>hno.1 (by omega),fun _=>hall,fun h=>absurd h (by omega)⟩,hbi⟩
      clear hbA e0 e1 e0' e1' hbB Hall Hno hall cL ei hbi;go_wp2_with fail;go_roundw;case rel=>exact HN.out
      case measure=>simp[intOf]
   |2,_=>
    have d0:=(hbr.cell (block_lt_of_cell g4)).trans g4;have d1:=(hbr.cell (block_lt_of_cell g5)).trans g5;have hbA:=hbr.alloc hbr.size (.cells #[.int .i64 9,.func (.func 41) #[] #[.pointer (some ⟨b5,0,none⟩)]] 88);have hxB:=heap_alloc_new wr (.cells #[.int .i64 9,.func (.func 41) #[] #[.pointer (some ⟨b5,0,none⟩)]] 88);have cL:=HC3.out (hno.2.1 (by omega));generalize hwB:wr.alloc (.cells #[.int .i64 9,.func (.func 41) #[] #[.pointer (some ⟨b5,0,none⟩)]] 88)=wB at*;have e0:=(cell_of_row _ _ 0 _ _ _ hxB).trans rfl;have e1:=(cell_of_row _ _ 1 _ _ _ hxB).trans rfl;have kl':=(hbA.cell (block_lt_of_cell kl)).trans kl;have Hno:=hid5 hno;clear hbr hno hxB g0 g1 g2 g3 g4 g5;go_wp2_with fail;clear d0 d1 kl' hwB;obtain⟨b8,hb8⟩: ∃b,wr.heap.size=b:=⟨_,rfl⟩
    simp only[hb8]at e0 e1⊢;clear hb8;go_loopw [9,36] (fun _ t wr=>IRel us.length (lk3 l) W0 wB t wr) (fun _ t _=>us.length-(intOf t).toNat);case atStart=>exact⟨0,rfl,by omega,fun i' hi'=>by omega,hbA,Below.refl _ _⟩
    case round=>
     obtain⟨i,rfl,hi,hall,hbi,hbB⟩:=hrel;have hi0:(0:Int)≤(i:Int):=(by omega);have e0':=(hbB.cell (block_lt_of_cell e0)).trans e0;have e1':=(hbB.cell (block_lt_of_cell e1)).trans e1;have Hall:=hid5 hall;by_cases hlt:i<us.length
     ·have hlt':(i:Int)<(us.length:Int):=(by omega);have cC:=cL i hlt wr hbi;clear hbA e0 e1 cL hall;cases hp:lk3 l i with
      |true=>
       rw[hp]at cC
       have HX:Hid (chkW l=(9,i)):=by
        have hall:=Hall.out;have hno:=Hno.out;have h0:=H0.out;have hlt:i<l.length:=(by rw[HLL.out];exact hlt);have hLL:=HLL.out;exact chk_c h0 (fun a b=>hno.1 (by omega) a (by omega)) (fun a b=>hno.2.1 (by omega) a (by omega)) hlt hp hall
       clear Hall Hno hp;go_wp2_with fail;refine cC.mono ?_;rintro r w2 ⟨rfl,hb2⟩;have e0'':=(hb2.cell (block_lt_of_cell e0')).trans e0';have hbw:=hbi.trans (hb2.mono hbi.size);have hz:=(hbw.block _ (lt_of_block hres)).trans hres;have hbF:=below_setRow ((HbW.out).trans (hbw.mono (HbW.out).size)) (show w.heap.size≤w.heap.size+1 by omega) #[.int .i64 9,.int .i64 (i:Int)];clear cC hb2 e0' e1' hbi hbB hbw
       go_wp2_with(first
        |(refine wpList_store_row rfl 26 _ _ rfl _ _ rfl rfl _ _ hz (by kernel_rfl) (by simp) (by simp[Value.oneCell']) ?_))
       refine flt_ret 2 (by kernel_rfl) (w.heap.size+1) _ _ rfl rfl (setRow_heap _ _ _ _ _ _ hz) ?_;rw[HX.out];exact⟨rfl,hbF⟩
      |false=>
       rw[hp]at cC
       have HN:Hid (∀i',i'<i+1→lk3 l i'=false):=fun i' hi'=>by
        by_cases e:i'=i
        ·rw[e];exact hp
        ·exact Hall.out i' (by omega)
       clear Hall hp;go_wp2_with fail;refine cC.mono ?_;rintro r w2 ⟨rfl,hb2⟩;have hbw:=hbi.trans (hb2.mono hbi.size);have hbw2:=hbB.trans (hb2.mono hbB.size);clear cC hb2 e0' e1' hbi hbB;go_wp2_with fail;go_roundw
       case rel=>
        (repeat apply Exists.intro);refine⟨?_,rfl⟩;exact⟨i+1,by go_num,by omega,HN.out,hbw,hbw2⟩
       case measure=>simp[intOf];omega
     ·have hlt': ¬(i:Int)<(us.length:Int):=(by omega);have ei:i=us.length:=(by omega)
      have HN:Hid (ORel l us.length W0 (.int .i64 3) wr):=by
       have hno:=Hno.out;have hall:=Hall.out;rw[ei]at hall;exact⟨3,rfl,by omega,⟨fun _=>hno.1 (by omega),fun _=>hno.2.1 (by omega),fun _=>hall⟩,hbi⟩
      clear hbA e0 e1 e0' e1' hbB Hall Hno hall cL ei hbi;go_wp2_with fail;go_roundw;case rel=>exact HN.out
      case measure=>simp[intOf]
   |3,_=>
    have hz:=(hbr.block _ (lt_of_block hres)).trans hres;have hbF:=below_setRow ((HbW.out).trans (hbr.mono (HbW.out).size)) (show w.heap.size≤w.heap.size+1 by omega) #[.int .i64 0,.int .i64 0]
    have HX:Hid (chkW l=(0,0)):=by
     have e:=HLL.out;exact chk_d H0.out (by rw[e];exact hno.1 (by omega)) (by rw[e];exact hno.2.1 (by omega)) (by rw[e];exact hno.2.2 (by omega))
    clear hno HC1 HC2 HC3 g0 g1 g2 g3 g4 g5 hbr
    go_wp2_with(first
     |(refine wpList_store_row rfl 26 _ _ rfl _ _ rfl rfl _ _ hz (by kernel_rfl) (by simp) (by simp[Value.oneCell']) ?_))
    refine flt_ret 2 (by kernel_rfl) (w.heap.size+1) _ _ rfl rfl (setRow_heap _ _ _ _ _ _ hz) ?_;rw[HX.out];exact⟨rfl,hbF⟩
   |k+4,hk3=>exact absurd hk3 (by omega)
 ·have HX:Hid (chkW l=wrongR l):=by
   show _=_;unfold chkW;rw[if_pos h0]
  have hne:((wrongR l).1 !=0)=true:=(by simpa using h0);have HR:Hid (∀W,Below w.heap.size w W→(fun(r:Ending) (w':World)=>r= .returned (.agg #[.int .i64 (chkW l).1,.int .i64 ((chkW l).2:Int)])∧Below w.heap.size w w') (.returned (.agg #[.int .i64 (wrongR l).1,.int .i64 ((wrongR l).2:Int)])) W):=fun W hW=>⟨by rw[HX.out],hW⟩
  generalize (wrongR l).1=er at*;generalize (((wrongR l).2:Nat):Int)=at0 at*;have bC:=(Below.refl w1.heap.size w1).alloc (Nat.le_refl _) (.cells #[.int .i64 er,.int .i64 at0] 26);have hb2w:=hb1w.trans (bC.mono hb1w.size);have m2':=(bC.block _ (lt_of_block m2)).trans m2;have m3:=heap_alloc_new w1 (.cells #[.int .i64 er,.int .i64 at0] 26);have hbF:=below_setRow hb2w (show w.heap.size≤w.heap.size+1 by omega) #[.int .i64 er,.int .i64 at0];clear m1 m2 bC hb1w h hl hll h0;generalize hw2:w1.alloc (.cells #[.int .i64 er,.int .i64 at0] 26)=w2 at*;have z0:=(cell_of_row _ _ 0 _ _ _ m3).trans rfl
  go_wp2_with(first
   |(refine wpList_load_row rfl 26 _ rfl _ rfl _ _ _ _ m3 faultType rfl (by kernel_rfl) ?_)
   |(refine wpList_store_row rfl 26 _ _ rfl _ _ rfl rfl _ _ m2' (by kernel_rfl) (by simp) (by simp[Value.oneCell']) ?_))
  refine flt_ret 2 (by kernel_rfl) (w.heap.size+1) _ _ rfl rfl (setRow_heap _ _ _ _ _ _ m2') ?_;exact HR.out _ hbF
end Go.Proofs.YtpmobjgnmidolaaDoor
/- What check's Uses comes to; and Ints. -/
namespace Go.Proofs.YtpmobjgnmidolaaDoor
open Go.RowKit Lx
def mkL (m:Nat→Bool)(j:Nat):List Int:=((List.range j).filter m).map fun k:Nat=>(k:Int)
theorem mkL_len (m:Nat→Bool)(j:Nat):(mkL m j).length≤j:=by
 unfold mkL;rw[List.length_map];have:=List.length_filter_le m (List.range j);simpa using this
def usesL (l:List Ru)(r:Int):List Int:=if r<0∨(l.length:Int)≤r∨(chkW l).1≠0 then [] else mkL (fol (leadS l) (l.length+1) (fun _=>false) r.toNat) l.length
theorem chk_lk2 {l:List Ru}(h:(chkW l).1=0):(wrongR l).1=0∧ ∀u∈l,-1∉spkR l u:=by
 unfold chkW at h;split at h
 ·rename_i h0;exact absurd h h0
 ·rename_i h0;refine⟨by simpa using h0,fun u hu hm=> ?_⟩;split at h
  ·cases h
  ·split at h
   ·cases h
   ·rename_i h2;obtain⟨j,hj⟩:=List.getElem?_of_mem hu;have hj':j<l.length:=(List.getElem?_eq_some_iff.1 hj).1
    have hp:lk2 l j=true:=by
     unfold lk2;rw[hj];exact decide_eq_true hm
    have: ∀(k i:Nat),i≤j→j<i+k→frF (lk2 l) i k≠none:=by
     intro k;induction k with
     |zero=>intro i a b;omega
     |succ k ih=>
      intro i a b;rw[frF];split
      ·simp
      ·rename_i hn;have:i≠j:=fun e=>hn (by rw[e];exact hp);exact ih (i+1) (by omega) (by omega)
    exact this l.length 0 (by omega) (by omega) h2
theorem fieldFlt5 (c0 c1:Value)(w:World):(Instr.field 26 (.agg #[c0,c1]) 0).run Tryd.prog w= .ok c0 w:=by
 unfold Instr.field;simp[go_sem,asAgg]
attribute [go_sem] fieldFlt5
end Go.Proofs.YtpmobjgnmidolaaDoor
