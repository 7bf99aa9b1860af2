/- What the closure of spoken comes to: one number more in a rule's row. -/
import Derived.Test.YtpmobjgnmidolaaDoorDt08
import Derived.Test.YtpmobjgnmidolaaDoorDt01
import Derived.Maps.AppendAt
import Derived.Deep.Cut
namespace Go.Proofs.YtpmobjgnmidolaaDoor
open Go.RowKit Lx
structure Fd32 (l:List Value) where
 (u0 u1 u2 u3 u4 u5 u6 u7 u8 u9 u10 u11 u12 u13 u14 u15 u16 u17 u18 u19 u20 u21 u22 u23 u24 u25 u26 u27 u28 u29 u30 u31:Value)
 eq:l=[u0,u1,u2,u3,u4,u5,u6,u7,u8,u9,u10,u11,u12,u13,u14,u15,u16,u17,u18,u19,u20,u21,u22,u23,u24,u25,u26,u27,u28,u29,u30,u31]
set_option maxRecDepth 100000 in
theorem fd32 (l:List Value)(hl:l.length=32):Nonempty (Fd32 l):=allL 32 (fun l=>Nonempty (Fd32 l)) (fun u0 u1 u2 u3 u4 u5 u6 u7 u8 u9 u10 u11 u12 u13 u14 u15 u16 u17 u18 u19 u20 u21 u22 u23 u24 u25 u26 u27 u28 u29 u30 u31=>⟨⟨u0,u1,u2,u3,u4,u5,u6,u7,u8,u9,u10,u11,u12,u13,u14,u15,u16,u17,u18,u19,u20,u21,u22,u23,u24,u25,u26,u27,u28,u29,u30,u31,rfl⟩⟩) l hl
def icells (ns:List Int):List Value:=ns.map (fun n=>Value.int .i64 n)
theorem rowI_of_owns {w:World}{base:Nat}{v:Value}{ns:List Int}(h:w.ownsRow base 3 1 v ns.length (icells ns))(hl:ns.length<9223372036854775808):RowI w v ns:=by
 obtain⟨p,c,hv⟩:=row_form h;refine⟨p,c,hv,hl,fun j n hj=> ?_⟩;have hj':j<ns.length:=(List.getElem?_eq_some_iff.1 hj).1;obtain⟨g,cap,hg,hcell⟩:=own_slice h (by omega);rw[hv]at hg;injection hg with e1;refine⟨g,0,e1,?_⟩;rw[Nat.zero_add];exact hcell j _ (by unfold icells;rw[List.getElem?_map,hj];rfl)
theorem owns_keep {w w':World}{base:Nat}{e:TypeId}{size:Nat}{v:Value}{n:Nat}{xs:List Value}(h:w.ownsRow base e size v n xs)(hk: ∀b,v.ownBlock=some b→w'.heap[b]? =w.heap[b]?):w'.ownsRow base e size v n xs:=by
 obtain⟨h1,h2⟩:=h;refine⟨h1,?_⟩;rcases h2 with h2|⟨g,cap,cur,hv,hg,hh,r⟩
 ·exact .inl h2
 ·exact .inr ⟨g,cap,cur,hv,hg,(hk g (by rw[hv];rfl)).trans hh,r⟩
structure Sps (base:Nat)(W:World)(go gi:Nat)(vs:List Value)(ls:List (List Int)):Prop where
 blk:W.heap[go]? =some (.cells vs.toArray 90 (0,0))
 len:vs.length=ls.length
 rows: ∀(j:Nat) (v:Value) (ns:List Int),vs[j]? =some v→ls[j]? =some ns→W.ownsRow base 3 1 v ns.length (icells ns)
 apart: ∀(j k:Nat) (v v':Value) (b:Nat),j≠k→vs[j]? =some v→vs[k]? =some v'→v.ownBlock=some b→v'.ownBlock≠some b
 other: ∀(j:Nat) (v:Value),vs[j]? =some v→v.ownBlock≠some gi
structure SpS (w:World)(l:List Ru)(n mb gi i:Nat)(ls:List (List Int))(W:World):Prop where
 bel:Below w.heap.size w W
 b1:W.heap[w.heap.size]? =some (.cells #[.map (some mb)] 46 (0,0))
 b5:W.heap[w.heap.size+1+1]? =some (.cells #[.slice (some ⟨w.heap.size+1,0,none⟩) n n] 85 (0,0))
 bi:W.heap[gi]? =some (.cells #[.int .i64 (i:Int)] 3 (0,0))
 gib:w.heap.size+1+1<gi
 rows: ∃vs,Sps (w.heap.size+3) W (w.heap.size+1) gi vs ls
theorem SpS.below {w:World}{l:List Ru}{n mb gi i:Nat}{ls:List (List Int)}{W W':World}(h:SpS w l n mb gi i ls W)(hb:Below W.heap.size W W'):SpS w l n mb gi i ls W':=by
 obtain⟨vs,hs⟩:=h.rows;refine⟨h.bel.trans (hb.mono h.bel.size),(hb.block _ (lt_of_block h.b1)).trans h.b1,(hb.block _ (lt_of_block h.b5)).trans h.b5,(hb.block _ (lt_of_block h.bi)).trans h.bi,h.gib,vs,(hb.block _ (lt_of_block hs.blk)).trans hs.blk,hs.len,fun j v ns h1 h2=> ?_,hs.apart,hs.other⟩;have ho:=hs.rows j v ns h1 h2;exact owns_keep ho fun b hbb=>hb.block b (ho.lt b hbb).2
def KT (W W':World):Prop:= ∀(q:Nat) (cs:Array Value) (t:TypeId) (fr:Nat×Nat),W.heap[q]? =some (.cells cs t fr)→t≠3→t≠90→W'.heap[q]? =some (.cells cs t fr)
theorem KT.refl (W:World):KT W W:=fun _ _ _ _ h _ _=>h
theorem KT.trans {W W' W'':World}(h:KT W W')(h':KT W' W''):KT W W'':=fun q cs t fr h1 h2 h3=>h' q cs t fr (h q cs t fr h1 h2 h3) h2 h3
theorem KT.below {W W':World}(h:Below W.heap.size W W'):KT W W':=fun q _ _ _ h1 _ _=>(h.block q (Array.getElem?_eq_some_iff.1 h1).1).trans h1
def ssp (w:World)(gi n i n3:Nat)(vs:List Value)(vi:Value)(r:List Int)(nn:Int)(q:Nat)(x:Value)(W:World):Prop:=match q with
 |0=>x= .slice (some ⟨w.heap.size+1,0,none⟩) n n
 |1=>x= .int .i64 (i:Int)
 |2=>x= .slice (some ⟨w.heap.size+1,0,none⟩) n n
 |3=>x= .int .i64 (i:Int)
 |4=>x= .pointer (some ⟨w.heap.size+1,i,none⟩)
 |5=>x=vi
 |6=>x= .int .i64 nn
 |7=> ∃g4,x= .slice (some ⟨g4,0,none⟩) 1 1∧n3≤g4∧W.heap[g4]? =some (.cells #[.int .i64 nn] 3 (0,0))
 |8=>W.ownsRow (w.heap.size+3) 3 1 x (r.length+1) (icells r++[.int .i64 nn])∧x.ownBlock≠some gi∧ ∀(j:Nat) (v:Value) (b:Nat),j≠i→vs[j]? =some v→v.ownBlock=some b→x.ownBlock≠some b
 |9=>x= .pointer (some ⟨w.heap.size+1,i,none⟩)
 |_=>True
theorem ssp_kept {w:World}{gi n i n3:Nat}{vs:List Value}{vi:Value}{r:List Int}{nn:Int}{W W':World}(h3: ∀q,n3≤q→q<W.heap.size→W'.heap[q]? =W.heap[q]?): ∀(q:Nat) (x:Value),(q=8→ ∀q,w.heap.size+3≤q→q<W.heap.size→W'.heap[q]? =W.heap[q]?)→ssp w gi n i n3 vs vi r nn q x W→ssp w gi n i n3 vs vi r nn q x W'
 |0,_,_,h=>h
 |1,_,_,h=>h
 |2,_,_,h=>h
 |3,_,_,h=>h
 |4,_,_,h=>h
 |5,_,_,h=>h
 |6,_,_,h=>h
 |7,_,_,h=>by
  obtain⟨g4,h1,hg,hh⟩:=h;exact⟨g4,h1,hg,(h3 g4 hg (lt_of_block hh)).trans hh⟩
 |8,_,h5,h=>by
  obtain⟨h1,h2,h3⟩:=h;exact⟨owns_keep h1 fun b hb=>h5 rfl b (h1.lt b hb).1 (h1.lt b hb).2,h2,h3⟩
 |9,_,_,h=>h
 |_+10,_,_,_=>trivial
structure SJ (w:World)(l:List Ru)(n mb gi i n3:Nat)(ls0:List (List Int))(vs:List Value)(vi:Value)(r:List Int)(nn:Int)(wk:World)(L:Nat→Bool)(W:World):Prop where
 bel:Below w.heap.size w W
 kt:KT wk W
 sz:n3≤W.heap.size
 d8:L 8=true→L 5=true
 d10:L 10=true→L 8=true
 b1:W.heap[w.heap.size]? =some (.cells #[.map (some mb)] 46 (0,0))
 b5:W.heap[w.heap.size+1+1]? =some (.cells #[.slice (some ⟨w.heap.size+1,0,none⟩) n n] 85 (0,0))
 bi:W.heap[gi]? =some (.cells #[.int .i64 (i:Int)] 3 (0,0))
 go0:L 10=false→W.heap[w.heap.size+1]? =some (.cells vs.toArray 90 (0,0))
 row0:L 8=false→W.ownsRow (w.heap.size+3) 3 1 vi r.length (icells r)
 oth: ∀(j:Nat) (v:Value) (ns:List Int),j≠i→vs[j]? =some v→ls0[j]? =some ns→W.ownsRow (w.heap.size+3) 3 1 v ns.length (icells ns)
 done:L 10=true→SpS w l n mb gi i (ls0.set i (r++[nn])) W
theorem SJ.step {w:World}{l:List Ru}{n mb gi i n3:Nat}{ls0:List (List Int)}{vs:List Value}{vi:Value}{r:List Int}{nn:Int}{wk:World}{L:Nat→Bool}{W W':World}{q:Nat}(h:SJ w l n mb gi i n3 ls0 vs vi r nn wk L W)(hb:Below W.heap.size W W')(h8:q≠8)(h10:q≠10):SJ w l n mb gi i n3 ls0 vs vi r nn wk (fun k=>decide (q=k)||L k) W':=by
 have e8:(decide (q=8)||L 8)=L 8:=by simp[h8]
 have e10:(decide (q=10)||L 10)=L 10:=by simp[h10]
 refine⟨h.bel.trans (hb.mono h.bel.size),h.kt.trans (KT.below hb),Nat.le_trans h.sz hb.size,fun hh=> ?_,fun hh=> ?_,(hb.block _ (lt_of_block h.b1)).trans h.b1,(hb.block _ (lt_of_block h.b5)).trans h.b5,(hb.block _ (lt_of_block h.bi)).trans h.bi,fun hh=> ?_,fun hh=> ?_,fun j v ns h1 h2 h3=> ?_,fun hh=> ?_⟩<;>simp only[e8,e10]at*
 ·rw[h.d8 hh];simp
 ·exact h.d10 hh
 ·have:=h.go0 hh;exact(hb.block _ (lt_of_block this)).trans this
 ·have:=h.row0 hh;exact owns_keep this fun b hbb=>hb.block b (this.lt b hbb).2
 ·have:=h.oth j v ns h1 h2 h3;exact owns_keep this fun b hbb=>hb.block b (this.lt b hbb).2
 ·exact(h.done hh).below hb
theorem intInfo5:(Tryd.prog.info? 3).map (fun i=>(i.zero,i.size,i.bytes))=some (some (.int .i64 0),1,8):=by kernel_rfl
theorem intsType5:Tryd.prog.underlying 90=some (.slice 3):=by kernel_rfl
theorem gdv5 {A:Act}{s:Nat}{x:Value}(h:A.tmps.getD s undef=x):A.tmps[s]?.getD undef=x:=(gd A s).trans h
theorem wp_append_at5 {o:Oper}{a:Act}{w:World}{K:Act→World→Prop}{Q:Exit→Act→World→Prop}(s x:Operand)(t:TypeId)
  (ho:o.op= .call {callee:= .builtin .append,args:= #[s,x],argTypes:= #[t,t]})
  (base:Nat) (e:TypeId) (i:TypeInfo) (z:Value) (size bytes:Nat) (ht:Tryd.prog.underlying t=some (.slice e)) (hi:Tryd.prog.info? e=some i) (hz:i.zero=some z)
  (hsize:i.size=size) (hby:i.bytes=bytes) (hzs:z.cells.size=size) (hsz:0<size)
  (v:Value) (n:Nat) (xs:List Value) (hs:a.eval s=v) (hown:w.ownsRow base e size v n xs)
  (ad:Addr) (m c:Nat) (news:List Value) (hx:a.eval x= .slice (some ad) m c) (hl:news.length=m*size) (hnews: ∀j u,news[j]? =some u→w.cell? (ad.add j)=some u) (h1: ∀u∈news,u.oneCell'=true)
  (h63:n+m≤maxLen) (hbytes:(n+m)*bytes≤140737488355328) (hbase:base≤w.heap.size)
  (h: ∀v' w',w'.ownsRow base e size v' (n+m) (xs++news)→w.grownBy w' v.ownBlock→(v'.ownBlock=v.ownBlock∨v'.ownBlock=some w.heap.size)→K (a.put o.dst v') w'):o.wp Tryd.prog a w K Q:=by
 obtain⟨v',w',hr,h2,h3,_,h5⟩:=run_append_own_at (P:=Tryd.prog) w base t o.type e i z size bytes ht hi hz hsize hby hzs hsz v n xs hown ad m c news hl hnews h1 h63 hbytes hbase;unfold Oper.wp execOp;simp only[ho,resolve,invoke,builtin,Sem.run_bind,Sem.run_pure,Result.andThen_ok,List.map_toArray,List.map_cons,List.map_nil,hs,hx,hr];exact h v' w' h2 h3 h5
def OutS1 (w:World)(l:List Ru)(n mb gi i:Nat)(ls:List (List Int))(wr:World)(e:Ending)(w':World):Prop:=e= .returned (.tuple #[])∧SpS w l n mb gi i ls w'∧KT wr w'
set_option maxRecDepth 100000 in
set_option maxHeartbeats 8000000 in
theorem spoken1_any (w:World)(l:List Ru)(n mb gi i:Nat)(ls0:List (List Int))(r:List Int)(x:List UInt8)(wr:World)(hM:MapN w mb l)(hin:i<n)(_:n≤1000000)(hl0:ls0.length=n)(hr:r.length≤1000000)(h:SpS w l n mb gi i (ls0.set i r) wr):
  Calls Tryd.prog 66 #[.string ⟨x.toArray⟩,.pointer (some ⟨w.heap.size,0,none⟩),.pointer (some ⟨w.heap.size+1+1,0,none⟩),.pointer (some ⟨gi,0,none⟩)] wr (OutS1 w l n mb gi i (ls0.set i (addN r (atP5 l x))) wr):=by
 have hMr:=hM.later (h.bel.block _ (lt_of_map hM));have hlk:=look5 hMr x;obtain⟨vs,hs⟩:=h.rows;have hvl:vs.length=n:=by rw[hs.len,List.length_set,hl0]
 obtain⟨vi,hvi⟩: ∃v,vs[i]? =some v:=⟨vs[i]'(by omega),List.getElem?_eq_getElem _⟩
 have hri:(ls0.set i r)[i]? =some r:=by rw[List.getElem?_set_self (by omega)]
 have hown:=hs.rows i vi r hvi hri;have hrow:=rowI_of_owns hown (by omega);have k1:=(cell_of_row _ _ 0 _ _ _ h.b1).trans rfl;have k5:=(cell_of_row _ _ 0 _ _ _ h.b5).trans rfl;have ki:=(cell_of_row _ _ 0 _ _ _ h.bi).trans rfl;have kg:wr.cell? ⟨w.heap.size+1,i,none⟩=some vi:=(cell_of_row _ _ i _ _ _ hs.blk).trans (by simpa using hvi);have hi0:(0:Int)≤(i:Int):=by omega
 have hiI:(i:Int)<(n:Int):=by omega
 have cC:=fun nn=>contains5_any r vi nn wr hrow;obtain⟨pi,ci,hpi⟩:=row_form hown;have hbd:=(atP5_bd l x).1;have Hs:=hid5 hs;have Hw:=hid5 hown;have HD:Hid (¬(0≤atP5 l x)→atP5 l x= -1):=fun h=>by omega
 obtain⟨i0,hi,hz0,hz1,hz2⟩:=info_parts intInfo5;clear hrow hs hown hMr;subst hpi;go_enter Tryd.func66,Tryd.ntmps66;go_upto_if 14 with fail;rename_i K1 hK1
 have key: ∀(x6 x7 x10 x11 x12 x13 x14:Value),K1 ⟨#[.string ⟨x.toArray⟩,.pointer (some ⟨w.heap.size,0,none⟩),.pointer (some ⟨w.heap.size+1+1,0,none⟩),.pointer (some ⟨gi,0,none⟩),undef,.int .i64 (atP5 l x),x6,x7,.map (some mb),.string ⟨x.toArray⟩,x10,x11,x12,x13,x14,undef,undef,undef,undef,undef,undef,undef,undef,undef,undef,undef,undef,undef,undef,undef,undef,undef],[]⟩ wr:=by
  intro x6 x7 x10 x11 x12 x13 x14;refine hK1 _ _ ?_;clear hK1 hlk HD;generalize atP5 l x=nn at*;have c1:=cC nn;clear cC;go_wp2_with fail;refine c1.mono ?_;rintro e w1 ⟨rfl,hb1⟩;clear c1;by_cases hm:nn∈r
  ·have HO:Hid (OutS1 w l n mb gi i (ls0.set i (addN r nn)) wr (.returned (.tuple #[])) w1):=by
    refine⟨rfl,?_,KT.below hb1⟩;unfold addN;rw[if_pos hm];exact h.below hb1
   rw[decide_eq_true hm];clear h Hs Hw;go_wp2_with fail;refine bodyPost_ret (results_none rfl _ _ _) rfl ?_;exact HO.out
  ·have hst1:=h.below hb1
   have HA:Hid (addN r nn=r++[nn]):=by
    show _=_;unfold addN;rw[if_neg hm]
   have hs:=Hs.out;have hown:=Hw.out;have hs1:Sps (w.heap.size+3) w1 (w.heap.size+1) gi vs (ls0.set i r):=⟨(hb1.block _ (lt_of_block hs.blk)).trans hs.blk,hs.len,fun j v ns h1 h2=>owns_keep (hs.rows j v ns h1 h2) fun b hbb=>hb1.block b ((hs.rows j v ns h1 h2).lt b hbb).2,hs.apart,hs.other⟩
   have hown1:=hs1.rows i _ r hvi hri;have hgl:=lt_of_block hst1.bi;have hgo:=lt_of_block hs1.blk;have hgib:=hst1.gib;rw[decide_eq_false hm];have HB1:=hid5 hb1;clear h Hs Hw hs hown k1 k5 ki kg hb1 hm;go_wp2_with fail;have hlo:=hown1.lt;have hoth: ∀(j:Nat) (v:Value) (ns:List Int),j≠i→vs[j]? =some v→ls0[j]? =some ns→w1.ownsRow (w.heap.size+3) 3 1 v ns.length (icells ns):=fun j v ns hj h1 h2=>hs1.rows j v ns h1 (by rw[List.getElem?_set_ne (fun e=>hj e.symm)];exact h2);obtain⟨vi,hvE⟩: ∃vi,Value.slice pi r.length ci=vi:=⟨_,rfl⟩
   rw[hvE]at hvi hown1 hlo;refine wp_region_flow (by kernel_rfl) (by kernel_rfl) (by kernel_rfl) (by kernel_rfl) (fun L _ W=>SJ w l n mb gi i w1.heap.size ls0 vs vi r nn w1 L W) (fun q y W=>ssp w gi n i w1.heap.size vs vi r nn q y W) ?_ ?_ ?_
   ·intro L hL;have l8:=hL 8 (by decide);have l10:=hL 10 (by decide);exact⟨hst1.bel.drew,fun _ _ _ _ h _ _=>h,Nat.le_refl _,fun h=>(by rw[l8]at h;cases h),fun h=>(by rw[l10]at h;cases h),hst1.b1,hst1.b5,hst1.bi,fun _=>hs1.blk,fun _=>owns_keep hown1 fun _ _=>rfl,fun j v ns h1 h2 h3=>owns_keep (hoth j v ns h1 h2 h3) fun _ _=>rfl,fun h=>(by rw[l10]at h;cases h)⟩
   ·intro q o' L A W ho hLi hdep hJ hdef hkept hhas;clear hdef
    have fin: ∀(y:Value) (ds:Nat) (W':World),Below W.heap.size W W'→q≠8→q≠10→ssp w gi n i w1.heap.size vs vi r nn q y W'→ ∃u,A.put (some ds) y=A.put (some ds) u∧(some ds≠none→ssp w gi n i w1.heap.size vs vi r nn q u W')∧(∀kk x',L kk=true→ssp w gi n i w1.heap.size vs vi r nn kk x' W→ssp w gi n i w1.heap.size vs vi r nn kk x' W')∧SJ w l n mb gi i w1.heap.size ls0 vs vi r nn w1 (fun kk=>decide (q=kk)||L kk) W':=by
     intro y ds W' hb q8 q10 hv;exact⟨y,rfl,fun _=>hv,fun kk x' _ h=>ssp_kept (fun q _ hl=>hb.block q hl) kk x' (fun _ q _ hl=>hb.block q hl) h,hJ.step hb q8 q10⟩
    have s2:A.tmps[2]?.getD undef= .pointer (some ⟨w.heap.size+1+1,0,none⟩):=(gd A 2).trans (hkept 2 (fun j p hp _=>nd (by kernel_rfl) j p hp));have s3:A.tmps[3]?.getD undef= .pointer (some ⟨gi,0,none⟩):=(gd A 3).trans (hkept 3 (fun j p hp _=>nd (by kernel_rfl) j p hp));have s5:A.tmps[5]?.getD undef= .int .i64 nn:=(gd A 5).trans (hkept 5 (fun j p hp _=>nd (by kernel_rfl) j p hp));have j5:=(cell_of_row _ _ 0 _ _ _ hJ.b5).trans rfl;have ji:=(cell_of_row _ _ 0 _ _ _ hJ.bi).trans rfl;match q,ho with
    |0,ho=>
     cases Option.some.inj ho;refine wpOp_step rfl (fun K hK'=> ?_);go_simp;exact hK' _ _ (fin _ 22 _ (Below.refl _ _) (by decide) (by decide) rfl)
    |1,ho=>
     cases Option.some.inj ho;refine wpOp_step rfl (fun K hK'=> ?_);go_simp;exact hK' _ _ (fin _ 23 _ (Below.refl _ _) (by decide) (by decide) rfl)
    |2,ho=>
     cases Option.some.inj ho;refine wpOp_step rfl (fun K hK'=> ?_);go_simp;exact hK' _ _ (fin _ 24 _ (Below.refl _ _) (by decide) (by decide) rfl)
    |3,ho=>
     cases Option.some.inj ho;refine wpOp_step rfl (fun K hK'=> ?_);go_simp;exact hK' _ _ (fin _ 25 _ (Below.refl _ _) (by decide) (by decide) rfl)
    |4,ho=>
     cases Option.some.inj ho;have s24:A.tmps[24]?.getD undef= .slice (some ⟨w.heap.size+1,0,none⟩) n n:=gdv5 (hhas 2 _ rfl (hdep ⟨2,.data⟩ (by simp) rfl) 24 rfl);have s25:A.tmps[25]?.getD undef= .int .i64 (i:Int):=gdv5 (hhas 3 _ rfl (hdep ⟨3,.data⟩ (by simp) rfl) 25 rfl);refine wpOp_step rfl (fun K hK'=> ?_);go_simp;exact hK' _ _ (fin _ 26 _ (Below.refl _ _) (by decide) (by decide) rfl)
    |5,ho=>
     cases Option.some.inj ho
     have l10:L 10=false:=by
      cases h:L 10 with
      |false=>rfl
      |true=>rw[hJ.d8 (hJ.d10 h)]at hLi;cases hLi
     have s26:A.tmps[26]?.getD undef= .pointer (some ⟨w.heap.size+1,i,none⟩):=gdv5 (hhas 4 _ rfl (hdep ⟨4,.data⟩ (by simp) rfl) 26 rfl);have kg:W.cell? ⟨w.heap.size+1,i,none⟩=some vi:=(cell_of_row _ _ i _ _ _ (hJ.go0 l10)).trans (by simpa using hvi);refine wpOp_step rfl (fun K hK'=> ?_);go_simp;exact hK' _ _ (fin _ 27 _ (Below.refl _ _) (by decide) (by decide) rfl)
    |6,ho=>
     cases Option.some.inj ho;refine wpOp_step rfl (fun K hK'=> ?_);go_simp;exact hK' _ _ (fin _ 28 _ (Below.refl _ _) (by decide) (by decide) rfl)
    |7,ho=>
     cases Option.some.inj ho;have s28:A.tmps[28]?.getD undef= .int .i64 nn:=gdv5 (hhas 6 _ rfl (hdep ⟨6,.data⟩ (by simp) rfl) 28 rfl);have hsW:=hJ.sz;have hb:=(Below.refl W.heap.size W).alloc (Nat.le_refl _) (.cells #[.int .i64 nn] 3);have hn':=heap_alloc_new W (.cells #[.int .i64 nn] 3);refine wpOp_step rfl (fun K hK'=> ?_);go_simp;exact hK' _ _ (fin _ 29 _ hb (by decide) (by decide) ⟨W.heap.size,rfl,hsW,hn'⟩)
    |8,ho=>
     cases Option.some.inj ho;have l7:=hdep ⟨7,.data⟩ (by simp) rfl;have l5:=hdep ⟨5,.data⟩ (by simp) rfl
     have l10:L 10=false:=by
      cases h:L 10 with
      |false=>rfl
      |true=>rw[hJ.d10 h]at hLi;cases hLi
     obtain⟨g4,sr',hg4,hh4⟩:=(show ssp w gi n i w1.heap.size vs vi r nn 7 (A.tmps.getD 29 undef) W from hhas 7 _ rfl l7 29 rfl)
     have s29:A.eval (.tmp 29)= .slice (some ⟨g4,0,none⟩) 1 1:=sr';have s27:A.eval (.tmp 27)=vi:=hhas 5 _ rfl l5 27 rfl;have hownW:=hJ.row0 hLi;have hsW:=hJ.sz;have hgoW:=hJ.go0 l10;have hJo:=hJ.oth;refine wpOp_step rfl (fun K hK'=> ?_);show Oper.wp _ _ _ _ _ _;refine wp_append_at5 _ _ 90 rfl (w.heap.size+3) 3 i0 (.int .i64 0) 1 8 intsType5 hi hz0 hz1 hz2 rfl (by decide) vi r.length (icells r) s27 hownW ⟨g4,0,none⟩ 1 1 [.int .i64 nn] s29 rfl ?c1 ?c2 ?c3 ?c4 ?c5 ?_
     case c1=>
      intro k u' hk';match k,hk' with
      |0,hk'=>simp at hk';subst hk';exact(cell_of_row _ _ _ _ _ _ hh4).trans rfl
     case c2=>intro u hu;simp at hu;subst hu;rfl
     case c3=>unfold maxLen;omega
     case c4=>omega
     case c5=>omega
     intro v' W' hown' hgrow hblk;have hloW:=hownW.lt;have hne: ∀q,vi.ownBlock≠some q→q<W.heap.size→W'.heap[q]? =W.heap[q]? :=fun q hq hl=>hgrow.block q hl (fun e=>hq e.symm);have hnew: ∀q,w1.heap.size≤q→q<W.heap.size→W'.heap[q]? =W.heap[q]? :=fun q hq hl=>hne q (fun e=>by have:=(hlo q e).2;omega) hl;have hold: ∀q,q<w.heap.size+3→q<W.heap.size→W'.heap[q]? =W.heap[q]? :=fun q hq hl=>hne q (fun e=>by have:=(hloW q e).1;omega) hl
     have hsp8:ssp w gi n i w1.heap.size vs vi r nn 8 v' W':=by
      refine⟨hown',fun e=> ?_,fun j v b hj h1 h2 e=> ?_⟩
      ·rcases hblk with hb|hb
       ·rw[hb]at e;exact hs1.other i vi hvi e
       ·rw[hb]at e;have:=Option.some.inj e;omega
      ·rcases hblk with hb|hb
       ·rw[hb]at e;exact hs1.apart i j vi v b (fun e=>hj e.symm) hvi h1 e h2
       ·rw[hb]at e;have e1:=Option.some.inj e
        obtain⟨ns,hns⟩: ∃ns,ls0[j]? =some ns:=by
         have hj':j<vs.length:=(List.getElem?_eq_some_iff.1 h1).1;exact⟨ls0[j]'(by omega),List.getElem?_eq_getElem _⟩
        have:=((hJo j v ns hj h1 hns).lt b h2).2;omega
     refine hK' _ _ ⟨v',rfl,fun _=>hsp8,fun k x' hk' hx'=>ssp_kept hnew k x' (fun e=>by subst e;rw[hk']at hLi;cases hLi) hx',?_⟩
     have hkt:KT W W':=fun q cs t fr h1 h2 h3=>by
      refine(hne q (fun e=> ?_) (Array.getElem?_eq_some_iff.1 h1).1).trans h1;obtain⟨_,ho2⟩:=hownW;rcases ho2 with⟨e2,_⟩|⟨gb,cap,cur,e2,_,hhb,_⟩
      ·rw[e2]at e;cases e
      ·rw[e2]at e;have e3:gb=q:=Option.some.inj e;subst e3;rw[h1]at hhb;injection hhb with hhb;injection hhb with _ e4;exact h2 e4
     refine⟨hJ.bel.grown hgrow (by omega) (fun q hq=>by have:=(hloW q hq).1;omega),hJ.kt.trans hkt,Nat.le_trans hJ.sz hgrow.size,fun _=>by simp[l5],fun h=>by simp[l10]at h,(hold _ (by omega) (lt_of_block hJ.b1)).trans hJ.b1,(hold _ (by omega) (lt_of_block hJ.b5)).trans hJ.b5,(hne _ (hs1.other i vi hvi) (lt_of_block hJ.bi)).trans hJ.bi,fun _=>(hold _ (by omega) (lt_of_block hgoW)).trans hgoW,fun h=>by simp at h,fun j v ns h1 h2 h3=> ?_,fun h=>by simp[l10]at h⟩;have ho':=hJo j v ns h1 h2 h3;exact owns_keep ho' fun b hbb=>hne b (fun e=>hs1.apart i j vi v b (fun e=>h1 e.symm) hvi h2 e hbb) (ho'.lt b hbb).2
    |9,ho=>
     cases Option.some.inj ho;have s22:A.tmps[22]?.getD undef= .slice (some ⟨w.heap.size+1,0,none⟩) n n:=gdv5 (hhas 0 _ rfl (hdep ⟨0,.data⟩ (by simp) rfl) 22 rfl);have s23:A.tmps[23]?.getD undef= .int .i64 (i:Int):=gdv5 (hhas 1 _ rfl (hdep ⟨1,.data⟩ (by simp) rfl) 23 rfl);refine wpOp_step rfl (fun K hK'=> ?_);go_simp;exact hK' _ _ (fin _ 31 _ (Below.refl _ _) (by decide) (by decide) rfl)
    |10,ho=>
     cases Option.some.inj ho;have l8:=hdep ⟨8,.data⟩ (by simp) rfl;have l9:=hdep ⟨9,.data⟩ (by simp) rfl;obtain⟨hR,hR2,hR3⟩:=(show ssp w gi n i w1.heap.size vs vi r nn 8 (A.tmps.getD 30 undef) W from hhas 8 _ rfl l8 30 rfl)
     obtain⟨y,hy⟩: ∃y,A.tmps.getD 30 undef=y:=⟨_,rfl⟩
     rw[hy]at hR hR2 hR3;have s30:A.tmps[30]?.getD undef=y:=gdv5 hy;have s31:A.tmps[31]?.getD undef= .pointer (some ⟨w.heap.size+1,i,none⟩):=gdv5 (hhas 9 _ rfl l9 31 rfl);have hgoW:=hJ.go0 hLi;have kg:W.cell? ⟨w.heap.size+1,i,none⟩=some vi:=(cell_of_row _ _ i _ _ _ hgoW).trans (by simpa using hvi);have yg:=frozen_of_row _ _ i _ _ hgoW;have hRlo:=hR.lt;obtain⟨px,cx,hyf⟩:=row_form hR;have hst: ∀q,q≠w.heap.size+1→(W.setCell ⟨w.heap.size+1,i,none⟩ y).heap[q]? =W.heap[q]? :=fun q hq=>heap_setCell_other W ⟨w.heap.size+1,i,none⟩ q _ hq;have hgN:=heap_setCell_same W (w.heap.size+1) i _ _ y hgoW;have hbN:Below w.heap.size w (W.setCell ⟨w.heap.size+1,i,none⟩ y):=hJ.bel.setCell (by show w.heap.size≤w.heap.size+1;omega) _;have hJo:=hJ.oth
     have hfin:SpS w l n mb gi i (ls0.set i (r++[nn])) (W.setCell ⟨w.heap.size+1,i,none⟩ y):=by
      refine⟨hbN,(hst _ (by omega)).trans hJ.b1,(hst _ (by omega)).trans hJ.b5,(hst _ (by omega)).trans hJ.bi,hgib,vs.set i y,?_,by simp[hvl,hl0],fun j v ns h1 h2=> ?_,fun j k v v' b hjk h1 h2 h3=> ?_,fun j v h1=> ?_⟩
      ·rw[hgN];simp
      ·by_cases e:j=i
       ·subst e;rw[List.getElem?_set_self (by omega)]at h1;rw[List.getElem?_set_self (by omega)]at h2;cases h1;cases h2
        have:W.ownsRow (w.heap.size+3) 3 1 y (r++[nn]).length (icells (r++[nn])):=by
         unfold icells at hR⊢;simpa using hR
        exact owns_keep this fun b hbb=>hst b (by have:=(hRlo b hbb).1;omega)
       ·rw[List.getElem?_set_ne (fun h=>e h.symm)]at h1 h2;have ho':=hJo j v ns e h1 h2;exact owns_keep ho' fun b hbb=>hst b (by have:=(ho'.lt b hbb).1;omega)
      ·by_cases ej:j=i
       ·subst ej;rw[List.getElem?_set_self (by omega)]at h1;rw[List.getElem?_set_ne hjk]at h2;cases h1;exact fun e=>hR3 k v' b (fun e=>hjk e.symm) h2 e h3
       ·rw[List.getElem?_set_ne (fun h=>ej h.symm)]at h1;by_cases ek:k=i
        ·subst ek;rw[List.getElem?_set_self (by omega)]at h2;cases h2;exact hR3 j v b ej h1 h3
        ·rw[List.getElem?_set_ne (fun h=>ek h.symm)]at h2;exact hs1.apart j k v v' b hjk h1 h2 h3
      ·by_cases ej:j=i
       ·subst ej;rw[List.getElem?_set_self (by omega)]at h1;cases h1;exact hR2
       ·rw[List.getElem?_set_ne (fun h=>ej h.symm)]at h1;exact hs1.other j v h1
     have hb1:=hfin.b1;have hb5:=hfin.b5;have hbi:=hfin.bi;have hspK: ∀k x',L k=true→ssp w gi n i w1.heap.size vs vi r nn k x' W→ssp w gi n i w1.heap.size vs vi r nn k x' (W.setCell ⟨w.heap.size+1,i,none⟩ y):=fun k x' _ hx'=>ssp_kept (fun q hq _=>hst q (by omega)) k x' (fun _ q hq _=>hst q (by omega)) hx';have hothN: ∀(j:Nat) (v:Value) (ns:List Int),j≠i→vs[j]? =some v→ls0[j]? =some ns→(W.setCell ⟨w.heap.size+1,i,none⟩ y).ownsRow (w.heap.size+3) 3 1 v ns.length (icells ns):=fun j v ns h1 h2 h3=>owns_keep (hJo j v ns h1 h2 h3) fun b hbb=>hst b (by have:=((hJo j v ns h1 h2 h3).lt b hbb).1;omega);have hszN:w1.heap.size≤(W.setCell ⟨w.heap.size+1,i,none⟩ y).heap.size:=(by simpa using hJ.sz)
     have hktN:KT W (W.setCell ⟨w.heap.size+1,i,none⟩ y):=fun q cs t fr h1 h2 h3=>(hst q (fun e=>by
      subst e;rw[h1]at hgoW;injection hgoW with hgoW;injection hgoW with _ e4;exact h3 e4)).trans h1
     have hfinal: ∃u,A.put none undef=A.put none u∧((none:Option Nat)≠none→ssp w gi n i w1.heap.size vs vi r nn 10 u (W.setCell ⟨w.heap.size+1,i,none⟩ y))∧(∀k x',L k=true→ssp w gi n i w1.heap.size vs vi r nn k x' W→ssp w gi n i w1.heap.size vs vi r nn k x' (W.setCell ⟨w.heap.size+1,i,none⟩ y))∧SJ w l n mb gi i w1.heap.size ls0 vs vi r nn w1 (fun k=>decide (10=k)||L k) (W.setCell ⟨w.heap.size+1,i,none⟩ y):=
      ⟨undef,rfl,fun h=>absurd rfl h,hspK,hbN,hJ.kt.trans hktN,hszN,fun _=>by simp[hJ.d8 l8],fun _=>by simp[l8],hb1,hb5,hbi,fun h=>by simp at h,fun h=>by simp[l8]at h,hothN,fun _=>hfin⟩
     clear hfin hb1 hb5 hbi hspK hothN hgN hbN hst hR hR2 hR3 hRlo hJo hoth;subst hyf;refine wpOp_step rfl (fun K hK'=> ?_);go_simp;exact hK' _ _ hfinal
    |k+11,ho=>simp at ho
   ·intro L A W hL hJ hdef hsize hkept hhas;have hfin:=hJ.done (hL 10 (by decide));have hktF:=(KT.below HB1.out).trans hJ.kt;obtain⟨tt,dd'⟩:=A;have hd':dd'=[]:=hdef;subst hd';obtain⟨q,rfl⟩: ∃q:List Value,tt=q.toArray:=⟨tt.toList,by simp⟩
    have hl:q.length=32:=by
     have h:q.toArray.size=32:=hsize;simpa using h
    obtain⟨⟨z0,z1,z2,z3,z4,z5,z6,z7,z8,z9,z10,z11,z12,z13,z14,z15,z16,z17,z18,z19,z20,z21,z22,z23,z24,z25,z26,z27,z28,z29,z30,z31,rfl⟩⟩:=fd32 q hl;have q0:z0=_:=hkept 0 (nd (by kernel_rfl));have q1:z1=_:=hkept 1 (nd (by kernel_rfl));have q2:z2=_:=hkept 2 (nd (by kernel_rfl));have q3:z3=_:=hkept 3 (nd (by kernel_rfl));have q4:z4=_:=hkept 4 (nd (by kernel_rfl));have q5:z5=_:=hkept 5 (nd (by kernel_rfl));have q6:z6=_:=hkept 6 (nd (by kernel_rfl));have q7:z7=_:=hkept 7 (nd (by kernel_rfl));have q8:z8=_:=hkept 8 (nd (by kernel_rfl));have q9:z9=_:=hkept 9 (nd (by kernel_rfl));have q10:z10=_:=hkept 10 (nd (by kernel_rfl));have q11:z11=_:=hkept 11 (nd (by kernel_rfl));have q12:z12=_:=hkept 12 (nd (by kernel_rfl));have q13:z13=_:=hkept 13 (nd (by kernel_rfl));have q14:z14=_:=hkept 14 (nd (by kernel_rfl));have q15:z15=_:=hkept 15 (nd (by kernel_rfl));have q16:z16=_:=hkept 16 (nd (by kernel_rfl));have q17:z17=_:=hkept 17 (nd (by kernel_rfl));have q18:z18=_:=hkept 18 (nd (by kernel_rfl));have q19:z19=_:=hkept 19 (nd (by kernel_rfl));have q20:z20=_:=hkept 20 (nd (by kernel_rfl));have q21:z21=_:=hkept 21 (nd (by kernel_rfl));subst q0 q1 q2 q3 q4 q5 q6 q7 q8 q9 q10 q11 q12 q13 q14 q15 q16 q17 q18 q19 q20 q21;clear hsize hkept hhas hL hJ hl hs1 hown1 hst1 hoth;go_wp2_with fail;refine bodyPost_ret (results_none rfl _ _ _) rfl ?_;rw[HA.out];exact⟨rfl,hfin,hktF⟩
 clear hK1 cC Hs Hw h;by_cases hat:0≤atP5 l x
 ·have e1:(if 0≤atP5 l x then atP5 l x else 0)=atP5 l x:=if_pos hat;have e2:decide (0≤atP5 l x)=true:=decide_eq_true hat;simp only[e1,e2];clear hlk e1 e2 hat HD;go_wp2_with fail;exact key _ _ _ _ _ _ _
 ·have he:=HD.out hat;rw[he]at key;have e1:(if 0≤atP5 l x then atP5 l x else 0)=0:=if_neg hat;have e2:decide (0≤atP5 l x)=false:=decide_eq_false hat;simp only[e1,e2];clear hlk e1 e2 hat HD he;go_wp2_with fail;exact key _ _ _ _ _ _ _
end Go.Proofs.YtpmobjgnmidolaaDoor
/- What the document's Speaks and Unknown come to. -/
namespace Go.Proofs.YtpmobjgnmidolaaDoor
open Go.RowKit Lx
theorem exprType5:Tryd.prog.underlying 50=some (.struct (Tryd.prog.fieldsOf 50)):=by kernel_rfl
set_option maxRecDepth 100000 in
set_option maxHeartbeats 1000000 in
theorem speaks_step (e:Ex)(pe:Option Addr)(ce:Nat)(x:List UInt8)(w:World)(hlk:(e.kids.length:Int)<9223372036854775808)
  (hkk: ∀(j:Nat) (k:Ex),e.kids[j]? =some k→ ∃(g o:Nat) (ps:Option Addr) (cs:Nat),pe=some ⟨g,o,none⟩∧
    w.cell? ⟨g,o+j*5,none⟩=some (.int .i64 k.kind)∧w.cell? ⟨g,o+j*5+1,none⟩=some (.int .i64 k.a)∧w.cell? ⟨g,o+j*5+2,none⟩=some (.int .i64 k.b)∧
    w.cell? ⟨g,o+j*5+3,none⟩=some (.string ⟨k.name.toArray⟩)∧w.cell? ⟨g,o+j*5+4,none⟩=some (.slice ps k.kids.length cs)∧
    ∀W,Below w.heap.size w W→Calls Tryd.prog 52 #[exV k (.slice ps k.kids.length cs),.string ⟨x.toArray⟩] W fun r w'=>r= .returned (.bool (spk k x))∧Below W.heap.size W w'):
  Calls Tryd.prog 52 #[exV e (.slice pe e.kids.length ce),.string ⟨x.toArray⟩] w fun r w'=>r= .returned (.bool (spk e x))∧Below w.heap.size w w':=by
 have HK:=hid5 hkk;have HE:=hid5 (spk_eq e x);have hb0:Below w.heap.size w (w.alloc (.cells #[.int .i64 e.kind,.int .i64 e.a,.int .i64 e.b,.string ⟨e.name.toArray⟩,.slice pe e.kids.length ce] 50)):=(Below.refl _ _).alloc (Nat.le_refl _) _;have hx0:=heap_alloc_new w (.cells #[.int .i64 e.kind,.int .i64 e.a,.int .i64 e.b,.string ⟨e.name.toArray⟩,.slice pe e.kids.length ce] 50);unfold exV;clear hkk;generalize hwA:w.alloc (.cells #[.int .i64 e.kind,.int .i64 e.a,.int .i64 e.b,.string ⟨e.name.toArray⟩,.slice pe e.kids.length ce] 50)=wA at*;have z0:=(cell_of_row _ _ 0 _ _ _ hx0).trans rfl;have z3:=(cell_of_row _ _ 3 _ _ _ hx0).trans rfl;have z4:=(cell_of_row _ _ 4 _ _ _ hx0).trans rfl;by_cases hk:e.kind=10
 ·have hk':(e.kind==10)=true:=by rw[hk];rfl
  have hE:=HE.out;rw[if_pos hk]at hE;have HR:=hid5 hE;clear hE HE HK hk;have hns:=name_same e.name x;rw[←HR.out]at hns;generalize spk e x=b at*;go_enter Tryd.func52,Tryd.ntmps52;go_wp2_with fail;go_ret;exact⟨rfl,hb0⟩
 ·have hk':(e.kind==10)=false:=beq_eq_false_iff_ne.2 hk;have hE:=HE.out;rw[if_neg hk]at hE;have HR:=hid5 hE;clear hE HE hk;go_enter Tryd.func52,Tryd.ntmps52;go_wp2_with fail;clear z0 z3 z4 hx0 hwA hk';go_loopw [6,17] (fun _ t wr=> ∃j:Nat,t= .int .i64 (j:Int)∧j≤e.kids.length∧spk e x=spkL (e.kids.drop j) x∧Below w.heap.size w wr) (fun _ t _=>e.kids.length-(intOf t).toNat);case atStart=>exact⟨0,rfl,by omega,HR.out,hb0⟩
  case round=>
   obtain⟨j,rfl,hj,hX,hbr⟩:=hrel;have hj0:(0:Int)≤(j:Int):=(by omega);by_cases hlt:j<e.kids.length
   ·have hlt':(j:Int)<(e.kids.length:Int):=(by omega);obtain⟨k,hjk⟩: ∃k,e.kids[j]? =some k:=⟨e.kids[j],List.getElem?_eq_getElem hlt⟩
    obtain⟨g,o,ps,cs,hpe,c0,c1,c2,c3,c4,cK⟩:=HK.out j k hjk
    have hst:spkL (e.kids.drop j) x=(spk k x||spkL (e.kids.drop (j+1)) x):=by
     obtain⟨h1,h2⟩:=List.getElem?_eq_some_iff.1 hjk;rw[List.drop_eq_getElem_cons h1,h2];rfl
    rw[hst]at hX;subst hpe;have d0:=(hbr.cell (block_lt_of_cell c0)).trans c0;have d1:=(hbr.cell (block_lt_of_cell c1)).trans c1;have d2:=(hbr.cell (block_lt_of_cell c2)).trans c2;have d3:=(hbr.cell (block_lt_of_cell c3)).trans c3;have d4:=(hbr.cell (block_lt_of_cell c4)).trans c4;have hbA:=hbr.alloc hbr.size (.cells #[.int .i64 k.kind,.int .i64 k.a,.int .i64 k.b,.string ⟨k.name.toArray⟩,.slice ps k.kids.length cs] 50);have hxB:=heap_alloc_new wr (.cells #[.int .i64 k.kind,.int .i64 k.a,.int .i64 k.b,.string ⟨k.name.toArray⟩,.slice ps k.kids.length cs] 50);have cR:=cK _ hbA;unfold exV at cR;clear hst hjk c0 c1 c2 c3 c4 cK;generalize hwB:wr.alloc (.cells #[.int .i64 k.kind,.int .i64 k.a,.int .i64 k.b,.string ⟨k.name.toArray⟩,.slice ps k.kids.length cs] 50)=wB at*;cases hv:spk k x with
    |true=>
     rw[hv]at cR hX;have HX:Hid (spk e x=true):=(by show _=_;rw[hX];rfl);clear hX hv HK;go_wp2_with(refine wpList_load_row rfl 50 _ rfl _ rfl _ _ _ _ hxB exprType5 rfl (by kernel_rfl) ?_)
     refine cR.mono ?_;rintro r w2 ⟨rfl,hb2⟩;have hbw2:=hbA.trans (hb2.mono hbA.size);clear cR hb2 hbA hwB hxB;go_wp2_with fail;go_ret;exact⟨by(rw[HX.out])<;>rfl,hbw2⟩
    |false=>
     rw[hv]at cR hX;rw[Bool.false_or]at hX;have HX:=hid5 hX;clear hX hv;go_wp2_with(refine wpList_load_row rfl 50 _ rfl _ rfl _ _ _ _ hxB exprType5 rfl (by kernel_rfl) ?_)
     refine cR.mono ?_;rintro r w2 ⟨rfl,hb2⟩;have hbw2:=hbA.trans (hb2.mono hbA.size);clear cR hb2 hbA hwB hxB;go_wp2_with fail;go_roundw;case rel=>exact⟨j+1,by go_num,by omega,HX.out,hbw2⟩
     case measure=>simp[intOf];omega
   ·have hlt': ¬(j:Int)<(e.kids.length:Int):=(by omega)
    have HX:Hid (spk e x=false):=by
     show _=_;rw[hX,List.drop_of_length_le (by omega)];rfl
    clear hX HK HR;go_wp2_with fail;go_ret;exact⟨by(rw[HX.out])<;>rfl,hbr⟩
theorem speaks_any (x:List UInt8): ∀(d:Nat) (e:Ex) (sl:Value) (w:World),KidsB (fun k=>k<w.heap.size) d w sl e.kids→Calls Tryd.prog 52 #[exV e sl,.string ⟨x.toArray⟩] w fun r w'=>r= .returned (.bool (spk e x))∧Below w.heap.size w w'
 |0,e,sl,w,hk=>by
  obtain⟨h0,p,c,rfl⟩:=hk;have:=speaks_step e p c x w (by rw[h0];decide) (fun j k hj=>by rw[h0]at hj;simp at hj);rw[h0]at this;exact this
 |d+1,e,sl,w,hk=>by
  obtain⟨pe,ce,hsl⟩:=hk.form;subst hsl
  have hlk:(e.kids.length:Int)<9223372036854775808:=by
   rcases hk with⟨h0,_⟩|⟨_,_,_,_,_,hl,_⟩
   ·rw[h0];decide
   ·omega
  refine speaks_step e pe ce x w hlk fun j k hj=> ?_;rcases hk with⟨h0,_⟩|⟨g,o,c,hB,hs,hl,hkk⟩
  ·rw[h0]at hj;simp at hj
  ·obtain⟨_,sk,c0,c1,c2,c3,c4,r⟩:=hkk j k hj;obtain⟨ps,cs,rfl⟩:=r.form;injection hs with e1;exact⟨g,o,ps,cs,e1,c0,c1,c2,c3,c4,fun W hb=>speaks_any x d k _ W ((r.kept fun q _ hl=>hb.block q hl).mono fun q hq=>Nat.lt_of_lt_of_le hq hb.size)⟩
set_option maxRecDepth 100000 in
set_option maxHeartbeats 1000000 in
theorem unknown_step (e:Ex)(pe:Option Addr)(ce:Nat)(us:List (Ru×Value))(v:Value)(w:World)(hin:InR w v us)(hlk:(e.kids.length:Int)<9223372036854775808)
  (hkk: ∀(j:Nat) (k:Ex),e.kids[j]? =some k→ ∃(g o:Nat) (ps:Option Addr) (cs:Nat),pe=some ⟨g,o,none⟩∧
    w.cell? ⟨g,o+j*5,none⟩=some (.int .i64 k.kind)∧w.cell? ⟨g,o+j*5+1,none⟩=some (.int .i64 k.a)∧w.cell? ⟨g,o+j*5+2,none⟩=some (.int .i64 k.b)∧
    w.cell? ⟨g,o+j*5+3,none⟩=some (.string ⟨k.name.toArray⟩)∧w.cell? ⟨g,o+j*5+4,none⟩=some (.slice ps k.kids.length cs)∧
    ∀W,Below w.heap.size w W→Calls Tryd.prog 51 #[exV k (.slice ps k.kids.length cs),v] W fun r w'=>r= .returned (.bool (unk k (us.map (fun p=>p.1))))∧Below W.heap.size W w'):
  Calls Tryd.prog 51 #[exV e (.slice pe e.kids.length ce),v] w fun r w'=>r= .returned (.bool (unk e (us.map (fun p=>p.1))))∧Below w.heap.size w w':=by
 have HK:=hid5 hkk;have HE:=hid5 (unk_eq e (us.map (fun p=>p.1)));have hb0:Below w.heap.size w (w.alloc (.cells #[.int .i64 e.kind,.int .i64 e.a,.int .i64 e.b,.string ⟨e.name.toArray⟩,.slice pe e.kids.length ce] 50)):=(Below.refl _ _).alloc (Nat.le_refl _) _;have hx0:=heap_alloc_new w (.cells #[.int .i64 e.kind,.int .i64 e.a,.int .i64 e.b,.string ⟨e.name.toArray⟩,.slice pe e.kids.length ce] 50);obtain⟨pvv,cvv,rfl⟩:=hin.form;unfold exV;clear hkk;generalize hwA:w.alloc (.cells #[.int .i64 e.kind,.int .i64 e.a,.int .i64 e.b,.string ⟨e.name.toArray⟩,.slice pe e.kids.length ce] 50)=wA at*;have z0:=(cell_of_row _ _ 0 _ _ _ hx0).trans rfl;have z3:=(cell_of_row _ _ 3 _ _ _ hx0).trans rfl;have z4:=(cell_of_row _ _ 4 _ _ _ hx0).trans rfl;by_cases hk:e.kind=10
 ·have hk':(e.kind==10)=true:=by rw[hk];rfl
  have hE:=HE.out;rw[if_pos hk]at hE;have HR:=hid5 hE;clear hE HE HK hk;have cA:=at_any us _ e.name wA (hin.below hb0);generalize atP5 (us.map (fun p=>p.1)) e.name=n at*;go_enter Tryd.func51,Tryd.ntmps51;go_wp2_with fail;refine cA.mono ?_;rintro r w2 ⟨rfl,hb2⟩;have hb2w:=hb0.trans (hb2.mono hb0.size);clear cA;go_wp2_with fail;go_ret;exact⟨by(rw[HR.out])<;>rfl,hb2w⟩
 ·have hk':(e.kind==10)=false:=beq_eq_false_iff_ne.2 hk;have hE:=HE.out;rw[if_neg hk]at hE;have HR:=hid5 hE;clear hE HE hk;go_enter Tryd.func51,Tryd.ntmps51;go_wp2_with fail;clear z0 z3 z4 hx0 hwA hk';go_loopw [6,18] (fun _ t wr=> ∃j:Nat,t= .int .i64 (j:Int)∧j≤e.kids.length∧unk e (us.map (fun p=>p.1))=unkL (e.kids.drop j) (us.map (fun p=>p.1))∧Below w.heap.size w wr) (fun _ t _=>e.kids.length-(intOf t).toNat);case atStart=>exact⟨0,rfl,by omega,HR.out,hb0⟩
  case round=>
   obtain⟨j,rfl,hj,hX,hbr⟩:=hrel;have hj0:(0:Int)≤(j:Int):=(by omega);by_cases hlt:j<e.kids.length
   ·have hlt':(j:Int)<(e.kids.length:Int):=(by omega);obtain⟨k,hjk⟩: ∃k,e.kids[j]? =some k:=⟨e.kids[j],List.getElem?_eq_getElem hlt⟩
    obtain⟨g,o,ps,cs,hpe,c0,c1,c2,c3,c4,cK⟩:=HK.out j k hjk
    have hst:unkL (e.kids.drop j) (us.map (fun p=>p.1))=(unk k (us.map (fun p=>p.1))||unkL (e.kids.drop (j+1)) (us.map (fun p=>p.1))):=by
     obtain⟨h1,h2⟩:=List.getElem?_eq_some_iff.1 hjk;rw[List.drop_eq_getElem_cons h1,h2];rfl
    rw[hst]at hX;subst hpe;have d0:=(hbr.cell (block_lt_of_cell c0)).trans c0;have d1:=(hbr.cell (block_lt_of_cell c1)).trans c1;have d2:=(hbr.cell (block_lt_of_cell c2)).trans c2;have d3:=(hbr.cell (block_lt_of_cell c3)).trans c3;have d4:=(hbr.cell (block_lt_of_cell c4)).trans c4;have hbA:=hbr.alloc hbr.size (.cells #[.int .i64 k.kind,.int .i64 k.a,.int .i64 k.b,.string ⟨k.name.toArray⟩,.slice ps k.kids.length cs] 50);have hxB:=heap_alloc_new wr (.cells #[.int .i64 k.kind,.int .i64 k.a,.int .i64 k.b,.string ⟨k.name.toArray⟩,.slice ps k.kids.length cs] 50);have cR:=cK _ hbA;unfold exV at cR;clear hst hjk c0 c1 c2 c3 c4 cK;generalize hwB:wr.alloc (.cells #[.int .i64 k.kind,.int .i64 k.a,.int .i64 k.b,.string ⟨k.name.toArray⟩,.slice ps k.kids.length cs] 50)=wB at*;cases hv:unk k (us.map (fun p=>p.1)) with
    |true=>
     rw[hv]at cR hX;have HX:Hid (unk e (us.map (fun p=>p.1))=true):=(by show _=_;rw[hX];rfl);clear hX hv HK;go_wp2_with(refine wpList_load_row rfl 50 _ rfl _ rfl _ _ _ _ hxB exprType5 rfl (by kernel_rfl) ?_)
     refine cR.mono ?_;rintro r w2 ⟨rfl,hb2⟩;have hbw2:=hbA.trans (hb2.mono hbA.size);clear cR hb2 hbA hwB hxB;go_wp2_with fail;go_ret;exact⟨by(rw[HX.out])<;>rfl,hbw2⟩
    |false=>
     rw[hv]at cR hX;rw[Bool.false_or]at hX;have HX:=hid5 hX;clear hX hv;go_wp2_with(refine wpList_load_row rfl 50 _ rfl _ rfl _ _ _ _ hxB exprType5 rfl (by kernel_rfl) ?_)
     refine cR.mono ?_;rintro r w2 ⟨rfl,hb2⟩;have hbw2:=hbA.trans (hb2.mono hbA.size);clear cR hb2 hbA hwB hxB;go_wp2_with fail;go_roundw;case rel=>exact⟨j+1,by go_num,by omega,HX.out,hbw2⟩
     case measure=>simp[intOf];omega
   ·have hlt': ¬(j:Int)<(e.kids.length:Int):=(by omega)
    have HX:Hid (unk e (us.map (fun p=>p.1))=false):=by
     show _=_;rw[hX,List.drop_of_length_le (by omega)];rfl
    clear hX HK HR;go_wp2_with fail;go_ret;exact⟨by(rw[HX.out])<;>rfl,hbr⟩
theorem unknown_any (us:List (Ru×Value))(v:Value): ∀(d:Nat) (e:Ex) (sl:Value) (w:World),KidsB (fun k=>k<w.heap.size) d w sl e.kids→InR w v us→Calls Tryd.prog 51 #[exV e sl,v] w fun r w'=>r= .returned (.bool (unk e (us.map (fun p=>p.1))))∧Below w.heap.size w w'
 |0,e,sl,w,hk,hin=>by
  obtain⟨h0,p,c,rfl⟩:=hk;have:=unknown_step e p c us v w hin (by rw[h0];decide) (fun j k hj=>by rw[h0]at hj;simp at hj);rw[h0]at this;exact this
 |d+1,e,sl,w,hk,hin=>by
  obtain⟨pe,ce,hsl⟩:=hk.form;subst hsl
  have hlk:(e.kids.length:Int)<9223372036854775808:=by
   rcases hk with⟨h0,_⟩|⟨_,_,_,_,_,hl,_⟩
   ·rw[h0];decide
   ·omega
  refine unknown_step e pe ce us v w hin hlk fun j k hj=> ?_;rcases hk with⟨h0,_⟩|⟨g,o,c,hB,hs,hl,hkk⟩
  ·rw[h0]at hj;simp at hj
  ·obtain⟨_,sk,c0,c1,c2,c3,c4,r⟩:=hkk j k hj;obtain⟨ps,cs,rfl⟩:=r.form;injection hs with e1;exact⟨g,o,ps,cs,e1,c0,c1,c2,c3,c4,fun W hb=>unknown_any us v d k _ W ((r.kept fun q _ hl=>hb.block q hl).mono fun q hq=>Nat.lt_of_lt_of_le hq hb.size) (hin.below hb)⟩
end Go.Proofs.YtpmobjgnmidolaaDoor
/- What eachName comes to with the closure of spoken; and what spoken comes to. -/
namespace Lx
theorem spoken_app (l:List Ru)(acc:List Int)(xs ys:List (List UInt8)):spoken l acc (xs++ys)=spoken l (spoken l acc xs) ys:=by
 unfold spoken;rw[List.foldl_append]
theorem addN_len (acc:List Int)(n:Int):(addN acc n).length≤acc.length+1:=by
 unfold addN;split<;>simp
theorem spoken_le (l:List Ru): ∀(xs:List (List UInt8)) (acc:List Int),(spoken l acc xs).length≤acc.length+xs.length
 |[],acc=>by simp[spoken]
 |y::xs,acc=>by
  have h1:=spoken_le l xs (addN acc (atP5 l y));have h2:=addN_len acc (atP5 l y);show(spoken l (addN acc (atP5 l y)) xs).length≤_;simp only[List.length_cons];omega
theorem nmsL_snoc {ks:List Ex}{j:Nat}{k:Ex}(h:ks[j]? =some k):nmsL (ks.take (j+1))=nmsL (ks.take j)++nms k:=by
 unfold nmsL;rw[List.take_add_one,h,Option.toList_some,List.map_append,List.flatten_append];simp
theorem nmsL_len {ks:List Ex}{j:Nat}{k:Ex}(h:ks[j]? =some k):(nmsL (ks.take j)).length+(nms k).length≤(nmsL ks).length:=by
 rw[←List.length_append,←nmsL_snoc h];unfold nmsL;have:ks=ks.take (j+1)++ks.drop (j+1):=(List.take_append_drop _ _).symm;conv=>rhs;rw[this,List.map_append,List.flatten_append,List.length_append]
 omega
theorem nms_shape: ∀(N:Nat) (e:Ex) (deep n:Nat),sizeOf e≤N→(shapeP e deep n).1=0→n+(nms e).length+1≤(shapeP e deep n).2+1∧n+1≤(shapeP e deep n).2
 |0,e,_,_,hN,_=>by cases e;simp at hN
 |N+1,e,deep,n,hN,h=>by
  rw[shapeP_eq]at h⊢;by_cases c1:600<n+1∨40<deep
  ·rw[if_pos c1]at h;cases h
  rw[if_neg c1]at h⊢;by_cases c2:aloneP e≠0
  ·rw[if_pos c2]at h;exact absurd h c2
  rw[if_neg c2]at h⊢
  have aux: ∀(ks:List Ex),(∀k∈ks,sizeOf k≤N)→ ∀m:Nat,(shapeL ks (deep+1) (0,m)).1=0→m+(nmsL ks).length≤(shapeL ks (deep+1) (0,m)).2:=by
   intro ks;induction ks with
   |nil=>intro _ m _;simp[nmsL,shapeL_nil]
   |cons k ks ih=>
    intro hk m h0;rw[shapeL_cons,if_neg (by simp)]at h0⊢
    have hz:(shapeP k (deep+1) m).1=0:=by
     by_cases hz:(shapeP k (deep+1) m).1=0
     ·exact hz
     ·rw[shapeL_bad hz]at h0;exact h0
    obtain⟨i1,i2⟩:=nms_shape N k (deep+1) m (hk k List.mem_cons_self) hz;obtain⟨m',e'⟩: ∃m',shapeP k (deep+1) m=(0,m'):=⟨_,Prod.ext hz rfl⟩
    rw[e']at h0 i1⊢;have:=ih (fun q hq=>hk q (List.mem_cons_of_mem _ hq)) m' h0;have hl:(nmsL (k::ks)).length=(nms k).length+(nmsL ks).length:=(by simp[nmsL]);rw[hl];dsimp only at i1;omega
  have hb:=aux e.kids (fun k hk=>by have:=kid_lt hk;omega) (n+1) h
  have hl:(nms e).length≤1+(nmsL e.kids).length:=by
   rw[nms_eq,List.length_append];split<;>simp
  omega
end Lx
namespace Go.Proofs.YtpmobjgnmidolaaDoor
open Go.RowKit Lx
def sayV (w:World)(gi:Nat):Value:= .func (.func 66) #[] #[.pointer (some ⟨w.heap.size,0,none⟩),.pointer (some ⟨w.heap.size+1+1,0,none⟩),.pointer (some ⟨gi,0,none⟩)]
def ERel (w:World)(l:List Ru)(n mb gi i:Nat)(ls0:List (List Int))(r:List Int)(ks:List Ex)(w0:World)(t:Value)(wr:World):Prop:= ∃j:Nat,t= .int .i64 (j:Int)∧j≤ks.length∧SpS w l n mb gi i (ls0.set i (spoken l r (nmsL (ks.take j)))) wr∧KT w0 wr
set_option maxRecDepth 100000 in
set_option maxHeartbeats 2000000 in
theorem eachName_step (w:World)(l:List Ru)(n mb gi i:Nat)(ls0:List (List Int))(hM:MapN w mb l)(hin:i<n)(hn:n≤1000000)(hl0:ls0.length=n)
  (e:Ex) (pe:Option Addr) (ce:Nat) (r:List Int) (wr:World) (h:SpS w l n mb gi i (ls0.set i r) wr) (hr:r.length+(nms e).length≤1000000) (hlk:(e.kids.length:Int)<9223372036854775808)
  (hkk: ∀(j:Nat) (k:Ex),e.kids[j]? =some k→ ∃(g o:Nat) (ps:Option Addr) (cs:Nat),pe=some ⟨g,o,none⟩∧
    w.cell? ⟨g,o+j*5,none⟩=some (.int .i64 k.kind)∧w.cell? ⟨g,o+j*5+1,none⟩=some (.int .i64 k.a)∧w.cell? ⟨g,o+j*5+2,none⟩=some (.int .i64 k.b)∧
    w.cell? ⟨g,o+j*5+3,none⟩=some (.string ⟨k.name.toArray⟩)∧w.cell? ⟨g,o+j*5+4,none⟩=some (.slice ps k.kids.length cs)∧
    ∀(q:List Int) (W:World),SpS w l n mb gi i (ls0.set i q) W→q.length+(nms k).length≤1000000→Calls Tryd.prog 65 #[exV k (.slice ps k.kids.length cs),sayV w gi] W (OutS1 w l n mb gi i (ls0.set i (spoken l q (nms k))) W)):
  Calls Tryd.prog 65 #[exV e (.slice pe e.kids.length ce),sayV w gi] wr (OutS1 w l n mb gi i (ls0.set i (spoken l r (nms e))) wr):=by
 have HK:=hid5 hkk;have hb0:Below wr.heap.size wr (wr.alloc (.cells #[.int .i64 e.kind,.int .i64 e.a,.int .i64 e.b,.string ⟨e.name.toArray⟩,.slice pe e.kids.length ce] 50)):=(Below.refl _ _).alloc (Nat.le_refl _) _;have hx0:=heap_alloc_new wr (.cells #[.int .i64 e.kind,.int .i64 e.a,.int .i64 e.b,.string ⟨e.name.toArray⟩,.slice pe e.kids.length ce] 50);have hA:=h.below hb0;unfold exV;clear hkk h;generalize hwA:wr.alloc (.cells #[.int .i64 e.kind,.int .i64 e.a,.int .i64 e.b,.string ⟨e.name.toArray⟩,.slice pe e.kids.length ce] 50)=wA at*;have z0:=(cell_of_row _ _ 0 _ _ _ hx0).trans rfl;have z3:=(cell_of_row _ _ 3 _ _ _ hx0).trans rfl;have z4:=(cell_of_row _ _ 4 _ _ _ hx0).trans rfl;have hne:=nms_eq e;unfold sayV;go_enter Tryd.func65,Tryd.ntmps65;go_upto_if 8 with fail;rename_i K1 hK1
 have key: ∀(x8 x9 x10 x11 x12:Value) (q:List Int) (W:World),SpS w l n mb gi i (ls0.set i q) W→KT wr W→q.length+(nmsL e.kids).length≤1000000→spoken l q (nmsL e.kids)=spoken l r (nms e)→W.cell? ⟨wr.heap.size,4,none⟩=some (.slice pe e.kids.length ce)→
   K1 ⟨#[.agg #[.int .i64 e.kind,.int .i64 e.a,.int .i64 e.b,.string ⟨e.name.toArray⟩,.slice pe e.kids.length ce],.func (.func 66) #[] #[.pointer (some ⟨w.heap.size,0,none⟩),.pointer (some ⟨w.heap.size+1+1,0,none⟩),.pointer (some ⟨gi,0,none⟩)],.pointer (some ⟨wr.heap.size,0,none⟩),undef,undef,undef,.pointer (some ⟨wr.heap.size,0,none⟩),.int .i64 e.kind,x8,x9,x10,x11,x12,undef,undef,undef,undef,undef,undef,undef,undef,undef,undef,undef],[]⟩ W:=by
  intro x8 x9 x10 x11 x12 q W hW hkt hql hqe hc4;refine hK1 _ _ ?_;have Hqe:=hid5 hqe;have Hkt:=hid5 hkt;clear hkt;clear hK1 hA hx0 z0 z3 z4 hb0 hne hqe hwA hr;go_wp2_with fail;clear hc4;go_loopw [5,16] (fun _ t wq=>ERel w l n mb gi i ls0 q e.kids wr t wq) (fun _ t _=>e.kids.length-(intOf t).toNat);case atStart=>exact⟨0,rfl,by omega,hW,Hkt.out⟩
  case round=>
   obtain⟨j,rfl,hj,hst,hktj⟩:=hrel;have Hktj:=hid5 hktj;clear hW hktj Hkt;have hj0:(0:Int)≤(j:Int):=(by omega);by_cases hlt:j<e.kids.length
   ·have hlt':(j:Int)<(e.kids.length:Int):=(by omega);obtain⟨k,hjk⟩: ∃k,e.kids[j]? =some k:=⟨e.kids[j],List.getElem?_eq_getElem hlt⟩
    obtain⟨g,o,ps,cs,hpe,c0,c1,c2,c3,c4,cK⟩:=HK.out j k hjk;have hsn:=nmsL_snoc hjk;have hnl:=nmsL_len hjk;have hsl:=spoken_le l (nmsL (e.kids.take j)) q;subst hpe;have hbl:=hst.bel;have d0:=(hbl.cell (block_lt_of_cell c0)).trans c0;have d1:=(hbl.cell (block_lt_of_cell c1)).trans c1;have d2:=(hbl.cell (block_lt_of_cell c2)).trans c2;have d3:=(hbl.cell (block_lt_of_cell c3)).trans c3;have d4:=(hbl.cell (block_lt_of_cell c4)).trans c4;have hbA:=(Below.refl wr.heap.size wr).alloc (Nat.le_refl _) (.cells #[.int .i64 k.kind,.int .i64 k.a,.int .i64 k.b,.string ⟨k.name.toArray⟩,.slice ps k.kids.length cs] 50);have hxB:=heap_alloc_new wr (.cells #[.int .i64 k.kind,.int .i64 k.a,.int .i64 k.b,.string ⟨k.name.toArray⟩,.slice ps k.kids.length cs] 50);have cR:=cK _ _ (hst.below hbA) (by omega);rw[←spoken_app,←hsn]at cR;unfold exV sayV at cR;have HbA:=hid5 hbA;clear hsn hnl hsl hjk c0 c1 c2 c3 c4 cK hst hbl hbA;generalize hwB:wr.alloc (.cells #[.int .i64 k.kind,.int .i64 k.a,.int .i64 k.b,.string ⟨k.name.toArray⟩,.slice ps k.kids.length cs] 50)=wB at*;go_wp2_with(refine wpList_load_row rfl 50 _ rfl _ rfl _ _ _ _ hxB exprType5 rfl (by kernel_rfl) ?_)
    refine cR.mono ?_;rintro e' w2 ⟨rfl,hst2,hk2⟩;have Hk2:=hid5 ((Hktj.out.trans (KT.below HbA.out)).trans hk2);clear cR hxB Hktj HbA hk2;go_wp2_with fail;go_roundw;case rel=>exact⟨j+1,by go_num,by omega,hst2,Hk2.out⟩
    case measure=>simp[intOf];omega
   ·have hlt': ¬(j:Int)<(e.kids.length:Int):=(by omega);have HO:=fun(H:SpS w l n mb gi i (ls0.set i (spoken l r (nms e))) wr)=>hid5 (And.intro (rfl:Ending.returned (.tuple #[])= .returned (.tuple #[])) (And.intro H Hktj.out))
    have HO:=HO (by
     rw[←Hqe.out];have e1:e.kids.take j=e.kids:=List.take_of_length_le (by omega);rw[e1]at hst;exact hst)
    clear hst HK Hqe Hktj;go_wp2_with fail;refine bodyPost_ret (results_none rfl _ _ _) rfl ?_;exact⟨rfl,HO.out.2⟩
 clear hK1 HK;have Hkey:=hid5 key;clear key;by_cases hk:e.kind=10
 ·have hk':(e.kind==10)=true:=by rw[hk];rfl
  rw[if_pos hk]at hne;have hl1:(nms e).length=1+(nmsL e.kids).length:=(by rw[hne];simp;omega);have cS:=spoken1_any w l n mb gi i ls0 r e.name wA hM hin hn hl0 (by omega) hA;have hal:=addN_len r (atP5 l e.name)
  have he1:spoken l (addN r (atP5 l e.name)) (nmsL e.kids)=spoken l r (nms e):=by
   rw[hne,spoken_app];rfl
  have HL:Hid ((addN r (atP5 l e.name)).length+(nmsL e.kids).length≤1000000):=by
   show _≤_;omega
  have HE:=hid5 he1;have Hx:=hid5 hx0;have Hb0:=hid5 hb0;clear hk hne hl1 hal he1 hr hx0 hA hM hwA hb0 z0 z4 hlk;generalize addN r (atP5 l e.name)=q at*;go_wp2_with fail;refine cS.mono ?_;rintro e' w2 ⟨rfl,hst2,hk2⟩;have z4':w2.cell? ⟨wr.heap.size,4,none⟩=some (.slice pe e.kids.length ce):=(cell_of_row _ _ 4 _ _ _ (hk2 _ _ _ _ Hx.out (by decide) (by decide))).trans rfl;have Hk2:=hid5 ((KT.below Hb0.out).trans hk2);clear cS hk2;go_wp2_with fail;exact Hkey.out _ _ _ _ _ q w2 hst2 Hk2.out HL.out HE.out z4'
 ·have hk':(e.kind==10)=false:=beq_eq_false_iff_ne.2 hk;rw[if_neg hk,List.nil_append]at hne;have HF:Hid (∀(x8 x9 x10 x11 x12:Value),K1 ⟨#[.agg #[.int .i64 e.kind,.int .i64 e.a,.int .i64 e.b,.string ⟨e.name.toArray⟩,.slice pe e.kids.length ce],.func (.func 66) #[] #[.pointer (some ⟨w.heap.size,0,none⟩),.pointer (some ⟨w.heap.size+1+1,0,none⟩),.pointer (some ⟨gi,0,none⟩)],.pointer (some ⟨wr.heap.size,0,none⟩),undef,undef,undef,.pointer (some ⟨wr.heap.size,0,none⟩),.int .i64 e.kind,x8,x9,x10,x11,x12,undef,undef,undef,undef,undef,undef,undef,undef,undef,undef,undef],[]⟩ wA):=fun x8 x9 x10 x11 x12=>Hkey.out x8 x9 x10 x11 x12 r wA hA (KT.below hb0) (by rw[hne]at hr;exact hr) (by rw[hne]) z4;clear hk hne Hkey hA hM hr hwA hb0 z0 z3 z4 hx0 hlk;go_wp2_with fail;exact HF.out _ _ _ _ _
end Go.Proofs.YtpmobjgnmidolaaDoor
