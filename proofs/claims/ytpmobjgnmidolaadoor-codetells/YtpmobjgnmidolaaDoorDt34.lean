/- What the document's Same comes to at code that is the same: true. -/
import Derived.Test.YtpmobjgnmidolaaDoorDt26
import Derived.Test.YtpmobjgnmidolaaDoorDt06
import Derived.Test.YtpmobjgnmidolaaDoorDt05
import Derived.Test.YtpmobjgnmidolaaDoorDt33
import Derived.Test.YtpmobjgnmidolaaDoorDt08
import Derived.Lib.SmallJoins
import Derived.OpenShut
namespace Go.Proofs.YtpmobjgnmidolaaDoor
open Go.RowKit Lx Vx Msk
set_option maxHeartbeats 1000000 in
theorem same_nil (p p':Option Addr)(c c':Nat)(w:World):Calls Tryd.prog 22 #[.slice p 0 c,.slice p' 0 c'] w fun e w'=>e= .returned (.bool true)∧Below w.heap.size w w':=by
 go_enter Tryd.func22,Tryd.ntmps22;go_wp2;refine wp_loop_rounds 1 ?_;rw[rounds_succ];go_wp2;go_ret;exact⟨rfl,Below.refl _ _⟩
theorem samev_true (v v':Value)(l:List (Int×Int))(w:World)(h:RowV w v l)(h':RowV w v' l):Calls Tryd.prog 22 #[v,v'] w fun e w'=>e= .returned (.bool true)∧Below w.heap.size w w':=by
 by_cases hl:l=[]
 ·subst hl;obtain⟨p,c,rfl,_⟩:=h.form;obtain⟨p',c',rfl,_⟩:=h'.form;exact same_nil p p' c c' w
 ·rcases h with⟨e,_⟩|h
  ·exact absurd e hl
  rcases h' with⟨e,_⟩|h'
  ·exact absurd e hl
  exact same_true v v' l w h h'
structure SmJ (wX:World)(c7 c8:Array Value)(L:Nat→Bool)(φ:Nat→Value)(W:World):Prop where
 bel:Below wX.heap.size wX W
 s7a:L 16=true→L 18=false→ ∃g:Nat,φ 7= .pointer (some ⟨g,0,none⟩)∧wX.heap.size≤g∧W.heap[g]? =some (.cells #[.int .i64 0,.int .i64 0,.int .i64 0,.int .i64 0,.slice none 0 0] 66 (0,0))
 s7b:L 18=true→ ∃g:Nat,φ 7= .pointer (some ⟨g,0,none⟩)∧wX.heap.size≤g∧W.heap[g]? =some (.cells c7 66 (0,0))
 s8a:L 17=true→L 19=false→ ∃g:Nat,φ 8= .pointer (some ⟨g,0,none⟩)∧wX.heap.size≤g∧W.heap[g]? =some (.cells #[.int .i64 0,.int .i64 0,.int .i64 0,.int .i64 0,.slice none 0 0] 66 (0,0))
 s8b:L 19=true→ ∃g:Nat,φ 8= .pointer (some ⟨g,0,none⟩)∧wX.heap.size≤g∧W.heap[g]? =some (.cells c8 66 (0,0))
 ne:L 16=true→L 17=true→φ 7≠φ 8
theorem pt_later {wX W W':World}{v:Value}{c:Array Value}(h: ∃g:Nat,v= .pointer (some ⟨g,0,none⟩)∧wX.heap.size≤g∧W.heap[g]? =some (.cells c 66 (0,0)))(hb:Below W.heap.size W W'): ∃g:Nat,v= .pointer (some ⟨g,0,none⟩)∧wX.heap.size≤g∧W'.heap[g]? =some (.cells c 66 (0,0)):=by
 obtain⟨g,h1,h2,h3⟩:=h;exact⟨g,h1,h2,(hb.block _ (lt_of_block h3)).trans h3⟩
theorem pt_new {g n:Nat}(h:g<n):(Value.pointer (some ⟨n,0,none⟩))≠ .pointer (some ⟨g,0,none⟩):=fun e=>by
 injection e with e;injection e with e;injection e with e;omega
set_option maxRecDepth 100000 in
set_option maxHeartbeats 8000000 in
theorem rsame_code (cs:List Cd)(v v':Value)(w:World)(h:InV w v cs)(h':InV w v' cs):Calls Tryd.prog 8 #[v,v'] w fun e w'=>e= .returned (.bool true)∧Below w.heap.size w w':=by
 obtain⟨p,c,rfl,hlen,hc⟩:=h.form;obtain⟨p',c',rfl,_,hc'⟩:=h'.form;obtain⟨n,hn⟩: ∃n,cs.length=n:=⟨_,rfl⟩
 rw[hn]at hlen;have HN:=hid5 hn;have HV:=hid5 h;have HV':=hid5 h';have HC:=hid5 hc;have HC':=hid5 hc';have hn1:(n:Int)<9223372036854775808:=by omega
 rw[hn];clear h h' hc hc' hn;go_enter Tryd.func8,Tryd.ntmps8;go_wp2_with fail;go_loopw [5,6,7,8,16,64] (fun _ _ _ _ t _ wr=> ∃j:Nat,t= .int .i64 (j:Int)∧j≤n∧Below w.heap.size w wr) (fun _ _ _ _ t _ _=>n-(intOf t).toNat);case atStart=>exact⟨0,rfl,by omega,Below.refl _ _⟩
 case round=>
  obtain⟨i,rfl,hi,hb⟩:=hrel;have hi0:(0:Int)≤(i:Int):=(by omega);by_cases hil:i<n
  ·have hil':(i:Int)<(n:Int):=(by omega);obtain⟨u,hu⟩: ∃u,cs[i]? =some u:=⟨cs[i]'(by have:=HN.out;omega),List.getElem?_eq_getElem _⟩
   obtain⟨sv,hsv,g,o,e1,a0,a1,a2⟩:=HC.out i u hu;obtain⟨sv',hsv',g',o',e2,a0',a1',a2'⟩:=HC'.out i u hu;subst e1 e2;obtain⟨q,cq,rfl,hlq,hcq⟩:=hsv.form;obtain⟨q',cq',rfl,_,hcq'⟩:=hsv'.form;obtain⟨ins,hi5,st⟩:=u;dsimp only at hsv hsv' a0 a1 a2 a0' a1' a2' hlq hcq hcq';obtain⟨m,hm⟩: ∃m,ins.length=m:=⟨_,rfl⟩
   rw[hm]at a0 a0' hlq;have HM:=hid5 hm;have HCQ:=hid5 hcq;have HCQ':=hid5 hcq';have b0:=(hb.cell (block_lt_of_cell a0)).trans a0;have b1:=(hb.cell (block_lt_of_cell a1)).trans a1;have b2:=(hb.cell (block_lt_of_cell a2)).trans a2;have b0':=(hb.cell (block_lt_of_cell a0')).trans a0';have b1':=(hb.cell (block_lt_of_cell a1')).trans a1';have b2':=(hb.cell (block_lt_of_cell a2')).trans a2';have hm1:(m:Int)<9223372036854775808:=(by omega);clear hsv hsv' hcq hcq' hm hu;go_wp2_with fail;go_quiet (fail);have hbq:Below w.heap.size w (wr.drewN nq):=hb.trans ((below_drewN (Below.refl _ _) nq).mono hb.size);have d0:=(hbq.cell (block_lt_of_cell a0)).trans a0;clear hb b0 b1 b2 b0' b1' b2';generalize wr.drewN nq=wq at*;go_wp2_with fail;go_loopw [6,7,8,64] (fun _ _ _ t w2=> ∃k:Nat,t= .int .i64 (k:Int)∧k≤m∧Below w.heap.size w w2) (fun _ _ _ t _=>m-(intOf t).toNat);case atStart=>exact⟨0,rfl,by omega,hbq⟩
   case round=>
    clear hbq d0;obtain⟨k,rfl,hk,hb⟩:=hrel;have hk0:(0:Int)≤(k:Int):=(by omega);by_cases hkl:k<m
    ·have hkl':(k:Int)<(m:Int):=(by omega);obtain⟨x,hx⟩: ∃x,ins[k]? =some x:=⟨ins[k]'(by have:=HM.out;omega),List.getElem?_eq_getElem _⟩
     obtain⟨s1,r1,g1,o1,e1,y0,y1,y2,y3,y4⟩:=HCQ.out k x hx;obtain⟨s2,r2,g2,o2,e2,z0,z1,z2,z3,z4⟩:=HCQ'.out k x hx;subst e1 e2;have b0:=(hb.cell (block_lt_of_cell a0)).trans a0;have b0':=(hb.cell (block_lt_of_cell a0')).trans a0';obtain⟨p1,c1,rfl,_⟩:=r1.form;obtain⟨p2,c2,rfl,_⟩:=r2.form;have y0:=(hb.cell (block_lt_of_cell y0)).trans y0;have y1:=(hb.cell (block_lt_of_cell y1)).trans y1;have y2:=(hb.cell (block_lt_of_cell y2)).trans y2;have y3:=(hb.cell (block_lt_of_cell y3)).trans y3;have y4:=(hb.cell (block_lt_of_cell y4)).trans y4;have z0:=(hb.cell (block_lt_of_cell z0)).trans z0;have z1:=(hb.cell (block_lt_of_cell z1)).trans z1;have z2:=(hb.cell (block_lt_of_cell z2)).trans z2;have z3:=(hb.cell (block_lt_of_cell z3)).trans z3;have z4:=(hb.cell (block_lt_of_cell z4)).trans z4;generalize wr=wX at*;go_upto_region 11 with fail;refine wp_region_Z (fun L φ W=>SmJ wX #[.int .i64 x.op,.int .i64 x.a,.int .i64 x.b,.int .i64 x.to,.slice p1 x.sp.length c1] #[.int .i64 x.op,.int .i64 x.a,.int .i64 x.b,.int .i64 x.to,.slice p2 x.sp.length c2] L φ W) (fun L hL=>⟨((Below.refl _ _).drew),(fun c0 c1=>by rw[hL 16 (by decide)]at c0;cases c0),(fun c0=>by rw[hL 18 (by decide)]at c0;cases c0),(fun c0 c1=>by rw[hL 17 (by decide)]at c0;cases c0),(fun c0=>by rw[hL 19 (by decide)]at c0;cases c0),(fun c0 c1=>by rw[hL 16 (by decide)]at c0;cases c0)⟩) (by kernel_rfl) (by kernel_rfl) (by kernel_rfl) (by kernel_rfl) [(some 67,some (.slice (some ⟨g,o,none⟩) n c)),(some 68,some (.int .i64 (i:Int))),(some 69,some (.pointer (some ⟨g,o+i*3,none⟩))),(some 70,some (.pointer (some ⟨g,o+i*3,none⟩))),(some 71,some (.slice (some ⟨g1,o1,none⟩) m cq)),(some 72,some (.int .i64 (k:Int))),(some 73,some (.pointer (some ⟨g1,o1+k*5,none⟩))),(some 74,some (.agg #[.int .i64 x.op,.int .i64 x.a,.int .i64 x.b,.int .i64 x.to,.slice p1 x.sp.length c1])),(some 75,some (.slice (some ⟨g',o',none⟩) n c')),(some 76,some (.int .i64 (i:Int))),(some 77,some (.pointer (some ⟨g',o'+i*3,none⟩))),(some 78,some (.pointer (some ⟨g',o'+i*3,none⟩))),(some 79,some (.slice (some ⟨g2,o2,none⟩) m cq')),(some 80,some (.int .i64 (k:Int))),(some 81,some (.pointer (some ⟨g2,o2+k*5,none⟩))),(some 82,some (.agg #[.int .i64 x.op,.int .i64 x.a,.int .i64 x.b,.int .i64 x.to,.slice p2 x.sp.length c2])),(some 7,none),(some 8,none),(none,none),(none,none)] (by kernel_rfl) (by kernel_rfl) [67,68,69,70,71,72,73,74,75,76,77,78,79,80,81,82,7,8] (by kernel_rfl) ?_ ?_
     ·intro i' d' x' o' L A W2 ho hv hLi hdep hc hJ hkept hhas;match i',ho,hv,hLi with
      |0,ho,hv,hLi=>
       cases Option.some.inj ho;cases Option.some.inj hv;have g0:A.tmps[0]?.getD undef= .slice (some ⟨g,o,none⟩) n c:=(gd A 0).trans (hkept 0 (by kernel_rfl));refine wpOp_step rfl (fun K hK=> ?_);go_simp;exact hK _ _ ⟨_,rfl,fun u hu=>by cases Option.some.inj hu;rfl,⟨(hJ.bel),(fun c0 c1=>by rw[orZ (by decide)]at c0;rw[orZ (by decide)]at c1;simp only[putF_ne (show 67≠7 by decide)];exact hJ.s7a c0 c1),(fun c0=>by rw[orZ (by decide)]at c0;simp only[putF_ne (show 67≠7 by decide)];exact hJ.s7b c0),(fun c0 c1=>by rw[orZ (by decide)]at c0;rw[orZ (by decide)]at c1;simp only[putF_ne (show 67≠8 by decide)];exact hJ.s8a c0 c1),(fun c0=>by rw[orZ (by decide)]at c0;simp only[putF_ne (show 67≠8 by decide)];exact hJ.s8b c0),(fun c0 c1=>by rw[orZ (by decide)]at c0;rw[orZ (by decide)]at c1;simp only[putF_ne (show 67≠7 by decide),putF_ne (show 67≠8 by decide)];exact hJ.ne c0 c1)⟩⟩
      |1,ho,hv,hLi=>
       cases Option.some.inj ho;cases Option.some.inj hv;have g5:A.tmps[5]?.getD undef= .int .i64 (i:Int):=(gd A 5).trans (hkept 5 (by kernel_rfl));refine wpOp_step rfl (fun K hK=> ?_);go_simp;exact hK _ _ ⟨_,rfl,fun u hu=>by cases Option.some.inj hu;rfl,⟨(hJ.bel),(fun c0 c1=>by rw[orZ (by decide)]at c0;rw[orZ (by decide)]at c1;simp only[putF_ne (show 68≠7 by decide)];exact hJ.s7a c0 c1),(fun c0=>by rw[orZ (by decide)]at c0;simp only[putF_ne (show 68≠7 by decide)];exact hJ.s7b c0),(fun c0 c1=>by rw[orZ (by decide)]at c0;rw[orZ (by decide)]at c1;simp only[putF_ne (show 68≠8 by decide)];exact hJ.s8a c0 c1),(fun c0=>by rw[orZ (by decide)]at c0;simp only[putF_ne (show 68≠8 by decide)];exact hJ.s8b c0),(fun c0 c1=>by rw[orZ (by decide)]at c0;rw[orZ (by decide)]at c1;simp only[putF_ne (show 68≠7 by decide),putF_ne (show 68≠8 by decide)];exact hJ.ne c0 c1)⟩⟩
      |2,ho,hv,hLi=>
       cases Option.some.inj ho;cases Option.some.inj hv;have g67:A.tmps[67]?.getD undef= .slice (some ⟨g,o,none⟩) n c:=(gd A 67).trans (hhas 0 67 _ rfl (hdep ⟨0,.data⟩ (by simp) rfl));have g68:A.tmps[68]?.getD undef= .int .i64 (i:Int):=(gd A 68).trans (hhas 1 68 _ rfl (hdep ⟨1,.data⟩ (by simp) rfl));refine wpOp_step rfl (fun K hK=> ?_);go_simp;exact hK _ _ ⟨_,rfl,fun u hu=>by cases Option.some.inj hu;rfl,⟨(hJ.bel),(fun c0 c1=>by rw[orZ (by decide)]at c0;rw[orZ (by decide)]at c1;simp only[putF_ne (show 69≠7 by decide)];exact hJ.s7a c0 c1),(fun c0=>by rw[orZ (by decide)]at c0;simp only[putF_ne (show 69≠7 by decide)];exact hJ.s7b c0),(fun c0 c1=>by rw[orZ (by decide)]at c0;rw[orZ (by decide)]at c1;simp only[putF_ne (show 69≠8 by decide)];exact hJ.s8a c0 c1),(fun c0=>by rw[orZ (by decide)]at c0;simp only[putF_ne (show 69≠8 by decide)];exact hJ.s8b c0),(fun c0 c1=>by rw[orZ (by decide)]at c0;rw[orZ (by decide)]at c1;simp only[putF_ne (show 69≠7 by decide),putF_ne (show 69≠8 by decide)];exact hJ.ne c0 c1)⟩⟩
      |3,ho,hv,hLi=>
       cases Option.some.inj ho;cases Option.some.inj hv;have g69:A.tmps[69]?.getD undef= .pointer (some ⟨g,o+i*3,none⟩):=(gd A 69).trans (hhas 2 69 _ rfl (hdep ⟨2,.data⟩ (by simp) rfl));refine wpOp_step rfl (fun K hK=> ?_);go_simp;exact hK _ _ ⟨_,rfl,fun u hu=>by cases Option.some.inj hu;rfl,⟨(hJ.bel),(fun c0 c1=>by rw[orZ (by decide)]at c0;rw[orZ (by decide)]at c1;simp only[putF_ne (show 70≠7 by decide)];exact hJ.s7a c0 c1),(fun c0=>by rw[orZ (by decide)]at c0;simp only[putF_ne (show 70≠7 by decide)];exact hJ.s7b c0),(fun c0 c1=>by rw[orZ (by decide)]at c0;rw[orZ (by decide)]at c1;simp only[putF_ne (show 70≠8 by decide)];exact hJ.s8a c0 c1),(fun c0=>by rw[orZ (by decide)]at c0;simp only[putF_ne (show 70≠8 by decide)];exact hJ.s8b c0),(fun c0 c1=>by rw[orZ (by decide)]at c0;rw[orZ (by decide)]at c1;simp only[putF_ne (show 70≠7 by decide),putF_ne (show 70≠8 by decide)];exact hJ.ne c0 c1)⟩⟩
      |4,ho,hv,hLi=>
       cases Option.some.inj ho;cases Option.some.inj hv;have g70:A.tmps[70]?.getD undef= .pointer (some ⟨g,o+i*3,none⟩):=(gd A 70).trans (hhas 3 70 _ rfl (hdep ⟨3,.data⟩ (by simp) rfl));have zz:=(hJ.bel.cell (block_lt_of_cell b0)).trans b0;refine wpOp_step rfl (fun K hK=> ?_);go_simp;exact hK _ _ ⟨_,rfl,fun u hu=>by cases Option.some.inj hu;rfl,⟨(hJ.bel),(fun c0 c1=>by rw[orZ (by decide)]at c0;rw[orZ (by decide)]at c1;simp only[putF_ne (show 71≠7 by decide)];exact hJ.s7a c0 c1),(fun c0=>by rw[orZ (by decide)]at c0;simp only[putF_ne (show 71≠7 by decide)];exact hJ.s7b c0),(fun c0 c1=>by rw[orZ (by decide)]at c0;rw[orZ (by decide)]at c1;simp only[putF_ne (show 71≠8 by decide)];exact hJ.s8a c0 c1),(fun c0=>by rw[orZ (by decide)]at c0;simp only[putF_ne (show 71≠8 by decide)];exact hJ.s8b c0),(fun c0 c1=>by rw[orZ (by decide)]at c0;rw[orZ (by decide)]at c1;simp only[putF_ne (show 71≠7 by decide),putF_ne (show 71≠8 by decide)];exact hJ.ne c0 c1)⟩⟩
      |5,ho,hv,hLi=>
       cases Option.some.inj ho;cases Option.some.inj hv;have g6:A.tmps[6]?.getD undef= .int .i64 (k:Int):=(gd A 6).trans (hkept 6 (by kernel_rfl));refine wpOp_step rfl (fun K hK=> ?_);go_simp;exact hK _ _ ⟨_,rfl,fun u hu=>by cases Option.some.inj hu;rfl,⟨(hJ.bel),(fun c0 c1=>by rw[orZ (by decide)]at c0;rw[orZ (by decide)]at c1;simp only[putF_ne (show 72≠7 by decide)];exact hJ.s7a c0 c1),(fun c0=>by rw[orZ (by decide)]at c0;simp only[putF_ne (show 72≠7 by decide)];exact hJ.s7b c0),(fun c0 c1=>by rw[orZ (by decide)]at c0;rw[orZ (by decide)]at c1;simp only[putF_ne (show 72≠8 by decide)];exact hJ.s8a c0 c1),(fun c0=>by rw[orZ (by decide)]at c0;simp only[putF_ne (show 72≠8 by decide)];exact hJ.s8b c0),(fun c0 c1=>by rw[orZ (by decide)]at c0;rw[orZ (by decide)]at c1;simp only[putF_ne (show 72≠7 by decide),putF_ne (show 72≠8 by decide)];exact hJ.ne c0 c1)⟩⟩
      |6,ho,hv,hLi=>
       cases Option.some.inj ho;cases Option.some.inj hv;have g71:A.tmps[71]?.getD undef= .slice (some ⟨g1,o1,none⟩) m cq:=(gd A 71).trans (hhas 4 71 _ rfl (hdep ⟨4,.data⟩ (by simp) rfl));have g72:A.tmps[72]?.getD undef= .int .i64 (k:Int):=(gd A 72).trans (hhas 5 72 _ rfl (hdep ⟨5,.data⟩ (by simp) rfl));refine wpOp_step rfl (fun K hK=> ?_);go_simp;exact hK _ _ ⟨_,rfl,fun u hu=>by cases Option.some.inj hu;rfl,⟨(hJ.bel),(fun c0 c1=>by rw[orZ (by decide)]at c0;rw[orZ (by decide)]at c1;simp only[putF_ne (show 73≠7 by decide)];exact hJ.s7a c0 c1),(fun c0=>by rw[orZ (by decide)]at c0;simp only[putF_ne (show 73≠7 by decide)];exact hJ.s7b c0),(fun c0 c1=>by rw[orZ (by decide)]at c0;rw[orZ (by decide)]at c1;simp only[putF_ne (show 73≠8 by decide)];exact hJ.s8a c0 c1),(fun c0=>by rw[orZ (by decide)]at c0;simp only[putF_ne (show 73≠8 by decide)];exact hJ.s8b c0),(fun c0 c1=>by rw[orZ (by decide)]at c0;rw[orZ (by decide)]at c1;simp only[putF_ne (show 73≠7 by decide),putF_ne (show 73≠8 by decide)];exact hJ.ne c0 c1)⟩⟩
      |7,ho,hv,hLi=>
       cases Option.some.inj ho;cases Option.some.inj hv;have g73:A.tmps[73]?.getD undef= .pointer (some ⟨g1,o1+k*5,none⟩):=(gd A 73).trans (hhas 6 73 _ rfl (hdep ⟨6,.data⟩ (by simp) rfl));have zz0:=(hJ.bel.cell (block_lt_of_cell y0)).trans y0;have zz1:=(hJ.bel.cell (block_lt_of_cell y1)).trans y1;have zz2:=(hJ.bel.cell (block_lt_of_cell y2)).trans y2;have zz3:=(hJ.bel.cell (block_lt_of_cell y3)).trans y3;have zz4:=(hJ.bel.cell (block_lt_of_cell y4)).trans y4;refine wpOp_step rfl (fun K hK=> ?_);go_simp;exact hK _ _ ⟨_,rfl,fun u hu=>by cases Option.some.inj hu;rfl,⟨(hJ.bel),(fun c0 c1=>by rw[orZ (by decide)]at c0;rw[orZ (by decide)]at c1;simp only[putF_ne (show 74≠7 by decide)];exact hJ.s7a c0 c1),(fun c0=>by rw[orZ (by decide)]at c0;simp only[putF_ne (show 74≠7 by decide)];exact hJ.s7b c0),(fun c0 c1=>by rw[orZ (by decide)]at c0;rw[orZ (by decide)]at c1;simp only[putF_ne (show 74≠8 by decide)];exact hJ.s8a c0 c1),(fun c0=>by rw[orZ (by decide)]at c0;simp only[putF_ne (show 74≠8 by decide)];exact hJ.s8b c0),(fun c0 c1=>by rw[orZ (by decide)]at c0;rw[orZ (by decide)]at c1;simp only[putF_ne (show 74≠7 by decide),putF_ne (show 74≠8 by decide)];exact hJ.ne c0 c1)⟩⟩
      |8,ho,hv,hLi=>
       cases Option.some.inj ho;cases Option.some.inj hv;have g1:A.tmps[1]?.getD undef= .slice (some ⟨g',o',none⟩) n c':=(gd A 1).trans (hkept 1 (by kernel_rfl));refine wpOp_step rfl (fun K hK=> ?_);go_simp;exact hK _ _ ⟨_,rfl,fun u hu=>by cases Option.some.inj hu;rfl,⟨(hJ.bel),(fun c0 c1=>by rw[orZ (by decide)]at c0;rw[orZ (by decide)]at c1;simp only[putF_ne (show 75≠7 by decide)];exact hJ.s7a c0 c1),(fun c0=>by rw[orZ (by decide)]at c0;simp only[putF_ne (show 75≠7 by decide)];exact hJ.s7b c0),(fun c0 c1=>by rw[orZ (by decide)]at c0;rw[orZ (by decide)]at c1;simp only[putF_ne (show 75≠8 by decide)];exact hJ.s8a c0 c1),(fun c0=>by rw[orZ (by decide)]at c0;simp only[putF_ne (show 75≠8 by decide)];exact hJ.s8b c0),(fun c0 c1=>by rw[orZ (by decide)]at c0;rw[orZ (by decide)]at c1;simp only[putF_ne (show 75≠7 by decide),putF_ne (show 75≠8 by decide)];exact hJ.ne c0 c1)⟩⟩
      |9,ho,hv,hLi=>
       cases Option.some.inj ho;cases Option.some.inj hv;have g5:A.tmps[5]?.getD undef= .int .i64 (i:Int):=(gd A 5).trans (hkept 5 (by kernel_rfl));refine wpOp_step rfl (fun K hK=> ?_);go_simp;exact hK _ _ ⟨_,rfl,fun u hu=>by cases Option.some.inj hu;rfl,⟨(hJ.bel),(fun c0 c1=>by rw[orZ (by decide)]at c0;rw[orZ (by decide)]at c1;simp only[putF_ne (show 76≠7 by decide)];exact hJ.s7a c0 c1),(fun c0=>by rw[orZ (by decide)]at c0;simp only[putF_ne (show 76≠7 by decide)];exact hJ.s7b c0),(fun c0 c1=>by rw[orZ (by decide)]at c0;rw[orZ (by decide)]at c1;simp only[putF_ne (show 76≠8 by decide)];exact hJ.s8a c0 c1),(fun c0=>by rw[orZ (by decide)]at c0;simp only[putF_ne (show 76≠8 by decide)];exact hJ.s8b c0),(fun c0 c1=>by rw[orZ (by decide)]at c0;rw[orZ (by decide)]at c1;simp only[putF_ne (show 76≠7 by decide),putF_ne (show 76≠8 by decide)];exact hJ.ne c0 c1)⟩⟩
      |10,ho,hv,hLi=>
       cases Option.some.inj ho;cases Option.some.inj hv;have g75:A.tmps[75]?.getD undef= .slice (some ⟨g',o',none⟩) n c':=(gd A 75).trans (hhas 8 75 _ rfl (hdep ⟨8,.data⟩ (by simp) rfl));have g76:A.tmps[76]?.getD undef= .int .i64 (i:Int):=(gd A 76).trans (hhas 9 76 _ rfl (hdep ⟨9,.data⟩ (by simp) rfl));refine wpOp_step rfl (fun K hK=> ?_);go_simp;exact hK _ _ ⟨_,rfl,fun u hu=>by cases Option.some.inj hu;rfl,⟨(hJ.bel),(fun c0 c1=>by rw[orZ (by decide)]at c0;rw[orZ (by decide)]at c1;simp only[putF_ne (show 77≠7 by decide)];exact hJ.s7a c0 c1),(fun c0=>by rw[orZ (by decide)]at c0;simp only[putF_ne (show 77≠7 by decide)];exact hJ.s7b c0),(fun c0 c1=>by rw[orZ (by decide)]at c0;rw[orZ (by decide)]at c1;simp only[putF_ne (show 77≠8 by decide)];exact hJ.s8a c0 c1),(fun c0=>by rw[orZ (by decide)]at c0;simp only[putF_ne (show 77≠8 by decide)];exact hJ.s8b c0),(fun c0 c1=>by rw[orZ (by decide)]at c0;rw[orZ (by decide)]at c1;simp only[putF_ne (show 77≠7 by decide),putF_ne (show 77≠8 by decide)];exact hJ.ne c0 c1)⟩⟩
      |11,ho,hv,hLi=>
       cases Option.some.inj ho;cases Option.some.inj hv;have g77:A.tmps[77]?.getD undef= .pointer (some ⟨g',o'+i*3,none⟩):=(gd A 77).trans (hhas 10 77 _ rfl (hdep ⟨10,.data⟩ (by simp) rfl));refine wpOp_step rfl (fun K hK=> ?_);go_simp;exact hK _ _ ⟨_,rfl,fun u hu=>by cases Option.some.inj hu;rfl,⟨(hJ.bel),(fun c0 c1=>by rw[orZ (by decide)]at c0;rw[orZ (by decide)]at c1;simp only[putF_ne (show 78≠7 by decide)];exact hJ.s7a c0 c1),(fun c0=>by rw[orZ (by decide)]at c0;simp only[putF_ne (show 78≠7 by decide)];exact hJ.s7b c0),(fun c0 c1=>by rw[orZ (by decide)]at c0;rw[orZ (by decide)]at c1;simp only[putF_ne (show 78≠8 by decide)];exact hJ.s8a c0 c1),(fun c0=>by rw[orZ (by decide)]at c0;simp only[putF_ne (show 78≠8 by decide)];exact hJ.s8b c0),(fun c0 c1=>by rw[orZ (by decide)]at c0;rw[orZ (by decide)]at c1;simp only[putF_ne (show 78≠7 by decide),putF_ne (show 78≠8 by decide)];exact hJ.ne c0 c1)⟩⟩
      |12,ho,hv,hLi=>
       cases Option.some.inj ho;cases Option.some.inj hv;have g78:A.tmps[78]?.getD undef= .pointer (some ⟨g',o'+i*3,none⟩):=(gd A 78).trans (hhas 11 78 _ rfl (hdep ⟨11,.data⟩ (by simp) rfl));have zz:=(hJ.bel.cell (block_lt_of_cell b0')).trans b0';refine wpOp_step rfl (fun K hK=> ?_);go_simp;exact hK _ _ ⟨_,rfl,fun u hu=>by cases Option.some.inj hu;rfl,⟨(hJ.bel),(fun c0 c1=>by rw[orZ (by decide)]at c0;rw[orZ (by decide)]at c1;simp only[putF_ne (show 79≠7 by decide)];exact hJ.s7a c0 c1),(fun c0=>by rw[orZ (by decide)]at c0;simp only[putF_ne (show 79≠7 by decide)];exact hJ.s7b c0),(fun c0 c1=>by rw[orZ (by decide)]at c0;rw[orZ (by decide)]at c1;simp only[putF_ne (show 79≠8 by decide)];exact hJ.s8a c0 c1),(fun c0=>by rw[orZ (by decide)]at c0;simp only[putF_ne (show 79≠8 by decide)];exact hJ.s8b c0),(fun c0 c1=>by rw[orZ (by decide)]at c0;rw[orZ (by decide)]at c1;simp only[putF_ne (show 79≠7 by decide),putF_ne (show 79≠8 by decide)];exact hJ.ne c0 c1)⟩⟩
      |13,ho,hv,hLi=>
       cases Option.some.inj ho;cases Option.some.inj hv;have g6:A.tmps[6]?.getD undef= .int .i64 (k:Int):=(gd A 6).trans (hkept 6 (by kernel_rfl));refine wpOp_step rfl (fun K hK=> ?_);go_simp;exact hK _ _ ⟨_,rfl,fun u hu=>by cases Option.some.inj hu;rfl,⟨(hJ.bel),(fun c0 c1=>by rw[orZ (by decide)]at c0;rw[orZ (by decide)]at c1;simp only[putF_ne (show 80≠7 by decide)];exact hJ.s7a c0 c1),(fun c0=>by rw[orZ (by decide)]at c0;simp only[putF_ne (show 80≠7 by decide)];exact hJ.s7b c0),(fun c0 c1=>by rw[orZ (by decide)]at c0;rw[orZ (by decide)]at c1;simp only[putF_ne (show 80≠8 by decide)];exact hJ.s8a c0 c1),(fun c0=>by rw[orZ (by decide)]at c0;simp only[putF_ne (show 80≠8 by decide)];exact hJ.s8b c0),(fun c0 c1=>by rw[orZ (by decide)]at c0;rw[orZ (by decide)]at c1;simp only[putF_ne (show 80≠7 by decide),putF_ne (show 80≠8 by decide)];exact hJ.ne c0 c1)⟩⟩
      |14,ho,hv,hLi=>
       cases Option.some.inj ho;cases Option.some.inj hv;have g79:A.tmps[79]?.getD undef= .slice (some ⟨g2,o2,none⟩) m cq':=(gd A 79).trans (hhas 12 79 _ rfl (hdep ⟨12,.data⟩ (by simp) rfl));have g80:A.tmps[80]?.getD undef= .int .i64 (k:Int):=(gd A 80).trans (hhas 13 80 _ rfl (hdep ⟨13,.data⟩ (by simp) rfl));refine wpOp_step rfl (fun K hK=> ?_);go_simp;exact hK _ _ ⟨_,rfl,fun u hu=>by cases Option.some.inj hu;rfl,⟨(hJ.bel),(fun c0 c1=>by rw[orZ (by decide)]at c0;rw[orZ (by decide)]at c1;simp only[putF_ne (show 81≠7 by decide)];exact hJ.s7a c0 c1),(fun c0=>by rw[orZ (by decide)]at c0;simp only[putF_ne (show 81≠7 by decide)];exact hJ.s7b c0),(fun c0 c1=>by rw[orZ (by decide)]at c0;rw[orZ (by decide)]at c1;simp only[putF_ne (show 81≠8 by decide)];exact hJ.s8a c0 c1),(fun c0=>by rw[orZ (by decide)]at c0;simp only[putF_ne (show 81≠8 by decide)];exact hJ.s8b c0),(fun c0 c1=>by rw[orZ (by decide)]at c0;rw[orZ (by decide)]at c1;simp only[putF_ne (show 81≠7 by decide),putF_ne (show 81≠8 by decide)];exact hJ.ne c0 c1)⟩⟩
      |15,ho,hv,hLi=>
       cases Option.some.inj ho;cases Option.some.inj hv;have g81:A.tmps[81]?.getD undef= .pointer (some ⟨g2,o2+k*5,none⟩):=(gd A 81).trans (hhas 14 81 _ rfl (hdep ⟨14,.data⟩ (by simp) rfl));have zz0:=(hJ.bel.cell (block_lt_of_cell z0)).trans z0;have zz1:=(hJ.bel.cell (block_lt_of_cell z1)).trans z1;have zz2:=(hJ.bel.cell (block_lt_of_cell z2)).trans z2;have zz3:=(hJ.bel.cell (block_lt_of_cell z3)).trans z3;have zz4:=(hJ.bel.cell (block_lt_of_cell z4)).trans z4;refine wpOp_step rfl (fun K hK=> ?_);go_simp;exact hK _ _ ⟨_,rfl,fun u hu=>by cases Option.some.inj hu;rfl,⟨(hJ.bel),(fun c0 c1=>by rw[orZ (by decide)]at c0;rw[orZ (by decide)]at c1;simp only[putF_ne (show 82≠7 by decide)];exact hJ.s7a c0 c1),(fun c0=>by rw[orZ (by decide)]at c0;simp only[putF_ne (show 82≠7 by decide)];exact hJ.s7b c0),(fun c0 c1=>by rw[orZ (by decide)]at c0;rw[orZ (by decide)]at c1;simp only[putF_ne (show 82≠8 by decide)];exact hJ.s8a c0 c1),(fun c0=>by rw[orZ (by decide)]at c0;simp only[putF_ne (show 82≠8 by decide)];exact hJ.s8b c0),(fun c0 c1=>by rw[orZ (by decide)]at c0;rw[orZ (by decide)]at c1;simp only[putF_ne (show 82≠7 by decide),putF_ne (show 82≠8 by decide)];exact hJ.ne c0 c1)⟩⟩
      |16,ho,hv,hLi=>
       cases Option.some.inj ho;cases Option.some.inj hv
       have h18:L 18=false:=by
        cases hq:L 18 with
        |false=>rfl
        |true=>
         have:=hc 18 _ rfl hq ⟨16,.data⟩ (by simp) rfl;rw[hLi]at this;cases this
       have h19:L 19=false:=by
        cases hq:L 19 with
        |false=>rfl
        |true=>
         have:=hc 19 _ rfl hq ⟨18,.chain⟩ (by simp) rfl;rw[h18]at this;cases this
       have hb':=(Below.refl W2.heap.size W2).alloc (Nat.le_refl _) (.cells #[.int .i64 0,.int .i64 0,.int .i64 0,.int .i64 0,.slice none 0 0] 66);have hnew:=heap_alloc_new W2 (.cells #[.int .i64 0,.int .i64 0,.int .i64 0,.int .i64 0,.slice none 0 0] 66);have hsX:=hJ.bel.size;refine wpOp_step rfl (fun K hK=> ?_);go_simp;exact hK _ _ ⟨_,rfl,fun u hu=>by(cases hu),⟨((fun h hb=>h.trans (hb.mono h.size)) (hJ.bel) hb'),(fun c0 c1=>by rw[putF_eq];exact⟨_,rfl,hsX,hnew⟩),(fun c0=>by rw[orZ (by decide),h18]at c0;cases c0),(fun c0 c1=>by rw[orZ (by decide)]at c0;rw[orZ (by decide)]at c1;simp only[putF_ne (show 7≠8 by decide)];exact pt_later (hJ.s8a c0 c1) hb'),(fun c0=>by rw[orZ (by decide),h19]at c0;cases c0),(fun c0 c1=>by rw[putF_eq,putF_ne (by decide)];rw[orZ (by decide)]at c1;obtain⟨g8,e8,_,k8⟩:=hJ.s8a c1 h19;rw[e8];exact pt_new (lt_of_block k8))⟩⟩
      |17,ho,hv,hLi=>
       cases Option.some.inj ho;cases Option.some.inj hv
       have h19:L 19=false:=by
        cases hq:L 19 with
        |false=>rfl
        |true=>
         have:=hc 19 _ rfl hq ⟨17,.data⟩ (by simp) rfl;rw[hLi]at this;cases this
       have hb':=(Below.refl W2.heap.size W2).alloc (Nat.le_refl _) (.cells #[.int .i64 0,.int .i64 0,.int .i64 0,.int .i64 0,.slice none 0 0] 66);have hnew:=heap_alloc_new W2 (.cells #[.int .i64 0,.int .i64 0,.int .i64 0,.int .i64 0,.slice none 0 0] 66);have hsX:=hJ.bel.size;refine wpOp_step rfl (fun K hK=> ?_);go_simp;exact hK _ _ ⟨_,rfl,fun u hu=>by(cases hu),⟨((fun h hb=>h.trans (hb.mono h.size)) (hJ.bel) hb'),(fun c0 c1=>by rw[orZ (by decide)]at c0;rw[orZ (by decide)]at c1;simp only[putF_ne (show 8≠7 by decide)];exact pt_later (hJ.s7a c0 c1) hb'),(fun c0=>by rw[orZ (by decide)]at c0;simp only[putF_ne (show 8≠7 by decide)];exact pt_later (hJ.s7b c0) hb'),(fun c0 c1=>by rw[putF_eq];exact⟨_,rfl,hsX,hnew⟩),(fun c0=>by rw[orZ (by decide),h19]at c0;cases c0),(fun c0 c1=>by rw[putF_eq,putF_ne (by decide)];rw[orZ (by decide)]at c0;cases h18:L 18 with|false=>(obtain⟨g8,e8,_,k8⟩:=hJ.s7a c0 h18;rw[e8];exact fun e=>pt_new (lt_of_block k8) e.symm)|true=>(obtain⟨g8,e8,_,k8⟩:=hJ.s7b h18;rw[e8];exact fun e=>pt_new (lt_of_block k8) e.symm))⟩⟩
      |18,ho,hv,hLi=>
       cases Option.some.inj ho;cases Option.some.inj hv
       have h19:L 19=false:=by
        cases hq:L 19 with
        |false=>rfl
        |true=>
         have:=hc 19 _ rfl hq ⟨18,.chain⟩ (by simp) rfl;rw[hLi]at this;cases this
       have d16:L 16=true:=hdep ⟨16,.data⟩ (by simp) rfl;have h74:A.eval (.tmp 74)= .agg #[.int .i64 x.op,.int .i64 x.a,.int .i64 x.b,.int .i64 x.to,.slice p1 x.sp.length c1]:=hhas 7 74 _ rfl (hdep ⟨7,.data⟩ (by simp) rfl);obtain⟨g7,e7,l7,k7⟩:=hJ.s7a d16 hLi;have h7:A.eval (.tmp 7)= .pointer (some ⟨g7,0,none⟩):=e7;refine wpOp_step rfl (fun K hK=> ?_);show Oper.wp _ _ _ _ _ _;refine wp_store_row 66 _ _ rfl _ _ h7 h74 _ _ k7 (by kernel_rfl) (by simp) (by simp[Value.oneCell']) ?_;exact hK _ _ ⟨undef,rfl,fun u hu=>by(cases hu),⟨(below_setRow hJ.bel l7 _),(fun c0 c1=>by simp at c1),(fun c0=>by rw[putF_none];exact⟨g7,e7,l7,setRow_heap _ _ _ _ _ _ k7⟩),(fun c0 c1=>by rw[orZ (by decide)]at c0;rw[putF_none];obtain⟨g8,e8,l8,k8⟩:=hJ.s8a c0 h19;have hne:=hJ.ne d16 c0;rw[e7,e8]at hne;exact⟨g8,e8,l8,(setRow_other _ _ _ _ (fun e=>hne (by rw[e]))).trans k8⟩),(fun c0=>by rw[orZ (by decide),h19]at c0;cases c0),(fun c0 c1=>by rw[orZ (by decide)]at c0;rw[orZ (by decide)]at c1;rw[putF_none];exact hJ.ne c0 c1)⟩⟩
      |19,ho,hv,hLi=>
       cases Option.some.inj ho;cases Option.some.inj hv;have d17:L 17=true:=hdep ⟨17,.data⟩ (by simp) rfl;have d18:L 18=true:=hdep ⟨18,.chain⟩ (by simp) rfl;have d16:L 16=true:=hdep ⟨16,.phase⟩ (by simp) rfl;have h82:A.eval (.tmp 82)= .agg #[.int .i64 x.op,.int .i64 x.a,.int .i64 x.b,.int .i64 x.to,.slice p2 x.sp.length c2]:=hhas 15 82 _ rfl (hdep ⟨15,.data⟩ (by simp) rfl);obtain⟨g8,e8,l8,k8⟩:=hJ.s8a d17 hLi;have h8:A.eval (.tmp 8)= .pointer (some ⟨g8,0,none⟩):=e8;refine wpOp_step rfl (fun K hK=> ?_);show Oper.wp _ _ _ _ _ _;refine wp_store_row 66 _ _ rfl _ _ h8 h82 _ _ k8 (by kernel_rfl) (by simp) (by simp[Value.oneCell']) ?_;exact hK _ _ ⟨undef,rfl,fun u hu=>by(cases hu),⟨(below_setRow hJ.bel l8 _),(fun c0 c1=>by rw[orZ (by decide),d18]at c1;cases c1),(fun c0=>by rw[putF_none];obtain⟨g7,e7,l7,k7⟩:=hJ.s7b d18;have hne:=hJ.ne d16 d17;rw[e7,e8]at hne;exact⟨g7,e7,l7,(setRow_other _ _ _ _ (fun e=>hne (by rw[e]))).trans k7⟩),(fun c0 c1=>by simp at c1),(fun c0=>by rw[putF_none];exact⟨g8,e8,l8,setRow_heap _ _ _ _ _ _ k8⟩),(fun c0 c1=>by rw[orZ (by decide)]at c0;rw[orZ (by decide)]at c1;rw[putF_none];exact hJ.ne c0 c1)⟩⟩
      |kk+20,ho,hv,hLi=>simp at hv
     ·intro L A W2 hL hJ hhas hput;obtain⟨g7,e7,l7,k7⟩:=hJ.s7b (hL 18 (by decide));obtain⟨g8,e8,l8,k8⟩:=hJ.s8b (hL 19 (by decide));have hbY:=hb.trans (hJ.bel.mono hb.size)
      have hA:=hput [(67,.slice (some ⟨g,o,none⟩) n c),(68,.int .i64 (i:Int)),(69,.pointer (some ⟨g,o+i*3,none⟩)),(70,.pointer (some ⟨g,o+i*3,none⟩)),(71,.slice (some ⟨g1,o1,none⟩) m cq),(72,.int .i64 (k:Int)),(73,.pointer (some ⟨g1,o1+k*5,none⟩)),(74,.agg #[.int .i64 x.op,.int .i64 x.a,.int .i64 x.b,.int .i64 x.to,.slice p1 x.sp.length c1]),(75,.slice (some ⟨g',o',none⟩) n c'),(76,.int .i64 (i:Int)),(77,.pointer (some ⟨g',o'+i*3,none⟩)),(78,.pointer (some ⟨g',o'+i*3,none⟩)),(79,.slice (some ⟨g2,o2,none⟩) m cq'),(80,.int .i64 (k:Int)),(81,.pointer (some ⟨g2,o2+k*5,none⟩)),(82,.agg #[.int .i64 x.op,.int .i64 x.a,.int .i64 x.b,.int .i64 x.to,.slice p2 x.sp.length c2]),(7,.pointer (some ⟨g7,0,none⟩)),(8,.pointer (some ⟨g8,0,none⟩))] rfl (fun jj s u hj=>match jj,hj with
       |0,hj=>by cases Option.some.inj hj;exact hhas 0 67 _ rfl
       |1,hj=>by cases Option.some.inj hj;exact hhas 1 68 _ rfl
       |2,hj=>by cases Option.some.inj hj;exact hhas 2 69 _ rfl
       |3,hj=>by cases Option.some.inj hj;exact hhas 3 70 _ rfl
       |4,hj=>by cases Option.some.inj hj;exact hhas 4 71 _ rfl
       |5,hj=>by cases Option.some.inj hj;exact hhas 5 72 _ rfl
       |6,hj=>by cases Option.some.inj hj;exact hhas 6 73 _ rfl
       |7,hj=>by cases Option.some.inj hj;exact hhas 7 74 _ rfl
       |8,hj=>by cases Option.some.inj hj;exact hhas 8 75 _ rfl
       |9,hj=>by cases Option.some.inj hj;exact hhas 9 76 _ rfl
       |10,hj=>by cases Option.some.inj hj;exact hhas 10 77 _ rfl
       |11,hj=>by cases Option.some.inj hj;exact hhas 11 78 _ rfl
       |12,hj=>by cases Option.some.inj hj;exact hhas 12 79 _ rfl
       |13,hj=>by cases Option.some.inj hj;exact hhas 13 80 _ rfl
       |14,hj=>by cases Option.some.inj hj;exact hhas 14 81 _ rfl
       |15,hj=>by cases Option.some.inj hj;exact hhas 15 82 _ rfl
       |16,hj=>by cases Option.some.inj hj;exact e7
       |17,hj=>by cases Option.some.inj hj;exact e8
       |kk+18,hj=>by simp at hj)
      try change Exit.then _ _ Exit.normal _ _
      subst hA;simp only[putAll_cons,putAll_nil,Act.put,List.setIfInBounds_toArray,List.set_cons_succ,List.set_cons_zero];have k70:=(cell_of_row _ _ 0 _ _ _ k7).trans rfl;have k80:=(cell_of_row _ _ 0 _ _ _ k8).trans rfl;have k71:=(cell_of_row _ _ 1 _ _ _ k7).trans rfl;have k81:=(cell_of_row _ _ 1 _ _ _ k8).trans rfl;have k72:=(cell_of_row _ _ 2 _ _ _ k7).trans rfl;have k82:=(cell_of_row _ _ 2 _ _ _ k8).trans rfl;have k73:=(cell_of_row _ _ 3 _ _ _ k7).trans rfl;have k83:=(cell_of_row _ _ 3 _ _ _ k8).trans rfl;have k74:=(cell_of_row _ _ 4 _ _ _ k7).trans rfl;have k84:=(cell_of_row _ _ 4 _ _ _ k8).trans rfl;have cS:=samev_true (.slice p1 x.sp.length c1) (.slice p2 x.sp.length c2) x.sp W2 (r1.later hbY) (r2.later hbY);have HB:=hid5 hbY;clear hJ hput hhas hL e7 e8 l7 l8 k7 k8 hbY hb;go_wp2_with fail;refine cS.mono ?_;rintro e w5 ⟨rfl,b5⟩;have hb5:=HB.out.trans (b5.mono HB.out.size);go_wp2_with fail;go_roundw;case rel=>exact⟨k+1,by go_num,by omega,hb5⟩
      case measure=>simp[intOf];omega
    ·have hkl': ¬(k:Int)<(m:Int):=(by omega);obtain rfl:m=k:=(by omega);clear a0 a1 a2 a0' a1' a2';go_wp2_with fail;go_roundw;case rel=>exact⟨i+1,by go_num,by omega,hb⟩
     case measure=>simp[intOf];omega
  ·have hil': ¬(i:Int)<(n:Int):=(by omega);go_wp2_with fail;go_ret;exact⟨rfl,hb⟩
end Go.Proofs.YtpmobjgnmidolaaDoor
/- What the law CodeTells comes to. -/
namespace Go.Proofs.YtpmobjgnmidolaaDoor
open Go.RowKit Lx Vx Msk
theorem eqFaultT (a b:Int)(w:World):(Op.equalIn 10000 26 (.agg #[.int .i64 a,.int .i64 b]) (.agg #[.int .i64 a,.int .i64 b])).run Tryd.prog w= .ok true w:=by
 rw[run_equalIn_struct w 9999 26 _ _ (by kernel_rfl) (by kernel_rfl)];simp[Program.fieldsOf,Tryd.underlying26,Op.eqFields];go_simp
theorem eqlFaultT (a b:Int)(w:World):(binOp .eql 26 (.agg #[.int .i64 a,.int .i64 b]) (.agg #[.int .i64 a,.int .i64 b])).run Tryd.prog w= .ok (.bool true) w:=by
 rw[run_eql_struct,eqFaultT];simp[Result.andThen]
attribute [local go_sem] eqlFaultT
theorem OutC.inV {l:List Ru}{w w':World}{r:Ending}(h:OutC l w r w'): ∃v,r= .returned (.tuple #[v,.agg #[.int .i64 (cflt l).1,.int .i64 (cflt l).2]])∧InV w' v (if(cflt l).1=0 then cmpL l else [])∧Below w.heap.size w w':=by
 obtain⟨v,rfl,h1,h2,hb⟩:=h;refine⟨v,rfl,?_,hb⟩;by_cases e:(cflt l).1=0
 ·rw[if_pos e];exact h1 e
 ·rw[if_neg e,h2 e];exact⟨[],⟨none,0,rfl,by simp,fun j u hj=>by simp at hj⟩,rfl⟩
set_option maxRecDepth 100000 in
set_option maxHeartbeats 2000000 in
theorem ctells_walk7 (us:List (Ru×Value))(v:Value)(w:World)(h:InR w v us)(hT:Tab w):
  Calls Tryd.prog 3 #[v] w fun e w'=>e= .returned (.bool true)∧Below w.heap.size w w':=by
 obtain⟨pv,cv,rfl⟩:=h.form;obtain⟨l,hl⟩: ∃l,us.map (fun p=>p.1)=l:=⟨_,rfl⟩
 obtain⟨n,hn⟩: ∃n,us.length=n:=⟨_,rfl⟩
 have c0:=compile_any us _ w h hT;have HI:=hid5 h;rw[hl,hn]at c0;rw[hn]at HI;have HL:=hid5 hl;rw[hn];clear h hT hl hn;obtain⟨er,her⟩: ∃q,(cflt l).1=q:=⟨_,rfl⟩
 obtain⟨at0,hat⟩: ∃q,(cflt l).2=q:=⟨_,rfl⟩
 have HER:=hid5 her;have HAT:=hid5 hat;obtain⟨cs,hcs⟩: ∃q,(if er=0 then cmpL l else [])=q:=⟨_,rfl⟩
 have HCS:=hid5 hcs;clear her hat hcs;go_enter Tryd.func3,Tryd.ntmps3;go_wp2_with fail;refine c0.mono ?_;intro e w1 ho;obtain⟨v1,he,hv1,b1⟩:=ho.inV;rw[HER.out]at hv1 he;rw[HCS.out]at hv1;rw[HAT.out]at he;subst he;clear ho c0;have bF:=(Below.refl w1.heap.size w1).alloc (Nat.le_refl _) (.cells #[.int .i64 er,.int .i64 at0] 26);have nF:=heap_alloc_new w1 (.cells #[.int .i64 er,.int .i64 at0] 26);generalize hwF:w1.alloc (.cells #[.int .i64 er,.int .i64 at0] 26)=wF at*;have hbF:=b1.trans (bF.mono b1.size);have hvF:=hv1.below bF;have c1:=rcompile_any us _ wF (HI.out.below hbF);rw[HL.out]at c1;clear b1 bF hv1;obtain⟨p1,q1,hf1,_⟩:=hvF.form;subst hf1;go_wp2_with fail;clear hwF;refine c1.mono ?_;intro e w2 ho;obtain⟨v2,he,hv2,b2⟩:=ho.inV;rw[HER.out]at hv2 he;rw[HCS.out]at hv2;rw[HAT.out]at he;subst he;clear ho c1;have bG:=(Below.refl w2.heap.size w2).alloc (Nat.le_refl _) (.cells #[.int .i64 er,.int .i64 at0] 26);have nG:=heap_alloc_new w2 (.cells #[.int .i64 er,.int .i64 at0] 26);generalize hwG:w2.alloc (.cells #[.int .i64 er,.int .i64 at0] 26)=wG at*;have b2G:=b2.trans (bG.mono b2.size);have HBG:=hid5 (hbF.trans (b2G.mono hbF.size));have nF2:=(b2G.block _ (lt_of_block nF)).trans nF;have hvF2:=hvF.below b2G;have hvG:=hv2.below bG;have c2:=rsame_code _ _ _ wG hvF2 hvG;obtain⟨p2,q2,hf2,_⟩:=hvG.form;subst hf2;have z0:=(cell_of_row _ _ 0 _ _ _ nF2).trans rfl;have z1:=(cell_of_row _ _ 1 _ _ _ nF2).trans rfl;have y0:=(cell_of_row _ _ 0 _ _ _ nG).trans rfl;have y1:=(cell_of_row _ _ 1 _ _ _ nG).trans rfl;clear b2 bG hv2 hvF hvF2 hvG nF nF2 nG b2G hbF;go_wp2_with fail;refine c2.mono ?_;rintro e w3 ⟨rfl,b3⟩;have hb:=HBG.out.trans (b3.mono HBG.out.size);clear c2;go_wp2_with fail;go_ret;exact⟨rfl,hb⟩
end Go.Proofs.YtpmobjgnmidolaaDoor
/- How rules that came in read: a tree of expressions for each, in memory as it is. -/
namespace Go.Proofs.YtpmobjgnmidolaaDoor
open Go.ChangeShapes Go.WideShapes Go.ChangeAt Go.WideMaps Go.WideElems Go.RowKit Go.Joins Lx
variable {H:Type} {enc:TypeId×Value→H} {W:World}
theorem inE:Tryd.prog.cellsOf 50=5:=by kernel_rfl
theorem inR:Tryd.prog.cellsOf 52=6:=by kernel_rfl
theorem inI:Tryd.prog.cellsOf 3=1:=by kernel_rfl
theorem inS:Tryd.prog.cellsOf 9=1:=by kernel_rfl
theorem inL:Tryd.prog.cellsOf 48=1:=by kernel_rfl
theorem in_add (g o n:Nat):(⟨g,o,none⟩:Addr).add n=⟨g,o+n,none⟩:=by
 by_cases h:n=0
 ·subst h;simp[Addr.add]
 ·simp[Addr.add,h]
theorem KidsB.up {B:Nat→Prop}: ∀{d:Nat} {w:World} {sl:Value} {ks:List Ex},KidsB B d w sl ks→KidsB B (d+1) w sl ks
 |0,_,_,_,h=> .inl h
 |d+1,w,sl,ks,h=>by
  rcases h with h|⟨g,o,c,hB,hs,hl,hk⟩
  ·exact .inl h
  ·refine .inr ⟨g,o,c,hB,hs,hl,fun j k hj=> ?_⟩;obtain⟨hn,sk,c0,c1,c2,c3,c4,r⟩:=hk j k hj;exact⟨hn,sk,c0,c1,c2,c3,c4,KidsB.up r⟩
theorem KidsB.nil (B:Nat→Prop)(d:Nat)(w:World)(p:Option Addr)(c:Nat):KidsB B d w (.slice p 0 c) []:=by
 cases d with
 |zero=>exact⟨rfl,p,c,rfl⟩
 |succ d=>exact .inl ⟨rfl,p,c,rfl⟩
theorem five {α:Type}{l:List α}(h:l.length=5): ∃a b c d e,l=[a,b,c,d,e]:=by
 match l,h with
 |[a,b,c,d,e],_=>exact⟨a,b,c,d,e,rfl⟩
set_option maxRecDepth 100000 in
theorem expr_parts {fuel:Nat}{cs:List Value}{y:DataW H×List MemPlace}(h:DataW.trod enc Tryd.prog W 0 (fun _=>true) true fuel 50 cs=some y):
  ∃(k a b:Int) (s:ByteArray) (sl:Value) (m:Nat) (z:DataW H×List MemPlace),fuel=m+1∧cs=[.int .i64 k,.int .i64 a,.int .i64 b,.string s,sl]∧s.size≤maxLen∧DataW.trod enc Tryd.prog W 0 (fun _=>true) true m 48 [sl]=some z:=by
 obtain⟨xs,m,hf,_,hl,hx,hall⟩:=DataW.trod_struct Tryd.underlying50 h;rw[inE]at hl;have hx5:xs.length=5:=hx;obtain⟨c0,c1,c2,c3,c4,rfl⟩:=five hl;obtain⟨x0,x1,x2,x3,x4,rfl⟩:=five hx5;have h0:DataW.trod enc Tryd.prog W 0 (fun _=>true) true m 3 (([c0,c1,c2,c3,c4].drop 0).take (Tryd.prog.cellsOf 3))=some x0:=hall 0 _ rfl;have h1:DataW.trod enc Tryd.prog W 0 (fun _=>true) true m 3 (([c0,c1,c2,c3,c4].drop 1).take (Tryd.prog.cellsOf 3))=some x1:=hall 1 _ rfl;have h2:DataW.trod enc Tryd.prog W 0 (fun _=>true) true m 3 (([c0,c1,c2,c3,c4].drop 2).take (Tryd.prog.cellsOf 3))=some x2:=hall 2 _ rfl;have h3:DataW.trod enc Tryd.prog W 0 (fun _=>true) true m 9 (([c0,c1,c2,c3,c4].drop 3).take (Tryd.prog.cellsOf 9))=some x3:=hall 3 _ rfl;have h4:DataW.trod enc Tryd.prog W 0 (fun _=>true) true m 48 (([c0,c1,c2,c3,c4].drop 4).take (Tryd.prog.cellsOf 48))=some x4:=hall 4 _ rfl;rw[inI]at h0 h1 h2;rw[inS]at h3;rw[inL]at h4;obtain⟨k,e0,_⟩:=DataW.trod_int Tryd.underlying3 h0;obtain⟨a,e1,_⟩:=DataW.trod_int Tryd.underlying3 h1;obtain⟨b,e2,_⟩:=DataW.trod_int Tryd.underlying3 h2;obtain⟨s,e3,_,hs⟩:=DataW.trod_string Tryd.underlying9 h3;simp at e0 e1 e2 e3;subst e0 e1 e2 e3;exact⟨k,a,b,s,c4,m,x4,hf,rfl,hs,h4⟩
theorem str_list (s:ByteArray):(⟨(s.data.toList).toArray⟩:ByteArray)=s:=by simp
set_option maxRecDepth 100000 in
theorem open_kids: ∀(fuel:Nat) (cs:List Value) (x:DataW H×List MemPlace),DataW.trod enc Tryd.prog W 0 (fun _=>true) true fuel 48 cs=some x→
  ∃(sl:Value) (ks:List Ex),cs=[sl]∧KidsB (fun k=>k<W.heap.size) fuel W sl ks:=by
 intro fuel;induction fuel using Nat.strongRecOn with
 |ind fuel ih=>
  intro cs x h;rcases DataW.trod_slice Tryd.underlying48 h with⟨e,_⟩|⟨a,len,cap,elems,rest,m,hf,e,_,_,hlc,hm,hlen,hel,_⟩
  ·exact⟨_,[],e,KidsB.nil _ _ _ _ _⟩
  ·by_cases hz:len=0
   ·subst hz;exact⟨_,[],e,KidsB.nil _ _ _ _ _⟩
   ·obtain⟨g,o,s⟩:=a
    have each: ∀i,i<len→ ∃(k:Ex) (sk:Value),s=none∧g<W.heap.size∧k.name.length≤9223372036854775807∧
      W.cell? ⟨g,o+i*5,none⟩=some (.int .i64 k.kind)∧W.cell? ⟨g,o+i*5+1,none⟩=some (.int .i64 k.a)∧W.cell? ⟨g,o+i*5+2,none⟩=some (.int .i64 k.b)∧
      W.cell? ⟨g,o+i*5+3,none⟩=some (.string ⟨k.name.toArray⟩)∧W.cell? ⟨g,o+i*5+4,none⟩=some sk∧KidsB (fun k=>k<W.heap.size) m W sk k.kids:=by
     have spot:s=none:=by
      have h1:=hel 0 (by omega);rw[inE]at h1;have hy:elems[0]? =some (elems[0]'(by omega)):=List.getElem?_eq_getElem _;rw[hy,Option.bind_eq_some_iff]at h1;obtain⟨cs',hc,ht⟩:=h1;have q:=(World.cells?_some hc).2.2 0 (by omega);have hl':=(World.cells?_some hc).2.1;have e0:cs'[0]? =some (cs'[0]'(by omega)):=List.getElem?_eq_getElem _;rw[e0]at q;have q':=World.cell?_spot q;simpa[Addr.add] using q'
     subst spot;intro i hi;have h1:=hel i hi;rw[inE]at h1;have hy:elems[i]? =some (elems[i]'(by omega)):=List.getElem?_eq_getElem _;rw[hy,Option.bind_eq_some_iff]at h1;obtain⟨cs',hc,ht⟩:=h1;obtain⟨k,a,b,nm,sl,m',z,hm',hcs,hs,htk⟩:=expr_parts ht;subst hcs;have q:=(World.cells?_some hc).2.2;rw[in_add]at q;have q0:=q 0 (by omega);have q1:=q 1 (by omega);have q2:=q 2 (by omega);have q3:=q 3 (by omega);have q4:=q 4 (by omega);simp only[in_add,Nat.add_zero]at q0 q1 q2 q3 q4;obtain⟨sl',ks,esl,hkk⟩:=ih m' (by omega) [sl] z htk;have esl':sl=sl':=(by simpa using esl);subst esl';subst hm';refine⟨⟨k,a,b,nm.data.toList,ks⟩,sl,rfl,?_,?_,?_,?_,?_,?_,?_,hkk.up⟩
     ·exact block_lt_of_cell (a:=⟨g,o+i*5,none⟩) (by simpa using q0)
     ·rw[←Lib.size_eq];unfold maxLen at hs;exact hs
     ·simpa using q0
     ·simpa using q1
     ·simpa using q2
     ·rw[str_list];simpa using q3
     ·simpa using q4
    have hs0:s=none:=(by obtain⟨_,_,h,_⟩:=each 0 (by omega);exact h);have hg0:g<W.heap.size:=(by obtain⟨_,_,_,h,_⟩:=each 0 (by omega);exact h);subst hs0;let pick:Nat→Ex:=fun i=>if h:i<len then Classical.choose (each i h) else ex0;have hpick: ∀i (h:i<len),pick i=Classical.choose (each i h):=fun i h=>(by simp only[pick,h,dif_pos]);refine⟨.slice (some ⟨g,o,none⟩) len cap,(List.range len).map pick,e,?_⟩;subst hf;refine .inr ⟨g,o,cap,hg0,by simp,by simp;unfold maxLen at hm;omega,fun j k hj=> ?_⟩
    have hjl:j<len:=by
     have:=(List.getElem?_eq_some_iff.1 hj).1;simpa using this
    have hk:k=pick j:=by
     rw[List.getElem?_map,List.getElem?_range hjl]at hj;exact(Option.some.inj hj).symm
    rw[hk,hpick j hjl];obtain⟨sk,_,_,h3,h4⟩:=Classical.choose_spec (each j hjl);exact⟨h3,sk,h4⟩
end Go.Proofs.YtpmobjgnmidolaaDoor
/- How rules that came in read: the row of rules. -/
namespace Go.Proofs.YtpmobjgnmidolaaDoor
open Go.ChangeShapes Go.WideShapes Go.ChangeAt Go.WideMaps Go.WideElems Go.RowKit Go.Joins Lx
variable {H:Type} {enc:TypeId×Value→H} {W:World}
theorem six {α:Type}{l:List α}(h:l.length=6): ∃a b c d e f,l=[a,b,c,d,e,f]:=by
 match l,h with
 |[a,b,c,d,e,f],_=>exact⟨a,b,c,d,e,f,rfl⟩
theorem pair2 {α:Type}{l:List α}(h:l.length=2): ∃a b,l=[a,b]:=by
 match l,h with
 |[a,b],_=>exact⟨a,b,rfl⟩
set_option maxRecDepth 100000 in
theorem rule_parts {fuel:Nat}{cs:List Value}{y:DataW H×List MemPlace}(h:DataW.trod enc Tryd.prog W 0 (fun _=>true) true fuel 52 cs=some y):
  ∃(nm:ByteArray) (k a b:Int) (s:ByteArray) (sl:Value) (m:Nat) (z:DataW H×List MemPlace),cs=[.string nm,.int .i64 k,.int .i64 a,.int .i64 b,.string s,sl]∧nm.size≤maxLen∧s.size≤maxLen∧DataW.trod enc Tryd.prog W 0 (fun _=>true) true m 48 [sl]=some z:=by
 obtain⟨xs,m,hf,_,hl,hx,hall⟩:=DataW.trod_struct Tryd.underlying52 h;rw[inR]at hl;have hx2:xs.length=2:=hx;obtain⟨c0,c1,c2,c3,c4,c5,rfl⟩:=six hl;obtain⟨x0,x1,rfl⟩:=pair2 hx2;have h0:DataW.trod enc Tryd.prog W 0 (fun _=>true) true m 9 (([c0,c1,c2,c3,c4,c5].drop 0).take (Tryd.prog.cellsOf 9))=some x0:=hall 0 _ rfl;have h1:DataW.trod enc Tryd.prog W 0 (fun _=>true) true m 50 (([c0,c1,c2,c3,c4,c5].drop 1).take (Tryd.prog.cellsOf 50))=some x1:=hall 1 _ rfl;rw[inS]at h0;rw[inE]at h1;obtain⟨nm,e0,_,hn⟩:=DataW.trod_string Tryd.underlying9 h0;obtain⟨k,a,b,s,sl,m',z,_,e1,hs,ht⟩:=expr_parts h1;simp at e0 e1;obtain⟨q1,q2,q3,q4,q5⟩:=e1;subst e0 q1 q2 q3 q4 q5;exact⟨nm,k,a,b,s,c5,m',z,rfl,hn,hs,ht⟩
set_option maxRecDepth 100000 in
theorem open_rules {r:Reach}{b0:Nat}{v:Value}{d:DataW H}{p:List MemPlace}
  (hv:Value.okWide Tryd.prog W r b0 22 v) (h:DataW.Trod enc Tryd.prog W 0 (fun _=>true) true 22 v d p): ∃us,InR W v us:=by
 obtain⟨ao,k0,c0,rfl⟩:=okWide_slice Tryd.underlying22 hv;obtain⟨fuel,hf⟩:=h;have zero: ∀(q:Option Addr) (c:Nat),∃us,InR W (.slice q 0 c) us:=fun q c=>⟨[],.inl ⟨rfl,q,c,rfl⟩,by decide,fun p hp=>by cases hp⟩
 rcases DataW.trod_slice Tryd.underlying22 hf with⟨e,_⟩|⟨a,len,cap,elems,rest,m,_,e,_,_,hlc,hm,hlen,hel,_⟩
 ·have e':Value.slice ao k0 c0= .slice none 0 0:=by simpa[Value.cells] using e
  rw[e'];exact zero _ _
 ·have e':Value.slice ao k0 c0= .slice (some a) len cap:=by simpa[Value.cells] using e
  rw[e'];by_cases hz:len=0
  ·subst hz;exact zero _ _
  obtain⟨g,o,s⟩:=a
  have spot:s=none:=by
   have h1:=hel 0 (by omega);rw[inR]at h1;have hy:elems[0]? =some (elems[0]'(by omega)):=List.getElem?_eq_getElem _;rw[hy,Option.bind_eq_some_iff]at h1;obtain⟨cs',hc,ht⟩:=h1;have q:=(World.cells?_some hc).2.2 0 (by omega);have hl':=(World.cells?_some hc).2.1;have e0:cs'[0]? =some (cs'[0]'(by omega)):=List.getElem?_eq_getElem _;rw[e0]at q;have q':=World.cell?_spot q;simpa[Addr.add] using q'
  subst spot
  have each: ∀i,i<len→ ∃u:Ru×Value,RuleIn W u∧
    W.cell? ⟨g,o+i*6,none⟩=some (.string ⟨u.1.1.toArray⟩)∧W.cell? ⟨g,o+i*6+1,none⟩=some (.int .i64 u.1.2.kind)∧W.cell? ⟨g,o+i*6+2,none⟩=some (.int .i64 u.1.2.a)∧W.cell? ⟨g,o+i*6+3,none⟩=some (.int .i64 u.1.2.b)∧
    W.cell? ⟨g,o+i*6+4,none⟩=some (.string ⟨u.1.2.name.toArray⟩)∧W.cell? ⟨g,o+i*6+5,none⟩=some u.2:=by
   intro i hi;have h1:=hel i hi;rw[inR]at h1;have hy:elems[i]? =some (elems[i]'(by omega)):=List.getElem?_eq_getElem _;rw[hy,Option.bind_eq_some_iff]at h1;obtain⟨cs',hc,ht⟩:=h1;obtain⟨nm,k,a,b,x,sl,m',z,hcs,hn,hs,htk⟩:=rule_parts ht;subst hcs;have q:=(World.cells?_some hc).2.2;rw[in_add]at q;have q0:=q 0 (by omega);have q1:=q 1 (by omega);have q2:=q 2 (by omega);have q3:=q 3 (by omega);have q4:=q 4 (by omega);have q5:=q 5 (by omega);simp only[in_add,Nat.add_zero]at q0 q1 q2 q3 q4 q5;obtain⟨sl',ks,esl,hkk⟩:=open_kids m' [sl] z htk;have esl':sl=sl':=(by simpa using esl);subst esl';refine⟨((nm.data.toList,⟨k,a,b,x.data.toList,ks⟩),sl),⟨?_,?_,m',hkk⟩,?_,?_,?_,?_,?_,?_⟩
   ·show nm.data.toList.length≤_;rw[←Lib.size_eq];unfold maxLen at hn;exact hn
   ·show x.data.toList.length≤_;rw[←Lib.size_eq];unfold maxLen at hs;exact hs
   ·rw[str_list];simpa using q0
   ·simpa using q1
   ·simpa using q2
   ·simpa using q3
   ·rw[str_list];simpa using q4
   ·simpa using q5
  let pick:Nat→Ru×Value:=fun i=>if h:i<len then Classical.choose (each i h) else(([],ex0),.slice none 0 0)
  have hpick: ∀i (h:i<len),pick i=Classical.choose (each i h):=fun i h=>(by simp only[pick,h,dif_pos])
  have hat: ∀(j:Nat) (u:Ru×Value),((List.range len).map pick)[j]? =some u→ ∃h:j<len,u=Classical.choose (each j h):=fun j u hj=>by
   have hjl:j<len:=by
    have:=(List.getElem?_eq_some_iff.1 hj).1;simpa using this
   rw[List.getElem?_map,List.getElem?_range hjl]at hj;exact⟨hjl,(Option.some.inj hj).symm.trans (hpick j hjl)⟩
  have hl2:len<9223372036854775808:=(by unfold maxLen at hm;omega);refine⟨(List.range len).map pick,.inr ⟨g,o,cap,by simp,by simpa using hl2,fun j u hj=> ?_⟩,by simpa using hl2,fun u hu=> ?_⟩
  ·obtain⟨hjl,e1⟩:=hat j u hj;rw[e1];exact(Classical.choose_spec (each j hjl)).2
  ·obtain⟨j,hj⟩:=List.getElem?_of_mem hu;obtain⟨hjl,e1⟩:=hat j u hj;rw[e1];exact(Classical.choose_spec (each j hjl)).1
end Go.Proofs.YtpmobjgnmidolaaDoor
