/- What the document's Make comes to, of what is steady. Written by genxt.py. -/
import Derived.Test.YtpmobjgnmidolaaDoorDt28
import Derived.Test.YtpmobjgnmidolaaDoorDt06
import Derived.Test.YtpmobjgnmidolaaDoorDt27
import Derived.Test.YtpmobjgnmidolaaDoorDt29
import Derived.Test.YtpmobjgnmidolaaDoorDt30
import Derived.Test.YtpmobjgnmidolaaDoorDt31
import Derived.Test.YtpmobjgnmidolaaDoorDt23
import Derived.Test.YtpmobjgnmidolaaDoorDt24
import Derived.Test.YtpmobjgnmidolaaDoorDt26
import Derived.Test.YtpmobjgnmidolaaDoorDt20
namespace Go.Proofs.YtpmobjgnmidolaaDoor
open Go.RowKit Lx Vx Msk
set_option maxRecDepth 100000 in
set_option maxHeartbeats 8000000 in
theorem mk_std {cs:List Cd}{num:List UInt8→Int}{e:Ex}{ce:Nat}{pe pl pd:Option Addr}{nl cl nd cd:Nat}{w:World}(hs:stdE e=true)
  (cS: ∀W,Below w.heap.size w W→Calls Tryd.prog 53 #[exV e (.slice pe e.kids.length ce)] W (OutMn true (mnE e) W)):
  Calls Tryd.prog 21 #[exV e (.slice pe e.kids.length ce),.slice pl nl cl,.slice pd nd cd] w (OutMk cs num e w):=by
 have HV:Hid (hsE cs num e=(1,1)):=hs_std hs;have HCD:Hid (codeE num e 0=[⟨1,0,0,0,rs (mnE e) 1440⟩]):=code_std hs 0;clear hs;have hz:=mv_lit;have bA:Below w.heap.size w ((w.alloc (.cells #[.int .i64 e.kind,.int .i64 e.a,.int .i64 e.b,.string ⟨e.name.toArray⟩,.slice pe e.kids.length ce] 50)).alloc (.cells #[.slice none 0 0,.int .i64 0,.int .i64 0] 62)):=((Below.refl _ _).alloc (Nat.le_refl _) _).alloc (by simp) _;have nE:((w.alloc (.cells #[.int .i64 e.kind,.int .i64 e.a,.int .i64 e.b,.string ⟨e.name.toArray⟩,.slice pe e.kids.length ce] 50)).alloc (.cells #[.slice none 0 0,.int .i64 0,.int .i64 0] 62)).heap[w.heap.size]? =some (.cells #[.int .i64 e.kind,.int .i64 e.a,.int .i64 e.b,.string ⟨e.name.toArray⟩,.slice pe e.kids.length ce] 50 (0,0)):=by (repeat (first | refine blk_old _ _ _ (by simp only [size_alloc]; omega) ?_ | exact blk_new _ _ _ (by first | rfl | simp only [size_alloc])))
 have nP:((w.alloc (.cells #[.int .i64 e.kind,.int .i64 e.a,.int .i64 e.b,.string ⟨e.name.toArray⟩,.slice pe e.kids.length ce] 50)).alloc (.cells #[.slice none 0 0,.int .i64 0,.int .i64 0] 62)).heap[w.heap.size+1]? =some (.cells #[.slice none 0 0,.int .i64 0,.int .i64 0] 62 (0,0)):=by (repeat (first | refine blk_old _ _ _ (by simp only [size_alloc]; omega) ?_ | exact blk_new _ _ _ (by first | rfl | simp only [size_alloc])))
 unfold exV;generalize hwA:(w.alloc (.cells #[.int .i64 e.kind,.int .i64 e.a,.int .i64 e.b,.string ⟨e.name.toArray⟩,.slice pe e.kids.length ce] 50)).alloc (.cells #[.slice none 0 0,.int .i64 0,.int .i64 0] 62)=wA at*;have d1:=cS wA bA;unfold exV at d1;clear cS;go_enter Tryd.func21,Tryd.ntmps21;go_wp2_with(refine wpList_load_row rfl 50 _ rfl _ rfl _ _ _ _ nE exprType5 rfl (by kernel_rfl) ?_)
 refine d1.mono ?_;rintro r w1 ⟨⟨fm,rfl,hfm⟩,b1⟩;obtain rfl:fm=mnE e:=hfm rfl;have ba1:=(Below.refl w1.heap.size w1).alloc (Nat.le_refl _) (.cells (mv fun _=>false) 37);have na1:=heap_alloc_new w1 (.cells (mv fun _=>false) 37);have bm1:=below_setRow ba1 (Nat.le_refl _) (mv (mnE e));have bp:=b1.trans (bm1.mono b1.size);have hbm:=bA.trans (bp.mono bA.size);have nE1:=(bp.block _ (lt_of_block nE)).trans nE;have nP1:=(bp.block _ (lt_of_block nP)).trans nP;have m1:=setRow_heap _ _ _ (mv (mnE e)) _ _ na1;clear d1 hfm b1 ba1 bm1 bp nE nP hwA bA;generalize hwa1:w1.alloc (.cells (mv fun _=>false) 37)=w1a at*;generalize hwm1:w1a.setRow w1.heap.size (mv (mnE e))=w1m at*;have d2:=spans_refO (mnE e) w1m
 go_wp2_with(first
  |(refine wpList_store_row rfl 37 _ _ rfl _ _ rfl rfl _ _ na1 (maskSize _) (by simp[mv_size]) (mv_all _) ?_)
  |(refine wpList_load_row rfl 37 _ rfl _ rfl _ _ _ _ m1 maskType rfl (maskSize _) ?_))
 refine d2.mono ?_;rintro r w2 ⟨⟨sv,rfl,hown,_⟩,b2⟩;obtain⟨ps,cq0,hsv⟩:=row_formZ hown;obtain⟨ns,hns⟩: ∃q,(rs (mnE e) 1440).length=q:=⟨_,rfl⟩
 have hsp:=SpIn.of_own hown;rw[hns]at hsv;subst hsv;have hbX:=hbm.trans (b2.mono hbm.size);have n6:=(b2.block _ (lt_of_block nP1)).trans nP1;have b4:=(Below.refl w2.heap.size w2).alloc (Nat.le_refl _) (.cells #[.int .i64 1,.int .i64 0,.int .i64 0,.int .i64 0,.slice ps ns cq0] 66);have n4:=heap_alloc_new w2 (.cells #[.int .i64 1,.int .i64 0,.int .i64 0,.int .i64 0,.slice ps ns cq0] 66);have n64:=(b4.block _ (lt_of_block n6)).trans n6;have hb4:=hbX.trans (b4.mono hbX.size);have hsp4:=hsp.below b4;have hbI:=buildI (⟨1,0,0,0,rs (mnE e) 1440⟩,.slice ps ns cq0) ⟨_,_,_,rfl⟩ w2;unfold iv at hbI;dsimp only at hbI;clear d2 b2 b4 hsp hown hbm nE1 nP1 na1 m1 hwa1 hwm1 n6 hbX
 have HO:Hid (∀W4:World,W4=w2.alloc (.cells #[.int .i64 1,.int .i64 0,.int .i64 0,.int .i64 0,.slice ps ns cq0] 66)→OutMk cs num e w (.returned (.agg #[.slice (some ⟨w2.heap.size,0,none⟩) 1 1,.int .i64 1,.int .i64 1])) (W4.setRow (w.heap.size+1) #[.slice (some ⟨w2.heap.size,0,none⟩) 1 1,.int .i64 1,.int .i64 1])):=fun W4 hW4=>by
  subst hW4;refine⟨_,[(⟨1,0,0,0,rs (mnE e) 1440⟩,.slice ps ns cq0)],by rw[HV.out],InsT.setP ⟨?_,fun u hu=> ?_⟩ n64 _,?_,below_setRow hb4 (by omega) _⟩
  ·exact owns_lit (f:=(⟨1,0,0,0,rs (mnE e) 1440⟩,.slice ps ns cq0)) n4 (Nat.zero_le _)
  ·have eu:u=(⟨1,0,0,0,rs (mnE e) 1440⟩,.slice ps ns cq0):=(by simpa using hu);subst eu;exact hsp4
  ·rw[HCD.out];rfl
 have HO2:=hid5 (HO.out _ rfl);have HF:=hid5 (setRow_heap _ _ _ #[.slice (some ⟨w2.heap.size,0,none⟩) 1 1,.int .i64 1,.int .i64 1] _ _ n64);clear HO hsp4 hb4 n4 HV HCD;generalize hw4:w2.alloc (.cells #[.int .i64 1,.int .i64 0,.int .i64 0,.int .i64 0,.slice ps ns cq0] 66)=w4 at*;go_wp2_with(refine wpList_store_row rfl 62 _ _ rfl _ _ rfl rfl _ _ n64 (by kernel_rfl) (by simp) (by simp[Value.oneCell']) ?_)
 refine bodyPost_ret (v:= .agg #[.slice (some ⟨w2.heap.size,0,none⟩) 1 1,.int .i64 1,.int .i64 1]) ?_ rfl HO2.out;exact results_cell_row rfl _ _ (w.heap.size+1) _ _ _ _ rfl HF.out partT rfl (by kernel_rfl)
end Go.Proofs.YtpmobjgnmidolaaDoor
/- What the document's Make comes to. -/
namespace Go.Proofs.YtpmobjgnmidolaaDoor
open Go.RowKit Lx Vx Msk
theorem code_to (num:List UInt8→Int): ∀(N:Nat) (e:Ex),SizeOf.sizeOf e≤N→OKE e→ ∀(b:Nat) (x:In),x∈codeE num e b→0≤x.to∧x.to≤((b+(codeE num e b).length:Nat):Int)
 |0,e,hN,_,_,_,_=>by cases e;simp at hN
 |N+1,e,hN,h,b,x,hx=>by
  cases hs:stdE e with
  |true=>
   rw[code_std hs]at hx⊢;rw[List.mem_singleton]at hx;subst hx;exact⟨Int.le_refl _,by show(0:Int)≤_;omega⟩
  |false=>
   have ih:=fun(k:Ex) (hk:k∈e.kids)=>code_to num N k (by have:=kid_lt hk;omega) (h.kid hk);rcases code_kinds h hs with⟨hk,k,h0⟩|⟨hk,k,h0⟩|⟨hk,k,h0⟩|hk|⟨hk,k,m,h0⟩
   ·rw[code_week hk (by rw[h0];rfl)]at hx⊢;rw[List.length_cons];rcases List.mem_cons.1 hx with rfl|hx
    ·dsimp only;omega
    ·have:=ih k (by rw[h0];simp) (b+1) x hx;omega
   ·rw[code_dates hk (by rw[h0];rfl)]at hx⊢;rw[List.length_cons];rcases List.mem_cons.1 hx with rfl|hx
    ·dsimp only;omega
    ·have:=ih k (by rw[h0];simp) (b+1) x hx;omega
   ·rw[code_shift hs hk h0]at hx⊢;rw[List.length_append];rcases List.mem_append.1 hx with hx|hx
    ·have:=ih k (by rw[h0];simp) b x hx;omega
    ·rw[List.mem_singleton]at hx;subst hx;exact⟨Int.le_refl _,by show(0:Int)≤_;omega⟩
   ·rw[code_name hk]at hx⊢;rw[List.mem_singleton]at hx;subst hx;exact⟨Int.le_refl _,by show(0:Int)≤_;omega⟩
   ·rw[code_pair hs hk h0]at hx⊢;rw[List.length_append,List.length_append];rcases List.mem_append.1 hx with hx|hx
    ·rcases List.mem_append.1 hx with hx|hx
     ·have:=ih k (by rw[h0];simp) b x hx;omega
     ·have:=ih m (by rw[h0];simp) _ x hx;omega
    ·rw[List.mem_singleton]at hx;subst hx;exact⟨Int.le_refl _,by show(0:Int)≤_;omega⟩
theorem part_bd {cs:List Cd}{num:List UInt8→Int}{k:Ex}(hs:Small cs)(hok:OKE k)(hn:nodE k≤600):(0≤(hsE cs num k).1∧(hsE cs num k).1≤1000000∧0≤(hsE cs num k).2∧(hsE cs num k).2≤1000000000)∧(1≤(codeE num k 0).length∧(codeE num k 0).length≤600)∧ ∀x∈codeE num k 0,0≤x.to∧x.to≤100000:=by
 have a:=hs_bd (num:=num) hs _ k (Nat.le_refl _) hok;have b:=code_len num _ k (Nat.le_refl _) hok 0;refine⟨by omega,by omega,fun x hx=> ?_⟩;have c:=code_to num _ k (Nat.le_refl _) hok 0 x hx;omega
theorem nod_kid {e k:Ex}(hk:k∈e.kids):nodE k≤nodE e:=by
 rw[nodE_eq e]
 have: ∀ks:List Ex,k∈ks→nodE k≤(ks.map nodE).sum:=by
  intro ks;induction ks with
  |nil=>intro h;cases h
  |cons x ks ih=>
   intro h;rw[List.map_cons,List.sum_cons];rcases List.mem_cons.1 h with rfl|h
   ·omega
   ·have:=ih h;omega
 have:=this e.kids hk;omega
set_option maxRecDepth 100000 in
theorem mk_any {us:List (Ru×Value)}{l:List Ru}{cs:List Cd}{G:Nat→Bool}{gq n nl cl:Nat}{pl:Option Addr}(hl:us.map (fun p=>p.1)=l)(hn4:n≤1000)(hsm:Small cs):
  ∀(d:Nat) (e:Ex) (sl:Value) (w:World),MkIn us (.slice pl nl cl) (.slice (some ⟨gq,0,none⟩) n n) gq n cs G w→KidsB (fun k=>k<w.heap.size) d w sl e.kids→OKE e→(∀x∈nms e,0≤atP5 l x∧(atP5 l x).toNat<n∧G (atP5 l x).toNat=true)→nodE e≤600→
  Calls Tryd.prog 21 #[exV e sl,.slice pl nl cl,.slice (some ⟨gq,0,none⟩) n n] w (OutMk cs (atP5 l) e w):=by
 intro d;induction d with
 |zero=>
  intro e sl w hin hk hok hn hnd;have cS:=fun W (hW:Below w.heap.size w W)=>rsteady_any 0 e sl W hk hok;obtain⟨h0,p,c,rfl⟩:=hk;have hlen:e.kids.length=0:=(by rw[h0];rfl);rw[show(Value.slice p 0 c)= .slice p e.kids.length c by rw[hlen]]at cS⊢;cases hs:stdE e with
  |true=>
   rw[hs]at cS;exact mk_std hs cS
  |false=>
   rw[hs]at cS;rcases code_kinds hok hs with⟨_,k,q⟩|⟨_,k,q⟩|⟨_,k,q⟩|hk|⟨_,k,m,q⟩
   ·rw[h0]at q;cases q
   ·rw[h0]at q;cases q
   ·rw[h0]at q;cases q
   ·obtain⟨a,b,hG⟩:=hn e.name (nms_own hk);have c1:=hsm.hi (atP5 l e.name).toNat;have c2:=hsm.st (atP5 l e.name).toNat;exact mk_name (l:=l) (ix:=(atP5 l e.name).toNat) hk rfl hl (by omega) b hn4 cS hG hin (by omega)
   ·rw[h0]at q;cases q
 |succ d ih=>
  intro e sl w hin hk hok hn hnd;have cS:=fun W (hW:Below w.heap.size w W)=>rsteady_any (d+1) e sl W ((hk.kept fun q _ hl=>hW.block q hl).mono fun q hq=>Nat.lt_of_lt_of_le hq hW.size) hok;obtain⟨pe,ce,hsl⟩:=hk.form;subst hsl;cases hs:stdE e with
  |true=>
   rw[hs]at cS;exact mk_std hs cS
  |false=>
   rw[hs]at cS;have kid: ∀k∈e.kids,OKE k∧nodE k≤600∧ ∀x∈nms k,0≤atP5 l x∧(atP5 l x).toNat<n∧G (atP5 l x).toNat=true:=fun k hk=>⟨hok.kid hk,by have:=nod_kid hk;omega,fun x hx=>hn x (nms_kid hk hx)⟩
   rcases hk with⟨h0,_⟩|⟨g,o,c,_,he,_,hkk⟩
   ·rcases code_kinds hok hs with⟨_,k,q⟩|⟨_,k,q⟩|⟨_,k,q⟩|hk|⟨_,k,m,q⟩
    ·rw[h0]at q;cases q
    ·rw[h0]at q;cases q
    ·rw[h0]at q;cases q
    ·obtain⟨a,b,hG⟩:=hn e.name (nms_own hk);have c1:=hsm.hi (atP5 l e.name).toNat;have c2:=hsm.st (atP5 l e.name).toNat;exact mk_name (l:=l) (ix:=(atP5 l e.name).toNat) hk rfl hl (by omega) b hn4 cS hG hin (by omega)
    ·rw[h0]at q;cases q
   ·injection he with he _;subst he
    have part: ∀(j:Nat) (k:Ex),e.kids[j]? =some k→ ∃(pk:Option Addr) (ck:Nat),(w.cell? ⟨g,o+j*5,none⟩=some (.int .i64 k.kind)∧w.cell? ⟨g,o+j*5+1,none⟩=some (.int .i64 k.a)∧w.cell? ⟨g,o+j*5+2,none⟩=some (.int .i64 k.b)∧w.cell? ⟨g,o+j*5+3,none⟩=some (.string ⟨k.name.toArray⟩)∧w.cell? ⟨g,o+j*5+4,none⟩=some (.slice pk k.kids.length ck))∧
      ∀W,Below w.heap.size w W→Calls Tryd.prog 21 #[exV k (.slice pk k.kids.length ck),.slice pl nl cl,.slice (some ⟨gq,0,none⟩) n n] W (OutMk cs (atP5 l) k W):=fun j k hj=>by
     obtain⟨_,sk,c0,c1,c2,c3,c4,r⟩:=hkk j k hj;obtain⟨pk,ck,rfl⟩:=r.form;obtain⟨k1,k2,k3⟩:=kid k (List.mem_of_getElem? hj);exact⟨pk,ck,⟨c0,c1,c2,c3,c4⟩,fun W hW=>ih k _ W (hin.below hW) ((r.kept fun q _ hl=>hW.block q hl).mono fun q hq=>Nat.lt_of_lt_of_le hq hW.size) k1 k3 k2⟩
    rcases code_kinds hok hs with⟨hk,k,q⟩|⟨hk,k,q⟩|⟨hk,k,q⟩|hk|⟨hk,k,m,q⟩
    ·obtain⟨pk,ck,⟨c0,c1,c2,c3,c4⟩,cK⟩:=part 0 k (by rw[q];rfl);obtain⟨k1,k2,_⟩:=kid k (by rw[q];simp);obtain⟨b1,b2,b3⟩:=part_bd (num:=atP5 l) hsm k1 k2;rw[Nat.zero_mul,Nat.add_zero]at c0 c1 c2 c3 c4;exact mk_week hk q hs cS c0 c1 c2 c3 c4 cK k1 b1 b2 b3
    ·obtain⟨pk,ck,⟨c0,c1,c2,c3,c4⟩,cK⟩:=part 0 k (by rw[q];rfl);obtain⟨k1,k2,_⟩:=kid k (by rw[q];simp);obtain⟨b1,b2,b3⟩:=part_bd (num:=atP5 l) hsm k1 k2;rw[Nat.zero_mul,Nat.add_zero]at c0 c1 c2 c3 c4;exact mk_dates hk q hs cS c0 c1 c2 c3 c4 cK k1 b1 b2 b3
    ·obtain⟨pk,ck,⟨c0,c1,c2,c3,c4⟩,cK⟩:=part 0 k (by rw[q];rfl);obtain⟨k1,k2,_⟩:=kid k (by rw[q];simp);obtain⟨b1,b2,b3⟩:=part_bd (num:=atP5 l) hsm k1 k2;rw[Nat.zero_mul,Nat.add_zero]at c0 c1 c2 c3 c4;exact mk_shift hk q hs cS c0 c1 c2 c3 c4 cK b1 b2.2 b3
    ·obtain⟨a,b,hG⟩:=hn e.name (nms_own hk);have c1:=hsm.hi (atP5 l e.name).toNat;have c2:=hsm.st (atP5 l e.name).toNat;exact mk_name (l:=l) (ix:=(atP5 l e.name).toNat) hk rfl hl (by omega) b hn4 cS hG hin (by omega)
    ·obtain⟨pk,ck,⟨c0,c1,c2,c3,c4⟩,cK⟩:=part 0 k (by rw[q];rfl);obtain⟨pm,cm,⟨e0,e1,e2,e3,e4⟩,cM⟩:=part 1 m (by rw[q];rfl);obtain⟨k1,k2,_⟩:=kid k (by rw[q];simp);obtain⟨m1,m2,_⟩:=kid m (by rw[q];simp);obtain⟨b1,b2,b3⟩:=part_bd (num:=atP5 l) hsm k1 k2;obtain⟨b4,b5,b6⟩:=part_bd (num:=atP5 l) hsm m1 m2;rw[Nat.zero_mul,Nat.add_zero]at c0 c1 c2 c3 c4;rw[Nat.one_mul]at e0 e1 e2 e3 e4;exact mk_pair hk q hs m1 cS c0 c1 c2 c3 c4 e0 e1 e2 e3 e4 cK cM b1 b4 b2.2 b5 b3 b6
end Go.Proofs.YtpmobjgnmidolaaDoor
/- The document's Mean, kind by kind. Written by genrm.py. -/
namespace Go.Proofs.YtpmobjgnmidolaaDoor
open Go.RowKit Lx Msk
end Go.Proofs.YtpmobjgnmidolaaDoor
/- What the document's Mean comes to. -/
namespace Go.Proofs.YtpmobjgnmidolaaDoor
open Go.RowKit Lx Msk
end Go.Proofs.YtpmobjgnmidolaaDoor
/- What the document's All comes to. -/
namespace Go.Proofs.YtpmobjgnmidolaaDoor
open Go.RowKit Lx Msk
theorem names_in {l:List Ru}(h:(chkW l).1=0){i:Nat}{u:Ru}(hu:l[i]? =some u){x:List UInt8}(hx:x∈nms u.2):0≤atP5 l x∧(atP5 l x).toNat<l.length:=by
 obtain⟨_,hno⟩:=chk_lk2 h;have hb:=atP5_bd l x
 have hn1:atP5 l x≠ -1:=fun e=>hno u (List.mem_of_getElem? hu) (by
  unfold spkR;exact(spoken_mem _ _).2 (.inr ⟨x,hx,e⟩))
 omega
theorem muR_ltn {l:List Ru}(h:(chkW l).1=0){i:Nat}(hi:i<l.length):muR l i<l.length:=by
 have hnd:((i:Int)::usesL l (i:Int)).Nodup:=List.nodup_cons.2 ⟨fun hm=>(uses_ok h hi hm).2.2 rfl,uses_nodup l _⟩
 have:=nd_len _ ((List.range l.length).map fun k:Nat=>(k:Int)) hnd fun x hx=>by
  rcases List.mem_cons.1 hx with rfl|hx
  ·exact List.mem_map.2 ⟨i,List.mem_range.2 hi,rfl⟩
  ·obtain⟨k,rfl,hk,_⟩:=(uses_mem h hi).1 hx;exact List.mem_map.2 ⟨k,List.mem_range.2 hk,rfl⟩
 simp only[List.length_cons,List.length_map,List.length_range]at this;unfold muR;omega
def updB (K:Nat→Bool)(i:Nat)(b:Bool):Nat→Bool:=fun j=>if j=i then b else K j
theorem bcells_updB {n:Nat}{m:Nat→Bool}{i:Nat}{b:Bool}:(bcells n m).setIfInBounds i (.bool b)=bcells n (updB m i b):=by
 apply Array.ext
 ·simp[bcells]
 ·intro k h1 h2;have hk:k<n:=(by simpa[bcells] using h2);rw[Array.getElem_setIfInBounds (by simpa[bcells] using hk)];by_cases e:i=k
  ·subst e;simp[bcells,updB]
  ·rw[if_neg e];simp[bcells,updB,show k≠i from fun h=>e h.symm]
section
variable {l:List Ru} {V:Nat→Nat→Bool} {t i:Nat} {K:Nat→Bool} {M:Nat→Nat→Bool}
end
section
variable {w W W':World} {n gk gm:Nat} {K:Nat→Bool} {M:Nat→Nat→Bool}
end
end Go.Proofs.YtpmobjgnmidolaaDoor
/- What is known while the document compiles, rule by rule. -/
namespace Go.Proofs.YtpmobjgnmidolaaDoor
open Go.RowKit Lx Vx Msk
theorem cfst_some {m:Nat→Int×Int}: ∀(k j i:Nat),j≤i→i<j+k→(∀q,j≤q→q<i→much (m q)=false)→much (m i)=true→fstM m k j=(i:Int)
 |0,j,i,h1,h2,_,_=>by omega
 |k+1,j,i,h1,h2,ha,hm=>by
  simp only[fstM];by_cases e:j=i
  ·subst e;rw[if_pos hm]
  ·rw[if_neg (by rw[ha j (Nat.le_refl _) (by omega)];simp)];exact cfst_some k (j+1) i (by omega) (by omega) (fun q h1 h2=>ha q (by omega) h2) hm
theorem cfst_none {m:Nat→Int×Int}: ∀(k j:Nat),(∀q,j≤q→q<j+k→much (m q)=false)→fstM m k j= -1
 |0,j,_=>rfl
 |k+1,j,ha=>by
  simp only[fstM];rw[if_neg (by rw[ha j (Nat.le_refl _) (by omega)];simp)];exact cfst_none k (j+1) fun q h1 h2=>ha q (by omega) (by omega)
section
variable {l:List Ru}
theorem reach_lead (hc:(chkW l).1=0){i k:Nat}(hi:i<l.length)(hk:k∈leadS l i):k<l.length∧Lx.wars (edgE l) l.length i k=true:=by
 obtain⟨h0,hno⟩:=chk_lk2 hc;have hkl:=leadS_lt hno i k hk;refine⟨hkl,?_⟩;rw[reach_same h0 hno hi hkl];exact(fol_way (leadS_lt hno) (Nat.le_refl _)).2 (.single (List.contains_iff_mem.2 hk))
theorem reach_way (hc:(chkW l).1=0){i k:Nat}(hi:i<l.length)(hk:k<l.length)(h:Lx.wars (edgE l) l.length i k=true):Relation.TransGen (fun a b=>(leadS l a).contains b=true) i k:=by
 obtain⟨h0,hno⟩:=chk_lk2 hc;rw[reach_same h0 hno hi hk]at h;exact(fol_way (leadS_lt hno) (Nat.le_refl _)).1 h
theorem way_mu (hc:(chkW l).1=0){i k:Nat}(hi:i<l.length)(h:Relation.TransGen (fun a b=>(leadS l a).contains b=true) i k):k<l.length∧muR l k<muR l i:=by
 have hno:=(chk_lk2 hc).2;induction h with
 |single h=>
  have hm:=List.contains_iff_mem.1 h;exact⟨leadS_lt hno i _ hm,muR_lt hc hi hm⟩
 |tail _ h ih=>
  have hm:=List.contains_iff_mem.1 h;exact⟨leadS_lt hno _ _ hm,Nat.lt_trans (muR_lt hc ih.1 hm) ih.2⟩
def rdyE (R:Nat→Nat→Bool)(dn:Nat→Bool)(i j:Nat):Bool:= !dn i&&(List.range j).all fun k=> !R i k||dn k
def mchE (R:Nat→Nat→Bool)(bd:Nat→Bool)(i j:Nat):Bool:=(List.range j).any fun k=>R i k&&bd k
theorem rdy_next (R:Nat→Nat→Bool)(dn:Nat→Bool)(i j:Nat):rdyE R dn i (j+1)=(rdyE R dn i j&&(!R i j||dn j)):=by
 unfold rdyE;rw[List.range_succ,List.all_append,Bool.and_assoc];simp
theorem mch_next (R:Nat→Nat→Bool)(bd:Nat→Bool)(i j:Nat):mchE R bd i (j+1)=(mchE R bd i j||(R i j&&bd j)):=by
 unfold mchE;rw[List.range_succ,List.any_append];simp
structure CInv (l:List Ru)(t i:Nat)(dn bd:Nat→Bool):Prop where
 bad: ∀k,k<l.length→dn k=true→bd k=much (cmpM l k)
 past: ∀j,j<l.length→muR l j<t→dn j=true
 now: ∀j,j<i→j<l.length→muR l j≤t→dn j=true
variable {t i:Nat} {dn bd:Nat→Bool}
theorem CInv.begin (l:List Ru):CInv l 0 0 (fun _=>false) (fun _=>false):=⟨fun _ _ h=>(by cases h),fun _ _ h=>(by omega),fun _ h=>(by omega)⟩
theorem CInv.round {n:Nat}(h:CInv l t n dn bd)(hn:l.length=n):CInv l (t+1) 0 dn bd:=⟨h.bad,fun j hj hm=>h.now j (by omega) hj (by omega),fun _ hj=>by omega⟩
theorem CInv.skip (h:CInv l t i dn bd)(hc:(chkW l).1=0)(hi:i<l.length)(hr:rdyE (Lx.wars (edgE l) l.length) dn i l.length=false):CInv l t (i+1) dn bd:=by
 refine⟨h.bad,h.past,fun j hj hl hm=> ?_⟩;by_cases e:j=i
 ·subst e;cases hd:dn j with
  |true=>rfl
  |false=>
   exfalso
   have:rdyE (Lx.wars (edgE l) l.length) dn j l.length=true:=by
    unfold rdyE;rw[hd,Bool.not_false,Bool.true_and,List.all_eq_true];intro k hk;cases hw:Lx.wars (edgE l) l.length j k with
    |false=>rfl
    |true=>
     have hkl:=List.mem_range.1 hk;rw[h.past k hkl (Nat.lt_of_lt_of_le (way_mu hc hl (reach_way hc hl hkl hw)).2 hm)];rfl
   rw[this]at hr;cases hr
 ·exact h.now j (by omega) hl hm
theorem CInv.put (h:CInv l t i dn bd)(hd:dn i=false){b:Bool}(hb:b=much (cmpM l i)):CInv l t (i+1) (updB dn i true) (updB bd i b):=by
 have hk: ∀j,dn j=true→updB dn i true j=true:=fun j hj=>by
  unfold updB;split
  ·rfl
  ·exact hj
 refine⟨fun k hk' hd'=> ?_,fun j hj hm=>hk j (h.past j hj hm),fun j hj hjl hm=> ?_⟩
 ·unfold updB at hd'⊢;by_cases e:k=i
  ·subst e;rw[if_pos rfl];exact hb
  ·rw[if_neg e]at hd'⊢;exact h.bad k hk' hd'
 ·by_cases e:j=i
  ·subst e;unfold updB;rw[if_pos rfl]
  ·exact hk j (h.now j (by omega) hjl hm)
theorem rdy_not {R:Nat→Nat→Bool}{n:Nat}(h:rdyE R dn i n=true):dn i=false:=by
 unfold rdyE at h;rw[Bool.and_eq_true]at h;simpa using h.1
theorem rdy_all {R:Nat→Nat→Bool}{n k:Nat}(h:rdyE R dn i n=true)(hk:k<n)(hR:R i k=true):dn k=true:=by
 unfold rdyE at h;rw[Bool.and_eq_true,List.all_eq_true]at h;have:=h.2 k (List.mem_range.2 hk);rw[hR]at this;simpa using this
theorem CInv.much (h:CInv l t i dn bd)(hc:(chkW l).1=0)(hi:i<l.length)(hr:rdyE (Lx.wars (edgE l) l.length) dn i l.length=true)(hm:mchE (Lx.wars (edgE l) l.length) bd i l.length=true):much (cmpM l i)=true:=by
 unfold mchE at hm;obtain⟨k,hk,hq⟩:=List.any_eq_true.1 hm;rw[Bool.and_eq_true]at hq;have hkl:=List.mem_range.1 hk;have h1:=h.bad k hkl (rdy_all hr hkl hq.1);rw[hq.2]at h1;exact much_way hc hi (reach_way hc hi hkl hq.1) h1.symm
theorem rdy_names (hc:(chkW l).1=0){u:Ru}(hu:l[i]? =some u)(hr:rdyE (Lx.wars (edgE l) l.length) dn i l.length=true)(hm:mchE (Lx.wars (edgE l) l.length) bd i l.length=false){x:List UInt8}(hx:x∈nms u.2):(dn (atP5 l x).toNat&& !bd (atP5 l x).toNat)=true:=by
 have hi:i<l.length:=(List.getElem?_eq_some_iff.1 hu).1;obtain⟨h1,h2⟩:=reach_lead hc hi (lead_of_name hc hu hx);rw[rdy_all hr h1 h2,Bool.true_and];cases hb:bd (atP5 l x).toNat with
 |false=>rfl
 |true=>
  have:mchE (Lx.wars (edgE l) l.length) bd i l.length=true:=by
   unfold mchE;exact List.any_eq_true.2 ⟨_,List.mem_range.2 h1,by rw[h2,hb];rfl⟩
  rw[this]at hm;cases hm
end
end Go.Proofs.YtpmobjgnmidolaaDoor
/- What lies in memory while the document compiles. -/
namespace Go.Proofs.YtpmobjgnmidolaaDoor
open Go.RowKit Lx Vx Msk
theorem Laid.below {l:List Ru}{w w':World}{sv:Nat→Value}{Ss:Nat→List (In×Value)}{k:Nat}(h:Laid l w sv Ss k)(hb:Below w.heap.size w w'):Laid l w' sv Ss k:=⟨h.1.below hb,h.2.1,fun u hu=>(h.2.2 u hu).below hb⟩
theorem Laid.bools {l:List Ru}{w w':World}{sv:Nat→Value}{Ss:Nat→List (In×Value)}{k g:Nat}{c:Array Value}(h:Laid l w sv Ss k)(hg:w.heap[g]? =some (.cells c 4 (0,0)))(hk:Kept g w w'):Laid l w' sv Ss k:=by
 refine⟨World.ownsRow.kept h.1 (row:=some g) hk (.inr fun e=>own_neI h.1 hg (by decide) e.symm),h.2.1,fun u hu=> ?_⟩;rcases h.2.2 u hu with h|⟨g',c',cur,e,hl,hx,h4⟩
 ·exact .inl h
 ·refine .inr ⟨g',c',cur,e,hl,(hk.block g' (lt_of_block hx) (fun q=> ?_)).trans hx,h4⟩;have q':g'=g:=Option.some.inj q;subst q';rw[hx]at hg;injection hg with hb;injection hb with _ h2 _;exact absurd h2 (by decide)
structure CSt (l:List Ru)(w:World)(n gq gd gb:Nat)(dn bd G:Nat→Bool)(W:World):Prop where
 bel:Below w.heap.size w W
 out: ∃(sv:Nat→Value) (Ss:Nat→List (In×Value)) (H T:Nat→Int),MeSt gq n sv H T W∧ ∀k,k<n→G k=true→Laid l W sv Ss k∧H k=(cmpM l k).1∧T k=(cmpM l k).2
 done:W.heap[gd]? =some (.cells (bcells n dn) 4 (0,0))
 bads:W.heap[gb]? =some (.cells (bcells n bd) 4 (0,0))
 lo:w.heap.size≤gq∧w.heap.size≤gd∧w.heap.size≤gb
 ne:gd≠gb
section
variable {l:List Ru} {w W W':World} {n gq gd gb:Nat} {dn bd G:Nat→Bool}
theorem CSt.later (h:CSt l w n gq gd gb dn bd G W)(hb:Below W.heap.size W W'):CSt l w n gq gd gb dn bd G W':=by
 obtain⟨sv,Ss,H,T,hm,hl⟩:=h.out;exact⟨h.bel.trans (hb.mono h.bel.size),⟨sv,Ss,H,T,hm.below hb,fun k hk hG=>⟨(hl k hk hG).1.below hb,(hl k hk hG).2⟩⟩,(hb.block _ (lt_of_block h.done)).trans h.done,(hb.block _ (lt_of_block h.bads)).trans h.bads,h.lo,h.ne⟩
theorem meSt_ne {sv:Nat→Value}{H T:Nat→Int}{g:Nat}{c:Array Value}{ty:TypeId}(hm:MeSt gq n sv H T W)(hg:W.heap[g]? =some (.cells c ty (0,0)))(ht:ty≠42):gq≠g:=fun e=>by
 obtain⟨cur,h1,_⟩:=hm;subst e;rw[h1]at hg;injection hg with hb;injection hb with _ h2 _;exact ht h2.symm
theorem CSt.markD (h:CSt l w n gq gd gb dn bd G W)(i:Nat)(b:Bool):CSt l w n gq gd gb (updB dn i b) bd G (W.setCell ⟨gd,i,none⟩ (.bool b)):=by
 obtain⟨sv,Ss,H,T,hm,hl⟩:=h.out;have ho: ∀q,q≠gd→(W.setCell ⟨gd,i,none⟩ (.bool b)).heap[q]? =W.heap[q]? :=fun q hq=>heap_setCell_other W ⟨gd,i,none⟩ q _ hq;refine⟨h.bel.setCell h.lo.2.1 _,⟨sv,Ss,H,T,hm.same (ho _ (meSt_ne hm h.done (by decide))),fun k hk hG=>⟨(hl k hk hG).1.bools h.done (kept_set _ _ _ _),(hl k hk hG).2⟩⟩,?_,(ho _ (fun e=>h.ne e.symm)).trans h.bads,h.lo,h.ne⟩;rw[←bcells_updB];exact heap_setCell_same W gd i _ _ _ h.done
theorem CSt.markB (h:CSt l w n gq gd gb dn bd G W)(i:Nat)(b:Bool):CSt l w n gq gd gb dn (updB bd i b) G (W.setCell ⟨gb,i,none⟩ (.bool b)):=by
 obtain⟨sv,Ss,H,T,hm,hl⟩:=h.out;have ho: ∀q,q≠gb→(W.setCell ⟨gb,i,none⟩ (.bool b)).heap[q]? =W.heap[q]? :=fun q hq=>heap_setCell_other W ⟨gb,i,none⟩ q _ hq;refine⟨h.bel.setCell h.lo.2.2 _,⟨sv,Ss,H,T,hm.same (ho _ (meSt_ne hm h.bads (by decide))),fun k hk hG=>⟨(hl k hk hG).1.bools h.bads (kept_set _ _ _ _),(hl k hk hG).2⟩⟩,(ho _ h.ne).trans h.done,?_,h.lo,h.ne⟩;rw[←bcells_updB];exact heap_setCell_same W gb i _ _ _ h.bads
theorem CSt.weak {G':Nat→Bool}(h:CSt l w n gq gd gb dn bd G W)(hG: ∀k,k<n→G' k=true→G k=true):CSt l w n gq gd gb dn bd G' W:=by
 obtain⟨sv,Ss,H,T,hm,hl⟩:=h.out;exact⟨h.bel,⟨sv,Ss,H,T,hm,fun k hk hG'=>hl k hk (hG k hk hG')⟩,h.done,h.bads,h.lo,h.ne⟩
theorem CSt.put {G':Nat→Bool}{i:Nat}{slv:Value}{xs:List (In×Value)}{hh tt:Int}(h:CSt l w n gq gd gb dn bd G W)(hi:i<n)(hT:InsT W slv xs)(hx:xs.map (fun x=>x.1)=(codeL l).getD i [])
  (hG: ∀k,k≠i→G' k=true→G k=true) (hv:G' i=true→hh=(cmpM l i).1∧tt=(cmpM l i).2):CSt l w n gq gd gb dn bd G' (W.setCells gq (i*3) [slv,.int .i64 hh,.int .i64 tt]):=by
 obtain⟨sv,Ss,H,T,hm,hl⟩:=h.out;have ho: ∀q,q≠gq→(W.setCells gq (i*3) [slv,.int .i64 hh,.int .i64 tt]).heap[q]? =W.heap[q]? :=fun q hq=>heap_setCells_other gq _ _ W q hq;have hk:Kept gq W (W.setCells gq (i*3) [slv,.int .i64 hh,.int .i64 tt]):=((kept_set W gq (i*3) slv).trans (kept_set _ gq (i*3+1) (.int .i64 hh))).trans (kept_set _ gq (i*3+1+1) (.int .i64 tt));have hm':MeSt gq n (upV sv i slv) (upI H i hh) (upI T i tt) (W.setCells gq (i*3) [slv,.int .i64 hh,.int .i64 tt]):=((hm.setV slv hi).setH hh hi).setT tt hi;refine⟨below_setCellsM gq h.lo.1 _ _ _ h.bel,⟨_,upS Ss i xs,_,_,hm',fun k hk' hG'=> ?_⟩,(ho _ (fun e=>meSt_ne hm h.done (by decide) e.symm)).trans h.done,(ho _ (fun e=>meSt_ne hm h.bads (by decide) e.symm)).trans h.bads,h.lo,h.ne⟩;by_cases e:k=i
 ·subst e
  have h1:Laid l W (upV sv k slv) (upS Ss k xs) k:=by
   unfold Laid;rw[upV_at,upS_at];exact⟨hT.q,hx,hT.sp⟩
  refine⟨h1.kept hm hk,?_⟩;unfold upI;rw[if_pos rfl,if_pos rfl];exact hv hG'
 ·obtain⟨h1,h2⟩:=hl k hk' (hG k e hG');refine⟨(h1.kept hm hk).ext (upV_ne _ _ e) (upS_ne _ _ e),?_⟩;unfold upI;rw[if_neg e,if_neg e];exact h2
theorem CSt.there (h:CSt l w n gq gd gb dn bd G W){i:Nat}(hi:i<n):W.there gq (i*3) 3:=fun j hj=>by
 obtain⟨sv,Ss,H,T,hm,_⟩:=h.out;obtain⟨c0,c1,c2,_,_⟩:=hm.cells hi;refine⟨?_,hm.frozen _⟩;match j,hj with
 |0,_=>exact Option.isSome_iff_exists.2 ⟨_,c0⟩
 |1,_=>exact Option.isSome_iff_exists.2 ⟨_,c1⟩
 |2,_=>exact Option.isSome_iff_exists.2 ⟨_,c2⟩
theorem CSt.mkIn {us:List (Ru×Value)}{lv:Value}(h:CSt l w n gq gd gb dn bd G W)(hn:l.length=n)(hr:InR W lv us):MkIn us lv (.slice (some ⟨gq,0,none⟩) n n) gq n (cmpL l) G W:=by
 obtain⟨sv,Ss,H,T,hm,hl⟩:=h.out;refine⟨hr,rfl,fun k hk hG=> ?_,fun k hk hG=> ?_⟩
 ·rw[cmpL_getD (by omega),(hm.cells hk).2.1,(hl k hk hG).2.1]
 ·rw[cmpL_getD (by omega),(hm.cells hk).2.2.1,(hl k hk hG).2.2]
theorem CSt.fin (h:CSt l w n gq gd gb dn bd G W)(hn:l.length=n)(h40:n≤40)(hc:(chkW l).1=0)(hG: ∀k,k<n→G k=true){g:Nat}{c:Array Value}(hg:W.heap[g]? =some (.cells c 26 (0,0)))(xs:Array Value):InV (W.setRow g xs) (.slice (some ⟨gq,0,none⟩) n n) (cmpL l):=by
 obtain⟨sv,Ss,H,T,hm,hl⟩:=h.out
 have hL: ∀k,k<n→1≤(Ss k).length∧(Ss k).length≤700:=fun k hk=>by
  have h1:=congrArg List.length (hl k hk (hG k hk)).1.2.1;rw[List.length_map]at h1;have h2:=codeL_bd hc (i:=k) (by omega);omega
 exact inV_own (by rw[codeL_len];exact hn.symm) (by omega) ((hm.congr fun k hk=>(hl k hk (hG k hk)).2).same (setRow_other W g gq xs (meSt_ne hm hg (by decide)))) (fun k hk=>(hl k hk (hG k hk)).1.1.set hg xs) hL (fun k hk u hu=>((hl k hk (hG k hk)).1.2.2 u hu).set hg xs) (fun k hk=>(hl k hk (hG k hk)).1.2.1)
theorem CSt.begin (hb:Below w.heap.size w W)(h1:w.heap.size≤gq)(k1:W.heap[gq]? =some (.cells (zcodes n) 42 (0,0)))(h2:w.heap.size≤gd)(k2:W.heap[gd]? =some (.cells (bcells n fun _=>false) 4 (0,0)))(h3:w.heap.size≤gb)(k3:W.heap[gb]? =some (.cells (bcells n fun _=>false) 4 (0,0)))(hne:gd≠gb):CSt l w n gq gd gb (fun _=>false) (fun _=>false) (fun _=>false) W:=
 ⟨hb,⟨_,fun _=>[],_,_,MeSt.made k1,fun _ _ h=>by cases h⟩,k2,k3,⟨h1,h2,h3⟩,hne⟩
end
end Go.Proofs.YtpmobjgnmidolaaDoor
