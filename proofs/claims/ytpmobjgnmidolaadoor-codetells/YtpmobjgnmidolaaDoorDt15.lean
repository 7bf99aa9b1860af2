/- The code of rules in memory, while it is measured. -/
import Derived.Test.YtpmobjgnmidolaaDoorDt11
import Derived.Test.YtpmobjgnmidolaaDoorDt14
import Derived.Test.YtpmobjgnmidolaaDoorDt05
namespace Go.Proofs.YtpmobjgnmidolaaDoor
open Go.RowKit Lx Vx Msk
def upI (f:Nat→Int)(i:Nat)(v:Int):Nat→Int:=fun k=>if k=i then v else f k
theorem upI_at (f:Nat→Int)(i:Nat)(v:Int):upI f i v i=v:=by unfold upI;rw[if_pos rfl]
theorem upI_ne (f:Nat→Int){i k:Nat}(v:Int)(h:k≠i):upI f i v k=f k:=by unfold upI;rw[if_neg h]
def MeSt (go n:Nat)(sv:Nat→Value)(H T:Nat→Int)(w:World):Prop:= ∃cur:Array Value,w.heap[go]? =some (.cells cur 42 (0,0))∧cur.size=n*3∧ ∀i,i<n→cur[i*3]? =some (sv i)∧cur[i*3+1]? =some (.int .i64 (H i))∧cur[i*3+2]? =some (.int .i64 (T i))
section
variable {go n:Nat} {sv:Nat→Value} {H T:Nat→Int} {w w':World}
theorem MeSt.cells (h:MeSt go n sv H T w){i:Nat}(hi:i<n):w.cell? ⟨go,i*3,none⟩=some (sv i)∧w.cell? ⟨go,i*3+1,none⟩=some (.int .i64 (H i))∧w.cell? ⟨go,i*3+2,none⟩=some (.int .i64 (T i))∧w.frozen? ⟨go,i*3+1,none⟩=false∧w.frozen? ⟨go,i*3+2,none⟩=false:=by
 obtain⟨cur,hg,_,hc⟩:=h;obtain⟨c0,c1,c2⟩:=hc i hi;exact⟨(cell_of_row _ _ _ _ _ _ hg).trans c0,(cell_of_row _ _ _ _ _ _ hg).trans c1,(cell_of_row _ _ _ _ _ _ hg).trans c2,frozen_of_row _ _ _ _ _ hg,frozen_of_row _ _ _ _ _ hg⟩
theorem MeSt.lt (h:MeSt go n sv H T w):go<w.heap.size:=by
 obtain⟨cur,hg,_⟩:=h;exact lt_of_block hg
theorem MeSt.same (h:MeSt go n sv H T w)(e:w'.heap[go]? =w.heap[go]?):MeSt go n sv H T w':=by
 obtain⟨cur,hg,r⟩:=h;exact⟨cur,e.trans hg,r⟩
theorem MeSt.below (h:MeSt go n sv H T w)(hb:Below w.heap.size w w'):MeSt go n sv H T w':=h.same (hb.block _ h.lt)
theorem MeSt.setH (h:MeSt go n sv H T w){i:Nat}(v:Int)(hi:i<n):MeSt go n sv (upI H i v) T (w.setCell ⟨go,i*3+1,none⟩ (.int .i64 v)):=by
 obtain⟨cur,hg,hs,hc⟩:=h;refine⟨_,heap_setCell_same w go (i*3+1) _ _ _ hg,by rw[Array.size_setIfInBounds];exact hs,fun k hk=> ?_⟩;obtain⟨c0,c1,c2⟩:=hc k hk;refine⟨?_,?_,?_⟩
 ·rw[Array.getElem?_setIfInBounds_ne (by omega)];exact c0
 ·by_cases e:k=i
  ·subst e;rw[upI_at,Array.getElem?_setIfInBounds_self_of_lt (by omega)]
  ·rw[upI_ne _ _ e,Array.getElem?_setIfInBounds_ne (by omega)];exact c1
 ·rw[Array.getElem?_setIfInBounds_ne (by omega)];exact c2
theorem MeSt.setT (h:MeSt go n sv H T w){i:Nat}(v:Int)(hi:i<n):MeSt go n sv H (upI T i v) (w.setCell ⟨go,i*3+2,none⟩ (.int .i64 v)):=by
 obtain⟨cur,hg,hs,hc⟩:=h;refine⟨_,heap_setCell_same w go (i*3+2) _ _ _ hg,by rw[Array.size_setIfInBounds];exact hs,fun k hk=> ?_⟩;obtain⟨c0,c1,c2⟩:=hc k hk;refine⟨?_,?_,?_⟩
 ·rw[Array.getElem?_setIfInBounds_ne (by omega)];exact c0
 ·rw[Array.getElem?_setIfInBounds_ne (by omega)];exact c1
 ·by_cases e:k=i
  ·subst e;rw[upI_at,Array.getElem?_setIfInBounds_self_of_lt (by omega)]
  ·rw[upI_ne _ _ e,Array.getElem?_setIfInBounds_ne (by omega)];exact c2
end
theorem kept_set (w:World)(g i:Nat)(v:Value):Kept g w (w.setCell ⟨g,i,none⟩ v):=Kept.set w g i v
def InsQ (w:World)(v:Value)(S:List (In×Value)):Prop:=w.ownsRow 0 66 5 v S.length (flatI S)
theorem InsQ.below {w w':World}{v:Value}{S:List (In×Value)}(h:InsQ w v S)(hb:Below w.heap.size w w'):InsQ w' v S:=own_below h hb
theorem InsQ.kept {w w':World}{v:Value}{S:List (In×Value)}{go n:Nat}{sv:Nat→Value}{H T:Nat→Int}(h:InsQ w v S)(hm:MeSt go n sv H T w)(hk:Kept go w w'):InsQ w' v S:=by
 obtain⟨cur,hg,_⟩:=hm;exact World.ownsRow.kept h hk (.inr fun e=>own_neI h hg (by decide) e.symm)
theorem InsQ.form {w:World}{v:Value}{S:List (In×Value)}(h:InsQ w v S)(h1:1≤S.length): ∃g c,v= .slice (some ⟨g,0,none⟩) S.length c∧ ∀(j:Nat) (u:In×Value),S[j]? =some u→
  w.cell? ⟨g,j*5,none⟩=some (.int .i64 u.1.op)∧w.cell? ⟨g,j*5+1,none⟩=some (.int .i64 u.1.a)∧w.cell? ⟨g,j*5+2,none⟩=some (.int .i64 u.1.b)∧w.cell? ⟨g,j*5+3,none⟩=some (.int .i64 u.1.to)∧w.cell? ⟨g,j*5+4,none⟩=some u.2:=by
 rcases h.2 with⟨_,e⟩|⟨g,cap,cur,e,_,hg,_,_,_,hx⟩
 ·omega
 ·refine⟨g,cap,e,fun j u hj=> ?_⟩;have hjl:=(List.getElem?_eq_some_iff.1 hj).1
  have key: ∀(i:Nat) (v:Value),i<5→(iv u).toList[i]? =some v→w.cell? ⟨g,j*5+i,none⟩=some v:=fun i v hi hv=>by
   refine(cell_of_row _ _ _ _ _ _ hg).trans ?_;have e1:(cur.toList.take (S.length*5))[j*5+i]? =(flatI S)[j*5+i]? :=(by rw[hx]);rw[List.getElem?_take_of_lt (by omega)]at e1;rw[←Array.getElem?_toList,e1]
   have e2:S=S.take j++(u::S.drop (j+1)):=by
    conv=>lhs;rw[←List.take_append_drop j S]
    congr 1;rw[List.drop_eq_getElem_cons hjl,(List.getElem?_eq_some_iff.1 hj).2]
   rw[e2,flatI_append,List.getElem?_append_right (by rw[flatI_len,List.length_take];omega),flatI_len,List.length_take,Nat.min_eq_left (by omega),Nat.add_sub_cancel_left];show((iv u).toList++flatI (S.drop (j+1)))[i]? =_;rw[List.getElem?_append_left (by rw[ivl_len];exact hi)];exact hv
  exact⟨key 0 _ (by omega) rfl,key 1 _ (by omega) rfl,key 2 _ (by omega) rfl,key 3 _ (by omega) rfl,key 4 _ (by omega) rfl⟩
def Me (mea:Nat→Int×Int)(H T:Nat→Int)(k:Nat):Prop:=H k=(mea k).1∧T k=(mea k).2
def Okm (mea:Nat→Int×Int)(H T:Nat→Int)(k:Nat):Prop:=(H k=0∧T k=0)∨Me mea H T k
def Rest (mea:Nat→Int×Int)(ρ:Nat→Nat)(n i:Nat)(H0 T0 H T:Nat→Int):Prop:= ∀k,k<n→k≠i→(ρ k≤ρ i→Okm mea H T k∧(Me mea H0 T0 k→Me mea H T k))∧(ρ i<ρ k→H k=H0 k∧T k=T0 k)
section
variable {mea:Nat→Int×Int} {ρ:Nat→Nat} {n i k0:Nat} {H0 T0 H T H' T':Nat→Int}
theorem Rest.refl (h: ∀k,k<n→ρ k≤ρ i→Okm mea H0 T0 k):Rest mea ρ n i H0 T0 H0 T0:=fun k hk _=>⟨fun hr=>⟨h k hk hr,id⟩,fun _=>⟨rfl,rfl⟩⟩
theorem Rest.setH (h:Rest mea ρ n i H0 T0 H T)(v:Int):Rest mea ρ n i H0 T0 (upI H i v) T:=fun k hk hne=>by
 have:=h k hk hne;unfold Okm Me at this⊢;rw[upI_ne _ _ hne];exact this
theorem Rest.setT (h:Rest mea ρ n i H0 T0 H T)(v:Int):Rest mea ρ n i H0 T0 H (upI T i v):=fun k hk hne=>by
 have:=h k hk hne;unfold Okm Me at this⊢;rw[upI_ne _ _ hne];exact this
theorem Rest.pre (h:Rest mea ρ n i H0 T0 H T)(hr:ρ k0<ρ i): ∀k,k<n→ρ k≤ρ k0→Okm mea H T k:=fun k hk hk0=>((h k hk (fun e=>by subst e;omega)).1 (by omega)).1
theorem Rest.call (h:Rest mea ρ n i H0 T0 H T)(hr:ρ k0<ρ i)(hi:i<n)(hm:Me mea H' T' k0)(h':Rest mea ρ n k0 H T H' T'):Rest mea ρ n i H0 T0 H' T'∧H' i=H i∧T' i=T i:=by
 refine⟨fun k hk hne=>⟨fun hri=> ?_,fun hri=> ?_⟩,(h' i hi (fun e=>by subst e;omega)).2 hr⟩
 ·by_cases e:k=k0
  ·subst e;exact⟨.inr hm,fun _=>hm⟩
  ·have a:=(h k hk hne).1 hri;by_cases hle:ρ k≤ρ k0
   ·have b:=(h' k hk e).1 hle;exact⟨b.1,fun q=>b.2 (a.2 q)⟩
   ·have b:=(h' k hk e).2 (by omega);unfold Okm Me at a⊢;rw[b.1,b.2];exact a
 ·have e:k≠k0:=fun e=>by subst e;omega
  have a:=(h k hk hne).2 hri;have b:=(h' k hk e).2 (by omega);exact⟨b.1.trans a.1,b.2.trans a.2⟩
end
def OutM (mea:Nat→Int×Int)(ρ:Nat→Nat)(go n:Nat)(sv:Nat→Value)(i:Nat)(H0 T0:Nat→Int)(w:World)(r:Ending)(w':World):Prop:=r= .returned (.agg #[sv i,.int .i64 (mea i).1,.int .i64 (mea i).2])∧ ∃H' T',MeSt go n sv H' T' w'∧Me mea H' T' i∧Rest mea ρ n i H0 T0 H' T'∧Kept go w w'
theorem codeType7:Tryd.prog.underlying 42=some (.struct (Tryd.prog.fieldsOf 42)):=by kernel_rfl
end Go.Proofs.YtpmobjgnmidolaaDoor
