/- A region that draws its order, whose values and world are told by sayings that hang on what has been done; the last operation waits for all. It speaks of no program. -/
import Derived.Test.YtpmobjgnmidolaaDoorDt03
import Derived.Test.YtpmobjgnmidolaaDoorDt02
import Derived.ChangeKeysEq
import Derived.Laws.StructEq
import Derived.Deep.AppendSrc
import Derived.Test.YtpmobjgnmidolaaDoorDt01
namespace Go.Proofs.YtpmobjgnmidolaaDoor
open Go Go.RowKit
section
variable {P:Program} {ops:Array Oper} {Q:Exit→Act→World→Prop} {id:Nat} {a0:Act} {w:World}
def StepR (P:Program)(ops:Array Oper)(Q:Exit→Act→World→Prop)(sl:List Nat)(a0:Act)(J:(Nat→Bool)→World→Prop)(sp:(Nat→Bool)→Nat→Value→World→Prop):Prop:=
 ∀(i s:Nat) (o:Oper) (L:Nat→Bool) (A:Act) (W:World),ops[i]? =some o→sl[i]? =some s→L i=false→(∀e∈o.after,Region.binds .any e=true→L e.on=true)→ClosL ops L→J L W→
  (∀s,notDst ops s=true→A.tmps.getD s undef=a0.tmps.getD s undef)→(∀(j s:Nat),sl[j]? =some s→L j=true→sp L j (A.tmps.getD s undef) W)→
  wpOp P ops Q i (fun a' W'=> ∃v,a'=A.put (some s) v∧sp (fun k=>decide (i=k)||L k) i v W'∧J (fun k=>decide (i=k)||L k) W'∧ ∀j u,j≠i→j<sl.length→L j=true→sp L j u W→sp (fun k=>decide (i=k)||L k) j u W') A W
theorem wp_region_lastR (J:(Nat→Bool)→World→Prop)(sp:(Nat→Bool)→Nat→Value→World→Prop)(hJ0: ∀L:Nat→Bool,(∀i,i<ops.size→L i=false)→J L w.drew)(hm:P.follows .mixedOrders=true)(hback:backB ops=true)(hdst:dstB ops=true)(hin:inB ops a0.tmps.size=true)(n:Nat)(hn:ops.size=n+1)(huse:useB ops=true)(sl:List Nat)
  (hds:(ops.toList.take n).map (fun o=>o.dst)=sl.map some) (hnd:decide (((ops.toList.take n).map (fun o=>o.dst)).Nodup)=true)
  (hstep:StepR P ops Q sl a0 J sp) (hlast: ∀(o:Oper) (L:Nat→Bool) (W:World) (A:Act),ops[n]? =some o→(∀i,i<n→L i=true)→J L W→(∀(j s:Nat),sl[j]? =some s→sp L j (A.tmps.getD s undef) W)→(∀s,notDst ops s=true→A.tmps.getD s undef=a0.tmps.getD s undef)→
   (∀ds:List (Nat×Value),ds.map (fun p=>p.1)=sl→(∀(j s:Nat) (v:Value),ds[j]? =some (s,v)→A.tmps.getD s undef=v)→A=putAll ds a0)→
   wpOp P ops Q n (fun a' W'=>(∃v,a'=A.put o.dst v)∧Q .normal a' W') A W):(Code.region id ops true).wp P Q a0 w:=by
 have hnd':(sl.map some).Nodup:=by rw[←hds];exact of_decide_eq_true hnd
 have hl:sl.length=n:=by
  have h:=congrArg List.length hds;simp only[List.length_map,List.length_take,Array.length_toList]at h;omega
 have atD: ∀{j:Nat} {p:Oper},j<n→ops[j]? =some p→ ∃s,sl[j]? =some s∧p.dst=some s:=fun {j p} hj hp=>by
  have h1:((ops.toList.take n).map (fun o=>o.dst))[j]? =some p.dst:=by
   rw[List.getElem?_map,List.getElem?_take_of_lt hj,Array.getElem?_toList,hp];rfl
  rw[hds,List.getElem?_map]at h1;cases hs:sl[j]? with
  |none=>rw[hs]at h1;cases h1
  |some s=>
   rw[hs]at h1;exact⟨s,rfl,(Option.some.inj h1).symm⟩
 have slNe: ∀{j k s t:Nat},sl[j]? =some s→sl[k]? =some t→j≠k→s≠t:=fun {j k s t} hj hk hne e=>by
  subst e;have hj':=(List.getElem?_eq_some_iff.1 hj).1;have h1:(sl.map some)[j]? =(sl.map some)[k]? :=(by rw[List.getElem?_map,List.getElem?_map,hj,hk]);exact hne ((List.getElem?_inj (by simpa using hj') hnd').1 h1)
 refine wp_region_flow hm hback hdst hin (fun L A W=>ClosL ops L∧(L n=false→J L W∧A.tmps.size=a0.tmps.size∧ ∀(j s:Nat),sl[j]? =some s→L j=true→sp L j (A.tmps.getD s undef) W)∧(L n=true→Q .normal A W)) (fun _ _ _=>True) ?_ ?_ ?_
 ·intro L h;refine⟨fun j p hp hj=> ?_,fun _=>⟨hJ0 L h,rfl,fun j s hj hL=> ?_⟩,fun h'=> ?_⟩
  ·have:=h j (Array.getElem?_eq_some_iff.1 hp).1;rw[this]at hj;cases hj
  ·have:=h j (by have:=(List.getElem?_eq_some_iff.1 hj).1;omega);rw[this]at hL;cases hL
  ·rw[h n (by omega)]at h';cases h'
 ·intro i o L A W ho hLi hdep hJ hdef hkept hhas;clear hhas;obtain⟨hc,hbel,hdone⟩:=hJ;have hi:i<ops.size:=(Array.getElem?_eq_some_iff.1 ho).1
  have hLn:L n=false:=by
   cases h:L n with
   |false=>rfl
   |true=>
    have:=use_all huse hn hc h n i (by omega) (by omega);rw[this]at hLi;cases hLi
  obtain⟨hbw,hsz,hread⟩:=hbel hLn
  have hc':ClosL ops (fun k=>decide (i=k)||L k):=by
   intro j p hp hj e he hb;show(decide (i=e.on)||L e.on)=true;by_cases hij:i=j
   ·subst hij;rw[ho]at hp;cases hp;rw[hdep e he hb];simp
   ·rw[hc j p hp (by simpa[hij] using hj) e he hb];simp
  by_cases hin':i=n
  ·subst hin'
   have hall: ∀j,j<i→L j=true:=fun j hj=>by
    have:=use_all huse hn hc' (L:=fun k=>decide (i=k)||L k) (by simp) i j (by omega) (by omega);simpa[show i≠j by omega] using this
   refine wpOp_mono ?_ (hlast o L W A ho hall hbw (fun j s hj=>hread j s hj (hall j (by have:=(List.getElem?_eq_some_iff.1 hj).1;omega))) (fun s h=>hkept s fun j p hp _=>nd h j p hp) fun ds hd hv=> ?_)
   ·rintro a' W' ⟨⟨v,hv⟩,hq⟩;exact⟨v,hv,fun _=>trivial,fun _ _ _ _=>trivial,hc',fun h=>by simp at h,fun _=>hq⟩
   ·refine act_is ds hdef hsz (by rw[show ds.map (fun p=>some p.1)=(ds.map (fun p=>p.1)).map some by rw[List.map_map];rfl,hd];exact hnd') (fun s h=>hkept s fun j p hp hj e=> ?_) (fun j s v hj=>hv j s v hj)
    have hjn:j<i:=by
     have h1:=(Array.getElem?_eq_some_iff.1 hp).1;have h2:j≠i:=fun e'=>(by rw[e',hLn]at hj;cases hj);omega
    obtain⟨s',hs',hd'⟩:=atD hjn hp;rw[hd']at e;cases e;rw[←hd,List.getElem?_map]at hs';cases hq:ds[j]? with
    |none=>rw[hq]at hs';cases hs'
    |some q=>
     rw[hq]at hs';exact h q (List.mem_of_getElem? hq) (Option.some.inj hs')
  ·obtain⟨s,hs,hd⟩:=atD (show i<n by omega) ho
   have hsl:s<A.tmps.size:=by
    have q1:=List.all_eq_true.1 hin i (by simpa using hi);rw[ho]at q1;simp only[Option.bind_some,hd]at q1;rw[hsz];simpa using q1
   refine wpOp_mono ?_ (hstep i s o L A W ho hs hLi hdep hc hbw (fun s' h=>hkept s' fun j p hp _=>nd h j p hp) hread);rintro a' W' ⟨v,rfl,hv,hJ',hmono⟩;refine⟨v,by rw[hd],fun _=>trivial,fun _ _ _ _=>trivial,hc',fun _=>⟨hJ',by simpa[Act.put] using hsz,fun j t hj hL=> ?_⟩,fun h=> ?_⟩
   ·by_cases hij:i=j
    ·subst hij;rw[hs]at hj;cases hj;rw[show(A.put (some s) v).tmps.getD s undef=v from getD_set_same _ _ _ hsl];exact hv
    ·have hLj:L j=true:=(by simpa[hij] using hL);rw[show(A.put (some s) v).tmps.getD t undef=A.tmps.getD t undef from getD_set_other _ _ _ _ (slNe hs hj hij)];exact hmono j _ (fun e=>hij e.symm) (List.getElem?_eq_some_iff.1 hj).1 hLj (hread j t hj hLj)
   ·simp[hin',hLn]at h
 ·intro L A W hL hJ hdef hsize hkept hhas;exact hJ.2.2 (hL n (by omega))
end
end Go.Proofs.YtpmobjgnmidolaaDoor
/- '==' and '!=' between two masks; a word of a mask by its place; how many minutes a mask has. -/
namespace Go.Proofs.YtpmobjgnmidolaaDoor
open Go.RowKit Msk
theorem load_g {ops:Array Oper}{rest:List Oper}{o:Oper}{a:Act}{w:World}{Q:Exit→Act→World→Prop}(hw:Region.wanted o (yielded ops a.tmps)=true)(x:Operand)(ho:o.op= .load 37 x)
  (g:Nat) (hx:a.eval x= .pointer (some ⟨g,0,none⟩)) (f:Nat→Bool) (hg:w.heap[g]? =some (.cells (mv f) 37 (0,0))) (h:wpList Tryd.prog ops Q rest (a.put o.dst (.agg (mv f))) w):wpList Tryd.prog ops Q (o::rest) a w:=
 wpList_step fun K hK=>by
  rw[if_pos hw];exact wp_load_row 37 x ho g hx _ _ _ _ hg maskType rfl (maskSize _) (hK _ _ h)
end Go.Proofs.YtpmobjgnmidolaaDoor
/- A row of one mask is made. -/
namespace Go.Proofs.YtpmobjgnmidolaaDoor
open Go.RowKit Msk
end Go.Proofs.YtpmobjgnmidolaaDoor
/- The machine in memory; put and take. Written by genvmi.py. -/
namespace Go.Proofs.YtpmobjgnmidolaaDoor
open Go.RowKit Msk Vx
theorem mvl_len (f:M):(mv f).toList.length=23:=by rw[Array.length_toList];exact mv_size f
theorem own_below {w w':World}{base:Nat}{e:TypeId}{size n:Nat}{v:Value}{xs:List Value}(h:w.ownsRow base e size v n xs)(hb:Below w.heap.size w w'):w'.ownsRow base e size v n xs:=by
 refine h.kept (row:=none) ⟨hb.os,hb.tape,hb.output,hb.size,fun k hk _=>hb.block k hk⟩ ?_;cases hv:v.ownBlock with
 |none=>exact .inl rfl
 |some g=>exact .inr (by simp)
theorem grown_below {W1 W W':World}{row:Option Nat}(h:W1.grownBy W row)(hb:Below W.heap.size W W'):W1.grownBy W' row:=
 ⟨hb.os.trans h.os,hb.tape.trans h.tape,hb.output.trans h.output,Nat.le_trans h.size hb.size,fun k hk hr=>(hb.block k (Nat.lt_of_lt_of_le hk h.size)).trans (h.block k hk hr)⟩
theorem grown_trans {W1 W W':World}{row:Option Nat}(h:W1.grownBy W row)(hb:W.grownBy W' row):W1.grownBy W' row:=
 ⟨hb.os.trans h.os,hb.tape.trans h.tape,hb.output.trans h.output,Nat.le_trans h.size hb.size,fun k hk hr=>(hb.block k (Nat.lt_of_lt_of_le hk h.size) hr).trans (h.block k hk hr)⟩
theorem in_add9 (g o n:Nat):(⟨g,o,none⟩:Addr).add n=⟨g,o+n,none⟩:=by
 by_cases h:n=0
 ·subst h;simp[Addr.add]
 ·simp[Addr.add,h]
theorem wpList_loadM {ops:Array Oper}{rest:List Oper}{op:Oper}{a:Act}{w:World}{Q:Exit→Act→World→Prop}(hgd:op.guard=none)(x:Operand)(ho:op.op= .load 37 x)(b o:Nat)(hx:a.eval x= .pointer (some ⟨b,o,none⟩))(f:Nat→Bool)(hc:w.rangeAt b o (mv f).toList)
  (h:wpList Tryd.prog ops Q rest (a.put op.dst (.agg (mv f))) w):wpList Tryd.prog ops Q (op::rest) a w:=by
 refine wpList_load_mid hgd 37 x ho b o hx (mv f).toList _ hc maskType rfl (by rw[mvl_len];kernel_rfl) ?_;simpa using h
end Go.Proofs.YtpmobjgnmidolaaDoor
/- The machine in memory; put and take. Written by gencwa.py. -/
namespace Go.Proofs.YtpmobjgnmidolaaDoor
open Go.RowKit Msk Vx
def iv (f:In×Value):Array Value:= #[.int .i64 f.1.op,.int .i64 f.1.a,.int .i64 f.1.b,.int .i64 f.1.to,f.2]
def flatI (S:List (In×Value)):List Value:=S.flatMap fun f=>(iv f).toList
theorem flatI_len: ∀S:List (In×Value),(flatI S).length=S.length*5
 |[]=>rfl
 |f::S=>by
  have:=flatI_len S;unfold flatI at this⊢;rw[List.flatMap_cons,List.length_append,this];have h:(iv f).toList.length=5:=rfl;rw[h,List.length_cons];omega
theorem flatI_snoc (S:List (In×Value))(f:In×Value):flatI (S++[f])=flatI S++(iv f).toList:=by
 unfold flatI;rw[List.flatMap_append];simp
structure WsC (w0:World)(gm:Nat)(mp:Value)(S:List (In×Value))(W:World):Prop where
 bel:Below w0.heap.size w0 W
 gt:w0.heap.size≤gm
 row: ∃sv,W.heap[gm]? =some (.cells #[mp,sv] 54 (0,0))∧W.ownsRow w0.heap.size 66 5 sv S.length (flatI S)
theorem WsC.below {w0 W W':World}{gm:Nat}{mp:Value}{S:List (In×Value)}(h:WsC w0 gm mp S W)(hb:Below W.heap.size W W'):WsC w0 gm mp S W':=by
 obtain⟨h1,h2,sv,h3,h4⟩:=h;exact⟨h1.trans (hb.mono h1.size),h2,sv,(hb.block _ (lt_of_block h3)).trans h3,own_below h4 hb⟩
theorem own_neI {w:World}{base n:Nat}{sv:Value}{xs:List Value}{g:Nat}{cs:Array Value}{T:TypeId}(h:w.ownsRow base 66 5 sv n xs)(hg:w.heap[g]? =some (.cells cs T (0,0)))(hT:T≠66):some g≠sv.ownBlock:=by
 rcases h.2 with⟨e,_⟩|⟨b,cap,cur,e,_,hb,_⟩
 ·rw[e];simp[Value.ownBlock]
 ·rw[e];intro q;have q':g=b:=(by simpa[Value.ownBlock] using q);subst q';rw[hg]at hb;injection hb with hb;injection hb with _ h2 _;exact hT h2
theorem own_sliceI {w:World}{base n:Nat}{sv:Value}{xs:List Value}(h:w.ownsRow base 66 5 sv n xs): ∃p c,sv= .slice p n c:=by
 rcases h.2 with⟨e,e2⟩|⟨b,cap,cur,e,_⟩
 ·exact⟨none,0,by rw[e,e2]⟩
 ·exact⟨_,cap,e⟩
theorem insInfoW:(Tryd.prog.info? 66).map (fun i=>(i.zero,i.size,i.bytes))=some (some (.agg #[.int .i64 0,.int .i64 0,.int .i64 0,.int .i64 0,.slice none 0 0]),5,56):=by kernel_rfl
theorem inssTypeW:Tryd.prog.underlying 40=some (.slice 66):=by kernel_rfl
def rowB (gm:Nat)(W:World):Option Nat:=match W.cell? ⟨gm,1,none⟩ with
 |some v=>v.ownBlock
 |none=>none
theorem rowB_at {gm:Nat}{W:World}{mp sv:Value}(h:W.heap[gm]? =some (.cells #[mp,sv] 54 (0,0))):rowB gm W=sv.ownBlock:=by
 unfold rowB;rw[cell_of_row _ _ 1 _ _ _ h];rfl
structure Fr2 (gm:Nat)(W W':World):Prop where
 blk: ∀q,q<W.heap.size→q≠gm→rowB gm W≠some q→W'.heap[q]? =W.heap[q]?
 row:rowB gm W'=rowB gm W∨ ∃g,rowB gm W'=some g∧W.heap.size≤g
 size:W.heap.size≤W'.heap.size
theorem Fr2.trans {gm:Nat}{w w' w'':World}(h:Fr2 gm w w')(h':Fr2 gm w' w''):Fr2 gm w w'':=by
 refine⟨fun q hq hne hr=> ?_,?_,Nat.le_trans h.size h'.size⟩
 ·refine(h'.blk q (Nat.lt_of_lt_of_le hq h.size) hne ?_).trans (h.blk q hq hne hr);rcases h.row with e|⟨g,e,hg⟩
  ·rw[e];exact hr
  ·rw[e];intro e2;injection e2 with e2;omega
 ·rcases h'.row with e|⟨g,e,hg⟩
  ·rw[e];exact h.row
  ·exact .inr ⟨g,e,Nat.le_trans h.size hg⟩
theorem Fr2.below {gm:Nat}{w w':World}(hg:gm<w.heap.size)(hb:Below w.heap.size w w'):Fr2 gm w w':=by
 refine⟨fun q hq _ _=>hb.block q hq,.inl ?_,hb.size⟩;unfold rowB;rw[World.cell?_of_block (a:=⟨gm,1,none⟩) (hb.block gm hg)]
theorem app_block {w:World}{base n:Nat}{v x:Value}{xs news:List Value}(hown:w.ownsRow base 66 5 v n xs)(hs:Src Tryd.prog 5 40 x 1 news w)(hn:n≤1000)(ty:TypeId){v':Value}{w':World}(hr:(Builtin.append_ #[40,40] ty #[v,x]).run Tryd.prog w= .ok v' w'):v'.ownBlock=v.ownBlock∨ ∃g,v'.ownBlock=some g∧w.heap.size≤g:=by
 obtain⟨i0,hi,hz0,hz1,hz2⟩:=info_parts insInfoW;have hs':Src Tryd.prog i0.size 40 x 1 news w:=by rw[hz1];exact hs
 have grow: ∀(bs:Option Addr) (sc:Nat) (olds:List Value),v= .slice bs n sc→sc<n+1→(Builtin.firstCells i0.size n (.slice bs n sc)).run Tryd.prog w.drew= .ok olds.toArray w.drew→v'.ownBlock=v.ownBlock∨ ∃g,v'.ownBlock=some g∧w.heap.size≤g:=by
  rintro bs sc olds rfl hg hold;have hrun:=run_append_grow_src (P:=Tryd.prog) w 40 40 ty 66 i0 _ inssTypeW hi hz0 bs n sc olds hold x 1 news hs' hg (by omega) (growslice_fits hg (by rw[hz2];omega));rw[hr]at hrun;injection hrun with e1 _;rw[e1];exact .inr ⟨w.heap.size,rfl,Nat.le_refl _⟩
 rcases hown.2 with⟨e,e2⟩|⟨g,cap,cur,e,_,hg,hnc,_,hcs,htake⟩
 ·subst e2;exact grow none 0 [] e (by omega) (run_firstCells_none w.drew i0.size 0 0 0)
 ·by_cases hfit:n+1≤cap
  ·subst e;have hlen:news.length=1*5:=hs.newsLen
   have hrow: ∀j,j<news.length→(w.cell? ⟨g,0+n*i0.size+j,none⟩).isSome=true∧w.frozen? ⟨g,0+n*i0.size+j,none⟩=false:=fun j hj=>by
    rw[hz1];have hjs:0+n*5+j<cur.size:=(by rw[hcs];omega);exact⟨by rw[cell_of_row _ _ _ _ _ _ hg,Array.getElem?_eq_getElem hjs];rfl,frozen_of_row _ _ _ _ _ hg⟩
   have hrun:=run_append_room_src (P:=Tryd.prog) w 40 40 ty 66 i0 inssTypeW hi g 0 n cap x 1 news hs' hfit (fun j hj=>(hrow j hj).1) (fun j hj=>(hrow j hj).2);rw[hr]at hrun;injection hrun with e1 _;rw[e1];exact .inl rfl
  ·refine grow (some ⟨g,0,none⟩) cap xs e (by omega) ?_;rw[hz1];refine run_firstCells_some w.drew 5 n ⟨g,0,none⟩ n cap xs hown.1 (fun j u hu=> ?_);rw[Addr.add_lit,Nat.zero_add]
   have hj:j<n*5:=by
    have:=(List.getElem?_eq_some_iff.1 hu).1;rw[hown.1]at this;exact this
   refine(cell_of_row _ _ _ _ _ _ hg).trans ?_;rw[←htake,List.getElem?_take_of_lt hj,Array.getElem?_toList]at hu;exact hu
theorem wp_append_I {op:Oper}{a:Act}{w:World}{K:Act→World→Prop}{Q:Exit→Act→World→Prop}(s x:Operand)(ho:op.op= .call {callee:= .builtin .append,args:= #[s,x],argTypes:= #[40,40]})(base:Nat)(v:Value)(n:Nat)(xs:List Value)(hs:a.eval s=v)(hown:w.ownsRow base 66 5 v n xs)(g:Nat)(news:List Value)(hx:a.eval x= .slice (some ⟨g,0,none⟩) 1 1)(hl:news.length=5)
  (hnews: ∀j u,news[j]? =some u→w.cell? ((⟨g,0,none⟩:Addr).add j)=some u) (h1: ∀u∈news,u.oneCell'=true) (hn:n≤1000) (hb:base≤w.heap.size)
  (h: ∀v' w',w'.ownsRow base 66 5 v' (n+1) (xs++news)→w.grownBy w' v.ownBlock→(v'.ownBlock=v.ownBlock∨ ∃g,v'.ownBlock=some g∧w.heap.size≤g)→K (a.put op.dst v') w'):op.wp Tryd.prog a w K Q:=by
 obtain⟨i0,hi,hz0,hz1,hz2⟩:=info_parts insInfoW;obtain⟨v',w',hr,h2,h3,_⟩:=run_append_own (P:=Tryd.prog) (w:=w) base 40 op.type 66 i0 _ 5 56 inssTypeW hi hz0 hz1 hz2 rfl (by decide) v n xs hown ⟨g,0,none⟩ 1 1 news hl hnews h1 (by unfold maxLen;omega) (by omega) hb;have hblk:=app_block hown (Src.ofSlice w inssTypeW ⟨g,0,none⟩ 1 1 news hl hnews h1) hn op.type hr;unfold Oper.wp;simp[execOp,ho,resolve,invoke,builtin,hs,hx,hr,Result.andThen];exact h v' w' h2 h3 hblk
theorem insTypeW:Tryd.prog.underlying 66=some (.struct (Tryd.prog.fieldsOf 66)):=by kernel_rfl
theorem ivl_len (f:In×Value):(iv f).toList.length=5:=rfl
theorem iv_all {f:In×Value}(h: ∃p n c,f.2= .slice p n c):(iv f).all (·.oneCell')=true:=by
 obtain⟨p,n,c,e⟩:=h;unfold iv;rw[e];simp[Value.oneCell']
theorem buildI (f:In×Value)(h: ∃p n c,f.2= .slice p n c)(W:World):(Instr.buildSlice 40 1 #[(0,.agg (iv f))]).run Tryd.prog W= .ok (.slice (some ⟨W.heap.size,0,none⟩) 1 1) (W.alloc (.cells (iv f) 66)):=by
 obtain⟨p,n,c,e⟩:=h;unfold iv;rw[e];kernel_rfl
theorem wp_buildI {op:Oper}{a:Act}{w:World}{K:Act→World→Prop}{Q:Exit→Act→World→Prop}(x:Operand)(ho:op.op= .buildSlice 40 1 #[(0,x)])(f:In×Value)(hf: ∃p n c,f.2= .slice p n c)(hx:a.eval x= .agg (iv f))(h:K (a.put op.dst (.slice (some ⟨w.heap.size,0,none⟩) 1 1)) (w.alloc (.cells (iv f) 66))):op.wp Tryd.prog a w K Q:=by
 unfold Oper.wp execOp;have hb:=buildI f hf w;simp only[ho,hx,List.map_toArray,List.map_cons,List.map_nil,Sem.run_bind,Sem.run_pure,Result.andThen_ok,hb];exact h
structure PutJI (base:Nat)(sv:Value)(n:Nat)(xs:List Value)(W1:World)(L:Nat→Bool)(W:World):Prop where
 grown:W1.grownBy W sv.ownBlock
 own:L 7=false→W.ownsRow base 66 5 sv n xs
def pspI (base gm:Nat)(sv:Value)(n:Nat)(xs:List Value)(f:In×Value)(lo:Nat)(L:Nat→Bool)(i:Nat)(v:Value)(W:World):Prop:=match i with
 |0=>v= .pointer (some ⟨gm,0,none⟩)
 |1=>v= .pointer (some ⟨gm,0,none⟩)
 |2=>v= .pointer (some ⟨gm,0,none⟩)
 |3=>v= .pointer (some ⟨gm,1,none⟩)
 |4=>v=sv
 |5=>v= .agg (iv f)
 |6=> ∃g,v= .slice (some ⟨g,0,none⟩) 1 1∧(L 7=false→W.heap[g]? =some (.cells (iv f) 66 (0,0))∧lo≤g)
 |7=>W.ownsRow base 66 5 v (n+1) (xs++(iv f).toList)∧(v.ownBlock=sv.ownBlock∨ ∃g,v.ownBlock=some g∧lo≤g)
 |8=>v= .pointer (some ⟨gm,0,none⟩)
 |9=>v= .pointer (some ⟨gm,1,none⟩)
 |_=>True
theorem pspI_keep {base gm n lo:Nat}{sv:Value}{xs:List Value}{f:In×Value}{L L':Nat→Bool}(hL:L' 7=false→L 7=false){W W':World}(hb:Below W.heap.size W W'): ∀(j:Nat) (u:Value),pspI base gm sv n xs f lo L j u W→pspI base gm sv n xs f lo L' j u W'
 |0,_,h=>h
 |1,_,h=>h
 |2,_,h=>h
 |3,_,h=>h
 |4,_,h=>h
 |5,_,h=>h
 |6,_,⟨g,h1,h2⟩=>⟨g,h1,fun e=>⟨(hb.block _ (lt_of_block (h2 (hL e)).1)).trans (h2 (hL e)).1,(h2 (hL e)).2⟩⟩
 |7,_,h=>⟨own_below h.1 hb,h.2⟩
 |8,_,h=>h
 |9,_,h=>h
 |_+10,_,h=>h
theorem pspI_app {base gm n lo:Nat}{sv:Value}{xs:List Value}{f:In×Value}{L:Nat→Bool}{W W':World}{j0:Nat}(hj:j0≠7): ∀(j:Nat),j=j0→ ∀(u:Value),pspI base gm sv n xs f lo L j u W→pspI base gm sv n xs f lo (fun k=>decide (7=k)||L k) j u W'
 |0,_,_,h=>h
 |1,_,_,h=>h
 |2,_,_,h=>h
 |3,_,_,h=>h
 |4,_,_,h=>h
 |5,_,_,h=>h
 |6,_,_,⟨g,h1,_⟩=>⟨g,h1,fun e=>by simp at e⟩
 |7,e,_,_=>absurd e.symm hj
 |8,_,_,h=>h
 |9,_,_,h=>h
 |_+10,_,_,h=>h
set_option maxRecDepth 100000 in
set_option maxHeartbeats 4000000 in
theorem wput_any (w0:World)(gm:Nat)(mp:Value)(S:List (In×Value))(f:In×Value)(W:World)(h:WsC w0 gm mp S W)(hS:S.length≤1000)(hf: ∃p n c,f.2= .slice p n c):
  Calls Tryd.prog 44 #[.pointer (some ⟨gm,0,none⟩),.agg (iv f)] W fun e W'=>e= .returned (.tuple #[])∧WsC w0 gm mp (S++[f]) W'∧(∀(q:Nat) (c:Array Value) (T:TypeId),W.heap[q]? =some (.cells c T (0,0))→T≠66→q≠gm→W'.heap[q]? =some (.cells c T (0,0)))∧Fr2 gm W W':=by
 obtain⟨hbel,hgt,sv,nM0,own0⟩:=h;obtain⟨i0,hi,hz0,hz1,hz2⟩:=info_parts insInfoW;have HZ:=hidv hz0;have HFS0:=hidv hf;clear hf;have bB:=(Below.refl W.heap.size W).alloc (Nat.le_refl _) (.cells (iv f) 66);have nB0:=heap_alloc_new W (.cells (iv f) 66);have nM:=(bB.block _ (lt_of_block nM0)).trans nM0;have own1:=own_below own0 bB;have HRB:=hidv (rowB_at nM0);have HBW:Hid (∀q,q<W.heap.size→(W.alloc (.cells (iv f) 66)).heap[q]? =W.heap[q]?):=fun q hq=>bB.block q hq;have HSW:Hid (W.heap.size≤(W.alloc (.cells (iv f) 66)).heap.size):=bB.size;have hneM:=own_neI own1 nM (by decide)
 have hneB:some W.heap.size≠sv.ownBlock:=fun e=>by
  have:=(own0.lt _ e.symm).2;omega
 have hb1:=hbel.trans (bB.mono hbel.size);have hb0:=hb1.size;obtain⟨p0,c0,hsv⟩:=own_sliceI own0;subst hsv;have HFR:Hid (∀(q:Nat) (c:Array Value) (T:TypeId),W.heap[q]? =some (.cells c T (0,0))→(W.alloc (.cells (iv f) 66)).heap[q]? =some (.cells c T (0,0))):=fun q c T hq=>(bB.block _ (lt_of_block hq)).trans hq;obtain⟨gb,hgb⟩: ∃b,W.heap.size=b:=⟨_,rfl⟩
 generalize hwB:W.alloc (.cells (iv f) 66)=wB at*;rw[hgb]at hneB;have nB:wB.heap[gb]? =some (.cells (iv f) 66 (0,0)):=by rw[←hgb];exact nB0
 clear hz0 nB0 nM0 own0 bB hbel;go_enter Tryd.func44,Tryd.ntmps44;go_wp2_with fail;clear hwB;refine wp_region_lastR (PutJI w0.heap.size (.slice p0 S.length c0) S.length (flatI S) wB) (pspI w0.heap.size gm (.slice p0 S.length c0) S.length (flatI S) f wB.heap.size) (fun L _=>⟨⟨rfl,rfl,rfl,Nat.le_refl _,fun _ _ _=>rfl⟩,fun _=>own1⟩) (by kernel_rfl) (by kernel_rfl) (by kernel_rfl) (by kernel_rfl) 10 (by kernel_rfl) (by kernel_rfl) [4,5,6,7,8,9,10,11,12,13] (by kernel_rfl) (by kernel_rfl) ?_ ?_
 ·intro i' s o' L A W2 ho hs hLi hdep hc hJ hkept hhas;match i',ho,hs,hLi with
  |0,ho,hs,hLi=>
   cases Option.some.inj ho;cases Option.some.inj hs;have h0:A.tmps[0]?.getD undef= .pointer (some ⟨gm,0,none⟩):=(gd A 0).trans (hkept 0 (by kernel_rfl));refine wpOp_step rfl (fun K hK=> ?_);go_simp;exact hK _ _ ⟨_,rfl,rfl,⟨hJ.grown,fun e=>hJ.own ((Bool.or_eq_false_iff.1 e).2)⟩,fun j u _ _ _ h=>pspI_keep (fun e=>(Bool.or_eq_false_iff.1 e).2) (Below.refl _ _) j u h⟩
  |1,ho,hs,hLi=>
   cases Option.some.inj ho;cases Option.some.inj hs;have h0:A.tmps[0]?.getD undef= .pointer (some ⟨gm,0,none⟩):=(gd A 0).trans (hkept 0 (by kernel_rfl));refine wpOp_step rfl (fun K hK=> ?_);go_simp;exact hK _ _ ⟨_,rfl,rfl,⟨hJ.grown,fun e=>hJ.own ((Bool.or_eq_false_iff.1 e).2)⟩,fun j u _ _ _ h=>pspI_keep (fun e=>(Bool.or_eq_false_iff.1 e).2) (Below.refl _ _) j u h⟩
  |2,ho,hs,hLi=>
   cases Option.some.inj ho;cases Option.some.inj hs;have h5:A.tmps[5]?.getD undef= .pointer (some ⟨gm,0,none⟩):=(gd A 5).trans (hhas 1 5 rfl (hdep ⟨1,.data⟩ (by simp) rfl));refine wpOp_step rfl (fun K hK=> ?_);go_simp;exact hK _ _ ⟨_,rfl,rfl,⟨hJ.grown,fun e=>hJ.own ((Bool.or_eq_false_iff.1 e).2)⟩,fun j u _ _ _ h=>pspI_keep (fun e=>(Bool.or_eq_false_iff.1 e).2) (Below.refl _ _) j u h⟩
  |3,ho,hs,hLi=>
   cases Option.some.inj ho;cases Option.some.inj hs;have h6:A.tmps[6]?.getD undef= .pointer (some ⟨gm,0,none⟩):=(gd A 6).trans (hhas 2 6 rfl (hdep ⟨2,.data⟩ (by simp) rfl));refine wpOp_step rfl (fun K hK=> ?_);go_simp;exact hK _ _ ⟨_,rfl,rfl,⟨hJ.grown,fun e=>hJ.own ((Bool.or_eq_false_iff.1 e).2)⟩,fun j u _ _ _ h=>pspI_keep (fun e=>(Bool.or_eq_false_iff.1 e).2) (Below.refl _ _) j u h⟩
  |4,ho,hs,hLi=>
   cases Option.some.inj ho;cases Option.some.inj hs;have h7:A.tmps[7]?.getD undef= .pointer (some ⟨gm,1,none⟩):=(gd A 7).trans (hhas 3 7 rfl (hdep ⟨3,.data⟩ (by simp) rfl));have nM2:=(hJ.grown.block _ (lt_of_block nM) hneM).trans nM;have z2:=(cell_of_row _ _ 1 _ _ _ nM2).trans rfl;refine wpOp_step rfl (fun K hK=> ?_);go_simp;exact hK _ _ ⟨_,rfl,rfl,⟨hJ.grown,fun e=>hJ.own ((Bool.or_eq_false_iff.1 e).2)⟩,fun j u _ _ _ h=>pspI_keep (fun e=>(Bool.or_eq_false_iff.1 e).2) (Below.refl _ _) j u h⟩
  |5,ho,hs,hLi=>
   cases Option.some.inj ho;cases Option.some.inj hs;have x3:A.eval (.tmp 3)= .pointer (some ⟨gb,0,none⟩):=hkept 3 (by kernel_rfl);have nB2:=(hJ.grown.block _ (lt_of_block nB) hneB).trans nB;refine wpOp_step rfl (fun K hK=> ?_);show Oper.wp _ _ _ _ _ _;refine wp_load_row 66 _ rfl _ x3 _ _ _ _ nB2 insTypeW rfl (by kernel_rfl) ?_;exact hK _ _ ⟨_,rfl,rfl,⟨hJ.grown,fun e=>hJ.own ((Bool.or_eq_false_iff.1 e).2)⟩,fun j u _ _ _ h=>pspI_keep (fun e=>(Bool.or_eq_false_iff.1 e).2) (Below.refl _ _) j u h⟩
  |6,ho,hs,hLi=>
   cases Option.some.inj ho;cases Option.some.inj hs;have x9:A.eval (.tmp 9)= .agg (iv f):=hhas 5 9 rfl (hdep ⟨5,.data⟩ (by simp) rfl);have hb:=(Below.refl W2.heap.size W2).alloc (Nat.le_refl _) (.cells (iv f) 66);have hnew:=heap_alloc_new W2 (.cells (iv f) 66);have hsz:=hJ.grown.size
   have no7:L 7=false:=by
    cases h:L 7 with
    |false=>rfl
    |true=>
     have:=hc 7 _ rfl h ⟨6,.data⟩ (by simp) rfl;rw[hLi]at this;cases this
   refine wpOp_step rfl (fun K hK=> ?_);show Oper.wp _ _ _ _ _ _;refine wp_buildI _ rfl f HFS0.out x9 ?_;exact hK _ _ ⟨_,rfl,⟨W2.heap.size,rfl,fun _=>⟨hnew,hsz⟩⟩,⟨grown_below hJ.grown hb,fun e=>own_below (hJ.own no7) hb⟩,fun j u _ _ _ h=>pspI_keep (fun e=>(Bool.or_eq_false_iff.1 e).2) hb j u h⟩
  |7,ho,hs,hLi=>
   cases Option.some.inj ho;cases Option.some.inj hs;obtain⟨g,e10,hx⟩:=hhas 6 10 rfl (hdep ⟨6,.data⟩ (by simp) rfl);obtain⟨hh,hlo⟩:=hx hLi;have x10:A.eval (.tmp 10)= .slice (some ⟨g,0,none⟩) 1 1:=e10;have x8:A.eval (.tmp 8)= .slice p0 S.length c0:=hhas 4 8 rfl (hdep ⟨4,.data⟩ (by simp) rfl);refine wpOp_step rfl (fun K hK=> ?_);show Oper.wp _ _ _ _ _ _;refine wp_append_I _ _ rfl w0.heap.size (.slice p0 S.length c0) S.length (flatI S) x8 (hJ.own hLi) g (iv f).toList x10 (ivl_len f) ?c1 ?c2 (by omega) ?c5 ?_
   case c1=>
    intro q u hq;rw[in_add9];exact(cell_of_row _ _ _ _ _ _ hh).trans (by rw[Nat.zero_add,←Array.getElem?_toList];exact hq)
   case c2=>
    intro u hu;have:=iv_all HFS0.out;rw[Array.all_eq_true_iff_forall_mem]at this;exact this u (Array.mem_def.2 hu)
   case c5=>exact Nat.le_trans hb0 hJ.grown.size
   intro v' W' hown hgrow hblk;have hblk2:v'.ownBlock=(Value.slice p0 S.length c0).ownBlock∨ ∃g,v'.ownBlock=some g∧wB.heap.size≤g:=hblk.imp id fun⟨g,e,hg⟩=>⟨g,e,Nat.le_trans hJ.grown.size hg⟩
   exact hK _ _ ⟨v',rfl,⟨hown,hblk2⟩,⟨grown_trans hJ.grown hgrow,fun e=>by simp at e⟩,fun j u hj _ _ h=>pspI_app hj j rfl u h⟩
  |8,ho,hs,hLi=>
   cases Option.some.inj ho;cases Option.some.inj hs;have h4:A.tmps[4]?.getD undef= .pointer (some ⟨gm,0,none⟩):=(gd A 4).trans (hhas 0 4 rfl (hdep ⟨0,.data⟩ (by simp) rfl));refine wpOp_step rfl (fun K hK=> ?_);go_simp;exact hK _ _ ⟨_,rfl,rfl,⟨hJ.grown,fun e=>hJ.own ((Bool.or_eq_false_iff.1 e).2)⟩,fun j u _ _ _ h=>pspI_keep (fun e=>(Bool.or_eq_false_iff.1 e).2) (Below.refl _ _) j u h⟩
  |9,ho,hs,hLi=>
   cases Option.some.inj ho;cases Option.some.inj hs;have h12:A.tmps[12]?.getD undef= .pointer (some ⟨gm,0,none⟩):=(gd A 12).trans (hhas 8 12 rfl (hdep ⟨8,.data⟩ (by simp) rfl));refine wpOp_step rfl (fun K hK=> ?_);go_simp;exact hK _ _ ⟨_,rfl,rfl,⟨hJ.grown,fun e=>hJ.own ((Bool.or_eq_false_iff.1 e).2)⟩,fun j u _ _ _ h=>pspI_keep (fun e=>(Bool.or_eq_false_iff.1 e).2) (Below.refl _ _) j u h⟩
  |kk+10,ho,hs,hLi=>simp at hs
 ·intro o' L W2 A ho hL hJ hhas hkept hput;cases Option.some.inj ho;have own7:W2.ownsRow w0.heap.size 66 5 (A.tmps.getD 11 undef) (S.length+1) (flatI S++(iv f).toList):=(hhas 7 11 rfl).1;have blk7:(A.tmps.getD 11 undef).ownBlock=(Value.slice p0 S.length c0).ownBlock∨ ∃g,(A.tmps.getD 11 undef).ownBlock=some g∧wB.heap.size≤g:=(hhas 7 11 rfl).2;obtain⟨v7,ev7⟩: ∃v,A.tmps.getD 11 undef=v:=⟨_,rfl⟩
  rw[ev7]at own7 blk7;obtain⟨p7,c7,hv7⟩:=own_sliceI own7;subst hv7;obtain⟨x4,e4⟩: ∃x,A.tmps.getD 4 undef=x:=⟨_,rfl⟩
  obtain⟨x5,e5⟩: ∃x,A.tmps.getD 5 undef=x:=⟨_,rfl⟩
  obtain⟨x6,e6⟩: ∃x,A.tmps.getD 6 undef=x:=⟨_,rfl⟩
  obtain⟨x7,e7⟩: ∃x,A.tmps.getD 7 undef=x:=⟨_,rfl⟩
  obtain⟨x8,e8⟩: ∃x,A.tmps.getD 8 undef=x:=⟨_,rfl⟩
  obtain⟨x9,e9⟩: ∃x,A.tmps.getD 9 undef=x:=⟨_,rfl⟩
  obtain⟨x10,e10⟩: ∃x,A.tmps.getD 10 undef=x:=⟨_,rfl⟩
  obtain⟨x12,e12⟩: ∃x,A.tmps.getD 12 undef=x:=⟨_,rfl⟩
  have e11:=ev7;have e13:A.tmps.getD 13 undef= .pointer (some ⟨gm,1,none⟩):=hhas 9 13 rfl
  have hA:A=putAll [(4,x4),(5,x5),(6,x6),(7,x7),(8,x8),(9,x9),(10,x10),(11,.slice p7 (S.length+1) c7),(12,x12),(13,.pointer (some ⟨gm,1,none⟩))] _:=hput _ (by kernel_rfl) (fun j s v hj=>match j,hj with
   |0,hj=>by cases Option.some.inj hj;exact e4
   |1,hj=>by cases Option.some.inj hj;exact e5
   |2,hj=>by cases Option.some.inj hj;exact e6
   |3,hj=>by cases Option.some.inj hj;exact e7
   |4,hj=>by cases Option.some.inj hj;exact e8
   |5,hj=>by cases Option.some.inj hj;exact e9
   |6,hj=>by cases Option.some.inj hj;exact e10
   |7,hj=>by cases Option.some.inj hj;exact e11
   |8,hj=>by cases Option.some.inj hj;exact e12
   |9,hj=>by cases Option.some.inj hj;exact e13
   |kk+10,hj=>by simp at hj)
  have h11:A.tmps[11]?.getD undef= .slice p7 (S.length+1) c7:=(gd A 11).trans ev7;have h13:A.tmps[13]?.getD undef= .pointer (some ⟨gm,1,none⟩):=(gd A 13).trans (hhas 9 13 rfl);have nM2:=(hJ.grown.block _ (lt_of_block nM) hneM).trans nM;have z2:=(cell_of_row _ _ 1 _ _ _ nM2).trans rfl;have y2:=frozen_of_row _ _ 1 _ _ nM2;have hne7:=own_neI own7 nM2 (by decide);have nS:(W2.setCell ⟨gm,1,none⟩ (.slice p7 (S.length+1) c7)).heap[gm]? =some (.cells #[mp,.slice p7 (S.length+1) c7] 54 (0,0)):=heap_setCell_same W2 gm 1 _ _ _ nM2
  have bS:Below w0.heap.size w0 (W2.setCell ⟨gm,1,none⟩ (.slice p7 (S.length+1) c7)):=by
   refine Below.setCell (p:=⟨gm,1,none⟩) ⟨hJ.grown.os.trans hb1.os,hJ.grown.tape.trans hb1.tape,hJ.grown.output.trans hb1.output,Nat.le_trans hb1.size hJ.grown.size,fun q hq=> ?_⟩ hgt _;refine(hJ.grown.block q (Nat.lt_of_lt_of_le hq hb1.size) fun e=> ?_).trans (hb1.block q hq);have:=(own1.lt _ e.symm).1;omega
  have own8:(W2.setCell ⟨gm,1,none⟩ (.slice p7 (S.length+1) c7)).ownsRow w0.heap.size 66 5 (.slice p7 (S.length+1) c7) (S++[f]).length (flatI (S++[f])):=by
   rw[flatI_snoc,List.length_append,List.length_singleton];refine own7.kept (row:=some gm) ⟨rfl,rfl,rfl,by simp,fun q hq hr=>heap_setCell_other W2 ⟨gm,1,none⟩ q _ fun e=>hr (congrArg some e)⟩ (.inr fun e=>hne7 e.symm)
  have HN:Hid (WsC w0 gm mp (S++[f]) (W2.setCell ⟨gm,1,none⟩ (.slice p7 (S.length+1) c7))):=⟨bS,hgt,_,nS,own8⟩
  have HFS:Hid (∀(q:Nat) (c:Array Value) (T:TypeId),W.heap[q]? =some (.cells c T (0,0))→T≠66→q≠gm→(W2.setCell ⟨gm,1,none⟩ (.slice p7 (S.length+1) c7)).heap[q]? =some (.cells c T (0,0))):=fun q c T hq hT hne=>by
   have h1:=HFR.out q c T hq;exact(heap_setCell_other W2 ⟨gm,1,none⟩ q _ hne).trans ((hJ.grown.block _ (lt_of_block h1) (own_neI own1 h1 hT)).trans h1)
  have HF2:Hid (Fr2 gm W (W2.setCell ⟨gm,1,none⟩ (.slice p7 (S.length+1) c7))):=by
   refine⟨fun q hq hne hr=> ?_,?_,?_⟩
   ·refine(heap_setCell_other W2 ⟨gm,1,none⟩ q _ hne).trans ((hJ.grown.block q (Nat.lt_of_lt_of_le hq HSW.out) fun e=> ?_).trans (HBW.out q hq));exact hr (HRB.out.trans e.symm)
   ·rw[rowB_at nS,HRB.out];exact blk7.imp id fun⟨g,e,hg⟩=>⟨g,e,Nat.le_trans HSW.out hg⟩
   ·have h1:=HSW.out;have h2:=hJ.grown.size;simp;omega
  have HA:=hidv hA;clear blk7 own7 own8 nS bS hJ hhas hA hput hkept ev7 e4 e5 e6 e7 e8 e9 e10 e11 e12 e13;refine wpOp_step rfl (fun K hK=> ?_);go_simp;refine hK _ _ ⟨⟨undef,rfl⟩,?_⟩;clear hK h11 h13;have hA:=HA.out;clear HA;subst hA;simp only[putAll_cons,putAll_nil,Act.put,List.setIfInBounds_toArray,List.set_cons_succ,List.set_cons_zero];go_wp2_with fail;exact⟨rfl,_,results_none rfl _ _ _,rfl,HN.out,HFS.out,HF2.out⟩
end Go.Proofs.YtpmobjgnmidolaaDoor
/- A region that draws its order, whose values are told by sayings, and whose operations keep what is said of the world; the last one waits for all. It speaks of no program. -/
namespace Go.Proofs.YtpmobjgnmidolaaDoor
open Go Go.RowKit
section
variable {P:Program} {ops:Array Oper} {Q:Exit→Act→World→Prop} {id:Nat} {a0:Act} {w:World}
def StepP (P:Program)(ops:Array Oper)(Q:Exit→Act→World→Prop)(sl:List Nat)(a0:Act)(J:World→Prop)(sp:Nat→Value→World→Prop):Prop:=
 ∀(i s:Nat) (o:Oper) (L:Nat→Bool) (A:Act) (W:World),ops[i]? =some o→sl[i]? =some s→(∀e∈o.after,Region.binds .any e=true→L e.on=true)→J W→
  (∀s,notDst ops s=true→A.tmps.getD s undef=a0.tmps.getD s undef)→(∀(j s:Nat),sl[j]? =some s→L j=true→sp j (A.tmps.getD s undef) W)→wpOp P ops Q i (fun a' W'=> ∃v,a'=A.put (some s) v∧sp i v W'∧J W'∧Below W.heap.size W W') A W
theorem wp_region_lastP (J:World→Prop)(sp:Nat→Value→World→Prop)(hJ0:J w.drew)(hmono: ∀W W',Below W.heap.size W W'→ ∀j u,sp j u W→sp j u W')(hm:P.follows .mixedOrders=true)(hback:backB ops=true)(hdst:dstB ops=true)(hin:inB ops a0.tmps.size=true)(n:Nat)(hn:ops.size=n+1)(huse:useB ops=true)(sl:List Nat)
  (hds:(ops.toList.take n).map (fun o=>o.dst)=sl.map some) (hnd:decide (((ops.toList.take n).map (fun o=>o.dst)).Nodup)=true)
  (hstep:StepP P ops Q sl a0 J sp) (hlast: ∀(o:Oper) (W:World) (A:Act),ops[n]? =some o→J W→(∀(j s:Nat),sl[j]? =some s→sp j (A.tmps.getD s undef) W)→(∀s,notDst ops s=true→A.tmps.getD s undef=a0.tmps.getD s undef)→
   (∀ds:List (Nat×Value),ds.map (fun p=>p.1)=sl→(∀(j s:Nat) (v:Value),ds[j]? =some (s,v)→A.tmps.getD s undef=v)→A=putAll ds a0)→
   wpOp P ops Q n (fun a' W'=>(∃v,a'=A.put o.dst v)∧Q .normal a' W') A W):(Code.region id ops true).wp P Q a0 w:=by
 have hnd':(sl.map some).Nodup:=by rw[←hds];exact of_decide_eq_true hnd
 have hl:sl.length=n:=by
  have h:=congrArg List.length hds;simp only[List.length_map,List.length_take,Array.length_toList]at h;omega
 have atD: ∀{j:Nat} {p:Oper},j<n→ops[j]? =some p→ ∃s,sl[j]? =some s∧p.dst=some s:=fun {j p} hj hp=>by
  have h1:((ops.toList.take n).map (fun o=>o.dst))[j]? =some p.dst:=by
   rw[List.getElem?_map,List.getElem?_take_of_lt hj,Array.getElem?_toList,hp];rfl
  rw[hds,List.getElem?_map]at h1;cases hs:sl[j]? with
  |none=>rw[hs]at h1;cases h1
  |some s=>
   rw[hs]at h1;exact⟨s,rfl,(Option.some.inj h1).symm⟩
 have slNe: ∀{j k s t:Nat},sl[j]? =some s→sl[k]? =some t→j≠k→s≠t:=fun {j k s t} hj hk hne e=>by
  subst e;have hj':=(List.getElem?_eq_some_iff.1 hj).1;have hk':=(List.getElem?_eq_some_iff.1 hk).1;have h1:(sl.map some)[j]? =(sl.map some)[k]? :=(by rw[List.getElem?_map,List.getElem?_map,hj,hk]);exact hne ((List.getElem?_inj (by simpa using hj') hnd').1 h1)
 refine wp_region_flow hm hback hdst hin (fun L A W=>(∀(j:Nat) (p:Oper),ops[j]? =some p→L j=true→ ∀e∈p.after,Region.binds .any e=true→L e.on=true)∧(L n=false→J W∧A.tmps.size=a0.tmps.size∧ ∀(j s:Nat),sl[j]? =some s→L j=true→sp j (A.tmps.getD s undef) W)∧(L n=true→Q .normal A W)) (fun _ _ _=>True) ?_ ?_ ?_
 ·intro L h;refine⟨fun j p hp hj=> ?_,fun _=>⟨hJ0,rfl,fun j s hj hL=> ?_⟩,fun h'=> ?_⟩
  ·have:=h j (Array.getElem?_eq_some_iff.1 hp).1;rw[this]at hj;cases hj
  ·have:=h j (by have:=(List.getElem?_eq_some_iff.1 hj).1;omega);rw[this]at hL;cases hL
  ·rw[h n (by omega)]at h';cases h'
 ·intro i o L A W ho hLi hdep hJ hdef hkept hhas;clear hhas;obtain⟨hc,hbel,hdone⟩:=hJ;have hi:i<ops.size:=(Array.getElem?_eq_some_iff.1 ho).1
  have hLn:L n=false:=by
   cases h:L n with
   |false=>rfl
   |true=>
    have:=use_all huse hn hc h n i (by omega) (by omega);rw[this]at hLi;cases hLi
  obtain⟨hbw,hsz,hread⟩:=hbel hLn
  have hc': ∀(j:Nat) (p:Oper),ops[j]? =some p→(decide (i=j)||L j)=true→ ∀e∈p.after,Region.binds .any e=true→(decide (i=e.on)||L e.on)=true:=by
   intro j p hp hj e he hb;by_cases hij:i=j
   ·subst hij;rw[ho]at hp;cases hp;rw[hdep e he hb];simp
   ·rw[hc j p hp (by simpa[hij] using hj) e he hb];simp
  by_cases hin':i=n
  ·subst hin'
   have hall: ∀j,j<i→L j=true:=fun j hj=>by
    have:=use_all huse hn hc' (L:=fun k=>decide (i=k)||L k) (by simp) i j (by omega) (by omega);simpa[show i≠j by omega] using this
   refine wpOp_mono ?_ (hlast o W A ho hbw (fun j s hj=>hread j s hj (hall j (by have:=(List.getElem?_eq_some_iff.1 hj).1;omega))) (fun s h=>hkept s fun j p hp _=>nd h j p hp) fun ds hd hv=> ?_)
   ·rintro a' W' ⟨⟨v,hv⟩,hq⟩;exact⟨v,hv,fun _=>trivial,fun _ _ _ _=>trivial,hc',fun h=>by simp at h,fun _=>hq⟩
   ·refine act_is ds hdef hsz (by rw[show ds.map (fun p=>some p.1)=(ds.map (fun p=>p.1)).map some by rw[List.map_map];rfl,hd];exact hnd') (fun s h=>hkept s fun j p hp hj e=> ?_) (fun j s v hj=>hv j s v hj)
    have hjn:j<i:=by
     have h1:=(Array.getElem?_eq_some_iff.1 hp).1;have h2:j≠i:=fun e'=>(by rw[e',hLn]at hj;cases hj);omega
    obtain⟨s',hs',hd'⟩:=atD hjn hp;rw[hd']at e;cases e;rw[←hd,List.getElem?_map]at hs';cases hq:ds[j]? with
    |none=>rw[hq]at hs';cases hs'
    |some q=>
     rw[hq]at hs';exact h q (List.mem_of_getElem? hq) (Option.some.inj hs')
  ·obtain⟨s,hs,hd⟩:=atD (show i<n by omega) ho
   have hsl:s<A.tmps.size:=by
    have q1:=List.all_eq_true.1 hin i (by simpa using hi);rw[ho]at q1;simp only[Option.bind_some,hd]at q1;rw[hsz];simpa using q1
   refine wpOp_mono ?_ (hstep i s o L A W ho hs hdep hbw (fun s' h=>hkept s' fun j p hp _=>nd h j p hp) hread);rintro a' W' ⟨v,rfl,hv,hJ',hb⟩;refine⟨v,by rw[hd],fun _=>trivial,fun _ _ _ _=>trivial,hc',fun _=>⟨hJ',by simpa[Act.put] using hsz,fun j t hj hL=> ?_⟩,fun h=> ?_⟩
   ·by_cases hij:i=j
    ·subst hij;rw[hs]at hj;cases hj;rw[show(A.put (some s) v).tmps.getD s undef=v from getD_set_same _ _ _ hsl];exact hv
    ·rw[show(A.put (some s) v).tmps.getD t undef=A.tmps.getD t undef from getD_set_other _ _ _ _ (slNe hs hj hij)];exact hmono _ _ hb j _ (hread j t hj (by simpa[hij] using hL))
   ·simp[hin',hLn]at h
 ·intro L A W hL hJ hdef hsize hkept hhas;exact hJ.2.2 (hL n (by omega))
end
end Go.Proofs.YtpmobjgnmidolaaDoor
/- What masks.first comes to: the first minute that a mask has, from one on. -/
namespace Go.Proofs.YtpmobjgnmidolaaDoor
open Go.RowKit Msk
def FirstAt (f:Nat→Bool)(p r:Nat):Prop:=p≤r∧r≤1440∧(∀i,p≤i→i<r→f i=false)∧(r<1440→f r=true)
theorem shr_zero (f:Nat→Bool)(k q r x:Nat)(hq:q=k/64)(hr:r=k%64)(hx:x=wd f q/2^r)(h0:x=0): ∀i,k≤i→i<64*q+64→f i=false:=by
 intro i h1 h2
 have hb:(wd f q/2^r).testBit (i-k)=f i:=by
  rw[shr_bit,wd_bit];have e1:64*q+(i-k+r)=i:=(by omega);have e2:i-k+r<64:=(by omega);simp[e1,e2]
 rw[←hx,h0]at hb;simpa using hb.symm
theorem shr_some (f:Nat→Bool)(k q r x t:Nat)(hq:q=k/64)(hr:r=k%64)(hx:x=wd f q/2^r)(h1:x.testBit t=true)(h2: ∀j,j<t→x.testBit j=false):
  f (k+t)=true∧k+t<64*q+64∧ ∀i,k≤i→i<k+t→f i=false:=by
 subst hx
 have hb: ∀j,(wd f q/2^r).testBit j=(decide (j+r<64)&&f (k+j)):=by
  intro j;rw[shr_bit,wd_bit];have e1:64*q+(j+r)=k+j:=(by omega);rw[e1]
 rw[hb]at h1;simp only[Bool.and_eq_true,decide_eq_true_eq]at h1;refine⟨h1.2,by omega,fun i a b=> ?_⟩;have:=h2 (i-k) (by omega);rw[hb]at this;have e2:i-k+r<64:=by omega
 have e3:k+(i-k)=i:=by omega
 simpa[e2,e3] using this
set_option maxRecDepth 10000 in
set_option maxHeartbeats 2000000 in
theorem first_bit (f:Nat→Bool)(p:Nat)(hp:p≤1440)(w:World)(hT:Tab w):
  Calls Tryd.prog 92 #[.agg (mv f),.int .i64 p] w fun e w'=>(∃r:Nat,e= .returned (.int .i64 r)∧FirstAt f p r)∧Below w.heap.size w w':=by
 have h1:(w.alloc (.cells (mv f) 37)).heap[w.heap.size]? =some (.cells (mv f) 37 (0,0)):=by (repeat (first | refine blk_old _ _ _ (by simp only [size_alloc]; omega) ?_ | exact blk_new _ _ _ (by first | rfl | simp only [size_alloc])))
 have hb0:Below w.heap.size w (w.alloc (.cells (mv f) 37)):=(Below.refl _ _).alloc (Nat.le_refl _) _;have hT':=hT.later hb0;have HT:Hid (Tab (w.alloc (.cells (mv f) 37))):=hT';clear hT hT';go_enter Tryd.func92,Tryd.ntmps92;go_wp2;go_loop [5] (fun a=> ∃k:Nat,p≤k∧k≤1472∧a= .int .i64 k∧ ∀i,p≤i→i<k→f i=false) (fun a=>1472-(intOf a).toNat);case atStart=>exact⟨p,Nat.le_refl _,by omega,rfl,fun i a b=>by omega⟩
 case round=>
  obtain⟨k,hpk,hk2,rfl,hno⟩:=hrel;have HN:Hid (∀i,p≤i→i<k→f i=false):=hno;clear hno;by_cases hlt:k<1440
  ·obtain⟨q,hq⟩: ∃q:Nat,q=k/64:=⟨_,rfl⟩
   obtain⟨r,hr⟩: ∃r:Nat,r=k%64:=⟨_,rfl⟩
   have t1:(k:Int)/64=(q:Int):=(by omega);have t2:(k:Int)%64=(r:Int):=(by omega);have hq23:q<23:=(by omega);have hi0:(0:Int)≤(q:Int):=(by omega);have hi1:(q:Int)<23:=(by omega);have hr1:(r:Int)<64:=(by omega);have ca:=cell_mv h1 q hq23;obtain⟨x,hx⟩: ∃x:Nat,x=wd f q/2^r:=⟨_,rfl⟩
   have hxl:x<18446744073709551616:=(by have:=wd_lt f q;have:=Nat.div_le_self (wd f q) (2^r);omega);have p1:(wd f q:Int)/2^r=(x:Int):=(by rw[hx];simp);have cw:=fun w=>wordEnd_any k (by omega) w;obtain⟨m,hm⟩: ∃m:Nat,m=64*(k/64)+64:=⟨_,rfl⟩
   rw[←hm]at cw;by_cases hx0:x=0
   ·have z:=shr_zero f k q r x hq hr hx hx0;have x0:((x:Int) !=0)=false:=(by simp[hx0]);have HZ:Hid (∀i,k≤i→i<64*q+64→f i=false):=z;have hm':m=64*q+64:=(by omega);have HM:Hid (m=64*q+64):=hm';have HQ:Hid (q=k/64):=hq;clear z hx hx0 hq hr hm hm';go_wp2_with(go_at_call 115;refine(cw _).mono ?_;rintro e w' ⟨rfl,rfl⟩)
    have hM:=HM.out;have hQ:=HQ.out;go_round
    case rel=>
     refine⟨m,by omega,by omega,rfl,fun i a b=> ?_⟩;by_cases hik:i<k
     ·exact HN.out i a hik
     ·exact HZ.out i (by omega) (by omega)
    case measure=>simp[intOf];omega
   ·obtain⟨t,ht64,hb1,hb2,ct⟩:=tz_any x hxl hx0 _ HT.out;obtain⟨s1,s2,s3⟩:=shr_some f k q r x t hq hr hx hb1 hb2;have x0:((x:Int) !=0)=true:=(by simp[hx0]);have HS:Hid (f (k+t)=true∧k+t<64*q+64∧ ∀i,k≤i→i<k+t→f i=false):=⟨s1,s2,s3⟩
    have HE:Hid (∀j,j<t→x.testBit j=false):=hb2;clear hx hx0 hq hr hm hb1 hb2 s1 s3 cw;by_cases hle:k+t≤1440
    ·go_wp2_with(go_at_call 116;refine ct.mono ?_;rintro e w' ⟨rfl,rfl⟩)
     go_ret;refine⟨⟨k+t,ret_val (int_eq (by omega)),?_⟩,hb0⟩;refine⟨by omega,hle,fun i a b=> ?_,fun _=>HS.out.1⟩;by_cases hik:i<k
     ·exact HN.out i a hik
     ·exact HS.out.2.2 i (by omega) b
    ·go_wp2_with(go_at_call 116;refine ct.mono ?_;rintro e w' ⟨rfl,rfl⟩)
     go_ret;refine⟨⟨1440,ret_val (int_eq (by omega)),?_⟩,hb0⟩;refine⟨by omega,by omega,fun i a b=> ?_,fun h=>by omega⟩;by_cases hik:i<k
     ·exact HN.out i a hik
     ·exact HS.out.2.2 i (by omega) (by omega)
  ·go_wp2;go_ret;refine⟨⟨1440,ret_val (int_eq (by omega)),?_⟩,hb0⟩;exact⟨by omega,by omega,fun i a b=>HN.out i a (by omega),fun h=>by omega⟩
end Go.Proofs.YtpmobjgnmidolaaDoor
/- The flow law, as the later texts have it. -/
