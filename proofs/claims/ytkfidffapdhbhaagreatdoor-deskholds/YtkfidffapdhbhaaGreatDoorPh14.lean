/- Texts of the proof. -/
import Derived.Test.YtkfidffapdhbhaaGreatDoorPh13
set_option maxRecDepth 100000
set_option maxHeartbeats 8000000
namespace Go.Proofs.YtkfidffapdhbhaaGreatDoor
open Go.Proofs.Tryz Go.RowKit Lx Vx Mx Msk
def exV (e:Ex)(sl:Value):Value:= .agg #[ag e.kind,ag e.a,ag e.b,.string ⟨e.name.toArray⟩,sl]
def TyE (w:World)(g:Nat):Prop:= ∃(cs:Array Value) (fr:Nat×Nat),w.heap[g]? =some (.cells cs 104 fr)
def dw (B:Nat->Prop):Nat->World->Value->List Ex->Prop
 |0,_,sl,ks=>ks=[]/\ ∃p c,sl= .slice p 0 c
 |d+1,w,sl,ks=>(ks=[]/\ ∃p c,sl= .slice p 0 c)\/ ∃g o c:Nat,(B g/\TyE w g)/\sl= .slice (some (ae g o)) ks.length c/\ks.length<9223372036854775808/\ ∀(j:Nat) (k:Ex),ks[j]? =some k-> ∃sk:Value,
  w.cell? (ae g (o+j*5))=some (ag k.kind)/\w.cell? (ae g (o+j*5+1))=some (ag k.a)/\w.cell? (ae g (o+j*5+2))=some (ag k.b)/\
  w.cell? (ae g (o+j*5+3))=some (.string ⟨k.name.toArray⟩)/\w.cell? (ae g (o+j*5+4))=some sk/\dw B d w sk k.kids
theorem dw.up {B:Nat->Prop}: ∀{d:Nat} {w:World} {sl:Value} {ks:List Ex},dw B d w sl ks->dw B (d+1) w sl ks
 |0,_,_,_,h=> .inl h
 |d+1,w,sl,ks,h=>by
  rcases h with h|⟨g,o,c,hB,hs,hl,hk⟩
  ·exact .inl h
  ·refine .inr ⟨g,o,c,hB,hs,hl,fun j k hj=> ?_⟩;obtain⟨sk,c0,c1,c2,c3,c4,r⟩:=hk j k hj;exact⟨sk,c0,c1,c2,c3,c4,dw.up r⟩
theorem dw.le {B:Nat->Prop}{d d':Nat}{w:World}{sl:Value}{ks:List Ex}(h:dw B d w sl ks)(hd:d<=d'):dw B d' w sl ks:=by
 obtain⟨n,rfl⟩: ∃n,d'=d+n:=⟨d'-d,by omega⟩
 clear hd;induction n with
 |zero=>exact h
 |succ n ih=>exact dw.up ih
theorem dw.kept {B:Nat->Prop}{w w':World}(hw: ∀g,B g->g<w.heap.size->w'.heap[g]? =w.heap[g]?): ∀{d:Nat} {sl:Value} {ks:List Ex},dw B d w sl ks->dw B d w' sl ks
 |0,_,_,h=>h
 |d+1,sl,ks,h=>by
  rcases h with h|⟨g,o,c,hB,hs,hl,hk⟩
  ·exact .inl h
  ·have ht:TyE w' g:=by
    obtain⟨cs,fr,h⟩:=hB.2;exact⟨cs,fr,(hw g hB.1 (aH h)).trans h⟩
   refine .inr ⟨g,o,c,⟨hB.1,ht⟩,hs,hl,fun j k hj=> ?_⟩;obtain⟨sk,c0,c1,c2,c3,c4,r⟩:=hk j k hj;have e:w'.heap[g]? =w.heap[g]? :=hw g hB.1 (bP c0);have ce: ∀i,w'.cell? (ae g i)=w.cell? (ae g i):=fun i=>dY e;exact⟨sk,(ce _).trans c0,(ce _).trans c1,(ce _).trans c2,(ce _).trans c3,(ce _).trans c4,dw.kept hw r⟩
theorem dw.mono {B B':Nat->Prop}(hB: ∀g,B g->B' g): ∀{d:Nat} {w:World} {sl:Value} {ks:List Ex},dw B d w sl ks->dw B' d w sl ks
 |0,_,_,_,h=>h
 |d+1,w,sl,ks,h=>by
  rcases h with h|⟨g,o,c,hg,hs,hl,hk⟩
  ·exact .inl h
  ·refine .inr ⟨g,o,c,⟨hB g hg.1,hg.2⟩,hs,hl,fun j k hj=> ?_⟩;obtain⟨sk,c0,c1,c2,c3,c4,r⟩:=hk j k hj;exact⟨sk,c0,c1,c2,c3,c4,dw.mono hB r⟩
theorem dw.lt {B:Nat->Prop}: ∀{d:Nat} {w:World} {sl:Value} {ks:List Ex},dw B d w sl ks->dw (fun k=>B k/\k<w.heap.size) d w sl ks
 |0,_,_,_,h=>h
 |d+1,w,sl,ks,h=>by
  rcases h with h|⟨g,o,c,hg,hs,hl,hk⟩
  ·exact .inl h
  ·cases ks with
   |nil=>exact .inl ⟨rfl,_,_,hs⟩
   |cons k0 ks=>
    obtain⟨_,c0,_⟩:=hk 0 k0 rfl;refine .inr ⟨g,o,c,⟨⟨hg.1,bP c0⟩,hg.2⟩,hs,hl,fun j k hj=> ?_⟩;obtain⟨sk,c0,c1,c2,c3,c4,r⟩:=hk j k hj;exact⟨sk,c0,c1,c2,c3,c4,dw.lt r⟩
theorem dw.other {B:Nat->Prop}{b:Nat}{cs:Array Value}{t:TypeId}{fr:Nat×Nat}: ∀{d:Nat} {w:World} {sl:Value} {ks:List Ex},w.heap[b]? =some (.cells cs t fr)->t≠104->dw B d w sl ks->dw (fun k=>B k/\k≠b) d w sl ks
 |0,_,_,_,_,_,h=>h
 |d+1,w,sl,ks,hb,ht,h=>by
  rcases h with h|⟨g,o,c,hg,hs,hl,hk⟩
  ·exact .inl h
  ·have hne:g≠b:=by
    rintro rfl;obtain⟨cs',fr',h'⟩:=hg.2;rw[hb]at h';exact ht (Obj.cells.inj (aN h')).2.1
   refine .inr ⟨g,o,c,⟨⟨hg.1,hne⟩,hg.2⟩,hs,hl,fun j k hj=> ?_⟩;obtain⟨sk,c0,c1,c2,c3,c4,r⟩:=hk j k hj;exact⟨sk,c0,c1,c2,c3,c4,dw.other hb ht r⟩
theorem dw.nil (B:Nat->Prop)(d:Nat)(w:World)(p:Option Addr)(c:Nat):dw B d w (.slice p 0 c) []:=by
 cases d with
 |zero=>exact⟨rfl,p,c,rfl⟩
 |succ d=>exact .inl ⟨rfl,p,c,rfl⟩
theorem dw.form {B:Nat->Prop}{d:Nat}{w:World}{sl:Value}{ks:List Ex}(h:dw B d w sl ks): ∃p c,sl= .slice p ks.length c:=by
 cases d with
 |zero=>
  obtain⟨rfl,p,c,rfl⟩:=h;exact⟨p,c,rfl⟩
 |succ d=>
  rcases h with⟨rfl,p,c,rfl⟩|⟨g,o,c,_,hs,_⟩
  ·exact⟨p,c,rfl⟩
  ·exact⟨_,c,hs⟩
abbrev bo (g:Nat)(w w':World):Prop:=w.grownBy w' (some g)
theorem bo.refl (g:Nat)(w:World):bo g w w:=⟨rfl,rfl,rfl,aB _,fun _ _ _=>rfl⟩
theorem bo.trans {g:Nat}{w w' w'':World}(h:bo g w w')(h':bo g w' w''):bo g w w'':=
 ⟨h'.os.trans h.os,h'.tape.trans h.tape,h'.output.trans h.output,bf h.size h'.size,fun k hk hne=>(h'.block k (aT hk h.size) hne).trans (h.block k hk hne)⟩
theorem bo.of_below {g:Nat}{w w':World}(h:aq w w'):bo g w w':=⟨h.os,h.tape,h.output,h.size,fun k hk _=>h.block k hk⟩
theorem bo.kids {B:Nat->Prop}{g d:Nat}{w w':World}{sl:Value}{ks:List Ex}(h:bo g w w')(hg: ∀k,B k->k≠g)(hk:dw B d w sl ks):dw B d w' sl ks:=
 hk.kept fun k hB hl=>h.block k hl (fun e=>hg k hB (aN e))
theorem bo.row {g:Nat}{w w':World}{v:Value}{ts:List (T1×Nat)}(h:bo g w w')(hv:v.ownBlock≠some g)(hr:rh w v ts):rh w' v ts:=by
 rcases hr with hr|⟨gt,o,c,hs,hl,hc⟩
 ·exact .inl hr
 ·refine .inr ⟨gt,o,c,hs,hl,fun j t k hj=> ?_⟩;obtain⟨c1,c2,c3,c4⟩:=hc j t k hj;have hne:gt≠g:=fun e=>hv (by rw[hs,e];rfl);have e:w'.heap[gt]? =w.heap[gt]? :=h.block gt (bP c1) (fun e=>hne (aN e));have ce: ∀i,w'.cell? (ae gt i)=w.cell? (ae gt i):=fun i=>dY e;exact⟨(ce _).trans c1,(ce _).trans c2,(ce _).trans c3,(ce _).trans c4⟩
structure PS0 (all:List Tk)(E g:Nat)(v:Value):Prop where
 len:all.length<=6000
 fin:E<=6000
 own:v.ownBlock≠some g
 num: ∀p∈all,0<=p.1.n/\p.1.n<=999999
 glob:3≠g
def qd (w:World):Prop:= ∀j:Nat,j<7->w.cell? (ae 3 j)=some (.string ⟨(fy.getD j []).toArray⟩)
theorem bo.days {g:Nat}{w w':World}(h:bo g w w')(hg:3≠g)(hd:qd w):qd w':=fun j hj=>by
 have c:=hd j hj;exact(dY (h.block 3 (bP c) (fun e=>hg (aN e)))).trans c
structure PSt (all:List Tk)(E g:Nat)(v:Value)(w:World)(i n:Nat):Prop where
 blk:w.heap[g]? =ah #[v,ag (i:Int),ag (E:Int),ag (n:Int)] 128
 row:rh w v all
 le:i<=all.length
 tab:qd w
theorem PSt.below {all:List Tk}{E g:Nat}{v:Value}{w w':World}{i n:Nat}(h:PSt all E g v w i n)(hb:aq w w')(h0:PS0 all E g v):PSt all E g v w' i n:=
 ⟨(hb.block g (aH h.blk)).trans h.blk,(bo.of_below (g:=g) hb).row h0.own h.row,h.le,(bo.of_below (g:=g) hb).days h0.glob h.tab⟩
def j9 (E:Nat)(r:List Tk):Value:= .agg #[ag (kindP r),ag (numP r),ag (atP E r:Int),.string ⟨(textP r).toArray⟩]
theorem fc:prog.underlying 104=some (.struct (prog.fieldsOf 104)):=by kernel_rfl
theorem rG {fn:Func}(s:Nat)(h:fn.results= #[ResultVar.cell s 162]){R:Ending->World->Prop}{a:Act}{w:World}(g:Nat)(c0 c1 c2 c3:Value)(hd:a.defers=[])(h2:a.tmps.getD s undef=ab g 0)
  (hg:w.heap[g]? =ah #[c0,c1,c2,c3] 162) (hR:R (.returned (.agg #[c0,c1,c2,c3])) w):bodyPost prog fn R .ret a w:=by
 refine aW (v:= .agg #[c0,c1,c2,c3]) ?_ hd hR;have h2':a.tmps[s]?.getD undef=ab g 0:=by simpa using h2
 have hv:=dV (P:=prog) w g 162 162 _ _ _ hg yr rfl (by kernel_rfl);simp[results,h,h2',asAddr,hv]
theorem jJ {fn:Func}(s:Nat)(h:fn.results= #[ResultVar.cell s 104]){R:Ending->World->Prop}{a:Act}{w:World}(g:Nat)(c0 c1 c2 c3 c4:Value)(hd:a.defers=[])(h2:a.tmps.getD s undef=ab g 0)
  (hg:w.heap[g]? =ah #[c0,c1,c2,c3,c4] 104) (hR:R (.returned (.agg #[c0,c1,c2,c3,c4])) w):bodyPost prog fn R .ret a w:=by
 refine aW (v:= .agg #[c0,c1,c2,c3,c4]) ?_ hd hR;have h2':a.tmps[s]?.getD undef=ab g 0:=by simpa using h2
 have hv:=dV (P:=prog) w g 104 104 _ _ _ hg fc rfl (by kernel_rfl);simp[results,h,h2',asAddr,hv]
theorem Gh (c0 c1 c2 c3:Value)(w:World):(Instr.field 162 (.agg #[c0,c1,c2,c3]) 0).run prog w= .ok c0 w:=by
 unfold Instr.field;simp[go_sem,asAgg]
theorem Gi (c0 c1 c2 c3:Value)(w:World):(Instr.field 162 (.agg #[c0,c1,c2,c3]) 1).run prog w= .ok c1 w:=by
 unfold Instr.field;simp[go_sem,asAgg]
theorem Gj (c0 c1 c2 c3:Value)(w:World):(Instr.field 162 (.agg #[c0,c1,c2,c3]) 2).run prog w= .ok c2 w:=by
 unfold Instr.field;simp[go_sem,asAgg]
theorem Gk (c0 c1 c2 c3:Value)(w:World):(Instr.field 162 (.agg #[c0,c1,c2,c3]) 3).run prog w= .ok c3 w:=by
 unfold Instr.field;simp[go_sem,asAgg]
attribute [go_sem] Gh Gi Gj Gk
theorem mJ {all:List Tk}{E g:Nat}{v:Value}{w:World}{i n:Nat}(h0:PS0 all E g v)(h:PSt all E g v w i n):
  Calls prog 120 #[.pointer (some ⟨g,0,none⟩)] w fun e w'=>e= .returned (j9 E (all.drop i))/\aq w w':=by
 have hgl:=aH h.blk;have hA:=(dJ w (.cells #[.int .i64 0,.int .i64 0,.int .i64 0,.string ⟨#[]⟩] 162) _ hgl).trans h.blk;have k0:=ak 0 hA;have k1:=ak 1 hA;have k2:=ak 2 hA;have hb0:aq w (w.alloc (.cells #[.int .i64 0,.int .i64 0,.int .i64 0,.string ⟨#[]⟩] 162)):=am _ _;have hn:=aE w (.cells #[.int .i64 0,.int .i64 0,.int .i64 0,.string ⟨#[]⟩] 162);have hlen:=h0.len;have hle:=h.le;have hrow:=h.row;by_cases hi:i<all.length
 ·have hi':(i:Int)<(all.length:Int):=by omega
  have hi0:(0:Int)<=(i:Int):=(by omega);rcases hrow with⟨_,_,e⟩|⟨gt,o,c,rfl,_,hc⟩
  ·rw[e]at hi;simp at hi
  obtain⟨⟨t,k⟩,htk⟩: ∃q,all[i]? =some q:=⟨all[i],az hi⟩
  obtain⟨c0,c1,c2,c3⟩:=hc i t k htk;have d0:=aj hb0 c0;have d1:=aj hb0 c1;have d2:=aj hb0 c2;have d3:=aj hb0 c3
  have ed:all.drop i=(t,k)::all.drop (i+1):=by
   obtain⟨h1,h2⟩:=aF.1 htk;rw[bv h1,h2]
  have HR:PH (j9 E (all.drop i)= .agg #[.int .i64 t.kind,.int .i64 t.n,.int .i64 (k:Int),.string ⟨t.text.toArray⟩]):=by
   show _=_;rw[ed];rfl
  clear hA hgl ed h hc c0 c1 c2 c3 htk;generalize (⟨t.text.toArray⟩:ByteArray)=x at*;generalize hw1:w.alloc (.cells #[.int .i64 0,.int .i64 0,.int .i64 0,.string ⟨#[]⟩] 162)=w1 at*;go_enter func120,ntmps120;go_wp2;go_quiet (fail);have hn2:(w1.drewN nq).heap[w.heap.size]? =some (.cells #[.int .i64 0,.int .i64 0,.int .i64 0,.string ⟨#[]⟩] 162 (0,0)):=hn;have e0:(w1.drewN nq).cell? ⟨g,0,none⟩=some (.slice (some ⟨gt,o,none⟩) all.length c):=k0;have e1:(w1.drewN nq).cell? ⟨g,1,none⟩=some (.int .i64 (i:Int)):=k1;have f0:(w1.drewN nq).cell? ⟨gt,o+i*4,none⟩=some (.int .i64 t.kind):=d0;have f1:(w1.drewN nq).cell? ⟨gt,o+i*4+1,none⟩=some (.int .i64 t.n):=d1;have f2:(w1.drewN nq).cell? ⟨gt,o+i*4+2,none⟩=some (.int .i64 (k:Int)):=d2;have f3:(w1.drewN nq).cell? ⟨gt,o+i*4+3,none⟩=some (.string x):=d3;have hb2:=dB hb0 nq;clear hw1 k0 k1 k2 hn hb0 d0 d1 d2 d3;generalize w1.drewN nq=w2 at*;have z0:=ak 0 hn2;have z1:=ak 1 hn2;have z2:=ak 2 hn2;have z3:=ak 3 hn2;have y0:=bl _ _ 0 _ _ hn2;have y1:=bl _ _ 1 _ _ hn2;have y2:=bl _ _ 2 _ _ hn2;have y3:=bl _ _ 3 _ _ hn2
  have hm:((((w2.setCell ⟨w.heap.size,0,none⟩ (.int .i64 t.kind)).setCell ⟨w.heap.size,1,none⟩ (.int .i64 t.n)).setCell ⟨w.heap.size,2,none⟩ (.int .i64 (k:Int))).setCell ⟨w.heap.size,3,none⟩ (.string x)).heap[w.heap.size]? =some (.cells #[.int .i64 t.kind,.int .i64 t.n,.int .i64 (k:Int),.string x] 162 (0,0)):=
   aY _ _ 3 _ _ _ (aY _ _ 2 _ _ _ (aY _ _ 1 _ _ _ (aY _ _ 0 _ _ _ hn2)))
  have hb3:=(((hb2.setCell (p:=⟨w.heap.size,0,none⟩) (aB _) (.int .i64 t.kind)).setCell (p:=⟨w.heap.size,1,none⟩) (aB _) (.int .i64 t.n)).setCell (p:=⟨w.heap.size,2,none⟩) (aB _) (.int .i64 (k:Int))).setCell (p:=⟨w.heap.size,3,none⟩) (aB _) (.string x);go_wp2;go_region;go_wp2;exact rG 2 (by kernel_rfl) w.heap.size (.int .i64 t.kind) (.int .i64 t.n) (.int .i64 (k:Int)) (.string x) rfl rfl hm ⟨by rw[HR.o],dB hb3 1⟩
 ·have hi': ¬(i:Int)<(all.length:Int):=by omega
  obtain⟨p,c,rfl⟩:=rh.form hrow;have ed:all.drop i=[]:=List.drop_eq_nil_of_le (by omega);rw[ed];clear hA hgl ed hrow h;generalize hw1:w.alloc (.cells #[.int .i64 0,.int .i64 0,.int .i64 0,.string ⟨#[]⟩] 162)=w1 at*;go_enter func120,ntmps120;go_wp2;go_quiet (fail);have hn2:(w1.drewN nq).heap[w.heap.size]? =some (.cells #[.int .i64 0,.int .i64 0,.int .i64 0,.string ⟨#[]⟩] 162 (0,0)):=hn;have e2:(w1.drewN nq).cell? ⟨g,2,none⟩=some (.int .i64 (E:Int)):=k2;have hb2:=dB hb0 nq;clear hw1 k0 k1 k2 hn hb0;generalize w1.drewN nq=w2 at*;go_wp2_with(refine ay rfl 162 _ _ rfl _ _ rfl rfl _ _ hn2 (by kernel_rfl) (by simp) (by simp[Value.oneCell']) ?_)
  exact rG 2 (by kernel_rfl) w.heap.size _ _ _ _ rfl rfl (aL _ _ _ _ _ _ hn2) ⟨rfl,below_setRow hb2 (aB _) _⟩
def jk (er:Int)(at_:Nat):List PanicEntry:=[{v:= .iface 126 (.agg #[.int .i64 er,.int .i64 (at_:Int)]),recovered:=false}]
theorem ld {all:List Tk}{E g:Nat}{v:Value}{w:World}{i n:Nat}(h0:PS0 all E g v)(h:PSt all E g v w i n)(er:Int):
  Calls prog 87 #[.pointer (some ⟨g,0,none⟩),.int .i64 er] w fun e w'=>e= .panicked (jk er (atP E (all.drop i)))/\aq w w':=by
 have c:=mJ h0 h;unfold j9 at c;generalize atP E (all.drop i)=a at*;go_enter func87,ntmps87;go_wp2_with fail;refine c.mono ?_;rintro e w1 ⟨rfl,hb1⟩;go_wp2_with fail;exact⟨rfl,rfl,hb1⟩
theorem Gl (x y:List UInt8):((⟨x.toArray⟩:ByteArray).toList==(⟨y.toArray⟩:ByteArray).toList)=(x==y):=by rw[Lib.toList_data,Lib.toList_data]
theorem bo.set (w:World)(g j:Nat)(u:Value):bo g w (w.setCell ⟨g,j,none⟩ u):=⟨rfl,rfl,rfl,by simp,fun k _ hk=>aO w ⟨g,j,none⟩ k u (fun e=>hk (by rw[e]))⟩
theorem PSt.of_kept {all:List Tk}{E g:Nat}{v:Value}{w:World}{i n i' n':Nat}{w':World}(h:PSt all E g v w i n)(h0:PS0 all E g v)(hk:bo g w w')(hb:w'.heap[g]? =some (.cells #[v,.int .i64 (i':Int),.int .i64 (E:Int),.int .i64 (n':Int)] 128 (0,0)))(hi:i'<=all.length):PSt all E g v w' i' n':=
 ⟨hb,hk.row h0.own h.row,hi,hk.days h0.glob h.tab⟩
theorem PSt.set {all:List Tk}{E g:Nat}{v:Value}{w:World}{i n:Nat}(h:PSt all E g v w i n)(h0:PS0 all E g v)(hi:i+1<=all.length):PSt all E g v (w.setCell ⟨g,1,none⟩ (.int .i64 ((i+1:Nat):Int))) (i+1) n:=
 h.of_kept h0 (bo.set _ _ _ _) (aY _ _ 1 _ _ _ h.blk) hi
theorem PSt.setN {all:List Tk}{E g:Nat}{v:Value}{w:World}{i n:Nat}(h:PSt all E g v w i n)(h0:PS0 all E g v)(m:Nat):PSt all E g v (w.setCell ⟨g,3,none⟩ (.int .i64 (m:Int))) i m:=
 h.of_kept h0 (bo.set _ _ _ _) (aY _ _ 3 _ _ _ h.blk) h.le
theorem oc {x:List UInt8}{all:List Tk}{i:Nat}(hx:x≠[])(h:isT x (all.drop i)=true):i+1<=all.length:=by
 have:=fp hx h;simp at this;omega
theorem fV {all:List Tk}{E g:Nat}{v:Value}{w:World}{i n:Nat}(h0:PS0 all E g v)(h:PSt all E g v w i n)(x:List UInt8)(hx:x≠[])(hT:isT x (all.drop i)=true):
  Calls prog 119 #[.pointer (some ⟨g,0,none⟩),.string ⟨x.toArray⟩] w fun e w'=>e= .returned (.bool true)/\PSt all E g v w' (i+1) n/\bo g w w':=by
 have c:=mJ h0 h;have hlen:=h0.len;have hi:=oc hx hT;have he:((⟨(textP (all.drop i)).toArray⟩:ByteArray).toList==(⟨x.toArray⟩:ByteArray).toList)=true:=by rw[Gl];exact hT
 unfold j9 at c;generalize (⟨(textP (all.drop i)).toArray⟩:ByteArray)=tx at*;generalize (⟨x.toArray⟩:ByteArray)=xx at*;go_enter func119,ntmps119;go_wp2_with fail;refine c.mono ?_;rintro e w1 ⟨rfl,hb1⟩;have h1:=h.below hb1 h0;have k1:=ak 1 h1.blk;have y1:=bl _ _ 1 _ _ h1.blk;have h2:=h1.set h0 hi;have hk2:=(bo.of_below (g:=g) hb1).trans (bo.set w1 g 1 (.int .i64 ((i+1:Nat):Int)));have ei:(i:Int)+1=((i+1:Nat):Int):=by omega
 have hi6:(i:Int)<=6000:=by omega
 generalize ((i+1:Nat):Int)=vv at*;clear c h h1 hb1 hT;go_wp2_with fail;go_ret;exact⟨rfl,h2,hk2⟩
section
variable {all:List Tk} {E g:Nat} {v:Value} {w:World} {i n:Nat}
theorem ew (h0:PS0 all E g v)(h:PSt all E g v w i n)(x:List UInt8)(hT:isT x (all.drop i)=false):
  Calls prog 119 #[.pointer (some ⟨g,0,none⟩),.string ⟨x.toArray⟩] w fun e w'=>e= .returned (.bool false)/\PSt all E g v w' i n/\bo g w w':=by
 have c:=mJ h0 h;have he:((⟨(textP (all.drop i)).toArray⟩:ByteArray).toList==(⟨x.toArray⟩:ByteArray).toList)=false:=by rw[Gl];exact hT
 unfold j9 at c;generalize (⟨(textP (all.drop i)).toArray⟩:ByteArray)=tx at*;generalize (⟨x.toArray⟩:ByteArray)=xx at*;clear hT;go_enter func119,ntmps119;go_wp2_with fail;refine c.mono ?_;rintro e w1 ⟨rfl,hb1⟩;have h1:=h.below hb1 h0;have hk1:=bo.of_below (g:=g) hb1;clear c h hb1;go_wp2_with fail;go_ret;exact⟨rfl,h1,hk1⟩
theorem od (h0:PS0 all E g v)(h:PSt all E g v w i n)(x:List UInt8)(hx:x≠[])(hT:isT x (all.drop i)=true):
  Calls prog 86 #[.pointer (some ⟨g,0,none⟩),.string ⟨x.toArray⟩] w fun e w'=>e= .returned (.tuple #[])/\PSt all E g v w' (i+1) n/\bo g w w':=by
 have c:=fV h0 h x hx hT;clear hT h;go_enter func86,ntmps86;go_wp2_with fail;refine c.mono ?_;rintro e w1 ⟨rfl,h1,hk1⟩;go_wp2_with fail;go_end0;exact⟨rfl,h1,hk1⟩
theorem pR (h0:PS0 all E g v)(h:PSt all E g v w i n)(x:List UInt8)(hT:isT x (all.drop i)=false):
  Calls prog 86 #[.pointer (some ⟨g,0,none⟩),.string ⟨x.toArray⟩] w fun e w'=>e= .panicked (jk 2 (atP E (all.drop i)))/\bo g w w':=by
 have c:=ew h0 h x hT;clear hT h;go_enter func86,ntmps86;go_wp2_with fail;refine c.mono ?_;rintro e w1 ⟨rfl,h1,hk1⟩;go_wp2_with fail;refine(ld h0 h1 2).mono ?_;rintro e w2 ⟨rfl,hb2⟩;exact⟨rfl,rfl,hk1.trans (bo.of_below hb2)⟩
theorem uB (h0:PS0 all E g v)(h:PSt all E g v w i n)(kd:Int)(hk:kindP (all.drop i)=kd):
  Calls prog 143 #[.pointer (some ⟨g,0,none⟩),.int .i64 kd] w fun e w'=>e= .returned (j9 E (all.drop i))/\PSt all E g v w' i n/\aq w w':=by
 have hb0:aq w (w.alloc (.cells #[.int .i64 0,.int .i64 0,.int .i64 0,.string ⟨#[]⟩] 162)):=am _ _;have hn:=aE w (.cells #[.int .i64 0,.int .i64 0,.int .i64 0,.string ⟨#[]⟩] 162);have hA:=h.below hb0 h0;have c:=mJ h0 hA;have c2:=fun(w1:World) (h1:PSt all E g v w1 i n)=>mJ h0 h1;unfold j9 at c c2⊢;rw[hk]at c;generalize hw1:w.alloc (.cells #[.int .i64 0,.int .i64 0,.int .i64 0,.string ⟨#[]⟩] 162)=wA at*;go_enter func143,ntmps143;go_wp2_with fail;refine c.mono ?_;rintro e w1 ⟨rfl,hb1⟩;have h1:=hA.below hb1 h0;have hn1:=ai hb1 hn;have hbw1:=aw hb0 hb1;have hne:(kd !=kd)=false:=by simp
 clear c hA hb1 hw1 hn hb0 hk;go_wp2_with fail;refine(c2 _ h1).mono ?_;rintro e w2 ⟨rfl,hb2⟩;have h2:=h1.below hb2 h0;have hn2:=ai hb2 hn1;have hbw2:=aw hbw1 hb2;clear c2 h1 hb2 hn1 hbw1;have hs:aq w (w2.setRow w.heap.size #[.int .i64 (kindP (all.drop i)),.int .i64 (numP (all.drop i)),.int .i64 (atP E (all.drop i):Int),.string ⟨(textP (all.drop i)).toArray⟩]):=below_setRow hbw2 (aB _) _;go_wp2_with(refine ay rfl 162 _ _ rfl _ _ rfl rfl _ _ hn2 (by kernel_rfl) (by simp) (by simp[Value.oneCell']) ?_)
 exact rG 4 (by kernel_rfl) w.heap.size _ _ _ _ rfl rfl (aL _ _ _ _ _ _ hn2) ⟨rfl,h.below hs h0,hs⟩
theorem A6 (h0:PS0 all E g v)(h:PSt all E g v w i n)(kd:Int)(hk:kindP (all.drop i)≠kd):
  Calls prog 143 #[.pointer (some ⟨g,0,none⟩),.int .i64 kd] w fun e w'=>e= .panicked (jk 2 (atP E (all.drop i)))/\aq w w':=by
 have hb0:aq w (w.alloc (.cells #[.int .i64 0,.int .i64 0,.int .i64 0,.string ⟨#[]⟩] 162)):=am _ _;have hA:=h.below hb0 h0;have c:=mJ h0 hA;unfold j9 at c;have hne:(kindP (all.drop i) !=kd)=true:=by simpa using hk
 have c2:=fun(w1:World) (h1:PSt all E g v w1 i n)=>ld h0 h1 2;generalize kindP (all.drop i)=kq at*;generalize hw1:w.alloc (.cells #[.int .i64 0,.int .i64 0,.int .i64 0,.string ⟨#[]⟩] 162)=wA at*;clear hk;go_enter func143,ntmps143;go_wp2_with fail;refine c.mono ?_;rintro e w1 ⟨rfl,hb1⟩;have h1:=hA.below hb1 h0;have hbw1:=aw hb0 hb1;clear c hA hb1 hw1 hb0;go_wp2_with fail;refine(c2 _ h1).mono ?_;rintro e w2 ⟨rfl,hb2⟩;exact⟨rfl,rfl,aw hbw1 hb2⟩
end
section
variable {all:List Tk} {E g:Nat} {v:Value} {w:World} {i n:Nat}
theorem bo.setRow {w':World}{k:Nat}(h:bo g w w')(hk:w.heap.size<=k)(cs:Array Value):bo g w (w'.setRow k cs):=
 ⟨h.os,h.tape,h.output,by simpa[World.setRow] using h.size,fun j hj hne=>(aV w' k j cs (by omega)).trans (h.block j hj hne)⟩
theorem bo.alloc {w':World}(h:bo g w w')(o:Obj):bo g w (w'.alloc o):=h.trans (bo.of_below (am _ o))
theorem Jd {all:List Tk}{i:Nat}(h:kindP (all.drop i)≠0):i+1<=all.length:=by
 have:=pG h;simp at this;omega
theorem qe (h0:PS0 all E g v)(h:PSt all E g v w i n)(kd:Int)(hkd:kd≠0)(hk:kindP (all.drop i)=kd):
  Calls prog 121 #[ab g 0,ag kd] w fun e w'=>e= .returned (j9 E (all.drop i))/\PSt all E g v w' (i+1) n/\bo g w w':=by
 have hgl:=aH h.blk;have hlen:=h0.len;have hi:i+1<=all.length:=Jd (by rw[hk];exact hkd);have hb0:aq w (w.alloc (.cells #[ag 0,ag 0,ag 0,.string ⟨#[]⟩] 162)):=am _ _;have hn:=aE w (.cells #[ag 0,ag 0,ag 0,.string ⟨#[]⟩] 162);have hA:=h.below hb0 h0;have c:=uB h0 hA kd hk;unfold j9 at c⊢;clear hk hkd;generalize kindP (all.drop i)=t0 at*;generalize numP (all.drop i)=t1 at*;generalize (atP E (all.drop i):Int)=t2 at*;generalize (⟨(textP (all.drop i)).toArray⟩:ByteArray)=t3 at*;generalize hw1:w.alloc (.cells #[ag 0,ag 0,ag 0,.string ⟨#[]⟩] 162)=wA at*;go_enter func121,ntmps121;go_wp2_with fail;refine c.mono ?_;rintro e w1 ⟨rfl,h1,hb1⟩;have hn1:=ai hb1 hn;have hbw1:=aw hb0 hb1;have hws:=aH hn1;have hb2:aq w1 (w1.alloc (.cells #[ag t0,ag t1,ag t2,.string t3] 162)):=am _ _;have h2:=h1.below hb2 h0;have hx2:=aE w1 (.cells #[ag t0,ag t1,ag t2,.string t3] 162);have hn2:=ai hb2 hn1;have hk2:bo g w (w1.alloc (.cells #[ag t0,ag t1,ag t2,.string t3] 162)):=(bo.of_below hbw1).alloc _;clear c hA hb1 hw1 hn hb0 hbw1 hn1 h1 hb2;generalize hw2:w1.alloc (.cells #[ag t0,ag t1,ag t2,.string t3] 162)=w2 at*;have k1:=ak 1 h2.blk;have y1:=bl _ _ 1 _ _ h2.blk;have h3:=h2.set h0 hi;have hk3:=hk2.trans (bo.set w2 g 1 (ag ((i+1:Nat):Int)));have hx3:=(aO w2 ⟨g,1,none⟩ w1.heap.size (ag ((i+1:Nat):Int)) (by show w1.heap.size≠g;omega)).trans hx2;have hn3:=(aO w2 ⟨g,1,none⟩ w.heap.size (ag ((i+1:Nat):Int)) (by show w.heap.size≠g;omega)).trans hn2;have ei:(i:Int)+1=((i+1:Nat):Int):=by omega
 have hi6:(i:Int)<=6000:=by omega
 have HF:PH (∀cs,PSt all E g v ((w2.setCell ⟨g,1,none⟩ (ag ((i+1:Nat):Int))).setRow w.heap.size cs) (i+1) n):=fun cs=>
  h.of_kept h0 (hk3.setRow (aB _) cs) ((aV _ _ _ _ (by omega)).trans h3.blk) h3.le
 have hk4:=fun cs=>hk3.setRow (aB _) cs;generalize ((i+1:Nat):Int)=vv at*;clear h h2 h3 hk2 hk3 hx2 hn2
 go_wp2_with(first
  |(refine aQ rfl 162 _ rfl _ rfl _ _ _ _ hx3 yr rfl (by kernel_rfl) ?_)
  |(refine ay rfl 162 _ _ rfl _ _ rfl rfl _ _ hn3 (by kernel_rfl) (by simp) (by simp[Value.oneCell']) ?_))
 exact rG 4 (by kernel_rfl) w.heap.size _ _ _ _ rfl rfl (aL _ _ _ _ _ _ hn3) ⟨rfl,HF.o _,hk4 _⟩
theorem yt (h0:PS0 all E g v)(h:PSt all E g v w i n)(kd:Int)(hk:kindP (all.drop i)≠kd):
  Calls prog 121 #[ab g 0,ag kd] w fun e w'=>e= .panicked (jk 2 (atP E (all.drop i)))/\bo g w w':=by
 have hb0:aq w (w.alloc (.cells #[ag 0,ag 0,ag 0,.string ⟨#[]⟩] 162)):=am _ _;have hA:=h.below hb0 h0;have c:=A6 h0 hA kd hk;generalize hw1:w.alloc (.cells #[ag 0,ag 0,ag 0,.string ⟨#[]⟩] 162)=wA at*;go_enter func121,ntmps121;go_wp2_with fail;refine c.mono ?_;rintro e w1 ⟨rfl,hb1⟩;exact⟨rfl,rfl,bo.of_below (aw hb0 hb1)⟩
theorem sS (h0:PS0 all E g v)(h:PSt all E g v w i n)(kd m:Int)(hk:kindP (all.drop i)≠kd):
  Calls prog 219 #[ab g 0,ag kd,ag m] w fun e w'=>e= .panicked (jk 2 (atP E (all.drop i)))/\bo g w w':=by
 have hb0:aq w (w.alloc (.cells #[ag 0,ag 0,ag 0,.string ⟨#[]⟩] 162)):=am _ _;have hA:=h.below hb0 h0;have c:=A6 h0 hA kd hk;generalize hw1:w.alloc (.cells #[ag 0,ag 0,ag 0,.string ⟨#[]⟩] 162)=wA at*;go_enter func219,ntmps219;go_wp2_with fail;refine c.mono ?_;rintro e w1 ⟨rfl,hb1⟩;exact⟨rfl,rfl,bo.of_below (aw hb0 hb1)⟩
theorem oe (h0:PS0 all E g v)(h:PSt all E g v w i n)(kd m:Int)(hk:kindP (all.drop i)=kd)(hm:numP (all.drop i)<m):
  Calls prog 219 #[ab g 0,ag kd,ag m] w fun e w'=>e= .panicked (jk 3 (atP E (all.drop i)))/\bo g w w':=by
 have hb0:aq w (w.alloc (.cells #[ag 0,ag 0,ag 0,.string ⟨#[]⟩] 162)):=am _ _;have hA:=h.below hb0 h0;have c:=uB h0 hA kd hk;have c2:=fun(w1:World) (h1:PSt all E g v w1 i n)=>ld h0 h1 3;unfold j9 at c;clear hk;generalize kindP (all.drop i)=t0 at*;generalize numP (all.drop i)=t1 at*;generalize hw1:w.alloc (.cells #[ag 0,ag 0,ag 0,.string ⟨#[]⟩] 162)=wA at*;go_enter func219,ntmps219;go_wp2_with fail;refine c.mono ?_;rintro e w1 ⟨rfl,h1,hb1⟩;have hbw1:=aw hb0 hb1;clear c hA hb1 hw1 hb0;go_wp2_with fail;refine(c2 _ h1).mono ?_;rintro e w2 ⟨rfl,hb2⟩;exact⟨rfl,rfl,bo.of_below (aw hbw1 hb2)⟩
theorem qf (h0:PS0 all E g v)(h:PSt all E g v w i n)(kd m:Int)(hkd:kd≠0)(hk:kindP (all.drop i)=kd)(hm: ¬numP (all.drop i)<m):
  Calls prog 219 #[ab g 0,ag kd,ag m] w fun e w'=>e= .returned (j9 E (all.drop i))/\PSt all E g v w' (i+1) n/\bo g w w':=by
 have hgl:=aH h.blk;have hb0:aq w (w.alloc (.cells #[ag 0,ag 0,ag 0,.string ⟨#[]⟩] 162)):=am _ _;have hn:=aE w (.cells #[ag 0,ag 0,ag 0,.string ⟨#[]⟩] 162);have hA:=h.below hb0 h0;have c:=uB h0 hA kd hk;have c2:=fun(w1:World) (h1:PSt all E g v w1 i n)=>qe h0 h1 kd hkd hk;unfold j9 at c c2⊢;clear hk hkd;generalize kindP (all.drop i)=t0 at*;generalize numP (all.drop i)=t1 at*;generalize (atP E (all.drop i):Int)=t2 at*;generalize (⟨(textP (all.drop i)).toArray⟩:ByteArray)=t3 at*;generalize hw1:w.alloc (.cells #[ag 0,ag 0,ag 0,.string ⟨#[]⟩] 162)=wA at*;go_enter func219,ntmps219;go_wp2_with fail;refine c.mono ?_;rintro e w1 ⟨rfl,h1,hb1⟩;have hn1:=ai hb1 hn;have hbw1:=aw hb0 hb1;clear c hA hb1 hw1 hn hb0;go_wp2_with fail;refine(c2 _ h1).mono ?_;rintro e w2 ⟨rfl,h2,hk2⟩;have hn2:=(hk2.block _ (aH hn1) (fun e=>by have:w.heap.size=g:=aN e;omega)).trans hn1;have hkw2:=(bo.of_below (g:=g) hbw1).trans hk2
 have HF:PH (∀cs,PSt all E g v (w2.setRow w.heap.size cs) (i+1) n):=fun cs=>
  h.of_kept h0 (hkw2.setRow (aB _) cs) ((aV _ _ _ _ (by omega)).trans h2.blk) h2.le
 have hk4:=fun cs=>hkw2.setRow (aB _) cs;clear h h1 h2 hk2 hkw2 hn1 hbw1 c2;go_wp2_with(refine ay rfl 162 _ _ rfl _ _ rfl rfl _ _ hn2 (by kernel_rfl) (by simp) (by simp[Value.oneCell']) ?_)
 exact rG 6 (by kernel_rfl) w.heap.size _ _ _ _ rfl rfl (aL _ _ _ _ _ _ hn2) ⟨rfl,HF.o _,hk4 _⟩
end
section
variable {all:List Tk} {E g:Nat} {v:Value} {w:World} {i n:Nat}
def jw (all:List Tk)(E g:Nat)(v:Value)(w:World)(B:Nat->Prop)(x:Res)(e:Ending)(w':World):Prop:=
 match x with
 | .error (er,at_)=>e= .panicked (jk er at_)/\bo g w w'
 | .ok (ex,r,n)=> ∃(i:Nat) (sl:Value) (d:Nat),r=all.drop i/\e= .returned (exV ex sl)/\dw B d w' sl ex.kids/\PSt all E g v w' i n/\n<=600/\bo g w w'
theorem jw.weak {B B':Nat->Prop}{x:Res}{e:Ending}{w0 w':World}(hk:bo g w0 w)(hB: ∀k,B k->B' k)(h:jw all E g v w B x e w'):jw all E g v w0 B' x e w':=by
 unfold jw at h⊢;match x,h with
 | .error (er,at_),h=>exact⟨h.1,hk.trans h.2⟩
 | .ok (ex,r,n),h=>
  obtain⟨i,sl,d,a,b,c,d',f,k⟩:=h;exact⟨i,sl,d,a,b,c.mono hB,d',f,hk.trans k⟩
theorem kB (h0:PS0 all E g v)(h:PSt all E g v w i n)(hn6:n<=600)(B:Nat->Prop)(hB: ∀k,B k->k≠g)(ex:Ex)(sl:Value)(d:Nat)(hk:dw B d w sl ex.kids):
  Calls prog 178 #[ab g 0,exV ex sl] w (jw all E g v w B (dE E ex (all.drop i) n)):=by
 obtain⟨ps,cs',rfl⟩:=hk.form;have hgl:=aH h.blk;have hb1:aq w (w.alloc (.cells #[ag ex.kind,ag ex.a,ag ex.b,.string ⟨ex.name.toArray⟩,.slice ps ex.kids.length cs'] 104)):=am _ _;have hb2:aq w ((w.alloc (.cells #[ag ex.kind,ag ex.a,ag ex.b,.string ⟨ex.name.toArray⟩,.slice ps ex.kids.length cs'] 104)).alloc (.cells #[ag 0,ag 0,ag 0,.string ⟨#[]⟩,af] 104)):=hb1.alloc hb1.size _;have hx1:=aE w (.cells #[ag ex.kind,ag ex.a,ag ex.b,.string ⟨ex.name.toArray⟩,.slice ps ex.kids.length cs'] 104);have hx2:=(dJ _ (.cells #[ag 0,ag 0,ag 0,.string ⟨#[]⟩,af] 104) _ (aH hx1)).trans hx1;have hn2:=aE (w.alloc (.cells #[ag ex.kind,ag ex.a,ag ex.b,.string ⟨ex.name.toArray⟩,.slice ps ex.kids.length cs'] 104)) (.cells #[ag 0,ag 0,ag 0,.string ⟨#[]⟩,af] 104);have hsz:(w.alloc (.cells #[ag ex.kind,ag ex.a,ag ex.b,.string ⟨ex.name.toArray⟩,.slice ps ex.kids.length cs'] 104)).heap.size=w.heap.size+1:=by simp
 rw[hsz]at hn2;have h2:=h.below hb2 h0;have hk2:=bo.of_below (g:=g) hb2;unfold exV;clear hx1 hb1 hsz;generalize hw2:((w.alloc (.cells #[ag ex.kind,ag ex.a,ag ex.b,.string ⟨ex.name.toArray⟩,.slice ps ex.kids.length cs'] 104)).alloc (.cells #[ag 0,ag 0,ag 0,.string ⟨#[]⟩,af] 104))=w2 at*;have k3:=ak 3 h2.blk;have y3:=bl _ _ 3 _ _ h2.blk;have h3:=h2.setN h0 (n+1);have hk3:=hk2.trans (bo.set w2 g 3 (ag ((n+1:Nat):Int)));have hx3:=(aO w2 ⟨g,3,none⟩ w.heap.size (ag ((n+1:Nat):Int)) (by show w.heap.size≠g;omega)).trans hx2;have hn3:=(aO w2 ⟨g,3,none⟩ (w.heap.size+1) (ag ((n+1:Nat):Int)) (by show w.heap.size+1≠g;omega)).trans hn2;have q3:=ak 3 h3.blk;have ei:(n:Int)+1=((n+1:Nat):Int):=by omega
 have hi6:(n:Int)<=600:=by omega
 by_cases hm:600<n+1
 ·have hm':(600:Int)<((n+1:Nat):Int):=by omega
  have c:=ld h0 h3 4;rw[show dE E ex (all.drop i) n= .error (4,atP E (all.drop i)) by unfold dE;rw[aD hm]];clear h h2 h3 hk2 hx2 hn2 hx3 hn3 hb2 hk;generalize ((n+1:Nat):Int)=vv at*;go_enter func178,ntmps178;go_wp2_with fail;refine c.mono ?_;rintro e w4 ⟨rfl,hb4⟩;exact⟨rfl,rfl,hk3.trans (bo.of_below hb4)⟩
 ·have hm': ¬(600:Int)<((n+1:Nat):Int):=by omega
  rw[show dE E ex (all.drop i) n= .ok (ex,all.drop i,n+1) by unfold dE;rw[ax hm]]
  have HF:PH (∀cs,PSt all E g v ((w2.setCell ⟨g,3,none⟩ (ag ((n+1:Nat):Int))).setRow (w.heap.size+1) cs) i (n+1)):=fun cs=>
   h.of_kept h0 (hk3.setRow (by omega) cs) ((aV _ _ _ _ (by omega)).trans h3.blk) h3.le
  have hk4:=fun cs=>hk3.setRow (k:=w.heap.size+1) (by omega) cs;have HN:PH (n+1<=600):=(by show n+1<=600;omega);have HK:PH (dw B d w (.slice ps ex.kids.length cs') ex.kids):=hk;have HB:PH (∀k,B k->k≠g):=hB;clear h h2 h3 hk2 hx2 hn2 hb2 hk hk3 hm;generalize ((n+1:Nat):Int)=vv at*;go_enter func178,ntmps178
  go_wp2_with(first
   |(refine aQ rfl 104 _ rfl _ rfl _ _ _ _ hx3 fc rfl (by kernel_rfl) ?_)
   |(refine ay rfl 104 _ _ rfl _ _ rfl rfl _ _ hn3 (by kernel_rfl) (by simp) (by simp[Value.oneCell']) ?_))
  exact jJ 4 (by kernel_rfl) (w.heap.size+1) _ _ _ _ _ rfl rfl (aL _ _ _ _ _ _ hn3) ⟨i,_,d,rfl,rfl,(hk4 _).kids HB.o HK.o,HF.o _,HN.o,hk4 _⟩
theorem A7 {B:Nat->Prop}{w:World}{b d:Nat}{k:Ex}{s:Value}(hB:B b)(hb:w.heap[b]? =ah #[ag k.kind,ag k.a,ag k.b,.string ⟨k.name.toArray⟩,s] 104)(hk:dw B d w s k.kids):
  dw B (d+1) w (.slice (some (ae b 0)) 1 1) [k]:=by
 refine .inr ⟨b,0,1,⟨hB,_,_,hb⟩,rfl,by simp,fun j k' hj=> ?_⟩;match j,hj with
 |0,hj=>
  have e:k=k':=(by simpa using hj);subst e;exact⟨s,(aZ _ _ _ _ _ _ hb).trans rfl,(aZ _ _ _ _ _ _ hb).trans rfl,(aZ _ _ _ _ _ _ hb).trans rfl,(aZ _ _ _ _ _ _ hb).trans rfl,(aZ _ _ _ _ _ _ hb).trans rfl,hk⟩
theorem Je {B:Nat->Prop}{w:World}{b d d':Nat}{k k':Ex}{s s':Value}(hB:B b)
  (hb:w.heap[b]? =ah #[ag k.kind,ag k.a,ag k.b,.string ⟨k.name.toArray⟩,s,ag k'.kind,ag k'.a,ag k'.b,.string ⟨k'.name.toArray⟩,s'] 104) (hk:dw B d w s k.kids) (hk':dw B d' w s' k'.kids):
  dw B (max d d'+1) w (.slice (some (ae b 0)) 2 2) [k,k']:=by
 refine .inr ⟨b,0,2,⟨hB,_,_,hb⟩,rfl,by simp,fun j q hj=> ?_⟩;match j,hj with
 |0,hj=>
  have e:k=q:=(by simpa using hj);subst e;exact⟨s,(aZ _ _ _ _ _ _ hb).trans rfl,(aZ _ _ _ _ _ _ hb).trans rfl,(aZ _ _ _ _ _ _ hb).trans rfl,(aZ _ _ _ _ _ _ hb).trans rfl,(aZ _ _ _ _ _ _ hb).trans rfl,hk.le (by omega)⟩
 |1,hj=>
  have e:k'=q:=(by simpa using hj);subst e;exact⟨s',(aZ _ _ _ _ _ _ hb).trans rfl,(aZ _ _ _ _ _ _ hb).trans rfl,(aZ _ _ _ _ _ _ hb).trans rfl,(aZ _ _ _ _ _ _ hb).trans rfl,(aZ _ _ _ _ _ _ hb).trans rfl,hk'.le (by omega)⟩
theorem A8 (h0:PS0 all E g v)(h:PSt all E g v w i n)(hn6:n<=600)(B:Nat->Prop)(hB: ∀k,B k->k≠g)(hf: ∀k,w.heap.size<=k->B k)(kd:Int)(l r:Ex)(sl sr:Value)(d d':Nat)(hl:dw B d w sl l.kids)(hr:dw B d' w sr r.kids):
  Calls prog 145 #[ab g 0,ag kd,exV l sl,exV r sr] w (jw all E g v w B (dE E ⟨kd,0,0,[],[l,r]⟩ (all.drop i) n)):=by
 obtain⟨pl,cl,rfl⟩:=hl.form;obtain⟨pr,cr,rfl⟩:=hr.form;have hgl:=aH h.blk;unfold exV;have hb1:=am w (.cells #[ag l.kind,ag l.a,ag l.b,.string ⟨l.name.toArray⟩,.slice pl l.kids.length cl] 104);have hb2:=hb1.alloc hb1.size (.cells #[ag r.kind,ag r.a,ag r.b,.string ⟨r.name.toArray⟩,.slice pr r.kids.length cr] 104);have hb3:=hb2.alloc hb2.size (.cells #[ag 0,ag 0,ag 0,.string ⟨#[]⟩,af] 104);have hb4:=hb3.alloc hb3.size (.cells #[ag l.kind,ag l.a,ag l.b,.string ⟨l.name.toArray⟩,.slice pl l.kids.length cl,ag r.kind,ag r.a,ag r.b,.string ⟨r.name.toArray⟩,.slice pr r.kids.length cr] 104);have hz:=aE ((w.alloc (.cells #[ag l.kind,ag l.a,ag l.b,.string ⟨l.name.toArray⟩,.slice pl l.kids.length cl] 104)).alloc (.cells #[ag r.kind,ag r.a,ag r.b,.string ⟨r.name.toArray⟩,.slice pr r.kids.length cr] 104)) (.cells #[ag 0,ag 0,ag 0,.string ⟨#[]⟩,af] 104);have hz4:=(dJ _ (.cells #[ag l.kind,ag l.a,ag l.b,.string ⟨l.name.toArray⟩,.slice pl l.kids.length cl,ag r.kind,ag r.a,ag r.b,.string ⟨r.name.toArray⟩,.slice pr r.kids.length cr] 104) _ (aH hz)).trans hz;have hs4:=aE (((w.alloc (.cells #[ag l.kind,ag l.a,ag l.b,.string ⟨l.name.toArray⟩,.slice pl l.kids.length cl] 104)).alloc (.cells #[ag r.kind,ag r.a,ag r.b,.string ⟨r.name.toArray⟩,.slice pr r.kids.length cr] 104)).alloc (.cells #[ag 0,ag 0,ag 0,.string ⟨#[]⟩,af] 104)) (.cells #[ag l.kind,ag l.a,ag l.b,.string ⟨l.name.toArray⟩,.slice pl l.kids.length cl,ag r.kind,ag r.a,ag r.b,.string ⟨r.name.toArray⟩,.slice pr r.kids.length cr] 104);rw[show((w.alloc (.cells #[ag l.kind,ag l.a,ag l.b,.string ⟨l.name.toArray⟩,.slice pl l.kids.length cl] 104)).alloc (.cells #[ag r.kind,ag r.a,ag r.b,.string ⟨r.name.toArray⟩,.slice pr r.kids.length cr] 104)).heap.size=w.heap.size+2 by simp]at hz4;rw[show(((w.alloc (.cells #[ag l.kind,ag l.a,ag l.b,.string ⟨l.name.toArray⟩,.slice pl l.kids.length cl] 104)).alloc (.cells #[ag r.kind,ag r.a,ag r.b,.string ⟨r.name.toArray⟩,.slice pr r.kids.length cr] 104)).alloc (.cells #[ag 0,ag 0,ag 0,.string ⟨#[]⟩,af] 104)).heap.size=w.heap.size+3 by simp]at hs4;have h4:=h.below hb4 h0;have hk4:=bo.of_below (g:=g) hb4;have hBB: ∀k,(B k/\k≠w.heap.size+2)->k≠g:=fun k hk=>hB k hk.1;have hl':dw (fun k=>B k/\k≠w.heap.size+2) d w (.slice pl l.kids.length cl) l.kids:=hl.lt.mono fun k hk=>⟨hk.1,by have:=hk.2;omega⟩
 have hr':dw (fun k=>B k/\k≠w.heap.size+2) d' w (.slice pr r.kids.length cr) r.kids:=hr.lt.mono fun k hk=>⟨hk.1,by have:=hk.2;omega⟩
 have kk:=Je (B:=fun k=>B k/\k≠w.heap.size+2) ⟨hf _ (by omega),by omega⟩ hs4 (hk4.kids hBB hl') (hk4.kids hBB hr');clear hb1 hb2 hb3 hb4 hz hs4 hl hr hl' hr';generalize hw4:((((w.alloc (.cells #[ag l.kind,ag l.a,ag l.b,.string ⟨l.name.toArray⟩,.slice pl l.kids.length cl] 104)).alloc (.cells #[ag r.kind,ag r.a,ag r.b,.string ⟨r.name.toArray⟩,.slice pr r.kids.length cr] 104)).alloc (.cells #[ag 0,ag 0,ag 0,.string ⟨#[]⟩,af] 104)).alloc (.cells #[ag l.kind,ag l.a,ag l.b,.string ⟨l.name.toArray⟩,.slice pl l.kids.length cl,ag r.kind,ag r.a,ag r.b,.string ⟨r.name.toArray⟩,.slice pr r.kids.length cr] 104))=w4 at*;have c:=kB h0 h4 hn6 _ hBB ⟨kd,0,0,[],[l,r]⟩ _ _ kk;unfold exV at c;clear kk;go_enter func145,ntmps145;go_wp2_with fail;refine c.mono ?_;intro e w5 ho;clear c hw4;cases hx:dE E ⟨kd,0,0,[],[l,r]⟩ (all.drop i) n with
 |error q=>
  obtain⟨er,at_⟩:=q;rw[hx]at ho;obtain⟨rfl,hk5⟩:=ho;exact⟨rfl,rfl,hk4.trans hk5⟩
 |ok q=>
  obtain⟨ex,rr,nn⟩:=q;rw[hx]at ho;obtain⟨i',sl,dd,hr',rfl,hkd,h5,hn5,hk5⟩:=ho;have hz5:=(hk5.block _ (aH hz4) (fun e=>by have:w.heap.size+2=g:=aN e;omega)).trans hz4;have hkw:=hk4.trans hk5;obtain⟨p5,c5,rfl⟩:=hkd.form;have hkd':=fun cs=>hkd.kept (w':=w5.setRow (w.heap.size+2) cs) fun k hk _=>aV _ _ _ _ hk.2
  have HF:PH (∀cs,jw all E g v w B (dE E ⟨kd,0,0,[],[l,r]⟩ (all.drop i) n) (.returned (exV ex (.slice p5 ex.kids.length c5))) (w5.setRow (w.heap.size+2) cs)):=fun cs=>by
   rw[hx];exact⟨i',_,dd,hr',rfl,(hkd' cs).mono fun k hk=>hk.1,h.of_kept h0 (hkw.setRow (by omega) cs) ((aV _ _ _ _ (by omega)).trans h5.blk) h5.le,hn5,hkw.setRow (by omega) cs⟩
  unfold exV at HF⊢;clear h h4 hk4 hk5 hkd hkd' h5 hkw hx hz4;go_wp2_with(refine ay rfl 104 _ _ rfl _ _ rfl rfl _ _ hz5 (by kernel_rfl) (by simp) (by simp[Value.oneCell']) ?_)
  exact jJ 8 (by kernel_rfl) (w.heap.size+2) _ _ _ _ _ rfl rfl (aL _ _ _ _ _ _ hz5) (HF.o _)
end
end Go.Proofs.YtkfidffapdhbhaaGreatDoor
