/- Texts of the proof. -/
import Derived.Test.YtjkilacmkbmmbaaGreatDoorPe13
set_option maxRecDepth 100000
set_option maxHeartbeats 8000000
namespace Go.Proofs.YtjkilacmkbmmbaaGreatDoor
open Go.Proofs.Tryz Go.RowKit Lx Vx Mx Msk
def exV (e:Ex)(sl:Value):Value:= .agg #[ag e.kind,ag e.a,ag e.b,.string ⟨e.name.toArray⟩,sl]
def TyE (w:World)(g:Nat):Prop:= ∃(cs:Array Value) (fr:Nat×Nat),w.heap[g]? =some (.cells cs 52 fr)
def dn (B:Nat->Prop):Nat->World->Value->List Ex->Prop
 |0,_,sl,ks=>ks=[]/\ ∃p c,sl= .slice p 0 c
 |d+1,w,sl,ks=>(ks=[]/\ ∃p c,sl= .slice p 0 c)\/ ∃g o c:Nat,(B g/\TyE w g)/\sl= .slice (some (ae g o)) ks.length c/\ks.length<9223372036854775808/\ ∀(j:Nat) (k:Ex),ks[j]? =some k-> ∃sk:Value,
  w.cell? (ae g (o+j*5))=some (ag k.kind)/\w.cell? (ae g (o+j*5+1))=some (ag k.a)/\w.cell? (ae g (o+j*5+2))=some (ag k.b)/\
  w.cell? (ae g (o+j*5+3))=some (.string ⟨k.name.toArray⟩)/\w.cell? (ae g (o+j*5+4))=some sk/\dn B d w sk k.kids
theorem dn.up {B:Nat->Prop}: ∀{d:Nat} {w:World} {sl:Value} {ks:List Ex},dn B d w sl ks->dn B (d+1) w sl ks
 |0,_,_,_,h=> .inl h
 |d+1,w,sl,ks,h=>by
  rcases h with h|⟨g,o,c,hB,hs,hl,hk⟩
  ·exact .inl h
  ·refine .inr ⟨g,o,c,hB,hs,hl,fun j k hj=> ?_⟩;obtain⟨sk,c0,c1,c2,c3,c4,r⟩:=hk j k hj;exact⟨sk,c0,c1,c2,c3,c4,dn.up r⟩
theorem dn.le {B:Nat->Prop}{d d':Nat}{w:World}{sl:Value}{ks:List Ex}(h:dn B d w sl ks)(hd:d<=d'):dn B d' w sl ks:=by
 obtain⟨n,rfl⟩: ∃n,d'=d+n:=⟨d'-d,by omega⟩
 clear hd;induction n with
 |zero=>exact h
 |succ n ih=>exact dn.up ih
theorem dn.kept {B:Nat->Prop}{w w':World}(hw: ∀g,B g->g<w.heap.size->w'.heap[g]? =w.heap[g]?): ∀{d:Nat} {sl:Value} {ks:List Ex},dn B d w sl ks->dn B d w' sl ks
 |0,_,_,h=>h
 |d+1,sl,ks,h=>by
  rcases h with h|⟨g,o,c,hB,hs,hl,hk⟩
  ·exact .inl h
  ·have ht:TyE w' g:=by
    obtain⟨cs,fr,h⟩:=hB.2;exact⟨cs,fr,(hw g hB.1 (aF h)).trans h⟩
   refine .inr ⟨g,o,c,⟨hB.1,ht⟩,hs,hl,fun j k hj=> ?_⟩;obtain⟨sk,c0,c1,c2,c3,c4,r⟩:=hk j k hj;have e:w'.heap[g]? =w.heap[g]? :=hw g hB.1 (bT c0);have ce: ∀i,w'.cell? (ae g i)=w.cell? (ae g i):=fun i=>dL e;exact⟨sk,(ce _).trans c0,(ce _).trans c1,(ce _).trans c2,(ce _).trans c3,(ce _).trans c4,dn.kept hw r⟩
theorem dn.mono {B B':Nat->Prop}(hB: ∀g,B g->B' g): ∀{d:Nat} {w:World} {sl:Value} {ks:List Ex},dn B d w sl ks->dn B' d w sl ks
 |0,_,_,_,h=>h
 |d+1,w,sl,ks,h=>by
  rcases h with h|⟨g,o,c,hg,hs,hl,hk⟩
  ·exact .inl h
  ·refine .inr ⟨g,o,c,⟨hB g hg.1,hg.2⟩,hs,hl,fun j k hj=> ?_⟩;obtain⟨sk,c0,c1,c2,c3,c4,r⟩:=hk j k hj;exact⟨sk,c0,c1,c2,c3,c4,dn.mono hB r⟩
theorem dn.lt {B:Nat->Prop}: ∀{d:Nat} {w:World} {sl:Value} {ks:List Ex},dn B d w sl ks->dn (fun k=>B k/\k<w.heap.size) d w sl ks
 |0,_,_,_,h=>h
 |d+1,w,sl,ks,h=>by
  rcases h with h|⟨g,o,c,hg,hs,hl,hk⟩
  ·exact .inl h
  ·cases ks with
   |nil=>exact .inl ⟨rfl,_,_,hs⟩
   |cons k0 ks=>
    obtain⟨_,c0,_⟩:=hk 0 k0 rfl;refine .inr ⟨g,o,c,⟨⟨hg.1,bT c0⟩,hg.2⟩,hs,hl,fun j k hj=> ?_⟩;obtain⟨sk,c0,c1,c2,c3,c4,r⟩:=hk j k hj;exact⟨sk,c0,c1,c2,c3,c4,dn.lt r⟩
theorem dn.other {B:Nat->Prop}{b:Nat}{cs:Array Value}{t:TypeId}{fr:Nat×Nat}: ∀{d:Nat} {w:World} {sl:Value} {ks:List Ex},w.heap[b]? =some (.cells cs t fr)->t≠52->dn B d w sl ks->dn (fun k=>B k/\k≠b) d w sl ks
 |0,_,_,_,_,_,h=>h
 |d+1,w,sl,ks,hb,ht,h=>by
  rcases h with h|⟨g,o,c,hg,hs,hl,hk⟩
  ·exact .inl h
  ·have hne:g≠b:=by
    rintro rfl;obtain⟨cs',fr',h'⟩:=hg.2;rw[hb]at h';exact ht (Obj.cells.inj (aK h')).2.1
   refine .inr ⟨g,o,c,⟨⟨hg.1,hne⟩,hg.2⟩,hs,hl,fun j k hj=> ?_⟩;obtain⟨sk,c0,c1,c2,c3,c4,r⟩:=hk j k hj;exact⟨sk,c0,c1,c2,c3,c4,dn.other hb ht r⟩
theorem dn.nil (B:Nat->Prop)(d:Nat)(w:World)(p:Option Addr)(c:Nat):dn B d w (.slice p 0 c) []:=by
 cases d with
 |zero=>exact⟨rfl,p,c,rfl⟩
 |succ d=>exact .inl ⟨rfl,p,c,rfl⟩
theorem dn.form {B:Nat->Prop}{d:Nat}{w:World}{sl:Value}{ks:List Ex}(h:dn B d w sl ks): ∃p c,sl= .slice p ks.length c:=by
 cases d with
 |zero=>
  obtain⟨rfl,p,c,rfl⟩:=h;exact⟨p,c,rfl⟩
 |succ d=>
  rcases h with⟨rfl,p,c,rfl⟩|⟨g,o,c,_,hs,_⟩
  ·exact⟨p,c,rfl⟩
  ·exact⟨_,c,hs⟩
abbrev bm (g:Nat)(w w':World):Prop:=w.grownBy w' (some g)
theorem bm.refl (g:Nat)(w:World):bm g w w:=⟨rfl,rfl,rfl,aA _,fun _ _ _=>rfl⟩
theorem bm.trans {g:Nat}{w w' w'':World}(h:bm g w w')(h':bm g w' w''):bm g w w'':=
 ⟨h'.os.trans h.os,h'.tape.trans h.tape,h'.output.trans h.output,a6 h.size h'.size,fun k hk hne=>(h'.block k (aO hk h.size) hne).trans (h.block k hk hne)⟩
theorem bm.of_below {g:Nat}{w w':World}(h:ao w w'):bm g w w':=⟨h.os,h.tape,h.output,h.size,fun k hk _=>h.block k hk⟩
theorem bm.kids {B:Nat->Prop}{g d:Nat}{w w':World}{sl:Value}{ks:List Ex}(h:bm g w w')(hg: ∀k,B k->k≠g)(hk:dn B d w sl ks):dn B d w' sl ks:=
 hk.kept fun k hB hl=>h.block k hl (fun e=>hg k hB (aK e))
theorem bm.row {g:Nat}{w w':World}{v:Value}{ts:List (T1×Nat)}(h:bm g w w')(hv:v.ownBlock≠some g)(hr:qZ w v ts):qZ w' v ts:=by
 rcases hr with hr|⟨gt,o,c,hs,hl,hc⟩
 ·exact .inl hr
 ·refine .inr ⟨gt,o,c,hs,hl,fun j t k hj=> ?_⟩;obtain⟨c1,c2,c3,c4⟩:=hc j t k hj;have hne:gt≠g:=fun e=>hv (by rw[hs,e];rfl);have e:w'.heap[gt]? =w.heap[gt]? :=h.block gt (bT c1) (fun e=>hne (aK e));have ce: ∀i,w'.cell? (ae gt i)=w.cell? (ae gt i):=fun i=>dL e;exact⟨(ce _).trans c1,(ce _).trans c2,(ce _).trans c3,(ce _).trans c4⟩
structure PS0 (all:List Tk)(E g:Nat)(v:Value):Prop where
 len:all.length<=6000
 fin:E<=6000
 own:v.ownBlock≠some g
 num: ∀p∈all,0<=p.1.n/\p.1.n<=999999
 glob:5≠g
def pV (w:World):Prop:= ∀j:Nat,j<7->w.cell? (ae 5 j)=some (.string ⟨(eJ.getD j []).toArray⟩)
theorem bm.days {g:Nat}{w w':World}(h:bm g w w')(hg:5≠g)(hd:pV w):pV w':=fun j hj=>by
 have c:=hd j hj;exact(dL (h.block 5 (bT c) (fun e=>hg (aK e)))).trans c
structure PSt (all:List Tk)(E g:Nat)(v:Value)(w:World)(i n:Nat):Prop where
 blk:w.heap[g]? =ah #[v,ag (i:Int),ag (E:Int),ag (n:Int)] 79
 row:qZ w v all
 le:i<=all.length
 tab:pV w
theorem PSt.below {all:List Tk}{E g:Nat}{v:Value}{w w':World}{i n:Nat}(h:PSt all E g v w i n)(hb:ao w w')(h0:PS0 all E g v):PSt all E g v w' i n:=
 ⟨(hb.block g (aF h.blk)).trans h.blk,(bm.of_below (g:=g) hb).row h0.own h.row,h.le,(bm.of_below (g:=g) hb).days h0.glob h.tab⟩
def jT (E:Nat)(r:List Tk):Value:= .agg #[ag (kindP r),ag (numP r),ag (atP E r:Int),.string ⟨(textP r).toArray⟩]
theorem eD:prog.underlying 52=some (.struct (prog.fieldsOf 52)):=by kernel_rfl
theorem rA {fn:Func}(s:Nat)(h:fn.results= #[ResultVar.cell s 99]){R:Ending->World->Prop}{a:Act}{w:World}(g:Nat)(c0 c1 c2 c3:Value)(hd:a.defers=[])(h2:a.tmps.getD s undef=ab g 0)
  (hg:w.heap[g]? =ah #[c0,c1,c2,c3] 99) (hR:R (.returned (.agg #[c0,c1,c2,c3])) w):bodyPost prog fn R .ret a w:=by
 refine aU (v:= .agg #[c0,c1,c2,c3]) ?_ hd hR;have h2':a.tmps[s]?.getD undef=ab g 0:=by simpa using h2
 have hv:=dR (P:=prog) w g 99 99 _ _ _ hg yv rfl (by kernel_rfl);simp[results,h,h2',asAddr,hv]
theorem jt {fn:Func}(s:Nat)(h:fn.results= #[ResultVar.cell s 52]){R:Ending->World->Prop}{a:Act}{w:World}(g:Nat)(c0 c1 c2 c3 c4:Value)(hd:a.defers=[])(h2:a.tmps.getD s undef=ab g 0)
  (hg:w.heap[g]? =ah #[c0,c1,c2,c3,c4] 52) (hR:R (.returned (.agg #[c0,c1,c2,c3,c4])) w):bodyPost prog fn R .ret a w:=by
 refine aU (v:= .agg #[c0,c1,c2,c3,c4]) ?_ hd hR;have h2':a.tmps[s]?.getD undef=ab g 0:=by simpa using h2
 have hv:=dR (P:=prog) w g 52 52 _ _ _ hg eD rfl (by kernel_rfl);simp[results,h,h2',asAddr,hv]
theorem Gn (c0 c1 c2 c3:Value)(w:World):(Instr.field 99 (.agg #[c0,c1,c2,c3]) 0).run prog w= .ok c0 w:=by
 unfold Instr.field;simp[go_sem,asAgg]
theorem Gp (c0 c1 c2 c3:Value)(w:World):(Instr.field 99 (.agg #[c0,c1,c2,c3]) 1).run prog w= .ok c1 w:=by
 unfold Instr.field;simp[go_sem,asAgg]
theorem Gq (c0 c1 c2 c3:Value)(w:World):(Instr.field 99 (.agg #[c0,c1,c2,c3]) 2).run prog w= .ok c2 w:=by
 unfold Instr.field;simp[go_sem,asAgg]
theorem Gr (c0 c1 c2 c3:Value)(w:World):(Instr.field 99 (.agg #[c0,c1,c2,c3]) 3).run prog w= .ok c3 w:=by
 unfold Instr.field;simp[go_sem,asAgg]
attribute [go_sem] Gn Gp Gq Gr
theorem my {all:List Tk}{E g:Nat}{v:Value}{w:World}{i n:Nat}(h0:PS0 all E g v)(h:PSt all E g v w i n):
  Calls prog 71 #[.pointer (some ⟨g,0,none⟩)] w fun e w'=>e= .returned (jT E (all.drop i))/\ao w w':=by
 have hgl:=aF h.blk;have hA:=(dB w (.cells #[.int .i64 0,.int .i64 0,.int .i64 0,.string ⟨#[]⟩] 99) _ hgl).trans h.blk;have k0:=ak 0 hA;have k1:=ak 1 hA;have k2:=ak 2 hA;have hb0:ao w (w.alloc (.cells #[.int .i64 0,.int .i64 0,.int .i64 0,.string ⟨#[]⟩] 99)):=am _ _;have hn:=aC w (.cells #[.int .i64 0,.int .i64 0,.int .i64 0,.string ⟨#[]⟩] 99);have hlen:=h0.len;have hle:=h.le;have hrow:=h.row;by_cases hi:i<all.length
 ·have hi':(i:Int)<(all.length:Int):=by omega
  have hi0:(0:Int)<=(i:Int):=(by omega);rcases hrow with⟨_,_,e⟩|⟨gt,o,c,rfl,_,hc⟩
  ·rw[e]at hi;simp at hi
  obtain⟨⟨t,k⟩,htk⟩: ∃q,all[i]? =some q:=⟨all[i],ax hi⟩
  obtain⟨c0,c1,c2,c3⟩:=hc i t k htk;have d0:=aj hb0 c0;have d1:=aj hb0 c1;have d2:=aj hb0 c2;have d3:=aj hb0 c3
  have ed:all.drop i=(t,k)::all.drop (i+1):=by
   obtain⟨h1,h2⟩:=aE.1 htk;rw[bx h1,h2]
  have HR:P3 (jT E (all.drop i)= .agg #[.int .i64 t.kind,.int .i64 t.n,.int .i64 (k:Int),.string ⟨t.text.toArray⟩]):=by
   show _=_;rw[ed];rfl
  clear hA hgl ed h hc c0 c1 c2 c3 htk;generalize (⟨t.text.toArray⟩:ByteArray)=x at*;generalize hw1:w.alloc (.cells #[.int .i64 0,.int .i64 0,.int .i64 0,.string ⟨#[]⟩] 99)=w1 at*;go_enter func71,ntmps71;go_wp2;go_quiet (fail);have hn2:(w1.drewN nq).heap[w.heap.size]? =some (.cells #[.int .i64 0,.int .i64 0,.int .i64 0,.string ⟨#[]⟩] 99 (0,0)):=hn;have e0:(w1.drewN nq).cell? ⟨g,0,none⟩=some (.slice (some ⟨gt,o,none⟩) all.length c):=k0;have e1:(w1.drewN nq).cell? ⟨g,1,none⟩=some (.int .i64 (i:Int)):=k1;have f0:(w1.drewN nq).cell? ⟨gt,o+i*4,none⟩=some (.int .i64 t.kind):=d0;have f1:(w1.drewN nq).cell? ⟨gt,o+i*4+1,none⟩=some (.int .i64 t.n):=d1;have f2:(w1.drewN nq).cell? ⟨gt,o+i*4+2,none⟩=some (.int .i64 (k:Int)):=d2;have f3:(w1.drewN nq).cell? ⟨gt,o+i*4+3,none⟩=some (.string x):=d3;have hb2:=dr hb0 nq;clear hw1 k0 k1 k2 hn hb0 d0 d1 d2 d3;generalize w1.drewN nq=w2 at*;have z0:=ak 0 hn2;have z1:=ak 1 hn2;have z2:=ak 2 hn2;have z3:=ak 3 hn2;have y0:=bl _ _ 0 _ _ hn2;have y1:=bl _ _ 1 _ _ hn2;have y2:=bl _ _ 2 _ _ hn2;have y3:=bl _ _ 3 _ _ hn2
  have hm:((((w2.setCell ⟨w.heap.size,0,none⟩ (.int .i64 t.kind)).setCell ⟨w.heap.size,1,none⟩ (.int .i64 t.n)).setCell ⟨w.heap.size,2,none⟩ (.int .i64 (k:Int))).setCell ⟨w.heap.size,3,none⟩ (.string x)).heap[w.heap.size]? =some (.cells #[.int .i64 t.kind,.int .i64 t.n,.int .i64 (k:Int),.string x] 99 (0,0)):=
   aX _ _ 3 _ _ _ (aX _ _ 2 _ _ _ (aX _ _ 1 _ _ _ (aX _ _ 0 _ _ _ hn2)))
  have hb3:=(((hb2.setCell (p:=⟨w.heap.size,0,none⟩) (aA _) (.int .i64 t.kind)).setCell (p:=⟨w.heap.size,1,none⟩) (aA _) (.int .i64 t.n)).setCell (p:=⟨w.heap.size,2,none⟩) (aA _) (.int .i64 (k:Int))).setCell (p:=⟨w.heap.size,3,none⟩) (aA _) (.string x);go_wp2;go_region;go_wp2;exact rA 2 (by kernel_rfl) w.heap.size (.int .i64 t.kind) (.int .i64 t.n) (.int .i64 (k:Int)) (.string x) rfl rfl hm ⟨by rw[HR.o],dr hb3 1⟩
 ·have hi': ¬(i:Int)<(all.length:Int):=by omega
  obtain⟨p,c,rfl⟩:=qZ.form hrow;have ed:all.drop i=[]:=List.drop_eq_nil_of_le (by omega);rw[ed];clear hA hgl ed hrow h;generalize hw1:w.alloc (.cells #[.int .i64 0,.int .i64 0,.int .i64 0,.string ⟨#[]⟩] 99)=w1 at*;go_enter func71,ntmps71;go_wp2;go_quiet (fail);have hn2:(w1.drewN nq).heap[w.heap.size]? =some (.cells #[.int .i64 0,.int .i64 0,.int .i64 0,.string ⟨#[]⟩] 99 (0,0)):=hn;have e2:(w1.drewN nq).cell? ⟨g,2,none⟩=some (.int .i64 (E:Int)):=k2;have hb2:=dr hb0 nq;clear hw1 k0 k1 k2 hn hb0;generalize w1.drewN nq=w2 at*;go_wp2_with(refine az rfl 99 _ _ rfl _ _ rfl rfl _ _ hn2 (by kernel_rfl) (by simp) (by simp[Value.oneCell']) ?_)
  exact rA 2 (by kernel_rfl) w.heap.size _ _ _ _ rfl rfl (aJ _ _ _ _ _ _ hn2) ⟨rfl,below_setRow hb2 (aA _) _⟩
def iS (er:Int)(at_:Nat):List PanicEntry:=[{v:= .iface 77 (.agg #[.int .i64 er,.int .i64 (at_:Int)]),recovered:=false}]
theorem kP {all:List Tk}{E g:Nat}{v:Value}{w:World}{i n:Nat}(h0:PS0 all E g v)(h:PSt all E g v w i n)(er:Int):
  Calls prog 37 #[.pointer (some ⟨g,0,none⟩),.int .i64 er] w fun e w'=>e= .panicked (iS er (atP E (all.drop i)))/\ao w w':=by
 have c:=my h0 h;unfold jT at c;generalize atP E (all.drop i)=a at*;go_enter func37,ntmps37;go_wp2_with fail;refine c.mono ?_;rintro e w1 ⟨rfl,hb1⟩;go_wp2_with fail;exact⟨rfl,rfl,hb1⟩
theorem Gs (x y:List UInt8):((⟨x.toArray⟩:ByteArray).toList==(⟨y.toArray⟩:ByteArray).toList)=(x==y):=by rw[Lib.toList_data,Lib.toList_data]
theorem bm.set (w:World)(g j:Nat)(u:Value):bm g w (w.setCell ⟨g,j,none⟩ u):=⟨rfl,rfl,rfl,by simp,fun k _ hk=>aN w ⟨g,j,none⟩ k u (fun e=>hk (by rw[e]))⟩
theorem PSt.of_kept {all:List Tk}{E g:Nat}{v:Value}{w:World}{i n i' n':Nat}{w':World}(h:PSt all E g v w i n)(h0:PS0 all E g v)(hk:bm g w w')(hb:w'.heap[g]? =some (.cells #[v,.int .i64 (i':Int),.int .i64 (E:Int),.int .i64 (n':Int)] 79 (0,0)))(hi:i'<=all.length):PSt all E g v w' i' n':=
 ⟨hb,hk.row h0.own h.row,hi,hk.days h0.glob h.tab⟩
theorem PSt.set {all:List Tk}{E g:Nat}{v:Value}{w:World}{i n:Nat}(h:PSt all E g v w i n)(h0:PS0 all E g v)(hi:i+1<=all.length):PSt all E g v (w.setCell ⟨g,1,none⟩ (.int .i64 ((i+1:Nat):Int))) (i+1) n:=
 h.of_kept h0 (bm.set _ _ _ _) (aX _ _ 1 _ _ _ h.blk) hi
theorem PSt.setN {all:List Tk}{E g:Nat}{v:Value}{w:World}{i n:Nat}(h:PSt all E g v w i n)(h0:PS0 all E g v)(m:Nat):PSt all E g v (w.setCell ⟨g,3,none⟩ (.int .i64 (m:Int))) i m:=
 h.of_kept h0 (bm.set _ _ _ _) (aX _ _ 3 _ _ _ h.blk) h.le
theorem nK {x:List UInt8}{all:List Tk}{i:Nat}(hx:x≠[])(h:isT x (all.drop i)=true):i+1<=all.length:=by
 have:=eP hx h;simp at this;omega
theorem fw {all:List Tk}{E g:Nat}{v:Value}{w:World}{i n:Nat}(h0:PS0 all E g v)(h:PSt all E g v w i n)(x:List UInt8)(hx:x≠[])(hT:isT x (all.drop i)=true):
  Calls prog 70 #[.pointer (some ⟨g,0,none⟩),.string ⟨x.toArray⟩] w fun e w'=>e= .returned (.bool true)/\PSt all E g v w' (i+1) n/\bm g w w':=by
 have c:=my h0 h;have hlen:=h0.len;have hi:=nK hx hT;have he:((⟨(textP (all.drop i)).toArray⟩:ByteArray).toList==(⟨x.toArray⟩:ByteArray).toList)=true:=by rw[Gs];exact hT
 unfold jT at c;generalize (⟨(textP (all.drop i)).toArray⟩:ByteArray)=tx at*;generalize (⟨x.toArray⟩:ByteArray)=xx at*;go_enter func70,ntmps70;go_wp2_with fail;refine c.mono ?_;rintro e w1 ⟨rfl,hb1⟩;have h1:=h.below hb1 h0;have k1:=ak 1 h1.blk;have y1:=bl _ _ 1 _ _ h1.blk;have h2:=h1.set h0 hi;have hk2:=(bm.of_below (g:=g) hb1).trans (bm.set w1 g 1 (.int .i64 ((i+1:Nat):Int)));have ei:(i:Int)+1=((i+1:Nat):Int):=by omega
 have hi6:(i:Int)<=6000:=by omega
 generalize ((i+1:Nat):Int)=vv at*;clear c h h1 hb1 hT;go_wp2_with fail;go_ret;exact⟨rfl,h2,hk2⟩
section
variable {all:List Tk} {E g:Nat} {v:Value} {w:World} {i n:Nat}
theorem dO (h0:PS0 all E g v)(h:PSt all E g v w i n)(x:List UInt8)(hT:isT x (all.drop i)=false):
  Calls prog 70 #[.pointer (some ⟨g,0,none⟩),.string ⟨x.toArray⟩] w fun e w'=>e= .returned (.bool false)/\PSt all E g v w' i n/\bm g w w':=by
 have c:=my h0 h;have he:((⟨(textP (all.drop i)).toArray⟩:ByteArray).toList==(⟨x.toArray⟩:ByteArray).toList)=false:=by rw[Gs];exact hT
 unfold jT at c;generalize (⟨(textP (all.drop i)).toArray⟩:ByteArray)=tx at*;generalize (⟨x.toArray⟩:ByteArray)=xx at*;clear hT;go_enter func70,ntmps70;go_wp2_with fail;refine c.mono ?_;rintro e w1 ⟨rfl,hb1⟩;have h1:=h.below hb1 h0;have hk1:=bm.of_below (g:=g) hb1;clear c h hb1;go_wp2_with fail;go_ret;exact⟨rfl,h1,hk1⟩
theorem nL (h0:PS0 all E g v)(h:PSt all E g v w i n)(x:List UInt8)(hx:x≠[])(hT:isT x (all.drop i)=true):
  Calls prog 36 #[.pointer (some ⟨g,0,none⟩),.string ⟨x.toArray⟩] w fun e w'=>e= .returned (.tuple #[])/\PSt all E g v w' (i+1) n/\bm g w w':=by
 have c:=fw h0 h x hx hT;clear hT h;go_enter func36,ntmps36;go_wp2_with fail;refine c.mono ?_;rintro e w1 ⟨rfl,h1,hk1⟩;go_wp2_with fail;go_end0;exact⟨rfl,h1,hk1⟩
theorem pI (h0:PS0 all E g v)(h:PSt all E g v w i n)(x:List UInt8)(hT:isT x (all.drop i)=false):
  Calls prog 36 #[.pointer (some ⟨g,0,none⟩),.string ⟨x.toArray⟩] w fun e w'=>e= .panicked (iS 2 (atP E (all.drop i)))/\bm g w w':=by
 have c:=dO h0 h x hT;clear hT h;go_enter func36,ntmps36;go_wp2_with fail;refine c.mono ?_;rintro e w1 ⟨rfl,h1,hk1⟩;go_wp2_with fail;refine(kP h0 h1 2).mono ?_;rintro e w2 ⟨rfl,hb2⟩;exact⟨rfl,rfl,hk1.trans (bm.of_below hb2)⟩
theorem uu (h0:PS0 all E g v)(h:PSt all E g v w i n)(kd:Int)(hk:kindP (all.drop i)=kd):
  Calls prog 111 #[.pointer (some ⟨g,0,none⟩),.int .i64 kd] w fun e w'=>e= .returned (jT E (all.drop i))/\PSt all E g v w' i n/\ao w w':=by
 have hb0:ao w (w.alloc (.cells #[.int .i64 0,.int .i64 0,.int .i64 0,.string ⟨#[]⟩] 99)):=am _ _;have hn:=aC w (.cells #[.int .i64 0,.int .i64 0,.int .i64 0,.string ⟨#[]⟩] 99);have hA:=h.below hb0 h0;have c:=my h0 hA;have c2:=fun(w1:World) (h1:PSt all E g v w1 i n)=>my h0 h1;unfold jT at c c2⊢;rw[hk]at c;generalize hw1:w.alloc (.cells #[.int .i64 0,.int .i64 0,.int .i64 0,.string ⟨#[]⟩] 99)=wA at*;go_enter func111,ntmps111;go_wp2_with fail;refine c.mono ?_;rintro e w1 ⟨rfl,hb1⟩;have h1:=hA.below hb1 h0;have hn1:=ai hb1 hn;have hbw1:=au hb0 hb1;have hne:(kd !=kd)=false:=by simp
 clear c hA hb1 hw1 hn hb0 hk;go_wp2_with fail;refine(c2 _ h1).mono ?_;rintro e w2 ⟨rfl,hb2⟩;have h2:=h1.below hb2 h0;have hn2:=ai hb2 hn1;have hbw2:=au hbw1 hb2;clear c2 h1 hb2 hn1 hbw1;have hs:ao w (w2.setRow w.heap.size #[.int .i64 (kindP (all.drop i)),.int .i64 (numP (all.drop i)),.int .i64 (atP E (all.drop i):Int),.string ⟨(textP (all.drop i)).toArray⟩]):=below_setRow hbw2 (aA _) _;go_wp2_with(refine az rfl 99 _ _ rfl _ _ rfl rfl _ _ hn2 (by kernel_rfl) (by simp) (by simp[Value.oneCell']) ?_)
 exact rA 4 (by kernel_rfl) w.heap.size _ _ _ _ rfl rfl (aJ _ _ _ _ _ _ hn2) ⟨rfl,h.below hs h0,hs⟩
theorem Bf (h0:PS0 all E g v)(h:PSt all E g v w i n)(kd:Int)(hk:kindP (all.drop i)≠kd):
  Calls prog 111 #[.pointer (some ⟨g,0,none⟩),.int .i64 kd] w fun e w'=>e= .panicked (iS 2 (atP E (all.drop i)))/\ao w w':=by
 have hb0:ao w (w.alloc (.cells #[.int .i64 0,.int .i64 0,.int .i64 0,.string ⟨#[]⟩] 99)):=am _ _;have hA:=h.below hb0 h0;have c:=my h0 hA;unfold jT at c;have hne:(kindP (all.drop i) !=kd)=true:=by simpa using hk
 have c2:=fun(w1:World) (h1:PSt all E g v w1 i n)=>kP h0 h1 2;generalize kindP (all.drop i)=kq at*;generalize hw1:w.alloc (.cells #[.int .i64 0,.int .i64 0,.int .i64 0,.string ⟨#[]⟩] 99)=wA at*;clear hk;go_enter func111,ntmps111;go_wp2_with fail;refine c.mono ?_;rintro e w1 ⟨rfl,hb1⟩;have h1:=hA.below hb1 h0;have hbw1:=au hb0 hb1;clear c hA hb1 hw1 hb0;go_wp2_with fail;refine(c2 _ h1).mono ?_;rintro e w2 ⟨rfl,hb2⟩;exact⟨rfl,rfl,au hbw1 hb2⟩
end
section
variable {all:List Tk} {E g:Nat} {v:Value} {w:World} {i n:Nat}
theorem bm.setRow {w':World}{k:Nat}(h:bm g w w')(hk:w.heap.size<=k)(cs:Array Value):bm g w (w'.setRow k cs):=
 ⟨h.os,h.tape,h.output,by simpa[World.setRow] using h.size,fun j hj hne=>(aT w' k j cs (by omega)).trans (h.block j hj hne)⟩
theorem bm.alloc {w':World}(h:bm g w w')(o:Obj):bm g w (w'.alloc o):=h.trans (bm.of_below (am _ o))
theorem Jq {all:List Tk}{i:Nat}(h:kindP (all.drop i)≠0):i+1<=all.length:=by
 have:=po h;simp at this;omega
theorem pW (h0:PS0 all E g v)(h:PSt all E g v w i n)(kd:Int)(hkd:kd≠0)(hk:kindP (all.drop i)=kd):
  Calls prog 72 #[ab g 0,ag kd] w fun e w'=>e= .returned (jT E (all.drop i))/\PSt all E g v w' (i+1) n/\bm g w w':=by
 have hgl:=aF h.blk;have hlen:=h0.len;have hi:i+1<=all.length:=Jq (by rw[hk];exact hkd);have hb0:ao w (w.alloc (.cells #[ag 0,ag 0,ag 0,.string ⟨#[]⟩] 99)):=am _ _;have hn:=aC w (.cells #[ag 0,ag 0,ag 0,.string ⟨#[]⟩] 99);have hA:=h.below hb0 h0;have c:=uu h0 hA kd hk;unfold jT at c⊢;clear hk hkd;generalize kindP (all.drop i)=t0 at*;generalize numP (all.drop i)=t1 at*;generalize (atP E (all.drop i):Int)=t2 at*;generalize (⟨(textP (all.drop i)).toArray⟩:ByteArray)=t3 at*;generalize hw1:w.alloc (.cells #[ag 0,ag 0,ag 0,.string ⟨#[]⟩] 99)=wA at*;go_enter func72,ntmps72;go_wp2_with fail;refine c.mono ?_;rintro e w1 ⟨rfl,h1,hb1⟩;have hn1:=ai hb1 hn;have hbw1:=au hb0 hb1;have hws:=aF hn1;have hb2:ao w1 (w1.alloc (.cells #[ag t0,ag t1,ag t2,.string t3] 99)):=am _ _;have h2:=h1.below hb2 h0;have hx2:=aC w1 (.cells #[ag t0,ag t1,ag t2,.string t3] 99);have hn2:=ai hb2 hn1;have hk2:bm g w (w1.alloc (.cells #[ag t0,ag t1,ag t2,.string t3] 99)):=(bm.of_below hbw1).alloc _;clear c hA hb1 hw1 hn hb0 hbw1 hn1 h1 hb2;generalize hw2:w1.alloc (.cells #[ag t0,ag t1,ag t2,.string t3] 99)=w2 at*;have k1:=ak 1 h2.blk;have y1:=bl _ _ 1 _ _ h2.blk;have h3:=h2.set h0 hi;have hk3:=hk2.trans (bm.set w2 g 1 (ag ((i+1:Nat):Int)));have hx3:=(aN w2 ⟨g,1,none⟩ w1.heap.size (ag ((i+1:Nat):Int)) (by show w1.heap.size≠g;omega)).trans hx2;have hn3:=(aN w2 ⟨g,1,none⟩ w.heap.size (ag ((i+1:Nat):Int)) (by show w.heap.size≠g;omega)).trans hn2;have ei:(i:Int)+1=((i+1:Nat):Int):=by omega
 have hi6:(i:Int)<=6000:=by omega
 have HF:P3 (∀cs,PSt all E g v ((w2.setCell ⟨g,1,none⟩ (ag ((i+1:Nat):Int))).setRow w.heap.size cs) (i+1) n):=fun cs=>
  h.of_kept h0 (hk3.setRow (aA _) cs) ((aT _ _ _ _ (by omega)).trans h3.blk) h3.le
 have hk4:=fun cs=>hk3.setRow (aA _) cs;generalize ((i+1:Nat):Int)=vv at*;clear h h2 h3 hk2 hk3 hx2 hn2
 go_wp2_with(first
  |(refine aR rfl 99 _ rfl _ rfl _ _ _ _ hx3 yv rfl (by kernel_rfl) ?_)
  |(refine az rfl 99 _ _ rfl _ _ rfl rfl _ _ hn3 (by kernel_rfl) (by simp) (by simp[Value.oneCell']) ?_))
 exact rA 4 (by kernel_rfl) w.heap.size _ _ _ _ rfl rfl (aJ _ _ _ _ _ _ hn3) ⟨rfl,HF.o _,hk4 _⟩
theorem yw (h0:PS0 all E g v)(h:PSt all E g v w i n)(kd:Int)(hk:kindP (all.drop i)≠kd):
  Calls prog 72 #[ab g 0,ag kd] w fun e w'=>e= .panicked (iS 2 (atP E (all.drop i)))/\bm g w w':=by
 have hb0:ao w (w.alloc (.cells #[ag 0,ag 0,ag 0,.string ⟨#[]⟩] 99)):=am _ _;have hA:=h.below hb0 h0;have c:=Bf h0 hA kd hk;generalize hw1:w.alloc (.cells #[ag 0,ag 0,ag 0,.string ⟨#[]⟩] 99)=wA at*;go_enter func72,ntmps72;go_wp2_with fail;refine c.mono ?_;rintro e w1 ⟨rfl,hb1⟩;exact⟨rfl,rfl,bm.of_below (au hb0 hb1)⟩
theorem sN (h0:PS0 all E g v)(h:PSt all E g v w i n)(kd m:Int)(hk:kindP (all.drop i)≠kd):
  Calls prog 196 #[ab g 0,ag kd,ag m] w fun e w'=>e= .panicked (iS 2 (atP E (all.drop i)))/\bm g w w':=by
 have hb0:ao w (w.alloc (.cells #[ag 0,ag 0,ag 0,.string ⟨#[]⟩] 99)):=am _ _;have hA:=h.below hb0 h0;have c:=Bf h0 hA kd hk;generalize hw1:w.alloc (.cells #[ag 0,ag 0,ag 0,.string ⟨#[]⟩] 99)=wA at*;go_enter func196,ntmps196;go_wp2_with fail;refine c.mono ?_;rintro e w1 ⟨rfl,hb1⟩;exact⟨rfl,rfl,bm.of_below (au hb0 hb1)⟩
theorem nN (h0:PS0 all E g v)(h:PSt all E g v w i n)(kd m:Int)(hk:kindP (all.drop i)=kd)(hm:numP (all.drop i)<m):
  Calls prog 196 #[ab g 0,ag kd,ag m] w fun e w'=>e= .panicked (iS 3 (atP E (all.drop i)))/\bm g w w':=by
 have hb0:ao w (w.alloc (.cells #[ag 0,ag 0,ag 0,.string ⟨#[]⟩] 99)):=am _ _;have hA:=h.below hb0 h0;have c:=uu h0 hA kd hk;have c2:=fun(w1:World) (h1:PSt all E g v w1 i n)=>kP h0 h1 3;unfold jT at c;clear hk;generalize kindP (all.drop i)=t0 at*;generalize numP (all.drop i)=t1 at*;generalize hw1:w.alloc (.cells #[ag 0,ag 0,ag 0,.string ⟨#[]⟩] 99)=wA at*;go_enter func196,ntmps196;go_wp2_with fail;refine c.mono ?_;rintro e w1 ⟨rfl,h1,hb1⟩;have hbw1:=au hb0 hb1;clear c hA hb1 hw1 hb0;go_wp2_with fail;refine(c2 _ h1).mono ?_;rintro e w2 ⟨rfl,hb2⟩;exact⟨rfl,rfl,bm.of_below (au hbw1 hb2)⟩
theorem pX (h0:PS0 all E g v)(h:PSt all E g v w i n)(kd m:Int)(hkd:kd≠0)(hk:kindP (all.drop i)=kd)(hm: ¬numP (all.drop i)<m):
  Calls prog 196 #[ab g 0,ag kd,ag m] w fun e w'=>e= .returned (jT E (all.drop i))/\PSt all E g v w' (i+1) n/\bm g w w':=by
 have hgl:=aF h.blk;have hb0:ao w (w.alloc (.cells #[ag 0,ag 0,ag 0,.string ⟨#[]⟩] 99)):=am _ _;have hn:=aC w (.cells #[ag 0,ag 0,ag 0,.string ⟨#[]⟩] 99);have hA:=h.below hb0 h0;have c:=uu h0 hA kd hk;have c2:=fun(w1:World) (h1:PSt all E g v w1 i n)=>pW h0 h1 kd hkd hk;unfold jT at c c2⊢;clear hk hkd;generalize kindP (all.drop i)=t0 at*;generalize numP (all.drop i)=t1 at*;generalize (atP E (all.drop i):Int)=t2 at*;generalize (⟨(textP (all.drop i)).toArray⟩:ByteArray)=t3 at*;generalize hw1:w.alloc (.cells #[ag 0,ag 0,ag 0,.string ⟨#[]⟩] 99)=wA at*;go_enter func196,ntmps196;go_wp2_with fail;refine c.mono ?_;rintro e w1 ⟨rfl,h1,hb1⟩;have hn1:=ai hb1 hn;have hbw1:=au hb0 hb1;clear c hA hb1 hw1 hn hb0;go_wp2_with fail;refine(c2 _ h1).mono ?_;rintro e w2 ⟨rfl,h2,hk2⟩;have hn2:=(hk2.block _ (aF hn1) (fun e=>by have:w.heap.size=g:=aK e;omega)).trans hn1;have hkw2:=(bm.of_below (g:=g) hbw1).trans hk2
 have HF:P3 (∀cs,PSt all E g v (w2.setRow w.heap.size cs) (i+1) n):=fun cs=>
  h.of_kept h0 (hkw2.setRow (aA _) cs) ((aT _ _ _ _ (by omega)).trans h2.blk) h2.le
 have hk4:=fun cs=>hkw2.setRow (aA _) cs;clear h h1 h2 hk2 hkw2 hn1 hbw1 c2;go_wp2_with(refine az rfl 99 _ _ rfl _ _ rfl rfl _ _ hn2 (by kernel_rfl) (by simp) (by simp[Value.oneCell']) ?_)
 exact rA 6 (by kernel_rfl) w.heap.size _ _ _ _ rfl rfl (aJ _ _ _ _ _ _ hn2) ⟨rfl,HF.o _,hk4 _⟩
end
section
variable {all:List Tk} {E g:Nat} {v:Value} {w:World} {i n:Nat}
def jd (all:List Tk)(E g:Nat)(v:Value)(w:World)(B:Nat->Prop)(x:Res)(e:Ending)(w':World):Prop:=
 match x with
 | .error (er,at_)=>e= .panicked (iS er at_)/\bm g w w'
 | .ok (ex,r,n)=> ∃(i:Nat) (sl:Value) (d:Nat),r=all.drop i/\e= .returned (exV ex sl)/\dn B d w' sl ex.kids/\PSt all E g v w' i n/\n<=600/\bm g w w'
theorem jd.weak {B B':Nat->Prop}{x:Res}{e:Ending}{w0 w':World}(hk:bm g w0 w)(hB: ∀k,B k->B' k)(h:jd all E g v w B x e w'):jd all E g v w0 B' x e w':=by
 unfold jd at h⊢;match x,h with
 | .error (er,at_),h=>exact⟨h.1,hk.trans h.2⟩
 | .ok (ex,r,n),h=>
  obtain⟨i,sl,d,a,b,c,d',f,k⟩:=h;exact⟨i,sl,d,a,b,c.mono hB,d',f,hk.trans k⟩
theorem j7 (h0:PS0 all E g v)(h:PSt all E g v w i n)(hn6:n<=600)(B:Nat->Prop)(hB: ∀k,B k->k≠g)(ex:Ex)(sl:Value)(d:Nat)(hk:dn B d w sl ex.kids):
  Calls prog 150 #[ab g 0,exV ex sl] w (jd all E g v w B (du E ex (all.drop i) n)):=by
 obtain⟨ps,cs',rfl⟩:=hk.form;have hgl:=aF h.blk;have hb1:ao w (w.alloc (.cells #[ag ex.kind,ag ex.a,ag ex.b,.string ⟨ex.name.toArray⟩,.slice ps ex.kids.length cs'] 52)):=am _ _;have hb2:ao w ((w.alloc (.cells #[ag ex.kind,ag ex.a,ag ex.b,.string ⟨ex.name.toArray⟩,.slice ps ex.kids.length cs'] 52)).alloc (.cells #[ag 0,ag 0,ag 0,.string ⟨#[]⟩,af] 52)):=hb1.alloc hb1.size _;have hx1:=aC w (.cells #[ag ex.kind,ag ex.a,ag ex.b,.string ⟨ex.name.toArray⟩,.slice ps ex.kids.length cs'] 52);have hx2:=(dB _ (.cells #[ag 0,ag 0,ag 0,.string ⟨#[]⟩,af] 52) _ (aF hx1)).trans hx1;have hn2:=aC (w.alloc (.cells #[ag ex.kind,ag ex.a,ag ex.b,.string ⟨ex.name.toArray⟩,.slice ps ex.kids.length cs'] 52)) (.cells #[ag 0,ag 0,ag 0,.string ⟨#[]⟩,af] 52);have hsz:(w.alloc (.cells #[ag ex.kind,ag ex.a,ag ex.b,.string ⟨ex.name.toArray⟩,.slice ps ex.kids.length cs'] 52)).heap.size=w.heap.size+1:=by simp
 rw[hsz]at hn2;have h2:=h.below hb2 h0;have hk2:=bm.of_below (g:=g) hb2;unfold exV;clear hx1 hb1 hsz;generalize hw2:((w.alloc (.cells #[ag ex.kind,ag ex.a,ag ex.b,.string ⟨ex.name.toArray⟩,.slice ps ex.kids.length cs'] 52)).alloc (.cells #[ag 0,ag 0,ag 0,.string ⟨#[]⟩,af] 52))=w2 at*;have k3:=ak 3 h2.blk;have y3:=bl _ _ 3 _ _ h2.blk;have h3:=h2.setN h0 (n+1);have hk3:=hk2.trans (bm.set w2 g 3 (ag ((n+1:Nat):Int)));have hx3:=(aN w2 ⟨g,3,none⟩ w.heap.size (ag ((n+1:Nat):Int)) (by show w.heap.size≠g;omega)).trans hx2;have hn3:=(aN w2 ⟨g,3,none⟩ (w.heap.size+1) (ag ((n+1:Nat):Int)) (by show w.heap.size+1≠g;omega)).trans hn2;have q3:=ak 3 h3.blk;have ei:(n:Int)+1=((n+1:Nat):Int):=by omega
 have hi6:(n:Int)<=600:=by omega
 by_cases hm:600<n+1
 ·have hm':(600:Int)<((n+1:Nat):Int):=by omega
  have c:=kP h0 h3 4;rw[show du E ex (all.drop i) n= .error (4,atP E (all.drop i)) by unfold du;rw[ay hm]];clear h h2 h3 hk2 hx2 hn2 hx3 hn3 hb2 hk;generalize ((n+1:Nat):Int)=vv at*;go_enter func150,ntmps150;go_wp2_with fail;refine c.mono ?_;rintro e w4 ⟨rfl,hb4⟩;exact⟨rfl,rfl,hk3.trans (bm.of_below hb4)⟩
 ·have hm': ¬(600:Int)<((n+1:Nat):Int):=by omega
  rw[show du E ex (all.drop i) n= .ok (ex,all.drop i,n+1) by unfold du;rw[aw hm]]
  have HF:P3 (∀cs,PSt all E g v ((w2.setCell ⟨g,3,none⟩ (ag ((n+1:Nat):Int))).setRow (w.heap.size+1) cs) i (n+1)):=fun cs=>
   h.of_kept h0 (hk3.setRow (by omega) cs) ((aT _ _ _ _ (by omega)).trans h3.blk) h3.le
  have hk4:=fun cs=>hk3.setRow (k:=w.heap.size+1) (by omega) cs;have HN:P3 (n+1<=600):=(by show n+1<=600;omega);have HK:P3 (dn B d w (.slice ps ex.kids.length cs') ex.kids):=hk;have HB:P3 (∀k,B k->k≠g):=hB;clear h h2 h3 hk2 hx2 hn2 hb2 hk hk3 hm;generalize ((n+1:Nat):Int)=vv at*;go_enter func150,ntmps150
  go_wp2_with(first
   |(refine aR rfl 52 _ rfl _ rfl _ _ _ _ hx3 eD rfl (by kernel_rfl) ?_)
   |(refine az rfl 52 _ _ rfl _ _ rfl rfl _ _ hn3 (by kernel_rfl) (by simp) (by simp[Value.oneCell']) ?_))
  exact jt 4 (by kernel_rfl) (w.heap.size+1) _ _ _ _ _ rfl rfl (aJ _ _ _ _ _ _ hn3) ⟨i,_,d,rfl,rfl,(hk4 _).kids HB.o HK.o,HF.o _,HN.o,hk4 _⟩
theorem Bg {B:Nat->Prop}{w:World}{b d:Nat}{k:Ex}{s:Value}(hB:B b)(hb:w.heap[b]? =ah #[ag k.kind,ag k.a,ag k.b,.string ⟨k.name.toArray⟩,s] 52)(hk:dn B d w s k.kids):
  dn B (d+1) w (.slice (some (ae b 0)) 1 1) [k]:=by
 refine .inr ⟨b,0,1,⟨hB,_,_,hb⟩,rfl,by simp,fun j k' hj=> ?_⟩;match j,hj with
 |0,hj=>
  have e:k=k':=(by simpa using hj);subst e;exact⟨s,(aV _ _ _ _ _ _ hb).trans rfl,(aV _ _ _ _ _ _ hb).trans rfl,(aV _ _ _ _ _ _ hb).trans rfl,(aV _ _ _ _ _ _ hb).trans rfl,(aV _ _ _ _ _ _ hb).trans rfl,hk⟩
theorem Jr {B:Nat->Prop}{w:World}{b d d':Nat}{k k':Ex}{s s':Value}(hB:B b)
  (hb:w.heap[b]? =ah #[ag k.kind,ag k.a,ag k.b,.string ⟨k.name.toArray⟩,s,ag k'.kind,ag k'.a,ag k'.b,.string ⟨k'.name.toArray⟩,s'] 52) (hk:dn B d w s k.kids) (hk':dn B d' w s' k'.kids):
  dn B (max d d'+1) w (.slice (some (ae b 0)) 2 2) [k,k']:=by
 refine .inr ⟨b,0,2,⟨hB,_,_,hb⟩,rfl,by simp,fun j q hj=> ?_⟩;match j,hj with
 |0,hj=>
  have e:k=q:=(by simpa using hj);subst e;exact⟨s,(aV _ _ _ _ _ _ hb).trans rfl,(aV _ _ _ _ _ _ hb).trans rfl,(aV _ _ _ _ _ _ hb).trans rfl,(aV _ _ _ _ _ _ hb).trans rfl,(aV _ _ _ _ _ _ hb).trans rfl,hk.le (by omega)⟩
 |1,hj=>
  have e:k'=q:=(by simpa using hj);subst e;exact⟨s',(aV _ _ _ _ _ _ hb).trans rfl,(aV _ _ _ _ _ _ hb).trans rfl,(aV _ _ _ _ _ _ hb).trans rfl,(aV _ _ _ _ _ _ hb).trans rfl,(aV _ _ _ _ _ _ hb).trans rfl,hk'.le (by omega)⟩
theorem Bh (h0:PS0 all E g v)(h:PSt all E g v w i n)(hn6:n<=600)(B:Nat->Prop)(hB: ∀k,B k->k≠g)(hf: ∀k,w.heap.size<=k->B k)(kd:Int)(l r:Ex)(sl sr:Value)(d d':Nat)(hl:dn B d w sl l.kids)(hr:dn B d' w sr r.kids):
  Calls prog 113 #[ab g 0,ag kd,exV l sl,exV r sr] w (jd all E g v w B (du E ⟨kd,0,0,[],[l,r]⟩ (all.drop i) n)):=by
 obtain⟨pl,cl,rfl⟩:=hl.form;obtain⟨pr,cr,rfl⟩:=hr.form;have hgl:=aF h.blk;unfold exV;have hb1:=am w (.cells #[ag l.kind,ag l.a,ag l.b,.string ⟨l.name.toArray⟩,.slice pl l.kids.length cl] 52);have hb2:=hb1.alloc hb1.size (.cells #[ag r.kind,ag r.a,ag r.b,.string ⟨r.name.toArray⟩,.slice pr r.kids.length cr] 52);have hb3:=hb2.alloc hb2.size (.cells #[ag 0,ag 0,ag 0,.string ⟨#[]⟩,af] 52);have hb4:=hb3.alloc hb3.size (.cells #[ag l.kind,ag l.a,ag l.b,.string ⟨l.name.toArray⟩,.slice pl l.kids.length cl,ag r.kind,ag r.a,ag r.b,.string ⟨r.name.toArray⟩,.slice pr r.kids.length cr] 52);have hz:=aC ((w.alloc (.cells #[ag l.kind,ag l.a,ag l.b,.string ⟨l.name.toArray⟩,.slice pl l.kids.length cl] 52)).alloc (.cells #[ag r.kind,ag r.a,ag r.b,.string ⟨r.name.toArray⟩,.slice pr r.kids.length cr] 52)) (.cells #[ag 0,ag 0,ag 0,.string ⟨#[]⟩,af] 52);have hz4:=(dB _ (.cells #[ag l.kind,ag l.a,ag l.b,.string ⟨l.name.toArray⟩,.slice pl l.kids.length cl,ag r.kind,ag r.a,ag r.b,.string ⟨r.name.toArray⟩,.slice pr r.kids.length cr] 52) _ (aF hz)).trans hz;have hs4:=aC (((w.alloc (.cells #[ag l.kind,ag l.a,ag l.b,.string ⟨l.name.toArray⟩,.slice pl l.kids.length cl] 52)).alloc (.cells #[ag r.kind,ag r.a,ag r.b,.string ⟨r.name.toArray⟩,.slice pr r.kids.length cr] 52)).alloc (.cells #[ag 0,ag 0,ag 0,.string ⟨#[]⟩,af] 52)) (.cells #[ag l.kind,ag l.a,ag l.b,.string ⟨l.name.toArray⟩,.slice pl l.kids.length cl,ag r.kind,ag r.a,ag r.b,.string ⟨r.name.toArray⟩,.slice pr r.kids.length cr] 52);rw[show((w.alloc (.cells #[ag l.kind,ag l.a,ag l.b,.string ⟨l.name.toArray⟩,.slice pl l.kids.length cl] 52)).alloc (.cells #[ag r.kind,ag r.a,ag r.b,.string ⟨r.name.toArray⟩,.slice pr r.kids.length cr] 52)).heap.size=w.heap.size+2 by simp]at hz4;rw[show(((w.alloc (.cells #[ag l.kind,ag l.a,ag l.b,.string ⟨l.name.toArray⟩,.slice pl l.kids.length cl] 52)).alloc (.cells #[ag r.kind,ag r.a,ag r.b,.string ⟨r.name.toArray⟩,.slice pr r.kids.length cr] 52)).alloc (.cells #[ag 0,ag 0,ag 0,.string ⟨#[]⟩,af] 52)).heap.size=w.heap.size+3 by simp]at hs4;have h4:=h.below hb4 h0;have hk4:=bm.of_below (g:=g) hb4;have hBB: ∀k,(B k/\k≠w.heap.size+2)->k≠g:=fun k hk=>hB k hk.1;have hl':dn (fun k=>B k/\k≠w.heap.size+2) d w (.slice pl l.kids.length cl) l.kids:=hl.lt.mono fun k hk=>⟨hk.1,by have:=hk.2;omega⟩
 have hr':dn (fun k=>B k/\k≠w.heap.size+2) d' w (.slice pr r.kids.length cr) r.kids:=hr.lt.mono fun k hk=>⟨hk.1,by have:=hk.2;omega⟩
 have kk:=Jr (B:=fun k=>B k/\k≠w.heap.size+2) ⟨hf _ (by omega),by omega⟩ hs4 (hk4.kids hBB hl') (hk4.kids hBB hr');clear hb1 hb2 hb3 hb4 hz hs4 hl hr hl' hr';generalize hw4:((((w.alloc (.cells #[ag l.kind,ag l.a,ag l.b,.string ⟨l.name.toArray⟩,.slice pl l.kids.length cl] 52)).alloc (.cells #[ag r.kind,ag r.a,ag r.b,.string ⟨r.name.toArray⟩,.slice pr r.kids.length cr] 52)).alloc (.cells #[ag 0,ag 0,ag 0,.string ⟨#[]⟩,af] 52)).alloc (.cells #[ag l.kind,ag l.a,ag l.b,.string ⟨l.name.toArray⟩,.slice pl l.kids.length cl,ag r.kind,ag r.a,ag r.b,.string ⟨r.name.toArray⟩,.slice pr r.kids.length cr] 52))=w4 at*;have c:=j7 h0 h4 hn6 _ hBB ⟨kd,0,0,[],[l,r]⟩ _ _ kk;unfold exV at c;clear kk;go_enter func113,ntmps113;go_wp2_with fail;refine c.mono ?_;intro e w5 ho;clear c hw4;cases hx:du E ⟨kd,0,0,[],[l,r]⟩ (all.drop i) n with
 |error q=>
  obtain⟨er,at_⟩:=q;rw[hx]at ho;obtain⟨rfl,hk5⟩:=ho;exact⟨rfl,rfl,hk4.trans hk5⟩
 |ok q=>
  obtain⟨ex,rr,nn⟩:=q;rw[hx]at ho;obtain⟨i',sl,dd,hr',rfl,hkd,h5,hn5,hk5⟩:=ho;have hz5:=(hk5.block _ (aF hz4) (fun e=>by have:w.heap.size+2=g:=aK e;omega)).trans hz4;have hkw:=hk4.trans hk5;obtain⟨p5,c5,rfl⟩:=hkd.form;have hkd':=fun cs=>hkd.kept (w':=w5.setRow (w.heap.size+2) cs) fun k hk _=>aT _ _ _ _ hk.2
  have HF:P3 (∀cs,jd all E g v w B (du E ⟨kd,0,0,[],[l,r]⟩ (all.drop i) n) (.returned (exV ex (.slice p5 ex.kids.length c5))) (w5.setRow (w.heap.size+2) cs)):=fun cs=>by
   rw[hx];exact⟨i',_,dd,hr',rfl,(hkd' cs).mono fun k hk=>hk.1,h.of_kept h0 (hkw.setRow (by omega) cs) ((aT _ _ _ _ (by omega)).trans h5.blk) h5.le,hn5,hkw.setRow (by omega) cs⟩
  unfold exV at HF⊢;clear h h4 hk4 hk5 hkd hkd' h5 hkw hx hz4;go_wp2_with(refine az rfl 52 _ _ rfl _ _ rfl rfl _ _ hz5 (by kernel_rfl) (by simp) (by simp[Value.oneCell']) ?_)
  exact jt 8 (by kernel_rfl) (w.heap.size+2) _ _ _ _ _ rfl rfl (aJ _ _ _ _ _ _ hz5) (HF.o _)
end
end Go.Proofs.YtjkilacmkbmmbaaGreatDoor
