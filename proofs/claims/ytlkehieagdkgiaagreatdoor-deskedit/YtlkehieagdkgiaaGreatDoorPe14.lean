/- Texts of the proof. -/
import Derived.Test.YtlkehieagdkgiaaGreatDoorPe13
set_option maxRecDepth 100000
set_option maxHeartbeats 8000000
namespace Go.Proofs.YtlkehieagdkgiaaGreatDoor
open Go.Proofs.Tryz Go.RowKit Lx Vx Mx Msk
def exV (e:Ex)(sl:Value):Value:= .agg #[ag e.kind,ag e.a,ag e.b,.string ⟨e.name.toArray⟩,sl]
def TyE (w:World)(g:Nat):Prop:= ∃(a:Array Value) (fr:Nat×Nat),w.heap[g]? =some (.cells a 84 fr)
def dG (B:Nat->Prop):Nat->World->Value->List Ex->Prop
 |0,_,sl,e=>e=[]/\ ∃p c,sl= .slice p 0 c
 |d+1,w,sl,e=>(e=[]/\ ∃p c,sl= .slice p 0 c)\/ ∃g o c:Nat,(B g/\TyE w g)/\sl= .slice (some (ae g o)) e.length c/\e.length<9223372036854775808/\ ∀(j:Nat) (k:Ex),e[j]? =some k-> ∃f:Value,
  w.cell? (ae g (o+j*5))=some (ag k.kind)/\w.cell? (ae g (o+j*5+1))=some (ag k.a)/\w.cell? (ae g (o+j*5+2))=some (ag k.b)/\
  w.cell? (ae g (o+j*5+3))=some (.string ⟨k.name.toArray⟩)/\w.cell? (ae g (o+j*5+4))=some f/\dG B d w f k.kids
theorem dG.up {B:Nat->Prop}: ∀{d:Nat} {w:World} {sl:Value} {a:List Ex},dG B d w sl a->dG B (d+1) w sl a
 |0,_,_,_,h=> .inl h
 |d+1,w,sl,a,h=>by
  rcases h with h|⟨g,o,c,i,p,n,m⟩
  ·exact .inl h
  ·refine .inr ⟨g,o,c,i,p,n,fun j k l=> ?_⟩;obtain⟨q,c0,c1,b,e,f,r⟩:=m j k l;exact⟨q,c0,c1,b,e,f,dG.up r⟩
theorem dG.le {B:Nat->Prop}{d a:Nat}{w:World}{sl:Value}{b:List Ex}(h:dG B d w sl b)(c:d<=a):dG B a w sl b:=by
 obtain⟨n,rfl⟩: ∃n,a=d+n:=⟨a-d,by omega⟩
 clear c;induction n with
 |zero=>exact h
 |succ n e=>exact dG.up e
theorem dG.kept {B:Nat->Prop}{w w':World}(f: ∀g,B g->g<w.heap.size->w'.heap[g]? =w.heap[g]?): ∀{d:Nat} {sl:Value} {l:List Ex},dG B d w sl l->dG B d w' sl l
 |0,_,_,h=>h
 |d+1,sl,l,h=>by
  rcases h with h|⟨g,o,c,b,v,u,t⟩
  ·exact .inl h
  ·have x:TyE w' g:=by
    obtain⟨q,fr,h⟩:=b.2;exact⟨q,fr,(f g b.1 (aI h)).trans h⟩
   refine .inr ⟨g,o,c,⟨b.1,x⟩,v,u,fun j k s=> ?_⟩;obtain⟨y,c0,c1,m,n,p,r⟩:=t j k s;have e:w'.heap[g]? =w.heap[g]? :=f g b.1 (cZ c0);have a: ∀i,w'.cell? (ae g i)=w.cell? (ae g i):=fun i=>et e;exact⟨y,(a _).trans c0,(a _).trans c1,(a _).trans m,(a _).trans n,(a _).trans p,dG.kept f r⟩
theorem dG.mono {B b:Nat->Prop}(e: ∀g,B g->b g): ∀{d:Nat} {w:World} {sl:Value} {a:List Ex},dG B d w sl a->dG b d w sl a
 |0,_,_,_,h=>h
 |d+1,w,sl,a,h=>by
  rcases h with h|⟨g,o,c,f,s,q,p⟩
  ·exact .inl h
  ·refine .inr ⟨g,o,c,⟨e g f.1,f.2⟩,s,q,fun j k n=> ?_⟩;obtain⟨t,c0,c1,i,l,m,r⟩:=p j k n;exact⟨t,c0,c1,i,l,m,dG.mono e r⟩
theorem dG.lt {B:Nat->Prop}: ∀{d:Nat} {w:World} {sl:Value} {a:List Ex},dG B d w sl a->dG (fun k=>B k/\k<w.heap.size) d w sl a
 |0,_,_,_,h=>h
 |d+1,w,sl,a,h=>by
  rcases h with h|⟨g,o,c,b,f,p,e⟩
  ·exact .inl h
  ·cases a with
   |nil=>exact .inl ⟨rfl,_,_,f⟩
   |cons k0 a=>
    obtain⟨_,c0,_⟩:=e 0 k0 rfl;refine .inr ⟨g,o,c,⟨⟨b.1,cZ c0⟩,b.2⟩,f,p,fun j k n=> ?_⟩;obtain⟨q,c0,c1,i,l,m,r⟩:=e j k n;exact⟨q,c0,c1,i,l,m,dG.lt r⟩
theorem dG.other {B:Nat->Prop}{b:Nat}{s:Array Value}{t:TypeId}{fr:Nat×Nat}: ∀{d:Nat} {w:World} {sl:Value} {f:List Ex},w.heap[b]? =some (.cells s t fr)->t≠84->dG B d w sl f->dG (fun k=>B k/\k≠b) d w sl f
 |0,_,_,_,_,_,h=>h
 |d+1,w,sl,f,l,m,h=>by
  rcases h with h|⟨g,o,c,a,A,z,y⟩
  ·exact .inl h
  ·have e:g≠b:=by
    rintro rfl;obtain⟨u,v,i⟩:=a.2;rw[l]at i;exact m (Obj.cells.inj (aN i)).2.1
   refine .inr ⟨g,o,c,⟨⟨a.1,e⟩,a.2⟩,A,z,fun j k x=> ?_⟩;obtain⟨C,c0,c1,n,p,q,r⟩:=y j k x;exact⟨C,c0,c1,n,p,q,dG.other l m r⟩
theorem dG.nil (B:Nat->Prop)(d:Nat)(w:World)(p:Option Addr)(c:Nat):dG B d w (.slice p 0 c) []:=by
 cases d with
 |zero=>exact⟨rfl,p,c,rfl⟩
 |succ d=>exact .inl ⟨rfl,p,c,rfl⟩
theorem dG.form {B:Nat->Prop}{d:Nat}{w:World}{sl:Value}{a:List Ex}(h:dG B d w sl a): ∃p c,sl= .slice p a.length c:=by
 cases d with
 |zero=>
  obtain⟨rfl,p,c,rfl⟩:=h;exact⟨p,c,rfl⟩
 |succ d=>
  rcases h with⟨rfl,p,c,rfl⟩|⟨g,o,c,_,b,_⟩
  ·exact⟨p,c,rfl⟩
  ·exact⟨_,c,b⟩
abbrev bp (g:Nat)(w w':World):Prop:=w.grownBy w' (some g)
theorem bp.refl (g:Nat)(w:World):bp g w w:=⟨rfl,rfl,rfl,aD _,fun _ _ _=>rfl⟩
theorem bp.trans {g:Nat}{w w' c:World}(h:bp g w w')(a:bp g w' c):bp g w c:=
 ⟨a.os.trans h.os,a.tape.trans h.tape,a.output.trans h.output,bg h.size a.size,fun k d b=>(a.block k (aU d h.size) b).trans (h.block k d b)⟩
theorem bp.of_below {g:Nat}{w w':World}(h:aq w w'):bp g w w':=⟨h.os,h.tape,h.output,h.size,fun k a _=>h.block k a⟩
theorem bp.kids {B:Nat->Prop}{g d:Nat}{w w':World}{sl:Value}{a:List Ex}(h:bp g w w')(c: ∀k,B k->k≠g)(f:dG B d w sl a):dG B d w' sl a:=
 f.kept fun k b i=>h.block k i (fun e=>c k b (aN e))
theorem bp.row {g:Nat}{w w':World}{v:Value}{l:List (T1×Nat)}(h:bp g w w')(u:v.ownBlock≠some g)(d:si w v l):si w' v l:=by
 rcases d with d|⟨gt,o,c,f,s,q⟩
 ·exact .inl d
 ·refine .inr ⟨gt,o,c,f,s,fun j t k r=> ?_⟩;obtain⟨c1,m,n,p⟩:=q j t k r;have b:gt≠g:=fun e=>u (by rw[f,e];rfl);have e:w'.heap[gt]? =w.heap[gt]? :=h.block gt (cZ c1) (fun e=>b (aN e));have a: ∀i,w'.cell? (ae gt i)=w.cell? (ae gt i):=fun i=>et e;exact⟨(a _).trans c1,(a _).trans m,(a _).trans n,(a _).trans p⟩
structure PS0 (all:List Tk)(E g:Nat)(v:Value):Prop where
 len:all.length<=6000
 fin:E<=6000
 own:v.ownBlock≠some g
 num: ∀p∈all,0<=p.1.n/\p.1.n<=999999
 glob:2≠g
def qP (w:World):Prop:= ∀j:Nat,j<7->w.cell? (ae 2 j)=some (.string ⟨(fH.getD j []).toArray⟩)
theorem bp.days {g:Nat}{w w':World}(h:bp g w w')(b:2≠g)(a:qP w):qP w':=fun j d=>by
 have c:=a j d;exact(et (h.block 2 (cZ c) (fun e=>b (aN e)))).trans c
structure PSt (all:List Tk)(E g:Nat)(v:Value)(w:World)(i n:Nat):Prop where
 blk:w.heap[g]? =ah #[v,ag (i:Int),ag (E:Int),ag (n:Int)] 97
 row:si w v all
 le:i<=all.length
 tab:qP w
theorem PSt.below {all:List Tk}{E g:Nat}{v:Value}{w w':World}{i n:Nat}(h:PSt all E g v w i n)(a:aq w w')(b:PS0 all E g v):PSt all E g v w' i n:=
 ⟨(a.block g (aI h.blk)).trans h.blk,(bp.of_below (g:=g) a).row b.own h.row,h.le,(bp.of_below (g:=g) a).days b.glob h.tab⟩
def kF (E:Nat)(r:List Tk):Value:= .agg #[ag (kindP r),ag (numP r),ag (atP E r:Int),.string ⟨(textP r).toArray⟩]
theorem fo:prog.underlying 84=some (.struct (prog.fieldsOf 84)):=by kernel_rfl
theorem sI {e:Func}(s:Nat)(h:e.results= #[ResultVar.cell s 127]){R:Ending->World->Prop}{a:Act}{w:World}(g:Nat)(c0 c1 b c:Value)(j:a.defers=[])(f:a.tmps.getD s undef=ab g 0)
  (k:w.heap[g]? =ah #[c0,c1,b,c] 127) (i:R (.returned (.agg #[c0,c1,b,c])) w):bodyPost prog e R .ret a w:=by
 refine aX (v:= .agg #[c0,c1,b,c]) ?_ j i;have d:a.tmps[s]?.getD undef=ab g 0:=by simpa using f
 have l:=en (P:=prog) w g 127 127 _ _ _ k zN rfl (by kernel_rfl);simp[results,h,d,asAddr,l]
theorem jQ {f:Func}(s:Nat)(h:f.results= #[ResultVar.cell s 84]){R:Ending->World->Prop}{a:Act}{w:World}(g:Nat)(c0 c1 b c d:Value)(k:a.defers=[])(i:a.tmps.getD s undef=ab g 0)
  (l:w.heap[g]? =ah #[c0,c1,b,c,d] 84) (j:R (.returned (.agg #[c0,c1,b,c,d])) w):bodyPost prog f R .ret a w:=by
 refine aX (v:= .agg #[c0,c1,b,c,d]) ?_ k j;have e:a.tmps[s]?.getD undef=ab g 0:=by simpa using i
 have m:=en (P:=prog) w g 84 84 _ _ _ l fo rfl (by kernel_rfl);simp[results,h,e,asAddr,m]
theorem Hu (c0 c1 a b:Value)(w:World):(Instr.field 127 (.agg #[c0,c1,a,b]) 0).run prog w= .ok c0 w:=by
 unfold Instr.field;simp[go_sem,asAgg]
theorem Hv (c0 c1 a b:Value)(w:World):(Instr.field 127 (.agg #[c0,c1,a,b]) 1).run prog w= .ok c1 w:=by
 unfold Instr.field;simp[go_sem,asAgg]
theorem Hy (c0 c1 a b:Value)(w:World):(Instr.field 127 (.agg #[c0,c1,a,b]) 2).run prog w= .ok a w:=by
 unfold Instr.field;simp[go_sem,asAgg]
theorem Hz (c0 c1 b a:Value)(w:World):(Instr.field 127 (.agg #[c0,c1,b,a]) 3).run prog w= .ok a w:=by
 unfold Instr.field;simp[go_sem,asAgg]
attribute [go_sem] Hu Hv Hy Hz
theorem np {all:List Tk}{E g:Nat}{v:Value}{w:World}{i n:Nat}(O:PS0 all E g v)(h:PSt all E g v w i n):
  Calls prog 97 #[.pointer (some ⟨g,0,none⟩)] w fun e w'=>e= .returned (kF E (all.drop i))/\aq w w':=by
 have l:=aI h.blk;have u:=(dQ w (.cells #[.int .i64 0,.int .i64 0,.int .i64 0,.string ⟨#[]⟩] 127) _ l).trans h.blk;have k0:=ak 0 u;have B:=ak 1 u;have C:=ak 2 u;have b:aq w (w.alloc (.cells #[.int .i64 0,.int .i64 0,.int .i64 0,.string ⟨#[]⟩] 127)):=am _ _;have y:=aG w (.cells #[.int .i64 0,.int .i64 0,.int .i64 0,.string ⟨#[]⟩] 127);have L:=O.len;have S:=h.le;have f:=h.row;by_cases hi:i<all.length
 ·have A:(i:Int)<(all.length:Int):=by omega
  have R:(0:Int)<=(i:Int):=(by omega);rcases f with⟨_,_,e⟩|⟨gt,o,c,rfl,_,K⟩
  ·rw[e]at hi;simp at hi
  obtain⟨⟨t,k⟩,m⟩: ∃q,all[i]? =some q:=⟨all[i],ay hi⟩
  obtain⟨c0,c1,D,F⟩:=K i t k m;have G:=aj b c0;have H:=aj b c1;have I:=aj b D;have J:=aj b F
  have s:all.drop i=(t,k)::all.drop (i+1):=by
   obtain⟨P,Q⟩:=aF.1 m;rw[bJ P,Q]
  have N:Rb (kF E (all.drop i)= .agg #[.int .i64 t.kind,.int .i64 t.n,.int .i64 (k:Int),.string ⟨t.text.toArray⟩]):=by
   show _=_;rw[s];rfl
  clear u l s h K c0 c1 D F m;generalize (⟨t.text.toArray⟩:ByteArray)=x at*;generalize r:w.alloc (.cells #[.int .i64 0,.int .i64 0,.int .i64 0,.string ⟨#[]⟩] 127)=d at*;go_enter func97,ntmps97;go_wp2;go_quiet (fail);have a:(d.drewN nq).heap[w.heap.size]? =some (.cells #[.int .i64 0,.int .i64 0,.int .i64 0,.string ⟨#[]⟩] 127 (0,0)):=y;have U:(d.drewN nq).cell? ⟨g,0,none⟩=some (.slice (some ⟨gt,o,none⟩) all.length c):=k0;have V:(d.drewN nq).cell? ⟨g,1,none⟩=some (.int .i64 (i:Int)):=B;have f0:(d.drewN nq).cell? ⟨gt,o+i*4,none⟩=some (.int .i64 t.kind):=G;have f1:(d.drewN nq).cell? ⟨gt,o+i*4+1,none⟩=some (.int .i64 t.n):=H;have f2:(d.drewN nq).cell? ⟨gt,o+i*4+2,none⟩=some (.int .i64 (k:Int)):=I;have f3:(d.drewN nq).cell? ⟨gt,o+i*4+3,none⟩=some (.string x):=J;have j:=du b nq;clear r k0 B C y b G H I J;generalize d.drewN nq=M at*;have z0:=ak 0 a;have z1:=ak 1 a;have z2:=ak 2 a;have z3:=ak 3 a;have X:=bo _ _ 0 _ _ a;have Y:=bo _ _ 1 _ _ a;have Z:=bo _ _ 2 _ _ a;have y3:=bo _ _ 3 _ _ a
  have T:((((M.setCell ⟨w.heap.size,0,none⟩ (.int .i64 t.kind)).setCell ⟨w.heap.size,1,none⟩ (.int .i64 t.n)).setCell ⟨w.heap.size,2,none⟩ (.int .i64 (k:Int))).setCell ⟨w.heap.size,3,none⟩ (.string x)).heap[w.heap.size]? =some (.cells #[.int .i64 t.kind,.int .i64 t.n,.int .i64 (k:Int),.string x] 127 (0,0)):=
   aY _ _ 3 _ _ _ (aY _ _ 2 _ _ _ (aY _ _ 1 _ _ _ (aY _ _ 0 _ _ _ a)))
  have z:=(((j.setCell (p:=⟨w.heap.size,0,none⟩) (aD _) (.int .i64 t.kind)).setCell (p:=⟨w.heap.size,1,none⟩) (aD _) (.int .i64 t.n)).setCell (p:=⟨w.heap.size,2,none⟩) (aD _) (.int .i64 (k:Int))).setCell (p:=⟨w.heap.size,3,none⟩) (aD _) (.string x);go_wp2;go_region;go_wp2;exact sI 2 (by kernel_rfl) w.heap.size (.int .i64 t.kind) (.int .i64 t.n) (.int .i64 (k:Int)) (.string x) rfl rfl T ⟨by rw[N.o],du z 1⟩
 ·have A: ¬(i:Int)<(all.length:Int):=by omega
  obtain⟨p,c,rfl⟩:=si.form f;have s:all.drop i=[]:=List.drop_eq_nil_of_le (by omega);rw[s];clear u l s f h;generalize r:w.alloc (.cells #[.int .i64 0,.int .i64 0,.int .i64 0,.string ⟨#[]⟩] 127)=d at*;go_enter func97,ntmps97;go_wp2;go_quiet (fail);have a:(d.drewN nq).heap[w.heap.size]? =some (.cells #[.int .i64 0,.int .i64 0,.int .i64 0,.string ⟨#[]⟩] 127 (0,0)):=y;have W:(d.drewN nq).cell? ⟨g,2,none⟩=some (.int .i64 (E:Int)):=C;have j:=du b nq;clear r k0 B C y b;generalize d.drewN nq=M at*;go_wp2_with(refine az rfl 127 _ _ rfl _ _ rfl rfl _ _ a (by kernel_rfl) (by simp) (by simp[Value.oneCell']) ?_)
  exact sI 2 (by kernel_rfl) w.heap.size _ _ _ _ rfl rfl (aL _ _ _ _ _ _ a) ⟨rfl,below_setRow j (aD _) _⟩
def jq (er:Int)(at_:Nat):List PanicEntry:=[{v:= .iface 95 (.agg #[.int .i64 er,.int .i64 (at_:Int)]),recovered:=false}]
theorem lA {all:List Tk}{E g:Nat}{v:Value}{w:World}{i n:Nat}(d:PS0 all E g v)(h:PSt all E g v w i n)(er:Int):
  Calls prog 57 #[.pointer (some ⟨g,0,none⟩),.int .i64 er] w fun e w'=>e= .panicked (jq er (atP E (all.drop i)))/\aq w w':=by
 have c:=np d h;unfold kF at c;generalize atP E (all.drop i)=a at*;go_enter func57,ntmps57;go_wp2_with fail;refine c.mono ?_;rintro e f ⟨rfl,b⟩;go_wp2_with fail;exact⟨rfl,rfl,b⟩
theorem H2 (x y:List UInt8):((⟨x.toArray⟩:ByteArray).toList==(⟨y.toArray⟩:ByteArray).toList)=(x==y):=by rw[Lib.toList_data,Lib.toList_data]
theorem bp.set (w:World)(g j:Nat)(u:Value):bp g w (w.setCell ⟨g,j,none⟩ u):=⟨rfl,rfl,rfl,by simp,fun k _ a=>aO w ⟨g,j,none⟩ k u (fun e=>a (by rw[e]))⟩
theorem PSt.of_kept {all:List Tk}{E g:Nat}{v:Value}{w:World}{i n a d:Nat}{w':World}(h:PSt all E g v w i n)(b:PS0 all E g v)(c:bp g w w')(e:w'.heap[g]? =some (.cells #[v,.int .i64 (a:Int),.int .i64 (E:Int),.int .i64 (d:Int)] 97 (0,0)))(hi:a<=all.length):PSt all E g v w' a d:=
 ⟨e,c.row b.own h.row,hi,c.days b.glob h.tab⟩
theorem PSt.set {all:List Tk}{E g:Nat}{v:Value}{w:World}{i n:Nat}(h:PSt all E g v w i n)(a:PS0 all E g v)(hi:i+1<=all.length):PSt all E g v (w.setCell ⟨g,1,none⟩ (.int .i64 ((i+1:Nat):Int))) (i+1) n:=
 h.of_kept a (bp.set _ _ _ _) (aY _ _ 1 _ _ _ h.blk) hi
theorem PSt.setN {all:List Tk}{E g:Nat}{v:Value}{w:World}{i n:Nat}(h:PSt all E g v w i n)(a:PS0 all E g v)(m:Nat):PSt all E g v (w.setCell ⟨g,3,none⟩ (.int .i64 (m:Int))) i m:=
 h.of_kept a (bp.set _ _ _ _) (aY _ _ 3 _ _ _ h.blk) h.le
theorem oU {x:List UInt8}{all:List Tk}{i:Nat}(a:x≠[])(h:isT x (all.drop i)=true):i+1<=all.length:=by
 have:=fB a h;simp at this;omega
theorem gz {all:List Tk}{E g:Nat}{v:Value}{w:World}{i n:Nat}(b:PS0 all E g v)(h:PSt all E g v w i n)(x:List UInt8)(o:x≠[])(f:isT x (all.drop i)=true):
  Calls prog 96 #[.pointer (some ⟨g,0,none⟩),.string ⟨x.toArray⟩] w fun e w'=>e= .returned (.bool true)/\PSt all E g v w' (i+1) n/\bp g w w':=by
 have c:=np b h;have k:=b.len;have hi:=oU o f;have r:((⟨(textP (all.drop i)).toArray⟩:ByteArray).toList==(⟨x.toArray⟩:ByteArray).toList)=true:=by rw[H2];exact f
 unfold kF at c;generalize (⟨(textP (all.drop i)).toArray⟩:ByteArray)=t at*;generalize (⟨x.toArray⟩:ByteArray)=y at*;go_enter func96,ntmps96;go_wp2_with fail;refine c.mono ?_;rintro e p ⟨rfl,a⟩;have d:=h.below a b;have s:=ak 1 d.blk;have z:=bo _ _ 1 _ _ d.blk;have l:=d.set b hi;have j:=(bp.of_below (g:=g) a).trans (bp.set p g 1 (.int .i64 ((i+1:Nat):Int)));have q:(i:Int)+1=((i+1:Nat):Int):=by omega
 have m:(i:Int)<=6000:=by omega
 generalize ((i+1:Nat):Int)=u at*;clear c h d a f;go_wp2_with fail;go_ret;exact⟨rfl,l,j⟩
section
variable {all:List Tk} {E g:Nat} {v:Value} {w:World} {i n:Nat}
theorem eG (d:PS0 all E g v)(h:PSt all E g v w i n)(x:List UInt8)(f:isT x (all.drop i)=false):
  Calls prog 96 #[.pointer (some ⟨g,0,none⟩),.string ⟨x.toArray⟩] w fun e w'=>e= .returned (.bool false)/\PSt all E g v w' i n/\bp g w w':=by
 have c:=np d h;have k:((⟨(textP (all.drop i)).toArray⟩:ByteArray).toList==(⟨x.toArray⟩:ByteArray).toList)=false:=by rw[H2];exact f
 unfold kF at c;generalize (⟨(textP (all.drop i)).toArray⟩:ByteArray)=l at*;generalize (⟨x.toArray⟩:ByteArray)=o at*;clear f;go_enter func96,ntmps96;go_wp2_with fail;refine c.mono ?_;rintro e m ⟨rfl,a⟩;have j:=h.below a d;have b:=bp.of_below (g:=g) a;clear c h a;go_wp2_with fail;go_ret;exact⟨rfl,j,b⟩
theorem oV (d:PS0 all E g v)(h:PSt all E g v w i n)(x:List UInt8)(j:x≠[])(b:isT x (all.drop i)=true):
  Calls prog 56 #[.pointer (some ⟨g,0,none⟩),.string ⟨x.toArray⟩] w fun e w'=>e= .returned (.tuple #[])/\PSt all E g v w' (i+1) n/\bp g w w':=by
 have c:=gz d h x j b;clear b h;go_enter func56,ntmps56;go_wp2_with fail;refine c.mono ?_;rintro e k ⟨rfl,f,a⟩;go_wp2_with fail;go_end0;exact⟨rfl,f,a⟩
theorem qE (d:PS0 all E g v)(h:PSt all E g v w i n)(x:List UInt8)(f:isT x (all.drop i)=false):
  Calls prog 56 #[.pointer (some ⟨g,0,none⟩),.string ⟨x.toArray⟩] w fun e w'=>e= .panicked (jq 2 (atP E (all.drop i)))/\bp g w w':=by
 have c:=eG d h x f;clear f h;go_enter func56,ntmps56;go_wp2_with fail;refine c.mono ?_;rintro e k ⟨rfl,j,b⟩;go_wp2_with fail;refine(lA d j 2).mono ?_;rintro e l ⟨rfl,a⟩;exact⟨rfl,rfl,b.trans (bp.of_below a)⟩
theorem vu (j:PS0 all E g v)(h:PSt all E g v w i n)(kd:Int)(s:kindP (all.drop i)=kd):
  Calls prog 129 #[.pointer (some ⟨g,0,none⟩),.int .i64 kd] w fun e w'=>e= .returned (kF E (all.drop i))/\PSt all E g v w' i n/\aq w w':=by
 have f:aq w (w.alloc (.cells #[.int .i64 0,.int .i64 0,.int .i64 0,.string ⟨#[]⟩] 127)):=am _ _;have t:=aG w (.cells #[.int .i64 0,.int .i64 0,.int .i64 0,.string ⟨#[]⟩] 127);have q:=h.below f j;have c:=np j q;have p:=fun(x:World) (k:PSt all E g v x i n)=>np j k;unfold kF at c p⊢;rw[s]at c;generalize r:w.alloc (.cells #[.int .i64 0,.int .i64 0,.int .i64 0,.string ⟨#[]⟩] 127)=B at*;go_enter func129,ntmps129;go_wp2_with fail;refine c.mono ?_;rintro e x ⟨rfl,a⟩;have k:=q.below a j;have m:=ai a t;have d:=aw f a;have y:(kd !=kd)=false:=by simp
 clear c q a r t f s;go_wp2_with fail;refine(p _ k).mono ?_;rintro e z ⟨rfl,b⟩;have A:=k.below b j;have o:=ai b m;have l:=aw d b;clear p k b m d;have u:aq w (z.setRow w.heap.size #[.int .i64 (kindP (all.drop i)),.int .i64 (numP (all.drop i)),.int .i64 (atP E (all.drop i):Int),.string ⟨(textP (all.drop i)).toArray⟩]):=below_setRow l (aD _) _;go_wp2_with(refine az rfl 127 _ _ rfl _ _ rfl rfl _ _ o (by kernel_rfl) (by simp) (by simp[Value.oneCell']) ?_)
 exact sI 4 (by kernel_rfl) w.heap.size _ _ _ _ rfl rfl (aL _ _ _ _ _ _ o) ⟨rfl,h.below u j,u⟩
theorem B4 (f:PS0 all E g v)(h:PSt all E g v w i n)(kd:Int)(o:kindP (all.drop i)≠kd):
  Calls prog 129 #[.pointer (some ⟨g,0,none⟩),.int .i64 kd] w fun e w'=>e= .panicked (jq 2 (atP E (all.drop i)))/\aq w w':=by
 have a:aq w (w.alloc (.cells #[.int .i64 0,.int .i64 0,.int .i64 0,.string ⟨#[]⟩] 127)):=am _ _;have k:=h.below a f;have c:=np f k;unfold kF at c;have r:(kindP (all.drop i) !=kd)=true:=by simpa using o
 have q:=fun(p:World) (j:PSt all E g v p i n)=>lA f j 2;generalize kindP (all.drop i)=s at*;generalize m:w.alloc (.cells #[.int .i64 0,.int .i64 0,.int .i64 0,.string ⟨#[]⟩] 127)=u at*;clear o;go_enter func129,ntmps129;go_wp2_with fail;refine c.mono ?_;rintro e p ⟨rfl,b⟩;have j:=k.below b f;have d:=aw a b;clear c k b m a;go_wp2_with fail;refine(q _ j).mono ?_;rintro e t ⟨rfl,l⟩;exact⟨rfl,rfl,aw d l⟩
end
section
variable {all:List Tk} {E g:Nat} {v:Value} {w:World} {i n:Nat}
theorem bp.setRow {w':World}{k:Nat}(h:bp g w w')(d:w.heap.size<=k)(b:Array Value):bp g w (w'.setRow k b):=
 ⟨h.os,h.tape,h.output,by simpa[World.setRow] using h.size,fun j c a=>(aW w' k j b (by omega)).trans (h.block j c a)⟩
theorem bp.alloc {w':World}(h:bp g w w')(o:Obj):bp g w (w'.alloc o):=h.trans (bp.of_below (am _ o))
theorem Kn {all:List Tk}{i:Nat}(h:kindP (all.drop i)≠0):i+1<=all.length:=by
 have:=qr h;simp at this;omega
theorem qQ (m:PS0 all E g v)(h:PSt all E g v w i n)(kd:Int)(r:kd≠0)(B:kindP (all.drop i)=kd):
  Calls prog 98 #[ab g 0,ag kd] w fun e w'=>e= .returned (kF E (all.drop i))/\PSt all E g v w' (i+1) n/\bp g w w':=by
 have L:=aI h.blk;have I:=m.len;have hi:i+1<=all.length:=Kn (by rw[B];exact r);have b:aq w (w.alloc (.cells #[ag 0,ag 0,ag 0,.string ⟨#[]⟩] 127)):=am _ _;have J:=aG w (.cells #[ag 0,ag 0,ag 0,.string ⟨#[]⟩] 127);have H:=h.below b m;have c:=vu m H kd B;unfold kF at c⊢;clear B r;generalize kindP (all.drop i)=t0 at*;generalize numP (all.drop i)=t1 at*;generalize (atP E (all.drop i):Int)=t2 at*;generalize (⟨(textP (all.drop i)).toArray⟩:ByteArray)=y at*;generalize D:w.alloc (.cells #[ag 0,ag 0,ag 0,.string ⟨#[]⟩] 127)=S at*;go_enter func98,ntmps98;go_wp2_with fail;refine c.mono ?_;rintro e l ⟨rfl,G,d⟩;have k:=ai d J;have a:=aw b d;have O:=aI k;have f:aq l (l.alloc (.cells #[ag t0,ag t1,ag t2,.string y] 127)):=am _ _;have x:=G.below f m;have u:=aG l (.cells #[ag t0,ag t1,ag t2,.string y] 127);have s:=ai f k;have q:bp g w (l.alloc (.cells #[ag t0,ag t1,ag t2,.string y] 127)):=(bp.of_below a).alloc _;clear c H d D J b a k G f;generalize N:l.alloc (.cells #[ag t0,ag t1,ag t2,.string y] 127)=z at*;have Q:=ak 1 x.blk;have T:=bo _ _ 1 _ _ x.blk;have A:=x.set m hi;have j:=q.trans (bp.set z g 1 (ag ((i+1:Nat):Int)));have F:=(aO z ⟨g,1,none⟩ l.heap.size (ag ((i+1:Nat):Int)) (by show l.heap.size≠g;omega)).trans u;have t:=(aO z ⟨g,1,none⟩ w.heap.size (ag ((i+1:Nat):Int)) (by show w.heap.size≠g;omega)).trans s;have P:(i:Int)+1=((i+1:Nat):Int):=by omega
 have M:(i:Int)<=6000:=by omega
 have K:Rb (∀p,PSt all E g v ((z.setCell ⟨g,1,none⟩ (ag ((i+1:Nat):Int))).setRow w.heap.size p) (i+1) n):=fun p=>
  h.of_kept m (j.setRow (aD _) p) ((aW _ _ _ _ (by omega)).trans A.blk) A.le
 have C:=fun p=>j.setRow (aD _) p;generalize ((i+1:Nat):Int)=R at*;clear h x A q j u s
 go_wp2_with(first
  |(refine aR rfl 127 _ rfl _ rfl _ _ _ _ F zN rfl (by kernel_rfl) ?_)
  |(refine az rfl 127 _ _ rfl _ _ rfl rfl _ _ t (by kernel_rfl) (by simp) (by simp[Value.oneCell']) ?_))
 exact sI 4 (by kernel_rfl) w.heap.size _ _ _ _ rfl rfl (aL _ _ _ _ _ _ t) ⟨rfl,K.o _,C _⟩
theorem zO (d:PS0 all E g v)(h:PSt all E g v w i n)(kd:Int)(j:kindP (all.drop i)≠kd):
  Calls prog 98 #[ab g 0,ag kd] w fun e w'=>e= .panicked (jq 2 (atP E (all.drop i)))/\bp g w w':=by
 have a:aq w (w.alloc (.cells #[ag 0,ag 0,ag 0,.string ⟨#[]⟩] 127)):=am _ _;have f:=h.below a d;have c:=B4 d f kd j;generalize k:w.alloc (.cells #[ag 0,ag 0,ag 0,.string ⟨#[]⟩] 127)=m at*;go_enter func98,ntmps98;go_wp2_with fail;refine c.mono ?_;rintro e l ⟨rfl,b⟩;exact⟨rfl,rfl,bp.of_below (aw a b)⟩
theorem tQ (d:PS0 all E g v)(h:PSt all E g v w i n)(kd m:Int)(j:kindP (all.drop i)≠kd):
  Calls prog 188 #[ab g 0,ag kd,ag m] w fun e w'=>e= .panicked (jq 2 (atP E (all.drop i)))/\bp g w w':=by
 have a:aq w (w.alloc (.cells #[ag 0,ag 0,ag 0,.string ⟨#[]⟩] 127)):=am _ _;have f:=h.below a d;have c:=B4 d f kd j;generalize k:w.alloc (.cells #[ag 0,ag 0,ag 0,.string ⟨#[]⟩] 127)=o at*;go_enter func188,ntmps188;go_wp2_with fail;refine c.mono ?_;rintro e l ⟨rfl,b⟩;exact⟨rfl,rfl,bp.of_below (aw a b)⟩
theorem oW (f:PS0 all E g v)(h:PSt all E g v w i n)(kd m:Int)(p:kindP (all.drop i)=kd)(s:numP (all.drop i)<m):
  Calls prog 188 #[ab g 0,ag kd,ag m] w fun e w'=>e= .panicked (jq 3 (atP E (all.drop i)))/\bp g w w':=by
 have a:aq w (w.alloc (.cells #[ag 0,ag 0,ag 0,.string ⟨#[]⟩] 127)):=am _ _;have o:=h.below a f;have c:=vu f o kd p;have r:=fun(q:World) (j:PSt all E g v q i n)=>lA f j 3;unfold kF at c;clear p;generalize kindP (all.drop i)=t0 at*;generalize numP (all.drop i)=t1 at*;generalize l:w.alloc (.cells #[ag 0,ag 0,ag 0,.string ⟨#[]⟩] 127)=u at*;go_enter func188,ntmps188;go_wp2_with fail;refine c.mono ?_;rintro e q ⟨rfl,j,b⟩;have d:=aw a b;clear c o b l a;go_wp2_with fail;refine(r _ j).mono ?_;rintro e t ⟨rfl,k⟩;exact⟨rfl,rfl,bp.of_below (aw d k)⟩
theorem qR (r:PS0 all E g v)(h:PSt all E g v w i n)(kd m:Int)(p:kd≠0)(x:kindP (all.drop i)=kd)(H: ¬numP (all.drop i)<m):
  Calls prog 188 #[ab g 0,ag kd,ag m] w fun e w'=>e= .returned (kF E (all.drop i))/\PSt all E g v w' (i+1) n/\bp g w w':=by
 have F:=aI h.blk;have d:aq w (w.alloc (.cells #[ag 0,ag 0,ag 0,.string ⟨#[]⟩] 127)):=am _ _;have B:=aG w (.cells #[ag 0,ag 0,ag 0,.string ⟨#[]⟩] 127);have A:=h.below d r;have c:=vu r A kd x;have t:=fun(C:World) (s:PSt all E g v C i n)=>qQ r s kd p x;unfold kF at c t⊢;clear x p;generalize kindP (all.drop i)=t0 at*;generalize numP (all.drop i)=t1 at*;generalize (atP E (all.drop i):Int)=t2 at*;generalize (⟨(textP (all.drop i)).toArray⟩:ByteArray)=I at*;generalize z:w.alloc (.cells #[ag 0,ag 0,ag 0,.string ⟨#[]⟩] 127)=J at*;go_enter func188,ntmps188;go_wp2_with fail;refine c.mono ?_;rintro e C ⟨rfl,s,f⟩;have k:=ai f B;have b:=aw d f;clear c A f z B d;go_wp2_with fail;refine(t _ s).mono ?_;rintro e G ⟨rfl,u,j⟩;have q:=(j.block _ (aI k) (fun e=>by have:w.heap.size=g:=aN e;omega)).trans k;have a:=(bp.of_below (g:=g) b).trans j
 have D:Rb (∀l,PSt all E g v (G.setRow w.heap.size l) (i+1) n):=fun l=>
  h.of_kept r (a.setRow (aD _) l) ((aW _ _ _ _ (by omega)).trans u.blk) u.le
 have y:=fun l=>a.setRow (aD _) l;clear h s u j a k b t;go_wp2_with(refine az rfl 127 _ _ rfl _ _ rfl rfl _ _ q (by kernel_rfl) (by simp) (by simp[Value.oneCell']) ?_)
 exact sI 6 (by kernel_rfl) w.heap.size _ _ _ _ rfl rfl (aL _ _ _ _ _ _ q) ⟨rfl,D.o _,y _⟩
end
section
variable {all:List Tk} {E g:Nat} {v:Value} {w:World} {i n:Nat}
def jC (all:List Tk)(E g:Nat)(v:Value)(w:World)(B:Nat->Prop)(x:Res)(e:Ending)(w':World):Prop:=
 match x with
 | .error (er,at_)=>e= .panicked (jq er at_)/\bp g w w'
 | .ok (ex,r,n)=> ∃(i:Nat) (sl:Value) (d:Nat),r=all.drop i/\e= .returned (exV ex sl)/\dG B d w' sl ex.kids/\PSt all E g v w' i n/\n<=600/\bp g w w'
theorem jC.weak {B B':Nat->Prop}{x:Res}{e:Ending}{l w':World}(j:bp g l w)(o: ∀k,B k->B' k)(h:jC all E g v w B x e w'):jC all E g v l B' x e w':=by
 unfold jC at h⊢;match x,h with
 | .error (er,at_),h=>exact⟨h.1,j.trans h.2⟩
 | .ok (ex,r,n),h=>
  obtain⟨i,sl,d,a,b,c,m,f,k⟩:=h;exact⟨i,sl,d,a,b,c.mono o,m,f,j.trans k⟩
theorem kK (F:PS0 all E g v)(h:PSt all E g v w i n)(S:n<=600)(B:Nat->Prop)(P: ∀k,B k->k≠g)(ex:Ex)(sl:Value)(d:Nat)(G:dG B d w sl ex.kids):
  Calls prog 154 #[ab g 0,exV ex sl] w (jC all E g v w B (dK E ex (all.drop i) n)):=by
 obtain⟨u,f,rfl⟩:=G.form;have Q:=aI h.blk;have p:aq w (w.alloc (.cells #[ag ex.kind,ag ex.a,ag ex.b,.string ⟨ex.name.toArray⟩,.slice u ex.kids.length f] 84)):=am _ _;have j:aq w ((w.alloc (.cells #[ag ex.kind,ag ex.a,ag ex.b,.string ⟨ex.name.toArray⟩,.slice u ex.kids.length f] 84)).alloc (.cells #[ag 0,ag 0,ag 0,.string ⟨#[]⟩,af] 84)):=p.alloc p.size _;have s:=aG w (.cells #[ag ex.kind,ag ex.a,ag ex.b,.string ⟨ex.name.toArray⟩,.slice u ex.kids.length f] 84);have t:=(dQ _ (.cells #[ag 0,ag 0,ag 0,.string ⟨#[]⟩,af] 84) _ (aI s)).trans s;have m:=aG (w.alloc (.cells #[ag ex.kind,ag ex.a,ag ex.b,.string ⟨ex.name.toArray⟩,.slice u ex.kids.length f] 84)) (.cells #[ag 0,ag 0,ag 0,.string ⟨#[]⟩,af] 84);have C:(w.alloc (.cells #[ag ex.kind,ag ex.a,ag ex.b,.string ⟨ex.name.toArray⟩,.slice u ex.kids.length f] 84)).heap.size=w.heap.size+1:=by simp
 rw[C]at m;have z:=h.below j F;have q:=bp.of_below (g:=g) j;unfold exV;clear s p C;generalize T:((w.alloc (.cells #[ag ex.kind,ag ex.a,ag ex.b,.string ⟨ex.name.toArray⟩,.slice u ex.kids.length f] 84)).alloc (.cells #[ag 0,ag 0,ag 0,.string ⟨#[]⟩,af] 84))=H at*;have W:=ak 3 z.blk;have Z:=bo _ _ 3 _ _ z.blk;have x:=z.setN F (n+1);have l:=q.trans (bp.set H g 3 (ag ((n+1:Nat):Int)));have D:=(aO H ⟨g,3,none⟩ w.heap.size (ag ((n+1:Nat):Int)) (by show w.heap.size≠g;omega)).trans t;have r:=(aO H ⟨g,3,none⟩ (w.heap.size+1) (ag ((n+1:Nat):Int)) (by show w.heap.size+1≠g;omega)).trans m;have X:=ak 3 x.blk;have V:(n:Int)+1=((n+1:Nat):Int):=by omega
 have R:(n:Int)<=600:=by omega
 by_cases J:600<n+1
 ·have K:(600:Int)<((n+1:Nat):Int):=by omega
  have c:=lA F x 4;rw[show dK E ex (all.drop i) n= .error (4,atP E (all.drop i)) by unfold dK;rw[aB J]];clear h z x q t m D r j G;generalize ((n+1:Nat):Int)=U at*;go_enter func154,ntmps154;go_wp2_with fail;refine c.mono ?_;rintro e Y ⟨rfl,I⟩;exact⟨rfl,rfl,l.trans (bp.of_below I)⟩
 ·have K: ¬(600:Int)<((n+1:Nat):Int):=by omega
  rw[show dK E ex (all.drop i) n= .ok (ex,all.drop i,n+1) by unfold dK;rw[ax J]]
  have M:Rb (∀y,PSt all E g v ((H.setCell ⟨g,3,none⟩ (ag ((n+1:Nat):Int))).setRow (w.heap.size+1) y) i (n+1)):=fun y=>
   h.of_kept F (l.setRow (by omega) y) ((aW _ _ _ _ (by omega)).trans x.blk) x.le
  have A:=fun y=>l.setRow (k:=w.heap.size+1) (by omega) y;have O:Rb (n+1<=600):=(by show n+1<=600;omega);have N:Rb (dG B d w (.slice u ex.kids.length f) ex.kids):=G;have L:Rb (∀k,B k->k≠g):=P;clear h z x q t m j G l J;generalize ((n+1:Nat):Int)=U at*;go_enter func154,ntmps154
  go_wp2_with(first
   |(refine aR rfl 84 _ rfl _ rfl _ _ _ _ D fo rfl (by kernel_rfl) ?_)
   |(refine az rfl 84 _ _ rfl _ _ rfl rfl _ _ r (by kernel_rfl) (by simp) (by simp[Value.oneCell']) ?_))
  exact jQ 4 (by kernel_rfl) (w.heap.size+1) _ _ _ _ _ rfl rfl (aL _ _ _ _ _ _ r) ⟨i,_,d,rfl,rfl,(A _).kids L.o N.o,M.o _,O.o,A _⟩
theorem B5 {B:Nat->Prop}{w:World}{b d:Nat}{k:Ex}{s:Value}(g:B b)(c:w.heap[b]? =ah #[ag k.kind,ag k.a,ag k.b,.string ⟨k.name.toArray⟩,s] 84)(i:dG B d w s k.kids):
  dG B (d+1) w (.slice (some (ae b 0)) 1 1) [k]:=by
 refine .inr ⟨b,0,1,⟨g,_,_,c⟩,rfl,by simp,fun j l f=> ?_⟩;match j,f with
 |0,f=>
  have e:k=l:=(by simpa using f);subst e;exact⟨s,(aZ _ _ _ _ _ _ c).trans rfl,(aZ _ _ _ _ _ _ c).trans rfl,(aZ _ _ _ _ _ _ c).trans rfl,(aZ _ _ _ _ _ _ c).trans rfl,(aZ _ _ _ _ _ _ c).trans rfl,i⟩
theorem Ko {B:Nat->Prop}{w:World}{b d m:Nat}{k f:Ex}{s l:Value}(n:B b)
  (c:w.heap[b]? =ah #[ag k.kind,ag k.a,ag k.b,.string ⟨k.name.toArray⟩,s,ag f.kind,ag f.a,ag f.b,.string ⟨f.name.toArray⟩,l] 84) (o:dG B d w s k.kids) (i:dG B m w l f.kids):
  dG B (max d m+1) w (.slice (some (ae b 0)) 2 2) [k,f]:=by
 refine .inr ⟨b,0,2,⟨n,_,_,c⟩,rfl,by simp,fun j q g=> ?_⟩;match j,g with
 |0,g=>
  have e:k=q:=(by simpa using g);subst e;exact⟨s,(aZ _ _ _ _ _ _ c).trans rfl,(aZ _ _ _ _ _ _ c).trans rfl,(aZ _ _ _ _ _ _ c).trans rfl,(aZ _ _ _ _ _ _ c).trans rfl,(aZ _ _ _ _ _ _ c).trans rfl,o.le (by omega)⟩
 |1,g=>
  have e:f=q:=(by simpa using g);subst e;exact⟨l,(aZ _ _ _ _ _ _ c).trans rfl,(aZ _ _ _ _ _ _ c).trans rfl,(aZ _ _ _ _ _ _ c).trans rfl,(aZ _ _ _ _ _ _ c).trans rfl,(aZ _ _ _ _ _ _ c).trans rfl,i.le (by omega)⟩
theorem B6 (L:PS0 all E g v)(h:PSt all E g v w i n)(P:n<=600)(B:Nat->Prop)(hB: ∀k,B k->k≠g)(hf: ∀k,w.heap.size<=k->B k)(kd:Int)(l r:Ex)(sl X:Value)(d U:Nat)(N:dG B d w sl l.kids)(Q:dG B U w X r.kids):
  Calls prog 131 #[ab g 0,ag kd,exV l sl,exV r X] w (jC all E g v w B (dK E ⟨kd,0,0,[],[l,r]⟩ (all.drop i) n)):=by
 obtain⟨pl,cl,rfl⟩:=N.form;obtain⟨p,cr,rfl⟩:=Q.form;have aa:=aI h.blk;unfold exV;have z:=am w (.cells #[ag l.kind,ag l.a,ag l.b,.string ⟨l.name.toArray⟩,.slice pl l.kids.length cl] 84);have A:=z.alloc z.size (.cells #[ag r.kind,ag r.a,ag r.b,.string ⟨r.name.toArray⟩,.slice p r.kids.length cr] 84);have C:=A.alloc A.size (.cells #[ag 0,ag 0,ag 0,.string ⟨#[]⟩,af] 84);have D:=C.alloc C.size (.cells #[ag l.kind,ag l.a,ag l.b,.string ⟨l.name.toArray⟩,.slice pl l.kids.length cl,ag r.kind,ag r.a,ag r.b,.string ⟨r.name.toArray⟩,.slice p r.kids.length cr] 84);have S:=aG ((w.alloc (.cells #[ag l.kind,ag l.a,ag l.b,.string ⟨l.name.toArray⟩,.slice pl l.kids.length cl] 84)).alloc (.cells #[ag r.kind,ag r.a,ag r.b,.string ⟨r.name.toArray⟩,.slice p r.kids.length cr] 84)) (.cells #[ag 0,ag 0,ag 0,.string ⟨#[]⟩,af] 84);have t:=(dQ _ (.cells #[ag l.kind,ag l.a,ag l.b,.string ⟨l.name.toArray⟩,.slice pl l.kids.length cl,ag r.kind,ag r.a,ag r.b,.string ⟨r.name.toArray⟩,.slice p r.kids.length cr] 84) _ (aI S)).trans S;have H:=aG (((w.alloc (.cells #[ag l.kind,ag l.a,ag l.b,.string ⟨l.name.toArray⟩,.slice pl l.kids.length cl] 84)).alloc (.cells #[ag r.kind,ag r.a,ag r.b,.string ⟨r.name.toArray⟩,.slice p r.kids.length cr] 84)).alloc (.cells #[ag 0,ag 0,ag 0,.string ⟨#[]⟩,af] 84)) (.cells #[ag l.kind,ag l.a,ag l.b,.string ⟨l.name.toArray⟩,.slice pl l.kids.length cl,ag r.kind,ag r.a,ag r.b,.string ⟨r.name.toArray⟩,.slice p r.kids.length cr] 84);rw[show((w.alloc (.cells #[ag l.kind,ag l.a,ag l.b,.string ⟨l.name.toArray⟩,.slice pl l.kids.length cl] 84)).alloc (.cells #[ag r.kind,ag r.a,ag r.b,.string ⟨r.name.toArray⟩,.slice p r.kids.length cr] 84)).heap.size=w.heap.size+2 by simp]at t;rw[show(((w.alloc (.cells #[ag l.kind,ag l.a,ag l.b,.string ⟨l.name.toArray⟩,.slice pl l.kids.length cl] 84)).alloc (.cells #[ag r.kind,ag r.a,ag r.b,.string ⟨r.name.toArray⟩,.slice p r.kids.length cr] 84)).alloc (.cells #[ag 0,ag 0,ag 0,.string ⟨#[]⟩,af] 84)).heap.size=w.heap.size+3 by simp]at H;have V:=h.below D L;have j:=bp.of_below (g:=g) D;have y: ∀k,(B k/\k≠w.heap.size+2)->k≠g:=fun k f=>hB k f.1;have I:dG (fun k=>B k/\k≠w.heap.size+2) d w (.slice pl l.kids.length cl) l.kids:=N.lt.mono fun k f=>⟨f.1,by have:=f.2;omega⟩
 have s:dG (fun k=>B k/\k≠w.heap.size+2) U w (.slice p r.kids.length cr) r.kids:=Q.lt.mono fun k f=>⟨f.1,by have:=f.2;omega⟩
 have W:=Ko (B:=fun k=>B k/\k≠w.heap.size+2) ⟨hf _ (by omega),by omega⟩ H (j.kids y I) (j.kids y s);clear z A C D S H N Q I s;generalize R:((((w.alloc (.cells #[ag l.kind,ag l.a,ag l.b,.string ⟨l.name.toArray⟩,.slice pl l.kids.length cl] 84)).alloc (.cells #[ag r.kind,ag r.a,ag r.b,.string ⟨r.name.toArray⟩,.slice p r.kids.length cr] 84)).alloc (.cells #[ag 0,ag 0,ag 0,.string ⟨#[]⟩,af] 84)).alloc (.cells #[ag l.kind,ag l.a,ag l.b,.string ⟨l.name.toArray⟩,.slice pl l.kids.length cl,ag r.kind,ag r.a,ag r.b,.string ⟨r.name.toArray⟩,.slice p r.kids.length cr] 84))=w4 at*;have c:=kK L V P _ y ⟨kd,0,0,[],[l,r]⟩ _ _ W;unfold exV at c;clear W;go_enter func131,ntmps131;go_wp2_with fail;refine c.mono ?_;intro e Y K;clear c R;cases hx:dK E ⟨kd,0,0,[],[l,r]⟩ (all.drop i) n with
 |error q=>
  obtain⟨er,at_⟩:=q;rw[hx]at K;obtain⟨rfl,m⟩:=K;exact⟨rfl,rfl,j.trans m⟩
 |ok q=>
  obtain⟨ex,rr,nn⟩:=q;rw[hx]at K;obtain⟨i',sl,dd,s,rfl,F,M,O,m⟩:=K;have J:=(m.block _ (aI t) (fun e=>by have:w.heap.size+2=g:=aN e;omega)).trans t;have G:=j.trans m;obtain⟨p5,Z,rfl⟩:=F.form;have u:=fun x=>F.kept (w':=Y.setRow (w.heap.size+2) x) fun k f _=>aW _ _ _ _ f.2
  have T:Rb (∀x,jC all E g v w B (dK E ⟨kd,0,0,[],[l,r]⟩ (all.drop i) n) (.returned (exV ex (.slice p5 ex.kids.length Z))) (Y.setRow (w.heap.size+2) x)):=fun x=>by
   rw[hx];exact⟨i',_,dd,s,rfl,(u x).mono fun k f=>f.1,h.of_kept L (G.setRow (by omega) x) ((aW _ _ _ _ (by omega)).trans M.blk) M.le,O,G.setRow (by omega) x⟩
  unfold exV at T⊢;clear h V j m F u M G hx t;go_wp2_with(refine az rfl 84 _ _ rfl _ _ rfl rfl _ _ J (by kernel_rfl) (by simp) (by simp[Value.oneCell']) ?_)
  exact jQ 8 (by kernel_rfl) (w.heap.size+2) _ _ _ _ _ rfl rfl (aL _ _ _ _ _ _ J) (T.o _)
end
end Go.Proofs.YtlkehieagdkgiaaGreatDoor
