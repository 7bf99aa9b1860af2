/- Texts of the proof. -/
import Derived.Test.YtlkehieagdkgiaaGreatDoorPe18
import Derived.Deep.OwnRows
import Derived.Laws.EntriesVeiled
import Derived.Deep.Cut
set_option maxRecDepth 100000
set_option maxHeartbeats 8000000
namespace Go.Proofs.YtlkehieagdkgiaaGreatDoor
open Go.Proofs.Tryz Go.RowKit Lx Vx Mx Msk
def fN (n:Nat)(m:Nat->Bool):Array Value:=((List.range n).map fun i=>Value.bool (m i)).toArray
theorem nz {n:Nat}{m:Nat->Bool}{i:Nat}(h:i<n):(fN n m)[i]? =some (.bool (m i)):=by
 simp[fN,h]
theorem yv {n:Nat}{m:Nat->Bool}{i:Nat}:(fN n m).setIfInBounds i (.bool true)=fN n (upd m i):=by
 apply Array.ext
 ·simp[fN]
 ·intro k c a;have b:k<n:=(by simpa[fN] using a);rw[Array.getElem_setIfInBounds (by simpa[fN] using b)];by_cases e:i=k
  ·subst e;simp[fN,upd]
  ·rw[ax e];simp[fN,upd,show k≠i from fun h=>e h.symm]
theorem vX (n:Nat):madeCells #[Value.bool false] n=fN n (fun _=>false):=by
 apply Array.ext
 ·simp[fN,madeCells]
 ·intro k a b;simp[fN,madeCells,Nat.mod_one]
structure tn (w:World)(so:Value)(n:Nat)(S:Nat->List Nat):Prop where
 form: ∃p c,so= .slice p n c/\ ∀i,i<n-> ∃(g o:Nat) (v:Value),p=some ⟨g,o,none⟩/\w.cell? (ae g (o+i))=some v/\dM w v ((S i).map fun k:Nat=>(k:Int))
 lt: ∀i,∀k∈S i,k<n
theorem tn.below {w w':World}{b:Value}{n:Nat}{S:Nat->List Nat}(h:tn w b n S)(a:aq w w'):tn w' b n S:=by
 obtain⟨p,c,d,f⟩:=h.form;refine⟨⟨p,c,d,fun i hi=> ?_⟩,h.lt⟩;obtain⟨g,o,v,e,j,k⟩:=f i hi;exact⟨g,o,v,e,aj a j,k.below a⟩
structure FSt (w:World)(n:Nat)(so:Value)(m:Nat->Bool)(wr:World):Prop where
 bel:aq w wr
 b1:wr.heap[w.heap.size]? =ah #[so] 34
 marks:wr.heap[w.heap.size+1]? =ah (fN n m) 4
 b2:wr.heap[w.heap.size+1+1]? =ah #[.slice (some (ae (w.heap.size+1) 0)) n n] 78
 b3:wr.heap[w.heap.size+1+1+1]? =ah #[.func (.func 78) #[] #[ab w.heap.size 0,ab (w.heap.size+1+1) 0,ab (w.heap.size+1+1+1) 0]] 154
theorem FSt.set {w wr:World}{n:Nat}{b:Value}{m:Nat->Bool}(h:FSt w n b m wr)(i:Nat):FSt w n b (upd m i) (wr.setCell ⟨w.heap.size+1,i,none⟩ (.bool true)):=by
 have a: ∀q,q≠w.heap.size+1->(wr.setCell ⟨w.heap.size+1,i,none⟩ (.bool true)).heap[q]? =wr.heap[q]? :=fun q c=>aO wr ⟨w.heap.size+1,i,none⟩ q _ c;refine⟨h.bel.setCell (by show w.heap.size<=w.heap.size+1;omega) _,(a _ (by omega)).trans h.b1,?_,(a _ (by omega)).trans h.b2,(a _ (by omega)).trans h.b3⟩;rw[<-yv];exact aY wr (w.heap.size+1) i _ _ _ h.marks
def tp (S:Nat->List Nat)(f:Nat)(m:Nat->Bool)(l:List Nat):Nat->Bool:=l.foldl (fun m n=>if m n=true then m else fol S f (upd m n) n) m
def Kz (w:World)(n:Nat)(a:Value)(S:Nat->List Nat)(f:Nat)(m:Nat->Bool)(r:Nat)(t:Value)(wr:World):Prop:= ∃j:Nat,t=ag (j:Int)/\j<=(S r).length/\(∀k,m k=true->tp S f m ((S r).take j) k=true)/\FSt w n a (tp S f m ((S r).take j)) wr
def QM (w:World)(n:Nat)(b:Value)(a:Nat->Bool)(e:Ending)(w':World):Prop:=e= .returned (.tuple #[])/\FSt w n b a w'
theorem yw (w:World)(H:Value)(n:Nat)(S:Nat->List Nat)(F:tn w H n S)(hn:n<9223372036854775808): ∀(f:Nat) (m:Nat->Bool) (r:Nat) (wr:World),FSt w n H m wr->r<n->unm m n+1<=f->
  Calls prog 78 #[ag (r:Int),ab w.heap.size 0,ab (w.heap.size+1+1) 0,ab (w.heap.size+1+1+1) 0] wr (QM w n H (fol S f m r))
 |0,_,_,_,_,_,h=>by omega
 |f+1,m,r,wr,I,hr,hu=>by
  have ih:=yw w H n S F hn f;obtain⟨p,c,rfl,u⟩:=F.form;obtain⟨g,o,v,hp,z,C⟩:=u r hr;subst hp;obtain⟨pv,cv,rfl,K,d⟩:=C;have B:=F.lt r;rw[bc]at K;rw[bc]at z;have O:Rb (∀(j k:Nat),(S r)[j]? =some k-> ∃g o:Nat,pv=some ⟨g,o,none⟩/\w.cell? (ae g (o+j))=some (ag (k:Int))):=fun j k G=>d j _ (by rw[a8,G];rfl);have P:Rb (∀j k:Nat,(S r)[j]? =some k->k<n):=fun j k G=>B k (aM G);have Q:Rb (fol S (f+1) m r=tp S f m (S r)):=rfl;have d0:=aj I.bel z;have k1:=ak 0 I.b1;have aa:(0:Int)<=(r:Int):=(by omega);have ac:(r:Int)<(n:Int):=(by omega);go_enter func78,ntmps78;go_wp2_with fail;go_loopw [6,12] (fun _ t wr=>Kz w n (.slice (some (ae g o)) n c) S f m r t wr) (fun _ t _=>(S r).length-(intOf t).toNat);case atStart=>exact⟨0,rfl,by omega,fun k V=>V,I⟩
  case round=>
   obtain⟨j,rfl,G,x,b⟩:=hrel;have U:(0:Int)<=(j:Int):=(by omega);by_cases J:j<(S r).length
   ·have A:(j:Int)<((S r).length:Int):=(by omega);obtain⟨k,l⟩: ∃k,(S r)[j]? =some k:=⟨(S r)[j],ay J⟩
    have s:=P.o j k l;obtain⟨g',o',L,c0⟩:=O.o j k l;subst L;have e0:=aj b.bel c0
    have a:tp S f m ((S r).take (j+1))=if tp S f m ((S r).take j) k=true then tp S f m ((S r).take j) else fol S f (upd (tp S f m ((S r).take j)) k) k:=by
     unfold tp;rw[eX,l,Option.toList_some,List.foldl_append];rfl
    have k2:=ak 0 b.b2;have k3:=ak 0 b.b3;have N:=(aZ _ _ k _ _ _ b.marks).trans (nz s);have kz:=bo _ _ k _ _ b.marks;have X:(0:Int)<=(k:Int):=(by omega);have Y:(k:Int)<(n:Int):=(by omega);have Z:=yr x n;generalize hM:tp S f m ((S r).take j)=M at*;cases hMk:M k with
    |true=>
     rw[hMk]at N;rw[aB hMk]at a;have y:Rb (Kz w n (.slice (some (ae g o)) n c) S f m r (ag ((j+1:Nat):Int)) wr):=⟨j+1,rfl,by omega,by rw[a];exact x,by rw[a];exact b⟩
     go_wp2_with fail;go_roundw;case rel=>exact y.o
     case measure=>simp[intOf];omega
    |false=>
     rw[hMk]at N;rw[ax (by rw[hMk];decide)]at a;have ad:=zQ hMk n s;have i:=b.set k;have R:=ih (upd M k) k _ i s (by omega);have af:=ak 0 i.b3;have E: ∀q,m q=true->fol S f (upd M k) k q=true:=fun q hq=>(Ck F.lt f (upd M k) k (by omega)).up q (by simp[upd,x q hq]);have y:Rb (∀W,FSt w n (.slice (some (ae g o)) n c) (fol S f (upd M k) k) W->Kz w n (.slice (some (ae g o)) n c) S f m r (ag ((j+1:Nat):Int)) W):=fun W T=>⟨j+1,rfl,by omega,by rw[a];exact E,by rw[a];exact T⟩
     go_wp2_with fail;refine R.mono ?_;rintro e w2 ⟨rfl,D⟩;go_wp2_with fail;go_roundw;case rel=>exact y.o _ D
     case measure=>simp[intOf];omega
   ·have A: ¬(j:Int)<((S r).length:Int):=(by omega)
    have y:Rb (FSt w n (.slice (some (ae g o)) n c) (fol S (f+1) m r) wr):=by
     have e:(S r).take j=S r:=dh (by omega);rw[e]at b;show FSt _ _ _ _ _;rw[Q.o];exact b
    go_wp2_with fail;refine aX (eW rfl _ _ _) rfl ?_;exact⟨rfl,y.o⟩
def L1 (n:Nat)(m:Nat->Bool)(w:World)(e:Ending)(w':World):Prop:= ∃g,e= .returned (.slice (some (ae g 0)) n n)/\w'.heap[g]? =ah (fN n m) 4/\aq w w'
theorem Cp:(prog.info? 4).map (fun i=>(i.zero,i.size,i.bytes))=some (some (.bool false),1,1):=by kernel_rfl
theorem AG:prog.underlying 78=some (.slice 4):=by kernel_rfl
theorem vY (v:Value)(n:Nat)(S:Nat->List Nat)(r:Nat)(w:World)(t:tn w v n S)(I:n<=1000000)(F:r<n):
  Calls prog 48 #[v,ag (r:Int)] w (L1 n (fol S (n+1) (fun _=>false) r) w):=by
 obtain⟨p,c,rfl,_⟩:=t.form;have g:=run_make_row' (P:=prog) 78 4 (.bool false) 1 AG Cp rfl .i64 .i64 n (by omega) (by omega)
 have J:unm (fun _=>false) n<=n:=by
  have: ∀n,unm (fun _=>false) n=n:=by
   intro n;induction n with
   |zero=>rfl
   |succ n G=>simp[unm,G];omega
  rw[this];omega
 rw[vX]at g;have k:=am w (.cells #[.slice p n c] 34);have l:=k.alloc k.size (.cells (fN n (fun _=>false)) 4);have m:=l.alloc l.size (.cells #[.slice (some (ae (w.heap.size+1) 0)) n n] 78);have y:=m.alloc m.size (.cells #[.nilFunc] 154);have u:(w.alloc (.cells #[.slice p n c] 34)).heap.size=w.heap.size+1:=by simp
 have j:((w.alloc (.cells #[.slice p n c] 34)).alloc (.cells (fN n (fun _=>false)) 4)).heap.size=w.heap.size+1+1:=by simp
 have d:(((w.alloc (.cells #[.slice p n c] 34)).alloc (.cells (fN n (fun _=>false)) 4)).alloc (.cells #[.slice (some (ae (w.heap.size+1) 0)) n n] 78)).heap.size=w.heap.size+1+1+1:=by simp
 have z:((((w.alloc (.cells #[.slice p n c] 34)).alloc (.cells (fN n (fun _=>false)) 4)).alloc (.cells #[.slice (some (ae (w.heap.size+1) 0)) n n] 78)).alloc (.cells #[.nilFunc] 154)).heap[w.heap.size]? =ah #[.slice p n c] 34:=(dQ _ _ _ (by rw[d];omega)).trans ((dQ _ _ _ (by rw[j];omega)).trans ((dQ _ _ _ (by rw[u];omega)).trans (aG w _)))
 have A:((((w.alloc (.cells #[.slice p n c] 34)).alloc (.cells (fN n (fun _=>false)) 4)).alloc (.cells #[.slice (some (ae (w.heap.size+1) 0)) n n] 78)).alloc (.cells #[.nilFunc] 154)).heap[w.heap.size+1]? =ah (fN n (fun _=>false)) 4:=by
  refine(dQ _ _ _ (by rw[d];omega)).trans ((dQ _ _ _ (by rw[j];omega)).trans ?_);have:=aG (w.alloc (.cells #[.slice p n c] 34)) (.cells (fN n (fun _=>false)) 4);rw[u]at this;exact this
 have B:((((w.alloc (.cells #[.slice p n c] 34)).alloc (.cells (fN n (fun _=>false)) 4)).alloc (.cells #[.slice (some (ae (w.heap.size+1) 0)) n n] 78)).alloc (.cells #[.nilFunc] 154)).heap[w.heap.size+1+1]? =ah #[.slice (some (ae (w.heap.size+1) 0)) n n] 78:=by
  refine(dQ _ _ _ (by rw[d];omega)).trans ?_;have:=aG ((w.alloc (.cells #[.slice p n c] 34)).alloc (.cells (fN n (fun _=>false)) 4)) (.cells #[.slice (some (ae (w.heap.size+1) 0)) n n] 78);rw[j]at this;exact this
 have f:((((w.alloc (.cells #[.slice p n c] 34)).alloc (.cells (fN n (fun _=>false)) 4)).alloc (.cells #[.slice (some (ae (w.heap.size+1) 0)) n n] 78)).alloc (.cells #[.nilFunc] 154)).heap[w.heap.size+1+1+1]? =ah #[.nilFunc] 154:=by
  have:=aG (((w.alloc (.cells #[.slice p n c] 34)).alloc (.cells (fN n (fun _=>false)) 4)).alloc (.cells #[.slice (some (ae (w.heap.size+1) 0)) n n] 78)) (.cells #[.nilFunc] 154);rw[d]at this;exact this
 have N:=ak 0 f;have M:=bo _ _ 0 _ _ f;generalize C:((((w.alloc (.cells #[.slice p n c] 34)).alloc (.cells (fN n (fun _=>false)) 4)).alloc (.cells #[.slice (some (ae (w.heap.size+1) 0)) n n] 78)).alloc (.cells #[.nilFunc] 154))=b at*;have i: ∀q,q≠w.heap.size+1+1+1->(b.setCell ⟨w.heap.size+1+1+1,0,none⟩ (.func (.func 78) #[] #[ab w.heap.size 0,ab (w.heap.size+1+1) 0,ab (w.heap.size+1+1+1) 0])).heap[q]? =b.heap[q]? :=fun q E=>aO b ⟨w.heap.size+1+1+1,0,none⟩ q _ E
 have a:FSt w n (.slice p n c) (fun _=>false) (b.setCell ⟨w.heap.size+1+1+1,0,none⟩ (.func (.func 78) #[] #[ab w.heap.size 0,ab (w.heap.size+1+1) 0,ab (w.heap.size+1+1+1) 0])):=
  ⟨y.setCell (by show w.heap.size<=w.heap.size+1+1+1;omega) _,(i _ (by omega)).trans z,(i _ (by omega)).trans A,(i _ (by omega)).trans B,aY b (w.heap.size+1+1+1) 0 _ _ _ f⟩
 have cF:=yw w (.slice p n c) n S t (by omega) (n+1) (fun _=>false) r _ a F (by omega);have L:=ak 0 a.b3;have D: ∀(s:Fn) (first cap:Array Value) (w:World),(Instr.makeFunc s first cap).run prog w= .ok (.func s first cap) w:=fun _ _ _ _=>rfl;go_enter func48,ntmps48;go_wp2_with fail;refine cF.mono ?_;rintro e H ⟨rfl,a⟩;have K:=ak 0 a.b2;have x:Rb (L1 n (fol S (n+1) (fun _=>false) r) w (.returned (.slice (some (ae (w.heap.size+1) 0)) n n)) H):=⟨_,rfl,a.marks,a.bel⟩
 go_wp2_with fail;go_ret;exact x.o
def jS (a:List Int):List Value:=a.map (fun n=>ag n)
theorem qZ {w:World}{b:Nat}{v:Value}{d:List Int}(h:w.ownsRow b 3 1 v d.length (jS d))(m:d.length<9223372036854775808):dM w v d:=by
 obtain⟨p,c,i⟩:=cg h;refine⟨p,c,i,m,fun j n f=> ?_⟩;have l:j<d.length:=(aF.1 f).1;obtain⟨g,cap,e,a⟩:=ub h (by omega);rw[i]at e;injection e with k;refine⟨g,0,k,?_⟩;rw[cY];exact a j _ (by unfold jS;rw[a8,f];rfl)
structure Sps (base:Nat)(W:World)(go gi:Nat)(vs:List Value)(ls:List (List Int)):Prop where
 blk:W.heap[go]? =ah vs.toArray 37
 len:vs.length=ls.length
 rows: ∀(j:Nat) (v:Value) (ns:List Int),vs[j]? =some v->ls[j]? =some ns->W.ownsRow base 3 1 v ns.length (jS ns)
 apart: ∀(j k:Nat) (v v':Value) (b:Nat),j≠k->vs[j]? =some v->vs[k]? =some v'->v.ownBlock=some b->v'.ownBlock≠some b
 other: ∀(j:Nat) (v:Value),vs[j]? =some v->v.ownBlock≠some gi
structure SpS (w:World)(l:List Ru)(n mb gi i:Nat)(ls:List (List Int))(W:World):Prop where
 bel:aq w W
 b1:W.heap[w.heap.size]? =ah #[.map (some mb)] 76
 b5:W.heap[w.heap.size+1+1]? =ah #[.slice (some (ae (w.heap.size+1) 0)) n n] 34
 bi:W.heap[gi]? =ah #[ag (i:Int)] 3
 gib:w.heap.size+1+1<gi
 rows: ∃vs,Sps (w.heap.size+3) W (w.heap.size+1) gi vs ls
theorem SpS.below {w:World}{l:List Ru}{n mb f i:Nat}{k:List (List Int)}{W e:World}(h:SpS w l n mb f i k W)(a:aq W e):SpS w l n mb f i k e:=by
 obtain⟨q,c⟩:=h.rows;refine⟨aw h.bel a,ai a h.b1,ai a h.b5,ai a h.bi,h.gib,q,ai a c.blk,c.len,fun j v p m o=> ?_,c.apart,c.other⟩;have g:=c.rows j v p m o;exact br g fun b d=>a.block b (g.lt b d).2
def KT (W b:World):Prop:= ∀(q:Nat) (a:Array Value) (t:TypeId) (fr:Nat×Nat),W.heap[q]? =some (.cells a t fr)->t≠3->t≠37->b.heap[q]? =some (.cells a t fr)
theorem KT.refl (W:World):KT W W:=fun _ _ _ _ h _ _=>h
theorem KT.trans {W b a:World}(h:KT W b)(f:KT b a):KT W a:=fun q c t fr g d e=>f q c t fr (h q c t fr g d e) d e
theorem KT.below {W a:World}(h:aq W a):KT W a:=fun q _ _ _ b _ _=>(h.block q (dr.1 b).1).trans b
structure SJ (w:World)(l:List Ru)(n mb gi i n3:Nat)(ls0:List (List Int))(vs:List Value)(vi:Value)(r:List Int)(nn:Int)(wk:World)(M:Nat->Bool)(φ:Nat->Value)(W:World):Prop where
 bel:aq w W
 kt:KT wk W
 sz:n3<=W.heap.size
 b1:W.heap[w.heap.size]? =ah #[.map (some mb)] 76
 b5:W.heap[w.heap.size+1+1]? =ah #[.slice (some (ae (w.heap.size+1) 0)) n n] 34
 bi:W.heap[gi]? =ah #[ag (i:Int)] 3
 go0:M 10=false->W.heap[w.heap.size+1]? =ah vs.toArray 37
 row0:M 8=false->W.ownsRow (w.heap.size+3) 3 1 vi r.length (jS r)
 oth: ∀(j:Nat) (v:Value) (ns:List Int),j≠i->vs[j]? =some v->ls0[j]? =some ns->W.ownsRow (w.heap.size+3) 3 1 v ns.length (jS ns)
 one:M 7=true->M 8=false-> ∃g4,φ 29= .slice (some (ae g4 0)) 1 1/\n3<=g4/\W.heap[g4]? =ah #[ag nn] 3
 app:M 8=true->M 10=false->W.ownsRow (w.heap.size+3) 3 1 (φ 30) (r.length+1) (jS r++[ag nn])/\(φ 30).ownBlock≠some gi/\ ∀(j:Nat) (v:Value) (b:Nat),j≠i->vs[j]? =some v->v.ownBlock=some b->(φ 30).ownBlock≠some b
 done:M 10=true->SpS w l n mb gi i (ls0.set i (r++[nn])) W
theorem SJ.below {w:World}{l:List Ru}{n mb u i x:Nat}{g:List (List Int)}{z:List Value}{y:Value}{r:List Int}{nn:Int}{A:World}{M:Nat->Bool}{φ:Nat->Value}{W m:World}(h:SJ w l n mb u i x g z y r nn A M φ W)(d:aq W m):SJ w l n mb u i x g z y r nn A M φ m:=by
 have f: ∀{k:Nat} {o:Obj},W.heap[k]? =some o->m.heap[k]? =some o:=fun h=>ai d h;have t: ∀{a e size n:Nat} {v:Value} {xs:List Value},W.ownsRow a e size v n xs->m.ownsRow a e size v n xs:=fun h=>br h fun b s=>d.block b (h.lt b s).2;exact⟨aw h.bel d,h.kt.trans (KT.below d),bg h.sz d.size,f h.b1,f h.b5,f h.bi,fun c=>f (h.go0 c),fun c=>t (h.row0 c),fun j v E B C D=>t (h.oth j v E B C D),fun c p=>(h.one c p).imp fun _ q=>⟨q.1,q.2.1,f q.2.2⟩,fun c p=>⟨t (h.app c p).1,(h.app c p).2⟩,fun c=>(h.done c).below d⟩
theorem Cq:(prog.info? 3).map (fun i=>(i.zero,i.size,i.bytes))=some (some (ag 0),1,8):=by kernel_rfl
theorem AH:prog.underlying 37=some (.slice 3):=by kernel_rfl
def yx (w:World)(l:List Ru)(n mb a i:Nat)(b:List (List Int))(wr:World)(e:Ending)(w':World):Prop:=e= .returned (.tuple #[])/\SpS w l n mb a i b w'/\KT wr w'
theorem DN (w:World)(l:List Ru)(n mb V i:Nat)(g:List (List Int))(r:List Int)(x:List UInt8)(wr:World)(hM:jr w mb l)(b6:i<n)(_:n<=1000000)(a1:g.length=n)(hr:r.length<=1000000)(h:SpS w l n mb V i (g.set i r) wr):
  Calls prog 76 #[.string ⟨x.toArray⟩,ab w.heap.size 0,ab (w.heap.size+1+1) 0,ab V 0] wr (yx w l n mb V i (g.set i (addN r (atP5 l x))) wr):=by
 have aV:=hM.later (h.bel.block _ (ik hM));have b8:=L0 aV x;obtain⟨U,T⟩:=h.rows;have bm:U.length=n:=by rw[T.len,iE,a1]
 obtain⟨L,z⟩: ∃v,U[i]? =some v:=⟨U[i]'(by omega),ay _⟩
 have a5:(g.set i r)[i]? =some r:=by rw[eP (by omega)]
 have O:=T.rows i L r z a5;have a6:=qZ O (by omega);have k1:=ak 0 h.b1;have k5:=ak 0 h.b5;have ki:=ak 0 h.bi;have kg:wr.cell? (ae (w.heap.size+1) i)=some L:=(aZ _ _ i _ _ _ T.blk).trans (by simpa using z);have b3:(0:Int)<=(i:Int):=by omega
 have b4:(i:Int)<(n:Int):=by omega
 have cC:=fun nn=>jM r L nn wr a6;obtain⟨pi,ci,bk⟩:=cg O;have bx:=(ny l x).1;have Hs:=aE T;have Hw:=aE O;have HD:Rb (¬(0<=atP5 l x)->atP5 l x= -1):=fun h=>by omega
 obtain⟨i0,hi,bq,bs,bt⟩:=jw Cq;subst bk;go_enter func76,ntmps76;go_upto_if 14 with fail;rename_i K1 aU
 have ao: ∀(x6 x7 aC aL aM aP aR:Value),K1 ⟨#[.string ⟨x.toArray⟩,ab w.heap.size 0,ab (w.heap.size+1+1) 0,ab V 0,undef,ag (atP5 l x),x6,x7,.map (some mb),.string ⟨x.toArray⟩,aC,aL,aM,aP,aR,undef,undef,undef,undef,undef,undef,undef,undef,undef,undef,undef,undef,undef,undef,undef,undef,undef],[]⟩ wr:=by
  intro x6 x7 aC aL aM aP aR;refine aU _ _ ?_;generalize atP5 l x=nn at*;have c1:=cC nn;go_wp2_with fail;refine c1.mono ?_;rintro e w1 ⟨rfl,D⟩;by_cases X:nn∈r
  ·have HO:Rb (yx w l n mb V i (g.set i (addN r nn)) wr (.returned (.tuple #[])) w1):=by
    refine⟨rfl,?_,KT.below D⟩;unfold addN;rw[aB X];exact h.below D
   rw[bh X];go_wp2_with fail;refine aX (eW rfl _ _ _) rfl ?_;exact HO.o
  ·have B:=h.below D
   have HA:Rb (addN r nn=r++[nn]):=by
    show _=_;unfold addN;rw[ax X]
   have T:=Hs.o;have O:=Hw.o;have s:Sps (w.heap.size+3) w1 (w.heap.size+1) V U (g.set i r):=⟨ai D T.blk,T.len,fun j v m a d=>br (T.rows j v m a d) fun b p=>D.block b ((T.rows j v m a d).lt b p).2,T.apart,T.other⟩
   have H:=s.rows i _ r z a5;have b0:=aI B.bi;have b2:=aI s.blk;have aw:=B.gib;rw[bn X];have aS:=aE D;go_wp2_with fail;have a2:=H.lt;have a4: ∀(j:Nat) (v:Value) (m:List Int),j≠i->U[j]? =some v->g[j]? =some m->w1.ownsRow (w.heap.size+3) 3 1 v m.length (jS m):=fun j v m hj a d=>s.rows j v m a (by rw[fW (fun e=>hj e.symm)];exact d);obtain⟨L,bl⟩:=au (Value.slice pi r.length ci);rw[bl]at z H a2;refine dl (SJ w l n mb V i w1.heap.size g U L r nn w1) [kn 22 (.slice (some (ae (w.heap.size+1) 0)) n n),kn 23 (ag (i:Int)),kn 24 (.slice (some (ae (w.heap.size+1) 0)) n n),kn 25 (ag (i:Int)),kn 26 (ab (w.heap.size+1) i),kn 27 L,kn 28 (ag nn),td 29,td 30,kn 31 (ab (w.heap.size+1) i),nk] (fun _=>⟨B.bel.drew,fun _ _ _ _ h _ _=>h,aD _,B.b1,B.b5,B.bi,fun _=>s.blk,fun _=>br H fun _ _=>rfl,fun j v m a d N=>br (a4 j v m a d N) fun _ _=>rfl,(fun h=>by cases h),(fun h=>by cases h),(fun h=>by cases h)⟩) (fun _ _ _ _ Q h=>h.below Q) (by kernel_rfl) (fun M φ W f bb F l hl hF=> ?_) (fun M φ W hM f=> ?_)
   ·simp only[kn,td,nk,dX,aQ,aT,Act.put,aA,aK,aJ]at hl;subst hl;simp only[dn,Nat.reduceAdd]at hF
    have af:M 8=false->M 10=false:=fun h8=>by
     cases h:M 10 with
     |false=>rfl
     |true=>rw[bb 10 _ rfl h ⟨8,.data⟩ (by simp) rfl rfl]at h8;cases h8
    have j5:=ak 0 f.b5;have ji:=ak 0 f.bi;dsimp only[kn,td,nk,dy,eJ,dY,Act.put];and_intros;all_goals first|exact trivial|intro hw hn X K hK
    all_goals try (go_simp;with_reducible exact hK _ _ ⟨rfl,aH _ _⟩)
    ·have kg:W.cell? (ae (w.heap.size+1) i)=some L:=(aZ _ _ i _ _ _ (f.go0 (af (hn 8 _ rfl (by kernel_rfl))))).trans (by simpa using z);go_simp;exact hK _ _ ⟨rfl,aH _ _⟩
    ·have Q:=am W (.cells #[ag nn] 3);have l8:=hn 8 _ rfl (by kernel_rfl);have C:=f.below Q;go_simp;exact hK _ _ ⟨trivial,C.bel,C.kt,C.sz,C.b1,C.b5,C.bi,fun h=>C.go0 (by simpa using h),fun h=>C.row0 (by simpa using h),C.oth,fun _ _=>⟨_,dV ..,f.sz,aG W _⟩,(fun h=>by simp[l8]at h),(fun h=>by simp[af l8]at h)⟩
    ·have a9:=af X;obtain⟨g4,bu,bz,bd⟩:=f.one (hw ⟨7,.data⟩ (by simp) rfl rfl) X;rw[bu]at hF;have I:=f.row0 X;have b9:=f.sz;have c:=f.go0 a9;have E:=f.oth;refine tP _ _ 37 rfl (w.heap.size+3) 3 i0 (ag 0) 1 8 AH hi bq bs bt rfl (by decide) L r.length (jS r) (by simp[Act.eval,hF]) I ⟨g4,0,none⟩ 1 1 [ag nn] (by simp[Act.eval,hF]) rfl ?c1 ?c2 ?c3 ?c4 ?c5 ?_
     case c1=>
      intro k u' aa;match k,aa with
      |0,aa=>simp at aa;subst aa;exact(aZ _ _ _ _ _ _ bd).trans rfl
     case c2=>intro u hu;simp at hu;subst hu;rfl
     case c3=>unfold maxLen;omega
     case c4=>omega
     case c5=>omega
     intro v' W' an G ac;have ad:=I.lt;have R: ∀q,L.ownBlock≠some q->q<W.heap.size->W'.heap[q]? =W.heap[q]? :=fun q hq hl=>G.block q hl (fun e=>hq e.symm);have bv: ∀q,w1.heap.size<=q->q<W.heap.size->W'.heap[q]? =W.heap[q]? :=fun q hq hl=>R q (fun e=>by have:=(a2 q e).2;omega) hl;have S: ∀q,q<w.heap.size+3->q<W.heap.size->W'.heap[q]? =W.heap[q]? :=fun q hq hl=>R q (fun e=>by have:=(ad q e).1;omega) hl
     have a7:v'.ownBlock≠some V/\ ∀(j:Nat) (v:Value) (b:Nat),j≠i->U[j]? =some v->v.ownBlock=some b->v'.ownBlock≠some b:=by
      refine⟨fun e=> ?_,fun j v b hj a d e=> ?_⟩
      ·rcases ac with Q|Q
       ·rw[Q]at e;exact s.other i L z e
       ·rw[Q]at e;have:=aN e;omega
      ·rcases ac with Q|Q
       ·rw[Q]at e;exact s.apart i j L v b (fun e=>hj e.symm) z a e d
       ·rw[Q]at e;have e1:=aN e
        obtain⟨m,bf⟩: ∃m,g[j]? =some m:=by
         have b7:j<U.length:=(aF.1 a).1;exact⟨g[j]'(by omega),ay _⟩
        have:=((E j v m hj a bf).lt b d).2;omega
     have be:KT W W':=fun q cs t fr a d N=>by
      refine(R q (fun e=> ?_) (dr.1 a).1).trans a;obtain⟨_,bj⟩:=I;rcases bj with⟨e2,_⟩|⟨gb,cap,bw,e2,_,Z,_⟩
      ·rw[e2]at e;cases e
      ·rw[e2]at e;have e3:gb=q:=aN e;subst e3;rw[a]at Z;injection Z with Z;injection Z with _ e4;exact d e4
     exact hK _ _ ⟨trivial,f.bel.grown G (by omega) (fun q hq=>by have:=(ad q hq).1;omega),f.kt.trans be,bg f.sz G.size,(S _ (by omega) (aI f.b1)).trans f.b1,(S _ (by omega) (aI f.b5)).trans f.b5,(R _ (s.other i L z) (aI f.bi)).trans f.bi,fun _=>(S _ (by omega) (aI c)).trans c,(fun h=>by simp at h),fun j v m a d N=>br (E j v m a d N) fun b p=>R b (fun e=>s.apart i j L v b (fun e=>a e.symm) z d e p) ((E j v m a d N).lt b p).2,(fun _ h=>by simp at h),fun _ _=>by rw[dV];exact⟨an,a7⟩,(fun h=>by simp[a9]at h)⟩
    ·have l8:=hw ⟨8,.data⟩ (by simp) rfl rfl;obtain⟨hR,ap,ah⟩:=f.app l8 X;obtain⟨y,hy⟩:=au (φ 30);rw[hy]at hR ap ah hF;have c:=f.go0 X;have kg:W.cell? (ae (w.heap.size+1) i)=some L:=(aZ _ _ i _ _ _ c).trans (by simpa using z);have yg:=bo _ _ i _ _ c;have ar:=hR.lt;obtain⟨px,cx,bp⟩:=cg hR;have J: ∀q,q≠w.heap.size+1->(W.setCell ⟨w.heap.size+1,i,none⟩ y).heap[q]? =W.heap[q]? :=fun q hq=>aO W ⟨w.heap.size+1,i,none⟩ q _ hq;have bc:=aY W (w.heap.size+1) i _ _ y c;have av:aq w (W.setCell ⟨w.heap.size+1,i,none⟩ y):=f.bel.setCell (by show w.heap.size<=w.heap.size+1;omega) _;have E:=f.oth
     have A:SpS w l n mb V i (g.set i (r++[nn])) (W.setCell ⟨w.heap.size+1,i,none⟩ y):=by
      refine⟨av,(J _ (by omega)).trans f.b1,(J _ (by omega)).trans f.b5,(J _ (by omega)).trans f.bi,aw,U.set i y,?_,by simp[bm,a1],fun j v m a d=> ?_,fun j k v v' b aj a d N=> ?_,fun j v a=> ?_⟩
      ·rw[bc];simp
      ·by_cases e:j=i
       ·subst e;rw[eP (by omega)]at a;rw[eP (by omega)]at d;cases a;cases d
        have:W.ownsRow (w.heap.size+3) 3 1 y (r++[nn]).length (jS (r++[nn])):=by
         unfold jS at hR⊢;simpa using hR
        exact br this fun b p=>J b (by have:=(ar b p).1;omega)
       ·rw[fW (fun h=>e h.symm)]at a d;have a3:=E j v m e a d;exact br a3 fun b p=>J b (by have:=(a3.lt b p).1;omega)
      ·by_cases ej:j=i
       ·subst ej;rw[eP (by omega)]at a;rw[fW aj]at d;cases a;exact fun e=>ah k v' b (fun e=>aj e.symm) d e N
       ·rw[fW (fun h=>ej h.symm)]at a;by_cases ek:k=i
        ·subst ek;rw[eP (by omega)]at d;cases d;exact ah j v b ej a N
        ·rw[fW (fun h=>ek h.symm)]at d;exact s.apart j k v v' b aj a d N
      ·by_cases ej:j=i
       ·subst ej;rw[eP (by omega)]at a;cases a;exact ap
       ·rw[fW (fun h=>ej h.symm)]at a;exact s.other j v a
     have D:=A.b1;have aW:=A.b5;have ba:=A.bi;have al: ∀(j:Nat) (v:Value) (m:List Int),j≠i->U[j]? =some v->g[j]? =some m->(W.setCell ⟨w.heap.size+1,i,none⟩ y).ownsRow (w.heap.size+3) 3 1 v m.length (jS m):=fun j v m a d N=>br (E j v m a d N) fun b p=>J b (by have:=((E j v m a d N).lt b p).1;omega);have a8:w1.heap.size<=(W.setCell ⟨w.heap.size+1,i,none⟩ y).heap.size:=(by simpa using f.sz)
     have a0:KT W (W.setCell ⟨w.heap.size+1,i,none⟩ y):=fun q cs t fr a d N=>(J q (fun e=>by
      subst e;rw[a]at c;injection c with c;injection c with _ e4;exact N e4)).trans a
     have Y: ∀φ',SJ w l n mb V i w1.heap.size g U L r nn w1 (fun k=>decide (10=k)||M k) φ' (W.setCell ⟨w.heap.size+1,i,none⟩ y):=fun _=>⟨av,f.kt.trans a0,a8,D,aW,ba,(fun h=>by simp at h),(fun h=>by simp[l8]at h),al,(fun _ h=>by simp[l8]at h),(fun _ h=>by simp at h),fun _=>A⟩
     subst bp;go_simp;exact hK undef _ ⟨trivial,Y _⟩
   ·have A:=f.done (hM 10 (by decide) rfl);have az:=(KT.below aS.o).trans f.kt;simp only[kn,td,nk,d8,aQ,aT,Act.put,aA,aK,aJ];go_wp2_with fail;refine aX (eW rfl _ _ _) rfl ?_;rw[HA.o];exact⟨rfl,A,az⟩
 by_cases P:0<=atP5 l x
 ·have e1:(if 0<=atP5 l x then atP5 l x else 0)=atP5 l x:=aB P;have e2:decide (0<=atP5 l x)=true:=bh P;simp only[e1,e2];go_wp2_with fail;exact ao _ _ _ _ _ _ _
 ·have he:=HD.o P;rw[he]at ao;have e1:(if 0<=atP5 l x then atP5 l x else 0)=0:=ax P;have e2:decide (0<=atP5 l x)=false:=bn P;simp only[e1,e2];go_wp2_with fail;exact ao _ _ _ _ _ _ _
theorem pP:prog.underlying 84=some (.struct (prog.fieldsOf 84)):=by kernel_rfl
namespace Lx
theorem yz (l:List Ru)(a:List Int)(xs ys:List (List UInt8)):ij l a (xs++ys)=ij l (ij l a xs) ys:=by
 unfold ij;rw[List.foldl_append]
theorem Cr (a:List Int)(n:Int):(addN a n).length<=a.length+1:=by
 unfold addN;split<;>simp
theorem uj (l:List Ru): ∀(xs:List (List UInt8)) (a:List Int),(ij l a xs).length<=a.length+xs.length
 |[],a=>by simp[ij]
 |y::xs,a=>by
  have b:=uj l xs (addN a (atP5 l y));have c:=Cr a (atP5 l y);show(ij l (addN a (atP5 l y)) xs).length<=_;simp only[bV];omega
theorem AI {a:List Ex}{j:Nat}{k:Ex}(h:a[j]? =some k):jL (a.take (j+1))=jL (a.take j)++nms k:=by
 unfold jL;rw[eX,h,Option.toList_some,dZ,List.flatten_append];simp
theorem KA {a:List Ex}{j:Nat}{k:Ex}(h:a[j]? =some k):(jL (a.take j)).length+(nms k).length<=(jL a).length:=by
 rw[<-aP,<-AI h];unfold jL;have:a=a.take (j+1)++a.drop (j+1):=(gY _ _).symm;conv=>rhs;rw[this,dZ,List.flatten_append,aP]
 omega
theorem AK: ∀(N:Nat) (e:Ex) (a n:Nat),SizeOf.sizeOf e<=N->(shapeP e a n).1=0->n+(nms e).length+1<=(shapeP e a n).2+1/\n+1<=(shapeP e a n).2
 |0,e,_,_,l,_=>by cases e;simp at l
 |N+1,e,a,n,l,h=>by
  rw[kL]at h⊢;by_cases c1:600<n+1\/40<a
  ·rw[aB c1]at h;cases h
  rw[ax c1]at h⊢;by_cases i:aloneP e≠0
  ·rw[aB i]at h;exact absurd h i
  rw[ax i]at h⊢
  have g: ∀(b:List Ex),(∀k∈b,SizeOf.sizeOf k<=N)-> ∀m:Nat,(ii b (a+1) (0,m)).1=0->m+(jL b).length<=(ii b (a+1) (0,m)).2:=by
   intro b;induction b with
   |nil=>intro _ m _;simp[jL,FL]
   |cons k b t=>
    intro f m c;rw[jX,ax (by simp)]at c⊢
    have d:(shapeP k (a+1) m).1=0:=by
     by_cases d:(shapeP k (a+1) m).1=0
     ·exact d
     ·rw[kM d]at c;exact c
    obtain⟨p,v⟩:=AK N k (a+1) m (f k bq) d;obtain⟨j,r⟩: ∃j,shapeP k (a+1) m=(0,j):=⟨_,Prod.ext d rfl⟩
    rw[r]at c p⊢;have:=t (fun q s=>f q (bL _ s)) j c;have o:(jL (k::b)).length=(nms k).length+(jL b).length:=(by simp[jL]);rw[o];dsimp only at p;omega
  have u:=g e.kids (fun k f=>by have:=iZ f;omega) (n+1) h
  have o:(nms e).length<=1+(jL e.kids).length:=by
   rw[md,aP];split<;>simp
  omega
end Lx
def zU (w:World)(a:Nat):Value:= .func (.func 76) #[] #[ab w.heap.size 0,ab (w.heap.size+1+1) 0,ab a 0]
def QN (w:World)(l:List Ru)(n mb c i:Nat)(a:List (List Int))(r:List Int)(b:List Ex)(d:World)(t:Value)(wr:World):Prop:= ∃j:Nat,t=ag (j:Int)/\j<=b.length/\SpS w l n mb c i (a.set i (ij l r (jL (b.take j)))) wr/\KT d wr
theorem tR (w:World)(l:List Ru)(n mb z i:Nat)(d:List (List Int))(hM:jr w mb l)(ah:i<n)(hn:n<=1000000)(al:d.length=n)
  (e:Ex) (C:Option Addr) (D:Nat) (r:List Int) (wr:World) (h:SpS w l n mb z i (d.set i r) wr) (X:r.length+(nms e).length<=1000000) (T:(e.kids.length:Int)<9223372036854775808)
  (R: ∀(j:Nat) (k:Ex),e.kids[j]? =some k-> ∃(g o:Nat) (M:Option Addr) (K:Nat),C=some ⟨g,o,none⟩/\
    w.cell? (ae g (o+j*5))=some (ag k.kind)/\w.cell? (ae g (o+j*5+1))=some (ag k.a)/\w.cell? (ae g (o+j*5+2))=some (ag k.b)/\
    w.cell? (ae g (o+j*5+3))=some (.string ⟨k.name.toArray⟩)/\w.cell? (ae g (o+j*5+4))=some (.slice M k.kids.length K)/\
    ∀(q:List Int) (W:World),SpS w l n mb z i (d.set i q) W->q.length+(nms k).length<=1000000->Calls prog 75 #[exV k (.slice M k.kids.length K),zU w z] W (yx w l n mb z i (d.set i (ij l q (nms k))) W)):
  Calls prog 75 #[exV e (.slice C e.kids.length D),zU w z] wr (yx w l n mb z i (d.set i (ij l r (nms e))) wr):=by
 have HK:=aE R;have m:aq wr (wr.alloc (.cells #[ag e.kind,ag e.a,ag e.b,.string ⟨e.name.toArray⟩,.slice C e.kids.length D] 84)):=am _ _;have f:=aG wr (.cells #[ag e.kind,ag e.a,ag e.b,.string ⟨e.name.toArray⟩,.slice C e.kids.length D] 84);have P:=h.below m;unfold exV;clear R h;generalize J:wr.alloc (.cells #[ag e.kind,ag e.a,ag e.b,.string ⟨e.name.toArray⟩,.slice C e.kids.length D] 84)=wA at*;have z0:=ak 0 f;have z3:=ak 3 f;have z4:=ak 4 f;have c:=md e;unfold zU;go_enter func75,ntmps75;go_upto_if 8 with fail;rename_i K1 G
 have aa: ∀(N O v x y:Value) (q:List Int) (W:World),SpS w l n mb z i (d.set i q) W->KT wr W->q.length+(jL e.kids).length<=1000000->ij l q (jL e.kids)=ij l r (nms e)->W.cell? (ae wr.heap.size 4)=some (.slice C e.kids.length D)->
   K1 ⟨#[.agg #[ag e.kind,ag e.a,ag e.b,.string ⟨e.name.toArray⟩,.slice C e.kids.length D],.func (.func 76) #[] #[ab w.heap.size 0,ab (w.heap.size+1+1) 0,ab z 0],ab wr.heap.size 0,undef,undef,undef,ab wr.heap.size 0,ag e.kind,N,O,v,x,y,undef,undef,undef,undef,undef,undef,undef,undef,undef,undef,undef],[]⟩ W:=by
  intro N O v x y q W hW S az V af;refine G _ _ ?_;have Hqe:=aE V;have Hkt:=aE S;clear S;clear G P f z0 z3 z4 m c V J X;go_wp2_with fail;clear af;go_loopw [5,16] (fun _ t wq=>QN w l n mb z i d q e.kids wr t wq) (fun _ t _=>e.kids.length-(intOf t).toNat);case atStart=>exact⟨0,rfl,by omega,hW,Hkt.o⟩
  case round=>
   obtain⟨j,rfl,hj,u,E⟩:=hrel;have Hktj:=aE E;clear hW E Hkt;have aw:(0:Int)<=(j:Int):=(by omega);by_cases ao:j<e.kids.length
   ·have U:(j:Int)<(e.kids.length:Int):=(by omega);obtain⟨k,B⟩: ∃k,e.kids[j]? =some k:=⟨e.kids[j],ay ao⟩
    obtain⟨g,o,M,K,ar,c0,c1,c2,c3,c4,cK⟩:=HK.o j k B;have Y:=AI B;have ap:=KA B;have au:=uj l (jL (e.kids.take j)) q;subst ar;have p:=u.bel;have d0:=aj p c0;have d1:=aj p c1;have d2:=aj p c2;have d3:=aj p c3;have d4:=aj p c4;have I:=am wr (.cells #[ag k.kind,ag k.a,ag k.b,.string ⟨k.name.toArray⟩,.slice M k.kids.length K] 84);have Z:=aG wr (.cells #[ag k.kind,ag k.a,ag k.b,.string ⟨k.name.toArray⟩,.slice M k.kids.length K] 84);have cR:=cK _ _ (u.below I) (by omega);rw[<-yz,<-Y]at cR;unfold exV zU at cR;have HbA:=aE I;clear Y ap au B c0 c1 c2 c3 c4 cK u p I;generalize a0:wr.alloc (.cells #[ag k.kind,ag k.a,ag k.b,.string ⟨k.name.toArray⟩,.slice M k.kids.length K] 84)=wB at*;go_wp2_with(refine aR rfl 84 _ rfl _ rfl _ _ _ _ Z pP rfl (by kernel_rfl) ?_)
    refine cR.mono ?_;rintro e' w2 ⟨rfl,A,s⟩;have F:=aE ((Hktj.o.trans (KT.below HbA.o)).trans s);clear cR Z Hktj HbA s;go_wp2_with fail;go_roundw;case rel=>exact⟨j+1,by go_num,by omega,A,F.o⟩
    case measure=>simp[intOf];omega
   ·have U: ¬(j:Int)<(e.kids.length:Int):=(by omega);have HO:=fun(H:SpS w l n mb z i (d.set i (ij l r (nms e))) wr)=>aE (fV (rfl:Ending.returned (.tuple #[])= .returned (.tuple #[])) (fV H Hktj.o))
    have HO:=HO (by
     rw[<-Hqe.o];have e1:e.kids.take j=e.kids:=dh (by omega);rw[e1]at u;exact u)
    clear u HK Hqe Hktj;go_wp2_with fail;refine aX (eW rfl _ _ _) rfl ?_;exact⟨rfl,HO.o.2⟩
 clear G HK;have Hkey:=aE aa;clear aa;by_cases L:e.kind=10
 ·have ai:(e.kind==10)=true:=by rw[L];rfl
  rw[aB L]at c;have an:(nms e).length=1+(jL e.kids).length:=(by rw[c];simp;omega);have cS:=DN w l n mb z i d r e.name wA hM ah hn al (by omega) P;have ad:=Cr r (atP5 l e.name)
  have Q:ij l (addN r (atP5 l e.name)) (jL e.kids)=ij l r (nms e):=by
   rw[c,yz];rfl
  have HL:Rb ((addN r (atP5 l e.name)).length+(jL e.kids).length<=1000000):=by
   show _<=_;omega
  have HE:=aE Q;have Hx:=aE f;have ac:=aE m;clear L c an ad Q X f P hM J m z0 z4 T;generalize addN r (atP5 l e.name)=q at*;go_wp2_with fail;refine cS.mono ?_;rintro e' w2 ⟨rfl,A,s⟩;have av:w2.cell? (ae wr.heap.size 4)=some (.slice C e.kids.length D):=(aZ _ _ 4 _ _ _ (s _ _ _ _ Hx.o (by decide) (by decide))).trans rfl;have F:=aE ((KT.below ac.o).trans s);clear cS s;go_wp2_with fail;exact Hkey.o _ _ _ _ _ q w2 A F.o HL.o HE.o av
 ·have ai:(e.kind==10)=false:=bm.2 L;rw[ax L,List.nil_append]at c;have HF:Rb (∀(N O v x y:Value),K1 ⟨#[.agg #[ag e.kind,ag e.a,ag e.b,.string ⟨e.name.toArray⟩,.slice C e.kids.length D],.func (.func 76) #[] #[ab w.heap.size 0,ab (w.heap.size+1+1) 0,ab z 0],ab wr.heap.size 0,undef,undef,undef,ab wr.heap.size 0,ag e.kind,N,O,v,x,y,undef,undef,undef,undef,undef,undef,undef,undef,undef,undef,undef],[]⟩ wA):=fun N O v x y=>Hkey.o N O v x y r wA P (KT.below m) (by rw[c]at X;exact X) (by rw[c]) z4;clear L c Hkey P hM X J m z0 z3 z4 f T;go_wp2_with fail;exact HF.o _ _ _ _ _
theorem uk (w:World)(l:List Ru)(n mb s i:Nat)(a:List (List Int))(v:jr w mb l)(f:i<n)(z:n<=1000000)(m:a.length=n):
  ∀(d:Nat) (e:Ex) (sl:Value) (r:List Int) (wr:World),fP (fun k=>k<w.heap.size) d w sl e.kids->SpS w l n mb s i (a.set i r) wr->r.length+(nms e).length<=1000000->Calls prog 75 #[exV e sl,zU w s] wr (yx w l n mb s i (a.set i (ij l r (nms e))) wr)
 |0,e,sl,r,wr,u,h,A=>by
  obtain⟨b,p,c,rfl⟩:=u;have:=tR w l n mb s i a v f z m e p c r wr h A (by rw[b];decide) (fun j k t=>by rw[b]at t;simp at t);rw[b]at this;exact this
 |d+1,e,sl,r,wr,u,h,A=>by
  obtain⟨M,F,B⟩:=u.form;subst B
  have y:(e.kids.length:Int)<9223372036854775808:=by
   rcases u with⟨b,_⟩|⟨_,_,_,_,_,J,_⟩
   ·rw[b];decide
   ·omega
  refine tR w l n mb s i a v f z m e M F r wr h A y fun j k t=> ?_;rcases u with⟨b,_⟩|⟨g,o,c,P,L,J,x⟩
  ·rw[b]at t;simp at t
  ·obtain⟨_,Q,c0,c1,C,D,E,q⟩:=x j k t;obtain⟨N,G,rfl⟩:=q.form;injection L with H;exact⟨g,o,N,G,H,c0,c1,C,D,E,fun O W I K=>uk w l n mb s i a v f z m d k _ O W q I K⟩
def oe (w:World)(d:Value)(a:List (List Int)):Prop:= ∃p c,d= .slice p a.length c/\ ∀(i:Nat) (b:List Int),a[i]? =some b-> ∃(g o:Nat) (v:Value),p=some ⟨g,o,none⟩/\w.cell? (ae g (o+i))=some v/\dM w v b
theorem oe.below {w w':World}{d:Value}{b:List (List Int)}(h:oe w d b)(a:aq w w'):oe w' d b:=by
 obtain⟨p,c,f,j⟩:=h;refine⟨p,c,f,fun i m hi=> ?_⟩;obtain⟨g,o,v,e,k,l⟩:=j i m hi;exact⟨g,o,v,e,aj a k,l.below a⟩
def lsJ (l:List Ru)(j:Nat):List (List Int):=(l.take j).map (gF l)++List.replicate (l.length-j) []
theorem EE {l:List Ru}{j:Nat}(a:j<=l.length):(lsJ l j).length=l.length:=by simp[lsJ];omega
theorem Cs (l:List Ru):lsJ l 0=List.replicate l.length []:=by simp[lsJ]
theorem MN (l:List Ru):lsJ l l.length=l.map (gF l):=by simp[lsJ]
theorem KB {l:List Ru}{j:Nat}(a:j<l.length):(lsJ l j).set j []=lsJ l j:=by
 apply List.ext_getElem?;intro k;by_cases e:j=k
 ·subst e;rw[eP (by rw[EE (by omega)];omega)];have:((l.take j).map (gF l)).length=j:=(by simp;omega);unfold lsJ;rw[dB (by omega),this,iM,iy,aB (by omega)]
 ·rw[fW e]
theorem KC {l:List Ru}{j:Nat}{u:Ru}(a:l[j]? =some u):(lsJ l j).set j (gF l u)=lsJ l (j+1):=by
 have d:j<l.length:=(aF.1 a).1;have b:((l.take j).map (gF l)).length=j:=by simp;omega
 unfold lsJ;rw[List.set_append_right _ _ (by omega),b,iM];obtain⟨m,c⟩: ∃m,l.length-j=m+1:=⟨l.length-j-1,by omega⟩
 rw[c,List.replicate_succ,aJ,eX,a,Option.toList_some,dZ,ef];simp;omega
theorem MO:(prog.info? 37).map (fun i=>(i.zero,i.size,i.bytes))=some (some (af),1,24):=by kernel_rfl
theorem FR:prog.underlying 34=some (.slice 37):=by kernel_rfl
theorem KD (n:Nat):madeCells #[af] n=(List.replicate n (af)).toArray:=by
 apply Array.ext
 ·simp[madeCells]
 ·intro k a b;simp[madeCells,Nat.mod_one]
structure SpH (w:World)(n mb:Nat)(ls:List (List Int))(W:World):Prop where
 bel:aq w W
 b1:W.heap[w.heap.size]? =ah #[.map (some mb)] 76
 b5:W.heap[w.heap.size+1+1]? =ah #[.slice (some (ae (w.heap.size+1) 0)) n n] 34
 rows: ∃vs,Sps (w.heap.size+3) W (w.heap.size+1) w.heap.size vs ls
def QO (w:World)(l:List Ru)(n mb:Nat)(t:Value)(wr:World):Prop:= ∃j:Nat,t=ag (j:Int)/\j<=n/\SpH w n mb (lsJ l j) wr
def L2 (l:List Ru)(w:World)(e:Ending)(w':World):Prop:= ∃a,e= .returned a/\oe w' a (l.map (gF l))/\aq w w'
theorem SpH.open {w:World}{l:List Ru}{n mb j:Nat}{W:World}{cs:Array Value}(h:SpH w n mb (lsJ l j) W)(s:l.length=n)(r:j<n):SpS w l n mb W.heap.size j ((lsJ l j).set j []) ((W.alloc (.cells #[ag (j:Int)] 3)).alloc (.cells cs 86)):=by
 obtain⟨o,a⟩:=h.rows;have b1:=am W (.cells #[ag (j:Int)] 3);have b2:=b1.alloc b1.size (.cells cs 86);have i:(W.alloc (.cells #[ag (j:Int)] 3)).heap.size=W.heap.size+1:=by simp
 rw[KB (by omega)];refine⟨aw h.bel b2,ai b2 h.b1,ai b2 h.b5,?_,aI h.b5,o,ai b2 a.blk,a.len,fun k v c d p=> ?_,a.apart,fun k v d e=> ?_⟩
 ·exact(dQ _ _ _ (by rw[i];omega)).trans (aG W _)
 ·have m:=a.rows k v c d p;exact br m fun b q=>b2.block b (m.lt b q).2
 ·obtain⟨c,g⟩: ∃c,(lsJ l j)[k]? =some c:=by
   have f:k<o.length:=(aF.1 d).1;exact⟨(lsJ l j)[k]'(by rw[<-a.len];exact f),ay _⟩
  have:=((a.rows k v c d g).lt _ e).2;omega
theorem SpS.shut {w:World}{l:List Ru}{n mb m i:Nat}{b:List (List Int)}{W:World}(h:SpS w l n mb m i b W):SpH w n mb b W:=by
 obtain⟨j,a⟩:=h.rows;refine⟨h.bel,h.b1,h.b5,j,a.blk,a.len,a.rows,a.apart,fun k v g e=> ?_⟩
 obtain⟨f,d⟩: ∃f,b[k]? =some f:=by
  have c:k<j.length:=(aF.1 g).1;exact⟨b[k]'(by rw[<-a.len];exact c),ay _⟩
 have:=((a.rows k v f g d).lt _ e).1;omega
theorem SpH.o {w:World}{l:List Ru}{n mb:Nat}{W:World}(h:SpH w n mb (lsJ l l.length) W)(k:l.length=n)(j: ∀u∈l,(gF l u).length<1000000):oe W (.slice (some (ae (w.heap.size+1) 0)) n n) (l.map (gF l)):=by
 obtain⟨g,a⟩:=h.rows;rw[MN]at a;refine⟨_,_,by rw[bc,k],fun i f hi=> ?_⟩;have b:i<(l.map (gF l)).length:=(aF.1 hi).1;obtain⟨v,d⟩: ∃v,g[i]? =some v:=⟨g[i]'(by rw[a.len];exact b),ay _⟩
 have c:f.length<1000000:=by
  rw[a8]at hi;obtain⟨u,m,e⟩:=eh.1 hi;rw[<-e];exact j u (aM m)
 refine⟨w.heap.size+1,0,v,rfl,?_,qZ (a.rows i v f d hi) (by omega)⟩;rw[cY];exact(aZ _ _ i _ _ _ a.blk).trans (by simpa using d)
theorem yA (c:List (Ru×Value))(v:Value)(mb:Nat)(w:World)(h:InR w v c)(V:jr w mb (c.map (fun p=>p.1)))(aa:c.length<=1000)(F: ∀p∈c,(nms p.1.2).length<=1000):
  Calls prog 43 #[v,.map (some mb)] w (L2 (c.map (fun p=>p.1)) w):=by
 obtain⟨l,L⟩:=au (c.map (fun p=>p.1));have A:l.length=c.length:=by rw[<-L,bc]
 obtain⟨pv,cv,rfl⟩:=h.form;have HK:=aE h.cells;have HI:Rb (∀p∈c,∃d,fP (fun k=>k<w.heap.size) d w p.2 p.1.2.kids):=fun p W=>(h.all p W).2.2;have N:=aE F;have D:=run_make_row' (P:=prog) 34 37 (af) 24 FR MO rfl .i64 .i64 c.length (by omega) (by omega);rw[KD]at D;rw[L]at V⊢;have HL:Rb (c.map (fun p=>p.1)=l):=L;have r:=aE A;have HM:=aE V;clear h F L V;have O:=am w (.cells #[.map (some mb)] 76);have Q:=O.alloc O.size (.cells (List.replicate c.length (af)).toArray 37);have bC:=Q.alloc Q.size (.cells #[.slice (some (ae (w.heap.size+1) 0)) c.length c.length] 34);have s1:(w.alloc (.cells #[.map (some mb)] 76)).heap.size=w.heap.size+1:=by simp
 have M:((w.alloc (.cells #[.map (some mb)] 76)).alloc (.cells (List.replicate c.length (af)).toArray 37)).heap.size=w.heap.size+1+1:=by simp
 have I:SpH w c.length mb (lsJ l 0) (((w.alloc (.cells #[.map (some mb)] 76)).alloc (.cells (List.replicate c.length (af)).toArray 37)).alloc (.cells #[.slice (some (ae (w.heap.size+1) 0)) c.length c.length] 34)):=by
  refine⟨bC,?_,?_,List.replicate c.length (af),?_,?_,?_,?_,?_⟩
  ·exact(dQ _ _ _ (by rw[M];omega)).trans ((dQ _ _ _ (by rw[s1];omega)).trans (aG w _))
  ·have:=aG ((w.alloc (.cells #[.map (some mb)] 76)).alloc (.cells (List.replicate c.length (af)).toArray 37)) (.cells #[.slice (some (ae (w.heap.size+1) 0)) c.length c.length] 34);rw[M]at this;exact this
  ·refine(dQ _ _ _ (by rw[M];omega)).trans ?_;have:=aG (w.alloc (.cells #[.map (some mb)] 76)) (.cells (List.replicate c.length (af)).toArray 37);rw[s1]at this;exact this
  ·rw[Cs];simp[A]
  ·intro j v ns n z;rw[Cs,iy]at z;rw[iy]at n;split at n
   ·split at z
    ·cases n;cases z;exact dp _ _ _ _
    ·cases z
   ·cases n
  ·intro j k v v' b _ n _ h3;rw[iy]at n;split at n
   ·cases n;cases h3
   ·cases n
  ·intro j v n e;rw[iy]at n;split at n
   ·cases n;cases e
   ·cases n
 clear O Q bC s1 M A;have ac: ∀(fn:Fn) (first cap:Array Value) (w:World),(Instr.makeFunc fn first cap).run prog w= .ok (.func fn first cap) w:=fun _ _ _ _=>rfl;go_enter func43,ntmps43;go_wp2_with fail;go_loopw [6,7,13] (fun _ _ t wq=>QO w l c.length mb t wq) (fun _ _ t _=>c.length-(intOf t).toNat);case atStart=>exact⟨0,rfl,by omega,I⟩
 case round=>
  obtain⟨j,rfl,hj,f⟩:=hrel;clear I D;have ab:(0:Int)<=(j:Int):=(by omega);by_cases B:j<c.length
  ·have C:(j:Int)<(c.length:Int):=(by omega);obtain⟨⟨u,sk⟩,q⟩: ∃p,c[j]? =some p:=⟨c[j],ay B⟩
   have J:l[j]? =some u:=(by rw[<-HL.o,a8,q];rfl);obtain⟨g,o,X,c0,c1,R,S,T,U⟩:=HK.o j _ q;obtain⟨dk,s⟩:=HI.o _ (aM q);have E:=N.o _ (aM q);dsimp only at c0 c1 R S T U s E;obtain⟨ps,K,rfl⟩:=s.form;subst X;have i:=f.bel;have d0:=aj i c0;have d1:=aj i c1;have d2:=aj i R;have d3:=aj i S;have d4:=aj i T;have d5:=aj i U;have H:=f.open (cs:= #[.string ⟨u.1.toArray⟩,ag u.2.kind,ag u.2.a,ag u.2.b,.string ⟨u.2.name.toArray⟩,.slice ps u.2.kids.length K]) r.o B;have cE:=uk w l c.length mb wr.heap.size j (lsJ l j) HM.o B (by omega) ((EE (by rw[r.o];omega)).trans r.o) dk u.2 _ [] _ s H (by simp;omega);have G:(lsJ l j).set j (ij l [] (nms u.2))=lsJ l (j+1):=KC J;rw[G]at cE;have m:=aG (wr.alloc (.cells #[ag (j:Int)] 3)) (.cells #[.string ⟨u.1.toArray⟩,ag u.2.kind,ag u.2.a,ag u.2.b,.string ⟨u.2.name.toArray⟩,.slice ps u.2.kids.length K] 86);rw[show(wr.alloc (.cells #[ag (j:Int)] 3)).heap.size=wr.heap.size+1 by simp]at m;unfold exV zU at cE;clear G H J q c0 c1 R S T U s E i f;generalize Z:(wr.alloc (.cells #[ag (j:Int)] 3)).alloc (.cells #[.string ⟨u.1.toArray⟩,ag u.2.kind,ag u.2.a,ag u.2.b,.string ⟨u.2.name.toArray⟩,.slice ps u.2.kids.length K] 86)=wB at*;have r1:=ak 1 m;have r2:=ak 2 m;have r3:=ak 3 m;have r4:=ak 4 m;have r5:=ak 5 m;go_wp2_with fail;refine cE.mono ?_;rintro e' w2 ⟨rfl,y,_⟩;have Y:=y.shut;clear cE y Z m r1 r2 r3 r4 r5;go_wp2_with fail;go_roundw;case rel=>exact⟨j+1,by go_num,by omega,Y⟩
   case measure=>simp[intOf];omega
  ·have ej:j=c.length:=(by omega);have C: ¬(j:Int)<(c.length:Int):=(by omega);have k5:=ak 0 f.b5
   have HO:Rb (L2 l w (.returned (.slice (some (ae (w.heap.size+1) 0)) c.length c.length)) wr):=by
    have z:=r.o;refine⟨_,rfl,?_,f.bel⟩;rw[ej,<-z]at f
    have:=SpH.o f rfl fun x hx=>by
     rw[<-HL.o]at hx;obtain⟨p,W,rfl⟩:=dR.1 hx;have h3:=N.o p W;have h4:=uj l (nms p.1.2) [];unfold gF;simp at h4;omega
    rw[<-z];exact this
   clear f HK HI N HM ej;go_wp2_with fail;go_ret;exact HO.o
def pQ (a:List Int):List Nat:=a.map Int.toNat
def iT (l:List Ru)(i:Nat):List Nat:=match l[i]? with|some u=>pQ (gF l u)|none=>[]
theorem re {l:List Ru}{i:Nat}{u:Ru}(h:l[i]? =some u):iT l i=pQ (gF l u):=by unfold iT;rw[h]
theorem Ct {w:World}{s:Value}{l:List Ru}(h:oe w s (l.map (gF l)))(y: ∀u∈l,-1∉gF l u):tn w s l.length (iT l):=by
 have r: ∀u∈l,∀m∈gF l u,0<=m/\m<l.length:=fun u d m b=>by
  have j:=(tj (l:=l) (nms u.2) [] List.nodup_nil (fun m b=>by cases b)).2 m b;have n:m≠ -1:=fun e=>y u d (e▸b);omega
 obtain⟨p,c,j,n⟩:=h;refine⟨⟨p,c,by rw[j,bc],fun i hi=> ?_⟩,fun i k a=> ?_⟩
 ·obtain⟨u,d⟩: ∃u,l[i]? =some u:=⟨l[i],ay hi⟩
  obtain⟨g,o,v,e,t,A⟩:=n i (gF l u) (by rw[a8,d];rfl);refine⟨g,o,v,e,t,?_⟩;rw[re d]
  have:(pQ (gF l u)).map (fun k:Nat=>(k:Int))=gF l u:=by
   unfold pQ;rw[j7]
   have x: ∀f:List Int,(∀m∈f,0<=m)->f.map ((fun k:Nat=>(k:Int))∘Int.toNat)=f:=by
    intro f;induction f with
    |nil=>intro _;rfl
    |cons m f B=>
     intro b;rw[dO,B fun q z=>b q (bL _ z)];have:=b m bq;show((m.toNat:Nat):Int)::f=_;rw[Int.toNat_of_nonneg this]
   exact x _ fun m b=>(r u (aM d) m b).1
  rw[this];exact A
 ·unfold iT at a;split at a
  ·rename_i u d;unfold pQ at a;obtain⟨m,b,rfl⟩:=dR.1 a;have:=r u (aM d) m b;omega
  ·cases a
theorem Ir {l:List Ru}{i:Nat}{u:Ru}(h:l[i]? =some u):0<=atP5 l u.1:=by
 have a: ∀(l:List Ru) (k i:Nat),l[i]? =some u->0<=atF l k u.1:=by
  intro l;induction l with
  |nil=>intro k i h;simp at h
  |cons v l c=>
   intro k i h;simp only[atF];split
   ·omega
   ·rename_i b;cases i with
    |zero=>simp at h;exact absurd (by rw[h]) b
    |succ i=>exact c (k+1) i (by simpa using h)
 exact a l 0 i h
theorem Is (a:List (Ru×Value))(v:Option Addr)(k:Nat)(mb j b1 i:Nat)(u:Ru)(w:World)(h:InR w (.slice v a.length k) a)(q:jr w mb (a.map (fun p=>p.1)))(l:w.heap[b1]? =ah #[.slice v a.length k] 24)(m:w.heap[j]? =ah #[.map (some mb)] 76)(d:(a.map (fun p=>p.1))[i]? =some u):
  Calls prog 44 #[ag (i:Int),ab j 0,ab b1 0] w fun r w'=>r= .returned (.bool (atP5 (a.map (fun p=>p.1)) u.1 !=(i:Int)))/\aq w w':=by
 have b:=fun W (x:w.heap=W.heap)=>FO (w:=W) (q.later (by rw[x])) u.1 (Ir d)
 obtain⟨⟨A,D⟩,f,c⟩: ∃p,a[i]? =some p/\p.1=u:=by
  rw[a8]at d;exact eh.1 d
 dsimp only at c;subst c;have hi:i<a.length:=(aF.1 f).1;obtain⟨g,o,rfl,c0,_⟩:=h.cells i _ f;dsimp only at c0;have B:=ak 0 l;have C:=ak 0 m;have y:(0:Int)<=(i:Int):=by omega
 have z:(i:Int)<(a.length:Int):=by omega
 have s:=fun n=>b (w.drewN n) rfl;have t:=b w rfl;generalize atP5 (a.map (fun p=>p.1)) A.1=N at*;clear b h q d f l m;go_enter func44,ntmps44;go_wp2_with fail;go_quiet (fail);have e:aq w (w.drewN nq):=du (aH _ _) nq;go_wp2_with fail;go_ret;exact⟨rfl,e⟩
theorem It (l:List Ru)(k:Value)(b5 i:Nat)(u:Ru)(w:World)(m:oe w k (l.map (gF l)))(f:w.heap[b5]? =ah #[k] 34)(d:l[i]? =some u):
  Calls prog 45 #[ag (i:Int),ab b5 0] w fun r w'=>r= .returned (.bool (decide (-1∈gF l u)))/\aq w w':=by
 obtain⟨p,c,rfl,a⟩:=m;obtain⟨g,o,v,rfl,y,j⟩:=a i (gF l u) (by rw[a8,d];rfl);have hi:i<l.length:=(aF.1 d).1;have e:=jM (gF l u) v (-1) w j;obtain⟨z,x,rfl,_,_⟩:=j;have t:=ak 0 f;rw[bc]at t;have q:(0:Int)<=(i:Int):=by omega
 have s:(i:Int)<(l.length:Int):=by omega
 clear a f d;generalize decide (-1∈gF l u)=b at*;generalize (gF l u).length=nn at*;go_enter func45,ntmps45;go_wp2_with fail;refine e.mono ?_;rintro r A ⟨rfl,n⟩;clear e;go_wp2_with fail;go_ret;exact⟨rfl,n⟩
theorem Iu (l:List Ru)(b:Value)(b5 i:Nat)(w:World)(a:tn w b l.length (iT l))(n:l.length<=1000)(d:w.heap[b5]? =ah #[b] 34)(hi:i<l.length):
  Calls prog 47 #[ag (i:Int),ab b5 0] w fun r w'=>r= .returned (.bool (fol (iT l) (l.length+1) (fun _=>false) i i))/\aq w w':=by
 have cR:=vY b l.length (iT l) i w a (by omega) hi;obtain⟨p,c,rfl,_⟩:=a.form;have o:=ak 0 d;have j:(0:Int)<=(i:Int):=by omega
 have k:(i:Int)<(l.length:Int):=by omega
 generalize fol (iT l) (l.length+1) (fun _=>false) i=m at*;clear d a;go_enter func47,ntmps47;go_wp2_with fail;refine cR.mono ?_;rintro r s ⟨g,rfl,e,f⟩;have q:=(aZ _ _ i _ _ _ e).trans (nz hi);clear cR e;go_wp2_with fail;go_ret;exact⟨rfl,f⟩
end Go.Proofs.YtlkehieagdkgiaaGreatDoor
