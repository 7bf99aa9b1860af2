/- Texts of the proof. -/
import Derived.Test.YtjkilacmkbmmbaaGreatDoorPe18
import Derived.Deep.OwnRows
import Derived.Laws.EntriesVeiled
import Derived.Deep.Cut
set_option maxRecDepth 100000
set_option maxHeartbeats 8000000
namespace Go.Proofs.YtjkilacmkbmmbaaGreatDoor
open Go.Proofs.Tryz Go.RowKit Lx Vx Mx Msk
def eX (n:Nat)(m:Nat->Bool):Array Value:=((List.range n).map fun i=>Value.bool (m i)).toArray
theorem mA {n:Nat}{m:Nat->Bool}{i:Nat}(h:i<n):(eX n m)[i]? =some (.bool (m i)):=by
 simp[eX,h]
theorem xg {n:Nat}{m:Nat->Bool}{i:Nat}:(eX n m).setIfInBounds i (.bool true)=eX n (upd m i):=by
 apply Array.ext
 ·simp[eX]
 ·intro k h1 h2;have hk:k<n:=(by simpa[eX] using h2);rw[Array.getElem_setIfInBounds (by simpa[eX] using hk)];by_cases e:i=k
  ·subst e;simp[eX,upd]
  ·rw[aw e];simp[eX,upd,show k≠i from fun h=>e h.symm]
theorem vd (n:Nat):madeCells #[Value.bool false] n=eX n (fun _=>false):=by
 apply Array.ext
 ·simp[eX,madeCells]
 ·intro k h1 h2;simp[eX,madeCells,Nat.mod_one]
structure sb (w:World)(so:Value)(n:Nat)(S:Nat->List Nat):Prop where
 form: ∃p c,so= .slice p n c/\ ∀i,i<n-> ∃(g o:Nat) (v:Value),p=some ⟨g,o,none⟩/\w.cell? (ae g (o+i))=some v/\dQ w v ((S i).map fun k:Nat=>(k:Int))
 lt: ∀i,∀k∈S i,k<n
theorem sb.below {w w':World}{so:Value}{n:Nat}{S:Nat->List Nat}(h:sb w so n S)(hb:ao w w'):sb w' so n S:=by
 obtain⟨p,c,h1,h2⟩:=h.form;refine⟨⟨p,c,h1,fun i hi=> ?_⟩,h.lt⟩;obtain⟨g,o,v,e,hc,hr⟩:=h2 i hi;exact⟨g,o,v,e,aj hb hc,hr.below hb⟩
structure FSt (w:World)(n:Nat)(so:Value)(m:Nat->Bool)(wr:World):Prop where
 bel:ao w wr
 b1:wr.heap[w.heap.size]? =ah #[so] 33
 marks:wr.heap[w.heap.size+1]? =ah (eX n m) 4
 b2:wr.heap[w.heap.size+1+1]? =ah #[.slice (some (ae (w.heap.size+1) 0)) n n] 84
 b3:wr.heap[w.heap.size+1+1+1]? =ah #[.func (.func 79) #[] #[ab w.heap.size 0,ab (w.heap.size+1+1) 0,ab (w.heap.size+1+1+1) 0]] 140
theorem FSt.set {w wr:World}{n:Nat}{so:Value}{m:Nat->Bool}(h:FSt w n so m wr)(i:Nat):FSt w n so (upd m i) (wr.setCell ⟨w.heap.size+1,i,none⟩ (.bool true)):=by
 have ho: ∀q,q≠w.heap.size+1->(wr.setCell ⟨w.heap.size+1,i,none⟩ (.bool true)).heap[q]? =wr.heap[q]? :=fun q hq=>aN wr ⟨w.heap.size+1,i,none⟩ q _ hq;refine⟨h.bel.setCell (by show w.heap.size<=w.heap.size+1;omega) _,(ho _ (by omega)).trans h.b1,?_,(ho _ (by omega)).trans h.b2,(ho _ (by omega)).trans h.b3⟩;rw[<-xg];exact aX wr (w.heap.size+1) i _ _ _ h.marks
def sc (S:Nat->List Nat)(f:Nat)(m:Nat->Bool)(l:List Nat):Nat->Bool:=l.foldl (fun m n=>if m n=true then m else fol S f (upd m n) n) m
def JC (w:World)(n:Nat)(so:Value)(S:Nat->List Nat)(f:Nat)(m:Nat->Bool)(r:Nat)(t:Value)(wr:World):Prop:= ∃j:Nat,t=ag (j:Int)/\j<=(S r).length/\(∀k,m k=true->sc S f m ((S r).take j) k=true)/\FSt w n so (sc S f m ((S r).take j)) wr
def PH (w:World)(n:Nat)(so:Value)(m':Nat->Bool)(e:Ending)(w':World):Prop:=e= .returned (.tuple #[])/\FSt w n so m' w'
theorem xh (w:World)(so:Value)(n:Nat)(S:Nat->List Nat)(hS:sb w so n S)(hn:n<9223372036854775808): ∀(f:Nat) (m:Nat->Bool) (r:Nat) (wr:World),FSt w n so m wr->r<n->unm m n+1<=f->
  Calls prog 79 #[ag (r:Int),ab w.heap.size 0,ab (w.heap.size+1+1) 0,ab (w.heap.size+1+1+1) 0] wr (PH w n so (fol S f m r))
 |0,_,_,_,_,_,h=>by omega
 |f+1,m,r,wr,hF,hr,hu=>by
  have ih:=xh w so n S hS hn f;obtain⟨p,c,rfl,hrows⟩:=hS.form;obtain⟨g,o,v,hp,hcv,hrow⟩:=hrows r hr;subst hp;obtain⟨pv,cv,rfl,hlv,hcells⟩:=hrow;have hltS:=hS.lt r;rw[aZ]at hlv;rw[aZ]at hcv;have HC:P3 (∀(j k:Nat),(S r)[j]? =some k-> ∃g o:Nat,pv=some ⟨g,o,none⟩/\w.cell? (ae g (o+j))=some (ag (k:Int))):=fun j k hj=>hcells j _ (by rw[bg,hj];rfl);have HL:P3 (∀j k:Nat,(S r)[j]? =some k->k<n):=fun j k hj=>hltS k (aM hj);have HX:P3 (fol S (f+1) m r=sc S f m (S r)):=rfl;have d0:=aj hF.bel hcv;have k1:=ak 0 hF.b1;have hr0:(0:Int)<=(r:Int):=(by omega);have hrn:(r:Int)<(n:Int):=(by omega);clear hcells hltS hrows hcv;go_enter func79,ntmps79;go_wp2_with fail;go_loopw [6,12] (fun _ t wr=>JC w n (.slice (some (ae g o)) n c) S f m r t wr) (fun _ t _=>(S r).length-(intOf t).toNat);case atStart=>exact⟨0,rfl,by omega,fun k hk=>hk,hF⟩
  case round=>
   obtain⟨j,rfl,hj,hup,hst⟩:=hrel;clear hF d0 k1;have hj0:(0:Int)<=(j:Int):=(by omega);by_cases hlt:j<(S r).length
   ·have hlt':(j:Int)<((S r).length:Int):=(by omega);obtain⟨k,hjk⟩: ∃k,(S r)[j]? =some k:=⟨(S r)[j],ax hlt⟩
    have hkn:=HL.o j k hjk;obtain⟨g',o',hpv,c0⟩:=HC.o j k hjk;subst hpv;have e0:=aj hst.bel c0
    have hstep:sc S f m ((S r).take (j+1))=if sc S f m ((S r).take j) k=true then sc S f m ((S r).take j) else fol S f (upd (sc S f m ((S r).take j)) k) k:=by
     unfold sc;rw[ft,hjk,Option.toList_some,List.foldl_append];rfl
    have k2:=ak 0 hst.b2;have k3:=ak 0 hst.b3;have km:=(aV _ _ k _ _ _ hst.marks).trans (mA hkn);have kz:=bl _ _ k _ _ hst.marks;have hk0:(0:Int)<=(k:Int):=(by omega);have hkI:(k:Int)<(n:Int):=(by omega);have hle:=wV hup n;generalize hM:sc S f m ((S r).take j)=M at*;cases hMk:M k with
    |true=>
     rw[hMk]at km;rw[ay hMk]at hstep;have HN:P3 (JC w n (.slice (some (ae g o)) n c) S f m r (ag ((j+1:Nat):Int)) wr):=⟨j+1,rfl,by omega,by rw[hstep];exact hup,by rw[hstep];exact hst⟩
     clear hstep hup hst hMk hM HC HL c0 ih;go_wp2_with fail;go_roundw;case rel=>exact HN.o
     case measure=>simp[intOf];omega
    |false=>
     rw[hMk]at km;rw[aw (by rw[hMk];decide)]at hstep;have hu':=yz hMk n hkn;have hst2:=hst.set k;have cI:=ih (upd M k) k _ hst2 hkn (by omega);have k3':=ak 0 hst2.b3;have hup2: ∀q,m q=true->fol S f (upd M k) k q=true:=fun q hq=>(Bv hS.lt f (upd M k) k (by omega)).up q (by simp[upd,hup q hq]);have HN:P3 (∀W,FSt w n (.slice (some (ae g o)) n c) (fol S f (upd M k) k) W->JC w n (.slice (some (ae g o)) n c) S f m r (ag ((j+1:Nat):Int)) W):=fun W hW=>⟨j+1,rfl,by omega,by rw[hstep];exact hup2,by rw[hstep];exact hW⟩
     clear hup hst hMk hM c0 ih hst2 hup2 hstep;go_wp2_with fail;refine cI.mono ?_;rintro e w2 ⟨rfl,hst3⟩;clear cI;go_wp2_with fail;go_roundw;case rel=>exact HN.o _ hst3
     case measure=>simp[intOf];omega
   ·have hlt': ¬(j:Int)<((S r).length:Int):=(by omega)
    have HN:P3 (FSt w n (.slice (some (ae g o)) n c) (fol S (f+1) m r) wr):=by
     have e:(S r).take j=S r:=cj (by omega);rw[e]at hst;show FSt _ _ _ _ _;rw[HX.o];exact hst
    clear hst hup HC HL ih HX;go_wp2_with fail;refine aU (dY rfl _ _ _) rfl ?_;exact⟨rfl,HN.o⟩
def Lb (n:Nat)(m:Nat->Bool)(w:World)(e:Ending)(w':World):Prop:= ∃g,e= .returned (.slice (some (ae g 0)) n n)/\w'.heap[g]? =ah (eX n m) 4/\ao w w'
theorem Bx:(prog.info? 4).map (fun i=>(i.zero,i.size,i.bytes))=some (some (.bool false),1,1):=by kernel_rfl
theorem zl:prog.underlying 84=some (.slice 4):=by kernel_rfl
theorem ve (so:Value)(n:Nat)(S:Nat->List Nat)(r:Nat)(w:World)(hS:sb w so n S)(hn:n<=1000000)(hr:r<n):
  Calls prog 45 #[so,ag (r:Int)] w (Lb n (fol S (n+1) (fun _=>false) r) w):=by
 obtain⟨p,c,rfl,_⟩:=hS.form;have hmk:=run_make_row' (P:=prog) 84 4 (.bool false) 1 zl Bx rfl .i64 .i64 n (by omega) (by omega)
 have hz:unm (fun _=>false) n<=n:=by
  have: ∀n,unm (fun _=>false) n=n:=by
   intro n;induction n with
   |zero=>rfl
   |succ n ih=>simp[unm,ih];omega
  rw[this];omega
 rw[vd]at hmk;have bA:=am w (.cells #[.slice p n c] 33);have bB:=bA.alloc bA.size (.cells (eX n (fun _=>false)) 4);have bC:=bB.alloc bB.size (.cells #[.slice (some (ae (w.heap.size+1) 0)) n n] 84);have bD:=bC.alloc bC.size (.cells #[.nilFunc] 140);have s1:(w.alloc (.cells #[.slice p n c] 33)).heap.size=w.heap.size+1:=by simp
 have s2:((w.alloc (.cells #[.slice p n c] 33)).alloc (.cells (eX n (fun _=>false)) 4)).heap.size=w.heap.size+1+1:=by simp
 have s3:(((w.alloc (.cells #[.slice p n c] 33)).alloc (.cells (eX n (fun _=>false)) 4)).alloc (.cells #[.slice (some (ae (w.heap.size+1) 0)) n n] 84)).heap.size=w.heap.size+1+1+1:=by simp
 have h0:((((w.alloc (.cells #[.slice p n c] 33)).alloc (.cells (eX n (fun _=>false)) 4)).alloc (.cells #[.slice (some (ae (w.heap.size+1) 0)) n n] 84)).alloc (.cells #[.nilFunc] 140)).heap[w.heap.size]? =ah #[.slice p n c] 33:=(dB _ _ _ (by rw[s3];omega)).trans ((dB _ _ _ (by rw[s2];omega)).trans ((dB _ _ _ (by rw[s1];omega)).trans (aC w _)))
 have h1:((((w.alloc (.cells #[.slice p n c] 33)).alloc (.cells (eX n (fun _=>false)) 4)).alloc (.cells #[.slice (some (ae (w.heap.size+1) 0)) n n] 84)).alloc (.cells #[.nilFunc] 140)).heap[w.heap.size+1]? =ah (eX n (fun _=>false)) 4:=by
  refine(dB _ _ _ (by rw[s3];omega)).trans ((dB _ _ _ (by rw[s2];omega)).trans ?_);have:=aC (w.alloc (.cells #[.slice p n c] 33)) (.cells (eX n (fun _=>false)) 4);rw[s1]at this;exact this
 have h2:((((w.alloc (.cells #[.slice p n c] 33)).alloc (.cells (eX n (fun _=>false)) 4)).alloc (.cells #[.slice (some (ae (w.heap.size+1) 0)) n n] 84)).alloc (.cells #[.nilFunc] 140)).heap[w.heap.size+1+1]? =ah #[.slice (some (ae (w.heap.size+1) 0)) n n] 84:=by
  refine(dB _ _ _ (by rw[s3];omega)).trans ?_;have:=aC ((w.alloc (.cells #[.slice p n c] 33)).alloc (.cells (eX n (fun _=>false)) 4)) (.cells #[.slice (some (ae (w.heap.size+1) 0)) n n] 84);rw[s2]at this;exact this
 have h3:((((w.alloc (.cells #[.slice p n c] 33)).alloc (.cells (eX n (fun _=>false)) 4)).alloc (.cells #[.slice (some (ae (w.heap.size+1) 0)) n n] 84)).alloc (.cells #[.nilFunc] 140)).heap[w.heap.size+1+1+1]? =ah #[.nilFunc] 140:=by
  have:=aC (((w.alloc (.cells #[.slice p n c] 33)).alloc (.cells (eX n (fun _=>false)) 4)).alloc (.cells #[.slice (some (ae (w.heap.size+1) 0)) n n] 84)) (.cells #[.nilFunc] 140);rw[s3]at this;exact this
 have z3:=ak 0 h3;have y3:=bl _ _ 0 _ _ h3;generalize hW4:((((w.alloc (.cells #[.slice p n c] 33)).alloc (.cells (eX n (fun _=>false)) 4)).alloc (.cells #[.slice (some (ae (w.heap.size+1) 0)) n n] 84)).alloc (.cells #[.nilFunc] 140))=W4 at*;have ho: ∀q,q≠w.heap.size+1+1+1->(W4.setCell ⟨w.heap.size+1+1+1,0,none⟩ (.func (.func 79) #[] #[ab w.heap.size 0,ab (w.heap.size+1+1) 0,ab (w.heap.size+1+1+1) 0])).heap[q]? =W4.heap[q]? :=fun q hq=>aN W4 ⟨w.heap.size+1+1+1,0,none⟩ q _ hq
 have hst:FSt w n (.slice p n c) (fun _=>false) (W4.setCell ⟨w.heap.size+1+1+1,0,none⟩ (.func (.func 79) #[] #[ab w.heap.size 0,ab (w.heap.size+1+1) 0,ab (w.heap.size+1+1+1) 0])):=
  ⟨bD.setCell (by show w.heap.size<=w.heap.size+1+1+1;omega) _,(ho _ (by omega)).trans h0,(ho _ (by omega)).trans h1,(ho _ (by omega)).trans h2,aX W4 (w.heap.size+1+1+1) 0 _ _ _ h3⟩
 have cF:=xh w (.slice p n c) n S hS (by omega) (n+1) (fun _=>false) r _ hst hr (by omega);have k3:=ak 0 hst.b3;have hmf: ∀(fn:Fn) (first cap:Array Value) (w:World),(Instr.makeFunc fn first cap).run prog w= .ok (.func fn first cap) w:=fun _ _ _ _=>rfl;clear bA bB bC bD s1 s2 s3 hst hz h0 h1 h2 h3 ho;go_enter func45,ntmps45;go_wp2_with fail;refine cF.mono ?_;rintro e w2 ⟨rfl,hst⟩;have k2:=ak 0 hst.b2;have HO:P3 (Lb n (fol S (n+1) (fun _=>false) r) w (.returned (.slice (some (ae (w.heap.size+1) 0)) n n)) w2):=⟨_,rfl,hst.marks,hst.bel⟩
 clear cF hst;go_wp2_with fail;go_ret;exact HO.o
def jv (ns:List Int):List Value:=ns.map (fun n=>ag n)
theorem qh {w:World}{base:Nat}{v:Value}{ns:List Int}(h:w.ownsRow base 3 1 v ns.length (jv ns))(hl:ns.length<9223372036854775808):dQ w v ns:=by
 obtain⟨p,c,hv⟩:=bU h;refine⟨p,c,hv,hl,fun j n hj=> ?_⟩;have hj':j<ns.length:=(aE.1 hj).1;obtain⟨g,cap,hg,hcell⟩:=sZ h (by omega);rw[hv]at hg;injection hg with e1;refine⟨g,0,e1,?_⟩;rw[bK];exact hcell j _ (by unfold jv;rw[bg,hj];rfl)
structure Sps (base:Nat)(W:World)(go gi:Nat)(vs:List Value)(ls:List (List Int)):Prop where
 blk:W.heap[go]? =ah vs.toArray 24
 len:vs.length=ls.length
 rows: ∀(j:Nat) (v:Value) (ns:List Int),vs[j]? =some v->ls[j]? =some ns->W.ownsRow base 3 1 v ns.length (jv ns)
 apart: ∀(j k:Nat) (v v':Value) (b:Nat),j≠k->vs[j]? =some v->vs[k]? =some v'->v.ownBlock=some b->v'.ownBlock≠some b
 other: ∀(j:Nat) (v:Value),vs[j]? =some v->v.ownBlock≠some gi
structure SpS (w:World)(l:List Ru)(n mb gi i:Nat)(ls:List (List Int))(W:World):Prop where
 bel:ao w W
 b1:W.heap[w.heap.size]? =ah #[.map (some mb)] 82
 b5:W.heap[w.heap.size+1+1]? =ah #[.slice (some (ae (w.heap.size+1) 0)) n n] 33
 bi:W.heap[gi]? =ah #[ag (i:Int)] 3
 gib:w.heap.size+1+1<gi
 rows: ∃vs,Sps (w.heap.size+3) W (w.heap.size+1) gi vs ls
theorem SpS.below {w:World}{l:List Ru}{n mb gi i:Nat}{ls:List (List Int)}{W W':World}(h:SpS w l n mb gi i ls W)(hb:ao W W'):SpS w l n mb gi i ls W':=by
 obtain⟨vs,hs⟩:=h.rows;refine⟨au h.bel hb,ai hb h.b1,ai hb h.b5,ai hb h.bi,h.gib,vs,ai hb hs.blk,hs.len,fun j v ns h1 h2=> ?_,hs.apart,hs.other⟩;have ho:=hs.rows j v ns h1 h2;exact bp ho fun b hbb=>hb.block b (ho.lt b hbb).2
def KT (W W':World):Prop:= ∀(q:Nat) (cs:Array Value) (t:TypeId) (fr:Nat×Nat),W.heap[q]? =some (.cells cs t fr)->t≠3->t≠24->W'.heap[q]? =some (.cells cs t fr)
theorem KT.refl (W:World):KT W W:=fun _ _ _ _ h _ _=>h
theorem KT.trans {W W' W'':World}(h:KT W W')(h':KT W' W''):KT W W'':=fun q cs t fr h1 h2 h3=>h' q cs t fr (h q cs t fr h1 h2 h3) h2 h3
theorem KT.below {W W':World}(h:ao W W'):KT W W':=fun q _ _ _ h1 _ _=>(h.block q (cQ.1 h1).1).trans h1
structure SJ (w:World)(l:List Ru)(n mb gi i n3:Nat)(ls0:List (List Int))(vs:List Value)(vi:Value)(r:List Int)(nn:Int)(wk:World)(M:Nat->Bool)(φ:Nat->Value)(W:World):Prop where
 bel:ao w W
 kt:KT wk W
 sz:n3<=W.heap.size
 b1:W.heap[w.heap.size]? =ah #[.map (some mb)] 82
 b5:W.heap[w.heap.size+1+1]? =ah #[.slice (some (ae (w.heap.size+1) 0)) n n] 33
 bi:W.heap[gi]? =ah #[ag (i:Int)] 3
 go0:M 10=false->W.heap[w.heap.size+1]? =ah vs.toArray 24
 row0:M 8=false->W.ownsRow (w.heap.size+3) 3 1 vi r.length (jv r)
 oth: ∀(j:Nat) (v:Value) (ns:List Int),j≠i->vs[j]? =some v->ls0[j]? =some ns->W.ownsRow (w.heap.size+3) 3 1 v ns.length (jv ns)
 one:M 7=true->M 8=false-> ∃g4,φ 29= .slice (some (ae g4 0)) 1 1/\n3<=g4/\W.heap[g4]? =ah #[ag nn] 3
 app:M 8=true->M 10=false->W.ownsRow (w.heap.size+3) 3 1 (φ 30) (r.length+1) (jv r++[ag nn])/\(φ 30).ownBlock≠some gi/\ ∀(j:Nat) (v:Value) (b:Nat),j≠i->vs[j]? =some v->v.ownBlock=some b->(φ 30).ownBlock≠some b
 done:M 10=true->SpS w l n mb gi i (ls0.set i (r++[nn])) W
theorem SJ.below {w:World}{l:List Ru}{n mb gi i n3:Nat}{ls0:List (List Int)}{vs:List Value}{vi:Value}{r:List Int}{nn:Int}{wk:World}{M:Nat->Bool}{φ:Nat->Value}{W W':World}(h:SJ w l n mb gi i n3 ls0 vs vi r nn wk M φ W)(hb:ao W W'):SJ w l n mb gi i n3 ls0 vs vi r nn wk M φ W':=by
 have bk: ∀{k:Nat} {o:Obj},W.heap[k]? =some o->W'.heap[k]? =some o:=fun h=>ai hb h;have ow: ∀{base e size n:Nat} {v:Value} {xs:List Value},W.ownsRow base e size v n xs->W'.ownsRow base e size v n xs:=fun h=>bp h fun b hbb=>hb.block b (h.lt b hbb).2;exact⟨au h.bel hb,h.kt.trans (KT.below hb),a6 h.sz hb.size,bk h.b1,bk h.b5,bk h.bi,fun c=>bk (h.go0 c),fun c=>ow (h.row0 c),fun j v ns h1 h2 h3=>ow (h.oth j v ns h1 h2 h3),fun c c'=>(h.one c c').imp fun _ q=>⟨q.1,q.2.1,bk q.2.2⟩,fun c c'=>⟨ow (h.app c c').1,(h.app c c').2⟩,fun c=>(h.done c).below hb⟩
theorem By:(prog.info? 3).map (fun i=>(i.zero,i.size,i.bytes))=some (some (ag 0),1,8):=by kernel_rfl
theorem zn:prog.underlying 24=some (.slice 3):=by kernel_rfl
def xi (w:World)(l:List Ru)(n mb gi i:Nat)(ls:List (List Int))(wr:World)(e:Ending)(w':World):Prop:=e= .returned (.tuple #[])/\SpS w l n mb gi i ls w'/\KT wr w'
theorem CV (w:World)(l:List Ru)(n mb gi i:Nat)(ls0:List (List Int))(r:List Int)(x:List UInt8)(wr:World)(hM:iT w mb l)(hin:i<n)(_:n<=1000000)(hl0:ls0.length=n)(hr:r.length<=1000000)(h:SpS w l n mb gi i (ls0.set i r) wr):
  Calls prog 77 #[.string ⟨x.toArray⟩,ab w.heap.size 0,ab (w.heap.size+1+1) 0,ab gi 0] wr (xi w l n mb gi i (ls0.set i (addN r (atP5 l x))) wr):=by
 have hMr:=hM.later (h.bel.block _ (gN hM));have hlk:=La hMr x;obtain⟨vs,hs⟩:=h.rows;have hvl:vs.length=n:=by rw[hs.len,jh,hl0]
 obtain⟨vi,hvi⟩: ∃v,vs[i]? =some v:=⟨vs[i]'(by omega),ax _⟩
 have hri:(ls0.set i r)[i]? =some r:=by rw[fg (by omega)]
 have hown:=hs.rows i vi r hvi hri;have hrow:=qh hown (by omega);have k1:=ak 0 h.b1;have k5:=ak 0 h.b5;have ki:=ak 0 h.bi;have kg:wr.cell? (ae (w.heap.size+1) i)=some vi:=(aV _ _ i _ _ _ hs.blk).trans (by simpa using hvi);have hi0:(0:Int)<=(i:Int):=by omega
 have hiI:(i:Int)<(n:Int):=by omega
 have cC:=fun nn=>jo r vi nn wr hrow;obtain⟨pi,ci,hpi⟩:=bU hown;have hbd:=(nP l x).1;have Hs:=aD hs;have Hw:=aD hown;have HD:P3 (¬(0<=atP5 l x)->atP5 l x= -1):=fun h=>by omega
 obtain⟨i0,hi,hz0,hz1,hz2⟩:=iW By;clear hrow hs hown hMr;subst hpi;go_enter func77,ntmps77;go_upto_if 14 with fail;rename_i K1 hK1
 have key: ∀(x6 x7 x10 x11 x12 x13 x14:Value),K1 ⟨#[.string ⟨x.toArray⟩,ab w.heap.size 0,ab (w.heap.size+1+1) 0,ab gi 0,undef,ag (atP5 l x),x6,x7,.map (some mb),.string ⟨x.toArray⟩,x10,x11,x12,x13,x14,undef,undef,undef,undef,undef,undef,undef,undef,undef,undef,undef,undef,undef,undef,undef,undef,undef],[]⟩ wr:=by
  intro x6 x7 x10 x11 x12 x13 x14;refine hK1 _ _ ?_;clear hK1 hlk HD;generalize atP5 l x=nn at*;have c1:=cC nn;clear cC;go_wp2_with fail;refine c1.mono ?_;rintro e w1 ⟨rfl,hb1⟩;clear c1;by_cases hm:nn∈r
  ·have HO:P3 (xi w l n mb gi i (ls0.set i (addN r nn)) wr (.returned (.tuple #[])) w1):=by
    refine⟨rfl,?_,KT.below hb1⟩;unfold addN;rw[ay hm];exact h.below hb1
   rw[a7 hm];clear h Hs Hw;go_wp2_with fail;refine aU (dY rfl _ _ _) rfl ?_;exact HO.o
  ·have hst1:=h.below hb1
   have HA:P3 (addN r nn=r++[nn]):=by
    show _=_;unfold addN;rw[aw hm]
   have hs:=Hs.o;have hown:=Hw.o;have hs1:Sps (w.heap.size+3) w1 (w.heap.size+1) gi vs (ls0.set i r):=⟨ai hb1 hs.blk,hs.len,fun j v ns h1 h2=>bp (hs.rows j v ns h1 h2) fun b hbb=>hb1.block b ((hs.rows j v ns h1 h2).lt b hbb).2,hs.apart,hs.other⟩
   have hown1:=hs1.rows i _ r hvi hri;have hgl:=aF hst1.bi;have hgo:=aF hs1.blk;have hgib:=hst1.gib;rw[bj hm];have HB1:=aD hb1;clear h Hs Hw hs hown k1 k5 ki kg hb1 hm;go_wp2_with fail;have hlo:=hown1.lt;have hoth: ∀(j:Nat) (v:Value) (ns:List Int),j≠i->vs[j]? =some v->ls0[j]? =some ns->w1.ownsRow (w.heap.size+3) 3 1 v ns.length (jv ns):=fun j v ns hj h1 h2=>hs1.rows j v ns h1 (by rw[fH (fun e=>hj e.symm)];exact h2);obtain⟨vi,hvE⟩:=aq (Value.slice pi r.length ci);rw[hvE]at hvi hown1 hlo;refine dt (SJ w l n mb gi i w1.heap.size ls0 vs vi r nn w1) [kn 22 (.slice (some (ae (w.heap.size+1) 0)) n n),kn 23 (ag (i:Int)),kn 24 (.slice (some (ae (w.heap.size+1) 0)) n n),kn 25 (ag (i:Int)),kn 26 (ab (w.heap.size+1) i),kn 27 vi,kn 28 (ag nn),td 29,td 30,kn 31 (ab (w.heap.size+1) i),nk] (fun _=>⟨hst1.bel.drew,fun _ _ _ _ h _ _=>h,aA _,hst1.b1,hst1.b5,hst1.bi,fun _=>hs1.blk,fun _=>bp hown1 fun _ _=>rfl,fun j v ns h1 h2 h3=>bp (hoth j v ns h1 h2 h3) fun _ _=>rfl,(fun h=>by cases h),(fun h=>by cases h),(fun h=>by cases h)⟩) (fun _ _ _ _ hb h=>h.below hb) (by kernel_rfl) (fun M φ W hJ hcl F l hl hF=> ?_) (fun M φ W hM hJ=> ?_)
   ·simp only[kn,td,nk,dN,aQ,aW,Act.put,aB,aI,aH]at hl;subst hl;simp only[dg,Nat.reduceAdd]at hF
    have h10:M 8=false->M 10=false:=fun h8=>by
     cases h:M 10 with
     |false=>rfl
     |true=>rw[hcl 10 _ rfl h ⟨8,.data⟩ (by simp) rfl rfl]at h8;cases h8
    have j5:=ak 0 hJ.b5;have ji:=ak 0 hJ.bi;dsimp only[kn,td,nk,dC,en,dS,Act.put];and_intros;all_goals first|exact trivial|intro hw hn hm K hK
    all_goals try (go_simp;with_reducible exact hK _ _ ⟨rfl,aG _ _⟩)
    ·have kg:W.cell? (ae (w.heap.size+1) i)=some vi:=(aV _ _ i _ _ _ (hJ.go0 (h10 (hn 8 _ rfl (by kernel_rfl))))).trans (by simpa using hvi);go_simp;exact hK _ _ ⟨rfl,aG _ _⟩
    ·have hb:=am W (.cells #[ag nn] 3);have l8:=hn 8 _ rfl (by kernel_rfl);have hJ':=hJ.below hb;go_simp;exact hK _ _ ⟨trivial,hJ'.bel,hJ'.kt,hJ'.sz,hJ'.b1,hJ'.b5,hJ'.bi,fun h=>hJ'.go0 (by simpa using h),fun h=>hJ'.row0 (by simpa using h),hJ'.oth,fun _ _=>⟨_,dI ..,hJ.sz,aC W _⟩,(fun h=>by simp[l8]at h),(fun h=>by simp[h10 l8]at h)⟩
    ·have l10:=h10 hm;obtain⟨g4,s29,hg4,hh4⟩:=hJ.one (hw ⟨7,.data⟩ (by simp) rfl rfl) hm;rw[s29]at hF;have hownW:=hJ.row0 hm;have hsW:=hJ.sz;have hgoW:=hJ.go0 l10;have hJo:=hJ.oth;refine sM _ _ 24 rfl (w.heap.size+3) 3 i0 (ag 0) 1 8 zn hi hz0 hz1 hz2 rfl (by decide) vi r.length (jv r) (by simp[Act.eval,hF]) hownW ⟨g4,0,none⟩ 1 1 [ag nn] (by simp[Act.eval,hF]) rfl ?c1 ?c2 ?c3 ?c4 ?c5 ?_
     case c1=>
      intro k u' hk';match k,hk' with
      |0,hk'=>simp at hk';subst hk';exact(aV _ _ _ _ _ _ hh4).trans rfl
     case c2=>intro u hu;simp at hu;subst hu;rfl
     case c3=>unfold maxLen;omega
     case c4=>omega
     case c5=>omega
     intro v' W' hown' hgrow hblk;have hloW:=hownW.lt;have hne: ∀q,vi.ownBlock≠some q->q<W.heap.size->W'.heap[q]? =W.heap[q]? :=fun q hq hl=>hgrow.block q hl (fun e=>hq e.symm);have hnew: ∀q,w1.heap.size<=q->q<W.heap.size->W'.heap[q]? =W.heap[q]? :=fun q hq hl=>hne q (fun e=>by have:=(hlo q e).2;omega) hl;have hold: ∀q,q<w.heap.size+3->q<W.heap.size->W'.heap[q]? =W.heap[q]? :=fun q hq hl=>hne q (fun e=>by have:=(hloW q e).1;omega) hl
     have hsp8:v'.ownBlock≠some gi/\ ∀(j:Nat) (v:Value) (b:Nat),j≠i->vs[j]? =some v->v.ownBlock=some b->v'.ownBlock≠some b:=by
      refine⟨fun e=> ?_,fun j v b hj h1 h2 e=> ?_⟩
      ·rcases hblk with hb|hb
       ·rw[hb]at e;exact hs1.other i vi hvi e
       ·rw[hb]at e;have:=aK e;omega
      ·rcases hblk with hb|hb
       ·rw[hb]at e;exact hs1.apart i j vi v b (fun e=>hj e.symm) hvi h1 e h2
       ·rw[hb]at e;have e1:=aK e
        obtain⟨ns,hns⟩: ∃ns,ls0[j]? =some ns:=by
         have hj':j<vs.length:=(aE.1 h1).1;exact⟨ls0[j]'(by omega),ax _⟩
        have:=((hJo j v ns hj h1 hns).lt b h2).2;omega
     have hkt:KT W W':=fun q cs t fr h1 h2 h3=>by
      refine(hne q (fun e=> ?_) (cQ.1 h1).1).trans h1;obtain⟨_,ho2⟩:=hownW;rcases ho2 with⟨e2,_⟩|⟨gb,cap,cur,e2,_,hhb,_⟩
      ·rw[e2]at e;cases e
      ·rw[e2]at e;have e3:gb=q:=aK e;subst e3;rw[h1]at hhb;injection hhb with hhb;injection hhb with _ e4;exact h2 e4
     exact hK _ _ ⟨trivial,hJ.bel.grown hgrow (by omega) (fun q hq=>by have:=(hloW q hq).1;omega),hJ.kt.trans hkt,a6 hJ.sz hgrow.size,(hold _ (by omega) (aF hJ.b1)).trans hJ.b1,(hold _ (by omega) (aF hJ.b5)).trans hJ.b5,(hne _ (hs1.other i vi hvi) (aF hJ.bi)).trans hJ.bi,fun _=>(hold _ (by omega) (aF hgoW)).trans hgoW,(fun h=>by simp at h),fun j v ns h1 h2 h3=>bp (hJo j v ns h1 h2 h3) fun b hbb=>hne b (fun e=>hs1.apart i j vi v b (fun e=>h1 e.symm) hvi h2 e hbb) ((hJo j v ns h1 h2 h3).lt b hbb).2,(fun _ h=>by simp at h),fun _ _=>by rw[dI];exact⟨hown',hsp8⟩,(fun h=>by simp[l10]at h)⟩
    ·have l8:=hw ⟨8,.data⟩ (by simp) rfl rfl;obtain⟨hR,hR2,hR3⟩:=hJ.app l8 hm;obtain⟨y,hy⟩:=aq (φ 30);rw[hy]at hR hR2 hR3 hF;have hgoW:=hJ.go0 hm;have kg:W.cell? (ae (w.heap.size+1) i)=some vi:=(aV _ _ i _ _ _ hgoW).trans (by simpa using hvi);have yg:=bl _ _ i _ _ hgoW;have hRlo:=hR.lt;obtain⟨px,cx,hyf⟩:=bU hR;have hst: ∀q,q≠w.heap.size+1->(W.setCell ⟨w.heap.size+1,i,none⟩ y).heap[q]? =W.heap[q]? :=fun q hq=>aN W ⟨w.heap.size+1,i,none⟩ q _ hq;have hgN:=aX W (w.heap.size+1) i _ _ y hgoW;have hbN:ao w (W.setCell ⟨w.heap.size+1,i,none⟩ y):=hJ.bel.setCell (by show w.heap.size<=w.heap.size+1;omega) _;have hJo:=hJ.oth
     have hfin:SpS w l n mb gi i (ls0.set i (r++[nn])) (W.setCell ⟨w.heap.size+1,i,none⟩ y):=by
      refine⟨hbN,(hst _ (by omega)).trans hJ.b1,(hst _ (by omega)).trans hJ.b5,(hst _ (by omega)).trans hJ.bi,hgib,vs.set i y,?_,by simp[hvl,hl0],fun j v ns h1 h2=> ?_,fun j k v v' b hjk h1 h2 h3=> ?_,fun j v h1=> ?_⟩
      ·rw[hgN];simp
      ·by_cases e:j=i
       ·subst e;rw[fg (by omega)]at h1;rw[fg (by omega)]at h2;cases h1;cases h2
        have:W.ownsRow (w.heap.size+3) 3 1 y (r++[nn]).length (jv (r++[nn])):=by
         unfold jv at hR⊢;simpa using hR
        exact bp this fun b hbb=>hst b (by have:=(hRlo b hbb).1;omega)
       ·rw[fH (fun h=>e h.symm)]at h1 h2;have ho':=hJo j v ns e h1 h2;exact bp ho' fun b hbb=>hst b (by have:=(ho'.lt b hbb).1;omega)
      ·by_cases ej:j=i
       ·subst ej;rw[fg (by omega)]at h1;rw[fH hjk]at h2;cases h1;exact fun e=>hR3 k v' b (fun e=>hjk e.symm) h2 e h3
       ·rw[fH (fun h=>ej h.symm)]at h1;by_cases ek:k=i
        ·subst ek;rw[fg (by omega)]at h2;cases h2;exact hR3 j v b ej h1 h3
        ·rw[fH (fun h=>ek h.symm)]at h2;exact hs1.apart j k v v' b hjk h1 h2 h3
      ·by_cases ej:j=i
       ·subst ej;rw[fg (by omega)]at h1;cases h1;exact hR2
       ·rw[fH (fun h=>ej h.symm)]at h1;exact hs1.other j v h1
     have hb1:=hfin.b1;have hb5:=hfin.b5;have hbi:=hfin.bi;have hothN: ∀(j:Nat) (v:Value) (ns:List Int),j≠i->vs[j]? =some v->ls0[j]? =some ns->(W.setCell ⟨w.heap.size+1,i,none⟩ y).ownsRow (w.heap.size+3) 3 1 v ns.length (jv ns):=fun j v ns h1 h2 h3=>bp (hJo j v ns h1 h2 h3) fun b hbb=>hst b (by have:=((hJo j v ns h1 h2 h3).lt b hbb).1;omega);have hszN:w1.heap.size<=(W.setCell ⟨w.heap.size+1,i,none⟩ y).heap.size:=(by simpa using hJ.sz)
     have hktN:KT W (W.setCell ⟨w.heap.size+1,i,none⟩ y):=fun q cs t fr h1 h2 h3=>(hst q (fun e=>by
      subst e;rw[h1]at hgoW;injection hgoW with hgoW;injection hgoW with _ e4;exact h3 e4)).trans h1
     have hfinal: ∀φ',SJ w l n mb gi i w1.heap.size ls0 vs vi r nn w1 (fun k=>decide (10=k)||M k) φ' (W.setCell ⟨w.heap.size+1,i,none⟩ y):=fun _=>⟨hbN,hJ.kt.trans hktN,hszN,hb1,hb5,hbi,(fun h=>by simp at h),(fun h=>by simp[l8]at h),hothN,(fun _ h=>by simp[l8]at h),(fun _ h=>by simp at h),fun _=>hfin⟩
     clear hfin hb1 hb5 hbi hothN hgN hbN hst hR hR2 hR3 hRlo hJo hoth;subst hyf;go_simp;exact hK undef _ ⟨trivial,hfinal _⟩
   ·have hfin:=hJ.done (hM 10 (by decide) rfl);have hktF:=(KT.below HB1.o).trans hJ.kt;simp only[kn,td,nk,dP,aQ,aW,Act.put,aB,aI,aH];clear hM hJ hs1 hown1 hst1 hoth;go_wp2_with fail;refine aU (dY rfl _ _ _) rfl ?_;rw[HA.o];exact⟨rfl,hfin,hktF⟩
 clear hK1 cC Hs Hw h;by_cases hat:0<=atP5 l x
 ·have e1:(if 0<=atP5 l x then atP5 l x else 0)=atP5 l x:=ay hat;have e2:decide (0<=atP5 l x)=true:=a7 hat;simp only[e1,e2];clear hlk e1 e2 hat HD;go_wp2_with fail;exact key _ _ _ _ _ _ _
 ·have he:=HD.o hat;rw[he]at key;have e1:(if 0<=atP5 l x then atP5 l x else 0)=0:=aw hat;have e2:decide (0<=atP5 l x)=false:=bj hat;simp only[e1,e2];clear hlk e1 e2 hat HD he;go_wp2_with fail;exact key _ _ _ _ _ _ _
theorem oM:prog.underlying 52=some (.struct (prog.fieldsOf 52)):=by kernel_rfl
namespace Lx
theorem xj (l:List Ru)(acc:List Int)(xs ys:List (List UInt8)):gM l acc (xs++ys)=gM l (gM l acc xs) ys:=by
 unfold gM;rw[List.foldl_append]
theorem Bz (acc:List Int)(n:Int):(addN acc n).length<=acc.length+1:=by
 unfold addN;split<;>simp
theorem tj (l:List Ru): ∀(xs:List (List UInt8)) (acc:List Int),(gM l acc xs).length<=acc.length+xs.length
 |[],acc=>by simp[gM]
 |y::xs,acc=>by
  have h1:=tj l xs (addN acc (atP5 l y));have h2:=Bz acc (atP5 l y);show(gM l (addN acc (atP5 l y)) xs).length<=_;simp only[bz];omega
theorem zo {ks:List Ex}{j:Nat}{k:Ex}(h:ks[j]? =some k):jn (ks.take (j+1))=jn (ks.take j)++nms k:=by
 unfold jn;rw[ft,h,Option.toList_some,dh,List.flatten_append];simp
theorem JD {ks:List Ex}{j:Nat}{k:Ex}(h:ks[j]? =some k):(jn (ks.take j)).length+(nms k).length<=(jn ks).length:=by
 rw[<-aL,<-zo h];unfold jn;have:ks=ks.take (j+1)++ks.drop (j+1):=(gy _ _).symm;conv=>rhs;rw[this,dh,List.flatten_append,aL]
 omega
theorem zp: ∀(N:Nat) (e:Ex) (deep n:Nat),SizeOf.sizeOf e<=N->(shapeP e deep n).1=0->n+(nms e).length+1<=(shapeP e deep n).2+1/\n+1<=(shapeP e deep n).2
 |0,e,_,_,hN,_=>by cases e;simp at hN
 |N+1,e,deep,n,hN,h=>by
  rw[jB]at h⊢;by_cases c1:600<n+1\/40<deep
  ·rw[ay c1]at h;cases h
  rw[aw c1]at h⊢;by_cases c2:aloneP e≠0
  ·rw[ay c2]at h;exact absurd h c2
  rw[aw c2]at h⊢
  have aux: ∀(ks:List Ex),(∀k∈ks,SizeOf.sizeOf k<=N)-> ∀m:Nat,(gL ks (deep+1) (0,m)).1=0->m+(jn ks).length<=(gL ks (deep+1) (0,m)).2:=by
   intro ks;induction ks with
   |nil=>intro _ m _;simp[jn,pt]
   |cons k ks ih=>
    intro hk m h0;rw[ig,aw (by simp)]at h0⊢
    have hz:(shapeP k (deep+1) m).1=0:=by
     by_cases hz:(shapeP k (deep+1) m).1=0
     ·exact hz
     ·rw[j8 hz]at h0;exact h0
    obtain⟨i1,i2⟩:=zp N k (deep+1) m (hk k bc) hz;obtain⟨m',e'⟩: ∃m',shapeP k (deep+1) m=(0,m'):=⟨_,Prod.ext hz rfl⟩
    rw[e']at h0 i1⊢;have:=ih (fun q hq=>hk q (bn _ hq)) m' h0;have hl:(jn (k::ks)).length=(nms k).length+(jn ks).length:=(by simp[jn]);rw[hl];dsimp only at i1;omega
  have hb:=aux e.kids (fun k hk=>by have:=gK hk;omega) (n+1) h
  have hl:(nms e).length<=1+(jn e.kids).length:=by
   rw[ly,aL];split<;>simp
  omega
end Lx
def yB (w:World)(gi:Nat):Value:= .func (.func 77) #[] #[ab w.heap.size 0,ab (w.heap.size+1+1) 0,ab gi 0]
def PI (w:World)(l:List Ru)(n mb gi i:Nat)(ls0:List (List Int))(r:List Int)(ks:List Ex)(w0:World)(t:Value)(wr:World):Prop:= ∃j:Nat,t=ag (j:Int)/\j<=ks.length/\SpS w l n mb gi i (ls0.set i (gM l r (jn (ks.take j)))) wr/\KT w0 wr
theorem sO (w:World)(l:List Ru)(n mb gi i:Nat)(ls0:List (List Int))(hM:iT w mb l)(hin:i<n)(hn:n<=1000000)(hl0:ls0.length=n)
  (e:Ex) (pe:Option Addr) (ce:Nat) (r:List Int) (wr:World) (h:SpS w l n mb gi i (ls0.set i r) wr) (hr:r.length+(nms e).length<=1000000) (hlk:(e.kids.length:Int)<9223372036854775808)
  (hkk: ∀(j:Nat) (k:Ex),e.kids[j]? =some k-> ∃(g o:Nat) (ps:Option Addr) (cs:Nat),pe=some ⟨g,o,none⟩/\
    w.cell? (ae g (o+j*5))=some (ag k.kind)/\w.cell? (ae g (o+j*5+1))=some (ag k.a)/\w.cell? (ae g (o+j*5+2))=some (ag k.b)/\
    w.cell? (ae g (o+j*5+3))=some (.string ⟨k.name.toArray⟩)/\w.cell? (ae g (o+j*5+4))=some (.slice ps k.kids.length cs)/\
    ∀(q:List Int) (W:World),SpS w l n mb gi i (ls0.set i q) W->q.length+(nms k).length<=1000000->Calls prog 76 #[exV k (.slice ps k.kids.length cs),yB w gi] W (xi w l n mb gi i (ls0.set i (gM l q (nms k))) W)):
  Calls prog 76 #[exV e (.slice pe e.kids.length ce),yB w gi] wr (xi w l n mb gi i (ls0.set i (gM l r (nms e))) wr):=by
 have HK:=aD hkk;have hb0:ao wr (wr.alloc (.cells #[ag e.kind,ag e.a,ag e.b,.string ⟨e.name.toArray⟩,.slice pe e.kids.length ce] 52)):=am _ _;have hx0:=aC wr (.cells #[ag e.kind,ag e.a,ag e.b,.string ⟨e.name.toArray⟩,.slice pe e.kids.length ce] 52);have hA:=h.below hb0;unfold exV;clear hkk h;generalize hwA:wr.alloc (.cells #[ag e.kind,ag e.a,ag e.b,.string ⟨e.name.toArray⟩,.slice pe e.kids.length ce] 52)=wA at*;have z0:=ak 0 hx0;have z3:=ak 3 hx0;have z4:=ak 4 hx0;have hne:=ly e;unfold yB;go_enter func76,ntmps76;go_upto_if 8 with fail;rename_i K1 hK1
 have key: ∀(x8 x9 x10 x11 x12:Value) (q:List Int) (W:World),SpS w l n mb gi i (ls0.set i q) W->KT wr W->q.length+(jn e.kids).length<=1000000->gM l q (jn e.kids)=gM l r (nms e)->W.cell? (ae wr.heap.size 4)=some (.slice pe e.kids.length ce)->
   K1 ⟨#[.agg #[ag e.kind,ag e.a,ag e.b,.string ⟨e.name.toArray⟩,.slice pe e.kids.length ce],.func (.func 77) #[] #[ab w.heap.size 0,ab (w.heap.size+1+1) 0,ab gi 0],ab wr.heap.size 0,undef,undef,undef,ab wr.heap.size 0,ag e.kind,x8,x9,x10,x11,x12,undef,undef,undef,undef,undef,undef,undef,undef,undef,undef,undef],[]⟩ W:=by
  intro x8 x9 x10 x11 x12 q W hW hkt hql hqe hc4;refine hK1 _ _ ?_;have Hqe:=aD hqe;have Hkt:=aD hkt;clear hkt;clear hK1 hA hx0 z0 z3 z4 hb0 hne hqe hwA hr;go_wp2_with fail;clear hc4;go_loopw [5,16] (fun _ t wq=>PI w l n mb gi i ls0 q e.kids wr t wq) (fun _ t _=>e.kids.length-(intOf t).toNat);case atStart=>exact⟨0,rfl,by omega,hW,Hkt.o⟩
  case round=>
   obtain⟨j,rfl,hj,hst,hktj⟩:=hrel;have Hktj:=aD hktj;clear hW hktj Hkt;have hj0:(0:Int)<=(j:Int):=(by omega);by_cases hlt:j<e.kids.length
   ·have hlt':(j:Int)<(e.kids.length:Int):=(by omega);obtain⟨k,hjk⟩: ∃k,e.kids[j]? =some k:=⟨e.kids[j],ax hlt⟩
    obtain⟨g,o,ps,cs,hpe,c0,c1,c2,c3,c4,cK⟩:=HK.o j k hjk;have hsn:=zo hjk;have hnl:=JD hjk;have hsl:=tj l (jn (e.kids.take j)) q;subst hpe;have hbl:=hst.bel;have d0:=aj hbl c0;have d1:=aj hbl c1;have d2:=aj hbl c2;have d3:=aj hbl c3;have d4:=aj hbl c4;have hbA:=am wr (.cells #[ag k.kind,ag k.a,ag k.b,.string ⟨k.name.toArray⟩,.slice ps k.kids.length cs] 52);have hxB:=aC wr (.cells #[ag k.kind,ag k.a,ag k.b,.string ⟨k.name.toArray⟩,.slice ps k.kids.length cs] 52);have cR:=cK _ _ (hst.below hbA) (by omega);rw[<-xj,<-hsn]at cR;unfold exV yB at cR;have HbA:=aD hbA;clear hsn hnl hsl hjk c0 c1 c2 c3 c4 cK hst hbl hbA;generalize hwB:wr.alloc (.cells #[ag k.kind,ag k.a,ag k.b,.string ⟨k.name.toArray⟩,.slice ps k.kids.length cs] 52)=wB at*;go_wp2_with(refine aR rfl 52 _ rfl _ rfl _ _ _ _ hxB oM rfl (by kernel_rfl) ?_)
    refine cR.mono ?_;rintro e' w2 ⟨rfl,hst2,hk2⟩;have Hk2:=aD ((Hktj.o.trans (KT.below HbA.o)).trans hk2);clear cR hxB Hktj HbA hk2;go_wp2_with fail;go_roundw;case rel=>exact⟨j+1,by go_num,by omega,hst2,Hk2.o⟩
    case measure=>simp[intOf];omega
   ·have hlt': ¬(j:Int)<(e.kids.length:Int):=(by omega);have HO:=fun(H:SpS w l n mb gi i (ls0.set i (gM l r (nms e))) wr)=>aD (fE (rfl:Ending.returned (.tuple #[])= .returned (.tuple #[])) (fE H Hktj.o))
    have HO:=HO (by
     rw[<-Hqe.o];have e1:e.kids.take j=e.kids:=cj (by omega);rw[e1]at hst;exact hst)
    clear hst HK Hqe Hktj;go_wp2_with fail;refine aU (dY rfl _ _ _) rfl ?_;exact⟨rfl,HO.o.2⟩
 clear hK1 HK;have Hkey:=aD key;clear key;by_cases hk:e.kind=10
 ·have hk':(e.kind==10)=true:=by rw[hk];rfl
  rw[ay hk]at hne;have hl1:(nms e).length=1+(jn e.kids).length:=(by rw[hne];simp;omega);have cS:=CV w l n mb gi i ls0 r e.name wA hM hin hn hl0 (by omega) hA;have hal:=Bz r (atP5 l e.name)
  have he1:gM l (addN r (atP5 l e.name)) (jn e.kids)=gM l r (nms e):=by
   rw[hne,xj];rfl
  have HL:P3 ((addN r (atP5 l e.name)).length+(jn e.kids).length<=1000000):=by
   show _<=_;omega
  have HE:=aD he1;have Hx:=aD hx0;have Hb0:=aD hb0;clear hk hne hl1 hal he1 hr hx0 hA hM hwA hb0 z0 z4 hlk;generalize addN r (atP5 l e.name)=q at*;go_wp2_with fail;refine cS.mono ?_;rintro e' w2 ⟨rfl,hst2,hk2⟩;have z4':w2.cell? (ae wr.heap.size 4)=some (.slice pe e.kids.length ce):=(aV _ _ 4 _ _ _ (hk2 _ _ _ _ Hx.o (by decide) (by decide))).trans rfl;have Hk2:=aD ((KT.below Hb0.o).trans hk2);clear cS hk2;go_wp2_with fail;exact Hkey.o _ _ _ _ _ q w2 hst2 Hk2.o HL.o HE.o z4'
 ·have hk':(e.kind==10)=false:=bf.2 hk;rw[aw hk,List.nil_append]at hne;have HF:P3 (∀(x8 x9 x10 x11 x12:Value),K1 ⟨#[.agg #[ag e.kind,ag e.a,ag e.b,.string ⟨e.name.toArray⟩,.slice pe e.kids.length ce],.func (.func 77) #[] #[ab w.heap.size 0,ab (w.heap.size+1+1) 0,ab gi 0],ab wr.heap.size 0,undef,undef,undef,ab wr.heap.size 0,ag e.kind,x8,x9,x10,x11,x12,undef,undef,undef,undef,undef,undef,undef,undef,undef,undef,undef],[]⟩ wA):=fun x8 x9 x10 x11 x12=>Hkey.o x8 x9 x10 x11 x12 r wA hA (KT.below hb0) (by rw[hne]at hr;exact hr) (by rw[hne]) z4;clear hk hne Hkey hA hM hr hwA hb0 z0 z3 z4 hx0 hlk;go_wp2_with fail;exact HF.o _ _ _ _ _
theorem tm (w:World)(l:List Ru)(n mb gi i:Nat)(ls0:List (List Int))(hM:iT w mb l)(hin:i<n)(hn:n<=1000000)(hl0:ls0.length=n):
  ∀(d:Nat) (e:Ex) (sl:Value) (r:List Int) (wr:World),fD (fun k=>k<w.heap.size) d w sl e.kids->SpS w l n mb gi i (ls0.set i r) wr->r.length+(nms e).length<=1000000->Calls prog 76 #[exV e sl,yB w gi] wr (xi w l n mb gi i (ls0.set i (gM l r (nms e))) wr)
 |0,e,sl,r,wr,hk,h,hr=>by
  obtain⟨h0,p,c,rfl⟩:=hk;have:=sO w l n mb gi i ls0 hM hin hn hl0 e p c r wr h hr (by rw[h0];decide) (fun j k hj=>by rw[h0]at hj;simp at hj);rw[h0]at this;exact this
 |d+1,e,sl,r,wr,hk,h,hr=>by
  obtain⟨pe,ce,hsl⟩:=hk.form;subst hsl
  have hlk:(e.kids.length:Int)<9223372036854775808:=by
   rcases hk with⟨h0,_⟩|⟨_,_,_,_,_,hl,_⟩
   ·rw[h0];decide
   ·omega
  refine sO w l n mb gi i ls0 hM hin hn hl0 e pe ce r wr h hr hlk fun j k hj=> ?_;rcases hk with⟨h0,_⟩|⟨g,o,c,hB,hs,hl,hkk⟩
  ·rw[h0]at hj;simp at hj
  ·obtain⟨_,sk,c0,c1,c2,c3,c4,q⟩:=hkk j k hj;obtain⟨ps,cs,rfl⟩:=q.form;injection hs with e1;exact⟨g,o,ps,cs,e1,c0,c1,c2,c3,c4,fun q' W hW hq=>tm w l n mb gi i ls0 hM hin hn hl0 d k _ q' W q hW hq⟩
def mJ (w:World)(so:Value)(ls:List (List Int)):Prop:= ∃p c,so= .slice p ls.length c/\ ∀(i:Nat) (ns:List Int),ls[i]? =some ns-> ∃(g o:Nat) (v:Value),p=some ⟨g,o,none⟩/\w.cell? (ae g (o+i))=some v/\dQ w v ns
theorem mJ.below {w w':World}{so:Value}{ls:List (List Int)}(h:mJ w so ls)(hb:ao w w'):mJ w' so ls:=by
 obtain⟨p,c,h1,h2⟩:=h;refine⟨p,c,h1,fun i ns hi=> ?_⟩;obtain⟨g,o,v,e,hc,hr⟩:=h2 i ns hi;exact⟨g,o,v,e,aj hb hc,hr.below hb⟩
def lsJ (l:List Ru)(j:Nat):List (List Int):=(l.take j).map (fz l)++List.replicate (l.length-j) []
theorem DC {l:List Ru}{j:Nat}(hj:j<=l.length):(lsJ l j).length=l.length:=by simp[lsJ];omega
theorem BA (l:List Ru):lsJ l 0=List.replicate l.length []:=by simp[lsJ]
theorem LT (l:List Ru):lsJ l l.length=l.map (fz l):=by simp[lsJ]
theorem JE {l:List Ru}{j:Nat}(hj:j<l.length):(lsJ l j).set j []=lsJ l j:=by
 apply List.ext_getElem?;intro k;by_cases e:j=k
 ·subst e;rw[fg (by rw[DC (by omega)];omega)];have:((l.take j).map (fz l)).length=j:=(by simp;omega);unfold lsJ;rw[dG (by omega),this,iB,fG,ay (by omega)]
 ·rw[fH e]
theorem JF {l:List Ru}{j:Nat}{u:Ru}(hu:l[j]? =some u):(lsJ l j).set j (fz l u)=lsJ l (j+1):=by
 have hj:j<l.length:=(aE.1 hu).1;have h1:((l.take j).map (fz l)).length=j:=by simp;omega
 unfold lsJ;rw[List.set_append_right _ _ (by omega),h1,iB];obtain⟨m,hm⟩: ∃m,l.length-j=m+1:=⟨l.length-j-1,by omega⟩
 rw[hm,List.replicate_succ,aH,ft,hu,Option.toList_some,dh,dm];simp;omega
theorem LU:(prog.info? 24).map (fun i=>(i.zero,i.size,i.bytes))=some (some (af),1,24):=by kernel_rfl
theorem EP:prog.underlying 33=some (.slice 24):=by kernel_rfl
theorem JG (n:Nat):madeCells #[af] n=(List.replicate n (af)).toArray:=by
 apply Array.ext
 ·simp[madeCells]
 ·intro k h1 h2;simp[madeCells,Nat.mod_one]
structure SpH (w:World)(n mb:Nat)(ls:List (List Int))(W:World):Prop where
 bel:ao w W
 b1:W.heap[w.heap.size]? =ah #[.map (some mb)] 82
 b5:W.heap[w.heap.size+1+1]? =ah #[.slice (some (ae (w.heap.size+1) 0)) n n] 33
 rows: ∃vs,Sps (w.heap.size+3) W (w.heap.size+1) w.heap.size vs ls
def PK (w:World)(l:List Ru)(n mb:Nat)(t:Value)(wr:World):Prop:= ∃j:Nat,t=ag (j:Int)/\j<=n/\SpH w n mb (lsJ l j) wr
def Lc (l:List Ru)(w:World)(e:Ending)(w':World):Prop:= ∃so,e= .returned so/\mJ w' so (l.map (fz l))/\ao w w'
theorem SpH.open {w:World}{l:List Ru}{n mb j:Nat}{W:World}{cs:Array Value}(h:SpH w n mb (lsJ l j) W)(hn:l.length=n)(hj:j<n):SpS w l n mb W.heap.size j ((lsJ l j).set j []) ((W.alloc (.cells #[ag (j:Int)] 3)).alloc (.cells cs 54)):=by
 obtain⟨vs,hs⟩:=h.rows;have b1:=am W (.cells #[ag (j:Int)] 3);have b2:=b1.alloc b1.size (.cells cs 54);have hsz:(W.alloc (.cells #[ag (j:Int)] 3)).heap.size=W.heap.size+1:=by simp
 rw[JE (by omega)];refine⟨au h.bel b2,ai b2 h.b1,ai b2 h.b5,?_,aF h.b5,vs,ai b2 hs.blk,hs.len,fun k v ns h1 h2=> ?_,hs.apart,fun k v h1 e=> ?_⟩
 ·exact(dB _ _ _ (by rw[hsz];omega)).trans (aC W _)
 ·have ho:=hs.rows k v ns h1 h2;exact bp ho fun b hb=>b2.block b (ho.lt b hb).2
 ·obtain⟨ns,hns⟩: ∃ns,(lsJ l j)[k]? =some ns:=by
   have hk':k<vs.length:=(aE.1 h1).1;exact⟨(lsJ l j)[k]'(by rw[<-hs.len];exact hk'),ax _⟩
  have:=((hs.rows k v ns h1 hns).lt _ e).2;omega
theorem SpS.shut {w:World}{l:List Ru}{n mb gi i:Nat}{ls:List (List Int)}{W:World}(h:SpS w l n mb gi i ls W):SpH w n mb ls W:=by
 obtain⟨vs,hs⟩:=h.rows;refine⟨h.bel,h.b1,h.b5,vs,hs.blk,hs.len,hs.rows,hs.apart,fun k v h1 e=> ?_⟩
 obtain⟨ns,hns⟩: ∃ns,ls[k]? =some ns:=by
  have hk':k<vs.length:=(aE.1 h1).1;exact⟨ls[k]'(by rw[<-hs.len];exact hk'),ax _⟩
 have:=((hs.rows k v ns h1 hns).lt _ e).1;omega
theorem SpH.o {w:World}{l:List Ru}{n mb:Nat}{W:World}(h:SpH w n mb (lsJ l l.length) W)(hn:l.length=n)(hb: ∀u∈l,(fz l u).length<1000000):mJ W (.slice (some (ae (w.heap.size+1) 0)) n n) (l.map (fz l)):=by
 obtain⟨vs,hs⟩:=h.rows;rw[LT]at hs;refine⟨_,_,by rw[aZ,hn],fun i ns hi=> ?_⟩;have hi':i<(l.map (fz l)).length:=(aE.1 hi).1;obtain⟨v,hv⟩: ∃v,vs[i]? =some v:=⟨vs[i]'(by rw[hs.len];exact hi'),ax _⟩
 have hlen:ns.length<1000000:=by
  rw[bg]at hi;obtain⟨u,hu,e⟩:=eI.1 hi;rw[<-e];exact hb u (aM hu)
 refine⟨w.heap.size+1,0,v,rfl,?_,qh (hs.rows i v ns hv hi) (by omega)⟩;rw[bK];exact(aV _ _ i _ _ _ hs.blk).trans (by simpa using hv)
theorem xk (us:List (Ru×Value))(v:Value)(mb:Nat)(w:World)(h:InR w v us)(hM:iT w mb (us.map (fun p=>p.1)))(h40:us.length<=1000)(hnm: ∀p∈us,(nms p.1.2).length<=1000):
  Calls prog 40 #[v,.map (some mb)] w (Lc (us.map (fun p=>p.1)) w):=by
 obtain⟨l,hl⟩:=aq (us.map (fun p=>p.1));have hll:l.length=us.length:=by rw[<-hl,aZ]
 obtain⟨pv,cv,rfl⟩:=h.form;have HK:=aD h.cells;have HI:P3 (∀p∈us,∃d,fD (fun k=>k<w.heap.size) d w p.2 p.1.2.kids):=fun p hp=>(h.all p hp).2.2;have HN:=aD hnm;have hmk:=run_make_row' (P:=prog) 33 24 (af) 24 EP LU rfl .i64 .i64 us.length (by omega) (by omega);rw[JG]at hmk;rw[hl]at hM⊢;have HL:P3 (us.map (fun p=>p.1)=l):=hl;have HLL:=aD hll;have HM:=aD hM;clear h hnm hl hM;have bA:=am w (.cells #[.map (some mb)] 82);have bB:=bA.alloc bA.size (.cells (List.replicate us.length (af)).toArray 24);have bC:=bB.alloc bB.size (.cells #[.slice (some (ae (w.heap.size+1) 0)) us.length us.length] 33);have s1:(w.alloc (.cells #[.map (some mb)] 82)).heap.size=w.heap.size+1:=by simp
 have s2:((w.alloc (.cells #[.map (some mb)] 82)).alloc (.cells (List.replicate us.length (af)).toArray 24)).heap.size=w.heap.size+1+1:=by simp
 have hst:SpH w us.length mb (lsJ l 0) (((w.alloc (.cells #[.map (some mb)] 82)).alloc (.cells (List.replicate us.length (af)).toArray 24)).alloc (.cells #[.slice (some (ae (w.heap.size+1) 0)) us.length us.length] 33)):=by
  refine⟨bC,?_,?_,List.replicate us.length (af),?_,?_,?_,?_,?_⟩
  ·exact(dB _ _ _ (by rw[s2];omega)).trans ((dB _ _ _ (by rw[s1];omega)).trans (aC w _))
  ·have:=aC ((w.alloc (.cells #[.map (some mb)] 82)).alloc (.cells (List.replicate us.length (af)).toArray 24)) (.cells #[.slice (some (ae (w.heap.size+1) 0)) us.length us.length] 33);rw[s2]at this;exact this
  ·refine(dB _ _ _ (by rw[s2];omega)).trans ?_;have:=aC (w.alloc (.cells #[.map (some mb)] 82)) (.cells (List.replicate us.length (af)).toArray 24);rw[s1]at this;exact this
  ·rw[BA];simp[hll]
  ·intro j v ns h1 h2;rw[BA,fG]at h2;rw[fG]at h1;split at h1
   ·split at h2
    ·cases h1;cases h2;exact bV _ _ _ _
    ·cases h2
   ·cases h1
  ·intro j k v v' b _ h1 _ h3;rw[fG]at h1;split at h1
   ·cases h1;cases h3
   ·cases h1
  ·intro j v h1 e;rw[fG]at h1;split at h1
   ·cases h1;cases e
   ·cases h1
 clear bA bB bC s1 s2 hll;have hmf: ∀(fn:Fn) (first cap:Array Value) (w:World),(Instr.makeFunc fn first cap).run prog w= .ok (.func fn first cap) w:=fun _ _ _ _=>rfl;go_enter func40,ntmps40;go_wp2_with fail;go_loopw [6,7,13] (fun _ _ t wq=>PK w l us.length mb t wq) (fun _ _ t _=>us.length-(intOf t).toNat);case atStart=>exact⟨0,rfl,by omega,hst⟩
 case round=>
  obtain⟨j,rfl,hj,hsj⟩:=hrel;clear hst hmk;have hj0:(0:Int)<=(j:Int):=(by omega);by_cases hlt:j<us.length
  ·have hlt':(j:Int)<(us.length:Int):=(by omega);obtain⟨⟨u,sk⟩,hjk⟩: ∃p,us[j]? =some p:=⟨us[j],ax hlt⟩
   have hul:l[j]? =some u:=(by rw[<-HL.o,bg,hjk];rfl);obtain⟨g,o,hpe,c0,c1,c2,c3,c4,c5⟩:=HK.o j _ hjk;obtain⟨dk,hkk⟩:=HI.o _ (aM hjk);have hnk:=HN.o _ (aM hjk);dsimp only at c0 c1 c2 c3 c4 c5 hkk hnk;obtain⟨ps,cs,rfl⟩:=hkk.form;subst hpe;have hbl:=hsj.bel;have d0:=aj hbl c0;have d1:=aj hbl c1;have d2:=aj hbl c2;have d3:=aj hbl c3;have d4:=aj hbl c4;have d5:=aj hbl c5;have hop:=hsj.open (cs:= #[.string ⟨u.1.toArray⟩,ag u.2.kind,ag u.2.a,ag u.2.b,.string ⟨u.2.name.toArray⟩,.slice ps u.2.kids.length cs]) HLL.o hlt;have cE:=tm w l us.length mb wr.heap.size j (lsJ l j) HM.o hlt (by omega) ((DC (by rw[HLL.o];omega)).trans HLL.o) dk u.2 _ [] _ hkk hop (by simp;omega);have hnx:(lsJ l j).set j (gM l [] (nms u.2))=lsJ l (j+1):=JF hul;rw[hnx]at cE;have hxR:=aC (wr.alloc (.cells #[ag (j:Int)] 3)) (.cells #[.string ⟨u.1.toArray⟩,ag u.2.kind,ag u.2.a,ag u.2.b,.string ⟨u.2.name.toArray⟩,.slice ps u.2.kids.length cs] 54);rw[show(wr.alloc (.cells #[ag (j:Int)] 3)).heap.size=wr.heap.size+1 by simp]at hxR;unfold exV yB at cE;clear hnx hop hul hjk c0 c1 c2 c3 c4 c5 hkk hnk hbl hsj;generalize hwB:(wr.alloc (.cells #[ag (j:Int)] 3)).alloc (.cells #[.string ⟨u.1.toArray⟩,ag u.2.kind,ag u.2.a,ag u.2.b,.string ⟨u.2.name.toArray⟩,.slice ps u.2.kids.length cs] 54)=wB at*;have r1:=ak 1 hxR;have r2:=ak 2 hxR;have r3:=ak 3 hxR;have r4:=ak 4 hxR;have r5:=ak 5 hxR;go_wp2_with fail;refine cE.mono ?_;rintro e' w2 ⟨rfl,hst2,_⟩;have hs2:=hst2.shut;clear cE hst2 hwB hxR r1 r2 r3 r4 r5;go_wp2_with fail;go_roundw;case rel=>exact⟨j+1,by go_num,by omega,hs2⟩
   case measure=>simp[intOf];omega
  ·have ej:j=us.length:=(by omega);have hlt': ¬(j:Int)<(us.length:Int):=(by omega);have k5:=ak 0 hsj.b5
   have HO:P3 (Lc l w (.returned (.slice (some (ae (w.heap.size+1) 0)) us.length us.length)) wr):=by
    have h2:=HLL.o;refine⟨_,rfl,?_,hsj.bel⟩;rw[ej,<-h2]at hsj
    have:=SpH.o hsj rfl fun x hx=>by
     rw[<-HL.o]at hx;obtain⟨p,hp,rfl⟩:=dw.1 hx;have h3:=HN.o p hp;have h4:=tj l (nms p.1.2) [];unfold fz;simp at h4;omega
    rw[<-h2];exact this
   clear hsj HK HI HN HM ej;go_wp2_with fail;go_ret;exact HO.o
end Go.Proofs.YtjkilacmkbmmbaaGreatDoor
