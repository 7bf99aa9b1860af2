/- Texts of the proof. -/
import Derived.Test.YtlkehieagdkgiaaGreatDoorPe20
set_option maxRecDepth 100000
set_option maxHeartbeats 8000000
namespace Go.Proofs.YtlkehieagdkgiaaGreatDoor
open Go.Proofs.Tryz Go.RowKit Lx Vx Mx Msk
namespace Lx
end Lx
theorem mW {l:List Ru}(c: ∀u∈l,-1∉gF l u): ∀r,∀k∈iT l r,k<l.length:=fun i k a=>by
 unfold iT at a;split at a
 ·rename_i u f;unfold pQ at a;obtain⟨m,b,rfl⟩:=dR.1 a;have g:=(tj (l:=l) (nms u.2) [] List.nodup_nil (fun m b=>by cases b)).2 m b;have d:m≠ -1:=fun e=>c u (aM f) (e▸b);omega
 ·cases a
theorem Ac {p:Nat->Bool}: ∀(k i:Nat),frF p i k=none-> ∀j,i<=j->j<i+k->p j=false
 |0,i,_,j,a,b=>by omega
 |k+1,i,h,j,a,b=>by
  rw[frF]at h;split at h
  ·cases h
  ·rename_i c;by_cases e:j=i
   ·rw[e];simpa using c
   ·exact Ac k (i+1) h j (by omega) (by omega)
theorem ER {l:List Ru}(h:(dC l).1=0):(∀i,i<l.length->lk1 l i=false)/\ ∀i,i<l.length->lk3 l i=false:=by
 unfold dC at h;split at h
 ·rename_i a;exact absurd h a
 ·split at h
  ·cases h
  ·rename_i b;split at h
   ·cases h
   ·split at h
    ·cases h
    ·rename_i c;exact⟨fun i hi=>Ac l.length 0 b i (by omega) (by omega),fun i hi=>Ac l.length 0 c i (by omega) (by omega)⟩
theorem Np {m:Nat->Bool}{n:Nat}{x:Int}:x∈mkL m n↔ ∃k:Nat,x=(k:Int)/\k<n/\m k=true:=by
 unfold mkL;rw[dR];constructor
 ·rintro⟨k,a,rfl⟩;rw[List.mem_filter,jn]at a;exact⟨k,rfl,a.1,a.2⟩
 ·rintro⟨k,rfl,b,c⟩;exact⟨k,by rw[List.mem_filter,jn];exact⟨b,c⟩,rfl⟩
theorem CT {E:Nat->Nat->Bool}{i k:Nat}:Lx.Way E i k↔E i k=true\/ ∃j,E i j=true/\Lx.Way E j k:=by
 constructor
 ·intro h;induction h with
  |single h=>exact .inl h
  |tail _ d c=>
   rcases c with c|⟨j,e,c⟩
   ·exact .inr ⟨_,c,.single d⟩
   ·exact .inr ⟨j,e,.tail c d⟩
 ·rintro(h|⟨j,e,d⟩)
  ·exact .single h
  ·exact(Relation.TransGen.single (r:=fun a b=>E a b=true) e).trans d
theorem mX {l:List Ru}(h:(dC l).1=0){i:Nat}(hi:i<l.length){x:Int}:x∈gK l (i:Int)↔ ∃k:Nat,x=(k:Int)/\k<l.length/\Lx.Way (fun a b=>(iT l a).contains b) i k:=by
 obtain⟨f,d⟩:=lO h
 have e:gK l (i:Int)=mkL (fol (iT l) (l.length+1) (fun _=>false) i) l.length:=by
  unfold gK;rw[ax (by omega)];rfl
 rw[e,Np];constructor
 ·rintro⟨k,a,b,c⟩;exact⟨k,a,b,(zS (mW d) (aD _)).1 c⟩
 ·rintro⟨k,a,b,c⟩;exact⟨k,a,b,(zS (mW d) (aD _)).2 c⟩
theorem Nq {l:List Ru}(h:(dC l).1=0){i:Nat}(hi:i<l.length){x:Int}(g:x∈gK l (i:Int)):0<=x/\x<l.length/\x≠(i:Int):=by
 obtain⟨j,b⟩:=lO h;obtain⟨k,rfl,d,f⟩:=(mX h hi).1 g;refine⟨by omega,by omega,fun e=> ?_⟩;have c:k=i:=by omega
 subst c;have a:=(ER h).2 k d;unfold lk3 at a;rw[(zS (mW b) (aD _)).2 f]at a;cases a
def nev:Nat->Bool:=fun _=>false
def mY (d:Bool)(day:Int)(kind a b:Int)(nm:Nat->Bool)(c:List (Nat->Bool)):Nat->Bool:=
 if kind=2 then fun i=>decide (i<1440)
 else if kind=3 then fun i=>(decide (a<=(i:Int))&&decide ((i:Int)<b))&&decide (i<1440)
 else if kind=4 then(if d=true then c.getD 0 nev else nev)
 else if kind=5 then(if a<=day/\day<=b then c.getD 0 nev else nev)
 else if kind=6 then fun i=>(c.getD 0 nev i||c.getD 1 nev i)&&decide (i<1440)
 else if kind=7 then fun i=>(c.getD 0 nev i&& !c.getD 1 nev i)&&decide (i<1440)
 else if kind=8 then fun i=>(c.getD 0 nev i&&c.getD 1 nev i)&&decide (i<1440)
 else if kind=9 then shf (c.getD 0 nev) a
 else if kind=10 then nm
 else nev
def fE (d:Int->Bool)(day:Int)(c:List UInt8->Nat->Bool)(e:Ex):Nat->Bool:=mY (d e.a) day e.kind e.a e.b (c e.name) (e.kids.attach.map fun k=>fE d day c k.1)
 termination_by SizeOf.sizeOf e
 decreasing_by exact iZ k.2
theorem jG (d:Int->Bool)(day:Int)(c:List UInt8->Nat->Bool)(e:Ex):fE d day c e=mY (d e.a) day e.kind e.a e.b (c e.name) (e.kids.map (fE d day c)):=by
 rw[fE];congr 1;have h:=congrArg (List.map (fE d day c)) (iD e.kids);rw[j7]at h;exact h
theorem oA {f:Int->Bool}{day:Int}{b a:List UInt8->Nat->Bool}: ∀(N:Nat) (e:Ex),SizeOf.sizeOf e<=N->(∀x∈nms e,b x=a x)->fE f day b e=fE f day a e
 |0,e,g,_=>by cases e;simp at g
 |N+1,e,g,h=>by
  rw[jG,jG]
  have d:e.kids.map (fE f day b)=e.kids.map (fE f day a):=List.map_congr_left fun k d=>oA N k (by have:=iZ d;omega) fun x i=>h x (by
   rw[md,da];right;unfold jL;exact List.mem_flatten.2 ⟨nms k,dR.2 ⟨k,d,rfl⟩,i⟩)
  rw[d];by_cases c:e.kind=10
  ·rw[h e.name (by rw[md,aB c];simp)]
  ·unfold mY;simp only[ax c]
def rR (l:List Ru)(a:Int->Bool)(day:Int):Nat->Nat->Nat->Bool
 |0,_=>nev
 |f+1,i=>match l[i]? with
  |some u=>fE a day (fun x=>rR l a day f (atP5 l x).toNat) u.2
  |none=>nev
def muR (l:List Ru)(i:Nat):Nat:=(gK l (i:Int)).length
theorem IX (m:Nat->Bool)(n:Nat):(mkL m n).Nodup:=by
 unfold mkL;have h:((List.range n).filter m).Nodup:=List.nodup_range.filter m;rw[List.nodup_iff_pairwise_ne,List.pairwise_map];exact(List.nodup_iff_pairwise_ne.1 h).imp fun a e=>a (by omega)
theorem Gm (l:List Ru)(r:Int):(gK l r).Nodup:=by
 unfold gK;split
 ·exact List.nodup_nil
 ·exact IX _ _
theorem IY: ∀(l m:List Int),l.Nodup->(∀x∈l,x∈m)->l.length<=m.length
 |[],_,_,_=>dF _
 |x::l,m,a,d=>by
  have c:=List.nodup_cons.1 a
  have i:=IY l (m.erase x) c.2 fun y g=>by
   have b:y≠x:=fun e=>by
    subst e;exact c.1 g
   exact(List.mem_erase_of_ne b).2 (d y (bL _ g))
  have f:=d x bq;rw[List.length_erase_of_mem f]at i;have:=List.length_pos_of_mem f;simp only[bV];omega
theorem sU {l:List Ru}(h:(dC l).1=0){i j:Nat}(hi:i<l.length)(g:j∈iT l i):muR l j<muR l i:=by
 obtain⟨_,d⟩:=lO h;have a:=mW d i j g;have f:(iT l i).contains j=true:=by simpa using g
 have b: ∀x∈(j:Int)::gK l (j:Int),x∈gK l (i:Int):=fun x e=>by
  rcases bO.1 e with rfl|e
  ·exact(mX h hi).2 ⟨j,rfl,a,CT.2 (.inl f)⟩
  ·obtain⟨k,rfl,m,o⟩:=(mX h a).1 e;exact(mX h hi).2 ⟨k,rfl,m,CT.2 (.inr ⟨j,f,o⟩)⟩
 have c:((j:Int)::gK l (j:Int)).Nodup:=List.nodup_cons.2 ⟨fun n=>(Nq h a n).2.2 rfl,Gm l _⟩;have:=IY _ _ c b;simp only[bV]at this;unfold muR;omega
theorem oB {l:List Ru}(_:(dC l).1=0){i:Nat}{u:Ru}(a:l[i]? =some u){x:List UInt8}(b:x∈nms u.2):(atP5 l x).toNat∈iT l i:=by
 rw[re a];unfold pQ gF;exact dR.2 ⟨atP5 l x,(qt _ _).2 (.inr ⟨x,b,rfl⟩),rfl⟩
theorem yS {l:List Ru}{j:Int->Bool}{day:Int}(h:(dC l).1=0): ∀(f c i:Nat),i<l.length->muR l i<f->muR l i<c->rR l j day f i=rR l j day c i
 |0,_,_,_,a,_=>by omega
 |_+1,0,_,_,_,b=>by omega
 |f+1,c+1,i,hi,a,b=>by
  obtain⟨u,g⟩: ∃u,l[i]? =some u:=⟨l[i],ay hi⟩
  obtain⟨_,d⟩:=lO h;rw[rR,rR,g];dsimp only;refine oA _ u.2 (aD _) fun x m=> ?_;have e:=oB h g m;have k:=sU h hi e;exact yS h f c _ (mW d i _ e) (by omega) (by omega)
theorem A4 (l:List Ru)(r:Int):(gK l r).length<=l.length:=by
 unfold gK;split
 ·exact dF _
 ·exact EF _ _
def gX (l:List Ru)(a:Int->Bool)(day:Int)(i:Nat):Nat->Bool:=rR l a day (l.length+1) i
theorem ph {l:List Ru}{a:Int->Bool}{day:Int}(h:(dC l).1=0){i:Nat}{u:Ru}(d:l[i]? =some u):gX l a day i=fE a day (fun x=>gX l a day (atP5 l x).toNat) u.2:=by
 have hi:i<l.length:=(aF.1 d).1;obtain⟨_,c⟩:=lO h;have b: ∀j,muR l j<=l.length:=fun j=>A4 l (j:Int)
 have e:gX l a day i=fE a day (fun x=>rR l a day l.length (atP5 l x).toNat) u.2:=by
  unfold gX;rw[rR,d]
 rw[e];refine oA _ u.2 (aD _) fun x k=> ?_;have f:=oB h d k;have g:=sU h hi f;have:=b i;have:=b (atP5 l x).toNat;exact yS h _ _ _ (mW c i _ f) (by omega) (by omega)
theorem O4 (n:Int)(w:World)(a:0<=n)(b:n<146097):Calls prog 144 #[ag n] w fun e w'=>e= .returned (.bool true)/\w'=w:=by
 go_enter func144,ntmps144;go_wp2;go_ret;exact⟨rfl,rfl⟩
def wkd (n:Int):Int:=(n+5).tmod 7
theorem O5 (n:Int)(a:0<=n):wkd n=(n+5)%7:=by
 unfold wkd;rw[Int.tmod_eq_emod_of_nonneg (by omega)]
theorem IZ (n:Int)(a:0<=n):0<=wkd n/\wkd n<7:=by
 rw[O5 n a];omega
theorem Qe (n:Int)(w:World)(a:0<=n)(b:n<146097):Calls prog 117 #[ag n] w fun e w'=>e= .returned (ag (wkd n))/\w'=w:=by
 have c1:=O4 n w a b;have c:=IZ n a;have d:(n+5).tmod 7=wkd n:=rfl;go_enter func117,ntmps117;go_wp2_with fail;refine c1.mono ?_;rintro e w' ⟨rfl,rfl⟩;clear c1;go_wp2_with fail;go_ret;exact⟨rfl,rfl⟩
structure vF (w:World)(g:Nat)(n:Int)(lv:Value)(mb:Nat)(kv mv':Value):Prop where
 blk:w.heap[g]? =ah #[ag n,lv,.map (some mb),kv,mv'] 80
def wkB (n a:Int):Bool:=bits BinOp.and IntKind.i64 (a/2^(wkd n).toNat) 1==1
theorem L4 (g:Nat)(n:Int)(lv:Value)(mb:Nat)(kv f:Value)(e:Ex)(j:Option Addr)(i:Nat)(w:World)(h:vF w g n lv mb kv f)(a:0<=n)(b:n<146097)(l:e.kind=4):
  Calls prog 80 #[ab g 0,.agg #[ag e.kind,ag e.a,ag e.b,.string ⟨e.name.toArray⟩,.slice j e.kids.length i]] w fun r w'=>r= .returned (.bool (wkB n e.a))/\aq w w':=by
 have k0:=ak 0 h.blk;have c:=am w (.cells #[ag e.kind,ag e.a,ag e.b,.string ⟨e.name.toArray⟩,.slice j e.kids.length i] 84);have d:=aj c k0;have m:=IZ n a;have k:=fun W=>Qe n W a b;rw[l]at c d⊢;go_enter func80,ntmps80;go_wp2_with fail;go_quiet ((go_at_call 117;exact fF (k _)));go_wp2_with fail;go_ret;exact⟨rfl,du c nq⟩
theorem L5 (g:Nat)(n:Int)(lv:Value)(mb:Nat)(kv k:Value)(e:Ex)(m:Option Addr)(l:Nat)(w:World)(h:vF w g n lv mb kv k)(p:e.kind=5):
  Calls prog 80 #[ab g 0,.agg #[ag e.kind,ag e.a,ag e.b,.string ⟨e.name.toArray⟩,.slice m e.kids.length l]] w fun r w'=>r= .returned (.bool (decide (e.a<=n)&&decide (n<=e.b)))/\aq w w':=by
 have k0:=ak 0 h.blk;have c:=am w (.cells #[ag e.kind,ag e.a,ag e.b,.string ⟨e.name.toArray⟩,.slice m e.kids.length l] 84);have j:=aj c k0;rw[p]at c j⊢;by_cases d:e.a<=n
 ·by_cases f:n<=e.b
  ·rw[bh d,bh f];go_enter func80,ntmps80;go_wp2_with fail;go_quiet (fail);go_wp2_with fail;go_ret;exact⟨rfl,du c nq⟩
  ·rw[bh d,bn f];have i:decide (n<=e.b)=false:=bn f;go_enter func80,ntmps80;go_wp2_with fail;go_quiet (fail);go_wp2_with fail;go_ret
   first
    |exact⟨rfl,du c nq⟩
    |exact⟨congrArg (fun x=>Ending.returned (.bool x)) i,du c nq⟩
 ·rw[bn d];have o:decide (e.a<=n)=false:=bn d;go_enter func80,ntmps80;go_wp2_with fail;go_quiet (fail);go_wp2_with fail;go_ret;exact⟨rfl,du c nq⟩
section
theorem fI (b:Nat): ∀(a:List Value) (o:Nat) (w:World) (q:Nat),q≠b->(w.setCells b o a).heap[q]? =w.heap[q]?
 |[],_,_,_,_=>rfl
 |v::a,o,w,q,h=>by
  rw[World.setCells,fI b a (o+1) _ q h];exact aO w ⟨b,o,none⟩ q v h
theorem rS {w:World}(b:Nat)(c:w.heap.size<=b): ∀(a:List Value) (o:Nat) (W:World),aq w W->aq w (W.setCells b o a)
 |[],_,_,h=>h
 |v::a,o,W,h=>by
  rw[World.setCells];exact rS b c a (o+1) _ (h.setCell c v)
theorem D0 {W W':World}{b o:Nat}{a:List Value}(h:W.rangeAt b o a)(d:aq W W'):W'.rangeAt b o a:=fun j v c=>(d.cell (cZ (h j v c))).trans (h j v c)
structure MSt (w:World)(n g gk gm mb:Nat)(day:Int)(lv:Value)(l:List Ru)(K:Nat->Bool)(M:Nat->Nat->Bool)(W:World):Prop where
 bel:aq w W
 blk:W.heap[g]? =ah #[ag day,lv,.map (some mb),.slice (some (ae gk 0)) n n,.slice (some (ae gm 0)) n n] 80
 known:W.heap[gk]? =ah (fN n K) 4
 meant: ∀i,i<n->W.rangeAt gm (i*23) (mv (M i)).toList
 held: ∃cs,W.heap[gm]? =ah cs 55
 nums:jr W mb l
 lo:w.heap.size<=g/\w.heap.size<=gk/\w.heap.size<=gm
 ne:g≠gk/\g≠gm/\gk≠gm/\mb≠gk/\mb≠gm
variable {w W W':World} {n g gk gm mb:Nat} {day:Int} {lv:Value} {l:List Ru} {K:Nat->Bool} {M:Nat->Nat->Bool}
theorem MSt.later (h:MSt w n g gk gm mb day lv l K M W)(a:aq W W'):MSt w n g gk gm mb day lv l K M W':=
 ⟨aw h.bel a,ai a h.blk,ai a h.known,fun i hi=>D0 (h.meant i hi) a,by
   obtain⟨b,c⟩:=h.held;exact⟨b,ai a c⟩,h.nums.later (a.block _ (ik h.nums)),h.lo,h.ne⟩
theorem MSt.mark (h:MSt w n g gk gm mb day lv l K M W)(i:Nat):MSt w n g gk gm mb day lv l (upd K i) M (W.setCell ⟨gk,i,none⟩ (.bool true)):=by
 obtain⟨p,s,b,r,t⟩:=h.ne;have a: ∀q,q≠gk->(W.setCell ⟨gk,i,none⟩ (.bool true)).heap[q]? =W.heap[q]? :=fun q m=>aO W ⟨gk,i,none⟩ q _ m;refine⟨h.bel.setCell h.lo.2.1 _,(a _ p).trans h.blk,?_,fun j f=> ?_,?_,h.nums.later (a _ r),h.lo,h.ne⟩
 ·rw[<-yv];exact aY W gk i _ _ _ h.known
 ·intro k v o;rw[<-h.meant j f k v o];exact World.cell?_setCell_other _ _ _ _ (fun e=>b (congrArg Addr.block e))
 ·obtain⟨c,d⟩:=h.held;exact⟨c,(a _ (fun e=>b e.symm)).trans d⟩
theorem oO (b:Nat){t:TypeId}: ∀(c:List Value) (o:Nat) (W:World),(∃a,W.heap[b]? =ah a t)-> ∃a,(W.setCells b o c).heap[b]? =ah a t
 |[],_,_,h=>h
 |v::c,o,W,h=>by
  rw[World.setCells];obtain⟨a,d⟩:=h;exact oO b c (o+1) _ ⟨_,aY W b o a t v d⟩
def tE (M:Nat->Nat->Bool)(i:Nat)(f:Nat->Bool):Nat->Nat->Bool:=fun j=>if j=i then f else M j
theorem MSt.there (h:MSt w n g gk gm mb day lv l K M W){i:Nat}(hi:i<n):W.there gm (i*23) 23:=fun j b=>by
 obtain⟨c,a⟩:=h.held;refine⟨(h.meant i hi).isSome j (by rw[df,di];exact b),bo _ _ _ _ _ a⟩
theorem MSt.put (h:MSt w n g gk gm mb day lv l K M W){i:Nat}(hi:i<n)(f:Nat->Bool):MSt w n g gk gm mb day lv l K (tE M i f) (W.setCells gm (i*23) (mv f).toList):=by
 obtain⟨o,d,k,p,m⟩:=h.ne;have a: ∀q,q≠gm->(W.setCells gm (i*23) (mv f).toList).heap[q]? =W.heap[q]? :=fun q c=>fI gm _ _ W q c;refine⟨rS gm h.lo.2.2 _ _ _ h.bel,(a _ d).trans h.blk,(a _ k).trans h.known,fun j b=> ?_,oO gm _ _ W h.held,h.nums.later (a _ m),h.lo,h.ne⟩;by_cases e:j=i
 ·subst e;rw[tE,aB rfl];exact World.rangeAt_setCells_same W gm _ _ (by rw[df,di];exact h.there b)
 ·rw[tE,ax e];refine World.rangeAt_setCells_apart (h.meant j b) gm _ _ (.inr ?_);rw[df,df,di,di];omega
end
section
variable {w W W':World} {n g gk gm mb:Nat} {day:Int} {lv:Value} {l:List Ru} {K:Nat->Bool} {M:Nat->Nat->Bool}
theorem O6:prog.underlying 55=some (.array 23 53):=by kernel_rfl
theorem Nr (f:Nat->Bool):(prog.info? 55).map (fun i=>i.size)=some (mv f).toList.length:=by
 rw[df];exact bl f
theorem ru {W:World}{d:Array Oper}{c:List Oper}{op:Oper}{a:Act}{Q:Exit->Act->World->Prop}(e:op.guard=none)(x:Operand)(i:op.op= .load 55 x)(b o:Nat)(j:a.eval x=ab b o)(f:Nat->Bool)(g:W.rangeAt b o (mv f).toList)
  (h:wpList prog d Q c (a.put op.dst (.agg (mv f))) W):wpList prog d Q (op::c) a W:=
 wpList_load_mid e 55 x i b o j (mv f).toList _ g O6 rfl (Nr f) (by rw[Array.toArray_toList];exact h)
theorem Gn (h:MSt w n g gk gm mb day lv l K M W){i:Nat}(hi:i<n)(r:n<=40)(c:K i=true):
  Calls prog 22 #[ab g 0,ag (i:Int)] W fun e w'=>e= .returned (.agg (mv (M i)))/\aq W w':=by
 have s:=eR;have b:=am W (.cells (mv fun _=>false) 55);have f:=aG W (.cells (mv fun _=>false) 55);have a:=h.later b;generalize p:W.alloc (.cells (mv fun _=>false) 55)=q at*;have t:=ak 3 a.blk;have u:=ak 4 a.blk;have ki:=(aZ _ _ i _ _ _ a.known).trans (nz hi);rw[c]at ki;have k:(0:Int)<=(i:Int):=by omega
 have m:(i:Int)<(n:Int):=by omega
 have d:(n:Int)<=40:=by omega
 have j:=aE (a.meant i hi);clear h c a;go_enter func22,ntmps22
 go_wp2_with(first
  |(refine ru rfl _ rfl gm (i*23) rfl (M i) j.o ?_)
  |(refine az rfl 55 _ _ rfl _ _ rfl rfl _ _ f (bl _) (by simp[di]) (dW _) ?_))
 refine aX (v:= .agg (mv (M i))) ?_ rfl ⟨rfl,?_⟩
 ·exact bf rfl _ _ W.heap.size _ _ _ _ rfl (aL _ _ _ _ _ _ f) dm rfl (bl _)
 ·exact below_setRow b (aD _) _
end
section
variable {w W W':World} {n g gk gm mb:Nat} {day:Int} {lv:Value} {l:List Ru} {K:Nat->Bool} {M:Nat->Nat->Bool}
theorem MSt.keep (h:MSt w n g gk gm mb day lv l K M W)(c:aq w W')(a: ∀q,q=g\/q=gk\/q=gm\/q=mb->W'.heap[q]? =W.heap[q]?):MSt w n g gk gm mb day lv l K M W':=by
 refine⟨c,(a _ (by simp)).trans h.blk,(a _ (by simp)).trans h.known,fun i hi j v e=> ?_,?_,h.nums.later (a _ (by simp)),h.lo,h.ne⟩
 ·exact(et (a _ (by simp))).trans (h.meant i hi j v e)
 ·obtain⟨b,d⟩:=h.held;exact⟨b,(a _ (by simp)).trans d⟩
structure MD where
 w:World
 n:Nat
 g:Nat
 gk:Nat
 gm:Nat
 mb:Nat
 day:Int
 lv:Value
 l:List Ru
 V:Nat->Nat->Bool
def MD.st (D:MD)(K:Nat->Bool)(M:Nat->Nat->Bool)(W:World):Prop:=MSt D.w D.n D.g D.gk D.gm D.mb D.day D.lv D.l K M W
def MI (D:MD)(K:Nat->Bool)(W:World):Prop:= ∃M,D.st K M W/\ ∀i,i<D.n->K i=true->M i=D.V i
def Kp (D:MD)(W W':World):Prop:=W.heap.size<=W'.heap.size/\ ∀q,q<W.heap.size->q≠D.gk->q≠D.gm->W'.heap[q]? =W.heap[q]?
def MQ (D:MD)(P:(Nat->Bool)->Prop)(W W':World):Prop:=(∃K,MI D K W'/\P K)/\Kp D W W'
def Les (K a:Nat->Bool):Prop:= ∀i,K i=true->a i=true
variable {D:MD} {P:(Nat->Bool)->Prop} {W0:World} {K0 K1:Nat->Bool}
theorem Les.refl (K:Nat->Bool):Les K K:=fun _ h=>h
theorem Kp.refl (D:MD)(W:World):Kp D W W:=⟨aD _,fun _ _ _ _=>rfl⟩
theorem Kp.trans (h:Kp D W0 W)(d:Kp D W W'):Kp D W0 W':=⟨bg h.1 d.1,fun q a b c=>(d.2 q (aU a h.1) b c).trans (h.2 q a b c)⟩
theorem Kp.below (h:aq W W'):Kp D W W':=⟨h.size,fun q a _ _=>h.block q a⟩
theorem MI.later (h:MI D K W)(c:aq W W'):MI D K W':=by
 obtain⟨M,a,b⟩:=h;exact⟨M,MSt.later a c,b⟩
theorem MI.bel (h:MI D K W):Below D.w.heap.size D.w W:=by
 obtain⟨M,a,b⟩:=h;exact MSt.bel a
theorem MI.blk (h:MI D K W):W.heap[D.g]? =ah #[ag D.day,D.lv,.map (some D.mb),.slice (some (ae D.gk 0)) D.n D.n,.slice (some (ae D.gm 0)) D.n D.n] 80:=by
 obtain⟨M,a,b⟩:=h;exact MSt.blk a
theorem MI.nums (h:MI D K W):jr W D.mb D.l:=by
 obtain⟨M,a,b⟩:=h;exact MSt.nums a
theorem MI.lts (h:MI D K W): ∀q,q=D.g\/q=D.gk\/q=D.gm\/q=D.mb->q<W.heap.size:=by
 obtain⟨M,a,d⟩:=h;rintro q (rfl|rfl|rfl|rfl)
 ·exact aI (MSt.blk a)
 ·exact aI (MSt.known a)
 ·obtain⟨c,b⟩:=MSt.held a;exact aI b
 ·exact ik (MSt.nums a)
theorem MQ.bel (h:MQ D P W W'):Below D.w.heap.size D.w W':=by
 obtain⟨⟨K,a,_⟩,_⟩:=h;exact a.bel
theorem MQ.blk (h:MQ D P W W'):W'.heap[D.g]? =ah #[ag D.day,D.lv,.map (some D.mb),.slice (some (ae D.gk 0)) D.n D.n,.slice (some (ae D.gm 0)) D.n D.n] 80:=by
 obtain⟨⟨K,a,_⟩,_⟩:=h;exact a.blk
theorem MQ.nums (h:MQ D P W W'):jr W' D.mb D.l:=by
 obtain⟨⟨K,a,_⟩,_⟩:=h;exact a.nums
theorem MQ.start (h:MI D K W)(a:aq W W'):MQ D (Les K) W W':=⟨⟨K,h.later a,Les.refl K⟩,Kp.below a⟩
theorem MQ.up (h:MQ D (Les K0) W0 W)(j: ∀K,MI D K W->MQ D (Les K) W W'):MQ D (Les K0) W0 W':=by
 obtain⟨⟨K1,b,c⟩,d⟩:=h;obtain⟨⟨a,e,f⟩,g⟩:=j K1 b;exact⟨⟨a,e,fun i hi=>f i (c i hi)⟩,d.trans g⟩
theorem MQ.on (b:Les K0 K1)(c:Kp D W0 W)(h:MQ D (Les K1) W W'):MQ D (Les K0) W0 W':=by
 obtain⟨⟨a,d,e⟩,f⟩:=h;exact⟨⟨a,d,fun i hi=>e i (b i hi)⟩,c.trans f⟩
theorem MQ.onP (c:Les K0 K1)(d:Kp D W0 W)(h:MQ D (fun a=>Les K1 a/\P a) W W'):MQ D (Les K0) W0 W':=by
 obtain⟨⟨b,e,f,_⟩,g⟩:=h;exact⟨⟨b,e,fun i hi=>f i (c i hi)⟩,d.trans g⟩
theorem MQ.low (h:MQ D (Les K0) W0 W)(b:aq W W'):MQ D (Les K0) W0 W':=h.up fun _ a=>MQ.start a b
theorem MQ.drew (h:MQ D (Les K0) W0 W):MQ D (Les K0) W0 W.drew:=h.low (aH _ _).drew
theorem MQ.ret {f:World}(g:MI D K W)(d:aq W f){r:Nat}(p:W.heap.size<=r)(h:MQ D P f W')(l:Array Value):MQ D P W (W'.setRow r l):=by
 obtain⟨⟨k,⟨M,i,m⟩,n⟩,j⟩:=h;have e:=g.lts;have s:=g.bel.size;refine⟨⟨k,⟨M,MSt.keep i (below_setRow (MSt.bel i) (by omega) _) fun q o=>aW _ _ _ _ (by have:=e q o;omega),m⟩,n⟩,?_,fun q a b c=> ?_⟩
 ·have:=d.size;have:=j.1;simp only[World.setRow,Array.size_modify];omega
 ·rw[aW _ _ _ _ (by omega),j.2 q (by have:=d.size;omega) b c];exact d.block q a
theorem MQ.own {a:World}(b:MI D K W)(h:MQ D P a W'){r:Nat}(f:W.heap.size<=r){o:Obj}(c:a.heap[r]? =some o):W'.heap[r]? =some o:=by
 have d:=b.lts D.gk (by simp);have e:=b.lts D.gm (by simp);exact(h.2.2 r (aI c) (by omega) (by omega)).trans c
theorem MQ.mask (h:MQ D (Les K0) W0 W){i:Nat}(hi:i<D.n): ∃K M,D.st K M W/\(∀j,j<D.n->K j=true->M j=D.V j)/\Les K0 K/\W.there D.gm (i*23) 23:=by
 obtain⟨⟨K,⟨M,a,b⟩,c⟩,_⟩:=h;exact⟨K,M,a,b,c,MSt.there a hi⟩
end
theorem sV (b:Nat): ∀(a:List Value) (o:Nat) (w:World),(w.setCells b o a).heap.size=w.heap.size
 |[],_,_=>rfl
 |v::a,o,w=>by
  rw[World.setCells,sV b a (o+1)];simp[World.setCell]
theorem Lf {D:MD}{x:Nat->Bool}{W:World}{us:List (Ru×Value)}{b o X i:Nat}{u:Ru}{N:Option Addr}{A:Nat}(m:InR D.w D.lv us)(hn:D.n<=40)(s:D.lv= .slice (some (ae b o)) D.n X)(k:us.length=D.n)(hu:us[i]? =some (u,.slice N u.2.kids.length A))(h:MI D x W)(C:x i=false)
  (Y: ∀K W,MI D K W->Calls prog 49 #[ab D.g 0,exV u.2 (.slice N u.2.kids.length A)] W fun r P=>r= .returned (.agg (mv (D.V i)))/\MQ D (Les K) W P):
  Calls prog 22 #[ab D.g 0,ag (i:Int)] W fun r P=>r= .returned (.agg (mv (D.V i)))/\MQ D (fun K=>Les x K/\K i=true) W P:=by
 have hi:i<D.n:=by rw[<-k];exact(aF.1 hu).1
 have HV:=aE s
 obtain⟨q1,q2,q3,q4,q5⟩:D.w.cell? (ae b (o+i*6+1))=some (ag u.2.kind)/\D.w.cell? (ae b (o+i*6+1+1))=some (ag u.2.a)/\D.w.cell? (ae b (o+i*6+1+2))=some (ag u.2.b)/\D.w.cell? (ae b (o+i*6+1+3))=some (.string ⟨u.2.name.toArray⟩)/\D.w.cell? (ae b (o+i*6+1+4))=some (.slice N u.2.kids.length A):=by
  rw[s,<-k]at m;obtain⟨g',o',e,_,c1,c2,c3,c4,c5⟩:=m.cells i _ hu;cases e;exact⟨c1,c2,c3,c4,c5⟩
 have hz:=eR;have bA:=am W (.cells (mv fun _=>false) 55);have nA:=aG W (.cells (mv fun _=>false) 55);generalize ai:W.alloc (.cells (mv fun _=>false) 55)=z at*;have R:=h.later bA;have Z:MQ D (Les x) z z:=MQ.start R (aH _ _);have k3:=ak 3 R.blk
 have ki:z.cell? (ae D.gk i)=some (.bool false):=by
  obtain⟨M,h1,_⟩:=R;rw[<-C];exact(aZ _ _ i _ _ _ (MSt.known h1)).trans (nz hi)
 have aw:(0:Int)<=(i:Int):=by omega
 have ay:(i:Int)<(D.n:Int):=by omega
 have av:(D.n:Int)<=40:=by omega
 unfold exV at Y;have HE:=aE Y;clear s m C hu k hn Y;go_enter func22,ntmps22;go_wp2_with fail;clear k3 ki ai R;refine mJ 16 (MQ D (Les x) z) [kn 13 (ab D.g 0),kn 14 (ab D.g 0),kn 15 (ab D.g 4),kn 16 (.slice (some (ae D.gm 0)) D.n D.n),kn 17 (ag (i:Int)),kn 18 (ab D.g 0),kn 19 (ab D.g 0),kn 20 (ab D.g 0),kn 21 (ab D.g 1),kn 22 (.slice (some (ae b o)) D.n X),kn 23 (ag (i:Int)),kn 24 (ab b (o+i*6)),kn 25 (ab b (o+i*6+1)),kn 26 (.agg #[ag u.2.kind,ag u.2.a,ag u.2.b,.string ⟨u.2.name.toArray⟩,.slice N u.2.kids.length A]),dk 27 (.agg (mv (D.V i))),kn 28 (ab D.gm (i*23)),nk] Z.drew (fun _ _ hb h=>h.low hb) (by kernel_rfl) (by kernel_rfl) fun M φ d ad f F l hl S=> ?_;have al:d.cell? (ae D.g 4)=some (.slice (some (ae D.gm 0)) D.n D.n):=ak 4 f.blk;have an:d.cell? (ae D.g 1)=some (.slice (some (ae b o)) D.n X):=(ak 1 f.blk).trans (congrArg some HV.o);have ao:d.cell? (ae b (o+i*6+1))=some (ag u.2.kind):=aj f.bel q1;have ap:d.cell? (ae b (o+i*6+1+1))=some (ag u.2.a):=aj f.bel q2;have aq:d.cell? (ae b (o+i*6+1+2))=some (ag u.2.b):=aj f.bel q3;have ar:d.cell? (ae b (o+i*6+1+3))=some (.string ⟨u.2.name.toArray⟩):=aj f.bel q4;have au:d.cell? (ae b (o+i*6+1+4))=some (.slice N u.2.kids.length A):=aj f.bel q5;simp only[kn,dk,nk,dX,aQ,aT,Act.put,aA,aK,aJ]at hl;subst hl;simp only[dn,Nat.reduceAdd]at S;dsimp only[kn,dk,nk,dy,eJ,dY,Act.put];and_intros;all_goals first|exact trivial|intro hw hn hm K T
 all_goals try (go_simp;with_reducible exact T _ _ ⟨rfl,aH _ _⟩)
 all_goals clear al an ao ap aq ar au
 ·obtain⟨⟨K1,ac,H⟩,E⟩:=id f;go_simp;refine(HE.o K1 d ac).mono ?_;rintro e' P ⟨rfl,af⟩;exact T _ _ ⟨rfl,fun _=>MQ.on H E af,fun c=>by simp[ad]at c⟩
 obtain⟨O,U,J,I,G,L⟩:=f.mask hi;show Oper.wp _ _ _ _ _ _;refine wp_store_mid 55 _ _ rfl D.gm (i*23) (mv (D.V i)) (by simp[Act.eval,S]) (by simp[Act.eval,S]) (by rw[di];exact L) (bl _) (dW _) ?_;have B:D.st O (tE U i (D.V i)) (d.setCells D.gm (i*23) (mv (D.V i)).toList):=MSt.put J hi (D.V i);refine T undef _ ⟨trivial,fun c=>by simp at c,fun _=> ?_⟩;simp only[d8,aQ,aT,Act.put,aA,aK,aJ];clear S hw hn hm;have n3:(d.setCells D.gm (i*23) (mv (D.V i)).toList).heap[W.heap.size]? =ah (mv fun _=>false) 55:=(fI D.gm _ _ d _ (by have:=h.lts D.gm (by simp);omega)).trans (f.own h (aD _) nA)
 have p:Kp D z (d.setCells D.gm (i*23) (mv (D.V i)).toList):=⟨by
  rw[sV]
  exact f.2.1,fun q a b c=>(fI D.gm _ _ d q c).trans (f.2.2 q a b c)⟩
 clear T L;generalize d.setCells D.gm (i*23) (mv (D.V i)).toList=y at*;have Q:D.st (upd O i) (tE U i (D.V i)) (y.setCell ⟨D.gk,i,none⟩ (.bool true)):=MSt.mark B i;have n4:(y.setCell ⟨D.gk,i,none⟩ (.bool true)).heap[W.heap.size]? =ah (mv fun _=>false) 55:=(aO y ⟨D.gk,i,none⟩ _ _ (by show W.heap.size≠D.gk;have:=h.lts D.gk (by simp);omega)).trans n3
 have hQ:MQ D (fun K'=>Les x K'/\K' i=true) z (y.setCell ⟨D.gk,i,none⟩ (.bool true)):=by
  refine⟨⟨upd O i,⟨_,Q,fun j hj aa=> ?_⟩,fun j hj=> ?_,by simp[upd]⟩,?_,fun q a b c=>(aO y ⟨D.gk,i,none⟩ q _ b).trans (p.2 q a b c)⟩
  ·by_cases e:j=i
   ·subst e;simp[tE]
   ·rw[tE,ax e];exact I j hj (by simpa[upd,e] using aa)
  ·have:=G j hj;show(decide (j=i)||O j)=true;rw[this,Bool.or_true]
  ·simpa[World.setCell] using p.1
 have k3:=(aZ _ _ 3 _ _ _ (MSt.blk B)).trans rfl;have ki:=(aZ _ _ i _ _ _ (MSt.known B)).trans (nz hi);have kf:=bo _ _ i _ _ (MSt.known B);have k4:=(aZ _ _ 4 _ _ _ (MSt.blk Q)).trans rfl;have t:=MSt.meant Q i hi;rw[show tE U i (D.V i) i=D.V i by simp[tE]]at t;have HM:=aE t;have HQ:=aE (MQ.ret h bA (aD _) hQ (mv (D.V i)));clear t hQ Q B J I G f p;generalize a0:y.setCell ⟨D.gk,i,none⟩ (.bool true)=W4 at*
 go_wp2_with(first
  |(refine ru rfl _ rfl D.gm (i*23) rfl (D.V i) HM.o ?_)
  |(refine az rfl 55 _ _ rfl _ _ rfl rfl _ _ n4 (bl _) (by simp[di]) (dW _) ?_))
 refine aX (v:= .agg (mv (D.V i))) ?_ rfl ⟨rfl,?_⟩
 ·exact bf rfl _ _ W.heap.size _ _ _ _ rfl (aL _ _ _ _ _ _ n4) dm rfl (bl _)
 ·exact HQ.o
theorem MQ.far {D:MD}{P:(Nat->Bool)->Prop}{b a:World}(h:MQ D P b a){r:Nat}(d:r≠D.gk)(e:r≠D.gm){o:Obj}(c:b.heap[r]? =some o):a.heap[r]? =some o:=(h.2.2 r (aI c) d e).trans c
theorem Ns {D:MD}{p:Nat->Bool}{W:World}{e k:Ex}{f:Nat->Bool}{bd q b o c j:Nat}{G:Option Addr}{B:Nat}(h:MI D p W)(hj:e.kids[j]? =some k)(aa:e.kids.length<9223372036854775808)
  (t:W.heap[bd]? =ah #[ab D.g 0] 118) (u:W.heap[q]? =ah #[ag e.kind,ag e.a,ag e.b,.string ⟨e.name.toArray⟩,.slice (some (ae b o)) e.kids.length c] 84)
  (Z:bd≠D.gk) (d2:bd≠D.gm) (d3:q≠D.gk) (d4:q≠D.gm)
  (q0:D.w.cell? (ae b (o+j*5))=some (ag k.kind)) (q1:D.w.cell? (ae b (o+j*5+1))=some (ag k.a)) (q2:D.w.cell? (ae b (o+j*5+2))=some (ag k.b)) (q3:D.w.cell? (ae b (o+j*5+3))=some (.string ⟨k.name.toArray⟩)) (q4:D.w.cell? (ae b (o+j*5+4))=some (.slice G k.kids.length B))
  (J: ∀K W,MI D K W->Calls prog 49 #[ab D.g 0,exV k (.slice G k.kids.length B)] W fun r z=>r= .returned (.agg (mv f))/\MQ D (Les K) W z):
  Calls prog 79 #[ag (j:Int),ab bd 0,ab q 0] W fun r z=>r= .returned (.agg (mv f))/\MQ D (Les p) W z:=by
 have ad:(j:Int)<(e.kids.length:Int):=by have:=(aF.1 hj).1;omega
 have ac:(0:Int)<=(j:Int):=by omega
 have af:(e.kids.length:Int)<9223372036854775808:=by omega
 have hz:=eR;have A:=am W (.cells (mv fun _=>false) 55);have nA:=aG W (.cells (mv fun _=>false) 55);generalize Q:W.alloc (.cells (mv fun _=>false) 55)=s at*;have hA:=h.later A;have L:MQ D (Les p) s s:=MQ.start hA (aH _ _);have m:=ai A t;have n:=ai A u;have H:=aE (fun(i:World) (d:MQ D (Les p) s i)=>d.far Z d2 m);have I:=aE (fun(i:World) (d:MQ D (Les p) s i)=>d.far d3 d4 n);unfold exV at J;have HE:=aE J;clear J t u m n Z d2 d3 d4 hj hA;go_enter func79,ntmps79;go_wp2_with fail;clear Q;refine mJ 7 (MQ D (Les p) s) [kn 5 (ab D.g 0),kn 6 (ab q 4),kn 7 (.slice (some (ae b o)) e.kids.length c),kn 8 (ag (j:Int)),kn 9 (ab b (o+j*5)),kn 10 (.agg #[ag k.kind,ag k.a,ag k.b,.string ⟨k.name.toArray⟩,.slice G k.kids.length B]),dk 11 (.agg (mv f)),nk] L.drew (fun _ _ hb h=>h.low hb) (by kernel_rfl) (by kernel_rfl) fun M φ i O d F l hl C=> ?_;have R:i.cell? (ae bd 0)=some (ab D.g 0):=(aZ _ _ 0 _ _ _ (H.o i d)).trans rfl;have S:i.cell? (ae q 4)=some (.slice (some (ae b o)) e.kids.length c):=(aZ _ _ 4 _ _ _ (I.o i d)).trans rfl;have T:i.cell? (ae b (o+j*5))=some (ag k.kind):=aj d.bel q0;have U:i.cell? (ae b (o+j*5+1))=some (ag k.a):=aj d.bel q1;have V:i.cell? (ae b (o+j*5+2))=some (ag k.b):=aj d.bel q2;have X:i.cell? (ae b (o+j*5+3))=some (.string ⟨k.name.toArray⟩):=aj d.bel q3;have Y:i.cell? (ae b (o+j*5+4))=some (.slice G k.kids.length B):=aj d.bel q4;simp only[kn,dk,nk,dX,aQ,aT,Act.put,aA,aK,aJ]at hl;subst hl;simp only[dn,Nat.reduceAdd]at C;dsimp only[kn,dk,nk,dy,eJ,dY,Act.put];and_intros;all_goals first|exact trivial|intro hw hn hm K E
 all_goals try (go_simp;with_reducible exact E _ _ ⟨rfl,aH _ _⟩)
 all_goals clear R S T U V X Y
 ·obtain⟨⟨K1,N,y⟩,x⟩:=id d;go_simp;refine(HE.o K1 i N).mono ?_;rintro e' z ⟨rfl,P⟩;exact E _ _ ⟨rfl,fun _=>MQ.on y x P,fun c=>by simp[O]at c⟩
 have n2:=d.own h (aD _) nA;show Oper.wp _ _ _ _ _ _;refine eQ 55 _ _ rfl (W.heap.size) (mv f) (by simp[Act.eval,C]) (by simp[Act.eval,C]) _ _ n2 (bl _) (by simp[di]) (dW _) ?_;refine E undef _ ⟨trivial,fun c=>by simp at c,fun _=> ?_⟩;simp only[d8,aQ,aT,Act.put,aA,aK,aJ];clear C hw hn hm;have HQ:=aE (MQ.ret h A (aD _) d (mv f));have N2:=aE (aL _ _ _ (mv f) _ _ n2);clear E d;go_wp2_with fail;refine aX (v:= .agg (mv f)) ?_ rfl ⟨rfl,?_⟩
 ·exact bf rfl _ _ W.heap.size _ _ _ _ rfl N2.o dm rfl (bl _)
 ·exact HQ.o
section
variable {D:MD} {K0:Nat->Bool} {W:World} {a b:Int} {nm:List UInt8} {pe:Option Addr} {ks:List Ex} {ce:Nat}
def rx (D:MD)(kd a b:Int)(nm:List UInt8)(pe:Option Addr)(ks:List Ex)(ce:Nat)(j:Int)(f:Nat->Bool):Prop:= ∀(bd c:Nat) (K:Nat->Bool) (W:World),MI D K W->W.heap[bd]? =ah #[ab D.g 0] 118->
 W.heap[c]? =ah #[ag kd,ag a,ag b,.string ⟨nm.toArray⟩,.slice pe ks.length ce] 84->bd≠D.gk->bd≠D.gm->c≠D.gk->c≠D.gm->
 Calls prog 79 #[ag j,ab bd 0,ab c 0] W fun r d=>r= .returned (.agg (mv f))/\MQ D (Les K) W d
theorem MQ.kid {e l:World}{kd j:Int}{f:Nat->Bool}{bd i:Nat}(k:MI D K0 W)(p:MQ D (Les K0) e l)(w:rx D kd a b nm pe ks ce j f)(x:e.heap[bd]? =ah #[ab D.g 0] 118)
  (y:e.heap[i]? =ah #[ag kd,ag a,ag b,.string ⟨nm.toArray⟩,.slice pe ks.length ce] 84) (t:W.heap.size<=bd) (u:W.heap.size<=i):
  Calls prog 79 #[ag j,ab bd 0,ab i 0] l fun r q=>r= .returned (.agg (mv f))/\MQ D (Les K0) e q:=by
 have n:=p.own k t x;have o:=p.own k u y;have z:=k.lts D.gk (by simp);have A:=k.lts D.gm (by simp);obtain⟨⟨s,m,d⟩,c⟩:=p;refine(w bd i s l m n o (by omega) (by omega) (by omega) (by omega)).mono ?_;rintro r q ⟨rfl,v⟩;exact⟨rfl,MQ.on d c v⟩
def ExC (D:MD)(K0:Nat->Bool)(W:World)(kd a b:Int)(nm:List UInt8)(pe:Option Addr)(ks:List Ex)(ce:Nat)(f:Nat->Bool):Prop:=Calls prog 49 #[ab D.g 0,.agg #[ag kd,ag a,ag b,.string ⟨nm.toArray⟩,.slice pe ks.length ce]] W fun r c=>r= .returned (.agg (mv f))/\MQ D (Les K0) W c
theorem kI {kd:Int}{f:Nat->Bool}(h:MI D K0 W)(H: ∀c,((W.alloc (.cells #[ab D.g 0] 118)).alloc (.cells #[ag kd,ag a,ag b,.string ⟨nm.toArray⟩,.slice pe ks.length ce] 84)).alloc (.cells (mv fun _=>false) 55)=c->aq W c->c.heap[W.heap.size]? =ah #[ab D.g 0] 118->c.heap[W.heap.size+1]? =ah #[ag kd,ag a,ag b,.string ⟨nm.toArray⟩,.slice pe ks.length ce] 84->c.heap[W.heap.size+1+1]? =ah (mv fun _=>false) 55->c.cell? (ae (W.heap.size+1) 0)=some (ag kd)->MI D K0 c->MQ D (Les K0) c c->Calls prog 49 #[ab D.g 0,.agg #[ag kd,ag a,ag b,.string ⟨nm.toArray⟩,.slice pe ks.length ce]] W fun r d=>r= .returned (.agg (mv f))/\MQ D (Les K0) W d):ExC D K0 W kd a b nm pe ks ce f:=by
 have b3:=((am W (.cells #[ab D.g 0] 118)).alloc (by simp) (.cells #[ag kd,ag a,ag b,.string ⟨nm.toArray⟩,.slice pe ks.length ce] 84)).alloc (by simp only[aV];omega) (.cells (mv fun _=>false) 55);exact H _ rfl b3 (by(repeat (first|refine dt _ _ _ (by simp only[aV];omega) ?_|exact dJ _ _ _ (by first|rfl|simp only[aV])))) (by(repeat (first|refine dt _ _ _ (by simp only[aV];omega) ?_|exact dJ _ _ _ (by first|rfl|simp only[aV])))) (by(repeat (first|refine dt _ _ _ (by simp only[aV];omega) ?_|exact dJ _ _ _ (by first|rfl|simp only[aV])))) ((aZ _ _ 0 _ _ _ (by(repeat (first|refine dt _ _ _ (by simp only[aV];omega) ?_|exact dJ _ _ _ (by first|rfl|simp only[aV]))))).trans rfl) (h.later b3) (MQ.start (h.later b3) (aH _ _))
theorem lM {a b:World}{f z:Nat->Bool}(h:MI D K0 W)(b3:aq W a)(d:MQ D (Les K0) a b)(k:a.heap[W.heap.size+1+1]? =ah (mv z) 55): ∀ ⦃c:Func⦄ ⦃A:Act⦄ ⦃p:Nat⦄,c.results= #[.cell p 55]->A.tmps.getD p undef=ab (W.heap.size+1+1) 0->A.defers=[]->bodyPost prog c (fun r e=>r= .returned (.agg (mv f))/\MQ D (Les K0) W e) .ret A (b.setRow (W.heap.size+1+1) (mv f)):=fun _ _ _ g i j=>
 aX (v:= .agg (mv f)) (bf g _ _ (W.heap.size+1+1) _ _ _ _ i (aL _ _ _ _ _ _ (d.own h (by omega) k)) dm rfl (bl _)) j ⟨rfl,MQ.ret h b3 (by omega) d (mv f)⟩
theorem ES {W:World}{g:Nat}{x y:Int}{t:TypeId}(a:W.heap[g]? =ah #[ag x,ag y] t):Row W (.slice (some (ae g 0)) 1 1) [(x,y)]:=by
 refine .inr ⟨_,0,1,rfl,by simp,fun j b=> ?_⟩;have:j=0:=by simpa using b
 subst this;exact⟨by rw[aZ _ _ _ _ _ _ a];rfl,by rw[aZ _ _ _ _ _ _ a];rfl⟩
theorem O7 {f0 f1:Nat->Bool}(h:MI D K0 W)(c0:rx D 6 a b nm pe ks ce 0 f0)(c1:rx D 6 a b nm pe ks ce 1 f1):ExC D K0 W 6 a b nm pe ks ce (fun i=>(f0 i||f1 i)&&decide (i<1440)):=by
 refine kI h fun t m b3 d e g y w p=> ?_;have x:=eR;go_enter func49,ntmps49;go_wp2_with fail;refine(MQ.kid h p c0 d e (by omega) (by omega)).mono ?_;rintro r u ⟨rfl,q⟩;go_wp2_with fail;refine(MQ.kid h q c1 d e (by omega) (by omega)).mono ?_;rintro r l ⟨rfl,s⟩;go_wp2_with fail;refine(Au f0 f1 l).mono ?_;rintro r v ⟨rfl,c⟩;have j:=s.low c;have n:=j.own h (by omega) g;have k:=aE (lM h b3 j g (f:=(fun i=>(f0 i||f1 i)&&decide (i<1440))));go_wp2_with(refine az rfl 55 _ _ rfl _ _ rfl rfl _ _ n (bl _) (by simp[di]) (dW _) ?_)
 exact k.o rfl rfl rfl
theorem O8 {f0 f1:Nat->Bool}(h:MI D K0 W)(c0:rx D 7 a b nm pe ks ce 0 f0)(c1:rx D 7 a b nm pe ks ce 1 f1):ExC D K0 W 7 a b nm pe ks ce (fun i=>(f0 i&& !f1 i)&&decide (i<1440)):=by
 refine kI h fun t m b3 d e g y w p=> ?_;have x:=eR;go_enter func49,ntmps49;go_wp2_with fail;refine(MQ.kid h p c0 d e (by omega) (by omega)).mono ?_;rintro r u ⟨rfl,q⟩;go_wp2_with fail;refine(MQ.kid h q c1 d e (by omega) (by omega)).mono ?_;rintro r l ⟨rfl,s⟩;go_wp2_with fail;refine(qN f0 f1 l).mono ?_;rintro r v ⟨rfl,c⟩;have j:=s.low c;have n:=j.own h (by omega) g;have k:=aE (lM h b3 j g (f:=(fun i=>(f0 i&& !f1 i)&&decide (i<1440))));go_wp2_with(refine az rfl 55 _ _ rfl _ _ rfl rfl _ _ n (bl _) (by simp[di]) (dW _) ?_)
 exact k.o rfl rfl rfl
theorem O9 {f0 f1:Nat->Bool}(h:MI D K0 W)(c0:rx D 8 a b nm pe ks ce 0 f0)(c1:rx D 8 a b nm pe ks ce 1 f1):ExC D K0 W 8 a b nm pe ks ce (fun i=>(f0 i&&f1 i)&&decide (i<1440)):=by
 refine kI h fun t m b3 d e g y w p=> ?_;have x:=eR;go_enter func49,ntmps49;go_wp2_with fail;refine(MQ.kid h p c0 d e (by omega) (by omega)).mono ?_;rintro r u ⟨rfl,q⟩;go_wp2_with fail;refine(MQ.kid h q c1 d e (by omega) (by omega)).mono ?_;rintro r l ⟨rfl,s⟩;go_wp2_with fail;refine(BP f0 f1 l).mono ?_;rintro r v ⟨rfl,c⟩;have j:=s.low c;have n:=j.own h (by omega) g;have k:=aE (lM h b3 j g (f:=(fun i=>(f0 i&&f1 i)&&decide (i<1440))));go_wp2_with(refine az rfl 55 _ _ rfl _ _ rfl rfl _ _ n (bl _) (by simp[di]) (dW _) ?_)
 exact k.o rfl rfl rfl
theorem Nt {f0:Nat->Bool}(h:MI D K0 W)(q:0<=D.day)(s:D.day<146097)(u:wkB D.day a=true)(c0:rx D 4 a b nm pe ks ce 0 f0):ExC D K0 W 4 a b nm pe ks ce f0:=by
 refine kI h fun e v b3 j k l E t x=> ?_;have B:=eR;have d:vF e D.g D.day D.lv D.mb (.slice (some (ae D.gk 0)) D.n D.n) (.slice (some (ae D.gm 0)) D.n D.n):=⟨t.blk⟩
 have i:=L4 D.g D.day D.lv D.mb _ _ (⟨4,a,b,nm,ks⟩:Ex) pe ce e d q s rfl;rw[u]at i;have C:=ak 0 j;go_enter func49,ntmps49;go_wp2_with(refine aR rfl 84 _ rfl _ rfl _ _ _ _ k pP rfl (by kernel_rfl) ?_)
 refine i.mono ?_;rintro r z ⟨rfl,c⟩;have y:=x.low c;go_wp2_with fail;refine(MQ.kid h y c0 j k (by omega) (by omega)).mono ?_;rintro r A ⟨rfl,m⟩;have w:=m.own h (by omega) l;have p:=aE (lM h b3 m l (f:=f0));go_wp2_with(refine az rfl 55 _ _ rfl _ _ rfl rfl _ _ w (bl _) (by simp[di]) (dW _) ?_)
 exact p.o rfl rfl rfl
theorem Nu (h:MI D K0 W)(m:0<=D.day)(p:D.day<146097)(s:wkB D.day a=false):ExC D K0 W 4 a b nm pe ks ce (fun _=>false):=by
 refine kI h fun e t b3 v w j B q x=> ?_;have z:=eR;have d:vF e D.g D.day D.lv D.mb (.slice (some (ae D.gk 0)) D.n D.n) (.slice (some (ae D.gm 0)) D.n D.n):=⟨q.blk⟩
 have i:=L4 D.g D.day D.lv D.mb _ _ (⟨4,a,b,nm,ks⟩:Ex) pe ce e d m p rfl;rw[s]at i;have A:=ak 0 v;go_enter func49,ntmps49;go_wp2_with(refine aR rfl 84 _ rfl _ rfl _ _ _ _ w pP rfl (by kernel_rfl) ?_)
 refine i.mono ?_;rintro r y ⟨rfl,c⟩;have k:=x.low c;have u:=k.own h (by omega) j;have l:=aE (lM h b3 k j (f:=(fun _=>false)));go_wp2_with(refine az rfl 55 _ _ rfl _ _ rfl rfl _ _ u (bl _) (by simp[di]) (dW _) ?_)
 exact l.o rfl rfl rfl
theorem Nv {f0:Nat->Bool}(h:MI D K0 W)(_:0<=D.day)(_:D.day<146097)(s:(decide (a<=D.day)&&decide (D.day<=b))=true)(c0:rx D 5 a b nm pe ks ce 0 f0):ExC D K0 W 5 a b nm pe ks ce f0:=by
 refine kI h fun e t b3 j k l B q v=> ?_;have z:=eR;have d:vF e D.g D.day D.lv D.mb (.slice (some (ae D.gk 0)) D.n D.n) (.slice (some (ae D.gm 0)) D.n D.n):=⟨q.blk⟩
 have i:=L5 D.g D.day D.lv D.mb _ _ (⟨5,a,b,nm,ks⟩:Ex) pe ce e d rfl;rw[s]at i;have A:=ak 0 j;go_enter func49,ntmps49;go_wp2_with(refine aR rfl 84 _ rfl _ rfl _ _ _ _ k pP rfl (by kernel_rfl) ?_)
 refine i.mono ?_;rintro r x ⟨rfl,c⟩;have w:=v.low c;go_wp2_with fail;refine(MQ.kid h w c0 j k (by omega) (by omega)).mono ?_;rintro r y ⟨rfl,m⟩;have u:=m.own h (by omega) l;have p:=aE (lM h b3 m l (f:=f0));go_wp2_with(refine az rfl 55 _ _ rfl _ _ rfl rfl _ _ u (bl _) (by simp[di]) (dW _) ?_)
 exact p.o rfl rfl rfl
theorem Nw (h:MI D K0 W)(_:0<=D.day)(_:D.day<146097)(p:(decide (a<=D.day)&&decide (D.day<=b))=false):ExC D K0 W 5 a b nm pe ks ce (fun _=>false):=by
 refine kI h fun e q b3 t u j z m v=> ?_;have x:=eR;have d:vF e D.g D.day D.lv D.mb (.slice (some (ae D.gk 0)) D.n D.n) (.slice (some (ae D.gm 0)) D.n D.n):=⟨m.blk⟩
 have i:=L5 D.g D.day D.lv D.mb _ _ (⟨5,a,b,nm,ks⟩:Ex) pe ce e d rfl;rw[p]at i;have y:=ak 0 t;go_enter func49,ntmps49;go_wp2_with(refine aR rfl 84 _ rfl _ rfl _ _ _ _ u pP rfl (by kernel_rfl) ?_)
 refine i.mono ?_;rintro r w ⟨rfl,c⟩;have k:=v.low c;have s:=k.own h (by omega) j;have l:=aE (lM h b3 k j (f:=(fun _=>false)));go_wp2_with(refine az rfl 55 _ _ rfl _ _ rfl rfl _ _ s (bl _) (by simp[di]) (dW _) ?_)
 exact l.o rfl rfl rfl
end
section
variable {D:MD} {K0:Nat->Bool} {W:World} {a b:Int} {nm:List UInt8} {pe:Option Addr} {ks:List Ex} {ce:Nat}
theorem Nx:mv (inl [((0:Int),(1440:Int))])=mv fun i=>decide (i<1440):=jm fun i _=>by
 have:((i:Int)<1440)=(i<1440):=by apply propext;omega
 simp[inl,this]
theorem Lg (a b:Int):mv (inl [(a,b)])=mv fun i=>(decide (a<=(i:Int))&&decide ((i:Int)<b))&&decide (i<1440):=jm fun i _=>by
 simp[inl]
theorem Pa (h:MI D K0 W):ExC D K0 W 1 a b nm pe ks ce (fun _=>false):=by
 refine kI h fun k g b3 n p c q l j=> ?_;have m:=eR;have d:=j;have i:=d.own h (by omega) c;have e:=aE (lM h b3 d c (f:=fun _=>false));go_enter func49,ntmps49;go_wp2_with(refine az rfl 55 _ _ rfl _ _ rfl rfl _ _ i (bl _) (by simp[di]) (dW _) ?_)
 exact e.o rfl rfl rfl
theorem Pb (h:MI D K0 W):ExC D K0 W 2 a b nm pe ks ce (fun i=>decide (i<1440)):=by
 refine kI h fun c n b3 y e g z w t=> ?_;have x:=eR;have A:=ak 1 e;have B:=ak 2 e;have m:=am c (.cells #[ag 0,ag 1440] 57);have q:=aG c (.cells #[ag 0,ag 1440] 57);generalize p:c.alloc (.cells #[ag 0,ag 1440] 57)=l at*;have cF:=um _ _ l (ES q);rw[Nx]at cF;have u:=t.low m;go_enter func49,ntmps49;go_wp2_with fail;refine cF.mono ?_;rintro r v ⟨rfl,d⟩;have j:=u.low d;have s:=j.own h (by omega) g;have k:=aE (lM h b3 j g (f:=(fun i=>decide (i<1440))));go_wp2_with(refine az rfl 55 _ _ rfl _ _ rfl rfl _ _ s (bl _) (by simp[di]) (dW _) ?_)
 exact k.o rfl rfl rfl
theorem Pc (h:MI D K0 W):ExC D K0 W 3 a b nm pe ks ce (fun i=>(decide (a<=(i:Int))&&decide ((i:Int)<b))&&decide (i<1440)):=by
 refine kI h fun c n b3 y e g z w t=> ?_;have x:=eR;have A:=ak 1 e;have B:=ak 2 e;have m:=am c (.cells #[ag a,ag b] 57);have q:=aG c (.cells #[ag a,ag b] 57);generalize p:c.alloc (.cells #[ag a,ag b] 57)=l at*;have cF:=um _ _ l (ES q);rw[Lg a b]at cF;have u:=t.low m;go_enter func49,ntmps49;go_wp2_with fail;refine cF.mono ?_;rintro r v ⟨rfl,d⟩;have j:=u.low d;have s:=j.own h (by omega) g;have k:=aE (lM h b3 j g (f:=(fun i=>(decide (a<=(i:Int))&&decide ((i:Int)<b))&&decide (i<1440))));go_wp2_with(refine az rfl 55 _ _ rfl _ _ rfl rfl _ _ s (bl _) (by simp[di]) (dW _) ?_)
 exact k.o rfl rfl rfl
theorem Pd {f0:Nat->Bool}(h:MI D K0 W)(B: -9223372036854775808<=a)(C:a<=9223372036854775807)(c0:rx D 9 a b nm pe ks ce 0 f0):ExC D K0 W 9 a b nm pe ks ce (shf f0 a):=by
 refine kI h fun u x b3 z p q L E A=> ?_;have J:=eR;have r:=aE c0;go_enter func49,ntmps49;go_wp2_with fail;refine mJ 5 (MQ D (Les K0) u) [kn 54 (.func (.func 79) #[] #[ab W.heap.size 0,ab (W.heap.size+1) 0]),dk 55 (.agg (mv f0)),kn 56 (ab (W.heap.size+1) 1),kn 57 (ag a),dk 58 (.agg (mv (shf f0 a))),nk] A.drew (fun _ _ w h=>h.low w) (by kernel_rfl) (by kernel_rfl) fun M φ m g e F l n j=> ?_;have k:m.cell? (ae (W.heap.size+1) 1)=some (ag a):=(aZ _ _ 1 _ _ _ (e.own h (show W.heap.size<=W.heap.size+1 by omega) p)).trans rfl;simp only[kn,dk,nk,dX,aQ,aT,Act.put,aA,aK,aJ]at n;subst n;simp only[dn,Nat.reduceAdd]at j;dsimp only[kn,dk,nk,dy,eJ,dY,Act.put];and_intros;all_goals first|exact trivial|intro I H G K i
 all_goals try (go_simp;with_reducible exact i _ _ ⟨rfl,aH _ _⟩)
 all_goals clear k
 ·go_simp;refine(MQ.kid h e r.o z p (by omega) (by omega)).mono ?_;rintro v t ⟨rfl,d⟩;exact i _ _ ⟨rfl,fun _=>d,fun c=>by simp[g]at c⟩
 ·go_simp;refine(xV f0 a m (by omega) (by omega)).mono ?_;rintro v t ⟨rfl,d⟩;exact i _ _ ⟨rfl,fun _=>e.low d,fun c=>by simp[g]at c⟩
 have y:=e.own h (show W.heap.size<=W.heap.size+1+1 by omega) q;show Oper.wp _ _ _ _ _ _;refine eQ 55 _ _ rfl (W.heap.size+1+1) (mv (shf f0 a)) (by simp[Act.eval,j]) (by simp[Act.eval,j]) _ _ y (bl _) (by simp[di]) (dW _) ?_;refine i undef _ ⟨trivial,fun c=>by simp at c,fun _=> ?_⟩;simp only[d8,aQ,aT,Act.put,aA,aK,aJ];have s:=aE (lM h b3 e q (f:=(shf f0 a)));go_wp2_with fail;exact s.o rfl rfl rfl
theorem Ny {f0:Nat->Bool}{R:(Nat->Bool)->Prop}(h:MI D K0 W)(I:0<=atP5 D.l nm)(c0: ∀(K:Nat->Bool) (W:World),MI D K W->Calls prog 22 #[ab D.g 0,ag (atP5 D.l nm)] W fun r x=>r= .returned (.agg (mv f0))/\MQ D (fun w=>Les K w/\R w) W x):ExC D K0 W 10 a b nm pe ks ce f0:=by
 refine kI h fun E H b3 L N z X Q O=> ?_;have V:=eR;have A:=aE c0;go_enter func49,ntmps49;go_wp2_with fail;refine mJ 9 (MQ D (Les K0) E) [kn 61 (ab D.g 0),kn 62 (ab D.g 0),kn 63 (ab D.g 0),kn 64 (ab D.g 2),kn 65 (.map (some D.mb)),kn 66 (ab (W.heap.size+1) 3),kn 67 (.string ⟨nm.toArray⟩),kn 68 (ag (atP5 D.l nm)),dk 69 (.agg (mv f0)),nk] O.drew (fun _ _ G h=>h.low G) (by kernel_rfl) (by kernel_rfl) fun M φ j p d F l y k=> ?_;have s:j.cell? (ae W.heap.size 0)=some (ab D.g 0):=(aZ _ _ 0 _ _ _ (d.own h (show W.heap.size<=W.heap.size by omega) L)).trans rfl;have t:j.cell? (ae D.g 2)=some (.map (some D.mb)):=ak 2 d.blk;have u:j.cell? (ae (W.heap.size+1) 3)=some (.string ⟨nm.toArray⟩):=(aZ _ _ 3 _ _ _ (d.own h (show W.heap.size<=W.heap.size+1 by omega) N)).trans rfl;have v:=FO d.nums nm I;simp only[kn,dk,nk,dX,aQ,aT,Act.put,aA,aK,aJ]at y;subst y;simp only[dn,Nat.reduceAdd]at k;dsimp only[kn,dk,nk,dy,eJ,dY,Act.put];and_intros;all_goals first|exact trivial|intro U T S K m
 all_goals try (go_simp;with_reducible exact m _ _ ⟨rfl,aH _ _⟩)
 all_goals clear s t u v
 ·obtain⟨⟨C,n,i⟩,e⟩:=id d;go_simp;refine(A.o C j n).mono ?_;rintro P x ⟨rfl,q⟩;exact m _ _ ⟨rfl,fun _=>MQ.onP i e q,fun c=>by simp[p]at c⟩
 have J:=d.own h (show W.heap.size<=W.heap.size+1+1 by omega) z;show Oper.wp _ _ _ _ _ _;refine eQ 55 _ _ rfl (W.heap.size+1+1) (mv f0) (by simp[Act.eval,k]) (by simp[Act.eval,k]) _ _ J (bl _) (by simp[di]) (dW _) ?_;refine m undef _ ⟨trivial,fun c=>by simp at c,fun _=> ?_⟩;simp only[d8,aQ,aT,Act.put,aA,aK,aJ];have B:=aE (lM h b3 d z (f:=f0));go_wp2_with fail;exact B.o rfl rfl rfl
end
namespace Lx
def OKE (e:Ex):Prop:= ∃a n,(shapeP e a n).1=0
theorem OKE.alone {e:Ex}(h:OKE e):aloneP e=0:=by
 obtain⟨b,n,h⟩:=h;rw[kL]at h;split at h
 ·cases h
 ·split at h
  ·rename_i a;exact absurd h a
  ·rename_i a;simpa using a
theorem yU {b:Nat}: ∀{f:List Ex} {a:Int×Nat},(ii f b a).1=0-> ∀k∈f,OKE k
 |[],_,_,k,c=>by cases c
 |g::f,a,h,k,c=>by
  rw[jX]at h;by_cases d:a.1≠0
  ·rw[aB d,kM d]at h;exact absurd h d
  rw[ax d]at h
  have e:(shapeP g b a.2).1=0:=by
   by_cases e:(shapeP g b a.2).1=0
   ·exact e
   ·rw[kM e]at h;exact h
  rcases bO.1 c with rfl|c
  ·exact⟨_,_,e⟩
  ·exact yU h k c
theorem OKE.kid {e k:Ex}(h:OKE e)(b:k∈e.kids):OKE k:=by
 have ha:=h.alone;obtain⟨a,n,h⟩:=h;rw[kL]at h;split at h
 ·cases h
 ·rw[ax (by simpa using ha)]at h;exact yU h k b
theorem OKE.kinds {e:Ex}(h:OKE e):1<=e.kind/\e.kind<=10/\e.kids.length=kidsP e.kind/\rangeP e.kind e.a e.b=true/\(e.kind=10->Go.Proofs.YtlkehieagdkgiaaGreatDoor.namedL e.name=true):=by
 have ha:=h.alone;unfold aloneP at ha;split at ha
 ·cases ha
 ·split at ha
  ·cases ha
  ·split at ha
   ·cases ha
   ·split at ha
    ·cases ha
    ·rename_i i c d f;refine⟨by omega,by omega,by simpa using c,by simpa using d,fun g=> ?_⟩;cases hn:Go.Proofs.YtlkehieagdkgiaaGreatDoor.namedL e.name with
     |true=>rfl
     |false=>exact absurd ⟨g,hn⟩ f
theorem OKE.kid0 {e:Ex}(h:OKE e)(a:1<=kidsP e.kind): ∃k,e.kids[0]? =some k/\OKE k:=by
 have b:=h.kinds.2.2.1;exact⟨e.kids[0]'(by omega),ay _,h.kid (List.getElem_mem _)⟩
theorem OKE.kid1 {e:Ex}(h:OKE e)(a:2<=kidsP e.kind): ∃k,e.kids[1]? =some k/\OKE k:=by
 have b:=h.kinds.2.2.1;exact⟨e.kids[1]'(by omega),ay _,h.kid (List.getElem_mem _)⟩
end Lx
end Go.Proofs.YtlkehieagdkgiaaGreatDoor
