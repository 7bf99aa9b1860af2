/- Texts of the proof. -/
import Derived.Test.YtpdoienkhgnceaaGreatDoorPt17
set_option maxRecDepth 100000
set_option maxHeartbeats 8000000
namespace Go.Proofs.YtpdoienkhgnceaaGreatDoor
open Go.Proofs.Tryz Go.RowKit Lx Vx Mx Msk
namespace Lx
end Lx
theorem nL {l:List Ru}(c: ∀u∈l,-1∉gj l u): ∀r,∀k∈iP l r,k<l.length:=fun i k a=>by
 unfold iP at a;split at a
 ·rename_i u f;unfold qd at a;obtain⟨m,b,rfl⟩:=dB.1 a;have g:=(tM (l:=l) (nms u.2) [] List.nodup_nil (fun m b=>by cases b)).2 m b;have d:m≠ -1:=fun e=>c u (aL f) (e▸b);omega
 ·cases a
theorem A5 {p:Nat->Bool}: ∀(k i:Nat),frF p i k=none-> ∀j,i<=j->j<i+k->p j=false
 |0,i,_,j,a,b=>by omega
 |k+1,i,h,j,a,b=>by
  rw[frF]at h;split at h
  ·cases h
  ·rename_i c;by_cases e:j=i
   ·rw[e];simpa using c
   ·exact A5 k (i+1) h j (by omega) (by omega)
theorem Gw {l:List Ru}(h:(dm l).1=0):(∀i,i<l.length->lk1 l i=false)/\ ∀i,i<l.length->lk3 l i=false:=by
 unfold dm at h;split at h
 ·rename_i a;exact absurd h a
 ·split at h
  ·cases h
  ·rename_i b;split at h
   ·cases h
   ·split at h
    ·cases h
    ·rename_i c;exact⟨fun i hi=>A5 l.length 0 b i (by omega) (by omega),fun i hi=>A5 l.length 0 c i (by omega) (by omega)⟩
theorem PI {m:Nat->Bool}{n:Nat}{x:Int}:x∈mkL m n↔ ∃k:Nat,x=(k:Int)/\k<n/\m k=true:=by
 unfold mkL;rw[dB];constructor
 ·rintro⟨k,a,rfl⟩;rw[List.mem_filter,ip]at a;exact⟨k,rfl,a.1,a.2⟩
 ·rintro⟨k,rfl,b,c⟩;exact⟨k,by rw[List.mem_filter,ip];exact⟨b,c⟩,rfl⟩
theorem D2 {E:Nat->Nat->Bool}{i k:Nat}:Lx.Way E i k↔E i k=true\/ ∃j,E i j=true/\Lx.Way E j k:=by
 constructor
 ·intro h;induction h with
  |single h=>exact .inl h
  |tail _ d c=>
   rcases c with c|⟨j,e,c⟩
   ·exact .inr ⟨_,c,.single d⟩
   ·exact .inr ⟨j,e,.tail c d⟩
 ·rintro(h|⟨j,e,d⟩)
  ·exact .single h
  ·exact(Relation.TransGen.single (r:=fun a b=>E a b=true) e).trans d
theorem nN {l:List Ru}(h:(dm l).1=0){i:Nat}(hi:i<l.length){x:Int}:x∈gJ l (i:Int)↔ ∃k:Nat,x=(k:Int)/\k<l.length/\Lx.Way (fun a b=>(iP l a).contains b) i k:=by
 obtain⟨f,d⟩:=ma h
 have e:gJ l (i:Int)=mkL (fol (iP l) (l.length+1) (fun _=>false) i) l.length:=by
  unfold gJ;rw[aw (by omega)];rfl
 rw[e,PI];constructor
 ·rintro⟨k,a,b,c⟩;exact⟨k,a,b,(AU (nL d) (aA _)).1 c⟩
 ·rintro⟨k,a,b,c⟩;exact⟨k,a,b,(AU (nL d) (aA _)).2 c⟩
theorem PK {l:List Ru}(h:(dm l).1=0){i:Nat}(hi:i<l.length){x:Int}(g:x∈gJ l (i:Int)):0<=x/\x<l.length/\x≠(i:Int):=by
 obtain⟨j,b⟩:=ma h;obtain⟨k,rfl,d,f⟩:=(nN h hi).1 g;refine⟨by omega,by omega,fun e=> ?_⟩;have c:k=i:=by omega
 subst c;have a:=(Gw h).2 k d;unfold lk3 at a;rw[(AU (nL b) (aA _)).2 f]at a;cases a
def nev:Nat->Bool:=fun _=>false
def nO (d:Bool)(day:Int)(kind a b:Int)(nm:Nat->Bool)(c:List (Nat->Bool)):Nat->Bool:=
 if kind=2 then fun i=>decide (i<1440)
 else if kind=3 then fun i=>(decide (a<=(i:Int))&&decide ((i:Int)<b))&&decide (i<1440)
 else if kind=4 then(if d=true then c.getD 0 nev else nev)
 else if kind=5 then(if a<=day/\day<=b then c.getD 0 nev else nev)
 else if kind=6 then fun i=>(c.getD 0 nev i||c.getD 1 nev i)&&decide (i<1440)
 else if kind=7 then fun i=>(c.getD 0 nev i&& !c.getD 1 nev i)&&decide (i<1440)
 else if kind=8 then fun i=>(c.getD 0 nev i&&c.getD 1 nev i)&&decide (i<1440)
 else if kind=9 then shf (c.getD 0 nev) a
 else if kind=10 then nm
 else nev
def fA (d:Int->Bool)(day:Int)(c:List UInt8->Nat->Bool)(e:Ex):Nat->Bool:=nO (d e.a) day e.kind e.a e.b (c e.name) (e.kids.attach.map fun k=>fA d day c k.1)
 termination_by SizeOf.sizeOf e
 decreasing_by exact fy k.2
theorem jF (d:Int->Bool)(day:Int)(c:List UInt8->Nat->Bool)(e:Ex):fA d day c e=nO (d e.a) day e.kind e.a e.b (c e.name) (e.kids.map (fA d day c)):=by
 rw[fA];congr 1;have h:=congrArg (List.map (fA d day c)) (eY e.kids);rw[iU]at h;exact h
theorem oN {f:Int->Bool}{day:Int}{b a:List UInt8->Nat->Bool}: ∀(N:Nat) (e:Ex),SizeOf.sizeOf e<=N->(∀x∈nms e,b x=a x)->fA f day b e=fA f day a e
 |0,e,g,_=>by cases e;simp at g
 |N+1,e,g,h=>by
  rw[jF,jF]
  have d:e.kids.map (fA f day b)=e.kids.map (fA f day a):=List.map_congr_left fun k d=>oN N k (by have:=fy d;omega) fun x i=>h x (by
   rw[mw,cZ];right;unfold jM;exact List.mem_flatten.2 ⟨nms k,dB.2 ⟨k,d,rfl⟩,i⟩)
  rw[d];by_cases c:e.kind=10
  ·rw[h e.name (by rw[mw,ax c];simp)]
  ·unfold nO;simp only[aw c]
def sw (l:List Ru)(a:Int->Bool)(day:Int):Nat->Nat->Nat->Bool
 |0,_=>nev
 |f+1,i=>match l[i]? with
  |some u=>fA a day (fun x=>sw l a day f (atP5 l x).toNat) u.2
  |none=>nev
def muR (l:List Ru)(i:Nat):Nat:=(gJ l (i:Int)).length
theorem KV (m:Nat->Bool)(n:Nat):(mkL m n).Nodup:=by
 unfold mkL;have h:((List.range n).filter m).Nodup:=List.nodup_range.filter m;rw[List.nodup_iff_pairwise_ne,List.pairwise_map];exact(List.nodup_iff_pairwise_ne.1 h).imp fun a e=>a (by omega)
theorem IF (l:List Ru)(r:Int):(gJ l r).Nodup:=by
 unfold gJ;split
 ·exact List.nodup_nil
 ·exact KV _ _
theorem KW: ∀(l m:List Int),l.Nodup->(∀x∈l,x∈m)->l.length<=m.length
 |[],_,_,_=>dU _
 |x::l,m,a,d=>by
  have c:=List.nodup_cons.1 a
  have i:=KW l (m.erase x) c.2 fun y g=>by
   have b:y≠x:=fun e=>by
    subst e;exact c.1 g
   exact(List.mem_erase_of_ne b).2 (d y (bj _ g))
  have f:=d x aV;rw[List.length_erase_of_mem f]at i;have:=List.length_pos_of_mem f;simp only[bK];omega
theorem tq {l:List Ru}(h:(dm l).1=0){i j:Nat}(hi:i<l.length)(g:j∈iP l i):muR l j<muR l i:=by
 obtain⟨_,d⟩:=ma h;have a:=nL d i j g;have f:(iP l i).contains j=true:=by simpa using g
 have b: ∀x∈(j:Int)::gJ l (j:Int),x∈gJ l (i:Int):=fun x e=>by
  rcases bv.1 e with rfl|e
  ·exact(nN h hi).2 ⟨j,rfl,a,D2.2 (.inl f)⟩
  ·obtain⟨k,rfl,m,o⟩:=(nN h a).1 e;exact(nN h hi).2 ⟨k,rfl,m,D2.2 (.inr ⟨j,f,o⟩)⟩
 have c:((j:Int)::gJ l (j:Int)).Nodup:=List.nodup_cons.2 ⟨fun n=>(PK h a n).2.2 rfl,IF l _⟩;have:=KW _ _ c b;simp only[bK]at this;unfold muR;omega
theorem oO {l:List Ru}(_:(dm l).1=0){i:Nat}{u:Ru}(a:l[i]? =some u){x:List UInt8}(b:x∈nms u.2):(atP5 l x).toNat∈iP l i:=by
 rw[rF a];unfold qd gj;exact dB.2 ⟨atP5 l x,(qI _ _).2 (.inr ⟨x,b,rfl⟩),rfl⟩
theorem zK {l:List Ru}{j:Int->Bool}{day:Int}(h:(dm l).1=0): ∀(f c i:Nat),i<l.length->muR l i<f->muR l i<c->sw l j day f i=sw l j day c i
 |0,_,_,_,a,_=>by omega
 |_+1,0,_,_,_,b=>by omega
 |f+1,c+1,i,hi,a,b=>by
  obtain⟨u,g⟩: ∃u,l[i]? =some u:=⟨l[i],az hi⟩
  obtain⟨_,d⟩:=ma h;rw[sw,sw,g];dsimp only;refine oN _ u.2 (aA _) fun x m=> ?_;have e:=oO h g m;have k:=tq h hi e;exact zK h f c _ (nL d i _ e) (by omega) (by omega)
theorem BW (l:List Ru)(r:Int):(gJ l r).length<=l.length:=by
 unfold gJ;split
 ·exact dU _
 ·exact Gj _ _
def gL (l:List Ru)(a:Int->Bool)(day:Int)(i:Nat):Nat->Bool:=sw l a day (l.length+1) i
theorem pG {l:List Ru}{a:Int->Bool}{day:Int}(h:(dm l).1=0){i:Nat}{u:Ru}(d:l[i]? =some u):gL l a day i=fA a day (fun x=>gL l a day (atP5 l x).toNat) u.2:=by
 have hi:i<l.length:=(aE.1 d).1;obtain⟨_,c⟩:=ma h;have b: ∀j,muR l j<=l.length:=fun j=>BW l (j:Int)
 have e:gL l a day i=fA a day (fun x=>sw l a day l.length (atP5 l x).toNat) u.2:=by
  unfold gL;rw[sw,d]
 rw[e];refine oN _ u.2 (aA _) fun x k=> ?_;have f:=oO h d k;have g:=tq h hi f;have:=b i;have:=b (atP5 l x).toNat;exact zK h _ _ _ (nL c i _ f) (by omega) (by omega)
theorem Rq (n:Int)(w:World)(a:0<=n)(b:n<146097):Calls prog 177 #[ag n] w fun e c=>e= .returned (.bool true)/\c=w:=by
 go_enter func177,ntmps177;go_wp2;go_ret;exact⟨rfl,rfl⟩
def wkd (n:Int):Int:=(n+5).tmod 7
theorem Rr (n:Int)(a:0<=n):wkd n=(n+5)%7:=by
 unfold wkd;rw[Int.tmod_eq_emod_of_nonneg (by omega)]
theorem KX (n:Int)(a:0<=n):0<=wkd n/\wkd n<7:=by
 rw[Rr n a];omega
theorem SY (n:Int)(w:World)(a:0<=n)(b:n<146097):Calls prog 130 #[ag n] w fun e c=>e= .returned (ag (wkd n))/\c=w:=by
 have c1:=Rq n w a b;have d:=KX n a;have f:(n+5).tmod 7=wkd n:=rfl;go_enter func130,ntmps130;go_wp2_with fail;refine c1.mono ?_;rintro e c ⟨rfl,rfl⟩;clear c1;go_wp2_with fail;go_ret;exact⟨rfl,rfl⟩
structure wj (w:World)(g:Nat)(n:Int)(lv:Value)(mb:Nat)(kv mv':Value):Prop where
 blk:w.heap[g]? =ah #[ag n,lv,.map (some mb),kv,mv'] 70
def wkB (n a:Int):Bool:=bits BinOp.and IntKind.i64 (a/2^(wkd n).toNat) 1==1
theorem OA (g:Nat)(n:Int)(lv:Value)(mb:Nat)(kv f:Value)(e:Ex)(j:Option Addr)(i:Nat)(w:World)(h:wj w g n lv mb kv f)(a:0<=n)(b:n<146097)(l:e.kind=4):
  Calls prog 85 #[ab g 0,.agg #[ag e.kind,ag e.a,ag e.b,.string ⟨e.name.toArray⟩,.slice j e.kids.length i]] w fun r m=>r= .returned (.bool (wkB n e.a))/\ao w m:=by
 have k0:=ak 0 h.blk;have c:=am w (.cells #[ag e.kind,ag e.a,ag e.b,.string ⟨e.name.toArray⟩,.slice j e.kids.length i] 78);have d:=aj c k0;have o:=KX n a;have k:=fun W=>SY n W a b;rw[l]at c d⊢;go_enter func85,ntmps85;go_wp2_with fail;go_quiet ((go_at_call 130;exact fB (k _)));go_wp2_with fail;go_ret;exact⟨rfl,du c nq⟩
theorem OB (g:Nat)(n:Int)(lv:Value)(mb:Nat)(kv k:Value)(e:Ex)(m:Option Addr)(l:Nat)(w:World)(h:wj w g n lv mb kv k)(p:e.kind=5):
  Calls prog 85 #[ab g 0,.agg #[ag e.kind,ag e.a,ag e.b,.string ⟨e.name.toArray⟩,.slice m e.kids.length l]] w fun r q=>r= .returned (.bool (decide (e.a<=n)&&decide (n<=e.b)))/\ao w q:=by
 have k0:=ak 0 h.blk;have c:=am w (.cells #[ag e.kind,ag e.a,ag e.b,.string ⟨e.name.toArray⟩,.slice m e.kids.length l] 78);have j:=aj c k0;rw[p]at c j⊢;by_cases d:e.a<=n
 ·by_cases f:n<=e.b
  ·rw[bc d,bc f];go_enter func85,ntmps85;go_wp2_with fail;go_quiet (fail);go_wp2_with fail;go_ret;exact⟨rfl,du c nq⟩
  ·rw[bc d,bo f];have i:decide (n<=e.b)=false:=bo f;go_enter func85,ntmps85;go_wp2_with fail;go_quiet (fail);go_wp2_with fail;go_ret
   first
    |exact⟨rfl,du c nq⟩
    |exact⟨congrArg (fun x=>Ending.returned (.bool x)) i,du c nq⟩
 ·rw[bo d];have o:decide (e.a<=n)=false:=bo d;go_enter func85,ntmps85;go_wp2_with fail;go_quiet (fail);go_wp2_with fail;go_ret;exact⟨rfl,du c nq⟩
section
theorem iH (b:Nat): ∀(a:List Value) (o:Nat) (w:World) (q:Nat),q≠b->(w.setCells b o a).heap[q]? =w.heap[q]?
 |[],_,_,_,_=>rfl
 |v::a,o,w,q,h=>by
  rw[World.setCells,iH b a (o+1) _ q h];exact aM w ⟨b,o,none⟩ q v h
theorem sx {w:World}(b:Nat)(c:w.heap.size<=b): ∀(a:List Value) (o:Nat) (W:World),ao w W->ao w (W.setCells b o a)
 |[],_,_,h=>h
 |v::a,o,W,h=>by
  rw[World.setCells];exact sx b c a (o+1) _ (h.setCell c v)
theorem Fv {W W':World}{b o:Nat}{a:List Value}(h:W.rangeAt b o a)(d:ao W W'):W'.rangeAt b o a:=fun j v c=>(d.cell (aU (h j v c))).trans (h j v c)
structure MSt (w:World)(n g gk gm mb:Nat)(day:Int)(lv:Value)(l:List Ru)(K:Nat->Bool)(M:Nat->Nat->Bool)(W:World):Prop where
 bel:ao w W
 blk:W.heap[g]? =ah #[ag day,lv,.map (some mb),.slice (some (ae gk 0)) n n,.slice (some (ae gm 0)) n n] 70
 known:W.heap[gk]? =ah (fI n K) 4
 meant: ∀i,i<n->W.rangeAt gm (i*23) (mv (M i)).toList
 held: ∃cs,W.heap[gm]? =ah cs 39
 nums:jn W mb l
 lo:w.heap.size<=g/\w.heap.size<=gk/\w.heap.size<=gm
 ne:g≠gk/\g≠gm/\gk≠gm/\mb≠gk/\mb≠gm
variable {w W W':World} {n g gk gm mb:Nat} {day:Int} {lv:Value} {l:List Ru} {K:Nat->Bool} {M:Nat->Nat->Bool}
theorem MSt.later (h:MSt w n g gk gm mb day lv l K M W)(a:ao W W'):MSt w n g gk gm mb day lv l K M W':=
 ⟨au h.bel a,ai a h.blk,ai a h.known,fun i hi=>Fv (h.meant i hi) a,by
   obtain⟨b,c⟩:=h.held;exact⟨b,ai a c⟩,h.nums.later (a.block _ (ij h.nums)),h.lo,h.ne⟩
theorem MSt.mark (h:MSt w n g gk gm mb day lv l K M W)(i:Nat):MSt w n g gk gm mb day lv l (upd K i) M (W.setCell ⟨gk,i,none⟩ (.bool true)):=by
 obtain⟨p,s,b,r,t⟩:=h.ne;have a: ∀q,q≠gk->(W.setCell ⟨gk,i,none⟩ (.bool true)).heap[q]? =W.heap[q]? :=fun q m=>aM W ⟨gk,i,none⟩ q _ m;refine⟨h.bel.setCell h.lo.2.1 _,(a _ p).trans h.blk,?_,fun j f=> ?_,?_,h.nums.later (a _ r),h.lo,h.ne⟩
 ·rw[<-zd];exact aY W gk i _ _ _ h.known
 ·intro k v o;rw[<-h.meant j f k v o];exact World.cell?_setCell_other _ _ _ _ (fun e=>b (congrArg Addr.block e))
 ·obtain⟨c,d⟩:=h.held;exact⟨c,(a _ (fun e=>b e.symm)).trans d⟩
theorem o5 (b:Nat){t:TypeId}: ∀(c:List Value) (o:Nat) (W:World),(∃a,W.heap[b]? =ah a t)-> ∃a,(W.setCells b o c).heap[b]? =ah a t
 |[],_,_,h=>h
 |v::c,o,W,h=>by
  rw[World.setCells];obtain⟨a,d⟩:=h;exact o5 b c (o+1) _ ⟨_,aY W b o a t v d⟩
def tZ (M:Nat->Nat->Bool)(i:Nat)(f:Nat->Bool):Nat->Nat->Bool:=fun j=>if j=i then f else M j
theorem MSt.there (h:MSt w n g gk gm mb day lv l K M W){i:Nat}(hi:i<n):W.there gm (i*23) 23:=fun j b=>by
 obtain⟨c,a⟩:=h.held;refine⟨(h.meant i hi).isSome j (by rw[cg,bU];exact b),bu _ _ _ _ _ a⟩
theorem MSt.put (h:MSt w n g gk gm mb day lv l K M W){i:Nat}(hi:i<n)(f:Nat->Bool):MSt w n g gk gm mb day lv l K (tZ M i f) (W.setCells gm (i*23) (mv f).toList):=by
 obtain⟨o,d,k,p,m⟩:=h.ne;have a: ∀q,q≠gm->(W.setCells gm (i*23) (mv f).toList).heap[q]? =W.heap[q]? :=fun q c=>iH gm _ _ W q c;refine⟨sx gm h.lo.2.2 _ _ _ h.bel,(a _ d).trans h.blk,(a _ k).trans h.known,fun j b=> ?_,o5 gm _ _ W h.held,h.nums.later (a _ m),h.lo,h.ne⟩;by_cases e:j=i
 ·subst e;rw[tZ,ax rfl];exact World.rangeAt_setCells_same W gm _ _ (by rw[cg,bU];exact h.there b)
 ·rw[tZ,aw e];refine World.rangeAt_setCells_apart (h.meant j b) gm _ _ (.inr ?_);rw[cg,cg,bU,bU];omega
end
section
variable {w W W':World} {n g gk gm mb:Nat} {day:Int} {lv:Value} {l:List Ru} {K:Nat->Bool} {M:Nat->Nat->Bool}
theorem Rv:prog.underlying 39=some (.array 23 37):=by kernel_rfl
theorem PL (f:Nat->Bool):(prog.info? 39).map (fun i=>i.size)=some (mv f).toList.length:=by
 rw[cg];exact bg f
theorem rL {W:World}{d:Array Oper}{c:List Oper}{op:Oper}{a:Act}{Q:Exit->Act->World->Prop}(e:op.guard=none)(x:Operand)(i:op.op= .load 39 x)(b o:Nat)(j:a.eval x=ab b o)(f:Nat->Bool)(g:W.rangeAt b o (mv f).toList)
  (h:wpList prog d Q c (a.put op.dst (.agg (mv f))) W):wpList prog d Q (op::c) a W:=
 wpList_load_mid e 39 x i b o j (mv f).toList _ g Rv rfl (PL f) (by rw[Array.toArray_toList];exact h)
theorem IG (h:MSt w n g gk gm mb day lv l K M W){i:Nat}(hi:i<n)(s:n<=40)(c:K i=true):
  Calls prog 18 #[ab g 0,ag (i:Int)] W fun e q=>e= .returned (.agg (mv (M i)))/\ao W q:=by
 have t:=ea;have b:=am W (.cells (mv fun _=>false) 39);have f:=aB W (.cells (mv fun _=>false) 39);have a:=h.later b;generalize p:W.alloc (.cells (mv fun _=>false) 39)=r at*;have u:=ak 3 a.blk;have x:=ak 4 a.blk;have ki:=(aW _ _ i _ _ _ a.known).trans (oh hi);rw[c]at ki;have k:(0:Int)<=(i:Int):=by omega
 have m:(i:Int)<(n:Int):=by omega
 have d:(n:Int)<=40:=by omega
 have j:=aG (a.meant i hi);clear h c a;go_enter func18,ntmps18
 go_wp2_with(first
  |(refine rL rfl _ rfl gm (i*23) rfl (M i) j.o ?_)
  |(refine aC rfl 39 _ _ rfl _ _ rfl rfl _ _ f (bg _) (by simp[bU]) (dI _) ?_))
 refine aX (v:= .agg (mv (M i))) ?_ rfl ⟨rfl,?_⟩
 ·exact bn rfl _ _ W.heap.size _ _ _ _ rfl (aK _ _ _ _ _ _ f) cj rfl (bg _)
 ·exact below_setRow b (aA _) _
end
section
variable {w W W':World} {n g gk gm mb:Nat} {day:Int} {lv:Value} {l:List Ru} {K:Nat->Bool} {M:Nat->Nat->Bool}
theorem MSt.keep (h:MSt w n g gk gm mb day lv l K M W)(c:ao w W')(a: ∀q,q=g\/q=gk\/q=gm\/q=mb->W'.heap[q]? =W.heap[q]?):MSt w n g gk gm mb day lv l K M W':=by
 refine⟨c,(a _ (by simp)).trans h.blk,(a _ (by simp)).trans h.known,fun i hi j v e=> ?_,?_,h.nums.later (a _ (by simp)),h.lo,h.ne⟩
 ·exact(dP (a _ (by simp))).trans (h.meant i hi j v e)
 ·obtain⟨b,d⟩:=h.held;exact⟨b,(a _ (by simp)).trans d⟩
structure MD where
 w:World
 n:Nat
 g:Nat
 gk:Nat
 gm:Nat
 mb:Nat
 day:Int
 lv:Value
 l:List Ru
 V:Nat->Nat->Bool
def MD.st (D:MD)(K:Nat->Bool)(M:Nat->Nat->Bool)(W:World):Prop:=MSt D.w D.n D.g D.gk D.gm D.mb D.day D.lv D.l K M W
def MI (D:MD)(K:Nat->Bool)(W:World):Prop:= ∃M,D.st K M W/\ ∀i,i<D.n->K i=true->M i=D.V i
def Kp (D:MD)(W W':World):Prop:=W.heap.size<=W'.heap.size/\ ∀q,q<W.heap.size->q≠D.gk->q≠D.gm->W'.heap[q]? =W.heap[q]?
def MQ (D:MD)(P:(Nat->Bool)->Prop)(W W':World):Prop:=(∃K,MI D K W'/\P K)/\Kp D W W'
def Les (K a:Nat->Bool):Prop:= ∀i,K i=true->a i=true
variable {D:MD} {P:(Nat->Bool)->Prop} {W0:World} {K0 K1:Nat->Bool}
theorem Les.refl (K:Nat->Bool):Les K K:=fun _ h=>h
theorem Kp.refl (D:MD)(W:World):Kp D W W:=⟨aA _,fun _ _ _ _=>rfl⟩
theorem Kp.trans (h:Kp D W0 W)(d:Kp D W W'):Kp D W0 W':=⟨bh h.1 d.1,fun q a b c=>(d.2 q (aT a h.1) b c).trans (h.2 q a b c)⟩
theorem Kp.below (h:ao W W'):Kp D W W':=⟨h.size,fun q a _ _=>h.block q a⟩
theorem MI.later (h:MI D K W)(c:ao W W'):MI D K W':=by
 obtain⟨M,a,b⟩:=h;exact⟨M,MSt.later a c,b⟩
theorem MI.bel (h:MI D K W):Below D.w.heap.size D.w W:=by
 obtain⟨M,a,b⟩:=h;exact MSt.bel a
theorem MI.blk (h:MI D K W):W.heap[D.g]? =ah #[ag D.day,D.lv,.map (some D.mb),.slice (some (ae D.gk 0)) D.n D.n,.slice (some (ae D.gm 0)) D.n D.n] 70:=by
 obtain⟨M,a,b⟩:=h;exact MSt.blk a
theorem MI.nums (h:MI D K W):jn W D.mb D.l:=by
 obtain⟨M,a,b⟩:=h;exact MSt.nums a
theorem MI.lts (h:MI D K W): ∀q,q=D.g\/q=D.gk\/q=D.gm\/q=D.mb->q<W.heap.size:=by
 obtain⟨M,a,d⟩:=h;rintro q (rfl|rfl|rfl|rfl)
 ·exact aH (MSt.blk a)
 ·exact aH (MSt.known a)
 ·obtain⟨c,b⟩:=MSt.held a;exact aH b
 ·exact ij (MSt.nums a)
theorem MQ.bel (h:MQ D P W W'):Below D.w.heap.size D.w W':=by
 obtain⟨⟨K,a,_⟩,_⟩:=h;exact a.bel
theorem MQ.blk (h:MQ D P W W'):W'.heap[D.g]? =ah #[ag D.day,D.lv,.map (some D.mb),.slice (some (ae D.gk 0)) D.n D.n,.slice (some (ae D.gm 0)) D.n D.n] 70:=by
 obtain⟨⟨K,a,_⟩,_⟩:=h;exact a.blk
theorem MQ.nums (h:MQ D P W W'):jn W' D.mb D.l:=by
 obtain⟨⟨K,a,_⟩,_⟩:=h;exact a.nums
theorem MQ.start (h:MI D K W)(a:ao W W'):MQ D (Les K) W W':=⟨⟨K,h.later a,Les.refl K⟩,Kp.below a⟩
theorem MQ.up (h:MQ D (Les K0) W0 W)(g: ∀K,MI D K W->MQ D (Les K) W W'):MQ D (Les K0) W0 W':=by
 obtain⟨⟨K1,a,b⟩,c⟩:=h;obtain⟨⟨K2,d,e⟩,f⟩:=g K1 a;exact⟨⟨K2,d,fun i hi=>e i (b i hi)⟩,c.trans f⟩
theorem MQ.on (a:Les K0 K1)(b:Kp D W0 W)(h:MQ D (Les K1) W W'):MQ D (Les K0) W0 W':=by
 obtain⟨⟨K2,c,d⟩,e⟩:=h;exact⟨⟨K2,c,fun i hi=>d i (a i hi)⟩,b.trans e⟩
theorem MQ.onP (b:Les K0 K1)(c:Kp D W0 W)(h:MQ D (fun a=>Les K1 a/\P a) W W'):MQ D (Les K0) W0 W':=by
 obtain⟨⟨K2,d,e,_⟩,f⟩:=h;exact⟨⟨K2,d,fun i hi=>e i (b i hi)⟩,c.trans f⟩
theorem MQ.low (h:MQ D (Les K0) W0 W)(b:ao W W'):MQ D (Les K0) W0 W':=h.up fun _ a=>MQ.start a b
theorem MQ.drew (h:MQ D (Les K0) W0 W):MQ D (Les K0) W0 W.drew:=h.low (aF _ _).drew
theorem MQ.ret {f:World}(g:MI D K W)(d:ao W f){r:Nat}(o:W.heap.size<=r)(h:MQ D P f W')(k:Array Value):MQ D P W (W'.setRow r k):=by
 obtain⟨⟨K2,⟨M,i,l⟩,m⟩,j⟩:=h;have e:=g.lts;have p:=g.bel.size;refine⟨⟨K2,⟨M,MSt.keep i (below_setRow (MSt.bel i) (by omega) _) fun q n=>aQ _ _ _ _ (by have:=e q n;omega),l⟩,m⟩,?_,fun q a b c=> ?_⟩
 ·have:=d.size;have:=j.1;simp only[World.setRow,Array.size_modify];omega
 ·rw[aQ _ _ _ _ (by omega),j.2 q (by have:=d.size;omega) b c];exact d.block q a
theorem MQ.own {a:World}(b:MI D K W)(h:MQ D P a W'){r:Nat}(f:W.heap.size<=r){o:Obj}(c:a.heap[r]? =some o):W'.heap[r]? =some o:=by
 have d:=b.lts D.gk (by simp);have e:=b.lts D.gm (by simp);exact(h.2.2 r (aH c) (by omega) (by omega)).trans c
theorem MQ.mask (h:MQ D (Les K0) W0 W){i:Nat}(hi:i<D.n): ∃K M,D.st K M W/\(∀j,j<D.n->K j=true->M j=D.V j)/\Les K0 K/\W.there D.gm (i*23) 23:=by
 obtain⟨⟨K,⟨M,a,b⟩,c⟩,_⟩:=h;exact⟨K,M,a,b,c,MSt.there a hi⟩
end
theorem tr (b:Nat): ∀(a:List Value) (o:Nat) (w:World),(w.setCells b o a).heap.size=w.heap.size
 |[],_,_=>rfl
 |v::a,o,w=>by
  rw[World.setCells,tr b a (o+1)];simp[World.setCell]
theorem Nw {D:MD}{K0:Nat->Bool}{W:World}{us:List (Ru×Value)}{b o T i:Nat}{u:Ru}{L:Option Addr}{z:Nat}(m:InR D.w D.lv us)(hn:D.n<=40)(s:D.lv= .slice (some (ae b o)) D.n T)(k:us.length=D.n)(hu:us[i]? =some (u,.slice L u.2.kids.length z))(h:MI D K0 W)(B:K0 i=false)
  (U: ∀K W,MI D K W->Calls prog 45 #[ab D.g 0,exV u.2 (.slice L u.2.kids.length z)] W fun r N=>r= .returned (.agg (mv (D.V i)))/\MQ D (Les K) W N):
  Calls prog 18 #[ab D.g 0,ag (i:Int)] W fun r N=>r= .returned (.agg (mv (D.V i)))/\MQ D (fun K=>Les K0 K/\K i=true) W N:=by
 have hi:i<D.n:=by rw[<-k];exact(aE.1 hu).1
 have HV:=aG s
 obtain⟨q1,q2,q3,q4,q5⟩:D.w.cell? (ae b (o+i*6+1))=some (ag u.2.kind)/\D.w.cell? (ae b (o+i*6+1+1))=some (ag u.2.a)/\D.w.cell? (ae b (o+i*6+1+2))=some (ag u.2.b)/\D.w.cell? (ae b (o+i*6+1+3))=some (.string ⟨u.2.name.toArray⟩)/\D.w.cell? (ae b (o+i*6+1+4))=some (.slice L u.2.kids.length z):=by
  rw[s,<-k]at m;obtain⟨g',o',e,_,c1,c2,c3,c4,c5⟩:=m.cells i _ hu;cases e;exact⟨c1,c2,c3,c4,c5⟩
 have hz:=ea;have bA:=am W (.cells (mv fun _=>false) 39);have nA:=aB W (.cells (mv fun _=>false) 39);generalize ad:W.alloc (.cells (mv fun _=>false) 39)=y at*;have P:=h.later bA;have X:MQ D (Les K0) y y:=MQ.start P (aF _ _);have k3:=ak 3 P.blk
 have ki:y.cell? (ae D.gk i)=some (.bool false):=by
  obtain⟨M,h1,_⟩:=P;rw[<-B];exact(aW _ _ i _ _ _ (MSt.known h1)).trans (oh hi)
 have au:(0:Int)<=(i:Int):=by omega
 have av:(i:Int)<(D.n:Int):=by omega
 have ar:(D.n:Int)<=40:=by omega
 unfold exV at U;have HE:=aG U;clear s m B hu k hn U;go_enter func18,ntmps18;go_wp2_with fail;clear k3 ki ad P;refine mV 16 (MQ D (Les K0) y) [kn 13 (ab D.g 0),kn 14 (ab D.g 0),kn 15 (ab D.g 4),kn 16 (.slice (some (ae D.gm 0)) D.n D.n),kn 17 (ag (i:Int)),kn 18 (ab D.g 0),kn 19 (ab D.g 0),kn 20 (ab D.g 0),kn 21 (ab D.g 1),kn 22 (.slice (some (ae b o)) D.n T),kn 23 (ag (i:Int)),kn 24 (ab b (o+i*6)),kn 25 (ab b (o+i*6+1)),kn 26 (.agg #[ag u.2.kind,ag u.2.a,ag u.2.b,.string ⟨u.2.name.toArray⟩,.slice L u.2.kids.length z]),dk 27 (.agg (mv (D.V i))),kn 28 (ab D.gm (i*23)),nk] X.drew (fun _ _ hb h=>h.low hb) (by kernel_rfl) (by kernel_rfl) fun M φ d aa f F l hl Q=> ?_;have af:d.cell? (ae D.g 4)=some (.slice (some (ae D.gm 0)) D.n D.n):=ak 4 f.blk;have ai:d.cell? (ae D.g 1)=some (.slice (some (ae b o)) D.n T):=(ak 1 f.blk).trans (congrArg some HV.o);have al:d.cell? (ae b (o+i*6+1))=some (ag u.2.kind):=aj f.bel q1;have an:d.cell? (ae b (o+i*6+1+1))=some (ag u.2.a):=aj f.bel q2;have ao:d.cell? (ae b (o+i*6+1+2))=some (ag u.2.b):=aj f.bel q3;have ap:d.cell? (ae b (o+i*6+1+3))=some (.string ⟨u.2.name.toArray⟩):=aj f.bel q4;have aq:d.cell? (ae b (o+i*6+1+4))=some (.slice L u.2.kids.length z):=aj f.bel q5;simp only[kn,dk,nk,d6,aR,a8,Act.put,aD,aJ,aI]at hl;subst hl;simp only[dz,Nat.reduceAdd]at Q;dsimp only[kn,dk,nk,dK,fo,eD,Act.put];and_intros;all_goals first|exact trivial|intro hw hn hm K R
 all_goals try (go_simp;with_reducible exact R _ _ ⟨rfl,aF _ _⟩)
 all_goals clear af ai al an ao ap aq
 ·obtain⟨⟨K1,Z,G⟩,C⟩:=id f;go_simp;refine(HE.o K1 d Z).mono ?_;rintro e' N ⟨rfl,ac⟩;exact R _ _ ⟨rfl,fun _=>MQ.on G C ac,fun c=>by simp[aa]at c⟩
 obtain⟨K3,S,I,H,E,J⟩:=f.mask hi;show Oper.wp _ _ _ _ _ _;refine wp_store_mid 39 _ _ rfl D.gm (i*23) (mv (D.V i)) (by simp[Act.eval,Q]) (by simp[Act.eval,Q]) (by rw[bU];exact J) (bg _) (dI _) ?_;have A:D.st K3 (tZ S i (D.V i)) (d.setCells D.gm (i*23) (mv (D.V i)).toList):=MSt.put I hi (D.V i);refine R undef _ ⟨trivial,fun c=>by simp at c,fun _=> ?_⟩;simp only[ep,aR,a8,Act.put,aD,aJ,aI];clear Q hw hn hm;have n3:(d.setCells D.gm (i*23) (mv (D.V i)).toList).heap[W.heap.size]? =ah (mv fun _=>false) 39:=(iH D.gm _ _ d _ (by have:=h.lts D.gm (by simp);omega)).trans (f.own h (aA _) nA)
 have p:Kp D y (d.setCells D.gm (i*23) (mv (D.V i)).toList):=⟨by
  rw[tr]
  exact f.2.1,fun q a b c=>(iH D.gm _ _ d q c).trans (f.2.2 q a b c)⟩
 clear R J;generalize d.setCells D.gm (i*23) (mv (D.V i)).toList=x at*;have O:D.st (upd K3 i) (tZ S i (D.V i)) (x.setCell ⟨D.gk,i,none⟩ (.bool true)):=MSt.mark A i;have n4:(x.setCell ⟨D.gk,i,none⟩ (.bool true)).heap[W.heap.size]? =ah (mv fun _=>false) 39:=(aM x ⟨D.gk,i,none⟩ _ _ (by show W.heap.size≠D.gk;have:=h.lts D.gk (by simp);omega)).trans n3
 have hQ:MQ D (fun K'=>Les K0 K'/\K' i=true) y (x.setCell ⟨D.gk,i,none⟩ (.bool true)):=by
  refine⟨⟨upd K3 i,⟨_,O,fun j hj Y=> ?_⟩,fun j hj=> ?_,by simp[upd]⟩,?_,fun q a b c=>(aM x ⟨D.gk,i,none⟩ q _ b).trans (p.2 q a b c)⟩
  ·by_cases e:j=i
   ·subst e;simp[tZ]
   ·rw[tZ,aw e];exact H j hj (by simpa[upd,e] using Y)
  ·have:=E j hj;show(decide (j=i)||K3 j)=true;rw[this,Bool.or_true]
  ·simpa[World.setCell] using p.1
 have k3:=(aW _ _ 3 _ _ _ (MSt.blk A)).trans rfl;have ki:=(aW _ _ i _ _ _ (MSt.known A)).trans (oh hi);have kf:=bu _ _ i _ _ (MSt.known A);have k4:=(aW _ _ 4 _ _ _ (MSt.blk O)).trans rfl;have t:=MSt.meant O i hi;rw[show tZ S i (D.V i) i=D.V i by simp[tZ]]at t;have HM:=aG t;have HQ:=aG (MQ.ret h bA (aA _) hQ (mv (D.V i)));clear t hQ O A I H E f p;generalize ax:x.setCell ⟨D.gk,i,none⟩ (.bool true)=W4 at*
 go_wp2_with(first
  |(refine rL rfl _ rfl D.gm (i*23) rfl (D.V i) HM.o ?_)
  |(refine aC rfl 39 _ _ rfl _ _ rfl rfl _ _ n4 (bg _) (by simp[bU]) (dI _) ?_))
 refine aX (v:= .agg (mv (D.V i))) ?_ rfl ⟨rfl,?_⟩
 ·exact bn rfl _ _ W.heap.size _ _ _ _ rfl (aK _ _ _ _ _ _ n4) cj rfl (bg _)
 ·exact HQ.o
theorem MQ.far {D:MD}{P:(Nat->Bool)->Prop}{b a:World}(h:MQ D P b a){r:Nat}(d:r≠D.gk)(e:r≠D.gm){o:Obj}(c:b.heap[r]? =some o):a.heap[r]? =some o:=(h.2.2 r (aH c) d e).trans c
theorem PM {D:MD}{K0:Nat->Bool}{W:World}{e k:Ex}{f:Nat->Bool}{bd p b o c j:Nat}{E:Option Addr}{A:Nat}(h:MI D K0 W)(hj:e.kids[j]? =some k)(aa:e.kids.length<9223372036854775808)
  (s:W.heap[bd]? =ah #[ab D.g 0] 128) (t:W.heap[p]? =ah #[ag e.kind,ag e.a,ag e.b,.string ⟨e.name.toArray⟩,.slice (some (ae b o)) e.kids.length c] 78)
  (Y:bd≠D.gk) (Z:bd≠D.gm) (d3:p≠D.gk) (d4:p≠D.gm)
  (q0:D.w.cell? (ae b (o+j*5))=some (ag k.kind)) (q1:D.w.cell? (ae b (o+j*5+1))=some (ag k.a)) (q2:D.w.cell? (ae b (o+j*5+2))=some (ag k.b)) (q3:D.w.cell? (ae b (o+j*5+3))=some (.string ⟨k.name.toArray⟩)) (q4:D.w.cell? (ae b (o+j*5+4))=some (.slice E k.kids.length A))
  (I: ∀K W,MI D K W->Calls prog 45 #[ab D.g 0,exV k (.slice E k.kids.length A)] W fun r y=>r= .returned (.agg (mv f))/\MQ D (Les K) W y):
  Calls prog 83 #[ag (j:Int),ab bd 0,ab p 0] W fun r y=>r= .returned (.agg (mv f))/\MQ D (Les K0) W y:=by
 have ad:(j:Int)<(e.kids.length:Int):=by have:=(aE.1 hj).1;omega
 have ac:(0:Int)<=(j:Int):=by omega
 have af:(e.kids.length:Int)<9223372036854775808:=by omega
 have hz:=ea;have z:=am W (.cells (mv fun _=>false) 39);have nA:=aB W (.cells (mv fun _=>false) 39);generalize P:W.alloc (.cells (mv fun _=>false) 39)=q at*;have hA:=h.later z;have J:MQ D (Les K0) q q:=MQ.start hA (aF _ _);have m:=ai z s;have n:=ai z t;have G:=aG (fun(i:World) (d:MQ D (Les K0) q i)=>d.far Y Z m);have H:=aG (fun(i:World) (d:MQ D (Les K0) q i)=>d.far d3 d4 n);unfold exV at I;have HE:=aG I;clear I s t m n Y Z d3 d4 hj hA;go_enter func83,ntmps83;go_wp2_with fail;clear P;refine mV 7 (MQ D (Les K0) q) [kn 5 (ab D.g 0),kn 6 (ab p 4),kn 7 (.slice (some (ae b o)) e.kids.length c),kn 8 (ag (j:Int)),kn 9 (ab b (o+j*5)),kn 10 (.agg #[ag k.kind,ag k.a,ag k.b,.string ⟨k.name.toArray⟩,.slice E k.kids.length A]),dk 11 (.agg (mv f)),nk] J.drew (fun _ _ hb h=>h.low hb) (by kernel_rfl) (by kernel_rfl) fun M φ i N d F l hl B=> ?_;have Q:i.cell? (ae bd 0)=some (ab D.g 0):=(aW _ _ 0 _ _ _ (G.o i d)).trans rfl;have R:i.cell? (ae p 4)=some (.slice (some (ae b o)) e.kids.length c):=(aW _ _ 4 _ _ _ (H.o i d)).trans rfl;have S:i.cell? (ae b (o+j*5))=some (ag k.kind):=aj d.bel q0;have T:i.cell? (ae b (o+j*5+1))=some (ag k.a):=aj d.bel q1;have U:i.cell? (ae b (o+j*5+2))=some (ag k.b):=aj d.bel q2;have V:i.cell? (ae b (o+j*5+3))=some (.string ⟨k.name.toArray⟩):=aj d.bel q3;have X:i.cell? (ae b (o+j*5+4))=some (.slice E k.kids.length A):=aj d.bel q4;simp only[kn,dk,nk,d6,aR,a8,Act.put,aD,aJ,aI]at hl;subst hl;simp only[dz,Nat.reduceAdd]at B;dsimp only[kn,dk,nk,dK,fo,eD,Act.put];and_intros;all_goals first|exact trivial|intro hw hn hm K C
 all_goals try (go_simp;with_reducible exact C _ _ ⟨rfl,aF _ _⟩)
 all_goals clear Q R S T U V X
 ·obtain⟨⟨K1,L,x⟩,u⟩:=id d;go_simp;refine(HE.o K1 i L).mono ?_;rintro e' y ⟨rfl,O⟩;exact C _ _ ⟨rfl,fun _=>MQ.on x u O,fun c=>by simp[N]at c⟩
 have n2:=d.own h (aA _) nA;show Oper.wp _ _ _ _ _ _;refine eo 39 _ _ rfl (W.heap.size) (mv f) (by simp[Act.eval,B]) (by simp[Act.eval,B]) _ _ n2 (bg _) (by simp[bU]) (dI _) ?_;refine C undef _ ⟨trivial,fun c=>by simp at c,fun _=> ?_⟩;simp only[ep,aR,a8,Act.put,aD,aJ,aI];clear B hw hn hm;have HQ:=aG (MQ.ret h z (aA _) d (mv f));have N2:=aG (aK _ _ _ (mv f) _ _ n2);clear C d;go_wp2_with fail;refine aX (v:= .agg (mv f)) ?_ rfl ⟨rfl,?_⟩
 ·exact bn rfl _ _ W.heap.size _ _ _ _ rfl N2.o cj rfl (bg _)
 ·exact HQ.o
section
variable {D:MD} {K0:Nat->Bool} {W:World} {a b:Int} {nm:List UInt8} {pe:Option Addr} {ks:List Ex} {ce:Nat}
def rN (D:MD)(kd a b:Int)(nm:List UInt8)(pe:Option Addr)(ks:List Ex)(ce:Nat)(j:Int)(f:Nat->Bool):Prop:= ∀(bd c:Nat) (K:Nat->Bool) (W:World),MI D K W->W.heap[bd]? =ah #[ab D.g 0] 128->
 W.heap[c]? =ah #[ag kd,ag a,ag b,.string ⟨nm.toArray⟩,.slice pe ks.length ce] 78->bd≠D.gk->bd≠D.gm->c≠D.gk->c≠D.gm->
 Calls prog 83 #[ag j,ab bd 0,ab c 0] W fun r d=>r= .returned (.agg (mv f))/\MQ D (Les K) W d
theorem MQ.kid {e l:World}{kd j:Int}{f:Nat->Bool}{bd i:Nat}(k:MI D K0 W)(p:MQ D (Les K0) e l)(v:rN D kd a b nm pe ks ce j f)(w:e.heap[bd]? =ah #[ab D.g 0] 128)
  (x:e.heap[i]? =ah #[ag kd,ag a,ag b,.string ⟨nm.toArray⟩,.slice pe ks.length ce] 78) (s:W.heap.size<=bd) (t:W.heap.size<=i):
  Calls prog 83 #[ag j,ab bd 0,ab i 0] l fun r q=>r= .returned (.agg (mv f))/\MQ D (Les K0) e q:=by
 have n:=p.own k s w;have o:=p.own k t x;have y:=k.lts D.gk (by simp);have z:=k.lts D.gm (by simp);obtain⟨⟨K1,m,d⟩,c⟩:=p;refine(v bd i K1 l m n o (by omega) (by omega) (by omega) (by omega)).mono ?_;rintro r q ⟨rfl,u⟩;exact⟨rfl,MQ.on d c u⟩
def ExC (D:MD)(K0:Nat->Bool)(W:World)(kd a b:Int)(nm:List UInt8)(pe:Option Addr)(ks:List Ex)(ce:Nat)(f:Nat->Bool):Prop:=Calls prog 45 #[ab D.g 0,.agg #[ag kd,ag a,ag b,.string ⟨nm.toArray⟩,.slice pe ks.length ce]] W fun r c=>r= .returned (.agg (mv f))/\MQ D (Les K0) W c
theorem kK {kd:Int}{f:Nat->Bool}(h:MI D K0 W)(H: ∀c,((W.alloc (.cells #[ab D.g 0] 128)).alloc (.cells #[ag kd,ag a,ag b,.string ⟨nm.toArray⟩,.slice pe ks.length ce] 78)).alloc (.cells (mv fun _=>false) 39)=c->ao W c->c.heap[W.heap.size]? =ah #[ab D.g 0] 128->c.heap[W.heap.size+1]? =ah #[ag kd,ag a,ag b,.string ⟨nm.toArray⟩,.slice pe ks.length ce] 78->c.heap[W.heap.size+1+1]? =ah (mv fun _=>false) 39->c.cell? (ae (W.heap.size+1) 0)=some (ag kd)->MI D K0 c->MQ D (Les K0) c c->Calls prog 45 #[ab D.g 0,.agg #[ag kd,ag a,ag b,.string ⟨nm.toArray⟩,.slice pe ks.length ce]] W fun r d=>r= .returned (.agg (mv f))/\MQ D (Les K0) W d):ExC D K0 W kd a b nm pe ks ce f:=by
 have b3:=((am W (.cells #[ab D.g 0] 128)).alloc (by simp) (.cells #[ag kd,ag a,ag b,.string ⟨nm.toArray⟩,.slice pe ks.length ce] 78)).alloc (by simp only[aP];omega) (.cells (mv fun _=>false) 39);exact H _ rfl b3 (by(repeat (first|refine dh _ _ _ (by simp only[aP];omega) ?_|exact dA _ _ _ (by first|rfl|simp only[aP])))) (by(repeat (first|refine dh _ _ _ (by simp only[aP];omega) ?_|exact dA _ _ _ (by first|rfl|simp only[aP])))) (by(repeat (first|refine dh _ _ _ (by simp only[aP];omega) ?_|exact dA _ _ _ (by first|rfl|simp only[aP])))) ((aW _ _ 0 _ _ _ (by(repeat (first|refine dh _ _ _ (by simp only[aP];omega) ?_|exact dA _ _ _ (by first|rfl|simp only[aP]))))).trans rfl) (h.later b3) (MQ.start (h.later b3) (aF _ _))
theorem lZ {a b:World}{f z:Nat->Bool}(h:MI D K0 W)(b3:ao W a)(d:MQ D (Les K0) a b)(k:a.heap[W.heap.size+1+1]? =ah (mv z) 39): ∀ ⦃c:Func⦄ ⦃A:Act⦄ ⦃p:Nat⦄,c.results= #[.cell p 39]->A.tmps.getD p undef=ab (W.heap.size+1+1) 0->A.defers=[]->bodyPost prog c (fun r e=>r= .returned (.agg (mv f))/\MQ D (Les K0) W e) .ret A (b.setRow (W.heap.size+1+1) (mv f)):=fun _ _ _ g i j=>
 aX (v:= .agg (mv f)) (bn g _ _ (W.heap.size+1+1) _ _ _ _ i (aK _ _ _ _ _ _ (d.own h (by omega) k)) cj rfl (bg _)) j ⟨rfl,MQ.ret h b3 (by omega) d (mv f)⟩
theorem Gy {W:World}{g:Nat}{x y:Int}{t:TypeId}(a:W.heap[g]? =ah #[ag x,ag y] t):Row W (.slice (some (ae g 0)) 1 1) [(x,y)]:=by
 refine .inr ⟨_,0,1,rfl,by simp,fun j b=> ?_⟩;have:j=0:=by simpa using b
 subst this;exact⟨by rw[aW _ _ _ _ _ _ a];rfl,by rw[aW _ _ _ _ _ _ a];rfl⟩
theorem Rw {f0 f1:Nat->Bool}(h:MI D K0 W)(c0:rN D 6 a b nm pe ks ce 0 f0)(c1:rN D 6 a b nm pe ks ce 1 f1):ExC D K0 W 6 a b nm pe ks ce (fun i=>(f0 i||f1 i)&&decide (i<1440)):=by
 refine kK h fun t m b3 d e g y w p=> ?_;have x:=ea;go_enter func45,ntmps45;go_wp2_with fail;refine(MQ.kid h p c0 d e (by omega) (by omega)).mono ?_;rintro r u ⟨rfl,q⟩;go_wp2_with fail;refine(MQ.kid h q c1 d e (by omega) (by omega)).mono ?_;rintro r l ⟨rfl,s⟩;go_wp2_with fail;refine(Bo f0 f1 l).mono ?_;rintro r v ⟨rfl,c⟩;have j:=s.low c;have n:=j.own h (by omega) g;have k:=aG (lZ h b3 j g (f:=(fun i=>(f0 i||f1 i)&&decide (i<1440))));go_wp2_with(refine aC rfl 39 _ _ rfl _ _ rfl rfl _ _ n (bg _) (by simp[bU]) (dI _) ?_)
 exact k.o rfl rfl rfl
theorem Rx {f0 f1:Nat->Bool}(h:MI D K0 W)(c0:rN D 7 a b nm pe ks ce 0 f0)(c1:rN D 7 a b nm pe ks ce 1 f1):ExC D K0 W 7 a b nm pe ks ce (fun i=>(f0 i&& !f1 i)&&decide (i<1440)):=by
 refine kK h fun t m b3 d e g y w p=> ?_;have x:=ea;go_enter func45,ntmps45;go_wp2_with fail;refine(MQ.kid h p c0 d e (by omega) (by omega)).mono ?_;rintro r u ⟨rfl,q⟩;go_wp2_with fail;refine(MQ.kid h q c1 d e (by omega) (by omega)).mono ?_;rintro r l ⟨rfl,s⟩;go_wp2_with fail;refine(ro f0 f1 l).mono ?_;rintro r v ⟨rfl,c⟩;have j:=s.low c;have n:=j.own h (by omega) g;have k:=aG (lZ h b3 j g (f:=(fun i=>(f0 i&& !f1 i)&&decide (i<1440))));go_wp2_with(refine aC rfl 39 _ _ rfl _ _ rfl rfl _ _ n (bg _) (by simp[bU]) (dI _) ?_)
 exact k.o rfl rfl rfl
theorem Ry {f0 f1:Nat->Bool}(h:MI D K0 W)(c0:rN D 8 a b nm pe ks ce 0 f0)(c1:rN D 8 a b nm pe ks ce 1 f1):ExC D K0 W 8 a b nm pe ks ce (fun i=>(f0 i&&f1 i)&&decide (i<1440)):=by
 refine kK h fun t m b3 d e g y w p=> ?_;have x:=ea;go_enter func45,ntmps45;go_wp2_with fail;refine(MQ.kid h p c0 d e (by omega) (by omega)).mono ?_;rintro r u ⟨rfl,q⟩;go_wp2_with fail;refine(MQ.kid h q c1 d e (by omega) (by omega)).mono ?_;rintro r l ⟨rfl,s⟩;go_wp2_with fail;refine(C5 f0 f1 l).mono ?_;rintro r v ⟨rfl,c⟩;have j:=s.low c;have n:=j.own h (by omega) g;have k:=aG (lZ h b3 j g (f:=(fun i=>(f0 i&&f1 i)&&decide (i<1440))));go_wp2_with(refine aC rfl 39 _ _ rfl _ _ rfl rfl _ _ n (bg _) (by simp[bU]) (dI _) ?_)
 exact k.o rfl rfl rfl
theorem PN {f0:Nat->Bool}(h:MI D K0 W)(q:0<=D.day)(s:D.day<146097)(u:wkB D.day a=true)(c0:rN D 4 a b nm pe ks ce 0 f0):ExC D K0 W 4 a b nm pe ks ce f0:=by
 refine kK h fun e v b3 j k l E t x=> ?_;have B:=ea;have d:wj e D.g D.day D.lv D.mb (.slice (some (ae D.gk 0)) D.n D.n) (.slice (some (ae D.gm 0)) D.n D.n):=⟨t.blk⟩
 have i:=OA D.g D.day D.lv D.mb _ _ (⟨4,a,b,nm,ks⟩:Ex) pe ce e d q s rfl;rw[u]at i;have C:=ak 0 j;go_enter func45,ntmps45;go_wp2_with(refine aO rfl 78 _ rfl _ rfl _ _ _ _ k p8 rfl (by kernel_rfl) ?_)
 refine i.mono ?_;rintro r z ⟨rfl,c⟩;have y:=x.low c;go_wp2_with fail;refine(MQ.kid h y c0 j k (by omega) (by omega)).mono ?_;rintro r A ⟨rfl,m⟩;have w:=m.own h (by omega) l;have p:=aG (lZ h b3 m l (f:=f0));go_wp2_with(refine aC rfl 39 _ _ rfl _ _ rfl rfl _ _ w (bg _) (by simp[bU]) (dI _) ?_)
 exact p.o rfl rfl rfl
theorem PO (h:MI D K0 W)(m:0<=D.day)(p:D.day<146097)(s:wkB D.day a=false):ExC D K0 W 4 a b nm pe ks ce (fun _=>false):=by
 refine kK h fun e t b3 v w j B q x=> ?_;have z:=ea;have d:wj e D.g D.day D.lv D.mb (.slice (some (ae D.gk 0)) D.n D.n) (.slice (some (ae D.gm 0)) D.n D.n):=⟨q.blk⟩
 have i:=OA D.g D.day D.lv D.mb _ _ (⟨4,a,b,nm,ks⟩:Ex) pe ce e d m p rfl;rw[s]at i;have A:=ak 0 v;go_enter func45,ntmps45;go_wp2_with(refine aO rfl 78 _ rfl _ rfl _ _ _ _ w p8 rfl (by kernel_rfl) ?_)
 refine i.mono ?_;rintro r y ⟨rfl,c⟩;have k:=x.low c;have u:=k.own h (by omega) j;have l:=aG (lZ h b3 k j (f:=(fun _=>false)));go_wp2_with(refine aC rfl 39 _ _ rfl _ _ rfl rfl _ _ u (bg _) (by simp[bU]) (dI _) ?_)
 exact l.o rfl rfl rfl
theorem PP {f0:Nat->Bool}(h:MI D K0 W)(_:0<=D.day)(_:D.day<146097)(s:(decide (a<=D.day)&&decide (D.day<=b))=true)(c0:rN D 5 a b nm pe ks ce 0 f0):ExC D K0 W 5 a b nm pe ks ce f0:=by
 refine kK h fun e t b3 j k l B q v=> ?_;have z:=ea;have d:wj e D.g D.day D.lv D.mb (.slice (some (ae D.gk 0)) D.n D.n) (.slice (some (ae D.gm 0)) D.n D.n):=⟨q.blk⟩
 have i:=OB D.g D.day D.lv D.mb _ _ (⟨5,a,b,nm,ks⟩:Ex) pe ce e d rfl;rw[s]at i;have A:=ak 0 j;go_enter func45,ntmps45;go_wp2_with(refine aO rfl 78 _ rfl _ rfl _ _ _ _ k p8 rfl (by kernel_rfl) ?_)
 refine i.mono ?_;rintro r x ⟨rfl,c⟩;have w:=v.low c;go_wp2_with fail;refine(MQ.kid h w c0 j k (by omega) (by omega)).mono ?_;rintro r y ⟨rfl,m⟩;have u:=m.own h (by omega) l;have p:=aG (lZ h b3 m l (f:=f0));go_wp2_with(refine aC rfl 39 _ _ rfl _ _ rfl rfl _ _ u (bg _) (by simp[bU]) (dI _) ?_)
 exact p.o rfl rfl rfl
theorem PQ (h:MI D K0 W)(_:0<=D.day)(_:D.day<146097)(p:(decide (a<=D.day)&&decide (D.day<=b))=false):ExC D K0 W 5 a b nm pe ks ce (fun _=>false):=by
 refine kK h fun e q b3 t u j z m v=> ?_;have x:=ea;have d:wj e D.g D.day D.lv D.mb (.slice (some (ae D.gk 0)) D.n D.n) (.slice (some (ae D.gm 0)) D.n D.n):=⟨m.blk⟩
 have i:=OB D.g D.day D.lv D.mb _ _ (⟨5,a,b,nm,ks⟩:Ex) pe ce e d rfl;rw[p]at i;have y:=ak 0 t;go_enter func45,ntmps45;go_wp2_with(refine aO rfl 78 _ rfl _ rfl _ _ _ _ u p8 rfl (by kernel_rfl) ?_)
 refine i.mono ?_;rintro r w ⟨rfl,c⟩;have k:=v.low c;have s:=k.own h (by omega) j;have l:=aG (lZ h b3 k j (f:=(fun _=>false)));go_wp2_with(refine aC rfl 39 _ _ rfl _ _ rfl rfl _ _ s (bg _) (by simp[bU]) (dI _) ?_)
 exact l.o rfl rfl rfl
end
section
variable {D:MD} {K0:Nat->Bool} {W:World} {a b:Int} {nm:List UInt8} {pe:Option Addr} {ks:List Ex} {ce:Nat}
theorem PR:mv (inl [((0:Int),(1440:Int))])=mv fun i=>decide (i<1440):=jj fun i _=>by
 have:((i:Int)<1440)=(i<1440):=by apply propext;omega
 simp[inl,this]
theorem Nx (a b:Int):mv (inl [(a,b)])=mv fun i=>(decide (a<=(i:Int))&&decide ((i:Int)<b))&&decide (i<1440):=jj fun i _=>by
 simp[inl]
theorem Rz (h:MI D K0 W):ExC D K0 W 1 a b nm pe ks ce (fun _=>false):=by
 refine kK h fun k g b3 n p c q l j=> ?_;have m:=ea;have d:=j;have i:=d.own h (by omega) c;have e:=aG (lZ h b3 d c (f:=fun _=>false));go_enter func45,ntmps45;go_wp2_with(refine aC rfl 39 _ _ rfl _ _ rfl rfl _ _ i (bg _) (by simp[bU]) (dI _) ?_)
 exact e.o rfl rfl rfl
theorem RA (h:MI D K0 W):ExC D K0 W 2 a b nm pe ks ce (fun i=>decide (i<1440)):=by
 refine kK h fun c n b3 y e g z w t=> ?_;have x:=ea;have A:=ak 1 e;have B:=ak 2 e;have m:=am c (.cells #[ag 0,ag 1440] 171);have q:=aB c (.cells #[ag 0,ag 1440] 171);generalize p:c.alloc (.cells #[ag 0,ag 1440] 171)=l at*;have cF:=uT _ _ l (Gy q);rw[PR]at cF;have u:=t.low m;go_enter func45,ntmps45;go_wp2_with fail;refine cF.mono ?_;rintro r v ⟨rfl,d⟩;have j:=u.low d;have s:=j.own h (by omega) g;have k:=aG (lZ h b3 j g (f:=(fun i=>decide (i<1440))));go_wp2_with(refine aC rfl 39 _ _ rfl _ _ rfl rfl _ _ s (bg _) (by simp[bU]) (dI _) ?_)
 exact k.o rfl rfl rfl
theorem RB (h:MI D K0 W):ExC D K0 W 3 a b nm pe ks ce (fun i=>(decide (a<=(i:Int))&&decide ((i:Int)<b))&&decide (i<1440)):=by
 refine kK h fun c n b3 y e g z w t=> ?_;have x:=ea;have A:=ak 1 e;have B:=ak 2 e;have m:=am c (.cells #[ag a,ag b] 171);have q:=aB c (.cells #[ag a,ag b] 171);generalize p:c.alloc (.cells #[ag a,ag b] 171)=l at*;have cF:=uT _ _ l (Gy q);rw[Nx a b]at cF;have u:=t.low m;go_enter func45,ntmps45;go_wp2_with fail;refine cF.mono ?_;rintro r v ⟨rfl,d⟩;have j:=u.low d;have s:=j.own h (by omega) g;have k:=aG (lZ h b3 j g (f:=(fun i=>(decide (a<=(i:Int))&&decide ((i:Int)<b))&&decide (i<1440))));go_wp2_with(refine aC rfl 39 _ _ rfl _ _ rfl rfl _ _ s (bg _) (by simp[bU]) (dI _) ?_)
 exact k.o rfl rfl rfl
theorem RD {f0:Nat->Bool}(h:MI D K0 W)(B: -9223372036854775808<=a)(C:a<=9223372036854775807)(c0:rN D 9 a b nm pe ks ce 0 f0):ExC D K0 W 9 a b nm pe ks ce (shf f0 a):=by
 refine kK h fun u x b3 z p q L E A=> ?_;have J:=ea;have r:=aG c0;go_enter func45,ntmps45;go_wp2_with fail;refine mV 5 (MQ D (Les K0) u) [kn 54 (.func (.func 83) #[] #[ab W.heap.size 0,ab (W.heap.size+1) 0]),dk 55 (.agg (mv f0)),kn 56 (ab (W.heap.size+1) 1),kn 57 (ag a),dk 58 (.agg (mv (shf f0 a))),nk] A.drew (fun _ _ w h=>h.low w) (by kernel_rfl) (by kernel_rfl) fun M φ m g e F l n j=> ?_;have k:m.cell? (ae (W.heap.size+1) 1)=some (ag a):=(aW _ _ 1 _ _ _ (e.own h (show W.heap.size<=W.heap.size+1 by omega) p)).trans rfl;simp only[kn,dk,nk,d6,aR,a8,Act.put,aD,aJ,aI]at n;subst n;simp only[dz,Nat.reduceAdd]at j;dsimp only[kn,dk,nk,dK,fo,eD,Act.put];and_intros;all_goals first|exact trivial|intro I H G K i
 all_goals try (go_simp;with_reducible exact i _ _ ⟨rfl,aF _ _⟩)
 all_goals clear k
 ·go_simp;refine(MQ.kid h e r.o z p (by omega) (by omega)).mono ?_;rintro v t ⟨rfl,d⟩;exact i _ _ ⟨rfl,fun _=>d,fun c=>by simp[g]at c⟩
 ·go_simp;refine(yM f0 a m (by omega) (by omega)).mono ?_;rintro v t ⟨rfl,d⟩;exact i _ _ ⟨rfl,fun _=>e.low d,fun c=>by simp[g]at c⟩
 have y:=e.own h (show W.heap.size<=W.heap.size+1+1 by omega) q;show Oper.wp _ _ _ _ _ _;refine eo 39 _ _ rfl (W.heap.size+1+1) (mv (shf f0 a)) (by simp[Act.eval,j]) (by simp[Act.eval,j]) _ _ y (bg _) (by simp[bU]) (dI _) ?_;refine i undef _ ⟨trivial,fun c=>by simp at c,fun _=> ?_⟩;simp only[ep,aR,a8,Act.put,aD,aJ,aI];have s:=aG (lZ h b3 e q (f:=(shf f0 a)));go_wp2_with fail;exact s.o rfl rfl rfl
theorem PS {f0:Nat->Bool}{R:(Nat->Bool)->Prop}(h:MI D K0 W)(H:0<=atP5 D.l nm)(c0: ∀(K:Nat->Bool) (W:World),MI D K W->Calls prog 18 #[ab D.g 0,ag (atP5 D.l nm)] W fun r x=>r= .returned (.agg (mv f0))/\MQ D (fun w=>Les K w/\R w) W x):ExC D K0 W 10 a b nm pe ks ce f0:=by
 refine kK h fun C G b3 J L z V P N=> ?_;have U:=ea;have A:=aG c0;go_enter func45,ntmps45;go_wp2_with fail;refine mV 9 (MQ D (Les K0) C) [kn 61 (ab D.g 0),kn 62 (ab D.g 0),kn 63 (ab D.g 0),kn 64 (ab D.g 2),kn 65 (.map (some D.mb)),kn 66 (ab (W.heap.size+1) 3),kn 67 (.string ⟨nm.toArray⟩),kn 68 (ag (atP5 D.l nm)),dk 69 (.agg (mv f0)),nk] N.drew (fun _ _ E h=>h.low E) (by kernel_rfl) (by kernel_rfl) fun M φ j p d F l y k=> ?_;have s:j.cell? (ae W.heap.size 0)=some (ab D.g 0):=(aW _ _ 0 _ _ _ (d.own h (show W.heap.size<=W.heap.size by omega) J)).trans rfl;have t:j.cell? (ae D.g 2)=some (.map (some D.mb)):=ak 2 d.blk;have u:j.cell? (ae (W.heap.size+1) 3)=some (.string ⟨nm.toArray⟩):=(aW _ _ 3 _ _ _ (d.own h (show W.heap.size<=W.heap.size+1 by omega) L)).trans rfl;have v:=Ia d.nums nm H;simp only[kn,dk,nk,d6,aR,a8,Act.put,aD,aJ,aI]at y;subst y;simp only[dz,Nat.reduceAdd]at k;dsimp only[kn,dk,nk,dK,fo,eD,Act.put];and_intros;all_goals first|exact trivial|intro T S Q K m
 all_goals try (go_simp;with_reducible exact m _ _ ⟨rfl,aF _ _⟩)
 all_goals clear s t u v
 ·obtain⟨⟨K1,n,i⟩,e⟩:=id d;go_simp;refine(A.o K1 j n).mono ?_;rintro O x ⟨rfl,q⟩;exact m _ _ ⟨rfl,fun _=>MQ.onP i e q,fun c=>by simp[p]at c⟩
 have I:=d.own h (show W.heap.size<=W.heap.size+1+1 by omega) z;show Oper.wp _ _ _ _ _ _;refine eo 39 _ _ rfl (W.heap.size+1+1) (mv f0) (by simp[Act.eval,k]) (by simp[Act.eval,k]) _ _ I (bg _) (by simp[bU]) (dI _) ?_;refine m undef _ ⟨trivial,fun c=>by simp at c,fun _=> ?_⟩;simp only[ep,aR,a8,Act.put,aD,aJ,aI];have B:=aG (lZ h b3 d z (f:=f0));go_wp2_with fail;exact B.o rfl rfl rfl
end
namespace Lx
def OKE (e:Ex):Prop:= ∃a n,(shapeP e a n).1=0
theorem OKE.alone {e:Ex}(h:OKE e):aloneP e=0:=by
 obtain⟨b,n,h⟩:=h;rw[jd]at h;split at h
 ·cases h
 ·split at h
  ·rename_i a;exact absurd h a
  ·rename_i a;simpa using a
theorem zL {b:Nat}: ∀{f:List Ex} {a:Int×Nat},(gF f b a).1=0-> ∀k∈f,OKE k
 |[],_,_,k,c=>by cases c
 |g::f,a,h,k,c=>by
  rw[gT]at h;by_cases d:a.1≠0
  ·rw[ax d,jX d]at h;exact absurd h d
  rw[aw d]at h
  have e:(shapeP g b a.2).1=0:=by
   by_cases e:(shapeP g b a.2).1=0
   ·exact e
   ·rw[jX e]at h;exact h
  rcases bv.1 c with rfl|c
  ·exact⟨_,_,e⟩
  ·exact zL h k c
theorem OKE.kid {e k:Ex}(h:OKE e)(b:k∈e.kids):OKE k:=by
 have ha:=h.alone;obtain⟨a,n,h⟩:=h;rw[jd]at h;split at h
 ·cases h
 ·rw[aw (by simpa using ha)]at h;exact zL h k b
theorem OKE.kinds {e:Ex}(h:OKE e):1<=e.kind/\e.kind<=10/\e.kids.length=kidsP e.kind/\rangeP e.kind e.a e.b=true/\(e.kind=10->Go.Proofs.YtpdoienkhgnceaaGreatDoor.namedL e.name=true):=by
 have ha:=h.alone;unfold aloneP at ha;split at ha
 ·cases ha
 ·split at ha
  ·cases ha
  ·split at ha
   ·cases ha
   ·split at ha
    ·cases ha
    ·rename_i i c d f;refine⟨by omega,by omega,by simpa using c,by simpa using d,fun g=> ?_⟩;cases hn:Go.Proofs.YtpdoienkhgnceaaGreatDoor.namedL e.name with
     |true=>rfl
     |false=>exact absurd ⟨g,hn⟩ f
theorem OKE.kid0 {e:Ex}(h:OKE e)(a:1<=kidsP e.kind): ∃k,e.kids[0]? =some k/\OKE k:=by
 have b:=h.kinds.2.2.1;exact⟨e.kids[0]'(by omega),az _,h.kid (List.getElem_mem _)⟩
theorem OKE.kid1 {e:Ex}(h:OKE e)(a:2<=kidsP e.kind): ∃k,e.kids[1]? =some k/\OKE k:=by
 have b:=h.kinds.2.2.1;exact⟨e.kids[1]'(by omega),az _,h.kid (List.getElem_mem _)⟩
end Lx
section
theorem zN: ∀{l:List Ru} {i:Nat},(iA l i).1=0-> ∀u∈l,OKE u.2
 |[],_,_,u,a=>by cases a
 |v::l,i,h,u,a=>by
  unfold iA at h;split at h
  ·rename_i c;exact absurd h c
  ·rename_i c;rcases bv.1 a with rfl|a
   ·have b:ruleP u=0:=(by simpa using c);unfold ruleP at b;split at b
    ·cases b
    ·exact⟨_,_,b⟩
   ·exact zN h u a
theorem ua {l:List Ru}(h:(dQ7 l).1=0):l.length<=40/\ ∀u∈l,OKE u.2:=by
 unfold dQ7 at h;split at h
 ·cases h
 ·exact⟨by omega,zN h⟩
def zO (D:MD)(i:Int)(f:Nat->Bool):Prop:= ∀(K:Nat->Bool) (W:World),MI D K W->Calls prog 18 #[ab D.g 0,ag i] W fun r b=>r= .returned (.agg (mv f))/\MQ D (fun a=>Les K a/\a i.toNat=true) W b
section
variable {wk:Bool} {day a b:Int} {nm:Nat->Bool} {ks:List (Nat->Bool)}
theorem RF:nO wk day 1 a b nm ks=fun _=>false:=rfl
theorem RG:nO wk day 2 a b nm ks=fun i=>decide (i<1440):=rfl
theorem RH:nO wk day 3 a b nm ks=fun i:Nat=>(decide (a<=(i:Int))&&decide ((i:Int)<b))&&decide (i<1440):=rfl
theorem KY:nO wk day 4 a b nm ks=if wk=true then ks.getD 0 nev else fun _=>false:=rfl
theorem KZ:nO wk day 5 a b nm ks=if a<=day/\day<=b then ks.getD 0 nev else fun _=>false:=rfl
theorem K4:nO wk day 6 a b nm ks=fun i=>(ks.getD 0 nev i||ks.getD 1 nev i)&&decide (i<1440):=rfl
theorem K5:nO wk day 7 a b nm ks=fun i=>(ks.getD 0 nev i&& !ks.getD 1 nev i)&&decide (i<1440):=rfl
theorem K6:nO wk day 8 a b nm ks=fun i=>(ks.getD 0 nev i&&ks.getD 1 nev i)&&decide (i<1440):=rfl
theorem K7:nO wk day 9 a b nm ks=shf (ks.getD 0 nev) a:=rfl
theorem Gz:nO wk day 10 a b nm ks=nm:=rfl
end
theorem mM {F:Ex->Nat->Bool}{ks:List Ex}{j:Nat}{k:Ex}(h:ks[j]? =some k):(ks.map F).getD j nev=F k:=by
 rw[eE,bf,h];rfl
theorem zP {D:MD}{K0:Nat->Bool}{W:World}{env:List UInt8->Nat->Bool}{e:Ex}{pe:Option Addr}{ce:Nat}(h:MI D K0 W)(n:OKE e)(s:0<=D.day)(t:D.day<146097)
  (c: ∀(j:Nat) (k:Ex),e.kids[j]? =some k->rN D e.kind e.a e.b e.name pe e.kids ce (j:Int) (fA (wkB D.day) D.day env k)) (o:e.kind=10->0<=atP5 D.l e.name/\zO D (atP5 D.l e.name) (env e.name)):
  Calls prog 45 #[ab D.g 0,exV e (.slice pe e.kids.length ce)] W fun r u=>r= .returned (.agg (mv (fA (wkB D.day) D.day env e)))/\MQ D (Les K0) W u:=by
 have z:=jF (wkB D.day) D.day env e;obtain⟨C,E,_,y,_⟩:=n.kinds;have p:=fun d=>n.kid0 d;have m:=fun d=>n.kid1 d;obtain⟨kd,a,b,nm,ks⟩:=e;unfold exV;dsimp only at*;have x:kd=1\/kd=2\/kd=3\/kd=4\/kd=5\/kd=6\/kd=7\/kd=8\/kd=9\/kd=10:=by omega
 rw[z];rcases x with rfl|rfl|rfl|rfl|rfl|rfl|rfl|rfl|rfl|rfl
 ·rw[RF];exact Rz h
 ·rw[RG];exact RA h
 ·rw[RH];exact RB h
 ·obtain⟨k,d,_⟩:=p (by decide);rw[KY,mM d];cases i:wkB D.day a with
  |true=>exact PN h s t i (c 0 k d)
  |false=>exact PO h s t i
 ·obtain⟨k,d,_⟩:=p (by decide);rw[KZ,mM d];by_cases i:a<=D.day/\D.day<=b
  ·rw[ax i];exact PP h s t (by simp[i.1,i.2]) (c 0 k d)
  ·rw[aw i]
   exact PQ h s t (by
    by_cases m:a<=D.day
    ·simp[m,show¬D.day<=b from fun v=>i ⟨m,v⟩]
    ·simp[m])
 ·obtain⟨k,d,_⟩:=p (by decide);obtain⟨q,f,_⟩:=m (by decide);rw[K4,mM d,mM f];exact Rw h (c 0 k d) (c 1 q f)
 ·obtain⟨k,d,_⟩:=p (by decide);obtain⟨q,f,_⟩:=m (by decide);rw[K5,mM d,mM f];exact Rx h (c 0 k d) (c 1 q f)
 ·obtain⟨k,d,_⟩:=p (by decide);obtain⟨q,f,_⟩:=m (by decide);rw[K6,mM d,mM f];exact Ry h (c 0 k d) (c 1 q f)
 ·obtain⟨k,d,_⟩:=p (by decide);rw[K7,mM d];have B:a≠0/\ -1440<a/\a<1440:=(by simpa[rangeP] using y);exact RD h (by omega) (by omega) (c 0 k d)
 ·rw[Gz];obtain⟨A,w⟩:=o rfl;exact PS h A w
theorem K8 {D:MD}{env:List UInt8->Nat->Bool}(A:0<=D.day)(B:D.day<146097): ∀(d:Nat) (e:Ex) (sl:Value),fV (fun k=>k<D.w.heap.size) d D.w sl e.kids->OKE e->(∀x∈nms e,0<=atP5 D.l x/\zO D (atP5 D.l x) (env x))-> ∀(K:Nat->Bool) (W:World),MI D K W->
  Calls prog 45 #[ab D.g 0,exV e sl] W fun r s=>r= .returned (.agg (mv (fA (wkB D.day) D.day env e)))/\MQ D (Les K) W s:=by
 have none: ∀(e:Ex) (p:Option Addr) (c:Nat),e.kids=[]->OKE e->(∀x∈nms e,0<=atP5 D.l x/\zO D (atP5 D.l x) (env x))-> ∀(K:Nat->Bool) (W:World),MI D K W->
   Calls prog 45 #[ab D.g 0,exV e (.slice p 0 c)] W fun r s=>r= .returned (.agg (mv (fA (wkB D.day) D.day env e)))/\MQ D (Les K) W s:=fun e p c m a i K W n=>by
  have:=zP (env:=env) (pe:=p) (ce:=c) n a A B (fun j k q=>by rw[m]at q;simp at q) fun f=>i e.name (by rw[mw,ax f];simp);rw[m]at this;exact this
 intro d;induction d with
 |zero=>
  intro e sl f a i K W n;obtain⟨m,p,c,rfl⟩:=f;exact none e p c m a i K W n
 |succ d J=>
  intro e sl f a i K W n;rcases f with⟨m,p,c,rfl⟩|⟨g,o,c,_,rfl,H,z⟩
  ·exact none e p c m a i K W n
  ·refine zP n a A B (fun j k q=> ?_) fun f=>i e.name (by rw[mw,ax f];simp);obtain⟨_,T,c0,c1,E,F,G,r⟩:=z j k q;obtain⟨S,R,rfl⟩:=r.form;have b:k∈e.kids:=aL q;intro bd Q P s t v y L M N O
   exact PM t q H v y L M N O c0 c1 E F G fun K2 C u=>J k _ r (a.kid b) (fun x I=>i x (by
    rw[mw,cZ];right;unfold jM;exact List.mem_flatten.2 ⟨nms k,dB.2 ⟨k,b,rfl⟩,I⟩)) K2 C u
theorem BX {D:MD}{t:List (Ru×Value)}(a:InR D.w D.lv t)(E:t.map (fun p=>p.1)=D.l)(v:t.length=D.n)(k:(dm D.l).1=0)(G:0<=D.day)(H:D.day<146097)(B: ∀i,D.V i=gL D.l (wkB D.day) D.day i):
  ∀(m i:Nat),i<D.n->muR D.l i<m->zO D (i:Int) (D.V i)
 |0,_,_,h=>by omega
 |m+1,i,hi,U=>by
  intro K W z;obtain⟨F,q⟩:=ma k;obtain⟨Q,s⟩:=ua F;have S:D.l.length=D.n:=(by rw[<-E,bm,v]);cases hK:K i with
  |true=>
   obtain⟨M,O,P⟩:=id z;refine(IG O hi (by omega) hK).mono ?_;rintro r Y ⟨rfl,C⟩;rw[P i hi hK];exact⟨rfl,⟨K,z.later C,Les.refl K,hK⟩,Kp.below C⟩
  |false=>
   obtain⟨⟨u,sl⟩,y⟩: ∃p,t[i]? =some p:=⟨t[i]'(by omega),az _⟩
   have c:D.l[i]? =some u:=(by rw[<-E,bf,y];rfl);obtain⟨_,_,d,g⟩:=a.all _ (aL y);dsimp only at g;obtain⟨ps,Z,rfl⟩:=g.form;obtain⟨pv,cv,j⟩:=a.form;have f:=a;rw[j]at f;obtain⟨b,o,rfl,_⟩:=f.cells i _ y;rw[v]at j;refine Nw a (by omega) j v y z hK fun K2 N A=> ?_;have I:=K8 (env:=fun x=>D.V (atP5 D.l x).toNat) G H d u.2 _ g (s u (aL c)) (fun x L=> ?_) K2 N A
   ·have e:fA (wkB D.day) D.day (fun x=>D.V (atP5 D.l x).toNat) u.2=D.V i:=by
     rw[B i,pG k c];exact oN _ _ (aA _) fun x _=>B _
    rw[e]at I;exact I
   ·have J:=oO k c L;have T:=tq k (by omega) J;have R:=nL q i _ J;have C:=(py D.l x).1
    have X:atP5 D.l x≠ -1:=fun e=>q u (aL c) (by
     unfold gj;exact(qI _ _).2 (.inr ⟨x,L,e⟩))
    refine⟨by omega,?_⟩;have:=BX a E v k G H B m (atP5 D.l x).toNat (by omega) (by omega);rw[show(((atP5 D.l x).toNat:Nat):Int)=atP5 D.l x by omega]at this;exact this
end
end Go.Proofs.YtpdoienkhgnceaaGreatDoor
