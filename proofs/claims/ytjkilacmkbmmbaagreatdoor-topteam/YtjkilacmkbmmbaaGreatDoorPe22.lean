/- Texts of the proof. -/
import Derived.Test.YtjkilacmkbmmbaaGreatDoorPe20
import Derived.Test.YtjkilacmkbmmbaaGreatDoorPe05
set_option maxRecDepth 100000
set_option maxHeartbeats 8000000
namespace Go.Proofs.YtjkilacmkbmmbaaGreatDoor
open Go.Proofs.Tryz Go.RowKit Lx Vx Mx Msk
namespace Lx
end Lx
theorem ml {l:List Ru}(hno: ∀u∈l,-1∉fz l u): ∀r,∀k∈iy l r,k<l.length:=fun i k hk'=>by
 unfold iy at hk';split at hk'
 ·rename_i u hu;unfold oN at hk';obtain⟨m,hm,rfl⟩:=dw.1 hk';have hb:=(r9 (l:=l) (nms u.2) [] List.nodup_nil (fun m hm=>by cases hm)).2 m hm;have hne:m≠ -1:=fun e=>hno u (aM hu) (e▸hm);omega
 ·cases hk'
theorem yK {p:Nat->Bool}: ∀(k i:Nat),frF p i k=none-> ∀j,i<=j->j<i+k->p j=false
 |0,i,_,j,a,b=>by omega
 |k+1,i,h,j,a,b=>by
  rw[frF]at h;split at h
  ·cases h
  ·rename_i hn;by_cases e:j=i
   ·rw[e];simpa using hn
   ·exact yK k (i+1) h j (by omega) (by omega)
theorem DQ {l:List Ru}(h:(di l).1=0):(∀i,i<l.length->lk1 l i=false)/\ ∀i,i<l.length->lk3 l i=false:=by
 unfold di at h;split at h
 ·rename_i h0;exact absurd h h0
 ·split at h
  ·cases h
  ·rename_i h1;split at h
   ·cases h
   ·split at h
    ·cases h
    ·rename_i h3;exact⟨fun i hi=>yK l.length 0 h1 i (by omega) (by omega),fun i hi=>yK l.length 0 h3 i (by omega) (by omega)⟩
theorem Ms {m:Nat->Bool}{n:Nat}{x:Int}:x∈mkL m n↔ ∃k:Nat,x=(k:Int)/\k<n/\m k=true:=by
 unfold mkL;rw[dw];constructor
 ·rintro⟨k,hk,rfl⟩;rw[List.mem_filter,gQ]at hk;exact⟨k,rfl,hk.1,hk.2⟩
 ·rintro⟨k,rfl,h1,h2⟩;exact⟨k,by rw[List.mem_filter,gQ];exact⟨h1,h2⟩,rfl⟩
theorem BW {E:Nat->Nat->Bool}{i k:Nat}:Lx.Way E i k↔E i k=true\/ ∃j,E i j=true/\Lx.Way E j k:=by
 constructor
 ·intro h;induction h with
  |single h=>exact .inl h
  |tail _ h2 ih=>
   rcases ih with ih|⟨j,h1,ih⟩
   ·exact .inr ⟨_,ih,.single h2⟩
   ·exact .inr ⟨j,h1,.tail ih h2⟩
 ·rintro(h|⟨j,h1,h2⟩)
  ·exact .single h
  ·exact(Relation.TransGen.single (r:=fun a b=>E a b=true) h1).trans h2
theorem mn {l:List Ru}(h:(di l).1=0){i:Nat}(hi:i<l.length){x:Int}:x∈fK l (i:Int)↔ ∃k:Nat,x=(k:Int)/\k<l.length/\Lx.Way (fun a b=>(iy l a).contains b) i k:=by
 obtain⟨h0,hno⟩:=li h
 have e:fK l (i:Int)=mkL (fol (iy l) (l.length+1) (fun _=>false) i) l.length:=by
  unfold fK;rw[aw (by omega)];rfl
 rw[e,Ms];constructor
 ·rintro⟨k,a,b,c⟩;exact⟨k,a,b,(yA (ml hno) (aA _)).1 c⟩
 ·rintro⟨k,a,b,c⟩;exact⟨k,a,b,(yA (ml hno) (aA _)).2 c⟩
theorem Mt {l:List Ru}(h:(di l).1=0){i:Nat}(hi:i<l.length){x:Int}(hx:x∈fK l (i:Int)):0<=x/\x<l.length/\x≠(i:Int):=by
 obtain⟨h0,hno⟩:=li h;obtain⟨k,rfl,hk,hw⟩:=(mn h hi).1 hx;refine⟨by omega,by omega,fun e=> ?_⟩;have e':k=i:=by omega
 subst e';have h3:=(DQ h).2 k hk;unfold lk3 at h3;rw[(yA (ml hno) (aA _)).2 hw]at h3;cases h3
def nev:Nat->Bool:=fun _=>false
def mo (week:Bool)(day:Int)(kind a b:Int)(nm:Nat->Bool)(ks:List (Nat->Bool)):Nat->Bool:=
 if kind=2 then fun i=>decide (i<1440)
 else if kind=3 then fun i=>(decide (a<=(i:Int))&&decide ((i:Int)<b))&&decide (i<1440)
 else if kind=4 then(if week=true then ks.getD 0 nev else nev)
 else if kind=5 then(if a<=day/\day<=b then ks.getD 0 nev else nev)
 else if kind=6 then fun i=>(ks.getD 0 nev i||ks.getD 1 nev i)&&decide (i<1440)
 else if kind=7 then fun i=>(ks.getD 0 nev i&& !ks.getD 1 nev i)&&decide (i<1440)
 else if kind=8 then fun i=>(ks.getD 0 nev i&&ks.getD 1 nev i)&&decide (i<1440)
 else if kind=9 then shf (ks.getD 0 nev) a
 else if kind=10 then nm
 else nev
def eQ (wk:Int->Bool)(day:Int)(env:List UInt8->Nat->Bool)(e:Ex):Nat->Bool:=mo (wk e.a) day e.kind e.a e.b (env e.name) (e.kids.attach.map fun k=>eQ wk day env k.1)
 termination_by SizeOf.sizeOf e
 decreasing_by exact gK k.2
theorem jk (wk:Int->Bool)(day:Int)(env:List UInt8->Nat->Bool)(e:Ex):eQ wk day env e=mo (wk e.a) day e.kind e.a e.b (env e.name) (e.kids.map (eQ wk day env)):=by
 rw[eQ];congr 1;have h:=congrArg (List.map (eQ wk day env)) (fF e.kids);rw[jE]at h;exact h
theorem mR {wk:Int->Bool}{day:Int}{env env':List UInt8->Nat->Bool}: ∀(N:Nat) (e:Ex),SizeOf.sizeOf e<=N->(∀x∈nms e,env x=env' x)->eQ wk day env e=eQ wk day env' e
 |0,e,hN,_=>by cases e;simp at hN
 |N+1,e,hN,h=>by
  rw[jk,jk]
  have hk:e.kids.map (eQ wk day env)=e.kids.map (eQ wk day env'):=List.map_congr_left fun k hk=>mR N k (by have:=gK hk;omega) fun x hx=>h x (by
   rw[ly,bJ];right;unfold jn;exact List.mem_flatten.2 ⟨nms k,dw.2 ⟨k,hk,rfl⟩,hx⟩)
  rw[hk];by_cases h10:e.kind=10
  ·rw[h e.name (by rw[ly,ay h10];simp)]
  ·unfold mo;simp only[aw h10]
def qM (l:List Ru)(wk:Int->Bool)(day:Int):Nat->Nat->Nat->Bool
 |0,_=>nev
 |f+1,i=>match l[i]? with
  |some u=>eQ wk day (fun x=>qM l wk day f (atP5 l x).toNat) u.2
  |none=>nev
def muR (l:List Ru)(i:Nat):Nat:=(fK l (i:Int)).length
theorem Ht (m:Nat->Bool)(n:Nat):(mkL m n).Nodup:=by
 unfold mkL;have h:((List.range n).filter m).Nodup:=List.nodup_range.filter m;rw[List.nodup_iff_pairwise_ne,List.pairwise_map];exact(List.nodup_iff_pairwise_ne.1 h).imp fun hab e=>hab (by omega)
theorem Fg (l:List Ru)(r:Int):(fK l r).Nodup:=by
 unfold fK;split
 ·exact List.nodup_nil
 ·exact Ht _ _
theorem Hu: ∀(l m:List Int),l.Nodup->(∀x∈l,x∈m)->l.length<=m.length
 |[],_,_,_=>df _
 |x::l,m,hnd,hs=>by
  have h1:=List.nodup_cons.1 hnd
  have ih:=Hu l (m.erase x) h1.2 fun y hy=>by
   have hne:y≠x:=fun e=>by
    subst e;exact h1.1 hy
   exact(List.mem_erase_of_ne hne).2 (hs y (bn _ hy))
  have hx:=hs x bc;rw[List.length_erase_of_mem hx]at ih;have:=List.length_pos_of_mem hx;simp only[bz];omega
theorem rL {l:List Ru}(h:(di l).1=0){i j:Nat}(hi:i<l.length)(hj:j∈iy l i):muR l j<muR l i:=by
 obtain⟨_,hno⟩:=li h;have hjl:=ml hno i j hj;have hE:(iy l i).contains j=true:=by simpa using hj
 have hsub: ∀x∈(j:Int)::fK l (j:Int),x∈fK l (i:Int):=fun x hx=>by
  rcases bh.1 hx with rfl|hx
  ·exact(mn h hi).2 ⟨j,rfl,hjl,BW.2 (.inl hE)⟩
  ·obtain⟨k,rfl,hk,hw⟩:=(mn h hjl).1 hx;exact(mn h hi).2 ⟨k,rfl,hk,BW.2 (.inr ⟨j,hE,hw⟩)⟩
 have hnd:((j:Int)::fK l (j:Int)).Nodup:=List.nodup_cons.2 ⟨fun hm=>(Mt h hjl hm).2.2 rfl,Fg l _⟩;have:=Hu _ _ hnd hsub;simp only[bz]at this;unfold muR;omega
theorem mT {l:List Ru}(_:(di l).1=0){i:Nat}{u:Ru}(hu:l[i]? =some u){x:List UInt8}(hx:x∈nms u.2):(atP5 l x).toNat∈iy l i:=by
 rw[qi hu];unfold oN fz;exact dw.2 ⟨atP5 l x,(py _ _).2 (.inr ⟨x,hx,rfl⟩),rfl⟩
theorem xF {l:List Ru}{wk:Int->Bool}{day:Int}(h:(di l).1=0): ∀(f f' i:Nat),i<l.length->muR l i<f->muR l i<f'->qM l wk day f i=qM l wk day f' i
 |0,_,_,_,a,_=>by omega
 |_+1,0,_,_,_,b=>by omega
 |f+1,f'+1,i,hi,a,b=>by
  obtain⟨u,hu⟩: ∃u,l[i]? =some u:=⟨l[i],ax hi⟩
  obtain⟨_,hno⟩:=li h;rw[qM,qM,hu];dsimp only;refine mR _ u.2 (aA _) fun x hx=> ?_;have hj:=mT h hu hx;have hlt:=rL h hi hj;exact xF h f f' _ (ml hno i _ hj) (by omega) (by omega)
theorem zW (l:List Ru)(r:Int):(fK l r).length<=l.length:=by
 unfold fK;split
 ·exact df _
 ·exact DD _ _
def fW (l:List Ru)(wk:Int->Bool)(day:Int)(i:Nat):Nat->Bool:=qM l wk day (l.length+1) i
theorem od {l:List Ru}{wk:Int->Bool}{day:Int}(h:(di l).1=0){i:Nat}{u:Ru}(hu:l[i]? =some u):fW l wk day i=eQ wk day (fun x=>fW l wk day (atP5 l x).toNat) u.2:=by
 have hi:i<l.length:=(aE.1 hu).1;obtain⟨_,hno⟩:=li h;have hmu: ∀j,muR l j<=l.length:=fun j=>zW l (j:Int)
 have e:fW l wk day i=eQ wk day (fun x=>qM l wk day l.length (atP5 l x).toNat) u.2:=by
  unfold fW;rw[qM,hu]
 rw[e];refine mR _ u.2 (aA _) fun x hx=> ?_;have hj:=mT h hu hx;have hlt:=rL h hi hj;have:=hmu i;have:=hmu (atP5 l x).toNat;exact xF h _ _ _ (ml hno i _ hj) (by omega) (by omega)
theorem NZ (n:Int)(w:World)(a:0<=n)(b:n<146097):Calls prog 23 #[ag n] w fun e w'=>e= .returned (.bool true)/\w'=w:=by
 go_enter func23,ntmps23;go_wp2;go_ret;exact⟨rfl,rfl⟩
def wkd (n:Int):Int:=(n+5).tmod 7
theorem N0 (n:Int)(a:0<=n):wkd n=(n+5)%7:=by
 unfold wkd;rw[Int.tmod_eq_emod_of_nonneg (by omega)]
theorem Hv (n:Int)(a:0<=n):0<=wkd n/\wkd n<7:=by
 rw[N0 n a];omega
theorem O9 (n:Int)(w:World)(a:0<=n)(b:n<146097):Calls prog 15 #[ag n] w fun e w'=>e= .returned (ag (wkd n))/\w'=w:=by
 have c1:=NZ n w a b;have hb:=Hv n a;have hw:(n+5).tmod 7=wkd n:=rfl;go_enter func15,ntmps15;go_wp2_with fail;refine c1.mono ?_;rintro e w' ⟨rfl,rfl⟩;clear c1;go_wp2_with fail;go_ret;exact⟨rfl,rfl⟩
structure uF (w:World)(g:Nat)(n:Int)(lv:Value)(mb:Nat)(kv mv':Value):Prop where
 blk:w.heap[g]? =ah #[ag n,lv,.map (some mb),kv,mv'] 86
def wkB (n a:Int):Bool:=bits BinOp.and IntKind.i64 (a/2^(wkd n).toNat) 1==1
theorem Le (g:Nat)(n:Int)(lv:Value)(mb:Nat)(kv mv':Value)(e:Ex)(pe:Option Addr)(ce:Nat)(w:World)(h:uF w g n lv mb kv mv')(a:0<=n)(b:n<146097)(hk:e.kind=4):
  Calls prog 82 #[ab g 0,.agg #[ag e.kind,ag e.a,ag e.b,.string ⟨e.name.toArray⟩,.slice pe e.kids.length ce]] w fun r w'=>r= .returned (.bool (wkB n e.a))/\ao w w':=by
 have k0:=ak 0 h.blk;have bA:=am w (.cells #[ag e.kind,ag e.a,ag e.b,.string ⟨e.name.toArray⟩,.slice pe e.kids.length ce] 52);have k0':=aj bA k0;have hb:=Hv n a;have cw:=fun W=>O9 n W a b;rw[hk]at bA k0'⊢;go_enter func82,ntmps82;go_wp2_with fail;go_quiet ((go_at_call 15;exact eU (cw _)));go_wp2_with fail;go_ret;exact⟨rfl,dr bA nq⟩
theorem Lf (g:Nat)(n:Int)(lv:Value)(mb:Nat)(kv mv':Value)(e:Ex)(pe:Option Addr)(ce:Nat)(w:World)(h:uF w g n lv mb kv mv')(hk:e.kind=5):
  Calls prog 82 #[ab g 0,.agg #[ag e.kind,ag e.a,ag e.b,.string ⟨e.name.toArray⟩,.slice pe e.kids.length ce]] w fun r w'=>r= .returned (.bool (decide (e.a<=n)&&decide (n<=e.b)))/\ao w w':=by
 have k0:=ak 0 h.blk;have bA:=am w (.cells #[ag e.kind,ag e.a,ag e.b,.string ⟨e.name.toArray⟩,.slice pe e.kids.length ce] 52);have k0':=aj bA k0;rw[hk]at bA k0'⊢;by_cases h1:e.a<=n
 ·by_cases h2:n<=e.b
  ·rw[a7 h1,a7 h2];go_enter func82,ntmps82;go_wp2_with fail;go_quiet (fail);go_wp2_with fail;go_ret;exact⟨rfl,dr bA nq⟩
  ·rw[a7 h1,bj h2];have hd2:decide (n<=e.b)=false:=bj h2;go_enter func82,ntmps82;go_wp2_with fail;go_quiet (fail);go_wp2_with fail;go_ret
   first
    |exact⟨rfl,dr bA nq⟩
    |exact⟨congrArg (fun x=>Ending.returned (.bool x)) hd2,dr bA nq⟩
 ·rw[bj h1];have hd1:decide (e.a<=n)=false:=bj h1;go_enter func82,ntmps82;go_wp2_with fail;go_quiet (fail);go_wp2_with fail;go_ret;exact⟨rfl,dr bA nq⟩
section
theorem gd (b:Nat): ∀(vs:List Value) (o:Nat) (w:World) (q:Nat),q≠b->(w.setCells b o vs).heap[q]? =w.heap[q]?
 |[],_,_,_,_=>rfl
 |v::vs,o,w,q,h=>by
  rw[World.setCells,gd b vs (o+1) _ q h];exact aN w ⟨b,o,none⟩ q v h
theorem qN {w:World}(b:Nat)(hb:w.heap.size<=b): ∀(vs:List Value) (o:Nat) (W:World),ao w W->ao w (W.setCells b o vs)
 |[],_,_,h=>h
 |v::vs,o,W,h=>by
  rw[World.setCells];exact qN b hb vs (o+1) _ (h.setCell hb v)
theorem C7 {W W':World}{b o:Nat}{cs:List Value}(h:W.rangeAt b o cs)(hb:ao W W'):W'.rangeAt b o cs:=fun j v hv=>(hb.cell (bT (h j v hv))).trans (h j v hv)
structure MSt (w:World)(n g gk gm mb:Nat)(day:Int)(lv:Value)(l:List Ru)(K:Nat->Bool)(M:Nat->Nat->Bool)(W:World):Prop where
 bel:ao w W
 blk:W.heap[g]? =ah #[ag day,lv,.map (some mb),.slice (some (ae gk 0)) n n,.slice (some (ae gm 0)) n n] 86
 known:W.heap[gk]? =ah (eX n K) 4
 meant: ∀i,i<n->W.rangeAt gm (i*23) (mv (M i)).toList
 held: ∃cs,W.heap[gm]? =ah cs 61
 nums:iT W mb l
 lo:w.heap.size<=g/\w.heap.size<=gk/\w.heap.size<=gm
 ne:g≠gk/\g≠gm/\gk≠gm/\mb≠gk/\mb≠gm
variable {w W W':World} {n g gk gm mb:Nat} {day:Int} {lv:Value} {l:List Ru} {K:Nat->Bool} {M:Nat->Nat->Bool}
theorem MSt.later (h:MSt w n g gk gm mb day lv l K M W)(hb:ao W W'):MSt w n g gk gm mb day lv l K M W':=
 ⟨au h.bel hb,ai hb h.blk,ai hb h.known,fun i hi=>C7 (h.meant i hi) hb,by
   obtain⟨cs,hc⟩:=h.held;exact⟨cs,ai hb hc⟩,h.nums.later (hb.block _ (gN h.nums)),h.lo,h.ne⟩
theorem MSt.mark (h:MSt w n g gk gm mb day lv l K M W)(i:Nat):MSt w n g gk gm mb day lv l (upd K i) M (W.setCell ⟨gk,i,none⟩ (.bool true)):=by
 obtain⟨n1,n2,n3,n4,n5⟩:=h.ne;have ho: ∀q,q≠gk->(W.setCell ⟨gk,i,none⟩ (.bool true)).heap[q]? =W.heap[q]? :=fun q hq=>aN W ⟨gk,i,none⟩ q _ hq;refine⟨h.bel.setCell h.lo.2.1 _,(ho _ n1).trans h.blk,?_,fun j hj=> ?_,?_,h.nums.later (ho _ n4),h.lo,h.ne⟩
 ·rw[<-xg];exact aX W gk i _ _ _ h.known
 ·intro k v hv;rw[<-h.meant j hj k v hv];exact World.cell?_setCell_other _ _ _ _ (fun e=>n3 (congrArg Addr.block e))
 ·obtain⟨cs,hc⟩:=h.held;exact⟨cs,(ho _ (fun e=>n3 e.symm)).trans hc⟩
theorem ny (b:Nat){t:TypeId}: ∀(vs:List Value) (o:Nat) (W:World),(∃cs,W.heap[b]? =ah cs t)-> ∃cs,(W.setCells b o vs).heap[b]? =ah cs t
 |[],_,_,h=>h
 |v::vs,o,W,h=>by
  rw[World.setCells];obtain⟨cs,hc⟩:=h;exact ny b vs (o+1) _ ⟨_,aX W b o cs t v hc⟩
def sA (M:Nat->Nat->Bool)(i:Nat)(f:Nat->Bool):Nat->Nat->Bool:=fun j=>if j=i then f else M j
theorem MSt.there (h:MSt w n g gk gm mb day lv l K M W){i:Nat}(hi:i<n):W.there gm (i*23) 23:=fun j hj=>by
 obtain⟨cs,hc⟩:=h.held;refine⟨(h.meant i hi).isSome j (by rw[bP,bO];exact hj),bl _ _ _ _ _ hc⟩
theorem MSt.put (h:MSt w n g gk gm mb day lv l K M W){i:Nat}(hi:i<n)(f:Nat->Bool):MSt w n g gk gm mb day lv l K (sA M i f) (W.setCells gm (i*23) (mv f).toList):=by
 obtain⟨n1,n2,n3,n4,n5⟩:=h.ne;have ho: ∀q,q≠gm->(W.setCells gm (i*23) (mv f).toList).heap[q]? =W.heap[q]? :=fun q hq=>gd gm _ _ W q hq;refine⟨qN gm h.lo.2.2 _ _ _ h.bel,(ho _ n2).trans h.blk,(ho _ n3).trans h.known,fun j hj=> ?_,ny gm _ _ W h.held,h.nums.later (ho _ n5),h.lo,h.ne⟩;by_cases e:j=i
 ·subst e;rw[sA,ay rfl];exact World.rangeAt_setCells_same W gm _ _ (by rw[bP,bO];exact h.there hj)
 ·rw[sA,aw e];refine World.rangeAt_setCells_apart (h.meant j hj) gm _ _ (.inr ?_);rw[bP,bP,bO,bO];omega
end
section
variable {w W W':World} {n g gk gm mb:Nat} {day:Int} {lv:Value} {l:List Ru} {K:Nat->Bool} {M:Nat->Nat->Bool}
theorem N1:prog.underlying 61=some (.array 23 59):=by kernel_rfl
theorem Mu (f:Nat->Bool):(prog.info? 61).map (fun i=>i.size)=some (mv f).toList.length:=by
 rw[bP];exact ba f
theorem qu {W:World}{ops:Array Oper}{rest:List Oper}{op:Oper}{a:Act}{Q:Exit->Act->World->Prop}(hgd:op.guard=none)(x:Operand)(ho:op.op= .load 61 x)(b o:Nat)(hx:a.eval x=ab b o)(f:Nat->Bool)(hc:W.rangeAt b o (mv f).toList)
  (h:wpList prog ops Q rest (a.put op.dst (.agg (mv f))) W):wpList prog ops Q (op::rest) a W:=
 wpList_load_mid hgd 61 x ho b o hx (mv f).toList _ hc N1 rfl (Mu f) (by rw[Array.toArray_toList];exact h)
theorem Fh (h:MSt w n g gk gm mb day lv l K M W){i:Nat}(hi:i<n)(hn:n<=40)(hK:K i=true):
  Calls prog 29 #[ab g 0,ag (i:Int)] W fun e w'=>e= .returned (.agg (mv (M i)))/\ao W w':=by
 have hz:=dU;have bA:=am W (.cells (mv fun _=>false) 61);have nA:=aC W (.cells (mv fun _=>false) 61);have h':=h.later bA;generalize hwA:W.alloc (.cells (mv fun _=>false) 61)=WA at*;have k3:=ak 3 h'.blk;have k4:=ak 4 h'.blk;have ki:=(aV _ _ i _ _ _ h'.known).trans (mA hi);rw[hK]at ki;have hi0:(0:Int)<=(i:Int):=by omega
 have hin:(i:Int)<(n:Int):=by omega
 have hn40:(n:Int)<=40:=by omega
 have HM:=aD (h'.meant i hi);clear h hK h';go_enter func29,ntmps29
 go_wp2_with(first
  |(refine qu rfl _ rfl gm (i*23) rfl (M i) HM.o ?_)
  |(refine az rfl 61 _ _ rfl _ _ rfl rfl _ _ nA (ba _) (by simp[bO]) (dH _) ?_))
 refine aU (v:= .agg (mv (M i))) ?_ rfl ⟨rfl,?_⟩
 ·exact a8 rfl _ _ W.heap.size _ _ _ _ rfl (aJ _ _ _ _ _ _ nA) bQ rfl (ba _)
 ·exact below_setRow bA (aA _) _
end
section
variable {w W W':World} {n g gk gm mb:Nat} {day:Int} {lv:Value} {l:List Ru} {K:Nat->Bool} {M:Nat->Nat->Bool}
theorem MSt.keep (h:MSt w n g gk gm mb day lv l K M W)(hb:ao w W')(hk: ∀q,q=g\/q=gk\/q=gm\/q=mb->W'.heap[q]? =W.heap[q]?):MSt w n g gk gm mb day lv l K M W':=by
 refine⟨hb,(hk _ (by simp)).trans h.blk,(hk _ (by simp)).trans h.known,fun i hi j v hv=> ?_,?_,h.nums.later (hk _ (by simp)),h.lo,h.ne⟩
 ·exact(dL (hk _ (by simp))).trans (h.meant i hi j v hv)
 ·obtain⟨cs,hc⟩:=h.held;exact⟨cs,(hk _ (by simp)).trans hc⟩
structure MD where
 w:World
 n:Nat
 g:Nat
 gk:Nat
 gm:Nat
 mb:Nat
 day:Int
 lv:Value
 l:List Ru
 V:Nat->Nat->Bool
def MD.st (D:MD)(K:Nat->Bool)(M:Nat->Nat->Bool)(W:World):Prop:=MSt D.w D.n D.g D.gk D.gm D.mb D.day D.lv D.l K M W
def MI (D:MD)(K:Nat->Bool)(W:World):Prop:= ∃M,D.st K M W/\ ∀i,i<D.n->K i=true->M i=D.V i
def Kp (D:MD)(W W':World):Prop:=W.heap.size<=W'.heap.size/\ ∀q,q<W.heap.size->q≠D.gk->q≠D.gm->W'.heap[q]? =W.heap[q]?
def MQ (D:MD)(P:(Nat->Bool)->Prop)(W W':World):Prop:=(∃K,MI D K W'/\P K)/\Kp D W W'
def Les (K K':Nat->Bool):Prop:= ∀i,K i=true->K' i=true
variable {D:MD} {P:(Nat->Bool)->Prop} {W0:World} {K0 K1:Nat->Bool}
theorem Les.refl (K:Nat->Bool):Les K K:=fun _ h=>h
theorem Kp.refl (D:MD)(W:World):Kp D W W:=⟨aA _,fun _ _ _ _=>rfl⟩
theorem Kp.trans (h:Kp D W0 W)(h':Kp D W W'):Kp D W0 W':=⟨a6 h.1 h'.1,fun q a b c=>(h'.2 q (aO a h.1) b c).trans (h.2 q a b c)⟩
theorem Kp.below (h:ao W W'):Kp D W W':=⟨h.size,fun q a _ _=>h.block q a⟩
theorem MI.later (h:MI D K W)(hb:ao W W'):MI D K W':=by
 obtain⟨M,h1,h2⟩:=h;exact⟨M,MSt.later h1 hb,h2⟩
theorem MI.bel (h:MI D K W):Below D.w.heap.size D.w W:=by
 obtain⟨M,h1,h2⟩:=h;exact MSt.bel h1
theorem MI.blk (h:MI D K W):W.heap[D.g]? =ah #[ag D.day,D.lv,.map (some D.mb),.slice (some (ae D.gk 0)) D.n D.n,.slice (some (ae D.gm 0)) D.n D.n] 86:=by
 obtain⟨M,h1,h2⟩:=h;exact MSt.blk h1
theorem MI.nums (h:MI D K W):iT W D.mb D.l:=by
 obtain⟨M,h1,h2⟩:=h;exact MSt.nums h1
theorem MI.lts (h:MI D K W): ∀q,q=D.g\/q=D.gk\/q=D.gm\/q=D.mb->q<W.heap.size:=by
 obtain⟨M,h1,h2⟩:=h;rintro q (rfl|rfl|rfl|rfl)
 ·exact aF (MSt.blk h1)
 ·exact aF (MSt.known h1)
 ·obtain⟨cs,hc⟩:=MSt.held h1;exact aF hc
 ·exact gN (MSt.nums h1)
theorem MQ.bel (h:MQ D P W W'):Below D.w.heap.size D.w W':=by
 obtain⟨⟨K,h1,_⟩,_⟩:=h;exact h1.bel
theorem MQ.blk (h:MQ D P W W'):W'.heap[D.g]? =ah #[ag D.day,D.lv,.map (some D.mb),.slice (some (ae D.gk 0)) D.n D.n,.slice (some (ae D.gm 0)) D.n D.n] 86:=by
 obtain⟨⟨K,h1,_⟩,_⟩:=h;exact h1.blk
theorem MQ.nums (h:MQ D P W W'):iT W' D.mb D.l:=by
 obtain⟨⟨K,h1,_⟩,_⟩:=h;exact h1.nums
theorem MQ.start (h:MI D K W)(hb:ao W W'):MQ D (Les K) W W':=⟨⟨K,h.later hb,Les.refl K⟩,Kp.below hb⟩
theorem MQ.up (h:MQ D (Les K0) W0 W)(hc: ∀K,MI D K W->MQ D (Les K) W W'):MQ D (Les K0) W0 W':=by
 obtain⟨⟨K1,h1,h2⟩,h3⟩:=h;obtain⟨⟨K2,h4,h5⟩,h6⟩:=hc K1 h1;exact⟨⟨K2,h4,fun i hi=>h5 i (h2 i hi)⟩,h3.trans h6⟩
theorem MQ.on (h2:Les K0 K1)(h3:Kp D W0 W)(h:MQ D (Les K1) W W'):MQ D (Les K0) W0 W':=by
 obtain⟨⟨K2,h4,h5⟩,h6⟩:=h;exact⟨⟨K2,h4,fun i hi=>h5 i (h2 i hi)⟩,h3.trans h6⟩
theorem MQ.onP (h2:Les K0 K1)(h3:Kp D W0 W)(h:MQ D (fun K'=>Les K1 K'/\P K') W W'):MQ D (Les K0) W0 W':=by
 obtain⟨⟨K2,h4,h5,_⟩,h6⟩:=h;exact⟨⟨K2,h4,fun i hi=>h5 i (h2 i hi)⟩,h3.trans h6⟩
theorem MQ.low (h:MQ D (Les K0) W0 W)(hb:ao W W'):MQ D (Les K0) W0 W':=h.up fun _ h'=>MQ.start h' hb
theorem MQ.drew (h:MQ D (Les K0) W0 W):MQ D (Les K0) W0 W.drew:=h.low (aG _ _).drew
theorem MQ.ret {W1:World}(h0:MI D K W)(hb:ao W W1){r:Nat}(hr:W.heap.size<=r)(h:MQ D P W1 W')(cs:Array Value):MQ D P W (W'.setRow r cs):=by
 obtain⟨⟨K2,⟨M,h1,h2⟩,h3⟩,h4⟩:=h;have hlt:=h0.lts;have hs:=h0.bel.size;refine⟨⟨K2,⟨M,MSt.keep h1 (below_setRow (MSt.bel h1) (by omega) _) fun q hq=>aT _ _ _ _ (by have:=hlt q hq;omega),h2⟩,h3⟩,?_,fun q a b c=> ?_⟩
 ·have:=hb.size;have:=h4.1;simp only[World.setRow,Array.size_modify];omega
 ·rw[aT _ _ _ _ (by omega),h4.2 q (by have:=hb.size;omega) b c];exact hb.block q a
theorem MQ.own {W1:World}(h0:MI D K W)(h:MQ D P W1 W'){r:Nat}(hr:W.heap.size<=r){o:Obj}(ho:W1.heap[r]? =some o):W'.heap[r]? =some o:=by
 have h1:=h0.lts D.gk (by simp);have h2:=h0.lts D.gm (by simp);exact(h.2.2 r (aF ho) (by omega) (by omega)).trans ho
theorem MQ.mask (h:MQ D (Les K0) W0 W){i:Nat}(hi:i<D.n): ∃K M,D.st K M W/\(∀j,j<D.n->K j=true->M j=D.V j)/\Les K0 K/\W.there D.gm (i*23) 23:=by
 obtain⟨⟨K,⟨M,h1,h2⟩,h3⟩,_⟩:=h;exact⟨K,M,h1,h2,h3,MSt.there h1 hi⟩
end
theorem rN (b:Nat): ∀(vs:List Value) (o:Nat) (w:World),(w.setCells b o vs).heap.size=w.heap.size
 |[],_,_=>rfl
 |v::vs,o,w=>by
  rw[World.setCells,rN b vs (o+1)];simp[World.setCell]
theorem Ki {D:MD}{K0:Nat->Bool}{W:World}{us:List (Ru×Value)}{b o cv i:Nat}{u:Ru}{ps:Option Addr}{cs:Nat}(hin:InR D.w D.lv us)(hn:D.n<=40)(hlv:D.lv= .slice (some (ae b o)) D.n cv)(hlen:us.length=D.n)(hu:us[i]? =some (u,.slice ps u.2.kids.length cs))(h:MI D K0 W)(hK0:K0 i=false)
  (hE: ∀K W,MI D K W->Calls prog 46 #[ab D.g 0,exV u.2 (.slice ps u.2.kids.length cs)] W fun r W'=>r= .returned (.agg (mv (D.V i)))/\MQ D (Les K) W W'):
  Calls prog 29 #[ab D.g 0,ag (i:Int)] W fun r W'=>r= .returned (.agg (mv (D.V i)))/\MQ D (fun K=>Les K0 K/\K i=true) W W':=by
 have hi:i<D.n:=by rw[<-hlen];exact(aE.1 hu).1
 have HV:=aD hlv
 obtain⟨q1,q2,q3,q4,q5⟩:D.w.cell? (ae b (o+i*6+1))=some (ag u.2.kind)/\D.w.cell? (ae b (o+i*6+1+1))=some (ag u.2.a)/\D.w.cell? (ae b (o+i*6+1+2))=some (ag u.2.b)/\D.w.cell? (ae b (o+i*6+1+3))=some (.string ⟨u.2.name.toArray⟩)/\D.w.cell? (ae b (o+i*6+1+4))=some (.slice ps u.2.kids.length cs):=by
  rw[hlv,<-hlen]at hin;obtain⟨g',o',e,_,c1,c2,c3,c4,c5⟩:=hin.cells i _ hu;cases e;exact⟨c1,c2,c3,c4,c5⟩
 have hz:=dU;have bA:=am W (.cells (mv fun _=>false) 61);have nA:=aC W (.cells (mv fun _=>false) 61);generalize hwA:W.alloc (.cells (mv fun _=>false) 61)=WA at*;have hA:=h.later bA;have hJ0:MQ D (Les K0) WA WA:=MQ.start hA (aG _ _);have k3:=ak 3 hA.blk
 have ki:WA.cell? (ae D.gk i)=some (.bool false):=by
  obtain⟨M,h1,_⟩:=hA;rw[<-hK0];exact(aV _ _ i _ _ _ (MSt.known h1)).trans (mA hi)
 have hi0:(0:Int)<=(i:Int):=by omega
 have hiI:(i:Int)<(D.n:Int):=by omega
 have hn40:(D.n:Int)<=40:=by omega
 unfold exV at hE;have HE:=aD hE;clear hlv hin hK0 hu hlen hn hE;go_enter func29,ntmps29;go_wp2_with fail;clear k3 ki hwA hA;refine lZ 16 (MQ D (Les K0) WA) [kn 13 (ab D.g 0),kn 14 (ab D.g 0),kn 15 (ab D.g 4),kn 16 (.slice (some (ae D.gm 0)) D.n D.n),kn 17 (ag (i:Int)),kn 18 (ab D.g 0),kn 19 (ab D.g 0),kn 20 (ab D.g 0),kn 21 (ab D.g 1),kn 22 (.slice (some (ae b o)) D.n cv),kn 23 (ag (i:Int)),kn 24 (ab b (o+i*6)),kn 25 (ab b (o+i*6+1)),kn 26 (.agg #[ag u.2.kind,ag u.2.a,ag u.2.b,.string ⟨u.2.name.toArray⟩,.slice ps u.2.kids.length cs]),dk 27 (.agg (mv (D.V i))),kn 28 (ab D.gm (i*23)),nk] hJ0.drew (fun _ _ hb h=>h.low hb) (by kernel_rfl) (by kernel_rfl) fun M φ W2 hMn hJ F l hl hF=> ?_;have y0_:W2.cell? (ae D.g 4)=some (.slice (some (ae D.gm 0)) D.n D.n):=ak 4 hJ.blk;have y1_:W2.cell? (ae D.g 1)=some (.slice (some (ae b o)) D.n cv):=(ak 1 hJ.blk).trans (congrArg some HV.o);have y2_:W2.cell? (ae b (o+i*6+1))=some (ag u.2.kind):=aj hJ.bel q1;have y3_:W2.cell? (ae b (o+i*6+1+1))=some (ag u.2.a):=aj hJ.bel q2;have y4_:W2.cell? (ae b (o+i*6+1+2))=some (ag u.2.b):=aj hJ.bel q3;have y5_:W2.cell? (ae b (o+i*6+1+3))=some (.string ⟨u.2.name.toArray⟩):=aj hJ.bel q4;have y6_:W2.cell? (ae b (o+i*6+1+4))=some (.slice ps u.2.kids.length cs):=aj hJ.bel q5;simp only[kn,dk,nk,dN,aQ,aW,Act.put,aB,aI,aH]at hl;subst hl;simp only[dg,Nat.reduceAdd]at hF;dsimp only[kn,dk,nk,dC,en,dS,Act.put];and_intros;all_goals first|exact trivial|intro hw hn hm K hK
 all_goals try (go_simp;with_reducible exact hK _ _ ⟨rfl,aG _ _⟩)
 all_goals clear y0_ y1_ y2_ y3_ y4_ y5_ y6_
 ·obtain⟨⟨K1,hM1,hle1⟩,hkp1⟩:=id hJ;go_simp;refine(HE.o K1 W2 hM1).mono ?_;rintro e' W' ⟨rfl,hb'⟩;exact hK _ _ ⟨rfl,fun _=>MQ.on hle1 hkp1 hb',fun c=>by simp[hMn]at c⟩
 obtain⟨K3,M3,hst,hrt,hle,hth⟩:=hJ.mask hi;show Oper.wp _ _ _ _ _ _;refine wp_store_mid 61 _ _ rfl D.gm (i*23) (mv (D.V i)) (by simp[Act.eval,hF]) (by simp[Act.eval,hF]) (by rw[bO];exact hth) (ba _) (dH _) ?_;have h3:D.st K3 (sA M3 i (D.V i)) (W2.setCells D.gm (i*23) (mv (D.V i)).toList):=MSt.put hst hi (D.V i);refine hK undef _ ⟨trivial,fun c=>by simp at c,fun _=> ?_⟩;simp only[dP,aQ,aW,Act.put,aB,aI,aH];clear hF hw hn hm;have n3:(W2.setCells D.gm (i*23) (mv (D.V i)).toList).heap[W.heap.size]? =ah (mv fun _=>false) 61:=(gd D.gm _ _ W2 _ (by have:=h.lts D.gm (by simp);omega)).trans (hJ.own h (aA _) nA)
 have hk3:Kp D WA (W2.setCells D.gm (i*23) (mv (D.V i)).toList):=⟨by
  rw[rN]
  exact hJ.2.1,fun q a b c=>(gd D.gm _ _ W2 q c).trans (hJ.2.2 q a b c)⟩
 clear hK hth;generalize W2.setCells D.gm (i*23) (mv (D.V i)).toList=W3 at*;have h4:D.st (upd K3 i) (sA M3 i (D.V i)) (W3.setCell ⟨D.gk,i,none⟩ (.bool true)):=MSt.mark h3 i;have n4:(W3.setCell ⟨D.gk,i,none⟩ (.bool true)).heap[W.heap.size]? =ah (mv fun _=>false) 61:=(aN W3 ⟨D.gk,i,none⟩ _ _ (by show W.heap.size≠D.gk;have:=h.lts D.gk (by simp);omega)).trans n3
 have hQ:MQ D (fun K'=>Les K0 K'/\K' i=true) WA (W3.setCell ⟨D.gk,i,none⟩ (.bool true)):=by
  refine⟨⟨upd K3 i,⟨_,h4,fun j hj hKj=> ?_⟩,fun j hj=> ?_,by simp[upd]⟩,?_,fun q a b c=>(aN W3 ⟨D.gk,i,none⟩ q _ b).trans (hk3.2 q a b c)⟩
  ·by_cases e:j=i
   ·subst e;simp[sA]
   ·rw[sA,aw e];exact hrt j hj (by simpa[upd,e] using hKj)
  ·have:=hle j hj;show(decide (j=i)||K3 j)=true;rw[this,Bool.or_true]
  ·simpa[World.setCell] using hk3.1
 have k3:=(aV _ _ 3 _ _ _ (MSt.blk h3)).trans rfl;have ki:=(aV _ _ i _ _ _ (MSt.known h3)).trans (mA hi);have kf:=bl _ _ i _ _ (MSt.known h3);have k4:=(aV _ _ 4 _ _ _ (MSt.blk h4)).trans rfl;have hm4:=MSt.meant h4 i hi;rw[show sA M3 i (D.V i) i=D.V i by simp[sA]]at hm4;have HM:=aD hm4;have HQ:=aD (MQ.ret h bA (aA _) hQ (mv (D.V i)));clear hm4 hQ h4 h3 hst hrt hle hJ hk3;generalize hw4:W3.setCell ⟨D.gk,i,none⟩ (.bool true)=W4 at*
 go_wp2_with(first
  |(refine qu rfl _ rfl D.gm (i*23) rfl (D.V i) HM.o ?_)
  |(refine az rfl 61 _ _ rfl _ _ rfl rfl _ _ n4 (ba _) (by simp[bO]) (dH _) ?_))
 refine aU (v:= .agg (mv (D.V i))) ?_ rfl ⟨rfl,?_⟩
 ·exact a8 rfl _ _ W.heap.size _ _ _ _ rfl (aJ _ _ _ _ _ _ n4) bQ rfl (ba _)
 ·exact HQ.o
theorem MQ.far {D:MD}{P:(Nat->Bool)->Prop}{W1 W':World}(h:MQ D P W1 W'){r:Nat}(h1:r≠D.gk)(h2:r≠D.gm){o:Obj}(ho:W1.heap[r]? =some o):W'.heap[r]? =some o:=(h.2.2 r (aF ho) h1 h2).trans ho
theorem Mv {D:MD}{K0:Nat->Bool}{W:World}{e k:Ex}{f:Nat->Bool}{bd be b o c j:Nat}{ps:Option Addr}{cs:Nat}(h:MI D K0 W)(hj:e.kids[j]? =some k)(hlen:e.kids.length<9223372036854775808)
  (hbd:W.heap[bd]? =ah #[ab D.g 0] 112) (hbe:W.heap[be]? =ah #[ag e.kind,ag e.a,ag e.b,.string ⟨e.name.toArray⟩,.slice (some (ae b o)) e.kids.length c] 52)
  (d1:bd≠D.gk) (d2:bd≠D.gm) (d3:be≠D.gk) (d4:be≠D.gm)
  (q0:D.w.cell? (ae b (o+j*5))=some (ag k.kind)) (q1:D.w.cell? (ae b (o+j*5+1))=some (ag k.a)) (q2:D.w.cell? (ae b (o+j*5+2))=some (ag k.b)) (q3:D.w.cell? (ae b (o+j*5+3))=some (.string ⟨k.name.toArray⟩)) (q4:D.w.cell? (ae b (o+j*5+4))=some (.slice ps k.kids.length cs))
  (hE: ∀K W,MI D K W->Calls prog 46 #[ab D.g 0,exV k (.slice ps k.kids.length cs)] W fun r W'=>r= .returned (.agg (mv f))/\MQ D (Les K) W W'):
  Calls prog 80 #[ag (j:Int),ab bd 0,ab be 0] W fun r W'=>r= .returned (.agg (mv f))/\MQ D (Les K0) W W':=by
 have hjl:(j:Int)<(e.kids.length:Int):=by have:=(aE.1 hj).1;omega
 have hj0:(0:Int)<=(j:Int):=by omega
 have hlI:(e.kids.length:Int)<9223372036854775808:=by omega
 have hz:=dU;have bA:=am W (.cells (mv fun _=>false) 61);have nA:=aC W (.cells (mv fun _=>false) 61);generalize hwA:W.alloc (.cells (mv fun _=>false) 61)=WA at*;have hA:=h.later bA;have hJ0:MQ D (Les K0) WA WA:=MQ.start hA (aG _ _);have hbd':=ai bA hbd;have hbe':=ai bA hbe;have HBd:=aD (fun(W2:World) (hJ:MQ D (Les K0) WA W2)=>hJ.far d1 d2 hbd');have HBe:=aD (fun(W2:World) (hJ:MQ D (Les K0) WA W2)=>hJ.far d3 d4 hbe');unfold exV at hE;have HE:=aD hE;clear hE hbd hbe hbd' hbe' d1 d2 d3 d4 hj hA;go_enter func80,ntmps80;go_wp2_with fail;clear hwA;refine lZ 7 (MQ D (Les K0) WA) [kn 5 (ab D.g 0),kn 6 (ab be 4),kn 7 (.slice (some (ae b o)) e.kids.length c),kn 8 (ag (j:Int)),kn 9 (ab b (o+j*5)),kn 10 (.agg #[ag k.kind,ag k.a,ag k.b,.string ⟨k.name.toArray⟩,.slice ps k.kids.length cs]),dk 11 (.agg (mv f)),nk] hJ0.drew (fun _ _ hb h=>h.low hb) (by kernel_rfl) (by kernel_rfl) fun M φ W2 hMn hJ F l hl hF=> ?_;have y0_:W2.cell? (ae bd 0)=some (ab D.g 0):=(aV _ _ 0 _ _ _ (HBd.o W2 hJ)).trans rfl;have y1_:W2.cell? (ae be 4)=some (.slice (some (ae b o)) e.kids.length c):=(aV _ _ 4 _ _ _ (HBe.o W2 hJ)).trans rfl;have y2_:W2.cell? (ae b (o+j*5))=some (ag k.kind):=aj hJ.bel q0;have y3_:W2.cell? (ae b (o+j*5+1))=some (ag k.a):=aj hJ.bel q1;have y4_:W2.cell? (ae b (o+j*5+2))=some (ag k.b):=aj hJ.bel q2;have y5_:W2.cell? (ae b (o+j*5+3))=some (.string ⟨k.name.toArray⟩):=aj hJ.bel q3;have y6_:W2.cell? (ae b (o+j*5+4))=some (.slice ps k.kids.length cs):=aj hJ.bel q4;simp only[kn,dk,nk,dN,aQ,aW,Act.put,aB,aI,aH]at hl;subst hl;simp only[dg,Nat.reduceAdd]at hF;dsimp only[kn,dk,nk,dC,en,dS,Act.put];and_intros;all_goals first|exact trivial|intro hw hn hm K hK
 all_goals try (go_simp;with_reducible exact hK _ _ ⟨rfl,aG _ _⟩)
 all_goals clear y0_ y1_ y2_ y3_ y4_ y5_ y6_
 ·obtain⟨⟨K1,hM1,hle1⟩,hkp1⟩:=id hJ;go_simp;refine(HE.o K1 W2 hM1).mono ?_;rintro e' W' ⟨rfl,hb'⟩;exact hK _ _ ⟨rfl,fun _=>MQ.on hle1 hkp1 hb',fun c=>by simp[hMn]at c⟩
 have n2:=hJ.own h (aA _) nA;show Oper.wp _ _ _ _ _ _;refine dT 61 _ _ rfl (W.heap.size) (mv f) (by simp[Act.eval,hF]) (by simp[Act.eval,hF]) _ _ n2 (ba _) (by simp[bO]) (dH _) ?_;refine hK undef _ ⟨trivial,fun c=>by simp at c,fun _=> ?_⟩;simp only[dP,aQ,aW,Act.put,aB,aI,aH];clear hF hw hn hm;have HQ:=aD (MQ.ret h bA (aA _) hJ (mv f));have N2:=aD (aJ _ _ _ (mv f) _ _ n2);clear hK hJ;go_wp2_with fail;refine aU (v:= .agg (mv f)) ?_ rfl ⟨rfl,?_⟩
 ·exact a8 rfl _ _ W.heap.size _ _ _ _ rfl N2.o bQ rfl (ba _)
 ·exact HQ.o
section
variable {D:MD} {K0:Nat->Bool} {W:World} {a b:Int} {nm:List UInt8} {pe:Option Addr} {ks:List Ex} {ce:Nat}
def qv (D:MD)(kd a b:Int)(nm:List UInt8)(pe:Option Addr)(ks:List Ex)(ce:Nat)(j:Int)(f:Nat->Bool):Prop:= ∀(bd be:Nat) (K:Nat->Bool) (W:World),MI D K W->W.heap[bd]? =ah #[ab D.g 0] 112->
 W.heap[be]? =ah #[ag kd,ag a,ag b,.string ⟨nm.toArray⟩,.slice pe ks.length ce] 52->bd≠D.gk->bd≠D.gm->be≠D.gk->be≠D.gm->
 Calls prog 80 #[ag j,ab bd 0,ab be 0] W fun r W'=>r= .returned (.agg (mv f))/\MQ D (Les K) W W'
theorem MQ.kid {W3 W4:World}{kd j:Int}{f:Nat->Bool}{bd be:Nat}(h0:MI D K0 W)(hq:MQ D (Les K0) W3 W4)(hc:qv D kd a b nm pe ks ce j f)(hd:W3.heap[bd]? =ah #[ab D.g 0] 112)
  (he:W3.heap[be]? =ah #[ag kd,ag a,ag b,.string ⟨nm.toArray⟩,.slice pe ks.length ce] 52) (h1:W.heap.size<=bd) (h2:W.heap.size<=be):
  Calls prog 80 #[ag j,ab bd 0,ab be 0] W4 fun r W'=>r= .returned (.agg (mv f))/\MQ D (Les K0) W3 W':=by
 have hd4:=hq.own h0 h1 hd;have he4:=hq.own h0 h2 he;have l1:=h0.lts D.gk (by simp);have l2:=h0.lts D.gm (by simp);obtain⟨⟨K1,hM1,hle1⟩,hkp1⟩:=hq;refine(hc bd be K1 W4 hM1 hd4 he4 (by omega) (by omega) (by omega) (by omega)).mono ?_;rintro r W' ⟨rfl,hb⟩;exact⟨rfl,MQ.on hle1 hkp1 hb⟩
def ExC (D:MD)(K0:Nat->Bool)(W:World)(kd a b:Int)(nm:List UInt8)(pe:Option Addr)(ks:List Ex)(ce:Nat)(f:Nat->Bool):Prop:=Calls prog 46 #[ab D.g 0,.agg #[ag kd,ag a,ag b,.string ⟨nm.toArray⟩,.slice pe ks.length ce]] W fun r W'=>r= .returned (.agg (mv f))/\MQ D (Les K0) W W'
theorem jZ {kd:Int}{f:Nat->Bool}(h:MI D K0 W)(H: ∀W3,((W.alloc (.cells #[ab D.g 0] 112)).alloc (.cells #[ag kd,ag a,ag b,.string ⟨nm.toArray⟩,.slice pe ks.length ce] 52)).alloc (.cells (mv fun _=>false) 61)=W3->ao W W3->W3.heap[W.heap.size]? =ah #[ab D.g 0] 112->W3.heap[W.heap.size+1]? =ah #[ag kd,ag a,ag b,.string ⟨nm.toArray⟩,.slice pe ks.length ce] 52->W3.heap[W.heap.size+1+1]? =ah (mv fun _=>false) 61->W3.cell? (ae (W.heap.size+1) 0)=some (ag kd)->MI D K0 W3->MQ D (Les K0) W3 W3->Calls prog 46 #[ab D.g 0,.agg #[ag kd,ag a,ag b,.string ⟨nm.toArray⟩,.slice pe ks.length ce]] W fun r W'=>r= .returned (.agg (mv f))/\MQ D (Les K0) W W'):ExC D K0 W kd a b nm pe ks ce f:=by
 have b3:=((am W (.cells #[ab D.g 0] 112)).alloc (by simp) (.cells #[ag kd,ag a,ag b,.string ⟨nm.toArray⟩,.slice pe ks.length ce] 52)).alloc (by simp only[aP];omega) (.cells (mv fun _=>false) 61);exact H _ rfl b3 (by(repeat (first|refine cY _ _ _ (by simp only[aP];omega) ?_|exact dq _ _ _ (by first|rfl|simp only[aP])))) (by(repeat (first|refine cY _ _ _ (by simp only[aP];omega) ?_|exact dq _ _ _ (by first|rfl|simp only[aP])))) (by(repeat (first|refine cY _ _ _ (by simp only[aP];omega) ?_|exact dq _ _ _ (by first|rfl|simp only[aP])))) ((aV _ _ 0 _ _ _ (by(repeat (first|refine cY _ _ _ (by simp only[aP];omega) ?_|exact dq _ _ _ (by first|rfl|simp only[aP]))))).trans rfl) (h.later b3) (MQ.start (h.later b3) (aG _ _))
theorem ld {W3 W9:World}{f z:Nat->Bool}(h:MI D K0 W)(b3:ao W W3)(q9:MQ D (Les K0) W3 W9)(nR:W3.heap[W.heap.size+1+1]? =ah (mv z) 61): ∀ ⦃fn:Func⦄ ⦃A:Act⦄ ⦃p:Nat⦄,fn.results= #[.cell p 61]->A.tmps.getD p undef=ab (W.heap.size+1+1) 0->A.defers=[]->bodyPost prog fn (fun r W'=>r= .returned (.agg (mv f))/\MQ D (Les K0) W W') .ret A (W9.setRow (W.heap.size+1+1) (mv f)):=fun _ _ _ h1 h2 h3=>
 aU (v:= .agg (mv f)) (a8 h1 _ _ (W.heap.size+1+1) _ _ _ _ h2 (aJ _ _ _ _ _ _ (q9.own h (by omega) nR)) bQ rfl (ba _)) h3 ⟨rfl,MQ.ret h b3 (by omega) q9 (mv f)⟩
theorem DR {W:World}{g:Nat}{x y:Int}{t:TypeId}(hb:W.heap[g]? =ah #[ag x,ag y] t):Row W (.slice (some (ae g 0)) 1 1) [(x,y)]:=by
 refine .inr ⟨_,0,1,rfl,by simp,fun j hj=> ?_⟩;have:j=0:=by simpa using hj
 subst this;exact⟨by rw[aV _ _ _ _ _ _ hb];rfl,by rw[aV _ _ _ _ _ _ hb];rfl⟩
theorem N3 {f0 f1:Nat->Bool}(h:MI D K0 W)(c0:qv D 6 a b nm pe ks ce 0 f0)(c1:qv D 6 a b nm pe ks ce 1 f1):ExC D K0 W 6 a b nm pe ks ce (fun i=>(f0 i||f1 i)&&decide (i<1440)):=by
 refine jZ h fun W3 hwA b3 nD nE nR z0 hA q3=> ?_;have hz:=dU;clear hA;go_enter func46,ntmps46;go_wp2_with fail;refine(MQ.kid h q3 c0 nD nE (by omega) (by omega)).mono ?_;rintro r W4 ⟨rfl,q4⟩;clear q3 z0 hwA;go_wp2_with fail;refine(MQ.kid h q4 c1 nD nE (by omega) (by omega)).mono ?_;rintro r W5 ⟨rfl,q5⟩;clear q4;go_wp2_with fail;refine(yZ f0 f1 W5).mono ?_;rintro r W6 ⟨rfl,hb6⟩;have q9:=q5.low hb6;have n9:=q9.own h (by omega) nR;have HQ:=aD (ld h b3 q9 nR (f:=(fun i=>(f0 i||f1 i)&&decide (i<1440))));clear q9 q5 hb6 nD nE nR;go_wp2_with(refine az rfl 61 _ _ rfl _ _ rfl rfl _ _ n9 (ba _) (by simp[bO]) (dH _) ?_)
 exact HQ.o rfl rfl rfl
theorem N4 {f0 f1:Nat->Bool}(h:MI D K0 W)(c0:qv D 7 a b nm pe ks ce 0 f0)(c1:qv D 7 a b nm pe ks ce 1 f1):ExC D K0 W 7 a b nm pe ks ce (fun i=>(f0 i&& !f1 i)&&decide (i<1440)):=by
 refine jZ h fun W3 hwA b3 nD nE nR z0 hA q3=> ?_;have hz:=dU;clear hA;go_enter func46,ntmps46;go_wp2_with fail;refine(MQ.kid h q3 c0 nD nE (by omega) (by omega)).mono ?_;rintro r W4 ⟨rfl,q4⟩;clear q3 z0 hwA;go_wp2_with fail;refine(MQ.kid h q4 c1 nD nE (by omega) (by omega)).mono ?_;rintro r W5 ⟨rfl,q5⟩;clear q4;go_wp2_with fail;refine(pT f0 f1 W5).mono ?_;rintro r W6 ⟨rfl,hb6⟩;have q9:=q5.low hb6;have n9:=q9.own h (by omega) nR;have HQ:=aD (ld h b3 q9 nR (f:=(fun i=>(f0 i&& !f1 i)&&decide (i<1440))));clear q9 q5 hb6 nD nE nR;go_wp2_with(refine az rfl 61 _ _ rfl _ _ rfl rfl _ _ n9 (ba _) (by simp[bO]) (dH _) ?_)
 exact HQ.o rfl rfl rfl
theorem N5 {f0 f1:Nat->Bool}(h:MI D K0 W)(c0:qv D 8 a b nm pe ks ce 0 f0)(c1:qv D 8 a b nm pe ks ce 1 f1):ExC D K0 W 8 a b nm pe ks ce (fun i=>(f0 i&&f1 i)&&decide (i<1440)):=by
 refine jZ h fun W3 hwA b3 nD nE nR z0 hA q3=> ?_;have hz:=dU;clear hA;go_enter func46,ntmps46;go_wp2_with fail;refine(MQ.kid h q3 c0 nD nE (by omega) (by omega)).mono ?_;rintro r W4 ⟨rfl,q4⟩;clear q3 z0 hwA;go_wp2_with fail;refine(MQ.kid h q4 c1 nD nE (by omega) (by omega)).mono ?_;rintro r W5 ⟨rfl,q5⟩;clear q4;go_wp2_with fail;refine(AY f0 f1 W5).mono ?_;rintro r W6 ⟨rfl,hb6⟩;have q9:=q5.low hb6;have n9:=q9.own h (by omega) nR;have HQ:=aD (ld h b3 q9 nR (f:=(fun i=>(f0 i&&f1 i)&&decide (i<1440))));clear q9 q5 hb6 nD nE nR;go_wp2_with(refine az rfl 61 _ _ rfl _ _ rfl rfl _ _ n9 (ba _) (by simp[bO]) (dH _) ?_)
 exact HQ.o rfl rfl rfl
theorem Mw {f0:Nat->Bool}(h:MI D K0 W)(d0:0<=D.day)(d1:D.day<146097)(hg:wkB D.day a=true)(c0:qv D 4 a b nm pe ks ce 0 f0):ExC D K0 W 4 a b nm pe ks ce f0:=by
 refine jZ h fun W3 hwA b3 nD nE nR z0 hA q3=> ?_;have hz:=dU;have hds:uF W3 D.g D.day D.lv D.mb (.slice (some (ae D.gk 0)) D.n D.n) (.slice (some (ae D.gm 0)) D.n D.n):=⟨hA.blk⟩
 have cO:=Le D.g D.day D.lv D.mb _ _ (⟨4,a,b,nm,ks⟩:Ex) pe ce W3 hds d0 d1 rfl;rw[hg]at cO;clear hA hds hg;have kD:=ak 0 nD;go_enter func46,ntmps46;go_wp2_with(refine aR rfl 52 _ rfl _ rfl _ _ _ _ nE oM rfl (by kernel_rfl) ?_)
 refine cO.mono ?_;rintro r W4 ⟨rfl,hb4⟩;have q4:=q3.low hb4;clear q3 z0 kD hwA cO hb4;go_wp2_with fail;refine(MQ.kid h q4 c0 nD nE (by omega) (by omega)).mono ?_;rintro r W5 ⟨rfl,q9⟩;clear q4;have n9:=q9.own h (by omega) nR;have HQ:=aD (ld h b3 q9 nR (f:=f0));clear q9 nD nE nR;go_wp2_with(refine az rfl 61 _ _ rfl _ _ rfl rfl _ _ n9 (ba _) (by simp[bO]) (dH _) ?_)
 exact HQ.o rfl rfl rfl
theorem My (h:MI D K0 W)(d0:0<=D.day)(d1:D.day<146097)(hg:wkB D.day a=false):ExC D K0 W 4 a b nm pe ks ce (fun _=>false):=by
 refine jZ h fun W3 hwA b3 nD nE nR z0 hA q3=> ?_;have hz:=dU;have hds:uF W3 D.g D.day D.lv D.mb (.slice (some (ae D.gk 0)) D.n D.n) (.slice (some (ae D.gm 0)) D.n D.n):=⟨hA.blk⟩
 have cO:=Le D.g D.day D.lv D.mb _ _ (⟨4,a,b,nm,ks⟩:Ex) pe ce W3 hds d0 d1 rfl;rw[hg]at cO;clear hA hds hg;have kD:=ak 0 nD;go_enter func46,ntmps46;go_wp2_with(refine aR rfl 52 _ rfl _ rfl _ _ _ _ nE oM rfl (by kernel_rfl) ?_)
 refine cO.mono ?_;rintro r W4 ⟨rfl,hb4⟩;have q9:=q3.low hb4;clear q3 z0 kD hwA cO hb4;have n9:=q9.own h (by omega) nR;have HQ:=aD (ld h b3 q9 nR (f:=(fun _=>false)));clear q9 nD nE nR;go_wp2_with(refine az rfl 61 _ _ rfl _ _ rfl rfl _ _ n9 (ba _) (by simp[bO]) (dH _) ?_)
 exact HQ.o rfl rfl rfl
theorem Mz {f0:Nat->Bool}(h:MI D K0 W)(_:0<=D.day)(_:D.day<146097)(hg:(decide (a<=D.day)&&decide (D.day<=b))=true)(c0:qv D 5 a b nm pe ks ce 0 f0):ExC D K0 W 5 a b nm pe ks ce f0:=by
 refine jZ h fun W3 hwA b3 nD nE nR z0 hA q3=> ?_;have hz:=dU;have hds:uF W3 D.g D.day D.lv D.mb (.slice (some (ae D.gk 0)) D.n D.n) (.slice (some (ae D.gm 0)) D.n D.n):=⟨hA.blk⟩
 have cO:=Lf D.g D.day D.lv D.mb _ _ (⟨5,a,b,nm,ks⟩:Ex) pe ce W3 hds rfl;rw[hg]at cO;clear hA hds hg;have kD:=ak 0 nD;go_enter func46,ntmps46;go_wp2_with(refine aR rfl 52 _ rfl _ rfl _ _ _ _ nE oM rfl (by kernel_rfl) ?_)
 refine cO.mono ?_;rintro r W4 ⟨rfl,hb4⟩;have q4:=q3.low hb4;clear q3 z0 kD hwA cO hb4;go_wp2_with fail;refine(MQ.kid h q4 c0 nD nE (by omega) (by omega)).mono ?_;rintro r W5 ⟨rfl,q9⟩;clear q4;have n9:=q9.own h (by omega) nR;have HQ:=aD (ld h b3 q9 nR (f:=f0));clear q9 nD nE nR;go_wp2_with(refine az rfl 61 _ _ rfl _ _ rfl rfl _ _ n9 (ba _) (by simp[bO]) (dH _) ?_)
 exact HQ.o rfl rfl rfl
theorem MA (h:MI D K0 W)(_:0<=D.day)(_:D.day<146097)(hg:(decide (a<=D.day)&&decide (D.day<=b))=false):ExC D K0 W 5 a b nm pe ks ce (fun _=>false):=by
 refine jZ h fun W3 hwA b3 nD nE nR z0 hA q3=> ?_;have hz:=dU;have hds:uF W3 D.g D.day D.lv D.mb (.slice (some (ae D.gk 0)) D.n D.n) (.slice (some (ae D.gm 0)) D.n D.n):=⟨hA.blk⟩
 have cO:=Lf D.g D.day D.lv D.mb _ _ (⟨5,a,b,nm,ks⟩:Ex) pe ce W3 hds rfl;rw[hg]at cO;clear hA hds hg;have kD:=ak 0 nD;go_enter func46,ntmps46;go_wp2_with(refine aR rfl 52 _ rfl _ rfl _ _ _ _ nE oM rfl (by kernel_rfl) ?_)
 refine cO.mono ?_;rintro r W4 ⟨rfl,hb4⟩;have q9:=q3.low hb4;clear q3 z0 kD hwA cO hb4;have n9:=q9.own h (by omega) nR;have HQ:=aD (ld h b3 q9 nR (f:=(fun _=>false)));clear q9 nD nE nR;go_wp2_with(refine az rfl 61 _ _ rfl _ _ rfl rfl _ _ n9 (ba _) (by simp[bO]) (dH _) ?_)
 exact HQ.o rfl rfl rfl
end
section
variable {D:MD} {K0:Nat->Bool} {W:World} {a b:Int} {nm:List UInt8} {pe:Option Addr} {ks:List Ex} {ce:Nat}
theorem MB:mv (inl [((0:Int),(1440:Int))])=mv fun i=>decide (i<1440):=iP fun i _=>by
 have:((i:Int)<1440)=(i<1440):=by apply propext;omega
 simp[inl,this]
theorem Kj (a b:Int):mv (inl [(a,b)])=mv fun i=>(decide (a<=(i:Int))&&decide ((i:Int)<b))&&decide (i<1440):=iP fun i _=>by
 simp[inl]
theorem N6 (h:MI D K0 W):ExC D K0 W 1 a b nm pe ks ce (fun _=>false):=by
 refine jZ h fun W3 hwA b3 nD nE nR z0 hA q3=> ?_;have hz:=dU;clear hA;have q9:=q3;clear q3;have n9:=q9.own h (by omega) nR;have HQ:=aD (ld h b3 q9 nR (f:=fun _=>false));clear q9 nD nE;go_enter func46,ntmps46;go_wp2_with(refine az rfl 61 _ _ rfl _ _ rfl rfl _ _ n9 (ba _) (by simp[bO]) (dH _) ?_)
 exact HQ.o rfl rfl rfl
theorem N7 (h:MI D K0 W):ExC D K0 W 2 a b nm pe ks ce (fun i=>decide (i<1440)):=by
 refine jZ h fun W3 hwA b3 nD nE nR z0 hA q3=> ?_;have hz:=dU;have z1:=ak 1 nE;have z2:=ak 2 nE;have b4:=am W3 (.cells #[ag 0,ag 1440] 143);have n4:=aC W3 (.cells #[ag 0,ag 1440] 143);generalize hwB:W3.alloc (.cells #[ag 0,ag 1440] 143)=W4 at*;have cF:=tn _ _ W4 (DR n4);rw[MB]at cF;have q4:=q3.low b4;clear hA q3 b4 n4;go_enter func46,ntmps46;go_wp2_with fail;refine cF.mono ?_;rintro r W5 ⟨rfl,hb5⟩;have q9:=q4.low hb5;clear q4 z0 z1 z2 hwA hwB cF hb5;have n9:=q9.own h (by omega) nR;have HQ:=aD (ld h b3 q9 nR (f:=(fun i=>decide (i<1440))));clear q9 nD nE nR;go_wp2_with(refine az rfl 61 _ _ rfl _ _ rfl rfl _ _ n9 (ba _) (by simp[bO]) (dH _) ?_)
 exact HQ.o rfl rfl rfl
theorem N8 (h:MI D K0 W):ExC D K0 W 3 a b nm pe ks ce (fun i=>(decide (a<=(i:Int))&&decide ((i:Int)<b))&&decide (i<1440)):=by
 refine jZ h fun W3 hwA b3 nD nE nR z0 hA q3=> ?_;have hz:=dU;have z1:=ak 1 nE;have z2:=ak 2 nE;have b4:=am W3 (.cells #[ag a,ag b] 143);have n4:=aC W3 (.cells #[ag a,ag b] 143);generalize hwB:W3.alloc (.cells #[ag a,ag b] 143)=W4 at*;have cF:=tn _ _ W4 (DR n4);rw[Kj a b]at cF;have q4:=q3.low b4;clear hA q3 b4 n4;go_enter func46,ntmps46;go_wp2_with fail;refine cF.mono ?_;rintro r W5 ⟨rfl,hb5⟩;have q9:=q4.low hb5;clear q4 z0 z1 z2 hwA hwB cF hb5;have n9:=q9.own h (by omega) nR;have HQ:=aD (ld h b3 q9 nR (f:=(fun i=>(decide (a<=(i:Int))&&decide ((i:Int)<b))&&decide (i<1440))));clear q9 nD nE nR;go_wp2_with(refine az rfl 61 _ _ rfl _ _ rfl rfl _ _ n9 (ba _) (by simp[bO]) (dH _) ?_)
 exact HQ.o rfl rfl rfl
theorem N9 {f0:Nat->Bool}(h:MI D K0 W)(a0: -9223372036854775808<=a)(a1:a<=9223372036854775807)(c0:qv D 9 a b nm pe ks ce 0 f0):ExC D K0 W 9 a b nm pe ks ce (shf f0 a):=by
 refine jZ h fun W3 hwA b3 nD nE nR z0 hA q3=> ?_;have hz:=dU;have HC:=aD c0;clear hA c0;go_enter func46,ntmps46;go_wp2_with fail;clear hwA z0;refine lZ 5 (MQ D (Les K0) W3) [kn 54 (.func (.func 80) #[] #[ab W.heap.size 0,ab (W.heap.size+1) 0]),dk 55 (.agg (mv f0)),kn 56 (ab (W.heap.size+1) 1),kn 57 (ag a),dk 58 (.agg (mv (shf f0 a))),nk] q3.drew (fun _ _ hb h=>h.low hb) (by kernel_rfl) (by kernel_rfl) fun M φ W2 hMn hJ F l hl hF=> ?_;have y0_:W2.cell? (ae (W.heap.size+1) 1)=some (ag a):=(aV _ _ 1 _ _ _ (hJ.own h (show W.heap.size<=W.heap.size+1 by omega) nE)).trans rfl;simp only[kn,dk,nk,dN,aQ,aW,Act.put,aB,aI,aH]at hl;subst hl;simp only[dg,Nat.reduceAdd]at hF;dsimp only[kn,dk,nk,dC,en,dS,Act.put];and_intros;all_goals first|exact trivial|intro hw hn hm K hK
 all_goals try (go_simp;with_reducible exact hK _ _ ⟨rfl,aG _ _⟩)
 all_goals clear y0_
 ·go_simp;refine(MQ.kid h hJ HC.o nD nE (by omega) (by omega)).mono ?_;rintro e' W' ⟨rfl,hb'⟩;exact hK _ _ ⟨rfl,fun _=>hb',fun c=>by simp[hMn]at c⟩
 ·go_simp;refine(wu f0 a W2 (by omega) (by omega)).mono ?_;rintro e' W' ⟨rfl,hb'⟩;exact hK _ _ ⟨rfl,fun _=>hJ.low hb',fun c=>by simp[hMn]at c⟩
 have n2:=hJ.own h (show W.heap.size<=W.heap.size+1+1 by omega) nR;show Oper.wp _ _ _ _ _ _;refine dT 61 _ _ rfl (W.heap.size+1+1) (mv (shf f0 a)) (by simp[Act.eval,hF]) (by simp[Act.eval,hF]) _ _ n2 (ba _) (by simp[bO]) (dH _) ?_;refine hK undef _ ⟨trivial,fun c=>by simp at c,fun _=> ?_⟩;simp only[dP,aQ,aW,Act.put,aB,aI,aH];clear hF hw hn hm;have HQ:=aD (ld h b3 hJ nR (f:=(shf f0 a)));clear hK hJ;go_wp2_with fail;exact HQ.o rfl rfl rfl
theorem MC {f0:Nat->Bool}{R:(Nat->Bool)->Prop}(h:MI D K0 W)(hx:0<=atP5 D.l nm)(c0: ∀(K:Nat->Bool) (W:World),MI D K W->Calls prog 29 #[ab D.g 0,ag (atP5 D.l nm)] W fun r W'=>r= .returned (.agg (mv f0))/\MQ D (fun K'=>Les K K'/\R K') W W'):ExC D K0 W 10 a b nm pe ks ce f0:=by
 refine jZ h fun W3 hwA b3 nD nE nR z0 hA q3=> ?_;have hz:=dU;have HC:=aD c0;clear hA c0;go_enter func46,ntmps46;go_wp2_with fail;clear hwA z0;refine lZ 9 (MQ D (Les K0) W3) [kn 61 (ab D.g 0),kn 62 (ab D.g 0),kn 63 (ab D.g 0),kn 64 (ab D.g 2),kn 65 (.map (some D.mb)),kn 66 (ab (W.heap.size+1) 3),kn 67 (.string ⟨nm.toArray⟩),kn 68 (ag (atP5 D.l nm)),dk 69 (.agg (mv f0)),nk] q3.drew (fun _ _ hb h=>h.low hb) (by kernel_rfl) (by kernel_rfl) fun M φ W2 hMn hJ F l hl hF=> ?_;have y0_:W2.cell? (ae W.heap.size 0)=some (ab D.g 0):=(aV _ _ 0 _ _ _ (hJ.own h (show W.heap.size<=W.heap.size by omega) nD)).trans rfl;have y1_:W2.cell? (ae D.g 2)=some (.map (some D.mb)):=ak 2 hJ.blk;have y2_:W2.cell? (ae (W.heap.size+1) 3)=some (.string ⟨nm.toArray⟩):=(aV _ _ 3 _ _ _ (hJ.own h (show W.heap.size<=W.heap.size+1 by omega) nE)).trans rfl;have y3_:=EM hJ.nums nm hx;simp only[kn,dk,nk,dN,aQ,aW,Act.put,aB,aI,aH]at hl;subst hl;simp only[dg,Nat.reduceAdd]at hF;dsimp only[kn,dk,nk,dC,en,dS,Act.put];and_intros;all_goals first|exact trivial|intro hw hn hm K hK
 all_goals try (go_simp;with_reducible exact hK _ _ ⟨rfl,aG _ _⟩)
 all_goals clear y0_ y1_ y2_ y3_
 ·obtain⟨⟨K1,hM1,hle1⟩,hkp1⟩:=id hJ;go_simp;refine(HC.o K1 W2 hM1).mono ?_;rintro e' W' ⟨rfl,hb'⟩;exact hK _ _ ⟨rfl,fun _=>MQ.onP hle1 hkp1 hb',fun c=>by simp[hMn]at c⟩
 have n2:=hJ.own h (show W.heap.size<=W.heap.size+1+1 by omega) nR;show Oper.wp _ _ _ _ _ _;refine dT 61 _ _ rfl (W.heap.size+1+1) (mv f0) (by simp[Act.eval,hF]) (by simp[Act.eval,hF]) _ _ n2 (ba _) (by simp[bO]) (dH _) ?_;refine hK undef _ ⟨trivial,fun c=>by simp at c,fun _=> ?_⟩;simp only[dP,aQ,aW,Act.put,aB,aI,aH];clear hF hw hn hm;have HQ:=aD (ld h b3 hJ nR (f:=f0));clear hK hJ;go_wp2_with fail;exact HQ.o rfl rfl rfl
end
namespace Lx
def OKE (e:Ex):Prop:= ∃deep n,(shapeP e deep n).1=0
theorem OKE.alone {e:Ex}(h:OKE e):aloneP e=0:=by
 obtain⟨deep,n,h⟩:=h;rw[jB]at h;split at h
 ·cases h
 ·split at h
  ·rename_i h2;exact absurd h h2
  ·rename_i h2;simpa using h2
theorem xG {deep:Nat}: ∀{ks:List Ex} {acc:Int×Nat},(gL ks deep acc).1=0-> ∀k∈ks,OKE k
 |[],_,_,k,hk=>by cases hk
 |k'::ks,acc,h,k,hk=>by
  rw[ig]at h;by_cases hb:acc.1≠0
  ·rw[ay hb,j8 hb]at h;exact absurd h hb
  rw[aw hb]at h
  have hz:(shapeP k' deep acc.2).1=0:=by
   by_cases hz:(shapeP k' deep acc.2).1=0
   ·exact hz
   ·rw[j8 hz]at h;exact h
  rcases bh.1 hk with rfl|hk
  ·exact⟨_,_,hz⟩
  ·exact xG h k hk
theorem OKE.kid {e k:Ex}(h:OKE e)(hk:k∈e.kids):OKE k:=by
 have ha:=h.alone;obtain⟨deep,n,h⟩:=h;rw[jB]at h;split at h
 ·cases h
 ·rw[aw (by simpa using ha)]at h;exact xG h k hk
theorem OKE.kinds {e:Ex}(h:OKE e):1<=e.kind/\e.kind<=10/\e.kids.length=kidsP e.kind/\rangeP e.kind e.a e.b=true/\(e.kind=10->Go.Proofs.YtjkilacmkbmmbaaGreatDoor.namedL e.name=true):=by
 have ha:=h.alone;unfold aloneP at ha;split at ha
 ·cases ha
 ·split at ha
  ·cases ha
  ·split at ha
   ·cases ha
   ·split at ha
    ·cases ha
    ·rename_i h1 h2 h3 h4;refine⟨by omega,by omega,by simpa using h2,by simpa using h3,fun hk=> ?_⟩;cases hn:Go.Proofs.YtjkilacmkbmmbaaGreatDoor.namedL e.name with
     |true=>rfl
     |false=>exact absurd ⟨hk,hn⟩ h4
theorem OKE.kid0 {e:Ex}(h:OKE e)(hk:1<=kidsP e.kind): ∃k,e.kids[0]? =some k/\OKE k:=by
 have hl:=h.kinds.2.2.1;exact⟨e.kids[0]'(by omega),ax _,h.kid (List.getElem_mem _)⟩
theorem OKE.kid1 {e:Ex}(h:OKE e)(hk:2<=kidsP e.kind): ∃k,e.kids[1]? =some k/\OKE k:=by
 have hl:=h.kinds.2.2.1;exact⟨e.kids[1]'(by omega),ax _,h.kid (List.getElem_mem _)⟩
end Lx
end Go.Proofs.YtjkilacmkbmmbaaGreatDoor
