/- Texts of the proof. -/
import Derived.Test.YtpdoienkhgnceaaGreatDoorPt06
import Derived.Test.YtpdoienkhgnceaaGreatDoorPt03
set_option maxRecDepth 100000
set_option maxHeartbeats 8000000
namespace Go.Proofs.YtpdoienkhgnceaaGreatDoor
open Go.Proofs.Tryz Go.RowKit Lx Vx Mx Msk
theorem Iu (a:List Cd)(lv:Value)(q n o d:Nat)(w:World)(h:InV w lv a)(F:w.cell? (ae q 0)=some (.slice (some (ae n 0)) a.length a.length))(u:w.heap[n]? =ah (iO a.length (wars (gK a) a.length)) 37)
  (E:w.cell? (ae o 0)=some lv) (t:a.length<=40) (m: ∀(i:Nat) (c:Cd),a[i]? =some c->aloneE c a.length=0) (k:d<a.length):
  Calls prog 60 #[ag (d:Int),ab q 0,ab o 0] w fun e y=>e= .returned (ag (qJ a d))/\ao w y:=by
 have G:=(aW _ _ d _ _ _ u).trans (BF k);have l:=Gm (wars (gK a) a.length d) d (by omega) w;have cF:=KC a lv d w h m k;obtain⟨p,A,rfl,r,C⟩:=h.form;have v:(0:Int)<=(d:Int):=by omega
 have x:(d:Int)<(a.length:Int):=by omega
 generalize g:qJ a d=X;unfold qJ at g;generalize B:wars (gK a) a.length d d=b at*;generalize D:pA a (a.getD d cd0)=f at*;cases b with
 |true=>
  rw[ax rfl]at g;subst g;generalize wars (gK a) a.length d=W at*;go_enter func60,ntmps60;go_wp2_with fail;refine l.mono ?_;rintro e s ⟨rfl,rfl⟩;go_wp2_with fail;go_ret;exact⟨rfl,aF _ _⟩
 |false=>
  rw[aw (by simp)]at g;generalize wars (gK a) a.length d=W at*;cases f with
  |true=>
   rw[ax rfl]at g;subst g;go_enter func60,ntmps60;go_wp2_with fail;refine l.mono ?_;rintro e s ⟨rfl,rfl⟩;go_wp2_with fail;refine cF.mono ?_;rintro e z ⟨rfl,j⟩;go_wp2_with fail;go_ret;exact⟨rfl,j⟩
  |false=>
   rw[aw (by simp)]at g;subst g;go_enter func60,ntmps60;go_wp2_with fail;refine l.mono ?_;rintro e s ⟨rfl,rfl⟩;go_wp2_with fail;refine cF.mono ?_;rintro e z ⟨rfl,j⟩;go_wp2_with fail;go_ret;exact⟨rfl,j⟩
theorem Iv (a:List Cd)(lv:Value)(w:World)(h:InV w lv a):
  Calls prog 28 #[lv] w fun e w'=>e= .returned (.agg #[ag (jV a).1,ag ((jV a).2:Int)])/\ao w w':=by
 obtain⟨p,J,b,k,hc⟩:=h.form;generalize j:jV a=X;unfold jV at j;have D:ao w ((w.alloc (.cells #[lv] 34)).alloc (.cells #[ag 0,ag 0] 26)):=(am _ _).alloc (by simp) _;have y:((w.alloc (.cells #[lv] 34)).alloc (.cells #[ag 0,ag 0] 26)).heap[w.heap.size]? =ah #[lv] 34:=by(repeat (first|refine dh _ _ _ (by simp only[aP];omega) ?_|exact dA _ _ _ (by first|rfl|simp only[aP])))
 have f:((w.alloc (.cells #[lv] 34)).alloc (.cells #[ag 0,ag 0] 26)).heap[w.heap.size+1]? =ah #[ag 0,ag 0] 26:=by(repeat (first|refine dh _ _ _ (by simp only[aP];omega) ?_|exact dA _ _ _ (by first|rfl|simp only[aP])))
 generalize ap:(w.alloc (.cells #[lv] 34)).alloc (.cells #[ag 0,ag 0] 26)=wA at*;have z0:=ak 0 y;have af:(0:Int)<=(a.length:Int):=by omega
 have ad: ∀(fn:Fn) (first cap:Array Value) (w:World),(Instr.makeFunc fn first cap).run prog w= .ok (.func fn first cap) w:=fun _ _ _ _=>rfl;by_cases hm:40<a.length
 ·have Q:(40:Int)<(a.length:Int):=by omega
  rw[ax hm]at j;subst j b;go_enter func28,ntmps28;go_wp2_with(refine aC rfl 26 _ _ rfl _ _ rfl rfl _ _ f (by kernel_rfl) (by simp) (by simp[Value.oneCell']) ?_)
  exact rH 2 (by kernel_rfl) (w.heap.size+1) 5 0 rfl rfl (aK _ _ _ _ _ _ f) ⟨rfl,below_setRow D (by omega) _⟩
 ·have Q: ¬(40:Int)<(a.length:Int):=by omega
  rw[aw hm]at j
  have c1:=tg (fun i=>aloneE (a.getD i cd0) a.length) a.length 57 #[ab w.heap.size 0] p J wA k (fun _ _=>by simp[go_sem]) fun i wr hi m=>by
   exact Im a lv w.heap.size i wr ((h.below D).below m) (aj m z0) hi
  rw[<-b]at c1;by_cases n:(gW (fun i=>aloneE (a.getD i cd0) a.length) a.length 0).1=0
  ·rw[aw (fun e=>e n)]at j;obtain⟨L,M⟩:=qe _ _ n;rw[L]at c1
   have R: ∀(i:Nat) (c:Cd),a[i]? =some c->aloneE c a.length=0:=fun i c hi=>by
    have:=M i (by omega) (by have:=(aE.1 hi).1;omega);rw[jh hi]at this;exact this
   have v:=aZ R;have u:=aZ h;have HX:=aZ j;have W:=aZ b;have sv1: ∃p c,lv= .slice p a.length c:=⟨p,J,b⟩
   subst b;go_enter func28,ntmps28;go_wp2_with fail;refine c1.mono ?_;rintro e l ⟨rfl,d⟩;dsimp only;have b1:=au D d;have N:=ai d y;have q:=ai d f;have I:=am l (.cells #[ag 0,ag 0] 26);have B:=aB l (.cells #[ag 0,ag 0] 26);generalize al:l.alloc (.cells #[ag 0,ag 0] 26)=V at*;have r:=below_setRow I (aA _) #[ag 0,ag 0];have G:=aK _ _ _ #[ag 0,ag 0] _ _ B;have z:=ai r N;have g:=ai r q;have b2:=au b1 r;generalize U:V.setRow l.heap.size #[ag 0,ag 0]=s at*;have z2:=ak 0 z;have zF:=ak 0 G;have c2:=DL a _ s (u.o.below b2) (by omega) v.o;go_wp2_with(refine aC rfl 26 _ _ rfl _ _ rfl rfl _ _ B (by kernel_rfl) (by simp) (by simp[Value.oneCell']) ?_)
   refine c2.mono ?_;rintro e C ⟨rfl,F⟩;have O:=ai F.bel z;have S:=ai F.bel g;have b3:=au b2 F.bel;have E:=am C (.cells #[.slice (some (ae s.heap.size 0)) a.length a.length] 147);have nR:=aB C (.cells #[.slice (some (ae s.heap.size 0)) a.length a.length] 147);have P:=ai E O;have T:=ai E S;have K:=ai E F.row;have Y:=au b3 E;generalize an:C.alloc (.cells #[.slice (some (ae s.heap.size 0)) a.length a.length] 147)=w4 at*;have z4:=ak 0 P;have zR:=ak 0 nR
   have Z:=tg (qJ a) a.length 60 #[ab C.heap.size 0,ab w.heap.size 0] p J w4 k (fun _ _=>by simp[go_sem]) fun i wr hi m=>by
    exact Iu a _ C.heap.size s.heap.size w.heap.size i wr ((u.o.below Y).below m) (aj m zR) (ai m K) (aj m z4) (by omega) v.o hi
   rw[HX.o]at Z;go_wp2_with fail;refine Z.mono ?_;rintro e w5 ⟨rfl,x⟩;have A:=ai x T;have b5:=au Y x;go_wp2_with(refine aC rfl 26 _ _ rfl _ _ rfl rfl _ _ A (by kernel_rfl) (by simp) (by simp[Value.oneCell']) ?_)
   exact rH 2 (by kernel_rfl) (w.heap.size+1) X.1 (X.2:Int) rfl rfl (aK _ _ _ _ _ _ A) ⟨rfl,below_setRow b5 (by omega) _⟩
  ·rw[ax n]at j;rw[j]at n c1;obtain⟨t,H⟩:=X;dsimp only at n c1⊢;have aa:(t==0)=false:=bl.2 n;have ac:(t !=0)=true:=(by simpa using n);subst b;go_enter func28,ntmps28;go_wp2_with fail;refine c1.mono ?_;rintro e l ⟨rfl,d⟩;have b1:=au D d;have q:=ai d f;have r:=am l (.cells #[ag t,ag (H:Int)] 26);have G:=aB l (.cells #[ag t,ag (H:Int)] 26);have g:=ai r q;have b2:=au b1 r;generalize U:l.alloc (.cells #[ag t,ag (H:Int)] 26)=s at*;have zF:=ak 0 G
   go_wp2_with(first
    |(refine aO rfl 26 _ rfl _ rfl _ _ _ _ G mL rfl (by kernel_rfl) ?_)
    |(refine aC rfl 26 _ _ rfl _ _ rfl rfl _ _ g (by kernel_rfl) (by simp) (by simp[Value.oneCell']) ?_))
   exact rH 2 (by kernel_rfl) (w.heap.size+1) t (H:Int) rfl rfl (aK _ _ _ _ _ _ g) ⟨rfl,below_setRow b2 (by omega) _⟩
def eqm (f g:Nat->Bool):Bool:=(List.range 23).all fun k=>wd f k==wd g k
theorem DN {f g:Nat->Bool}(h: ∀i,i<1472->f i=g i):eqm f g=true:=by
 unfold eqm;rw[dl];intro k a;have b:k<23:=by simpa using a
 rw[oz (f:=f) (g:=g) fun j c=>h _ (by omega)];simp
theorem M8 {f g:Nat->Bool}(h:eqm f g=true)(i:Nat)(hi:i<1472):f i=g i:=by
 unfold eqm at h;rw[dl]at h;have b:=h (i/64) (by simp;omega);have a:=QJ (by simpa using b) (i%64) (by omega);have e:64*(i/64)+i%64=i:=by omega
 rw[e]at a;exact a
theorem Pw: ∃i,prog.info? 37=some i/\prog.cellsOf 37=1:=⟨_,rfl,by kernel_rfl⟩
theorem Gn:prog.underlying 37=some (.int .u64):=by kernel_rfl
theorem Gp (f:Nat->Bool)(k:Nat)(a:k<23)(w:World):(Go.part 37 (mv f) (k*1)).run prog w= .ok (.int .u64 (wd f k:Int)) w:=by
 simp[Go.part,isAgg,gS Gn,pY f k a]
theorem zp (f g:Nat->Bool)(w:World)(d:Nat): ∀l:List Nat,(∀k∈l,k<23)->(Op.eqItems (d+1) 37 1 (mv f) (mv g) l).run prog w= .ok (l.all fun k=>wd f k==wd g k) w
 |[],_=>by simp[Op.eqItems]
 |k::l,h=>by
  have c:=zp f g w d l fun j b=>h j (by simp[b]);have a:=h k (by simp);simp only[Op.eqItems,kb,Gp f k a,Gp g k a,iB,run_equalIn_int w d 37 .u64 .u64 _ _ Gn,List.all_cons]
  have e:(((wd f k:Nat):Int)==((wd g k:Nat):Int))=(wd f k==wd g k):=by
   rw[Bool.eq_iff_iff];simp only[beq_iff_eq];omega
  rw[e];cases(wd f k==wd g k)
  ·simp
  ·simpa using c
theorem Gq (f g:Nat->Bool)(w:World):(Op.equalIn 10000 39 (.agg (mv f)) (.agg (mv g))).run prog w= .ok (eqm f g) w:=by
 obtain⟨i,hi,a⟩:=Pw;rw[run_equalIn_array w 9999 (mv f) (mv g) cj hi,a];exact zp f g w 9998 _ fun k b=>by simpa using b
theorem M9 (f g:Nat->Bool)(w:World):(binOp .neq 39 (.agg (mv f)) (.agg (mv g))).run prog w= .ok (.bool (!eqm f g)) w:=by
 rw[run_neq_struct,Gq];rfl
theorem Rd (f:Nat->Bool)(W:World):(Instr.buildSlice 29 1 #[(0,.agg (mv f))]).run prog W= .ok (.slice (some (ae W.heap.size 0)) 1 1) (W.alloc (.cells (mv f) 39)):=by
 kernel_rfl
theorem KD {o:Oper}{a:Act}{w:World}{K:Act->World->Prop}{Q:Exit->Act->World->Prop}(x:Operand)(c:o.op= .buildSlice 29 1 #[(0,x)])(f:Nat->Bool)(d:a.eval x= .agg (mv f))
  (h:K (a.put o.dst (.slice (some (ae w.heap.size 0)) 1 1)) (w.alloc (.cells (mv f) 39))):o.wp prog a w K Q:=by
 unfold Oper.wp execOp;have b:=Rd f w;simp only[c,d,jl,cQ,fu,kb,lg,iB,b];exact h
def kQ (S:List M):List Value:=S.flatMap fun f=>(mv f).toList
theorem BG: ∀S:List M,(kQ S).length=S.length*23
 |[]=>rfl
 |f::S=>by
  have:=BG S;unfold kQ at this⊢;rw[List.flatMap_cons,aN,this];have h:(mv f).toList.length=23:=(by rw[cg];exact bU f);rw[h,bK];omega
theorem tT (S:List M)(f:M):kQ (S++[f])=kQ S++(mv f).toList:=by
 unfold kQ;rw[fC];simp
theorem tm (f:M):(mv f).toList.length=23:=by rw[cg];exact bU f
theorem iG {w c:World}{a:Nat}{e:TypeId}{size n:Nat}{v:Value}{xs:List Value}(h:w.ownsRow a e size v n xs)(b:ao w c):c.ownsRow a e size v n xs:=by
 refine h.kept (row:=none) ⟨b.os,b.tape,b.output,b.size,fun k d _=>b.block k d⟩ ?_;cases hv:v.ownBlock with
 |none=>exact .inl rfl
 |some g=>exact .inr (by simp)
structure VSt (w0:World)(gm:Nat)(lv:Value)(day:Int)(S:List M)(k:Int)(W:World):Prop where
 bel:ao w0 W
 gt:w0.heap.size<=gm
 row: ∃sv,W.heap[gm]? =ah #[lv,ag day,sv,ag k] 100/\W.ownsRow w0.heap.size 39 23 sv S.length (kQ S)
theorem VSt.below {c W b:World}{gm:Nat}{lv:Value}{day k:Int}{S:List M}(h:VSt c gm lv day S k W)(a:ao W b):VSt c gm lv day S k b:=by
 obtain⟨d,e,sv,f,g⟩:=h;exact⟨au d a,e,sv,ai a f,iG g a⟩
theorem KE:(prog.info? 39).map (fun i=>(i.zero,i.size,i.bytes))=some (some (.agg #[.int .u64 0, .int .u64 0, .int .u64 0, .int .u64 0, .int .u64 0, .int .u64 0, .int .u64 0, .int .u64 0, .int .u64 0, .int .u64 0, .int .u64 0, .int .u64 0, .int .u64 0, .int .u64 0, .int .u64 0, .int .u64 0, .int .u64 0, .int .u64 0, .int .u64 0, .int .u64 0, .int .u64 0, .int .u64 0, .int .u64 0]),23,184):=by kernel_rfl
theorem KF:prog.underlying 29=some (.slice 39):=by kernel_rfl
structure Re (base:Nat)(sv:Value)(n:Nat)(xs:List Value)(f:M)(W1:World)(R:World->Prop)(D:Nat->Bool)(φ:Nat->Value)(W:World):Prop where
 grown:D 10=false->W1.grownBy W sv.ownBlock
 own:D 7=false->W.ownsRow base 39 23 sv n xs
 one:D 6=true->D 7=false-> ∃g,φ 10= .slice (some (ae g 0)) 1 1/\W.heap[g]? =ah (mv f) 39
 app:D 7=true->D 10=false->W.ownsRow base 39 23 (φ 11) (n+1) (xs++(mv f).toList)
 fin:D 10=true->R W
theorem pW {c W b:World}{row:Option Nat}(h:c.grownBy W row)(a:ao W b):c.grownBy b row:=
 ⟨a.os.trans h.os,a.tape.trans h.tape,a.output.trans h.output,bh h.size a.size,fun k d e=>(a.block k (aT d h.size)).trans (h.block k d e)⟩
theorem xj {c W b:World}{row:Option Nat}(h:c.grownBy W row)(a:W.grownBy b row):c.grownBy b row:=
 ⟨a.os.trans h.os,a.tape.trans h.tape,a.output.trans h.output,bh h.size a.size,fun k d e=>(a.block k (aT d h.size) e).trans (h.block k d e)⟩
theorem wf (g o n:Nat):(⟨g,o,none⟩:Addr).add n=⟨g,o+n,none⟩:=by
 by_cases h:n=0
 ·subst h;simp[Addr.add]
 ·simp[Addr.add,h]
theorem wg (y:World)(gm:Nat)(lv:Value)(day k:Int)(S:List M)(f:M)(W:World)(h:VSt y gm lv day S k W)(hS:S.length<=1000):
  Calls prog 103 #[ab gm 0,.agg (mv f)] W fun e v=>e= .returned (.tuple #[])/\VSt y gm lv day (S++[f]) k v/\ ∀(q:Nat) (c:Array Value) (T:TypeId),W.heap[q]? =ah c T->T≠39->q≠gm->v.heap[q]? =ah c T:=by
 obtain⟨z,hgt,sv,Z,d⟩:=h;obtain⟨i0,hi,V,an,ap⟩:=iV KE;have HZ:=aZ V;have N:=am W (.cells (mv f) 39);have X:=aB W (.cells (mv f) 39);have Y:=ai N Z;have i:=iG d N;have B:=lm i Y (by decide)
 have A:some W.heap.size≠sv.ownBlock:=fun e=>by
  have:=(d.lt _ e.symm).2;omega
 have b:=au z N;have ad:=b.size;obtain⟨p0,c0,af⟩:=dy d;subst af;have aa:T4 (∀(q:Nat) (c:Array Value) (T:TypeId),W.heap[q]? =ah c T->(W.alloc (.cells (mv f) 39)).heap[q]? =ah c T):=fun q c T x=>ai N x;obtain⟨gb,Q⟩:=aq W.heap.size;generalize al:W.alloc (.cells (mv f) 39)=wB at*;rw[Q]at A;have nB:wB.heap[gb]? =ah (mv f) 39:=by rw[<-Q];exact X
 clear V X Z d N z;go_enter func103,ntmps103;go_wp2_with fail;clear al;refine dH (Re y.heap.size (.slice p0 S.length c0) S.length (kQ S) f wB fun v=>VSt y gm lv day (S++[f]) k v/\ ∀(q:Nat) (c:Array Value) (T:TypeId),W.heap[q]? =ah c T->T≠39->q≠gm->v.heap[q]? =ah c T) [kn 4 (ab gm 0),kn 5 (ab gm 0),kn 6 (ab gm 0),kn 7 (ab gm 2),kn 8 (.slice p0 S.length c0),kn 9 (.agg (mv f)),td 10,td 11,kn 12 (ab gm 0),kn 13 (ab gm 2),nk] (fun _=>⟨fun _=>⟨rfl,rfl,rfl,aA _,fun _ _ _=>rfl⟩,fun _=>i,(fun h=>by cases h),(fun h=>by cases h),(fun h=>by cases h)⟩) (fun _ _ _ _ w h=>⟨fun e=>pW (h.grown e) w,fun e=>iG (h.own e) w,fun e e'=>(h.one e e').imp fun _ q=>⟨q.1,ai w q.2⟩,fun e e'=>iG (h.app e e') w,fun e=>⟨(h.fin e).1.below w,fun q c T O h2 h3=>by have:=(h.fin e).2 q c T O h2 h3;exact ai w this⟩⟩) (by kernel_rfl) (fun D φ s m P F l hl E=> ?_) (fun D φ s hM m=> ?_)
 ·simp only[kn,td,nk,d6,aR,a8,Act.put,aD,aJ,aI]at hl;subst hl;simp only[dz,Nat.reduceAdd]at E
  have j:D 7=false->D 10=false:=fun h7=>by
   cases h:D 10 with
   |false=>rfl
   |true=>rw[P 10 _ rfl h ⟨7,.data⟩ (by simp) rfl rfl]at h7;cases h7
  dsimp only[kn,td,nk,dK,fo,eD,Act.put];and_intros;all_goals first|exact trivial|intro hw hn J K I
  all_goals try (go_simp;with_reducible exact I _ _ ⟨rfl,aF _ _⟩)
  ·have n:=((m.grown (j (hn 7 _ rfl (by kernel_rfl)))).block _ (aH Y) B).trans Y;have z2:=ak 2 n;go_simp;exact I _ _ ⟨rfl,aF _ _⟩
  ·have r:D 7=false:=by
    cases h:D 7 with
    |false=>rfl
    |true=>
     have:=hn 6 _ rfl (by kernel_rfl);rw[P 7 _ rfl h ⟨6,.data⟩ (by simp) rfl rfl]at this;cases this
   have ar:=((m.grown (j r)).block _ (aH nB) A).trans nB;refine fh 39 _ rfl _ (by simp[Act.eval,E]) _ _ _ _ ar cj rfl (bg _) ?_;exact I _ _ ⟨rfl,aF _ _⟩
  ·have w:=am s (.cells (mv f) 39);have r:=hn 7 _ rfl (by kernel_rfl);refine KD _ rfl f (by simp[Act.eval,E]) ?_;exact I _ _ ⟨trivial,fun _=>pW (m.grown (j r)) w,fun _=>iG (m.own r) w,fun _ _=>⟨_,dX ..,aB s _⟩,(fun h=>by simp[r]at h),(fun h=>by simp[j r]at h)⟩
  ·obtain⟨g,ac,hh⟩:=m.one (hw ⟨6,.data⟩ (by simp) rfl rfl) J;have t:=m.grown (j J);rw[ac]at E;refine wp_append_own s _ _ 29 rfl y.heap.size 39 i0 _ 23 184 KF hi HZ.o an ap rfl (by decide) (.slice p0 S.length c0) S.length (kQ S) (by simp[Act.eval,E]) (m.own J) ⟨g,0,none⟩ 1 1 (mv f).toList (by simp[Act.eval,E]) (tm f) ?c1 ?c2 ?c3 ?c4 ?c5 ?_
   case c1=>
    intro q u x;rw[wf];exact(aW _ _ _ _ _ _ hh).trans (by rw[bN,<-bq];exact x)
   case c2=>
    intro u hu;have:=dI f;rw[Array.all_eq_true_iff_forall_mem]at this;exact this u (Array.mem_def.2 hu)
   case c3=>unfold maxLen;omega
   case c4=>omega
   case c5=>exact bh ad t.size
   intro v' v U G _;exact I _ _ ⟨trivial,fun _=>xj t G,(fun e=>by simp at e),(fun _ e=>by simp at e),fun _ _=>by rw[dX];exact U,(fun e=>by simp[j J]at e)⟩
  ·have a:=m.app (hw ⟨7,.data⟩ (by simp) rfl rfl) J;have t:=m.grown J;have q7:=hw ⟨7,.data⟩ (by simp) rfl rfl;obtain⟨L,H,aj⟩:=dy a;rw[aj]at E a;have n:=(t.block _ (aH Y) B).trans Y;have z2:=ak 2 n;have y2:=bu _ _ 2 _ _ n;have R:=lm a n (by decide);have nS:(s.setCell ⟨gm,2,none⟩ (.slice L (S.length+1) H)).heap[gm]? =ah #[lv,ag day,.slice L (S.length+1) H,ag k] 100:=aY s gm 2 _ _ _ n
   have bS:ao y (s.setCell ⟨gm,2,none⟩ (.slice L (S.length+1) H)):=by
    refine Below.setCell (p:=⟨gm,2,none⟩) ⟨t.os.trans b.os,t.tape.trans b.tape,t.output.trans b.output,bh b.size t.size,fun q x=> ?_⟩ hgt _;refine(t.block q (aT x b.size) fun e=> ?_).trans (b.block q x);have:=(i.lt _ e.symm).1;omega
   have C:(s.setCell ⟨gm,2,none⟩ (.slice L (S.length+1) H)).ownsRow y.heap.size 39 23 (.slice L (S.length+1) H) (S++[f]).length (kQ (S++[f])):=by
    rw[tT,aN,eG];refine a.kept (row:=some gm) ⟨rfl,rfl,rfl,by simp,fun q x hr=>aM s ⟨gm,2,none⟩ q _ fun e=>hr (congrArg some e)⟩ (.inr fun e=>R e.symm)
   have HJ:T4 (∀φ',Re y.heap.size (.slice p0 S.length c0) S.length (kQ S) f wB (fun v=>VSt y gm lv day (S++[f]) k v/\ ∀(q:Nat) (c:Array Value) (T:TypeId),W.heap[q]? =ah c T->T≠39->q≠gm->v.heap[q]? =ah c T) (fun k=>decide (10=k)||D k) φ' (s.setCell ⟨gm,2,none⟩ (.slice L (S.length+1) H))):=fun _=>⟨(fun h=>by simp at h),(fun h=>by simp[q7]at h),(fun _ h=>by simp[q7]at h),(fun _ h=>by simp at h),fun _=>⟨⟨bS,hgt,_,nS,C⟩,fun q c T x hT ae=>by
    have O:=aa.o q c T x;exact(aM s ⟨gm,2,none⟩ q _ ae).trans ((t.block _ (aH O) (lm i O hT)).trans O)⟩⟩
   clear a C nS bS m;go_simp;exact I undef _ ⟨trivial,HJ.o _⟩
 ·have HN:=aZ (m.fin (hM 10 (by decide) rfl));simp only[kn,td,nk,ep,aR,a8,Act.put,aD,aJ,aI];clear hM m;go_wp2_with fail;exact⟨rfl,_,eN rfl _ _ _,rfl,HN.o⟩
theorem uX {d:Array Oper}{c:List Oper}{op:Oper}{a:Act}{w:World}{Q:Exit->Act->World->Prop}(e:op.guard=none)(x:Operand)(i:op.op= .load 39 x)(b o:Nat)(j:a.eval x=ab b o)(f:Nat->Bool)(g:w.rangeAt b o (mv f).toList)
  (h:wpList prog d Q c (a.put op.dst (.agg (mv f))) w):wpList prog d Q (op::c) a w:=by
 refine wpList_load_mid e 39 x i b o j (mv f).toList _ g cj rfl (by rw[tm];kernel_rfl) ?_;simpa using h
theorem Na {w:World}{a:Nat}{v:Value}{S:List M}{f:M}(h:w.ownsRow a 39 23 v (S++[f]).length (kQ (S++[f]))):
  ∃g cap,v= .slice (some (ae g 0)) (S.length+1) cap/\S.length+1<=cap/\cap<=maxLen/\a<=g/\w.ownsRow a 39 23 (.slice (some (ae g 0)) S.length cap) S.length (kQ S)/\w.rangeAt g (S.length*23) (mv f).toList:=by
 obtain⟨x,d⟩:=h;rw[aN,eG]at d;rcases d with⟨_,e⟩|⟨g,cap,b,e,l,n,s,m,t,p⟩
 ·omega
 ·have c:=BG S
  have q:b.toList.take (S.length*23)=kQ S:=by
   have i:(b.toList.take ((S.length+1)*23)).take (S.length*23)=(kQ (S++[f])).take (S.length*23):=(by rw[p]);rw[List.take_take,gu (by omega),tT,List.take_left' c]at i;exact i
  refine⟨g,cap,e,s,m,l,⟨c,.inr ⟨g,cap,b,rfl,l,n,by omega,m,t,q⟩⟩,fun j u o=> ?_⟩
  have r:j<23:=by
   have:=(aE.1 o).1;rwa[tm]at this
  refine(aW _ _ _ _ _ _ n).trans ?_;have k:(b.toList.take ((S.length+1)*23))[S.length*23+j]? =(kQ (S++[f]))[S.length*23+j]? :=(by rw[p]);rw[dJ (by omega),tT,dR (by omega),c,Nat.add_sub_cancel_left,o]at k;simpa using k
theorem tU (x:World)(gm:Nat)(lv:Value)(day k:Int)(S:List M)(f:M)(W:World)(h:VSt x gm lv day (S++[f]) k W)(hS:S.length<=1000):
  Calls prog 31 #[ab gm 0] W fun e X=>e= .returned (.agg (mv f))/\VSt x gm lv day S k X/\ ∀q,q<W.heap.size->q≠gm->X.heap[q]? =W.heap[q]? :=by
 obtain⟨b,hgt,sv,d,a⟩:=h;obtain⟨g,cap,rfl,Z,F,Q,l,J⟩:=Na a;have hz:=ea;have aa:cap<=9223372036854775807:=by unfold maxLen at F;omega
 have af:g<W.heap.size:=(a.lt g rfl).2;have H:gm≠g:=fun e=>lm a d (by decide) (congrArg some e);have A:=am W (.cells (mv fun _=>false) 39);have U:=aB W (.cells (mv fun _=>false) 39);have i:=ai A d;have B:=au b A;have m:=iG l A;have K:(W.alloc (.cells (mv fun _=>false) 39)).rangeAt g (S.length*23) (mv f).toList:=World.rangeAt_alloc J _;have aj:=aH d;generalize aq:W.alloc (.cells (mv fun _=>false) 39)=P at*;have Y:=am P (.cells (mv fun _=>false) 39);have nB:=aB P (.cells (mv fun _=>false) 39);generalize ar:P.alloc (.cells (mv fun _=>false) 39)=wB at*;have y:=below_setRow Y (aA _) (mv f);have nC:=aK _ _ _ (mv f) _ _ nB;have L:=ai y U;have j:=ai y i;have s:=iG m y;have C:=au B y;generalize av:wB.setRow P.heap.size (mv f)=w at*;have ad:=aH U;have z2:=ak 2 i;have az:=ak 2 j;have ax:=bu _ _ 2 _ _ j;have nD:(w.setCell ⟨gm,2,none⟩ (.slice (some (ae g 0)) S.length cap)).heap[gm]? =ah #[lv,ag day,.slice (some (ae g 0)) S.length cap,ag k] 100:=aY w gm 2 _ _ _ j;have c: ∀q,q≠gm->(w.setCell ⟨gm,2,none⟩ (.slice (some (ae g 0)) S.length cap)).heap[q]? =w.heap[q]? :=fun q I=>aM w ⟨gm,2,none⟩ q _ I;have V:=(c P.heap.size (by have:=aH i;omega)).trans nC;have N:=(c W.heap.size (by omega)).trans L;have D:ao x (w.setCell ⟨gm,2,none⟩ (.slice (some (ae g 0)) S.length cap)):=C.setCell (p:=⟨gm,2,none⟩) hgt _
 have t:(w.setCell ⟨gm,2,none⟩ (.slice (some (ae g 0)) S.length cap)).ownsRow x.heap.size 39 23 (.slice (some (ae g 0)) S.length cap) S.length (kQ S):=
  s.kept (row:=some gm) ⟨rfl,rfl,rfl,by simp,fun q I T=>c q fun e=>T (congrArg some e)⟩ (.inr fun e=>H (ay e).symm)
 generalize aw:w.setCell ⟨gm,2,none⟩ (.slice (some (ae g 0)) S.length cap)=z at*;have nE:=aK _ _ _ (mv f) _ _ N;have O:=(aQ z W.heap.size gm (mv f) (by omega)).trans nD;have G:x.heap.size<=W.heap.size:=b.size;have E:=below_setRow D G (mv f)
 have u:(z.setRow W.heap.size (mv f)).ownsRow x.heap.size 39 23 (.slice (some (ae g 0)) S.length cap) S.length (kQ S):=
  t.kept (row:=some W.heap.size) ⟨rfl,rfl,rfl,by simp,fun q I T=>aQ z W.heap.size q (mv f) fun e=>T (congrArg some e)⟩ (.inr fun e=>by have e2:g=W.heap.size:=ay e;omega)
 have HN:T4 (VSt x gm lv day S k (z.setRow W.heap.size (mv f))):=⟨E,hgt,_,O,u⟩
 have HF:T4 (∀q,q<W.heap.size->q≠gm->(z.setRow W.heap.size (mv f)).heap[q]? =W.heap[q]?):=fun q I R=>(aQ z W.heap.size q (mv f) (by omega)).trans ((c q R).trans ((y.block q (by omega)).trans (A.block q I)));have al:(0:Int)<=(S.length:Int):=by omega
 have ap:(S.length:Int)<(cap:Int):=by omega
 have ac:S.length<=cap:=by omega
 have an:(S.length:Int)<=1000:=by omega
 clear a l m s t u b B C D E A Y y O nD c d i j U L J Q F;generalize S.length=n at*;go_enter func31,ntmps31
 go_wp2_with(first
  |(refine uX rfl _ rfl g (n*23) ?r f K ?_;(case r=>rfl))
  |(refine aC rfl 39 _ _ rfl _ _ rfl rfl _ _ nB (bg _) (by simp[bU]) (dI _) ?_)
  |(refine aO rfl 39 _ rfl _ rfl _ _ _ _ V cj rfl (bg _) ?_)
  |(refine aC rfl 39 _ _ rfl _ _ rfl rfl _ _ N (bg _) (by simp[bU]) (dI _) ?_))
 refine aX (v:= .agg (mv f)) ?_ rfl ⟨rfl,HN.o,HF.o⟩;exact bn rfl _ _ W.heap.size _ _ _ _ rfl nE cj rfl (bg _)
theorem Rf (n:Int)(w:World)(a:0<=n)(b:n<146097):Calls prog 177 #[ag n] w fun e c=>e= .returned (.bool true)/\c=w:=by
 go_enter func177,ntmps177;go_wp2;go_ret;exact⟨rfl,rfl⟩
def xR (n:Int):Int:=(n+5).tmod 7
theorem Px (n:Int)(a:0<=n):xR n=(n+5)%7:=by
 unfold xR;rw[Int.tmod_eq_emod_of_nonneg (by omega)]
theorem Gr (n:Int)(a:0<=n):0<=xR n/\xR n<7:=by
 rw[Px n a];omega
theorem SU (n:Int)(w:World)(a:0<=n)(b:n<146097):Calls prog 130 #[ag n] w fun e c=>e= .returned (ag (xR n))/\c=w:=by
 have c1:=Rf n w a b;have d:=Gr n a;have f:(n+5).tmod 7=xR n:=rfl;go_enter func130,ntmps130;go_wp2_with fail;refine c1.mono ?_;rintro e c ⟨rfl,rfl⟩;clear c1;go_wp2_with fail;go_ret;exact⟨rfl,rfl⟩
def eB (n a:Int):Bool:=bits BinOp.and IntKind.i64 (a/2^(xR n).toNat) 1==1
theorem Nb (m:World)(gm:Nat)(lv:Value)(n k:Int)(S:List M)(x b t:Int)(sv:Value)(W:World)(h:VSt m gm lv n S k W)(c:0<=n)(f:n<146097):
  Calls prog 105 #[ab gm 0,.agg #[ag 6,ag x,ag b,ag t,sv]] W fun r l=>r= .returned (.bool (eB n x))/\ao W l:=by
 obtain⟨_,_,p,e,_⟩:=h;have k0:=ak 1 e;have d:=am W (.cells #[ag 6,ag x,ag b,ag t,sv] 140);have a:=aB W (.cells #[ag 6,ag x,ag b,ag t,sv] 140);have j:=aj d k0;have s:=ak 0 a;have u:=ak 1 a;have o:=Gr n c;have g:=fun W=>SU n W c f;generalize i:W.alloc (.cells #[ag 6,ag x,ag b,ag t,sv] 140)=q at*;clear e a k0;go_enter func105,ntmps105;go_wp2_with fail;go_quiet ((go_at_call 130;exact fB (g _)));go_wp2_with fail;go_ret;exact⟨rfl,du d nq⟩
theorem Nc (o:World)(gm:Nat)(lv:Value)(n k:Int)(S:List M)(x b t:Int)(sv:Value)(W:World)(h:VSt o gm lv n S k W):
  Calls prog 105 #[ab gm 0,.agg #[ag 7,ag x,ag b,ag t,sv]] W fun r m=>r= .returned (.bool (decide (x<=n)&&decide (n<=b)))/\ao W m:=by
 obtain⟨_,_,p,g,_⟩:=h;have k0:=ak 1 g;have a:=am W (.cells #[ag 7,ag x,ag b,ag t,sv] 140);have d:=aB W (.cells #[ag 7,ag x,ag b,ag t,sv] 140);have l:=aj a k0;have s:=ak 0 d;have u:=ak 1 d;have v:=ak 2 d;generalize j:W.alloc (.cells #[ag 7,ag x,ag b,ag t,sv] 140)=q at*;clear g d k0;by_cases c:x<=n
 ·by_cases e:n<=b
  ·rw[bc c,bc e];go_enter func105,ntmps105;go_wp2_with fail;go_quiet (fail);go_wp2_with fail;go_ret;exact⟨rfl,du a nq⟩
  ·rw[bc c,bo e];have f:decide (n<=b)=false:=bo e;go_enter func105,ntmps105;go_wp2_with fail;go_quiet (fail);go_wp2_with fail;go_ret
   first
    |exact⟨rfl,du a nq⟩
    |exact⟨congrArg (fun x=>Ending.returned (.bool x)) f,du a nq⟩
 ·rw[bo c];have i:decide (x<=n)=false:=bo c;go_enter func105,ntmps105;go_wp2_with fail;go_quiet (fail);go_wp2_with fail;go_ret;exact⟨rfl,du a nq⟩
theorem xS (K:Nat)(F:M->M->M)(eK: ∀a w,(callFunc K a).run prog w= .ok (.enter K a) w)(N: ∀(f g:M) (W:World),Calls prog K #[.agg (mv f),.agg (mv g)] W fun e U=>e= .returned (.agg (mv (F f g)))/\ao W U)
  (i:World) (gm:Nat) (lv:Value) (day k:Int) (S:List M) (f g:M) (W:World) (h:VSt i gm lv day (S++[f,g]) k W) (hS:S.length<=900):
  Calls prog 104 #[ab gm 0,.func (.func K) #[] #[]] W fun e T=>e= .returned (.tuple #[])/\VSt i gm lv day (S++[F f g]) k T:=by
 have D:S++[f,g]=(S++[f])++[g]:=by simp
 rw[D]at h;have c1:=tU i gm lv day k (S++[f]) g W h (by rw[aN];simp;omega);have hz:=ea;have Q:=aZ N;clear N h D;go_enter func104,ntmps104;go_wp2_with fail;refine c1.mono ?_;rintro e j ⟨rfl,E,_⟩;clear c1;have x:=am j (.cells (mv fun _=>false) 39);have t:=aB j (.cells (mv fun _=>false) 39);generalize p:j.alloc (.cells (mv fun _=>false) 39)=X at*;have y:=below_setRow x (aA _) (mv g);have u:=aK _ _ _ (mv g) _ _ t;have G:=E.below y;obtain⟨_,_,sv1,d,_⟩:=E
 have n:j.heap.size≠gm:=fun e=>by
  have:=aH d;omega
 generalize q:X.setRow j.heap.size (mv g)=Y at*;have A:=tU i gm lv day k S f Y G (by omega);clear G x y d;go_wp2_with(refine aC rfl 39 _ _ rfl _ _ rfl rfl _ _ t (bg _) (by simp[bU]) (dI _) ?_)
 refine A.mono ?_;rintro e l ⟨rfl,H,b⟩;have P:=(b _ (aH u) n).trans u;clear A p q t u b;have z:=am l (.cells (mv fun _=>false) 39);have v:=aB l (.cells (mv fun _=>false) 39);generalize r:l.alloc (.cells (mv fun _=>false) 39)=Z at*;have m:=below_setRow z (aA _) (mv f);have O:=aK _ _ _ (mv f) _ _ v;have c:=ai m P;have I:=H.below m;generalize s:Z.setRow l.heap.size (mv f)=wD at*;have B:=Q.o f g wD;clear H z m P
 go_wp2_with(first
  |(refine aC rfl 39 _ _ rfl _ _ rfl rfl _ _ v (bg _) (by simp[bU]) (dI _) ?_)
  |(refine aO rfl 39 _ rfl _ rfl _ _ _ _ O cj rfl (bg _) ?_)
  |(refine aO rfl 39 _ rfl _ rfl _ _ _ _ c cj rfl (bg _) ?_))
 refine B.mono ?_;rintro e V ⟨rfl,b5⟩;have J:=I.below b5;have C:=wg i gm lv day k S (F f g) V J (by omega);clear B I b5 J v O c r s;go_wp2_with fail;refine C.mono ?_;rintro e w6 ⟨rfl,L,_⟩;have R:=aZ L;clear C L;go_wp2_with fail;exact⟨rfl,_,eN rfl _ _ _,rfl,R.o⟩
section
theorem Rg (l:List (Int×Int)):spM l=inl l:=rfl
abbrev StO (w0:World)(gm:Nat)(lv:Value)(day op a b t:Int)(sv:Value)(k:Nat)(W:World)(f:Int)(S:List M)(c:Int):Prop:=Calls prog 63 #[ab gm 0,.agg #[ag op,ag a,ag b,ag t,sv],ag (k:Int)] W fun e d=>e= .returned (ag f)/\VSt w0 gm lv day S c d
section
variable (w0:World) (gm:Nat) (lv:Value) (day c:Int) (S:List M) (a b t:Int) (sv:Value) (k:Nat) (W:World)
theorem tn (op:Int): ∃c,W.alloc (.cells #[ag op,ag a,ag b,ag t,sv] 140)=c/\ao W c/\c.heap[W.heap.size]? =ah #[ag op,ag a,ag b,ag t,sv] 140/\c.cell? (ae W.heap.size 0)=some (ag op)/\c.cell? (ae W.heap.size 1)=some (ag a)/\c.cell? (ae W.heap.size 3)=some (ag t)/\c.cell? (ae W.heap.size 4)=some sv:=
 have n:=aB W (.cells #[ag op,ag a,ag b,ag t,sv] 140)
 ⟨_,rfl,am _ _,n,ak 0 n,ak 1 n,ak 3 n,ak 4 n⟩
theorem DO {k:Nat}(h:k<=2000):(0:Int)<=(k:Int)/\(k:Int)<=2000:=by omega
theorem Rh (sp:List (Int×Int))(h:VSt w0 gm lv day S c W)(m:oG W sv sp)(p:k<=2000)(A:S.length<=900):StO w0 gm lv day 1 a b t sv k W ((k+1:Nat):Int) (S++[spM sp]) c:=by
 obtain⟨v,f,d,s,w,x,y,z⟩:=tn a b t sv W 1;obtain⟨q,r⟩:=DO p;have l:=h.below d;have c1:=Gl sv sp v (m.later d);rw[<-Rg]at c1;clear h m d;go_enter func63,ntmps63;go_wp2_with fail;refine c1.mono ?_;rintro e u ⟨rfl,b1⟩;have i:=l.below b1;have g:=wg w0 gm lv day c S (spM sp) u i (by omega);clear c1 l b1 i w x y z s f;go_wp2_with fail;refine g.mono ?_;rintro e B ⟨rfl,j,_⟩;have n:=aZ j;clear g j;go_wp2_with fail;go_ret;exact⟨by go_num,n.o⟩
theorem DP (f g:M)(op:Int)(o:M->M->M)(s:op=2/\o=unM\/op=3/\o=dfM\/op=4/\o=boM)(h:VSt w0 gm lv day (S++[f,g]) c W)(p:k<=2000)(z:S.length<=900):StO w0 gm lv day op a b t sv k W ((k+1:Nat):Int) (S++[o f g]) c:=by
 obtain⟨j,i,l,u,v,w,x,y⟩:=tn a b t sv W op;obtain⟨q,r⟩:=DO p;have d:=h.below l;rcases s with⟨rfl,rfl⟩|⟨rfl,rfl⟩|⟨rfl,rfl⟩;case' inl=>have c1:=xS 86 unM (fun _ _=>by simp[go_sem]) (fun f g W=>Bo f g W) w0 gm lv day c S f g j d (by omega)
 case' inr.inl=>have c1:=xS 87 dfM (fun _ _=>by simp[go_sem]) (fun f g W=>ro f g W) w0 gm lv day c S f g j d (by omega)
 case' inr.inr=>have c1:=xS 88 boM (fun _ _=>by simp[go_sem]) (fun f g W=>C5 f g W) w0 gm lv day c S f g j d (by omega)
 all_goals
  clear h l d u
  go_enter func63,ntmps63
  go_wp2_with fail
  refine c1.mono ?_
  rintro e A ⟨rfl,m⟩
  have n:=aZ m
  clear c1 m v w x y i
  go_wp2_with fail
  go_ret
  exact⟨by go_num,n.o⟩
structure ShJ (w0:World)(gm:Nat)(lv:Value)(day c:Int)(S:List M)(g g':M)(gx:Nat)(X:Array Value)(M:Nat->Bool)(W:World):Prop where
 box:W.heap[gx]? =ah X 140
 ahead:M 2=false->VSt w0 gm lv day (S++[g]) c W
 mid:M 2=true->M 6=false->VSt w0 gm lv day S c W
 fin:M 6=true->VSt w0 gm lv day (S++[g']) c W
theorem Ri (g:M)(h:VSt w0 gm lv day (S++[g]) c W)(L:k<=2000)(Z:S.length<=900)(I: -1439<=a)(J:a<=1439):StO w0 gm lv day 5 a b t sv k W ((k+1:Nat):Int) (S++[shM g a]) c:=by
 obtain⟨wX,y,B,z,T,U,V,X⟩:=tn a b t sv W 5;obtain⟨N,O⟩:=DO L;have C:=h.below B;have s:T4 (∀W,Calls prog 89 #[.agg (mv g),ag a] W fun e R=>e= .returned (.agg (mv (shM g a)))/\ao W R):=fun W=>yM g a W (by omega) (by omega)
 have n:W.heap.size≠gm:=fun e=>by
  obtain⟨_,_,_,q,_⟩:=h;have:=aH q;omega
 clear h B U V X;go_enter func63,ntmps63;go_wp2_with fail;obtain⟨gx,f⟩: ∃b,W.heap.size=b:=⟨_,rfl⟩
 rw[f]at z n;simp only[f];clear f y T;refine dH (fun M _=>ShJ w0 gm lv day c S g (shM g a) gx #[ag 5,ag a,ag b,ag t,sv] M) [kn 30 (ab gm 0),kn 31 (ab gm 0),dk 32 (.agg (mv g)),kn 33 (ab gx 1),kn 34 (ag a),dk 35 (.agg (mv (shM g a))),dk 36 (.tuple #[])] (fun _=>⟨z,fun _=>C.below (aF _ _).drew,(fun h=>by cases h),(fun h=>by cases h)⟩) (fun _ _ _ _ v h=>⟨ai v h.box,fun e=>(h.ahead e).below v,fun e p=>(h.mid e p).below v,fun e=>(h.fin e).below v⟩) (by kernel_rfl) (fun M φ x d j F l D H=> ?_) (fun M φ Y r d=> ?_)
 ·simp only[kn,dk,d6,aR,a8,Act.put,aD,aJ,aI]at D;subst D;simp only[dz,Nat.reduceAdd]at H;have zz:=ak 1 d.box;dsimp only[kn,dk,dK,fo,eD,Act.put];and_intros;all_goals first|exact trivial|intro P hn w K u
  all_goals try (go_simp;with_reducible exact u _ _ ⟨rfl,aF _ _⟩)
  ·go_simp;refine(tU w0 gm lv day c S g x (d.ahead w) (by omega)).mono ?_;rintro p A ⟨rfl,r,m⟩
   have Q:M 6=false:=by
    cases h:M 6 with
    |false=>rfl
    |true=>rw[j 5 _ rfl (j 6 _ rfl h ⟨5,.data⟩ (by simp) rfl rfl) ⟨2,.data⟩ (by simp) rfl rfl]at w;cases w
   exact u _ _ ⟨rfl,(m _ (aH d.box) n).trans d.box,(fun e=>by simp at e),fun _ _=>r,(fun e=>by simp[Q]at e)⟩
  ·go_simp;refine(s.o x).mono ?_;rintro p A ⟨rfl,i⟩;exact u _ _ ⟨rfl,ai i d.box,fun e=>(d.ahead (by simpa using e)).below i,fun e p=>(d.mid (by simpa using e) (by simpa using p)).below i,fun e=>(d.fin (by simpa using e)).below i⟩
  ·have E:=j 5 _ rfl (P ⟨5,.data⟩ (by simp) rfl rfl) ⟨2,.data⟩ (by simp) rfl rfl;go_simp;refine(wg w0 gm lv day c S (shM g a) x (d.mid E w) (by omega)).mono ?_;rintro p A ⟨rfl,r,m⟩;exact u _ _ ⟨rfl,m _ _ _ d.box (by decide) n,(fun e=>by simp[E]at e),(fun _ e=>by simp at e),fun _=>r⟩
 ·have G:=aZ (d.fin (r 6 (by decide) rfl));simp only[kn,dk,ep,aR,a8,Act.put,aD,aJ,aI];clear r d s C z;go_wp2_with fail;go_ret;exact⟨by go_num,G.o⟩
theorem Rj (g:List M)(j:Int)(h:VSt w0 gm lv day S c W)(p:k<=2000)(d: ∀W,VSt w0 gm lv day S c W->Calls prog 30 #[ab gm 0,ag a] W fun e n=>e= .returned (.tuple #[])/\VSt w0 gm lv day g j n):StO w0 gm lv day 8 a b t sv k W ((k+1:Nat):Int) g j:=by
 obtain⟨u,f,i,s,v,w,x,y⟩:=tn a b t sv W 8;obtain⟨q,r⟩:=DO p;have c1:=d u (h.below i);clear h i s d;go_enter func63,ntmps63;go_wp2_with fail;refine c1.mono ?_;rintro e z ⟨rfl,l⟩;have m:=aZ l;clear c1 l v w x y f;go_wp2_with fail;go_ret;exact⟨by go_num,m.o⟩
theorem KG (op:Int)(q:Bool)(G:op=6/\q=eB day a\/op=7/\q=(decide (a<=day)&&decide (day<=b)))(m:Option Addr)(l i:Nat)(h:VSt w0 gm lv day S c W)(D:k<=2000)(L:S.length<=900)(y:0<=day)(z:day<146097):StO w0 gm lv day op a b t (.slice m l i) k W (if q=true then((k+1:Nat):Int) else t) (if q=true then S else S++[noM]) c:=by
 obtain⟨B,v,x,w,I,J,C,K⟩:=tn a b t (.slice m l i) W op;obtain⟨E,F⟩:=DO D;have j:=h.below x
 have s:W.heap.size≠gm:=fun e=>by
  obtain⟨_,_,_,q,_⟩:=h;have:=aH q;omega
 have M:=ea;rcases G with⟨rfl,u⟩|⟨rfl,u⟩;case' inl=>have c1:=Nb w0 gm lv day c S a b t (.slice m l i) B j y z
 case' inr=>have c1:=Nc w0 gm lv day c S a b t (.slice m l i) B j
 all_goals
  rw[<-u]at c1
  clear h x y z u
  go_enter func63,ntmps63
  go_wp2_with(refine aO rfl 140 _ rfl _ rfl _ _ _ _ w tf rfl (by kernel_rfl) ?_)
  refine c1.mono ?_
  rintro e H ⟨rfl,b1⟩
  have r:=j.below b1
  have f:=ai b1 w
  have p:=wg w0 gm lv day c S noM H r (by omega)
  unfold noM at p
  have n:=aZ r
  clear c1 j b1 r I J C K v w
  cases q with
  |true=>
   simp only
   go_wp2_with fail
   go_ret
   exact⟨by go_num,n.o⟩
  |false=>
   simp only
   go_wp2_with fail
   refine p.mono ?_
   rintro e N ⟨rfl,A,d⟩
   have g:=d _ _ _ f (by decide) s
   have C:=ak 3 g
   have n:=aZ A
   clear p A d f g
   go_wp2_with fail
   go_ret
   exact⟨rfl,n.o⟩
end
end
theorem ik {d:World}{gm:Nat}{lv:Value}{day c b:Int}{S a:List M}{W:World}(h:VSt d gm lv day S c W)(e:S=a)(f:c=b):VSt d gm lv day a b W:=by
 subst e f;exact h
theorem Nd {ev:Nat->M×Nat}{x:In}{sv:Value}{s:Vx.St}{B:List M}{c:Int}{W j:World}{gm:Nat}{lv:Value}{day:Int}{n r:Nat}(h:VSt j gm lv day (B++s.S) c W)(F:oG W sv x.sp)(hi:fT x s.k n r=0)(o:s.k<=2000)(J:B.length+s.S.length<=900)(K:tk x<=s.S.length)
  (C:0<=day) (D:day<146097)
  (w:x.op=8-> ∀W,VSt j gm lv day (B++s.S) c W->Calls prog 30 #[ab gm 0,ag x.a] W fun e l=>e= .returned (.tuple #[])/\VSt j gm lv day (B++s.S++[(ev x.a.toNat).1]) (c+(ev x.a.toNat).2) l):
  Calls prog 63 #[ab gm 0,.agg #[ag x.op,ag x.a,ag x.b,ag x.to,sv],ag (s.k:Int)] W fun e l=>e= .returned (ag ((dC (eB day) day ev x s).k:Int))/\VSt j gm lv day (B++(dC (eB day) day ev x s).S) (c+(((dC (eB day) day ev x s).n:Int)-(s.n+1))) l:=by
 have m:(B++s.S).length<=900:=by rw[aN];exact J
 rcases uU hi with d|d|d|d|d|d|d
 ·have e:dC (eB day) day ev x s=⟨s.k+1,s.S++[spM x.sp],s.n+1⟩:=by simp[dC,d]
  rw[e,d];refine(Rh j gm lv day c (B++s.S) x.a x.b x.to sv s.k W x.sp h F o m).mono ?_;rintro u l ⟨rfl,i⟩;exact⟨rfl,ik i (by simp) (by simp)⟩
 ·have e:dC (eB day) day ev x s=⟨s.k+1,oD unM s.S,s.n+1⟩:=by simp[dC,d]
  have y:tk x=2:=(by simp[tk,d]);obtain⟨T,f,g,v⟩:=v6 (S:=s.S) (by omega);rw[e,d];dsimp only;rw[v]at h m⊢;rw[mJ];refine(DP j gm lv day c (B++T) x.a x.b x.to sv s.k W f g 2 unM (.inl ⟨rfl,rfl⟩) (ik h (by simp) rfl) o (by simp at m⊢;omega)).mono ?_;rintro u l ⟨rfl,i⟩;exact⟨rfl,ik i (by simp) (by simp)⟩
 ·have e:dC (eB day) day ev x s=⟨s.k+1,oD dfM s.S,s.n+1⟩:=by simp[dC,d]
  have y:tk x=2:=(by simp[tk,d]);obtain⟨T,f,g,v⟩:=v6 (S:=s.S) (by omega);rw[e,d];dsimp only;rw[v]at h m⊢;rw[mJ];refine(DP j gm lv day c (B++T) x.a x.b x.to sv s.k W f g 3 dfM (.inr (.inl ⟨rfl,rfl⟩)) (ik h (by simp) rfl) o (by simp at m⊢;omega)).mono ?_;rintro u l ⟨rfl,i⟩;exact⟨rfl,ik i (by simp) (by simp)⟩
 ·have e:dC (eB day) day ev x s=⟨s.k+1,oD boM s.S,s.n+1⟩:=by simp[dC,d]
  have y:tk x=2:=(by simp[tk,d]);obtain⟨T,f,g,v⟩:=v6 (S:=s.S) (by omega);rw[e,d];dsimp only;rw[v]at h m⊢;rw[mJ];refine(DP j gm lv day c (B++T) x.a x.b x.to sv s.k W f g 4 boM (.inr (.inr ⟨rfl,rfl⟩)) (ik h (by simp) rfl) o (by simp at m⊢;omega)).mono ?_;rintro u l ⟨rfl,i⟩;exact⟨rfl,ik i (by simp) (by simp)⟩
 ·have e:dC (eB day) day ev x s=⟨s.k+1,AW (fun f=>shM f x.a) s.S,s.n+1⟩:=by simp[dC,d]
  have y:tk x=1:=(by simp[tk,d])
  have p: -1439<=x.a/\x.a<=1439:=by
   simp only[fT,d]at hi;simp only[show¬((5:Int)=2\/(5:Int)=3\/(5:Int)=4) by omega,show¬(5:Int)=1 by omega,if_false,if_true]at hi;by_cases E:x.a≠0/\ -1439<=x.a/\x.a<=1439
   ·exact E.2
   ·rw[aw E]at hi;simp at hi
  obtain⟨T,g,v⟩:=zj (S:=s.S) (by omega);rw[e,d];dsimp only;rw[v]at h m⊢;rw[AX];refine(Ri j gm lv day c (B++T) x.a x.b x.to sv s.k W g (ik h (by simp) rfl) o (by simp at m⊢;omega) p.1 p.2).mono ?_;rintro u l ⟨rfl,i⟩;exact⟨rfl,ik i (by simp) (by simp)⟩
 ·have e:dC (eB day) day ev x s=⟨s.k+1,s.S++[(ev x.a.toNat).1],s.n+1+(ev x.a.toNat).2⟩:=by simp[dC,d]
  rw[e];have z:=w d;rw[d];refine(Rj j gm lv day c (B++s.S) x.a x.b x.to sv s.k W (B++s.S++[(ev x.a.toNat).1]) (c+(ev x.a.toNat).2) h o z).mono ?_;rintro u l ⟨rfl,i⟩;exact⟨rfl,ik i (by simp) (by push_cast;omega)⟩
 ·have L:=tb hi d;obtain⟨G,A,rfl,_,_⟩:=F.form
  have e:dC (eB day) day ev x s=if onD (eB day) day x=true then⟨s.k+1,s.S,s.n+1⟩ else⟨x.to.toNat,s.S++[noM],s.n+1⟩:=by
   unfold isG at d;unfold dC;rw[aw (by omega),aw (by omega),aw (by omega),aw (by omega),aw (by omega),aw (by omega)]
  rw[e];have t:((x.to.toNat:Nat):Int)=x.to:=(by omega);rcases d with d|d
  ·have H:onD (eB day) day x=eB day x.a:=(by simp[onD,d]);rw[d,H];refine(KG j gm lv day c (B++s.S) x.a x.b x.to s.k W 6 _ (.inl ⟨rfl,rfl⟩) G x.sp.length A h o m C D).mono ?_;rintro u l ⟨rfl,i⟩;cases hq:eB day x.a with
   |true=>
    rw[hq]at i;exact⟨rfl,ik i rfl (by simp)⟩
   |false=>
    rw[hq]at i;exact⟨congrArg (fun q=>Ending.returned (ag q)) t.symm,ik i (by simp) (by simp)⟩
  ·have I:onD (eB day) day x=(decide (x.a<=day)&&decide (day<=x.b)):=by
    unfold onD;rw[aw (by omega)]
   rw[d,I];refine(KG j gm lv day c (B++s.S) x.a x.b x.to s.k W 7 _ (.inr ⟨rfl,rfl⟩) G x.sp.length A h o m C D).mono ?_;rintro u l ⟨rfl,i⟩;cases hq:(decide (x.a<=day)&&decide (day<=x.b)) with
   |true=>
    rw[hq]at i;exact⟨rfl,ik i rfl (by simp)⟩
   |false=>
    rw[hq]at i;exact⟨congrArg (fun q=>Ending.returned (ag q)) t.symm,ik i (by simp) (by simp)⟩
theorem VSt.count {g W:World}{gm:Nat}{lv:Value}{day k:Int}{S:List M}(h:VSt g gm lv day S k W)(f:Int):VSt g gm lv day S f (W.setCell ⟨gm,3,none⟩ (ag f)):=by
 obtain⟨i,b,sv,c,d⟩:=h;have a:=lm d c (by decide);refine⟨i.setCell (p:=⟨gm,3,none⟩) b _,b,sv,aY W gm 3 _ _ _ c,?_⟩;exact d.kept (row:=some gm) ⟨rfl,rfl,rfl,by simp,fun q l j=>aM W ⟨gm,3,none⟩ q _ fun e=>j (congrArg some e)⟩ (.inr fun e=>a e.symm)
def Rk (d:Int->Bool)(day:Int)(ev:Nat->M×Nat)(a:List Cd)(l:List In)(R:Vx.St)(b:World)(gm:Nat)(lv:Value)(B:List M)(c:Int)(t:Value)(wr:World):Prop:= ∃s:Vx.St,t=ag (s.k:Int)/\oF a l s/\runV d day ev l s=R/\VSt b gm lv day (B++s.S) (c+s.n) wr
theorem Gs (b:List Cd)(lv:Value)(I:World)(gm:Nat)(day:Int)(A:nh b)(Y:InV I lv b)(d0:0<=day)(d1:day<146097): ∀(d r:Nat) (B:List M) (c:Int) (W:World),r<b.length->rk (gK b) b.length r<d->VSt I gm lv day B c W->(B.length:Int)+(b.getD r cd0).high<=800->0<=c->c+(b.getD r cd0).steps<=1000000->
  Calls prog 30 #[ab gm 0,ag (r:Int)] W fun e T=>e= .returned (.tuple #[])/\VSt I gm lv day (B++[(evV (eB day) day b d r).1]) (c+(evV (eB day) day b d r).2) T
 |0,_,_,_,_,_,hd,_,_,_,_=>by omega
 |d+1,r,B,c,W,hr,hd,U,hB,a7,av=>by
  have ih:=Gs b lv I gm day A Y d0 d1 d;obtain⟨u,H⟩: ∃u,b[r]? =some u:=⟨b[r],az hr⟩
  rw[jh H]at hB av;have y:=jB (A.alone r u H);have E:=A.fit r u H;obtain⟨ay,a0,an,ao,Z,aa⟩:=A.run (wk:=eB day) (day:=day) (d+1) r u H hd;rw[Nat.add_sub_cancel]at an ao Z aa;have aq:Up (eB day) day (evV (eB day) day b d) u.ins:=Ij y.2.2;obtain⟨p,cp,ad,a2,ae⟩:=Y.form;obtain⟨sv,F,g,o,rfl,e0,_,_⟩:=ae r u H;obtain⟨pu,cu,rfl,aE,af⟩:=F.form;have K:=aZ af;have N:=aZ ih;have J:=aZ y.2.2;have f:=aZ E;have R:=aZ aq;have Q:=aZ A;have HU:=aZ H;have w:T4 (∀i,0<=(b.getD i cd0).steps):=A.steps0
  have L:T4 (∀(j:Nat) (x:In),u.ins[j]? =some x->x.op=8->((evV (eB day) day b d x.a.toNat).2:Int)<=(b.getD x.a.toNat cd0).steps):=fun j x v ho=>by
   obtain⟨q1,_,q3⟩:=A.call H v ho;have hg:b[x.a.toNat]? =some b[x.a.toNat]:=az q1;rw[jh hg];exact(A.run (wk:=eB day) (day:=day) d _ _ hg (by omega)).2.1
  have aD:u.ins.length<=2000:=y.1.2;have a6:u.steps<=20000:=y.2.1.2.2;have f0:=aj U.bel e0;have aA:(0:Int)<=(r:Int):=(by omega);have aB:(r:Int)<(b.length:Int):=(by omega);have aH:(0:Int)<=(u.ins.length:Int):=(by omega)
  have nM: ∃sv,W.heap[gm]? =ah #[lv,ag day,sv,ag c] 100:=by
   obtain⟨_,_,s1,q,_⟩:=U;exact⟨s1,q⟩
  obtain⟨s1,nM⟩:=nM;rw[ad]at nM;have zM:=ak 0 nM;have HM:=aZ U;have O:=aZ Z;have P:=aZ aa;clear y E ay a0 an ao Z aa aq ae F af ih A H U nM Y ad;go_enter func30,ntmps30;go_wp2_with fail;have U:=HM.o;clear HM zM f0 e0;go_loopw [5] (fun t wr=>Rk (eB day) day (evV (eB day) day b d) b u.ins (runV (eB day) day (evV (eB day) day b d) u.ins ⟨0,[],0⟩) I gm lv B c t wr) (fun t _=>u.ins.length-(intOf t).toNat);case atStart=>exact⟨⟨0,[],0⟩,rfl,oF.nil,rfl,ik U (by simp) (by simp)⟩
  case round=>
   obtain⟨s,rfl,hI,C,z⟩:=hrel;clear U;have aC:(0:Int)<=(s.k:Int):=(by omega);have a4:=hI.le;have a5:=hI.st;have a3:=hI.hi;by_cases al:s.k<u.ins.length
   ·have am:(s.k:Int)<(u.ins.length:Int):=(by omega);obtain⟨x,v⟩: ∃x,u.ins[s.k]? =some x:=⟨u.ins[s.k],az al⟩
    obtain⟨sk,G,g2,o2,aw,k0,k1,k2,k3,k4⟩:=K.o s.k _ v;subst aw;have X:=J.o _ _ v;have m:=hI.step (wk:=eB day) (day:=day) (ev:=evV (eB day) day b d) f.o.well v X w.o (L.o _ _ v);have ap:=my R.o v
    have aF:stS b u.ins s.k<=u.steps:=by
     rw[<-f.o.steps];exact xO w.o (by omega)
    have aG:hAt u.ins s.k<=u.high:=by
     rw[<-f.o.high];exact Pe (by omega)
    have a1:=f.o.well.tk _ _ v;have l:=z.count (c+s.n+1);obtain⟨_,_,s2,ac,_⟩:=z;have z3:=ak 3 ac;have y3:=bu _ _ 3 _ _ ac;have q0:=aj l.bel k0;have q1:=aj l.bel k1;have q2:=aj l.bel k2;have q3:=aj l.bel k3;have q4:=aj l.bel k4
    have cS:=Nd (ev:=evV (eB day) day b d) (x:=x) (sv:=sk) (s:=s) (B:=B) (r:=b.length) l (G.later l.bel) X (by omega) (by omega) (by omega) d0 d1 (fun ho T V=>by
     obtain⟨v1,v2,v3⟩:=Q.o.call HU.o v ho;have h8:=kh (cs:=b) v;rw[ax ho]at h8
     have h9:stS b u.ins (s.k+1)<=u.steps:=by
      rw[<-f.o.steps];exact xO w.o (by omega)
     have au:=M5 (cs:=b) v al ho;rw[f.o.high]at au;have:=N.o x.a.toNat (B++s.S) (c+s.n+1) T v1 (by omega) V (by rw[aN];push_cast;omega) (by omega) (by omega);rw[v2]at this;exact this)
    have HN:T4 (∀T,VSt I gm lv day (B++(dC (eB day) day (evV (eB day) day b d) x s).S) (c+s.n+1+(((dC (eB day) day (evV (eB day) day b d) x s).n:Int)-(s.n+1))) T->Rk (eB day) day (evV (eB day) day b d) b u.ins (runV (eB day) day (evV (eB day) day b d) u.ins ⟨0,[],0⟩) I gm lv B c (ag ((dC (eB day) day (evV (eB day) day b d) x s).k:Int)) T):=fun T V=>⟨_,rfl,m.1,ap.symm.trans C,ik V rfl (by omega)⟩
    have hgt:=m.2;have a8:c+s.n+1<=2000000:=(by omega);have a9:0<=c+s.n:=(by omega);obtain⟨k',ai⟩: ∃q,(dC (eB day) day (evV (eB day) day b d) x s).k=q:=⟨_,rfl⟩
    rw[ai]at cS HN hgt;generalize (dC (eB day) day (evV (eB day) day b d) x s).S=S' at*;generalize (dC (eB day) day (evV (eB day) day b d) x s).n=n' at*;clear ai m ap hI C v X a1 l ac N Q J f R L w HU K O P G;generalize aI:wr.setCell ⟨gm,3,none⟩ (ag (c+s.n+1))=wS at*;go_wp2_with fail;refine cS.mono ?_;rintro e w2 ⟨rfl,h2⟩;have ar:=aZ (HN.o _ h2);clear cS h2 HN;go_wp2_with fail;go_roundw;case rel=>exact ar.o
    case measure=>simp[intOf];omega
   ·have am: ¬(s.k:Int)<(u.ins.length:Int):=(by omega);have D:=xP (wk:=eB day) (day:=day) (ev:=evV (eB day) day b d) (show s.k=u.ins.length by omega);have hs:s=runV (eB day) day (evV (eB day) day b d) u.ins ⟨0,[],0⟩:=D.symm.trans C
    have HN:T4 (VSt I gm lv day (B++[(evV (eB day) day b (d+1) r).1]) (c+(evV (eB day) day b (d+1) r).2) wr):=by
     show VSt _ _ _ _ _ _ _;rw[<-O.o,<-P.o,<-hs];exact z
    clear z hs D C hI N Q J f R L w HU K O P;go_wp2_with fail;exact⟨rfl,_,eN rfl _ _ _,rfl,HN.o⟩
def je (b:List Cd)(a day:Int):Int×Nat:=if(jV b).1≠0 then jV b else if¬(0<=a/\a<b.length) then(6,0) else if¬(0<=day/\day<146097) then(3,0) else(0,0)
def qv (b:List Cd)(a day:Int):M:=if(je b a day).1=0 then(evV (eB day) day b (b.length+1) a.toNat).1 else fun _=>false
def uY (b:List Cd)(a day:Int):Nat:=if(je b a day).1=0 then(evV (eB day) day b (b.length+1) a.toNat).2 else 0
def CS (f:M)(n er at_:Int)(w:World)(e:Ending)(a:World):Prop:=e= .returned (.tuple #[.agg (mv f),ag n,.agg #[ag er,ag at_]])/\ao w a
theorem xT {R:Ending->World->Prop}{a:Act}{w:World}(g b:Nat)(f:M)(n er at_:Int)(p:a.defers=[])(k:a.tmps.getD 6 undef=ab g 0)(l:a.tmps.getD 7 undef=ag n)(m:a.tmps.getD 8 undef=ab b 0)
  (q:w.heap[g]? =ah (mv f) 39) (i:w.heap[b]? =ah #[ag er,ag at_] 26) (o:R (.returned (.tuple #[.agg (mv f),ag n,.agg #[ag er,ag at_]])) w):bodyPost prog f9 R .ret a w:=by
 refine aX (v:= .tuple #[.agg (mv f),ag n,.agg #[ag er,ag at_]]) ?_ p o;have c:a.tmps[6]?.getD undef=ab g 0:=by simpa using k
 have d:a.tmps[7]?.getD undef=ag n:=by simpa using l
 have e:a.tmps[8]?.getD undef=ab b 0:=by simpa using m
 have r:=dZ (P:=prog) w g 39 39 _ _ _ q cj rfl (bg _);have j:=dZ (P:=prog) w b 26 26 _ _ _ i mL rfl (by kernel_rfl);simp[results,results9,c,d,e,asAddr,r,j]
structure FtJ (w:World)(rr rf:Nat)(er at_:Int)(M:Nat->Bool)(W:World):Prop where
 bel:ao w W
 msk:W.heap[rr]? =ah (mv fun _=>false) 39
 src:W.heap[rf]? =ah #[ag er,ag at_] 26
 flt: ∃a b,W.heap[rr+1]? =ah #[ag a,ag b] 26/\(M 4=true->a=er/\b=at_)
structure RnJ (w w0:World)(gm:Nat)(lv:Value)(day k:Int)(f:Vx.M)(rr:Nat)(M:Nat->Bool)(W:World):Prop where
 bel:ao w W
 mach: ∃sv,W.heap[gm]? =ah #[lv,ag day,sv,ag k] 100
 ahead:M 0=false->VSt w0 gm lv day [f] k W
 m0:M 4=false->W.heap[rr]? =ah (mv fun _=>false) 39
 m1:M 4=true->W.heap[rr]? =ah (mv f) 39
 flt:W.heap[rr+1]? =ah #[ag 0,ag 0] 26
theorem xU (b:List Cd)(lv:Value)(a day:Int)(w:World)(h:InV w lv b):
  Calls prog 9 #[lv,ag a,ag day] w (CS (qv b a day) (uY b a day:Int) (je b a day).1 ((je b a day).2:Int) w):=by
 obtain⟨p,Q,u,aM,aS⟩:=h.form;have hz:=ea;have bA:ao w ((w.alloc (.cells (mv fun _=>false) 39)).alloc (.cells #[ag 0,ag 0] 26)):=(am _ _).alloc (by simp) _;have a1:((w.alloc (.cells (mv fun _=>false) 39)).alloc (.cells #[ag 0,ag 0] 26)).heap[w.heap.size]? =ah (mv fun _=>false) 39:=by(repeat (first|refine dh _ _ _ (by simp only[aP];omega) ?_|exact dA _ _ _ (by first|rfl|simp only[aP])))
 have av:((w.alloc (.cells (mv fun _=>false) 39)).alloc (.cells #[ag 0,ag 0] 26)).heap[w.heap.size+1]? =ah #[ag 0,ag 0] 26:=by(repeat (first|refine dh _ _ _ (by simp only[aP];omega) ?_|exact dA _ _ _ (by first|rfl|simp only[aP])))
 generalize aX:(w.alloc (.cells (mv fun _=>false) 39)).alloc (.cells #[ag 0,ag 0] 26)=wA at*;have P:=Iv b lv wA (h.below bA);have aV:(0:Int)<=(b.length:Int):=by omega
 by_cases g:(jV b).1=0
 ·have hR:=Fj g
  have O:jV b=(0,0):=by
   unfold jV at g⊢;by_cases R:40<b.length
   ·rw[ax R]at g;simp at g
   ·rw[aw R]at g⊢;by_cases G:(gW (fun i=>aloneE (b.getD i cd0) b.length) b.length 0).1≠0
    ·rw[ax G]at g;exact absurd g G
    ·rw[aw G]at g⊢;exact(qe _ _ g).1
  rw[O]at P;have c2:=fun W=>rG a (b.length:Int) W;have c3:=fun W=>rG day 146097 W;have z:je b a day=if¬(0<=a/\a<b.length) then(6,0) else if¬(0<=day/\day<146097) then(3,0) else(0,0):=aw (fun e=>e g);have Y:=aZ h;have ac:=aZ hR;have HE:=aZ z;obtain⟨f0,ae⟩:=aq (qv b a day);obtain⟨k0,ap⟩:=aq (uY b a day:Int);obtain⟨X,hX⟩:=aq (je b a day);rw[ae,ap,hX];have V:=aZ ae;have Z:=aZ ap;have HX:=aZ hX;subst u;go_enter func9,ntmps9;go_wp2_with fail;refine P.mono ?_;rintro e C ⟨rfl,j⟩;dsimp only;have b1:=au bA j;have B:=ai j a1;have A:=ai j av;have a3:=am C (.cells #[ag 0,ag 0] 26);have a0:=aB C (.cells #[ag 0,ag 0] 26);generalize aW:C.alloc (.cells #[ag 0,ag 0] 26)=aL at*;have D:=below_setRow a3 (aA _) #[ag 0,ag 0];have nG:=aK _ _ _ #[ag 0,ag 0] _ _ a0;have r:=ai D B;have v:=ai D A;have b2:=au b1 D;generalize O:aL.setRow C.heap.size #[ag 0,ag 0]=w2 at*;have zG:=ak 0 nG;have d2:=c2 w2;have d3:=c3 w2;go_wp2_with(refine aC rfl 26 _ _ rfl _ _ rfl rfl _ _ a0 (by kernel_rfl) (by simp) (by simp[Value.oneCell']) ?_)
  refine d2.mono ?_;rintro e s ⟨rfl,rfl⟩;by_cases N:0<=a/\a<b.length
  case' neg=>
   have J:X=(6,0):=HX.o.symm.trans (HE.o.trans (ax N));rw[bo N];clear d3 N
  case' pos=>
   rw[bc N];go_wp2_with fail;refine d3.mono ?_;rintro e s ⟨rfl,rfl⟩;by_cases S:0<=day/\day<146097
   case' neg=>
    have J:X=(3,0):=HX.o.symm.trans (HE.o.trans ((aw fun e=>e N).trans (ax S)));rw[bo S];clear N S
   case pos=>
    have z:je b a day=(0,0):=HE.o.trans ((aw fun e=>e N).trans (aw fun e=>e S));have x:qv b a day=(evV (eB day) day b (b.length+1) a.toNat).1:=ax (by rw[z]);have E:uY b a day=(evV (eB day) day b (b.length+1) a.toNat).2:=ax (by rw[z]);rw[bc S];obtain⟨lv,u⟩:=aq (Value.slice p b.length Q);rw[u]at Y;obtain⟨y,rfl⟩: ∃y:Nat,a=(y:Int):=⟨a.toNat,by omega⟩
    have ar:y<b.length:=(by omega);rw[di]at x E;obtain⟨a7,a9⟩:=S;obtain⟨fM,aj⟩:=aq (evV (eB day) day b (b.length+1) y)
    have aa:T4 (∀(w0:World) (gm:Nat) (W:World),ao w w0->VSt w0 gm lv day [] 0 W->Calls prog 30 #[ab gm 0,ag (y:Int)] W fun e W'=>e= .returned (.tuple #[])/\VSt w0 gm lv day [fM.1] (fM.2:Int) W'):=fun w0 gm W n H=>by
     have hu:b[y]? =some b[y]:=az ar;have ha:=(jB (ac.o.alone y _ hu)).2.1;have:=Gs b lv w0 gm day ac.o (Y.o.below n) a7 a9 (b.length+1) y [] 0 W ar (by have:=SK (gK b) b.length y;omega) H (by rw[jh hu];simp;omega) (by omega) (by rw[jh hu];omega);rw[aj]at this;refine this.mono ?_;rintro e W' ⟨rfl,h'⟩;exact⟨rfl,ik h' (by simp) (by simp)⟩
    rw[aj]at x E;obtain⟨f,k⟩:=fM;rw[V.o]at x;have a4:k0=(k:Int):=(by rw[<-Z.o,E]);have e3:X=(0,0):=HX.o.symm.trans z;replace x:=x.symm;subst x a4 e3;dsimp only at aa⊢;subst u;have bX:=am s (.cells #[af,ag 0,af,ag 0] 100);have nX:=aB s (.cells #[af,ag 0,af,ag 0] 100);generalize aY:s.alloc (.cells #[af,ag 0,af,ag 0] 100)=wX at*;have bY:=below_setRow bX (aA _) #[.slice p b.length Q,ag day,af,ag 0];have nY:=aK _ _ _ #[.slice p b.length Q,ag day,af,ag 0] _ _ nX;generalize ba:wX.setRow s.heap.size #[.slice p b.length Q,ag day,af,ag 0]=wY at*;have a5:VSt s s.heap.size (.slice p b.length Q) day [] 0 wY:=⟨bY,aA _,_,nY,df _ _ _ _⟩
    have cR:=aa.o s s.heap.size wY b2 a5;go_wp2_with(refine aC rfl 100 _ _ rfl _ _ rfl rfl _ _ nX (by kernel_rfl) (by simp) (by simp[Value.oneCell']) ?_)
    refine cR.mono ?_;rintro e w4 ⟨rfl,I⟩;go_wp2_with fail;obtain⟨lv,aE⟩:=aq (Value.slice p b.length Q);rw[aE]at I;have l1:=aH r;have l2:=aH v;have hgt:w.heap.size+1<s.heap.size:=l2;obtain⟨gm,an⟩:=aq s.heap.size;rw[an]at I hgt;simp only[an];refine dH (fun M _=>RnJ w s gm lv day (k:Int) f w.heap.size M) [dk 35 (.agg (mv f)),kn 36 (ab gm 3),kn 37 (ag (k:Int)),kn 38 (.agg #[ag 0,ag 0]),nk,dk 7 (ag (k:Int)),nk] (fun _=> ?_) (fun _ _ _ _ n h=>⟨au h.bel n,h.mach.imp fun _ q=>ai n q,fun e=>(h.ahead e).below n,fun e=>(n.block _ (aH (h.m0 e))).trans (h.m0 e),fun e=>(n.block _ (aH (h.m1 e))).trans (h.m1 e),ai n h.flt⟩) (by kernel_rfl) (fun M φ W2 d L F l hl t=> ?_) (fun M φ W5 H d=> ?_)
    ·obtain⟨T,q2,sv,q3,q4⟩:=I.below (aF _ _).drew;exact⟨au b2 T,⟨sv,q3⟩,fun _=>⟨T,q2,sv,q3,q4⟩,fun _=>(T.block _ l1).trans r,(fun e=>by cases e),(T.block _ l2).trans v⟩
    ·simp only[kn,dk,nk,d6,aR,a8,Act.put,aD,aJ,aI]at hl;subst hl;simp only[dz,Nat.reduceAdd]at t;obtain⟨s0,nM⟩:=d.mach;have zz:=ak 3 nM;dsimp only[kn,dk,nk,dK,fo,eD,Act.put];and_intros;all_goals first|exact trivial|intro hw hn hm K m
     ·go_simp;refine(tU s gm lv day (k:Int) [] f W2 (d.ahead hm) (by simp)).mono ?_;rintro e' W' ⟨rfl,H,al⟩;have n4:=hn 4 _ rfl (by kernel_rfl);obtain⟨T,q2,sv,q3,q4⟩:=H;exact m _ _ ⟨rfl,au b2 T,⟨sv,q3⟩,(fun e=>by simp at e),fun _=>(al _ (aH (d.m0 n4)) (by omega)).trans (d.m0 n4),(fun e=>by simp[n4]at e),(al _ (aH d.flt) (by omega)).trans d.flt⟩
     ·go_simp;exact m _ _ ⟨rfl,aF _ _⟩
     ·go_simp;exact m _ _ ⟨rfl,aF _ _⟩
     ·go_simp;exact m _ _ ⟨rfl,aF _ _⟩
     ·have q0:=hw ⟨0,.data⟩ (by simp) rfl rfl;refine eo 39 _ _ rfl _ (mv f) (by simp[Act.eval,t]) (by simp[Act.eval,t]) _ _ (d.m0 hm) (bg _) (by simp[bU]) (dI _) ?_;exact m undef _ ⟨trivial,below_setRow d.bel (aA _) _,⟨_,(aQ _ _ _ _ (by omega)).trans nM⟩,(fun e=>by simp[q0]at e),(fun e=>by simp at e),fun _=>aK _ _ _ _ _ _ (d.m0 hm),(aQ _ _ _ _ (by omega)).trans d.flt⟩
     ·go_simp;exact m _ _ ⟨rfl,d.bel,d.mach,fun e=>d.ahead (by simpa using e),fun e=>d.m0 (by simpa using e),fun e=>d.m1 (by simpa using e),d.flt⟩
     ·have q5:=hw ⟨5,.chain⟩ (by simp) rfl rfl;have q0:=L 5 _ rfl q5 ⟨0,.phase⟩ (by simp) rfl rfl;have q4:=L 5 _ rfl q5 ⟨4,.chain⟩ (by simp) rfl rfl;refine eo 26 _ _ rfl _ #[ag 0,ag 0] (by simp[Act.eval,t]) (by simp[Act.eval,t]) _ _ d.flt (by kernel_rfl) (by simp) (by simp[Value.oneCell']) ?_;exact m undef _ ⟨trivial,below_setRow d.bel (Nat.le_succ _) _,⟨_,(aQ _ _ _ _ (by omega)).trans nM⟩,(fun e=>by simp[q0]at e),(fun e=>by simp[q4]at e),fun _=>(aQ _ _ _ _ (by omega)).trans (d.m1 q4),aK _ _ _ _ _ _ d.flt⟩
    ·have R:=d.m1 (H 4 (by decide) rfl);have G:=d.flt;have U:=aZ d.bel;simp only[kn,dk,nk,ep,aR,a8,Act.put,aD,aJ,aI];go_wp2_with fail;exact xT w.heap.size (w.heap.size+1) f (k:Int) 0 0 rfl rfl rfl rfl R G ⟨rfl,U.o⟩
  all_goals
   have ad:(je b a day).1≠0:=by rw[HX.o,J];decide
   have x:f0=fun _=>false:=V.o.symm.trans (aw ad)
   have E:k0=0:=by rw[<-Z.o,show uY b a day=0 from aw ad];rfl
   subst x E J
   have aG:=aK _ _ _ (mv fun _=>false) _ _ r
   have ay:=(aQ _ w.heap.size (w.heap.size+1) (mv fun _=>false) (by omega)).trans v
   have b3:=below_setRow b2 (aA _) (mv fun _=>false)
   have U:=aZ fun c=>below_setRow b3 (by omega:w.heap.size<=w.heap.size+1) c
   have HM:=aZ fun c=>(aQ _ (w.heap.size+1) w.heap.size c (by omega)).trans aG
   have HS:=aZ fun c=>aK _ _ _ c _ _ ay
   go_wp2_with(first
    |(refine aC rfl 39 _ _ rfl _ _ rfl rfl _ _ r (bg _) (by simp[bU]) (dI _) ?_)
    |(refine aC rfl 26 _ _ rfl _ _ rfl rfl _ _ ay (by kernel_rfl) (by simp) (by simp[Value.oneCell']) ?_))
   exact xT w.heap.size (w.heap.size+1) (fun _=>false) 0 _ 0 rfl rfl rfl rfl (HM.o _) (HS.o _) ⟨rfl,U.o _⟩
 ·have z:je b a day=jV b:=ax g;have x:qv b a day=fun _=>false:=aw (by rw[z];exact g);have E:uY b a day=0:=aw (by rw[z];exact g);rw[z,x,E];obtain⟨X,hX⟩:=aq (jV b);rw[hX]at g P⊢;obtain⟨er,a2⟩:=X;dsimp only at g P⊢;obtain⟨at_,a6⟩: ∃q:Int,(a2:Int)=q:=⟨_,rfl⟩
  rw[a6]at P⊢;have aN:(er==0)=false:=bl.2 g;have aO:(er !=0)=true:=(by simpa using g);subst u;go_enter func9,ntmps9;go_wp2_with fail;refine P.mono ?_;rintro e C ⟨rfl,j⟩;have b1:=au bA j;have B:=ai j a1;have A:=ai j av;have D:=am C (.cells #[ag er,ag at_] 26);have nG:=aB C (.cells #[ag er,ag at_] 26);have r:=ai D B;have v:=ai D A;have b2:=au b1 D;have aT:=aH B;have aU:=aH A;generalize O:C.alloc (.cells #[ag er,ag at_] 26)=w2 at*;have zG:=ak 0 nG;go_wp2_with fail;refine dH (fun M _=>FtJ w w.heap.size C.heap.size er at_ M) [kn 16 (.agg (mv fun _=>false)),kn 17 (.agg #[ag er,ag at_]),nk,kn 7 (ag 0),nk] (fun _=>⟨b2.trans ((aF w2.heap.size w2).drew.mono b2.size),r,nG,_,_,v,(fun e=>by cases e)⟩) (fun _ _ _ _ n h=>⟨au h.bel n,ai n h.msk,ai n h.src,h.flt.imp fun _ q=>q.imp fun _ q=>⟨ai n q.1,q.2⟩⟩) (by kernel_rfl) (fun M φ W2 d L F l hl t=> ?_) (fun M φ W5 H d=> ?_)
  ·simp only[kn,nk,d6,aR,a8,Act.put,aD,aJ,aI]at hl;subst hl;simp only[dz,Nat.reduceAdd]at t;obtain⟨xa,xb,nf,hf⟩:=d.flt;dsimp only[kn,nk,dK,fo,eD,Act.put];and_intros;all_goals first|exact trivial|intro hw hn hm K m
   ·go_simp;exact m _ _ ⟨rfl,aF _ _⟩
   ·refine fh 26 _ rfl _ (by simp[Act.eval,t]) _ _ _ _ d.src mL rfl (by kernel_rfl) ?_;exact m _ _ ⟨rfl,aF _ _⟩
   ·refine eo 39 _ _ rfl _ (mv fun _=>false) (by simp[Act.eval,t]) (by simp[Act.eval,t]) _ _ d.msk (bg _) (by simp[bU]) (dI _) ?_;exact m undef _ ⟨trivial,below_setRow d.bel (aA _) _,aK _ _ _ _ _ _ d.msk,(aQ _ _ _ _ (by omega)).trans d.src,_,_,(aQ _ _ _ _ (by omega)).trans nf,fun e=>hf (by simpa using e)⟩
   ·go_simp;exact m _ _ ⟨rfl,aF _ _⟩
   ·refine eo 26 _ _ rfl _ #[ag er,ag at_] (by simp[Act.eval,t]) (by simp[Act.eval,t]) _ _ nf (by kernel_rfl) (by simp) (by simp[Value.oneCell']) ?_;exact m undef _ ⟨trivial,below_setRow d.bel (Nat.le_succ _) _,(aQ _ _ _ _ (by omega)).trans d.msk,(aQ _ _ _ _ (by omega)).trans d.src,_,_,aK _ _ _ _ _ _ nf,fun _=>⟨rfl,rfl⟩⟩
  ·have R:=d.msk;obtain⟨xa,xb,G,hf⟩:=d.flt;obtain⟨rfl,rfl⟩:=hf (H 4 (by decide) rfl);have U:=aZ d.bel;simp only[kn,nk,ep,aR,a8,Act.put,aD,aJ,aI];go_wp2_with fail;exact xT w.heap.size (w.heap.size+1) (fun _=>false) 0 _ _ rfl rfl rfl rfl R G ⟨rfl,U.o⟩
end Go.Proofs.YtpdoienkhgnceaaGreatDoor
