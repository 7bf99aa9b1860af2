/- Texts of the proof. -/
import Derived.Test.YtaoljfdfhggbbaaGreatDoorPc09
import Derived.Test.YtaoljfdfhggbbaaGreatDoorPc04
import Derived.Test.YtaoljfdfhggbbaaGreatDoorPc03
set_option maxRecDepth 100000
set_option maxHeartbeats 8000000
namespace Go.Proofs.YtaoljfdfhggbbaaGreatDoor
open Go.Proofs.Tryz Go.RowKit Lx Vx Mx Msk
theorem E7 (a:List Cd)(lv:Value)(q n o d:Nat)(w:World)(h:InV w lv a)(E:w.cell? (ae q 0)=some (.slice (some (ae n 0)) a.length a.length))(u:w.heap[n]? =ah (iH a.length (wars (gh a) a.length)) 82)
  (D:w.cell? (ae o 0)=some lv) (t:a.length<=40) (l: ∀(i:Nat) (c:Cd),a[i]? =some c->aloneE c a.length=0) (k:d<a.length):
  Calls prog 151 #[ag (d:Int),ab q 0,ab o 0] w fun e w'=>e= .returned (ag (pL a d))/\aq w w':=by
 have F:=(aZ _ _ d _ _ _ u).trans (zI k);have cH:=DL (wars (gh a) a.length d) d (by omega) w;have m:=G9 a lv d w h l k;obtain⟨p,z,rfl,r,B⟩:=h.form;have v:(0:Int)<=(d:Int):=by omega
 have x:(d:Int)<(a.length:Int):=by omega
 generalize g:pL a d=X;unfold pL at g;generalize A:wars (gh a) a.length d d=b at*;generalize C:rA a (a.getD d cd0)=f at*;cases b with
 |true=>
  rw[aD rfl]at g;subst g;generalize wars (gh a) a.length d=W at*;go_enter func151,ntmps151;go_wp2_with fail;refine cH.mono ?_;rintro e s ⟨rfl,rfl⟩;go_wp2_with fail;go_ret;exact⟨rfl,aI _ _⟩
 |false=>
  rw[ax (by simp)]at g;generalize wars (gh a) a.length d=W at*;cases f with
  |true=>
   rw[aD rfl]at g;subst g;go_enter func151,ntmps151;go_wp2_with fail;refine cH.mono ?_;rintro e s ⟨rfl,rfl⟩;go_wp2_with fail;refine m.mono ?_;rintro e y ⟨rfl,j⟩;go_wp2_with fail;go_ret;exact⟨rfl,j⟩
  |false=>
   rw[ax (by simp)]at g;subst g;go_enter func151,ntmps151;go_wp2_with fail;refine cH.mono ?_;rintro e s ⟨rfl,rfl⟩;go_wp2_with fail;refine m.mono ?_;rintro e y ⟨rfl,j⟩;go_wp2_with fail;go_ret;exact⟨rfl,j⟩
theorem E8 (a:List Cd)(lv:Value)(w:World)(h:InV w lv a):
  Calls prog 127 #[lv] w fun e w'=>e= .returned (.agg #[ag (jL a).1,ag ((jL a).2:Int)])/\aq w w':=by
 obtain⟨p,J,b,k,hc⟩:=h.form;generalize j:jL a=X;unfold jL at j;have D:aq w ((w.alloc (.cells #[lv] 48)).alloc (.cells #[ag 0,ag 0] 93)):=(am _ _).alloc (by simp) _;have y:((w.alloc (.cells #[lv] 48)).alloc (.cells #[ag 0,ag 0] 93)).heap[w.heap.size]? =ah #[lv] 48:=by(repeat (first|refine dl _ _ _ (by simp only[aU];omega) ?_|exact dC _ _ _ (by first|rfl|simp only[aU])))
 have f:((w.alloc (.cells #[lv] 48)).alloc (.cells #[ag 0,ag 0] 93)).heap[w.heap.size+1]? =ah #[ag 0,ag 0] 93:=by(repeat (first|refine dl _ _ _ (by simp only[aU];omega) ?_|exact dC _ _ _ (by first|rfl|simp only[aU])))
 generalize ao:(w.alloc (.cells #[lv] 48)).alloc (.cells #[ag 0,ag 0] 93)=wA at*;have z0:=ak 0 y;have af:(0:Int)<=(a.length:Int):=by omega
 have ad: ∀(fn:Fn) (first cap:Array Value) (w:World),(Instr.makeFunc fn first cap).run prog w= .ok (.func fn first cap) w:=fun _ _ _ _=>rfl;by_cases hm:40<a.length
 ·have Q:(40:Int)<(a.length:Int):=by omega
  rw[aD hm]at j;subst j b;go_enter func127,ntmps127;go_wp2_with(refine ay rfl 93 _ _ rfl _ _ rfl rfl _ _ f (by kernel_rfl) (by simp) (by simp[Value.oneCell']) ?_)
  exact qy 2 (by kernel_rfl) (w.heap.size+1) 5 0 rfl rfl (aL _ _ _ _ _ _ f) ⟨rfl,below_setRow D (by omega) _⟩
 ·have Q: ¬(40:Int)<(a.length:Int):=by omega
  rw[ax hm]at j
  have c1:=rP (fun i=>aloneE (a.getD i cd0) a.length) a.length 148 #[ab w.heap.size 0] p J wA k (fun _ _=>by simp[go_sem]) fun i wr hi m=>by
   exact E0 a lv w.heap.size i wr ((h.below D).below m) (aj m z0) hi
  rw[<-b]at c1;by_cases n:(gL (fun i=>aloneE (a.getD i cd0) a.length) a.length 0).1=0
  ·rw[ax (fun e=>e n)]at j;obtain⟨L,M⟩:=o6 _ _ n;rw[L]at c1
   have R: ∀(i:Nat) (c:Cd),a[i]? =some c->aloneE c a.length=0:=fun i c hi=>by
    have:=M i (by omega) (by have:=(aG.1 hi).1;omega);rw[jd hi]at this;exact this
   have v:=a8 R;have u:=a8 h;have HX:=a8 j;have W:=a8 b;have ap: ∃p c,lv= .slice p a.length c:=⟨p,J,b⟩
   subst b;go_enter func127,ntmps127;go_wp2_with fail;refine c1.mono ?_;rintro e l ⟨rfl,d⟩;dsimp only;have b1:=aw D d;have N:=ai d y;have q:=ai d f;have I:=am l (.cells #[ag 0,ag 0] 93);have B:=aE l (.cells #[ag 0,ag 0] 93);generalize al:l.alloc (.cells #[ag 0,ag 0] 93)=V at*;have r:=below_setRow I (aB _) #[ag 0,ag 0];have G:=aL _ _ _ #[ag 0,ag 0] _ _ B;have z:=ai r N;have g:=ai r q;have b2:=aw b1 r;generalize U:V.setRow l.heap.size #[ag 0,ag 0]=s at*;have z2:=ak 0 z;have zF:=ak 0 G;have c2:=BI a _ s (u.o.below b2) (by omega) v.o;go_wp2_with(refine ay rfl 93 _ _ rfl _ _ rfl rfl _ _ B (by kernel_rfl) (by simp) (by simp[Value.oneCell']) ?_)
   refine c2.mono ?_;rintro e C ⟨rfl,F⟩;have O:=ai F.bel z;have S:=ai F.bel g;have b3:=aw b2 F.bel;have E:=am C (.cells #[.slice (some (ae s.heap.size 0)) a.length a.length] 232);have nR:=aE C (.cells #[.slice (some (ae s.heap.size 0)) a.length a.length] 232);have P:=ai E O;have T:=ai E S;have K:=ai E F.row;have Y:=aw b3 E;generalize an:C.alloc (.cells #[.slice (some (ae s.heap.size 0)) a.length a.length] 232)=w4 at*;have z4:=ak 0 P;have zR:=ak 0 nR
   have Z:=rP (pL a) a.length 151 #[ab C.heap.size 0,ab w.heap.size 0] p J w4 k (fun _ _=>by simp[go_sem]) fun i wr hi m=>by
    exact E7 a _ C.heap.size s.heap.size w.heap.size i wr ((u.o.below Y).below m) (aj m zR) (ai m K) (aj m z4) (by omega) v.o hi
   rw[HX.o]at Z;go_wp2_with fail;refine Z.mono ?_;rintro e w5 ⟨rfl,x⟩;have A:=ai x T;have b5:=aw Y x;go_wp2_with(refine ay rfl 93 _ _ rfl _ _ rfl rfl _ _ A (by kernel_rfl) (by simp) (by simp[Value.oneCell']) ?_)
   exact qy 2 (by kernel_rfl) (w.heap.size+1) X.1 (X.2:Int) rfl rfl (aL _ _ _ _ _ _ A) ⟨rfl,below_setRow b5 (by omega) _⟩
  ·rw[aD n]at j;rw[j]at n c1;obtain⟨t,H⟩:=X;dsimp only at n c1⊢;have aa:(t==0)=false:=bj.2 n;have ac:(t !=0)=true:=(by simpa using n);subst b;go_enter func127,ntmps127;go_wp2_with fail;refine c1.mono ?_;rintro e l ⟨rfl,d⟩;have b1:=aw D d;have q:=ai d f;have r:=am l (.cells #[ag t,ag (H:Int)] 93);have G:=aE l (.cells #[ag t,ag (H:Int)] 93);have g:=ai r q;have b2:=aw b1 r;generalize U:l.alloc (.cells #[ag t,ag (H:Int)] 93)=s at*;have zF:=ak 0 G
   go_wp2_with(first
    |(refine aR rfl 93 _ rfl _ rfl _ _ _ _ G me rfl (by kernel_rfl) ?_)
    |(refine ay rfl 93 _ _ rfl _ _ rfl rfl _ _ g (by kernel_rfl) (by simp) (by simp[Value.oneCell']) ?_))
   exact qy 2 (by kernel_rfl) (w.heap.size+1) t (H:Int) rfl rfl (aL _ _ _ _ _ _ g) ⟨rfl,below_setRow b2 (by omega) _⟩
def eqm (f g:Nat->Bool):Bool:=(List.range 23).all fun k=>wd f k==wd g k
theorem JK {f g:Nat->Bool}(h: ∀i,i<1472->f i=g i):eqm f g=true:=by
 unfold eqm;rw[dr];intro k a;have b:k<23:=by simpa using a
 rw[mR (f:=f) (g:=g) fun j c=>h _ (by omega)];simp
theorem BK {f g:Nat->Bool}(h:eqm f g=true)(i:Nat)(hi:i<1472):f i=g i:=by
 unfold eqm at h;rw[dr]at h;have b:=h (i/64) (by simp;omega);have a:=MW (by simpa using b) (i%64) (by omega);have e:64*(i/64)+i%64=i:=by omega
 rw[e]at a;exact a
theorem LX: ∃i,prog.info? 82=some i/\prog.cellsOf 82=1:=⟨_,rfl,by kernel_rfl⟩
theorem DM:prog.underlying 82=some (.int .u64):=by kernel_rfl
theorem DN (f:Nat->Bool)(k:Nat)(a:k<23)(w:World):(Go.part 82 (mv f) (k*1)).run prog w= .ok (.int .u64 (wd f k:Int)) w:=by
 simp[Go.part,isAgg,fR DM,qd f k a]
theorem xA (f g:Nat->Bool)(w:World)(d:Nat): ∀l:List Nat,(∀k∈l,k<23)->(Op.eqItems (d+1) 82 1 (mv f) (mv g) l).run prog w= .ok (l.all fun k=>wd f k==wd g k) w
 |[],_=>by simp[Op.eqItems]
 |k::l,h=>by
  have c:=xA f g w d l fun j b=>h j (by simp[b]);have a:=h k (by simp);simp only[Op.eqItems,ju,DN f k a,DN g k a,gG,run_equalIn_int w d 82 .u64 .u64 _ _ DM,List.all_cons]
  have e:(((wd f k:Nat):Int)==((wd g k:Nat):Int))=(wd f k==wd g k):=by
   rw[Bool.eq_iff_iff];simp only[beq_iff_eq];omega
  rw[e];cases(wd f k==wd g k)
  ·simp
  ·simpa using c
theorem LY (f g:Nat->Bool)(w:World):(Op.equalIn 10000 84 (.agg (mv f)) (.agg (mv g))).run prog w= .ok (eqm f g) w:=by
 obtain⟨i,hi,a⟩:=LX;rw[run_equalIn_array w 9999 (mv f) (mv g) bV hi,a];exact xA f g w 9998 _ fun k b=>by simpa using b
theorem Nt (f:Nat->Bool)(W:World):(Instr.buildSlice 76 1 #[(0,.agg (mv f))]).run prog W= .ok (.slice (some (ae W.heap.size 0)) 1 1) (W.alloc (.cells (mv f) 84)):=by
 kernel_rfl
theorem Ha {o:Oper}{a:Act}{w:World}{K:Act->World->Prop}{Q:Exit->Act->World->Prop}(x:Operand)(c:o.op= .buildSlice 76 1 #[(0,x)])(f:Nat->Bool)(d:a.eval x= .agg (mv f))
  (h:K (a.put o.dst (.slice (some (ae w.heap.size 0)) 1 1)) (w.alloc (.cells (mv f) 84))):o.wp prog a w K Q:=by
 unfold Oper.wp execOp;have b:=Nt f w;simp only[c,d,iC,dI,fg,ju,jV,gG,b];exact h
def kH (S:List M):List Value:=S.flatMap fun f=>(mv f).toList
theorem zJ: ∀S:List M,(kH S).length=S.length*23
 |[]=>rfl
 |f::S=>by
  have:=zJ S;unfold kH at this⊢;rw[List.flatMap_cons,aP,this];have h:(mv f).toList.length=23:=(by rw[bQ];exact bO f);rw[h,bJ];omega
theorem sA (S:List M)(f:M):kH (S++[f])=kH S++(mv f).toList:=by
 unfold kH;rw[fw];simp
theorem rS (f:M):(mv f).toList.length=23:=by rw[bQ];exact bO f
theorem io {w w':World}{a:Nat}{e:TypeId}{size n:Nat}{v:Value}{xs:List Value}(h:w.ownsRow a e size v n xs)(b:aq w w'):w'.ownsRow a e size v n xs:=by
 refine h.kept (row:=none) ⟨b.os,b.tape,b.output,b.size,fun k c _=>b.block k c⟩ ?_;cases hv:v.ownBlock with
 |none=>exact .inl rfl
 |some g=>exact .inr (by simp)
structure VSt (w0:World)(gm:Nat)(lv:Value)(day:Int)(S:List M)(k:Int)(W:World):Prop where
 bel:aq w0 W
 gt:w0.heap.size<=gm
 row: ∃sv,W.heap[gm]? =ah #[lv,ag day,sv,ag k] 210/\W.ownsRow w0.heap.size 84 23 sv S.length (kH S)
theorem VSt.below {c W b:World}{gm:Nat}{lv:Value}{day k:Int}{S:List M}(h:VSt c gm lv day S k W)(a:aq W b):VSt c gm lv day S k b:=by
 obtain⟨d,e,sv,f,g⟩:=h;exact⟨aw d a,e,sv,ai a f,io g a⟩
theorem Hb:(prog.info? 84).map (fun i=>(i.zero,i.size,i.bytes))=some (some (.agg #[.int .u64 0, .int .u64 0, .int .u64 0, .int .u64 0, .int .u64 0, .int .u64 0, .int .u64 0, .int .u64 0, .int .u64 0, .int .u64 0, .int .u64 0, .int .u64 0, .int .u64 0, .int .u64 0, .int .u64 0, .int .u64 0, .int .u64 0, .int .u64 0, .int .u64 0, .int .u64 0, .int .u64 0, .int .u64 0, .int .u64 0]),23,184):=by kernel_rfl
theorem Hd:prog.underlying 76=some (.slice 84):=by kernel_rfl
structure Nu (base:Nat)(sv:Value)(n:Nat)(xs:List Value)(f:M)(W1:World)(R:World->Prop)(D:Nat->Bool)(φ:Nat->Value)(W:World):Prop where
 grown:D 10=false->W1.grownBy W sv.ownBlock
 own:D 7=false->W.ownsRow base 84 23 sv n xs
 one:D 6=true->D 7=false-> ∃g,φ 10= .slice (some (ae g 0)) 1 1/\W.heap[g]? =ah (mv f) 84
 app:D 7=true->D 10=false->W.ownsRow base 84 23 (φ 11) (n+1) (xs++(mv f).toList)
 fin:D 10=true->R W
theorem oT {c W b:World}{row:Option Nat}(h:c.grownBy W row)(a:aq W b):c.grownBy b row:=
 ⟨a.os.trans h.os,a.tape.trans h.tape,a.output.trans h.output,bf h.size a.size,fun k d e=>(a.block k (aT d h.size)).trans (h.block k d e)⟩
theorem vo {c W b:World}{row:Option Nat}(h:c.grownBy W row)(a:W.grownBy b row):c.grownBy b row:=
 ⟨a.os.trans h.os,a.tape.trans h.tape,a.output.trans h.output,bf h.size a.size,fun k d e=>(a.block k (aT d h.size) e).trans (h.block k d e)⟩
theorem uM (g o n:Nat):(⟨g,o,none⟩:Addr).add n=⟨g,o+n,none⟩:=by
 by_cases h:n=0
 ·subst h;simp[Addr.add]
 ·simp[Addr.add,h]
theorem uN (y:World)(gm:Nat)(lv:Value)(day k:Int)(S:List M)(f:M)(W:World)(h:VSt y gm lv day S k W)(hS:S.length<=1000):
  Calls prog 183 #[ab gm 0,.agg (mv f)] W fun e v=>e= .returned (.tuple #[])/\VSt y gm lv day (S++[f]) k v/\ ∀(q:Nat) (c:Array Value) (T:TypeId),W.heap[q]? =ah c T->T≠84->q≠gm->v.heap[q]? =ah c T:=by
 obtain⟨z,hgt,sv,Z,d⟩:=h;obtain⟨i0,hi,V,an,ao⟩:=jp Hb;have HZ:=a8 V;have N:=am W (.cells (mv f) 84);have X:=aE W (.cells (mv f) 84);have Y:=ai N Z;have i:=io d N;have B:=ko i Y (by decide)
 have A:some W.heap.size≠sv.ownBlock:=fun e=>by
  have:=(d.lt _ e.symm).2;omega
 have b:=aw z N;have ad:=b.size;obtain⟨p0,c0,af⟩:=df d;subst af;have aa:PN (∀(q:Nat) (c:Array Value) (T:TypeId),W.heap[q]? =ah c T->(W.alloc (.cells (mv f) 84)).heap[q]? =ah c T):=fun q c T x=>ai N x;obtain⟨gb,Q⟩:=au W.heap.size;generalize al:W.alloc (.cells (mv f) 84)=wB at*;rw[Q]at A;have nB:wB.heap[gb]? =ah (mv f) 84:=by rw[<-Q];exact X
 clear V X Z d N z;go_enter func183,ntmps183;go_wp2_with fail;clear al;refine dh (Nu y.heap.size (.slice p0 S.length c0) S.length (kH S) f wB fun v=>VSt y gm lv day (S++[f]) k v/\ ∀(q:Nat) (c:Array Value) (T:TypeId),W.heap[q]? =ah c T->T≠84->q≠gm->v.heap[q]? =ah c T) [kn 4 (ab gm 0),kn 5 (ab gm 0),kn 6 (ab gm 0),kn 7 (ab gm 2),kn 8 (.slice p0 S.length c0),kn 9 (.agg (mv f)),td 10,td 11,kn 12 (ab gm 0),kn 13 (ab gm 2),nk] (fun _=>⟨fun _=>⟨rfl,rfl,rfl,aB _,fun _ _ _=>rfl⟩,fun _=>i,(fun h=>by cases h),(fun h=>by cases h),(fun h=>by cases h)⟩) (fun _ _ _ _ w h=>⟨fun e=>oT (h.grown e) w,fun e=>io (h.own e) w,fun e e'=>(h.one e e').imp fun _ q=>⟨q.1,ai w q.2⟩,fun e e'=>io (h.app e e') w,fun e=>⟨(h.fin e).1.below w,fun q c T O h2 h3=>by have:=(h.fin e).2 q c T O h2 h3;exact ai w this⟩⟩) (by kernel_rfl) (fun D φ s m P F l hl E=> ?_) (fun D φ s hM m=> ?_)
 ·simp only[kn,td,nk,dW,aQ,aX,Act.put,aA,aK,aJ]at hl;subst hl;simp only[cZ,Nat.reduceAdd]at E
  have j:D 7=false->D 10=false:=fun h7=>by
   cases h:D 10 with
   |false=>rfl
   |true=>rw[P 10 _ rfl h ⟨7,.data⟩ (by simp) rfl rfl]at h7;cases h7
  dsimp only[kn,td,nk,dB,eN,eg,Act.put];and_intros;all_goals first|exact trivial|intro hw hn J K I
  all_goals try (go_simp;with_reducible exact I _ _ ⟨rfl,aI _ _⟩)
  ·have n:=((m.grown (j (hn 7 _ rfl (by kernel_rfl)))).block _ (aH Y) B).trans Y;have z2:=ak 2 n;go_simp;exact I _ _ ⟨rfl,aI _ _⟩
  ·have r:D 7=false:=by
    cases h:D 7 with
    |false=>rfl
    |true=>
     have:=hn 6 _ rfl (by kernel_rfl);rw[P 7 _ rfl h ⟨6,.data⟩ (by simp) rfl rfl]at this;cases this
   have ap:=((m.grown (j r)).block _ (aH nB) A).trans nB;refine dU 84 _ rfl _ (by simp[Act.eval,E]) _ _ _ _ ap bV rfl (bh _) ?_;exact I _ _ ⟨rfl,aI _ _⟩
  ·have w:=am s (.cells (mv f) 84);have r:=hn 7 _ rfl (by kernel_rfl);refine Ha _ rfl f (by simp[Act.eval,E]) ?_;exact I _ _ ⟨trivial,fun _=>oT (m.grown (j r)) w,fun _=>io (m.own r) w,fun _ _=>⟨_,dF ..,aE s _⟩,(fun h=>by simp[r]at h),(fun h=>by simp[j r]at h)⟩
  ·obtain⟨g,ac,hh⟩:=m.one (hw ⟨6,.data⟩ (by simp) rfl rfl) J;have t:=m.grown (j J);rw[ac]at E;refine wp_append_own s _ _ 76 rfl y.heap.size 84 i0 _ 23 184 Hd hi HZ.o an ao rfl (by decide) (.slice p0 S.length c0) S.length (kH S) (by simp[Act.eval,E]) (m.own J) ⟨g,0,none⟩ 1 1 (mv f).toList (by simp[Act.eval,E]) (rS f) ?c1 ?c2 ?c3 ?c4 ?c5 ?_
   case c1=>
    intro q u x;rw[uM];exact(aZ _ _ _ _ _ _ hh).trans (by rw[bN,<-bp];exact x)
   case c2=>
    intro u hu;have:=dQ f;rw[Array.all_eq_true_iff_forall_mem]at this;exact this u (Array.mem_def.2 hu)
   case c3=>unfold maxLen;omega
   case c4=>omega
   case c5=>exact bf ad t.size
   intro v' v U G _;exact I _ _ ⟨trivial,fun _=>vo t G,(fun e=>by simp at e),(fun _ e=>by simp at e),fun _ _=>by rw[dF];exact U,(fun e=>by simp[j J]at e)⟩
  ·have a:=m.app (hw ⟨7,.data⟩ (by simp) rfl rfl) J;have t:=m.grown J;have q7:=hw ⟨7,.data⟩ (by simp) rfl rfl;obtain⟨L,H,aj⟩:=df a;rw[aj]at E a;have n:=(t.block _ (aH Y) B).trans Y;have z2:=ak 2 n;have y2:=bl _ _ 2 _ _ n;have R:=ko a n (by decide);have nS:(s.setCell ⟨gm,2,none⟩ (.slice L (S.length+1) H)).heap[gm]? =ah #[lv,ag day,.slice L (S.length+1) H,ag k] 210:=aY s gm 2 _ _ _ n
   have bS:aq y (s.setCell ⟨gm,2,none⟩ (.slice L (S.length+1) H)):=by
    refine Below.setCell (p:=⟨gm,2,none⟩) ⟨t.os.trans b.os,t.tape.trans b.tape,t.output.trans b.output,bf b.size t.size,fun q x=> ?_⟩ hgt _;refine(t.block q (aT x b.size) fun e=> ?_).trans (b.block q x);have:=(i.lt _ e.symm).1;omega
   have C:(s.setCell ⟨gm,2,none⟩ (.slice L (S.length+1) H)).ownsRow y.heap.size 84 23 (.slice L (S.length+1) H) (S++[f]).length (kH (S++[f])):=by
    rw[sA,aP,dP];refine a.kept (row:=some gm) ⟨rfl,rfl,rfl,by simp,fun q x hr=>aO s ⟨gm,2,none⟩ q _ fun e=>hr (congrArg some e)⟩ (.inr fun e=>R e.symm)
   have HJ:PN (∀φ',Nu y.heap.size (.slice p0 S.length c0) S.length (kH S) f wB (fun v=>VSt y gm lv day (S++[f]) k v/\ ∀(q:Nat) (c:Array Value) (T:TypeId),W.heap[q]? =ah c T->T≠84->q≠gm->v.heap[q]? =ah c T) (fun k=>decide (10=k)||D k) φ' (s.setCell ⟨gm,2,none⟩ (.slice L (S.length+1) H))):=fun _=>⟨(fun h=>by simp at h),(fun h=>by simp[q7]at h),(fun _ h=>by simp[q7]at h),(fun _ h=>by simp at h),fun _=>⟨⟨bS,hgt,_,nS,C⟩,fun q c T x hT ae=>by
    have O:=aa.o q c T x;exact(aO s ⟨gm,2,none⟩ q _ ae).trans ((t.block _ (aH O) (ko i O hT)).trans O)⟩⟩
   clear a C nS bS m;go_simp;exact I undef _ ⟨trivial,HJ.o _⟩
 ·have HN:=a8 (m.fin (hM 10 (by decide) rfl));simp only[kn,td,nk,eh,aQ,aX,Act.put,aA,aK,aJ];clear hM m;go_wp2_with fail;exact⟨rfl,_,eO rfl _ _ _,rfl,HN.o⟩
theorem tG {d:Array Oper}{c:List Oper}{op:Oper}{a:Act}{w:World}{Q:Exit->Act->World->Prop}(e:op.guard=none)(x:Operand)(i:op.op= .load 84 x)(b o:Nat)(j:a.eval x=ab b o)(f:Nat->Bool)(g:w.rangeAt b o (mv f).toList)
  (h:wpList prog d Q c (a.put op.dst (.agg (mv f))) w):wpList prog d Q (op::c) a w:=by
 refine wpList_load_mid e 84 x i b o j (mv f).toList _ g bV rfl (by rw[rS];kernel_rfl) ?_;simpa using h
theorem JL {w:World}{a:Nat}{v:Value}{S:List M}{f:M}(h:w.ownsRow a 84 23 v (S++[f]).length (kH (S++[f]))):
  ∃g cap,v= .slice (some (ae g 0)) (S.length+1) cap/\S.length+1<=cap/\cap<=maxLen/\a<=g/\w.ownsRow a 84 23 (.slice (some (ae g 0)) S.length cap) S.length (kH S)/\w.rangeAt g (S.length*23) (mv f).toList:=by
 obtain⟨x,d⟩:=h;rw[aP,dP]at d;rcases d with⟨_,e⟩|⟨g,cap,b,e,l,n,s,m,t,p⟩
 ·omega
 ·have c:=zJ S
  have q:b.toList.take (S.length*23)=kH S:=by
   have i:(b.toList.take ((S.length+1)*23)).take (S.length*23)=(kH (S++[f])).take (S.length*23):=(by rw[p]);rw[List.take_take,fj (by omega),sA,List.take_left' c]at i;exact i
  refine⟨g,cap,e,s,m,l,⟨c,.inr ⟨g,cap,b,rfl,l,n,by omega,m,t,q⟩⟩,fun j u o=> ?_⟩
  have r:j<23:=by
   have:=(aG.1 o).1;rwa[rS]at this
  refine(aZ _ _ _ _ _ _ n).trans ?_;have k:(b.toList.take ((S.length+1)*23))[S.length*23+j]? =(kH (S++[f]))[S.length*23+j]? :=(by rw[p]);rw[dK (by omega),sA,dj (by omega),c,Nat.add_sub_cancel_left,o]at k;simpa using k
theorem sD (w:World)(gm:Nat)(lv:Value)(day k:Int)(S:List M)(f:M)(W:World)(h:VSt w gm lv day (S++[f]) k W)(hS:S.length<=1000):
  Calls prog 130 #[ab gm 0] W fun e V=>e= .returned (.agg (mv f))/\VSt w gm lv day S k V/\ ∀q,q<W.heap.size->q≠gm->V.heap[q]? =W.heap[q]? :=by
 obtain⟨b,hgt,sv,d,a⟩:=h;obtain⟨g,cap,rfl,Y,E,P,l,I⟩:=JL a;have hz:=eI;have Z:cap<=9223372036854775807:=by unfold maxLen at E;omega
 have ad:g<W.heap.size:=(a.lt g rfl).2;have G:gm≠g:=fun e=>ko a d (by decide) (congrArg some e);have z:=am W (.cells (mv fun _=>false) 84);have T:=aE W (.cells (mv fun _=>false) 84);have i:=ai z d;have A:=aw b z;have m:=io l z;have J:(W.alloc (.cells (mv fun _=>false) 84)).rangeAt g (S.length*23) (mv f).toList:=World.rangeAt_alloc I _;have af:=aH d;generalize ao:W.alloc (.cells (mv fun _=>false) 84)=O at*;have X:=am O (.cells (mv fun _=>false) 84);have nB:=aE O (.cells (mv fun _=>false) 84);generalize ap:O.alloc (.cells (mv fun _=>false) 84)=wB at*;have x:=below_setRow X (aB _) (mv f);have nC:=aL _ _ _ (mv f) _ _ nB;have K:=ai x T;have j:=ai x i;have own3:=io m x;have B:=aw A x;generalize ar:wB.setRow O.heap.size (mv f)=u at*;have ac:=aH T;have z2:=ak 2 i;have ax:=ak 2 j;have av:=bl _ _ 2 _ _ j;have nD:(u.setCell ⟨gm,2,none⟩ (.slice (some (ae g 0)) S.length cap)).heap[gm]? =ah #[lv,ag day,.slice (some (ae g 0)) S.length cap,ag k] 210:=aY u gm 2 _ _ _ j;have c: ∀q,q≠gm->(u.setCell ⟨gm,2,none⟩ (.slice (some (ae g 0)) S.length cap)).heap[q]? =u.heap[q]? :=fun q H=>aO u ⟨gm,2,none⟩ q _ H;have U:=(c O.heap.size (by have:=aH i;omega)).trans nC;have L:=(c W.heap.size (by omega)).trans K;have C:aq w (u.setCell ⟨gm,2,none⟩ (.slice (some (ae g 0)) S.length cap)):=B.setCell (p:=⟨gm,2,none⟩) hgt _
 have s:(u.setCell ⟨gm,2,none⟩ (.slice (some (ae g 0)) S.length cap)).ownsRow w.heap.size 84 23 (.slice (some (ae g 0)) S.length cap) S.length (kH S):=
  own3.kept (row:=some gm) ⟨rfl,rfl,rfl,by simp,fun q H R=>c q fun e=>R (congrArg some e)⟩ (.inr fun e=>G (aN e).symm)
 generalize au:u.setCell ⟨gm,2,none⟩ (.slice (some (ae g 0)) S.length cap)=y at*;have nE:=aL _ _ _ (mv f) _ _ L;have N:=(aV y W.heap.size gm (mv f) (by omega)).trans nD;have F:w.heap.size<=W.heap.size:=b.size;have D:=below_setRow C F (mv f)
 have t:(y.setRow W.heap.size (mv f)).ownsRow w.heap.size 84 23 (.slice (some (ae g 0)) S.length cap) S.length (kH S):=
  s.kept (row:=some W.heap.size) ⟨rfl,rfl,rfl,by simp,fun q H R=>aV y W.heap.size q (mv f) fun e=>R (congrArg some e)⟩ (.inr fun e=>by have e2:g=W.heap.size:=aN e;omega)
 have HN:PN (VSt w gm lv day S k (y.setRow W.heap.size (mv f))):=⟨D,hgt,_,N,t⟩
 have HF:PN (∀q,q<W.heap.size->q≠gm->(y.setRow W.heap.size (mv f)).heap[q]? =W.heap[q]?):=fun q H Q=>(aV y W.heap.size q (mv f) (by omega)).trans ((c q Q).trans ((x.block q (by omega)).trans (z.block q H)));have aj:(0:Int)<=(S.length:Int):=by omega
 have an:(S.length:Int)<(cap:Int):=by omega
 have aa:S.length<=cap:=by omega
 have al:(S.length:Int)<=1000:=by omega
 clear a l m own3 s t b A B C D z X x N nD c d i j T K I P E;generalize S.length=n at*;go_enter func130,ntmps130
 go_wp2_with(first
  |(refine tG rfl _ rfl g (n*23) ?r f J ?_;(case r=>rfl))
  |(refine ay rfl 84 _ _ rfl _ _ rfl rfl _ _ nB (bh _) (by simp[bO]) (dQ _) ?_)
  |(refine aR rfl 84 _ rfl _ rfl _ _ _ _ U bV rfl (bh _) ?_)
  |(refine ay rfl 84 _ _ rfl _ _ rfl rfl _ _ L (bh _) (by simp[bO]) (dQ _) ?_))
 refine aW (v:= .agg (mv f)) ?_ rfl ⟨rfl,HN.o,HF.o⟩;exact bc rfl _ _ W.heap.size _ _ _ _ rfl nE bV rfl (bh _)
theorem Nv (n:Int)(w:World)(a:0<=n)(b:n<146097):Calls prog 217 #[ag n] w fun e w'=>e= .returned (.bool true)/\w'=w:=by
 go_enter func217,ntmps217;go_wp2;go_ret;exact⟨rfl,rfl⟩
def vR (n:Int):Int:=(n+5).tmod 7
theorem LZ (n:Int)(a:0<=n):vR n=(n+5)%7:=by
 unfold vR;rw[Int.tmod_eq_emod_of_nonneg (by omega)]
theorem DO (n:Int)(a:0<=n):0<=vR n/\vR n<7:=by
 rw[LZ n a];omega
theorem OM (n:Int)(w:World)(a:0<=n)(b:n<146097):Calls prog 211 #[ag n] w fun e w'=>e= .returned (ag (vR n))/\w'=w:=by
 have c1:=Nv n w a b;have c:=DO n a;have d:(n+5).tmod 7=vR n:=rfl;go_enter func211,ntmps211;go_wp2_with fail;refine c1.mono ?_;rintro e w' ⟨rfl,rfl⟩;clear c1;go_wp2_with fail;go_ret;exact⟨rfl,rfl⟩
def eJ (n a:Int):Bool:=bits BinOp.and IntKind.i64 (a/2^(vR n).toNat) 1==1
theorem JM (l:World)(gm:Nat)(lv:Value)(n k:Int)(S:List M)(x b t:Int)(sv:Value)(W:World)(h:VSt l gm lv n S k W)(c:0<=n)(f:n<146097):
  Calls prog 188 #[ab gm 0,.agg #[ag 6,ag x,ag b,ag t,sv]] W fun r w'=>r= .returned (.bool (eJ n x))/\aq W w':=by
 obtain⟨_,_,o,e,_⟩:=h;have k0:=ak 1 e;have d:=am W (.cells #[ag 6,ag x,ag b,ag t,sv] 177);have a:=aE W (.cells #[ag 6,ag x,ag b,ag t,sv] 177);have j:=aj d k0;have q:=ak 0 a;have s:=ak 1 a;have m:=DO n c;have g:=fun W=>OM n W c f;generalize i:W.alloc (.cells #[ag 6,ag x,ag b,ag t,sv] 177)=p at*;clear e a k0;go_enter func188,ntmps188;go_wp2_with fail;go_quiet ((go_at_call 211;exact fu (g _)));go_wp2_with fail;go_ret;exact⟨rfl,dD d nq⟩
theorem JN (o:World)(gm:Nat)(lv:Value)(n k:Int)(S:List M)(x b t:Int)(sv:Value)(W:World)(h:VSt o gm lv n S k W):
  Calls prog 188 #[ab gm 0,.agg #[ag 7,ag x,ag b,ag t,sv]] W fun r w'=>r= .returned (.bool (decide (x<=n)&&decide (n<=b)))/\aq W w':=by
 obtain⟨_,_,p,i,_⟩:=h;have k0:=ak 1 i;have c:=am W (.cells #[ag 7,ag x,ag b,ag t,sv] 177);have e:=aE W (.cells #[ag 7,ag x,ag b,ag t,sv] 177);have m:=aj c k0;have s:=ak 0 e;have u:=ak 1 e;have v:=ak 2 e;generalize l:W.alloc (.cells #[ag 7,ag x,ag b,ag t,sv] 177)=q at*;clear i e k0;by_cases d:x<=n
 ·by_cases f:n<=b
  ·rw[bm d,bm f];go_enter func188,ntmps188;go_wp2_with fail;go_quiet (fail);go_wp2_with fail;go_ret;exact⟨rfl,dD c nq⟩
  ·rw[bm d,bn f];have g:decide (n<=b)=false:=bn f;go_enter func188,ntmps188;go_wp2_with fail;go_quiet (fail);go_wp2_with fail;go_ret
   first
    |exact⟨rfl,dD c nq⟩
    |exact⟨a (fun x=>Ending.returned (.bool x)) g,dD c nq⟩
 ·rw[bn d];have j:decide (x<=n)=false:=bn d;go_enter func188,ntmps188;go_wp2_with fail;go_quiet (fail);go_wp2_with fail;go_ret;exact⟨rfl,dD c nq⟩
theorem vS (K:Nat)(F:M->M->M)(eK: ∀a w,(callFunc K a).run prog w= .ok (.enter K a) w)(L: ∀(f g:M) (W:World),Calls prog K #[.agg (mv f),.agg (mv g)] W fun e w'=>e= .returned (.agg (mv (F f g)))/\aq W w')
  (i:World) (gm:Nat) (lv:Value) (day k:Int) (S:List M) (f g:M) (W:World) (h:VSt i gm lv day (S++[f,g]) k W) (hS:S.length<=900):
  Calls prog 184 #[ab gm 0,.func (.func K) #[] #[]] W fun e R=>e= .returned (.tuple #[])/\VSt i gm lv day (S++[F f g]) k R:=by
 have e0:S++[f,g]=(S++[f])++[g]:=by simp
 rw[e0]at h;have c1:=sD i gm lv day k (S++[f]) g W h (by rw[aP];simp;omega);have hz:=eI;have P:=a8 L;clear L h e0;go_enter func184,ntmps184;go_wp2_with fail;refine c1.mono ?_;rintro e j ⟨rfl,D,_⟩;clear c1;have x:=am j (.cells (mv fun _=>false) 84);have t:=aE j (.cells (mv fun _=>false) 84);generalize p:j.alloc (.cells (mv fun _=>false) 84)=V at*;have y:=below_setRow x (aB _) (mv g);have u:=aL _ _ _ (mv g) _ _ t;have E:=D.below y;obtain⟨_,_,T,d,_⟩:=D
 have n:j.heap.size≠gm:=fun e=>by
  have:=aH d;omega
 generalize q:V.setRow j.heap.size (mv g)=X at*;have A:=sD i gm lv day k S f X E (by omega);clear E x y d;go_wp2_with(refine ay rfl 84 _ _ rfl _ _ rfl rfl _ _ t (bh _) (by simp[bO]) (dQ _) ?_)
 refine A.mono ?_;rintro e l ⟨rfl,G,b⟩;have O:=(b _ (aH u) n).trans u;clear A p q t u b;have z:=am l (.cells (mv fun _=>false) 84);have v:=aE l (.cells (mv fun _=>false) 84);generalize r:l.alloc (.cells (mv fun _=>false) 84)=Y at*;have m:=below_setRow z (aB _) (mv f);have N:=aL _ _ _ (mv f) _ _ v;have c:=ai m O;have H:=G.below m;generalize s:Y.setRow l.heap.size (mv f)=Z at*;have B:=P.o f g Z;clear G z m O
 go_wp2_with(first
  |(refine ay rfl 84 _ _ rfl _ _ rfl rfl _ _ v (bh _) (by simp[bO]) (dQ _) ?_)
  |(refine aR rfl 84 _ rfl _ rfl _ _ _ _ N bV rfl (bh _) ?_)
  |(refine aR rfl 84 _ rfl _ rfl _ _ _ _ c bV rfl (bh _) ?_))
 refine B.mono ?_;rintro e U ⟨rfl,b5⟩;have I:=H.below b5;have C:=uN i gm lv day k S (F f g) U I (by omega);clear B H b5 I v N c r s;go_wp2_with fail;refine C.mono ?_;rintro e w6 ⟨rfl,J,_⟩;have Q:=a8 J;clear C J;go_wp2_with fail;exact⟨rfl,_,eO rfl _ _ _,rfl,Q.o⟩
section
theorem Nw (l:List (Int×Int)):spM l=inl l:=rfl
abbrev StO (w0:World)(gm:Nat)(lv:Value)(day op a b t:Int)(sv:Value)(k:Nat)(W:World)(f:Int)(S:List M)(c:Int):Prop:=Calls prog 154 #[ab gm 0,.agg #[ag op,ag a,ag b,ag t,sv],ag (k:Int)] W fun e d=>e= .returned (ag f)/\VSt w0 gm lv day S c d
section
variable (w0:World) (gm:Nat) (lv:Value) (day c:Int) (S:List M) (a b t:Int) (sv:Value) (k:Nat) (W:World)
theorem rT (op:Int): ∃c,W.alloc (.cells #[ag op,ag a,ag b,ag t,sv] 177)=c/\aq W c/\c.heap[W.heap.size]? =ah #[ag op,ag a,ag b,ag t,sv] 177/\c.cell? (ae W.heap.size 0)=some (ag op)/\c.cell? (ae W.heap.size 1)=some (ag a)/\c.cell? (ae W.heap.size 3)=some (ag t)/\c.cell? (ae W.heap.size 4)=some sv:=
 have n:=aE W (.cells #[ag op,ag a,ag b,ag t,sv] 177)
 ⟨_,rfl,am _ _,n,ak 0 n,ak 1 n,ak 3 n,ak 4 n⟩
theorem BL {k:Nat}(h:k<=2000):(0:Int)<=(k:Int)/\(k:Int)<=2000:=by omega
theorem Nx (sp:List (Int×Int))(h:VSt w0 gm lv day S c W)(m:mX W sv sp)(p:k<=2000)(A:S.length<=900):StO w0 gm lv day 1 a b t sv k W ((k+1:Nat):Int) (S++[spM sp]) c:=by
 obtain⟨v,f,d,s,w,x,y,z⟩:=rT a b t sv W 1;obtain⟨q,r⟩:=BL p;have l:=h.below d;have c1:=DK sv sp v (m.later d);rw[<-Nw]at c1;clear h m d;go_enter func154,ntmps154;go_wp2_with fail;refine c1.mono ?_;rintro e u ⟨rfl,b1⟩;have i:=l.below b1;have g:=uN w0 gm lv day c S (spM sp) u i (by omega);clear c1 l b1 i w x y z s f;go_wp2_with fail;refine g.mono ?_;rintro e B ⟨rfl,j,_⟩;have n:=a8 j;clear g j;go_wp2_with fail;go_ret;exact⟨by go_num,n.o⟩
theorem BM (f g:M)(op:Int)(o:M->M->M)(s:op=2/\o=unM\/op=3/\o=dfM\/op=4/\o=boM)(h:VSt w0 gm lv day (S++[f,g]) c W)(p:k<=2000)(z:S.length<=900):StO w0 gm lv day op a b t sv k W ((k+1:Nat):Int) (S++[o f g]) c:=by
 obtain⟨j,i,l,u,v,w,x,y⟩:=rT a b t sv W op;obtain⟨q,r⟩:=BL p;have d:=h.below l;rcases s with⟨rfl,rfl⟩|⟨rfl,rfl⟩|⟨rfl,rfl⟩;case' inl=>have c1:=vS 185 unM (fun _ _=>by simp[go_sem]) (fun f g W=>ze f g W) w0 gm lv day c S f g j d (by omega)
 case' inr.inl=>have c1:=vS 53 dfM (fun _ _=>by simp[go_sem]) (fun f g W=>qe f g W) w0 gm lv day c S f g j d (by omega)
 case' inr.inr=>have c1:=vS 186 boM (fun _ _=>by simp[go_sem]) (fun f g W=>AY f g W) w0 gm lv day c S f g j d (by omega)
 all_goals
  clear h l d u
  go_enter func154,ntmps154
  go_wp2_with fail
  refine c1.mono ?_
  rintro e A ⟨rfl,m⟩
  have n:=a8 m
  clear c1 m v w x y i
  go_wp2_with fail
  go_ret
  exact⟨by go_num,n.o⟩
structure ShJ (w0:World)(gm:Nat)(lv:Value)(day c:Int)(S:List M)(g g':M)(gx:Nat)(X:Array Value)(M:Nat->Bool)(W:World):Prop where
 box:W.heap[gx]? =ah X 177
 ahead:M 2=false->VSt w0 gm lv day (S++[g]) c W
 mid:M 2=true->M 6=false->VSt w0 gm lv day S c W
 fin:M 6=true->VSt w0 gm lv day (S++[g']) c W
theorem Ny (g:M)(h:VSt w0 gm lv day (S++[g]) c W)(L:k<=2000)(Y:S.length<=900)(I: -1439<=a)(J:a<=1439):StO w0 gm lv day 5 a b t sv k W ((k+1:Nat):Int) (S++[shM g a]) c:=by
 obtain⟨wX,y,B,z,R,T,U,V⟩:=rT a b t sv W 5;obtain⟨N,O⟩:=BL L;have C:=h.below B;have s:PN (∀W,Calls prog 187 #[.agg (mv g),ag a] W fun e w'=>e= .returned (.agg (mv (shM g a)))/\aq W w'):=fun W=>wG g a W (by omega) (by omega)
 have n:W.heap.size≠gm:=fun e=>by
  obtain⟨_,_,_,q,_⟩:=h;have:=aH q;omega
 clear h B T U V;go_enter func154,ntmps154;go_wp2_with fail;obtain⟨gx,f⟩: ∃b,W.heap.size=b:=⟨_,rfl⟩
 rw[f]at z n;simp only[f];clear f y R;refine dh (fun M _=>ShJ w0 gm lv day c S g (shM g a) gx #[ag 5,ag a,ag b,ag t,sv] M) [kn 30 (ab gm 0),kn 31 (ab gm 0),dk 32 (.agg (mv g)),kn 33 (ab gx 1),kn 34 (ag a),dk 35 (.agg (mv (shM g a))),dk 36 (.tuple #[])] (fun _=>⟨z,fun _=>C.below (aI _ _).drew,(fun h=>by cases h),(fun h=>by cases h)⟩) (fun _ _ _ _ v h=>⟨ai v h.box,fun e=>(h.ahead e).below v,fun e p=>(h.mid e p).below v,fun e=>(h.fin e).below v⟩) (by kernel_rfl) (fun M φ x d j F l D H=> ?_) (fun M φ X r d=> ?_)
 ·simp only[kn,dk,dW,aQ,aX,Act.put,aA,aK,aJ]at D;subst D;simp only[cZ,Nat.reduceAdd]at H;have zz:=ak 1 d.box;dsimp only[kn,dk,dB,eN,eg,Act.put];and_intros;all_goals first|exact trivial|intro P Z w K u
  all_goals try (go_simp;with_reducible exact u _ _ ⟨rfl,aI _ _⟩)
  ·go_simp;refine(sD w0 gm lv day c S g x (d.ahead w) (by omega)).mono ?_;rintro p A ⟨rfl,r,m⟩
   have Q:M 6=false:=by
    cases h:M 6 with
    |false=>rfl
    |true=>rw[j 5 _ rfl (j 6 _ rfl h ⟨5,.data⟩ (by simp) rfl rfl) ⟨2,.data⟩ (by simp) rfl rfl]at w;cases w
   exact u _ _ ⟨rfl,(m _ (aH d.box) n).trans d.box,(fun e=>by simp at e),fun _ _=>r,(fun e=>by simp[Q]at e)⟩
  ·go_simp;refine(s.o x).mono ?_;rintro p A ⟨rfl,i⟩;exact u _ _ ⟨rfl,ai i d.box,fun e=>(d.ahead (by simpa using e)).below i,fun e p=>(d.mid (by simpa using e) (by simpa using p)).below i,fun e=>(d.fin (by simpa using e)).below i⟩
  ·have E:=j 5 _ rfl (P ⟨5,.data⟩ (by simp) rfl rfl) ⟨2,.data⟩ (by simp) rfl rfl;go_simp;refine(uN w0 gm lv day c S (shM g a) x (d.mid E w) (by omega)).mono ?_;rintro p A ⟨rfl,r,m⟩;exact u _ _ ⟨rfl,m _ _ _ d.box (by decide) n,(fun e=>by simp[E]at e),(fun _ e=>by simp at e),fun _=>r⟩
 ·have G:=a8 (d.fin (r 6 (by decide) rfl));simp only[kn,dk,eh,aQ,aX,Act.put,aA,aK,aJ];clear r d s C z;go_wp2_with fail;go_ret;exact⟨by go_num,G.o⟩
theorem Nz (g:List M)(j:Int)(h:VSt w0 gm lv day S c W)(p:k<=2000)(d: ∀W,VSt w0 gm lv day S c W->Calls prog 129 #[ab gm 0,ag a] W fun e n=>e= .returned (.tuple #[])/\VSt w0 gm lv day g j n):StO w0 gm lv day 8 a b t sv k W ((k+1:Nat):Int) g j:=by
 obtain⟨u,f,i,s,v,w,x,y⟩:=rT a b t sv W 8;obtain⟨q,r⟩:=BL p;have c1:=d u (h.below i);clear h i s d;go_enter func154,ntmps154;go_wp2_with fail;refine c1.mono ?_;rintro e z ⟨rfl,l⟩;have m:=a8 l;clear c1 l v w x y f;go_wp2_with fail;go_ret;exact⟨by go_num,m.o⟩
theorem He (op:Int)(q:Bool)(G:op=6/\q=eJ day a\/op=7/\q=(decide (a<=day)&&decide (day<=b)))(m:Option Addr)(l i:Nat)(h:VSt w0 gm lv day S c W)(D:k<=2000)(L:S.length<=900)(y:0<=day)(z:day<146097):StO w0 gm lv day op a b t (.slice m l i) k W (if q=true then((k+1:Nat):Int) else t) (if q=true then S else S++[noM]) c:=by
 obtain⟨B,v,x,w,I,J,C,K⟩:=rT a b t (.slice m l i) W op;obtain⟨E,F⟩:=BL D;have j:=h.below x
 have s:W.heap.size≠gm:=fun e=>by
  obtain⟨_,_,_,q,_⟩:=h;have:=aH q;omega
 have M:=eI;rcases G with⟨rfl,u⟩|⟨rfl,u⟩;case' inl=>have c1:=JM w0 gm lv day c S a b t (.slice m l i) B j y z
 case' inr=>have c1:=JN w0 gm lv day c S a b t (.slice m l i) B j
 all_goals
  rw[<-u]at c1
  clear h x y z u
  go_enter func154,ntmps154
  go_wp2_with(refine aR rfl 177 _ rfl _ rfl _ _ _ _ w rO rfl (by kernel_rfl) ?_)
  refine c1.mono ?_
  rintro e H ⟨rfl,b1⟩
  have r:=j.below b1
  have f:=ai b1 w
  have p:=uN w0 gm lv day c S noM H r (by omega)
  unfold noM at p
  have n:=a8 r
  clear c1 j b1 r I J C K v w
  cases q with
  |true=>
   simp only
   go_wp2_with fail
   go_ret
   exact⟨by go_num,n.o⟩
  |false=>
   simp only
   go_wp2_with fail
   refine p.mono ?_
   rintro e N ⟨rfl,A,d⟩
   have g:=d _ _ _ f (by decide) s
   have C:=ak 3 g
   have n:=a8 A
   clear p A d f g
   go_wp2_with fail
   go_ret
   exact⟨rfl,n.o⟩
end
end
end Go.Proofs.YtaoljfdfhggbbaaGreatDoor
