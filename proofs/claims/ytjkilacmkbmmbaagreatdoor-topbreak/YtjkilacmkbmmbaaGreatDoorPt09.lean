/- Texts of the proof. -/
import Derived.Test.YtjkilacmkbmmbaaGreatDoorPt04
import Derived.Test.YtjkilacmkbmmbaaGreatDoorPt08
import Derived.Test.YtjkilacmkbmmbaaGreatDoorPt03
set_option maxRecDepth 100000
set_option maxHeartbeats 8000000
namespace Go.Proofs.YtjkilacmkbmmbaaGreatDoor
open Go.Proofs.Tryz Go.RowKit Lx Vx Mx Msk
def kj (S:List M):List Value:=S.flatMap fun f=>(mv f).toList
theorem Az: ∀S:List M,(kj S).length=S.length*23
 |[]=>rfl
 |f::S=>by
  have:=Az S;unfold kj at this⊢;rw[List.flatMap_cons,aO,this];have h:(mv f).toList.length=23:=(by rw[bU];exact bP f);rw[h,bH];omega
theorem sL (S:List M)(f:M):kj (S++[f])=kj S++(mv f).toList:=by
 unfold kj;rw[fu];simp
theorem r7 (f:M):(mv f).toList.length=23:=by rw[bU];exact bP f
theorem il {w w':World}{base:Nat}{e:TypeId}{size n:Nat}{v:Value}{xs:List Value}(h:w.ownsRow base e size v n xs)(hb:ao w w'):w'.ownsRow base e size v n xs:=by
 refine h.kept (row:=none) ⟨hb.os,hb.tape,hb.output,hb.size,fun k hk _=>hb.block k hk⟩ ?_;cases hv:v.ownBlock with
 |none=>exact .inl rfl
 |some g=>exact .inr (by simp)
structure VSt (w0:World)(gm:Nat)(lv:Value)(day:Int)(S:List M)(k:Int)(W:World):Prop where
 bel:ao w0 W
 gt:w0.heap.size<=gm
 row: ∃sv,W.heap[gm]? =ah #[lv,ag day,sv,ag k] 256/\W.ownsRow w0.heap.size 61 23 sv S.length (kj S)
theorem VSt.below {w0 W W':World}{gm:Nat}{lv:Value}{day k:Int}{S:List M}(h:VSt w0 gm lv day S k W)(hb:ao W W'):VSt w0 gm lv day S k W':=by
 obtain⟨h1,h2,sv,h3,h4⟩:=h;exact⟨au h1 hb,h2,sv,ai hb h3,il h4 hb⟩
theorem I1:(prog.info? 61).map (fun i=>(i.zero,i.size,i.bytes))=some (some (.agg #[.int .u64 0, .int .u64 0, .int .u64 0, .int .u64 0, .int .u64 0, .int .u64 0, .int .u64 0, .int .u64 0, .int .u64 0, .int .u64 0, .int .u64 0, .int .u64 0, .int .u64 0, .int .u64 0, .int .u64 0, .int .u64 0, .int .u64 0, .int .u64 0, .int .u64 0, .int .u64 0, .int .u64 0, .int .u64 0, .int .u64 0]),23,184):=by kernel_rfl
theorem I2:prog.underlying 55=some (.slice 61):=by kernel_rfl
structure O6 (base:Nat)(sv:Value)(n:Nat)(xs:List Value)(f:M)(W1:World)(R:World->Prop)(D:Nat->Bool)(φ:Nat->Value)(W:World):Prop where
 grown:D 10=false->W1.grownBy W sv.ownBlock
 own:D 7=false->W.ownsRow base 61 23 sv n xs
 one:D 6=true->D 7=false-> ∃g,φ 10= .slice (some (ae g 0)) 1 1/\W.heap[g]? =ah (mv f) 61
 app:D 7=true->D 10=false->W.ownsRow base 61 23 (φ 11) (n+1) (xs++(mv f).toList)
 fin:D 10=true->R W
theorem o6 {W1 W W':World}{row:Option Nat}(h:W1.grownBy W row)(hb:ao W W'):W1.grownBy W' row:=
 ⟨hb.os.trans h.os,hb.tape.trans h.tape,hb.output.trans h.output,bg h.size hb.size,fun k hk hr=>(hb.block k (aQ hk h.size)).trans (h.block k hk hr)⟩
theorem vK {W1 W W':World}{row:Option Nat}(h:W1.grownBy W row)(hb:W.grownBy W' row):W1.grownBy W' row:=
 ⟨hb.os.trans h.os,hb.tape.trans h.tape,hb.output.trans h.output,bg h.size hb.size,fun k hk hr=>(hb.block k (aQ hk h.size) hr).trans (h.block k hk hr)⟩
theorem uZ (g o n:Nat):(⟨g,o,none⟩:Addr).add n=⟨g,o+n,none⟩:=by
 by_cases h:n=0
 ·subst h;simp[Addr.add]
 ·simp[Addr.add,h]
theorem u0 (w0:World)(gm:Nat)(lv:Value)(day k:Int)(S:List M)(f:M)(W:World)(h:VSt w0 gm lv day S k W)(hS:S.length<=1000):
  Calls prog 231 #[ab gm 0,.agg (mv f)] W fun e W'=>e= .returned (.tuple #[])/\VSt w0 gm lv day (S++[f]) k W'/\ ∀(q:Nat) (c:Array Value) (T:TypeId),W.heap[q]? =ah c T->T≠61->q≠gm->W'.heap[q]? =ah c T:=by
 obtain⟨hbel,hgt,sv,nM0,own0⟩:=h;obtain⟨i0,hi,hz0,hz1,hz2⟩:=iP I1;have HZ:=aY hz0;have bB:=am W (.cells (mv f) 61);have nB0:=aB W (.cells (mv f) 61);have nM:=ai bB nM0;have own1:=il own0 bB;have hneM:=kN own1 nM (by decide)
 have hneB:some W.heap.size≠sv.ownBlock:=fun e=>by
  have:=(own0.lt _ e.symm).2;omega
 have hb1:=au hbel bB;have hb0:=hb1.size;obtain⟨p0,c0,hsv⟩:=dl own0;subst hsv;have HFR:RJ (∀(q:Nat) (c:Array Value) (T:TypeId),W.heap[q]? =ah c T->(W.alloc (.cells (mv f) 61)).heap[q]? =ah c T):=fun q c T hq=>ai bB hq;obtain⟨gb,hgb⟩:=aq W.heap.size;generalize hwB:W.alloc (.cells (mv f) 61)=wB at*;rw[hgb]at hneB;have nB:wB.heap[gb]? =ah (mv f) 61:=by rw[<-hgb];exact nB0
 clear hz0 nB0 nM0 own0 bB hbel;go_enter func231,ntmps231;go_wp2_with fail;clear hwB;refine dz (O6 w0.heap.size (.slice p0 S.length c0) S.length (kj S) f wB fun W'=>VSt w0 gm lv day (S++[f]) k W'/\ ∀(q:Nat) (c:Array Value) (T:TypeId),W.heap[q]? =ah c T->T≠61->q≠gm->W'.heap[q]? =ah c T) [kn 4 (ab gm 0),kn 5 (ab gm 0),kn 6 (ab gm 0),kn 7 (ab gm 2),kn 8 (.slice p0 S.length c0),kn 9 (.agg (mv f)),td 10,td 11,kn 12 (ab gm 0),kn 13 (ab gm 2),nk] (fun _=>⟨fun _=>⟨rfl,rfl,rfl,aA _,fun _ _ _=>rfl⟩,fun _=>own1,(fun h=>by cases h),(fun h=>by cases h),(fun h=>by cases h)⟩) (fun _ _ _ _ hb h=>⟨fun e=>o6 (h.grown e) hb,fun e=>il (h.own e) hb,fun e e'=>(h.one e e').imp fun _ q=>⟨q.1,ai hb q.2⟩,fun e e'=>il (h.app e e') hb,fun e=>⟨(h.fin e).1.below hb,fun q c T h1 h2 h3=>by have:=(h.fin e).2 q c T h1 h2 h3;exact ai hb this⟩⟩) (by kernel_rfl) (fun D φ W2 hJ hcl F l hl hF=> ?_) (fun D φ W2 hM hJ=> ?_)
 ·simp only[kn,td,nk,dX,aT,aZ,Act.put,aC,aK,aJ]at hl;subst hl;simp only[dm,Nat.reduceAdd]at hF
  have h10:D 7=false->D 10=false:=fun h7=>by
   cases h:D 10 with
   |false=>rfl
   |true=>rw[hcl 10 _ rfl h ⟨7,.data⟩ (by simp) rfl rfl]at h7;cases h7
  dsimp only[kn,td,nk,dJ,eZ,eh,Act.put];and_intros;all_goals first|exact trivial|intro hw hn hm K hK
  all_goals try (go_simp;with_reducible exact hK _ _ ⟨rfl,aH _ _⟩)
  ·have nM2:=((hJ.grown (h10 (hn 7 _ rfl (by kernel_rfl)))).block _ (aG nM) hneM).trans nM;have z2:=ak 2 nM2;go_simp;exact hK _ _ ⟨rfl,aH _ _⟩
  ·have no7:D 7=false:=by
    cases h:D 7 with
    |false=>rfl
    |true=>
     have:=hn 6 _ rfl (by kernel_rfl);rw[hcl 7 _ rfl h ⟨6,.data⟩ (by simp) rfl rfl]at this;cases this
   have nB2:=((hJ.grown (h10 no7)).block _ (aG nB) hneB).trans nB;refine eP 61 _ rfl _ (by simp[Act.eval,hF]) _ _ _ _ nB2 bQ rfl (a7 _) ?_;exact hK _ _ ⟨rfl,aH _ _⟩
  ·have hb:=am W2 (.cells (mv f) 61);have no7:=hn 7 _ rfl (by kernel_rfl);refine I0 _ rfl f (by simp[Act.eval,hF]) ?_;exact hK _ _ ⟨trivial,fun _=>o6 (hJ.grown (h10 no7)) hb,fun _=>il (hJ.own no7) hb,fun _ _=>⟨_,dY ..,aB W2 _⟩,(fun h=>by simp[no7]at h),(fun h=>by simp[h10 no7]at h)⟩
  ·obtain⟨g,e10,hh⟩:=hJ.one (hw ⟨6,.data⟩ (by simp) rfl rfl) hm;have hG:=hJ.grown (h10 hm);rw[e10]at hF;refine wp_append_own W2 _ _ 55 rfl w0.heap.size 61 i0 _ 23 184 I2 hi HZ.o hz1 hz2 rfl (by decide) (.slice p0 S.length c0) S.length (kj S) (by simp[Act.eval,hF]) (hJ.own hm) ⟨g,0,none⟩ 1 1 (mv f).toList (by simp[Act.eval,hF]) (r7 f) ?c1 ?c2 ?c3 ?c4 ?c5 ?_
   case c1=>
    intro q u hq;rw[uZ];exact(aX _ _ _ _ _ _ hh).trans (by rw[bG,<-bn];exact hq)
   case c2=>
    intro u hu;have:=dN f;rw[Array.all_eq_true_iff_forall_mem]at this;exact this u (Array.mem_def.2 hu)
   case c3=>unfold maxLen;omega
   case c4=>omega
   case c5=>exact bg hb0 hG.size
   intro v' W' hown hgrow _;exact hK _ _ ⟨trivial,fun _=>vK hG hgrow,(fun e=>by simp at e),(fun _ e=>by simp at e),fun _ _=>by rw[dY];exact hown,(fun e=>by simp[h10 hm]at e)⟩
  ·have own7:=hJ.app (hw ⟨7,.data⟩ (by simp) rfl rfl) hm;have hG:=hJ.grown hm;have q7:=hw ⟨7,.data⟩ (by simp) rfl rfl;obtain⟨p7,c7,hv7⟩:=dl own7;rw[hv7]at hF own7;have nM2:=(hG.block _ (aG nM) hneM).trans nM;have z2:=ak 2 nM2;have y2:=bl _ _ 2 _ _ nM2;have hne7:=kN own7 nM2 (by decide);have nS:(W2.setCell ⟨gm,2,none⟩ (.slice p7 (S.length+1) c7)).heap[gm]? =ah #[lv,ag day,.slice p7 (S.length+1) c7,ag k] 256:=aW W2 gm 2 _ _ _ nM2
   have bS:ao w0 (W2.setCell ⟨gm,2,none⟩ (.slice p7 (S.length+1) c7)):=by
    refine Below.setCell (p:=⟨gm,2,none⟩) ⟨hG.os.trans hb1.os,hG.tape.trans hb1.tape,hG.output.trans hb1.output,bg hb1.size hG.size,fun q hq=> ?_⟩ hgt _;refine(hG.block q (aQ hq hb1.size) fun e=> ?_).trans (hb1.block q hq);have:=(own1.lt _ e.symm).1;omega
   have own8:(W2.setCell ⟨gm,2,none⟩ (.slice p7 (S.length+1) c7)).ownsRow w0.heap.size 61 23 (.slice p7 (S.length+1) c7) (S++[f]).length (kj (S++[f])):=by
    rw[sL,aO,eI];refine own7.kept (row:=some gm) ⟨rfl,rfl,rfl,by simp,fun q hq hr=>aM W2 ⟨gm,2,none⟩ q _ fun e=>hr (congrArg some e)⟩ (.inr fun e=>hne7 e.symm)
   have HJ:RJ (∀φ',O6 w0.heap.size (.slice p0 S.length c0) S.length (kj S) f wB (fun W'=>VSt w0 gm lv day (S++[f]) k W'/\ ∀(q:Nat) (c:Array Value) (T:TypeId),W.heap[q]? =ah c T->T≠61->q≠gm->W'.heap[q]? =ah c T) (fun k=>decide (10=k)||D k) φ' (W2.setCell ⟨gm,2,none⟩ (.slice p7 (S.length+1) c7))):=fun _=>⟨(fun h=>by simp at h),(fun h=>by simp[q7]at h),(fun _ h=>by simp[q7]at h),(fun _ h=>by simp at h),fun _=>⟨⟨bS,hgt,_,nS,own8⟩,fun q c T hq hT hne=>by
    have h1:=HFR.o q c T hq;exact(aM W2 ⟨gm,2,none⟩ q _ hne).trans ((hG.block _ (aG h1) (kN own1 h1 hT)).trans h1)⟩⟩
   clear own7 own8 nS bS hJ;go_simp;exact hK undef _ ⟨trivial,HJ.o _⟩
 ·have HN:=aY (hJ.fin (hM 10 (by decide) rfl));simp only[kn,td,nk,ef,aT,aZ,Act.put,aC,aK,aJ];clear hM hJ;go_wp2_with fail;exact⟨rfl,_,eJ rfl _ _ _,rfl,HN.o⟩
theorem tV {ops:Array Oper}{rest:List Oper}{op:Oper}{a:Act}{w:World}{Q:Exit->Act->World->Prop}(hgd:op.guard=none)(x:Operand)(ho:op.op= .load 61 x)(b o:Nat)(hx:a.eval x=ab b o)(f:Nat->Bool)(hc:w.rangeAt b o (mv f).toList)
  (h:wpList prog ops Q rest (a.put op.dst (.agg (mv f))) w):wpList prog ops Q (op::rest) a w:=by
 refine wpList_load_mid hgd 61 x ho b o hx (mv f).toList _ hc bQ rfl (by rw[r7];kernel_rfl) ?_;simpa using h
theorem Lf {w:World}{base:Nat}{v:Value}{S:List M}{f:M}(h:w.ownsRow base 61 23 v (S++[f]).length (kj (S++[f]))):
  ∃g cap,v= .slice (some (ae g 0)) (S.length+1) cap/\S.length+1<=cap/\cap<=maxLen/\base<=g/\w.ownsRow base 61 23 (.slice (some (ae g 0)) S.length cap) S.length (kj S)/\w.rangeAt g (S.length*23) (mv f).toList:=by
 obtain⟨h1,h2⟩:=h;rw[aO,eI]at h2;rcases h2 with⟨_,e⟩|⟨g,cap,cur,e,hb,hg,hn,hc,hs,hx⟩
 ·omega
 ·have hfl:=Az S
  have e1:cur.toList.take (S.length*23)=kj S:=by
   have h3:(cur.toList.take ((S.length+1)*23)).take (S.length*23)=(kj (S++[f])).take (S.length*23):=(by rw[hx]);rw[List.take_take,fj (by omega),sL,List.take_left' hfl]at h3;exact h3
  refine⟨g,cap,e,hn,hc,hb,⟨hfl,.inr ⟨g,cap,cur,rfl,hb,hg,by omega,hc,hs,e1⟩⟩,fun j u hj=> ?_⟩
  have hjl:j<23:=by
   have:=(aD.1 hj).1;rwa[r7]at this
  refine(aX _ _ _ _ _ _ hg).trans ?_;have h4:(cur.toList.take ((S.length+1)*23))[S.length*23+j]? =(kj (S++[f]))[S.length*23+j]? :=(by rw[hx]);rw[dK (by omega),sL,dL (by omega),hfl,Nat.add_sub_cancel_left,hj]at h4;simpa using h4
theorem sM (w0:World)(gm:Nat)(lv:Value)(day k:Int)(S:List M)(f:M)(W:World)(h:VSt w0 gm lv day (S++[f]) k W)(hS:S.length<=1000):
  Calls prog 203 #[ab gm 0] W fun e W'=>e= .returned (.agg (mv f))/\VSt w0 gm lv day S k W'/\ ∀q,q<W.heap.size->q≠gm->W'.heap[q]? =W.heap[q]? :=by
 obtain⟨hbel,hgt,sv,nM0,own0⟩:=h;obtain⟨g,cap,rfl,hcap,hcm,hgb,own1,hrg⟩:=Lf own0;have hz:=eC;have hcm':cap<=9223372036854775807:=by unfold maxLen at hcm;omega
 have hlg:g<W.heap.size:=(own0.lt g rfl).2;have hneM:gm≠g:=fun e=>kN own0 nM0 (by decide) (congrArg some e);have bA:=am W (.cells (mv fun _=>false) 61);have nA:=aB W (.cells (mv fun _=>false) 61);have nM1:=ai bA nM0;have hbA:=au hbel bA;have own2:=il own1 bA;have hrg1:(W.alloc (.cells (mv fun _=>false) 61)).rangeAt g (S.length*23) (mv f).toList:=World.rangeAt_alloc hrg _;have hlm:=aG nM0;generalize hwA:W.alloc (.cells (mv fun _=>false) 61)=wA at*;have bB:=am wA (.cells (mv fun _=>false) 61);have nB:=aB wA (.cells (mv fun _=>false) 61);generalize hwB:wA.alloc (.cells (mv fun _=>false) 61)=wB at*;have bC:=below_setRow bB (aA _) (mv f);have nC:=aL _ _ _ (mv f) _ _ nB;have nA2:=ai bC nA;have nM2:=ai bC nM1;have own3:=il own2 bC;have hbC:=au hbA bC;generalize hwC:wB.setRow wA.heap.size (mv f)=wC at*;have hlA:=aG nA;have z2:=ak 2 nM1;have z2c:=ak 2 nM2;have y2c:=bl _ _ 2 _ _ nM2;have nD:(wC.setCell ⟨gm,2,none⟩ (.slice (some (ae g 0)) S.length cap)).heap[gm]? =ah #[lv,ag day,.slice (some (ae g 0)) S.length cap,ag k] 256:=aW wC gm 2 _ _ _ nM2;have hoD: ∀q,q≠gm->(wC.setCell ⟨gm,2,none⟩ (.slice (some (ae g 0)) S.length cap)).heap[q]? =wC.heap[q]? :=fun q hq=>aM wC ⟨gm,2,none⟩ q _ hq;have nCD:=(hoD wA.heap.size (by have:=aG nM1;omega)).trans nC;have nAD:=(hoD W.heap.size (by omega)).trans nA2;have hbD:ao w0 (wC.setCell ⟨gm,2,none⟩ (.slice (some (ae g 0)) S.length cap)):=hbC.setCell (p:=⟨gm,2,none⟩) hgt _
 have own4:(wC.setCell ⟨gm,2,none⟩ (.slice (some (ae g 0)) S.length cap)).ownsRow w0.heap.size 61 23 (.slice (some (ae g 0)) S.length cap) S.length (kj S):=
  own3.kept (row:=some gm) ⟨rfl,rfl,rfl,by simp,fun q hq hr=>hoD q fun e=>hr (congrArg some e)⟩ (.inr fun e=>hneM (aI e).symm)
 generalize hwD:wC.setCell ⟨gm,2,none⟩ (.slice (some (ae g 0)) S.length cap)=wD at*;have nE:=aL _ _ _ (mv f) _ _ nAD;have nME:=(aU wD W.heap.size gm (mv f) (by omega)).trans nD;have hlow:w0.heap.size<=W.heap.size:=hbel.size;have hbE:=below_setRow hbD hlow (mv f)
 have own5:(wD.setRow W.heap.size (mv f)).ownsRow w0.heap.size 61 23 (.slice (some (ae g 0)) S.length cap) S.length (kj S):=
  own4.kept (row:=some W.heap.size) ⟨rfl,rfl,rfl,by simp,fun q hq hr=>aU wD W.heap.size q (mv f) fun e=>hr (congrArg some e)⟩ (.inr fun e=>by have e2:g=W.heap.size:=aI e;omega)
 have HN:RJ (VSt w0 gm lv day S k (wD.setRow W.heap.size (mv f))):=⟨hbE,hgt,_,nME,own5⟩
 have HF:RJ (∀q,q<W.heap.size->q≠gm->(wD.setRow W.heap.size (mv f)).heap[q]? =W.heap[q]?):=fun q hq hne=>(aU wD W.heap.size q (mv f) (by omega)).trans ((hoD q hne).trans ((bC.block q (by omega)).trans (bA.block q hq)));have hn0:(0:Int)<=(S.length:Int):=by omega
 have hnc:(S.length:Int)<(cap:Int):=by omega
 have hnc1:S.length<=cap:=by omega
 have hn1:(S.length:Int)<=1000:=by omega
 clear own0 own1 own2 own3 own4 own5 hbel hbA hbC hbD hbE bA bB bC nME nD hoD nM0 nM1 nM2 nA nA2 hrg hgb hcm;generalize S.length=n at*;go_enter func203,ntmps203
 go_wp2_with(first
  |(refine tV rfl _ rfl g (n*23) ?r f hrg1 ?_;(case r=>rfl))
  |(refine az rfl 61 _ _ rfl _ _ rfl rfl _ _ nB (a7 _) (by simp[bP]) (dN _) ?_)
  |(refine aR rfl 61 _ rfl _ rfl _ _ _ _ nCD bQ rfl (a7 _) ?_)
  |(refine az rfl 61 _ _ rfl _ _ rfl rfl _ _ nAD (a7 _) (by simp[bP]) (dN _) ?_))
 refine aV (v:= .agg (mv f)) ?_ rfl ⟨rfl,HN.o,HF.o⟩;exact a8 rfl _ _ W.heap.size _ _ _ _ rfl nE bQ rfl (a7 _)
theorem O7 (n:Int)(w:World)(a:0<=n)(b:n<146097):Calls prog 23 #[ag n] w fun e w'=>e= .returned (.bool true)/\w'=w:=by
 go_enter func23,ntmps23;go_wp2;go_ret;exact⟨rfl,rfl⟩
def wn (n:Int):Int:=(n+5).tmod 7
theorem ND (n:Int)(a:0<=n):wn n=(n+5)%7:=by
 unfold wn;rw[Int.tmod_eq_emod_of_nonneg (by omega)]
theorem EV (n:Int)(a:0<=n):0<=wn n/\wn n<7:=by
 rw[ND n a];omega
theorem QC (n:Int)(w:World)(a:0<=n)(b:n<146097):Calls prog 15 #[ag n] w fun e w'=>e= .returned (ag (wn n))/\w'=w:=by
 have c1:=O7 n w a b;have hb:=EV n a;have hw:(n+5).tmod 7=wn n:=rfl;go_enter func15,ntmps15;go_wp2_with fail;refine c1.mono ?_;rintro e w' ⟨rfl,rfl⟩;clear c1;go_wp2_with fail;go_ret;exact⟨rfl,rfl⟩
def eD (n a:Int):Bool:=bits BinOp.and IntKind.i64 (a/2^(wn n).toNat) 1==1
theorem Lg (w0:World)(gm:Nat)(lv:Value)(n k:Int)(S:List M)(x b t:Int)(sv:Value)(W:World)(h:VSt w0 gm lv n S k W)(a0:0<=n)(a1:n<146097):
  Calls prog 233 #[ab gm 0,.agg #[ag 6,ag x,ag b,ag t,sv]] W fun r w'=>r= .returned (.bool (eD n x))/\ao W w':=by
 obtain⟨_,_,s0,nM,_⟩:=h;have k0:=ak 1 nM;have bA:=am W (.cells #[ag 6,ag x,ag b,ag t,sv] 234);have nA:=aB W (.cells #[ag 6,ag x,ag b,ag t,sv] 234);have k0':=aj bA k0;have z0:=ak 0 nA;have z1:=ak 1 nA;have hb:=EV n a0;have cw:=fun W=>QC n W a0 a1;generalize hwA:W.alloc (.cells #[ag 6,ag x,ag b,ag t,sv] 234)=wA at*;clear nM nA k0;go_enter func233,ntmps233;go_wp2_with fail;go_quiet ((go_at_call 15;exact ft (cw _)));go_wp2_with fail;go_ret;exact⟨rfl,du bA nq⟩
theorem Lh (w0:World)(gm:Nat)(lv:Value)(n k:Int)(S:List M)(x b t:Int)(sv:Value)(W:World)(h:VSt w0 gm lv n S k W):
  Calls prog 233 #[ab gm 0,.agg #[ag 7,ag x,ag b,ag t,sv]] W fun r w'=>r= .returned (.bool (decide (x<=n)&&decide (n<=b)))/\ao W w':=by
 obtain⟨_,_,s0,nM,_⟩:=h;have k0:=ak 1 nM;have bA:=am W (.cells #[ag 7,ag x,ag b,ag t,sv] 234);have nA:=aB W (.cells #[ag 7,ag x,ag b,ag t,sv] 234);have k0':=aj bA k0;have z0:=ak 0 nA;have z1:=ak 1 nA;have z2:=ak 2 nA;generalize hwA:W.alloc (.cells #[ag 7,ag x,ag b,ag t,sv] 234)=wA at*;clear nM nA k0;by_cases h1:x<=n
 ·by_cases h2:n<=b
  ·rw[a6 h1,a6 h2];go_enter func233,ntmps233;go_wp2_with fail;go_quiet (fail);go_wp2_with fail;go_ret;exact⟨rfl,du bA nq⟩
  ·rw[a6 h1,bh h2];have hd2:decide (n<=b)=false:=bh h2;go_enter func233,ntmps233;go_wp2_with fail;go_quiet (fail);go_wp2_with fail;go_ret
   first
    |exact⟨rfl,du bA nq⟩
    |exact⟨congrArg (fun x=>Ending.returned (.bool x)) hd2,du bA nq⟩
 ·rw[bh h1];have hd1:decide (x<=n)=false:=bh h1;go_enter func233,ntmps233;go_wp2_with fail;go_quiet (fail);go_wp2_with fail;go_ret;exact⟨rfl,du bA nq⟩
theorem wo (K:Nat)(F:M->M->M)(eK: ∀args w,(callFunc K args).run prog w= .ok (.enter K args) w)(hK: ∀(f g:M) (W:World),Calls prog K #[.agg (mv f),.agg (mv g)] W fun e w'=>e= .returned (.agg (mv (F f g)))/\ao W w')
  (w0:World) (gm:Nat) (lv:Value) (day k:Int) (S:List M) (f g:M) (W:World) (h:VSt w0 gm lv day (S++[f,g]) k W) (hS:S.length<=900):
  Calls prog 232 #[ab gm 0,.func (.func K) #[] #[]] W fun e W'=>e= .returned (.tuple #[])/\VSt w0 gm lv day (S++[F f g]) k W':=by
 have e0:S++[f,g]=(S++[f])++[g]:=by simp
 rw[e0]at h;have c1:=sM w0 gm lv day k (S++[f]) g W h (by rw[aO];simp;omega);have hz:=eC;have HK:=aY hK;clear hK h e0;go_enter func232,ntmps232;go_wp2_with fail;refine c1.mono ?_;rintro e w1 ⟨rfl,h1,_⟩;clear c1;have bA:=am w1 (.cells (mv fun _=>false) 61);have nA:=aB w1 (.cells (mv fun _=>false) 61);generalize hwA:w1.alloc (.cells (mv fun _=>false) 61)=wA at*;have bB:=below_setRow bA (aA _) (mv g);have nB:=aL _ _ _ (mv g) _ _ nA;have h2:=h1.below bB;obtain⟨_,_,sv1,nM1,_⟩:=h1
 have hg1:w1.heap.size≠gm:=fun e=>by
  have:=aG nM1;omega
 generalize hwB:wA.setRow w1.heap.size (mv g)=wB at*;have c2:=sM w0 gm lv day k S f wB h2 (by omega);clear h2 bA bB nM1;go_wp2_with(refine az rfl 61 _ _ rfl _ _ rfl rfl _ _ nA (a7 _) (by simp[bP]) (dN _) ?_)
 refine c2.mono ?_;rintro e w2 ⟨rfl,h3,hfr⟩;have nG:=(hfr _ (aG nB) hg1).trans nB;clear c2 hwA hwB nA nB hfr;have bC:=am w2 (.cells (mv fun _=>false) 61);have nC:=aB w2 (.cells (mv fun _=>false) 61);generalize hwC:w2.alloc (.cells (mv fun _=>false) 61)=wC at*;have bD:=below_setRow bC (aA _) (mv f);have nD:=aL _ _ _ (mv f) _ _ nC;have nG2:=ai bD nG;have h4:=h3.below bD;generalize hwD:wC.setRow w2.heap.size (mv f)=wD at*;have c3:=HK.o f g wD;clear h3 bC bD nG
 go_wp2_with(first
  |(refine az rfl 61 _ _ rfl _ _ rfl rfl _ _ nC (a7 _) (by simp[bP]) (dN _) ?_)
  |(refine aR rfl 61 _ rfl _ rfl _ _ _ _ nD bQ rfl (a7 _) ?_)
  |(refine aR rfl 61 _ rfl _ rfl _ _ _ _ nG2 bQ rfl (a7 _) ?_))
 refine c3.mono ?_;rintro e w5 ⟨rfl,b5⟩;have h5:=h4.below b5;have c4:=u0 w0 gm lv day k S (F f g) w5 h5 (by omega);clear c3 h4 b5 h5 nC nD nG2 hwC hwD;go_wp2_with fail;refine c4.mono ?_;rintro e w6 ⟨rfl,h6,_⟩;have HN:=aY h6;clear c4 h6;go_wp2_with fail;exact⟨rfl,_,eJ rfl _ _ _,rfl,HN.o⟩
section
theorem O8 (l:List (Int×Int)):spM l=inl l:=rfl
abbrev StO (w0:World)(gm:Nat)(lv:Value)(day op a b t:Int)(sv:Value)(k:Nat)(W:World)(k':Int)(S:List M)(c:Int):Prop:=Calls prog 217 #[ab gm 0,.agg #[ag op,ag a,ag b,ag t,sv],ag (k:Int)] W fun e W'=>e= .returned (ag k')/\VSt w0 gm lv day S c W'
section
variable (w0:World) (gm:Nat) (lv:Value) (day c:Int) (S:List M) (a b t:Int) (sv:Value) (k:Nat) (W:World)
theorem r8 (op:Int): ∃wX,W.alloc (.cells #[ag op,ag a,ag b,ag t,sv] 234)=wX/\ao W wX/\wX.heap[W.heap.size]? =ah #[ag op,ag a,ag b,ag t,sv] 234/\wX.cell? (ae W.heap.size 0)=some (ag op)/\wX.cell? (ae W.heap.size 1)=some (ag a)/\wX.cell? (ae W.heap.size 3)=some (ag t)/\wX.cell? (ae W.heap.size 4)=some sv:=
 have n:=aB W (.cells #[ag op,ag a,ag b,ag t,sv] 234)
 ⟨_,rfl,am _ _,n,ak 0 n,ak 1 n,ak 3 n,ak 4 n⟩
theorem CM {k:Nat}(h:k<=2000):(0:Int)<=(k:Int)/\(k:Int)<=2000:=by omega
theorem O9 (sp:List (Int×Int))(h:VSt w0 gm lv day S c W)(hr:ny W sv sp)(hk:k<=2000)(hS:S.length<=900):StO w0 gm lv day 1 a b t sv k W ((k+1:Nat):Int) (S++[spM sp]) c:=by
 obtain⟨wX,hwX,bX,nX,z0,z1,z3,z4⟩:=r8 a b t sv W 1;obtain⟨hk0,hk1⟩:=CM hk;have hX:=h.below bX;have c1:=ER sv sp wX (hr.later bX);rw[<-O8]at c1;clear h hr bX;go_enter func217,ntmps217;go_wp2_with fail;refine c1.mono ?_;rintro e w1 ⟨rfl,b1⟩;have h1:=hX.below b1;have c2:=u0 w0 gm lv day c S (spM sp) w1 h1 (by omega);clear c1 hX b1 h1 z0 z1 z3 z4 nX hwX;go_wp2_with fail;refine c2.mono ?_;rintro e w2 ⟨rfl,h2,_⟩;have HN:=aY h2;clear c2 h2;go_wp2_with fail;go_ret;exact⟨by go_num,HN.o⟩
theorem CN (f g:M)(op:Int)(o:M->M->M)(ho:op=2/\o=unM\/op=3/\o=dfM\/op=4/\o=boM)(h:VSt w0 gm lv day (S++[f,g]) c W)(hk:k<=2000)(hS:S.length<=900):StO w0 gm lv day op a b t sv k W ((k+1:Nat):Int) (S++[o f g]) c:=by
 obtain⟨wX,hwX,bX,nX,z0,z1,z3,z4⟩:=r8 a b t sv W op;obtain⟨hk0,hk1⟩:=CM hk;have hX:=h.below bX;rcases ho with⟨rfl,rfl⟩|⟨rfl,rfl⟩|⟨rfl,rfl⟩;case' inl=>have c1:=wo 83 unM (fun _ _=>by simp[go_sem]) (fun f g W=>Ae f g W) w0 gm lv day c S f g wX hX (by omega)
 case' inr.inl=>have c1:=wo 84 dfM (fun _ _=>by simp[go_sem]) (fun f g W=>qy f g W) w0 gm lv day c S f g wX hX (by omega)
 case' inr.inr=>have c1:=wo 85 boM (fun _ _=>by simp[go_sem]) (fun f g W=>BZ f g W) w0 gm lv day c S f g wX hX (by omega)
 all_goals
  clear h bX hX nX
  go_enter func217,ntmps217
  go_wp2_with fail
  refine c1.mono ?_
  rintro e w1 ⟨rfl,h1⟩
  have HN:=aY h1
  clear c1 h1 z0 z1 z3 z4 hwX
  go_wp2_with fail
  go_ret
  exact⟨by go_num,HN.o⟩
structure ShJ (w0:World)(gm:Nat)(lv:Value)(day c:Int)(S:List M)(g g':M)(gx:Nat)(X:Array Value)(M:Nat->Bool)(W:World):Prop where
 box:W.heap[gx]? =ah X 234
 ahead:M 2=false->VSt w0 gm lv day (S++[g]) c W
 mid:M 2=true->M 6=false->VSt w0 gm lv day S c W
 fin:M 6=true->VSt w0 gm lv day (S++[g']) c W
theorem Pa (g:M)(h:VSt w0 gm lv day (S++[g]) c W)(hk:k<=2000)(hS:S.length<=900)(ha0: -1439<=a)(ha1:a<=1439):StO w0 gm lv day 5 a b t sv k W ((k+1:Nat):Int) (S++[shM g a]) c:=by
 obtain⟨wX,hwX,bX,nX,z0,z1,z3,z4⟩:=r8 a b t sv W 5;obtain⟨hk0,hk1⟩:=CM hk;have hX:=h.below bX;have HSH:RJ (∀W,Calls prog 86 #[.agg (mv g),ag a] W fun e w'=>e= .returned (.agg (mv (shM g a)))/\ao W w'):=fun W=>xu g a W (by omega) (by omega)
 have hgx:W.heap.size≠gm:=fun e=>by
  obtain⟨_,_,_,q,_⟩:=h;have:=aG q;omega
 clear h bX z1 z3 z4;go_enter func217,ntmps217;go_wp2_with fail;obtain⟨gx,hgx'⟩: ∃b,W.heap.size=b:=⟨_,rfl⟩
 rw[hgx']at nX hgx;simp only[hgx'];clear hgx' hwX z0;refine dz (fun M _=>ShJ w0 gm lv day c S g (shM g a) gx #[ag 5,ag a,ag b,ag t,sv] M) [kn 30 (ab gm 0),kn 31 (ab gm 0),dk 32 (.agg (mv g)),kn 33 (ab gx 1),kn 34 (ag a),dk 35 (.agg (mv (shM g a))),dk 36 (.tuple #[])] (fun _=>⟨nX,fun _=>hX.below (aH _ _).drew,(fun h=>by cases h),(fun h=>by cases h)⟩) (fun _ _ _ _ hb h=>⟨ai hb h.box,fun e=>(h.ahead e).below hb,fun e e'=>(h.mid e e').below hb,fun e=>(h.fin e).below hb⟩) (by kernel_rfl) (fun M φ W2 hJ hcl F l hl hF=> ?_) (fun M φ W5 hM hJ=> ?_)
 ·simp only[kn,dk,dX,aT,aZ,Act.put,aC,aK,aJ]at hl;subst hl;simp only[dm,Nat.reduceAdd]at hF;have zz:=ak 1 hJ.box;dsimp only[kn,dk,dJ,eZ,eh,Act.put];and_intros;all_goals first|exact trivial|intro hw hn hm K hK
  all_goals try (go_simp;with_reducible exact hK _ _ ⟨rfl,aH _ _⟩)
  ·go_simp;refine(sM w0 gm lv day c S g W2 (hJ.ahead hm) (by omega)).mono ?_;rintro e' W' ⟨rfl,hM,hfr⟩
   have n6:M 6=false:=by
    cases h:M 6 with
    |false=>rfl
    |true=>rw[hcl 5 _ rfl (hcl 6 _ rfl h ⟨5,.data⟩ (by simp) rfl rfl) ⟨2,.data⟩ (by simp) rfl rfl]at hm;cases hm
   exact hK _ _ ⟨rfl,(hfr _ (aG hJ.box) hgx).trans hJ.box,(fun e=>by simp at e),fun _ _=>hM,(fun e=>by simp[n6]at e)⟩
  ·go_simp;refine(HSH.o W2).mono ?_;rintro e' W' ⟨rfl,hb'⟩;exact hK _ _ ⟨rfl,ai hb' hJ.box,fun e=>(hJ.ahead (by simpa using e)).below hb',fun e e'=>(hJ.mid (by simpa using e) (by simpa using e')).below hb',fun e=>(hJ.fin (by simpa using e)).below hb'⟩
  ·have q2:=hcl 5 _ rfl (hw ⟨5,.data⟩ (by simp) rfl rfl) ⟨2,.data⟩ (by simp) rfl rfl;go_simp;refine(u0 w0 gm lv day c S (shM g a) W2 (hJ.mid q2 hm) (by omega)).mono ?_;rintro e' W' ⟨rfl,hM,hfr⟩;exact hK _ _ ⟨rfl,hfr _ _ _ hJ.box (by decide) hgx,(fun e=>by simp[q2]at e),(fun _ e=>by simp at e),fun _=>hM⟩
 ·have HN:=aY (hJ.fin (hM 6 (by decide) rfl));simp only[kn,dk,ef,aT,aZ,Act.put,aC,aK,aJ];clear hM hJ HSH hX nX;go_wp2_with fail;go_ret;exact⟨by go_num,HN.o⟩
theorem Pb (S':List M)(c':Int)(h:VSt w0 gm lv day S c W)(hk:k<=2000)(hrun: ∀W,VSt w0 gm lv day S c W->Calls prog 202 #[ab gm 0,ag a] W fun e W'=>e= .returned (.tuple #[])/\VSt w0 gm lv day S' c' W'):StO w0 gm lv day 8 a b t sv k W ((k+1:Nat):Int) S' c':=by
 obtain⟨wX,hwX,bX,nX,z0,z1,z3,z4⟩:=r8 a b t sv W 8;obtain⟨hk0,hk1⟩:=CM hk;have c1:=hrun wX (h.below bX);clear h bX nX hrun;go_enter func217,ntmps217;go_wp2_with fail;refine c1.mono ?_;rintro e w1 ⟨rfl,h1⟩;have HN:=aY h1;clear c1 h1 z0 z1 z3 z4 hwX;go_wp2_with fail;go_ret;exact⟨by go_num,HN.o⟩
theorem I3 (op:Int)(q:Bool)(ho:op=6/\q=eD day a\/op=7/\q=(decide (a<=day)&&decide (day<=b)))(ps:Option Addr)(ls cs:Nat)(h:VSt w0 gm lv day S c W)(hk:k<=2000)(hS:S.length<=900)(d0:0<=day)(d1:day<146097):StO w0 gm lv day op a b t (.slice ps ls cs) k W (if q=true then((k+1:Nat):Int) else t) (if q=true then S else S++[noM]) c:=by
 obtain⟨wX,hwX,bX,nX,z0,z1,z3,z4⟩:=r8 a b t (.slice ps ls cs) W op;obtain⟨hk0,hk1⟩:=CM hk;have hX:=h.below bX
 have hgx:W.heap.size≠gm:=fun e=>by
  obtain⟨_,_,_,q,_⟩:=h;have:=aG q;omega
 have hz:=eC;rcases ho with⟨rfl,hq⟩|⟨rfl,hq⟩;case' inl=>have c1:=Lg w0 gm lv day c S a b t (.slice ps ls cs) wX hX d0 d1
 case' inr=>have c1:=Lh w0 gm lv day c S a b t (.slice ps ls cs) wX hX
 all_goals
  rw[<-hq]at c1
  clear h bX d0 d1 hq
  go_enter func217,ntmps217
  go_wp2_with(refine aR rfl 234 _ rfl _ rfl _ _ _ _ nX rX rfl (by kernel_rfl) ?_)
  refine c1.mono ?_
  rintro e w1 ⟨rfl,b1⟩
  have h1:=hX.below b1
  have nX1:=ai b1 nX
  have c2:=u0 w0 gm lv day c S noM w1 h1 (by omega)
  unfold noM at c2
  have HN:=aY h1
  clear c1 hX b1 h1 z0 z1 z3 z4 hwX nX
  cases q with
  |true=>
   simp only
   go_wp2_with fail
   go_ret
   exact⟨by go_num,HN.o⟩
  |false=>
   simp only
   go_wp2_with fail
   refine c2.mono ?_
   rintro e w2 ⟨rfl,h2,hfr⟩
   have nX2:=hfr _ _ _ nX1 (by decide) hgx
   have z3:=ak 3 nX2
   have HN:=aY h2
   clear c2 h2 hfr nX1 nX2
   go_wp2_with fail
   go_ret
   exact⟨rfl,HN.o⟩
end
end
theorem gX {w0:World}{gm:Nat}{lv:Value}{day c c':Int}{S S':List M}{W:World}(h:VSt w0 gm lv day S c W)(e1:S=S')(e2:c=c'):VSt w0 gm lv day S' c' W:=by
 subst e1 e2;exact h
theorem Li {ev:Nat->M×Nat}{x:In}{sv:Value}{s:Vx.St}{B:List M}{c:Int}{W w0:World}{gm:Nat}{lv:Value}{day:Int}{n r:Nat}(h:VSt w0 gm lv day (B++s.S) c W)(hr:ny W sv x.sp)(hi:fK x s.k n r=0)(hk:s.k<=2000)(hS:B.length+s.S.length<=900)(htk:tk x<=s.S.length)
  (d0:0<=day) (d1:day<146097)
  (hrun:x.op=8-> ∀W,VSt w0 gm lv day (B++s.S) c W->Calls prog 202 #[ab gm 0,ag x.a] W fun e W'=>e= .returned (.tuple #[])/\VSt w0 gm lv day (B++s.S++[(ev x.a.toNat).1]) (c+(ev x.a.toNat).2) W'):
  Calls prog 217 #[ab gm 0,.agg #[ag x.op,ag x.a,ag x.b,ag x.to,sv],ag (s.k:Int)] W fun e W'=>e= .returned (ag ((dE (eD day) day ev x s).k:Int))/\VSt w0 gm lv day (B++(dE (eD day) day ev x s).S) (c+(((dE (eD day) day ev x s).n:Int)-(s.n+1))) W':=by
 have hl:(B++s.S).length<=900:=by rw[aO];exact hS
 rcases tS hi with ho|ho|ho|ho|ho|ho|ho
 ·have e:dE (eD day) day ev x s=⟨s.k+1,s.S++[spM x.sp],s.n+1⟩:=by simp[dE,ho]
  rw[e,ho];refine(O9 w0 gm lv day c (B++s.S) x.a x.b x.to sv s.k W x.sp h hr hk hl).mono ?_;rintro e' W' ⟨rfl,h'⟩;exact⟨rfl,gX h' (by simp) (by simp)⟩
 ·have e:dE (eD day) day ev x s=⟨s.k+1,np unM s.S,s.n+1⟩:=by simp[dE,ho]
  have h2:tk x=2:=(by simp[tk,ho]);obtain⟨T,f,g,hT⟩:=uV (S:=s.S) (by omega);rw[e,ho];dsimp only;rw[hT]at h hl⊢;rw[mc];refine(CN w0 gm lv day c (B++T) x.a x.b x.to sv s.k W f g 2 unM (.inl ⟨rfl,rfl⟩) (gX h (by simp) rfl) hk (by simp at hl⊢;omega)).mono ?_;rintro e' W' ⟨rfl,h'⟩;exact⟨rfl,gX h' (by simp) (by simp)⟩
 ·have e:dE (eD day) day ev x s=⟨s.k+1,np dfM s.S,s.n+1⟩:=by simp[dE,ho]
  have h2:tk x=2:=(by simp[tk,ho]);obtain⟨T,f,g,hT⟩:=uV (S:=s.S) (by omega);rw[e,ho];dsimp only;rw[hT]at h hl⊢;rw[mc];refine(CN w0 gm lv day c (B++T) x.a x.b x.to sv s.k W f g 3 dfM (.inr (.inl ⟨rfl,rfl⟩)) (gX h (by simp) rfl) hk (by simp at hl⊢;omega)).mono ?_;rintro e' W' ⟨rfl,h'⟩;exact⟨rfl,gX h' (by simp) (by simp)⟩
 ·have e:dE (eD day) day ev x s=⟨s.k+1,np boM s.S,s.n+1⟩:=by simp[dE,ho]
  have h2:tk x=2:=(by simp[tk,ho]);obtain⟨T,f,g,hT⟩:=uV (S:=s.S) (by omega);rw[e,ho];dsimp only;rw[hT]at h hl⊢;rw[mc];refine(CN w0 gm lv day c (B++T) x.a x.b x.to sv s.k W f g 4 boM (.inr (.inr ⟨rfl,rfl⟩)) (gX h (by simp) rfl) hk (by simp at hl⊢;omega)).mono ?_;rintro e' W' ⟨rfl,h'⟩;exact⟨rfl,gX h' (by simp) (by simp)⟩
 ·have e:dE (eD day) day ev x s=⟨s.k+1,zk (fun f=>shM f x.a) s.S,s.n+1⟩:=by simp[dE,ho]
  have h2:tk x=1:=(by simp[tk,ho])
  have hrng: -1439<=x.a/\x.a<=1439:=by
   simp only[fK,ho]at hi;simp only[show¬((5:Int)=2\/(5:Int)=3\/(5:Int)=4) by omega,show¬(5:Int)=1 by omega,if_false,if_true]at hi;by_cases hh:x.a≠0/\ -1439<=x.a/\x.a<=1439
   ·exact hh.2
   ·rw[aw hh]at hi;simp at hi
  obtain⟨T,g,hT⟩:=xS (S:=s.S) (by omega);rw[e,ho];dsimp only;rw[hT]at h hl⊢;rw[zl];refine(Pa w0 gm lv day c (B++T) x.a x.b x.to sv s.k W g (gX h (by simp) rfl) hk (by simp at hl⊢;omega) hrng.1 hrng.2).mono ?_;rintro e' W' ⟨rfl,h'⟩;exact⟨rfl,gX h' (by simp) (by simp)⟩
 ·have e:dE (eD day) day ev x s=⟨s.k+1,s.S++[(ev x.a.toNat).1],s.n+1+(ev x.a.toNat).2⟩:=by simp[dE,ho]
  rw[e];have hr':=hrun ho;rw[ho];refine(Pb w0 gm lv day c (B++s.S) x.a x.b x.to sv s.k W (B++s.S++[(ev x.a.toNat).1]) (c+(ev x.a.toNat).2) h hk hr').mono ?_;rintro e' W' ⟨rfl,h'⟩;exact⟨rfl,gX h' (by simp) (by push_cast;omega)⟩
 ·have hto:=rW hi ho;obtain⟨ps,cs,rfl,_,_⟩:=hr.form
  have e:dE (eD day) day ev x s=if onD (eD day) day x=true then⟨s.k+1,s.S,s.n+1⟩ else⟨x.to.toNat,s.S++[noM],s.n+1⟩:=by
   unfold isG at ho;unfold dE;rw[aw (by omega),aw (by omega),aw (by omega),aw (by omega),aw (by omega),aw (by omega)]
  rw[e];have hto2:((x.to.toNat:Nat):Int)=x.to:=(by omega);rcases ho with ho|ho
  ·have e6:onD (eD day) day x=eD day x.a:=(by simp[onD,ho]);rw[ho,e6];refine(I3 w0 gm lv day c (B++s.S) x.a x.b x.to s.k W 6 _ (.inl ⟨rfl,rfl⟩) ps x.sp.length cs h hk hl d0 d1).mono ?_;rintro e' W' ⟨rfl,h'⟩;cases hq:eD day x.a with
   |true=>
    rw[hq]at h';exact⟨rfl,gX h' rfl (by simp)⟩
   |false=>
    rw[hq]at h';exact⟨congrArg (fun q=>Ending.returned (ag q)) hto2.symm,gX h' (by simp) (by simp)⟩
  ·have e7:onD (eD day) day x=(decide (x.a<=day)&&decide (day<=x.b)):=by
    unfold onD;rw[aw (by omega)]
   rw[ho,e7];refine(I3 w0 gm lv day c (B++s.S) x.a x.b x.to s.k W 7 _ (.inr ⟨rfl,rfl⟩) ps x.sp.length cs h hk hl d0 d1).mono ?_;rintro e' W' ⟨rfl,h'⟩;cases hq:(decide (x.a<=day)&&decide (day<=x.b)) with
   |true=>
    rw[hq]at h';exact⟨rfl,gX h' rfl (by simp)⟩
   |false=>
    rw[hq]at h';exact⟨congrArg (fun q=>Ending.returned (ag q)) hto2.symm,gX h' (by simp) (by simp)⟩
theorem VSt.count {w0 W:World}{gm:Nat}{lv:Value}{day k:Int}{S:List M}(h:VSt w0 gm lv day S k W)(k':Int):VSt w0 gm lv day S k' (W.setCell ⟨gm,3,none⟩ (ag k')):=by
 obtain⟨h1,h2,sv,h3,h4⟩:=h;have hne:=kN h4 h3 (by decide);refine⟨h1.setCell (p:=⟨gm,3,none⟩) h2 _,h2,sv,aW W gm 3 _ _ _ h3,?_⟩;exact h4.kept (row:=some gm) ⟨rfl,rfl,rfl,by simp,fun q hq hr=>aM W ⟨gm,3,none⟩ q _ fun e=>hr (congrArg some e)⟩ (.inr fun e=>hne e.symm)
def Pc (wk:Int->Bool)(day:Int)(ev:Nat->M×Nat)(cs:List Cd)(l:List In)(R:Vx.St)(w0:World)(gm:Nat)(lv:Value)(B:List M)(c:Int)(t:Value)(wr:World):Prop:= ∃s:Vx.St,t=ag (s.k:Int)/\nt cs l s/\runV wk day ev l s=R/\VSt w0 gm lv day (B++s.S) (c+s.n) wr
theorem EW (cs:List Cd)(lv:Value)(w0:World)(gm:Nat)(day:Int)(hR:my cs)(hin:InV w0 lv cs)(d0:0<=day)(d1:day<146097): ∀(d r:Nat) (B:List M) (c:Int) (W:World),r<cs.length->rk (gg cs) cs.length r<d->VSt w0 gm lv day B c W->(B.length:Int)+(cs.getD r cd0).high<=800->0<=c->c+(cs.getD r cd0).steps<=1000000->
  Calls prog 202 #[ab gm 0,ag (r:Int)] W fun e W'=>e= .returned (.tuple #[])/\VSt w0 gm lv day (B++[(evV (eD day) day cs d r).1]) (c+(evV (eD day) day cs d r).2) W'
 |0,_,_,_,_,_,hd,_,_,_,_=>by omega
 |d+1,r,B,c,W,hr,hd,hM,hB,hc0,hc1=>by
  have ih:=EW cs lv w0 gm day hR hin d0 d1 d;obtain⟨u,hu⟩: ∃u,cs[r]? =some u:=⟨cs[r],ay hr⟩
  rw[i8 hu]at hB hc1;have hal:=jr (hR.alone r u hu);have hfit:=hR.fit r u hu;obtain⟨hr1,hr2,hr3,hr4,hr5,hr6⟩:=hR.run (wk:=eD day) (day:=day) (d+1) r u hu hd;rw[Nat.add_sub_cancel]at hr3 hr4 hr5 hr6;have hup:Up (eD day) day (evV (eD day) day cs d) u.ins:=F9 hal.2.2;obtain⟨p,cp,elv,hlen,hcc⟩:=hin.form;obtain⟨sv,hins,g,o,rfl,e0,_,_⟩:=hcc r u hu;obtain⟨pu,cu,rfl,hlu,hcu⟩:=hins.form;have HCU:=aY hcu;have HIH:=aY ih;have HAL:=aY hal.2.2;have HFIT:=aY hfit;have HUP:=aY hup;have HRT:=aY hR;have HU:=aY hu;have HST:RJ (∀i,0<=(cs.getD i cd0).steps):=hR.steps0
  have HEV:RJ (∀(j:Nat) (x:In),u.ins[j]? =some x->x.op=8->((evV (eD day) day cs d x.a.toNat).2:Int)<=(cs.getD x.a.toNat cd0).steps):=fun j x hx ho=>by
   obtain⟨q1,_,q3⟩:=hR.call hu hx ho;have hg:cs[x.a.toNat]? =some cs[x.a.toNat]:=ay q1;rw[i8 hg];exact(hR.run (wk:=eD day) (day:=day) d _ _ hg (by omega)).2.1
  have hln:u.ins.length<=2000:=hal.1.2;have hstp:u.steps<=20000:=hal.2.1.2.2;have f0:=aj hM.bel e0;have hi0:(0:Int)<=(r:Int):=(by omega);have hi1:(r:Int)<(cs.length:Int):=(by omega);have hul:(0:Int)<=(u.ins.length:Int):=(by omega)
  have nM: ∃sv,W.heap[gm]? =ah #[lv,ag day,sv,ag c] 256:=by
   obtain⟨_,_,s1,q,_⟩:=hM;exact⟨s1,q⟩
  obtain⟨s1,nM⟩:=nM;rw[elv]at nM;have zM:=ak 0 nM;have HM:=aY hM;have HR5:=aY hr5;have HR6:=aY hr6;clear hal hfit hr1 hr2 hr3 hr4 hr5 hr6 hup hcc hins hcu ih hR hu hM nM hin elv;go_enter func202,ntmps202;go_wp2_with fail;have hM:=HM.o;clear HM zM f0 e0;go_loopw [5] (fun t wr=>Pc (eD day) day (evV (eD day) day cs d) cs u.ins (runV (eD day) day (evV (eD day) day cs d) u.ins ⟨0,[],0⟩) w0 gm lv B c t wr) (fun t _=>u.ins.length-(intOf t).toNat);case atStart=>exact⟨⟨0,[],0⟩,rfl,nt.nil,rfl,gX hM (by simp) (by simp)⟩
  case round=>
   obtain⟨s,rfl,hI,hrv,hMs⟩:=hrel;clear hM;have hk0:(0:Int)<=(s.k:Int):=(by omega);have hsle:=hI.le;have hsst:=hI.st;have hshi:=hI.hi;by_cases hlt:s.k<u.ins.length
   ·have hlt':(s.k:Int)<(u.ins.length:Int):=(by omega);obtain⟨x,hx⟩: ∃x,u.ins[s.k]? =some x:=⟨u.ins[s.k],ay hlt⟩
    obtain⟨sk,hrow,g2,o2,hpe,k0,k1,k2,k3,k4⟩:=HCU.o s.k _ hx;subst hpe;have hie:=HAL.o _ _ hx;have hnext:=hI.step (wk:=eD day) (day:=day) (ev:=evV (eD day) day cs d) HFIT.o.well hx hie HST.o (HEV.o _ _ hx);have hrs:=lQ HUP.o hx
    have hm1:stS cs u.ins s.k<=u.steps:=by
     rw[<-HFIT.o.steps];exact wj HST.o (by omega)
    have hm2:hAt u.ins s.k<=u.high:=by
     rw[<-HFIT.o.high];exact Nl (by omega)
    have htk:=HFIT.o.well.tk _ _ hx;have hM2:=hMs.count (c+s.n+1);obtain⟨_,_,s2,nM2,_⟩:=hMs;have z3:=ak 3 nM2;have y3:=bl _ _ 3 _ _ nM2;have q0:=aj hM2.bel k0;have q1:=aj hM2.bel k1;have q2:=aj hM2.bel k2;have q3:=aj hM2.bel k3;have q4:=aj hM2.bel k4
    have cS:=Li (ev:=evV (eD day) day cs d) (x:=x) (sv:=sk) (s:=s) (B:=B) (r:=cs.length) hM2 (hrow.later hM2.bel) hie (by omega) (by omega) (by omega) d0 d1 (fun ho W' hW'=>by
     obtain⟨v1,v2,v3⟩:=HRT.o.call HU.o hx ho;have h8:=jR (cs:=cs) hx;rw[ax ho]at h8
     have h9:stS cs u.ins (s.k+1)<=u.steps:=by
      rw[<-HFIT.o.steps];exact wj HST.o (by omega)
     have h10:=La (cs:=cs) hx hlt ho;rw[HFIT.o.high]at h10;have:=HIH.o x.a.toNat (B++s.S) (c+s.n+1) W' v1 (by omega) hW' (by rw[aO];push_cast;omega) (by omega) (by omega);rw[v2]at this;exact this)
    have HN:RJ (∀W',VSt w0 gm lv day (B++(dE (eD day) day (evV (eD day) day cs d) x s).S) (c+s.n+1+(((dE (eD day) day (evV (eD day) day cs d) x s).n:Int)-(s.n+1))) W'->Pc (eD day) day (evV (eD day) day cs d) cs u.ins (runV (eD day) day (evV (eD day) day cs d) u.ins ⟨0,[],0⟩) w0 gm lv B c (ag ((dE (eD day) day (evV (eD day) day cs d) x s).k:Int)) W'):=fun W' hW'=>⟨_,rfl,hnext.1,hrs.symm.trans hrv,gX hW' rfl (by omega)⟩
    have hgt:=hnext.2;have hc2:c+s.n+1<=2000000:=(by omega);have hc3:0<=c+s.n:=(by omega);obtain⟨k',hk'⟩: ∃q,(dE (eD day) day (evV (eD day) day cs d) x s).k=q:=⟨_,rfl⟩
    rw[hk']at cS HN hgt;generalize (dE (eD day) day (evV (eD day) day cs d) x s).S=S' at*;generalize (dE (eD day) day (evV (eD day) day cs d) x s).n=n' at*;clear hk' hnext hrs hI hrv hx hie htk hM2 nM2 HIH HRT HAL HFIT HUP HEV HST HU HCU HR5 HR6 hrow;generalize hwS:wr.setCell ⟨gm,3,none⟩ (ag (c+s.n+1))=wS at*;go_wp2_with fail;refine cS.mono ?_;rintro e w2 ⟨rfl,h2⟩;have HN2:=aY (HN.o _ h2);clear cS h2 HN;go_wp2_with fail;go_roundw;case rel=>exact HN2.o
    case measure=>simp[intOf];omega
   ·have hlt': ¬(s.k:Int)<(u.ins.length:Int):=(by omega);have hend:=wl (wk:=eD day) (day:=day) (ev:=evV (eD day) day cs d) (show s.k=u.ins.length by omega);have hs:s=runV (eD day) day (evV (eD day) day cs d) u.ins ⟨0,[],0⟩:=hend.symm.trans hrv
    have HN:RJ (VSt w0 gm lv day (B++[(evV (eD day) day cs (d+1) r).1]) (c+(evV (eD day) day cs (d+1) r).2) wr):=by
     show VSt _ _ _ _ _ _ _;rw[<-HR5.o,<-HR6.o,<-hs];exact hMs
    clear hMs hs hend hrv hI HIH HRT HAL HFIT HUP HEV HST HU HCU HR5 HR6;go_wp2_with fail;exact⟨rfl,_,eJ rfl _ _ _,rfl,HN.o⟩
end Go.Proofs.YtjkilacmkbmmbaaGreatDoor
