/- Texts of the proof. -/
import Derived.Test.YtjkilacmkbmmbaaGreatDoorPe14
set_option maxRecDepth 100000
set_option maxHeartbeats 8000000
namespace Go.Proofs.YtjkilacmkbmmbaaGreatDoor
open Go.Proofs.Tryz Go.RowKit Lx Vx Mx Msk
section
variable {all:List Tk} {E g:Nat} {v:Value} {w:World} {i n:Nat}
theorem wJ (h0:PS0 all E g v)(i:Nat):0<=numP (all.drop i)/\numP (all.drop i)<=999999:=by
 cases h:all.drop i with
 |nil=>simp[numP]
 |cons p r=>
  have hm:p∈all:=List.mem_of_mem_drop (h▸bc);exact h0.num p hm
def nO (all:List Tk)(i:Nat):Nat:=if isT fR (all.drop i) then i+1 else i
def vC (all:List Tk)(E g:Nat)(v:Value)(w:World)(n:Nat)(x:Except (Int×Nat) (Int×Nat))(e:Ending)(w':World):Prop:=
 match x with
 | .error (er,at_)=>e= .panicked (iS er at_)/\bm g w w'
 | .ok (m,j)=>e= .returned (ag m)/\PSt all E g v w' j n/\bm g w w'
def oK (all:List Tk)(E i:Nat):Except (Int×Nat) (Int×Nat):=
 if kindP (all.drop (nO all i))≠6 then .error (2,atP E (all.drop (nO all i)))
 else if 1440<=numP (all.drop (nO all i))\/numP (all.drop (nO all i))<1 then .error (3,atP E (all.drop (nO all i)))
 else .ok (if isT fR (all.drop i) then-numP (all.drop (nO all i)) else numP (all.drop (nO all i)),nO all i+1)
theorem vC.weak {x:Except (Int×Nat) (Int×Nat)}{e:Ending}{w0 w':World}(hk:bm g w0 w)(h:vC all E g v w n x e w'):vC all E g v w0 n x e w':=by
 unfold vC at h⊢;match x,h with
 | .error (er,at_),h=>exact⟨h.1,hk.trans h.2⟩
 | .ok (m,j),h=>exact⟨h.1,h.2.1,hk.trans h.2.2⟩
theorem wO (h0:PS0 all E g v)(sg:Int)(j:Nat)(hsg:sg=1\/sg= -1)(x:Except (Int×Nat) (Int×Nat))
  (hx:x=if kindP (all.drop j)≠6 then .error (2,atP E (all.drop j)) else if 1440<=numP (all.drop j)\/numP (all.drop j)<1 then .error (3,atP E (all.drop j)) else .ok (sg*numP (all.drop j),j+1))
  (c1:Calls prog 70 #[ab g 0,.string ⟨#[45]⟩] w fun e w'=>e= .returned (.bool (decide (sg= -1)))/\PSt all E g v w' j n/\bm g w w'):
  Calls prog 174 #[ab g 0] w (vC all E g v w n x):=by
 have hnb:=wJ h0 j;have cs:=fun(w1:World) (h1:PSt all E g v w1 j n)=>uu h0 h1 6;have cn:=fun(w1:World) (h1:PSt all E g v w1 j n)=>Bf h0 h1 6;have cf:=fun(w1:World) (h1:PSt all E g v w1 j n)=>kP h0 h1 3;have ct:=fun(w1:World) (h1:PSt all E g v w1 j n)=>pX h0 h1 6 1 (by decide);have cr:=fun(w1:World) (h1:PSt all E g v w1 j n)=>nN h0 h1 6 1;unfold jT at cs ct;generalize hat:atP E (all.drop j)=at_ at*;by_cases h6:kindP (all.drop j)=6
 ·have cs':=fun w1 h1=>cs w1 h1 h6;have ct':=fun w1 h1=>ct w1 h1 h6;have cr':=fun w1 h1=>cr w1 h1 h6;rw[aw (by simp[h6])]at hx;clear cn cs ct cr;by_cases hbig:1440<=numP (all.drop j)
  ·rw[ay (.inl hbig)]at hx;subst hx;generalize numP (all.drop j)=N at*;rcases hsg with rfl|rfl
   ·have e1:decide ((1:Int)= -1)=false:=(by decide);rw[e1]at c1;go_enter func174,ntmps174;go_wp2_with fail;refine c1.mono ?_;rintro e w1 ⟨rfl,h1,hk1⟩;go_wp2_with fail;refine(cs' _ h1).mono ?_;rintro e w2 ⟨rfl,h2,hb2⟩;go_wp2_with fail;refine(cf _ h2).mono ?_;rintro e w3 ⟨rfl,hb3⟩;exact⟨rfl,rfl,(hk1.trans (bm.of_below hb2)).trans (bm.of_below hb3)⟩
   ·have e1:decide ((-1:Int)= -1)=true:=(by decide);rw[e1]at c1;go_enter func174,ntmps174;go_wp2_with fail;refine c1.mono ?_;rintro e w1 ⟨rfl,h1,hk1⟩;go_wp2_with fail;refine(cs' _ h1).mono ?_;rintro e w2 ⟨rfl,h2,hb2⟩;go_wp2_with fail;refine(cf _ h2).mono ?_;rintro e w3 ⟨rfl,hb3⟩;exact⟨rfl,rfl,(hk1.trans (bm.of_below hb2)).trans (bm.of_below hb3)⟩
  ·have hbig': ¬(1440:Int)<=numP (all.drop j):=hbig;by_cases hlow:numP (all.drop j)<1
   ·rw[ay (.inr hlow)]at hx;have cr2:=fun w1 h1=>cr' w1 h1 hlow;subst hx;clear ct' cr' cf;generalize numP (all.drop j)=N at*;rcases hsg with rfl|rfl
    ·have e1:decide ((1:Int)= -1)=false:=(by decide);rw[e1]at c1;go_enter func174,ntmps174;go_wp2_with fail;refine c1.mono ?_;rintro e w1 ⟨rfl,h1,hk1⟩;go_wp2_with fail;refine(cs' _ h1).mono ?_;rintro e w2 ⟨rfl,h2,hb2⟩;go_wp2_with fail;refine(cr2 _ h2).mono ?_;rintro e w3 ⟨rfl,hk3⟩;exact⟨rfl,rfl,(hk1.trans (bm.of_below hb2)).trans hk3⟩
    ·have e1:decide ((-1:Int)= -1)=true:=(by decide);rw[e1]at c1;go_enter func174,ntmps174;go_wp2_with fail;refine c1.mono ?_;rintro e w1 ⟨rfl,h1,hk1⟩;go_wp2_with fail;refine(cs' _ h1).mono ?_;rintro e w2 ⟨rfl,h2,hb2⟩;go_wp2_with fail;refine(cr2 _ h2).mono ?_;rintro e w3 ⟨rfl,hk3⟩;exact⟨rfl,rfl,(hk1.trans (bm.of_below hb2)).trans hk3⟩
   ·rw[aw (by omega)]at hx;have ct2:=fun w1 h1=>ct' w1 h1 hlow;subst hx;clear ct' cr' cf hlow;generalize numP (all.drop j)=N at*;rcases hsg with rfl|rfl
    ·have e1:decide ((1:Int)= -1)=false:=(by decide);rw[e1]at c1;go_enter func174,ntmps174;go_wp2_with fail;refine c1.mono ?_;rintro e w1 ⟨rfl,h1,hk1⟩;go_wp2_with fail;refine(cs' _ h1).mono ?_;rintro e w2 ⟨rfl,h2,hb2⟩;go_wp2_with fail;refine(ct2 _ h2).mono ?_;rintro e w3 ⟨rfl,h3,hk3⟩;go_wp2_with fail;go_ret;refine⟨?_,h3,(hk1.trans (bm.of_below hb2)).trans hk3⟩;show Ending.returned (ag N)= .returned (ag (1*N));rw[Int.one_mul]
    ·have e1:decide ((-1:Int)= -1)=true:=(by decide);rw[e1]at c1;go_enter func174,ntmps174;go_wp2_with fail;refine c1.mono ?_;rintro e w1 ⟨rfl,h1,hk1⟩;go_wp2_with fail;refine(cs' _ h1).mono ?_;rintro e w2 ⟨rfl,h2,hb2⟩;go_wp2_with fail;refine(ct2 _ h2).mono ?_;rintro e w3 ⟨rfl,h3,hk3⟩;go_wp2_with fail;go_ret;refine⟨?_,h3,(hk1.trans (bm.of_below hb2)).trans hk3⟩;show Ending.returned (ag (-N))= .returned (ag (-1*N));rw[Int.neg_mul,Int.one_mul]
 ·rw[ay h6]at hx;have cn':=fun w1 h1=>cn w1 h1 h6;subst hx;clear cs ct cr cf cn;rcases hsg with rfl|rfl
  ·have e1:decide ((1:Int)= -1)=false:=(by decide);rw[e1]at c1;go_enter func174,ntmps174;go_wp2_with fail;refine c1.mono ?_;rintro e w1 ⟨rfl,h1,hk1⟩;go_wp2_with fail;refine(cn' _ h1).mono ?_;rintro e w2 ⟨rfl,hb2⟩;exact⟨rfl,rfl,hk1.trans (bm.of_below hb2)⟩
  ·have e1:decide ((-1:Int)= -1)=true:=(by decide);rw[e1]at c1;go_enter func174,ntmps174;go_wp2_with fail;refine c1.mono ?_;rintro e w1 ⟨rfl,h1,hk1⟩;go_wp2_with fail;refine(cn' _ h1).mono ?_;rintro e w2 ⟨rfl,hb2⟩;exact⟨rfl,rfl,hk1.trans (bm.of_below hb2)⟩
theorem Gt (h0:PS0 all E g v)(h:PSt all E g v w i n):Calls prog 174 #[ab g 0] w (vC all E g v w n (oK all E i)):=by
 cases hm:isT fR (all.drop i) with
 |true=>
  refine wO h0 (-1) (i+1) (.inr rfl) _ ?_ (fw h0 h fR (by decide) hm);unfold oK nO;rw[hm];simp only[if_true,Int.neg_mul,Int.one_mul]
 |false=>
  refine wO h0 1 i (.inl rfl) _ ?_ (dO h0 h fR hm);unfold oK nO;rw[hm];simp only[Bool.false_eq_true,if_false,Int.one_mul]
theorem pY (x:List UInt8)(j:Nat)(hj:j<7)(h:x=eJ.getD j []):dayBit x=2^j:=by
 subst h;match j,hj with
 |0,_=>rfl
 |1,_=>rfl
 |2,_=>rfl
 |3,_=>rfl
 |4,_=>rfl
 |5,_=>rfl
 |6,_=>rfl
theorem Js (x:List UInt8)(h: ∀j,j<7->x≠eJ.getD j []):dayBit x=0:=by
 unfold dayBit;rw[aw (h 0 (by omega)),aw (h 1 (by omega)),aw (h 2 (by omega)),aw (h 3 (by omega)),aw (h 4 (by omega)),aw (h 5 (by omega)),aw (h 6 (by omega))]
def kQ (all:List Tk)(E i:Nat):Except (Int×Nat) (Int×Nat):=if dayBit (textP (all.drop i))=0 then .error (2,atP E (all.drop i)) else .ok ((dayBit (textP (all.drop i)):Int),i+1)
theorem LL (w:World):(Instr.index 281 (.agg #[.string ⟨#[109,111,110]⟩,.string ⟨#[116,117,101]⟩,.string ⟨#[119,101,100]⟩,.string ⟨#[116,104,117]⟩,.string ⟨#[102,114,105]⟩,.string ⟨#[115,97,116]⟩,.string ⟨#[115,117,110]⟩]) (ag 0)).run prog w= .ok (.string ⟨#[109,111,110]⟩) w:=by
 unfold Instr.index;simp[go_sem]
theorem LM (w:World):(Instr.index 281 (.agg #[.string ⟨#[109,111,110]⟩,.string ⟨#[116,117,101]⟩,.string ⟨#[119,101,100]⟩,.string ⟨#[116,104,117]⟩,.string ⟨#[102,114,105]⟩,.string ⟨#[115,97,116]⟩,.string ⟨#[115,117,110]⟩]) (ag 1)).run prog w= .ok (.string ⟨#[116,117,101]⟩) w:=by
 unfold Instr.index;simp[go_sem]
theorem LN (w:World):(Instr.index 281 (.agg #[.string ⟨#[109,111,110]⟩,.string ⟨#[116,117,101]⟩,.string ⟨#[119,101,100]⟩,.string ⟨#[116,104,117]⟩,.string ⟨#[102,114,105]⟩,.string ⟨#[115,97,116]⟩,.string ⟨#[115,117,110]⟩]) (ag 2)).run prog w= .ok (.string ⟨#[119,101,100]⟩) w:=by
 unfold Instr.index;simp[go_sem]
theorem LO (w:World):(Instr.index 281 (.agg #[.string ⟨#[109,111,110]⟩,.string ⟨#[116,117,101]⟩,.string ⟨#[119,101,100]⟩,.string ⟨#[116,104,117]⟩,.string ⟨#[102,114,105]⟩,.string ⟨#[115,97,116]⟩,.string ⟨#[115,117,110]⟩]) (ag 3)).run prog w= .ok (.string ⟨#[116,104,117]⟩) w:=by
 unfold Instr.index;simp[go_sem]
theorem LP (w:World):(Instr.index 281 (.agg #[.string ⟨#[109,111,110]⟩,.string ⟨#[116,117,101]⟩,.string ⟨#[119,101,100]⟩,.string ⟨#[116,104,117]⟩,.string ⟨#[102,114,105]⟩,.string ⟨#[115,97,116]⟩,.string ⟨#[115,117,110]⟩]) (ag 4)).run prog w= .ok (.string ⟨#[102,114,105]⟩) w:=by
 unfold Instr.index;simp[go_sem]
theorem LQ (w:World):(Instr.index 281 (.agg #[.string ⟨#[109,111,110]⟩,.string ⟨#[116,117,101]⟩,.string ⟨#[119,101,100]⟩,.string ⟨#[116,104,117]⟩,.string ⟨#[102,114,105]⟩,.string ⟨#[115,97,116]⟩,.string ⟨#[115,117,110]⟩]) (ag 5)).run prog w= .ok (.string ⟨#[115,97,116]⟩) w:=by
 unfold Instr.index;simp[go_sem]
theorem LR (w:World):(Instr.index 281 (.agg #[.string ⟨#[109,111,110]⟩,.string ⟨#[116,117,101]⟩,.string ⟨#[119,101,100]⟩,.string ⟨#[116,104,117]⟩,.string ⟨#[102,114,105]⟩,.string ⟨#[115,97,116]⟩,.string ⟨#[115,117,110]⟩]) (ag 6)).run prog w= .ok (.string ⟨#[115,117,110]⟩) w:=by
 unfold Instr.index;simp[go_sem]
attribute [local go_sem] LL LM LN LO LP LQ LR
theorem Dy (h0:PS0 all E g v)(h:PSt all E g v w i n):Calls prog 206 #[ab g 0] w (vC all E g v w n (kQ all E i)):=by
 have t0:=h.tab 0 (by omega);have t1:=h.tab 1 (by omega);have t2:=h.tab 2 (by omega);have t3:=h.tab 3 (by omega);have t4:=h.tab 4 (by omega);have t5:=h.tab 5 (by omega);have t6:=h.tab 6 (by omega);simp only[eJ,List.getD_cons_zero,List.getD_cons_succ]at t0 t1 t2 t3 t4 t5 t6;go_enter func206,ntmps206;go_wp2_with fail;clear t0 t1 t2 t3 t4 t5 t6;go_loopw [3,4,6] (fun _ _ q wr=> ∃j:Nat,q=ag (j:Int)/\j<=7/\PSt all E g v wr i n/\bm g w wr/\ ∀k,k<j->textP (all.drop i)≠eJ.getD k []) (fun _ _ q _=>7-(intOf q).toNat);case atStart=>exact⟨0,rfl,by omega,h,bm.refl _ _,fun k hk=>by omega⟩
 case round=>
  obtain⟨j,rfl,hj,hst,hkp,hall⟩:=hrel;clear h;have HA:P3 (∀k,k<j->textP (all.drop i)≠eJ.getD k []):=hall;clear hall;by_cases hlt:j<7
  ·have hj7:j=0\/j=1\/j=2\/j=3\/j=4\/j=5\/j=6:=(by omega);rcases hj7 with rfl|rfl|rfl|rfl|rfl|rfl|rfl
   ·by_cases hT:isT (eJ.getD 0 []) (all.drop i)=true
    ·have HD:P3 (kQ all E i= .ok (((1:Nat):Int),i+1)):=by
      have hb:=pY (textP (all.drop i)) 0 (by omega) (by simpa[isT] using hT);show _=_;unfold kQ;rw[hb];rfl
     clear HA;go_wp2_with fail;refine(fw h0 hst _ (by decide) hT).mono ?_;rintro e w1 ⟨rfl,h1,hk1⟩;go_wp2_with fail;go_ret;rw[HD.o];exact⟨rfl,h1,hkp.trans hk1⟩
    ·have hT':isT (eJ.getD 0 []) (all.drop i)=false:=(by simpa using hT)
     have HN:P3 (∀k,k<1->textP (all.drop i)≠eJ.getD k []):=fun k hk=>by
      by_cases q:k=0
      ·subst q;simpa[isT] using hT
      ·exact HA.o k (by omega)
     clear HA hT;go_wp2_with fail;refine(dO h0 hst _ hT').mono ?_;rintro e w1 ⟨rfl,h1,hk1⟩;go_wp2_with fail;go_roundw;case rel=>exact⟨1,rfl,by omega,h1,hkp.trans hk1,HN.o⟩
     case measure=>simp[intOf]
   ·by_cases hT:isT (eJ.getD 1 []) (all.drop i)=true
    ·have HD:P3 (kQ all E i= .ok (((2:Nat):Int),i+1)):=by
      have hb:=pY (textP (all.drop i)) 1 (by omega) (by simpa[isT] using hT);show _=_;unfold kQ;rw[hb];rfl
     clear HA;go_wp2_with fail;refine(fw h0 hst _ (by decide) hT).mono ?_;rintro e w1 ⟨rfl,h1,hk1⟩;go_wp2_with fail;go_ret;rw[HD.o];exact⟨rfl,h1,hkp.trans hk1⟩
    ·have hT':isT (eJ.getD 1 []) (all.drop i)=false:=(by simpa using hT)
     have HN:P3 (∀k,k<2->textP (all.drop i)≠eJ.getD k []):=fun k hk=>by
      by_cases q:k=1
      ·subst q;simpa[isT] using hT
      ·exact HA.o k (by omega)
     clear HA hT;go_wp2_with fail;refine(dO h0 hst _ hT').mono ?_;rintro e w1 ⟨rfl,h1,hk1⟩;go_wp2_with fail;go_roundw;case rel=>exact⟨2,rfl,by omega,h1,hkp.trans hk1,HN.o⟩
     case measure=>simp[intOf]
   ·by_cases hT:isT (eJ.getD 2 []) (all.drop i)=true
    ·have HD:P3 (kQ all E i= .ok (((4:Nat):Int),i+1)):=by
      have hb:=pY (textP (all.drop i)) 2 (by omega) (by simpa[isT] using hT);show _=_;unfold kQ;rw[hb];rfl
     clear HA;go_wp2_with fail;refine(fw h0 hst _ (by decide) hT).mono ?_;rintro e w1 ⟨rfl,h1,hk1⟩;go_wp2_with fail;go_ret;rw[HD.o];exact⟨rfl,h1,hkp.trans hk1⟩
    ·have hT':isT (eJ.getD 2 []) (all.drop i)=false:=(by simpa using hT)
     have HN:P3 (∀k,k<3->textP (all.drop i)≠eJ.getD k []):=fun k hk=>by
      by_cases q:k=2
      ·subst q;simpa[isT] using hT
      ·exact HA.o k (by omega)
     clear HA hT;go_wp2_with fail;refine(dO h0 hst _ hT').mono ?_;rintro e w1 ⟨rfl,h1,hk1⟩;go_wp2_with fail;go_roundw;case rel=>exact⟨3,rfl,by omega,h1,hkp.trans hk1,HN.o⟩
     case measure=>simp[intOf]
   ·by_cases hT:isT (eJ.getD 3 []) (all.drop i)=true
    ·have HD:P3 (kQ all E i= .ok (((8:Nat):Int),i+1)):=by
      have hb:=pY (textP (all.drop i)) 3 (by omega) (by simpa[isT] using hT);show _=_;unfold kQ;rw[hb];rfl
     clear HA;go_wp2_with fail;refine(fw h0 hst _ (by decide) hT).mono ?_;rintro e w1 ⟨rfl,h1,hk1⟩;go_wp2_with fail;go_ret;rw[HD.o];exact⟨rfl,h1,hkp.trans hk1⟩
    ·have hT':isT (eJ.getD 3 []) (all.drop i)=false:=(by simpa using hT)
     have HN:P3 (∀k,k<4->textP (all.drop i)≠eJ.getD k []):=fun k hk=>by
      by_cases q:k=3
      ·subst q;simpa[isT] using hT
      ·exact HA.o k (by omega)
     clear HA hT;go_wp2_with fail;refine(dO h0 hst _ hT').mono ?_;rintro e w1 ⟨rfl,h1,hk1⟩;go_wp2_with fail;go_roundw;case rel=>exact⟨4,rfl,by omega,h1,hkp.trans hk1,HN.o⟩
     case measure=>simp[intOf]
   ·by_cases hT:isT (eJ.getD 4 []) (all.drop i)=true
    ·have HD:P3 (kQ all E i= .ok (((16:Nat):Int),i+1)):=by
      have hb:=pY (textP (all.drop i)) 4 (by omega) (by simpa[isT] using hT);show _=_;unfold kQ;rw[hb];rfl
     clear HA;go_wp2_with fail;refine(fw h0 hst _ (by decide) hT).mono ?_;rintro e w1 ⟨rfl,h1,hk1⟩;go_wp2_with fail;go_ret;rw[HD.o];exact⟨rfl,h1,hkp.trans hk1⟩
    ·have hT':isT (eJ.getD 4 []) (all.drop i)=false:=(by simpa using hT)
     have HN:P3 (∀k,k<5->textP (all.drop i)≠eJ.getD k []):=fun k hk=>by
      by_cases q:k=4
      ·subst q;simpa[isT] using hT
      ·exact HA.o k (by omega)
     clear HA hT;go_wp2_with fail;refine(dO h0 hst _ hT').mono ?_;rintro e w1 ⟨rfl,h1,hk1⟩;go_wp2_with fail;go_roundw;case rel=>exact⟨5,rfl,by omega,h1,hkp.trans hk1,HN.o⟩
     case measure=>simp[intOf]
   ·by_cases hT:isT (eJ.getD 5 []) (all.drop i)=true
    ·have HD:P3 (kQ all E i= .ok (((32:Nat):Int),i+1)):=by
      have hb:=pY (textP (all.drop i)) 5 (by omega) (by simpa[isT] using hT);show _=_;unfold kQ;rw[hb];rfl
     clear HA;go_wp2_with fail;refine(fw h0 hst _ (by decide) hT).mono ?_;rintro e w1 ⟨rfl,h1,hk1⟩;go_wp2_with fail;go_ret;rw[HD.o];exact⟨rfl,h1,hkp.trans hk1⟩
    ·have hT':isT (eJ.getD 5 []) (all.drop i)=false:=(by simpa using hT)
     have HN:P3 (∀k,k<6->textP (all.drop i)≠eJ.getD k []):=fun k hk=>by
      by_cases q:k=5
      ·subst q;simpa[isT] using hT
      ·exact HA.o k (by omega)
     clear HA hT;go_wp2_with fail;refine(dO h0 hst _ hT').mono ?_;rintro e w1 ⟨rfl,h1,hk1⟩;go_wp2_with fail;go_roundw;case rel=>exact⟨6,rfl,by omega,h1,hkp.trans hk1,HN.o⟩
     case measure=>simp[intOf]
   ·by_cases hT:isT (eJ.getD 6 []) (all.drop i)=true
    ·have HD:P3 (kQ all E i= .ok (((64:Nat):Int),i+1)):=by
      have hb:=pY (textP (all.drop i)) 6 (by omega) (by simpa[isT] using hT);show _=_;unfold kQ;rw[hb];rfl
     clear HA;go_wp2_with fail;refine(fw h0 hst _ (by decide) hT).mono ?_;rintro e w1 ⟨rfl,h1,hk1⟩;go_wp2_with fail;go_ret;rw[HD.o];exact⟨rfl,h1,hkp.trans hk1⟩
    ·have hT':isT (eJ.getD 6 []) (all.drop i)=false:=(by simpa using hT)
     have HN:P3 (∀k,k<7->textP (all.drop i)≠eJ.getD k []):=fun k hk=>by
      by_cases q:k=6
      ·subst q;simpa[isT] using hT
      ·exact HA.o k (by omega)
     clear HA hT;go_wp2_with fail;refine(dO h0 hst _ hT').mono ?_;rintro e w1 ⟨rfl,h1,hk1⟩;go_wp2_with fail;go_roundw;case rel=>exact⟨7,rfl,by omega,h1,hkp.trans hk1,HN.o⟩
     case measure=>simp[intOf]
  ·have e7:j=7:=(by omega);subst e7
   have HD:P3 (kQ all E i= .error (2,atP E (all.drop i))):=by
    show _=_;unfold kQ;rw[ay (Js _ HA.o)]
   clear HA;go_wp2_with fail;refine(kP h0 hst 2).mono ?_;rintro e w1 ⟨rfl,hb1⟩;refine⟨rfl,?_⟩;rw[HD.o];exact⟨rfl,hkp.trans (bm.of_below hb1)⟩
end
section
variable {all:List Tk} {E g:Nat} {v:Value} {w:World} {i n:Nat}
def r6:Array Value:= #[ag 0,ag 0,ag 0,.string ⟨#[]⟩,af]
theorem bm.at {w':World}{k:Nat}{o:Obj}(h:bm g w w')(hk:w.heap[k]? =some o)(hne:k≠g):w'.heap[k]? =some o:=(h.block k (aF hk) (fun e=>hne (aK e))).trans hk
theorem jA {w4 w5:World}{X:Res}{e:Ending}(h:PSt all E g v w i n)(h0:PS0 all E g v)(hk4:bm g w w4)(hz4:w4.heap[w.heap.size]? =ah r6 52)
  (ho:jd all E g v w4 (fun k=>w.heap.size+1<=k) X e w5):
  (∃ch,e= .panicked ch/\jd all E g v w (fun k=>w.heap.size<=k) X e w5)\/
  (∃(a b c:Int) (x:ByteArray) (p:Option Addr) (q r:Nat),e= .returned (.agg #[ag a,ag b,ag c,.string x,.slice p q r])/\w5.heap[w.heap.size]? =ah r6 52/\ ∀cs,jd all E g v w (fun k=>w.heap.size<=k) X e (w5.setRow w.heap.size cs)):=by
 have hgl:=aF h.blk;cases hx:X with
 |error q=>
  obtain⟨er,at_⟩:=q;rw[hx]at ho;obtain⟨rfl,hk5⟩:=ho;exact .inl ⟨_,rfl,rfl,hk4.trans hk5⟩
 |ok q=>
  obtain⟨ex,rr,nn⟩:=q;rw[hx]at ho;obtain⟨i',sl,dd,hr',rfl,hkd,h5,hn5,hk5⟩:=ho;obtain⟨p5,c5,rfl⟩:=hkd.form;have hkw:=hk4.trans hk5;refine .inr ⟨_,_,_,_,p5,ex.kids.length,c5,rfl,hk5.at hz4 (by omega),fun cs=> ?_⟩;refine⟨i',_,dd,hr',rfl,?_,h.of_kept h0 (hkw.setRow (aA _) cs) ((aT _ _ _ _ (by omega)).trans h5.blk) h5.le,hn5,hkw.setRow (aA _) cs⟩;exact(hkd.kept fun k hk _=>aT _ _ _ _ (by omega)).mono fun k hk=>(by omega)
theorem eV (i:Nat):(all.drop i).tail=all.drop (i+1):=by rw[List.tail_drop]
theorem me (w:World):(w.alloc (.cells #[ag 0,ag 0,ag 0,.string ⟨#[]⟩,af] 52)).heap[w.heap.size]? =ah r6 52:=aC w _
def wP (E:Nat)(r:List Tk)(n:Nat):Res:=
 if kindP r≠4 then dK E 2 r
 else if isT fR r.tail then
  if kindP r.tail.tail≠4 then dK E 2 r.tail.tail
  else if numP r.tail.tail<numP r+1 then dK E 3 r.tail.tail
  else du E ⟨3,numP r,numP r.tail.tail,[],[]⟩ r.tail.tail.tail n
 else dK E 2 r.tail
theorem Jt (h0:PS0 all E g v)(h:PSt all E g v w i n)(hn6:n<=600):
  Calls prog 195 #[ab g 0] w (jd all E g v w (fun k=>w.heap.size<=k) (wP E (all.drop i) n)):=by
 have hgl:=aF h.blk;have hb0:ao w (w.alloc (.cells #[ag 0,ag 0,ag 0,.string ⟨#[]⟩,af] 52)):=am _ _;have hz:=me w;have hA:=h.below hb0 h0;have hkA:=bm.of_below (g:=g) hb0;have hsz:(w.alloc (.cells #[ag 0,ag 0,ag 0,.string ⟨#[]⟩,af] 52)).heap.size=w.heap.size+1:=by simp
 have n1:=wJ h0 i;unfold wP dK;simp only[eV];generalize hwA:w.alloc (.cells #[ag 0,ag 0,ag 0,.string ⟨#[]⟩,af] 52)=wA at*;by_cases h4:kindP (all.drop i)=4
 ·have c1:=pW h0 hA 4 (by decide) h4;rw[aw (by simp[h4])];unfold jT at c1;generalize numP (all.drop i)=N at*;generalize kindP (all.drop i)=t0 at*;clear h4;by_cases hm:isT fR (all.drop (i+1))=true
  ·rw[ay hm];have c2:=fun(w1:World) (h1:PSt all E g v w1 (i+1) n)=>nL h0 h1 fR (by decide) hm;clear hm;by_cases h4:kindP (all.drop (i+1+1))=4
   ·rw[aw (by simp[h4])];by_cases hlt:numP (all.drop (i+1+1))<N+1
    ·rw[ay hlt];have c3:=fun(w1:World) (h1:PSt all E g v w1 (i+1+1) n)=>nN h0 h1 4 (N+1) h4 hlt;clear h4 hlt;go_enter func195,ntmps195;go_wp2_with fail;refine c1.mono ?_;rintro e w1 ⟨rfl,h1,hk1⟩;go_wp2_with fail;refine(c2 _ h1).mono ?_;rintro e w2 ⟨rfl,h2,hk2⟩;go_wp2_with fail;refine(c3 _ h2).mono ?_;rintro e w3 ⟨rfl,hk3⟩;exact⟨rfl,rfl,((hkA.trans hk1).trans hk2).trans hk3⟩
    ·rw[aw hlt];have c3:=fun(w1:World) (h1:PSt all E g v w1 (i+1+1) n)=>pX h0 h1 4 (N+1) (by decide) h4 hlt;unfold jT at c3;have n2:=wJ h0 (i+1+1);generalize numP (all.drop (i+1+1))=M at*;have c4:=fun(w1:World) (h1:PSt all E g v w1 (i+1+1+1) n)=>j7 h0 h1 hn6 (fun k=>w.heap.size+1<=k) (fun k hk=>by omega) ⟨3,N,M,[],[]⟩ (af) 0 (dn.nil _ _ _ _ _);unfold exV at c4;clear h4 hlt;go_enter func195,ntmps195;go_wp2_with fail;refine c1.mono ?_;rintro e w1 ⟨rfl,h1,hk1⟩;go_wp2_with fail;refine(c2 _ h1).mono ?_;rintro e w2 ⟨rfl,h2,hk2⟩;go_wp2_with fail;refine(c3 _ h2).mono ?_;rintro e w3 ⟨rfl,h3,hk3⟩;have hk4:=((hkA.trans hk1).trans hk2).trans hk3;have hz3:=((hk1.trans hk2).trans hk3).at hz (by omega);clear c1 c2 c3;go_wp2_with fail;refine(c4 _ h3).mono ?_;intro e w5 ho;rcases jA h h0 hk4 hz3 ho with⟨ch,rfl,hO⟩|⟨a,b,c,x,p,q,r,rfl,hz5,hO⟩
     ·exact⟨rfl,hO⟩
     ·clear c4 ho h1 h2 h3 hk1 hk2 hk3 hk4 hz3 hz;go_wp2_with(refine az rfl 52 _ _ rfl _ _ rfl rfl _ _ hz5 (by kernel_rfl) (by rfl) (by simp[Value.oneCell']) ?_)
      exact jt 2 (by kernel_rfl) w.heap.size _ _ _ _ _ rfl rfl (aJ _ _ _ _ _ _ hz5) (hO _)
   ·rw[ay h4];have c3:=fun(w1:World) (h1:PSt all E g v w1 (i+1+1) n)=>sN h0 h1 4 (N+1) h4;clear h4;go_enter func195,ntmps195;go_wp2_with fail;refine c1.mono ?_;rintro e w1 ⟨rfl,h1,hk1⟩;go_wp2_with fail;refine(c2 _ h1).mono ?_;rintro e w2 ⟨rfl,h2,hk2⟩;go_wp2_with fail;refine(c3 _ h2).mono ?_;rintro e w3 ⟨rfl,hk3⟩;exact⟨rfl,rfl,((hkA.trans hk1).trans hk2).trans hk3⟩
  ·have hm':isT fR (all.drop (i+1))=false:=(by simpa using hm);rw[aw hm];have c2:=fun(w1:World) (h1:PSt all E g v w1 (i+1) n)=>pI h0 h1 fR hm';clear hm hm';go_enter func195,ntmps195;go_wp2_with fail;refine c1.mono ?_;rintro e w1 ⟨rfl,h1,hk1⟩;go_wp2_with fail;refine(c2 _ h1).mono ?_;rintro e w2 ⟨rfl,hk2⟩;exact⟨rfl,rfl,(hkA.trans hk1).trans hk2⟩
 ·have c1:=yw h0 hA 4 h4;rw[ay h4];go_enter func195,ntmps195;go_wp2_with fail;refine c1.mono ?_;rintro e w1 ⟨rfl,hk1⟩;exact⟨rfl,rfl,hkA.trans hk1⟩
def RC (all:List Tk)(E g:Nat)(v:Value)(f:FuncId)(m i:Nat):Prop:= ∀(w:World) (n d:Nat),PSt all E g v w i n->n<=600->d<=41->
 Calls prog f #[ab g 0,ag (d:Int)] w (jd all E g v w (fun k=>w.heap.size<=k) (rd E m d ex0 (all.drop i) n))
def Ju (all:List Tk)(E g:Nat)(v:Value)(w:World)(B:Nat->Prop)(x:Res)(e:Ending)(w':World):Prop:=
 match x with
 | .error (er,at_)=>e= .panicked (iS er at_)/\bm g w w'
 | .ok (k,r,n)=> ∃(i b d:Nat),r=all.drop i/\e= .returned (.slice (some (ae b 0)) 1 1)/\dn B d w' (.slice (some (ae b 0)) 1 1) [k]/\PSt all E g v w' i n/\n<=600/\bm g w w'
def pZ (E d:Nat)(r:List Tk)(n:Nat):Res:=if isT mI r then rd E 4 (d+1) ex0 r.tail n else dK E 2 r
theorem s7 (h0:PS0 all E g v)(h:PSt all E g v w i n)(hn6:n<=600)(d:Nat)(hd:d<=40)(hF:RC all E g v 149 4 (i+1)):
  Calls prog 207 #[ab g 0,ag (d:Int)] w (Ju all E g v w (fun k=>w.heap.size<=k) (pZ E d (all.drop i) n)):=by
 have hgl:=aF h.blk;unfold pZ;rw[eV];by_cases hm:isT mI (all.drop i)=true
 ·rw[ay hm];have c1:=nL h0 h mI (by decide) hm;have c2: ∀(w1:World),PSt all E g v w1 (i+1) n->Calls prog 149 #[ab g 0,ag ((d:Int)+1)] w1 (jd all E g v w1 (fun k=>w1.heap.size<=k) (rd E 4 (d+1) ex0 (all.drop (i+1)) n)):=fun w1 h1=>hF w1 n (d+1) h1 hn6 (by omega);have hd':(d:Int)<=40:=(by omega);have hd0:(0:Int)<=(d:Int):=(by omega);clear hm;go_enter func207,ntmps207;go_wp2_with fail;refine c1.mono ?_;rintro e w1 ⟨rfl,h1,hk1⟩;go_wp2_with fail;refine(c2 _ h1).mono ?_;intro e w2 ho;cases hx:rd E 4 (d+1) ex0 (all.drop (i+1)) n with
  |error q=>
   obtain⟨er,at_⟩:=q;rw[hx]at ho;obtain⟨rfl,hk2⟩:=ho;refine⟨rfl,?_⟩;rw[hx];exact⟨rfl,hk1.trans hk2⟩
  |ok q=>
   obtain⟨ex,rr,nn⟩:=q;rw[hx]at ho;obtain⟨i',sl,dd,hr',rfl,hkd,h2,hn2,hk2⟩:=ho;obtain⟨p5,c5,rfl⟩:=hkd.form;have hs1:=hk1.size;have hs2:=hk2.size;have hkw:=(hk1.trans hk2).alloc (.cells #[ag ex.kind,ag ex.a,ag ex.b,.string ⟨ex.name.toArray⟩,.slice p5 ex.kids.length c5] 52);have hb3:ao w2 (w2.alloc (.cells #[ag ex.kind,ag ex.a,ag ex.b,.string ⟨ex.name.toArray⟩,.slice p5 ex.kids.length c5] 52)):=am _ _;have hkd3:=(bm.of_below (g:=g) hb3).kids (B:=fun k=>w.heap.size<=k) (fun k hk=>by omega) (hkd.mono fun k hk=>by omega);have kk:=Bg (B:=fun k=>w.heap.size<=k) (by show w.heap.size<=w2.heap.size;omega) (aC w2 (.cells #[ag ex.kind,ag ex.a,ag ex.b,.string ⟨ex.name.toArray⟩,.slice p5 ex.kids.length c5] 52)) hkd3;have h3:=h2.below hb3 h0
   have HO:P3 (Ju all E g v w (fun k=>w.heap.size<=k) (rd E 4 (d+1) ex0 (all.drop (i+1)) n) (.returned (.slice (some (ae w2.heap.size 0)) 1 1)) (w2.alloc (.cells #[ag ex.kind,ag ex.a,ag ex.b,.string ⟨ex.name.toArray⟩,.slice p5 ex.kids.length c5] 52))):=by
    show Ju _ _ _ _ _ _ _ _ _;rw[hx];exact⟨i',_,_,hr',rfl,kk,h3,hn2,hkw⟩
   unfold exV;clear c1 c2 h1 h2 h3 hk1 hk2 hkw hb3 hkd hkd3 kk hx;go_wp2_with fail;go_ret;exact HO.o
 ·have hm':isT mI (all.drop i)=false:=by simpa using hm
  rw[aw hm];have c1:=pI h0 h mI hm';clear hm hm';go_enter func207,ntmps207;go_wp2_with fail;refine c1.mono ?_;rintro e w1 ⟨rfl,hk1⟩;exact⟨rfl,rfl,hk1⟩
theorem s8 (E d:Nat)(e:Ex)(r:List Tk)(n:Nat):rd E 8 d e r n=cZ (pZ E d r n) fun k r n=>du E ⟨e.kind,e.a,e.b,[],[k]⟩ r n:=by
 rw[PA];unfold pZ;split
 ·rfl
 ·rfl
end
section
variable {all:List Tk} {E g:Nat} {v:Value} {w:World} {i n:Nat}
def tb (E d:Nat)(r:List Tk)(n:Nat):Res:=
 if kindP r≠5 then dK E 2 r
 else if isT wTo r.tail then
  if kindP r.tail.tail≠5 then dK E 2 r.tail.tail
  else if numP r.tail.tail<numP r then dK E 3 r.tail.tail
  else rd E 8 d ⟨5,numP r,numP r.tail.tail,[],[]⟩ r.tail.tail.tail n
 else rd E 8 d ⟨5,numP r,numP r,[],[]⟩ r.tail n
theorem Gu (h0:PS0 all E g v)(h:PSt all E g v w i n)(hn6:n<=600)(d:Nat)(hd:d<=40)(hF: ∀j,i<j->RC all E g v 149 4 j):
  Calls prog 194 #[ab g 0,ag (d:Int)] w (jd all E g v w (fun k=>w.heap.size<=k) (tb E d (all.drop i) n)):=by
 have hgl:=aF h.blk;have hb0:ao w (w.alloc (.cells #[ag 0,ag 0,ag 0,.string ⟨#[]⟩,af] 52)):=am _ _;have hz:=me w;have hA:=h.below hb0 h0;have hkA:=bm.of_below (g:=g) hb0;unfold tb dK;simp only[eV];generalize hwA:w.alloc (.cells #[ag 0,ag 0,ag 0,.string ⟨#[]⟩,af] 52)=wA at*;by_cases h5:kindP (all.drop i)=5
 ·have c1:=pW h0 hA 5 (by decide) h5;rw[aw (by simp[h5])];unfold jT at c1;generalize numP (all.drop i)=N at*;generalize kindP (all.drop i)=t0 at*;clear h5;by_cases hm:isT wTo (all.drop (i+1))=true
  ·rw[ay hm];have c2:=fun(w1:World) (h1:PSt all E g v w1 (i+1) n)=>fw h0 h1 wTo (by decide) hm;clear hm;by_cases h5:kindP (all.drop (i+1+1))=5
   ·rw[aw (by simp[h5])];by_cases hlt:numP (all.drop (i+1+1))<N
    ·rw[ay hlt];have c3:=fun(w1:World) (h1:PSt all E g v w1 (i+1+1) n)=>nN h0 h1 5 N h5 hlt;clear h5 hlt;go_enter func194,ntmps194;go_wp2_with fail;refine c1.mono ?_;rintro e w1 ⟨rfl,h1,hk1⟩;go_wp2_with fail;refine(c2 _ h1).mono ?_;rintro e w2 ⟨rfl,h2,hk2⟩;go_wp2_with fail;refine(c3 _ h2).mono ?_;rintro e w3 ⟨rfl,hk3⟩;exact⟨rfl,rfl,((hkA.trans hk1).trans hk2).trans hk3⟩
    ·rw[aw hlt];have c3:=fun(w1:World) (h1:PSt all E g v w1 (i+1+1) n)=>pX h0 h1 5 N (by decide) h5 hlt;unfold jT at c3;generalize numP (all.drop (i+1+1))=M at*;clear h5 hlt;generalize hX:rd E 8 d ⟨5,N,M,[],[]⟩ (all.drop (i+1+1+1)) n=X;have HX:P3 (rd E 8 d ⟨5,N,M,[],[]⟩ (all.drop (i+1+1+1)) n=X):=hX;clear hX;go_enter func194,ntmps194;go_wp2_with fail;refine c1.mono ?_;rintro e w1 ⟨rfl,h1,hk1⟩;go_wp2_with fail;refine(c2 _ h1).mono ?_;rintro e w2 ⟨rfl,h2,hk2⟩;go_wp2_with fail;refine(c3 _ h2).mono ?_;rintro e w3 ⟨rfl,h3,hk3'⟩;have hk3:=((hkA.trans hk1).trans hk2).trans hk3';have hz3:=((hk1.trans hk2).trans hk3').at hz (by omega);clear c1 c2 c3 h1 h2 hk1 hk2 hk3' hz hwA hA hkA hb0;have hXX:=HX.o;rw[s8]at hXX;go_wp2_with fail;refine(s7 h0 h3 hn6 d hd (hF (i+1+1+1+1) (by omega))).mono ?_;intro e w5 ho;cases hx:pZ E d (all.drop (i+1+1+1)) n with
     |error q=>
      obtain⟨er,at_⟩:=q;rw[hx]at ho;obtain⟨rfl,hk5⟩:=ho;rw[hx]at hXX;refine⟨rfl,?_⟩;rw[<-hXX];exact⟨rfl,hk3.trans hk5⟩
     |ok q=>
      obtain⟨kx,rr,nn⟩:=q;rw[hx]at ho;obtain⟨i',bk,dd,hr',rfl,hkd,h5,hn5,hk5⟩:=ho;subst hr';have hs3:=hk3.size;have hz5:=hk5.at hz3 (by omega);have hl3:=aF hz3;have c5:=j7 h0 h5 hn5 (fun k=>w.heap.size+1<=k) (fun k hk=>by omega) ⟨5,N,M,[],[kx]⟩ (.slice (some (ae bk 0)) 1 1) dd (hkd.mono fun k hk=>by omega);unfold exV at c5;have hk35:=hk3.trans hk5;rw[hx]at hXX;rw[show du E ⟨5,N,M,[],[kx]⟩ (all.drop i') nn=X from hXX]at c5;clear hkd hk5 hx h3 hz3 hk3 hXX;go_wp2_with fail;refine c5.mono ?_;intro e w6 ho;rcases jA h h0 hk35 hz5 ho with⟨ch,rfl,hO⟩|⟨a',b',c',x',p',q',r',rfl,hz6,hO⟩
      ·exact⟨rfl,hO⟩
      ·clear c5 ho h5 hk35 hz5;go_wp2_with(refine az rfl 52 _ _ rfl _ _ rfl rfl _ _ hz6 (by kernel_rfl) (by rfl) (by simp[Value.oneCell']) ?_)
       exact jt 4 (by kernel_rfl) w.heap.size _ _ _ _ _ rfl rfl (aJ _ _ _ _ _ _ hz6) (hO _)
   ·rw[ay h5];have c3:=fun(w1:World) (h1:PSt all E g v w1 (i+1+1) n)=>sN h0 h1 5 N h5;clear h5;go_enter func194,ntmps194;go_wp2_with fail;refine c1.mono ?_;rintro e w1 ⟨rfl,h1,hk1⟩;go_wp2_with fail;refine(c2 _ h1).mono ?_;rintro e w2 ⟨rfl,h2,hk2⟩;go_wp2_with fail;refine(c3 _ h2).mono ?_;rintro e w3 ⟨rfl,hk3⟩;exact⟨rfl,rfl,((hkA.trans hk1).trans hk2).trans hk3⟩
  ·have hm':isT wTo (all.drop (i+1))=false:=(by simpa using hm);rw[aw hm];have c2:=fun(w1:World) (h1:PSt all E g v w1 (i+1) n)=>dO h0 h1 wTo hm';clear hm hm';generalize hX:rd E 8 d ⟨5,N,N,[],[]⟩ (all.drop (i+1)) n=X;have HX:P3 (rd E 8 d ⟨5,N,N,[],[]⟩ (all.drop (i+1)) n=X):=hX;clear hX;go_enter func194,ntmps194;go_wp2_with fail;refine c1.mono ?_;rintro e w1 ⟨rfl,h1,hk1⟩;go_wp2_with fail;refine(c2 _ h1).mono ?_;rintro e w3 ⟨rfl,h3,hk2⟩;have hk3:=(hkA.trans hk1).trans hk2;have hz3:=(hk1.trans hk2).at hz (by omega);clear c1 c2 h1 hk1 hk2 hz hwA hA hkA hb0;have hXX:=HX.o;rw[s8]at hXX;go_wp2_with fail;refine(s7 h0 h3 hn6 d hd (hF (i+1+1) (by omega))).mono ?_;intro e w5 ho;cases hx:pZ E d (all.drop (i+1)) n with
   |error q=>
    obtain⟨er,at_⟩:=q;rw[hx]at ho;obtain⟨rfl,hk5⟩:=ho;rw[hx]at hXX;refine⟨rfl,?_⟩;rw[<-hXX];exact⟨rfl,hk3.trans hk5⟩
   |ok q=>
    obtain⟨kx,rr,nn⟩:=q;rw[hx]at ho;obtain⟨i',bk,dd,hr',rfl,hkd,h5,hn5,hk5⟩:=ho;subst hr';have hs3:=hk3.size;have hz5:=hk5.at hz3 (by omega);have hl3:=aF hz3;have c5:=j7 h0 h5 hn5 (fun k=>w.heap.size+1<=k) (fun k hk=>by omega) ⟨5,N,N,[],[kx]⟩ (.slice (some (ae bk 0)) 1 1) dd (hkd.mono fun k hk=>by omega);unfold exV at c5;have hk35:=hk3.trans hk5;rw[hx]at hXX;rw[show du E ⟨5,N,N,[],[kx]⟩ (all.drop i') nn=X from hXX]at c5;clear hkd hk5 hx h3 hz3 hk3 hXX;go_wp2_with fail;refine c5.mono ?_;intro e w6 ho;rcases jA h h0 hk35 hz5 ho with⟨ch,rfl,hO⟩|⟨a',b',c',x',p',q',r',rfl,hz6,hO⟩
    ·exact⟨rfl,hO⟩
    ·clear c5 ho h5 hk35 hz5;go_wp2_with(refine az rfl 52 _ _ rfl _ _ rfl rfl _ _ hz6 (by kernel_rfl) (by rfl) (by simp[Value.oneCell']) ?_)
     exact jt 4 (by kernel_rfl) w.heap.size _ _ _ _ _ rfl rfl (aJ _ _ _ _ _ _ hz6) (hO _)
 ·have c1:=yw h0 hA 5 h5;rw[ay h5];go_enter func194,ntmps194;go_wp2_with fail;refine c1.mono ?_;rintro e w1 ⟨rfl,hk1⟩;exact⟨rfl,rfl,hkA.trans hk1⟩
def rB (E d:Nat)(a:Nat)(r:List Tk)(n:Nat):Res:=if isT oI r then rd E 7 d ⟨0,(a:Int),0,[],[]⟩ r.tail n else rd E 8 d ⟨4,(a:Int),0,[],[]⟩ r n
theorem Gv (E d:Nat)(e:Ex)(r:List Tk)(n:Nat)(h:dayBit (textP r)=0):rd E 7 d e r n=dK E 2 r:=by rw[Nt,ay h]
theorem Dz (E d:Nat)(e:Ex)(r:List Tk)(n:Nat)(h:dayBit (textP r)≠0):rd E 7 d e r n=rB E d (e.a.toNat|||dayBit (textP r)) r.tail n:=by rw[Nt,aw h];rfl
theorem Gw (x:List UInt8):dayBit x<128:=by
 unfold dayBit;repeat (split; ·omega)
 omega
theorem OR: ∀a:Fin 128,∀b:Fin 128,bits BinOp.or IntKind.i64 ((a.val:Nat):Int) ((b.val:Nat):Int)=((a.val|||b.val:Nat):Int):=by decide+kernel
theorem OS {a b:Nat}(ha:a<128)(hb:b<128):bits BinOp.or IntKind.i64 (a:Int) (b:Int)=((a|||b:Nat):Int):=OR ⟨a,ha⟩ ⟨b,hb⟩
theorem OT {a b:Nat}(ha:a<128)(hb:b<128):a|||b<128:=Nat.or_lt_two_pow (n:=7) ha hb
theorem EE (h0:PS0 all E g v)(h:PSt all E g v w i n)(hn6:n<=600)(d:Nat)(hd:d<=40)(hF: ∀j,i<j->RC all E g v 149 4 j):
  Calls prog 193 #[ab g 0,ag (d:Int)] w (jd all E g v w (fun k=>w.heap.size<=k) (rd E 7 d ex0 (all.drop i) n)):=by
 have hgl:=aF h.blk;have hb0:ao w (w.alloc (.cells #[ag 0,ag 0,ag 0,.string ⟨#[]⟩,af] 52)):=am _ _;have hz:=me w;have hA:=h.below hb0 h0;have hkA:=bm.of_below (g:=g) hb0;have hlen:=h0.len;generalize hwA:w.alloc (.cells #[ag 0,ag 0,ag 0,.string ⟨#[]⟩,af] 52)=wA at*;have c1:=Dy h0 hA;unfold kQ at c1;by_cases hd0:dayBit (textP (all.drop i))=0
 ·rw[ay hd0]at c1;rw[Gv _ _ _ _ _ hd0];go_enter func193,ntmps193;go_wp2_with fail;refine c1.mono ?_;rintro e w1 ⟨rfl,hk1⟩;exact⟨rfl,rfl,hkA.trans hk1⟩
 ·rw[aw hd0]at c1;rw[Dz _ _ _ _ _ hd0,eV];have ha:=Gw (textP (all.drop i));have ez:(ex0.a.toNat|||dayBit (textP (all.drop i)))=dayBit (textP (all.drop i)):=(by show(0|||_)=_;exact Nat.zero_or _);rw[ez];clear ez hd0;generalize dayBit (textP (all.drop i))=a0 at*;generalize hX:rB E d a0 (all.drop (i+1)) n=X;go_enter func193,ntmps193;go_wp2_with fail;refine c1.mono ?_;rintro e w1 ⟨rfl,h1,hk1⟩;have hk1':=hkA.trans hk1;have hz1:=hk1.at hz (by omega);clear c1 hk1 hkA hz hwA hA hb0;go_wp2_with fail;go_loopw [5] (fun q wr=> ∃(a j:Nat),q=ag (a:Int)/\a<128/\i<j/\PSt all E g v wr j n/\bm g w wr/\wr.heap[w.heap.size]? =ah r6 52/\rB E d a (all.drop j) n=X/\wr.heap[g]? =ah #[v,ag (j:Int),ag (E:Int),ag (n:Int)] 79) (fun _ wr=>all.length-(match wr.heap[g]? with|some (.cells cs _ _)=>(intOf (cs.getD 1 undef)).toNat|_=>0));case atStart=>exact⟨a0,i+1,rfl,ha,by omega,h1,hk1',hz1,hX,h1.blk⟩
  case round=>
   obtain⟨a,j,rfl,ha,hij,hst,hkp,hzr,hXr,hblk⟩:=hrel;clear h1 hk1' hz1 hX;by_cases hc:isT oI (all.drop j)=true
   ·have hj1:=nK (by decide) hc;have c2:=fw h0 hst oI (by decide) hc;unfold rB at hXr;rw[ay hc,eV]at hXr;have cd:=fun(w1:World) (h1:PSt all E g v w1 (j+1) n)=>Dy h0 h1;unfold kQ at cd;clear hc;by_cases hd0:dayBit (textP (all.drop (j+1)))=0
    ·rw[Gv _ _ _ _ _ hd0]at hXr;have cd':=cd;simp only[ay hd0]at cd';have HX:P3 (X=dK E 2 (all.drop (j+1))):=hXr.symm;clear cd hXr hblk;go_wp2_with fail;refine c2.mono ?_;rintro e w2 ⟨rfl,h2,hk2⟩;go_wp2_with fail;refine(cd' _ h2).mono ?_;rintro e w3 ⟨rfl,hk3⟩;refine⟨rfl,?_⟩;rw[HX.o];exact⟨rfl,(hkp.trans hk2).trans hk3⟩
    ·rw[Dz _ _ _ _ _ hd0,eV]at hXr;have cd':=cd;simp only[aw hd0]at cd';have hb:=Gw (textP (all.drop (j+1)));have hor:=OT ha hb
     have hj2:j+1+1<=all.length:=by
      have:=oz hd0;simp at this;omega
     have hta:((a:Int)).toNat=a:=(by omega);dsimp only at hXr;rw[hta]at hXr;have HX:P3 (rB E d (a|||dayBit (textP (all.drop (j+1)))) (all.drop (j+1+1)) n=X):=hXr;generalize dayBit (textP (all.drop (j+1)))=b at*;clear cd hXr hd0 hta;go_wp2_with fail;refine c2.mono ?_;rintro e w2 ⟨rfl,h2,hk2⟩;go_wp2_with fail;refine(cd' _ h2).mono ?_;rintro e w3 ⟨rfl,h3,hk3⟩;have hz3:=(hk2.trans hk3).at hzr (by omega);have hk':=(hkp.trans hk2).trans hk3;go_wp2_with fail;go_roundw;case rel=>exact⟨a|||b,j+1+1,by rw[OS ha hb],hor,by omega,h3,hk',hz3,HX.o,h3.blk⟩
     case measure=>
      rw[h3.blk,hblk];simp[intOf];omega
   ·have hc':isT oI (all.drop j)=false:=(by simpa using hc);have c2:=dO h0 hst oI hc';unfold rB at hXr;rw[aw hc]at hXr;have HX:P3 (rd E 8 d ⟨4,(a:Int),0,[],[]⟩ (all.drop j) n=X):=hXr;clear hc hc' hXr hblk;go_wp2_with fail;refine c2.mono ?_;rintro e w3 ⟨rfl,h3,hk2⟩;have hk3:=hkp.trans hk2;have hz3:=hk2.at hzr (by omega);clear c2 hst hkp hzr hk2;have hXX:=HX.o;rw[s8]at hXX;go_wp2_with fail;refine(s7 h0 h3 hn6 d hd (hF (j+1) (by omega))).mono ?_;intro e w5 ho;cases hx:pZ E d (all.drop (j)) n with
    |error q=>
     obtain⟨er,at_⟩:=q;rw[hx]at ho;obtain⟨rfl,hk5⟩:=ho;rw[hx]at hXX;refine⟨rfl,?_⟩;rw[<-hXX];exact⟨rfl,hk3.trans hk5⟩
    |ok q=>
     obtain⟨kx,rr,nn⟩:=q;rw[hx]at ho;obtain⟨i',bk,dd,hr',rfl,hkd,h5,hn5,hk5⟩:=ho;subst hr';have hs3:=hk3.size;have hz5:=hk5.at hz3 (by omega);have hl3:=aF hz3;have c5:=j7 h0 h5 hn5 (fun k=>w.heap.size+1<=k) (fun k hk=>by omega) ⟨4,(a:Int),0,[],[kx]⟩ (.slice (some (ae bk 0)) 1 1) dd (hkd.mono fun k hk=>by omega);unfold exV at c5;have hk35:=hk3.trans hk5;rw[hx]at hXX;rw[show du E ⟨4,(a:Int),0,[],[kx]⟩ (all.drop i') nn=X from hXX]at c5;clear hkd hk5 hx h3 hz3 hk3 hXX;go_wp2_with fail;refine c5.mono ?_;intro e w6 ho;rcases jA h h0 hk35 hz5 ho with⟨ch,rfl,hO⟩|⟨a',b',c',x',p',q',r',rfl,hz6,hO⟩
     ·exact⟨rfl,hO⟩
     ·clear c5 ho h5 hk35 hz5;go_wp2_with(refine az rfl 52 _ _ rfl _ _ rfl rfl _ _ hz6 (by kernel_rfl) (by rfl) (by simp[Value.oneCell']) ?_)
      exact jt 4 (by kernel_rfl) w.heap.size _ _ _ _ _ rfl rfl (aJ _ _ _ _ _ _ hz6) (hO _)
end
end Go.Proofs.YtjkilacmkbmmbaaGreatDoor
