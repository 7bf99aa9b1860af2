/- Texts of the proof. -/
import Derived.Test.YtkfidffapdhbhaaGreatDoorPh14
set_option maxRecDepth 100000
set_option maxHeartbeats 8000000
namespace Go.Proofs.YtkfidffapdhbhaaGreatDoor
open Go.Proofs.Tryz Go.RowKit Lx Vx Mx Msk
section
variable {all:List Tk} {E g:Nat} {v:Value} {w:World} {i n:Nat}
theorem wH (h0:PS0 all E g v)(i:Nat):0<=numP (all.drop i)/\numP (all.drop i)<=999999:=by
 cases h:all.drop i with
 |nil=>simp[numP]
 |cons p r=>
  have hm:p∈all:=List.mem_of_mem_drop (h▸bq);exact h0.num p hm
def og (all:List Tk)(i:Nat):Nat:=if isT gC (all.drop i) then i+1 else i
def vD (all:List Tk)(E g:Nat)(v:Value)(w:World)(n:Nat)(x:Except (Int×Nat) (Int×Nat))(e:Ending)(w':World):Prop:=
 match x with
 | .error (er,at_)=>e= .panicked (jk er at_)/\bo g w w'
 | .ok (m,j)=>e= .returned (ag m)/\PSt all E g v w' j n/\bo g w w'
def oW (all:List Tk)(E i:Nat):Except (Int×Nat) (Int×Nat):=
 if kindP (all.drop (og all i))≠6 then .error (2,atP E (all.drop (og all i)))
 else if 1440<=numP (all.drop (og all i))\/numP (all.drop (og all i))<1 then .error (3,atP E (all.drop (og all i)))
 else .ok (if isT gC (all.drop i) then-numP (all.drop (og all i)) else numP (all.drop (og all i)),og all i+1)
theorem vD.weak {x:Except (Int×Nat) (Int×Nat)}{e:Ending}{w0 w':World}(hk:bo g w0 w)(h:vD all E g v w n x e w'):vD all E g v w0 n x e w':=by
 unfold vD at h⊢;match x,h with
 | .error (er,at_),h=>exact⟨h.1,hk.trans h.2⟩
 | .ok (m,j),h=>exact⟨h.1,h.2.1,hk.trans h.2.2⟩
theorem wN (h0:PS0 all E g v)(sg:Int)(j:Nat)(hsg:sg=1\/sg= -1)(x:Except (Int×Nat) (Int×Nat))
  (hx:x=if kindP (all.drop j)≠6 then .error (2,atP E (all.drop j)) else if 1440<=numP (all.drop j)\/numP (all.drop j)<1 then .error (3,atP E (all.drop j)) else .ok (sg*numP (all.drop j),j+1))
  (c1:Calls prog 119 #[ab g 0,.string ⟨#[45]⟩] w fun e w'=>e= .returned (.bool (decide (sg= -1)))/\PSt all E g v w' j n/\bo g w w'):
  Calls prog 202 #[ab g 0] w (vD all E g v w n x):=by
 have hnb:=wH h0 j;have cs:=fun(w1:World) (h1:PSt all E g v w1 j n)=>uB h0 h1 6;have cn:=fun(w1:World) (h1:PSt all E g v w1 j n)=>A6 h0 h1 6;have cf:=fun(w1:World) (h1:PSt all E g v w1 j n)=>ld h0 h1 3;have ct:=fun(w1:World) (h1:PSt all E g v w1 j n)=>qf h0 h1 6 1 (by decide);have cr:=fun(w1:World) (h1:PSt all E g v w1 j n)=>oe h0 h1 6 1;unfold j9 at cs ct;generalize hat:atP E (all.drop j)=at_ at*;by_cases h6:kindP (all.drop j)=6
 ·have cs':=fun w1 h1=>cs w1 h1 h6;have ct':=fun w1 h1=>ct w1 h1 h6;have cr':=fun w1 h1=>cr w1 h1 h6;rw[ax (by simp[h6])]at hx;by_cases hbig:1440<=numP (all.drop j)
  ·rw[aD (.inl hbig)]at hx;subst hx;generalize numP (all.drop j)=N at*;rcases hsg with rfl|rfl
   ·have e1:decide ((1:Int)= -1)=false:=(by decide);rw[e1]at c1;go_enter func202,ntmps202;go_wp2_with fail;refine c1.mono ?_;rintro e w1 ⟨rfl,h1,hk1⟩;go_wp2_with fail;refine(cs' _ h1).mono ?_;rintro e w2 ⟨rfl,h2,hb2⟩;go_wp2_with fail;refine(cf _ h2).mono ?_;rintro e w3 ⟨rfl,hb3⟩;exact⟨rfl,rfl,(hk1.trans (bo.of_below hb2)).trans (bo.of_below hb3)⟩
   ·have e1:decide ((-1:Int)= -1)=true:=(by decide);rw[e1]at c1;go_enter func202,ntmps202;go_wp2_with fail;refine c1.mono ?_;rintro e w1 ⟨rfl,h1,hk1⟩;go_wp2_with fail;refine(cs' _ h1).mono ?_;rintro e w2 ⟨rfl,h2,hb2⟩;go_wp2_with fail;refine(cf _ h2).mono ?_;rintro e w3 ⟨rfl,hb3⟩;exact⟨rfl,rfl,(hk1.trans (bo.of_below hb2)).trans (bo.of_below hb3)⟩
  ·have hbig': ¬(1440:Int)<=numP (all.drop j):=hbig;by_cases hlow:numP (all.drop j)<1
   ·rw[aD (.inr hlow)]at hx;have cr2:=fun w1 h1=>cr' w1 h1 hlow;subst hx;generalize numP (all.drop j)=N at*;rcases hsg with rfl|rfl
    ·have e1:decide ((1:Int)= -1)=false:=(by decide);rw[e1]at c1;go_enter func202,ntmps202;go_wp2_with fail;refine c1.mono ?_;rintro e w1 ⟨rfl,h1,hk1⟩;go_wp2_with fail;refine(cs' _ h1).mono ?_;rintro e w2 ⟨rfl,h2,hb2⟩;go_wp2_with fail;refine(cr2 _ h2).mono ?_;rintro e w3 ⟨rfl,hk3⟩;exact⟨rfl,rfl,(hk1.trans (bo.of_below hb2)).trans hk3⟩
    ·have e1:decide ((-1:Int)= -1)=true:=(by decide);rw[e1]at c1;go_enter func202,ntmps202;go_wp2_with fail;refine c1.mono ?_;rintro e w1 ⟨rfl,h1,hk1⟩;go_wp2_with fail;refine(cs' _ h1).mono ?_;rintro e w2 ⟨rfl,h2,hb2⟩;go_wp2_with fail;refine(cr2 _ h2).mono ?_;rintro e w3 ⟨rfl,hk3⟩;exact⟨rfl,rfl,(hk1.trans (bo.of_below hb2)).trans hk3⟩
   ·rw[ax (by omega)]at hx;have ct2:=fun w1 h1=>ct' w1 h1 hlow;subst hx;generalize numP (all.drop j)=N at*;rcases hsg with rfl|rfl
    ·have e1:decide ((1:Int)= -1)=false:=(by decide);rw[e1]at c1;go_enter func202,ntmps202;go_wp2_with fail;refine c1.mono ?_;rintro e w1 ⟨rfl,h1,hk1⟩;go_wp2_with fail;refine(cs' _ h1).mono ?_;rintro e w2 ⟨rfl,h2,hb2⟩;go_wp2_with fail;refine(ct2 _ h2).mono ?_;rintro e w3 ⟨rfl,h3,hk3⟩;go_wp2_with fail;go_ret;refine⟨?_,h3,(hk1.trans (bo.of_below hb2)).trans hk3⟩;show Ending.returned (ag N)= .returned (ag (1*N));rw[Int.one_mul]
    ·have e1:decide ((-1:Int)= -1)=true:=(by decide);rw[e1]at c1;go_enter func202,ntmps202;go_wp2_with fail;refine c1.mono ?_;rintro e w1 ⟨rfl,h1,hk1⟩;go_wp2_with fail;refine(cs' _ h1).mono ?_;rintro e w2 ⟨rfl,h2,hb2⟩;go_wp2_with fail;refine(ct2 _ h2).mono ?_;rintro e w3 ⟨rfl,h3,hk3⟩;go_wp2_with fail;go_ret;refine⟨?_,h3,(hk1.trans (bo.of_below hb2)).trans hk3⟩;show Ending.returned (ag (-N))= .returned (ag (-1*N));rw[Int.neg_mul,Int.one_mul]
 ·rw[aD h6]at hx;have cn':=fun w1 h1=>cn w1 h1 h6;subst hx;rcases hsg with rfl|rfl
  ·have e1:decide ((1:Int)= -1)=false:=(by decide);rw[e1]at c1;go_enter func202,ntmps202;go_wp2_with fail;refine c1.mono ?_;rintro e w1 ⟨rfl,h1,hk1⟩;go_wp2_with fail;refine(cn' _ h1).mono ?_;rintro e w2 ⟨rfl,hb2⟩;exact⟨rfl,rfl,hk1.trans (bo.of_below hb2)⟩
  ·have e1:decide ((-1:Int)= -1)=true:=(by decide);rw[e1]at c1;go_enter func202,ntmps202;go_wp2_with fail;refine c1.mono ?_;rintro e w1 ⟨rfl,h1,hk1⟩;go_wp2_with fail;refine(cn' _ h1).mono ?_;rintro e w2 ⟨rfl,hb2⟩;exact⟨rfl,rfl,hk1.trans (bo.of_below hb2)⟩
theorem Gm (h0:PS0 all E g v)(h:PSt all E g v w i n):Calls prog 202 #[ab g 0] w (vD all E g v w n (oW all E i)):=by
 cases hm:isT gC (all.drop i) with
 |true=>
  refine wN h0 (-1) (i+1) (.inr rfl) _ ?_ (fV h0 h gC (by decide) hm);unfold oW og;rw[hm];simp only[if_true,Int.neg_mul,Int.one_mul]
 |false=>
  refine wN h0 1 i (.inl rfl) _ ?_ (ew h0 h gC hm);unfold oW og;rw[hm];simp only[Bool.false_eq_true,if_false,Int.one_mul]
theorem qg (x:List UInt8)(j:Nat)(hj:j<7)(h:x=fy.getD j []):dayBit x=2^j:=by
 subst h;match j,hj with
 |0,_=>rfl
 |1,_=>rfl
 |2,_=>rfl
 |3,_=>rfl
 |4,_=>rfl
 |5,_=>rfl
 |6,_=>rfl
theorem Jf (x:List UInt8)(h: ∀j,j<7->x≠fy.getD j []):dayBit x=0:=by
 unfold dayBit;rw[ax (h 0 (by omega)),ax (h 1 (by omega)),ax (h 2 (by omega)),ax (h 3 (by omega)),ax (h 4 (by omega)),ax (h 5 (by omega)),ax (h 6 (by omega))]
def lg (all:List Tk)(E i:Nat):Except (Int×Nat) (Int×Nat):=if dayBit (textP (all.drop i))=0 then .error (2,atP E (all.drop i)) else .ok ((dayBit (textP (all.drop i)):Int),i+1)
theorem Lm (w:World):(Instr.index 284 (.agg #[.string ⟨#[109,111,110]⟩,.string ⟨#[116,117,101]⟩,.string ⟨#[119,101,100]⟩,.string ⟨#[116,104,117]⟩,.string ⟨#[102,114,105]⟩,.string ⟨#[115,97,116]⟩,.string ⟨#[115,117,110]⟩]) (ag 0)).run prog w= .ok (.string ⟨#[109,111,110]⟩) w:=by
 unfold Instr.index;simp[go_sem]
theorem Ln (w:World):(Instr.index 284 (.agg #[.string ⟨#[109,111,110]⟩,.string ⟨#[116,117,101]⟩,.string ⟨#[119,101,100]⟩,.string ⟨#[116,104,117]⟩,.string ⟨#[102,114,105]⟩,.string ⟨#[115,97,116]⟩,.string ⟨#[115,117,110]⟩]) (ag 1)).run prog w= .ok (.string ⟨#[116,117,101]⟩) w:=by
 unfold Instr.index;simp[go_sem]
theorem Lo (w:World):(Instr.index 284 (.agg #[.string ⟨#[109,111,110]⟩,.string ⟨#[116,117,101]⟩,.string ⟨#[119,101,100]⟩,.string ⟨#[116,104,117]⟩,.string ⟨#[102,114,105]⟩,.string ⟨#[115,97,116]⟩,.string ⟨#[115,117,110]⟩]) (ag 2)).run prog w= .ok (.string ⟨#[119,101,100]⟩) w:=by
 unfold Instr.index;simp[go_sem]
theorem Lp (w:World):(Instr.index 284 (.agg #[.string ⟨#[109,111,110]⟩,.string ⟨#[116,117,101]⟩,.string ⟨#[119,101,100]⟩,.string ⟨#[116,104,117]⟩,.string ⟨#[102,114,105]⟩,.string ⟨#[115,97,116]⟩,.string ⟨#[115,117,110]⟩]) (ag 3)).run prog w= .ok (.string ⟨#[116,104,117]⟩) w:=by
 unfold Instr.index;simp[go_sem]
theorem Lq (w:World):(Instr.index 284 (.agg #[.string ⟨#[109,111,110]⟩,.string ⟨#[116,117,101]⟩,.string ⟨#[119,101,100]⟩,.string ⟨#[116,104,117]⟩,.string ⟨#[102,114,105]⟩,.string ⟨#[115,97,116]⟩,.string ⟨#[115,117,110]⟩]) (ag 4)).run prog w= .ok (.string ⟨#[102,114,105]⟩) w:=by
 unfold Instr.index;simp[go_sem]
theorem Lr (w:World):(Instr.index 284 (.agg #[.string ⟨#[109,111,110]⟩,.string ⟨#[116,117,101]⟩,.string ⟨#[119,101,100]⟩,.string ⟨#[116,104,117]⟩,.string ⟨#[102,114,105]⟩,.string ⟨#[115,97,116]⟩,.string ⟨#[115,117,110]⟩]) (ag 5)).run prog w= .ok (.string ⟨#[115,97,116]⟩) w:=by
 unfold Instr.index;simp[go_sem]
theorem Ls (w:World):(Instr.index 284 (.agg #[.string ⟨#[109,111,110]⟩,.string ⟨#[116,117,101]⟩,.string ⟨#[119,101,100]⟩,.string ⟨#[116,104,117]⟩,.string ⟨#[102,114,105]⟩,.string ⟨#[115,97,116]⟩,.string ⟨#[115,117,110]⟩]) (ag 6)).run prog w= .ok (.string ⟨#[115,117,110]⟩) w:=by
 unfold Instr.index;simp[go_sem]
attribute [local go_sem] Lm Ln Lo Lp Lq Lr Ls
theorem Dq (h0:PS0 all E g v)(h:PSt all E g v w i n):Calls prog 221 #[ab g 0] w (vD all E g v w n (lg all E i)):=by
 have t0:=h.tab 0 (by omega);have t1:=h.tab 1 (by omega);have t2:=h.tab 2 (by omega);have t3:=h.tab 3 (by omega);have t4:=h.tab 4 (by omega);have t5:=h.tab 5 (by omega);have t6:=h.tab 6 (by omega);simp only[fy,List.getD_cons_zero,List.getD_cons_succ]at t0 t1 t2 t3 t4 t5 t6;go_enter func221,ntmps221;go_wp2_with fail;go_loopw [3,4,6] (fun _ _ q wr=> ∃j:Nat,q=ag (j:Int)/\j<=7/\PSt all E g v wr i n/\bo g w wr/\ ∀k,k<j->textP (all.drop i)≠fy.getD k []) (fun _ _ q _=>7-(intOf q).toNat);case atStart=>exact⟨0,rfl,by omega,h,bo.refl _ _,fun k hk=>by omega⟩
 case round=>
  obtain⟨j,rfl,hj,hst,hkp,hall⟩:=hrel;have HA:PH (∀k,k<j->textP (all.drop i)≠fy.getD k []):=hall;by_cases hlt:j<7
  ·have hj7:j=0\/j=1\/j=2\/j=3\/j=4\/j=5\/j=6:=(by omega);rcases hj7 with rfl|rfl|rfl|rfl|rfl|rfl|rfl
   ·by_cases hT:isT (fy.getD 0 []) (all.drop i)=true
    ·have HD:PH (lg all E i= .ok (((1:Nat):Int),i+1)):=by
      have hb:=qg (textP (all.drop i)) 0 (by omega) (by simpa[isT] using hT);show _=_;unfold lg;rw[hb];rfl
     go_wp2_with fail;refine(fV h0 hst _ (by decide) hT).mono ?_;rintro e w1 ⟨rfl,h1,hk1⟩;go_wp2_with fail;go_ret;rw[HD.o];exact⟨rfl,h1,hkp.trans hk1⟩
    ·have hT':isT (fy.getD 0 []) (all.drop i)=false:=(by simpa using hT)
     have HN:PH (∀k,k<1->textP (all.drop i)≠fy.getD k []):=fun k hk=>by
      by_cases q:k=0
      ·subst q;simpa[isT] using hT
      ·exact HA.o k (by omega)
     go_wp2_with fail;refine(ew h0 hst _ hT').mono ?_;rintro e w1 ⟨rfl,h1,hk1⟩;go_wp2_with fail;go_roundw;case rel=>exact⟨1,rfl,by omega,h1,hkp.trans hk1,HN.o⟩
     case measure=>simp[intOf]
   ·by_cases hT:isT (fy.getD 1 []) (all.drop i)=true
    ·have HD:PH (lg all E i= .ok (((2:Nat):Int),i+1)):=by
      have hb:=qg (textP (all.drop i)) 1 (by omega) (by simpa[isT] using hT);show _=_;unfold lg;rw[hb];rfl
     go_wp2_with fail;refine(fV h0 hst _ (by decide) hT).mono ?_;rintro e w1 ⟨rfl,h1,hk1⟩;go_wp2_with fail;go_ret;rw[HD.o];exact⟨rfl,h1,hkp.trans hk1⟩
    ·have hT':isT (fy.getD 1 []) (all.drop i)=false:=(by simpa using hT)
     have HN:PH (∀k,k<2->textP (all.drop i)≠fy.getD k []):=fun k hk=>by
      by_cases q:k=1
      ·subst q;simpa[isT] using hT
      ·exact HA.o k (by omega)
     go_wp2_with fail;refine(ew h0 hst _ hT').mono ?_;rintro e w1 ⟨rfl,h1,hk1⟩;go_wp2_with fail;go_roundw;case rel=>exact⟨2,rfl,by omega,h1,hkp.trans hk1,HN.o⟩
     case measure=>simp[intOf]
   ·by_cases hT:isT (fy.getD 2 []) (all.drop i)=true
    ·have HD:PH (lg all E i= .ok (((4:Nat):Int),i+1)):=by
      have hb:=qg (textP (all.drop i)) 2 (by omega) (by simpa[isT] using hT);show _=_;unfold lg;rw[hb];rfl
     go_wp2_with fail;refine(fV h0 hst _ (by decide) hT).mono ?_;rintro e w1 ⟨rfl,h1,hk1⟩;go_wp2_with fail;go_ret;rw[HD.o];exact⟨rfl,h1,hkp.trans hk1⟩
    ·have hT':isT (fy.getD 2 []) (all.drop i)=false:=(by simpa using hT)
     have HN:PH (∀k,k<3->textP (all.drop i)≠fy.getD k []):=fun k hk=>by
      by_cases q:k=2
      ·subst q;simpa[isT] using hT
      ·exact HA.o k (by omega)
     go_wp2_with fail;refine(ew h0 hst _ hT').mono ?_;rintro e w1 ⟨rfl,h1,hk1⟩;go_wp2_with fail;go_roundw;case rel=>exact⟨3,rfl,by omega,h1,hkp.trans hk1,HN.o⟩
     case measure=>simp[intOf]
   ·by_cases hT:isT (fy.getD 3 []) (all.drop i)=true
    ·have HD:PH (lg all E i= .ok (((8:Nat):Int),i+1)):=by
      have hb:=qg (textP (all.drop i)) 3 (by omega) (by simpa[isT] using hT);show _=_;unfold lg;rw[hb];rfl
     go_wp2_with fail;refine(fV h0 hst _ (by decide) hT).mono ?_;rintro e w1 ⟨rfl,h1,hk1⟩;go_wp2_with fail;go_ret;rw[HD.o];exact⟨rfl,h1,hkp.trans hk1⟩
    ·have hT':isT (fy.getD 3 []) (all.drop i)=false:=(by simpa using hT)
     have HN:PH (∀k,k<4->textP (all.drop i)≠fy.getD k []):=fun k hk=>by
      by_cases q:k=3
      ·subst q;simpa[isT] using hT
      ·exact HA.o k (by omega)
     go_wp2_with fail;refine(ew h0 hst _ hT').mono ?_;rintro e w1 ⟨rfl,h1,hk1⟩;go_wp2_with fail;go_roundw;case rel=>exact⟨4,rfl,by omega,h1,hkp.trans hk1,HN.o⟩
     case measure=>simp[intOf]
   ·by_cases hT:isT (fy.getD 4 []) (all.drop i)=true
    ·have HD:PH (lg all E i= .ok (((16:Nat):Int),i+1)):=by
      have hb:=qg (textP (all.drop i)) 4 (by omega) (by simpa[isT] using hT);show _=_;unfold lg;rw[hb];rfl
     go_wp2_with fail;refine(fV h0 hst _ (by decide) hT).mono ?_;rintro e w1 ⟨rfl,h1,hk1⟩;go_wp2_with fail;go_ret;rw[HD.o];exact⟨rfl,h1,hkp.trans hk1⟩
    ·have hT':isT (fy.getD 4 []) (all.drop i)=false:=(by simpa using hT)
     have HN:PH (∀k,k<5->textP (all.drop i)≠fy.getD k []):=fun k hk=>by
      by_cases q:k=4
      ·subst q;simpa[isT] using hT
      ·exact HA.o k (by omega)
     go_wp2_with fail;refine(ew h0 hst _ hT').mono ?_;rintro e w1 ⟨rfl,h1,hk1⟩;go_wp2_with fail;go_roundw;case rel=>exact⟨5,rfl,by omega,h1,hkp.trans hk1,HN.o⟩
     case measure=>simp[intOf]
   ·by_cases hT:isT (fy.getD 5 []) (all.drop i)=true
    ·have HD:PH (lg all E i= .ok (((32:Nat):Int),i+1)):=by
      have hb:=qg (textP (all.drop i)) 5 (by omega) (by simpa[isT] using hT);show _=_;unfold lg;rw[hb];rfl
     go_wp2_with fail;refine(fV h0 hst _ (by decide) hT).mono ?_;rintro e w1 ⟨rfl,h1,hk1⟩;go_wp2_with fail;go_ret;rw[HD.o];exact⟨rfl,h1,hkp.trans hk1⟩
    ·have hT':isT (fy.getD 5 []) (all.drop i)=false:=(by simpa using hT)
     have HN:PH (∀k,k<6->textP (all.drop i)≠fy.getD k []):=fun k hk=>by
      by_cases q:k=5
      ·subst q;simpa[isT] using hT
      ·exact HA.o k (by omega)
     go_wp2_with fail;refine(ew h0 hst _ hT').mono ?_;rintro e w1 ⟨rfl,h1,hk1⟩;go_wp2_with fail;go_roundw;case rel=>exact⟨6,rfl,by omega,h1,hkp.trans hk1,HN.o⟩
     case measure=>simp[intOf]
   ·by_cases hT:isT (fy.getD 6 []) (all.drop i)=true
    ·have HD:PH (lg all E i= .ok (((64:Nat):Int),i+1)):=by
      have hb:=qg (textP (all.drop i)) 6 (by omega) (by simpa[isT] using hT);show _=_;unfold lg;rw[hb];rfl
     go_wp2_with fail;refine(fV h0 hst _ (by decide) hT).mono ?_;rintro e w1 ⟨rfl,h1,hk1⟩;go_wp2_with fail;go_ret;rw[HD.o];exact⟨rfl,h1,hkp.trans hk1⟩
    ·have hT':isT (fy.getD 6 []) (all.drop i)=false:=(by simpa using hT)
     have HN:PH (∀k,k<7->textP (all.drop i)≠fy.getD k []):=fun k hk=>by
      by_cases q:k=6
      ·subst q;simpa[isT] using hT
      ·exact HA.o k (by omega)
     go_wp2_with fail;refine(ew h0 hst _ hT').mono ?_;rintro e w1 ⟨rfl,h1,hk1⟩;go_wp2_with fail;go_roundw;case rel=>exact⟨7,rfl,by omega,h1,hkp.trans hk1,HN.o⟩
     case measure=>simp[intOf]
  ·have e7:j=7:=(by omega);subst e7
   have HD:PH (lg all E i= .error (2,atP E (all.drop i))):=by
    show _=_;unfold lg;rw[aD (Jf _ HA.o)]
   go_wp2_with fail;refine(ld h0 hst 2).mono ?_;rintro e w1 ⟨rfl,hb1⟩;refine⟨rfl,?_⟩;rw[HD.o];exact⟨rfl,hkp.trans (bo.of_below hb1)⟩
end
section
variable {all:List Tk} {E g:Nat} {v:Value} {w:World} {i n:Nat}
def r9:Array Value:= #[ag 0,ag 0,ag 0,.string ⟨#[]⟩,af]
theorem bo.at {w':World}{k:Nat}{o:Obj}(h:bo g w w')(hk:w.heap[k]? =some o)(hne:k≠g):w'.heap[k]? =some o:=(h.block k (aH hk) (fun e=>hne (aN e))).trans hk
theorem jP {w4 w5:World}{X:Res}{e:Ending}(h:PSt all E g v w i n)(h0:PS0 all E g v)(hk4:bo g w w4)(hz4:w4.heap[w.heap.size]? =ah r9 104)
  (ho:jw all E g v w4 (fun k=>w.heap.size+1<=k) X e w5):
  (∃ch,e= .panicked ch/\jw all E g v w (fun k=>w.heap.size<=k) X e w5)\/
  (∃(a b c:Int) (x:ByteArray) (p:Option Addr) (q r:Nat),e= .returned (.agg #[ag a,ag b,ag c,.string x,.slice p q r])/\w5.heap[w.heap.size]? =ah r9 104/\ ∀cs,jw all E g v w (fun k=>w.heap.size<=k) X e (w5.setRow w.heap.size cs)):=by
 have hgl:=aH h.blk;cases hx:X with
 |error q=>
  obtain⟨er,at_⟩:=q;rw[hx]at ho;obtain⟨rfl,hk5⟩:=ho;exact .inl ⟨_,rfl,rfl,hk4.trans hk5⟩
 |ok q=>
  obtain⟨ex,rr,nn⟩:=q;rw[hx]at ho;obtain⟨i',sl,dd,hr',rfl,hkd,h5,hn5,hk5⟩:=ho;obtain⟨p5,c5,rfl⟩:=hkd.form;have hkw:=hk4.trans hk5;refine .inr ⟨_,_,_,_,p5,ex.kids.length,c5,rfl,hk5.at hz4 (by omega),fun cs=> ?_⟩;refine⟨i',_,dd,hr',rfl,?_,h.of_kept h0 (hkw.setRow (aB _) cs) ((aV _ _ _ _ (by omega)).trans h5.blk) h5.le,hn5,hkw.setRow (aB _) cs⟩;exact(hkd.kept fun k hk _=>aV _ _ _ _ (by omega)).mono fun k hk=>(by omega)
theorem fA (i:Nat):(all.drop i).tail=all.drop (i+1):=by rw[List.tail_drop]
theorem mx (w:World):(w.alloc (.cells #[ag 0,ag 0,ag 0,.string ⟨#[]⟩,af] 104)).heap[w.heap.size]? =ah r9 104:=aE w _
def wO (E:Nat)(r:List Tk)(n:Nat):Res:=
 if kindP r≠4 then dW E 2 r
 else if isT gC r.tail then
  if kindP r.tail.tail≠4 then dW E 2 r.tail.tail
  else if numP r.tail.tail<numP r+1 then dW E 3 r.tail.tail
  else dE E ⟨3,numP r,numP r.tail.tail,[],[]⟩ r.tail.tail.tail n
 else dW E 2 r.tail
theorem Jg (h0:PS0 all E g v)(h:PSt all E g v w i n)(hn6:n<=600):
  Calls prog 218 #[ab g 0] w (jw all E g v w (fun k=>w.heap.size<=k) (wO E (all.drop i) n)):=by
 have hgl:=aH h.blk;have hb0:aq w (w.alloc (.cells #[ag 0,ag 0,ag 0,.string ⟨#[]⟩,af] 104)):=am _ _;have hz:=mx w;have hA:=h.below hb0 h0;have hkA:=bo.of_below (g:=g) hb0;have hsz:(w.alloc (.cells #[ag 0,ag 0,ag 0,.string ⟨#[]⟩,af] 104)).heap.size=w.heap.size+1:=by simp
 have n1:=wH h0 i;unfold wO dW;simp only[fA];generalize hwA:w.alloc (.cells #[ag 0,ag 0,ag 0,.string ⟨#[]⟩,af] 104)=wA at*;by_cases h4:kindP (all.drop i)=4
 ·have c1:=qe h0 hA 4 (by decide) h4;rw[ax (by simp[h4])];unfold j9 at c1;generalize numP (all.drop i)=N at*;generalize kindP (all.drop i)=t0 at*;by_cases hm:isT gC (all.drop (i+1))=true
  ·rw[aD hm];have c2:=fun(w1:World) (h1:PSt all E g v w1 (i+1) n)=>od h0 h1 gC (by decide) hm;by_cases h4:kindP (all.drop (i+1+1))=4
   ·rw[ax (by simp[h4])];by_cases hlt:numP (all.drop (i+1+1))<N+1
    ·rw[aD hlt];have c3:=fun(w1:World) (h1:PSt all E g v w1 (i+1+1) n)=>oe h0 h1 4 (N+1) h4 hlt;go_enter func218,ntmps218;go_wp2_with fail;refine c1.mono ?_;rintro e w1 ⟨rfl,h1,hk1⟩;go_wp2_with fail;refine(c2 _ h1).mono ?_;rintro e w2 ⟨rfl,h2,hk2⟩;go_wp2_with fail;refine(c3 _ h2).mono ?_;rintro e w3 ⟨rfl,hk3⟩;exact⟨rfl,rfl,((hkA.trans hk1).trans hk2).trans hk3⟩
    ·rw[ax hlt];have c3:=fun(w1:World) (h1:PSt all E g v w1 (i+1+1) n)=>qf h0 h1 4 (N+1) (by decide) h4 hlt;unfold j9 at c3;have n2:=wH h0 (i+1+1);generalize numP (all.drop (i+1+1))=M at*;have c4:=fun(w1:World) (h1:PSt all E g v w1 (i+1+1+1) n)=>kB h0 h1 hn6 (fun k=>w.heap.size+1<=k) (fun k hk=>by omega) ⟨3,N,M,[],[]⟩ (af) 0 (dw.nil _ _ _ _ _);unfold exV at c4;go_enter func218,ntmps218;go_wp2_with fail;refine c1.mono ?_;rintro e w1 ⟨rfl,h1,hk1⟩;go_wp2_with fail;refine(c2 _ h1).mono ?_;rintro e w2 ⟨rfl,h2,hk2⟩;go_wp2_with fail;refine(c3 _ h2).mono ?_;rintro e w3 ⟨rfl,h3,hk3⟩;have hk4:=((hkA.trans hk1).trans hk2).trans hk3;have hz3:=((hk1.trans hk2).trans hk3).at hz (by omega);go_wp2_with fail;refine(c4 _ h3).mono ?_;intro e w5 ho;rcases jP h h0 hk4 hz3 ho with⟨ch,rfl,hO⟩|⟨a,b,c,x,p,q,r,rfl,hz5,hO⟩
     ·exact⟨rfl,hO⟩
     ·go_wp2_with(refine ay rfl 104 _ _ rfl _ _ rfl rfl _ _ hz5 (by kernel_rfl) (by rfl) (by simp[Value.oneCell']) ?_)
      exact jJ 2 (by kernel_rfl) w.heap.size _ _ _ _ _ rfl rfl (aL _ _ _ _ _ _ hz5) (hO _)
   ·rw[aD h4];have c3:=fun(w1:World) (h1:PSt all E g v w1 (i+1+1) n)=>sS h0 h1 4 (N+1) h4;go_enter func218,ntmps218;go_wp2_with fail;refine c1.mono ?_;rintro e w1 ⟨rfl,h1,hk1⟩;go_wp2_with fail;refine(c2 _ h1).mono ?_;rintro e w2 ⟨rfl,h2,hk2⟩;go_wp2_with fail;refine(c3 _ h2).mono ?_;rintro e w3 ⟨rfl,hk3⟩;exact⟨rfl,rfl,((hkA.trans hk1).trans hk2).trans hk3⟩
  ·have hm':isT gC (all.drop (i+1))=false:=(by simpa using hm);rw[ax hm];have c2:=fun(w1:World) (h1:PSt all E g v w1 (i+1) n)=>pR h0 h1 gC hm';go_enter func218,ntmps218;go_wp2_with fail;refine c1.mono ?_;rintro e w1 ⟨rfl,h1,hk1⟩;go_wp2_with fail;refine(c2 _ h1).mono ?_;rintro e w2 ⟨rfl,hk2⟩;exact⟨rfl,rfl,(hkA.trans hk1).trans hk2⟩
 ·have c1:=yt h0 hA 4 h4;rw[aD h4];go_enter func218,ntmps218;go_wp2_with fail;refine c1.mono ?_;rintro e w1 ⟨rfl,hk1⟩;exact⟨rfl,rfl,hkA.trans hk1⟩
def RC (all:List Tk)(E g:Nat)(v:Value)(f:FuncId)(m i:Nat):Prop:= ∀(w:World) (n d:Nat),PSt all E g v w i n->n<=600->d<=41->
 Calls prog f #[ab g 0,ag (d:Int)] w (jw all E g v w (fun k=>w.heap.size<=k) (rd E m d ex0 (all.drop i) n))
def Jh (all:List Tk)(E g:Nat)(v:Value)(w:World)(B:Nat->Prop)(x:Res)(e:Ending)(w':World):Prop:=
 match x with
 | .error (er,at_)=>e= .panicked (jk er at_)/\bo g w w'
 | .ok (k,r,n)=> ∃(i b d:Nat),r=all.drop i/\e= .returned (.slice (some (ae b 0)) 1 1)/\dw B d w' (.slice (some (ae b 0)) 1 1) [k]/\PSt all E g v w' i n/\n<=600/\bo g w w'
def qh (E d:Nat)(r:List Tk)(n:Nat):Res:=if isT mQ r then rd E 4 (d+1) ex0 r.tail n else dW E 2 r
theorem tj (h0:PS0 all E g v)(h:PSt all E g v w i n)(hn6:n<=600)(d:Nat)(hd:d<=40)(hF:RC all E g v 177 4 (i+1)):
  Calls prog 222 #[ab g 0,ag (d:Int)] w (Jh all E g v w (fun k=>w.heap.size<=k) (qh E d (all.drop i) n)):=by
 have hgl:=aH h.blk;unfold qh;rw[fA];by_cases hm:isT mQ (all.drop i)=true
 ·rw[aD hm];have c1:=od h0 h mQ (by decide) hm;have c2: ∀(w1:World),PSt all E g v w1 (i+1) n->Calls prog 177 #[ab g 0,ag ((d:Int)+1)] w1 (jw all E g v w1 (fun k=>w1.heap.size<=k) (rd E 4 (d+1) ex0 (all.drop (i+1)) n)):=fun w1 h1=>hF w1 n (d+1) h1 hn6 (by omega);have hd':(d:Int)<=40:=(by omega);have hd0:(0:Int)<=(d:Int):=(by omega);go_enter func222,ntmps222;go_wp2_with fail;refine c1.mono ?_;rintro e w1 ⟨rfl,h1,hk1⟩;go_wp2_with fail;refine(c2 _ h1).mono ?_;intro e w2 ho;cases hx:rd E 4 (d+1) ex0 (all.drop (i+1)) n with
  |error q=>
   obtain⟨er,at_⟩:=q;rw[hx]at ho;obtain⟨rfl,hk2⟩:=ho;refine⟨rfl,?_⟩;rw[hx];exact⟨rfl,hk1.trans hk2⟩
  |ok q=>
   obtain⟨ex,rr,nn⟩:=q;rw[hx]at ho;obtain⟨i',sl,dd,hr',rfl,hkd,h2,hn2,hk2⟩:=ho;obtain⟨p5,c5,rfl⟩:=hkd.form;have hs1:=hk1.size;have hs2:=hk2.size;have hkw:=(hk1.trans hk2).alloc (.cells #[ag ex.kind,ag ex.a,ag ex.b,.string ⟨ex.name.toArray⟩,.slice p5 ex.kids.length c5] 104);have hb3:aq w2 (w2.alloc (.cells #[ag ex.kind,ag ex.a,ag ex.b,.string ⟨ex.name.toArray⟩,.slice p5 ex.kids.length c5] 104)):=am _ _;have hkd3:=(bo.of_below (g:=g) hb3).kids (B:=fun k=>w.heap.size<=k) (fun k hk=>by omega) (hkd.mono fun k hk=>by omega);have kk:=A7 (B:=fun k=>w.heap.size<=k) (by show w.heap.size<=w2.heap.size;omega) (aE w2 (.cells #[ag ex.kind,ag ex.a,ag ex.b,.string ⟨ex.name.toArray⟩,.slice p5 ex.kids.length c5] 104)) hkd3;have h3:=h2.below hb3 h0
   have HO:PH (Jh all E g v w (fun k=>w.heap.size<=k) (rd E 4 (d+1) ex0 (all.drop (i+1)) n) (.returned (.slice (some (ae w2.heap.size 0)) 1 1)) (w2.alloc (.cells #[ag ex.kind,ag ex.a,ag ex.b,.string ⟨ex.name.toArray⟩,.slice p5 ex.kids.length c5] 104))):=by
    show Jh _ _ _ _ _ _ _ _ _;rw[hx];exact⟨i',_,_,hr',rfl,kk,h3,hn2,hkw⟩
   unfold exV;go_wp2_with fail;go_ret;exact HO.o
 ·have hm':isT mQ (all.drop i)=false:=by simpa using hm
  rw[ax hm];have c1:=pR h0 h mQ hm';go_enter func222,ntmps222;go_wp2_with fail;refine c1.mono ?_;rintro e w1 ⟨rfl,hk1⟩;exact⟨rfl,rfl,hk1⟩
theorem tm (E d:Nat)(e:Ex)(r:List Tk)(n:Nat):rd E 8 d e r n=dl (qh E d r n) fun k r n=>dE E ⟨e.kind,e.a,e.b,[],[k]⟩ r n:=by
 rw[Pb];unfold qh;split
 ·rfl
 ·rfl
end
section
variable {all:List Tk} {E g:Nat} {v:Value} {w:World} {i n:Nat}
def tn (E d:Nat)(r:List Tk)(n:Nat):Res:=
 if kindP r≠5 then dW E 2 r
 else if isT wTo r.tail then
  if kindP r.tail.tail≠5 then dW E 2 r.tail.tail
  else if numP r.tail.tail<numP r then dW E 3 r.tail.tail
  else rd E 8 d ⟨5,numP r,numP r.tail.tail,[],[]⟩ r.tail.tail.tail n
 else rd E 8 d ⟨5,numP r,numP r,[],[]⟩ r.tail n
theorem Gn (h0:PS0 all E g v)(h:PSt all E g v w i n)(hn6:n<=600)(d:Nat)(hd:d<=40)(hF: ∀j,i<j->RC all E g v 177 4 j):
  Calls prog 217 #[ab g 0,ag (d:Int)] w (jw all E g v w (fun k=>w.heap.size<=k) (tn E d (all.drop i) n)):=by
 have hgl:=aH h.blk;have hb0:aq w (w.alloc (.cells #[ag 0,ag 0,ag 0,.string ⟨#[]⟩,af] 104)):=am _ _;have hz:=mx w;have hA:=h.below hb0 h0;have hkA:=bo.of_below (g:=g) hb0;unfold tn dW;simp only[fA];generalize hwA:w.alloc (.cells #[ag 0,ag 0,ag 0,.string ⟨#[]⟩,af] 104)=wA at*;by_cases h5:kindP (all.drop i)=5
 ·have c1:=qe h0 hA 5 (by decide) h5;rw[ax (by simp[h5])];unfold j9 at c1;generalize numP (all.drop i)=N at*;generalize kindP (all.drop i)=t0 at*;by_cases hm:isT wTo (all.drop (i+1))=true
  ·rw[aD hm];have c2:=fun(w1:World) (h1:PSt all E g v w1 (i+1) n)=>fV h0 h1 wTo (by decide) hm;by_cases h5:kindP (all.drop (i+1+1))=5
   ·rw[ax (by simp[h5])];by_cases hlt:numP (all.drop (i+1+1))<N
    ·rw[aD hlt];have c3:=fun(w1:World) (h1:PSt all E g v w1 (i+1+1) n)=>oe h0 h1 5 N h5 hlt;go_enter func217,ntmps217;go_wp2_with fail;refine c1.mono ?_;rintro e w1 ⟨rfl,h1,hk1⟩;go_wp2_with fail;refine(c2 _ h1).mono ?_;rintro e w2 ⟨rfl,h2,hk2⟩;go_wp2_with fail;refine(c3 _ h2).mono ?_;rintro e w3 ⟨rfl,hk3⟩;exact⟨rfl,rfl,((hkA.trans hk1).trans hk2).trans hk3⟩
    ·rw[ax hlt];have c3:=fun(w1:World) (h1:PSt all E g v w1 (i+1+1) n)=>qf h0 h1 5 N (by decide) h5 hlt;unfold j9 at c3;generalize numP (all.drop (i+1+1))=M at*;generalize hX:rd E 8 d ⟨5,N,M,[],[]⟩ (all.drop (i+1+1+1)) n=X;have HX:PH (rd E 8 d ⟨5,N,M,[],[]⟩ (all.drop (i+1+1+1)) n=X):=hX;go_enter func217,ntmps217;go_wp2_with fail;refine c1.mono ?_;rintro e w1 ⟨rfl,h1,hk1⟩;go_wp2_with fail;refine(c2 _ h1).mono ?_;rintro e w2 ⟨rfl,h2,hk2⟩;go_wp2_with fail;refine(c3 _ h2).mono ?_;rintro e w3 ⟨rfl,h3,hk3'⟩;have hk3:=((hkA.trans hk1).trans hk2).trans hk3';have hz3:=((hk1.trans hk2).trans hk3').at hz (by omega);have hXX:=HX.o;rw[tm]at hXX;go_wp2_with fail;refine(tj h0 h3 hn6 d hd (hF (i+1+1+1+1) (by omega))).mono ?_;intro e w5 ho;cases hx:qh E d (all.drop (i+1+1+1)) n with
     |error q=>
      obtain⟨er,at_⟩:=q;rw[hx]at ho;obtain⟨rfl,hk5⟩:=ho;rw[hx]at hXX;refine⟨rfl,?_⟩;rw[<-hXX];exact⟨rfl,hk3.trans hk5⟩
     |ok q=>
      obtain⟨kx,rr,nn⟩:=q;rw[hx]at ho;obtain⟨i',bk,dd,hr',rfl,hkd,h5,hn5,hk5⟩:=ho;subst hr';have hs3:=hk3.size;have hz5:=hk5.at hz3 (by omega);have hl3:=aH hz3;have c5:=kB h0 h5 hn5 (fun k=>w.heap.size+1<=k) (fun k hk=>by omega) ⟨5,N,M,[],[kx]⟩ (.slice (some (ae bk 0)) 1 1) dd (hkd.mono fun k hk=>by omega);unfold exV at c5;have hk35:=hk3.trans hk5;rw[hx]at hXX;rw[show dE E ⟨5,N,M,[],[kx]⟩ (all.drop i') nn=X from hXX]at c5;go_wp2_with fail;refine c5.mono ?_;intro e w6 ho;rcases jP h h0 hk35 hz5 ho with⟨ch,rfl,hO⟩|⟨a',b',c',x',p',q',r',rfl,hz6,hO⟩
      ·exact⟨rfl,hO⟩
      ·go_wp2_with(refine ay rfl 104 _ _ rfl _ _ rfl rfl _ _ hz6 (by kernel_rfl) (by rfl) (by simp[Value.oneCell']) ?_)
       exact jJ 4 (by kernel_rfl) w.heap.size _ _ _ _ _ rfl rfl (aL _ _ _ _ _ _ hz6) (hO _)
   ·rw[aD h5];have c3:=fun(w1:World) (h1:PSt all E g v w1 (i+1+1) n)=>sS h0 h1 5 N h5;go_enter func217,ntmps217;go_wp2_with fail;refine c1.mono ?_;rintro e w1 ⟨rfl,h1,hk1⟩;go_wp2_with fail;refine(c2 _ h1).mono ?_;rintro e w2 ⟨rfl,h2,hk2⟩;go_wp2_with fail;refine(c3 _ h2).mono ?_;rintro e w3 ⟨rfl,hk3⟩;exact⟨rfl,rfl,((hkA.trans hk1).trans hk2).trans hk3⟩
  ·have hm':isT wTo (all.drop (i+1))=false:=(by simpa using hm);rw[ax hm];have c2:=fun(w1:World) (h1:PSt all E g v w1 (i+1) n)=>ew h0 h1 wTo hm';generalize hX:rd E 8 d ⟨5,N,N,[],[]⟩ (all.drop (i+1)) n=X;have HX:PH (rd E 8 d ⟨5,N,N,[],[]⟩ (all.drop (i+1)) n=X):=hX;go_enter func217,ntmps217;go_wp2_with fail;refine c1.mono ?_;rintro e w1 ⟨rfl,h1,hk1⟩;go_wp2_with fail;refine(c2 _ h1).mono ?_;rintro e w3 ⟨rfl,h3,hk2⟩;have hk3:=(hkA.trans hk1).trans hk2;have hz3:=(hk1.trans hk2).at hz (by omega);have hXX:=HX.o;rw[tm]at hXX;go_wp2_with fail;refine(tj h0 h3 hn6 d hd (hF (i+1+1) (by omega))).mono ?_;intro e w5 ho;cases hx:qh E d (all.drop (i+1)) n with
   |error q=>
    obtain⟨er,at_⟩:=q;rw[hx]at ho;obtain⟨rfl,hk5⟩:=ho;rw[hx]at hXX;refine⟨rfl,?_⟩;rw[<-hXX];exact⟨rfl,hk3.trans hk5⟩
   |ok q=>
    obtain⟨kx,rr,nn⟩:=q;rw[hx]at ho;obtain⟨i',bk,dd,hr',rfl,hkd,h5,hn5,hk5⟩:=ho;subst hr';have hs3:=hk3.size;have hz5:=hk5.at hz3 (by omega);have hl3:=aH hz3;have c5:=kB h0 h5 hn5 (fun k=>w.heap.size+1<=k) (fun k hk=>by omega) ⟨5,N,N,[],[kx]⟩ (.slice (some (ae bk 0)) 1 1) dd (hkd.mono fun k hk=>by omega);unfold exV at c5;have hk35:=hk3.trans hk5;rw[hx]at hXX;rw[show dE E ⟨5,N,N,[],[kx]⟩ (all.drop i') nn=X from hXX]at c5;go_wp2_with fail;refine c5.mono ?_;intro e w6 ho;rcases jP h h0 hk35 hz5 ho with⟨ch,rfl,hO⟩|⟨a',b',c',x',p',q',r',rfl,hz6,hO⟩
    ·exact⟨rfl,hO⟩
    ·go_wp2_with(refine ay rfl 104 _ _ rfl _ _ rfl rfl _ _ hz6 (by kernel_rfl) (by rfl) (by simp[Value.oneCell']) ?_)
     exact jJ 4 (by kernel_rfl) w.heap.size _ _ _ _ _ rfl rfl (aL _ _ _ _ _ _ hz6) (hO _)
 ·have c1:=yt h0 hA 5 h5;rw[aD h5];go_enter func217,ntmps217;go_wp2_with fail;refine c1.mono ?_;rintro e w1 ⟨rfl,hk1⟩;exact⟨rfl,rfl,hkA.trans hk1⟩
def rH (E d:Nat)(a:Nat)(r:List Tk)(n:Nat):Res:=if isT oU r then rd E 7 d ⟨0,(a:Int),0,[],[]⟩ r.tail n else rd E 8 d ⟨4,(a:Int),0,[],[]⟩ r n
theorem Gp (E d:Nat)(e:Ex)(r:List Tk)(n:Nat)(h:dayBit (textP r)=0):rd E 7 d e r n=dW E 2 r:=by rw[M2,aD h]
theorem Dr (E d:Nat)(e:Ex)(r:List Tk)(n:Nat)(h:dayBit (textP r)≠0):rd E 7 d e r n=rH E d (e.a.toNat|||dayBit (textP r)) r.tail n:=by rw[M2,ax h];rfl
theorem Gq (x:List UInt8):dayBit x<128:=by
 unfold dayBit;repeat (split; ·omega)
 omega
theorem Ot: ∀a:Fin 128,∀b:Fin 128,bits BinOp.or IntKind.i64 ((a.val:Nat):Int) ((b.val:Nat):Int)=((a.val|||b.val:Nat):Int):=by decide+kernel
theorem Ou {a b:Nat}(ha:a<128)(hb:b<128):bits BinOp.or IntKind.i64 (a:Int) (b:Int)=((a|||b:Nat):Int):=Ot ⟨a,ha⟩ ⟨b,hb⟩
theorem Ov {a b:Nat}(ha:a<128)(hb:b<128):a|||b<128:=Nat.or_lt_two_pow (n:=7) ha hb
theorem Er (h0:PS0 all E g v)(h:PSt all E g v w i n)(hn6:n<=600)(d:Nat)(hd:d<=40)(hF: ∀j,i<j->RC all E g v 177 4 j):
  Calls prog 216 #[ab g 0,ag (d:Int)] w (jw all E g v w (fun k=>w.heap.size<=k) (rd E 7 d ex0 (all.drop i) n)):=by
 have hgl:=aH h.blk;have hb0:aq w (w.alloc (.cells #[ag 0,ag 0,ag 0,.string ⟨#[]⟩,af] 104)):=am _ _;have hz:=mx w;have hA:=h.below hb0 h0;have hkA:=bo.of_below (g:=g) hb0;have hlen:=h0.len;generalize hwA:w.alloc (.cells #[ag 0,ag 0,ag 0,.string ⟨#[]⟩,af] 104)=wA at*;have c1:=Dq h0 hA;unfold lg at c1;by_cases hd0:dayBit (textP (all.drop i))=0
 ·rw[aD hd0]at c1;rw[Gp _ _ _ _ _ hd0];go_enter func216,ntmps216;go_wp2_with fail;refine c1.mono ?_;rintro e w1 ⟨rfl,hk1⟩;exact⟨rfl,rfl,hkA.trans hk1⟩
 ·rw[ax hd0]at c1;rw[Dr _ _ _ _ _ hd0,fA];have ha:=Gq (textP (all.drop i));have ez:(ex0.a.toNat|||dayBit (textP (all.drop i)))=dayBit (textP (all.drop i)):=(by show(0|||_)=_;exact Nat.zero_or _);rw[ez];generalize dayBit (textP (all.drop i))=a0 at*;generalize hX:rH E d a0 (all.drop (i+1)) n=X;go_enter func216,ntmps216;go_wp2_with fail;refine c1.mono ?_;rintro e w1 ⟨rfl,h1,hk1⟩;have hk1':=hkA.trans hk1;have hz1:=hk1.at hz (by omega);go_wp2_with fail;go_loopw [5] (fun q wr=> ∃(a j:Nat),q=ag (a:Int)/\a<128/\i<j/\PSt all E g v wr j n/\bo g w wr/\wr.heap[w.heap.size]? =ah r9 104/\rH E d a (all.drop j) n=X/\wr.heap[g]? =ah #[v,ag (j:Int),ag (E:Int),ag (n:Int)] 128) (fun _ wr=>all.length-(match wr.heap[g]? with|some (.cells cs _ _)=>(intOf (cs.getD 1 undef)).toNat|_=>0));case atStart=>exact⟨a0,i+1,rfl,ha,by omega,h1,hk1',hz1,hX,h1.blk⟩
  case round=>
   obtain⟨a,j,rfl,ha,hij,hst,hkp,hzr,hXr,hblk⟩:=hrel;by_cases hc:isT oU (all.drop j)=true
   ·have hj1:=oc (by decide) hc;have c2:=fV h0 hst oU (by decide) hc;unfold rH at hXr;rw[aD hc,fA]at hXr;have cd:=fun(w1:World) (h1:PSt all E g v w1 (j+1) n)=>Dq h0 h1;unfold lg at cd;by_cases hd0:dayBit (textP (all.drop (j+1)))=0
    ·rw[Gp _ _ _ _ _ hd0]at hXr;have cd':=cd;simp only[aD hd0]at cd';have HX:PH (X=dW E 2 (all.drop (j+1))):=hXr.symm;go_wp2_with fail;refine c2.mono ?_;rintro e w2 ⟨rfl,h2,hk2⟩;go_wp2_with fail;refine(cd' _ h2).mono ?_;rintro e w3 ⟨rfl,hk3⟩;refine⟨rfl,?_⟩;rw[HX.o];exact⟨rfl,(hkp.trans hk2).trans hk3⟩
    ·rw[Dr _ _ _ _ _ hd0,fA]at hXr;have cd':=cd;simp only[ax hd0]at cd';have hb:=Gq (textP (all.drop (j+1)));have hor:=Ov ha hb
     have hj2:j+1+1<=all.length:=by
      have:=oM hd0;simp at this;omega
     have hta:((a:Int)).toNat=a:=(by omega);dsimp only at hXr;rw[hta]at hXr;have HX:PH (rH E d (a|||dayBit (textP (all.drop (j+1)))) (all.drop (j+1+1)) n=X):=hXr;generalize dayBit (textP (all.drop (j+1)))=b at*;go_wp2_with fail;refine c2.mono ?_;rintro e w2 ⟨rfl,h2,hk2⟩;go_wp2_with fail;refine(cd' _ h2).mono ?_;rintro e w3 ⟨rfl,h3,hk3⟩;have hz3:=(hk2.trans hk3).at hzr (by omega);have hk':=(hkp.trans hk2).trans hk3;go_wp2_with fail;go_roundw;case rel=>exact⟨a|||b,j+1+1,by rw[Ou ha hb],hor,by omega,h3,hk',hz3,HX.o,h3.blk⟩
     case measure=>
      rw[h3.blk,hblk];simp[intOf];omega
   ·have hc':isT oU (all.drop j)=false:=(by simpa using hc);have c2:=ew h0 hst oU hc';unfold rH at hXr;rw[ax hc]at hXr;have HX:PH (rd E 8 d ⟨4,(a:Int),0,[],[]⟩ (all.drop j) n=X):=hXr;go_wp2_with fail;refine c2.mono ?_;rintro e w3 ⟨rfl,h3,hk2⟩;have hk3:=hkp.trans hk2;have hz3:=hk2.at hzr (by omega);have hXX:=HX.o;rw[tm]at hXX;go_wp2_with fail;refine(tj h0 h3 hn6 d hd (hF (j+1) (by omega))).mono ?_;intro e w5 ho;cases hx:qh E d (all.drop (j)) n with
    |error q=>
     obtain⟨er,at_⟩:=q;rw[hx]at ho;obtain⟨rfl,hk5⟩:=ho;rw[hx]at hXX;refine⟨rfl,?_⟩;rw[<-hXX];exact⟨rfl,hk3.trans hk5⟩
    |ok q=>
     obtain⟨kx,rr,nn⟩:=q;rw[hx]at ho;obtain⟨i',bk,dd,hr',rfl,hkd,h5,hn5,hk5⟩:=ho;subst hr';have hs3:=hk3.size;have hz5:=hk5.at hz3 (by omega);have hl3:=aH hz3;have c5:=kB h0 h5 hn5 (fun k=>w.heap.size+1<=k) (fun k hk=>by omega) ⟨4,(a:Int),0,[],[kx]⟩ (.slice (some (ae bk 0)) 1 1) dd (hkd.mono fun k hk=>by omega);unfold exV at c5;have hk35:=hk3.trans hk5;rw[hx]at hXX;rw[show dE E ⟨4,(a:Int),0,[],[kx]⟩ (all.drop i') nn=X from hXX]at c5;go_wp2_with fail;refine c5.mono ?_;intro e w6 ho;rcases jP h h0 hk35 hz5 ho with⟨ch,rfl,hO⟩|⟨a',b',c',x',p',q',r',rfl,hz6,hO⟩
     ·exact⟨rfl,hO⟩
     ·go_wp2_with(refine ay rfl 104 _ _ rfl _ _ rfl rfl _ _ hz6 (by kernel_rfl) (by rfl) (by simp[Value.oneCell']) ?_)
      exact jJ 4 (by kernel_rfl) w.heap.size _ _ _ _ _ rfl rfl (aL _ _ _ _ _ _ hz6) (hO _)
end
end Go.Proofs.YtkfidffapdhbhaaGreatDoor
