/- Texts of the proof. -/
import Derived.Test.YtaoljfdfhggbbaaGreatDoorPc18
set_option maxRecDepth 100000
set_option maxHeartbeats 8000000
namespace Go.Proofs.YtaoljfdfhggbbaaGreatDoor
open Go.Proofs.Tryz Go.RowKit Lx Vx Mx Msk
section
variable {all:List Tk} {E g:Nat} {v:Value} {w:World} {i n:Nat}
theorem wT (a:PS0 all E g v)(i:Nat):0<=numP (all.drop i)/\numP (all.drop i)<=999999:=by
 cases h:all.drop i with
 |nil=>simp[numP]
 |cons p r=>
  have b:p∈all:=List.mem_of_mem_drop (h▸bq);exact a.num p b
def oj (all:List Tk)(i:Nat):Nat:=if isT gC (all.drop i) then i+1 else i
def vJ (all:List Tk)(E g:Nat)(v:Value)(w:World)(n:Nat)(x:Except (Int×Nat) (Int×Nat))(e:Ending)(w':World):Prop:=
 match x with
 | .error (er,at_)=>e= .panicked (jj er at_)/\bo g w w'
 | .ok (m,j)=>e= .returned (ag m)/\PSt all E g v w' j n/\bo g w w'
def oY (all:List Tk)(E i:Nat):Except (Int×Nat) (Int×Nat):=
 if kindP (all.drop (oj all i))≠6 then .error (2,atP E (all.drop (oj all i)))
 else if 1440<=numP (all.drop (oj all i))\/numP (all.drop (oj all i))<1 then .error (3,atP E (all.drop (oj all i)))
 else .ok (if isT gC (all.drop i) then-numP (all.drop (oj all i)) else numP (all.drop (oj all i)),oj all i+1)
theorem vJ.weak {x:Except (Int×Nat) (Int×Nat)}{e:Ending}{b w':World}(a:bo g b w)(h:vJ all E g v w n x e w'):vJ all E g v b n x e w':=by
 unfold vJ at h⊢;match x,h with
 | .error (er,at_),h=>exact⟨h.1,a.trans h.2⟩
 | .ok (m,j),h=>exact⟨h.1,h.2.1,a.trans h.2.2⟩
theorem xc (t:PS0 all E g v)(C:Int)(j:Nat)(o:C=1\/C= -1)(x:Except (Int×Nat) (Int×Nat))
  (p:x=if kindP (all.drop j)≠6 then .error (2,atP E (all.drop j)) else if 1440<=numP (all.drop j)\/numP (all.drop j)<1 then .error (3,atP E (all.drop j)) else .ok (C*numP (all.drop j),j+1))
  (c1:Calls prog 116 #[ab g 0,.string ⟨#[45]⟩] w fun e w'=>e= .returned (.bool (decide (C= -1)))/\PSt all E g v w' j n/\bo g w w'):
  Calls prog 199 #[ab g 0] w (vJ all E g v w n x):=by
 have O:=wT t j;have J:=fun(d:World) (a:PSt all E g v d j n)=>uG t a 6;have L:=fun(d:World) (a:PSt all E g v d j n)=>Bf t a 6;have I:=fun(d:World) (a:PSt all E g v d j n)=>lh t a 3;have K:=fun(d:World) (a:PSt all E g v d j n)=>qi t a 6 1 (by decide);have cr:=fun(d:World) (a:PSt all E g v d j n)=>oi t a 6 1;unfold kb at J K;generalize M:atP E (all.drop j)=at_ at*;by_cases u:kindP (all.drop j)=6
 ·have k:=fun d a=>J d a u;have F:=fun d a=>K d a u;have D:=fun d a=>cr d a u;rw[ax (by simp[u])]at p;by_cases q:1440<=numP (all.drop j)
  ·rw[aD (.inl q)]at p;subst p;generalize numP (all.drop j)=N at*;rcases o with rfl|rfl
   ·have f:decide ((1:Int)= -1)=false:=(by decide);rw[f]at c1;go_enter func199,ntmps199;go_wp2_with fail;refine c1.mono ?_;rintro e d ⟨rfl,a,c⟩;go_wp2_with fail;refine(k _ a).mono ?_;rintro e s ⟨rfl,l,b⟩;go_wp2_with fail;refine(I _ l).mono ?_;rintro e B ⟨rfl,r⟩;exact⟨rfl,rfl,(c.trans (bo.of_below b)).trans (bo.of_below r)⟩
   ·have f:decide ((-1:Int)= -1)=true:=(by decide);rw[f]at c1;go_enter func199,ntmps199;go_wp2_with fail;refine c1.mono ?_;rintro e d ⟨rfl,a,c⟩;go_wp2_with fail;refine(k _ a).mono ?_;rintro e s ⟨rfl,l,b⟩;go_wp2_with fail;refine(I _ l).mono ?_;rintro e B ⟨rfl,r⟩;exact⟨rfl,rfl,(c.trans (bo.of_below b)).trans (bo.of_below r)⟩
  ·have H: ¬(1440:Int)<=numP (all.drop j):=q;by_cases m:numP (all.drop j)<1
   ·rw[aD (.inr m)]at p;have z:=fun d a=>D d a m;subst p;generalize numP (all.drop j)=N at*;rcases o with rfl|rfl
    ·have f:decide ((1:Int)= -1)=false:=(by decide);rw[f]at c1;go_enter func199,ntmps199;go_wp2_with fail;refine c1.mono ?_;rintro e d ⟨rfl,a,c⟩;go_wp2_with fail;refine(k _ a).mono ?_;rintro e s ⟨rfl,l,b⟩;go_wp2_with fail;refine(z _ l).mono ?_;rintro e B ⟨rfl,i⟩;exact⟨rfl,rfl,(c.trans (bo.of_below b)).trans i⟩
    ·have f:decide ((-1:Int)= -1)=true:=(by decide);rw[f]at c1;go_enter func199,ntmps199;go_wp2_with fail;refine c1.mono ?_;rintro e d ⟨rfl,a,c⟩;go_wp2_with fail;refine(k _ a).mono ?_;rintro e s ⟨rfl,l,b⟩;go_wp2_with fail;refine(z _ l).mono ?_;rintro e B ⟨rfl,i⟩;exact⟨rfl,rfl,(c.trans (bo.of_below b)).trans i⟩
   ·rw[ax (by omega)]at p;have A:=fun d a=>F d a m;subst p;generalize numP (all.drop j)=N at*;rcases o with rfl|rfl
    ·have f:decide ((1:Int)= -1)=false:=(by decide);rw[f]at c1;go_enter func199,ntmps199;go_wp2_with fail;refine c1.mono ?_;rintro e d ⟨rfl,a,c⟩;go_wp2_with fail;refine(k _ a).mono ?_;rintro e s ⟨rfl,l,b⟩;go_wp2_with fail;refine(A _ l).mono ?_;rintro e B ⟨rfl,G,i⟩;go_wp2_with fail;go_ret;refine⟨?_,G,(c.trans (bo.of_below b)).trans i⟩;show Ending.returned (ag N)= .returned (ag (1*N));rw[Int.one_mul]
    ·have f:decide ((-1:Int)= -1)=true:=(by decide);rw[f]at c1;go_enter func199,ntmps199;go_wp2_with fail;refine c1.mono ?_;rintro e d ⟨rfl,a,c⟩;go_wp2_with fail;refine(k _ a).mono ?_;rintro e s ⟨rfl,l,b⟩;go_wp2_with fail;refine(A _ l).mono ?_;rintro e B ⟨rfl,G,i⟩;go_wp2_with fail;go_ret;refine⟨?_,G,(c.trans (bo.of_below b)).trans i⟩;show Ending.returned (ag (-N))= .returned (ag (-1*N));rw[Int.neg_mul,Int.one_mul]
 ·rw[aD u]at p;have y:=fun d a=>L d a u;subst p;rcases o with rfl|rfl
  ·have f:decide ((1:Int)= -1)=false:=(by decide);rw[f]at c1;go_enter func199,ntmps199;go_wp2_with fail;refine c1.mono ?_;rintro e d ⟨rfl,a,c⟩;go_wp2_with fail;refine(y _ a).mono ?_;rintro e s ⟨rfl,b⟩;exact⟨rfl,rfl,c.trans (bo.of_below b)⟩
  ·have f:decide ((-1:Int)= -1)=true:=(by decide);rw[f]at c1;go_enter func199,ntmps199;go_wp2_with fail;refine c1.mono ?_;rintro e d ⟨rfl,a,c⟩;go_wp2_with fail;refine(y _ a).mono ?_;rintro e s ⟨rfl,b⟩;exact⟨rfl,rfl,c.trans (bo.of_below b)⟩
theorem Gu (a:PS0 all E g v)(h:PSt all E g v w i n):Calls prog 199 #[ab g 0] w (vJ all E g v w n (oY all E i)):=by
 cases hm:isT gC (all.drop i) with
 |true=>
  refine xc a (-1) (i+1) (.inr rfl) _ ?_ (fU a h gC (by decide) hm);unfold oY oj;rw[hm];simp only[if_true,Int.neg_mul,Int.one_mul]
 |false=>
  refine xc a 1 i (.inl rfl) _ ?_ (ew a h gC hm);unfold oY oj;rw[hm];simp only[Bool.false_eq_true,if_false,Int.one_mul]
theorem qj (x:List UInt8)(j:Nat)(a:j<7)(h:x=fy.getD j []):dayBit x=2^j:=by
 subst h;match j,a with
 |0,_=>rfl
 |1,_=>rfl
 |2,_=>rfl
 |3,_=>rfl
 |4,_=>rfl
 |5,_=>rfl
 |6,_=>rfl
theorem Jk (x:List UInt8)(h: ∀j,j<7->x≠fy.getD j []):dayBit x=0:=by
 unfold dayBit;rw[ax (h 0 (by omega)),ax (h 1 (by omega)),ax (h 2 (by omega)),ax (h 3 (by omega)),ax (h 4 (by omega)),ax (h 5 (by omega)),ax (h 6 (by omega))]
def li (all:List Tk)(E i:Nat):Except (Int×Nat) (Int×Nat):=if dayBit (textP (all.drop i))=0 then .error (2,atP E (all.drop i)) else .ok ((dayBit (textP (all.drop i)):Int),i+1)
theorem Lr (w:World):(Instr.index 282 (.agg #[.string ⟨#[109,111,110]⟩,.string ⟨#[116,117,101]⟩,.string ⟨#[119,101,100]⟩,.string ⟨#[116,104,117]⟩,.string ⟨#[102,114,105]⟩,.string ⟨#[115,97,116]⟩,.string ⟨#[115,117,110]⟩]) (ag 0)).run prog w= .ok (.string ⟨#[109,111,110]⟩) w:=by
 unfold Instr.index;simp[go_sem]
theorem Ls (w:World):(Instr.index 282 (.agg #[.string ⟨#[109,111,110]⟩,.string ⟨#[116,117,101]⟩,.string ⟨#[119,101,100]⟩,.string ⟨#[116,104,117]⟩,.string ⟨#[102,114,105]⟩,.string ⟨#[115,97,116]⟩,.string ⟨#[115,117,110]⟩]) (ag 1)).run prog w= .ok (.string ⟨#[116,117,101]⟩) w:=by
 unfold Instr.index;simp[go_sem]
theorem Lt (w:World):(Instr.index 282 (.agg #[.string ⟨#[109,111,110]⟩,.string ⟨#[116,117,101]⟩,.string ⟨#[119,101,100]⟩,.string ⟨#[116,104,117]⟩,.string ⟨#[102,114,105]⟩,.string ⟨#[115,97,116]⟩,.string ⟨#[115,117,110]⟩]) (ag 2)).run prog w= .ok (.string ⟨#[119,101,100]⟩) w:=by
 unfold Instr.index;simp[go_sem]
theorem Lu (w:World):(Instr.index 282 (.agg #[.string ⟨#[109,111,110]⟩,.string ⟨#[116,117,101]⟩,.string ⟨#[119,101,100]⟩,.string ⟨#[116,104,117]⟩,.string ⟨#[102,114,105]⟩,.string ⟨#[115,97,116]⟩,.string ⟨#[115,117,110]⟩]) (ag 3)).run prog w= .ok (.string ⟨#[116,104,117]⟩) w:=by
 unfold Instr.index;simp[go_sem]
theorem Lv (w:World):(Instr.index 282 (.agg #[.string ⟨#[109,111,110]⟩,.string ⟨#[116,117,101]⟩,.string ⟨#[119,101,100]⟩,.string ⟨#[116,104,117]⟩,.string ⟨#[102,114,105]⟩,.string ⟨#[115,97,116]⟩,.string ⟨#[115,117,110]⟩]) (ag 4)).run prog w= .ok (.string ⟨#[102,114,105]⟩) w:=by
 unfold Instr.index;simp[go_sem]
theorem Lw (w:World):(Instr.index 282 (.agg #[.string ⟨#[109,111,110]⟩,.string ⟨#[116,117,101]⟩,.string ⟨#[119,101,100]⟩,.string ⟨#[116,104,117]⟩,.string ⟨#[102,114,105]⟩,.string ⟨#[115,97,116]⟩,.string ⟨#[115,117,110]⟩]) (ag 5)).run prog w= .ok (.string ⟨#[115,97,116]⟩) w:=by
 unfold Instr.index;simp[go_sem]
theorem Ly (w:World):(Instr.index 282 (.agg #[.string ⟨#[109,111,110]⟩,.string ⟨#[116,117,101]⟩,.string ⟨#[119,101,100]⟩,.string ⟨#[116,104,117]⟩,.string ⟨#[102,114,105]⟩,.string ⟨#[115,97,116]⟩,.string ⟨#[115,117,110]⟩]) (ag 6)).run prog w= .ok (.string ⟨#[115,117,110]⟩) w:=by
 unfold Instr.index;simp[go_sem]
attribute [local go_sem] Lr Ls Lt Lu Lv Lw Ly
theorem DB (p:PS0 all E g v)(h:PSt all E g v w i n):Calls prog 218 #[ab g 0] w (vJ all E g v w n (li all E i)):=by
 have t0:=h.tab 0 (by omega);have t1:=h.tab 1 (by omega);have t2:=h.tab 2 (by omega);have C:=h.tab 3 (by omega);have D:=h.tab 4 (by omega);have F:=h.tab 5 (by omega);have G:=h.tab 6 (by omega);simp only[fy,List.getD_cons_zero,List.getD_cons_succ]at t0 t1 t2 C D F G;go_enter func218,ntmps218;go_wp2_with fail;go_loopw [3,4,6] (fun _ _ q wr=> ∃j:Nat,q=ag (j:Int)/\j<=7/\PSt all E g v wr i n/\bo g w wr/\ ∀k,k<j->textP (all.drop i)≠fy.getD k []) (fun _ _ q _=>7-(intOf q).toNat);case atStart=>exact⟨0,rfl,by omega,h,bo.refl _ _,fun k x=>by omega⟩
 case round=>
  obtain⟨j,rfl,H,d,c,y⟩:=hrel;have u:PN (∀k,k<j->textP (all.drop i)≠fy.getD k []):=y;by_cases B:j<7
  ·have A:j=0\/j=1\/j=2\/j=3\/j=4\/j=5\/j=6:=(by omega);rcases A with rfl|rfl|rfl|rfl|rfl|rfl|rfl
   ·by_cases b:isT (fy.getD 0 []) (all.drop i)=true
    ·have m:PN (li all E i= .ok (((1:Nat):Int),i+1)):=by
      have t:=qj (textP (all.drop i)) 0 (by omega) (by simpa[isT] using b);show _=_;unfold li;rw[t];rfl
     go_wp2_with fail;refine(fU p d _ (by decide) b).mono ?_;rintro e r ⟨rfl,f,a⟩;go_wp2_with fail;go_ret;rw[m.o];exact⟨rfl,f,c.trans a⟩
    ·have l:isT (fy.getD 0 []) (all.drop i)=false:=(by simpa using b)
     have s:PN (∀k,k<1->textP (all.drop i)≠fy.getD k []):=fun k x=>by
      by_cases q:k=0
      ·subst q;simpa[isT] using b
      ·exact u.o k (by omega)
     go_wp2_with fail;refine(ew p d _ l).mono ?_;rintro e r ⟨rfl,f,a⟩;go_wp2_with fail;go_roundw;case rel=>exact⟨1,rfl,by omega,f,c.trans a,s.o⟩
     case measure=>simp[intOf]
   ·by_cases b:isT (fy.getD 1 []) (all.drop i)=true
    ·have m:PN (li all E i= .ok (((2:Nat):Int),i+1)):=by
      have t:=qj (textP (all.drop i)) 1 (by omega) (by simpa[isT] using b);show _=_;unfold li;rw[t];rfl
     go_wp2_with fail;refine(fU p d _ (by decide) b).mono ?_;rintro e r ⟨rfl,f,a⟩;go_wp2_with fail;go_ret;rw[m.o];exact⟨rfl,f,c.trans a⟩
    ·have l:isT (fy.getD 1 []) (all.drop i)=false:=(by simpa using b)
     have s:PN (∀k,k<2->textP (all.drop i)≠fy.getD k []):=fun k x=>by
      by_cases q:k=1
      ·subst q;simpa[isT] using b
      ·exact u.o k (by omega)
     go_wp2_with fail;refine(ew p d _ l).mono ?_;rintro e r ⟨rfl,f,a⟩;go_wp2_with fail;go_roundw;case rel=>exact⟨2,rfl,by omega,f,c.trans a,s.o⟩
     case measure=>simp[intOf]
   ·by_cases b:isT (fy.getD 2 []) (all.drop i)=true
    ·have m:PN (li all E i= .ok (((4:Nat):Int),i+1)):=by
      have t:=qj (textP (all.drop i)) 2 (by omega) (by simpa[isT] using b);show _=_;unfold li;rw[t];rfl
     go_wp2_with fail;refine(fU p d _ (by decide) b).mono ?_;rintro e r ⟨rfl,f,a⟩;go_wp2_with fail;go_ret;rw[m.o];exact⟨rfl,f,c.trans a⟩
    ·have l:isT (fy.getD 2 []) (all.drop i)=false:=(by simpa using b)
     have s:PN (∀k,k<3->textP (all.drop i)≠fy.getD k []):=fun k x=>by
      by_cases q:k=2
      ·subst q;simpa[isT] using b
      ·exact u.o k (by omega)
     go_wp2_with fail;refine(ew p d _ l).mono ?_;rintro e r ⟨rfl,f,a⟩;go_wp2_with fail;go_roundw;case rel=>exact⟨3,rfl,by omega,f,c.trans a,s.o⟩
     case measure=>simp[intOf]
   ·by_cases b:isT (fy.getD 3 []) (all.drop i)=true
    ·have m:PN (li all E i= .ok (((8:Nat):Int),i+1)):=by
      have t:=qj (textP (all.drop i)) 3 (by omega) (by simpa[isT] using b);show _=_;unfold li;rw[t];rfl
     go_wp2_with fail;refine(fU p d _ (by decide) b).mono ?_;rintro e r ⟨rfl,f,a⟩;go_wp2_with fail;go_ret;rw[m.o];exact⟨rfl,f,c.trans a⟩
    ·have l:isT (fy.getD 3 []) (all.drop i)=false:=(by simpa using b)
     have s:PN (∀k,k<4->textP (all.drop i)≠fy.getD k []):=fun k x=>by
      by_cases q:k=3
      ·subst q;simpa[isT] using b
      ·exact u.o k (by omega)
     go_wp2_with fail;refine(ew p d _ l).mono ?_;rintro e r ⟨rfl,f,a⟩;go_wp2_with fail;go_roundw;case rel=>exact⟨4,rfl,by omega,f,c.trans a,s.o⟩
     case measure=>simp[intOf]
   ·by_cases b:isT (fy.getD 4 []) (all.drop i)=true
    ·have m:PN (li all E i= .ok (((16:Nat):Int),i+1)):=by
      have t:=qj (textP (all.drop i)) 4 (by omega) (by simpa[isT] using b);show _=_;unfold li;rw[t];rfl
     go_wp2_with fail;refine(fU p d _ (by decide) b).mono ?_;rintro e r ⟨rfl,f,a⟩;go_wp2_with fail;go_ret;rw[m.o];exact⟨rfl,f,c.trans a⟩
    ·have l:isT (fy.getD 4 []) (all.drop i)=false:=(by simpa using b)
     have s:PN (∀k,k<5->textP (all.drop i)≠fy.getD k []):=fun k x=>by
      by_cases q:k=4
      ·subst q;simpa[isT] using b
      ·exact u.o k (by omega)
     go_wp2_with fail;refine(ew p d _ l).mono ?_;rintro e r ⟨rfl,f,a⟩;go_wp2_with fail;go_roundw;case rel=>exact⟨5,rfl,by omega,f,c.trans a,s.o⟩
     case measure=>simp[intOf]
   ·by_cases b:isT (fy.getD 5 []) (all.drop i)=true
    ·have m:PN (li all E i= .ok (((32:Nat):Int),i+1)):=by
      have t:=qj (textP (all.drop i)) 5 (by omega) (by simpa[isT] using b);show _=_;unfold li;rw[t];rfl
     go_wp2_with fail;refine(fU p d _ (by decide) b).mono ?_;rintro e r ⟨rfl,f,a⟩;go_wp2_with fail;go_ret;rw[m.o];exact⟨rfl,f,c.trans a⟩
    ·have l:isT (fy.getD 5 []) (all.drop i)=false:=(by simpa using b)
     have s:PN (∀k,k<6->textP (all.drop i)≠fy.getD k []):=fun k x=>by
      by_cases q:k=5
      ·subst q;simpa[isT] using b
      ·exact u.o k (by omega)
     go_wp2_with fail;refine(ew p d _ l).mono ?_;rintro e r ⟨rfl,f,a⟩;go_wp2_with fail;go_roundw;case rel=>exact⟨6,rfl,by omega,f,c.trans a,s.o⟩
     case measure=>simp[intOf]
   ·by_cases b:isT (fy.getD 6 []) (all.drop i)=true
    ·have m:PN (li all E i= .ok (((64:Nat):Int),i+1)):=by
      have t:=qj (textP (all.drop i)) 6 (by omega) (by simpa[isT] using b);show _=_;unfold li;rw[t];rfl
     go_wp2_with fail;refine(fU p d _ (by decide) b).mono ?_;rintro e r ⟨rfl,f,a⟩;go_wp2_with fail;go_ret;rw[m.o];exact⟨rfl,f,c.trans a⟩
    ·have l:isT (fy.getD 6 []) (all.drop i)=false:=(by simpa using b)
     have s:PN (∀k,k<7->textP (all.drop i)≠fy.getD k []):=fun k x=>by
      by_cases q:k=6
      ·subst q;simpa[isT] using b
      ·exact u.o k (by omega)
     go_wp2_with fail;refine(ew p d _ l).mono ?_;rintro e r ⟨rfl,f,a⟩;go_wp2_with fail;go_roundw;case rel=>exact⟨7,rfl,by omega,f,c.trans a,s.o⟩
     case measure=>simp[intOf]
  ·have e7:j=7:=(by omega);subst e7
   have m:PN (li all E i= .error (2,atP E (all.drop i))):=by
    show _=_;unfold li;rw[aD (Jk _ u.o)]
   go_wp2_with fail;refine(lh p d 2).mono ?_;rintro e r ⟨rfl,z⟩;refine⟨rfl,?_⟩;rw[m.o];exact⟨rfl,c.trans (bo.of_below z)⟩
end
section
variable {all:List Tk} {E g:Nat} {v:Value} {w:World} {i n:Nat}
def se:Array Value:= #[ag 0,ag 0,ag 0,.string ⟨#[]⟩,af]
theorem bo.at {w':World}{k:Nat}{o:Obj}(h:bo g w w')(b:w.heap[k]? =some o)(a:k≠g):w'.heap[k]? =some o:=(h.block k (aH b) (fun e=>a (aN e))).trans b
theorem jO {z s:World}{X:Res}{e:Ending}(h:PSt all E g v w i n)(F:PS0 all E g v)(f:bo g w z)(y:z.heap[w.heap.size]? =ah se 102)
  (o:jw all E g v z (fun k=>w.heap.size+1<=k) X e s):
  (∃C,e= .panicked C/\jw all E g v w (fun k=>w.heap.size<=k) X e s)\/
  (∃(a b c:Int) (x:ByteArray) (p:Option Addr) (q r:Nat),e= .returned (.agg #[ag a,ag b,ag c,.string x,.slice p q r])/\s.heap[w.heap.size]? =ah se 102/\ ∀m,jw all E g v w (fun k=>w.heap.size<=k) X e (s.setRow w.heap.size m)):=by
 have G:=aH h.blk;cases hx:X with
 |error q=>
  obtain⟨er,at_⟩:=q;rw[hx]at o;obtain⟨rfl,d⟩:=o;exact .inl ⟨_,rfl,rfl,f.trans d⟩
 |ok q=>
  obtain⟨ex,K,nn⟩:=q;rw[hx]at o;obtain⟨I,sl,D,u,rfl,j,A,t,d⟩:=o;obtain⟨J,B,rfl⟩:=j.form;have l:=f.trans d;refine .inr ⟨_,_,_,_,J,ex.kids.length,B,rfl,d.at y (by omega),fun m=> ?_⟩;refine⟨I,_,D,u,rfl,?_,h.of_kept F (l.setRow (aB _) m) ((aV _ _ _ _ (by omega)).trans A.blk) A.le,t,l.setRow (aB _) m⟩;exact(j.kept fun k H _=>aV _ _ _ _ (by omega)).mono fun k H=>(by omega)
theorem fA (i:Nat):(all.drop i).tail=all.drop (i+1):=by rw[List.tail_drop]
theorem mz (w:World):(w.alloc (.cells #[ag 0,ag 0,ag 0,.string ⟨#[]⟩,af] 102)).heap[w.heap.size]? =ah se 102:=aE w _
def xd (E:Nat)(r:List Tk)(n:Nat):Res:=
 if kindP r≠4 then dY E 2 r
 else if isT gC r.tail then
  if kindP r.tail.tail≠4 then dY E 2 r.tail.tail
  else if numP r.tail.tail<numP r+1 then dY E 3 r.tail.tail
  else dE E ⟨3,numP r,numP r.tail.tail,[],[]⟩ r.tail.tail.tail n
 else dY E 2 r.tail
theorem Jl (o:PS0 all E g v)(h:PSt all E g v w i n)(I:n<=600):
  Calls prog 215 #[ab g 0] w (jw all E g v w (fun k=>w.heap.size<=k) (xd E (all.drop i) n)):=by
 have R:=aH h.blk;have B:aq w (w.alloc (.cells #[ag 0,ag 0,ag 0,.string ⟨#[]⟩,af] 102)):=am _ _;have V:=mz w;have O:=h.below B o;have s:=bo.of_below (g:=g) B;have T:(w.alloc (.cells #[ag 0,ag 0,ag 0,.string ⟨#[]⟩,af] 102)).heap.size=w.heap.size+1:=by simp
 have Y:=wT o i;unfold xd dY;simp only[fA];generalize U:w.alloc (.cells #[ag 0,ag 0,ag 0,.string ⟨#[]⟩,af] 102)=wA at*;by_cases t:kindP (all.drop i)=4
 ·have c1:=qh o O 4 (by decide) t;rw[ax (by simp[t])];unfold kb at c1;generalize numP (all.drop i)=N at*;generalize kindP (all.drop i)=t0 at*;by_cases D:isT gC (all.drop (i+1))=true
  ·rw[aD D];have z:=fun(l:World) (f:PSt all E g v l (i+1) n)=>oh o f gC (by decide) D;by_cases t:kindP (all.drop (i+1+1))=4
   ·rw[ax (by simp[t])];by_cases u:numP (all.drop (i+1+1))<N+1
    ·rw[aD u];have y:=fun(l:World) (f:PSt all E g v l (i+1+1) n)=>oi o f 4 (N+1) t u;go_enter func215,ntmps215;go_wp2_with fail;refine c1.mono ?_;rintro e l ⟨rfl,f,d⟩;go_wp2_with fail;refine(z _ f).mono ?_;rintro e K ⟨rfl,A,j⟩;go_wp2_with fail;refine(y _ A).mono ?_;rintro e P ⟨rfl,m⟩;exact⟨rfl,rfl,((s.trans d).trans j).trans m⟩
    ·rw[ax u];have y:=fun(l:World) (f:PSt all E g v l (i+1+1) n)=>qi o f 4 (N+1) (by decide) t u;unfold kb at y;have Z:=wT o (i+1+1);generalize numP (all.drop (i+1+1))=M at*;have L:=fun(l:World) (f:PSt all E g v l (i+1+1+1) n)=>kE o f I (fun k=>w.heap.size+1<=k) (fun k X=>by omega) ⟨3,N,M,[],[]⟩ (af) 0 (dy.nil _ _ _ _ _);unfold exV at L;go_enter func215,ntmps215;go_wp2_with fail;refine c1.mono ?_;rintro e l ⟨rfl,f,d⟩;go_wp2_with fail;refine(z _ f).mono ?_;rintro e K ⟨rfl,A,j⟩;go_wp2_with fail;refine(y _ A).mono ?_;rintro e P ⟨rfl,Q,m⟩;have G:=((s.trans d).trans j).trans m;have J:=((d.trans j).trans m).at V (by omega);go_wp2_with fail;refine(L _ Q).mono ?_;intro e w5 S;rcases jO h o G J S with⟨W,rfl,F⟩|⟨a,b,c,x,p,q,r,rfl,C,F⟩
     ·exact⟨rfl,F⟩
     ·go_wp2_with(refine ay rfl 102 _ _ rfl _ _ rfl rfl _ _ C (by kernel_rfl) (by rfl) (by simp[Value.oneCell']) ?_)
      exact jI 2 (by kernel_rfl) w.heap.size _ _ _ _ _ rfl rfl (aL _ _ _ _ _ _ C) (F _)
   ·rw[aD t];have y:=fun(l:World) (f:PSt all E g v l (i+1+1) n)=>sW o f 4 (N+1) t;go_enter func215,ntmps215;go_wp2_with fail;refine c1.mono ?_;rintro e l ⟨rfl,f,d⟩;go_wp2_with fail;refine(z _ f).mono ?_;rintro e K ⟨rfl,A,j⟩;go_wp2_with fail;refine(y _ A).mono ?_;rintro e P ⟨rfl,m⟩;exact⟨rfl,rfl,((s.trans d).trans j).trans m⟩
  ·have H:isT gC (all.drop (i+1))=false:=(by simpa using D);rw[ax D];have z:=fun(l:World) (f:PSt all E g v l (i+1) n)=>pU o f gC H;go_enter func215,ntmps215;go_wp2_with fail;refine c1.mono ?_;rintro e l ⟨rfl,f,d⟩;go_wp2_with fail;refine(z _ f).mono ?_;rintro e K ⟨rfl,j⟩;exact⟨rfl,rfl,(s.trans d).trans j⟩
 ·have c1:=yA o O 4 t;rw[aD t];go_enter func215,ntmps215;go_wp2_with fail;refine c1.mono ?_;rintro e l ⟨rfl,d⟩;exact⟨rfl,rfl,s.trans d⟩
def RC (all:List Tk)(E g:Nat)(v:Value)(f:FuncId)(m i:Nat):Prop:= ∀(w:World) (n d:Nat),PSt all E g v w i n->n<=600->d<=41->
 Calls prog f #[ab g 0,ag (d:Int)] w (jw all E g v w (fun k=>w.heap.size<=k) (rd E m d ex0 (all.drop i) n))
def Jm (all:List Tk)(E g:Nat)(v:Value)(w:World)(B:Nat->Prop)(x:Res)(e:Ending)(w':World):Prop:=
 match x with
 | .error (er,at_)=>e= .panicked (jj er at_)/\bo g w w'
 | .ok (k,r,n)=> ∃(i b d:Nat),r=all.drop i/\e= .returned (.slice (some (ae b 0)) 1 1)/\dy B d w' (.slice (some (ae b 0)) 1 1) [k]/\PSt all E g v w' i n/\n<=600/\bo g w w'
def ql (E d:Nat)(r:List Tk)(n:Nat):Res:=if isT mT r then rd E 4 (d+1) ex0 r.tail n else dY E 2 r
theorem tq (y:PS0 all E g v)(h:PSt all E g v w i n)(F:n<=600)(d:Nat)(V:d<=40)(L:RC all E g v 174 4 (i+1)):
  Calls prog 219 #[ab g 0,ag (d:Int)] w (Jm all E g v w (fun k=>w.heap.size<=k) (ql E d (all.drop i) n)):=by
 have O:=aH h.blk;unfold ql;rw[fA];by_cases t:isT mT (all.drop i)=true
 ·rw[aD t];have c1:=oh y h mT (by decide) t;have I: ∀(j:World),PSt all E g v j (i+1) n->Calls prog 174 #[ab g 0,ag ((d:Int)+1)] j (jw all E g v j (fun k=>j.heap.size<=k) (rd E 4 (d+1) ex0 (all.drop (i+1)) n)):=fun j z=>L j n (d+1) z F (by omega);have M:(d:Int)<=40:=(by omega);have N:(0:Int)<=(d:Int):=(by omega);go_enter func219,ntmps219;go_wp2_with fail;refine c1.mono ?_;rintro e j ⟨rfl,z,c⟩;go_wp2_with fail;refine(I _ z).mono ?_;intro e l u;cases hx:rd E 4 (d+1) ex0 (all.drop (i+1)) n with
  |error q=>
   obtain⟨er,at_⟩:=q;rw[hx]at u;obtain⟨rfl,f⟩:=u;refine⟨rfl,?_⟩;rw[hx];exact⟨rfl,c.trans f⟩
  |ok q=>
   obtain⟨ex,W,nn⟩:=q;rw[hx]at u;obtain⟨S,sl,U,G,rfl,p,J,D,f⟩:=u;obtain⟨x,s,rfl⟩:=p.form;have Q:=c.size;have R:=f.size;have A:=(c.trans f).alloc (.cells #[ag ex.kind,ag ex.a,ag ex.b,.string ⟨ex.name.toArray⟩,.slice x ex.kids.length s] 102);have m:aq l (l.alloc (.cells #[ag ex.kind,ag ex.a,ag ex.b,.string ⟨ex.name.toArray⟩,.slice x ex.kids.length s] 102)):=am _ _;have r:=(bo.of_below (g:=g) m).kids (B:=fun k=>w.heap.size<=k) (fun k P=>by omega) (p.mono fun k P=>by omega);have T:=Bg (B:=fun k=>w.heap.size<=k) (by show w.heap.size<=l.heap.size;omega) (aE l (.cells #[ag ex.kind,ag ex.a,ag ex.b,.string ⟨ex.name.toArray⟩,.slice x ex.kids.length s] 102)) r;have K:=J.below m y
   have H:PN (Jm all E g v w (fun k=>w.heap.size<=k) (rd E 4 (d+1) ex0 (all.drop (i+1)) n) (.returned (.slice (some (ae l.heap.size 0)) 1 1)) (l.alloc (.cells #[ag ex.kind,ag ex.a,ag ex.b,.string ⟨ex.name.toArray⟩,.slice x ex.kids.length s] 102))):=by
    show Jm _ _ _ _ _ _ _ _ _;rw[hx];exact⟨S,_,_,G,rfl,T,K,D,A⟩
   unfold exV;go_wp2_with fail;go_ret;exact H.o
 ·have C:isT mT (all.drop i)=false:=by simpa using t
  rw[ax t];have c1:=pU y h mT C;go_enter func219,ntmps219;go_wp2_with fail;refine c1.mono ?_;rintro e j ⟨rfl,c⟩;exact⟨rfl,rfl,c⟩
theorem tr (E d:Nat)(e:Ex)(r:List Tk)(n:Nat):rd E 8 d e r n=dm (ql E d r n) fun k r n=>dE E ⟨e.kind,e.a,e.b,[],[k]⟩ r n:=by
 rw[Pg];unfold ql;split
 ·rfl
 ·rfl
end
section
variable {all:List Tk} {E g:Nat} {v:Value} {w:World} {i n:Nat}
def tu (E d:Nat)(r:List Tk)(n:Nat):Res:=
 if kindP r≠5 then dY E 2 r
 else if isT wTo r.tail then
  if kindP r.tail.tail≠5 then dY E 2 r.tail.tail
  else if numP r.tail.tail<numP r then dY E 3 r.tail.tail
  else rd E 8 d ⟨5,numP r,numP r.tail.tail,[],[]⟩ r.tail.tail.tail n
 else rd E 8 d ⟨5,numP r,numP r,[],[]⟩ r.tail n
theorem Gv (p:PS0 all E g v)(h:PSt all E g v w i n)(P:n<=600)(d:Nat)(hd:d<=40)(hF: ∀j,i<j->RC all E g v 174 4 j):
  Calls prog 214 #[ab g 0,ag (d:Int)] w (jw all E g v w (fun k=>w.heap.size<=k) (tu E d (all.drop i) n)):=by
 have ad:=aH h.blk;have O:aq w (w.alloc (.cells #[ag 0,ag 0,ag 0,.string ⟨#[]⟩,af] 102)):=am _ _;have hz:=mz w;have hA:=h.below O p;have x:=bo.of_below (g:=g) O;unfold tu dY;simp only[fA];generalize ah:w.alloc (.cells #[ag 0,ag 0,ag 0,.string ⟨#[]⟩,af] 102)=wA at*;by_cases r:kindP (all.drop i)=5
 ·have c1:=qh p hA 5 (by decide) r;rw[ax (by simp[r])];unfold kb at c1;generalize numP (all.drop i)=N at*;generalize kindP (all.drop i)=t0 at*;by_cases R:isT wTo (all.drop (i+1))=true
  ·rw[aD R];have K:=fun(s:World) (m:PSt all E g v s (i+1) n)=>fU p m wTo (by decide) R;by_cases r:kindP (all.drop (i+1+1))=5
   ·rw[ax (by simp[r])];by_cases A:numP (all.drop (i+1+1))<N
    ·rw[aD A];have J:=fun(s:World) (m:PSt all E g v s (i+1+1) n)=>oi p m 5 N r A;go_enter func214,ntmps214;go_wp2_with fail;refine c1.mono ?_;rintro e s ⟨rfl,m,b⟩;go_wp2_with fail;refine(K _ m).mono ?_;rintro e w2 ⟨rfl,L,f⟩;go_wp2_with fail;refine(J _ L).mono ?_;rintro e w3 ⟨rfl,c⟩;exact⟨rfl,rfl,((x.trans b).trans f).trans c⟩
    ·rw[ax A];have J:=fun(s:World) (m:PSt all E g v s (i+1+1) n)=>qi p m 5 N (by decide) r A;unfold kb at J;generalize numP (all.drop (i+1+1))=M at*;generalize W:rd E 8 d ⟨5,N,M,[],[]⟩ (all.drop (i+1+1+1)) n=X;have S:PN (rd E 8 d ⟨5,N,M,[],[]⟩ (all.drop (i+1+1+1)) n=X):=W;go_enter func214,ntmps214;go_wp2_with fail;refine c1.mono ?_;rintro e s ⟨rfl,m,b⟩;go_wp2_with fail;refine(K _ m).mono ?_;rintro e w2 ⟨rfl,L,f⟩;go_wp2_with fail;refine(J _ L).mono ?_;rintro e w3 ⟨rfl,V,B⟩;have c:=((x.trans b).trans f).trans B;have y:=((b.trans f).trans B).at hz (by omega);have a:=S.o;rw[tr]at a;go_wp2_with fail;refine(tq p V P d hd (hF (i+1+1+1+1) (by omega))).mono ?_;intro e w5 t;cases hx:ql E d (all.drop (i+1+1+1)) n with
     |error q=>
      obtain⟨er,at_⟩:=q;rw[hx]at t;obtain⟨rfl,l⟩:=t;rw[hx]at a;refine⟨rfl,?_⟩;rw[<-a];exact⟨rfl,c.trans l⟩
     |ok q=>
      obtain⟨Q,rr,nn⟩:=q;rw[hx]at t;obtain⟨i',T,U,H,rfl,F,r,G,l⟩:=t;subst H;have ac:=c.size;have I:=l.at y (by omega);have Z:=aH y;have C:=kE p r G (fun k=>w.heap.size+1<=k) (fun k Y=>by omega) ⟨5,N,M,[],[Q]⟩ (.slice (some (ae T 0)) 1 1) U (F.mono fun k Y=>by omega);unfold exV at C;have u:=c.trans l;rw[hx]at a;rw[show dE E ⟨5,N,M,[],[Q]⟩ (all.drop i') nn=X from a]at C;go_wp2_with fail;refine C.mono ?_;intro e w6 t;rcases jO h p u I t with⟨ch,rfl,D⟩|⟨a',b',c',x',p',q',r',rfl,z,D⟩
      ·exact⟨rfl,D⟩
      ·go_wp2_with(refine ay rfl 102 _ _ rfl _ _ rfl rfl _ _ z (by kernel_rfl) (by rfl) (by simp[Value.oneCell']) ?_)
       exact jI 4 (by kernel_rfl) w.heap.size _ _ _ _ _ rfl rfl (aL _ _ _ _ _ _ z) (D _)
   ·rw[aD r];have J:=fun(s:World) (m:PSt all E g v s (i+1+1) n)=>sW p m 5 N r;go_enter func214,ntmps214;go_wp2_with fail;refine c1.mono ?_;rintro e s ⟨rfl,m,b⟩;go_wp2_with fail;refine(K _ m).mono ?_;rintro e w2 ⟨rfl,L,f⟩;go_wp2_with fail;refine(J _ L).mono ?_;rintro e w3 ⟨rfl,c⟩;exact⟨rfl,rfl,((x.trans b).trans f).trans c⟩
  ·have aa:isT wTo (all.drop (i+1))=false:=(by simpa using R);rw[ax R];have K:=fun(s:World) (m:PSt all E g v s (i+1) n)=>ew p m wTo aa;generalize W:rd E 8 d ⟨5,N,N,[],[]⟩ (all.drop (i+1)) n=X;have S:PN (rd E 8 d ⟨5,N,N,[],[]⟩ (all.drop (i+1)) n=X):=W;go_enter func214,ntmps214;go_wp2_with fail;refine c1.mono ?_;rintro e s ⟨rfl,m,b⟩;go_wp2_with fail;refine(K _ m).mono ?_;rintro e w3 ⟨rfl,V,f⟩;have c:=(x.trans b).trans f;have y:=(b.trans f).at hz (by omega);have a:=S.o;rw[tr]at a;go_wp2_with fail;refine(tq p V P d hd (hF (i+1+1) (by omega))).mono ?_;intro e w5 t;cases hx:ql E d (all.drop (i+1)) n with
   |error q=>
    obtain⟨er,at_⟩:=q;rw[hx]at t;obtain⟨rfl,l⟩:=t;rw[hx]at a;refine⟨rfl,?_⟩;rw[<-a];exact⟨rfl,c.trans l⟩
   |ok q=>
    obtain⟨Q,rr,nn⟩:=q;rw[hx]at t;obtain⟨i',T,U,H,rfl,F,r,G,l⟩:=t;subst H;have ac:=c.size;have I:=l.at y (by omega);have Z:=aH y;have C:=kE p r G (fun k=>w.heap.size+1<=k) (fun k Y=>by omega) ⟨5,N,N,[],[Q]⟩ (.slice (some (ae T 0)) 1 1) U (F.mono fun k Y=>by omega);unfold exV at C;have u:=c.trans l;rw[hx]at a;rw[show dE E ⟨5,N,N,[],[Q]⟩ (all.drop i') nn=X from a]at C;go_wp2_with fail;refine C.mono ?_;intro e w6 t;rcases jO h p u I t with⟨ch,rfl,D⟩|⟨a',b',c',x',p',q',r',rfl,z,D⟩
    ·exact⟨rfl,D⟩
    ·go_wp2_with(refine ay rfl 102 _ _ rfl _ _ rfl rfl _ _ z (by kernel_rfl) (by rfl) (by simp[Value.oneCell']) ?_)
     exact jI 4 (by kernel_rfl) w.heap.size _ _ _ _ _ rfl rfl (aL _ _ _ _ _ _ z) (D _)
 ·have c1:=yA p hA 5 r;rw[aD r];go_enter func214,ntmps214;go_wp2_with fail;refine c1.mono ?_;rintro e s ⟨rfl,b⟩;exact⟨rfl,rfl,x.trans b⟩
def rL (E d:Nat)(a:Nat)(r:List Tk)(n:Nat):Res:=if isT oW r then rd E 7 d ⟨0,(a:Int),0,[],[]⟩ r.tail n else rd E 8 d ⟨4,(a:Int),0,[],[]⟩ r n
theorem Gw (E d:Nat)(e:Ex)(r:List Tk)(n:Nat)(h:dayBit (textP r)=0):rd E 7 d e r n=dY E 2 r:=by rw[M9,aD h]
theorem DC (E d:Nat)(e:Ex)(r:List Tk)(n:Nat)(h:dayBit (textP r)≠0):rd E 7 d e r n=rL E d (e.a.toNat|||dayBit (textP r)) r.tail n:=by rw[M9,ax h];rfl
theorem Gy (x:List UInt8):dayBit x<128:=by
 unfold dayBit;repeat (split; ·omega)
 omega
theorem Oy: ∀a:Fin 128,∀b:Fin 128,bits BinOp.or IntKind.i64 ((a.val:Nat):Int) ((b.val:Nat):Int)=((a.val|||b.val:Nat):Int):=by decide+kernel
theorem Oz {a b:Nat}(ha:a<128)(c:b<128):bits BinOp.or IntKind.i64 (a:Int) (b:Int)=((a|||b:Nat):Int):=Oy ⟨a,ha⟩ ⟨b,c⟩
theorem OA {a b:Nat}(ha:a<128)(c:b<128):a|||b<128:=Nat.or_lt_two_pow (n:=7) ha c
theorem EG (s:PS0 all E g v)(h:PSt all E g v w i n)(W:n<=600)(d:Nat)(hd:d<=40)(hF: ∀j,i<j->RC all E g v 174 4 j):
  Calls prog 213 #[ab g 0,ag (d:Int)] w (jw all E g v w (fun k=>w.heap.size<=k) (rd E 7 d ex0 (all.drop i) n)):=by
 have aj:=aH h.blk;have C:aq w (w.alloc (.cells #[ag 0,ag 0,ag 0,.string ⟨#[]⟩,af] 102)):=am _ _;have hz:=mz w;have hA:=h.below C s;have I:=bo.of_below (g:=g) C;have ai:=s.len;generalize ar:w.alloc (.cells #[ag 0,ag 0,ag 0,.string ⟨#[]⟩,af] 102)=wA at*;have c1:=DB s hA;unfold li at c1;by_cases f:dayBit (textP (all.drop i))=0
 ·rw[aD f]at c1;rw[Gw _ _ _ _ _ f];go_enter func213,ntmps213;go_wp2_with fail;refine c1.mono ?_;rintro e w1 ⟨rfl,t⟩;exact⟨rfl,rfl,I.trans t⟩
 ·rw[ax f]at c1;rw[DC _ _ _ _ _ f,fA];have ha:=Gy (textP (all.drop i));have ez:(ex0.a.toNat|||dayBit (textP (all.drop i)))=dayBit (textP (all.drop i)):=(by show(0|||_)=_;exact Nat.zero_or _);rw[ez];generalize dayBit (textP (all.drop i))=a0 at*;generalize hX:rL E d a0 (all.drop (i+1)) n=X;go_enter func213,ntmps213;go_wp2_with fail;refine c1.mono ?_;rintro e w1 ⟨rfl,N,t⟩;have G:=I.trans t;have ac:=t.at hz (by omega);go_wp2_with fail;go_loopw [5] (fun q wr=> ∃(a j:Nat),q=ag (a:Int)/\a<128/\i<j/\PSt all E g v wr j n/\bo g w wr/\wr.heap[w.heap.size]? =ah se 102/\rL E d a (all.drop j) n=X/\wr.heap[g]? =ah #[v,ag (j:Int),ag (E:Int),ag (n:Int)] 126) (fun _ wr=>all.length-(match wr.heap[g]? with|some (.cells cs _ _)=>(intOf (cs.getD 1 undef)).toNat|_=>0));case atStart=>exact⟨a0,i+1,rfl,ha,by omega,N,G,ac,hX,N.blk⟩
  case round=>
   obtain⟨a,j,rfl,ha,ak,J,y,L,c,D⟩:=hrel;by_cases F:isT oW (all.drop j)=true
   ·have al:=og (by decide) F;have M:=fU s J oW (by decide) F;unfold rL at c;rw[aD F,fA]at c;have P:=fun(w1:World) (N:PSt all E g v w1 (j+1) n)=>DB s N;unfold li at P;by_cases f:dayBit (textP (all.drop (j+1)))=0
    ·rw[Gw _ _ _ _ _ f]at c;have p:=P;simp only[aD f]at p;have A:PN (X=dY E 2 (all.drop (j+1))):=c.symm;go_wp2_with fail;refine M.mono ?_;rintro e w2 ⟨rfl,Q,m⟩;go_wp2_with fail;refine(p _ Q).mono ?_;rintro e w3 ⟨rfl,l⟩;refine⟨rfl,?_⟩;rw[A.o];exact⟨rfl,(y.trans m).trans l⟩
    ·rw[DC _ _ _ _ _ f,fA]at c;have p:=P;simp only[ax f]at p;have hb:=Gy (textP (all.drop (j+1)));have Y:=OA ha hb
     have an:j+1+1<=all.length:=by
      have:=oN f;simp at this;omega
     have aa:((a:Int)).toNat=a:=(by omega);dsimp only at c;rw[aa]at c;have A:PN (rL E d (a|||dayBit (textP (all.drop (j+1)))) (all.drop (j+1+1)) n=X):=c;generalize dayBit (textP (all.drop (j+1)))=b at*;go_wp2_with fail;refine M.mono ?_;rintro e w2 ⟨rfl,Q,m⟩;go_wp2_with fail;refine(p _ Q).mono ?_;rintro e w3 ⟨rfl,B,l⟩;have x:=(m.trans l).at L (by omega);have T:=(y.trans m).trans l;go_wp2_with fail;go_roundw;case rel=>exact⟨a|||b,j+1+1,by rw[Oz ha hb],Y,by omega,B,T,x,A.o,B.blk⟩
     case measure=>
      rw[B.blk,D];simp[intOf];omega
   ·have S:isT oW (all.drop j)=false:=(by simpa using F);have M:=ew s J oW S;unfold rL at c;rw[ax F]at c;have A:PN (rd E 8 d ⟨4,(a:Int),0,[],[]⟩ (all.drop j) n=X):=c;go_wp2_with fail;refine M.mono ?_;rintro e w3 ⟨rfl,B,m⟩;have l:=y.trans m;have x:=m.at L (by omega);have r:=A.o;rw[tr]at r;go_wp2_with fail;refine(tq s B W d hd (hF (j+1) (by omega))).mono ?_;intro e w5 z;cases hx:ql E d (all.drop (j)) n with
    |error q=>
     obtain⟨er,at_⟩:=q;rw[hx]at z;obtain⟨rfl,u⟩:=z;rw[hx]at r;refine⟨rfl,?_⟩;rw[<-r];exact⟨rfl,l.trans u⟩
    |ok q=>
     obtain⟨kx,rr,nn⟩:=q;rw[hx]at z;obtain⟨i',bk,dd,Z,rfl,U,h5,V,u⟩:=z;subst Z;have ap:=l.size;have ad:=u.at x (by omega);have ao:=aH x;have O:=kE s h5 V (fun k=>w.heap.size+1<=k) (fun k hk=>by omega) ⟨4,(a:Int),0,[],[kx]⟩ (.slice (some (ae bk 0)) 1 1) dd (U.mono fun k hk=>by omega);unfold exV at O;have H:=l.trans u;rw[hx]at r;rw[show dE E ⟨4,(a:Int),0,[],[kx]⟩ (all.drop i') nn=X from r]at O;go_wp2_with fail;refine O.mono ?_;intro e w6 z;rcases jO h s H ad z with⟨ch,rfl,R⟩|⟨a',b',c',x',p',q',r',rfl,K,R⟩
     ·exact⟨rfl,R⟩
     ·go_wp2_with(refine ay rfl 102 _ _ rfl _ _ rfl rfl _ _ K (by kernel_rfl) (by rfl) (by simp[Value.oneCell']) ?_)
      exact jI 4 (by kernel_rfl) w.heap.size _ _ _ _ _ rfl rfl (aL _ _ _ _ _ _ K) (R _)
end
end Go.Proofs.YtaoljfdfhggbbaaGreatDoor
