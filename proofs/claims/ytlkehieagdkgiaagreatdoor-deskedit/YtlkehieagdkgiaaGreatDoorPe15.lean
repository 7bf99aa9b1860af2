/- Texts of the proof. -/
import Derived.Test.YtlkehieagdkgiaaGreatDoorPe14
set_option maxRecDepth 100000
set_option maxHeartbeats 8000000
namespace Go.Proofs.YtlkehieagdkgiaaGreatDoor
open Go.Proofs.Tryz Go.RowKit Lx Vx Mx Msk
section
variable {all:List Tk} {E g:Nat} {v:Value} {w:World} {i n:Nat}
theorem ye (a:PS0 all E g v)(i:Nat):0<=numP (all.drop i)/\numP (all.drop i)<=999999:=by
 cases h:all.drop i with
 |nil=>simp[numP]
 |cons p r=>
  have b:p∈all:=List.mem_of_mem_drop (h▸bq);exact a.num p b
def oX (all:List Tk)(i:Nat):Nat:=if isT gO (all.drop i) then i+1 else i
def wz (all:List Tk)(E g:Nat)(v:Value)(w:World)(n:Nat)(x:Except (Int×Nat) (Int×Nat))(e:Ending)(w':World):Prop:=
 match x with
 | .error (er,at_)=>e= .panicked (jq er at_)/\bp g w w'
 | .ok (m,j)=>e= .returned (ag m)/\PSt all E g v w' j n/\bp g w w'
def pO (all:List Tk)(E i:Nat):Except (Int×Nat) (Int×Nat):=
 if kindP (all.drop (oX all i))≠6 then .error (2,atP E (all.drop (oX all i)))
 else if 1440<=numP (all.drop (oX all i))\/numP (all.drop (oX all i))<1 then .error (3,atP E (all.drop (oX all i)))
 else .ok (if isT gO (all.drop i) then-numP (all.drop (oX all i)) else numP (all.drop (oX all i)),oX all i+1)
theorem wz.weak {x:Except (Int×Nat) (Int×Nat)}{e:Ending}{b w':World}(a:bp g b w)(h:wz all E g v w n x e w'):wz all E g v b n x e w':=by
 unfold wz at h⊢;match x,h with
 | .error (er,at_),h=>exact⟨h.1,a.trans h.2⟩
 | .ok (m,j),h=>exact⟨h.1,h.2.1,a.trans h.2.2⟩
theorem yi (t:PS0 all E g v)(C:Int)(j:Nat)(o:C=1\/C= -1)(x:Except (Int×Nat) (Int×Nat))
  (p:x=if kindP (all.drop j)≠6 then .error (2,atP E (all.drop j)) else if 1440<=numP (all.drop j)\/numP (all.drop j)<1 then .error (3,atP E (all.drop j)) else .ok (C*numP (all.drop j),j+1))
  (c1:Calls prog 96 #[ab g 0,.string ⟨#[45]⟩] w fun e w'=>e= .returned (.bool (decide (C= -1)))/\PSt all E g v w' j n/\bp g w w'):
  Calls prog 175 #[ab g 0] w (wz all E g v w n x):=by
 have O:=ye t j;have J:=fun(d:World) (a:PSt all E g v d j n)=>vu t a 6;have L:=fun(d:World) (a:PSt all E g v d j n)=>B4 t a 6;have I:=fun(d:World) (a:PSt all E g v d j n)=>lA t a 3;have K:=fun(d:World) (a:PSt all E g v d j n)=>qR t a 6 1 (by decide);have cr:=fun(d:World) (a:PSt all E g v d j n)=>oW t a 6 1;unfold kF at J K;generalize M:atP E (all.drop j)=at_ at*;by_cases u:kindP (all.drop j)=6
 ·have k:=fun d a=>J d a u;have F:=fun d a=>K d a u;have D:=fun d a=>cr d a u;rw[ax (by simp[u])]at p;by_cases q:1440<=numP (all.drop j)
  ·rw[aB (.inl q)]at p;subst p;generalize numP (all.drop j)=N at*;rcases o with rfl|rfl
   ·have f:decide ((1:Int)= -1)=false:=(by decide);rw[f]at c1;go_enter func175,ntmps175;go_wp2_with fail;refine c1.mono ?_;rintro e d ⟨rfl,a,c⟩;go_wp2_with fail;refine(k _ a).mono ?_;rintro e s ⟨rfl,l,b⟩;go_wp2_with fail;refine(I _ l).mono ?_;rintro e B ⟨rfl,r⟩;exact⟨rfl,rfl,(c.trans (bp.of_below b)).trans (bp.of_below r)⟩
   ·have f:decide ((-1:Int)= -1)=true:=(by decide);rw[f]at c1;go_enter func175,ntmps175;go_wp2_with fail;refine c1.mono ?_;rintro e d ⟨rfl,a,c⟩;go_wp2_with fail;refine(k _ a).mono ?_;rintro e s ⟨rfl,l,b⟩;go_wp2_with fail;refine(I _ l).mono ?_;rintro e B ⟨rfl,r⟩;exact⟨rfl,rfl,(c.trans (bp.of_below b)).trans (bp.of_below r)⟩
  ·have H: ¬(1440:Int)<=numP (all.drop j):=q;by_cases m:numP (all.drop j)<1
   ·rw[aB (.inr m)]at p;have z:=fun d a=>D d a m;subst p;generalize numP (all.drop j)=N at*;rcases o with rfl|rfl
    ·have f:decide ((1:Int)= -1)=false:=(by decide);rw[f]at c1;go_enter func175,ntmps175;go_wp2_with fail;refine c1.mono ?_;rintro e d ⟨rfl,a,c⟩;go_wp2_with fail;refine(k _ a).mono ?_;rintro e s ⟨rfl,l,b⟩;go_wp2_with fail;refine(z _ l).mono ?_;rintro e B ⟨rfl,i⟩;exact⟨rfl,rfl,(c.trans (bp.of_below b)).trans i⟩
    ·have f:decide ((-1:Int)= -1)=true:=(by decide);rw[f]at c1;go_enter func175,ntmps175;go_wp2_with fail;refine c1.mono ?_;rintro e d ⟨rfl,a,c⟩;go_wp2_with fail;refine(k _ a).mono ?_;rintro e s ⟨rfl,l,b⟩;go_wp2_with fail;refine(z _ l).mono ?_;rintro e B ⟨rfl,i⟩;exact⟨rfl,rfl,(c.trans (bp.of_below b)).trans i⟩
   ·rw[ax (by omega)]at p;have A:=fun d a=>F d a m;subst p;generalize numP (all.drop j)=N at*;rcases o with rfl|rfl
    ·have f:decide ((1:Int)= -1)=false:=(by decide);rw[f]at c1;go_enter func175,ntmps175;go_wp2_with fail;refine c1.mono ?_;rintro e d ⟨rfl,a,c⟩;go_wp2_with fail;refine(k _ a).mono ?_;rintro e s ⟨rfl,l,b⟩;go_wp2_with fail;refine(A _ l).mono ?_;rintro e B ⟨rfl,G,i⟩;go_wp2_with fail;go_ret;refine⟨?_,G,(c.trans (bp.of_below b)).trans i⟩;show Ending.returned (ag N)= .returned (ag (1*N));rw[Int.one_mul]
    ·have f:decide ((-1:Int)= -1)=true:=(by decide);rw[f]at c1;go_enter func175,ntmps175;go_wp2_with fail;refine c1.mono ?_;rintro e d ⟨rfl,a,c⟩;go_wp2_with fail;refine(k _ a).mono ?_;rintro e s ⟨rfl,l,b⟩;go_wp2_with fail;refine(A _ l).mono ?_;rintro e B ⟨rfl,G,i⟩;go_wp2_with fail;go_ret;refine⟨?_,G,(c.trans (bp.of_below b)).trans i⟩;show Ending.returned (ag (-N))= .returned (ag (-1*N));rw[Int.neg_mul,Int.one_mul]
 ·rw[aB u]at p;have y:=fun d a=>L d a u;subst p;rcases o with rfl|rfl
  ·have f:decide ((1:Int)= -1)=false:=(by decide);rw[f]at c1;go_enter func175,ntmps175;go_wp2_with fail;refine c1.mono ?_;rintro e d ⟨rfl,a,c⟩;go_wp2_with fail;refine(y _ a).mono ?_;rintro e s ⟨rfl,b⟩;exact⟨rfl,rfl,c.trans (bp.of_below b)⟩
  ·have f:decide ((-1:Int)= -1)=true:=(by decide);rw[f]at c1;go_enter func175,ntmps175;go_wp2_with fail;refine c1.mono ?_;rintro e d ⟨rfl,a,c⟩;go_wp2_with fail;refine(y _ a).mono ?_;rintro e s ⟨rfl,b⟩;exact⟨rfl,rfl,c.trans (bp.of_below b)⟩
theorem H3 (a:PS0 all E g v)(h:PSt all E g v w i n):Calls prog 175 #[ab g 0] w (wz all E g v w n (pO all E i)):=by
 cases hm:isT gO (all.drop i) with
 |true=>
  refine yi a (-1) (i+1) (.inr rfl) _ ?_ (gz a h gO (by decide) hm);unfold pO oX;rw[hm];simp only[if_true,Int.neg_mul,Int.one_mul]
 |false=>
  refine yi a 1 i (.inl rfl) _ ?_ (eG a h gO hm);unfold pO oX;rw[hm];simp only[Bool.false_eq_true,if_false,Int.one_mul]
theorem qS (x:List UInt8)(j:Nat)(a:j<7)(h:x=fH.getD j []):dayBit x=2^j:=by
 subst h;match j,a with
 |0,_=>rfl
 |1,_=>rfl
 |2,_=>rfl
 |3,_=>rfl
 |4,_=>rfl
 |5,_=>rfl
 |6,_=>rfl
theorem Kq (x:List UInt8)(h: ∀j,j<7->x≠fH.getD j []):dayBit x=0:=by
 unfold dayBit;rw[ax (h 0 (by omega)),ax (h 1 (by omega)),ax (h 2 (by omega)),ax (h 3 (by omega)),ax (h 4 (by omega)),ax (h 5 (by omega)),ax (h 6 (by omega))]
def lB (all:List Tk)(E i:Nat):Except (Int×Nat) (Int×Nat):=if dayBit (textP (all.drop i))=0 then .error (2,atP E (all.drop i)) else .ok ((dayBit (textP (all.drop i)):Int),i+1)
theorem ME (w:World):(Instr.index 282 (.agg #[.string ⟨#[109,111,110]⟩,.string ⟨#[116,117,101]⟩,.string ⟨#[119,101,100]⟩,.string ⟨#[116,104,117]⟩,.string ⟨#[102,114,105]⟩,.string ⟨#[115,97,116]⟩,.string ⟨#[115,117,110]⟩]) (ag 0)).run prog w= .ok (.string ⟨#[109,111,110]⟩) w:=by
 unfold Instr.index;simp[go_sem]
theorem MF (w:World):(Instr.index 282 (.agg #[.string ⟨#[109,111,110]⟩,.string ⟨#[116,117,101]⟩,.string ⟨#[119,101,100]⟩,.string ⟨#[116,104,117]⟩,.string ⟨#[102,114,105]⟩,.string ⟨#[115,97,116]⟩,.string ⟨#[115,117,110]⟩]) (ag 1)).run prog w= .ok (.string ⟨#[116,117,101]⟩) w:=by
 unfold Instr.index;simp[go_sem]
theorem MG (w:World):(Instr.index 282 (.agg #[.string ⟨#[109,111,110]⟩,.string ⟨#[116,117,101]⟩,.string ⟨#[119,101,100]⟩,.string ⟨#[116,104,117]⟩,.string ⟨#[102,114,105]⟩,.string ⟨#[115,97,116]⟩,.string ⟨#[115,117,110]⟩]) (ag 2)).run prog w= .ok (.string ⟨#[119,101,100]⟩) w:=by
 unfold Instr.index;simp[go_sem]
theorem MH (w:World):(Instr.index 282 (.agg #[.string ⟨#[109,111,110]⟩,.string ⟨#[116,117,101]⟩,.string ⟨#[119,101,100]⟩,.string ⟨#[116,104,117]⟩,.string ⟨#[102,114,105]⟩,.string ⟨#[115,97,116]⟩,.string ⟨#[115,117,110]⟩]) (ag 3)).run prog w= .ok (.string ⟨#[116,104,117]⟩) w:=by
 unfold Instr.index;simp[go_sem]
theorem MJ (w:World):(Instr.index 282 (.agg #[.string ⟨#[109,111,110]⟩,.string ⟨#[116,117,101]⟩,.string ⟨#[119,101,100]⟩,.string ⟨#[116,104,117]⟩,.string ⟨#[102,114,105]⟩,.string ⟨#[115,97,116]⟩,.string ⟨#[115,117,110]⟩]) (ag 4)).run prog w= .ok (.string ⟨#[102,114,105]⟩) w:=by
 unfold Instr.index;simp[go_sem]
theorem MK (w:World):(Instr.index 282 (.agg #[.string ⟨#[109,111,110]⟩,.string ⟨#[116,117,101]⟩,.string ⟨#[119,101,100]⟩,.string ⟨#[116,104,117]⟩,.string ⟨#[102,114,105]⟩,.string ⟨#[115,97,116]⟩,.string ⟨#[115,117,110]⟩]) (ag 5)).run prog w= .ok (.string ⟨#[115,97,116]⟩) w:=by
 unfold Instr.index;simp[go_sem]
theorem ML (w:World):(Instr.index 282 (.agg #[.string ⟨#[109,111,110]⟩,.string ⟨#[116,117,101]⟩,.string ⟨#[119,101,100]⟩,.string ⟨#[116,104,117]⟩,.string ⟨#[102,114,105]⟩,.string ⟨#[115,97,116]⟩,.string ⟨#[115,117,110]⟩]) (ag 6)).run prog w= .ok (.string ⟨#[115,117,110]⟩) w:=by
 unfold Instr.index;simp[go_sem]
attribute [local go_sem] ME MF MG MH MJ MK ML
theorem Ev (p:PS0 all E g v)(h:PSt all E g v w i n):Calls prog 210 #[ab g 0] w (wz all E g v w n (lB all E i)):=by
 have t0:=h.tab 0 (by omega);have t1:=h.tab 1 (by omega);have t2:=h.tab 2 (by omega);have D:=h.tab 3 (by omega);have F:=h.tab 4 (by omega);have G:=h.tab 5 (by omega);have H:=h.tab 6 (by omega);simp only[fH,List.getD_cons_zero,List.getD_cons_succ]at t0 t1 t2 D F G H;go_enter func210,ntmps210;go_wp2_with fail;go_loopw [3,4,6] (fun _ _ q wr=> ∃j:Nat,q=ag (j:Int)/\j<=7/\PSt all E g v wr i n/\bp g w wr/\ ∀k,k<j->textP (all.drop i)≠fH.getD k []) (fun _ _ q _=>7-(intOf q).toNat);case atStart=>exact⟨0,rfl,by omega,h,bp.refl _ _,fun k x=>by omega⟩
 case round=>
  obtain⟨j,rfl,I,d,c,y⟩:=hrel;have u:Rb (∀k,k<j->textP (all.drop i)≠fH.getD k []):=y;by_cases C:j<7
  ·have A:j=0\/j=1\/j=2\/j=3\/j=4\/j=5\/j=6:=(by omega);rcases A with rfl|rfl|rfl|rfl|rfl|rfl|rfl
   ·by_cases b:isT (fH.getD 0 []) (all.drop i)=true
    ·have m:Rb (lB all E i= .ok (((1:Nat):Int),i+1)):=by
      have t:=qS (textP (all.drop i)) 0 (by omega) (by simpa[isT] using b);show _=_;unfold lB;rw[t];rfl
     go_wp2_with fail;refine(gz p d _ (by decide) b).mono ?_;rintro e r ⟨rfl,f,a⟩;go_wp2_with fail;go_ret;rw[m.o];exact⟨rfl,f,c.trans a⟩
    ·have l:isT (fH.getD 0 []) (all.drop i)=false:=(by simpa using b)
     have s:Rb (∀k,k<1->textP (all.drop i)≠fH.getD k []):=fun k x=>by
      by_cases q:k=0
      ·subst q;simpa[isT] using b
      ·exact u.o k (by omega)
     go_wp2_with fail;refine(eG p d _ l).mono ?_;rintro e r ⟨rfl,f,a⟩;go_wp2_with fail;go_roundw;case rel=>exact⟨1,rfl,by omega,f,c.trans a,s.o⟩
     case measure=>simp[intOf]
   ·by_cases b:isT (fH.getD 1 []) (all.drop i)=true
    ·have m:Rb (lB all E i= .ok (((2:Nat):Int),i+1)):=by
      have t:=qS (textP (all.drop i)) 1 (by omega) (by simpa[isT] using b);show _=_;unfold lB;rw[t];rfl
     go_wp2_with fail;refine(gz p d _ (by decide) b).mono ?_;rintro e r ⟨rfl,f,a⟩;go_wp2_with fail;go_ret;rw[m.o];exact⟨rfl,f,c.trans a⟩
    ·have l:isT (fH.getD 1 []) (all.drop i)=false:=(by simpa using b)
     have s:Rb (∀k,k<2->textP (all.drop i)≠fH.getD k []):=fun k x=>by
      by_cases q:k=1
      ·subst q;simpa[isT] using b
      ·exact u.o k (by omega)
     go_wp2_with fail;refine(eG p d _ l).mono ?_;rintro e r ⟨rfl,f,a⟩;go_wp2_with fail;go_roundw;case rel=>exact⟨2,rfl,by omega,f,c.trans a,s.o⟩
     case measure=>simp[intOf]
   ·by_cases b:isT (fH.getD 2 []) (all.drop i)=true
    ·have m:Rb (lB all E i= .ok (((4:Nat):Int),i+1)):=by
      have t:=qS (textP (all.drop i)) 2 (by omega) (by simpa[isT] using b);show _=_;unfold lB;rw[t];rfl
     go_wp2_with fail;refine(gz p d _ (by decide) b).mono ?_;rintro e r ⟨rfl,f,a⟩;go_wp2_with fail;go_ret;rw[m.o];exact⟨rfl,f,c.trans a⟩
    ·have l:isT (fH.getD 2 []) (all.drop i)=false:=(by simpa using b)
     have s:Rb (∀k,k<3->textP (all.drop i)≠fH.getD k []):=fun k x=>by
      by_cases q:k=2
      ·subst q;simpa[isT] using b
      ·exact u.o k (by omega)
     go_wp2_with fail;refine(eG p d _ l).mono ?_;rintro e r ⟨rfl,f,a⟩;go_wp2_with fail;go_roundw;case rel=>exact⟨3,rfl,by omega,f,c.trans a,s.o⟩
     case measure=>simp[intOf]
   ·by_cases b:isT (fH.getD 3 []) (all.drop i)=true
    ·have m:Rb (lB all E i= .ok (((8:Nat):Int),i+1)):=by
      have t:=qS (textP (all.drop i)) 3 (by omega) (by simpa[isT] using b);show _=_;unfold lB;rw[t];rfl
     go_wp2_with fail;refine(gz p d _ (by decide) b).mono ?_;rintro e r ⟨rfl,f,a⟩;go_wp2_with fail;go_ret;rw[m.o];exact⟨rfl,f,c.trans a⟩
    ·have l:isT (fH.getD 3 []) (all.drop i)=false:=(by simpa using b)
     have s:Rb (∀k,k<4->textP (all.drop i)≠fH.getD k []):=fun k x=>by
      by_cases q:k=3
      ·subst q;simpa[isT] using b
      ·exact u.o k (by omega)
     go_wp2_with fail;refine(eG p d _ l).mono ?_;rintro e r ⟨rfl,f,a⟩;go_wp2_with fail;go_roundw;case rel=>exact⟨4,rfl,by omega,f,c.trans a,s.o⟩
     case measure=>simp[intOf]
   ·by_cases b:isT (fH.getD 4 []) (all.drop i)=true
    ·have m:Rb (lB all E i= .ok (((16:Nat):Int),i+1)):=by
      have t:=qS (textP (all.drop i)) 4 (by omega) (by simpa[isT] using b);show _=_;unfold lB;rw[t];rfl
     go_wp2_with fail;refine(gz p d _ (by decide) b).mono ?_;rintro e r ⟨rfl,f,a⟩;go_wp2_with fail;go_ret;rw[m.o];exact⟨rfl,f,c.trans a⟩
    ·have l:isT (fH.getD 4 []) (all.drop i)=false:=(by simpa using b)
     have s:Rb (∀k,k<5->textP (all.drop i)≠fH.getD k []):=fun k x=>by
      by_cases q:k=4
      ·subst q;simpa[isT] using b
      ·exact u.o k (by omega)
     go_wp2_with fail;refine(eG p d _ l).mono ?_;rintro e r ⟨rfl,f,a⟩;go_wp2_with fail;go_roundw;case rel=>exact⟨5,rfl,by omega,f,c.trans a,s.o⟩
     case measure=>simp[intOf]
   ·by_cases b:isT (fH.getD 5 []) (all.drop i)=true
    ·have m:Rb (lB all E i= .ok (((32:Nat):Int),i+1)):=by
      have t:=qS (textP (all.drop i)) 5 (by omega) (by simpa[isT] using b);show _=_;unfold lB;rw[t];rfl
     go_wp2_with fail;refine(gz p d _ (by decide) b).mono ?_;rintro e r ⟨rfl,f,a⟩;go_wp2_with fail;go_ret;rw[m.o];exact⟨rfl,f,c.trans a⟩
    ·have l:isT (fH.getD 5 []) (all.drop i)=false:=(by simpa using b)
     have s:Rb (∀k,k<6->textP (all.drop i)≠fH.getD k []):=fun k x=>by
      by_cases q:k=5
      ·subst q;simpa[isT] using b
      ·exact u.o k (by omega)
     go_wp2_with fail;refine(eG p d _ l).mono ?_;rintro e r ⟨rfl,f,a⟩;go_wp2_with fail;go_roundw;case rel=>exact⟨6,rfl,by omega,f,c.trans a,s.o⟩
     case measure=>simp[intOf]
   ·by_cases b:isT (fH.getD 6 []) (all.drop i)=true
    ·have m:Rb (lB all E i= .ok (((64:Nat):Int),i+1)):=by
      have t:=qS (textP (all.drop i)) 6 (by omega) (by simpa[isT] using b);show _=_;unfold lB;rw[t];rfl
     go_wp2_with fail;refine(gz p d _ (by decide) b).mono ?_;rintro e r ⟨rfl,f,a⟩;go_wp2_with fail;go_ret;rw[m.o];exact⟨rfl,f,c.trans a⟩
    ·have l:isT (fH.getD 6 []) (all.drop i)=false:=(by simpa using b)
     have s:Rb (∀k,k<7->textP (all.drop i)≠fH.getD k []):=fun k x=>by
      by_cases q:k=6
      ·subst q;simpa[isT] using b
      ·exact u.o k (by omega)
     go_wp2_with fail;refine(eG p d _ l).mono ?_;rintro e r ⟨rfl,f,a⟩;go_wp2_with fail;go_roundw;case rel=>exact⟨7,rfl,by omega,f,c.trans a,s.o⟩
     case measure=>simp[intOf]
  ·have B:j=7:=(by omega);subst B
   have m:Rb (lB all E i= .error (2,atP E (all.drop i))):=by
    show _=_;unfold lB;rw[aB (Kq _ u.o)]
   go_wp2_with fail;refine(lA p d 2).mono ?_;rintro e r ⟨rfl,z⟩;refine⟨rfl,?_⟩;rw[m.o];exact⟨rfl,c.trans (bp.of_below z)⟩
end
section
variable {all:List Tk} {E g:Nat} {v:Value} {w:World} {i n:Nat}
def tg:Array Value:= #[ag 0,ag 0,ag 0,.string ⟨#[]⟩,af]
theorem bp.at {w':World}{k:Nat}{o:Obj}(h:bp g w w')(b:w.heap[k]? =some o)(a:k≠g):w'.heap[k]? =some o:=(h.block k (aI b) (fun e=>a (aN e))).trans b
theorem jW {z s:World}{X:Res}{e:Ending}(h:PSt all E g v w i n)(F:PS0 all E g v)(f:bp g w z)(y:z.heap[w.heap.size]? =ah tg 84)
  (o:jC all E g v z (fun k=>w.heap.size+1<=k) X e s):
  (∃C,e= .panicked C/\jC all E g v w (fun k=>w.heap.size<=k) X e s)\/
  (∃(a b c:Int) (x:ByteArray) (p:Option Addr) (q r:Nat),e= .returned (.agg #[ag a,ag b,ag c,.string x,.slice p q r])/\s.heap[w.heap.size]? =ah tg 84/\ ∀m,jC all E g v w (fun k=>w.heap.size<=k) X e (s.setRow w.heap.size m)):=by
 have G:=aI h.blk;cases hx:X with
 |error q=>
  obtain⟨er,at_⟩:=q;rw[hx]at o;obtain⟨rfl,d⟩:=o;exact .inl ⟨_,rfl,rfl,f.trans d⟩
 |ok q=>
  obtain⟨ex,K,nn⟩:=q;rw[hx]at o;obtain⟨I,sl,D,u,rfl,j,A,t,d⟩:=o;obtain⟨J,B,rfl⟩:=j.form;have l:=f.trans d;refine .inr ⟨_,_,_,_,J,ex.kids.length,B,rfl,d.at y (by omega),fun m=> ?_⟩;refine⟨I,_,D,u,rfl,?_,h.of_kept F (l.setRow (aD _) m) ((aW _ _ _ _ (by omega)).trans A.blk) A.le,t,l.setRow (aD _) m⟩;exact(j.kept fun k H _=>aW _ _ _ _ (by omega)).mono fun k H=>(by omega)
theorem fJ (i:Nat):(all.drop i).tail=all.drop (i+1):=by rw[List.tail_drop]
theorem mQ (w:World):(w.alloc (.cells #[ag 0,ag 0,ag 0,.string ⟨#[]⟩,af] 84)).heap[w.heap.size]? =ah tg 84:=aG w _
def yj (E:Nat)(r:List Tk)(n:Nat):Res:=
 if kindP r≠4 then eo E 2 r
 else if isT gO r.tail then
  if kindP r.tail.tail≠4 then eo E 2 r.tail.tail
  else if numP r.tail.tail<numP r+1 then eo E 3 r.tail.tail
  else dK E ⟨3,numP r,numP r.tail.tail,[],[]⟩ r.tail.tail.tail n
 else eo E 2 r.tail
theorem Kr (o:PS0 all E g v)(h:PSt all E g v w i n)(I:n<=600):
  Calls prog 187 #[ab g 0] w (jC all E g v w (fun k=>w.heap.size<=k) (yj E (all.drop i) n)):=by
 have R:=aI h.blk;have B:aq w (w.alloc (.cells #[ag 0,ag 0,ag 0,.string ⟨#[]⟩,af] 84)):=am _ _;have V:=mQ w;have O:=h.below B o;have s:=bp.of_below (g:=g) B;have T:(w.alloc (.cells #[ag 0,ag 0,ag 0,.string ⟨#[]⟩,af] 84)).heap.size=w.heap.size+1:=by simp
 have Y:=ye o i;unfold yj eo;simp only[fJ];generalize U:w.alloc (.cells #[ag 0,ag 0,ag 0,.string ⟨#[]⟩,af] 84)=wA at*;by_cases t:kindP (all.drop i)=4
 ·have c1:=qQ o O 4 (by decide) t;rw[ax (by simp[t])];unfold kF at c1;generalize numP (all.drop i)=N at*;generalize kindP (all.drop i)=t0 at*;by_cases D:isT gO (all.drop (i+1))=true
  ·rw[aB D];have z:=fun(l:World) (f:PSt all E g v l (i+1) n)=>oV o f gO (by decide) D;by_cases t:kindP (all.drop (i+1+1))=4
   ·rw[ax (by simp[t])];by_cases u:numP (all.drop (i+1+1))<N+1
    ·rw[aB u];have y:=fun(l:World) (f:PSt all E g v l (i+1+1) n)=>oW o f 4 (N+1) t u;go_enter func187,ntmps187;go_wp2_with fail;refine c1.mono ?_;rintro e l ⟨rfl,f,d⟩;go_wp2_with fail;refine(z _ f).mono ?_;rintro e K ⟨rfl,A,j⟩;go_wp2_with fail;refine(y _ A).mono ?_;rintro e P ⟨rfl,m⟩;exact⟨rfl,rfl,((s.trans d).trans j).trans m⟩
    ·rw[ax u];have y:=fun(l:World) (f:PSt all E g v l (i+1+1) n)=>qR o f 4 (N+1) (by decide) t u;unfold kF at y;have Z:=ye o (i+1+1);generalize numP (all.drop (i+1+1))=M at*;have L:=fun(l:World) (f:PSt all E g v l (i+1+1+1) n)=>kK o f I (fun k=>w.heap.size+1<=k) (fun k X=>by omega) ⟨3,N,M,[],[]⟩ (af) 0 (dG.nil _ _ _ _ _);unfold exV at L;go_enter func187,ntmps187;go_wp2_with fail;refine c1.mono ?_;rintro e l ⟨rfl,f,d⟩;go_wp2_with fail;refine(z _ f).mono ?_;rintro e K ⟨rfl,A,j⟩;go_wp2_with fail;refine(y _ A).mono ?_;rintro e P ⟨rfl,Q,m⟩;have G:=((s.trans d).trans j).trans m;have J:=((d.trans j).trans m).at V (by omega);go_wp2_with fail;refine(L _ Q).mono ?_;intro e w5 S;rcases jW h o G J S with⟨W,rfl,F⟩|⟨a,b,c,x,p,q,r,rfl,C,F⟩
     ·exact⟨rfl,F⟩
     ·go_wp2_with(refine az rfl 84 _ _ rfl _ _ rfl rfl _ _ C (by kernel_rfl) (by rfl) (by simp[Value.oneCell']) ?_)
      exact jQ 2 (by kernel_rfl) w.heap.size _ _ _ _ _ rfl rfl (aL _ _ _ _ _ _ C) (F _)
   ·rw[aB t];have y:=fun(l:World) (f:PSt all E g v l (i+1+1) n)=>tQ o f 4 (N+1) t;go_enter func187,ntmps187;go_wp2_with fail;refine c1.mono ?_;rintro e l ⟨rfl,f,d⟩;go_wp2_with fail;refine(z _ f).mono ?_;rintro e K ⟨rfl,A,j⟩;go_wp2_with fail;refine(y _ A).mono ?_;rintro e P ⟨rfl,m⟩;exact⟨rfl,rfl,((s.trans d).trans j).trans m⟩
  ·have H:isT gO (all.drop (i+1))=false:=(by simpa using D);rw[ax D];have z:=fun(l:World) (f:PSt all E g v l (i+1) n)=>qE o f gO H;go_enter func187,ntmps187;go_wp2_with fail;refine c1.mono ?_;rintro e l ⟨rfl,f,d⟩;go_wp2_with fail;refine(z _ f).mono ?_;rintro e K ⟨rfl,j⟩;exact⟨rfl,rfl,(s.trans d).trans j⟩
 ·have c1:=zO o O 4 t;rw[aB t];go_enter func187,ntmps187;go_wp2_with fail;refine c1.mono ?_;rintro e l ⟨rfl,d⟩;exact⟨rfl,rfl,s.trans d⟩
def RC (all:List Tk)(E g:Nat)(v:Value)(f:FuncId)(m i:Nat):Prop:= ∀(w:World) (n d:Nat),PSt all E g v w i n->n<=600->d<=41->
 Calls prog f #[ab g 0,ag (d:Int)] w (jC all E g v w (fun k=>w.heap.size<=k) (rd E m d ex0 (all.drop i) n))
def Ks (all:List Tk)(E g:Nat)(v:Value)(w:World)(B:Nat->Prop)(x:Res)(e:Ending)(w':World):Prop:=
 match x with
 | .error (er,at_)=>e= .panicked (jq er at_)/\bp g w w'
 | .ok (k,r,n)=> ∃(i b d:Nat),r=all.drop i/\e= .returned (.slice (some (ae b 0)) 1 1)/\dG B d w' (.slice (some (ae b 0)) 1 1) [k]/\PSt all E g v w' i n/\n<=600/\bp g w w'
def qT (E d:Nat)(r:List Tk)(n:Nat):Res:=if isT nT r then rd E 4 (d+1) ex0 r.tail n else eo E 2 r
theorem ue (y:PS0 all E g v)(h:PSt all E g v w i n)(F:n<=600)(d:Nat)(V:d<=40)(L:RC all E g v 153 4 (i+1)):
  Calls prog 211 #[ab g 0,ag (d:Int)] w (Ks all E g v w (fun k=>w.heap.size<=k) (qT E d (all.drop i) n)):=by
 have O:=aI h.blk;unfold qT;rw[fJ];by_cases t:isT nT (all.drop i)=true
 ·rw[aB t];have c1:=oV y h nT (by decide) t;have I: ∀(j:World),PSt all E g v j (i+1) n->Calls prog 153 #[ab g 0,ag ((d:Int)+1)] j (jC all E g v j (fun k=>j.heap.size<=k) (rd E 4 (d+1) ex0 (all.drop (i+1)) n)):=fun j z=>L j n (d+1) z F (by omega);have M:(d:Int)<=40:=(by omega);have N:(0:Int)<=(d:Int):=(by omega);go_enter func211,ntmps211;go_wp2_with fail;refine c1.mono ?_;rintro e j ⟨rfl,z,c⟩;go_wp2_with fail;refine(I _ z).mono ?_;intro e l u;cases hx:rd E 4 (d+1) ex0 (all.drop (i+1)) n with
  |error q=>
   obtain⟨er,at_⟩:=q;rw[hx]at u;obtain⟨rfl,f⟩:=u;refine⟨rfl,?_⟩;rw[hx];exact⟨rfl,c.trans f⟩
  |ok q=>
   obtain⟨ex,W,nn⟩:=q;rw[hx]at u;obtain⟨S,sl,U,G,rfl,p,J,D,f⟩:=u;obtain⟨x,s,rfl⟩:=p.form;have Q:=c.size;have R:=f.size;have A:=(c.trans f).alloc (.cells #[ag ex.kind,ag ex.a,ag ex.b,.string ⟨ex.name.toArray⟩,.slice x ex.kids.length s] 84);have m:aq l (l.alloc (.cells #[ag ex.kind,ag ex.a,ag ex.b,.string ⟨ex.name.toArray⟩,.slice x ex.kids.length s] 84)):=am _ _;have r:=(bp.of_below (g:=g) m).kids (B:=fun k=>w.heap.size<=k) (fun k P=>by omega) (p.mono fun k P=>by omega);have T:=B5 (B:=fun k=>w.heap.size<=k) (by show w.heap.size<=l.heap.size;omega) (aG l (.cells #[ag ex.kind,ag ex.a,ag ex.b,.string ⟨ex.name.toArray⟩,.slice x ex.kids.length s] 84)) r;have K:=J.below m y
   have H:Rb (Ks all E g v w (fun k=>w.heap.size<=k) (rd E 4 (d+1) ex0 (all.drop (i+1)) n) (.returned (.slice (some (ae l.heap.size 0)) 1 1)) (l.alloc (.cells #[ag ex.kind,ag ex.a,ag ex.b,.string ⟨ex.name.toArray⟩,.slice x ex.kids.length s] 84))):=by
    show Ks _ _ _ _ _ _ _ _ _;rw[hx];exact⟨S,_,_,G,rfl,T,K,D,A⟩
   unfold exV;go_wp2_with fail;go_ret;exact H.o
 ·have C:isT nT (all.drop i)=false:=by simpa using t
  rw[ax t];have c1:=qE y h nT C;go_enter func211,ntmps211;go_wp2_with fail;refine c1.mono ?_;rintro e j ⟨rfl,c⟩;exact⟨rfl,rfl,c⟩
theorem uf (E d:Nat)(e:Ex)(r:List Tk)(n:Nat):rd E 8 d e r n=dw (qT E d r n) fun k r n=>dK E ⟨e.kind,e.a,e.b,[],[k]⟩ r n:=by
 rw[QF];unfold qT;split
 ·rfl
 ·rfl
end
section
variable {all:List Tk} {E g:Nat} {v:Value} {w:World} {i n:Nat}
def ug (E d:Nat)(r:List Tk)(n:Nat):Res:=
 if kindP r≠5 then eo E 2 r
 else if isT wTo r.tail then
  if kindP r.tail.tail≠5 then eo E 2 r.tail.tail
  else if numP r.tail.tail<numP r then eo E 3 r.tail.tail
  else rd E 8 d ⟨5,numP r,numP r.tail.tail,[],[]⟩ r.tail.tail.tail n
 else rd E 8 d ⟨5,numP r,numP r,[],[]⟩ r.tail n
theorem H4 (p:PS0 all E g v)(h:PSt all E g v w i n)(P:n<=600)(d:Nat)(hd:d<=40)(hF: ∀j,i<j->RC all E g v 153 4 j):
  Calls prog 186 #[ab g 0,ag (d:Int)] w (jC all E g v w (fun k=>w.heap.size<=k) (ug E d (all.drop i) n)):=by
 have ad:=aI h.blk;have O:aq w (w.alloc (.cells #[ag 0,ag 0,ag 0,.string ⟨#[]⟩,af] 84)):=am _ _;have hz:=mQ w;have hA:=h.below O p;have x:=bp.of_below (g:=g) O;unfold ug eo;simp only[fJ];generalize ah:w.alloc (.cells #[ag 0,ag 0,ag 0,.string ⟨#[]⟩,af] 84)=wA at*;by_cases r:kindP (all.drop i)=5
 ·have c1:=qQ p hA 5 (by decide) r;rw[ax (by simp[r])];unfold kF at c1;generalize numP (all.drop i)=N at*;generalize kindP (all.drop i)=t0 at*;by_cases R:isT wTo (all.drop (i+1))=true
  ·rw[aB R];have K:=fun(s:World) (m:PSt all E g v s (i+1) n)=>gz p m wTo (by decide) R;by_cases r:kindP (all.drop (i+1+1))=5
   ·rw[ax (by simp[r])];by_cases A:numP (all.drop (i+1+1))<N
    ·rw[aB A];have J:=fun(s:World) (m:PSt all E g v s (i+1+1) n)=>oW p m 5 N r A;go_enter func186,ntmps186;go_wp2_with fail;refine c1.mono ?_;rintro e s ⟨rfl,m,b⟩;go_wp2_with fail;refine(K _ m).mono ?_;rintro e w2 ⟨rfl,L,f⟩;go_wp2_with fail;refine(J _ L).mono ?_;rintro e w3 ⟨rfl,c⟩;exact⟨rfl,rfl,((x.trans b).trans f).trans c⟩
    ·rw[ax A];have J:=fun(s:World) (m:PSt all E g v s (i+1+1) n)=>qR p m 5 N (by decide) r A;unfold kF at J;generalize numP (all.drop (i+1+1))=M at*;generalize W:rd E 8 d ⟨5,N,M,[],[]⟩ (all.drop (i+1+1+1)) n=X;have S:Rb (rd E 8 d ⟨5,N,M,[],[]⟩ (all.drop (i+1+1+1)) n=X):=W;go_enter func186,ntmps186;go_wp2_with fail;refine c1.mono ?_;rintro e s ⟨rfl,m,b⟩;go_wp2_with fail;refine(K _ m).mono ?_;rintro e w2 ⟨rfl,L,f⟩;go_wp2_with fail;refine(J _ L).mono ?_;rintro e w3 ⟨rfl,V,B⟩;have c:=((x.trans b).trans f).trans B;have y:=((b.trans f).trans B).at hz (by omega);have a:=S.o;rw[uf]at a;go_wp2_with fail;refine(ue p V P d hd (hF (i+1+1+1+1) (by omega))).mono ?_;intro e w5 t;cases hx:qT E d (all.drop (i+1+1+1)) n with
     |error q=>
      obtain⟨er,at_⟩:=q;rw[hx]at t;obtain⟨rfl,l⟩:=t;rw[hx]at a;refine⟨rfl,?_⟩;rw[<-a];exact⟨rfl,c.trans l⟩
     |ok q=>
      obtain⟨Q,rr,nn⟩:=q;rw[hx]at t;obtain⟨i',T,U,H,rfl,F,r,G,l⟩:=t;subst H;have ac:=c.size;have I:=l.at y (by omega);have Z:=aI y;have C:=kK p r G (fun k=>w.heap.size+1<=k) (fun k Y=>by omega) ⟨5,N,M,[],[Q]⟩ (.slice (some (ae T 0)) 1 1) U (F.mono fun k Y=>by omega);unfold exV at C;have u:=c.trans l;rw[hx]at a;rw[show dK E ⟨5,N,M,[],[Q]⟩ (all.drop i') nn=X from a]at C;go_wp2_with fail;refine C.mono ?_;intro e w6 t;rcases jW h p u I t with⟨ch,rfl,D⟩|⟨a',b',c',x',p',q',r',rfl,z,D⟩
      ·exact⟨rfl,D⟩
      ·go_wp2_with(refine az rfl 84 _ _ rfl _ _ rfl rfl _ _ z (by kernel_rfl) (by rfl) (by simp[Value.oneCell']) ?_)
       exact jQ 4 (by kernel_rfl) w.heap.size _ _ _ _ _ rfl rfl (aL _ _ _ _ _ _ z) (D _)
   ·rw[aB r];have J:=fun(s:World) (m:PSt all E g v s (i+1+1) n)=>tQ p m 5 N r;go_enter func186,ntmps186;go_wp2_with fail;refine c1.mono ?_;rintro e s ⟨rfl,m,b⟩;go_wp2_with fail;refine(K _ m).mono ?_;rintro e w2 ⟨rfl,L,f⟩;go_wp2_with fail;refine(J _ L).mono ?_;rintro e w3 ⟨rfl,c⟩;exact⟨rfl,rfl,((x.trans b).trans f).trans c⟩
  ·have aa:isT wTo (all.drop (i+1))=false:=(by simpa using R);rw[ax R];have K:=fun(s:World) (m:PSt all E g v s (i+1) n)=>eG p m wTo aa;generalize W:rd E 8 d ⟨5,N,N,[],[]⟩ (all.drop (i+1)) n=X;have S:Rb (rd E 8 d ⟨5,N,N,[],[]⟩ (all.drop (i+1)) n=X):=W;go_enter func186,ntmps186;go_wp2_with fail;refine c1.mono ?_;rintro e s ⟨rfl,m,b⟩;go_wp2_with fail;refine(K _ m).mono ?_;rintro e w3 ⟨rfl,V,f⟩;have c:=(x.trans b).trans f;have y:=(b.trans f).at hz (by omega);have a:=S.o;rw[uf]at a;go_wp2_with fail;refine(ue p V P d hd (hF (i+1+1) (by omega))).mono ?_;intro e w5 t;cases hx:qT E d (all.drop (i+1)) n with
   |error q=>
    obtain⟨er,at_⟩:=q;rw[hx]at t;obtain⟨rfl,l⟩:=t;rw[hx]at a;refine⟨rfl,?_⟩;rw[<-a];exact⟨rfl,c.trans l⟩
   |ok q=>
    obtain⟨Q,rr,nn⟩:=q;rw[hx]at t;obtain⟨i',T,U,H,rfl,F,r,G,l⟩:=t;subst H;have ac:=c.size;have I:=l.at y (by omega);have Z:=aI y;have C:=kK p r G (fun k=>w.heap.size+1<=k) (fun k Y=>by omega) ⟨5,N,N,[],[Q]⟩ (.slice (some (ae T 0)) 1 1) U (F.mono fun k Y=>by omega);unfold exV at C;have u:=c.trans l;rw[hx]at a;rw[show dK E ⟨5,N,N,[],[Q]⟩ (all.drop i') nn=X from a]at C;go_wp2_with fail;refine C.mono ?_;intro e w6 t;rcases jW h p u I t with⟨ch,rfl,D⟩|⟨a',b',c',x',p',q',r',rfl,z,D⟩
    ·exact⟨rfl,D⟩
    ·go_wp2_with(refine az rfl 84 _ _ rfl _ _ rfl rfl _ _ z (by kernel_rfl) (by rfl) (by simp[Value.oneCell']) ?_)
     exact jQ 4 (by kernel_rfl) w.heap.size _ _ _ _ _ rfl rfl (aL _ _ _ _ _ _ z) (D _)
 ·have c1:=zO p hA 5 r;rw[aB r];go_enter func186,ntmps186;go_wp2_with fail;refine c1.mono ?_;rintro e s ⟨rfl,b⟩;exact⟨rfl,rfl,x.trans b⟩
def sJ (E d:Nat)(a:Nat)(r:List Tk)(n:Nat):Res:=if isT pM r then rd E 7 d ⟨0,(a:Int),0,[],[]⟩ r.tail n else rd E 8 d ⟨4,(a:Int),0,[],[]⟩ r n
theorem H5 (E d:Nat)(e:Ex)(r:List Tk)(n:Nat)(h:dayBit (textP r)=0):rd E 7 d e r n=eo E 2 r:=by rw[Oy,aB h]
theorem Ew (E d:Nat)(e:Ex)(r:List Tk)(n:Nat)(h:dayBit (textP r)≠0):rd E 7 d e r n=sJ E d (e.a.toNat|||dayBit (textP r)) r.tail n:=by rw[Oy,ax h];rfl
theorem H6 (x:List UInt8):dayBit x<128:=by
 unfold dayBit;repeat (split; ·omega)
 omega
theorem PW: ∀a:Fin 128,∀b:Fin 128,bits BinOp.or IntKind.i64 ((a.val:Nat):Int) ((b.val:Nat):Int)=((a.val|||b.val:Nat):Int):=by decide+kernel
theorem PX {a b:Nat}(ha:a<128)(c:b<128):bits BinOp.or IntKind.i64 (a:Int) (b:Int)=((a|||b:Nat):Int):=PW ⟨a,ha⟩ ⟨b,c⟩
theorem PY {a b:Nat}(ha:a<128)(c:b<128):a|||b<128:=Nat.or_lt_two_pow (n:=7) ha c
theorem FE (s:PS0 all E g v)(h:PSt all E g v w i n)(W:n<=600)(d:Nat)(hd:d<=40)(hF: ∀j,i<j->RC all E g v 153 4 j):
  Calls prog 185 #[ab g 0,ag (d:Int)] w (jC all E g v w (fun k=>w.heap.size<=k) (rd E 7 d ex0 (all.drop i) n)):=by
 have aj:=aI h.blk;have C:aq w (w.alloc (.cells #[ag 0,ag 0,ag 0,.string ⟨#[]⟩,af] 84)):=am _ _;have hz:=mQ w;have hA:=h.below C s;have I:=bp.of_below (g:=g) C;have ai:=s.len;generalize ar:w.alloc (.cells #[ag 0,ag 0,ag 0,.string ⟨#[]⟩,af] 84)=wA at*;have c1:=Ev s hA;unfold lB at c1;by_cases f:dayBit (textP (all.drop i))=0
 ·rw[aB f]at c1;rw[H5 _ _ _ _ _ f];go_enter func185,ntmps185;go_wp2_with fail;refine c1.mono ?_;rintro e w1 ⟨rfl,t⟩;exact⟨rfl,rfl,I.trans t⟩
 ·rw[ax f]at c1;rw[Ew _ _ _ _ _ f,fJ];have ha:=H6 (textP (all.drop i));have ez:(ex0.a.toNat|||dayBit (textP (all.drop i)))=dayBit (textP (all.drop i)):=(by show(0|||_)=_;exact Nat.zero_or _);rw[ez];generalize dayBit (textP (all.drop i))=a0 at*;generalize hX:sJ E d a0 (all.drop (i+1)) n=X;go_enter func185,ntmps185;go_wp2_with fail;refine c1.mono ?_;rintro e w1 ⟨rfl,N,t⟩;have G:=I.trans t;have ac:=t.at hz (by omega);go_wp2_with fail;go_loopw [5] (fun q wr=> ∃(a j:Nat),q=ag (a:Int)/\a<128/\i<j/\PSt all E g v wr j n/\bp g w wr/\wr.heap[w.heap.size]? =ah tg 84/\sJ E d a (all.drop j) n=X/\wr.heap[g]? =ah #[v,ag (j:Int),ag (E:Int),ag (n:Int)] 97) (fun _ wr=>all.length-(match wr.heap[g]? with|some (.cells cs _ _)=>(intOf (cs.getD 1 undef)).toNat|_=>0));case atStart=>exact⟨a0,i+1,rfl,ha,by omega,N,G,ac,hX,N.blk⟩
  case round=>
   obtain⟨a,j,rfl,ha,ak,J,y,L,c,D⟩:=hrel;by_cases F:isT pM (all.drop j)=true
   ·have al:=oU (by decide) F;have M:=gz s J pM (by decide) F;unfold sJ at c;rw[aB F,fJ]at c;have P:=fun(w1:World) (N:PSt all E g v w1 (j+1) n)=>Ev s N;unfold lB at P;by_cases f:dayBit (textP (all.drop (j+1)))=0
    ·rw[H5 _ _ _ _ _ f]at c;have p:=P;simp only[aB f]at p;have A:Rb (X=eo E 2 (all.drop (j+1))):=c.symm;go_wp2_with fail;refine M.mono ?_;rintro e w2 ⟨rfl,Q,m⟩;go_wp2_with fail;refine(p _ Q).mono ?_;rintro e w3 ⟨rfl,l⟩;refine⟨rfl,?_⟩;rw[A.o];exact⟨rfl,(y.trans m).trans l⟩
    ·rw[Ew _ _ _ _ _ f,fJ]at c;have p:=P;simp only[ax f]at p;have hb:=H6 (textP (all.drop (j+1)));have Y:=PY ha hb
     have an:j+1+1<=all.length:=by
      have:=pG f;simp at this;omega
     have aa:((a:Int)).toNat=a:=(by omega);dsimp only at c;rw[aa]at c;have A:Rb (sJ E d (a|||dayBit (textP (all.drop (j+1)))) (all.drop (j+1+1)) n=X):=c;generalize dayBit (textP (all.drop (j+1)))=b at*;go_wp2_with fail;refine M.mono ?_;rintro e w2 ⟨rfl,Q,m⟩;go_wp2_with fail;refine(p _ Q).mono ?_;rintro e w3 ⟨rfl,B,l⟩;have x:=(m.trans l).at L (by omega);have T:=(y.trans m).trans l;go_wp2_with fail;go_roundw;case rel=>exact⟨a|||b,j+1+1,by rw[PX ha hb],Y,by omega,B,T,x,A.o,B.blk⟩
     case measure=>
      rw[B.blk,D];simp[intOf];omega
   ·have S:isT pM (all.drop j)=false:=(by simpa using F);have M:=eG s J pM S;unfold sJ at c;rw[ax F]at c;have A:Rb (rd E 8 d ⟨4,(a:Int),0,[],[]⟩ (all.drop j) n=X):=c;go_wp2_with fail;refine M.mono ?_;rintro e w3 ⟨rfl,B,m⟩;have l:=y.trans m;have x:=m.at L (by omega);have r:=A.o;rw[uf]at r;go_wp2_with fail;refine(ue s B W d hd (hF (j+1) (by omega))).mono ?_;intro e w5 z;cases hx:qT E d (all.drop (j)) n with
    |error q=>
     obtain⟨er,at_⟩:=q;rw[hx]at z;obtain⟨rfl,u⟩:=z;rw[hx]at r;refine⟨rfl,?_⟩;rw[<-r];exact⟨rfl,l.trans u⟩
    |ok q=>
     obtain⟨kx,rr,nn⟩:=q;rw[hx]at z;obtain⟨i',bk,dd,Z,rfl,U,h5,V,u⟩:=z;subst Z;have ap:=l.size;have ad:=u.at x (by omega);have ao:=aI x;have O:=kK s h5 V (fun k=>w.heap.size+1<=k) (fun k hk=>by omega) ⟨4,(a:Int),0,[],[kx]⟩ (.slice (some (ae bk 0)) 1 1) dd (U.mono fun k hk=>by omega);unfold exV at O;have H:=l.trans u;rw[hx]at r;rw[show dK E ⟨4,(a:Int),0,[],[kx]⟩ (all.drop i') nn=X from r]at O;go_wp2_with fail;refine O.mono ?_;intro e w6 z;rcases jW h s H ad z with⟨ch,rfl,R⟩|⟨a',b',c',x',p',q',r',rfl,K,R⟩
     ·exact⟨rfl,R⟩
     ·go_wp2_with(refine az rfl 84 _ _ rfl _ _ rfl rfl _ _ K (by kernel_rfl) (by rfl) (by simp[Value.oneCell']) ?_)
      exact jQ 4 (by kernel_rfl) w.heap.size _ _ _ _ _ rfl rfl (aL _ _ _ _ _ _ K) (R _)
end
section
variable {all:List Tk} {E g:Nat} {v:Value} {w:World} {i n:Nat}
theorem FG (f:PS0 all E g v)(hS: ∀j,i<j->RC all E g v 99 0 j)(hF: ∀j,i<j->RC all E g v 153 4 j):RC all E g v 174 6 i:=by
 intro w n d h I a6;have aA:=aI h.blk;have ak:aq w (w.alloc (.cells #[ag 0,ag 0,ag 0,.string ⟨#[]⟩,af] 84)):=am _ _;have hz:=mQ w;have D:=h.below ak f;have F:=bp.of_below (g:=g) ak;generalize aH:w.alloc (.cells #[ag 0,ag 0,ag 0,.string ⟨#[]⟩,af] 84)=w0 at*;have J:=bp.refl g w0;by_cases aj:40<d
 ·have a5:(40:Int)<(d:Int):=by omega
  rw[Ox,aB aj];go_enter func174,ntmps174;go_wp2_with fail;refine(lA f D 4).mono ?_;rintro e w1 ⟨rfl,av⟩;exact⟨rfl,rfl,F.trans (bp.of_below av)⟩
 have hd:d<=40:=by omega
 have a7: ¬(40:Int)<(d:Int):=by omega
 have a8:(d:Int)<=40:=by omega
 have a9:(0:Int)<=(d:Int):=by omega
 generalize au:rd E 6 d ex0 (all.drop i) n=X;have A:_:=au;rw[Ox,ax aj]at A;simp only[fJ]at A;by_cases t0:isT kV (all.drop i)=true
 ·rw[aB t0]at A;have L:Rb (dw (rd E 0 (d+1) ex0 (all.drop (i+1)) n) (fun e r n=>if isT pF r then .ok (e,r.tail,n) else eo E 2 r)=X):=A;go_enter func174,ntmps174;go_wp2_with fail;refine(gz f D kV (by decide) t0).mono ?_;rintro e U ⟨rfl,x,c⟩;have l:=J.trans c;have m:=l.at hz (by omega);have s:=F.trans l;have R:=aI m;have z:Calls prog 99 #[ab g 0,ag ((d:Int)+1)] U (jC all E g v U (fun k=>U.heap.size<=k) (rd E 0 (d+1) ex0 (all.drop (i+1)) n)):=hS (i+1) (by omega) U n (d+1) x I (by omega);have P:=L.o;go_wp2_with fail;refine z.mono ?_;intro e W G;cases hx:rd E 0 (d+1) ex0 (all.drop (i+1)) n with
  |error q=>
   obtain⟨er,at_⟩:=q;rw[hx]at G P;obtain⟨rfl,a0⟩:=G;refine⟨rfl,?_⟩;rw[<-P];exact⟨rfl,s.trans a0⟩
  |ok q=>
   obtain⟨ex,rr,nn⟩:=q;rw[hx]at G P;obtain⟨i',sl,dd,a4,rfl,al,h2,a2,ae⟩:=G;subst a4;obtain⟨p5,c5,rfl⟩:=al.form;have aJ:=ae.at m (by omega);have aE:=ae.size;have ad:aq W (W.alloc (.cells #[ag ex.kind,ag ex.a,ag ex.b,.string ⟨ex.name.toArray⟩,.slice p5 ex.kids.length c5] 84)):=am _ _;have h3:=h2.below ad f;have ah:=ae.trans (bp.of_below ad);have aw:=aG W (.cells #[ag ex.kind,ag ex.a,ag ex.b,.string ⟨ex.name.toArray⟩,.slice p5 ex.kids.length c5] 84);have an:dG (fun k=>w.heap.size+1<=k) dd (W.alloc (.cells #[ag ex.kind,ag ex.a,ag ex.b,.string ⟨ex.name.toArray⟩,.slice p5 ex.kids.length c5] 84)) (.slice p5 ex.kids.length c5) ex.kids:=(bp.of_below (g:=g) ad).kids (fun k V=>by omega) (al.mono fun k V=>by omega);unfold exV;generalize aF:W.alloc (.cells #[ag ex.kind,ag ex.a,ag ex.b,.string ⟨ex.name.toArray⟩,.slice p5 ex.kids.length c5] 84)=w3 at*;by_cases hm:isT pF (all.drop i')=true
   ·have aa:=oV f h3 pF (by decide) hm
    have Z:Rb (X= .ok (ex,all.drop (i'+1),nn)):=by
     show _=_;rw[<-P,<-fJ];show(if isT pF (all.drop i') then _ else _)=_;rw[aB hm]
    go_wp2_with fail;refine aa.mono ?_;rintro e Y ⟨rfl,h4,M⟩;have ay:=M.at aw (by omega);have ar:=(ah.trans M).at m (by omega);have ap:=(s.trans ah).trans M;have ao:=M.kids (fun k V=>by omega) an
    have HO:Rb (∀cs,jC all E g v w (fun k=>w.heap.size<=k) X (.returned (exV ex (.slice p5 ex.kids.length c5))) (Y.setRow w.heap.size cs)):=fun cs=>by
     rw[Z.o];exact⟨i'+1,_,dd,rfl,rfl,(ao.kept fun k V _=>aW _ _ _ _ (by omega)).mono fun k V=>by omega,h.of_kept f (ap.setRow (aD _) cs) ((aW _ _ _ _ (by omega)).trans h4.blk) h4.le,a2,ap.setRow (aD _) cs⟩
    unfold exV at HO
    go_wp2_with(first
     |(refine aR rfl 84 _ rfl _ rfl _ _ _ _ ay fo rfl (by kernel_rfl) ?_)
     |(refine az rfl 84 _ _ rfl _ _ rfl rfl _ _ ar (by kernel_rfl) (by rfl) (by simp[Value.oneCell']) ?_))
    exact jQ 4 (by kernel_rfl) w.heap.size _ _ _ _ _ rfl rfl (aL _ _ _ _ _ _ ar) (HO.o _)
   ·have a1:isT pF (all.drop i')=false:=(by simpa using hm);have aa:=qE f h3 pF a1
    have Z:Rb (X=eo E 2 (all.drop i')):=by
     show _=_;rw[<-P];show(if isT pF (all.drop i') then _ else _)=_;rw[ax hm]
    go_wp2_with fail;refine aa.mono ?_;rintro e Y ⟨rfl,M⟩;refine⟨rfl,?_⟩;rw[Z.o];exact⟨rfl,(s.trans ah).trans M⟩
 have f0:isT kV (all.drop i)=false:=by simpa using t0
 rw[ax t0]at A;by_cases t1:isT kb (all.drop i)=true
 ·rw[aB t1]at A;have L:Rb (dK E ⟨1,0,0,[],[]⟩ (all.drop (i+1)) n=X):=A;go_enter func174,ntmps174;go_wp2_with fail;refine(eG f D kV f0).mono ?_;rintro e w1 ⟨rfl,u,c⟩;have y:=J.trans c;go_wp2_with fail;refine(gz f u kb (by decide) t1).mono ?_;rintro e U ⟨rfl,x,c⟩;have l:=y.trans c;have m:=l.at hz (by omega);have s:=F.trans l;have R:=aI m;have z:=kK f x I (fun k=>w.heap.size+1<=k) (fun k V=>by omega) ⟨1,0,0,[],[]⟩ (af) 0 (dG.nil _ _ _ _ _);unfold exV at z;rw[show dK E ⟨1,0,0,[],[]⟩ (all.drop (i+1)) n=X from L.o]at z;go_wp2_with fail;refine z.mono ?_;intro e w5 G;rcases jW h f s m G with⟨ch,rfl,t⟩|⟨a',b',c',x',p',q',r',rfl,p,t⟩
  ·exact⟨rfl,t⟩
  ·go_wp2_with(refine az rfl 84 _ _ rfl _ _ rfl rfl _ _ p (by kernel_rfl) (by rfl) (by simp[Value.oneCell']) ?_)
   exact jQ 4 (by kernel_rfl) w.heap.size _ _ _ _ _ rfl rfl (aL _ _ _ _ _ _ p) (t _)
 have f1:isT kb (all.drop i)=false:=by simpa using t1
 rw[ax t1]at A;by_cases t2:isT jF (all.drop i)=true
 ·rw[aB t2]at A;have L:Rb (dK E ⟨2,0,0,[],[]⟩ (all.drop (i+1)) n=X):=A;go_enter func174,ntmps174;go_wp2_with fail;refine(eG f D kV f0).mono ?_;rintro e w1 ⟨rfl,u,c⟩;have y:=J.trans c;go_wp2_with fail;refine(eG f u kb f1).mono ?_;rintro e W ⟨rfl,B,c⟩;have C:=y.trans c;go_wp2_with fail;refine(gz f B jF (by decide) t2).mono ?_;rintro e U ⟨rfl,x,c⟩;have l:=C.trans c;have m:=l.at hz (by omega);have s:=F.trans l;have R:=aI m;have z:=kK f x I (fun k=>w.heap.size+1<=k) (fun k V=>by omega) ⟨2,0,0,[],[]⟩ (af) 0 (dG.nil _ _ _ _ _);unfold exV at z;rw[show dK E ⟨2,0,0,[],[]⟩ (all.drop (i+1)) n=X from L.o]at z;go_wp2_with fail;refine z.mono ?_;intro e w5 G;rcases jW h f s m G with⟨ch,rfl,t⟩|⟨a',b',c',x',p',q',r',rfl,p,t⟩
  ·exact⟨rfl,t⟩
  ·go_wp2_with(refine az rfl 84 _ _ rfl _ _ rfl rfl _ _ p (by kernel_rfl) (by rfl) (by simp[Value.oneCell']) ?_)
   exact jQ 4 (by kernel_rfl) w.heap.size _ _ _ _ _ rfl rfl (aL _ _ _ _ _ _ p) (t _)
 have f2:isT jF (all.drop i)=false:=by simpa using t2
 rw[ax t2]at A;by_cases t3:isT j6 (all.drop i)=true
 ·rw[aB t3]at A;have L:Rb (rd E 7 d ex0 (all.drop (i+1)) n=X):=A;go_enter func174,ntmps174;go_wp2_with fail;refine(eG f D kV f0).mono ?_;rintro e w1 ⟨rfl,u,c⟩;have y:=J.trans c;go_wp2_with fail;refine(eG f u kb f1).mono ?_;rintro e W ⟨rfl,B,c⟩;have C:=y.trans c;go_wp2_with fail;refine(eG f B jF f2).mono ?_;rintro e w3 ⟨rfl,H,c⟩;have K:=C.trans c;go_wp2_with fail;refine(gz f H j6 (by decide) t3).mono ?_;rintro e U ⟨rfl,x,c⟩;have l:=K.trans c;have m:=l.at hz (by omega);have s:=F.trans l;have R:=aI m;have z:=FE f x I d hd (fun j hj=>hF j (by omega));rw[show rd E 7 d ex0 (all.drop (i+1)) n=X from L.o]at z;go_wp2_with fail;refine z.mono ?_;intro e Y S;have G:=jC.weak (B':=fun k=>w.heap.size+1<=k) (bp.refl g U) (fun k V=>by omega) S;rcases jW h f s m G with⟨ch,rfl,t⟩|⟨a',b',c',x',p',q',r',rfl,p,t⟩
  ·exact⟨rfl,t⟩
  ·go_wp2_with(refine az rfl 84 _ _ rfl _ _ rfl rfl _ _ p (by kernel_rfl) (by rfl) (by simp[Value.oneCell']) ?_)
   exact jQ 4 (by kernel_rfl) w.heap.size _ _ _ _ _ rfl rfl (aL _ _ _ _ _ _ p) (t _)
 have f3:isT j6 (all.drop i)=false:=by simpa using t3
 rw[ax t3]at A;by_cases t4:isT lK (all.drop i)=true
 ·rw[aB t4]at A
  have L:Rb (ug E d (all.drop (i+1)) n=X):=by
   show _=_;rw[<-A];unfold ug;simp only[fJ]
  go_enter func174,ntmps174;go_wp2_with fail;refine(eG f D kV f0).mono ?_;rintro e w1 ⟨rfl,u,c⟩;have y:=J.trans c;go_wp2_with fail;refine(eG f u kb f1).mono ?_;rintro e W ⟨rfl,B,c⟩;have C:=y.trans c;go_wp2_with fail;refine(eG f B jF f2).mono ?_;rintro e w3 ⟨rfl,H,c⟩;have K:=C.trans c;go_wp2_with fail;refine(eG f H j6 f3).mono ?_;rintro e Y ⟨rfl,N,c⟩;have T:=K.trans c;go_wp2_with fail;refine(gz f N lK (by decide) t4).mono ?_;rintro e U ⟨rfl,x,c⟩;have l:=T.trans c;have m:=l.at hz (by omega);have s:=F.trans l;have R:=aI m;have z:=H4 f x I d hd (fun j hj=>hF j (by omega));rw[show ug E d (all.drop (i+1)) n=X from L.o]at z;go_wp2_with fail;refine z.mono ?_;intro e Y S;have G:=jC.weak (B':=fun k=>w.heap.size+1<=k) (bp.refl g U) (fun k V=>by omega) S;rcases jW h f s m G with⟨ch,rfl,t⟩|⟨a',b',c',x',p',q',r',rfl,p,t⟩
  ·exact⟨rfl,t⟩
  ·go_wp2_with(refine az rfl 84 _ _ rfl _ _ rfl rfl _ _ p (by kernel_rfl) (by rfl) (by simp[Value.oneCell']) ?_)
   exact jQ 4 (by kernel_rfl) w.heap.size _ _ _ _ _ rfl rfl (aL _ _ _ _ _ _ p) (t _)
 have f4:isT lK (all.drop i)=false:=by simpa using t4
 rw[ax t4]at A;by_cases t5:kindP (all.drop i)=1
 ·rw[aB t5]at A;have L:Rb (dK E ⟨10,0,0,textP (all.drop i),[]⟩ (all.drop (i+1)) n=X):=A;go_enter func174,ntmps174;go_wp2_with fail;refine(eG f D kV f0).mono ?_;rintro e w1 ⟨rfl,u,c⟩;have y:=J.trans c;go_wp2_with fail;refine(eG f u kb f1).mono ?_;rintro e W ⟨rfl,B,c⟩;have C:=y.trans c;go_wp2_with fail;refine(eG f B jF f2).mono ?_;rintro e w3 ⟨rfl,H,c⟩;have K:=C.trans c;go_wp2_with fail;refine(eG f H j6 f3).mono ?_;rintro e Y ⟨rfl,N,c⟩;have T:=K.trans c;go_wp2_with fail;refine(eG f N lK f4).mono ?_;rintro e w5 ⟨rfl,O,c⟩;have ai:=T.trans c;have cm:=np f O;unfold kF at cm;rw[t5]at cm;go_wp2_with fail;refine cm.mono ?_;rintro e w6 ⟨rfl,Q⟩;have ac:=O.below Q f;have a3:=ai.trans (bp.of_below Q);have ct:=qQ f ac 1 (by decide) t5;unfold kF at ct;go_wp2_with fail;refine ct.mono ?_;rintro e U ⟨rfl,x,c⟩;have l:=a3.trans c;have m:=l.at hz (by omega);have s:=F.trans l;have z:=kK f x I (fun k=>w.heap.size+1<=k) (fun k V=>by omega) ⟨10,0,0,textP (all.drop i),[]⟩ (af) 0 (dG.nil _ _ _ _ _);unfold exV at z;rw[show dK E ⟨10,0,0,textP (all.drop i),[]⟩ (all.drop (i+1)) n=X from L.o]at z;go_wp2_with fail;refine z.mono ?_;intro e w5 G;rcases jW h f s m G with⟨ch,rfl,t⟩|⟨a',b',c',x',p',q',r',rfl,p,t⟩
  ·exact⟨rfl,t⟩
  ·go_wp2_with(refine az rfl 84 _ _ rfl _ _ rfl rfl _ _ p (by kernel_rfl) (by rfl) (by simp[Value.oneCell']) ?_)
   exact jQ 4 (by kernel_rfl) w.heap.size _ _ _ _ _ rfl rfl (aL _ _ _ _ _ _ p) (t _)
 ·rw[ax t5]at A
  have L:Rb (yj E (all.drop i) n=X):=by
   show _=_;rw[<-A];unfold yj;simp only[fJ]
  go_enter func174,ntmps174;go_wp2_with fail;refine(eG f D kV f0).mono ?_;rintro e w1 ⟨rfl,u,c⟩;have y:=J.trans c;go_wp2_with fail;refine(eG f u kb f1).mono ?_;rintro e W ⟨rfl,B,c⟩;have C:=y.trans c;go_wp2_with fail;refine(eG f B jF f2).mono ?_;rintro e w3 ⟨rfl,H,c⟩;have K:=C.trans c;go_wp2_with fail;refine(eG f H j6 f3).mono ?_;rintro e Y ⟨rfl,N,c⟩;have T:=K.trans c;go_wp2_with fail;refine(eG f N lK f4).mono ?_;rintro e w5 ⟨rfl,O,c⟩;have ai:=T.trans c;have cm:=np f O;unfold kF at cm;have aC:(kindP (all.drop i)==1)=false:=(by simpa using t5);generalize kindP (all.drop i)=aK at*;go_wp2_with fail;refine cm.mono ?_;rintro e w6 ⟨rfl,Q⟩;have ac:=O.below Q f;have l:=ai.trans (bp.of_below Q);have m:=l.at hz (by omega);have s:=F.trans l;have R:=aI m;have z:=Kr f ac I;rw[show yj E (all.drop i) n=X from L.o]at z;go_wp2_with fail;refine z.mono ?_;intro e Y S;have G:=jC.weak (B':=fun k=>w.heap.size+1<=k) (bp.refl g w6) (fun k V=>by omega) S;rcases jW h f s m G with⟨ch,rfl,t⟩|⟨a',b',c',x',p',q',r',rfl,p,t⟩
  ·exact⟨rfl,t⟩
  ·go_wp2_with(refine az rfl 84 _ _ rfl _ _ rfl rfl _ _ p (by kernel_rfl) (by rfl) (by simp[Value.oneCell']) ?_)
   exact jQ 4 (by kernel_rfl) w.heap.size _ _ _ _ _ rfl rfl (aL _ _ _ _ _ _ p) (t _)
end
end Go.Proofs.YtlkehieagdkgiaaGreatDoor
