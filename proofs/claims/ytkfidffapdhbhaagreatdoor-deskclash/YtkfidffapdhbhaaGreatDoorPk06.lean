/- Texts of the proof. -/
import Derived.Test.YtkfidffapdhbhaaGreatDoorPk05
import Derived.Test.YtkfidffapdhbhaaGreatDoorPk01
import Derived.Laws.EntriesVeiled
import Derived.Deep.OwnRows
open Go.Proofs.Tryz
set_option maxRecDepth 100000
set_option maxHeartbeats 8000000
namespace Go.Proofs.YtkfidffapdhbhaaGreatDoor
section
open Go.RowKit Msk Vx
theorem qZ:prog.underlying 179=some (.struct (prog.fieldsOf 179)):=by kernel_rfl
def nmD (op a b:Int):Bool:=if op=6 then decide (1<=a/\a<=127) else decide (0<=a/\a<=b/\b<146097)
theorem sm (op a b t:Int)(sv:Value)(w:World):Calls prog 207 #[.agg #[ag op,ag a,ag b,ag t,sv]] w fun r w'=>r= .returned (.bool (nmD op a b))/\Below w.heap.size w w':=by
 have hbA:=am w (.cells #[ag op,ag a,ag b,ag t,sv] 179);have hxA:=aD w (.cells #[ag op,ag a,ag b,ag t,sv] 179);generalize hwA:w.alloc (.cells #[ag op,ag a,ag b,ag t,sv] 179)=wA at*;have z0:=ak 0 hxA;have z1:=ak 1 hxA;have z2:=ak 2 hxA;have z3:=ak 3 hxA;have z4:=ak 4 hxA;by_cases h6:op=6
 ·have e:nmD op a b=decide (1<=a/\a<=127):=ay h6;rw[e];subst h6;have c1:=kP a 1 127 wA;generalize decide (1<=a/\a<=127)=q at*;go_enter func207,ntmps207;go_wp2_with fail;refine c1.mono ?_;rintro r w' ⟨rfl,rfl⟩;clear c1;go_wp2_with fail;go_ret;exact⟨rfl,hbA⟩
 ·have e:nmD op a b=decide (0<=a/\a<=b/\b<146097):=au h6;have h6':(op==6)=false:=bg.2 h6;rw[e];by_cases h1:0<=a
  ·by_cases h2:a<=b
   ·by_cases h3:b<146097
    ·rw[bj (⟨h1,h2,h3⟩:0<=a/\a<=b/\b<146097)];go_enter func207,ntmps207;go_wp2_with fail;go_ret;exact⟨rfl,hbA⟩
    ·rw[bl (fun e:0<=a/\a<=b/\b<146097=>h3 e.2.2)];go_enter func207,ntmps207;go_wp2_with fail;go_ret;exact⟨rfl,hbA⟩
   ·rw[bl (fun e:0<=a/\a<=b/\b<146097=>h2 e.2.1)];go_enter func207,ntmps207;go_wp2_with fail;go_ret;exact⟨rfl,hbA⟩
  ·rw[bl (fun e:0<=a/\a<=b/\b<146097=>h1 e.1)];go_enter func207,ntmps207;go_wp2_with fail;go_ret;exact⟨rfl,hbA⟩
theorem KH (a b t:Int)(sv:Value)(k n r:Nat)(w:World):Calls prog 184 #[.agg #[ag 2,ag a,ag b,ag t,sv],ag (k:Int),ag (n:Int),ag (r:Int)] w fun e w'=>e= .returned (ag 0)/\Below w.heap.size w w':=by
 have hbA:=am w (.cells #[ag 2,ag a,ag b,ag t,sv] 179);have hxA:=aD w (.cells #[ag 2,ag a,ag b,ag t,sv] 179);generalize hwA:w.alloc (.cells #[ag 2,ag a,ag b,ag t,sv] 179)=wA at*;have z0:=ak 0 hxA;have z1:=ak 1 hxA;have z2:=ak 2 hxA;have z3:=ak 3 hxA;have z4:=ak 4 hxA;go_enter func184,ntmps184;go_wp2_with fail;go_ret;exact⟨rfl,hbA⟩
theorem KI (a b t:Int)(sv:Value)(k n r:Nat)(w:World):Calls prog 184 #[.agg #[ag 3,ag a,ag b,ag t,sv],ag (k:Int),ag (n:Int),ag (r:Int)] w fun e w'=>e= .returned (ag 0)/\Below w.heap.size w w':=by
 have hbA:=am w (.cells #[ag 3,ag a,ag b,ag t,sv] 179);have hxA:=aD w (.cells #[ag 3,ag a,ag b,ag t,sv] 179);generalize hwA:w.alloc (.cells #[ag 3,ag a,ag b,ag t,sv] 179)=wA at*;have z0:=ak 0 hxA;have z1:=ak 1 hxA;have z2:=ak 2 hxA;have z3:=ak 3 hxA;have z4:=ak 4 hxA;go_enter func184,ntmps184;go_wp2_with fail;go_ret;exact⟨rfl,hbA⟩
theorem KJ (a b t:Int)(sv:Value)(k n r:Nat)(w:World):Calls prog 184 #[.agg #[ag 4,ag a,ag b,ag t,sv],ag (k:Int),ag (n:Int),ag (r:Int)] w fun e w'=>e= .returned (ag 0)/\Below w.heap.size w w':=by
 have hbA:=am w (.cells #[ag 4,ag a,ag b,ag t,sv] 179);have hxA:=aD w (.cells #[ag 4,ag a,ag b,ag t,sv] 179);generalize hwA:w.alloc (.cells #[ag 4,ag a,ag b,ag t,sv] 179)=wA at*;have z0:=ak 0 hxA;have z1:=ak 1 hxA;have z2:=ak 2 hxA;have z3:=ak 3 hxA;have z4:=ak 4 hxA;go_enter func184,ntmps184;go_wp2_with fail;go_ret;exact⟨rfl,hbA⟩
theorem KK (a b t:Int)(sv:Value)(k n r:Nat)(w:World)(sp:List (Int×Int))(h:mC w sv sp):Calls prog 184 #[.agg #[ag 1,ag a,ag b,ag t,sv],ag (k:Int),ag (n:Int),ag (r:Int)] w fun e w'=>e= .returned (ag (if risL sp (-1)=true then 0 else 2))/\Below w.heap.size w w':=by
 have hbA:=am w (.cells #[ag 1,ag a,ag b,ag t,sv] 179);have hxA:=aD w (.cells #[ag 1,ag a,ag b,ag t,sv] 179);generalize hwA:w.alloc (.cells #[ag 1,ag a,ag b,ag t,sv] 179)=wA at*;have z0:=ak 0 hxA;have z1:=ak 1 hxA;have z2:=ak 2 hxA;have z3:=ak 3 hxA;have z4:=ak 4 hxA;have c1:=Ea sp sv wA (h.later hbA);have c2:=fun W=>lJ (risL sp (-1)) 2 W;generalize (if risL sp (-1)=true then(0:Int) else 2)=u at*;generalize risL sp (-1)=q at*;clear h;go_enter func184,ntmps184;go_wp2_with fail;refine c1.mono ?_;rintro e w1 ⟨rfl,hb1⟩;have hbw:=aq hbA hb1;have c3:=c2 w1;clear c1 c2 hb1 hbA;go_wp2_with fail;refine c3.mono ?_;rintro e w2 ⟨rfl,rfl⟩;clear c3;go_wp2_with fail;go_ret;exact⟨rfl,hbw⟩
theorem KL (a b t:Int)(sv:Value)(k n r:Nat)(w:World):Calls prog 184 #[.agg #[ag 5,ag a,ag b,ag t,sv],ag (k:Int),ag (n:Int),ag (r:Int)] w fun e w'=>e= .returned (ag (if a≠0/\ -1439<=a/\a<=1439 then 0 else 3))/\Below w.heap.size w w':=by
 have hbA:=am w (.cells #[ag 5,ag a,ag b,ag t,sv] 179);have hxA:=aD w (.cells #[ag 5,ag a,ag b,ag t,sv] 179);generalize hwA:w.alloc (.cells #[ag 5,ag a,ag b,ag t,sv] 179)=wA at*;have z0:=ak 0 hxA;have z1:=ak 1 hxA;have z2:=ak 2 hxA;have z3:=ak 3 hxA;have z4:=ak 4 hxA;by_cases ha:a=0
 ·subst ha;have c2:=lJ false 3 wA;rw[au (fun e=>e.1 rfl)];go_enter func184,ntmps184;go_wp2_with fail;refine c2.mono ?_;rintro e w2 ⟨rfl,rfl⟩;clear c2;go_wp2_with fail;go_ret;exact⟨rfl,hbA⟩
 ·have hb0:(a==0)=false:=bg.2 ha;have c1:=kP a (-1439) 1439 wA;have c2:=lJ (decide (-1439<=a/\a<=1439)) 3 wA
  have HE:OK ((if a≠0/\ -1439<=a/\a<=1439 then(0:Int) else 3)=if decide (-1439<=a/\a<=1439)=true then 0 else 3):=by
   show _=_;by_cases h: -1439<=a/\a<=1439
   ·rw[ay ⟨ha,h⟩,ay (bj h)]
   ·rw[au (fun e=>h e.2),au (by simpa using h)]
  rw[HE.o];clear HE;generalize (if decide (-1439<=a/\a<=1439)=true then(0:Int) else 3)=u at*;generalize decide (-1439<=a/\a<=1439)=q at*;have hbn:(a !=0)=true:=(by simpa using ha);go_enter func184,ntmps184;go_wp2_with fail;refine c1.mono ?_;rintro e w1 ⟨rfl,rfl⟩;clear c1;go_wp2_with fail;refine c2.mono ?_;rintro e w2 ⟨rfl,rfl⟩;clear c2;go_wp2_with fail;go_ret;exact⟨rfl,hbA⟩
theorem KM (a b t:Int)(sv:Value)(k n r:Nat)(w:World)(hk:k<=2000):Calls prog 184 #[.agg #[ag 6,ag a,ag b,ag t,sv],ag (k:Int),ag (n:Int),ag (r:Int)] w fun e w'=>e= .returned (ag (if(k:Int)+2<=t/\t<=n then(if nmD 6 a b=true then 0 else 3) else 8))/\Below w.heap.size w w':=by
 have hbA:=am w (.cells #[ag 6,ag a,ag b,ag t,sv] 179);have hxA:=aD w (.cells #[ag 6,ag a,ag b,ag t,sv] 179);generalize hwA:w.alloc (.cells #[ag 6,ag a,ag b,ag t,sv] 179)=wA at*;have z0:=ak 0 hxA;have z1:=ak 1 hxA;have z2:=ak 2 hxA;have z3:=ak 3 hxA;have z4:=ak 4 hxA;have hk0:(0:Int)<=(k:Int):=by omega
 have hk1:(k:Int)<=2000:=by omega
 have c1:=kP t ((k:Int)+2) (n:Int) wA;have c2:=sm 6 a b t sv wA;have c3:=fun W=>lJ (nmD 6 a b) 3 W;by_cases h:(k:Int)+2<=t/\t<=n
 ·rw[ay h];rw[bj h]at c1;generalize (if nmD 6 a b=true then(0:Int) else 3)=u at*;generalize nmD 6 a b=q at*;clear h;go_enter func184,ntmps184;go_wp2_with fail;refine c1.mono ?_;rintro e w1 ⟨rfl,rfl⟩;clear c1;go_wp2_with(refine aO rfl 179 _ rfl _ rfl _ _ _ _ hxA qZ rfl (by kernel_rfl) ?_)
  refine c2.mono ?_;rintro e w1 ⟨rfl,hb1⟩;have hbw:=aq hbA hb1;have c4:=c3 w1;clear c2 c3 hb1 hbA;go_wp2_with fail;refine c4.mono ?_;rintro e w2 ⟨rfl,rfl⟩;clear c4;go_wp2_with fail;go_ret;exact⟨rfl,hbw⟩
 ·rw[au h];rw[bl h]at c1;clear h c2 c3;go_enter func184,ntmps184;go_wp2_with fail;refine c1.mono ?_;rintro e w1 ⟨rfl,rfl⟩;clear c1;go_wp2_with fail;go_ret;exact⟨rfl,hbA⟩
theorem KN (a b t:Int)(sv:Value)(k n r:Nat)(w:World)(hk:k<=2000):Calls prog 184 #[.agg #[ag 7,ag a,ag b,ag t,sv],ag (k:Int),ag (n:Int),ag (r:Int)] w fun e w'=>e= .returned (ag (if(k:Int)+2<=t/\t<=n then(if nmD 7 a b=true then 0 else 3) else 8))/\Below w.heap.size w w':=by
 have hbA:=am w (.cells #[ag 7,ag a,ag b,ag t,sv] 179);have hxA:=aD w (.cells #[ag 7,ag a,ag b,ag t,sv] 179);generalize hwA:w.alloc (.cells #[ag 7,ag a,ag b,ag t,sv] 179)=wA at*;have z0:=ak 0 hxA;have z1:=ak 1 hxA;have z2:=ak 2 hxA;have z3:=ak 3 hxA;have z4:=ak 4 hxA;have hk0:(0:Int)<=(k:Int):=by omega
 have hk1:(k:Int)<=2000:=by omega
 have c1:=kP t ((k:Int)+2) (n:Int) wA;have c2:=sm 7 a b t sv wA;have c3:=fun W=>lJ (nmD 7 a b) 3 W;by_cases h:(k:Int)+2<=t/\t<=n
 ·rw[ay h];rw[bj h]at c1;generalize (if nmD 7 a b=true then(0:Int) else 3)=u at*;generalize nmD 7 a b=q at*;clear h;go_enter func184,ntmps184;go_wp2_with fail;refine c1.mono ?_;rintro e w1 ⟨rfl,rfl⟩;clear c1;go_wp2_with(refine aO rfl 179 _ rfl _ rfl _ _ _ _ hxA qZ rfl (by kernel_rfl) ?_)
  refine c2.mono ?_;rintro e w1 ⟨rfl,hb1⟩;have hbw:=aq hbA hb1;have c4:=c3 w1;clear c2 c3 hb1 hbA;go_wp2_with fail;refine c4.mono ?_;rintro e w2 ⟨rfl,rfl⟩;clear c4;go_wp2_with fail;go_ret;exact⟨rfl,hbw⟩
 ·rw[au h];rw[bl h]at c1;clear h c2 c3;go_enter func184,ntmps184;go_wp2_with fail;refine c1.mono ?_;rintro e w1 ⟨rfl,rfl⟩;clear c1;go_wp2_with fail;go_ret;exact⟨rfl,hbA⟩
theorem KO (a b t:Int)(sv:Value)(k n r:Nat)(w:World):Calls prog 184 #[.agg #[ag 8,ag a,ag b,ag t,sv],ag (k:Int),ag (n:Int),ag (r:Int)] w fun e w'=>e= .returned (ag (if 0<=a/\a<r then 0 else 6))/\Below w.heap.size w w':=by
 have hbA:=am w (.cells #[ag 8,ag a,ag b,ag t,sv] 179);have hxA:=aD w (.cells #[ag 8,ag a,ag b,ag t,sv] 179);generalize hwA:w.alloc (.cells #[ag 8,ag a,ag b,ag t,sv] 179)=wA at*;have z0:=ak 0 hxA;have z1:=ak 1 hxA;have z2:=ak 2 hxA;have z3:=ak 3 hxA;have z4:=ak 4 hxA;have c1:=pS a (r:Int) wA;have c2:=lJ (decide (0<=a/\a<(r:Int))) 6 wA
 have HE:OK ((if 0<=a/\a<(r:Int) then(0:Int) else 6)=if decide (0<=a/\a<(r:Int))=true then 0 else 6):=by
  show _=_;by_cases h:0<=a/\a<(r:Int)
  ·rw[ay h,ay (bj h)]
  ·rw[au h,au (by simpa using h)]
 rw[HE.o];clear HE;generalize (if decide (0<=a/\a<(r:Int))=true then(0:Int) else 6)=u at*;generalize decide (0<=a/\a<(r:Int))=q at*;go_enter func184,ntmps184;go_wp2_with fail;refine c1.mono ?_;rintro e w1 ⟨rfl,rfl⟩;clear c1;go_wp2_with fail;refine c2.mono ?_;rintro e w2 ⟨rfl,rfl⟩;clear c2;go_wp2_with fail;go_ret;exact⟨rfl,hbA⟩
theorem KP (op:Int)(a b t:Int)(sv:Value)(k n r:Nat)(w:World)(h1:(op==1)=false)(h2:(op==2)=false)(h3:(op==3)=false)(h4:(op==4)=false)(h5:(op==5)=false)(h6:(op==6)=false)(h7:(op==7)=false)(h8:(op==8)=false):Calls prog 184 #[.agg #[ag op,ag a,ag b,ag t,sv],ag (k:Int),ag (n:Int),ag (r:Int)] w fun e w'=>e= .returned (ag 1)/\Below w.heap.size w w':=by
 have hbA:=am w (.cells #[ag op,ag a,ag b,ag t,sv] 179);have hxA:=aD w (.cells #[ag op,ag a,ag b,ag t,sv] 179);generalize hwA:w.alloc (.cells #[ag op,ag a,ag b,ag t,sv] 179)=wA at*;have z0:=ak 0 hxA;have z1:=ak 1 hxA;have z2:=ak 2 hxA;have z3:=ak 3 hxA;have z4:=ak 4 hxA;go_enter func184,ntmps184;go_wp2_with fail;go_ret;exact⟨rfl,hbA⟩
theorem Gf (x:In)(sv:Value)(k n r:Nat)(w:World)(h:mC w sv x.sp)(hk:k<=2000):Calls prog 184 #[.agg #[ag x.op,ag x.a,ag x.b,ag x.to,sv],ag (k:Int),ag (n:Int),ag (r:Int)] w fun e w'=>e= .returned (ag (fB x k n r))/\Below w.heap.size w w':=by
 obtain⟨op,a,b,t,sp⟩:=x;dsimp only at h⊢;unfold fB;dsimp only;by_cases h2:op=2
 ·subst h2;exact KH a b t sv k n r w
 by_cases h3:op=3
 ·subst h3;exact KI a b t sv k n r w
 by_cases h4:op=4
 ·subst h4;exact KJ a b t sv k n r w
 rw[au (by omega)];by_cases h1:op=1
 ·subst h1;exact KK a b t sv k n r w sp h
 rw[au h1];by_cases h5:op=5
 ·subst h5;exact KL a b t sv k n r w
 rw[au h5];by_cases h6:op=6
 ·subst h6;have c:=KM a b t sv k n r w hk;have e:nmD 6 a b=decide (1<=a/\a<=127):=ay rfl;rw[e]at c;rw[ay rfl];simpa only[bU] using c
 rw[au h6];by_cases h7:op=7
 ·subst h7;have c:=KN a b t sv k n r w hk;have e:nmD 7 a b=decide (0<=a/\a<=b/\b<146097):=au (by decide);rw[e]at c;rw[ay rfl];simpa only[bU] using c
 rw[au h7];by_cases h8:op=8
 ·subst h8;exact KO a b t sv k n r w
 rw[au h8];exact KP op a b t sv k n r w (bg.2 h1) (bg.2 h2) (bg.2 h3) (bg.2 h4) (bg.2 h5) (bg.2 h6) (bg.2 h7) (bg.2 h8)
end
section
open Go.RowKit Msk Vx
def wh (w:World)(v:Value)(xs:List (In×Value)):Prop:= ∃p c,v= .slice p xs.length c/\xs.length<9223372036854775808/\ ∀(j:Nat) (x:In×Value),xs[j]? =some x->mC w x.2 x.1.sp/\ ∃g o:Nat,p=some ⟨g,o,none⟩/\
 w.cell? (ae g (o+j*5))=some (ag x.1.op)/\w.cell? (ae g (o+j*5+1))=some (ag x.1.a)/\w.cell? (ae g (o+j*5+2))=some (ag x.1.b)/\w.cell? (ae g (o+j*5+3))=some (ag x.1.to)/\w.cell? (ae g (o+j*5+4))=some x.2
theorem wh.below {w w':World}{v:Value}{xs:List (In×Value)}(h:wh w v xs)(hb:Below w.heap.size w w'):wh w' v xs:=by
 obtain⟨p,c,h1,h2,h3⟩:=h;refine⟨p,c,h1,h2,fun j x hj=> ?_⟩;obtain⟨r,g,o,e,c0,c1,c2,c3,c4⟩:=h3 j x hj;exact⟨r.later hb,g,o,e,aj hb c0,aj hb c1,aj hb c2,aj hb c3,aj hb c4⟩
def oi (w:World)(v:Value)(l:List In):Prop:= ∃xs:List (In×Value),wh w v xs/\xs.map (fun x=>x.1)=l
theorem oi.below {w w':World}{v:Value}{l:List In}(h:oi w v l)(hb:Below w.heap.size w w'):oi w' v l:=by
 obtain⟨xs,h1,h2⟩:=h;exact⟨xs,h1.below hb,h2⟩
theorem oi.form {w:World}{v:Value}{l:List In}(h:oi w v l): ∃p c,v= .slice p l.length c/\l.length<9223372036854775808/\ ∀(j:Nat) (x:In),l[j]? =some x-> ∃sv:Value,mC w sv x.sp/\ ∃g o:Nat,p=some ⟨g,o,none⟩/\
  w.cell? (ae g (o+j*5))=some (ag x.op)/\w.cell? (ae g (o+j*5+1))=some (ag x.a)/\w.cell? (ae g (o+j*5+2))=some (ag x.b)/\w.cell? (ae g (o+j*5+3))=some (ag x.to)/\w.cell? (ae g (o+j*5+4))=some sv:=by
 obtain⟨xs,⟨p,c,h1,h2,h3⟩,rfl⟩:=h;rw[bf];refine⟨p,c,h1,h2,fun j x hj=> ?_⟩;rw[a8]at hj;obtain⟨y,hy,rfl⟩:=d8.1 hj;obtain⟨r,g,o,e,hc⟩:=h3 j y hy;exact⟨y.2,r,g,o,e,hc⟩
def InC (w:World)(v:Value)(us:List (Cd×Value)):Prop:= ∃p c,v= .slice p us.length c/\us.length<9223372036854775808/\ ∀(j:Nat) (u:Cd×Value),us[j]? =some u->oi w u.2 u.1.ins/\ ∃g o:Nat,p=some ⟨g,o,none⟩/\
 w.cell? (ae g (o+j*3))=some u.2/\w.cell? (ae g (o+j*3+1))=some (ag u.1.high)/\w.cell? (ae g (o+j*3+2))=some (ag u.1.steps)
theorem InC.below {w w':World}{v:Value}{us:List (Cd×Value)}(h:InC w v us)(hb:Below w.heap.size w w'):InC w' v us:=by
 obtain⟨p,c,h1,h2,h3⟩:=h;refine⟨p,c,h1,h2,fun j u hj=> ?_⟩;obtain⟨r,g,o,e,c0,c1,c2⟩:=h3 j u hj;exact⟨r.below hb,g,o,e,aj hb c0,aj hb c1,aj hb c2⟩
def InV (w:World)(v:Value)(cs:List Cd):Prop:= ∃us:List (Cd×Value),InC w v us/\us.map (fun u=>u.1)=cs
theorem InV.below {w w':World}{v:Value}{cs:List Cd}(h:InV w v cs)(hb:Below w.heap.size w w'):InV w' v cs:=by
 obtain⟨xs,h1,h2⟩:=h;exact⟨xs,h1.below hb,h2⟩
theorem InV.form {w:World}{v:Value}{cs:List Cd}(h:InV w v cs): ∃p c,v= .slice p cs.length c/\cs.length<9223372036854775808/\ ∀(j:Nat) (u:Cd),cs[j]? =some u-> ∃sv:Value,oi w sv u.ins/\ ∃g o:Nat,p=some ⟨g,o,none⟩/\
  w.cell? (ae g (o+j*3))=some sv/\w.cell? (ae g (o+j*3+1))=some (ag u.high)/\w.cell? (ae g (o+j*3+2))=some (ag u.steps):=by
 obtain⟨xs,⟨p,c,h1,h2,h3⟩,rfl⟩:=h;rw[bf];refine⟨p,c,h1,h2,fun j x hj=> ?_⟩;rw[a8]at hj;obtain⟨y,hy,rfl⟩:=d8.1 hj;obtain⟨r,g,o,e,hc⟩:=h3 j y hy;exact⟨y.2,r,g,o,e,hc⟩
theorem Eb (c:Cd)(sv:Value)(r:Nat)(w:World)(h:oi w sv c.ins):Calls prog 152 #[.agg #[sv,ag c.high,ag c.steps],ag (r:Int)] w fun e w'=>e= .returned (ag (aloneE c r))/\Below w.heap.size w w':=by
 obtain⟨p,cp,rfl,hlen,hc⟩:=h.form;have HC:=aY hc;clear hc h;generalize hX:aloneE c r=X;unfold aloneE at hX;obtain⟨l,hi,st⟩:=c;dsimp only at hX hlen HC⊢;have hbA:=am w (.cells #[.slice p l.length cp,ag hi,ag st] 142);have hxA:=aD w (.cells #[.slice p l.length cp,ag hi,ag st] 142);generalize hwA:w.alloc (.cells #[.slice p l.length cp,ag hi,ag st] 142)=wA at*;have z0:=ak 0 hxA;have z1:=ak 1 hxA;have z2:=ak 2 hxA;have hl0:(0:Int)<=(l.length:Int):=by omega
 have c1:=kP (l.length:Int) 1 2000 wA;by_cases h1:1<=l.length/\l.length<=2000
 ·rw[au (fun e=>e h1)]at hX;rw[bj (show(1:Int)<=(l.length:Int)/\(l.length:Int)<=2000 by omega)]at c1;have c2:=kP hi 1 100 wA;by_cases h2:1<=hi/\hi<=100
  ·rw[bj h2]at c2;have c3:=kP st 1 20000 wA;by_cases h3:1<=st/\st<=20000
   ·rw[bj h3]at c3;rw[au (fun e=>e ⟨h2,h3⟩)]at hX;have HS:OK (oM (l.drop 0) 0 l.length r=X):=hX;clear hX h2 h3;go_enter func152,ntmps152;go_wp2_with fail;refine c1.mono ?_;rintro e w1 ⟨rfl,rfl⟩;clear c1;go_wp2_with fail;refine c2.mono ?_;rintro e w2 ⟨rfl,rfl⟩;clear c2;go_wp2_with fail;refine c3.mono ?_;rintro e w3 ⟨rfl,rfl⟩;clear c3;go_wp2_with fail;go_loopw [26] (fun t wr=> ∃j:Nat,t=ag (j:Int)/\j<=l.length/\oM (l.drop j) j l.length r=X/\wr.heap[w.heap.size]? =ah #[.slice p l.length cp,ag hi,ag st] 142/\Below w.heap.size w wr) (fun t _=>l.length-(intOf t).toNat);case atStart=>exact⟨0,rfl,by omega,HS.o,hxA,hbA⟩
    case round=>
     obtain⟨j,rfl,hj,hXr,hxr,hbr⟩:=hrel;clear HS hxA hbA z0 z1 z2 hwA;have hj0:(0:Int)<=(j:Int):=(by omega);by_cases hlt:j<l.length
     ·have hlt':(j:Int)<(l.length:Int):=(by omega);obtain⟨x,hjk⟩: ∃x,l[j]? =some x:=⟨l[j],ax hlt⟩
      rw[Gb hjk]at hXr;obtain⟨sk,hrow,g,o,hpe,e0,e1,e2,e3,e4⟩:=HC.o j _ hjk;subst hpe;have d0:=aj hbr e0;have d1:=aj hbr e1;have d2:=aj hbr e2;have d3:=aj hbr e3;have d4:=aj hbr e4;obtain⟨op,a,b,t,sp⟩:=x;dsimp only at d0 d1 d2 d3 d4 hrow;obtain⟨ps,ck,rfl,_,_⟩:=hrow.form;have bI:=am wr (.cells #[ag op,ag a,ag b,ag t,.slice ps sp.length ck] 179);have hxI:=aD wr (.cells #[ag op,ag a,ag b,ag t,.slice ps sp.length ck] 179);have hbI:=aq hbr bI;have hxr2:=ai bI hxr;have hi0:=Gf ⟨op,a,b,t,sp⟩ (.slice ps sp.length ck) j l.length r (wr.alloc (.cells #[ag op,ag a,ag b,ag t,.slice ps sp.length ck] 179)) (hrow.later hbI) (by omega);dsimp only at hi0;have z0:=ak 0 hxr2;clear e0 e1 e2 e3 e4 hjk hrow bI hxr;by_cases hE:fB ⟨op,a,b,t,sp⟩ j l.length r=0
      ·rw[au (fun e=>e hE)]at hXr;rw[hE]at hi0;have HX:=aY hXr;clear hXr hE;go_wp2_with(refine aO rfl 179 _ rfl _ rfl _ _ _ _ hxI qZ rfl (by kernel_rfl) ?_)
       refine hi0.mono ?_;rintro e w1 ⟨rfl,hb1⟩;have hbw:=aq hbI hb1;have hxr3:=ai hb1 hxr2;clear hi0 hb1 hbI hxr2 hxI hbr d0 d1 d2 d3 d4 z0;go_wp2_with fail;go_roundw;case rel=>exact⟨j+1,by go_num,by omega,HX.o,hxr3,hbw⟩
       case measure=>simp[intOf];omega
      ·rw[ay hE]at hXr;rw[hXr]at hi0 hE;have hEb:(X==0)=false:=bg.2 hE;have hEn:(X !=0)=true:=(by simpa using hE);clear hXr hE;go_wp2_with(refine aO rfl 179 _ rfl _ rfl _ _ _ _ hxI qZ rfl (by kernel_rfl) ?_)
       refine hi0.mono ?_;rintro e w1 ⟨rfl,hb1⟩;have hbw:=aq hbI hb1;clear hi0 hb1 hbI hxr2 hxI hbr d0 d1 d2 d3 d4 z0;go_wp2_with fail;go_ret;exact⟨rfl,hbw⟩
     ·have hlt': ¬(j:Int)<(l.length:Int):=(by omega)
      have HX:OK (X=0):=by
       show _=_;rw[<-hXr,cQ (by omega)];rfl
      clear hXr HC;go_wp2_with fail;go_ret;exact⟨by(rw[HX.o])<;>rfl,hbr⟩
   ·rw[bl h3]at c3;rw[ay (fun e=>h3 e.2)]at hX;subst hX;clear h2 h3 HC;go_enter func152,ntmps152;go_wp2_with fail;refine c1.mono ?_;rintro e w1 ⟨rfl,rfl⟩;clear c1;go_wp2_with fail;refine c2.mono ?_;rintro e w2 ⟨rfl,rfl⟩;clear c2;go_wp2_with fail;refine c3.mono ?_;rintro e w3 ⟨rfl,rfl⟩;clear c3;go_wp2_with fail;go_ret;exact⟨rfl,hbA⟩
  ·rw[bl h2]at c2;rw[ay (fun e=>h2 e.1)]at hX;subst hX;clear h2 HC;go_enter func152,ntmps152;go_wp2_with fail;refine c1.mono ?_;rintro e w1 ⟨rfl,rfl⟩;clear c1;go_wp2_with fail;refine c2.mono ?_;rintro e w2 ⟨rfl,rfl⟩;clear c2;go_wp2_with fail;go_ret;exact⟨rfl,hbA⟩
 ·rw[ay h1]at hX;subst hX;rw[bl (show¬((1:Int)<=(l.length:Int)/\(l.length:Int)<=2000) by omega)]at c1;clear h1 HC;go_enter func152,ntmps152;go_wp2_with fail;refine c1.mono ?_;rintro e w1 ⟨rfl,rfl⟩;clear c1;go_wp2_with fail;go_ret;exact⟨rfl,hbA⟩
theorem lK:prog.underlying 95=some (.struct (prog.fieldsOf 95)):=by kernel_rfl
theorem pT {fn:Func}(s:Nat)(h:fn.results= #[ResultVar.cell s 95]){R:Ending->World->Prop}{a:Act}{w:World}(g:Nat)(er at_:Int)(hd:a.defers=[])(h2:a.tmps.getD s undef=ab g 0)
  (hg:w.heap[g]? =ah #[ag er,ag at_] 95) (hR:R (.returned (.agg #[ag er,ag at_])) w):bodyPost prog fn R .ret a w:=by
 refine aU (v:= .agg #[ag er,ag at_]) ?_ hd hR;have h2':a.tmps[s]?.getD undef=ab g 0:=by simpa using h2
 have hv:=dO (P:=prog) w g 95 95 _ _ _ hg lK rfl (by kernel_rfl);simp[results,h,h2',asAddr,hv]
theorem Ca (E:Nat->Int)(n j:Nat)(h:j<n):gg E (n-j) j=if E j≠0 then(E j,j) else gg E (n-(j+1)) (j+1):=by
 rw[show n-j=(n-(j+1))+1 by omega];rfl
theorem re (E:Nat->Int)(n K:Nat)(C:Array Value)(p:Option Addr)(c:Nat)(w:World)(hn:n<9223372036854775808)(eK: ∀args w,(callFunc K args).run prog w= .ok (.enter K args) w)
  (hc: ∀(i:Nat) (wr:World),i<n->Below w.heap.size w wr->Calls prog K (#[ag (i:Int)]++C) wr fun e w'=>e= .returned (ag (E i))/\Below wr.heap.size wr w'):
  Calls prog 150 #[.slice p n c,.func (.func K) #[] C] w fun e w'=>e= .returned (.agg #[ag (gg E n 0).1,ag ((gg E n 0).2:Int)])/\Below w.heap.size w w':=by
 have HC:=aY hc;clear hc;generalize hX:gg E n 0=X;have HS:OK (gg E (n-0) 0=X):=hX;clear hX;have hb0:=am w (.cells #[ag 0,ag 0] 95);have hr0:=aD w (.cells #[ag 0,ag 0] 95);generalize hwA:w.alloc (.cells #[ag 0,ag 0] 95)=wA at*;go_enter func150,ntmps150;go_wp2_with fail;clear hwA;go_loopw [9] (fun t wr=> ∃j:Nat,t=ag (j:Int)/\j<=n/\gg E (n-j) j=X/\wr.heap[w.heap.size]? =ah #[ag 0,ag 0] 95/\Below w.heap.size w wr) (fun t _=>n-(intOf t).toNat);case atStart=>exact⟨0,rfl,by omega,HS.o,hr0,hb0⟩
 case round=>
  obtain⟨j,rfl,hj,hXr,hrr,hbr⟩:=hrel;clear HS hr0 hb0;have hj0:(0:Int)<=(j:Int):=(by omega);by_cases hlt:j<n
  ·have hlt':(j:Int)<(n:Int):=(by omega);have hc:=HC.o j wr hlt hbr;rw[Ca E n j hlt]at hXr;by_cases hE:E j=0
   ·rw[au (fun e=>e hE)]at hXr;rw[hE]at hc;have HX:=aY hXr;clear hXr hE;go_wp2_with fail;refine hc.mono ?_;rintro e w1 ⟨rfl,hb1⟩;have hbw:=aq hbr hb1;have hrr3:=ai hb1 hrr;clear hc hb1 hbr hrr;go_wp2_with fail;go_roundw;case rel=>exact⟨j+1,by go_num,by omega,HX.o,hrr3,hbw⟩
    case measure=>simp[intOf];omega
   ·rw[ay hE]at hXr;have HX:=aY hXr;generalize E j=q at*;have hEb:(q==0)=false:=bg.2 hE;have hEn:(q !=0)=true:=(by simpa using hE);clear hXr hE;go_wp2_with fail;refine hc.mono ?_;rintro e w1 ⟨rfl,hb1⟩;have hbw:=aq hbr hb1;have hrr3:=ai hb1 hrr;clear hc hb1 hbr hrr;have hrr:=hrr3;go_wp2_with(refine aw rfl 95 _ _ rfl _ _ rfl rfl _ _ hrr (by kernel_rfl) (by simp) (by simp[Value.oneCell']) ?_)
    exact pT 4 (by kernel_rfl) w.heap.size q (j:Int) rfl rfl (aJ _ _ _ _ _ _ hrr) ⟨by rw[<-HX.o],below_setRow hbw (az _) _⟩
  ·have hlt': ¬(j:Int)<(n:Int):=(by omega)
   have HX:OK (X=(0,0)):=by
    show _=_;rw[<-hXr,show n-j=0 by omega];rfl
   clear hXr HC;go_wp2_with(refine aw rfl 95 _ _ rfl _ _ rfl rfl _ _ hrr (by kernel_rfl) (by simp) (by simp[Value.oneCell']) ?_)
   exact pT 4 (by kernel_rfl) w.heap.size 0 0 rfl rfl (aJ _ _ _ _ _ _ hrr) ⟨by(rw[HX.o])<;>rfl,below_setRow hbr (az _) _⟩
theorem Ec (cs:List Cd)(lv:Value)(gl ri:Nat)(w:World)(h:InV w lv cs)(hl:w.cell? (ae gl 0)=some lv)(hri:ri<cs.length):
  Calls prog 151 #[ag (ri:Int),ab gl 0] w fun e w'=>e= .returned (ag (aloneE (cs.getD ri cd0) cs.length))/\Below w.heap.size w w':=by
 obtain⟨p,cp,rfl,hlen,hc⟩:=h.form;obtain⟨u,hiu⟩: ∃u,cs[ri]? =some u:=⟨cs[ri],ax hri⟩
 obtain⟨sv,hin,g,o,rfl,e0,e1,e2⟩:=hc ri u hiu;rw[iO hiu];have HA:OK (∀W,Below w.heap.size w W->Calls prog 152 #[.agg #[sv,ag u.high,ag u.steps],ag (cs.length:Int)] W fun e w'=>e= .returned (ag (aloneE u cs.length))/\Below W.heap.size W w'):=fun W hW=>Eb u sv cs.length W (hin.below hW);generalize aloneE u cs.length=q at*;obtain⟨ul,hi,st⟩:=u;dsimp only at e1 e2 HA;have hi0:(0:Int)<=(ri:Int):=by omega
 have hi1:(ri:Int)<(cs.length:Int):=by omega
 clear h hc hin hiu;go_enter func151,ntmps151;go_wp2_with fail;refine dl (fun _ _ W=>Below w.heap.size w W) [kn 4 (.slice (some (ae g o)) cs.length cp),kn 5 (ag (ri:Int)),kn 6 (ab g (o+ri*3)),kn 7 (.agg #[sv,ag hi,ag st]),kn 8 (.slice (some (ae g o)) cs.length cp),kn 9 (ag (cs.length:Int)),kn 10 (ag q),kn 3 (ag q)] (fun _=>(aG _ _).drew) (fun _ _ _ _ hb h=>aq h hb) (by kernel_rfl) (fun M φ W hJ hcl F l hl' hF=> ?_) (fun M φ W hM hJ=> ?_)
 ·simp only[kn,dQ,aP,aW,Act.put,aA,aI,aH]at hl';subst hl';simp only[dc,Nat.reduceAdd]at hF;have z:=aj hJ hl;have f0:=aj hJ e0;have f1:=aj hJ e1;have f2:=aj hJ e2;dsimp only[kn,dx,eo,dV,Act.put];and_intros;all_goals first|exact trivial|intro hw hn hm K hK
  all_goals try (go_simp;with_reducible exact hK _ _ ⟨rfl,aG _ _⟩)
  go_simp;refine(HA.o W hJ).mono ?_;rintro e' W' ⟨rfl,hb'⟩;exact hK _ _ ⟨rfl,hb'⟩
 ·simp only[kn,dX,aP,aW,Act.put,aA,aI,aH];go_wp2_with fail;go_ret;exact⟨rfl,hJ⟩
end
section
open Go.RowKit Msk Vx
theorem KQ (f:Nat->Bool)(n:Nat)(hn:n<64):(bits BinOp.and IntKind.u64 ((wd f 0:Int)/2^n) 1==1)=f n:=by
 have e1:((wd f 0:Int)/2^n)=((wd f 0/2^n:Nat):Int):=by push_cast;rfl
 have hlt:wd f 0/2^n<18446744073709551616:=Nat.lt_of_le_of_lt (Nat.div_le_self _ _) (gM f 0)
 have e2:bits BinOp.and IntKind.u64 ((wd f 0/2^n:Nat):Int) 1=((wd f 0/2^n&&&1:Nat):Int):=by
  have:=bits_and_u64_nat (wd f 0/2^n) 1 hlt (by decide);exact this
 rw[e1,e2,Nat.and_one_is_mod];have hb:=jc f 0 n;rw[bj hn,iK,Nat.mul_zero,bN]at hb
 have h3:(wd f 0).testBit n=decide ((wd f 0/2^n)%2=1):=by
  rw[Nat.testBit_eq_decide_div_mod_eq]
 rw[<-hb,h3];have:wd f 0/2^n%2=0\/wd f 0/2^n%2=1:=by omega
 rcases this with h|h
 ·rw[h];rfl
 ·rw[h];rfl
theorem CX (f:Nat->Bool)(n:Nat)(hn:n<64)(w:World):Calls prog 155 #[.int .u64 (wd f 0:Int),ag (n:Int)] w fun e w'=>e= .returned (.bool (f n))/\w'=w:=by
 have h0:(0:Int)<=(n:Int):=by omega
 have h1:(n:Int)<64:=by omega
 have HB:=aY (KQ f n hn);go_enter func155,ntmps155;go_wp2_with fail;go_ret;exact⟨congrArg (fun b=>Ending.returned (.bool b)) HB.o,rfl⟩
theorem AX (x:In)(w:World):Calls prog 209 #[ag x.op] w fun e w'=>e= .returned (.tuple #[ag (tk x),ag (tk x+eff x)])/\w'=w:=by
 obtain⟨op,a,b,t,sp⟩:=x;unfold tk eff;dsimp only;by_cases h1:op=1
 ·subst h1;go_enter func209,ntmps209;go_wp2_with fail;exact aU (v:= .tuple #[ag 0,ag 1]) (by simp[results,results209,go_sem]) rfl ⟨rfl,rfl⟩
 by_cases h8:op=8
 ·subst h8;go_enter func209,ntmps209;go_wp2_with fail;exact aU (v:= .tuple #[ag 0,ag 1]) (by simp[results,results209,go_sem]) rfl ⟨rfl,rfl⟩
 by_cases h5:op=5
 ·subst h5;go_enter func209,ntmps209;go_wp2_with fail;exact aU (v:= .tuple #[ag 1,ag 1]) (by simp[results,results209,go_sem]) rfl ⟨rfl,rfl⟩
 by_cases h2:op=2
 ·subst h2;go_enter func209,ntmps209;go_wp2_with fail;exact aU (v:= .tuple #[ag 2,ag 1]) (by simp[results,results209,go_sem]) rfl ⟨rfl,rfl⟩
 by_cases h3:op=3
 ·subst h3;go_enter func209,ntmps209;go_wp2_with fail;exact aU (v:= .tuple #[ag 2,ag 1]) (by simp[results,results209,go_sem]) rfl ⟨rfl,rfl⟩
 by_cases h4:op=4
 ·subst h4;go_enter func209,ntmps209;go_wp2_with fail;exact aU (v:= .tuple #[ag 2,ag 1]) (by simp[results,results209,go_sem]) rfl ⟨rfl,rfl⟩
 rw[au h5,au (by omega),au (by omega),au (by omega)];have b1:(op==1)=false:=bg.2 h1;have b2:(op==2)=false:=bg.2 h2;have b3:(op==3)=false:=bg.2 h3;have b4:(op==4)=false:=bg.2 h4;have b5:(op==5)=false:=bg.2 h5;have b8:(op==8)=false:=bg.2 h8;go_enter func209,ntmps209;go_wp2_with fail;exact aU (v:= .tuple #[ag 0,ag 0]) (by simp[results,results209,go_sem]) rfl ⟨rfl,rfl⟩
def il (n:Nat)(R:Nat->Nat->Bool):Array Value:=((List.range n).map fun i=>Value.int .u64 (wd (R i) 0:Int)).toArray
theorem yz {n:Nat}{R:Nat->Nat->Bool}{i:Nat}(h:i<n):(il n R)[i]? =some (.int .u64 (wd (R i) 0:Int)):=by
 simp[il,h]
theorem Ed {n:Nat}{R R':Nat->Nat->Bool}(h: ∀i k,i<n->k<64->R i k=R' i k):il n R=il n R':=by
 unfold il;congr 1;apply List.map_congr_left;intro i hi;rw[ol fun j hj=> ?_];rw[Nat.mul_zero,bN];exact h i j (iQ.1 hi) hj
def oN (R:Nat->Nat->Bool)(i:Nat)(f:Nat->Bool):Nat->Nat->Bool:=fun r k=>if r=i then f k else R r k
theorem Ee {n:Nat}{R:Nat->Nat->Bool}{i:Nat}{f:Nat->Bool}:(il n R).setIfInBounds i (.int .u64 (wd f 0:Int))=il n (oN R i f):=by
 apply Array.ext
 ·simp[il]
 ·intro k h1 h2;have hk:k<n:=(by simpa[il] using h2);rw[Array.getElem_setIfInBounds (by simpa[il] using hk)];by_cases e:i=k
  ·subst e;have hu:oN R i f i=f:=(by funext q;simp[oN]);simp[il,hu]
  ·rw[au e];have hu:oN R i f k=R k:=(by funext q;simp[oN,show k≠i from fun h=>e h.symm]);simp[il,hu]
theorem Cb (n:Nat):madeCells #[Value.int .u64 0] n=il n (fun _ _=>false):=by
 apply Array.ext
 ·simp[il,madeCells]
 ·intro k h1 h2;simp[il,madeCells,Nat.mod_one,CL]
structure UcM (w:World)(n:Nat)(R:Nat->Nat->Bool)(W:World):Prop where
 bel:Below w.heap.size w W
 row:W.heap[w.heap.size]? =ah (il n R) 84
theorem UcM.below {w W W':World}{n:Nat}{R:Nat->Nat->Bool}(h:UcM w n R W)(hb:Below W.heap.size W W'):UcM w n R W':=
 ⟨aq h.bel hb,ai hb h.row⟩
theorem UcM.same {w W:World}{n:Nat}{R R':Nat->Nat->Bool}(h:UcM w n R W)(he: ∀i k,i<n->k<64->R i k=R' i k):UcM w n R' W:=
 ⟨h.bel,by rw[h.row,Ed he]⟩
theorem UcM.cell {w W:World}{n:Nat}{R:Nat->Nat->Bool}(h:UcM w n R W){i:Nat}(hi:i<n):W.cell? (ae w.heap.size i)=some (.int .u64 (wd (R i) 0:Int)):=(aX _ _ i _ _ _ h.row).trans (yz hi)
theorem UcM.frz {w W:World}{n:Nat}{R:Nat->Nat->Bool}(h:UcM w n R W)(i:Nat):W.frozen? (ae w.heap.size i)=false:=bh _ _ i _ _ h.row
theorem UcM.set {w W:World}{n:Nat}{R:Nat->Nat->Bool}(h:UcM w n R W)(i:Nat)(f:Nat->Bool):UcM w n (oN R i f) (W.setCell ⟨w.heap.size,i,none⟩ (.int .u64 (wd f 0:Int))):=by
 refine⟨h.bel.setCell (az _) _,?_⟩;rw[<-Ee];exact aV W w.heap.size i _ _ _ h.row
end
section
open Go.RowKit Msk Vx
theorem Mi (f:Nat->Bool)(a:Nat)(ha:a<64):bits BinOp.or IntKind.u64 (wd f 0:Int) (IntKind.u64.wrap (2^a))=(wd (fun k=>f k||decide (k=a)) 0:Int):=by
 have hp:(2:Nat)^a<18446744073709551616:=by
  have:=Nat.pow_lt_pow_right (a:=2) (by omega) ha;simpa using this
 have e1:IntKind.u64.wrap ((2:Int)^a)=((2^a:Nat):Int):=by
  rw[gz];have:((2:Int)^a)=((2^a:Nat):Int):=(by push_cast;rfl);rw[this];generalize (2^a:Nat)=y at*;omega
 rw[e1,bits_or_u64_nat _ _ (gM f 0) hp];congr 1;refine mw _ 0 _ (Nat.or_lt_two_pow (n:=64) (gM f 0) hp) fun j hj=> ?_;rw[Nat.testBit_or,jc,bj hj,iK,Nat.mul_zero,bN,Nat.testBit_two_pow];congr 1;by_cases e:a=j
 ·simp[e]
 ·simp[e,show¬j=a from fun h=>e h.symm]
theorem KR (f g:Nat->Bool):bits BinOp.or IntKind.u64 (wd f 0:Int) (wd g 0:Int)=(wd (fun k=>f k||g k) 0:Int):=by
 rw[bits_or_u64_nat _ _ (gM f 0) (gM g 0),zO]
def cE (cs:List Cd)(i j:Nat):Nat->Nat->Bool:=fun r k=>if r<i then fQ cs r k else if r=i then(((cs.getD i cd0).ins.take j).any fun x=>decide (x.op=8)&&decide (x.a=(k:Int))) else false
theorem Mj (cs:List Cd):cE cs 0 0=fun _ _=>false:=by
 funext r k;unfold cE;rw[au (by omega)];split<;>simp
theorem KS {cs:List Cd}{i j an:Nat}{x:In}(hx:(cs.getD i cd0).ins[j]? =some x)(ho:x.op=8)(ha:x.a=(an:Int))(r k:Nat):oN (cE cs i j) i (fun k=>cE cs i j i k||decide (k=an)) r k=cE cs i (j+1) r k:=by
 unfold oN;by_cases e:r=i
 ·subst e;rw[ay rfl];show(cE cs r j r k||decide (k=an))=cE cs r (j+1) r k;unfold cE;rw[au (by omega),ay rfl,au (by omega),ay rfl,fo,hx,Option.toList_some,List.any_append];simp only[List.any_cons,List.any_nil,Bool.or_false,ho,ha,decide_true,iK];congr 1;by_cases h:k=an
  ·simp[h]
  ·have h2: ¬(an:Int)=(k:Int):=(by omega);simp[h,h2]
 ·rw[au e];unfold cE;by_cases h:r<i
  ·rw[ay h,ay h]
  ·rw[au h,au h,au e,au e]
theorem KU {cs:List Cd}{i j:Nat}{x:In}(hx:(cs.getD i cd0).ins[j]? =some x)(ho:x.op≠8):cE cs i j=cE cs i (j+1):=by
 funext r k;unfold cE;rw[fo,hx,Option.toList_some,List.any_append];simp[ho]
theorem Mk {cs:List Cd}{i j:Nat}(hj:(cs.getD i cd0).ins.length<=j):cE cs i j=cE cs (i+1) 0:=by
 funext r k;unfold cE;rw[cg hj];by_cases h:r<i
 ·rw[ay h,ay (by omega)]
 ·rw[au h];by_cases e:r=i
  ·rw[ay e,ay (by omega)];subst e;rfl
  ·rw[au e,au (by omega)];split<;>simp
def wE (E:Nat->Nat->Bool)(m i:Nat):Nat->Nat->Bool:=fun r k=>if r<i then wars E (m+1) r k else wars E m r k
theorem Gg (E:Nat->Nat->Bool)(m k:Nat):wars E (m+1) m k=wars E m m k:=by
 simp only[wars];cases wars E m m k<;>simp
theorem Nz (E:Nat->Nat->Bool)(m i k:Nat):wE E m i m k=wars E m m k:=by
 unfold wE;split
 ·exact Gg E m k
 ·rfl
theorem AY (E:Nat->Nat->Bool)(m i k:Nat):wE E m i i k=wars E m i k:=au (by omega)
theorem Ml {E:Nat->Nat->Bool}{m i:Nat}(h:wE E m i i m=true)(r k:Nat):oN (wE E m i) i (fun k=>wE E m i i k||wE E m i m k) r k=wE E m (i+1) r k:=by
 unfold oN;rw[AY]at h;by_cases e:r=i
 ·subst e;rw[ay rfl];show(wE E m r r k||wE E m r m k)=_;rw[AY,Nz];unfold wE;rw[ay (by omega)];simp only[wars,h,iK]
 ·rw[au e];unfold wE;by_cases h:r<i
  ·rw[ay h,ay (by omega)]
  ·rw[au h,au (by omega)]
theorem NA {E:Nat->Nat->Bool}{m i:Nat}(h:wE E m i i m=false)(r k:Nat):wE E m i r k=wE E m (i+1) r k:=by
 rw[AY]at h;unfold wE;by_cases e:r=i
 ·subst e;rw[au (by omega),ay (by omega)];simp only[wars,h,Bool.false_and,Bool.or_false]
 ·by_cases h:r<i
  ·rw[ay h,ay (by omega)]
  ·rw[au h,au (by omega)]
def EA (cs:List Cd)(w:World)(t:Value)(wr:World):Prop:= ∃i:Nat,t=ag (i:Int)/\i<=cs.length/\UcM w cs.length (cE cs i 0) wr
def EB (cs:List Cd)(i n:Nat)(w:World)(t:Value)(wr:World):Prop:= ∃j:Nat,t=ag (j:Int)/\j<=n/\UcM w cs.length (cE cs i j) wr
def EC (cs:List Cd)(w:World)(t:Value)(wr:World):Prop:= ∃m:Nat,t=ag (m:Int)/\m<=cs.length/\UcM w cs.length (wE (fQ cs) m 0) wr
def ED (cs:List Cd)(m:Nat)(w:World)(t:Value)(wr:World):Prop:= ∃i:Nat,t=ag (i:Int)/\i<=cs.length/\UcM w cs.length (wE (fQ cs) m i) wr
def ND (cs:List Cd)(w:World)(e:Ending)(w':World):Prop:=e= .returned (.slice (some (ae w.heap.size 0)) cs.length cs.length)/\UcM w cs.length (wars (fQ cs) cs.length) w'
theorem KV:(prog.info? 84).map (fun i=>(i.zero,i.size,i.bytes))=some (some (.int .u64 0),1,8):=by kernel_rfl
theorem IP:prog.underlying 234=some (.slice 84):=by kernel_rfl
theorem AZ (cs:List Cd)(lv:Value)(w:World)(h:InV w lv cs)(h40:cs.length<=40)(hok: ∀(i:Nat) (c:Cd),cs[i]? =some c->aloneE c cs.length=0):Calls prog 153 #[lv] w (ND cs w):=by
 obtain⟨p,cp,rfl,hlen,hc⟩:=h.form;have HC:=aY hc;have HK:=aY hok;have hmk:=run_make_row' (P:=prog) 234 84 (.int .u64 0) 8 IP KV rfl .i64 .i64 cs.length (by omega) (by omega);rw[Cb]at hmk;have bA:=am w (.cells (il cs.length (fun _ _=>false)) 84);have hst:UcM w cs.length (cE cs 0 0) (w.alloc (.cells (il cs.length (fun _ _=>false)) 84)):=⟨bA,by rw[Mj];exact aD w _⟩
 have hI40:(cs.length:Int)<=40:=by omega
 have hI0:(0:Int)<=(cs.length:Int):=by omega
 generalize hwA:w.alloc (.cells (il cs.length (fun _ _=>false)) 84)=wA at*;clear h hc hok bA;go_enter func153,ntmps153;go_wp2_with fail;clear hmk hwA;go_loopw [15] (fun t wr=>EA cs w t wr) (fun t _=>cs.length-(intOf t).toNat);case atStart=>exact⟨0,rfl,by omega,hst⟩
 case round=>
  obtain⟨ri,rfl,hi,hsA⟩:=hrel;clear hst;have hi0:(0:Int)<=(ri:Int):=(by omega);by_cases hlt:ri<cs.length
  ·have hlt':(ri:Int)<(cs.length:Int):=(by omega);obtain⟨u,hiu⟩: ∃u,cs[ri]? =some u:=⟨cs[ri],ax hlt⟩
   obtain⟨sv,hin,g,o,hpe,c0,c1,c2⟩:=HC.o ri _ hiu;have hcd:=iO hiu;have hal:=je (HK.o ri _ hiu);obtain⟨ul,hi,st⟩:=u;dsimp only at hin c0 c1 c2 hal;obtain⟨pu,cu,rfl,hlu,hcu⟩:=hin.form;subst hpe;have d0:=aj hsA.bel c0;have d1:=aj hsA.bel c1;have d2:=aj hsA.bel c2;have bI:=am wr (.cells #[.slice pu ul.length cu,ag hi,ag st] 142);have hsB:=hsA.below bI;have hxC:=aD wr (.cells #[.slice pu ul.length cu,ag hi,ag st] 142);have zc:=ak 0 hxC;generalize hwC:wr.alloc (.cells #[.slice pu ul.length cu,ag hi,ag st] 142)=wC at*;have hul0:(0:Int)<=(ul.length:Int):=(by omega);have hul1:ul.length<=2000:=hal.1.2;have HAL:=aY hal.2.2;have HCD:=aY hcd;have HCU:=aY hcu;have HSB:=aY hsB;clear hal hcd hcu hsA hin hiu c0 c1 c2 bI hsB hxC;go_wp2_with fail;clear d0 d1 d2 zc hwC;have hsB:=HSB.o;clear HSB;go_loopw [23] (fun t wr=>EB cs ri ul.length w t wr) (fun t _=>ul.length-(intOf t).toNat);case atStart=>exact⟨0,rfl,by omega,hsB⟩
   case round=>
    obtain⟨j,rfl,hj,hst⟩:=hrel;clear hsB;have hj0:(0:Int)<=(j:Int):=(by omega);by_cases hltj:j<ul.length
    ·have hltj':(j:Int)<(ul.length:Int):=(by omega);obtain⟨x,hjx⟩: ∃x,ul[j]? =some x:=⟨ul[j],ax hltj⟩
     obtain⟨sk,hrow,g2,o2,hpe,e0,e1,e2,e3,e4⟩:=HCU.o j _ hjx;subst hpe;have hie:=HAL.o j _ hjx;have hjx':(cs.getD ri cd0).ins[j]? =some x:=(by rw[HCD.o];exact hjx);have d0:=aj hst.bel e0;have d1:=aj hst.bel e1;have d2:=aj hst.bel e2;have d3:=aj hst.bel e3;have d4:=aj hst.bel e4;have hcall:x.op=8->0<=x.a/\x.a<cs.length:=fun ho=>uU hie ho;obtain⟨op,a,b,t,sp⟩:=x;dsimp only at d0 d1 d2 d3 d4 hrow hcall;obtain⟨ps,ck,rfl,_,_⟩:=hrow.form;have bI:=am wr (.cells #[ag op,ag a,ag b,ag t,.slice ps sp.length ck] 179);have hxI:=aD wr (.cells #[ag op,ag a,ag b,ag t,.slice ps sp.length ck] 179);have z0:=ak 0 hxI;have z1:=ak 1 hxI;have hst1:=hst.below bI;by_cases ho:op=8
     ·subst ho;obtain⟨a0,a1⟩:=hcall rfl;obtain⟨an,rfl⟩: ∃an:Nat,a=(an:Int):=⟨a.toNat,by omega⟩
      have han:an<64:=(by omega);have ha0:(0:Int)<=(an:Int):=(by omega);have ha1:(an:Int)<64:=(by omega);have HNX:OK (∀W,UcM w cs.length (oN (cE cs ri j) ri (fun k=>cE cs ri j ri k||decide (k=an))) W->EB cs ri ul.length w (ag ((j+1:Nat):Int)) W):=fun W hW=>⟨j+1,rfl,by omega,hW.same fun r k _ _=>KS hjx' rfl rfl r k⟩
      have hst:=hst1;generalize cE cs ri j=St at*;have HOR:=aY (Mi (St ri) an han);have rc:=hst.cell hlt;generalize hwI:wr.alloc (.cells #[ag 8,ag (an:Int),ag b,ag t,.slice ps sp.length ck] 179)=wI at*;clear hst1 bI hxI hie hjx hjx' hrow hcall e0 e1 e2 e3 e4 HCU HAL HCD HC HK;go_wp2_with fail;obtain⟨gx,hgx⟩: ∃b,wr.heap.size=b:=⟨_,rfl⟩
      rw[hgx]at z1;simp only[hgx];clear hwI hgx z0 d0 d1 d2 d3 d4;have zx:=z1;clear z1;refine ju 9 [kn 30 (.slice (some (ae w.heap.size 0)) cs.length cs.length),kn 31 (ag (ri:Int)),kn 32 (ab w.heap.size ri),kn 33 (.int .u64 (wd (St ri) 0:Int)),kn 34 (ab gx 1),kn 35 (ag (an:Int)),kn 36 (.int .u64 (IntKind.u64.wrap (2^an))),kn 37 (.int .u64 (wd (fun k=>St ri k||decide (k=an)) 0:Int)),kn 38 (ab w.heap.size ri),nk] (by kernel_rfl) (by kernel_rfl) fun M φ W _ hJ F l hl hF=> ?_;have y0_:=aj hJ rc;have y1_:=aj hJ zx;have y2_:=HOR.o;simp only[kn,nk,dQ,aP,aW,Act.put,aA,aI,aH]at hl;subst hl;simp only[dc,Nat.reduceAdd]at hF;dsimp only[kn,nk,dx,eo,dV,Act.put];and_intros;all_goals first|exact trivial|intro hw hn hm K hK
      all_goals try (go_simp;with_reducible exact hK _ _ ⟨rfl,aG _ _⟩)
      clear y0_ y1_ y2_;have hW:=(hst.below hJ).set ri (fun k=>St ri k||decide (k=an));have z:=aj hJ rc;have y:=(hst.below hJ).frz ri;have HN:=aY (HNX.o _ hW);clear hst HNX hW;go_simp;refine hK undef _ ⟨trivial,fun c=>by simp at c,fun _=> ?_⟩;simp only[dX,aP,aW,Act.put,aA,aI,aH];clear hF hw hn hm;clear hK hJ z y;go_wp2_with fail;go_roundw
      case rel=>first
       |exact HN.o
       |((repeat apply iy);exact⟨HN.o,rfl⟩)
      case measure=>simp[intOf];omega
     ·have hob:(op==8)=false:=bg.2 ho;have HN:OK (EB cs ri ul.length w (ag ((j+1:Nat):Int)) (wr.alloc (.cells #[ag op,ag a,ag b,ag t,.slice ps sp.length ck] 179))):=⟨j+1,rfl,by omega,by rw[<-KU hjx' ho];exact hst1⟩
      generalize hwI:wr.alloc (.cells #[ag op,ag a,ag b,ag t,.slice ps sp.length ck] 179)=wI at*;clear hst1 bI hxI hie hjx hjx' hrow hcall e0 e1 e2 e3 e4 HCU HAL HCD HC HK hst ho;go_wp2_with fail;go_roundw
      case rel=>first
       |exact HN.o
       |((repeat apply iy);exact⟨HN.o,rfl⟩)
      case measure=>simp[intOf];omega
    ·have hltj': ¬(j:Int)<(ul.length:Int):=(by omega);have HN:OK (EA cs w (ag ((ri+1:Nat):Int)) wr):=⟨ri+1,rfl,by omega,by rw[<-Mk (j:=j) (by rw[HCD.o];show ul.length<=j;omega)];exact hst⟩
     clear hst HCU HAL HCD HC HK;go_wp2_with fail;go_roundw
     case rel=>first
      |exact HN.o
      |((repeat apply iy);exact⟨HN.o,rfl⟩)
     case measure=>simp[intOf];omega
  ·have hlt': ¬(ri:Int)<(cs.length:Int):=(by omega)
   have hsC:UcM w cs.length (wE (fQ cs) 0 0) wr:=hsA.same fun r k hr _=>by
    unfold cE wE;rw[ay (by omega),au (by omega)];rfl
   have HSC:=aY hsC;clear hsA HC HK hsC;go_wp2_with fail;have hst:=HSC.o;clear HSC;go_loopw [43] (fun t wr=>EC cs w t wr) (fun t _=>cs.length-(intOf t).toNat);case atStart=>exact⟨0,rfl,by omega,hst⟩
   case round=>
    obtain⟨m,rfl,hm,hsM⟩:=hrel;clear hst;have hm0:(0:Int)<=(m:Int):=(by omega);by_cases hltm:m<cs.length
    ·have hltm':(m:Int)<(cs.length:Int):=(by omega);have HSM:=aY hsM;clear hsM;go_wp2_with fail;have hsM:=HSM.o;clear HSM;go_loopw [48] (fun t wr=>ED cs m w t wr) (fun t _=>cs.length-(intOf t).toNat);case atStart=>exact⟨0,rfl,by omega,hsM⟩
     case round=>
      obtain⟨ri,rfl,hi,hst⟩:=hrel;clear hsM;have hr0:(0:Int)<=(ri:Int):=(by omega);by_cases hltr:ri<cs.length
      ·have hltr':(ri:Int)<(cs.length:Int):=(by omega);have rc:=hst.cell hltr;have rm:=hst.cell hltm;have cH:=CX (wE (fQ cs) m ri ri) m (by omega) wr;cases hb:wE (fQ cs) m ri ri m with
       |true=>
        rw[hb]at cH;have HNX:OK (∀W,UcM w cs.length (oN (wE (fQ cs) m ri) ri (fun k=>wE (fQ cs) m ri ri k||wE (fQ cs) m ri m k)) W->ED cs m w (ag ((ri+1:Nat):Int)) W):=fun W hW=>⟨ri+1,rfl,by omega,hW.same fun r k _ _=>Ml hb r k⟩
        clear hb;generalize wE (fQ cs) m ri=St at*;have HOR:=aY (KR (St ri) (St m));go_wp2_with fail;refine cH.mono ?_;rintro e w1 ⟨rfl,rfl⟩;clear cH;go_wp2_with fail;refine ju 10 [kn 57 (.slice (some (ae w.heap.size 0)) cs.length cs.length),kn 58 (ag (ri:Int)),kn 59 (ab w.heap.size ri),kn 60 (.int .u64 (wd (St ri) 0:Int)),kn 61 (.slice (some (ae w.heap.size 0)) cs.length cs.length),kn 62 (ag (m:Int)),kn 63 (ab w.heap.size m),kn 64 (.int .u64 (wd (St m) 0:Int)),kn 65 (.int .u64 (wd (fun k=>St ri k||St m k) 0:Int)),kn 66 (ab w.heap.size ri),nk] (by kernel_rfl) (by kernel_rfl) fun M φ W _ hJ F l hl hF=> ?_;have y0_:=aj hJ rc;have y1_:=aj hJ rm;have y2_:=HOR.o;simp only[kn,nk,dQ,aP,aW,Act.put,aA,aI,aH]at hl;subst hl;simp only[dc,Nat.reduceAdd]at hF;dsimp only[kn,nk,dx,eo,dV,Act.put];and_intros;all_goals first|exact trivial|intro hw hn hm K hK
        all_goals try (go_simp;with_reducible exact hK _ _ ⟨rfl,aG _ _⟩)
        clear y0_ y1_ y2_;have hW:=(hst.below hJ).set ri (fun k=>St ri k||St m k);have z:=aj hJ rc;have y:=(hst.below hJ).frz ri;have HN:=aY (HNX.o _ hW);clear hst HNX hW;go_simp;refine hK undef _ ⟨trivial,fun c=>by simp at c,fun _=> ?_⟩;simp only[dX,aP,aW,Act.put,aA,aI,aH];clear hF hw hn hm;clear hK hJ z y;go_wp2_with fail;go_roundw
        case rel=>first
         |exact HN.o
         |((repeat apply iy);exact⟨HN.o,rfl⟩)
        case measure=>simp[intOf];omega
       |false=>
        rw[hb]at cH;have HN:OK (ED cs m w (ag ((ri+1:Nat):Int)) wr):=⟨ri+1,rfl,by omega,hst.same fun r k _ _=>NA hb r k⟩
        clear hb hst;generalize wE (fQ cs) m ri=St at*;go_wp2_with fail;refine cH.mono ?_;rintro e w1 ⟨rfl,rfl⟩;clear cH;go_wp2_with fail;go_roundw
        case rel=>first
         |exact HN.o
         |((repeat apply iy);exact⟨HN.o,rfl⟩)
        case measure=>simp[intOf];omega
      ·have hltr': ¬(ri:Int)<(cs.length:Int):=(by omega)
       have HN:OK (EC cs w (ag ((m+1:Nat):Int)) wr):=⟨m+1,rfl,by omega,hst.same fun r k hr _=>by
        unfold wE;rw[ay (by omega),au (by omega)]⟩
       clear hst;go_wp2_with fail;go_roundw
       case rel=>first
        |exact HN.o
        |((repeat apply iy);exact⟨HN.o,rfl⟩)
       case measure=>simp[intOf];omega
    ·have hltm': ¬(m:Int)<(cs.length:Int):=(by omega)
     have HN:OK (UcM w cs.length (wars (fQ cs) cs.length) wr):=by
      show UcM _ _ _ _;have e:m=cs.length:=(by omega);subst e;exact hsM.same fun r k _ _=>(by unfold wE;rw[au (by omega)])
     clear hsM;go_wp2_with fail;go_ret;exact⟨rfl,HN.o⟩
end
end Go.Proofs.YtkfidffapdhbhaaGreatDoor
namespace Vx
open Go.Proofs.YtkfidffapdhbhaaGreatDoor
variable {cs:List Cd} {l:List In}
theorem wi (x:In): -1<=eff x/\eff x<=1:=by
 unfold eff;split
 ·omega
 ·split<;>omega
theorem NE (x:In):0<=tk x/\tk x<=2:=by
 unfold tk;split
 ·omega
 ·split<;>omega
theorem mD: ∀j:Nat,-(j:Int)<=hAt l j/\hAt l j<=j
 |0=>by simp[hAt]
 |j+1=>by
  have h1:=mD j;have h2:=wi (l.getD j in0);simp only[hAt];omega
theorem rg (hh: ∀i,(cs.getD i cd0).high<=100): ∀j:Nat,0<=mxH cs l j/\mxH cs l j<=j+100
 |0=>by simp[mxH]
 |j+1=>by
  have h1:=rg hh j;have h2:=mD (l:=l) j;have h3:=mD (l:=l) (j+1);have h4:=hh (l.getD j in0).a.toNat;simp only[mxH];split<;>omega
theorem rh (h0: ∀i,0<=(cs.getD i cd0).steps/\(cs.getD i cd0).steps<=20000): ∀j:Nat,(j:Int)<=stS cs l j/\stS cs l j<=j*20001
 |0=>by simp[stS]
 |j+1=>by
  have h1:=rh h0 j;have h4:=h0 (l.getD j in0).a.toNat;simp only[stS];split<;>omega
theorem KW (h: ∀(i:Nat) (c:Cd),cs[i]? =some c->aloneE c cs.length=0)(i:Nat):(cs.getD i cd0).high<=100:=by
 cases hi:cs[i]? with
 |none=>simp[List.getD,hi,cd0]
 |some c=>
  rw[iO hi];have:=(je (h i c hi)).2.1;omega
theorem IQ (h: ∀(i:Nat) (c:Cd),cs[i]? =some c->aloneE c cs.length=0)(i:Nat):0<=(cs.getD i cd0).steps/\(cs.getD i cd0).steps<=20000:=by
 cases hi:cs[i]? with
 |none=>simp[List.getD,hi,cd0]
 |some c=>
  rw[iO hi];have:=(je (h i c hi)).2.1;omega
def agB (L:List (Int×Int))(p h:Int):Bool:=match lk L p with
 |none=>true
 |some v=>decide (v=h)
theorem rO {L:List (Int×Int)}{p h:Int}(e:agB L p h=true): ∀v,lk L p=some v->v=h:=fun v hv=>by
 unfold agB at e;rw[hv]at e;simpa using e
theorem qp {L:List (Int×Int)}{p h:Int}(e:agB L p h=false): ∃v,lk L p=some v/\v≠h:=by
 unfold agB at e;cases hl:lk L p with
 |none=>rw[hl]at e;cases e
 |some v=>rw[hl]at e;exact⟨v,rfl,by simpa using e⟩
theorem KX {L:List (Int×Int)}{p h:Int}:agB L p h=true↔ ∀v,lk L p=some v->v=h:=by
 constructor
 ·exact rO
 ·intro hh;cases e:agB L p h with
  |true=>rfl
  |false=>
   obtain⟨v,h1,h2⟩:=qp e;exact absurd (hh v h1) h2
end Vx
