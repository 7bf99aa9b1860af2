/- Texts of the proof. -/
import Derived.Test.YtkfidffapdhbhaaGreatDoorPh05
import Derived.Test.YtkfidffapdhbhaaGreatDoorPh01
import Derived.Laws.EntriesVeiled
import Derived.Deep.OwnRows
set_option maxRecDepth 100000
set_option maxHeartbeats 8000000
namespace Go.Proofs.YtkfidffapdhbhaaGreatDoor
open Go.Proofs.Tryz Go.RowKit Lx Vx Mx Msk
theorem rJ:prog.underlying 179=some (.struct (prog.fieldsOf 179)):=by kernel_rfl
def nmD (op a b:Int):Bool:=if op=6 then decide (1<=a/\a<=127) else decide (0<=a/\a<=b/\b<146097)
theorem sU (op a b t:Int)(sv:Value)(w:World):Calls prog 207 #[.agg #[ag op,ag a,ag b,ag t,sv]] w fun r w'=>r= .returned (.bool (nmD op a b))/\aq w w':=by
 have hbA:=am w (.cells #[ag op,ag a,ag b,ag t,sv] 179);have hxA:=aE w (.cells #[ag op,ag a,ag b,ag t,sv] 179);generalize hwA:w.alloc (.cells #[ag op,ag a,ag b,ag t,sv] 179)=wA at*;have z0:=ak 0 hxA;have z1:=ak 1 hxA;have z2:=ak 2 hxA;have z3:=ak 3 hxA;have z4:=ak 4 hxA;by_cases h6:op=6
 ·have e:nmD op a b=decide (1<=a/\a<=127):=aD h6;rw[e];subst h6;have c1:=li a 1 127 wA;generalize decide (1<=a/\a<=127)=q at*;go_enter func207,ntmps207;go_wp2_with fail;refine c1.mono ?_;rintro r w' ⟨rfl,rfl⟩;go_wp2_with fail;go_ret;exact⟨rfl,hbA⟩
 ·have e:nmD op a b=decide (0<=a/\a<=b/\b<146097):=ax h6;have h6':(op==6)=false:=bj.2 h6;rw[e];by_cases h1:0<=a
  ·by_cases h2:a<=b
   ·by_cases h3:b<146097
    ·rw[bm (⟨h1,h2,h3⟩:0<=a/\a<=b/\b<146097)];go_enter func207,ntmps207;go_wp2_with fail;go_ret;exact⟨rfl,hbA⟩
    ·rw[bn (fun e:0<=a/\a<=b/\b<146097=>h3 e.2.2)];go_enter func207,ntmps207;go_wp2_with fail;go_ret;exact⟨rfl,hbA⟩
   ·rw[bn (fun e:0<=a/\a<=b/\b<146097=>h2 e.2.1)];go_enter func207,ntmps207;go_wp2_with fail;go_ret;exact⟨rfl,hbA⟩
  ·rw[bn (fun e:0<=a/\a<=b/\b<146097=>h1 e.1)];go_enter func207,ntmps207;go_wp2_with fail;go_ret;exact⟨rfl,hbA⟩
theorem LA (a b t:Int)(sv:Value)(k n r:Nat)(w:World):Calls prog 184 #[.agg #[ag 2,ag a,ag b,ag t,sv],ag (k:Int),ag (n:Int),ag (r:Int)] w fun e w'=>e= .returned (ag 0)/\aq w w':=by
 have hbA:=am w (.cells #[ag 2,ag a,ag b,ag t,sv] 179);have hxA:=aE w (.cells #[ag 2,ag a,ag b,ag t,sv] 179);generalize hwA:w.alloc (.cells #[ag 2,ag a,ag b,ag t,sv] 179)=wA at*;have z0:=ak 0 hxA;have z1:=ak 1 hxA;have z2:=ak 2 hxA;have z3:=ak 3 hxA;have z4:=ak 4 hxA;go_enter func184,ntmps184;go_wp2_with fail;go_ret;exact⟨rfl,hbA⟩
theorem LB (a b t:Int)(sv:Value)(k n r:Nat)(w:World):Calls prog 184 #[.agg #[ag 3,ag a,ag b,ag t,sv],ag (k:Int),ag (n:Int),ag (r:Int)] w fun e w'=>e= .returned (ag 0)/\aq w w':=by
 have hbA:=am w (.cells #[ag 3,ag a,ag b,ag t,sv] 179);have hxA:=aE w (.cells #[ag 3,ag a,ag b,ag t,sv] 179);generalize hwA:w.alloc (.cells #[ag 3,ag a,ag b,ag t,sv] 179)=wA at*;have z0:=ak 0 hxA;have z1:=ak 1 hxA;have z2:=ak 2 hxA;have z3:=ak 3 hxA;have z4:=ak 4 hxA;go_enter func184,ntmps184;go_wp2_with fail;go_ret;exact⟨rfl,hbA⟩
theorem LC (a b t:Int)(sv:Value)(k n r:Nat)(w:World):Calls prog 184 #[.agg #[ag 4,ag a,ag b,ag t,sv],ag (k:Int),ag (n:Int),ag (r:Int)] w fun e w'=>e= .returned (ag 0)/\aq w w':=by
 have hbA:=am w (.cells #[ag 4,ag a,ag b,ag t,sv] 179);have hxA:=aE w (.cells #[ag 4,ag a,ag b,ag t,sv] 179);generalize hwA:w.alloc (.cells #[ag 4,ag a,ag b,ag t,sv] 179)=wA at*;have z0:=ak 0 hxA;have z1:=ak 1 hxA;have z2:=ak 2 hxA;have z3:=ak 3 hxA;have z4:=ak 4 hxA;go_enter func184,ntmps184;go_wp2_with fail;go_ret;exact⟨rfl,hbA⟩
theorem LD (a b t:Int)(sv:Value)(k n r:Nat)(w:World)(sp:List (Int×Int))(h:mV w sv sp):Calls prog 184 #[.agg #[ag 1,ag a,ag b,ag t,sv],ag (k:Int),ag (n:Int),ag (r:Int)] w fun e w'=>e= .returned (ag (if risL sp (-1)=true then 0 else 2))/\aq w w':=by
 have hbA:=am w (.cells #[ag 1,ag a,ag b,ag t,sv] 179);have hxA:=aE w (.cells #[ag 1,ag a,ag b,ag t,sv] 179);generalize hwA:w.alloc (.cells #[ag 1,ag a,ag b,ag t,sv] 179)=wA at*;have z0:=ak 0 hxA;have z1:=ak 1 hxA;have z2:=ak 2 hxA;have z3:=ak 3 hxA;have z4:=ak 4 hxA;have c1:=EO sp sv wA (h.later hbA);have c2:=fun W=>ma (risL sp (-1)) 2 W;generalize (if risL sp (-1)=true then(0:Int) else 2)=u at*;generalize risL sp (-1)=q at*;go_enter func184,ntmps184;go_wp2_with fail;refine c1.mono ?_;rintro e w1 ⟨rfl,hb1⟩;have hbw:=aw hbA hb1;have c3:=c2 w1;go_wp2_with fail;refine c3.mono ?_;rintro e w2 ⟨rfl,rfl⟩;go_wp2_with fail;go_ret;exact⟨rfl,hbw⟩
theorem LE (a b t:Int)(sv:Value)(k n r:Nat)(w:World):Calls prog 184 #[.agg #[ag 5,ag a,ag b,ag t,sv],ag (k:Int),ag (n:Int),ag (r:Int)] w fun e w'=>e= .returned (ag (if a≠0/\ -1439<=a/\a<=1439 then 0 else 3))/\aq w w':=by
 have hbA:=am w (.cells #[ag 5,ag a,ag b,ag t,sv] 179);have hxA:=aE w (.cells #[ag 5,ag a,ag b,ag t,sv] 179);generalize hwA:w.alloc (.cells #[ag 5,ag a,ag b,ag t,sv] 179)=wA at*;have z0:=ak 0 hxA;have z1:=ak 1 hxA;have z2:=ak 2 hxA;have z3:=ak 3 hxA;have z4:=ak 4 hxA;by_cases ha:a=0
 ·subst ha;have c2:=ma false 3 wA;rw[ax (fun e=>e.1 rfl)];go_enter func184,ntmps184;go_wp2_with fail;refine c2.mono ?_;rintro e w2 ⟨rfl,rfl⟩;go_wp2_with fail;go_ret;exact⟨rfl,hbA⟩
 ·have hb0:(a==0)=false:=bj.2 ha;have c1:=li a (-1439) 1439 wA;have c2:=ma (decide (-1439<=a/\a<=1439)) 3 wA
  have HE:PH ((if a≠0/\ -1439<=a/\a<=1439 then(0:Int) else 3)=if decide (-1439<=a/\a<=1439)=true then 0 else 3):=by
   show _=_;by_cases h: -1439<=a/\a<=1439
   ·rw[aD ⟨ha,h⟩,aD (bm h)]
   ·rw[ax (fun e=>h e.2),ax (by simpa using h)]
  rw[HE.o];generalize (if decide (-1439<=a/\a<=1439)=true then(0:Int) else 3)=u at*;generalize decide (-1439<=a/\a<=1439)=q at*;have hbn:(a !=0)=true:=(by simpa using ha);go_enter func184,ntmps184;go_wp2_with fail;refine c1.mono ?_;rintro e w1 ⟨rfl,rfl⟩;go_wp2_with fail;refine c2.mono ?_;rintro e w2 ⟨rfl,rfl⟩;go_wp2_with fail;go_ret;exact⟨rfl,hbA⟩
theorem LF (a b t:Int)(sv:Value)(k n r:Nat)(w:World)(hk:k<=2000):Calls prog 184 #[.agg #[ag 6,ag a,ag b,ag t,sv],ag (k:Int),ag (n:Int),ag (r:Int)] w fun e w'=>e= .returned (ag (if(k:Int)+2<=t/\t<=n then(if nmD 6 a b=true then 0 else 3) else 8))/\aq w w':=by
 have hbA:=am w (.cells #[ag 6,ag a,ag b,ag t,sv] 179);have hxA:=aE w (.cells #[ag 6,ag a,ag b,ag t,sv] 179);generalize hwA:w.alloc (.cells #[ag 6,ag a,ag b,ag t,sv] 179)=wA at*;have z0:=ak 0 hxA;have z1:=ak 1 hxA;have z2:=ak 2 hxA;have z3:=ak 3 hxA;have z4:=ak 4 hxA;have hk0:(0:Int)<=(k:Int):=by omega
 have hk1:(k:Int)<=2000:=by omega
 have c1:=li t ((k:Int)+2) (n:Int) wA;have c2:=sU 6 a b t sv wA;have c3:=fun W=>ma (nmD 6 a b) 3 W;by_cases h:(k:Int)+2<=t/\t<=n
 ·rw[aD h];rw[bm h]at c1;generalize (if nmD 6 a b=true then(0:Int) else 3)=u at*;generalize nmD 6 a b=q at*;go_enter func184,ntmps184;go_wp2_with fail;refine c1.mono ?_;rintro e w1 ⟨rfl,rfl⟩;go_wp2_with(refine aQ rfl 179 _ rfl _ rfl _ _ _ _ hxA rJ rfl (by kernel_rfl) ?_)
  refine c2.mono ?_;rintro e w1 ⟨rfl,hb1⟩;have hbw:=aw hbA hb1;have c4:=c3 w1;go_wp2_with fail;refine c4.mono ?_;rintro e w2 ⟨rfl,rfl⟩;go_wp2_with fail;go_ret;exact⟨rfl,hbw⟩
 ·rw[ax h];rw[bn h]at c1;go_enter func184,ntmps184;go_wp2_with fail;refine c1.mono ?_;rintro e w1 ⟨rfl,rfl⟩;go_wp2_with fail;go_ret;exact⟨rfl,hbA⟩
theorem LG (a b t:Int)(sv:Value)(k n r:Nat)(w:World)(hk:k<=2000):Calls prog 184 #[.agg #[ag 7,ag a,ag b,ag t,sv],ag (k:Int),ag (n:Int),ag (r:Int)] w fun e w'=>e= .returned (ag (if(k:Int)+2<=t/\t<=n then(if nmD 7 a b=true then 0 else 3) else 8))/\aq w w':=by
 have hbA:=am w (.cells #[ag 7,ag a,ag b,ag t,sv] 179);have hxA:=aE w (.cells #[ag 7,ag a,ag b,ag t,sv] 179);generalize hwA:w.alloc (.cells #[ag 7,ag a,ag b,ag t,sv] 179)=wA at*;have z0:=ak 0 hxA;have z1:=ak 1 hxA;have z2:=ak 2 hxA;have z3:=ak 3 hxA;have z4:=ak 4 hxA;have hk0:(0:Int)<=(k:Int):=by omega
 have hk1:(k:Int)<=2000:=by omega
 have c1:=li t ((k:Int)+2) (n:Int) wA;have c2:=sU 7 a b t sv wA;have c3:=fun W=>ma (nmD 7 a b) 3 W;by_cases h:(k:Int)+2<=t/\t<=n
 ·rw[aD h];rw[bm h]at c1;generalize (if nmD 7 a b=true then(0:Int) else 3)=u at*;generalize nmD 7 a b=q at*;go_enter func184,ntmps184;go_wp2_with fail;refine c1.mono ?_;rintro e w1 ⟨rfl,rfl⟩;go_wp2_with(refine aQ rfl 179 _ rfl _ rfl _ _ _ _ hxA rJ rfl (by kernel_rfl) ?_)
  refine c2.mono ?_;rintro e w1 ⟨rfl,hb1⟩;have hbw:=aw hbA hb1;have c4:=c3 w1;go_wp2_with fail;refine c4.mono ?_;rintro e w2 ⟨rfl,rfl⟩;go_wp2_with fail;go_ret;exact⟨rfl,hbw⟩
 ·rw[ax h];rw[bn h]at c1;go_enter func184,ntmps184;go_wp2_with fail;refine c1.mono ?_;rintro e w1 ⟨rfl,rfl⟩;go_wp2_with fail;go_ret;exact⟨rfl,hbA⟩
theorem LH (a b t:Int)(sv:Value)(k n r:Nat)(w:World):Calls prog 184 #[.agg #[ag 8,ag a,ag b,ag t,sv],ag (k:Int),ag (n:Int),ag (r:Int)] w fun e w'=>e= .returned (ag (if 0<=a/\a<r then 0 else 6))/\aq w w':=by
 have hbA:=am w (.cells #[ag 8,ag a,ag b,ag t,sv] 179);have hxA:=aE w (.cells #[ag 8,ag a,ag b,ag t,sv] 179);generalize hwA:w.alloc (.cells #[ag 8,ag a,ag b,ag t,sv] 179)=wA at*;have z0:=ak 0 hxA;have z1:=ak 1 hxA;have z2:=ak 2 hxA;have z3:=ak 3 hxA;have z4:=ak 4 hxA;have c1:=qt a (r:Int) wA;have c2:=ma (decide (0<=a/\a<(r:Int))) 6 wA
 have HE:PH ((if 0<=a/\a<(r:Int) then(0:Int) else 6)=if decide (0<=a/\a<(r:Int))=true then 0 else 6):=by
  show _=_;by_cases h:0<=a/\a<(r:Int)
  ·rw[aD h,aD (bm h)]
  ·rw[ax h,ax (by simpa using h)]
 rw[HE.o];generalize (if decide (0<=a/\a<(r:Int))=true then(0:Int) else 6)=u at*;generalize decide (0<=a/\a<(r:Int))=q at*;go_enter func184,ntmps184;go_wp2_with fail;refine c1.mono ?_;rintro e w1 ⟨rfl,rfl⟩;go_wp2_with fail;refine c2.mono ?_;rintro e w2 ⟨rfl,rfl⟩;go_wp2_with fail;go_ret;exact⟨rfl,hbA⟩
theorem LI (op:Int)(a b t:Int)(sv:Value)(k n r:Nat)(w:World)(h1:(op==1)=false)(h2:(op==2)=false)(h3:(op==3)=false)(h4:(op==4)=false)(h5:(op==5)=false)(h6:(op==6)=false)(h7:(op==7)=false)(h8:(op==8)=false):Calls prog 184 #[.agg #[ag op,ag a,ag b,ag t,sv],ag (k:Int),ag (n:Int),ag (r:Int)] w fun e w'=>e= .returned (ag 1)/\aq w w':=by
 have hbA:=am w (.cells #[ag op,ag a,ag b,ag t,sv] 179);have hxA:=aE w (.cells #[ag op,ag a,ag b,ag t,sv] 179);generalize hwA:w.alloc (.cells #[ag op,ag a,ag b,ag t,sv] 179)=wA at*;have z0:=ak 0 hxA;have z1:=ak 1 hxA;have z2:=ak 2 hxA;have z3:=ak 3 hxA;have z4:=ak 4 hxA;go_enter func184,ntmps184;go_wp2_with fail;go_ret;exact⟨rfl,hbA⟩
theorem GY (x:In)(sv:Value)(k n r:Nat)(w:World)(h:mV w sv x.sp)(hk:k<=2000):Calls prog 184 #[.agg #[ag x.op,ag x.a,ag x.b,ag x.to,sv],ag (k:Int),ag (n:Int),ag (r:Int)] w fun e w'=>e= .returned (ag (fP x k n r))/\aq w w':=by
 obtain⟨op,a,b,t,sp⟩:=x;dsimp only at h⊢;unfold fP;dsimp only;by_cases h2:op=2
 ·subst h2;exact LA a b t sv k n r w
 by_cases h3:op=3
 ·subst h3;exact LB a b t sv k n r w
 by_cases h4:op=4
 ·subst h4;exact LC a b t sv k n r w
 rw[ax (by omega)];by_cases h1:op=1
 ·subst h1;exact LD a b t sv k n r w sp h
 rw[ax h1];by_cases h5:op=5
 ·subst h5;exact LE a b t sv k n r w
 rw[ax h5];by_cases h6:op=6
 ·subst h6;have c:=LF a b t sv k n r w hk;have e:nmD 6 a b=decide (1<=a/\a<=127):=aD rfl;rw[e]at c;rw[aD rfl];simpa only[cg] using c
 rw[ax h6];by_cases h7:op=7
 ·subst h7;have c:=LG a b t sv k n r w hk;have e:nmD 7 a b=decide (0<=a/\a<=b/\b<146097):=ax (by decide);rw[e]at c;rw[aD rfl];simpa only[cg] using c
 rw[ax h7];by_cases h8:op=8
 ·subst h8;exact LH a b t sv k n r w
 rw[ax h8];exact LI op a b t sv k n r w (bj.2 h1) (bj.2 h2) (bj.2 h3) (bj.2 h4) (bj.2 h5) (bj.2 h6) (bj.2 h7) (bj.2 h8)
def xl (w:World)(v:Value)(xs:List (In×Value)):Prop:= ∃p c,v= .slice p xs.length c/\xs.length<9223372036854775808/\ ∀(j:Nat) (x:In×Value),xs[j]? =some x->mV w x.2 x.1.sp/\ ∃g o:Nat,p=some ⟨g,o,none⟩/\
 w.cell? (ae g (o+j*5))=some (ag x.1.op)/\w.cell? (ae g (o+j*5+1))=some (ag x.1.a)/\w.cell? (ae g (o+j*5+2))=some (ag x.1.b)/\w.cell? (ae g (o+j*5+3))=some (ag x.1.to)/\w.cell? (ae g (o+j*5+4))=some x.2
theorem xl.below {w w':World}{v:Value}{xs:List (In×Value)}(h:xl w v xs)(hb:aq w w'):xl w' v xs:=by
 obtain⟨p,c,h1,h2,h3⟩:=h;refine⟨p,c,h1,h2,fun j x hj=> ?_⟩;obtain⟨r,g,o,e,c0,c1,c2,c3,c4⟩:=h3 j x hj;exact⟨r.later hb,g,o,e,aj hb c0,aj hb c1,aj hb c2,aj hb c3,aj hb c4⟩
def oR (w:World)(v:Value)(l:List In):Prop:= ∃xs:List (In×Value),xl w v xs/\xs.map (fun x=>x.1)=l
theorem oR.below {w w':World}{v:Value}{l:List In}(h:oR w v l)(hb:aq w w'):oR w' v l:=by
 obtain⟨xs,h1,h2⟩:=h;exact⟨xs,h1.below hb,h2⟩
theorem oR.form {w:World}{v:Value}{l:List In}(h:oR w v l): ∃p c,v= .slice p l.length c/\l.length<9223372036854775808/\ ∀(j:Nat) (x:In),l[j]? =some x-> ∃sv:Value,mV w sv x.sp/\ ∃g o:Nat,p=some ⟨g,o,none⟩/\
  w.cell? (ae g (o+j*5))=some (ag x.op)/\w.cell? (ae g (o+j*5+1))=some (ag x.a)/\w.cell? (ae g (o+j*5+2))=some (ag x.b)/\w.cell? (ae g (o+j*5+3))=some (ag x.to)/\w.cell? (ae g (o+j*5+4))=some sv:=by
 obtain⟨xs,⟨p,c,h1,h2,h3⟩,rfl⟩:=h;rw[ba];refine⟨p,c,h1,h2,fun j x hj=> ?_⟩;rw[bg]at hj;obtain⟨y,hy,rfl⟩:=dL.1 hj;obtain⟨r,g,o,e,hc⟩:=h3 j y hy;exact⟨y.2,r,g,o,e,hc⟩
def InC (w:World)(v:Value)(us:List (Cd×Value)):Prop:= ∃p c,v= .slice p us.length c/\us.length<9223372036854775808/\ ∀(j:Nat) (u:Cd×Value),us[j]? =some u->oR w u.2 u.1.ins/\ ∃g o:Nat,p=some ⟨g,o,none⟩/\
 w.cell? (ae g (o+j*3))=some u.2/\w.cell? (ae g (o+j*3+1))=some (ag u.1.high)/\w.cell? (ae g (o+j*3+2))=some (ag u.1.steps)
theorem InC.below {w w':World}{v:Value}{us:List (Cd×Value)}(h:InC w v us)(hb:aq w w'):InC w' v us:=by
 obtain⟨p,c,h1,h2,h3⟩:=h;refine⟨p,c,h1,h2,fun j u hj=> ?_⟩;obtain⟨r,g,o,e,c0,c1,c2⟩:=h3 j u hj;exact⟨r.below hb,g,o,e,aj hb c0,aj hb c1,aj hb c2⟩
def InV (w:World)(v:Value)(cs:List Cd):Prop:= ∃us:List (Cd×Value),InC w v us/\us.map (fun u=>u.1)=cs
theorem InV.below {w w':World}{v:Value}{cs:List Cd}(h:InV w v cs)(hb:aq w w'):InV w' v cs:=by
 obtain⟨xs,h1,h2⟩:=h;exact⟨xs,h1.below hb,h2⟩
theorem InV.form {w:World}{v:Value}{cs:List Cd}(h:InV w v cs): ∃p c,v= .slice p cs.length c/\cs.length<9223372036854775808/\ ∀(j:Nat) (u:Cd),cs[j]? =some u-> ∃sv:Value,oR w sv u.ins/\ ∃g o:Nat,p=some ⟨g,o,none⟩/\
  w.cell? (ae g (o+j*3))=some sv/\w.cell? (ae g (o+j*3+1))=some (ag u.high)/\w.cell? (ae g (o+j*3+2))=some (ag u.steps):=by
 obtain⟨xs,⟨p,c,h1,h2,h3⟩,rfl⟩:=h;rw[ba];refine⟨p,c,h1,h2,fun j x hj=> ?_⟩;rw[bg]at hj;obtain⟨y,hy,rfl⟩:=dL.1 hj;obtain⟨r,g,o,e,hc⟩:=h3 j y hy;exact⟨y.2,r,g,o,e,hc⟩
theorem EP (c:Cd)(sv:Value)(r:Nat)(w:World)(h:oR w sv c.ins):Calls prog 152 #[.agg #[sv,ag c.high,ag c.steps],ag (r:Int)] w fun e w'=>e= .returned (ag (aloneE c r))/\aq w w':=by
 obtain⟨p,cp,rfl,hlen,hc⟩:=h.form;have HC:=a8 hc;generalize hX:aloneE c r=X;unfold aloneE at hX;obtain⟨l,hi,st⟩:=c;dsimp only at hX hlen HC⊢;have hbA:=am w (.cells #[.slice p l.length cp,ag hi,ag st] 142);have hxA:=aE w (.cells #[.slice p l.length cp,ag hi,ag st] 142);generalize hwA:w.alloc (.cells #[.slice p l.length cp,ag hi,ag st] 142)=wA at*;have z0:=ak 0 hxA;have z1:=ak 1 hxA;have z2:=ak 2 hxA;have hl0:(0:Int)<=(l.length:Int):=by omega
 have c1:=li (l.length:Int) 1 2000 wA;by_cases h1:1<=l.length/\l.length<=2000
 ·rw[ax (fun e=>e h1)]at hX;rw[bm (show(1:Int)<=(l.length:Int)/\(l.length:Int)<=2000 by omega)]at c1;have c2:=li hi 1 100 wA;by_cases h2:1<=hi/\hi<=100
  ·rw[bm h2]at c2;have c3:=li st 1 20000 wA;by_cases h3:1<=st/\st<=20000
   ·rw[bm h3]at c3;rw[ax (fun e=>e ⟨h2,h3⟩)]at hX;have HS:PH (po (l.drop 0) 0 l.length r=X):=hX;go_enter func152,ntmps152;go_wp2_with fail;refine c1.mono ?_;rintro e w1 ⟨rfl,rfl⟩;go_wp2_with fail;refine c2.mono ?_;rintro e w2 ⟨rfl,rfl⟩;go_wp2_with fail;refine c3.mono ?_;rintro e w3 ⟨rfl,rfl⟩;go_wp2_with fail;go_loopw [26] (fun t wr=> ∃j:Nat,t=ag (j:Int)/\j<=l.length/\po (l.drop j) j l.length r=X/\wr.heap[w.heap.size]? =ah #[.slice p l.length cp,ag hi,ag st] 142/\aq w wr) (fun t _=>l.length-(intOf t).toNat);case atStart=>exact⟨0,rfl,by omega,HS.o,hxA,hbA⟩
    case round=>
     obtain⟨j,rfl,hj,hXr,hxr,hbr⟩:=hrel;have hj0:(0:Int)<=(j:Int):=(by omega);by_cases hlt:j<l.length
     ·have hlt':(j:Int)<(l.length:Int):=(by omega);obtain⟨x,hjk⟩: ∃x,l[j]? =some x:=⟨l[j],az hlt⟩
      rw[GV hjk]at hXr;obtain⟨sk,hrow,g,o,hpe,e0,e1,e2,e3,e4⟩:=HC.o j _ hjk;subst hpe;have d0:=aj hbr e0;have d1:=aj hbr e1;have d2:=aj hbr e2;have d3:=aj hbr e3;have d4:=aj hbr e4;obtain⟨op,a,b,t,sp⟩:=x;dsimp only at d0 d1 d2 d3 d4 hrow;obtain⟨ps,ck,rfl,_,_⟩:=hrow.form;have bI:=am wr (.cells #[ag op,ag a,ag b,ag t,.slice ps sp.length ck] 179);have hxI:=aE wr (.cells #[ag op,ag a,ag b,ag t,.slice ps sp.length ck] 179);have hbI:=aw hbr bI;have hxr2:=ai bI hxr;have hi0:=GY ⟨op,a,b,t,sp⟩ (.slice ps sp.length ck) j l.length r (wr.alloc (.cells #[ag op,ag a,ag b,ag t,.slice ps sp.length ck] 179)) (hrow.later hbI) (by omega);dsimp only at hi0;have z0:=ak 0 hxr2;by_cases hE:fP ⟨op,a,b,t,sp⟩ j l.length r=0
      ·rw[ax (fun e=>e hE)]at hXr;rw[hE]at hi0;have HX:=a8 hXr;go_wp2_with(refine aQ rfl 179 _ rfl _ rfl _ _ _ _ hxI rJ rfl (by kernel_rfl) ?_)
       refine hi0.mono ?_;rintro e w1 ⟨rfl,hb1⟩;have hbw:=aw hbI hb1;have hxr3:=ai hb1 hxr2;go_wp2_with fail;go_roundw;case rel=>exact⟨j+1,by go_num,by omega,HX.o,hxr3,hbw⟩
       case measure=>simp[intOf];omega
      ·rw[aD hE]at hXr;rw[hXr]at hi0 hE;have hEb:(X==0)=false:=bj.2 hE;have hEn:(X !=0)=true:=(by simpa using hE);go_wp2_with(refine aQ rfl 179 _ rfl _ rfl _ _ _ _ hxI rJ rfl (by kernel_rfl) ?_)
       refine hi0.mono ?_;rintro e w1 ⟨rfl,hb1⟩;have hbw:=aw hbI hb1;go_wp2_with fail;go_ret;exact⟨rfl,hbw⟩
     ·have hlt': ¬(j:Int)<(l.length:Int):=(by omega)
      have HX:PH (X=0):=by
       show _=_;rw[<-hXr,df (by omega)];rfl
      go_wp2_with fail;go_ret;exact⟨by(rw[HX.o])<;>rfl,hbr⟩
   ·rw[bn h3]at c3;rw[aD (fun e=>h3 e.2)]at hX;subst hX;go_enter func152,ntmps152;go_wp2_with fail;refine c1.mono ?_;rintro e w1 ⟨rfl,rfl⟩;go_wp2_with fail;refine c2.mono ?_;rintro e w2 ⟨rfl,rfl⟩;go_wp2_with fail;refine c3.mono ?_;rintro e w3 ⟨rfl,rfl⟩;go_wp2_with fail;go_ret;exact⟨rfl,hbA⟩
  ·rw[bn h2]at c2;rw[aD (fun e=>h2 e.1)]at hX;subst hX;go_enter func152,ntmps152;go_wp2_with fail;refine c1.mono ?_;rintro e w1 ⟨rfl,rfl⟩;go_wp2_with fail;refine c2.mono ?_;rintro e w2 ⟨rfl,rfl⟩;go_wp2_with fail;go_ret;exact⟨rfl,hbA⟩
 ·rw[aD h1]at hX;subst hX;rw[bn (show¬((1:Int)<=(l.length:Int)/\(l.length:Int)<=2000) by omega)]at c1;go_enter func152,ntmps152;go_wp2_with fail;refine c1.mono ?_;rintro e w1 ⟨rfl,rfl⟩;go_wp2_with fail;go_ret;exact⟨rfl,hbA⟩
theorem mc:prog.underlying 95=some (.struct (prog.fieldsOf 95)):=by kernel_rfl
theorem qu {fn:Func}(s:Nat)(h:fn.results= #[ResultVar.cell s 95]){R:Ending->World->Prop}{a:Act}{w:World}(g:Nat)(er at_:Int)(hd:a.defers=[])(h2:a.tmps.getD s undef=ab g 0)
  (hg:w.heap[g]? =ah #[ag er,ag at_] 95) (hR:R (.returned (.agg #[ag er,ag at_])) w):bodyPost prog fn R .ret a w:=by
 refine aW (v:= .agg #[ag er,ag at_]) ?_ hd hR;have h2':a.tmps[s]?.getD undef=ab g 0:=by simpa using h2
 have hv:=dV (P:=prog) w g 95 95 _ _ _ hg mc rfl (by kernel_rfl);simp[results,h,h2',asAddr,hv]
theorem CO (E:Nat->Int)(n j:Nat)(h:j<n):gK E (n-j) j=if E j≠0 then(E j,j) else gK E (n-(j+1)) (j+1):=by
 rw[show n-j=(n-(j+1))+1 by omega];rfl
theorem rK (E:Nat->Int)(n K:Nat)(C:Array Value)(p:Option Addr)(c:Nat)(w:World)(hn:n<9223372036854775808)(eK: ∀args w,(callFunc K args).run prog w= .ok (.enter K args) w)
  (hc: ∀(i:Nat) (wr:World),i<n->aq w wr->Calls prog K (#[ag (i:Int)]++C) wr fun e w'=>e= .returned (ag (E i))/\aq wr w'):
  Calls prog 150 #[.slice p n c,.func (.func K) #[] C] w fun e w'=>e= .returned (.agg #[ag (gK E n 0).1,ag ((gK E n 0).2:Int)])/\aq w w':=by
 have HC:=a8 hc;generalize hX:gK E n 0=X;have HS:PH (gK E (n-0) 0=X):=hX;have hb0:=am w (.cells #[ag 0,ag 0] 95);have hr0:=aE w (.cells #[ag 0,ag 0] 95);generalize hwA:w.alloc (.cells #[ag 0,ag 0] 95)=wA at*;go_enter func150,ntmps150;go_wp2_with fail;go_loopw [9] (fun t wr=> ∃j:Nat,t=ag (j:Int)/\j<=n/\gK E (n-j) j=X/\wr.heap[w.heap.size]? =ah #[ag 0,ag 0] 95/\aq w wr) (fun t _=>n-(intOf t).toNat);case atStart=>exact⟨0,rfl,by omega,HS.o,hr0,hb0⟩
 case round=>
  obtain⟨j,rfl,hj,hXr,hrr,hbr⟩:=hrel;have hj0:(0:Int)<=(j:Int):=(by omega);by_cases hlt:j<n
  ·have hlt':(j:Int)<(n:Int):=(by omega);have hc:=HC.o j wr hlt hbr;rw[CO E n j hlt]at hXr;by_cases hE:E j=0
   ·rw[ax (fun e=>e hE)]at hXr;rw[hE]at hc;have HX:=a8 hXr;go_wp2_with fail;refine hc.mono ?_;rintro e w1 ⟨rfl,hb1⟩;have hbw:=aw hbr hb1;have hrr3:=ai hb1 hrr;go_wp2_with fail;go_roundw;case rel=>exact⟨j+1,by go_num,by omega,HX.o,hrr3,hbw⟩
    case measure=>simp[intOf];omega
   ·rw[aD hE]at hXr;have HX:=a8 hXr;generalize E j=q at*;have hEb:(q==0)=false:=bj.2 hE;have hEn:(q !=0)=true:=(by simpa using hE);go_wp2_with fail;refine hc.mono ?_;rintro e w1 ⟨rfl,hb1⟩;have hbw:=aw hbr hb1;have hrr3:=ai hb1 hrr;have hrr:=hrr3;go_wp2_with(refine ay rfl 95 _ _ rfl _ _ rfl rfl _ _ hrr (by kernel_rfl) (by simp) (by simp[Value.oneCell']) ?_)
    exact qu 4 (by kernel_rfl) w.heap.size q (j:Int) rfl rfl (aL _ _ _ _ _ _ hrr) ⟨by rw[<-HX.o],below_setRow hbw (aB _) _⟩
  ·have hlt': ¬(j:Int)<(n:Int):=(by omega)
   have HX:PH (X=(0,0)):=by
    show _=_;rw[<-hXr,show n-j=0 by omega];rfl
   go_wp2_with(refine ay rfl 95 _ _ rfl _ _ rfl rfl _ _ hrr (by kernel_rfl) (by simp) (by simp[Value.oneCell']) ?_)
   exact qu 4 (by kernel_rfl) w.heap.size 0 0 rfl rfl (aL _ _ _ _ _ _ hrr) ⟨by(rw[HX.o])<;>rfl,below_setRow hbr (aB _) _⟩
theorem EQ (cs:List Cd)(lv:Value)(gl ri:Nat)(w:World)(h:InV w lv cs)(hl:w.cell? (ae gl 0)=some lv)(hri:ri<cs.length):
  Calls prog 151 #[ag (ri:Int),ab gl 0] w fun e w'=>e= .returned (ag (aloneE (cs.getD ri cd0) cs.length))/\aq w w':=by
 obtain⟨p,cp,rfl,hlen,hc⟩:=h.form;obtain⟨u,hiu⟩: ∃u,cs[ri]? =some u:=⟨cs[ri],az hri⟩
 obtain⟨sv,hin,g,o,rfl,e0,e1,e2⟩:=hc ri u hiu;rw[je hiu];have HA:PH (∀W,aq w W->Calls prog 152 #[.agg #[sv,ag u.high,ag u.steps],ag (cs.length:Int)] W fun e w'=>e= .returned (ag (aloneE u cs.length))/\aq W w'):=fun W hW=>EP u sv cs.length W (hin.below hW);generalize aloneE u cs.length=q at*;obtain⟨ul,hi,st⟩:=u;dsimp only at e1 e2 HA;have hi0:(0:Int)<=(ri:Int):=by omega
 have hi1:(ri:Int)<(cs.length:Int):=by omega
 go_enter func151,ntmps151;go_wp2_with fail;refine dn (fun _ _ W=>aq w W) [kn 4 (.slice (some (ae g o)) cs.length cp),kn 5 (ag (ri:Int)),kn 6 (ab g (o+ri*3)),kn 7 (.agg #[sv,ag hi,ag st]),kn 8 (.slice (some (ae g o)) cs.length cp),kn 9 (ag (cs.length:Int)),kn 10 (ag q),kn 3 (ag q)] (fun _=>(aI _ _).drew) (fun _ _ _ _ hb h=>aw h hb) (by kernel_rfl) (fun M φ W hJ hcl F l hl' hF=> ?_) (fun M φ W hM hJ=> ?_)
 ·simp only[kn,dX,aR,aX,Act.put,aA,aK,aJ]at hl';subst hl';simp only[dc,Nat.reduceAdd]at hF;have z:=aj hJ hl;have f0:=aj hJ e0;have f1:=aj hJ e1;have f2:=aj hJ e2;dsimp only[kn,dC,eJ,eg,Act.put];and_intros;all_goals first|exact trivial|intro hw hn hm K hK
  all_goals try (go_simp;with_reducible exact hK _ _ ⟨rfl,aI _ _⟩)
  go_simp;refine(HA.o W hJ).mono ?_;rintro e' W' ⟨rfl,hb'⟩;exact hK _ _ ⟨rfl,hb'⟩
 ·simp only[kn,en,aR,aX,Act.put,aA,aK,aJ];go_wp2_with fail;go_ret;exact⟨rfl,hJ⟩
theorem LJ (f:Nat->Bool)(n:Nat)(hn:n<64):(bits BinOp.and IntKind.u64 ((wd f 0:Int)/2^n) 1==1)=f n:=by
 have e1:((wd f 0:Int)/2^n)=((wd f 0/2^n:Nat):Int):=by push_cast;rfl
 have hlt:wd f 0/2^n<18446744073709551616:=Nat.lt_of_le_of_lt (Nat.div_le_self _ _) (gZ f 0)
 have e2:bits BinOp.and IntKind.u64 ((wd f 0/2^n:Nat):Int) 1=((wd f 0/2^n&&&1:Nat):Int):=by
  have:=bits_and_u64_nat (wd f 0/2^n) 1 hlt (by decide);exact this
 rw[e1,e2,Nat.and_one_is_mod];have hb:=jv f 0 n;rw[bm hn,ja,Nat.mul_zero,bN]at hb
 have h3:(wd f 0).testBit n=decide ((wd f 0/2^n)%2=1):=by
  rw[Nat.testBit_eq_decide_div_mod_eq]
 rw[<-hb,h3];have:wd f 0/2^n%2=0\/wd f 0/2^n%2=1:=by omega
 rcases this with h|h
 ·rw[h];rfl
 ·rw[h];rfl
theorem Dy (f:Nat->Bool)(n:Nat)(hn:n<64)(w:World):Calls prog 155 #[.int .u64 (wd f 0:Int),ag (n:Int)] w fun e w'=>e= .returned (.bool (f n))/\w'=w:=by
 have h0:(0:Int)<=(n:Int):=by omega
 have h1:(n:Int)<64:=by omega
 have HB:=a8 (LJ f n hn);go_enter func155,ntmps155;go_wp2_with fail;go_ret;exact⟨congrArg (fun b=>Ending.returned (.bool b)) HB.o,rfl⟩
theorem Bx (x:In)(w:World):Calls prog 209 #[ag x.op] w fun e w'=>e= .returned (.tuple #[ag (tk x),ag (tk x+eff x)])/\w'=w:=by
 obtain⟨op,a,b,t,sp⟩:=x;unfold tk eff;dsimp only;by_cases h1:op=1
 ·subst h1;go_enter func209,ntmps209;go_wp2_with fail;exact aW (v:= .tuple #[ag 0,ag 1]) (by simp[results,results209,go_sem]) rfl ⟨rfl,rfl⟩
 by_cases h8:op=8
 ·subst h8;go_enter func209,ntmps209;go_wp2_with fail;exact aW (v:= .tuple #[ag 0,ag 1]) (by simp[results,results209,go_sem]) rfl ⟨rfl,rfl⟩
 by_cases h5:op=5
 ·subst h5;go_enter func209,ntmps209;go_wp2_with fail;exact aW (v:= .tuple #[ag 1,ag 1]) (by simp[results,results209,go_sem]) rfl ⟨rfl,rfl⟩
 by_cases h2:op=2
 ·subst h2;go_enter func209,ntmps209;go_wp2_with fail;exact aW (v:= .tuple #[ag 2,ag 1]) (by simp[results,results209,go_sem]) rfl ⟨rfl,rfl⟩
 by_cases h3:op=3
 ·subst h3;go_enter func209,ntmps209;go_wp2_with fail;exact aW (v:= .tuple #[ag 2,ag 1]) (by simp[results,results209,go_sem]) rfl ⟨rfl,rfl⟩
 by_cases h4:op=4
 ·subst h4;go_enter func209,ntmps209;go_wp2_with fail;exact aW (v:= .tuple #[ag 2,ag 1]) (by simp[results,results209,go_sem]) rfl ⟨rfl,rfl⟩
 rw[ax h5,ax (by omega),ax (by omega),ax (by omega)];have b1:(op==1)=false:=bj.2 h1;have b2:(op==2)=false:=bj.2 h2;have b3:(op==3)=false:=bj.2 h3;have b4:(op==4)=false:=bj.2 h4;have b5:(op==5)=false:=bj.2 h5;have b8:(op==8)=false:=bj.2 h8;go_enter func209,ntmps209;go_wp2_with fail;exact aW (v:= .tuple #[ag 0,ag 0]) (by simp[results,results209,go_sem]) rfl ⟨rfl,rfl⟩
def iG (n:Nat)(R:Nat->Nat->Bool):Array Value:=((List.range n).map fun i=>Value.int .u64 (wd (R i) 0:Int)).toArray
theorem zn {n:Nat}{R:Nat->Nat->Bool}{i:Nat}(h:i<n):(iG n R)[i]? =some (.int .u64 (wd (R i) 0:Int)):=by
 simp[iG,h]
theorem ER {n:Nat}{R R':Nat->Nat->Bool}(h: ∀i k,i<n->k<64->R i k=R' i k):iG n R=iG n R':=by
 unfold iG;congr 1;apply List.map_congr_left;intro i hi;rw[mP fun j hj=> ?_];rw[Nat.mul_zero,bN];exact h i j (jg.1 hi) hj
def pt (R:Nat->Nat->Bool)(i:Nat)(f:Nat->Bool):Nat->Nat->Bool:=fun r k=>if r=i then f k else R r k
theorem ES {n:Nat}{R:Nat->Nat->Bool}{i:Nat}{f:Nat->Bool}:(iG n R).setIfInBounds i (.int .u64 (wd f 0:Int))=iG n (pt R i f):=by
 apply Array.ext
 ·simp[iG]
 ·intro k h1 h2;have hk:k<n:=(by simpa[iG] using h2);rw[Array.getElem_setIfInBounds (by simpa[iG] using hk)];by_cases e:i=k
  ·subst e;have hu:pt R i f i=f:=(by funext q;simp[pt]);simp[iG,hu]
  ·rw[ax e];have hu:pt R i f k=R k:=(by funext q;simp[pt,show k≠i from fun h=>e h.symm]);simp[iG,hu]
theorem CP (n:Nat):madeCells #[Value.int .u64 0] n=iG n (fun _ _=>false):=by
 apply Array.ext
 ·simp[iG,madeCells]
 ·intro k h1 h2;simp[iG,madeCells,Nat.mod_one,Dm]
structure UcM (w:World)(n:Nat)(R:Nat->Nat->Bool)(W:World):Prop where
 bel:aq w W
 row:W.heap[w.heap.size]? =ah (iG n R) 84
theorem UcM.below {w W W':World}{n:Nat}{R:Nat->Nat->Bool}(h:UcM w n R W)(hb:aq W W'):UcM w n R W':=
 ⟨aw h.bel hb,ai hb h.row⟩
theorem UcM.same {w W:World}{n:Nat}{R R':Nat->Nat->Bool}(h:UcM w n R W)(he: ∀i k,i<n->k<64->R i k=R' i k):UcM w n R' W:=
 ⟨h.bel,by rw[h.row,ER he]⟩
theorem UcM.cell {w W:World}{n:Nat}{R:Nat->Nat->Bool}(h:UcM w n R W){i:Nat}(hi:i<n):W.cell? (ae w.heap.size i)=some (.int .u64 (wd (R i) 0:Int)):=(aZ _ _ i _ _ _ h.row).trans (zn hi)
theorem UcM.frz {w W:World}{n:Nat}{R:Nat->Nat->Bool}(h:UcM w n R W)(i:Nat):W.frozen? (ae w.heap.size i)=false:=bl _ _ i _ _ h.row
theorem UcM.set {w W:World}{n:Nat}{R:Nat->Nat->Bool}(h:UcM w n R W)(i:Nat)(f:Nat->Bool):UcM w n (pt R i f) (W.setCell ⟨w.heap.size,i,none⟩ (.int .u64 (wd f 0:Int))):=by
 refine⟨h.bel.setCell (aB _) _,?_⟩;rw[<-ES];exact aY W w.heap.size i _ _ _ h.row
theorem Ni (f:Nat->Bool)(a:Nat)(ha:a<64):bits BinOp.or IntKind.u64 (wd f 0:Int) (IntKind.u64.wrap (2^a))=(wd (fun k=>f k||decide (k=a)) 0:Int):=by
 have hp:(2:Nat)^a<18446744073709551616:=by
  have:=Nat.pow_lt_pow_right (a:=2) (by omega) ha;simpa using this
 have e1:IntKind.u64.wrap ((2:Int)^a)=((2^a:Nat):Int):=by
  rw[gQ];have:((2:Int)^a)=((2^a:Nat):Int):=(by push_cast;rfl);rw[this];generalize (2^a:Nat)=y at*;omega
 rw[e1,bits_or_u64_nat _ _ (gZ f 0) hp];congr 1;refine mO _ 0 _ (Nat.or_lt_two_pow (n:=64) (gZ f 0) hp) fun j hj=> ?_;rw[Nat.testBit_or,jv,bm hj,ja,Nat.mul_zero,bN,Nat.testBit_two_pow];congr 1;by_cases e:a=j
 ·simp[e]
 ·simp[e,show¬j=a from fun h=>e h.symm]
theorem LK (f g:Nat->Bool):bits BinOp.or IntKind.u64 (wd f 0:Int) (wd g 0:Int)=(wd (fun k=>f k||g k) 0:Int):=by
 rw[bits_or_u64_nat _ _ (gZ f 0) (gZ g 0),AB]
def cE (cs:List Cd)(i j:Nat):Nat->Nat->Bool:=fun r k=>if r<i then gj cs r k else if r=i then(((cs.getD i cd0).ins.take j).any fun x=>decide (x.op=8)&&decide (x.a=(k:Int))) else false
theorem Nj (cs:List Cd):cE cs 0 0=fun _ _=>false:=by
 funext r k;unfold cE;rw[ax (by omega)];split<;>simp
theorem LL {cs:List Cd}{i j an:Nat}{x:In}(hx:(cs.getD i cd0).ins[j]? =some x)(ho:x.op=8)(ha:x.a=(an:Int))(r k:Nat):pt (cE cs i j) i (fun k=>cE cs i j i k||decide (k=an)) r k=cE cs i (j+1) r k:=by
 unfold pt;by_cases e:r=i
 ·subst e;rw[aD rfl];show(cE cs r j r k||decide (k=an))=cE cs r (j+1) r k;unfold cE;rw[ax (by omega),aD rfl,ax (by omega),aD rfl,fD,hx,Option.toList_some,List.any_append];simp only[List.any_cons,List.any_nil,Bool.or_false,ho,ha,decide_true,ja];congr 1;by_cases h:k=an
  ·simp[h]
  ·have h2: ¬(an:Int)=(k:Int):=(by omega);simp[h,h2]
 ·rw[ax e];unfold cE;by_cases h:r<i
  ·rw[aD h,aD h]
  ·rw[ax h,ax h,ax e,ax e]
theorem LM {cs:List Cd}{i j:Nat}{x:In}(hx:(cs.getD i cd0).ins[j]? =some x)(ho:x.op≠8):cE cs i j=cE cs i (j+1):=by
 funext r k;unfold cE;rw[fD,hx,Option.toList_some,List.any_append];simp[ho]
theorem Nk {cs:List Cd}{i j:Nat}(hj:(cs.getD i cd0).ins.length<=j):cE cs i j=cE cs (i+1) 0:=by
 funext r k;unfold cE;rw[cj hj];by_cases h:r<i
 ·rw[aD h,aD (by omega)]
 ·rw[ax h];by_cases e:r=i
  ·rw[aD e,aD (by omega)];subst e;rfl
  ·rw[ax e,ax (by omega)];split<;>simp
def wE (E:Nat->Nat->Bool)(m i:Nat):Nat->Nat->Bool:=fun r k=>if r<i then wars E (m+1) r k else wars E m r k
theorem GZ (E:Nat->Nat->Bool)(m k:Nat):wars E (m+1) m k=wars E m m k:=by
 simp only[wars];cases wars E m m k<;>simp
theorem OA (E:Nat->Nat->Bool)(m i k:Nat):wE E m i m k=wars E m m k:=by
 unfold wE;split
 ·exact GZ E m k
 ·rfl
theorem By (E:Nat->Nat->Bool)(m i k:Nat):wE E m i i k=wars E m i k:=ax (by omega)
theorem Nl {E:Nat->Nat->Bool}{m i:Nat}(h:wE E m i i m=true)(r k:Nat):pt (wE E m i) i (fun k=>wE E m i i k||wE E m i m k) r k=wE E m (i+1) r k:=by
 unfold pt;rw[By]at h;by_cases e:r=i
 ·subst e;rw[aD rfl];show(wE E m r r k||wE E m r m k)=_;rw[By,OA];unfold wE;rw[aD (by omega)];simp only[wars,h,ja]
 ·rw[ax e];unfold wE;by_cases h:r<i
  ·rw[aD h,aD (by omega)]
  ·rw[ax h,ax (by omega)]
theorem OB {E:Nat->Nat->Bool}{m i:Nat}(h:wE E m i i m=false)(r k:Nat):wE E m i r k=wE E m (i+1) r k:=by
 rw[By]at h;unfold wE;by_cases e:r=i
 ·subst e;rw[ax (by omega),aD (by omega)];simp only[wars,h,Bool.false_and,Bool.or_false]
 ·by_cases h:r<i
  ·rw[aD h,aD (by omega)]
  ·rw[ax h,ax (by omega)]
def EA (cs:List Cd)(w:World)(t:Value)(wr:World):Prop:= ∃i:Nat,t=ag (i:Int)/\i<=cs.length/\UcM w cs.length (cE cs i 0) wr
def EB (cs:List Cd)(i n:Nat)(w:World)(t:Value)(wr:World):Prop:= ∃j:Nat,t=ag (j:Int)/\j<=n/\UcM w cs.length (cE cs i j) wr
def EC (cs:List Cd)(w:World)(t:Value)(wr:World):Prop:= ∃m:Nat,t=ag (m:Int)/\m<=cs.length/\UcM w cs.length (wE (gj cs) m 0) wr
def ED (cs:List Cd)(m:Nat)(w:World)(t:Value)(wr:World):Prop:= ∃i:Nat,t=ag (i:Int)/\i<=cs.length/\UcM w cs.length (wE (gj cs) m i) wr
def OC (cs:List Cd)(w:World)(e:Ending)(w':World):Prop:=e= .returned (.slice (some (ae w.heap.size 0)) cs.length cs.length)/\UcM w cs.length (wars (gj cs) cs.length) w'
theorem LN:(prog.info? 84).map (fun i=>(i.zero,i.size,i.bytes))=some (some (.int .u64 0),1,8):=by kernel_rfl
theorem JD:prog.underlying 234=some (.slice 84):=by kernel_rfl
theorem Bz (cs:List Cd)(lv:Value)(w:World)(h:InV w lv cs)(h40:cs.length<=40)(hok: ∀(i:Nat) (c:Cd),cs[i]? =some c->aloneE c cs.length=0):Calls prog 153 #[lv] w (OC cs w):=by
 obtain⟨p,cp,rfl,hlen,hc⟩:=h.form;have HC:=a8 hc;have HK:=a8 hok;have hmk:=run_make_row' (P:=prog) 234 84 (.int .u64 0) 8 JD LN rfl .i64 .i64 cs.length (by omega) (by omega);rw[CP]at hmk;have bA:=am w (.cells (iG cs.length (fun _ _=>false)) 84);have hst:UcM w cs.length (cE cs 0 0) (w.alloc (.cells (iG cs.length (fun _ _=>false)) 84)):=⟨bA,by rw[Nj];exact aE w _⟩
 have hI40:(cs.length:Int)<=40:=by omega
 have hI0:(0:Int)<=(cs.length:Int):=by omega
 generalize hwA:w.alloc (.cells (iG cs.length (fun _ _=>false)) 84)=wA at*;go_enter func153,ntmps153;go_wp2_with fail;go_loopw [15] (fun t wr=>EA cs w t wr) (fun t _=>cs.length-(intOf t).toNat);case atStart=>exact⟨0,rfl,by omega,hst⟩
 case round=>
  obtain⟨ri,rfl,hi,hsA⟩:=hrel;have hi0:(0:Int)<=(ri:Int):=(by omega);by_cases hlt:ri<cs.length
  ·have hlt':(ri:Int)<(cs.length:Int):=(by omega);obtain⟨u,hiu⟩: ∃u,cs[ri]? =some u:=⟨cs[ri],az hlt⟩
   obtain⟨sv,hin,g,o,hpe,c0,c1,c2⟩:=HC.o ri _ hiu;have hcd:=je hiu;have hal:=jx (HK.o ri _ hiu);obtain⟨ul,hi,st⟩:=u;dsimp only at hin c0 c1 c2 hal;obtain⟨pu,cu,rfl,hlu,hcu⟩:=hin.form;subst hpe;have d0:=aj hsA.bel c0;have d1:=aj hsA.bel c1;have d2:=aj hsA.bel c2;have bI:=am wr (.cells #[.slice pu ul.length cu,ag hi,ag st] 142);have hsB:=hsA.below bI;have hxC:=aE wr (.cells #[.slice pu ul.length cu,ag hi,ag st] 142);have zc:=ak 0 hxC;generalize hwC:wr.alloc (.cells #[.slice pu ul.length cu,ag hi,ag st] 142)=wC at*;have hul0:(0:Int)<=(ul.length:Int):=(by omega);have hul1:ul.length<=2000:=hal.1.2;have HAL:=a8 hal.2.2;have HCD:=a8 hcd;have HCU:=a8 hcu;have HSB:=a8 hsB;go_wp2_with fail;have hsB:=HSB.o;go_loopw [23] (fun t wr=>EB cs ri ul.length w t wr) (fun t _=>ul.length-(intOf t).toNat);case atStart=>exact⟨0,rfl,by omega,hsB⟩
   case round=>
    obtain⟨j,rfl,hj,hst⟩:=hrel;have hj0:(0:Int)<=(j:Int):=(by omega);by_cases hltj:j<ul.length
    ·have hltj':(j:Int)<(ul.length:Int):=(by omega);obtain⟨x,hjx⟩: ∃x,ul[j]? =some x:=⟨ul[j],az hltj⟩
     obtain⟨sk,hrow,g2,o2,hpe,e0,e1,e2,e3,e4⟩:=HCU.o j _ hjx;subst hpe;have hie:=HAL.o j _ hjx;have hjx':(cs.getD ri cd0).ins[j]? =some x:=(by rw[HCD.o];exact hjx);have d0:=aj hst.bel e0;have d1:=aj hst.bel e1;have d2:=aj hst.bel e2;have d3:=aj hst.bel e3;have d4:=aj hst.bel e4;have hcall:x.op=8->0<=x.a/\x.a<cs.length:=fun ho=>vH hie ho;obtain⟨op,a,b,t,sp⟩:=x;dsimp only at d0 d1 d2 d3 d4 hrow hcall;obtain⟨ps,ck,rfl,_,_⟩:=hrow.form;have bI:=am wr (.cells #[ag op,ag a,ag b,ag t,.slice ps sp.length ck] 179);have hxI:=aE wr (.cells #[ag op,ag a,ag b,ag t,.slice ps sp.length ck] 179);have z0:=ak 0 hxI;have z1:=ak 1 hxI;have hst1:=hst.below bI;by_cases ho:op=8
     ·subst ho;obtain⟨a0,a1⟩:=hcall rfl;obtain⟨an,rfl⟩: ∃an:Nat,a=(an:Int):=⟨a.toNat,by omega⟩
      have han:an<64:=(by omega);have ha0:(0:Int)<=(an:Int):=(by omega);have ha1:(an:Int)<64:=(by omega);have HNX:PH (∀W,UcM w cs.length (pt (cE cs ri j) ri (fun k=>cE cs ri j ri k||decide (k=an))) W->EB cs ri ul.length w (ag ((j+1:Nat):Int)) W):=fun W hW=>⟨j+1,rfl,by omega,hW.same fun r k _ _=>LL hjx' rfl rfl r k⟩
      have hst:=hst1;generalize cE cs ri j=St at*;have HOR:=a8 (Ni (St ri) an han);have rc:=hst.cell hlt;generalize hwI:wr.alloc (.cells #[ag 8,ag (an:Int),ag b,ag t,.slice ps sp.length ck] 179)=wI at*;go_wp2_with fail;obtain⟨gx,hgx⟩:=au wr.heap.size;rw[hgx]at z1;simp only[hgx];have zx:=z1;refine jO 9 [kn 30 (.slice (some (ae w.heap.size 0)) cs.length cs.length),kn 31 (ag (ri:Int)),kn 32 (ab w.heap.size ri),kn 33 (.int .u64 (wd (St ri) 0:Int)),kn 34 (ab gx 1),kn 35 (ag (an:Int)),kn 36 (.int .u64 (IntKind.u64.wrap (2^an))),kn 37 (.int .u64 (wd (fun k=>St ri k||decide (k=an)) 0:Int)),kn 38 (ab w.heap.size ri),nk] (by kernel_rfl) (by kernel_rfl) fun M φ W _ hJ F l hl hF=> ?_;have y0_:=aj hJ rc;have y1_:=aj hJ zx;have y2_:=HOR.o;simp only[kn,nk,dX,aR,aX,Act.put,aA,aK,aJ]at hl;subst hl;simp only[dc,Nat.reduceAdd]at hF;dsimp only[kn,nk,dC,eJ,eg,Act.put];and_intros;all_goals first|exact trivial|intro hw hn hm K hK
      all_goals try (go_simp;with_reducible exact hK _ _ ⟨rfl,aI _ _⟩)
      have hW:=(hst.below hJ).set ri (fun k=>St ri k||decide (k=an));have z:=aj hJ rc;have y:=(hst.below hJ).frz ri;have HN:=a8 (HNX.o _ hW);go_simp;refine hK undef _ ⟨trivial,fun c=>by simp at c,fun _=> ?_⟩;simp only[en,aR,aX,Act.put,aA,aK,aJ];go_wp2_with fail;go_roundw
      case rel=>first
       |exact HN.o
       |((repeat apply iO);exact⟨HN.o,rfl⟩)
      case measure=>simp[intOf];omega
     ·have hob:(op==8)=false:=bj.2 ho;have HN:PH (EB cs ri ul.length w (ag ((j+1:Nat):Int)) (wr.alloc (.cells #[ag op,ag a,ag b,ag t,.slice ps sp.length ck] 179))):=⟨j+1,rfl,by omega,by rw[<-LM hjx' ho];exact hst1⟩
      generalize hwI:wr.alloc (.cells #[ag op,ag a,ag b,ag t,.slice ps sp.length ck] 179)=wI at*;go_wp2_with fail;go_roundw
      case rel=>first
       |exact HN.o
       |((repeat apply iO);exact⟨HN.o,rfl⟩)
      case measure=>simp[intOf];omega
    ·have hltj': ¬(j:Int)<(ul.length:Int):=(by omega);have HN:PH (EA cs w (ag ((ri+1:Nat):Int)) wr):=⟨ri+1,rfl,by omega,by rw[<-Nk (j:=j) (by rw[HCD.o];show ul.length<=j;omega)];exact hst⟩
     go_wp2_with fail;go_roundw
     case rel=>first
      |exact HN.o
      |((repeat apply iO);exact⟨HN.o,rfl⟩)
     case measure=>simp[intOf];omega
  ·have hlt': ¬(ri:Int)<(cs.length:Int):=(by omega)
   have hsC:UcM w cs.length (wE (gj cs) 0 0) wr:=hsA.same fun r k hr _=>by
    unfold cE wE;rw[aD (by omega),ax (by omega)];rfl
   have HSC:=a8 hsC;go_wp2_with fail;have hst:=HSC.o;go_loopw [43] (fun t wr=>EC cs w t wr) (fun t _=>cs.length-(intOf t).toNat);case atStart=>exact⟨0,rfl,by omega,hst⟩
   case round=>
    obtain⟨m,rfl,hm,hsM⟩:=hrel;have hm0:(0:Int)<=(m:Int):=(by omega);by_cases hltm:m<cs.length
    ·have hltm':(m:Int)<(cs.length:Int):=(by omega);have HSM:=a8 hsM;go_wp2_with fail;have hsM:=HSM.o;go_loopw [48] (fun t wr=>ED cs m w t wr) (fun t _=>cs.length-(intOf t).toNat);case atStart=>exact⟨0,rfl,by omega,hsM⟩
     case round=>
      obtain⟨ri,rfl,hi,hst⟩:=hrel;have hr0:(0:Int)<=(ri:Int):=(by omega);by_cases hltr:ri<cs.length
      ·have hltr':(ri:Int)<(cs.length:Int):=(by omega);have rc:=hst.cell hltr;have rm:=hst.cell hltm;have cH:=Dy (wE (gj cs) m ri ri) m (by omega) wr;cases hb:wE (gj cs) m ri ri m with
       |true=>
        rw[hb]at cH;have HNX:PH (∀W,UcM w cs.length (pt (wE (gj cs) m ri) ri (fun k=>wE (gj cs) m ri ri k||wE (gj cs) m ri m k)) W->ED cs m w (ag ((ri+1:Nat):Int)) W):=fun W hW=>⟨ri+1,rfl,by omega,hW.same fun r k _ _=>Nl hb r k⟩
        generalize wE (gj cs) m ri=St at*;have HOR:=a8 (LK (St ri) (St m));go_wp2_with fail;refine cH.mono ?_;rintro e w1 ⟨rfl,rfl⟩;go_wp2_with fail;refine jO 10 [kn 57 (.slice (some (ae w.heap.size 0)) cs.length cs.length),kn 58 (ag (ri:Int)),kn 59 (ab w.heap.size ri),kn 60 (.int .u64 (wd (St ri) 0:Int)),kn 61 (.slice (some (ae w.heap.size 0)) cs.length cs.length),kn 62 (ag (m:Int)),kn 63 (ab w.heap.size m),kn 64 (.int .u64 (wd (St m) 0:Int)),kn 65 (.int .u64 (wd (fun k=>St ri k||St m k) 0:Int)),kn 66 (ab w.heap.size ri),nk] (by kernel_rfl) (by kernel_rfl) fun M φ W _ hJ F l hl hF=> ?_;have y0_:=aj hJ rc;have y1_:=aj hJ rm;have y2_:=HOR.o;simp only[kn,nk,dX,aR,aX,Act.put,aA,aK,aJ]at hl;subst hl;simp only[dc,Nat.reduceAdd]at hF;dsimp only[kn,nk,dC,eJ,eg,Act.put];and_intros;all_goals first|exact trivial|intro hw hn hm K hK
        all_goals try (go_simp;with_reducible exact hK _ _ ⟨rfl,aI _ _⟩)
        have hW:=(hst.below hJ).set ri (fun k=>St ri k||St m k);have z:=aj hJ rc;have y:=(hst.below hJ).frz ri;have HN:=a8 (HNX.o _ hW);go_simp;refine hK undef _ ⟨trivial,fun c=>by simp at c,fun _=> ?_⟩;simp only[en,aR,aX,Act.put,aA,aK,aJ];go_wp2_with fail;go_roundw
        case rel=>first
         |exact HN.o
         |((repeat apply iO);exact⟨HN.o,rfl⟩)
        case measure=>simp[intOf];omega
       |false=>
        rw[hb]at cH;have HN:PH (ED cs m w (ag ((ri+1:Nat):Int)) wr):=⟨ri+1,rfl,by omega,hst.same fun r k _ _=>OB hb r k⟩
        generalize wE (gj cs) m ri=St at*;go_wp2_with fail;refine cH.mono ?_;rintro e w1 ⟨rfl,rfl⟩;go_wp2_with fail;go_roundw
        case rel=>first
         |exact HN.o
         |((repeat apply iO);exact⟨HN.o,rfl⟩)
        case measure=>simp[intOf];omega
      ·have hltr': ¬(ri:Int)<(cs.length:Int):=(by omega)
       have HN:PH (EC cs w (ag ((m+1:Nat):Int)) wr):=⟨m+1,rfl,by omega,hst.same fun r k hr _=>by
        unfold wE;rw[aD (by omega),ax (by omega)]⟩
       go_wp2_with fail;go_roundw
       case rel=>first
        |exact HN.o
        |((repeat apply iO);exact⟨HN.o,rfl⟩)
       case measure=>simp[intOf];omega
    ·have hltm': ¬(m:Int)<(cs.length:Int):=(by omega)
     have HN:PH (UcM w cs.length (wars (gj cs) cs.length) wr):=by
      show UcM _ _ _ _;have e:m=cs.length:=(by omega);subst e;exact hsM.same fun r k _ _=>(by unfold wE;rw[ax (by omega)])
     go_wp2_with fail;go_ret;exact⟨rfl,HN.o⟩
namespace Vx
section
variable {cs:List Cd} {l:List In}
theorem xm (x:In): -1<=eff x/\eff x<=1:=by
 unfold eff;split
 ·omega
 ·split<;>omega
theorem OD (x:In):0<=tk x/\tk x<=2:=by
 unfold tk;split
 ·omega
 ·split<;>omega
theorem mW: ∀j:Nat,-(j:Int)<=hAt l j/\hAt l j<=j
 |0=>by simp[hAt]
 |j+1=>by
  have h1:=mW j;have h2:=xm (l.getD j in0);simp only[hAt];omega
theorem rL (hh: ∀i,(cs.getD i cd0).high<=100): ∀j:Nat,0<=mxH cs l j/\mxH cs l j<=j+100
 |0=>by simp[mxH]
 |j+1=>by
  have h1:=rL hh j;have h2:=mW (l:=l) j;have h3:=mW (l:=l) (j+1);have h4:=hh (l.getD j in0).a.toNat;simp only[mxH];split<;>omega
theorem rN (h0: ∀i,0<=(cs.getD i cd0).steps/\(cs.getD i cd0).steps<=20000): ∀j:Nat,(j:Int)<=stS cs l j/\stS cs l j<=j*20001
 |0=>by simp[stS]
 |j+1=>by
  have h1:=rN h0 j;have h4:=h0 (l.getD j in0).a.toNat;simp only[stS];split<;>omega
theorem LO (h: ∀(i:Nat) (c:Cd),cs[i]? =some c->aloneE c cs.length=0)(i:Nat):(cs.getD i cd0).high<=100:=by
 cases hi:cs[i]? with
 |none=>simp[List.getD,hi,cd0]
 |some c=>
  rw[je hi];have:=(jx (h i c hi)).2.1;omega
theorem JE (h: ∀(i:Nat) (c:Cd),cs[i]? =some c->aloneE c cs.length=0)(i:Nat):0<=(cs.getD i cd0).steps/\(cs.getD i cd0).steps<=20000:=by
 cases hi:cs[i]? with
 |none=>simp[List.getD,hi,cd0]
 |some c=>
  rw[je hi];have:=(jx (h i c hi)).2.1;omega
def agB (L:List (Int×Int))(p h:Int):Bool:=match lk L p with
 |none=>true
 |some v=>decide (v=h)
theorem sh {L:List (Int×Int)}{p h:Int}(e:agB L p h=true): ∀v,lk L p=some v->v=h:=fun v hv=>by
 unfold agB at e;rw[hv]at e;simpa using e
theorem qK {L:List (Int×Int)}{p h:Int}(e:agB L p h=false): ∃v,lk L p=some v/\v≠h:=by
 unfold agB at e;cases hl:lk L p with
 |none=>rw[hl]at e;cases e
 |some v=>rw[hl]at e;exact⟨v,rfl,by simpa using e⟩
theorem LP {L:List (Int×Int)}{p h:Int}:agB L p h=true↔ ∀v,lk L p=some v->v=h:=by
 constructor
 ·exact sh
 ·intro hh;cases e:agB L p h with
  |true=>rfl
  |false=>
   obtain⟨v,h1,h2⟩:=qK e;exact absurd (hh v h1) h2
end
end Vx
end Go.Proofs.YtkfidffapdhbhaaGreatDoor
