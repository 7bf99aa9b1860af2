/- Texts of the proof. -/
import Derived.Test.YtjkilacmkbmmbaaGreatDoorPe05
import Derived.Test.YtjkilacmkbmmbaaGreatDoorPe01
import Derived.Laws.EntriesVeiled
import Derived.Deep.OwnRows
set_option maxRecDepth 100000
set_option maxHeartbeats 8000000
namespace Go.Proofs.YtjkilacmkbmmbaaGreatDoor
open Go.Proofs.Tryz Go.RowKit Lx Vx Mx Msk
theorem rE:prog.underlying 234=some (.struct (prog.fieldsOf 234)):=by kernel_rfl
def nmD (op a b:Int):Bool:=if op=6 then decide (1<=a/\a<=127) else decide (0<=a/\a<=b/\b<146097)
theorem sP (op a b t:Int)(sv:Value)(w:World):Calls prog 242 #[.agg #[ag op,ag a,ag b,ag t,sv]] w fun r w'=>r= .returned (.bool (nmD op a b))/\ao w w':=by
 have hbA:=am w (.cells #[ag op,ag a,ag b,ag t,sv] 234);have hxA:=aC w (.cells #[ag op,ag a,ag b,ag t,sv] 234);generalize hwA:w.alloc (.cells #[ag op,ag a,ag b,ag t,sv] 234)=wA at*;have z0:=ak 0 hxA;have z1:=ak 1 hxA;have z2:=ak 2 hxA;have z3:=ak 3 hxA;have z4:=ak 4 hxA;by_cases h6:op=6
 ·have e:nmD op a b=decide (1<=a/\a<=127):=ay h6;rw[e];subst h6;have c1:=kS a 1 127 wA;generalize decide (1<=a/\a<=127)=q at*;go_enter func242,ntmps242;go_wp2_with fail;refine c1.mono ?_;rintro r w' ⟨rfl,rfl⟩;clear c1;go_wp2_with fail;go_ret;exact⟨rfl,hbA⟩
 ·have e:nmD op a b=decide (0<=a/\a<=b/\b<146097):=aw h6;have h6':(op==6)=false:=bf.2 h6;rw[e];by_cases h1:0<=a
  ·by_cases h2:a<=b
   ·by_cases h3:b<146097
    ·rw[a7 (⟨h1,h2,h3⟩:0<=a/\a<=b/\b<146097)];go_enter func242,ntmps242;go_wp2_with fail;go_ret;exact⟨rfl,hbA⟩
    ·rw[bj (fun e:0<=a/\a<=b/\b<146097=>h3 e.2.2)];go_enter func242,ntmps242;go_wp2_with fail;go_ret;exact⟨rfl,hbA⟩
   ·rw[bj (fun e:0<=a/\a<=b/\b<146097=>h2 e.2.1)];go_enter func242,ntmps242;go_wp2_with fail;go_ret;exact⟨rfl,hbA⟩
  ·rw[bj (fun e:0<=a/\a<=b/\b<146097=>h1 e.1)];go_enter func242,ntmps242;go_wp2_with fail;go_ret;exact⟨rfl,hbA⟩
theorem LY (a b t:Int)(sv:Value)(k n r:Nat)(w:World):Calls prog 229 #[.agg #[ag 2,ag a,ag b,ag t,sv],ag (k:Int),ag (n:Int),ag (r:Int)] w fun e w'=>e= .returned (ag 0)/\ao w w':=by
 have hbA:=am w (.cells #[ag 2,ag a,ag b,ag t,sv] 234);have hxA:=aC w (.cells #[ag 2,ag a,ag b,ag t,sv] 234);generalize hwA:w.alloc (.cells #[ag 2,ag a,ag b,ag t,sv] 234)=wA at*;have z0:=ak 0 hxA;have z1:=ak 1 hxA;have z2:=ak 2 hxA;have z3:=ak 3 hxA;have z4:=ak 4 hxA;go_enter func229,ntmps229;go_wp2_with fail;go_ret;exact⟨rfl,hbA⟩
theorem LZ (a b t:Int)(sv:Value)(k n r:Nat)(w:World):Calls prog 229 #[.agg #[ag 3,ag a,ag b,ag t,sv],ag (k:Int),ag (n:Int),ag (r:Int)] w fun e w'=>e= .returned (ag 0)/\ao w w':=by
 have hbA:=am w (.cells #[ag 3,ag a,ag b,ag t,sv] 234);have hxA:=aC w (.cells #[ag 3,ag a,ag b,ag t,sv] 234);generalize hwA:w.alloc (.cells #[ag 3,ag a,ag b,ag t,sv] 234)=wA at*;have z0:=ak 0 hxA;have z1:=ak 1 hxA;have z2:=ak 2 hxA;have z3:=ak 3 hxA;have z4:=ak 4 hxA;go_enter func229,ntmps229;go_wp2_with fail;go_ret;exact⟨rfl,hbA⟩
theorem L0 (a b t:Int)(sv:Value)(k n r:Nat)(w:World):Calls prog 229 #[.agg #[ag 4,ag a,ag b,ag t,sv],ag (k:Int),ag (n:Int),ag (r:Int)] w fun e w'=>e= .returned (ag 0)/\ao w w':=by
 have hbA:=am w (.cells #[ag 4,ag a,ag b,ag t,sv] 234);have hxA:=aC w (.cells #[ag 4,ag a,ag b,ag t,sv] 234);generalize hwA:w.alloc (.cells #[ag 4,ag a,ag b,ag t,sv] 234)=wA at*;have z0:=ak 0 hxA;have z1:=ak 1 hxA;have z2:=ak 2 hxA;have z3:=ak 3 hxA;have z4:=ak 4 hxA;go_enter func229,ntmps229;go_wp2_with fail;go_ret;exact⟨rfl,hbA⟩
theorem L1 (a b t:Int)(sv:Value)(k n r:Nat)(w:World)(sp:List (Int×Int))(h:mM w sv sp):Calls prog 229 #[.agg #[ag 1,ag a,ag b,ag t,sv],ag (k:Int),ag (n:Int),ag (r:Int)] w fun e w'=>e= .returned (ag (if risL sp (-1)=true then 0 else 2))/\ao w w':=by
 have hbA:=am w (.cells #[ag 1,ag a,ag b,ag t,sv] 234);have hxA:=aC w (.cells #[ag 1,ag a,ag b,ag t,sv] 234);generalize hwA:w.alloc (.cells #[ag 1,ag a,ag b,ag t,sv] 234)=wA at*;have z0:=ak 0 hxA;have z1:=ak 1 hxA;have z2:=ak 2 hxA;have z3:=ak 3 hxA;have z4:=ak 4 hxA;have c1:=EV sp sv wA (h.later hbA);have c2:=fun W=>lP (risL sp (-1)) 2 W;generalize (if risL sp (-1)=true then(0:Int) else 2)=u at*;generalize risL sp (-1)=q at*;clear h;go_enter func229,ntmps229;go_wp2_with fail;refine c1.mono ?_;rintro e w1 ⟨rfl,hb1⟩;have hbw:=au hbA hb1;have c3:=c2 w1;clear c1 c2 hb1 hbA;go_wp2_with fail;refine c3.mono ?_;rintro e w2 ⟨rfl,rfl⟩;clear c3;go_wp2_with fail;go_ret;exact⟨rfl,hbw⟩
theorem L2 (a b t:Int)(sv:Value)(k n r:Nat)(w:World):Calls prog 229 #[.agg #[ag 5,ag a,ag b,ag t,sv],ag (k:Int),ag (n:Int),ag (r:Int)] w fun e w'=>e= .returned (ag (if a≠0/\ -1439<=a/\a<=1439 then 0 else 3))/\ao w w':=by
 have hbA:=am w (.cells #[ag 5,ag a,ag b,ag t,sv] 234);have hxA:=aC w (.cells #[ag 5,ag a,ag b,ag t,sv] 234);generalize hwA:w.alloc (.cells #[ag 5,ag a,ag b,ag t,sv] 234)=wA at*;have z0:=ak 0 hxA;have z1:=ak 1 hxA;have z2:=ak 2 hxA;have z3:=ak 3 hxA;have z4:=ak 4 hxA;by_cases ha:a=0
 ·subst ha;have c2:=lP false 3 wA;rw[aw (fun e=>e.1 rfl)];go_enter func229,ntmps229;go_wp2_with fail;refine c2.mono ?_;rintro e w2 ⟨rfl,rfl⟩;clear c2;go_wp2_with fail;go_ret;exact⟨rfl,hbA⟩
 ·have hb0:(a==0)=false:=bf.2 ha;have c1:=kS a (-1439) 1439 wA;have c2:=lP (decide (-1439<=a/\a<=1439)) 3 wA
  have HE:P3 ((if a≠0/\ -1439<=a/\a<=1439 then(0:Int) else 3)=if decide (-1439<=a/\a<=1439)=true then 0 else 3):=by
   show _=_;by_cases h: -1439<=a/\a<=1439
   ·rw[ay ⟨ha,h⟩,ay (a7 h)]
   ·rw[aw (fun e=>h e.2),aw (by simpa using h)]
  rw[HE.o];clear HE;generalize (if decide (-1439<=a/\a<=1439)=true then(0:Int) else 3)=u at*;generalize decide (-1439<=a/\a<=1439)=q at*;have hbn:(a !=0)=true:=(by simpa using ha);go_enter func229,ntmps229;go_wp2_with fail;refine c1.mono ?_;rintro e w1 ⟨rfl,rfl⟩;clear c1;go_wp2_with fail;refine c2.mono ?_;rintro e w2 ⟨rfl,rfl⟩;clear c2;go_wp2_with fail;go_ret;exact⟨rfl,hbA⟩
theorem L3 (a b t:Int)(sv:Value)(k n r:Nat)(w:World)(hk:k<=2000):Calls prog 229 #[.agg #[ag 6,ag a,ag b,ag t,sv],ag (k:Int),ag (n:Int),ag (r:Int)] w fun e w'=>e= .returned (ag (if(k:Int)+2<=t/\t<=n then(if nmD 6 a b=true then 0 else 3) else 8))/\ao w w':=by
 have hbA:=am w (.cells #[ag 6,ag a,ag b,ag t,sv] 234);have hxA:=aC w (.cells #[ag 6,ag a,ag b,ag t,sv] 234);generalize hwA:w.alloc (.cells #[ag 6,ag a,ag b,ag t,sv] 234)=wA at*;have z0:=ak 0 hxA;have z1:=ak 1 hxA;have z2:=ak 2 hxA;have z3:=ak 3 hxA;have z4:=ak 4 hxA;have hk0:(0:Int)<=(k:Int):=by omega
 have hk1:(k:Int)<=2000:=by omega
 have c1:=kS t ((k:Int)+2) (n:Int) wA;have c2:=sP 6 a b t sv wA;have c3:=fun W=>lP (nmD 6 a b) 3 W;by_cases h:(k:Int)+2<=t/\t<=n
 ·rw[ay h];rw[a7 h]at c1;generalize (if nmD 6 a b=true then(0:Int) else 3)=u at*;generalize nmD 6 a b=q at*;clear h;go_enter func229,ntmps229;go_wp2_with fail;refine c1.mono ?_;rintro e w1 ⟨rfl,rfl⟩;clear c1;go_wp2_with(refine aR rfl 234 _ rfl _ rfl _ _ _ _ hxA rE rfl (by kernel_rfl) ?_)
  refine c2.mono ?_;rintro e w1 ⟨rfl,hb1⟩;have hbw:=au hbA hb1;have c4:=c3 w1;clear c2 c3 hb1 hbA;go_wp2_with fail;refine c4.mono ?_;rintro e w2 ⟨rfl,rfl⟩;clear c4;go_wp2_with fail;go_ret;exact⟨rfl,hbw⟩
 ·rw[aw h];rw[bj h]at c1;clear h c2 c3;go_enter func229,ntmps229;go_wp2_with fail;refine c1.mono ?_;rintro e w1 ⟨rfl,rfl⟩;clear c1;go_wp2_with fail;go_ret;exact⟨rfl,hbA⟩
theorem L4 (a b t:Int)(sv:Value)(k n r:Nat)(w:World)(hk:k<=2000):Calls prog 229 #[.agg #[ag 7,ag a,ag b,ag t,sv],ag (k:Int),ag (n:Int),ag (r:Int)] w fun e w'=>e= .returned (ag (if(k:Int)+2<=t/\t<=n then(if nmD 7 a b=true then 0 else 3) else 8))/\ao w w':=by
 have hbA:=am w (.cells #[ag 7,ag a,ag b,ag t,sv] 234);have hxA:=aC w (.cells #[ag 7,ag a,ag b,ag t,sv] 234);generalize hwA:w.alloc (.cells #[ag 7,ag a,ag b,ag t,sv] 234)=wA at*;have z0:=ak 0 hxA;have z1:=ak 1 hxA;have z2:=ak 2 hxA;have z3:=ak 3 hxA;have z4:=ak 4 hxA;have hk0:(0:Int)<=(k:Int):=by omega
 have hk1:(k:Int)<=2000:=by omega
 have c1:=kS t ((k:Int)+2) (n:Int) wA;have c2:=sP 7 a b t sv wA;have c3:=fun W=>lP (nmD 7 a b) 3 W;by_cases h:(k:Int)+2<=t/\t<=n
 ·rw[ay h];rw[a7 h]at c1;generalize (if nmD 7 a b=true then(0:Int) else 3)=u at*;generalize nmD 7 a b=q at*;clear h;go_enter func229,ntmps229;go_wp2_with fail;refine c1.mono ?_;rintro e w1 ⟨rfl,rfl⟩;clear c1;go_wp2_with(refine aR rfl 234 _ rfl _ rfl _ _ _ _ hxA rE rfl (by kernel_rfl) ?_)
  refine c2.mono ?_;rintro e w1 ⟨rfl,hb1⟩;have hbw:=au hbA hb1;have c4:=c3 w1;clear c2 c3 hb1 hbA;go_wp2_with fail;refine c4.mono ?_;rintro e w2 ⟨rfl,rfl⟩;clear c4;go_wp2_with fail;go_ret;exact⟨rfl,hbw⟩
 ·rw[aw h];rw[bj h]at c1;clear h c2 c3;go_enter func229,ntmps229;go_wp2_with fail;refine c1.mono ?_;rintro e w1 ⟨rfl,rfl⟩;clear c1;go_wp2_with fail;go_ret;exact⟨rfl,hbA⟩
theorem L5 (a b t:Int)(sv:Value)(k n r:Nat)(w:World):Calls prog 229 #[.agg #[ag 8,ag a,ag b,ag t,sv],ag (k:Int),ag (n:Int),ag (r:Int)] w fun e w'=>e= .returned (ag (if 0<=a/\a<r then 0 else 6))/\ao w w':=by
 have hbA:=am w (.cells #[ag 8,ag a,ag b,ag t,sv] 234);have hxA:=aC w (.cells #[ag 8,ag a,ag b,ag t,sv] 234);generalize hwA:w.alloc (.cells #[ag 8,ag a,ag b,ag t,sv] 234)=wA at*;have z0:=ak 0 hxA;have z1:=ak 1 hxA;have z2:=ak 2 hxA;have z3:=ak 3 hxA;have z4:=ak 4 hxA;have c1:=qj a (r:Int) wA;have c2:=lP (decide (0<=a/\a<(r:Int))) 6 wA
 have HE:P3 ((if 0<=a/\a<(r:Int) then(0:Int) else 6)=if decide (0<=a/\a<(r:Int))=true then 0 else 6):=by
  show _=_;by_cases h:0<=a/\a<(r:Int)
  ·rw[ay h,ay (a7 h)]
  ·rw[aw h,aw (by simpa using h)]
 rw[HE.o];clear HE;generalize (if decide (0<=a/\a<(r:Int))=true then(0:Int) else 6)=u at*;generalize decide (0<=a/\a<(r:Int))=q at*;go_enter func229,ntmps229;go_wp2_with fail;refine c1.mono ?_;rintro e w1 ⟨rfl,rfl⟩;clear c1;go_wp2_with fail;refine c2.mono ?_;rintro e w2 ⟨rfl,rfl⟩;clear c2;go_wp2_with fail;go_ret;exact⟨rfl,hbA⟩
theorem L6 (op:Int)(a b t:Int)(sv:Value)(k n r:Nat)(w:World)(h1:(op==1)=false)(h2:(op==2)=false)(h3:(op==3)=false)(h4:(op==4)=false)(h5:(op==5)=false)(h6:(op==6)=false)(h7:(op==7)=false)(h8:(op==8)=false):Calls prog 229 #[.agg #[ag op,ag a,ag b,ag t,sv],ag (k:Int),ag (n:Int),ag (r:Int)] w fun e w'=>e= .returned (ag 1)/\ao w w':=by
 have hbA:=am w (.cells #[ag op,ag a,ag b,ag t,sv] 234);have hxA:=aC w (.cells #[ag op,ag a,ag b,ag t,sv] 234);generalize hwA:w.alloc (.cells #[ag op,ag a,ag b,ag t,sv] 234)=wA at*;have z0:=ak 0 hxA;have z1:=ak 1 hxA;have z2:=ak 2 hxA;have z3:=ak 3 hxA;have z4:=ak 4 hxA;go_enter func229,ntmps229;go_wp2_with fail;go_ret;exact⟨rfl,hbA⟩
theorem G5 (x:In)(sv:Value)(k n r:Nat)(w:World)(h:mM w sv x.sp)(hk:k<=2000):Calls prog 229 #[.agg #[ag x.op,ag x.a,ag x.b,ag x.to,sv],ag (k:Int),ag (n:Int),ag (r:Int)] w fun e w'=>e= .returned (ag (fj x k n r))/\ao w w':=by
 obtain⟨op,a,b,t,sp⟩:=x;dsimp only at h⊢;unfold fj;dsimp only;by_cases h2:op=2
 ·subst h2;exact LY a b t sv k n r w
 by_cases h3:op=3
 ·subst h3;exact LZ a b t sv k n r w
 by_cases h4:op=4
 ·subst h4;exact L0 a b t sv k n r w
 rw[aw (by omega)];by_cases h1:op=1
 ·subst h1;exact L1 a b t sv k n r w sp h
 rw[aw h1];by_cases h5:op=5
 ·subst h5;exact L2 a b t sv k n r w
 rw[aw h5];by_cases h6:op=6
 ·subst h6;have c:=L3 a b t sv k n r w hk;have e:nmD 6 a b=decide (1<=a/\a<=127):=ay rfl;rw[e]at c;rw[ay rfl];simpa only[bH] using c
 rw[aw h6];by_cases h7:op=7
 ·subst h7;have c:=L4 a b t sv k n r w hk;have e:nmD 7 a b=decide (0<=a/\a<=b/\b<146097):=aw (by decide);rw[e]at c;rw[ay rfl];simpa only[bH] using c
 rw[aw h7];by_cases h8:op=8
 ·subst h8;exact L5 a b t sv k n r w
 rw[aw h8];exact L6 op a b t sv k n r w (bf.2 h1) (bf.2 h2) (bf.2 h3) (bf.2 h4) (bf.2 h5) (bf.2 h6) (bf.2 h7) (bf.2 h8)
def xm (w:World)(v:Value)(xs:List (In×Value)):Prop:= ∃p c,v= .slice p xs.length c/\xs.length<9223372036854775808/\ ∀(j:Nat) (x:In×Value),xs[j]? =some x->mM w x.2 x.1.sp/\ ∃g o:Nat,p=some ⟨g,o,none⟩/\
 w.cell? (ae g (o+j*5))=some (ag x.1.op)/\w.cell? (ae g (o+j*5+1))=some (ag x.1.a)/\w.cell? (ae g (o+j*5+2))=some (ag x.1.b)/\w.cell? (ae g (o+j*5+3))=some (ag x.1.to)/\w.cell? (ae g (o+j*5+4))=some x.2
theorem xm.below {w w':World}{v:Value}{xs:List (In×Value)}(h:xm w v xs)(hb:ao w w'):xm w' v xs:=by
 obtain⟨p,c,h1,h2,h3⟩:=h;refine⟨p,c,h1,h2,fun j x hj=> ?_⟩;obtain⟨r,g,o,e,c0,c1,c2,c3,c4⟩:=h3 j x hj;exact⟨r.later hb,g,o,e,aj hb c0,aj hb c1,aj hb c2,aj hb c3,aj hb c4⟩
def oF (w:World)(v:Value)(l:List In):Prop:= ∃xs:List (In×Value),xm w v xs/\xs.map (fun x=>x.1)=l
theorem oF.below {w w':World}{v:Value}{l:List In}(h:oF w v l)(hb:ao w w'):oF w' v l:=by
 obtain⟨xs,h1,h2⟩:=h;exact⟨xs,h1.below hb,h2⟩
theorem oF.form {w:World}{v:Value}{l:List In}(h:oF w v l): ∃p c,v= .slice p l.length c/\l.length<9223372036854775808/\ ∀(j:Nat) (x:In),l[j]? =some x-> ∃sv:Value,mM w sv x.sp/\ ∃g o:Nat,p=some ⟨g,o,none⟩/\
  w.cell? (ae g (o+j*5))=some (ag x.op)/\w.cell? (ae g (o+j*5+1))=some (ag x.a)/\w.cell? (ae g (o+j*5+2))=some (ag x.b)/\w.cell? (ae g (o+j*5+3))=some (ag x.to)/\w.cell? (ae g (o+j*5+4))=some sv:=by
 obtain⟨xs,⟨p,c,h1,h2,h3⟩,rfl⟩:=h;rw[aZ];refine⟨p,c,h1,h2,fun j x hj=> ?_⟩;rw[bg]at hj;obtain⟨y,hy,rfl⟩:=eI.1 hj;obtain⟨r,g,o,e,hc⟩:=h3 j y hy;exact⟨y.2,r,g,o,e,hc⟩
def InC (w:World)(v:Value)(us:List (Cd×Value)):Prop:= ∃p c,v= .slice p us.length c/\us.length<9223372036854775808/\ ∀(j:Nat) (u:Cd×Value),us[j]? =some u->oF w u.2 u.1.ins/\ ∃g o:Nat,p=some ⟨g,o,none⟩/\
 w.cell? (ae g (o+j*3))=some u.2/\w.cell? (ae g (o+j*3+1))=some (ag u.1.high)/\w.cell? (ae g (o+j*3+2))=some (ag u.1.steps)
theorem InC.below {w w':World}{v:Value}{us:List (Cd×Value)}(h:InC w v us)(hb:ao w w'):InC w' v us:=by
 obtain⟨p,c,h1,h2,h3⟩:=h;refine⟨p,c,h1,h2,fun j u hj=> ?_⟩;obtain⟨r,g,o,e,c0,c1,c2⟩:=h3 j u hj;exact⟨r.below hb,g,o,e,aj hb c0,aj hb c1,aj hb c2⟩
def InV (w:World)(v:Value)(cs:List Cd):Prop:= ∃us:List (Cd×Value),InC w v us/\us.map (fun u=>u.1)=cs
theorem InV.below {w w':World}{v:Value}{cs:List Cd}(h:InV w v cs)(hb:ao w w'):InV w' v cs:=by
 obtain⟨xs,h1,h2⟩:=h;exact⟨xs,h1.below hb,h2⟩
theorem InV.form {w:World}{v:Value}{cs:List Cd}(h:InV w v cs): ∃p c,v= .slice p cs.length c/\cs.length<9223372036854775808/\ ∀(j:Nat) (u:Cd),cs[j]? =some u-> ∃sv:Value,oF w sv u.ins/\ ∃g o:Nat,p=some ⟨g,o,none⟩/\
  w.cell? (ae g (o+j*3))=some sv/\w.cell? (ae g (o+j*3+1))=some (ag u.high)/\w.cell? (ae g (o+j*3+2))=some (ag u.steps):=by
 obtain⟨xs,⟨p,c,h1,h2,h3⟩,rfl⟩:=h;rw[aZ];refine⟨p,c,h1,h2,fun j x hj=> ?_⟩;rw[bg]at hj;obtain⟨y,hy,rfl⟩:=eI.1 hj;obtain⟨r,g,o,e,hc⟩:=h3 j y hy;exact⟨y.2,r,g,o,e,hc⟩
theorem EW (c:Cd)(sv:Value)(r:Nat)(w:World)(h:oF w sv c.ins):Calls prog 212 #[.agg #[sv,ag c.high,ag c.steps],ag (r:Int)] w fun e w'=>e= .returned (ag (aloneE c r))/\ao w w':=by
 obtain⟨p,cp,rfl,hlen,hc⟩:=h.form;have HC:=aY hc;clear hc h;generalize hX:aloneE c r=X;unfold aloneE at hX;obtain⟨l,hi,st⟩:=c;dsimp only at hX hlen HC⊢;have hbA:=am w (.cells #[.slice p l.length cp,ag hi,ag st] 208);have hxA:=aC w (.cells #[.slice p l.length cp,ag hi,ag st] 208);generalize hwA:w.alloc (.cells #[.slice p l.length cp,ag hi,ag st] 208)=wA at*;have z0:=ak 0 hxA;have z1:=ak 1 hxA;have z2:=ak 2 hxA;have hl0:(0:Int)<=(l.length:Int):=by omega
 have c1:=kS (l.length:Int) 1 2000 wA;by_cases h1:1<=l.length/\l.length<=2000
 ·rw[aw (fun e=>e h1)]at hX;rw[a7 (show(1:Int)<=(l.length:Int)/\(l.length:Int)<=2000 by omega)]at c1;have c2:=kS hi 1 100 wA;by_cases h2:1<=hi/\hi<=100
  ·rw[a7 h2]at c2;have c3:=kS st 1 20000 wA;by_cases h3:1<=st/\st<=20000
   ·rw[a7 h3]at c3;rw[aw (fun e=>e ⟨h2,h3⟩)]at hX;have HS:P3 (oW (l.drop 0) 0 l.length r=X):=hX;clear hX h2 h3;go_enter func212,ntmps212;go_wp2_with fail;refine c1.mono ?_;rintro e w1 ⟨rfl,rfl⟩;clear c1;go_wp2_with fail;refine c2.mono ?_;rintro e w2 ⟨rfl,rfl⟩;clear c2;go_wp2_with fail;refine c3.mono ?_;rintro e w3 ⟨rfl,rfl⟩;clear c3;go_wp2_with fail;go_loopw [26] (fun t wr=> ∃j:Nat,t=ag (j:Int)/\j<=l.length/\oW (l.drop j) j l.length r=X/\wr.heap[w.heap.size]? =ah #[.slice p l.length cp,ag hi,ag st] 208/\ao w wr) (fun t _=>l.length-(intOf t).toNat);case atStart=>exact⟨0,rfl,by omega,HS.o,hxA,hbA⟩
    case round=>
     obtain⟨j,rfl,hj,hXr,hxr,hbr⟩:=hrel;clear HS hxA hbA z0 z1 z2 hwA;have hj0:(0:Int)<=(j:Int):=(by omega);by_cases hlt:j<l.length
     ·have hlt':(j:Int)<(l.length:Int):=(by omega);obtain⟨x,hjk⟩: ∃x,l[j]? =some x:=⟨l[j],ax hlt⟩
      rw[G2 hjk]at hXr;obtain⟨sk,hrow,g,o,hpe,e0,e1,e2,e3,e4⟩:=HC.o j _ hjk;subst hpe;have d0:=aj hbr e0;have d1:=aj hbr e1;have d2:=aj hbr e2;have d3:=aj hbr e3;have d4:=aj hbr e4;obtain⟨op,a,b,t,sp⟩:=x;dsimp only at d0 d1 d2 d3 d4 hrow;obtain⟨ps,ck,rfl,_,_⟩:=hrow.form;have bI:=am wr (.cells #[ag op,ag a,ag b,ag t,.slice ps sp.length ck] 234);have hxI:=aC wr (.cells #[ag op,ag a,ag b,ag t,.slice ps sp.length ck] 234);have hbI:=au hbr bI;have hxr2:=ai bI hxr;have hi0:=G5 ⟨op,a,b,t,sp⟩ (.slice ps sp.length ck) j l.length r (wr.alloc (.cells #[ag op,ag a,ag b,ag t,.slice ps sp.length ck] 234)) (hrow.later hbI) (by omega);dsimp only at hi0;have z0:=ak 0 hxr2;clear e0 e1 e2 e3 e4 hjk hrow bI hxr;by_cases hE:fj ⟨op,a,b,t,sp⟩ j l.length r=0
      ·rw[aw (fun e=>e hE)]at hXr;rw[hE]at hi0;have HX:=aY hXr;clear hXr hE;go_wp2_with(refine aR rfl 234 _ rfl _ rfl _ _ _ _ hxI rE rfl (by kernel_rfl) ?_)
       refine hi0.mono ?_;rintro e w1 ⟨rfl,hb1⟩;have hbw:=au hbI hb1;have hxr3:=ai hb1 hxr2;clear hi0 hb1 hbI hxr2 hxI hbr d0 d1 d2 d3 d4 z0;go_wp2_with fail;go_roundw;case rel=>exact⟨j+1,by go_num,by omega,HX.o,hxr3,hbw⟩
       case measure=>simp[intOf];omega
      ·rw[ay hE]at hXr;rw[hXr]at hi0 hE;have hEb:(X==0)=false:=bf.2 hE;have hEn:(X !=0)=true:=(by simpa using hE);clear hXr hE;go_wp2_with(refine aR rfl 234 _ rfl _ rfl _ _ _ _ hxI rE rfl (by kernel_rfl) ?_)
       refine hi0.mono ?_;rintro e w1 ⟨rfl,hb1⟩;have hbw:=au hbI hb1;clear hi0 hb1 hbI hxr2 hxI hbr d0 d1 d2 d3 d4 z0;go_wp2_with fail;go_ret;exact⟨rfl,hbw⟩
     ·have hlt': ¬(j:Int)<(l.length:Int):=(by omega)
      have HX:P3 (X=0):=by
       show _=_;rw[<-hXr,dc (by omega)];rfl
      clear hXr HC;go_wp2_with fail;go_ret;exact⟨by(rw[HX.o])<;>rfl,hbr⟩
   ·rw[bj h3]at c3;rw[ay (fun e=>h3 e.2)]at hX;subst hX;clear h2 h3 HC;go_enter func212,ntmps212;go_wp2_with fail;refine c1.mono ?_;rintro e w1 ⟨rfl,rfl⟩;clear c1;go_wp2_with fail;refine c2.mono ?_;rintro e w2 ⟨rfl,rfl⟩;clear c2;go_wp2_with fail;refine c3.mono ?_;rintro e w3 ⟨rfl,rfl⟩;clear c3;go_wp2_with fail;go_ret;exact⟨rfl,hbA⟩
  ·rw[bj h2]at c2;rw[ay (fun e=>h2 e.1)]at hX;subst hX;clear h2 HC;go_enter func212,ntmps212;go_wp2_with fail;refine c1.mono ?_;rintro e w1 ⟨rfl,rfl⟩;clear c1;go_wp2_with fail;refine c2.mono ?_;rintro e w2 ⟨rfl,rfl⟩;clear c2;go_wp2_with fail;go_ret;exact⟨rfl,hbA⟩
 ·rw[ay h1]at hX;subst hX;rw[bj (show¬((1:Int)<=(l.length:Int)/\(l.length:Int)<=2000) by omega)]at c1;clear h1 HC;go_enter func212,ntmps212;go_wp2_with fail;refine c1.mono ?_;rintro e w1 ⟨rfl,rfl⟩;clear c1;go_wp2_with fail;go_ret;exact⟨rfl,hbA⟩
theorem lQ:prog.underlying 47=some (.struct (prog.fieldsOf 47)):=by kernel_rfl
theorem ql {fn:Func}(s:Nat)(h:fn.results= #[ResultVar.cell s 47]){R:Ending->World->Prop}{a:Act}{w:World}(g:Nat)(er at_:Int)(hd:a.defers=[])(h2:a.tmps.getD s undef=ab g 0)
  (hg:w.heap[g]? =ah #[ag er,ag at_] 47) (hR:R (.returned (.agg #[ag er,ag at_])) w):bodyPost prog fn R .ret a w:=by
 refine aU (v:= .agg #[ag er,ag at_]) ?_ hd hR;have h2':a.tmps[s]?.getD undef=ab g 0:=by simpa using h2
 have hv:=dR (P:=prog) w g 47 47 _ _ _ hg lQ rfl (by kernel_rfl);simp[results,h,h2',asAddr,hv]
theorem CY (E:Nat->Int)(n j:Nat)(h:j<n):gh E (n-j) j=if E j≠0 then(E j,j) else gh E (n-(j+1)) (j+1):=by
 rw[show n-j=(n-(j+1))+1 by omega];rfl
theorem rF (E:Nat->Int)(n K:Nat)(C:Array Value)(p:Option Addr)(c:Nat)(w:World)(hn:n<9223372036854775808)(eK: ∀args w,(callFunc K args).run prog w= .ok (.enter K args) w)
  (hc: ∀(i:Nat) (wr:World),i<n->ao w wr->Calls prog K (#[ag (i:Int)]++C) wr fun e w'=>e= .returned (ag (E i))/\ao wr w'):
  Calls prog 210 #[.slice p n c,.func (.func K) #[] C] w fun e w'=>e= .returned (.agg #[ag (gh E n 0).1,ag ((gh E n 0).2:Int)])/\ao w w':=by
 have HC:=aY hc;clear hc;generalize hX:gh E n 0=X;have HS:P3 (gh E (n-0) 0=X):=hX;clear hX;have hb0:=am w (.cells #[ag 0,ag 0] 47);have hr0:=aC w (.cells #[ag 0,ag 0] 47);generalize hwA:w.alloc (.cells #[ag 0,ag 0] 47)=wA at*;go_enter func210,ntmps210;go_wp2_with fail;clear hwA;go_loopw [9] (fun t wr=> ∃j:Nat,t=ag (j:Int)/\j<=n/\gh E (n-j) j=X/\wr.heap[w.heap.size]? =ah #[ag 0,ag 0] 47/\ao w wr) (fun t _=>n-(intOf t).toNat);case atStart=>exact⟨0,rfl,by omega,HS.o,hr0,hb0⟩
 case round=>
  obtain⟨j,rfl,hj,hXr,hrr,hbr⟩:=hrel;clear HS hr0 hb0;have hj0:(0:Int)<=(j:Int):=(by omega);by_cases hlt:j<n
  ·have hlt':(j:Int)<(n:Int):=(by omega);have hc:=HC.o j wr hlt hbr;rw[CY E n j hlt]at hXr;by_cases hE:E j=0
   ·rw[aw (fun e=>e hE)]at hXr;rw[hE]at hc;have HX:=aY hXr;clear hXr hE;go_wp2_with fail;refine hc.mono ?_;rintro e w1 ⟨rfl,hb1⟩;have hbw:=au hbr hb1;have hrr3:=ai hb1 hrr;clear hc hb1 hbr hrr;go_wp2_with fail;go_roundw;case rel=>exact⟨j+1,by go_num,by omega,HX.o,hrr3,hbw⟩
    case measure=>simp[intOf];omega
   ·rw[ay hE]at hXr;have HX:=aY hXr;generalize E j=q at*;have hEb:(q==0)=false:=bf.2 hE;have hEn:(q !=0)=true:=(by simpa using hE);clear hXr hE;go_wp2_with fail;refine hc.mono ?_;rintro e w1 ⟨rfl,hb1⟩;have hbw:=au hbr hb1;have hrr3:=ai hb1 hrr;clear hc hb1 hbr hrr;have hrr:=hrr3;go_wp2_with(refine az rfl 47 _ _ rfl _ _ rfl rfl _ _ hrr (by kernel_rfl) (by simp) (by simp[Value.oneCell']) ?_)
    exact ql 4 (by kernel_rfl) w.heap.size q (j:Int) rfl rfl (aJ _ _ _ _ _ _ hrr) ⟨by rw[<-HX.o],below_setRow hbw (aA _) _⟩
  ·have hlt': ¬(j:Int)<(n:Int):=(by omega)
   have HX:P3 (X=(0,0)):=by
    show _=_;rw[<-hXr,show n-j=0 by omega];rfl
   clear hXr HC;go_wp2_with(refine az rfl 47 _ _ rfl _ _ rfl rfl _ _ hrr (by kernel_rfl) (by simp) (by simp[Value.oneCell']) ?_)
   exact ql 4 (by kernel_rfl) w.heap.size 0 0 rfl rfl (aJ _ _ _ _ _ _ hrr) ⟨by(rw[HX.o])<;>rfl,below_setRow hbr (aA _) _⟩
theorem EX (cs:List Cd)(lv:Value)(gl ri:Nat)(w:World)(h:InV w lv cs)(hl:w.cell? (ae gl 0)=some lv)(hri:ri<cs.length):
  Calls prog 211 #[ag (ri:Int),ab gl 0] w fun e w'=>e= .returned (ag (aloneE (cs.getD ri cd0) cs.length))/\ao w w':=by
 obtain⟨p,cp,rfl,hlen,hc⟩:=h.form;obtain⟨u,hiu⟩: ∃u,cs[ri]? =some u:=⟨cs[ri],ax hri⟩
 obtain⟨sv,hin,g,o,rfl,e0,e1,e2⟩:=hc ri u hiu;rw[iO hiu];have HA:P3 (∀W,ao w W->Calls prog 212 #[.agg #[sv,ag u.high,ag u.steps],ag (cs.length:Int)] W fun e w'=>e= .returned (ag (aloneE u cs.length))/\ao W w'):=fun W hW=>EW u sv cs.length W (hin.below hW);generalize aloneE u cs.length=q at*;obtain⟨ul,hi,st⟩:=u;dsimp only at e1 e2 HA;have hi0:(0:Int)<=(ri:Int):=by omega
 have hi1:(ri:Int)<(cs.length:Int):=by omega
 clear h hc hin hiu;go_enter func211,ntmps211;go_wp2_with fail;refine dt (fun _ _ W=>ao w W) [kn 4 (.slice (some (ae g o)) cs.length cp),kn 5 (ag (ri:Int)),kn 6 (ab g (o+ri*3)),kn 7 (.agg #[sv,ag hi,ag st]),kn 8 (.slice (some (ae g o)) cs.length cp),kn 9 (ag (cs.length:Int)),kn 10 (ag q),kn 3 (ag q)] (fun _=>(aG _ _).drew) (fun _ _ _ _ hb h=>au h hb) (by kernel_rfl) (fun M φ W hJ hcl F l hl' hF=> ?_) (fun M φ W hM hJ=> ?_)
 ·simp only[kn,dN,aQ,aW,Act.put,aB,aI,aH]at hl';subst hl';simp only[dg,Nat.reduceAdd]at hF;have z:=aj hJ hl;have f0:=aj hJ e0;have f1:=aj hJ e1;have f2:=aj hJ e2;dsimp only[kn,dC,en,dS,Act.put];and_intros;all_goals first|exact trivial|intro hw hn hm K hK
  all_goals try (go_simp;with_reducible exact hK _ _ ⟨rfl,aG _ _⟩)
  go_simp;refine(HA.o W hJ).mono ?_;rintro e' W' ⟨rfl,hb'⟩;exact hK _ _ ⟨rfl,hb'⟩
 ·simp only[kn,dP,aQ,aW,Act.put,aB,aI,aH];go_wp2_with fail;go_ret;exact⟨rfl,hJ⟩
theorem L7 (f:Nat->Bool)(n:Nat)(hn:n<64):(bits BinOp.and IntKind.u64 ((wd f 0:Int)/2^n) 1==1)=f n:=by
 have e1:((wd f 0:Int)/2^n)=((wd f 0/2^n:Nat):Int):=by push_cast;rfl
 have hlt:wd f 0/2^n<18446744073709551616:=Nat.lt_of_le_of_lt (Nat.div_le_self _ _) (gS f 0)
 have e2:bits BinOp.and IntKind.u64 ((wd f 0/2^n:Nat):Int) 1=((wd f 0/2^n&&&1:Nat):Int):=by
  have:=bits_and_u64_nat (wd f 0/2^n) 1 hlt (by decide);exact this
 rw[e1,e2,Nat.and_one_is_mod];have hb:=jc f 0 n;rw[a7 hn,iM,Nat.mul_zero,bK]at hb
 have h3:(wd f 0).testBit n=decide ((wd f 0/2^n)%2=1):=by
  rw[Nat.testBit_eq_decide_div_mod_eq]
 rw[<-hb,h3];have:wd f 0/2^n%2=0\/wd f 0/2^n%2=1:=by omega
 rcases this with h|h
 ·rw[h];rfl
 ·rw[h];rfl
theorem DG (f:Nat->Bool)(n:Nat)(hn:n<64)(w:World):Calls prog 215 #[.int .u64 (wd f 0:Int),ag (n:Int)] w fun e w'=>e= .returned (.bool (f n))/\w'=w:=by
 have h0:(0:Int)<=(n:Int):=by omega
 have h1:(n:Int)<64:=by omega
 have HB:=aY (L7 f n hn);go_enter func215,ntmps215;go_wp2_with fail;go_ret;exact⟨congrArg (fun b=>Ending.returned (.bool b)) HB.o,rfl⟩
theorem BF (x:In)(w:World):Calls prog 244 #[ag x.op] w fun e w'=>e= .returned (.tuple #[ag (tk x),ag (tk x+eff x)])/\w'=w:=by
 obtain⟨op,a,b,t,sp⟩:=x;unfold tk eff;dsimp only;by_cases h1:op=1
 ·subst h1;go_enter func244,ntmps244;go_wp2_with fail;exact aU (v:= .tuple #[ag 0,ag 1]) (by simp[results,results244,go_sem]) rfl ⟨rfl,rfl⟩
 by_cases h8:op=8
 ·subst h8;go_enter func244,ntmps244;go_wp2_with fail;exact aU (v:= .tuple #[ag 0,ag 1]) (by simp[results,results244,go_sem]) rfl ⟨rfl,rfl⟩
 by_cases h5:op=5
 ·subst h5;go_enter func244,ntmps244;go_wp2_with fail;exact aU (v:= .tuple #[ag 1,ag 1]) (by simp[results,results244,go_sem]) rfl ⟨rfl,rfl⟩
 by_cases h2:op=2
 ·subst h2;go_enter func244,ntmps244;go_wp2_with fail;exact aU (v:= .tuple #[ag 2,ag 1]) (by simp[results,results244,go_sem]) rfl ⟨rfl,rfl⟩
 by_cases h3:op=3
 ·subst h3;go_enter func244,ntmps244;go_wp2_with fail;exact aU (v:= .tuple #[ag 2,ag 1]) (by simp[results,results244,go_sem]) rfl ⟨rfl,rfl⟩
 by_cases h4:op=4
 ·subst h4;go_enter func244,ntmps244;go_wp2_with fail;exact aU (v:= .tuple #[ag 2,ag 1]) (by simp[results,results244,go_sem]) rfl ⟨rfl,rfl⟩
 rw[aw h5,aw (by omega),aw (by omega),aw (by omega)];have b1:(op==1)=false:=bf.2 h1;have b2:(op==2)=false:=bf.2 h2;have b3:(op==3)=false:=bf.2 h3;have b4:(op==4)=false:=bf.2 h4;have b5:(op==5)=false:=bf.2 h5;have b8:(op==8)=false:=bf.2 h8;go_enter func244,ntmps244;go_wp2_with fail;exact aU (v:= .tuple #[ag 0,ag 0]) (by simp[results,results244,go_sem]) rfl ⟨rfl,rfl⟩
def ir (n:Nat)(R:Nat->Nat->Bool):Array Value:=((List.range n).map fun i=>Value.int .u64 (wd (R i) 0:Int)).toArray
theorem zw {n:Nat}{R:Nat->Nat->Bool}{i:Nat}(h:i<n):(ir n R)[i]? =some (.int .u64 (wd (R i) 0:Int)):=by
 simp[ir,h]
theorem EY {n:Nat}{R R':Nat->Nat->Bool}(h: ∀i k,i<n->k<64->R i k=R' i k):ir n R=ir n R':=by
 unfold ir;congr 1;apply List.map_congr_left;intro i hi;rw[mH fun j hj=> ?_];rw[Nat.mul_zero,bK];exact h i j (gQ.1 hi) hj
def oX (R:Nat->Nat->Bool)(i:Nat)(f:Nat->Bool):Nat->Nat->Bool:=fun r k=>if r=i then f k else R r k
theorem EZ {n:Nat}{R:Nat->Nat->Bool}{i:Nat}{f:Nat->Bool}:(ir n R).setIfInBounds i (.int .u64 (wd f 0:Int))=ir n (oX R i f):=by
 apply Array.ext
 ·simp[ir]
 ·intro k h1 h2;have hk:k<n:=(by simpa[ir] using h2);rw[Array.getElem_setIfInBounds (by simpa[ir] using hk)];by_cases e:i=k
  ·subst e;have hu:oX R i f i=f:=(by funext q;simp[oX]);simp[ir,hu]
  ·rw[aw e];have hu:oX R i f k=R k:=(by funext q;simp[oX,show k≠i from fun h=>e h.symm]);simp[ir,hu]
theorem CZ (n:Nat):madeCells #[Value.int .u64 0] n=ir n (fun _ _=>false):=by
 apply Array.ext
 ·simp[ir,madeCells]
 ·intro k h1 h2;simp[ir,madeCells,Nat.mod_one,Du]
structure UcM (w:World)(n:Nat)(R:Nat->Nat->Bool)(W:World):Prop where
 bel:ao w W
 row:W.heap[w.heap.size]? =ah (ir n R) 59
theorem UcM.below {w W W':World}{n:Nat}{R:Nat->Nat->Bool}(h:UcM w n R W)(hb:ao W W'):UcM w n R W':=
 ⟨au h.bel hb,ai hb h.row⟩
theorem UcM.same {w W:World}{n:Nat}{R R':Nat->Nat->Bool}(h:UcM w n R W)(he: ∀i k,i<n->k<64->R i k=R' i k):UcM w n R' W:=
 ⟨h.bel,by rw[h.row,EY he]⟩
theorem UcM.cell {w W:World}{n:Nat}{R:Nat->Nat->Bool}(h:UcM w n R W){i:Nat}(hi:i<n):W.cell? (ae w.heap.size i)=some (.int .u64 (wd (R i) 0:Int)):=(aV _ _ i _ _ _ h.row).trans (zw hi)
theorem UcM.frz {w W:World}{n:Nat}{R:Nat->Nat->Bool}(h:UcM w n R W)(i:Nat):W.frozen? (ae w.heap.size i)=false:=bl _ _ i _ _ h.row
theorem UcM.set {w W:World}{n:Nat}{R:Nat->Nat->Bool}(h:UcM w n R W)(i:Nat)(f:Nat->Bool):UcM w n (oX R i f) (W.setCell ⟨w.heap.size,i,none⟩ (.int .u64 (wd f 0:Int))):=by
 refine⟨h.bel.setCell (aA _) _,?_⟩;rw[<-EZ];exact aX W w.heap.size i _ _ _ h.row
theorem NI (f:Nat->Bool)(a:Nat)(ha:a<64):bits BinOp.or IntKind.u64 (wd f 0:Int) (IntKind.u64.wrap (2^a))=(wd (fun k=>f k||decide (k=a)) 0:Int):=by
 have hp:(2:Nat)^a<18446744073709551616:=by
  have:=Nat.pow_lt_pow_right (a:=2) (by omega) ha;simpa using this
 have e1:IntKind.u64.wrap ((2:Int)^a)=((2^a:Nat):Int):=by
  rw[gI];have:((2:Int)^a)=((2^a:Nat):Int):=(by push_cast;rfl);rw[this];generalize (2^a:Nat)=y at*;omega
 rw[e1,bits_or_u64_nat _ _ (gS f 0) hp];congr 1;refine mG _ 0 _ (Nat.or_lt_two_pow (n:=64) (gS f 0) hp) fun j hj=> ?_;rw[Nat.testBit_or,jc,a7 hj,iM,Nat.mul_zero,bK,Nat.testBit_two_pow];congr 1;by_cases e:a=j
 ·simp[e]
 ·simp[e,show¬j=a from fun h=>e h.symm]
theorem L8 (f g:Nat->Bool):bits BinOp.or IntKind.u64 (wd f 0:Int) (wd g 0:Int)=(wd (fun k=>f k||g k) 0:Int):=by
 rw[bits_or_u64_nat _ _ (gS f 0) (gS g 0),AM]
def cE (cs:List Cd)(i j:Nat):Nat->Nat->Bool:=fun r k=>if r<i then fL cs r k else if r=i then(((cs.getD i cd0).ins.take j).any fun x=>decide (x.op=8)&&decide (x.a=(k:Int))) else false
theorem NJ (cs:List Cd):cE cs 0 0=fun _ _=>false:=by
 funext r k;unfold cE;rw[aw (by omega)];split<;>simp
theorem L9 {cs:List Cd}{i j an:Nat}{x:In}(hx:(cs.getD i cd0).ins[j]? =some x)(ho:x.op=8)(ha:x.a=(an:Int))(r k:Nat):oX (cE cs i j) i (fun k=>cE cs i j i k||decide (k=an)) r k=cE cs i (j+1) r k:=by
 unfold oX;by_cases e:r=i
 ·subst e;rw[ay rfl];show(cE cs r j r k||decide (k=an))=cE cs r (j+1) r k;unfold cE;rw[aw (by omega),ay rfl,aw (by omega),ay rfl,ft,hx,Option.toList_some,List.any_append];simp only[List.any_cons,List.any_nil,Bool.or_false,ho,ha,decide_true,iM];congr 1;by_cases h:k=an
  ·simp[h]
  ·have h2: ¬(an:Int)=(k:Int):=(by omega);simp[h,h2]
 ·rw[aw e];unfold cE;by_cases h:r<i
  ·rw[ay h,ay h]
  ·rw[aw h,aw h,aw e,aw e]
theorem Ma {cs:List Cd}{i j:Nat}{x:In}(hx:(cs.getD i cd0).ins[j]? =some x)(ho:x.op≠8):cE cs i j=cE cs i (j+1):=by
 funext r k;unfold cE;rw[ft,hx,Option.toList_some,List.any_append];simp[ho]
theorem NK {cs:List Cd}{i j:Nat}(hj:(cs.getD i cd0).ins.length<=j):cE cs i j=cE cs (i+1) 0:=by
 funext r k;unfold cE;rw[cj hj];by_cases h:r<i
 ·rw[ay h,ay (by omega)]
 ·rw[aw h];by_cases e:r=i
  ·rw[ay e,ay (by omega)];subst e;rfl
  ·rw[aw e,aw (by omega)];split<;>simp
def wE (E:Nat->Nat->Bool)(m i:Nat):Nat->Nat->Bool:=fun r k=>if r<i then wars E (m+1) r k else wars E m r k
theorem G6 (E:Nat->Nat->Bool)(m k:Nat):wars E (m+1) m k=wars E m m k:=by
 simp only[wars];cases wars E m m k<;>simp
theorem OY (E:Nat->Nat->Bool)(m i k:Nat):wE E m i m k=wars E m m k:=by
 unfold wE;split
 ·exact G6 E m k
 ·rfl
theorem BG (E:Nat->Nat->Bool)(m i k:Nat):wE E m i i k=wars E m i k:=aw (by omega)
theorem NL {E:Nat->Nat->Bool}{m i:Nat}(h:wE E m i i m=true)(r k:Nat):oX (wE E m i) i (fun k=>wE E m i i k||wE E m i m k) r k=wE E m (i+1) r k:=by
 unfold oX;rw[BG]at h;by_cases e:r=i
 ·subst e;rw[ay rfl];show(wE E m r r k||wE E m r m k)=_;rw[BG,OY];unfold wE;rw[ay (by omega)];simp only[wars,h,iM]
 ·rw[aw e];unfold wE;by_cases h:r<i
  ·rw[ay h,ay (by omega)]
  ·rw[aw h,aw (by omega)]
theorem OZ {E:Nat->Nat->Bool}{m i:Nat}(h:wE E m i i m=false)(r k:Nat):wE E m i r k=wE E m (i+1) r k:=by
 rw[BG]at h;unfold wE;by_cases e:r=i
 ·subst e;rw[aw (by omega),ay (by omega)];simp only[wars,h,Bool.false_and,Bool.or_false]
 ·by_cases h:r<i
  ·rw[ay h,ay (by omega)]
  ·rw[aw h,aw (by omega)]
def EA (cs:List Cd)(w:World)(t:Value)(wr:World):Prop:= ∃i:Nat,t=ag (i:Int)/\i<=cs.length/\UcM w cs.length (cE cs i 0) wr
def EB (cs:List Cd)(i n:Nat)(w:World)(t:Value)(wr:World):Prop:= ∃j:Nat,t=ag (j:Int)/\j<=n/\UcM w cs.length (cE cs i j) wr
def EC (cs:List Cd)(w:World)(t:Value)(wr:World):Prop:= ∃m:Nat,t=ag (m:Int)/\m<=cs.length/\UcM w cs.length (wE (fL cs) m 0) wr
def ED (cs:List Cd)(m:Nat)(w:World)(t:Value)(wr:World):Prop:= ∃i:Nat,t=ag (i:Int)/\i<=cs.length/\UcM w cs.length (wE (fL cs) m i) wr
def O0 (cs:List Cd)(w:World)(e:Ending)(w':World):Prop:=e= .returned (.slice (some (ae w.heap.size 0)) cs.length cs.length)/\UcM w cs.length (wars (fL cs) cs.length) w'
theorem Mb:(prog.info? 59).map (fun i=>(i.zero,i.size,i.bytes))=some (some (.int .u64 0),1,8):=by kernel_rfl
theorem JQ:prog.underlying 268=some (.slice 59):=by kernel_rfl
theorem BH (cs:List Cd)(lv:Value)(w:World)(h:InV w lv cs)(h40:cs.length<=40)(hok: ∀(i:Nat) (c:Cd),cs[i]? =some c->aloneE c cs.length=0):Calls prog 213 #[lv] w (O0 cs w):=by
 obtain⟨p,cp,rfl,hlen,hc⟩:=h.form;have HC:=aY hc;have HK:=aY hok;have hmk:=run_make_row' (P:=prog) 268 59 (.int .u64 0) 8 JQ Mb rfl .i64 .i64 cs.length (by omega) (by omega);rw[CZ]at hmk;have bA:=am w (.cells (ir cs.length (fun _ _=>false)) 59);have hst:UcM w cs.length (cE cs 0 0) (w.alloc (.cells (ir cs.length (fun _ _=>false)) 59)):=⟨bA,by rw[NJ];exact aC w _⟩
 have hI40:(cs.length:Int)<=40:=by omega
 have hI0:(0:Int)<=(cs.length:Int):=by omega
 generalize hwA:w.alloc (.cells (ir cs.length (fun _ _=>false)) 59)=wA at*;clear h hc hok bA;go_enter func213,ntmps213;go_wp2_with fail;clear hmk hwA;go_loopw [15] (fun t wr=>EA cs w t wr) (fun t _=>cs.length-(intOf t).toNat);case atStart=>exact⟨0,rfl,by omega,hst⟩
 case round=>
  obtain⟨ri,rfl,hi,hsA⟩:=hrel;clear hst;have hi0:(0:Int)<=(ri:Int):=(by omega);by_cases hlt:ri<cs.length
  ·have hlt':(ri:Int)<(cs.length:Int):=(by omega);obtain⟨u,hiu⟩: ∃u,cs[ri]? =some u:=⟨cs[ri],ax hlt⟩
   obtain⟨sv,hin,g,o,hpe,c0,c1,c2⟩:=HC.o ri _ hiu;have hcd:=iO hiu;have hal:=je (HK.o ri _ hiu);obtain⟨ul,hi,st⟩:=u;dsimp only at hin c0 c1 c2 hal;obtain⟨pu,cu,rfl,hlu,hcu⟩:=hin.form;subst hpe;have d0:=aj hsA.bel c0;have d1:=aj hsA.bel c1;have d2:=aj hsA.bel c2;have bI:=am wr (.cells #[.slice pu ul.length cu,ag hi,ag st] 208);have hsB:=hsA.below bI;have hxC:=aC wr (.cells #[.slice pu ul.length cu,ag hi,ag st] 208);have zc:=ak 0 hxC;generalize hwC:wr.alloc (.cells #[.slice pu ul.length cu,ag hi,ag st] 208)=wC at*;have hul0:(0:Int)<=(ul.length:Int):=(by omega);have hul1:ul.length<=2000:=hal.1.2;have HAL:=aY hal.2.2;have HCD:=aY hcd;have HCU:=aY hcu;have HSB:=aY hsB;clear hal hcd hcu hsA hin hiu c0 c1 c2 bI hsB hxC;go_wp2_with fail;clear d0 d1 d2 zc hwC;have hsB:=HSB.o;clear HSB;go_loopw [23] (fun t wr=>EB cs ri ul.length w t wr) (fun t _=>ul.length-(intOf t).toNat);case atStart=>exact⟨0,rfl,by omega,hsB⟩
   case round=>
    obtain⟨j,rfl,hj,hst⟩:=hrel;clear hsB;have hj0:(0:Int)<=(j:Int):=(by omega);by_cases hltj:j<ul.length
    ·have hltj':(j:Int)<(ul.length:Int):=(by omega);obtain⟨x,hjx⟩: ∃x,ul[j]? =some x:=⟨ul[j],ax hltj⟩
     obtain⟨sk,hrow,g2,o2,hpe,e0,e1,e2,e3,e4⟩:=HCU.o j _ hjx;subst hpe;have hie:=HAL.o j _ hjx;have hjx':(cs.getD ri cd0).ins[j]? =some x:=(by rw[HCD.o];exact hjx);have d0:=aj hst.bel e0;have d1:=aj hst.bel e1;have d2:=aj hst.bel e2;have d3:=aj hst.bel e3;have d4:=aj hst.bel e4;have hcall:x.op=8->0<=x.a/\x.a<cs.length:=fun ho=>vG hie ho;obtain⟨op,a,b,t,sp⟩:=x;dsimp only at d0 d1 d2 d3 d4 hrow hcall;obtain⟨ps,ck,rfl,_,_⟩:=hrow.form;have bI:=am wr (.cells #[ag op,ag a,ag b,ag t,.slice ps sp.length ck] 234);have hxI:=aC wr (.cells #[ag op,ag a,ag b,ag t,.slice ps sp.length ck] 234);have z0:=ak 0 hxI;have z1:=ak 1 hxI;have hst1:=hst.below bI;by_cases ho:op=8
     ·subst ho;obtain⟨a0,a1⟩:=hcall rfl;obtain⟨an,rfl⟩: ∃an:Nat,a=(an:Int):=⟨a.toNat,by omega⟩
      have han:an<64:=(by omega);have ha0:(0:Int)<=(an:Int):=(by omega);have ha1:(an:Int)<64:=(by omega);have HNX:P3 (∀W,UcM w cs.length (oX (cE cs ri j) ri (fun k=>cE cs ri j ri k||decide (k=an))) W->EB cs ri ul.length w (ag ((j+1:Nat):Int)) W):=fun W hW=>⟨j+1,rfl,by omega,hW.same fun r k _ _=>L9 hjx' rfl rfl r k⟩
      have hst:=hst1;generalize cE cs ri j=St at*;have HOR:=aY (NI (St ri) an han);have rc:=hst.cell hlt;generalize hwI:wr.alloc (.cells #[ag 8,ag (an:Int),ag b,ag t,.slice ps sp.length ck] 234)=wI at*;clear hst1 bI hxI hie hjx hjx' hrow hcall e0 e1 e2 e3 e4 HCU HAL HCD HC HK;go_wp2_with fail;obtain⟨gx,hgx⟩:=aq wr.heap.size;rw[hgx]at z1;simp only[hgx];clear hwI hgx z0 d0 d1 d2 d3 d4;have zx:=z1;clear z1;refine jz 9 [kn 30 (.slice (some (ae w.heap.size 0)) cs.length cs.length),kn 31 (ag (ri:Int)),kn 32 (ab w.heap.size ri),kn 33 (.int .u64 (wd (St ri) 0:Int)),kn 34 (ab gx 1),kn 35 (ag (an:Int)),kn 36 (.int .u64 (IntKind.u64.wrap (2^an))),kn 37 (.int .u64 (wd (fun k=>St ri k||decide (k=an)) 0:Int)),kn 38 (ab w.heap.size ri),nk] (by kernel_rfl) (by kernel_rfl) fun M φ W _ hJ F l hl hF=> ?_;have y0_:=aj hJ rc;have y1_:=aj hJ zx;have y2_:=HOR.o;simp only[kn,nk,dN,aQ,aW,Act.put,aB,aI,aH]at hl;subst hl;simp only[dg,Nat.reduceAdd]at hF;dsimp only[kn,nk,dC,en,dS,Act.put];and_intros;all_goals first|exact trivial|intro hw hn hm K hK
      all_goals try (go_simp;with_reducible exact hK _ _ ⟨rfl,aG _ _⟩)
      clear y0_ y1_ y2_;have hW:=(hst.below hJ).set ri (fun k=>St ri k||decide (k=an));have z:=aj hJ rc;have y:=(hst.below hJ).frz ri;have HN:=aY (HNX.o _ hW);clear hst HNX hW;go_simp;refine hK undef _ ⟨trivial,fun c=>by simp at c,fun _=> ?_⟩;simp only[dP,aQ,aW,Act.put,aB,aI,aH];clear hF hw hn hm;clear hK hJ z y;go_wp2_with fail;go_roundw
      case rel=>first
       |exact HN.o
       |((repeat apply iC);exact⟨HN.o,rfl⟩)
      case measure=>simp[intOf];omega
     ·have hob:(op==8)=false:=bf.2 ho;have HN:P3 (EB cs ri ul.length w (ag ((j+1:Nat):Int)) (wr.alloc (.cells #[ag op,ag a,ag b,ag t,.slice ps sp.length ck] 234))):=⟨j+1,rfl,by omega,by rw[<-Ma hjx' ho];exact hst1⟩
      generalize hwI:wr.alloc (.cells #[ag op,ag a,ag b,ag t,.slice ps sp.length ck] 234)=wI at*;clear hst1 bI hxI hie hjx hjx' hrow hcall e0 e1 e2 e3 e4 HCU HAL HCD HC HK hst ho;go_wp2_with fail;go_roundw
      case rel=>first
       |exact HN.o
       |((repeat apply iC);exact⟨HN.o,rfl⟩)
      case measure=>simp[intOf];omega
    ·have hltj': ¬(j:Int)<(ul.length:Int):=(by omega);have HN:P3 (EA cs w (ag ((ri+1:Nat):Int)) wr):=⟨ri+1,rfl,by omega,by rw[<-NK (j:=j) (by rw[HCD.o];show ul.length<=j;omega)];exact hst⟩
     clear hst HCU HAL HCD HC HK;go_wp2_with fail;go_roundw
     case rel=>first
      |exact HN.o
      |((repeat apply iC);exact⟨HN.o,rfl⟩)
     case measure=>simp[intOf];omega
  ·have hlt': ¬(ri:Int)<(cs.length:Int):=(by omega)
   have hsC:UcM w cs.length (wE (fL cs) 0 0) wr:=hsA.same fun r k hr _=>by
    unfold cE wE;rw[ay (by omega),aw (by omega)];rfl
   have HSC:=aY hsC;clear hsA HC HK hsC;go_wp2_with fail;have hst:=HSC.o;clear HSC;go_loopw [43] (fun t wr=>EC cs w t wr) (fun t _=>cs.length-(intOf t).toNat);case atStart=>exact⟨0,rfl,by omega,hst⟩
   case round=>
    obtain⟨m,rfl,hm,hsM⟩:=hrel;clear hst;have hm0:(0:Int)<=(m:Int):=(by omega);by_cases hltm:m<cs.length
    ·have hltm':(m:Int)<(cs.length:Int):=(by omega);have HSM:=aY hsM;clear hsM;go_wp2_with fail;have hsM:=HSM.o;clear HSM;go_loopw [48] (fun t wr=>ED cs m w t wr) (fun t _=>cs.length-(intOf t).toNat);case atStart=>exact⟨0,rfl,by omega,hsM⟩
     case round=>
      obtain⟨ri,rfl,hi,hst⟩:=hrel;clear hsM;have hr0:(0:Int)<=(ri:Int):=(by omega);by_cases hltr:ri<cs.length
      ·have hltr':(ri:Int)<(cs.length:Int):=(by omega);have rc:=hst.cell hltr;have rm:=hst.cell hltm;have cH:=DG (wE (fL cs) m ri ri) m (by omega) wr;cases hb:wE (fL cs) m ri ri m with
       |true=>
        rw[hb]at cH;have HNX:P3 (∀W,UcM w cs.length (oX (wE (fL cs) m ri) ri (fun k=>wE (fL cs) m ri ri k||wE (fL cs) m ri m k)) W->ED cs m w (ag ((ri+1:Nat):Int)) W):=fun W hW=>⟨ri+1,rfl,by omega,hW.same fun r k _ _=>NL hb r k⟩
        clear hb;generalize wE (fL cs) m ri=St at*;have HOR:=aY (L8 (St ri) (St m));go_wp2_with fail;refine cH.mono ?_;rintro e w1 ⟨rfl,rfl⟩;clear cH;go_wp2_with fail;refine jz 10 [kn 57 (.slice (some (ae w.heap.size 0)) cs.length cs.length),kn 58 (ag (ri:Int)),kn 59 (ab w.heap.size ri),kn 60 (.int .u64 (wd (St ri) 0:Int)),kn 61 (.slice (some (ae w.heap.size 0)) cs.length cs.length),kn 62 (ag (m:Int)),kn 63 (ab w.heap.size m),kn 64 (.int .u64 (wd (St m) 0:Int)),kn 65 (.int .u64 (wd (fun k=>St ri k||St m k) 0:Int)),kn 66 (ab w.heap.size ri),nk] (by kernel_rfl) (by kernel_rfl) fun M φ W _ hJ F l hl hF=> ?_;have y0_:=aj hJ rc;have y1_:=aj hJ rm;have y2_:=HOR.o;simp only[kn,nk,dN,aQ,aW,Act.put,aB,aI,aH]at hl;subst hl;simp only[dg,Nat.reduceAdd]at hF;dsimp only[kn,nk,dC,en,dS,Act.put];and_intros;all_goals first|exact trivial|intro hw hn hm K hK
        all_goals try (go_simp;with_reducible exact hK _ _ ⟨rfl,aG _ _⟩)
        clear y0_ y1_ y2_;have hW:=(hst.below hJ).set ri (fun k=>St ri k||St m k);have z:=aj hJ rc;have y:=(hst.below hJ).frz ri;have HN:=aY (HNX.o _ hW);clear hst HNX hW;go_simp;refine hK undef _ ⟨trivial,fun c=>by simp at c,fun _=> ?_⟩;simp only[dP,aQ,aW,Act.put,aB,aI,aH];clear hF hw hn hm;clear hK hJ z y;go_wp2_with fail;go_roundw
        case rel=>first
         |exact HN.o
         |((repeat apply iC);exact⟨HN.o,rfl⟩)
        case measure=>simp[intOf];omega
       |false=>
        rw[hb]at cH;have HN:P3 (ED cs m w (ag ((ri+1:Nat):Int)) wr):=⟨ri+1,rfl,by omega,hst.same fun r k _ _=>OZ hb r k⟩
        clear hb hst;generalize wE (fL cs) m ri=St at*;go_wp2_with fail;refine cH.mono ?_;rintro e w1 ⟨rfl,rfl⟩;clear cH;go_wp2_with fail;go_roundw
        case rel=>first
         |exact HN.o
         |((repeat apply iC);exact⟨HN.o,rfl⟩)
        case measure=>simp[intOf];omega
      ·have hltr': ¬(ri:Int)<(cs.length:Int):=(by omega)
       have HN:P3 (EC cs w (ag ((m+1:Nat):Int)) wr):=⟨m+1,rfl,by omega,hst.same fun r k hr _=>by
        unfold wE;rw[ay (by omega),aw (by omega)]⟩
       clear hst;go_wp2_with fail;go_roundw
       case rel=>first
        |exact HN.o
        |((repeat apply iC);exact⟨HN.o,rfl⟩)
       case measure=>simp[intOf];omega
    ·have hltm': ¬(m:Int)<(cs.length:Int):=(by omega)
     have HN:P3 (UcM w cs.length (wars (fL cs) cs.length) wr):=by
      show UcM _ _ _ _;have e:m=cs.length:=(by omega);subst e;exact hsM.same fun r k _ _=>(by unfold wE;rw[aw (by omega)])
     clear hsM;go_wp2_with fail;go_ret;exact⟨rfl,HN.o⟩
namespace Vx
section
variable {cs:List Cd} {l:List In}
theorem xn (x:In): -1<=eff x/\eff x<=1:=by
 unfold eff;split
 ·omega
 ·split<;>omega
theorem O1 (x:In):0<=tk x/\tk x<=2:=by
 unfold tk;split
 ·omega
 ·split<;>omega
theorem mN: ∀j:Nat,-(j:Int)<=hAt l j/\hAt l j<=j
 |0=>by simp[hAt]
 |j+1=>by
  have h1:=mN j;have h2:=xn (l.getD j in0);simp only[hAt];omega
theorem rG (hh: ∀i,(cs.getD i cd0).high<=100): ∀j:Nat,0<=mxH cs l j/\mxH cs l j<=j+100
 |0=>by simp[mxH]
 |j+1=>by
  have h1:=rG hh j;have h2:=mN (l:=l) j;have h3:=mN (l:=l) (j+1);have h4:=hh (l.getD j in0).a.toNat;simp only[mxH];split<;>omega
theorem rH (h0: ∀i,0<=(cs.getD i cd0).steps/\(cs.getD i cd0).steps<=20000): ∀j:Nat,(j:Int)<=stS cs l j/\stS cs l j<=j*20001
 |0=>by simp[stS]
 |j+1=>by
  have h1:=rH h0 j;have h4:=h0 (l.getD j in0).a.toNat;simp only[stS];split<;>omega
theorem Mc (h: ∀(i:Nat) (c:Cd),cs[i]? =some c->aloneE c cs.length=0)(i:Nat):(cs.getD i cd0).high<=100:=by
 cases hi:cs[i]? with
 |none=>simp[List.getD,hi,cd0]
 |some c=>
  rw[iO hi];have:=(je (h i c hi)).2.1;omega
theorem JR (h: ∀(i:Nat) (c:Cd),cs[i]? =some c->aloneE c cs.length=0)(i:Nat):0<=(cs.getD i cd0).steps/\(cs.getD i cd0).steps<=20000:=by
 cases hi:cs[i]? with
 |none=>simp[List.getD,hi,cd0]
 |some c=>
  rw[iO hi];have:=(je (h i c hi)).2.1;omega
def agB (L:List (Int×Int))(p h:Int):Bool:=match lk L p with
 |none=>true
 |some v=>decide (v=h)
theorem se {L:List (Int×Int)}{p h:Int}(e:agB L p h=true): ∀v,lk L p=some v->v=h:=fun v hv=>by
 unfold agB at e;rw[hv]at e;simpa using e
theorem qH {L:List (Int×Int)}{p h:Int}(e:agB L p h=false): ∃v,lk L p=some v/\v≠h:=by
 unfold agB at e;cases hl:lk L p with
 |none=>rw[hl]at e;cases e
 |some v=>rw[hl]at e;exact⟨v,rfl,by simpa using e⟩
theorem Md {L:List (Int×Int)}{p h:Int}:agB L p h=true↔ ∀v,lk L p=some v->v=h:=by
 constructor
 ·exact se
 ·intro hh;cases e:agB L p h with
  |true=>rfl
  |false=>
   obtain⟨v,h1,h2⟩:=qH e;exact absurd (hh v h1) h2
end
end Vx
end Go.Proofs.YtjkilacmkbmmbaaGreatDoor
