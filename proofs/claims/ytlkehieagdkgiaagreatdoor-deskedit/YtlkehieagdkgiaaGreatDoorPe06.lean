/- Texts of the proof. -/
import Derived.Test.YtlkehieagdkgiaaGreatDoorPe05
import Derived.Test.YtlkehieagdkgiaaGreatDoorPe01
import Derived.Laws.EntriesVeiled
import Derived.Deep.OwnRows
set_option maxRecDepth 100000
set_option maxHeartbeats 8000000
namespace Go.Proofs.YtlkehieagdkgiaaGreatDoor
open Go.Proofs.Tryz Go.RowKit Lx Vx Mx Msk
theorem sL:prog.underlying 216=some (.struct (prog.fieldsOf 216)):=by kernel_rfl
def nmD (op a b:Int):Bool:=if op=6 then decide (1<=a/\a<=127) else decide (0<=a/\a<=b/\b<146097)
theorem tS (op a b t:Int)(sv:Value)(w:World):Calls prog 227 #[.agg #[ag op,ag a,ag b,ag t,sv]] w fun r w'=>r= .returned (.bool (nmD op a b))/\aq w w':=by
 have c:=am w (.cells #[ag op,ag a,ag b,ag t,sv] 216);have d:=aG w (.cells #[ag op,ag a,ag b,ag t,sv] 216);generalize l:w.alloc (.cells #[ag op,ag a,ag b,ag t,sv] 216)=m at*;have n:=ak 0 d;have o:=ak 1 d;have p:=ak 2 d;have s:=ak 3 d;have u:=ak 4 d;by_cases f:op=6
 ·have e:nmD op a b=decide (1<=a/\a<=127):=aB f;rw[e];subst f;have c1:=lD a 1 127 m;generalize decide (1<=a/\a<=127)=q at*;go_enter func227,ntmps227;go_wp2_with fail;refine c1.mono ?_;rintro r w' ⟨rfl,rfl⟩;go_wp2_with fail;go_ret;exact⟨rfl,c⟩
 ·have e:nmD op a b=decide (0<=a/\a<=b/\b<146097):=ax f;have k:(op==6)=false:=bm.2 f;rw[e];by_cases g:0<=a
  ·by_cases i:a<=b
   ·by_cases j:b<146097
    ·rw[bh (⟨g,i,j⟩:0<=a/\a<=b/\b<146097)];go_enter func227,ntmps227;go_wp2_with fail;go_ret;exact⟨rfl,c⟩
    ·rw[bn (fun e:0<=a/\a<=b/\b<146097=>j e.2.2)];go_enter func227,ntmps227;go_wp2_with fail;go_ret;exact⟨rfl,c⟩
   ·rw[bn (fun e:0<=a/\a<=b/\b<146097=>i e.2.1)];go_enter func227,ntmps227;go_wp2_with fail;go_ret;exact⟨rfl,c⟩
  ·rw[bn (fun e:0<=a/\a<=b/\b<146097=>g e.1)];go_enter func227,ntmps227;go_wp2_with fail;go_ret;exact⟨rfl,c⟩
theorem MT (a b t:Int)(sv:Value)(k n r:Nat)(w:World):Calls prog 214 #[.agg #[ag 2,ag a,ag b,ag t,sv],ag (k:Int),ag (n:Int),ag (r:Int)] w fun e w'=>e= .returned (ag 0)/\aq w w':=by
 have d:=am w (.cells #[ag 2,ag a,ag b,ag t,sv] 216);have c:=aG w (.cells #[ag 2,ag a,ag b,ag t,sv] 216);generalize f:w.alloc (.cells #[ag 2,ag a,ag b,ag t,sv] 216)=g at*;have i:=ak 0 c;have j:=ak 1 c;have l:=ak 2 c;have m:=ak 3 c;have o:=ak 4 c;go_enter func214,ntmps214;go_wp2_with fail;go_ret;exact⟨rfl,d⟩
theorem MU (a b t:Int)(sv:Value)(k n r:Nat)(w:World):Calls prog 214 #[.agg #[ag 3,ag a,ag b,ag t,sv],ag (k:Int),ag (n:Int),ag (r:Int)] w fun e w'=>e= .returned (ag 0)/\aq w w':=by
 have d:=am w (.cells #[ag 3,ag a,ag b,ag t,sv] 216);have c:=aG w (.cells #[ag 3,ag a,ag b,ag t,sv] 216);generalize f:w.alloc (.cells #[ag 3,ag a,ag b,ag t,sv] 216)=g at*;have i:=ak 0 c;have j:=ak 1 c;have l:=ak 2 c;have m:=ak 3 c;have o:=ak 4 c;go_enter func214,ntmps214;go_wp2_with fail;go_ret;exact⟨rfl,d⟩
theorem MV (a b t:Int)(sv:Value)(k n r:Nat)(w:World):Calls prog 214 #[.agg #[ag 4,ag a,ag b,ag t,sv],ag (k:Int),ag (n:Int),ag (r:Int)] w fun e w'=>e= .returned (ag 0)/\aq w w':=by
 have d:=am w (.cells #[ag 4,ag a,ag b,ag t,sv] 216);have c:=aG w (.cells #[ag 4,ag a,ag b,ag t,sv] 216);generalize f:w.alloc (.cells #[ag 4,ag a,ag b,ag t,sv] 216)=g at*;have i:=ak 0 c;have j:=ak 1 c;have l:=ak 2 c;have m:=ak 3 c;have o:=ak 4 c;go_enter func214,ntmps214;go_wp2_with fail;go_ret;exact⟨rfl,d⟩
theorem MW (a b t:Int)(sv:Value)(k n r:Nat)(w:World)(sp:List (Int×Int))(h:oi w sv sp):Calls prog 214 #[.agg #[ag 1,ag a,ag b,ag t,sv],ag (k:Int),ag (n:Int),ag (r:Int)] w fun e w'=>e= .returned (ag (if risL sp (-1)=true then 0 else 2))/\aq w w':=by
 have d:=am w (.cells #[ag 1,ag a,ag b,ag t,sv] 216);have c:=aG w (.cells #[ag 1,ag a,ag b,ag t,sv] 216);generalize l:w.alloc (.cells #[ag 1,ag a,ag b,ag t,sv] 216)=o at*;have s:=ak 0 c;have v:=ak 1 c;have x:=ak 2 c;have y:=ak 3 c;have z:=ak 4 c;have c1:=FY sp sv o (h.later d);have i:=fun W=>my (risL sp (-1)) 2 W;generalize (if risL sp (-1)=true then(0:Int) else 2)=u at*;generalize risL sp (-1)=q at*;go_enter func214,ntmps214;go_wp2_with fail;refine c1.mono ?_;rintro e m ⟨rfl,f⟩;have g:=aw d f;have j:=i m;go_wp2_with fail;refine j.mono ?_;rintro e p ⟨rfl,rfl⟩;go_wp2_with fail;go_ret;exact⟨rfl,g⟩
theorem MX (a b t:Int)(sv:Value)(k n r:Nat)(w:World):Calls prog 214 #[.agg #[ag 5,ag a,ag b,ag t,sv],ag (k:Int),ag (n:Int),ag (r:Int)] w fun e w'=>e= .returned (ag (if a≠0/\ -1439<=a/\a<=1439 then 0 else 3))/\aq w w':=by
 have d:=am w (.cells #[ag 5,ag a,ag b,ag t,sv] 216);have c:=aG w (.cells #[ag 5,ag a,ag b,ag t,sv] 216);generalize m:w.alloc (.cells #[ag 5,ag a,ag b,ag t,sv] 216)=g at*;have v:=ak 0 c;have x:=ak 1 c;have y:=ak 2 c;have z:=ak 3 c;have A:=ak 4 c;by_cases ha:a=0
 ·subst ha;have f:=my false 3 g;rw[ax (fun e=>e.1 rfl)];go_enter func214,ntmps214;go_wp2_with fail;refine f.mono ?_;rintro e p ⟨rfl,rfl⟩;go_wp2_with fail;go_ret;exact⟨rfl,d⟩
 ·have j:(a==0)=false:=bm.2 ha;have c1:=lD a (-1439) 1439 g;have f:=my (decide (-1439<=a/\a<=1439)) 3 g
  have i:Rb ((if a≠0/\ -1439<=a/\a<=1439 then(0:Int) else 3)=if decide (-1439<=a/\a<=1439)=true then 0 else 3):=by
   show _=_;by_cases h: -1439<=a/\a<=1439
   ·rw[aB ⟨ha,h⟩,aB (bh h)]
   ·rw[ax (fun e=>h e.2),ax (by simpa using h)]
  rw[i.o];generalize (if decide (-1439<=a/\a<=1439)=true then(0:Int) else 3)=u at*;generalize decide (-1439<=a/\a<=1439)=q at*;have l:(a !=0)=true:=(by simpa using ha);go_enter func214,ntmps214;go_wp2_with fail;refine c1.mono ?_;rintro e s ⟨rfl,rfl⟩;go_wp2_with fail;refine f.mono ?_;rintro e p ⟨rfl,rfl⟩;go_wp2_with fail;go_ret;exact⟨rfl,d⟩
theorem MY (a b t:Int)(sv:Value)(k n r:Nat)(w:World)(x:k<=2000):Calls prog 214 #[.agg #[ag 6,ag a,ag b,ag t,sv],ag (k:Int),ag (n:Int),ag (r:Int)] w fun e w'=>e= .returned (ag (if(k:Int)+2<=t/\t<=n then(if nmD 6 a b=true then 0 else 3) else 8))/\aq w w':=by
 have d:=am w (.cells #[ag 6,ag a,ag b,ag t,sv] 216);have c:=aG w (.cells #[ag 6,ag a,ag b,ag t,sv] 216);generalize v:w.alloc (.cells #[ag 6,ag a,ag b,ag t,sv] 216)=j at*;have z:=ak 0 c;have A:=ak 1 c;have B:=ak 2 c;have C:=ak 3 c;have D:=ak 4 c;have p:(0:Int)<=(k:Int):=by omega
 have s:(k:Int)<=2000:=by omega
 have c1:=lD t ((k:Int)+2) (n:Int) j;have l:=tS 6 a b t sv j;have m:=fun W=>my (nmD 6 a b) 3 W;by_cases h:(k:Int)+2<=t/\t<=n
 ·rw[aB h];rw[bh h]at c1;generalize (if nmD 6 a b=true then(0:Int) else 3)=u at*;generalize nmD 6 a b=q at*;go_enter func214,ntmps214;go_wp2_with fail;refine c1.mono ?_;rintro e i ⟨rfl,rfl⟩;go_wp2_with(refine aR rfl 216 _ rfl _ rfl _ _ _ _ c sL rfl (by kernel_rfl) ?_)
  refine l.mono ?_;rintro e i ⟨rfl,f⟩;have g:=aw d f;have o:=m i;go_wp2_with fail;refine o.mono ?_;rintro e y ⟨rfl,rfl⟩;go_wp2_with fail;go_ret;exact⟨rfl,g⟩
 ·rw[ax h];rw[bn h]at c1;go_enter func214,ntmps214;go_wp2_with fail;refine c1.mono ?_;rintro e i ⟨rfl,rfl⟩;go_wp2_with fail;go_ret;exact⟨rfl,d⟩
theorem MZ (a b t:Int)(sv:Value)(k n r:Nat)(w:World)(x:k<=2000):Calls prog 214 #[.agg #[ag 7,ag a,ag b,ag t,sv],ag (k:Int),ag (n:Int),ag (r:Int)] w fun e w'=>e= .returned (ag (if(k:Int)+2<=t/\t<=n then(if nmD 7 a b=true then 0 else 3) else 8))/\aq w w':=by
 have d:=am w (.cells #[ag 7,ag a,ag b,ag t,sv] 216);have c:=aG w (.cells #[ag 7,ag a,ag b,ag t,sv] 216);generalize v:w.alloc (.cells #[ag 7,ag a,ag b,ag t,sv] 216)=j at*;have z:=ak 0 c;have A:=ak 1 c;have B:=ak 2 c;have C:=ak 3 c;have D:=ak 4 c;have p:(0:Int)<=(k:Int):=by omega
 have s:(k:Int)<=2000:=by omega
 have c1:=lD t ((k:Int)+2) (n:Int) j;have l:=tS 7 a b t sv j;have m:=fun W=>my (nmD 7 a b) 3 W;by_cases h:(k:Int)+2<=t/\t<=n
 ·rw[aB h];rw[bh h]at c1;generalize (if nmD 7 a b=true then(0:Int) else 3)=u at*;generalize nmD 7 a b=q at*;go_enter func214,ntmps214;go_wp2_with fail;refine c1.mono ?_;rintro e i ⟨rfl,rfl⟩;go_wp2_with(refine aR rfl 216 _ rfl _ rfl _ _ _ _ c sL rfl (by kernel_rfl) ?_)
  refine l.mono ?_;rintro e i ⟨rfl,f⟩;have g:=aw d f;have o:=m i;go_wp2_with fail;refine o.mono ?_;rintro e y ⟨rfl,rfl⟩;go_wp2_with fail;go_ret;exact⟨rfl,g⟩
 ·rw[ax h];rw[bn h]at c1;go_enter func214,ntmps214;go_wp2_with fail;refine c1.mono ?_;rintro e i ⟨rfl,rfl⟩;go_wp2_with fail;go_ret;exact⟨rfl,d⟩
theorem M1 (a b t:Int)(sv:Value)(k n r:Nat)(w:World):Calls prog 214 #[.agg #[ag 8,ag a,ag b,ag t,sv],ag (k:Int),ag (n:Int),ag (r:Int)] w fun e w'=>e= .returned (ag (if 0<=a/\a<r then 0 else 6))/\aq w w':=by
 have d:=am w (.cells #[ag 8,ag a,ag b,ag t,sv] 216);have c:=aG w (.cells #[ag 8,ag a,ag b,ag t,sv] 216);generalize j:w.alloc (.cells #[ag 8,ag a,ag b,ag t,sv] 216)=f at*;have p:=ak 0 c;have s:=ak 1 c;have v:=ak 2 c;have x:=ak 3 c;have y:=ak 4 c;have c1:=rg a (r:Int) f;have i:=my (decide (0<=a/\a<(r:Int))) 6 f
 have g:Rb ((if 0<=a/\a<(r:Int) then(0:Int) else 6)=if decide (0<=a/\a<(r:Int))=true then 0 else 6):=by
  show _=_;by_cases h:0<=a/\a<(r:Int)
  ·rw[aB h,aB (bh h)]
  ·rw[ax h,ax (by simpa using h)]
 rw[g.o];generalize (if decide (0<=a/\a<(r:Int))=true then(0:Int) else 6)=u at*;generalize decide (0<=a/\a<(r:Int))=q at*;go_enter func214,ntmps214;go_wp2_with fail;refine c1.mono ?_;rintro e l ⟨rfl,rfl⟩;go_wp2_with fail;refine i.mono ?_;rintro e m ⟨rfl,rfl⟩;go_wp2_with fail;go_ret;exact⟨rfl,d⟩
theorem M2 (op:Int)(a b t:Int)(sv:Value)(k n r:Nat)(w:World)(g:(op==1)=false)(i:(op==2)=false)(j:(op==3)=false)(l:(op==4)=false)(m:(op==5)=false)(o:(op==6)=false)(p:(op==7)=false)(q:(op==8)=false):Calls prog 214 #[.agg #[ag op,ag a,ag b,ag t,sv],ag (k:Int),ag (n:Int),ag (r:Int)] w fun e w'=>e= .returned (ag 1)/\aq w w':=by
 have d:=am w (.cells #[ag op,ag a,ag b,ag t,sv] 216);have c:=aG w (.cells #[ag op,ag a,ag b,ag t,sv] 216);generalize f:w.alloc (.cells #[ag op,ag a,ag b,ag t,sv] 216)=s at*;have u:=ak 0 c;have v:=ak 1 c;have x:=ak 2 c;have y:=ak 3 c;have z:=ak 4 c;go_enter func214,ntmps214;go_wp2_with fail;go_ret;exact⟨rfl,d⟩
theorem IC (x:In)(sv:Value)(k n r:Nat)(w:World)(h:oi w sv x.sp)(p:k<=2000):Calls prog 214 #[.agg #[ag x.op,ag x.a,ag x.b,ag x.to,sv],ag (k:Int),ag (n:Int),ag (r:Int)] w fun e w'=>e= .returned (ag (gg x k n r))/\aq w w':=by
 obtain⟨op,a,b,t,sp⟩:=x;dsimp only at h⊢;unfold gg;dsimp only;by_cases l:op=2
 ·subst l;exact MT a b t sv k n r w
 by_cases m:op=3
 ·subst m;exact MU a b t sv k n r w
 by_cases o:op=4
 ·subst o;exact MV a b t sv k n r w
 rw[ax (by omega)];by_cases d:op=1
 ·subst d;exact MW a b t sv k n r w sp h
 rw[ax d];by_cases f:op=5
 ·subst f;exact MX a b t sv k n r w
 rw[ax f];by_cases g:op=6
 ·subst g;have c:=MY a b t sv k n r w p;have e:nmD 6 a b=decide (1<=a/\a<=127):=aB rfl;rw[e]at c;rw[aB rfl];simpa only[bT] using c
 rw[ax g];by_cases i:op=7
 ·subst i;have c:=MZ a b t sv k n r w p;have e:nmD 7 a b=decide (0<=a/\a<=b/\b<146097):=ax (by decide);rw[e]at c;rw[aB rfl];simpa only[bT] using c
 rw[ax i];by_cases j:op=8
 ·subst j;exact M1 a b t sv k n r w
 rw[ax j];exact M2 op a b t sv k n r w (bm.2 d) (bm.2 l) (bm.2 m) (bm.2 o) (bm.2 f) (bm.2 g) (bm.2 i) (bm.2 j)
def yC (w:World)(v:Value)(xs:List (In×Value)):Prop:= ∃p c,v= .slice p xs.length c/\xs.length<9223372036854775808/\ ∀(j:Nat) (x:In×Value),xs[j]? =some x->oi w x.2 x.1.sp/\ ∃g o:Nat,p=some ⟨g,o,none⟩/\
 w.cell? (ae g (o+j*5))=some (ag x.1.op)/\w.cell? (ae g (o+j*5+1))=some (ag x.1.a)/\w.cell? (ae g (o+j*5+2))=some (ag x.1.b)/\w.cell? (ae g (o+j*5+3))=some (ag x.1.to)/\w.cell? (ae g (o+j*5+4))=some x.2
theorem yC.below {w w':World}{v:Value}{xs:List (In×Value)}(h:yC w v xs)(a:aq w w'):yC w' v xs:=by
 obtain⟨p,c,i,k,l⟩:=h;refine⟨p,c,i,k,fun j x m=> ?_⟩;obtain⟨r,g,o,e,c0,c1,b,d,f⟩:=l j x m;exact⟨r.later a,g,o,e,aj a c0,aj a c1,aj a b,aj a d,aj a f⟩
def pK (w:World)(v:Value)(l:List In):Prop:= ∃xs:List (In×Value),yC w v xs/\xs.map (fun x=>x.1)=l
theorem pK.below {w w':World}{v:Value}{l:List In}(h:pK w v l)(c:aq w w'):pK w' v l:=by
 obtain⟨xs,a,b⟩:=h;exact⟨xs,a.below c,b⟩
theorem pK.form {w:World}{v:Value}{l:List In}(h:pK w v l): ∃p c,v= .slice p l.length c/\l.length<9223372036854775808/\ ∀(j:Nat) (x:In),l[j]? =some x-> ∃sv:Value,oi w sv x.sp/\ ∃g o:Nat,p=some ⟨g,o,none⟩/\
  w.cell? (ae g (o+j*5))=some (ag x.op)/\w.cell? (ae g (o+j*5+1))=some (ag x.a)/\w.cell? (ae g (o+j*5+2))=some (ag x.b)/\w.cell? (ae g (o+j*5+3))=some (ag x.to)/\w.cell? (ae g (o+j*5+4))=some sv:=by
 obtain⟨xs,⟨p,c,f,i,k⟩,rfl⟩:=h;rw[bc];refine⟨p,c,f,i,fun j x d=> ?_⟩;rw[a8]at d;obtain⟨y,n,rfl⟩:=eh.1 d;obtain⟨r,g,o,e,m⟩:=k j y n;exact⟨y.2,r,g,o,e,m⟩
def InC (w:World)(v:Value)(a:List (Cd×Value)):Prop:= ∃p c,v= .slice p a.length c/\a.length<9223372036854775808/\ ∀(j:Nat) (u:Cd×Value),a[j]? =some u->pK w u.2 u.1.ins/\ ∃g o:Nat,p=some ⟨g,o,none⟩/\
 w.cell? (ae g (o+j*3))=some u.2/\w.cell? (ae g (o+j*3+1))=some (ag u.1.high)/\w.cell? (ae g (o+j*3+2))=some (ag u.1.steps)
theorem InC.below {w w':World}{v:Value}{b:List (Cd×Value)}(h:InC w v b)(a:aq w w'):InC w' v b:=by
 obtain⟨p,c,f,i,k⟩:=h;refine⟨p,c,f,i,fun j u l=> ?_⟩;obtain⟨r,g,o,e,c0,c1,d⟩:=k j u l;exact⟨r.below a,g,o,e,aj a c0,aj a c1,aj a d⟩
def InV (w:World)(v:Value)(b:List Cd):Prop:= ∃a:List (Cd×Value),InC w v a/\a.map (fun u=>u.1)=b
theorem InV.below {w w':World}{v:Value}{a:List Cd}(h:InV w v a)(d:aq w w'):InV w' v a:=by
 obtain⟨xs,b,c⟩:=h;exact⟨xs,b.below d,c⟩
theorem InV.form {w:World}{v:Value}{a:List Cd}(h:InV w v a): ∃p c,v= .slice p a.length c/\a.length<9223372036854775808/\ ∀(j:Nat) (u:Cd),a[j]? =some u-> ∃sv:Value,pK w sv u.ins/\ ∃g o:Nat,p=some ⟨g,o,none⟩/\
  w.cell? (ae g (o+j*3))=some sv/\w.cell? (ae g (o+j*3+1))=some (ag u.high)/\w.cell? (ae g (o+j*3+2))=some (ag u.steps):=by
 obtain⟨xs,⟨p,c,d,f,i⟩,rfl⟩:=h;rw[bc];refine⟨p,c,d,f,fun j x b=> ?_⟩;rw[a8]at b;obtain⟨y,l,rfl⟩:=eh.1 b;obtain⟨r,g,o,e,k⟩:=i j y l;exact⟨y.2,r,g,o,e,k⟩
theorem FZ (c:Cd)(sv:Value)(r:Nat)(w:World)(h:pK w sv c.ins):Calls prog 193 #[.agg #[sv,ag c.high,ag c.steps],ag (r:Int)] w fun e w'=>e= .returned (ag (aloneE c r))/\aq w w':=by
 obtain⟨p,J,rfl,C,hc⟩:=h.form;have S:=ba hc;generalize i:aloneE c r=X;unfold aloneE at i;obtain⟨l,hi,st⟩:=c;dsimp only at i C S⊢;have q:=am w (.cells #[.slice p l.length J,ag hi,ag st] 195);have s:=aG w (.cells #[.slice p l.length J,ag hi,ag st] 195);generalize ae:w.alloc (.cells #[.slice p l.length J,ag hi,ag st] 195)=R at*;have z0:=ak 0 s;have z1:=ak 1 s;have z2:=ak 2 s;have ad:(0:Int)<=(l.length:Int):=by omega
 have c1:=lD (l.length:Int) 1 2000 R;by_cases U:1<=l.length/\l.length<=2000
 ·rw[ax (fun e=>e U)]at i;rw[bh (show(1:Int)<=(l.length:Int)/\(l.length:Int)<=2000 by omega)]at c1;have A:=lD hi 1 100 R;by_cases K:1<=hi/\hi<=100
  ·rw[bh K]at A;have H:=lD st 1 20000 R;by_cases L:1<=st/\st<=20000
   ·rw[bh L]at H;rw[ax (fun e=>e ⟨K,L⟩)]at i;have W:Rb (qe (l.drop 0) 0 l.length r=X):=i;go_enter func193,ntmps193;go_wp2_with fail;refine c1.mono ?_;rintro e G ⟨rfl,rfl⟩;go_wp2_with fail;refine A.mono ?_;rintro e V ⟨rfl,rfl⟩;go_wp2_with fail;refine H.mono ?_;rintro e w3 ⟨rfl,rfl⟩;go_wp2_with fail;go_loopw [26] (fun t wr=> ∃j:Nat,t=ag (j:Int)/\j<=l.length/\qe (l.drop j) j l.length r=X/\wr.heap[w.heap.size]? =ah #[.slice p l.length J,ag hi,ag st] 195/\aq w wr) (fun t _=>l.length-(intOf t).toNat);case atStart=>exact⟨0,rfl,by omega,W.o,s,q⟩
    case round=>
     obtain⟨j,rfl,hj,f,Q,d⟩:=hrel;have ac:(0:Int)<=(j:Int):=(by omega);by_cases O:j<l.length
     ·have D:(j:Int)<(l.length:Int):=(by omega);obtain⟨x,B⟩: ∃x,l[j]? =some x:=⟨l[j],ay O⟩
      rw[Iz B]at f;obtain⟨sk,m,g,o,P,e0,e1,e2,e3,e4⟩:=S.o j _ B;subst P;have Y:=aj d e0;have Z:=aj d e1;have d2:=aj d e2;have d3:=aj d e3;have d4:=aj d e4;obtain⟨op,a,b,t,sp⟩:=x;dsimp only at Y Z d2 d3 d4 m;obtain⟨M,I,rfl,_,_⟩:=m.form;have T:=am wr (.cells #[ag op,ag a,ag b,ag t,.slice M sp.length I] 216);have E:=aG wr (.cells #[ag op,ag a,ag b,ag t,.slice M sp.length I] 216);have v:=aw d T;have u:=ai T Q;have k:=IC ⟨op,a,b,t,sp⟩ (.slice M sp.length I) j l.length r (wr.alloc (.cells #[ag op,ag a,ag b,ag t,.slice M sp.length I] 216)) (m.later v) (by omega);dsimp only at k;have z0:=ak 0 u;by_cases z:gg ⟨op,a,b,t,sp⟩ j l.length r=0
      ·rw[ax (fun e=>e z)]at f;rw[z]at k;have N:=ba f;go_wp2_with(refine aR rfl 216 _ rfl _ rfl _ _ _ _ E sL rfl (by kernel_rfl) ?_)
       refine k.mono ?_;rintro e G ⟨rfl,n⟩;have y:=aw v n;have F:=ai n u;go_wp2_with fail;go_roundw;case rel=>exact⟨j+1,by go_num,by omega,N.o,F,y⟩
       case measure=>simp[intOf];omega
      ·rw[aB z]at f;rw[f]at k z;have aa:(X==0)=false:=bm.2 z;have ab:(X !=0)=true:=(by simpa using z);go_wp2_with(refine aR rfl 216 _ rfl _ rfl _ _ _ _ E sL rfl (by kernel_rfl) ?_)
       refine k.mono ?_;rintro e G ⟨rfl,n⟩;have y:=aw v n;go_wp2_with fail;go_ret;exact⟨rfl,y⟩
     ·have D: ¬(j:Int)<(l.length:Int):=(by omega)
      have N:Rb (X=0):=by
       show _=_;rw[<-f,dq (by omega)];rfl
      go_wp2_with fail;go_ret;exact⟨by(rw[N.o])<;>rfl,d⟩
   ·rw[bn L]at H;rw[aB (fun e=>L e.2)]at i;subst i;go_enter func193,ntmps193;go_wp2_with fail;refine c1.mono ?_;rintro e G ⟨rfl,rfl⟩;go_wp2_with fail;refine A.mono ?_;rintro e V ⟨rfl,rfl⟩;go_wp2_with fail;refine H.mono ?_;rintro e w3 ⟨rfl,rfl⟩;go_wp2_with fail;go_ret;exact⟨rfl,q⟩
  ·rw[bn K]at A;rw[aB (fun e=>K e.1)]at i;subst i;go_enter func193,ntmps193;go_wp2_with fail;refine c1.mono ?_;rintro e G ⟨rfl,rfl⟩;go_wp2_with fail;refine A.mono ?_;rintro e V ⟨rfl,rfl⟩;go_wp2_with fail;go_ret;exact⟨rfl,q⟩
 ·rw[aB U]at i;subst i;rw[bn (show¬((1:Int)<=(l.length:Int)/\(l.length:Int)<=2000) by omega)]at c1;go_enter func193,ntmps193;go_wp2_with fail;refine c1.mono ?_;rintro e G ⟨rfl,rfl⟩;go_wp2_with fail;go_ret;exact⟨rfl,q⟩
theorem mz:prog.underlying 48=some (.struct (prog.fieldsOf 48)):=by kernel_rfl
theorem rh {c:Func}(s:Nat)(h:c.results= #[ResultVar.cell s 48]){R:Ending->World->Prop}{a:Act}{w:World}(g:Nat)(er at_:Int)(f:a.defers=[])(d:a.tmps.getD s undef=ab g 0)
  (i:w.heap[g]? =ah #[ag er,ag at_] 48) (e:R (.returned (.agg #[ag er,ag at_])) w):bodyPost prog c R .ret a w:=by
 refine aX (v:= .agg #[ag er,ag at_]) ?_ f e;have b:a.tmps[s]?.getD undef=ab g 0:=by simpa using d
 have j:=en (P:=prog) w g 48 48 _ _ _ i mz rfl (by kernel_rfl);simp[results,h,b,asAddr,j]
theorem DQ (E:Nat->Int)(n j:Nat)(h:j<n):gW E (n-j) j=if E j≠0 then(E j,j) else gW E (n-(j+1)) (j+1):=by
 rw[show n-j=(n-(j+1))+1 by omega];rfl
theorem sM (E:Nat->Int)(n K:Nat)(C:Array Value)(p:Option Addr)(c:Nat)(w:World)(M:n<9223372036854775808)(J: ∀k w,(callFunc K k).run prog w= .ok (.enter K k) w)
  (s: ∀(i:Nat) (wr:World),i<n->aq w wr->Calls prog K (#[ag (i:Int)]++C) wr fun e w'=>e= .returned (ag (E i))/\aq wr w'):
  Calls prog 191 #[.slice p n c,.func (.func K) #[] C] w fun e w'=>e= .returned (.agg #[ag (gW E n 0).1,ag ((gW E n 0).2:Int)])/\aq w w':=by
 have z:=ba s;generalize F:gW E n 0=X;have A:Rb (gW E (n-0) 0=X):=F;have x:=am w (.cells #[ag 0,ag 0] 48);have y:=aG w (.cells #[ag 0,ag 0] 48);generalize H:w.alloc (.cells #[ag 0,ag 0] 48)=N at*;go_enter func191,ntmps191;go_wp2_with fail;go_loopw [9] (fun t wr=> ∃j:Nat,t=ag (j:Int)/\j<=n/\gW E (n-j) j=X/\wr.heap[w.heap.size]? =ah #[ag 0,ag 0] 48/\aq w wr) (fun t _=>n-(intOf t).toNat);case atStart=>exact⟨0,rfl,by omega,A.o,y,x⟩
 case round=>
  obtain⟨j,rfl,L,b,a,g⟩:=hrel;have G:(0:Int)<=(j:Int):=(by omega);by_cases u:j<n
  ·have v:(j:Int)<(n:Int):=(by omega);have s:=z.o j wr u g;rw[DQ E n j u]at b;by_cases r:E j=0
   ·rw[ax (fun e=>e r)]at b;rw[r]at s;have m:=ba b;go_wp2_with fail;refine s.mono ?_;rintro e I ⟨rfl,d⟩;have l:=aw g d;have f:=ai d a;go_wp2_with fail;go_roundw;case rel=>exact⟨j+1,by go_num,by omega,m.o,f,l⟩
    case measure=>simp[intOf];omega
   ·rw[aB r]at b;have m:=ba b;generalize E j=q at*;have B:(q==0)=false:=bm.2 r;have D:(q !=0)=true:=(by simpa using r);go_wp2_with fail;refine s.mono ?_;rintro e I ⟨rfl,d⟩;have l:=aw g d;have f:=ai d a;have a:=f;go_wp2_with(refine az rfl 48 _ _ rfl _ _ rfl rfl _ _ a (by kernel_rfl) (by simp) (by simp[Value.oneCell']) ?_)
    exact rh 4 (by kernel_rfl) w.heap.size q (j:Int) rfl rfl (aL _ _ _ _ _ _ a) ⟨by rw[<-m.o],below_setRow l (aD _) _⟩
  ·have v: ¬(j:Int)<(n:Int):=(by omega)
   have m:Rb (X=(0,0)):=by
    show _=_;rw[<-b,show n-j=0 by omega];rfl
   go_wp2_with(refine az rfl 48 _ _ rfl _ _ rfl rfl _ _ a (by kernel_rfl) (by simp) (by simp[Value.oneCell']) ?_)
   exact rh 4 (by kernel_rfl) w.heap.size 0 0 rfl rfl (aL _ _ _ _ _ _ a) ⟨by(rw[m.o])<;>rfl,below_setRow g (aD _) _⟩
theorem F0 (a:List Cd)(lv:Value)(t b:Nat)(w:World)(h:InV w lv a)(I:w.cell? (ae t 0)=some lv)(k:b<a.length):
  Calls prog 192 #[ag (b:Int),ab t 0] w fun e w'=>e= .returned (ag (aloneE (a.getD b cd0) a.length))/\aq w w':=by
 obtain⟨p,n,rfl,x,D⟩:=h.form;obtain⟨u,d⟩: ∃u,a[b]? =some u:=⟨a[b],ay k⟩
 obtain⟨sv,j,g,o,rfl,y,r,s⟩:=D b u d;rw[jl d];have m:Rb (∀W,aq w W->Calls prog 193 #[.agg #[sv,ag u.high,ag u.steps],ag (a.length:Int)] W fun e w'=>e= .returned (ag (aloneE u a.length))/\aq W w'):=fun W B=>FZ u sv a.length W (j.below B);generalize aloneE u a.length=q at*;obtain⟨R,hi,st⟩:=u;dsimp only at r s m;have G:(0:Int)<=(b:Int):=by omega
 have H:(b:Int)<(a.length:Int):=by omega
 go_enter func192,ntmps192;go_wp2_with fail;refine dl (fun _ _ W=>aq w W) [kn 4 (.slice (some (ae g o)) a.length n),kn 5 (ag (b:Int)),kn 6 (ab g (o+b*3)),kn 7 (.agg #[sv,ag hi,ag st]),kn 8 (.slice (some (ae g o)) a.length n),kn 9 (ag (a.length:Int)),kn 10 (ag q),kn 3 (ag q)] (fun _=>(aH _ _).drew) (fun _ _ _ _ C h=>aw h C) (by kernel_rfl) (fun M φ W c E F l f A=> ?_) (fun M φ W N c=> ?_)
 ·simp only[kn,dX,aQ,aT,Act.put,aA,aK,aJ]at f;subst f;simp only[dn,Nat.reduceAdd]at A;have z:=aj c I;have f0:=aj c y;have f1:=aj c r;have f2:=aj c s;dsimp only[kn,dy,eJ,dY,Act.put];and_intros;all_goals first|exact trivial|intro Q P O K v
  all_goals try (go_simp;with_reducible exact v _ _ ⟨rfl,aH _ _⟩)
  go_simp;refine(m.o W c).mono ?_;rintro L J ⟨rfl,i⟩;exact v _ _ ⟨rfl,i⟩
 ·simp only[kn,d8,aQ,aT,Act.put,aA,aK,aJ];go_wp2_with fail;go_ret;exact⟨rfl,c⟩
theorem M4 (f:Nat->Bool)(n:Nat)(g:n<64):(bits BinOp.and IntKind.u64 ((wd f 0:Int)/2^n) 1==1)=f n:=by
 have c:((wd f 0:Int)/2^n)=((wd f 0/2^n:Nat):Int):=by push_cast;rfl
 have a:wd f 0/2^n<18446744073709551616:=Nat.lt_of_le_of_lt (Nat.div_le_self _ _) (iq f 0)
 have d:bits BinOp.and IntKind.u64 ((wd f 0/2^n:Nat):Int) 1=((wd f 0/2^n&&&1:Nat):Int):=by
  have:=bits_and_u64_nat (wd f 0/2^n) 1 a (by decide);exact this
 rw[c,d,Nat.and_one_is_mod];have b:=jB f 0 n;rw[bh g,ip,Nat.mul_zero,cY]at b
 have e:(wd f 0).testBit n=decide ((wd f 0/2^n)%2=1):=by
  rw[Nat.testBit_eq_decide_div_mod_eq]
 rw[<-b,e];have:wd f 0/2^n%2=0\/wd f 0/2^n%2=1:=by omega
 rcases this with h|h
 ·rw[h];rfl
 ·rw[h];rfl
theorem EI (f:Nat->Bool)(n:Nat)(c:n<64)(w:World):Calls prog 196 #[.int .u64 (wd f 0:Int),ag (n:Int)] w fun e w'=>e= .returned (.bool (f n))/\w'=w:=by
 have d:(0:Int)<=(n:Int):=by omega
 have g:(n:Int)<64:=by omega
 have a:=ba (M4 f n c);go_enter func196,ntmps196;go_wp2_with fail;go_ret;exact⟨congrArg (fun b=>Ending.returned (.bool b)) a.o,rfl⟩
theorem Cx (x:In)(w:World):Calls prog 229 #[ag x.op] w fun e w'=>e= .returned (.tuple #[ag (tk x),ag (tk x+eff x)])/\w'=w:=by
 obtain⟨op,a,b,t,sp⟩:=x;unfold tk eff;dsimp only;by_cases d:op=1
 ·subst d;go_enter func229,ntmps229;go_wp2_with fail;exact aX (v:= .tuple #[ag 0,ag 1]) (by simp[results,results229,go_sem]) rfl ⟨rfl,rfl⟩
 by_cases j:op=8
 ·subst j;go_enter func229,ntmps229;go_wp2_with fail;exact aX (v:= .tuple #[ag 0,ag 1]) (by simp[results,results229,go_sem]) rfl ⟨rfl,rfl⟩
 by_cases c:op=5
 ·subst c;go_enter func229,ntmps229;go_wp2_with fail;exact aX (v:= .tuple #[ag 1,ag 1]) (by simp[results,results229,go_sem]) rfl ⟨rfl,rfl⟩
 by_cases f:op=2
 ·subst f;go_enter func229,ntmps229;go_wp2_with fail;exact aX (v:= .tuple #[ag 2,ag 1]) (by simp[results,results229,go_sem]) rfl ⟨rfl,rfl⟩
 by_cases g:op=3
 ·subst g;go_enter func229,ntmps229;go_wp2_with fail;exact aX (v:= .tuple #[ag 2,ag 1]) (by simp[results,results229,go_sem]) rfl ⟨rfl,rfl⟩
 by_cases i:op=4
 ·subst i;go_enter func229,ntmps229;go_wp2_with fail;exact aX (v:= .tuple #[ag 2,ag 1]) (by simp[results,results229,go_sem]) rfl ⟨rfl,rfl⟩
 rw[ax c,ax (by omega),ax (by omega),ax (by omega)];have b1:(op==1)=false:=bm.2 d;have b2:(op==2)=false:=bm.2 f;have b3:(op==3)=false:=bm.2 g;have k:(op==4)=false:=bm.2 i;have b5:(op==5)=false:=bm.2 c;have l:(op==8)=false:=bm.2 j;go_enter func229,ntmps229;go_wp2_with fail;exact aX (v:= .tuple #[ag 0,ag 0]) (by simp[results,results229,go_sem]) rfl ⟨rfl,rfl⟩
def iR (n:Nat)(R:Nat->Nat->Bool):Array Value:=((List.range n).map fun i=>Value.int .u64 (wd (R i) 0:Int)).toArray
theorem AM {n:Nat}{R:Nat->Nat->Bool}{i:Nat}(h:i<n):(iR n R)[i]? =some (.int .u64 (wd (R i) 0:Int)):=by
 simp[iR,h]
theorem F1 {n:Nat}{R a:Nat->Nat->Bool}(h: ∀i k,i<n->k<64->R i k=a i k):iR n R=iR n a:=by
 unfold iR;congr 1;apply List.map_congr_left;intro i hi;rw[nO fun j b=> ?_];rw[Nat.mul_zero,cY];exact h i j (jn.1 hi) b
def qf (R:Nat->Nat->Bool)(i:Nat)(f:Nat->Bool):Nat->Nat->Bool:=fun r k=>if r=i then f k else R r k
theorem F2 {n:Nat}{R:Nat->Nat->Bool}{i:Nat}{f:Nat->Bool}:(iR n R).setIfInBounds i (.int .u64 (wd f 0:Int))=iR n (qf R i f):=by
 apply Array.ext
 ·simp[iR]
 ·intro k d b;have c:k<n:=(by simpa[iR] using b);rw[Array.getElem_setIfInBounds (by simpa[iR] using c)];by_cases e:i=k
  ·subst e;have a:qf R i f i=f:=(by funext q;simp[qf]);simp[iR,a]
  ·rw[ax e];have a:qf R i f k=R k:=(by funext q;simp[qf,show k≠i from fun h=>e h.symm]);simp[iR,a]
theorem DR (n:Nat):madeCells #[Value.int .u64 0] n=iR n (fun _ _=>false):=by
 apply Array.ext
 ·simp[iR,madeCells]
 ·intro k a b;simp[iR,madeCells,Nat.mod_one,Er]
structure UcM (w:World)(n:Nat)(R:Nat->Nat->Bool)(W:World):Prop where
 bel:aq w W
 row:W.heap[w.heap.size]? =ah (iR n R) 53
theorem UcM.below {w W a:World}{n:Nat}{R:Nat->Nat->Bool}(h:UcM w n R W)(b:aq W a):UcM w n R a:=
 ⟨aw h.bel b,ai b h.row⟩
theorem UcM.same {w W:World}{n:Nat}{R a:Nat->Nat->Bool}(h:UcM w n R W)(b: ∀i k,i<n->k<64->R i k=a i k):UcM w n a W:=
 ⟨h.bel,by rw[h.row,F1 b]⟩
theorem UcM.cell {w W:World}{n:Nat}{R:Nat->Nat->Bool}(h:UcM w n R W){i:Nat}(hi:i<n):W.cell? (ae w.heap.size i)=some (.int .u64 (wd (R i) 0:Int)):=(aZ _ _ i _ _ _ h.row).trans (AM hi)
theorem UcM.frz {w W:World}{n:Nat}{R:Nat->Nat->Bool}(h:UcM w n R W)(i:Nat):W.frozen? (ae w.heap.size i)=false:=bo _ _ i _ _ h.row
theorem UcM.set {w W:World}{n:Nat}{R:Nat->Nat->Bool}(h:UcM w n R W)(i:Nat)(f:Nat->Bool):UcM w n (qf R i f) (W.setCell ⟨w.heap.size,i,none⟩ (.int .u64 (wd f 0:Int))):=by
 refine⟨h.bel.setCell (aD _) _,?_⟩;rw[<-F2];exact aY W w.heap.size i _ _ _ h.row
theorem ON (f:Nat->Bool)(a:Nat)(ha:a<64):bits BinOp.or IntKind.u64 (wd f 0:Int) (IntKind.u64.wrap (2^a))=(wd (fun k=>f k||decide (k=a)) 0:Int):=by
 have b:(2:Nat)^a<18446744073709551616:=by
  have:=Nat.pow_lt_pow_right (a:=2) (by omega) ha;simpa using this
 have c:IntKind.u64.wrap ((2:Int)^a)=((2^a:Nat):Int):=by
  rw[ie];have:((2:Int)^a)=((2^a:Nat):Int):=(by push_cast;rfl);rw[this];generalize (2^a:Nat)=y at*;omega
 rw[c,bits_or_u64_nat _ _ (iq f 0) b];congr 1;refine nN _ 0 _ (Nat.or_lt_two_pow (n:=64) (iq f 0) b) fun j d=> ?_;rw[Nat.testBit_or,jB,bh d,ip,Nat.mul_zero,cY,Nat.testBit_two_pow];congr 1;by_cases e:a=j
 ·simp[e]
 ·simp[e,show¬j=a from fun h=>e h.symm]
theorem M5 (f g:Nat->Bool):bits BinOp.or IntKind.u64 (wd f 0:Int) (wd g 0:Int)=(wd (fun k=>f k||g k) 0:Int):=by
 rw[bits_or_u64_nat _ _ (iq f 0) (iq g 0),BD]
def cE (b:List Cd)(i j:Nat):Nat->Nat->Bool:=fun r k=>if r<i then gL b r k else if r=i then(((b.getD i cd0).ins.take j).any fun x=>decide (x.op=8)&&decide (x.a=(k:Int))) else false
theorem OO (a:List Cd):cE a 0 0=fun _ _=>false:=by
 funext r k;unfold cE;rw[ax (by omega)];split<;>simp
theorem M6 {b:List Cd}{i j c:Nat}{x:In}(g:(b.getD i cd0).ins[j]? =some x)(f:x.op=8)(ha:x.a=(c:Int))(r k:Nat):qf (cE b i j) i (fun k=>cE b i j i k||decide (k=c)) r k=cE b i (j+1) r k:=by
 unfold qf;by_cases e:r=i
 ·subst e;rw[aB rfl];show(cE b r j r k||decide (k=c))=cE b r (j+1) r k;unfold cE;rw[ax (by omega),aB rfl,ax (by omega),aB rfl,eX,g,Option.toList_some,List.any_append];simp only[List.any_cons,List.any_nil,Bool.or_false,f,ha,decide_true,ip];congr 1;by_cases h:k=c
  ·simp[h]
  ·have d: ¬(c:Int)=(k:Int):=(by omega);simp[h,d]
 ·rw[ax e];unfold cE;by_cases h:r<i
  ·rw[aB h,aB h]
  ·rw[ax h,ax h,ax e,ax e]
theorem M7 {a:List Cd}{i j:Nat}{x:In}(c:(a.getD i cd0).ins[j]? =some x)(b:x.op≠8):cE a i j=cE a i (j+1):=by
 funext r k;unfold cE;rw[eX,c,Option.toList_some,List.any_append];simp[b]
theorem OP {a:List Cd}{i j:Nat}(b:(a.getD i cd0).ins.length<=j):cE a i j=cE a (i+1) 0:=by
 funext r k;unfold cE;rw[dh b];by_cases h:r<i
 ·rw[aB h,aB (by omega)]
 ·rw[ax h];by_cases e:r=i
  ·rw[aB e,aB (by omega)];subst e;rfl
  ·rw[ax e,ax (by omega)];split<;>simp
def wE (E:Nat->Nat->Bool)(m i:Nat):Nat->Nat->Bool:=fun r k=>if r<i then wars E (m+1) r k else wars E m r k
theorem ID (E:Nat->Nat->Bool)(m k:Nat):wars E (m+1) m k=wars E m m k:=by
 simp only[wars];cases wars E m m k<;>simp
theorem P3 (E:Nat->Nat->Bool)(m i k:Nat):wE E m i m k=wars E m m k:=by
 unfold wE;split
 ·exact ID E m k
 ·rfl
theorem Cy (E:Nat->Nat->Bool)(m i k:Nat):wE E m i i k=wars E m i k:=ax (by omega)
theorem OQ {E:Nat->Nat->Bool}{m i:Nat}(h:wE E m i i m=true)(r k:Nat):qf (wE E m i) i (fun k=>wE E m i i k||wE E m i m k) r k=wE E m (i+1) r k:=by
 unfold qf;rw[Cy]at h;by_cases e:r=i
 ·subst e;rw[aB rfl];show(wE E m r r k||wE E m r m k)=_;rw[Cy,P3];unfold wE;rw[aB (by omega)];simp only[wars,h,ip]
 ·rw[ax e];unfold wE;by_cases h:r<i
  ·rw[aB h,aB (by omega)]
  ·rw[ax h,ax (by omega)]
theorem P4 {E:Nat->Nat->Bool}{m i:Nat}(h:wE E m i i m=false)(r k:Nat):wE E m i r k=wE E m (i+1) r k:=by
 rw[Cy]at h;unfold wE;by_cases e:r=i
 ·subst e;rw[ax (by omega),aB (by omega)];simp only[wars,h,Bool.false_and,Bool.or_false]
 ·by_cases h:r<i
  ·rw[aB h,aB (by omega)]
  ·rw[ax h,ax (by omega)]
def EA (a:List Cd)(w:World)(t:Value)(wr:World):Prop:= ∃i:Nat,t=ag (i:Int)/\i<=a.length/\UcM w a.length (cE a i 0) wr
def EB (a:List Cd)(i n:Nat)(w:World)(t:Value)(wr:World):Prop:= ∃j:Nat,t=ag (j:Int)/\j<=n/\UcM w a.length (cE a i j) wr
def EC (a:List Cd)(w:World)(t:Value)(wr:World):Prop:= ∃m:Nat,t=ag (m:Int)/\m<=a.length/\UcM w a.length (wE (gL a) m 0) wr
def ED (a:List Cd)(m:Nat)(w:World)(t:Value)(wr:World):Prop:= ∃i:Nat,t=ag (i:Int)/\i<=a.length/\UcM w a.length (wE (gL a) m i) wr
def P5 (a:List Cd)(w:World)(e:Ending)(w':World):Prop:=e= .returned (.slice (some (ae w.heap.size 0)) a.length a.length)/\UcM w a.length (wars (gL a) a.length) w'
theorem M8:(prog.info? 53).map (fun i=>(i.zero,i.size,i.bytes))=some (some (.int .u64 0),1,8):=by kernel_rfl
theorem KN:prog.underlying 253=some (.slice 53):=by kernel_rfl
theorem Cz (d:List Cd)(lv:Value)(w:World)(h:InV w lv d)(aN:d.length<=40)(a6: ∀(i:Nat) (c:Cd),d[i]? =some c->aloneE c d.length=0):Calls prog 194 #[lv] w (P5 d w):=by
 obtain⟨p,cp,rfl,aI,hc⟩:=h.form;have HC:=ba hc;have HK:=ba a6;have a5:=run_make_row' (P:=prog) 253 53 (.int .u64 0) 8 KN M8 rfl .i64 .i64 d.length (by omega) (by omega);rw[DR]at a5;have bA:=am w (.cells (iR d.length (fun _ _=>false)) 53);have n:UcM w d.length (cE d 0 0) (w.alloc (.cells (iR d.length (fun _ _=>false)) 53)):=⟨bA,by rw[OO];exact aG w _⟩
 have aF:(d.length:Int)<=40:=by omega
 have aO:(0:Int)<=(d.length:Int):=by omega
 generalize aZ:w.alloc (.cells (iR d.length (fun _ _=>false)) 53)=wA at*;go_enter func194,ntmps194;go_wp2_with fail;go_loopw [15] (fun t wr=>EA d w t wr) (fun t _=>d.length-(intOf t).toNat);case atStart=>exact⟨0,rfl,by omega,n⟩
 case round=>
  obtain⟨f,rfl,hi,C⟩:=hrel;have aS:(0:Int)<=(f:Int):=(by omega);by_cases ad:f<d.length
  ·have af:(f:Int)<(d.length:Int):=(by omega);obtain⟨u,O⟩: ∃u,d[f]? =some u:=⟨d[f],ay ad⟩
   obtain⟨sv,ac,g,o,U,c0,c1,c2⟩:=HC.o f _ O;have a2:=jl O;have N:=jD (HK.o f _ O);obtain⟨s,hi,st⟩:=u;dsimp only at ac c0 c1 c2 N;obtain⟨pu,cu,rfl,aV,a3⟩:=ac.form;subst U;have d0:=aj C.bel c0;have d1:=aj C.bel c1;have d2:=aj C.bel c2;have bI:=am wr (.cells #[.slice pu s.length cu,ag hi,ag st] 195);have V:=C.below bI;have a9:=aG wr (.cells #[.slice pu s.length cu,ag hi,ag st] 195);have zc:=ak 0 a9;generalize bb:wr.alloc (.cells #[.slice pu s.length cu,ag hi,ag st] 195)=wC at*;have aL:(0:Int)<=(s.length:Int):=(by omega);have aM:s.length<=2000:=N.1.2;have ap:=ba N.2.2;have X:=ba a2;have aq:=ba a3;have ar:=ba V;go_wp2_with fail;have V:=ar.o;go_loopw [23] (fun t wr=>EB d f s.length w t wr) (fun t _=>s.length-(intOf t).toNat);case atStart=>exact⟨0,rfl,by omega,V⟩
   case round=>
    obtain⟨j,rfl,hj,n⟩:=hrel;have aU:(0:Int)<=(j:Int):=(by omega);by_cases ah:j<s.length
    ·have R:(j:Int)<(s.length:Int):=(by omega);obtain⟨x,Q⟩: ∃x,s[j]? =some x:=⟨s[j],ay ah⟩
     obtain⟨sk,G,g2,o2,U,e0,e1,e2,e3,e4⟩:=aq.o j _ Q;subst U;have a4:=ap.o j _ Q;have E:(d.getD f cd0).ins[j]? =some x:=(by rw[X.o];exact Q);have d0:=aj n.bel e0;have d1:=aj n.bel e1;have d2:=aj n.bel e2;have d3:=aj n.bel e3;have d4:=aj n.bel e4;have B:x.op=8->0<=x.a/\x.a<d.length:=fun ho=>wO a4 ho;obtain⟨op,a,b,t,sp⟩:=x;dsimp only at d0 d1 d2 d3 d4 G B;obtain⟨ps,Y,rfl,_,_⟩:=G.form;have bI:=am wr (.cells #[ag op,ag a,ag b,ag t,.slice ps sp.length Y] 216);have ao:=aG wr (.cells #[ag op,ag a,ag b,ag t,.slice ps sp.length Y] 216);have z0:=ak 0 ao;have z1:=ak 1 ao;have H:=n.below bI;by_cases ho:op=8
     ·subst ho;obtain⟨a0,a1⟩:=B rfl;obtain⟨v,rfl⟩: ∃v:Nat,a=(v:Int):=⟨a.toNat,by omega⟩
      have az:v<64:=(by omega);have aP:(0:Int)<=(v:Int):=(by omega);have aR:(v:Int)<64:=(by omega);have I:Rb (∀W,UcM w d.length (qf (cE d f j) f (fun k=>cE d f j f k||decide (k=v))) W->EB d f s.length w (ag ((j+1:Nat):Int)) W):=fun W L=>⟨j+1,rfl,by omega,L.same fun r k _ _=>M6 E rfl rfl r k⟩
      have n:=H;generalize cE d f j=St at*;have J:=ba (ON (St f) v az);have rc:=n.cell ad;generalize a8:wr.alloc (.cells #[ag 8,ag (v:Int),ag b,ag t,.slice ps sp.length Y] 216)=wI at*;go_wp2_with fail;obtain⟨gx,aa⟩:=au wr.heap.size;rw[aa]at z1;simp only[aa];have zx:=z1;refine jV 9 [kn 30 (.slice (some (ae w.heap.size 0)) d.length d.length),kn 31 (ag (f:Int)),kn 32 (ab w.heap.size f),kn 33 (.int .u64 (wd (St f) 0:Int)),kn 34 (ab gx 1),kn 35 (ag (v:Int)),kn 36 (.int .u64 (IntKind.u64.wrap (2^v))),kn 37 (.int .u64 (wd (fun k=>St f k||decide (k=v)) 0:Int)),kn 38 (ab w.heap.size f),nk] (by kernel_rfl) (by kernel_rfl) fun M φ W _ A F l hl hF=> ?_;have aC:=aj A rc;have aD:=aj A zx;have aE:=J.o;simp only[kn,nk,dX,aQ,aT,Act.put,aA,aK,aJ]at hl;subst hl;simp only[dn,Nat.reduceAdd]at hF;dsimp only[kn,nk,dy,eJ,dY,Act.put];and_intros;all_goals first|exact trivial|intro hw hn hm K Z
      all_goals try (go_simp;with_reducible exact Z _ _ ⟨rfl,aH _ _⟩)
      have L:=(n.below A).set f (fun k=>St f k||decide (k=v));have z:=aj A rc;have y:=(n.below A).frz f;have q:=ba (I.o _ L);go_simp;refine Z undef _ ⟨trivial,fun c=>by simp at c,fun _=> ?_⟩;simp only[d8,aQ,aT,Act.put,aA,aK,aJ];go_wp2_with fail;go_roundw
      case rel=>first
       |exact q.o
       |((repeat apply iX);exact⟨q.o,rfl⟩)
      case measure=>simp[intOf];omega
     ·have aX:(op==8)=false:=bm.2 ho;have q:Rb (EB d f s.length w (ag ((j+1:Nat):Int)) (wr.alloc (.cells #[ag op,ag a,ag b,ag t,.slice ps sp.length Y] 216))):=⟨j+1,rfl,by omega,by rw[<-M7 E ho];exact H⟩
      generalize a8:wr.alloc (.cells #[ag op,ag a,ag b,ag t,.slice ps sp.length Y] 216)=wI at*;go_wp2_with fail;go_roundw
      case rel=>first
       |exact q.o
       |((repeat apply iX);exact⟨q.o,rfl⟩)
      case measure=>simp[intOf];omega
    ·have R: ¬(j:Int)<(s.length:Int):=(by omega);have q:Rb (EA d w (ag ((f+1:Nat):Int)) wr):=⟨f+1,rfl,by omega,by rw[<-OP (j:=j) (by rw[X.o];show s.length<=j;omega)];exact n⟩
     go_wp2_with fail;go_roundw
     case rel=>first
      |exact q.o
      |((repeat apply iX);exact⟨q.o,rfl⟩)
     case measure=>simp[intOf];omega
  ·have af: ¬(f:Int)<(d.length:Int):=(by omega)
   have a7:UcM w d.length (wE (gL d) 0 0) wr:=C.same fun r k hr _=>by
    unfold cE wE;rw[aB (by omega),ax (by omega)];rfl
   have av:=ba a7;go_wp2_with fail;have n:=av.o;go_loopw [43] (fun t wr=>EC d w t wr) (fun t _=>d.length-(intOf t).toNat);case atStart=>exact⟨0,rfl,by omega,n⟩
   case round=>
    obtain⟨m,rfl,hm,D⟩:=hrel;have aW:(0:Int)<=(m:Int):=(by omega);by_cases ai:m<d.length
    ·have S:(m:Int)<(d.length:Int):=(by omega);have aw:=ba D;go_wp2_with fail;have D:=aw.o;go_loopw [48] (fun t wr=>ED d m w t wr) (fun t _=>d.length-(intOf t).toNat);case atStart=>exact⟨0,rfl,by omega,D⟩
     case round=>
      obtain⟨f,rfl,hi,n⟩:=hrel;have aY:(0:Int)<=(f:Int):=(by omega);by_cases al:f<d.length
      ·have T:(f:Int)<(d.length:Int):=(by omega);have rc:=n.cell al;have rm:=n.cell ai;have cH:=EI (wE (gL d) m f f) m (by omega) wr;cases hb:wE (gL d) m f f m with
       |true=>
        rw[hb]at cH;have I:Rb (∀W,UcM w d.length (qf (wE (gL d) m f) f (fun k=>wE (gL d) m f f k||wE (gL d) m f m k)) W->ED d m w (ag ((f+1:Nat):Int)) W):=fun W L=>⟨f+1,rfl,by omega,L.same fun r k _ _=>OQ hb r k⟩
        generalize wE (gL d) m f=St at*;have J:=ba (M5 (St f) (St m));go_wp2_with fail;refine cH.mono ?_;rintro e w1 ⟨rfl,rfl⟩;go_wp2_with fail;refine jV 10 [kn 57 (.slice (some (ae w.heap.size 0)) d.length d.length),kn 58 (ag (f:Int)),kn 59 (ab w.heap.size f),kn 60 (.int .u64 (wd (St f) 0:Int)),kn 61 (.slice (some (ae w.heap.size 0)) d.length d.length),kn 62 (ag (m:Int)),kn 63 (ab w.heap.size m),kn 64 (.int .u64 (wd (St m) 0:Int)),kn 65 (.int .u64 (wd (fun k=>St f k||St m k) 0:Int)),kn 66 (ab w.heap.size f),nk] (by kernel_rfl) (by kernel_rfl) fun M φ W _ A F l hl hF=> ?_;have aC:=aj A rc;have aD:=aj A rm;have aE:=J.o;simp only[kn,nk,dX,aQ,aT,Act.put,aA,aK,aJ]at hl;subst hl;simp only[dn,Nat.reduceAdd]at hF;dsimp only[kn,nk,dy,eJ,dY,Act.put];and_intros;all_goals first|exact trivial|intro hw hn hm K Z
        all_goals try (go_simp;with_reducible exact Z _ _ ⟨rfl,aH _ _⟩)
        have L:=(n.below A).set f (fun k=>St f k||St m k);have z:=aj A rc;have y:=(n.below A).frz f;have q:=ba (I.o _ L);go_simp;refine Z undef _ ⟨trivial,fun c=>by simp at c,fun _=> ?_⟩;simp only[d8,aQ,aT,Act.put,aA,aK,aJ];go_wp2_with fail;go_roundw
        case rel=>first
         |exact q.o
         |((repeat apply iX);exact⟨q.o,rfl⟩)
        case measure=>simp[intOf];omega
       |false=>
        rw[hb]at cH;have q:Rb (ED d m w (ag ((f+1:Nat):Int)) wr):=⟨f+1,rfl,by omega,n.same fun r k _ _=>P4 hb r k⟩
        generalize wE (gL d) m f=St at*;go_wp2_with fail;refine cH.mono ?_;rintro e w1 ⟨rfl,rfl⟩;go_wp2_with fail;go_roundw
        case rel=>first
         |exact q.o
         |((repeat apply iX);exact⟨q.o,rfl⟩)
        case measure=>simp[intOf];omega
      ·have T: ¬(f:Int)<(d.length:Int):=(by omega)
       have q:Rb (EC d w (ag ((m+1:Nat):Int)) wr):=⟨m+1,rfl,by omega,n.same fun r k hr _=>by
        unfold wE;rw[aB (by omega),ax (by omega)]⟩
       go_wp2_with fail;go_roundw
       case rel=>first
        |exact q.o
        |((repeat apply iX);exact⟨q.o,rfl⟩)
       case measure=>simp[intOf];omega
    ·have S: ¬(m:Int)<(d.length:Int):=(by omega)
     have q:Rb (UcM w d.length (wars (gL d) d.length) wr):=by
      show UcM _ _ _ _;have e:m=d.length:=(by omega);subst e;exact D.same fun r k _ _=>(by unfold wE;rw[ax (by omega)])
     go_wp2_with fail;go_ret;exact⟨rfl,q.o⟩
namespace Vx
section
variable {cs:List Cd} {l:List In}
theorem yD (x:In): -1<=eff x/\eff x<=1:=by
 unfold eff;split
 ·omega
 ·split<;>omega
theorem P6 (x:In):0<=tk x/\tk x<=2:=by
 unfold tk;split
 ·omega
 ·split<;>omega
theorem oj: ∀j:Nat,-(j:Int)<=hAt l j/\hAt l j<=j
 |0=>by simp[hAt]
 |j+1=>by
  have a:=oj j;have b:=yD (l.getD j in0);simp only[hAt];omega
theorem sN (b: ∀i,(cs.getD i cd0).high<=100): ∀j:Nat,0<=mxH cs l j/\mxH cs l j<=j+100
 |0=>by simp[mxH]
 |j+1=>by
  have c:=sN b j;have d:=oj (l:=l) j;have e:=oj (l:=l) (j+1);have f:=b (l.getD j in0).a.toNat;simp only[mxH];split<;>omega
theorem sP (b: ∀i,0<=(cs.getD i cd0).steps/\(cs.getD i cd0).steps<=20000): ∀j:Nat,(j:Int)<=stS cs l j/\stS cs l j<=j*20001
 |0=>by simp[stS]
 |j+1=>by
  have c:=sP b j;have d:=b (l.getD j in0).a.toNat;simp only[stS];split<;>omega
theorem M9 (h: ∀(i:Nat) (c:Cd),cs[i]? =some c->aloneE c cs.length=0)(i:Nat):(cs.getD i cd0).high<=100:=by
 cases hi:cs[i]? with
 |none=>simp[List.getD,hi,cd0]
 |some c=>
  rw[jl hi];have:=(jD (h i c hi)).2.1;omega
theorem KO (h: ∀(i:Nat) (c:Cd),cs[i]? =some c->aloneE c cs.length=0)(i:Nat):0<=(cs.getD i cd0).steps/\(cs.getD i cd0).steps<=20000:=by
 cases hi:cs[i]? with
 |none=>simp[List.getD,hi,cd0]
 |some c=>
  rw[jl hi];have:=(jD (h i c hi)).2.1;omega
def agB (L:List (Int×Int))(p h:Int):Bool:=match lk L p with
 |none=>true
 |some v=>decide (v=h)
theorem tr {L:List (Int×Int)}{p h:Int}(e:agB L p h=true): ∀v,lk L p=some v->v=h:=fun v a=>by
 unfold agB at e;rw[a]at e;simpa using e
theorem rK {L:List (Int×Int)}{p h:Int}(e:agB L p h=false): ∃v,lk L p=some v/\v≠h:=by
 unfold agB at e;cases hl:lk L p with
 |none=>rw[hl]at e;cases e
 |some v=>rw[hl]at e;exact⟨v,rfl,by simpa using e⟩
theorem Na {L:List (Int×Int)}{p h:Int}:agB L p h=true↔ ∀v,lk L p=some v->v=h:=by
 constructor
 ·exact tr
 ·intro c;cases e:agB L p h with
  |true=>rfl
  |false=>
   obtain⟨v,a,b⟩:=rK e;exact absurd (c v a) b
end
end Vx
end Go.Proofs.YtlkehieagdkgiaaGreatDoor
