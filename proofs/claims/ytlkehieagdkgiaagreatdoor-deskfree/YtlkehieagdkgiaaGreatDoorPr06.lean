/- Texts of the proof. -/
import Derived.Test.YtlkehieagdkgiaaGreatDoorPr05
import Derived.Test.YtlkehieagdkgiaaGreatDoorPr01
import Derived.Laws.EntriesVeiled
import Derived.Deep.OwnRows
set_option maxRecDepth 100000
set_option maxHeartbeats 8000000
namespace Go.Proofs.YtlkehieagdkgiaaGreatDoor
open Go.Proofs.Tryz Go.RowKit Lx Vx Mx Msk
theorem sH:prog.underlying 216=some (.struct (prog.fieldsOf 216)):=by kernel_rfl
def nmD (op a b:Int):Bool:=if op=6 then decide (1<=a/\a<=127) else decide (0<=a/\a<=b/\b<146097)
theorem tM (op a b t:Int)(sv:Value)(w:World):Calls prog 227 #[.agg #[ag op,ag a,ag b,ag t,sv]] w fun r w'=>r= .returned (.bool (nmD op a b))/\aq w w':=by
 have c:=am w (.cells #[ag op,ag a,ag b,ag t,sv] 216);have d:=aG w (.cells #[ag op,ag a,ag b,ag t,sv] 216);generalize l:w.alloc (.cells #[ag op,ag a,ag b,ag t,sv] 216)=m at*;have n:=ak 0 d;have o:=ak 1 d;have p:=ak 2 d;have s:=ak 3 d;have u:=ak 4 d;by_cases f:op=6
 ·have e:nmD op a b=decide (1<=a/\a<=127):=aB f;rw[e];subst f;have c1:=lA a 1 127 m;generalize decide (1<=a/\a<=127)=q at*;go_enter func227,ntmps227;go_wp2_with fail;refine c1.mono ?_;rintro r w' ⟨rfl,rfl⟩;go_wp2_with fail;go_ret;exact⟨rfl,c⟩
 ·have e:nmD op a b=decide (0<=a/\a<=b/\b<146097):=ax f;have k:(op==6)=false:=bl.2 f;rw[e];by_cases g:0<=a
  ·by_cases i:a<=b
   ·by_cases j:b<146097
    ·rw[bj (⟨g,i,j⟩:0<=a/\a<=b/\b<146097)];go_enter func227,ntmps227;go_wp2_with fail;go_ret;exact⟨rfl,c⟩
    ·rw[bm (fun e:0<=a/\a<=b/\b<146097=>j e.2.2)];go_enter func227,ntmps227;go_wp2_with fail;go_ret;exact⟨rfl,c⟩
   ·rw[bm (fun e:0<=a/\a<=b/\b<146097=>i e.2.1)];go_enter func227,ntmps227;go_wp2_with fail;go_ret;exact⟨rfl,c⟩
  ·rw[bm (fun e:0<=a/\a<=b/\b<146097=>g e.1)];go_enter func227,ntmps227;go_wp2_with fail;go_ret;exact⟨rfl,c⟩
theorem MG (a b t:Int)(sv:Value)(k n r:Nat)(w:World):Calls prog 214 #[.agg #[ag 2,ag a,ag b,ag t,sv],ag (k:Int),ag (n:Int),ag (r:Int)] w fun e w'=>e= .returned (ag 0)/\aq w w':=by
 have d:=am w (.cells #[ag 2,ag a,ag b,ag t,sv] 216);have c:=aG w (.cells #[ag 2,ag a,ag b,ag t,sv] 216);generalize f:w.alloc (.cells #[ag 2,ag a,ag b,ag t,sv] 216)=g at*;have i:=ak 0 c;have j:=ak 1 c;have l:=ak 2 c;have m:=ak 3 c;have o:=ak 4 c;go_enter func214,ntmps214;go_wp2_with fail;go_ret;exact⟨rfl,d⟩
theorem MH (a b t:Int)(sv:Value)(k n r:Nat)(w:World):Calls prog 214 #[.agg #[ag 3,ag a,ag b,ag t,sv],ag (k:Int),ag (n:Int),ag (r:Int)] w fun e w'=>e= .returned (ag 0)/\aq w w':=by
 have d:=am w (.cells #[ag 3,ag a,ag b,ag t,sv] 216);have c:=aG w (.cells #[ag 3,ag a,ag b,ag t,sv] 216);generalize f:w.alloc (.cells #[ag 3,ag a,ag b,ag t,sv] 216)=g at*;have i:=ak 0 c;have j:=ak 1 c;have l:=ak 2 c;have m:=ak 3 c;have o:=ak 4 c;go_enter func214,ntmps214;go_wp2_with fail;go_ret;exact⟨rfl,d⟩
theorem MJ (a b t:Int)(sv:Value)(k n r:Nat)(w:World):Calls prog 214 #[.agg #[ag 4,ag a,ag b,ag t,sv],ag (k:Int),ag (n:Int),ag (r:Int)] w fun e w'=>e= .returned (ag 0)/\aq w w':=by
 have d:=am w (.cells #[ag 4,ag a,ag b,ag t,sv] 216);have c:=aG w (.cells #[ag 4,ag a,ag b,ag t,sv] 216);generalize f:w.alloc (.cells #[ag 4,ag a,ag b,ag t,sv] 216)=g at*;have i:=ak 0 c;have j:=ak 1 c;have l:=ak 2 c;have m:=ak 3 c;have o:=ak 4 c;go_enter func214,ntmps214;go_wp2_with fail;go_ret;exact⟨rfl,d⟩
theorem MK (a b t:Int)(sv:Value)(k n r:Nat)(w:World)(sp:List (Int×Int))(h:nO w sv sp):Calls prog 214 #[.agg #[ag 1,ag a,ag b,ag t,sv],ag (k:Int),ag (n:Int),ag (r:Int)] w fun e w'=>e= .returned (ag (if risL sp (-1)=true then 0 else 2))/\aq w w':=by
 have d:=am w (.cells #[ag 1,ag a,ag b,ag t,sv] 216);have c:=aG w (.cells #[ag 1,ag a,ag b,ag t,sv] 216);generalize l:w.alloc (.cells #[ag 1,ag a,ag b,ag t,sv] 216)=o at*;have s:=ak 0 c;have v:=ak 1 c;have x:=ak 2 c;have y:=ak 3 c;have z:=ak 4 c;have c1:=FR sp sv o (h.later d);have i:=fun W=>mq (risL sp (-1)) 2 W;generalize (if risL sp (-1)=true then(0:Int) else 2)=u at*;generalize risL sp (-1)=q at*;go_enter func214,ntmps214;go_wp2_with fail;refine c1.mono ?_;rintro e m ⟨rfl,f⟩;have g:=aw d f;have j:=i m;go_wp2_with fail;refine j.mono ?_;rintro e p ⟨rfl,rfl⟩;go_wp2_with fail;go_ret;exact⟨rfl,g⟩
theorem ML (a b t:Int)(sv:Value)(k n r:Nat)(w:World):Calls prog 214 #[.agg #[ag 5,ag a,ag b,ag t,sv],ag (k:Int),ag (n:Int),ag (r:Int)] w fun e w'=>e= .returned (ag (if a≠0/\ -1439<=a/\a<=1439 then 0 else 3))/\aq w w':=by
 have d:=am w (.cells #[ag 5,ag a,ag b,ag t,sv] 216);have c:=aG w (.cells #[ag 5,ag a,ag b,ag t,sv] 216);generalize m:w.alloc (.cells #[ag 5,ag a,ag b,ag t,sv] 216)=g at*;have v:=ak 0 c;have x:=ak 1 c;have y:=ak 2 c;have z:=ak 3 c;have A:=ak 4 c;by_cases ha:a=0
 ·subst ha;have f:=mq false 3 g;rw[ax (fun e=>e.1 rfl)];go_enter func214,ntmps214;go_wp2_with fail;refine f.mono ?_;rintro e p ⟨rfl,rfl⟩;go_wp2_with fail;go_ret;exact⟨rfl,d⟩
 ·have j:(a==0)=false:=bl.2 ha;have c1:=lA a (-1439) 1439 g;have f:=mq (decide (-1439<=a/\a<=1439)) 3 g
  have i:QR ((if a≠0/\ -1439<=a/\a<=1439 then(0:Int) else 3)=if decide (-1439<=a/\a<=1439)=true then 0 else 3):=by
   show _=_;by_cases h: -1439<=a/\a<=1439
   ·rw[aB ⟨ha,h⟩,aB (bj h)]
   ·rw[ax (fun e=>h e.2),ax (by simpa using h)]
  rw[i.o];generalize (if decide (-1439<=a/\a<=1439)=true then(0:Int) else 3)=u at*;generalize decide (-1439<=a/\a<=1439)=q at*;have l:(a !=0)=true:=(by simpa using ha);go_enter func214,ntmps214;go_wp2_with fail;refine c1.mono ?_;rintro e s ⟨rfl,rfl⟩;go_wp2_with fail;refine f.mono ?_;rintro e p ⟨rfl,rfl⟩;go_wp2_with fail;go_ret;exact⟨rfl,d⟩
theorem MM (a b t:Int)(sv:Value)(k n r:Nat)(w:World)(x:k<=2000):Calls prog 214 #[.agg #[ag 6,ag a,ag b,ag t,sv],ag (k:Int),ag (n:Int),ag (r:Int)] w fun e w'=>e= .returned (ag (if(k:Int)+2<=t/\t<=n then(if nmD 6 a b=true then 0 else 3) else 8))/\aq w w':=by
 have d:=am w (.cells #[ag 6,ag a,ag b,ag t,sv] 216);have c:=aG w (.cells #[ag 6,ag a,ag b,ag t,sv] 216);generalize v:w.alloc (.cells #[ag 6,ag a,ag b,ag t,sv] 216)=j at*;have z:=ak 0 c;have A:=ak 1 c;have B:=ak 2 c;have C:=ak 3 c;have D:=ak 4 c;have p:(0:Int)<=(k:Int):=by omega
 have s:(k:Int)<=2000:=by omega
 have c1:=lA t ((k:Int)+2) (n:Int) j;have l:=tM 6 a b t sv j;have m:=fun W=>mq (nmD 6 a b) 3 W;by_cases h:(k:Int)+2<=t/\t<=n
 ·rw[aB h];rw[bj h]at c1;generalize (if nmD 6 a b=true then(0:Int) else 3)=u at*;generalize nmD 6 a b=q at*;go_enter func214,ntmps214;go_wp2_with fail;refine c1.mono ?_;rintro e i ⟨rfl,rfl⟩;go_wp2_with(refine aR rfl 216 _ rfl _ rfl _ _ _ _ c sH rfl (by kernel_rfl) ?_)
  refine l.mono ?_;rintro e i ⟨rfl,f⟩;have g:=aw d f;have o:=m i;go_wp2_with fail;refine o.mono ?_;rintro e y ⟨rfl,rfl⟩;go_wp2_with fail;go_ret;exact⟨rfl,g⟩
 ·rw[ax h];rw[bm h]at c1;go_enter func214,ntmps214;go_wp2_with fail;refine c1.mono ?_;rintro e i ⟨rfl,rfl⟩;go_wp2_with fail;go_ret;exact⟨rfl,d⟩
theorem MN (a b t:Int)(sv:Value)(k n r:Nat)(w:World)(x:k<=2000):Calls prog 214 #[.agg #[ag 7,ag a,ag b,ag t,sv],ag (k:Int),ag (n:Int),ag (r:Int)] w fun e w'=>e= .returned (ag (if(k:Int)+2<=t/\t<=n then(if nmD 7 a b=true then 0 else 3) else 8))/\aq w w':=by
 have d:=am w (.cells #[ag 7,ag a,ag b,ag t,sv] 216);have c:=aG w (.cells #[ag 7,ag a,ag b,ag t,sv] 216);generalize v:w.alloc (.cells #[ag 7,ag a,ag b,ag t,sv] 216)=j at*;have z:=ak 0 c;have A:=ak 1 c;have B:=ak 2 c;have C:=ak 3 c;have D:=ak 4 c;have p:(0:Int)<=(k:Int):=by omega
 have s:(k:Int)<=2000:=by omega
 have c1:=lA t ((k:Int)+2) (n:Int) j;have l:=tM 7 a b t sv j;have m:=fun W=>mq (nmD 7 a b) 3 W;by_cases h:(k:Int)+2<=t/\t<=n
 ·rw[aB h];rw[bj h]at c1;generalize (if nmD 7 a b=true then(0:Int) else 3)=u at*;generalize nmD 7 a b=q at*;go_enter func214,ntmps214;go_wp2_with fail;refine c1.mono ?_;rintro e i ⟨rfl,rfl⟩;go_wp2_with(refine aR rfl 216 _ rfl _ rfl _ _ _ _ c sH rfl (by kernel_rfl) ?_)
  refine l.mono ?_;rintro e i ⟨rfl,f⟩;have g:=aw d f;have o:=m i;go_wp2_with fail;refine o.mono ?_;rintro e y ⟨rfl,rfl⟩;go_wp2_with fail;go_ret;exact⟨rfl,g⟩
 ·rw[ax h];rw[bm h]at c1;go_enter func214,ntmps214;go_wp2_with fail;refine c1.mono ?_;rintro e i ⟨rfl,rfl⟩;go_wp2_with fail;go_ret;exact⟨rfl,d⟩
theorem MO (a b t:Int)(sv:Value)(k n r:Nat)(w:World):Calls prog 214 #[.agg #[ag 8,ag a,ag b,ag t,sv],ag (k:Int),ag (n:Int),ag (r:Int)] w fun e w'=>e= .returned (ag (if 0<=a/\a<r then 0 else 6))/\aq w w':=by
 have d:=am w (.cells #[ag 8,ag a,ag b,ag t,sv] 216);have c:=aG w (.cells #[ag 8,ag a,ag b,ag t,sv] 216);generalize j:w.alloc (.cells #[ag 8,ag a,ag b,ag t,sv] 216)=f at*;have p:=ak 0 c;have s:=ak 1 c;have v:=ak 2 c;have x:=ak 3 c;have y:=ak 4 c;have c1:=qV a (r:Int) f;have i:=mq (decide (0<=a/\a<(r:Int))) 6 f
 have g:QR ((if 0<=a/\a<(r:Int) then(0:Int) else 6)=if decide (0<=a/\a<(r:Int))=true then 0 else 6):=by
  show _=_;by_cases h:0<=a/\a<(r:Int)
  ·rw[aB h,aB (bj h)]
  ·rw[ax h,ax (by simpa using h)]
 rw[g.o];generalize (if decide (0<=a/\a<(r:Int))=true then(0:Int) else 6)=u at*;generalize decide (0<=a/\a<(r:Int))=q at*;go_enter func214,ntmps214;go_wp2_with fail;refine c1.mono ?_;rintro e l ⟨rfl,rfl⟩;go_wp2_with fail;refine i.mono ?_;rintro e m ⟨rfl,rfl⟩;go_wp2_with fail;go_ret;exact⟨rfl,d⟩
theorem MP (op:Int)(a b t:Int)(sv:Value)(k n r:Nat)(w:World)(g:(op==1)=false)(i:(op==2)=false)(j:(op==3)=false)(l:(op==4)=false)(m:(op==5)=false)(o:(op==6)=false)(p:(op==7)=false)(q:(op==8)=false):Calls prog 214 #[.agg #[ag op,ag a,ag b,ag t,sv],ag (k:Int),ag (n:Int),ag (r:Int)] w fun e w'=>e= .returned (ag 1)/\aq w w':=by
 have d:=am w (.cells #[ag op,ag a,ag b,ag t,sv] 216);have c:=aG w (.cells #[ag op,ag a,ag b,ag t,sv] 216);generalize f:w.alloc (.cells #[ag op,ag a,ag b,ag t,sv] 216)=s at*;have u:=ak 0 c;have v:=ak 1 c;have x:=ak 2 c;have y:=ak 3 c;have z:=ak 4 c;go_enter func214,ntmps214;go_wp2_with fail;go_ret;exact⟨rfl,d⟩
theorem IB (x:In)(sv:Value)(k n r:Nat)(w:World)(h:nO w sv x.sp)(p:k<=2000):Calls prog 214 #[.agg #[ag x.op,ag x.a,ag x.b,ag x.to,sv],ag (k:Int),ag (n:Int),ag (r:Int)] w fun e w'=>e= .returned (ag (fV x k n r))/\aq w w':=by
 obtain⟨op,a,b,t,sp⟩:=x;dsimp only at h⊢;unfold fV;dsimp only;by_cases l:op=2
 ·subst l;exact MG a b t sv k n r w
 by_cases m:op=3
 ·subst m;exact MH a b t sv k n r w
 by_cases o:op=4
 ·subst o;exact MJ a b t sv k n r w
 rw[ax (by omega)];by_cases d:op=1
 ·subst d;exact MK a b t sv k n r w sp h
 rw[ax d];by_cases f:op=5
 ·subst f;exact ML a b t sv k n r w
 rw[ax f];by_cases g:op=6
 ·subst g;have c:=MM a b t sv k n r w p;have e:nmD 6 a b=decide (1<=a/\a<=127):=aB rfl;rw[e]at c;rw[aB rfl];simpa only[bL] using c
 rw[ax g];by_cases i:op=7
 ·subst i;have c:=MN a b t sv k n r w p;have e:nmD 7 a b=decide (0<=a/\a<=b/\b<146097):=ax (by decide);rw[e]at c;rw[aB rfl];simpa only[bL] using c
 rw[ax i];by_cases j:op=8
 ·subst j;exact MO a b t sv k n r w
 rw[ax j];exact MP op a b t sv k n r w (bl.2 d) (bl.2 l) (bl.2 m) (bl.2 o) (bl.2 f) (bl.2 g) (bl.2 i) (bl.2 j)
def yr (w:World)(v:Value)(xs:List (In×Value)):Prop:= ∃p c,v= .slice p xs.length c/\xs.length<9223372036854775808/\ ∀(j:Nat) (x:In×Value),xs[j]? =some x->nO w x.2 x.1.sp/\ ∃g o:Nat,p=some ⟨g,o,none⟩/\
 w.cell? (ae g (o+j*5))=some (ag x.1.op)/\w.cell? (ae g (o+j*5+1))=some (ag x.1.a)/\w.cell? (ae g (o+j*5+2))=some (ag x.1.b)/\w.cell? (ae g (o+j*5+3))=some (ag x.1.to)/\w.cell? (ae g (o+j*5+4))=some x.2
theorem yr.below {w w':World}{v:Value}{xs:List (In×Value)}(h:yr w v xs)(a:aq w w'):yr w' v xs:=by
 obtain⟨p,c,i,k,l⟩:=h;refine⟨p,c,i,k,fun j x m=> ?_⟩;obtain⟨r,g,o,e,c0,c1,b,d,f⟩:=l j x m;exact⟨r.later a,g,o,e,aj a c0,aj a c1,aj a b,aj a d,aj a f⟩
def pF (w:World)(v:Value)(l:List In):Prop:= ∃xs:List (In×Value),yr w v xs/\xs.map (fun x=>x.1)=l
theorem pF.below {w w':World}{v:Value}{l:List In}(h:pF w v l)(c:aq w w'):pF w' v l:=by
 obtain⟨xs,a,b⟩:=h;exact⟨xs,a.below c,b⟩
theorem pF.form {w:World}{v:Value}{l:List In}(h:pF w v l): ∃p c,v= .slice p l.length c/\l.length<9223372036854775808/\ ∀(j:Nat) (x:In),l[j]? =some x-> ∃sv:Value,nO w sv x.sp/\ ∃g o:Nat,p=some ⟨g,o,none⟩/\
  w.cell? (ae g (o+j*5))=some (ag x.op)/\w.cell? (ae g (o+j*5+1))=some (ag x.a)/\w.cell? (ae g (o+j*5+2))=some (ag x.b)/\w.cell? (ae g (o+j*5+3))=some (ag x.to)/\w.cell? (ae g (o+j*5+4))=some sv:=by
 obtain⟨xs,⟨p,c,f,i,k⟩,rfl⟩:=h;rw[ba];refine⟨p,c,f,i,fun j x d=> ?_⟩;rw[aZ]at d;obtain⟨y,n,rfl⟩:=dU.1 d;obtain⟨r,g,o,e,m⟩:=k j y n;exact⟨y.2,r,g,o,e,m⟩
def InC (w:World)(v:Value)(a:List (Cd×Value)):Prop:= ∃p c,v= .slice p a.length c/\a.length<9223372036854775808/\ ∀(j:Nat) (u:Cd×Value),a[j]? =some u->pF w u.2 u.1.ins/\ ∃g o:Nat,p=some ⟨g,o,none⟩/\
 w.cell? (ae g (o+j*3))=some u.2/\w.cell? (ae g (o+j*3+1))=some (ag u.1.high)/\w.cell? (ae g (o+j*3+2))=some (ag u.1.steps)
theorem InC.below {w w':World}{v:Value}{b:List (Cd×Value)}(h:InC w v b)(a:aq w w'):InC w' v b:=by
 obtain⟨p,c,f,i,k⟩:=h;refine⟨p,c,f,i,fun j u l=> ?_⟩;obtain⟨r,g,o,e,c0,c1,d⟩:=k j u l;exact⟨r.below a,g,o,e,aj a c0,aj a c1,aj a d⟩
def InV (w:World)(v:Value)(b:List Cd):Prop:= ∃a:List (Cd×Value),InC w v a/\a.map (fun u=>u.1)=b
theorem InV.below {w w':World}{v:Value}{a:List Cd}(h:InV w v a)(d:aq w w'):InV w' v a:=by
 obtain⟨xs,b,c⟩:=h;exact⟨xs,b.below d,c⟩
theorem InV.form {w:World}{v:Value}{a:List Cd}(h:InV w v a): ∃p c,v= .slice p a.length c/\a.length<9223372036854775808/\ ∀(j:Nat) (u:Cd),a[j]? =some u-> ∃sv:Value,pF w sv u.ins/\ ∃g o:Nat,p=some ⟨g,o,none⟩/\
  w.cell? (ae g (o+j*3))=some sv/\w.cell? (ae g (o+j*3+1))=some (ag u.high)/\w.cell? (ae g (o+j*3+2))=some (ag u.steps):=by
 obtain⟨xs,⟨p,c,d,f,i⟩,rfl⟩:=h;rw[ba];refine⟨p,c,d,f,fun j x b=> ?_⟩;rw[aZ]at b;obtain⟨y,l,rfl⟩:=dU.1 b;obtain⟨r,g,o,e,k⟩:=i j y l;exact⟨y.2,r,g,o,e,k⟩
theorem FT (c:Cd)(sv:Value)(r:Nat)(w:World)(h:pF w sv c.ins):Calls prog 193 #[.agg #[sv,ag c.high,ag c.steps],ag (r:Int)] w fun e w'=>e= .returned (ag (aloneE c r))/\aq w w':=by
 obtain⟨p,J,rfl,C,hc⟩:=h.form;have S:=bc hc;generalize i:aloneE c r=X;unfold aloneE at i;obtain⟨l,hi,st⟩:=c;dsimp only at i C S⊢;have q:=am w (.cells #[.slice p l.length J,ag hi,ag st] 195);have s:=aG w (.cells #[.slice p l.length J,ag hi,ag st] 195);generalize ae:w.alloc (.cells #[.slice p l.length J,ag hi,ag st] 195)=R at*;have z0:=ak 0 s;have z1:=ak 1 s;have z2:=ak 2 s;have ad:(0:Int)<=(l.length:Int):=by omega
 have c1:=lA (l.length:Int) 1 2000 R;by_cases U:1<=l.length/\l.length<=2000
 ·rw[ax (fun e=>e U)]at i;rw[bj (show(1:Int)<=(l.length:Int)/\(l.length:Int)<=2000 by omega)]at c1;have A:=lA hi 1 100 R;by_cases K:1<=hi/\hi<=100
  ·rw[bj K]at A;have H:=lA st 1 20000 R;by_cases L:1<=st/\st<=20000
   ·rw[bj L]at H;rw[ax (fun e=>e ⟨K,L⟩)]at i;have W:QR (pV (l.drop 0) 0 l.length r=X):=i;go_enter func193,ntmps193;go_wp2_with fail;refine c1.mono ?_;rintro e G ⟨rfl,rfl⟩;go_wp2_with fail;refine A.mono ?_;rintro e V ⟨rfl,rfl⟩;go_wp2_with fail;refine H.mono ?_;rintro e w3 ⟨rfl,rfl⟩;go_wp2_with fail;go_loopw [26] (fun t wr=> ∃j:Nat,t=ag (j:Int)/\j<=l.length/\pV (l.drop j) j l.length r=X/\wr.heap[w.heap.size]? =ah #[.slice p l.length J,ag hi,ag st] 195/\aq w wr) (fun t _=>l.length-(intOf t).toNat);case atStart=>exact⟨0,rfl,by omega,W.o,s,q⟩
    case round=>
     obtain⟨j,rfl,hj,f,Q,d⟩:=hrel;have ac:(0:Int)<=(j:Int):=(by omega);by_cases O:j<l.length
     ·have D:(j:Int)<(l.length:Int):=(by omega);obtain⟨x,B⟩: ∃x,l[j]? =some x:=⟨l[j],ay O⟩
      rw[Iy B]at f;obtain⟨sk,m,g,o,P,e0,e1,e2,e3,e4⟩:=S.o j _ B;subst P;have Y:=aj d e0;have Z:=aj d e1;have d2:=aj d e2;have d3:=aj d e3;have d4:=aj d e4;obtain⟨op,a,b,t,sp⟩:=x;dsimp only at Y Z d2 d3 d4 m;obtain⟨M,I,rfl,_,_⟩:=m.form;have T:=am wr (.cells #[ag op,ag a,ag b,ag t,.slice M sp.length I] 216);have E:=aG wr (.cells #[ag op,ag a,ag b,ag t,.slice M sp.length I] 216);have v:=aw d T;have u:=ai T Q;have k:=IB ⟨op,a,b,t,sp⟩ (.slice M sp.length I) j l.length r (wr.alloc (.cells #[ag op,ag a,ag b,ag t,.slice M sp.length I] 216)) (m.later v) (by omega);dsimp only at k;have z0:=ak 0 u;by_cases z:fV ⟨op,a,b,t,sp⟩ j l.length r=0
      ·rw[ax (fun e=>e z)]at f;rw[z]at k;have N:=bc f;go_wp2_with(refine aR rfl 216 _ rfl _ rfl _ _ _ _ E sH rfl (by kernel_rfl) ?_)
       refine k.mono ?_;rintro e G ⟨rfl,n⟩;have y:=aw v n;have F:=ai n u;go_wp2_with fail;go_roundw;case rel=>exact⟨j+1,by go_num,by omega,N.o,F,y⟩
       case measure=>simp[intOf];omega
      ·rw[aB z]at f;rw[f]at k z;have aa:(X==0)=false:=bl.2 z;have ab:(X !=0)=true:=(by simpa using z);go_wp2_with(refine aR rfl 216 _ rfl _ rfl _ _ _ _ E sH rfl (by kernel_rfl) ?_)
       refine k.mono ?_;rintro e G ⟨rfl,n⟩;have y:=aw v n;go_wp2_with fail;go_ret;exact⟨rfl,y⟩
     ·have D: ¬(j:Int)<(l.length:Int):=(by omega)
      have N:QR (X=0):=by
       show _=_;rw[<-f,dj (by omega)];rfl
      go_wp2_with fail;go_ret;exact⟨by(rw[N.o])<;>rfl,d⟩
   ·rw[bm L]at H;rw[aB (fun e=>L e.2)]at i;subst i;go_enter func193,ntmps193;go_wp2_with fail;refine c1.mono ?_;rintro e G ⟨rfl,rfl⟩;go_wp2_with fail;refine A.mono ?_;rintro e V ⟨rfl,rfl⟩;go_wp2_with fail;refine H.mono ?_;rintro e w3 ⟨rfl,rfl⟩;go_wp2_with fail;go_ret;exact⟨rfl,q⟩
  ·rw[bm K]at A;rw[aB (fun e=>K e.1)]at i;subst i;go_enter func193,ntmps193;go_wp2_with fail;refine c1.mono ?_;rintro e G ⟨rfl,rfl⟩;go_wp2_with fail;refine A.mono ?_;rintro e V ⟨rfl,rfl⟩;go_wp2_with fail;go_ret;exact⟨rfl,q⟩
 ·rw[aB U]at i;subst i;rw[bm (show¬((1:Int)<=(l.length:Int)/\(l.length:Int)<=2000) by omega)]at c1;go_enter func193,ntmps193;go_wp2_with fail;refine c1.mono ?_;rintro e G ⟨rfl,rfl⟩;go_wp2_with fail;go_ret;exact⟨rfl,q⟩
theorem mr:prog.underlying 48=some (.struct (prog.fieldsOf 48)):=by kernel_rfl
theorem qW {c:Func}(s:Nat)(h:c.results= #[ResultVar.cell s 48]){R:Ending->World->Prop}{a:Act}{w:World}(g:Nat)(er at_:Int)(f:a.defers=[])(d:a.tmps.getD s undef=ab g 0)
  (i:w.heap[g]? =ah #[ag er,ag at_] 48) (e:R (.returned (.agg #[ag er,ag at_])) w):bodyPost prog c R .ret a w:=by
 refine aX (v:= .agg #[ag er,ag at_]) ?_ f e;have b:a.tmps[s]?.getD undef=ab g 0:=by simpa using d
 have j:=ef (P:=prog) w g 48 48 _ _ _ i mr rfl (by kernel_rfl);simp[results,h,b,asAddr,j]
theorem DM (E:Nat->Int)(n j:Nat)(h:j<n):gS E (n-j) j=if E j≠0 then(E j,j) else gS E (n-(j+1)) (j+1):=by
 rw[show n-j=(n-(j+1))+1 by omega];rfl
theorem sI (E:Nat->Int)(n K:Nat)(C:Array Value)(p:Option Addr)(c:Nat)(w:World)(M:n<9223372036854775808)(J: ∀k w,(callFunc K k).run prog w= .ok (.enter K k) w)
  (s: ∀(i:Nat) (wr:World),i<n->aq w wr->Calls prog K (#[ag (i:Int)]++C) wr fun e w'=>e= .returned (ag (E i))/\aq wr w'):
  Calls prog 191 #[.slice p n c,.func (.func K) #[] C] w fun e w'=>e= .returned (.agg #[ag (gS E n 0).1,ag ((gS E n 0).2:Int)])/\aq w w':=by
 have z:=bc s;generalize F:gS E n 0=X;have A:QR (gS E (n-0) 0=X):=F;have x:=am w (.cells #[ag 0,ag 0] 48);have y:=aG w (.cells #[ag 0,ag 0] 48);generalize H:w.alloc (.cells #[ag 0,ag 0] 48)=N at*;go_enter func191,ntmps191;go_wp2_with fail;go_loopw [9] (fun t wr=> ∃j:Nat,t=ag (j:Int)/\j<=n/\gS E (n-j) j=X/\wr.heap[w.heap.size]? =ah #[ag 0,ag 0] 48/\aq w wr) (fun t _=>n-(intOf t).toNat);case atStart=>exact⟨0,rfl,by omega,A.o,y,x⟩
 case round=>
  obtain⟨j,rfl,L,b,a,g⟩:=hrel;have G:(0:Int)<=(j:Int):=(by omega);by_cases u:j<n
  ·have v:(j:Int)<(n:Int):=(by omega);have s:=z.o j wr u g;rw[DM E n j u]at b;by_cases r:E j=0
   ·rw[ax (fun e=>e r)]at b;rw[r]at s;have m:=bc b;go_wp2_with fail;refine s.mono ?_;rintro e I ⟨rfl,d⟩;have l:=aw g d;have f:=ai d a;go_wp2_with fail;go_roundw;case rel=>exact⟨j+1,by go_num,by omega,m.o,f,l⟩
    case measure=>simp[intOf];omega
   ·rw[aB r]at b;have m:=bc b;generalize E j=q at*;have B:(q==0)=false:=bl.2 r;have D:(q !=0)=true:=(by simpa using r);go_wp2_with fail;refine s.mono ?_;rintro e I ⟨rfl,d⟩;have l:=aw g d;have f:=ai d a;have a:=f;go_wp2_with(refine az rfl 48 _ _ rfl _ _ rfl rfl _ _ a (by kernel_rfl) (by simp) (by simp[Value.oneCell']) ?_)
    exact qW 4 (by kernel_rfl) w.heap.size q (j:Int) rfl rfl (aL _ _ _ _ _ _ a) ⟨by rw[<-m.o],below_setRow l (aE _) _⟩
  ·have v: ¬(j:Int)<(n:Int):=(by omega)
   have m:QR (X=(0,0)):=by
    show _=_;rw[<-b,show n-j=0 by omega];rfl
   go_wp2_with(refine az rfl 48 _ _ rfl _ _ rfl rfl _ _ a (by kernel_rfl) (by simp) (by simp[Value.oneCell']) ?_)
   exact qW 4 (by kernel_rfl) w.heap.size 0 0 rfl rfl (aL _ _ _ _ _ _ a) ⟨by(rw[m.o])<;>rfl,below_setRow g (aE _) _⟩
theorem FU (a:List Cd)(lv:Value)(t b:Nat)(w:World)(h:InV w lv a)(I:w.cell? (ae t 0)=some lv)(k:b<a.length):
  Calls prog 192 #[ag (b:Int),ab t 0] w fun e w'=>e= .returned (ag (aloneE (a.getD b cd0) a.length))/\aq w w':=by
 obtain⟨p,n,rfl,x,D⟩:=h.form;obtain⟨u,d⟩: ∃u,a[b]? =some u:=⟨a[b],ay k⟩
 obtain⟨sv,j,g,o,rfl,y,r,s⟩:=D b u d;rw[jh d];have m:QR (∀W,aq w W->Calls prog 193 #[.agg #[sv,ag u.high,ag u.steps],ag (a.length:Int)] W fun e w'=>e= .returned (ag (aloneE u a.length))/\aq W w'):=fun W B=>FT u sv a.length W (j.below B);generalize aloneE u a.length=q at*;obtain⟨R,hi,st⟩:=u;dsimp only at r s m;have G:(0:Int)<=(b:Int):=by omega
 have H:(b:Int)<(a.length:Int):=by omega
 go_enter func192,ntmps192;go_wp2_with fail;refine dh (fun _ _ W=>aq w W) [kn 4 (.slice (some (ae g o)) a.length n),kn 5 (ag (b:Int)),kn 6 (ab g (o+b*3)),kn 7 (.agg #[sv,ag hi,ag st]),kn 8 (.slice (some (ae g o)) a.length n),kn 9 (ag (a.length:Int)),kn 10 (ag q),kn 3 (ag q)] (fun _=>(aH _ _).drew) (fun _ _ _ _ C h=>aw h C) (by kernel_rfl) (fun M φ W c E F l f A=> ?_) (fun M φ W N c=> ?_)
 ·simp only[kn,dV,aP,aT,Act.put,aA,aK,aJ]at f;subst f;simp only[di,Nat.reduceAdd]at A;have z:=aj c I;have f0:=aj c y;have f1:=aj c r;have f2:=aj c s;dsimp only[kn,du,eG,dY,Act.put];and_intros;all_goals first|exact trivial|intro Q P O K v
  all_goals try (go_simp;with_reducible exact v _ _ ⟨rfl,aH _ _⟩)
  go_simp;refine(m.o W c).mono ?_;rintro L J ⟨rfl,i⟩;exact v _ _ ⟨rfl,i⟩
 ·simp only[kn,d7,aP,aT,Act.put,aA,aK,aJ];go_wp2_with fail;go_ret;exact⟨rfl,c⟩
theorem MR (f:Nat->Bool)(n:Nat)(g:n<64):(bits BinOp.and IntKind.u64 ((wd f 0:Int)/2^n) 1==1)=f n:=by
 have c:((wd f 0:Int)/2^n)=((wd f 0/2^n:Nat):Int):=by push_cast;rfl
 have a:wd f 0/2^n<18446744073709551616:=Nat.lt_of_le_of_lt (Nat.div_le_self _ _) (ii f 0)
 have d:bits BinOp.and IntKind.u64 ((wd f 0/2^n:Nat):Int) 1=((wd f 0/2^n&&&1:Nat):Int):=by
  have:=bits_and_u64_nat (wd f 0/2^n) 1 a (by decide);exact this
 rw[c,d,Nat.and_one_is_mod];have b:=jy f 0 n;rw[bj g,jd,Nat.mul_zero,bV]at b
 have e:(wd f 0).testBit n=decide ((wd f 0/2^n)%2=1):=by
  rw[Nat.testBit_eq_decide_div_mod_eq]
 rw[<-b,e];have:wd f 0/2^n%2=0\/wd f 0/2^n%2=1:=by omega
 rcases this with h|h
 ·rw[h];rfl
 ·rw[h];rfl
theorem Ew (f:Nat->Bool)(n:Nat)(c:n<64)(w:World):Calls prog 196 #[.int .u64 (wd f 0:Int),ag (n:Int)] w fun e w'=>e= .returned (.bool (f n))/\w'=w:=by
 have d:(0:Int)<=(n:Int):=by omega
 have g:(n:Int)<64:=by omega
 have a:=bc (MR f n c);go_enter func196,ntmps196;go_wp2_with fail;go_ret;exact⟨congrArg (fun b=>Ending.returned (.bool b)) a.o,rfl⟩
theorem Cr (x:In)(w:World):Calls prog 229 #[ag x.op] w fun e w'=>e= .returned (.tuple #[ag (tk x),ag (tk x+eff x)])/\w'=w:=by
 obtain⟨op,a,b,t,sp⟩:=x;unfold tk eff;dsimp only;by_cases d:op=1
 ·subst d;go_enter func229,ntmps229;go_wp2_with fail;exact aX (v:= .tuple #[ag 0,ag 1]) (by simp[results,results229,go_sem]) rfl ⟨rfl,rfl⟩
 by_cases j:op=8
 ·subst j;go_enter func229,ntmps229;go_wp2_with fail;exact aX (v:= .tuple #[ag 0,ag 1]) (by simp[results,results229,go_sem]) rfl ⟨rfl,rfl⟩
 by_cases c:op=5
 ·subst c;go_enter func229,ntmps229;go_wp2_with fail;exact aX (v:= .tuple #[ag 1,ag 1]) (by simp[results,results229,go_sem]) rfl ⟨rfl,rfl⟩
 by_cases f:op=2
 ·subst f;go_enter func229,ntmps229;go_wp2_with fail;exact aX (v:= .tuple #[ag 2,ag 1]) (by simp[results,results229,go_sem]) rfl ⟨rfl,rfl⟩
 by_cases g:op=3
 ·subst g;go_enter func229,ntmps229;go_wp2_with fail;exact aX (v:= .tuple #[ag 2,ag 1]) (by simp[results,results229,go_sem]) rfl ⟨rfl,rfl⟩
 by_cases i:op=4
 ·subst i;go_enter func229,ntmps229;go_wp2_with fail;exact aX (v:= .tuple #[ag 2,ag 1]) (by simp[results,results229,go_sem]) rfl ⟨rfl,rfl⟩
 rw[ax c,ax (by omega),ax (by omega),ax (by omega)];have b1:(op==1)=false:=bl.2 d;have b2:(op==2)=false:=bl.2 f;have b3:(op==3)=false:=bl.2 g;have k:(op==4)=false:=bl.2 i;have b5:(op==5)=false:=bl.2 c;have l:(op==8)=false:=bl.2 j;go_enter func229,ntmps229;go_wp2_with fail;exact aX (v:= .tuple #[ag 0,ag 0]) (by simp[results,results229,go_sem]) rfl ⟨rfl,rfl⟩
def iM (n:Nat)(R:Nat->Nat->Bool):Array Value:=((List.range n).map fun i=>Value.int .u64 (wd (R i) 0:Int)).toArray
theorem AD {n:Nat}{R:Nat->Nat->Bool}{i:Nat}(h:i<n):(iM n R)[i]? =some (.int .u64 (wd (R i) 0:Int)):=by
 simp[iM,h]
theorem FV {n:Nat}{R a:Nat->Nat->Bool}(h: ∀i k,i<n->k<64->R i k=a i k):iM n R=iM n a:=by
 unfold iM;congr 1;apply List.map_congr_left;intro i hi;rw[nz fun j b=> ?_];rw[Nat.mul_zero,bV];exact h i j (jk.1 hi) b
def pW (R:Nat->Nat->Bool)(i:Nat)(f:Nat->Bool):Nat->Nat->Bool:=fun r k=>if r=i then f k else R r k
theorem FW {n:Nat}{R:Nat->Nat->Bool}{i:Nat}{f:Nat->Bool}:(iM n R).setIfInBounds i (.int .u64 (wd f 0:Int))=iM n (pW R i f):=by
 apply Array.ext
 ·simp[iM]
 ·intro k d b;have c:k<n:=(by simpa[iM] using b);rw[Array.getElem_setIfInBounds (by simpa[iM] using c)];by_cases e:i=k
  ·subst e;have a:pW R i f i=f:=(by funext q;simp[pW]);simp[iM,a]
  ·rw[ax e];have a:pW R i f k=R k:=(by funext q;simp[pW,show k≠i from fun h=>e h.symm]);simp[iM,a]
theorem DN (n:Nat):madeCells #[Value.int .u64 0] n=iM n (fun _ _=>false):=by
 apply Array.ext
 ·simp[iM,madeCells]
 ·intro k a b;simp[iM,madeCells,Nat.mod_one,Ej]
structure UcM (w:World)(n:Nat)(R:Nat->Nat->Bool)(W:World):Prop where
 bel:aq w W
 row:W.heap[w.heap.size]? =ah (iM n R) 53
theorem UcM.below {w W a:World}{n:Nat}{R:Nat->Nat->Bool}(h:UcM w n R W)(b:aq W a):UcM w n R a:=
 ⟨aw h.bel b,ai b h.row⟩
theorem UcM.same {w W:World}{n:Nat}{R a:Nat->Nat->Bool}(h:UcM w n R W)(b: ∀i k,i<n->k<64->R i k=a i k):UcM w n a W:=
 ⟨h.bel,by rw[h.row,FV b]⟩
theorem UcM.cell {w W:World}{n:Nat}{R:Nat->Nat->Bool}(h:UcM w n R W){i:Nat}(hi:i<n):W.cell? (ae w.heap.size i)=some (.int .u64 (wd (R i) 0:Int)):=(a8 _ _ i _ _ _ h.row).trans (AD hi)
theorem UcM.frz {w W:World}{n:Nat}{R:Nat->Nat->Bool}(h:UcM w n R W)(i:Nat):W.frozen? (ae w.heap.size i)=false:=bn _ _ i _ _ h.row
theorem UcM.set {w W:World}{n:Nat}{R:Nat->Nat->Bool}(h:UcM w n R W)(i:Nat)(f:Nat->Bool):UcM w n (pW R i f) (W.setCell ⟨w.heap.size,i,none⟩ (.int .u64 (wd f 0:Int))):=by
 refine⟨h.bel.setCell (aE _) _,?_⟩;rw[<-FW];exact aY W w.heap.size i _ _ _ h.row
theorem Oz (f:Nat->Bool)(a:Nat)(ha:a<64):bits BinOp.or IntKind.u64 (wd f 0:Int) (IntKind.u64.wrap (2^a))=(wd (fun k=>f k||decide (k=a)) 0:Int):=by
 have b:(2:Nat)^a<18446744073709551616:=by
  have:=Nat.pow_lt_pow_right (a:=2) (by omega) ha;simpa using this
 have c:IntKind.u64.wrap ((2:Int)^a)=((2^a:Nat):Int):=by
  rw[gY];have:((2:Int)^a)=((2^a:Nat):Int):=(by push_cast;rfl);rw[this];generalize (2^a:Nat)=y at*;omega
 rw[c,bits_or_u64_nat _ _ (ii f 0) b];congr 1;refine ny _ 0 _ (Nat.or_lt_two_pow (n:=64) (ii f 0) b) fun j d=> ?_;rw[Nat.testBit_or,jy,bj d,jd,Nat.mul_zero,bV,Nat.testBit_two_pow];congr 1;by_cases e:a=j
 ·simp[e]
 ·simp[e,show¬j=a from fun h=>e h.symm]
theorem MS (f g:Nat->Bool):bits BinOp.or IntKind.u64 (wd f 0:Int) (wd g 0:Int)=(wd (fun k=>f k||g k) 0:Int):=by
 rw[bits_or_u64_nat _ _ (ii f 0) (ii g 0),Bv]
def cE (b:List Cd)(i j:Nat):Nat->Nat->Bool:=fun r k=>if r<i then gG b r k else if r=i then(((b.getD i cd0).ins.take j).any fun x=>decide (x.op=8)&&decide (x.a=(k:Int))) else false
theorem OA (a:List Cd):cE a 0 0=fun _ _=>false:=by
 funext r k;unfold cE;rw[ax (by omega)];split<;>simp
theorem MT {b:List Cd}{i j c:Nat}{x:In}(g:(b.getD i cd0).ins[j]? =some x)(f:x.op=8)(ha:x.a=(c:Int))(r k:Nat):pW (cE b i j) i (fun k=>cE b i j i k||decide (k=c)) r k=cE b i (j+1) r k:=by
 unfold pW;by_cases e:r=i
 ·subst e;rw[aB rfl];show(cE b r j r k||decide (k=c))=cE b r (j+1) r k;unfold cE;rw[ax (by omega),aB rfl,ax (by omega),aB rfl,eR,g,Option.toList_some,List.any_append];simp only[List.any_cons,List.any_nil,Bool.or_false,f,ha,decide_true,jd];congr 1;by_cases h:k=c
  ·simp[h]
  ·have d: ¬(c:Int)=(k:Int):=(by omega);simp[h,d]
 ·rw[ax e];unfold cE;by_cases h:r<i
  ·rw[aB h,aB h]
  ·rw[ax h,ax h,ax e,ax e]
theorem MU {a:List Cd}{i j:Nat}{x:In}(c:(a.getD i cd0).ins[j]? =some x)(b:x.op≠8):cE a i j=cE a i (j+1):=by
 funext r k;unfold cE;rw[eR,c,Option.toList_some,List.any_append];simp[b]
theorem OB {a:List Cd}{i j:Nat}(b:(a.getD i cd0).ins.length<=j):cE a i j=cE a (i+1) 0:=by
 funext r k;unfold cE;rw[dg b];by_cases h:r<i
 ·rw[aB h,aB (by omega)]
 ·rw[ax h];by_cases e:r=i
  ·rw[aB e,aB (by omega)];subst e;rfl
  ·rw[ax e,ax (by omega)];split<;>simp
def wE (E:Nat->Nat->Bool)(m i:Nat):Nat->Nat->Bool:=fun r k=>if r<i then wars E (m+1) r k else wars E m r k
theorem IC (E:Nat->Nat->Bool)(m k:Nat):wars E (m+1) m k=wars E m m k:=by
 simp only[wars];cases wars E m m k<;>simp
theorem PL (E:Nat->Nat->Bool)(m i k:Nat):wE E m i m k=wars E m m k:=by
 unfold wE;split
 ·exact IC E m k
 ·rfl
theorem Cs (E:Nat->Nat->Bool)(m i k:Nat):wE E m i i k=wars E m i k:=ax (by omega)
theorem OC {E:Nat->Nat->Bool}{m i:Nat}(h:wE E m i i m=true)(r k:Nat):pW (wE E m i) i (fun k=>wE E m i i k||wE E m i m k) r k=wE E m (i+1) r k:=by
 unfold pW;rw[Cs]at h;by_cases e:r=i
 ·subst e;rw[aB rfl];show(wE E m r r k||wE E m r m k)=_;rw[Cs,PL];unfold wE;rw[aB (by omega)];simp only[wars,h,jd]
 ·rw[ax e];unfold wE;by_cases h:r<i
  ·rw[aB h,aB (by omega)]
  ·rw[ax h,ax (by omega)]
theorem PM {E:Nat->Nat->Bool}{m i:Nat}(h:wE E m i i m=false)(r k:Nat):wE E m i r k=wE E m (i+1) r k:=by
 rw[Cs]at h;unfold wE;by_cases e:r=i
 ·subst e;rw[ax (by omega),aB (by omega)];simp only[wars,h,Bool.false_and,Bool.or_false]
 ·by_cases h:r<i
  ·rw[aB h,aB (by omega)]
  ·rw[ax h,ax (by omega)]
def EA (a:List Cd)(w:World)(t:Value)(wr:World):Prop:= ∃i:Nat,t=ag (i:Int)/\i<=a.length/\UcM w a.length (cE a i 0) wr
def EB (a:List Cd)(i n:Nat)(w:World)(t:Value)(wr:World):Prop:= ∃j:Nat,t=ag (j:Int)/\j<=n/\UcM w a.length (cE a i j) wr
def EC (a:List Cd)(w:World)(t:Value)(wr:World):Prop:= ∃m:Nat,t=ag (m:Int)/\m<=a.length/\UcM w a.length (wE (gG a) m 0) wr
def ED (a:List Cd)(m:Nat)(w:World)(t:Value)(wr:World):Prop:= ∃i:Nat,t=ag (i:Int)/\i<=a.length/\UcM w a.length (wE (gG a) m i) wr
def PN (a:List Cd)(w:World)(e:Ending)(w':World):Prop:=e= .returned (.slice (some (ae w.heap.size 0)) a.length a.length)/\UcM w a.length (wars (gG a) a.length) w'
theorem MV:(prog.info? 53).map (fun i=>(i.zero,i.size,i.bytes))=some (some (.int .u64 0),1,8):=by kernel_rfl
theorem KL:prog.underlying 253=some (.slice 53):=by kernel_rfl
theorem Ct (d:List Cd)(lv:Value)(w:World)(h:InV w lv d)(aN:d.length<=40)(a6: ∀(i:Nat) (c:Cd),d[i]? =some c->aloneE c d.length=0):Calls prog 194 #[lv] w (PN d w):=by
 obtain⟨p,cp,rfl,aI,hc⟩:=h.form;have HC:=bc hc;have HK:=bc a6;have a5:=run_make_row' (P:=prog) 253 53 (.int .u64 0) 8 KL MV rfl .i64 .i64 d.length (by omega) (by omega);rw[DN]at a5;have bA:=am w (.cells (iM d.length (fun _ _=>false)) 53);have n:UcM w d.length (cE d 0 0) (w.alloc (.cells (iM d.length (fun _ _=>false)) 53)):=⟨bA,by rw[OA];exact aG w _⟩
 have aF:(d.length:Int)<=40:=by omega
 have aO:(0:Int)<=(d.length:Int):=by omega
 generalize aZ:w.alloc (.cells (iM d.length (fun _ _=>false)) 53)=wA at*;go_enter func194,ntmps194;go_wp2_with fail;go_loopw [15] (fun t wr=>EA d w t wr) (fun t _=>d.length-(intOf t).toNat);case atStart=>exact⟨0,rfl,by omega,n⟩
 case round=>
  obtain⟨f,rfl,hi,C⟩:=hrel;have aS:(0:Int)<=(f:Int):=(by omega);by_cases ad:f<d.length
  ·have af:(f:Int)<(d.length:Int):=(by omega);obtain⟨u,O⟩: ∃u,d[f]? =some u:=⟨d[f],ay ad⟩
   obtain⟨sv,ac,g,o,U,c0,c1,c2⟩:=HC.o f _ O;have a2:=jh O;have N:=jA (HK.o f _ O);obtain⟨s,hi,st⟩:=u;dsimp only at ac c0 c1 c2 N;obtain⟨pu,cu,rfl,aV,a3⟩:=ac.form;subst U;have d0:=aj C.bel c0;have d1:=aj C.bel c1;have d2:=aj C.bel c2;have bI:=am wr (.cells #[.slice pu s.length cu,ag hi,ag st] 195);have V:=C.below bI;have a9:=aG wr (.cells #[.slice pu s.length cu,ag hi,ag st] 195);have zc:=ak 0 a9;generalize ba:wr.alloc (.cells #[.slice pu s.length cu,ag hi,ag st] 195)=wC at*;have aL:(0:Int)<=(s.length:Int):=(by omega);have aM:s.length<=2000:=N.1.2;have ap:=bc N.2.2;have X:=bc a2;have aq:=bc a3;have ar:=bc V;go_wp2_with fail;have V:=ar.o;go_loopw [23] (fun t wr=>EB d f s.length w t wr) (fun t _=>s.length-(intOf t).toNat);case atStart=>exact⟨0,rfl,by omega,V⟩
   case round=>
    obtain⟨j,rfl,hj,n⟩:=hrel;have aU:(0:Int)<=(j:Int):=(by omega);by_cases ah:j<s.length
    ·have R:(j:Int)<(s.length:Int):=(by omega);obtain⟨x,Q⟩: ∃x,s[j]? =some x:=⟨s[j],ay ah⟩
     obtain⟨sk,G,g2,o2,U,e0,e1,e2,e3,e4⟩:=aq.o j _ Q;subst U;have a4:=ap.o j _ Q;have E:(d.getD f cd0).ins[j]? =some x:=(by rw[X.o];exact Q);have d0:=aj n.bel e0;have d1:=aj n.bel e1;have d2:=aj n.bel e2;have d3:=aj n.bel e3;have d4:=aj n.bel e4;have B:x.op=8->0<=x.a/\x.a<d.length:=fun ho=>wz a4 ho;obtain⟨op,a,b,t,sp⟩:=x;dsimp only at d0 d1 d2 d3 d4 G B;obtain⟨ps,Y,rfl,_,_⟩:=G.form;have bI:=am wr (.cells #[ag op,ag a,ag b,ag t,.slice ps sp.length Y] 216);have ao:=aG wr (.cells #[ag op,ag a,ag b,ag t,.slice ps sp.length Y] 216);have z0:=ak 0 ao;have z1:=ak 1 ao;have H:=n.below bI;by_cases ho:op=8
     ·subst ho;obtain⟨a0,a1⟩:=B rfl;obtain⟨v,rfl⟩: ∃v:Nat,a=(v:Int):=⟨a.toNat,by omega⟩
      have az:v<64:=(by omega);have aQ:(0:Int)<=(v:Int):=(by omega);have aR:(v:Int)<64:=(by omega);have I:QR (∀W,UcM w d.length (pW (cE d f j) f (fun k=>cE d f j f k||decide (k=v))) W->EB d f s.length w (ag ((j+1:Nat):Int)) W):=fun W L=>⟨j+1,rfl,by omega,L.same fun r k _ _=>MT E rfl rfl r k⟩
      have n:=H;generalize cE d f j=St at*;have J:=bc (Oz (St f) v az);have rc:=n.cell ad;generalize a8:wr.alloc (.cells #[ag 8,ag (v:Int),ag b,ag t,.slice ps sp.length Y] 216)=wI at*;go_wp2_with fail;obtain⟨gx,aa⟩:=au wr.heap.size;rw[aa]at z1;simp only[aa];have zx:=z1;refine jS 9 [kn 30 (.slice (some (ae w.heap.size 0)) d.length d.length),kn 31 (ag (f:Int)),kn 32 (ab w.heap.size f),kn 33 (.int .u64 (wd (St f) 0:Int)),kn 34 (ab gx 1),kn 35 (ag (v:Int)),kn 36 (.int .u64 (IntKind.u64.wrap (2^v))),kn 37 (.int .u64 (wd (fun k=>St f k||decide (k=v)) 0:Int)),kn 38 (ab w.heap.size f),nk] (by kernel_rfl) (by kernel_rfl) fun M φ W _ A F l hl hF=> ?_;have aC:=aj A rc;have aD:=aj A zx;have aE:=J.o;simp only[kn,nk,dV,aP,aT,Act.put,aA,aK,aJ]at hl;subst hl;simp only[di,Nat.reduceAdd]at hF;dsimp only[kn,nk,du,eG,dY,Act.put];and_intros;all_goals first|exact trivial|intro hw hn hm K Z
      all_goals try (go_simp;with_reducible exact Z _ _ ⟨rfl,aH _ _⟩)
      have L:=(n.below A).set f (fun k=>St f k||decide (k=v));have z:=aj A rc;have y:=(n.below A).frz f;have q:=bc (I.o _ L);go_simp;refine Z undef _ ⟨trivial,fun c=>by simp at c,fun _=> ?_⟩;simp only[d7,aP,aT,Act.put,aA,aK,aJ];go_wp2_with fail;go_roundw
      case rel=>first
       |exact q.o
       |((repeat apply iT);exact⟨q.o,rfl⟩)
      case measure=>simp[intOf];omega
     ·have aX:(op==8)=false:=bl.2 ho;have q:QR (EB d f s.length w (ag ((j+1:Nat):Int)) (wr.alloc (.cells #[ag op,ag a,ag b,ag t,.slice ps sp.length Y] 216))):=⟨j+1,rfl,by omega,by rw[<-MU E ho];exact H⟩
      generalize a8:wr.alloc (.cells #[ag op,ag a,ag b,ag t,.slice ps sp.length Y] 216)=wI at*;go_wp2_with fail;go_roundw
      case rel=>first
       |exact q.o
       |((repeat apply iT);exact⟨q.o,rfl⟩)
      case measure=>simp[intOf];omega
    ·have R: ¬(j:Int)<(s.length:Int):=(by omega);have q:QR (EA d w (ag ((f+1:Nat):Int)) wr):=⟨f+1,rfl,by omega,by rw[<-OB (j:=j) (by rw[X.o];show s.length<=j;omega)];exact n⟩
     go_wp2_with fail;go_roundw
     case rel=>first
      |exact q.o
      |((repeat apply iT);exact⟨q.o,rfl⟩)
     case measure=>simp[intOf];omega
  ·have af: ¬(f:Int)<(d.length:Int):=(by omega)
   have a7:UcM w d.length (wE (gG d) 0 0) wr:=C.same fun r k hr _=>by
    unfold cE wE;rw[aB (by omega),ax (by omega)];rfl
   have av:=bc a7;go_wp2_with fail;have n:=av.o;go_loopw [43] (fun t wr=>EC d w t wr) (fun t _=>d.length-(intOf t).toNat);case atStart=>exact⟨0,rfl,by omega,n⟩
   case round=>
    obtain⟨m,rfl,hm,D⟩:=hrel;have aW:(0:Int)<=(m:Int):=(by omega);by_cases ai:m<d.length
    ·have S:(m:Int)<(d.length:Int):=(by omega);have aw:=bc D;go_wp2_with fail;have D:=aw.o;go_loopw [48] (fun t wr=>ED d m w t wr) (fun t _=>d.length-(intOf t).toNat);case atStart=>exact⟨0,rfl,by omega,D⟩
     case round=>
      obtain⟨f,rfl,hi,n⟩:=hrel;have aY:(0:Int)<=(f:Int):=(by omega);by_cases al:f<d.length
      ·have T:(f:Int)<(d.length:Int):=(by omega);have rc:=n.cell al;have rm:=n.cell ai;have cH:=Ew (wE (gG d) m f f) m (by omega) wr;cases hb:wE (gG d) m f f m with
       |true=>
        rw[hb]at cH;have I:QR (∀W,UcM w d.length (pW (wE (gG d) m f) f (fun k=>wE (gG d) m f f k||wE (gG d) m f m k)) W->ED d m w (ag ((f+1:Nat):Int)) W):=fun W L=>⟨f+1,rfl,by omega,L.same fun r k _ _=>OC hb r k⟩
        generalize wE (gG d) m f=St at*;have J:=bc (MS (St f) (St m));go_wp2_with fail;refine cH.mono ?_;rintro e w1 ⟨rfl,rfl⟩;go_wp2_with fail;refine jS 10 [kn 57 (.slice (some (ae w.heap.size 0)) d.length d.length),kn 58 (ag (f:Int)),kn 59 (ab w.heap.size f),kn 60 (.int .u64 (wd (St f) 0:Int)),kn 61 (.slice (some (ae w.heap.size 0)) d.length d.length),kn 62 (ag (m:Int)),kn 63 (ab w.heap.size m),kn 64 (.int .u64 (wd (St m) 0:Int)),kn 65 (.int .u64 (wd (fun k=>St f k||St m k) 0:Int)),kn 66 (ab w.heap.size f),nk] (by kernel_rfl) (by kernel_rfl) fun M φ W _ A F l hl hF=> ?_;have aC:=aj A rc;have aD:=aj A rm;have aE:=J.o;simp only[kn,nk,dV,aP,aT,Act.put,aA,aK,aJ]at hl;subst hl;simp only[di,Nat.reduceAdd]at hF;dsimp only[kn,nk,du,eG,dY,Act.put];and_intros;all_goals first|exact trivial|intro hw hn hm K Z
        all_goals try (go_simp;with_reducible exact Z _ _ ⟨rfl,aH _ _⟩)
        have L:=(n.below A).set f (fun k=>St f k||St m k);have z:=aj A rc;have y:=(n.below A).frz f;have q:=bc (I.o _ L);go_simp;refine Z undef _ ⟨trivial,fun c=>by simp at c,fun _=> ?_⟩;simp only[d7,aP,aT,Act.put,aA,aK,aJ];go_wp2_with fail;go_roundw
        case rel=>first
         |exact q.o
         |((repeat apply iT);exact⟨q.o,rfl⟩)
        case measure=>simp[intOf];omega
       |false=>
        rw[hb]at cH;have q:QR (ED d m w (ag ((f+1:Nat):Int)) wr):=⟨f+1,rfl,by omega,n.same fun r k _ _=>PM hb r k⟩
        generalize wE (gG d) m f=St at*;go_wp2_with fail;refine cH.mono ?_;rintro e w1 ⟨rfl,rfl⟩;go_wp2_with fail;go_roundw
        case rel=>first
         |exact q.o
         |((repeat apply iT);exact⟨q.o,rfl⟩)
        case measure=>simp[intOf];omega
      ·have T: ¬(f:Int)<(d.length:Int):=(by omega)
       have q:QR (EC d w (ag ((m+1:Nat):Int)) wr):=⟨m+1,rfl,by omega,n.same fun r k hr _=>by
        unfold wE;rw[aB (by omega),ax (by omega)]⟩
       go_wp2_with fail;go_roundw
       case rel=>first
        |exact q.o
        |((repeat apply iT);exact⟨q.o,rfl⟩)
       case measure=>simp[intOf];omega
    ·have S: ¬(m:Int)<(d.length:Int):=(by omega)
     have q:QR (UcM w d.length (wars (gG d) d.length) wr):=by
      show UcM _ _ _ _;have e:m=d.length:=(by omega);subst e;exact D.same fun r k _ _=>(by unfold wE;rw[ax (by omega)])
     go_wp2_with fail;go_ret;exact⟨rfl,q.o⟩
namespace Vx
section
variable {cs:List Cd} {l:List In}
theorem yt (x:In): -1<=eff x/\eff x<=1:=by
 unfold eff;split
 ·omega
 ·split<;>omega
theorem PO (x:In):0<=tk x/\tk x<=2:=by
 unfold tk;split
 ·omega
 ·split<;>omega
theorem nQ: ∀j:Nat,-(j:Int)<=hAt l j/\hAt l j<=j
 |0=>by simp[hAt]
 |j+1=>by
  have a:=nQ j;have b:=yt (l.getD j in0);simp only[hAt];omega
theorem sJ (b: ∀i,(cs.getD i cd0).high<=100): ∀j:Nat,0<=mxH cs l j/\mxH cs l j<=j+100
 |0=>by simp[mxH]
 |j+1=>by
  have c:=sJ b j;have d:=nQ (l:=l) j;have e:=nQ (l:=l) (j+1);have f:=b (l.getD j in0).a.toNat;simp only[mxH];split<;>omega
theorem sK (b: ∀i,0<=(cs.getD i cd0).steps/\(cs.getD i cd0).steps<=20000): ∀j:Nat,(j:Int)<=stS cs l j/\stS cs l j<=j*20001
 |0=>by simp[stS]
 |j+1=>by
  have c:=sK b j;have d:=b (l.getD j in0).a.toNat;simp only[stS];split<;>omega
theorem MW (h: ∀(i:Nat) (c:Cd),cs[i]? =some c->aloneE c cs.length=0)(i:Nat):(cs.getD i cd0).high<=100:=by
 cases hi:cs[i]? with
 |none=>simp[List.getD,hi,cd0]
 |some c=>
  rw[jh hi];have:=(jA (h i c hi)).2.1;omega
theorem KM (h: ∀(i:Nat) (c:Cd),cs[i]? =some c->aloneE c cs.length=0)(i:Nat):0<=(cs.getD i cd0).steps/\(cs.getD i cd0).steps<=20000:=by
 cases hi:cs[i]? with
 |none=>simp[List.getD,hi,cd0]
 |some c=>
  rw[jh hi];have:=(jA (h i c hi)).2.1;omega
def agB (L:List (Int×Int))(p h:Int):Bool:=match lk L p with
 |none=>true
 |some v=>decide (v=h)
theorem tj {L:List (Int×Int)}{p h:Int}(e:agB L p h=true): ∀v,lk L p=some v->v=h:=fun v a=>by
 unfold agB at e;rw[a]at e;simpa using e
theorem rH {L:List (Int×Int)}{p h:Int}(e:agB L p h=false): ∃v,lk L p=some v/\v≠h:=by
 unfold agB at e;cases hl:lk L p with
 |none=>rw[hl]at e;cases e
 |some v=>rw[hl]at e;exact⟨v,rfl,by simpa using e⟩
theorem MX {L:List (Int×Int)}{p h:Int}:agB L p h=true↔ ∀v,lk L p=some v->v=h:=by
 constructor
 ·exact tj
 ·intro c;cases e:agB L p h with
  |true=>rfl
  |false=>
   obtain⟨v,a,b⟩:=rH e;exact absurd (c v a) b
end
end Vx
end Go.Proofs.YtlkehieagdkgiaaGreatDoor
