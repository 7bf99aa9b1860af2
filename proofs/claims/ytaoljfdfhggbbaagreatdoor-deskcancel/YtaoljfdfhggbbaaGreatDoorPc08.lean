/- Texts of the proof. -/
import Derived.Test.YtaoljfdfhggbbaaGreatDoorPc07
import Derived.Test.YtaoljfdfhggbbaaGreatDoorPc01
set_option maxRecDepth 100000
set_option maxHeartbeats 8000000
namespace Go.Proofs.YtaoljfdfhggbbaaGreatDoor
open Go.Proofs.Tryz Go.RowKit Lx Vx Mx Msk
theorem a8 {p:Prop}(h:p):PN p:=h
theorem qx (n m:Int)(w:World):Calls prog 128 #[ag n,ag m] w fun e w'=>e= .returned (.bool (decide (0<=n/\n<m)))/\w'=w:=by
 by_cases a:0<=n
 ·by_cases b:n<m
  ·rw[bm (⟨a,b⟩:0<=n/\n<m)];go_enter func128,ntmps128;go_wp2;go_ret;exact⟨rfl,rfl⟩
  ·rw[bn (fun e:0<=n/\n<m=>b e.2)];go_enter func128,ntmps128;go_wp2;go_ret;exact⟨rfl,rfl⟩
 ·rw[bn (fun e:0<=n/\n<m=>a e.1)];go_enter func128,ntmps128;go_wp2;go_ret;exact⟨rfl,rfl⟩
theorem lm (n lo hi:Int)(w:World):Calls prog 180 #[ag n,ag lo,ag hi] w fun e w'=>e= .returned (.bool (decide (lo<=n/\n<=hi)))/\w'=w:=by
 by_cases a:lo<=n
 ·by_cases b:n<=hi
  ·rw[bm (⟨a,b⟩:lo<=n/\n<=hi)];go_enter func180,ntmps180;go_wp2;go_ret;exact⟨rfl,rfl⟩
  ·rw[bn (fun e:lo<=n/\n<=hi=>b e.2)];go_enter func180,ntmps180;go_wp2;go_ret;exact⟨rfl,rfl⟩
 ·rw[bn (fun e:lo<=n/\n<=hi=>a e.1)];go_enter func180,ntmps180;go_wp2;go_ret;exact⟨rfl,rfl⟩
theorem md (b:Bool)(e:Int)(w:World):Calls prog 202 #[.bool b,ag e] w fun r w'=>r= .returned (ag (if b=true then 0 else e))/\w'=w:=by
 cases b
 ·go_enter func202,ntmps202;go_wp2;go_ret;exact⟨rfl,rfl⟩
 ·go_enter func202,ntmps202;go_wp2;go_ret;exact⟨rfl,rfl⟩
def mX (w:World)(v:Value)(l:List (Int×Int)):Prop:=(l=[]/\ ∃p c,v= .slice p 0 c)\/Row w v l
theorem mX.later {w w':World}{v:Value}{l:List (Int×Int)}(h:mX w v l)(a:aq w w'):mX w' v l:=by
 rcases h with h|h
 ·exact .inl h
 ·exact .inr (h.later a)
theorem mX.form {w:World}{v:Value}{l:List (Int×Int)}(h:mX w v l): ∃p c,v= .slice p l.length c/\l.length<9223372036854775808/\ ∀(j:Nat) (s:Int×Int),l[j]? =some s-> ∃g o:Nat,p=some ⟨g,o,none⟩/\w.cell? (ae g (o+j*2))=some (ag s.1)/\w.cell? (ae g (o+j*2+1))=some (ag s.2):=by
 rcases h with⟨rfl,p,c,rfl⟩|⟨c,rfl,rfl⟩|⟨g,o,c,rfl,f,d⟩
 ·exact⟨p,c,rfl,by decide,fun j s a=>by simp at a⟩
 ·exact⟨none,c,rfl,by decide,fun j s a=>by simp at a⟩
 ·refine⟨_,c,rfl,f,fun j s a=>⟨g,o,rfl,?_⟩⟩;have b:=(aG.1 a).1;have:=d j b;have e:l.getD j (0,0)=s:=(by simp[List.getD,a]);rw[e]at this;exact this
theorem Nn (p:Option Addr)(c:Nat)(w:World):
  Calls prog 54 #[.slice p 0 c] w fun e w'=>e= .returned (.agg (mv (inl [])))/\aq w w':=by
 have f:=eI;have b:((w.alloc (.cells (mv fun _=>false) 84)).alloc (.cells (mv fun _=>false) 84)).heap[w.heap.size]? =ah (mv fun _=>false) 84:=by(repeat (first|refine dl _ _ _ (by simp only[aU];omega) ?_|exact dC _ _ _ (by first|rfl|simp only[aU])))
 have d:((w.alloc (.cells (mv fun _=>false) 84)).alloc (.cells (mv fun _=>false) 84)).heap[w.heap.size+1]? =ah (mv fun _=>false) 84:=by(repeat (first|refine dl _ _ _ (by simp only[aU];omega) ?_|exact dC _ _ _ (by first|rfl|simp only[aU])))
 have a:aq w ((w.alloc (.cells (mv fun _=>false) 84)).alloc (.cells (mv fun _=>false) 84)):=(am _ _).alloc (by simp) _
 ·go_enter func54,ntmps54;go_wp2;refine wp_loop_rounds 1 ?_;rw[rounds_succ]
  go_wp2_with(first
   |(refine aR rfl 84 _ rfl _ rfl _ _ _ _ d bV rfl (bh _) ?_)
   |(refine ay rfl 84 _ _ rfl _ _ rfl rfl _ _ b (bh _) (by simp[bO]) (dQ _) ?_))
  refine aW (v:= .agg (mv (inl []))) ?_ rfl ⟨rfl,below_setRow a (aB _) _⟩;exact bc rfl _ _ w.heap.size _ _ _ _ rfl (aL _ _ _ _ _ _ b) bV rfl (bh _)
theorem DK (v:Value)(l:List (Int×Int))(w:World)(a:mX w v l):
  Calls prog 54 #[v] w fun e w'=>e= .returned (.agg (mv (inl l)))/\aq w w':=by
 rcases a with⟨rfl,p,c,rfl⟩|a
 ·exact Nn p c w
 ·exact tC v l w a
theorem EY (l:List (Int×Int))(v:Value)(w:World)(h:mX w v l):Calls prog 203 #[v] w fun r w'=>r= .returned (.bool (risL l (-1)))/\aq w w':=by
 obtain⟨p,c,rfl,z,u⟩:=h.form;have i:=a8 u;clear u h;go_enter func203,ntmps203;go_wp2_with fail;go_loopw [3,8] (fun x t wr=> ∃(j:Nat) (e:Int),x=ag e/\t=ag (j:Int)/\j<=l.length/\risL l (-1)=risL (l.drop j) e/\aq w wr) (fun _ t _=>l.length-(intOf t).toNat);case atStart=>exact⟨0,-1,rfl,rfl,by omega,rfl,aI _ _⟩
 case round=>
  obtain⟨j,e,rfl,rfl,G,a,k⟩:=hrel;have D:(0:Int)<=(j:Int):=(by omega);by_cases n:j<l.length
  ·have m:(j:Int)<(l.length:Int):=(by omega);obtain⟨s,b⟩: ∃p,l[j]? =some p:=⟨l[j],az n⟩
   rw[G3 b]at a;obtain⟨g,o,q,c0,c1⟩:=i.o j _ b;subst q;obtain⟨x,y⟩:=s;dsimp only at c0 c1 a;have E:=aj k c0;have F:=aj k c1;have f:=k.alloc k.size (.cells #[ag x,ag y] 87);by_cases A:x<=e
   ·rw[aD (.inl A)]at a;have d:=a8 a;clear a b i c0 c1;go_wp2_with fail;go_ret;exact⟨by(rw[d.o])<;>rfl,f⟩
   ·by_cases B:y<=x
    ·rw[aD (.inr (.inl B))]at a;have d:=a8 a;clear a b i c0 c1;go_wp2_with fail;go_ret;exact⟨by(rw[d.o])<;>rfl,f⟩
    ·by_cases C:1440<y
     ·rw[aD (.inr (.inr C))]at a;have d:=a8 a;clear a b i c0 c1;go_wp2_with fail;go_ret;exact⟨by(rw[d.o])<;>rfl,f⟩
     ·rw[ax (by omega)]at a;have d:=a8 a;clear a b c0 c1;go_wp2_with fail;go_roundw;case rel=>exact⟨j+1,y,rfl,by go_num,by omega,d.o,f⟩
      case measure=>simp[intOf];omega
  ·have m: ¬(j:Int)<(l.length:Int):=(by omega)
   have d:PN (risL l (-1)=true):=by
    show _=_;rw[a,dg (by omega)];rfl
   clear a i;go_wp2_with fail;go_ret;exact⟨by(rw[d.o])<;>rfl,k⟩
theorem rO:prog.underlying 177=some (.struct (prog.fieldsOf 177)):=by kernel_rfl
def nmD (op a b:Int):Bool:=if op=6 then decide (1<=a/\a<=127) else decide (0<=a/\a<=b/\b<146097)
theorem sY (op a b t:Int)(sv:Value)(w:World):Calls prog 204 #[.agg #[ag op,ag a,ag b,ag t,sv]] w fun r w'=>r= .returned (.bool (nmD op a b))/\aq w w':=by
 have c:=am w (.cells #[ag op,ag a,ag b,ag t,sv] 177);have d:=aE w (.cells #[ag op,ag a,ag b,ag t,sv] 177);generalize l:w.alloc (.cells #[ag op,ag a,ag b,ag t,sv] 177)=m at*;have n:=ak 0 d;have o:=ak 1 d;have p:=ak 2 d;have s:=ak 3 d;have u:=ak 4 d;by_cases f:op=6
 ·have e:nmD op a b=decide (1<=a/\a<=127):=aD f;rw[e];subst f;have c1:=lm a 1 127 m;generalize decide (1<=a/\a<=127)=q at*;go_enter func204,ntmps204;go_wp2_with fail;refine c1.mono ?_;rintro r w' ⟨rfl,rfl⟩;go_wp2_with fail;go_ret;exact⟨rfl,c⟩
 ·have e:nmD op a b=decide (0<=a/\a<=b/\b<146097):=ax f;have k:(op==6)=false:=bj.2 f;rw[e];by_cases g:0<=a
  ·by_cases i:a<=b
   ·by_cases j:b<146097
    ·rw[bm (⟨g,i,j⟩:0<=a/\a<=b/\b<146097)];go_enter func204,ntmps204;go_wp2_with fail;go_ret;exact⟨rfl,c⟩
    ·rw[bn (fun e:0<=a/\a<=b/\b<146097=>j e.2.2)];go_enter func204,ntmps204;go_wp2_with fail;go_ret;exact⟨rfl,c⟩
   ·rw[bn (fun e:0<=a/\a<=b/\b<146097=>i e.2.1)];go_enter func204,ntmps204;go_wp2_with fail;go_ret;exact⟨rfl,c⟩
  ·rw[bn (fun e:0<=a/\a<=b/\b<146097=>g e.1)];go_enter func204,ntmps204;go_wp2_with fail;go_ret;exact⟨rfl,c⟩
theorem LG (a b t:Int)(sv:Value)(k n r:Nat)(w:World):Calls prog 181 #[.agg #[ag 2,ag a,ag b,ag t,sv],ag (k:Int),ag (n:Int),ag (r:Int)] w fun e w'=>e= .returned (ag 0)/\aq w w':=by
 have d:=am w (.cells #[ag 2,ag a,ag b,ag t,sv] 177);have c:=aE w (.cells #[ag 2,ag a,ag b,ag t,sv] 177);generalize f:w.alloc (.cells #[ag 2,ag a,ag b,ag t,sv] 177)=g at*;have i:=ak 0 c;have j:=ak 1 c;have l:=ak 2 c;have m:=ak 3 c;have o:=ak 4 c;go_enter func181,ntmps181;go_wp2_with fail;go_ret;exact⟨rfl,d⟩
theorem LH (a b t:Int)(sv:Value)(k n r:Nat)(w:World):Calls prog 181 #[.agg #[ag 3,ag a,ag b,ag t,sv],ag (k:Int),ag (n:Int),ag (r:Int)] w fun e w'=>e= .returned (ag 0)/\aq w w':=by
 have d:=am w (.cells #[ag 3,ag a,ag b,ag t,sv] 177);have c:=aE w (.cells #[ag 3,ag a,ag b,ag t,sv] 177);generalize f:w.alloc (.cells #[ag 3,ag a,ag b,ag t,sv] 177)=g at*;have i:=ak 0 c;have j:=ak 1 c;have l:=ak 2 c;have m:=ak 3 c;have o:=ak 4 c;go_enter func181,ntmps181;go_wp2_with fail;go_ret;exact⟨rfl,d⟩
theorem LI (a b t:Int)(sv:Value)(k n r:Nat)(w:World):Calls prog 181 #[.agg #[ag 4,ag a,ag b,ag t,sv],ag (k:Int),ag (n:Int),ag (r:Int)] w fun e w'=>e= .returned (ag 0)/\aq w w':=by
 have d:=am w (.cells #[ag 4,ag a,ag b,ag t,sv] 177);have c:=aE w (.cells #[ag 4,ag a,ag b,ag t,sv] 177);generalize f:w.alloc (.cells #[ag 4,ag a,ag b,ag t,sv] 177)=g at*;have i:=ak 0 c;have j:=ak 1 c;have l:=ak 2 c;have m:=ak 3 c;have o:=ak 4 c;go_enter func181,ntmps181;go_wp2_with fail;go_ret;exact⟨rfl,d⟩
theorem LJ (a b t:Int)(sv:Value)(k n r:Nat)(w:World)(sp:List (Int×Int))(h:mX w sv sp):Calls prog 181 #[.agg #[ag 1,ag a,ag b,ag t,sv],ag (k:Int),ag (n:Int),ag (r:Int)] w fun e w'=>e= .returned (ag (if risL sp (-1)=true then 0 else 2))/\aq w w':=by
 have d:=am w (.cells #[ag 1,ag a,ag b,ag t,sv] 177);have c:=aE w (.cells #[ag 1,ag a,ag b,ag t,sv] 177);generalize l:w.alloc (.cells #[ag 1,ag a,ag b,ag t,sv] 177)=o at*;have s:=ak 0 c;have v:=ak 1 c;have x:=ak 2 c;have y:=ak 3 c;have z:=ak 4 c;have c1:=EY sp sv o (h.later d);have i:=fun W=>md (risL sp (-1)) 2 W;generalize (if risL sp (-1)=true then(0:Int) else 2)=u at*;generalize risL sp (-1)=q at*;go_enter func181,ntmps181;go_wp2_with fail;refine c1.mono ?_;rintro e m ⟨rfl,f⟩;have g:=aw d f;have j:=i m;go_wp2_with fail;refine j.mono ?_;rintro e p ⟨rfl,rfl⟩;go_wp2_with fail;go_ret;exact⟨rfl,g⟩
theorem LK (a b t:Int)(sv:Value)(k n r:Nat)(w:World):Calls prog 181 #[.agg #[ag 5,ag a,ag b,ag t,sv],ag (k:Int),ag (n:Int),ag (r:Int)] w fun e w'=>e= .returned (ag (if a≠0/\ -1439<=a/\a<=1439 then 0 else 3))/\aq w w':=by
 have d:=am w (.cells #[ag 5,ag a,ag b,ag t,sv] 177);have c:=aE w (.cells #[ag 5,ag a,ag b,ag t,sv] 177);generalize m:w.alloc (.cells #[ag 5,ag a,ag b,ag t,sv] 177)=g at*;have v:=ak 0 c;have x:=ak 1 c;have y:=ak 2 c;have z:=ak 3 c;have A:=ak 4 c;by_cases ha:a=0
 ·subst ha;have f:=md false 3 g;rw[ax (fun e=>e.1 rfl)];go_enter func181,ntmps181;go_wp2_with fail;refine f.mono ?_;rintro e p ⟨rfl,rfl⟩;go_wp2_with fail;go_ret;exact⟨rfl,d⟩
 ·have j:(a==0)=false:=bj.2 ha;have c1:=lm a (-1439) 1439 g;have f:=md (decide (-1439<=a/\a<=1439)) 3 g
  have i:PN ((if a≠0/\ -1439<=a/\a<=1439 then(0:Int) else 3)=if decide (-1439<=a/\a<=1439)=true then 0 else 3):=by
   show _=_;by_cases h: -1439<=a/\a<=1439
   ·rw[aD ⟨ha,h⟩,aD (bm h)]
   ·rw[ax (fun e=>h e.2),ax (by simpa using h)]
  rw[i.o];generalize (if decide (-1439<=a/\a<=1439)=true then(0:Int) else 3)=u at*;generalize decide (-1439<=a/\a<=1439)=q at*;have l:(a !=0)=true:=(by simpa using ha);go_enter func181,ntmps181;go_wp2_with fail;refine c1.mono ?_;rintro e s ⟨rfl,rfl⟩;go_wp2_with fail;refine f.mono ?_;rintro e p ⟨rfl,rfl⟩;go_wp2_with fail;go_ret;exact⟨rfl,d⟩
theorem LL (a b t:Int)(sv:Value)(k n r:Nat)(w:World)(x:k<=2000):Calls prog 181 #[.agg #[ag 6,ag a,ag b,ag t,sv],ag (k:Int),ag (n:Int),ag (r:Int)] w fun e w'=>e= .returned (ag (if(k:Int)+2<=t/\t<=n then(if nmD 6 a b=true then 0 else 3) else 8))/\aq w w':=by
 have d:=am w (.cells #[ag 6,ag a,ag b,ag t,sv] 177);have c:=aE w (.cells #[ag 6,ag a,ag b,ag t,sv] 177);generalize v:w.alloc (.cells #[ag 6,ag a,ag b,ag t,sv] 177)=j at*;have z:=ak 0 c;have A:=ak 1 c;have B:=ak 2 c;have C:=ak 3 c;have D:=ak 4 c;have p:(0:Int)<=(k:Int):=by omega
 have s:(k:Int)<=2000:=by omega
 have c1:=lm t ((k:Int)+2) (n:Int) j;have l:=sY 6 a b t sv j;have m:=fun W=>md (nmD 6 a b) 3 W;by_cases h:(k:Int)+2<=t/\t<=n
 ·rw[aD h];rw[bm h]at c1;generalize (if nmD 6 a b=true then(0:Int) else 3)=u at*;generalize nmD 6 a b=q at*;go_enter func181,ntmps181;go_wp2_with fail;refine c1.mono ?_;rintro e i ⟨rfl,rfl⟩;go_wp2_with(refine aR rfl 177 _ rfl _ rfl _ _ _ _ c rO rfl (by kernel_rfl) ?_)
  refine l.mono ?_;rintro e i ⟨rfl,f⟩;have g:=aw d f;have o:=m i;go_wp2_with fail;refine o.mono ?_;rintro e y ⟨rfl,rfl⟩;go_wp2_with fail;go_ret;exact⟨rfl,g⟩
 ·rw[ax h];rw[bn h]at c1;go_enter func181,ntmps181;go_wp2_with fail;refine c1.mono ?_;rintro e i ⟨rfl,rfl⟩;go_wp2_with fail;go_ret;exact⟨rfl,d⟩
theorem LM (a b t:Int)(sv:Value)(k n r:Nat)(w:World)(x:k<=2000):Calls prog 181 #[.agg #[ag 7,ag a,ag b,ag t,sv],ag (k:Int),ag (n:Int),ag (r:Int)] w fun e w'=>e= .returned (ag (if(k:Int)+2<=t/\t<=n then(if nmD 7 a b=true then 0 else 3) else 8))/\aq w w':=by
 have d:=am w (.cells #[ag 7,ag a,ag b,ag t,sv] 177);have c:=aE w (.cells #[ag 7,ag a,ag b,ag t,sv] 177);generalize v:w.alloc (.cells #[ag 7,ag a,ag b,ag t,sv] 177)=j at*;have z:=ak 0 c;have A:=ak 1 c;have B:=ak 2 c;have C:=ak 3 c;have D:=ak 4 c;have p:(0:Int)<=(k:Int):=by omega
 have s:(k:Int)<=2000:=by omega
 have c1:=lm t ((k:Int)+2) (n:Int) j;have l:=sY 7 a b t sv j;have m:=fun W=>md (nmD 7 a b) 3 W;by_cases h:(k:Int)+2<=t/\t<=n
 ·rw[aD h];rw[bm h]at c1;generalize (if nmD 7 a b=true then(0:Int) else 3)=u at*;generalize nmD 7 a b=q at*;go_enter func181,ntmps181;go_wp2_with fail;refine c1.mono ?_;rintro e i ⟨rfl,rfl⟩;go_wp2_with(refine aR rfl 177 _ rfl _ rfl _ _ _ _ c rO rfl (by kernel_rfl) ?_)
  refine l.mono ?_;rintro e i ⟨rfl,f⟩;have g:=aw d f;have o:=m i;go_wp2_with fail;refine o.mono ?_;rintro e y ⟨rfl,rfl⟩;go_wp2_with fail;go_ret;exact⟨rfl,g⟩
 ·rw[ax h];rw[bn h]at c1;go_enter func181,ntmps181;go_wp2_with fail;refine c1.mono ?_;rintro e i ⟨rfl,rfl⟩;go_wp2_with fail;go_ret;exact⟨rfl,d⟩
theorem LN (a b t:Int)(sv:Value)(k n r:Nat)(w:World):Calls prog 181 #[.agg #[ag 8,ag a,ag b,ag t,sv],ag (k:Int),ag (n:Int),ag (r:Int)] w fun e w'=>e= .returned (ag (if 0<=a/\a<r then 0 else 6))/\aq w w':=by
 have d:=am w (.cells #[ag 8,ag a,ag b,ag t,sv] 177);have c:=aE w (.cells #[ag 8,ag a,ag b,ag t,sv] 177);generalize j:w.alloc (.cells #[ag 8,ag a,ag b,ag t,sv] 177)=f at*;have p:=ak 0 c;have s:=ak 1 c;have v:=ak 2 c;have x:=ak 3 c;have y:=ak 4 c;have c1:=qx a (r:Int) f;have i:=md (decide (0<=a/\a<(r:Int))) 6 f
 have g:PN ((if 0<=a/\a<(r:Int) then(0:Int) else 6)=if decide (0<=a/\a<(r:Int))=true then 0 else 6):=by
  show _=_;by_cases h:0<=a/\a<(r:Int)
  ·rw[aD h,aD (bm h)]
  ·rw[ax h,ax (by simpa using h)]
 rw[g.o];generalize (if decide (0<=a/\a<(r:Int))=true then(0:Int) else 6)=u at*;generalize decide (0<=a/\a<(r:Int))=q at*;go_enter func181,ntmps181;go_wp2_with fail;refine c1.mono ?_;rintro e l ⟨rfl,rfl⟩;go_wp2_with fail;refine i.mono ?_;rintro e m ⟨rfl,rfl⟩;go_wp2_with fail;go_ret;exact⟨rfl,d⟩
theorem LO (op:Int)(a b t:Int)(sv:Value)(k n r:Nat)(w:World)(g:(op==1)=false)(i:(op==2)=false)(j:(op==3)=false)(l:(op==4)=false)(m:(op==5)=false)(o:(op==6)=false)(p:(op==7)=false)(q:(op==8)=false):Calls prog 181 #[.agg #[ag op,ag a,ag b,ag t,sv],ag (k:Int),ag (n:Int),ag (r:Int)] w fun e w'=>e= .returned (ag 1)/\aq w w':=by
 have d:=am w (.cells #[ag op,ag a,ag b,ag t,sv] 177);have c:=aE w (.cells #[ag op,ag a,ag b,ag t,sv] 177);generalize f:w.alloc (.cells #[ag op,ag a,ag b,ag t,sv] 177)=s at*;have u:=ak 0 c;have v:=ak 1 c;have x:=ak 2 c;have y:=ak 3 c;have z:=ak 4 c;go_enter func181,ntmps181;go_wp2_with fail;go_ret;exact⟨rfl,d⟩
theorem G7 (x:In)(sv:Value)(k n r:Nat)(w:World)(h:mX w sv x.sp)(p:k<=2000):Calls prog 181 #[.agg #[ag x.op,ag x.a,ag x.b,ag x.to,sv],ag (k:Int),ag (n:Int),ag (r:Int)] w fun e w'=>e= .returned (ag (fO x k n r))/\aq w w':=by
 obtain⟨op,a,b,t,sp⟩:=x;dsimp only at h⊢;unfold fO;dsimp only;by_cases l:op=2
 ·subst l;exact LG a b t sv k n r w
 by_cases m:op=3
 ·subst m;exact LH a b t sv k n r w
 by_cases o:op=4
 ·subst o;exact LI a b t sv k n r w
 rw[ax (by omega)];by_cases d:op=1
 ·subst d;exact LJ a b t sv k n r w sp h
 rw[ax d];by_cases f:op=5
 ·subst f;exact LK a b t sv k n r w
 rw[ax f];by_cases g:op=6
 ·subst g;have c:=LL a b t sv k n r w p;have e:nmD 6 a b=decide (1<=a/\a<=127):=aD rfl;rw[e]at c;rw[aD rfl];simpa only[cg] using c
 rw[ax g];by_cases i:op=7
 ·subst i;have c:=LM a b t sv k n r w p;have e:nmD 7 a b=decide (0<=a/\a<=b/\b<146097):=ax (by decide);rw[e]at c;rw[aD rfl];simpa only[cg] using c
 rw[ax i];by_cases j:op=8
 ·subst j;exact LN a b t sv k n r w
 rw[ax j];exact LO op a b t sv k n r w (bj.2 d) (bj.2 l) (bj.2 m) (bj.2 o) (bj.2 f) (bj.2 g) (bj.2 i) (bj.2 j)
def xu (w:World)(v:Value)(xs:List (In×Value)):Prop:= ∃p c,v= .slice p xs.length c/\xs.length<9223372036854775808/\ ∀(j:Nat) (x:In×Value),xs[j]? =some x->mX w x.2 x.1.sp/\ ∃g o:Nat,p=some ⟨g,o,none⟩/\
 w.cell? (ae g (o+j*5))=some (ag x.1.op)/\w.cell? (ae g (o+j*5+1))=some (ag x.1.a)/\w.cell? (ae g (o+j*5+2))=some (ag x.1.b)/\w.cell? (ae g (o+j*5+3))=some (ag x.1.to)/\w.cell? (ae g (o+j*5+4))=some x.2
theorem xu.below {w w':World}{v:Value}{xs:List (In×Value)}(h:xu w v xs)(a:aq w w'):xu w' v xs:=by
 obtain⟨p,c,i,k,l⟩:=h;refine⟨p,c,i,k,fun j x m=> ?_⟩;obtain⟨r,g,o,e,c0,c1,b,d,f⟩:=l j x m;exact⟨r.later a,g,o,e,aj a c0,aj a c1,aj a b,aj a d,aj a f⟩
def oS (w:World)(v:Value)(l:List In):Prop:= ∃xs:List (In×Value),xu w v xs/\xs.map (fun x=>x.1)=l
theorem oS.below {w w':World}{v:Value}{l:List In}(h:oS w v l)(c:aq w w'):oS w' v l:=by
 obtain⟨xs,a,b⟩:=h;exact⟨xs,a.below c,b⟩
theorem oS.form {w:World}{v:Value}{l:List In}(h:oS w v l): ∃p c,v= .slice p l.length c/\l.length<9223372036854775808/\ ∀(j:Nat) (x:In),l[j]? =some x-> ∃sv:Value,mX w sv x.sp/\ ∃g o:Nat,p=some ⟨g,o,none⟩/\
  w.cell? (ae g (o+j*5))=some (ag x.op)/\w.cell? (ae g (o+j*5+1))=some (ag x.a)/\w.cell? (ae g (o+j*5+2))=some (ag x.b)/\w.cell? (ae g (o+j*5+3))=some (ag x.to)/\w.cell? (ae g (o+j*5+4))=some sv:=by
 obtain⟨xs,⟨p,c,f,i,k⟩,rfl⟩:=h;rw[ba];refine⟨p,c,f,i,fun j x d=> ?_⟩;rw[bg]at d;obtain⟨y,n,rfl⟩:=dR.1 d;obtain⟨r,g,o,e,m⟩:=k j y n;exact⟨y.2,r,g,o,e,m⟩
def InC (w:World)(v:Value)(a:List (Cd×Value)):Prop:= ∃p c,v= .slice p a.length c/\a.length<9223372036854775808/\ ∀(j:Nat) (u:Cd×Value),a[j]? =some u->oS w u.2 u.1.ins/\ ∃g o:Nat,p=some ⟨g,o,none⟩/\
 w.cell? (ae g (o+j*3))=some u.2/\w.cell? (ae g (o+j*3+1))=some (ag u.1.high)/\w.cell? (ae g (o+j*3+2))=some (ag u.1.steps)
theorem InC.below {w w':World}{v:Value}{b:List (Cd×Value)}(h:InC w v b)(a:aq w w'):InC w' v b:=by
 obtain⟨p,c,f,i,k⟩:=h;refine⟨p,c,f,i,fun j u l=> ?_⟩;obtain⟨r,g,o,e,c0,c1,d⟩:=k j u l;exact⟨r.below a,g,o,e,aj a c0,aj a c1,aj a d⟩
def InV (w:World)(v:Value)(b:List Cd):Prop:= ∃a:List (Cd×Value),InC w v a/\a.map (fun u=>u.1)=b
theorem InV.below {w w':World}{v:Value}{a:List Cd}(h:InV w v a)(d:aq w w'):InV w' v a:=by
 obtain⟨xs,b,c⟩:=h;exact⟨xs,b.below d,c⟩
theorem InV.form {w:World}{v:Value}{a:List Cd}(h:InV w v a): ∃p c,v= .slice p a.length c/\a.length<9223372036854775808/\ ∀(j:Nat) (u:Cd),a[j]? =some u-> ∃sv:Value,oS w sv u.ins/\ ∃g o:Nat,p=some ⟨g,o,none⟩/\
  w.cell? (ae g (o+j*3))=some sv/\w.cell? (ae g (o+j*3+1))=some (ag u.high)/\w.cell? (ae g (o+j*3+2))=some (ag u.steps):=by
 obtain⟨xs,⟨p,c,d,f,i⟩,rfl⟩:=h;rw[ba];refine⟨p,c,d,f,fun j x b=> ?_⟩;rw[bg]at b;obtain⟨y,l,rfl⟩:=dR.1 b;obtain⟨r,g,o,e,k⟩:=i j y l;exact⟨y.2,r,g,o,e,k⟩
theorem EZ (c:Cd)(sv:Value)(r:Nat)(w:World)(h:oS w sv c.ins):Calls prog 149 #[.agg #[sv,ag c.high,ag c.steps],ag (r:Int)] w fun e w'=>e= .returned (ag (aloneE c r))/\aq w w':=by
 obtain⟨p,J,rfl,C,hc⟩:=h.form;have S:=a8 hc;generalize i:aloneE c r=X;unfold aloneE at i;obtain⟨l,hi,st⟩:=c;dsimp only at i C S⊢;have q:=am w (.cells #[.slice p l.length J,ag hi,ag st] 140);have s:=aE w (.cells #[.slice p l.length J,ag hi,ag st] 140);generalize ae:w.alloc (.cells #[.slice p l.length J,ag hi,ag st] 140)=R at*;have z0:=ak 0 s;have z1:=ak 1 s;have z2:=ak 2 s;have ad:(0:Int)<=(l.length:Int):=by omega
 have c1:=lm (l.length:Int) 1 2000 R;by_cases U:1<=l.length/\l.length<=2000
 ·rw[ax (fun e=>e U)]at i;rw[bm (show(1:Int)<=(l.length:Int)/\(l.length:Int)<=2000 by omega)]at c1;have A:=lm hi 1 100 R;by_cases K:1<=hi/\hi<=100
  ·rw[bm K]at A;have H:=lm st 1 20000 R;by_cases L:1<=st/\st<=20000
   ·rw[bm L]at H;rw[ax (fun e=>e ⟨K,L⟩)]at i;have W:PN (py (l.drop 0) 0 l.length r=X):=i;go_enter func149,ntmps149;go_wp2_with fail;refine c1.mono ?_;rintro e G ⟨rfl,rfl⟩;go_wp2_with fail;refine A.mono ?_;rintro e V ⟨rfl,rfl⟩;go_wp2_with fail;refine H.mono ?_;rintro e w3 ⟨rfl,rfl⟩;go_wp2_with fail;go_loopw [26] (fun t wr=> ∃j:Nat,t=ag (j:Int)/\j<=l.length/\py (l.drop j) j l.length r=X/\wr.heap[w.heap.size]? =ah #[.slice p l.length J,ag hi,ag st] 140/\aq w wr) (fun t _=>l.length-(intOf t).toNat);case atStart=>exact⟨0,rfl,by omega,W.o,s,q⟩
    case round=>
     obtain⟨j,rfl,hj,f,Q,d⟩:=hrel;have ac:(0:Int)<=(j:Int):=(by omega);by_cases O:j<l.length
     ·have D:(j:Int)<(l.length:Int):=(by omega);obtain⟨x,B⟩: ∃x,l[j]? =some x:=⟨l[j],az O⟩
      rw[G4 B]at f;obtain⟨sk,m,g,o,P,e0,e1,e2,e3,e4⟩:=S.o j _ B;subst P;have Y:=aj d e0;have Z:=aj d e1;have d2:=aj d e2;have d3:=aj d e3;have d4:=aj d e4;obtain⟨op,a,b,t,sp⟩:=x;dsimp only at Y Z d2 d3 d4 m;obtain⟨M,I,rfl,_,_⟩:=m.form;have T:=am wr (.cells #[ag op,ag a,ag b,ag t,.slice M sp.length I] 177);have E:=aE wr (.cells #[ag op,ag a,ag b,ag t,.slice M sp.length I] 177);have v:=aw d T;have u:=ai T Q;have k:=G7 ⟨op,a,b,t,sp⟩ (.slice M sp.length I) j l.length r (wr.alloc (.cells #[ag op,ag a,ag b,ag t,.slice M sp.length I] 177)) (m.later v) (by omega);dsimp only at k;have z0:=ak 0 u;by_cases z:fO ⟨op,a,b,t,sp⟩ j l.length r=0
      ·rw[ax (fun e=>e z)]at f;rw[z]at k;have N:=a8 f;go_wp2_with(refine aR rfl 177 _ rfl _ rfl _ _ _ _ E rO rfl (by kernel_rfl) ?_)
       refine k.mono ?_;rintro e G ⟨rfl,n⟩;have y:=aw v n;have F:=ai n u;go_wp2_with fail;go_roundw;case rel=>exact⟨j+1,by go_num,by omega,N.o,F,y⟩
       case measure=>simp[intOf];omega
      ·rw[aD z]at f;rw[f]at k z;have aa:(X==0)=false:=bj.2 z;have ab:(X !=0)=true:=(by simpa using z);go_wp2_with(refine aR rfl 177 _ rfl _ rfl _ _ _ _ E rO rfl (by kernel_rfl) ?_)
       refine k.mono ?_;rintro e G ⟨rfl,n⟩;have y:=aw v n;go_wp2_with fail;go_ret;exact⟨rfl,y⟩
     ·have D: ¬(j:Int)<(l.length:Int):=(by omega)
      have N:PN (X=0):=by
       show _=_;rw[<-f,dg (by omega)];rfl
      go_wp2_with fail;go_ret;exact⟨by(rw[N.o])<;>rfl,d⟩
   ·rw[bn L]at H;rw[aD (fun e=>L e.2)]at i;subst i;go_enter func149,ntmps149;go_wp2_with fail;refine c1.mono ?_;rintro e G ⟨rfl,rfl⟩;go_wp2_with fail;refine A.mono ?_;rintro e V ⟨rfl,rfl⟩;go_wp2_with fail;refine H.mono ?_;rintro e w3 ⟨rfl,rfl⟩;go_wp2_with fail;go_ret;exact⟨rfl,q⟩
  ·rw[bn K]at A;rw[aD (fun e=>K e.1)]at i;subst i;go_enter func149,ntmps149;go_wp2_with fail;refine c1.mono ?_;rintro e G ⟨rfl,rfl⟩;go_wp2_with fail;refine A.mono ?_;rintro e V ⟨rfl,rfl⟩;go_wp2_with fail;go_ret;exact⟨rfl,q⟩
 ·rw[aD U]at i;subst i;rw[bn (show¬((1:Int)<=(l.length:Int)/\(l.length:Int)<=2000) by omega)]at c1;go_enter func149,ntmps149;go_wp2_with fail;refine c1.mono ?_;rintro e G ⟨rfl,rfl⟩;go_wp2_with fail;go_ret;exact⟨rfl,q⟩
theorem me:prog.underlying 93=some (.struct (prog.fieldsOf 93)):=by kernel_rfl
theorem qy {c:Func}(s:Nat)(h:c.results= #[ResultVar.cell s 93]){R:Ending->World->Prop}{a:Act}{w:World}(g:Nat)(er at_:Int)(f:a.defers=[])(d:a.tmps.getD s undef=ab g 0)
  (i:w.heap[g]? =ah #[ag er,ag at_] 93) (e:R (.returned (.agg #[ag er,ag at_])) w):bodyPost prog c R .ret a w:=by
 refine aW (v:= .agg #[ag er,ag at_]) ?_ f e;have b:a.tmps[s]?.getD undef=ab g 0:=by simpa using d
 have j:=dX (P:=prog) w g 93 93 _ _ _ i me rfl (by kernel_rfl);simp[results,h,b,asAddr,j]
theorem CX (E:Nat->Int)(n j:Nat)(h:j<n):gL E (n-j) j=if E j≠0 then(E j,j) else gL E (n-(j+1)) (j+1):=by
 rw[show n-j=(n-(j+1))+1 by omega];rfl
theorem rP (E:Nat->Int)(n K:Nat)(C:Array Value)(p:Option Addr)(c:Nat)(w:World)(M:n<9223372036854775808)(J: ∀k w,(callFunc K k).run prog w= .ok (.enter K k) w)
  (s: ∀(i:Nat) (wr:World),i<n->aq w wr->Calls prog K (#[ag (i:Int)]++C) wr fun e w'=>e= .returned (ag (E i))/\aq wr w'):
  Calls prog 147 #[.slice p n c,.func (.func K) #[] C] w fun e w'=>e= .returned (.agg #[ag (gL E n 0).1,ag ((gL E n 0).2:Int)])/\aq w w':=by
 have z:=a8 s;generalize F:gL E n 0=X;have A:PN (gL E (n-0) 0=X):=F;have x:=am w (.cells #[ag 0,ag 0] 93);have y:=aE w (.cells #[ag 0,ag 0] 93);generalize H:w.alloc (.cells #[ag 0,ag 0] 93)=N at*;go_enter func147,ntmps147;go_wp2_with fail;go_loopw [9] (fun t wr=> ∃j:Nat,t=ag (j:Int)/\j<=n/\gL E (n-j) j=X/\wr.heap[w.heap.size]? =ah #[ag 0,ag 0] 93/\aq w wr) (fun t _=>n-(intOf t).toNat);case atStart=>exact⟨0,rfl,by omega,A.o,y,x⟩
 case round=>
  obtain⟨j,rfl,L,b,a,g⟩:=hrel;have G:(0:Int)<=(j:Int):=(by omega);by_cases u:j<n
  ·have v:(j:Int)<(n:Int):=(by omega);have s:=z.o j wr u g;rw[CX E n j u]at b;by_cases r:E j=0
   ·rw[ax (fun e=>e r)]at b;rw[r]at s;have m:=a8 b;go_wp2_with fail;refine s.mono ?_;rintro e I ⟨rfl,d⟩;have l:=aw g d;have f:=ai d a;go_wp2_with fail;go_roundw;case rel=>exact⟨j+1,by go_num,by omega,m.o,f,l⟩
    case measure=>simp[intOf];omega
   ·rw[aD r]at b;have m:=a8 b;generalize E j=q at*;have B:(q==0)=false:=bj.2 r;have D:(q !=0)=true:=(by simpa using r);go_wp2_with fail;refine s.mono ?_;rintro e I ⟨rfl,d⟩;have l:=aw g d;have f:=ai d a;have a:=f;go_wp2_with(refine ay rfl 93 _ _ rfl _ _ rfl rfl _ _ a (by kernel_rfl) (by simp) (by simp[Value.oneCell']) ?_)
    exact qy 4 (by kernel_rfl) w.heap.size q (j:Int) rfl rfl (aL _ _ _ _ _ _ a) ⟨by rw[<-m.o],below_setRow l (aB _) _⟩
  ·have v: ¬(j:Int)<(n:Int):=(by omega)
   have m:PN (X=(0,0)):=by
    show _=_;rw[<-b,show n-j=0 by omega];rfl
   go_wp2_with(refine ay rfl 93 _ _ rfl _ _ rfl rfl _ _ a (by kernel_rfl) (by simp) (by simp[Value.oneCell']) ?_)
   exact qy 4 (by kernel_rfl) w.heap.size 0 0 rfl rfl (aL _ _ _ _ _ _ a) ⟨by(rw[m.o])<;>rfl,below_setRow g (aB _) _⟩
theorem E0 (a:List Cd)(lv:Value)(s b:Nat)(w:World)(h:InV w lv a)(G:w.cell? (ae s 0)=some lv)(k:b<a.length):
  Calls prog 148 #[ag (b:Int),ab s 0] w fun e w'=>e= .returned (ag (aloneE (a.getD b cd0) a.length))/\aq w w':=by
 obtain⟨p,n,rfl,v,B⟩:=h.form;obtain⟨u,d⟩: ∃u,a[b]? =some u:=⟨a[b],az k⟩
 obtain⟨sv,j,g,o,rfl,e0,r,e2⟩:=B b u d;rw[jd d];have m:PN (∀W,aq w W->Calls prog 149 #[.agg #[sv,ag u.high,ag u.steps],ag (a.length:Int)] W fun e w'=>e= .returned (ag (aloneE u a.length))/\aq W w'):=fun W y=>EZ u sv a.length W (j.below y);generalize aloneE u a.length=q at*;obtain⟨P,hi,st⟩:=u;dsimp only at r e2 m;have D:(0:Int)<=(b:Int):=by omega
 have E:(b:Int)<(a.length:Int):=by omega
 go_enter func148,ntmps148;go_wp2_with fail;refine dh (fun _ _ W=>aq w W) [kn 4 (.slice (some (ae g o)) a.length n),kn 5 (ag (b:Int)),kn 6 (ab g (o+b*3)),kn 7 (.agg #[sv,ag hi,ag st]),kn 8 (.slice (some (ae g o)) a.length n),kn 9 (ag (a.length:Int)),kn 10 (ag q),kn 3 (ag q)] (fun _=>(aI _ _).drew) (fun _ _ _ _ A h=>aw h A) (by kernel_rfl) (fun M φ W c C F l f x=> ?_) (fun M φ W J c=> ?_)
 ·simp only[kn,dW,aQ,aX,Act.put,aA,aK,aJ]at f;subst f;simp only[cZ,Nat.reduceAdd]at x;have z:=aj c G;have f0:=aj c e0;have f1:=aj c r;have f2:=aj c e2;dsimp only[kn,dB,eN,eg,Act.put];and_intros;all_goals first|exact trivial|intro O N L K t
  all_goals try (go_simp;with_reducible exact t _ _ ⟨rfl,aI _ _⟩)
  go_simp;refine(m.o W c).mono ?_;rintro I H ⟨rfl,i⟩;exact t _ _ ⟨rfl,i⟩
 ·simp only[kn,eh,aQ,aX,Act.put,aA,aK,aJ];go_wp2_with fail;go_ret;exact⟨rfl,c⟩
theorem LP (f:Nat->Bool)(n:Nat)(e:n<64):(bits BinOp.and IntKind.u64 ((wd f 0:Int)/2^n) 1==1)=f n:=by
 have c:((wd f 0:Int)/2^n)=((wd f 0/2^n:Nat):Int):=by push_cast;rfl
 have a:wd f 0/2^n<18446744073709551616:=Nat.lt_of_le_of_lt (Nat.div_le_self _ _) (g7 f 0)
 have e2:bits BinOp.and IntKind.u64 ((wd f 0/2^n:Nat):Int) 1=((wd f 0/2^n&&&1:Nat):Int):=by
  have:=bits_and_u64_nat (wd f 0/2^n) 1 a (by decide);exact this
 rw[c,e2,Nat.and_one_is_mod];have b:=jv f 0 n;rw[bm e,i8,Nat.mul_zero,bN]at b
 have d:(wd f 0).testBit n=decide ((wd f 0/2^n)%2=1):=by
  rw[Nat.testBit_eq_decide_div_mod_eq]
 rw[<-b,d];have:wd f 0/2^n%2=0\/wd f 0/2^n%2=1:=by omega
 rcases this with h|h
 ·rw[h];rfl
 ·rw[h];rfl
theorem DL (f:Nat->Bool)(n:Nat)(c:n<64)(w:World):Calls prog 152 #[.int .u64 (wd f 0:Int),ag (n:Int)] w fun e w'=>e= .returned (.bool (f n))/\w'=w:=by
 have d:(0:Int)<=(n:Int):=by omega
 have g:(n:Int)<64:=by omega
 have a:=a8 (LP f n c);go_enter func152,ntmps152;go_wp2_with fail;go_ret;exact⟨congrArg (fun b=>Ending.returned (.bool b)) a.o,rfl⟩
theorem BG (x:In)(w:World):Calls prog 206 #[ag x.op] w fun e w'=>e= .returned (.tuple #[ag (tk x),ag (tk x+eff x)])/\w'=w:=by
 obtain⟨op,a,b,t,sp⟩:=x;unfold tk eff;dsimp only;by_cases d:op=1
 ·subst d;go_enter func206,ntmps206;go_wp2_with fail;exact aW (v:= .tuple #[ag 0,ag 1]) (by simp[results,results206,go_sem]) rfl ⟨rfl,rfl⟩
 by_cases j:op=8
 ·subst j;go_enter func206,ntmps206;go_wp2_with fail;exact aW (v:= .tuple #[ag 0,ag 1]) (by simp[results,results206,go_sem]) rfl ⟨rfl,rfl⟩
 by_cases c:op=5
 ·subst c;go_enter func206,ntmps206;go_wp2_with fail;exact aW (v:= .tuple #[ag 1,ag 1]) (by simp[results,results206,go_sem]) rfl ⟨rfl,rfl⟩
 by_cases f:op=2
 ·subst f;go_enter func206,ntmps206;go_wp2_with fail;exact aW (v:= .tuple #[ag 2,ag 1]) (by simp[results,results206,go_sem]) rfl ⟨rfl,rfl⟩
 by_cases g:op=3
 ·subst g;go_enter func206,ntmps206;go_wp2_with fail;exact aW (v:= .tuple #[ag 2,ag 1]) (by simp[results,results206,go_sem]) rfl ⟨rfl,rfl⟩
 by_cases i:op=4
 ·subst i;go_enter func206,ntmps206;go_wp2_with fail;exact aW (v:= .tuple #[ag 2,ag 1]) (by simp[results,results206,go_sem]) rfl ⟨rfl,rfl⟩
 rw[ax c,ax (by omega),ax (by omega),ax (by omega)];have b1:(op==1)=false:=bj.2 d;have b2:(op==2)=false:=bj.2 f;have b3:(op==3)=false:=bj.2 g;have k:(op==4)=false:=bj.2 i;have b5:(op==5)=false:=bj.2 c;have l:(op==8)=false:=bj.2 j;go_enter func206,ntmps206;go_wp2_with fail;exact aW (v:= .tuple #[ag 0,ag 0]) (by simp[results,results206,go_sem]) rfl ⟨rfl,rfl⟩
def iH (n:Nat)(R:Nat->Nat->Bool):Array Value:=((List.range n).map fun i=>Value.int .u64 (wd (R i) 0:Int)).toArray
theorem zI {n:Nat}{R:Nat->Nat->Bool}{i:Nat}(h:i<n):(iH n R)[i]? =some (.int .u64 (wd (R i) 0:Int)):=by
 simp[iH,h]
theorem E1 {n:Nat}{R a:Nat->Nat->Bool}(h: ∀i k,i<n->k<64->R i k=a i k):iH n R=iH n a:=by
 unfold iH;congr 1;apply List.map_congr_left;intro i hi;rw[mR fun j b=> ?_];rw[Nat.mul_zero,bN];exact h i j (jf.1 hi) b
def pA (R:Nat->Nat->Bool)(i:Nat)(f:Nat->Bool):Nat->Nat->Bool:=fun r k=>if r=i then f k else R r k
theorem E2 {n:Nat}{R:Nat->Nat->Bool}{i:Nat}{f:Nat->Bool}:(iH n R).setIfInBounds i (.int .u64 (wd f 0:Int))=iH n (pA R i f):=by
 apply Array.ext
 ·simp[iH]
 ·intro k d b;have c:k<n:=(by simpa[iH] using b);rw[Array.getElem_setIfInBounds (by simpa[iH] using c)];by_cases e:i=k
  ·subst e;have a:pA R i f i=f:=(by funext q;simp[pA]);simp[iH,a]
  ·rw[ax e];have a:pA R i f k=R k:=(by funext q;simp[pA,show k≠i from fun h=>e h.symm]);simp[iH,a]
theorem CY (n:Nat):madeCells #[Value.int .u64 0] n=iH n (fun _ _=>false):=by
 apply Array.ext
 ·simp[iH,madeCells]
 ·intro k a b;simp[iH,madeCells,Nat.mod_one,Dx]
structure UcM (w:World)(n:Nat)(R:Nat->Nat->Bool)(W:World):Prop where
 bel:aq w W
 row:W.heap[w.heap.size]? =ah (iH n R) 82
theorem UcM.below {w W a:World}{n:Nat}{R:Nat->Nat->Bool}(h:UcM w n R W)(b:aq W a):UcM w n R a:=
 ⟨aw h.bel b,ai b h.row⟩
theorem UcM.same {w W:World}{n:Nat}{R a:Nat->Nat->Bool}(h:UcM w n R W)(b: ∀i k,i<n->k<64->R i k=a i k):UcM w n a W:=
 ⟨h.bel,by rw[h.row,E1 b]⟩
theorem UcM.cell {w W:World}{n:Nat}{R:Nat->Nat->Bool}(h:UcM w n R W){i:Nat}(hi:i<n):W.cell? (ae w.heap.size i)=some (.int .u64 (wd (R i) 0:Int)):=(aZ _ _ i _ _ _ h.row).trans (zI hi)
theorem UcM.frz {w W:World}{n:Nat}{R:Nat->Nat->Bool}(h:UcM w n R W)(i:Nat):W.frozen? (ae w.heap.size i)=false:=bl _ _ i _ _ h.row
theorem UcM.set {w W:World}{n:Nat}{R:Nat->Nat->Bool}(h:UcM w n R W)(i:Nat)(f:Nat->Bool):UcM w n (pA R i f) (W.setCell ⟨w.heap.size,i,none⟩ (.int .u64 (wd f 0:Int))):=by
 refine⟨h.bel.setCell (aB _) _,?_⟩;rw[<-E2];exact aY W w.heap.size i _ _ _ h.row
end Go.Proofs.YtaoljfdfhggbbaaGreatDoor
