/- Texts of the proof. -/
import Derived.Test.YtpdoienkhgnceaaGreatDoorPt05
import Derived.Test.YtpdoienkhgnceaaGreatDoorPt01
import Derived.Laws.EntriesVeiled
import Derived.Deep.OwnRows
set_option maxRecDepth 100000
set_option maxHeartbeats 8000000
namespace Go.Proofs.YtpdoienkhgnceaaGreatDoor
open Go.Proofs.Tryz Go.RowKit Lx Vx Mx Msk
def zk (w:World)(v:Value)(xs:List (In×Value)):Prop:= ∃p c,v= .slice p xs.length c/\xs.length<9223372036854775808/\ ∀(j:Nat) (x:In×Value),xs[j]? =some x->oG w x.2 x.1.sp/\ ∃g o:Nat,p=some ⟨g,o,none⟩/\
 w.cell? (ae g (o+j*5))=some (ag x.1.op)/\w.cell? (ae g (o+j*5+1))=some (ag x.1.a)/\w.cell? (ae g (o+j*5+2))=some (ag x.1.b)/\w.cell? (ae g (o+j*5+3))=some (ag x.1.to)/\w.cell? (ae g (o+j*5+4))=some x.2
theorem zk.below {w b:World}{v:Value}{xs:List (In×Value)}(h:zk w v xs)(a:ao w b):zk b v xs:=by
 obtain⟨p,c,k,l,m⟩:=h;refine⟨p,c,k,l,fun j x n=> ?_⟩;obtain⟨r,g,o,e,c0,c1,d,f,i⟩:=m j x n;exact⟨r.later a,g,o,e,aj a c0,aj a c1,aj a d,aj a f,aj a i⟩
def pV (w:World)(v:Value)(l:List In):Prop:= ∃xs:List (In×Value),zk w v xs/\xs.map (fun x=>x.1)=l
theorem pV.below {w a:World}{v:Value}{l:List In}(h:pV w v l)(d:ao w a):pV a v l:=by
 obtain⟨xs,b,c⟩:=h;exact⟨xs,b.below d,c⟩
theorem pV.form {w:World}{v:Value}{l:List In}(h:pV w v l): ∃p c,v= .slice p l.length c/\l.length<9223372036854775808/\ ∀(j:Nat) (x:In),l[j]? =some x-> ∃sv:Value,oG w sv x.sp/\ ∃g o:Nat,p=some ⟨g,o,none⟩/\
  w.cell? (ae g (o+j*5))=some (ag x.op)/\w.cell? (ae g (o+j*5+1))=some (ag x.a)/\w.cell? (ae g (o+j*5+2))=some (ag x.b)/\w.cell? (ae g (o+j*5+3))=some (ag x.to)/\w.cell? (ae g (o+j*5+4))=some sv:=by
 obtain⟨xs,⟨p,c,f,i,k⟩,rfl⟩:=h;rw[bm];refine⟨p,c,f,i,fun j x d=> ?_⟩;rw[bf]at d;obtain⟨y,n,rfl⟩:=eU.1 d;obtain⟨r,g,o,e,m⟩:=k j y n;exact⟨y.2,r,g,o,e,m⟩
def InC (w:World)(v:Value)(a:List (Cd×Value)):Prop:= ∃p c,v= .slice p a.length c/\a.length<9223372036854775808/\ ∀(j:Nat) (u:Cd×Value),a[j]? =some u->pV w u.2 u.1.ins/\ ∃g o:Nat,p=some ⟨g,o,none⟩/\
 w.cell? (ae g (o+j*3))=some u.2/\w.cell? (ae g (o+j*3+1))=some (ag u.1.high)/\w.cell? (ae g (o+j*3+2))=some (ag u.1.steps)
theorem InC.below {w d:World}{v:Value}{b:List (Cd×Value)}(h:InC w v b)(a:ao w d):InC d v b:=by
 obtain⟨p,c,i,k,l⟩:=h;refine⟨p,c,i,k,fun j u m=> ?_⟩;obtain⟨r,g,o,e,c0,c1,f⟩:=l j u m;exact⟨r.below a,g,o,e,aj a c0,aj a c1,aj a f⟩
def InV (w:World)(v:Value)(b:List Cd):Prop:= ∃a:List (Cd×Value),InC w v a/\a.map (fun u=>u.1)=b
theorem InV.below {w b:World}{v:Value}{a:List Cd}(h:InV w v a)(e:ao w b):InV b v a:=by
 obtain⟨xs,c,d⟩:=h;exact⟨xs,c.below e,d⟩
theorem InV.form {w:World}{v:Value}{a:List Cd}(h:InV w v a): ∃p c,v= .slice p a.length c/\a.length<9223372036854775808/\ ∀(j:Nat) (u:Cd),a[j]? =some u-> ∃sv:Value,pV w sv u.ins/\ ∃g o:Nat,p=some ⟨g,o,none⟩/\
  w.cell? (ae g (o+j*3))=some sv/\w.cell? (ae g (o+j*3+1))=some (ag u.high)/\w.cell? (ae g (o+j*3+2))=some (ag u.steps):=by
 obtain⟨xs,⟨p,c,d,f,i⟩,rfl⟩:=h;rw[bm];refine⟨p,c,d,f,fun j x b=> ?_⟩;rw[bf]at b;obtain⟨y,l,rfl⟩:=eU.1 b;obtain⟨r,g,o,e,k⟩:=i j y l;exact⟨y.2,r,g,o,e,k⟩
theorem Il (c:Cd)(sv:Value)(r:Nat)(w:World)(h:pV w sv c.ins):Calls prog 58 #[.agg #[sv,ag c.high,ag c.steps],ag (r:Int)] w fun e w'=>e= .returned (ag (aloneE c r))/\ao w w':=by
 obtain⟨p,J,rfl,C,hc⟩:=h.form;have S:=aZ hc;generalize i:aloneE c r=X;unfold aloneE at i;obtain⟨l,hi,st⟩:=c;dsimp only at i C S⊢;have q:=am w (.cells #[.slice p l.length J,ag hi,ag st] 93);have s:=aB w (.cells #[.slice p l.length J,ag hi,ag st] 93);generalize ae:w.alloc (.cells #[.slice p l.length J,ag hi,ag st] 93)=R at*;have z0:=ak 0 s;have z1:=ak 1 s;have z2:=ak 2 s;have ad:(0:Int)<=(l.length:Int):=by omega
 have c1:=lO (l.length:Int) 1 2000 R;by_cases U:1<=l.length/\l.length<=2000
 ·rw[aw (fun e=>e U)]at i;rw[bc (show(1:Int)<=(l.length:Int)/\(l.length:Int)<=2000 by omega)]at c1;have A:=lO hi 1 100 R;by_cases K:1<=hi/\hi<=100
  ·rw[bc K]at A;have H:=lO st 1 20000 R;by_cases L:1<=st/\st<=20000
   ·rw[bc L]at H;rw[aw (fun e=>e ⟨K,L⟩)]at i;have W:T4 (qt (l.drop 0) 0 l.length r=X):=i;go_enter func58,ntmps58;go_wp2_with fail;refine c1.mono ?_;rintro e G ⟨rfl,rfl⟩;go_wp2_with fail;refine A.mono ?_;rintro e V ⟨rfl,rfl⟩;go_wp2_with fail;refine H.mono ?_;rintro e w3 ⟨rfl,rfl⟩;go_wp2_with fail;go_loopw [26] (fun t wr=> ∃j:Nat,t=ag (j:Int)/\j<=l.length/\qt (l.drop j) j l.length r=X/\wr.heap[w.heap.size]? =ah #[.slice p l.length J,ag hi,ag st] 93/\ao w wr) (fun t _=>l.length-(intOf t).toNat);case atStart=>exact⟨0,rfl,by omega,W.o,s,q⟩
    case round=>
     obtain⟨j,rfl,hj,f,Q,d⟩:=hrel;have ac:(0:Int)<=(j:Int):=(by omega);by_cases O:j<l.length
     ·have D:(j:Int)<(l.length:Int):=(by omega);obtain⟨x,B⟩: ∃x,l[j]? =some x:=⟨l[j],az O⟩
      rw[Kx B]at f;obtain⟨sk,m,g,o,P,e0,e1,e2,e3,e4⟩:=S.o j _ B;subst P;have Y:=aj d e0;have Z:=aj d e1;have d2:=aj d e2;have d3:=aj d e3;have d4:=aj d e4;obtain⟨op,a,b,t,sp⟩:=x;dsimp only at Y Z d2 d3 d4 m;obtain⟨M,I,rfl,_,_⟩:=m.form;have T:=am wr (.cells #[ag op,ag a,ag b,ag t,.slice M sp.length I] 140);have E:=aB wr (.cells #[ag op,ag a,ag b,ag t,.slice M sp.length I] 140);have v:=au d T;have u:=ai T Q;have k:=KA ⟨op,a,b,t,sp⟩ (.slice M sp.length I) j l.length r (wr.alloc (.cells #[ag op,ag a,ag b,ag t,.slice M sp.length I] 140)) (m.later v) (by omega);dsimp only at k;have z0:=ak 0 u;by_cases z:fT ⟨op,a,b,t,sp⟩ j l.length r=0
      ·rw[aw (fun e=>e z)]at f;rw[z]at k;have N:=aZ f;go_wp2_with(refine aO rfl 140 _ rfl _ rfl _ _ _ _ E tf rfl (by kernel_rfl) ?_)
       refine k.mono ?_;rintro e G ⟨rfl,n⟩;have y:=au v n;have F:=ai n u;go_wp2_with fail;go_roundw;case rel=>exact⟨j+1,by go_num,by omega,N.o,F,y⟩
       case measure=>simp[intOf];omega
      ·rw[ax z]at f;rw[f]at k z;have aa:(X==0)=false:=bl.2 z;have ab:(X !=0)=true:=(by simpa using z);go_wp2_with(refine aO rfl 140 _ rfl _ rfl _ _ _ _ E tf rfl (by kernel_rfl) ?_)
       refine k.mono ?_;rintro e G ⟨rfl,n⟩;have y:=au v n;go_wp2_with fail;go_ret;exact⟨rfl,y⟩
     ·have D: ¬(j:Int)<(l.length:Int):=(by omega)
      have N:T4 (X=0):=by
       show _=_;rw[<-f,dn (by omega)];rfl
      go_wp2_with fail;go_ret;exact⟨by(rw[N.o])<;>rfl,d⟩
   ·rw[bo L]at H;rw[ax (fun e=>L e.2)]at i;subst i;go_enter func58,ntmps58;go_wp2_with fail;refine c1.mono ?_;rintro e G ⟨rfl,rfl⟩;go_wp2_with fail;refine A.mono ?_;rintro e V ⟨rfl,rfl⟩;go_wp2_with fail;refine H.mono ?_;rintro e w3 ⟨rfl,rfl⟩;go_wp2_with fail;go_ret;exact⟨rfl,q⟩
  ·rw[bo K]at A;rw[ax (fun e=>K e.1)]at i;subst i;go_enter func58,ntmps58;go_wp2_with fail;refine c1.mono ?_;rintro e G ⟨rfl,rfl⟩;go_wp2_with fail;refine A.mono ?_;rintro e V ⟨rfl,rfl⟩;go_wp2_with fail;go_ret;exact⟨rfl,q⟩
 ·rw[ax U]at i;subst i;rw[bo (show¬((1:Int)<=(l.length:Int)/\(l.length:Int)<=2000) by omega)]at c1;go_enter func58,ntmps58;go_wp2_with fail;refine c1.mono ?_;rintro e G ⟨rfl,rfl⟩;go_wp2_with fail;go_ret;exact⟨rfl,q⟩
theorem mL:prog.underlying 26=some (.struct (prog.fieldsOf 26)):=by kernel_rfl
theorem rH {c:Func}(s:Nat)(h:c.results= #[ResultVar.cell s 26]){R:Ending->World->Prop}{a:Act}{w:World}(g:Nat)(er at_:Int)(f:a.defers=[])(d:a.tmps.getD s undef=ab g 0)
  (i:w.heap[g]? =ah #[ag er,ag at_] 26) (e:R (.returned (.agg #[ag er,ag at_])) w):bodyPost prog c R .ret a w:=by
 refine aX (v:= .agg #[ag er,ag at_]) ?_ f e;have b:a.tmps[s]?.getD undef=ab g 0:=by simpa using d
 have j:=dZ (P:=prog) w g 26 26 _ _ _ i mL rfl (by kernel_rfl);simp[results,h,b,asAddr,j]
theorem Fk (E:Nat->Int)(n j:Nat)(h:j<n):gW E (n-j) j=if E j≠0 then(E j,j) else gW E (n-(j+1)) (j+1):=by
 rw[show n-j=(n-(j+1))+1 by omega];rfl
theorem tg (E:Nat->Int)(n K:Nat)(C:Array Value)(p:Option Addr)(c:Nat)(w:World)(N:n<9223372036854775808)(L: ∀k w,(callFunc K k).run prog w= .ok (.enter K k) w)
  (s: ∀(i:Nat) (wr:World),i<n->ao w wr->Calls prog K (#[ag (i:Int)]++C) wr fun e z=>e= .returned (ag (E i))/\ao wr z):
  Calls prog 56 #[.slice p n c,.func (.func K) #[] C] w fun e z=>e= .returned (.agg #[ag (gW E n 0).1,ag ((gW E n 0).2:Int)])/\ao w z:=by
 have A:=aZ s;generalize G:gW E n 0=X;have B:T4 (gW E (n-0) 0=X):=G;have x:=am w (.cells #[ag 0,ag 0] 26);have y:=aB w (.cells #[ag 0,ag 0] 26);generalize I:w.alloc (.cells #[ag 0,ag 0] 26)=O at*;go_enter func56,ntmps56;go_wp2_with fail;go_loopw [9] (fun t wr=> ∃j:Nat,t=ag (j:Int)/\j<=n/\gW E (n-j) j=X/\wr.heap[w.heap.size]? =ah #[ag 0,ag 0] 26/\ao w wr) (fun t _=>n-(intOf t).toNat);case atStart=>exact⟨0,rfl,by omega,B.o,y,x⟩
 case round=>
  obtain⟨j,rfl,M,b,a,g⟩:=hrel;have H:(0:Int)<=(j:Int):=(by omega);by_cases u:j<n
  ·have v:(j:Int)<(n:Int):=(by omega);have s:=A.o j wr u g;rw[Fk E n j u]at b;by_cases r:E j=0
   ·rw[aw (fun e=>e r)]at b;rw[r]at s;have m:=aZ b;go_wp2_with fail;refine s.mono ?_;rintro e J ⟨rfl,d⟩;have l:=au g d;have f:=ai d a;go_wp2_with fail;go_roundw;case rel=>exact⟨j+1,by go_num,by omega,m.o,f,l⟩
    case measure=>simp[intOf];omega
   ·rw[ax r]at b;have m:=aZ b;generalize E j=q at*;have D:(q==0)=false:=bl.2 r;have F:(q !=0)=true:=(by simpa using r);go_wp2_with fail;refine s.mono ?_;rintro e J ⟨rfl,d⟩;have l:=au g d;have f:=ai d a;have a:=f;go_wp2_with(refine aC rfl 26 _ _ rfl _ _ rfl rfl _ _ a (by kernel_rfl) (by simp) (by simp[Value.oneCell']) ?_)
    exact rH 4 (by kernel_rfl) w.heap.size q (j:Int) rfl rfl (aK _ _ _ _ _ _ a) ⟨by rw[<-m.o],below_setRow l (aA _) _⟩
  ·have v: ¬(j:Int)<(n:Int):=(by omega)
   have m:T4 (X=(0,0)):=by
    show _=_;rw[<-b,show n-j=0 by omega];rfl
   go_wp2_with(refine aC rfl 26 _ _ rfl _ _ rfl rfl _ _ a (by kernel_rfl) (by simp) (by simp[Value.oneCell']) ?_)
   exact rH 4 (by kernel_rfl) w.heap.size 0 0 rfl rfl (aK _ _ _ _ _ _ a) ⟨by(rw[m.o])<;>rfl,below_setRow g (aA _) _⟩
theorem Im (a:List Cd)(lv:Value)(v b:Nat)(w:World)(h:InV w lv a)(J:w.cell? (ae v 0)=some lv)(k:b<a.length):
  Calls prog 57 #[ag (b:Int),ab v 0] w fun e m=>e= .returned (ag (aloneE (a.getD b cd0) a.length))/\ao w m:=by
 obtain⟨p,r,rfl,y,E⟩:=h.form;obtain⟨u,d⟩: ∃u,a[b]? =some u:=⟨a[b],az k⟩
 obtain⟨sv,j,g,o,rfl,A,s,t⟩:=E b u d;rw[jh d];have n:T4 (∀W,ao w W->Calls prog 58 #[.agg #[sv,ag u.high,ag u.steps],ag (a.length:Int)] W fun e m=>e= .returned (ag (aloneE u a.length))/\ao W m):=fun W C=>Il u sv a.length W (j.below C);generalize aloneE u a.length=q at*;obtain⟨S,hi,st⟩:=u;dsimp only at s t n;have H:(0:Int)<=(b:Int):=by omega
 have I:(b:Int)<(a.length:Int):=by omega
 go_enter func57,ntmps57;go_wp2_with fail;refine dH (fun _ _ W=>ao w W) [kn 4 (.slice (some (ae g o)) a.length r),kn 5 (ag (b:Int)),kn 6 (ab g (o+b*3)),kn 7 (.agg #[sv,ag hi,ag st]),kn 8 (.slice (some (ae g o)) a.length r),kn 9 (ag (a.length:Int)),kn 10 (ag q),kn 3 (ag q)] (fun _=>(aF _ _).drew) (fun _ _ _ _ D h=>au h D) (by kernel_rfl) (fun M φ W c G F l f B=> ?_) (fun M φ W O c=> ?_)
 ·simp only[kn,d6,aR,a8,Act.put,aD,aJ,aI]at f;subst f;simp only[dz,Nat.reduceAdd]at B;have z:=aj c J;have f0:=aj c A;have f1:=aj c s;have f2:=aj c t;dsimp only[kn,dK,fo,eD,Act.put];and_intros;all_goals first|exact trivial|intro R Q P K x
  all_goals try (go_simp;with_reducible exact x _ _ ⟨rfl,aF _ _⟩)
  go_simp;refine(n.o W c).mono ?_;rintro N L ⟨rfl,i⟩;exact x _ _ ⟨rfl,i⟩
 ·simp only[kn,ep,aR,a8,Act.put,aD,aJ,aI];go_wp2_with fail;go_ret;exact⟨rfl,c⟩
theorem Po (f:Nat->Bool)(n:Nat)(g:n<64):(bits BinOp.and IntKind.u64 ((wd f 0:Int)/2^n) 1==1)=f n:=by
 have c:((wd f 0:Int)/2^n)=((wd f 0/2^n:Nat):Int):=by push_cast;rfl
 have a:wd f 0/2^n<18446744073709551616:=Nat.lt_of_le_of_lt (Nat.div_le_self _ _) (iq f 0)
 have d:bits BinOp.and IntKind.u64 ((wd f 0/2^n:Nat):Int) 1=((wd f 0/2^n&&&1:Nat):Int):=by
  have:=bits_and_u64_nat (wd f 0/2^n) 1 a (by decide);exact this
 rw[c,d,Nat.and_one_is_mod];have b:=jy f 0 n;rw[bc g,jc,Nat.mul_zero,bN]at b
 have e:(wd f 0).testBit n=decide ((wd f 0/2^n)%2=1):=by
  rw[Nat.testBit_eq_decide_div_mod_eq]
 rw[<-b,e];have:wd f 0/2^n%2=0\/wd f 0/2^n%2=1:=by omega
 rcases this with h|h
 ·rw[h];rfl
 ·rw[h];rfl
theorem Gm (f:Nat->Bool)(n:Nat)(c:n<64)(w:World):Calls prog 61 #[.int .u64 (wd f 0:Int),ag (n:Int)] w fun e d=>e= .returned (.bool (f n))/\d=w:=by
 have g:(0:Int)<=(n:Int):=by omega
 have i:(n:Int)<64:=by omega
 have a:=aZ (Po f n c);go_enter func61,ntmps61;go_wp2_with fail;go_ret;exact⟨congrArg (fun b=>Ending.returned (.bool b)) a.o,rfl⟩
theorem DH (x:In)(w:World):Calls prog 148 #[ag x.op] w fun e k=>e= .returned (.tuple #[ag (tk x),ag (tk x+eff x)])/\k=w:=by
 obtain⟨op,a,b,t,sp⟩:=x;unfold tk eff;dsimp only;by_cases d:op=1
 ·subst d;go_enter func148,ntmps148;go_wp2_with fail;exact aX (v:= .tuple #[ag 0,ag 1]) (by simp[results,results148,go_sem]) rfl ⟨rfl,rfl⟩
 by_cases j:op=8
 ·subst j;go_enter func148,ntmps148;go_wp2_with fail;exact aX (v:= .tuple #[ag 0,ag 1]) (by simp[results,results148,go_sem]) rfl ⟨rfl,rfl⟩
 by_cases c:op=5
 ·subst c;go_enter func148,ntmps148;go_wp2_with fail;exact aX (v:= .tuple #[ag 1,ag 1]) (by simp[results,results148,go_sem]) rfl ⟨rfl,rfl⟩
 by_cases f:op=2
 ·subst f;go_enter func148,ntmps148;go_wp2_with fail;exact aX (v:= .tuple #[ag 2,ag 1]) (by simp[results,results148,go_sem]) rfl ⟨rfl,rfl⟩
 by_cases g:op=3
 ·subst g;go_enter func148,ntmps148;go_wp2_with fail;exact aX (v:= .tuple #[ag 2,ag 1]) (by simp[results,results148,go_sem]) rfl ⟨rfl,rfl⟩
 by_cases i:op=4
 ·subst i;go_enter func148,ntmps148;go_wp2_with fail;exact aX (v:= .tuple #[ag 2,ag 1]) (by simp[results,results148,go_sem]) rfl ⟨rfl,rfl⟩
 rw[aw c,aw (by omega),aw (by omega),aw (by omega)];have b1:(op==1)=false:=bl.2 d;have b2:(op==2)=false:=bl.2 f;have b3:(op==3)=false:=bl.2 g;have l:(op==4)=false:=bl.2 i;have b5:(op==5)=false:=bl.2 c;have m:(op==8)=false:=bl.2 j;go_enter func148,ntmps148;go_wp2_with fail;exact aX (v:= .tuple #[ag 0,ag 0]) (by simp[results,results148,go_sem]) rfl ⟨rfl,rfl⟩
def iO (n:Nat)(R:Nat->Nat->Bool):Array Value:=((List.range n).map fun i=>Value.int .u64 (wd (R i) 0:Int)).toArray
theorem BF {n:Nat}{R:Nat->Nat->Bool}{i:Nat}(h:i<n):(iO n R)[i]? =some (.int .u64 (wd (R i) 0:Int)):=by
 simp[iO,h]
theorem Io {n:Nat}{R a:Nat->Nat->Bool}(h: ∀i k,i<n->k<64->R i k=a i k):iO n R=iO n a:=by
 unfold iO;congr 1;apply List.map_congr_left;intro i hi;rw[oz fun j b=> ?_];rw[Nat.mul_zero,bN];exact h i j (ip.1 hi) b
def qu (R:Nat->Nat->Bool)(i:Nat)(f:Nat->Bool):Nat->Nat->Bool:=fun r k=>if r=i then f k else R r k
theorem Ip {n:Nat}{R:Nat->Nat->Bool}{i:Nat}{f:Nat->Bool}:(iO n R).setIfInBounds i (.int .u64 (wd f 0:Int))=iO n (qu R i f):=by
 apply Array.ext
 ·simp[iO]
 ·intro k d b;have c:k<n:=(by simpa[iO] using b);rw[Array.getElem_setIfInBounds (by simpa[iO] using c)];by_cases e:i=k
  ·subst e;have a:qu R i f i=f:=(by funext q;simp[qu]);simp[iO,a]
  ·rw[aw e];have a:qu R i f k=R k:=(by funext q;simp[qu,show k≠i from fun h=>e h.symm]);simp[iO,a]
theorem Fl (n:Nat):madeCells #[Value.int .u64 0] n=iO n (fun _ _=>false):=by
 apply Array.ext
 ·simp[iO,madeCells]
 ·intro k a b;simp[iO,madeCells,Nat.mod_one,Ga]
structure UcM (w:World)(n:Nat)(R:Nat->Nat->Bool)(W:World):Prop where
 bel:ao w W
 row:W.heap[w.heap.size]? =ah (iO n R) 37
theorem UcM.below {w W a:World}{n:Nat}{R:Nat->Nat->Bool}(h:UcM w n R W)(b:ao W a):UcM w n R a:=
 ⟨au h.bel b,ai b h.row⟩
theorem UcM.same {w W:World}{n:Nat}{R a:Nat->Nat->Bool}(h:UcM w n R W)(b: ∀i k,i<n->k<64->R i k=a i k):UcM w n a W:=
 ⟨h.bel,by rw[h.row,Io b]⟩
theorem UcM.cell {w W:World}{n:Nat}{R:Nat->Nat->Bool}(h:UcM w n R W){i:Nat}(hi:i<n):W.cell? (ae w.heap.size i)=some (.int .u64 (wd (R i) 0:Int)):=(aW _ _ i _ _ _ h.row).trans (BF hi)
theorem UcM.frz {w W:World}{n:Nat}{R:Nat->Nat->Bool}(h:UcM w n R W)(i:Nat):W.frozen? (ae w.heap.size i)=false:=bu _ _ i _ _ h.row
theorem UcM.set {w W:World}{n:Nat}{R:Nat->Nat->Bool}(h:UcM w n R W)(i:Nat)(f:Nat->Bool):UcM w n (qu R i f) (W.setCell ⟨w.heap.size,i,none⟩ (.int .u64 (wd f 0:Int))):=by
 refine⟨h.bel.setCell (aA _) _,?_⟩;rw[<-Ip];exact aY W w.heap.size i _ _ _ h.row
theorem Q8 (f:Nat->Bool)(a:Nat)(ha:a<64):bits BinOp.or IntKind.u64 (wd f 0:Int) (IntKind.u64.wrap (2^a))=(wd (fun k=>f k||decide (k=a)) 0:Int):=by
 have b:(2:Nat)^a<18446744073709551616:=by
  have:=Nat.pow_lt_pow_right (a:=2) (by omega) ha;simpa using this
 have c:IntKind.u64.wrap ((2:Int)^a)=((2^a:Nat):Int):=by
  rw[ie];have:((2:Int)^a)=((2^a:Nat):Int):=(by push_cast;rfl);rw[this];generalize (2^a:Nat)=y at*;omega
 rw[c,bits_or_u64_nat _ _ (iq f 0) b];congr 1;refine oy _ 0 _ (Nat.or_lt_two_pow (n:=64) (iq f 0) b) fun j d=> ?_;rw[Nat.testBit_or,jy,bc d,jc,Nat.mul_zero,bN,Nat.testBit_two_pow];congr 1;by_cases e:a=j
 ·simp[e]
 ·simp[e,show¬j=a from fun h=>e h.symm]
theorem Pp (f g:Nat->Bool):bits BinOp.or IntKind.u64 (wd f 0:Int) (wd g 0:Int)=(wd (fun k=>f k||g k) 0:Int):=by
 rw[bits_or_u64_nat _ _ (iq f 0) (iq g 0),CO]
def cE (b:List Cd)(i j:Nat):Nat->Nat->Bool:=fun r k=>if r<i then gK b r k else if r=i then(((b.getD i cd0).ins.take j).any fun x=>decide (x.op=8)&&decide (x.a=(k:Int))) else false
theorem Q9 (a:List Cd):cE a 0 0=fun _ _=>false:=by
 funext r k;unfold cE;rw[aw (by omega)];split<;>simp
theorem Pq {b:List Cd}{i j c:Nat}{x:In}(g:(b.getD i cd0).ins[j]? =some x)(f:x.op=8)(ha:x.a=(c:Int))(r k:Nat):qu (cE b i j) i (fun k=>cE b i j i k||decide (k=c)) r k=cE b i (j+1) r k:=by
 unfold qu;by_cases e:r=i
 ·subst e;rw[ax rfl];show(cE b r j r k||decide (k=c))=cE b r (j+1) r k;unfold cE;rw[aw (by omega),ax rfl,aw (by omega),ax rfl,fF,g,Option.toList_some,List.any_append];simp only[List.any_cons,List.any_nil,Bool.or_false,f,ha,decide_true,jc];congr 1;by_cases h:k=c
  ·simp[h]
  ·have d: ¬(c:Int)=(k:Int):=(by omega);simp[h,d]
 ·rw[aw e];unfold cE;by_cases h:r<i
  ·rw[ax h,ax h]
  ·rw[aw h,aw h,aw e,aw e]
theorem Pr {a:List Cd}{i j:Nat}{x:In}(c:(a.getD i cd0).ins[j]? =some x)(b:x.op≠8):cE a i j=cE a i (j+1):=by
 funext r k;unfold cE;rw[fF,c,Option.toList_some,List.any_append];simp[b]
theorem Ra {a:List Cd}{i j:Nat}(b:(a.getD i cd0).ins.length<=j):cE a i j=cE a (i+1) 0:=by
 funext r k;unfold cE;rw[da b];by_cases h:r<i
 ·rw[ax h,ax (by omega)]
 ·rw[aw h];by_cases e:r=i
  ·rw[ax e,ax (by omega)];subst e;rfl
  ·rw[aw e,aw (by omega)];split<;>simp
def wE (E:Nat->Nat->Bool)(m i:Nat):Nat->Nat->Bool:=fun r k=>if r<i then wars E (m+1) r k else wars E m r k
theorem KB (E:Nat->Nat->Bool)(m k:Nat):wars E (m+1) m k=wars E m m k:=by
 simp only[wars];cases wars E m m k<;>simp
theorem SL (E:Nat->Nat->Bool)(m i k:Nat):wE E m i m k=wars E m m k:=by
 unfold wE;split
 ·exact KB E m k
 ·rfl
theorem DK (E:Nat->Nat->Bool)(m i k:Nat):wE E m i i k=wars E m i k:=aw (by omega)
theorem Rb {E:Nat->Nat->Bool}{m i:Nat}(h:wE E m i i m=true)(r k:Nat):qu (wE E m i) i (fun k=>wE E m i i k||wE E m i m k) r k=wE E m (i+1) r k:=by
 unfold qu;rw[DK]at h;by_cases e:r=i
 ·subst e;rw[ax rfl];show(wE E m r r k||wE E m r m k)=_;rw[DK,SL];unfold wE;rw[ax (by omega)];simp only[wars,h,jc]
 ·rw[aw e];unfold wE;by_cases h:r<i
  ·rw[ax h,ax (by omega)]
  ·rw[aw h,aw (by omega)]
theorem SM {E:Nat->Nat->Bool}{m i:Nat}(h:wE E m i i m=false)(r k:Nat):wE E m i r k=wE E m (i+1) r k:=by
 rw[DK]at h;unfold wE;by_cases e:r=i
 ·subst e;rw[aw (by omega),ax (by omega)];simp only[wars,h,Bool.false_and,Bool.or_false]
 ·by_cases h:r<i
  ·rw[ax h,ax (by omega)]
  ·rw[aw h,aw (by omega)]
def EA (a:List Cd)(w:World)(t:Value)(wr:World):Prop:= ∃i:Nat,t=ag (i:Int)/\i<=a.length/\UcM w a.length (cE a i 0) wr
def EB (a:List Cd)(i n:Nat)(w:World)(t:Value)(wr:World):Prop:= ∃j:Nat,t=ag (j:Int)/\j<=n/\UcM w a.length (cE a i j) wr
def EC (a:List Cd)(w:World)(t:Value)(wr:World):Prop:= ∃m:Nat,t=ag (m:Int)/\m<=a.length/\UcM w a.length (wE (gK a) m 0) wr
def ED (a:List Cd)(m:Nat)(w:World)(t:Value)(wr:World):Prop:= ∃i:Nat,t=ag (i:Int)/\i<=a.length/\UcM w a.length (wE (gK a) m i) wr
def SN (a:List Cd)(w:World)(e:Ending)(b:World):Prop:=e= .returned (.slice (some (ae w.heap.size 0)) a.length a.length)/\UcM w a.length (wars (gK a) a.length) b
theorem Ps:(prog.info? 37).map (fun i=>(i.zero,i.size,i.bytes))=some (some (.int .u64 0),1,8):=by kernel_rfl
theorem M6:prog.underlying 147=some (.slice 37):=by kernel_rfl
theorem DL (d:List Cd)(lv:Value)(w:World)(h:InV w lv d)(aO:d.length<=40)(a7: ∀(i:Nat) (c:Cd),d[i]? =some c->aloneE c d.length=0):Calls prog 59 #[lv] w (SN d w):=by
 obtain⟨p,cp,rfl,aL,hc⟩:=h.form;have HC:=aZ hc;have HK:=aZ a7;have a6:=run_make_row' (P:=prog) 147 37 (.int .u64 0) 8 M6 Ps rfl .i64 .i64 d.length (by omega) (by omega);rw[Fl]at a6;have bA:=am w (.cells (iO d.length (fun _ _=>false)) 37);have n:UcM w d.length (cE d 0 0) (w.alloc (.cells (iO d.length (fun _ _=>false)) 37)):=⟨bA,by rw[Q9];exact aB w _⟩
 have aK:(d.length:Int)<=40:=by omega
 have aP:(0:Int)<=(d.length:Int):=by omega
 generalize ba:w.alloc (.cells (iO d.length (fun _ _=>false)) 37)=wA at*;go_enter func59,ntmps59;go_wp2_with fail;go_loopw [15] (fun t wr=>EA d w t wr) (fun t _=>d.length-(intOf t).toNat);case atStart=>exact⟨0,rfl,by omega,n⟩
 case round=>
  obtain⟨f,rfl,hi,C⟩:=hrel;have aT:(0:Int)<=(f:Int):=(by omega);by_cases ad:f<d.length
  ·have af:(f:Int)<(d.length:Int):=(by omega);obtain⟨u,O⟩: ∃u,d[f]? =some u:=⟨d[f],az ad⟩
   obtain⟨sv,ac,g,o,U,c0,c1,c2⟩:=HC.o f _ O;have a3:=jh O;have N:=jB (HK.o f _ O);obtain⟨s,hi,st⟩:=u;dsimp only at ac c0 c1 c2 N;obtain⟨pu,cu,rfl,aV,a4⟩:=ac.form;subst U;have d0:=aj C.bel c0;have d1:=aj C.bel c1;have d2:=aj C.bel c2;have bI:=am wr (.cells #[.slice pu s.length cu,ag hi,ag st] 93);have V:=C.below bI;have aC:=aB wr (.cells #[.slice pu s.length cu,ag hi,ag st] 93);have zc:=ak 0 aC;generalize bb:wr.alloc (.cells #[.slice pu s.length cu,ag hi,ag st] 93)=wC at*;have aM:(0:Int)<=(s.length:Int):=(by omega);have aN:s.length<=2000:=N.1.2;have ap:=aZ N.2.2;have X:=aZ a3;have ar:=aZ a4;have au:=aZ V;go_wp2_with fail;have V:=au.o;go_loopw [23] (fun t wr=>EB d f s.length w t wr) (fun t _=>s.length-(intOf t).toNat);case atStart=>exact⟨0,rfl,by omega,V⟩
   case round=>
    obtain⟨j,rfl,hj,n⟩:=hrel;have aU:(0:Int)<=(j:Int):=(by omega);by_cases ah:j<s.length
    ·have R:(j:Int)<(s.length:Int):=(by omega);obtain⟨x,Q⟩: ∃x,s[j]? =some x:=⟨s[j],az ah⟩
     obtain⟨sk,G,g2,o2,U,e0,e1,e2,e3,e4⟩:=ar.o j _ Q;subst U;have a5:=ap.o j _ Q;have E:(d.getD f cd0).ins[j]? =some x:=(by rw[X.o];exact Q);have d0:=aj n.bel e0;have d1:=aj n.bel e1;have d2:=aj n.bel e2;have d3:=aj n.bel e3;have d4:=aj n.bel e4;have B:x.op=8->0<=x.a/\x.a<d.length:=fun ho=>xN a5 ho;obtain⟨op,a,b,t,sp⟩:=x;dsimp only at d0 d1 d2 d3 d4 G B;obtain⟨ps,Y,rfl,_,_⟩:=G.form;have bI:=am wr (.cells #[ag op,ag a,ag b,ag t,.slice ps sp.length Y] 140);have ao:=aB wr (.cells #[ag op,ag a,ag b,ag t,.slice ps sp.length Y] 140);have z0:=ak 0 ao;have z1:=ak 1 ao;have H:=n.below bI;by_cases ho:op=8
     ·subst ho;obtain⟨a0,a1⟩:=B rfl;obtain⟨v,rfl⟩: ∃v:Nat,a=(v:Int):=⟨a.toNat,by omega⟩
      have a2:v<64:=(by omega);have aQ:(0:Int)<=(v:Int):=(by omega);have aS:(v:Int)<64:=(by omega);have I:T4 (∀W,UcM w d.length (qu (cE d f j) f (fun k=>cE d f j f k||decide (k=v))) W->EB d f s.length w (ag ((j+1:Nat):Int)) W):=fun W L=>⟨j+1,rfl,by omega,L.same fun r k _ _=>Pq E rfl rfl r k⟩
      have n:=H;generalize cE d f j=St at*;have J:=aZ (Q8 (St f) v a2);have rc:=n.cell ad;generalize aA:wr.alloc (.cells #[ag 8,ag (v:Int),ag b,ag t,.slice ps sp.length Y] 140)=wI at*;go_wp2_with fail;obtain⟨gx,aa⟩:=aq wr.heap.size;rw[aa]at z1;simp only[aa];have zx:=z1;refine j3 9 [kn 30 (.slice (some (ae w.heap.size 0)) d.length d.length),kn 31 (ag (f:Int)),kn 32 (ab w.heap.size f),kn 33 (.int .u64 (wd (St f) 0:Int)),kn 34 (ab gx 1),kn 35 (ag (v:Int)),kn 36 (.int .u64 (IntKind.u64.wrap (2^v))),kn 37 (.int .u64 (wd (fun k=>St f k||decide (k=v)) 0:Int)),kn 38 (ab w.heap.size f),nk] (by kernel_rfl) (by kernel_rfl) fun M φ W _ A F l hl hF=> ?_;have aE:=aj A rc;have aG:=aj A zx;have aH:=J.o;simp only[kn,nk,d6,aR,a8,Act.put,aD,aJ,aI]at hl;subst hl;simp only[dz,Nat.reduceAdd]at hF;dsimp only[kn,nk,dK,fo,eD,Act.put];and_intros;all_goals first|exact trivial|intro hw hn hm K Z
      all_goals try (go_simp;with_reducible exact Z _ _ ⟨rfl,aF _ _⟩)
      have L:=(n.below A).set f (fun k=>St f k||decide (k=v));have z:=aj A rc;have y:=(n.below A).frz f;have q:=aZ (I.o _ L);go_simp;refine Z undef _ ⟨trivial,fun c=>by simp at c,fun _=> ?_⟩;simp only[ep,aR,a8,Act.put,aD,aJ,aI];go_wp2_with fail;go_roundw
      case rel=>first
       |exact q.o
       |((repeat apply iW);exact⟨q.o,rfl⟩)
      case measure=>simp[intOf];omega
     ·have aX:(op==8)=false:=bl.2 ho;have q:T4 (EB d f s.length w (ag ((j+1:Nat):Int)) (wr.alloc (.cells #[ag op,ag a,ag b,ag t,.slice ps sp.length Y] 140))):=⟨j+1,rfl,by omega,by rw[<-Pr E ho];exact H⟩
      generalize aA:wr.alloc (.cells #[ag op,ag a,ag b,ag t,.slice ps sp.length Y] 140)=wI at*;go_wp2_with fail;go_roundw
      case rel=>first
       |exact q.o
       |((repeat apply iW);exact⟨q.o,rfl⟩)
      case measure=>simp[intOf];omega
    ·have R: ¬(j:Int)<(s.length:Int):=(by omega);have q:T4 (EA d w (ag ((f+1:Nat):Int)) wr):=⟨f+1,rfl,by omega,by rw[<-Ra (j:=j) (by rw[X.o];show s.length<=j;omega)];exact n⟩
     go_wp2_with fail;go_roundw
     case rel=>first
      |exact q.o
      |((repeat apply iW);exact⟨q.o,rfl⟩)
     case measure=>simp[intOf];omega
  ·have af: ¬(f:Int)<(d.length:Int):=(by omega)
   have a9:UcM w d.length (wE (gK d) 0 0) wr:=C.same fun r k hr _=>by
    unfold cE wE;rw[ax (by omega),aw (by omega)];rfl
   have av:=aZ a9;go_wp2_with fail;have n:=av.o;go_loopw [43] (fun t wr=>EC d w t wr) (fun t _=>d.length-(intOf t).toNat);case atStart=>exact⟨0,rfl,by omega,n⟩
   case round=>
    obtain⟨m,rfl,hm,D⟩:=hrel;have aW:(0:Int)<=(m:Int):=(by omega);by_cases ai:m<d.length
    ·have S:(m:Int)<(d.length:Int):=(by omega);have ay:=aZ D;go_wp2_with fail;have D:=ay.o;go_loopw [48] (fun t wr=>ED d m w t wr) (fun t _=>d.length-(intOf t).toNat);case atStart=>exact⟨0,rfl,by omega,D⟩
     case round=>
      obtain⟨f,rfl,hi,n⟩:=hrel;have aY:(0:Int)<=(f:Int):=(by omega);by_cases al:f<d.length
      ·have T:(f:Int)<(d.length:Int):=(by omega);have rc:=n.cell al;have rm:=n.cell ai;have cH:=Gm (wE (gK d) m f f) m (by omega) wr;cases hb:wE (gK d) m f f m with
       |true=>
        rw[hb]at cH;have I:T4 (∀W,UcM w d.length (qu (wE (gK d) m f) f (fun k=>wE (gK d) m f f k||wE (gK d) m f m k)) W->ED d m w (ag ((f+1:Nat):Int)) W):=fun W L=>⟨f+1,rfl,by omega,L.same fun r k _ _=>Rb hb r k⟩
        generalize wE (gK d) m f=St at*;have J:=aZ (Pp (St f) (St m));go_wp2_with fail;refine cH.mono ?_;rintro e w1 ⟨rfl,rfl⟩;go_wp2_with fail;refine j3 10 [kn 57 (.slice (some (ae w.heap.size 0)) d.length d.length),kn 58 (ag (f:Int)),kn 59 (ab w.heap.size f),kn 60 (.int .u64 (wd (St f) 0:Int)),kn 61 (.slice (some (ae w.heap.size 0)) d.length d.length),kn 62 (ag (m:Int)),kn 63 (ab w.heap.size m),kn 64 (.int .u64 (wd (St m) 0:Int)),kn 65 (.int .u64 (wd (fun k=>St f k||St m k) 0:Int)),kn 66 (ab w.heap.size f),nk] (by kernel_rfl) (by kernel_rfl) fun M φ W _ A F l hl hF=> ?_;have aE:=aj A rc;have aG:=aj A rm;have aH:=J.o;simp only[kn,nk,d6,aR,a8,Act.put,aD,aJ,aI]at hl;subst hl;simp only[dz,Nat.reduceAdd]at hF;dsimp only[kn,nk,dK,fo,eD,Act.put];and_intros;all_goals first|exact trivial|intro hw hn hm K Z
        all_goals try (go_simp;with_reducible exact Z _ _ ⟨rfl,aF _ _⟩)
        have L:=(n.below A).set f (fun k=>St f k||St m k);have z:=aj A rc;have y:=(n.below A).frz f;have q:=aZ (I.o _ L);go_simp;refine Z undef _ ⟨trivial,fun c=>by simp at c,fun _=> ?_⟩;simp only[ep,aR,a8,Act.put,aD,aJ,aI];go_wp2_with fail;go_roundw
        case rel=>first
         |exact q.o
         |((repeat apply iW);exact⟨q.o,rfl⟩)
        case measure=>simp[intOf];omega
       |false=>
        rw[hb]at cH;have q:T4 (ED d m w (ag ((f+1:Nat):Int)) wr):=⟨f+1,rfl,by omega,n.same fun r k _ _=>SM hb r k⟩
        generalize wE (gK d) m f=St at*;go_wp2_with fail;refine cH.mono ?_;rintro e w1 ⟨rfl,rfl⟩;go_wp2_with fail;go_roundw
        case rel=>first
         |exact q.o
         |((repeat apply iW);exact⟨q.o,rfl⟩)
        case measure=>simp[intOf];omega
      ·have T: ¬(f:Int)<(d.length:Int):=(by omega)
       have q:T4 (EC d w (ag ((m+1:Nat):Int)) wr):=⟨m+1,rfl,by omega,n.same fun r k hr _=>by
        unfold wE;rw[ax (by omega),aw (by omega)]⟩
       go_wp2_with fail;go_roundw
       case rel=>first
        |exact q.o
        |((repeat apply iW);exact⟨q.o,rfl⟩)
       case measure=>simp[intOf];omega
    ·have S: ¬(m:Int)<(d.length:Int):=(by omega)
     have q:T4 (UcM w d.length (wars (gK d) d.length) wr):=by
      show UcM _ _ _ _;have e:m=d.length:=(by omega);subst e;exact D.same fun r k _ _=>(by unfold wE;rw[aw (by omega)])
     go_wp2_with fail;go_ret;exact⟨rfl,q.o⟩
namespace Vx
section
variable {cs:List Cd} {l:List In}
theorem zl (x:In): -1<=eff x/\eff x<=1:=by
 unfold eff;split
 ·omega
 ·split<;>omega
theorem SO (x:In):0<=tk x/\tk x<=2:=by
 unfold tk;split
 ·omega
 ·split<;>omega
theorem oH: ∀j:Nat,-(j:Int)<=hAt l j/\hAt l j<=j
 |0=>by simp[hAt]
 |j+1=>by
  have a:=oH j;have b:=zl (l.getD j in0);simp only[hAt];omega
theorem ti (b: ∀i,(cs.getD i cd0).high<=100): ∀j:Nat,0<=mxH cs l j/\mxH cs l j<=j+100
 |0=>by simp[mxH]
 |j+1=>by
  have c:=ti b j;have d:=oH (l:=l) j;have e:=oH (l:=l) (j+1);have f:=b (l.getD j in0).a.toNat;simp only[mxH];split<;>omega
theorem tj (b: ∀i,0<=(cs.getD i cd0).steps/\(cs.getD i cd0).steps<=20000): ∀j:Nat,(j:Int)<=stS cs l j/\stS cs l j<=j*20001
 |0=>by simp[stS]
 |j+1=>by
  have c:=tj b j;have d:=b (l.getD j in0).a.toNat;simp only[stS];split<;>omega
theorem Pu (h: ∀(i:Nat) (c:Cd),cs[i]? =some c->aloneE c cs.length=0)(i:Nat):(cs.getD i cd0).high<=100:=by
 cases hi:cs[i]? with
 |none=>simp[List.getD,hi,cd0]
 |some c=>
  rw[jh hi];have:=(jB (h i c hi)).2.1;omega
theorem M7 (h: ∀(i:Nat) (c:Cd),cs[i]? =some c->aloneE c cs.length=0)(i:Nat):0<=(cs.getD i cd0).steps/\(cs.getD i cd0).steps<=20000:=by
 cases hi:cs[i]? with
 |none=>simp[List.getD,hi,cd0]
 |some c=>
  rw[jh hi];have:=(jB (h i c hi)).2.1;omega
def agB (L:List (Int×Int))(p h:Int):Bool:=match lk L p with
 |none=>true
 |some v=>decide (v=h)
theorem tR {L:List (Int×Int)}{p h:Int}(e:agB L p h=true): ∀v,lk L p=some v->v=h:=fun v a=>by
 unfold agB at e;rw[a]at e;simpa using e
theorem sf {L:List (Int×Int)}{p h:Int}(e:agB L p h=false): ∃v,lk L p=some v/\v≠h:=by
 unfold agB at e;cases hl:lk L p with
 |none=>rw[hl]at e;cases e
 |some v=>rw[hl]at e;exact⟨v,rfl,by simpa using e⟩
theorem Pv {L:List (Int×Int)}{p h:Int}:agB L p h=true↔ ∀v,lk L p=some v->v=h:=by
 constructor
 ·exact tR
 ·intro c;cases e:agB L p h with
  |true=>rfl
  |false=>
   obtain⟨v,a,b⟩:=sf e;exact absurd (c v a) b
end
end Vx
theorem CR:prog.underlying 222=some (.map 3 3):=by kernel_rfl
theorem v7:prog.underlying 3=some (.int .i64):=by kernel_rfl
def kv9 (e:MapEntry):Value×Value:=(e.key,e.val)
def uV (L:List (Int×Int)):List (Value×Value):=L.map fun n=>(ag n.1,ag n.2)
def uW (w:World)(b:Nat)(L:List (Int×Int)):Prop:= ∃a c,w.heap[b]? =some (.map a c)/\a.toList.map kv9=uV L
theorem uW.later {w w':World}{b:Nat}{L:List (Int×Int)}(h:uW w b L)(f:w'.heap[b]? =w.heap[b]?):uW w' b L:=by
 obtain⟨a,c,d,e⟩:=h;exact⟨a,c,f.trans d,e⟩
theorem Iq {w:World}{b:Nat}{L:List (Int×Int)}(h:uW w b L):b<w.heap.size:=by
 obtain⟨d,c,a,_⟩:=h;exact(bz.1 a).1
theorem Ir (k:Int): ∀(c:List MapEntry) (L:List (Int×Int)) (i:Nat),c.map kv9=uV L->(∃v j,lk L k=some v/\Instr.findNow (.int .i64) (ag k) c i=some (some (i+j,ag v))/\(c[j]?).map kv9=some (ag k,ag v)/\ ∀a,uV (upL L k a)=(c.map kv9).set j (ag k,ag a))\/(lk L k=none/\Instr.findNow (.int .i64) (ag k) c i=some none/\ ∀a,upL L k a=L++[(k,a)])
 |[],[],i,_=> .inr ⟨rfl,rfl,fun _=>rfl⟩
 |[],_::_,i,h=>by simp[uV]at h
 |_::_,[],i,h=>by simp[uV]at h
 |e::c,n::L,i,h=>by
  simp only[uV,cQ,List.cons.injEq]at h;obtain⟨d,l⟩:=h;have p:e.key=ag n.1:=congrArg Prod.fst d;have t:e.val=ag n.2:=congrArg Prod.snd d;have s:Instr.sameNow (.int .i64) (ag k) e.key=some (k==n.1):=(by rw[p];simp[Instr.sameNow]);simp only[Instr.findNow,s];by_cases b:k=n.1
  ·left;refine⟨n.2,0,by simp[lk,b],?_,?_,fun a=> ?_⟩
   ·simp[b,t]
   ·simp only[List.getElem?_cons_zero,Option.map_some,d,b]
   ·have r:c.map kv9=uV L:=l;simp only[upL,ax b,cQ,aI,r];rfl
  ·have o:(k==n.1)=false:=(by simpa using b);rw[o];rcases Ir k c L (i+1) l with⟨v,j,m,f,g,q⟩|⟨m,f,q⟩
   ·left;refine⟨v,j+1,by simp[lk,b,m],by rw[show i+(j+1)=i+1+j by omega];exact f,by simpa using g,fun a=> ?_⟩;simp only[upL,aw b,cQ,aJ,<-q a,d];rfl
   ·right;refine⟨by simp[lk,b,m],f,fun a=> ?_⟩;simp only[upL,aw b,q a,List.cons_append]
theorem SQ {w:World}{b:Nat}{L:List (Int×Int)}(h:uW w b L)(k:Int):(Instr.lookup 222 (.map (some b)) (ag k) true).run prog w= .ok (.tuple #[ag ((lk L k).getD 0),.bool (lk L k).isSome]) w:=by
 obtain⟨g,c,e,i⟩:=h;have f: ∀z,(Instr.checkKey z 10000 3 (ag k)).run prog w= .ok () w:=fun z=>MapKept.run_checkKey (k:=ag k) v7 (by simp[MapKept.IsKey]) z 9999;have l:(zeroValue 3).run prog w= .ok (ag 0) w:=by kernel_rfl
 rcases Ir k g.toList L 0 i with⟨v,j,a,d,_,_⟩|⟨a,d,_⟩
 ·simp[Instr.lookup,gS CR,fR e,f,gV v7 d,Result.andThen,a]
 ·simp[Instr.lookup,gS CR,fR e,f,gV v7 d,l,Result.andThen,a]
def tS (w:World)(b:Nat)(o:Obj):World:={w with heap:=w.heap.setIfInBounds b o}
theorem zn {r n:Nat}{a w:World}(h:Below n a w)(c:n<=r)(o:Obj):Below n a (tS w r o):=
 ⟨h.os,h.tape,h.output,by simpa[tS] using h.size,fun k b=>by
   rw[<-h.block k b];show(w.heap.setIfInBounds r o)[k]? =_;rw[dj (by omega)]⟩
theorem zo {r k:Nat}{w:World}(o:Obj)(h:k≠r):(tS w r o).heap[k]? =w.heap[k]? :=by
 show(w.heap.setIfInBounds r o)[k]? =_;rw[dj (by omega)]
theorem Rc {w:World}{b:Nat}{L:List (Int×Int)}(h:uW w b L)(k v:Int): ∃o,(Instr.mapUpdate 222 (.map (some b)) (ag k) (ag v)).run prog w= .ok () (tS w b o)/\uW (tS w b o) b (upL L k v):=by
 obtain⟨a,c,g,r⟩:=h;have s:(Instr.checkKey false 10000 3 (ag k)).run prog w= .ok () w:=MapKept.run_checkKey (k:=ag k) v7 (by simp[MapKept.IsKey]) false 9999;rcases Ir k a.toList L 0 r with⟨A,j,t,l,f,n⟩|⟨t,l,n⟩
 ·have p:(Instr.keyThatStays (ag k) (ag k)).run prog w= .ok (ag k) w:=MapKept.run_keyThatStays (d:= .int .i64) (by simp[MapKept.IsKey])
  have i:(Option.map (fun x=>x.key) a[j]?).getD (ag k)=ag k:=by
   rw[bq]at f;cases he:a[j]? with
   |none=>rfl
   |some e=>
    rw[he]at f;simp[kv9]at f;simp[f.1]
  refine⟨.map (a.modify j fun e=>{e with key:=ag k,val:=ag v}) c,?_,_,c,(MapKept.heap_set g).1,?_⟩
  ·rw[bN]at l;simp[Instr.mapUpdate,gS CR,fR g,s,gV v7 l,i,p,MapKept.run_setObj_map _ g,Result.andThen,tS]
  ·rw[n v];rw[bq]at f;apply List.ext_getElem?;intro q;simp only[bf,bq,Array.getElem?_modify,List.getElem?_set];by_cases m:j=q
   ·subst m;rw[ax rfl,ax rfl];cases he:a[j]? with
    |none=>rw[he]at f;simp at f
    |some e=>
     have u:j<a.size:=(bz.1 he).1;simp[kv9,u]
   ·rw[aw m,aw m]
 ·refine⟨.map (a.push ⟨ag k,ag v,c⟩) (c+1),?_,_,c+1,(MapKept.heap_set g).1,?_⟩
  ·simp[Instr.mapUpdate,gS CR,fR g,s,gV v7 l,MapKept.run_setObj_map _ g,Result.andThen,tS]
  ·rw[n v,Array.toList_push,dV,r];simp[uV,kv9]
theorem SS (w:World):(Instr.makeMap 222 none).run prog w= .ok (.map (some w.heap.size)) (w.alloc (.map #[] 0)):=by
 unfold Instr.makeMap;simp[go_sem]
structure MmI (w:World)(L:List (Int×Int))(W:World):Prop where
 bel:ao w W
 map:uW W w.heap.size L
 var:W.heap[w.heap.size+1]? =ah #[.map (some w.heap.size)] 222
theorem MmI.below {w W b:World}{L:List (Int×Int)}(h:MmI w L W)(a:ao W b):MmI w L b:=
 ⟨au h.bel a,h.map.later (a.block _ (Iq h.map)),ai a h.var⟩
theorem qK (L:List (Int×Int))(p h:Int)(w W:World)(d:MmI w L W):Calls prog 147 #[ag p,ag h,ab (w.heap.size+1) 0] W fun e g=>e= .returned (.bool (agB L p h))/\g=W:=by
 have a:=SQ d.map p;have z:=ak 0 d.var;generalize b:agB L p h=X;unfold agB at b;clear d;cases hl:lk L p with
 |none=>
  rw[hl]at a b;have c:(Instr.lookup 222 (.map (some w.heap.size)) (ag p) true).run prog W= .ok (.tuple #[ag 0,.bool false]) W:=a;dsimp only at b;subst b;clear a hl;go_enter func147,ntmps147;go_wp2_with fail;go_ret;exact⟨rfl,rfl⟩
 |some v=>
  rw[hl]at a b;have c:(Instr.lookup 222 (.map (some w.heap.size)) (ag p) true).run prog W= .ok (.tuple #[ag v,.bool true]) W:=a;dsimp only at b;have f:(v==h)=X:=(by rw[<-b];rfl);clear a hl b;go_enter func147,ntmps147;go_wp2_with fail;go_ret;exact⟨rfl,rfl⟩
def Is (a:List Cd)(l:List In)(h s:Int)(ok:Bool):Prop:=(ok=true↔mI l)/\(ok=true->h=mxH a l l.length/\s=stS a l l.length)
def ST (a:List Cd)(l:List In)(w:World)(e:Ending)(b:World):Prop:= ∃(h s:Int) (ok:Bool),e= .returned (.tuple #[ag h,ag s,.bool ok])/\Is a l h s ok/\ao w b
theorem v8 {cs:List Cd}{l:List In}(h: ¬mI l):Is cs l 0 0 false:=⟨⟨fun e=>(by cases e),fun e=>absurd e h⟩,fun e=>(by cases e)⟩
def It (b:List Cd)(l:List In)(w:World)(c d e a:Value)(wr:World):Prop:= ∃(j:Nat) (L:List (Int×Int)),a=ag (j:Int)/\j<=l.length/\e=ag (hAt l j)/\c=ag (mxH b l j)/\d=ag ((l.length:Int)+(stS b l j-j))/\mx l j L/\MmI w L wr
theorem we {i:List Cd}{l:List In}{w W:World}{a b c d e f g j:Int}(h:It i l w (ag a) (ag b) (ag c) (ag d) W)(k:e=a)(m:f=b)(n:g=c)(o:j=d):It i l w (ag e) (ag f) (ag g) (ag j) W:=by
 subst k m n o;exact h
theorem DM (d:List Cd)(l:List In)(lv sv:Value)(w:World)(h:InV w lv d)(hs:pV w sv l)(af: ∀(i:Nat) (c:Cd),d[i]? =some c->aloneE c d.length=0)(bb:l.length<=2000)(ao: ∀(j:Nat) (x:In),l[j]? =some x->fT x j l.length d.length=0):
  Calls prog 102 #[lv,sv] w (ST d l w):=by
 obtain⟨p,cp,rfl,aO,hc⟩:=h.form;obtain⟨pu,cu,rfl,bc,av⟩:=hs.form;have HC:=aZ hc;have y:=aZ av;have z:=aZ ao;have r:=aZ (Pu af);have A:=aZ af;have s:=aZ (M7 af);have q:T4 (Tos l):=fun j x hx V=>tb (ao j x hx) V;have b1:=am w (.map #[] 0);have b2:=b1.alloc b1.size (.cells #[.map (some w.heap.size)] 222);have a7:=SS w;have s1:(w.alloc (.map #[] 0)).heap.size=w.heap.size+1:=by simp
 have ad:MmI w [] ((w.alloc (.map #[] 0)).alloc (.cells #[.map (some w.heap.size)] 222)):=by
  refine⟨b2,⟨#[],0,(dD _ _ _ (by rw[s1];omega)).trans (aB w _),rfl⟩,?_⟩;have:=aB (w.alloc (.map #[] 0)) (.cells #[.map (some w.heap.size)] 222);rw[s1]at this;exact this
 have aY:(0:Int)<=(l.length:Int):=by omega
 have ba:(l.length:Int)<=2000:=by omega
 have aq:=aZ ad;have bd: ∀(fn:Fn) (first cap:Array Value) (w:World),(Instr.makeFunc fn first cap).run prog w= .ok (.func fn first cap) w:=fun _ _ _ _=>rfl;generalize aD:(w.alloc (.map #[] 0)).alloc (.cells #[.map (some w.heap.size)] 222)=wB at*;clear h hs hc av af ao b1 b2 ad s1;go_enter func102,ntmps102;go_wp2_with fail;clear a7 aD;have ad:=aq.o;clear aq;go_loopw [4,5,7,20] (fun t4 t5 t7 aE wr=>It d l w t4 t5 t7 aE wr) (fun _ _ _ t _=>l.length-(intOf t).toNat);case atStart=>exact⟨0,[],rfl,by omega,rfl,rfl,by simp[stS],mx.nil l,ad⟩
 case round=>
  obtain⟨j,L,rfl,hj,rfl,rfl,rfl,I,hm⟩:=hrel;clear ad;have aV:(0:Int)<=(j:Int):=(by omega);have a1:=oH (l:=l) j;have a2:=ti (l:=l) r.o j;have a3:=tj (l:=l) s.o j;obtain⟨aF,aG⟩:=a1;obtain⟨aH,aI⟩:=a2;obtain⟨aJ,aK⟩:=a3;have aW:(j:Int)<=2000:=(by omega);have aL:stS d l j<=50000000:=(by omega);by_cases a6:j<l.length
  ·have ay:(j:Int)<(l.length:Int):=(by omega);obtain⟨x,g⟩: ∃x,l[j]? =some x:=⟨l[j],az a6⟩
   obtain⟨sk,al,g2,o2,ap,e0,e1,e2,e3,e4⟩:=y.o j _ g;subst ap;have d0:=aj hm.bel e0;have d1:=aj hm.bel e1;have d2:=aj hm.bel e2;have d3:=aj hm.bel e3;have d4:=aj hm.bel e4;have hE:=z.o j _ g;have Q:=jN g;have E:=k6 (cs:=d) g;have F:=kh (cs:=d) g;have a8:=SO x;have a5:=zl x;have cX:=DH x;obtain⟨ps,ck,rfl,_,_⟩:=al.form;have bI:=am wr (.cells #[ag x.op,ag x.a,ag x.b,ag x.to,.slice ps x.sp.length ck] 140);have ah:=aB wr (.cells #[ag x.op,ag x.a,ag x.b,ag x.to,.slice ps x.sp.length ck] 140);have z0:=ak 0 ah;have z1:=ak 1 ah;have z3:=ak 3 ah;have f:=hm.below bI;generalize be:wr.alloc (.cells #[ag x.op,ag x.a,ag x.b,ag x.to,.slice ps x.sp.length ck] 140)=wI at*;have C:=qK L (j:Int) (hAt l j) w wI f;have m:=cX wI;obtain⟨aP,aQ⟩:=a8;obtain⟨aM,aN⟩:=a5;clear cX al e0 e1 e2 e3 e4 bI ah hm;by_cases G:hAt l j<tk x
   ·have P:=aZ (v8 (cs:=d) (Q6 g G));have HB:=aZ f.bel;clear C hE Q E F I f HC y z r s q A g;generalize hAt l j=Z at*;generalize tk x=S at*;generalize mxH d l j=X at*;generalize stS d l j=ss at*;go_wp2_with fail;refine m.mono ?_;rintro e H ⟨rfl,rfl⟩;clear m;go_wp2_with fail;exact aX (v:= .tuple #[ag 0,ag 0,.bool false]) (by simp[results,results102,go_sem]) rfl ⟨0,0,false,rfl,P.o,HB.o⟩
   ·have aR: ¬hAt l j<tk x:=G;cases hag:agB L (j:Int) (hAt l j) with
    |false=>
     obtain⟨v,N,O⟩:=sf hag;have P:=aZ (v8 (cs:=d) (I.not_met N O));have HB:=aZ f.bel;rw[hag]at C;clear hag hE Q E F I f HC y z r s q A g N O G;generalize hAt l j=Z at*;generalize tk x=S at*;generalize mxH d l j=X at*;generalize stS d l j=ss at*;go_wp2_with fail;refine m.mono ?_;rintro e H ⟨rfl,rfl⟩;clear m;go_wp2_with fail;refine C.mono ?_;rintro e H ⟨rfl,rfl⟩;clear C;go_wp2_with fail;exact aX (v:= .tuple #[ag 0,ag 0,.bool false]) (by simp[results,results102,go_sem]) rfl ⟨0,0,false,rfl,P.o,HB.o⟩
    |true=>
     rw[hag]at C;have n:=tR hag;clear hag;have ae:tk x<=hAt l j:=(by omega);have D:T4 (∀(W:World) (L':List (Int×Int)),mx l (j+1) L'->MmI w L' W->It d l w (ag (mxH d l (j+1))) (ag ((l.length:Int)+(stS d l (j+1)-((j+1:Nat):Int)))) (ag (hAt l (j+1))) (ag ((j+1:Nat):Int)) W):=fun W L' h1 h2=>⟨j+1,L',rfl,by omega,rfl,rfl,rfl,h1,h2⟩
     by_cases k:x.op=6
     ·have V:isG x:= .inl k;have a9:=tb hE V;have U:=qK L x.to (hAt l j+1) w wI f;have J:eff x=0:=(by unfold eff;rw[aw (by omega),aw (by omega)]);have R: ¬x.op=8:=(by omega);rw[aw R]at E F;have ac:(x.op==6)=true:=(by rw[k];rfl);cases hag2:agB L x.to (hAt l j+1) with
      |false=>
       obtain⟨v,N,O⟩:=sf hag2;have P:=aZ (v8 (cs:=d) (I.not_two g V N O));have HB:=aZ f.bel;rw[hag2]at U;clear hag2 hE Q E F I f HC y z r s q A g N O G D n V J R k;generalize hAt l j=Z at*;generalize tk x=S at*;generalize mxH d l j=X at*;generalize stS d l j=ss at*;go_wp2_with fail;refine m.mono ?_;rintro e H ⟨rfl,rfl⟩;clear m;go_wp2_with fail;refine C.mono ?_;rintro e H ⟨rfl,rfl⟩;clear C;go_wp2_with fail;refine U.mono ?_;rintro e H ⟨rfl,rfl⟩;clear U;go_wp2_with fail;exact aX (v:= .tuple #[ag 0,ag 0,.bool false]) (by simp[results,results102,go_sem]) rfl ⟨0,0,false,rfl,P.o,HB.o⟩
      |true=>
       rw[hag2]at U;have B:=I.stepG q.o g ae n V (tR hag2);obtain⟨ob,aC,hM⟩:=Rc f.map x.to (hAt l j+1);have aa:MmI w (upL L x.to (hAt l j+1)) (tS wI w.heap.size ob):=⟨zn f.bel (aA _) ob,hM,(zo ob (by omega)).trans f.var⟩
       have HN:=aZ (D.o _ _ B aa);have zv:=ak 0 f.var;clear hag2 hE I f HC y z r s q A g G D n V R k B hM aa;rw[J]at Q m;generalize hAt l (j+1)=h1 at*;generalize mxH d l (j+1)=m1 at*;generalize stS d l (j+1)=s1 at*;generalize hAt l j=Z at*;generalize mxH d l j=X at*;generalize stS d l j=ss at*;generalize tk x=S at*;go_wp2_with fail;refine m.mono ?_;rintro e H ⟨rfl,rfl⟩;clear m;go_wp2_with fail;refine C.mono ?_;rintro e H ⟨rfl,rfl⟩;clear C;go_wp2_with fail;refine U.mono ?_;rintro e H ⟨rfl,rfl⟩;clear U;go_wp2_with fail;have e1:Z+(S+0-S)=h1:=(by omega);have e2:max X (Z+(S+0-S))=m1:=(by omega);go_roundw;case rel=>exact we HN.o (by split<;>omega) (by omega) (by omega) (by omega)
       case measure=>simp[intOf];omega
     by_cases K:x.op=7
     ·have k:=K;clear K;have V:isG x:= .inr k;have a9:=tb hE V;have U:=qK L x.to (hAt l j+1) w wI f;have J:eff x=0:=(by unfold eff;rw[aw (by omega),aw (by omega)]);have R: ¬x.op=8:=(by omega);rw[aw R]at E F;have ac:(x.op==6)=false:=(by rw[k];rfl);have ai:(x.op==7)=true:=(by rw[k];rfl);cases hag2:agB L x.to (hAt l j+1) with
      |false=>
       obtain⟨v,N,O⟩:=sf hag2;have P:=aZ (v8 (cs:=d) (I.not_two g V N O));have HB:=aZ f.bel;rw[hag2]at U;clear hag2 hE Q E F I f HC y z r s q A g N O G D n V J R k;generalize hAt l j=Z at*;generalize tk x=S at*;generalize mxH d l j=X at*;generalize stS d l j=ss at*;go_wp2_with fail;refine m.mono ?_;rintro e H ⟨rfl,rfl⟩;clear m;go_wp2_with fail;refine C.mono ?_;rintro e H ⟨rfl,rfl⟩;clear C;go_wp2_with fail;refine U.mono ?_;rintro e H ⟨rfl,rfl⟩;clear U;go_wp2_with fail;exact aX (v:= .tuple #[ag 0,ag 0,.bool false]) (by simp[results,results102,go_sem]) rfl ⟨0,0,false,rfl,P.o,HB.o⟩
      |true=>
       rw[hag2]at U;have B:=I.stepG q.o g ae n V (tR hag2);obtain⟨ob,aC,hM⟩:=Rc f.map x.to (hAt l j+1);have aa:MmI w (upL L x.to (hAt l j+1)) (tS wI w.heap.size ob):=⟨zn f.bel (aA _) ob,hM,(zo ob (by omega)).trans f.var⟩
       have HN:=aZ (D.o _ _ B aa);have zv:=ak 0 f.var;clear hag2 hE I f HC y z r s q A g G D n V R k B hM aa;rw[J]at Q m;generalize hAt l (j+1)=h1 at*;generalize mxH d l (j+1)=m1 at*;generalize stS d l (j+1)=s1 at*;generalize hAt l j=Z at*;generalize mxH d l j=X at*;generalize stS d l j=ss at*;generalize tk x=S at*;go_wp2_with fail;refine m.mono ?_;rintro e H ⟨rfl,rfl⟩;clear m;go_wp2_with fail;refine C.mono ?_;rintro e H ⟨rfl,rfl⟩;clear C;go_wp2_with fail;refine U.mono ?_;rintro e H ⟨rfl,rfl⟩;clear U;go_wp2_with fail;have e1:Z+(S+0-S)=h1:=(by omega);have e2:max X (Z+(S+0-S))=m1:=(by omega);go_roundw;case rel=>exact we HN.o (by split<;>omega) (by omega) (by omega) (by omega)
       case measure=>simp[intOf];omega
     by_cases M:x.op=8
     ·have k:=M;clear M K;have a4:=xN hE k;obtain⟨Y,ar⟩: ∃Y:Nat,x.a=(Y:Int):=⟨x.a.toNat,by omega⟩
      have au:Y<d.length:=(by omega);have aS:(0:Int)<=(Y:Int):=(by omega);have aT:(Y:Int)<(d.length:Int):=(by omega);obtain⟨u,hu⟩: ∃u,d[Y]? =some u:=⟨d[Y],az au⟩
      obtain⟨su,_,g3,o3,ap,k0,k1,k2⟩:=HC.o Y _ hu;subst ap;have q1:=aj f.bel k1;have q2:=aj f.bel k2;have v1:=r.o Y;have v2:=s.o Y;have v3:=(jB (A.o Y _ hu)).2.1.1.1;rw[ax k,show x.a.toNat=Y by omega]at E F;rw[jh hu]at E F v1 v2;obtain⟨bf,bg⟩:=v2;have J:eff x=1:=(by unfold eff;rw[ax (.inr k)]);have ac:(x.op==6)=false:=(by rw[k];rfl);have ai:(x.op==7)=false:=(by rw[k];rfl);have a0:(x.op==8)=true:=(by rw[k];rfl);have ab: ¬isG x:=(by unfold isG;omega);have B:=I.step q.o g ae n ab;have HN:=aZ (D.o _ _ B f);rw[ar]at z1;clear ar a4;clear hE I f HC y z r s q A g G D n k B ab k0 k1 k2 hu;rw[J]at Q m;clear J;generalize u.high=uh at*;generalize u.steps=us at*;generalize hAt l (j+1)=h1 at*;generalize mxH d l (j+1)=m1 at*;generalize stS d l (j+1)=s1 at*;generalize hAt l j=Z at*;generalize mxH d l j=X at*;generalize stS d l j=ss at*;generalize tk x=S at*;go_wp2_with fail;refine m.mono ?_;rintro e H ⟨rfl,rfl⟩;clear m;go_wp2_with fail;refine C.mono ?_;rintro e H ⟨rfl,rfl⟩;clear C;go_wp2_with fail;go_roundw;case rel=>exact we HN.o (by repeat (first|omega|split)) (by omega) (by omega) (by omega)
      case measure=>simp[intOf];omega
     ·have ac:(x.op==6)=false:=bl.2 k;have ai:(x.op==7)=false:=bl.2 K;have a0:(x.op==8)=false:=bl.2 M;rw[aw M]at E F;have ab: ¬isG x:=(by unfold isG;omega);have B:=I.step q.o g ae n ab;have HN:=aZ (D.o _ _ B f);clear hE I f HC y z r s q A g G D n k K M B ab;generalize hAt l (j+1)=h1 at*;generalize mxH d l (j+1)=m1 at*;generalize stS d l (j+1)=s1 at*;generalize hAt l j=Z at*;generalize mxH d l j=X at*;generalize stS d l j=ss at*;generalize tk x=S at*;generalize eff x=ee at*;go_wp2_with fail;refine m.mono ?_;rintro e H ⟨rfl,rfl⟩;clear m;go_wp2_with fail;refine C.mono ?_;rintro e H ⟨rfl,rfl⟩;clear C;go_wp2_with fail;go_roundw;case rel=>exact we HN.o (by repeat (first|omega|split)) (by omega) (by omega) (by omega)
      case measure=>simp[intOf];omega
  ·have ay: ¬(j:Int)<(l.length:Int):=(by omega);have ej:j=l.length:=(by omega);subst ej;have C:=qK L (l.length:Int) (hAt l l.length) w wr hm;by_cases T:hAt l l.length=1
   ·have HU:T4 (Is d l (mxH d l l.length) ((l.length:Int)+(stS d l l.length-(l.length:Int))) (agB L (l.length:Int) (hAt l l.length))):=by
     refine⟨?_,fun _=>⟨rfl,by omega⟩⟩;rw[Pv,<-I.fin q.o];exact⟨fun e=>⟨T,e⟩,fun e=>e.2⟩
    have HB:=aZ hm.bel;clear I hm HC y z r s q A;rw[T]at C HU⊢;generalize mxH d l l.length=X at*;generalize stS d l l.length=ss at*;generalize agB L (l.length:Int) 1=ok at*;go_wp2_with fail;refine C.mono ?_;rintro e H ⟨rfl,rfl⟩;clear C;go_wp2_with fail;exact aX (v:= .tuple #[ag X,ag ((l.length:Int)+(ss-(l.length:Int))),.bool ok]) (by simp[results,results102,go_sem]) rfl ⟨_,_,_,rfl,HU.o,HB.o⟩
   ·have aU:(hAt l l.length==1)=false:=bl.2 T;have HU:T4 (Is d l (mxH d l l.length) ((l.length:Int)+(stS d l l.length-(l.length:Int))) false):=⟨⟨fun e=>(by cases e),fun e=>absurd e.fin T⟩,fun e=>(by cases e)⟩
    have HB:=aZ hm.bel;clear I hm HC y z r s q A C;generalize mxH d l l.length=X at*;generalize stS d l l.length=ss at*;generalize hAt l l.length=Z at*;go_wp2_with fail;exact aX (v:= .tuple #[ag X,ag ((l.length:Int)+(ss-(l.length:Int))),.bool false]) (by simp[results,results102,go_sem]) rfl ⟨_,_,_,rfl,HU.o,HB.o⟩
theorem KC (b:List Cd)(lv:Value)(q:Nat)(w:World)(h:InV w lv b)(r: ∀(i:Nat) (c:Cd),b[i]? =some c->aloneE c b.length=0)(C:q<b.length):
  Calls prog 62 #[lv,ag (q:Int)] w fun e R=>e= .returned (.bool (pA b (b.getD q cd0)))/\ao w R:=by
 obtain⟨p,U,A,L,K⟩:=h.form;obtain⟨u,y⟩: ∃u,b[q]? =some u:=⟨b[q],az C⟩
 obtain⟨sv,n,g,o,rfl,M,G,H⟩:=K q u y;have m:=jB (r q u y);rw[jh y];generalize J:pA b u=X;have P:(0:Int)<=(q:Int):=by omega
 have Q:(q:Int)<(b.length:Int):=by omega
 obtain⟨j,hi,st⟩:=u;dsimp only at n G H m;obtain⟨z,v,rfl,_,_⟩:=n.form;have t:=am w (.cells #[.slice z j.length v,ag hi,ag st] 93);have s:=aB w (.cells #[.slice z j.length v,ag hi,ag st] 93);generalize D:w.alloc (.cells #[.slice z j.length v,ag hi,ag st] 93)=S at*;have F:=DM b j lv (.slice z j.length v) S (h.below t) (n.below t) r m.1.2 m.2.2;subst A;have T:=ak 0 s;clear h K r n y m;go_enter func62,ntmps62;go_wp2_with fail;refine F.mono ?_;rintro e V ⟨B,E,ok,rfl,I,b1⟩;have k:=ai b1 s;have W:=ak 1 k;have Y:=ak 2 k;have x:=au t b1;clear F b1 t s k T D M G H
 have a:X=(ok&&(decide (B=hi)&&decide (E=st))):=by
  obtain⟨u1,u2⟩:=I;subst J;cases ok with
  |false=>
   cases hf:pA b ⟨j,hi,st⟩ with
   |false=>rfl
   |true=>exact absurd (u1.2 (nJ.1 hf).well) (by simp)
  |true=>
   obtain⟨rfl,rfl⟩:=u2 rfl;by_cases f:mxH b j j.length=hi
   ·by_cases l:stS b j j.length=st
    ·rw[bc f,bc l];exact nJ.2 ⟨u1.1 rfl,f,l⟩
    ·rw[bo l];simp only[jk];cases hf:pA b ⟨j,hi,st⟩ with
     |false=>rfl
     |true=>exact absurd (nJ.1 hf).steps l
   ·rw[bo f];simp only[Bool.false_and,jk];cases hf:pA b ⟨j,hi,st⟩ with
    |false=>rfl
    |true=>exact absurd (nJ.1 hf).high f
 clear J I;cases ok with
 |false=>
  have d:X=false:=a;subst d;clear a;go_wp2_with fail;go_ret;exact⟨rfl,x⟩
 |true=>
  by_cases f:B=hi
  ·by_cases l:E=st
   ·rw[bc f,bc l]at a;have d:X=true:=a;subst d f l;clear a;go_wp2_with fail;go_ret;exact⟨rfl,x⟩
   ·rw[bc f,bo l]at a;have d:X=false:=a;subst d f;have O:(E==st)=false:=bl.2 l;clear a l;go_wp2_with fail;go_ret;exact⟨rfl,x⟩
  ·rw[bo f]at a;have d:X=false:=(by rw[a];simp);subst d;have N:(B==hi)=false:=bl.2 f;clear a f;go_wp2_with fail;go_ret;exact⟨rfl,x⟩
end Go.Proofs.YtpdoienkhgnceaaGreatDoor
