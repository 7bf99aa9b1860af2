/- Texts of the proof. -/
import Derived.Deep.RegionHeld3
import Derived.Deep.DrawnRows
import Derived.Laws.CopyOwn
import Derived.Lib.TrailingZeros
import Derived.Test.YtaoljfdfhggbbaaGreatDoorPcZb
set_option maxRecDepth 100000
set_option maxHeartbeats 8000000
namespace Go.Proofs.YtaoljfdfhggbbaaGreatDoor
open Go.Proofs.Tryz Go.RowKit Lx Vx Mx Msk
namespace Msk
def num (p:Nat->Bool):Nat->Nat
 |0=>0
 |n+1=>num p n+if p n then 2^n else 0
theorem wF (p:Nat->Bool): ∀n,num p n<2^n
 |0=>by simp[num]
 |n+1=>by
  have:=wF p n;simp only[num,Nat.pow_succ];split<;>omega
theorem uq (p:Nat->Bool)(j:Nat): ∀n,(num p n).testBit j=(decide (j<n)&&p j)
 |0=>by simp[num]
 |n+1=>by
  have g:=wF p n;have d:=uq p j n;simp only[num];by_cases b:p n=true
  ·rw[aD b,Nat.add_comm];by_cases a:j<n
   ·rw[Nat.testBit_two_pow_add_gt a,d];have:j<n+1:=(by omega);simp[a,this]
   ·by_cases c:j=n
    ·subst c;rw[Nat.testBit_two_pow_add_eq,d];simp[b]
    ·have e: ¬j<n+1:=(by omega);have f:2^(n+1)<=2^j:=Nat.pow_le_pow_right (by omega) (by omega);rw[Nat.testBit_lt_two_pow (by rw[Nat.pow_succ]at f;omega)];simp[e]
  ·rw[ax b,Nat.add_zero,d];by_cases c:j=n
   ·subst c;simp at b;simp[b]
   ·by_cases a:j<n
    ·have:j<n+1:=(by omega);simp[a,this]
    ·have: ¬j<n+1:=(by omega);simp[a,this]
theorem F0 (p:Nat->Bool)(n x:Nat)(b:x<2^n)(h: ∀j,j<n->x.testBit j=p j):x=num p n:=by
 apply Nat.eq_of_testBit_eq;intro j;rw[uq];by_cases a:j<n
 ·simp[a,h j a]
 ·have:2^n<=2^j:=Nat.pow_le_pow_right (by omega) (by omega);rw[Nat.testBit_lt_two_pow (by omega)];simp[a]
theorem K9 {p q:Nat->Bool}{n:Nat}(h: ∀j,j<n->p j=q j):num p n=num q n:=
 F0 q n _ (wF p n) fun j a=>by rw[uq];simp[a,h j a]
def wd (f:Nat->Bool)(k:Nat):Nat:=num (fun j=>f (64*k+j)) 64
theorem g7 (f:Nat->Bool)(k:Nat):wd f k<18446744073709551616:=wF _ 64
theorem jv (f:Nat->Bool)(k j:Nat):(wd f k).testBit j=(decide (j<64)&&f (64*k+j)):=uq _ j 64
theorem mQ (f:Nat->Bool)(k x:Nat)(a:x<18446744073709551616)(h: ∀j,j<64->x.testBit j=f (64*k+j)):x=wd f k:=
 F0 _ 64 x a h
theorem mR {f g:Nat->Bool}{k:Nat}(h: ∀j,j<64->f (64*k+j)=g (64*k+j)):wd f k=wd g k:=K9 h
theorem MW {f g:Nat->Bool}{k:Nat}(h:wd f k=wd g k)(j:Nat)(b:j<64):f (64*k+j)=g (64*k+j):=by
 have a:=jv f k j;rw[h,jv]at a;simpa[b] using a.symm
theorem F1 (f g:Nat->Bool)(k:Nat):wd f k&&&wd g k=wd (fun i=>f i&&g i) k:=by
 refine mQ _ k _ (show wd f k&&&wd g k<2^64 from Nat.and_lt_two_pow _ (g7 g k)) fun j a=> ?_;rw[Nat.testBit_and,jv,jv];simp[a]
theorem AL (f g:Nat->Bool)(k:Nat):wd f k|||wd g k=wd (fun i=>f i||g i) k:=by
 refine mQ _ k _ (show wd f k|||wd g k<2^64 from Nat.or_lt_two_pow (g7 f k) (g7 g k)) fun j a=> ?_;rw[Nat.testBit_or,jv,jv];simp[a]
theorem F2 (f g:Nat->Bool)(k:Nat):wd f k&&&(18446744073709551616-(wd g k+1))=wd (fun i=>f i&& !g i) k:=by
 refine mQ _ k _ (Nat.lt_of_le_of_lt Nat.and_le_left (g7 f k)) fun j a=> ?_;have e:(18446744073709551616:Nat)=2^64:=by decide
 rw[Nat.testBit_and,e,Nat.testBit_two_pow_sub_succ (g7 g k),jv,jv];simp[a]
theorem Dx (k:Nat):wd (fun _=>false) k=0:=by
 have:(0:Nat)=wd (fun _=>false) k:=mQ _ k 0 (by omega) (by simp);exact this.symm
theorem yr (x r j:Nat)(a:j<64):(x*2^r%18446744073709551616).testBit j=(decide (r<=j)&&x.testBit (j-r)):=by
 have e:(18446744073709551616:Nat)=2^64:=by decide
 rw[e,Nat.testBit_mod_two_pow,Nat.testBit_mul_two_pow];simp[a]
theorem ut (x r j:Nat):(x/2^r).testBit j=x.testBit (j+r):=by
 rw[Nat.testBit_div_two_pow]
theorem AU (n j:Nat):(2^n-1).testBit j=decide (j<n):=by
 rw[Nat.testBit_two_pow_sub_one]
def cnt (f:Nat->Bool):Nat->Nat
 |0=>0
 |n+1=>cnt f n+if f n then 1 else 0
theorem MX (f:Nat->Bool): ∀n,cnt f n<=n
 |0=>by simp[cnt]
 |n+1=>by have:=MX f n;simp only[cnt];split<;>omega
theorem yt {f g:Nat->Bool}: ∀{n:Nat},(∀j,j<n->f j=g j)->cnt f n=cnt g n
 |0,_=>rfl
 |n+1,h=>by
  have:=yt (n:=n) fun j a=>h j (by omega);simp only[cnt,this,h n (by omega)]
theorem yu (f:Nat->Bool)(a:Nat): ∀n,cnt f (a+n)=cnt f a+cnt (fun j=>f (a+j)) n
 |0=>by simp[cnt]
 |n+1=>by
  have:=yu f a n;rw[<-Nat.add_assoc];simp only[cnt,this];omega
theorem F3 {f:Nat->Bool}{n:Nat}(h: ∀j,j<n->f j=false):cnt f n=0:=by
 have e:cnt f n=cnt (fun _=>false) n:=yt h
 have z: ∀n,cnt (fun _=>false) n=0:=by
  intro n;induction n with
  |zero=>rfl
  |succ n a=>simp[cnt,a]
 rw[e,z]
theorem I0 {f:Nat->Bool}{n:Nat}(h: ∀j,j<n->f j=true):cnt f n=n:=by
 have e:cnt f n=cnt (fun _=>true) n:=yt h
 have z: ∀n,cnt (fun _=>true) n=n:=by
  intro n;induction n with
  |zero=>rfl
  |succ n a=>simp[cnt,a]
 rw[e,z]
end Msk
def mv (f:Nat->Bool):Array Value:=Array.ofFn (n:=23) fun k=>Value.int .u64 (wd f k.val:Int)
theorem bO (f:Nat->Bool):(mv f).size=23:=by simp[mv]
theorem qd (f:Nat->Bool)(k:Nat)(a:k<23):(mv f)[k]? =some (.int .u64 (wd f k:Int)):=by
 simp[mv,a]
theorem dQ (f:Nat->Bool):(mv f).all (·.oneCell')=true:=by
 rw[Array.all_eq_true];intro i hi;simp[mv,Value.oneCell']
theorem je {f g:Nat->Bool}(h: ∀i,i<1472->f i=g i):mv f=mv g:=by
 unfold mv;congr 1;funext k;have b:=k.isLt;rw[mR (f:=f) (g:=g) fun j a=>h _ (by omega)]
theorem AV (f g:Nat->Bool)(k:Nat)(b:k<23):(mv f).setIfInBounds k (.int .u64 (wd g k:Int))=mv (fun i=>if i/64=k then g i else f i):=by
 apply Array.ext_getElem?;intro i;rw[Array.getElem?_setIfInBounds];by_cases hi:k=i
 ·subst hi;rw[aD rfl,aD (by rw[bO];exact b),qd _ k b];rw[mR (f:=g) (g:=fun i=>if i/64=k then g i else f i) fun j c=>by rw[aD (by omega)]]
 ·rw[ax hi];by_cases a:i<23
  ·rw[qd _ i a,qd _ i a];rw[mR (f:=f) (g:=fun i=>if i/64=k then g i else f i) fun j c=>by rw[ax (by omega)]]
  ·rw[Array.getElem?_eq_none (by rw[bO];omega),Array.getElem?_eq_none (by rw[bO];omega)]
theorem La:mv (fun _=>false)=Array.replicate 23 (.int .u64 0):=by
 apply Array.ext_getElem?;intro i;by_cases a:i<23
 ·rw[qd _ i a,Dx];simp[a]
 ·rw[Array.getElem?_eq_none (by rw[bO];omega)];simp[a]
theorem eI:(#[.int .u64 0, .int .u64 0, .int .u64 0, .int .u64 0, .int .u64 0, .int .u64 0, .int .u64 0, .int .u64 0, .int .u64 0, .int .u64 0, .int .u64 0, .int .u64 0, .int .u64 0, .int .u64 0, .int .u64 0, .int .u64 0, .int .u64 0, .int .u64 0, .int .u64 0, .int .u64 0, .int .u64 0, .int .u64 0, .int .u64 0]:Array Value)=mv (fun _=>false):=by rw[La];rfl
theorem Em (a b:Nat)(ha:a<18446744073709551616)(f:b<18446744073709551616):
  bits .andNot .u64 (a:Int) (b:Int)=((a&&&(18446744073709551616-(b+1)):Nat):Int):=by
 have c:(BitVec.ofInt 64 (a:Int)).toNat=a:=by
  rw[BitVec.ofInt_natCast,BitVec.toNat_ofNat];exact Nat.mod_eq_of_lt (by omega)
 have d:(BitVec.ofInt 64 (b:Int)).toNat=b:=by
  rw[BitVec.ofInt_natCast,BitVec.toNat_ofNat];exact Nat.mod_eq_of_lt (by omega)
 have g:a&&&(18446744073709551616-(b+1))<=a:=Nat.and_le_left;show IntKind.u64.wrap ((BitVec.ofInt 64 (a:Int)&&& ~~~BitVec.ofInt 64 (b:Int)).toNat:Int)=_;have e:(2:Nat)^64-1-b=18446744073709551616-(b+1):=by omega
 rw[BitVec.toNat_and,BitVec.toNat_not,c,d,gS,e];omega
theorem F4:(4294967295:Nat)=wd (fun i=>decide (i<1440)) 22:=by
 refine mQ _ 22 _ (by omega) fun j a=> ?_;have e:(4294967295:Nat)=2^32-1:=by decide
 rw[e,AU];have:(j<32)=(64*22+j<1440):=by apply propext;omega
 simp only[this]
theorem Lb (f:Nat->Bool):(mv f).setIfInBounds 22 (.int .u64 (bits .and .u64 (wd f 22:Int) 4294967295))=mv fun i=>f i&&decide (i<1440):=by
 have e:bits .and .u64 (wd f 22:Int) 4294967295=((wd (fun i=>f i&&decide (i<1440)) 22:Nat):Int):=by
  have:=bits_and_u64_nat (wd f 22) 4294967295 (g7 f 22) (by omega);rw[<-F1 f (fun i=>decide (i<1440)) 22,<-F4];exact this
 rw[e,AV _ _ 22 (by omega)];refine je fun i hi=> ?_;by_cases h:i/64=22
 ·rw[aD h]
 ·rw[ax h];have:i<1440:=(by omega);simp[this]
theorem kW {w:World}{g:Nat}{f:Nat->Bool}{t:TypeId}(a:w.heap[g]? =ah (mv f) t)(k:Nat)(b:k<23):w.cell? (ae g k)=some (.int .u64 (wd f k:Int)):=by
 rw[aZ w g k _ t (0,0) a,qd f k b]
theorem ti (w:World)(a:Addr)(v:Value)(p:Addr)(h:p.block≠a.block):(w.setCell a v).drew.cell? p=w.cell? p:=
 ef (w:=w) (Below.heap_setCell w a v p.block h)
theorem AX (h:Nat->Bool):mv (fun _=>false)=mv (fun i=>decide (i<64*0)&&h i):=je fun i _=>by simp
theorem uu (k:Nat)(a:k<23)(h:Nat->Bool):(mv fun i=>decide (i<64*k)&&h i).setIfInBounds k (.int .u64 (wd h k:Int))=mv fun i=>decide (i<64*(k+1))&&h i:=by
 rw[AV _ _ k a];refine je fun i hi=> ?_;by_cases h:i/64=k
 ·have:i<64*(k+1):=by omega
  simp[h,this]
 ·have:(i<64*k)=(i<64*(k+1)):=by apply propext;omega
  simp only[h,if_false,this]
theorem Dy (h:Nat->Bool):(mv fun i=>decide (i<64*23)&&h i)=mv h:=je fun i hi=>by
 have:i<64*23:=by omega
 simp[this]
theorem iR {w:World}{g:Nat}{c a:Array Value}{t:TypeId}(b:w.heap[g]? =ah c t)(e:c=a):w.heap[g]? =ah a t:=by rw[b,e]
theorem aU (w:World)(o:Obj):(w.alloc o).heap.size=w.heap.size+1:=by show(w.heap.push o).size=_;simp
theorem dC (w:World)(o:Obj)(k:Nat)(h:k=w.heap.size):(w.alloc o).heap[k]? =some o:=by subst h;exact aE w o
theorem dl (w:World)(o:Obj)(k:Nat)(h:k<w.heap.size){x:Obj}(a:w.heap[k]? =some x):(w.alloc o).heap[k]? =some x:=(dL w o k h).trans a
theorem bh (f:Nat->Bool):(prog.info? 84).map (·.size)=some (mv f).size:=by rw[bO];kernel_rfl
theorem bV:prog.underlying 84=some (.array 23 82):=by kernel_rfl
section
theorem vF (f:Nat->Bool)(w:World):
  Calls prog 104 #[.agg (mv f)] w fun e w'=>e= .returned (.agg (mv fun i=>f i&&decide (i<1440)))/\aq w w':=by
 have b:=qd f 22 (by omega);have a:=Lb f;have c:=eI;go_enter func104,ntmps104
 go_wp2_with(first
  |(refine aR rfl 84 _ rfl _ rfl _ _ _ _ (heap_alloc2_old _ _ _) bV rfl (bh _) ?_)
  |(refine ay rfl 84 _ _ rfl _ _ rfl rfl _ _ (heap_alloc2_new _ _ _) (bh _) (by simp[bO]) (dQ _) ?_))
 refine aW (v:= .agg (mv fun i=>f i&&decide (i<1440))) ?_ rfl ⟨rfl,?_⟩
 ·exact bc rfl _ _ (w.heap.size+1) _ _ _ _ rfl (aL _ _ _ _ _ _ (heap_alloc2_new _ _ _)) bV rfl (bh _)
 ·exact below_setRow ((am _ _).alloc (by simp) _) (by omega) _
attribute [local go_sem↓] Go.wp_at_zero Go.wp_at_succ
theorem rq (K:Nat)(o:Bool->Bool->Bool)(t: ∀(f g:Nat->Bool) (k:Nat) (w:World),Calls prog K #[.int .u64 (wd f k:Int),.int .u64 (wd g k:Int)] w fun e w'=>e= .returned (.int .u64 (wd (fun i=>o (f i) (g i)) k:Int))/\w'=w)
  (B: ∀d w,(callFunc K d).run prog w= .ok (.enter K d) w) (a b:Nat->Bool) (w:World):
  Calls prog 78 #[.agg (mv a),.agg (mv b),.func (.func K) #[] #[]] w fun e w'=>e= .returned (.agg (mv fun i=>o (a i) (b i)&&decide (i<1440)))/\aq w w':=by
 have E:=eI;go_enter func78,ntmps78;go_wp2
 go_loopw [9] (fun i wr=> ∃k:Nat,k<=23/\i=ag k/\wr.heap[w.heap.size]? =ah (mv a) 84/\wr.heap[w.heap.size+1]? =ah (mv b) 84/\wr.heap[w.heap.size+1+1]? =ah (mv fun _=>false) 84/\
  wr.heap[w.heap.size+1+1+1]? =ah (mv fun i=>decide (i<64*k)&&o (a i) (b i)) 84/\aq w wr) (fun i _=>23-(intOf i).toNat)
 case atStart=>
  refine⟨0,by omega,rfl,?_,?_,?_,?_,?_⟩
  ·(repeat (first|refine dl _ _ _ (by simp only[aU];omega) ?_|exact dC _ _ _ (by first|rfl|simp only[aU])))
  ·(repeat (first|refine dl _ _ _ (by simp only[aU];omega) ?_|exact dC _ _ _ (by first|rfl|simp only[aU])))
  ·(repeat (first|refine dl _ _ _ (by simp only[aU];omega) ?_|exact dC _ _ _ (by first|rfl|simp only[aU])))
  ·refine iR ?_ (AX _);(repeat (first|refine dl _ _ _ (by simp only[aU];omega) ?_|exact dC _ _ _ (by first|rfl|simp only[aU])))
  ·exact(((am _ _).alloc (by simp) _).alloc (by simp;omega) _).alloc (by simp;omega) _
 case round=>
  obtain⟨k,D,rfl,ha,s,q,n,j⟩:=hrel;by_cases c:k<23
  ·have y:=kW ha k c;have z:=kW s k c;have A:=kW n k c;have C:=bl _ _ k _ _ n;have u:(0:Int)<=(k:Int):=(by omega);have x:(k:Int)<23:=(by omega);have F:w.heap.size+1+1+1≠w.heap.size:=(by omega);have G:w.heap.size+1+1≠w.heap.size:=(by omega);go_wp2
   go_region_held3 (fun w'=>w'.cell? (ae w.heap.size k)=some (.int .u64 (wd a k:Int))/\w'.cell? (ae (w.heap.size+1) k)=some (.int .u64 (wd b k:Int)))
    (go_keep)
    ((refine(t a b k _).mono ?_;rintro e w' ⟨rfl,rfl⟩))
   go_wp2;go_roundw
   case rel=>
    refine⟨k+1,by omega,by go_num,?_,?_,?_,?_,?_⟩
    ·exact(aO _ _ _ _ (by dsimp only;omega)).trans ha
    ·exact(aO _ _ _ _ (by dsimp only;omega)).trans s
    ·exact(aO _ _ _ _ (by dsimp only;omega)).trans q
    ·exact iR (aY _ _ _ _ _ _ n) (uu k c fun i=>o (a i) (b i))
    ·exact(j.setCell (by dsimp only;omega) _).drew
   case measure=>simp[intOf];omega
  ·have m:k=23:=(by omega);subst m;have p:=iR n (Dy fun i=>o (a i) (b i));clear n
   go_wp2_with(first
    |(refine aR rfl 84 _ rfl _ rfl _ _ _ _ p bV rfl (bh _) ?_)
    |(go_at_call 104;refine(vF _ _).mono ?_;rintro e w' ⟨rfl,l⟩;have r:=(l.block (w.heap.size+1+1) (aH q)).trans q)
    |(refine ay rfl 84 _ _ rfl _ _ rfl rfl _ _ (by assumption) (bh _) (by simp[bO]) (dQ _) ?_))
   refine aW (v:= .agg (mv fun i=>o (a i) (b i)&&decide (i<1440))) ?_ rfl ⟨rfl,?_⟩
   ·exact bc rfl _ _ (w.heap.size+1+1) _ _ _ _ rfl (aL _ _ _ _ _ _ r) bV rfl (bh _)
   ·exact below_setRow (aw j l) (by omega) _
theorem MY (f g:Nat->Bool)(k:Nat)(w:World):Calls prog 207 #[.int .u64 (wd f k:Int),.int .u64 (wd g k:Int)] w fun e w'=>e= .returned (.int .u64 (wd (fun i=>f i||g i) k:Int))/\w'=w:=by
 have a:=bits_or_u64_nat _ _ (g7 f k) (g7 g k);rw[AL]at a;go_enter func207,ntmps207;go_wp2;go_ret;exact⟨rfl,rfl⟩
theorem Lc (f g:Nat->Bool)(k:Nat)(w:World):Calls prog 208 #[.int .u64 (wd f k:Int),.int .u64 (wd g k:Int)] w fun e w'=>e= .returned (.int .u64 (wd (fun i=>f i&&g i) k:Int))/\w'=w:=by
 have a:=bits_and_u64_nat _ _ (g7 f k) (g7 g k);rw[F1]at a;go_enter func208,ntmps208;go_wp2;go_ret;exact⟨rfl,rfl⟩
theorem Ld (f g:Nat->Bool)(k:Nat)(w:World):Calls prog 79 #[.int .u64 (wd f k:Int),.int .u64 (wd g k:Int)] w fun e w'=>e= .returned (.int .u64 (wd (fun i=>f i&& !g i) k:Int))/\w'=w:=by
 have a:=Em _ _ (g7 f k) (g7 g k);rw[F2]at a;go_enter func79,ntmps79;go_wp2;go_ret;exact⟨rfl,rfl⟩
theorem ze (a b:Nat->Bool)(w:World):
  Calls prog 185 #[.agg (mv a),.agg (mv b)] w fun e w'=>e= .returned (.agg (mv fun i=>(a i||b i)&&decide (i<1440)))/\aq w w':=by
 have l:=eI;have g:(((w.alloc (.cells (mv a) 84)).alloc (.cells (mv b) 84)).alloc (.cells (mv fun _=>false) 84)).heap[w.heap.size]? =ah (mv a) 84:=by(repeat (first|refine dl _ _ _ (by simp only[aU];omega) ?_|exact dC _ _ _ (by first|rfl|simp only[aU])))
 have j:(((w.alloc (.cells (mv a) 84)).alloc (.cells (mv b) 84)).alloc (.cells (mv fun _=>false) 84)).heap[w.heap.size+1]? =ah (mv b) 84:=by(repeat (first|refine dl _ _ _ (by simp only[aU];omega) ?_|exact dC _ _ _ (by first|rfl|simp only[aU])))
 have k:(((w.alloc (.cells (mv a) 84)).alloc (.cells (mv b) 84)).alloc (.cells (mv fun _=>false) 84)).heap[w.heap.size+1+1]? =ah (mv fun _=>false) 84:=by(repeat (first|refine dl _ _ _ (by simp only[aU];omega) ?_|exact dC _ _ _ (by first|rfl|simp only[aU])))
 have d:aq w (((w.alloc (.cells (mv a) 84)).alloc (.cells (mv b) 84)).alloc (.cells (mv fun _=>false) 84)):=((am _ _).alloc (by simp) _).alloc (by simp only[aU];omega) _;go_enter func185,ntmps185
 go_wp2_with(first
  |(refine aR rfl 84 _ rfl _ rfl _ _ _ _ g bV rfl (bh _) ?_)
  |(refine aR rfl 84 _ rfl _ rfl _ _ _ _ j bV rfl (bh _) ?_)
  |(go_at_call 78;refine(rq 207 (fun x y=>x||y) MY (fun _ _=>by simp[go_sem]) a b _).mono ?_;rintro e w' ⟨rfl,c⟩;have f:=ai c k)
  |(refine ay rfl 84 _ _ rfl _ _ rfl rfl _ _ (by assumption) (bh _) (by simp[bO]) (dQ _) ?_))
 refine aW (v:= .agg (mv fun i=>(a i||b i)&&decide (i<1440))) ?_ rfl ⟨rfl,?_⟩
 ·exact bc rfl _ _ (w.heap.size+1+1) _ _ _ _ rfl (aL _ _ _ _ _ _ f) bV rfl (bh _)
 ·exact below_setRow (aw d c) (by omega) _
theorem qe (a b:Nat->Bool)(w:World):
  Calls prog 53 #[.agg (mv a),.agg (mv b)] w fun e w'=>e= .returned (.agg (mv fun i=>(a i&& !b i)&&decide (i<1440)))/\aq w w':=by
 have l:=eI;have g:(((w.alloc (.cells (mv a) 84)).alloc (.cells (mv b) 84)).alloc (.cells (mv fun _=>false) 84)).heap[w.heap.size]? =ah (mv a) 84:=by(repeat (first|refine dl _ _ _ (by simp only[aU];omega) ?_|exact dC _ _ _ (by first|rfl|simp only[aU])))
 have j:(((w.alloc (.cells (mv a) 84)).alloc (.cells (mv b) 84)).alloc (.cells (mv fun _=>false) 84)).heap[w.heap.size+1]? =ah (mv b) 84:=by(repeat (first|refine dl _ _ _ (by simp only[aU];omega) ?_|exact dC _ _ _ (by first|rfl|simp only[aU])))
 have k:(((w.alloc (.cells (mv a) 84)).alloc (.cells (mv b) 84)).alloc (.cells (mv fun _=>false) 84)).heap[w.heap.size+1+1]? =ah (mv fun _=>false) 84:=by(repeat (first|refine dl _ _ _ (by simp only[aU];omega) ?_|exact dC _ _ _ (by first|rfl|simp only[aU])))
 have d:aq w (((w.alloc (.cells (mv a) 84)).alloc (.cells (mv b) 84)).alloc (.cells (mv fun _=>false) 84)):=((am _ _).alloc (by simp) _).alloc (by simp only[aU];omega) _;go_enter func53,ntmps53
 go_wp2_with(first
  |(refine aR rfl 84 _ rfl _ rfl _ _ _ _ g bV rfl (bh _) ?_)
  |(refine aR rfl 84 _ rfl _ rfl _ _ _ _ j bV rfl (bh _) ?_)
  |(go_at_call 78;refine(rq 79 (fun x y=>x&& !y) Ld (fun _ _=>by simp[go_sem]) a b _).mono ?_;rintro e w' ⟨rfl,c⟩;have f:=ai c k)
  |(refine ay rfl 84 _ _ rfl _ _ rfl rfl _ _ (by assumption) (bh _) (by simp[bO]) (dQ _) ?_))
 refine aW (v:= .agg (mv fun i=>(a i&& !b i)&&decide (i<1440))) ?_ rfl ⟨rfl,?_⟩
 ·exact bc rfl _ _ (w.heap.size+1+1) _ _ _ _ rfl (aL _ _ _ _ _ _ f) bV rfl (bh _)
 ·exact below_setRow (aw d c) (by omega) _
theorem AY (a b:Nat->Bool)(w:World):
  Calls prog 186 #[.agg (mv a),.agg (mv b)] w fun e w'=>e= .returned (.agg (mv fun i=>(a i&&b i)&&decide (i<1440)))/\aq w w':=by
 have l:=eI;have g:(((w.alloc (.cells (mv a) 84)).alloc (.cells (mv b) 84)).alloc (.cells (mv fun _=>false) 84)).heap[w.heap.size]? =ah (mv a) 84:=by(repeat (first|refine dl _ _ _ (by simp only[aU];omega) ?_|exact dC _ _ _ (by first|rfl|simp only[aU])))
 have j:(((w.alloc (.cells (mv a) 84)).alloc (.cells (mv b) 84)).alloc (.cells (mv fun _=>false) 84)).heap[w.heap.size+1]? =ah (mv b) 84:=by(repeat (first|refine dl _ _ _ (by simp only[aU];omega) ?_|exact dC _ _ _ (by first|rfl|simp only[aU])))
 have k:(((w.alloc (.cells (mv a) 84)).alloc (.cells (mv b) 84)).alloc (.cells (mv fun _=>false) 84)).heap[w.heap.size+1+1]? =ah (mv fun _=>false) 84:=by(repeat (first|refine dl _ _ _ (by simp only[aU];omega) ?_|exact dC _ _ _ (by first|rfl|simp only[aU])))
 have d:aq w (((w.alloc (.cells (mv a) 84)).alloc (.cells (mv b) 84)).alloc (.cells (mv fun _=>false) 84)):=((am _ _).alloc (by simp) _).alloc (by simp only[aU];omega) _;go_enter func186,ntmps186
 go_wp2_with(first
  |(refine aR rfl 84 _ rfl _ rfl _ _ _ _ g bV rfl (bh _) ?_)
  |(refine aR rfl 84 _ rfl _ rfl _ _ _ _ j bV rfl (bh _) ?_)
  |(go_at_call 78;refine(rq 208 (fun x y=>x&&y) Lc (fun _ _=>by simp[go_sem]) a b _).mono ?_;rintro e w' ⟨rfl,c⟩;have f:=ai c k)
  |(refine ay rfl 84 _ _ rfl _ _ rfl rfl _ _ (by assumption) (bh _) (by simp[bO]) (dQ _) ?_))
 refine aW (v:= .agg (mv fun i=>(a i&&b i)&&decide (i<1440))) ?_ rfl ⟨rfl,?_⟩
 ·exact bc rfl _ _ (w.heap.size+1+1) _ _ _ _ rfl (aL _ _ _ _ _ _ f) bV rfl (bh _)
 ·exact below_setRow (aw d c) (by omega) _
end
theorem rJ {v a:Value}(h:v=a):Ending.returned v= .returned a:=by rw[h]
theorem tj {k:IntKind}{a b:Int}(h:a=b):Value.int k a= .int k b:=by rw[h]
theorem I1 (n:Nat)(c:n<=64):IntKind.u64.wrap (IntKind.u64.wrap (2^n)-1)=((2^n-1:Nat):Int):=by
 rw[gS,gS];have d:(1:Nat)<=2^n:=Nat.two_pow_pos n;have a:((2:Int)^n)=((2^n:Nat):Int):=by simp
 rw[a];by_cases h:n=64
 ·subst h;decide
 ·have b:2^n<=2^63:=Nat.pow_le_pow_right (by omega) (by omega);generalize 2^n=p at*;omega
theorem I2 (n:Nat)(a:n<=64)(w:World):Calls prog 106 #[ag n] w fun e w'=>e= .returned (.int .u64 ((2^n-1:Nat):Int))/\w'=w:=by
 go_enter func106,ntmps106;go_wp2;go_ret;exact⟨rJ (tj (I1 n a)),rfl⟩
theorem yv (d:Int)(a:0<=d)(b:d<=64)(w:World):Calls prog 106 #[ag d] w fun e w'=>e= .returned (.int .u64 ((2^d.toNat-1:Nat):Int))/\w'=w:=by
 have:=I2 d.toNat (by omega) w;rw[Int.toNat_of_nonneg a]at this;exact this
theorem vj (n:Nat)(a:n<=1440)(w:World):Calls prog 105 #[ag n] w fun e w'=>e= .returned (ag ((64*(n/64)+64:Nat):Int))/\w'=w:=by
 go_enter func105,ntmps105;go_wp2;go_ret;exact⟨rJ (tj (by omega)),rfl⟩
def Tab (w:World):Prop:= ∀j,j<64->w.cell? (ae 1 j)=some (.int .u8 ((Lib.deBruijn64tab.getD j 0:Nat):Int))
theorem Tab.later {w w':World}(h:Tab w)(b:aq w w'):Tab w':=fun j a=>(b.cell (bP (h j a))).trans (h j a)
theorem MZ (x a:Nat)(d:x<18446744073709551616)(e:x≠0)(b:x&&&(18446744073709551616-x)=a):
  IntKind.u64.wrap (bits BinOp.and IntKind.u64 (x:Int) (IntKind.u64.wrap (-(x:Int)))*285870213051353865)/288230376151711744=((a*285870213051353865%18446744073709551616/288230376151711744:Nat):Int):=by
 have c:IntKind.u64.wrap (-(x:Int))=((18446744073709551616-x:Nat):Int):=by rw[gS];omega
 rw[c,bits_and_u64_nat x _ d (by omega),b,gS];omega
theorem Le (x k a:Nat)(w:World)(d:((x:Int)==0)=false)
  (c:IntKind.u64.wrap (bits BinOp.and IntKind.u64 (x:Int) (IntKind.u64.wrap (-(x:Int)))*285870213051353865)/288230376151711744=(a:Int))
  (hi:a<64) (f:k<64) (b:w.cell? (ae 1 a)=some (.int .u8 k)):
  Calls prog 178 #[.int .u64 x] w fun e w'=>e= .returned (ag k)/\w'=w:=by
 go_enter func178,ntmps178;go_wp2_with(simp only[c])
 go_ret;exact⟨rfl,rfl⟩
theorem M1 (x:Nat)(i:x<18446744073709551616)(d:x≠0)(w:World)(n:Tab w):
  ∃k:Nat,k<64/\x.testBit k=true/\(∀j,j<k->x.testBit j=false)/\Calls prog 178 #[.int .u64 x] w fun e w'=>e= .returned (ag k)/\w'=w:=by
 obtain⟨b,g⟩:=Lib.lowest_bit 64 x d i;obtain⟨hi,c⟩:=Lib.deBruijn64_at _ g;have a:=n _ hi;rw[c]at a
 have l: ∀j,j<=Lib.ctz 64 x->x.testBit j=decide (j=Lib.ctz 64 x):=by
  obtain⟨m,q,p⟩:=Lib.ctzFrom_spec 64 x (by omega) i;have e:Lib.ctz 64 x=Lib.ctzFrom 64 x:=(by simp[Lib.ctz,d]);rw[e];clear a c hi b g e;generalize Lib.ctzFrom 64 x=k at*;intro j o;rw[q,Nat.mul_comm,Nat.testBit_mul_two_pow];by_cases f:j=k
  ·subst f;simp
  ·have: ¬k<=j:=(by omega);simp[this,f]
 exact⟨_,g,by rw[l _ (aB _)];simp,fun j o=>by rw[l _ (by omega)];simp;omega,Le x _ _ w (by simp;omega) (MZ x _ i d b) hi g a⟩
theorem M2 (f:Nat->Bool)(a i q r:Nat)(l:q=a/64)(m:r=a%64)(hi:q<=i):
  IntKind.u64.wrap ((wd f (i-q):Int)*2^r)=((wd (fun t=>decide (a<=t)&&decide (64*(i-q)<=t-a)&&f (t-a)) i:Nat):Int):=by
 have g:wd (fun t=>decide (a<=t)&&decide (64*(i-q)<=t-a)&&f (t-a)) i=wd f (i-q)*2^r%18446744073709551616:=by
  symm;refine mQ _ _ _ (Nat.mod_lt _ (by omega)) fun j k=> ?_;rw[yr _ _ j k,jv];by_cases h:r<=j
  ·have b:a<=64*i+j:=(by omega);have c:64*(i-q)<=64*i+j-a:=(by omega);have d:64*(i-q)+(j-r)=64*i+j-a:=(by omega);have e:j-r<64:=(by omega);simp[h,b,c,d,e]
  ·by_cases b:a<=64*i+j
   ·have c: ¬64*(i-q)<=64*i+j-a:=(by omega);simp[h,c]
   ·simp[h,b]
 rw[gS,g];have:((2:Int)^r)=((2^r:Nat):Int):=by simp
 rw[this];omega
theorem M4 (f:Nat->Bool)(a i q r:Nat)(k:q=a/64)(l:r=a%64)(hi:q<i):
  ((wd (fun t=>decide (a<=t)&&decide (64*(i-q)<=t-a)&&f (t-a)) i|||wd f (i-q-1)/2^(64-r):Nat))=wd (fun t=>decide (a<=t)&&f (t-a)) i:=by
 have m:=g7 f (i-q-1);have n:wd f (i-q-1)/2^(64-r)<=wd f (i-q-1):=Nat.div_le_self _ _;refine mQ _ _ _ (show _<2^64 from Nat.or_lt_two_pow (g7 _ _) (by omega)) fun j e=> ?_;rw[Nat.testBit_or,jv,ut,jv];have d:a<=64*i+j:=by omega
 by_cases h:r<=j
 ·have b:64*(i-q)<=64*i+j-a:=by omega
  have c: ¬j+(64-r)<64:=(by omega);simp[e,d,b,c]
 ·have b: ¬64*(i-q)<=64*i+j-a:=by omega
  have g:64*(i-q-1)+(j+(64-r))=64*i+j-a:=(by omega);have c:j+(64-r)<64:=(by omega);simp[e,d,b,g,c]
theorem I3 (f:Nat->Bool)(a i q r:Nat)(e:q=a/64)(g:r=a%64)(hi:q<=i):
  wd f i/2^r=wd (fun t=>decide (t+a<64*(i+1))&&f (t+a)) (i-q):=by
 have l:wd f i/2^r<=wd f i:=Nat.div_le_self _ _;have k:=g7 f i;refine mQ _ _ _ (by omega) fun j d=> ?_;rw[ut,jv];by_cases h:j+r<64
 ·have b:64*(i-q)+j+a<64*(i+1):=by omega
  have c:64*i+(j+r)=64*(i-q)+j+a:=(by omega);simp[h,b,c]
 ·have b: ¬64*(i-q)+j+a<64*(i+1):=by omega
  simp[h,b]
theorem I4 (f:Nat->Bool)(a i q r:Nat)(l:q=a/64)(m:r=a%64)(hi:q<=i):
  bits .or .u64 (wd (fun t=>decide (t+a<64*(i+1))&&f (t+a)) (i-q):Int) (IntKind.u64.wrap ((wd f (i+1):Int)*2^(64-r)))=((wd (fun t=>f (t+a)) (i-q):Nat):Int):=by
 have e:IntKind.u64.wrap ((wd f (i+1):Int)*2^(64-r))=((wd (fun t=> !decide (t+a<64*(i+1))&&f (t+a)) (i-q):Nat):Int):=by
  have e2:wd (fun t=> !decide (t+a<64*(i+1))&&f (t+a)) (i-q)=wd f (i+1)*2^(64-r)%18446744073709551616:=by
   symm;refine mQ _ _ _ (Nat.mod_lt _ (by omega)) fun j k=> ?_;rw[yr _ _ j k,jv];by_cases h:64-r<=j
   ·have b: ¬64*(i-q)+j+a<64*(i+1):=(by omega);have c:64*(i+1)+(j-(64-r))=64*(i-q)+j+a:=(by omega);have d:j-(64-r)<64:=(by omega);simp[h,b,c,d]
   ·have b:64*(i-q)+j+a<64*(i+1):=(by omega);simp[h,b]
  rw[gS,e2];have:((2:Int)^(64-r))=((2^(64-r):Nat):Int):=(by simp);rw[this];omega
 rw[e,bits_or_u64_nat _ _ (g7 _ _) (g7 _ _),AL]
 have g:wd (fun t=>(decide (t+a<64*(i+1))&&f (t+a))||(!decide (t+a<64*(i+1))&&f (t+a))) (i-q)=wd (fun t=>f (t+a)) (i-q):=mR fun j _=>by
  cases decide (64*(i-q)+j+a<64*(i+1))<;>simp
 rw[g]
theorem Dz (f:Nat->Bool)(b i q r d:Nat)(a:q=b/64)(c:r=b%64)(g:i=q+d):
  IntKind.u64.wrap ((wd f d:Int)*2^r)=((wd (fun t=>decide (b<=t)&&decide (64*d<=t-b)&&f (t-b)) i:Nat):Int):=by
 have:=M2 f b i q r a c (by omega);have e:i-q=d:=by omega
 rw[e]at this;exact this
theorem Lf (f:Nat->Bool)(b q r:Nat)(c:q=b/64)(d:r=b%64):
  IntKind.u64.wrap ((wd f 0:Int)*2^r)=((wd (fun t=>decide (b<=t)&&f (t-b)) q:Nat):Int):=by
 rw[Dz f b q q r 0 c d rfl];have a:wd (fun t=>decide (b<=t)&&decide (64*0<=t-b)&&f (t-b)) q=wd (fun t=>decide (b<=t)&&f (t-b)) q:=mR fun j _=>by simp
 rw[a]
theorem Lg (f:Nat->Bool)(b i q r d:Nat)(a:q=b/64)(c:r=b%64)(g:i=q+(d+1)):
  bits .or .u64 (wd (fun t=>decide (b<=t)&&decide (64*(d+1)<=t-b)&&f (t-b)) i:Int) ((wd f d:Int)/2^(64-r))=((wd (fun t=>decide (b<=t)&&f (t-b)) i:Nat):Int):=by
 have:=M4 f b i q r a c (by omega);have e:i-q=d+1:=by omega
 rw[e]at this;have e2:((wd f d:Int)/2^(64-r))=((wd f d/2^(64-r):Nat):Int):=by simp
 have k:wd f d/2^(64-r)<=wd f d:=Nat.div_le_self _ _;have j:=g7 f d;rw[e2,bits_or_u64_nat _ _ (g7 _ _) (by omega)];exact congrArg _ this
theorem zf (f:Nat->Bool)(b i q r d:Nat)(a:q=b/64)(c:r=b%64)(g:i=q+d):
  (wd f i:Int)/2^r=((wd (fun t=>decide (t+b<64*(i+1))&&f (t+b)) d:Nat):Int):=by
 have:=I3 f b i q r a c (by omega);have e:i-q=d:=by omega
 rw[e]at this;rw[<-this];simp
theorem F5 (f:Nat->Bool)(b i q r d:Nat)(c:q=b/64)(g:r=b%64)(k:i=q+d)(hi:i<22):
  bits .or .u64 (wd (fun t=>decide (t+b<64*(i+1))&&f (t+b)) d:Int) (IntKind.u64.wrap ((wd f (i+1):Int)*2^(64-r)))=((wd (fun t=>decide (t+b<1472)&&f (t+b)) d:Nat):Int):=by
 have:=I4 f b i q r c g (by omega);have e:i-q=d:=by omega
 rw[e]at this;rw[this]
 have a:wd (fun t=>f (t+b)) d=wd (fun t=>decide (t+b<1472)&&f (t+b)) d:=mR fun j _=>by
  have:64*d+j+b<1472:=(by omega);simp[this]
 rw[a]
theorem AZ (k:Nat)(a:k<23)(h:Nat->Bool)(v:Value):((mv fun i=>decide (i<64*k)&&h i).setIfInBounds k v).setIfInBounds k (.int .u64 (wd h k:Int))=mv fun i=>decide (i<64*(k+1))&&h i:=by
 rw[Array.setIfInBounds_setIfInBounds];exact uu k a h
theorem I5 (f:Nat->Bool)(b q:Nat)(a:q=b/64):mv (fun _=>false)=mv (fun t=>decide (t<64*q)&&(decide (b<=t)&&f (t-b))):=je fun t _=>by
 by_cases h:t<64*q
 ·have: ¬b<=t:=by omega
  simp[this]
 ·simp[h]
theorem F6 (f:Nat->Bool)(b:Nat)(X:b<1440)(w:World):
  Calls prog 210 #[.agg (mv f),ag b] w fun e w'=>e= .returned (.agg (mv fun t=>decide (b<=t)&&f (t-b)))/\aq w w':=by
 have Z:=eI;obtain⟨q,E⟩: ∃q:Nat,q=b/64:=⟨_,rfl⟩
 obtain⟨r,G⟩: ∃r:Nat,r=b%64:=⟨_,rfl⟩
 have s:PN (q=b/64):=E;have y:PN (r=b%64):=G;have t1:(b:Int)/64=(q:Int):=by omega
 have t2:(b:Int)%64=(r:Int):=by omega
 have F:q<23:=by omega
 have H:r<64:=by omega
 clear E G;go_enter func210,ntmps210;go_wp2
 go_loopw [8] (fun i wr=> ∃k d:Nat,k<=23/\k=q+d/\i=ag k/\wr.heap[w.heap.size]? =ah (mv f) 84/\wr.heap[w.heap.size+1]? =ah (mv fun _=>false) 84/\
  wr.heap[w.heap.size+1+1]? =ah (mv fun t=>decide (t<64*k)&&(decide (b<=t)&&f (t-b))) 84/\aq w wr) (fun i _=>23-(intOf i).toNat)
 case atStart=>
  refine⟨q,0,by omega,rfl,rfl,?_,?_,?_,?_⟩
  ·(repeat (first|refine dl _ _ _ (by simp only[aU];omega) ?_|exact dC _ _ _ (by first|rfl|simp only[aU])))
  ·(repeat (first|refine dl _ _ _ (by simp only[aU];omega) ?_|exact dC _ _ _ (by first|rfl|simp only[aU])))
  ·refine iR ?_ (I5 f b q s.o);(repeat (first|refine dl _ _ _ (by simp only[aU];omega) ?_|exact dC _ _ _ (by first|rfl|simp only[aU])))
  ·exact((am _ _).alloc (by simp) _).alloc (by simp only[aU];omega) _
 case round=>
  obtain⟨k,d,Y,a,rfl,ha,u,n,g⟩:=hrel;have C:PN (k=q+d):=a;by_cases j:k<23
  ·have O:=kW ha d (by omega);have P:=kW n k j;have V:=bl _ _ k _ _ n;have Q:(k:Int)-(q:Int)=(d:Int):=(by omega);have L:(0:Int)<=(d:Int):=(by omega);have M:(d:Int)<23:=(by omega);by_cases z:d=0
   ·subst z;have I:=Lf f b q r s.o y.o;have A:k=q:=a;subst A;clear a;go_wp2;go_roundw
    case rel=>
     refine⟨k+1,1,by omega,rfl,by go_num,?_,?_,?_,g.setCell (by dsimp only;omega) _⟩
     ·exact(aO _ _ _ _ (by dsimp only;omega)).trans ha
     ·exact(aO _ _ _ _ (by dsimp only;omega)).trans u
     ·exact iR (aY _ _ _ _ _ _ n) (uu k j fun t=>decide (b<=t)&&f (t-b))
    case measure=>simp[intOf];omega
   ·obtain⟨c,D⟩: ∃c,d=c+1:=⟨d-1,by omega⟩
    have I:=Dz f b k q r d s.o y.o a;have J:=Lg f b k q r c s.o y.o (by omega);rw[<-D]at J;have e2:(d:Int)-1=(c:Int):=(by omega);have R:IntKind.i64.wrap ((k:Int)-(q:Int))=(d:Int):=(by rw[bz];omega);have S:IntKind.i64.wrap ((d:Int)-1)=(c:Int):=(by rw[bz];omega);have T:IntKind.i64.wrap (64-(r:Int))=64-(r:Int):=(by rw[bz];omega);have U:(64-(r:Int)).toNat=64-r:=(by omega);have e7:(0:Int)<=64-(r:Int):=(by omega);have j0:(0:Int)<=(c:Int):=(by omega);have j1:(c:Int)<23:=(by omega);have K:=kW ha c (by omega);have hgt:(q:Int)<(k:Int):=(by omega);generalize (fun t=>decide (b<=t)&&decide (64*d<=t-b)&&f (t-b))=m at I J;have c1:(wr.setCell ⟨w.heap.size+1+1,k,none⟩ (.int .u64 (wd m k:Int))).cell? (ae w.heap.size c)=some (.int .u64 (wd f c:Int)):=(ti _ _ _ _ (by dsimp only;omega)).trans K;have l:=aY _ _ k _ _ (.int .u64 (wd m k:Int)) n
    have N:(wr.setCell ⟨w.heap.size+1+1,k,none⟩ (.int .u64 (wd m k:Int))).cell? (ae (w.heap.size+1+1) k)=some (.int .u64 (wd m k:Int)):=by
     rw[aZ _ _ k _ _ _ l];simp[bO,j]
    have f2:=bl _ _ k _ _ l;have x:PN ((wr.setCell ⟨w.heap.size+1+1,k,none⟩ (.int .u64 (wd m k:Int))).heap[w.heap.size+1+1]? =ah ((mv fun t=>decide (t<64*k)&&(decide (b<=t)&&f (t-b))).setIfInBounds k (.int .u64 (wd m k:Int))) 84):=l;clear l a D;go_wp2;go_region;go_wp2;go_roundw
    case rel=>
     have W:=C.o;refine⟨k+1,d+1,by omega,by omega,by go_num,?_,?_,?_,((g.setCell (by dsimp only;omega) _).setCell (by dsimp only;omega) _).drew⟩
     ·exact((aO _ _ _ _ (by dsimp only;omega)).trans (aO _ _ _ _ (by dsimp only;omega))).trans ha
     ·exact((aO _ _ _ _ (by dsimp only;omega)).trans (aO _ _ _ _ (by dsimp only;omega))).trans u
     ·exact iR (aY _ _ _ _ _ _ x.o) (AZ k j (fun t=>decide (b<=t)&&f (t-b)) _)
    case measure=>simp[intOf];omega
  ·have p:k=23:=(by omega);subst p;have B:=iR n (Dy _);clear n C a
   go_wp2_with(first
    |(refine aR rfl 84 _ rfl _ rfl _ _ _ _ B bV rfl (bh _) ?_)
    |(refine ay rfl 84 _ _ rfl _ _ rfl rfl _ _ u (bh _) (by simp[bO]) (dQ _) ?_))
   refine aW (v:= .agg (mv fun t=>decide (b<=t)&&f (t-b))) ?_ rfl ⟨rfl,?_⟩
   ·exact bc rfl _ _ (w.heap.size+1) _ _ _ _ rfl (aL _ _ _ _ _ _ u) bV rfl (bh _)
   ·exact below_setRow g (by omega) _
theorem F7 (f:Nat->Bool)(b q d:Nat)(c:q=b/64)(a:23=q+d):(mv fun t=>decide (t<64*d)&&(decide (t+b<1472)&&f (t+b)))=mv fun t=>decide (t+b<1472)&&f (t+b):=je fun t e=>by
 by_cases h:t<64*d
 ·simp[h]
 ·have: ¬t+b<1472:=by omega
  simp[this]
theorem En (f:Nat->Bool)(b i q r d:Nat)(e:q=b/64)(k:r=b%64)(c:i=q+d)(a:i=22):
  (wd f i:Int)/2^r=((wd (fun t=>decide (t+b<1472)&&f (t+b)) d:Nat):Int):=by
 rw[zf f b i q r d e k c]
 rw[mR (f:=fun t=>decide (t+b<64*(i+1))&&f (t+b)) (g:=fun t=>decide (t+b<1472)&&f (t+b)) fun j _=>by
  have:(64*d+j+b<64*(i+1))=(64*d+j+b<1472):=(by apply propext;omega);simp only[this]]
theorem CJ (f:Nat->Bool)(b:Nat)(hb:b<1440)(w:World):
  Calls prog 209 #[.agg (mv f),ag b] w fun e w'=>e= .returned (.agg (mv fun t=>decide (t+b<1472)&&f (t+b)))/\aq w w':=by
 have hz:=eI;obtain⟨q,G⟩: ∃q:Nat,q=b/64:=⟨_,rfl⟩
 obtain⟨r,I⟩: ∃r:Nat,r=b%64:=⟨_,rfl⟩
 have x:PN (q=b/64):=G;have A:PN (r=b%64):=I;have t1:(b:Int)/64=(q:Int):=by omega
 have t2:(b:Int)%64=(r:Int):=by omega
 have H:q<23:=by omega
 have J:r<64:=by omega
 clear G I;go_enter func209,ntmps209;go_wp2
 go_loopw [8] (fun i wr=> ∃k d:Nat,k<=23/\k=q+d/\i=ag k/\wr.heap[w.heap.size]? =ah (mv f) 84/\wr.heap[w.heap.size+1]? =ah (mv fun _=>false) 84/\
  wr.heap[w.heap.size+1+1]? =ah (mv fun t=>decide (t<64*d)&&(decide (t+b<1472)&&f (t+b))) 84/\aq w wr) (fun i _=>23-(intOf i).toNat)
 case atStart=>
  refine⟨q,0,by omega,rfl,rfl,?_,?_,?_,?_⟩
  ·(repeat (first|refine dl _ _ _ (by simp only[aU];omega) ?_|exact dC _ _ _ (by first|rfl|simp only[aU])))
  ·(repeat (first|refine dl _ _ _ (by simp only[aU];omega) ?_|exact dC _ _ _ (by first|rfl|simp only[aU])))
  ·refine iR ?_ (AX _);(repeat (first|refine dl _ _ _ (by simp only[aU];omega) ?_|exact dC _ _ _ (by first|rfl|simp only[aU])))
  ·exact((am _ _).alloc (by simp) _).alloc (by simp only[aU];omega) _
 case round=>
  obtain⟨k,d,hk,a,rfl,ha,y,p,j⟩:=hrel;have u:PN (k=q+d):=a;by_cases S:k<23
  ·have U:=kW ha k (by omega);have g:d<23:=(by omega);have V:=kW p d g;have fm:=bl _ _ d _ _ p;have W:(k:Int)-(q:Int)=(d:Int):=(by omega);have Q:(0:Int)<=(d:Int):=(by omega);have R:(d:Int)<23:=(by omega);have K:=zf f b k q r d x.o A.o a;by_cases m:k=22
   ·have C:(22:Int)<=(k:Int):=(by omega);have p3:=En f b k q r d x.o A.o a m;have F:PN (k=22):=m;clear K a m;go_wp2;go_roundw
    case rel=>
     have O:=u.o;have P:=F.o;refine⟨k+1,d+1,by omega,by omega,by go_num,?_,?_,?_,j.setCell (by dsimp only;omega) _⟩
     ·exact(aO _ _ _ _ (by dsimp only;omega)).trans ha
     ·exact(aO _ _ _ _ (by dsimp only;omega)).trans y
     ·exact iR (aY _ _ _ _ _ _ p) (uu d g fun t=>decide (t+b<1472)&&f (t+b))
    case measure=>
     have P:=F.o;simp[intOf];omega
   ·have L:=F5 f b k q r d x.o A.o a (by omega);generalize (fun t=>decide (t+b<64*(k+1))&&f (t+b))=n at K L;obtain⟨c,B⟩: ∃c,c=k+1:=⟨_,rfl⟩
    rw[<-B]at L;have e2:(k:Int)+1=(c:Int):=(by omega);have X:IntKind.i64.wrap ((k:Int)-(q:Int))=(d:Int):=(by rw[bz];omega);have Y:IntKind.i64.wrap ((k:Int)+1)=(c:Int):=(by rw[bz];omega);have Z:IntKind.i64.wrap (64-(r:Int))=64-(r:Int):=(by rw[bz];omega);have e6:(64-(r:Int)).toNat=64-r:=(by omega);have e7:(0:Int)<=64-(r:Int):=(by omega);have j0:(0:Int)<=(c:Int):=(by omega);have j1:(c:Int)<23:=(by omega);have M:=kW ha c (by omega);have c1:(wr.setCell ⟨w.heap.size+1+1,d,none⟩ (.int .u64 (wd n d:Int))).cell? (ae w.heap.size c)=some (.int .u64 (wd f c:Int)):=(ti _ _ _ _ (by dsimp only;omega)).trans M;have l:=aY _ _ d _ _ (.int .u64 (wd n d:Int)) p
    have T:(wr.setCell ⟨w.heap.size+1+1,d,none⟩ (.int .u64 (wd n d:Int))).cell? (ae (w.heap.size+1+1) d)=some (.int .u64 (wd n d:Int)):=by
     rw[aZ _ _ d _ _ _ l];simp[bO,g]
    have f2:=bl _ _ d _ _ l;have z:PN ((wr.setCell ⟨w.heap.size+1+1,d,none⟩ (.int .u64 (wd n d:Int))).heap[w.heap.size+1+1]? =ah ((mv fun t=>decide (t<64*d)&&(decide (t+b<1472)&&f (t+b))).setIfInBounds d (.int .u64 (wd n d:Int))) 84):=l;have E:PN (c=k+1):=B;clear l a B;go_wp2;go_region;go_wp2;go_roundw
    case rel=>
     have O:=u.o;have N:=E.o;refine⟨c,d+1,by omega,by omega,by go_num,?_,?_,?_,((j.setCell (by dsimp only;omega) _).setCell (by dsimp only;omega) _).drew⟩
     ·exact((aO _ _ _ _ (by dsimp only;omega)).trans (aO _ _ _ _ (by dsimp only;omega))).trans ha
     ·exact((aO _ _ _ _ (by dsimp only;omega)).trans (aO _ _ _ _ (by dsimp only;omega))).trans y
     ·refine iR (aY _ _ _ _ _ _ z.o) ?_;exact AZ d g (fun t=>decide (t+b<1472)&&f (t+b)) _
    case measure=>
     have N:=E.o;simp[intOf];omega
  ·have s:k=23:=(by omega);subst s;have D:=iR p (F7 f b q d x.o u.o);clear p u a
   go_wp2_with(first
    |(refine aR rfl 84 _ rfl _ rfl _ _ _ _ D bV rfl (bh _) ?_)
    |(refine ay rfl 84 _ _ rfl _ _ rfl rfl _ _ y (bh _) (by simp[bO]) (dQ _) ?_))
   refine aW (v:= .agg (mv fun t=>decide (t+b<1472)&&f (t+b))) ?_ rfl ⟨rfl,?_⟩
   ·exact bc rfl _ _ (w.heap.size+1) _ _ _ _ rfl (aL _ _ _ _ _ _ y) bV rfl (bh _)
   ·exact below_setRow j (by omega) _
end Go.Proofs.YtaoljfdfhggbbaaGreatDoor
