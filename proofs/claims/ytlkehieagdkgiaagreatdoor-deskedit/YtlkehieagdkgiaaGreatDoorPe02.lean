/- Texts of the proof. -/
import Derived.Deep.RegionHeld3
import Derived.Deep.DrawnRows
import Derived.Laws.CopyOwn
import Derived.Lib.TrailingZeros
import Derived.Test.YtlkehieagdkgiaaGreatDoorPeZb
set_option maxRecDepth 100000
set_option maxHeartbeats 8000000
namespace Go.Proofs.YtlkehieagdkgiaaGreatDoor
open Go.Proofs.Tryz Go.RowKit Lx Vx Mx Msk
namespace Msk
def num (p:Nat->Bool):Nat->Nat
 |0=>0
 |n+1=>num p n+if p n then 2^n else 0
theorem xU (p:Nat->Bool): ∀n,num p n<2^n
 |0=>by simp[num]
 |n+1=>by
  have:=xU p n;simp only[num,Nat.pow_succ];split<;>omega
theorem uX (p:Nat->Bool)(j:Nat): ∀n,(num p n).testBit j=(decide (j<n)&&p j)
 |0=>by simp[num]
 |n+1=>by
  have g:=xU p n;have d:=uX p j n;simp only[num];by_cases b:p n=true
  ·rw[aB b,Nat.add_comm];by_cases a:j<n
   ·rw[Nat.testBit_two_pow_add_gt a,d];have:j<n+1:=(by omega);simp[a,this]
   ·by_cases c:j=n
    ·subst c;rw[Nat.testBit_two_pow_add_eq,d];simp[b]
    ·have e: ¬j<n+1:=(by omega);have f:2^(n+1)<=2^j:=Nat.pow_le_pow_right (by omega) (by omega);rw[Nat.testBit_lt_two_pow (by rw[Nat.pow_succ]at f;omega)];simp[e]
  ·rw[ax b,Nat.add_zero,d];by_cases c:j=n
   ·subst c;simp at b;simp[b]
   ·by_cases a:j<n
    ·have:j<n+1:=(by omega);simp[a,this]
    ·have: ¬j<n+1:=(by omega);simp[a,this]
theorem G3 (p:Nat->Bool)(n x:Nat)(b:x<2^n)(h: ∀j,j<n->x.testBit j=p j):x=num p n:=by
 apply Nat.eq_of_testBit_eq;intro j;rw[uX];by_cases a:j<n
 ·simp[a,h j a]
 ·have:2^n<=2^j:=Nat.pow_le_pow_right (by omega) (by omega);rw[Nat.testBit_lt_two_pow (by omega)];simp[a]
theorem Mk {p q:Nat->Bool}{n:Nat}(h: ∀j,j<n->p j=q j):num p n=num q n:=
 G3 q n _ (xU p n) fun j a=>by rw[uX];simp[a,h j a]
def wd (f:Nat->Bool)(k:Nat):Nat:=num (fun j=>f (64*k+j)) 64
theorem iq (f:Nat->Bool)(k:Nat):wd f k<18446744073709551616:=xU _ 64
theorem jB (f:Nat->Bool)(k j:Nat):(wd f k).testBit j=(decide (j<64)&&f (64*k+j)):=uX _ j 64
theorem nN (f:Nat->Bool)(k x:Nat)(a:x<18446744073709551616)(h: ∀j,j<64->x.testBit j=f (64*k+j)):x=wd f k:=
 G3 _ 64 x a h
theorem nO {f g:Nat->Bool}{k:Nat}(h: ∀j,j<64->f (64*k+j)=g (64*k+j)):wd f k=wd g k:=Mk h
theorem Ok {f g:Nat->Bool}{k:Nat}(h:wd f k=wd g k)(j:Nat)(b:j<64):f (64*k+j)=g (64*k+j):=by
 have a:=jB f k j;rw[h,jB]at a;simpa[b] using a.symm
theorem G4 (f g:Nat->Bool)(k:Nat):wd f k&&&wd g k=wd (fun i=>f i&&g i) k:=by
 refine nN _ k _ (show wd f k&&&wd g k<2^64 from Nat.and_lt_two_pow _ (iq g k)) fun j a=> ?_;rw[Nat.testBit_and,jB,jB];simp[a]
theorem BD (f g:Nat->Bool)(k:Nat):wd f k|||wd g k=wd (fun i=>f i||g i) k:=by
 refine nN _ k _ (show wd f k|||wd g k<2^64 from Nat.or_lt_two_pow (iq f k) (iq g k)) fun j a=> ?_;rw[Nat.testBit_or,jB,jB];simp[a]
theorem G5 (f g:Nat->Bool)(k:Nat):wd f k&&&(18446744073709551616-(wd g k+1))=wd (fun i=>f i&& !g i) k:=by
 refine nN _ k _ (Nat.lt_of_le_of_lt Nat.and_le_left (iq f k)) fun j a=> ?_;have e:(18446744073709551616:Nat)=2^64:=by decide
 rw[Nat.testBit_and,e,Nat.testBit_two_pow_sub_succ (iq g k),jB,jB];simp[a]
theorem Er (k:Nat):wd (fun _=>false) k=0:=by
 have:(0:Nat)=wd (fun _=>false) k:=nN _ k 0 (by omega) (by simp);exact this.symm
theorem zD (x r j:Nat)(a:j<64):(x*2^r%18446744073709551616).testBit j=(decide (r<=j)&&x.testBit (j-r)):=by
 have e:(18446744073709551616:Nat)=2^64:=by decide
 rw[e,Nat.testBit_mod_two_pow,Nat.testBit_mul_two_pow];simp[a]
theorem uY (x r j:Nat):(x/2^r).testBit j=x.testBit (j+r):=by
 rw[Nat.testBit_div_two_pow]
theorem BM (n j:Nat):(2^n-1).testBit j=decide (j<n):=by
 rw[Nat.testBit_two_pow_sub_one]
def cnt (f:Nat->Bool):Nat->Nat
 |0=>0
 |n+1=>cnt f n+if f n then 1 else 0
theorem Ol (f:Nat->Bool): ∀n,cnt f n<=n
 |0=>by simp[cnt]
 |n+1=>by have:=Ol f n;simp only[cnt];split<;>omega
theorem zE {f g:Nat->Bool}: ∀{n:Nat},(∀j,j<n->f j=g j)->cnt f n=cnt g n
 |0,_=>rfl
 |n+1,h=>by
  have:=zE (n:=n) fun j a=>h j (by omega);simp only[cnt,this,h n (by omega)]
theorem zI (f:Nat->Bool)(a:Nat): ∀n,cnt f (a+n)=cnt f a+cnt (fun j=>f (a+j)) n
 |0=>by simp[cnt]
 |n+1=>by
  have:=zI f a n;rw[<-Nat.add_assoc];simp only[cnt,this];omega
theorem G6 {f:Nat->Bool}{n:Nat}(h: ∀j,j<n->f j=false):cnt f n=0:=by
 have e:cnt f n=cnt (fun _=>false) n:=zE h
 have z: ∀n,cnt (fun _=>false) n=0:=by
  intro n;induction n with
  |zero=>rfl
  |succ n a=>simp[cnt,a]
 rw[e,z]
theorem J3 {f:Nat->Bool}{n:Nat}(h: ∀j,j<n->f j=true):cnt f n=n:=by
 have e:cnt f n=cnt (fun _=>true) n:=zE h
 have z: ∀n,cnt (fun _=>true) n=n:=by
  intro n;induction n with
  |zero=>rfl
  |succ n a=>simp[cnt,a]
 rw[e,z]
end Msk
def mv (f:Nat->Bool):Array Value:=Array.ofFn (n:=23) fun k=>Value.int .u64 (wd f k.val:Int)
theorem di (f:Nat->Bool):(mv f).size=23:=by simp[mv]
theorem qM (f:Nat->Bool)(k:Nat)(a:k<23):(mv f)[k]? =some (.int .u64 (wd f k:Int)):=by
 simp[mv,a]
theorem dW (f:Nat->Bool):(mv f).all (·.oneCell')=true:=by
 rw[Array.all_eq_true];intro i hi;simp[mv,Value.oneCell']
theorem jm {f g:Nat->Bool}(h: ∀i,i<1472->f i=g i):mv f=mv g:=by
 unfold mv;congr 1;funext k;have b:=k.isLt;rw[nO (f:=f) (g:=g) fun j a=>h _ (by omega)]
theorem BN (f g:Nat->Bool)(k:Nat)(b:k<23):(mv f).setIfInBounds k (.int .u64 (wd g k:Int))=mv (fun i=>if i/64=k then g i else f i):=by
 apply Array.ext_getElem?;intro i;rw[Array.getElem?_setIfInBounds];by_cases hi:k=i
 ·subst hi;rw[aB rfl,aB (by rw[di];exact b),qM _ k b];rw[nO (f:=g) (g:=fun i=>if i/64=k then g i else f i) fun j c=>by rw[aB (by omega)]]
 ·rw[ax hi];by_cases a:i<23
  ·rw[qM _ i a,qM _ i a];rw[nO (f:=f) (g:=fun i=>if i/64=k then g i else f i) fun j c=>by rw[ax (by omega)]]
  ·rw[Array.getElem?_eq_none (by rw[di];omega),Array.getElem?_eq_none (by rw[di];omega)]
theorem Ml:mv (fun _=>false)=Array.replicate 23 (.int .u64 0):=by
 apply Array.ext_getElem?;intro i;by_cases a:i<23
 ·rw[qM _ i a,Er];simp[a]
 ·rw[Array.getElem?_eq_none (by rw[di];omega)];simp[a]
theorem eR:(#[.int .u64 0, .int .u64 0, .int .u64 0, .int .u64 0, .int .u64 0, .int .u64 0, .int .u64 0, .int .u64 0, .int .u64 0, .int .u64 0, .int .u64 0, .int .u64 0, .int .u64 0, .int .u64 0, .int .u64 0, .int .u64 0, .int .u64 0, .int .u64 0, .int .u64 0, .int .u64 0, .int .u64 0, .int .u64 0, .int .u64 0]:Array Value)=mv (fun _=>false):=by rw[Ml];rfl
theorem Fo (a b:Nat)(ha:a<18446744073709551616)(f:b<18446744073709551616):
  bits .andNot .u64 (a:Int) (b:Int)=((a&&&(18446744073709551616-(b+1)):Nat):Int):=by
 have c:(BitVec.ofInt 64 (a:Int)).toNat=a:=by
  rw[BitVec.ofInt_natCast,BitVec.toNat_ofNat];exact Nat.mod_eq_of_lt (by omega)
 have d:(BitVec.ofInt 64 (b:Int)).toNat=b:=by
  rw[BitVec.ofInt_natCast,BitVec.toNat_ofNat];exact Nat.mod_eq_of_lt (by omega)
 have g:a&&&(18446744073709551616-(b+1))<=a:=Nat.and_le_left;show IntKind.u64.wrap ((BitVec.ofInt 64 (a:Int)&&& ~~~BitVec.ofInt 64 (b:Int)).toNat:Int)=_;have e:(2:Nat)^64-1-b=18446744073709551616-(b+1):=by omega
 rw[BitVec.toNat_and,BitVec.toNat_not,c,d,ie,e];omega
theorem G7:(4294967295:Nat)=wd (fun i=>decide (i<1440)) 22:=by
 refine nN _ 22 _ (by omega) fun j a=> ?_;have e:(4294967295:Nat)=2^32-1:=by decide
 rw[e,BM];have:(j<32)=(64*22+j<1440):=by apply propext;omega
 simp only[this]
theorem Mm (f:Nat->Bool):(mv f).setIfInBounds 22 (.int .u64 (bits .and .u64 (wd f 22:Int) 4294967295))=mv fun i=>f i&&decide (i<1440):=by
 have e:bits .and .u64 (wd f 22:Int) 4294967295=((wd (fun i=>f i&&decide (i<1440)) 22:Nat):Int):=by
  have:=bits_and_u64_nat (wd f 22) 4294967295 (iq f 22) (by omega);rw[<-G4 f (fun i=>decide (i<1440)) 22,<-G7];exact this
 rw[e,BN _ _ 22 (by omega)];refine jm fun i hi=> ?_;by_cases h:i/64=22
 ·rw[aB h]
 ·rw[ax h];have:i<1440:=(by omega);simp[this]
theorem li {w:World}{g:Nat}{f:Nat->Bool}{t:TypeId}(a:w.heap[g]? =ah (mv f) t)(k:Nat)(b:k<23):w.cell? (ae g k)=some (.int .u64 (wd f k:Int)):=by
 rw[aZ w g k _ t (0,0) a,qM f k b]
theorem tY (w:World)(a:Addr)(v:Value)(p:Addr)(h:p.block≠a.block):(w.setCell a v).drew.cell? p=w.cell? p:=
 et (w:=w) (Below.heap_setCell w a v p.block h)
theorem BO (h:Nat->Bool):mv (fun _=>false)=mv (fun i=>decide (i<64*0)&&h i):=jm fun i _=>by simp
theorem uZ (k:Nat)(a:k<23)(h:Nat->Bool):(mv fun i=>decide (i<64*k)&&h i).setIfInBounds k (.int .u64 (wd h k:Int))=mv fun i=>decide (i<64*(k+1))&&h i:=by
 rw[BN _ _ k a];refine jm fun i hi=> ?_;by_cases h:i/64=k
 ·have:i<64*(k+1):=by omega
  simp[h,this]
 ·have:(i<64*k)=(i<64*(k+1)):=by apply propext;omega
  simp only[h,if_false,this]
theorem Es (h:Nat->Bool):(mv fun i=>decide (i<64*23)&&h i)=mv h:=jm fun i hi=>by
 have:i<64*23:=by omega
 simp[this]
theorem iY {w:World}{g:Nat}{c a:Array Value}{t:TypeId}(b:w.heap[g]? =ah c t)(e:c=a):w.heap[g]? =ah a t:=by rw[b,e]
theorem aV (w:World)(o:Obj):(w.alloc o).heap.size=w.heap.size+1:=by show(w.heap.push o).size=_;simp
theorem dJ (w:World)(o:Obj)(k:Nat)(h:k=w.heap.size):(w.alloc o).heap[k]? =some o:=by subst h;exact aG w o
theorem dt (w:World)(o:Obj)(k:Nat)(h:k<w.heap.size){x:Obj}(a:w.heap[k]? =some x):(w.alloc o).heap[k]? =some x:=(dQ w o k h).trans a
theorem bl (f:Nat->Bool):(prog.info? 55).map (·.size)=some (mv f).size:=by rw[di];kernel_rfl
theorem dm:prog.underlying 55=some (.array 23 53):=by kernel_rfl
section
theorem wu (f:Nat->Bool)(w:World):
  Calls prog 84 #[.agg (mv f)] w fun e w'=>e= .returned (.agg (mv fun i=>f i&&decide (i<1440)))/\aq w w':=by
 have b:=qM f 22 (by omega);have a:=Mm f;have c:=eR;go_enter func84,ntmps84
 go_wp2_with(first
  |(refine aR rfl 55 _ rfl _ rfl _ _ _ _ (heap_alloc2_old _ _ _) dm rfl (bl _) ?_)
  |(refine az rfl 55 _ _ rfl _ _ rfl rfl _ _ (heap_alloc2_new _ _ _) (bl _) (by simp[di]) (dW _) ?_))
 refine aX (v:= .agg (mv fun i=>f i&&decide (i<1440))) ?_ rfl ⟨rfl,?_⟩
 ·exact bf rfl _ _ (w.heap.size+1) _ _ _ _ rfl (aL _ _ _ _ _ _ (heap_alloc2_new _ _ _)) dm rfl (bl _)
 ·exact below_setRow ((am _ _).alloc (by simp) _) (by omega) _
attribute [local go_sem↓] Go.wp_at_zero Go.wp_at_succ
theorem sf (K:Nat)(o:Bool->Bool->Bool)(t: ∀(f g:Nat->Bool) (k:Nat) (w:World),Calls prog K #[.int .u64 (wd f k:Int),.int .u64 (wd g k:Int)] w fun e w'=>e= .returned (.int .u64 (wd (fun i=>o (f i) (g i)) k:Int))/\w'=w)
  (B: ∀d w,(callFunc K d).run prog w= .ok (.enter K d) w) (a b:Nat->Bool) (w:World):
  Calls prog 50 #[.agg (mv a),.agg (mv b),.func (.func K) #[] #[]] w fun e w'=>e= .returned (.agg (mv fun i=>o (a i) (b i)&&decide (i<1440)))/\aq w w':=by
 have E:=eR;go_enter func50,ntmps50;go_wp2
 go_loopw [9] (fun i wr=> ∃k:Nat,k<=23/\i=ag k/\wr.heap[w.heap.size]? =ah (mv a) 55/\wr.heap[w.heap.size+1]? =ah (mv b) 55/\wr.heap[w.heap.size+1+1]? =ah (mv fun _=>false) 55/\
  wr.heap[w.heap.size+1+1+1]? =ah (mv fun i=>decide (i<64*k)&&o (a i) (b i)) 55/\aq w wr) (fun i _=>23-(intOf i).toNat)
 case atStart=>
  refine⟨0,by omega,rfl,?_,?_,?_,?_,?_⟩
  ·(repeat (first|refine dt _ _ _ (by simp only[aV];omega) ?_|exact dJ _ _ _ (by first|rfl|simp only[aV])))
  ·(repeat (first|refine dt _ _ _ (by simp only[aV];omega) ?_|exact dJ _ _ _ (by first|rfl|simp only[aV])))
  ·(repeat (first|refine dt _ _ _ (by simp only[aV];omega) ?_|exact dJ _ _ _ (by first|rfl|simp only[aV])))
  ·refine iY ?_ (BO _);(repeat (first|refine dt _ _ _ (by simp only[aV];omega) ?_|exact dJ _ _ _ (by first|rfl|simp only[aV])))
  ·exact(((am _ _).alloc (by simp) _).alloc (by simp;omega) _).alloc (by simp;omega) _
 case round=>
  obtain⟨k,D,rfl,ha,s,q,n,j⟩:=hrel;by_cases c:k<23
  ·have y:=li ha k c;have z:=li s k c;have A:=li n k c;have C:=bo _ _ k _ _ n;have u:(0:Int)<=(k:Int):=(by omega);have x:(k:Int)<23:=(by omega);have F:w.heap.size+1+1+1≠w.heap.size:=(by omega);have G:w.heap.size+1+1≠w.heap.size:=(by omega);go_wp2
   go_region_held3 (fun w'=>w'.cell? (ae w.heap.size k)=some (.int .u64 (wd a k:Int))/\w'.cell? (ae (w.heap.size+1) k)=some (.int .u64 (wd b k:Int)))
    (go_keep)
    ((refine(t a b k _).mono ?_;rintro e w' ⟨rfl,rfl⟩))
   go_wp2;go_roundw
   case rel=>
    refine⟨k+1,by omega,by go_num,?_,?_,?_,?_,?_⟩
    ·exact(aO _ _ _ _ (by dsimp only;omega)).trans ha
    ·exact(aO _ _ _ _ (by dsimp only;omega)).trans s
    ·exact(aO _ _ _ _ (by dsimp only;omega)).trans q
    ·exact iY (aY _ _ _ _ _ _ n) (uZ k c fun i=>o (a i) (b i))
    ·exact(j.setCell (by dsimp only;omega) _).drew
   case measure=>simp[intOf];omega
  ·have m:k=23:=(by omega);subst m;have p:=iY n (Es fun i=>o (a i) (b i));clear n
   go_wp2_with(first
    |(refine aR rfl 55 _ rfl _ rfl _ _ _ _ p dm rfl (bl _) ?_)
    |(go_at_call 84;refine(wu _ _).mono ?_;rintro e w' ⟨rfl,l⟩;have r:=(l.block (w.heap.size+1+1) (aI q)).trans q)
    |(refine az rfl 55 _ _ rfl _ _ rfl rfl _ _ (by assumption) (bl _) (by simp[di]) (dW _) ?_))
   refine aX (v:= .agg (mv fun i=>o (a i) (b i)&&decide (i<1440))) ?_ rfl ⟨rfl,?_⟩
   ·exact bf rfl _ _ (w.heap.size+1+1) _ _ _ _ rfl (aL _ _ _ _ _ _ r) dm rfl (bl _)
   ·exact below_setRow (aw j l) (by omega) _
theorem Om (f g:Nat->Bool)(k:Nat)(w:World):Calls prog 118 #[.int .u64 (wd f k:Int),.int .u64 (wd g k:Int)] w fun e w'=>e= .returned (.int .u64 (wd (fun i=>f i||g i) k:Int))/\w'=w:=by
 have a:=bits_or_u64_nat _ _ (iq f k) (iq g k);rw[BD]at a;go_enter func118,ntmps118;go_wp2;go_ret;exact⟨rfl,rfl⟩
theorem Mn (f g:Nat->Bool)(k:Nat)(w:World):Calls prog 119 #[.int .u64 (wd f k:Int),.int .u64 (wd g k:Int)] w fun e w'=>e= .returned (.int .u64 (wd (fun i=>f i&&g i) k:Int))/\w'=w:=by
 have a:=bits_and_u64_nat _ _ (iq f k) (iq g k);rw[G4]at a;go_enter func119,ntmps119;go_wp2;go_ret;exact⟨rfl,rfl⟩
theorem Mo (f g:Nat->Bool)(k:Nat)(w:World):Calls prog 51 #[.int .u64 (wd f k:Int),.int .u64 (wd g k:Int)] w fun e w'=>e= .returned (.int .u64 (wd (fun i=>f i&& !g i) k:Int))/\w'=w:=by
 have a:=Fo _ _ (iq f k) (iq g k);rw[G5]at a;go_enter func51,ntmps51;go_wp2;go_ret;exact⟨rfl,rfl⟩
theorem Au (a b:Nat->Bool)(w:World):
  Calls prog 81 #[.agg (mv a),.agg (mv b)] w fun e w'=>e= .returned (.agg (mv fun i=>(a i||b i)&&decide (i<1440)))/\aq w w':=by
 have l:=eR;have g:(((w.alloc (.cells (mv a) 55)).alloc (.cells (mv b) 55)).alloc (.cells (mv fun _=>false) 55)).heap[w.heap.size]? =ah (mv a) 55:=by(repeat (first|refine dt _ _ _ (by simp only[aV];omega) ?_|exact dJ _ _ _ (by first|rfl|simp only[aV])))
 have j:(((w.alloc (.cells (mv a) 55)).alloc (.cells (mv b) 55)).alloc (.cells (mv fun _=>false) 55)).heap[w.heap.size+1]? =ah (mv b) 55:=by(repeat (first|refine dt _ _ _ (by simp only[aV];omega) ?_|exact dJ _ _ _ (by first|rfl|simp only[aV])))
 have k:(((w.alloc (.cells (mv a) 55)).alloc (.cells (mv b) 55)).alloc (.cells (mv fun _=>false) 55)).heap[w.heap.size+1+1]? =ah (mv fun _=>false) 55:=by(repeat (first|refine dt _ _ _ (by simp only[aV];omega) ?_|exact dJ _ _ _ (by first|rfl|simp only[aV])))
 have d:aq w (((w.alloc (.cells (mv a) 55)).alloc (.cells (mv b) 55)).alloc (.cells (mv fun _=>false) 55)):=((am _ _).alloc (by simp) _).alloc (by simp only[aV];omega) _;go_enter func81,ntmps81
 go_wp2_with(first
  |(refine aR rfl 55 _ rfl _ rfl _ _ _ _ g dm rfl (bl _) ?_)
  |(refine aR rfl 55 _ rfl _ rfl _ _ _ _ j dm rfl (bl _) ?_)
  |(go_at_call 50;refine(sf 118 (fun x y=>x||y) Om (fun _ _=>by simp[go_sem]) a b _).mono ?_;rintro e w' ⟨rfl,c⟩;have f:=ai c k)
  |(refine az rfl 55 _ _ rfl _ _ rfl rfl _ _ (by assumption) (bl _) (by simp[di]) (dW _) ?_))
 refine aX (v:= .agg (mv fun i=>(a i||b i)&&decide (i<1440))) ?_ rfl ⟨rfl,?_⟩
 ·exact bf rfl _ _ (w.heap.size+1+1) _ _ _ _ rfl (aL _ _ _ _ _ _ f) dm rfl (bl _)
 ·exact below_setRow (aw d c) (by omega) _
theorem qN (a b:Nat->Bool)(w:World):
  Calls prog 23 #[.agg (mv a),.agg (mv b)] w fun e w'=>e= .returned (.agg (mv fun i=>(a i&& !b i)&&decide (i<1440)))/\aq w w':=by
 have l:=eR;have g:(((w.alloc (.cells (mv a) 55)).alloc (.cells (mv b) 55)).alloc (.cells (mv fun _=>false) 55)).heap[w.heap.size]? =ah (mv a) 55:=by(repeat (first|refine dt _ _ _ (by simp only[aV];omega) ?_|exact dJ _ _ _ (by first|rfl|simp only[aV])))
 have j:(((w.alloc (.cells (mv a) 55)).alloc (.cells (mv b) 55)).alloc (.cells (mv fun _=>false) 55)).heap[w.heap.size+1]? =ah (mv b) 55:=by(repeat (first|refine dt _ _ _ (by simp only[aV];omega) ?_|exact dJ _ _ _ (by first|rfl|simp only[aV])))
 have k:(((w.alloc (.cells (mv a) 55)).alloc (.cells (mv b) 55)).alloc (.cells (mv fun _=>false) 55)).heap[w.heap.size+1+1]? =ah (mv fun _=>false) 55:=by(repeat (first|refine dt _ _ _ (by simp only[aV];omega) ?_|exact dJ _ _ _ (by first|rfl|simp only[aV])))
 have d:aq w (((w.alloc (.cells (mv a) 55)).alloc (.cells (mv b) 55)).alloc (.cells (mv fun _=>false) 55)):=((am _ _).alloc (by simp) _).alloc (by simp only[aV];omega) _;go_enter func23,ntmps23
 go_wp2_with(first
  |(refine aR rfl 55 _ rfl _ rfl _ _ _ _ g dm rfl (bl _) ?_)
  |(refine aR rfl 55 _ rfl _ rfl _ _ _ _ j dm rfl (bl _) ?_)
  |(go_at_call 50;refine(sf 51 (fun x y=>x&& !y) Mo (fun _ _=>by simp[go_sem]) a b _).mono ?_;rintro e w' ⟨rfl,c⟩;have f:=ai c k)
  |(refine az rfl 55 _ _ rfl _ _ rfl rfl _ _ (by assumption) (bl _) (by simp[di]) (dW _) ?_))
 refine aX (v:= .agg (mv fun i=>(a i&& !b i)&&decide (i<1440))) ?_ rfl ⟨rfl,?_⟩
 ·exact bf rfl _ _ (w.heap.size+1+1) _ _ _ _ rfl (aL _ _ _ _ _ _ f) dm rfl (bl _)
 ·exact below_setRow (aw d c) (by omega) _
theorem BP (a b:Nat->Bool)(w:World):
  Calls prog 82 #[.agg (mv a),.agg (mv b)] w fun e w'=>e= .returned (.agg (mv fun i=>(a i&&b i)&&decide (i<1440)))/\aq w w':=by
 have l:=eR;have g:(((w.alloc (.cells (mv a) 55)).alloc (.cells (mv b) 55)).alloc (.cells (mv fun _=>false) 55)).heap[w.heap.size]? =ah (mv a) 55:=by(repeat (first|refine dt _ _ _ (by simp only[aV];omega) ?_|exact dJ _ _ _ (by first|rfl|simp only[aV])))
 have j:(((w.alloc (.cells (mv a) 55)).alloc (.cells (mv b) 55)).alloc (.cells (mv fun _=>false) 55)).heap[w.heap.size+1]? =ah (mv b) 55:=by(repeat (first|refine dt _ _ _ (by simp only[aV];omega) ?_|exact dJ _ _ _ (by first|rfl|simp only[aV])))
 have k:(((w.alloc (.cells (mv a) 55)).alloc (.cells (mv b) 55)).alloc (.cells (mv fun _=>false) 55)).heap[w.heap.size+1+1]? =ah (mv fun _=>false) 55:=by(repeat (first|refine dt _ _ _ (by simp only[aV];omega) ?_|exact dJ _ _ _ (by first|rfl|simp only[aV])))
 have d:aq w (((w.alloc (.cells (mv a) 55)).alloc (.cells (mv b) 55)).alloc (.cells (mv fun _=>false) 55)):=((am _ _).alloc (by simp) _).alloc (by simp only[aV];omega) _;go_enter func82,ntmps82
 go_wp2_with(first
  |(refine aR rfl 55 _ rfl _ rfl _ _ _ _ g dm rfl (bl _) ?_)
  |(refine aR rfl 55 _ rfl _ rfl _ _ _ _ j dm rfl (bl _) ?_)
  |(go_at_call 50;refine(sf 119 (fun x y=>x&&y) Mn (fun _ _=>by simp[go_sem]) a b _).mono ?_;rintro e w' ⟨rfl,c⟩;have f:=ai c k)
  |(refine az rfl 55 _ _ rfl _ _ rfl rfl _ _ (by assumption) (bl _) (by simp[di]) (dW _) ?_))
 refine aX (v:= .agg (mv fun i=>(a i&&b i)&&decide (i<1440))) ?_ rfl ⟨rfl,?_⟩
 ·exact bf rfl _ _ (w.heap.size+1+1) _ _ _ _ rfl (aL _ _ _ _ _ _ f) dm rfl (bl _)
 ·exact below_setRow (aw d c) (by omega) _
end
theorem sH {v a:Value}(h:v=a):Ending.returned v= .returned a:=by rw[h]
theorem tZ {k:IntKind}{a b:Int}(h:a=b):Value.int k a= .int k b:=by rw[h]
theorem J4 (n:Nat)(c:n<=64):IntKind.u64.wrap (IntKind.u64.wrap (2^n)-1)=((2^n-1:Nat):Int):=by
 rw[ie,ie];have d:(1:Nat)<=2^n:=Nat.two_pow_pos n;have a:((2:Int)^n)=((2^n:Nat):Int):=by simp
 rw[a];by_cases h:n=64
 ·subst h;decide
 ·have b:2^n<=2^63:=Nat.pow_le_pow_right (by omega) (by omega);generalize 2^n=p at*;omega
theorem J5 (n:Nat)(a:n<=64)(w:World):Calls prog 86 #[ag n] w fun e w'=>e= .returned (.int .u64 ((2^n-1:Nat):Int))/\w'=w:=by
 go_enter func86,ntmps86;go_wp2;go_ret;exact⟨sH (tZ (J4 n a)),rfl⟩
theorem zJ (d:Int)(a:0<=d)(b:d<=64)(w:World):Calls prog 86 #[ag d] w fun e w'=>e= .returned (.int .u64 ((2^d.toNat-1:Nat):Int))/\w'=w:=by
 have:=J5 d.toNat (by omega) w;rw[Int.toNat_of_nonneg a]at this;exact this
theorem vV (n:Nat)(a:n<=1440)(w:World):Calls prog 85 #[ag n] w fun e w'=>e= .returned (ag ((64*(n/64)+64:Nat):Int))/\w'=w:=by
 go_enter func85,ntmps85;go_wp2;go_ret;exact⟨sH (tZ (by omega)),rfl⟩
def Tab (w:World):Prop:= ∀j,j<64->w.cell? (ae 3 j)=some (.int .u8 ((Lib.deBruijn64tab.getD j 0:Nat):Int))
theorem Tab.later {w w':World}(h:Tab w)(b:aq w w'):Tab w':=fun j a=>(b.cell (cZ (h j a))).trans (h j a)
theorem On (x a:Nat)(d:x<18446744073709551616)(e:x≠0)(b:x&&&(18446744073709551616-x)=a):
  IntKind.u64.wrap (bits BinOp.and IntKind.u64 (x:Int) (IntKind.u64.wrap (-(x:Int)))*285870213051353865)/288230376151711744=((a*285870213051353865%18446744073709551616/288230376151711744:Nat):Int):=by
 have c:IntKind.u64.wrap (-(x:Int))=((18446744073709551616-x:Nat):Int):=by rw[ie];omega
 rw[c,bits_and_u64_nat x _ d (by omega),b,ie];omega
theorem Mp (x k a:Nat)(w:World)(d:((x:Int)==0)=false)
  (c:IntKind.u64.wrap (bits BinOp.and IntKind.u64 (x:Int) (IntKind.u64.wrap (-(x:Int)))*285870213051353865)/288230376151711744=(a:Int))
  (hi:a<64) (f:k<64) (b:w.cell? (ae 3 a)=some (.int .u8 k)):
  Calls prog 212 #[.int .u64 x] w fun e w'=>e= .returned (ag k)/\w'=w:=by
 go_enter func212,ntmps212;go_wp2_with(simp only[c])
 go_ret;exact⟨rfl,rfl⟩
theorem Oo (x:Nat)(i:x<18446744073709551616)(d:x≠0)(w:World)(n:Tab w):
  ∃k:Nat,k<64/\x.testBit k=true/\(∀j,j<k->x.testBit j=false)/\Calls prog 212 #[.int .u64 x] w fun e w'=>e= .returned (ag k)/\w'=w:=by
 obtain⟨b,g⟩:=Lib.lowest_bit 64 x d i;obtain⟨hi,c⟩:=Lib.deBruijn64_at _ g;have a:=n _ hi;rw[c]at a
 have l: ∀j,j<=Lib.ctz 64 x->x.testBit j=decide (j=Lib.ctz 64 x):=by
  obtain⟨m,q,p⟩:=Lib.ctzFrom_spec 64 x (by omega) i;have e:Lib.ctz 64 x=Lib.ctzFrom 64 x:=(by simp[Lib.ctz,d]);rw[e];clear a c hi b g e;generalize Lib.ctzFrom 64 x=k at*;intro j o;rw[q,Nat.mul_comm,Nat.testBit_mul_two_pow];by_cases f:j=k
  ·subst f;simp
  ·have: ¬k<=j:=(by omega);simp[this,f]
 exact⟨_,g,by rw[l _ (aD _)];simp,fun j o=>by rw[l _ (by omega)];simp;omega,Mp x _ _ w (by simp;omega) (On x _ i d b) hi g a⟩
theorem Oq (f:Nat->Bool)(a i q r:Nat)(l:q=a/64)(m:r=a%64)(hi:q<=i):
  IntKind.u64.wrap ((wd f (i-q):Int)*2^r)=((wd (fun t=>decide (a<=t)&&decide (64*(i-q)<=t-a)&&f (t-a)) i:Nat):Int):=by
 have g:wd (fun t=>decide (a<=t)&&decide (64*(i-q)<=t-a)&&f (t-a)) i=wd f (i-q)*2^r%18446744073709551616:=by
  symm;refine nN _ _ _ (Nat.mod_lt _ (by omega)) fun j k=> ?_;rw[zD _ _ j k,jB];by_cases h:r<=j
  ·have b:a<=64*i+j:=(by omega);have c:64*(i-q)<=64*i+j-a:=(by omega);have d:64*(i-q)+(j-r)=64*i+j-a:=(by omega);have e:j-r<64:=(by omega);simp[h,b,c,d,e]
  ·by_cases b:a<=64*i+j
   ·have c: ¬64*(i-q)<=64*i+j-a:=(by omega);simp[h,c]
   ·simp[h,b]
 rw[ie,g];have:((2:Int)^r)=((2^r:Nat):Int):=by simp
 rw[this];omega
theorem Ot (f:Nat->Bool)(a i q r:Nat)(k:q=a/64)(l:r=a%64)(hi:q<i):
  ((wd (fun t=>decide (a<=t)&&decide (64*(i-q)<=t-a)&&f (t-a)) i|||wd f (i-q-1)/2^(64-r):Nat))=wd (fun t=>decide (a<=t)&&f (t-a)) i:=by
 have m:=iq f (i-q-1);have n:wd f (i-q-1)/2^(64-r)<=wd f (i-q-1):=Nat.div_le_self _ _;refine nN _ _ _ (show _<2^64 from Nat.or_lt_two_pow (iq _ _) (by omega)) fun j e=> ?_;rw[Nat.testBit_or,jB,uY,jB];have d:a<=64*i+j:=by omega
 by_cases h:r<=j
 ·have b:64*(i-q)<=64*i+j-a:=by omega
  have c: ¬j+(64-r)<64:=(by omega);simp[e,d,b,c]
 ·have b: ¬64*(i-q)<=64*i+j-a:=by omega
  have g:64*(i-q-1)+(j+(64-r))=64*i+j-a:=(by omega);have c:j+(64-r)<64:=(by omega);simp[e,d,b,g,c]
theorem J6 (f:Nat->Bool)(a i q r:Nat)(e:q=a/64)(g:r=a%64)(hi:q<=i):
  wd f i/2^r=wd (fun t=>decide (t+a<64*(i+1))&&f (t+a)) (i-q):=by
 have l:wd f i/2^r<=wd f i:=Nat.div_le_self _ _;have k:=iq f i;refine nN _ _ _ (by omega) fun j d=> ?_;rw[uY,jB];by_cases h:j+r<64
 ·have b:64*(i-q)+j+a<64*(i+1):=by omega
  have c:64*i+(j+r)=64*(i-q)+j+a:=(by omega);simp[h,b,c]
 ·have b: ¬64*(i-q)+j+a<64*(i+1):=by omega
  simp[h,b]
theorem J7 (f:Nat->Bool)(a i q r:Nat)(m:q=a/64)(n:r=a%64)(hi:q<=i):
  bits .or .u64 (wd (fun t=>decide (t+a<64*(i+1))&&f (t+a)) (i-q):Int) (IntKind.u64.wrap ((wd f (i+1):Int)*2^(64-r)))=((wd (fun t=>f (t+a)) (i-q):Nat):Int):=by
 have e:IntKind.u64.wrap ((wd f (i+1):Int)*2^(64-r))=((wd (fun t=> !decide (t+a<64*(i+1))&&f (t+a)) (i-q):Nat):Int):=by
  have g:wd (fun t=> !decide (t+a<64*(i+1))&&f (t+a)) (i-q)=wd f (i+1)*2^(64-r)%18446744073709551616:=by
   symm;refine nN _ _ _ (Nat.mod_lt _ (by omega)) fun j l=> ?_;rw[zD _ _ j l,jB];by_cases h:64-r<=j
   ·have b: ¬64*(i-q)+j+a<64*(i+1):=(by omega);have c:64*(i+1)+(j-(64-r))=64*(i-q)+j+a:=(by omega);have d:j-(64-r)<64:=(by omega);simp[h,b,c,d]
   ·have b:64*(i-q)+j+a<64*(i+1):=(by omega);simp[h,b]
  rw[ie,g];have:((2:Int)^(64-r))=((2^(64-r):Nat):Int):=(by simp);rw[this];omega
 rw[e,bits_or_u64_nat _ _ (iq _ _) (iq _ _),BD]
 have k:wd (fun t=>(decide (t+a<64*(i+1))&&f (t+a))||(!decide (t+a<64*(i+1))&&f (t+a))) (i-q)=wd (fun t=>f (t+a)) (i-q):=nO fun j _=>by
  cases decide (64*(i-q)+j+a<64*(i+1))<;>simp
 rw[k]
theorem Et (f:Nat->Bool)(b i q r d:Nat)(a:q=b/64)(c:r=b%64)(g:i=q+d):
  IntKind.u64.wrap ((wd f d:Int)*2^r)=((wd (fun t=>decide (b<=t)&&decide (64*d<=t-b)&&f (t-b)) i:Nat):Int):=by
 have:=Oq f b i q r a c (by omega);have e:i-q=d:=by omega
 rw[e]at this;exact this
theorem Mq (f:Nat->Bool)(b q r:Nat)(c:q=b/64)(d:r=b%64):
  IntKind.u64.wrap ((wd f 0:Int)*2^r)=((wd (fun t=>decide (b<=t)&&f (t-b)) q:Nat):Int):=by
 rw[Et f b q q r 0 c d rfl];have a:wd (fun t=>decide (b<=t)&&decide (64*0<=t-b)&&f (t-b)) q=wd (fun t=>decide (b<=t)&&f (t-b)) q:=nO fun j _=>by simp
 rw[a]
theorem Mr (f:Nat->Bool)(b i q r d:Nat)(c:q=b/64)(g:r=b%64)(j:i=q+(d+1)):
  bits .or .u64 (wd (fun t=>decide (b<=t)&&decide (64*(d+1)<=t-b)&&f (t-b)) i:Int) ((wd f d:Int)/2^(64-r))=((wd (fun t=>decide (b<=t)&&f (t-b)) i:Nat):Int):=by
 have:=Ot f b i q r c g (by omega);have e:i-q=d+1:=by omega
 rw[e]at this;have a:((wd f d:Int)/2^(64-r))=((wd f d/2^(64-r):Nat):Int):=by simp
 have l:wd f d/2^(64-r)<=wd f d:=Nat.div_le_self _ _;have k:=iq f d;rw[a,bits_or_u64_nat _ _ (iq _ _) (by omega)];exact congrArg _ this
theorem Av (f:Nat->Bool)(b i q r d:Nat)(a:q=b/64)(c:r=b%64)(g:i=q+d):
  (wd f i:Int)/2^r=((wd (fun t=>decide (t+b<64*(i+1))&&f (t+b)) d:Nat):Int):=by
 have:=J6 f b i q r a c (by omega);have e:i-q=d:=by omega
 rw[e]at this;rw[<-this];simp
theorem G8 (f:Nat->Bool)(b i q r d:Nat)(c:q=b/64)(g:r=b%64)(k:i=q+d)(hi:i<22):
  bits .or .u64 (wd (fun t=>decide (t+b<64*(i+1))&&f (t+b)) d:Int) (IntKind.u64.wrap ((wd f (i+1):Int)*2^(64-r)))=((wd (fun t=>decide (t+b<1472)&&f (t+b)) d:Nat):Int):=by
 have:=J7 f b i q r c g (by omega);have e:i-q=d:=by omega
 rw[e]at this;rw[this]
 have a:wd (fun t=>f (t+b)) d=wd (fun t=>decide (t+b<1472)&&f (t+b)) d:=nO fun j _=>by
  have:64*d+j+b<1472:=(by omega);simp[this]
 rw[a]
theorem BQ (k:Nat)(a:k<23)(h:Nat->Bool)(v:Value):((mv fun i=>decide (i<64*k)&&h i).setIfInBounds k v).setIfInBounds k (.int .u64 (wd h k:Int))=mv fun i=>decide (i<64*(k+1))&&h i:=by
 rw[Array.setIfInBounds_setIfInBounds];exact uZ k a h
theorem J8 (f:Nat->Bool)(b q:Nat)(a:q=b/64):mv (fun _=>false)=mv (fun t=>decide (t<64*q)&&(decide (b<=t)&&f (t-b))):=jm fun t _=>by
 by_cases h:t<64*q
 ·have: ¬b<=t:=by omega
  simp[this]
 ·simp[h]
theorem G9 (f:Nat->Bool)(b:Nat)(Z:b<1440)(w:World):
  Calls prog 121 #[.agg (mv f),ag b] w fun e w'=>e= .returned (.agg (mv fun t=>decide (b<=t)&&f (t-b)))/\aq w w':=by
 have hz:=eR;obtain⟨q,E⟩: ∃q:Nat,q=b/64:=⟨_,rfl⟩
 obtain⟨r,G⟩: ∃r:Nat,r=b%64:=⟨_,rfl⟩
 have s:Rb (q=b/64):=E;have y:Rb (r=b%64):=G;have t1:(b:Int)/64=(q:Int):=by omega
 have t2:(b:Int)%64=(r:Int):=by omega
 have F:q<23:=by omega
 have H:r<64:=by omega
 clear E G;go_enter func121,ntmps121;go_wp2
 go_loopw [8] (fun i wr=> ∃k d:Nat,k<=23/\k=q+d/\i=ag k/\wr.heap[w.heap.size]? =ah (mv f) 55/\wr.heap[w.heap.size+1]? =ah (mv fun _=>false) 55/\
  wr.heap[w.heap.size+1+1]? =ah (mv fun t=>decide (t<64*k)&&(decide (b<=t)&&f (t-b))) 55/\aq w wr) (fun i _=>23-(intOf i).toNat)
 case atStart=>
  refine⟨q,0,by omega,rfl,rfl,?_,?_,?_,?_⟩
  ·(repeat (first|refine dt _ _ _ (by simp only[aV];omega) ?_|exact dJ _ _ _ (by first|rfl|simp only[aV])))
  ·(repeat (first|refine dt _ _ _ (by simp only[aV];omega) ?_|exact dJ _ _ _ (by first|rfl|simp only[aV])))
  ·refine iY ?_ (J8 f b q s.o);(repeat (first|refine dt _ _ _ (by simp only[aV];omega) ?_|exact dJ _ _ _ (by first|rfl|simp only[aV])))
  ·exact((am _ _).alloc (by simp) _).alloc (by simp only[aV];omega) _
 case round=>
  obtain⟨k,d,hk,a,rfl,ha,u,n,g⟩:=hrel;have C:Rb (k=q+d):=a;by_cases j:k<23
  ·have O:=li ha d (by omega);have P:=li n k j;have X:=bo _ _ k _ _ n;have Q:(k:Int)-(q:Int)=(d:Int):=(by omega);have L:(0:Int)<=(d:Int):=(by omega);have M:(d:Int)<23:=(by omega);by_cases z:d=0
   ·subst z;have I:=Mq f b q r s.o y.o;have A:k=q:=a;subst A;clear a;go_wp2;go_roundw
    case rel=>
     refine⟨k+1,1,by omega,rfl,by go_num,?_,?_,?_,g.setCell (by dsimp only;omega) _⟩
     ·exact(aO _ _ _ _ (by dsimp only;omega)).trans ha
     ·exact(aO _ _ _ _ (by dsimp only;omega)).trans u
     ·exact iY (aY _ _ _ _ _ _ n) (uZ k j fun t=>decide (b<=t)&&f (t-b))
    case measure=>simp[intOf];omega
   ·obtain⟨c,D⟩: ∃c,d=c+1:=⟨d-1,by omega⟩
    have I:=Et f b k q r d s.o y.o a;have J:=Mr f b k q r c s.o y.o (by omega);rw[<-D]at J;have R:(d:Int)-1=(c:Int):=(by omega);have S:IntKind.i64.wrap ((k:Int)-(q:Int))=(d:Int):=(by rw[bU];omega);have T:IntKind.i64.wrap ((d:Int)-1)=(c:Int):=(by rw[bU];omega);have U:IntKind.i64.wrap (64-(r:Int))=64-(r:Int):=(by rw[bU];omega);have V:(64-(r:Int)).toNat=64-r:=(by omega);have W:(0:Int)<=64-(r:Int):=(by omega);have j0:(0:Int)<=(c:Int):=(by omega);have j1:(c:Int)<23:=(by omega);have K:=li ha c (by omega);have hgt:(q:Int)<(k:Int):=(by omega);generalize (fun t=>decide (b<=t)&&decide (64*d<=t-b)&&f (t-b))=m at I J;have c1:(wr.setCell ⟨w.heap.size+1+1,k,none⟩ (.int .u64 (wd m k:Int))).cell? (ae w.heap.size c)=some (.int .u64 (wd f c:Int)):=(tY _ _ _ _ (by dsimp only;omega)).trans K;have l:=aY _ _ k _ _ (.int .u64 (wd m k:Int)) n
    have N:(wr.setCell ⟨w.heap.size+1+1,k,none⟩ (.int .u64 (wd m k:Int))).cell? (ae (w.heap.size+1+1) k)=some (.int .u64 (wd m k:Int)):=by
     rw[aZ _ _ k _ _ _ l];simp[di,j]
    have f2:=bo _ _ k _ _ l;have x:Rb ((wr.setCell ⟨w.heap.size+1+1,k,none⟩ (.int .u64 (wd m k:Int))).heap[w.heap.size+1+1]? =ah ((mv fun t=>decide (t<64*k)&&(decide (b<=t)&&f (t-b))).setIfInBounds k (.int .u64 (wd m k:Int))) 55):=l;clear l a D;go_wp2;go_region;go_wp2;go_roundw
    case rel=>
     have Y:=C.o;refine⟨k+1,d+1,by omega,by omega,by go_num,?_,?_,?_,((g.setCell (by dsimp only;omega) _).setCell (by dsimp only;omega) _).drew⟩
     ·exact((aO _ _ _ _ (by dsimp only;omega)).trans (aO _ _ _ _ (by dsimp only;omega))).trans ha
     ·exact((aO _ _ _ _ (by dsimp only;omega)).trans (aO _ _ _ _ (by dsimp only;omega))).trans u
     ·exact iY (aY _ _ _ _ _ _ x.o) (BQ k j (fun t=>decide (b<=t)&&f (t-b)) _)
    case measure=>simp[intOf];omega
  ·have p:k=23:=(by omega);subst p;have B:=iY n (Es _);clear n C a
   go_wp2_with(first
    |(refine aR rfl 55 _ rfl _ rfl _ _ _ _ B dm rfl (bl _) ?_)
    |(refine az rfl 55 _ _ rfl _ _ rfl rfl _ _ u (bl _) (by simp[di]) (dW _) ?_))
   refine aX (v:= .agg (mv fun t=>decide (b<=t)&&f (t-b))) ?_ rfl ⟨rfl,?_⟩
   ·exact bf rfl _ _ (w.heap.size+1) _ _ _ _ rfl (aL _ _ _ _ _ _ u) dm rfl (bl _)
   ·exact below_setRow g (by omega) _
theorem Ha (f:Nat->Bool)(b q d:Nat)(c:q=b/64)(a:23=q+d):(mv fun t=>decide (t<64*d)&&(decide (t+b<1472)&&f (t+b)))=mv fun t=>decide (t+b<1472)&&f (t+b):=jm fun t e=>by
 by_cases h:t<64*d
 ·simp[h]
 ·have: ¬t+b<1472:=by omega
  simp[this]
theorem Fp (f:Nat->Bool)(b i q r d:Nat)(e:q=b/64)(k:r=b%64)(c:i=q+d)(a:i=22):
  (wd f i:Int)/2^r=((wd (fun t=>decide (t+b<1472)&&f (t+b)) d:Nat):Int):=by
 rw[Av f b i q r d e k c]
 rw[nO (f:=fun t=>decide (t+b<64*(i+1))&&f (t+b)) (g:=fun t=>decide (t+b<1472)&&f (t+b)) fun j _=>by
  have:(64*d+j+b<64*(i+1))=(64*d+j+b<1472):=(by apply propext;omega);simp only[this]]
theorem DA (f:Nat->Bool)(b:Nat)(hb:b<1440)(w:World):
  Calls prog 120 #[.agg (mv f),ag b] w fun e w'=>e= .returned (.agg (mv fun t=>decide (t+b<1472)&&f (t+b)))/\aq w w':=by
 have hz:=eR;obtain⟨q,G⟩: ∃q:Nat,q=b/64:=⟨_,rfl⟩
 obtain⟨r,I⟩: ∃r:Nat,r=b%64:=⟨_,rfl⟩
 have x:Rb (q=b/64):=G;have A:Rb (r=b%64):=I;have t1:(b:Int)/64=(q:Int):=by omega
 have t2:(b:Int)%64=(r:Int):=by omega
 have H:q<23:=by omega
 have J:r<64:=by omega
 clear G I;go_enter func120,ntmps120;go_wp2
 go_loopw [8] (fun i wr=> ∃k d:Nat,k<=23/\k=q+d/\i=ag k/\wr.heap[w.heap.size]? =ah (mv f) 55/\wr.heap[w.heap.size+1]? =ah (mv fun _=>false) 55/\
  wr.heap[w.heap.size+1+1]? =ah (mv fun t=>decide (t<64*d)&&(decide (t+b<1472)&&f (t+b))) 55/\aq w wr) (fun i _=>23-(intOf i).toNat)
 case atStart=>
  refine⟨q,0,by omega,rfl,rfl,?_,?_,?_,?_⟩
  ·(repeat (first|refine dt _ _ _ (by simp only[aV];omega) ?_|exact dJ _ _ _ (by first|rfl|simp only[aV])))
  ·(repeat (first|refine dt _ _ _ (by simp only[aV];omega) ?_|exact dJ _ _ _ (by first|rfl|simp only[aV])))
  ·refine iY ?_ (BO _);(repeat (first|refine dt _ _ _ (by simp only[aV];omega) ?_|exact dJ _ _ _ (by first|rfl|simp only[aV])))
  ·exact((am _ _).alloc (by simp) _).alloc (by simp only[aV];omega) _
 case round=>
  obtain⟨k,d,hk,a,rfl,ha,y,p,j⟩:=hrel;have u:Rb (k=q+d):=a;by_cases S:k<23
  ·have U:=li ha k (by omega);have g:d<23:=(by omega);have V:=li p d g;have fm:=bo _ _ d _ _ p;have W:(k:Int)-(q:Int)=(d:Int):=(by omega);have Q:(0:Int)<=(d:Int):=(by omega);have R:(d:Int)<23:=(by omega);have K:=Av f b k q r d x.o A.o a;by_cases m:k=22
   ·have C:(22:Int)<=(k:Int):=(by omega);have p3:=Fp f b k q r d x.o A.o a m;have F:Rb (k=22):=m;clear K a m;go_wp2;go_roundw
    case rel=>
     have O:=u.o;have P:=F.o;refine⟨k+1,d+1,by omega,by omega,by go_num,?_,?_,?_,j.setCell (by dsimp only;omega) _⟩
     ·exact(aO _ _ _ _ (by dsimp only;omega)).trans ha
     ·exact(aO _ _ _ _ (by dsimp only;omega)).trans y
     ·exact iY (aY _ _ _ _ _ _ p) (uZ d g fun t=>decide (t+b<1472)&&f (t+b))
    case measure=>
     have P:=F.o;simp[intOf];omega
   ·have L:=G8 f b k q r d x.o A.o a (by omega);generalize (fun t=>decide (t+b<64*(k+1))&&f (t+b))=n at K L;obtain⟨c,B⟩: ∃c,c=k+1:=⟨_,rfl⟩
    rw[<-B]at L;have X:(k:Int)+1=(c:Int):=(by omega);have Y:IntKind.i64.wrap ((k:Int)-(q:Int))=(d:Int):=(by rw[bU];omega);have Z:IntKind.i64.wrap ((k:Int)+1)=(c:Int):=(by rw[bU];omega);have e5:IntKind.i64.wrap (64-(r:Int))=64-(r:Int):=(by rw[bU];omega);have e6:(64-(r:Int)).toNat=64-r:=(by omega);have e7:(0:Int)<=64-(r:Int):=(by omega);have j0:(0:Int)<=(c:Int):=(by omega);have j1:(c:Int)<23:=(by omega);have M:=li ha c (by omega);have c1:(wr.setCell ⟨w.heap.size+1+1,d,none⟩ (.int .u64 (wd n d:Int))).cell? (ae w.heap.size c)=some (.int .u64 (wd f c:Int)):=(tY _ _ _ _ (by dsimp only;omega)).trans M;have l:=aY _ _ d _ _ (.int .u64 (wd n d:Int)) p
    have T:(wr.setCell ⟨w.heap.size+1+1,d,none⟩ (.int .u64 (wd n d:Int))).cell? (ae (w.heap.size+1+1) d)=some (.int .u64 (wd n d:Int)):=by
     rw[aZ _ _ d _ _ _ l];simp[di,g]
    have f2:=bo _ _ d _ _ l;have z:Rb ((wr.setCell ⟨w.heap.size+1+1,d,none⟩ (.int .u64 (wd n d:Int))).heap[w.heap.size+1+1]? =ah ((mv fun t=>decide (t<64*d)&&(decide (t+b<1472)&&f (t+b))).setIfInBounds d (.int .u64 (wd n d:Int))) 55):=l;have E:Rb (c=k+1):=B;clear l a B;go_wp2;go_region;go_wp2;go_roundw
    case rel=>
     have O:=u.o;have N:=E.o;refine⟨c,d+1,by omega,by omega,by go_num,?_,?_,?_,((j.setCell (by dsimp only;omega) _).setCell (by dsimp only;omega) _).drew⟩
     ·exact((aO _ _ _ _ (by dsimp only;omega)).trans (aO _ _ _ _ (by dsimp only;omega))).trans ha
     ·exact((aO _ _ _ _ (by dsimp only;omega)).trans (aO _ _ _ _ (by dsimp only;omega))).trans y
     ·refine iY (aY _ _ _ _ _ _ z.o) ?_;exact BQ d g (fun t=>decide (t+b<1472)&&f (t+b)) _
    case measure=>
     have N:=E.o;simp[intOf];omega
  ·have s:k=23:=(by omega);subst s;have D:=iY p (Ha f b q d x.o u.o);clear p u a
   go_wp2_with(first
    |(refine aR rfl 55 _ rfl _ rfl _ _ _ _ D dm rfl (bl _) ?_)
    |(refine az rfl 55 _ _ rfl _ _ rfl rfl _ _ y (bl _) (by simp[di]) (dW _) ?_))
   refine aX (v:= .agg (mv fun t=>decide (t+b<1472)&&f (t+b))) ?_ rfl ⟨rfl,?_⟩
   ·exact bf rfl _ _ (w.heap.size+1) _ _ _ _ rfl (aL _ _ _ _ _ _ y) dm rfl (bl _)
   ·exact below_setRow j (by omega) _
def shf (f:Nat->Bool)(x:Int)(t:Nat):Bool:=decide (t<1440)&&(decide (x<=(t:Int))&&(decide ((t:Int)-x<1440)&&f ((t:Int)-x).toNat))
theorem BR (f:Nat->Bool)(x:Int)(h:x<= -1440\/1440<=x):(mv fun _=>false)=mv (shf f x):=jm fun t _=>by
 unfold shf;by_cases a:t<1440
 ·by_cases b:x<=(t:Int)
  ·have: ¬(t:Int)-x<1440:=(by omega);simp[this]
  ·simp[b]
 ·simp[a]
theorem Ou (f:Nat->Bool)(b:Nat):(mv fun t=>(decide (b<=t)&&f (t-b))&&decide (t<1440))=mv (shf f (b:Int)):=jm fun t _=>by
 unfold shf;by_cases a:t<1440
 ·by_cases c:b<=t
  ·have d:((t:Int)-(b:Int)).toNat=t-b:=(by omega);have e:(b:Int)<=(t:Int):=(by omega);have g:(t:Int)-(b:Int)<1440:=(by omega);simp[a,c,d,g]
  ·have e: ¬(b:Int)<=(t:Int):=(by omega);simp[c]
 ·simp[a]
theorem J9 (f:Nat->Bool)(b:Nat):(mv fun t=>decide (t+b<1472)&&(f (t+b)&&decide (t+b<1440)))=mv (shf f (-(b:Int))):=jm fun t _=>by
 unfold shf;by_cases c:t+b<1440
 ·have d:((t:Int)- -(b:Int)).toNat=t+b:=by omega
  have e: -(b:Int)<=(t:Int):=(by omega);have a:(t:Int)- -(b:Int)<1440:=(by omega);have g:t+b<1472:=(by omega);have i:t<1440:=(by omega);rw[d];simp only[c,e,a,g,i,decide_true,ip,Bool.and_true]
 ·have a: ¬(t:Int)- -(b:Int)<1440:=by omega
  simp only[c,a,decide_false,jo,Bool.false_and]
theorem xV (f:Nat->Bool)(x:Int)(w:World)(s: -9223372036854775808<=x)(u:x<=9223372036854775807):
  Calls prog 83 #[.agg (mv f),ag x] w fun e w'=>e= .returned (.agg (mv (shf f x)))/\aq w w':=by
 have z:=eR;have o:((w.alloc (.cells (mv f) 55)).alloc (.cells (mv fun _=>false) 55)).heap[w.heap.size]? =ah (mv f) 55:=by(repeat (first|refine dt _ _ _ (by simp only[aV];omega) ?_|exact dJ _ _ _ (by first|rfl|simp only[aV])))
 have m:((w.alloc (.cells (mv f) 55)).alloc (.cells (mv fun _=>false) 55)).heap[w.heap.size+1]? =ah (mv fun _=>false) 55:=by(repeat (first|refine dt _ _ _ (by simp only[aV];omega) ?_|exact dJ _ _ _ (by first|rfl|simp only[aV])))
 have j:aq w ((w.alloc (.cells (mv f) 55)).alloc (.cells (mv fun _=>false) 55)):=(am _ _).alloc (by simp) _;rcases(show(x<= -1440)\/(1440<=x)\/(-1440<x/\x<0)\/(0<=x/\x<1440) from by omega) with h|h|⟨h,q⟩|⟨h,q⟩
 ·rw[<-BR f x (.inl h)];go_enter func83,ntmps83;go_wp2_with(refine az rfl 55 _ _ rfl _ _ rfl rfl _ _ m (bl _) (by simp[di]) (dW _) ?_)
  refine aX (v:= .agg (mv fun _=>false)) ?_ rfl ⟨rfl,below_setRow j (by omega) _⟩;exact bf rfl _ _ (w.heap.size+1) _ _ _ _ rfl (aL _ _ _ _ _ _ m) dm rfl (bl _)
 ·rw[<-BR f x (.inr h)];have r: ¬x<= -1440:=(by omega);go_enter func83,ntmps83;go_wp2_with(refine az rfl 55 _ _ rfl _ _ rfl rfl _ _ m (bl _) (by simp[di]) (dW _) ?_)
  refine aX (v:= .agg (mv fun _=>false)) ?_ rfl ⟨rfl,below_setRow j (by omega) _⟩;exact bf rfl _ _ (w.heap.size+1) _ _ _ _ rfl (aL _ _ _ _ _ _ m) dm rfl (bl _)
 ·obtain⟨b,y⟩: ∃b:Nat,-x=b:=⟨(-x).toNat,by omega⟩
  have l:b<1440:=(by omega);have p:x= -(b:Int):=(by omega);have i:=J9 f b;rw[<-p]at i;rw[<-i];clear i p;go_enter func83,ntmps83
  go_wp2_with(first
   |(refine aR rfl 55 _ rfl _ rfl _ _ _ _ o dm rfl (bl _) ?_)
   |(go_at_call 84;refine(wu _ _).mono ?_;rintro e w' ⟨rfl,d⟩;have g:=ai d m)
   |(go_at_call 120;refine(DA _ _ l _).mono ?_;rintro e n ⟨rfl,a⟩;have c:=(a.block _ (aI g)).trans g)
   |(refine az rfl 55 _ _ rfl _ _ rfl rfl _ _ c (bl _) (by simp[di]) (dW _) ?_))
  refine aX (v:= .agg (mv fun t=>decide (t+b<1472)&&(f (t+b)&&decide (t+b<1440)))) ?_ rfl ⟨rfl,?_⟩
  ·exact bf rfl _ _ (w.heap.size+1) _ _ _ _ rfl (aL _ _ _ _ _ _ c) dm rfl (bl _)
  ·have k:=aw j d;exact below_setRow (aw k a) (by omega) _
 ·obtain⟨b,rfl⟩: ∃b:Nat,x=b:=⟨x.toNat,by omega⟩
  rw[<-Ou f b];have l:b<1440:=(by omega);go_enter func83,ntmps83
  go_wp2_with(first
   |(refine aR rfl 55 _ rfl _ rfl _ _ _ _ o dm rfl (bl _) ?_)
   |(go_at_call 121;refine(G9 _ _ l _).mono ?_;rintro e w' ⟨rfl,d⟩;have g:=ai d m)
   |(go_at_call 84;refine(wu _ _).mono ?_;rintro e n ⟨rfl,a⟩;have c:=(a.block _ (aI g)).trans g)
   |(refine az rfl 55 _ _ rfl _ _ rfl rfl _ _ c (bl _) (by simp[di]) (dW _) ?_))
  refine aX (v:= .agg (mv fun t=>(decide (b<=t)&&f (t-b))&&decide (t<1440))) ?_ rfl ⟨rfl,?_⟩
  ·exact bf rfl _ _ (w.heap.size+1) _ _ _ _ rfl (aL _ _ _ _ _ _ c) dm rfl (bl _)
  ·have k:=aw j d;exact below_setRow (aw k a) (by omega) _
end Go.Proofs.YtlkehieagdkgiaaGreatDoor
