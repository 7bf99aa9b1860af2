/- Texts of the proof. -/
import Derived.Deep.RegionHeld3
import Derived.Deep.DrawnRows
import Derived.Laws.CopyOwn
import Derived.Lib.TrailingZeros
import Derived.Test.YtpdoienkhgnceaaGreatDoorPtZb
set_option maxRecDepth 100000
set_option maxHeartbeats 8000000
namespace Go.Proofs.YtpdoienkhgnceaaGreatDoor
open Go.Proofs.Tryz Go.RowKit Lx Vx Mx Msk
namespace Msk
def num (p:Nat->Bool):Nat->Nat
 |0=>0
 |n+1=>num p n+if p n then 2^n else 0
theorem yL (p:Nat->Bool): ∀n,num p n<2^n
 |0=>by simp[num]
 |n+1=>by
  have:=yL p n;simp only[num,Nat.pow_succ];split<;>omega
theorem vT (p:Nat->Bool)(j:Nat): ∀n,(num p n).testBit j=(decide (j<n)&&p j)
 |0=>by simp[num]
 |n+1=>by
  have g:=yL p n;have d:=vT p j n;simp only[num];by_cases b:p n=true
  ·rw[ax b,Nat.add_comm];by_cases a:j<n
   ·rw[Nat.testBit_two_pow_add_gt a,d];have:j<n+1:=(by omega);simp[a,this]
   ·by_cases c:j=n
    ·subst c;rw[Nat.testBit_two_pow_add_eq,d];simp[b]
    ·have e: ¬j<n+1:=(by omega);have f:2^(n+1)<=2^j:=Nat.pow_le_pow_right (by omega) (by omega);rw[Nat.testBit_lt_two_pow (by rw[Nat.pow_succ]at f;omega)];simp[e]
  ·rw[aw b,Nat.add_zero,d];by_cases c:j=n
   ·subst c;simp at b;simp[b]
   ·by_cases a:j<n
    ·have:j<n+1:=(by omega);simp[a,this]
    ·have: ¬j<n+1:=(by omega);simp[a,this]
theorem JB (p:Nat->Bool)(n x:Nat)(b:x<2^n)(h: ∀j,j<n->x.testBit j=p j):x=num p n:=by
 apply Nat.eq_of_testBit_eq;intro j;rw[vT];by_cases a:j<n
 ·simp[a,h j a]
 ·have:2^n<=2^j:=Nat.pow_le_pow_right (by omega) (by omega);rw[Nat.testBit_lt_two_pow (by omega)];simp[a]
theorem OM {p q:Nat->Bool}{n:Nat}(h: ∀j,j<n->p j=q j):num p n=num q n:=
 JB q n _ (yL p n) fun j a=>by rw[vT];simp[a,h j a]
def wd (f:Nat->Bool)(k:Nat):Nat:=num (fun j=>f (64*k+j)) 64
theorem iq (f:Nat->Bool)(k:Nat):wd f k<18446744073709551616:=yL _ 64
theorem jy (f:Nat->Bool)(k j:Nat):(wd f k).testBit j=(decide (j<64)&&f (64*k+j)):=vT _ j 64
theorem oy (f:Nat->Bool)(k x:Nat)(a:x<18446744073709551616)(h: ∀j,j<64->x.testBit j=f (64*k+j)):x=wd f k:=
 JB _ 64 x a h
theorem oz {f g:Nat->Bool}{k:Nat}(h: ∀j,j<64->f (64*k+j)=g (64*k+j)):wd f k=wd g k:=OM h
theorem QJ {f g:Nat->Bool}{k:Nat}(h:wd f k=wd g k)(j:Nat)(b:j<64):f (64*k+j)=g (64*k+j):=by
 have a:=jy f k j;rw[h,jy]at a;simpa[b] using a.symm
theorem JC (f g:Nat->Bool)(k:Nat):wd f k&&&wd g k=wd (fun i=>f i&&g i) k:=by
 refine oy _ k _ (show wd f k&&&wd g k<2^64 from Nat.and_lt_two_pow _ (iq g k)) fun j a=> ?_;rw[Nat.testBit_and,jy,jy];simp[a]
theorem CO (f g:Nat->Bool)(k:Nat):wd f k|||wd g k=wd (fun i=>f i||g i) k:=by
 refine oy _ k _ (show wd f k|||wd g k<2^64 from Nat.or_lt_two_pow (iq f k) (iq g k)) fun j a=> ?_;rw[Nat.testBit_or,jy,jy];simp[a]
theorem JD (f g:Nat->Bool)(k:Nat):wd f k&&&(18446744073709551616-(wd g k+1))=wd (fun i=>f i&& !g i) k:=by
 refine oy _ k _ (Nat.lt_of_le_of_lt Nat.and_le_left (iq f k)) fun j a=> ?_;have e:(18446744073709551616:Nat)=2^64:=by decide
 rw[Nat.testBit_and,e,Nat.testBit_two_pow_sub_succ (iq g k),jy,jy];simp[a]
theorem Ga (k:Nat):wd (fun _=>false) k=0:=by
 have:(0:Nat)=wd (fun _=>false) k:=oy _ k 0 (by omega) (by simp);exact this.symm
theorem AH (x r j:Nat)(a:j<64):(x*2^r%18446744073709551616).testBit j=(decide (r<=j)&&x.testBit (j-r)):=by
 have e:(18446744073709551616:Nat)=2^64:=by decide
 rw[e,Nat.testBit_mod_two_pow,Nat.testBit_mul_two_pow];simp[a]
theorem vU (x r j:Nat):(x/2^r).testBit j=x.testBit (j+r):=by
 rw[Nat.testBit_div_two_pow]
theorem C2 (n j:Nat):(2^n-1).testBit j=decide (j<n):=by
 rw[Nat.testBit_two_pow_sub_one]
def cnt (f:Nat->Bool):Nat->Nat
 |0=>0
 |n+1=>cnt f n+if f n then 1 else 0
theorem QK (f:Nat->Bool): ∀n,cnt f n<=n
 |0=>by simp[cnt]
 |n+1=>by have:=QK f n;simp only[cnt];split<;>omega
theorem AI {f g:Nat->Bool}: ∀{n:Nat},(∀j,j<n->f j=g j)->cnt f n=cnt g n
 |0,_=>rfl
 |n+1,h=>by
  have:=AI (n:=n) fun j a=>h j (by omega);simp only[cnt,this,h n (by omega)]
theorem AK (f:Nat->Bool)(a:Nat): ∀n,cnt f (a+n)=cnt f a+cnt (fun j=>f (a+j)) n
 |0=>by simp[cnt]
 |n+1=>by
  have:=AK f a n;rw[<-Nat.add_assoc];simp only[cnt,this];omega
theorem JE {f:Nat->Bool}{n:Nat}(h: ∀j,j<n->f j=false):cnt f n=0:=by
 have e:cnt f n=cnt (fun _=>false) n:=AI h
 have z: ∀n,cnt (fun _=>false) n=0:=by
  intro n;induction n with
  |zero=>rfl
  |succ n a=>simp[cnt,a]
 rw[e,z]
theorem Mj {f:Nat->Bool}{n:Nat}(h: ∀j,j<n->f j=true):cnt f n=n:=by
 have e:cnt f n=cnt (fun _=>true) n:=AI h
 have z: ∀n,cnt (fun _=>true) n=n:=by
  intro n;induction n with
  |zero=>rfl
  |succ n a=>simp[cnt,a]
 rw[e,z]
end Msk
def mv (f:Nat->Bool):Array Value:=Array.ofFn (n:=23) fun k=>Value.int .u64 (wd f k.val:Int)
theorem bU (f:Nat->Bool):(mv f).size=23:=by simp[mv]
theorem pY (f:Nat->Bool)(k:Nat)(a:k<23):(mv f)[k]? =some (.int .u64 (wd f k:Int)):=by
 simp[mv,a]
theorem dI (f:Nat->Bool):(mv f).all (·.oneCell')=true:=by
 rw[Array.all_eq_true];intro i hi;simp[mv,Value.oneCell']
theorem jj {f g:Nat->Bool}(h: ∀i,i<1472->f i=g i):mv f=mv g:=by
 unfold mv;congr 1;funext k;have b:=k.isLt;rw[oz (f:=f) (g:=g) fun j a=>h _ (by omega)]
theorem C3 (f g:Nat->Bool)(k:Nat)(b:k<23):(mv f).setIfInBounds k (.int .u64 (wd g k:Int))=mv (fun i=>if i/64=k then g i else f i):=by
 apply Array.ext_getElem?;intro i;rw[Array.getElem?_setIfInBounds];by_cases hi:k=i
 ·subst hi;rw[ax rfl,ax (by rw[bU];exact b),pY _ k b];rw[oz (f:=g) (g:=fun i=>if i/64=k then g i else f i) fun j c=>by rw[ax (by omega)]]
 ·rw[aw hi];by_cases a:i<23
  ·rw[pY _ i a,pY _ i a];rw[oz (f:=f) (g:=fun i=>if i/64=k then g i else f i) fun j c=>by rw[aw (by omega)]]
  ·rw[Array.getElem?_eq_none (by rw[bU];omega),Array.getElem?_eq_none (by rw[bU];omega)]
theorem ON:mv (fun _=>false)=Array.replicate 23 (.int .u64 0):=by
 apply Array.ext_getElem?;intro i;by_cases a:i<23
 ·rw[pY _ i a,Ga];simp[a]
 ·rw[Array.getElem?_eq_none (by rw[bU];omega)];simp[a]
theorem ea:(#[.int .u64 0, .int .u64 0, .int .u64 0, .int .u64 0, .int .u64 0, .int .u64 0, .int .u64 0, .int .u64 0, .int .u64 0, .int .u64 0, .int .u64 0, .int .u64 0, .int .u64 0, .int .u64 0, .int .u64 0, .int .u64 0, .int .u64 0, .int .u64 0, .int .u64 0, .int .u64 0, .int .u64 0, .int .u64 0, .int .u64 0]:Array Value)=mv (fun _=>false):=by rw[ON];rfl
theorem Hb (a b:Nat)(ha:a<18446744073709551616)(f:b<18446744073709551616):
  bits .andNot .u64 (a:Int) (b:Int)=((a&&&(18446744073709551616-(b+1)):Nat):Int):=by
 have c:(BitVec.ofInt 64 (a:Int)).toNat=a:=by
  rw[BitVec.ofInt_natCast,BitVec.toNat_ofNat];exact Nat.mod_eq_of_lt (by omega)
 have d:(BitVec.ofInt 64 (b:Int)).toNat=b:=by
  rw[BitVec.ofInt_natCast,BitVec.toNat_ofNat];exact Nat.mod_eq_of_lt (by omega)
 have g:a&&&(18446744073709551616-(b+1))<=a:=Nat.and_le_left;show IntKind.u64.wrap ((BitVec.ofInt 64 (a:Int)&&& ~~~BitVec.ofInt 64 (b:Int)).toNat:Int)=_;have e:(2:Nat)^64-1-b=18446744073709551616-(b+1):=by omega
 rw[BitVec.toNat_and,BitVec.toNat_not,c,d,ie,e];omega
theorem JF:(4294967295:Nat)=wd (fun i=>decide (i<1440)) 22:=by
 refine oy _ 22 _ (by omega) fun j a=> ?_;have e:(4294967295:Nat)=2^32-1:=by decide
 rw[e,C2];have:(j<32)=(64*22+j<1440):=by apply propext;omega
 simp only[this]
theorem OO (f:Nat->Bool):(mv f).setIfInBounds 22 (.int .u64 (bits .and .u64 (wd f 22:Int) 4294967295))=mv fun i=>f i&&decide (i<1440):=by
 have e:bits .and .u64 (wd f 22:Int) 4294967295=((wd (fun i=>f i&&decide (i<1440)) 22:Nat):Int):=by
  have:=bits_and_u64_nat (wd f 22) 4294967295 (iq f 22) (by omega);rw[<-JC f (fun i=>decide (i<1440)) 22,<-JF];exact this
 rw[e,C3 _ _ 22 (by omega)];refine jj fun i hi=> ?_;by_cases h:i/64=22
 ·rw[ax h]
 ·rw[aw h];have:i<1440:=(by omega);simp[this]
theorem lj {w:World}{g:Nat}{f:Nat->Bool}{t:TypeId}(a:w.heap[g]? =ah (mv f) t)(k:Nat)(b:k<23):w.cell? (ae g k)=some (.int .u64 (wd f k:Int)):=by
 rw[aW w g k _ t (0,0) a,pY f k b]
theorem uG (w:World)(a:Addr)(v:Value)(p:Addr)(h:p.block≠a.block):(w.setCell a v).drew.cell? p=w.cell? p:=
 dP (w:=w) (Below.heap_setCell w a v p.block h)
theorem C4 (h:Nat->Bool):mv (fun _=>false)=mv (fun i=>decide (i<64*0)&&h i):=jj fun i _=>by simp
theorem vV (k:Nat)(a:k<23)(h:Nat->Bool):(mv fun i=>decide (i<64*k)&&h i).setIfInBounds k (.int .u64 (wd h k:Int))=mv fun i=>decide (i<64*(k+1))&&h i:=by
 rw[C3 _ _ k a];refine jj fun i hi=> ?_;by_cases h:i/64=k
 ·have:i<64*(k+1):=by omega
  simp[h,this]
 ·have:(i<64*k)=(i<64*(k+1)):=by apply propext;omega
  simp only[h,if_false,this]
theorem Gb (h:Nat->Bool):(mv fun i=>decide (i<64*23)&&h i)=mv h:=jj fun i hi=>by
 have:i<64*23:=by omega
 simp[this]
theorem iX {w:World}{g:Nat}{c a:Array Value}{t:TypeId}(b:w.heap[g]? =ah c t)(e:c=a):w.heap[g]? =ah a t:=by rw[b,e]
theorem aP (w:World)(o:Obj):(w.alloc o).heap.size=w.heap.size+1:=by show(w.heap.push o).size=_;simp
theorem dA (w:World)(o:Obj)(k:Nat)(h:k=w.heap.size):(w.alloc o).heap[k]? =some o:=by subst h;exact aB w o
theorem dh (w:World)(o:Obj)(k:Nat)(h:k<w.heap.size){x:Obj}(a:w.heap[k]? =some x):(w.alloc o).heap[k]? =some x:=(dD w o k h).trans a
theorem bg (f:Nat->Bool):(prog.info? 39).map (·.size)=some (mv f).size:=by rw[bU];kernel_rfl
theorem cj:prog.underlying 39=some (.array 23 37):=by kernel_rfl
section
theorem xE (f:Nat->Bool)(w:World):
  Calls prog 136 #[.agg (mv f)] w fun e c=>e= .returned (.agg (mv fun i=>f i&&decide (i<1440)))/\ao w c:=by
 have b:=pY f 22 (by omega);have a:=OO f;have d:=ea;go_enter func136,ntmps136
 go_wp2_with(first
  |(refine aO rfl 39 _ rfl _ rfl _ _ _ _ (heap_alloc2_old _ _ _) cj rfl (bg _) ?_)
  |(refine aC rfl 39 _ _ rfl _ _ rfl rfl _ _ (heap_alloc2_new _ _ _) (bg _) (by simp[bU]) (dI _) ?_))
 refine aX (v:= .agg (mv fun i=>f i&&decide (i<1440))) ?_ rfl ⟨rfl,?_⟩
 ·exact bn rfl _ _ (w.heap.size+1) _ _ _ _ rfl (aK _ _ _ _ _ _ (heap_alloc2_new _ _ _)) cj rfl (bg _)
 ·exact below_setRow ((am _ _).alloc (by simp) _) (by omega) _
attribute [local go_sem↓] Go.wp_at_zero Go.wp_at_succ
theorem sM (K:Nat)(o:Bool->Bool->Bool)(u: ∀(f g:Nat->Bool) (k:Nat) (w:World),Calls prog K #[.int .u64 (wd f k:Int),.int .u64 (wd g k:Int)] w fun e l=>e= .returned (.int .u64 (wd (fun i=>o (f i) (g i)) k:Int))/\l=w)
  (C: ∀d w,(callFunc K d).run prog w= .ok (.enter K d) w) (a b:Nat->Bool) (w:World):
  Calls prog 131 #[.agg (mv a),.agg (mv b),.func (.func K) #[] #[]] w fun e l=>e= .returned (.agg (mv fun i=>o (a i) (b i)&&decide (i<1440)))/\ao w l:=by
 have F:=ea;go_enter func131,ntmps131;go_wp2
 go_loopw [9] (fun i wr=> ∃k:Nat,k<=23/\i=ag k/\wr.heap[w.heap.size]? =ah (mv a) 39/\wr.heap[w.heap.size+1]? =ah (mv b) 39/\wr.heap[w.heap.size+1+1]? =ah (mv fun _=>false) 39/\
  wr.heap[w.heap.size+1+1+1]? =ah (mv fun i=>decide (i<64*k)&&o (a i) (b i)) 39/\ao w wr) (fun i _=>23-(intOf i).toNat)
 case atStart=>
  refine⟨0,by omega,rfl,?_,?_,?_,?_,?_⟩
  ·(repeat (first|refine dh _ _ _ (by simp only[aP];omega) ?_|exact dA _ _ _ (by first|rfl|simp only[aP])))
  ·(repeat (first|refine dh _ _ _ (by simp only[aP];omega) ?_|exact dA _ _ _ (by first|rfl|simp only[aP])))
  ·(repeat (first|refine dh _ _ _ (by simp only[aP];omega) ?_|exact dA _ _ _ (by first|rfl|simp only[aP])))
  ·refine iX ?_ (C4 _);(repeat (first|refine dh _ _ _ (by simp only[aP];omega) ?_|exact dA _ _ _ (by first|rfl|simp only[aP])))
  ·exact(((am _ _).alloc (by simp) _).alloc (by simp;omega) _).alloc (by simp;omega) _
 case round=>
  obtain⟨k,E,rfl,ha,t,r,p,j⟩:=hrel;by_cases c:k<23
  ·have z:=lj ha k c;have A:=lj t k c;have B:=lj p k c;have D:=bu _ _ k _ _ p;have x:(0:Int)<=(k:Int):=(by omega);have y:(k:Int)<23:=(by omega);have G:w.heap.size+1+1+1≠w.heap.size:=(by omega);have H:w.heap.size+1+1≠w.heap.size:=(by omega);go_wp2
   go_region_held3 (fun l=>l.cell? (ae w.heap.size k)=some (.int .u64 (wd a k:Int))/\l.cell? (ae (w.heap.size+1) k)=some (.int .u64 (wd b k:Int)))
    (go_keep)
    ((refine(u a b k _).mono ?_;rintro e l ⟨rfl,rfl⟩))
   go_wp2;go_roundw
   case rel=>
    refine⟨k+1,by omega,by go_num,?_,?_,?_,?_,?_⟩
    ·exact(aM _ _ _ _ (by dsimp only;omega)).trans ha
    ·exact(aM _ _ _ _ (by dsimp only;omega)).trans t
    ·exact(aM _ _ _ _ (by dsimp only;omega)).trans r
    ·exact iX (aY _ _ _ _ _ _ p) (vV k c fun i=>o (a i) (b i))
    ·exact(j.setCell (by dsimp only;omega) _).drew
   case measure=>simp[intOf];omega
  ·have n:k=23:=(by omega);subst n;have q:=iX p (Gb fun i=>o (a i) (b i));clear p
   go_wp2_with(first
    |(refine aO rfl 39 _ rfl _ rfl _ _ _ _ q cj rfl (bg _) ?_)
    |(go_at_call 136;refine(xE _ _).mono ?_;rintro e l ⟨rfl,m⟩;have s:=(m.block (w.heap.size+1+1) (aH r)).trans r)
    |(refine aC rfl 39 _ _ rfl _ _ rfl rfl _ _ (by assumption) (bg _) (by simp[bU]) (dI _) ?_))
   refine aX (v:= .agg (mv fun i=>o (a i) (b i)&&decide (i<1440))) ?_ rfl ⟨rfl,?_⟩
   ·exact bn rfl _ _ (w.heap.size+1+1) _ _ _ _ rfl (aK _ _ _ _ _ _ s) cj rfl (bg _)
   ·exact below_setRow (au j m) (by omega) _
theorem QL (f g:Nat->Bool)(k:Nat)(w:World):Calls prog 132 #[.int .u64 (wd f k:Int),.int .u64 (wd g k:Int)] w fun e b=>e= .returned (.int .u64 (wd (fun i=>f i||g i) k:Int))/\b=w:=by
 have a:=bits_or_u64_nat _ _ (iq f k) (iq g k);rw[CO]at a;go_enter func132,ntmps132;go_wp2;go_ret;exact⟨rfl,rfl⟩
theorem OP (f g:Nat->Bool)(k:Nat)(w:World):Calls prog 134 #[.int .u64 (wd f k:Int),.int .u64 (wd g k:Int)] w fun e b=>e= .returned (.int .u64 (wd (fun i=>f i&&g i) k:Int))/\b=w:=by
 have a:=bits_and_u64_nat _ _ (iq f k) (iq g k);rw[JC]at a;go_enter func134,ntmps134;go_wp2;go_ret;exact⟨rfl,rfl⟩
theorem OQ (f g:Nat->Bool)(k:Nat)(w:World):Calls prog 133 #[.int .u64 (wd f k:Int),.int .u64 (wd g k:Int)] w fun e b=>e= .returned (.int .u64 (wd (fun i=>f i&& !g i) k:Int))/\b=w:=by
 have a:=Hb _ _ (iq f k) (iq g k);rw[JD]at a;go_enter func133,ntmps133;go_wp2;go_ret;exact⟨rfl,rfl⟩
theorem Bo (a b:Nat->Bool)(w:World):
  Calls prog 86 #[.agg (mv a),.agg (mv b)] w fun e g=>e= .returned (.agg (mv fun i=>(a i||b i)&&decide (i<1440)))/\ao w g:=by
 have m:=ea;have j:(((w.alloc (.cells (mv a) 39)).alloc (.cells (mv b) 39)).alloc (.cells (mv fun _=>false) 39)).heap[w.heap.size]? =ah (mv a) 39:=by(repeat (first|refine dh _ _ _ (by simp only[aP];omega) ?_|exact dA _ _ _ (by first|rfl|simp only[aP])))
 have k:(((w.alloc (.cells (mv a) 39)).alloc (.cells (mv b) 39)).alloc (.cells (mv fun _=>false) 39)).heap[w.heap.size+1]? =ah (mv b) 39:=by(repeat (first|refine dh _ _ _ (by simp only[aP];omega) ?_|exact dA _ _ _ (by first|rfl|simp only[aP])))
 have l:(((w.alloc (.cells (mv a) 39)).alloc (.cells (mv b) 39)).alloc (.cells (mv fun _=>false) 39)).heap[w.heap.size+1+1]? =ah (mv fun _=>false) 39:=by(repeat (first|refine dh _ _ _ (by simp only[aP];omega) ?_|exact dA _ _ _ (by first|rfl|simp only[aP])))
 have d:ao w (((w.alloc (.cells (mv a) 39)).alloc (.cells (mv b) 39)).alloc (.cells (mv fun _=>false) 39)):=((am _ _).alloc (by simp) _).alloc (by simp only[aP];omega) _;go_enter func86,ntmps86
 go_wp2_with(first
  |(refine aO rfl 39 _ rfl _ rfl _ _ _ _ j cj rfl (bg _) ?_)
  |(refine aO rfl 39 _ rfl _ rfl _ _ _ _ k cj rfl (bg _) ?_)
  |(go_at_call 131;refine(sM 132 (fun x y=>x||y) QL (fun _ _=>by simp[go_sem]) a b _).mono ?_;rintro e g ⟨rfl,c⟩;have f:=ai c l)
  |(refine aC rfl 39 _ _ rfl _ _ rfl rfl _ _ (by assumption) (bg _) (by simp[bU]) (dI _) ?_))
 refine aX (v:= .agg (mv fun i=>(a i||b i)&&decide (i<1440))) ?_ rfl ⟨rfl,?_⟩
 ·exact bn rfl _ _ (w.heap.size+1+1) _ _ _ _ rfl (aK _ _ _ _ _ _ f) cj rfl (bg _)
 ·exact below_setRow (au d c) (by omega) _
theorem ro (a b:Nat->Bool)(w:World):
  Calls prog 87 #[.agg (mv a),.agg (mv b)] w fun e g=>e= .returned (.agg (mv fun i=>(a i&& !b i)&&decide (i<1440)))/\ao w g:=by
 have m:=ea;have j:(((w.alloc (.cells (mv a) 39)).alloc (.cells (mv b) 39)).alloc (.cells (mv fun _=>false) 39)).heap[w.heap.size]? =ah (mv a) 39:=by(repeat (first|refine dh _ _ _ (by simp only[aP];omega) ?_|exact dA _ _ _ (by first|rfl|simp only[aP])))
 have k:(((w.alloc (.cells (mv a) 39)).alloc (.cells (mv b) 39)).alloc (.cells (mv fun _=>false) 39)).heap[w.heap.size+1]? =ah (mv b) 39:=by(repeat (first|refine dh _ _ _ (by simp only[aP];omega) ?_|exact dA _ _ _ (by first|rfl|simp only[aP])))
 have l:(((w.alloc (.cells (mv a) 39)).alloc (.cells (mv b) 39)).alloc (.cells (mv fun _=>false) 39)).heap[w.heap.size+1+1]? =ah (mv fun _=>false) 39:=by(repeat (first|refine dh _ _ _ (by simp only[aP];omega) ?_|exact dA _ _ _ (by first|rfl|simp only[aP])))
 have d:ao w (((w.alloc (.cells (mv a) 39)).alloc (.cells (mv b) 39)).alloc (.cells (mv fun _=>false) 39)):=((am _ _).alloc (by simp) _).alloc (by simp only[aP];omega) _;go_enter func87,ntmps87
 go_wp2_with(first
  |(refine aO rfl 39 _ rfl _ rfl _ _ _ _ j cj rfl (bg _) ?_)
  |(refine aO rfl 39 _ rfl _ rfl _ _ _ _ k cj rfl (bg _) ?_)
  |(go_at_call 131;refine(sM 133 (fun x y=>x&& !y) OQ (fun _ _=>by simp[go_sem]) a b _).mono ?_;rintro e g ⟨rfl,c⟩;have f:=ai c l)
  |(refine aC rfl 39 _ _ rfl _ _ rfl rfl _ _ (by assumption) (bg _) (by simp[bU]) (dI _) ?_))
 refine aX (v:= .agg (mv fun i=>(a i&& !b i)&&decide (i<1440))) ?_ rfl ⟨rfl,?_⟩
 ·exact bn rfl _ _ (w.heap.size+1+1) _ _ _ _ rfl (aK _ _ _ _ _ _ f) cj rfl (bg _)
 ·exact below_setRow (au d c) (by omega) _
theorem C5 (a b:Nat->Bool)(w:World):
  Calls prog 88 #[.agg (mv a),.agg (mv b)] w fun e g=>e= .returned (.agg (mv fun i=>(a i&&b i)&&decide (i<1440)))/\ao w g:=by
 have m:=ea;have j:(((w.alloc (.cells (mv a) 39)).alloc (.cells (mv b) 39)).alloc (.cells (mv fun _=>false) 39)).heap[w.heap.size]? =ah (mv a) 39:=by(repeat (first|refine dh _ _ _ (by simp only[aP];omega) ?_|exact dA _ _ _ (by first|rfl|simp only[aP])))
 have k:(((w.alloc (.cells (mv a) 39)).alloc (.cells (mv b) 39)).alloc (.cells (mv fun _=>false) 39)).heap[w.heap.size+1]? =ah (mv b) 39:=by(repeat (first|refine dh _ _ _ (by simp only[aP];omega) ?_|exact dA _ _ _ (by first|rfl|simp only[aP])))
 have l:(((w.alloc (.cells (mv a) 39)).alloc (.cells (mv b) 39)).alloc (.cells (mv fun _=>false) 39)).heap[w.heap.size+1+1]? =ah (mv fun _=>false) 39:=by(repeat (first|refine dh _ _ _ (by simp only[aP];omega) ?_|exact dA _ _ _ (by first|rfl|simp only[aP])))
 have d:ao w (((w.alloc (.cells (mv a) 39)).alloc (.cells (mv b) 39)).alloc (.cells (mv fun _=>false) 39)):=((am _ _).alloc (by simp) _).alloc (by simp only[aP];omega) _;go_enter func88,ntmps88
 go_wp2_with(first
  |(refine aO rfl 39 _ rfl _ rfl _ _ _ _ j cj rfl (bg _) ?_)
  |(refine aO rfl 39 _ rfl _ rfl _ _ _ _ k cj rfl (bg _) ?_)
  |(go_at_call 131;refine(sM 134 (fun x y=>x&&y) OP (fun _ _=>by simp[go_sem]) a b _).mono ?_;rintro e g ⟨rfl,c⟩;have f:=ai c l)
  |(refine aC rfl 39 _ _ rfl _ _ rfl rfl _ _ (by assumption) (bg _) (by simp[bU]) (dI _) ?_))
 refine aX (v:= .agg (mv fun i=>(a i&&b i)&&decide (i<1440))) ?_ rfl ⟨rfl,?_⟩
 ·exact bn rfl _ _ (w.heap.size+1+1) _ _ _ _ rfl (aK _ _ _ _ _ _ f) cj rfl (bg _)
 ·exact below_setRow (au d c) (by omega) _
end
theorem sZ {v a:Value}(h:v=a):Ending.returned v= .returned a:=by rw[h]
theorem uH {k:IntKind}{a b:Int}(h:a=b):Value.int k a= .int k b:=by rw[h]
theorem Mk (n:Nat)(c:n<=64):IntKind.u64.wrap (IntKind.u64.wrap (2^n)-1)=((2^n-1:Nat):Int):=by
 rw[ie,ie];have d:(1:Nat)<=2^n:=Nat.two_pow_pos n;have a:((2:Int)^n)=((2^n:Nat):Int):=by simp
 rw[a];by_cases h:n=64
 ·subst h;decide
 ·have b:2^n<=2^63:=Nat.pow_le_pow_right (by omega) (by omega);generalize 2^n=p at*;omega
theorem Ml (n:Nat)(a:n<=64)(w:World):Calls prog 176 #[ag n] w fun e b=>e= .returned (.int .u64 ((2^n-1:Nat):Int))/\b=w:=by
 go_enter func176,ntmps176;go_wp2;go_ret;exact⟨sZ (uH (Mk n a)),rfl⟩
theorem AL (d:Int)(a:0<=d)(c:d<=64)(w:World):Calls prog 176 #[ag d] w fun e b=>e= .returned (.int .u64 ((2^d.toNat-1:Nat):Int))/\b=w:=by
 have:=Ml d.toNat (by omega) w;rw[Int.toNat_of_nonneg a]at this;exact this
theorem xc (n:Nat)(b:n<=1440)(w:World):Calls prog 175 #[ag n] w fun e a=>e= .returned (ag ((64*(n/64)+64:Nat):Int))/\a=w:=by
 go_enter func175,ntmps175;go_wp2;go_ret;exact⟨sZ (uH (by omega)),rfl⟩
def Tab (w:World):Prop:= ∀j,j<64->w.cell? (ae 2 j)=some (.int .u8 ((Lib.deBruijn64tab.getD j 0:Nat):Int))
theorem Tab.later {w w':World}(h:Tab w)(b:ao w w'):Tab w':=fun j a=>(b.cell (aU (h j a))).trans (h j a)
theorem QM (x a:Nat)(d:x<18446744073709551616)(e:x≠0)(b:x&&&(18446744073709551616-x)=a):
  IntKind.u64.wrap (bits BinOp.and IntKind.u64 (x:Int) (IntKind.u64.wrap (-(x:Int)))*285870213051353865)/288230376151711744=((a*285870213051353865%18446744073709551616/288230376151711744:Nat):Int):=by
 have c:IntKind.u64.wrap (-(x:Int))=((18446744073709551616-x:Nat):Int):=by rw[ie];omega
 rw[c,bits_and_u64_nat x _ d (by omega),b,ie];omega
theorem OR (x k a:Nat)(w:World)(d:((x:Int)==0)=false)
  (c:IntKind.u64.wrap (bits BinOp.and IntKind.u64 (x:Int) (IntKind.u64.wrap (-(x:Int)))*285870213051353865)/288230376151711744=(a:Int))
  (hi:a<64) (g:k<64) (b:w.cell? (ae 2 a)=some (.int .u8 k)):
  Calls prog 184 #[.int .u64 x] w fun e f=>e= .returned (ag k)/\f=w:=by
 go_enter func184,ntmps184;go_wp2_with(simp only[c])
 go_ret;exact⟨rfl,rfl⟩
theorem QN (x:Nat)(i:x<18446744073709551616)(d:x≠0)(w:World)(n:Tab w):
  ∃k:Nat,k<64/\x.testBit k=true/\(∀j,j<k->x.testBit j=false)/\Calls prog 184 #[.int .u64 x] w fun e r=>e= .returned (ag k)/\r=w:=by
 obtain⟨b,g⟩:=Lib.lowest_bit 64 x d i;obtain⟨hi,c⟩:=Lib.deBruijn64_at _ g;have a:=n _ hi;rw[c]at a
 have l: ∀j,j<=Lib.ctz 64 x->x.testBit j=decide (j=Lib.ctz 64 x):=by
  obtain⟨m,q,p⟩:=Lib.ctzFrom_spec 64 x (by omega) i;have e:Lib.ctz 64 x=Lib.ctzFrom 64 x:=(by simp[Lib.ctz,d]);rw[e];clear a c hi b g e;generalize Lib.ctzFrom 64 x=k at*;intro j o;rw[q,Nat.mul_comm,Nat.testBit_mul_two_pow];by_cases f:j=k
  ·subst f;simp
  ·have: ¬k<=j:=(by omega);simp[this,f]
 exact⟨_,g,by rw[l _ (aA _)];simp,fun j o=>by rw[l _ (by omega)];simp;omega,OR x _ _ w (by simp;omega) (QM x _ i d b) hi g a⟩
theorem QO (f:Nat->Bool)(a i q r:Nat)(l:q=a/64)(m:r=a%64)(hi:q<=i):
  IntKind.u64.wrap ((wd f (i-q):Int)*2^r)=((wd (fun t=>decide (a<=t)&&decide (64*(i-q)<=t-a)&&f (t-a)) i:Nat):Int):=by
 have g:wd (fun t=>decide (a<=t)&&decide (64*(i-q)<=t-a)&&f (t-a)) i=wd f (i-q)*2^r%18446744073709551616:=by
  symm;refine oy _ _ _ (Nat.mod_lt _ (by omega)) fun j k=> ?_;rw[AH _ _ j k,jy];by_cases h:r<=j
  ·have b:a<=64*i+j:=(by omega);have c:64*(i-q)<=64*i+j-a:=(by omega);have d:64*(i-q)+(j-r)=64*i+j-a:=(by omega);have e:j-r<64:=(by omega);simp[h,b,c,d,e]
  ·by_cases b:a<=64*i+j
   ·have c: ¬64*(i-q)<=64*i+j-a:=(by omega);simp[h,c]
   ·simp[h,b]
 rw[ie,g];have:((2:Int)^r)=((2^r:Nat):Int):=by simp
 rw[this];omega
theorem QP (f:Nat->Bool)(a i q r:Nat)(k:q=a/64)(l:r=a%64)(hi:q<i):
  ((wd (fun t=>decide (a<=t)&&decide (64*(i-q)<=t-a)&&f (t-a)) i|||wd f (i-q-1)/2^(64-r):Nat))=wd (fun t=>decide (a<=t)&&f (t-a)) i:=by
 have m:=iq f (i-q-1);have n:wd f (i-q-1)/2^(64-r)<=wd f (i-q-1):=Nat.div_le_self _ _;refine oy _ _ _ (show _<2^64 from Nat.or_lt_two_pow (iq _ _) (by omega)) fun j e=> ?_;rw[Nat.testBit_or,jy,vU,jy];have d:a<=64*i+j:=by omega
 by_cases h:r<=j
 ·have b:64*(i-q)<=64*i+j-a:=by omega
  have c: ¬j+(64-r)<64:=(by omega);simp[e,d,b,c]
 ·have b: ¬64*(i-q)<=64*i+j-a:=by omega
  have g:64*(i-q-1)+(j+(64-r))=64*i+j-a:=(by omega);have c:j+(64-r)<64:=(by omega);simp[e,d,b,g,c]
theorem Mm (f:Nat->Bool)(a i q r:Nat)(e:q=a/64)(g:r=a%64)(hi:q<=i):
  wd f i/2^r=wd (fun t=>decide (t+a<64*(i+1))&&f (t+a)) (i-q):=by
 have l:wd f i/2^r<=wd f i:=Nat.div_le_self _ _;have k:=iq f i;refine oy _ _ _ (by omega) fun j d=> ?_;rw[vU,jy];by_cases h:j+r<64
 ·have b:64*(i-q)+j+a<64*(i+1):=by omega
  have c:64*i+(j+r)=64*(i-q)+j+a:=(by omega);simp[h,b,c]
 ·have b: ¬64*(i-q)+j+a<64*(i+1):=by omega
  simp[h,b]
theorem Mn (f:Nat->Bool)(a i q r:Nat)(m:q=a/64)(n:r=a%64)(hi:q<=i):
  bits .or .u64 (wd (fun t=>decide (t+a<64*(i+1))&&f (t+a)) (i-q):Int) (IntKind.u64.wrap ((wd f (i+1):Int)*2^(64-r)))=((wd (fun t=>f (t+a)) (i-q):Nat):Int):=by
 have e:IntKind.u64.wrap ((wd f (i+1):Int)*2^(64-r))=((wd (fun t=> !decide (t+a<64*(i+1))&&f (t+a)) (i-q):Nat):Int):=by
  have g:wd (fun t=> !decide (t+a<64*(i+1))&&f (t+a)) (i-q)=wd f (i+1)*2^(64-r)%18446744073709551616:=by
   symm;refine oy _ _ _ (Nat.mod_lt _ (by omega)) fun j l=> ?_;rw[AH _ _ j l,jy];by_cases h:64-r<=j
   ·have b: ¬64*(i-q)+j+a<64*(i+1):=(by omega);have c:64*(i+1)+(j-(64-r))=64*(i-q)+j+a:=(by omega);have d:j-(64-r)<64:=(by omega);simp[h,b,c,d]
   ·have b:64*(i-q)+j+a<64*(i+1):=(by omega);simp[h,b]
  rw[ie,g];have:((2:Int)^(64-r))=((2^(64-r):Nat):Int):=(by simp);rw[this];omega
 rw[e,bits_or_u64_nat _ _ (iq _ _) (iq _ _),CO]
 have k:wd (fun t=>(decide (t+a<64*(i+1))&&f (t+a))||(!decide (t+a<64*(i+1))&&f (t+a))) (i-q)=wd (fun t=>f (t+a)) (i-q):=oz fun j _=>by
  cases decide (64*(i-q)+j+a<64*(i+1))<;>simp
 rw[k]
theorem Gc (f:Nat->Bool)(b i q r d:Nat)(a:q=b/64)(c:r=b%64)(g:i=q+d):
  IntKind.u64.wrap ((wd f d:Int)*2^r)=((wd (fun t=>decide (b<=t)&&decide (64*d<=t-b)&&f (t-b)) i:Nat):Int):=by
 have:=QO f b i q r a c (by omega);have e:i-q=d:=by omega
 rw[e]at this;exact this
theorem OS (f:Nat->Bool)(b q r:Nat)(c:q=b/64)(d:r=b%64):
  IntKind.u64.wrap ((wd f 0:Int)*2^r)=((wd (fun t=>decide (b<=t)&&f (t-b)) q:Nat):Int):=by
 rw[Gc f b q q r 0 c d rfl];have a:wd (fun t=>decide (b<=t)&&decide (64*0<=t-b)&&f (t-b)) q=wd (fun t=>decide (b<=t)&&f (t-b)) q:=oz fun j _=>by simp
 rw[a]
theorem OT (f:Nat->Bool)(b i q r d:Nat)(c:q=b/64)(g:r=b%64)(j:i=q+(d+1)):
  bits .or .u64 (wd (fun t=>decide (b<=t)&&decide (64*(d+1)<=t-b)&&f (t-b)) i:Int) ((wd f d:Int)/2^(64-r))=((wd (fun t=>decide (b<=t)&&f (t-b)) i:Nat):Int):=by
 have:=QP f b i q r c g (by omega);have e:i-q=d+1:=by omega
 rw[e]at this;have a:((wd f d:Int)/2^(64-r))=((wd f d/2^(64-r):Nat):Int):=by simp
 have l:wd f d/2^(64-r)<=wd f d:=Nat.div_le_self _ _;have k:=iq f d;rw[a,bits_or_u64_nat _ _ (iq _ _) (by omega)];exact congrArg _ this
theorem Bp (f:Nat->Bool)(b i q r d:Nat)(a:q=b/64)(c:r=b%64)(g:i=q+d):
  (wd f i:Int)/2^r=((wd (fun t=>decide (t+b<64*(i+1))&&f (t+b)) d:Nat):Int):=by
 have:=Mm f b i q r a c (by omega);have e:i-q=d:=by omega
 rw[e]at this;rw[<-this];simp
theorem JG (f:Nat->Bool)(b i q r d:Nat)(c:q=b/64)(g:r=b%64)(k:i=q+d)(hi:i<22):
  bits .or .u64 (wd (fun t=>decide (t+b<64*(i+1))&&f (t+b)) d:Int) (IntKind.u64.wrap ((wd f (i+1):Int)*2^(64-r)))=((wd (fun t=>decide (t+b<1472)&&f (t+b)) d:Nat):Int):=by
 have:=Mn f b i q r c g (by omega);have e:i-q=d:=by omega
 rw[e]at this;rw[this]
 have a:wd (fun t=>f (t+b)) d=wd (fun t=>decide (t+b<1472)&&f (t+b)) d:=oz fun j _=>by
  have:64*d+j+b<1472:=(by omega);simp[this]
 rw[a]
theorem C6 (k:Nat)(a:k<23)(h:Nat->Bool)(v:Value):((mv fun i=>decide (i<64*k)&&h i).setIfInBounds k v).setIfInBounds k (.int .u64 (wd h k:Int))=mv fun i=>decide (i<64*(k+1))&&h i:=by
 rw[Array.setIfInBounds_setIfInBounds];exact vV k a h
theorem Mo (f:Nat->Bool)(b q:Nat)(a:q=b/64):mv (fun _=>false)=mv (fun t=>decide (t<64*q)&&(decide (b<=t)&&f (t-b))):=jj fun t _=>by
 by_cases h:t<64*q
 ·have: ¬b<=t:=by omega
  simp[this]
 ·simp[h]
theorem JH (f:Nat->Bool)(b:Nat)(hb:b<1440)(w:World):
  Calls prog 137 #[.agg (mv f),ag b] w fun e N=>e= .returned (.agg (mv fun t=>decide (b<=t)&&f (t-b)))/\ao w N:=by
 have hz:=ea;obtain⟨q,E⟩: ∃q:Nat,q=b/64:=⟨_,rfl⟩
 obtain⟨r,G⟩: ∃r:Nat,r=b%64:=⟨_,rfl⟩
 have s:T4 (q=b/64):=E;have y:T4 (r=b%64):=G;have t1:(b:Int)/64=(q:Int):=by omega
 have t2:(b:Int)%64=(r:Int):=by omega
 have F:q<23:=by omega
 have H:r<64:=by omega
 clear E G;go_enter func137,ntmps137;go_wp2
 go_loopw [8] (fun i wr=> ∃k d:Nat,k<=23/\k=q+d/\i=ag k/\wr.heap[w.heap.size]? =ah (mv f) 39/\wr.heap[w.heap.size+1]? =ah (mv fun _=>false) 39/\
  wr.heap[w.heap.size+1+1]? =ah (mv fun t=>decide (t<64*k)&&(decide (b<=t)&&f (t-b))) 39/\ao w wr) (fun i _=>23-(intOf i).toNat)
 case atStart=>
  refine⟨q,0,by omega,rfl,rfl,?_,?_,?_,?_⟩
  ·(repeat (first|refine dh _ _ _ (by simp only[aP];omega) ?_|exact dA _ _ _ (by first|rfl|simp only[aP])))
  ·(repeat (first|refine dh _ _ _ (by simp only[aP];omega) ?_|exact dA _ _ _ (by first|rfl|simp only[aP])))
  ·refine iX ?_ (Mo f b q s.o);(repeat (first|refine dh _ _ _ (by simp only[aP];omega) ?_|exact dA _ _ _ (by first|rfl|simp only[aP])))
  ·exact((am _ _).alloc (by simp) _).alloc (by simp only[aP];omega) _
 case round=>
  obtain⟨k,d,hk,a,rfl,ha,u,n,g⟩:=hrel;have C:T4 (k=q+d):=a;by_cases j:k<23
  ·have P:=lj ha d (by omega);have Q:=lj n k j;have Y:=bu _ _ k _ _ n;have R:(k:Int)-(q:Int)=(d:Int):=(by omega);have L:(0:Int)<=(d:Int):=(by omega);have M:(d:Int)<23:=(by omega);by_cases z:d=0
   ·subst z;have I:=OS f b q r s.o y.o;have A:k=q:=a;subst A;clear a;go_wp2;go_roundw
    case rel=>
     refine⟨k+1,1,by omega,rfl,by go_num,?_,?_,?_,g.setCell (by dsimp only;omega) _⟩
     ·exact(aM _ _ _ _ (by dsimp only;omega)).trans ha
     ·exact(aM _ _ _ _ (by dsimp only;omega)).trans u
     ·exact iX (aY _ _ _ _ _ _ n) (vV k j fun t=>decide (b<=t)&&f (t-b))
    case measure=>simp[intOf];omega
   ·obtain⟨c,D⟩: ∃c,d=c+1:=⟨d-1,by omega⟩
    have I:=Gc f b k q r d s.o y.o a;have J:=OT f b k q r c s.o y.o (by omega);rw[<-D]at J;have S:(d:Int)-1=(c:Int):=(by omega);have T:IntKind.i64.wrap ((k:Int)-(q:Int))=(d:Int):=(by rw[bQ];omega);have U:IntKind.i64.wrap ((d:Int)-1)=(c:Int):=(by rw[bQ];omega);have V:IntKind.i64.wrap (64-(r:Int))=64-(r:Int):=(by rw[bQ];omega);have W:(64-(r:Int)).toNat=64-r:=(by omega);have X:(0:Int)<=64-(r:Int):=(by omega);have j0:(0:Int)<=(c:Int):=(by omega);have j1:(c:Int)<23:=(by omega);have K:=lj ha c (by omega);have hgt:(q:Int)<(k:Int):=(by omega);generalize (fun t=>decide (b<=t)&&decide (64*d<=t-b)&&f (t-b))=m at I J;have c1:(wr.setCell ⟨w.heap.size+1+1,k,none⟩ (.int .u64 (wd m k:Int))).cell? (ae w.heap.size c)=some (.int .u64 (wd f c:Int)):=(uG _ _ _ _ (by dsimp only;omega)).trans K;have l:=aY _ _ k _ _ (.int .u64 (wd m k:Int)) n
    have O:(wr.setCell ⟨w.heap.size+1+1,k,none⟩ (.int .u64 (wd m k:Int))).cell? (ae (w.heap.size+1+1) k)=some (.int .u64 (wd m k:Int)):=by
     rw[aW _ _ k _ _ _ l];simp[bU,j]
    have f2:=bu _ _ k _ _ l;have x:T4 ((wr.setCell ⟨w.heap.size+1+1,k,none⟩ (.int .u64 (wd m k:Int))).heap[w.heap.size+1+1]? =ah ((mv fun t=>decide (t<64*k)&&(decide (b<=t)&&f (t-b))).setIfInBounds k (.int .u64 (wd m k:Int))) 39):=l;clear l a D;go_wp2;go_region;go_wp2;go_roundw
    case rel=>
     have Z:=C.o;refine⟨k+1,d+1,by omega,by omega,by go_num,?_,?_,?_,((g.setCell (by dsimp only;omega) _).setCell (by dsimp only;omega) _).drew⟩
     ·exact((aM _ _ _ _ (by dsimp only;omega)).trans (aM _ _ _ _ (by dsimp only;omega))).trans ha
     ·exact((aM _ _ _ _ (by dsimp only;omega)).trans (aM _ _ _ _ (by dsimp only;omega))).trans u
     ·exact iX (aY _ _ _ _ _ _ x.o) (C6 k j (fun t=>decide (b<=t)&&f (t-b)) _)
    case measure=>simp[intOf];omega
  ·have p:k=23:=(by omega);subst p;have B:=iX n (Gb _);clear n C a
   go_wp2_with(first
    |(refine aO rfl 39 _ rfl _ rfl _ _ _ _ B cj rfl (bg _) ?_)
    |(refine aC rfl 39 _ _ rfl _ _ rfl rfl _ _ u (bg _) (by simp[bU]) (dI _) ?_))
   refine aX (v:= .agg (mv fun t=>decide (b<=t)&&f (t-b))) ?_ rfl ⟨rfl,?_⟩
   ·exact bn rfl _ _ (w.heap.size+1) _ _ _ _ rfl (aK _ _ _ _ _ _ u) cj rfl (bg _)
   ·exact below_setRow g (by omega) _
theorem JI (f:Nat->Bool)(b q d:Nat)(c:q=b/64)(a:23=q+d):(mv fun t=>decide (t<64*d)&&(decide (t+b<1472)&&f (t+b)))=mv fun t=>decide (t+b<1472)&&f (t+b):=jj fun t e=>by
 by_cases h:t<64*d
 ·simp[h]
 ·have: ¬t+b<1472:=by omega
  simp[this]
theorem Hd (f:Nat->Bool)(b i q r d:Nat)(e:q=b/64)(k:r=b%64)(c:i=q+d)(a:i=22):
  (wd f i:Int)/2^r=((wd (fun t=>decide (t+b<1472)&&f (t+b)) d:Nat):Int):=by
 rw[Bp f b i q r d e k c]
 rw[oz (f:=fun t=>decide (t+b<64*(i+1))&&f (t+b)) (g:=fun t=>decide (t+b<1472)&&f (t+b)) fun j _=>by
  have:(64*d+j+b<64*(i+1))=(64*d+j+b<1472):=(by apply propext;omega);simp only[this]]
theorem E7 (f:Nat->Bool)(b:Nat)(hb:b<1440)(w:World):
  Calls prog 135 #[.agg (mv f),ag b] w fun e T=>e= .returned (.agg (mv fun t=>decide (t+b<1472)&&f (t+b)))/\ao w T:=by
 have hz:=ea;obtain⟨q,G⟩: ∃q:Nat,q=b/64:=⟨_,rfl⟩
 obtain⟨r,I⟩: ∃r:Nat,r=b%64:=⟨_,rfl⟩
 have x:T4 (q=b/64):=G;have A:T4 (r=b%64):=I;have t1:(b:Int)/64=(q:Int):=by omega
 have t2:(b:Int)%64=(r:Int):=by omega
 have H:q<23:=by omega
 have J:r<64:=by omega
 clear G I;go_enter func135,ntmps135;go_wp2
 go_loopw [8] (fun i wr=> ∃k d:Nat,k<=23/\k=q+d/\i=ag k/\wr.heap[w.heap.size]? =ah (mv f) 39/\wr.heap[w.heap.size+1]? =ah (mv fun _=>false) 39/\
  wr.heap[w.heap.size+1+1]? =ah (mv fun t=>decide (t<64*d)&&(decide (t+b<1472)&&f (t+b))) 39/\ao w wr) (fun i _=>23-(intOf i).toNat)
 case atStart=>
  refine⟨q,0,by omega,rfl,rfl,?_,?_,?_,?_⟩
  ·(repeat (first|refine dh _ _ _ (by simp only[aP];omega) ?_|exact dA _ _ _ (by first|rfl|simp only[aP])))
  ·(repeat (first|refine dh _ _ _ (by simp only[aP];omega) ?_|exact dA _ _ _ (by first|rfl|simp only[aP])))
  ·refine iX ?_ (C4 _);(repeat (first|refine dh _ _ _ (by simp only[aP];omega) ?_|exact dA _ _ _ (by first|rfl|simp only[aP])))
  ·exact((am _ _).alloc (by simp) _).alloc (by simp only[aP];omega) _
 case round=>
  obtain⟨k,d,hk,a,rfl,ha,y,p,j⟩:=hrel;have u:T4 (k=q+d):=a;by_cases S:k<23
  ·have V:=lj ha k (by omega);have g:d<23:=(by omega);have W:=lj p d g;have fm:=bu _ _ d _ _ p;have X:(k:Int)-(q:Int)=(d:Int):=(by omega);have Q:(0:Int)<=(d:Int):=(by omega);have R:(d:Int)<23:=(by omega);have K:=Bp f b k q r d x.o A.o a;by_cases m:k=22
   ·have C:(22:Int)<=(k:Int):=(by omega);have p3:=Hd f b k q r d x.o A.o a m;have F:T4 (k=22):=m;clear K a m;go_wp2;go_roundw
    case rel=>
     have O:=u.o;have P:=F.o;refine⟨k+1,d+1,by omega,by omega,by go_num,?_,?_,?_,j.setCell (by dsimp only;omega) _⟩
     ·exact(aM _ _ _ _ (by dsimp only;omega)).trans ha
     ·exact(aM _ _ _ _ (by dsimp only;omega)).trans y
     ·exact iX (aY _ _ _ _ _ _ p) (vV d g fun t=>decide (t+b<1472)&&f (t+b))
    case measure=>
     have P:=F.o;simp[intOf];omega
   ·have L:=JG f b k q r d x.o A.o a (by omega);generalize (fun t=>decide (t+b<64*(k+1))&&f (t+b))=n at K L;obtain⟨c,B⟩: ∃c,c=k+1:=⟨_,rfl⟩
    rw[<-B]at L;have Y:(k:Int)+1=(c:Int):=(by omega);have Z:IntKind.i64.wrap ((k:Int)-(q:Int))=(d:Int):=(by rw[bQ];omega);have e4:IntKind.i64.wrap ((k:Int)+1)=(c:Int):=(by rw[bQ];omega);have e5:IntKind.i64.wrap (64-(r:Int))=64-(r:Int):=(by rw[bQ];omega);have e6:(64-(r:Int)).toNat=64-r:=(by omega);have e7:(0:Int)<=64-(r:Int):=(by omega);have j0:(0:Int)<=(c:Int):=(by omega);have j1:(c:Int)<23:=(by omega);have M:=lj ha c (by omega);have c1:(wr.setCell ⟨w.heap.size+1+1,d,none⟩ (.int .u64 (wd n d:Int))).cell? (ae w.heap.size c)=some (.int .u64 (wd f c:Int)):=(uG _ _ _ _ (by dsimp only;omega)).trans M;have l:=aY _ _ d _ _ (.int .u64 (wd n d:Int)) p
    have U:(wr.setCell ⟨w.heap.size+1+1,d,none⟩ (.int .u64 (wd n d:Int))).cell? (ae (w.heap.size+1+1) d)=some (.int .u64 (wd n d:Int)):=by
     rw[aW _ _ d _ _ _ l];simp[bU,g]
    have f2:=bu _ _ d _ _ l;have z:T4 ((wr.setCell ⟨w.heap.size+1+1,d,none⟩ (.int .u64 (wd n d:Int))).heap[w.heap.size+1+1]? =ah ((mv fun t=>decide (t<64*d)&&(decide (t+b<1472)&&f (t+b))).setIfInBounds d (.int .u64 (wd n d:Int))) 39):=l;have E:T4 (c=k+1):=B;clear l a B;go_wp2;go_region;go_wp2;go_roundw
    case rel=>
     have O:=u.o;have N:=E.o;refine⟨c,d+1,by omega,by omega,by go_num,?_,?_,?_,((j.setCell (by dsimp only;omega) _).setCell (by dsimp only;omega) _).drew⟩
     ·exact((aM _ _ _ _ (by dsimp only;omega)).trans (aM _ _ _ _ (by dsimp only;omega))).trans ha
     ·exact((aM _ _ _ _ (by dsimp only;omega)).trans (aM _ _ _ _ (by dsimp only;omega))).trans y
     ·refine iX (aY _ _ _ _ _ _ z.o) ?_;exact C6 d g (fun t=>decide (t+b<1472)&&f (t+b)) _
    case measure=>
     have N:=E.o;simp[intOf];omega
  ·have s:k=23:=(by omega);subst s;have D:=iX p (JI f b q d x.o u.o);clear p u a
   go_wp2_with(first
    |(refine aO rfl 39 _ rfl _ rfl _ _ _ _ D cj rfl (bg _) ?_)
    |(refine aC rfl 39 _ _ rfl _ _ rfl rfl _ _ y (bg _) (by simp[bU]) (dI _) ?_))
   refine aX (v:= .agg (mv fun t=>decide (t+b<1472)&&f (t+b))) ?_ rfl ⟨rfl,?_⟩
   ·exact bn rfl _ _ (w.heap.size+1) _ _ _ _ rfl (aK _ _ _ _ _ _ y) cj rfl (bg _)
   ·exact below_setRow j (by omega) _
def shf (f:Nat->Bool)(x:Int)(t:Nat):Bool:=decide (t<1440)&&(decide (x<=(t:Int))&&(decide ((t:Int)-x<1440)&&f ((t:Int)-x).toNat))
theorem C7 (f:Nat->Bool)(x:Int)(h:x<= -1440\/1440<=x):(mv fun _=>false)=mv (shf f x):=jj fun t _=>by
 unfold shf;by_cases a:t<1440
 ·by_cases b:x<=(t:Int)
  ·have: ¬(t:Int)-x<1440:=(by omega);simp[this]
  ·simp[b]
 ·simp[a]
theorem QQ (f:Nat->Bool)(b:Nat):(mv fun t=>(decide (b<=t)&&f (t-b))&&decide (t<1440))=mv (shf f (b:Int)):=jj fun t _=>by
 unfold shf;by_cases a:t<1440
 ·by_cases c:b<=t
  ·have d:((t:Int)-(b:Int)).toNat=t-b:=(by omega);have e:(b:Int)<=(t:Int):=(by omega);have g:(t:Int)-(b:Int)<1440:=(by omega);simp[a,c,d,g]
  ·have e: ¬(b:Int)<=(t:Int):=(by omega);simp[c]
 ·simp[a]
theorem Mp (f:Nat->Bool)(b:Nat):(mv fun t=>decide (t+b<1472)&&(f (t+b)&&decide (t+b<1440)))=mv (shf f (-(b:Int))):=jj fun t _=>by
 unfold shf;by_cases c:t+b<1440
 ·have d:((t:Int)- -(b:Int)).toNat=t+b:=by omega
  have e: -(b:Int)<=(t:Int):=(by omega);have a:(t:Int)- -(b:Int)<1440:=(by omega);have g:t+b<1472:=(by omega);have i:t<1440:=(by omega);rw[d];simp only[c,e,a,g,i,decide_true,jc,Bool.and_true]
 ·have a: ¬(t:Int)- -(b:Int)<1440:=by omega
  simp only[c,a,decide_false,jk,Bool.false_and]
theorem yM (f:Nat->Bool)(x:Int)(w:World)(u: -9223372036854775808<=x)(y:x<=9223372036854775807):
  Calls prog 89 #[.agg (mv f),ag x] w fun e n=>e= .returned (.agg (mv (shf f x)))/\ao w n:=by
 have A:=ea;have p:((w.alloc (.cells (mv f) 39)).alloc (.cells (mv fun _=>false) 39)).heap[w.heap.size]? =ah (mv f) 39:=by(repeat (first|refine dh _ _ _ (by simp only[aP];omega) ?_|exact dA _ _ _ (by first|rfl|simp only[aP])))
 have m:((w.alloc (.cells (mv f) 39)).alloc (.cells (mv fun _=>false) 39)).heap[w.heap.size+1]? =ah (mv fun _=>false) 39:=by(repeat (first|refine dh _ _ _ (by simp only[aP];omega) ?_|exact dA _ _ _ (by first|rfl|simp only[aP])))
 have j:ao w ((w.alloc (.cells (mv f) 39)).alloc (.cells (mv fun _=>false) 39)):=(am _ _).alloc (by simp) _;rcases(show(x<= -1440)\/(1440<=x)\/(-1440<x/\x<0)\/(0<=x/\x<1440) from by omega) with h|h|⟨h,r⟩|⟨h,r⟩
 ·rw[<-C7 f x (.inl h)];go_enter func89,ntmps89;go_wp2_with(refine aC rfl 39 _ _ rfl _ _ rfl rfl _ _ m (bg _) (by simp[bU]) (dI _) ?_)
  refine aX (v:= .agg (mv fun _=>false)) ?_ rfl ⟨rfl,below_setRow j (by omega) _⟩;exact bn rfl _ _ (w.heap.size+1) _ _ _ _ rfl (aK _ _ _ _ _ _ m) cj rfl (bg _)
 ·rw[<-C7 f x (.inr h)];have s: ¬x<= -1440:=(by omega);go_enter func89,ntmps89;go_wp2_with(refine aC rfl 39 _ _ rfl _ _ rfl rfl _ _ m (bg _) (by simp[bU]) (dI _) ?_)
  refine aX (v:= .agg (mv fun _=>false)) ?_ rfl ⟨rfl,below_setRow j (by omega) _⟩;exact bn rfl _ _ (w.heap.size+1) _ _ _ _ rfl (aK _ _ _ _ _ _ m) cj rfl (bg _)
 ·obtain⟨b,z⟩: ∃b:Nat,-x=b:=⟨(-x).toNat,by omega⟩
  have l:b<1440:=(by omega);have q:x= -(b:Int):=(by omega);have i:=Mp f b;rw[<-q]at i;rw[<-i];clear i q;go_enter func89,ntmps89
  go_wp2_with(first
   |(refine aO rfl 39 _ rfl _ rfl _ _ _ _ p cj rfl (bg _) ?_)
   |(go_at_call 136;refine(xE _ _).mono ?_;rintro e n ⟨rfl,d⟩;have g:=ai d m)
   |(go_at_call 135;refine(E7 _ _ l _).mono ?_;rintro e o ⟨rfl,a⟩;have c:=(a.block _ (aH g)).trans g)
   |(refine aC rfl 39 _ _ rfl _ _ rfl rfl _ _ c (bg _) (by simp[bU]) (dI _) ?_))
  refine aX (v:= .agg (mv fun t=>decide (t+b<1472)&&(f (t+b)&&decide (t+b<1440)))) ?_ rfl ⟨rfl,?_⟩
  ·exact bn rfl _ _ (w.heap.size+1) _ _ _ _ rfl (aK _ _ _ _ _ _ c) cj rfl (bg _)
  ·have k:=au j d;exact below_setRow (au k a) (by omega) _
 ·obtain⟨b,rfl⟩: ∃b:Nat,x=b:=⟨x.toNat,by omega⟩
  rw[<-QQ f b];have l:b<1440:=(by omega);go_enter func89,ntmps89
  go_wp2_with(first
   |(refine aO rfl 39 _ rfl _ rfl _ _ _ _ p cj rfl (bg _) ?_)
   |(go_at_call 137;refine(JH _ _ l _).mono ?_;rintro e n ⟨rfl,d⟩;have g:=ai d m)
   |(go_at_call 136;refine(xE _ _).mono ?_;rintro e o ⟨rfl,a⟩;have c:=(a.block _ (aH g)).trans g)
   |(refine aC rfl 39 _ _ rfl _ _ rfl rfl _ _ c (bg _) (by simp[bU]) (dI _) ?_))
  refine aX (v:= .agg (mv fun t=>(decide (b<=t)&&f (t-b))&&decide (t<1440))) ?_ rfl ⟨rfl,?_⟩
  ·exact bn rfl _ _ (w.heap.size+1) _ _ _ _ rfl (aK _ _ _ _ _ _ c) cj rfl (bg _)
  ·have k:=au j d;exact below_setRow (au k a) (by omega) _
end Go.Proofs.YtpdoienkhgnceaaGreatDoor
