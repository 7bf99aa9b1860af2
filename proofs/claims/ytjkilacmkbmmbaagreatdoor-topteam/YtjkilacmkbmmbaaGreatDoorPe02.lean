/- Texts of the proof. -/
import Derived.Deep.RegionHeld3
import Derived.Deep.DrawnRows
import Derived.Laws.CopyOwn
import Derived.Lib.TrailingZeros
import Derived.Test.YtjkilacmkbmmbaaGreatDoorPeZb
set_option maxRecDepth 100000
set_option maxHeartbeats 8000000
namespace Go.Proofs.YtjkilacmkbmmbaaGreatDoor
open Go.Proofs.Tryz Go.RowKit Lx Vx Mx Msk
namespace Msk
def num (p:Nat->Bool):Nat->Nat
 |0=>0
 |n+1=>num p n+if p n then 2^n else 0
theorem wt (p:Nat->Bool): ∀n,num p n<2^n
 |0=>by simp[num]
 |n+1=>by
  have:=wt p n;simp only[num,Nat.pow_succ];split<;>omega
theorem ua (p:Nat->Bool)(j:Nat): ∀n,(num p n).testBit j=(decide (j<n)&&p j)
 |0=>by simp[num]
 |n+1=>by
  have hl:=wt p n;have ih:=ua p j n;simp only[num];by_cases hp:p n=true
  ·rw[ay hp,Nat.add_comm];by_cases h1:j<n
   ·rw[Nat.testBit_two_pow_add_gt h1,ih];have:j<n+1:=(by omega);simp[h1,this]
   ·by_cases h2:j=n
    ·subst h2;rw[Nat.testBit_two_pow_add_eq,ih];simp[hp]
    ·have h3: ¬j<n+1:=(by omega);have h4:2^(n+1)<=2^j:=Nat.pow_le_pow_right (by omega) (by omega);rw[Nat.testBit_lt_two_pow (by rw[Nat.pow_succ]at h4;omega)];simp[h3]
  ·rw[aw hp,Nat.add_zero,ih];by_cases h2:j=n
   ·subst h2;simp at hp;simp[hp]
   ·by_cases h1:j<n
    ·have:j<n+1:=(by omega);simp[h1,this]
    ·have: ¬j<n+1:=(by omega);simp[h1,this]
theorem FZ (p:Nat->Bool)(n x:Nat)(hx:x<2^n)(h: ∀j,j<n->x.testBit j=p j):x=num p n:=by
 apply Nat.eq_of_testBit_eq;intro j;rw[ua];by_cases hj:j<n
 ·simp[hj,h j hj]
 ·have:2^n<=2^j:=Nat.pow_le_pow_right (by omega) (by omega);rw[Nat.testBit_lt_two_pow (by omega)];simp[hj]
theorem Ls {p q:Nat->Bool}{n:Nat}(h: ∀j,j<n->p j=q j):num p n=num q n:=
 FZ q n _ (wt p n) fun j hj=>by rw[ua];simp[hj,h j hj]
def wd (f:Nat->Bool)(k:Nat):Nat:=num (fun j=>f (64*k+j)) 64
theorem gS (f:Nat->Bool)(k:Nat):wd f k<18446744073709551616:=wt _ 64
theorem jc (f:Nat->Bool)(k j:Nat):(wd f k).testBit j=(decide (j<64)&&f (64*k+j)):=ua _ j 64
theorem mG (f:Nat->Bool)(k x:Nat)(hx:x<18446744073709551616)(h: ∀j,j<64->x.testBit j=f (64*k+j)):x=wd f k:=
 FZ _ 64 x hx h
theorem mH {f g:Nat->Bool}{k:Nat}(h: ∀j,j<64->f (64*k+j)=g (64*k+j)):wd f k=wd g k:=Ls h
theorem Ni {f g:Nat->Bool}{k:Nat}(h:wd f k=wd g k)(j:Nat)(hj:j<64):f (64*k+j)=g (64*k+j):=by
 have h1:=jc f k j;rw[h,jc]at h1;simpa[hj] using h1.symm
theorem F0 (f g:Nat->Bool)(k:Nat):wd f k&&&wd g k=wd (fun i=>f i&&g i) k:=by
 refine mG _ k _ (show wd f k&&&wd g k<2^64 from Nat.and_lt_two_pow _ (gS g k)) fun j hj=> ?_;rw[Nat.testBit_and,jc,jc];simp[hj]
theorem AM (f g:Nat->Bool)(k:Nat):wd f k|||wd g k=wd (fun i=>f i||g i) k:=by
 refine mG _ k _ (show wd f k|||wd g k<2^64 from Nat.or_lt_two_pow (gS f k) (gS g k)) fun j hj=> ?_;rw[Nat.testBit_or,jc,jc];simp[hj]
theorem F1 (f g:Nat->Bool)(k:Nat):wd f k&&&(18446744073709551616-(wd g k+1))=wd (fun i=>f i&& !g i) k:=by
 refine mG _ k _ (Nat.lt_of_le_of_lt Nat.and_le_left (gS f k)) fun j hj=> ?_;have e:(18446744073709551616:Nat)=2^64:=by decide
 rw[Nat.testBit_and,e,Nat.testBit_two_pow_sub_succ (gS g k),jc,jc];simp[hj]
theorem Du (k:Nat):wd (fun _=>false) k=0:=by
 have:(0:Nat)=wd (fun _=>false) k:=mG _ k 0 (by omega) (by simp);exact this.symm
theorem yl (x r j:Nat)(hj:j<64):(x*2^r%18446744073709551616).testBit j=(decide (r<=j)&&x.testBit (j-r)):=by
 have e:(18446744073709551616:Nat)=2^64:=by decide
 rw[e,Nat.testBit_mod_two_pow,Nat.testBit_mul_two_pow];simp[hj]
theorem ub (x r j:Nat):(x/2^r).testBit j=x.testBit (j+r):=by
 rw[Nat.testBit_div_two_pow]
theorem AV (n j:Nat):(2^n-1).testBit j=decide (j<n):=by
 rw[Nat.testBit_two_pow_sub_one]
def cnt (f:Nat->Bool):Nat->Nat
 |0=>0
 |n+1=>cnt f n+if f n then 1 else 0
theorem Nj (f:Nat->Bool): ∀n,cnt f n<=n
 |0=>by simp[cnt]
 |n+1=>by have:=Nj f n;simp only[cnt];split<;>omega
theorem ym {f g:Nat->Bool}: ∀{n:Nat},(∀j,j<n->f j=g j)->cnt f n=cnt g n
 |0,_=>rfl
 |n+1,h=>by
  have:=ym (n:=n) fun j hj=>h j (by omega);simp only[cnt,this,h n (by omega)]
theorem yo (f:Nat->Bool)(a:Nat): ∀n,cnt f (a+n)=cnt f a+cnt (fun j=>f (a+j)) n
 |0=>by simp[cnt]
 |n+1=>by
  have:=yo f a n;rw[<-Nat.add_assoc];simp only[cnt,this];omega
theorem F2 {f:Nat->Bool}{n:Nat}(h: ∀j,j<n->f j=false):cnt f n=0:=by
 have e:cnt f n=cnt (fun _=>false) n:=ym h
 have z: ∀n,cnt (fun _=>false) n=0:=by
  intro n;induction n with
  |zero=>rfl
  |succ n ih=>simp[cnt,ih]
 rw[e,z]
theorem I8 {f:Nat->Bool}{n:Nat}(h: ∀j,j<n->f j=true):cnt f n=n:=by
 have e:cnt f n=cnt (fun _=>true) n:=ym h
 have z: ∀n,cnt (fun _=>true) n=n:=by
  intro n;induction n with
  |zero=>rfl
  |succ n ih=>simp[cnt,ih]
 rw[e,z]
end Msk
def mv (f:Nat->Bool):Array Value:=Array.ofFn (n:=23) fun k=>Value.int .u64 (wd f k.val:Int)
theorem bO (f:Nat->Bool):(mv f).size=23:=by simp[mv]
theorem pS (f:Nat->Bool)(k:Nat)(hk:k<23):(mv f)[k]? =some (.int .u64 (wd f k:Int)):=by
 simp[mv,hk]
theorem dH (f:Nat->Bool):(mv f).all (·.oneCell')=true:=by
 rw[Array.all_eq_true];intro i hi;simp[mv,Value.oneCell']
theorem iP {f g:Nat->Bool}(h: ∀i,i<1472->f i=g i):mv f=mv g:=by
 unfold mv;congr 1;funext k;have hk:=k.isLt;rw[mH (f:=f) (g:=g) fun j hj=>h _ (by omega)]
theorem AW (f g:Nat->Bool)(k:Nat)(hk:k<23):(mv f).setIfInBounds k (.int .u64 (wd g k:Int))=mv (fun i=>if i/64=k then g i else f i):=by
 apply Array.ext_getElem?;intro i;rw[Array.getElem?_setIfInBounds];by_cases hi:k=i
 ·subst hi;rw[ay rfl,ay (by rw[bO];exact hk),pS _ k hk];rw[mH (f:=g) (g:=fun i=>if i/64=k then g i else f i) fun j hj=>by rw[ay (by omega)]]
 ·rw[aw hi];by_cases hlt:i<23
  ·rw[pS _ i hlt,pS _ i hlt];rw[mH (f:=f) (g:=fun i=>if i/64=k then g i else f i) fun j hj=>by rw[aw (by omega)]]
  ·rw[Array.getElem?_eq_none (by rw[bO];omega),Array.getElem?_eq_none (by rw[bO];omega)]
theorem Lt:mv (fun _=>false)=Array.replicate 23 (.int .u64 0):=by
 apply Array.ext_getElem?;intro i;by_cases hlt:i<23
 ·rw[pS _ i hlt,Du];simp[hlt]
 ·rw[Array.getElem?_eq_none (by rw[bO];omega)];simp[hlt]
theorem dU:(#[.int .u64 0, .int .u64 0, .int .u64 0, .int .u64 0, .int .u64 0, .int .u64 0, .int .u64 0, .int .u64 0, .int .u64 0, .int .u64 0, .int .u64 0, .int .u64 0, .int .u64 0, .int .u64 0, .int .u64 0, .int .u64 0, .int .u64 0, .int .u64 0, .int .u64 0, .int .u64 0, .int .u64 0, .int .u64 0, .int .u64 0]:Array Value)=mv (fun _=>false):=by rw[Lt];rfl
theorem Ek (a b:Nat)(ha:a<18446744073709551616)(hb:b<18446744073709551616):
  bits .andNot .u64 (a:Int) (b:Int)=((a&&&(18446744073709551616-(b+1)):Nat):Int):=by
 have h1:(BitVec.ofInt 64 (a:Int)).toNat=a:=by
  rw[BitVec.ofInt_natCast,BitVec.toNat_ofNat];exact Nat.mod_eq_of_lt (by omega)
 have h2:(BitVec.ofInt 64 (b:Int)).toNat=b:=by
  rw[BitVec.ofInt_natCast,BitVec.toNat_ofNat];exact Nat.mod_eq_of_lt (by omega)
 have hx:a&&&(18446744073709551616-(b+1))<=a:=Nat.and_le_left;show IntKind.u64.wrap ((BitVec.ofInt 64 (a:Int)&&& ~~~BitVec.ofInt 64 (b:Int)).toNat:Int)=_;have e:(2:Nat)^64-1-b=18446744073709551616-(b+1):=by omega
 rw[BitVec.toNat_and,BitVec.toNat_not,h1,h2,gI,e];omega
theorem F3:(4294967295:Nat)=wd (fun i=>decide (i<1440)) 22:=by
 refine mG _ 22 _ (by omega) fun j hj=> ?_;have e:(4294967295:Nat)=2^32-1:=by decide
 rw[e,AV];have:(j<32)=(64*22+j<1440):=by apply propext;omega
 simp only[this]
theorem Lu (f:Nat->Bool):(mv f).setIfInBounds 22 (.int .u64 (bits .and .u64 (wd f 22:Int) 4294967295))=mv fun i=>f i&&decide (i<1440):=by
 have e:bits .and .u64 (wd f 22:Int) 4294967295=((wd (fun i=>f i&&decide (i<1440)) 22:Nat):Int):=by
  have:=bits_and_u64_nat (wd f 22) 4294967295 (gS f 22) (by omega);rw[<-F0 f (fun i=>decide (i<1440)) 22,<-F3];exact this
 rw[e,AW _ _ 22 (by omega)];refine iP fun i hi=> ?_;by_cases h:i/64=22
 ·rw[ay h]
 ·rw[aw h];have:i<1440:=(by omega);simp[this]
theorem kG {w:World}{g:Nat}{f:Nat->Bool}{t:TypeId}(hg:w.heap[g]? =ah (mv f) t)(k:Nat)(hk:k<23):w.cell? (ae g k)=some (.int .u64 (wd f k:Int)):=by
 rw[aV w g k _ t (0,0) hg,pS f k hk]
theorem sW (w:World)(a:Addr)(v:Value)(p:Addr)(h:p.block≠a.block):(w.setCell a v).drew.cell? p=w.cell? p:=
 dL (w:=w) (Below.heap_setCell w a v p.block h)
theorem AX (h:Nat->Bool):mv (fun _=>false)=mv (fun i=>decide (i<64*0)&&h i):=iP fun i _=>by simp
theorem ud (k:Nat)(hk:k<23)(h:Nat->Bool):(mv fun i=>decide (i<64*k)&&h i).setIfInBounds k (.int .u64 (wd h k:Int))=mv fun i=>decide (i<64*(k+1))&&h i:=by
 rw[AW _ _ k hk];refine iP fun i hi=> ?_;by_cases h:i/64=k
 ·have:i<64*(k+1):=by omega
  simp[h,this]
 ·have:(i<64*k)=(i<64*(k+1)):=by apply propext;omega
  simp only[h,if_false,this]
theorem Dv (h:Nat->Bool):(mv fun i=>decide (i<64*23)&&h i)=mv h:=iP fun i hi=>by
 have:i<64*23:=by omega
 simp[this]
theorem iD {w:World}{g:Nat}{c c':Array Value}{t:TypeId}(hg:w.heap[g]? =ah c t)(e:c=c'):w.heap[g]? =ah c' t:=by rw[hg,e]
theorem aP (w:World)(o:Obj):(w.alloc o).heap.size=w.heap.size+1:=by show(w.heap.push o).size=_;simp
theorem dq (w:World)(o:Obj)(k:Nat)(h:k=w.heap.size):(w.alloc o).heap[k]? =some o:=by subst h;exact aC w o
theorem cY (w:World)(o:Obj)(k:Nat)(h:k<w.heap.size){x:Obj}(hx:w.heap[k]? =some x):(w.alloc o).heap[k]? =some x:=(dB w o k h).trans hx
theorem ba (f:Nat->Bool):(prog.info? 61).map (·.size)=some (mv f).size:=by rw[bO];kernel_rfl
theorem bQ:prog.underlying 61=some (.array 23 59):=by kernel_rfl
section
theorem vy (f:Nat->Bool)(w:World):
  Calls prog 30 #[.agg (mv f)] w fun e w'=>e= .returned (.agg (mv fun i=>f i&&decide (i<1440)))/\ao w w':=by
 have g22:=pS f 22 (by omega);have e22:=Lu f;have hz:=dU;go_enter func30,ntmps30
 go_wp2_with(first
  |(refine aR rfl 61 _ rfl _ rfl _ _ _ _ (heap_alloc2_old _ _ _) bQ rfl (ba _) ?_)
  |(refine az rfl 61 _ _ rfl _ _ rfl rfl _ _ (heap_alloc2_new _ _ _) (ba _) (by simp[bO]) (dH _) ?_))
 refine aU (v:= .agg (mv fun i=>f i&&decide (i<1440))) ?_ rfl ⟨rfl,?_⟩
 ·exact a8 rfl _ _ (w.heap.size+1) _ _ _ _ rfl (aJ _ _ _ _ _ _ (heap_alloc2_new _ _ _)) bQ rfl (ba _)
 ·exact below_setRow ((am _ _).alloc (by simp) _) (by omega) _
attribute [local go_sem↓] Go.wp_at_zero Go.wp_at_succ
theorem qX (K:Nat)(o:Bool->Bool->Bool)(hK: ∀(f g:Nat->Bool) (k:Nat) (w:World),Calls prog K #[.int .u64 (wd f k:Int),.int .u64 (wd g k:Int)] w fun e w'=>e= .returned (.int .u64 (wd (fun i=>o (f i) (g i)) k:Int))/\w'=w)
  (eK: ∀args w,(callFunc K args).run prog w= .ok (.enter K args) w) (a b:Nat->Bool) (w:World):
  Calls prog 117 #[.agg (mv a),.agg (mv b),.func (.func K) #[] #[]] w fun e w'=>e= .returned (.agg (mv fun i=>o (a i) (b i)&&decide (i<1440)))/\ao w w':=by
 have hz:=dU;go_enter func117,ntmps117;go_wp2
 go_loopw [9] (fun i wr=> ∃k:Nat,k<=23/\i=ag k/\wr.heap[w.heap.size]? =ah (mv a) 61/\wr.heap[w.heap.size+1]? =ah (mv b) 61/\wr.heap[w.heap.size+1+1]? =ah (mv fun _=>false) 61/\
  wr.heap[w.heap.size+1+1+1]? =ah (mv fun i=>decide (i<64*k)&&o (a i) (b i)) 61/\ao w wr) (fun i _=>23-(intOf i).toNat)
 case atStart=>
  refine⟨0,by omega,rfl,?_,?_,?_,?_,?_⟩
  ·(repeat (first|refine cY _ _ _ (by simp only[aP];omega) ?_|exact dq _ _ _ (by first|rfl|simp only[aP])))
  ·(repeat (first|refine cY _ _ _ (by simp only[aP];omega) ?_|exact dq _ _ _ (by first|rfl|simp only[aP])))
  ·(repeat (first|refine cY _ _ _ (by simp only[aP];omega) ?_|exact dq _ _ _ (by first|rfl|simp only[aP])))
  ·refine iD ?_ (AX _);(repeat (first|refine cY _ _ _ (by simp only[aP];omega) ?_|exact dq _ _ _ (by first|rfl|simp only[aP])))
  ·exact(((am _ _).alloc (by simp) _).alloc (by simp;omega) _).alloc (by simp;omega) _
 case round=>
  obtain⟨k,hk,rfl,ha,hb,ho,hm,hbel⟩:=hrel;by_cases hlt:k<23
  ·have ca:=kG ha k hlt;have cb:=kG hb k hlt;have cm:=kG hm k hlt;have fm:=bl _ _ k _ _ hm;have hi0:(0:Int)<=(k:Int):=(by omega);have hi1:(k:Int)<23:=(by omega);have n1:w.heap.size+1+1+1≠w.heap.size:=(by omega);have n2:w.heap.size+1+1≠w.heap.size:=(by omega);go_wp2
   go_region_held3 (fun w'=>w'.cell? (ae w.heap.size k)=some (.int .u64 (wd a k:Int))/\w'.cell? (ae (w.heap.size+1) k)=some (.int .u64 (wd b k:Int)))
    (go_keep)
    ((refine(hK a b k _).mono ?_;rintro e w' ⟨rfl,rfl⟩))
   go_wp2;go_roundw
   case rel=>
    refine⟨k+1,by omega,by go_num,?_,?_,?_,?_,?_⟩
    ·exact(aN _ _ _ _ (by dsimp only;omega)).trans ha
    ·exact(aN _ _ _ _ (by dsimp only;omega)).trans hb
    ·exact(aN _ _ _ _ (by dsimp only;omega)).trans ho
    ·exact iD (aX _ _ _ _ _ _ hm) (ud k hlt fun i=>o (a i) (b i))
    ·exact(hbel.setCell (by dsimp only;omega) _).drew
   case measure=>simp[intOf];omega
  ·have hk23:k=23:=(by omega);subst hk23;have hm':=iD hm (Dv fun i=>o (a i) (b i));clear hm
   go_wp2_with(first
    |(refine aR rfl 61 _ rfl _ rfl _ _ _ _ hm' bQ rfl (ba _) ?_)
    |(go_at_call 30;refine(vy _ _).mono ?_;rintro e w' ⟨rfl,hb'⟩;have ho':=(hb'.block (w.heap.size+1+1) (aF ho)).trans ho)
    |(refine az rfl 61 _ _ rfl _ _ rfl rfl _ _ (by assumption) (ba _) (by simp[bO]) (dH _) ?_))
   refine aU (v:= .agg (mv fun i=>o (a i) (b i)&&decide (i<1440))) ?_ rfl ⟨rfl,?_⟩
   ·exact a8 rfl _ _ (w.heap.size+1+1) _ _ _ _ rfl (aJ _ _ _ _ _ _ ho') bQ rfl (ba _)
   ·exact below_setRow (au hbel hb') (by omega) _
theorem Nk (f g:Nat->Bool)(k:Nat)(w:World):Calls prog 118 #[.int .u64 (wd f k:Int),.int .u64 (wd g k:Int)] w fun e w'=>e= .returned (.int .u64 (wd (fun i=>f i||g i) k:Int))/\w'=w:=by
 have e1:=bits_or_u64_nat _ _ (gS f k) (gS g k);rw[AM]at e1;go_enter func118,ntmps118;go_wp2;go_ret;exact⟨rfl,rfl⟩
theorem Lv (f g:Nat->Bool)(k:Nat)(w:World):Calls prog 120 #[.int .u64 (wd f k:Int),.int .u64 (wd g k:Int)] w fun e w'=>e= .returned (.int .u64 (wd (fun i=>f i&&g i) k:Int))/\w'=w:=by
 have e1:=bits_and_u64_nat _ _ (gS f k) (gS g k);rw[F0]at e1;go_enter func120,ntmps120;go_wp2;go_ret;exact⟨rfl,rfl⟩
theorem Lw (f g:Nat->Bool)(k:Nat)(w:World):Calls prog 119 #[.int .u64 (wd f k:Int),.int .u64 (wd g k:Int)] w fun e w'=>e= .returned (.int .u64 (wd (fun i=>f i&& !g i) k:Int))/\w'=w:=by
 have e1:=Ek _ _ (gS f k) (gS g k);rw[F1]at e1;go_enter func119,ntmps119;go_wp2;go_ret;exact⟨rfl,rfl⟩
theorem yZ (a b:Nat->Bool)(w:World):
  Calls prog 83 #[.agg (mv a),.agg (mv b)] w fun e w'=>e= .returned (.agg (mv fun i=>(a i||b i)&&decide (i<1440)))/\ao w w':=by
 have hz:=dU;have h1:(((w.alloc (.cells (mv a) 61)).alloc (.cells (mv b) 61)).alloc (.cells (mv fun _=>false) 61)).heap[w.heap.size]? =ah (mv a) 61:=by(repeat (first|refine cY _ _ _ (by simp only[aP];omega) ?_|exact dq _ _ _ (by first|rfl|simp only[aP])))
 have h2:(((w.alloc (.cells (mv a) 61)).alloc (.cells (mv b) 61)).alloc (.cells (mv fun _=>false) 61)).heap[w.heap.size+1]? =ah (mv b) 61:=by(repeat (first|refine cY _ _ _ (by simp only[aP];omega) ?_|exact dq _ _ _ (by first|rfl|simp only[aP])))
 have h3:(((w.alloc (.cells (mv a) 61)).alloc (.cells (mv b) 61)).alloc (.cells (mv fun _=>false) 61)).heap[w.heap.size+1+1]? =ah (mv fun _=>false) 61:=by(repeat (first|refine cY _ _ _ (by simp only[aP];omega) ?_|exact dq _ _ _ (by first|rfl|simp only[aP])))
 have hb0:ao w (((w.alloc (.cells (mv a) 61)).alloc (.cells (mv b) 61)).alloc (.cells (mv fun _=>false) 61)):=((am _ _).alloc (by simp) _).alloc (by simp only[aP];omega) _;go_enter func83,ntmps83
 go_wp2_with(first
  |(refine aR rfl 61 _ rfl _ rfl _ _ _ _ h1 bQ rfl (ba _) ?_)
  |(refine aR rfl 61 _ rfl _ rfl _ _ _ _ h2 bQ rfl (ba _) ?_)
  |(go_at_call 117;refine(qX 118 (fun x y=>x||y) Nk (fun _ _=>by simp[go_sem]) a b _).mono ?_;rintro e w' ⟨rfl,hb'⟩;have ho':=ai hb' h3)
  |(refine az rfl 61 _ _ rfl _ _ rfl rfl _ _ (by assumption) (ba _) (by simp[bO]) (dH _) ?_))
 refine aU (v:= .agg (mv fun i=>(a i||b i)&&decide (i<1440))) ?_ rfl ⟨rfl,?_⟩
 ·exact a8 rfl _ _ (w.heap.size+1+1) _ _ _ _ rfl (aJ _ _ _ _ _ _ ho') bQ rfl (ba _)
 ·exact below_setRow (au hb0 hb') (by omega) _
theorem pT (a b:Nat->Bool)(w:World):
  Calls prog 84 #[.agg (mv a),.agg (mv b)] w fun e w'=>e= .returned (.agg (mv fun i=>(a i&& !b i)&&decide (i<1440)))/\ao w w':=by
 have hz:=dU;have h1:(((w.alloc (.cells (mv a) 61)).alloc (.cells (mv b) 61)).alloc (.cells (mv fun _=>false) 61)).heap[w.heap.size]? =ah (mv a) 61:=by(repeat (first|refine cY _ _ _ (by simp only[aP];omega) ?_|exact dq _ _ _ (by first|rfl|simp only[aP])))
 have h2:(((w.alloc (.cells (mv a) 61)).alloc (.cells (mv b) 61)).alloc (.cells (mv fun _=>false) 61)).heap[w.heap.size+1]? =ah (mv b) 61:=by(repeat (first|refine cY _ _ _ (by simp only[aP];omega) ?_|exact dq _ _ _ (by first|rfl|simp only[aP])))
 have h3:(((w.alloc (.cells (mv a) 61)).alloc (.cells (mv b) 61)).alloc (.cells (mv fun _=>false) 61)).heap[w.heap.size+1+1]? =ah (mv fun _=>false) 61:=by(repeat (first|refine cY _ _ _ (by simp only[aP];omega) ?_|exact dq _ _ _ (by first|rfl|simp only[aP])))
 have hb0:ao w (((w.alloc (.cells (mv a) 61)).alloc (.cells (mv b) 61)).alloc (.cells (mv fun _=>false) 61)):=((am _ _).alloc (by simp) _).alloc (by simp only[aP];omega) _;go_enter func84,ntmps84
 go_wp2_with(first
  |(refine aR rfl 61 _ rfl _ rfl _ _ _ _ h1 bQ rfl (ba _) ?_)
  |(refine aR rfl 61 _ rfl _ rfl _ _ _ _ h2 bQ rfl (ba _) ?_)
  |(go_at_call 117;refine(qX 119 (fun x y=>x&& !y) Lw (fun _ _=>by simp[go_sem]) a b _).mono ?_;rintro e w' ⟨rfl,hb'⟩;have ho':=ai hb' h3)
  |(refine az rfl 61 _ _ rfl _ _ rfl rfl _ _ (by assumption) (ba _) (by simp[bO]) (dH _) ?_))
 refine aU (v:= .agg (mv fun i=>(a i&& !b i)&&decide (i<1440))) ?_ rfl ⟨rfl,?_⟩
 ·exact a8 rfl _ _ (w.heap.size+1+1) _ _ _ _ rfl (aJ _ _ _ _ _ _ ho') bQ rfl (ba _)
 ·exact below_setRow (au hb0 hb') (by omega) _
theorem AY (a b:Nat->Bool)(w:World):
  Calls prog 85 #[.agg (mv a),.agg (mv b)] w fun e w'=>e= .returned (.agg (mv fun i=>(a i&&b i)&&decide (i<1440)))/\ao w w':=by
 have hz:=dU;have h1:(((w.alloc (.cells (mv a) 61)).alloc (.cells (mv b) 61)).alloc (.cells (mv fun _=>false) 61)).heap[w.heap.size]? =ah (mv a) 61:=by(repeat (first|refine cY _ _ _ (by simp only[aP];omega) ?_|exact dq _ _ _ (by first|rfl|simp only[aP])))
 have h2:(((w.alloc (.cells (mv a) 61)).alloc (.cells (mv b) 61)).alloc (.cells (mv fun _=>false) 61)).heap[w.heap.size+1]? =ah (mv b) 61:=by(repeat (first|refine cY _ _ _ (by simp only[aP];omega) ?_|exact dq _ _ _ (by first|rfl|simp only[aP])))
 have h3:(((w.alloc (.cells (mv a) 61)).alloc (.cells (mv b) 61)).alloc (.cells (mv fun _=>false) 61)).heap[w.heap.size+1+1]? =ah (mv fun _=>false) 61:=by(repeat (first|refine cY _ _ _ (by simp only[aP];omega) ?_|exact dq _ _ _ (by first|rfl|simp only[aP])))
 have hb0:ao w (((w.alloc (.cells (mv a) 61)).alloc (.cells (mv b) 61)).alloc (.cells (mv fun _=>false) 61)):=((am _ _).alloc (by simp) _).alloc (by simp only[aP];omega) _;go_enter func85,ntmps85
 go_wp2_with(first
  |(refine aR rfl 61 _ rfl _ rfl _ _ _ _ h1 bQ rfl (ba _) ?_)
  |(refine aR rfl 61 _ rfl _ rfl _ _ _ _ h2 bQ rfl (ba _) ?_)
  |(go_at_call 117;refine(qX 120 (fun x y=>x&&y) Lv (fun _ _=>by simp[go_sem]) a b _).mono ?_;rintro e w' ⟨rfl,hb'⟩;have ho':=ai hb' h3)
  |(refine az rfl 61 _ _ rfl _ _ rfl rfl _ _ (by assumption) (ba _) (by simp[bO]) (dH _) ?_))
 refine aU (v:= .agg (mv fun i=>(a i&&b i)&&decide (i<1440))) ?_ rfl ⟨rfl,?_⟩
 ·exact a8 rfl _ _ (w.heap.size+1+1) _ _ _ _ rfl (aJ _ _ _ _ _ _ ho') bQ rfl (ba _)
 ·exact below_setRow (au hb0 hb') (by omega) _
end
theorem rz {v v':Value}(h:v=v'):Ending.returned v= .returned v':=by rw[h]
theorem sX {k:IntKind}{a b:Int}(h:a=b):Value.int k a= .int k b:=by rw[h]
theorem I9 (n:Nat)(hn:n<=64):IntKind.u64.wrap (IntKind.u64.wrap (2^n)-1)=((2^n-1:Nat):Int):=by
 rw[gI,gI];have hp:(1:Nat)<=2^n:=Nat.two_pow_pos n;have hc:((2:Int)^n)=((2^n:Nat):Int):=by simp
 rw[hc];by_cases h:n=64
 ·subst h;decide
 ·have hl:2^n<=2^63:=Nat.pow_le_pow_right (by omega) (by omega);generalize 2^n=p at*;omega
theorem Ja (n:Nat)(hn:n<=64)(w:World):Calls prog 153 #[ag n] w fun e w'=>e= .returned (.int .u64 ((2^n-1:Nat):Int))/\w'=w:=by
 go_enter func153,ntmps153;go_wp2;go_ret;exact⟨rz (sX (I9 n hn)),rfl⟩
theorem yr (d:Int)(h0:0<=d)(h1:d<=64)(w:World):Calls prog 153 #[ag d] w fun e w'=>e= .returned (.int .u64 ((2^d.toNat-1:Nat):Int))/\w'=w:=by
 have:=Ja d.toNat (by omega) w;rw[Int.toNat_of_nonneg h0]at this;exact this
theorem uZ (n:Nat)(hn:n<=1440)(w:World):Calls prog 152 #[ag n] w fun e w'=>e= .returned (ag ((64*(n/64)+64:Nat):Int))/\w'=w:=by
 go_enter func152,ntmps152;go_wp2;go_ret;exact⟨rz (sX (by omega)),rfl⟩
def Tab (w:World):Prop:= ∀j,j<64->w.cell? (ae 4 j)=some (.int .u8 ((Lib.deBruijn64tab.getD j 0:Nat):Int))
theorem Tab.later {w w':World}(h:Tab w)(hb:ao w w'):Tab w':=fun j hj=>(hb.cell (bT (h j hj))).trans (h j hj)
theorem Nl (x a:Nat)(hx:x<18446744073709551616)(hx0:x≠0)(hlow:x&&&(18446744073709551616-x)=a):
  IntKind.u64.wrap (bits BinOp.and IntKind.u64 (x:Int) (IntKind.u64.wrap (-(x:Int)))*285870213051353865)/288230376151711744=((a*285870213051353865%18446744073709551616/288230376151711744:Nat):Int):=by
 have e1:IntKind.u64.wrap (-(x:Int))=((18446744073709551616-x:Nat):Int):=by rw[gI];omega
 rw[e1,bits_and_u64_nat x _ hx (by omega),hlow,gI];omega
theorem Ly (x k idx:Nat)(w:World)(hx0:((x:Int)==0)=false)
  (key:IntKind.u64.wrap (bits BinOp.and IntKind.u64 (x:Int) (IntKind.u64.wrap (-(x:Int)))*285870213051353865)/288230376151711744=(idx:Int))
  (hi:idx<64) (hk:k<64) (hcell:w.cell? (ae 4 idx)=some (.int .u8 k)):
  Calls prog 192 #[.int .u64 x] w fun e w'=>e= .returned (ag k)/\w'=w:=by
 go_enter func192,ntmps192;go_wp2_with(simp only[key])
 go_ret;exact⟨rfl,rfl⟩
theorem Nm (x:Nat)(hx:x<18446744073709551616)(hx0:x≠0)(w:World)(hT:Tab w):
  ∃k:Nat,k<64/\x.testBit k=true/\(∀j,j<k->x.testBit j=false)/\Calls prog 192 #[.int .u64 x] w fun e w'=>e= .returned (ag k)/\w'=w:=by
 obtain⟨hlow,hk⟩:=Lib.lowest_bit 64 x hx0 hx;obtain⟨hi,htab⟩:=Lib.deBruijn64_at _ hk;have hcell:=hT _ hi;rw[htab]at hcell
 have hb: ∀j,j<=Lib.ctz 64 x->x.testBit j=decide (j=Lib.ctz 64 x):=by
  obtain⟨m,hm,hlt⟩:=Lib.ctzFrom_spec 64 x (by omega) hx;have e:Lib.ctz 64 x=Lib.ctzFrom 64 x:=(by simp[Lib.ctz,hx0]);rw[e];clear hcell htab hi hlow hk e;generalize Lib.ctzFrom 64 x=k at*;intro j hj;rw[hm,Nat.mul_comm,Nat.testBit_mul_two_pow];by_cases hjk:j=k
  ·subst hjk;simp
  ·have: ¬k<=j:=(by omega);simp[this,hjk]
 exact⟨_,hk,by rw[hb _ (aA _)];simp,fun j hj=>by rw[hb _ (by omega)];simp;omega,Ly x _ _ w (by simp;omega) (Nl x _ hx hx0 hlow) hi hk hcell⟩
theorem Nn (f:Nat->Bool)(by' i q r:Nat)(hq:q=by'/64)(hr:r=by'%64)(hi:q<=i):
  IntKind.u64.wrap ((wd f (i-q):Int)*2^r)=((wd (fun t=>decide (by'<=t)&&decide (64*(i-q)<=t-by')&&f (t-by')) i:Nat):Int):=by
 have e1:wd (fun t=>decide (by'<=t)&&decide (64*(i-q)<=t-by')&&f (t-by')) i=wd f (i-q)*2^r%18446744073709551616:=by
  symm;refine mG _ _ _ (Nat.mod_lt _ (by omega)) fun j hj=> ?_;rw[yl _ _ j hj,jc];by_cases h:r<=j
  ·have a1:by'<=64*i+j:=(by omega);have a2:64*(i-q)<=64*i+j-by':=(by omega);have a3:64*(i-q)+(j-r)=64*i+j-by':=(by omega);have a4:j-r<64:=(by omega);simp[h,a1,a2,a3,a4]
  ·by_cases a1:by'<=64*i+j
   ·have a2: ¬64*(i-q)<=64*i+j-by':=(by omega);simp[h,a2]
   ·simp[h,a1]
 rw[gI,e1];have:((2:Int)^r)=((2^r:Nat):Int):=by simp
 rw[this];omega
theorem No (f:Nat->Bool)(by' i q r:Nat)(hq:q=by'/64)(hr:r=by'%64)(hi:q<i):
  ((wd (fun t=>decide (by'<=t)&&decide (64*(i-q)<=t-by')&&f (t-by')) i|||wd f (i-q-1)/2^(64-r):Nat))=wd (fun t=>decide (by'<=t)&&f (t-by')) i:=by
 have l1:=gS f (i-q-1);have l2:wd f (i-q-1)/2^(64-r)<=wd f (i-q-1):=Nat.div_le_self _ _;refine mG _ _ _ (show _<2^64 from Nat.or_lt_two_pow (gS _ _) (by omega)) fun j hj=> ?_;rw[Nat.testBit_or,jc,ub,jc];have a1:by'<=64*i+j:=by omega
 by_cases h:r<=j
 ·have a2:64*(i-q)<=64*i+j-by':=by omega
  have a4: ¬j+(64-r)<64:=(by omega);simp[hj,a1,a2,a4]
 ·have a2: ¬64*(i-q)<=64*i+j-by':=by omega
  have a3:64*(i-q-1)+(j+(64-r))=64*i+j-by':=(by omega);have a4:j+(64-r)<64:=(by omega);simp[hj,a1,a2,a3,a4]
theorem Jb (f:Nat->Bool)(by' i q r:Nat)(hq:q=by'/64)(hr:r=by'%64)(hi:q<=i):
  wd f i/2^r=wd (fun t=>decide (t+by'<64*(i+1))&&f (t+by')) (i-q):=by
 have l2:wd f i/2^r<=wd f i:=Nat.div_le_self _ _;have l1:=gS f i;refine mG _ _ _ (by omega) fun j hj=> ?_;rw[ub,jc];by_cases h:j+r<64
 ·have a1:64*(i-q)+j+by'<64*(i+1):=by omega
  have a2:64*i+(j+r)=64*(i-q)+j+by':=(by omega);simp[h,a1,a2]
 ·have a1: ¬64*(i-q)+j+by'<64*(i+1):=by omega
  simp[h,a1]
theorem Jc (f:Nat->Bool)(by' i q r:Nat)(hq:q=by'/64)(hr:r=by'%64)(hi:q<=i):
  bits .or .u64 (wd (fun t=>decide (t+by'<64*(i+1))&&f (t+by')) (i-q):Int) (IntKind.u64.wrap ((wd f (i+1):Int)*2^(64-r)))=((wd (fun t=>f (t+by')) (i-q):Nat):Int):=by
 have e1:IntKind.u64.wrap ((wd f (i+1):Int)*2^(64-r))=((wd (fun t=> !decide (t+by'<64*(i+1))&&f (t+by')) (i-q):Nat):Int):=by
  have e2:wd (fun t=> !decide (t+by'<64*(i+1))&&f (t+by')) (i-q)=wd f (i+1)*2^(64-r)%18446744073709551616:=by
   symm;refine mG _ _ _ (Nat.mod_lt _ (by omega)) fun j hj=> ?_;rw[yl _ _ j hj,jc];by_cases h:64-r<=j
   ·have a1: ¬64*(i-q)+j+by'<64*(i+1):=(by omega);have a2:64*(i+1)+(j-(64-r))=64*(i-q)+j+by':=(by omega);have a3:j-(64-r)<64:=(by omega);simp[h,a1,a2,a3]
   ·have a1:64*(i-q)+j+by'<64*(i+1):=(by omega);simp[h,a1]
  rw[gI,e2];have:((2:Int)^(64-r))=((2^(64-r):Nat):Int):=(by simp);rw[this];omega
 rw[e1,bits_or_u64_nat _ _ (gS _ _) (gS _ _),AM]
 have e3:wd (fun t=>(decide (t+by'<64*(i+1))&&f (t+by'))||(!decide (t+by'<64*(i+1))&&f (t+by'))) (i-q)=wd (fun t=>f (t+by')) (i-q):=mH fun j _=>by
  cases decide (64*(i-q)+j+by'<64*(i+1))<;>simp
 rw[e3]
theorem Dw (f:Nat->Bool)(b i q r d:Nat)(hq:q=b/64)(hr:r=b%64)(hd:i=q+d):
  IntKind.u64.wrap ((wd f d:Int)*2^r)=((wd (fun t=>decide (b<=t)&&decide (64*d<=t-b)&&f (t-b)) i:Nat):Int):=by
 have:=Nn f b i q r hq hr (by omega);have e:i-q=d:=by omega
 rw[e]at this;exact this
theorem Lz (f:Nat->Bool)(b q r:Nat)(hq:q=b/64)(hr:r=b%64):
  IntKind.u64.wrap ((wd f 0:Int)*2^r)=((wd (fun t=>decide (b<=t)&&f (t-b)) q:Nat):Int):=by
 rw[Dw f b q q r 0 hq hr rfl];have e3:wd (fun t=>decide (b<=t)&&decide (64*0<=t-b)&&f (t-b)) q=wd (fun t=>decide (b<=t)&&f (t-b)) q:=mH fun j _=>by simp
 rw[e3]
theorem LA (f:Nat->Bool)(b i q r d:Nat)(hq:q=b/64)(hr:r=b%64)(hd:i=q+(d+1)):
  bits .or .u64 (wd (fun t=>decide (b<=t)&&decide (64*(d+1)<=t-b)&&f (t-b)) i:Int) ((wd f d:Int)/2^(64-r))=((wd (fun t=>decide (b<=t)&&f (t-b)) i:Nat):Int):=by
 have:=No f b i q r hq hr (by omega);have e:i-q=d+1:=by omega
 rw[e]at this;have e2:((wd f d:Int)/2^(64-r))=((wd f d/2^(64-r):Nat):Int):=by simp
 have l2:wd f d/2^(64-r)<=wd f d:=Nat.div_le_self _ _;have l1:=gS f d;rw[e2,bits_or_u64_nat _ _ (gS _ _) (by omega)];exact congrArg _ this
theorem za (f:Nat->Bool)(b i q r d:Nat)(hq:q=b/64)(hr:r=b%64)(hd:i=q+d):
  (wd f i:Int)/2^r=((wd (fun t=>decide (t+b<64*(i+1))&&f (t+b)) d:Nat):Int):=by
 have:=Jb f b i q r hq hr (by omega);have e:i-q=d:=by omega
 rw[e]at this;rw[<-this];simp
theorem F4 (f:Nat->Bool)(b i q r d:Nat)(hq:q=b/64)(hr:r=b%64)(hd:i=q+d)(hi:i<22):
  bits .or .u64 (wd (fun t=>decide (t+b<64*(i+1))&&f (t+b)) d:Int) (IntKind.u64.wrap ((wd f (i+1):Int)*2^(64-r)))=((wd (fun t=>decide (t+b<1472)&&f (t+b)) d:Nat):Int):=by
 have:=Jc f b i q r hq hr (by omega);have e:i-q=d:=by omega
 rw[e]at this;rw[this]
 have e3:wd (fun t=>f (t+b)) d=wd (fun t=>decide (t+b<1472)&&f (t+b)) d:=mH fun j _=>by
  have:64*d+j+b<1472:=(by omega);simp[this]
 rw[e3]
theorem AZ (k:Nat)(hk:k<23)(h:Nat->Bool)(v:Value):((mv fun i=>decide (i<64*k)&&h i).setIfInBounds k v).setIfInBounds k (.int .u64 (wd h k:Int))=mv fun i=>decide (i<64*(k+1))&&h i:=by
 rw[Array.setIfInBounds_setIfInBounds];exact ud k hk h
theorem Jd (f:Nat->Bool)(b q:Nat)(hq:q=b/64):mv (fun _=>false)=mv (fun t=>decide (t<64*q)&&(decide (b<=t)&&f (t-b))):=iP fun t _=>by
 by_cases h:t<64*q
 ·have: ¬b<=t:=by omega
  simp[this]
 ·simp[h]
theorem F5 (f:Nat->Bool)(b:Nat)(hb:b<1440)(w:World):
  Calls prog 122 #[.agg (mv f),ag b] w fun e w'=>e= .returned (.agg (mv fun t=>decide (b<=t)&&f (t-b)))/\ao w w':=by
 have hz:=dU;obtain⟨q,hq⟩: ∃q:Nat,q=b/64:=⟨_,rfl⟩
 obtain⟨r,hr⟩: ∃r:Nat,r=b%64:=⟨_,rfl⟩
 have HQ:P3 (q=b/64):=hq;have HR:P3 (r=b%64):=hr;have t1:(b:Int)/64=(q:Int):=by omega
 have t2:(b:Int)%64=(r:Int):=by omega
 have hq23:q<23:=by omega
 have hr64:r<64:=by omega
 clear hq hr;go_enter func122,ntmps122;go_wp2
 go_loopw [8] (fun i wr=> ∃k d:Nat,k<=23/\k=q+d/\i=ag k/\wr.heap[w.heap.size]? =ah (mv f) 61/\wr.heap[w.heap.size+1]? =ah (mv fun _=>false) 61/\
  wr.heap[w.heap.size+1+1]? =ah (mv fun t=>decide (t<64*k)&&(decide (b<=t)&&f (t-b))) 61/\ao w wr) (fun i _=>23-(intOf i).toNat)
 case atStart=>
  refine⟨q,0,by omega,rfl,rfl,?_,?_,?_,?_⟩
  ·(repeat (first|refine cY _ _ _ (by simp only[aP];omega) ?_|exact dq _ _ _ (by first|rfl|simp only[aP])))
  ·(repeat (first|refine cY _ _ _ (by simp only[aP];omega) ?_|exact dq _ _ _ (by first|rfl|simp only[aP])))
  ·refine iD ?_ (Jd f b q HQ.o);(repeat (first|refine cY _ _ _ (by simp only[aP];omega) ?_|exact dq _ _ _ (by first|rfl|simp only[aP])))
  ·exact((am _ _).alloc (by simp) _).alloc (by simp only[aP];omega) _
 case round=>
  obtain⟨k,d,hk,hkd,rfl,ha,ho,hm,hbel⟩:=hrel;have HD:P3 (k=q+d):=hkd;by_cases hlt:k<23
  ·have ca:=kG ha d (by omega);have cm:=kG hm k hlt;have fm:=bl _ _ k _ _ hm;have e1:(k:Int)-(q:Int)=(d:Int):=(by omega);have hi0:(0:Int)<=(d:Int):=(by omega);have hi1:(d:Int)<23:=(by omega);by_cases hd0:d=0
   ·subst hd0;have p1:=Lz f b q r HQ.o HR.o;have hkq:k=q:=hkd;subst hkq;clear hkd;go_wp2;go_roundw
    case rel=>
     refine⟨k+1,1,by omega,rfl,by go_num,?_,?_,?_,hbel.setCell (by dsimp only;omega) _⟩
     ·exact(aN _ _ _ _ (by dsimp only;omega)).trans ha
     ·exact(aN _ _ _ _ (by dsimp only;omega)).trans ho
     ·exact iD (aX _ _ _ _ _ _ hm) (ud k hlt fun t=>decide (b<=t)&&f (t-b))
    case measure=>simp[intOf];omega
   ·obtain⟨c,hc⟩: ∃c,d=c+1:=⟨d-1,by omega⟩
    have p1:=Dw f b k q r d HQ.o HR.o hkd;have p2:=LA f b k q r c HQ.o HR.o (by omega);rw[<-hc]at p2;have e2:(d:Int)-1=(c:Int):=(by omega);have e3:IntKind.i64.wrap ((k:Int)-(q:Int))=(d:Int):=(by rw[bG];omega);have e4:IntKind.i64.wrap ((d:Int)-1)=(c:Int):=(by rw[bG];omega);have e5:IntKind.i64.wrap (64-(r:Int))=64-(r:Int):=(by rw[bG];omega);have e6:(64-(r:Int)).toNat=64-r:=(by omega);have e7:(0:Int)<=64-(r:Int):=(by omega);have j0:(0:Int)<=(c:Int):=(by omega);have j1:(c:Int)<23:=(by omega);have cc:=kG ha c (by omega);have hgt:(q:Int)<(k:Int):=(by omega);generalize (fun t=>decide (b<=t)&&decide (64*d<=t-b)&&f (t-b))=G1 at p1 p2;have c1:(wr.setCell ⟨w.heap.size+1+1,k,none⟩ (.int .u64 (wd G1 k:Int))).cell? (ae w.heap.size c)=some (.int .u64 (wd f c:Int)):=(sW _ _ _ _ (by dsimp only;omega)).trans cc;have hm2:=aX _ _ k _ _ (.int .u64 (wd G1 k:Int)) hm
    have c2:(wr.setCell ⟨w.heap.size+1+1,k,none⟩ (.int .u64 (wd G1 k:Int))).cell? (ae (w.heap.size+1+1) k)=some (.int .u64 (wd G1 k:Int)):=by
     rw[aV _ _ k _ _ _ hm2];simp[bO,hlt]
    have f2:=bl _ _ k _ _ hm2;have HM2:P3 ((wr.setCell ⟨w.heap.size+1+1,k,none⟩ (.int .u64 (wd G1 k:Int))).heap[w.heap.size+1+1]? =ah ((mv fun t=>decide (t<64*k)&&(decide (b<=t)&&f (t-b))).setIfInBounds k (.int .u64 (wd G1 k:Int))) 61):=hm2;clear hm2 hkd hc;go_wp2;go_region;go_wp2;go_roundw
    case rel=>
     have hD:=HD.o;refine⟨k+1,d+1,by omega,by omega,by go_num,?_,?_,?_,((hbel.setCell (by dsimp only;omega) _).setCell (by dsimp only;omega) _).drew⟩
     ·exact((aN _ _ _ _ (by dsimp only;omega)).trans (aN _ _ _ _ (by dsimp only;omega))).trans ha
     ·exact((aN _ _ _ _ (by dsimp only;omega)).trans (aN _ _ _ _ (by dsimp only;omega))).trans ho
     ·exact iD (aX _ _ _ _ _ _ HM2.o) (AZ k hlt (fun t=>decide (b<=t)&&f (t-b)) _)
    case measure=>simp[intOf];omega
  ·have hk23:k=23:=(by omega);subst hk23;have hm':=iD hm (Dv _);clear hm HD hkd
   go_wp2_with(first
    |(refine aR rfl 61 _ rfl _ rfl _ _ _ _ hm' bQ rfl (ba _) ?_)
    |(refine az rfl 61 _ _ rfl _ _ rfl rfl _ _ ho (ba _) (by simp[bO]) (dH _) ?_))
   refine aU (v:= .agg (mv fun t=>decide (b<=t)&&f (t-b))) ?_ rfl ⟨rfl,?_⟩
   ·exact a8 rfl _ _ (w.heap.size+1) _ _ _ _ rfl (aJ _ _ _ _ _ _ ho) bQ rfl (ba _)
   ·exact below_setRow hbel (by omega) _
theorem F6 (f:Nat->Bool)(b q d:Nat)(hq:q=b/64)(hd:23=q+d):(mv fun t=>decide (t<64*d)&&(decide (t+b<1472)&&f (t+b)))=mv fun t=>decide (t+b<1472)&&f (t+b):=iP fun t ht=>by
 by_cases h:t<64*d
 ·simp[h]
 ·have: ¬t+b<1472:=by omega
  simp[this]
theorem El (f:Nat->Bool)(b i q r d:Nat)(hq:q=b/64)(hr:r=b%64)(hd:i=q+d)(h22:i=22):
  (wd f i:Int)/2^r=((wd (fun t=>decide (t+b<1472)&&f (t+b)) d:Nat):Int):=by
 rw[za f b i q r d hq hr hd]
 rw[mH (f:=fun t=>decide (t+b<64*(i+1))&&f (t+b)) (g:=fun t=>decide (t+b<1472)&&f (t+b)) fun j _=>by
  have:(64*d+j+b<64*(i+1))=(64*d+j+b<1472):=(by apply propext;omega);simp only[this]]
theorem CK (f:Nat->Bool)(b:Nat)(hb:b<1440)(w:World):
  Calls prog 121 #[.agg (mv f),ag b] w fun e w'=>e= .returned (.agg (mv fun t=>decide (t+b<1472)&&f (t+b)))/\ao w w':=by
 have hz:=dU;obtain⟨q,hq⟩: ∃q:Nat,q=b/64:=⟨_,rfl⟩
 obtain⟨r,hr⟩: ∃r:Nat,r=b%64:=⟨_,rfl⟩
 have HQ:P3 (q=b/64):=hq;have HR:P3 (r=b%64):=hr;have t1:(b:Int)/64=(q:Int):=by omega
 have t2:(b:Int)%64=(r:Int):=by omega
 have hq23:q<23:=by omega
 have hr64:r<64:=by omega
 clear hq hr;go_enter func121,ntmps121;go_wp2
 go_loopw [8] (fun i wr=> ∃k d:Nat,k<=23/\k=q+d/\i=ag k/\wr.heap[w.heap.size]? =ah (mv f) 61/\wr.heap[w.heap.size+1]? =ah (mv fun _=>false) 61/\
  wr.heap[w.heap.size+1+1]? =ah (mv fun t=>decide (t<64*d)&&(decide (t+b<1472)&&f (t+b))) 61/\ao w wr) (fun i _=>23-(intOf i).toNat)
 case atStart=>
  refine⟨q,0,by omega,rfl,rfl,?_,?_,?_,?_⟩
  ·(repeat (first|refine cY _ _ _ (by simp only[aP];omega) ?_|exact dq _ _ _ (by first|rfl|simp only[aP])))
  ·(repeat (first|refine cY _ _ _ (by simp only[aP];omega) ?_|exact dq _ _ _ (by first|rfl|simp only[aP])))
  ·refine iD ?_ (AX _);(repeat (first|refine cY _ _ _ (by simp only[aP];omega) ?_|exact dq _ _ _ (by first|rfl|simp only[aP])))
  ·exact((am _ _).alloc (by simp) _).alloc (by simp only[aP];omega) _
 case round=>
  obtain⟨k,d,hk,hkd,rfl,ha,ho,hm,hbel⟩:=hrel;have HD:P3 (k=q+d):=hkd;by_cases hlt:k<23
  ·have ca:=kG ha k (by omega);have hd23:d<23:=(by omega);have cm:=kG hm d hd23;have fm:=bl _ _ d _ _ hm;have e1:(k:Int)-(q:Int)=(d:Int):=(by omega);have hi0:(0:Int)<=(d:Int):=(by omega);have hi1:(d:Int)<23:=(by omega);have p1:=za f b k q r d HQ.o HR.o hkd;by_cases hd0:k=22
   ·have hlast:(22:Int)<=(k:Int):=(by omega);have p3:=El f b k q r d HQ.o HR.o hkd hd0;have HK:P3 (k=22):=hd0;clear p1 hkd hd0;go_wp2;go_roundw
    case rel=>
     have hD:=HD.o;have hK:=HK.o;refine⟨k+1,d+1,by omega,by omega,by go_num,?_,?_,?_,hbel.setCell (by dsimp only;omega) _⟩
     ·exact(aN _ _ _ _ (by dsimp only;omega)).trans ha
     ·exact(aN _ _ _ _ (by dsimp only;omega)).trans ho
     ·exact iD (aX _ _ _ _ _ _ hm) (ud d hd23 fun t=>decide (t+b<1472)&&f (t+b))
    case measure=>
     have hK:=HK.o;simp[intOf];omega
   ·have p2:=F4 f b k q r d HQ.o HR.o hkd (by omega);generalize (fun t=>decide (t+b<64*(k+1))&&f (t+b))=G1 at p1 p2;obtain⟨c,hc⟩: ∃c,c=k+1:=⟨_,rfl⟩
    rw[<-hc]at p2;have e2:(k:Int)+1=(c:Int):=(by omega);have e3:IntKind.i64.wrap ((k:Int)-(q:Int))=(d:Int):=(by rw[bG];omega);have e4:IntKind.i64.wrap ((k:Int)+1)=(c:Int):=(by rw[bG];omega);have e5:IntKind.i64.wrap (64-(r:Int))=64-(r:Int):=(by rw[bG];omega);have e6:(64-(r:Int)).toNat=64-r:=(by omega);have e7:(0:Int)<=64-(r:Int):=(by omega);have j0:(0:Int)<=(c:Int):=(by omega);have j1:(c:Int)<23:=(by omega);have cc:=kG ha c (by omega);have c1:(wr.setCell ⟨w.heap.size+1+1,d,none⟩ (.int .u64 (wd G1 d:Int))).cell? (ae w.heap.size c)=some (.int .u64 (wd f c:Int)):=(sW _ _ _ _ (by dsimp only;omega)).trans cc;have hm2:=aX _ _ d _ _ (.int .u64 (wd G1 d:Int)) hm
    have c2:(wr.setCell ⟨w.heap.size+1+1,d,none⟩ (.int .u64 (wd G1 d:Int))).cell? (ae (w.heap.size+1+1) d)=some (.int .u64 (wd G1 d:Int)):=by
     rw[aV _ _ d _ _ _ hm2];simp[bO,hd23]
    have f2:=bl _ _ d _ _ hm2;have HM2:P3 ((wr.setCell ⟨w.heap.size+1+1,d,none⟩ (.int .u64 (wd G1 d:Int))).heap[w.heap.size+1+1]? =ah ((mv fun t=>decide (t<64*d)&&(decide (t+b<1472)&&f (t+b))).setIfInBounds d (.int .u64 (wd G1 d:Int))) 61):=hm2;have HC:P3 (c=k+1):=hc;clear hm2 hkd hc;go_wp2;go_region;go_wp2;go_roundw
    case rel=>
     have hD:=HD.o;have hC:=HC.o;refine⟨c,d+1,by omega,by omega,by go_num,?_,?_,?_,((hbel.setCell (by dsimp only;omega) _).setCell (by dsimp only;omega) _).drew⟩
     ·exact((aN _ _ _ _ (by dsimp only;omega)).trans (aN _ _ _ _ (by dsimp only;omega))).trans ha
     ·exact((aN _ _ _ _ (by dsimp only;omega)).trans (aN _ _ _ _ (by dsimp only;omega))).trans ho
     ·refine iD (aX _ _ _ _ _ _ HM2.o) ?_;exact AZ d hd23 (fun t=>decide (t+b<1472)&&f (t+b)) _
    case measure=>
     have hC:=HC.o;simp[intOf];omega
  ·have hk23:k=23:=(by omega);subst hk23;have hm':=iD hm (F6 f b q d HQ.o HD.o);clear hm HD hkd
   go_wp2_with(first
    |(refine aR rfl 61 _ rfl _ rfl _ _ _ _ hm' bQ rfl (ba _) ?_)
    |(refine az rfl 61 _ _ rfl _ _ rfl rfl _ _ ho (ba _) (by simp[bO]) (dH _) ?_))
   refine aU (v:= .agg (mv fun t=>decide (t+b<1472)&&f (t+b))) ?_ rfl ⟨rfl,?_⟩
   ·exact a8 rfl _ _ (w.heap.size+1) _ _ _ _ rfl (aJ _ _ _ _ _ _ ho) bQ rfl (ba _)
   ·exact below_setRow hbel (by omega) _
def shf (f:Nat->Bool)(x:Int)(t:Nat):Bool:=decide (t<1440)&&(decide (x<=(t:Int))&&(decide ((t:Int)-x<1440)&&f ((t:Int)-x).toNat))
theorem A1 (f:Nat->Bool)(x:Int)(h:x<= -1440\/1440<=x):(mv fun _=>false)=mv (shf f x):=iP fun t _=>by
 unfold shf;by_cases h1:t<1440
 ·by_cases h2:x<=(t:Int)
  ·have: ¬(t:Int)-x<1440:=(by omega);simp[this]
  ·simp[h2]
 ·simp[h1]
theorem Np (f:Nat->Bool)(b:Nat):(mv fun t=>(decide (b<=t)&&f (t-b))&&decide (t<1440))=mv (shf f (b:Int)):=iP fun t _=>by
 unfold shf;by_cases h1:t<1440
 ·by_cases h2:b<=t
  ·have e1:((t:Int)-(b:Int)).toNat=t-b:=(by omega);have e2:(b:Int)<=(t:Int):=(by omega);have e3:(t:Int)-(b:Int)<1440:=(by omega);simp[h1,h2,e1,e3]
  ·have e2: ¬(b:Int)<=(t:Int):=(by omega);simp[h2]
 ·simp[h1]
theorem Je (f:Nat->Bool)(b:Nat):(mv fun t=>decide (t+b<1472)&&(f (t+b)&&decide (t+b<1440)))=mv (shf f (-(b:Int))):=iP fun t _=>by
 unfold shf;by_cases h1:t+b<1440
 ·have e1:((t:Int)- -(b:Int)).toNat=t+b:=by omega
  have e2: -(b:Int)<=(t:Int):=(by omega);have e3:(t:Int)- -(b:Int)<1440:=(by omega);have e4:t+b<1472:=(by omega);have e5:t<1440:=(by omega);rw[e1];simp only[h1,e2,e3,e4,e5,decide_true,iM,Bool.and_true]
 ·have e3: ¬(t:Int)- -(b:Int)<1440:=by omega
  simp only[h1,e3,decide_false,iQ,Bool.false_and]
theorem wu (f:Nat->Bool)(x:Int)(w:World)(hx0: -9223372036854775808<=x)(hx1:x<=9223372036854775807):
  Calls prog 86 #[.agg (mv f),ag x] w fun e w'=>e= .returned (.agg (mv (shf f x)))/\ao w w':=by
 have hz:=dU;have h1:((w.alloc (.cells (mv f) 61)).alloc (.cells (mv fun _=>false) 61)).heap[w.heap.size]? =ah (mv f) 61:=by(repeat (first|refine cY _ _ _ (by simp only[aP];omega) ?_|exact dq _ _ _ (by first|rfl|simp only[aP])))
 have h3:((w.alloc (.cells (mv f) 61)).alloc (.cells (mv fun _=>false) 61)).heap[w.heap.size+1]? =ah (mv fun _=>false) 61:=by(repeat (first|refine cY _ _ _ (by simp only[aP];omega) ?_|exact dq _ _ _ (by first|rfl|simp only[aP])))
 have hb0:ao w ((w.alloc (.cells (mv f) 61)).alloc (.cells (mv fun _=>false) 61)):=(am _ _).alloc (by simp) _;rcases(show(x<= -1440)\/(1440<=x)\/(-1440<x/\x<0)\/(0<=x/\x<1440) from by omega) with h|h|⟨h,h'⟩|⟨h,h'⟩
 ·rw[<-A1 f x (.inl h)];go_enter func86,ntmps86;go_wp2_with(refine az rfl 61 _ _ rfl _ _ rfl rfl _ _ h3 (ba _) (by simp[bO]) (dH _) ?_)
  refine aU (v:= .agg (mv fun _=>false)) ?_ rfl ⟨rfl,below_setRow hb0 (by omega) _⟩;exact a8 rfl _ _ (w.heap.size+1) _ _ _ _ rfl (aJ _ _ _ _ _ _ h3) bQ rfl (ba _)
 ·rw[<-A1 f x (.inr h)];have hno: ¬x<= -1440:=(by omega);go_enter func86,ntmps86;go_wp2_with(refine az rfl 61 _ _ rfl _ _ rfl rfl _ _ h3 (ba _) (by simp[bO]) (dH _) ?_)
  refine aU (v:= .agg (mv fun _=>false)) ?_ rfl ⟨rfl,below_setRow hb0 (by omega) _⟩;exact a8 rfl _ _ (w.heap.size+1) _ _ _ _ rfl (aJ _ _ _ _ _ _ h3) bQ rfl (ba _)
 ·obtain⟨b,hb⟩: ∃b:Nat,-x=b:=⟨(-x).toNat,by omega⟩
  have hb2:b<1440:=(by omega);have hx:x= -(b:Int):=(by omega);have hshf:=Je f b;rw[<-hx]at hshf;rw[<-hshf];clear hshf hx;go_enter func86,ntmps86
  go_wp2_with(first
   |(refine aR rfl 61 _ rfl _ rfl _ _ _ _ h1 bQ rfl (ba _) ?_)
   |(go_at_call 30;refine(vy _ _).mono ?_;rintro e w' ⟨rfl,hb'⟩;have ho':=ai hb' h3)
   |(go_at_call 121;refine(CK _ _ hb2 _).mono ?_;rintro e w'' ⟨rfl,hb''⟩;have ho'':=(hb''.block _ (aF ho')).trans ho')
   |(refine az rfl 61 _ _ rfl _ _ rfl rfl _ _ ho'' (ba _) (by simp[bO]) (dH _) ?_))
  refine aU (v:= .agg (mv fun t=>decide (t+b<1472)&&(f (t+b)&&decide (t+b<1440)))) ?_ rfl ⟨rfl,?_⟩
  ·exact a8 rfl _ _ (w.heap.size+1) _ _ _ _ rfl (aJ _ _ _ _ _ _ ho'') bQ rfl (ba _)
  ·have hb1:=au hb0 hb';exact below_setRow (au hb1 hb'') (by omega) _
 ·obtain⟨b,rfl⟩: ∃b:Nat,x=b:=⟨x.toNat,by omega⟩
  rw[<-Np f b];have hb2:b<1440:=(by omega);go_enter func86,ntmps86
  go_wp2_with(first
   |(refine aR rfl 61 _ rfl _ rfl _ _ _ _ h1 bQ rfl (ba _) ?_)
   |(go_at_call 122;refine(F5 _ _ hb2 _).mono ?_;rintro e w' ⟨rfl,hb'⟩;have ho':=ai hb' h3)
   |(go_at_call 30;refine(vy _ _).mono ?_;rintro e w'' ⟨rfl,hb''⟩;have ho'':=(hb''.block _ (aF ho')).trans ho')
   |(refine az rfl 61 _ _ rfl _ _ rfl rfl _ _ ho'' (ba _) (by simp[bO]) (dH _) ?_))
  refine aU (v:= .agg (mv fun t=>(decide (b<=t)&&f (t-b))&&decide (t<1440))) ?_ rfl ⟨rfl,?_⟩
  ·exact a8 rfl _ _ (w.heap.size+1) _ _ _ _ rfl (aJ _ _ _ _ _ _ ho'') bQ rfl (ba _)
  ·have hb1:=au hb0 hb';exact below_setRow (au hb1 hb'') (by omega) _
end Go.Proofs.YtjkilacmkbmmbaaGreatDoor
