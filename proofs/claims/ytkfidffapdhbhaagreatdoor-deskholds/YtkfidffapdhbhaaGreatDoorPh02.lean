/- Texts of the proof. -/
import Derived.Deep.RegionHeld3
import Derived.Deep.DrawnRows
import Derived.Laws.CopyOwn
import Derived.Lib.TrailingZeros
import Derived.Test.YtkfidffapdhbhaaGreatDoorPhZb
set_option maxRecDepth 100000
set_option maxHeartbeats 8000000
namespace Go.Proofs.YtkfidffapdhbhaaGreatDoor
open Go.Proofs.Tryz Go.RowKit Lx Vx Mx Msk
namespace Msk
def num (p:Nat->Bool):Nat->Nat
 |0=>0
 |n+1=>num p n+if p n then 2^n else 0
theorem ws (p:Nat->Bool): ∀n,num p n<2^n
 |0=>by simp[num]
 |n+1=>by
  have:=ws p n;simp only[num,Nat.pow_succ];split<;>omega
theorem ui (p:Nat->Bool)(j:Nat): ∀n,(num p n).testBit j=(decide (j<n)&&p j)
 |0=>by simp[num]
 |n+1=>by
  have hl:=ws p n;have ih:=ui p j n;simp only[num];by_cases hp:p n=true
  ·rw[aD hp,Nat.add_comm];by_cases h1:j<n
   ·rw[Nat.testBit_two_pow_add_gt h1,ih];have:j<n+1:=(by omega);simp[h1,this]
   ·by_cases h2:j=n
    ·subst h2;rw[Nat.testBit_two_pow_add_eq,ih];simp[hp]
    ·have h3: ¬j<n+1:=(by omega);have h4:2^(n+1)<=2^j:=Nat.pow_le_pow_right (by omega) (by omega);rw[Nat.testBit_lt_two_pow (by rw[Nat.pow_succ]at h4;omega)];simp[h3]
  ·rw[ax hp,Nat.add_zero,ih];by_cases h2:j=n
   ·subst h2;simp at hp;simp[hp]
   ·by_cases h1:j<n
    ·have:j<n+1:=(by omega);simp[h1,this]
    ·have: ¬j<n+1:=(by omega);simp[h1,this]
theorem FT (p:Nat->Bool)(n x:Nat)(hx:x<2^n)(h: ∀j,j<n->x.testBit j=p j):x=num p n:=by
 apply Nat.eq_of_testBit_eq;intro j;rw[ui];by_cases hj:j<n
 ·simp[hj,h j hj]
 ·have:2^n<=2^j:=Nat.pow_le_pow_right (by omega) (by omega);rw[Nat.testBit_lt_two_pow (by omega)];simp[hj]
theorem K4 {p q:Nat->Bool}{n:Nat}(h: ∀j,j<n->p j=q j):num p n=num q n:=
 FT q n _ (ws p n) fun j hj=>by rw[ui];simp[hj,h j hj]
def wd (f:Nat->Bool)(k:Nat):Nat:=num (fun j=>f (64*k+j)) 64
theorem gZ (f:Nat->Bool)(k:Nat):wd f k<18446744073709551616:=ws _ 64
theorem jv (f:Nat->Bool)(k j:Nat):(wd f k).testBit j=(decide (j<64)&&f (64*k+j)):=ui _ j 64
theorem mO (f:Nat->Bool)(k x:Nat)(hx:x<18446744073709551616)(h: ∀j,j<64->x.testBit j=f (64*k+j)):x=wd f k:=
 FT _ 64 x hx h
theorem mP {f g:Nat->Bool}{k:Nat}(h: ∀j,j<64->f (64*k+j)=g (64*k+j)):wd f k=wd g k:=K4 h
theorem MP {f g:Nat->Bool}{k:Nat}(h:wd f k=wd g k)(j:Nat)(hj:j<64):f (64*k+j)=g (64*k+j):=by
 have h1:=jv f k j;rw[h,jv]at h1;simpa[hj] using h1.symm
theorem FU (f g:Nat->Bool)(k:Nat):wd f k&&&wd g k=wd (fun i=>f i&&g i) k:=by
 refine mO _ k _ (show wd f k&&&wd g k<2^64 from Nat.and_lt_two_pow _ (gZ g k)) fun j hj=> ?_;rw[Nat.testBit_and,jv,jv];simp[hj]
theorem AB (f g:Nat->Bool)(k:Nat):wd f k|||wd g k=wd (fun i=>f i||g i) k:=by
 refine mO _ k _ (show wd f k|||wd g k<2^64 from Nat.or_lt_two_pow (gZ f k) (gZ g k)) fun j hj=> ?_;rw[Nat.testBit_or,jv,jv];simp[hj]
theorem FV (f g:Nat->Bool)(k:Nat):wd f k&&&(18446744073709551616-(wd g k+1))=wd (fun i=>f i&& !g i) k:=by
 refine mO _ k _ (Nat.lt_of_le_of_lt Nat.and_le_left (gZ f k)) fun j hj=> ?_;have e:(18446744073709551616:Nat)=2^64:=by decide
 rw[Nat.testBit_and,e,Nat.testBit_two_pow_sub_succ (gZ g k),jv,jv];simp[hj]
theorem Dm (k:Nat):wd (fun _=>false) k=0:=by
 have:(0:Nat)=wd (fun _=>false) k:=mO _ k 0 (by omega) (by simp);exact this.symm
theorem yh (x r j:Nat)(hj:j<64):(x*2^r%18446744073709551616).testBit j=(decide (r<=j)&&x.testBit (j-r)):=by
 have e:(18446744073709551616:Nat)=2^64:=by decide
 rw[e,Nat.testBit_mod_two_pow,Nat.testBit_mul_two_pow];simp[hj]
theorem uj (x r j:Nat):(x/2^r).testBit j=x.testBit (j+r):=by
 rw[Nat.testBit_div_two_pow]
theorem AL (n j:Nat):(2^n-1).testBit j=decide (j<n):=by
 rw[Nat.testBit_two_pow_sub_one]
def cnt (f:Nat->Bool):Nat->Nat
 |0=>0
 |n+1=>cnt f n+if f n then 1 else 0
theorem MR (f:Nat->Bool): ∀n,cnt f n<=n
 |0=>by simp[cnt]
 |n+1=>by have:=MR f n;simp only[cnt];split<;>omega
theorem yi {f g:Nat->Bool}: ∀{n:Nat},(∀j,j<n->f j=g j)->cnt f n=cnt g n
 |0,_=>rfl
 |n+1,h=>by
  have:=yi (n:=n) fun j hj=>h j (by omega);simp only[cnt,this,h n (by omega)]
theorem yj (f:Nat->Bool)(a:Nat): ∀n,cnt f (a+n)=cnt f a+cnt (fun j=>f (a+j)) n
 |0=>by simp[cnt]
 |n+1=>by
  have:=yj f a n;rw[<-Nat.add_assoc];simp only[cnt,this];omega
theorem FW {f:Nat->Bool}{n:Nat}(h: ∀j,j<n->f j=false):cnt f n=0:=by
 have e:cnt f n=cnt (fun _=>false) n:=yi h
 have z: ∀n,cnt (fun _=>false) n=0:=by
  intro n;induction n with
  |zero=>rfl
  |succ n ih=>simp[cnt,ih]
 rw[e,z]
theorem IV {f:Nat->Bool}{n:Nat}(h: ∀j,j<n->f j=true):cnt f n=n:=by
 have e:cnt f n=cnt (fun _=>true) n:=yi h
 have z: ∀n,cnt (fun _=>true) n=n:=by
  intro n;induction n with
  |zero=>rfl
  |succ n ih=>simp[cnt,ih]
 rw[e,z]
end Msk
def mv (f:Nat->Bool):Array Value:=Array.ofFn (n:=23) fun k=>Value.int .u64 (wd f k.val:Int)
theorem bO (f:Nat->Bool):(mv f).size=23:=by simp[mv]
theorem pX (f:Nat->Bool)(k:Nat)(hk:k<23):(mv f)[k]? =some (.int .u64 (wd f k:Int)):=by
 simp[mv,hk]
theorem dR (f:Nat->Bool):(mv f).all (·.oneCell')=true:=by
 rw[Array.all_eq_true];intro i hi;simp[mv,Value.oneCell']
theorem jf {f g:Nat->Bool}(h: ∀i,i<1472->f i=g i):mv f=mv g:=by
 unfold mv;congr 1;funext k;have hk:=k.isLt;rw[mP (f:=f) (g:=g) fun j hj=>h _ (by omega)]
theorem AM (f g:Nat->Bool)(k:Nat)(hk:k<23):(mv f).setIfInBounds k (.int .u64 (wd g k:Int))=mv (fun i=>if i/64=k then g i else f i):=by
 apply Array.ext_getElem?;intro i;rw[Array.getElem?_setIfInBounds];by_cases hi:k=i
 ·subst hi;rw[aD rfl,aD (by rw[bO];exact hk),pX _ k hk];rw[mP (f:=g) (g:=fun i=>if i/64=k then g i else f i) fun j hj=>by rw[aD (by omega)]]
 ·rw[ax hi];by_cases hlt:i<23
  ·rw[pX _ i hlt,pX _ i hlt];rw[mP (f:=f) (g:=fun i=>if i/64=k then g i else f i) fun j hj=>by rw[ax (by omega)]]
  ·rw[Array.getElem?_eq_none (by rw[bO];omega),Array.getElem?_eq_none (by rw[bO];omega)]
theorem K5:mv (fun _=>false)=Array.replicate 23 (.int .u64 0):=by
 apply Array.ext_getElem?;intro i;by_cases hlt:i<23
 ·rw[pX _ i hlt,Dm];simp[hlt]
 ·rw[Array.getElem?_eq_none (by rw[bO];omega)];simp[hlt]
theorem eG:(#[.int .u64 0, .int .u64 0, .int .u64 0, .int .u64 0, .int .u64 0, .int .u64 0, .int .u64 0, .int .u64 0, .int .u64 0, .int .u64 0, .int .u64 0, .int .u64 0, .int .u64 0, .int .u64 0, .int .u64 0, .int .u64 0, .int .u64 0, .int .u64 0, .int .u64 0, .int .u64 0, .int .u64 0, .int .u64 0, .int .u64 0]:Array Value)=mv (fun _=>false):=by rw[K5];rfl
theorem Ec (a b:Nat)(ha:a<18446744073709551616)(hb:b<18446744073709551616):
  bits .andNot .u64 (a:Int) (b:Int)=((a&&&(18446744073709551616-(b+1)):Nat):Int):=by
 have h1:(BitVec.ofInt 64 (a:Int)).toNat=a:=by
  rw[BitVec.ofInt_natCast,BitVec.toNat_ofNat];exact Nat.mod_eq_of_lt (by omega)
 have h2:(BitVec.ofInt 64 (b:Int)).toNat=b:=by
  rw[BitVec.ofInt_natCast,BitVec.toNat_ofNat];exact Nat.mod_eq_of_lt (by omega)
 have hx:a&&&(18446744073709551616-(b+1))<=a:=Nat.and_le_left;show IntKind.u64.wrap ((BitVec.ofInt 64 (a:Int)&&& ~~~BitVec.ofInt 64 (b:Int)).toNat:Int)=_;have e:(2:Nat)^64-1-b=18446744073709551616-(b+1):=by omega
 rw[BitVec.toNat_and,BitVec.toNat_not,h1,h2,gQ,e];omega
theorem FX:(4294967295:Nat)=wd (fun i=>decide (i<1440)) 22:=by
 refine mO _ 22 _ (by omega) fun j hj=> ?_;have e:(4294967295:Nat)=2^32-1:=by decide
 rw[e,AL];have:(j<32)=(64*22+j<1440):=by apply propext;omega
 simp only[this]
theorem K6 (f:Nat->Bool):(mv f).setIfInBounds 22 (.int .u64 (bits .and .u64 (wd f 22:Int) 4294967295))=mv fun i=>f i&&decide (i<1440):=by
 have e:bits .and .u64 (wd f 22:Int) 4294967295=((wd (fun i=>f i&&decide (i<1440)) 22:Nat):Int):=by
  have:=bits_and_u64_nat (wd f 22) 4294967295 (gZ f 22) (by omega);rw[<-FU f (fun i=>decide (i<1440)) 22,<-FX];exact this
 rw[e,AM _ _ 22 (by omega)];refine jf fun i hi=> ?_;by_cases h:i/64=22
 ·rw[aD h]
 ·rw[ax h];have:i<1440:=(by omega);simp[this]
theorem kV {w:World}{g:Nat}{f:Nat->Bool}{t:TypeId}(hg:w.heap[g]? =ah (mv f) t)(k:Nat)(hk:k<23):w.cell? (ae g k)=some (.int .u64 (wd f k:Int)):=by
 rw[aZ w g k _ t (0,0) hg,pX f k hk]
theorem s6 (w:World)(a:Addr)(v:Value)(p:Addr)(h:p.block≠a.block):(w.setCell a v).drew.cell? p=w.cell? p:=
 dY (w:=w) (Below.heap_setCell w a v p.block h)
theorem AN (h:Nat->Bool):mv (fun _=>false)=mv (fun i=>decide (i<64*0)&&h i):=jf fun i _=>by simp
theorem uk (k:Nat)(hk:k<23)(h:Nat->Bool):(mv fun i=>decide (i<64*k)&&h i).setIfInBounds k (.int .u64 (wd h k:Int))=mv fun i=>decide (i<64*(k+1))&&h i:=by
 rw[AM _ _ k hk];refine jf fun i hi=> ?_;by_cases h:i/64=k
 ·have:i<64*(k+1):=by omega
  simp[h,this]
 ·have:(i<64*k)=(i<64*(k+1)):=by apply propext;omega
  simp only[h,if_false,this]
theorem Dn (h:Nat->Bool):(mv fun i=>decide (i<64*23)&&h i)=mv h:=jf fun i hi=>by
 have:i<64*23:=by omega
 simp[this]
theorem iQ {w:World}{g:Nat}{c c':Array Value}{t:TypeId}(hg:w.heap[g]? =ah c t)(e:c=c'):w.heap[g]? =ah c' t:=by rw[hg,e]
theorem aU (w:World)(o:Obj):(w.alloc o).heap.size=w.heap.size+1:=by show(w.heap.push o).size=_;simp
theorem dz (w:World)(o:Obj)(k:Nat)(h:k=w.heap.size):(w.alloc o).heap[k]? =some o:=by subst h;exact aE w o
theorem dj (w:World)(o:Obj)(k:Nat)(h:k<w.heap.size){x:Obj}(hx:w.heap[k]? =some x):(w.alloc o).heap[k]? =some x:=(dJ w o k h).trans hx
theorem bh (f:Nat->Bool):(prog.info? 86).map (·.size)=some (mv f).size:=by rw[bO];kernel_rfl
theorem bV:prog.underlying 86=some (.array 23 84):=by kernel_rfl
section
theorem vz (f:Nat->Bool)(w:World):
  Calls prog 107 #[.agg (mv f)] w fun e w'=>e= .returned (.agg (mv fun i=>f i&&decide (i<1440)))/\aq w w':=by
 have g22:=pX f 22 (by omega);have e22:=K6 f;have hz:=eG;go_enter func107,ntmps107
 go_wp2_with(first
  |(refine aQ rfl 86 _ rfl _ rfl _ _ _ _ (heap_alloc2_old _ _ _) bV rfl (bh _) ?_)
  |(refine ay rfl 86 _ _ rfl _ _ rfl rfl _ _ (heap_alloc2_new _ _ _) (bh _) (by simp[bO]) (dR _) ?_))
 refine aW (v:= .agg (mv fun i=>f i&&decide (i<1440))) ?_ rfl ⟨rfl,?_⟩
 ·exact bc rfl _ _ (w.heap.size+1) _ _ _ _ rfl (aL _ _ _ _ _ _ (heap_alloc2_new _ _ _)) bV rfl (bh _)
 ·exact below_setRow ((am _ _).alloc (by simp) _) (by omega) _
attribute [local go_sem↓] Go.wp_at_zero Go.wp_at_succ
theorem re (K:Nat)(o:Bool->Bool->Bool)(hK: ∀(f g:Nat->Bool) (k:Nat) (w:World),Calls prog K #[.int .u64 (wd f k:Int),.int .u64 (wd g k:Int)] w fun e w'=>e= .returned (.int .u64 (wd (fun i=>o (f i) (g i)) k:Int))/\w'=w)
  (eK: ∀args w,(callFunc K args).run prog w= .ok (.enter K args) w) (a b:Nat->Bool) (w:World):
  Calls prog 81 #[.agg (mv a),.agg (mv b),.func (.func K) #[] #[]] w fun e w'=>e= .returned (.agg (mv fun i=>o (a i) (b i)&&decide (i<1440)))/\aq w w':=by
 have hz:=eG;go_enter func81,ntmps81;go_wp2
 go_loopw [9] (fun i wr=> ∃k:Nat,k<=23/\i=ag k/\wr.heap[w.heap.size]? =ah (mv a) 86/\wr.heap[w.heap.size+1]? =ah (mv b) 86/\wr.heap[w.heap.size+1+1]? =ah (mv fun _=>false) 86/\
  wr.heap[w.heap.size+1+1+1]? =ah (mv fun i=>decide (i<64*k)&&o (a i) (b i)) 86/\aq w wr) (fun i _=>23-(intOf i).toNat)
 case atStart=>
  refine⟨0,by omega,rfl,?_,?_,?_,?_,?_⟩
  ·(repeat (first|refine dj _ _ _ (by simp only[aU];omega) ?_|exact dz _ _ _ (by first|rfl|simp only[aU])))
  ·(repeat (first|refine dj _ _ _ (by simp only[aU];omega) ?_|exact dz _ _ _ (by first|rfl|simp only[aU])))
  ·(repeat (first|refine dj _ _ _ (by simp only[aU];omega) ?_|exact dz _ _ _ (by first|rfl|simp only[aU])))
  ·refine iQ ?_ (AN _);(repeat (first|refine dj _ _ _ (by simp only[aU];omega) ?_|exact dz _ _ _ (by first|rfl|simp only[aU])))
  ·exact(((am _ _).alloc (by simp) _).alloc (by simp;omega) _).alloc (by simp;omega) _
 case round=>
  obtain⟨k,hk,rfl,ha,hb,ho,hm,hbel⟩:=hrel;by_cases hlt:k<23
  ·have ca:=kV ha k hlt;have cb:=kV hb k hlt;have cm:=kV hm k hlt;have fm:=bl _ _ k _ _ hm;have hi0:(0:Int)<=(k:Int):=(by omega);have hi1:(k:Int)<23:=(by omega);have n1:w.heap.size+1+1+1≠w.heap.size:=(by omega);have n2:w.heap.size+1+1≠w.heap.size:=(by omega);go_wp2
   go_region_held3 (fun w'=>w'.cell? (ae w.heap.size k)=some (.int .u64 (wd a k:Int))/\w'.cell? (ae (w.heap.size+1) k)=some (.int .u64 (wd b k:Int)))
    (go_keep)
    ((refine(hK a b k _).mono ?_;rintro e w' ⟨rfl,rfl⟩))
   go_wp2;go_roundw
   case rel=>
    refine⟨k+1,by omega,by go_num,?_,?_,?_,?_,?_⟩
    ·exact(aO _ _ _ _ (by dsimp only;omega)).trans ha
    ·exact(aO _ _ _ _ (by dsimp only;omega)).trans hb
    ·exact(aO _ _ _ _ (by dsimp only;omega)).trans ho
    ·exact iQ (aY _ _ _ _ _ _ hm) (uk k hlt fun i=>o (a i) (b i))
    ·exact(hbel.setCell (by dsimp only;omega) _).drew
   case measure=>simp[intOf];omega
  ·have hk23:k=23:=(by omega);subst hk23;have hm':=iQ hm (Dn fun i=>o (a i) (b i));clear hm
   go_wp2_with(first
    |(refine aQ rfl 86 _ rfl _ rfl _ _ _ _ hm' bV rfl (bh _) ?_)
    |(go_at_call 107;refine(vz _ _).mono ?_;rintro e w' ⟨rfl,hb'⟩;have ho':=(hb'.block (w.heap.size+1+1) (aH ho)).trans ho)
    |(refine ay rfl 86 _ _ rfl _ _ rfl rfl _ _ (by assumption) (bh _) (by simp[bO]) (dR _) ?_))
   refine aW (v:= .agg (mv fun i=>o (a i) (b i)&&decide (i<1440))) ?_ rfl ⟨rfl,?_⟩
   ·exact bc rfl _ _ (w.heap.size+1+1) _ _ _ _ rfl (aL _ _ _ _ _ _ ho') bV rfl (bh _)
   ·exact below_setRow (aw hbel hb') (by omega) _
theorem MS (f g:Nat->Bool)(k:Nat)(w:World):Calls prog 210 #[.int .u64 (wd f k:Int),.int .u64 (wd g k:Int)] w fun e w'=>e= .returned (.int .u64 (wd (fun i=>f i||g i) k:Int))/\w'=w:=by
 have e1:=bits_or_u64_nat _ _ (gZ f k) (gZ g k);rw[AB]at e1;go_enter func210,ntmps210;go_wp2;go_ret;exact⟨rfl,rfl⟩
theorem K7 (f g:Nat->Bool)(k:Nat)(w:World):Calls prog 211 #[.int .u64 (wd f k:Int),.int .u64 (wd g k:Int)] w fun e w'=>e= .returned (.int .u64 (wd (fun i=>f i&&g i) k:Int))/\w'=w:=by
 have e1:=bits_and_u64_nat _ _ (gZ f k) (gZ g k);rw[FU]at e1;go_enter func211,ntmps211;go_wp2;go_ret;exact⟨rfl,rfl⟩
theorem K8 (f g:Nat->Bool)(k:Nat)(w:World):Calls prog 82 #[.int .u64 (wd f k:Int),.int .u64 (wd g k:Int)] w fun e w'=>e= .returned (.int .u64 (wd (fun i=>f i&& !g i) k:Int))/\w'=w:=by
 have e1:=Ec _ _ (gZ f k) (gZ g k);rw[FV]at e1;go_enter func82,ntmps82;go_wp2;go_ret;exact⟨rfl,rfl⟩
theorem yS (a b:Nat->Bool)(w:World):
  Calls prog 188 #[.agg (mv a),.agg (mv b)] w fun e w'=>e= .returned (.agg (mv fun i=>(a i||b i)&&decide (i<1440)))/\aq w w':=by
 have hz:=eG;have h1:(((w.alloc (.cells (mv a) 86)).alloc (.cells (mv b) 86)).alloc (.cells (mv fun _=>false) 86)).heap[w.heap.size]? =ah (mv a) 86:=by(repeat (first|refine dj _ _ _ (by simp only[aU];omega) ?_|exact dz _ _ _ (by first|rfl|simp only[aU])))
 have h2:(((w.alloc (.cells (mv a) 86)).alloc (.cells (mv b) 86)).alloc (.cells (mv fun _=>false) 86)).heap[w.heap.size+1]? =ah (mv b) 86:=by(repeat (first|refine dj _ _ _ (by simp only[aU];omega) ?_|exact dz _ _ _ (by first|rfl|simp only[aU])))
 have h3:(((w.alloc (.cells (mv a) 86)).alloc (.cells (mv b) 86)).alloc (.cells (mv fun _=>false) 86)).heap[w.heap.size+1+1]? =ah (mv fun _=>false) 86:=by(repeat (first|refine dj _ _ _ (by simp only[aU];omega) ?_|exact dz _ _ _ (by first|rfl|simp only[aU])))
 have hb0:aq w (((w.alloc (.cells (mv a) 86)).alloc (.cells (mv b) 86)).alloc (.cells (mv fun _=>false) 86)):=((am _ _).alloc (by simp) _).alloc (by simp only[aU];omega) _;go_enter func188,ntmps188
 go_wp2_with(first
  |(refine aQ rfl 86 _ rfl _ rfl _ _ _ _ h1 bV rfl (bh _) ?_)
  |(refine aQ rfl 86 _ rfl _ rfl _ _ _ _ h2 bV rfl (bh _) ?_)
  |(go_at_call 81;refine(re 210 (fun x y=>x||y) MS (fun _ _=>by simp[go_sem]) a b _).mono ?_;rintro e w' ⟨rfl,hb'⟩;have ho':=ai hb' h3)
  |(refine ay rfl 86 _ _ rfl _ _ rfl rfl _ _ (by assumption) (bh _) (by simp[bO]) (dR _) ?_))
 refine aW (v:= .agg (mv fun i=>(a i||b i)&&decide (i<1440))) ?_ rfl ⟨rfl,?_⟩
 ·exact bc rfl _ _ (w.heap.size+1+1) _ _ _ _ rfl (aL _ _ _ _ _ _ ho') bV rfl (bh _)
 ·exact below_setRow (aw hb0 hb') (by omega) _
theorem pY (a b:Nat->Bool)(w:World):
  Calls prog 56 #[.agg (mv a),.agg (mv b)] w fun e w'=>e= .returned (.agg (mv fun i=>(a i&& !b i)&&decide (i<1440)))/\aq w w':=by
 have hz:=eG;have h1:(((w.alloc (.cells (mv a) 86)).alloc (.cells (mv b) 86)).alloc (.cells (mv fun _=>false) 86)).heap[w.heap.size]? =ah (mv a) 86:=by(repeat (first|refine dj _ _ _ (by simp only[aU];omega) ?_|exact dz _ _ _ (by first|rfl|simp only[aU])))
 have h2:(((w.alloc (.cells (mv a) 86)).alloc (.cells (mv b) 86)).alloc (.cells (mv fun _=>false) 86)).heap[w.heap.size+1]? =ah (mv b) 86:=by(repeat (first|refine dj _ _ _ (by simp only[aU];omega) ?_|exact dz _ _ _ (by first|rfl|simp only[aU])))
 have h3:(((w.alloc (.cells (mv a) 86)).alloc (.cells (mv b) 86)).alloc (.cells (mv fun _=>false) 86)).heap[w.heap.size+1+1]? =ah (mv fun _=>false) 86:=by(repeat (first|refine dj _ _ _ (by simp only[aU];omega) ?_|exact dz _ _ _ (by first|rfl|simp only[aU])))
 have hb0:aq w (((w.alloc (.cells (mv a) 86)).alloc (.cells (mv b) 86)).alloc (.cells (mv fun _=>false) 86)):=((am _ _).alloc (by simp) _).alloc (by simp only[aU];omega) _;go_enter func56,ntmps56
 go_wp2_with(first
  |(refine aQ rfl 86 _ rfl _ rfl _ _ _ _ h1 bV rfl (bh _) ?_)
  |(refine aQ rfl 86 _ rfl _ rfl _ _ _ _ h2 bV rfl (bh _) ?_)
  |(go_at_call 81;refine(re 82 (fun x y=>x&& !y) K8 (fun _ _=>by simp[go_sem]) a b _).mono ?_;rintro e w' ⟨rfl,hb'⟩;have ho':=ai hb' h3)
  |(refine ay rfl 86 _ _ rfl _ _ rfl rfl _ _ (by assumption) (bh _) (by simp[bO]) (dR _) ?_))
 refine aW (v:= .agg (mv fun i=>(a i&& !b i)&&decide (i<1440))) ?_ rfl ⟨rfl,?_⟩
 ·exact bc rfl _ _ (w.heap.size+1+1) _ _ _ _ rfl (aL _ _ _ _ _ _ ho') bV rfl (bh _)
 ·exact below_setRow (aw hb0 hb') (by omega) _
theorem AO (a b:Nat->Bool)(w:World):
  Calls prog 189 #[.agg (mv a),.agg (mv b)] w fun e w'=>e= .returned (.agg (mv fun i=>(a i&&b i)&&decide (i<1440)))/\aq w w':=by
 have hz:=eG;have h1:(((w.alloc (.cells (mv a) 86)).alloc (.cells (mv b) 86)).alloc (.cells (mv fun _=>false) 86)).heap[w.heap.size]? =ah (mv a) 86:=by(repeat (first|refine dj _ _ _ (by simp only[aU];omega) ?_|exact dz _ _ _ (by first|rfl|simp only[aU])))
 have h2:(((w.alloc (.cells (mv a) 86)).alloc (.cells (mv b) 86)).alloc (.cells (mv fun _=>false) 86)).heap[w.heap.size+1]? =ah (mv b) 86:=by(repeat (first|refine dj _ _ _ (by simp only[aU];omega) ?_|exact dz _ _ _ (by first|rfl|simp only[aU])))
 have h3:(((w.alloc (.cells (mv a) 86)).alloc (.cells (mv b) 86)).alloc (.cells (mv fun _=>false) 86)).heap[w.heap.size+1+1]? =ah (mv fun _=>false) 86:=by(repeat (first|refine dj _ _ _ (by simp only[aU];omega) ?_|exact dz _ _ _ (by first|rfl|simp only[aU])))
 have hb0:aq w (((w.alloc (.cells (mv a) 86)).alloc (.cells (mv b) 86)).alloc (.cells (mv fun _=>false) 86)):=((am _ _).alloc (by simp) _).alloc (by simp only[aU];omega) _;go_enter func189,ntmps189
 go_wp2_with(first
  |(refine aQ rfl 86 _ rfl _ rfl _ _ _ _ h1 bV rfl (bh _) ?_)
  |(refine aQ rfl 86 _ rfl _ rfl _ _ _ _ h2 bV rfl (bh _) ?_)
  |(go_at_call 81;refine(re 211 (fun x y=>x&&y) K7 (fun _ _=>by simp[go_sem]) a b _).mono ?_;rintro e w' ⟨rfl,hb'⟩;have ho':=ai hb' h3)
  |(refine ay rfl 86 _ _ rfl _ _ rfl rfl _ _ (by assumption) (bh _) (by simp[bO]) (dR _) ?_))
 refine aW (v:= .agg (mv fun i=>(a i&&b i)&&decide (i<1440))) ?_ rfl ⟨rfl,?_⟩
 ·exact bc rfl _ _ (w.heap.size+1+1) _ _ _ _ rfl (aL _ _ _ _ _ _ ho') bV rfl (bh _)
 ·exact below_setRow (aw hb0 hb') (by omega) _
end
theorem rF {v v':Value}(h:v=v'):Ending.returned v= .returned v':=by rw[h]
theorem s7 {k:IntKind}{a b:Int}(h:a=b):Value.int k a= .int k b:=by rw[h]
theorem IW (n:Nat)(hn:n<=64):IntKind.u64.wrap (IntKind.u64.wrap (2^n)-1)=((2^n-1:Nat):Int):=by
 rw[gQ,gQ];have hp:(1:Nat)<=2^n:=Nat.two_pow_pos n;have hc:((2:Int)^n)=((2^n:Nat):Int):=by simp
 rw[hc];by_cases h:n=64
 ·subst h;decide
 ·have hl:2^n<=2^63:=Nat.pow_le_pow_right (by omega) (by omega);generalize 2^n=p at*;omega
theorem IX (n:Nat)(hn:n<=64)(w:World):Calls prog 109 #[ag n] w fun e w'=>e= .returned (.int .u64 ((2^n-1:Nat):Int))/\w'=w:=by
 go_enter func109,ntmps109;go_wp2;go_ret;exact⟨rF (s7 (IW n hn)),rfl⟩
theorem yl (d:Int)(h0:0<=d)(h1:d<=64)(w:World):Calls prog 109 #[ag d] w fun e w'=>e= .returned (.int .u64 ((2^d.toNat-1:Nat):Int))/\w'=w:=by
 have:=IX d.toNat (by omega) w;rw[Int.toNat_of_nonneg h0]at this;exact this
theorem uZ (n:Nat)(hn:n<=1440)(w:World):Calls prog 108 #[ag n] w fun e w'=>e= .returned (ag ((64*(n/64)+64:Nat):Int))/\w'=w:=by
 go_enter func108,ntmps108;go_wp2;go_ret;exact⟨rF (s7 (by omega)),rfl⟩
def Tab (w:World):Prop:= ∀j,j<64->w.cell? (ae 1 j)=some (.int .u8 ((Lib.deBruijn64tab.getD j 0:Nat):Int))
theorem Tab.later {w w':World}(h:Tab w)(hb:aq w w'):Tab w':=fun j hj=>(hb.cell (bP (h j hj))).trans (h j hj)
theorem MT (x a:Nat)(hx:x<18446744073709551616)(hx0:x≠0)(hlow:x&&&(18446744073709551616-x)=a):
  IntKind.u64.wrap (bits BinOp.and IntKind.u64 (x:Int) (IntKind.u64.wrap (-(x:Int)))*285870213051353865)/288230376151711744=((a*285870213051353865%18446744073709551616/288230376151711744:Nat):Int):=by
 have e1:IntKind.u64.wrap (-(x:Int))=((18446744073709551616-x:Nat):Int):=by rw[gQ];omega
 rw[e1,bits_and_u64_nat x _ hx (by omega),hlow,gQ];omega
theorem K9 (x k idx:Nat)(w:World)(hx0:((x:Int)==0)=false)
  (key:IntKind.u64.wrap (bits BinOp.and IntKind.u64 (x:Int) (IntKind.u64.wrap (-(x:Int)))*285870213051353865)/288230376151711744=(idx:Int))
  (hi:idx<64) (hk:k<64) (hcell:w.cell? (ae 1 idx)=some (.int .u8 k)):
  Calls prog 181 #[.int .u64 x] w fun e w'=>e= .returned (ag k)/\w'=w:=by
 go_enter func181,ntmps181;go_wp2_with(simp only[key])
 go_ret;exact⟨rfl,rfl⟩
theorem MU (x:Nat)(hx:x<18446744073709551616)(hx0:x≠0)(w:World)(hT:Tab w):
  ∃k:Nat,k<64/\x.testBit k=true/\(∀j,j<k->x.testBit j=false)/\Calls prog 181 #[.int .u64 x] w fun e w'=>e= .returned (ag k)/\w'=w:=by
 obtain⟨hlow,hk⟩:=Lib.lowest_bit 64 x hx0 hx;obtain⟨hi,htab⟩:=Lib.deBruijn64_at _ hk;have hcell:=hT _ hi;rw[htab]at hcell
 have hb: ∀j,j<=Lib.ctz 64 x->x.testBit j=decide (j=Lib.ctz 64 x):=by
  obtain⟨m,hm,hlt⟩:=Lib.ctzFrom_spec 64 x (by omega) hx;have e:Lib.ctz 64 x=Lib.ctzFrom 64 x:=(by simp[Lib.ctz,hx0]);rw[e];clear hcell htab hi hlow hk e;generalize Lib.ctzFrom 64 x=k at*;intro j hj;rw[hm,Nat.mul_comm,Nat.testBit_mul_two_pow];by_cases hjk:j=k
  ·subst hjk;simp
  ·have: ¬k<=j:=(by omega);simp[this,hjk]
 exact⟨_,hk,by rw[hb _ (aB _)];simp,fun j hj=>by rw[hb _ (by omega)];simp;omega,K9 x _ _ w (by simp;omega) (MT x _ hx hx0 hlow) hi hk hcell⟩
theorem MV (f:Nat->Bool)(by' i q r:Nat)(hq:q=by'/64)(hr:r=by'%64)(hi:q<=i):
  IntKind.u64.wrap ((wd f (i-q):Int)*2^r)=((wd (fun t=>decide (by'<=t)&&decide (64*(i-q)<=t-by')&&f (t-by')) i:Nat):Int):=by
 have e1:wd (fun t=>decide (by'<=t)&&decide (64*(i-q)<=t-by')&&f (t-by')) i=wd f (i-q)*2^r%18446744073709551616:=by
  symm;refine mO _ _ _ (Nat.mod_lt _ (by omega)) fun j hj=> ?_;rw[yh _ _ j hj,jv];by_cases h:r<=j
  ·have a1:by'<=64*i+j:=(by omega);have a2:64*(i-q)<=64*i+j-by':=(by omega);have a3:64*(i-q)+(j-r)=64*i+j-by':=(by omega);have a4:j-r<64:=(by omega);simp[h,a1,a2,a3,a4]
  ·by_cases a1:by'<=64*i+j
   ·have a2: ¬64*(i-q)<=64*i+j-by':=(by omega);simp[h,a2]
   ·simp[h,a1]
 rw[gQ,e1];have:((2:Int)^r)=((2^r:Nat):Int):=by simp
 rw[this];omega
theorem MW (f:Nat->Bool)(by' i q r:Nat)(hq:q=by'/64)(hr:r=by'%64)(hi:q<i):
  ((wd (fun t=>decide (by'<=t)&&decide (64*(i-q)<=t-by')&&f (t-by')) i|||wd f (i-q-1)/2^(64-r):Nat))=wd (fun t=>decide (by'<=t)&&f (t-by')) i:=by
 have l1:=gZ f (i-q-1);have l2:wd f (i-q-1)/2^(64-r)<=wd f (i-q-1):=Nat.div_le_self _ _;refine mO _ _ _ (show _<2^64 from Nat.or_lt_two_pow (gZ _ _) (by omega)) fun j hj=> ?_;rw[Nat.testBit_or,jv,uj,jv];have a1:by'<=64*i+j:=by omega
 by_cases h:r<=j
 ·have a2:64*(i-q)<=64*i+j-by':=by omega
  have a4: ¬j+(64-r)<64:=(by omega);simp[hj,a1,a2,a4]
 ·have a2: ¬64*(i-q)<=64*i+j-by':=by omega
  have a3:64*(i-q-1)+(j+(64-r))=64*i+j-by':=(by omega);have a4:j+(64-r)<64:=(by omega);simp[hj,a1,a2,a3,a4]
theorem IY (f:Nat->Bool)(by' i q r:Nat)(hq:q=by'/64)(hr:r=by'%64)(hi:q<=i):
  wd f i/2^r=wd (fun t=>decide (t+by'<64*(i+1))&&f (t+by')) (i-q):=by
 have l2:wd f i/2^r<=wd f i:=Nat.div_le_self _ _;have l1:=gZ f i;refine mO _ _ _ (by omega) fun j hj=> ?_;rw[uj,jv];by_cases h:j+r<64
 ·have a1:64*(i-q)+j+by'<64*(i+1):=by omega
  have a2:64*i+(j+r)=64*(i-q)+j+by':=(by omega);simp[h,a1,a2]
 ·have a1: ¬64*(i-q)+j+by'<64*(i+1):=by omega
  simp[h,a1]
theorem IZ (f:Nat->Bool)(by' i q r:Nat)(hq:q=by'/64)(hr:r=by'%64)(hi:q<=i):
  bits .or .u64 (wd (fun t=>decide (t+by'<64*(i+1))&&f (t+by')) (i-q):Int) (IntKind.u64.wrap ((wd f (i+1):Int)*2^(64-r)))=((wd (fun t=>f (t+by')) (i-q):Nat):Int):=by
 have e1:IntKind.u64.wrap ((wd f (i+1):Int)*2^(64-r))=((wd (fun t=> !decide (t+by'<64*(i+1))&&f (t+by')) (i-q):Nat):Int):=by
  have e2:wd (fun t=> !decide (t+by'<64*(i+1))&&f (t+by')) (i-q)=wd f (i+1)*2^(64-r)%18446744073709551616:=by
   symm;refine mO _ _ _ (Nat.mod_lt _ (by omega)) fun j hj=> ?_;rw[yh _ _ j hj,jv];by_cases h:64-r<=j
   ·have a1: ¬64*(i-q)+j+by'<64*(i+1):=(by omega);have a2:64*(i+1)+(j-(64-r))=64*(i-q)+j+by':=(by omega);have a3:j-(64-r)<64:=(by omega);simp[h,a1,a2,a3]
   ·have a1:64*(i-q)+j+by'<64*(i+1):=(by omega);simp[h,a1]
  rw[gQ,e2];have:((2:Int)^(64-r))=((2^(64-r):Nat):Int):=(by simp);rw[this];omega
 rw[e1,bits_or_u64_nat _ _ (gZ _ _) (gZ _ _),AB]
 have e3:wd (fun t=>(decide (t+by'<64*(i+1))&&f (t+by'))||(!decide (t+by'<64*(i+1))&&f (t+by'))) (i-q)=wd (fun t=>f (t+by')) (i-q):=mP fun j _=>by
  cases decide (64*(i-q)+j+by'<64*(i+1))<;>simp
 rw[e3]
theorem Do (f:Nat->Bool)(b i q r d:Nat)(hq:q=b/64)(hr:r=b%64)(hd:i=q+d):
  IntKind.u64.wrap ((wd f d:Int)*2^r)=((wd (fun t=>decide (b<=t)&&decide (64*d<=t-b)&&f (t-b)) i:Nat):Int):=by
 have:=MV f b i q r hq hr (by omega);have e:i-q=d:=by omega
 rw[e]at this;exact this
theorem La (f:Nat->Bool)(b q r:Nat)(hq:q=b/64)(hr:r=b%64):
  IntKind.u64.wrap ((wd f 0:Int)*2^r)=((wd (fun t=>decide (b<=t)&&f (t-b)) q:Nat):Int):=by
 rw[Do f b q q r 0 hq hr rfl];have e3:wd (fun t=>decide (b<=t)&&decide (64*0<=t-b)&&f (t-b)) q=wd (fun t=>decide (b<=t)&&f (t-b)) q:=mP fun j _=>by simp
 rw[e3]
theorem Lb (f:Nat->Bool)(b i q r d:Nat)(hq:q=b/64)(hr:r=b%64)(hd:i=q+(d+1)):
  bits .or .u64 (wd (fun t=>decide (b<=t)&&decide (64*(d+1)<=t-b)&&f (t-b)) i:Int) ((wd f d:Int)/2^(64-r))=((wd (fun t=>decide (b<=t)&&f (t-b)) i:Nat):Int):=by
 have:=MW f b i q r hq hr (by omega);have e:i-q=d+1:=by omega
 rw[e]at this;have e2:((wd f d:Int)/2^(64-r))=((wd f d/2^(64-r):Nat):Int):=by simp
 have l2:wd f d/2^(64-r)<=wd f d:=Nat.div_le_self _ _;have l1:=gZ f d;rw[e2,bits_or_u64_nat _ _ (gZ _ _) (by omega)];exact congrArg _ this
theorem yU (f:Nat->Bool)(b i q r d:Nat)(hq:q=b/64)(hr:r=b%64)(hd:i=q+d):
  (wd f i:Int)/2^r=((wd (fun t=>decide (t+b<64*(i+1))&&f (t+b)) d:Nat):Int):=by
 have:=IY f b i q r hq hr (by omega);have e:i-q=d:=by omega
 rw[e]at this;rw[<-this];simp
theorem FY (f:Nat->Bool)(b i q r d:Nat)(hq:q=b/64)(hr:r=b%64)(hd:i=q+d)(hi:i<22):
  bits .or .u64 (wd (fun t=>decide (t+b<64*(i+1))&&f (t+b)) d:Int) (IntKind.u64.wrap ((wd f (i+1):Int)*2^(64-r)))=((wd (fun t=>decide (t+b<1472)&&f (t+b)) d:Nat):Int):=by
 have:=IZ f b i q r hq hr (by omega);have e:i-q=d:=by omega
 rw[e]at this;rw[this]
 have e3:wd (fun t=>f (t+b)) d=wd (fun t=>decide (t+b<1472)&&f (t+b)) d:=mP fun j _=>by
  have:64*d+j+b<1472:=(by omega);simp[this]
 rw[e3]
theorem AP (k:Nat)(hk:k<23)(h:Nat->Bool)(v:Value):((mv fun i=>decide (i<64*k)&&h i).setIfInBounds k v).setIfInBounds k (.int .u64 (wd h k:Int))=mv fun i=>decide (i<64*(k+1))&&h i:=by
 rw[Array.setIfInBounds_setIfInBounds];exact uk k hk h
theorem I0 (f:Nat->Bool)(b q:Nat)(hq:q=b/64):mv (fun _=>false)=mv (fun t=>decide (t<64*q)&&(decide (b<=t)&&f (t-b))):=jf fun t _=>by
 by_cases h:t<64*q
 ·have: ¬b<=t:=by omega
  simp[this]
 ·simp[h]
theorem FZ (f:Nat->Bool)(b:Nat)(hb:b<1440)(w:World):
  Calls prog 213 #[.agg (mv f),ag b] w fun e w'=>e= .returned (.agg (mv fun t=>decide (b<=t)&&f (t-b)))/\aq w w':=by
 have hz:=eG;obtain⟨q,hq⟩: ∃q:Nat,q=b/64:=⟨_,rfl⟩
 obtain⟨r,hr⟩: ∃r:Nat,r=b%64:=⟨_,rfl⟩
 have HQ:PH (q=b/64):=hq;have HR:PH (r=b%64):=hr;have t1:(b:Int)/64=(q:Int):=by omega
 have t2:(b:Int)%64=(r:Int):=by omega
 have hq23:q<23:=by omega
 have hr64:r<64:=by omega
 clear hq hr;go_enter func213,ntmps213;go_wp2
 go_loopw [8] (fun i wr=> ∃k d:Nat,k<=23/\k=q+d/\i=ag k/\wr.heap[w.heap.size]? =ah (mv f) 86/\wr.heap[w.heap.size+1]? =ah (mv fun _=>false) 86/\
  wr.heap[w.heap.size+1+1]? =ah (mv fun t=>decide (t<64*k)&&(decide (b<=t)&&f (t-b))) 86/\aq w wr) (fun i _=>23-(intOf i).toNat)
 case atStart=>
  refine⟨q,0,by omega,rfl,rfl,?_,?_,?_,?_⟩
  ·(repeat (first|refine dj _ _ _ (by simp only[aU];omega) ?_|exact dz _ _ _ (by first|rfl|simp only[aU])))
  ·(repeat (first|refine dj _ _ _ (by simp only[aU];omega) ?_|exact dz _ _ _ (by first|rfl|simp only[aU])))
  ·refine iQ ?_ (I0 f b q HQ.o);(repeat (first|refine dj _ _ _ (by simp only[aU];omega) ?_|exact dz _ _ _ (by first|rfl|simp only[aU])))
  ·exact((am _ _).alloc (by simp) _).alloc (by simp only[aU];omega) _
 case round=>
  obtain⟨k,d,hk,hkd,rfl,ha,ho,hm,hbel⟩:=hrel;have HD:PH (k=q+d):=hkd;by_cases hlt:k<23
  ·have ca:=kV ha d (by omega);have cm:=kV hm k hlt;have fm:=bl _ _ k _ _ hm;have e1:(k:Int)-(q:Int)=(d:Int):=(by omega);have hi0:(0:Int)<=(d:Int):=(by omega);have hi1:(d:Int)<23:=(by omega);by_cases hd0:d=0
   ·subst hd0;have p1:=La f b q r HQ.o HR.o;have hkq:k=q:=hkd;subst hkq;clear hkd;go_wp2;go_roundw
    case rel=>
     refine⟨k+1,1,by omega,rfl,by go_num,?_,?_,?_,hbel.setCell (by dsimp only;omega) _⟩
     ·exact(aO _ _ _ _ (by dsimp only;omega)).trans ha
     ·exact(aO _ _ _ _ (by dsimp only;omega)).trans ho
     ·exact iQ (aY _ _ _ _ _ _ hm) (uk k hlt fun t=>decide (b<=t)&&f (t-b))
    case measure=>simp[intOf];omega
   ·obtain⟨c,hc⟩: ∃c,d=c+1:=⟨d-1,by omega⟩
    have p1:=Do f b k q r d HQ.o HR.o hkd;have p2:=Lb f b k q r c HQ.o HR.o (by omega);rw[<-hc]at p2;have e2:(d:Int)-1=(c:Int):=(by omega);have e3:IntKind.i64.wrap ((k:Int)-(q:Int))=(d:Int):=(by rw[bG];omega);have e4:IntKind.i64.wrap ((d:Int)-1)=(c:Int):=(by rw[bG];omega);have e5:IntKind.i64.wrap (64-(r:Int))=64-(r:Int):=(by rw[bG];omega);have e6:(64-(r:Int)).toNat=64-r:=(by omega);have e7:(0:Int)<=64-(r:Int):=(by omega);have j0:(0:Int)<=(c:Int):=(by omega);have j1:(c:Int)<23:=(by omega);have cc:=kV ha c (by omega);have hgt:(q:Int)<(k:Int):=(by omega);generalize (fun t=>decide (b<=t)&&decide (64*d<=t-b)&&f (t-b))=G1 at p1 p2;have c1:(wr.setCell ⟨w.heap.size+1+1,k,none⟩ (.int .u64 (wd G1 k:Int))).cell? (ae w.heap.size c)=some (.int .u64 (wd f c:Int)):=(s6 _ _ _ _ (by dsimp only;omega)).trans cc;have hm2:=aY _ _ k _ _ (.int .u64 (wd G1 k:Int)) hm
    have c2:(wr.setCell ⟨w.heap.size+1+1,k,none⟩ (.int .u64 (wd G1 k:Int))).cell? (ae (w.heap.size+1+1) k)=some (.int .u64 (wd G1 k:Int)):=by
     rw[aZ _ _ k _ _ _ hm2];simp[bO,hlt]
    have f2:=bl _ _ k _ _ hm2;have HM2:PH ((wr.setCell ⟨w.heap.size+1+1,k,none⟩ (.int .u64 (wd G1 k:Int))).heap[w.heap.size+1+1]? =ah ((mv fun t=>decide (t<64*k)&&(decide (b<=t)&&f (t-b))).setIfInBounds k (.int .u64 (wd G1 k:Int))) 86):=hm2;clear hm2 hkd hc;go_wp2;go_region;go_wp2;go_roundw
    case rel=>
     have hD:=HD.o;refine⟨k+1,d+1,by omega,by omega,by go_num,?_,?_,?_,((hbel.setCell (by dsimp only;omega) _).setCell (by dsimp only;omega) _).drew⟩
     ·exact((aO _ _ _ _ (by dsimp only;omega)).trans (aO _ _ _ _ (by dsimp only;omega))).trans ha
     ·exact((aO _ _ _ _ (by dsimp only;omega)).trans (aO _ _ _ _ (by dsimp only;omega))).trans ho
     ·exact iQ (aY _ _ _ _ _ _ HM2.o) (AP k hlt (fun t=>decide (b<=t)&&f (t-b)) _)
    case measure=>simp[intOf];omega
  ·have hk23:k=23:=(by omega);subst hk23;have hm':=iQ hm (Dn _);clear hm HD hkd
   go_wp2_with(first
    |(refine aQ rfl 86 _ rfl _ rfl _ _ _ _ hm' bV rfl (bh _) ?_)
    |(refine ay rfl 86 _ _ rfl _ _ rfl rfl _ _ ho (bh _) (by simp[bO]) (dR _) ?_))
   refine aW (v:= .agg (mv fun t=>decide (b<=t)&&f (t-b))) ?_ rfl ⟨rfl,?_⟩
   ·exact bc rfl _ _ (w.heap.size+1) _ _ _ _ rfl (aL _ _ _ _ _ _ ho) bV rfl (bh _)
   ·exact below_setRow hbel (by omega) _
theorem F0 (f:Nat->Bool)(b q d:Nat)(hq:q=b/64)(hd:23=q+d):(mv fun t=>decide (t<64*d)&&(decide (t+b<1472)&&f (t+b)))=mv fun t=>decide (t+b<1472)&&f (t+b):=jf fun t ht=>by
 by_cases h:t<64*d
 ·simp[h]
 ·have: ¬t+b<1472:=by omega
  simp[this]
theorem Ed (f:Nat->Bool)(b i q r d:Nat)(hq:q=b/64)(hr:r=b%64)(hd:i=q+d)(h22:i=22):
  (wd f i:Int)/2^r=((wd (fun t=>decide (t+b<1472)&&f (t+b)) d:Nat):Int):=by
 rw[yU f b i q r d hq hr hd]
 rw[mP (f:=fun t=>decide (t+b<64*(i+1))&&f (t+b)) (g:=fun t=>decide (t+b<1472)&&f (t+b)) fun j _=>by
  have:(64*d+j+b<64*(i+1))=(64*d+j+b<1472):=(by apply propext;omega);simp only[this]]
theorem Cz (f:Nat->Bool)(b:Nat)(hb:b<1440)(w:World):
  Calls prog 212 #[.agg (mv f),ag b] w fun e w'=>e= .returned (.agg (mv fun t=>decide (t+b<1472)&&f (t+b)))/\aq w w':=by
 have hz:=eG;obtain⟨q,hq⟩: ∃q:Nat,q=b/64:=⟨_,rfl⟩
 obtain⟨r,hr⟩: ∃r:Nat,r=b%64:=⟨_,rfl⟩
 have HQ:PH (q=b/64):=hq;have HR:PH (r=b%64):=hr;have t1:(b:Int)/64=(q:Int):=by omega
 have t2:(b:Int)%64=(r:Int):=by omega
 have hq23:q<23:=by omega
 have hr64:r<64:=by omega
 clear hq hr;go_enter func212,ntmps212;go_wp2
 go_loopw [8] (fun i wr=> ∃k d:Nat,k<=23/\k=q+d/\i=ag k/\wr.heap[w.heap.size]? =ah (mv f) 86/\wr.heap[w.heap.size+1]? =ah (mv fun _=>false) 86/\
  wr.heap[w.heap.size+1+1]? =ah (mv fun t=>decide (t<64*d)&&(decide (t+b<1472)&&f (t+b))) 86/\aq w wr) (fun i _=>23-(intOf i).toNat)
 case atStart=>
  refine⟨q,0,by omega,rfl,rfl,?_,?_,?_,?_⟩
  ·(repeat (first|refine dj _ _ _ (by simp only[aU];omega) ?_|exact dz _ _ _ (by first|rfl|simp only[aU])))
  ·(repeat (first|refine dj _ _ _ (by simp only[aU];omega) ?_|exact dz _ _ _ (by first|rfl|simp only[aU])))
  ·refine iQ ?_ (AN _);(repeat (first|refine dj _ _ _ (by simp only[aU];omega) ?_|exact dz _ _ _ (by first|rfl|simp only[aU])))
  ·exact((am _ _).alloc (by simp) _).alloc (by simp only[aU];omega) _
 case round=>
  obtain⟨k,d,hk,hkd,rfl,ha,ho,hm,hbel⟩:=hrel;have HD:PH (k=q+d):=hkd;by_cases hlt:k<23
  ·have ca:=kV ha k (by omega);have hd23:d<23:=(by omega);have cm:=kV hm d hd23;have fm:=bl _ _ d _ _ hm;have e1:(k:Int)-(q:Int)=(d:Int):=(by omega);have hi0:(0:Int)<=(d:Int):=(by omega);have hi1:(d:Int)<23:=(by omega);have p1:=yU f b k q r d HQ.o HR.o hkd;by_cases hd0:k=22
   ·have hlast:(22:Int)<=(k:Int):=(by omega);have p3:=Ed f b k q r d HQ.o HR.o hkd hd0;have HK:PH (k=22):=hd0;clear p1 hkd hd0;go_wp2;go_roundw
    case rel=>
     have hD:=HD.o;have hK:=HK.o;refine⟨k+1,d+1,by omega,by omega,by go_num,?_,?_,?_,hbel.setCell (by dsimp only;omega) _⟩
     ·exact(aO _ _ _ _ (by dsimp only;omega)).trans ha
     ·exact(aO _ _ _ _ (by dsimp only;omega)).trans ho
     ·exact iQ (aY _ _ _ _ _ _ hm) (uk d hd23 fun t=>decide (t+b<1472)&&f (t+b))
    case measure=>
     have hK:=HK.o;simp[intOf];omega
   ·have p2:=FY f b k q r d HQ.o HR.o hkd (by omega);generalize (fun t=>decide (t+b<64*(k+1))&&f (t+b))=G1 at p1 p2;obtain⟨c,hc⟩: ∃c,c=k+1:=⟨_,rfl⟩
    rw[<-hc]at p2;have e2:(k:Int)+1=(c:Int):=(by omega);have e3:IntKind.i64.wrap ((k:Int)-(q:Int))=(d:Int):=(by rw[bG];omega);have e4:IntKind.i64.wrap ((k:Int)+1)=(c:Int):=(by rw[bG];omega);have e5:IntKind.i64.wrap (64-(r:Int))=64-(r:Int):=(by rw[bG];omega);have e6:(64-(r:Int)).toNat=64-r:=(by omega);have e7:(0:Int)<=64-(r:Int):=(by omega);have j0:(0:Int)<=(c:Int):=(by omega);have j1:(c:Int)<23:=(by omega);have cc:=kV ha c (by omega);have c1:(wr.setCell ⟨w.heap.size+1+1,d,none⟩ (.int .u64 (wd G1 d:Int))).cell? (ae w.heap.size c)=some (.int .u64 (wd f c:Int)):=(s6 _ _ _ _ (by dsimp only;omega)).trans cc;have hm2:=aY _ _ d _ _ (.int .u64 (wd G1 d:Int)) hm
    have c2:(wr.setCell ⟨w.heap.size+1+1,d,none⟩ (.int .u64 (wd G1 d:Int))).cell? (ae (w.heap.size+1+1) d)=some (.int .u64 (wd G1 d:Int)):=by
     rw[aZ _ _ d _ _ _ hm2];simp[bO,hd23]
    have f2:=bl _ _ d _ _ hm2;have HM2:PH ((wr.setCell ⟨w.heap.size+1+1,d,none⟩ (.int .u64 (wd G1 d:Int))).heap[w.heap.size+1+1]? =ah ((mv fun t=>decide (t<64*d)&&(decide (t+b<1472)&&f (t+b))).setIfInBounds d (.int .u64 (wd G1 d:Int))) 86):=hm2;have HC:PH (c=k+1):=hc;clear hm2 hkd hc;go_wp2;go_region;go_wp2;go_roundw
    case rel=>
     have hD:=HD.o;have hC:=HC.o;refine⟨c,d+1,by omega,by omega,by go_num,?_,?_,?_,((hbel.setCell (by dsimp only;omega) _).setCell (by dsimp only;omega) _).drew⟩
     ·exact((aO _ _ _ _ (by dsimp only;omega)).trans (aO _ _ _ _ (by dsimp only;omega))).trans ha
     ·exact((aO _ _ _ _ (by dsimp only;omega)).trans (aO _ _ _ _ (by dsimp only;omega))).trans ho
     ·refine iQ (aY _ _ _ _ _ _ HM2.o) ?_;exact AP d hd23 (fun t=>decide (t+b<1472)&&f (t+b)) _
    case measure=>
     have hC:=HC.o;simp[intOf];omega
  ·have hk23:k=23:=(by omega);subst hk23;have hm':=iQ hm (F0 f b q d HQ.o HD.o);clear hm HD hkd
   go_wp2_with(first
    |(refine aQ rfl 86 _ rfl _ rfl _ _ _ _ hm' bV rfl (bh _) ?_)
    |(refine ay rfl 86 _ _ rfl _ _ rfl rfl _ _ ho (bh _) (by simp[bO]) (dR _) ?_))
   refine aW (v:= .agg (mv fun t=>decide (t+b<1472)&&f (t+b))) ?_ rfl ⟨rfl,?_⟩
   ·exact bc rfl _ _ (w.heap.size+1) _ _ _ _ rfl (aL _ _ _ _ _ _ ho) bV rfl (bh _)
   ·exact below_setRow hbel (by omega) _
def shf (f:Nat->Bool)(x:Int)(t:Nat):Bool:=decide (t<1440)&&(decide (x<=(t:Int))&&(decide ((t:Int)-x<1440)&&f ((t:Int)-x).toNat))
theorem AQ (f:Nat->Bool)(x:Int)(h:x<= -1440\/1440<=x):(mv fun _=>false)=mv (shf f x):=jf fun t _=>by
 unfold shf;by_cases h1:t<1440
 ·by_cases h2:x<=(t:Int)
  ·have: ¬(t:Int)-x<1440:=(by omega);simp[this]
  ·simp[h2]
 ·simp[h1]
theorem MX (f:Nat->Bool)(b:Nat):(mv fun t=>(decide (b<=t)&&f (t-b))&&decide (t<1440))=mv (shf f (b:Int)):=jf fun t _=>by
 unfold shf;by_cases h1:t<1440
 ·by_cases h2:b<=t
  ·have e1:((t:Int)-(b:Int)).toNat=t-b:=(by omega);have e2:(b:Int)<=(t:Int):=(by omega);have e3:(t:Int)-(b:Int)<1440:=(by omega);simp[h1,h2,e1,e3]
  ·have e2: ¬(b:Int)<=(t:Int):=(by omega);simp[h2]
 ·simp[h1]
theorem I1 (f:Nat->Bool)(b:Nat):(mv fun t=>decide (t+b<1472)&&(f (t+b)&&decide (t+b<1440)))=mv (shf f (-(b:Int))):=jf fun t _=>by
 unfold shf;by_cases h1:t+b<1440
 ·have e1:((t:Int)- -(b:Int)).toNat=t+b:=by omega
  have e2: -(b:Int)<=(t:Int):=(by omega);have e3:(t:Int)- -(b:Int)<1440:=(by omega);have e4:t+b<1472:=(by omega);have e5:t<1440:=(by omega);rw[e1];simp only[h1,e2,e3,e4,e5,decide_true,ja,Bool.and_true]
 ·have e3: ¬(t:Int)- -(b:Int)<1440:=by omega
  simp only[h1,e3,decide_false,jh,Bool.false_and]
theorem wt (f:Nat->Bool)(x:Int)(w:World)(hx0: -9223372036854775808<=x)(hx1:x<=9223372036854775807):
  Calls prog 190 #[.agg (mv f),ag x] w fun e w'=>e= .returned (.agg (mv (shf f x)))/\aq w w':=by
 have hz:=eG;have h1:((w.alloc (.cells (mv f) 86)).alloc (.cells (mv fun _=>false) 86)).heap[w.heap.size]? =ah (mv f) 86:=by(repeat (first|refine dj _ _ _ (by simp only[aU];omega) ?_|exact dz _ _ _ (by first|rfl|simp only[aU])))
 have h3:((w.alloc (.cells (mv f) 86)).alloc (.cells (mv fun _=>false) 86)).heap[w.heap.size+1]? =ah (mv fun _=>false) 86:=by(repeat (first|refine dj _ _ _ (by simp only[aU];omega) ?_|exact dz _ _ _ (by first|rfl|simp only[aU])))
 have hb0:aq w ((w.alloc (.cells (mv f) 86)).alloc (.cells (mv fun _=>false) 86)):=(am _ _).alloc (by simp) _;rcases(show(x<= -1440)\/(1440<=x)\/(-1440<x/\x<0)\/(0<=x/\x<1440) from by omega) with h|h|⟨h,h'⟩|⟨h,h'⟩
 ·rw[<-AQ f x (.inl h)];go_enter func190,ntmps190;go_wp2_with(refine ay rfl 86 _ _ rfl _ _ rfl rfl _ _ h3 (bh _) (by simp[bO]) (dR _) ?_)
  refine aW (v:= .agg (mv fun _=>false)) ?_ rfl ⟨rfl,below_setRow hb0 (by omega) _⟩;exact bc rfl _ _ (w.heap.size+1) _ _ _ _ rfl (aL _ _ _ _ _ _ h3) bV rfl (bh _)
 ·rw[<-AQ f x (.inr h)];have hno: ¬x<= -1440:=(by omega);go_enter func190,ntmps190;go_wp2_with(refine ay rfl 86 _ _ rfl _ _ rfl rfl _ _ h3 (bh _) (by simp[bO]) (dR _) ?_)
  refine aW (v:= .agg (mv fun _=>false)) ?_ rfl ⟨rfl,below_setRow hb0 (by omega) _⟩;exact bc rfl _ _ (w.heap.size+1) _ _ _ _ rfl (aL _ _ _ _ _ _ h3) bV rfl (bh _)
 ·obtain⟨b,hb⟩: ∃b:Nat,-x=b:=⟨(-x).toNat,by omega⟩
  have hb2:b<1440:=(by omega);have hx:x= -(b:Int):=(by omega);have hshf:=I1 f b;rw[<-hx]at hshf;rw[<-hshf];clear hshf hx;go_enter func190,ntmps190
  go_wp2_with(first
   |(refine aQ rfl 86 _ rfl _ rfl _ _ _ _ h1 bV rfl (bh _) ?_)
   |(go_at_call 107;refine(vz _ _).mono ?_;rintro e w' ⟨rfl,hb'⟩;have ho':=ai hb' h3)
   |(go_at_call 212;refine(Cz _ _ hb2 _).mono ?_;rintro e w'' ⟨rfl,hb''⟩;have ho'':=(hb''.block _ (aH ho')).trans ho')
   |(refine ay rfl 86 _ _ rfl _ _ rfl rfl _ _ ho'' (bh _) (by simp[bO]) (dR _) ?_))
  refine aW (v:= .agg (mv fun t=>decide (t+b<1472)&&(f (t+b)&&decide (t+b<1440)))) ?_ rfl ⟨rfl,?_⟩
  ·exact bc rfl _ _ (w.heap.size+1) _ _ _ _ rfl (aL _ _ _ _ _ _ ho'') bV rfl (bh _)
  ·have hb1:=aw hb0 hb';exact below_setRow (aw hb1 hb'') (by omega) _
 ·obtain⟨b,rfl⟩: ∃b:Nat,x=b:=⟨x.toNat,by omega⟩
  rw[<-MX f b];have hb2:b<1440:=(by omega);go_enter func190,ntmps190
  go_wp2_with(first
   |(refine aQ rfl 86 _ rfl _ rfl _ _ _ _ h1 bV rfl (bh _) ?_)
   |(go_at_call 213;refine(FZ _ _ hb2 _).mono ?_;rintro e w' ⟨rfl,hb'⟩;have ho':=ai hb' h3)
   |(go_at_call 107;refine(vz _ _).mono ?_;rintro e w'' ⟨rfl,hb''⟩;have ho'':=(hb''.block _ (aH ho')).trans ho')
   |(refine ay rfl 86 _ _ rfl _ _ rfl rfl _ _ ho'' (bh _) (by simp[bO]) (dR _) ?_))
  refine aW (v:= .agg (mv fun t=>(decide (b<=t)&&f (t-b))&&decide (t<1440))) ?_ rfl ⟨rfl,?_⟩
  ·exact bc rfl _ _ (w.heap.size+1) _ _ _ _ rfl (aL _ _ _ _ _ _ ho'') bV rfl (bh _)
  ·have hb1:=aw hb0 hb';exact below_setRow (aw hb1 hb'') (by omega) _
end Go.Proofs.YtkfidffapdhbhaaGreatDoor
