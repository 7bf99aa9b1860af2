/- Texts of the proof. -/
import Derived.Deep.RegionHeld3
import Derived.Deep.DrawnRows
import Derived.Laws.CopyOwn
import Derived.Lib.TrailingZeros
import Derived.Test.YtjkilacmkbmmbaaGreatDoorPtZb
set_option maxRecDepth 100000
set_option maxHeartbeats 8000000
namespace Go.Proofs.YtjkilacmkbmmbaaGreatDoor
open Go.Proofs.Tryz Go.RowKit Lx Vx Mx Msk
namespace Msk
def num (p:Nat->Bool):Nat->Nat
 |0=>0
 |n+1=>num p n+if p n then 2^n else 0
theorem xr (p:Nat->Bool): ∀n,num p n<2^n
 |0=>by simp[num]
 |n+1=>by
  have:=xr p n;simp only[num,Nat.pow_succ];split<;>omega
theorem uF (p:Nat->Bool)(j:Nat): ∀n,(num p n).testBit j=(decide (j<n)&&p j)
 |0=>by simp[num]
 |n+1=>by
  have hl:=xr p n;have ih:=uF p j n;simp only[num];by_cases hp:p n=true
  ·rw[ax hp,Nat.add_comm];by_cases h1:j<n
   ·rw[Nat.testBit_two_pow_add_gt h1,ih];have:j<n+1:=(by omega);simp[h1,this]
   ·by_cases h2:j=n
    ·subst h2;rw[Nat.testBit_two_pow_add_eq,ih];simp[hp]
    ·have h3: ¬j<n+1:=(by omega);have h4:2^(n+1)<=2^j:=Nat.pow_le_pow_right (by omega) (by omega);rw[Nat.testBit_lt_two_pow (by rw[Nat.pow_succ]at h4;omega)];simp[h3]
  ·rw[aw hp,Nat.add_zero,ih];by_cases h2:j=n
   ·subst h2;simp at hp;simp[hp]
   ·by_cases h1:j<n
    ·have:j<n+1:=(by omega);simp[h1,this]
    ·have: ¬j<n+1:=(by omega);simp[h1,this]
theorem BS (p:Nat->Bool)(n x:Nat)(hx:x<2^n)(h: ∀j,j<n->x.testBit j=p j):x=num p n:=by
 apply Nat.eq_of_testBit_eq;intro j;rw[uF];by_cases hj:j<n
 ·simp[hj,h j hj]
 ·have:2^n<=2^j:=Nat.pow_le_pow_right (by omega) (by omega);rw[Nat.testBit_lt_two_pow (by omega)];simp[hj]
theorem MK {p q:Nat->Bool}{n:Nat}(h: ∀j,j<n->p j=q j):num p n=num q n:=
 BS q n _ (xr p n) fun j hj=>by rw[uF];simp[hj,h j hj]
def wd (f:Nat->Bool)(k:Nat):Nat:=num (fun j=>f (64*k+j)) 64
theorem gO (f:Nat->Bool)(k:Nat):wd f k<18446744073709551616:=xr _ 64
theorem ja (f:Nat->Bool)(k j:Nat):(wd f k).testBit j=(decide (j<64)&&f (64*k+j)):=uF _ j 64
theorem mX (f:Nat->Bool)(k x:Nat)(hx:x<18446744073709551616)(h: ∀j,j<64->x.testBit j=f (64*k+j)):x=wd f k:=
 BS _ 64 x hx h
theorem mY {f g:Nat->Bool}{k:Nat}(h: ∀j,j<64->f (64*k+j)=g (64*k+j)):wd f k=wd g k:=MK h
theorem OB {f g:Nat->Bool}{k:Nat}(h:wd f k=wd g k)(j:Nat)(hj:j<64):f (64*k+j)=g (64*k+j):=by
 have h1:=ja f k j;rw[h,ja]at h1;simpa[hj] using h1.symm
theorem Hq (f g:Nat->Bool)(k:Nat):wd f k&&&wd g k=wd (fun i=>f i&&g i) k:=by
 refine mX _ k _ (show wd f k&&&wd g k<2^64 from Nat.and_lt_two_pow _ (gO g k)) fun j hj=> ?_;rw[Nat.testBit_and,ja,ja];simp[hj]
theorem BH (f g:Nat->Bool)(k:Nat):wd f k|||wd g k=wd (fun i=>f i||g i) k:=by
 refine mX _ k _ (show wd f k|||wd g k<2^64 from Nat.or_lt_two_pow (gO f k) (gO g k)) fun j hj=> ?_;rw[Nat.testBit_or,ja,ja];simp[hj]
theorem Hr (f g:Nat->Bool)(k:Nat):wd f k&&&(18446744073709551616-(wd g k+1))=wd (fun i=>f i&& !g i) k:=by
 refine mX _ k _ (Nat.lt_of_le_of_lt Nat.and_le_left (gO f k)) fun j hj=> ?_;have e:(18446744073709551616:Nat)=2^64:=by decide
 rw[Nat.testBit_and,e,Nat.testBit_two_pow_sub_succ (gO g k),ja,ja];simp[hj]
theorem EG (k:Nat):wd (fun _=>false) k=0:=by
 have:(0:Nat)=wd (fun _=>false) k:=mX _ k 0 (by omega) (by simp);exact this.symm
theorem yV (x r j:Nat)(hj:j<64):(x*2^r%18446744073709551616).testBit j=(decide (r<=j)&&x.testBit (j-r)):=by
 have e:(18446744073709551616:Nat)=2^64:=by decide
 rw[e,Nat.testBit_mod_two_pow,Nat.testBit_mul_two_pow];simp[hj]
theorem uG (x r j:Nat):(x/2^r).testBit j=x.testBit (j+r):=by
 rw[Nat.testBit_div_two_pow]
theorem BT (n j:Nat):(2^n-1).testBit j=decide (j<n):=by
 rw[Nat.testBit_two_pow_sub_one]
def cnt (f:Nat->Bool):Nat->Nat
 |0=>0
 |n+1=>cnt f n+if f n then 1 else 0
theorem BU (f:Nat->Bool): ∀n,cnt f n<=n
 |0=>by simp[cnt]
 |n+1=>by have:=BU f n;simp only[cnt];split<;>omega
theorem rR {f g:Nat->Bool}: ∀{n:Nat},(∀j,j<n->f j=g j)->cnt f n=cnt g n
 |0,_=>rfl
 |n+1,h=>by
  have:=rR (n:=n) fun j hj=>h j (by omega);simp only[cnt,this,h n (by omega)]
theorem rS (f:Nat->Bool)(a:Nat): ∀n,cnt f (a+n)=cnt f a+cnt (fun j=>f (a+j)) n
 |0=>by simp[cnt]
 |n+1=>by
  have:=rS f a n;rw[<-Nat.add_assoc];simp only[cnt,this];omega
theorem tE {f:Nat->Bool}{n:Nat}(h: ∀j,j<n->f j=false):cnt f n=0:=by
 have e:cnt f n=cnt (fun _=>false) n:=rR h
 have z: ∀n,cnt (fun _=>false) n=0:=by
  intro n;induction n with
  |zero=>rfl
  |succ n ih=>simp[cnt,ih]
 rw[e,z]
theorem Km {f:Nat->Bool}{n:Nat}(h: ∀j,j<n->f j=true):cnt f n=n:=by
 have e:cnt f n=cnt (fun _=>true) n:=rR h
 have z: ∀n,cnt (fun _=>true) n=n:=by
  intro n;induction n with
  |zero=>rfl
  |succ n ih=>simp[cnt,ih]
 rw[e,z]
theorem Kn (f:Nat->Bool)(k:Nat):cnt (fun j=>(wd f k).testBit j) 64=cnt (fun j=>f (64*k+j)) 64:=
 rR fun j hj=>by rw[ja];simp[hj]
def dig (c:Nat->Nat)(s:Nat):Nat->Nat
 |0=>0
 |n+1=>dig c s n+c n*2^(s*n)
def tot (c:Nat->Nat):Nat->Nat
 |0=>0
 |n+1=>tot c n+c n
theorem BV (c:Nat->Nat)(s:Nat): ∀n,(∀i,i<n->c i<2^s)->dig c s n<2^(s*n)
 |0,_=>by simp[dig]
 |n+1,h=>by
  have h1:=BV c s n fun i hi=>h i (by omega);have h2:=h n (by omega);have h3:(c n+1)*2^(s*n)<=2^s*2^(s*n):=Nat.mul_le_mul_right _ h2;rw[Nat.add_mul]at h3;simp only[dig];rw[Nat.mul_add,Nat.mul_one,Nat.pow_add,Nat.mul_comm (2^(s*n)) (2^s)];omega
theorem yW (c d:Nat->Nat)(s:Nat): ∀n,dig c s n+dig d s n=dig (fun i=>c i+d i) s n
 |0=>by simp[dig]
 |n+1=>by
  have:=yW c d s n;simp only[dig,Nat.add_mul];omega
theorem uH {c d:Nat->Nat}{s:Nat}: ∀{n:Nat},(∀i,i<n->c i=d i)->dig c s n=dig d s n
 |0,_=>rfl
 |n+1,h=>by
  have:=uH (s:=s) (n:=n) fun i hi=>h i (by omega);simp only[dig,this,h n (by omega)]
theorem vZ (c:Nat->Nat)(s:Nat): ∀n,dig c s (n+1)=c 0+2^s*dig (fun i=>c (i+1)) s n
 |0=>by simp[dig]
 |n+1=>by
  have:=vZ c s n;rw[dig,this];simp only[dig];have e:c (n+1)*(2^(s*n)*2^s)=2^s*(c (n+1)*2^(s*n)):=(by rw[<-Nat.mul_assoc,Nat.mul_comm]);rw[Nat.mul_add s n 1,Nat.mul_one,Nat.pow_add,e,Nat.mul_add];omega
theorem Ab (c:Nat->Nat)(s n:Nat)(h:c 0<2^s):dig c s (n+1)/2^s=dig (fun i=>c (i+1)) s n:=by
 rw[vZ,Nat.add_mul_div_left _ _ (Nat.two_pow_pos s),Nat.div_eq_of_lt h,bG]
theorem yX (s:Nat)(hs:0<s): ∀(n:Nat) (c:Nat->Nat),(∀i,i<n->c i<2^s)-> ∀j,(dig c s n).testBit j=(decide (j<s*n)&&(c (j/s)).testBit (j%s))
 |0,c,_,j=>by simp[dig]
 |n+1,c,h,j=>by
  rw[vZ];have h0:=h 0 (by omega);have ih:=yX s hs n (fun i=>c (i+1)) (fun i hi=>h (i+1) (by omega));by_cases hj:j<s
  ·rw[Nat.add_comm,Nat.testBit_two_pow_mul_add _ h0];have hlt:j<s*(n+1):=(by rw[Nat.mul_add];omega);simp[hj,Nat.div_eq_of_lt hj,Nat.mod_eq_of_lt hj,hlt]
  ·rw[Nat.add_comm,Nat.testBit_two_pow_mul_add _ h0];obtain⟨t,rfl⟩: ∃t,j=t+s:=⟨j-s,by omega⟩
   rw[aw hj,ih,Nat.add_div_right _ hs,Nat.add_mod_right];have e:(t+s<s*(n+1))=(t<s*n):=(by rw[Nat.mul_add];simp);simp[e]
theorem v6 (c:Nat->Nat)(s n mask:Nat)(hs:0<s)(h: ∀i,i<2*n->c i<2^s)
  (hm: ∀j,j<s*(2*n)->mask.testBit j=decide (j/s%2=0)):dig c s (2*n)&&&mask=dig (fun i=>c (2*i)) (2*s) n:=by
 apply Nat.eq_of_testBit_eq;intro j;have hp:2^s<=2^(2*s):=Nat.pow_le_pow_right (by omega) (by omega);rw[Nat.testBit_and,yX s hs _ _ h,yX (2*s) (by omega) n _ (fun i hi=>aQ (h (2*i) (by omega)) hp)];have e:s*(2*n)=2*s*n:=by rw[<-Nat.mul_assoc,Nat.mul_comm s 2]
 by_cases hj:j<s*(2*n)
 ·rw[hm j hj];have hj':j<2*s*n:=(by omega);simp only[hj,hj',decide_true,iu];have d:j/(2*s)=j/s/2:=(by rw[Nat.mul_comm,Nat.div_div_eq_div_mul]);rw[d];by_cases hp2:j/s%2=0
  ·have e2:2*(j/s/2)=j/s:=(by omega)
   have e3:j%(2*s)=j%s:=by
    have h1:=Nat.div_add_mod j s;have h3:j/s=2*(j/(2*s)):=(by rw[d];omega);have h4:=Nat.div_add_mod j (2*s)
    have h5:s*(j/s)=2*s*(j/(2*s)):=by
     rw[h3,<-Nat.mul_assoc,Nat.mul_comm s 2]
    omega
   rw[e2,e3];simp[hp2]
  ·have hc:c (2*(j/s/2))<2^s:=by
    apply h;have:j/s<2*n:=Nat.div_lt_of_lt_mul hj;omega
   have hge:s<=j%(2*s):=by
    have h1:=Nat.div_add_mod j s;have h3:j/s=2*(j/(2*s))+1:=(by rw[d];omega);have h4:=Nat.div_add_mod j (2*s)
    have h5:s*(j/s)=2*s*(j/(2*s))+s:=by
     rw[h3,Nat.mul_add,<-Nat.mul_assoc,Nat.mul_comm s 2,Nat.mul_one]
    omega
   have:2^s<=2^(j%(2*s)):=Nat.pow_le_pow_right (by omega) hge;rw[Nat.testBit_lt_two_pow (aQ hc this)];simp[hp2]
 ·have hj': ¬j<2*s*n:=by omega
  simp[hj,hj']
theorem si (c:Nat->Nat): ∀n,tot (fun i=>c (2*i)+c (2*i+1)) n=tot c (2*n)
 |0=>by simp[tot]
 |n+1=>by
  have:=si c n;have e:2*(n+1)=2*n+1+1:=(by omega);rw[e];simp only[tot,this];omega
theorem Ac (c:Nat->Nat)(s n mask:Nat)(hs:0<s)(h: ∀i,i<2*n->c i<2^s)(hn:0<n)
  (hm: ∀j,j<s*(2*n)->mask.testBit j=decide (j/s%2=0)):
  (dig c s (2*n)/2^s&&&mask)+(dig c s (2*n)&&&mask)=dig (fun i=>c (2*i)+c (2*i+1)) (2*s) n:=by
 have e1:dig c s (2*n)/2^s=dig (fun i=>if i+1<2*n then c (i+1) else 0) s (2*n):=by
  obtain⟨m,hm⟩: ∃m,2*n=m+1:=⟨2*n-1,by omega⟩
  rw[hm,Ab c s m (h 0 (by omega))];simp only[dig];rw[aw (by omega),Nat.zero_mul,Nat.add_zero];exact uH fun i hi=>(by rw[ax (by omega)])
 rw[e1,v6 c s n mask hs h hm,v6 _ s n mask hs (fun i hi=>by split;exact h _ (by omega);exact Nat.two_pow_pos s) hm,yW];refine uH fun i hi=> ?_;rw[ax (by omega)];omega
theorem Ko (x:Nat): ∀n,x<2^n->x=dig (fun i=>if x.testBit i then 1 else 0) 1 n:=by
 intro n hx
 have e: ∀m,dig (fun i=>if x.testBit i then 1 else 0) 1 m=num (fun i=>x.testBit i) m:=by
  intro m;induction m with
  |zero=>rfl
  |succ m ih=>simp only[dig,num,ih,Nat.one_mul];split<;>simp
 rw[e];exact BS _ n x hx fun _ _=>rfl
theorem BW (f:Nat->Bool): ∀n,tot (fun i=>if f i then 1 else 0) n=cnt f n
 |0=>rfl
 |n+1=>by simp only[tot,cnt,BW f n]
theorem ML (x:Nat)(hx:x<2^64): ∃d:Nat->Nat,(∀i,d i<=2)/\tot d 32=cnt (fun j=>x.testBit j) 64/\(x/2&&&6148914691236517205)+(x&&&6148914691236517205)=dig d 2 32:=by
 have hb:=Ko x 64 hx;have m0: ∀j,j<1*(2*32)->(6148914691236517205:Nat).testBit j=decide (j/1%2=0):=by decide+kernel
 generalize hc:(fun i=>if x.testBit i then 1 else 0)=c at hb;have c1: ∀i,c i<=1:=by intro i;rw[<-hc];simp only;split<;>omega
 have r0:=Ac c 1 32 _ (by omega) (fun i _=>by have:=c1 i;omega) (by omega) m0;refine⟨fun i=>c (2*i)+c (2*i+1),fun i=>by have:=c1 (2*i);have:=c1 (2*i+1);simp only;omega,?_,?_⟩
 ·rw[si c 32,<-hc,BW]
 ·simp only[Nat.reduceMul,Nat.pow_one]at r0;rw[<-hb]at r0;exact r0
theorem MM (d:Nat->Nat)(h: ∀i,d i<=2): ∃g:Nat->Nat,(∀i,g i<=4)/\tot g 16=tot d 32/\(dig d 2 32/4&&&3689348814741910323)+(dig d 2 32&&&3689348814741910323)=dig g 4 16:=by
 have m1: ∀j,j<2*(2*16)->(3689348814741910323:Nat).testBit j=decide (j/2%2=0):=by decide+kernel
 have r1:=Ac d 2 16 _ (by omega) (fun i _=>by have:=h i;omega) (by omega) m1;refine⟨fun i=>d (2*i)+d (2*i+1),fun i=>by have:=h (2*i);have:=h (2*i+1);simp only;omega,si d 16,?_⟩;simp only[Nat.reduceMul,Nat.reducePow]at r1;exact r1
theorem OC (g:Nat->Nat)(h: ∀i,g i<=4):dig g 4 16/16=dig (fun i=>if i<15 then g (i+1) else 0) 4 16:=by
 have s1:=Ab g 4 15 (by have:=h 0;omega)
 have s3:dig (fun i=>if i<15 then g (i+1) else 0) 4 (15+1)=dig (fun i=>g (i+1)) 4 15:=by
  have:dig (fun i=>if i<15 then g (i+1) else 0) 4 15=dig (fun i=>g (i+1)) 4 15:=uH fun i hi=>(by rw[ax hi]);rw[dig,this,aw (by omega),Nat.zero_mul,Nat.add_zero]
 rw[<-s3]at s1;exact s1
theorem OD (q:Nat->Nat)(q8: ∀i,q i<=8):dig q 4 16<18446744073709551616:=by
 have l3:=BV q 4 16 fun i _=>by have:=q8 i;omega
 simp only[Nat.reduceMul,Nat.reducePow]at l3;exact l3
theorem OE (q:Nat->Nat)(q8: ∀i,q i<=8):dig q 4 16&&&1085102592571150095=dig (fun i=>q (2*i)) 8 8:=by
 have m2: ∀j,j<4*(2*8)->(1085102592571150095:Nat).testBit j=decide (j/4%2=0):=by decide+kernel
 have e3:=v6 q 4 8 _ (by omega) (fun i _=>by have:=q8 i;omega) m2;simp only[Nat.reduceMul]at e3;exact e3
theorem OF (g:Nat->Nat):tot (fun i=>(if 2*i<15 then g (2*i+1) else 0)+g (2*i)) 8=tot g 16:=by
 have:=si g 8;simp only[Nat.reduceMul]at this;rw[<-this];simp only[tot,Nat.reduceLT,Nat.reduceAdd,Nat.reduceMul,if_true];omega
theorem Ht (g:Nat->Nat)(h: ∀i,g i<=4): ∃e:Nat->Nat,(∀i,e i<=8)/\tot e 8=tot g 16/\dig g 4 16/16+dig g 4 16<18446744073709551616/\(dig g 4 16/16+dig g 4 16)&&&1085102592571150095=dig e 8 8:=by
 have q8: ∀i,(if i<15 then g (i+1) else 0)+g i<=8:=by intro i;have:=h (i+1);have:=h i;split<;>omega
 rw[OC g h,yW];exact⟨_,fun i=>q8 (2*i),OF g,OD _ q8,OE _ q8⟩
theorem Kq (e:Nat->Nat)(h: ∀i,e i<=8): ∃a b c:Nat,a=dig e 8 8+dig e 8 8/256/\a<18446744073709551616/\b=a+a/65536/\b<18446744073709551616/\
  c=b+b/4294967296/\c<9223372036854775808/\c%128=tot e 8:=by
 have h0:=h 0;have h1:=h 1;have h2:=h 2;have h3:=h 3;have h4:=h 4;have h5:=h 5;have h6:=h 6;have h7:=h 7
 have e1:dig e 8 8=e 0+256*e 1+65536*e 2+16777216*e 3+4294967296*e 4+1099511627776*e 5+281474976710656*e 6+72057594037927936*e 7:=by
  simp only[dig];omega
 have e2:tot e 8=e 0+e 1+e 2+e 3+e 4+e 5+e 6+e 7:=by simp only[tot];omega
 rw[e1,e2];clear e1 e2;generalize e 0=x0 at*;generalize e 1=x1 at*;generalize e 2=x2 at*;generalize e 3=x3 at*;generalize e 4=x4 at*;generalize e 5=x5 at*;generalize e 6=x6 at*;generalize e 7=x7 at*;clear h e;have d1:(x0+256*x1+65536*x2+16777216*x3+4294967296*x4+1099511627776*x5+281474976710656*x6+72057594037927936*x7)/256=x1+256*x2+65536*x3+16777216*x4+4294967296*x5+1099511627776*x6+281474976710656*x7:=by omega
 rw[d1];clear d1;refine⟨_,_,_,rfl,by omega,rfl,?_,rfl,?_,?_⟩
 all_goals
  have d2:(x0+256*x1+65536*x2+16777216*x3+4294967296*x4+1099511627776*x5+281474976710656*x6+72057594037927936*x7+(x1+256*x2+65536*x3+16777216*x4+4294967296*x5+1099511627776*x6+281474976710656*x7))/65536
   =(x2+x3)+256*(x3+x4)+65536*(x4+x5)+16777216*(x5+x6)+4294967296*(x6+x7)+1099511627776*x7:=by omega
  rw[d2]
  clear d2
  first
  |omega
  |(have d3:(x0+256*x1+65536*x2+16777216*x3+4294967296*x4+1099511627776*x5+281474976710656*x6+72057594037927936*x7+(x1+256*x2+65536*x3+16777216*x4+4294967296*x5+1099511627776*x6+281474976710656*x7)
     +((x2+x3)+256*(x3+x4)+65536*(x4+x5)+16777216*(x5+x6)+4294967296*(x6+x7)+1099511627776*x7))/4294967296=(x4+x5+x6+x7)+256*(x5+x6+x7)+65536*(x6+x7)+16777216*x7:=by omega
    rw[d3];clear d3;omega)
end Msk
def mv (f:Nat->Bool):Array Value:=Array.ofFn (n:=23) fun k=>Value.int .u64 (wd f k.val:Int)
theorem bP (f:Nat->Bool):(mv f).size=23:=by simp[mv]
theorem pj (f:Nat->Bool)(k:Nat)(hk:k<23):(mv f)[k]? =some (.int .u64 (wd f k:Int)):=by
 simp[mv,hk]
theorem dN (f:Nat->Bool):(mv f).all (·.oneCell')=true:=by
 rw[Array.all_eq_true];intro i hi;simp[mv,Value.oneCell']
theorem jb {f g:Nat->Bool}(h: ∀i,i<1472->f i=g i):mv f=mv g:=by
 unfold mv;congr 1;funext k;have hk:=k.isLt;rw[mY (f:=f) (g:=g) fun j hj=>h _ (by omega)]
theorem BX (f g:Nat->Bool)(k:Nat)(hk:k<23):(mv f).setIfInBounds k (.int .u64 (wd g k:Int))=mv (fun i=>if i/64=k then g i else f i):=by
 apply Array.ext_getElem?;intro i;rw[Array.getElem?_setIfInBounds];by_cases hi:k=i
 ·subst hi;rw[ax rfl,ax (by rw[bP];exact hk),pj _ k hk];rw[mY (f:=g) (g:=fun i=>if i/64=k then g i else f i) fun j hj=>by rw[ax (by omega)]]
 ·rw[aw hi];by_cases hlt:i<23
  ·rw[pj _ i hlt,pj _ i hlt];rw[mY (f:=f) (g:=fun i=>if i/64=k then g i else f i) fun j hj=>by rw[aw (by omega)]]
  ·rw[Array.getElem?_eq_none (by rw[bP];omega),Array.getElem?_eq_none (by rw[bP];omega)]
theorem MN:mv (fun _=>false)=Array.replicate 23 (.int .u64 0):=by
 apply Array.ext_getElem?;intro i;by_cases hlt:i<23
 ·rw[pj _ i hlt,EG];simp[hlt]
 ·rw[Array.getElem?_eq_none (by rw[bP];omega)];simp[hlt]
theorem eC:(#[.int .u64 0, .int .u64 0, .int .u64 0, .int .u64 0, .int .u64 0, .int .u64 0, .int .u64 0, .int .u64 0, .int .u64 0, .int .u64 0, .int .u64 0, .int .u64 0, .int .u64 0, .int .u64 0, .int .u64 0, .int .u64 0, .int .u64 0, .int .u64 0, .int .u64 0, .int .u64 0, .int .u64 0, .int .u64 0, .int .u64 0]:Array Value)=mv (fun _=>false):=by rw[MN];rfl
theorem FB (a b:Nat)(ha:a<18446744073709551616)(hb:b<18446744073709551616):
  bits .andNot .u64 (a:Int) (b:Int)=((a&&&(18446744073709551616-(b+1)):Nat):Int):=by
 have h1:(BitVec.ofInt 64 (a:Int)).toNat=a:=by
  rw[BitVec.ofInt_natCast,BitVec.toNat_ofNat];exact Nat.mod_eq_of_lt (by omega)
 have h2:(BitVec.ofInt 64 (b:Int)).toNat=b:=by
  rw[BitVec.ofInt_natCast,BitVec.toNat_ofNat];exact Nat.mod_eq_of_lt (by omega)
 have hx:a&&&(18446744073709551616-(b+1))<=a:=Nat.and_le_left;show IntKind.u64.wrap ((BitVec.ofInt 64 (a:Int)&&& ~~~BitVec.ofInt 64 (b:Int)).toNat:Int)=_;have e:(2:Nat)^64-1-b=18446744073709551616-(b+1):=by omega
 rw[BitVec.toNat_and,BitVec.toNat_not,h1,h2,eB,e];omega
theorem Hu:(4294967295:Nat)=wd (fun i=>decide (i<1440)) 22:=by
 refine mX _ 22 _ (by omega) fun j hj=> ?_;have e:(4294967295:Nat)=2^32-1:=by decide
 rw[e,BT];have:(j<32)=(64*22+j<1440):=by apply propext;omega
 simp only[this]
theorem MO (f:Nat->Bool):(mv f).setIfInBounds 22 (.int .u64 (bits .and .u64 (wd f 22:Int) 4294967295))=mv fun i=>f i&&decide (i<1440):=by
 have e:bits .and .u64 (wd f 22:Int) 4294967295=((wd (fun i=>f i&&decide (i<1440)) 22:Nat):Int):=by
  have:=bits_and_u64_nat (wd f 22) 4294967295 (gO f 22) (by omega);rw[<-Hq f (fun i=>decide (i<1440)) 22,<-Hu];exact this
 rw[e,BX _ _ 22 (by omega)];refine jb fun i hi=> ?_;by_cases h:i/64=22
 ·rw[ax h]
 ·rw[aw h];have:i<1440:=(by omega);simp[this]
theorem kM {w:World}{g:Nat}{f:Nat->Bool}{t:TypeId}(hg:w.heap[g]? =ah (mv f) t)(k:Nat)(hk:k<23):w.cell? (ae g k)=some (.int .u64 (wd f k:Int)):=by
 rw[aX w g k _ t (0,0) hg,pj f k hk]
theorem tF (w:World)(a:Addr)(v:Value)(p:Addr)(h:p.block≠a.block):(w.setCell a v).drew.cell? p=w.cell? p:=
 dT (w:=w) (Below.heap_setCell w a v p.block h)
theorem BY (h:Nat->Bool):mv (fun _=>false)=mv (fun i=>decide (i<64*0)&&h i):=jb fun i _=>by simp
theorem uI (k:Nat)(hk:k<23)(h:Nat->Bool):(mv fun i=>decide (i<64*k)&&h i).setIfInBounds k (.int .u64 (wd h k:Int))=mv fun i=>decide (i<64*(k+1))&&h i:=by
 rw[BX _ _ k hk];refine jb fun i hi=> ?_;by_cases h:i/64=k
 ·have:i<64*(k+1):=by omega
  simp[h,this]
 ·have:(i<64*k)=(i<64*(k+1)):=by apply propext;omega
  simp only[h,if_false,this]
theorem EH (h:Nat->Bool):(mv fun i=>decide (i<64*23)&&h i)=mv h:=jb fun i hi=>by
 have:i<64*23:=by omega
 simp[this]
theorem iS {w:World}{g:Nat}{c c':Array Value}{t:TypeId}(hg:w.heap[g]? =ah c t)(e:c=c'):w.heap[g]? =ah c' t:=by rw[hg,e]
theorem aP (w:World)(o:Obj):(w.alloc o).heap.size=w.heap.size+1:=by show(w.heap.push o).size=_;simp
theorem dr (w:World)(o:Obj)(k:Nat)(h:k=w.heap.size):(w.alloc o).heap[k]? =some o:=by subst h;exact aB w o
theorem dc (w:World)(o:Obj)(k:Nat)(h:k<w.heap.size){x:Obj}(hx:w.heap[k]? =some x):(w.alloc o).heap[k]? =some x:=(dF w o k h).trans hx
theorem a7 (f:Nat->Bool):(prog.info? 61).map (·.size)=some (mv f).size:=by rw[bP];kernel_rfl
theorem bQ:prog.underlying 61=some (.array 23 59):=by kernel_rfl
section
theorem sm (f:Nat->Bool)(w:World):
  Calls prog 30 #[.agg (mv f)] w fun e w'=>e= .returned (.agg (mv fun i=>f i&&decide (i<1440)))/\ao w w':=by
 have g22:=pj f 22 (by omega);have e22:=MO f;have hz:=eC;go_enter func30,ntmps30
 go_wp2_with(first
  |(refine aR rfl 61 _ rfl _ rfl _ _ _ _ (heap_alloc2_old _ _ _) bQ rfl (a7 _) ?_)
  |(refine az rfl 61 _ _ rfl _ _ rfl rfl _ _ (heap_alloc2_new _ _ _) (a7 _) (by simp[bP]) (dN _) ?_))
 refine aV (v:= .agg (mv fun i=>f i&&decide (i<1440))) ?_ rfl ⟨rfl,?_⟩
 ·exact a8 rfl _ _ (w.heap.size+1) _ _ _ _ rfl (aL _ _ _ _ _ _ (heap_alloc2_new _ _ _)) bQ rfl (a7 _)
 ·exact below_setRow ((am _ _).alloc (by simp) _) (by omega) _
attribute [local go_sem↓] Go.wp_at_zero Go.wp_at_succ
theorem rE (K:Nat)(o:Bool->Bool->Bool)(hK: ∀(f g:Nat->Bool) (k:Nat) (w:World),Calls prog K #[.int .u64 (wd f k:Int),.int .u64 (wd g k:Int)] w fun e w'=>e= .returned (.int .u64 (wd (fun i=>o (f i) (g i)) k:Int))/\w'=w)
  (eK: ∀args w,(callFunc K args).run prog w= .ok (.enter K args) w) (a b:Nat->Bool) (w:World):
  Calls prog 117 #[.agg (mv a),.agg (mv b),.func (.func K) #[] #[]] w fun e w'=>e= .returned (.agg (mv fun i=>o (a i) (b i)&&decide (i<1440)))/\ao w w':=by
 have hz:=eC;go_enter func117,ntmps117;go_wp2
 go_loopw [9] (fun i wr=> ∃k:Nat,k<=23/\i=ag k/\wr.heap[w.heap.size]? =ah (mv a) 61/\wr.heap[w.heap.size+1]? =ah (mv b) 61/\wr.heap[w.heap.size+1+1]? =ah (mv fun _=>false) 61/\
  wr.heap[w.heap.size+1+1+1]? =ah (mv fun i=>decide (i<64*k)&&o (a i) (b i)) 61/\ao w wr) (fun i _=>23-(intOf i).toNat)
 case atStart=>
  refine⟨0,by omega,rfl,?_,?_,?_,?_,?_⟩
  ·(repeat (first|refine dc _ _ _ (by simp only[aP];omega) ?_|exact dr _ _ _ (by first|rfl|simp only[aP])))
  ·(repeat (first|refine dc _ _ _ (by simp only[aP];omega) ?_|exact dr _ _ _ (by first|rfl|simp only[aP])))
  ·(repeat (first|refine dc _ _ _ (by simp only[aP];omega) ?_|exact dr _ _ _ (by first|rfl|simp only[aP])))
  ·refine iS ?_ (BY _);(repeat (first|refine dc _ _ _ (by simp only[aP];omega) ?_|exact dr _ _ _ (by first|rfl|simp only[aP])))
  ·exact(((am _ _).alloc (by simp) _).alloc (by simp;omega) _).alloc (by simp;omega) _
 case round=>
  obtain⟨k,hk,rfl,ha,hb,ho,hm,hbel⟩:=hrel;by_cases hlt:k<23
  ·have ca:=kM ha k hlt;have cb:=kM hb k hlt;have cm:=kM hm k hlt;have fm:=bl _ _ k _ _ hm;have hi0:(0:Int)<=(k:Int):=(by omega);have hi1:(k:Int)<23:=(by omega);have n1:w.heap.size+1+1+1≠w.heap.size:=(by omega);have n2:w.heap.size+1+1≠w.heap.size:=(by omega);go_wp2
   go_region_held3 (fun w'=>w'.cell? (ae w.heap.size k)=some (.int .u64 (wd a k:Int))/\w'.cell? (ae (w.heap.size+1) k)=some (.int .u64 (wd b k:Int)))
    (go_keep)
    ((refine(hK a b k _).mono ?_;rintro e w' ⟨rfl,rfl⟩))
   go_wp2;go_roundw
   case rel=>
    refine⟨k+1,by omega,by go_num,?_,?_,?_,?_,?_⟩
    ·exact(aM _ _ _ _ (by dsimp only;omega)).trans ha
    ·exact(aM _ _ _ _ (by dsimp only;omega)).trans hb
    ·exact(aM _ _ _ _ (by dsimp only;omega)).trans ho
    ·exact iS (aW _ _ _ _ _ _ hm) (uI k hlt fun i=>o (a i) (b i))
    ·exact(hbel.setCell (by dsimp only;omega) _).drew
   case measure=>simp[intOf];omega
  ·have hk23:k=23:=(by omega);subst hk23;have hm':=iS hm (EH fun i=>o (a i) (b i));clear hm
   go_wp2_with(first
    |(refine aR rfl 61 _ rfl _ rfl _ _ _ _ hm' bQ rfl (a7 _) ?_)
    |(go_at_call 30;refine(sm _ _).mono ?_;rintro e w' ⟨rfl,hb'⟩;have ho':=(hb'.block (w.heap.size+1+1) (aG ho)).trans ho)
    |(refine az rfl 61 _ _ rfl _ _ rfl rfl _ _ (by assumption) (a7 _) (by simp[bP]) (dN _) ?_))
   refine aV (v:= .agg (mv fun i=>o (a i) (b i)&&decide (i<1440))) ?_ rfl ⟨rfl,?_⟩
   ·exact a8 rfl _ _ (w.heap.size+1+1) _ _ _ _ rfl (aL _ _ _ _ _ _ ho') bQ rfl (a7 _)
   ·exact below_setRow (au hbel hb') (by omega) _
theorem OG (f g:Nat->Bool)(k:Nat)(w:World):Calls prog 118 #[.int .u64 (wd f k:Int),.int .u64 (wd g k:Int)] w fun e w'=>e= .returned (.int .u64 (wd (fun i=>f i||g i) k:Int))/\w'=w:=by
 have e1:=bits_or_u64_nat _ _ (gO f k) (gO g k);rw[BH]at e1;go_enter func118,ntmps118;go_wp2;go_ret;exact⟨rfl,rfl⟩
theorem MP (f g:Nat->Bool)(k:Nat)(w:World):Calls prog 120 #[.int .u64 (wd f k:Int),.int .u64 (wd g k:Int)] w fun e w'=>e= .returned (.int .u64 (wd (fun i=>f i&&g i) k:Int))/\w'=w:=by
 have e1:=bits_and_u64_nat _ _ (gO f k) (gO g k);rw[Hq]at e1;go_enter func120,ntmps120;go_wp2;go_ret;exact⟨rfl,rfl⟩
theorem MR (f g:Nat->Bool)(k:Nat)(w:World):Calls prog 119 #[.int .u64 (wd f k:Int),.int .u64 (wd g k:Int)] w fun e w'=>e= .returned (.int .u64 (wd (fun i=>f i&& !g i) k:Int))/\w'=w:=by
 have e1:=FB _ _ (gO f k) (gO g k);rw[Hr]at e1;go_enter func119,ntmps119;go_wp2;go_ret;exact⟨rfl,rfl⟩
theorem Ae (a b:Nat->Bool)(w:World):
  Calls prog 83 #[.agg (mv a),.agg (mv b)] w fun e w'=>e= .returned (.agg (mv fun i=>(a i||b i)&&decide (i<1440)))/\ao w w':=by
 have hz:=eC;have h1:(((w.alloc (.cells (mv a) 61)).alloc (.cells (mv b) 61)).alloc (.cells (mv fun _=>false) 61)).heap[w.heap.size]? =ah (mv a) 61:=by(repeat (first|refine dc _ _ _ (by simp only[aP];omega) ?_|exact dr _ _ _ (by first|rfl|simp only[aP])))
 have h2:(((w.alloc (.cells (mv a) 61)).alloc (.cells (mv b) 61)).alloc (.cells (mv fun _=>false) 61)).heap[w.heap.size+1]? =ah (mv b) 61:=by(repeat (first|refine dc _ _ _ (by simp only[aP];omega) ?_|exact dr _ _ _ (by first|rfl|simp only[aP])))
 have h3:(((w.alloc (.cells (mv a) 61)).alloc (.cells (mv b) 61)).alloc (.cells (mv fun _=>false) 61)).heap[w.heap.size+1+1]? =ah (mv fun _=>false) 61:=by(repeat (first|refine dc _ _ _ (by simp only[aP];omega) ?_|exact dr _ _ _ (by first|rfl|simp only[aP])))
 have hb0:ao w (((w.alloc (.cells (mv a) 61)).alloc (.cells (mv b) 61)).alloc (.cells (mv fun _=>false) 61)):=((am _ _).alloc (by simp) _).alloc (by simp only[aP];omega) _;go_enter func83,ntmps83
 go_wp2_with(first
  |(refine aR rfl 61 _ rfl _ rfl _ _ _ _ h1 bQ rfl (a7 _) ?_)
  |(refine aR rfl 61 _ rfl _ rfl _ _ _ _ h2 bQ rfl (a7 _) ?_)
  |(go_at_call 117;refine(rE 118 (fun x y=>x||y) OG (fun _ _=>by simp[go_sem]) a b _).mono ?_;rintro e w' ⟨rfl,hb'⟩;have ho':=ai hb' h3)
  |(refine az rfl 61 _ _ rfl _ _ rfl rfl _ _ (by assumption) (a7 _) (by simp[bP]) (dN _) ?_))
 refine aV (v:= .agg (mv fun i=>(a i||b i)&&decide (i<1440))) ?_ rfl ⟨rfl,?_⟩
 ·exact a8 rfl _ _ (w.heap.size+1+1) _ _ _ _ rfl (aL _ _ _ _ _ _ ho') bQ rfl (a7 _)
 ·exact below_setRow (au hb0 hb') (by omega) _
theorem qy (a b:Nat->Bool)(w:World):
  Calls prog 84 #[.agg (mv a),.agg (mv b)] w fun e w'=>e= .returned (.agg (mv fun i=>(a i&& !b i)&&decide (i<1440)))/\ao w w':=by
 have hz:=eC;have h1:(((w.alloc (.cells (mv a) 61)).alloc (.cells (mv b) 61)).alloc (.cells (mv fun _=>false) 61)).heap[w.heap.size]? =ah (mv a) 61:=by(repeat (first|refine dc _ _ _ (by simp only[aP];omega) ?_|exact dr _ _ _ (by first|rfl|simp only[aP])))
 have h2:(((w.alloc (.cells (mv a) 61)).alloc (.cells (mv b) 61)).alloc (.cells (mv fun _=>false) 61)).heap[w.heap.size+1]? =ah (mv b) 61:=by(repeat (first|refine dc _ _ _ (by simp only[aP];omega) ?_|exact dr _ _ _ (by first|rfl|simp only[aP])))
 have h3:(((w.alloc (.cells (mv a) 61)).alloc (.cells (mv b) 61)).alloc (.cells (mv fun _=>false) 61)).heap[w.heap.size+1+1]? =ah (mv fun _=>false) 61:=by(repeat (first|refine dc _ _ _ (by simp only[aP];omega) ?_|exact dr _ _ _ (by first|rfl|simp only[aP])))
 have hb0:ao w (((w.alloc (.cells (mv a) 61)).alloc (.cells (mv b) 61)).alloc (.cells (mv fun _=>false) 61)):=((am _ _).alloc (by simp) _).alloc (by simp only[aP];omega) _;go_enter func84,ntmps84
 go_wp2_with(first
  |(refine aR rfl 61 _ rfl _ rfl _ _ _ _ h1 bQ rfl (a7 _) ?_)
  |(refine aR rfl 61 _ rfl _ rfl _ _ _ _ h2 bQ rfl (a7 _) ?_)
  |(go_at_call 117;refine(rE 119 (fun x y=>x&& !y) MR (fun _ _=>by simp[go_sem]) a b _).mono ?_;rintro e w' ⟨rfl,hb'⟩;have ho':=ai hb' h3)
  |(refine az rfl 61 _ _ rfl _ _ rfl rfl _ _ (by assumption) (a7 _) (by simp[bP]) (dN _) ?_))
 refine aV (v:= .agg (mv fun i=>(a i&& !b i)&&decide (i<1440))) ?_ rfl ⟨rfl,?_⟩
 ·exact a8 rfl _ _ (w.heap.size+1+1) _ _ _ _ rfl (aL _ _ _ _ _ _ ho') bQ rfl (a7 _)
 ·exact below_setRow (au hb0 hb') (by omega) _
theorem BZ (a b:Nat->Bool)(w:World):
  Calls prog 85 #[.agg (mv a),.agg (mv b)] w fun e w'=>e= .returned (.agg (mv fun i=>(a i&&b i)&&decide (i<1440)))/\ao w w':=by
 have hz:=eC;have h1:(((w.alloc (.cells (mv a) 61)).alloc (.cells (mv b) 61)).alloc (.cells (mv fun _=>false) 61)).heap[w.heap.size]? =ah (mv a) 61:=by(repeat (first|refine dc _ _ _ (by simp only[aP];omega) ?_|exact dr _ _ _ (by first|rfl|simp only[aP])))
 have h2:(((w.alloc (.cells (mv a) 61)).alloc (.cells (mv b) 61)).alloc (.cells (mv fun _=>false) 61)).heap[w.heap.size+1]? =ah (mv b) 61:=by(repeat (first|refine dc _ _ _ (by simp only[aP];omega) ?_|exact dr _ _ _ (by first|rfl|simp only[aP])))
 have h3:(((w.alloc (.cells (mv a) 61)).alloc (.cells (mv b) 61)).alloc (.cells (mv fun _=>false) 61)).heap[w.heap.size+1+1]? =ah (mv fun _=>false) 61:=by(repeat (first|refine dc _ _ _ (by simp only[aP];omega) ?_|exact dr _ _ _ (by first|rfl|simp only[aP])))
 have hb0:ao w (((w.alloc (.cells (mv a) 61)).alloc (.cells (mv b) 61)).alloc (.cells (mv fun _=>false) 61)):=((am _ _).alloc (by simp) _).alloc (by simp only[aP];omega) _;go_enter func85,ntmps85
 go_wp2_with(first
  |(refine aR rfl 61 _ rfl _ rfl _ _ _ _ h1 bQ rfl (a7 _) ?_)
  |(refine aR rfl 61 _ rfl _ rfl _ _ _ _ h2 bQ rfl (a7 _) ?_)
  |(go_at_call 117;refine(rE 120 (fun x y=>x&&y) MP (fun _ _=>by simp[go_sem]) a b _).mono ?_;rintro e w' ⟨rfl,hb'⟩;have ho':=ai hb' h3)
  |(refine az rfl 61 _ _ rfl _ _ rfl rfl _ _ (by assumption) (a7 _) (by simp[bP]) (dN _) ?_))
 refine aV (v:= .agg (mv fun i=>(a i&&b i)&&decide (i<1440))) ?_ rfl ⟨rfl,?_⟩
 ·exact a8 rfl _ _ (w.heap.size+1+1) _ _ _ _ rfl (aL _ _ _ _ _ _ ho') bQ rfl (a7 _)
 ·exact below_setRow (au hb0 hb') (by omega) _
end
theorem qp {v v':Value}(h:v=v'):Ending.returned v= .returned v':=by rw[h]
theorem rT {k:IntKind}{a b:Int}(h:a=b):Value.int k a= .int k b:=by rw[h]
theorem Kr (n:Nat)(hn:n<=64):IntKind.u64.wrap (IntKind.u64.wrap (2^n)-1)=((2^n-1:Nat):Int):=by
 rw[eB,eB];have hp:(1:Nat)<=2^n:=Nat.two_pow_pos n;have hc:((2:Int)^n)=((2^n:Nat):Int):=by simp
 rw[hc];by_cases h:n=64
 ·subst h;decide
 ·have hl:2^n<=2^63:=Nat.pow_le_pow_right (by omega) (by omega);generalize 2^n=p at*;omega
theorem Ks (n:Nat)(hn:n<=64)(w:World):Calls prog 153 #[ag n] w fun e w'=>e= .returned (.int .u64 ((2^n-1:Nat):Int))/\w'=w:=by
 go_enter func153,ntmps153;go_wp2;go_ret;exact⟨qp (rT (Kr n hn)),rfl⟩
theorem yY (d:Int)(h0:0<=d)(h1:d<=64)(w:World):Calls prog 153 #[ag d] w fun e w'=>e= .returned (.int .u64 ((2^d.toNat-1:Nat):Int))/\w'=w:=by
 have:=Ks d.toNat (by omega) w;rw[Int.toNat_of_nonneg h0]at this;exact this
theorem vG (n:Nat)(hn:n<=1440)(w:World):Calls prog 152 #[ag n] w fun e w'=>e= .returned (ag ((64*(n/64)+64:Nat):Int))/\w'=w:=by
 go_enter func152,ntmps152;go_wp2;go_ret;exact⟨qp (rT (by omega)),rfl⟩
theorem v7 (a b:Nat)(ha:a<9223372036854775808)(hb:b<9223372036854775808):
  bits .and .i64 (a:Int) (b:Int)=((a&&&b:Nat):Int):=by
 have hx:a&&&b<2^63:=Nat.and_lt_two_pow _ (by omega)
 have h1:(BitVec.ofInt 64 (a:Int)).toNat=a:=by
  rw[BitVec.ofInt_natCast,BitVec.toNat_ofNat];exact Nat.mod_eq_of_lt (by omega)
 have h2:(BitVec.ofInt 64 (b:Int)).toNat=b:=by
  rw[BitVec.ofInt_natCast,BitVec.toNat_ofNat];exact Nat.mod_eq_of_lt (by omega)
 show IntKind.i64.wrap ((BitVec.ofInt 64 (a:Int)&&&BitVec.ofInt 64 (b:Int)).toNat:Int)=_;rw[BitVec.toNat_and,h1,h2,bz];omega
theorem Hv (x:Nat)(hx:x<18446744073709551616): ∃y z d a b c:Nat,c<9223372036854775808/\
  IntKind.u64.wrap (bits .and .u64 ((x:Int)/2) 6148914691236517205+bits .and .u64 (x:Int) 6148914691236517205)=(y:Int)/\
  IntKind.u64.wrap (bits .and .u64 ((y:Int)/4) 3689348814741910323+bits .and .u64 (y:Int) 3689348814741910323)=(z:Int)/\
  bits .and .u64 (IntKind.u64.wrap ((z:Int)/16+(z:Int))) 1085102592571150095=(d:Int)/\
  IntKind.u64.wrap ((d:Int)+(d:Int)/256)=(a:Int)/\IntKind.u64.wrap ((a:Int)+(a:Int)/65536)=(b:Int)/\
  IntKind.u64.wrap ((b:Int)+(b:Int)/4294967296)=(c:Int)/\bits .and .i64 (c:Int) 127=((cnt (fun j=>x.testBit j) 64:Nat):Int):=by
 obtain⟨e1,h1,t1,r1⟩:=ML x hx;obtain⟨e2,h2,t2,r2⟩:=MM e1 h1;obtain⟨e3,h3,t3,l3,r3⟩:=Ht e2 h2;obtain⟨a,b,c,ha,la,hb,lb,hc,lc,hs⟩:=Kq e3 h3;have ly:dig e1 2 32<2^(2*32):=BV e1 2 32 fun i _=>by have:=h1 i;omega
 simp only[Nat.reduceMul,Nat.reducePow]at ly;rw[t3,t2,t1]at hs;clear t1 t2 t3 h1 h2 h3;generalize dig e1 2 32=y at*;generalize dig e2 4 16=z at*;generalize dig e3 8 8=d at*;have lz:z<18446744073709551616:=by omega
 have q1:=bits_and_u64_nat (x/2) 6148914691236517205 (by omega) (by omega);have q2:=bits_and_u64_nat x 6148914691236517205 hx (by omega);have q3:=bits_and_u64_nat (y/4) 3689348814741910323 (by omega) (by omega);have q4:=bits_and_u64_nat y 3689348814741910323 ly (by omega);have q5:=bits_and_u64_nat (z/16+z) 1085102592571150095 l3 (by omega);have q6:=v7 c 127 lc (by omega);have q7:c&&&127=c%128:=Nat.and_two_pow_sub_one_eq_mod c 7;refine⟨y,z,d,a,b,c,lc,?_,?_,?_,?_,?_,?_,?_⟩
 ·have e:((x/2:Nat):Int)=(x:Int)/2:=by omega
  have e':((6148914691236517205:Nat):Int)=6148914691236517205:=rfl;rw[e,e']at q1;rw[e']at q2;rw[q1,q2,eB];omega
 ·have e:((y/4:Nat):Int)=(y:Int)/4:=by omega
  have e':((3689348814741910323:Nat):Int)=3689348814741910323:=rfl;rw[e,e']at q3;rw[e']at q4;rw[q3,q4,eB];omega
 ·have e:IntKind.u64.wrap ((z:Int)/16+(z:Int))=((z/16+z:Nat):Int):=by rw[eB];omega
  have e':((1085102592571150095:Nat):Int)=1085102592571150095:=rfl;rw[e']at q5;rw[e,q5,r3]
 ·rw[eB];omega
 ·rw[eB];omega
 ·rw[eB];omega
 ·have e':((127:Nat):Int)=127:=rfl;rw[e']at q6;rw[q6,q7,hs]
theorem MS (x:Nat)(hx:x<18446744073709551616)(w:World):Calls prog 31 #[.int .u64 x] w fun e w'=>e= .returned (ag ((cnt (fun j=>x.testBit j) 64:Nat):Int))/\w'=w:=by
 obtain⟨y,z,d,a,b,c,lc,s1,s2,s3,s4,s5,s6,s7⟩:=Hv x hx;generalize cnt (fun j=>x.testBit j) 64=n at*;go_enter func31,ntmps31;go_wp2;go_ret;exact⟨rfl,rfl⟩
def Tab (w:World):Prop:= ∀j,j<64->w.cell? (ae 4 j)=some (.int .u8 ((Lib.deBruijn64tab.getD j 0:Nat):Int))
theorem Tab.later {w w':World}(h:Tab w)(hb:ao w w'):Tab w':=fun j hj=>(hb.cell (bJ (h j hj))).trans (h j hj)
theorem OH (x a:Nat)(hx:x<18446744073709551616)(hx0:x≠0)(hlow:x&&&(18446744073709551616-x)=a):
  IntKind.u64.wrap (bits BinOp.and IntKind.u64 (x:Int) (IntKind.u64.wrap (-(x:Int)))*285870213051353865)/288230376151711744=((a*285870213051353865%18446744073709551616/288230376151711744:Nat):Int):=by
 have e1:IntKind.u64.wrap (-(x:Int))=((18446744073709551616-x:Nat):Int):=by rw[eB];omega
 rw[e1,bits_and_u64_nat x _ hx (by omega),hlow,eB];omega
theorem MT (x k idx:Nat)(w:World)(hx0:((x:Int)==0)=false)
  (key:IntKind.u64.wrap (bits BinOp.and IntKind.u64 (x:Int) (IntKind.u64.wrap (-(x:Int)))*285870213051353865)/288230376151711744=(idx:Int))
  (hi:idx<64) (hk:k<64) (hcell:w.cell? (ae 4 idx)=some (.int .u8 k)):
  Calls prog 192 #[.int .u64 x] w fun e w'=>e= .returned (ag k)/\w'=w:=by
 go_enter func192,ntmps192;go_wp2_with(simp only[key])
 go_ret;exact⟨rfl,rfl⟩
theorem OI (x:Nat)(hx:x<18446744073709551616)(hx0:x≠0)(w:World)(hT:Tab w):
  ∃k:Nat,k<64/\x.testBit k=true/\(∀j,j<k->x.testBit j=false)/\Calls prog 192 #[.int .u64 x] w fun e w'=>e= .returned (ag k)/\w'=w:=by
 obtain⟨hlow,hk⟩:=Lib.lowest_bit 64 x hx0 hx;obtain⟨hi,htab⟩:=Lib.deBruijn64_at _ hk;have hcell:=hT _ hi;rw[htab]at hcell
 have hb: ∀j,j<=Lib.ctz 64 x->x.testBit j=decide (j=Lib.ctz 64 x):=by
  obtain⟨m,hm,hlt⟩:=Lib.ctzFrom_spec 64 x (by omega) hx;have e:Lib.ctz 64 x=Lib.ctzFrom 64 x:=(by simp[Lib.ctz,hx0]);rw[e];clear hcell htab hi hlow hk e;generalize Lib.ctzFrom 64 x=k at*;intro j hj;rw[hm,Nat.mul_comm,Nat.testBit_mul_two_pow];by_cases hjk:j=k
  ·subst hjk;simp
  ·have: ¬k<=j:=(by omega);simp[this,hjk]
 exact⟨_,hk,by rw[hb _ (aA _)];simp,fun j hj=>by rw[hb _ (by omega)];simp;omega,MT x _ _ w (by simp;omega) (OH x _ hx hx0 hlow) hi hk hcell⟩
theorem OJ (f:Nat->Bool)(by' i q r:Nat)(hq:q=by'/64)(hr:r=by'%64)(hi:q<=i):
  IntKind.u64.wrap ((wd f (i-q):Int)*2^r)=((wd (fun t=>decide (by'<=t)&&decide (64*(i-q)<=t-by')&&f (t-by')) i:Nat):Int):=by
 have e1:wd (fun t=>decide (by'<=t)&&decide (64*(i-q)<=t-by')&&f (t-by')) i=wd f (i-q)*2^r%18446744073709551616:=by
  symm;refine mX _ _ _ (Nat.mod_lt _ (by omega)) fun j hj=> ?_;rw[yV _ _ j hj,ja];by_cases h:r<=j
  ·have a1:by'<=64*i+j:=(by omega);have a2:64*(i-q)<=64*i+j-by':=(by omega);have a3:64*(i-q)+(j-r)=64*i+j-by':=(by omega);have a4:j-r<64:=(by omega);simp[h,a1,a2,a3,a4]
  ·by_cases a1:by'<=64*i+j
   ·have a2: ¬64*(i-q)<=64*i+j-by':=(by omega);simp[h,a2]
   ·simp[h,a1]
 rw[eB,e1];have:((2:Int)^r)=((2^r:Nat):Int):=by simp
 rw[this];omega
theorem OK (f:Nat->Bool)(by' i q r:Nat)(hq:q=by'/64)(hr:r=by'%64)(hi:q<i):
  ((wd (fun t=>decide (by'<=t)&&decide (64*(i-q)<=t-by')&&f (t-by')) i|||wd f (i-q-1)/2^(64-r):Nat))=wd (fun t=>decide (by'<=t)&&f (t-by')) i:=by
 have l1:=gO f (i-q-1);have l2:wd f (i-q-1)/2^(64-r)<=wd f (i-q-1):=Nat.div_le_self _ _;refine mX _ _ _ (show _<2^64 from Nat.or_lt_two_pow (gO _ _) (by omega)) fun j hj=> ?_;rw[Nat.testBit_or,ja,uG,ja];have a1:by'<=64*i+j:=by omega
 by_cases h:r<=j
 ·have a2:64*(i-q)<=64*i+j-by':=by omega
  have a4: ¬j+(64-r)<64:=(by omega);simp[hj,a1,a2,a4]
 ·have a2: ¬64*(i-q)<=64*i+j-by':=by omega
  have a3:64*(i-q-1)+(j+(64-r))=64*i+j-by':=(by omega);have a4:j+(64-r)<64:=(by omega);simp[hj,a1,a2,a3,a4]
theorem Kt (f:Nat->Bool)(by' i q r:Nat)(hq:q=by'/64)(hr:r=by'%64)(hi:q<=i):
  wd f i/2^r=wd (fun t=>decide (t+by'<64*(i+1))&&f (t+by')) (i-q):=by
 have l2:wd f i/2^r<=wd f i:=Nat.div_le_self _ _;have l1:=gO f i;refine mX _ _ _ (by omega) fun j hj=> ?_;rw[uG,ja];by_cases h:j+r<64
 ·have a1:64*(i-q)+j+by'<64*(i+1):=by omega
  have a2:64*i+(j+r)=64*(i-q)+j+by':=(by omega);simp[h,a1,a2]
 ·have a1: ¬64*(i-q)+j+by'<64*(i+1):=by omega
  simp[h,a1]
theorem Ku (f:Nat->Bool)(by' i q r:Nat)(hq:q=by'/64)(hr:r=by'%64)(hi:q<=i):
  bits .or .u64 (wd (fun t=>decide (t+by'<64*(i+1))&&f (t+by')) (i-q):Int) (IntKind.u64.wrap ((wd f (i+1):Int)*2^(64-r)))=((wd (fun t=>f (t+by')) (i-q):Nat):Int):=by
 have e1:IntKind.u64.wrap ((wd f (i+1):Int)*2^(64-r))=((wd (fun t=> !decide (t+by'<64*(i+1))&&f (t+by')) (i-q):Nat):Int):=by
  have e2:wd (fun t=> !decide (t+by'<64*(i+1))&&f (t+by')) (i-q)=wd f (i+1)*2^(64-r)%18446744073709551616:=by
   symm;refine mX _ _ _ (Nat.mod_lt _ (by omega)) fun j hj=> ?_;rw[yV _ _ j hj,ja];by_cases h:64-r<=j
   ·have a1: ¬64*(i-q)+j+by'<64*(i+1):=(by omega);have a2:64*(i+1)+(j-(64-r))=64*(i-q)+j+by':=(by omega);have a3:j-(64-r)<64:=(by omega);simp[h,a1,a2,a3]
   ·have a1:64*(i-q)+j+by'<64*(i+1):=(by omega);simp[h,a1]
  rw[eB,e2];have:((2:Int)^(64-r))=((2^(64-r):Nat):Int):=(by simp);rw[this];omega
 rw[e1,bits_or_u64_nat _ _ (gO _ _) (gO _ _),BH]
 have e3:wd (fun t=>(decide (t+by'<64*(i+1))&&f (t+by'))||(!decide (t+by'<64*(i+1))&&f (t+by'))) (i-q)=wd (fun t=>f (t+by')) (i-q):=mY fun j _=>by
  cases decide (64*(i-q)+j+by'<64*(i+1))<;>simp
 rw[e3]
theorem EI (f:Nat->Bool)(b i q r d:Nat)(hq:q=b/64)(hr:r=b%64)(hd:i=q+d):
  IntKind.u64.wrap ((wd f d:Int)*2^r)=((wd (fun t=>decide (b<=t)&&decide (64*d<=t-b)&&f (t-b)) i:Nat):Int):=by
 have:=OJ f b i q r hq hr (by omega);have e:i-q=d:=by omega
 rw[e]at this;exact this
theorem MU (f:Nat->Bool)(b q r:Nat)(hq:q=b/64)(hr:r=b%64):
  IntKind.u64.wrap ((wd f 0:Int)*2^r)=((wd (fun t=>decide (b<=t)&&f (t-b)) q:Nat):Int):=by
 rw[EI f b q q r 0 hq hr rfl];have e3:wd (fun t=>decide (b<=t)&&decide (64*0<=t-b)&&f (t-b)) q=wd (fun t=>decide (b<=t)&&f (t-b)) q:=mY fun j _=>by simp
 rw[e3]
theorem MV (f:Nat->Bool)(b i q r d:Nat)(hq:q=b/64)(hr:r=b%64)(hd:i=q+(d+1)):
  bits .or .u64 (wd (fun t=>decide (b<=t)&&decide (64*(d+1)<=t-b)&&f (t-b)) i:Int) ((wd f d:Int)/2^(64-r))=((wd (fun t=>decide (b<=t)&&f (t-b)) i:Nat):Int):=by
 have:=OK f b i q r hq hr (by omega);have e:i-q=d+1:=by omega
 rw[e]at this;have e2:((wd f d:Int)/2^(64-r))=((wd f d/2^(64-r):Nat):Int):=by simp
 have l2:wd f d/2^(64-r)<=wd f d:=Nat.div_le_self _ _;have l1:=gO f d;rw[e2,bits_or_u64_nat _ _ (gO _ _) (by omega)];exact congrArg _ this
theorem Af (f:Nat->Bool)(b i q r d:Nat)(hq:q=b/64)(hr:r=b%64)(hd:i=q+d):
  (wd f i:Int)/2^r=((wd (fun t=>decide (t+b<64*(i+1))&&f (t+b)) d:Nat):Int):=by
 have:=Kt f b i q r hq hr (by omega);have e:i-q=d:=by omega
 rw[e]at this;rw[<-this];simp
theorem Hy (f:Nat->Bool)(b i q r d:Nat)(hq:q=b/64)(hr:r=b%64)(hd:i=q+d)(hi:i<22):
  bits .or .u64 (wd (fun t=>decide (t+b<64*(i+1))&&f (t+b)) d:Int) (IntKind.u64.wrap ((wd f (i+1):Int)*2^(64-r)))=((wd (fun t=>decide (t+b<1472)&&f (t+b)) d:Nat):Int):=by
 have:=Ku f b i q r hq hr (by omega);have e:i-q=d:=by omega
 rw[e]at this;rw[this]
 have e3:wd (fun t=>f (t+b)) d=wd (fun t=>decide (t+b<1472)&&f (t+b)) d:=mY fun j _=>by
  have:64*d+j+b<1472:=(by omega);simp[this]
 rw[e3]
theorem B0 (k:Nat)(hk:k<23)(h:Nat->Bool)(v:Value):((mv fun i=>decide (i<64*k)&&h i).setIfInBounds k v).setIfInBounds k (.int .u64 (wd h k:Int))=mv fun i=>decide (i<64*(k+1))&&h i:=by
 rw[Array.setIfInBounds_setIfInBounds];exact uI k hk h
theorem Kv (f:Nat->Bool)(b q:Nat)(hq:q=b/64):mv (fun _=>false)=mv (fun t=>decide (t<64*q)&&(decide (b<=t)&&f (t-b))):=jb fun t _=>by
 by_cases h:t<64*q
 ·have: ¬b<=t:=by omega
  simp[this]
 ·simp[h]
theorem Hz (f:Nat->Bool)(b:Nat)(hb:b<1440)(w:World):
  Calls prog 122 #[.agg (mv f),ag b] w fun e w'=>e= .returned (.agg (mv fun t=>decide (b<=t)&&f (t-b)))/\ao w w':=by
 have hz:=eC;obtain⟨q,hq⟩: ∃q:Nat,q=b/64:=⟨_,rfl⟩
 obtain⟨r,hr⟩: ∃r:Nat,r=b%64:=⟨_,rfl⟩
 have HQ:RJ (q=b/64):=hq;have HR:RJ (r=b%64):=hr;have t1:(b:Int)/64=(q:Int):=by omega
 have t2:(b:Int)%64=(r:Int):=by omega
 have hq23:q<23:=by omega
 have hr64:r<64:=by omega
 clear hq hr;go_enter func122,ntmps122;go_wp2
 go_loopw [8] (fun i wr=> ∃k d:Nat,k<=23/\k=q+d/\i=ag k/\wr.heap[w.heap.size]? =ah (mv f) 61/\wr.heap[w.heap.size+1]? =ah (mv fun _=>false) 61/\
  wr.heap[w.heap.size+1+1]? =ah (mv fun t=>decide (t<64*k)&&(decide (b<=t)&&f (t-b))) 61/\ao w wr) (fun i _=>23-(intOf i).toNat)
 case atStart=>
  refine⟨q,0,by omega,rfl,rfl,?_,?_,?_,?_⟩
  ·(repeat (first|refine dc _ _ _ (by simp only[aP];omega) ?_|exact dr _ _ _ (by first|rfl|simp only[aP])))
  ·(repeat (first|refine dc _ _ _ (by simp only[aP];omega) ?_|exact dr _ _ _ (by first|rfl|simp only[aP])))
  ·refine iS ?_ (Kv f b q HQ.o);(repeat (first|refine dc _ _ _ (by simp only[aP];omega) ?_|exact dr _ _ _ (by first|rfl|simp only[aP])))
  ·exact((am _ _).alloc (by simp) _).alloc (by simp only[aP];omega) _
 case round=>
  obtain⟨k,d,hk,hkd,rfl,ha,ho,hm,hbel⟩:=hrel;have HD:RJ (k=q+d):=hkd;by_cases hlt:k<23
  ·have ca:=kM ha d (by omega);have cm:=kM hm k hlt;have fm:=bl _ _ k _ _ hm;have e1:(k:Int)-(q:Int)=(d:Int):=(by omega);have hi0:(0:Int)<=(d:Int):=(by omega);have hi1:(d:Int)<23:=(by omega);by_cases hd0:d=0
   ·subst hd0;have p1:=MU f b q r HQ.o HR.o;have hkq:k=q:=hkd;subst hkq;clear hkd;go_wp2;go_roundw
    case rel=>
     refine⟨k+1,1,by omega,rfl,by go_num,?_,?_,?_,hbel.setCell (by dsimp only;omega) _⟩
     ·exact(aM _ _ _ _ (by dsimp only;omega)).trans ha
     ·exact(aM _ _ _ _ (by dsimp only;omega)).trans ho
     ·exact iS (aW _ _ _ _ _ _ hm) (uI k hlt fun t=>decide (b<=t)&&f (t-b))
    case measure=>simp[intOf];omega
   ·obtain⟨c,hc⟩: ∃c,d=c+1:=⟨d-1,by omega⟩
    have p1:=EI f b k q r d HQ.o HR.o hkd;have p2:=MV f b k q r c HQ.o HR.o (by omega);rw[<-hc]at p2;have e2:(d:Int)-1=(c:Int):=(by omega);have e3:IntKind.i64.wrap ((k:Int)-(q:Int))=(d:Int):=(by rw[bz];omega);have e4:IntKind.i64.wrap ((d:Int)-1)=(c:Int):=(by rw[bz];omega);have e5:IntKind.i64.wrap (64-(r:Int))=64-(r:Int):=(by rw[bz];omega);have e6:(64-(r:Int)).toNat=64-r:=(by omega);have e7:(0:Int)<=64-(r:Int):=(by omega);have j0:(0:Int)<=(c:Int):=(by omega);have j1:(c:Int)<23:=(by omega);have cc:=kM ha c (by omega);have hgt:(q:Int)<(k:Int):=(by omega);generalize (fun t=>decide (b<=t)&&decide (64*d<=t-b)&&f (t-b))=G1 at p1 p2;have c1:(wr.setCell ⟨w.heap.size+1+1,k,none⟩ (.int .u64 (wd G1 k:Int))).cell? (ae w.heap.size c)=some (.int .u64 (wd f c:Int)):=(tF _ _ _ _ (by dsimp only;omega)).trans cc;have hm2:=aW _ _ k _ _ (.int .u64 (wd G1 k:Int)) hm
    have c2:(wr.setCell ⟨w.heap.size+1+1,k,none⟩ (.int .u64 (wd G1 k:Int))).cell? (ae (w.heap.size+1+1) k)=some (.int .u64 (wd G1 k:Int)):=by
     rw[aX _ _ k _ _ _ hm2];simp[bP,hlt]
    have f2:=bl _ _ k _ _ hm2;have HM2:RJ ((wr.setCell ⟨w.heap.size+1+1,k,none⟩ (.int .u64 (wd G1 k:Int))).heap[w.heap.size+1+1]? =ah ((mv fun t=>decide (t<64*k)&&(decide (b<=t)&&f (t-b))).setIfInBounds k (.int .u64 (wd G1 k:Int))) 61):=hm2;clear hm2 hkd hc;go_wp2;go_region;go_wp2;go_roundw
    case rel=>
     have hD:=HD.o;refine⟨k+1,d+1,by omega,by omega,by go_num,?_,?_,?_,((hbel.setCell (by dsimp only;omega) _).setCell (by dsimp only;omega) _).drew⟩
     ·exact((aM _ _ _ _ (by dsimp only;omega)).trans (aM _ _ _ _ (by dsimp only;omega))).trans ha
     ·exact((aM _ _ _ _ (by dsimp only;omega)).trans (aM _ _ _ _ (by dsimp only;omega))).trans ho
     ·exact iS (aW _ _ _ _ _ _ HM2.o) (B0 k hlt (fun t=>decide (b<=t)&&f (t-b)) _)
    case measure=>simp[intOf];omega
  ·have hk23:k=23:=(by omega);subst hk23;have hm':=iS hm (EH _);clear hm HD hkd
   go_wp2_with(first
    |(refine aR rfl 61 _ rfl _ rfl _ _ _ _ hm' bQ rfl (a7 _) ?_)
    |(refine az rfl 61 _ _ rfl _ _ rfl rfl _ _ ho (a7 _) (by simp[bP]) (dN _) ?_))
   refine aV (v:= .agg (mv fun t=>decide (b<=t)&&f (t-b))) ?_ rfl ⟨rfl,?_⟩
   ·exact a8 rfl _ _ (w.heap.size+1) _ _ _ _ rfl (aL _ _ _ _ _ _ ho) bQ rfl (a7 _)
   ·exact below_setRow hbel (by omega) _
end Go.Proofs.YtjkilacmkbmmbaaGreatDoor
