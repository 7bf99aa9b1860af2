/-
  Plain facts about the spans of a mask, that speak of no program: minute by minute, and span by span.
-/
import Derived.Test.YtpmobjgnmidolaaDoorDt01
import Derived.Test.YtpmobjgnmidolaaDoorDt02
import Derived.Deep.RegionHeld3
import Derived.Deep.DrawnRows
import Derived.Below
import Derived.Laws.EntriesVeiled
import Derived.Deep.OwnRows
namespace Msk
def rs (f:Nat→Bool):Nat→List (Int×Int)
 |0=>[]
 |n+1=>if f n then(if n≠0∧f (n-1)=true then(rs f n).dropLast++[(((rs f n).getLastD (0,0)).1,(n:Int)+1)] else rs f n++[((n:Int),(n:Int)+1)]) else rs f n
theorem rs_skip (f:Nat→Bool)(n:Nat): ∀k,(∀i,n≤i→i<n+k→f i=false)→rs f (n+k)=rs f n
 |0,_=>rfl
 |k+1,h=>by
  have ih:=rs_skip f n k fun i a b=>h i a (by omega);have e:f (n+k)=false:=h _ (by omega) (by omega);rw[←Nat.add_assoc,rs,ih,e];simp
theorem rs_run (f:Nat→Bool)(a:Nat)(h0:a=0∨f (a-1)=false): ∀k,(∀i,a≤i→i<a+(k+1)→f i=true)→rs f (a+(k+1))=rs f a++[((a:Int),((a+(k+1):Nat):Int))]
 |0,h=>by
  have e:f a=true:=h a (by omega) (by omega);rw[Nat.zero_add,rs,e]
  have: ¬(a≠0∧f (a-1)=true):=by
   rintro⟨h1,h2⟩;rcases h0 with h0|h0
   ·exact h1 h0
   ·rw[h0]at h2;cases h2
  rw[if_pos rfl,if_neg this];simp
 |k+1,h=>by
  have ih:=rs_run f a h0 k fun i x y=>h i x (by omega);have e:f (a+(k+1))=true:=h _ (by omega) (by omega);have e2:f (a+(k+1)-1)=true:=h _ (by omega) (by omega);rw[←Nat.add_assoc a (k+1) 1,rs,ih,e,if_pos rfl,if_pos ⟨by omega,e2⟩];simp
theorem rs_next (f:Nat→Bool)(p a b:Nat)(h1:p≤a)(h2:a<b)(hp:p=0∨f p=false)(hno: ∀i,p≤i→i<a→f i=false)(hyes: ∀i,a≤i→i<b→f i=true):
  rs f b=rs f p++[((a:Int),(b:Int))]:=by
 have e1:rs f a=rs f p:=by
  have:=rs_skip f p (a-p) fun i x y=>hno i x (by omega);rw[Nat.add_sub_cancel' h1]at this;exact this
 have h0:a=0∨f (a-1)=false:=by
  by_cases ha:a=0
  ·exact .inl ha
  ·right;by_cases hpa:p=a
   ·subst hpa;rcases hp with hp|hp
    ·exact absurd hp ha
    ·have:=hyes p (by omega) h2;rw[hp]at this;cases this
   ·exact hno _ (by omega) (by omega)
 obtain⟨k,rfl⟩: ∃k,b=a+(k+1):=⟨b-a-1,by omega⟩
 rw[rs_run f a h0 k hyes,e1]
theorem rs_end (f:Nat→Bool)(p n:Nat)(h:p≤n)(hno: ∀i,p≤i→i<n→f i=false):rs f n=rs f p:=by
 have:=rs_skip f p (n-p) fun i x y=>hno i x (by omega);rw[Nat.add_sub_cancel' h]at this;exact this
def good (last:Int)(n:Int):List (Int×Int)→Prop
 |[]=>True
 |s::l=>last<s.1∧s.1<s.2∧s.2≤n∧good s.2 n l
def endOf (last:Int):List (Int×Int)→Int
 |[]=>last
 |s::l=>endOf s.2 l
theorem good_snoc (n a b:Int)(hb:b≤n)(hab:a<b): ∀(l:List (Int×Int)) (last:Int),good last n l→endOf last l<a→good last n (l++[(a,b)])
 |[],_,_,h=>⟨h,hab,hb,trivial⟩
 |s::l,_,⟨h1,h2,h3,h4⟩,h=>⟨h1,h2,h3,good_snoc n a b hb hab l s.2 h4 h⟩
theorem endOf_snoc (a b:Int): ∀(l:List (Int×Int)) (last:Int),endOf last (l++[(a,b)])=b
 |[],_=>rfl
 |_::l,_=>endOf_snoc a b l _
theorem good_mono (n m:Int)(h:n≤m): ∀(l:List (Int×Int)) (last:Int),good last n l→good last m l
 |[],_,_=>trivial
 |_::l,_,⟨h1,h2,h3,h4⟩=>⟨h1,h2,Int.le_trans h3 h,good_mono n m h l _ h4⟩
def len:List (Int×Int)→Int
 |[]=>0
 |s::l=>(s.2-s.1)+len l
theorem len_snoc (a b:Int): ∀l:List (Int×Int),len (l++[(a,b)])=len l+(b-a)
 |[]=>by simp[len]
 |s::l=>by have:=len_snoc a b l;simp only[List.cons_append,len,this];omega
structure Runs (f:Nat→Bool)(n:Nat)(l:List (Int×Int)):Prop where
 good:good (-1) n l
 last:endOf (-1) l≤n
 many:len l=Msk.cnt f n
 has: ∀i,i<n→(l.any fun s=>decide (s.1≤(i:Int))&&decide ((i:Int)<s.2))=f i
 few:l.length≤n
theorem Runs.zero (f:Nat→Bool):Runs f 0 []:=⟨trivial,by simp[endOf],by simp[len,Msk.cnt],fun i hi=>by omega,by simp⟩
theorem Runs.skip {f:Nat→Bool}{n:Nat}{l:List (Int×Int)}(h:Runs f n l)(m:Nat)(hm:n≤m)(hno: ∀i,n≤i→i<m→f i=false):Runs f m l:=by
 refine⟨good_mono _ _ (by omega) _ _ h.good,by have:=h.last;omega,?_,?_,by have:=h.few;omega⟩
 ·have e:m=n+(m-n):=by omega
  rw[h.many,e,cnt_add,cnt_false (f:=fun j=>f (n+j)) fun j hj=>hno _ (by omega) (by omega)];rfl
 ·intro i hi;by_cases hin:i<n
  ·exact h.has i hin
  ·rw[hno i (by omega) hi];have hg:=h.good
   have key: ∀(l:List (Int×Int)) (last:Int),Msk.good last n l→(l.any fun s=>decide (s.1≤(i:Int))&&decide ((i:Int)<s.2))=false:=by
    intro l;induction l with
    |nil=>intro _ _;rfl
    |cons s l ih=>
     intro last hl;obtain⟨h1,h2,h3,h4⟩:=hl;have: ¬(i:Int)<s.2:=(by omega);simp[ih _ h4,this]
   exact key l _ hg
theorem Runs.run {f:Nat→Bool}{a:Nat}{l:List (Int×Int)}(h:Runs f a l)(ha:endOf (-1) l<a)(b:Nat)(hab:a<b)(hyes: ∀i,a≤i→i<b→f i=true):Runs f b (l++[((a:Int),(b:Int))]):=by
 refine⟨good_snoc _ _ _ (by omega) (by omega) _ _ (good_mono _ _ (by omega) _ _ h.good) ha,by rw[endOf_snoc];omega,?_,?_,?_⟩
 ·have e:b=a+(b-a):=by omega
  have q:cnt f b=cnt f a+(b-a):=by
   rw[e,cnt_add,cnt_true (f:=fun j=>f (a+j)) fun j hj=>hyes _ (by omega) (by omega)];omega
  rw[len_snoc,h.many,q];omega
 ·intro i hi;rw[List.any_append];by_cases hia:i<a
  ·rw[h.has i hia];have: ¬(a:Int)≤(i:Int):=(by omega);simp[this]
  ·have h1:(a:Int)≤(i:Int):=(by omega);have h2:(i:Int)<(b:Int):=(by omega);rw[hyes i (by omega) hi];simp[h1,h2]
 ·have:=h.few;simp only[List.length_append,List.length_cons,List.length_nil];omega
structure Seen (f:Nat→Bool)(p:Nat)(l:List (Int×Int)):Prop where
 runs:Runs f p l
 same:l=rs f p
 gap:(p=0∧l=[])∨f p=false∨p=1440
theorem Seen.zero (f:Nat→Bool):Seen f 0 []:=⟨Runs.zero f,rfl,.inl ⟨rfl,rfl⟩⟩
theorem Seen.next {f:Nat→Bool}{p:Nat}{l:List (Int×Int)}(h:Seen f p l)(a b:Nat)(h1:p≤a)(h2:a<b)(h3:b≤1440)(hno: ∀i,p≤i→i<a→f i=false)
  (hyes: ∀i,a≤i→i<b→f i=true) (hb:b<1440→f b=false):Seen f b (l++[((a:Int),(b:Int))]):=by
 have hp0:p=0∨f p=false:=by
  rcases h.gap with⟨g,_⟩|g|g
  ·exact .inl g
  ·exact .inr g
  ·omega
 refine⟨(h.runs.skip a h1 hno).run ?_ b h2 hyes,by rw[h.same,rs_next f p a b h1 h2 hp0 hno hyes],?_⟩
 ·have hl:=h.runs.last;rcases h.gap with⟨_,g⟩|g|g
  ·subst g;simp[endOf];omega
  ·have:a≠p:=fun e=>by
    have:=hyes a (Nat.le_refl _) h2;rw[e,g]at this;cases this
   omega
  ·omega
 ·by_cases h:b=1440
  ·exact .inr (.inr h)
  ·exact .inr (.inl (hb (by omega)))
theorem Seen.all {f:Nat→Bool}{p:Nat}{l:List (Int×Int)}(h:Seen f p l)(hp:p≤1440)(hno: ∀i,p≤i→i<1440→f i=false):l=rs f 1440∧Runs f 1440 l:=
 ⟨by rw[h.same,rs_end f p 1440 hp hno],h.runs.skip 1440 hp hno⟩
end Msk
/- The spans of any mask are as they must be. -/
namespace Msk
theorem run_begin (f:Nat→Bool): ∀m,f m=true→ ∃a,a≤m∧(a=0∨f (a-1)=false)∧ ∀i,a≤i→i≤m→f i=true
 |0,h=>⟨0,Nat.le_refl _,.inl rfl,fun i _ hi=>by rw[show i=0 by omega];exact h⟩
 |m+1,h=>by
  cases hm:f m with
  |false=>exact⟨m+1,Nat.le_refl _,.inr hm,fun i h1 h2=>by rw[show i=m+1 by omega];exact h⟩
  |true=>
   obtain⟨a,h1,h2,h3⟩:=run_begin f m hm;refine⟨a,by omega,h2,fun i hi hi'=> ?_⟩;by_cases e:i=m+1
   ·rw[e];exact h
   ·exact h3 i hi (by omega)
theorem runs_all (f:Nat→Bool): ∀n,Runs f n (rs f n)∧((n=0∨f (n-1)=false)→endOf (-1) (rs f n)<n):=by
 intro n;induction n using Nat.strongRecOn with
 |ind n ih=>
  match n,ih with
  |0,_=>exact⟨Runs.zero f,fun _=>by show(-1:Int)<0;omega⟩
  |m+1,ih=>
   cases hm:f m with
   |false=>
    have e:rs f (m+1)=rs f m:=(by rw[rs,hm];rfl);have h:=(ih m (by omega)).1;rw[e];refine⟨h.skip (m+1) (by omega) fun i h1 h2=>by rw[show i=m by omega];exact hm,fun _=> ?_⟩;have:=h.last;omega
   |true=>
    obtain⟨a,h1,h2,h3⟩:=run_begin f m hm;obtain⟨r1,r2⟩:=ih a (by omega);have e:=rs_run f a h2 (m-a) (fun i q1 q2=>h3 i q1 (by omega));rw[show a+(m-a+1)=m+1 by omega]at e;rw[e];refine⟨r1.run (r2 h2) (m+1) (by omega) (fun i q1 q2=>h3 i q1 (by omega)),fun h=> ?_⟩;rcases h with h|h
    ·omega
    ·rw[show m+1-1=m by omega,hm]at h;cases h
theorem runs_of (f:Nat→Bool)(n:Nat):Runs f n (rs f n):=(runs_all f n).1
end Msk
/- What masks.fill comes to. -/
namespace Go.Proofs.YtpmobjgnmidolaaDoor
open Go.RowKit Msk
theorem fill_word (f:Nat→Bool)(x y:Nat)(h1:x≤y):
  bits .or .u64 (wd f (x/64):Int) (IntKind.u64.wrap (((2^(y-x)-1:Nat):Int)*2^(x%64)))=((wd (fun i=>f i||(decide (x≤i)&&decide (i<y))) (x/64):Nat):Int):=by
 have e:IntKind.u64.wrap (((2^(y-x)-1:Nat):Int)*2^(x%64))=((wd (fun i=>decide (x≤i)&&decide (i<y)) (x/64):Nat):Int):=by
  have e1:wd (fun i=>decide (x≤i)&&decide (i<y)) (x/64)=(2^(y-x)-1)*2^(x%64)%18446744073709551616:=by
   symm;refine wd_eq _ _ _ (Nat.mod_lt _ (by omega)) fun j hj=> ?_;rw[shl_bit _ _ j hj,ones_bit];have q1:(x%64≤j)=(x≤64*(x/64)+j):=(by apply propext;omega);by_cases hr:x%64≤j
   ·have q2:(j-x%64<y-x)=(64*(x/64)+j<y):=(by apply propext;omega);simp only[q1,q2]
   ·have q3: ¬x≤64*(x/64)+j:=(by omega);simp[hr,q3]
  rw[IntKind.wrap_u64,e1];have:((2:Int)^(x%64))=((2^(x%64):Nat):Int):=(by simp);rw[this];omega
 rw[e,bits_or_u64_nat _ _ (wd_lt _ _) (wd_lt _ _),wd_or]
theorem fill_mv (f:Nat→Bool)(x y:Nat)(h1:x≤y)(h2:y≤64*(x/64)+64)(hx:x<1472):
  (mv f).setIfInBounds (x/64) (.int .u64 (bits .or .u64 (wd f (x/64):Int) (IntKind.u64.wrap (((2^(y-x)-1:Nat):Int)*2^(x%64)))))=mv fun i=>f i||(decide (x≤i)&&decide (i<y)):=by
 rw[fill_word f x y h1,mv_set _ _ _ (by omega)];refine mv_ext fun i hi=> ?_;by_cases h:i/64=x/64
 ·rw[if_pos h]
 ·rw[if_neg h];by_cases q:x≤i
  ·have: ¬i<y:=(by omega);simp[this]
  ·simp[q]
theorem fill_start (f:Nat→Bool)(x v:Int)(h:v=max x 0):mv f=mv fun i=>f i||(decide (x≤(i:Int))&&decide ((i:Int)<v)):=mv_ext fun i _=>by
 have: ¬(x≤(i:Int)∧(i:Int)<v):=by omega
 by_cases h1:x≤(i:Int)
 ·have: ¬(i:Int)<v:=by omega
  simp[this]
 ·simp[h1]
theorem fill_step (f:Nat→Bool)(x:Int)(k n:Nat)(h0:x≤k)(hk:k≤n):(mv fun i=>(f i||(decide (x≤(i:Int))&&decide ((i:Int)<(k:Int))))||(decide (k≤i)&&decide (i<n)))=mv fun i=>f i||(decide (x≤(i:Int))&&decide ((i:Int)<(n:Int))):=mv_ext fun i _=>by
 by_cases h1:i<k
 ·have h2: ¬k≤i:=by omega
  have h3:(i:Int)<k:=(by omega);have h4:(i:Int)<n:=(by omega);simp[h2,h3,h4]
 ·have h2:k≤i:=by omega
  have h3: ¬(i:Int)<k:=(by omega);have h4:((i:Int)<n)=(i<n):=(by apply propext;omega);have h5:x≤(i:Int):=(by omega);simp[h2,h3,h5]
theorem fill_put (f:Nat→Bool)(x:Int)(k n q r:Nat)(h0:x≤k)(h1:k≤n)(h2:n≤64*(k/64)+64)(hx:k<1472)(hq:q=k/64)(hr:r=k%64)(d:Nat)(hd:d=n-k)
  (F:Nat→Bool) (hF:F=fun i=>f i||(decide (x≤(i:Int))&&decide ((i:Int)<(k:Int)))):
  (mv F).setIfInBounds q (.int .u64 (bits .or .u64 (wd F q:Int) (IntKind.u64.wrap (((2^d-1:Nat):Int)*2^r))))=mv fun i=>f i||(decide (x≤(i:Int))&&decide ((i:Int)<(n:Int))):=by
 subst hq hr hd;rw[fill_mv F k n h1 h2 hx,hF];exact fill_step f x k n h0 h1
theorem fill_end (f:Nat→Bool)(x y v:Int)(h1:v=max x 0∨(v≤y∧v≤1440))(h2:y≤v∨1440≤v):(mv fun i=>f i||(decide (x≤(i:Int))&&decide ((i:Int)<v)))=mv fun i=>f i||(decide (x≤(i:Int))&&decide ((i:Int)<y)&&decide (i<1440)):=mv_ext fun i _=>by
 congr 1;rw[Bool.eq_iff_iff];simp only[Bool.and_eq_true,decide_eq_true_eq];omega
attribute [local go_sem↓] Go.wp_at_zero Go.wp_at_succ
set_option maxRecDepth 10000 in
set_option maxHeartbeats 4000000 in
theorem fill_any (f:Nat→Bool)(g:Nat)(x y:Int)(w:World)(hg:w.heap[g]? =some (.cells (mv f) 37 (0,0))):
  Calls Tryd.prog 104 #[.pointer (some ⟨g,0,none⟩),.agg #[.int .i64 x,.int .i64 y]] w fun e w'=>e= .returned (.tuple #[])∧
   w'.heap[g]? =some (.cells (mv fun i=>f i||(decide (x≤(i:Int))&&decide ((i:Int)<y)&&decide (i<1440))) 37 (0,0))∧Below g w w':=by
 have hgl:=lt_of_block hg;go_enter Tryd.func104,Tryd.ntmps104;go_wp2;go_region;all_goals go_wp2
 all_goals
  go_loopw [4] (fun i wr=> ∃v:Int,i= .int .i64 v∧0≤v∧x≤v∧(v=max x 0∨(v≤y∧v≤1440))∧wr.heap[g]? =some (.cells (mv fun i=>f i||(decide (x≤(i:Int))&&decide ((i:Int)<v))) 37 (0,0))∧Below g w wr) (fun i _=>(1440-intOf i).toNat)
  case atStart=>
   refine⟨_,rfl,by omega,by omega,.inl (by omega),?_,?_⟩
   ·exact blk_eq (blk_old _ _ _ hgl hg) (fill_start f x _ (by omega))
   ·exact((Below.refl _ _).alloc (Nat.le_of_lt hgl) _).drew
  case round=>
   obtain⟨v,rfl,hv0,hvx,hv,hm,hbel⟩:=hrel
   by_cases hlt:v<y∧v<1440
   ·obtain⟨hl1,hl2⟩:=hlt
    obtain⟨k,rfl⟩: ∃k:Nat,v=k:=⟨v.toNat,by omega⟩
    obtain⟨yn,rfl⟩: ∃yn:Nat,y=yn:=⟨y.toNat,by omega⟩
    generalize hF:(fun i:Nat=>f i||(decide (x≤(i:Int))&&decide ((i:Int)<(k:Int))))=F at hm
    have HF:Hid (F=fun i:Nat=>f i||(decide (x≤(i:Int))&&decide ((i:Int)<(k:Int)))):=hF.symm
    obtain⟨m,hm1⟩: ∃m:Nat,m=64*(k/64)+64:=⟨_,rfl⟩
    have hmk:m≤k+64∧k<m∧m≤1472:=by omega
    have HM:Hid (m=64*(k/64)+64):=hm1
    have cw:=fun w=>wordEnd_any k (by omega) w
    rw[←hm1]at cw
    have HV:Hid ((k:Int)=max x 0∨((k:Int)≤yn∧(k:Int)≤1440)):=hv
    obtain⟨q,hq⟩: ∃q:Nat,q=k/64:=⟨_,rfl⟩
    obtain⟨r,hr⟩: ∃r:Nat,r=k%64:=⟨_,rfl⟩
    have HQ:Hid (q=k/64):=hq
    have HR:Hid (r=k%64):=hr
    have t1:(k:Int)/64=(q:Int):=by omega
    have t2:(k:Int)%64=(r:Int):=by omega
    have t3:(k:Int).tdiv 64=(q:Int):=by rw[Int.tdiv_eq_ediv_of_nonneg (by omega)];exact t1
    have t4:(k:Int).tmod 64=(r:Int):=by rw[Int.tmod_eq_emod_of_nonneg (by omega)];exact t2
    have cm:=cell_mv hm q (by omega)
    have fm:=frozen_of_row _ _ q _ _ hm
    have hi0:(0:Int)≤(q:Int):=by omega
    have hi1:(q:Int)<23:=by omega
    have hr0:(0:Int)≤(r:Int):=by omega
    have hr1:(r:Int)<64:=by omega
    have t5:IntKind.i64.wrap (q:Int)=(q:Int):=by rw[IntKind.wrap_i64];omega
    have t6:IntKind.i64.wrap (r:Int)=(r:Int):=by rw[IntKind.wrap_i64];omega
    have t7:IntKind.i64.wrap ((m:Int)-(k:Int))=(m:Int)-(k:Int):=by rw[IntKind.wrap_i64];omega
    have t8:IntKind.i64.wrap (1440-(k:Int))=1440-(k:Int):=by rw[IntKind.wrap_i64];omega
    clear hv hm1 hq hr hF
    rcases(show(m≤yn∧m≤1440)∨(yn<m∧yn≤1440)∨(1440<m∧1440<yn) from by omega) with hA|hA|hA
    ·first
     |(exfalso;omega)
     |(have t9:IntKind.i64.wrap ((m:Int)-(k:Int))=(m:Int)-(k:Int):=by rw[IntKind.wrap_i64];omega
       go_wp2_with(go_at_call 115;refine(cw _).mono ?_;rintro e w' ⟨rfl,rfl⟩)
       go_region_with ((go_at_call 121;refine(ones_at _ ?_ ?_ _).mono ?_;omega;omega;rintro e w2 ⟨rfl,rfl⟩))
       all_goals
        go_wp2
        go_roundw
        case rel=>
         have hM:=HM.out
         refine⟨m,rfl,by omega,by omega,.inr ⟨by omega,by omega⟩,?_,(hbel.setCell (Nat.le_refl _) _).drew⟩
         refine blk_eq (heap_setCell_same _ _ _ _ _ _ hm) ?_
         exact fill_put f x k m q r hvx (by omega) (by omega) (by omega) HQ.out HR.out _ (by omega) F HF.out
        case measure=>simp[intOf];omega)
    ·first
     |(exfalso;omega)
     |(have t9:IntKind.i64.wrap ((yn:Int)-(k:Int))=(yn:Int)-(k:Int):=by rw[IntKind.wrap_i64];omega
       go_wp2_with(go_at_call 115;refine(cw _).mono ?_;rintro e w' ⟨rfl,rfl⟩)
       go_region_with ((go_at_call 121;refine(ones_at _ ?_ ?_ _).mono ?_;omega;omega;rintro e w2 ⟨rfl,rfl⟩))
       all_goals
        go_wp2
        go_roundw
        case rel=>
         have hM:=HM.out
         refine⟨yn,rfl,by omega,by omega,.inr ⟨by omega,by omega⟩,?_,(hbel.setCell (Nat.le_refl _) _).drew⟩
         refine blk_eq (heap_setCell_same _ _ _ _ _ _ hm) ?_
         exact fill_put f x k yn q r hvx (by omega) (by omega) (by omega) HQ.out HR.out _ (by omega) F HF.out
        case measure=>simp[intOf];omega)
    ·first
     |(exfalso;omega)
     |(have t9:IntKind.i64.wrap ((1440:Int)-(k:Int))=(1440:Int)-(k:Int):=by rw[IntKind.wrap_i64];omega
       go_wp2_with(go_at_call 115;refine(cw _).mono ?_;rintro e w' ⟨rfl,rfl⟩)
       go_region_with ((go_at_call 121;refine(ones_at _ ?_ ?_ _).mono ?_;omega;omega;rintro e w2 ⟨rfl,rfl⟩))
       all_goals
        go_wp2
        go_roundw
        case rel=>
         have hM:=HM.out
         refine⟨1440,rfl,by omega,by omega,.inr ⟨by omega,by omega⟩,?_,(hbel.setCell (Nat.le_refl _) _).drew⟩
         refine blk_eq (heap_setCell_same _ _ _ _ _ _ hm) ?_
         exact fill_put f x k 1440 q r hvx (by omega) (by omega) (by omega) HQ.out HR.out _ (by omega) F HF.out
        case measure=>simp[intOf];omega)
   ·go_wp2
    go_end0
    exact⟨rfl,blk_eq hm (fill_end f x y v hv (by omega)),hbel⟩
end Go.Proofs.YtpmobjgnmidolaaDoor
/- What masks.Of comes to, over a row of spans that lies in memory. -/
namespace Go.Proofs.YtpmobjgnmidolaaDoor
open Go.RowKit Msk
def Row (w:World)(v:Value)(l:List (Int×Int)):Prop:=
 (∃c,v= .slice none 0 c∧l=[])∨ ∃g o c:Nat,v= .slice (some ⟨g,o,none⟩) l.length c∧l.length<9223372036854775808∧ ∀j,j<l.length→w.cell? ⟨g,o+j*2,none⟩=some (.int .i64 (l.getD j (0,0)).1)∧w.cell? ⟨g,o+j*2+1,none⟩=some (.int .i64 (l.getD j (0,0)).2)
theorem Row.later {w w':World}{v:Value}{l:List (Int×Int)}(h:Row w v l)(hb:Below w.heap.size w w'):Row w' v l:=by
 rcases h with h|⟨g,o,c,hv,hl,hc⟩
 ·exact .inl h
 ·refine .inr ⟨g,o,c,hv,hl,fun j hj=> ?_⟩;obtain⟨c1,c2⟩:=hc j hj;exact⟨(hb.cell (block_lt_of_cell c1)).trans c1,(hb.cell (block_lt_of_cell c2)).trans c2⟩
def inl (l:List (Int×Int))(i:Nat):Bool:=l.any fun s=>decide (s.1≤(i:Int))&&decide ((i:Int)<s.2)&&decide (i<1440)
theorem inl_snoc (l:List (Int×Int))(k:Nat)(hk:k<l.length):(mv fun i=>inl (l.take k) i||(decide ((l.getD k (0,0)).1≤(i:Int))&&decide ((i:Int)<(l.getD k (0,0)).2)&&decide (i<1440)))=mv (inl (l.take (k+1))):=by
 have e:l.take (k+1)=l.take k++[l.getD k (0,0)]:=by
  rw[List.take_succ_eq_append_getElem hk];simp[List.getD,hk]
 refine mv_ext fun i _=> ?_;rw[e];simp[inl]
set_option maxHeartbeats 1000000 in
theorem of_any (v:Value)(l:List (Int×Int))(w:World)(hl:Row w v l):
  Calls Tryd.prog 76 #[v] w fun e w'=>e= .returned (.agg (mv (inl l)))∧Below w.heap.size w w':=by
 have hz:=mv_lit;have h1:((w.alloc (.cells (mv fun _=>false) 37)).alloc (.cells (mv fun _=>false) 37)).heap[w.heap.size]? =some (.cells (mv fun _=>false) 37 (0,0)):=by (repeat (first | refine blk_old _ _ _ (by simp only [size_alloc]; omega) ?_ | exact blk_new _ _ _ (by first | rfl | simp only [size_alloc])))
 have h2:((w.alloc (.cells (mv fun _=>false) 37)).alloc (.cells (mv fun _=>false) 37)).heap[w.heap.size+1]? =some (.cells (mv fun _=>false) 37 (0,0)):=by (repeat (first | refine blk_old _ _ _ (by simp only [size_alloc]; omega) ?_ | exact blk_new _ _ _ (by first | rfl | simp only [size_alloc])))
 have hb0:Below w.heap.size w ((w.alloc (.cells (mv fun _=>false) 37)).alloc (.cells (mv fun _=>false) 37)):=((Below.refl _ _).alloc (Nat.le_refl _) _).alloc (by simp) _;rcases hl with⟨c,rfl,rfl⟩|⟨g,o,c,rfl,hlen,hcell⟩
 ·go_enter Tryd.func76,Tryd.ntmps76;go_wp2;refine wp_loop_rounds 1 ?_;rw[rounds_succ]
  go_wp2_with(first
   |(refine wpList_load_row rfl 37 _ rfl _ rfl _ _ _ _ h2 maskType rfl (maskSize _) ?_)
   |(refine wpList_store_row rfl 37 _ _ rfl _ _ rfl rfl _ _ h1 (maskSize _) (by simp[mv_size]) (mv_all _) ?_))
  refine bodyPost_ret (v:= .agg (mv (inl []))) ?_ rfl ⟨rfl,below_setRow hb0 (Nat.le_refl _) _⟩;exact results_cell_row rfl _ _ w.heap.size _ _ _ _ rfl (setRow_heap _ _ _ _ _ _ h1) maskType rfl (maskSize _)
 ·have HC:Hid (∀j,j<l.length→w.cell? ⟨g,o+j*2,none⟩=some (.int .i64 (l.getD j (0,0)).1)∧w.cell? ⟨g,o+j*2+1,none⟩=some (.int .i64 (l.getD j (0,0)).2)):=hcell;clear hcell;go_enter Tryd.func76,Tryd.ntmps76;go_wp2;go_loopw [8] (fun i wr=> ∃k:Nat,k≤l.length∧i= .int .i64 k∧wr.heap[w.heap.size]? =some (.cells (mv fun _=>false) 37 (0,0))∧wr.heap[w.heap.size+1]? =some (.cells (mv (inl (l.take k))) 37 (0,0))∧Below w.heap.size w wr) (fun i _=>l.length-(intOf i).toNat);case atStart=>exact⟨0,Nat.zero_le _,rfl,h1,blk_eq h2 (mv_ext fun i _=>by simp[inl]),hb0⟩
  case round=>
   obtain⟨k,hk,rfl,ho,hm,hbel⟩:=hrel;by_cases hlt:k<l.length
   ·obtain⟨c1,c2⟩:=HC.out k hlt;have d1:=(hbel.cell (block_lt_of_cell c1)).trans c1;have d2:=(hbel.cell (block_lt_of_cell c2)).trans c2;have hsn:=inl_snoc l k hlt;generalize hs:l.getD k (0,0)=s at d1 d2 hsn;obtain⟨x,y⟩:=s;dsimp only at d1 d2 hsn;have HS:Hid ((mv fun i=>inl (l.take k) i||(decide (x≤(i:Int))&&decide ((i:Int)<y)&&decide (i<1440)))=mv (inl (l.take (k+1)))):=hsn;have hm2:=blk_old _ (.cells #[.int .i64 x,.int .i64 y] 110) _ (lt_of_block hm) hm;have ho2:=blk_old _ (.cells #[.int .i64 x,.int .i64 y] 110) _ (lt_of_block ho) ho;have hb2:=hbel.alloc hbel.size (.cells #[.int .i64 x,.int .i64 y] 110);clear c1 c2 hsn hs;go_wp2_with(go_at_call 104;refine(fill_any _ _ _ _ _ hm2).mono ?_;rintro e w' ⟨rfl,hm',hb'⟩)
    go_roundw;case rel=>exact⟨k+1,by omega,by go_num,(hb'.block _ (by omega)).trans ho2,blk_eq hm' HS.out,hb2.trans (hb'.mono (by omega))⟩
    case measure=>simp[intOf];omega
   ·have hkl:k=l.length:=(by omega);subst hkl;have hm2:=blk_eq hm (by rw[List.take_length]);clear hm
    go_wp2_with(first
     |(refine wpList_load_row rfl 37 _ rfl _ rfl _ _ _ _ hm2 maskType rfl (maskSize _) ?_)
     |(refine wpList_store_row rfl 37 _ _ rfl _ _ rfl rfl _ _ ho (maskSize _) (by simp[mv_size]) (mv_all _) ?_))
    refine bodyPost_ret (v:= .agg (mv (inl l))) ?_ rfl ⟨rfl,below_setRow hbel (Nat.le_refl _) _⟩;exact results_cell_row rfl _ _ w.heap.size _ _ _ _ rfl (setRow_heap _ _ _ _ _ _ ho) maskType rfl (maskSize _)
end Go.Proofs.YtpmobjgnmidolaaDoor
/- How heights are found, plainly: by a map of places, and by a row of places. -/
namespace Vx
def lk:List (Int×Int)→Int→Option Int
 |[],_=>none
 |e::L,k=>if k=e.1 then some e.2 else lk L k
end Vx
/- How the machine runs, plainly. -/
namespace Vx
abbrev M:=Nat→Bool
structure St where
 k:Nat
 S:List M
 n:Nat
section
variable (wk:Int→Bool) (day:Int)
end
variable {wk:Int→Bool} {day:Int} {ev:Nat→M×Nat} {cs:List Cd} {l:List In}
end Vx
/- What is wrong with an instruction: vm.instruction, and what it calls. -/
namespace Go.Proofs.YtpmobjgnmidolaaDoor
open Go.RowKit Msk Vx
theorem hidv {p:Prop}(h:p):Hid p:=h
def RowV (w:World)(v:Value)(l:List (Int×Int)):Prop:=(l=[]∧ ∃p c,v= .slice p 0 c)∨Row w v l
theorem RowV.later {w w':World}{v:Value}{l:List (Int×Int)}(h:RowV w v l)(hb:Below w.heap.size w w'):RowV w' v l:=by
 rcases h with h|h
 ·exact .inl h
 ·exact .inr (h.later hb)
theorem RowV.form {w:World}{v:Value}{l:List (Int×Int)}(h:RowV w v l): ∃p c,v= .slice p l.length c∧l.length<9223372036854775808∧ ∀(j:Nat) (s:Int×Int),l[j]? =some s→ ∃g o:Nat,p=some ⟨g,o,none⟩∧w.cell? ⟨g,o+j*2,none⟩=some (.int .i64 s.1)∧w.cell? ⟨g,o+j*2+1,none⟩=some (.int .i64 s.2):=by
 rcases h with⟨rfl,p,c,rfl⟩|⟨c,rfl,rfl⟩|⟨g,o,c,rfl,hl,hc⟩
 ·exact⟨p,c,rfl,by decide,fun j s hj=>by simp at hj⟩
 ·exact⟨none,c,rfl,by decide,fun j s hj=>by simp at hj⟩
 ·refine⟨_,c,rfl,hl,fun j s hj=>⟨g,o,rfl,?_⟩⟩;have h1:=(List.getElem?_eq_some_iff.1 hj).1;have:=hc j h1;have e:l.getD j (0,0)=s:=(by simp[List.getD,hj]);rw[e]at this;exact this
end Go.Proofs.YtpmobjgnmidolaaDoor
/- What is wrong with an instruction. Written by genvmb.py. -/
namespace Go.Proofs.YtpmobjgnmidolaaDoor
open Go.RowKit Msk Vx
end Go.Proofs.YtpmobjgnmidolaaDoor
/- Regions that draw their order and yield values that are known beforehand: the frame behind them is written out. It speaks of no program. -/
namespace Go.Proofs.YtpmobjgnmidolaaDoor
open Go Go.RowKit
def putAll (ds:List (Nat×Value))(a:Act):Act:=ds.foldl (fun a p=>a.put (some p.1) p.2) a
theorem putAll_nil (a:Act):putAll [] a=a:=rfl
theorem putAll_cons (p:Nat×Value)(ds:List (Nat×Value))(a:Act):putAll (p::ds) a=putAll ds (a.put (some p.1) p.2):=rfl
theorem putAll_defers: ∀(ds:List (Nat×Value)) (a:Act),(putAll ds a).defers=a.defers
 |[],_=>rfl
 |p::ds,a=>(putAll_defers ds (a.put (some p.1) p.2)).trans rfl
theorem putAll_size: ∀(ds:List (Nat×Value)) (a:Act),(putAll ds a).tmps.size=a.tmps.size
 |[],_=>rfl
 |p::ds,a=>(putAll_size ds (a.put (some p.1) p.2)).trans (by simp[Act.put])
theorem putAll_other: ∀(ds:List (Nat×Value)) (a:Act) (s:Nat),(∀p∈ds,p.1≠s)→(putAll ds a).tmps.getD s undef=a.tmps.getD s undef
 |[],_,_,_=>rfl
 |p::ds,a,s,h=>by
  rw[putAll_cons,putAll_other ds _ s (fun q hq=>h q (List.mem_cons_of_mem _ hq))];exact getD_set_other _ _ _ _ (h p List.mem_cons_self)
theorem putAll_same: ∀(ds:List (Nat×Value)) (a:Act) (j s:Nat) (v:Value),(ds.map (fun p=>some p.1)).Nodup→s<a.tmps.size→ds[j]? =some (s,v)→(putAll ds a).tmps.getD s undef=v
 |[],_,_,_,_,_,_,h=>by simp at h
 |p::ds,a,0,s,v,hn,hs,h=>by
  simp at h;subst h;rw[putAll_cons,putAll_other ds _ s ?_]
  ·exact getD_set_same _ _ _ hs
  ·intro q hq e;rw[List.map_cons,List.nodup_cons]at hn;exact hn.1 (List.mem_map.2 ⟨q,hq,by rw[e]⟩)
 |p::ds,a,j+1,s,v,hn,hs,h=>by
  rw[putAll_cons];rw[List.map_cons,List.nodup_cons]at hn;exact putAll_same ds _ j s v hn.2 (by simpa[Act.put] using hs) (by simpa using h)
theorem act_is {A a0:Act}(ds:List (Nat×Value))(hd:A.defers=a0.defers)(hs:A.tmps.size=a0.tmps.size)(hn:(ds.map (fun p=>some p.1)).Nodup)
  (hk: ∀s,(∀p∈ds,p.1≠s)→A.tmps.getD s undef=a0.tmps.getD s undef) (hh: ∀(j s:Nat) (v:Value),ds[j]? =some (s,v)→A.tmps.getD s undef=v):A=putAll ds a0:=by
 have e1:=putAll_defers ds a0;have e2:=putAll_size ds a0
 have e3: ∀s,s<a0.tmps.size→A.tmps.getD s undef=(putAll ds a0).tmps.getD s undef:=by
  intro s hs';by_cases h: ∃p∈ds,p.1=s
  ·obtain⟨p,hp,rfl⟩:=h;obtain⟨j,hj⟩:=List.getElem?_of_mem hp;rw[hh j _ _ hj,putAll_same ds a0 j _ _ hn hs' hj]
  ·have h': ∀p∈ds,p.1≠s:=fun p hp e=>h ⟨p,hp,e⟩;rw[hk s h',putAll_other ds a0 s h']
 generalize putAll ds a0=F at*;obtain⟨t,d⟩:=A;obtain⟨t',d'⟩:=F;dsimp only at*
 have:t=t':=by
  apply Array.ext
  ·omega
  ·intro i h1 h2;have:=e3 i (by omega);simpa[Array.getD,h1,h2] using this
 rw[this,hd,e1]
section
variable {P:Program} {ops:Array Oper} {Q:Exit→Act→World→Prop} {id:Nat} {a0:Act} {w:World}
def StepV (P:Program)(ops:Array Oper)(Q:Exit→Act→World→Prop)(ds:List (Nat×Value))(a0:Act)(w:World):Prop:=
 ∀(i s:Nat) (v:Value) (o:Oper) (L:Nat→Bool) (A:Act) (W:World),ops[i]? =some o→ds[i]? =some (s,v)→(∀e∈o.after,Region.binds .any e=true→L e.on=true)→Below w.heap.size w W→
  (∀s,notDst ops s=true→A.tmps.getD s undef=a0.tmps.getD s undef)→(∀(j s:Nat) (u:Value),ds[j]? =some (s,u)→L j=true→A.tmps.getD s undef=u)→wpOp P ops Q i (fun a' W'=>a'=A.put (some s) v∧Below W.heap.size W W') A W
theorem dst_at {k:Nat}{ds:List (Nat×Value)}(hds:(ops.toList.take k).map (fun o=>o.dst)=ds.map (fun p=>some p.1)){i s:Nat}{v:Value}{o:Oper}(ho:ops[i]? =some o)(h:ds[i]? =some (s,v)):o.dst=some s:=by
 have h1:(ds.map (fun p=>some p.1))[i]? =some (some s):=by rw[List.getElem?_map,h];rfl
 rw[←hds,List.getElem?_map]at h1
 have h2:(ops.toList.take k)[i]? =some o∨(ops.toList.take k)[i]? =none:=by
  rw[List.getElem?_take];split
  ·left;simpa using ho
  ·right;rfl
 rcases h2 with h2|h2
 ·rw[h2]at h1;simpa using h1
 ·rw[h2]at h1;simp at h1
theorem at_dst {k:Nat}{ds:List (Nat×Value)}(hds:(ops.toList.take k).map (fun o=>o.dst)=ds.map (fun p=>some p.1)){i:Nat}{o:Oper}(hi:i<k)(ho:ops[i]? =some o): ∃s v,ds[i]? =some (s,v):=by
 have h1:(ops.toList.take k)[i]? =some o:=by rw[List.getElem?_take,if_pos hi];simpa using ho
 have h2:((ops.toList.take k).map (fun o=>o.dst))[i]? =some o.dst:=by rw[List.getElem?_map,h1];rfl
 rw[hds,List.getElem?_map]at h2;cases h3:ds[i]? with
 |none=>rw[h3]at h2;simp at h2
 |some p=>exact⟨p.1,p.2,rfl⟩
def useB (ops:Array Oper):Bool:=(List.range (ops.size-1)).all fun i=>(List.range ops.size).any fun j=>decide (i<j)&&match ops[j]? with|none=>false|some o=>o.after.any fun e=>Region.binds .any e&&decide (e.on=i)
theorem use_all (hu:useB ops=true){n:Nat}(hn:ops.size=n+1){L:Nat→Bool}(hc: ∀(j:Nat) (p:Oper),ops[j]? =some p→L j=true→ ∀e∈p.after,Region.binds .any e=true→L e.on=true)(hL:L n=true): ∀k i,n-i≤k→i≤n→L i=true
 |0,i,hk,hi=>by rw[show i=n by omega];exact hL
 |k+1,i,hk,hi=>by
  by_cases e:i=n
  ·rw[e];exact hL
  have h1:=List.all_eq_true.1 hu i (by simp;omega);obtain⟨j,hj,h2⟩:=List.any_eq_true.1 h1;simp at hj;simp only[Bool.and_eq_true,decide_eq_true_eq]at h2;obtain⟨hij,h3⟩:=h2;cases ho:ops[j]? with
  |none=>rw[ho]at h3;cases h3
  |some o=>
   rw[ho]at h3;obtain⟨e',he,h4⟩:=Array.any_eq_true'.1 h3;simp only[Bool.and_eq_true,decide_eq_true_eq]at h4;have:=hc j o ho (use_all hu hn hc hL k j (by omega) (by omega)) e' he h4.1;rw[h4.2]at this;exact this
theorem wp_region_last (hm:P.follows .mixedOrders=true)(hback:backB ops=true)(hdst:dstB ops=true)(hin:inB ops a0.tmps.size=true)(n:Nat)(hn:ops.size=n+1)(huse:useB ops=true)(ds:List (Nat×Value))
  (hds:(ops.toList.take n).map (fun o=>o.dst)=ds.map (fun p=>some p.1)) (hnd:decide (((ops.toList.take n).map (fun o=>o.dst)).Nodup)=true)
  (hstep:StepV P ops Q ds a0 w) (hlast: ∀(o:Oper) (W:World),ops[n]? =some o→Below w.heap.size w W→wpOp P ops Q n (fun a' W'=>(∃v,a'=(putAll ds a0).put o.dst v)∧Q .normal a' W') (putAll ds a0) W):(Code.region id ops true).wp P Q a0 w:=by
 have hnd':(ds.map (fun p=>some p.1)).Nodup:=by rw[←hds];exact of_decide_eq_true hnd
 have hl:ds.length=n:=by
  have h:=congrArg List.length hds;simp only[List.length_map,List.length_take,Array.length_toList]at h;omega
 refine wp_region_flow hm hback hdst hin (fun L A W=>(∀(j:Nat) (p:Oper),ops[j]? =some p→L j=true→ ∀e∈p.after,Region.binds .any e=true→L e.on=true)∧(L n=false→Below w.heap.size w W∧A.tmps.size=a0.tmps.size)∧(L n=true→Q .normal A W)) (fun j x _=> ∀s v,ds[j]? =some (s,v)→x=v) ?_ ?_ ?_
 ·intro L h;refine⟨fun j p hp hj=> ?_,fun _=>⟨(Below.refl _ _).drew,rfl⟩,fun h'=> ?_⟩
  ·have:=h j (Array.getElem?_eq_some_iff.1 hp).1;rw[this]at hj;cases hj
  ·rw[h n (by omega)]at h';cases h'
 ·intro i o L A W ho hLi hdep hJ hdef hkept hhas;obtain⟨hc,hbel,hdone⟩:=hJ;have hi:i<ops.size:=(Array.getElem?_eq_some_iff.1 ho).1
  have hLn:L n=false:=by
   cases h:L n with
   |false=>rfl
   |true=>
    have:=use_all huse hn hc h n i (by omega) (by omega);rw[this]at hLi;cases hLi
  obtain⟨hbw,hsz⟩:=hbel hLn
  have hc': ∀(j:Nat) (p:Oper),ops[j]? =some p→(decide (i=j)||L j)=true→ ∀e∈p.after,Region.binds .any e=true→(decide (i=e.on)||L e.on)=true:=by
   intro j p hp hj e he hb;by_cases hij:i=j
   ·subst hij;rw[ho]at hp;cases hp;rw[hdep e he hb];simp
   ·rw[hc j p hp (by simpa[hij] using hj) e he hb];simp
  have hread: ∀(j s:Nat) (u:Value),ds[j]? =some (s,u)→L j=true→A.tmps.getD s undef=u:=fun j s' u hj hL=>by
   have hj':j<ds.length:=(List.getElem?_eq_some_iff.1 hj).1;obtain⟨p,hp⟩: ∃p,ops[j]? =some p:=⟨ops[j]'(by omega),Array.getElem?_eq_getElem _⟩
   exact hhas j p hp hL s' (dst_at hds hp hj) s' u hj
  by_cases hin':i=n
  ·subst hin'
   have hall: ∀j,j<i→L j=true:=fun j hj=>by
    have:=use_all huse hn hc' (L:=fun k=>decide (i=k)||L k) (by simp) i j (by omega) (by omega);simpa[show i≠j by omega] using this
   have e:A=putAll ds a0:=by
    refine act_is ds hdef hsz hnd' (fun s h=>hkept s fun j p hp hj e=> ?_) (fun j s v hj=> ?_)
    ·have hjn:j<i:=by
      have h1:=(Array.getElem?_eq_some_iff.1 hp).1;have h2:j≠i:=fun e'=>(by rw[e',hLn]at hj;cases hj);omega
     obtain⟨s',v,hv⟩:=at_dst hds hjn hp;have:=(dst_at hds hp hv).symm.trans e;cases this;exact h _ (List.mem_of_getElem? hv) rfl
    ·exact hread j s v hj (hall j (by have:=(List.getElem?_eq_some_iff.1 hj).1;omega))
   rw[e];refine wpOp_mono ?_ (hlast o W ho hbw);rintro a' W' ⟨⟨v,hv⟩,hq⟩;refine⟨v,hv,fun _ s' v' h=> ?_,fun _ _ _ h=>h,hc',fun h=>by simp at h,fun _=>hq⟩;have:=(List.getElem?_eq_some_iff.1 h).1;omega
  ·obtain⟨s,v,hv⟩:=at_dst hds (show i<n by omega) ho;have hd:=dst_at hds ho hv;refine wpOp_mono ?_ (hstep i s v o L A W ho hv hdep hbw (fun s' h=>hkept s' fun j p hp _=>nd h j p hp) hread);rintro a' W' ⟨rfl,hb⟩;refine⟨v,by rw[hd],fun _ s' v' h=>by rw[hv]at h;cases h;rfl,fun _ _ _ h=>h,hc',fun _=>⟨hbw.trans (hb.mono hbw.size),by simpa[Act.put] using hsz⟩,fun h=> ?_⟩;simp[hin',hLn]at h
 ·intro L A W hL hJ hdef hsize hkept hhas;exact hJ.2.2 (hL n (by omega))
end
end Go.Proofs.YtpmobjgnmidolaaDoor
/- Code in memory; what is wrong with a rule's code by itself. Written by genvmc.py. -/
namespace Go.Proofs.YtpmobjgnmidolaaDoor
open Go.RowKit Msk Vx
def InsRow (w:World)(v:Value)(xs:List (In×Value)):Prop:= ∃p c,v= .slice p xs.length c∧xs.length<9223372036854775808∧ ∀(j:Nat) (x:In×Value),xs[j]? =some x→RowV w x.2 x.1.sp∧ ∃g o:Nat,p=some ⟨g,o,none⟩∧
 w.cell? ⟨g,o+j*5,none⟩=some (.int .i64 x.1.op)∧w.cell? ⟨g,o+j*5+1,none⟩=some (.int .i64 x.1.a)∧w.cell? ⟨g,o+j*5+2,none⟩=some (.int .i64 x.1.b)∧w.cell? ⟨g,o+j*5+3,none⟩=some (.int .i64 x.1.to)∧w.cell? ⟨g,o+j*5+4,none⟩=some x.2
theorem InsRow.below {w w':World}{v:Value}{xs:List (In×Value)}(h:InsRow w v xs)(hb:Below w.heap.size w w'):InsRow w' v xs:=by
 obtain⟨p,c,h1,h2,h3⟩:=h;refine⟨p,c,h1,h2,fun j x hj=> ?_⟩;obtain⟨r,g,o,e,c0,c1,c2,c3,c4⟩:=h3 j x hj;exact⟨r.later hb,g,o,e,(hb.cell (block_lt_of_cell c0)).trans c0,(hb.cell (block_lt_of_cell c1)).trans c1,(hb.cell (block_lt_of_cell c2)).trans c2,(hb.cell (block_lt_of_cell c3)).trans c3,(hb.cell (block_lt_of_cell c4)).trans c4⟩
def InsOf (w:World)(v:Value)(l:List In):Prop:= ∃xs:List (In×Value),InsRow w v xs∧xs.map (fun x=>x.1)=l
theorem InsOf.below {w w':World}{v:Value}{l:List In}(h:InsOf w v l)(hb:Below w.heap.size w w'):InsOf w' v l:=by
 obtain⟨xs,h1,h2⟩:=h;exact⟨xs,h1.below hb,h2⟩
theorem InsOf.form {w:World}{v:Value}{l:List In}(h:InsOf w v l): ∃p c,v= .slice p l.length c∧l.length<9223372036854775808∧ ∀(j:Nat) (x:In),l[j]? =some x→ ∃sv:Value,RowV w sv x.sp∧ ∃g o:Nat,p=some ⟨g,o,none⟩∧
  w.cell? ⟨g,o+j*5,none⟩=some (.int .i64 x.op)∧w.cell? ⟨g,o+j*5+1,none⟩=some (.int .i64 x.a)∧w.cell? ⟨g,o+j*5+2,none⟩=some (.int .i64 x.b)∧w.cell? ⟨g,o+j*5+3,none⟩=some (.int .i64 x.to)∧w.cell? ⟨g,o+j*5+4,none⟩=some sv:=by
 obtain⟨xs,⟨p,c,h1,h2,h3⟩,rfl⟩:=h;rw[List.length_map];refine⟨p,c,h1,h2,fun j x hj=> ?_⟩;rw[List.getElem?_map]at hj;obtain⟨y,hy,rfl⟩:=Option.map_eq_some_iff.1 hj;obtain⟨r,g,o,e,hc⟩:=h3 j y hy;exact⟨y.2,r,g,o,e,hc⟩
def InC (w:World)(v:Value)(us:List (Cd×Value)):Prop:= ∃p c,v= .slice p us.length c∧us.length<9223372036854775808∧ ∀(j:Nat) (u:Cd×Value),us[j]? =some u→InsOf w u.2 u.1.ins∧ ∃g o:Nat,p=some ⟨g,o,none⟩∧
 w.cell? ⟨g,o+j*3,none⟩=some u.2∧w.cell? ⟨g,o+j*3+1,none⟩=some (.int .i64 u.1.high)∧w.cell? ⟨g,o+j*3+2,none⟩=some (.int .i64 u.1.steps)
theorem InC.below {w w':World}{v:Value}{us:List (Cd×Value)}(h:InC w v us)(hb:Below w.heap.size w w'):InC w' v us:=by
 obtain⟨p,c,h1,h2,h3⟩:=h;refine⟨p,c,h1,h2,fun j u hj=> ?_⟩;obtain⟨r,g,o,e,c0,c1,c2⟩:=h3 j u hj;exact⟨r.below hb,g,o,e,(hb.cell (block_lt_of_cell c0)).trans c0,(hb.cell (block_lt_of_cell c1)).trans c1,(hb.cell (block_lt_of_cell c2)).trans c2⟩
def InV (w:World)(v:Value)(cs:List Cd):Prop:= ∃us:List (Cd×Value),InC w v us∧us.map (fun u=>u.1)=cs
theorem InV.below {w w':World}{v:Value}{cs:List Cd}(h:InV w v cs)(hb:Below w.heap.size w w'):InV w' v cs:=by
 obtain⟨xs,h1,h2⟩:=h;exact⟨xs,h1.below hb,h2⟩
theorem InV.form {w:World}{v:Value}{cs:List Cd}(h:InV w v cs): ∃p c,v= .slice p cs.length c∧cs.length<9223372036854775808∧ ∀(j:Nat) (u:Cd),cs[j]? =some u→ ∃sv:Value,InsOf w sv u.ins∧ ∃g o:Nat,p=some ⟨g,o,none⟩∧
  w.cell? ⟨g,o+j*3,none⟩=some sv∧w.cell? ⟨g,o+j*3+1,none⟩=some (.int .i64 u.high)∧w.cell? ⟨g,o+j*3+2,none⟩=some (.int .i64 u.steps):=by
 obtain⟨xs,⟨p,c,h1,h2,h3⟩,rfl⟩:=h;rw[List.length_map];refine⟨p,c,h1,h2,fun j x hj=> ?_⟩;rw[List.getElem?_map]at hj;obtain⟨y,hy,rfl⟩:=Option.map_eq_some_iff.1 hj;obtain⟨r,g,o,e,hc⟩:=h3 j y hy;exact⟨y.2,r,g,o,e,hc⟩
end Go.Proofs.YtpmobjgnmidolaaDoor
/- vm.has, vm.exchange; rows of bits in memory. -/
namespace Go.Proofs.YtpmobjgnmidolaaDoor
open Go.RowKit Msk Vx
end Go.Proofs.YtpmobjgnmidolaaDoor
/- vm.reached: who calls whom, bit by bit. Written by genvme.py. -/
namespace Go.Proofs.YtpmobjgnmidolaaDoor
open Go.RowKit Msk Vx
def cE (cs:List Cd)(i j:Nat):Nat→Nat→Bool:=fun r k=>if r<i then callE cs r k else if r=i then(((cs.getD i cd0).ins.take j).any fun x=>decide (x.op=8)&&decide (x.a=(k:Int))) else false
def wE (E:Nat→Nat→Bool)(m i:Nat):Nat→Nat→Bool:=fun r k=>if r<i then wars E (m+1) r k else wars E m r k
end Go.Proofs.YtpmobjgnmidolaaDoor
/- How great heights and steps can be, plainly. -/
namespace Vx
variable {cs:List Cd} {l:List In}
theorem eff_bd (x:In): -1≤eff x∧eff x≤1:=by
 unfold eff;split
 ·omega
 ·split<;>omega
theorem hAt_bd: ∀j:Nat,-(j:Int)≤hAt l j∧hAt l j≤j
 |0=>by simp[hAt]
 |j+1=>by
  have h1:=hAt_bd j;have h2:=eff_bd (l.getD j in0);simp only[hAt];omega
theorem mxH_bd (hh: ∀i,(cs.getD i cd0).high≤100): ∀j:Nat,0≤mxH cs l j∧mxH cs l j≤j+100
 |0=>by simp[mxH]
 |j+1=>by
  have h1:=mxH_bd hh j;have h2:=hAt_bd (l:=l) j;have h3:=hAt_bd (l:=l) (j+1);have h4:=hh (l.getD j in0).a.toNat;simp only[mxH];split<;>omega
theorem stS_bd (h0: ∀i,0≤(cs.getD i cd0).steps∧(cs.getD i cd0).steps≤20000): ∀j:Nat,(j:Int)≤stS cs l j∧stS cs l j≤j*20001
 |0=>by simp[stS]
 |j+1=>by
  have h1:=stS_bd h0 j;have h4:=h0 (l.getD j in0).a.toNat;simp only[stS];split<;>omega
end Vx
/- A map from numbers to numbers; vm.measured's own question. -/
namespace Go.Proofs.YtpmobjgnmidolaaDoor
open Go.RowKit Msk Vx
end Go.Proofs.YtpmobjgnmidolaaDoor
/- vm.measured, vm.fits: how a rule's code uses its stack. Written by genvmg.py. -/
namespace Go.Proofs.YtpmobjgnmidolaaDoor
open Go.RowKit Msk Vx
end Go.Proofs.YtpmobjgnmidolaaDoor
/- vm.Wrong: what is wrong with code. -/
namespace Go.Proofs.YtpmobjgnmidolaaDoor
open Go.RowKit Msk Vx
end Go.Proofs.YtpmobjgnmidolaaDoor
/- A region that draws its order, whose values are known beforehand, and whose operations keep what is said of the world; the last one waits for all. It speaks of no program. -/
namespace Go.Proofs.YtpmobjgnmidolaaDoor
open Go Go.RowKit
section
variable {P:Program} {ops:Array Oper} {Q:Exit→Act→World→Prop} {id:Nat} {a0:Act} {w:World}
def StepJ (P:Program)(ops:Array Oper)(Q:Exit→Act→World→Prop)(ds:List (Nat×Value))(a0:Act)(J:World→Prop):Prop:=
 ∀(i s:Nat) (v:Value) (o:Oper) (L:Nat→Bool) (A:Act) (W:World),ops[i]? =some o→ds[i]? =some (s,v)→(∀e∈o.after,Region.binds .any e=true→L e.on=true)→J W→
  (∀s,notDst ops s=true→A.tmps.getD s undef=a0.tmps.getD s undef)→(∀(j s:Nat) (u:Value),ds[j]? =some (s,u)→L j=true→A.tmps.getD s undef=u)→wpOp P ops Q i (fun a' W'=>a'=A.put (some s) v∧J W') A W
theorem wp_region_lastJ (J:World→Prop)(hJ0:J w.drew)(hm:P.follows .mixedOrders=true)(hback:backB ops=true)(hdst:dstB ops=true)(hin:inB ops a0.tmps.size=true)(n:Nat)(hn:ops.size=n+1)(huse:useB ops=true)(ds:List (Nat×Value))
  (hds:(ops.toList.take n).map (fun o=>o.dst)=ds.map (fun p=>some p.1)) (hnd:decide (((ops.toList.take n).map (fun o=>o.dst)).Nodup)=true)
  (hstep:StepJ P ops Q ds a0 J) (hlast: ∀(o:Oper) (W:World),ops[n]? =some o→J W→wpOp P ops Q n (fun a' W'=>(∃v,a'=(putAll ds a0).put o.dst v)∧Q .normal a' W') (putAll ds a0) W):(Code.region id ops true).wp P Q a0 w:=by
 have hnd':(ds.map (fun p=>some p.1)).Nodup:=by rw[←hds];exact of_decide_eq_true hnd
 have hl:ds.length=n:=by
  have h:=congrArg List.length hds;simp only[List.length_map,List.length_take,Array.length_toList]at h;omega
 refine wp_region_flow hm hback hdst hin (fun L A W=>(∀(j:Nat) (p:Oper),ops[j]? =some p→L j=true→ ∀e∈p.after,Region.binds .any e=true→L e.on=true)∧(L n=false→J W∧A.tmps.size=a0.tmps.size)∧(L n=true→Q .normal A W)) (fun j x _=> ∀s v,ds[j]? =some (s,v)→x=v) ?_ ?_ ?_
 ·intro L h;refine⟨fun j p hp hj=> ?_,fun _=>⟨hJ0,rfl⟩,fun h'=> ?_⟩
  ·have:=h j (Array.getElem?_eq_some_iff.1 hp).1;rw[this]at hj;cases hj
  ·rw[h n (by omega)]at h';cases h'
 ·intro i o L A W ho hLi hdep hJ hdef hkept hhas;obtain⟨hc,hbel,hdone⟩:=hJ;have hi:i<ops.size:=(Array.getElem?_eq_some_iff.1 ho).1
  have hLn:L n=false:=by
   cases h:L n with
   |false=>rfl
   |true=>
    have:=use_all huse hn hc h n i (by omega) (by omega);rw[this]at hLi;cases hLi
  obtain⟨hbw,hsz⟩:=hbel hLn
  have hc': ∀(j:Nat) (p:Oper),ops[j]? =some p→(decide (i=j)||L j)=true→ ∀e∈p.after,Region.binds .any e=true→(decide (i=e.on)||L e.on)=true:=by
   intro j p hp hj e he hb;by_cases hij:i=j
   ·subst hij;rw[ho]at hp;cases hp;rw[hdep e he hb];simp
   ·rw[hc j p hp (by simpa[hij] using hj) e he hb];simp
  have hread: ∀(j s:Nat) (u:Value),ds[j]? =some (s,u)→L j=true→A.tmps.getD s undef=u:=fun j s' u hj hL=>by
   have hj':j<ds.length:=(List.getElem?_eq_some_iff.1 hj).1;obtain⟨p,hp⟩: ∃p,ops[j]? =some p:=⟨ops[j]'(by omega),Array.getElem?_eq_getElem _⟩
   exact hhas j p hp hL s' (dst_at hds hp hj) s' u hj
  by_cases hin':i=n
  ·subst hin'
   have hall: ∀j,j<i→L j=true:=fun j hj=>by
    have:=use_all huse hn hc' (L:=fun k=>decide (i=k)||L k) (by simp) i j (by omega) (by omega);simpa[show i≠j by omega] using this
   have e:A=putAll ds a0:=by
    refine act_is ds hdef hsz hnd' (fun s h=>hkept s fun j p hp hj e=> ?_) (fun j s v hj=> ?_)
    ·have hjn:j<i:=by
      have h1:=(Array.getElem?_eq_some_iff.1 hp).1;have h2:j≠i:=fun e'=>(by rw[e',hLn]at hj;cases hj);omega
     obtain⟨s',v,hv⟩:=at_dst hds hjn hp;have:=(dst_at hds hp hv).symm.trans e;cases this;exact h _ (List.mem_of_getElem? hv) rfl
    ·exact hread j s v hj (hall j (by have:=(List.getElem?_eq_some_iff.1 hj).1;omega))
   rw[e];refine wpOp_mono ?_ (hlast o W ho hbw);rintro a' W' ⟨⟨v,hv⟩,hq⟩;refine⟨v,hv,fun _ s' v' h=> ?_,fun _ _ _ h=>h,hc',fun h=>by simp at h,fun _=>hq⟩;have:=(List.getElem?_eq_some_iff.1 h).1;omega
  ·obtain⟨s,v,hv⟩:=at_dst hds (show i<n by omega) ho;have hd:=dst_at hds ho hv;refine wpOp_mono ?_ (hstep i s v o L A W ho hv hdep hbw (fun s' h=>hkept s' fun j p hp _=>nd h j p hp) hread);rintro a' W' ⟨rfl,hb⟩;refine⟨v,by rw[hd],fun _ s' v' h=>by rw[hv]at h;cases h;rfl,fun _ _ _ h=>h,hc',fun _=>⟨hb,by simpa[Act.put] using hsz⟩,fun h=> ?_⟩;simp[hin',hLn]at h
 ·intro L A W hL hJ hdef hsize hkept hhas;exact hJ.2.2 (hL n (by omega))
theorem wp_region_lastK (J:World→Prop)(hJ0:J w.drew)(hm:P.follows .mixedOrders=true)(hback:backB ops=true)(hdst:dstB ops=true)(hin:inB ops a0.tmps.size=true)(n:Nat)(hn:ops.size=n+1)(huse:useB ops=true)(ds:List (Nat×Value))
  (hds:(ops.toList.take n).map (fun o=>o.dst)=ds.map (fun p=>some p.1)) (hnd:decide (((ops.toList.take n).map (fun o=>o.dst)).Nodup)=true)
  (hstep:StepJ P ops Q ds a0 J) (hlast: ∀(o:Oper) (W:World) (A:Act),ops[n]? =some o→J W→A=putAll ds a0→wpOp P ops Q n (fun a' W'=>(∃v,a'=A.put o.dst v)∧Q .normal a' W') A W):(Code.region id ops true).wp P Q a0 w:=
 wp_region_lastJ J hJ0 hm hback hdst hin n hn huse ds hds hnd hstep fun o W ho hJ=>hlast o W _ ho hJ rfl
end
end Go.Proofs.YtpmobjgnmidolaaDoor
/- A region that draws its order, whose values are known beforehand; what is said of the world hangs on what has been done. It speaks of no program. -/
namespace Go.Proofs.YtpmobjgnmidolaaDoor
open Go Go.RowKit
section
variable {P:Program} {ops:Array Oper} {Q:Exit→Act→World→Prop} {id:Nat} {a0:Act} {w:World}
def ClosL (ops:Array Oper)(L:Nat→Bool):Prop:= ∀(j:Nat) (p:Oper),ops[j]? =some p→L j=true→ ∀e∈p.after,Region.binds .any e=true→L e.on=true
def StepL (P:Program)(ops:Array Oper)(Q:Exit→Act→World→Prop)(ds:List (Option Nat×Value))(a0:Act)(J:(Nat→Bool)→World→Prop):Prop:=
 ∀(i:Nat) (d:Option Nat) (v:Value) (o:Oper) (L:Nat→Bool) (A:Act) (W:World),ops[i]? =some o→ds[i]? =some (d,v)→L i=false→(∀e∈o.after,Region.binds .any e=true→L e.on=true)→ClosL ops L→J L W→
  (∀s,notDst ops s=true→A.tmps.getD s undef=a0.tmps.getD s undef)→(∀(j s:Nat) (u:Value),ds[j]? =some (some s,u)→L j=true→A.tmps.getD s undef=u)→wpOp P ops Q i (fun a' W'=>a'=A.put d v∧J (fun k=>decide (i=k)||L k) W') A W
theorem clos_lt {m:Nat}(hu:useB (ops.extract 0 (m+1))=true)(hm:m<ops.size){L:Nat→Bool}(hc:ClosL ops L){i:Nat}(hi:i<m)(hL:L i=false):L m=false:=by
 cases h:L m with
 |false=>rfl
 |true=>
  have hs:(ops.extract 0 (m+1)).size=m+1:=(by simp;omega)
  have hex: ∀(j:Nat) (p:Oper),(ops.extract 0 (m+1))[j]? =some p→ops[j]? =some p:=fun j p hp=>by
   rw[Array.getElem?_extract]at hp;split at hp
   ·simpa using hp
   ·cases hp
  have:=use_all hu hs (L:=L) (fun j p hp hj=>hc j p (hex j p hp) hj) h m i (by omega) (by omega);rw[this]at hL;cases hL
theorem wp_region_JL (J:(Nat→Bool)→World→Prop)(hJ0: ∀L:Nat→Bool,(∀i,i<ops.size→L i=false)→J L w.drew)(hm:P.follows .mixedOrders=true)(hback:backB ops=true)(hdst:dstB ops=true)(hin:inB ops a0.tmps.size=true)(ds:List (Option Nat×Value))(es:List (Nat×Value))
  (hds:ops.toList.map (fun o=>o.dst)=ds.map (fun p=>p.1)) (hes:ds.filterMap (fun p=>p.1.map fun s=>(s,p.2))=es) (hnd:decide ((es.map (fun p=>p.1)).Nodup)=true)
  (hstep:StepL P ops Q ds a0 J) (hend: ∀(L:Nat→Bool) (W:World),(∀i,i<ops.size→L i=true)→J L W→Q .normal (putAll es a0) W):(Code.region id ops true).wp P Q a0 w:=by
 have hl:ds.length=ops.size:=by
  have h:=congrArg List.length hds;simpa using h.symm
 have atD: ∀{j:Nat} {p:Oper},ops[j]? =some p→ ∃v,ds[j]? =some (p.dst,v):=fun {j p} hp=>by
  have h1:(ops.toList.map (fun o=>o.dst))[j]? =some p.dst:=by
   rw[List.getElem?_map,Array.getElem?_toList,hp];rfl
  rw[hds,List.getElem?_map]at h1;cases hs:ds[j]? with
  |none=>rw[hs]at h1;cases h1
  |some q=>
   rw[hs]at h1;exact⟨q.2,by rw[←Option.some.inj h1]⟩
 have atO: ∀{j:Nat} {d:Option Nat} {v:Value},ds[j]? =some (d,v)→ ∃p,ops[j]? =some p∧p.dst=d:=fun {j d v} hj=>by
  have hj':=(List.getElem?_eq_some_iff.1 hj).1;obtain⟨p,hp⟩: ∃p,ops[j]? =some p:=⟨ops[j]'(by omega),Array.getElem?_eq_getElem _⟩
  obtain⟨v',hv'⟩:=atD hp;rw[hj]at hv';exact⟨p,hp,(congrArg Prod.fst (Option.some.inj hv')).symm⟩
 refine wp_region_flow hm hback hdst hin (fun L _ W=>ClosL ops L∧J L W) (fun j x _=> ∀d v,ds[j]? =some (d,v)→x=v) ?_ ?_ ?_
 ·intro L h;refine⟨fun j p hp hj=> ?_,hJ0 L h⟩;have:=h j (Array.getElem?_eq_some_iff.1 hp).1;rw[this]at hj;cases hj
 ·intro i o L A W ho hLi hdep hJ hdef hkept hhas;obtain⟨hc,hJ⟩:=hJ
  have hc':ClosL ops (fun k=>decide (i=k)||L k):=by
   intro j p hp hj e he hb;show(decide (i=e.on)||L e.on)=true;by_cases hij:i=j
   ·subst hij;rw[ho]at hp;cases hp;rw[hdep e he hb];simp
   ·rw[hc j p hp (by simpa[hij] using hj) e he hb];simp
  obtain⟨v,hv⟩:=atD ho;refine wpOp_mono ?_ (hstep i o.dst v o L A W ho hv hLi hdep hc hJ (fun s' h=>hkept s' fun j p hp _=>nd h j p hp) fun j s u hj hL=> ?_)
  ·rintro a' W' ⟨rfl,hJ'⟩;exact⟨v,rfl,fun _ d' v' h=>by rw[hv]at h;exact congrArg Prod.snd (Option.some.inj h),fun _ _ _ h=>h,hc',hJ'⟩
  ·obtain⟨p,hp,hd⟩:=atO hj;exact hhas j p hp hL s hd _ _ hj
 ·intro L A W hL hJ hdef hsize hkept hhas
  have e:A=putAll es a0:=by
   refine act_is es hdef hsize (by
    have:=of_decide_eq_true hnd;rw[show es.map (fun p=>some p.1)=(es.map (fun p=>p.1)).map some by rw[List.map_map];rfl];rw[List.nodup_iff_pairwise_ne]at this⊢;rw[List.pairwise_map];exact this.imp fun hab e=>hab (Option.some.inj e)) (fun s h=>hkept s fun j p hp e=> ?_) (fun j s v hj=> ?_)
   ·obtain⟨v,hv⟩:=atD hp;refine h (s,v) ?_ rfl;rw[←hes,List.mem_filterMap];exact⟨_,List.mem_of_getElem? hv,by rw[e];rfl⟩
   ·have hm':=List.mem_of_getElem? hj;rw[←hes,List.mem_filterMap]at hm';obtain⟨q,hq,hqe⟩:=hm';obtain⟨k,hk⟩:=List.getElem?_of_mem hq;obtain⟨d,v'⟩:=q;cases d with
    |none=>cases hqe
    |some t=>
     have h2:=Option.some.inj hqe;have h3:t=s:=congrArg Prod.fst h2;have h4:v'=v:=congrArg Prod.snd h2;subst h3 h4;obtain⟨p,hp,hd⟩:=atO hk;exact hhas k p hp t hd _ _ hk
  rw[e];exact hend L W hL hJ.2
def JJ (m:Nat)(Pre Post:World→Prop)(L:Nat→Bool)(W:World):Prop:=(L m=false→Pre W)∧(L m=true→Post W)
variable {m:Nat} {Pre Post:World→Prop} {L:Nat→Bool} {W W':World} {i:Nat}
theorem JJ.start (hm:m<ops.size)(h:Pre W)(hL: ∀i,i<ops.size→L i=false):JJ m Pre Post L W:=⟨fun _=>h,fun e=>by rw[hL m hm]at e;cases e⟩
theorem JJ.keep (h:JJ m Pre Post L W)(hi:i≠m):JJ m Pre Post (fun k=>decide (i=k)||L k) W:=⟨fun e=>h.1 (by simpa[hi] using e),fun e=>h.2 (by simpa[hi] using e)⟩
theorem JJ.low (hi:i≠m)(hL:L m=false)(h:Pre W'):JJ m Pre Post (fun k=>decide (i=k)||L k) W':=⟨fun _=>h,fun e=>by simp[hi,hL]at e⟩
theorem JJ.done (h:Post W'):JJ m Pre Post (fun k=>decide (m=k)||L k) W':=⟨fun e=>by simp at e,fun _=>h⟩
end
end Go.Proofs.YtpmobjgnmidolaaDoor
