/- Plain facts about texts, byte by byte, that speak of no program: what is a digit, a letter, a word, a number. -/
import Derived.Lib.Strings
import Derived.Lib.Bytealg
import Derived.Test.YtpmobjgnmidolaaDoorRows
import Derived.WalkKit
import Derived.WalkSpells
import Derived.WalkLawsBesides
import Derived.Deep.QuietTactic
import Derived.BigQuiet
import Derived.Laws.Rows
import Derived.Lib.LaidTab
import Derived.Deep.Quiet
import Derived.RegionTactic
namespace Lx
def isD (c:UInt8):Bool:=decide (48≤c.toNat)&&decide (c.toNat≤57)
def isL (c:UInt8):Bool:=decide (97≤c.toNat)&&decide (c.toNat≤122)
def isC (c:UInt8):Bool:=isL c||(isD c||decide (c.toNat=95))
def runOf (p:UInt8→Bool):List UInt8→Nat
 |[]=>0
 |c::l=>if p c then runOf p l+1 else 0
def wordLen:List UInt8→Nat
 |[]=>0
 |c::l=>if isL c then runOf isC l+1 else 0
theorem runOf_all (p:UInt8→Bool): ∀l i,i<runOf p l→p (l.getD i 0)=true
 |[],i,h=>by simp[runOf]at h
 |c::l,i,h=>by
  simp only[runOf]at h;split at h
  ·cases i with
   |zero=>simpa
   |succ i=>simpa using runOf_all p l i (by omega)
  ·omega
theorem runOf_eq (p:UInt8→Bool): ∀(l:List UInt8) (k:Nat),k≤l.length→(∀i,i<k→p (l.getD i 0)=true)→(k<l.length→p (l.getD k 0)=false)→runOf p l=k
 |[],k,h,_,_=>by simp at h;subst h;rfl
 |c::l,0,_,_,h2=>by
  have:=h2 (by simp);simp at this;simp[runOf,this]
 |c::l,k+1,h,h1,h2=>by
  have hc:=h1 0 (by omega);simp at hc;have:=runOf_eq p l k (by simpa using h) (fun i hi=>by simpa using h1 (i+1) (by omega)) (fun hk=>by simpa using h2 (by simpa using hk));simp[runOf,hc,this]
def pcAt (l:List UInt8)(i:Nat):Bool:=if i=0 then isL (l.getD 0 0) else isC (l.getD i 0)
theorem wordLen_eq: ∀(l:List UInt8) (k:Nat),k≤l.length→(∀i,i<k→pcAt l i=true)→(k<l.length→pcAt l k=false)→wordLen l=k
 |[],k,h,_,_=>by simp at h;subst h;rfl
 |c::l,0,_,_,h2=>by
  have:=h2 (by simp);simp[pcAt]at this;simp[wordLen,this]
 |c::l,k+1,h,h1,h2=>by
  have hc:=h1 0 (by omega);simp[pcAt]at hc;have e:=runOf_eq isC l k (by simpa using h) (fun i hi=>by simpa[pcAt] using h1 (i+1) (by omega)) (fun hk=>by simpa[pcAt] using h2 (by simpa using hk));simp[wordLen,hc,e]
structure T1 where
 kind:Int
 n:Int
 text:List UInt8
 len:Nat
 err:Int
def bad (e:Int):T1:=⟨0,0,[],0,e⟩
end Lx
/- What a text's tokens are read as: plain, of no program. An expression; the reader, told by how much it may still do; and that it hangs on that no more, where it is enough. -/
namespace Lx
structure Ex where
 kind:Int
 a:Int
 b:Int
 name:List UInt8
 kids:List Ex
abbrev Tk:=T1×Nat
def ex0:Ex:=⟨0,0,0,[],[]⟩
abbrev Res:=Except (Int×Nat) (Ex×List Tk×Nat)
def atP (E:Nat):List Tk→Nat
 |[]=>E
 |p::_=>p.2
def textP:List Tk→List UInt8
 |[]=>[]
 |p::_=>p.1.text
def kindP:List Tk→Int
 |[]=>0
 |p::_=>p.1.kind
def numP:List Tk→Int
 |[]=>0
 |p::_=>p.1.n
def isT (x:List UInt8)(r:List Tk):Bool:=textP r==x
def andThen (x:Res)(f:Ex→List Tk→Nat→Res):Res:=
 match x with
 | .error e=> .error e
 | .ok (e,r,n)=>f e r n
def endedP (E:Nat)(e:Ex)(r:List Tk)(n:Nat):Res:=if 600<n+1 then .error (4,atP E r) else .ok (e,r,n+1)
def failP (E:Nat)(err:Int)(r:List Tk):Res:= .error (err,atP E r)
def wPlus:List UInt8:=[43]
def wMinus:List UInt8:=[45]
def wAnd:List UInt8:=[38]
def wOpen:List UInt8:=[40]
def wShut:List UInt8:=[41]
def wComma:List UInt8:=[44]
def wColon:List UInt8:=[58]
def wTo:List UInt8:=[46,46]
def wNever:List UInt8:=[110,101,118,101,114]
def wAlways:List UInt8:=[97,108,119,97,121,115]
def wWeekly:List UInt8:=[119,101,101,107,108,121]
def wDates:List UInt8:=[100,97,116,101,115]
def wShift:List UInt8:=[115,104,105,102,116]
def wDays:List (List UInt8):=[[109,111,110],[116,117,101],[119,101,100],[116,104,117],[102,114,105],[115,97,116],[115,117,110]]
def dayBit (x:List UInt8):Nat:=
 if x=wDays.getD 0 [] then 1 else if x=wDays.getD 1 [] then 2 else if x=wDays.getD 2 [] then 4 else if x=wDays.getD 3 [] then 8
 else if x=wDays.getD 4 [] then 16 else if x=wDays.getD 5 [] then 32 else if x=wDays.getD 6 [] then 64 else 0
def goP (E:Nat):Nat→Nat→Nat→Ex→List Tk→Nat→Res
 |0,_,_,_,r,_=>failP E 0 r
 |f+1,0,d,_,r,n=>andThen (goP E f 2 d ex0 r n) fun e r n=>goP E f 1 d e r n
 |f+1,1,d,e,r,n=>
  if isT wPlus r then andThen (goP E f 2 d ex0 r.tail n) fun t r n=>andThen (endedP E ⟨6,0,0,[],[e,t]⟩ r n) fun e r n=>goP E f 1 d e r n
  else if isT wMinus r then andThen (goP E f 2 d ex0 r.tail n) fun t r n=>andThen (endedP E ⟨7,0,0,[],[e,t]⟩ r n) fun e r n=>goP E f 1 d e r n
  else .ok (e,r,n)
 |f+1,2,d,_,r,n=>andThen (goP E f 4 d ex0 r n) fun e r n=>goP E f 3 d e r n
 |f+1,3,d,e,r,n=>
  if isT wAnd r then andThen (goP E f 4 d ex0 r.tail n) fun t r n=>andThen (endedP E ⟨8,0,0,[],[e,t]⟩ r n) fun e r n=>goP E f 3 d e r n
  else .ok (e,r,n)
 |f+1,4,d,_,r,n=>andThen (goP E f 6 d ex0 r n) fun e r n=>goP E f 5 d e r n
 |f+1,5,d,e,r,n=>
  if isT wShift r then
   let m:=isT wMinus r.tail
   let q:=if m then r.tail.tail else r.tail
   if kindP q≠6 then failP E 2 q
   else if 1440≤numP q∨numP q<1 then failP E 3 q
   else andThen (endedP E ⟨9,if m then-numP q else numP q,0,[],[e]⟩ q.tail n) fun e r n=>goP E f 5 d e r n
  else .ok (e,r,n)
 |f+1,6,d,_,r,n=>
  if 40<d then failP E 4 r
  else if isT wOpen r then andThen (goP E f 0 (d+1) ex0 r.tail n) fun e r n=>if isT wShut r then .ok (e,r.tail,n) else failP E 2 r
  else if isT wNever r then endedP E ⟨1,0,0,[],[]⟩ r.tail n
  else if isT wAlways r then endedP E ⟨2,0,0,[],[]⟩ r.tail n
  else if isT wWeekly r then goP E f 7 d ex0 r.tail n
  else if isT wDates r then
   let q:=r.tail
   if kindP q≠5 then failP E 2 q
   else if isT wTo q.tail then
    let p:=q.tail.tail
    if kindP p≠5 then failP E 2 p
    else if numP p<numP q then failP E 3 p
    else goP E f 8 d ⟨5,numP q,numP p,[],[]⟩ p.tail n
   else goP E f 8 d ⟨5,numP q,numP q,[],[]⟩ q.tail n
  else if kindP r=1 then endedP E ⟨10,0,0,textP r,[]⟩ r.tail n
  else if kindP r≠4 then failP E 2 r
  else if isT wMinus r.tail then
   let q:=r.tail.tail
   if kindP q≠4 then failP E 2 q
   else if numP q<numP r+1 then failP E 3 q
   else endedP E ⟨3,numP r,numP q,[],[]⟩ q.tail n
  else failP E 2 r.tail
 |f+1,7,d,e,r,n=>
  if dayBit (textP r)=0 then failP E 2 r
  else if isT wComma r.tail then goP E f 7 d ⟨0,((e.a.toNat|||dayBit (textP r):Nat):Int),0,[],[]⟩ r.tail.tail n
  else goP E f 8 d ⟨4,((e.a.toNat|||dayBit (textP r):Nat):Int),0,[],[]⟩ r.tail n
 |f+1,_,d,e,r,n=>
  if isT wColon r then andThen (goP E f 4 (d+1) ex0 r.tail n) fun k r n=>endedP E ⟨e.kind,e.a,e.b,[],[k]⟩ r n else failP E 2 r
theorem andThen_ok {x:Res}{f:Ex→List Tk→Nat→Res}{z:Ex×List Tk×Nat}(h:andThen x f= .ok z): ∃e r n,x= .ok (e,r,n)∧f e r n= .ok z:=by
 match x with
 | .error _=>cases h
 | .ok (e,r,n)=>exact⟨e,r,n,rfl,h⟩
def rank (m:Nat):Nat:=if m=0 then 4 else if m=2 then 3 else if m=4 then 2 else 1
def need (m:Nat)(r:List Tk):Nat:=4*r.length+rank m
def rd (E m d:Nat)(e:Ex)(r:List Tk)(n:Nat):Res:=goP E (need m r) m d e r n
end Lx
/- The reader, way by way, without a count of what it may still do; the rules of a text. -/
namespace Lx
end Lx
/- How deep an expression is: plain. -/
namespace Lx
theorem kid_lt {e k:Ex}(h:k∈e.kids):sizeOf k<sizeOf e:=by
 have h1:=List.sizeOf_lt_of_mem h;cases e;simp only[Ex.mk.sizeOf_spec]at*;omega
def hgt (e:Ex):Nat:=(e.kids.attach.map fun k=>hgt k.1).foldl max 0+1
 termination_by sizeOf e
 decreasing_by exact kid_lt k.2
abbrev Ru:=List UInt8×Ex
end Lx
/- What lex.isDigit, lex.isLetter and lex.value come to. -/
namespace Go.Proofs.YtpmobjgnmidolaaDoor
open Go.RowKit Lx
theorem digit_any (c:UInt8)(w:World):Calls Tryd.prog 124 #[.int .u8 (c.toNat:Int)] w fun e w'=>e= .returned (.bool (isD c))∧w'=w:=by
 unfold isD;by_cases h1:48≤c.toNat
 ·by_cases h2:c.toNat≤57
  ·have i1:(48:Int)≤(c.toNat:Int):=(by omega);have i2:(c.toNat:Int)≤57:=(by omega);rw[decide_eq_true h1,decide_eq_true h2];go_enter Tryd.func124,Tryd.ntmps124;go_wp2;go_ret;exact⟨rfl,rfl⟩
  ·have i1:(48:Int)≤(c.toNat:Int):=(by omega);have i2: ¬(c.toNat:Int)≤57:=(by omega);rw[decide_eq_true h1,decide_eq_false h2];go_enter Tryd.func124,Tryd.ntmps124;go_wp2;go_ret;exact⟨rfl,rfl⟩
 ·have i1: ¬(48:Int)≤(c.toNat:Int):=by omega
  rw[decide_eq_false h1];go_enter Tryd.func124,Tryd.ntmps124;go_wp2;go_ret;exact⟨rfl,rfl⟩
theorem letter_any (c:UInt8)(w:World):Calls Tryd.prog 123 #[.int .u8 (c.toNat:Int)] w fun e w'=>e= .returned (.bool (isL c))∧w'=w:=by
 unfold isL;by_cases h1:97≤c.toNat
 ·by_cases h2:c.toNat≤122
  ·have i1:(97:Int)≤(c.toNat:Int):=(by omega);have i2:(c.toNat:Int)≤122:=(by omega);rw[decide_eq_true h1,decide_eq_true h2];go_enter Tryd.func123,Tryd.ntmps123;go_wp2;go_ret;exact⟨rfl,rfl⟩
  ·have i1:(97:Int)≤(c.toNat:Int):=(by omega);have i2: ¬(c.toNat:Int)≤122:=(by omega);rw[decide_eq_true h1,decide_eq_false h2];go_enter Tryd.func123,Tryd.ntmps123;go_wp2;go_ret;exact⟨rfl,rfl⟩
 ·have i1: ¬(97:Int)≤(c.toNat:Int):=by omega
  rw[decide_eq_false h1];go_enter Tryd.func123,Tryd.ntmps123;go_wp2;go_ret;exact⟨rfl,rfl⟩
theorem byte_at {s:ByteArray}{l:List UInt8}(hs:s.data.toList=l)(k:Nat)(hk:k<s.size):s[k]=l.getD k 0:=by
 subst hs;have h:k<s.data.size:=hk;show s.data[k]=_;rw[List.getD_eq_getElem?_getD,Array.getElem?_toList,Array.getElem?_eq_getElem h];rfl
end Go.Proofs.YtpmobjgnmidolaaDoor
/- What lex.fits comes to. -/
namespace Go.Proofs.YtpmobjgnmidolaaDoor
open Go.RowKit Lx
end Go.Proofs.YtpmobjgnmidolaaDoor
/- What lex.wordLength and lex.number come to. -/
namespace Go.Proofs.YtpmobjgnmidolaaDoor
open Go.RowKit Lx
set_option maxRecDepth 10000 in
set_option maxHeartbeats 400000 in
theorem wordLen_any (s:ByteArray)(l:List UInt8)(hs:s.data.toList=l)(hl:l.length≤9223372036854775806)(w:World):
  Calls Tryd.prog 112 #[.string s] w fun e w'=>e= .returned (.int .i64 (wordLen l:Int))∧w'=w:=by
 have hz:s.size=l.length:=by rw[←hs,Lib.size_eq]
 go_enter Tryd.func112,Tryd.ntmps112;go_wp2;go_loop [3] (fun i=> ∃k:Nat,k≤l.length∧i= .int .i64 k∧ ∀i,i<k→pcAt l i=true) (fun i=>l.length-(intOf i).toNat);case atStart=>exact⟨0,by omega,rfl,fun i h=>by omega⟩
 case round=>
  obtain⟨k,hk,rfl,hall⟩:=hrel;have HA:Hid (∀i,i<k→pcAt l i=true):=hall;clear hall;by_cases hlt:k<l.length
  ·have hlt':(k:Int)<(l.length:Int):=(by omega);have hk0:(0:Int)≤(k:Int):=(by omega);have g1: ∀h:k<s.size,s[k]=l.getD k 0:=fun h=>byte_at hs k h
   have hp:pcAt l k=if k=0 then isL (l.getD k 0) else isC (l.getD k 0):=by
    unfold pcAt;split
    ·rename_i h;rw[h]
    ·rfl
   generalize hc:l.getD k 0=c at*;have cl:=fun w=>letter_any c w;have cd:=fun w=>digit_any c w;have stop:pcAt l k=false→Hid (wordLen l=k):=fun h=>wordLen_eq l k hk HA.out fun _=>h
   have next:pcAt l k=true→Hid (∀i,i<k+1→pcAt l i=true):=fun h i hi=>by
    by_cases e:i=k
    ·rw[e];exact h
    ·exact HA.out i (by omega)
   cases hL:isL c with
   |true=>
    have hN:=next (by rw[hp];split<;>simp[hL,isC])
    rw[hL]at cl;clear hp hL stop next HA
    go_wp2_with(first
     |(go_at_call 123;refine(cl _).mono ?_;rintro e w' ⟨rfl,rfl⟩)
     |(go_at_call 124;refine(cd _).mono ?_;rintro e w' ⟨rfl,rfl⟩))
    go_round;case rel=>exact⟨k+1,by omega,by go_num,hN.out⟩
    case measure=>simp[intOf];omega
   |false=>
    rw[hL]at cl;by_cases h0:k=0
    ·have hS:=stop (by rw[hp,if_pos h0,hL]);clear hp hL stop next HA hk0 hlt'
     subst h0;have hlt0:(0:Int)<(l.length:Int):=(by omega)
     go_wp2_with(first
      |(go_at_call 123;refine(cl _).mono ?_;rintro e w' ⟨rfl,rfl⟩)
      |(go_at_call 124;refine(cd _).mono ?_;rintro e w' ⟨rfl,rfl⟩))
     go_ret;exact⟨by rw[hS.out];rfl,rfl⟩
    ·have h0':(0:Int)<(k:Int):=(by omega);cases hD:isD c with
     |true=>
      have hN:=next (by rw[hp,if_neg h0];simp[hD,isC])
      rw[hD]at cd;clear hp hL hD stop next HA
      go_wp2_with(first
       |(go_at_call 123;refine(cl _).mono ?_;rintro e w' ⟨rfl,rfl⟩)
       |(go_at_call 124;refine(cd _).mono ?_;rintro e w' ⟨rfl,rfl⟩))
      go_round;case rel=>exact⟨k+1,by omega,by go_num,hN.out⟩
      case measure=>simp[intOf];omega
     |false=>
      rw[hD]at cd;by_cases h95:c.toNat=95
      ·have hN:=next (by rw[hp,if_neg h0];simp[isC,h95])
       have i95:((c.toNat:Int)==95)=true:=(by simp;omega);clear hp hL hD stop next HA h95
       go_wp2_with(first
        |(go_at_call 123;refine(cl _).mono ?_;rintro e w' ⟨rfl,rfl⟩)
        |(go_at_call 124;refine(cd _).mono ?_;rintro e w' ⟨rfl,rfl⟩))
       go_round;case rel=>exact⟨k+1,by omega,by go_num,hN.out⟩
       case measure=>simp[intOf];omega
      ·have hS:=stop (by rw[hp,if_neg h0];simp[isC,h95,hL,hD]);have i95:((c.toNat:Int)==95)=false:=(by simp;omega);clear hp hL hD stop next HA h95
       go_wp2_with(first
        |(go_at_call 123;refine(cl _).mono ?_;rintro e w' ⟨rfl,rfl⟩)
        |(go_at_call 124;refine(cd _).mono ?_;rintro e w' ⟨rfl,rfl⟩))
       go_ret;exact⟨by rw[hS.out];rfl,rfl⟩
  ·have hS:Hid (wordLen l=k):=wordLen_eq l k hk HA.out fun h=>absurd h hlt;have hlt': ¬(k:Int)<(l.length:Int):=(by omega);go_wp2;go_ret;exact⟨by rw[hS.out];rfl,rfl⟩
end Go.Proofs.YtpmobjgnmidolaaDoor
/- More plain facts about texts: signs and words. -/
namespace Lx
def wordsL:List (List UInt8):=[[97,108,119,97,121,115],[100,97,116,101,115],[102,114,105],[109,111,110],[110,101,118,101,114],[114,117,108,101],[115,97,116],[115,104,105,102,116],[115,117,110],[116,104,117],[116,117,101],[119,101,100],[119,101,101,107,108,121]]
def isWordL (t:List UInt8):Bool:=wordsL.any fun w=>w==t
end Lx
/- What lex.Words and lex.isWord come to. -/
namespace Go.Proofs.YtpmobjgnmidolaaDoor
open Go.RowKit Lx
def wordCells:Array Value:=(wordsL.map fun l=>Value.string ⟨l.toArray⟩).toArray
theorem wordCell (j:Nat)(hj:j<13):wordCells[j]? =some (.string ⟨(wordsL.getD j []).toArray⟩):=by
 have h:j<wordsL.length:=hj;unfold wordCells;simp only[List.getElem?_toArray,List.getElem?_map,List.getD_eq_getElem?_getD,List.getElem?_eq_getElem h];rfl
set_option maxRecDepth 10000 in
set_option maxHeartbeats 400000 in
theorem words_any (w:World):Calls Tryd.prog 126 #[] w fun e w'=>e= .returned (.slice (some ⟨w.heap.size,0,none⟩) 13 13)∧w'=w.alloc (.cells wordCells 9):=by
 go_enter Tryd.func126,Tryd.ntmps126;go_wp2;go_ret;exact⟨rfl,rfl⟩
theorem isWord_no {x:List UInt8}(h: ∀j,j<13→wordsL.getD j []≠x):isWordL x=false:=by
 cases e:isWordL x with
 |false=>rfl
 |true=>
  unfold isWordL at e;rw[List.any_eq_true]at e;obtain⟨y,hy,hx⟩:=e;obtain⟨j,hj,rfl⟩:=List.getElem_of_mem hy;have hj':j<13:=hj;exact absurd (by simpa[List.getD,hj] using hx) (h j hj')
theorem isWord_yes {x:List UInt8}(j:Nat)(hj:j<13)(h:wordsL.getD j []=x):isWordL x=true:=by
 unfold isWordL;rw[List.any_eq_true];have hj':j<wordsL.length:=hj;exact⟨wordsL.getD j [],by simp[List.getD,hj'],by rw[h];exact beq_self_eq_true x⟩
set_option maxRecDepth 10000 in
set_option maxHeartbeats 400000 in
theorem find_any (x:ByteArray)(l:List UInt8)(hx:x.data.toList=l)(g:Nat)(w:World)(hg:w.heap[g]? =some (.cells wordCells 9 (0,0))):
  Calls Tryd.prog 129 #[.slice (some ⟨g,0,none⟩) 13 13,.string x] w fun e w'=>(∃i:Int,e= .returned (.int .i64 i)∧decide (0≤i)=isWordL l)∧w'=w:=by
 have hcell: ∀j,j<13→w.cell? ⟨g,j,none⟩=some (.string ⟨(wordsL.getD j []).toArray⟩):=fun j hj=>by rw[cell_of_row _ _ _ _ _ _ hg,wordCell j hj]
 have HC:Hid (∀j,j<13→w.cell? ⟨g,j,none⟩=some (.string ⟨(wordsL.getD j []).toArray⟩)):=hcell;clear hcell hg;go_enter Tryd.func129,Tryd.ntmps129;go_wp2;go_loop [8] (fun i=> ∃k:Nat,k≤13∧i= .int .i64 k∧ ∀j,j<k→wordsL.getD j []≠l) (fun i=>13-(intOf i).toNat);case atStart=>exact⟨0,by omega,rfl,fun i h=>by omega⟩
 case round=>
  obtain⟨k,hk,rfl,hall⟩:=hrel;have HA:Hid (∀j,j<k→wordsL.getD j []≠l):=hall;clear hall;by_cases hlt:k<13
  ·have hlt':(k:Int)<13:=(by omega);have hk0:(0:Int)≤(k:Int):=(by omega);have ck:=HC.out k hlt;generalize hy:(⟨(wordsL.getD k []).toArray⟩:ByteArray)=y at ck;have hyl:y.data.toList=wordsL.getD k []:=(by rw[←hy]);by_cases he:wordsL.getD k []=l
   ·have hq:(x.toList==y.toList)=true:=(by rw[Lib.toList_data,Lib.toList_data,hyl,hx,he];simp);have hW:Hid (isWordL l=true):=isWord_yes k hlt he;clear he hyl hy;go_wp2;go_ret;exact⟨⟨_,rfl,by rw[hW.out];simp⟩,rfl⟩
   ·have hq:(x.toList==y.toList)=false:=by
     rw[Lib.toList_data,Lib.toList_data,hyl,hx];rw[beq_eq_false_iff_ne];exact fun e=>he e.symm
    have HE:Hid (wordsL.getD k []≠l):=he;clear he hyl hy;go_wp2;go_round
    case rel=>
     refine⟨k+1,by omega,by go_num,fun j hj=> ?_⟩;by_cases e:j=k
     ·subst e;exact HE.out
     ·exact HA.out j (by omega)
    case measure=>simp[intOf];omega
  ·have hkl:k=13:=(by omega);subst hkl;have hW:Hid (isWordL l=false):=isWord_no HA.out;go_wp2;go_ret;exact⟨⟨_,rfl,by rw[hW.out];simp⟩,rfl⟩
set_option maxRecDepth 10000 in
set_option maxHeartbeats 400000 in
theorem isWord_any (x:ByteArray)(l:List UInt8)(hx:x.data.toList=l)(w:World):
  Calls Tryd.prog 113 #[.string x] w fun e w'=>e= .returned (.bool (isWordL l))∧Below w.heap.size w w':=by
 have hg:(w.alloc (.cells wordCells 9)).heap[w.heap.size]? =some (.cells wordCells 9 (0,0)):=heap_alloc_new w _;have hb:Below w.heap.size w (w.alloc (.cells wordCells 9)):=(Below.refl _ _).alloc (Nat.le_refl _) _;have cf:=find_any x l hx _ _ hg;have cw:=words_any w;generalize w.alloc (.cells wordCells 9)=w1 at*;go_enter Tryd.func113,Tryd.ntmps113
 go_wp2_with(first
  |(go_at_call 126;refine cw.mono ?_;rintro e w' ⟨rfl,rfl⟩)
  |(go_at_call 125;go_in)
  |(go_at_call 129;refine cf.mono ?_;rintro e w' ⟨⟨i,rfl,hi⟩,rfl⟩))
 go_ret;exact⟨by rw[←hi];rfl,hb⟩
end Go.Proofs.YtpmobjgnmidolaaDoor
/- Plain mathematics of years, months and days of 2000 to 2399: no program in sight. -/
namespace Go.Proofs.YtpmobjgnmidolaaDoor.Cal
def lp (y:Int):Int:=if y%4=0∧(¬y%100=0∨y%400=0) then 1 else 0
def cum (y m:Int):Int:=
 if m≤1 then 0 else if m=2 then 31 else if m=3 then 59+lp y else if m=4 then 90+lp y
 else if m=5 then 120+lp y else if m=6 then 151+lp y else if m=7 then 181+lp y
 else if m=8 then 212+lp y else if m=9 then 243+lp y else if m=10 then 273+lp y
 else if m=11 then 304+lp y else if m=12 then 334+lp y else 365+lp y
def ys (y:Int):Int:=365*(y-2000)+((y-2000+3)/4-(y-2000+99)/100+(y-2000+399)/400)
def num (y m d:Int):Int:=ys y+cum y m+d-1
end Go.Proofs.YtpmobjgnmidolaaDoor.Cal
/- What each function of package civil comes to, said of the plain functions of Cal. -/
namespace Go.Proofs.YtpmobjgnmidolaaDoor
open Go.RowKit
def tab:List Int:=[31,28,31,30,31,30,31,31,30,31,30,31]
end Go.Proofs.YtpmobjgnmidolaaDoor
/- What Number, Of, Week and the smaller functions beside them come to. -/
namespace Go.Proofs.YtpmobjgnmidolaaDoor
open Go.RowKit
end Go.Proofs.YtpmobjgnmidolaaDoor
/- A region that draws its order and makes memory: what each operation yields is said by a predicate that later operations keep; then whatever order is drawn, all that is said holds at the end. It speaks of no program. -/
namespace Go.Proofs.YtpmobjgnmidolaaDoor
open Go
def uc:List Bool→Nat
 |[]=>0
 |b::l=>(if b then 0 else 1)+uc l
theorem uc_set: ∀(l:List Bool) (i:Nat),l[i]? =some false→uc (l.set i true)+1=uc l
 |[],i,h=>by simp at h
 |b::l,0,h=>by
  simp at h;subst h;simp[uc];omega
 |b::l,i+1,h=>by
  have:=uc_set l i (by simpa using h);simp only[List.set_cons_succ,uc];omega
theorem uc_zero: ∀(l:List Bool),uc l=0→ ∀i:Nat,l[i]? ≠some false
 |[],_,i=>by simp
 |b::l,h,0=>by
  cases b
  ·simp[uc]at h
  ·simp
 |b::l,h,i+1=>by
  have:uc l=0:=(by simp only[uc]at h;omega);simpa using uc_zero l this i
theorem uc_rep: ∀n,uc (List.replicate n false)=n
 |0=>rfl
 |n+1=>by simp only[List.replicate_succ,uc,uc_rep n];simp;omega
section
variable {P:Program} {ops:Array Oper} {Q:Exit→Act→World→Prop}
theorem ready_false {listed:Array Bool}{i:Nat}(h:i∈Region.ready .any ops listed):listed.toList[i]? =some false:=by
 have:=(mem_ready.1 h).1;by_cases hi:i<listed.size
 ·simp[Array.getD,hi]at this;simp[hi,this]
 ·simp[Array.getD,hi]at this
theorem wpAny_inv (I:Array Bool→Act→World→Prop)(hstep: ∀listed a w i,I listed a w→i∈Region.ready .any ops listed→wpOp P ops Q i (fun a' w'=>I (listed.setIfInBounds i true) a' w') a w)
  (hend: ∀listed a w,I listed a w→Region.ready .any ops listed=[]→Q .normal a w):
  ∀(fuel:Nat) (listed:Array Bool) (a:Act) (w:World),uc listed.toList≤fuel→I listed a w→wpAny P .any ops Q fuel listed a w
 |0,listed,a,w,hu,h=>by
  have hr:Region.ready .any ops listed=[]:=by
   cases hr:Region.ready .any ops listed with
   |nil=>rfl
   |cons i l=>
    have h1:=ready_false (ops:=ops) (listed:=listed) (i:=i) (by rw[hr];simp);exact absurd h1 (uc_zero _ (by omega) i)
  exact⟨hr,hend _ _ _ h hr⟩
 |fuel+1,listed,a,w,hu,h=>by
  refine⟨fun hr=>hend _ _ _ h hr,fun i hi=> ?_⟩;have h1:=ready_false hi;have h2:=uc_set _ i h1;refine wpOp_mono (fun a' w' h'=> ?_) (hstep listed a w i h hi);refine wpAny_inv I hstep hend fuel _ a' w' ?_ h';rw[Array.toList_setIfInBounds];omega
def backB (ops:Array Oper):Bool:=(List.range ops.size).all fun i=>match ops[i]? with|none=>true|some o=>o.after.all fun e=> !Region.binds .any e||decide (e.on<i)
theorem ready_nil (hB:backB ops=true){listed:Array Bool}(hr:Region.ready .any ops listed=[]): ∀i,i<ops.size→listed.getD i true=true:=by
 intro i;induction i using Nat.strongRecOn with
 |ind i ih=>
  intro hi;cases hb:listed.getD i true with
  |true=>rfl
  |false=>
   exfalso;have ho:ops[i]? =some ops[i]:=(by simp[hi])
   have hm:i∈Region.ready .any ops listed:=mem_ready.2 ⟨hb,ops[i],ho,fun e he hbd=>by
    have h1:=List.all_eq_true.1 hB i (by simpa using hi);rw[ho]at h1;have h2:=Array.all_eq_true'.1 h1 e he;have h3:e.on<i:=(by rw[hbd]at h2;simpa using h2);have h4:=ih e.on h3 (by omega);by_cases hs:e.on<listed.size
    ·simp[Array.getD,hs]at h4⊢;exact h4
    ·exfalso
     have h5:i<listed.size:=by
      by_cases h6:i<listed.size
      ·exact h6
      ·simp[Array.getD,h6]at hb
     omega⟩
   rw[hr]at hm;cases hm
def dstB (ops:Array Oper):Bool:=(List.range ops.size).all fun i=>(List.range ops.size).all fun j=>i==j||(match(ops[i]?).bind (·.dst),(ops[j]?).bind (·.dst) with|some s,some t=>s !=t|_,_=>true)
def inB (ops:Array Oper)(n:Nat):Bool:=(List.range ops.size).all fun i=>(match(ops[i]?).bind (·.dst) with|some s=>decide (s<n)|none=>true)
structure St (ops:Array Oper)(sp:Nat→Value→World→Prop)(a0:Act)(listed:Array Bool)(a:Act)(w:World):Prop where
 defs:a.defers=a0.defers
 size:a.tmps.size=a0.tmps.size
 kept: ∀s,(∀i o,ops[i]? =some o→listed.getD i true=true→o.dst≠some s)→a.tmps.getD s undef=a0.tmps.getD s undef
 has: ∀i o,ops[i]? =some o→listed.getD i true=true→ ∀s,o.dst=some s→sp i (a.tmps.getD s undef) w
theorem getD_set_same (t:Array Value)(s:Nat)(v:Value)(h:s<t.size):(t.setIfInBounds s v).getD s undef=v:=by simp[Array.getD,h]
theorem getD_set_other (t:Array Value)(s s':Nat)(v:Value)(h:s≠s'):(t.setIfInBounds s v).getD s' undef=t.getD s' undef:=by
 by_cases hs:s'<t.size
 ·simp[Array.getD,hs,h]
 ·simp[Array.getD,hs]
theorem getD_listed (l:Array Bool)(i j:Nat):(l.setIfInBounds i true).getD j true=(decide (i=j)||l.getD j true):=by
 by_cases hj:j<l.size
 ·by_cases hij:i=j
  ·subst hij;simp[Array.getD,hj]
  ·simp[Array.getD,hj,hij]
 ·simp[Array.getD,hj]
def notDst (ops:Array Oper)(s:Nat):Bool:=ops.all fun o=>o.dst !=some s
theorem nd {s:Nat}(h:notDst ops s=true)(j:Nat)(p:Oper)(hp:ops[j]? =some p):p.dst≠some s:=by
 have:=Array.all_eq_true'.1 h p (Array.mem_of_getElem? hp);simpa using this
theorem arr_ext (t:Array Value)(l:List Value)(hs:t.size=l.length)(h: ∀i,i<l.length→t.getD i undef=l.getD i undef):t=l.toArray:=by
 apply Array.ext
 ·simpa using hs
 ·intro i h1 h2;have:=h i (by simpa using h2);simp only[List.size_toArray]at h2;simpa[Array.getD,List.getD,h1,h2] using this
theorem wp_region_flow {id:Nat}{a0:Act}{w:World}(hm:P.follows .mixedOrders=true)(hback:backB ops=true)(hdst:dstB ops=true)(hin:inB ops a0.tmps.size=true)
  (J:(Nat→Bool)→Act→World→Prop) (sp:Nat→Value→World→Prop)
  (hJ: ∀L:Nat→Bool,(∀i,i<ops.size→L i=false)→J L a0 {w with drawn:=w.drawn+1})
  (hstep: ∀(i:Nat) (o:Oper) (L:Nat→Bool) (a:Act) (W:World),ops[i]? =some o→L i=false→(∀e∈o.after,Region.binds .any e=true→L e.on=true)→J L a W→
    a.defers=a0.defers→(∀s,(∀(j:Nat) (p:Oper),ops[j]? =some p→L j=true→p.dst≠some s)→a.tmps.getD s undef=a0.tmps.getD s undef)→(∀(j:Nat) (p:Oper),ops[j]? =some p→L j=true→ ∀s,p.dst=some s→sp j (a.tmps.getD s undef) W)→
    wpOp P ops Q i (fun a' W'=> ∃v,a'=a.put o.dst v∧(o.dst≠none→sp i v W')∧(∀j u,L j=true→sp j u W→sp j u W')∧J (fun k=>decide (i=k)||L k) a' W') a W)
  (hend: ∀(L:Nat→Bool) (a:Act) (W:World),(∀i,i<ops.size→L i=true)→J L a W→a.defers=a0.defers→a.tmps.size=a0.tmps.size→(∀s,(∀(j:Nat) (p:Oper),ops[j]? =some p→p.dst≠some s)→a.tmps.getD s undef=a0.tmps.getD s undef)→
    (∀(j:Nat) (p:Oper),ops[j]? =some p→ ∀s,p.dst=some s→sp j (a.tmps.getD s undef) W)→Q .normal a W):(Code.region id ops true).wp P Q a0 w:=by
 refine wp_region_any hm (wpAny_inv (fun listed a W=>listed.size=ops.size∧J (fun i=>listed.getD i true) a W∧St ops sp a0 listed a W) ?_ ?_ _ _ _ _ ?_ ?_)
 ·rintro listed a W i ⟨hs,hj,st⟩ hi;obtain⟨hf,o,ho,hall⟩:=mem_ready.1 hi
  have hL: ∀e∈o.after,Region.binds .any e=true→listed.getD e.on true=true:=fun e he hb=>by
   have:=hall e he hb;by_cases hs:e.on<listed.size
   ·simp[Array.getD,hs]at this⊢;exact this
   ·simp[Array.getD,hs]
  have hil:i<ops.size:=(Array.getElem?_eq_some_iff.1 ho).1;refine wpOp_mono ?_ (hstep i o (fun i=>listed.getD i true) a W ho hf hL hj st.defs (fun s h=>st.kept s h) (fun j p hp hl s hsd=>st.has j p hp hl s hsd));rintro a' W' ⟨v,rfl,hv,hmono,hj'⟩;have hfun:(fun k=>(listed.setIfInBounds i true).getD k true)=fun k=>decide (i=k)||listed.getD k true:=funext fun k=>getD_listed listed i k;refine⟨by simpa using hs,by rw[hfun];exact hj',?_⟩
  have hdd: ∀(j:Nat) (p:Oper) s t,ops[j]? =some p→i≠j→o.dst=some s→p.dst=some t→s≠t:=fun j p s t hp hij h1 h2=>by
   have q1:=List.all_eq_true.1 hdst i (by simpa using hil);have q2:=List.all_eq_true.1 q1 j (by simpa using(Array.getElem?_eq_some_iff.1 hp).1);rw[ho,hp]at q2;simp only[Option.bind_some,h1,h2]at q2;simpa[hij] using q2
  have hds: ∀s,o.dst=some s→s<a.tmps.size:=fun s h1=>by
   have q1:=List.all_eq_true.1 hin i (by simpa using hil);rw[ho]at q1;simp only[Option.bind_some,h1]at q1;rw[st.size];simpa using q1
  have hlist: ∀j,(listed.setIfInBounds i true).getD j true=true→i=j∨listed.getD j true=true:=fun j h=>by
   rw[getD_listed]at h;simpa using h
  cases hd:o.dst with
  |none=>
   refine⟨st.defs,st.size,fun s h=> ?_,fun j p hp hl s hps=> ?_⟩
   ·exact st.kept s fun j p hp hl=>h j p hp (by rw[getD_listed,hl];simp)
   ·rcases hlist j hl with rfl|hl'
    ·rw[ho]at hp;have:=Option.some.inj hp;subst this;rw[hd]at hps;cases hps
    ·exact hmono j _ hl' (st.has j p hp hl' s hps)
  |some d=>
   have hdl:=hds d hd;refine⟨st.defs,by simpa[Act.put] using st.size,fun s h=> ?_,fun j p hp hl s hps=> ?_⟩
   ·have hsd:d≠s:=fun e=>by
     subst e;exact h i o ho (by rw[getD_listed];simp) hd
    show(a.tmps.setIfInBounds d v).getD s undef=_;rw[getD_set_other _ _ _ _ hsd];exact st.kept s fun j p hp hl=>h j p hp (by rw[getD_listed,hl];simp)
   ·show sp j ((a.tmps.setIfInBounds d v).getD s undef) W';rcases hlist j hl with rfl|hl'
    ·rw[ho]at hp;have:=Option.some.inj hp;subst this;rw[hd]at hps;have:=Option.some.inj hps;subst this;rw[getD_set_same _ _ _ hdl];exact hv (by rw[hd];simp)
    ·by_cases hij:i=j
     ·subst hij;rw[hf]at hl';cases hl'
     ·rw[getD_set_other _ _ _ _ (hdd j p d s hp hij hd hps)];exact hmono j _ hl' (st.has j p hp hl' s hps)
 ·rintro listed a W ⟨hs,hj,st⟩ hr;have hall:=ready_nil hback hr;exact hend _ a W hall hj st.defs st.size (fun s h=>st.kept s fun j p hp _=>h j p hp) (fun j p hp s hps=>st.has j p hp (hall j (Array.getElem?_eq_some_iff.1 hp).1) s hps)
 ·simp[uc_rep]
 ·have hf: ∀i,i<ops.size→(Array.replicate ops.size false).getD i true=false:=fun i hi=>by simp[Array.getD,hi]
  refine⟨by simp,hJ _ hf,rfl,rfl,fun _ _=>rfl,fun i o ho hl s _=> ?_⟩;rw[hf i (Array.getElem?_eq_some_iff.1 ho).1]at hl;cases hl
end
end Go.Proofs.YtpmobjgnmidolaaDoor
/- Small facts about frames and lists of values. -/
namespace Go.Proofs.YtpmobjgnmidolaaDoor
open Go
theorem gd (A:Act)(s:Nat):A.tmps[s]?.getD undef=A.tmps.getD s undef:=by simp
theorem gdb {A:Act}{s:Nat}{b:Bool}(h:A.tmps.getD s undef= .bool b):A.tmps[s]? =some (.bool b):=by
 rw[←gd]at h;cases hx:A.tmps[s]? with
 |none=>rw[hx]at h;simp[undef]at h
 |some v=>rw[hx]at h;simp at h;rw[h]
def AllL:Nat→(List Value→Prop)→Prop
 |0,P=>P []
 |n+1,P=> ∀u,AllL n fun l=>P (u::l)
theorem allL: ∀(n:Nat) (P:List Value→Prop),AllL n P→ ∀l,l.length=n→P l
 |0,P,h,l,hl=>by
  have e:l=[]:=List.length_eq_zero_iff.1 hl;subst e;exact h
 |n+1,P,h,[],hl=>by simp at hl
 |n+1,P,h,u::l,hl=>allL n (fun l=>P (u::l)) (h u) l (by simpa using hl)
end Go.Proofs.YtpmobjgnmidolaaDoor
/- What lex.clock comes to. -/
namespace Go.Proofs.YtpmobjgnmidolaaDoor
open Go.RowKit Lx
end Go.Proofs.YtpmobjgnmidolaaDoor
/- Who is reached from whom: plain. Marks that are followed one by one, and all ways at once, are the same. -/
namespace Lx
abbrev Way (E:Nat→Nat→Bool)(i k:Nat):Prop:=Relation.TransGen (fun a b=>E a b=true) i k
def wars (E:Nat→Nat→Bool):Nat→Nat→Nat→Bool
 |0,i,k=>E i k
 |m+1,i,k=>wars E m i k||(wars E m i m&&wars E m m k)
theorem wars_way {E:Nat→Nat→Bool}: ∀(m i k:Nat),wars E m i k=true→Way E i k
 |0,i,k,h=> .single h
 |m+1,i,k,h=>by
  simp only[wars,Bool.or_eq_true,Bool.and_eq_true]at h;rcases h with h|⟨h1,h2⟩
  ·exact wars_way m i k h
  ·exact(wars_way m i m h1).trans (wars_way m m k h2)
theorem wars_mono {E:Nat→Nat→Bool}{m i k:Nat}(h:wars E m i k=true): ∀d,wars E (m+d) i k=true
 |0=>h
 |d+1=>by
  show wars E ((m+d)+1) i k=true;simp only[wars,wars_mono h d,Bool.true_or]
theorem wars_cat {E:Nat→Nat→Bool}{m i j k:Nat}(hj:j<m)(h1:wars E m i j=true)(h2:wars E m j k=true):wars E m i k=true:=by
 induction m generalizing i j k with
 |zero=>omega
 |succ m ih=>
  by_cases hjm:j=m
  ·subst hjm;simp only[wars,Bool.or_eq_true,Bool.and_eq_true]at h1 h2⊢
   have a:wars E j i j=true:=by
    rcases h1 with h|⟨h,_⟩<;>exact h
   have b:wars E j j k=true:=by
    rcases h2 with h|⟨_,h⟩<;>exact h
   exact .inr ⟨a,b⟩
  ·have hj':j<m:=(by omega);simp only[wars,Bool.or_eq_true,Bool.and_eq_true]at h1 h2⊢;rcases h1 with h1|⟨h1,h1'⟩
   ·rcases h2 with h2|⟨h2,h2'⟩
    ·exact .inl (ih hj' h1 h2)
    ·exact .inr ⟨ih hj' h1 h2,h2'⟩
   ·rcases h2 with h2|⟨h2,h2'⟩
    ·exact .inr ⟨h1,ih hj' h1' h2⟩
    ·exact .inr ⟨h1,h2'⟩
theorem way_wars {E:Nat→Nat→Bool}{n:Nat}(hE: ∀i k,E i k=true→k<n){i k:Nat}(h:Way E i k):wars E n i k=true∧k<n:=by
 induction h with
 |single h=>exact⟨by have:=wars_mono (E:=E) (m:=0) h n;simpa using this,hE _ _ h⟩
 |tail _ h ih=>
  refine⟨wars_cat ih.2 ih.1 ?_,hE _ _ h⟩;have:=wars_mono (E:=E) (m:=0) h n;simpa using this
def upd (m:Nat→Bool)(n:Nat):Nat→Bool:=fun k=>decide (k=n)||m k
def fol (S:Nat→List Nat):Nat→(Nat→Bool)→Nat→Nat→Bool
 |0,m,_=>m
 |f+1,m,r=>(S r).foldl (fun m n=>if m n=true then m else fol S f (upd m n) n) m
def unm (m:Nat→Bool):Nat→Nat
 |0=>0
 |n+1=>(if m n=true then 0 else 1)+unm m n
theorem unm_le {m m':Nat→Bool}(h: ∀k,m k=true→m' k=true): ∀n,unm m' n≤unm m n
 |0=>by simp[unm]
 |n+1=>by
  have:=unm_le h n;simp only[unm];by_cases c:m n=true
  ·rw[if_pos c,if_pos (h n c)];omega
  ·rw[if_neg c];split<;>omega
theorem unm_upd {m:Nat→Bool}{k:Nat}(hk:m k=false): ∀n,k<n→unm (upd m k) n+1≤unm m n
 |0,h=>by omega
 |n+1,h=>by
  have hle:=unm_le (m:=m) (m':=upd m k) (fun q hq=>by simp[upd,hq]) n;simp only[unm];by_cases c:k=n
  ·subst c;rw[if_pos (by simp[upd]),if_neg (by rw[hk];decide)];omega
  ·have:=unm_upd hk n (by omega);have e:upd m k n=m n:=(by simp[upd,show n≠k from fun e=>c e.symm]);rw[e];omega
structure Fol (S:Nat→List Nat)(m m':Nat→Bool)(r:Nat):Prop where
 up: ∀k,m k=true→m' k=true
 next: ∀n∈S r,m' n=true
 new: ∀v,m' v=true→m v=false→ ∀n∈S v,m' n=true
 way: ∀v,m' v=true→m v=false→Way (fun a b=>(S a).contains b) r v
theorem fol_ok {S:Nat→List Nat}{n:Nat}(hS: ∀r,∀k∈S r,k<n): ∀(f:Nat) (m:Nat→Bool) (r:Nat),unm m n+1≤f→Fol S m (fol S f m r) r
 |0,_,_,h=>by omega
 |f+1,m,r,hf=>by
  have aux: ∀(l:List Nat),(∀k∈l,k∈S r)→ ∀m1:Nat→Bool,(∀k,m k=true→m1 k=true)→
    (∀k,m1 k=true→(l.foldl (fun m n=>if m n=true then m else fol S f (upd m n) n) m1) k=true)∧(∀k∈l,(l.foldl (fun m n=>if m n=true then m else fol S f (upd m n) n) m1) k=true)∧
    (∀v,(l.foldl (fun m n=>if m n=true then m else fol S f (upd m n) n) m1) v=true→m1 v=false→(∀k∈S v,(l.foldl (fun m n=>if m n=true then m else fol S f (upd m n) n) m1) k=true)∧Way (fun a b=>(S a).contains b) r v):=by
   intro l;induction l with
   |nil=>
    intro _ m1 _;exact⟨fun k h=>h,fun k hk=>(by cases hk),fun v h1 h2=>by rw[List.foldl_nil]at h1;rw[h1]at h2;cases h2⟩
   |cons q l ih=>
    intro hl m1 hm;have hq:=hl q List.mem_cons_self;have hl': ∀k∈l,k∈S r:=fun k hk=>hl k (List.mem_cons_of_mem _ hk);simp only[List.foldl_cons];by_cases c:m1 q=true
    ·rw[if_pos c];obtain⟨a1,a2,a3⟩:=ih hl' m1 hm;refine⟨a1,fun k hk=> ?_,a3⟩;rcases List.mem_cons.1 hk with rfl|hk
     ·exact a1 _ c
     ·exact a2 k hk
    ·rw[if_neg c];have c':m1 q=false:=(by simpa using c);have hu:=unm_upd c' n (hS r q hq);have hle:=unm_le hm n;have F:=fol_ok hS f (upd m1 q) q (by omega);have hup: ∀k,m1 k=true→fol S f (upd m1 q) q k=true:=fun k hk=>F.up k (by simp[upd,hk]);have hqm:fol S f (upd m1 q) q q=true:=F.up q (by simp[upd]);obtain⟨a1,a2,a3⟩:=ih hl' (fol S f (upd m1 q) q) (fun k hk=>hup k (hm k hk));have hone:Way (fun a b=>(S a).contains b) r q:= .single (by simpa using hq);refine⟨fun k hk=>a1 k (hup k hk),fun k hk=> ?_,fun v h1 h2=> ?_⟩
     ·rcases List.mem_cons.1 hk with rfl|hk
      ·exact a1 _ hqm
      ·exact a2 k hk
     ·cases hv:fol S f (upd m1 q) q v with
      |false=>exact a3 v h1 hv
      |true=>
       by_cases e:v=q
       ·subst e;exact⟨fun k hk=>a1 k (F.next k hk),hone⟩
       ·have hvu:upd m1 q v=false:=(by simp[upd,e,h2]);exact⟨fun k hk=>a1 k (F.new v hv hvu k hk),hone.trans (F.way v hv hvu)⟩
  obtain⟨a1,a2,a3⟩:=aux (S r) (fun k hk=>hk) m (fun k hk=>hk);exact⟨a1,a2,fun v h1 h2=>(a3 v h1 h2).1,fun v h1 h2=>(a3 v h1 h2).2⟩
theorem fol_way {S:Nat→List Nat}{n:Nat}(hS: ∀r,∀k∈S r,k<n){f r v:Nat}(hf:n+1≤f):fol S f (fun _=>false) r v=true↔Way (fun a b=>(S a).contains b) r v:=by
 have hz:unm (fun _=>false) n≤n:=by
  have: ∀n,unm (fun _=>false) n=n:=by
   intro n;induction n with
   |zero=>rfl
   |succ n ih=>simp[unm,ih];omega
  rw[this];omega
 have F:=fol_ok hS f (fun _=>false) r (by omega);constructor
 ·intro h;exact F.way v h rfl
 ·intro h;induction h with
  |single h=>exact F.next _ (by simpa using h)
  |tail _ h ih=>exact F.new _ ih rfl _ (by simpa using h)
theorem fol_wars {S:Nat→List Nat}{n:Nat}(hS: ∀r,∀k∈S r,k<n){f r v:Nat}(hf:n+1≤f):fol S f (fun _=>false) r v=wars (fun a b=>(S a).contains b) n r v:=by
 have h1:=fol_way hS (r:=r) (v:=v) hf;cases h:wars (fun a b=>(S a).contains b) n r v with
 |true=>exact h1.2 (wars_way _ _ _ h)
 |false=>
  cases h2:fol S f (fun _=>false) r v with
  |false=>rfl
  |true=>
   have:=(way_wars (n:=n) (fun i k hk=>hS i k (by simpa using hk)) (h1.1 h2)).1;rw[h]at this;cases this
end Lx
/-
  Plain facts about bits, words and masks, that speak of no program: a mask of minutes is a function from places to bits.
-/
namespace Msk
def num (p:Nat→Bool):Nat→Nat
 |0=>0
 |n+1=>num p n+if p n then 2^n else 0
theorem num_lt (p:Nat→Bool): ∀n,num p n<2^n
 |0=>by simp[num]
 |n+1=>by
  have:=num_lt p n;simp only[num,Nat.pow_succ];split<;>omega
theorem num_bit (p:Nat→Bool)(j:Nat): ∀n,(num p n).testBit j=(decide (j<n)&&p j)
 |0=>by simp[num]
 |n+1=>by
  have hl:=num_lt p n;have ih:=num_bit p j n;simp only[num];by_cases hp:p n=true
  ·rw[if_pos hp,Nat.add_comm];by_cases h1:j<n
   ·rw[Nat.testBit_two_pow_add_gt h1,ih];have:j<n+1:=(by omega);simp[h1,this]
   ·by_cases h2:j=n
    ·subst h2;rw[Nat.testBit_two_pow_add_eq,ih];simp[hp]
    ·have h3: ¬j<n+1:=(by omega);have h4:2^(n+1)≤2^j:=Nat.pow_le_pow_right (by omega) (by omega);rw[Nat.testBit_lt_two_pow (by rw[Nat.pow_succ]at h4;omega)];simp[h3]
  ·rw[if_neg hp,Nat.add_zero,ih];by_cases h2:j=n
   ·subst h2;simp at hp;simp[hp]
   ·by_cases h1:j<n
    ·have:j<n+1:=(by omega);simp[h1,this]
    ·have: ¬j<n+1:=(by omega);simp[h1,this]
theorem num_eq (p:Nat→Bool)(n x:Nat)(hx:x<2^n)(h: ∀j,j<n→x.testBit j=p j):x=num p n:=by
 apply Nat.eq_of_testBit_eq;intro j;rw[num_bit];by_cases hj:j<n
 ·simp[hj,h j hj]
 ·have:2^n≤2^j:=Nat.pow_le_pow_right (by omega) (by omega);rw[Nat.testBit_lt_two_pow (by omega)];simp[hj]
theorem num_ext {p q:Nat→Bool}{n:Nat}(h: ∀j,j<n→p j=q j):num p n=num q n:=
 num_eq q n _ (num_lt p n) fun j hj=>by rw[num_bit];simp[hj,h j hj]
def wd (f:Nat→Bool)(k:Nat):Nat:=num (fun j=>f (64*k+j)) 64
theorem wd_lt (f:Nat→Bool)(k:Nat):wd f k<18446744073709551616:=num_lt _ 64
theorem wd_bit (f:Nat→Bool)(k j:Nat):(wd f k).testBit j=(decide (j<64)&&f (64*k+j)):=num_bit _ j 64
theorem wd_eq (f:Nat→Bool)(k x:Nat)(hx:x<18446744073709551616)(h: ∀j,j<64→x.testBit j=f (64*k+j)):x=wd f k:=
 num_eq _ 64 x hx h
theorem wd_ext {f g:Nat→Bool}{k:Nat}(h: ∀j,j<64→f (64*k+j)=g (64*k+j)):wd f k=wd g k:=num_ext h
theorem wd_and (f g:Nat→Bool)(k:Nat):wd f k&&&wd g k=wd (fun i=>f i&&g i) k:=by
 refine wd_eq _ k _ (show wd f k&&&wd g k<2^64 from Nat.and_lt_two_pow _ (wd_lt g k)) fun j hj=> ?_;rw[Nat.testBit_and,wd_bit,wd_bit];simp[hj]
theorem wd_or (f g:Nat→Bool)(k:Nat):wd f k|||wd g k=wd (fun i=>f i||g i) k:=by
 refine wd_eq _ k _ (show wd f k|||wd g k<2^64 from Nat.or_lt_two_pow (wd_lt f k) (wd_lt g k)) fun j hj=> ?_;rw[Nat.testBit_or,wd_bit,wd_bit];simp[hj]
theorem wd_andNot (f g:Nat→Bool)(k:Nat):wd f k&&&(18446744073709551616-(wd g k+1))=wd (fun i=>f i&& !g i) k:=by
 refine wd_eq _ k _ (Nat.lt_of_le_of_lt Nat.and_le_left (wd_lt f k)) fun j hj=> ?_;have e:(18446744073709551616:Nat)=2^64:=by decide
 rw[Nat.testBit_and,e,Nat.testBit_two_pow_sub_succ (wd_lt g k),wd_bit,wd_bit];simp[hj]
theorem wd_zero (k:Nat):wd (fun _=>false) k=0:=by
 have:(0:Nat)=wd (fun _=>false) k:=wd_eq _ k 0 (by omega) (by simp);exact this.symm
theorem shl_bit (x r j:Nat)(hj:j<64):(x*2^r%18446744073709551616).testBit j=(decide (r≤j)&&x.testBit (j-r)):=by
 have e:(18446744073709551616:Nat)=2^64:=by decide
 rw[e,Nat.testBit_mod_two_pow,Nat.testBit_mul_two_pow];simp[hj]
theorem shr_bit (x r j:Nat):(x/2^r).testBit j=x.testBit (j+r):=by
 rw[Nat.testBit_div_two_pow]
theorem ones_bit (n j:Nat):(2^n-1).testBit j=decide (j<n):=by
 rw[Nat.testBit_two_pow_sub_one]
def cnt (f:Nat→Bool):Nat→Nat
 |0=>0
 |n+1=>cnt f n+if f n then 1 else 0
theorem cnt_ext {f g:Nat→Bool}: ∀{n:Nat},(∀j,j<n→f j=g j)→cnt f n=cnt g n
 |0,_=>rfl
 |n+1,h=>by
  have:=cnt_ext (n:=n) fun j hj=>h j (by omega);simp only[cnt,this,h n (by omega)]
theorem cnt_add (f:Nat→Bool)(a:Nat): ∀n,cnt f (a+n)=cnt f a+cnt (fun j=>f (a+j)) n
 |0=>by simp[cnt]
 |n+1=>by
  have:=cnt_add f a n;rw[←Nat.add_assoc];simp only[cnt,this];omega
theorem cnt_false {f:Nat→Bool}{n:Nat}(h: ∀j,j<n→f j=false):cnt f n=0:=by
 have e:cnt f n=cnt (fun _=>false) n:=cnt_ext h
 have z: ∀n,cnt (fun _=>false) n=0:=by
  intro n;induction n with
  |zero=>rfl
  |succ n ih=>simp[cnt,ih]
 rw[e,z]
theorem cnt_true {f:Nat→Bool}{n:Nat}(h: ∀j,j<n→f j=true):cnt f n=n:=by
 have e:cnt f n=cnt (fun _=>true) n:=cnt_ext h
 have z: ∀n,cnt (fun _=>true) n=n:=by
  intro n;induction n with
  |zero=>rfl
  |succ n ih=>simp[cnt,ih]
 rw[e,z]
end Msk
/- Numbers, each once. -/
namespace Lx
def addN (acc:List Int)(n:Int):List Int:=if n∈acc then acc else acc++[n]
theorem addN_mem (acc:List Int)(n m:Int):m∈addN acc n↔m∈acc∨m=n:=by
 unfold addN;split
 ·rename_i h;constructor
  ·exact .inl
  ·rintro(h1|rfl)
   ·exact h1
   ·exact h
 ·simp
end Lx
/- Of whom rules speak: plain. -/
namespace Lx
def atF:List Ru→Nat→List UInt8→Int
 |[],_,_=> -1
 |u::l,i,x=>if u.1=x then(i:Int) else atF l (i+1) x
theorem atF_step {l:List Ru}{j:Nat}{u:Ru}{x:List UInt8}(h:l[j]? =some u):atF (l.drop j) j x=if u.1=x then(j:Int) else atF (l.drop (j+1)) (j+1) x:=by
 obtain⟨h1,h2⟩:=List.getElem?_eq_some_iff.1 h;rw[List.drop_eq_getElem_cons h1,h2];rfl
theorem atF_bd: ∀(l:List Ru) (i:Nat) (x:List UInt8),-1≤atF l i x∧atF l i x<i+l.length∧(0≤atF l i x→(i:Int)≤atF l i x)
 |[],i,x=>by simp[atF];omega
 |u::l,i,x=>by
  have:=atF_bd l (i+1) x;simp only[atF,List.length_cons];split
  ·omega
  ·omega
theorem atF_at: ∀(l:List Ru) (i k:Nat) (x:List UInt8),atF l i x=((i+k:Nat):Int)→ ∃u,l[k]? =some u∧u.1=x
 |[],i,k,x,h=>by simp[atF]at h;omega
 |u::l,i,k,x,h=>by
  simp only[atF]at h;split at h
  ·rename_i hx;have:k=0:=(by omega);subst this;exact⟨u,rfl,hx⟩
  ·cases k with
   |zero=>
    have:=atF_bd l (i+1) x;omega
   |succ k=>
    obtain⟨v,h1,h2⟩:=atF_at l (i+1) k x (by rw[h];omega);exact⟨v,by simpa using h1,h2⟩
def atP5 (l:List Ru)(x:List UInt8):Int:=atF l 0 x
theorem atP5_name {l:List Ru}{x:List UInt8}{k:Nat}(h:atP5 l x=(k:Int)): ∃u,l[k]? =some u∧u.1=x:=atF_at l 0 k x (by rw[Nat.zero_add];exact h)
theorem atP5_bd (l:List Ru)(x:List UInt8): -1≤atP5 l x∧atP5 l x<l.length:=by
 have:=atF_bd l 0 x;unfold atP5;omega
def spk (e:Ex)(x:List UInt8):Bool:=if e.kind=10 then decide (e.name=x) else e.kids.attach.any fun k=>spk k.1 x
 termination_by sizeOf e
 decreasing_by exact kid_lt k.2
def spkL (ks:List Ex)(x:List UInt8):Bool:=ks.any fun k=>spk k x
theorem spk_eq (e:Ex)(x:List UInt8):spk e x=if e.kind=10 then decide (e.name=x) else spkL e.kids x:=by
 rw[spk];congr 1;unfold spkL;rw[←List.attach_map_subtype_val e.kids,List.any_map];simp
def unk (e:Ex)(l:List Ru):Bool:=if e.kind=10 then decide (atP5 l e.name<0) else e.kids.attach.any fun k=>unk k.1 l
 termination_by sizeOf e
 decreasing_by exact kid_lt k.2
def unkL (ks:List Ex)(l:List Ru):Bool:=ks.any fun k=>unk k l
theorem unk_eq (e:Ex)(l:List Ru):unk e l=if e.kind=10 then decide (atP5 l e.name<0) else unkL e.kids l:=by
 rw[unk];congr 1;unfold unkL;rw[←List.attach_map_subtype_val e.kids,List.any_map];simp
def nms (e:Ex):List (List UInt8):=(if e.kind=10 then [e.name] else [])++(e.kids.attach.map fun k=>nms k.1).flatten
 termination_by sizeOf e
 decreasing_by exact kid_lt k.2
def nmsL (ks:List Ex):List (List UInt8):=(ks.map nms).flatten
theorem nms_eq (e:Ex):nms e=(if e.kind=10 then [e.name] else [])++nmsL e.kids:=by
 rw[nms];congr 2;show List.map (nms∘Subtype.val) e.kids.attach=_;rw[←List.map_map,List.attach_map_subtype_val]
def spoken (l:List Ru)(acc:List Int)(xs:List (List UInt8)):List Int:=xs.foldl (fun acc x=>addN acc (atP5 l x)) acc
theorem spoken_mem {l:List Ru}{m:Int}: ∀(xs:List (List UInt8)) (acc:List Int),m∈spoken l acc xs↔m∈acc∨ ∃x∈xs,atP5 l x=m
 |[],acc=>by simp[spoken]
 |y::xs,acc=>by
  have:=spoken_mem (l:=l) (m:=m) xs (addN acc (atP5 l y));show m∈spoken l (addN acc (atP5 l y)) xs↔_;rw[this,addN_mem];constructor
  ·rintro((h|h)|⟨x,h1,h2⟩)
   ·exact .inl h
   ·exact .inr ⟨y,List.mem_cons_self,h.symm⟩
   ·exact .inr ⟨x,List.mem_cons_of_mem _ h1,h2⟩
  ·rintro(h|⟨x,h1,h2⟩)
   ·exact .inl (.inl h)
   ·rcases List.mem_cons.1 h1 with rfl|h1
    ·exact .inl (.inr h2.symm)
    ·exact .inr ⟨x,h1,h2⟩
def spkR (l:List Ru)(u:Ru):List Int:=spoken l [] (nms u.2)
theorem spoken_len {l:List Ru}: ∀(xs:List (List UInt8)) (acc:List Int),acc.Nodup→(∀m∈acc,-1≤m∧m<l.length)→(spoken l acc xs).Nodup∧ ∀m∈spoken l acc xs,-1≤m∧m<l.length
 |[],acc,h1,h2=>⟨h1,h2⟩
 |y::xs,acc,h1,h2=>by
  refine spoken_len xs (addN acc (atP5 l y)) ?_ ?_
  ·unfold addN;split
   ·exact h1
   ·rename_i h;rw[List.nodup_append];refine⟨h1,by simp,fun a ha b hb=> ?_⟩;simp at hb;subst hb;exact fun e=>h (e▸ha)
  ·intro m hm;rcases(addN_mem _ _ _).1 hm with hm|rfl
   ·exact h2 m hm
   ·exact atP5_bd l y
end Lx
