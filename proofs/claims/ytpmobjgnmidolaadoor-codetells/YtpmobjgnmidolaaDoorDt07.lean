/- What strings.Clone and lex.word come to. -/
import Derived.Test.YtpmobjgnmidolaaDoorDt01
import Derived.Lib.Walk
import Derived.Lib.BufferWrite
import Derived.Lib.UnsafeStr
import Derived.Laws.MakeOwn
import Derived.Deep.WholeRow
import Derived.Laws.CopyOwn
import Derived.Lib.Bytealg
import Derived.OwnWalk
import Derived.Laws.StructEq
import Derived.Deep.QuietTactic
import Derived.BigQuiet
namespace Go.Proofs.YtpmobjgnmidolaaDoor
open Go.RowKit Lx
end Go.Proofs.YtpmobjgnmidolaaDoor
/- What lex.word comes to. -/
namespace Go.Proofs.YtpmobjgnmidolaaDoor
open Go.RowKit Lx
end Go.Proofs.YtpmobjgnmidolaaDoor
/- What lex.date comes to. -/
namespace Go.Proofs.YtpmobjgnmidolaaDoor
open Go.RowKit Lx
end Go.Proofs.YtpmobjgnmidolaaDoor
/- What strings.IndexByte comes to. -/
namespace Go.Proofs.YtpmobjgnmidolaaDoor
open Go.RowKit Lx
end Go.Proofs.YtpmobjgnmidolaaDoor
/- What strings.HasPrefix comes to. -/
namespace Go.Proofs.YtpmobjgnmidolaaDoor
open Go.RowKit Lx
end Go.Proofs.YtpmobjgnmidolaaDoor
/- What lex.sign comes to. -/
namespace Go.Proofs.YtpmobjgnmidolaaDoor
open Go.RowKit Lx
end Go.Proofs.YtpmobjgnmidolaaDoor
/- What lex.first comes to: the token that a text begins with. -/
namespace Go.Proofs.YtpmobjgnmidolaaDoor
open Go.RowKit Lx
end Go.Proofs.YtpmobjgnmidolaaDoor
/- The tokens of a text, one behind the other: plain facts. -/
namespace Go.Proofs.YtpmobjgnmidolaaDoor
open Go.RowKit Lx
end Go.Proofs.YtpmobjgnmidolaaDoor
/- What lex.remarkLength and lex.skip come to. -/
namespace Go.Proofs.YtpmobjgnmidolaaDoor
open Go.RowKit Lx
end Go.Proofs.YtpmobjgnmidolaaDoor
/- What lex.Lex comes to. -/
namespace Go.Proofs.YtpmobjgnmidolaaDoor
open Go.RowKit Lx
theorem owns_below {w w':World}{base:Nat}{e:TypeId}{size:Nat}{v:Value}{n:Nat}{xs:List Value}(h:w.ownsRow base e size v n xs)(hb:Below w.heap.size w w'):w'.ownsRow base e size v n xs:=by
 obtain⟨h1,h2⟩:=h;refine⟨h1,?_⟩;rcases h2 with h2|⟨g,cap,cur,hv,hg,hh,r⟩
 ·exact .inl h2
 ·exact .inr ⟨g,cap,cur,hv,hg,(hb.block g (lt_of_block hh)).trans hh,r⟩
theorem faultType:Tryd.prog.underlying 26=some (.struct (Tryd.prog.fieldsOf 26)):=by kernel_rfl
end Go.Proofs.YtpmobjgnmidolaaDoor
/- What lex.Named comes to; how tokens lie in memory; the tokens of one text, told. -/
namespace Go.Proofs.YtpmobjgnmidolaaDoor
open Go.RowKit Lx
def namedL (l:List UInt8):Bool:=decide (l.length≠0)&&(decide (l.length≤20)&&(decide (wordLen l=l.length)&& !isWordL l))
theorem own_slice {w:World}{base:Nat}{e:TypeId}{size:Nat}{v:Value}{n:Nat}{xs:List Value}(h:w.ownsRow base e size v n xs)(hn:0<n):
  ∃g cap:Nat,v= .slice (some ⟨g,0,none⟩) n cap∧ ∀(i:Nat) (u:Value),xs[i]? =some u→w.cell? ⟨g,i,none⟩=some u:=by
 obtain⟨_,h2⟩:=h;rcases h2 with⟨_,h2⟩|⟨g,cap,cur,hv,hb,hh,_,_,_,h6⟩
 ·omega
 ·refine⟨g,cap,hv,fun i u hu=> ?_⟩;rw[cell_of_row _ _ _ _ _ _ hh];rw[←h6,List.getElem?_take]at hu;split at hu
  ·simpa using hu
  ·cases hu
end Go.Proofs.YtpmobjgnmidolaaDoor
/- What is wrong with an expression's form: plain. -/
namespace Lx
def kidsP (k:Int):Nat:=if k=4∨k=5∨k=9 then 1 else if k=6∨k=7∨k=8 then 2 else 0
def rangeP (k a b:Int):Bool:=
 if k=3 then decide (0≤a∧a<b∧b≤1440)
 else if k=4 then decide (1≤a∧a<128)
 else if k=5 then decide (0≤a∧a≤b∧b<146097)
 else if k=9 then decide (a≠0∧ -1440<a∧a<1440) else true
def aloneP (e:Ex):Int:=
 if e.kind<1∨10<e.kind then 1 else if e.kids.length≠kidsP e.kind then 5 else if rangeP e.kind e.a e.b=false then 3 else if e.kind=10∧Go.Proofs.YtpmobjgnmidolaaDoor.namedL e.name=false then 7 else 0
def shapeP (e:Ex)(deep n:Nat):Int×Nat:=
 if 600<n+1∨40<deep then(4,n+1)
 else if aloneP e≠0 then(aloneP e,n+1)
 else e.kids.attach.foldl (fun acc k=>if acc.1≠0 then acc else shapeP k.1 (deep+1) acc.2) (0,n+1)
 termination_by sizeOf e
 decreasing_by exact kid_lt k.2
def shapeL (ks:List Ex)(deep:Nat)(acc:Int×Nat):Int×Nat:=ks.foldl (fun acc k=>if acc.1≠0 then acc else shapeP k deep acc.2) acc
theorem shapeP_eq (e:Ex)(deep n:Nat):shapeP e deep n=if 600<n+1∨40<deep then(4,n+1) else if aloneP e≠0 then(aloneP e,n+1) else shapeL e.kids (deep+1) (0,n+1):=by
 rw[shapeP];unfold shapeL;rw[←List.foldl_attach (f:=fun(acc:Int×Nat) k=>if acc.1≠0 then acc else shapeP k (deep+1) acc.2)]
theorem shapeL_nil (deep:Nat)(acc:Int×Nat):shapeL [] deep acc=acc:=rfl
theorem shapeL_cons (k:Ex)(ks:List Ex)(deep:Nat)(acc:Int×Nat):shapeL (k::ks) deep acc=shapeL ks deep (if acc.1≠0 then acc else shapeP k deep acc.2):=rfl
theorem shapeL_bad {ks:List Ex}{deep:Nat}{acc:Int×Nat}(h:acc.1≠0):shapeL ks deep acc=acc:=by
 induction ks with
 |nil=>rfl
 |cons k ks ih=>rw[shapeL_cons,if_pos h,ih]
theorem shapeL_step {ks:List Ex}{deep j m:Nat}{k:Ex}(h:ks[j]? =some k):shapeL (ks.drop j) deep (0,m)=shapeL (ks.drop (j+1)) deep (shapeP k deep m):=by
 obtain⟨h1,h2⟩:=List.getElem?_eq_some_iff.1 h;rw[List.drop_eq_getElem_cons h1,h2,shapeL_cons,if_neg (by simp)]
theorem shape_le: ∀(N:Nat) (e:Ex) (deep n:Nat),sizeOf e≤N→(shapeP e deep n).1=0→(shapeP e deep n).2≤600
 |0,e,_,_,hN,_=>by cases e;simp at hN
 |N+1,e,deep,n,hN,h=>by
  rw[shapeP_eq]at h⊢;split at h
  ·cases h
  ·rename_i h1;rw[if_neg h1];split at h
   ·rename_i h2;exact absurd h h2
   ·rename_i h2;rw[if_neg h2]
    have aux: ∀(ks:List Ex),(∀k∈ks,sizeOf k≤N)→ ∀acc:Int×Nat,acc.2≤600→(shapeL ks (deep+1) acc).1=0→(shapeL ks (deep+1) acc).2≤600:=by
     intro ks;induction ks with
     |nil=>intro _ acc ha _;exact ha
     |cons k ks ih=>
      intro hk acc ha h0;rw[shapeL_cons]at h0⊢;by_cases hb:acc.1≠0
      ·rw[if_pos hb]at h0⊢;exact ih (fun q hq=>hk q (List.mem_cons_of_mem _ hq)) acc ha h0
      ·rw[if_neg hb]at h0⊢;refine ih (fun q hq=>hk q (List.mem_cons_of_mem _ hq)) _ ?_ h0;by_cases hz:(shapeP k (deep+1) acc.2).1=0
       ·exact shape_le N k (deep+1) acc.2 (hk k List.mem_cons_self) hz
       ·rw[shapeL_bad hz]at h0;exact absurd h0 hz
    exact aux e.kids (fun k hk=>by have:=kid_lt hk;omega) (0,n+1) (by simp at h1⊢;omega) h
theorem shapeP_le {e:Ex}{deep n:Nat}(h:(shapeP e deep n).1=0):(shapeP e deep n).2≤600:=shape_le _ e deep n (Nat.le_refl _) h
end Lx
/- Plain facts about two texts on two lines. -/
namespace Go.Proofs.YtpmobjgnmidolaaDoor
open Go.RowKit Lx
end Go.Proofs.YtpmobjgnmidolaaDoor
/- The tokens of two texts on two lines; that tokens are told one way alone. -/
namespace Go.Proofs.YtpmobjgnmidolaaDoor
open Go.RowKit Lx
def onBy (n:Nat)(ts:List (T1×Nat)):List (T1×Nat):=ts.map fun p=>(p.1,n+p.2)
end Go.Proofs.YtpmobjgnmidolaaDoor
/- What lex.Named comes to, and that the law's first question is answered yes. -/
namespace Go.Proofs.YtpmobjgnmidolaaDoor
open Go.RowKit Lx
set_option maxRecDepth 10000 in
set_option maxHeartbeats 400000 in
theorem named_any (s:ByteArray)(l:List UInt8)(hs:s.data.toList=l)(hl:l.length≤9223372036854775806)(w:World):
  Calls Tryd.prog 90 #[.string s] w fun e w'=>e= .returned (.bool (namedL l))∧Below w.heap.size w w':=by
 have hz:s.size=l.length:=by rw[←hs,Lib.size_eq]
 have hnil:s.toList.isEmpty=l.isEmpty:=by rw[Lib.toList_data,hs]
 have cl:=fun w=>wordLen_any s l hs hl w;have cw:=fun w=>isWord_any s l hs w;by_cases h0:l.length=0
 ·have HN:Hid (namedL l=false):=by show namedL l=false;simp[namedL,h0]
  have hq:s.toList.isEmpty=true:=(by rw[hnil];simpa using h0);clear hnil h0;go_enter Tryd.func90,Tryd.ntmps90
  go_wp2_with(first
   |(go_at_call 112;refine(cl _).mono ?_;rintro e w' ⟨rfl,rfl⟩)
   |(go_at_call 113;refine(cw _).mono ?_;rintro e w1 ⟨rfl,hb1⟩))
  go_ret;exact⟨by rw[HN.out];rfl,Below.refl _ _⟩
 ·have hq:s.toList.isEmpty=false:=by rw[hnil];cases l<;>simp at h0⊢
  clear hnil;by_cases h20:l.length≤20
  ·have i20:(l.length:Int)≤20:=(by omega);by_cases hw:wordLen l=l.length
   ·have HN:Hid (namedL l= !isWordL l):=(by show namedL l=_;simp[namedL,h0,h20,hw]);rw[hw]at cl;clear h0 hw;generalize isWordL l=b at*;go_enter Tryd.func90,Tryd.ntmps90
    go_wp2_with(first
     |(go_at_call 112;refine(cl _).mono ?_;rintro e w' ⟨rfl,rfl⟩)
     |(go_at_call 113;refine(cw _).mono ?_;rintro e w1 ⟨rfl,hb1⟩))
    go_ret;exact⟨by rw[HN.out];rfl,hb1⟩
   ·have HN:Hid (namedL l=false):=(by show namedL l=false;simp[namedL,hw]);have iw:((wordLen l:Int)==(l.length:Int))=false:=(by simp;omega);clear h0 hw;generalize wordLen l=k at*;go_enter Tryd.func90,Tryd.ntmps90
    go_wp2_with(first
     |(go_at_call 112;refine(cl _).mono ?_;rintro e w' ⟨rfl,rfl⟩)
     |(go_at_call 113;refine(cw _).mono ?_;rintro e w1 ⟨rfl,hb1⟩))
    go_ret;exact⟨by rw[HN.out];rfl,Below.refl _ _⟩
  ·have i20: ¬(l.length:Int)≤20:=(by omega);have HN:Hid (namedL l=false):=(by show namedL l=false;simp[namedL,h20]);clear h0 h20;go_enter Tryd.func90,Tryd.ntmps90
   go_wp2_with(first
    |(go_at_call 112;refine(cl _).mono ?_;rintro e w' ⟨rfl,rfl⟩)
    |(go_at_call 113;refine(cw _).mono ?_;rintro e w1 ⟨rfl,hb1⟩))
   go_ret;exact⟨by rw[HN.out];rfl,Below.refl _ _⟩
end Go.Proofs.YtpmobjgnmidolaaDoor
/- A row of tokens in memory. -/
namespace Go.Proofs.YtpmobjgnmidolaaDoor
open Go.RowKit Lx
def TRow (w:World)(v:Value)(ts:List (T1×Nat)):Prop:=
 (∃c,v= .slice none 0 c∧ts=[])∨ ∃g o c:Nat,v= .slice (some ⟨g,o,none⟩) ts.length c∧ts.length<9223372036854775808∧ ∀(j:Nat) (t:T1) (k:Nat),ts[j]? =some (t,k)→
  w.cell? ⟨g,o+j*4,none⟩=some (.int .i64 t.kind)∧w.cell? ⟨g,o+j*4+1,none⟩=some (.int .i64 t.n)∧w.cell? ⟨g,o+j*4+2,none⟩=some (.int .i64 (k:Int))∧w.cell? ⟨g,o+j*4+3,none⟩=some (.string ⟨t.text.toArray⟩)
theorem TRow.form {w:World}{v:Value}{l:List (T1×Nat)}(h:TRow w v l): ∃p c,v= .slice p l.length c:=by
 rcases h with⟨c,h,rfl⟩|⟨g,o,c,h,_⟩
 ·exact⟨none,c,h⟩
 ·exact⟨_,c,h⟩
end Go.Proofs.YtpmobjgnmidolaaDoor
/- Rows of tokens that are written, and texts put together: what LexJoined needs of memory. -/
namespace Go.Proofs.YtpmobjgnmidolaaDoor
open Go.RowKit Lx
def part (n:Nat)(us:List (T1×Nat))(j:Nat):List (T1×Nat):=onBy n (us.take j)++us.drop j
end Go.Proofs.YtpmobjgnmidolaaDoor
/- The reader of package parse in memory: its tokens, where it stands, how many expressions have ended; expressions as they lie in memory; and what met comes to. -/
namespace Go.Proofs.YtpmobjgnmidolaaDoor
open Go.RowKit Lx
def exV (e:Ex)(sl:Value):Value:= .agg #[.int .i64 e.kind,.int .i64 e.a,.int .i64 e.b,.string ⟨e.name.toArray⟩,sl]
def TyE (w:World)(g:Nat):Prop:= ∃(cs:Array Value) (fr:Nat×Nat),w.heap[g]? =some (.cells cs 50 fr)
def KidsAt (B:Nat→Prop):Nat→World→Value→List Ex→Prop
 |0,_,sl,ks=>ks=[]∧ ∃p c,sl= .slice p 0 c
 |d+1,w,sl,ks=>(ks=[]∧ ∃p c,sl= .slice p 0 c)∨ ∃g o c:Nat,(B g∧TyE w g)∧sl= .slice (some ⟨g,o,none⟩) ks.length c∧ks.length<9223372036854775808∧ ∀(j:Nat) (k:Ex),ks[j]? =some k→ ∃sk:Value,
  w.cell? ⟨g,o+j*5,none⟩=some (.int .i64 k.kind)∧w.cell? ⟨g,o+j*5+1,none⟩=some (.int .i64 k.a)∧w.cell? ⟨g,o+j*5+2,none⟩=some (.int .i64 k.b)∧
  w.cell? ⟨g,o+j*5+3,none⟩=some (.string ⟨k.name.toArray⟩)∧w.cell? ⟨g,o+j*5+4,none⟩=some sk∧KidsAt B d w sk k.kids
theorem KidsAt.up {B:Nat→Prop}: ∀{d:Nat} {w:World} {sl:Value} {ks:List Ex},KidsAt B d w sl ks→KidsAt B (d+1) w sl ks
 |0,_,_,_,h=> .inl h
 |d+1,w,sl,ks,h=>by
  rcases h with h|⟨g,o,c,hB,hs,hl,hk⟩
  ·exact .inl h
  ·refine .inr ⟨g,o,c,hB,hs,hl,fun j k hj=> ?_⟩;obtain⟨sk,c0,c1,c2,c3,c4,r⟩:=hk j k hj;exact⟨sk,c0,c1,c2,c3,c4,KidsAt.up r⟩
theorem KidsAt.le {B:Nat→Prop}{d d':Nat}{w:World}{sl:Value}{ks:List Ex}(h:KidsAt B d w sl ks)(hd:d≤d'):KidsAt B d' w sl ks:=by
 obtain⟨n,rfl⟩: ∃n,d'=d+n:=⟨d'-d,by omega⟩
 clear hd;induction n with
 |zero=>exact h
 |succ n ih=>exact KidsAt.up ih
theorem KidsAt.kept {B:Nat→Prop}{w w':World}(hw: ∀g,B g→g<w.heap.size→w'.heap[g]? =w.heap[g]?): ∀{d:Nat} {sl:Value} {ks:List Ex},KidsAt B d w sl ks→KidsAt B d w' sl ks
 |0,_,_,h=>h
 |d+1,sl,ks,h=>by
  rcases h with h|⟨g,o,c,hB,hs,hl,hk⟩
  ·exact .inl h
  ·have ht:TyE w' g:=by
    obtain⟨cs,fr,h⟩:=hB.2;exact⟨cs,fr,(hw g hB.1 (lt_of_block h)).trans h⟩
   refine .inr ⟨g,o,c,⟨hB.1,ht⟩,hs,hl,fun j k hj=> ?_⟩;obtain⟨sk,c0,c1,c2,c3,c4,r⟩:=hk j k hj;have e:w'.heap[g]? =w.heap[g]? :=hw g hB.1 (block_lt_of_cell c0);have ce: ∀i,w'.cell? ⟨g,i,none⟩=w.cell? ⟨g,i,none⟩:=fun i=>World.cell?_of_block e;exact⟨sk,(ce _).trans c0,(ce _).trans c1,(ce _).trans c2,(ce _).trans c3,(ce _).trans c4,KidsAt.kept hw r⟩
theorem KidsAt.mono {B B':Nat→Prop}(hB: ∀g,B g→B' g): ∀{d:Nat} {w:World} {sl:Value} {ks:List Ex},KidsAt B d w sl ks→KidsAt B' d w sl ks
 |0,_,_,_,h=>h
 |d+1,w,sl,ks,h=>by
  rcases h with h|⟨g,o,c,hg,hs,hl,hk⟩
  ·exact .inl h
  ·refine .inr ⟨g,o,c,⟨hB g hg.1,hg.2⟩,hs,hl,fun j k hj=> ?_⟩;obtain⟨sk,c0,c1,c2,c3,c4,r⟩:=hk j k hj;exact⟨sk,c0,c1,c2,c3,c4,KidsAt.mono hB r⟩
theorem KidsAt.lt {B:Nat→Prop}: ∀{d:Nat} {w:World} {sl:Value} {ks:List Ex},KidsAt B d w sl ks→KidsAt (fun k=>B k∧k<w.heap.size) d w sl ks
 |0,_,_,_,h=>h
 |d+1,w,sl,ks,h=>by
  rcases h with h|⟨g,o,c,hg,hs,hl,hk⟩
  ·exact .inl h
  ·cases ks with
   |nil=>exact .inl ⟨rfl,_,_,hs⟩
   |cons k0 ks=>
    obtain⟨_,c0,_⟩:=hk 0 k0 rfl;refine .inr ⟨g,o,c,⟨⟨hg.1,block_lt_of_cell c0⟩,hg.2⟩,hs,hl,fun j k hj=> ?_⟩;obtain⟨sk,c0,c1,c2,c3,c4,r⟩:=hk j k hj;exact⟨sk,c0,c1,c2,c3,c4,KidsAt.lt r⟩
theorem KidsAt.other {B:Nat→Prop}{b:Nat}{cs:Array Value}{t:TypeId}{fr:Nat×Nat}: ∀{d:Nat} {w:World} {sl:Value} {ks:List Ex},w.heap[b]? =some (.cells cs t fr)→t≠50→KidsAt B d w sl ks→KidsAt (fun k=>B k∧k≠b) d w sl ks
 |0,_,_,_,_,_,h=>h
 |d+1,w,sl,ks,hb,ht,h=>by
  rcases h with h|⟨g,o,c,hg,hs,hl,hk⟩
  ·exact .inl h
  ·have hne:g≠b:=by
    rintro rfl;obtain⟨cs',fr',h'⟩:=hg.2;rw[hb]at h';exact ht (Obj.cells.inj (Option.some.inj h')).2.1
   refine .inr ⟨g,o,c,⟨⟨hg.1,hne⟩,hg.2⟩,hs,hl,fun j k hj=> ?_⟩;obtain⟨sk,c0,c1,c2,c3,c4,r⟩:=hk j k hj;exact⟨sk,c0,c1,c2,c3,c4,KidsAt.other hb ht r⟩
theorem KidsAt.nil (B:Nat→Prop)(d:Nat)(w:World)(p:Option Addr)(c:Nat):KidsAt B d w (.slice p 0 c) []:=by
 cases d with
 |zero=>exact⟨rfl,p,c,rfl⟩
 |succ d=>exact .inl ⟨rfl,p,c,rfl⟩
theorem KidsAt.form {B:Nat→Prop}{d:Nat}{w:World}{sl:Value}{ks:List Ex}(h:KidsAt B d w sl ks): ∃p c,sl= .slice p ks.length c:=by
 cases d with
 |zero=>
  obtain⟨rfl,p,c,rfl⟩:=h;exact⟨p,c,rfl⟩
 |succ d=>
  rcases h with⟨rfl,p,c,rfl⟩|⟨g,o,c,_,hs,_⟩
  ·exact⟨p,c,rfl⟩
  ·exact⟨_,c,hs⟩
abbrev Kept (g:Nat)(w w':World):Prop:=w.grownBy w' (some g)
theorem Kept.refl (g:Nat)(w:World):Kept g w w:=⟨rfl,rfl,rfl,Nat.le_refl _,fun _ _ _=>rfl⟩
theorem Kept.trans {g:Nat}{w w' w'':World}(h:Kept g w w')(h':Kept g w' w''):Kept g w w'':=
 ⟨h'.os.trans h.os,h'.tape.trans h.tape,h'.output.trans h.output,Nat.le_trans h.size h'.size,fun k hk hne=>(h'.block k (Nat.lt_of_lt_of_le hk h.size) hne).trans (h.block k hk hne)⟩
theorem Kept.of_below {g:Nat}{w w':World}(h:Below w.heap.size w w'):Kept g w w':=⟨h.os,h.tape,h.output,h.size,fun k hk _=>h.block k hk⟩
theorem Kept.kids {B:Nat→Prop}{g d:Nat}{w w':World}{sl:Value}{ks:List Ex}(h:Kept g w w')(hg: ∀k,B k→k≠g)(hk:KidsAt B d w sl ks):KidsAt B d w' sl ks:=
 hk.kept fun k hB hl=>h.block k hl (fun e=>hg k hB (Option.some.inj e))
theorem Kept.row {g:Nat}{w w':World}{v:Value}{ts:List (T1×Nat)}(h:Kept g w w')(hv:v.ownBlock≠some g)(hr:TRow w v ts):TRow w' v ts:=by
 rcases hr with hr|⟨gt,o,c,hs,hl,hc⟩
 ·exact .inl hr
 ·refine .inr ⟨gt,o,c,hs,hl,fun j t k hj=> ?_⟩;obtain⟨c1,c2,c3,c4⟩:=hc j t k hj;have hne:gt≠g:=fun e=>hv (by rw[hs,e];rfl);have e:w'.heap[gt]? =w.heap[gt]? :=h.block gt (block_lt_of_cell c1) (fun e=>hne (Option.some.inj e));have ce: ∀i,w'.cell? ⟨gt,i,none⟩=w.cell? ⟨gt,i,none⟩:=fun i=>World.cell?_of_block e;exact⟨(ce _).trans c1,(ce _).trans c2,(ce _).trans c3,(ce _).trans c4⟩
theorem exprType:Tryd.prog.underlying 50=some (.struct (Tryd.prog.fieldsOf 50)):=by kernel_rfl
end Go.Proofs.YtpmobjgnmidolaaDoor
/- What met and fail come to. -/
namespace Go.Proofs.YtpmobjgnmidolaaDoor
open Go.RowKit Lx
theorem Kept.set (w:World)(g j:Nat)(u:Value):Kept g w (w.setCell ⟨g,j,none⟩ u):=⟨rfl,rfl,rfl,by simp,fun k _ hk=>heap_setCell_other w ⟨g,j,none⟩ k u (fun e=>hk (by rw[e]))⟩
end Go.Proofs.YtpmobjgnmidolaaDoor
/- What skip, must, see, take, takeFrom, ended and pair come to. -/
namespace Go.Proofs.YtpmobjgnmidolaaDoor
open Go.RowKit Lx
variable {all:List Tk} {E g:Nat} {v:Value} {w:World} {i n:Nat}
end Go.Proofs.YtpmobjgnmidolaaDoor
/- What take, takeFrom and ended come to. -/
namespace Go.Proofs.YtpmobjgnmidolaaDoor
open Go.RowKit Lx
variable {all:List Tk} {E g:Nat} {v:Value} {w:World} {i n:Nat}
theorem Kept.setRow {w':World}{k:Nat}(h:Kept g w w')(hk:w.heap.size≤k)(cs:Array Value):Kept g w (w'.setRow k cs):=
 ⟨h.os,h.tape,h.output,by simpa[World.setRow] using h.size,fun j hj hne=>(setRow_other w' k j cs (by omega)).trans (h.block j hj hne)⟩
theorem Kept.alloc {w':World}(h:Kept g w w')(o:Obj):Kept g w (w'.alloc o):=h.trans (Kept.of_below ((Below.refl _ _).alloc (Nat.le_refl _) o))
end Go.Proofs.YtpmobjgnmidolaaDoor
/- What ended and pair come to. -/
namespace Go.Proofs.YtpmobjgnmidolaaDoor
open Go.RowKit Lx
variable {all:List Tk} {E g:Nat} {v:Value} {w:World} {i n:Nat}
end Go.Proofs.YtpmobjgnmidolaaDoor
/- What shift and day come to. -/
namespace Go.Proofs.YtpmobjgnmidolaaDoor
open Go.RowKit Lx
variable {all:List Tk} {E g:Nat} {v:Value} {w:World} {i n:Nat}
end Go.Proofs.YtpmobjgnmidolaaDoor
/- What span, behindColon and dates come to. -/
namespace Go.Proofs.YtpmobjgnmidolaaDoor
open Go.RowKit Lx
variable {all:List Tk} {E g:Nat} {v:Value} {w:World} {i n:Nat}
theorem Kept.at {w':World}{k:Nat}{o:Obj}(h:Kept g w w')(hk:w.heap[k]? =some o)(hne:k≠g):w'.heap[k]? =some o:=(h.block k (lt_of_block hk) (fun e=>hne (Option.some.inj e))).trans hk
end Go.Proofs.YtpmobjgnmidolaaDoor
/- What kidsOf, inRange and wrongAlone come to. -/
namespace Go.Proofs.YtpmobjgnmidolaaDoor
open Go.RowKit Lx
theorem kidsOf_any (k:Int)(w:World):Calls Tryd.prog 127 #[.int .i64 k] w fun e w'=>e= .returned (.int .i64 (kidsP k:Int))∧w'=w:=by
 have walk: ∀(b4 b5 b9 b6 b7 b8:Bool),(k==4)=b4→(k==5)=b5→(k==9)=b9→(k==6)=b6→(k==7)=b7→(k==8)=b8→
   Calls Tryd.prog 127 #[.int .i64 k] w fun e w'=>e= .returned (.int .i64 (if b4||(b5||b9) then 1 else if b6||(b7||b8) then 2 else 0))∧w'=w:=by
  intro b4 b5 b9 b6 b7 b8 h4 h5 h9 h6 h7 h8;cases b4<;>cases b5<;>cases b9<;>cases b6<;>cases b7<;>cases b8<;>(go_enter Tryd.func127,Tryd.ntmps127;go_wp2;go_ret;exact⟨rfl,rfl⟩)
 refine(walk _ _ _ _ _ _ rfl rfl rfl rfl rfl rfl).mono ?_;rintro e w' ⟨rfl,rfl⟩;refine⟨?_,rfl⟩;unfold kidsP;simp only[Bool.or_eq_true,beq_iff_eq];by_cases c1:k=4∨k=5∨k=9
 ·rw[if_pos c1,if_pos c1];rfl
 ·rw[if_neg c1,if_neg c1];by_cases c2:k=6∨k=7∨k=8
  ·rw[if_pos c2,if_pos c2];rfl
  ·rw[if_neg c2,if_neg c2];rfl
end Go.Proofs.YtpmobjgnmidolaaDoor
/- What inRange comes to. -/
namespace Go.Proofs.YtpmobjgnmidolaaDoor
open Go.RowKit Lx
set_option maxRecDepth 100000 in
theorem inRange_any (k a b:Int)(nm:ByteArray)(p:Option Addr)(n c:Nat)(w:World):Calls Tryd.prog 128 #[.agg #[.int .i64 k,.int .i64 a,.int .i64 b,.string nm,.slice p n c]] w fun e w'=>e= .returned (.bool (rangeP k a b))∧Below w.heap.size w w':=by
 have hb:Below w.heap.size w (w.alloc (.cells #[.int .i64 k,.int .i64 a,.int .i64 b,.string nm,.slice p n c] 50)):=(Below.refl _ _).alloc (Nat.le_refl _) _;unfold rangeP;by_cases h3:k=3
 ·subst h3;rw[if_pos rfl];by_cases c1:0≤a
  ·by_cases c2:a<b
   ·by_cases c3:b≤1440
    ·go_enter Tryd.func128,Tryd.ntmps128;go_wp2;go_ret;exact⟨by first|(simp;done)|(simp;omega),hb⟩
    ·go_enter Tryd.func128,Tryd.ntmps128;go_wp2;go_ret;exact⟨by first|(simp;done)|(simp;omega),hb⟩
   ·go_enter Tryd.func128,Tryd.ntmps128;go_wp2;go_ret;exact⟨by first|(simp;done)|(simp;omega),hb⟩
  ·go_enter Tryd.func128,Tryd.ntmps128;go_wp2;go_ret;exact⟨by first|(simp;done)|(simp;omega),hb⟩
 rw[if_neg h3];have i3:(k==3)=false:=beq_eq_false_iff_ne.2 h3;by_cases h4:k=4
 ·subst h4;rw[if_pos rfl];by_cases c1:1≤a
  ·by_cases c2:a<128
   ·go_enter Tryd.func128,Tryd.ntmps128;go_wp2;go_ret;exact⟨by first|(simp;done)|(simp;omega),hb⟩
   ·go_enter Tryd.func128,Tryd.ntmps128;go_wp2;go_ret;exact⟨by first|(simp;done)|(simp;omega),hb⟩
  ·go_enter Tryd.func128,Tryd.ntmps128;go_wp2;go_ret;exact⟨by first|(simp;done)|(simp;omega),hb⟩
 rw[if_neg h4];have i4:(k==4)=false:=beq_eq_false_iff_ne.2 h4;by_cases h5:k=5
 ·subst h5;rw[if_pos rfl];by_cases c1:0≤a
  ·by_cases c2:a≤b
   ·by_cases c3:b<146097
    ·go_enter Tryd.func128,Tryd.ntmps128;go_wp2;go_ret;exact⟨by first|(simp;done)|(simp;omega),hb⟩
    ·go_enter Tryd.func128,Tryd.ntmps128;go_wp2;go_ret;exact⟨by first|(simp;done)|(simp;omega),hb⟩
   ·go_enter Tryd.func128,Tryd.ntmps128;go_wp2;go_ret;exact⟨by first|(simp;done)|(simp;omega),hb⟩
  ·go_enter Tryd.func128,Tryd.ntmps128;go_wp2;go_ret;exact⟨by first|(simp;done)|(simp;omega),hb⟩
 rw[if_neg h5];have i5:(k==5)=false:=beq_eq_false_iff_ne.2 h5;by_cases h9:k=9
 ·subst h9;rw[if_pos rfl];by_cases c1:a=0
  ·subst c1;go_enter Tryd.func128,Tryd.ntmps128;go_wp2;go_ret;exact⟨by first|(simp;done)|(simp;omega),hb⟩
  ·have n1:(a !=0)=true:=(by simpa using c1);by_cases c2: -1440<a
   ·by_cases c3:a<1440
    ·go_enter Tryd.func128,Tryd.ntmps128;go_wp2;go_ret;exact⟨by first|(simp;done)|(simp;omega),hb⟩
    ·go_enter Tryd.func128,Tryd.ntmps128;go_wp2;go_ret;exact⟨by first|(simp;done)|(simp;omega),hb⟩
   ·go_enter Tryd.func128,Tryd.ntmps128;go_wp2;go_ret;exact⟨by first|(simp;done)|(simp;omega),hb⟩
 rw[if_neg h9];have i9:(k==9)=false:=beq_eq_false_iff_ne.2 h9;go_enter Tryd.func128,Tryd.ntmps128;go_wp2;go_ret;exact⟨rfl,hb⟩
end Go.Proofs.YtpmobjgnmidolaaDoor
/- What can be a name, of whatever length: the program's. -/
namespace Go.Proofs.YtpmobjgnmidolaaDoor
open Go.RowKit Lx
set_option maxRecDepth 10000 in
theorem named_big (s:ByteArray)(l:List UInt8)(hs:s.data.toList=l)(hl:l.length≤9223372036854775807)(w:World):
  Calls Tryd.prog 90 #[.string s] w fun e w'=>e= .returned (.bool (namedL l))∧Below w.heap.size w w':=by
 by_cases h20:l.length≤20
 ·exact named_any s l hs (by omega) w
 ·have hz:s.size=l.length:=by rw[←hs,Lib.size_eq]
  have hq:s.toList.isEmpty=false:=(by rw[Lib.toList_data,hs];cases l<;>simp at h20⊢);have i20: ¬(l.length:Int)≤20:=(by omega);have HN:Hid (namedL l=false):=(by show namedL l=false;simp[namedL,h20]);clear h20;go_enter Tryd.func90,Tryd.ntmps90;go_wp2_with fail;go_ret;exact⟨by rw[HN.out];rfl,Below.refl _ _⟩
end Go.Proofs.YtpmobjgnmidolaaDoor
/- What wrongAlone comes to. -/
namespace Go.Proofs.YtpmobjgnmidolaaDoor
open Go.RowKit Lx
set_option maxRecDepth 100000 in
set_option maxHeartbeats 1000000 in
theorem alone_any (e:Ex)(p:Option Addr)(c:Nat)(hnm:e.name.length≤9223372036854775807)(w:World):Calls Tryd.prog 114 #[exV e (.slice p e.kids.length c)] w fun r w'=>r= .returned (.int .i64 (aloneP e))∧Below w.heap.size w w':=by
 have hb:Below w.heap.size w (w.alloc (.cells #[.int .i64 e.kind,.int .i64 e.a,.int .i64 e.b,.string ⟨e.name.toArray⟩,.slice p e.kids.length c] 50)):=(Below.refl _ _).alloc (Nat.le_refl _) _;have hx:=heap_alloc_new w (.cells #[.int .i64 e.kind,.int .i64 e.a,.int .i64 e.b,.string ⟨e.name.toArray⟩,.slice p e.kids.length c] 50);have cK:=fun w=>kidsOf_any e.kind w;have cR:=fun w=>inRange_any e.kind e.a e.b ⟨e.name.toArray⟩ p e.kids.length c w;have cN:=fun w=>named_big ⟨e.name.toArray⟩ e.name rfl hnm w;unfold aloneP exV;generalize kidsP e.kind=kp at*;generalize rangeP e.kind e.a e.b=rp at*;generalize namedL e.name=nb at*;generalize e.kind=k at*;generalize e.a=a at*;generalize e.b=b at*;generalize (⟨e.name.toArray⟩:ByteArray)=nm at*;generalize e.kids.length=n at*;clear hnm;generalize hA:(if k<1∨10<k then(1:Int) else if n≠kp then 5 else if rp=false then 3 else if k=10∧nb=false then 7 else 0)=A;have HA:Hid ((if k<1∨10<k then(1:Int) else if n≠kp then 5 else if rp=false then 3 else if k=10∧nb=false then 7 else 0)=A):=hA;clear hA;by_cases c1:k<1
 ·have HE:Hid (A=1):=by show _=_;rw[←HA.out,if_pos (.inl c1)]
  go_enter Tryd.func114,Tryd.ntmps114;go_wp2_with fail;go_ret;exact⟨by rw[HE.out];rfl,hb⟩
 by_cases c2:10<k
 ·have HE:Hid (A=1):=by show _=_;rw[←HA.out,if_pos (.inr c2)]
  go_enter Tryd.func114,Tryd.ntmps114;go_wp2_with fail;go_ret;exact⟨by rw[HE.out];rfl,hb⟩
 have hk: ¬(k<1∨10<k):=by omega
 have HK:Hid (¬(k<1∨10<k)):=hk;clear hk;have k0:=(cell_of_row _ _ 0 _ _ _ hx).trans rfl;have k3:=(cell_of_row _ _ 3 _ _ _ hx).trans rfl;have k4:=(cell_of_row _ _ 4 _ _ _ hx).trans rfl;generalize hw1:w.alloc (.cells #[.int .i64 k,.int .i64 a,.int .i64 b,.string nm,.slice p n c] 50)=w1 at*;by_cases c3:n=kp
 ·have n3:((n:Int) !=(kp:Int))=false:=by simp;omega
  have HN:Hid (¬n≠kp):=fun h=>h c3;clear c3;go_enter Tryd.func114,Tryd.ntmps114;go_wp2_with fail;go_quiet ((go_at_call 127;exact Calls.quiet_of_same (cK _)));have hx2:(w1.drewN nq).heap[w.heap.size]? =some (.cells #[.int .i64 k,.int .i64 a,.int .i64 b,.string nm,.slice p n c] 50 (0,0)):=hx;have k02:(w1.drewN nq).cell? ⟨w.heap.size,0,none⟩=some (.int .i64 k):=k0;have k32:(w1.drewN nq).cell? ⟨w.heap.size,3,none⟩=some (.string nm):=k3;have hb2:=below_drewN hb nq;clear hx k0 k3 k4 hw1 hb cK;generalize w1.drewN nq=w2 at*;cases rp with
  |false=>
   have HE:Hid (A=3):=(by show _=_;rw[←HA.out,if_neg HK.out,if_neg HN.out,if_pos rfl]);go_wp2_with(refine wpList_load_row rfl 50 _ rfl _ rfl _ _ _ _ hx2 exprType rfl (by kernel_rfl) ?_)
   refine(cR _).mono ?_;rintro r w3 ⟨rfl,hb3⟩;have hb3w:=hb2.trans (hb3.mono hb2.size);go_wp2_with fail;go_ret;exact⟨by rw[HE.out];rfl,hb3w⟩
  |true=>
   go_wp2_with(refine wpList_load_row rfl 50 _ rfl _ rfl _ _ _ _ hx2 exprType rfl (by kernel_rfl) ?_)
   refine(cR _).mono ?_;rintro r w3 ⟨rfl,hb3⟩;have hb3w:=hb2.trans (hb3.mono hb2.size);have q0:=(hb3.cell (block_lt_of_cell k02)).trans k02;have q3:=(hb3.cell (block_lt_of_cell k32)).trans k32;clear cR hx2 k02 k32 hb3;by_cases c5:k=10
   ·have i5:(k==10)=true:=(by simpa using c5);cases nb with
    |false=>
     have HE:Hid (A=7):=(by show _=_;rw[←HA.out,if_neg HK.out,if_neg HN.out,if_neg (by decide),if_pos ⟨c5,rfl⟩]);go_wp2_with fail;refine(cN _).mono ?_;rintro r w4 ⟨rfl,hb4⟩;have hb4w:=hb3w.trans (hb4.mono hb3w.size);go_wp2_with fail;go_ret;exact⟨by rw[HE.out];rfl,hb4w⟩
    |true=>
     have HE:Hid (A=0):=(by show _=_;rw[←HA.out,if_neg HK.out,if_neg HN.out,if_neg (by decide),if_neg (by simp)]);go_wp2_with fail;refine(cN _).mono ?_;rintro r w4 ⟨rfl,hb4⟩;have hb4w:=hb3w.trans (hb4.mono hb3w.size);go_wp2_with fail;go_ret;exact⟨by rw[HE.out];rfl,hb4w⟩
   ·have i5:(k==10)=false:=(by simpa using c5);have HE:Hid (A=0):=(by show _=_;rw[←HA.out,if_neg HK.out,if_neg HN.out,if_neg (by decide),if_neg (fun h=>c5 h.1)]);go_wp2_with fail;go_ret;exact⟨by rw[HE.out];rfl,hb3w⟩
 ·have n3:((n:Int) !=(kp:Int))=true:=by simp;omega
  have HE:Hid (A=5):=(by show _=_;rw[←HA.out,if_neg HK.out,if_pos c3]);go_enter Tryd.func114,Tryd.ntmps114;go_wp2_with fail;go_quiet ((go_at_call 127;exact Calls.quiet_of_same (cK _)));have hb2:=below_drewN hb nq;go_wp2_with fail;go_ret;exact⟨by rw[HE.out];rfl,hb2⟩
end Go.Proofs.YtpmobjgnmidolaaDoor
/- What wrongExpr comes to: what is wrong with an expression, counted on. -/
namespace Go.Proofs.YtpmobjgnmidolaaDoor
open Go.RowKit Lx
variable {B:Nat→Prop} {gn:Nat}
def KidsB (B:Nat→Prop):Nat→World→Value→List Ex→Prop
 |0,_,sl,ks=>ks=[]∧ ∃p c,sl= .slice p 0 c
 |d+1,w,sl,ks=>(ks=[]∧ ∃p c,sl= .slice p 0 c)∨ ∃g o c:Nat,B g∧sl= .slice (some ⟨g,o,none⟩) ks.length c∧ks.length<9223372036854775808∧ ∀(j:Nat) (k:Ex),ks[j]? =some k→k.name.length≤9223372036854775807∧ ∃sk:Value,
  w.cell? ⟨g,o+j*5,none⟩=some (.int .i64 k.kind)∧w.cell? ⟨g,o+j*5+1,none⟩=some (.int .i64 k.a)∧w.cell? ⟨g,o+j*5+2,none⟩=some (.int .i64 k.b)∧
  w.cell? ⟨g,o+j*5+3,none⟩=some (.string ⟨k.name.toArray⟩)∧w.cell? ⟨g,o+j*5+4,none⟩=some sk∧KidsB B d w sk k.kids
theorem KidsB.kept {w w':World}(hw: ∀g,B g→g<w.heap.size→w'.heap[g]? =w.heap[g]?): ∀{d:Nat} {sl:Value} {ks:List Ex},KidsB B d w sl ks→KidsB B d w' sl ks
 |0,_,_,h=>h
 |d+1,sl,ks,h=>by
  rcases h with h|⟨g,o,c,hB,hs,hl,hk⟩
  ·exact .inl h
  ·refine .inr ⟨g,o,c,hB,hs,hl,fun j k hj=> ?_⟩;obtain⟨hn,sk,c0,c1,c2,c3,c4,r⟩:=hk j k hj;have e:w'.heap[g]? =w.heap[g]? :=hw g hB (block_lt_of_cell c0);have ce: ∀i,w'.cell? ⟨g,i,none⟩=w.cell? ⟨g,i,none⟩:=fun i=>World.cell?_of_block e;exact⟨hn,sk,(ce _).trans c0,(ce _).trans c1,(ce _).trans c2,(ce _).trans c3,(ce _).trans c4,KidsB.kept hw r⟩
theorem KidsB.mono {B':Nat→Prop}(hB: ∀g,B g→B' g): ∀{d:Nat} {w:World} {sl:Value} {ks:List Ex},KidsB B d w sl ks→KidsB B' d w sl ks
 |0,_,_,_,h=>h
 |d+1,w,sl,ks,h=>by
  rcases h with h|⟨g,o,c,hg,hs,hl,hk⟩
  ·exact .inl h
  ·refine .inr ⟨g,o,c,hB g hg,hs,hl,fun j k hj=> ?_⟩;obtain⟨hn,sk,c0,c1,c2,c3,c4,r⟩:=hk j k hj;exact⟨hn,sk,c0,c1,c2,c3,c4,KidsB.mono hB r⟩
theorem KidsB.form {d:Nat}{w:World}{sl:Value}{ks:List Ex}(h:KidsB B d w sl ks): ∃p c,sl= .slice p ks.length c:=by
 cases d with
 |zero=>
  obtain⟨rfl,p,c,rfl⟩:=h;exact⟨p,c,rfl⟩
 |succ d=>
  rcases h with⟨rfl,p,c,rfl⟩|⟨g,o,c,_,hs,_⟩
  ·exact⟨p,c,rfl⟩
  ·exact⟨_,c,hs⟩
def CntAt (w:World)(gn n:Nat):Prop:=w.heap[gn]? =some (.cells #[.int .i64 (n:Int)] 3 (0,0))
def OutN (gn:Nat)(w:World)(x:Int×Nat)(r:Ending)(w':World):Prop:=r= .returned (.int .i64 x.1)∧CntAt w' gn x.2∧Kept gn w w'
def KidsC (f:FuncId)(gn:Nat)(w:World)(sl:Value)(ks:List Ex):Prop:=
 ∃g o c:Nat,sl= .slice (some ⟨g,o,none⟩) ks.length c∧g≠gn∧ks.length<9223372036854775808∧ ∀(j:Nat) (k:Ex),ks[j]? =some k→ ∃(p:Option Addr) (q:Nat),
  w.cell? ⟨g,o+j*5,none⟩=some (.int .i64 k.kind)∧w.cell? ⟨g,o+j*5+1,none⟩=some (.int .i64 k.a)∧w.cell? ⟨g,o+j*5+2,none⟩=some (.int .i64 k.b)∧
  w.cell? ⟨g,o+j*5+3,none⟩=some (.string ⟨k.name.toArray⟩)∧w.cell? ⟨g,o+j*5+4,none⟩=some (.slice p k.kids.length q)∧
  ∀(W:World) (deep n:Nat),Kept gn w W→CntAt W gn n→n≤600→deep≤41→Calls Tryd.prog f #[.agg #[.int .i64 k.kind,.int .i64 k.a,.int .i64 k.b,.string ⟨k.name.toArray⟩,.slice p k.kids.length q],.int .i64 (deep:Int),.pointer (some ⟨gn,0,none⟩)] W (OutN gn W (shapeP k deep n))
theorem shape_all (f:FuncId)(hB: ∀k,B k→k≠gn)
  (step: ∀(e:Ex) (p:Option Addr) (c:Nat) (w:World) (deep n:Nat),(e.kids=[]∨KidsC f gn w (.slice p e.kids.length c) e.kids)→e.name.length≤9223372036854775807→CntAt w gn n→n≤600→deep≤41→Calls Tryd.prog f #[.agg #[.int .i64 e.kind,.int .i64 e.a,.int .i64 e.b,.string ⟨e.name.toArray⟩,.slice p e.kids.length c],.int .i64 (deep:Int),.pointer (some ⟨gn,0,none⟩)] w (OutN gn w (shapeP e deep n))):
  ∀(d:Nat) (e:Ex) (sl:Value) (w:World) (deep n:Nat),KidsB B d w sl e.kids→e.name.length≤9223372036854775807→CntAt w gn n→n≤600→deep≤41→Calls Tryd.prog f #[exV e sl,.int .i64 (deep:Int),.pointer (some ⟨gn,0,none⟩)] w (OutN gn w (shapeP e deep n)):=by
 intro d;induction d with
 |zero=>
  intro e sl w deep n hk hn hc h6 hd;obtain⟨p,c,rfl⟩:=hk.form;exact step e p c w deep n (.inl hk.1) hn hc h6 hd
 |succ d ih=>
  intro e sl w deep n hk hn hc h6 hd;obtain⟨p,c,hsl⟩:=hk.form;subst hsl;refine step e p c w deep n ?_ hn hc h6 hd;rcases hk with⟨h,_⟩|⟨g,o,c',hg,hs,hl,hkid⟩
  ·exact .inl h
  ·refine .inr ⟨g,o,c',hs,hB g hg,hl,fun j k hj=> ?_⟩;obtain⟨hn',sk,c0,c1,c2,c3,c4,r⟩:=hkid j k hj;obtain⟨p',q',rfl⟩:=r.form;exact⟨p',q',c0,c1,c2,c3,c4,fun W deep n hK hC h6 hd=>ih k _ W deep n (r.kept fun g' hg' hl'=>hK.block g' hl' (fun e=>hB g' hg' (Option.some.inj e))) hn' hC h6 hd⟩
set_option maxRecDepth 100000 in
set_option maxHeartbeats 2000000 in
theorem wexpr_step (e:Ex)(p:Option Addr)(c:Nat)(w:World)(deep n:Nat)(hk:e.kids=[]∨KidsC 91 gn w (.slice p e.kids.length c) e.kids)(hn:e.name.length≤9223372036854775807)(hc:CntAt w gn n)(h6:n≤600)(hd:deep≤41):
  Calls Tryd.prog 91 #[.agg #[.int .i64 e.kind,.int .i64 e.a,.int .i64 e.b,.string ⟨e.name.toArray⟩,.slice p e.kids.length c],.int .i64 (deep:Int),.pointer (some ⟨gn,0,none⟩)] w (OutN gn w (shapeP e deep n)):=by
 have hgl:=lt_of_block hc;have hbA:=(Below.refl w.heap.size w).alloc (Nat.le_refl _) (.cells #[.int .i64 e.kind,.int .i64 e.a,.int .i64 e.b,.string ⟨e.name.toArray⟩,.slice p e.kids.length c] 50);have hxA:=heap_alloc_new w (.cells #[.int .i64 e.kind,.int .i64 e.a,.int .i64 e.b,.string ⟨e.name.toArray⟩,.slice p e.kids.length c] 50);have hcA:=(hbA.block _ hgl).trans hc;generalize hwA:w.alloc (.cells #[.int .i64 e.kind,.int .i64 e.a,.int .i64 e.b,.string ⟨e.name.toArray⟩,.slice p e.kids.length c] 50)=wA at*;have z0:=(cell_of_row _ _ 0 _ _ _ hcA).trans rfl;have y0:=frozen_of_row _ _ 0 _ _ hcA;have hc1:(wA.setCell ⟨gn,0,none⟩ (.int .i64 ((n+1:Nat):Int))).heap[gn]? =some (.cells #[.int .i64 ((n+1:Nat):Int)] 3 (0,0)):=heap_setCell_same _ _ 0 _ _ _ hcA;have hx1:=(heap_setCell_other wA ⟨gn,0,none⟩ w.heap.size (.int .i64 ((n+1:Nat):Int)) (by show w.heap.size≠gn;omega)).trans hxA;have hk1:=(Kept.of_below (g:=gn) hbA).trans (Kept.set wA gn 0 (.int .i64 ((n+1:Nat):Int)));have ei:(n:Int)+1=((n+1:Nat):Int):=by omega
 have hn6:(n:Int)≤600:=by omega
 have q1:=(cell_of_row _ _ 0 _ _ _ hc1).trans rfl;have q4:=(cell_of_row _ _ 4 _ _ _ hx1).trans rfl;have cA:=fun w=>alone_any e p c hn w;unfold exV at cA;generalize hX:shapeP e deep n=X;rw[shapeP_eq]at hX;have HX:Hid ((if 600<n+1∨40<deep then(4,n+1) else if aloneP e≠0 then(aloneP e,n+1) else shapeL e.kids (deep+1) (0,n+1))=X):=hX;have HC:Hid (CntAt (wA.setCell ⟨gn,0,none⟩ (.int .i64 ((n+1:Nat):Int))) gn (n+1)):=hc1;clear hX hc hcA hbA hxA;by_cases c1:600<n+1
 ·have HE:Hid (X=(4,n+1)):=by show _=_;rw[←HX.out,if_pos (.inl c1)]
  have c1':(600:Int)<((n+1:Nat):Int):=(by omega);clear HX c1 hc1;generalize ((n+1:Nat):Int)=vv at*;go_enter Tryd.func91,Tryd.ntmps91;go_wp2_with fail;go_ret;rw[HE.out];exact⟨rfl,HC.out,hk1⟩
 have c1': ¬(600:Int)<((n+1:Nat):Int):=by omega
 by_cases c2:40<deep
 ·have HE:Hid (X=(4,n+1)):=by show _=_;rw[←HX.out,if_pos (.inr c2)]
  have c2':(40:Int)<(deep:Int):=(by omega);clear HX c1 c2 hc1;generalize ((n+1:Nat):Int)=vv at*;go_enter Tryd.func91,Tryd.ntmps91;go_wp2_with fail;go_ret;rw[HE.out];exact⟨rfl,HC.out,hk1⟩
 have c2': ¬(40:Int)<(deep:Int):=by omega
 by_cases c3:aloneP e=0
 ·have hX3:=HX.out;rw[if_neg (by omega),if_neg (by simpa using c3)]at hX3;have HS:Hid (shapeL (e.kids.drop 0) (deep+1) (0,n+1)=X):=hX3;rw[c3]at cA;have hm6:n+1≤600:=(by omega);clear HX c1 hX3 c3 hc1;generalize hvv:((n+1:Nat):Int)=vv at*;generalize hw1:wA.setCell ⟨gn,0,none⟩ (.int .i64 vv)=w1 at*;go_enter Tryd.func91,Tryd.ntmps91;go_wp2_with(refine wpList_load_row rfl 50 _ rfl _ rfl _ _ _ _ hx1 exprType rfl (by kernel_rfl) ?_)
  refine(cA _).mono ?_;rintro r w2 ⟨rfl,hb2⟩;have hk2:=hk1.trans (Kept.of_below hb2);have hc2:CntAt w2 gn (n+1):=(hb2.block _ (lt_of_block HC.out)).trans HC.out;have q42:=(hb2.cell (block_lt_of_cell q4)).trans q4;have HC2:Hid (CntAt w2 gn (n+1)):=hc2;clear cA hw1 HC hc2 hk1 hx1 q4 q1 z0 y0 hwA hb2;go_wp2_with fail;go_loopw [32] (fun t wr=> ∃j m:Nat,t= .int .i64 (j:Int)∧j≤e.kids.length∧shapeL (e.kids.drop j) (deep+1) (0,m)=X∧m≤600∧CntAt wr gn m∧Kept gn w wr) (fun t _=>e.kids.length-(intOf t).toNat);case atStart=>exact⟨0,n+1,rfl,by omega,HS.out,hm6,HC2.out,hk2⟩
  case round=>
   obtain⟨j,m,rfl,hj,hXr,hm,hcr,hkr⟩:=hrel;clear HS HC2 hk2 q42;have hj0:(0:Int)≤(j:Int):=(by omega);by_cases hlt:j<e.kids.length
   ·have hlt':(j:Int)<(e.kids.length:Int):=(by omega);obtain⟨k,hjk⟩: ∃k,e.kids[j]? =some k:=⟨e.kids[j],List.getElem?_eq_getElem hlt⟩
    rw[shapeL_step hjk]at hXr;have hks:e.kids≠[]:=fun h=>(by rw[h]at hlt;simp at hlt);obtain⟨g,o,c',hsl,hgn,hlen,hkid⟩:=hk.resolve_left hks;obtain⟨pk,ck,d0,d1,d2,d3,d4,ihk⟩:=hkid j k hjk;have eb:wr.heap[g]? =w.heap[g]? :=hkr.block g (block_lt_of_cell d0) (fun e=>hgn (Option.some.inj e));have ce: ∀i,wr.cell? ⟨g,i,none⟩=w.cell? ⟨g,i,none⟩:=fun i=>World.cell?_of_block eb;have f0:=(ce _).trans d0;have f1:=(ce _).trans d1;have f2:=(ce _).trans d2;have f3:=(ce _).trans d3;have f4:=(ce _).trans d4;have hbB:Below wr.heap.size wr (wr.alloc (.cells #[.int .i64 k.kind,.int .i64 k.a,.int .i64 k.b,.string ⟨k.name.toArray⟩,.slice pk k.kids.length ck] 50)):=(Below.refl _ _).alloc (Nat.le_refl _) _;have hxB:=heap_alloc_new wr (.cells #[.int .i64 k.kind,.int .i64 k.a,.int .i64 k.b,.string ⟨k.name.toArray⟩,.slice pk k.kids.length ck] 50);have hkB:=hkr.trans (Kept.of_below hbB);have hcB:CntAt (wr.alloc (.cells #[.int .i64 k.kind,.int .i64 k.a,.int .i64 k.b,.string ⟨k.name.toArray⟩,.slice pk k.kids.length ck] 50)) gn m:=(hbB.block _ (lt_of_block hcr)).trans hcr;have cR:=ihk _ (deep+1) m hkB hcB hm (by omega);have hdd:(deep:Int)+1=((deep+1:Nat):Int):=(by omega);have hd40:(deep:Int)≤40:=(by omega);have hle:=fun h=>shapeP_le (e:=k) (deep:=deep+1) (n:=m) h;injection hsl with e1 e2 e3;subst e1;subst e3;clear ce d0 d1 d2 d3 d4 ihk hkid eb hcr hks hjk hcB hbB;have HXr:Hid (shapeL (e.kids.drop (j+1)) (deep+1) (shapeP k (deep+1) m)=X):=hXr;clear hXr;generalize shapeP k (deep+1) m=Y at*;generalize ((deep+1:Nat):Int)=dv at*;generalize hwB:wr.alloc (.cells #[.int .i64 k.kind,.int .i64 k.a,.int .i64 k.b,.string ⟨k.name.toArray⟩,.slice pk k.kids.length ck] 50)=wB at*;obtain⟨y1,y2⟩:=Y;go_wp2_with(refine wpList_load_row rfl 50 _ rfl _ rfl _ _ _ _ hxB exprType rfl (by kernel_rfl) ?_)
    refine cR.mono ?_;rintro r w3 ⟨rfl,hc3,hk3⟩;have hkw3:=hkB.trans hk3;dsimp only at hc3 hle⊢;clear cR hk3 hkB hxB hwB f0 f1 f2 f3 f4;by_cases hy:y1=0
    ·subst hy;have hy2:=hle rfl;go_wp2_with fail;go_roundw;case rel=>exact⟨j+1,y2,by go_num,by omega,HXr.out,hy2,hc3,hkw3⟩
     case measure=>simp[intOf];omega
    ·have hyb:(y1 !=0)=true:=(by simpa using hy);have HE:Hid (X=(y1,y2)):=(by show _=_;rw[←HXr.out,shapeL_bad hy]);clear HXr hle;go_wp2_with fail;go_ret;rw[HE.out];exact⟨rfl,hc3,hkw3⟩
   ·have hlt': ¬(j:Int)<(e.kids.length:Int):=(by omega);have HE:Hid (X=(0,m)):=(by show _=_;rw[←hXr,List.drop_eq_nil_of_le (by omega)];rfl);clear hXr;go_wp2_with fail;go_ret;rw[HE.out];exact⟨rfl,hcr,hkr⟩
 ·have hX3:=HX.out;rw[if_neg (by omega),if_pos c3]at hX3;have HE:Hid (X=(aloneP e,n+1)):=hX3.symm;have n3:(aloneP e !=0)=true:=(by simpa using c3);clear HX hX3 c3 c1 hc1;generalize aloneP e=al at*;generalize hvv:((n+1:Nat):Int)=vv at*;generalize hw1:wA.setCell ⟨gn,0,none⟩ (.int .i64 vv)=w1 at*;go_enter Tryd.func91,Tryd.ntmps91;go_wp2_with(refine wpList_load_row rfl 50 _ rfl _ rfl _ _ _ _ hx1 exprType rfl (by kernel_rfl) ?_)
  refine(cA _).mono ?_;rintro r w2 ⟨rfl,hb2⟩;have hk2:=hk1.trans (Kept.of_below hb2);have HC2:Hid (CntAt w2 gn (n+1)):=(hb2.block _ (lt_of_block HC.out)).trans HC.out;clear cA hw1 HC hk1 hx1 q4 q1 z0 y0 hwA hb2;go_wp2_with fail;go_ret;rw[HE.out];exact⟨rfl,HC2.out,hk2⟩
theorem wexpr_any (hB: ∀k,B k→k≠gn)(d:Nat)(e:Ex)(sl:Value)(w:World)(deep n:Nat)(hk:KidsB B d w sl e.kids)(hn:e.name.length≤9223372036854775807)(hc:CntAt w gn n)(h6:n≤600)(hd:deep≤41):
 Calls Tryd.prog 91 #[exV e sl,.int .i64 (deep:Int),.pointer (some ⟨gn,0,none⟩)] w (OutN gn w (shapeP e deep n)):=shape_all _ hB (fun e p c w deep n=>wexpr_step e p c w deep n) d e sl w deep n hk hn hc h6 hd
end Go.Proofs.YtpmobjgnmidolaaDoor
/- What dates and weekly come to. -/
namespace Go.Proofs.YtpmobjgnmidolaaDoor
open Go.RowKit Lx
variable {all:List Tk} {E g:Nat} {v:Value} {w:World} {i n:Nat}
end Go.Proofs.YtpmobjgnmidolaaDoor
/- What thing comes to, where what it calls comes to what it should. -/
namespace Go.Proofs.YtpmobjgnmidolaaDoor
open Go.RowKit Lx
variable {all:List Tk} {E g:Nat} {v:Value} {w:World} {i n:Nat}
end Go.Proofs.YtpmobjgnmidolaaDoor
/- What factor comes to, where thing comes to what it should. -/
namespace Go.Proofs.YtpmobjgnmidolaaDoor
open Go.RowKit Lx
variable {all:List Tk} {E g:Nat} {v:Value} {w:World} {i n:Nat}
end Go.Proofs.YtpmobjgnmidolaaDoor
/- What term comes to, where factor comes to what it should. -/
namespace Go.Proofs.YtpmobjgnmidolaaDoor
open Go.RowKit Lx
variable {all:List Tk} {E g:Nat} {v:Value} {w:World} {i n:Nat}
end Go.Proofs.YtpmobjgnmidolaaDoor
/- What sum comes to, where term comes to what it should. -/
namespace Go.Proofs.YtpmobjgnmidolaaDoor
open Go.RowKit Lx
variable {all:List Tk} {E g:Nat} {v:Value} {w:World} {i n:Nat}
end Go.Proofs.YtpmobjgnmidolaaDoor
/- The reader whole; how deep an expression is. -/
namespace Go.Proofs.YtpmobjgnmidolaaDoor
open Go.RowKit Lx
variable {all:List Tk} {E g:Nat} {v:Value} {w:World} {i n:Nat}
end Go.Proofs.YtpmobjgnmidolaaDoor
/- What height comes to. -/
namespace Go.Proofs.YtpmobjgnmidolaaDoor
open Go.RowKit Lx
end Go.Proofs.YtpmobjgnmidolaaDoor
/- What the document's Equal comes to, of one expression that lies in memory twice. -/
namespace Go.Proofs.YtpmobjgnmidolaaDoor
open Go.RowKit Lx
end Go.Proofs.YtpmobjgnmidolaaDoor
/- What rule comes to. -/
namespace Go.Proofs.YtpmobjgnmidolaaDoor
open Go.RowKit Lx
variable {all:List Tk} {E g:Nat} {v:Value} {w:World} {i n:Nat}
theorem ruleType:Tryd.prog.underlying 52=some (.struct (Tryd.prog.fieldsOf 52)):=by kernel_rfl
end Go.Proofs.YtpmobjgnmidolaaDoor
/- What rules comes to. -/
namespace Go.Proofs.YtpmobjgnmidolaaDoor
open Go.RowKit Lx
variable {all:List Tk} {E g:Nat} {v:Value} {w:World} {i n:Nat}
theorem row_form {w:World}{base:Nat}{e:TypeId}{size:Nat}{v:Value}{n:Nat}{xs:List Value}(h:w.ownsRow base e size v n xs): ∃p c,v= .slice p n c:=by
 obtain⟨_,h2⟩:=h;rcases h2 with⟨h2,h3⟩|⟨g,cap,_,h2,_⟩
 ·exact⟨none,0,by rw[h2,h3]⟩
 ·exact⟨_,cap,h2⟩
end Go.Proofs.YtpmobjgnmidolaaDoor
/- What the document's Same comes to, of rules that lie in memory twice. -/
namespace Go.Proofs.YtpmobjgnmidolaaDoor
open Go.RowKit Lx
def RRow (w:World)(v:Value)(us:List (Ru×Value)):Prop:=
 (us=[]∧ ∃p c,v= .slice p 0 c)∨ ∃g o c:Nat,v= .slice (some ⟨g,o,none⟩) us.length c∧us.length<9223372036854775808∧ ∀(j:Nat) (p:Ru×Value),us[j]? =some p→
  w.cell? ⟨g,o+j*6,none⟩=some (.string ⟨p.1.1.toArray⟩)∧w.cell? ⟨g,o+j*6+1,none⟩=some (.int .i64 p.1.2.kind)∧w.cell? ⟨g,o+j*6+2,none⟩=some (.int .i64 p.1.2.a)∧w.cell? ⟨g,o+j*6+3,none⟩=some (.int .i64 p.1.2.b)∧
  w.cell? ⟨g,o+j*6+4,none⟩=some (.string ⟨p.1.2.name.toArray⟩)∧w.cell? ⟨g,o+j*6+5,none⟩=some p.2
theorem RRow.below {w w':World}{v:Value}{us:List (Ru×Value)}(h:RRow w v us)(hb:Below w.heap.size w w'):RRow w' v us:=by
 rcases h with h|⟨g,o,c,hv,hl,hc⟩
 ·exact .inl h
 ·refine .inr ⟨g,o,c,hv,hl,fun j p hj=> ?_⟩;obtain⟨c0,c1,c2,c3,c4,c5⟩:=hc j p hj;exact⟨(hb.cell (block_lt_of_cell c0)).trans c0,(hb.cell (block_lt_of_cell c1)).trans c1,(hb.cell (block_lt_of_cell c2)).trans c2,(hb.cell (block_lt_of_cell c3)).trans c3,(hb.cell (block_lt_of_cell c4)).trans c4,(hb.cell (block_lt_of_cell c5)).trans c5⟩
end Go.Proofs.YtpmobjgnmidolaaDoor
