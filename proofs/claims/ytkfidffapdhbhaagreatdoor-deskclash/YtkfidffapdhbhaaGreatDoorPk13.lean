/- Texts of the proof. -/
import Derived.Test.YtkfidffapdhbhaaGreatDoorPk02
import Derived.Lib.SmallJoins
open Go.Proofs.Tryz
set_option maxRecDepth 100000
set_option maxHeartbeats 8000000
namespace Go.Proofs.YtkfidffapdhbhaaGreatDoor
section
open Go.ChangeShapes Go.WideShapes Go.ChangeAt Go.WideMaps Go.WideElems Go.RowKit Go.Joins Msk
variable {H:Type} {enc:TypeId×Value->H} {W:World}
theorem cN9:prog.cellsOf 3=1:=by kernel_rfl
theorem Nk (g o n:Nat):(⟨g,o,none⟩:Addr).add n=⟨g,o+n,none⟩:=by
 by_cases h:n=0
 ·subst h;simp[Addr.add]
 ·simp[Addr.add,h]
theorem Hy {α:Type}{l:List α}(h:l.length=3): ∃a b c,l=[a,b,c]:=by
 match l,h with
 |[a,b,c],_=>exact⟨a,b,c,rfl⟩
theorem vE {α:Type}(d0:α){size:Nat}{t e:TypeId}(ht:prog.underlying t=some (.slice e))(hsz:prog.cellsOf e=size)(h0:0<size)(Q:(Nat->Option Value)->α->Prop)
  (hel: ∀(fuel:Nat) (cs:List Value) (y:DataW H×List MemPlace),DataW.trod enc prog W 0 (fun _=>true) true fuel e cs=some y-> ∃u:α,cs.length=size/\Q (fun k=>cs[k]?) u) {fuel:Nat} {cs:List Value} {x:DataW H×List MemPlace}
  (h:DataW.trod enc prog W 0 (fun _=>true) true fuel t cs=some x):
  ∃(p:Option Addr) (len cap:Nat) (us:List α),cs=[.slice p len cap]/\us.length=len/\len<9223372036854775808/\ ∀(j:Nat) (u:α),us[j]? =some u-> ∃g o:Nat,p=some ⟨g,o,none⟩/\ ∃c:List Value,c.length=size/\(∀k v,c[k]? =some v->W.cell? (ae g (o+j*size+k))=some v)/\Q (fun k=>c[k]?) u:=by
 rcases DataW.trod_slice ht h with⟨e1,_⟩|⟨a,len,cap,elems,rest,m,hf,e1,_,_,hlc,hm,hlen,hall,_⟩
 ·exact⟨none,0,0,[],e1,rfl,by decide,fun j u hj=>by simp at hj⟩
 ·have hl2:len<9223372036854775808:=by unfold maxLen at hm;omega
  have each: ∀i,i<len-> ∃u:α,∃g o:Nat,a=⟨g,o,none⟩/\ ∃c:List Value,c.length=size/\(∀k v,c[k]? =some v->W.cell? (ae g (o+i*size+k))=some v)/\Q (fun k=>c[k]?) u:=by
   intro i hi;have h1:=hall i hi;rw[hsz]at h1;have hy:elems[i]? =some (elems[i]'(by omega)):=ax _;rw[hy,Option.bind_eq_some_iff]at h1;obtain⟨c,hc,htr⟩:=h1;obtain⟨u,hcl,hq⟩:=hel _ _ _ htr
   have spot:a.spot=none:=by
    have h2:=hall 0 (by omega);rw[hsz]at h2;have hy0:elems[0]? =some (elems[0]'(by omega)):=ax _;rw[hy0,Option.bind_eq_some_iff]at h2;obtain⟨c',hc',htr'⟩:=h2;obtain⟨_,hcl',_⟩:=hel _ _ _ htr';have e0:c'[0]? =some (c'[0]'(by omega)):=ax _;have q0:=(World.cells?_some hc').2.2 0 (by omega);rw[e0]at q0;have q':=World.cell?_spot q0;simpa[Addr.add] using q'
   obtain⟨g,o,s⟩:=a;have q:=(World.cells?_some hc).2.2;dsimp only at spot;subst spot;refine⟨u,g,o,rfl,c,hcl,fun k v hk=> ?_,hq⟩;have hk':k<c.length:=(aE.1 hk).1;have qk:=q k (by omega);rw[Nk,Nk,hk]at qk;exact qk
  let pick:Nat->α:=fun i=>if h:i<len then Classical.choose (each i h) else d0;have hpick: ∀i (h:i<len),pick i=Classical.choose (each i h):=fun i h=>(by simp only[pick,h,dif_pos]);refine⟨some a,len,cap,(List.range len).map pick,e1,by simp,hl2,fun j u hj=> ?_⟩
  have hjl:j<len:=by
   have:=(aE.1 hj).1;simpa using this
  rw[a8,List.getElem?_range hjl]at hj;have hu:u=Classical.choose (each j hjl):=(aL hj).symm.trans (hpick j hjl);rw[hu];obtain⟨g,o,ea,c,h1,h2,h3⟩:=Classical.choose_spec (each j hjl);exact⟨g,o,by rw[ea],c,h1,h2,h3⟩
theorem J5 {α:Type}{l:List α}(h:l.length=4): ∃a b c d,l=[a,b,c,d]:=by
 match l,h with
 |[a,b,c,d],_=>exact⟨a,b,c,d,rfl⟩
end
end Go.Proofs.YtkfidffapdhbhaaGreatDoor
