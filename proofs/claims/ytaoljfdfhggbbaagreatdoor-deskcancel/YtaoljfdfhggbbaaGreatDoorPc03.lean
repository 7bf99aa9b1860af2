/- Texts of the proof. -/
import Derived.Test.YtaoljfdfhggbbaaGreatDoorPc02
set_option maxRecDepth 100000
set_option maxHeartbeats 8000000
namespace Go.Proofs.YtaoljfdfhggbbaaGreatDoor
open Go.Proofs.Tryz Go.RowKit Lx Vx Mx Msk
def shf (f:Nat->Bool)(x:Int)(t:Nat):Bool:=decide (t<1440)&&(decide (x<=(t:Int))&&(decide ((t:Int)-x<1440)&&f ((t:Int)-x).toNat))
theorem A1 (f:Nat->Bool)(x:Int)(h:x<= -1440\/1440<=x):(mv fun _=>false)=mv (shf f x):=je fun t _=>by
 unfold shf;by_cases a:t<1440
 ·by_cases b:x<=(t:Int)
  ·have: ¬(t:Int)-x<1440:=(by omega);simp[this]
  ·simp[b]
 ·simp[a]
theorem M5 (f:Nat->Bool)(b:Nat):(mv fun t=>(decide (b<=t)&&f (t-b))&&decide (t<1440))=mv (shf f (b:Int)):=je fun t _=>by
 unfold shf;by_cases a:t<1440
 ·by_cases c:b<=t
  ·have d:((t:Int)-(b:Int)).toNat=t-b:=(by omega);have e2:(b:Int)<=(t:Int):=(by omega);have e:(t:Int)-(b:Int)<1440:=(by omega);simp[a,c,d,e]
  ·have e2: ¬(b:Int)<=(t:Int):=(by omega);simp[c]
 ·simp[a]
theorem I6 (f:Nat->Bool)(b:Nat):(mv fun t=>decide (t+b<1472)&&(f (t+b)&&decide (t+b<1440)))=mv (shf f (-(b:Int))):=je fun t _=>by
 unfold shf;by_cases c:t+b<1440
 ·have d:((t:Int)- -(b:Int)).toNat=t+b:=by omega
  have e2: -(b:Int)<=(t:Int):=(by omega);have a:(t:Int)- -(b:Int)<1440:=(by omega);have e:t+b<1472:=(by omega);have g:t<1440:=(by omega);rw[d];simp only[c,e2,a,e,g,decide_true,i8,Bool.and_true]
 ·have a: ¬(t:Int)- -(b:Int)<1440:=by omega
  simp only[c,a,decide_false,jg,Bool.false_and]
theorem wG (f:Nat->Bool)(x:Int)(w:World)(s: -9223372036854775808<=x)(u:x<=9223372036854775807):
  Calls prog 187 #[.agg (mv f),ag x] w fun e w'=>e= .returned (.agg (mv (shf f x)))/\aq w w':=by
 have z:=eI;have o:((w.alloc (.cells (mv f) 84)).alloc (.cells (mv fun _=>false) 84)).heap[w.heap.size]? =ah (mv f) 84:=by(repeat (first|refine dl _ _ _ (by simp only[aU];omega) ?_|exact dC _ _ _ (by first|rfl|simp only[aU])))
 have m:((w.alloc (.cells (mv f) 84)).alloc (.cells (mv fun _=>false) 84)).heap[w.heap.size+1]? =ah (mv fun _=>false) 84:=by(repeat (first|refine dl _ _ _ (by simp only[aU];omega) ?_|exact dC _ _ _ (by first|rfl|simp only[aU])))
 have j:aq w ((w.alloc (.cells (mv f) 84)).alloc (.cells (mv fun _=>false) 84)):=(am _ _).alloc (by simp) _;rcases(show(x<= -1440)\/(1440<=x)\/(-1440<x/\x<0)\/(0<=x/\x<1440) from by omega) with h|h|⟨h,q⟩|⟨h,q⟩
 ·rw[<-A1 f x (.inl h)];go_enter func187,ntmps187;go_wp2_with(refine ay rfl 84 _ _ rfl _ _ rfl rfl _ _ m (bh _) (by simp[bO]) (dQ _) ?_)
  refine aW (v:= .agg (mv fun _=>false)) ?_ rfl ⟨rfl,below_setRow j (by omega) _⟩;exact bc rfl _ _ (w.heap.size+1) _ _ _ _ rfl (aL _ _ _ _ _ _ m) bV rfl (bh _)
 ·rw[<-A1 f x (.inr h)];have r: ¬x<= -1440:=(by omega);go_enter func187,ntmps187;go_wp2_with(refine ay rfl 84 _ _ rfl _ _ rfl rfl _ _ m (bh _) (by simp[bO]) (dQ _) ?_)
  refine aW (v:= .agg (mv fun _=>false)) ?_ rfl ⟨rfl,below_setRow j (by omega) _⟩;exact bc rfl _ _ (w.heap.size+1) _ _ _ _ rfl (aL _ _ _ _ _ _ m) bV rfl (bh _)
 ·obtain⟨b,y⟩: ∃b:Nat,-x=b:=⟨(-x).toNat,by omega⟩
  have l:b<1440:=(by omega);have p:x= -(b:Int):=(by omega);have i:=I6 f b;rw[<-p]at i;rw[<-i];clear i p;go_enter func187,ntmps187
  go_wp2_with(first
   |(refine aR rfl 84 _ rfl _ rfl _ _ _ _ o bV rfl (bh _) ?_)
   |(go_at_call 104;refine(vF _ _).mono ?_;rintro e w' ⟨rfl,d⟩;have g:=ai d m)
   |(go_at_call 209;refine(CJ _ _ l _).mono ?_;rintro e n ⟨rfl,a⟩;have c:=(a.block _ (aH g)).trans g)
   |(refine ay rfl 84 _ _ rfl _ _ rfl rfl _ _ c (bh _) (by simp[bO]) (dQ _) ?_))
  refine aW (v:= .agg (mv fun t=>decide (t+b<1472)&&(f (t+b)&&decide (t+b<1440)))) ?_ rfl ⟨rfl,?_⟩
  ·exact bc rfl _ _ (w.heap.size+1) _ _ _ _ rfl (aL _ _ _ _ _ _ c) bV rfl (bh _)
  ·have k:=aw j d;exact below_setRow (aw k a) (by omega) _
 ·obtain⟨b,rfl⟩: ∃b:Nat,x=b:=⟨x.toNat,by omega⟩
  rw[<-M5 f b];have l:b<1440:=(by omega);go_enter func187,ntmps187
  go_wp2_with(first
   |(refine aR rfl 84 _ rfl _ rfl _ _ _ _ o bV rfl (bh _) ?_)
   |(go_at_call 210;refine(F6 _ _ l _).mono ?_;rintro e w' ⟨rfl,d⟩;have g:=ai d m)
   |(go_at_call 104;refine(vF _ _).mono ?_;rintro e n ⟨rfl,a⟩;have c:=(a.block _ (aH g)).trans g)
   |(refine ay rfl 84 _ _ rfl _ _ rfl rfl _ _ c (bh _) (by simp[bO]) (dQ _) ?_))
  refine aW (v:= .agg (mv fun t=>(decide (b<=t)&&f (t-b))&&decide (t<1440))) ?_ rfl ⟨rfl,?_⟩
  ·exact bc rfl _ _ (w.heap.size+1) _ _ _ _ rfl (aL _ _ _ _ _ _ c) bV rfl (bh _)
  ·have k:=aw j d;exact below_setRow (aw k a) (by omega) _
end Go.Proofs.YtaoljfdfhggbbaaGreatDoor
