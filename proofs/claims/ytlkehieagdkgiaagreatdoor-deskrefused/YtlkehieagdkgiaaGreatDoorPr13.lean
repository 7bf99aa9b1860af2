/- Texts of the proof. -/
import Derived.Test.YtlkehieagdkgiaaGreatDoorPr04
set_option maxRecDepth 100000
set_option maxHeartbeats 8000000
namespace Go.Proofs.YtlkehieagdkgiaaGreatDoor
open Go.Proofs.Tryz Go.RowKit Lx Vx Mx Msk
theorem Jo (b f:List Int)(G H:Value)(w:World)(ha:dH w G b)(J:dH w H f):Calls prog 15 #[G,H] w fun r w'=>r= .returned (.bool (decide (b=f)))/\aq w w':=by
 obtain⟨V,N,rfl,E,n⟩:=ha;obtain⟨W,O,rfl,_,q⟩:=J;have y:=bT n;have z:=bT q;clear n q;by_cases u:b.length=f.length
 ·have B:=bT u;go_enter func15,ntmps15;rw[<-u];clear u;go_wp2_with fail;go_loopw [5,13] (fun _ t wr=> ∃j:Nat,t=ag (j:Int)/\j<=b.length/\(∀i<j,b[i]? =f[i]?)/\aq w wr) (fun _ t _=>b.length-(intOf t).toNat);case atStart=>exact⟨0,rfl,by omega,fun i h=>absurd h (Nat.not_lt_zero i),aH _ _⟩
  case round=>
   obtain⟨j,rfl,S,D,d⟩:=hrel;have K:(0:Int)<=(j:Int):=(by omega);have A:=bT D;clear D;by_cases x:j<b.length
   ·have s:(j:Int)<(b.length:Int):=(by omega);obtain⟨m,c⟩: ∃p,b[j]? =some p:=⟨b[j],ay x⟩
    obtain⟨F,a⟩: ∃p,f[j]? =some p:=⟨f[j]'(by have:=B.o;omega),ay _⟩
    obtain⟨P,T,rfl,C⟩:=y.o j _ c;obtain⟨Q,U,rfl,b0⟩:=z.o j _ a;have M:=aj d C;have b1:=aj d b0;clear C b0;by_cases g:m=F
    ·subst g;have g:(m !=m)=false:=(by simp)
     have I:QR (∀i<j+1,b[i]? =f[i]?):=fun i hi=>by
      by_cases h:i=j
      ·rw[h,c,a]
      ·exact A.o i (by omega)
     clear c a;go_wp2_with fail;go_quiet (fail);have l:aq w (wr.drewN nq):=dp d nq;go_wp2_with fail;go_roundw;case rel=>exact⟨j+1,by go_num,by omega,I.o,l⟩
     case measure=>simp[intOf];omega
    ·have L:(m !=F)=true:=(by simpa using g)
     have k:decide (b=f)=false:=by
      simp only[decide_eq_false_iff_not];intro e;rw[e,a]at c;exact g (aN c).symm
     have v:=bT k;clear c a k;go_wp2_with fail;go_quiet (fail);have l:aq w (wr.drewN nq):=dp d nq;go_wp2_with fail;go_ret;exact⟨by rw[v.o];rfl,l⟩
   ·have s: ¬(j:Int)<(b.length:Int):=(by omega)
    have k:decide (b=f)=true:=by
     simp only[bL];apply List.ext_getElem?;intro i;by_cases h:i<j
     ·exact A.o i h
     ·rw[eE (by omega),eE (by have:=B.o;omega)]
    have v:=bT k;clear y z k;go_wp2_with fail;go_ret;exact⟨by rw[v.o];rfl,d⟩
 ·have k:decide (b=f)=false:=by
   simp only[decide_eq_false_iff_not];exact fun e=>u (congrArg List.length e)
  rw[k]
  have R:((b.length:Int) !=(f.length:Int))=true:=by
   simp only[bne_iff_ne,ne_eq];omega
  go_enter func15,ntmps15;go_wp2_with fail;go_ret;exact⟨rfl,aH _ _⟩
end Go.Proofs.YtlkehieagdkgiaaGreatDoor
