/- The law DeskEdit holds at all commands and texts: of new rules all appointments stay as they were, and those are told that live and no longer lie in what some resource's rule means; the condition is on the listed tables of bits, of months and of the names of days. -/
import Derived.Test.YtlkehieagdkgiaaGreatDoorPe37
import Derived.Test.YtlkehieagdkgiaaGreatDoorPe38
set_option maxRecDepth 100000
set_option maxHeartbeats 8000000
namespace Go.Proofs.YtlkehieagdkgiaaGreatDoor
open Go.Proofs.Tryz Go.RowKit Lx Vx Mx Msk
section
open Go.ChangeShapes Go.WideShapes Go.ChangeAt Go.WideMaps Go.WideElems Go.Joins
theorem Dz (os:Os)(f:os.Started)(H:Type)(b:TypeId×Value->H):
  ReturnsInHanded {} checked os 4 .any (fun w a=>(Rows.deskEditSpec.pre b prog f4 [] false w a/\laidMetH prog vS w)/\sizedMet b prog f4 (OpenSpec.ofChange Rows.deskEditSpec) false w a)
   (Rows.deskEditSpec.post b prog f4 false true false false):=by
 refine returnsInHanded_of_change_and (C:=checked) (X:=fun w _=>laidMetH prog vS w) (fun _ _ _ J h=>h.of_heap J) own3 f (by kernel_rfl) func4
  (ChangeSpec.witness_shaped (enc:=b) (C:=checked) (os:=os) (X:=fun w _=>laidMetH prog vS w) false (World.doorLaid prog 400 os) #[af,.string ⟨#[]⟩] 8 rfl (World.shaped_of_RefB (by kernel_rfl) (by kernel_rfl)) (by kernel_rfl) (by kernel_rfl) (by kernel_rfl) (JY os _)) ?_
 intro W i a A S m d s _ _ D _;have c: ∀(j:Nat) t v,f4.params[j]? =some t->a[j]? =some v->Value.okWide prog W .any i t v:=d;have g:=s;obtain⟨p,q,k,F,rfl,I,K⟩:=s;have r:DataW.TrodAll b prog W 0 (fun _=>true) true f4.params.toList a.toList A p:=k;rw[params4]at r c;obtain⟨y,O,Q,R,u,T,rfl,rfl,rfl,o,B⟩:=trodAll_two r;obtain⟨rfl,rfl⟩:=trodVars_none F;obtain⟨M,n⟩:=LR (c 0 22 y rfl rfl) o;obtain⟨N,rfl,rfl,rfl,z⟩:=Go.ChangeMaps.open_string underlying9 (c 1 9 O rfl rfl) B;have E:Tbs W.heap.size W:=Em D;clear k d;simp only[gH]at g;have l: ∀x∈u,x.block<W.heap.size:=fun x L=>by simpa using g.lt x (by simp[L])
 refine(El M y N W n z E).mono fun e P ⟨G,bel⟩=> ?_;subst G;exact⟨_,rfl,_,_,_,[],u++[],[],g,trodAll_mk1 (shut_bool underlying4 _),trodAll_mk2 (LS o bel l) (Go.ChangeMaps.shut_string underlying9 z),rfl,bel.frame _,fun h=>by cases h⟩
theorem J1:Rows.DeskEditSaid:=
 OpenClaim.holds_of_wide 4 f4 rfl rfl rfl rfl rfl rfl rfl ⟨rfl,rfl,rfl,rfl,rfl⟩ rfl rfl rfl rfl rfl (by kernel_rfl) func4 (by kernel_rfl)
  (gj (by kernel_rfl)) (by unfold Func.isWrapper;first|(rw[aB (by decide+kernel)];kernel_rfl)|(rw[ax (by decide+kernel)];exact⟨rfl,rfl⟩))
  (fun os a H b _=>Dz os a H b)
theorem En:Rows.DeskEditCardSaid:=
 Claim7.holds_tied_plain_at .later [] [.data,.data,.data] true Rows.deskEditCard.stood.harness true
  J1 (fun _ h=>by cases h) (by kernel_rfl) (fun _ h=>by cases h) deskEdit_row_tie rfl ⟨rfl,rfl⟩ (by kernel_rfl) rfl
  (fun f d e b=>by
    obtain rfl:f=4:=aN ((show prog.funcNamed Rows.deskEditRow.func=some 4 by kernel_rfl).symm.trans e)|>.symm;obtain rfl:d=f4:=(aN (func4.symm.trans b)).symm
    exact⟨by kernel_rfl,fun j t c=>by
     rw[params4]at c;have g:t∈[22,9]:=(by simpa using Array.mem_of_getElem? c);have a:([22,9].all fun u=> !prog.wantsStandIn u)=true:=(by kernel_rfl);exact(show prog.wantsStandIn t=false by simpa using dD.1 a t g)⟩)
  (by kernel_rfl)
#print axioms En
end
end Go.Proofs.YtlkehieagdkgiaaGreatDoor
