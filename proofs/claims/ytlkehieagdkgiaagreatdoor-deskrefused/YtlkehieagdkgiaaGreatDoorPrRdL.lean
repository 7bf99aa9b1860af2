/- The law DeskRefused holds at all commands: without those that were refused the desk comes to the same, and none is refused; the condition is on the listed tables of bits, of months and of the names of days. -/
import Derived.Test.YtlkehieagdkgiaaGreatDoorPr39
set_option maxRecDepth 100000
set_option maxHeartbeats 8000000
namespace Go.Proofs.YtlkehieagdkgiaaGreatDoor
open Go.Proofs.Tryz Go.RowKit Lx Vx Mx Msk
section
open Go.ChangeShapes Go.WideShapes Go.ChangeAt Go.WideMaps Go.WideElems Go.Joins
theorem zi (os:Os)(d:os.Started)(H:Type)(b:TypeId×Value->H):
  ReturnsInHanded {} checked os 7 .any (fun w a=>(Rows.deskRefusedSpec.pre b prog f7 [] false w a/\laidMetH prog qx w)/\sizedMet b prog f7 (OpenSpec.ofChange Rows.deskRefusedSpec) false w a)
   (Rows.deskRefusedSpec.post b prog f7 false true false false):=by
 refine returnsInHanded_of_change_and (C:=checked) (X:=fun w _=>laidMetH prog qx w) (fun _ _ _ F h=>h.of_heap F) own3 d (by kernel_rfl) func7
  (ChangeSpec.witness_shaped (enc:=b) (C:=checked) (os:=os) (X:=fun w _=>laidMetH prog qx w) false (World.doorLaid prog 400 os) #[af] 8 rfl (World.shaped_of_RefB (by kernel_rfl) (by kernel_rfl)) (by kernel_rfl) (by kernel_rfl) (by kernel_rfl) (Bn os _)) ?_
 intro W i a y M m c s _ _ z _;have f: ∀(j:Nat) t v,f7.params[j]? =some t->a[j]? =some v->Value.okWide prog W .any i t v:=c;have g:=s;obtain⟨p,q,k,B,rfl,E,G⟩:=s;have r:DataW.TrodAll b prog W 0 (fun _=>true) true f7.params.toList a.toList y p:=k;rw[params7]at r f;obtain⟨u,L,rfl,rfl,o⟩:=trodAll_one r;obtain⟨rfl,rfl⟩:=trodVars_none B;obtain⟨J,n⟩:=Dl (f 0 22 u rfl rfl) o;have A:Tbs W.heap.size W:=wg z;clear k c;simp only[gu]at g;have l: ∀x∈p,x.block<W.heap.size:=fun x I=>by simpa using g.lt x (by simp[I])
 refine(Bs J u W n A).mono fun e K ⟨D,bel⟩=> ?_;subst D;exact⟨_,rfl,_,_,_,[],p,[],g,trodAll_mk1 (shut_bool underlying4 _),trodAll_mk1 (Dm o bel l),rfl,bel.frame _,fun h=>by cases h⟩
theorem Dt:Rows.DeskRefusedSaid:=
 OpenClaim.holds_of_wide 7 f7 rfl rfl rfl rfl rfl rfl rfl ⟨rfl,rfl,rfl,rfl,rfl⟩ rfl rfl rfl rfl rfl (by kernel_rfl) func7 (by kernel_rfl)
  (fI (by kernel_rfl)) (by unfold Func.isWrapper;first|(rw[aB (by decide+kernel)];kernel_rfl)|(rw[ax (by decide+kernel)];exact⟨rfl,rfl⟩))
  (fun os a H b _=>zi os a H b)
theorem Ah:Rows.DeskRefusedCardSaid:=
 Claim7.holds_tied_plain_at .later [] [.data,.data,.data] true Rows.deskRefusedCard.stood.harness true
  Dt (fun _ h=>by cases h) (by kernel_rfl) (fun _ h=>by cases h) deskRefused_row_tie rfl ⟨rfl,rfl⟩ (by kernel_rfl) rfl
  (fun f d e b=>by
    obtain rfl:f=7:=aN ((show prog.funcNamed Rows.deskRefusedRow.func=some 7 by kernel_rfl).symm.trans e)|>.symm;obtain rfl:d=f7:=(aN (func7.symm.trans b)).symm
    exact⟨by kernel_rfl,fun j t c=>by
     rw[params7]at c;have g:t∈[22]:=(by simpa using Array.mem_of_getElem? c);have a:([22].all fun u=> !prog.wantsStandIn u)=true:=(by kernel_rfl);exact(show prog.wantsStandIn t=false by simpa using dt.1 a t g)⟩)
  (by kernel_rfl)
#print axioms Ah
end
end Go.Proofs.YtlkehieagdkgiaaGreatDoor
