/- The law DeskFree holds at all commands: an appointment that is held, or moved, lies in what all its resources' rules mean on its day; the condition is on the listed tables of bits, of months and of the names of days. -/
import Derived.Test.YtlkehieagdkgiaaGreatDoorPr38
set_option maxRecDepth 100000
set_option maxHeartbeats 8000000
namespace Go.Proofs.YtlkehieagdkgiaaGreatDoor
open Go.Proofs.Tryz Go.RowKit Lx Vx Mx Msk
section
open Go.ChangeShapes Go.WideShapes Go.ChangeAt Go.WideMaps Go.WideElems Go.Joins
theorem Dv (os:Os)(d:os.Started)(H:Type)(b:TypeId×Value->H):
  ReturnsInHanded {} checked os 3 .any (fun w a=>(Rows.deskFreeSpec.pre b prog f3 [] false w a/\laidMetH prog qx w)/\sizedMet b prog f3 (OpenSpec.ofChange Rows.deskFreeSpec) false w a)
   (Rows.deskFreeSpec.post b prog f3 false true false false):=by
 refine returnsInHanded_of_change_and (C:=checked) (X:=fun w _=>laidMetH prog qx w) (fun _ _ _ F h=>h.of_heap F) own3 d (by kernel_rfl) func3
  (ChangeSpec.witness_shaped (enc:=b) (C:=checked) (os:=os) (X:=fun w _=>laidMetH prog qx w) false (World.doorLaid prog 400 os) #[af] 8 rfl (World.shaped_of_RefB (by kernel_rfl) (by kernel_rfl)) (by kernel_rfl) (by kernel_rfl) (by kernel_rfl) (Bn os _)) ?_
 intro W i a y M m c s _ _ z _;have f: ∀(j:Nat) t v,f3.params[j]? =some t->a[j]? =some v->Value.okWide prog W .any i t v:=c;have g:=s;obtain⟨p,q,k,B,rfl,E,G⟩:=s;have r:DataW.TrodAll b prog W 0 (fun _=>true) true f3.params.toList a.toList y p:=k;rw[params3]at r f;obtain⟨u,L,rfl,rfl,n⟩:=trodAll_one r;obtain⟨rfl,rfl⟩:=trodVars_none B;obtain⟨J,o⟩:=Dl (f 0 22 u rfl rfl) n;have A:Tbs W.heap.size W:=wg z;clear k c;simp only[gu]at g;have l: ∀x∈p,x.block<W.heap.size:=fun x I=>by simpa using g.lt x (by simp[I])
 refine(GV J u W o (fun _ _ _ e=>N0 n e) A).mono fun e K ⟨D,bel⟩=> ?_;subst D;exact⟨_,rfl,_,_,_,[],p,[],g,trodAll_mk1 (shut_bool underlying4 _),trodAll_mk1 (Dm n bel l),rfl,bel.frame _,fun h=>by cases h⟩
theorem JY:Rows.DeskFreeSaid:=
 OpenClaim.holds_of_wide 3 f3 rfl rfl rfl rfl rfl rfl rfl ⟨rfl,rfl,rfl,rfl,rfl⟩ rfl rfl rfl rfl rfl (by kernel_rfl) func3 (by kernel_rfl)
  (fI (by kernel_rfl)) (by unfold Func.isWrapper;first|(rw[aB (by decide+kernel)];kernel_rfl)|(rw[ax (by decide+kernel)];exact⟨rfl,rfl⟩))
  (fun os a H b _=>Dv os a H b)
theorem Eg:Rows.DeskFreeCardSaid:=
 Claim7.holds_tied_plain_at .later [] [.data,.data,.data] true Rows.deskFreeCard.stood.harness true
  JY (fun _ h=>by cases h) (by kernel_rfl) (fun _ h=>by cases h) deskFree_row_tie rfl ⟨rfl,rfl⟩ (by kernel_rfl) rfl
  (fun f d e b=>by
    obtain rfl:f=3:=aN ((show prog.funcNamed Rows.deskFreeRow.func=some 3 by kernel_rfl).symm.trans e)|>.symm;obtain rfl:d=f3:=(aN (func3.symm.trans b)).symm
    exact⟨by kernel_rfl,fun j t c=>by
     rw[params3]at c;have g:t∈[22]:=(by simpa using Array.mem_of_getElem? c);have a:([22].all fun u=> !prog.wantsStandIn u)=true:=(by kernel_rfl);exact(show prog.wantsStandIn t=false by simpa using dt.1 a t g)⟩)
  (by kernel_rfl)
#print axioms Eg
end
end Go.Proofs.YtlkehieagdkgiaaGreatDoor
