/- The law TopTeam holds at all counts: of a team, of which a service needs two, so many can be held at one minute as there are pairs; the condition is on the listed tables of bits, of months and of the names of days. -/
import Derived.Test.YtjkilacmkbmmbaaGreatDoorPe37
set_option maxRecDepth 100000
set_option maxHeartbeats 8000000
namespace Go.Proofs.YtjkilacmkbmmbaaGreatDoor
open Go.Proofs.Tryz Go.RowKit Lx Vx Mx Msk
section
open Go.ChangeShapes Go.WideShapes Go.ChangeAt Go.WideMaps Go.WideElems Go.Joins
theorem CJ (os:Os)(started:os.Started)(H:Type)(enc:TypeId×Value->H):
  ReturnsInHanded {} checked os 8 .any (fun w args=>(Rows.topTeamSpec.pre enc prog f8 [] false w args/\laidMetH prog uW w)/\sizedMet enc prog f8 (OpenSpec.ofChange Rows.topTeamSpec) false w args)
   (Rows.topTeamSpec.post enc prog f8 false true false false):=by
 refine returnsInHanded_of_change_and (C:=checked) (X:=fun w _=>laidMetH prog uW w) (fun _ _ _ hh h=>h.of_heap hh) own3 started (by kernel_rfl) func8
  (ChangeSpec.witness_shaped (enc:=enc) (C:=checked) (os:=os) (X:=fun w _=>laidMetH prog uW w) false (World.doorLaid prog 400 os) #[ag 0] 8 rfl (World.shaped_of_RefB (by kernel_rfl) (by kernel_rfl)) (by kernel_rfl) (by kernel_rfl) (by kernel_rfl) (I4 os _)) ?_
 intro W base args ds gs before hval0 hW _ _ hL _;have hval: ∀(j:Nat) t v,f8.params[j]? =some t->args[j]? =some v->Value.okWide prog W .any base t v:=hval0;have hW':=hW;obtain⟨p,q,hA0,hV,rfl,hfz,hnd⟩:=hW;have hA:DataW.TrodAll enc prog W 0 (fun _=>true) true f8.params.toList args.toList ds p:=hA0;rw[params8]at hA hval;obtain⟨v0,d0,rfl,rfl,h0⟩:=trodAll_one hA;obtain⟨rfl,rfl⟩:=trodVars_none hV;obtain⟨a0,rfl,rfl,rfl,w0⟩:=open_int underlying3 (hval 0 3 v0 rfl rfl) h0;have hT:Tbs W.heap.size W:=Dq hL;clear hA0 hval0;simp only[gZ]at hW';refine(FU a0 W hT).mono fun e W' ⟨he,bel⟩=> ?_;subst he;exact⟨_,rfl,_,_,_,[],[],[],hW',trodAll_mk1 (shut_bool underlying4 _),trodAll_mk1 (shut_int underlying3 w0),rfl,bel.frame _,fun h=>by cases h⟩
theorem I6:Rows.TopTeamSaid:=
 OpenClaim.holds_of_wide 8 f8 rfl rfl rfl rfl rfl rfl rfl ⟨rfl,rfl,rfl,rfl,rfl⟩ rfl rfl rfl rfl rfl (by kernel_rfl) func8 (by kernel_rfl)
  (eG (by kernel_rfl)) (by unfold Func.isWrapper;first|(rw[ay (by decide+kernel)];kernel_rfl)|(rw[aw (by decide+kernel)];exact⟨rfl,rfl⟩))
  (fun os started H enc _=>CJ os started H enc)
theorem Dr:Rows.TopTeamCardSaid:=
 Claim7.holds_tied_plain_at .later [] [.data,.data,.data] true Rows.topTeamCard.stood.harness true
  I6 (fun _ h=>by cases h) (by kernel_rfl) (fun _ h=>by cases h) topTeam_row_tie rfl ⟨rfl,rfl⟩ (by kernel_rfl) rfl
  (fun f fn hf hfn=>by
    obtain rfl:f=8:=aK ((show prog.funcNamed Rows.topTeamRow.func=some 8 by kernel_rfl).symm.trans hf)|>.symm;obtain rfl:fn=f8:=(aK (func8.symm.trans hfn)).symm
    exact⟨by kernel_rfl,fun j t ht=>by
     rw[params8]at ht;have hm:t∈[3]:=(by simpa using Array.mem_of_getElem? ht);have hall:([3].all fun u=> !prog.wantsStandIn u)=true:=(by kernel_rfl);exact(show prog.wantsStandIn t=false by simpa using dj.1 hall t hm)⟩)
  (by kernel_rfl)
#print axioms Dr
end
end Go.Proofs.YtjkilacmkbmmbaaGreatDoor
