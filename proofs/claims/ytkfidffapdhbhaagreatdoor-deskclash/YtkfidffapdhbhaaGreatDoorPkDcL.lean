/- The law DeskClash holds at all commands: whatever is done, no resource is in two live appointments at one minute, and each appointment lies in its day with the measures that it was made with; the condition is on the listed tables of bits, of months and of the names of days. -/
import Derived.Test.YtkfidffapdhbhaaGreatDoorPk37
open Go.Proofs.Tryz
set_option maxRecDepth 100000
set_option maxHeartbeats 8000000
namespace Go.Proofs.YtkfidffapdhbhaaGreatDoor
section
open Go.ChangeShapes Go.WideShapes Go.ChangeAt Go.WideMaps Go.WideElems Go.RowKit Go.Joins Msk Mx Lx
theorem zL (os:Os)(started:os.Started)(H:Type)(enc:TypeId×Value->H):
  ReturnsInHanded {} checked os 3 .any (fun w args=>(Rows.deskClashSpec.pre enc prog f3 [] false w args/\laidMetH prog ut w)/\sizedMet enc prog f3 (OpenSpec.ofChange Rows.deskClashSpec) false w args)
   (Rows.deskClashSpec.post enc prog f3 false true false false):=by
 refine returnsInHanded_of_change_and (C:=checked) (X:=fun w _=>laidMetH prog ut w) (fun _ _ _ hh h=>h.of_heap hh) own3 started (by kernel_rfl) func3
  (ChangeSpec.witness_shaped (enc:=enc) (C:=checked) (os:=os) (X:=fun w _=>laidMetH prog ut w) false (World.doorLaid prog 400 os) #[af] 8 rfl (World.shaped_of_RefB (by kernel_rfl) (by kernel_rfl)) (by kernel_rfl) (by kernel_rfl) (by kernel_rfl) (H2 os _)) ?_
 intro W base args ds gs before hval0 hW _ _ hL _;have hval: ∀(j:Nat) t v,f3.params[j]? =some t->args[j]? =some v->Value.okWide prog W .any base t v:=hval0;have hW':=hW;obtain⟨p,q,hA0,hV,rfl,hfz,hnd⟩:=hW;have hA:DataW.TrodAll enc prog W 0 (fun _=>true) true f3.params.toList args.toList ds p:=hA0;rw[params3]at hA hval;obtain⟨v0,d0,rfl,rfl,h0⟩:=trodAll_one hA;obtain⟨rfl,rfl⟩:=trodVars_none hV;obtain⟨l0,hs0⟩:=JI (hval 0 22 v0 rfl rfl) h0;have hT:Tbs W.heap.size W:=CH hL;clear hA0 hval0;simp only[iA]at hW';have hlt0: ∀x∈p,x.block<W.heap.size:=fun x hx=>by simpa using hW'.lt x (by simp[hx])
 refine(CF l0 v0 W hs0 hT).mono fun e W' ⟨he,bel⟩=> ?_;subst he;exact⟨_,rfl,_,_,_,[],p,[],hW',trodAll_mk1 (shut_bool underlying4 _),trodAll_mk1 (JJ h0 bel hlt0),rfl,bel.frame _,fun h=>by cases h⟩
theorem E5:Rows.DeskClashSaid:=
 OpenClaim.holds_of_wide 3 f3 rfl rfl rfl rfl rfl rfl rfl ⟨rfl,rfl,rfl,rfl,rfl⟩ rfl rfl rfl rfl rfl (by kernel_rfl) func3 (by kernel_rfl)
  (fD (by kernel_rfl)) (by unfold Func.isWrapper;first|(rw[ay (by decide+kernel)];kernel_rfl)|(rw[au (by decide+kernel)];exact⟨rfl,rfl⟩))
  (fun os started H enc _=>zL os started H enc)
theorem BV:Rows.DeskClashCardSaid:=
 Claim7.holds_tied_plain_at .later [] [.data,.data,.data] true Rows.deskClashCard.stood.harness true
  E5 (fun _ h=>by cases h) (by kernel_rfl) (fun _ h=>by cases h) deskClash_row_tie rfl ⟨rfl,rfl⟩ (by kernel_rfl) rfl
  (fun f fn hf hfn=>by
    obtain rfl:f=3:=aL ((show prog.funcNamed Rows.deskClashRow.func=some 3 by kernel_rfl).symm.trans hf)|>.symm;obtain rfl:fn=f3:=(aL (func3.symm.trans hfn)).symm
    exact⟨by kernel_rfl,fun j t ht=>by
     rw[params3]at ht;have hm:t∈[22]:=(by simpa using Array.mem_of_getElem? ht);have hall:([22].all fun u=> !prog.wantsStandIn u)=true:=(by kernel_rfl);exact(show prog.wantsStandIn t=false by simpa using dr.1 hall t hm)⟩)
  (by kernel_rfl)
#print axioms BV
end
end Go.Proofs.YtkfidffapdhbhaaGreatDoor
