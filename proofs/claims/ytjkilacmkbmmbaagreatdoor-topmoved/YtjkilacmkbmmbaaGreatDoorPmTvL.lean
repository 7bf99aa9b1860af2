/- The law TopMoved holds at all minutes: an appointment that is moved leaves its slot to another one, and moved onto itself it stays; the condition is on the listed tables of bits, of months and of the names of days. -/
import Derived.Test.YtjkilacmkbmmbaaGreatDoorPm37
set_option maxRecDepth 100000
set_option maxHeartbeats 8000000
namespace Go.Proofs.YtjkilacmkbmmbaaGreatDoor
open Go.Proofs.Tryz Go.RowKit Lx Vx Mx Msk
section
open Go.ChangeShapes Go.WideShapes Go.ChangeAt Go.WideMaps Go.WideElems Go.Joins
theorem Af (os:Os)(started:os.Started)(H:Type)(enc:TypeId×Value->H):
  ReturnsInHanded {} checked os 9 .any (fun w args=>(Rows.topMovedSpec.pre enc prog f9 [] false w args/\laidMetH prog uA w)/\sizedMet enc prog f9 (OpenSpec.ofChange Rows.topMovedSpec) false w args)
   (Rows.topMovedSpec.post enc prog f9 false true false false):=by
 refine returnsInHanded_of_change_and (C:=checked) (X:=fun w _=>laidMetH prog uA w) (fun _ _ _ hh h=>h.of_heap hh) own3 started (by kernel_rfl) func9
  (ChangeSpec.witness_shaped (enc:=enc) (C:=checked) (os:=os) (X:=fun w _=>laidMetH prog uA w) false (World.doorLaid prog 400 os) #[ag 0,ag 0] 8 rfl (World.shaped_of_RefB (by kernel_rfl) (by kernel_rfl)) (by kernel_rfl) (by kernel_rfl) (by kernel_rfl) (Il os _)) ?_
 intro W base args ds gs before hval0 hW _ _ hL _;have hval: ∀(j:Nat) t v,f9.params[j]? =some t->args[j]? =some v->Value.okWide prog W .any base t v:=hval0;have hW':=hW;obtain⟨p,q,hA0,hV,rfl,hfz,hnd⟩:=hW;have hA:DataW.TrodAll enc prog W 0 (fun _=>true) true f9.params.toList args.toList ds p:=hA0;rw[params9]at hA hval;obtain⟨v0,v1,d0,d1,p0,p1,rfl,rfl,rfl,h0,h1⟩:=trodAll_two hA;obtain⟨rfl,rfl⟩:=trodVars_none hV;obtain⟨a0,rfl,rfl,rfl,w0⟩:=open_int underlying3 (hval 0 3 v0 rfl rfl) h0;obtain⟨a1,rfl,rfl,rfl,w1⟩:=open_int underlying3 (hval 1 3 v1 rfl rfl) h1;have hT:Tbs W.heap.size W:=CN hL;clear hA0 hval0;simp only[ip]at hW';refine(CM a0 a1 W hT).mono fun e W' ⟨he,bel⟩=> ?_;subst he;exact⟨_,rfl,_,_,_,[],[]++[],[],hW',trodAll_mk1 (shut_bool underlying4 _),trodAll_mk2 (shut_int underlying3 w0) (shut_int underlying3 w1),rfl,bel.frame _,fun h=>by cases h⟩
theorem Ff:Rows.TopMovedSaid:=
 OpenClaim.holds_of_wide 9 f9 rfl rfl rfl rfl rfl rfl rfl ⟨rfl,rfl,rfl,rfl,rfl⟩ rfl rfl rfl rfl rfl (by kernel_rfl) func9 (by kernel_rfl)
  (fB (by kernel_rfl)) (by unfold Func.isWrapper;first|(rw[az (by decide+kernel)];kernel_rfl)|(rw[aw (by decide+kernel)];exact⟨rfl,rfl⟩))
  (fun os started H enc _=>Af os started H enc)
theorem B6:Rows.TopMovedCardSaid:=
 Claim7.holds_tied_plain_at .later [] [.data,.data,.data] true Rows.topMovedCard.stood.harness true
  Ff (fun _ h=>by cases h) (by kernel_rfl) (fun _ h=>by cases h) topMoved_row_tie rfl ⟨rfl,rfl⟩ (by kernel_rfl) rfl
  (fun f fn hf hfn=>by
    obtain rfl:f=9:=aK ((show prog.funcNamed Rows.topMovedRow.func=some 9 by kernel_rfl).symm.trans hf)|>.symm;obtain rfl:fn=f9:=(aK (func9.symm.trans hfn)).symm
    exact⟨by kernel_rfl,fun j t ht=>by
     rw[params9]at ht;have hm:t∈[3,3]:=(by simpa using Array.mem_of_getElem? ht);have hall:([3,3].all fun u=> !prog.wantsStandIn u)=true:=(by kernel_rfl);exact(show prog.wantsStandIn t=false by simpa using dh.1 hall t hm)⟩)
  (by kernel_rfl)
#print axioms B6
end
end Go.Proofs.YtjkilacmkbmmbaaGreatDoor
