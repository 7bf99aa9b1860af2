/- The law TopFull holds at all hours, counts and lengths: slots that are found and held one by one, until there is none, are as many as fit, one behind the other; the condition is on the listed tables of bits, of powers of ten, of months and of the names of days. -/
import Derived.Test.YtjkilacmkbmmbaaGreatDoorPf36
set_option maxRecDepth 100000
set_option maxHeartbeats 8000000
namespace Go.Proofs.YtjkilacmkbmmbaaGreatDoor
open Go.Proofs.Tryz Go.RowKit Lx Vx Mx Msk
section
open Go.ChangeShapes Go.WideShapes Go.ChangeAt Go.WideMaps Go.WideElems Go.Joins
theorem CO (os:Os)(started:os.Started)(H:Type)(enc:TypeId×Value->H):
  ReturnsInHanded {} checked os 4 .any (fun w args=>(Rows.topFullSpec.pre enc prog f4 [] false w args/\laidMetH prog uV w)/\sizedMet enc prog f4 (OpenSpec.ofChange Rows.topFullSpec) false w args)
   (Rows.topFullSpec.post enc prog f4 false true false false):=by
 refine returnsInHanded_of_change_and (C:=checked) (X:=fun w _=>laidMetH prog uV w) (fun _ _ _ hh h=>h.of_heap hh) Ql started (by kernel_rfl) func4
  (ChangeSpec.witness_shaped (enc:=enc) (C:=checked) (os:=os) (X:=fun w _=>laidMetH prog uV w) false (World.doorLaid prog 400 os) #[ag 0,ag 0,ag 0] 8 rfl (World.shaped_of_RefB (by kernel_rfl) (by kernel_rfl)) (by kernel_rfl) (by kernel_rfl) (by kernel_rfl) (Je os _)) ?_
 intro W base args ds gs before hval0 hW _ _ hL _;have hval: ∀(j:Nat) t v,f4.params[j]? =some t->args[j]? =some v->Value.okWide prog W .any base t v:=hval0;have hW':=hW;obtain⟨p,q,hA0,hV,rfl,hfz,hnd⟩:=hW;have hA:DataW.TrodAll enc prog W 0 (fun _=>true) true f4.params.toList args.toList ds p:=hA0;rw[params4]at hA hval;obtain⟨v0,v1,v2,d0,d1,d2,p0,p1,p2,rfl,rfl,rfl,h0,h1,h2⟩:=trodAll_three hA;obtain⟨rfl,rfl⟩:=trodVars_none hV;obtain⟨a0,rfl,rfl,rfl,w0⟩:=open_int underlying3 (hval 0 3 v0 rfl rfl) h0;obtain⟨a1,rfl,rfl,rfl,w1⟩:=open_int underlying3 (hval 1 3 v1 rfl rfl) h1;obtain⟨a2,rfl,rfl,rfl,w2⟩:=open_int underlying3 (hval 2 3 v2 rfl rfl) h2;have hT:Tbs W.heap.size W:=CN hL;clear hA0 hval0;simp only[gg]at hW';refine(F4 a0 a1 a2 W hT).mono fun e W' ⟨he,bel⟩=> ?_;subst he;exact⟨_,rfl,_,_,_,[],[]++([]++[]),[],hW',trodAll_mk1 (shut_bool underlying4 _),trodAll_mk3 (shut_int underlying3 w0) (shut_int underlying3 w1) (shut_int underlying3 w2),rfl,bel.frame _,fun h=>by cases h⟩
theorem Jg:Rows.TopFullSaid:=
 OpenClaim.holds_of_wide 4 f4 rfl rfl rfl rfl rfl rfl rfl ⟨rfl,rfl,rfl,rfl,rfl⟩ rfl rfl rfl rfl rfl (by kernel_rfl) func4 (by kernel_rfl)
  (eJ (by kernel_rfl)) (by unfold Func.isWrapper;first|(rw[ay (by decide+kernel)];kernel_rfl)|(rw[aw (by decide+kernel)];exact⟨rfl,rfl⟩))
  (fun os started H enc _=>CO os started H enc)
theorem Du:Rows.TopFullCardSaid:=
 Claim7.holds_tied_plain_at .later [] [.data,.data,.data,.data,.data] true Rows.topFullCard.stood.harness true
  Jg (fun _ h=>by cases h) (by kernel_rfl) (fun _ h=>by cases h) topFull_row_tie rfl ⟨rfl,rfl⟩ (by kernel_rfl) rfl
  (fun f fn hf hfn=>by
    obtain rfl:f=4:=aK ((show prog.funcNamed Rows.topFullRow.func=some 4 by kernel_rfl).symm.trans hf)|>.symm;obtain rfl:fn=f4:=(aK (func4.symm.trans hfn)).symm
    exact⟨by kernel_rfl,fun j t ht=>by
     rw[params4]at ht;have hm:t∈[3,3,3]:=(by simpa using Array.mem_of_getElem? ht);have hall:([3,3,3].all fun u=> !prog.wantsStandIn u)=true:=(by kernel_rfl);exact(show prog.wantsStandIn t=false by simpa using dh.1 hall t hm)⟩)
  (by kernel_rfl)
#print axioms Du
end
end Go.Proofs.YtjkilacmkbmmbaaGreatDoor
