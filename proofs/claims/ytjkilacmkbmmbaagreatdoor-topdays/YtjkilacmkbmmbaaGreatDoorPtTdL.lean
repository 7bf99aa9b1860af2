/- The law TopDays holds at all days: what is open on one day of the week alone is found on the next such day, within a week; the condition is on the listed tables of bits, of months and of the names of days. -/
import Derived.Test.YtjkilacmkbmmbaaGreatDoorPt39
import Derived.Test.YtjkilacmkbmmbaaGreatDoorPt40
set_option maxRecDepth 100000
set_option maxHeartbeats 8000000
namespace Go.Proofs.YtjkilacmkbmmbaaGreatDoor
open Go.Proofs.Tryz Go.RowKit Lx Vx Mx Msk
section
open Go.ChangeShapes Go.WideShapes Go.ChangeAt Go.WideMaps Go.WideElems Go.Joins
theorem DK (os:Os)(started:os.Started)(H:Type)(enc:TypeId×Value->H):
  ReturnsInHanded {} checked os 6 .any (fun w args=>(Rows.topDaysSpec.pre enc prog f6 [] false w args/\laidMetH prog ql w)/\sizedMet enc prog f6 (OpenSpec.ofChange Rows.topDaysSpec) false w args)
   (Rows.topDaysSpec.post enc prog f6 false true false false):=by
 refine returnsInHanded_of_change_and (C:=checked) (X:=fun w _=>laidMetH prog ql w) (fun _ _ _ hh h=>h.of_heap hh) own3 started (by kernel_rfl) func6
  (ChangeSpec.witness_shaped (enc:=enc) (C:=checked) (os:=os) (X:=fun w _=>laidMetH prog ql w) false (World.doorLaid prog 400 os) #[ag 0,ag 0] 8 rfl (World.shaped_of_RefB (by kernel_rfl) (by kernel_rfl)) (by kernel_rfl) (by kernel_rfl) (by kernel_rfl) (Bw os _)) ?_
 intro W base args ds gs before hval0 hW _ _ hL _;have hval: ∀(j:Nat) t v,f6.params[j]? =some t->args[j]? =some v->Value.okWide prog W .any base t v:=hval0;have hW':=hW;obtain⟨p,q,hA0,hV,rfl,hfz,hnd⟩:=hW;have hA:DataW.TrodAll enc prog W 0 (fun _=>true) true f6.params.toList args.toList ds p:=hA0;rw[params6]at hA hval;obtain⟨v0,v1,d0,d1,p0,p1,rfl,rfl,rfl,h0,h1⟩:=trodAll_two hA;obtain⟨rfl,rfl⟩:=trodVars_none hV;obtain⟨a0,rfl,rfl,rfl,w0⟩:=open_int underlying3 (hval 0 3 v0 rfl rfl) h0;obtain⟨a1,rfl,rfl,rfl,w1⟩:=open_int underlying3 (hval 1 3 v1 rfl rfl) h1;have hT:Tbs W.heap.size W:=vV hL;clear hA0 hval0;simp only[eV]at hW';refine(Hi a0 a1 W hT).mono fun e W' ⟨he,bel⟩=> ?_;subst he;exact⟨_,rfl,_,_,_,[],[]++[],[],hW',trodAll_mk1 (shut_bool underlying4 _),trodAll_mk2 (shut_int underlying3 w0) (shut_int underlying3 w1),rfl,bel.frame _,fun h=>by cases h⟩
theorem Ki:Rows.TopDaysSaid:=
 OpenClaim.holds_of_wide 6 f6 rfl rfl rfl rfl rfl rfl rfl ⟨rfl,rfl,rfl,rfl,rfl⟩ rfl rfl rfl rfl rfl (by kernel_rfl) func6 (by kernel_rfl)
  (eE (by kernel_rfl)) (by unfold Func.isWrapper;first|(rw[ax (by decide+kernel)];kernel_rfl)|(rw[aw (by decide+kernel)];exact⟨rfl,rfl⟩))
  (fun os started H enc _=>DK os started H enc)
theorem Ey:Rows.TopDaysCardSaid:=
 Claim7.holds_tied_plain_at .later [] [.data,.data,.data] true Rows.topDaysCard.stood.harness true
  Ki (fun _ h=>by cases h) (by kernel_rfl) (fun _ h=>by cases h) topDays_row_tie rfl ⟨rfl,rfl⟩ (by kernel_rfl) rfl
  (fun f fn hf hfn=>by
    obtain rfl:f=6:=aI ((show prog.funcNamed Rows.topDaysRow.func=some 6 by kernel_rfl).symm.trans hf)|>.symm;obtain rfl:fn=f6:=(aI (func6.symm.trans hfn)).symm
    exact⟨by kernel_rfl,fun j t ht=>by
     rw[params6]at ht;have hm:t∈[3,3]:=(by simpa using Array.mem_of_getElem? ht);have hall:([3,3].all fun u=> !prog.wantsStandIn u)=true:=(by kernel_rfl);exact(show prog.wantsStandIn t=false by simpa using cZ.1 hall t hm)⟩)
  (by kernel_rfl)
#print axioms Ey
end
end Go.Proofs.YtjkilacmkbmmbaaGreatDoor
