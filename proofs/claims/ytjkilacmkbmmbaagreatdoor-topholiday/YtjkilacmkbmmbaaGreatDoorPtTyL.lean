/- The law TopHoliday holds at all texts and days: a rule less what is always on one date is as it was on all others; the condition is on the listed tables of bits, of months and of the names of days. -/
import Derived.Test.YtjkilacmkbmmbaaGreatDoorPt41
import Derived.Test.YtjkilacmkbmmbaaGreatDoorPt40
set_option maxRecDepth 100000
set_option maxHeartbeats 8000000
namespace Go.Proofs.YtjkilacmkbmmbaaGreatDoor
open Go.Proofs.Tryz Go.RowKit Lx Vx Mx Msk
section
open Go.ChangeShapes Go.WideShapes Go.ChangeAt Go.WideMaps Go.WideElems Go.Joins
theorem DO (os:Os)(started:os.Started)(H:Type)(enc:TypeId×Value->H):
  ReturnsInHanded {} checked os 7 .any (fun w args=>(Rows.topHolidaySpec.pre enc prog f7 [] false w args/\laidMetH prog ql w)/\sizedMet enc prog f7 (OpenSpec.ofChange Rows.topHolidaySpec) false w args)
   (Rows.topHolidaySpec.post enc prog f7 false true false false):=by
 refine returnsInHanded_of_change_and (C:=checked) (X:=fun w _=>laidMetH prog ql w) (fun _ _ _ hh h=>h.of_heap hh) own3 started (by kernel_rfl) func7
  (ChangeSpec.witness_shaped (enc:=enc) (C:=checked) (os:=os) (X:=fun w _=>laidMetH prog ql w) false (World.doorLaid prog 400 os) #[.string ⟨#[]⟩,ag 0,ag 0] 8 rfl (World.shaped_of_RefB (by kernel_rfl) (by kernel_rfl)) (by kernel_rfl) (by kernel_rfl) (by kernel_rfl) (Bw os _)) ?_
 intro W base args ds gs before hval0 hW _ _ hL _;have hval: ∀(j:Nat) t v,f7.params[j]? =some t->args[j]? =some v->Value.okWide prog W .any base t v:=hval0;have hW':=hW;obtain⟨p,q,hA0,hV,rfl,hfz,hnd⟩:=hW;have hA:DataW.TrodAll enc prog W 0 (fun _=>true) true f7.params.toList args.toList ds p:=hA0;rw[params7]at hA hval;obtain⟨v0,v1,v2,d0,d1,d2,p0,p1,p2,rfl,rfl,rfl,h0,h1,h2⟩:=trodAll_three hA;obtain⟨rfl,rfl⟩:=trodVars_none hV;obtain⟨s0,rfl,rfl,rfl,w0⟩:=Go.ChangeMaps.open_string underlying9 (hval 0 9 v0 rfl rfl) h0;obtain⟨a1,rfl,rfl,rfl,w1⟩:=open_int underlying3 (hval 1 3 v1 rfl rfl) h1;obtain⟨a2,rfl,rfl,rfl,w2⟩:=open_int underlying3 (hval 2 3 v2 rfl rfl) h2;have hT:Tbs W.heap.size W:=vV hL;clear hA0 hval0;simp only[eV]at hW';refine(Hk s0 a1 a2 W (by rw[bU];have:=w0;unfold maxLen at this;exact this) hT).mono fun e W' ⟨he,bel⟩=> ?_;subst he;exact⟨_,rfl,_,_,_,[],[]++([]++[]),[],hW',trodAll_mk1 (shut_bool underlying4 _),trodAll_mk3 (Go.ChangeMaps.shut_string underlying9 w0) (shut_int underlying3 w1) (shut_int underlying3 w2),rfl,bel.frame _,fun h=>by cases h⟩
theorem Kk:Rows.TopHolidaySaid:=
 OpenClaim.holds_of_wide 7 f7 rfl rfl rfl rfl rfl rfl rfl ⟨rfl,rfl,rfl,rfl,rfl⟩ rfl rfl rfl rfl rfl (by kernel_rfl) func7 (by kernel_rfl)
  (eE (by kernel_rfl)) (by unfold Func.isWrapper;first|(rw[ax (by decide+kernel)];kernel_rfl)|(rw[aw (by decide+kernel)];exact⟨rfl,rfl⟩))
  (fun os started H enc _=>DO os started H enc)
theorem Ez:Rows.TopHolidayCardSaid:=
 Claim7.holds_tied_plain_at .later [] [.data,.data,.data] true Rows.topHolidayCard.stood.harness true
  Kk (fun _ h=>by cases h) (by kernel_rfl) (fun _ h=>by cases h) topHoliday_row_tie rfl ⟨rfl,rfl⟩ (by kernel_rfl) rfl
  (fun f fn hf hfn=>by
    obtain rfl:f=7:=aI ((show prog.funcNamed Rows.topHolidayRow.func=some 7 by kernel_rfl).symm.trans hf)|>.symm;obtain rfl:fn=f7:=(aI (func7.symm.trans hfn)).symm
    exact⟨by kernel_rfl,fun j t ht=>by
     rw[params7]at ht;have hm:t∈[9,3,3]:=(by simpa using Array.mem_of_getElem? ht);have hall:([9,3,3].all fun u=> !prog.wantsStandIn u)=true:=(by kernel_rfl);exact(show prog.wantsStandIn t=false by simpa using cZ.1 hall t hm)⟩)
  (by kernel_rfl)
#print axioms Ez
end
end Go.Proofs.YtjkilacmkbmmbaaGreatDoor
