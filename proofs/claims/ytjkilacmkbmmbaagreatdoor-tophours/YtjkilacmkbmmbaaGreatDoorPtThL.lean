/- The law TopHours holds at all hours, lengths and days: the first slot is when it opens, if it is open for long enough, and else there is none; the condition is on the listed tables of bits, of powers of ten, of months and of the names of days. -/
import Derived.Test.YtjkilacmkbmmbaaGreatDoorPt37
set_option maxRecDepth 100000
set_option maxHeartbeats 8000000
namespace Go.Proofs.YtjkilacmkbmmbaaGreatDoor
open Go.Proofs.Tryz Go.RowKit Lx Vx Mx Msk
section
open Go.ChangeShapes Go.WideShapes Go.ChangeAt Go.WideMaps Go.WideElems Go.Joins
theorem BD (os:Os)(started:os.Started)(H:Type)(enc:TypeId×Value->H):
  ReturnsInHanded {} checked os 3 .any (fun w args=>(Rows.topHoursSpec.pre enc prog f3 [] false w args/\laidMetH prog qj w)/\sizedMet enc prog f3 (OpenSpec.ofChange Rows.topHoursSpec) false w args)
   (Rows.topHoursSpec.post enc prog f3 false true false false):=by
 refine returnsInHanded_of_change_and (C:=checked) (X:=fun w _=>laidMetH prog qj w) (fun _ _ _ hh h=>h.of_heap hh) P6 started (by kernel_rfl) func3
  (ChangeSpec.witness_shaped (enc:=enc) (C:=checked) (os:=os) (X:=fun w _=>laidMetH prog qj w) false (World.doorLaid prog 400 os) #[ag 0,ag 0,ag 0,ag 0] 8 rfl (World.shaped_of_RefB (by kernel_rfl) (by kernel_rfl)) (by kernel_rfl) (by kernel_rfl) (by kernel_rfl) (Bv os _)) ?_
 intro W base args ds gs before hval0 hW _ _ hL _;have hval: ∀(j:Nat) t v,f3.params[j]? =some t->args[j]? =some v->Value.okWide prog W .any base t v:=hval0;have hW':=hW;obtain⟨p,q,hA0,hV,rfl,hfz,hnd⟩:=hW;have hA:DataW.TrodAll enc prog W 0 (fun _=>true) true f3.params.toList args.toList ds p:=hA0;rw[params3]at hA hval;obtain⟨v0,v1,v2,v3,d0,d1,d2,d3,p0,p1,p2,p3,rfl,rfl,rfl,h0,h1,h2,h3⟩:=trodAll_four hA;obtain⟨rfl,rfl⟩:=trodVars_none hV;obtain⟨a0,rfl,rfl,rfl,w0⟩:=open_int underlying3 (hval 0 3 v0 rfl rfl) h0;obtain⟨a1,rfl,rfl,rfl,w1⟩:=open_int underlying3 (hval 1 3 v1 rfl rfl) h1;obtain⟨a2,rfl,rfl,rfl,w2⟩:=open_int underlying3 (hval 2 3 v2 rfl rfl) h2;obtain⟨a3,rfl,rfl,rfl,w3⟩:=open_int underlying3 (hval 3 3 v3 rfl rfl) h3;have hT:Tbs W.heap.size W:=uE hL;clear hA0 hval0;simp only[eV]at hW';refine(Eu a0 a1 a2 a3 W hT).mono fun e W' ⟨he,bel⟩=> ?_;subst he;exact⟨_,rfl,_,_,_,[],[]++([]++([]++[])),[],hW',trodAll_mk1 (shut_bool underlying4 _),trodAll_mk4 (shut_int underlying3 w0) (shut_int underlying3 w1) (shut_int underlying3 w2) (shut_int underlying3 w3),rfl,bel.frame _,fun h=>by cases h⟩
theorem Hd:Rows.TopHoursSaid:=
 OpenClaim.holds_of_wide 3 f3 rfl rfl rfl rfl rfl rfl rfl ⟨rfl,rfl,rfl,rfl,rfl⟩ rfl rfl rfl rfl rfl (by kernel_rfl) func3 (by kernel_rfl)
  (eE (by kernel_rfl)) (by unfold Func.isWrapper;first|(rw[ax (by decide+kernel)];kernel_rfl)|(rw[aw (by decide+kernel)];exact⟨rfl,rfl⟩))
  (fun os started H enc _=>BD os started H enc)
theorem DF:Rows.TopHoursCardSaid:=
 Claim7.holds_tied_plain_at .later [] [.data,.data,.data,.data,.data] true Rows.topHoursCard.stood.harness true
  Hd (fun _ h=>by cases h) (by kernel_rfl) (fun _ h=>by cases h) topHours_row_tie rfl ⟨rfl,rfl⟩ (by kernel_rfl) rfl
  (fun f fn hf hfn=>by
    obtain rfl:f=3:=aI ((show prog.funcNamed Rows.topHoursRow.func=some 3 by kernel_rfl).symm.trans hf)|>.symm;obtain rfl:fn=f3:=(aI (func3.symm.trans hfn)).symm
    exact⟨by kernel_rfl,fun j t ht=>by
     rw[params3]at ht;have hm:t∈[3,3,3,3]:=(by simpa using Array.mem_of_getElem? ht);have hall:([3,3,3,3].all fun u=> !prog.wantsStandIn u)=true:=(by kernel_rfl);exact(show prog.wantsStandIn t=false by simpa using cZ.1 hall t hm)⟩)
  (by kernel_rfl)
#print axioms DF
end
end Go.Proofs.YtjkilacmkbmmbaaGreatDoor
