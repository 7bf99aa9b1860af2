/- The law DeskHolds holds at all commands, services, slots and ticks: what is held goes behind ten ticks and not before, and then its slot can be held again; the condition is on the listed tables of bits, of months and of the names of days, and on what the arguments weigh. -/
import Derived.Test.YtkfidffapdhbhaaGreatDoorPh37
set_option maxRecDepth 100000
set_option maxHeartbeats 8000000
namespace Go.Proofs.YtkfidffapdhbhaaGreatDoor
open Go.Proofs.Tryz Go.RowKit Lx Vx Mx Msk
section
open Go.ChangeShapes Go.WideShapes Go.ChangeAt Go.WideMaps Go.WideElems Go.Joins
theorem Az (os:Os)(started:os.Started)(H:Type)(enc:TypeId×Value->H):
  ReturnsInHanded {} checked os 4 .any (fun w args=>(Rows.deskHoldsSpec.pre enc prog f4 [] false w args/\laidMetH prog uW w)/\sizedMet enc prog f4 (OpenSpec.ofChange Rows.deskHoldsSpec) false w args)
   (Rows.deskHoldsSpec.post enc prog f4 false true false false):=by
 refine returnsInHanded_of_change_and (C:=checked) (X:=fun w _=>laidMetH prog uW w) (fun _ _ _ hh h=>h.of_heap hh) own3 started (by kernel_rfl) func4
  (ChangeSpec.witness_shaped (enc:=enc) (C:=checked) (os:=os) (X:=fun w _=>laidMetH prog uW w) false (World.doorLaid prog 400 os) #[af,ag 0,.agg #[ag 0,ag 0,af],ag 0] 8 rfl (World.shaped_of_RefB (by kernel_rfl) (by kernel_rfl)) (by kernel_rfl) (by kernel_rfl) (by kernel_rfl) (IS os _)) ?_
 intro W base args ds gs before hval0 hW _ hsz0 hL _;have hval: ∀(j:Nat) t v,f4.params[j]? =some t->args[j]? =some v->Value.okWide prog W .any base t v:=hval0;have hW':=hW;obtain⟨p,q,hA0,hV,rfl,hfz,hnd⟩:=hW;have hA:DataW.TrodAll enc prog W 0 (fun _=>true) true f4.params.toList args.toList ds p:=hA0;have hsz:(DataW.weightsEach prog (f4.params.toList++[]) (ds++gs)).all (· <=reachBytes)=true:=hsz0;rw[params4]at hA hval hsz;obtain⟨v0,v1,v2,v3,d0,d1,d2,d3,p0,p1,p2,p3,rfl,rfl,rfl,h0,h1,h2,h3⟩:=trodAll_four hA;obtain⟨rfl,rfl⟩:=trodVars_none hV;obtain⟨l0,hs0⟩:=Kz (hval 0 22 v0 rfl rfl) h0;have hn0:=MF hsz (j:=0) rfl rfl h0 hs0;obtain⟨a1,rfl,rfl,rfl,w1⟩:=open_int underlying3 (hval 1 3 v1 rfl rfl) h1;obtain⟨x2,y2,sl2,l2,rfl,hs2,hc2⟩:=II (hval 2 36 v2 rfl rfl) h2;obtain⟨a3,rfl,rfl,rfl,w3⟩:=open_int underlying3 (hval 3 3 v3 rfl rfl) h3;have hT:Tbs W.heap.size W:=Di hL;clear hA0 hval0 hsz0;simp only[ik]at hW';have hlt0: ∀x∈p0,x.block<W.heap.size:=fun x hx=>by simpa using hW'.lt x (by simp[hx])
 have hlt2: ∀x∈p2,x.block<W.heap.size:=fun x hx=>by simpa using hW'.lt x (by simp[hx])
 refine(Dh l0 v0 a1 x2 y2 sl2 l2 a3 W hs0 hn0 hs2 hc2 hT).mono fun e W' ⟨he,bel⟩=> ?_;subst he;exact⟨_,rfl,_,_,_,[],p0++([]++(p2++[])),[],hW',trodAll_mk1 (shut_bool underlying4 _),trodAll_mk4 (KA h0 bel hlt0) (shut_int underlying3 w1) (FI h2 bel hlt2) (shut_int underlying3 w3),rfl,bel.frame _,fun h=>by cases h⟩
theorem FN:Rows.DeskHoldsSaid:=
 OpenClaim.holds_of_wide 4 f4 rfl rfl rfl rfl rfl rfl rfl ⟨rfl,rfl,rfl,rfl,rfl⟩ rfl rfl rfl rfl rfl (by kernel_rfl) func4 (by kernel_rfl)
  (fE (by kernel_rfl)) (by unfold Func.isWrapper;first|(rw[aD (by decide+kernel)];kernel_rfl)|(rw[ax (by decide+kernel)];exact⟨rfl,rfl⟩))
  (fun os started H enc _=>Az os started H enc)
theorem Cy:Rows.DeskHoldsCardSaid:=
 Claim7.holds_tied_plain_at .later [] [.data,.data,.data] true Rows.deskHoldsCard.stood.harness true
  FN (fun _ h=>by cases h) (by kernel_rfl) (fun _ h=>by cases h) deskHolds_row_tie rfl ⟨rfl,rfl⟩ (by kernel_rfl) rfl
  (fun f fn hf hfn=>by
    obtain rfl:f=4:=aN ((show prog.funcNamed Rows.deskHoldsRow.func=some 4 by kernel_rfl).symm.trans hf)|>.symm;obtain rfl:fn=f4:=(aN (func4.symm.trans hfn)).symm
    exact⟨by kernel_rfl,fun j t ht=>by
     rw[params4]at ht;have hm:t∈[22,3,36,3]:=(by simpa using Array.mem_of_getElem? ht);have hall:([22,3,36,3].all fun u=> !prog.wantsStandIn u)=true:=(by kernel_rfl);exact(show prog.wantsStandIn t=false by simpa using dr.1 hall t hm)⟩)
  (by kernel_rfl)
#print axioms Cy
end
end Go.Proofs.YtkfidffapdhbhaaGreatDoor
