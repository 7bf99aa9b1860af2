/- The law DeskCancel holds at all commands, services, slots and ticks: a slot that is held and cancelled can be held again, what is confirmed stays; the condition is on the listed tables of bits, of months and of the names of days, and on what the arguments weigh. -/
import Derived.Test.YtaoljfdfhggbbaaGreatDoorPc46
set_option maxRecDepth 100000
set_option maxHeartbeats 8000000
namespace Go.Proofs.YtaoljfdfhggbbaaGreatDoor
open Go.Proofs.Tryz Go.RowKit Lx Vx Mx Msk
section
open Go.ChangeShapes Go.WideShapes Go.ChangeAt Go.WideMaps Go.WideElems Go.Joins
theorem yZ (os:Os)(f:os.Started)(H:Type)(c:TypeId×Value->H):
  ReturnsInHanded {} checked os 3 .any (fun w a=>(Rows.deskCancelSpec.pre c prog f3 [] false w a/\laidMetH prog ve w)/\sizedMet c prog f3 (OpenSpec.ofChange Rows.deskCancelSpec) false w a)
   (Rows.deskCancelSpec.post c prog f3 false true false false):=by
 refine returnsInHanded_of_change_and (C:=checked) (X:=fun w _=>laidMetH prog ve w) (fun _ _ _ Y h=>h.of_heap Y) own3 f (by kernel_rfl) func3
  (ChangeSpec.witness_shaped (enc:=c) (C:=checked) (os:=os) (X:=fun w _=>laidMetH prog ve w) false (World.doorLaid prog 400 os) #[af,ag 0,.agg #[ag 0,ag 0,af],ag 0] 8 rfl (World.shaped_of_RefB (by kernel_rfl) (by kernel_rfl)) (by kernel_rfl) (by kernel_rfl) (by kernel_rfl) (IX os _)) ?_
 intro W k a E O s d I _ i R _;have b: ∀(j:Nat) t v,f3.params[j]? =some t->a[j]? =some v->Value.okWide prog W .any k t v:=d;have g:=I;obtain⟨p,q,l,T,rfl,V,Z⟩:=I;have G:DataW.TrodAll c prog W 0 (fun _=>true) true f3.params.toList a.toList E p:=l;have r:(DataW.weightsEach prog (f3.params.toList++[]) (E++O)).all (· <=reachBytes)=true:=i;rw[params3]at G b r;obtain⟨L,v1,v2,v3,d0,d1,d2,d3,J,p1,K,p3,rfl,rfl,rfl,u,P,F,Q⟩:=trodAll_four G;obtain⟨rfl,rfl⟩:=trodVars_none T;obtain⟨l0,o⟩:=KE (b 0 22 L rfl rfl) u;have z:=MN r (j:=0) rfl rfl u o;obtain⟨M,rfl,rfl,rfl,w1⟩:=open_int underlying3 (b 1 3 v1 rfl rfl) P;obtain⟨x2,y2,D,l2,rfl,A,y⟩:=IR (b 2 25 v2 rfl rfl) F;obtain⟨N,rfl,rfl,rfl,w3⟩:=open_int underlying3 (b 3 3 v3 rfl rfl) Q;have S:Tbs W.heap.size W:=Dt R;clear l d i;simp only[il]at g;have m: ∀x∈J,x.block<W.heap.size:=fun x B=>by simpa using g.lt x (by simp[B])
 have n: ∀x∈K,x.block<W.heap.size:=fun x B=>by simpa using g.lt x (by simp[B])
 refine(CH l0 L M x2 y2 D l2 N W o z A y S).mono fun e W' ⟨U,bel⟩=> ?_;subst U;exact⟨_,rfl,_,_,_,[],J++([]++(K++[])),[],g,trodAll_mk1 (shut_bool underlying4 _),trodAll_mk4 (KF u bel m) (shut_int underlying3 w1) (FT F bel n) (shut_int underlying3 w3),rfl,bel.frame _,fun h=>by cases h⟩
theorem Du:Rows.DeskCancelSaid:=
 OpenClaim.holds_of_wide 3 f3 rfl rfl rfl rfl rfl rfl rfl ⟨rfl,rfl,rfl,rfl,rfl⟩ rfl rfl rfl rfl rfl (by kernel_rfl) func3 (by kernel_rfl)
  (fE (by kernel_rfl)) (by unfold Func.isWrapper;first|(rw[aD (by decide+kernel)];kernel_rfl)|(rw[ax (by decide+kernel)];exact⟨rfl,rfl⟩))
  (fun os a H b _=>yZ os a H b)
theorem AI:Rows.DeskCancelCardSaid:=
 Claim7.holds_tied_plain_at .later [] [.data,.data,.data] true Rows.deskCancelCard.stood.harness true
  Du (fun _ h=>by cases h) (by kernel_rfl) (fun _ h=>by cases h) deskCancel_row_tie rfl ⟨rfl,rfl⟩ (by kernel_rfl) rfl
  (fun f d e b=>by
    obtain rfl:f=3:=aN ((show prog.funcNamed Rows.deskCancelRow.func=some 3 by kernel_rfl).symm.trans e)|>.symm;obtain rfl:d=f3:=(aN (func3.symm.trans b)).symm
    exact⟨by kernel_rfl,fun j t c=>by
     rw[params3]at c;have g:t∈[22,3,25,3]:=(by simpa using Array.mem_of_getElem? c);have a:([22,3,25,3].all fun u=> !prog.wantsStandIn u)=true:=(by kernel_rfl);exact(show prog.wantsStandIn t=false by simpa using dr.1 a t g)⟩)
  (by kernel_rfl)
#print axioms AI
end
end Go.Proofs.YtaoljfdfhggbbaaGreatDoor
