/- The law DeskFound holds at all commands, services and days: a slot that a search tells can be held at once, it is held then, and not told again; the condition is on the listed tables of bits, of months and of the names of days, and on what the arguments weigh. -/
import Derived.Test.YtlkehieagdkgiaaGreatDoorPf39
set_option maxRecDepth 100000
set_option maxHeartbeats 8000000
namespace Go.Proofs.YtlkehieagdkgiaaGreatDoor
open Go.Proofs.Tryz Go.RowKit Lx Vx Mx Msk
section
open Go.ChangeShapes Go.WideShapes Go.ChangeAt Go.WideMaps Go.WideElems Go.Joins
theorem BG (os:Os)(f:os.Started)(H:Type)(c:TypeId×Value->H):
  ReturnsInHanded {} checked os 5 .any (fun w a=>(Rows.deskFoundSpec.pre c prog f5 [] false w a/\laidMetH prog qv w)/\sizedMet c prog f5 (OpenSpec.ofChange Rows.deskFoundSpec) false w a)
   (Rows.deskFoundSpec.post c prog f5 false true false false):=by
 refine returnsInHanded_of_change_and (C:=checked) (X:=fun w _=>laidMetH prog qv w) (fun _ _ _ R h=>h.of_heap R) own3 f (by kernel_rfl) func5
  (ChangeSpec.witness_shaped (enc:=c) (C:=checked) (os:=os) (X:=fun w _=>laidMetH prog qv w) false (World.doorLaid prog 400 os) #[af,ag 0,ag 0,ag 0] 8 rfl (World.shaped_of_RefB (by kernel_rfl) (by kernel_rfl)) (by kernel_rfl) (by kernel_rfl) (by kernel_rfl) (BA os _)) ?_
 intro W k a y I r d A _ g M _;have b: ∀(j:Nat) t v,f5.params[j]? =some t->a[j]? =some v->Value.okWide prog W .any k t v:=d;have i:=A;obtain⟨p,q,l,O,rfl,Q,S⟩:=A;have z:DataW.TrodAll c prog W 0 (fun _=>true) true f5.params.toList a.toList y p:=l;have o:(DataW.weightsEach prog (f5.params.toList++[]) (y++I)).all (· <=reachBytes)=true:=g;rw[params5]at z b o;obtain⟨D,V,Y,Z,d0,d1,d2,d3,B,p1,p2,p3,rfl,rfl,rfl,s,J,K,L⟩:=trodAll_four z;obtain⟨rfl,rfl⟩:=trodVars_none O;obtain⟨U,n⟩:=Dr (b 0 22 D rfl rfl) s;have u:=Fp o (j:=0) rfl rfl s n;obtain⟨E,rfl,rfl,rfl,w1⟩:=open_int underlying3 (b 1 3 V rfl rfl) J;obtain⟨F,rfl,rfl,rfl,w2⟩:=open_int underlying3 (b 2 3 Y rfl rfl) K;obtain⟨G,rfl,rfl,rfl,w3⟩:=open_int underlying3 (b 3 3 Z rfl rfl) L;have N:Tbs W.heap.size W:=ws M;clear l d g;simp only[gJ]at i;have m: ∀x∈B,x.block<W.heap.size:=fun x T=>by simpa using i.lt x (by simp[T])
 refine(EE U D E F G W n u N).mono fun e W' ⟨P,bel⟩=> ?_;subst P;exact⟨_,rfl,_,_,_,[],B++([]++([]++[])),[],i,trodAll_mk1 (shut_bool underlying4 _),trodAll_mk4 (Ds s bel m) (shut_int underlying3 w1) (shut_int underlying3 w2) (shut_int underlying3 w3),rfl,bel.frame _,fun h=>by cases h⟩
theorem Hi:Rows.DeskFoundSaid:=
 OpenClaim.holds_of_wide 5 f5 rfl rfl rfl rfl rfl rfl rfl ⟨rfl,rfl,rfl,rfl,rfl⟩ rfl rfl rfl rfl rfl (by kernel_rfl) func5 (by kernel_rfl)
  (fb (by kernel_rfl)) (by unfold Func.isWrapper;first|(rw[aB (by decide+kernel)];kernel_rfl)|(rw[ax (by decide+kernel)];exact⟨rfl,rfl⟩))
  (fun os a H b _=>BG os a H b)
theorem DF:Rows.DeskFoundCardSaid:=
 Claim7.holds_tied_plain_at .later [] [.data,.data,.data] true Rows.deskFoundCard.stood.harness true
  Hi (fun _ h=>by cases h) (by kernel_rfl) (fun _ h=>by cases h) deskFound_row_tie rfl ⟨rfl,rfl⟩ (by kernel_rfl) rfl
  (fun f d e b=>by
    obtain rfl:f=5:=aM ((show prog.funcNamed Rows.deskFoundRow.func=some 5 by kernel_rfl).symm.trans e)|>.symm;obtain rfl:d=f5:=(aM (func5.symm.trans b)).symm
    exact⟨by kernel_rfl,fun j t c=>by
     rw[params5]at c;have g:t∈[22,3,3,3]:=(by simpa using Array.mem_of_getElem? c);have a:([22,3,3,3].all fun u=> !prog.wantsStandIn u)=true:=(by kernel_rfl);exact(show prog.wantsStandIn t=false by simpa using du.1 a t g)⟩)
  (by kernel_rfl)
#print axioms DF
end
end Go.Proofs.YtlkehieagdkgiaaGreatDoor
