/- The law TopText holds at all texts and days: what a text's rules mean is what the machine leaves of their code, and of the rules printed, parsed and compiled again; the condition is on the listed tables of bits, of powers of ten, of months and of the names of days. -/
import Derived.Test.YtpdoienkhgnceaaGreatDoorPt31
set_option maxRecDepth 100000
set_option maxHeartbeats 8000000
namespace Go.Proofs.YtpdoienkhgnceaaGreatDoor
open Go.Proofs.Tryz Go.RowKit Lx Vx Mx Msk
section
open Go.ChangeShapes Go.WideShapes Go.ChangeAt Go.WideMaps Go.WideElems Go.Joins
theorem E6 (os:Os)(f:os.Started)(H:Type)(b:TypeId×Value->H):
  ReturnsInHanded {} checked os 3 .any (fun w a=>(Rows.topTextSpec.pre b prog f3 [] false w a/\laidMetH prog wQ w)/\sizedMet b prog f3 (OpenSpec.ofChange Rows.topTextSpec) false w a)
   (Rows.topTextSpec.post b prog f3 false true false false):=by
 refine returnsInHanded_of_change_and (C:=checked) (X:=fun w _=>laidMetH prog wQ w) (fun _ _ _ E h=>h.of_heap E) TV f (by kernel_rfl) func3
  (ChangeSpec.witness_shaped (enc:=b) (C:=checked) (os:=os) (X:=fun w _=>laidMetH prog wQ w) false (World.doorLaid prog 400 os) #[.string ⟨#[]⟩,ag 0] 8 rfl (World.shaped_of_RefB (by kernel_rfl) (by kernel_rfl)) (by kernel_rfl) (by kernel_rfl) (by kernel_rfl) (Mf os _)) ?_
 intro W g a u O l d o _ _ z _;have c: ∀(j:Nat) t v,f3.params[j]? =some t->a[j]? =some v->Value.okWide prog W .any g t v:=d;have k:=o;obtain⟨p,q,i,A,rfl,D,F⟩:=o;have m:DataW.TrodAll b prog W 0 (fun _=>true) true f3.params.toList a.toList u p:=i;rw[params3]at m c;obtain⟨I,J,M,N,P,Q,rfl,rfl,rfl,x,y⟩:=trodAll_two m;obtain⟨rfl,rfl⟩:=trodVars_none A;obtain⟨G,rfl,rfl,rfl,r⟩:=Go.ChangeMaps.open_string underlying9 (c 0 9 I rfl rfl) x;obtain⟨s,rfl,rfl,rfl,K⟩:=open_int underlying3 (c 1 3 J rfl rfl) y;have n:=E5 z;clear i d;simp only[iE]at k;refine(Jv G s W r n.1 n.2).mono fun e L ⟨B,bel⟩=> ?_;subst B;exact⟨_,rfl,_,_,_,[],[]++[],[],k,trodAll_mk1 (shut_bool underlying4 _),trodAll_mk2 (Go.ChangeMaps.shut_string underlying9 r) (shut_int underlying3 K),rfl,bel.frame _,fun h=>by cases h⟩
theorem Mh:Rows.TopTextSaid:=
 OpenClaim.holds_of_wide 3 f3 rfl rfl rfl rfl rfl rfl rfl ⟨rfl,rfl,rfl,rfl,rfl⟩ rfl rfl rfl rfl rfl (by kernel_rfl) func3 (by kernel_rfl)
  (dM (by kernel_rfl)) (by unfold Func.isWrapper;first|(rw[ax (by decide+kernel)];kernel_rfl)|(rw[aw (by decide+kernel)];exact⟨rfl,rfl⟩))
  (fun os a H b _=>E6 os a H b)
theorem F8:Rows.TopTextCardSaid:=
 Claim7.holds_tied_plain_at .later [] [.data,.data,.data,.data,.data] true Rows.topTextCard.stood.harness true
  Mh (fun _ h=>by cases h) (by kernel_rfl) (fun _ h=>by cases h) topText_row_tie rfl ⟨rfl,rfl⟩ (by kernel_rfl) rfl
  (fun f d e b=>by
    obtain rfl:f=3:=ay ((show prog.funcNamed Rows.topTextRow.func=some 3 by kernel_rfl).symm.trans e)|>.symm;obtain rfl:d=f3:=(ay (func3.symm.trans b)).symm
    exact⟨by kernel_rfl,fun j t c=>by
     rw[params3]at c;have g:t∈[9,3]:=(by simpa using Array.mem_of_getElem? c);have a:([9,3].all fun u=> !prog.wantsStandIn u)=true:=(by kernel_rfl);exact(show prog.wantsStandIn t=false by simpa using dl.1 a t g)⟩)
  (by kernel_rfl)
#print axioms F8
end
end Go.Proofs.YtpdoienkhgnceaaGreatDoor
