/- Texts of the proof. -/
import Derived.Test.YtlkehieagdkgiaaGreatDoorCards
import Derived.Test.YtlkehieagdkgiaaGreatDoorTie
import Derived.LaidMore
import Derived.SevenTiedAt
import Derived.Test.YtlkehieagdkgiaaGreatDoorPe30
set_option maxRecDepth 100000
set_option maxHeartbeats 8000000
namespace Go.Proofs.YtlkehieagdkgiaaGreatDoor
open Go.Proofs.Tryz Go.RowKit Lx Vx Mx Msk
section
open Go.ChangeShapes Go.WideShapes Go.ChangeAt Go.WideMaps Go.WideElems Go.Joins
abbrev vS:List (String×DataW Unit):=Rows.deskFoundRow.laid
def Mh:String:=(Rows.deskFoundRow.laid.headD default).1
def PT:String:=(Rows.deskFoundRow.laid.getD 1 default).1
def Q8:String:=(Rows.deskFoundRow.laid.getD 2 default).1
def tN:List Int:=Lib.deBruijn64tab.map fun(n:Nat)=>(n:Int)
theorem own3:ownKnob prog.godebug=none:=by kernel_rfl
theorem JX:prog.globalNamed Mh=some 3:=by kernel_rfl
theorem PU:(prog.globals[3]?).map (·.type)=some 283:=by kernel_rfl
theorem Mi:prog.globalNamed PT=some 0:=by kernel_rfl
theorem QA:(prog.globals[0]?).map (·.type)=some 230:=by kernel_rfl
theorem Mj:prog.globalNamed Q8=some 2:=by kernel_rfl
theorem QB:(prog.globals[2]?).map (·.type)=some 282:=by kernel_rfl
theorem cI3:prog.cellsOf 3=1:=by kernel_rfl
theorem cB3:prog.cellsOf 5=1:=by kernel_rfl
theorem cT3:prog.cellsOf 283=64:=by kernel_rfl
theorem cL3:prog.cellsOf 230=12:=by kernel_rfl
theorem cS3:prog.cellsOf 9=1:=by kernel_rfl
theorem cD3:prog.cellsOf 282=7:=by kernel_rfl
theorem JY (os:Os)(a:Array Value):laidMetH prog vS ((World.doorLaid prog 400 os).forCall (fun _ _=>0) ⟨#[],a,[]⟩).memory:=
 laidMetH_of_parts3 (fuel:=8) (laidMet_of_run' 8 (by kernel_rfl) (by kernel_rfl)) (by kernel_rfl) (by kernel_rfl)
theorem JZ {H:Type}{j:TypeId×Value->H}{P:Program}{w:World}{f:Nat}{sp:Nat->Bool}{held:Bool}{t e:TypeId}{n:Nat}{g:List Value}{zs:List (List UInt8)}{p:List MemPlace}(G:P.underlying t=some (.array n e))(D:P.underlying e=some .string)(k:P.cellsOf e=1)(m:P.cellsOf t=n):
  ∀c,DataW.trod j P w f sp held c t g=some (.agg (zs.map fun z=> .lit (.string z)),p)-> ∀(i:Nat) (z:List UInt8),zs[i]? =some z->g[i]? =some (.string ⟨z.toArray⟩)
 |0,h,_,_,_=>by simp[DataW.trod]at h
 |c+1,h,i,z,J=>by
  simp only[DataW.trod,G,k,m,Nat.mul_one]at h;split at h
  ·obtain⟨xs,u,I⟩:=eh.1 h;have v:xs.map (fun x=>x.1)=zs.map fun z=>(DataW.lit (.string z):DataW H):=(by simpa using congrArg Prod.fst I);have r:(xs.map fun x=>x.1)[i]? =some (DataW.lit (.string z):DataW H):=(by rw[v,a8,J];rfl);rw[a8]at r;obtain⟨x,d,q⟩:=eh.1 r
   have o:i<n:=by
    have a:=(aF.1 d).1;have b:=Lib.mapM_length u;simp at b;omega
   obtain⟨b,B,E⟩:=Lib.mapM_at u i i (by simp[o]);obtain⟨s,C,rfl,_⟩:=DataW.trod_string D E;rw[B]at d;obtain rfl:=aN d;have F:s.data.toList=z:=(by simpa using q);have y:=congrArg (fun l:List Value=>l[0]?) C;have A:g[i]? =some (.string s):=(by simpa[jz,List.getElem?_drop] using y);rw[A,<-F]
  ·cases h
theorem BB {W:World}(h:laidMetH prog vS W):Tab W/\gT W/\qP W:=by
 rw[MakeChecks.laidMetH_plain _ _ _ (by kernel_rfl)]at h;obtain⟨I,⟨C,t1,s,b,F,J,g,m,p,d,⟨D,t2,u,c,G,K,k,n,q,e,⟨E,M,v,a,H,L,l,o,r,f,_,_⟩,_⟩,_⟩,_⟩:=h;obtain rfl:=aN (JX.symm.trans g);obtain rfl:=aN (PU.symm.trans m);obtain rfl:=aN (Mi.symm.trans k);obtain rfl:=aN (QA.symm.trans n);obtain rfl:=aN (Mj.symm.trans l);obtain rfl:=aN (QB.symm.trans o);refine⟨?_,?_,?_⟩
 ·have w:=Lib.cells_of_tab (zs:=tN) underlying283 underlying5 cB3 cT3 d
  have t:Lib.TabIs prog W Mh .u8 tN:=by
   unfold Lib.TabIs;rw[<-w];exact p
  intro i hi;have:=t.cell JX i (by simpa[tN,Lib.deBruijn64tab] using hi);rw[this];have A:i<Lib.deBruijn64tab.length:=(by simpa[Lib.deBruijn64tab] using hi);simp[tN,List.getD,A]
 ·have x:=Lib.cells_of_tab (zs:=tab) underlying230 underlying3 cI3 cL3 e
  have t:Lib.TabIs prog W PT .i64 tab:=by
   unfold Lib.TabIs;rw[<-x];exact q
  intro i hi;exact t.cell Mi i (by simpa[tab] using hi)
 ·intro j z
  have B:fH[j]? =some (fH.getD j []):=by
   rw[dg,ay (by exact z)];rfl
  have y:=JZ (zs:=fH) underlying282 underlying9 cS3 cD3 a f j _ B;have:=World.var?_cell Mj r j;rw[this];simpa using y
end
section
open Go.ChangeShapes Go.WideShapes Go.ChangeAt Go.WideMaps Go.WideElems Go.Joins
theorem Em {W:World}(h:laidMetH prog vS W):Tbs W.heap.size W:=fun e d=>by
 obtain⟨a,b,c⟩:=BB h;exact⟨fun i hi=>(d.cell (cZ (b i hi))).trans (b i hi),fun i hi=>(d.cell (cZ (c i hi))).trans (c i hi),fun i hi=>(d.cell (cZ (a i hi))).trans (a i hi)⟩
end
end Go.Proofs.YtlkehieagdkgiaaGreatDoor
