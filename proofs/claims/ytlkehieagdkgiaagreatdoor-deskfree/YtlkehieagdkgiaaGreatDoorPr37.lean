/- Texts of the proof. -/
import Derived.Test.YtlkehieagdkgiaaGreatDoorPr36
import Derived.Test.YtlkehieagdkgiaaGreatDoorCards
import Derived.Test.YtlkehieagdkgiaaGreatDoorTie
import Derived.LaidMore
import Derived.SevenTiedAt
set_option maxRecDepth 100000
set_option maxHeartbeats 8000000
namespace Go.Proofs.YtlkehieagdkgiaaGreatDoor
open Go.Proofs.Tryz Go.RowKit Lx Vx Mx Msk
theorem Dr (l:List Cm):coD (playP dk0 (kN co0 l)).2=coD (playP dk0 l).2/\ ∀a∈(playP dk0 (kN co0 l)).1,a.err=0:=by
 obtain⟨a,b⟩:=uU l co0;refine⟨?_,?_⟩
 ·rw[(pU _).2.1,(pU l).2.1];exact a
 ·rw[(pU _).1];exact b
theorem Ds (l:List Cm){i:Nat}{x:Cm}(b:l[i]? =some x){a:An}(ha:(playP dk0 l).1[i]? =some a):kN co0 (l.take (i+1))=kN co0 (l.take i)++if a.err=0 then [x] else []:=by
 rw[(pU l).1,Ag l co0 i x b]at ha;have c:l.take (i+1)=l.take i++[x]:=by rw[eR,b];rfl
 rw[c,uV,aN ha]
section
open Go.ChangeShapes Go.WideShapes Go.ChangeAt Go.WideMaps Go.WideElems Go.Joins
abbrev qx:List (String×DataW Unit):=Rows.deskFoundRow.laid
def L5:String:=(Rows.deskFoundRow.laid.headD default).1
def Px:String:=(Rows.deskFoundRow.laid.getD 1 default).1
def QO:String:=(Rows.deskFoundRow.laid.getD 2 default).1
def tH:List Int:=Lib.deBruijn64tab.map fun(n:Nat)=>(n:Int)
theorem own3:ownKnob prog.godebug=none:=by kernel_rfl
theorem JR:prog.globalNamed L5=some 3:=by kernel_rfl
theorem Py:(prog.globals[3]?).map (·.type)=some 283:=by kernel_rfl
theorem L6:prog.globalNamed Px=some 0:=by kernel_rfl
theorem Qh:(prog.globals[0]?).map (·.type)=some 230:=by kernel_rfl
theorem L7:prog.globalNamed QO=some 2:=by kernel_rfl
theorem Qi:(prog.globals[2]?).map (·.type)=some 282:=by kernel_rfl
theorem cI3:prog.cellsOf 3=1:=by kernel_rfl
theorem cB3:prog.cellsOf 5=1:=by kernel_rfl
theorem cT3:prog.cellsOf 283=64:=by kernel_rfl
theorem cL3:prog.cellsOf 230=12:=by kernel_rfl
theorem cS3:prog.cellsOf 9=1:=by kernel_rfl
theorem cD3:prog.cellsOf 282=7:=by kernel_rfl
theorem Bn (os:Os)(a:Array Value):laidMetH prog qx ((World.doorLaid prog 400 os).forCall (fun _ _=>0) ⟨#[],a,[]⟩).memory:=
 laidMetH_of_parts3 (fuel:=8) (laidMet_of_run' 8 (by kernel_rfl) (by kernel_rfl)) (by kernel_rfl) (by kernel_rfl)
theorem JS {H:Type}{j:TypeId×Value->H}{P:Program}{w:World}{f:Nat}{sp:Nat->Bool}{held:Bool}{t e:TypeId}{n:Nat}{g:List Value}{zs:List (List UInt8)}{p:List MemPlace}(G:P.underlying t=some (.array n e))(D:P.underlying e=some .string)(k:P.cellsOf e=1)(m:P.cellsOf t=n):
  ∀c,DataW.trod j P w f sp held c t g=some (.agg (zs.map fun z=> .lit (.string z)),p)-> ∀(i:Nat) (z:List UInt8),zs[i]? =some z->g[i]? =some (.string ⟨z.toArray⟩)
 |0,h,_,_,_=>by simp[DataW.trod]at h
 |c+1,h,i,z,J=>by
  simp only[DataW.trod,G,k,m,Nat.mul_one]at h;split at h
  ·obtain⟨xs,u,I⟩:=dU.1 h;have v:xs.map (fun x=>x.1)=zs.map fun z=>(DataW.lit (.string z):DataW H):=(by simpa using congrArg Prod.fst I);have r:(xs.map fun x=>x.1)[i]? =some (DataW.lit (.string z):DataW H):=(by rw[v,aZ,J];rfl);rw[aZ]at r;obtain⟨x,d,q⟩:=dU.1 r
   have o:i<n:=by
    have a:=(aF.1 d).1;have b:=Lib.mapM_length u;simp at b;omega
   obtain⟨b,B,E⟩:=Lib.mapM_at u i i (by simp[o]);obtain⟨s,C,rfl,_⟩:=DataW.trod_string D E;rw[B]at d;obtain rfl:=aN d;have F:s.data.toList=z:=(by simpa using q);have y:=congrArg (fun l:List Value=>l[0]?) C;have A:g[i]? =some (.string s):=(by simpa[iK,List.getElem?_drop] using y);rw[A,<-F]
  ·cases h
theorem Bt {W:World}(h:laidMetH prog qx W):Tab W/\gN W/\qJ W:=by
 rw[MakeChecks.laidMetH_plain _ _ _ (by kernel_rfl)]at h;obtain⟨I,⟨C,t1,s,b,F,J,g,m,p,d,⟨D,t2,u,c,G,K,k,n,q,e,⟨E,M,v,a,H,L,l,o,r,f,_,_⟩,_⟩,_⟩,_⟩:=h;obtain rfl:=aN (JR.symm.trans g);obtain rfl:=aN (Py.symm.trans m);obtain rfl:=aN (L6.symm.trans k);obtain rfl:=aN (Qh.symm.trans n);obtain rfl:=aN (L7.symm.trans l);obtain rfl:=aN (Qi.symm.trans o);refine⟨?_,?_,?_⟩
 ·have w:=Lib.cells_of_tab (zs:=tH) underlying283 underlying5 cB3 cT3 d
  have t:Lib.TabIs prog W L5 .u8 tH:=by
   unfold Lib.TabIs;rw[<-w];exact p
  intro i hi;have:=t.cell JR i (by simpa[tH,Lib.deBruijn64tab] using hi);rw[this];have A:i<Lib.deBruijn64tab.length:=(by simpa[Lib.deBruijn64tab] using hi);simp[tH,List.getD,A]
 ·have x:=Lib.cells_of_tab (zs:=tab) underlying230 underlying3 cI3 cL3 e
  have t:Lib.TabIs prog W Px .i64 tab:=by
   unfold Lib.TabIs;rw[<-x];exact q
  intro i hi;exact t.cell L6 i (by simpa[tab] using hi)
 ·intro j z
  have B:fD[j]? =some (fD.getD j []):=by
   rw[dc,ay (by exact z)];rfl
  have y:=JS (zs:=fD) underlying282 underlying9 cS3 cD3 a f j _ B;have:=World.var?_cell L7 r j;rw[this];simpa using y
end
section
open Go.ChangeShapes Go.WideShapes Go.ChangeAt Go.WideMaps Go.WideElems Go.Joins
theorem wg {W:World}(h:laidMetH prog qx W):Tbs W.heap.size W:=fun e d=>by
 obtain⟨a,b,c⟩:=Bt h;exact⟨fun i hi=>(d.cell (bN (b i hi))).trans (b i hi),fun i hi=>(d.cell (bN (c i hi))).trans (c i hi),fun i hi=>(d.cell (bN (a i hi))).trans (a i hi)⟩
end
end Go.Proofs.YtlkehieagdkgiaaGreatDoor
