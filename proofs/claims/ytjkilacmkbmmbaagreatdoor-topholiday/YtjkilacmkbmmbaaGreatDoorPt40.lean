/- Texts of the proof. -/
import Derived.Test.YtjkilacmkbmmbaaGreatDoorCards
import Derived.Test.YtjkilacmkbmmbaaGreatDoorTie
import Derived.LaidMore
import Derived.SevenTiedAt
import Derived.Test.YtjkilacmkbmmbaaGreatDoorPt32
set_option maxRecDepth 100000
set_option maxHeartbeats 8000000
namespace Go.Proofs.YtjkilacmkbmmbaaGreatDoor
open Go.Proofs.Tryz Go.RowKit Lx Vx Mx Msk
section
open Go.ChangeShapes Go.WideShapes Go.ChangeAt Go.WideMaps Go.WideElems Go.Joins
abbrev ql:List (String×DataW Unit):=Rows.topDaysRow.laid
def MG:String:=(Rows.topDaysRow.laid.headD default).1
def Qj:String:=(Rows.topDaysRow.laid.getD 1 default).1
def RF:String:=(Rows.topDaysRow.laid.getD 2 default).1
def tj:List Int:=Lib.deBruijn64tab.map fun(n:Nat)=>(n:Int)
theorem own3:ownKnob prog.godebug=none:=by kernel_rfl
theorem Kg:prog.globalNamed MG=some 4:=by kernel_rfl
theorem Qk:(prog.globals[4]?).map (·.type)=some 260:=by kernel_rfl
theorem MH:prog.globalNamed Qj=some 1:=by kernel_rfl
theorem Q9:(prog.globals[1]?).map (·.type)=some 226:=by kernel_rfl
theorem MJ:prog.globalNamed RF=some 5:=by kernel_rfl
theorem Ra:(prog.globals[5]?).map (·.type)=some 281:=by kernel_rfl
theorem cI3:prog.cellsOf 3=1:=by kernel_rfl
theorem cB3:prog.cellsOf 5=1:=by kernel_rfl
theorem cT3:prog.cellsOf 260=64:=by kernel_rfl
theorem cL3:prog.cellsOf 226=12:=by kernel_rfl
theorem cS3:prog.cellsOf 9=1:=by kernel_rfl
theorem cD3:prog.cellsOf 281=7:=by kernel_rfl
theorem Bw (os:Os)(args:Array Value):laidMetH prog ql ((World.doorLaid prog 400 os).forCall (fun _ _=>0) ⟨#[],args,[]⟩).memory:=
 laidMetH_of_parts3 (fuel:=8) (laidMet_of_run' 8 (by kernel_rfl) (by kernel_rfl)) (by kernel_rfl) (by kernel_rfl)
theorem Kh {H:Type}{enc:TypeId×Value->H}{P:Program}{w:World}{base:Nat}{sp:Nat->Bool}{held:Bool}{t e:TypeId}{n:Nat}{cs:List Value}{zs:List (List UInt8)}{p:List MemPlace}(ht:P.underlying t=some (.array n e))(he:P.underlying e=some .string)(hce:P.cellsOf e=1)(hct:P.cellsOf t=n):
  ∀fuel,DataW.trod enc P w base sp held fuel t cs=some (.agg (zs.map fun z=> .lit (.string z)),p)-> ∀(i:Nat) (z:List UInt8),zs[i]? =some z->cs[i]? =some (.string ⟨z.toArray⟩)
 |0,h,_,_,_=>by simp[DataW.trod]at h
 |fuel+1,h,i,z,hz=>by
  simp only[DataW.trod,ht,hce,hct,Nat.mul_one]at h;split at h
  ·obtain⟨xs,hm,hx⟩:=en.1 h;have h1:xs.map (fun x=>x.1)=zs.map fun z=>(DataW.lit (.string z):DataW H):=(by simpa using congrArg Prod.fst hx);have h2:(xs.map fun x=>x.1)[i]? =some (DataW.lit (.string z):DataW H):=(by rw[h1,bc,hz];rfl);rw[bc]at h2;obtain⟨x,hx1,hx2⟩:=en.1 h2
   have hin:i<n:=by
    have a:=(aD.1 hx1).1;have b:=Lib.mapM_length hm;simp at b;omega
   obtain⟨b,hb,hf⟩:=Lib.mapM_at hm i i (by simp[hin]);obtain⟨s,hc,rfl,_⟩:=DataW.trod_string he hf;rw[hb]at hx1;obtain rfl:=aI hx1;have hs:s.data.toList=z:=(by simpa using hx2);have h3:=congrArg (fun l:List Value=>l[0]?) hc;have h4:cs[i]? =some (.string s):=(by simpa[iD,List.getElem?_drop] using h3);rw[h4,<-hs]
  ·cases h
theorem BF {W:World}(h:laidMetH prog ql W):Tab W/\gj W/\pM W:=by
 rw[MakeChecks.laidMetH_plain _ _ _ (by kernel_rfl)]at h;obtain⟨ps,⟨g1,t1,cs1,fuel1,p1,q1,hg1,ht1,hv1,hd1,⟨g2,t2,cs2,fuel2,p2,q2,hg2,ht2,hv2,hd2,⟨g3,t3,cs3,fuel3,p3,q3,hg3,ht3,hv3,hd3,_,_⟩,_⟩,_⟩,_⟩:=h;obtain rfl:=aI (Kg.symm.trans hg1);obtain rfl:=aI (Qk.symm.trans ht1);obtain rfl:=aI (MH.symm.trans hg2);obtain rfl:=aI (Q9.symm.trans ht2);obtain rfl:=aI (MJ.symm.trans hg3);obtain rfl:=aI (Ra.symm.trans ht3);refine⟨?_,?_,?_⟩
 ·have e1:=Lib.cells_of_tab (zs:=tj) underlying260 underlying5 cB3 cT3 hd1
  have t:Lib.TabIs prog W MG .u8 tj:=by
   unfold Lib.TabIs;rw[<-e1];exact hv1
  intro i hi;have:=t.cell Kg i (by simpa[tj,Lib.deBruijn64tab] using hi);rw[this];have hl:i<Lib.deBruijn64tab.length:=(by simpa[Lib.deBruijn64tab] using hi);simp[tj,List.getD,hl]
 ·have e2:=Lib.cells_of_tab (zs:=tab) underlying226 underlying3 cI3 cL3 hd2
  have t:Lib.TabIs prog W Qj .i64 tab:=by
   unfold Lib.TabIs;rw[<-e2];exact hv2
  intro i hi;exact t.cell MH i (by simpa[tab] using hi)
 ·intro j hj
  have hz:wDays[j]? =some (wDays.getD j []):=by
   rw[dQ,ay (by exact hj)];rfl
  have hc:=Kh (zs:=wDays) underlying281 underlying9 cS3 cD3 fuel3 hd3 j _ hz;have:=World.var?_cell MJ hv3 j;rw[this];simpa using hc
end
section
open Go.ChangeShapes Go.WideShapes Go.ChangeAt Go.WideMaps Go.WideElems Go.Joins
theorem vV {W:World}(h:laidMetH prog ql W):Tbs W.heap.size W:=fun W' hb=>by
 obtain⟨a,b,c⟩:=BF h;exact⟨fun i hi=>(hb.cell (bJ (b i hi))).trans (b i hi),fun i hi=>(hb.cell (bJ (c i hi))).trans (c i hi),fun i hi=>(hb.cell (bJ (a i hi))).trans (a i hi)⟩
end
end Go.Proofs.YtjkilacmkbmmbaaGreatDoor
