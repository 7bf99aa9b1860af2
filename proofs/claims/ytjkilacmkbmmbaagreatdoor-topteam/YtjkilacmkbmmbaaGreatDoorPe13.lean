/- Texts of the proof. -/
import Derived.Test.YtjkilacmkbmmbaaGreatDoorPe04
import Derived.Lib.Walk
import Derived.Lib.BufferWrite
import Derived.Test.YtjkilacmkbmmbaaGreatDoorPe01
set_option maxRecDepth 100000
set_option maxHeartbeats 8000000
namespace Go.Proofs.YtjkilacmkbmmbaaGreatDoor
open Go.Proofs.Tryz Go.RowKit Lx Vx Mx Msk
theorem Jj:(prog.info? 5).map (fun i=>(i.zero,i.size,i.bytes))=some (some (.int .u8 0),1,1):=by kernel_rfl
theorem zf:prog.underlying 194=some (.slice 5):=by kernel_rfl
theorem Gf:prog.underlying 227=some (.pointer 5):=by kernel_rfl
theorem Ep (s:ByteArray)(w:World)(hlim:s.size<=1000000):
  Calls prog 145 #[.string s] w fun e w'=>e= .returned (.string s)/\ao w w':=by
 by_cases h0:s.size=0
 ·have hs:s=⟨#[]⟩:=by
   apply ByteArray.ext;exact Array.eq_empty_of_size_eq_zero h0
  subst hs;go_enter func145,ntmps145;go_wp2;go_ret;exact⟨rfl,aG _ _⟩
 ·obtain⟨i0,hi,hz0,hz1,hz2⟩:=iW Jj;have hinfo:(prog.info? 5).map (·.size)=some 1:=(by rw[hi];simp[hz1]);have hco:prog.cellsOf 5=1:=(by kernel_rfl);obtain⟨M,hM⟩: ∃M,M=madeCells (Value.int .u8 0).cells (((s.size:Nat):Int).toNat*i0.size):=⟨_,rfl⟩
  have hMs:M.size=s.size:=(by rw[hM,size_madeCells,hz1];simp)
  have hmk: ∀W:World,(Instr.makeSlice 194 (ag (s.size:Int)) (ag (s.size:Int))).run prog W= .ok (.slice (some (ae W.heap.size 0)) s.size s.size) (W.alloc (.cells M 5)):=fun W=>by
   have h:=run_make (P:=prog) W 194 5 i0 (.int .u8 0) zf hi hz0 .i64 .i64 (s.size:Int) (s.size:Int) (by omega) (by omega) (by rw[hz2];omega) (by omega);rw[<-hM]at h;simpa using h
  clear hM;have hcp:=Lib.run_copy_row_string (P:=prog) (w.alloc (.cells M 5)) 194 9 3 5 w.heap.size 0 s.size s.size s M 5 zf hinfo (aC w _) (aA _) (by omega);obtain⟨Y,hY⟩: ∃Y,Y=(M.toList.take 0++Lib.byteCells s.data.toList++M.toList.drop (0+s.size)).toArray:=⟨_,rfl⟩
  rw[<-hY]at hcp
  have hYl:Y.toList=Lib.byteCells s.data.toList:=by
   rw[hY,List.toList_toArray,List.take_zero,List.nil_append,dc (by rw[bP];omega),gZ]
  have hYs:Y.size=s.size:=(by rw[<-bP,hYl,Lib.byteCells_length,<-Lib.size_eq]);have hgY:((w.alloc (.cells M 5)).setRow w.heap.size Y).heap[w.heap.size]? =ah Y 5:=aJ _ _ M _ 5 (0,0) (aC w _);have hne:s.data.toList≠[]:=fun e=>h0 (by rw[Lib.size_eq,e];rfl)
  have hUS:=Lib.run_unsafeString_row (P:=prog) ((w.alloc (.cells M 5)).setRow w.heap.size Y) 227 3 9 5 Gf hco w.heap.size Y.size (by unfold World.shape?;rw[hgY]) s.data.toList hne (by rw[<-Lib.size_eq];omega) (by rw[<-Lib.size_eq];omega)
   (fun j x hx=>Lib.cells_of_row hgY Y.size j _ (by rw[cj (by rw[bP];exact aA _),hYl];simp[Lib.byteCells,hx]))
  rw[<-Lib.size_eq]at hUS;clear hY;go_enter func145,ntmps145;go_wp2;go_ret;have hb1:ao w (w.alloc (.cells M 5)):=am w _;have hb2:Below w.heap.size (w.alloc (.cells M 5)) ((w.alloc (.cells M 5)).setRow w.heap.size Y):=⟨rfl,rfl,rfl,by simp,fun k hk=>aT _ _ _ _ (by omega)⟩
  exact⟨rfl,Lib.below_freeze (hb1.trans hb2) (p:=⟨w.heap.size,0,none⟩) (aA _) _⟩
theorem Gg (s:ByteArray)(w:World)(hlim:s.size<=1000000):
  Calls prog 108 #[.string s] w fun e w'=>e= .returned (.string s)/\ao w w':=by
 go_enter func108,ntmps108;go_wp2_with(go_at_call 145;refine(Ep s _ hlim).mono ?_;rintro e w' ⟨rfl,hb⟩)
 go_ret;exact⟨rfl,hb⟩
theorem A9 {w:World}{g:Nat}{c c':Array Value}{t:TypeId}(hg:w.heap[g]? =ah c t)(e:c=c'):w.heap[g]? =ah c' t:=by rw[hg,e]
theorem Jk (s:ByteArray)(l:List UInt8)(hs:s.data.toList=l)(hl:l.length<=9223372036854775806)(w:World):
  Calls prog 68 #[.string s] w fun e w'=>e= .returned (rY (kB l))/\ao w w':=by
 have hz:s.size=l.length:=by rw[<-hs,Lib.size_eq]
 have cl:=fun w=>u9 s l hs hl w;have hk:=ww l;have hb0:ao w (w.alloc (.cells #[ag 0,ag 0,ag 0,.string ⟨#[]⟩] 99)):=am _ _;have h0:(w.alloc (.cells #[ag 0,ag 0,ag 0,.string ⟨#[]⟩] 99)).heap[w.heap.size]? =ah #[ag 0,ag 0,ag 0,.string ⟨#[]⟩] 99:=aC w _;have hT:kB l=if 20<wordLen l then bad 7 else⟨if isWordL (l.take (wordLen l)) then 2 else 1,0,l.take (wordLen l),wordLen l,0⟩:=rfl;generalize wordLen l=k at*;by_cases h20:20<k
 ·have HT:P3 (kB l=bad 7):=by
   show kB l=_;rw[hT,ay h20]
  have i20:(20:Int)<(k:Int):=(by omega);clear hT h0;go_enter func68,ntmps68;go_wp2_with(go_at_call 107;refine(cl _).mono ?_;rintro e w' ⟨rfl,rfl⟩)
  exact fu (by rw[results68,results66]) w.heap.size (bad 7) rfl rfl rfl rfl (aC w _) ⟨by rw[HT.o],hb0⟩
 ·rw[aw h20]at hT;have i20: ¬(20:Int)<(k:Int):=(by omega);have i0:(0:Int)<=(k:Int):=(by omega);have i1:(k:Int)<=(l.length:Int):=(by omega);have hx:(s.extract 0 k).data.toList=l.take k:=(by rw[Lib.extract_data,hs];simp);have hxs:(s.extract 0 k).size<=1000000:=(by rw[Lib.size_eq,hx];simp;omega);have cc:=fun w=>Gg (s.extract 0 k) w hxs;have cw:=fun w=>wH (s.extract 0 k) (l.take k) hx w;have hba:=K7 hx;cases hW:isWordL (l.take k) with
  |true=>
   rw[hW]at cw
   have HT:P3 (kB l=⟨2,0,l.take k,k,0⟩):=by
    show kB l=_;rw[hT,hW];rfl
   have HX:P3 (s.extract 0 k=⟨(l.take k).toArray⟩):=hba;clear hT hW hba hx;go_enter func68,ntmps68
   go_wp2_with(first
    |(go_at_call 107;refine(cl _).mono ?_;rintro e w' ⟨rfl,rfl⟩)
    |(go_at_call 108;refine(cc _).mono ?_;rintro e w1 ⟨rfl,hb1⟩;have h1:=ai hb1 h0;have hbw1:=au hb0 hb1;clear hb1 h0 hb0)
    |(go_at_call 109;refine(cw _).mono ?_;rintro e w2 ⟨rfl,hb2⟩;have h2:=ai hb2 h1;have hbw2:=au hbw1 hb2;clear hb2 h1 hbw1)
    |(refine az rfl 99 _ _ rfl _ _ rfl rfl _ _ h2 (by kernel_rfl) (by simp) (by simp[Value.oneCell']) ?_))
   exact fu (by rw[results68,results66]) w.heap.size ⟨2,0,l.take k,k,0⟩ rfl rfl rfl rfl (A9 (aJ _ _ _ _ _ _ h2) (by rw[HX.o])) ⟨by rw[HT.o],below_setRow hbw2 (aA _) _⟩
  |false=>
   rw[hW]at cw
   have HT:P3 (kB l=⟨1,0,l.take k,k,0⟩):=by
    show kB l=_;rw[hT,hW];rfl
   have HX:P3 (s.extract 0 k=⟨(l.take k).toArray⟩):=hba;clear hT hW hba hx;go_enter func68,ntmps68
   go_wp2_with(first
    |(go_at_call 107;refine(cl _).mono ?_;rintro e w' ⟨rfl,rfl⟩)
    |(go_at_call 108;refine(cc _).mono ?_;rintro e w1 ⟨rfl,hb1⟩;have h1:=ai hb1 h0;have hbw1:=au hb0 hb1;clear hb1 h0 hb0)
    |(go_at_call 109;refine(cw _).mono ?_;rintro e w2 ⟨rfl,hb2⟩;have h2:=ai hb2 h1;have hbw2:=au hbw1 hb2;clear hb2 h1 hbw1)
    |(refine az rfl 99 _ _ rfl _ _ rfl rfl _ _ h2 (by kernel_rfl) (by simp) (by simp[Value.oneCell']) ?_))
   exact fu (by rw[results68,results66]) w.heap.size ⟨1,0,l.take k,k,0⟩ rfl rfl rfl rfl (A9 (aJ _ _ _ _ _ _ h2) (by rw[HX.o])) ⟨by rw[HT.o],below_setRow hbw2 (aA _) _⟩
def nJ (y m d:Int):Int×Int:=if 1<=d/\d<=Cal.dim y m then(Cal.num y m d,0) else(0,3)
theorem LH (y m d:Int)(w:World)(hT:gc w):
  Calls prog 105 #[.agg #[ag y,ag m,ag d]] w fun e w'=>e= .returned (.tuple #[ag (nJ y m d).1,ag (nJ y m d).2])/\ao w w':=by
 unfold nJ;by_cases h:1<=d/\d<=Cal.dim y m
 ·rw[ay h];exact Eu y m d w hT h.1 h.2
 ·rw[aw h];exact Gi y m d w hT (by omega)
def kO (l:List UInt8):T1:=if(nJ (valL ((l.drop 0).take 4)) (valL ((l.drop 5).take 2)) (valL ((l.drop 8).take 2))).2=0 then⟨5,(nJ (valL ((l.drop 0).take 4)) (valL ((l.drop 5).take 2)) (valL ((l.drop 8).take 2))).1,[],10,0⟩ else bad 3
theorem Jm (y m d:Int):(nJ y m d).2=0\/(nJ y m d).2=3:=by
 unfold nJ;split<;>simp
theorem Jn (s:ByteArray)(l:List UInt8)(hs:s.data.toList=l)(hf:iX l wz=true)(w:World)(hT:gc w):
  Calls prog 63 #[.string s] w fun e w'=>e= .returned (rY (kO l))/\ao w w':=by
 have hz:s.size=l.length:=by rw[<-hs,Lib.size_eq]
 obtain⟨hlen,_⟩:=pU hf;have hlen10:10<=l.length:=hlen;have hi4:(4:Int)<=(l.length:Int):=by omega
 have hi7:(7:Int)<=(l.length:Int):=by omega
 have hi10:(10:Int)<=(l.length:Int):=by omega
 obtain⟨n1,d1⟩:=md hf 0 4 (by decide) (by decide);obtain⟨n2,d2⟩:=md hf 5 2 (by decide) (by decide);obtain⟨n3,d3⟩:=md hf 8 2 (by decide) (by decide);have cy:=fun w=>mx (s.extract 0 4) ((l.drop 0).take 4) (by rw[Lib.extract_data,hs]) (by omega) d1 w;have cm:=fun w=>mx (s.extract 5 7) ((l.drop 5).take 2) (by rw[Lib.extract_data,hs]) (by omega) d2 w;have cd:=fun w=>mx (s.extract 8 10) ((l.drop 8).take 2) (by rw[Lib.extract_data,hs]) (by omega) d3 w;have hD:kO l=if(nJ (valL ((l.drop 0).take 4)) (valL ((l.drop 5).take 2)) (valL ((l.drop 8).take 2))).2=0 then⟨5,(nJ (valL ((l.drop 0).take 4)) (valL ((l.drop 5).take 2)) (valL ((l.drop 8).take 2))).1,[],10,0⟩ else bad 3:=rfl;generalize valL ((l.drop 0).take 4)=y at*;generalize valL ((l.drop 5).take 2)=m at*;generalize valL ((l.drop 8).take 2)=d at*;have cN:=fun w hT=>LH y m d w hT;have hE:=Jm y m d;generalize (nJ y m d).1=nv at*;generalize (nJ y m d).2=ev at*;have HD:P3 (kO l=if ev=0 then⟨5,nv,[],10,0⟩ else bad 3):=hD;clear hD n1 n2 n3 d1 d2 d3 hlen hf;have hb0:ao w (w.alloc (.cells #[ag 0,ag 0,ag 0,.string ⟨#[]⟩] 99)):=am _ _;have h0:(w.alloc (.cells #[ag 0,ag 0,ag 0,.string ⟨#[]⟩] 99)).heap[w.heap.size]? =ah #[ag 0,ag 0,ag 0,.string ⟨#[]⟩] 99:=aC w _;have hT0:=hT.below hb0;clear hT;have hT:=hT0;clear hT0;go_enter func63,ntmps63;go_wp2;generalize w.alloc (.cells #[ag 0,ag 0,ag 0,.string ⟨#[]⟩] 99)=w0 at*;refine dt (fun _ _ W=>ao w0 W) [kn 8 (.string s),kn 9 (.string (s.extract 0 4)),kn 10 (ag y),kn 11 (.string s),kn 12 (.string (s.extract 5 7)),kn 13 (ag m),kn 14 (.string s),kn 15 (.string (s.extract 8 10)),kn 16 (ag d),kn 17 (.agg #[ag y,ag m,ag d]),kn 18 (.tuple #[ag nv,ag ev]),kn 7 (.tuple #[ag nv,ag ev]),kn 19 (ag nv),kn 20 (ag ev),kn 5 (ag nv),kn 6 (ag ev)] (fun _=>(aG _ _).drew) (fun _ _ _ _ hb h=>au h hb) (by kernel_rfl) (fun M φ W hJ hcl F ll hl hF=> ?_) (fun M φ W hM hJ=> ?_)
 ·simp only[kn,dN,aQ,aW,Act.put,aB,aI,aH]at hl;subst hl;simp only[dg,Nat.reduceAdd]at hF;dsimp only[kn,dC,en,dS,Act.put];and_intros;all_goals first|exact trivial|intro hw hn hm K hK
  all_goals try (go_simp;with_reducible exact hK _ _ ⟨rfl,aG _ _⟩)
  all_goals go_simp
  ·refine(cy _).mono ?_;rintro e W' ⟨rfl,rfl⟩;exact hK _ _ ⟨rfl,aG _ _⟩
  ·refine(cm _).mono ?_;rintro e W' ⟨rfl,rfl⟩;exact hK _ _ ⟨rfl,aG _ _⟩
  ·refine(cd _).mono ?_;rintro e W' ⟨rfl,rfl⟩;exact hK _ _ ⟨rfl,aG _ _⟩
  ·refine(cN _ (hT.below hJ)).mono ?_;rintro e W' ⟨rfl,hb⟩;exact hK _ _ ⟨rfl,hb⟩
 ·simp only[kn,dP,aQ,aW,Act.put,aB,aI,aH];have h1:=ai hJ h0;have hb1:=au hb0 hJ;clear hM hJ h0 hb0 cy cm cd cN;rcases hE with hE|hE
  ·have HT:P3 (kO l=⟨5,nv,[],10,0⟩):=by
    show kO l=_;rw[HD.o,ay hE]
   subst hE;go_wp2_with(refine az rfl 99 _ _ rfl _ _ rfl rfl _ _ h1 (by kernel_rfl) (by simp) (by simp[Value.oneCell']) ?_)
   exact fu (by rw[results63,results66]) w.heap.size ⟨5,nv,[],10,0⟩ rfl rfl rfl rfl (aJ _ _ _ _ _ _ h1) ⟨by rw[HT.o],below_setRow hb1 (aA _) _⟩
  ·have HT:P3 (kO l=bad 3):=by
    show kO l=_;rw[HD.o,aw (by omega)]
   subst hE;go_wp2_with(refine az rfl 99 _ _ rfl _ _ rfl rfl _ _ h1 (by kernel_rfl) (by simp) (by simp[Value.oneCell']) ?_)
   exact fu (by rw[results63,results66]) w.heap.size (bad 3) rfl rfl rfl rfl (aJ _ _ _ _ _ _ h1) ⟨by rw[HT.o],below_setRow hb1 (aA _) _⟩
theorem Ev (s:ByteArray)(c:Int)(w:World):
  Calls prog 141 #[.string s,.int .u8 c] w fun e w'=>e= .returned (ag (Lib.indexByte s.data.toList c.toNat.toUInt8))/\w'=w:=by
 go_enter func141,ntmps141;go_wp2;rw[run_callFunc_extern func170 (by kernel_rfl) (by kernel_rfl) (by kernel_rfl) (e:=Extern.BytealgIndexByte.indexByte) (by kernel_rfl),Lib.run_indexByteString];simp only[Result.andThen];rw[Oper.upon_value];go_wp2;go_ret;exact⟨rfl,rfl⟩
theorem zg (s:ByteArray)(c:Int)(w:World):
  Calls prog 104 #[.string s,.int .u8 c] w fun e w'=>e= .returned (ag (Lib.indexByte s.data.toList c.toNat.toUInt8))/\w'=w:=by
 go_enter func104,ntmps104;go_wp2_with(go_at_call 141;refine(Ev _ _ _).mono ?_;rintro e w' ⟨rfl,rfl⟩)
 go_ret;exact⟨rfl,rfl⟩
theorem Ew (s p:ByteArray)(w:World):
  Calls prog 110 #[.string s,.string p] w fun e w'=>e= .returned (.bool (Lib.hasPrefix s.data.toList p.data.toList))/\w'=w:=by
 rw[<-Lib.hasPrefix_of_take,<-Lib.size_eq,<-Lib.size_eq];go_enter func110,ntmps110;go_wp2
 ·rename_i h;go_ret;refine⟨?_,rfl⟩;show Ending.returned (Value.bool ((s.extract 0 p.size).toList==p.toList))=_;rw[Lib.extract_toList,Lib.toList_data];simp[h]
 ·rename_i h;go_ret;refine⟨?_,rfl⟩;show Ending.returned (Value.bool false)=_;simp[h]
theorem Jo (s:ByteArray)(l:List UInt8)(hs:s.data.toList=l)(hl:0<l.length)(w:World):
  Calls prog 69 #[.string s] w fun e w'=>e= .returned (rY (jP l))/\ao w w':=by
 have hz:s.size=l.length:=by rw[<-hs,Lib.size_eq]
 have cp:=fun w=>Ew s ⟨#[46,46]⟩ w;rw[hs]at cp;have hb0:ao w (w.alloc (.cells #[ag 0,ag 0,ag 0,.string ⟨#[]⟩] 99)):=am _ _;cases hp:Lib.hasPrefix l [46,46] with
 |true=>
  have HT:P3 (jP l=⟨3,0,[46,46],2,0⟩):=by
   show jP l=_;unfold jP;rw[hp];rfl
  rw[show(⟨#[46,46]⟩:ByteArray).data.toList=[46,46] from rfl,hp]at cp;have hbx:ao w (w.alloc (.cells #[ag 3,ag 0,ag 0,.string ⟨#[46,46]⟩] 99)):=am _ _;clear hp;go_enter func69,ntmps69;go_wp2_with(go_at_call 110;refine(cp _).mono ?_;rintro e w' ⟨rfl,rfl⟩)
  exact fu (by rw[results69,results66]) w.heap.size ⟨3,0,[46,46],2,0⟩ rfl rfl rfl rfl (aC w _) ⟨by rw[HT.o],hbx⟩
 |false=>
  rw[show(⟨#[46,46]⟩:ByteArray).data.toList=[46,46] from rfl,hp]at cp;have g1: ∀h:0<s.size,s[0]=l.getD 0 0:=fun h=>lh hs 0 h;have hl':(0:Int)<(l.length:Int):=(by omega);have ci:=fun w=>zg ⟨#[61,59,58,43,45,38,40,41,44]⟩ ((l.getD 0 0).toNat:Int) w;have eu:(((l.getD 0 0).toNat:Int)).toNat.toUInt8=l.getD 0 0:=(by simp);rw[eu,show(⟨#[61,59,58,43,45,38,40,41,44]⟩:ByteArray).data.toList=lx from rfl]at ci;have hlt:=A7 lx (l.getD 0 0);have hlt9:Lib.indexByte lx (l.getD 0 0)<9:=hlt;have hge:=Lib.indexByte_ge lx (l.getD 0 0);have hat:=A8 lx (l.getD 0 0)
  have hT:jP l=if Go.Lib.indexByte lx (l.getD 0 0)<0 then bad 2 else⟨3,0,[l.getD 0 0],1,0⟩:=by
   unfold jP;rw[hp];rfl
  generalize hc:l.getD 0 0=c at*;generalize Lib.indexByte lx c=i at*;clear hp hlt eu;by_cases hi:i<0
  ·have HT:P3 (jP l=bad 2):=by
    show jP l=_;rw[hT,ay hi]
   clear hT hat;go_enter func69,ntmps69
   go_wp2_with(first
    |(go_at_call 110;refine(cp _).mono ?_;rintro e w' ⟨rfl,rfl⟩)
    |(go_at_call 104;refine(ci _).mono ?_;rintro e w' ⟨rfl,rfl⟩))
   exact fu (by rw[results69,results66]) w.heap.size (bad 2) rfl rfl rfl rfl (aC w _) ⟨by rw[HT.o],hb0⟩
  ·have HT:P3 (jP l=⟨3,0,[c],1,0⟩):=by
    show jP l=_;rw[hT,aw hi]
   obtain⟨j,rfl⟩: ∃j:Nat,i=j:=⟨i.toNat,by omega⟩
   have hj:=hat j rfl;have hj9:j<9:=(by omega)
   have ex:(⟨#[61,59,58,43,45,38,40,41,44]⟩:ByteArray).extract j (j+1)=⟨#[c]⟩:=by
    apply K7 (l:=[c]);rw[Lib.extract_data,show(⟨#[61,59,58,43,45,38,40,41,44]⟩:ByteArray).data.toList=lx from rfl,show j+1-j=1 by omega];have hjl:j<lx.length:=hj9;rw[bx hjl]
    have:lx[j]=c:=by
     rw[<-hj];simp[List.getD,hjl]
    simp[this]
   have i0: ¬(j:Int)<0:=(by omega);have i1:(0:Int)<=(j:Int):=(by omega);have i2:(j:Int)<=9:=(by omega);have i3:(j:Int)+1<=9:=(by omega);have hbx:ao w (w.alloc (.cells #[ag 3,ag 0,ag 0,.string ⟨#[c]⟩] 99)):=am _ _;clear hT hat hi hj;go_enter func69,ntmps69
   go_wp2_with(first
    |(go_at_call 110;refine(cp _).mono ?_;rintro e w' ⟨rfl,rfl⟩)
    |(go_at_call 104;refine(ci _).mono ?_;rintro e w' ⟨rfl,rfl⟩))
   exact fu (by rw[results69,results66]) w.heap.size ⟨3,0,[c],1,0⟩ rfl rfl rfl rfl (aC w _) ⟨by rw[HT.o],hbx⟩
def firstT (l:List UInt8):T1:=if iX l wz then kO l else if iX l wF then oq l else if isD (l.getD 0 0) then mc l else if isL (l.getD 0 0) then kB l else jP l
theorem Gk (s:ByteArray)(l:List UInt8)(hs:s.data.toList=l)(hl:l.length<=9223372036854775806)(hl0:0<l.length)(w:World)(hT:gc w):
  Calls prog 35 #[.string s] w fun e w'=>e= .returned (rY (firstT l))/\ao w w':=by
 have hz:s.size=l.length:=by rw[<-hs,Lib.size_eq]
 have hl0':(0:Int)<(l.length:Int):=by omega
 have g1: ∀h:0<s.size,s[0]=l.getD 0 0:=fun h=>lh hs 0 h;have hb0:ao w (w.alloc (.cells #[ag 0,ag 0,ag 0,.string ⟨#[]⟩] 99)):=am _ _;have h0:(w.alloc (.cells #[ag 0,ag 0,ag 0,.string ⟨#[]⟩] 99)).heap[w.heap.size]? =ah #[ag 0,ag 0,ag 0,.string ⟨#[]⟩] 99:=aC w _;have HT0:P3 (gc w):=hT;clear hT;have cf1:=fun w=>A6 s ⟨#[48,48,48,48,45,48,48,45,48,48]⟩ l wz hs rfl (by omega) (by decide) w;have cf2:=fun w=>A6 s ⟨#[48,48,58,48,48]⟩ l wF hs rfl (by omega) (by decide) w;have cD:=fun w=>lw (l.getD 0 0) w;have cL:=fun w=>wG (l.getD 0 0) w;have hF:firstT l=if iX l wz then kO l else if iX l wF then oq l else if isD (l.getD 0 0) then mc l else if isL (l.getD 0 0) then kB l else jP l:=rfl;generalize hc:l.getD 0 0=c at*;cases f1:iX l wz with
 |true=>
  rw[f1]at cf1
  have HT:P3 (firstT l=kO l):=by
   show firstT l=_;rw[hF,f1];rfl
  obtain⟨t,cT,HS⟩: ∃t:T1,(∀w,gc w->Calls prog 63 #[.string s] w fun e w'=>e= .returned (.tuple #[.agg #[ag t.kind,ag t.n,ag 0,.string ⟨t.text.toArray⟩],ag (t.len:Int),ag t.err])/\ao w w')/\P3 (kO l=t):=⟨kO l,fun w _hT=>Jn s l hs f1 w _hT,rfl⟩
  clear hF;go_enter func35,ntmps35
  go_wp2_with(first
   |(go_at_call 62;have _t:=cf1;refine(cf1 _).mono ?_;rintro e w1 ⟨rfl,hb1⟩;have h1:=ai hb1 h0;have hbw1:=au hb0 hb1;clear _t cf1 hb1 h0 hb0)
   |(go_at_call 63;refine(cT _ (HT0.o.below hbw1)).mono ?_;rintro e w9 ⟨rfl,hb9⟩;have h9:=ai hb9 h1;have hbw9:=au hbw1 hb9;clear hb9 h1 hbw1)
   |(refine az rfl 99 _ _ rfl _ _ rfl rfl _ _ h9 (by kernel_rfl) (by simp) (by simp[Value.oneCell']) ?_))
  exact fu (by rw[results35,results66]) w.heap.size t rfl rfl rfl rfl (aJ _ _ _ _ _ _ h9) ⟨by rw[HT.o,HS.o],below_setRow hbw9 (aA _) _⟩
 |false=>
  rw[f1]at cf1;cases f2:iX l wF with
  |true=>
   rw[f2]at cf2
   have HT:P3 (firstT l=oq l):=by
    show firstT l=_;rw[hF,f1,f2];rfl
   obtain⟨t,cT,HS⟩: ∃t:T1,(∀w,gc w->Calls prog 64 #[.string s] w fun e w'=>e= .returned (.tuple #[.agg #[ag t.kind,ag t.n,ag 0,.string ⟨t.text.toArray⟩],ag (t.len:Int),ag t.err])/\ao w w')/\P3 (oq l=t):=⟨oq l,fun w _hT=>Gj s l hs hl f2 w,rfl⟩
   clear hF;go_enter func35,ntmps35
   go_wp2_with(first
    |(go_at_call 62;have _t:=cf1;refine(cf1 _).mono ?_;rintro e w1 ⟨rfl,hb1⟩;have h1:=ai hb1 h0;have hbw1:=au hb0 hb1;clear _t cf1 hb1 h0 hb0)
    |(go_at_call 62;refine(cf2 _).mono ?_;rintro e w2 ⟨rfl,hb2⟩;have h2:=ai hb2 h1;have hbw2:=au hbw1 hb2;clear hb2 h1 hbw1)
    |(go_at_call 64;refine(cT _ (HT0.o.below hbw2)).mono ?_;rintro e w9 ⟨rfl,hb9⟩;have h9:=ai hb9 h2;have hbw9:=au hbw2 hb9;clear hb9 h2 hbw2)
    |(refine az rfl 99 _ _ rfl _ _ rfl rfl _ _ h9 (by kernel_rfl) (by simp) (by simp[Value.oneCell']) ?_))
   exact fu (by rw[results35,results66]) w.heap.size t rfl rfl rfl rfl (aJ _ _ _ _ _ _ h9) ⟨by rw[HT.o,HS.o],below_setRow hbw9 (aA _) _⟩
  |false=>
   rw[f2]at cf2;cases f3:isD c with
   |true=>
    rw[f3]at cD
    have HT:P3 (firstT l=mc l):=by
     show firstT l=_;rw[hF,f1,f2,f3];rfl
    obtain⟨t,cT,HS⟩: ∃t:T1,(∀w,gc w->Calls prog 66 #[.string s] w fun e w'=>e= .returned (.tuple #[.agg #[ag t.kind,ag t.n,ag 0,.string ⟨t.text.toArray⟩],ag (t.len:Int),ag t.err])/\ao w w')/\P3 (mc l=t):=⟨mc l,fun w _hT=>En s l hs hl w,rfl⟩
    clear hF;go_enter func35,ntmps35
    go_wp2_with(first
     |(go_at_call 62;have _t:=cf1;refine(cf1 _).mono ?_;rintro e w1 ⟨rfl,hb1⟩;have h1:=ai hb1 h0;have hbw1:=au hb0 hb1;clear _t cf1 hb1 h0 hb0)
     |(go_at_call 62;refine(cf2 _).mono ?_;rintro e w2 ⟨rfl,hb2⟩;have h2:=ai hb2 h1;have hbw2:=au hbw1 hb2;clear hb2 h1 hbw1)
     |(go_at_call 65;refine(cD _).mono ?_;rintro e w' ⟨rfl,rfl⟩)
     |(go_at_call 66;refine(cT _ (HT0.o.below hbw2)).mono ?_;rintro e w9 ⟨rfl,hb9⟩;have h9:=ai hb9 h2;have hbw9:=au hbw2 hb9;clear hb9 h2 hbw2)
     |(refine az rfl 99 _ _ rfl _ _ rfl rfl _ _ h9 (by kernel_rfl) (by simp) (by simp[Value.oneCell']) ?_))
    exact fu (by rw[results35,results66]) w.heap.size t rfl rfl rfl rfl (aJ _ _ _ _ _ _ h9) ⟨by rw[HT.o,HS.o],below_setRow hbw9 (aA _) _⟩
   |false=>
    rw[f3]at cD;cases f4:isL c with
    |true=>
     rw[f4]at cL
     have HT:P3 (firstT l=kB l):=by
      show firstT l=_;rw[hF,f1,f2,f3,f4];rfl
     obtain⟨t,cT,HS⟩: ∃t:T1,(∀w,gc w->Calls prog 68 #[.string s] w fun e w'=>e= .returned (.tuple #[.agg #[ag t.kind,ag t.n,ag 0,.string ⟨t.text.toArray⟩],ag (t.len:Int),ag t.err])/\ao w w')/\P3 (kB l=t):=⟨kB l,fun w _hT=>Jk s l hs hl w,rfl⟩
     clear hF;go_enter func35,ntmps35
     go_wp2_with(first
      |(go_at_call 62;have _t:=cf1;refine(cf1 _).mono ?_;rintro e w1 ⟨rfl,hb1⟩;have h1:=ai hb1 h0;have hbw1:=au hb0 hb1;clear _t cf1 hb1 h0 hb0)
      |(go_at_call 62;refine(cf2 _).mono ?_;rintro e w2 ⟨rfl,hb2⟩;have h2:=ai hb2 h1;have hbw2:=au hbw1 hb2;clear hb2 h1 hbw1)
      |(go_at_call 65;refine(cD _).mono ?_;rintro e w' ⟨rfl,rfl⟩)
      |(go_at_call 67;refine(cL _).mono ?_;rintro e w' ⟨rfl,rfl⟩)
      |(go_at_call 68;refine(cT _ (HT0.o.below hbw2)).mono ?_;rintro e w9 ⟨rfl,hb9⟩;have h9:=ai hb9 h2;have hbw9:=au hbw2 hb9;clear hb9 h2 hbw2)
      |(refine az rfl 99 _ _ rfl _ _ rfl rfl _ _ h9 (by kernel_rfl) (by simp) (by simp[Value.oneCell']) ?_))
     exact fu (by rw[results35,results66]) w.heap.size t rfl rfl rfl rfl (aJ _ _ _ _ _ _ h9) ⟨by rw[HT.o,HS.o],below_setRow hbw9 (aA _) _⟩
    |false=>
     rw[f4]at cL
     have HT:P3 (firstT l=jP l):=by
      show firstT l=_;rw[hF,f1,f2,f3,f4];rfl
     obtain⟨t,cT,HS⟩: ∃t:T1,(∀w,gc w->Calls prog 69 #[.string s] w fun e w'=>e= .returned (.tuple #[.agg #[ag t.kind,ag t.n,ag 0,.string ⟨t.text.toArray⟩],ag (t.len:Int),ag t.err])/\ao w w')/\P3 (jP l=t):=⟨jP l,fun w _hT=>Jo s l hs hl0 w,rfl⟩
     clear hF;go_enter func35,ntmps35
     go_wp2_with(first
      |(go_at_call 62;have _t:=cf1;refine(cf1 _).mono ?_;rintro e w1 ⟨rfl,hb1⟩;have h1:=ai hb1 h0;have hbw1:=au hb0 hb1;clear _t cf1 hb1 h0 hb0)
      |(go_at_call 62;refine(cf2 _).mono ?_;rintro e w2 ⟨rfl,hb2⟩;have h2:=ai hb2 h1;have hbw2:=au hbw1 hb2;clear hb2 h1 hbw1)
      |(go_at_call 65;refine(cD _).mono ?_;rintro e w' ⟨rfl,rfl⟩)
      |(go_at_call 67;refine(cL _).mono ?_;rintro e w' ⟨rfl,rfl⟩)
      |(go_at_call 69;refine(cT _ (HT0.o.below hbw2)).mono ?_;rintro e w9 ⟨rfl,hb9⟩;have h9:=ai hb9 h2;have hbw9:=au hbw2 hb9;clear hb9 h2 hbw2)
      |(refine az rfl 99 _ _ rfl _ _ rfl rfl _ _ h9 (by kernel_rfl) (by simp) (by simp[Value.oneCell']) ?_))
     exact fu (by rw[results35,results66]) w.heap.size t rfl rfl rfl rfl (aJ _ _ _ _ _ _ h9) ⟨by rw[HT.o,HS.o],below_setRow hbw9 (aA _) _⟩
theorem LI {p:UInt8->Bool}: ∀{l:List UInt8},0<l.length->p (l.getD 0 0)=true->1<=gF p l
 |[],h,_=>by simp at h
 |c::l,_,h=>by
  have hc:p c=true:=(by simpa using h);simp[gF,hc]
theorem CM: ∀{l:List UInt8},0<l.length->isL (l.getD 0 0)=true->1<=wordLen l
 |[],h,_=>by simp at h
 |c::l,_,h=>by
  have hc:isL c=true:=(by simpa using h);simp[wordLen,hc]
structure PB (l:List UInt8)(t:T1):Prop where
 pos:1<=t.len
 le:t.len<=l.length
 text:t.text=l.take t.text.length
 tle:t.text.length<=t.len
theorem wK (l:List UInt8)(h0:0<l.length)(he:(firstT l).err=0):PB l (firstT l):=by
 unfold firstT at he⊢;split at he
 ·rename_i hf;rw[ay hf];have hlen:=(pU hf).1;have h10:10<=l.length:=hlen;unfold kO at he⊢;split at he
  ·rename_i h;rw[ay h];exact⟨by simp,h10,by simp,by simp⟩
  ·simp[bad]at he
 ·rename_i hf;rw[aw hf];split at he
  ·rename_i hf2;rw[ay hf2];have hlen:=(pU hf2).1;have h5:5<=l.length:=hlen;unfold oq at he⊢;split at he
   ·simp[bad]at he
   ·rename_i h;rw[aw h];exact⟨by simp,h5,by simp,by simp⟩
  ·rename_i hf2;rw[aw hf2];split at he
   ·rename_i hd;rw[ay hd];unfold mc at he⊢;split at he
    ·simp[bad]at he
    ·rename_i h;rw[aw h];exact⟨LI h0 hd,lr _ l,by simp,by simp⟩
   ·rename_i hd;rw[aw hd];split at he
    ·rename_i hL;rw[ay hL];have hwl:=ww l;unfold kB at he⊢;split at he
     ·simp[bad]at he
     ·rename_i h;rw[aw h];exact⟨CM h0 hL,hwl,by simp[fC hwl],by simp;omega⟩
    ·rename_i hL;rw[aw hL];unfold jP at he⊢;split at he
     ·rename_i hp;rw[ay hp]
      have hp':[46,46]<+:l:=by
       unfold Lib.hasPrefix at hp;exact List.isPrefixOf_iff_prefix.1 hp
      obtain⟨r,rfl⟩:=hp';exact⟨by simp,by simp,by simp,by simp⟩
     ·rename_i hp;rw[aw hp];split at he
      ·simp[bad]at he
      ·rename_i h;rw[aw h];match l,h0 with
       |c::r,_=>exact⟨by simp,by simp,by simp,by simp⟩
def lm (l:List UInt8):Nat->Option (List (T1×Nat)×Nat)
 |0=>some ([],0+ea false (l.drop 0))
 |n+1=>match lm l n with
  |none=>none
  |some (ts,k)=>if k<l.length/\(firstT (l.drop k)).err=0 then some (ts++[(firstT (l.drop k),k)],k+(firstT (l.drop k)).len+ea false (l.drop (k+(firstT (l.drop k)).len))) else none
def eY (l:List UInt8)(ts:List (T1×Nat))(k:Nat):Prop:= ∃n,lm l n=some (ts,k)
theorem eY.start {l:List UInt8}:eY l [] (0+ea false (l.drop 0)):=⟨0,rfl⟩
theorem eY.step {l:List UInt8}{ts:List (T1×Nat)}{k:Nat}(h:eY l ts k)(hk:k<l.length)(he:(firstT (l.drop k)).err=0):eY l (ts++[(firstT (l.drop k),k)]) (k+(firstT (l.drop k)).len+ea false (l.drop (k+(firstT (l.drop k)).len))):=by
 obtain⟨n,hn⟩:=h;exact⟨n+1,by simp only[lm,hn];rw[ay ⟨hk,he⟩]⟩
theorem eY.ind {l:List UInt8}{M:List (T1×Nat)->Nat->Prop}(h0:M [] (0+ea false (l.drop 0)))
  (hs: ∀(ts:List (T1×Nat)) (k:Nat),eY l ts k->k<l.length->(firstT (l.drop k)).err=0->M ts k->M (ts++[(firstT (l.drop k),k)]) (k+(firstT (l.drop k)).len+ea false (l.drop (k+(firstT (l.drop k)).len)))):
  ∀(n:Nat) {ts:List (T1×Nat)} {k:Nat},lm l n=some (ts,k)->M ts k
 |0,ts,k,hn=>by
  simp only[lm]at hn;obtain⟨rfl,rfl⟩:=Prod.mk.inj (aK hn);exact h0
 |n+1,ts,k,hn=>by
  simp only[lm]at hn;split at hn
  ·cases hn
  ·rename_i ts' k' hn';split at hn
   ·rename_i hc;obtain⟨rfl,rfl⟩:=Prod.mk.inj (aK hn);exact hs ts' k' ⟨n,hn'⟩ hc.1 hc.2 (eY.ind h0 hs n hn')
   ·cases hn
theorem vA {l:List UInt8}{k:Nat}(h:k<l.length):0<(l.drop k).length:=by simp;omega
theorem eY.le {l:List UInt8}{ts:List (T1×Nat)}{k:Nat}(h:eY l ts k):k<=l.length/\ts.length<=k:=by
 obtain⟨n,hn⟩:=h;refine eY.ind (M:=fun ts k=>k<=l.length/\ts.length<=k) ?_ ?_ n hn
 ·have:=nH false (l.drop 0);simp at this⊢;omega
 ·intro ts k _ hk he ih;have f:=wK _ (vA hk) he;have:=nH false (l.drop (k+(firstT (l.drop k)).len));have h1:=f.pos;have h2:=f.le;simp at this h2⊢;omega
theorem Ey (s:ByteArray)(l:List UInt8)(hs:s.data.toList=l)(w:World):
  Calls prog 61 #[.string s] w fun e w'=>e= .returned (ag (remL l:Int))/\w'=w:=by
 have hz:s.size=l.length:=by rw[<-hs,Lib.size_eq]
 have ci:=fun w=>zg s 10 w;have e10:(10:Int).toNat.toUInt8=10:=by decide
 rw[hs,e10,ze]at ci;have hle:remL l<=l.length:=lr _ l;by_cases h:remL l<l.length
 ·rw[ay h]at ci;have h0:(0:Int)<=(remL l:Int):=(by omega);go_enter func61,ntmps61;go_wp2_with(go_at_call 104;refine(ci _).mono ?_;rintro e w' ⟨rfl,rfl⟩)
  go_ret;exact⟨rfl,rfl⟩
 ·rw[aw h]at ci;have e:remL l=l.length:=(by omega);rw[e];go_enter func61,ntmps61;go_wp2_with(go_at_call 104;refine(ci _).mono ?_;rintro e w' ⟨rfl,rfl⟩)
  go_ret;exact⟨rfl,rfl⟩
theorem Bc (s:ByteArray)(l:List UInt8)(hs:s.data.toList=l)(hl:l.length<=9223372036854775806)(at0 r:Nat)(hat:at0<=l.length)(hr:at0+ea false (l.drop at0)=r)(w:World):
  Calls prog 34 #[.string s,ag (at0:Int)] w fun e w'=>e= .returned (ag (r:Int))/\w'=w:=by
 have hz:s.size=l.length:=by rw[<-hs,Lib.size_eq]
 have HR:P3 (at0+ea false (l.drop at0)=r):=hr;clear hr;go_enter func34,ntmps34;go_wp2;go_loop [1] (fun i=> ∃k:Nat,k<=l.length/\i=ag k/\r=k+ea false (l.drop k)) (fun i=>l.length-(intOf i).toNat);case atStart=>exact⟨at0,hat,rfl,HR.o.symm⟩
 case round=>
  obtain⟨k,hk,rfl,hinv⟩:=hrel;have HI:P3 (r=k+ea false (l.drop k)):=hinv;clear hinv;by_cases hlt:k<l.length
  ·have hlt':(k:Int)<(l.length:Int):=(by omega);have hk0:(0:Int)<=(k:Int):=(by omega);have g1: ∀h:k<s.size,s[k]=l.getD k 0:=fun h=>lh hs k h;have hd0:(l.drop k).getD 0 0=l.getD k 0:=(by simp[List.getElem?_drop]);have hdl:0<(l.drop k).length:=(by simp;omega);have hdd: ∀n,(l.drop k).drop n=l.drop (k+n):=fun n=>(by rw[List.drop_drop]);have hblank:=Em (l.drop k) hdl;have hhash:=F9 (l.drop k) hdl;have hstop:=Ga (l.drop k);rw[hd0]at hblank hhash hstop;rw[hdd]at hblank hhash;have cr:=fun w=>Ey (s.extract k s.size) (l.drop k) (by rw[Lib.extract_data,hs];exact cj (by simp;omega)) w;have hrl:remL (l.drop k)<=(l.drop k).length:=lr _ _;simp only[eN]at hrl;rw[hz]at cr;generalize hc:l.getD k 0=c at*;generalize remL (l.drop k)=n at*;by_cases hb:c.toNat=32\/c.toNat=9\/c.toNat=10
   ·have hS:=hblank hb;have HB:P3 (ea false (l.drop k)=1+ea false (l.drop (k+1))):=hS;clear hS hblank hhash hstop cr hdd;rcases(show c.toNat=32\/(c.toNat≠32/\c.toNat=9)\/(c.toNat≠32/\c.toNat≠9/\c.toNat=10) from by omega) with j1|⟨j0,j1⟩|⟨j0,j00,j1⟩
    ·have i1:((c.toNat:Int)==32)=true:=(by simp;omega);clear hb j1;go_wp2;go_round;case rel=>exact⟨k+1,by omega,by go_num,by have:=HI.o;have:=HB.o;omega⟩
     case measure=>simp[intOf];omega
    ·have i0:((c.toNat:Int)==32)=false:=(by simp;omega);have i1:((c.toNat:Int)==9)=true:=(by simp;omega);clear hb j1 j0;go_wp2;go_round;case rel=>exact⟨k+1,by omega,by go_num,by have:=HI.o;have:=HB.o;omega⟩
     case measure=>simp[intOf];omega
    ·have i0:((c.toNat:Int)==32)=false:=(by simp;omega);have i00:((c.toNat:Int)==9)=false:=(by simp;omega);have i1:((c.toNat:Int)==10)=true:=(by simp;omega);clear hb j1 j0 j00;go_wp2;go_round;case rel=>exact⟨k+1,by omega,by go_num,by have:=HI.o;have:=HB.o;omega⟩
     case measure=>simp[intOf];omega
   ·have i0:((c.toNat:Int)==32)=false:=(by simp;omega);have i00:((c.toNat:Int)==9)=false:=(by simp;omega);have i1:((c.toNat:Int)==10)=false:=(by simp;omega);by_cases h35:c.toNat=35
    ·obtain⟨hS,hn1⟩:=hhash h35;have HB:P3 (ea false (l.drop k)=n+ea false (l.drop (k+n))):=hS;have i2:((c.toNat:Int)==35)=true:=(by simp;omega);clear hS hblank hhash hstop hb h35 hdd;go_wp2_with(go_at_call 61;refine(cr _).mono ?_;rintro e w' ⟨rfl,rfl⟩)
     go_round;case rel=>exact⟨k+n,by omega,by go_num,by have:=HI.o;have:=HB.o;omega⟩
     case measure=>simp[intOf];omega
    ·have HB:P3 (ea false (l.drop k)=0):=hstop fun _=>⟨hb,h35⟩
     have i2:((c.toNat:Int)==35)=false:=(by simp;omega);clear hblank hhash hstop hb h35 cr hdd;go_wp2;go_ret;exact⟨by rw[show r=k from by have:=HI.o;have:=HB.o;omega];rfl,rfl⟩
  ·have hkl:k=l.length:=(by omega)
   have HB:P3 (ea false (l.drop k)=0):=by
    rw[hkl,List.drop_length];exact rfl
   have hlt': ¬(k:Int)<(l.length:Int):=(by omega);clear hkl;go_wp2;go_ret;exact⟨by rw[show r=k from by have:=HI.o;have:=HB.o;omega];rfl,rfl⟩
def j6:List (T1×Nat)->List Value
 |[]=>[]
 |p::l=>ag p.1.kind::ag p.1.n::ag (p.2:Int):: .string ⟨p.1.text.toArray⟩::j6 l
theorem wN (t:T1)(k:Nat): ∀l:List (T1×Nat),j6 (l++[(t,k)])=j6 l++[ag t.kind,ag t.n,ag (k:Int),.string ⟨t.text.toArray⟩]
 |[]=>rfl
 |s::l=>by simp[j6,wN t k l]
theorem LJ:(prog.info? 99).map (fun i=>(i.zero,i.size,i.bytes))=some (some (.agg #[ag 0,ag 0,ag 0,.string ⟨#[]⟩]),4,40):=by kernel_rfl
theorem Jp:prog.underlying 73=some (.slice 99):=by kernel_rfl
theorem Ez {w w':World}{base:Nat}{e:TypeId}{size:Nat}{v:Value}{n:Nat}{xs:List Value}(h:w.ownsRow base e size v n xs)(hb:ao w w'):w'.ownsRow base e size v n xs:=by
 obtain⟨h1,h2⟩:=h;refine⟨h1,?_⟩;rcases h2 with h2|⟨g,cap,cur,hv,hg,hh,r⟩
 ·exact .inl h2
 ·exact .inr ⟨g,cap,cur,hv,hg,(hb.block g (aF hh)).trans hh,r⟩
theorem zi {w:World}{base:Nat}{e:TypeId}{size:Nat}{v:Value}{n:Nat}{xs:List Value}(h:w.ownsRow base e size v n xs){k:Nat}{c:Array Value}{t:TypeId}(hk:w.heap[k]? =ah c t)(ht:t≠e):v.ownBlock≠some k:=by
 obtain⟨_,h2⟩:=h;rcases h2 with⟨h2,_⟩|⟨g,cap,cur,hv,hg,hh,r⟩
 ·subst h2;simp[Value.ownBlock]
 ·subst hv;intro e1;have e2:g=k:=(by simpa[Value.ownBlock] using e1);subst e2;rw[hh]at hk;exact ht (Obj.cells.inj (aK hk)).2.1.symm
def jm (l:List UInt8)(base:Nat)(w:World)(v:Value)(er at_:Int):Prop:=
 (6000<l.length/\v=af/\er=4/\at_=0)\/
 (∃(ts:List (T1×Nat)) (k:Nat),l.length<=6000/\eY l ts k/\k<l.length/\(firstT (l.drop k)).err≠0/\v=af/\er=(firstT (l.drop k)).err/\at_=(k:Int))\/
 (∃(ts:List (T1×Nat)) (k:Nat),l.length<=6000/\eY l ts k/\ ¬k<l.length/\w.ownsRow base 99 4 v ts.length (j6 ts)/\er=0/\at_=0)
theorem jm.much {l:List UInt8}{base:Nat}{w:World}(h:6000<l.length):jm l base w (af) 4 0:= .inl ⟨h,rfl,rfl,rfl⟩
theorem jm.wrong {l:List UInt8}{base:Nat}{w:World}{ts:List (T1×Nat)}{k:Nat}(h6:l.length<=6000)(hL:eY l ts k)(hk:k<l.length)(he:(firstT (l.drop k)).err≠0):jm l base w (af) (firstT (l.drop k)).err (k:Int):= .inr (.inl ⟨ts,k,h6,hL,hk,he,rfl,rfl,rfl⟩)
theorem jm.right {l:List UInt8}{base:Nat}{w:World}{ts:List (T1×Nat)}{k:Nat}{v:Value}(h6:l.length<=6000)(hL:eY l ts k)(hk: ¬k<l.length)(ho:w.ownsRow base 99 4 v ts.length (j6 ts)):jm l base w v 0 0:= .inr (.inr ⟨ts,k,h6,hL,hk,ho,rfl,rfl⟩)
theorem oJ:prog.underlying 47=some (.struct (prog.fieldsOf 47)):=by kernel_rfl
theorem vB {R:Ending->World->Prop}{a:Act}{w:World}(g:Nat)(v:Value)(er at_:Int)(hd:a.defers=[])(h2:a.tmps.getD 2 undef=v)(h3:a.tmps.getD 3 undef=ab g 0)
  (hg:w.heap[g]? =ah #[ag er,ag at_] 47) (hR:R (.returned (.tuple #[v,.agg #[ag er,ag at_]])) w):bodyPost prog f24 R .ret a w:=by
 refine aU (v:= .tuple #[v,.agg #[ag er,ag at_]]) ?_ hd hR;have h2':a.tmps[2]?.getD undef=v:=by simpa using h2
 have h3':a.tmps[3]?.getD undef=ab g 0:=by simpa using h3
 have hv:=dR (P:=prog) w g 47 47 _ _ _ hg oJ rfl (by kernel_rfl);simp[results,results24,h2',h3',asAddr,hv]
theorem CN {w:World}{base:Nat}{e:TypeId}{size:Nat}{v:Value}{n:Nat}{xs:List Value}(h:w.ownsRow base e size v n xs){g:Nat}(hg:v.ownBlock≠some g)(cs:Array Value):(w.setRow g cs).ownsRow base e size v n xs:=by
 obtain⟨h1,h2⟩:=h;refine⟨h1,?_⟩;rcases h2 with h2|⟨g',cap,cur,hv,hb,hh,r⟩
 ·exact .inl h2
 ·refine .inr ⟨g',cap,cur,hv,hb,(aT _ _ _ _ fun e=>hg ?_).trans hh,r⟩;subst hv;simp[Value.ownBlock,e]
theorem gc.later {w w':World}(h:gc w)(hb:ao w w'):gc w':=h.below hb
theorem LK (s:ByteArray)(l:List UInt8)(hs:s.data.toList=l)(hl:l.length<=9223372036854775807)(w:World)(hT:gc w):
  Calls prog 24 #[.string s] w fun e w'=>(∃v er at_,e= .returned (.tuple #[v,.agg #[ag er,ag at_]])/\jm l w.heap.size w' v er at_)/\ao w w':=by
 have hz:s.size=l.length:=by rw[<-hs,Lib.size_eq]
 obtain⟨i0,hi,hz0,hz1,hz2⟩:=iW LJ;have hb0:ao w (w.alloc (.cells #[ag 0,ag 0] 47)):=am _ _;have h0:(w.alloc (.cells #[ag 0,ag 0] 47)).heap[w.heap.size]? =ah #[ag 0,ag 0] 47:=aC w _;by_cases hm:6000<l.length
 ·have hm':(6000:Int)<(l.length:Int):=by omega
  go_enter func24,ntmps24;go_wp2;exact vB w.heap.size (af) 4 0 rfl rfl rfl (aC w _) ⟨⟨_,_,_,rfl,jm.much hm⟩,am _ _⟩
 ·have hm': ¬(6000:Int)<(l.length:Int):=by omega
  have HT:P3 (gc w):=hT;clear hT;have c0:=fun w=>Bc s l hs (by omega) 0 (0+ea false (l.drop 0)) (by omega) rfl w;have hst:=eY.start (l:=l);generalize hk0:0+ea false (l.drop 0)=k0 at*;have HS:P3 (eY l [] k0):=hst;clear hst hk0;go_enter func24,ntmps24;go_wp2_with(go_at_call 34;refine(c0 _).mono ?_;rintro e w' ⟨rfl,rfl⟩)
  go_loopw [4,5] (fun v i wr=> ∃(ts:List (T1×Nat)) (k:Nat),i=ag k/\eY l ts k/\wr.ownsRow w.heap.size 99 4 v ts.length (j6 ts)/\wr.heap[w.heap.size]? =ah #[ag 0,ag 0] 47/\ao w wr) (fun _ i _=>l.length-(intOf i).toNat);case atStart=>exact⟨[],k0,rfl,HS.o,bV _ _ _ _,h0,hb0⟩
  case round=>
   obtain⟨ts,k,rfl,hlx,hown,hf,hbel⟩:=hrel;clear h0 hb0 HS c0;obtain⟨hkl,htl⟩:=hlx.le;by_cases hlt:k<l.length
   ·have hlt':(k:Int)<(l.length:Int):=(by omega);have hk0:(0:Int)<=(k:Int):=(by omega);have hkl':(k:Int)<=(l.length:Int):=(by omega);have cT: ∀w,gc w->Calls prog 35 #[.string (s.extract k l.length)] w fun e w'=>e= .returned (.tuple #[.agg #[ag (firstT (l.drop k)).kind,ag (firstT (l.drop k)).n,ag 0,.string ⟨(firstT (l.drop k)).text.toArray⟩],ag ((firstT (l.drop k)).len:Int),ag (firstT (l.drop k)).err])/\ao w w':=fun w hT=>Gk (s.extract k l.length) (l.drop k) (by rw[Lib.extract_data,hs];exact cj (by simp)) (by simp;omega) (vA hlt) w hT;by_cases he:(firstT (l.drop k)).err=0
    ·have hfine:=wK _ (vA hlt) he;have hnx:=eY.step hlx hlt he;have hp1:=hfine.pos;have hp2:=hfine.le;simp only[eN]at hp2;have cs:=fun w=>Bc s l hs (by omega) (k+(firstT (l.drop k)).len) _ (by omega) rfl w;rw[he]at cT;generalize firstT (l.drop k)=t at*;generalize hk1:k+t.len+ea false (l.drop (k+t.len))=k1 at*;have hsk:k<k1:=(by omega);have HX:P3 (eY l (ts++[(t,k)]) k1):=hnx;have q1:IntKind.i64.wrap ((k:Int)+(t.len:Int))=((k+t.len:Nat):Int):=(by rw[bG];omega);clear hnx he hfine hk1 hlx;obtain⟨kd,nn,tx,tl,te⟩:=t;dsimp only at*
     go_wp2_with(first
      |(go_at_call 35;refine(cT _ (HT.o.later hbel)).mono ?_;rintro e w1 ⟨rfl,hb1⟩;have hf1:=ai hb1 hf;have hown1:=Ez hown hb1;have hbel1:=au hbel hb1;clear hf hown hbel hb1 cT)
      |(at_builtin;refine iK _ rfl _ _ 73 rfl w.heap.size 99 i0 (.agg #[ag 0,ag 0,ag 0,.string ⟨#[]⟩]) 4 40 Jp hi hz0 hz1 hz2 rfl (by decide) u4 ts.length (j6 ts) rfl ((hown1.alloc _).alloc _) ⟨w1.heap.size+1,0,none⟩ 1 1 [ag kd,ag nn,ag (k:Int),.string ⟨tx.toArray⟩] rfl rfl ?c1 ?c2 ?c3 ?c4 ?c5 ?_))
     case c1=>
      intro j u hj;match j,hj with
      |0,hj=>simp at hj;subst hj;simp[Addr.add]
      |1,hj=>simp at hj;subst hj;simp[Addr.add]
      |2,hj=>simp at hj;subst hj;simp[Addr.add]
      |3,hj=>simp at hj;subst hj;simp[Addr.add]
     case c2=>intro u hu;simp at hu;rcases hu with rfl|rfl|rfl|rfl<;>rfl
     case c3=>unfold maxLen;omega
     case c4=>omega
     case c5=>have:=hbel1.size;simp;omega
     ·intro v' w2 hown' hgrow _
      have hown2:w2.ownsRow w.heap.size 99 4 v' (ts++[((⟨kd,nn,tx,tl,te⟩:T1),k)]).length (j6 (ts++[((⟨kd,nn,tx,tl,te⟩:T1),k)])):=by
       rw[wN];simp only[aL,bz,fc,bK];exact hown'
      have lf:=aF hf1;have hfa:=(dB w1 (.cells #[ag kd,ag nn,ag (k:Int),.string ⟨tx.toArray⟩] 99) _ lf).trans hf1;have hfb:=(dB _ (.cells #[ag kd,ag nn,ag (k:Int),.string ⟨tx.toArray⟩] 99) _ (aF hfa)).trans hfa;have hf2:=(hgrow.block _ (aF hfb) (fun e=>zi hown1 hf1 (by decide) e.symm)).trans hfb;have hbel2:ao w w2:=((hbel1.alloc hbel1.size _).alloc (by have:=hbel1.size;simp;omega) _).grown hgrow (by have:=hbel1.size;simp;omega) (fun k hk=>(hown1.lt k hk).1);clear hown' hgrow hown1 hf1 hbel1 hfa hfb lf;go_wp2_with(go_at_call 34;refine(cs _).mono ?_;rintro e w' ⟨rfl,rfl⟩)
      go_roundw;case rel=>exact⟨_,k1,rfl,HX.o,hown2,hf2,hbel2⟩
      case measure=>
       have:=HX.o.le;simp[intOf];omega
    ·have hne:((firstT (l.drop k)).err !=0)=true:=(by simpa using he);have HO: ∀w',P3 (jm l w.heap.size w' (af) (firstT (l.drop k)).err (k:Int)):=fun w'=>jm.wrong (by omega) hlx hlt he;clear he hlx hown;generalize firstT (l.drop k)=t at*;obtain⟨kd,nn,tx,tl,te⟩:=t;dsimp only at*
     go_wp2_with(first
      |(go_at_call 35;refine(cT _ (HT.o.later hbel)).mono ?_;rintro e w1 ⟨rfl,hb1⟩;have hf1:=ai hb1 hf;have hbel1:=au hbel hb1;have hfa:=(dB w1 (.cells #[ag kd,ag nn,ag 0,.string ⟨tx.toArray⟩] 99) _ (aF hf1)).trans hf1;have hbela:=hbel1.alloc hbel1.size (.cells #[ag kd,ag nn,ag 0,.string ⟨tx.toArray⟩] 99);clear hf hbel hb1 cT hf1)
      |(refine az rfl 47 _ _ rfl _ _ rfl rfl _ _ hfa (by kernel_rfl) (by simp) (by simp[Value.oneCell']) ?_))
     exact vB w.heap.size (af) te (k:Int) rfl rfl rfl (aJ _ _ _ _ _ _ hfa) ⟨⟨_,_,_,rfl,(HO _).o⟩,below_setRow hbela (aA _) _⟩
   ·have hob:=zi hown hf (by decide);have HO: ∀cs,P3 (jm l w.heap.size (wr.setRow w.heap.size cs) u4 0 0):=fun cs=>jm.right (by omega) hlx hlt (CN hown hob cs);have hlt': ¬(k:Int)<(l.length:Int):=(by omega);clear hlx hown hob;go_wp2_with(refine az rfl 47 _ _ rfl _ _ rfl rfl _ _ hf (by kernel_rfl) (by simp) (by simp[Value.oneCell']) ?_)
    exact vB w.heap.size u4 0 0 rfl rfl rfl (aJ _ _ _ _ _ _ hf) ⟨⟨_,_,_,rfl,(HO _).o⟩,below_setRow hbel (aA _) _⟩
def namedL (l:List UInt8):Bool:=decide (l.length≠0)&&(decide (l.length<=20)&&(decide (wordLen l=l.length)&& !isWordL l))
theorem sZ {w:World}{base:Nat}{e:TypeId}{size:Nat}{v:Value}{n:Nat}{xs:List Value}(h:w.ownsRow base e size v n xs)(hn:0<n):
  ∃g cap:Nat,v= .slice (some (ae g 0)) n cap/\ ∀(i:Nat) (u:Value),xs[i]? =some u->w.cell? (ae g i)=some u:=by
 obtain⟨_,h2⟩:=h;rcases h2 with⟨_,h2⟩|⟨g,cap,cur,hv,hb,hh,_,_,_,h6⟩
 ·omega
 ·refine⟨g,cap,hv,fun i u hu=> ?_⟩;rw[aV _ _ _ _ _ _ hh];rw[<-h6,ja]at hu;split at hu
  ·simpa using hu
  ·cases hu
theorem eY.iter {l:List UInt8}{ts:List (T1×Nat)}{k:Nat}(h:eY l ts k): ∃n,lm l n=some (ts,k):=h
theorem s6 {l:List UInt8}{n:Nat}(h:lm l n=none): ∀m,n<=m->lm l m=none
 |0,hm=>by have:n=0:=by omega
           subst this;exact h
 |m+1,hm=>by
  by_cases e:n=m+1
  ·rw[<-e];exact h
  ·simp only[lm,s6 h m (by omega)]
def PC (n:Nat)(ts:List (T1×Nat)):List (T1×Nat):=ts.map fun p=>(p.1,n+p.2)
theorem Gl {l:List UInt8}{ts us:List (T1×Nat)}{k j:Nat}(h:eY l ts k)(h':eY l us j)(hk: ¬(k<l.length/\(firstT (l.drop k)).err=0))(hj: ¬(j<l.length/\(firstT (l.drop j)).err=0)):ts=us/\k=j:=by
 obtain⟨n,hn⟩:=h.iter;obtain⟨m,hm⟩:=h'.iter;have n1:lm l (n+1)=none:=by simp only[lm,hn];rw[aw hk]
 have m1:lm l (m+1)=none:=by simp only[lm,hm];rw[aw hj]
 have e:n=m:=by
  rcases Nat.lt_trichotomy n m with g|g|g
  ·have:=s6 n1 m (by omega);rw[hm]at this;cases this
  ·exact g
  ·have:=s6 m1 n (by omega);rw[hn]at this;cases this
 subst e;rw[hn]at hm;have:=aK hm;exact⟨congrArg Prod.fst this,congrArg Prod.snd this⟩
theorem Gm (s:ByteArray)(l:List UInt8)(hs:s.data.toList=l)(hl:l.length<=9223372036854775806)(w:World):
  Calls prog 114 #[.string s] w fun e w'=>e= .returned (.bool (namedL l))/\ao w w':=by
 have hz:s.size=l.length:=by rw[<-hs,Lib.size_eq]
 have hnil:s.toList.isEmpty=l.isEmpty:=by rw[Lib.toList_data,hs]
 have cl:=fun w=>u9 s l hs hl w;have cw:=fun w=>wH s l hs w;by_cases h0:l.length=0
 ·have HN:P3 (namedL l=false):=by show namedL l=false;simp[namedL,h0]
  have hq:s.toList.isEmpty=true:=(by rw[hnil];simpa using h0);clear hnil h0;go_enter func114,ntmps114
  go_wp2_with(first
   |(go_at_call 107;refine(cl _).mono ?_;rintro e w' ⟨rfl,rfl⟩)
   |(go_at_call 109;refine(cw _).mono ?_;rintro e w1 ⟨rfl,hb1⟩))
  go_ret;exact⟨by rw[HN.o];rfl,aG _ _⟩
 ·have hq:s.toList.isEmpty=false:=by rw[hnil];cases l<;>simp at h0⊢
  clear hnil;by_cases h20:l.length<=20
  ·have i20:(l.length:Int)<=20:=(by omega);by_cases hw:wordLen l=l.length
   ·have HN:P3 (namedL l= !isWordL l):=(by show namedL l=_;simp[namedL,h0,h20,hw]);rw[hw]at cl;clear h0 hw;generalize isWordL l=b at*;go_enter func114,ntmps114
    go_wp2_with(first
     |(go_at_call 107;refine(cl _).mono ?_;rintro e w' ⟨rfl,rfl⟩)
     |(go_at_call 109;refine(cw _).mono ?_;rintro e w1 ⟨rfl,hb1⟩))
    go_ret;exact⟨by rw[HN.o];rfl,hb1⟩
   ·have HN:P3 (namedL l=false):=(by show namedL l=false;simp[namedL,hw]);have iw:((wordLen l:Int)==(l.length:Int))=false:=(by simp;omega);clear h0 hw;generalize wordLen l=k at*;go_enter func114,ntmps114
    go_wp2_with(first
     |(go_at_call 107;refine(cl _).mono ?_;rintro e w' ⟨rfl,rfl⟩)
     |(go_at_call 109;refine(cw _).mono ?_;rintro e w1 ⟨rfl,hb1⟩))
    go_ret;exact⟨by rw[HN.o];rfl,aG _ _⟩
  ·have i20: ¬(l.length:Int)<=20:=(by omega);have HN:P3 (namedL l=false):=(by show namedL l=false;simp[namedL,h20]);clear h0 h20;go_enter func114,ntmps114
   go_wp2_with(first
    |(go_at_call 107;refine(cl _).mono ?_;rintro e w' ⟨rfl,rfl⟩)
    |(go_at_call 109;refine(cw _).mono ?_;rintro e w1 ⟨rfl,hb1⟩))
   go_ret;exact⟨by rw[HN.o];rfl,aG _ _⟩
section
def qZ (w:World)(v:Value)(ts:List (T1×Nat)):Prop:=
 (∃c,v= .slice none 0 c/\ts=[])\/ ∃g o c:Nat,v= .slice (some (ae g o)) ts.length c/\ts.length<9223372036854775808/\ ∀(j:Nat) (t:T1) (k:Nat),ts[j]? =some (t,k)->
  w.cell? (ae g (o+j*4))=some (ag t.kind)/\w.cell? (ae g (o+j*4+1))=some (ag t.n)/\w.cell? (ae g (o+j*4+2))=some (ag (k:Int))/\w.cell? (ae g (o+j*4+3))=some (.string ⟨t.text.toArray⟩)
theorem qZ.form {w:World}{v:Value}{l:List (T1×Nat)}(h:qZ w v l): ∃p c,v= .slice p l.length c:=by
 rcases h with⟨c,h,rfl⟩|⟨g,o,c,h,_⟩
 ·exact⟨none,c,h⟩
 ·exact⟨_,c,h⟩
theorem OQ (a b c:Int)(s:ByteArray)(w:World):(Op.equalIn 10000 99 (.agg #[ag a,ag b,ag c,.string s]) (.agg #[ag a,ag b,ag c,.string s])).run prog w= .ok true w:=by
 rw[run_equalIn_struct w 9999 99 _ _ (by kernel_rfl) (by kernel_rfl)];simp[Program.fieldsOf,underlying99,Op.eqFields];go_simp
theorem Ny (a b c:Int)(s:ByteArray)(w:World):(binOp .neq 99 (.agg #[ag a,ag b,ag c,.string s]) (.agg #[ag a,ag b,ag c,.string s])).run prog w= .ok (.bool false) w:=by
 rw[run_neq_struct,OQ];simp[Result.andThen]
attribute [local go_sem] Ny
end
def P2 (n:Nat)(us:List (T1×Nat))(j:Nat):List (T1×Nat):=PC n (us.take j)++us.drop j
theorem Bd: ∀(ts:List (T1×Nat)) (j:Nat) (t:T1) (k:Nat),ts[j]? =some (t,k)->(j6 ts)[j*4]? =some (ag t.kind)/\(j6 ts)[j*4+1]? =some (ag t.n)/\(j6 ts)[j*4+2]? =some (ag (k:Int))/\(j6 ts)[j*4+3]? =some (.string ⟨t.text.toArray⟩)
 |[],j,t,k,h=>by simp at h
 |p::ts,0,t,k,h=>by
  have:p=(t,k):=(by simpa using h);subst this;simp[j6]
 |p::ts,j+1,t,k,h=>by
  have:=Bd ts j t k (by simpa using h);have e:(j+1)*4=j*4+1+1+1+1:=(by omega);rw[e];simpa[j6] using this
theorem Be {w:World}{base:Nat}{v:Value}{ts:List (T1×Nat)}(h:w.ownsRow base 99 4 v ts.length (j6 ts))(hl:ts.length<9223372036854775808):qZ w v ts:=by
 by_cases h0:ts.length=0
 ·obtain⟨_,h2⟩:=h;rcases h2 with⟨h2,h3⟩|⟨g,cap,cur,hv,_⟩
  ·exact .inl ⟨0,h2,gV.1 h3⟩
  ·refine .inr ⟨g,0,cap,hv,hl,fun j t k hj=> ?_⟩;have:ts=[]:=gV.1 h0;rw[this]at hj;simp at hj
 ·obtain⟨g,cap,hv,hc⟩:=sZ h (by omega);refine .inr ⟨g,0,cap,hv,hl,fun j t k hj=> ?_⟩;obtain⟨f0,f1,f2,f3⟩:=Bd ts j t k hj;rw[bK];exact⟨hc _ _ f0,hc _ _ f1,hc _ _ f2,hc _ _ f3⟩
end Go.Proofs.YtjkilacmkbmmbaaGreatDoor
