/- Texts of the proof. -/
import Derived.Test.YtaoljfdfhggbbaaGreatDoorPc05
import Derived.Lib.Walk
import Derived.Lib.BufferWrite
import Derived.Test.YtaoljfdfhggbbaaGreatDoorPc01
set_option maxRecDepth 100000
set_option maxHeartbeats 8000000
namespace Go.Proofs.YtaoljfdfhggbbaaGreatDoor
open Go.Proofs.Tryz Go.RowKit Lx Vx Mx Msk
theorem Jb:(prog.info? 5).map (fun i=>(i.zero,i.size,i.bytes))=some (some (.int .u8 0),1,1):=by kernel_rfl
theorem zk:prog.underlying 267=some (.slice 5):=by kernel_rfl
theorem Gg:prog.underlying 268=some (.pointer 5):=by kernel_rfl
theorem Es (s:ByteArray)(w:World)(v:s.size<=1000000):
  Calls prog 170 #[.string s] w fun e w'=>e= .returned (.string s)/\aq w w':=by
 by_cases u:s.size=0
 ·have C:s=⟨#[]⟩:=by
   apply ByteArray.ext;exact Array.eq_empty_of_size_eq_zero u
  subst C;go_enter func170,ntmps170;go_wp2;go_ret;exact⟨rfl,aI _ _⟩
 ·obtain⟨y,hi,r,d,t⟩:=jp Jb;have a:(prog.info? 5).map (·.size)=some 1:=(by rw[hi];simp[d]);have n:prog.cellsOf 5=1:=(by kernel_rfl);obtain⟨M,f⟩: ∃M,M=madeCells (Value.int .u8 0).cells (((s.size:Nat):Int).toNat*y.size):=⟨_,rfl⟩
  have z:M.size=s.size:=(by rw[f,size_madeCells,d];simp)
  have B: ∀W:World,(Instr.makeSlice 267 (ag (s.size:Int)) (ag (s.size:Int))).run prog W= .ok (.slice (some (ae W.heap.size 0)) s.size s.size) (W.alloc (.cells M 5)):=fun W=>by
   have h:=run_make (P:=prog) W 267 5 y (.int .u8 0) zk hi r .i64 .i64 (s.size:Int) (s.size:Int) (by omega) (by omega) (by rw[t];omega) (by omega);rw[<-f]at h;simpa using h
  clear f;have o:=Lib.run_copy_row_string (P:=prog) (w.alloc (.cells M 5)) 267 9 3 5 w.heap.size 0 s.size s.size s M 5 zk a (aE w _) (aB _) (by omega);obtain⟨Y,i⟩: ∃Y,Y=(M.toList.take 0++Lib.byteCells s.data.toList++M.toList.drop (0+s.size)).toArray:=⟨_,rfl⟩
  rw[<-i]at o
  have b:Y.toList=Lib.byteCells s.data.toList:=by
   rw[i,List.toList_toArray,List.take_zero,List.nil_append,dg (by rw[bQ];omega),il]
  have A:Y.size=s.size:=(by rw[<-bQ,b,Lib.byteCells_length,<-Lib.size_eq]);have c:((w.alloc (.cells M 5)).setRow w.heap.size Y).heap[w.heap.size]? =ah Y 5:=aL _ _ M _ 5 (0,0) (aE w _);have q:s.data.toList≠[]:=fun e=>u (by rw[Lib.size_eq,e];rfl)
  have g:=Lib.run_unsafeString_row (P:=prog) ((w.alloc (.cells M 5)).setRow w.heap.size Y) 268 3 9 5 Gg n w.heap.size Y.size (by unfold World.shape?;rw[c]) s.data.toList q (by rw[<-Lib.size_eq];omega) (by rw[<-Lib.size_eq];omega)
   (fun j x D=>Lib.cells_of_row c Y.size j _ (by rw[cQ (by rw[bQ];exact aB _),b];simp[Lib.byteCells,D]))
  rw[<-Lib.size_eq]at g;clear i;go_enter func170,ntmps170;go_wp2;go_ret;have l:aq w (w.alloc (.cells M 5)):=am w _;have m:Below w.heap.size (w.alloc (.cells M 5)) ((w.alloc (.cells M 5)).setRow w.heap.size Y):=⟨rfl,rfl,rfl,by simp,fun k E=>aV _ _ _ _ (by omega)⟩
  exact⟨rfl,Lib.below_freeze (l.trans m) (p:=⟨w.heap.size,0,none⟩) (aB _) _⟩
theorem Gh (s:ByteArray)(w:World)(a:s.size<=1000000):
  Calls prog 137 #[.string s] w fun e w'=>e= .returned (.string s)/\aq w w':=by
 go_enter func137,ntmps137;go_wp2_with(go_at_call 170;refine(Es s _ a).mono ?_;rintro e w' ⟨rfl,b⟩)
 go_ret;exact⟨rfl,b⟩
theorem A9 {w:World}{g:Nat}{c a:Array Value}{t:TypeId}(b:w.heap[g]? =ah c t)(e:c=a):w.heap[g]? =ah a t:=by rw[b,e]
theorem Jc (s:ByteArray)(l:List UInt8)(v:s.data.toList=l)(A:l.length<=9223372036854775806)(w:World):
  Calls prog 114 #[.string s] w fun e w'=>e= .returned (sc (kQ l))/\aq w w':=by
 have E:s.size=l.length:=by rw[<-v,Lib.size_eq]
 have cl:=fun w=>vk s l v A w;have D:=wH l;have d:aq w (w.alloc (.cells #[ag 0,ag 0,ag 0,.string ⟨#[]⟩] 160)):=am _ _;have m:(w.alloc (.cells #[ag 0,ag 0,ag 0,.string ⟨#[]⟩] 160)).heap[w.heap.size]? =ah #[ag 0,ag 0,ag 0,.string ⟨#[]⟩] 160:=aE w _;have i:kQ l=if 20<wordLen l then bad 7 else⟨if isWordL (l.take (wordLen l)) then 2 else 1,0,l.take (wordLen l),wordLen l,0⟩:=rfl;generalize wordLen l=k at*;by_cases q:20<k
 ·have j:PN (kQ l=bad 7):=by
   show kQ l=_;rw[i,aD q]
  have y:(20:Int)<(k:Int):=(by omega);clear i m;go_enter func114,ntmps114;go_wp2_with(go_at_call 136;refine(cl _).mono ?_;rintro e w' ⟨rfl,rfl⟩)
  exact fT (by rw[results114,results112]) w.heap.size (bad 7) rfl rfl rfl rfl (aE w _) ⟨by rw[j.o],d⟩
 ·rw[ax q]at i;have y: ¬(20:Int)<(k:Int):=(by omega);have F:(0:Int)<=(k:Int):=(by omega);have G:(k:Int)<=(l.length:Int):=(by omega);have r:(s.extract 0 k).data.toList=l.take k:=(by rw[Lib.extract_data,v];simp);have x:(s.extract 0 k).size<=1000000:=(by rw[Lib.size_eq,r];simp;omega);have z:=fun w=>Gh (s.extract 0 k) w x;have t:=fun w=>wQ (s.extract 0 k) (l.take k) r w;have g:=KK r;cases hW:isWordL (l.take k) with
  |true=>
   rw[hW]at t
   have j:PN (kQ l=⟨2,0,l.take k,k,0⟩):=by
    show kQ l=_;rw[i,hW];rfl
   have u:PN (s.extract 0 k=⟨(l.take k).toArray⟩):=g;clear i hW g r;go_enter func114,ntmps114
   go_wp2_with(first
    |(go_at_call 136;refine(cl _).mono ?_;rintro e w' ⟨rfl,rfl⟩)
    |(go_at_call 137;refine(z _).mono ?_;rintro e B ⟨rfl,b⟩;have n:=ai b m;have a:=aw d b;clear b m d)
    |(go_at_call 138;refine(t _).mono ?_;rintro e C ⟨rfl,c⟩;have p:=ai c n;have f:=aw a c;clear c n a)
    |(refine ay rfl 160 _ _ rfl _ _ rfl rfl _ _ p (by kernel_rfl) (by simp) (by simp[Value.oneCell']) ?_))
   exact fT (by rw[results114,results112]) w.heap.size ⟨2,0,l.take k,k,0⟩ rfl rfl rfl rfl (A9 (aL _ _ _ _ _ _ p) (by rw[u.o])) ⟨by rw[j.o],below_setRow f (aB _) _⟩
  |false=>
   rw[hW]at t
   have j:PN (kQ l=⟨1,0,l.take k,k,0⟩):=by
    show kQ l=_;rw[i,hW];rfl
   have u:PN (s.extract 0 k=⟨(l.take k).toArray⟩):=g;clear i hW g r;go_enter func114,ntmps114
   go_wp2_with(first
    |(go_at_call 136;refine(cl _).mono ?_;rintro e w' ⟨rfl,rfl⟩)
    |(go_at_call 137;refine(z _).mono ?_;rintro e B ⟨rfl,b⟩;have n:=ai b m;have a:=aw d b;clear b m d)
    |(go_at_call 138;refine(t _).mono ?_;rintro e C ⟨rfl,c⟩;have p:=ai c n;have f:=aw a c;clear c n a)
    |(refine ay rfl 160 _ _ rfl _ _ rfl rfl _ _ p (by kernel_rfl) (by simp) (by simp[Value.oneCell']) ?_))
   exact fT (by rw[results114,results112]) w.heap.size ⟨1,0,l.take k,k,0⟩ rfl rfl rfl rfl (A9 (aL _ _ _ _ _ _ p) (by rw[u.o])) ⟨by rw[j.o],below_setRow f (aB _) _⟩
def oe (y m d:Int):Int×Int:=if 1<=d/\d<=Cal.dim y m then(Cal.num y m d,0) else(0,3)
theorem Ln (y m d:Int)(w:World)(a:gI w):
  Calls prog 134 #[.agg #[ag y,ag m,ag d]] w fun e w'=>e= .returned (.tuple #[ag (oe y m d).1,ag (oe y m d).2])/\aq w w':=by
 unfold oe;by_cases h:1<=d/\d<=Cal.dim y m
 ·rw[aD h];exact Ew y m d w a h.1 h.2
 ·rw[ax h];exact Gj y m d w a (by omega)
def lg (l:List UInt8):T1:=if(oe (valL ((l.drop 0).take 4)) (valL ((l.drop 5).take 2)) (valL ((l.drop 8).take 2))).2=0 then⟨5,(oe (valL ((l.drop 0).take 4)) (valL ((l.drop 5).take 2)) (valL ((l.drop 8).take 2))).1,[],10,0⟩ else bad 3
theorem Je (y m d:Int):(oe y m d).2=0\/(oe y m d).2=3:=by
 unfold oe;split<;>simp
theorem Jf (s:ByteArray)(l:List UInt8)(t:s.data.toList=l)(p:jq l wN=true)(w:World)(g:gI w):
  Calls prog 109 #[.string s] w fun e w'=>e= .returned (sc (lg l))/\aq w w':=by
 have hz:s.size=l.length:=by rw[<-t,Lib.size_eq]
 obtain⟨a,_⟩:=qf p;have r:10<=l.length:=a;have R:(4:Int)<=(l.length:Int):=by omega
 have S:(7:Int)<=(l.length:Int):=by omega
 have L:(10:Int)<=(l.length:Int):=by omega
 obtain⟨T,E⟩:=my p 0 4 (by decide) (by decide);obtain⟨U,G⟩:=my p 5 2 (by decide) (by decide);obtain⟨V,H⟩:=my p 8 2 (by decide) (by decide);have D:=fun w=>mK (s.extract 0 4) ((l.drop 0).take 4) (by rw[Lib.extract_data,t]) (by omega) E w;have C:=fun w=>mK (s.extract 5 7) ((l.drop 5).take 2) (by rw[Lib.extract_data,t]) (by omega) G w;have B:=fun w=>mK (s.extract 8 10) ((l.drop 8).take 2) (by rw[Lib.extract_data,t]) (by omega) H w;have J:lg l=if(oe (valL ((l.drop 0).take 4)) (valL ((l.drop 5).take 2)) (valL ((l.drop 8).take 2))).2=0 then⟨5,(oe (valL ((l.drop 0).take 4)) (valL ((l.drop 5).take 2)) (valL ((l.drop 8).take 2))).1,[],10,0⟩ else bad 3:=rfl;generalize valL ((l.drop 0).take 4)=y at*;generalize valL ((l.drop 5).take 2)=m at*;generalize valL ((l.drop 8).take 2)=d at*;have A:=fun w g=>Ln y m d w g;have f:=Je y m d;generalize (oe y m d).1=c at*;generalize (oe y m d).2=ev at*;have z:PN (lg l=if ev=0 then⟨5,c,[],10,0⟩ else bad 3):=J;clear J T U V E G H a p;have b:aq w (w.alloc (.cells #[ag 0,ag 0,ag 0,.string ⟨#[]⟩] 160)):=am _ _;have I:(w.alloc (.cells #[ag 0,ag 0,ag 0,.string ⟨#[]⟩] 160)).heap[w.heap.size]? =ah #[ag 0,ag 0,ag 0,.string ⟨#[]⟩] 160:=aE w _;have k:=g.below b;clear g;have g:=k;clear k;go_enter func109,ntmps109;go_wp2;generalize w.alloc (.cells #[ag 0,ag 0,ag 0,.string ⟨#[]⟩] 160)=X at*;refine dh (fun _ _ W=>aq X W) [kn 8 (.string s),kn 9 (.string (s.extract 0 4)),kn 10 (ag y),kn 11 (.string s),kn 12 (.string (s.extract 5 7)),kn 13 (ag m),kn 14 (.string s),kn 15 (.string (s.extract 8 10)),kn 16 (ag d),kn 17 (.agg #[ag y,ag m,ag d]),kn 18 (.tuple #[ag c,ag ev]),kn 7 (.tuple #[ag c,ag ev]),kn 19 (ag c),kn 20 (ag ev),kn 5 (ag c),kn 6 (ag ev)] (fun _=>(aI _ _).drew) (fun _ _ _ _ x h=>aw h x) (by kernel_rfl) (fun M φ W i Q F ll N O=> ?_) (fun M φ W P i=> ?_)
 ·simp only[kn,dW,aQ,aX,Act.put,aA,aK,aJ]at N;subst N;simp only[cZ,Nat.reduceAdd]at O;dsimp only[kn,dB,eN,eg,Act.put];and_intros;all_goals first|exact trivial|intro hw Z Y K j
  all_goals try (go_simp;with_reducible exact j _ _ ⟨rfl,aI _ _⟩)
  all_goals go_simp
  ·refine(D _).mono ?_;rintro e v ⟨rfl,rfl⟩;exact j _ _ ⟨rfl,aI _ _⟩
  ·refine(C _).mono ?_;rintro e v ⟨rfl,rfl⟩;exact j _ _ ⟨rfl,aI _ _⟩
  ·refine(B _).mono ?_;rintro e v ⟨rfl,rfl⟩;exact j _ _ ⟨rfl,aI _ _⟩
  ·refine(A _ (g.below i)).mono ?_;rintro e v ⟨rfl,x⟩;exact j _ _ ⟨rfl,x⟩
 ·simp only[kn,eh,aQ,aX,Act.put,aA,aK,aJ];have q:=ai i I;have n:=aw b i;clear P i I b D C B A;rcases f with f|f
  ·have u:PN (lg l=⟨5,c,[],10,0⟩):=by
    show lg l=_;rw[z.o,aD f]
   subst f;go_wp2_with(refine ay rfl 160 _ _ rfl _ _ rfl rfl _ _ q (by kernel_rfl) (by simp) (by simp[Value.oneCell']) ?_)
   exact fT (by rw[results109,results112]) w.heap.size ⟨5,c,[],10,0⟩ rfl rfl rfl rfl (aL _ _ _ _ _ _ q) ⟨by rw[u.o],below_setRow n (aB _) _⟩
  ·have u:PN (lg l=bad 3):=by
    show lg l=_;rw[z.o,ax (by omega)]
   subst f;go_wp2_with(refine ay rfl 160 _ _ rfl _ _ rfl rfl _ _ q (by kernel_rfl) (by simp) (by simp[Value.oneCell']) ?_)
   exact fT (by rw[results109,results112]) w.heap.size (bad 3) rfl rfl rfl rfl (aL _ _ _ _ _ _ q) ⟨by rw[u.o],below_setRow n (aB _) _⟩
theorem Ey (s:ByteArray)(c:Int)(w:World):
  Calls prog 166 #[.string s,.int .u8 c] w fun e w'=>e= .returned (ag (Lib.indexByte s.data.toList c.toNat.toUInt8))/\w'=w:=by
 go_enter func166,ntmps166;go_wp2;rw[run_callFunc_extern func195 (by kernel_rfl) (by kernel_rfl) (by kernel_rfl) (e:=Extern.BytealgIndexByte.indexByte) (by kernel_rfl),Lib.run_indexByteString];simp only[Result.andThen];rw[Oper.upon_value];go_wp2;go_ret;exact⟨rfl,rfl⟩
theorem zl (s:ByteArray)(c:Int)(w:World):
  Calls prog 133 #[.string s,.int .u8 c] w fun e w'=>e= .returned (ag (Lib.indexByte s.data.toList c.toNat.toUInt8))/\w'=w:=by
 go_enter func133,ntmps133;go_wp2_with(go_at_call 166;refine(Ey _ _ _).mono ?_;rintro e w' ⟨rfl,rfl⟩)
 go_ret;exact⟨rfl,rfl⟩
theorem Ez (s p:ByteArray)(w:World):
  Calls prog 139 #[.string s,.string p] w fun e w'=>e= .returned (.bool (Lib.hasPrefix s.data.toList p.data.toList))/\w'=w:=by
 rw[<-Lib.hasPrefix_of_take,<-Lib.size_eq,<-Lib.size_eq];go_enter func139,ntmps139;go_wp2
 ·rename_i h;go_ret;refine⟨?_,rfl⟩;show Ending.returned (Value.bool ((s.extract 0 p.size).toList==p.toList))=_;rw[Lib.extract_toList,Lib.toList_data];simp[h]
 ·rename_i h;go_ret;refine⟨?_,rfl⟩;show Ending.returned (Value.bool false)=_;simp[h]
theorem Jg (s:ByteArray)(l:List UInt8)(r:s.data.toList=l)(B:0<l.length)(w:World):
  Calls prog 115 #[.string s] w fun e w'=>e= .returned (sc (j8 l))/\aq w w':=by
 have C:s.size=l.length:=by rw[<-r,Lib.size_eq]
 have d:=fun w=>Ez s ⟨#[46,46]⟩ w;rw[r]at d;have p:aq w (w.alloc (.cells #[ag 0,ag 0,ag 0,.string ⟨#[]⟩] 160)):=am _ _;cases hp:Lib.hasPrefix l [46,46] with
 |true=>
  have f:PN (j8 l=⟨3,0,[46,46],2,0⟩):=by
   show j8 l=_;unfold j8;rw[hp];rfl
  rw[show(⟨#[46,46]⟩:ByteArray).data.toList=[46,46] from rfl,hp]at d;have b:aq w (w.alloc (.cells #[ag 3,ag 0,ag 0,.string ⟨#[46,46]⟩] 160)):=am _ _;clear hp;go_enter func115,ntmps115;go_wp2_with(go_at_call 139;refine(d _).mono ?_;rintro e w' ⟨rfl,rfl⟩)
  exact fT (by rw[results115,results112]) w.heap.size ⟨3,0,[46,46],2,0⟩ rfl rfl rfl rfl (aE w _) ⟨by rw[f.o],b⟩
 |false=>
  rw[show(⟨#[46,46]⟩:ByteArray).data.toList=[46,46] from rfl,hp]at d;have z: ∀h:0<s.size,s[0]=l.getD 0 0:=fun h=>lC r 0 h;have y:(0:Int)<(l.length:Int):=(by omega);have n:=fun w=>zl ⟨#[61,59,58,43,45,38,40,41,44]⟩ ((l.getD 0 0).toNat:Int) w;have t:(((l.getD 0 0).toNat:Int)).toNat.toUInt8=l.getD 0 0:=(by simp);rw[t,show(⟨#[61,59,58,43,45,38,40,41,44]⟩:ByteArray).data.toList=lO from rfl]at n;have k:=A7 lO (l.getD 0 0);have v:Lib.indexByte lO (l.getD 0 0)<9:=k;have x:=Lib.indexByte_ge lO (l.getD 0 0);have a:=A8 lO (l.getD 0 0)
  have m:j8 l=if Go.Lib.indexByte lO (l.getD 0 0)<0 then bad 2 else⟨3,0,[l.getD 0 0],1,0⟩:=by
   unfold j8;rw[hp];rfl
  generalize A:l.getD 0 0=c at*;generalize Lib.indexByte lO c=i at*;clear hp k t;by_cases hi:i<0
  ·have f:PN (j8 l=bad 2):=by
    show j8 l=_;rw[m,aD hi]
   clear m a;go_enter func115,ntmps115
   go_wp2_with(first
    |(go_at_call 139;refine(d _).mono ?_;rintro e w' ⟨rfl,rfl⟩)
    |(go_at_call 133;refine(n _).mono ?_;rintro e w' ⟨rfl,rfl⟩))
   exact fT (by rw[results115,results112]) w.heap.size (bad 2) rfl rfl rfl rfl (aE w _) ⟨by rw[f.o],p⟩
  ·have f:PN (j8 l=⟨3,0,[c],1,0⟩):=by
    show j8 l=_;rw[m,ax hi]
   obtain⟨j,rfl⟩: ∃j:Nat,i=j:=⟨i.toNat,by omega⟩
   have u:=a j rfl;have q:j<9:=(by omega)
   have ex:(⟨#[61,59,58,43,45,38,40,41,44]⟩:ByteArray).extract j (j+1)=⟨#[c]⟩:=by
    apply KK (l:=[c]);rw[Lib.extract_data,show(⟨#[61,59,58,43,45,38,40,41,44]⟩:ByteArray).data.toList=lO from rfl,show j+1-j=1 by omega];have g:j<lO.length:=q;rw[bx g]
    have:lO[j]=c:=by
     rw[<-u];simp[List.getD,g]
    simp[this]
   have D: ¬(j:Int)<0:=(by omega);have E:(0:Int)<=(j:Int):=(by omega);have F:(j:Int)<=9:=(by omega);have G:(j:Int)+1<=9:=(by omega);have b:aq w (w.alloc (.cells #[ag 3,ag 0,ag 0,.string ⟨#[c]⟩] 160)):=am _ _;clear m a hi u;go_enter func115,ntmps115
   go_wp2_with(first
    |(go_at_call 139;refine(d _).mono ?_;rintro e w' ⟨rfl,rfl⟩)
    |(go_at_call 133;refine(n _).mono ?_;rintro e w' ⟨rfl,rfl⟩))
   exact fT (by rw[results115,results112]) w.heap.size ⟨3,0,[c],1,0⟩ rfl rfl rfl rfl (aE w _) ⟨by rw[f.o],b⟩
def firstT (l:List UInt8):T1:=if jq l wN then lg l else if jq l wO then oK l else if isD (l.getD 0 0) then mx l else if isL (l.getD 0 0) then kQ l else j8 l
theorem Gl (s:ByteArray)(l:List UInt8)(A:s.data.toList=l)(F:l.length<=9223372036854775806)(G:0<l.length)(w:World)(I:gI w):
  Calls prog 82 #[.string s] w fun e w'=>e= .returned (sc (firstT l))/\aq w w':=by
 have M:s.size=l.length:=by rw[<-A,Lib.size_eq]
 have J:(0:Int)<(l.length:Int):=by omega
 have K: ∀h:0<s.size,s[0]=l.getD 0 0:=fun h=>lC A 0 h;have k:aq w (w.alloc (.cells #[ag 0,ag 0,ag 0,.string ⟨#[]⟩] 160)):=am _ _;have v:(w.alloc (.cells #[ag 0,ag 0,ag 0,.string ⟨#[]⟩] 160)).heap[w.heap.size]? =ah #[ag 0,ag 0,ag 0,.string ⟨#[]⟩] 160:=aE w _;have r:PN (gI w):=I;clear I;have g:=fun w=>A6 s ⟨#[48,48,48,48,45,48,48,45,48,48]⟩ l wN A rfl (by omega) (by decide) w;have q:=fun w=>A6 s ⟨#[48,48,58,48,48]⟩ l wO A rfl (by omega) (by decide) w;have B:=fun w=>lN (l.getD 0 0) w;have C:=fun w=>wP (l.getD 0 0) w;have x:firstT l=if jq l wN then lg l else if jq l wO then oK l else if isD (l.getD 0 0) then mx l else if isL (l.getD 0 0) then kQ l else j8 l:=rfl;generalize L:l.getD 0 0=c at*;cases f1:jq l wN with
 |true=>
  rw[f1]at g
  have z:PN (firstT l=lg l):=by
   show firstT l=_;rw[x,f1];rfl
  obtain⟨t,cT,y⟩: ∃t:T1,(∀w,gI w->Calls prog 109 #[.string s] w fun e w'=>e= .returned (.tuple #[.agg #[ag t.kind,ag t.n,ag 0,.string ⟨t.text.toArray⟩],ag (t.len:Int),ag t.err])/\aq w w')/\PN (lg l=t):=⟨lg l,fun w _hT=>Jf s l A f1 w _hT,rfl⟩
  clear x;go_enter func82,ntmps82
  go_wp2_with(first
   |(go_at_call 108;have _t:=g;refine(g _).mono ?_;rintro e D ⟨rfl,d⟩;have m:=ai d v;have a:=aw k d;clear _t g d v k)
   |(go_at_call 109;refine(cT _ (r.o.below a)).mono ?_;rintro e E ⟨rfl,f⟩;have p:=ai f m;have j:=aw a f;clear f m a)
   |(refine ay rfl 160 _ _ rfl _ _ rfl rfl _ _ p (by kernel_rfl) (by simp) (by simp[Value.oneCell']) ?_))
  exact fT (by rw[results82,results112]) w.heap.size t rfl rfl rfl rfl (aL _ _ _ _ _ _ p) ⟨by rw[z.o,y.o],below_setRow j (aB _) _⟩
 |false=>
  rw[f1]at g;cases f2:jq l wO with
  |true=>
   rw[f2]at q
   have z:PN (firstT l=oK l):=by
    show firstT l=_;rw[x,f1,f2];rfl
   obtain⟨t,cT,y⟩: ∃t:T1,(∀w,gI w->Calls prog 110 #[.string s] w fun e w'=>e= .returned (.tuple #[.agg #[ag t.kind,ag t.n,ag 0,.string ⟨t.text.toArray⟩],ag (t.len:Int),ag t.err])/\aq w w')/\PN (oK l=t):=⟨oK l,fun w _hT=>Gk s l A F f2 w,rfl⟩
   clear x;go_enter func82,ntmps82
   go_wp2_with(first
    |(go_at_call 108;have _t:=g;refine(g _).mono ?_;rintro e D ⟨rfl,d⟩;have m:=ai d v;have a:=aw k d;clear _t g d v k)
    |(go_at_call 108;refine(q _).mono ?_;rintro e H ⟨rfl,i⟩;have u:=ai i m;have b:=aw a i;clear i m a)
    |(go_at_call 110;refine(cT _ (r.o.below b)).mono ?_;rintro e E ⟨rfl,f⟩;have p:=ai f u;have j:=aw b f;clear f u b)
    |(refine ay rfl 160 _ _ rfl _ _ rfl rfl _ _ p (by kernel_rfl) (by simp) (by simp[Value.oneCell']) ?_))
   exact fT (by rw[results82,results112]) w.heap.size t rfl rfl rfl rfl (aL _ _ _ _ _ _ p) ⟨by rw[z.o,y.o],below_setRow j (aB _) _⟩
  |false=>
   rw[f2]at q;cases f3:isD c with
   |true=>
    rw[f3]at B
    have z:PN (firstT l=mx l):=by
     show firstT l=_;rw[x,f1,f2,f3];rfl
    obtain⟨t,cT,y⟩: ∃t:T1,(∀w,gI w->Calls prog 112 #[.string s] w fun e w'=>e= .returned (.tuple #[.agg #[ag t.kind,ag t.n,ag 0,.string ⟨t.text.toArray⟩],ag (t.len:Int),ag t.err])/\aq w w')/\PN (mx l=t):=⟨mx l,fun w _hT=>Ep s l A F w,rfl⟩
    clear x;go_enter func82,ntmps82
    go_wp2_with(first
     |(go_at_call 108;have _t:=g;refine(g _).mono ?_;rintro e D ⟨rfl,d⟩;have m:=ai d v;have a:=aw k d;clear _t g d v k)
     |(go_at_call 108;refine(q _).mono ?_;rintro e H ⟨rfl,i⟩;have u:=ai i m;have b:=aw a i;clear i m a)
     |(go_at_call 111;refine(B _).mono ?_;rintro e w' ⟨rfl,rfl⟩)
     |(go_at_call 112;refine(cT _ (r.o.below b)).mono ?_;rintro e E ⟨rfl,f⟩;have p:=ai f u;have j:=aw b f;clear f u b)
     |(refine ay rfl 160 _ _ rfl _ _ rfl rfl _ _ p (by kernel_rfl) (by simp) (by simp[Value.oneCell']) ?_))
    exact fT (by rw[results82,results112]) w.heap.size t rfl rfl rfl rfl (aL _ _ _ _ _ _ p) ⟨by rw[z.o,y.o],below_setRow j (aB _) _⟩
   |false=>
    rw[f3]at B;cases f4:isL c with
    |true=>
     rw[f4]at C
     have z:PN (firstT l=kQ l):=by
      show firstT l=_;rw[x,f1,f2,f3,f4];rfl
     obtain⟨t,cT,y⟩: ∃t:T1,(∀w,gI w->Calls prog 114 #[.string s] w fun e w'=>e= .returned (.tuple #[.agg #[ag t.kind,ag t.n,ag 0,.string ⟨t.text.toArray⟩],ag (t.len:Int),ag t.err])/\aq w w')/\PN (kQ l=t):=⟨kQ l,fun w _hT=>Jc s l A F w,rfl⟩
     clear x;go_enter func82,ntmps82
     go_wp2_with(first
      |(go_at_call 108;have _t:=g;refine(g _).mono ?_;rintro e D ⟨rfl,d⟩;have m:=ai d v;have a:=aw k d;clear _t g d v k)
      |(go_at_call 108;refine(q _).mono ?_;rintro e H ⟨rfl,i⟩;have u:=ai i m;have b:=aw a i;clear i m a)
      |(go_at_call 111;refine(B _).mono ?_;rintro e w' ⟨rfl,rfl⟩)
      |(go_at_call 113;refine(C _).mono ?_;rintro e w' ⟨rfl,rfl⟩)
      |(go_at_call 114;refine(cT _ (r.o.below b)).mono ?_;rintro e E ⟨rfl,f⟩;have p:=ai f u;have j:=aw b f;clear f u b)
      |(refine ay rfl 160 _ _ rfl _ _ rfl rfl _ _ p (by kernel_rfl) (by simp) (by simp[Value.oneCell']) ?_))
     exact fT (by rw[results82,results112]) w.heap.size t rfl rfl rfl rfl (aL _ _ _ _ _ _ p) ⟨by rw[z.o,y.o],below_setRow j (aB _) _⟩
    |false=>
     rw[f4]at C
     have z:PN (firstT l=j8 l):=by
      show firstT l=_;rw[x,f1,f2,f3,f4];rfl
     obtain⟨t,cT,y⟩: ∃t:T1,(∀w,gI w->Calls prog 115 #[.string s] w fun e w'=>e= .returned (.tuple #[.agg #[ag t.kind,ag t.n,ag 0,.string ⟨t.text.toArray⟩],ag (t.len:Int),ag t.err])/\aq w w')/\PN (j8 l=t):=⟨j8 l,fun w _hT=>Jg s l A G w,rfl⟩
     clear x;go_enter func82,ntmps82
     go_wp2_with(first
      |(go_at_call 108;have _t:=g;refine(g _).mono ?_;rintro e D ⟨rfl,d⟩;have m:=ai d v;have a:=aw k d;clear _t g d v k)
      |(go_at_call 108;refine(q _).mono ?_;rintro e H ⟨rfl,i⟩;have u:=ai i m;have b:=aw a i;clear i m a)
      |(go_at_call 111;refine(B _).mono ?_;rintro e w' ⟨rfl,rfl⟩)
      |(go_at_call 113;refine(C _).mono ?_;rintro e w' ⟨rfl,rfl⟩)
      |(go_at_call 115;refine(cT _ (r.o.below b)).mono ?_;rintro e E ⟨rfl,f⟩;have p:=ai f u;have j:=aw b f;clear f u b)
      |(refine ay rfl 160 _ _ rfl _ _ rfl rfl _ _ p (by kernel_rfl) (by simp) (by simp[Value.oneCell']) ?_))
     exact fT (by rw[results82,results112]) w.heap.size t rfl rfl rfl rfl (aL _ _ _ _ _ _ p) ⟨by rw[z.o,y.o],below_setRow j (aB _) _⟩
theorem Lo {p:UInt8->Bool}: ∀{l:List UInt8},0<l.length->p (l.getD 0 0)=true->1<=gO p l
 |[],h,_=>by simp at h
 |c::l,_,h=>by
  have a:p c=true:=(by simpa using h);simp[gO,a]
theorem CL: ∀{l:List UInt8},0<l.length->isL (l.getD 0 0)=true->1<=wordLen l
 |[],h,_=>by simp at h
 |c::l,_,h=>by
  have a:isL c=true:=(by simpa using h);simp[wordLen,a]
structure Ph (l:List UInt8)(t:T1):Prop where
 pos:1<=t.len
 le:t.len<=l.length
 text:t.text=l.take t.text.length
 tle:t.text.length<=t.len
theorem wU (l:List UInt8)(k:0<l.length)(a:(firstT l).err=0):Ph l (firstT l):=by
 unfold firstT at a⊢;split at a
 ·rename_i j;rw[aD j];have b:=(qf j).1;have m:10<=l.length:=b;unfold lg at a⊢;split at a
  ·rename_i h;rw[aD h];exact⟨by simp,m,by simp,by simp⟩
  ·simp[bad]at a
 ·rename_i j;rw[ax j];split at a
  ·rename_i d;rw[aD d];have b:=(qf d).1;have o:5<=l.length:=b;unfold oK at a⊢;split at a
   ·simp[bad]at a
   ·rename_i h;rw[ax h];exact⟨by simp,o,by simp,by simp⟩
  ·rename_i d;rw[ax d];split at a
   ·rename_i i;rw[aD i];unfold mx at a⊢;split at a
    ·simp[bad]at a
    ·rename_i h;rw[ax h];exact⟨Lo k i,lL _ l,by simp,by simp⟩
   ·rename_i i;rw[ax i];split at a
    ·rename_i g;rw[aD g];have f:=wH l;unfold kQ at a⊢;split at a
     ·simp[bad]at a
     ·rename_i h;rw[ax h];exact⟨CL k g,f,by simp[fj f],by simp;omega⟩
    ·rename_i g;rw[ax g];unfold j8 at a⊢;split at a
     ·rename_i e;rw[aD e]
      have n:[46,46]<+:l:=by
       unfold Lib.hasPrefix at e;exact List.isPrefixOf_iff_prefix.1 e
      obtain⟨r,rfl⟩:=n;exact⟨by simp,by simp,by simp,by simp⟩
     ·rename_i e;rw[ax e];split at a
      ·simp[bad]at a
      ·rename_i h;rw[ax h];match l,k with
       |c::r,_=>exact⟨by simp,by simp,by simp,by simp⟩
def lF (l:List UInt8):Nat->Option (List (T1×Nat)×Nat)
 |0=>some ([],0+eQ false (l.drop 0))
 |n+1=>match lF l n with
  |none=>none
  |some (a,k)=>if k<l.length/\(firstT (l.drop k)).err=0 then some (a++[(firstT (l.drop k),k)],k+(firstT (l.drop k)).len+eQ false (l.drop (k+(firstT (l.drop k)).len))) else none
def fG (l:List UInt8)(a:List (T1×Nat))(k:Nat):Prop:= ∃n,lF l n=some (a,k)
theorem fG.start {l:List UInt8}:fG l [] (0+eQ false (l.drop 0)):=⟨0,rfl⟩
theorem fG.step {l:List UInt8}{a:List (T1×Nat)}{k:Nat}(h:fG l a k)(c:k<l.length)(b:(firstT (l.drop k)).err=0):fG l (a++[(firstT (l.drop k),k)]) (k+(firstT (l.drop k)).len+eQ false (l.drop (k+(firstT (l.drop k)).len))):=by
 obtain⟨n,d⟩:=h;exact⟨n+1,by simp only[lF,d];rw[aD ⟨c,b⟩]⟩
theorem fG.ind {l:List UInt8}{M:List (T1×Nat)->Nat->Prop}(e:M [] (0+eQ false (l.drop 0)))
  (g: ∀(b:List (T1×Nat)) (k:Nat),fG l b k->k<l.length->(firstT (l.drop k)).err=0->M b k->M (b++[(firstT (l.drop k),k)]) (k+(firstT (l.drop k)).len+eQ false (l.drop (k+(firstT (l.drop k)).len)))):
  ∀(n:Nat) {b:List (T1×Nat)} {k:Nat},lF l n=some (b,k)->M b k
 |0,b,k,a=>by
  simp only[lF]at a;obtain⟨rfl,rfl⟩:=Prod.mk.inj (aN a);exact e
 |n+1,b,k,a=>by
  simp only[lF]at a;split at a
  ·cases a
  ·rename_i d i c;split at a
   ·rename_i f;obtain⟨rfl,rfl⟩:=Prod.mk.inj (aN a);exact g d i ⟨n,c⟩ f.1 f.2 (fG.ind e g n c)
   ·cases a
theorem vH {l:List UInt8}{k:Nat}(h:k<l.length):0<(l.drop k).length:=by simp;omega
theorem fG.le {l:List UInt8}{a:List (T1×Nat)}{k:Nat}(h:fG l a k):k<=l.length/\a.length<=k:=by
 obtain⟨n,e⟩:=h;refine fG.ind (M:=fun a k=>k<=l.length/\a.length<=k) ?_ ?_ n e
 ·have:=od false (l.drop 0);simp at this⊢;omega
 ·intro a k _ d c i;have f:=wU _ (vH d) c;have:=od false (l.drop (k+(firstT (l.drop k)).len));have g:=f.pos;have b:=f.le;simp at this b⊢;omega
theorem EE (s:ByteArray)(l:List UInt8)(c:s.data.toList=l)(w:World):
  Calls prog 107 #[.string s] w fun e w'=>e= .returned (ag (remL l:Int))/\w'=w:=by
 have g:s.size=l.length:=by rw[<-c,Lib.size_eq]
 have a:=fun w=>zl s 10 w;have b:(10:Int).toNat.toUInt8=10:=by decide
 rw[c,b,zj]at a;have d:remL l<=l.length:=lL _ l;by_cases h:remL l<l.length
 ·rw[aD h]at a;have f:(0:Int)<=(remL l:Int):=(by omega);go_enter func107,ntmps107;go_wp2_with(go_at_call 133;refine(a _).mono ?_;rintro e w' ⟨rfl,rfl⟩)
  go_ret;exact⟨rfl,rfl⟩
 ·rw[ax h]at a;have e:remL l=l.length:=(by omega);rw[e];go_enter func107,ntmps107;go_wp2_with(go_at_call 133;refine(a _).mono ?_;rintro e w' ⟨rfl,rfl⟩)
  go_ret;exact⟨rfl,rfl⟩
theorem Bc (s:ByteArray)(l:List UInt8)(C:s.data.toList=l)(S:l.length<=9223372036854775806)(f r:Nat)(z:f<=l.length)(H:f+eQ false (l.drop f)=r)(w:World):
  Calls prog 81 #[.string s,ag (f:Int)] w fun e w'=>e= .returned (ag (r:Int))/\w'=w:=by
 have N:s.size=l.length:=by rw[<-C,Lib.size_eq]
 have J:PN (f+eQ false (l.drop f)=r):=H;clear H;go_enter func81,ntmps81;go_wp2;go_loop [1] (fun i=> ∃k:Nat,k<=l.length/\i=ag k/\r=k+eQ false (l.drop k)) (fun i=>l.length-(intOf i).toNat);case atStart=>exact⟨f,z,rfl,J.o.symm⟩
 case round=>
  obtain⟨k,R,rfl,hinv⟩:=hrel;have q:PN (r=k+eQ false (l.drop k)):=hinv;clear hinv;by_cases L:k<l.length
  ·have x:(k:Int)<(l.length:Int):=(by omega);have K:(0:Int)<=(k:Int):=(by omega);have P: ∀h:k<s.size,s[k]=l.getD k 0:=fun h=>lC C k h;have A:(l.drop k).getD 0 0=l.getD k 0:=(by simp[List.getElem?_drop]);have u:0<(l.drop k).length:=(by simp;omega);have m: ∀n,(l.drop k).drop n=l.drop (k+n):=fun n=>(by rw[List.drop_drop]);have a:=Eo (l.drop k) u;have b:=Ga (l.drop k) u;have d:=Gb (l.drop k);rw[A]at a b d;rw[m]at a b;have cr:=fun w=>EE (s.extract k s.size) (l.drop k) (by rw[Lib.extract_data,C];exact cQ (by simp;omega)) w;have B:remL (l.drop k)<=(l.drop k).length:=lL _ _;simp only[fo]at B;rw[N]at cr;generalize Q:l.getD k 0=c at*;generalize remL (l.drop k)=n at*;by_cases p:c.toNat=32\/c.toNat=9\/c.toNat=10
   ·have t:=a p;have g:PN (eQ false (l.drop k)=1+eQ false (l.drop (k+1))):=t;clear t a b d cr m;rcases(show c.toNat=32\/(c.toNat≠32/\c.toNat=9)\/(c.toNat≠32/\c.toNat≠9/\c.toNat=10) from by omega) with y|⟨F,y⟩|⟨F,G,y⟩
    ·have E:((c.toNat:Int)==32)=true:=(by simp;omega);clear p y;go_wp2;go_round;case rel=>exact⟨k+1,by omega,by go_num,by have:=q.o;have:=g.o;omega⟩
     case measure=>simp[intOf];omega
    ·have I:((c.toNat:Int)==32)=false:=(by simp;omega);have E:((c.toNat:Int)==9)=true:=(by simp;omega);clear p y F;go_wp2;go_round;case rel=>exact⟨k+1,by omega,by go_num,by have:=q.o;have:=g.o;omega⟩
     case measure=>simp[intOf];omega
    ·have I:((c.toNat:Int)==32)=false:=(by simp;omega);have D:((c.toNat:Int)==9)=false:=(by simp;omega);have E:((c.toNat:Int)==10)=true:=(by simp;omega);clear p y F G;go_wp2;go_round;case rel=>exact⟨k+1,by omega,by go_num,by have:=q.o;have:=g.o;omega⟩
     case measure=>simp[intOf];omega
   ·have I:((c.toNat:Int)==32)=false:=(by simp;omega);have D:((c.toNat:Int)==9)=false:=(by simp;omega);have E:((c.toNat:Int)==10)=false:=(by simp;omega);by_cases j:c.toNat=35
    ·obtain⟨t,M⟩:=b j;have g:PN (eQ false (l.drop k)=n+eQ false (l.drop (k+n))):=t;have O:((c.toNat:Int)==35)=true:=(by simp;omega);clear t a b d p j m;go_wp2_with(go_at_call 107;refine(cr _).mono ?_;rintro e w' ⟨rfl,rfl⟩)
     go_round;case rel=>exact⟨k+n,by omega,by go_num,by have:=q.o;have:=g.o;omega⟩
     case measure=>simp[intOf];omega
    ·have g:PN (eQ false (l.drop k)=0):=d fun _=>⟨p,j⟩
     have O:((c.toNat:Int)==35)=false:=(by simp;omega);clear a b d p j cr m;go_wp2;go_ret;exact⟨by rw[show r=k from by have:=q.o;have:=g.o;omega];rfl,rfl⟩
  ·have v:k=l.length:=(by omega)
   have g:PN (eQ false (l.drop k)=0):=by
    rw[v,List.drop_length];exact rfl
   have x: ¬(k:Int)<(l.length:Int):=(by omega);clear v;go_wp2;go_ret;exact⟨by rw[show r=k from by have:=q.o;have:=g.o;omega];rfl,rfl⟩
def kB:List (T1×Nat)->List Value
 |[]=>[]
 |p::l=>ag p.1.kind::ag p.1.n::ag (p.2:Int):: .string ⟨p.1.text.toArray⟩::kB l
theorem wV (t:T1)(k:Nat): ∀l:List (T1×Nat),kB (l++[(t,k)])=kB l++[ag t.kind,ag t.n,ag (k:Int),.string ⟨t.text.toArray⟩]
 |[]=>rfl
 |s::l=>by simp[kB,wV t k l]
theorem Lp:(prog.info? 160).map (fun i=>(i.zero,i.size,i.bytes))=some (some (.agg #[ag 0,ag 0,ag 0,.string ⟨#[]⟩]),4,40):=by kernel_rfl
theorem Jh:prog.underlying 120=some (.slice 160):=by kernel_rfl
theorem EF {w w':World}{a:Nat}{e:TypeId}{size:Nat}{v:Value}{n:Nat}{xs:List Value}(h:w.ownsRow a e size v n xs)(i:aq w w'):w'.ownsRow a e size v n xs:=by
 obtain⟨f,c⟩:=h;refine⟨f,?_⟩;rcases c with c|⟨g,cap,b,k,j,d,r⟩
 ·exact .inl c
 ·exact .inr ⟨g,cap,b,k,j,(i.block g (aH d)).trans d,r⟩
theorem zn {w:World}{a:Nat}{e:TypeId}{size:Nat}{v:Value}{n:Nat}{xs:List Value}(h:w.ownsRow a e size v n xs){k:Nat}{c:Array Value}{t:TypeId}(d:w.heap[k]? =ah c t)(l:t≠e):v.ownBlock≠some k:=by
 obtain⟨_,b⟩:=h;rcases b with⟨b,_⟩|⟨g,cap,f,m,o,j,r⟩
 ·subst b;simp[Value.ownBlock]
 ·subst m;intro i;have e2:g=k:=(by simpa[Value.ownBlock] using i);subst e2;rw[j]at d;exact l (Obj.cells.inj (aN d)).2.1.symm
def jD (l:List UInt8)(a:Nat)(w:World)(v:Value)(er at_:Int):Prop:=
 (6000<l.length/\v=af/\er=4/\at_=0)\/
 (∃(b:List (T1×Nat)) (k:Nat),l.length<=6000/\fG l b k/\k<l.length/\(firstT (l.drop k)).err≠0/\v=af/\er=(firstT (l.drop k)).err/\at_=(k:Int))\/
 (∃(b:List (T1×Nat)) (k:Nat),l.length<=6000/\fG l b k/\ ¬k<l.length/\w.ownsRow a 160 4 v b.length (kB b)/\er=0/\at_=0)
theorem jD.much {l:List UInt8}{a:Nat}{w:World}(h:6000<l.length):jD l a w (af) 4 0:= .inl ⟨h,rfl,rfl,rfl⟩
theorem jD.wrong {l:List UInt8}{a:Nat}{w:World}{b:List (T1×Nat)}{k:Nat}(c:l.length<=6000)(d:fG l b k)(f:k<l.length)(e:(firstT (l.drop k)).err≠0):jD l a w (af) (firstT (l.drop k)).err (k:Int):= .inr (.inl ⟨b,k,c,d,f,e,rfl,rfl,rfl⟩)
theorem jD.right {l:List UInt8}{a:Nat}{w:World}{b:List (T1×Nat)}{k:Nat}{v:Value}(c:l.length<=6000)(d:fG l b k)(e: ¬k<l.length)(f:w.ownsRow a 160 4 v b.length (kB b)):jD l a w v 0 0:= .inr (.inr ⟨b,k,c,d,e,f,rfl,rfl⟩)
theorem oX:prog.underlying 93=some (.struct (prog.fieldsOf 93)):=by kernel_rfl
theorem vI {R:Ending->World->Prop}{a:Act}{w:World}(g:Nat)(v:Value)(er at_:Int)(i:a.defers=[])(d:a.tmps.getD 2 undef=v)(e:a.tmps.getD 3 undef=ab g 0)
  (j:w.heap[g]? =ah #[ag er,ag at_] 93) (f:R (.returned (.tuple #[v,.agg #[ag er,ag at_]])) w):bodyPost prog f56 R .ret a w:=by
 refine aW (v:= .tuple #[v,.agg #[ag er,ag at_]]) ?_ i f;have b:a.tmps[2]?.getD undef=v:=by simpa using d
 have c:a.tmps[3]?.getD undef=ab g 0:=by simpa using e
 have k:=dX (P:=prog) w g 93 93 _ _ _ j oX rfl (by kernel_rfl);simp[results,results56,b,c,asAddr,k]
theorem CM {w:World}{a:Nat}{e:TypeId}{size:Nat}{v:Value}{n:Nat}{xs:List Value}(h:w.ownsRow a e size v n xs){g:Nat}(l:v.ownBlock≠some g)(f:Array Value):(w.setRow g f).ownsRow a e size v n xs:=by
 obtain⟨j,c⟩:=h;refine⟨j,?_⟩;rcases c with c|⟨i,cap,b,d,k,m,r⟩
 ·exact .inl c
 ·refine .inr ⟨i,cap,b,d,k,(aV _ _ _ _ fun e=>l ?_).trans m,r⟩;subst d;simp[Value.ownBlock,e]
theorem gI.later {w w':World}(h:gI w)(a:aq w w'):gI w':=h.below a
theorem Lq (s:ByteArray)(l:List UInt8)(Q:s.data.toList=l)(hl:l.length<=9223372036854775807)(w:World)(P:gI w):
  Calls prog 56 #[.string s] w fun e w'=>(∃v er at_,e= .returned (.tuple #[v,.agg #[ag er,ag at_]])/\jD l w.heap.size w' v er at_)/\aq w w':=by
 have hz:s.size=l.length:=by rw[<-Q,Lib.size_eq]
 obtain⟨i0,hi,Y,Z,aa⟩:=jp Lp;have J:aq w (w.alloc (.cells #[ag 0,ag 0] 93)):=am _ _;have h0:(w.alloc (.cells #[ag 0,ag 0] 93)).heap[w.heap.size]? =ah #[ag 0,ag 0] 93:=aE w _;by_cases hm:6000<l.length
 ·have W:(6000:Int)<(l.length:Int):=by omega
  go_enter func56,ntmps56;go_wp2;exact vI w.heap.size (af) 4 0 rfl rfl rfl (aE w _) ⟨⟨_,_,_,rfl,jD.much hm⟩,am _ _⟩
 ·have W: ¬(6000:Int)<(l.length:Int):=by omega
  have HT:PN (gI w):=P;clear P;have c0:=fun w=>Bc s l Q (by omega) 0 (0+eQ false (l.drop 0)) (by omega) rfl w;have O:=fG.start (l:=l);generalize K:0+eQ false (l.drop 0)=k0 at*;have HS:PN (fG l [] k0):=O;clear O K;go_enter func56,ntmps56;go_wp2_with(go_at_call 81;refine(c0 _).mono ?_;rintro e w' ⟨rfl,rfl⟩)
  go_loopw [4,5] (fun v i wr=> ∃(A:List (T1×Nat)) (k:Nat),i=ag k/\fG l A k/\wr.ownsRow w.heap.size 160 4 v A.length (kB A)/\wr.heap[w.heap.size]? =ah #[ag 0,ag 0] 93/\aq w wr) (fun _ i _=>l.length-(intOf i).toNat);case atStart=>exact⟨[],k0,rfl,HS.o,dc _ _ _ _,h0,J⟩
  case round=>
   obtain⟨A,k,rfl,q,c,F,b⟩:=hrel;clear h0 J HS c0;obtain⟨ac,ak⟩:=q.le;by_cases y:k<l.length
   ·have L:(k:Int)<(l.length:Int):=(by omega);have K:(0:Int)<=(k:Int):=(by omega);have ab:(k:Int)<=(l.length:Int):=(by omega);have cT: ∀w,gI w->Calls prog 82 #[.string (s.extract k l.length)] w fun e w'=>e= .returned (.tuple #[.agg #[ag (firstT (l.drop k)).kind,ag (firstT (l.drop k)).n,ag 0,.string ⟨(firstT (l.drop k)).text.toArray⟩],ag ((firstT (l.drop k)).len:Int),ag (firstT (l.drop k)).err])/\aq w w':=fun w P=>Gl (s.extract k l.length) (l.drop k) (by rw[Lib.extract_data,Q];exact cQ (by simp)) (by simp;omega) (vH y) w P;by_cases E:(firstT (l.drop k)).err=0
    ·have m:=wU _ (vH y) E;have M:=fG.step q y E;have ae:=m.pos;have X:=m.le;simp only[fo]at X;have I:=fun w=>Bc s l Q (by omega) (k+(firstT (l.drop k)).len) _ (by omega) rfl w;rw[E]at cT;generalize firstT (l.drop k)=t at*;generalize V:k+t.len+eQ false (l.drop (k+t.len))=k1 at*;have aj:k<k1:=(by omega);have HX:PN (fG l (A++[(t,k)]) k1):=M;have q1:IntKind.i64.wrap ((k:Int)+(t.len:Int))=((k+t.len:Nat):Int):=(by rw[bz];omega);clear M E m V q;obtain⟨kd,nn,B,tl,R⟩:=t;dsimp only at*
     go_wp2_with(first
      |(go_at_call 82;refine(cT _ (HT.o.later b)).mono ?_;rintro e S ⟨rfl,f⟩;have g:=ai f F;have d:=EF c f;have a:=aw b f;clear F c b f cT)
      |(at_builtin;refine iZ _ rfl _ _ 120 rfl w.heap.size 160 i0 (.agg #[ag 0,ag 0,ag 0,.string ⟨#[]⟩]) 4 40 Jh hi Y Z aa rfl (by decide) u4 A.length (kB A) rfl ((d.alloc _).alloc _) ⟨S.heap.size+1,0,none⟩ 1 1 [ag kd,ag nn,ag (k:Int),.string ⟨B.toArray⟩] rfl rfl ?c1 ?c2 ?c3 ?c4 ?c5 ?_))
     case c1=>
      intro j u x;match j,x with
      |0,x=>simp at x;subst x;simp[Addr.add]
      |1,x=>simp at x;subst x;simp[Addr.add]
      |2,x=>simp at x;subst x;simp[Addr.add]
      |3,x=>simp at x;subst x;simp[Addr.add]
     case c2=>intro u hu;simp at hu;rcases hu with rfl|rfl|rfl|rfl<;>rfl
     case c3=>unfold maxLen;omega
     case c4=>omega
     case c5=>have:=a.size;simp;omega
     ·intro v' w2 z p _
      have H:w2.ownsRow w.heap.size 160 4 v' (A++[((⟨kd,nn,B,tl,R⟩:T1),k)]).length (kB (A++[((⟨kd,nn,B,tl,R⟩:T1),k)])):=by
       rw[wV];simp only[aP,bJ,gK,bN];exact z
      have lf:=aH g;have r:=(dL S (.cells #[ag kd,ag nn,ag (k:Int),.string ⟨B.toArray⟩] 160) _ lf).trans g;have G:=(dL _ (.cells #[ag kd,ag nn,ag (k:Int),.string ⟨B.toArray⟩] 160) _ (aH r)).trans r;have U:=(p.block _ (aH G) (fun e=>zn d g (by decide) e.symm)).trans G;have C:aq w w2:=((a.alloc a.size _).alloc (by have:=a.size;simp;omega) _).grown p (by have:=a.size;simp;omega) (fun k hk=>(d.lt k hk).1);clear z p d g a r G lf;go_wp2_with(go_at_call 81;refine(I _).mono ?_;rintro e w' ⟨rfl,rfl⟩)
      go_roundw;case rel=>exact⟨_,k1,rfl,HX.o,H,U,C⟩
      case measure=>
       have:=HX.o.le;simp[intOf];omega
    ·have ad:((firstT (l.drop k)).err !=0)=true:=(by simpa using E);have T: ∀w',PN (jD l w.heap.size w' (af) (firstT (l.drop k)).err (k:Int)):=fun w'=>jD.wrong (by omega) q y E;clear E q c;generalize firstT (l.drop k)=t at*;obtain⟨kd,nn,B,tl,R⟩:=t;dsimp only at*
     go_wp2_with(first
      |(go_at_call 82;refine(cT _ (HT.o.later b)).mono ?_;rintro e S ⟨rfl,f⟩;have g:=ai f F;have a:=aw b f;have r:=(dL S (.cells #[ag kd,ag nn,ag 0,.string ⟨B.toArray⟩] 160) _ (aH g)).trans g;have D:=a.alloc a.size (.cells #[ag kd,ag nn,ag 0,.string ⟨B.toArray⟩] 160);clear F b f cT g)
      |(refine ay rfl 93 _ _ rfl _ _ rfl rfl _ _ r (by kernel_rfl) (by simp) (by simp[Value.oneCell']) ?_))
     exact vI w.heap.size (af) R (k:Int) rfl rfl rfl (aL _ _ _ _ _ _ r) ⟨⟨_,_,_,rfl,(T _).o⟩,below_setRow D (aB _) _⟩
   ·have N:=zn c F (by decide);have T: ∀I,PN (jD l w.heap.size (wr.setRow w.heap.size I) u4 0 0):=fun I=>jD.right (by omega) q y (CM c N I);have L: ¬(k:Int)<(l.length:Int):=(by omega);clear q c N;go_wp2_with(refine ay rfl 93 _ _ rfl _ _ rfl rfl _ _ F (by kernel_rfl) (by simp) (by simp[Value.oneCell']) ?_)
    exact vI w.heap.size u4 0 0 rfl rfl rfl (aL _ _ _ _ _ _ F) ⟨⟨_,_,_,rfl,(T _).o⟩,below_setRow b (aB _) _⟩
end Go.Proofs.YtaoljfdfhggbbaaGreatDoor
