/- Texts of the proof. -/
import Derived.Test.YtlkehieagdkgiaaGreatDoorPe04
import Derived.Lib.Walk
import Derived.Lib.BufferWrite
import Derived.Test.YtlkehieagdkgiaaGreatDoorPe01
set_option maxRecDepth 100000
set_option maxHeartbeats 8000000
namespace Go.Proofs.YtlkehieagdkgiaaGreatDoor
open Go.Proofs.Tryz Go.RowKit Lx Vx Mx Msk
theorem Kg:(prog.info? 5).map (fun i=>(i.zero,i.size,i.bytes))=some (some (.int .u8 0),1,1):=by kernel_rfl
theorem Az:prog.underlying 231=some (.slice 5):=by kernel_rfl
theorem Hk:prog.underlying 232=some (.pointer 5):=by kernel_rfl
theorem Fu (s:ByteArray)(w:World)(v:s.size<=1000000):
  Calls prog 149 #[.string s] w fun e w'=>e= .returned (.string s)/\aq w w':=by
 by_cases u:s.size=0
 ·have C:s=⟨#[]⟩:=by
   apply ByteArray.ext;exact Array.eq_empty_of_size_eq_zero u
  subst C;go_enter func149,ntmps149;go_wp2;go_ret;exact⟨rfl,aH _ _⟩
 ·obtain⟨y,hi,r,d,t⟩:=jw Kg;have a:(prog.info? 5).map (·.size)=some 1:=(by rw[hi];simp[d]);have n:prog.cellsOf 5=1:=(by kernel_rfl);obtain⟨M,f⟩: ∃M,M=madeCells (Value.int .u8 0).cells (((s.size:Nat):Int).toNat*y.size):=⟨_,rfl⟩
  have z:M.size=s.size:=(by rw[f,size_madeCells,d];simp)
  have B: ∀W:World,(Instr.makeSlice 231 (ag (s.size:Int)) (ag (s.size:Int))).run prog W= .ok (.slice (some (ae W.heap.size 0)) s.size s.size) (W.alloc (.cells M 5)):=fun W=>by
   have h:=run_make (P:=prog) W 231 5 y (.int .u8 0) Az hi r .i64 .i64 (s.size:Int) (s.size:Int) (by omega) (by omega) (by rw[t];omega) (by omega);rw[<-f]at h;simpa using h
  clear f;have o:=Lib.run_copy_row_string (P:=prog) (w.alloc (.cells M 5)) 231 9 3 5 w.heap.size 0 s.size s.size s M 5 Az a (aG w _) (aD _) (by omega);obtain⟨Y,i⟩: ∃Y,Y=(M.toList.take 0++Lib.byteCells s.data.toList++M.toList.drop (0+s.size)).toArray:=⟨_,rfl⟩
  rw[<-i]at o
  have b:Y.toList=Lib.byteCells s.data.toList:=by
   rw[i,List.toList_toArray,List.take_zero,List.nil_append,dq (by rw[df];omega),gH]
  have A:Y.size=s.size:=(by rw[<-df,b,Lib.byteCells_length,<-Lib.size_eq]);have c:((w.alloc (.cells M 5)).setRow w.heap.size Y).heap[w.heap.size]? =ah Y 5:=aL _ _ M _ 5 (0,0) (aG w _);have q:s.data.toList≠[]:=fun e=>u (by rw[Lib.size_eq,e];rfl)
  have g:=Lib.run_unsafeString_row (P:=prog) ((w.alloc (.cells M 5)).setRow w.heap.size Y) 232 3 9 5 Hk n w.heap.size Y.size (by unfold World.shape?;rw[c]) s.data.toList q (by rw[<-Lib.size_eq];omega) (by rw[<-Lib.size_eq];omega)
   (fun j x D=>Lib.cells_of_row c Y.size j _ (by rw[dh (by rw[df];exact aD _),b];simp[Lib.byteCells,D]))
  rw[<-Lib.size_eq]at g;clear i;go_enter func149,ntmps149;go_wp2;go_ret;have l:aq w (w.alloc (.cells M 5)):=am w _;have m:Below w.heap.size (w.alloc (.cells M 5)) ((w.alloc (.cells M 5)).setRow w.heap.size Y):=⟨rfl,rfl,rfl,by simp,fun k E=>aW _ _ _ _ (by omega)⟩
  exact⟨rfl,Lib.below_freeze (l.trans m) (p:=⟨w.heap.size,0,none⟩) (aD _) _⟩
theorem Hl (s:ByteArray)(w:World)(a:s.size<=1000000):
  Calls prog 126 #[.string s] w fun e w'=>e= .returned (.string s)/\aq w w':=by
 go_enter func126,ntmps126;go_wp2_with(go_at_call 149;refine(Fu s _ a).mono ?_;rintro e w' ⟨rfl,b⟩)
 go_ret;exact⟨rfl,b⟩
theorem BY {w:World}{g:Nat}{c a:Array Value}{t:TypeId}(b:w.heap[g]? =ah c t)(e:c=a):w.heap[g]? =ah a t:=by rw[b,e]
theorem Kh (s:ByteArray)(l:List UInt8)(v:s.data.toList=l)(A:l.length<=9223372036854775806)(w:World):
  Calls prog 94 #[.string s] w fun e w'=>e= .returned (tb (kW l))/\aq w w':=by
 have E:s.size=l.length:=by rw[<-v,Lib.size_eq]
 have cl:=fun w=>vW s l v A w;have D:=xW l;have d:aq w (w.alloc (.cells #[ag 0,ag 0,ag 0,.string ⟨#[]⟩] 127)):=am _ _;have m:(w.alloc (.cells #[ag 0,ag 0,ag 0,.string ⟨#[]⟩] 127)).heap[w.heap.size]? =ah #[ag 0,ag 0,ag 0,.string ⟨#[]⟩] 127:=aG w _;have i:kW l=if 20<wordLen l then bad 7 else⟨if isWordL (l.take (wordLen l)) then 2 else 1,0,l.take (wordLen l),wordLen l,0⟩:=rfl;generalize wordLen l=k at*;by_cases q:20<k
 ·have j:Rb (kW l=bad 7):=by
   show kW l=_;rw[i,aB q]
  have y:(20:Int)<(k:Int):=(by omega);clear i m;go_enter func94,ntmps94;go_wp2_with(go_at_call 125;refine(cl _).mono ?_;rintro e w' ⟨rfl,rfl⟩)
  exact gy (by rw[results94,results92]) w.heap.size (bad 7) rfl rfl rfl rfl (aG w _) ⟨by rw[j.o],d⟩
 ·rw[ax q]at i;have y: ¬(20:Int)<(k:Int):=(by omega);have F:(0:Int)<=(k:Int):=(by omega);have G:(k:Int)<=(l.length:Int):=(by omega);have r:(s.extract 0 k).data.toList=l.take k:=(by rw[Lib.extract_data,v];simp);have x:(s.extract 0 k).size<=1000000:=(by rw[Lib.size_eq,r];simp;omega);have z:=fun w=>Hl (s.extract 0 k) w x;have t:=fun w=>yd (s.extract 0 k) (l.take k) r w;have g:=LX r;cases hW:isWordL (l.take k) with
  |true=>
   rw[hW]at t
   have j:Rb (kW l=⟨2,0,l.take k,k,0⟩):=by
    show kW l=_;rw[i,hW];rfl
   have u:Rb (s.extract 0 k=⟨(l.take k).toArray⟩):=g;clear i hW g r;go_enter func94,ntmps94
   go_wp2_with(first
    |(go_at_call 125;refine(cl _).mono ?_;rintro e w' ⟨rfl,rfl⟩)
    |(go_at_call 126;refine(z _).mono ?_;rintro e B ⟨rfl,b⟩;have n:=ai b m;have a:=aw d b;clear b m d)
    |(go_at_call 127;refine(t _).mono ?_;rintro e C ⟨rfl,c⟩;have p:=ai c n;have f:=aw a c;clear c n a)
    |(refine az rfl 127 _ _ rfl _ _ rfl rfl _ _ p (by kernel_rfl) (by simp) (by simp[Value.oneCell']) ?_))
   exact gy (by rw[results94,results92]) w.heap.size ⟨2,0,l.take k,k,0⟩ rfl rfl rfl rfl (BY (aL _ _ _ _ _ _ p) (by rw[u.o])) ⟨by rw[j.o],below_setRow f (aD _) _⟩
  |false=>
   rw[hW]at t
   have j:Rb (kW l=⟨1,0,l.take k,k,0⟩):=by
    show kW l=_;rw[i,hW];rfl
   have u:Rb (s.extract 0 k=⟨(l.take k).toArray⟩):=g;clear i hW g r;go_enter func94,ntmps94
   go_wp2_with(first
    |(go_at_call 125;refine(cl _).mono ?_;rintro e w' ⟨rfl,rfl⟩)
    |(go_at_call 126;refine(z _).mono ?_;rintro e B ⟨rfl,b⟩;have n:=ai b m;have a:=aw d b;clear b m d)
    |(go_at_call 127;refine(t _).mono ?_;rintro e C ⟨rfl,c⟩;have p:=ai c n;have f:=aw a c;clear c n a)
    |(refine az rfl 127 _ _ rfl _ _ rfl rfl _ _ p (by kernel_rfl) (by simp) (by simp[Value.oneCell']) ?_))
   exact gy (by rw[results94,results92]) w.heap.size ⟨1,0,l.take k,k,0⟩ rfl rfl rfl rfl (BY (aL _ _ _ _ _ _ p) (by rw[u.o])) ⟨by rw[j.o],below_setRow f (aD _) _⟩
def oT (y m d:Int):Int×Int:=if 1<=d/\d<=Cal.dim y m then(Cal.num y m d,0) else(0,3)
theorem Mz (y m d:Int)(w:World)(a:gT w):
  Calls prog 123 #[.agg #[ag y,ag m,ag d]] w fun e w'=>e= .returned (.tuple #[ag (oT y m d).1,ag (oT y m d).2])/\aq w w':=by
 unfold oT;by_cases h:1<=d/\d<=Cal.dim y m
 ·rw[aB h];exact Fz y m d w a h.1 h.2
 ·rw[ax h];exact Ho y m d w a (by omega)
def lz (l:List UInt8):T1:=if(oT (valL ((l.drop 0).take 4)) (valL ((l.drop 5).take 2)) (valL ((l.drop 8).take 2))).2=0 then⟨5,(oT (valL ((l.drop 0).take 4)) (valL ((l.drop 5).take 2)) (valL ((l.drop 8).take 2))).1,[],10,0⟩ else bad 3
theorem Kj (y m d:Int):(oT y m d).2=0\/(oT y m d).2=3:=by
 unfold oT;split<;>simp
theorem Kk (s:ByteArray)(l:List UInt8)(t:s.data.toList=l)(p:jx l xZ=true)(w:World)(g:gT w):
  Calls prog 89 #[.string s] w fun e w'=>e= .returned (tb (lz l))/\aq w w':=by
 have hz:s.size=l.length:=by rw[<-t,Lib.size_eq]
 obtain⟨a,_⟩:=qO p;have r:10<=l.length:=a;have R:(4:Int)<=(l.length:Int):=by omega
 have S:(7:Int)<=(l.length:Int):=by omega
 have L:(10:Int)<=(l.length:Int):=by omega
 obtain⟨T,E⟩:=mP p 0 4 (by decide) (by decide);obtain⟨U,G⟩:=mP p 5 2 (by decide) (by decide);obtain⟨V,H⟩:=mP p 8 2 (by decide) (by decide);have D:=fun w=>ni (s.extract 0 4) ((l.drop 0).take 4) (by rw[Lib.extract_data,t]) (by omega) E w;have C:=fun w=>ni (s.extract 5 7) ((l.drop 5).take 2) (by rw[Lib.extract_data,t]) (by omega) G w;have B:=fun w=>ni (s.extract 8 10) ((l.drop 8).take 2) (by rw[Lib.extract_data,t]) (by omega) H w;have J:lz l=if(oT (valL ((l.drop 0).take 4)) (valL ((l.drop 5).take 2)) (valL ((l.drop 8).take 2))).2=0 then⟨5,(oT (valL ((l.drop 0).take 4)) (valL ((l.drop 5).take 2)) (valL ((l.drop 8).take 2))).1,[],10,0⟩ else bad 3:=rfl;generalize valL ((l.drop 0).take 4)=y at*;generalize valL ((l.drop 5).take 2)=m at*;generalize valL ((l.drop 8).take 2)=d at*;have A:=fun w g=>Mz y m d w g;have f:=Kj y m d;generalize (oT y m d).1=c at*;generalize (oT y m d).2=ev at*;have z:Rb (lz l=if ev=0 then⟨5,c,[],10,0⟩ else bad 3):=J;clear J T U V E G H a p;have b:aq w (w.alloc (.cells #[ag 0,ag 0,ag 0,.string ⟨#[]⟩] 127)):=am _ _;have I:(w.alloc (.cells #[ag 0,ag 0,ag 0,.string ⟨#[]⟩] 127)).heap[w.heap.size]? =ah #[ag 0,ag 0,ag 0,.string ⟨#[]⟩] 127:=aG w _;have k:=g.below b;clear g;have g:=k;clear k;go_enter func89,ntmps89;go_wp2;generalize w.alloc (.cells #[ag 0,ag 0,ag 0,.string ⟨#[]⟩] 127)=X at*;refine dl (fun _ _ W=>aq X W) [kn 8 (.string s),kn 9 (.string (s.extract 0 4)),kn 10 (ag y),kn 11 (.string s),kn 12 (.string (s.extract 5 7)),kn 13 (ag m),kn 14 (.string s),kn 15 (.string (s.extract 8 10)),kn 16 (ag d),kn 17 (.agg #[ag y,ag m,ag d]),kn 18 (.tuple #[ag c,ag ev]),kn 7 (.tuple #[ag c,ag ev]),kn 19 (ag c),kn 20 (ag ev),kn 5 (ag c),kn 6 (ag ev)] (fun _=>(aH _ _).drew) (fun _ _ _ _ x h=>aw h x) (by kernel_rfl) (fun M φ W i Q F ll N O=> ?_) (fun M φ W P i=> ?_)
 ·simp only[kn,dX,aQ,aT,Act.put,aA,aK,aJ]at N;subst N;simp only[dn,Nat.reduceAdd]at O;dsimp only[kn,dy,eJ,dY,Act.put];and_intros;all_goals first|exact trivial|intro hw Z Y K j
  all_goals try (go_simp;with_reducible exact j _ _ ⟨rfl,aH _ _⟩)
  all_goals go_simp
  ·refine(D _).mono ?_;rintro e v ⟨rfl,rfl⟩;exact j _ _ ⟨rfl,aH _ _⟩
  ·refine(C _).mono ?_;rintro e v ⟨rfl,rfl⟩;exact j _ _ ⟨rfl,aH _ _⟩
  ·refine(B _).mono ?_;rintro e v ⟨rfl,rfl⟩;exact j _ _ ⟨rfl,aH _ _⟩
  ·refine(A _ (g.below i)).mono ?_;rintro e v ⟨rfl,x⟩;exact j _ _ ⟨rfl,x⟩
 ·simp only[kn,d8,aQ,aT,Act.put,aA,aK,aJ];have q:=ai i I;have n:=aw b i;clear P i I b D C B A;rcases f with f|f
  ·have u:Rb (lz l=⟨5,c,[],10,0⟩):=by
    show lz l=_;rw[z.o,aB f]
   subst f;go_wp2_with(refine az rfl 127 _ _ rfl _ _ rfl rfl _ _ q (by kernel_rfl) (by simp) (by simp[Value.oneCell']) ?_)
   exact gy (by rw[results89,results92]) w.heap.size ⟨5,c,[],10,0⟩ rfl rfl rfl rfl (aL _ _ _ _ _ _ q) ⟨by rw[u.o],below_setRow n (aD _) _⟩
  ·have u:Rb (lz l=bad 3):=by
    show lz l=_;rw[z.o,ax (by omega)]
   subst f;go_wp2_with(refine az rfl 127 _ _ rfl _ _ rfl rfl _ _ q (by kernel_rfl) (by simp) (by simp[Value.oneCell']) ?_)
   exact gy (by rw[results89,results92]) w.heap.size (bad 3) rfl rfl rfl rfl (aL _ _ _ _ _ _ q) ⟨by rw[u.o],below_setRow n (aD _) _⟩
theorem FA (s:ByteArray)(c:Int)(w:World):
  Calls prog 145 #[.string s,.int .u8 c] w fun e w'=>e= .returned (ag (Lib.indexByte s.data.toList c.toNat.toUInt8))/\w'=w:=by
 go_enter func145,ntmps145;go_wp2;rw[run_callFunc_extern func171 (by kernel_rfl) (by kernel_rfl) (by kernel_rfl) (e:=Extern.BytealgIndexByte.indexByte) (by kernel_rfl),Lib.run_indexByteString];simp only[Result.andThen];rw[Oper.upon_value];go_wp2;go_ret;exact⟨rfl,rfl⟩
theorem AA (s:ByteArray)(c:Int)(w:World):
  Calls prog 122 #[.string s,.int .u8 c] w fun e w'=>e= .returned (ag (Lib.indexByte s.data.toList c.toNat.toUInt8))/\w'=w:=by
 go_enter func122,ntmps122;go_wp2_with(go_at_call 145;refine(FA _ _ _).mono ?_;rintro e w' ⟨rfl,rfl⟩)
 go_ret;exact⟨rfl,rfl⟩
theorem FB (s p:ByteArray)(w:World):
  Calls prog 128 #[.string s,.string p] w fun e w'=>e= .returned (.bool (Lib.hasPrefix s.data.toList p.data.toList))/\w'=w:=by
 rw[<-Lib.hasPrefix_of_take,<-Lib.size_eq,<-Lib.size_eq];go_enter func128,ntmps128;go_wp2
 ·rename_i h;go_ret;refine⟨?_,rfl⟩;show Ending.returned (Value.bool ((s.extract 0 p.size).toList==p.toList))=_;rw[Lib.extract_toList,Lib.toList_data];simp[h]
 ·rename_i h;go_ret;refine⟨?_,rfl⟩;show Ending.returned (Value.bool false)=_;simp[h]
theorem Kl (s:ByteArray)(l:List UInt8)(r:s.data.toList=l)(B:0<l.length)(w:World):
  Calls prog 95 #[.string s] w fun e w'=>e= .returned (tb (ku l))/\aq w w':=by
 have C:s.size=l.length:=by rw[<-r,Lib.size_eq]
 have d:=fun w=>FB s ⟨#[46,46]⟩ w;rw[r]at d;have p:aq w (w.alloc (.cells #[ag 0,ag 0,ag 0,.string ⟨#[]⟩] 127)):=am _ _;cases hp:Lib.hasPrefix l [46,46] with
 |true=>
  have f:Rb (ku l=⟨3,0,[46,46],2,0⟩):=by
   show ku l=_;unfold ku;rw[hp];rfl
  rw[show(⟨#[46,46]⟩:ByteArray).data.toList=[46,46] from rfl,hp]at d;have b:aq w (w.alloc (.cells #[ag 3,ag 0,ag 0,.string ⟨#[46,46]⟩] 127)):=am _ _;clear hp;go_enter func95,ntmps95;go_wp2_with(go_at_call 128;refine(d _).mono ?_;rintro e w' ⟨rfl,rfl⟩)
  exact gy (by rw[results95,results92]) w.heap.size ⟨3,0,[46,46],2,0⟩ rfl rfl rfl rfl (aG w _) ⟨by rw[f.o],b⟩
 |false=>
  rw[show(⟨#[46,46]⟩:ByteArray).data.toList=[46,46] from rfl,hp]at d;have z: ∀h:0<s.size,s[0]=l.getD 0 0:=fun h=>lN r 0 h;have y:(0:Int)<(l.length:Int):=(by omega);have n:=fun w=>AA ⟨#[61,59,58,43,45,38,40,41,44]⟩ ((l.getD 0 0).toNat:Int) w;have t:(((l.getD 0 0).toNat:Int)).toNat.toUInt8=l.getD 0 0:=(by simp);rw[t,show(⟨#[61,59,58,43,45,38,40,41,44]⟩:ByteArray).data.toList=mc from rfl]at n;have k:=BW mc (l.getD 0 0);have v:Lib.indexByte mc (l.getD 0 0)<9:=k;have x:=Lib.indexByte_ge mc (l.getD 0 0);have a:=BX mc (l.getD 0 0)
  have m:ku l=if Go.Lib.indexByte mc (l.getD 0 0)<0 then bad 2 else⟨3,0,[l.getD 0 0],1,0⟩:=by
   unfold ku;rw[hp];rfl
  generalize A:l.getD 0 0=c at*;generalize Lib.indexByte mc c=i at*;clear hp k t;by_cases hi:i<0
  ·have f:Rb (ku l=bad 2):=by
    show ku l=_;rw[m,aB hi]
   clear m a;go_enter func95,ntmps95
   go_wp2_with(first
    |(go_at_call 128;refine(d _).mono ?_;rintro e w' ⟨rfl,rfl⟩)
    |(go_at_call 122;refine(n _).mono ?_;rintro e w' ⟨rfl,rfl⟩))
   exact gy (by rw[results95,results92]) w.heap.size (bad 2) rfl rfl rfl rfl (aG w _) ⟨by rw[f.o],p⟩
  ·have f:Rb (ku l=⟨3,0,[c],1,0⟩):=by
    show ku l=_;rw[m,ax hi]
   obtain⟨j,rfl⟩: ∃j:Nat,i=j:=⟨i.toNat,by omega⟩
   have u:=a j rfl;have q:j<9:=(by omega)
   have ex:(⟨#[61,59,58,43,45,38,40,41,44]⟩:ByteArray).extract j (j+1)=⟨#[c]⟩:=by
    apply LX (l:=[c]);rw[Lib.extract_data,show(⟨#[61,59,58,43,45,38,40,41,44]⟩:ByteArray).data.toList=mc from rfl,show j+1-j=1 by omega];have g:j<mc.length:=q;rw[bJ g]
    have:mc[j]=c:=by
     rw[<-u];simp[List.getD,g]
    simp[this]
   have D: ¬(j:Int)<0:=(by omega);have E:(0:Int)<=(j:Int):=(by omega);have F:(j:Int)<=9:=(by omega);have G:(j:Int)+1<=9:=(by omega);have b:aq w (w.alloc (.cells #[ag 3,ag 0,ag 0,.string ⟨#[c]⟩] 127)):=am _ _;clear m a hi u;go_enter func95,ntmps95
   go_wp2_with(first
    |(go_at_call 128;refine(d _).mono ?_;rintro e w' ⟨rfl,rfl⟩)
    |(go_at_call 122;refine(n _).mono ?_;rintro e w' ⟨rfl,rfl⟩))
   exact gy (by rw[results95,results92]) w.heap.size ⟨3,0,[c],1,0⟩ rfl rfl rfl rfl (aG w _) ⟨by rw[f.o],b⟩
def firstT (l:List UInt8):T1:=if jx l xZ then lz l else if jx l ya then pE l else if isD (l.getD 0 0) then mO l else if isL (l.getD 0 0) then kW l else ku l
theorem Hq (s:ByteArray)(l:List UInt8)(A:s.data.toList=l)(F:l.length<=9223372036854775806)(G:0<l.length)(w:World)(I:gT w):
  Calls prog 55 #[.string s] w fun e w'=>e= .returned (tb (firstT l))/\aq w w':=by
 have M:s.size=l.length:=by rw[<-A,Lib.size_eq]
 have J:(0:Int)<(l.length:Int):=by omega
 have K: ∀h:0<s.size,s[0]=l.getD 0 0:=fun h=>lN A 0 h;have k:aq w (w.alloc (.cells #[ag 0,ag 0,ag 0,.string ⟨#[]⟩] 127)):=am _ _;have v:(w.alloc (.cells #[ag 0,ag 0,ag 0,.string ⟨#[]⟩] 127)).heap[w.heap.size]? =ah #[ag 0,ag 0,ag 0,.string ⟨#[]⟩] 127:=aG w _;have r:Rb (gT w):=I;clear I;have g:=fun w=>BV s ⟨#[48,48,48,48,45,48,48,45,48,48]⟩ l xZ A rfl (by omega) (by decide) w;have q:=fun w=>BV s ⟨#[48,48,58,48,48]⟩ l ya A rfl (by omega) (by decide) w;have B:=fun w=>ma (l.getD 0 0) w;have C:=fun w=>yc (l.getD 0 0) w;have x:firstT l=if jx l xZ then lz l else if jx l ya then pE l else if isD (l.getD 0 0) then mO l else if isL (l.getD 0 0) then kW l else ku l:=rfl;generalize L:l.getD 0 0=c at*;cases f1:jx l xZ with
 |true=>
  rw[f1]at g
  have z:Rb (firstT l=lz l):=by
   show firstT l=_;rw[x,f1];rfl
  obtain⟨t,cT,y⟩: ∃t:T1,(∀w,gT w->Calls prog 89 #[.string s] w fun e w'=>e= .returned (.tuple #[.agg #[ag t.kind,ag t.n,ag 0,.string ⟨t.text.toArray⟩],ag (t.len:Int),ag t.err])/\aq w w')/\Rb (lz l=t):=⟨lz l,fun w _hT=>Kk s l A f1 w _hT,rfl⟩
  clear x;go_enter func55,ntmps55
  go_wp2_with(first
   |(go_at_call 88;have _t:=g;refine(g _).mono ?_;rintro e D ⟨rfl,d⟩;have m:=ai d v;have a:=aw k d;clear _t g d v k)
   |(go_at_call 89;refine(cT _ (r.o.below a)).mono ?_;rintro e E ⟨rfl,f⟩;have p:=ai f m;have j:=aw a f;clear f m a)
   |(refine az rfl 127 _ _ rfl _ _ rfl rfl _ _ p (by kernel_rfl) (by simp) (by simp[Value.oneCell']) ?_))
  exact gy (by rw[results55,results92]) w.heap.size t rfl rfl rfl rfl (aL _ _ _ _ _ _ p) ⟨by rw[z.o,y.o],below_setRow j (aD _) _⟩
 |false=>
  rw[f1]at g;cases f2:jx l ya with
  |true=>
   rw[f2]at q
   have z:Rb (firstT l=pE l):=by
    show firstT l=_;rw[x,f1,f2];rfl
   obtain⟨t,cT,y⟩: ∃t:T1,(∀w,gT w->Calls prog 90 #[.string s] w fun e w'=>e= .returned (.tuple #[.agg #[ag t.kind,ag t.n,ag 0,.string ⟨t.text.toArray⟩],ag (t.len:Int),ag t.err])/\aq w w')/\Rb (pE l=t):=⟨pE l,fun w _hT=>Hp s l A F f2 w,rfl⟩
   clear x;go_enter func55,ntmps55
   go_wp2_with(first
    |(go_at_call 88;have _t:=g;refine(g _).mono ?_;rintro e D ⟨rfl,d⟩;have m:=ai d v;have a:=aw k d;clear _t g d v k)
    |(go_at_call 88;refine(q _).mono ?_;rintro e H ⟨rfl,i⟩;have u:=ai i m;have b:=aw a i;clear i m a)
    |(go_at_call 90;refine(cT _ (r.o.below b)).mono ?_;rintro e E ⟨rfl,f⟩;have p:=ai f u;have j:=aw b f;clear f u b)
    |(refine az rfl 127 _ _ rfl _ _ rfl rfl _ _ p (by kernel_rfl) (by simp) (by simp[Value.oneCell']) ?_))
   exact gy (by rw[results55,results92]) w.heap.size t rfl rfl rfl rfl (aL _ _ _ _ _ _ p) ⟨by rw[z.o,y.o],below_setRow j (aD _) _⟩
  |false=>
   rw[f2]at q;cases f3:isD c with
   |true=>
    rw[f3]at B
    have z:Rb (firstT l=mO l):=by
     show firstT l=_;rw[x,f1,f2,f3];rfl
    obtain⟨t,cT,y⟩: ∃t:T1,(∀w,gT w->Calls prog 92 #[.string s] w fun e w'=>e= .returned (.tuple #[.agg #[ag t.kind,ag t.n,ag 0,.string ⟨t.text.toArray⟩],ag (t.len:Int),ag t.err])/\aq w w')/\Rb (mO l=t):=⟨mO l,fun w _hT=>Fs s l A F w,rfl⟩
    clear x;go_enter func55,ntmps55
    go_wp2_with(first
     |(go_at_call 88;have _t:=g;refine(g _).mono ?_;rintro e D ⟨rfl,d⟩;have m:=ai d v;have a:=aw k d;clear _t g d v k)
     |(go_at_call 88;refine(q _).mono ?_;rintro e H ⟨rfl,i⟩;have u:=ai i m;have b:=aw a i;clear i m a)
     |(go_at_call 91;refine(B _).mono ?_;rintro e w' ⟨rfl,rfl⟩)
     |(go_at_call 92;refine(cT _ (r.o.below b)).mono ?_;rintro e E ⟨rfl,f⟩;have p:=ai f u;have j:=aw b f;clear f u b)
     |(refine az rfl 127 _ _ rfl _ _ rfl rfl _ _ p (by kernel_rfl) (by simp) (by simp[Value.oneCell']) ?_))
    exact gy (by rw[results55,results92]) w.heap.size t rfl rfl rfl rfl (aL _ _ _ _ _ _ p) ⟨by rw[z.o,y.o],below_setRow j (aD _) _⟩
   |false=>
    rw[f3]at B;cases f4:isL c with
    |true=>
     rw[f4]at C
     have z:Rb (firstT l=kW l):=by
      show firstT l=_;rw[x,f1,f2,f3,f4];rfl
     obtain⟨t,cT,y⟩: ∃t:T1,(∀w,gT w->Calls prog 94 #[.string s] w fun e w'=>e= .returned (.tuple #[.agg #[ag t.kind,ag t.n,ag 0,.string ⟨t.text.toArray⟩],ag (t.len:Int),ag t.err])/\aq w w')/\Rb (kW l=t):=⟨kW l,fun w _hT=>Kh s l A F w,rfl⟩
     clear x;go_enter func55,ntmps55
     go_wp2_with(first
      |(go_at_call 88;have _t:=g;refine(g _).mono ?_;rintro e D ⟨rfl,d⟩;have m:=ai d v;have a:=aw k d;clear _t g d v k)
      |(go_at_call 88;refine(q _).mono ?_;rintro e H ⟨rfl,i⟩;have u:=ai i m;have b:=aw a i;clear i m a)
      |(go_at_call 91;refine(B _).mono ?_;rintro e w' ⟨rfl,rfl⟩)
      |(go_at_call 93;refine(C _).mono ?_;rintro e w' ⟨rfl,rfl⟩)
      |(go_at_call 94;refine(cT _ (r.o.below b)).mono ?_;rintro e E ⟨rfl,f⟩;have p:=ai f u;have j:=aw b f;clear f u b)
      |(refine az rfl 127 _ _ rfl _ _ rfl rfl _ _ p (by kernel_rfl) (by simp) (by simp[Value.oneCell']) ?_))
     exact gy (by rw[results55,results92]) w.heap.size t rfl rfl rfl rfl (aL _ _ _ _ _ _ p) ⟨by rw[z.o,y.o],below_setRow j (aD _) _⟩
    |false=>
     rw[f4]at C
     have z:Rb (firstT l=ku l):=by
      show firstT l=_;rw[x,f1,f2,f3,f4];rfl
     obtain⟨t,cT,y⟩: ∃t:T1,(∀w,gT w->Calls prog 95 #[.string s] w fun e w'=>e= .returned (.tuple #[.agg #[ag t.kind,ag t.n,ag 0,.string ⟨t.text.toArray⟩],ag (t.len:Int),ag t.err])/\aq w w')/\Rb (ku l=t):=⟨ku l,fun w _hT=>Kl s l A G w,rfl⟩
     clear x;go_enter func55,ntmps55
     go_wp2_with(first
      |(go_at_call 88;have _t:=g;refine(g _).mono ?_;rintro e D ⟨rfl,d⟩;have m:=ai d v;have a:=aw k d;clear _t g d v k)
      |(go_at_call 88;refine(q _).mono ?_;rintro e H ⟨rfl,i⟩;have u:=ai i m;have b:=aw a i;clear i m a)
      |(go_at_call 91;refine(B _).mono ?_;rintro e w' ⟨rfl,rfl⟩)
      |(go_at_call 93;refine(C _).mono ?_;rintro e w' ⟨rfl,rfl⟩)
      |(go_at_call 95;refine(cT _ (r.o.below b)).mono ?_;rintro e E ⟨rfl,f⟩;have p:=ai f u;have j:=aw b f;clear f u b)
      |(refine az rfl 127 _ _ rfl _ _ rfl rfl _ _ p (by kernel_rfl) (by simp) (by simp[Value.oneCell']) ?_))
     exact gy (by rw[results55,results92]) w.heap.size t rfl rfl rfl rfl (aL _ _ _ _ _ _ p) ⟨by rw[z.o,y.o],below_setRow j (aD _) _⟩
theorem MA {p:UInt8->Bool}: ∀{l:List UInt8},0<l.length->p (l.getD 0 0)=true->1<=g7 p l
 |[],h,_=>by simp at h
 |c::l,_,h=>by
  have a:p c=true:=(by simpa using h);simp[g7,a]
theorem DC: ∀{l:List UInt8},0<l.length->isL (l.getD 0 0)=true->1<=wordLen l
 |[],h,_=>by simp at h
 |c::l,_,h=>by
  have a:isL c=true:=(by simpa using h);simp[wordLen,a]
structure QG (l:List UInt8)(t:T1):Prop where
 pos:1<=t.len
 le:t.len<=l.length
 text:t.text=l.take t.text.length
 tle:t.text.length<=t.len
theorem yf (l:List UInt8)(k:0<l.length)(a:(firstT l).err=0):QG l (firstT l):=by
 unfold firstT at a⊢;split at a
 ·rename_i j;rw[aB j];have b:=(qO j).1;have m:10<=l.length:=b;unfold lz at a⊢;split at a
  ·rename_i h;rw[aB h];exact⟨by simp,m,by simp,by simp⟩
  ·simp[bad]at a
 ·rename_i j;rw[ax j];split at a
  ·rename_i d;rw[aB d];have b:=(qO d).1;have o:5<=l.length:=b;unfold pE at a⊢;split at a
   ·simp[bad]at a
   ·rename_i h;rw[ax h];exact⟨by simp,o,by simp,by simp⟩
  ·rename_i d;rw[ax d];split at a
   ·rename_i i;rw[aB i];unfold mO at a⊢;split at a
    ·simp[bad]at a
    ·rename_i h;rw[ax h];exact⟨MA k i,lY _ l,by simp,by simp⟩
   ·rename_i i;rw[ax i];split at a
    ·rename_i g;rw[aB g];have f:=xW l;unfold kW at a⊢;split at a
     ·simp[bad]at a
     ·rename_i h;rw[ax h];exact⟨DC k g,f,by simp[fg f],by simp;omega⟩
    ·rename_i g;rw[ax g];unfold ku at a⊢;split at a
     ·rename_i e;rw[aB e]
      have n:[46,46]<+:l:=by
       unfold Lib.hasPrefix at e;exact List.isPrefixOf_iff_prefix.1 e
      obtain⟨r,rfl⟩:=n;exact⟨by simp,by simp,by simp,by simp⟩
     ·rename_i e;rw[ax e];split at a
      ·simp[bad]at a
      ·rename_i h;rw[ax h];match l,k with
       |c::r,_=>exact⟨by simp,by simp,by simp,by simp⟩
def lR (l:List UInt8):Nat->Option (List (T1×Nat)×Nat)
 |0=>some ([],0+eZ false (l.drop 0))
 |n+1=>match lR l n with
  |none=>none
  |some (a,k)=>if k<l.length/\(firstT (l.drop k)).err=0 then some (a++[(firstT (l.drop k),k)],k+(firstT (l.drop k)).len+eZ false (l.drop (k+(firstT (l.drop k)).len))) else none
def fO (l:List UInt8)(a:List (T1×Nat))(k:Nat):Prop:= ∃n,lR l n=some (a,k)
theorem fO.start {l:List UInt8}:fO l [] (0+eZ false (l.drop 0)):=⟨0,rfl⟩
theorem fO.step {l:List UInt8}{a:List (T1×Nat)}{k:Nat}(h:fO l a k)(c:k<l.length)(b:(firstT (l.drop k)).err=0):fO l (a++[(firstT (l.drop k),k)]) (k+(firstT (l.drop k)).len+eZ false (l.drop (k+(firstT (l.drop k)).len))):=by
 obtain⟨n,d⟩:=h;exact⟨n+1,by simp only[lR,d];rw[aB ⟨c,b⟩]⟩
theorem fO.ind {l:List UInt8}{M:List (T1×Nat)->Nat->Prop}(e:M [] (0+eZ false (l.drop 0)))
  (g: ∀(b:List (T1×Nat)) (k:Nat),fO l b k->k<l.length->(firstT (l.drop k)).err=0->M b k->M (b++[(firstT (l.drop k),k)]) (k+(firstT (l.drop k)).len+eZ false (l.drop (k+(firstT (l.drop k)).len)))):
  ∀(n:Nat) {b:List (T1×Nat)} {k:Nat},lR l n=some (b,k)->M b k
 |0,b,k,a=>by
  simp only[lR]at a;obtain⟨rfl,rfl⟩:=Prod.mk.inj (aN a);exact e
 |n+1,b,k,a=>by
  simp only[lR]at a;split at a
  ·cases a
  ·rename_i d i c;split at a
   ·rename_i f;obtain⟨rfl,rfl⟩:=Prod.mk.inj (aN a);exact g d i ⟨n,c⟩ f.1 f.2 (fO.ind e g n c)
   ·cases a
theorem wx {l:List UInt8}{k:Nat}(h:k<l.length):0<(l.drop k).length:=by simp;omega
theorem fO.le {l:List UInt8}{a:List (T1×Nat)}{k:Nat}(h:fO l a k):k<=l.length/\a.length<=k:=by
 obtain⟨n,e⟩:=h;refine fO.ind (M:=fun a k=>k<=l.length/\a.length<=k) ?_ ?_ n e
 ·have:=oS false (l.drop 0);simp at this⊢;omega
 ·intro a k _ d c i;have f:=yf _ (wx d) c;have:=oS false (l.drop (k+(firstT (l.drop k)).len));have g:=f.pos;have b:=f.le;simp at this b⊢;omega
theorem FC (s:ByteArray)(l:List UInt8)(c:s.data.toList=l)(w:World):
  Calls prog 87 #[.string s] w fun e w'=>e= .returned (ag (remL l:Int))/\w'=w:=by
 have g:s.size=l.length:=by rw[<-c,Lib.size_eq]
 have a:=fun w=>AA s 10 w;have b:(10:Int).toNat.toUInt8=10:=by decide
 rw[c,b,Ay]at a;have d:remL l<=l.length:=lY _ l;by_cases h:remL l<l.length
 ·rw[aB h]at a;have f:(0:Int)<=(remL l:Int):=(by omega);go_enter func87,ntmps87;go_wp2_with(go_at_call 122;refine(a _).mono ?_;rintro e w' ⟨rfl,rfl⟩)
  go_ret;exact⟨rfl,rfl⟩
 ·rw[ax h]at a;have e:remL l=l.length:=(by omega);rw[e];go_enter func87,ntmps87;go_wp2_with(go_at_call 122;refine(a _).mono ?_;rintro e w' ⟨rfl,rfl⟩)
  go_ret;exact⟨rfl,rfl⟩
theorem B1 (s:ByteArray)(l:List UInt8)(C:s.data.toList=l)(S:l.length<=9223372036854775806)(f r:Nat)(z:f<=l.length)(H:f+eZ false (l.drop f)=r)(w:World):
  Calls prog 54 #[.string s,ag (f:Int)] w fun e w'=>e= .returned (ag (r:Int))/\w'=w:=by
 have N:s.size=l.length:=by rw[<-C,Lib.size_eq]
 have J:Rb (f+eZ false (l.drop f)=r):=H;clear H;go_enter func54,ntmps54;go_wp2;go_loop [1] (fun i=> ∃k:Nat,k<=l.length/\i=ag k/\r=k+eZ false (l.drop k)) (fun i=>l.length-(intOf i).toNat);case atStart=>exact⟨f,z,rfl,J.o.symm⟩
 case round=>
  obtain⟨k,R,rfl,hinv⟩:=hrel;have q:Rb (r=k+eZ false (l.drop k)):=hinv;clear hinv;by_cases L:k<l.length
  ·have x:(k:Int)<(l.length:Int):=(by omega);have K:(0:Int)<=(k:Int):=(by omega);have P: ∀h:k<s.size,s[k]=l.getD k 0:=fun h=>lN C k h;have A:(l.drop k).getD 0 0=l.getD k 0:=(by simp[List.getElem?_drop]);have u:0<(l.drop k).length:=(by simp;omega);have m: ∀n,(l.drop k).drop n=l.drop (k+n):=fun n=>(by rw[List.drop_drop]);have a:=Fq (l.drop k) u;have b:=He (l.drop k) u;have d:=Hf (l.drop k);rw[A]at a b d;rw[m]at a b;have cr:=fun w=>FC (s.extract k s.size) (l.drop k) (by rw[Lib.extract_data,C];exact dh (by simp;omega)) w;have B:remL (l.drop k)<=(l.drop k).length:=lY _ _;simp only[fz]at B;rw[N]at cr;generalize Q:l.getD k 0=c at*;generalize remL (l.drop k)=n at*;by_cases p:c.toNat=32\/c.toNat=9\/c.toNat=10
   ·have t:=a p;have g:Rb (eZ false (l.drop k)=1+eZ false (l.drop (k+1))):=t;clear t a b d cr m;rcases(show c.toNat=32\/(c.toNat≠32/\c.toNat=9)\/(c.toNat≠32/\c.toNat≠9/\c.toNat=10) from by omega) with y|⟨F,y⟩|⟨F,G,y⟩
    ·have E:((c.toNat:Int)==32)=true:=(by simp;omega);clear p y;go_wp2;go_round;case rel=>exact⟨k+1,by omega,by go_num,by have:=q.o;have:=g.o;omega⟩
     case measure=>simp[intOf];omega
    ·have I:((c.toNat:Int)==32)=false:=(by simp;omega);have E:((c.toNat:Int)==9)=true:=(by simp;omega);clear p y F;go_wp2;go_round;case rel=>exact⟨k+1,by omega,by go_num,by have:=q.o;have:=g.o;omega⟩
     case measure=>simp[intOf];omega
    ·have I:((c.toNat:Int)==32)=false:=(by simp;omega);have D:((c.toNat:Int)==9)=false:=(by simp;omega);have E:((c.toNat:Int)==10)=true:=(by simp;omega);clear p y F G;go_wp2;go_round;case rel=>exact⟨k+1,by omega,by go_num,by have:=q.o;have:=g.o;omega⟩
     case measure=>simp[intOf];omega
   ·have I:((c.toNat:Int)==32)=false:=(by simp;omega);have D:((c.toNat:Int)==9)=false:=(by simp;omega);have E:((c.toNat:Int)==10)=false:=(by simp;omega);by_cases j:c.toNat=35
    ·obtain⟨t,M⟩:=b j;have g:Rb (eZ false (l.drop k)=n+eZ false (l.drop (k+n))):=t;have O:((c.toNat:Int)==35)=true:=(by simp;omega);clear t a b d p j m;go_wp2_with(go_at_call 87;refine(cr _).mono ?_;rintro e w' ⟨rfl,rfl⟩)
     go_round;case rel=>exact⟨k+n,by omega,by go_num,by have:=q.o;have:=g.o;omega⟩
     case measure=>simp[intOf];omega
    ·have g:Rb (eZ false (l.drop k)=0):=d fun _=>⟨p,j⟩
     have O:((c.toNat:Int)==35)=false:=(by simp;omega);clear a b d p j cr m;go_wp2;go_ret;exact⟨by rw[show r=k from by have:=q.o;have:=g.o;omega];rfl,rfl⟩
  ·have v:k=l.length:=(by omega)
   have g:Rb (eZ false (l.drop k)=0):=by
    rw[v,List.drop_length];exact rfl
   have x: ¬(k:Int)<(l.length:Int):=(by omega);clear v;go_wp2;go_ret;exact⟨by rw[show r=k from by have:=q.o;have:=g.o;omega];rfl,rfl⟩
def kJ:List (T1×Nat)->List Value
 |[]=>[]
 |p::l=>ag p.1.kind::ag p.1.n::ag (p.2:Int):: .string ⟨p.1.text.toArray⟩::kJ l
theorem yh (t:T1)(k:Nat): ∀l:List (T1×Nat),kJ (l++[(t,k)])=kJ l++[ag t.kind,ag t.n,ag (k:Int),.string ⟨t.text.toArray⟩]
 |[]=>rfl
 |s::l=>by simp[kJ,yh t k l]
theorem MB:(prog.info? 127).map (fun i=>(i.zero,i.size,i.bytes))=some (some (.agg #[ag 0,ag 0,ag 0,.string ⟨#[]⟩]),4,40):=by kernel_rfl
theorem Km:prog.underlying 91=some (.slice 127):=by kernel_rfl
theorem FD {w w':World}{a:Nat}{e:TypeId}{size:Nat}{v:Value}{n:Nat}{xs:List Value}(h:w.ownsRow a e size v n xs)(i:aq w w'):w'.ownsRow a e size v n xs:=by
 obtain⟨f,c⟩:=h;refine⟨f,?_⟩;rcases c with c|⟨g,cap,b,k,j,d,r⟩
 ·exact .inl c
 ·exact .inr ⟨g,cap,b,k,j,(i.block g (aI d)).trans d,r⟩
theorem AB {w:World}{a:Nat}{e:TypeId}{size:Nat}{v:Value}{n:Nat}{xs:List Value}(h:w.ownsRow a e size v n xs){k:Nat}{c:Array Value}{t:TypeId}(d:w.heap[k]? =ah c t)(m:t≠e):v.ownBlock≠some k:=by
 obtain⟨_,b⟩:=h;rcases b with⟨b,_⟩|⟨g,cap,f,o,p,l,r⟩
 ·subst b;simp[Value.ownBlock]
 ·subst o;intro i;have j:g=k:=(by simpa[Value.ownBlock] using i);subst j;rw[l]at d;exact m (Obj.cells.inj (aN d)).2.1.symm
def jK (l:List UInt8)(a:Nat)(w:World)(v:Value)(er at_:Int):Prop:=
 (6000<l.length/\v=af/\er=4/\at_=0)\/
 (∃(b:List (T1×Nat)) (k:Nat),l.length<=6000/\fO l b k/\k<l.length/\(firstT (l.drop k)).err≠0/\v=af/\er=(firstT (l.drop k)).err/\at_=(k:Int))\/
 (∃(b:List (T1×Nat)) (k:Nat),l.length<=6000/\fO l b k/\ ¬k<l.length/\w.ownsRow a 127 4 v b.length (kJ b)/\er=0/\at_=0)
theorem jK.much {l:List UInt8}{a:Nat}{w:World}(h:6000<l.length):jK l a w (af) 4 0:= .inl ⟨h,rfl,rfl,rfl⟩
theorem jK.wrong {l:List UInt8}{a:Nat}{w:World}{b:List (T1×Nat)}{k:Nat}(c:l.length<=6000)(d:fO l b k)(f:k<l.length)(e:(firstT (l.drop k)).err≠0):jK l a w (af) (firstT (l.drop k)).err (k:Int):= .inr (.inl ⟨b,k,c,d,f,e,rfl,rfl,rfl⟩)
theorem jK.right {l:List UInt8}{a:Nat}{w:World}{b:List (T1×Nat)}{k:Nat}{v:Value}(c:l.length<=6000)(d:fO l b k)(e: ¬k<l.length)(f:w.ownsRow a 127 4 v b.length (kJ b)):jK l a w v 0 0:= .inr (.inr ⟨b,k,c,d,e,f,rfl,rfl⟩)
theorem pN:prog.underlying 48=some (.struct (prog.fieldsOf 48)):=by kernel_rfl
theorem wy {R:Ending->World->Prop}{a:Act}{w:World}(g:Nat)(v:Value)(er at_:Int)(i:a.defers=[])(d:a.tmps.getD 2 undef=v)(e:a.tmps.getD 3 undef=ab g 0)
  (j:w.heap[g]? =ah #[ag er,ag at_] 48) (f:R (.returned (.tuple #[v,.agg #[ag er,ag at_]])) w):bodyPost prog f26 R .ret a w:=by
 refine aX (v:= .tuple #[v,.agg #[ag er,ag at_]]) ?_ i f;have b:a.tmps[2]?.getD undef=v:=by simpa using d
 have c:a.tmps[3]?.getD undef=ab g 0:=by simpa using e
 have k:=en (P:=prog) w g 48 48 _ _ _ j pN rfl (by kernel_rfl);simp[results,results26,b,c,asAddr,k]
theorem DD {w:World}{a:Nat}{e:TypeId}{size:Nat}{v:Value}{n:Nat}{xs:List Value}(h:w.ownsRow a e size v n xs){g:Nat}(l:v.ownBlock≠some g)(f:Array Value):(w.setRow g f).ownsRow a e size v n xs:=by
 obtain⟨j,c⟩:=h;refine⟨j,?_⟩;rcases c with c|⟨i,cap,b,d,k,m,r⟩
 ·exact .inl c
 ·refine .inr ⟨i,cap,b,d,k,(aW _ _ _ _ fun e=>l ?_).trans m,r⟩;subst d;simp[Value.ownBlock,e]
theorem gT.later {w w':World}(h:gT w)(a:aq w w'):gT w':=h.below a
theorem MC (s:ByteArray)(l:List UInt8)(Q:s.data.toList=l)(hl:l.length<=9223372036854775807)(w:World)(P:gT w):
  Calls prog 26 #[.string s] w fun e w'=>(∃v er at_,e= .returned (.tuple #[v,.agg #[ag er,ag at_]])/\jK l w.heap.size w' v er at_)/\aq w w':=by
 have hz:s.size=l.length:=by rw[<-Q,Lib.size_eq]
 obtain⟨i0,hi,Y,Z,aa⟩:=jw MB;have J:aq w (w.alloc (.cells #[ag 0,ag 0] 48)):=am _ _;have h0:(w.alloc (.cells #[ag 0,ag 0] 48)).heap[w.heap.size]? =ah #[ag 0,ag 0] 48:=aG w _;by_cases hm:6000<l.length
 ·have W:(6000:Int)<(l.length:Int):=by omega
  go_enter func26,ntmps26;go_wp2;exact wy w.heap.size (af) 4 0 rfl rfl rfl (aG w _) ⟨⟨_,_,_,rfl,jK.much hm⟩,am _ _⟩
 ·have W: ¬(6000:Int)<(l.length:Int):=by omega
  have HT:Rb (gT w):=P;clear P;have c0:=fun w=>B1 s l Q (by omega) 0 (0+eZ false (l.drop 0)) (by omega) rfl w;have O:=fO.start (l:=l);generalize K:0+eZ false (l.drop 0)=k0 at*;have HS:Rb (fO l [] k0):=O;clear O K;go_enter func26,ntmps26;go_wp2_with(go_at_call 54;refine(c0 _).mono ?_;rintro e w' ⟨rfl,rfl⟩)
  go_loopw [4,5] (fun v i wr=> ∃(A:List (T1×Nat)) (k:Nat),i=ag k/\fO l A k/\wr.ownsRow w.heap.size 127 4 v A.length (kJ A)/\wr.heap[w.heap.size]? =ah #[ag 0,ag 0] 48/\aq w wr) (fun _ i _=>l.length-(intOf i).toNat);case atStart=>exact⟨[],k0,rfl,HS.o,dp _ _ _ _,h0,J⟩
  case round=>
   obtain⟨A,k,rfl,q,c,F,b⟩:=hrel;clear h0 J HS c0;obtain⟨ac,ak⟩:=q.le;by_cases y:k<l.length
   ·have L:(k:Int)<(l.length:Int):=(by omega);have K:(0:Int)<=(k:Int):=(by omega);have ab:(k:Int)<=(l.length:Int):=(by omega);have cT: ∀w,gT w->Calls prog 55 #[.string (s.extract k l.length)] w fun e w'=>e= .returned (.tuple #[.agg #[ag (firstT (l.drop k)).kind,ag (firstT (l.drop k)).n,ag 0,.string ⟨(firstT (l.drop k)).text.toArray⟩],ag ((firstT (l.drop k)).len:Int),ag (firstT (l.drop k)).err])/\aq w w':=fun w P=>Hq (s.extract k l.length) (l.drop k) (by rw[Lib.extract_data,Q];exact dh (by simp)) (by simp;omega) (wx y) w P;by_cases E:(firstT (l.drop k)).err=0
    ·have m:=yf _ (wx y) E;have M:=fO.step q y E;have ae:=m.pos;have X:=m.le;simp only[fz]at X;have I:=fun w=>B1 s l Q (by omega) (k+(firstT (l.drop k)).len) _ (by omega) rfl w;rw[E]at cT;generalize firstT (l.drop k)=t at*;generalize V:k+t.len+eZ false (l.drop (k+t.len))=k1 at*;have aj:k<k1:=(by omega);have HX:Rb (fO l (A++[(t,k)]) k1):=M;have q1:IntKind.i64.wrap ((k:Int)+(t.len:Int))=((k+t.len:Nat):Int):=(by rw[bU];omega);clear M E m V q;obtain⟨kd,nn,B,tl,R⟩:=t;dsimp only at*
     go_wp2_with(first
      |(go_at_call 55;refine(cT _ (HT.o.later b)).mono ?_;rintro e S ⟨rfl,f⟩;have g:=ai f F;have d:=FD c f;have a:=aw b f;clear F c b f cT)
      |(at_builtin;refine jf _ rfl _ _ 91 rfl w.heap.size 127 i0 (.agg #[ag 0,ag 0,ag 0,.string ⟨#[]⟩]) 4 40 Km hi Y Z aa rfl (by decide) u4 A.length (kJ A) rfl ((d.alloc _).alloc _) ⟨S.heap.size+1,0,none⟩ 1 1 [ag kd,ag nn,ag (k:Int),.string ⟨B.toArray⟩] rfl rfl ?c1 ?c2 ?c3 ?c4 ?c5 ?_))
     case c1=>
      intro j u x;match j,x with
      |0,x=>simp at x;subst x;simp[Addr.add]
      |1,x=>simp at x;subst x;simp[Addr.add]
      |2,x=>simp at x;subst x;simp[Addr.add]
      |3,x=>simp at x;subst x;simp[Addr.add]
     case c2=>intro u hu;simp at hu;rcases hu with rfl|rfl|rfl|rfl<;>rfl
     case c3=>unfold maxLen;omega
     case c4=>omega
     case c5=>have:=a.size;simp;omega
     ·intro v' w2 z p _
      have H:w2.ownsRow w.heap.size 127 4 v' (A++[((⟨kd,nn,B,tl,R⟩:T1),k)]).length (kJ (A++[((⟨kd,nn,B,tl,R⟩:T1),k)])):=by
       rw[yh];simp only[aP,bV,gU,cY];exact z
      have lf:=aI g;have r:=(dQ S (.cells #[ag kd,ag nn,ag (k:Int),.string ⟨B.toArray⟩] 127) _ lf).trans g;have G:=(dQ _ (.cells #[ag kd,ag nn,ag (k:Int),.string ⟨B.toArray⟩] 127) _ (aI r)).trans r;have U:=(p.block _ (aI G) (fun e=>AB d g (by decide) e.symm)).trans G;have C:aq w w2:=((a.alloc a.size _).alloc (by have:=a.size;simp;omega) _).grown p (by have:=a.size;simp;omega) (fun k hk=>(d.lt k hk).1);clear z p d g a r G lf;go_wp2_with(go_at_call 54;refine(I _).mono ?_;rintro e w' ⟨rfl,rfl⟩)
      go_roundw;case rel=>exact⟨_,k1,rfl,HX.o,H,U,C⟩
      case measure=>
       have:=HX.o.le;simp[intOf];omega
    ·have ad:((firstT (l.drop k)).err !=0)=true:=(by simpa using E);have T: ∀w',Rb (jK l w.heap.size w' (af) (firstT (l.drop k)).err (k:Int)):=fun w'=>jK.wrong (by omega) q y E;clear E q c;generalize firstT (l.drop k)=t at*;obtain⟨kd,nn,B,tl,R⟩:=t;dsimp only at*
     go_wp2_with(first
      |(go_at_call 55;refine(cT _ (HT.o.later b)).mono ?_;rintro e S ⟨rfl,f⟩;have g:=ai f F;have a:=aw b f;have r:=(dQ S (.cells #[ag kd,ag nn,ag 0,.string ⟨B.toArray⟩] 127) _ (aI g)).trans g;have D:=a.alloc a.size (.cells #[ag kd,ag nn,ag 0,.string ⟨B.toArray⟩] 127);clear F b f cT g)
      |(refine az rfl 48 _ _ rfl _ _ rfl rfl _ _ r (by kernel_rfl) (by simp) (by simp[Value.oneCell']) ?_))
     exact wy w.heap.size (af) R (k:Int) rfl rfl rfl (aL _ _ _ _ _ _ r) ⟨⟨_,_,_,rfl,(T _).o⟩,below_setRow D (aD _) _⟩
   ·have N:=AB c F (by decide);have T: ∀I,Rb (jK l w.heap.size (wr.setRow w.heap.size I) u4 0 0):=fun I=>jK.right (by omega) q y (DD c N I);have L: ¬(k:Int)<(l.length:Int):=(by omega);clear q c N;go_wp2_with(refine az rfl 48 _ _ rfl _ _ rfl rfl _ _ F (by kernel_rfl) (by simp) (by simp[Value.oneCell']) ?_)
    exact wy w.heap.size u4 0 0 rfl rfl rfl (aL _ _ _ _ _ _ F) ⟨⟨_,_,_,rfl,(T _).o⟩,below_setRow b (aD _) _⟩
def namedL (l:List UInt8):Bool:=decide (l.length≠0)&&(decide (l.length<=20)&&(decide (wordLen l=l.length)&& !isWordL l))
theorem ub {w:World}{a:Nat}{e:TypeId}{size:Nat}{v:Value}{n:Nat}{xs:List Value}(h:w.ownsRow a e size v n xs)(m:0<n):
  ∃g cap:Nat,v= .slice (some (ae g 0)) n cap/\ ∀(i:Nat) (u:Value),xs[i]? =some u->w.cell? (ae g i)=some u:=by
 obtain⟨_,c⟩:=h;rcases c with⟨_,c⟩|⟨g,cap,d,k,l,j,_,_,_,f⟩
 ·omega
 ·refine⟨g,cap,k,fun i u b=> ?_⟩;rw[aZ _ _ _ _ _ _ j];rw[<-f,jz]at b;split at b
  ·simpa using b
  ·cases b
theorem fO.iter {l:List UInt8}{a:List (T1×Nat)}{k:Nat}(h:fO l a k): ∃n,lR l n=some (a,k):=h
theorem ud {l:List UInt8}{n:Nat}(h:lR l n=none): ∀m,n<=m->lR l m=none
 |0,a=>by have:n=0:=by omega
          subst this;exact h
 |m+1,a=>by
  by_cases e:n=m+1
  ·rw[<-e];exact h
  ·simp only[lR,ud h m (by omega)]
def QH (n:Nat)(a:List (T1×Nat)):List (T1×Nat):=a.map fun p=>(p.1,n+p.2)
theorem Hr {l:List UInt8}{c d:List (T1×Nat)}{k j:Nat}(h:fO l c k)(f:fO l d j)(o: ¬(k<l.length/\(firstT (l.drop k)).err=0))(i: ¬(j<l.length/\(firstT (l.drop j)).err=0)):c=d/\k=j:=by
 obtain⟨n,b⟩:=h.iter;obtain⟨m,a⟩:=f.iter;have p:lR l (n+1)=none:=by simp only[lR,b];rw[ax o]
 have m1:lR l (m+1)=none:=by simp only[lR,a];rw[ax i]
 have e:n=m:=by
  rcases Nat.lt_trichotomy n m with g|g|g
  ·have:=ud p m (by omega);rw[a]at this;cases this
  ·exact g
  ·have:=ud m1 n (by omega);rw[b]at this;cases this
 subst e;rw[b]at a;have:=aN a;exact⟨congrArg Prod.fst this,congrArg Prod.snd this⟩
theorem Ht (s:ByteArray)(l:List UInt8)(m:s.data.toList=l)(q:l.length<=9223372036854775806)(w:World):
  Calls prog 115 #[.string s] w fun e w'=>e= .returned (.bool (namedL l))/\aq w w':=by
 have t:s.size=l.length:=by rw[<-m,Lib.size_eq]
 have a:s.toList.isEmpty=l.isEmpty:=by rw[Lib.toList_data,m]
 have cl:=fun w=>vW s l m q w;have j:=fun w=>yd s l m w;by_cases d:l.length=0
 ·have f:Rb (namedL l=false):=by show namedL l=false;simp[namedL,d]
  have r:s.toList.isEmpty=true:=(by rw[a];simpa using d);clear a d;go_enter func115,ntmps115
  go_wp2_with(first
   |(go_at_call 125;refine(cl _).mono ?_;rintro e w' ⟨rfl,rfl⟩)
   |(go_at_call 127;refine(j _).mono ?_;rintro e p ⟨rfl,c⟩))
  go_ret;exact⟨by rw[f.o];rfl,aH _ _⟩
 ·have r:s.toList.isEmpty=false:=by rw[a];cases l<;>simp at d⊢
  clear a;by_cases g:l.length<=20
  ·have n:(l.length:Int)<=20:=(by omega);by_cases i:wordLen l=l.length
   ·have f:Rb (namedL l= !isWordL l):=(by show namedL l=_;simp[namedL,d,g,i]);rw[i]at cl;clear d i;generalize isWordL l=b at*;go_enter func115,ntmps115
    go_wp2_with(first
     |(go_at_call 125;refine(cl _).mono ?_;rintro e w' ⟨rfl,rfl⟩)
     |(go_at_call 127;refine(j _).mono ?_;rintro e p ⟨rfl,c⟩))
    go_ret;exact⟨by rw[f.o];rfl,c⟩
   ·have f:Rb (namedL l=false):=(by show namedL l=false;simp[namedL,i]);have u:((wordLen l:Int)==(l.length:Int))=false:=(by simp;omega);clear d i;generalize wordLen l=k at*;go_enter func115,ntmps115
    go_wp2_with(first
     |(go_at_call 125;refine(cl _).mono ?_;rintro e w' ⟨rfl,rfl⟩)
     |(go_at_call 127;refine(j _).mono ?_;rintro e p ⟨rfl,c⟩))
    go_ret;exact⟨by rw[f.o];rfl,aH _ _⟩
  ·have n: ¬(l.length:Int)<=20:=(by omega);have f:Rb (namedL l=false):=(by show namedL l=false;simp[namedL,g]);clear d g;go_enter func115,ntmps115
   go_wp2_with(first
    |(go_at_call 125;refine(cl _).mono ?_;rintro e w' ⟨rfl,rfl⟩)
    |(go_at_call 127;refine(j _).mono ?_;rintro e p ⟨rfl,c⟩))
   go_ret;exact⟨by rw[f.o];rfl,aH _ _⟩
section
def si (w:World)(v:Value)(a:List (T1×Nat)):Prop:=
 (∃c,v= .slice none 0 c/\a=[])\/ ∃g o c:Nat,v= .slice (some (ae g o)) a.length c/\a.length<9223372036854775808/\ ∀(j:Nat) (t:T1) (k:Nat),a[j]? =some (t,k)->
  w.cell? (ae g (o+j*4))=some (ag t.kind)/\w.cell? (ae g (o+j*4+1))=some (ag t.n)/\w.cell? (ae g (o+j*4+2))=some (ag (k:Int))/\w.cell? (ae g (o+j*4+3))=some (.string ⟨t.text.toArray⟩)
theorem si.form {w:World}{v:Value}{l:List (T1×Nat)}(h:si w v l): ∃p c,v= .slice p l.length c:=by
 rcases h with⟨c,h,rfl⟩|⟨g,o,c,h,_⟩
 ·exact⟨none,c,h⟩
 ·exact⟨_,c,h⟩
theorem PV (a b c:Int)(s:ByteArray)(w:World):(Op.equalIn 10000 127 (.agg #[ag a,ag b,ag c,.string s]) (.agg #[ag a,ag b,ag c,.string s])).run prog w= .ok true w:=by
 rw[run_equalIn_struct w 9999 127 _ _ (by kernel_rfl) (by kernel_rfl)];simp[Program.fieldsOf,underlying127,Op.eqFields];go_simp
theorem OD (a b c:Int)(s:ByteArray)(w:World):(binOp .neq 127 (.agg #[ag a,ag b,ag c,.string s]) (.agg #[ag a,ag b,ag c,.string s])).run prog w= .ok (.bool false) w:=by
 rw[run_neq_struct,PV];simp[Result.andThen]
attribute [local go_sem] OD
end
def Ra (n:Nat)(a:List (T1×Nat))(j:Nat):List (T1×Nat):=QH n (a.take j)++a.drop j
theorem B2: ∀(a:List (T1×Nat)) (j:Nat) (t:T1) (k:Nat),a[j]? =some (t,k)->(kJ a)[j*4]? =some (ag t.kind)/\(kJ a)[j*4+1]? =some (ag t.n)/\(kJ a)[j*4+2]? =some (ag (k:Int))/\(kJ a)[j*4+3]? =some (.string ⟨t.text.toArray⟩)
 |[],j,t,k,h=>by simp at h
 |p::a,0,t,k,h=>by
  have:p=(t,k):=(by simpa using h);subst this;simp[kJ]
 |p::a,j+1,t,k,h=>by
  have:=B2 a j t k (by simpa using h);have e:(j+1)*4=j*4+1+1+1+1:=(by omega);rw[e];simpa[kJ] using this
theorem B3 {w:World}{b:Nat}{v:Value}{a:List (T1×Nat)}(h:w.ownsRow b 127 4 v a.length (kJ a))(i:a.length<9223372036854775808):si w v a:=by
 by_cases m:a.length=0
 ·obtain⟨_,e⟩:=h;rcases e with⟨e,n⟩|⟨g,cap,l,f,_⟩
  ·exact .inl ⟨0,e,iu.1 n⟩
  ·refine .inr ⟨g,0,cap,f,i,fun j t k d=> ?_⟩;have:a=[]:=iu.1 m;rw[this]at d;simp at d
 ·obtain⟨g,cap,f,c⟩:=ub h (by omega);refine .inr ⟨g,0,cap,f,i,fun j t k d=> ?_⟩;obtain⟨f0,f1,f2,f3⟩:=B2 a j t k d;rw[cY];exact⟨c _ _ f0,c _ _ f1,c _ _ f2,c _ _ f3⟩
end Go.Proofs.YtlkehieagdkgiaaGreatDoor
