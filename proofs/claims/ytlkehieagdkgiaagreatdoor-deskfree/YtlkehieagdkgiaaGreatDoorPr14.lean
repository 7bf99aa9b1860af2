/- Texts of the proof. -/
import Derived.Test.YtlkehieagdkgiaaGreatDoorPr04
import Derived.Lib.Walk
import Derived.Lib.BufferWrite
import Derived.Test.YtlkehieagdkgiaaGreatDoorPr01
set_option maxRecDepth 100000
set_option maxHeartbeats 8000000
namespace Go.Proofs.YtlkehieagdkgiaaGreatDoor
open Go.Proofs.Tryz Go.RowKit Lx Vx Mx Msk
theorem Ke:(prog.info? 5).map (fun i=>(i.zero,i.size,i.bytes))=some (some (.int .u8 0),1,1):=by kernel_rfl
theorem Ar:prog.underlying 231=some (.slice 5):=by kernel_rfl
theorem Hi:prog.underlying 232=some (.pointer 5):=by kernel_rfl
theorem Fm (s:ByteArray)(w:World)(v:s.size<=1000000):
  Calls prog 149 #[.string s] w fun e w'=>e= .returned (.string s)/\aq w w':=by
 by_cases u:s.size=0
 ·have C:s=⟨#[]⟩:=by
   apply ByteArray.ext;exact Array.eq_empty_of_size_eq_zero u
  subst C;go_enter func149,ntmps149;go_wp2;go_ret;exact⟨rfl,aH _ _⟩
 ·obtain⟨y,hi,r,d,t⟩:=jt Ke;have a:(prog.info? 5).map (·.size)=some 1:=(by rw[hi];simp[d]);have n:prog.cellsOf 5=1:=(by kernel_rfl);obtain⟨M,f⟩: ∃M,M=madeCells (Value.int .u8 0).cells (((s.size:Nat):Int).toNat*y.size):=⟨_,rfl⟩
  have z:M.size=s.size:=(by rw[f,size_madeCells,d];simp)
  have B: ∀W:World,(Instr.makeSlice 231 (ag (s.size:Int)) (ag (s.size:Int))).run prog W= .ok (.slice (some (ae W.heap.size 0)) s.size s.size) (W.alloc (.cells M 5)):=fun W=>by
   have h:=run_make (P:=prog) W 231 5 y (.int .u8 0) Ar hi r .i64 .i64 (s.size:Int) (s.size:Int) (by omega) (by omega) (by rw[t];omega) (by omega);rw[<-f]at h;simpa using h
  clear f;have o:=Lib.run_copy_row_string (P:=prog) (w.alloc (.cells M 5)) 231 9 3 5 w.heap.size 0 s.size s.size s M 5 Ar a (aG w _) (aE _) (by omega);obtain⟨Y,i⟩: ∃Y,Y=(M.toList.take 0++Lib.byteCells s.data.toList++M.toList.drop (0+s.size)).toArray:=⟨_,rfl⟩
  rw[<-i]at o
  have b:Y.toList=Lib.byteCells s.data.toList:=by
   rw[i,List.toList_toArray,List.take_zero,List.nil_append,dj (by rw[cZ];omega),gu]
  have A:Y.size=s.size:=(by rw[<-cZ,b,Lib.byteCells_length,<-Lib.size_eq]);have c:((w.alloc (.cells M 5)).setRow w.heap.size Y).heap[w.heap.size]? =ah Y 5:=aL _ _ M _ 5 (0,0) (aG w _);have q:s.data.toList≠[]:=fun e=>u (by rw[Lib.size_eq,e];rfl)
  have g:=Lib.run_unsafeString_row (P:=prog) ((w.alloc (.cells M 5)).setRow w.heap.size Y) 232 3 9 5 Hi n w.heap.size Y.size (by unfold World.shape?;rw[c]) s.data.toList q (by rw[<-Lib.size_eq];omega) (by rw[<-Lib.size_eq];omega)
   (fun j x D=>Lib.cells_of_row c Y.size j _ (by rw[dg (by rw[cZ];exact aE _),b];simp[Lib.byteCells,D]))
  rw[<-Lib.size_eq]at g;clear i;go_enter func149,ntmps149;go_wp2;go_ret;have l:aq w (w.alloc (.cells M 5)):=am w _;have m:Below w.heap.size (w.alloc (.cells M 5)) ((w.alloc (.cells M 5)).setRow w.heap.size Y):=⟨rfl,rfl,rfl,by simp,fun k E=>aW _ _ _ _ (by omega)⟩
  exact⟨rfl,Lib.below_freeze (l.trans m) (p:=⟨w.heap.size,0,none⟩) (aE _) _⟩
theorem Hj (s:ByteArray)(w:World)(a:s.size<=1000000):
  Calls prog 126 #[.string s] w fun e w'=>e= .returned (.string s)/\aq w w':=by
 go_enter func126,ntmps126;go_wp2_with(go_at_call 149;refine(Fm s _ a).mono ?_;rintro e w' ⟨rfl,b⟩)
 go_ret;exact⟨rfl,b⟩
theorem BS {w:World}{g:Nat}{c a:Array Value}{t:TypeId}(b:w.heap[g]? =ah c t)(e:c=a):w.heap[g]? =ah a t:=by rw[b,e]
theorem Kf (s:ByteArray)(l:List UInt8)(v:s.data.toList=l)(A:l.length<=9223372036854775806)(w:World):
  Calls prog 94 #[.string s] w fun e w'=>e= .returned (sY (kT l))/\aq w w':=by
 have E:s.size=l.length:=by rw[<-v,Lib.size_eq]
 have cl:=fun w=>vS s l v A w;have D:=xM l;have d:aq w (w.alloc (.cells #[ag 0,ag 0,ag 0,.string ⟨#[]⟩] 127)):=am _ _;have m:(w.alloc (.cells #[ag 0,ag 0,ag 0,.string ⟨#[]⟩] 127)).heap[w.heap.size]? =ah #[ag 0,ag 0,ag 0,.string ⟨#[]⟩] 127:=aG w _;have i:kT l=if 20<wordLen l then bad 7 else⟨if isWordL (l.take (wordLen l)) then 2 else 1,0,l.take (wordLen l),wordLen l,0⟩:=rfl;generalize wordLen l=k at*;by_cases q:20<k
 ·have j:QR (kT l=bad 7):=by
   show kT l=_;rw[i,aB q]
  have y:(20:Int)<(k:Int):=(by omega);clear i m;go_enter func94,ntmps94;go_wp2_with(go_at_call 125;refine(cl _).mono ?_;rintro e w' ⟨rfl,rfl⟩)
  exact fY (by rw[results94,results92]) w.heap.size (bad 7) rfl rfl rfl rfl (aG w _) ⟨by rw[j.o],d⟩
 ·rw[ax q]at i;have y: ¬(20:Int)<(k:Int):=(by omega);have F:(0:Int)<=(k:Int):=(by omega);have G:(k:Int)<=(l.length:Int):=(by omega);have r:(s.extract 0 k).data.toList=l.take k:=(by rw[Lib.extract_data,v];simp);have x:(s.extract 0 k).size<=1000000:=(by rw[Lib.size_eq,r];simp;omega);have z:=fun w=>Hj (s.extract 0 k) w x;have t:=fun w=>xT (s.extract 0 k) (l.take k) r w;have g:=LM r;cases hW:isWordL (l.take k) with
  |true=>
   rw[hW]at t
   have j:QR (kT l=⟨2,0,l.take k,k,0⟩):=by
    show kT l=_;rw[i,hW];rfl
   have u:QR (s.extract 0 k=⟨(l.take k).toArray⟩):=g;clear i hW g r;go_enter func94,ntmps94
   go_wp2_with(first
    |(go_at_call 125;refine(cl _).mono ?_;rintro e w' ⟨rfl,rfl⟩)
    |(go_at_call 126;refine(z _).mono ?_;rintro e B ⟨rfl,b⟩;have n:=ai b m;have a:=aw d b;clear b m d)
    |(go_at_call 127;refine(t _).mono ?_;rintro e C ⟨rfl,c⟩;have p:=ai c n;have f:=aw a c;clear c n a)
    |(refine az rfl 127 _ _ rfl _ _ rfl rfl _ _ p (by kernel_rfl) (by simp) (by simp[Value.oneCell']) ?_))
   exact fY (by rw[results94,results92]) w.heap.size ⟨2,0,l.take k,k,0⟩ rfl rfl rfl rfl (BS (aL _ _ _ _ _ _ p) (by rw[u.o])) ⟨by rw[j.o],below_setRow f (aE _) _⟩
  |false=>
   rw[hW]at t
   have j:QR (kT l=⟨1,0,l.take k,k,0⟩):=by
    show kT l=_;rw[i,hW];rfl
   have u:QR (s.extract 0 k=⟨(l.take k).toArray⟩):=g;clear i hW g r;go_enter func94,ntmps94
   go_wp2_with(first
    |(go_at_call 125;refine(cl _).mono ?_;rintro e w' ⟨rfl,rfl⟩)
    |(go_at_call 126;refine(z _).mono ?_;rintro e B ⟨rfl,b⟩;have n:=ai b m;have a:=aw d b;clear b m d)
    |(go_at_call 127;refine(t _).mono ?_;rintro e C ⟨rfl,c⟩;have p:=ai c n;have f:=aw a c;clear c n a)
    |(refine az rfl 127 _ _ rfl _ _ rfl rfl _ _ p (by kernel_rfl) (by simp) (by simp[Value.oneCell']) ?_))
   exact fY (by rw[results94,results92]) w.heap.size ⟨1,0,l.take k,k,0⟩ rfl rfl rfl rfl (BS (aL _ _ _ _ _ _ p) (by rw[u.o])) ⟨by rw[j.o],below_setRow f (aE _) _⟩
def oM (y m d:Int):Int×Int:=if 1<=d/\d<=Cal.dim y m then(Cal.num y m d,0) else(0,3)
theorem Mn (y m d:Int)(w:World)(a:gN w):
  Calls prog 123 #[.agg #[ag y,ag m,ag d]] w fun e w'=>e= .returned (.tuple #[ag (oM y m d).1,ag (oM y m d).2])/\aq w w':=by
 unfold oM;by_cases h:1<=d/\d<=Cal.dim y m
 ·rw[aB h];exact Fs y m d w a h.1 h.2
 ·rw[ax h];exact Hl y m d w a (by omega)
def lw (l:List UInt8):T1:=if(oM (valL ((l.drop 0).take 4)) (valL ((l.drop 5).take 2)) (valL ((l.drop 8).take 2))).2=0 then⟨5,(oM (valL ((l.drop 0).take 4)) (valL ((l.drop 5).take 2)) (valL ((l.drop 8).take 2))).1,[],10,0⟩ else bad 3
theorem Kh (y m d:Int):(oM y m d).2=0\/(oM y m d).2=3:=by
 unfold oM;split<;>simp
theorem Ki (s:ByteArray)(l:List UInt8)(t:s.data.toList=l)(p:ju l xQ=true)(w:World)(g:gN w):
  Calls prog 89 #[.string s] w fun e w'=>e= .returned (sY (lw l))/\aq w w':=by
 have hz:s.size=l.length:=by rw[<-t,Lib.size_eq]
 obtain⟨a,_⟩:=qI p;have r:10<=l.length:=a;have R:(4:Int)<=(l.length:Int):=by omega
 have S:(7:Int)<=(l.length:Int):=by omega
 have L:(10:Int)<=(l.length:Int):=by omega
 obtain⟨T,E⟩:=mK p 0 4 (by decide) (by decide);obtain⟨U,G⟩:=mK p 5 2 (by decide) (by decide);obtain⟨V,H⟩:=mK p 8 2 (by decide) (by decide);have D:=fun w=>mX (s.extract 0 4) ((l.drop 0).take 4) (by rw[Lib.extract_data,t]) (by omega) E w;have C:=fun w=>mX (s.extract 5 7) ((l.drop 5).take 2) (by rw[Lib.extract_data,t]) (by omega) G w;have B:=fun w=>mX (s.extract 8 10) ((l.drop 8).take 2) (by rw[Lib.extract_data,t]) (by omega) H w;have J:lw l=if(oM (valL ((l.drop 0).take 4)) (valL ((l.drop 5).take 2)) (valL ((l.drop 8).take 2))).2=0 then⟨5,(oM (valL ((l.drop 0).take 4)) (valL ((l.drop 5).take 2)) (valL ((l.drop 8).take 2))).1,[],10,0⟩ else bad 3:=rfl;generalize valL ((l.drop 0).take 4)=y at*;generalize valL ((l.drop 5).take 2)=m at*;generalize valL ((l.drop 8).take 2)=d at*;have A:=fun w g=>Mn y m d w g;have f:=Kh y m d;generalize (oM y m d).1=c at*;generalize (oM y m d).2=ev at*;have z:QR (lw l=if ev=0 then⟨5,c,[],10,0⟩ else bad 3):=J;clear J T U V E G H a p;have b:aq w (w.alloc (.cells #[ag 0,ag 0,ag 0,.string ⟨#[]⟩] 127)):=am _ _;have I:(w.alloc (.cells #[ag 0,ag 0,ag 0,.string ⟨#[]⟩] 127)).heap[w.heap.size]? =ah #[ag 0,ag 0,ag 0,.string ⟨#[]⟩] 127:=aG w _;have k:=g.below b;clear g;have g:=k;clear k;go_enter func89,ntmps89;go_wp2;generalize w.alloc (.cells #[ag 0,ag 0,ag 0,.string ⟨#[]⟩] 127)=X at*;refine dh (fun _ _ W=>aq X W) [kn 8 (.string s),kn 9 (.string (s.extract 0 4)),kn 10 (ag y),kn 11 (.string s),kn 12 (.string (s.extract 5 7)),kn 13 (ag m),kn 14 (.string s),kn 15 (.string (s.extract 8 10)),kn 16 (ag d),kn 17 (.agg #[ag y,ag m,ag d]),kn 18 (.tuple #[ag c,ag ev]),kn 7 (.tuple #[ag c,ag ev]),kn 19 (ag c),kn 20 (ag ev),kn 5 (ag c),kn 6 (ag ev)] (fun _=>(aH _ _).drew) (fun _ _ _ _ x h=>aw h x) (by kernel_rfl) (fun M φ W i Q F ll N O=> ?_) (fun M φ W P i=> ?_)
 ·simp only[kn,dV,aP,aT,Act.put,aA,aK,aJ]at N;subst N;simp only[di,Nat.reduceAdd]at O;dsimp only[kn,du,eG,dY,Act.put];and_intros;all_goals first|exact trivial|intro hw Z Y K j
  all_goals try (go_simp;with_reducible exact j _ _ ⟨rfl,aH _ _⟩)
  all_goals go_simp
  ·refine(D _).mono ?_;rintro e v ⟨rfl,rfl⟩;exact j _ _ ⟨rfl,aH _ _⟩
  ·refine(C _).mono ?_;rintro e v ⟨rfl,rfl⟩;exact j _ _ ⟨rfl,aH _ _⟩
  ·refine(B _).mono ?_;rintro e v ⟨rfl,rfl⟩;exact j _ _ ⟨rfl,aH _ _⟩
  ·refine(A _ (g.below i)).mono ?_;rintro e v ⟨rfl,x⟩;exact j _ _ ⟨rfl,x⟩
 ·simp only[kn,d7,aP,aT,Act.put,aA,aK,aJ];have q:=ai i I;have n:=aw b i;clear P i I b D C B A;rcases f with f|f
  ·have u:QR (lw l=⟨5,c,[],10,0⟩):=by
    show lw l=_;rw[z.o,aB f]
   subst f;go_wp2_with(refine az rfl 127 _ _ rfl _ _ rfl rfl _ _ q (by kernel_rfl) (by simp) (by simp[Value.oneCell']) ?_)
   exact fY (by rw[results89,results92]) w.heap.size ⟨5,c,[],10,0⟩ rfl rfl rfl rfl (aL _ _ _ _ _ _ q) ⟨by rw[u.o],below_setRow n (aE _) _⟩
  ·have u:QR (lw l=bad 3):=by
    show lw l=_;rw[z.o,ax (by omega)]
   subst f;go_wp2_with(refine az rfl 127 _ _ rfl _ _ rfl rfl _ _ q (by kernel_rfl) (by simp) (by simp[Value.oneCell']) ?_)
   exact fY (by rw[results89,results92]) w.heap.size (bad 3) rfl rfl rfl rfl (aL _ _ _ _ _ _ q) ⟨by rw[u.o],below_setRow n (aE _) _⟩
theorem Ft (s:ByteArray)(c:Int)(w:World):
  Calls prog 145 #[.string s,.int .u8 c] w fun e w'=>e= .returned (ag (Lib.indexByte s.data.toList c.toNat.toUInt8))/\w'=w:=by
 go_enter func145,ntmps145;go_wp2;rw[run_callFunc_extern func171 (by kernel_rfl) (by kernel_rfl) (by kernel_rfl) (e:=Extern.BytealgIndexByte.indexByte) (by kernel_rfl),Lib.run_indexByteString];simp only[Result.andThen];rw[Oper.upon_value];go_wp2;go_ret;exact⟨rfl,rfl⟩
theorem As (s:ByteArray)(c:Int)(w:World):
  Calls prog 122 #[.string s,.int .u8 c] w fun e w'=>e= .returned (ag (Lib.indexByte s.data.toList c.toNat.toUInt8))/\w'=w:=by
 go_enter func122,ntmps122;go_wp2_with(go_at_call 145;refine(Ft _ _ _).mono ?_;rintro e w' ⟨rfl,rfl⟩)
 go_ret;exact⟨rfl,rfl⟩
theorem Fu (s p:ByteArray)(w:World):
  Calls prog 128 #[.string s,.string p] w fun e w'=>e= .returned (.bool (Lib.hasPrefix s.data.toList p.data.toList))/\w'=w:=by
 rw[<-Lib.hasPrefix_of_take,<-Lib.size_eq,<-Lib.size_eq];go_enter func128,ntmps128;go_wp2
 ·rename_i h;go_ret;refine⟨?_,rfl⟩;show Ending.returned (Value.bool ((s.extract 0 p.size).toList==p.toList))=_;rw[Lib.extract_toList,Lib.toList_data];simp[h]
 ·rename_i h;go_ret;refine⟨?_,rfl⟩;show Ending.returned (Value.bool false)=_;simp[h]
theorem Kj (s:ByteArray)(l:List UInt8)(r:s.data.toList=l)(B:0<l.length)(w:World):
  Calls prog 95 #[.string s] w fun e w'=>e= .returned (sY (j9 l))/\aq w w':=by
 have C:s.size=l.length:=by rw[<-r,Lib.size_eq]
 have d:=fun w=>Fu s ⟨#[46,46]⟩ w;rw[r]at d;have p:aq w (w.alloc (.cells #[ag 0,ag 0,ag 0,.string ⟨#[]⟩] 127)):=am _ _;cases hp:Lib.hasPrefix l [46,46] with
 |true=>
  have f:QR (j9 l=⟨3,0,[46,46],2,0⟩):=by
   show j9 l=_;unfold j9;rw[hp];rfl
  rw[show(⟨#[46,46]⟩:ByteArray).data.toList=[46,46] from rfl,hp]at d;have b:aq w (w.alloc (.cells #[ag 3,ag 0,ag 0,.string ⟨#[46,46]⟩] 127)):=am _ _;clear hp;go_enter func95,ntmps95;go_wp2_with(go_at_call 128;refine(d _).mono ?_;rintro e w' ⟨rfl,rfl⟩)
  exact fY (by rw[results95,results92]) w.heap.size ⟨3,0,[46,46],2,0⟩ rfl rfl rfl rfl (aG w _) ⟨by rw[f.o],b⟩
 |false=>
  rw[show(⟨#[46,46]⟩:ByteArray).data.toList=[46,46] from rfl,hp]at d;have z: ∀h:0<s.size,s[0]=l.getD 0 0:=fun h=>lJ r 0 h;have y:(0:Int)<(l.length:Int):=(by omega);have n:=fun w=>As ⟨#[61,59,58,43,45,38,40,41,44]⟩ ((l.getD 0 0).toNat:Int) w;have t:(((l.getD 0 0).toNat:Int)).toNat.toUInt8=l.getD 0 0:=(by simp);rw[t,show(⟨#[61,59,58,43,45,38,40,41,44]⟩:ByteArray).data.toList=lV from rfl]at n;have k:=BQ lV (l.getD 0 0);have v:Lib.indexByte lV (l.getD 0 0)<9:=k;have x:=Lib.indexByte_ge lV (l.getD 0 0);have a:=BR lV (l.getD 0 0)
  have m:j9 l=if Go.Lib.indexByte lV (l.getD 0 0)<0 then bad 2 else⟨3,0,[l.getD 0 0],1,0⟩:=by
   unfold j9;rw[hp];rfl
  generalize A:l.getD 0 0=c at*;generalize Lib.indexByte lV c=i at*;clear hp k t;by_cases hi:i<0
  ·have f:QR (j9 l=bad 2):=by
    show j9 l=_;rw[m,aB hi]
   clear m a;go_enter func95,ntmps95
   go_wp2_with(first
    |(go_at_call 128;refine(d _).mono ?_;rintro e w' ⟨rfl,rfl⟩)
    |(go_at_call 122;refine(n _).mono ?_;rintro e w' ⟨rfl,rfl⟩))
   exact fY (by rw[results95,results92]) w.heap.size (bad 2) rfl rfl rfl rfl (aG w _) ⟨by rw[f.o],p⟩
  ·have f:QR (j9 l=⟨3,0,[c],1,0⟩):=by
    show j9 l=_;rw[m,ax hi]
   obtain⟨j,rfl⟩: ∃j:Nat,i=j:=⟨i.toNat,by omega⟩
   have u:=a j rfl;have q:j<9:=(by omega)
   have ex:(⟨#[61,59,58,43,45,38,40,41,44]⟩:ByteArray).extract j (j+1)=⟨#[c]⟩:=by
    apply LM (l:=[c]);rw[Lib.extract_data,show(⟨#[61,59,58,43,45,38,40,41,44]⟩:ByteArray).data.toList=lV from rfl,show j+1-j=1 by omega];have g:j<lV.length:=q;rw[bx g]
    have:lV[j]=c:=by
     rw[<-u];simp[List.getD,g]
    simp[this]
   have D: ¬(j:Int)<0:=(by omega);have E:(0:Int)<=(j:Int):=(by omega);have F:(j:Int)<=9:=(by omega);have G:(j:Int)+1<=9:=(by omega);have b:aq w (w.alloc (.cells #[ag 3,ag 0,ag 0,.string ⟨#[c]⟩] 127)):=am _ _;clear m a hi u;go_enter func95,ntmps95
   go_wp2_with(first
    |(go_at_call 128;refine(d _).mono ?_;rintro e w' ⟨rfl,rfl⟩)
    |(go_at_call 122;refine(n _).mono ?_;rintro e w' ⟨rfl,rfl⟩))
   exact fY (by rw[results95,results92]) w.heap.size ⟨3,0,[c],1,0⟩ rfl rfl rfl rfl (aG w _) ⟨by rw[f.o],b⟩
def firstT (l:List UInt8):T1:=if ju l xQ then lw l else if ju l xR then pt l else if isD (l.getD 0 0) then mJ l else if isL (l.getD 0 0) then kT l else j9 l
theorem Ho (s:ByteArray)(l:List UInt8)(A:s.data.toList=l)(F:l.length<=9223372036854775806)(G:0<l.length)(w:World)(I:gN w):
  Calls prog 55 #[.string s] w fun e w'=>e= .returned (sY (firstT l))/\aq w w':=by
 have M:s.size=l.length:=by rw[<-A,Lib.size_eq]
 have J:(0:Int)<(l.length:Int):=by omega
 have K: ∀h:0<s.size,s[0]=l.getD 0 0:=fun h=>lJ A 0 h;have k:aq w (w.alloc (.cells #[ag 0,ag 0,ag 0,.string ⟨#[]⟩] 127)):=am _ _;have v:(w.alloc (.cells #[ag 0,ag 0,ag 0,.string ⟨#[]⟩] 127)).heap[w.heap.size]? =ah #[ag 0,ag 0,ag 0,.string ⟨#[]⟩] 127:=aG w _;have r:QR (gN w):=I;clear I;have g:=fun w=>BP s ⟨#[48,48,48,48,45,48,48,45,48,48]⟩ l xQ A rfl (by omega) (by decide) w;have q:=fun w=>BP s ⟨#[48,48,58,48,48]⟩ l xR A rfl (by omega) (by decide) w;have B:=fun w=>lU (l.getD 0 0) w;have C:=fun w=>xS (l.getD 0 0) w;have x:firstT l=if ju l xQ then lw l else if ju l xR then pt l else if isD (l.getD 0 0) then mJ l else if isL (l.getD 0 0) then kT l else j9 l:=rfl;generalize L:l.getD 0 0=c at*;cases f1:ju l xQ with
 |true=>
  rw[f1]at g
  have z:QR (firstT l=lw l):=by
   show firstT l=_;rw[x,f1];rfl
  obtain⟨t,cT,y⟩: ∃t:T1,(∀w,gN w->Calls prog 89 #[.string s] w fun e w'=>e= .returned (.tuple #[.agg #[ag t.kind,ag t.n,ag 0,.string ⟨t.text.toArray⟩],ag (t.len:Int),ag t.err])/\aq w w')/\QR (lw l=t):=⟨lw l,fun w _hT=>Ki s l A f1 w _hT,rfl⟩
  clear x;go_enter func55,ntmps55
  go_wp2_with(first
   |(go_at_call 88;have _t:=g;refine(g _).mono ?_;rintro e D ⟨rfl,d⟩;have m:=ai d v;have a:=aw k d;clear _t g d v k)
   |(go_at_call 89;refine(cT _ (r.o.below a)).mono ?_;rintro e E ⟨rfl,f⟩;have p:=ai f m;have j:=aw a f;clear f m a)
   |(refine az rfl 127 _ _ rfl _ _ rfl rfl _ _ p (by kernel_rfl) (by simp) (by simp[Value.oneCell']) ?_))
  exact fY (by rw[results55,results92]) w.heap.size t rfl rfl rfl rfl (aL _ _ _ _ _ _ p) ⟨by rw[z.o,y.o],below_setRow j (aE _) _⟩
 |false=>
  rw[f1]at g;cases f2:ju l xR with
  |true=>
   rw[f2]at q
   have z:QR (firstT l=pt l):=by
    show firstT l=_;rw[x,f1,f2];rfl
   obtain⟨t,cT,y⟩: ∃t:T1,(∀w,gN w->Calls prog 90 #[.string s] w fun e w'=>e= .returned (.tuple #[.agg #[ag t.kind,ag t.n,ag 0,.string ⟨t.text.toArray⟩],ag (t.len:Int),ag t.err])/\aq w w')/\QR (pt l=t):=⟨pt l,fun w _hT=>Hm s l A F f2 w,rfl⟩
   clear x;go_enter func55,ntmps55
   go_wp2_with(first
    |(go_at_call 88;have _t:=g;refine(g _).mono ?_;rintro e D ⟨rfl,d⟩;have m:=ai d v;have a:=aw k d;clear _t g d v k)
    |(go_at_call 88;refine(q _).mono ?_;rintro e H ⟨rfl,i⟩;have u:=ai i m;have b:=aw a i;clear i m a)
    |(go_at_call 90;refine(cT _ (r.o.below b)).mono ?_;rintro e E ⟨rfl,f⟩;have p:=ai f u;have j:=aw b f;clear f u b)
    |(refine az rfl 127 _ _ rfl _ _ rfl rfl _ _ p (by kernel_rfl) (by simp) (by simp[Value.oneCell']) ?_))
   exact fY (by rw[results55,results92]) w.heap.size t rfl rfl rfl rfl (aL _ _ _ _ _ _ p) ⟨by rw[z.o,y.o],below_setRow j (aE _) _⟩
  |false=>
   rw[f2]at q;cases f3:isD c with
   |true=>
    rw[f3]at B
    have z:QR (firstT l=mJ l):=by
     show firstT l=_;rw[x,f1,f2,f3];rfl
    obtain⟨t,cT,y⟩: ∃t:T1,(∀w,gN w->Calls prog 92 #[.string s] w fun e w'=>e= .returned (.tuple #[.agg #[ag t.kind,ag t.n,ag 0,.string ⟨t.text.toArray⟩],ag (t.len:Int),ag t.err])/\aq w w')/\QR (mJ l=t):=⟨mJ l,fun w _hT=>Fk s l A F w,rfl⟩
    clear x;go_enter func55,ntmps55
    go_wp2_with(first
     |(go_at_call 88;have _t:=g;refine(g _).mono ?_;rintro e D ⟨rfl,d⟩;have m:=ai d v;have a:=aw k d;clear _t g d v k)
     |(go_at_call 88;refine(q _).mono ?_;rintro e H ⟨rfl,i⟩;have u:=ai i m;have b:=aw a i;clear i m a)
     |(go_at_call 91;refine(B _).mono ?_;rintro e w' ⟨rfl,rfl⟩)
     |(go_at_call 92;refine(cT _ (r.o.below b)).mono ?_;rintro e E ⟨rfl,f⟩;have p:=ai f u;have j:=aw b f;clear f u b)
     |(refine az rfl 127 _ _ rfl _ _ rfl rfl _ _ p (by kernel_rfl) (by simp) (by simp[Value.oneCell']) ?_))
    exact fY (by rw[results55,results92]) w.heap.size t rfl rfl rfl rfl (aL _ _ _ _ _ _ p) ⟨by rw[z.o,y.o],below_setRow j (aE _) _⟩
   |false=>
    rw[f3]at B;cases f4:isL c with
    |true=>
     rw[f4]at C
     have z:QR (firstT l=kT l):=by
      show firstT l=_;rw[x,f1,f2,f3,f4];rfl
     obtain⟨t,cT,y⟩: ∃t:T1,(∀w,gN w->Calls prog 94 #[.string s] w fun e w'=>e= .returned (.tuple #[.agg #[ag t.kind,ag t.n,ag 0,.string ⟨t.text.toArray⟩],ag (t.len:Int),ag t.err])/\aq w w')/\QR (kT l=t):=⟨kT l,fun w _hT=>Kf s l A F w,rfl⟩
     clear x;go_enter func55,ntmps55
     go_wp2_with(first
      |(go_at_call 88;have _t:=g;refine(g _).mono ?_;rintro e D ⟨rfl,d⟩;have m:=ai d v;have a:=aw k d;clear _t g d v k)
      |(go_at_call 88;refine(q _).mono ?_;rintro e H ⟨rfl,i⟩;have u:=ai i m;have b:=aw a i;clear i m a)
      |(go_at_call 91;refine(B _).mono ?_;rintro e w' ⟨rfl,rfl⟩)
      |(go_at_call 93;refine(C _).mono ?_;rintro e w' ⟨rfl,rfl⟩)
      |(go_at_call 94;refine(cT _ (r.o.below b)).mono ?_;rintro e E ⟨rfl,f⟩;have p:=ai f u;have j:=aw b f;clear f u b)
      |(refine az rfl 127 _ _ rfl _ _ rfl rfl _ _ p (by kernel_rfl) (by simp) (by simp[Value.oneCell']) ?_))
     exact fY (by rw[results55,results92]) w.heap.size t rfl rfl rfl rfl (aL _ _ _ _ _ _ p) ⟨by rw[z.o,y.o],below_setRow j (aE _) _⟩
    |false=>
     rw[f4]at C
     have z:QR (firstT l=j9 l):=by
      show firstT l=_;rw[x,f1,f2,f3,f4];rfl
     obtain⟨t,cT,y⟩: ∃t:T1,(∀w,gN w->Calls prog 95 #[.string s] w fun e w'=>e= .returned (.tuple #[.agg #[ag t.kind,ag t.n,ag 0,.string ⟨t.text.toArray⟩],ag (t.len:Int),ag t.err])/\aq w w')/\QR (j9 l=t):=⟨j9 l,fun w _hT=>Kj s l A G w,rfl⟩
     clear x;go_enter func55,ntmps55
     go_wp2_with(first
      |(go_at_call 88;have _t:=g;refine(g _).mono ?_;rintro e D ⟨rfl,d⟩;have m:=ai d v;have a:=aw k d;clear _t g d v k)
      |(go_at_call 88;refine(q _).mono ?_;rintro e H ⟨rfl,i⟩;have u:=ai i m;have b:=aw a i;clear i m a)
      |(go_at_call 91;refine(B _).mono ?_;rintro e w' ⟨rfl,rfl⟩)
      |(go_at_call 93;refine(C _).mono ?_;rintro e w' ⟨rfl,rfl⟩)
      |(go_at_call 95;refine(cT _ (r.o.below b)).mono ?_;rintro e E ⟨rfl,f⟩;have p:=ai f u;have j:=aw b f;clear f u b)
      |(refine az rfl 127 _ _ rfl _ _ rfl rfl _ _ p (by kernel_rfl) (by simp) (by simp[Value.oneCell']) ?_))
     exact fY (by rw[results55,results92]) w.heap.size t rfl rfl rfl rfl (aL _ _ _ _ _ _ p) ⟨by rw[z.o,y.o],below_setRow j (aE _) _⟩
theorem Mo {p:UInt8->Bool}: ∀{l:List UInt8},0<l.length->p (l.getD 0 0)=true->1<=gW p l
 |[],h,_=>by simp at h
 |c::l,_,h=>by
  have a:p c=true:=(by simpa using h);simp[gW,a]
theorem Dy: ∀{l:List UInt8},0<l.length->isL (l.getD 0 0)=true->1<=wordLen l
 |[],h,_=>by simp at h
 |c::l,_,h=>by
  have a:isL c=true:=(by simpa using h);simp[wordLen,a]
structure Qo (l:List UInt8)(t:T1):Prop where
 pos:1<=t.len
 le:t.len<=l.length
 text:t.text=l.take t.text.length
 tle:t.text.length<=t.len
theorem xV (l:List UInt8)(k:0<l.length)(a:(firstT l).err=0):Qo l (firstT l):=by
 unfold firstT at a⊢;split at a
 ·rename_i j;rw[aB j];have b:=(qI j).1;have m:10<=l.length:=b;unfold lw at a⊢;split at a
  ·rename_i h;rw[aB h];exact⟨by simp,m,by simp,by simp⟩
  ·simp[bad]at a
 ·rename_i j;rw[ax j];split at a
  ·rename_i d;rw[aB d];have b:=(qI d).1;have o:5<=l.length:=b;unfold pt at a⊢;split at a
   ·simp[bad]at a
   ·rename_i h;rw[ax h];exact⟨by simp,o,by simp,by simp⟩
  ·rename_i d;rw[ax d];split at a
   ·rename_i i;rw[aB i];unfold mJ at a⊢;split at a
    ·simp[bad]at a
    ·rename_i h;rw[ax h];exact⟨Mo k i,lS _ l,by simp,by simp⟩
   ·rename_i i;rw[ax i];split at a
    ·rename_i g;rw[aB g];have f:=xM l;unfold kT at a⊢;split at a
     ·simp[bad]at a
     ·rename_i h;rw[ax h];exact⟨Dy k g,f,by simp[fb f],by simp;omega⟩
    ·rename_i g;rw[ax g];unfold j9 at a⊢;split at a
     ·rename_i e;rw[aB e]
      have n:[46,46]<+:l:=by
       unfold Lib.hasPrefix at e;exact List.isPrefixOf_iff_prefix.1 e
      obtain⟨r,rfl⟩:=n;exact⟨by simp,by simp,by simp,by simp⟩
     ·rename_i e;rw[ax e];split at a
      ·simp[bad]at a
      ·rename_i h;rw[ax h];match l,k with
       |c::r,_=>exact⟨by simp,by simp,by simp,by simp⟩
def lM (l:List UInt8):Nat->Option (List (T1×Nat)×Nat)
 |0=>some ([],0+eW false (l.drop 0))
 |n+1=>match lM l n with
  |none=>none
  |some (a,k)=>if k<l.length/\(firstT (l.drop k)).err=0 then some (a++[(firstT (l.drop k),k)],k+(firstT (l.drop k)).len+eW false (l.drop (k+(firstT (l.drop k)).len))) else none
def fK (l:List UInt8)(a:List (T1×Nat))(k:Nat):Prop:= ∃n,lM l n=some (a,k)
theorem fK.start {l:List UInt8}:fK l [] (0+eW false (l.drop 0)):=⟨0,rfl⟩
theorem fK.step {l:List UInt8}{a:List (T1×Nat)}{k:Nat}(h:fK l a k)(c:k<l.length)(b:(firstT (l.drop k)).err=0):fK l (a++[(firstT (l.drop k),k)]) (k+(firstT (l.drop k)).len+eW false (l.drop (k+(firstT (l.drop k)).len))):=by
 obtain⟨n,d⟩:=h;exact⟨n+1,by simp only[lM,d];rw[aB ⟨c,b⟩]⟩
theorem fK.ind {l:List UInt8}{M:List (T1×Nat)->Nat->Prop}(e:M [] (0+eW false (l.drop 0)))
  (g: ∀(b:List (T1×Nat)) (k:Nat),fK l b k->k<l.length->(firstT (l.drop k)).err=0->M b k->M (b++[(firstT (l.drop k),k)]) (k+(firstT (l.drop k)).len+eW false (l.drop (k+(firstT (l.drop k)).len)))):
  ∀(n:Nat) {b:List (T1×Nat)} {k:Nat},lM l n=some (b,k)->M b k
 |0,b,k,a=>by
  simp only[lM]at a;obtain⟨rfl,rfl⟩:=Prod.mk.inj (aN a);exact e
 |n+1,b,k,a=>by
  simp only[lM]at a;split at a
  ·cases a
  ·rename_i d i c;split at a
   ·rename_i f;obtain⟨rfl,rfl⟩:=Prod.mk.inj (aN a);exact g d i ⟨n,c⟩ f.1 f.2 (fK.ind e g n c)
   ·cases a
theorem ws {l:List UInt8}{k:Nat}(h:k<l.length):0<(l.drop k).length:=by simp;omega
theorem fK.le {l:List UInt8}{a:List (T1×Nat)}{k:Nat}(h:fK l a k):k<=l.length/\a.length<=k:=by
 obtain⟨n,e⟩:=h;refine fK.ind (M:=fun a k=>k<=l.length/\a.length<=k) ?_ ?_ n e
 ·have:=oK false (l.drop 0);simp at this⊢;omega
 ·intro a k _ d c i;have f:=xV _ (ws d) c;have:=oK false (l.drop (k+(firstT (l.drop k)).len));have g:=f.pos;have b:=f.le;simp at this b⊢;omega
theorem Fv (s:ByteArray)(l:List UInt8)(c:s.data.toList=l)(w:World):
  Calls prog 87 #[.string s] w fun e w'=>e= .returned (ag (remL l:Int))/\w'=w:=by
 have g:s.size=l.length:=by rw[<-c,Lib.size_eq]
 have a:=fun w=>As s 10 w;have b:(10:Int).toNat.toUInt8=10:=by decide
 rw[c,b,Aq]at a;have d:remL l<=l.length:=lS _ l;by_cases h:remL l<l.length
 ·rw[aB h]at a;have f:(0:Int)<=(remL l:Int):=(by omega);go_enter func87,ntmps87;go_wp2_with(go_at_call 122;refine(a _).mono ?_;rintro e w' ⟨rfl,rfl⟩)
  go_ret;exact⟨rfl,rfl⟩
 ·rw[ax h]at a;have e:remL l=l.length:=(by omega);rw[e];go_enter func87,ntmps87;go_wp2_with(go_at_call 122;refine(a _).mono ?_;rintro e w' ⟨rfl,rfl⟩)
  go_ret;exact⟨rfl,rfl⟩
theorem BV (s:ByteArray)(l:List UInt8)(C:s.data.toList=l)(S:l.length<=9223372036854775806)(f r:Nat)(z:f<=l.length)(H:f+eW false (l.drop f)=r)(w:World):
  Calls prog 54 #[.string s,ag (f:Int)] w fun e w'=>e= .returned (ag (r:Int))/\w'=w:=by
 have N:s.size=l.length:=by rw[<-C,Lib.size_eq]
 have J:QR (f+eW false (l.drop f)=r):=H;clear H;go_enter func54,ntmps54;go_wp2;go_loop [1] (fun i=> ∃k:Nat,k<=l.length/\i=ag k/\r=k+eW false (l.drop k)) (fun i=>l.length-(intOf i).toNat);case atStart=>exact⟨f,z,rfl,J.o.symm⟩
 case round=>
  obtain⟨k,R,rfl,hinv⟩:=hrel;have q:QR (r=k+eW false (l.drop k)):=hinv;clear hinv;by_cases L:k<l.length
  ·have x:(k:Int)<(l.length:Int):=(by omega);have K:(0:Int)<=(k:Int):=(by omega);have P: ∀h:k<s.size,s[k]=l.getD k 0:=fun h=>lJ C k h;have A:(l.drop k).getD 0 0=l.getD k 0:=(by simp[List.getElem?_drop]);have u:0<(l.drop k).length:=(by simp;omega);have m: ∀n,(l.drop k).drop n=l.drop (k+n):=fun n=>(by rw[List.drop_drop]);have a:=Fj (l.drop k) u;have b:=Hb (l.drop k) u;have d:=Hd (l.drop k);rw[A]at a b d;rw[m]at a b;have cr:=fun w=>Fv (s.extract k s.size) (l.drop k) (by rw[Lib.extract_data,C];exact dg (by simp;omega)) w;have B:remL (l.drop k)<=(l.drop k).length:=lS _ _;simp only[fq]at B;rw[N]at cr;generalize Q:l.getD k 0=c at*;generalize remL (l.drop k)=n at*;by_cases p:c.toNat=32\/c.toNat=9\/c.toNat=10
   ·have t:=a p;have g:QR (eW false (l.drop k)=1+eW false (l.drop (k+1))):=t;clear t a b d cr m;rcases(show c.toNat=32\/(c.toNat≠32/\c.toNat=9)\/(c.toNat≠32/\c.toNat≠9/\c.toNat=10) from by omega) with y|⟨F,y⟩|⟨F,G,y⟩
    ·have E:((c.toNat:Int)==32)=true:=(by simp;omega);clear p y;go_wp2;go_round;case rel=>exact⟨k+1,by omega,by go_num,by have:=q.o;have:=g.o;omega⟩
     case measure=>simp[intOf];omega
    ·have I:((c.toNat:Int)==32)=false:=(by simp;omega);have E:((c.toNat:Int)==9)=true:=(by simp;omega);clear p y F;go_wp2;go_round;case rel=>exact⟨k+1,by omega,by go_num,by have:=q.o;have:=g.o;omega⟩
     case measure=>simp[intOf];omega
    ·have I:((c.toNat:Int)==32)=false:=(by simp;omega);have D:((c.toNat:Int)==9)=false:=(by simp;omega);have E:((c.toNat:Int)==10)=true:=(by simp;omega);clear p y F G;go_wp2;go_round;case rel=>exact⟨k+1,by omega,by go_num,by have:=q.o;have:=g.o;omega⟩
     case measure=>simp[intOf];omega
   ·have I:((c.toNat:Int)==32)=false:=(by simp;omega);have D:((c.toNat:Int)==9)=false:=(by simp;omega);have E:((c.toNat:Int)==10)=false:=(by simp;omega);by_cases j:c.toNat=35
    ·obtain⟨t,M⟩:=b j;have g:QR (eW false (l.drop k)=n+eW false (l.drop (k+n))):=t;have O:((c.toNat:Int)==35)=true:=(by simp;omega);clear t a b d p j m;go_wp2_with(go_at_call 87;refine(cr _).mono ?_;rintro e w' ⟨rfl,rfl⟩)
     go_round;case rel=>exact⟨k+n,by omega,by go_num,by have:=q.o;have:=g.o;omega⟩
     case measure=>simp[intOf];omega
    ·have g:QR (eW false (l.drop k)=0):=d fun _=>⟨p,j⟩
     have O:((c.toNat:Int)==35)=false:=(by simp;omega);clear a b d p j cr m;go_wp2;go_ret;exact⟨by rw[show r=k from by have:=q.o;have:=g.o;omega];rfl,rfl⟩
  ·have v:k=l.length:=(by omega)
   have g:QR (eW false (l.drop k)=0):=by
    rw[v,List.drop_length];exact rfl
   have x: ¬(k:Int)<(l.length:Int):=(by omega);clear v;go_wp2;go_ret;exact⟨by rw[show r=k from by have:=q.o;have:=g.o;omega];rfl,rfl⟩
def kE:List (T1×Nat)->List Value
 |[]=>[]
 |p::l=>ag p.1.kind::ag p.1.n::ag (p.2:Int):: .string ⟨p.1.text.toArray⟩::kE l
theorem xW (t:T1)(k:Nat): ∀l:List (T1×Nat),kE (l++[(t,k)])=kE l++[ag t.kind,ag t.n,ag (k:Int),.string ⟨t.text.toArray⟩]
 |[]=>rfl
 |s::l=>by simp[kE,xW t k l]
theorem Mp:(prog.info? 127).map (fun i=>(i.zero,i.size,i.bytes))=some (some (.agg #[ag 0,ag 0,ag 0,.string ⟨#[]⟩]),4,40):=by kernel_rfl
theorem Kk:prog.underlying 91=some (.slice 127):=by kernel_rfl
theorem Fw {w w':World}{a:Nat}{e:TypeId}{size:Nat}{v:Value}{n:Nat}{xs:List Value}(h:w.ownsRow a e size v n xs)(i:aq w w'):w'.ownsRow a e size v n xs:=by
 obtain⟨f,c⟩:=h;refine⟨f,?_⟩;rcases c with c|⟨g,cap,b,k,j,d,r⟩
 ·exact .inl c
 ·exact .inr ⟨g,cap,b,k,j,(i.block g (aI d)).trans d,r⟩
theorem Au {w:World}{a:Nat}{e:TypeId}{size:Nat}{v:Value}{n:Nat}{xs:List Value}(h:w.ownsRow a e size v n xs){k:Nat}{c:Array Value}{t:TypeId}(d:w.heap[k]? =ah c t)(m:t≠e):v.ownBlock≠some k:=by
 obtain⟨_,b⟩:=h;rcases b with⟨b,_⟩|⟨g,cap,f,o,p,l,r⟩
 ·subst b;simp[Value.ownBlock]
 ·subst o;intro i;have j:g=k:=(by simpa[Value.ownBlock] using i);subst j;rw[l]at d;exact m (Obj.cells.inj (aN d)).2.1.symm
def jH (l:List UInt8)(a:Nat)(w:World)(v:Value)(er at_:Int):Prop:=
 (6000<l.length/\v=af/\er=4/\at_=0)\/
 (∃(b:List (T1×Nat)) (k:Nat),l.length<=6000/\fK l b k/\k<l.length/\(firstT (l.drop k)).err≠0/\v=af/\er=(firstT (l.drop k)).err/\at_=(k:Int))\/
 (∃(b:List (T1×Nat)) (k:Nat),l.length<=6000/\fK l b k/\ ¬k<l.length/\w.ownsRow a 127 4 v b.length (kE b)/\er=0/\at_=0)
theorem jH.much {l:List UInt8}{a:Nat}{w:World}(h:6000<l.length):jH l a w (af) 4 0:= .inl ⟨h,rfl,rfl,rfl⟩
theorem jH.wrong {l:List UInt8}{a:Nat}{w:World}{b:List (T1×Nat)}{k:Nat}(c:l.length<=6000)(d:fK l b k)(f:k<l.length)(e:(firstT (l.drop k)).err≠0):jH l a w (af) (firstT (l.drop k)).err (k:Int):= .inr (.inl ⟨b,k,c,d,f,e,rfl,rfl,rfl⟩)
theorem jH.right {l:List UInt8}{a:Nat}{w:World}{b:List (T1×Nat)}{k:Nat}{v:Value}(c:l.length<=6000)(d:fK l b k)(e: ¬k<l.length)(f:w.ownsRow a 127 4 v b.length (kE b)):jH l a w v 0 0:= .inr (.inr ⟨b,k,c,d,e,f,rfl,rfl⟩)
theorem pI:prog.underlying 48=some (.struct (prog.fieldsOf 48)):=by kernel_rfl
theorem wt {R:Ending->World->Prop}{a:Act}{w:World}(g:Nat)(v:Value)(er at_:Int)(i:a.defers=[])(d:a.tmps.getD 2 undef=v)(e:a.tmps.getD 3 undef=ab g 0)
  (j:w.heap[g]? =ah #[ag er,ag at_] 48) (f:R (.returned (.tuple #[v,.agg #[ag er,ag at_]])) w):bodyPost prog f26 R .ret a w:=by
 refine aX (v:= .tuple #[v,.agg #[ag er,ag at_]]) ?_ i f;have b:a.tmps[2]?.getD undef=v:=by simpa using d
 have c:a.tmps[3]?.getD undef=ab g 0:=by simpa using e
 have k:=ef (P:=prog) w g 48 48 _ _ _ j pI rfl (by kernel_rfl);simp[results,results26,b,c,asAddr,k]
theorem Dz {w:World}{a:Nat}{e:TypeId}{size:Nat}{v:Value}{n:Nat}{xs:List Value}(h:w.ownsRow a e size v n xs){g:Nat}(l:v.ownBlock≠some g)(f:Array Value):(w.setRow g f).ownsRow a e size v n xs:=by
 obtain⟨j,c⟩:=h;refine⟨j,?_⟩;rcases c with c|⟨i,cap,b,d,k,m,r⟩
 ·exact .inl c
 ·refine .inr ⟨i,cap,b,d,k,(aW _ _ _ _ fun e=>l ?_).trans m,r⟩;subst d;simp[Value.ownBlock,e]
theorem gN.later {w w':World}(h:gN w)(a:aq w w'):gN w':=h.below a
theorem Mq (s:ByteArray)(l:List UInt8)(Q:s.data.toList=l)(hl:l.length<=9223372036854775807)(w:World)(P:gN w):
  Calls prog 26 #[.string s] w fun e w'=>(∃v er at_,e= .returned (.tuple #[v,.agg #[ag er,ag at_]])/\jH l w.heap.size w' v er at_)/\aq w w':=by
 have hz:s.size=l.length:=by rw[<-Q,Lib.size_eq]
 obtain⟨i0,hi,Y,Z,aa⟩:=jt Mp;have J:aq w (w.alloc (.cells #[ag 0,ag 0] 48)):=am _ _;have h0:(w.alloc (.cells #[ag 0,ag 0] 48)).heap[w.heap.size]? =ah #[ag 0,ag 0] 48:=aG w _;by_cases hm:6000<l.length
 ·have W:(6000:Int)<(l.length:Int):=by omega
  go_enter func26,ntmps26;go_wp2;exact wt w.heap.size (af) 4 0 rfl rfl rfl (aG w _) ⟨⟨_,_,_,rfl,jH.much hm⟩,am _ _⟩
 ·have W: ¬(6000:Int)<(l.length:Int):=by omega
  have HT:QR (gN w):=P;clear P;have c0:=fun w=>BV s l Q (by omega) 0 (0+eW false (l.drop 0)) (by omega) rfl w;have O:=fK.start (l:=l);generalize K:0+eW false (l.drop 0)=k0 at*;have HS:QR (fK l [] k0):=O;clear O K;go_enter func26,ntmps26;go_wp2_with(go_at_call 54;refine(c0 _).mono ?_;rintro e w' ⟨rfl,rfl⟩)
  go_loopw [4,5] (fun v i wr=> ∃(A:List (T1×Nat)) (k:Nat),i=ag k/\fK l A k/\wr.ownsRow w.heap.size 127 4 v A.length (kE A)/\wr.heap[w.heap.size]? =ah #[ag 0,ag 0] 48/\aq w wr) (fun _ i _=>l.length-(intOf i).toNat);case atStart=>exact⟨[],k0,rfl,HS.o,dl _ _ _ _,h0,J⟩
  case round=>
   obtain⟨A,k,rfl,q,c,F,b⟩:=hrel;clear h0 J HS c0;obtain⟨ac,ak⟩:=q.le;by_cases y:k<l.length
   ·have L:(k:Int)<(l.length:Int):=(by omega);have K:(0:Int)<=(k:Int):=(by omega);have ab:(k:Int)<=(l.length:Int):=(by omega);have cT: ∀w,gN w->Calls prog 55 #[.string (s.extract k l.length)] w fun e w'=>e= .returned (.tuple #[.agg #[ag (firstT (l.drop k)).kind,ag (firstT (l.drop k)).n,ag 0,.string ⟨(firstT (l.drop k)).text.toArray⟩],ag ((firstT (l.drop k)).len:Int),ag (firstT (l.drop k)).err])/\aq w w':=fun w P=>Ho (s.extract k l.length) (l.drop k) (by rw[Lib.extract_data,Q];exact dg (by simp)) (by simp;omega) (ws y) w P;by_cases E:(firstT (l.drop k)).err=0
    ·have m:=xV _ (ws y) E;have M:=fK.step q y E;have ae:=m.pos;have X:=m.le;simp only[fq]at X;have I:=fun w=>BV s l Q (by omega) (k+(firstT (l.drop k)).len) _ (by omega) rfl w;rw[E]at cT;generalize firstT (l.drop k)=t at*;generalize V:k+t.len+eW false (l.drop (k+t.len))=k1 at*;have aj:k<k1:=(by omega);have HX:QR (fK l (A++[(t,k)]) k1):=M;have q1:IntKind.i64.wrap ((k:Int)+(t.len:Int))=((k+t.len:Nat):Int):=(by rw[bO];omega);clear M E m V q;obtain⟨kd,nn,B,tl,R⟩:=t;dsimp only at*
     go_wp2_with(first
      |(go_at_call 55;refine(cT _ (HT.o.later b)).mono ?_;rintro e S ⟨rfl,f⟩;have g:=ai f F;have d:=Fw c f;have a:=aw b f;clear F c b f cT)
      |(at_builtin;refine jb _ rfl _ _ 91 rfl w.heap.size 127 i0 (.agg #[ag 0,ag 0,ag 0,.string ⟨#[]⟩]) 4 40 Kk hi Y Z aa rfl (by decide) u4 A.length (kE A) rfl ((d.alloc _).alloc _) ⟨S.heap.size+1,0,none⟩ 1 1 [ag kd,ag nn,ag (k:Int),.string ⟨B.toArray⟩] rfl rfl ?c1 ?c2 ?c3 ?c4 ?c5 ?_))
     case c1=>
      intro j u x;match j,x with
      |0,x=>simp at x;subst x;simp[Addr.add]
      |1,x=>simp at x;subst x;simp[Addr.add]
      |2,x=>simp at x;subst x;simp[Addr.add]
      |3,x=>simp at x;subst x;simp[Addr.add]
     case c2=>intro u hu;simp at hu;rcases hu with rfl|rfl|rfl|rfl<;>rfl
     case c3=>unfold maxLen;omega
     case c4=>omega
     case c5=>have:=a.size;simp;omega
     ·intro v' w2 z p _
      have H:w2.ownsRow w.heap.size 127 4 v' (A++[((⟨kd,nn,B,tl,R⟩:T1),k)]).length (kE (A++[((⟨kd,nn,B,tl,R⟩:T1),k)])):=by
       rw[xW];simp only[aQ,bU,gO,bV];exact z
      have lf:=aI g;have r:=(dM S (.cells #[ag kd,ag nn,ag (k:Int),.string ⟨B.toArray⟩] 127) _ lf).trans g;have G:=(dM _ (.cells #[ag kd,ag nn,ag (k:Int),.string ⟨B.toArray⟩] 127) _ (aI r)).trans r;have U:=(p.block _ (aI G) (fun e=>Au d g (by decide) e.symm)).trans G;have C:aq w w2:=((a.alloc a.size _).alloc (by have:=a.size;simp;omega) _).grown p (by have:=a.size;simp;omega) (fun k hk=>(d.lt k hk).1);clear z p d g a r G lf;go_wp2_with(go_at_call 54;refine(I _).mono ?_;rintro e w' ⟨rfl,rfl⟩)
      go_roundw;case rel=>exact⟨_,k1,rfl,HX.o,H,U,C⟩
      case measure=>
       have:=HX.o.le;simp[intOf];omega
    ·have ad:((firstT (l.drop k)).err !=0)=true:=(by simpa using E);have T: ∀w',QR (jH l w.heap.size w' (af) (firstT (l.drop k)).err (k:Int)):=fun w'=>jH.wrong (by omega) q y E;clear E q c;generalize firstT (l.drop k)=t at*;obtain⟨kd,nn,B,tl,R⟩:=t;dsimp only at*
     go_wp2_with(first
      |(go_at_call 55;refine(cT _ (HT.o.later b)).mono ?_;rintro e S ⟨rfl,f⟩;have g:=ai f F;have a:=aw b f;have r:=(dM S (.cells #[ag kd,ag nn,ag 0,.string ⟨B.toArray⟩] 127) _ (aI g)).trans g;have D:=a.alloc a.size (.cells #[ag kd,ag nn,ag 0,.string ⟨B.toArray⟩] 127);clear F b f cT g)
      |(refine az rfl 48 _ _ rfl _ _ rfl rfl _ _ r (by kernel_rfl) (by simp) (by simp[Value.oneCell']) ?_))
     exact wt w.heap.size (af) R (k:Int) rfl rfl rfl (aL _ _ _ _ _ _ r) ⟨⟨_,_,_,rfl,(T _).o⟩,below_setRow D (aE _) _⟩
   ·have N:=Au c F (by decide);have T: ∀I,QR (jH l w.heap.size (wr.setRow w.heap.size I) u4 0 0):=fun I=>jH.right (by omega) q y (Dz c N I);have L: ¬(k:Int)<(l.length:Int):=(by omega);clear q c N;go_wp2_with(refine az rfl 48 _ _ rfl _ _ rfl rfl _ _ F (by kernel_rfl) (by simp) (by simp[Value.oneCell']) ?_)
    exact wt w.heap.size u4 0 0 rfl rfl rfl (aL _ _ _ _ _ _ F) ⟨⟨_,_,_,rfl,(T _).o⟩,below_setRow b (aE _) _⟩
def namedL (l:List UInt8):Bool:=decide (l.length≠0)&&(decide (l.length<=20)&&(decide (wordLen l=l.length)&& !isWordL l))
theorem tV {w:World}{a:Nat}{e:TypeId}{size:Nat}{v:Value}{n:Nat}{xs:List Value}(h:w.ownsRow a e size v n xs)(m:0<n):
  ∃g cap:Nat,v= .slice (some (ae g 0)) n cap/\ ∀(i:Nat) (u:Value),xs[i]? =some u->w.cell? (ae g i)=some u:=by
 obtain⟨_,c⟩:=h;rcases c with⟨_,c⟩|⟨g,cap,d,k,l,j,_,_,_,f⟩
 ·omega
 ·refine⟨g,cap,k,fun i u b=> ?_⟩;rw[a8 _ _ _ _ _ _ j];rw[<-f,iK]at b;split at b
  ·simpa using b
  ·cases b
theorem fK.iter {l:List UInt8}{a:List (T1×Nat)}{k:Nat}(h:fK l a k): ∃n,lM l n=some (a,k):=h
theorem tW {l:List UInt8}{n:Nat}(h:lM l n=none): ∀m,n<=m->lM l m=none
 |0,a=>by have:n=0:=by omega
          subst this;exact h
 |m+1,a=>by
  by_cases e:n=m+1
  ·rw[<-e];exact h
  ·simp only[lM,tW h m (by omega)]
def Qp (n:Nat)(a:List (T1×Nat)):List (T1×Nat):=a.map fun p=>(p.1,n+p.2)
theorem Hp {l:List UInt8}{c d:List (T1×Nat)}{k j:Nat}(h:fK l c k)(f:fK l d j)(o: ¬(k<l.length/\(firstT (l.drop k)).err=0))(i: ¬(j<l.length/\(firstT (l.drop j)).err=0)):c=d/\k=j:=by
 obtain⟨n,b⟩:=h.iter;obtain⟨m,a⟩:=f.iter;have p:lM l (n+1)=none:=by simp only[lM,b];rw[ax o]
 have m1:lM l (m+1)=none:=by simp only[lM,a];rw[ax i]
 have e:n=m:=by
  rcases Nat.lt_trichotomy n m with g|g|g
  ·have:=tW p m (by omega);rw[a]at this;cases this
  ·exact g
  ·have:=tW m1 n (by omega);rw[b]at this;cases this
 subst e;rw[b]at a;have:=aN a;exact⟨congrArg Prod.fst this,congrArg Prod.snd this⟩
theorem Hq (s:ByteArray)(l:List UInt8)(m:s.data.toList=l)(q:l.length<=9223372036854775806)(w:World):
  Calls prog 115 #[.string s] w fun e w'=>e= .returned (.bool (namedL l))/\aq w w':=by
 have t:s.size=l.length:=by rw[<-m,Lib.size_eq]
 have a:s.toList.isEmpty=l.isEmpty:=by rw[Lib.toList_data,m]
 have cl:=fun w=>vS s l m q w;have j:=fun w=>xT s l m w;by_cases d:l.length=0
 ·have f:QR (namedL l=false):=by show namedL l=false;simp[namedL,d]
  have r:s.toList.isEmpty=true:=(by rw[a];simpa using d);clear a d;go_enter func115,ntmps115
  go_wp2_with(first
   |(go_at_call 125;refine(cl _).mono ?_;rintro e w' ⟨rfl,rfl⟩)
   |(go_at_call 127;refine(j _).mono ?_;rintro e p ⟨rfl,c⟩))
  go_ret;exact⟨by rw[f.o];rfl,aH _ _⟩
 ·have r:s.toList.isEmpty=false:=by rw[a];cases l<;>simp at d⊢
  clear a;by_cases g:l.length<=20
  ·have n:(l.length:Int)<=20:=(by omega);by_cases i:wordLen l=l.length
   ·have f:QR (namedL l= !isWordL l):=(by show namedL l=_;simp[namedL,d,g,i]);rw[i]at cl;clear d i;generalize isWordL l=b at*;go_enter func115,ntmps115
    go_wp2_with(first
     |(go_at_call 125;refine(cl _).mono ?_;rintro e w' ⟨rfl,rfl⟩)
     |(go_at_call 127;refine(j _).mono ?_;rintro e p ⟨rfl,c⟩))
    go_ret;exact⟨by rw[f.o];rfl,c⟩
   ·have f:QR (namedL l=false):=(by show namedL l=false;simp[namedL,i]);have u:((wordLen l:Int)==(l.length:Int))=false:=(by simp;omega);clear d i;generalize wordLen l=k at*;go_enter func115,ntmps115
    go_wp2_with(first
     |(go_at_call 125;refine(cl _).mono ?_;rintro e w' ⟨rfl,rfl⟩)
     |(go_at_call 127;refine(j _).mono ?_;rintro e p ⟨rfl,c⟩))
    go_ret;exact⟨by rw[f.o];rfl,aH _ _⟩
  ·have n: ¬(l.length:Int)<=20:=(by omega);have f:QR (namedL l=false):=(by show namedL l=false;simp[namedL,g]);clear d g;go_enter func115,ntmps115
   go_wp2_with(first
    |(go_at_call 125;refine(cl _).mono ?_;rintro e w' ⟨rfl,rfl⟩)
    |(go_at_call 127;refine(j _).mono ?_;rintro e p ⟨rfl,c⟩))
   go_ret;exact⟨by rw[f.o];rfl,aH _ _⟩
section
def r8 (w:World)(v:Value)(a:List (T1×Nat)):Prop:=
 (∃c,v= .slice none 0 c/\a=[])\/ ∃g o c:Nat,v= .slice (some (ae g o)) a.length c/\a.length<9223372036854775808/\ ∀(j:Nat) (t:T1) (k:Nat),a[j]? =some (t,k)->
  w.cell? (ae g (o+j*4))=some (ag t.kind)/\w.cell? (ae g (o+j*4+1))=some (ag t.n)/\w.cell? (ae g (o+j*4+2))=some (ag (k:Int))/\w.cell? (ae g (o+j*4+3))=some (.string ⟨t.text.toArray⟩)
theorem r8.form {w:World}{v:Value}{l:List (T1×Nat)}(h:r8 w v l): ∃p c,v= .slice p l.length c:=by
 rcases h with⟨c,h,rfl⟩|⟨g,o,c,h,_⟩
 ·exact⟨none,c,h⟩
 ·exact⟨_,c,h⟩
theorem PC (a b c:Int)(s:ByteArray)(w:World):(Op.equalIn 10000 127 (.agg #[ag a,ag b,ag c,.string s]) (.agg #[ag a,ag b,ag c,.string s])).run prog w= .ok true w:=by
 rw[run_equalIn_struct w 9999 127 _ _ (by kernel_rfl) (by kernel_rfl)];simp[Program.fieldsOf,underlying127,Op.eqFields];go_simp
theorem Om (a b c:Int)(s:ByteArray)(w:World):(binOp .neq 127 (.agg #[ag a,ag b,ag c,.string s]) (.agg #[ag a,ag b,ag c,.string s])).run prog w= .ok (.bool false) w:=by
 rw[run_neq_struct,PC];simp[Result.andThen]
attribute [local go_sem] Om
end
def QQ (n:Nat)(a:List (T1×Nat))(j:Nat):List (T1×Nat):=Qp n (a.take j)++a.drop j
theorem BW: ∀(a:List (T1×Nat)) (j:Nat) (t:T1) (k:Nat),a[j]? =some (t,k)->(kE a)[j*4]? =some (ag t.kind)/\(kE a)[j*4+1]? =some (ag t.n)/\(kE a)[j*4+2]? =some (ag (k:Int))/\(kE a)[j*4+3]? =some (.string ⟨t.text.toArray⟩)
 |[],j,t,k,h=>by simp at h
 |p::a,0,t,k,h=>by
  have:p=(t,k):=(by simpa using h);subst this;simp[kE]
 |p::a,j+1,t,k,h=>by
  have:=BW a j t k (by simpa using h);have e:(j+1)*4=j*4+1+1+1+1:=(by omega);rw[e];simpa[kE] using this
theorem BX {w:World}{b:Nat}{v:Value}{a:List (T1×Nat)}(h:w.ownsRow b 127 4 v a.length (kE a))(i:a.length<9223372036854775808):r8 w v a:=by
 by_cases m:a.length=0
 ·obtain⟨_,e⟩:=h;rcases e with⟨e,n⟩|⟨g,cap,l,f,_⟩
  ·exact .inl ⟨0,e,io.1 n⟩
  ·refine .inr ⟨g,0,cap,f,i,fun j t k d=> ?_⟩;have:a=[]:=io.1 m;rw[this]at d;simp at d
 ·obtain⟨g,cap,f,c⟩:=tV h (by omega);refine .inr ⟨g,0,cap,f,i,fun j t k d=> ?_⟩;obtain⟨f0,f1,f2,f3⟩:=BW a j t k d;rw[bV];exact⟨c _ _ f0,c _ _ f1,c _ _ f2,c _ _ f3⟩
end Go.Proofs.YtlkehieagdkgiaaGreatDoor
