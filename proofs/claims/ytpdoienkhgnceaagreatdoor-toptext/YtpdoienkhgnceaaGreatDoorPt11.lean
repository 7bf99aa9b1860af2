/- Texts of the proof. -/
import Derived.Lib.Walk
import Derived.Lib.BufferWrite
import Derived.Test.YtpdoienkhgnceaaGreatDoorPt01
import Derived.Test.YtpdoienkhgnceaaGreatDoorPt04
set_option maxRecDepth 100000
set_option maxHeartbeats 8000000
namespace Go.Proofs.YtpdoienkhgnceaaGreatDoor
open Go.Proofs.Tryz Go.RowKit Lx Vx Mx Msk
theorem Mt:(prog.info? 5).map (fun i=>(i.zero,i.size,i.bytes))=some (some (.int .u8 0),1,1):=by kernel_rfl
theorem Bu:prog.underlying 73=some (.slice 5):=by kernel_rfl
theorem JO:prog.underlying 133=some (.pointer 5):=by kernel_rfl
theorem Hl (s:ByteArray)(w:World)(v:s.size<=1000000):
  Calls prog 169 #[.string s] w fun e E=>e= .returned (.string s)/\ao w E:=by
 by_cases u:s.size=0
 ·have C:s=⟨#[]⟩:=by
   apply ByteArray.ext;exact Array.eq_empty_of_size_eq_zero u
  subst C;go_enter func169,ntmps169;go_wp2;go_ret;exact⟨rfl,aF _ _⟩
 ·obtain⟨y,hi,r,d,t⟩:=iV Mt;have a:(prog.info? 5).map (·.size)=some 1:=(by rw[hi];simp[d]);have n:prog.cellsOf 5=1:=(by kernel_rfl);obtain⟨M,f⟩: ∃M,M=madeCells (Value.int .u8 0).cells (((s.size:Nat):Int).toNat*y.size):=⟨_,rfl⟩
  have z:M.size=s.size:=(by rw[f,size_madeCells,d];simp)
  have B: ∀W:World,(Instr.makeSlice 73 (ag (s.size:Int)) (ag (s.size:Int))).run prog W= .ok (.slice (some (ae W.heap.size 0)) s.size s.size) (W.alloc (.cells M 5)):=fun W=>by
   have h:=run_make (P:=prog) W 73 5 y (.int .u8 0) Bu hi r .i64 .i64 (s.size:Int) (s.size:Int) (by omega) (by omega) (by rw[t];omega) (by omega);rw[<-f]at h;simpa using h
  clear f;have o:=Lib.run_copy_row_string (P:=prog) (w.alloc (.cells M 5)) 73 9 3 5 w.heap.size 0 s.size s.size s M 5 Bu a (aB w _) (aA _) (by omega);obtain⟨Y,i⟩: ∃Y,Y=(M.toList.take 0++Lib.byteCells s.data.toList++M.toList.drop (0+s.size)).toArray:=⟨_,rfl⟩
  rw[<-i]at o
  have b:Y.toList=Lib.byteCells s.data.toList:=by
   rw[i,List.toList_toArray,List.take_zero,List.nil_append,dn (by rw[cg];omega),iE]
  have A:Y.size=s.size:=(by rw[<-cg,b,Lib.byteCells_length,<-Lib.size_eq]);have c:((w.alloc (.cells M 5)).setRow w.heap.size Y).heap[w.heap.size]? =ah Y 5:=aK _ _ M _ 5 (0,0) (aB w _);have q:s.data.toList≠[]:=fun e=>u (by rw[Lib.size_eq,e];rfl)
  have g:=Lib.run_unsafeString_row (P:=prog) ((w.alloc (.cells M 5)).setRow w.heap.size Y) 133 3 9 5 JO n w.heap.size Y.size (by unfold World.shape?;rw[c]) s.data.toList q (by rw[<-Lib.size_eq];omega) (by rw[<-Lib.size_eq];omega)
   (fun j x D=>Lib.cells_of_row c Y.size j _ (by rw[da (by rw[cg];exact aA _),b];simp[Lib.byteCells,D]))
  rw[<-Lib.size_eq]at g;clear i;go_enter func169,ntmps169;go_wp2;go_ret;have l:ao w (w.alloc (.cells M 5)):=am w _;have m:Below w.heap.size (w.alloc (.cells M 5)) ((w.alloc (.cells M 5)).setRow w.heap.size Y):=⟨rfl,rfl,rfl,by simp,fun k F=>aQ _ _ _ _ (by omega)⟩
  exact⟨rfl,Lib.below_freeze (l.trans m) (p:=⟨w.heap.size,0,none⟩) (aA _) _⟩
theorem JP (s:ByteArray)(w:World)(a:s.size<=1000000):
  Calls prog 123 #[.string s] w fun e b=>e= .returned (.string s)/\ao w b:=by
 go_enter func123,ntmps123;go_wp2_with(go_at_call 169;refine(Hl s _ a).mono ?_;rintro e b ⟨rfl,c⟩)
 go_ret;exact⟨rfl,c⟩
theorem Dd {w:World}{g:Nat}{c a:Array Value}{t:TypeId}(b:w.heap[g]? =ah c t)(e:c=a):w.heap[g]? =ah a t:=by rw[b,e]
theorem Mu (s:ByteArray)(l:List UInt8)(y:s.data.toList=l)(C:l.length<=9223372036854775806)(w:World):
  Calls prog 72 #[.string s] w fun e u=>e= .returned (tH (jW l))/\ao w u:=by
 have G:s.size=l.length:=by rw[<-y,Lib.size_eq]
 have x:=fun w=>xd s l y C w;have F:=tG l;have d:ao w (w.alloc (.cells #[ag 0,ag 0,ag 0,.string ⟨#[]⟩] 114)):=am _ _;have m:(w.alloc (.cells #[ag 0,ag 0,ag 0,.string ⟨#[]⟩] 114)).heap[w.heap.size]? =ah #[ag 0,ag 0,ag 0,.string ⟨#[]⟩] 114:=aB w _;have i:jW l=if 20<wordLen l then bad 7 else⟨if isWordL (l.take (wordLen l)) then 2 else 1,0,l.take (wordLen l),wordLen l,0⟩:=rfl;generalize wordLen l=k at*;by_cases q:20<k
 ·have j:T4 (jW l=bad 7):=by
   show jW l=_;rw[i,ax q]
  have A:(20:Int)<(k:Int):=(by omega);clear i m;go_enter func72,ntmps72;go_wp2_with(go_at_call 122;refine(x _).mono ?_;rintro e u ⟨rfl,rfl⟩)
  exact gg (by rw[results72,results70]) w.heap.size (bad 7) rfl rfl rfl rfl (aB w _) ⟨by rw[j.o],d⟩
 ·rw[aw q]at i;have A: ¬(20:Int)<(k:Int):=(by omega);have H:(0:Int)<=(k:Int):=(by omega);have I:(k:Int)<=(l.length:Int):=(by omega);have r:(s.extract 0 k).data.toList=l.take k:=(by rw[Lib.extract_data,y];simp);have z:(s.extract 0 k).size<=1000000:=(by rw[Lib.size_eq,r];simp;omega);have B:=fun w=>JP (s.extract 0 k) w z;have t:=fun w=>yP (s.extract 0 k) (l.take k) r w;have g:=Ot r;cases hW:isWordL (l.take k) with
  |true=>
   rw[hW]at t
   have j:T4 (jW l=⟨2,0,l.take k,k,0⟩):=by
    show jW l=_;rw[i,hW];rfl
   have v:T4 (s.extract 0 k=⟨(l.take k).toArray⟩):=g;clear i hW g r;go_enter func72,ntmps72
   go_wp2_with(first
    |(go_at_call 122;refine(x _).mono ?_;rintro e u ⟨rfl,rfl⟩)
    |(go_at_call 123;refine(B _).mono ?_;rintro e D ⟨rfl,b⟩;have n:=ai b m;have a:=au d b;clear b m d)
    |(go_at_call 124;refine(t _).mono ?_;rintro e E ⟨rfl,c⟩;have p:=ai c n;have f:=au a c;clear c n a)
    |(refine aC rfl 114 _ _ rfl _ _ rfl rfl _ _ p (by kernel_rfl) (by simp) (by simp[Value.oneCell']) ?_))
   exact gg (by rw[results72,results70]) w.heap.size ⟨2,0,l.take k,k,0⟩ rfl rfl rfl rfl (Dd (aK _ _ _ _ _ _ p) (by rw[v.o])) ⟨by rw[j.o],below_setRow f (aA _) _⟩
  |false=>
   rw[hW]at t
   have j:T4 (jW l=⟨1,0,l.take k,k,0⟩):=by
    show jW l=_;rw[i,hW];rfl
   have v:T4 (s.extract 0 k=⟨(l.take k).toArray⟩):=g;clear i hW g r;go_enter func72,ntmps72
   go_wp2_with(first
    |(go_at_call 122;refine(x _).mono ?_;rintro e u ⟨rfl,rfl⟩)
    |(go_at_call 123;refine(B _).mono ?_;rintro e D ⟨rfl,b⟩;have n:=ai b m;have a:=au d b;clear b m d)
    |(go_at_call 124;refine(t _).mono ?_;rintro e E ⟨rfl,c⟩;have p:=ai c n;have f:=au a c;clear c n a)
    |(refine aC rfl 114 _ _ rfl _ _ rfl rfl _ _ p (by kernel_rfl) (by simp) (by simp[Value.oneCell']) ?_))
   exact gg (by rw[results72,results70]) w.heap.size ⟨1,0,l.take k,k,0⟩ rfl rfl rfl rfl (Dd (aK _ _ _ _ _ _ p) (by rw[v.o])) ⟨by rw[j.o],below_setRow f (aA _) _⟩
def mQ (y m d:Int):Int×Int:=if 1<=d/\d<=Cal.dim y m then(Cal.num y m d,0) else(0,3)
theorem OY (y m d:Int)(w:World)(a:fL w):
  Calls prog 120 #[.agg #[ag y,ag m,ag d]] w fun e b=>e= .returned (.tuple #[ag (mQ y m d).1,ag (mQ y m d).2])/\ao w b:=by
 unfold mQ;by_cases h:1<=d/\d<=Cal.dim y m
 ·rw[ax h];exact Hq y m d w a h.1 h.2
 ·rw[aw h];exact JR y m d w a (by omega)
def kN (l:List UInt8):T1:=if(mQ (valL ((l.drop 0).take 4)) (valL ((l.drop 5).take 2)) (valL ((l.drop 8).take 2))).2=0 then⟨5,(mQ (valL ((l.drop 0).take 4)) (valL ((l.drop 5).take 2)) (valL ((l.drop 8).take 2))).1,[],10,0⟩ else bad 3
theorem Mw (y m d:Int):(mQ y m d).2=0\/(mQ y m d).2=3:=by
 unfold mQ;split<;>simp
theorem My (s:ByteArray)(l:List UInt8)(t:s.data.toList=l)(p:ir l iY=true)(w:World)(g:fL w):
  Calls prog 67 #[.string s] w fun e X=>e= .returned (tH (kN l))/\ao w X:=by
 have hz:s.size=l.length:=by rw[<-t,Lib.size_eq]
 obtain⟨a,_⟩:=rq p;have r:10<=l.length:=a;have R:(4:Int)<=(l.length:Int):=by omega
 have S:(7:Int)<=(l.length:Int):=by omega
 have L:(10:Int)<=(l.length:Int):=by omega
 obtain⟨T,E⟩:=lJ p 0 4 (by decide) (by decide);obtain⟨U,G⟩:=lJ p 5 2 (by decide) (by decide);obtain⟨V,H⟩:=lJ p 8 2 (by decide) (by decide);have D:=fun w=>oc (s.extract 0 4) ((l.drop 0).take 4) (by rw[Lib.extract_data,t]) (by omega) E w;have C:=fun w=>oc (s.extract 5 7) ((l.drop 5).take 2) (by rw[Lib.extract_data,t]) (by omega) G w;have B:=fun w=>oc (s.extract 8 10) ((l.drop 8).take 2) (by rw[Lib.extract_data,t]) (by omega) H w;have J:kN l=if(mQ (valL ((l.drop 0).take 4)) (valL ((l.drop 5).take 2)) (valL ((l.drop 8).take 2))).2=0 then⟨5,(mQ (valL ((l.drop 0).take 4)) (valL ((l.drop 5).take 2)) (valL ((l.drop 8).take 2))).1,[],10,0⟩ else bad 3:=rfl;generalize valL ((l.drop 0).take 4)=y at*;generalize valL ((l.drop 5).take 2)=m at*;generalize valL ((l.drop 8).take 2)=d at*;have A:=fun w g=>OY y m d w g;have f:=Mw y m d;generalize (mQ y m d).1=c at*;generalize (mQ y m d).2=ev at*;have z:T4 (kN l=if ev=0 then⟨5,c,[],10,0⟩ else bad 3):=J;clear J T U V E G H a p;have b:ao w (w.alloc (.cells #[ag 0,ag 0,ag 0,.string ⟨#[]⟩] 114)):=am _ _;have I:(w.alloc (.cells #[ag 0,ag 0,ag 0,.string ⟨#[]⟩] 114)).heap[w.heap.size]? =ah #[ag 0,ag 0,ag 0,.string ⟨#[]⟩] 114:=aB w _;have k:=g.below b;clear g;have g:=k;clear k;go_enter func67,ntmps67;go_wp2;generalize w.alloc (.cells #[ag 0,ag 0,ag 0,.string ⟨#[]⟩] 114)=Y at*;refine dH (fun _ _ W=>ao Y W) [kn 8 (.string s),kn 9 (.string (s.extract 0 4)),kn 10 (ag y),kn 11 (.string s),kn 12 (.string (s.extract 5 7)),kn 13 (ag m),kn 14 (.string s),kn 15 (.string (s.extract 8 10)),kn 16 (ag d),kn 17 (.agg #[ag y,ag m,ag d]),kn 18 (.tuple #[ag c,ag ev]),kn 7 (.tuple #[ag c,ag ev]),kn 19 (ag c),kn 20 (ag ev),kn 5 (ag c),kn 6 (ag ev)] (fun _=>(aF _ _).drew) (fun _ _ _ _ x h=>au h x) (by kernel_rfl) (fun M φ W i Q F ll N O=> ?_) (fun M φ W P i=> ?_)
 ·simp only[kn,d6,aR,a8,Act.put,aD,aJ,aI]at N;subst N;simp only[dz,Nat.reduceAdd]at O;dsimp only[kn,dK,fo,eD,Act.put];and_intros;all_goals first|exact trivial|intro hw hn Z K j
  all_goals try (go_simp;with_reducible exact j _ _ ⟨rfl,aF _ _⟩)
  all_goals go_simp
  ·refine(D _).mono ?_;rintro e v ⟨rfl,rfl⟩;exact j _ _ ⟨rfl,aF _ _⟩
  ·refine(C _).mono ?_;rintro e v ⟨rfl,rfl⟩;exact j _ _ ⟨rfl,aF _ _⟩
  ·refine(B _).mono ?_;rintro e v ⟨rfl,rfl⟩;exact j _ _ ⟨rfl,aF _ _⟩
  ·refine(A _ (g.below i)).mono ?_;rintro e v ⟨rfl,x⟩;exact j _ _ ⟨rfl,x⟩
 ·simp only[kn,ep,aR,a8,Act.put,aD,aJ,aI];have q:=ai i I;have n:=au b i;clear P i I b D C B A;rcases f with f|f
  ·have u:T4 (kN l=⟨5,c,[],10,0⟩):=by
    show kN l=_;rw[z.o,ax f]
   subst f;go_wp2_with(refine aC rfl 114 _ _ rfl _ _ rfl rfl _ _ q (by kernel_rfl) (by simp) (by simp[Value.oneCell']) ?_)
   exact gg (by rw[results67,results70]) w.heap.size ⟨5,c,[],10,0⟩ rfl rfl rfl rfl (aK _ _ _ _ _ _ q) ⟨by rw[u.o],below_setRow n (aA _) _⟩
  ·have u:T4 (kN l=bad 3):=by
    show kN l=_;rw[z.o,aw (by omega)]
   subst f;go_wp2_with(refine aC rfl 114 _ _ rfl _ _ rfl rfl _ _ q (by kernel_rfl) (by simp) (by simp[Value.oneCell']) ?_)
   exact gg (by rw[results67,results70]) w.heap.size (bad 3) rfl rfl rfl rfl (aK _ _ _ _ _ _ q) ⟨by rw[u.o],below_setRow n (aA _) _⟩
theorem Hr (s:ByteArray)(c:Int)(w:World):
  Calls prog 165 #[.string s,.int .u8 c] w fun e a=>e= .returned (ag (Lib.indexByte s.data.toList c.toNat.toUInt8))/\a=w:=by
 go_enter func165,ntmps165;go_wp2;rw[run_callFunc_extern func198 (by kernel_rfl) (by kernel_rfl) (by kernel_rfl) (e:=Extern.BytealgIndexByte.indexByte) (by kernel_rfl),Lib.run_indexByteString];simp only[Result.andThen];rw[Oper.upon_value];go_wp2;go_ret;exact⟨rfl,rfl⟩
theorem Bv (s:ByteArray)(c:Int)(w:World):
  Calls prog 119 #[.string s,.int .u8 c] w fun e a=>e= .returned (ag (Lib.indexByte s.data.toList c.toNat.toUInt8))/\a=w:=by
 go_enter func119,ntmps119;go_wp2_with(go_at_call 165;refine(Hr _ _ _).mono ?_;rintro e a ⟨rfl,rfl⟩)
 go_ret;exact⟨rfl,rfl⟩
theorem Ht (s p:ByteArray)(w:World):
  Calls prog 125 #[.string s,.string p] w fun e a=>e= .returned (.bool (Lib.hasPrefix s.data.toList p.data.toList))/\a=w:=by
 rw[<-Lib.hasPrefix_of_take,<-Lib.size_eq,<-Lib.size_eq];go_enter func125,ntmps125;go_wp2
 ·rename_i h;go_ret;refine⟨?_,rfl⟩;show Ending.returned (Value.bool ((s.extract 0 p.size).toList==p.toList))=_;rw[Lib.extract_toList,Lib.toList_data];simp[h]
 ·rename_i h;go_ret;refine⟨?_,rfl⟩;show Ending.returned (Value.bool false)=_;simp[h]
theorem Mz (s:ByteArray)(l:List UInt8)(t:s.data.toList=l)(C:0<l.length)(w:World):
  Calls prog 73 #[.string s] w fun e f=>e= .returned (tH (jg l))/\ao w f:=by
 have D:s.size=l.length:=by rw[<-t,Lib.size_eq]
 have d:=fun w=>Ht s ⟨#[46,46]⟩ w;rw[t]at d;have q:ao w (w.alloc (.cells #[ag 0,ag 0,ag 0,.string ⟨#[]⟩] 114)):=am _ _;cases hp:Lib.hasPrefix l [46,46] with
 |true=>
  have g:T4 (jg l=⟨3,0,[46,46],2,0⟩):=by
   show jg l=_;unfold jg;rw[hp];rfl
  rw[show(⟨#[46,46]⟩:ByteArray).data.toList=[46,46] from rfl,hp]at d;have b:ao w (w.alloc (.cells #[ag 3,ag 0,ag 0,.string ⟨#[46,46]⟩] 114)):=am _ _;clear hp;go_enter func73,ntmps73;go_wp2_with(go_at_call 125;refine(d _).mono ?_;rintro e f ⟨rfl,rfl⟩)
  exact gg (by rw[results73,results70]) w.heap.size ⟨3,0,[46,46],2,0⟩ rfl rfl rfl rfl (aB w _) ⟨by rw[g.o],b⟩
 |false=>
  rw[show(⟨#[46,46]⟩:ByteArray).data.toList=[46,46] from rfl,hp]at d;have A: ∀h:0<s.size,s[0]=l.getD 0 0:=fun h=>l7 t 0 h;have z:(0:Int)<(l.length:Int):=(by omega);have p:=fun w=>Bv ⟨#[61,59,58,43,45,38,40,41,44]⟩ ((l.getD 0 0).toNat:Int) w;have u:(((l.getD 0 0).toNat:Int)).toNat.toUInt8=l.getD 0 0:=(by simp);rw[u,show(⟨#[61,59,58,43,45,38,40,41,44]⟩:ByteArray).data.toList=lq from rfl]at p;have m:=Db lq (l.getD 0 0);have x:Lib.indexByte lq (l.getD 0 0)<9:=m;have y:=Lib.indexByte_ge lq (l.getD 0 0);have a:=Dc lq (l.getD 0 0)
  have n:jg l=if Go.Lib.indexByte lq (l.getD 0 0)<0 then bad 2 else⟨3,0,[l.getD 0 0],1,0⟩:=by
   unfold jg;rw[hp];rfl
  generalize B:l.getD 0 0=c at*;generalize Lib.indexByte lq c=i at*;clear hp m u;by_cases hi:i<0
  ·have g:T4 (jg l=bad 2):=by
    show jg l=_;rw[n,ax hi]
   clear n a;go_enter func73,ntmps73
   go_wp2_with(first
    |(go_at_call 125;refine(d _).mono ?_;rintro e f ⟨rfl,rfl⟩)
    |(go_at_call 119;refine(p _).mono ?_;rintro e f ⟨rfl,rfl⟩))
   exact gg (by rw[results73,results70]) w.heap.size (bad 2) rfl rfl rfl rfl (aB w _) ⟨by rw[g.o],q⟩
  ·have g:T4 (jg l=⟨3,0,[c],1,0⟩):=by
    show jg l=_;rw[n,aw hi]
   obtain⟨j,rfl⟩: ∃j:Nat,i=j:=⟨i.toNat,by omega⟩
   have v:=a j rfl;have r:j<9:=(by omega)
   have ex:(⟨#[61,59,58,43,45,38,40,41,44]⟩:ByteArray).extract j (j+1)=⟨#[c]⟩:=by
    apply Ot (l:=[c]);rw[Lib.extract_data,show(⟨#[61,59,58,43,45,38,40,41,44]⟩:ByteArray).data.toList=lq from rfl,show j+1-j=1 by omega];have k:j<lq.length:=r;rw[bG k]
    have:lq[j]=c:=by
     rw[<-v];simp[List.getD,k]
    simp[this]
   have E: ¬(j:Int)<0:=(by omega);have F:(0:Int)<=(j:Int):=(by omega);have G:(j:Int)<=9:=(by omega);have H:(j:Int)+1<=9:=(by omega);have b:ao w (w.alloc (.cells #[ag 3,ag 0,ag 0,.string ⟨#[c]⟩] 114)):=am _ _;clear n a hi v;go_enter func73,ntmps73
   go_wp2_with(first
    |(go_at_call 125;refine(d _).mono ?_;rintro e f ⟨rfl,rfl⟩)
    |(go_at_call 119;refine(p _).mono ?_;rintro e f ⟨rfl,rfl⟩))
   exact gg (by rw[results73,results70]) w.heap.size ⟨3,0,[c],1,0⟩ rfl rfl rfl rfl (aB w _) ⟨by rw[g.o],b⟩
def firstT (l:List UInt8):T1:=if ir l iY then kN l else if ir l kM then ng l else if isD (l.getD 0 0) then mj l else if isL (l.getD 0 0) then jW l else jg l
theorem JT (s:ByteArray)(l:List UInt8)(C:s.data.toList=l)(H:l.length<=9223372036854775806)(I:0<l.length)(w:World)(K:fL w):
  Calls prog 35 #[.string s] w fun e m=>e= .returned (tH (firstT l))/\ao w m:=by
 have O:s.size=l.length:=by rw[<-C,Lib.size_eq]
 have L:(0:Int)<(l.length:Int):=by omega
 have M: ∀h:0<s.size,s[0]=l.getD 0 0:=fun h=>l7 C 0 h;have k:ao w (w.alloc (.cells #[ag 0,ag 0,ag 0,.string ⟨#[]⟩] 114)):=am _ _;have x:(w.alloc (.cells #[ag 0,ag 0,ag 0,.string ⟨#[]⟩] 114)).heap[w.heap.size]? =ah #[ag 0,ag 0,ag 0,.string ⟨#[]⟩] 114:=aB w _;have u:T4 (fL w):=K;clear K;have g:=fun w=>Da s ⟨#[48,48,48,48,45,48,48,45,48,48]⟩ l iY C rfl (by omega) (by decide) w;have r:=fun w=>Da s ⟨#[48,48,58,48,48]⟩ l kM C rfl (by omega) (by decide) w;have D:=fun w=>mo (l.getD 0 0) w;have E:=fun w=>yO (l.getD 0 0) w;have y:firstT l=if ir l iY then kN l else if ir l kM then ng l else if isD (l.getD 0 0) then mj l else if isL (l.getD 0 0) then jW l else jg l:=rfl;generalize N:l.getD 0 0=c at*;cases f1:ir l iY with
 |true=>
  rw[f1]at g
  have A:T4 (firstT l=kN l):=by
   show firstT l=_;rw[y,f1];rfl
  obtain⟨t,B,z⟩: ∃t:T1,(∀w,fL w->Calls prog 67 #[.string s] w fun e m=>e= .returned (.tuple #[.agg #[ag t.kind,ag t.n,ag 0,.string ⟨t.text.toArray⟩],ag (t.len:Int),ag t.err])/\ao w m)/\T4 (kN l=t):=⟨kN l,fun w _hT=>My s l C f1 w _hT,rfl⟩
  clear y;go_enter func35,ntmps35
  go_wp2_with(first
   |(go_at_call 66;have _t:=g;refine(g _).mono ?_;rintro e F ⟨rfl,d⟩;have p:=ai d x;have a:=au k d;clear _t g d x k)
   |(go_at_call 67;refine(B _ (u.o.below a)).mono ?_;rintro e G ⟨rfl,f⟩;have q:=ai f p;have j:=au a f;clear f p a)
   |(refine aC rfl 114 _ _ rfl _ _ rfl rfl _ _ q (by kernel_rfl) (by simp) (by simp[Value.oneCell']) ?_))
  exact gg (by rw[results35,results70]) w.heap.size t rfl rfl rfl rfl (aK _ _ _ _ _ _ q) ⟨by rw[A.o,z.o],below_setRow j (aA _) _⟩
 |false=>
  rw[f1]at g;cases f2:ir l kM with
  |true=>
   rw[f2]at r
   have A:T4 (firstT l=ng l):=by
    show firstT l=_;rw[y,f1,f2];rfl
   obtain⟨t,B,z⟩: ∃t:T1,(∀w,fL w->Calls prog 68 #[.string s] w fun e m=>e= .returned (.tuple #[.agg #[ag t.kind,ag t.n,ag 0,.string ⟨t.text.toArray⟩],ag (t.len:Int),ag t.err])/\ao w m)/\T4 (ng l=t):=⟨ng l,fun w _hT=>JS s l C H f2 w,rfl⟩
   clear y;go_enter func35,ntmps35
   go_wp2_with(first
    |(go_at_call 66;have _t:=g;refine(g _).mono ?_;rintro e F ⟨rfl,d⟩;have p:=ai d x;have a:=au k d;clear _t g d x k)
    |(go_at_call 66;refine(r _).mono ?_;rintro e J ⟨rfl,i⟩;have v:=ai i p;have b:=au a i;clear i p a)
    |(go_at_call 68;refine(B _ (u.o.below b)).mono ?_;rintro e G ⟨rfl,f⟩;have q:=ai f v;have j:=au b f;clear f v b)
    |(refine aC rfl 114 _ _ rfl _ _ rfl rfl _ _ q (by kernel_rfl) (by simp) (by simp[Value.oneCell']) ?_))
   exact gg (by rw[results35,results70]) w.heap.size t rfl rfl rfl rfl (aK _ _ _ _ _ _ q) ⟨by rw[A.o,z.o],below_setRow j (aA _) _⟩
  |false=>
   rw[f2]at r;cases f3:isD c with
   |true=>
    rw[f3]at D
    have A:T4 (firstT l=mj l):=by
     show firstT l=_;rw[y,f1,f2,f3];rfl
    obtain⟨t,B,z⟩: ∃t:T1,(∀w,fL w->Calls prog 70 #[.string s] w fun e m=>e= .returned (.tuple #[.agg #[ag t.kind,ag t.n,ag 0,.string ⟨t.text.toArray⟩],ag (t.len:Int),ag t.err])/\ao w m)/\T4 (mj l=t):=⟨mj l,fun w _hT=>Hj s l C H w,rfl⟩
    clear y;go_enter func35,ntmps35
    go_wp2_with(first
     |(go_at_call 66;have _t:=g;refine(g _).mono ?_;rintro e F ⟨rfl,d⟩;have p:=ai d x;have a:=au k d;clear _t g d x k)
     |(go_at_call 66;refine(r _).mono ?_;rintro e J ⟨rfl,i⟩;have v:=ai i p;have b:=au a i;clear i p a)
     |(go_at_call 69;refine(D _).mono ?_;rintro e m ⟨rfl,rfl⟩)
     |(go_at_call 70;refine(B _ (u.o.below b)).mono ?_;rintro e G ⟨rfl,f⟩;have q:=ai f v;have j:=au b f;clear f v b)
     |(refine aC rfl 114 _ _ rfl _ _ rfl rfl _ _ q (by kernel_rfl) (by simp) (by simp[Value.oneCell']) ?_))
    exact gg (by rw[results35,results70]) w.heap.size t rfl rfl rfl rfl (aK _ _ _ _ _ _ q) ⟨by rw[A.o,z.o],below_setRow j (aA _) _⟩
   |false=>
    rw[f3]at D;cases f4:isL c with
    |true=>
     rw[f4]at E
     have A:T4 (firstT l=jW l):=by
      show firstT l=_;rw[y,f1,f2,f3,f4];rfl
     obtain⟨t,B,z⟩: ∃t:T1,(∀w,fL w->Calls prog 72 #[.string s] w fun e m=>e= .returned (.tuple #[.agg #[ag t.kind,ag t.n,ag 0,.string ⟨t.text.toArray⟩],ag (t.len:Int),ag t.err])/\ao w m)/\T4 (jW l=t):=⟨jW l,fun w _hT=>Mu s l C H w,rfl⟩
     clear y;go_enter func35,ntmps35
     go_wp2_with(first
      |(go_at_call 66;have _t:=g;refine(g _).mono ?_;rintro e F ⟨rfl,d⟩;have p:=ai d x;have a:=au k d;clear _t g d x k)
      |(go_at_call 66;refine(r _).mono ?_;rintro e J ⟨rfl,i⟩;have v:=ai i p;have b:=au a i;clear i p a)
      |(go_at_call 69;refine(D _).mono ?_;rintro e m ⟨rfl,rfl⟩)
      |(go_at_call 71;refine(E _).mono ?_;rintro e m ⟨rfl,rfl⟩)
      |(go_at_call 72;refine(B _ (u.o.below b)).mono ?_;rintro e G ⟨rfl,f⟩;have q:=ai f v;have j:=au b f;clear f v b)
      |(refine aC rfl 114 _ _ rfl _ _ rfl rfl _ _ q (by kernel_rfl) (by simp) (by simp[Value.oneCell']) ?_))
     exact gg (by rw[results35,results70]) w.heap.size t rfl rfl rfl rfl (aK _ _ _ _ _ _ q) ⟨by rw[A.o,z.o],below_setRow j (aA _) _⟩
    |false=>
     rw[f4]at E
     have A:T4 (firstT l=jg l):=by
      show firstT l=_;rw[y,f1,f2,f3,f4];rfl
     obtain⟨t,B,z⟩: ∃t:T1,(∀w,fL w->Calls prog 73 #[.string s] w fun e m=>e= .returned (.tuple #[.agg #[ag t.kind,ag t.n,ag 0,.string ⟨t.text.toArray⟩],ag (t.len:Int),ag t.err])/\ao w m)/\T4 (jg l=t):=⟨jg l,fun w _hT=>Mz s l C I w,rfl⟩
     clear y;go_enter func35,ntmps35
     go_wp2_with(first
      |(go_at_call 66;have _t:=g;refine(g _).mono ?_;rintro e F ⟨rfl,d⟩;have p:=ai d x;have a:=au k d;clear _t g d x k)
      |(go_at_call 66;refine(r _).mono ?_;rintro e J ⟨rfl,i⟩;have v:=ai i p;have b:=au a i;clear i p a)
      |(go_at_call 69;refine(D _).mono ?_;rintro e m ⟨rfl,rfl⟩)
      |(go_at_call 71;refine(E _).mono ?_;rintro e m ⟨rfl,rfl⟩)
      |(go_at_call 73;refine(B _ (u.o.below b)).mono ?_;rintro e G ⟨rfl,f⟩;have q:=ai f v;have j:=au b f;clear f v b)
      |(refine aC rfl 114 _ _ rfl _ _ rfl rfl _ _ q (by kernel_rfl) (by simp) (by simp[Value.oneCell']) ?_))
     exact gg (by rw[results35,results70]) w.heap.size t rfl rfl rfl rfl (aK _ _ _ _ _ _ q) ⟨by rw[A.o,z.o],below_setRow j (aA _) _⟩
theorem OZ {p:UInt8->Bool}: ∀{l:List UInt8},0<l.length->p (l.getD 0 0)=true->1<=fd p l
 |[],h,_=>by simp at h
 |c::l,_,h=>by
  have a:p c=true:=(by simpa using h);simp[fd,a]
theorem xg: ∀{l:List UInt8},0<l.length->isL (l.getD 0 0)=true->1<=wordLen l
 |[],h,_=>by simp at h
 |c::l,_,h=>by
  have a:isL c=true:=(by simpa using h);simp[wordLen,a]
structure Ts (l:List UInt8)(t:T1):Prop where
 pos:1<=t.len
 le:t.len<=l.length
 text:t.text=l.take t.text.length
 tle:t.text.length<=t.len
theorem yR (l:List UInt8)(k:0<l.length)(a:(firstT l).err=0):Ts l (firstT l):=by
 unfold firstT at a⊢;split at a
 ·rename_i j;rw[ax j];have b:=(rq j).1;have m:10<=l.length:=b;unfold kN at a⊢;split at a
  ·rename_i h;rw[ax h];exact⟨by simp,m,by simp,by simp⟩
  ·simp[bad]at a
 ·rename_i j;rw[aw j];split at a
  ·rename_i d;rw[ax d];have b:=(rq d).1;have o:5<=l.length:=b;unfold ng at a⊢;split at a
   ·simp[bad]at a
   ·rename_i h;rw[aw h];exact⟨by simp,o,by simp,by simp⟩
  ·rename_i d;rw[aw d];split at a
   ·rename_i i;rw[ax i];unfold mj at a⊢;split at a
    ·simp[bad]at a
    ·rename_i h;rw[aw h];exact⟨OZ k i,mi _ l,by simp,by simp⟩
   ·rename_i i;rw[aw i];split at a
    ·rename_i g;rw[ax g];have f:=tG l;unfold jW at a⊢;split at a
     ·simp[bad]at a
     ·rename_i h;rw[aw h];exact⟨xg k g,f,by simp[gu f],by simp;omega⟩
    ·rename_i g;rw[aw g];unfold jg at a⊢;split at a
     ·rename_i e;rw[ax e]
      have n:[46,46]<+:l:=by
       unfold Lib.hasPrefix at e;exact List.isPrefixOf_iff_prefix.1 e
      obtain⟨r,rfl⟩:=n;exact⟨by simp,by simp,by simp,by simp⟩
     ·rename_i e;rw[aw e];split at a
      ·simp[bad]at a
      ·rename_i h;rw[aw h];match l,k with
       |c::r,_=>exact⟨by simp,by simp,by simp,by simp⟩
def mf (l:List UInt8):Nat->Option (List (T1×Nat)×Nat)
 |0=>some ([],0+eA false (l.drop 0))
 |n+1=>match mf l n with
  |none=>none
  |some (a,k)=>if k<l.length/\(firstT (l.drop k)).err=0 then some (a++[(firstT (l.drop k),k)],k+(firstT (l.drop k)).len+eA false (l.drop (k+(firstT (l.drop k)).len))) else none
def eI (l:List UInt8)(a:List (T1×Nat))(k:Nat):Prop:= ∃n,mf l n=some (a,k)
theorem eI.start {l:List UInt8}:eI l [] (0+eA false (l.drop 0)):=⟨0,rfl⟩
theorem eI.step {l:List UInt8}{a:List (T1×Nat)}{k:Nat}(h:eI l a k)(c:k<l.length)(b:(firstT (l.drop k)).err=0):eI l (a++[(firstT (l.drop k),k)]) (k+(firstT (l.drop k)).len+eA false (l.drop (k+(firstT (l.drop k)).len))):=by
 obtain⟨n,d⟩:=h;exact⟨n+1,by simp only[mf,d];rw[ax ⟨c,b⟩]⟩
theorem eI.ind {l:List UInt8}{M:List (T1×Nat)->Nat->Prop}(e:M [] (0+eA false (l.drop 0)))
  (g: ∀(b:List (T1×Nat)) (k:Nat),eI l b k->k<l.length->(firstT (l.drop k)).err=0->M b k->M (b++[(firstT (l.drop k),k)]) (k+(firstT (l.drop k)).len+eA false (l.drop (k+(firstT (l.drop k)).len)))):
  ∀(n:Nat) {b:List (T1×Nat)} {k:Nat},mf l n=some (b,k)->M b k
 |0,b,k,a=>by
  simp only[mf]at a;obtain⟨rfl,rfl⟩:=Prod.mk.inj (ay a);exact e
 |n+1,b,k,a=>by
  simp only[mf]at a;split at a
  ·cases a
  ·rename_i d i c;split at a
   ·rename_i f;obtain⟨rfl,rfl⟩:=Prod.mk.inj (ay a);exact g d i ⟨n,c⟩ f.1 f.2 (eI.ind e g n c)
   ·cases a
theorem tJ {l:List UInt8}{k:Nat}(h:k<l.length):0<(l.drop k).length:=by simp;omega
theorem eI.le {l:List UInt8}{a:List (T1×Nat)}{k:Nat}(h:eI l a k):k<=l.length/\a.length<=k:=by
 obtain⟨n,e⟩:=h;refine eI.ind (M:=fun a k=>k<=l.length/\a.length<=k) ?_ ?_ n e
 ·have:=ph false (l.drop 0);simp at this⊢;omega
 ·intro a k _ d c i;have f:=yR _ (tJ d) c;have:=ph false (l.drop (k+(firstT (l.drop k)).len));have g:=f.pos;have b:=f.le;simp at this b⊢;omega
theorem Hu (s:ByteArray)(l:List UInt8)(d:s.data.toList=l)(w:World):
  Calls prog 65 #[.string s] w fun e c=>e= .returned (ag (remL l:Int))/\c=w:=by
 have i:s.size=l.length:=by rw[<-d,Lib.size_eq]
 have a:=fun w=>Bv s 10 w;have b:(10:Int).toNat.toUInt8=10:=by decide
 rw[d,b,Bt]at a;have f:remL l<=l.length:=mi _ l;by_cases h:remL l<l.length
 ·rw[ax h]at a;have g:(0:Int)<=(remL l:Int):=(by omega);go_enter func65,ntmps65;go_wp2_with(go_at_call 119;refine(a _).mono ?_;rintro e c ⟨rfl,rfl⟩)
  go_ret;exact⟨rfl,rfl⟩
 ·rw[aw h]at a;have e:remL l=l.length:=(by omega);rw[e];go_enter func65,ntmps65;go_wp2_with(go_at_call 119;refine(a _).mono ?_;rintro e c ⟨rfl,rfl⟩)
  go_ret;exact⟨rfl,rfl⟩
theorem Dg (s:ByteArray)(l:List UInt8)(C:s.data.toList=l)(T:l.length<=9223372036854775806)(f r:Nat)(z:f<=l.length)(H:f+eA false (l.drop f)=r)(w:World):
  Calls prog 34 #[.string s,ag (f:Int)] w fun e J=>e= .returned (ag (r:Int))/\J=w:=by
 have O:s.size=l.length:=by rw[<-C,Lib.size_eq]
 have K:T4 (f+eA false (l.drop f)=r):=H;clear H;go_enter func34,ntmps34;go_wp2;go_loop [1] (fun i=> ∃k:Nat,k<=l.length/\i=ag k/\r=k+eA false (l.drop k)) (fun i=>l.length-(intOf i).toNat);case atStart=>exact⟨f,z,rfl,K.o.symm⟩
 case round=>
  obtain⟨k,S,rfl,hinv⟩:=hrel;have q:T4 (r=k+eA false (l.drop k)):=hinv;clear hinv;by_cases M:k<l.length
  ·have x:(k:Int)<(l.length:Int):=(by omega);have L:(0:Int)<=(k:Int):=(by omega);have Q: ∀h:k<s.size,s[k]=l.getD k 0:=fun h=>l7 C k h;have A:(l.drop k).getD 0 0=l.getD k 0:=(by simp[List.getElem?_drop]);have u:0<(l.drop k).length:=(by simp;omega);have m: ∀n,(l.drop k).drop n=l.drop (k+n):=fun n=>(by rw[List.drop_drop]);have a:=He (l.drop k) u;have b:=JJ (l.drop k) u;have d:=JK (l.drop k);rw[A]at a b d;rw[m]at a b;have cr:=fun w=>Hu (s.extract k s.size) (l.drop k) (by rw[Lib.extract_data,C];exact da (by simp;omega)) w;have B:remL (l.drop k)<=(l.drop k).length:=mi _ _;simp only[fi]at B;rw[O]at cr;generalize R:l.getD k 0=c at*;generalize remL (l.drop k)=n at*;by_cases p:c.toNat=32\/c.toNat=9\/c.toNat=10
   ·have t:=a p;have g:T4 (eA false (l.drop k)=1+eA false (l.drop (k+1))):=t;clear t a b d cr m;rcases(show c.toNat=32\/(c.toNat≠32/\c.toNat=9)\/(c.toNat≠32/\c.toNat≠9/\c.toNat=10) from by omega) with y|⟨F,y⟩|⟨F,G,y⟩
    ·have E:((c.toNat:Int)==32)=true:=(by simp;omega);clear p y;go_wp2;go_round;case rel=>exact⟨k+1,by omega,by go_num,by have:=q.o;have:=g.o;omega⟩
     case measure=>simp[intOf];omega
    ·have I:((c.toNat:Int)==32)=false:=(by simp;omega);have E:((c.toNat:Int)==9)=true:=(by simp;omega);clear p y F;go_wp2;go_round;case rel=>exact⟨k+1,by omega,by go_num,by have:=q.o;have:=g.o;omega⟩
     case measure=>simp[intOf];omega
    ·have I:((c.toNat:Int)==32)=false:=(by simp;omega);have D:((c.toNat:Int)==9)=false:=(by simp;omega);have E:((c.toNat:Int)==10)=true:=(by simp;omega);clear p y F G;go_wp2;go_round;case rel=>exact⟨k+1,by omega,by go_num,by have:=q.o;have:=g.o;omega⟩
     case measure=>simp[intOf];omega
   ·have I:((c.toNat:Int)==32)=false:=(by simp;omega);have D:((c.toNat:Int)==9)=false:=(by simp;omega);have E:((c.toNat:Int)==10)=false:=(by simp;omega);by_cases j:c.toNat=35
    ·obtain⟨t,N⟩:=b j;have g:T4 (eA false (l.drop k)=n+eA false (l.drop (k+n))):=t;have P:((c.toNat:Int)==35)=true:=(by simp;omega);clear t a b d p j m;go_wp2_with(go_at_call 65;refine(cr _).mono ?_;rintro e J ⟨rfl,rfl⟩)
     go_round;case rel=>exact⟨k+n,by omega,by go_num,by have:=q.o;have:=g.o;omega⟩
     case measure=>simp[intOf];omega
    ·have g:T4 (eA false (l.drop k)=0):=d fun _=>⟨p,j⟩
     have P:((c.toNat:Int)==35)=false:=(by simp;omega);clear a b d p j cr m;go_wp2;go_ret;exact⟨by rw[show r=k from by have:=q.o;have:=g.o;omega];rfl,rfl⟩
  ·have v:k=l.length:=(by omega)
   have g:T4 (eA false (l.drop k)=0):=by
    rw[v,List.drop_length];exact rfl
   have x: ¬(k:Int)<(l.length:Int):=(by omega);clear v;go_wp2;go_ret;exact⟨by rw[show r=k from by have:=q.o;have:=g.o;omega];rfl,rfl⟩
def kO:List (T1×Nat)->List Value
 |[]=>[]
 |p::l=>ag p.1.kind::ag p.1.n::ag (p.2:Int):: .string ⟨p.1.text.toArray⟩::kO l
theorem yS (t:T1)(k:Nat): ∀l:List (T1×Nat),kO (l++[(t,k)])=kO l++[ag t.kind,ag t.n,ag (k:Int),.string ⟨t.text.toArray⟩]
 |[]=>rfl
 |s::l=>by simp[kO,yS t k l]
theorem O0:(prog.info? 114).map (fun i=>(i.zero,i.size,i.bytes))=some (some (.agg #[ag 0,ag 0,ag 0,.string ⟨#[]⟩]),4,40):=by kernel_rfl
theorem MA:prog.underlying 57=some (.slice 114):=by kernel_rfl
theorem Hv {w f:World}{a:Nat}{e:TypeId}{size:Nat}{v:Value}{n:Nat}{xs:List Value}(h:w.ownsRow a e size v n xs)(j:ao w f):f.ownsRow a e size v n xs:=by
 obtain⟨i,c⟩:=h;refine⟨i,?_⟩;rcases c with c|⟨g,cap,b,l,k,d,r⟩
 ·exact .inl c
 ·exact .inr ⟨g,cap,b,l,k,(j.block g (aH d)).trans d,r⟩
theorem Bw {w:World}{a:Nat}{e:TypeId}{size:Nat}{v:Value}{n:Nat}{xs:List Value}(h:w.ownsRow a e size v n xs){k:Nat}{c:Array Value}{t:TypeId}(d:w.heap[k]? =ah c t)(m:t≠e):v.ownBlock≠some k:=by
 obtain⟨_,b⟩:=h;rcases b with⟨b,_⟩|⟨g,cap,f,o,p,l,r⟩
 ·subst b;simp[Value.ownBlock]
 ·subst o;intro i;have j:g=k:=(by simpa[Value.ownBlock] using i);subst j;rw[l]at d;exact m (Obj.cells.inj (ay d)).2.1.symm
def jL (l:List UInt8)(a:Nat)(w:World)(v:Value)(er at_:Int):Prop:=
 (6000<l.length/\v=af/\er=4/\at_=0)\/
 (∃(b:List (T1×Nat)) (k:Nat),l.length<=6000/\eI l b k/\k<l.length/\(firstT (l.drop k)).err≠0/\v=af/\er=(firstT (l.drop k)).err/\at_=(k:Int))\/
 (∃(b:List (T1×Nat)) (k:Nat),l.length<=6000/\eI l b k/\ ¬k<l.length/\w.ownsRow a 114 4 v b.length (kO b)/\er=0/\at_=0)
theorem jL.much {l:List UInt8}{a:Nat}{w:World}(h:6000<l.length):jL l a w (af) 4 0:= .inl ⟨h,rfl,rfl,rfl⟩
theorem jL.wrong {l:List UInt8}{a:Nat}{w:World}{b:List (T1×Nat)}{k:Nat}(c:l.length<=6000)(d:eI l b k)(f:k<l.length)(e:(firstT (l.drop k)).err≠0):jL l a w (af) (firstT (l.drop k)).err (k:Int):= .inr (.inl ⟨b,k,c,d,f,e,rfl,rfl,rfl⟩)
theorem jL.right {l:List UInt8}{a:Nat}{w:World}{b:List (T1×Nat)}{k:Nat}{v:Value}(c:l.length<=6000)(d:eI l b k)(e: ¬k<l.length)(f:w.ownsRow a 114 4 v b.length (kO b)):jL l a w v 0 0:= .inr (.inr ⟨b,k,c,d,e,f,rfl,rfl⟩)
theorem od:prog.underlying 26=some (.struct (prog.fieldsOf 26)):=by kernel_rfl
theorem xH {R:Ending->World->Prop}{a:Act}{w:World}(g:Nat)(v:Value)(er at_:Int)(i:a.defers=[])(d:a.tmps.getD 2 undef=v)(e:a.tmps.getD 3 undef=ab g 0)
  (j:w.heap[g]? =ah #[ag er,ag at_] 26) (f:R (.returned (.tuple #[v,.agg #[ag er,ag at_]])) w):bodyPost prog f13 R .ret a w:=by
 refine aX (v:= .tuple #[v,.agg #[ag er,ag at_]]) ?_ i f;have b:a.tmps[2]?.getD undef=v:=by simpa using d
 have c:a.tmps[3]?.getD undef=ab g 0:=by simpa using e
 have k:=dZ (P:=prog) w g 26 26 _ _ _ j od rfl (by kernel_rfl);simp[results,results13,b,c,asAddr,k]
theorem E9 {w:World}{a:Nat}{e:TypeId}{size:Nat}{v:Value}{n:Nat}{xs:List Value}(h:w.ownsRow a e size v n xs){g:Nat}(l:v.ownBlock≠some g)(f:Array Value):(w.setRow g f).ownsRow a e size v n xs:=by
 obtain⟨j,c⟩:=h;refine⟨j,?_⟩;rcases c with c|⟨i,cap,b,d,k,m,r⟩
 ·exact .inl c
 ·refine .inr ⟨i,cap,b,d,k,(aQ _ _ _ _ fun e=>l ?_).trans m,r⟩;subst d;simp[Value.ownBlock,e]
theorem fL.later {w w':World}(h:fL w)(a:ao w w'):fL w':=h.below a
theorem O1 (s:ByteArray)(l:List UInt8)(T:s.data.toList=l)(hl:l.length<=9223372036854775807)(w:World)(S:fL w):
  Calls prog 13 #[.string s] w fun e B=>(∃v er at_,e= .returned (.tuple #[v,.agg #[ag er,ag at_]])/\jL l w.heap.size B v er at_)/\ao w B:=by
 have hz:s.size=l.length:=by rw[<-T,Lib.size_eq]
 obtain⟨i0,hi,ab,ac,ad⟩:=iV O0;have M:ao w (w.alloc (.cells #[ag 0,ag 0] 26)):=am _ _;have h0:(w.alloc (.cells #[ag 0,ag 0] 26)).heap[w.heap.size]? =ah #[ag 0,ag 0] 26:=aB w _;by_cases hm:6000<l.length
 ·have Z:(6000:Int)<(l.length:Int):=by omega
  go_enter func13,ntmps13;go_wp2;exact xH w.heap.size (af) 4 0 rfl rfl rfl (aB w _) ⟨⟨_,_,_,rfl,jL.much hm⟩,am _ _⟩
 ·have Z: ¬(6000:Int)<(l.length:Int):=by omega
  have HT:T4 (fL w):=S;clear S;have c0:=fun w=>Dg s l T (by omega) 0 (0+eA false (l.drop 0)) (by omega) rfl w;have R:=eI.start (l:=l);generalize N:0+eA false (l.drop 0)=k0 at*;have HS:T4 (eI l [] k0):=R;clear R N;go_enter func13,ntmps13;go_wp2_with(go_at_call 34;refine(c0 _).mono ?_;rintro e B ⟨rfl,rfl⟩)
  go_loopw [4,5] (fun v i wr=> ∃(A:List (T1×Nat)) (k:Nat),i=ag k/\eI l A k/\wr.ownsRow w.heap.size 114 4 v A.length (kO A)/\wr.heap[w.heap.size]? =ah #[ag 0,ag 0] 26/\ao w wr) (fun _ i _=>l.length-(intOf i).toNat);case atStart=>exact⟨[],k0,rfl,HS.o,df _ _ _ _,h0,M⟩
  case round=>
   obtain⟨A,k,rfl,q,c,H,b⟩:=hrel;clear h0 M HS c0;obtain⟨aj,ap⟩:=q.le;by_cases y:k<l.length
   ·have O:(k:Int)<(l.length:Int):=(by omega);have N:(0:Int)<=(k:Int):=(by omega);have ae:(k:Int)<=(l.length:Int):=(by omega);have K: ∀w,fL w->Calls prog 35 #[.string (s.extract k l.length)] w fun e B=>e= .returned (.tuple #[.agg #[ag (firstT (l.drop k)).kind,ag (firstT (l.drop k)).n,ag 0,.string ⟨(firstT (l.drop k)).text.toArray⟩],ag ((firstT (l.drop k)).len:Int),ag (firstT (l.drop k)).err])/\ao w B:=fun w S=>JT (s.extract k l.length) (l.drop k) (by rw[Lib.extract_data,T];exact da (by simp)) (by simp;omega) (tJ y) w S;by_cases G:(firstT (l.drop k)).err=0
    ·have m:=yR _ (tJ y) G;have P:=eI.step q y G;have al:=m.pos;have aa:=m.le;simp only[fi]at aa;have L:=fun w=>Dg s l T (by omega) (k+(firstT (l.drop k)).len) _ (by omega) rfl w;rw[G]at K;generalize firstT (l.drop k)=t at*;generalize Y:k+t.len+eA false (l.drop (k+t.len))=k1 at*;have an:k<k1:=(by omega);have HX:T4 (eI l (A++[(t,k)]) k1):=P;have q1:IntKind.i64.wrap ((k:Int)+(t.len:Int))=((k+t.len:Nat):Int):=(by rw[bQ];omega);clear P G m Y q;obtain⟨kd,C,D,tl,U⟩:=t;dsimp only at*
     go_wp2_with(first
      |(go_at_call 35;refine(K _ (HT.o.later b)).mono ?_;rintro e V ⟨rfl,f⟩;have g:=ai f H;have d:=Hv c f;have a:=au b f;clear H c b f K)
      |(at_builtin;refine eC _ rfl _ _ 57 rfl w.heap.size 114 i0 (.agg #[ag 0,ag 0,ag 0,.string ⟨#[]⟩]) 4 40 MA hi ab ac ad rfl (by decide) u4 A.length (kO A) rfl ((d.alloc _).alloc _) ⟨V.heap.size+1,0,none⟩ 1 1 [ag kd,ag C,ag (k:Int),.string ⟨D.toArray⟩] rfl rfl ?c1 ?c2 ?c3 ?c4 ?c5 ?_))
     case c1=>
      intro j u x;match j,x with
      |0,x=>simp at x;subst x;simp[Addr.add]
      |1,x=>simp at x;subst x;simp[Addr.add]
      |2,x=>simp at x;subst x;simp[Addr.add]
      |3,x=>simp at x;subst x;simp[Addr.add]
     case c2=>intro u hu;simp at hu;rcases hu with rfl|rfl|rfl|rfl<;>rfl
     case c3=>unfold maxLen;omega
     case c4=>omega
     case c5=>have:=a.size;simp;omega
     ·intro v' w2 z p _
      have J:w2.ownsRow w.heap.size 114 4 v' (A++[((⟨kd,C,D,tl,U⟩:T1),k)]).length (kO (A++[((⟨kd,C,D,tl,U⟩:T1),k)])):=by
       rw[yS];simp only[aN,bK,fN,bN];exact z
      have lf:=aH g;have r:=(dD V (.cells #[ag kd,ag C,ag (k:Int),.string ⟨D.toArray⟩] 114) _ lf).trans g;have I:=(dD _ (.cells #[ag kd,ag C,ag (k:Int),.string ⟨D.toArray⟩] 114) _ (aH r)).trans r;have X:=(p.block _ (aH I) (fun e=>Bw d g (by decide) e.symm)).trans I;have E:ao w w2:=((a.alloc a.size _).alloc (by have:=a.size;simp;omega) _).grown p (by have:=a.size;simp;omega) (fun k hk=>(d.lt k hk).1);clear z p d g a r I lf;go_wp2_with(go_at_call 34;refine(L _).mono ?_;rintro e B ⟨rfl,rfl⟩)
      go_roundw;case rel=>exact⟨_,k1,rfl,HX.o,J,X,E⟩
      case measure=>
       have:=HX.o.le;simp[intOf];omega
    ·have ak:((firstT (l.drop k)).err !=0)=true:=(by simpa using G);have W: ∀B,T4 (jL l w.heap.size B (af) (firstT (l.drop k)).err (k:Int)):=fun B=>jL.wrong (by omega) q y G;clear G q c;generalize firstT (l.drop k)=t at*;obtain⟨kd,C,D,tl,U⟩:=t;dsimp only at*
     go_wp2_with(first
      |(go_at_call 35;refine(K _ (HT.o.later b)).mono ?_;rintro e V ⟨rfl,f⟩;have g:=ai f H;have a:=au b f;have r:=(dD V (.cells #[ag kd,ag C,ag 0,.string ⟨D.toArray⟩] 114) _ (aH g)).trans g;have F:=a.alloc a.size (.cells #[ag kd,ag C,ag 0,.string ⟨D.toArray⟩] 114);clear H b f K g)
      |(refine aC rfl 26 _ _ rfl _ _ rfl rfl _ _ r (by kernel_rfl) (by simp) (by simp[Value.oneCell']) ?_))
     exact xH w.heap.size (af) U (k:Int) rfl rfl rfl (aK _ _ _ _ _ _ r) ⟨⟨_,_,_,rfl,(W _).o⟩,below_setRow F (aA _) _⟩
   ·have Q:=Bw c H (by decide);have W: ∀L,T4 (jL l w.heap.size (wr.setRow w.heap.size L) u4 0 0):=fun L=>jL.right (by omega) q y (E9 c Q L);have O: ¬(k:Int)<(l.length:Int):=(by omega);clear q c Q;go_wp2_with(refine aC rfl 26 _ _ rfl _ _ rfl rfl _ _ H (by kernel_rfl) (by simp) (by simp[Value.oneCell']) ?_)
    exact xH w.heap.size u4 0 0 rfl rfl rfl (aK _ _ _ _ _ _ H) ⟨⟨_,_,_,rfl,(W _).o⟩,below_setRow b (aA _) _⟩
def namedL (l:List UInt8):Bool:=decide (l.length≠0)&&(decide (l.length<=20)&&(decide (wordLen l=l.length)&& !isWordL l))
theorem uJ {w:World}{a:Nat}{e:TypeId}{size:Nat}{v:Value}{n:Nat}{xs:List Value}(h:w.ownsRow a e size v n xs)(m:0<n):
  ∃g cap:Nat,v= .slice (some (ae g 0)) n cap/\ ∀(i:Nat) (u:Value),xs[i]? =some u->w.cell? (ae g i)=some u:=by
 obtain⟨_,c⟩:=h;rcases c with⟨_,c⟩|⟨g,cap,d,k,l,j,_,_,_,f⟩
 ·omega
 ·refine⟨g,cap,k,fun i u b=> ?_⟩;rw[aW _ _ _ _ _ _ j];rw[<-f,gC]at b;split at b
  ·simpa using b
  ·cases b
theorem eI.iter {l:List UInt8}{a:List (T1×Nat)}{k:Nat}(h:eI l a k): ∃n,mf l n=some (a,k):=h
theorem uK {l:List UInt8}{n:Nat}(h:mf l n=none): ∀m,n<=m->mf l m=none
 |0,a=>by have:n=0:=by omega
          subst this;exact h
 |m+1,a=>by
  by_cases e:n=m+1
  ·rw[<-e];exact h
  ·simp only[mf,uK h m (by omega)]
def Tt (n:Nat)(a:List (T1×Nat)):List (T1×Nat):=a.map fun p=>(p.1,n+p.2)
theorem sc {l:List UInt8}{c d:List (T1×Nat)}{k j:Nat}(h:eI l c k)(f:eI l d j)(o: ¬(k<l.length/\(firstT (l.drop k)).err=0))(i: ¬(j<l.length/\(firstT (l.drop j)).err=0)):c=d/\k=j:=by
 obtain⟨n,b⟩:=h.iter;obtain⟨m,a⟩:=f.iter;have p:mf l (n+1)=none:=by simp only[mf,b];rw[aw o]
 have m1:mf l (m+1)=none:=by simp only[mf,a];rw[aw i]
 have e:n=m:=by
  rcases Nat.lt_trichotomy n m with g|g|g
  ·have:=uK p m (by omega);rw[a]at this;cases this
  ·exact g
  ·have:=uK m1 n (by omega);rw[b]at this;cases this
 subst e;rw[b]at a;have:=ay a;exact⟨congrArg Prod.fst this,congrArg Prod.snd this⟩
theorem JU (s:ByteArray)(l:List UInt8)(p:s.data.toList=l)(t:l.length<=9223372036854775806)(w:World):
  Calls prog 90 #[.string s] w fun e m=>e= .returned (.bool (namedL l))/\ao w m:=by
 have v:s.size=l.length:=by rw[<-p,Lib.size_eq]
 have a:s.toList.isEmpty=l.isEmpty:=by rw[Lib.toList_data,p]
 have i:=fun w=>xd s l p t w;have n:=fun w=>yP s l p w;by_cases d:l.length=0
 ·have f:T4 (namedL l=false):=by show namedL l=false;simp[namedL,d]
  have u:s.toList.isEmpty=true:=(by rw[a];simpa using d);clear a d;go_enter func90,ntmps90
  go_wp2_with(first
   |(go_at_call 122;refine(i _).mono ?_;rintro e m ⟨rfl,rfl⟩)
   |(go_at_call 124;refine(n _).mono ?_;rintro e r ⟨rfl,c⟩))
  go_ret;exact⟨by rw[f.o];rfl,aF _ _⟩
 ·have u:s.toList.isEmpty=false:=by rw[a];cases l<;>simp at d⊢
  clear a;by_cases g:l.length<=20
  ·have q:(l.length:Int)<=20:=(by omega);by_cases j:wordLen l=l.length
   ·have f:T4 (namedL l= !isWordL l):=(by show namedL l=_;simp[namedL,d,g,j]);rw[j]at i;clear d j;generalize isWordL l=b at*;go_enter func90,ntmps90
    go_wp2_with(first
     |(go_at_call 122;refine(i _).mono ?_;rintro e m ⟨rfl,rfl⟩)
     |(go_at_call 124;refine(n _).mono ?_;rintro e r ⟨rfl,c⟩))
    go_ret;exact⟨by rw[f.o];rfl,c⟩
   ·have f:T4 (namedL l=false):=(by show namedL l=false;simp[namedL,j]);have x:((wordLen l:Int)==(l.length:Int))=false:=(by simp;omega);clear d j;generalize wordLen l=k at*;go_enter func90,ntmps90
    go_wp2_with(first
     |(go_at_call 122;refine(i _).mono ?_;rintro e m ⟨rfl,rfl⟩)
     |(go_at_call 124;refine(n _).mono ?_;rintro e r ⟨rfl,c⟩))
    go_ret;exact⟨by rw[f.o];rfl,aF _ _⟩
  ·have q: ¬(l.length:Int)<=20:=(by omega);have f:T4 (namedL l=false):=(by show namedL l=false;simp[namedL,g]);clear d g;go_enter func90,ntmps90
   go_wp2_with(first
    |(go_at_call 122;refine(i _).mono ?_;rintro e m ⟨rfl,rfl⟩)
    |(go_at_call 124;refine(n _).mono ?_;rintro e r ⟨rfl,c⟩))
   go_ret;exact⟨by rw[f.o];rfl,aF _ _⟩
section
def sN (w:World)(v:Value)(a:List (T1×Nat)):Prop:=
 (∃c,v= .slice none 0 c/\a=[])\/ ∃g o c:Nat,v= .slice (some (ae g o)) a.length c/\a.length<9223372036854775808/\ ∀(j:Nat) (t:T1) (k:Nat),a[j]? =some (t,k)->
  w.cell? (ae g (o+j*4))=some (ag t.kind)/\w.cell? (ae g (o+j*4+1))=some (ag t.n)/\w.cell? (ae g (o+j*4+2))=some (ag (k:Int))/\w.cell? (ae g (o+j*4+3))=some (.string ⟨t.text.toArray⟩)
theorem sN.form {w:World}{v:Value}{l:List (T1×Nat)}(h:sN w v l): ∃p c,v= .slice p l.length c:=by
 rcases h with⟨c,h,rfl⟩|⟨g,o,c,h,_⟩
 ·exact⟨none,c,h⟩
 ·exact⟨_,c,h⟩
theorem SC (a b c:Int)(s:ByteArray)(w:World):(Op.equalIn 10000 114 (.agg #[ag a,ag b,ag c,.string s]) (.agg #[ag a,ag b,ag c,.string s])).run prog w= .ok true w:=by
 rw[run_equalIn_struct w 9999 114 _ _ (by kernel_rfl) (by kernel_rfl)];simp[Program.fieldsOf,underlying114,Op.eqFields];go_simp
theorem QX (a b c:Int)(s:ByteArray)(w:World):(binOp .neq 114 (.agg #[ag a,ag b,ag c,.string s]) (.agg #[ag a,ag b,ag c,.string s])).run prog w= .ok (.bool false) w:=by
 rw[run_neq_struct,SC];simp[Result.andThen]
attribute [local go_sem] QX
end
def T3 (n:Nat)(a:List (T1×Nat))(j:Nat):List (T1×Nat):=Tt n (a.take j)++a.drop j
theorem Dh: ∀(a:List (T1×Nat)) (j:Nat) (t:T1) (k:Nat),a[j]? =some (t,k)->(kO a)[j*4]? =some (ag t.kind)/\(kO a)[j*4+1]? =some (ag t.n)/\(kO a)[j*4+2]? =some (ag (k:Int))/\(kO a)[j*4+3]? =some (.string ⟨t.text.toArray⟩)
 |[],j,t,k,h=>by simp at h
 |p::a,0,t,k,h=>by
  have:p=(t,k):=(by simpa using h);subst this;simp[kO]
 |p::a,j+1,t,k,h=>by
  have:=Dh a j t k (by simpa using h);have e:(j+1)*4=j*4+1+1+1+1:=(by omega);rw[e];simpa[kO] using this
theorem Di {w:World}{b:Nat}{v:Value}{a:List (T1×Nat)}(h:w.ownsRow b 114 4 v a.length (kO a))(i:a.length<9223372036854775808):sN w v a:=by
 by_cases m:a.length=0
 ·obtain⟨_,e⟩:=h;rcases e with⟨e,n⟩|⟨g,cap,l,f,_⟩
  ·exact .inl ⟨0,e,gG.1 n⟩
  ·refine .inr ⟨g,0,cap,f,i,fun j t k d=> ?_⟩;have:a=[]:=gG.1 m;rw[this]at d;simp at d
 ·obtain⟨g,cap,f,c⟩:=uJ h (by omega);refine .inr ⟨g,0,cap,f,i,fun j t k d=> ?_⟩;obtain⟨f0,f1,f2,f3⟩:=Dh a j t k d;rw[bN];exact⟨c _ _ f0,c _ _ f1,c _ _ f2,c _ _ f3⟩
def exV (e:Ex)(sl:Value):Value:= .agg #[ag e.kind,ag e.a,ag e.b,.string ⟨e.name.toArray⟩,sl]
def TyE (w:World)(g:Nat):Prop:= ∃(a:Array Value) (fr:Nat×Nat),w.heap[g]? =some (.cells a 78 fr)
def dr (B:Nat->Prop):Nat->World->Value->List Ex->Prop
 |0,_,sl,e=>e=[]/\ ∃p c,sl= .slice p 0 c
 |d+1,w,sl,e=>(e=[]/\ ∃p c,sl= .slice p 0 c)\/ ∃g o c:Nat,(B g/\TyE w g)/\sl= .slice (some (ae g o)) e.length c/\e.length<9223372036854775808/\ ∀(j:Nat) (k:Ex),e[j]? =some k-> ∃f:Value,
  w.cell? (ae g (o+j*5))=some (ag k.kind)/\w.cell? (ae g (o+j*5+1))=some (ag k.a)/\w.cell? (ae g (o+j*5+2))=some (ag k.b)/\
  w.cell? (ae g (o+j*5+3))=some (.string ⟨k.name.toArray⟩)/\w.cell? (ae g (o+j*5+4))=some f/\dr B d w f k.kids
theorem dr.up {B:Nat->Prop}: ∀{d:Nat} {w:World} {sl:Value} {a:List Ex},dr B d w sl a->dr B (d+1) w sl a
 |0,_,_,_,h=> .inl h
 |d+1,w,sl,a,h=>by
  rcases h with h|⟨g,o,c,i,p,n,m⟩
  ·exact .inl h
  ·refine .inr ⟨g,o,c,i,p,n,fun j k l=> ?_⟩;obtain⟨q,c0,c1,b,e,f,r⟩:=m j k l;exact⟨q,c0,c1,b,e,f,dr.up r⟩
theorem dr.le {B:Nat->Prop}{d a:Nat}{w:World}{sl:Value}{b:List Ex}(h:dr B d w sl b)(c:d<=a):dr B a w sl b:=by
 obtain⟨n,rfl⟩: ∃n,a=d+n:=⟨a-d,by omega⟩
 clear c;induction n with
 |zero=>exact h
 |succ n e=>exact dr.up e
theorem dr.kept {B:Nat->Prop}{w w':World}(f: ∀g,B g->g<w.heap.size->w'.heap[g]? =w.heap[g]?): ∀{d:Nat} {sl:Value} {l:List Ex},dr B d w sl l->dr B d w' sl l
 |0,_,_,h=>h
 |d+1,sl,l,h=>by
  rcases h with h|⟨g,o,c,b,v,u,t⟩
  ·exact .inl h
  ·have x:TyE w' g:=by
    obtain⟨q,fr,h⟩:=b.2;exact⟨q,fr,(f g b.1 (aH h)).trans h⟩
   refine .inr ⟨g,o,c,⟨b.1,x⟩,v,u,fun j k s=> ?_⟩;obtain⟨y,c0,c1,m,n,p,r⟩:=t j k s;have e:w'.heap[g]? =w.heap[g]? :=f g b.1 (aU c0);have a: ∀i,w'.cell? (ae g i)=w.cell? (ae g i):=fun i=>dP e;exact⟨y,(a _).trans c0,(a _).trans c1,(a _).trans m,(a _).trans n,(a _).trans p,dr.kept f r⟩
theorem dr.mono {B b:Nat->Prop}(e: ∀g,B g->b g): ∀{d:Nat} {w:World} {sl:Value} {a:List Ex},dr B d w sl a->dr b d w sl a
 |0,_,_,_,h=>h
 |d+1,w,sl,a,h=>by
  rcases h with h|⟨g,o,c,f,s,q,p⟩
  ·exact .inl h
  ·refine .inr ⟨g,o,c,⟨e g f.1,f.2⟩,s,q,fun j k n=> ?_⟩;obtain⟨t,c0,c1,i,l,m,r⟩:=p j k n;exact⟨t,c0,c1,i,l,m,dr.mono e r⟩
theorem dr.lt {B:Nat->Prop}: ∀{d:Nat} {w:World} {sl:Value} {a:List Ex},dr B d w sl a->dr (fun k=>B k/\k<w.heap.size) d w sl a
 |0,_,_,_,h=>h
 |d+1,w,sl,a,h=>by
  rcases h with h|⟨g,o,c,b,f,p,e⟩
  ·exact .inl h
  ·cases a with
   |nil=>exact .inl ⟨rfl,_,_,f⟩
   |cons k0 a=>
    obtain⟨_,c0,_⟩:=e 0 k0 rfl;refine .inr ⟨g,o,c,⟨⟨b.1,aU c0⟩,b.2⟩,f,p,fun j k n=> ?_⟩;obtain⟨q,c0,c1,i,l,m,r⟩:=e j k n;exact⟨q,c0,c1,i,l,m,dr.lt r⟩
theorem dr.other {B:Nat->Prop}{b:Nat}{s:Array Value}{t:TypeId}{fr:Nat×Nat}: ∀{d:Nat} {w:World} {sl:Value} {f:List Ex},w.heap[b]? =some (.cells s t fr)->t≠78->dr B d w sl f->dr (fun k=>B k/\k≠b) d w sl f
 |0,_,_,_,_,_,h=>h
 |d+1,w,sl,f,l,m,h=>by
  rcases h with h|⟨g,o,c,a,A,z,y⟩
  ·exact .inl h
  ·have e:g≠b:=by
    rintro rfl;obtain⟨u,v,i⟩:=a.2;rw[l]at i;exact m (Obj.cells.inj (ay i)).2.1
   refine .inr ⟨g,o,c,⟨⟨a.1,e⟩,a.2⟩,A,z,fun j k x=> ?_⟩;obtain⟨C,c0,c1,n,p,q,r⟩:=y j k x;exact⟨C,c0,c1,n,p,q,dr.other l m r⟩
theorem dr.nil (B:Nat->Prop)(d:Nat)(w:World)(p:Option Addr)(c:Nat):dr B d w (.slice p 0 c) []:=by
 cases d with
 |zero=>exact⟨rfl,p,c,rfl⟩
 |succ d=>exact .inl ⟨rfl,p,c,rfl⟩
theorem dr.form {B:Nat->Prop}{d:Nat}{w:World}{sl:Value}{a:List Ex}(h:dr B d w sl a): ∃p c,sl= .slice p a.length c:=by
 cases d with
 |zero=>
  obtain⟨rfl,p,c,rfl⟩:=h;exact⟨p,c,rfl⟩
 |succ d=>
  rcases h with⟨rfl,p,c,rfl⟩|⟨g,o,c,_,b,_⟩
  ·exact⟨p,c,rfl⟩
  ·exact⟨_,c,b⟩
abbrev bp (g:Nat)(w a:World):Prop:=w.grownBy a (some g)
theorem bp.refl (g:Nat)(w:World):bp g w w:=⟨rfl,rfl,rfl,aA _,fun _ _ _=>rfl⟩
theorem bp.trans {g:Nat}{w e c:World}(h:bp g w e)(a:bp g e c):bp g w c:=
 ⟨a.os.trans h.os,a.tape.trans h.tape,a.output.trans h.output,bh h.size a.size,fun k d b=>(a.block k (aT d h.size) b).trans (h.block k d b)⟩
theorem bp.of_below {g:Nat}{w a:World}(h:ao w a):bp g w a:=⟨h.os,h.tape,h.output,h.size,fun k b _=>h.block k b⟩
theorem bp.kids {B:Nat->Prop}{g d:Nat}{w b:World}{sl:Value}{a:List Ex}(h:bp g w b)(f: ∀k,B k->k≠g)(i:dr B d w sl a):dr B d b sl a:=
 i.kept fun k c j=>h.block k j (fun e=>f k c (ay e))
theorem bp.row {g:Nat}{w b:World}{v:Value}{m:List (T1×Nat)}(h:bp g w b)(x:v.ownBlock≠some g)(f:sN w v m):sN b v m:=by
 rcases f with f|⟨gt,o,c,l,u,r⟩
 ·exact .inl f
 ·refine .inr ⟨gt,o,c,l,u,fun j t k s=> ?_⟩;obtain⟨c1,n,p,q⟩:=r j t k s;have d:gt≠g:=fun e=>x (by rw[l,e];rfl);have e:b.heap[gt]? =w.heap[gt]? :=h.block gt (aU c1) (fun e=>d (ay e));have a: ∀i,b.cell? (ae gt i)=w.cell? (ae gt i):=fun i=>dP e;exact⟨(a _).trans c1,(a _).trans n,(a _).trans p,(a _).trans q⟩
structure PS0 (all:List Tk)(E g:Nat)(v:Value):Prop where
 len:all.length<=6000
 fin:E<=6000
 own:v.ownBlock≠some g
 num: ∀p∈all,0<=p.1.n/\p.1.n<=999999
 glob:0≠g
def oA (w:World):Prop:= ∀j:Nat,j<7->w.cell? (ae 0 j)=some (.string ⟨(dO.getD j []).toArray⟩)
theorem bp.days {g:Nat}{w a:World}(h:bp g w a)(d:0≠g)(b:oA w):oA a:=fun j f=>by
 have c:=b j f;exact(dP (h.block 0 (aU c) (fun e=>d (ay e)))).trans c
structure PSt (all:List Tk)(E g:Nat)(v:Value)(w:World)(i n:Nat):Prop where
 blk:w.heap[g]? =ah #[v,ag (i:Int),ag (E:Int),ag (n:Int)] 63
 row:sN w v all
 le:i<=all.length
 tab:oA w
theorem PSt.below {all:List Tk}{E g:Nat}{v:Value}{w c:World}{i n:Nat}(h:PSt all E g v w i n)(a:ao w c)(b:PS0 all E g v):PSt all E g v c i n:=
 ⟨(a.block g (aH h.blk)).trans h.blk,(bp.of_below (g:=g) a).row b.own h.row,h.le,(bp.of_below (g:=g) a).days b.glob h.tab⟩
def kG (E:Nat)(r:List Tk):Value:= .agg #[ag (kindP r),ag (numP r),ag (atP E r:Int),.string ⟨(textP r).toArray⟩]
theorem d9:prog.underlying 78=some (.struct (prog.fieldsOf 78)):=by kernel_rfl
theorem s7 {e:Func}(s:Nat)(h:e.results= #[ResultVar.cell s 114]){R:Ending->World->Prop}{a:Act}{w:World}(g:Nat)(c0 c1 b c:Value)(j:a.defers=[])(f:a.tmps.getD s undef=ab g 0)
  (k:w.heap[g]? =ah #[c0,c1,b,c] 114) (i:R (.returned (.agg #[c0,c1,b,c])) w):bodyPost prog e R .ret a w:=by
 refine aX (v:= .agg #[c0,c1,b,c]) ?_ j i;have d:a.tmps[s]?.getD undef=ab g 0:=by simpa using f
 have l:=dZ (P:=prog) w g 114 114 _ _ _ k AP rfl (by kernel_rfl);simp[results,h,d,asAddr,l]
theorem jT {f:Func}(s:Nat)(h:f.results= #[ResultVar.cell s 78]){R:Ending->World->Prop}{a:Act}{w:World}(g:Nat)(c0 c1 b c d:Value)(k:a.defers=[])(i:a.tmps.getD s undef=ab g 0)
  (l:w.heap[g]? =ah #[c0,c1,b,c,d] 78) (j:R (.returned (.agg #[c0,c1,b,c,d])) w):bodyPost prog f R .ret a w:=by
 refine aX (v:= .agg #[c0,c1,b,c,d]) ?_ k j;have e:a.tmps[s]?.getD undef=ab g 0:=by simpa using i
 have m:=dZ (P:=prog) w g 78 78 _ _ _ l d9 rfl (by kernel_rfl);simp[results,h,e,asAddr,m]
theorem JV (c0 c1 a b:Value)(w:World):(Instr.field 114 (.agg #[c0,c1,a,b]) 0).run prog w= .ok c0 w:=by
 unfold Instr.field;simp[go_sem,asAgg]
theorem JW (c0 c1 a b:Value)(w:World):(Instr.field 114 (.agg #[c0,c1,a,b]) 1).run prog w= .ok c1 w:=by
 unfold Instr.field;simp[go_sem,asAgg]
theorem JX (c0 c1 a b:Value)(w:World):(Instr.field 114 (.agg #[c0,c1,a,b]) 2).run prog w= .ok a w:=by
 unfold Instr.field;simp[go_sem,asAgg]
theorem JY (c0 c1 b a:Value)(w:World):(Instr.field 114 (.agg #[c0,c1,b,a]) 3).run prog w= .ok a w:=by
 unfold Instr.field;simp[go_sem,asAgg]
attribute [go_sem] JV JW JX JY
theorem oe {all:List Tk}{E g:Nat}{v:Value}{w:World}{i n:Nat}(O:PS0 all E g v)(h:PSt all E g v w i n):
  Calls prog 75 #[.pointer (some ⟨g,0,none⟩)] w fun e U=>e= .returned (kG E (all.drop i))/\ao w U:=by
 have l:=aH h.blk;have u:=(dD w (.cells #[.int .i64 0,.int .i64 0,.int .i64 0,.string ⟨#[]⟩] 114) _ l).trans h.blk;have k0:=ak 0 u;have B:=ak 1 u;have C:=ak 2 u;have b:ao w (w.alloc (.cells #[.int .i64 0,.int .i64 0,.int .i64 0,.string ⟨#[]⟩] 114)):=am _ _;have y:=aB w (.cells #[.int .i64 0,.int .i64 0,.int .i64 0,.string ⟨#[]⟩] 114);have L:=O.len;have S:=h.le;have f:=h.row;by_cases hi:i<all.length
 ·have A:(i:Int)<(all.length:Int):=by omega
  have R:(0:Int)<=(i:Int):=(by omega);rcases f with⟨_,_,e⟩|⟨gt,o,c,rfl,_,K⟩
  ·rw[e]at hi;simp at hi
  obtain⟨⟨t,k⟩,m⟩: ∃q,all[i]? =some q:=⟨all[i],az hi⟩
  obtain⟨c0,c1,D,F⟩:=K i t k m;have G:=aj b c0;have H:=aj b c1;have I:=aj b D;have J:=aj b F
  have s:all.drop i=(t,k)::all.drop (i+1):=by
   obtain⟨P,Q⟩:=aE.1 m;rw[bG P,Q]
  have N:T4 (kG E (all.drop i)= .agg #[.int .i64 t.kind,.int .i64 t.n,.int .i64 (k:Int),.string ⟨t.text.toArray⟩]):=by
   show _=_;rw[s];rfl
  clear u l s h K c0 c1 D F m;generalize (⟨t.text.toArray⟩:ByteArray)=x at*;generalize r:w.alloc (.cells #[.int .i64 0,.int .i64 0,.int .i64 0,.string ⟨#[]⟩] 114)=d at*;go_enter func75,ntmps75;go_wp2;go_quiet (fail);have a:(d.drewN nq).heap[w.heap.size]? =some (.cells #[.int .i64 0,.int .i64 0,.int .i64 0,.string ⟨#[]⟩] 114 (0,0)):=y;have V:(d.drewN nq).cell? ⟨g,0,none⟩=some (.slice (some ⟨gt,o,none⟩) all.length c):=k0;have W:(d.drewN nq).cell? ⟨g,1,none⟩=some (.int .i64 (i:Int)):=B;have f0:(d.drewN nq).cell? ⟨gt,o+i*4,none⟩=some (.int .i64 t.kind):=G;have f1:(d.drewN nq).cell? ⟨gt,o+i*4+1,none⟩=some (.int .i64 t.n):=H;have f2:(d.drewN nq).cell? ⟨gt,o+i*4+2,none⟩=some (.int .i64 (k:Int)):=I;have f3:(d.drewN nq).cell? ⟨gt,o+i*4+3,none⟩=some (.string x):=J;have j:=du b nq;clear r k0 B C y b G H I J;generalize d.drewN nq=M at*;have z0:=ak 0 a;have z1:=ak 1 a;have z2:=ak 2 a;have z3:=ak 3 a;have Y:=bu _ _ 0 _ _ a;have Z:=bu _ _ 1 _ _ a;have y2:=bu _ _ 2 _ _ a;have y3:=bu _ _ 3 _ _ a
  have T:((((M.setCell ⟨w.heap.size,0,none⟩ (.int .i64 t.kind)).setCell ⟨w.heap.size,1,none⟩ (.int .i64 t.n)).setCell ⟨w.heap.size,2,none⟩ (.int .i64 (k:Int))).setCell ⟨w.heap.size,3,none⟩ (.string x)).heap[w.heap.size]? =some (.cells #[.int .i64 t.kind,.int .i64 t.n,.int .i64 (k:Int),.string x] 114 (0,0)):=
   aY _ _ 3 _ _ _ (aY _ _ 2 _ _ _ (aY _ _ 1 _ _ _ (aY _ _ 0 _ _ _ a)))
  have z:=(((j.setCell (p:=⟨w.heap.size,0,none⟩) (aA _) (.int .i64 t.kind)).setCell (p:=⟨w.heap.size,1,none⟩) (aA _) (.int .i64 t.n)).setCell (p:=⟨w.heap.size,2,none⟩) (aA _) (.int .i64 (k:Int))).setCell (p:=⟨w.heap.size,3,none⟩) (aA _) (.string x);go_wp2;go_region;go_wp2;exact s7 2 (by kernel_rfl) w.heap.size (.int .i64 t.kind) (.int .i64 t.n) (.int .i64 (k:Int)) (.string x) rfl rfl T ⟨by rw[N.o],du z 1⟩
 ·have A: ¬(i:Int)<(all.length:Int):=by omega
  obtain⟨p,c,rfl⟩:=sN.form f;have s:all.drop i=[]:=List.drop_eq_nil_of_le (by omega);rw[s];clear u l s f h;generalize r:w.alloc (.cells #[.int .i64 0,.int .i64 0,.int .i64 0,.string ⟨#[]⟩] 114)=d at*;go_enter func75,ntmps75;go_wp2;go_quiet (fail);have a:(d.drewN nq).heap[w.heap.size]? =some (.cells #[.int .i64 0,.int .i64 0,.int .i64 0,.string ⟨#[]⟩] 114 (0,0)):=y;have X:(d.drewN nq).cell? ⟨g,2,none⟩=some (.int .i64 (E:Int)):=C;have j:=du b nq;clear r k0 B C y b;generalize d.drewN nq=M at*;go_wp2_with(refine aC rfl 114 _ _ rfl _ _ rfl rfl _ _ a (by kernel_rfl) (by simp) (by simp[Value.oneCell']) ?_)
  exact s7 2 (by kernel_rfl) w.heap.size _ _ _ _ rfl rfl (aK _ _ _ _ _ _ a) ⟨rfl,below_setRow j (aA _) _⟩
def jm (er:Int)(at_:Nat):List PanicEntry:=[{v:= .iface 61 (.agg #[.int .i64 er,.int .i64 (at_:Int)]),recovered:=false}]
theorem lK {all:List Tk}{E g:Nat}{v:Value}{w:World}{i n:Nat}(d:PS0 all E g v)(h:PSt all E g v w i n)(er:Int):
  Calls prog 37 #[.pointer (some ⟨g,0,none⟩),.int .i64 er] w fun e f=>e= .panicked (jm er (atP E (all.drop i)))/\ao w f:=by
 have c:=oe d h;unfold kG at c;generalize atP E (all.drop i)=a at*;go_enter func37,ntmps37;go_wp2_with fail;refine c.mono ?_;rintro e j ⟨rfl,b⟩;go_wp2_with fail;exact⟨rfl,rfl,b⟩
theorem JZ (x y:List UInt8):((⟨x.toArray⟩:ByteArray).toList==(⟨y.toArray⟩:ByteArray).toList)=(x==y):=by rw[Lib.toList_data,Lib.toList_data]
theorem bp.set (w:World)(g j:Nat)(u:Value):bp g w (w.setCell ⟨g,j,none⟩ u):=⟨rfl,rfl,rfl,by simp,fun k _ a=>aM w ⟨g,j,none⟩ k u (fun e=>a (by rw[e]))⟩
theorem PSt.of_kept {all:List Tk}{E g:Nat}{v:Value}{w:World}{i n a e:Nat}{b:World}(h:PSt all E g v w i n)(c:PS0 all E g v)(d:bp g w b)(f:b.heap[g]? =some (.cells #[v,.int .i64 (a:Int),.int .i64 (E:Int),.int .i64 (e:Int)] 63 (0,0)))(hi:a<=all.length):PSt all E g v b a e:=
 ⟨f,d.row c.own h.row,hi,d.days c.glob h.tab⟩
theorem PSt.set {all:List Tk}{E g:Nat}{v:Value}{w:World}{i n:Nat}(h:PSt all E g v w i n)(a:PS0 all E g v)(hi:i+1<=all.length):PSt all E g v (w.setCell ⟨g,1,none⟩ (.int .i64 ((i+1:Nat):Int))) (i+1) n:=
 h.of_kept a (bp.set _ _ _ _) (aY _ _ 1 _ _ _ h.blk) hi
theorem PSt.setN {all:List Tk}{E g:Nat}{v:Value}{w:World}{i n:Nat}(h:PSt all E g v w i n)(a:PS0 all E g v)(m:Nat):PSt all E g v (w.setCell ⟨g,3,none⟩ (.int .i64 (m:Int))) i m:=
 h.of_kept a (bp.set _ _ _ _) (aY _ _ 3 _ _ _ h.blk) h.le
theorem pj {x:List UInt8}{all:List Tk}{i:Nat}(a:x≠[])(h:isT x (all.drop i)=true):i+1<=all.length:=by
 have:=fp a h;simp at this;omega
theorem gh {all:List Tk}{E g:Nat}{v:Value}{w:World}{i n:Nat}(b:PS0 all E g v)(h:PSt all E g v w i n)(x:List UInt8)(p:x≠[])(f:isT x (all.drop i)=true):
  Calls prog 74 #[.pointer (some ⟨g,0,none⟩),.string ⟨x.toArray⟩] w fun e l=>e= .returned (.bool true)/\PSt all E g v l (i+1) n/\bp g w l:=by
 have c:=oe b h;have k:=b.len;have hi:=pj p f;have s:((⟨(textP (all.drop i)).toArray⟩:ByteArray).toList==(⟨x.toArray⟩:ByteArray).toList)=true:=by rw[JZ];exact f
 unfold kG at c;generalize (⟨(textP (all.drop i)).toArray⟩:ByteArray)=u at*;generalize (⟨x.toArray⟩:ByteArray)=z at*;go_enter func74,ntmps74;go_wp2_with fail;refine c.mono ?_;rintro e q ⟨rfl,a⟩;have d:=h.below a b;have t:=ak 1 d.blk;have A:=bu _ _ 1 _ _ d.blk;have m:=d.set b hi;have j:=(bp.of_below (g:=g) a).trans (bp.set q g 1 (.int .i64 ((i+1:Nat):Int)));have r:(i:Int)+1=((i+1:Nat):Int):=by omega
 have o:(i:Int)<=6000:=by omega
 generalize ((i+1:Nat):Int)=y at*;clear c h d a f;go_wp2_with fail;go_ret;exact⟨rfl,m,j⟩
end Go.Proofs.YtpdoienkhgnceaaGreatDoor
