/- All code is measured; which is too much; code in memory. -/
import Derived.Test.YtpmobjgnmidolaaDoorDt16
import Derived.Test.YtpmobjgnmidolaaDoorDt17
import Derived.Test.YtpmobjgnmidolaaDoorDt03
import Derived.Test.YtpmobjgnmidolaaDoorDt04
namespace Go.Proofs.YtpmobjgnmidolaaDoor
open Go.RowKit Lx Vx Msk
theorem measure_any (C:List (List In))(ρ:Nat→Nat)(mea:Nat→Int×Int)(hR:Ranked C ρ)(hsm:Small (withM C mea))(n go c:Nat)(hn:n=C.length)(hn9:n≤1000)(sv:Nat→Value)(Ss:Nat→List (In×Value))(hS: ∀k,k<n→(Ss k).map (fun u=>u.1)=C.getD k [])(hL: ∀k,k<n→1≤(Ss k).length∧(Ss k).length≤700)(hV: ∀k,k<n→ ∀u∈Ss k,∃p m c,u.2= .slice p m c)(hme: ∀i,i<n→mea i=reck C mea i)(h1: ∀i,i<n→1≤(mea i).2):
  ∀(r i:Nat),ρ i≤r→i<n→ ∀(H T:Nat→Int) (w:World),MeSt go n sv H T w→(∀q,q<n→InsQ w (sv q) (Ss q))→(∀q,q<n→ρ q≤ρ i→Okm mea H T q)→Calls Tryd.prog 16 #[.slice (some ⟨go,0,none⟩) n c,.int .i64 (i:Int)] w (OutM mea ρ go n sv i H T w):=by
 intro r;induction r with
 |zero=>
  intro i hr hi H T w hm hq hok;exact measure_step C ρ mea hR hsm n go c hn hn9 sv Ss hS hL hV i hi (hme i hi) (h1 i hi) (fun k _ hk=>by omega) H T w hm hq hok
 |succ r ih=>
  intro i hr hi H T w hm hq hok;exact measure_step C ρ mea hR hsm n go c hn hn9 sv Ss hS hL hV i hi (hme i hi) (h1 i hi) (fun k hkn hk H T w hm hq hok=>ih k (by omega) hkn H T w hm hq hok) H T w hm hq hok
def much (m:Int×Int):Bool:=decide (100<m.1)||decide (20000<m.2)
def fstM (m:Nat→Int×Int):Nat→Nat→Int
 |0,_=> -1
 |k+1,j=>if much (m j)=true then(j:Int) else fstM m k (j+1)
set_option maxRecDepth 100000 in
set_option maxHeartbeats 1000000 in
theorem tooMuch_any (p:Option Addr)(ln c:Nat)(h t:Int)(w:World)(hl:ln≤700):
  Calls Tryd.prog 18 #[.agg #[.slice p ln c,.int .i64 h,.int .i64 t]] w fun e w'=>e= .returned (.bool (much (h,t)))∧Below w.heap.size w w':=by
 have bA:=(Below.refl w.heap.size w).alloc (Nat.le_refl _) (.cells #[.slice p ln c,.int .i64 h,.int .i64 t] 42);have nA:=heap_alloc_new w (.cells #[.slice p ln c,.int .i64 h,.int .i64 t] 42);generalize hwA:w.alloc (.cells #[.slice p ln c,.int .i64 h,.int .i64 t] 42)=wA at*;have z0:=(cell_of_row _ _ 0 _ _ _ nA).trans rfl;have z1:=(cell_of_row _ _ 1 _ _ _ nA).trans rfl;have z2:=(cell_of_row _ _ 2 _ _ _ nA).trans rfl;have hl1:(ln:Int)≤700:=by omega
 by_cases h1:100<h
 ·have HM:Hid (much (h,t)=true):=by show _=_;simp[much,h1]
  rw[HM.out];clear nA hl;go_enter Tryd.func18,Tryd.ntmps18;go_wp2_with fail;go_ret;exact⟨rfl,bA⟩
 ·by_cases h2:20000<t
  ·have HM:Hid (much (h,t)=true):=(by show _=_;simp[much,h2]);rw[HM.out];clear nA hl;go_enter Tryd.func18,Tryd.ntmps18;go_wp2_with fail;go_ret;exact⟨rfl,bA⟩
  ·have HM:Hid (much (h,t)=false):=(by show _=_;simp[much,h1,h2]);rw[HM.out];have hl2: ¬(2000:Int)<(ln:Int):=(by omega);clear nA;go_enter Tryd.func18,Tryd.ntmps18;go_wp2_with fail;go_ret;exact⟨rfl,bA⟩
set_option maxRecDepth 100000 in
set_option maxHeartbeats 1000000 in
theorem indexMuch_any (n go c:Nat)(sv:Nat→Value)(m:Nat→Int×Int)(w:World)(hm:MeSt go n sv (fun k=>(m k).1) (fun k=>(m k).2) w)(hsv: ∀k,k<n→ ∃p ln c,sv k= .slice p ln c∧ln≤700)(hn:n≤1000):
  Calls Tryd.prog 17 #[.slice (some ⟨go,0,none⟩) n c,.func (.func 18) #[] #[]] w fun e w'=>e= .returned (.int .i64 (fstM m n 0))∧Below w.heap.size w w':=by
 have HM:=hidv hm;have HSV:=hidv hsv;have hn1:(n:Int)≤1000:=by omega
 clear hm hsv;go_enter Tryd.func17,Tryd.ntmps17;go_wp2_with fail;go_loopw [5,8] (fun _ t wr=> ∃j:Nat,t= .int .i64 (j:Int)∧j≤n∧fstM m n 0=fstM m (n-j) j∧Below w.heap.size w wr) (fun _ t _=>n-(intOf t).toNat);case atStart=>exact⟨0,rfl,by omega,by rw[Nat.sub_zero],Below.refl _ _⟩
 case round=>
  obtain⟨j,rfl,hj,hX,hb⟩:=hrel;have hj0:(0:Int)≤(j:Int):=(by omega);by_cases hlt:j<n
  ·have hlt':(j:Int)<(n:Int):=(by omega);obtain⟨c0,c1,c2,_,_⟩:=(HM.out.below hb).cells hlt;obtain⟨ps,ln,cs,hs,hl⟩:=HSV.out j hlt;rw[hs]at c0;rw[show n-j=(n-(j+1))+1 by omega,fstM]at hX;have cT:=tooMuch_any ps ln cs (m j).1 (m j).2 wr hl;have HX:=hidv hX;generalize hmy:much ((m j).1,(m j).2)=y at cT;have HMY:Hid (much (m j)=y):=hmy;generalize (m j).1=mh at*;generalize (m j).2=mt at*;clear hs hX hmy;go_wp2_with fail;refine cT.mono ?_;rintro e w1 ⟨rfl,b1⟩;have hb1:=hb.trans (b1.mono hb.size);clear cT b1 hb c0 c1 c2;cases y with
   |true=>
    have HE:Hid (fstM m n 0=(j:Int)):=(by show _=_;rw[HX.out,if_pos HMY.out]);clear HX HMY;go_wp2_with fail;go_ret;exact⟨by(rw[HE.out])<;>rfl,hb1⟩
   |false=>
    have HE:Hid (fstM m n 0=fstM m (n-(j+1)) (j+1)):=(by show _=_;rw[HX.out,if_neg (by rw[HMY.out];simp)]);clear HX HMY;go_wp2_with fail;go_roundw;case rel=>exact⟨j+1,by go_num,by omega,HE.out,hb1⟩
    case measure=>simp[intOf];omega
  ·have hlt': ¬(j:Int)<(n:Int):=(by omega)
   have HX:Hid (fstM m n 0= -1):=by
    show _=_;rw[hX,show n-j=0 by omega];rfl
   clear hX;go_wp2_with fail;go_ret;exact⟨by(rw[HX.out])<;>rfl,hb⟩
theorem code_calls {num:List UInt8→Int}: ∀(N:Nat) (e:Ex),SizeOf.sizeOf e≤N→OKE e→ ∀(b:Nat) (x:In),x∈codeE num e b→x.op=8→ ∃nm∈nms e,x.a=num nm
 |0,e,hN,_,_,_,_,_=>by cases e;simp at hN
 |N+1,e,hN,h,b,x,hx,ho=>by
  have ih: ∀k∈e.kids,∀b,x∈codeE num k b→ ∃nm∈nms e,x.a=num nm:=fun k hk b hxk=>by
   obtain⟨nm,h1,h2⟩:=code_calls N k (by have:=kid_lt hk;omega) (h.kid hk) b x hxk ho;exact⟨nm,nms_kid hk h1,h2⟩
  cases hs:stdE e with
  |true=>
   rw[code_std hs,List.mem_singleton]at hx;subst hx;exact absurd ho (by show¬(1:Int)=8;omega)
  |false=>
   rcases code_kinds h hs with⟨q,k,hk⟩|⟨q,k,hk⟩|⟨q,k,hk⟩|q|⟨q,k,m,hk⟩
   ·rw[code_week q (by rw[hk];rfl)]at hx;rcases List.mem_cons.1 hx with rfl|hx
    ·exact absurd ho (by show¬(6:Int)=8;omega)
    ·exact ih k (by rw[hk];simp) _ hx
   ·rw[code_dates q (by rw[hk];rfl)]at hx;rcases List.mem_cons.1 hx with rfl|hx
    ·exact absurd ho (by show¬(7:Int)=8;omega)
    ·exact ih k (by rw[hk];simp) _ hx
   ·rw[code_shift hs q hk]at hx;rcases List.mem_append.1 hx with hx|hx
    ·exact ih k (by rw[hk];simp) _ hx
    ·rw[List.mem_singleton]at hx;subst hx;exact absurd ho (by show¬(5:Int)=8;omega)
   ·rw[code_name q,List.mem_singleton]at hx;subst hx;exact⟨_,nms_own q,rfl⟩
   ·rw[code_pair hs q hk]at hx;rcases List.mem_append.1 hx with hx|hx
    ·rcases List.mem_append.1 hx with hx|hx
     ·exact ih k (by rw[hk];simp) _ hx
     ·exact ih m (by rw[hk];simp) _ hx
    ·rw[List.mem_singleton]at hx;subst hx;have:=opK_234 q;exact absurd ho (by show¬opK e.kind=8;omega)
theorem flat_at7: ∀{l:List (Int×Int)} {j:Nat},j<l.length→(flat l)[j*2+0]? =some (.int .i64 (l.getD j (0,0)).1)∧(flat l)[j*2+1]? =some (.int .i64 (l.getD j (0,0)).2)
 |[],_,h=>by simp at h
 |_::_,0,_=>⟨rfl,rfl⟩
 |s::l,j+1,h=>by
  have ih:=flat_at7 (l:=l) (j:=j) (by simpa using h)
  have e: ∀i,(flat (s::l))[(j+1)*2+i]? =(flat l)[j*2+i]? :=fun i=>by
   show(_::_::flat l)[(j+1)*2+i]? =_;rw[show(j+1)*2+i=(j*2+i)+1+1 by omega,List.getElem?_cons_succ,List.getElem?_cons_succ]
  rw[e,e];exact ih
theorem SpIn.row {w:World}{v:Value}{l:List (Int×Int)}(h:SpIn w v l):RowV w v l:=by
 rcases h with h|⟨g,c,cur,e,hl,hg,hx⟩
 ·exact .inl h
 ·refine .inr (.inr ⟨g,0,c,e,hl,fun j hj=> ?_⟩)
  have key: ∀(i:Nat) (v:Value),j*2+i<l.length*2→(flat l)[j*2+i]? =some v→w.cell? ⟨g,0+j*2+i,none⟩=some v:=fun i v hi hv=>by
   refine(cell_of_row _ _ _ _ _ _ hg).trans ?_;rw[Nat.zero_add,←Array.getElem?_toList];rw[←hx,List.getElem?_take_of_lt hi]at hv;exact hv
  have hf:=flat_at7 hj;exact⟨by simpa using key 0 _ (by omega) hf.1,key 1 _ (by omega) hf.2⟩
theorem insOf_own {w:World}{v:Value}{S:List (In×Value)}(h:InsQ w v S)(h1:1≤S.length)(h9:S.length≤700)(hs: ∀u∈S,SpIn w u.2 u.1.sp):InsOf w v (S.map fun u=>u.1):=by
 obtain⟨g,c,e,hc⟩:=h.form h1;refine⟨S,⟨some ⟨g,0,none⟩,c,e,by omega,fun j u hj=>⟨(hs u (List.mem_of_getElem? hj)).row,g,0,rfl,?_⟩⟩,rfl⟩;obtain⟨d0,d1,d2,d3,d4⟩:=hc j u hj;simp only[Nat.zero_add];exact⟨d0,d1,d2,d3,d4⟩
theorem inV_own {w:World}{go n c:Nat}{sv:Nat→Value}{Ss:Nat→List (In×Value)}{C:List (List In)}{m:Nat→Int×Int}(hn:n=C.length)(hn9:n≤1000)(hm:MeSt go n sv (fun k=>(m k).1) (fun k=>(m k).2) w)(hq: ∀k,k<n→InsQ w (sv k) (Ss k))(hL: ∀k,k<n→1≤(Ss k).length∧(Ss k).length≤700)(hs: ∀k,k<n→ ∀u∈Ss k,SpIn w u.2 u.1.sp)(hS: ∀k,k<n→(Ss k).map (fun u=>u.1)=C.getD k []):InV w (.slice (some ⟨go,0,none⟩) n c) (withM C m):=by
 refine⟨(List.range n).map fun k=>(⟨C.getD k [],(m k).1,(m k).2⟩,sv k),⟨some ⟨go,0,none⟩,c,by simp,by simp;omega,fun j u hj=> ?_⟩,?_⟩
 ·rw[List.getElem?_map]at hj;obtain⟨k,hk,rfl⟩:=Option.map_eq_some_iff.1 hj;obtain⟨h1,h2⟩:=List.getElem?_eq_some_iff.1 hk;have hkj:k=j:=(by rw[←h2];simp);subst hkj;have hkn:k<n:=(by simpa using h1);refine⟨?_,go,0,rfl,?_⟩
  ·have:=insOf_own (hq k hkn) (hL k hkn).1 (hL k hkn).2 (hs k hkn);rw[hS k hkn]at this;exact this
  ·obtain⟨c0,c1,c2,_,_⟩:=hm.cells hkn;simp only[Nat.zero_add];exact⟨c0,c1,c2⟩
 ·rw[List.map_map,hn];rfl
end Go.Proofs.YtpmobjgnmidolaaDoor
/- The code of rules, plainly; what Compile comes to. -/
namespace Go.Proofs.YtpmobjgnmidolaaDoor
open Go.RowKit Lx Vx Msk
def codeL (l:List Ru):List (List In):=l.map fun u=>codeE (atP5 l) u.2 0
def cmpM (l:List Ru):Nat→Int×Int:=meaF (codeL l) (l.length+1)
def cmpL (l:List Ru):List Cd:=withM (codeL l) (cmpM l)
def cflt (l:List Ru):Int×Int:=if(chkW l).1≠0 then((chkW l).1,((chkW l).2:Int)) else if 0≤fstM (cmpM l) l.length 0 then(4,fstM (cmpM l) l.length 0) else(0,0)
theorem codeL_len (l:List Ru):(codeL l).length=l.length:=by simp[codeL]
theorem codeL_at {l:List Ru}{i:Nat}{u:Ru}(h:l[i]? =some u):(codeL l).getD i []=codeE (atP5 l) u.2 0:=by
 simp[codeL,List.getD,h]
theorem wrongL_rt: ∀{l:List Ru} {i:Nat},(wrongL l i).1=0→ ∀u∈l,Rt u.2
 |[],_,_,u,hu=>by cases hu
 |u'::l,i,h,u,hu=>by
  unfold wrongL at h;by_cases h1:ruleP u'≠0
  ·rw[if_pos h1]at h;exact absurd h h1
  ·rw[if_neg h1]at h;rcases List.mem_cons.1 hu with rfl|hu
   ·have h2:ruleP u=0:=(by simpa using h1);unfold ruleP at h2;split at h2
    ·cases h2
    ·exact h2
   ·exact wrongL_rt h u hu
theorem chk_rt {l:List Ru}(h:(chkW l).1=0):l.length≤40∧ ∀u∈l,Rt u.2:=by
 have h0:=(chk_lk2 h).1;refine⟨(wrongR_oke h0).1,?_⟩;unfold wrongR at h0;split at h0
 ·cases h0
 ·exact wrongL_rt h0
theorem chk_nm {l:List Ru}(h:(chkW l).1=0){u:Ru}(hu:u∈l){x:List UInt8}(hx:x∈nms u.2):0≤atP5 l x∧atP5 l x<l.length∧atP5 l x∈spkR l u:=by
 have hm:atP5 l x∈spkR l u:=(spoken_mem (nms u.2) []).2 (.inr ⟨x,hx,rfl⟩);have hb:=atP5_bd l x;have hno:=(chk_lk2 h).2 u hu;refine⟨?_,hb.2,hm⟩;by_cases q:0≤atP5 l x
 ·exact q
 ·have e:atP5 l x= -1:=by omega
  rw[e]at hm;exact absurd hm hno
theorem muR_le (l:List Ru)(i:Nat):muR l i≤l.length:=by
 unfold muR usesL;split
 ·simp
 ·unfold mkL;rw[List.length_map];refine Nat.le_trans (List.length_filter_le _ _) ?_;simp
theorem code_ranked {l:List Ru}(h:(chkW l).1=0):Ranked (codeL l) (muR l):=by
 refine⟨fun i j x hi hx ho=> ?_⟩;rw[codeL_len]at hi⊢;have hu:l[i]? =some l[i]:=List.getElem?_eq_getElem hi;rw[codeL_at hu]at hx;have hul:=List.mem_of_getElem? hu;obtain⟨nm,hn,hxa⟩:=code_calls _ _ (Nat.le_refl _) ((chk_rt h).2 _ hul).ok 0 x (List.mem_of_getElem? hx) ho;obtain⟨h0,h1,h2⟩:=chk_nm h hul hn;rw[hxa];refine⟨h0,by omega,muR_lt h hi ?_⟩;rw[leadS_at hu];exact List.mem_map.2 ⟨_,h2,rfl⟩
theorem cmpM_eq {l:List Ru}(h:(chkW l).1=0){i:Nat}(hi:i<l.length):cmpM l i=reck (codeL l) (cmpM l) i:=meaF_eq (code_ranked h) (N:=l.length) (fun i _=>muR_le l i) (by rw[codeL_len];exact hi)
theorem cmpM_small (l:List Ru):Small (withM (codeL l) (cmpM l)):=meaF_small _ _
theorem codeL_bd {l:List Ru}(h:(chkW l).1=0){i:Nat}(hi:i<l.length):1≤((codeL l).getD i []).length∧((codeL l).getD i []).length≤600:=by
 have hu:l[i]? =some l[i]:=List.getElem?_eq_getElem hi;have hr:=(chk_rt h).2 _ (List.mem_of_getElem? hu);rw[codeL_at hu];have:=code_len (atP5 l) _ _ (Nat.le_refl _) hr.ok 0;have h6:=hr.nod;omega
theorem cmpM_pos {l:List Ru}(h:(chkW l).1=0){i:Nat}(hi:i<l.length):1≤(cmpM l i).2:=by
 rw[cmpM_eq h hi];exact(reck_bd (cmpM_small l) i).2.2 (codeL_bd h hi).1
def OutC (l:List Ru)(w:World)(r:Ending)(w':World):Prop:= ∃v,r= .returned (.tuple #[v,.agg #[.int .i64 (cflt l).1,.int .i64 (cflt l).2]])∧((cflt l).1=0→InV w' v (cmpL l))∧((cflt l).1≠0→v= .slice none 0 0)∧Below w.heap.size w w'
def zcodes (n:Nat):Array Value:=madeCells #[.slice none 0 0,.int .i64 0,.int .i64 0] (n*3)
theorem zcodes_at {n i j:Nat}(hi:i<n)(hj:j<3):(zcodes n)[i*3+j]? =(#[Value.slice none 0 0,.int .i64 0,.int .i64 0]:Array Value)[j]? :=by
 have h1:i*3+j<n*3:=by omega
 have h2:(i*3+j)%3=j:=by omega
 simp only[zcodes,madeCells];match j,hj,h1,h2 with
 |0,_,h1,h2=>simp at h1 h2⊢;simp[h1]
 |1,_,h1,h2=>simp[h1,h2]
 |2,_,h1,h2=>simp[h1,h2]
theorem codeInfo7:(Tryd.prog.info? 42).map (fun i=>(i.zero,i.size,i.bytes))=some (some (.agg #[.slice none 0 0,.int .i64 0,.int .i64 0]),3,40):=by kernel_rfl
theorem codesType7:Tryd.prog.underlying 23=some (.slice 42):=by kernel_rfl
theorem make_codes (n:Nat)(hn:n≤1000)(w:World):(Instr.makeSlice 23 (.int .i64 (n:Int)) (.int .i64 (n:Int))).run Tryd.prog w= .ok (.slice (some ⟨w.heap.size,0,none⟩) n n) (w.alloc (.cells (zcodes n) 42)):=by
 obtain⟨i,hi,hzz⟩:=Option.map_eq_some_iff.1 codeInfo7;simp only[Prod.mk.injEq]at hzz;obtain⟨hz,hs,hb⟩:=hzz;have hr:=run_make (P:=Tryd.prog) w 23 42 i _ codesType7 hi hz .i64 .i64 n n (by omega) (Int.le_refl _) (by rw[hb];omega) (by omega);rw[hs]at hr;have e:(Value.agg #[.slice none 0 0,.int .i64 0,.int .i64 0]).cells= #[.slice none 0 0,.int .i64 0,.int .i64 0]:=rfl;rw[e]at hr;simpa[zcodes] using hr
theorem MeSt.made {w:World}{go n:Nat}(h:w.heap[go]? =some (.cells (zcodes n) 42 (0,0))):MeSt go n (fun _=> .slice none 0 0) (fun _=>0) (fun _=>0) w:=by
 refine⟨_,h,by simp[zcodes,madeCells],fun i hi=>⟨?_,?_,?_⟩⟩
 ·have:=zcodes_at (j:=0) hi (by omega);simpa using this
 ·exact(zcodes_at (j:=1) hi (by omega)).trans rfl
 ·exact(zcodes_at (j:=2) hi (by omega)).trans rfl
def upV (f:Nat→Value)(i:Nat)(v:Value):Nat→Value:=fun k=>if k=i then v else f k
theorem upV_at (f:Nat→Value)(i:Nat)(v:Value):upV f i v i=v:=by unfold upV;rw[if_pos rfl]
theorem upV_ne (f:Nat→Value){i k:Nat}(v:Value)(h:k≠i):upV f i v k=f k:=by unfold upV;rw[if_neg h]
theorem MeSt.setV {go n:Nat}{sv:Nat→Value}{H T:Nat→Int}{w:World}(h:MeSt go n sv H T w){i:Nat}(v:Value)(hi:i<n):MeSt go n (upV sv i v) H T (w.setCell ⟨go,i*3,none⟩ v):=by
 obtain⟨cur,hg,hs,hc⟩:=h;refine⟨_,heap_setCell_same w go (i*3) _ _ _ hg,by rw[Array.size_setIfInBounds];exact hs,fun k hk=> ?_⟩;obtain⟨c0,c1,c2⟩:=hc k hk;refine⟨?_,?_,?_⟩
 ·by_cases e:k=i
  ·subst e;rw[upV_at,Array.getElem?_setIfInBounds_self_of_lt (by omega)]
  ·rw[upV_ne _ _ e,Array.getElem?_setIfInBounds_ne (by omega)];exact c0
 ·rw[Array.getElem?_setIfInBounds_ne (by omega)];exact c1
 ·rw[Array.getElem?_setIfInBounds_ne (by omega)];exact c2
theorem MeSt.frozen {go n:Nat}{sv:Nat→Value}{H T:Nat→Int}{w:World}(h:MeSt go n sv H T w)(i:Nat):w.frozen? ⟨go,i,none⟩=false:=by
 obtain⟨cur,hg,_⟩:=h;exact frozen_of_row _ _ _ _ _ hg
theorem MeSt.congr {go n:Nat}{sv:Nat→Value}{H T H' T':Nat→Int}{w:World}(h:MeSt go n sv H T w)(e: ∀k,k<n→H k=H' k∧T k=T' k):MeSt go n sv H' T' w:=by
 obtain⟨cur,hg,hs,hc⟩:=h;refine⟨cur,hg,hs,fun k hk=> ?_⟩;obtain⟨c0,c1,c2⟩:=hc k hk;obtain⟨e1,e2⟩:=e k hk;rw[←e1,←e2];exact⟨c0,c1,c2⟩
theorem SpIn.kept {go n:Nat}{sv:Nat→Value}{H T:Nat→Int}{w w':World}{v:Value}{l:List (Int×Int)}(h:SpIn w v l)(hm:MeSt go n sv H T w)(hk:Kept go w w'):SpIn w' v l:=by
 obtain⟨cur',hg',_⟩:=hm;rcases h with h|⟨g,c,cur,e,hl,hg,hx⟩
 ·exact .inl h
 ·refine .inr ⟨g,c,cur,e,hl,(hk.block g (lt_of_block hg) (fun q=> ?_)).trans hg,hx⟩;have q':g=go:=Option.some.inj q;subst q';rw[hg]at hg';injection hg' with hb;injection hb with _ h2 _;exact absurd h2 (by decide)
theorem below_kept {B go:Nat}{w w' w'':World}(h:Below B w w')(hk:Kept go w' w'')(hg:B≤go)(hB:B≤w'.heap.size):Below B w w'':=
 ⟨hk.os.trans h.os,hk.tape.trans h.tape,hk.output.trans h.output,Nat.le_trans h.size hk.size,fun k hb=>(hk.block k (Nat.lt_of_lt_of_le hb hB) (fun e=>by have:=Option.some.inj e;omega)).trans (h.block k hb)⟩
def Laid (l:List Ru)(w:World)(sv:Nat→Value)(Ss:Nat→List (In×Value))(k:Nat):Prop:=InsQ w (sv k) (Ss k)∧(Ss k).map (fun u=>u.1)=(codeL l).getD k []∧ ∀u∈Ss k,SpIn w u.2 u.1.sp
theorem Laid.kept {l:List Ru}{go n:Nat}{sv sv':Nat→Value}{H T:Nat→Int}{w w':World}{Ss:Nat→List (In×Value)}{k:Nat}(h:Laid l w sv Ss k)(hm:MeSt go n sv' H T w)(hk:Kept go w w'):Laid l w' sv Ss k:=⟨h.1.kept hm hk,h.2.1,fun u hu=>(h.2.2 u hu).kept hm hk⟩
theorem Laid.ext {l:List Ru}{sv sv':Nat→Value}{w:World}{Ss Ss':Nat→List (In×Value)}{k:Nat}(h:Laid l w sv Ss k)(e1:sv' k=sv k)(e2:Ss' k=Ss k):Laid l w sv' Ss' k:=by
 unfold Laid;rw[e1,e2];exact h
def upS (f:Nat→List (In×Value))(i:Nat)(v:List (In×Value)):Nat→List (In×Value):=fun k=>if k=i then v else f k
theorem upS_at (f:Nat→List (In×Value))(i:Nat)(v:List (In×Value)):upS f i v i=v:=by unfold upS;rw[if_pos rfl]
theorem upS_ne (f:Nat→List (In×Value)){i k:Nat}(v:List (In×Value))(h:k≠i):upS f i v k=f k:=by unfold upS;rw[if_neg h]
theorem own_zero {w:World}{b size n:Nat}{e:TypeId}{v:Value}{xs:List Value}(h:w.ownsRow b e size v n xs):w.ownsRow 0 e size v n xs:=by
 obtain⟨h1,h2⟩:=h;rcases h2 with h2|⟨g,cap,cur,e,q,r⟩
 ·exact⟨h1,.inl h2⟩
 ·exact⟨h1,.inr ⟨g,cap,cur,e,Nat.zero_le _,r⟩⟩
theorem comp_post {R:Ending→World→Prop}{a:Act}{w:World}(g:Nat)(v:Value)(er at_:Int)(hd:a.defers=[])(h2:a.tmps.getD 2 undef=v)(h3:a.tmps.getD 3 undef= .pointer (some ⟨g,0,none⟩))
  (hg:w.heap[g]? =some (.cells #[.int .i64 er,.int .i64 at_] 26 (0,0))) (hR:R (.returned (.tuple #[v,.agg #[.int .i64 er,.int .i64 at_]])) w):bodyPost Tryd.prog Tryd.f6 R .ret a w:=by
 refine bodyPost_ret (v:= .tuple #[v,.agg #[.int .i64 er,.int .i64 at_]]) ?_ hd hR;have h2':a.tmps[2]?.getD undef=v:=by simpa using h2
 have h3':a.tmps[3]?.getD undef= .pointer (some ⟨g,0,none⟩):=by simpa using h3
 have hv:=run_loadVar_row (P:=Tryd.prog) w g 26 26 _ _ _ hg faultType rfl (by kernel_rfl);simp[results,Tryd.results6,h2',h3',asAddr,hv]
theorem fst_bd (m:Nat→Int×Int): ∀(k j n:Nat),j+k≤n→ -1≤fstM m k j∧fstM m k j≤(n:Int)
 |0,j,n,_=>by simp only[fstM];omega
 |k+1,j,n,h=>by
  have ih:=fst_bd m k (j+1) n (by omega);simp only[fstM];split
  ·omega
  ·exact ih
theorem InsQ.set {w:World}{v:Value}{S:List (In×Value)}(h:InsQ w v S){g:Nat}{c:Array Value}(hg:w.heap[g]? =some (.cells c 26 (0,0)))(xs:Array Value):InsQ (w.setRow g xs) v S:=
 World.ownsRow.kept h (row:=some g) ⟨rfl,rfl,rfl,by simp,fun q _ hne=>setRow_other w g q xs (fun e=>hne (congrArg some e))⟩ (.inr fun e=>own_neI h hg (by decide) e.symm)
theorem SpIn.set {w:World}{v:Value}{l:List (Int×Int)}(h:SpIn w v l){g:Nat}{c:Array Value}(hg:w.heap[g]? =some (.cells c 26 (0,0)))(xs:Array Value):SpIn (w.setRow g xs) v l:=by
 rcases h with h|⟨g',c',cur,e,hl,hg',hx⟩
 ·exact .inl h
 ·refine .inr ⟨g',c',cur,e,hl,(setRow_other w g g' xs (fun q=> ?_)).trans hg',hx⟩;rw[q,hg]at hg';injection hg' with hb;injection hb with _ h2 _;exact absurd h2 (by decide)
end Go.Proofs.YtpmobjgnmidolaaDoor
/- What is compiled is right. -/
namespace Go.Proofs.YtpmobjgnmidolaaDoor
open Go.RowKit Lx Vx Msk
theorem cmpL_at {l:List Ru}{i:Nat}(hi:i<l.length):(cmpL l)[i]? =some ⟨(codeL l).getD i [],(cmpM l i).1,(cmpM l i).2⟩:=by
 unfold cmpL withM;rw[List.getElem?_map,List.getElem?_range (by rw[codeL_len];exact hi)];rfl
end Go.Proofs.YtpmobjgnmidolaaDoor
/- Code that is put together from its parts, plainly: as the document does it. -/
namespace Go.Proofs.YtpmobjgnmidolaaDoor
open Go.RowKit Lx Vx Msk
def movI (d:Int)(x:In):In:=if 0<x.to then⟨x.op,x.a,x.b,x.to+d,x.sp⟩ else x
theorem movI_0 (x:In):movI 0 x=x:=by
 unfold movI;split
 ·rw[Int.add_zero]
 ·rfl
theorem movI_add (x:In)(c d:Nat):movI (d:Int) (movI (c:Int) x)=movI ((c+d:Nat):Int) x:=by
 unfold movI;by_cases h:0<x.to
 ·rw[if_pos h,if_pos h];dsimp only;rw[if_pos (by omega)];congr 1;omega
 ·rw[if_neg h,if_neg h,if_neg h]
theorem map_mov (l:List In)(c d:Nat):(l.map (movI (c:Int))).map (movI (d:Int))=l.map (movI ((c+d:Nat):Int)):=by
 rw[List.map_map];exact List.map_congr_left fun x _=>movI_add x c d
theorem code_mov (num:List UInt8→Int): ∀(N:Nat) (e:Ex),SizeOf.sizeOf e≤N→OKE e→ ∀b:Nat,codeE num e b=(codeE num e 0).map (movI (b:Int))
 |0,e,hN,_,_=>by cases e;simp at hN
 |N+1,e,hN,h,b=>by
  cases hs:stdE e with
  |true=>
   rw[code_std hs,code_std hs];rfl
  |false=>
   have ih: ∀k∈e.kids,∀b:Nat,codeE num k b=(codeE num k 0).map (movI (b:Int)):=fun k hk b=>code_mov num N k (by have:=kid_lt hk;omega) (h.kid hk) b;rcases code_kinds h hs with⟨hk,k,h0⟩|⟨hk,k,h0⟩|⟨hk,k,h0⟩|hk|⟨hk,k,m,h0⟩
   ·have hm:k∈e.kids:=(by rw[h0];simp);have h1:e.kids[0]? =some k:=(by rw[h0];rfl);rw[code_week hk h1,code_week hk h1,ih k hm (b+1),ih k hm (0+1)];rw[List.map_cons,map_mov,List.length_map,List.length_map];congr 1
    ·unfold movI;rw[if_pos (by show(0:Int)<((0+1+_:Nat):Int);omega)];congr 1;show((b+1+_:Nat):Int)=((0+1+_:Nat):Int)+(b:Int)
     omega
    ·rw[show 0+1+b=b+1 by omega]
   ·have hm:k∈e.kids:=(by rw[h0];simp);have h1:e.kids[0]? =some k:=(by rw[h0];rfl);rw[code_dates hk h1,code_dates hk h1,ih k hm (b+1),ih k hm (0+1)];rw[List.map_cons,map_mov,List.length_map,List.length_map];congr 1
    ·unfold movI;rw[if_pos (by show(0:Int)<((0+1+_:Nat):Int);omega)];congr 1;show((b+1+_:Nat):Int)=((0+1+_:Nat):Int)+(b:Int)
     omega
    ·rw[show 0+1+b=b+1 by omega]
   ·have hm:k∈e.kids:=(by rw[h0];simp);rw[code_shift hs hk h0,code_shift hs hk h0,ih k hm b,List.map_append];rfl
   ·rw[code_name hk,code_name hk];rfl
   ·have hm:k∈e.kids:=(by rw[h0];simp);have hm':m∈e.kids:=(by rw[h0];simp);rw[code_pair hs hk h0,code_pair hs hk h0,ih k hm b,ih m hm' (b+_),ih m hm' (0+_),List.map_append,List.map_append,map_mov,List.length_map];rw[show 0+(codeE num k 0).length+b=b+(codeE num k 0).length by omega];rfl
def hsK (k:Int)(vs:List (Int×Int)):Int×Int:=
 if k=4∨k=5∨k=9 then(max 1 (vs.getD 0 (0,0)).1,1+(vs.getD 0 (0,0)).2)
 else(max 2 (max (vs.getD 0 (0,0)).1 (1+(vs.getD 1 (0,0)).1)),1+(vs.getD 0 (0,0)).2+(vs.getD 1 (0,0)).2)
def hsE (cs:List Cd)(num:List UInt8→Int)(e:Ex):Int×Int:=if stdE e=true then(1,1) else if e.kind=10 then(max (cs.getD (num e.name).toNat cd0).high 0,1+(cs.getD (num e.name).toNat cd0).steps) else hsK e.kind (e.kids.attach.map fun k=>hsE cs num k.1)
 termination_by SizeOf.sizeOf e
 decreasing_by exact kid_lt k.2
theorem hsE_eq (cs:List Cd)(num:List UInt8→Int)(e:Ex):hsE cs num e=if stdE e=true then(1,1) else if e.kind=10 then(max (cs.getD (num e.name).toNat cd0).high 0,1+(cs.getD (num e.name).toNat cd0).steps) else hsK e.kind (e.kids.map (hsE cs num)):=by
 rw[hsE];have h:=congrArg (List.map (hsE cs num)) (List.attach_map_subtype_val e.kids);rw[List.map_map]at h;rw[←h];rfl
section
variable {cs:List Cd} {num:List UInt8→Int}
theorem hs_std {e:Ex}(h:stdE e=true):hsE cs num e=(1,1):=by rw[hsE_eq,if_pos h]
theorem hs_name {e:Ex}(h:e.kind=10):hsE cs num e=(max (cs.getD (num e.name).toNat cd0).high 0,1+(cs.getD (num e.name).toNat cd0).steps):=by
 rw[hsE_eq,if_neg (fun q=>(stdE_kind q).2.2 h),if_pos h]
theorem hs_one {e k:Ex}(hs:stdE e=false)(hk:e.kind=4∨e.kind=5∨e.kind=9)(h0:e.kids=[k]):hsE cs num e=(max 1 (hsE cs num k).1,1+(hsE cs num k).2):=by
 rw[hsE_eq,if_neg (by rw[hs];decide),if_neg (by omega),h0];unfold hsK;rw[if_pos hk];rfl
theorem hs_two {e k m:Ex}(hs:stdE e=false)(hk:e.kind=6∨e.kind=7∨e.kind=8)(h0:e.kids=[k,m]):hsE cs num e=(max 2 (max (hsE cs num k).1 (1+(hsE cs num m).1)),1+(hsE cs num k).2+(hsE cs num m).2):=by
 rw[hsE_eq,if_neg (by rw[hs];decide),if_neg (by omega),h0];unfold hsK;rw[if_neg (by omega)];rfl
theorem getD_left {l m:List In}{j:Nat}(h:j<l.length):(l++m).getD j in0=l.getD j in0:=by
 simp[List.getD,List.getElem?_append_left h]
theorem getD_right (l m:List In)(j:Nat):(l++m).getD (l.length+j) in0=m.getD j in0:=by
 simp[List.getD,List.getElem?_append_right (Nat.le_add_right _ _)]
theorem hAt_left {l m:List In}: ∀j,j≤l.length→hAt (l++m) j=hAt l j
 |0,_=>rfl
 |j+1,h=>by
  simp only[hAt];rw[hAt_left j (by omega),getD_left (by omega)]
theorem hAt_cat (l m:List In): ∀j,hAt (l++m) (l.length+j)=hAt l l.length+hAt m j
 |0=>by rw[Nat.add_zero,hAt_left _ (Nat.le_refl _)];simp[hAt]
 |j+1=>by
  rw[←Nat.add_assoc];simp only[hAt];rw[hAt_cat l m j,getD_right];omega
theorem stS_left {l m:List In}: ∀j,j≤l.length→stS cs (l++m) j=stS cs l j
 |0,_=>rfl
 |j+1,h=>by
  simp only[stS];rw[stS_left j (by omega),getD_left (by omega)]
theorem stS_cat (l m:List In): ∀j,stS cs (l++m) (l.length+j)=stS cs l l.length+stS cs m j
 |0=>by rw[Nat.add_zero,stS_left _ (Nat.le_refl _)];simp[stS]
 |j+1=>by
  rw[←Nat.add_assoc];simp only[stS];rw[stS_cat l m j,getD_right];omega
theorem mxH_left {l m:List In}: ∀j,j≤l.length→mxH cs (l++m) j=mxH cs l j
 |0,_=>rfl
 |j+1,h=>by
  simp only[mxH];rw[mxH_left j (by omega),getD_left (by omega),hAt_left j (by omega),hAt_left (j+1) (by omega)]
theorem mxH_cat (l m:List In): ∀j,mxH cs (l++m) (l.length+j)=max (mxH cs l l.length) (hAt l l.length+mxH cs m j)
 |0=>by
  rw[Nat.add_zero,mxH_left _ (Nat.le_refl _)];have:=hAt_mx cs l l.length;simp only[mxH];omega
 |j+1=>by
  rw[←Nat.add_assoc];simp only[mxH];rw[mxH_cat l m j,getD_right,hAt_cat l m j,show l.length+j+1=l.length+(j+1) by omega,hAt_cat l m (j+1)];split<;>omega
structure Told (cs:List Cd)(l:List In)(v:Int×Int):Prop where
 ht:hAt l l.length=1
 mx:mxH cs l l.length=v.1
 st:stS cs l l.length=v.2
theorem Told.pos {l:List In}{v:Int×Int}(h:Told cs l v):1≤v.1:=by
 have:=hAt_mx cs l l.length;rw[h.ht,h.mx]at this;exact this
theorem told_one {x:In}(ho:x.op=1):Told cs [x] (1,1):=by
 refine⟨?_,?_,?_⟩
 ·show hAt [x] 1=1;simp[hAt,eff,ho]
 ·show mxH cs [x] 1=1;have e0:([x]:List In).getD 0 in0=x:=rfl;have e1:hAt [x] 1=1:=(by simp[hAt,eff,ho]);rw[mxH,e0,if_neg (by omega),e1];rfl
 ·show stS cs [x] 1=1;simp[stS,ho]
theorem told_call {x:In}(ho:x.op=8)(hh:1≤(cs.getD x.a.toNat cd0).high):Told cs [x] (max (cs.getD x.a.toNat cd0).high 0,1+(cs.getD x.a.toNat cd0).steps):=by
 have e0:([x]:List In).getD 0 in0=x:=rfl;refine⟨?_,?_,?_⟩
 ·show hAt [x] 1=1;simp[hAt,eff,ho]
 ·show mxH cs [x] 1=max (cs.getD x.a.toNat cd0).high 0;have e1:hAt [x] 1=1:=(by simp[hAt,eff,ho]);rw[mxH,e0,if_pos ho,e1];show max (max (mxH cs [x] 0) (hAt [x] 0+_)) 1=_;simp only[mxH,hAt];omega
 ·show stS cs [x] 1=1+(cs.getD x.a.toNat cd0).steps;rw[stS,e0,if_pos ho];simp only[stS];omega
theorem told_guard {x:In}{l:List In}{v:Int×Int}(ho:x.op=6∨x.op=7)(h:Told cs l v):Told cs (x::l) (max 1 v.1,1+v.2):=by
 have e0:([x]:List In).getD 0 in0=x:=rfl;have p:=h.pos;have a1:hAt [x] 1=0:=by rw[hAt,e0,eff_0 (.inr ho)];rfl
 have a2:mxH cs [x] 1=0:=by rw[mxH,e0,if_neg (by omega),a1];rfl
 have a3:stS cs [x] 1=1:=by rw[stS,e0,if_neg (by omega)];rfl
 have c1:=hAt_cat [x] l l.length;have c2:=mxH_cat (cs:=cs) [x] l l.length;have c3:=stS_cat (cs:=cs) [x] l l.length;have hl:(x::l).length=([x]:List In).length+l.length:=by simp;omega
 have hq:([x]:List In).length=1:=rfl;refine⟨?_,?_,?_⟩
 ·rw[hl];rw[show x::l=[x]++l from rfl,c1,hq,a1,h.ht];rfl
 ·rw[hl];rw[show x::l=[x]++l from rfl,c2,hq,a1,a2,h.mx];show max 0 (0+v.1)=max 1 v.1;omega
 ·rw[hl];rw[show x::l=[x]++l from rfl,c3,hq,a3,h.st]
theorem told_shift {x:In}{l:List In}{v:Int×Int}(ho:x.op=5)(h:Told cs l v):Told cs (l++[x]) (max 1 v.1,1+v.2):=by
 have e0:([x]:List In).getD 0 in0=x:=rfl;have p:=h.pos;have a1:hAt [x] 1=0:=by rw[hAt,e0,eff_0 (.inl ho)];rfl
 have a2:mxH cs [x] 1=0:=by rw[mxH,e0,if_neg (by omega),a1];rfl
 have a3:stS cs [x] 1=1:=by rw[stS,e0,if_neg (by omega)];rfl
 have hl:(l++[x]).length=l.length+1:=by simp
 refine⟨?_,?_,?_⟩
 ·rw[hl,hAt_cat,h.ht,a1];rfl
 ·rw[hl,mxH_cat,h.ht,h.mx,a2];show max v.1 (1+0)=max 1 v.1;omega
 ·rw[hl,stS_cat,h.st,a3];show v.2+1=1+v.2;omega
theorem told_pair {x:In}{l m:List In}{v u:Int×Int}(ho:x.op=2∨x.op=3∨x.op=4)(h:Told cs l v)(h':Told cs m u):Told cs ((l++m)++[x]) (max 2 (max v.1 (1+u.1)),1+v.2+u.2):=by
 have e0:([x]:List In).getD 0 in0=x:=rfl;have p:=h.pos;have p':=h'.pos;have a1:hAt [x] 1= -1:=by rw[hAt,e0,eff_2 ho];rfl
 have a2:mxH cs [x] 1=0:=by rw[mxH,e0,if_neg (by omega),a1];rfl
 have a3:stS cs [x] 1=1:=by rw[stS,e0,if_neg (by omega)];rfl
 have hl:((l++m)++[x]).length=(l++m).length+1:=by rw[List.length_append];rfl
 have hm:(l++m).length=l.length+m.length:=by simp
 have b1:hAt (l++m) (l++m).length=2:=by rw[hm,hAt_cat,h.ht,h'.ht];rfl
 have b2:mxH cs (l++m) (l++m).length=max v.1 (1+u.1):=by rw[hm,mxH_cat,h.ht,h.mx,h'.mx]
 have b3:stS cs (l++m) (l++m).length=v.2+u.2:=by rw[hm,stS_cat,h.st,h'.st]
 refine⟨?_,?_,?_⟩
 ·rw[hl,hAt_cat,b1,a1];rfl
 ·rw[hl,mxH_cat,b1,b2,a2];show max (max v.1 (1+u.1)) (2+0)=max 2 (max v.1 (1+u.1));omega
 ·rw[hl,stS_cat,b3,a3];show v.2+u.2+1=1+v.2+u.2;omega
theorem told_code: ∀(N:Nat) (e:Ex),SizeOf.sizeOf e≤N→OKE e→(∀x∈nms e,1≤(cs.getD (num x).toNat cd0).high)→ ∀b,Told cs (codeE num e b) (hsE cs num e)
 |0,e,hN,_,_,_=>by cases e;simp at hN
 |N+1,e,hN,h,hn,b=>by
  cases hs:stdE e with
  |true=>
   rw[code_std hs,hs_std hs];exact told_one rfl
  |false=>
   have ih: ∀k∈e.kids,∀b,Told cs (codeE num k b) (hsE cs num k):=fun k hk b=>told_code N k (by have:=kid_lt hk;omega) (h.kid hk) (fun x hx=>hn x (nms_kid hk hx)) b;rcases code_kinds h hs with⟨hk,k,h0⟩|⟨hk,k,h0⟩|⟨hk,k,h0⟩|hk|⟨hk,k,m,h0⟩
   ·have hm:k∈e.kids:=(by rw[h0];simp);rw[code_week hk (by rw[h0];rfl),hs_one hs (.inl hk) h0];exact told_guard (.inl rfl) (ih k hm _)
   ·have hm:k∈e.kids:=(by rw[h0];simp);rw[code_dates hk (by rw[h0];rfl),hs_one hs (.inr (.inl hk)) h0];exact told_guard (.inr rfl) (ih k hm _)
   ·have hm:k∈e.kids:=(by rw[h0];simp);rw[code_shift hs hk h0,hs_one hs (.inr (.inr hk)) h0];exact told_shift rfl (ih k hm _)
   ·rw[code_name hk,hs_name hk];exact told_call rfl (hn e.name (nms_own hk))
   ·have hm:k∈e.kids:=(by rw[h0];simp);have hm':m∈e.kids:=(by rw[h0];simp);rw[code_pair hs hk h0,hs_two hs hk h0];exact told_pair (opK_234 hk) (ih k hm _) (ih m hm' _)
theorem hs_call: ∀(N:Nat) (e:Ex),SizeOf.sizeOf e≤N→OKE e→(∀k,0≤(cs.getD k cd0).steps)→ ∀x∈nms e,(cs.getD (num x).toNat cd0).high≤(hsE cs num e).1∧(cs.getD (num x).toNat cd0).steps<(hsE cs num e).2∧0≤(hsE cs num e).2
 |0,e,hN,_,_,_,_=>by cases e;simp at hN
 |N+1,e,hN,h,hp,x,hx=>by
  have nn: ∀(M:Nat) (q:Ex),SizeOf.sizeOf q≤M→OKE q→0≤(hsE cs num q).2:=by
   intro M;induction M with
   |zero=>intro q hq;cases q;simp at hq
   |succ M ih=>
    intro q hq ho;cases hs:stdE q with
    |true=>rw[hs_std hs];decide
    |false=>
     rcases code_kinds ho hs with⟨hk,k,h0⟩|⟨hk,k,h0⟩|⟨hk,k,h0⟩|hk|⟨hk,k,m,h0⟩
     ·have hm:k∈q.kids:=(by rw[h0];simp);have:=ih k (by have:=kid_lt hm;omega) (ho.kid hm);rw[hs_one hs (.inl hk) h0];show 0≤1+_;omega
     ·have hm:k∈q.kids:=(by rw[h0];simp);have:=ih k (by have:=kid_lt hm;omega) (ho.kid hm);rw[hs_one hs (.inr (.inl hk)) h0];show 0≤1+_;omega
     ·have hm:k∈q.kids:=(by rw[h0];simp);have:=ih k (by have:=kid_lt hm;omega) (ho.kid hm);rw[hs_one hs (.inr (.inr hk)) h0];show 0≤1+_;omega
     ·rw[hs_name hk];have:=hp (num q.name).toNat;show 0≤1+_;omega
     ·have hm:k∈q.kids:=(by rw[h0];simp);have hm':m∈q.kids:=(by rw[h0];simp);have a:=ih k (by have:=kid_lt hm;omega) (ho.kid hm);have b:=ih m (by have:=kid_lt hm';omega) (ho.kid hm');rw[hs_two hs hk h0];show 0≤1+_+_;omega
  refine⟨?_,?_,nn _ e (Nat.le_refl _) h⟩
  all_goals
   cases hs:stdE e with
   |true=>
    exfalso
    have key: ∀(M:Nat) (q:Ex),SizeOf.sizeOf q≤M→stdE q=true→nms q=[]:=by
     intro M;induction M with
     |zero=>intro q hq;cases q;simp at hq
     |succ M ih=>
      intro q hq hsq;rw[nms_eq,if_neg (stdE_kind hsq).2.2,List.nil_append];unfold nmsL;rw[List.flatten_eq_nil_iff];intro s hs';obtain⟨k,hk,rfl⟩:=List.mem_map.1 hs';exact ih k (by have:=kid_lt hk;omega) (stdE_kid hsq hk)
    rw[key _ e (Nat.le_refl _) hs]at hx
    cases hx
   |false=>
    have part: ∀k∈e.kids,x∈nms k→(cs.getD (num x).toNat cd0).high≤(hsE cs num k).1∧(cs.getD (num x).toNat cd0).steps<(hsE cs num k).2∧0≤(hsE cs num k).2:=fun k hk hxk=>hs_call N k (by have:=kid_lt hk;omega) (h.kid hk) hp x hxk
    have split:e.kind≠10→ ∃k∈e.kids,x∈nms k:=fun hne=>by
     rw[nms_eq,if_neg hne,List.nil_append]at hx;unfold nmsL at hx;obtain⟨s,hs',hxs⟩:=List.mem_flatten.1 hx;obtain⟨k,hk,rfl⟩:=List.mem_map.1 hs';exact⟨k,hk,hxs⟩
    rcases code_kinds h hs with⟨hk,k,h0⟩|⟨hk,k,h0⟩|⟨hk,k,h0⟩|hk|⟨hk,k,m,h0⟩
    ·obtain⟨q,hq,hxq⟩:=split (by omega)
     rw[h0,List.mem_singleton]at hq
     subst hq
     obtain⟨a,b,_⟩:=part q (by rw[h0];simp) hxq
     rw[hs_one hs (.inl hk) h0]
     dsimp only
     omega
    ·obtain⟨q,hq,hxq⟩:=split (by omega)
     rw[h0,List.mem_singleton]at hq
     subst hq
     obtain⟨a,b,_⟩:=part q (by rw[h0];simp) hxq
     rw[hs_one hs (.inr (.inl hk)) h0]
     dsimp only
     omega
    ·obtain⟨q,hq,hxq⟩:=split (by omega)
     rw[h0,List.mem_singleton]at hq
     subst hq
     obtain⟨a,b,_⟩:=part q (by rw[h0];simp) hxq
     rw[hs_one hs (.inr (.inr hk)) h0]
     dsimp only
     omega
    ·have hn:nms e=[e.name]:=by
      rw[nms_eq,if_pos hk,name_kids h.alone hk];rfl
     rw[hn,List.mem_singleton]at hx
     subst hx
     rw[hs_name hk]
     dsimp only
     omega
    ·obtain⟨q,hq,hxq⟩:=split (by omega)
     have nk:=nn _ k (Nat.le_refl _) (h.kid (by rw[h0];simp))
     have nm:=nn _ m (Nat.le_refl _) (h.kid (by rw[h0];simp))
     obtain⟨a,b,_⟩:=part q hq hxq
     rw[h0]at hq
     rw[hs_two hs hk h0]
     dsimp only
     rcases List.mem_cons.1 hq with rfl|hq
     ·omega
     ·rw[List.mem_singleton]at hq
      subst hq
      omega
end
end Go.Proofs.YtpmobjgnmidolaaDoor
/- What the document's most, and the closure that moves code, come to. Written by genxa.py. -/
namespace Go.Proofs.YtpmobjgnmidolaaDoor
open Go.RowKit Lx Vx Msk
theorem most_any (a b:Int)(w:World):Calls Tryd.prog 55 #[.int .i64 a,.int .i64 b] w fun r w'=>r= .returned (.int .i64 (max a b))∧w'=w:=by
 by_cases h:b<a
 ·have e:max a b=a:=by omega
  rw[e];go_enter Tryd.func55,Tryd.ntmps55;go_wp2_with fail;go_ret;exact⟨rfl,rfl⟩
 ·have e:max a b=b:=by omega
  rw[e];go_enter Tryd.func55,Tryd.ntmps55;go_wp2_with fail;go_ret;exact⟨rfl,rfl⟩
theorem info7 {t:TypeId}{z:Value}{a b:Nat}(h:(Tryd.prog.info? t).map (fun i=>(i.zero,i.size,i.bytes))=some (some z,a,b)): ∃i,Tryd.prog.info? t=some i∧i.zero=some z∧i.size=a∧i.bytes=b:=by
 cases hi:Tryd.prog.info? t with
 |none=>rw[hi]at h;cases h
 |some i=>
  rw[hi]at h;have h':=Option.some.inj h;exact⟨i,rfl,congrArg (fun x=>x.1) h',congrArg (fun x=>x.2.1) h',congrArg (fun x=>x.2.2) h'⟩
def movP (d:Int)(f:In×Value):In×Value:=(movI d f.1,f.2)
def MvRel (w:World)(xs:List (In×Value))(d:Int)(q t:Value)(wr:World):Prop:= ∃j:Nat,t= .int .i64 (j:Int)∧j≤xs.length∧wr.ownsRow w.heap.size 66 5 q j (flatI ((xs.take j).map (movP d)))∧Below w.heap.size w wr
set_option maxRecDepth 100000 in
set_option maxHeartbeats 4000000 in
theorem moved_any (xs:List (In×Value))(v:Value)(hi st d:Int)(w:World)(h:InsRow w v xs)(hl:xs.length≤2000)(hd:0≤d∧d≤100000)(hto: ∀f∈xs,0≤f.1.to∧f.1.to≤100000):
  Calls Tryd.prog 56 #[.agg #[v,.int .i64 hi,.int .i64 st],.int .i64 d] w fun r w'=> ∃v',r= .returned v'∧w'.ownsRow w.heap.size 66 5 v' xs.length (flatI (xs.map (movP d)))∧Below w.heap.size w w':=by
 obtain⟨p,c,rfl,hlen,hc⟩:=h;have HC:=hid5 hc;have HTO:=hid5 hto;have HD:=hid5 hd;have bA:=(Below.refl w.heap.size w).alloc (Nat.le_refl _) (.cells #[.slice p xs.length c,.int .i64 hi,.int .i64 st] 62);have nA:=heap_alloc_new w (.cells #[.slice p xs.length c,.int .i64 hi,.int .i64 st] 62);have hlI:(xs.length:Int)≤2000:=by omega
 obtain⟨i0,hi0,hz0,hz1,hz2⟩:=info7 insInfoW;clear hc hto hd;generalize hwA:w.alloc (.cells #[.slice p xs.length c,.int .i64 hi,.int .i64 st] 62)=wA at*;have k0:=(cell_of_row _ _ 0 _ _ _ nA).trans rfl;go_enter Tryd.func56,Tryd.ntmps56;go_wp2_with fail;clear k0 hwA nA;go_loopw [5,7,11] (fun q _ t wr=>MvRel w xs d q t wr) (fun _ _ t _=>xs.length-(intOf t).toNat);case atStart=>exact⟨0,rfl,by omega,World.ownsRow_nil _ _ _ _,bA⟩
 case round=>
  obtain⟨j,rfl,hj,hown,hbr⟩:=hrel;have hj0:(0:Int)≤(j:Int):=(by omega);by_cases hlt:j<xs.length
  ·have hlt':(j:Int)<(xs.length:Int):=(by omega);obtain⟨⟨x,sv⟩,hjx⟩: ∃k,xs[j]? =some k:=⟨xs[j],List.getElem?_eq_getElem hlt⟩
   obtain⟨hrv,g,o,hpe,c0,c1,c2,c3,c4⟩:=HC.out j _ hjx;obtain⟨t0,t1⟩:=HTO.out _ (List.mem_of_getElem? hjx);obtain⟨d0,d1⟩:=HD.out;obtain⟨ps,cs,hsv,_⟩:=hrv.form;dsimp only at c0 c1 c2 c3 c4 hsv t0 t1;obtain⟨ns,hns⟩: ∃q,x.sp.length=q:=⟨_,rfl⟩
   rw[hns]at hsv;subst hpe hsv;have f0:=(hbr.cell (block_lt_of_cell c0)).trans c0;have f1:=(hbr.cell (block_lt_of_cell c1)).trans c1;have f2:=(hbr.cell (block_lt_of_cell c2)).trans c2;have f3:=(hbr.cell (block_lt_of_cell c3)).trans c3;have f4:=(hbr.cell (block_lt_of_cell c4)).trans c4;have HJX:=hid5 hjx;have bX:=(Below.refl wr.heap.size wr).alloc (Nat.le_refl _) (.cells #[.int .i64 x.op,.int .i64 x.a,.int .i64 x.b,.int .i64 x.to,.slice ps ns cs] 66);have nX:=heap_alloc_new wr (.cells #[.int .i64 x.op,.int .i64 x.a,.int .i64 x.b,.int .i64 x.to,.slice ps ns cs] 66);have hbX:=hbr.trans (bX.mono hbr.size);have hoX:=owns_keep (w':=wr.alloc (.cells #[.int .i64 x.op,.int .i64 x.a,.int .i64 x.b,.int .i64 x.to,.slice ps ns cs] 66)) hown fun b hb=>bX.block b (hown.lt b hb).2;have hne: ∀b,u5.ownBlock=some b→b≠wr.heap.size:=fun b hb=>(by have:=(hown.lt b hb).2;omega);have HNE:=hid5 hne;have hszr:=hbr.size;clear c0 c1 c2 c3 c4 hjx hown hbr bX hrv hns hne;generalize hwX:wr.alloc (.cells #[.int .i64 x.op,.int .i64 x.a,.int .i64 x.b,.int .i64 x.to,.slice ps ns cs] 66)=wX at*;have k3:=(cell_of_row _ _ 3 _ _ _ nX).trans rfl;have x3:=frozen_of_row _ _ 3 _ _ nX;by_cases hp:0<x.to
   ·have HMV:Hid (movP d (x,.slice ps ns cs)=(⟨x.op,x.a,x.b,x.to+d,x.sp⟩,.slice ps ns cs)):=by
     show _=_;unfold movP movI;rw[if_pos hp]
    have a1:0≤x.to+d:=(by omega);have a2:x.to+d<9223372036854775808:=(by omega);have mX:(wX.setCell ⟨wr.heap.size,3,none⟩ (.int .i64 (x.to+d))).heap[wr.heap.size]? =some (.cells #[.int .i64 x.op,.int .i64 x.a,.int .i64 x.b,.int .i64 (x.to+d),.slice ps ns cs] 66 (0,0)):=(heap_setCell_same wX wr.heap.size 3 _ _ (.int .i64 (x.to+d)) nX).trans rfl;have hbY:=hbX.setCell (p:=⟨wr.heap.size,3,none⟩) (by show w.heap.size≤wr.heap.size;omega) (.int .i64 (x.to+d));have hoY:=owns_keep (w':=wX.setCell ⟨wr.heap.size,3,none⟩ (.int .i64 (x.to+d))) hoX fun b hb=>heap_setCell_other _ _ _ _ (HNE.out b hb);clear hbX hoX HNE;generalize hwY:wX.setCell ⟨wr.heap.size,3,none⟩ (.int .i64 (x.to+d))=wY at*;have b4:=(Below.refl wY.heap.size wY).alloc (Nat.le_refl _) (.cells #[.int .i64 x.op,.int .i64 x.a,.int .i64 x.b,.int .i64 (x.to+d),.slice ps ns cs] 66);have n4:=heap_alloc_new wY (.cells #[.int .i64 x.op,.int .i64 x.a,.int .i64 x.b,.int .i64 (x.to+d),.slice ps ns cs] 66);have hb4:=hbY.trans (b4.mono hbY.size);have ho4:=owns_keep (w':=wY.alloc (.cells #[.int .i64 x.op,.int .i64 x.a,.int .i64 x.b,.int .i64 (x.to+d),.slice ps ns cs] 66)) hoY fun b hb=>b4.block b (hoY.lt b hb).2;have hbI:=buildI (⟨x.op,x.a,x.b,x.to+d,x.sp⟩,.slice ps ns cs) ⟨ps,ns,cs,rfl⟩ wY;unfold iv at hbI;dsimp only at hbI;have sz4:=hb4.size;have HLO:=hid5 ho4.lt;have hsY:=lt_of_block mX;clear hbY hoY b4;generalize hw4:wY.alloc (.cells #[.int .i64 x.op,.int .i64 x.a,.int .i64 x.b,.int .i64 (x.to+d),.slice ps ns cs] 66)=w4 at*
    go_wp2_with(first
     |(refine wpList_load_row rfl 66 _ rfl _ rfl _ _ _ _ mX insTypeW rfl (by kernel_rfl) ?_)
     |(at_builtin;refine wpList_append_own _ rfl _ _ 40 rfl w.heap.size 66 i0 (.agg #[.int .i64 0,.int .i64 0,.int .i64 0,.int .i64 0,.slice none 0 0]) 5 56 inssTypeW hi0 hz0 hz1 hz2 rfl (by decide) u5 j (flatI ((xs.take j).map (movP d))) rfl ho4 ⟨wY.heap.size,0,none⟩ 1 1 (iv (⟨x.op,x.a,x.b,x.to+d,x.sp⟩,.slice ps ns cs)).toList rfl rfl ?c1 ?c2 ?c3 ?c4 ?c5 ?_))
    case c1=>
     intro jj u' hj;match jj,hj with
     |0,hj=>simp[iv]at hj;subst hj;exact(cell_of_row _ _ _ _ _ _ n4).trans rfl
     |1,hj=>simp[iv]at hj;subst hj;exact(cell_of_row _ _ _ _ _ _ n4).trans rfl
     |2,hj=>simp[iv]at hj;subst hj;exact(cell_of_row _ _ _ _ _ _ n4).trans rfl
     |3,hj=>simp[iv]at hj;subst hj;exact(cell_of_row _ _ _ _ _ _ n4).trans rfl
     |4,hj=>simp[iv]at hj;subst hj;exact(cell_of_row _ _ _ _ _ _ n4).trans rfl
     |jj+5,hj=>simp[iv]at hj
    case c2=>intro u hu;simp[iv]at hu;rcases hu with rfl|rfl|rfl|rfl|rfl<;>rfl
    case c3=>unfold maxLen;omega
    case c4=>omega
    intro v' w5 hown' hgrow _;have hb5:Below w.heap.size w w5:=hb4.grown hgrow sz4 (fun q hq=>(HLO.out q hq).1)
    have HN:Hid (MvRel w xs d v' (.int .i64 ((j+1:Nat):Int)) w5):=by
     refine⟨j+1,rfl,by omega,?_,hb5⟩;rw[List.take_add_one,HJX.out,Option.toList_some,List.map_append,List.map_singleton,flatI_snoc];rw[HMV.out]
     first
      |exact hown'
      |(rw[List.map_take];exact hown')
    clear hown' hgrow ho4 n4 hb4 hb5 HLO HJX HMV hbI;go_wp2_with fail;go_roundw;case rel=>exact HN.out
    case measure=>simp[intOf];omega
   ·have HMV:Hid (movP d (x,.slice ps ns cs)=(x,.slice ps ns cs)):=by
     show _=_;unfold movP movI;rw[if_neg hp]
    have hbY:=hbX;have hoY:=hoX;have hpb:decide (0<x.to)=false:=decide_eq_false hp;clear hbX hoX HNE hp t0 t1 x3;have b4:=(Below.refl wX.heap.size wX).alloc (Nat.le_refl _) (.cells #[.int .i64 x.op,.int .i64 x.a,.int .i64 x.b,.int .i64 x.to,.slice ps ns cs] 66);have n4:=heap_alloc_new wX (.cells #[.int .i64 x.op,.int .i64 x.a,.int .i64 x.b,.int .i64 x.to,.slice ps ns cs] 66);have hb4:=hbY.trans (b4.mono hbY.size);have ho4:=owns_keep (w':=wX.alloc (.cells #[.int .i64 x.op,.int .i64 x.a,.int .i64 x.b,.int .i64 x.to,.slice ps ns cs] 66)) hoY fun b hb=>b4.block b (hoY.lt b hb).2;have hbI:=buildI (x,.slice ps ns cs) ⟨ps,ns,cs,rfl⟩ wX;unfold iv at hbI;dsimp only at hbI;have sz4:=hb4.size;have HLO:=hid5 ho4.lt;have hsY:=lt_of_block nX;clear hbY hoY b4;generalize hw4:wX.alloc (.cells #[.int .i64 x.op,.int .i64 x.a,.int .i64 x.b,.int .i64 x.to,.slice ps ns cs] 66)=w4 at*
    go_wp2_with(first
     |(refine wpList_load_row rfl 66 _ rfl _ rfl _ _ _ _ nX insTypeW rfl (by kernel_rfl) ?_)
     |(at_builtin;refine wpList_append_own _ rfl _ _ 40 rfl w.heap.size 66 i0 (.agg #[.int .i64 0,.int .i64 0,.int .i64 0,.int .i64 0,.slice none 0 0]) 5 56 inssTypeW hi0 hz0 hz1 hz2 rfl (by decide) u5 j (flatI ((xs.take j).map (movP d))) rfl ho4 ⟨wX.heap.size,0,none⟩ 1 1 (iv (x,.slice ps ns cs)).toList rfl rfl ?e1 ?e2 ?e3 ?e4 ?e5 ?_))
    case e1=>
     intro jj u' hj;match jj,hj with
     |0,hj=>simp[iv]at hj;subst hj;exact(cell_of_row _ _ _ _ _ _ n4).trans rfl
     |1,hj=>simp[iv]at hj;subst hj;exact(cell_of_row _ _ _ _ _ _ n4).trans rfl
     |2,hj=>simp[iv]at hj;subst hj;exact(cell_of_row _ _ _ _ _ _ n4).trans rfl
     |3,hj=>simp[iv]at hj;subst hj;exact(cell_of_row _ _ _ _ _ _ n4).trans rfl
     |4,hj=>simp[iv]at hj;subst hj;exact(cell_of_row _ _ _ _ _ _ n4).trans rfl
     |jj+5,hj=>simp[iv]at hj
    case e2=>intro u hu;simp[iv]at hu;rcases hu with rfl|rfl|rfl|rfl|rfl<;>rfl
    case e3=>unfold maxLen;omega
    case e4=>omega
    intro v' w5 hown' hgrow _;have hb5:Below w.heap.size w w5:=hb4.grown hgrow sz4 (fun q hq=>(HLO.out q hq).1)
    have HN:Hid (MvRel w xs d v' (.int .i64 ((j+1:Nat):Int)) w5):=by
     refine⟨j+1,rfl,by omega,?_,hb5⟩;rw[List.take_add_one,HJX.out,Option.toList_some,List.map_append,List.map_singleton,flatI_snoc];rw[HMV.out]
     first
      |exact hown'
      |(rw[List.map_take];exact hown')
    clear hown' hgrow ho4 n4 hb4 hb5 HLO HJX HMV hbI;go_wp2_with fail;go_roundw;case rel=>exact HN.out
    case measure=>simp[intOf];omega
  ·have ej:j=xs.length:=(by omega);have hlt': ¬(j:Int)<(xs.length:Int):=(by omega);subst ej;rw[List.take_length]at hown;have HO:=hid5 hown;have HB:=hid5 hbr;clear hown hbr;go_wp2_with fail;go_ret;exact⟨_,rfl,HO.out,HB.out⟩
end Go.Proofs.YtpmobjgnmidolaaDoor
/- What is too much, as the document reckons it, rule by rule: plain. -/
namespace Go.Proofs.YtpmobjgnmidolaaDoor
open Go.RowKit Lx Vx Msk
section
variable {l:List Ru}
theorem lead_name {i k:Nat}{u:Ru}(hu:l[i]? =some u)(hk:k∈leadS l i): ∃x∈nms u.2,(atP5 l x).toNat=k:=by
 rw[leadS_at hu]at hk;obtain⟨m,hm,rfl⟩:=List.mem_map.1 hk;rcases(spoken_mem _ _).1 hm with hm|⟨x,hx,rfl⟩
 ·cases hm
 ·exact⟨x,hx,rfl⟩
theorem cmpL_getD {k:Nat}(h:k<l.length):(cmpL l).getD k cd0=⟨(codeL l).getD k [],(cmpM l k).1,(cmpM l k).2⟩:=by
 simp[List.getD,cmpL_at h]
theorem cmpM_high (hc:(chkW l).1=0){i:Nat}(hi:i<l.length):1≤(cmpM l i).1:=by
 have hu:l[i]? =some l[i]:=List.getElem?_eq_getElem hi;have hr:=(chk_rt hc).2 _ (List.mem_of_getElem? hu);have hw:=(code_well (num:=atP5 l) (R:=l.length) hr.ok fun x hx=>⟨(chk_nm hc (List.mem_of_getElem? hu) hx).1,(chk_nm hc (List.mem_of_getElem? hu) hx).2.1⟩).1;have h1:=hAt_mx (withM (codeL l) (cmpM l)) (codeE (atP5 l) (l[i]).2 0) (codeE (atP5 l) (l[i]).2 0).length;rw[hw.fin]at h1;rw[cmpM_eq hc hi];unfold reck;rw[codeL_at hu];show 1≤min _ 101;omega
theorem cmpM_hs (hc:(chkW l).1=0){i:Nat}{u:Ru}(hu:l[i]? =some u):cmpM l i=(min (hsE (cmpL l) (atP5 l) u.2).1 101,min (hsE (cmpL l) (atP5 l) u.2).2 20001):=by
 have hi:i<l.length:=(List.getElem?_eq_some_iff.1 hu).1;have hr:=(chk_rt hc).2 _ (List.mem_of_getElem? hu)
 have ht:=told_code (cs:=cmpL l) (num:=atP5 l) _ u.2 (Nat.le_refl _) hr.ok (fun x hx=>by
  obtain⟨h0,h1,_⟩:=chk_nm hc (List.mem_of_getElem? hu) hx;rw[cmpL_getD (by omega)];exact cmpM_high hc (by omega)) 0
 rw[cmpM_eq hc hi];unfold reck;rw[codeL_at hu];show(min (mxH (cmpL l) _ _) 101,min (stS (cmpL l) _ _) 20001)=_;rw[ht.mx,ht.st]
theorem much_up (hc:(chkW l).1=0){i k:Nat}(hi:i<l.length)(hk:k∈leadS l i)(hb:much (cmpM l k)=true):much (cmpM l i)=true:=by
 have hu:l[i]? =some l[i]:=List.getElem?_eq_getElem hi;have hr:=(chk_rt hc).2 _ (List.mem_of_getElem? hu);obtain⟨x,hx,rfl⟩:=lead_name hu hk;obtain⟨h0,h1,_⟩:=chk_nm hc (List.mem_of_getElem? hu) hx;have hkl:(atP5 l x).toNat<l.length:=by omega
 obtain⟨a,b,_⟩:=hs_call (cs:=cmpL l) (num:=atP5 l) _ (l[i]).2 (Nat.le_refl _) hr.ok (fun k=>((cmpM_small l).st k).1) x hx;rw[cmpL_getD hkl]at a b;rw[cmpM_hs hc hu];unfold much at hb⊢;rw[Bool.or_eq_true,decide_eq_true_eq,decide_eq_true_eq]at hb⊢;dsimp only at a b⊢;omega
theorem much_way (hc:(chkW l).1=0){i k:Nat}(hi:i<l.length)(hw:Relation.TransGen (fun a b=>(leadS l a).contains b=true) i k)(hb:much (cmpM l k)=true):much (cmpM l i)=true:=by
 have hno:=(chk_lk2 hc).2
 have key: ∀a b,Relation.TransGen (fun a b=>(leadS l a).contains b=true) a b→a<l.length→(b<l.length∧(much (cmpM l b)=true→much (cmpM l a)=true)):=fun a b h=>by
  induction h with
  |single h=>
   intro ha;have hm:=List.contains_iff_mem.1 h;exact⟨leadS_lt hno a _ hm,much_up hc ha hm⟩
  |tail _ h ih=>
   intro ha;obtain⟨h1,h2⟩:=ih ha;have hm:=List.contains_iff_mem.1 h;exact⟨leadS_lt hno _ _ hm,fun hq=>h2 (much_up hc h1 hm hq)⟩
 exact(key i k hw hi).2 hb
theorem hs_bd {cs:List Cd}{num:List UInt8→Int}(hs:Small cs): ∀(N:Nat) (e:Ex),SizeOf.sizeOf e≤N→OKE e→0≤(hsE cs num e).1∧(hsE cs num e).1≤101+(nodE e:Int)∧0≤(hsE cs num e).2∧(hsE cs num e).2≤20002*(nodE e:Int)
 |0,e,hN,_=>by cases e;simp at hN
 |N+1,e,hN,h=>by
  have hp:=nodE_pos e;cases hs':stdE e with
  |true=>
   rw[hs_std hs'];dsimp only;omega
  |false=>
   have ih:=fun(k:Ex) (hk:k∈e.kids)=>hs_bd (num:=num) hs N k (by have:=kid_lt hk;omega) (h.kid hk);rcases code_kinds h hs' with⟨hk,k,h0⟩|⟨hk,k,h0⟩|⟨hk,k,h0⟩|hk|⟨hk,k,m,h0⟩
   ·have q:=ih k (by rw[h0];simp);have en:nodE e=1+nodE k:=(by rw[nodE_eq,h0];simp);rw[hs_one hs' (.inl hk) h0,en];dsimp only;omega
   ·have q:=ih k (by rw[h0];simp);have en:nodE e=1+nodE k:=(by rw[nodE_eq,h0];simp);rw[hs_one hs' (.inr (.inl hk)) h0,en];dsimp only;omega
   ·have q:=ih k (by rw[h0];simp);have en:nodE e=1+nodE k:=(by rw[nodE_eq,h0];simp);rw[hs_one hs' (.inr (.inr hk)) h0,en];dsimp only;omega
   ·have a:=hs.hi (num e.name).toNat;have b:=hs.st (num e.name).toNat;rw[hs_name hk];dsimp only;omega
   ·have q:=ih k (by rw[h0];simp);have q':=ih m (by rw[h0];simp);have en:nodE e=1+(nodE k+nodE m):=(by rw[nodE_eq,h0];simp);rw[hs_two hs' hk h0,en];dsimp only;omega
end
end Go.Proofs.YtpmobjgnmidolaaDoor
