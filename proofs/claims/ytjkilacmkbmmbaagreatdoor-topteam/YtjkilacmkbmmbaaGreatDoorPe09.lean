/- Texts of the proof. -/
import Derived.Test.YtjkilacmkbmmbaaGreatDoorPe08
import Derived.Lib.AppendZeros
set_option maxRecDepth 100000
set_option maxHeartbeats 8000000
namespace Go.Proofs.YtjkilacmkbmmbaaGreatDoor
open Go.Proofs.Tryz Go.RowKit Lx Vx Mx Msk
namespace Vx
structure Kp where
 r:Int
 d:Int
 v:Int
 m:M
def k0:Kp:=⟨0,0,0,noM⟩
def gX (r d:Int):List Kp->Nat->Int
 |[],_=> -1
 |k::l,j=>if k.r=r/\k.d=d then(j:Int) else gX r d l (j+1)
theorem Hd {r d:Int}{l:List Kp}{j:Nat}{k:Kp}(h:l[j]? =some k)(i:Nat):gX r d (l.drop j) i=if k.r=r/\k.d=d then(i:Int) else gX r d (l.drop (j+1)) (i+1):=by
 have hj:=(aE.1 h).1
 have e:l.drop j=k::l.drop (j+1):=by
  rw[bx hj];congr 1;exact(aE.1 h).2
 rw[e];rfl
theorem rK (r d:Int): ∀(l:List Kp) (j:Nat),gX r d l j= -1\/((j:Int)<=gX r d l j/\gX r d l j<(j:Int)+l.length)
 |[],_=> .inl rfl
 |k::l,j=>by
  unfold gX;by_cases h:k.r=r/\k.d=d
  ·rw[ay h];refine .inr ⟨fi _,?_⟩;rw[bz];omega
  ·rw[aw h];rcases rK r d l (j+1) with h1|⟨h1,h2⟩
   ·exact .inl h1
   ·refine .inr ⟨by omega,?_⟩;rw[bz];omega
def fT (l:List Kp)(i:Int):List Kp:=if 0<=i then l.take i.toNat++l.drop (i.toNat+1) else l
def uD (l:List Kp):List Kp:=l.drop (l.length-64)
def nT (l:List Kp)(v r d:Int):Bool:=decide (0<=gX r d l 0)&&decide ((l.getD (gX r d l 0).toNat k0).v=v)
theorem E7 {l:List Kp}{i:Int}(h:i<l.length):(fT l i).length<=l.length:=by
 unfold fT;split
 ·simp;omega
 ·exact aA _
theorem C0 {l:List Kp}{i:Int}(h0:0<=i)(h:i<l.length):(fT l i).length+1=l.length:=by
 unfold fT;rw[ay h0];simp;omega
def al8:List Cd:=[⟨[⟨1,0,0,0,[(5,9)]⟩,⟨1,0,0,0,[(7,12)]⟩,⟨2,0,0,0,[]⟩],2,3⟩]
def al9:List Cd:=[⟨[⟨1,0,0,0,[(5,9)]⟩],1,1⟩]
section
variable {wk:Int->Bool} {day:Int} {cs:List Cd} {l:List In}
structure Fr where
 r:Nat
 k:Nat
 S:List M
section
variable (wk:Int->Bool) (day:Int) (cs:List Cd)
end
end
section
variable {wk:Int->Bool} {day:Int} {cs:List Cd} {l:List In}
abbrev NV (cs:List Cd)(r:Nat):List In:=(cs.getD r cd0).ins
theorem l3.at (hR:l3 cs){r:Nat}(hr:r<cs.length): ∃c,cs[r]? =some c/\NV cs r=c.ins/\lN c.ins/\(∀(j:Nat) (x:In),c.ins[j]? =some x->fj x j c.ins.length cs.length=0)/\c.ins.length<=2000:=by
 have hu:cs[r]? =some cs[r]:=ax hr;have ha:=je (hR.alone r _ hu);exact⟨cs[r],hu,by unfold NV;rw[iO hu],(hR.fit r _ hu).well,ha.2.2,ha.1.2⟩
end
end Vx
section
section
variable {wd:World} {gb:Nat} {X:Array Value} {L:Nat->Bool} {W:World}
end
section
variable {w0 W W':World} {F:List Fr} {S:List M} {sv fv:Value} {gb:Nat} {X:Array Value}
theorem E8 {w0 W W':World}{row:Option Nat}(hb:ao w0 W)(hg:W.grownBy W' row)(hr: ∀k,row=some k->w0.heap.size<=k):ao w0 W':=
 ⟨hg.os.trans hb.os,hg.tape.trans hb.tape,hg.output.trans hb.output,a6 hb.size hg.size,fun q hq=>(hg.block q (aO hq hb.size) fun e=>by have:=hr q e.symm;omega).trans (hb.block q hq)⟩
end
end
section
section
variable {vals:List Value} {base n:Nat} {xs:List Value} {f:M} {L L':Nat->Bool} {W W' W1:World} {row:Option Nat}
end
theorem lc {w w':World}{g o:Nat}{xs:List Value}(h:w.rangeAt g o xs)(hb:ao w w'):w'.rangeAt g o xs:=fun j v hj=>by
 have hc:=h j v hj;exact aj hb hc
theorem JY {op:Oper}{a:Act}{w:World}{K:Act->World->Prop}{Q:Exit->Act->World->Prop}(x:Operand)(ho:op.op= .load 61 x)(b o:Nat)(hx:a.eval x=ab b o)(f:M)(hc:w.rangeAt b o (mv f).toList)(h:K (a.put op.dst (.agg (mv f))) w):op.wp prog a w K Q:=by
 refine wp_load_mid 61 x ho b o hx (mv f).toList _ hc bQ rfl (by rw[rI];kernel_rfl) ?_;simpa using h
end
def kv (k:Kp):Array Value:= #[ag k.r,ag k.d,ag k.v]++mv k.m
theorem pK (k:Kp):(kv k).size=26:=by simp[kv,bO]
theorem DN (k:Kp):(kv k).toList.length=26:=by rw[bP];exact pK k
theorem BM (k:Kp):(kv k).all (·.oneCell')=true:=by
 unfold kv;rw[Array.all_append,dH];simp[Value.oneCell']
theorem PL (k:Kp):(kv k)[0]? =some (ag k.r):=by
 unfold kv;rw[Array.getElem?_append_left (by simp)];rfl
theorem PM (k:Kp):(kv k)[1]? =some (ag k.d):=by
 unfold kv;rw[Array.getElem?_append_left (by simp)];rfl
theorem JZ (k:Kp):(kv k)[2]? =some (ag k.v):=by
 unfold kv;rw[Array.getElem?_append_left (by simp)];rfl
theorem Mi (k:Kp): ∀u∈(kv k).toList,u.oneCell'=true:=by
 intro u hu;have:=BM k;rw[Array.all_eq_true_iff_forall_mem]at this;exact this u (Array.mem_def.2 hu)
theorem qp:prog.underlying 241=some (.struct (prog.fieldsOf 241)):=by kernel_rfl
theorem nU (k:Kp):(prog.info? 241).map (·.size)=some (kv k).size:=by rw[pK];kernel_rfl
theorem He (k:Kp):(prog.info? 241).map (·.size)=some (kv k).toList.length:=by rw[DN];kernel_rfl
def iA (l:List Kp):List Value:=l.flatMap fun k=>(kv k).toList
theorem lB (l l':List Kp):iA (l++l')=iA l++iA l':=by unfold iA;rw[dZ]
theorem zC (k:Kp):iA [k]=(kv k).toList:=by simp[iA]
theorem oQ: ∀l:List Kp,(iA l).length=l.length*26
 |[]=>rfl
 |k::l=>by
  have h:=oQ l;have e:iA (k::l)=(kv k).toList++iA l:=rfl;rw[e,aL,h,DN,bz];omega
theorem Hf: ∀(l:List Kp),∀u∈iA l,u.oneCell'=true:=fun l u hu=>by
 unfold iA at hu;rw[List.mem_flatMap]at hu;obtain⟨k,_,h⟩:=hu;exact Mi k u h
theorem xr {w:World}{g o:Nat}{xs ys:List Value}(h:w.rangeAt g o (xs++ys)):w.rangeAt g o xs:=fun j v hj=>
 h j v (by rw[d6 (aE.1 hj).1];exact hj)
theorem vh {w:World}{g o:Nat}{xs ys:List Value}(h:w.rangeAt g o (xs++ys)):w.rangeAt g (o+xs.length) ys:=fun j v hj=>by
 have:=h (xs.length+j) v (by rw[dG (by omega),Nat.add_sub_cancel_left];exact hj);rw[<-Nat.add_assoc]at this;exact this
def dM (B:Nat)(w:World)(v:Value)(l:List Kp):Prop:= ∃p c,v= .slice p l.length c/\l.length<=c/\c<=maxLen/\(l≠[]-> ∃g o,p=some ⟨g,o,none⟩/\B<=g/\w.rangeAt g o (iA l))
theorem dM.later {B:Nat}{w w':World}{v:Value}{l:List Kp}(h:dM B w v l)(hb:ao w w'):dM B w' v l:=by
 obtain⟨p,c,e,h1,h2,h3⟩:=h;refine⟨p,c,e,h1,h2,fun hn=> ?_⟩;obtain⟨g,o,hp,hB,hr⟩:=h3 hn;exact⟨g,o,hp,hB,lc hr hb⟩
theorem dM.low {B B':Nat}{w:World}{v:Value}{l:List Kp}(h:dM B w v l)(hb:B'<=B):dM B' w v l:=by
 obtain⟨p,c,e,h1,h2,h3⟩:=h;refine⟨p,c,e,h1,h2,fun hn=> ?_⟩;obtain⟨g,o,hp,hB,hr⟩:=h3 hn;exact⟨g,o,hp,a6 hb hB,hr⟩
theorem J1 {w:World}{g o:Nat}{l:List Kp}(h:w.rangeAt g o (iA l)){j:Nat}{k:Kp}(hj:l[j]? =some k):w.rangeAt g (o+j*26) (kv k).toList:=by
 have hjl:=(aE.1 hj).1
 have e:l=l.take j++([k]++l.drop (j+1)):=by
  conv=>lhs;rw[<-gy j l]
  congr 1;rw[bx hjl,(aE.1 hj).2];rfl
 rw[e,lB,lB,zC]at h;have h1:=xr (vh h);rw[oQ,d8,fC (by omega)]at h1;exact h1
theorem dM.at {B:Nat}{w:World}{p:Option Addr}{n c:Nat}{l:List Kp}(h:dM B w (.slice p n c) l){j:Nat}{k:Kp}(hj:l[j]? =some k): ∃g o,p=some ⟨g,o,none⟩/\w.rangeAt g (o+j*26) (kv k).toList:=by
 obtain⟨p',c',e,_,_,h3⟩:=h;injection e with e1 _ _;subst e1;obtain⟨g,o,hp,_,hr⟩:=h3 (by rintro rfl;simp at hj);exact⟨g,o,hp,J1 hr hj⟩
theorem tw {ops:Array Oper}{rest:List Oper}{op:Oper}{a:Act}{w:World}{Q:Exit->Act->World->Prop}(hgd:op.guard=none)(x:Operand)(ho:op.op= .load 241 x)(b o:Nat)(hx:a.eval x=ab b o)(k:Kp)(hc:w.rangeAt b o (kv k).toList)
  (h:wpList prog ops Q rest (a.put op.dst (.agg (kv k))) w):wpList prog ops Q (op::rest) a w:=by
 refine wpList_load_mid hgd 241 x ho b o hx (kv k).toList _ hc qp rfl (He k) ?_;simpa using h
theorem J2 (k:Kp)(g8 g9:Nat)(rule day:Int)(w:World)(h8:w.heap[g8]? =ah #[ag rule] 3)(h9:w.heap[g9]? =ah #[ag day] 3):
  Calls prog 185 #[.agg (kv k),ab g8 0,ab g9 0] w fun e w'=>e= .returned (.bool (decide (k.r=rule/\k.d=day)))/\ao w w':=by
 have bA:=am w (.cells (kv k) 241);have nA:=aC w (.cells (kv k) 241);have z8:=(aV _ _ 0 _ _ _ (ai bA h8)).trans rfl;have z9:=(aV _ _ 0 _ _ _ (ai bA h9)).trans rfl;have y0:=(aV _ _ 0 _ _ _ nA).trans (PL k);have y1:=(aV _ _ 1 _ _ _ nA).trans (PM k);generalize hwA:w.alloc (.cells (kv k) 241)=wA at*;obtain⟨r,d,v,m⟩:=k;dsimp only at*;by_cases hr:r=rule
 ·by_cases hd:d=day
  ·rw[a7 (⟨hr,hd⟩:r=rule/\d=day)];have e1:(r==rule)=true:=(by simp[hr]);have e2:(d==day)=true:=(by simp[hd]);clear hr hd h8 h9 nA;go_enter func185,ntmps185;go_wp2_with fail;go_ret;exact⟨rfl,bA⟩
  ·rw[bj (fun e:r=rule/\d=day=>hd e.2)];have e1:(r==rule)=true:=(by simp[hr]);have e2:(d==day)=false:=(by simp[hd]);clear hr hd h8 h9 nA;go_enter func185,ntmps185;go_wp2_with fail;go_ret;exact⟨rfl,bA⟩
 ·rw[bj (fun e:r=rule/\d=day=>hr e.1)];have e1:(r==rule)=false:=(by simp[hr]);clear hr h8 h9 nA;go_enter func185,ntmps185;go_wp2_with fail;go_ret;exact⟨rfl,bA⟩
theorem tz (l:List Kp)(v:Value)(g8 g9:Nat)(rule day:Int)(w:World)(h:dM 0 w v l)(h8:w.heap[g8]? =ah #[ag rule] 3)(h9:w.heap[g9]? =ah #[ag day] 3):
  Calls prog 184 #[v,.func (.func 185) #[] #[ab g8 0,ab g9 0]] w fun e w'=>e= .returned (ag (gX rule day l 0))/\ao w w':=by
 have HK:=aY h;obtain⟨p,c,rfl,hlc,hcm,_⟩:=h;have hlm:l.length<9223372036854775808:=by unfold maxLen at hcm;omega
 clear hlc hcm;go_enter func184,ntmps184;go_wp2_with fail;go_loopw [5,8] (fun _ t wr=> ∃j:Nat,t=ag (j:Int)/\j<=l.length/\gX rule day l 0=gX rule day (l.drop j) j/\ao w wr) (fun _ t _=>l.length-(intOf t).toNat);case atStart=>exact⟨0,rfl,by omega,rfl,aG _ _⟩
 case round=>
  obtain⟨j,rfl,hj,hX,hb⟩:=hrel;have hj0:(0:Int)<=(j:Int):=(by omega);by_cases hlt:j<l.length
  ·have hlt':(j:Int)<(l.length:Int):=(by omega);obtain⟨k,hjk⟩: ∃p,l[j]? =some p:=⟨l[j],ax hlt⟩
   rw[Hd hjk]at hX;obtain⟨g,o,hpe,hr⟩:=HK.o.at hjk;subst hpe;have hr2:=lc hr hb;have c1:=J2 k g8 g9 rule day wr (ai hb h8) (ai hb h9);clear hr hjk;go_wp2_with(refine tw rfl _ rfl g (o+j*26) rfl k hr2 ?_)
   refine c1.mono ?_;rintro e w1 ⟨rfl,b1⟩;have hb1:=au hb b1;clear c1 b1 hr2 hb;by_cases hm:k.r=rule/\k.d=day
   ·rw[ay hm]at hX;have HX:=aY hX;rw[a7 hm];clear hX hm;go_wp2_with fail;go_ret;exact⟨by(rw[HX.o])<;>rfl,hb1⟩
   ·rw[aw hm]at hX;have HX:=aY hX;rw[bj hm];clear hX hm;go_wp2_with fail;go_roundw;case rel=>exact⟨j+1,by go_num,by omega,HX.o,hb1⟩
    case measure=>simp[intOf];omega
  ·have hlt': ¬(j:Int)<(l.length:Int):=(by omega)
   have HX:P3 (gX rule day l 0= -1):=by
    show _=_;rw[hX,dc (by omega)];rfl
   clear hX;go_wp2_with fail;go_ret;exact⟨by(rw[HX.o])<;>rfl,hb⟩
section
theorem vO:(prog.info? 241).map (fun i=>(i.zero,i.size,i.bytes))=some (some (.agg (kv ⟨0,0,0,fun _=>false⟩)),26,208):=by kernel_rfl
theorem tA:prog.underlying 91=some (.slice 241):=by kernel_rfl
theorem mO {w:World}{base n:Nat}{sv:Value}{xs:List Value}(h:w.ownsRow base 241 26 sv n xs): ∃p c,sv= .slice p n c/\n<=c:=by
 rcases h.2 with⟨e,e2⟩|⟨b,cap,cur,e,_,_,hn,_⟩
 ·exact⟨none,0,by rw[e,e2],by omega⟩
 ·exact⟨_,cap,e,hn⟩
theorem dM.of_own {w:World}{base:Nat}{v:Value}{l:List Kp}(h:w.ownsRow base 241 26 v l.length (iA l)):dM base w v l:=by
 rcases h.2 with⟨e,e2⟩|⟨g,cap,cur,e,hb,hg,hn,hc,hs,hx⟩
 ·exact⟨none,0,by rw[e,e2],by omega,by unfold maxLen;omega,fun q=>absurd (gV.1 e2) q⟩
 ·refine⟨_,cap,e,hn,hc,fun _=>⟨g,0,rfl,hb,fun j u hj=> ?_⟩⟩
  have hjl:j<l.length*26:=by
   have:=(aE.1 hj).1;rwa[oQ]at this
  refine(aV _ _ _ _ _ _ hg).trans ?_;rw[<-hx,dA hjl,bo]at hj;rw[bK];exact hj
theorem xu (w:World)(ty:TypeId)(base p:Option Addr)(n cap c:Nat)(hle:n<=cap):(Builtin.append_ #[91,91] ty #[.slice base n cap,.slice p 0 c]).run prog w= .ok (.slice base n cap) w:=by
 obtain⟨i0,hi,hz0,hz1,hz2⟩:=iW vO;cases base<;>cases p<;>simp[Builtin.append_,fX tA,sizeOf,typeInfo,hi,hle,Builtin.lenOf,Builtin.firstCells,storeCells,loadCells,loadCellsFrom]
section
variable {ops:Array Oper} {rest:List Oper} {op:Oper} {a:Act} {w:World} {Q:Exit->Act->World->Prop}
theorem yE (hgd:op.guard=none)(s x:Operand)(ho:op.op= .call {callee:= .builtin .append,args:= #[s,x],argTypes:= #[91,91]})(base:Nat)(S l:List Kp)(v vx:Value)(hs:a.eval s=v)(hown:w.ownsRow base 241 26 v S.length (iA S))(hx:a.eval x=vx)(hk:dM 0 w vx l)(hS:S.length+l.length<=676622540160)(hb:base<=w.heap.size)
  (h: ∀v' w',w'.ownsRow base 241 26 v' (S++l).length (iA (S++l))->w.grownBy w' v.ownBlock->wpList prog ops Q rest (a.put op.dst v') w'):wpList prog ops Q (op::rest) a w:=by
 obtain⟨p,c,e,hlc,hcm,hr⟩:=hk;subst e;by_cases hl:l=[]
 ·subst hl;obtain⟨p1,c1,e1,hn1⟩:=mO hown;subst e1;rw[gZ]at h;refine Go.Lib.wpList_append_run w hgd s x _ _ ho _ _ hs hx _ _ (xu w _ p1 p _ c1 c hn1) (h _ _ hown ⟨rfl,rfl,rfl,aA _,fun _ _ _=>rfl⟩)
 ·obtain⟨g,o,hp,_,hrg⟩:=hr hl;subst hp;obtain⟨i0,hi,hz0,hz1,hz2⟩:=iW vO;refine iK (w:=w) hgd s x 91 ho base 241 i0 _ 26 208 tA hi hz0 hz1 hz2 (by exact pK _) (by decide) v S.length (iA S) hs hown ⟨g,o,none⟩ l.length c (iA l) hx (oQ l) ?_ (Hf l) (by unfold maxLen;omega) (by omega) hb fun v' w' h1 h2 _=> ?_
  ·intro q u hq;rw[uB];exact hrg q u hq
  ·refine h v' w' ?_ h2;rw[aL,lB];exact h1
end
theorem O6 (n:Nat)(w:World)(h0:0<n)(h1:n<=676622540160):
  Calls prog 209 #[af,ag (n:Int)] w fun e w'=> ∃v,e= .returned v/\w'.ownsRow w.heap.size 241 26 v 0 []/\ao w w':=by
 obtain⟨i0,hi,hz0,hz1,hz2⟩:=iW vO;have hrun:=fun ty=>Go.Lib.run_append_nil_zeros (P:=prog) w 91 3 ty 241 i0 _ .i64 .i64 tA (by kernel_rfl) hi hz0 n h0 (by omega) (by omega) (by rw[hz2];omega);have hge:=grownCap_ge w n 0 241;have hle:=grownCap_le_maxLen w n 0 241 (by unfold maxLen;omega)
 have hsz:(Builtin.zeroCells (Value.agg (kv ⟨0,0,0,fun _=>false⟩)).cells n++Builtin.zeroCells (Value.agg (kv ⟨0,0,0,fun _=>false⟩)).cells (grownCap w n 0 241-n)).size=grownCap w n 0 241*26:=by
  rw[Array.size_append,size_zeroCells,size_zeroCells];have e:(Value.agg (kv ⟨0,0,0,fun _=>false⟩)).cells.size=26:=pK _;rw[e];omega
 have HN:P3 ((w.drew.alloc (.cells (Builtin.zeroCells (Value.agg (kv ⟨0,0,0,fun _=>false⟩)).cells n++Builtin.zeroCells (Value.agg (kv ⟨0,0,0,fun _=>false⟩)).cells (grownCap w n 0 241-n)) 241)).ownsRow w.heap.size 241 26 (.slice (some (ae w.heap.size 0)) 0 (grownCap w n 0 241)) 0 []):=
  ⟨rfl,.inr ⟨w.heap.size,_,_,rfl,aA _,aC _ _,df _,hle,hsz,by simp⟩⟩
 have hb:ao w (w.drew.alloc (.cells (Builtin.zeroCells (Value.agg (kv ⟨0,0,0,fun _=>false⟩)).cells n++Builtin.zeroCells (Value.agg (kv ⟨0,0,0,fun _=>false⟩)).cells (grownCap w n 0 241-n)) 241)):=(aG _ _).drew.alloc (aA _) _;generalize w.drew.alloc (.cells (Builtin.zeroCells (Value.agg (kv ⟨0,0,0,fun _=>false⟩)).cells n++Builtin.zeroCells (Value.agg (kv ⟨0,0,0,fun _=>false⟩)).cells (grownCap w n 0 241-n)) 241)=w1 at*;generalize grownCap w n 0 241=cap at*;have hn0:(0:Int)<(n:Int):=by omega
 have hn1:(n:Int)<=676622540160:=by omega
 have hcap:cap<=9223372036854775807:=by unfold maxLen at hle;omega
 clear hsz hle;go_enter func209,ntmps209;go_wp2_with(refine Go.Lib.wpList_append_run w rfl _ _ _ _ rfl _ _ rfl rfl _ _ (hrun _) ?_)
 go_ret;exact⟨_,rfl,HN.o,hb⟩
def io (ps:List (Value×List Kp))(j:Nat):List Kp:=(ps.take j).flatMap fun p=>p.2
theorem zD {ps:List (Value×List Kp)}{j:Nat}{p:Value×List Kp}(h:ps[j]? =some p):io ps (j+1)=io ps j++p.2:=by
 unfold io;rw[ft,h,dZ];simp
theorem Mj (ps:List (Value×List Kp))(j:Nat):(io ps j).length<=(io ps ps.length).length:=by
 unfold io;rw[fI];conv=>rhs;rw[<-gy j ps]
 rw[dZ,aL];omega
theorem xw (ps:List (Value×List Kp))(gP oP cP:Nat)(w:World)(hP: ∀(j:Nat) (p:Value×List Kp),ps[j]? =some p->w.cell? (ae gP (oP+j))=some p.1/\dM 0 w p.1 p.2)(hps:ps.length<=1000)(h0:0<(io ps ps.length).length)(h1:(io ps ps.length).length<=676622540160):
  Calls prog 199 #[.slice (some (ae gP oP)) ps.length cP] w fun e w'=> ∃v,e= .returned v/\w'.ownsRow w.heap.size 241 26 v (io ps ps.length).length (iA (io ps ps.length))/\ao w w':=by
 have HP:=aY hP;have hmax:=fun j=>Mj ps j;clear hP;go_enter func199,ntmps199;go_wp2_with fail;go_loopw [3,5,11] (fun s _ t wr=> ∃j:Nat,s=ag ((io ps j).length:Int)/\t=ag (j:Int)/\j<=ps.length/\wr=w) (fun _ _ t _=>ps.length-(intOf t).toNat);case atStart=>exact⟨0,rfl,rfl,by omega,rfl⟩
 case round=>
  obtain⟨j,rfl,rfl,hj,hwr⟩:=hrel;replace hwr:=hwr.symm;subst hwr;have hj0:(0:Int)<=(j:Int):=(by omega);by_cases hlt:j<ps.length
  ·have hlt':(j:Int)<(ps.length:Int):=(by omega);obtain⟨p,hjp⟩: ∃p,ps[j]? =some p:=⟨ps[j],ax hlt⟩
   obtain⟨hc,hk⟩:=HP.o j p hjp;have e:=zD hjp;have m1:=hmax (j+1);rw[e,aL]at m1;obtain⟨vp,lp⟩:=p;obtain⟨pp,cp,hve,_,_,_⟩:=hk;dsimp only at hc hve e m1;subst hve;have HE:P3 ((io ps j).length+lp.length=(io ps (j+1)).length):=(by show _=_;rw[e,aL]);clear e hjp;have hs1:((io ps j).length:Int)+(lp.length:Int)<=676622540160:=(by omega);have hs0:(0:Int)<=((io ps j).length:Int)+(lp.length:Int):=(by omega);generalize (io ps j).length=sj at*;generalize lp.length=nj at*;clear m1 hmax;go_wp2_with fail;go_roundw;case rel=>exact⟨j+1,by(rw[<-HE.o])<;>go_num,by go_num,by omega,trivial⟩
   case measure=>simp[intOf];omega
  ·have hlt': ¬(j:Int)<(ps.length:Int):=(by omega);have ej:j=ps.length:=(by omega);subst ej;have c1:=O6 (io ps ps.length).length w h0 h1;go_wp2_with fail;refine c1.mono ?_;rintro e w1 ⟨v1,rfl,own1,b1⟩;obtain⟨p1,q1,rfl,_⟩:=mO own1;clear c1;go_wp2_with fail;go_loopw [6,8,27] (fun s _ t wr=> ∃j:Nat,t=ag (j:Int)/\j<=ps.length/\wr.ownsRow w.heap.size 241 26 s (io ps j).length (iA (io ps j))/\ao w wr) (fun _ _ t _=>ps.length-(intOf t).toNat);case atStart=>exact⟨0,rfl,by omega,own1,b1⟩
   case round=>
    obtain⟨j,rfl,hj,own2,b2⟩:=hrel;have hj0:(0:Int)<=(j:Int):=(by omega);obtain⟨p2,q2,rfl,_⟩:=mO own2;by_cases hlt:j<ps.length
    ·have hlt':(j:Int)<(ps.length:Int):=(by omega);obtain⟨p,hjp⟩: ∃p,ps[j]? =some p:=⟨ps[j],ax hlt⟩
     obtain⟨hc,hk⟩:=HP.o j p hjp;have e:=zD hjp;have m1:=hmax (j+1);rw[e,aL]at m1;have hk2:=hk.later b2;have hc2:=aj b2 hc;have hbase:=b2.size;have hm2:(io ps j).length+p.2.length<=676622540160:=(by omega);obtain⟨vp,lp⟩:=p;dsimp only at hc2 hk2 e hm2;have HE:=aY e;have HK2:=aY hk2;have HO2:=aY own2;have HB2:=aY b2;clear e hjp hk hc own1 b1 m1 hk2 own2 b2 hmax
     go_wp2_with(refine yE rfl _ _ rfl w.heap.size (io ps j) lp _ vp rfl HO2.o rfl HK2.o hm2 hbase ?_
                 intro v9 w9 hv9 hg9
                 rw[<-HE.o]at hv9
                 have hb9:ao w w9:=E8 HB2.o hg9 fun k hk=>(HO2.o.lt k hk).1
                 have HO9:=aY hv9
                 clear HO2 HK2 HB2 HE hv9 hg9)
     go_roundw;case rel=>exact⟨j+1,by go_num,by omega,HO9.o,hb9⟩
     case measure=>simp[intOf];omega
    ·have hlt': ¬(j:Int)<(ps.length:Int):=(by omega);have ej:j=ps.length:=(by omega);subst ej;clear own1 b1;go_wp2_with fail;go_ret;exact⟨_,rfl,own2,b2⟩
end
theorem NW (k:Kp)(W:World):(Instr.buildSlice 91 1 #[(0,.agg (kv k))]).run prog W= .ok (.slice (some (ae W.heap.size 0)) 1 1) (W.alloc (.cells (kv k) 241)):=by
 kernel_rfl
theorem sQ {ops:Array Oper}{rest:List Oper}{op:Oper}{a:Act}{w:World}{Q:Exit->Act->World->Prop}(hgd:op.guard=none)(x:Operand)(ho:op.op= .buildSlice 91 1 #[(0,x)])(k:Kp)(hx:a.eval x= .agg (kv k))
  (h:wpList prog ops Q rest (a.put op.dst (.slice (some (ae w.heap.size 0)) 1 1)) (w.alloc (.cells (kv k) 241))):wpList prog ops Q (op::rest) a w:=
 wpList_plain hgd fun _ hK=>by
  unfold Oper.wp execOp;have hb:=NW k w;simp only[ho,hx,iR,dl,eO,jF,kE,gW,hb];exact hK _ _ h
theorem dM.take {B:Nat}{w:World}{p:Option Addr}{n c:Nat}{l:List Kp}(h:dM B w (.slice p n c) l)(j:Nat)(hj:j<=l.length):dM B w (.slice p j c) (l.take j):=by
 obtain⟨p',c',e,h1,h2,h3⟩:=h;injection e with e1 e2 e3;subst e1 e3;refine⟨p,c,by rw[d8,fC hj],by rw[d8];omega,h2,fun hn=> ?_⟩;obtain⟨g,o,hp,hB,hr⟩:=h3 (by rintro rfl;simp at hn);refine⟨g,o,hp,hB,?_⟩;rw[<-gy j l,lB]at hr;exact xr hr
theorem dM.drop {B:Nat}{w:World}{p:Option Addr}{n c:Nat}{l:List Kp}(h:dM B w (.slice p n c) l)(j:Nat)(hj:j<=l.length):dM B w (.slice (if c=j then p else Option.map (fun x=>x.add (j*26)) p) (l.length-j) (c-j)) (l.drop j):=by
 obtain⟨p',c',e,h1,h2,h3⟩:=h;injection e with e1 e2 e3;subst e1 e3;refine⟨_,c-j,by rw[eN],by rw[eN];omega,by omega,fun hn=> ?_⟩
 have hjl:j<l.length:=by
  rcases Nat.lt_or_ge j l.length with q|q
  ·exact q
  ·exact absurd (dc q) hn
 obtain⟨g,o,hp,hB,hr⟩:=h3 (by rintro rfl;simp at hn);subst hp;refine⟨g,o+j*26,?_,hB,?_⟩
 ·rw[aw (by omega)];show some ((⟨g,o,none⟩:Addr).add (j*26))=_;rw[uB]
 ·rw[<-gy j l,lB]at hr;have:=vh hr;rwa[oQ,d8,fC hj]at this
theorem dM.one {w:World}{g:Nat}{k:Kp}(h:w.heap[g]? =ah (kv k) 241):dM 0 w (.slice (some (ae g 0)) 1 1) [k]:=
 ⟨_,1,rfl,by simp,by unfold maxLen;omega,fun _=>⟨g,0,rfl,df _,fun j u hj=>by
   rw[zC]at hj;refine(aV _ _ _ _ _ _ h).trans ?_;rw[bK,<-bo];exact hj⟩⟩
theorem BN {w:World}{b b':Nat}{e:TypeId}{size n:Nat}{v:Value}{xs:List Value}(h:w.ownsRow b' e size v n xs)(hb:b<=b'):w.ownsRow b e size v n xs:=by
 obtain⟨h1,h2⟩:=h;rcases h2 with h2|⟨g,cap,cur,e,q,r⟩
 ·exact⟨h1,.inl h2⟩
 ·exact⟨h1,.inr ⟨g,cap,cur,e,a6 hb q,r⟩⟩
theorem dM.none (B:Nat)(w:World)(p:Option Addr)(c:Nat)(hc:c<=maxLen):dM B w (.slice p 0 c) []:=⟨p,c,rfl,by simp,hc,fun h=>absurd rfl h⟩
theorem BO (l:List Kp)(v:Value)(i:Int)(hi:i<0)(k:Kp)(w:World)(h:dM 0 w v l)(hl:l.length<=676622540150):
  Calls prog 186 #[v,ag (i:Int),.agg (kv k)] w fun e w'=> ∃v',e= .returned v'/\w'.ownsRow w.heap.size 241 26 v' (l++[k]).length (iA (l++[k]))/\ao w w':=by
 obtain⟨R,hR⟩:=aq (l++[k]);rw[hR];have bA:=am w (.cells (kv k) 241);have nA:=aC w (.cells (kv k) 241);have hk1:=h.later bA;obtain⟨p,c,rfl,hlc,hcm,_⟩:=h;have hl0:(0:Int)<=(l.length:Int):=by omega
 have hl1:(l.length:Int)<=676622540150:=by omega
 have hcm':c<=9223372036854775807:=by unfold maxLen at hcm;omega
 generalize hwA:w.alloc (.cells (kv k) 241)=wA at*;have HR1:P3 (dM 0 wA (.slice p l.length c) l):=hk1;have HR2:P3 (dM 0 wA (.slice (if c=l.length then p else Option.map (fun x=>x.add (l.length*26)) p) 0 (c-l.length)) []):=dM.none _ _ _ _ (by omega);have HK:=aY hk1;have HA:=aY bA;clear hk1 hcm bA;go_enter func186,ntmps186;go_wp2_with fail;go_quiet (fail);generalize (if c=l.length then p else Option.map (fun x=>x.add (l.length*26)) p)=q8 at*;have bD:ao wA (wA.drewN nq):=dr (aG _ _) nq;obtain⟨wD,hwD⟩:=aq (wA.drewN nq);rw[hwD]at bD;rw[hwD];have nA2:wD.heap[w.heap.size]? =ah (kv k) 241:=ai bD nA;have bB:=am wD (.cells (kv k) 241);have nB:=aC wD (.cells (kv k) 241);generalize hwB:wD.alloc (.cells (kv k) 241)=wB at*;have bC:=am wB (.cells #[.slice p l.length c,.slice q8 0 (c-l.length),.slice (some (ae wD.heap.size 0)) 1 1] 91);have nC:=aC wB (.cells #[.slice p l.length c,.slice q8 0 (c-l.length),.slice (some (ae wD.heap.size 0)) 1 1] 91);have bAC:=bD.trans ((au bB bC).mono bD.size);have nBC:=ai bC nB;have r1:dM 0 wA (.slice p l.length c) (l):=HR1.o;have r2:dM 0 wA (.slice q8 0 (c-l.length)) ([]):=HR2.o;have q1:=r1.later bAC;have q2:=r2.later bAC;have q3:=dM.one nBC;have hbb:=au HA.o bAC;generalize hwC:wB.alloc (.cells #[.slice p l.length c,.slice q8 0 (c-l.length),.slice (some (ae wD.heap.size 0)) 1 1] 91)=wC at*
 have c1:=xw [(.slice p l.length c,l),(.slice q8 0 (c-l.length),[]),(.slice (some (ae wD.heap.size 0)) 1 1,[k])] wB.heap.size 0 3 wC (fun j pr hj=>by
  match j,hj with
  |0,hj=>cases hj;exact⟨(aV _ _ _ _ _ _ nC).trans rfl,q1⟩
  |1,hj=>cases hj;exact⟨(aV _ _ _ _ _ _ nC).trans rfl,q2⟩
  |2,hj=>cases hj;exact⟨(aV _ _ _ _ _ _ nC).trans rfl,q3⟩
  |j+3,hj=>simp at hj) (by simp) (by first|(simp[io];done)|(simp[io];omega)) (by simp[io];omega)
 have ec:io [(.slice p l.length c,l),(.slice q8 0 (c-l.length),[]),(.slice (some (ae wD.heap.size 0)) 1 1,[k])] 3=R:=by
  rw[<-hR];simp[io]
 have c2:Calls prog 199 #[.slice (some (ae wB.heap.size 0)) 3 3] wC fun e w'=> ∃v,e= .returned v/\w'.ownsRow wC.heap.size 241 26 v R.length (iA R)/\ao wC w':=by
  have:=c1;simp only[bz,fc,bK,Nat.reduceAdd,ec]at this;exact this
 clear hR c1 ec q1 q2 q3 r1 r2 bB bC bAC nBC HA HK HR1 HR2 bD
 go_wp2_with(first
  |(refine aR rfl 241 _ rfl _ rfl _ _ _ _ nA2 qp rfl (nU k) ?_)
  |(refine sQ rfl _ rfl k rfl ?_))
 refine c2.mono ?_;rintro e w9 ⟨v9,rfl,own9,b9⟩;have own9':=BN own9 hbb.size;have hb9:=au hbb b9;obtain⟨p9,c9,rfl,_⟩:=mO own9;clear c2 own9 b9 hbb;go_wp2_with fail;go_ret;exact⟨_,rfl,own9',hb9⟩
theorem E9 (l:List Kp)(v:Value)(i:Nat)(hi:i<l.length)(k:Kp)(w:World)(h:dM 0 w v l)(hl:l.length<=676622540150):
  Calls prog 186 #[v,ag (i:Int),.agg (kv k)] w fun e w'=> ∃v',e= .returned v'/\w'.ownsRow w.heap.size 241 26 v' ((l.take i++l.drop (i+1))++[k]).length (iA ((l.take i++l.drop (i+1))++[k]))/\ao w w':=by
 obtain⟨R,hR⟩:=aq ((l.take i++l.drop (i+1))++[k]);rw[hR];have bA:=am w (.cells (kv k) 241);have nA:=aC w (.cells (kv k) 241);have hk1:=h.later bA;obtain⟨p,c,rfl,hlc,hcm,_⟩:=h;have hl0:(0:Int)<=(l.length:Int):=by omega
 have hl1:(l.length:Int)<=676622540150:=by omega
 have hcm':c<=9223372036854775807:=by unfold maxLen at hcm;omega
 generalize hwA:w.alloc (.cells (kv k) 241)=wA at*;have HR1:P3 (dM 0 wA (.slice p i c) (l.take i)):=hk1.take i (by omega);have HR2:P3 (dM 0 wA (.slice (if c=i+1 then p else Option.map (fun x=>x.add ((i+1)*26)) p) (l.length-(i+1)) (c-(i+1))) (l.drop (i+1))):=hk1.drop (i+1) (by omega);have hi0:(0:Int)<=(i:Int):=by omega
 have hi1:(i:Int)<(l.length:Int):=by omega
 have HK:=aY hk1;have HA:=aY bA;clear hk1 hcm bA;go_enter func186,ntmps186;go_wp2_with fail;go_quiet (fail);generalize (if c=l.length then p else Option.map (fun x=>x.add (l.length*26)) p)=q8 at*;have bE:ao wA (wA.drewN nq):=dr (aG _ _) nq;obtain⟨wE,hwE⟩:=aq (wA.drewN nq);rw[hwE]at bE;rw[hwE];go_wp2_with fail;go_quiet (fail);generalize (if c=i+1 then p else Option.map (fun x=>x.add ((i+1)*26)) p)=q9 at*;have bF:ao wE (wE.drewN nq):=dr (aG _ _) nq;obtain⟨wD,hwD⟩:=aq (wE.drewN nq);rw[hwD]at bF;rw[hwD];have bD:=au bE bF;clear bE bF;have nA2:wD.heap[w.heap.size]? =ah (kv k) 241:=ai bD nA;have bB:=am wD (.cells (kv k) 241);have nB:=aC wD (.cells (kv k) 241);generalize hwB:wD.alloc (.cells (kv k) 241)=wB at*;have bC:=am wB (.cells #[.slice p i c,.slice q9 (l.length-(i+1)) (c-(i+1)),.slice (some (ae wD.heap.size 0)) 1 1] 91);have nC:=aC wB (.cells #[.slice p i c,.slice q9 (l.length-(i+1)) (c-(i+1)),.slice (some (ae wD.heap.size 0)) 1 1] 91);have bAC:=bD.trans ((au bB bC).mono bD.size);have nBC:=ai bC nB;have r1:dM 0 wA (.slice p i c) (l.take i):=HR1.o;have r2:dM 0 wA (.slice q9 (l.length-(i+1)) (c-(i+1))) (l.drop (i+1)):=HR2.o;have q1:=r1.later bAC;have q2:=r2.later bAC;have q3:=dM.one nBC;have hbb:=au HA.o bAC;generalize hwC:wB.alloc (.cells #[.slice p i c,.slice q9 (l.length-(i+1)) (c-(i+1)),.slice (some (ae wD.heap.size 0)) 1 1] 91)=wC at*
 have c1:=xw [(.slice p i c,l.take i),(.slice q9 (l.length-(i+1)) (c-(i+1)),l.drop (i+1)),(.slice (some (ae wD.heap.size 0)) 1 1,[k])] wB.heap.size 0 3 wC (fun j pr hj=>by
  match j,hj with
  |0,hj=>cases hj;exact⟨(aV _ _ _ _ _ _ nC).trans rfl,q1⟩
  |1,hj=>cases hj;exact⟨(aV _ _ _ _ _ _ nC).trans rfl,q2⟩
  |2,hj=>cases hj;exact⟨(aV _ _ _ _ _ _ nC).trans rfl,q3⟩
  |j+3,hj=>simp at hj) (by simp) (by first|(simp[io];done)|(simp[io];omega)) (by simp[io];omega)
 have ec:io [(.slice p i c,l.take i),(.slice q9 (l.length-(i+1)) (c-(i+1)),l.drop (i+1)),(.slice (some (ae wD.heap.size 0)) 1 1,[k])] 3=R:=by
  rw[<-hR];simp[io]
 have c2:Calls prog 199 #[.slice (some (ae wB.heap.size 0)) 3 3] wC fun e w'=> ∃v,e= .returned v/\w'.ownsRow wC.heap.size 241 26 v R.length (iA R)/\ao wC w':=by
  have:=c1;simp only[bz,fc,bK,Nat.reduceAdd,ec]at this;exact this
 clear hR c1 ec q1 q2 q3 r1 r2 bB bC bAC nBC HA HK HR1 HR2 bD
 go_wp2_with(first
  |(refine aR rfl 241 _ rfl _ rfl _ _ _ _ nA2 qp rfl (nU k) ?_)
  |(refine sQ rfl _ rfl k rfl ?_))
 refine c2.mono ?_;rintro e w9 ⟨v9,rfl,own9,b9⟩;have own9':=BN own9 hbb.size;have hb9:=au hbb b9;obtain⟨p9,c9,rfl,_⟩:=mO own9;clear c2 own9 b9 hbb;go_wp2_with fail;go_ret;exact⟨_,rfl,own9',hb9⟩
theorem Fa (B:Nat)(l:List Kp)(v:Value)(w:World)(h:dM B w v l)(hl:l.length<=676622540160):
  Calls prog 188 #[v] w fun e w'=> ∃v',e= .returned v'/\dM B w' v' (uD l)/\w'=w:=by
 have HK:=aY h;obtain⟨p,c,rfl,hlc,hcm,_⟩:=h;have hl0:(0:Int)<=(l.length:Int):=by omega
 have hl1:(l.length:Int)<=676622540160:=by omega
 have hcm':c<=9223372036854775807:=by unfold maxLen at hcm;omega
 unfold uD;by_cases h64:64<l.length
 ·obtain⟨j,hj⟩:=aq (l.length-64);rw[hj];have HR:=aY (HK.o.drop j (by omega));have e1:(l.length:Int)-64=(j:Int):=(by omega);have hw1:IntKind.i64.wrap ((j:Int))=(j:Int):=(by rw[bG];omega);have hj0:(0:Int)<(j:Int):=(by omega);have hj1:j<=l.length:=(by omega);have hj2:(j:Int)<=(l.length:Int):=(by omega);have hc: ¬c=j:=(by omega);rw[aw hc]at HR;clear HK hcm;go_enter func188,ntmps188;go_wp2_with fail;go_ret;exact⟨_,rfl,HR.o,rfl⟩
 ·have e0:l.length-64=0:=by omega
  rw[e0];have HR:P3 (dM B w (.slice p l.length c) (l.drop 0)):=HK.o;have e1:(l.length:Int)-64<=0:=(by omega);clear HK hcm e0;go_enter func188,ntmps188;go_wp2_with fail;go_ret;exact⟨_,rfl,HR.o,rfl⟩
section
theorem dM.set {B:Nat}{w:World}{v:Value}{l:List Kp}(h:dM B w v l){g:Nat}(hg:g<B)(X:Array Value):dM B (w.setRow g X) v l:=by
 obtain⟨p,c,e,h1,h2,h3⟩:=h;refine⟨p,c,e,h1,h2,fun hn=> ?_⟩;obtain⟨b,o,hp,hB,hr⟩:=h3 hn;refine⟨b,o,hp,hB,fun j u hj=> ?_⟩;have hc:=hr j u hj;have he:=aT w g b X (by omega);unfold World.cell? at hc⊢;rw[he];exact hc
structure GJ (w0 w1:World)(ga B:Nat)(m:M)(R:List Kp)(runs er at_:Int)(im ic iF:Nat)(L:Nat->Bool)(W:World):Prop where
 bel:ao w0 W
 low: ∀q,q<B->q≠ga->q≠ga+1->q≠ga+2->W.heap[q]? =w1.heap[q]?
 size:B<=W.heap.size
 b0:w0.heap.size<=ga
 b1:ga+2<B
 m0:L im=false->W.heap[ga]? =ah (mv fun _=>false) 61
 m1:L im=true->W.heap[ga]? =ah (mv m) 61
 c0:L ic=false->W.heap[ga+1]? =ah #[af,ag 0] 93
 c1:L ic=true-> ∃v',W.heap[ga+1]? =ah #[v',ag runs] 93/\dM B W v' R
 f0:L iF=false->W.heap[ga+2]? =ah #[ag 0,ag 0] 47
 f1:L iF=true->W.heap[ga+2]? =ah #[ag er,ag at_] 47
section
variable {w0 w1:World} {ga B:Nat} {m:M} {R:List Kp} {runs er at_:Int} {im ic iF:Nat} {L:Nat->Bool} {W W':World}
theorem sm {i k:Nat}{b:Bool}(h:(decide (i=k)||b)=false):b=false:=(Bool.or_eq_false_iff.1 h).2
theorem mj {i k:Nat}{b:Bool}(hne:i≠k)(h:(decide (i=k)||b)=true):b=true:=by simpa[hne] using h
theorem GJ.below (h:GJ w0 w1 ga B m R runs er at_ im ic iF L W)(hb:ao W W'):GJ w0 w1 ga B m R runs er at_ im ic iF L W':=by
 have lt: ∀q,q<B->W'.heap[q]? =W.heap[q]? :=fun q hq=>hb.block q (aO hq h.size);have hb1:=h.b1;exact⟨au h.bel hb,fun q a b c d=>(lt q a).trans (h.low q a b c d),a6 h.size hb.size,h.b0,h.b1,fun e=>(lt _ (by omega)).trans (h.m0 e),fun e=>(lt _ (by omega)).trans (h.m1 e),fun e=>(lt _ (by omega)).trans (h.c0 e),fun e=>(h.c1 e).imp fun _ q=>⟨(lt _ (by omega)).trans q.1,q.2.later hb⟩,fun e=>(lt _ (by omega)).trans (h.f0 e),fun e=>(lt _ (by omega)).trans (h.f1 e)⟩
theorem GJ.same (h:GJ w0 w1 ga B m R runs er at_ im ic iF L W)(i:Nat)(h1:i≠im)(h2:i≠ic)(h3:i≠iF):GJ w0 w1 ga B m R runs er at_ im ic iF (fun k=>decide (i=k)||L k) W:=
 ⟨h.bel,h.low,h.size,h.b0,h.b1,fun e=>h.m0 (sm e),fun e=>h.m1 (mj h1 e),fun e=>h.c0 (sm e),fun e=>h.c1 (mj h2 e),fun e=>h.f0 (sm e),fun e=>h.f1 (mj h3 e)⟩
theorem GJ.mask (h:GJ w0 w1 ga B m R runs er at_ im ic iF L W)(hL:L im=false)(h2:im≠ic)(h3:im≠iF):GJ w0 w1 ga B m R runs er at_ im ic iF (fun k=>decide (im=k)||L k) (W.setRow ga (mv m)):=by
 have ot: ∀q,q≠ga->(W.setRow ga (mv m)).heap[q]? =W.heap[q]? :=fun q hq=>aT W ga q (mv m) hq;have hb1:=h.b1;refine⟨below_setRow h.bel h.b0 _,fun q a b c d=>(ot q b).trans (h.low q a b c d),by simpa using h.size,h.b0,h.b1,fun e=>(by simp at e),fun _=>aJ _ _ _ _ _ _ (h.m0 hL),fun e=>(ot _ (by omega)).trans (h.c0 (sm e)),fun e=> ?_,fun e=>(ot _ (by omega)).trans (h.f0 (sm e)),fun e=>(ot _ (by omega)).trans (h.f1 (mj h3 e))⟩;obtain⟨v',e1,e2⟩:=h.c1 (mj h2 e);exact⟨v',(ot _ (by omega)).trans e1,e2.set (by omega) _⟩
theorem GJ.cache (h:GJ w0 w1 ga B m R runs er at_ im ic iF L W)(hL:L ic=false)(h1:ic≠im)(h3:ic≠iF){v':Value}(hv:dM B W v' R):GJ w0 w1 ga B m R runs er at_ im ic iF (fun k=>decide (ic=k)||L k) (W.setRow (ga+1) #[v',ag runs]):=by
 have ot: ∀q,q≠ga+1->(W.setRow (ga+1) #[v',ag runs]).heap[q]? =W.heap[q]? :=fun q hq=>aT W (ga+1) q _ hq;have hb1:=h.b1;have hb0:=h.b0;exact⟨below_setRow h.bel (by omega) _,fun q a b c d=>(ot q c).trans (h.low q a b c d),by simpa using h.size,h.b0,h.b1,fun e=>(ot _ (by omega)).trans (h.m0 (sm e)),fun e=>(ot _ (by omega)).trans (h.m1 (mj h1 e)),fun e=>(by simp at e),fun _=>⟨v',aJ _ _ _ _ _ _ (h.c0 hL),hv.set (by omega) _⟩,fun e=>(ot _ (by omega)).trans (h.f0 (sm e)),fun e=>(ot _ (by omega)).trans (h.f1 (mj h3 e))⟩
theorem GJ.fault (h:GJ w0 w1 ga B m R runs er at_ im ic iF L W)(hL:L iF=false)(h1:iF≠im)(h2:iF≠ic):GJ w0 w1 ga B m R runs er at_ im ic iF (fun k=>decide (iF=k)||L k) (W.setRow (ga+2) #[ag er,ag at_]):=by
 have ot: ∀q,q≠ga+2->(W.setRow (ga+2) #[ag er,ag at_]).heap[q]? =W.heap[q]? :=fun q hq=>aT W (ga+2) q _ hq;have hb1:=h.b1;have hb0:=h.b0;refine⟨below_setRow h.bel (by omega) _,fun q a b c d=>(ot q d).trans (h.low q a b c d),by simpa using h.size,h.b0,h.b1,fun e=>(ot _ (by omega)).trans (h.m0 (sm e)),fun e=>(ot _ (by omega)).trans (h.m1 (mj h1 e)),fun e=>(ot _ (by omega)).trans (h.c0 (sm e)),fun e=> ?_,fun e=>(by simp at e),fun _=>aJ _ _ _ _ _ _ (h.f0 hL)⟩;obtain⟨v',e1,e2⟩:=h.c1 (mj h2 e);exact⟨v',(ot _ (by omega)).trans e1,e2.set (by omega) _⟩
end
structure GT (B:Nat)(R0 R:List Kp)(runs:Int)(i0 i1 i2 s0 s1 s2:Nat)(M:Nat->Bool)(φ:Nat->Value)(W:World):Prop where
 t0:M i0=true->dM B W (φ s0) R0
 t1:M i1=true->dM B W (φ s1) R
 t2:M i2=true-> ∃v',φ s2= .agg #[v',ag runs]/\dM B W v' R
section
variable {B:Nat} {R0 R:List Kp} {runs:Int} {i0 i1 i2 s0 s1 s2:Nat} {M:Nat->Bool} {φ φ':Nat->Value} {W W':World}
theorem GT.mono (h:GT B R0 R runs i0 i1 i2 s0 s1 s2 M φ W)(hK: ∀v l,dM B W v l->dM B W' v l):GT B R0 R runs i0 i1 i2 s0 s1 s2 M φ W':=⟨fun e=>hK _ _ (h.t0 e),fun e=>hK _ _ (h.t1 e),fun e=>(h.t2 e).imp fun _ q=>⟨q.1,hK _ _ q.2⟩⟩
theorem GT.on (h:GT B R0 R runs i0 i1 i2 s0 s1 s2 M φ W)(i:Nat)(h0:i≠i0->φ' s0=φ s0)(h1:i≠i1->φ' s1=φ s1)(h2:i≠i2->φ' s2=φ s2)(k0:i=i0->dM B W (φ' s0) R0)(k1:i=i1->dM B W (φ' s1) R)(k2:i=i2-> ∃v',φ' s2= .agg #[v',ag runs]/\dM B W v' R):GT B R0 R runs i0 i1 i2 s0 s1 s2 (fun k=>decide (i=k)||M k) φ' W:=by
 refine⟨fun e=> ?_,fun e=> ?_,fun e=> ?_⟩
 ·by_cases q:i=i0
  ·exact k0 q
  ·rw[h0 q];exact h.t0 (mj q e)
 ·by_cases q:i=i1
  ·exact k1 q
  ·rw[h1 q];exact h.t1 (mj q e)
 ·by_cases q:i=i2
  ·exact k2 q
  ·rw[h2 q];exact h.t2 (mj q e)
theorem GT.mark (h:GT B R0 R runs i0 i1 i2 s0 s1 s2 M φ W)(i:Nat)(h0:i≠i0)(h1:i≠i1)(h2:i≠i2):GT B R0 R runs i0 i1 i2 s0 s1 s2 (fun k=>decide (i=k)||M k) φ W:=⟨fun e=>h.t0 (mj h0 e),fun e=>h.t1 (mj h1 e),fun e=>h.t2 (mj h2 e)⟩
end
theorem Mk (k:Kp)(j:Nat)(_:j<23):(kv k)[3+j]? =(mv k.m)[j]? :=by
 unfold kv;rw[Array.getElem?_append_right (by simp)];simp
theorem J3 {w:World}{g:Nat}{k:Kp}(h:w.heap[g]? =ah (kv k) 241):w.rangeAt g 3 (mv k.m).toList:=fun j u hj=>by
 have hjl:j<23:=by
  have:=(aE.1 hj).1;rwa[rI]at this
 refine(aV _ _ _ _ _ _ h).trans ?_;rw[Mk k j hjl,<-bo];exact hj
theorem zE:prog.underlying 93=some (.struct (prog.fieldsOf 93)):=by kernel_rfl
theorem qI:(prog.info? 93).map (·.size)=some 2:=by kernel_rfl
theorem mP:(prog.info? 47).map (·.size)=some 2:=by kernel_rfl
def yF (m:M)(R:List Kp)(runs er at_:Int)(w:World)(e:Ending)(w':World):Prop:= ∃v',e= .returned (.tuple #[.agg (mv m),.agg #[v',ag runs],.agg #[ag er,ag at_]])/\dM w.heap.size w' v' R/\ao w w'
theorem vP {a:Act}{w0 w:World}(g:Nat)(m:M)(R:List Kp)(runs er at_:Int)(v':Value)(hd:a.defers=[])(h10:a.tmps.getD 10 undef=ab g 0)(h11:a.tmps.getD 11 undef=ab (g+1) 0)(h12:a.tmps.getD 12 undef=ab (g+2) 0)
  (hg:w.heap[g]? =ah (mv m) 61) (hg1:w.heap[g+1]? =ah #[v',ag runs] 93) (hg2:w.heap[g+2]? =ah #[ag er,ag at_] 47) (hk:dM w0.heap.size w v' R) (hb:ao w0 w):bodyPost prog f159 (yF m R runs er at_ w0) .ret a w:=by
 refine aU (v:= .tuple #[.agg (mv m),.agg #[v',ag runs],.agg #[ag er,ag at_]]) ?_ hd ⟨v',rfl,hk,hb⟩;have h10':a.tmps[10]?.getD undef=ab g 0:=by simpa using h10
 have h11':a.tmps[11]?.getD undef=ab (g+1) 0:=by simpa using h11
 have h12':a.tmps[12]?.getD undef=ab (g+2) 0:=by simpa using h12
 have hv:=dR (P:=prog) w g 61 61 _ _ _ hg bQ rfl (ba _);have hv1:=dR (P:=prog) w (g+1) 93 93 _ _ _ hg1 zE rfl qI;have hv2:=dR (P:=prog) w (g+2) 47 47 _ _ _ hg2 lQ rfl mP;simp[results,results159,h10',h11',h12',asAddr,hv,hv1,hv2]
end
theorem vj (l:List Kp)(v:Value)(i:Int)(k:Kp)(w:World)(h:dM 0 w v l)(hl:l.length<=676622540150)(hi:i<l.length):
  Calls prog 186 #[v,ag i,.agg (kv k)] w fun e w'=> ∃v',e= .returned v'/\dM w.heap.size w' v' (fT l i++[k])/\ao w w':=by
 by_cases h0:0<=i
 ·obtain⟨n,rfl⟩: ∃n:Nat,i=(n:Int):=⟨i.toNat,by omega⟩
  refine(E9 l v n (by omega) k w h hl).mono ?_;rintro e w' ⟨v',rfl,own,hb⟩
  have e1:fT l (n:Int)=l.take n++l.drop (n+1):=by
   unfold fT;rw[ay h0,cg]
  rw[e1];exact⟨v',rfl,dM.of_own own,hb⟩
 ·refine(BO l v i (by omega) k w h hl).mono ?_;rintro e w' ⟨v',rfl,own,hb⟩
  have e1:fT l i=l:=by
   unfold fT;rw[aw h0]
  rw[e1];exact⟨v',rfl,dM.of_own own,hb⟩
theorem Hh:(#[ag 0,ag 0,ag 0,.int .u64 0,.int .u64 0,.int .u64 0,.int .u64 0,.int .u64 0,.int .u64 0,.int .u64 0,.int .u64 0,.int .u64 0,.int .u64 0,.int .u64 0,.int .u64 0,.int .u64 0,.int .u64 0,.int .u64 0,.int .u64 0,.int .u64 0,.int .u64 0,.int .u64 0,.int .u64 0,.int .u64 0,.int .u64 0,.int .u64 0]:Array Value)=kv ⟨0,0,0,fun _=>false⟩:=by
 unfold kv;rw[<-dU];rfl
theorem Hi (r d v:Int)(m:M)(W:World):(Instr.build 241 #[(0,ag r),(1,ag d),(2,ag v),(3,.agg (mv m))]).run prog W= .ok (.agg (kv ⟨r,d,v,m⟩)) W:=by
 kernel_rfl
theorem vQ {ops:Array Oper}{rest:List Oper}{op:Oper}{a:Act}{w:World}{Q:Exit->Act->World->Prop}(hgd:op.guard=none)(x0 x1 x2 x3:Operand)(ho:op.op= .build 241 #[(0,x0),(1,x1),(2,x2),(3,x3)])(r d v:Int)(m:M)(h0:a.eval x0=ag r)(h1:a.eval x1=ag d)(h2:a.eval x2=ag v)(h3:a.eval x3= .agg (mv m))
  (h:wpList prog ops Q rest (a.put op.dst (.agg (kv ⟨r,d,v,m⟩))) w):wpList prog ops Q (op::rest) a w:=
 wpList_plain hgd fun _ hK=>by
  unfold Oper.wp execOp;have hb:=Hi r d v m w;simp only[ho,h0,h1,h2,h3,iR,dl,eO,jF,kE,gW,hb];exact hK _ _ h
theorem BP (cv:Value)(runs rule day:Int)(w:World): ∃W,(((((w.alloc (.cells #[cv,ag runs] 93)).alloc (.cells #[ag rule] 3)).alloc (.cells #[ag day] 3)).alloc (.cells (mv fun _=>false) 61)).alloc (.cells #[af,ag 0] 93)).alloc (.cells #[ag 0,ag 0] 47)=W/\ao w W/\W.heap[w.heap.size]? =ah #[cv,ag runs] 93/\W.heap[w.heap.size+1]? =ah #[ag rule] 3/\W.heap[w.heap.size+2]? =ah #[ag day] 3/\W.heap[w.heap.size+3]? =ah (mv fun _=>false) 61/\W.heap[w.heap.size+4]? =ah #[af,ag 0] 93/\W.heap[w.heap.size+5]? =ah #[ag 0,ag 0] 47:=
 ⟨_,rfl,(((((am _ _).alloc (by simp) _).alloc (by simp;omega) _).alloc (by simp;omega) _).alloc (by simp;omega) _).alloc (by simp;omega) _,by(repeat (first|refine cY _ _ _ (by simp only[aP];omega) ?_|exact dq _ _ _ (by first|rfl|simp only[aP]))),by(repeat (first|refine cY _ _ _ (by simp only[aP];omega) ?_|exact dq _ _ _ (by first|rfl|simp only[aP]))),by(repeat (first|refine cY _ _ _ (by simp only[aP];omega) ?_|exact dq _ _ _ (by first|rfl|simp only[aP]))),by(repeat (first|refine cY _ _ _ (by simp only[aP];omega) ?_|exact dq _ _ _ (by first|rfl|simp only[aP]))),by(repeat (first|refine cY _ _ _ (by simp only[aP];omega) ?_|exact dq _ _ _ (by first|rfl|simp only[aP]))),by(repeat (first|refine cY _ _ _ (by simp only[aP];omega) ?_|exact dq _ _ _ (by first|rfl|simp only[aP])))⟩
theorem Ml (l:List Kp)(cv lv:Value)(runs ver rule day:Int)(w:World)(h:dM 0 w cv l)(hl:l.length<=676622540150)(hhit:nT l ver rule day=true):
  Calls prog 159 #[.agg #[cv,ag runs],lv,ag ver,ag rule,ag day] w (yF (l.getD (gX rule day l 0).toNat k0).m (fT l (gX rule day l 0)++[l.getD (gX rule day l 0).toNat k0]) runs 0 0 w):=by
 obtain⟨i,hii⟩:=aq (gX rule day l 0);have hiL:=rK rule day l 0;rw[hii]at hiL;have hil:i<l.length:=by omega
 have hil2:i<=676622540150:=by omega
 have hil3: -1<=i:=by omega
 have hz:=dU;obtain⟨wA,hwA,bA,n5,n8,n9,n10,n11,n12⟩:=BP cv runs rule day w;have c1:=tz l cv (w.heap.size+1) (w.heap.size+2) rule day wA (h.later bA) n8 n9;rw[hii]at c1;have z5:=ak 0 n5
 have hh:0<=i/\(l.getD i.toNat k0).v=ver:=by
  unfold nT at hhit;rw[hii,bq,bH,bH]at hhit;exact hhit
 obtain⟨hi0,hver⟩:=hh;rw[hii];obtain⟨n,rfl⟩: ∃n:Nat,i=(n:Int):=⟨i.toNat,by omega⟩
 rw[cg]at hver⊢;obtain⟨k,hk⟩: ∃k,l[n]? =some k:=⟨l[n]'(by omega),ax (by omega)⟩
 have hkd:l.getD n k0=k:=by simp[List.getD,hk]
 rw[hkd]at hver⊢;have HK:=aY h;obtain⟨p,c,rfl,hlc,hcm,_⟩:=h;obtain⟨g,o,hpe,hrg⟩:=HK.o.at hk;subst hpe;have HB:=aY bA;clear hii hiL hhit hkd hcm bA;go_enter func159,ntmps159;go_wp2_with fail;refine c1.mono ?_;rintro e w1 ⟨rfl,b1⟩;have HB1:=aY (au HB.o b1);have rg1:=lc hrg HB1.o
 have y2:w1.cell? (ae g (o+n*26+2))=some (ag ver):=by
  rw[<-hver];exact rg1 2 _ (by rw[bo];exact JZ k)
 have m5:=ai b1 n5;have m10:=ai b1 n10;have m11:=ai b1 n11;have m12:=ai b1 n12;have z51:=ak 0 m5;have hni:(n:Int)<(l.length:Int):=by omega
 have bE:=am w1 (.cells (kv ⟨0,0,0,fun _=>false⟩) 241);have nE:=aC w1 (.cells (kv ⟨0,0,0,fun _=>false⟩) 241);generalize hwE:w1.alloc (.cells (kv ⟨0,0,0,fun _=>false⟩) 241)=wE at*;have bF:=below_setRow bE (aA _) (kv k);have nF:=aJ _ _ _ (kv k) _ _ nE;generalize hwF:wE.setRow w1.heap.size (kv k)=w2 at*;clear c1 hver n5 n8 n9 n10 n11 n12 b1 hwA z5 hrg HB;have hzk:=Hh
 go_wp2_with(first
  |(refine tw rfl _ rfl g (o+n*26) rfl k rg1 ?_)
  |(refine az rfl 241 _ _ rfl _ _ rfl rfl _ _ nE (nU _) (by simp[pK]) (BM _) ?_))
 obtain⟨g14,hg14e⟩:=aq w1.heap.size;have HBW:=aY (au HB1.o bF);have hg14:g14<w2.heap.size:=by rw[<-hg14e];exact aF nF
 have hgw:w.heap.size+5<g14:=by rw[<-hg14e];exact aF m12
 have n14:w2.heap[g14]? =ah (kv k) 241:=by rw[<-hg14e];exact nF
 replace m5:=ai bF m5;replace m10:=ai bF m10;replace m11:=ai bF m11;replace m12:=ai bF m12;rw[hwF,hg14e];clear nF bF bE nE hwE hwF rg1 y2 z51 hg14e hz HB1 hzk;refine dt (fun M φ W=>GJ w w2 (w.heap.size+3) w2.heap.size k.m (fT l (n:Int)++[k]) runs 0 0 11 12 13 M W/\GT w2.heap.size (fT l (n:Int)++[k]) (fT l (n:Int)++[k]) runs 6 1000 9 46 1000 49 M φ W) [kn 40 (ab g14 3),kn 41 (.agg (mv k.m)),kn 42 (ab w.heap.size 0),kn 43 (.slice (some (ae g o)) l.length c),kn 44 (ag (n:Int)),kn 45 (.agg (kv k)),td 46,kn 47 (ab w.heap.size 1),kn 48 (ag runs),td 49,kn 50 (.agg #[ag 0,ag 0]),nk,nk,nk] (fun _=>⟨⟨(HBW.o).trans ((aG w2.heap.size w2).drew.mono HBW.o.size),fun _ _ _ _ _=>rfl,aA _,by omega,by omega,fun _=>m10,(fun e=>by cases e),fun _=>m11,(fun e=>by cases e),fun _=>m12,(fun e=>by cases e)⟩,(fun e=>by cases e),(fun e=>by cases e),(fun e=>by cases e)⟩) (fun _ _ _ _ hb h=>⟨h.1.below hb,h.2.mono fun _ _ q=>q.later hb⟩) (by kernel_rfl) (fun M φ W2 hJ hcl FF ll hll hFF=> ?_) (fun M φ W2 hM hJ=> ?_)
 ·simp only[kn,td,nk,dN,aQ,aW,Act.put,aB,aI,aH]at hll;subst hll;simp only[dg,Nat.reduceAdd]at hFF;obtain⟨hJ,hT⟩:=hJ;have b14:=(hJ.low g14 hg14 (by omega) (by omega) (by omega)).trans n14;have b5:=(hJ.low w.heap.size (by omega) (by omega) (by omega) (by omega)).trans m5;have y50:=ak 0 b5;have y51:=ak 1 b5;clear b5;dsimp only[kn,td,nk,dC,en,dS,Act.put];and_intros;all_goals first|exact trivial|intro qw qn qm K hK
  all_goals try (go_simp;with_reducible exact hK _ _ ⟨rfl,aG _ _⟩)
  ·refine JY _ rfl g14 3 (by simp[Act.eval,hFF]) k.m (J3 b14) ?_;exact hK _ _ ⟨rfl,aG _ _⟩
  ·refine d9 241 _ rfl g14 (by simp[Act.eval,hFF]) _ _ _ _ b14 qp rfl (nU k) ?_;exact hK _ _ ⟨rfl,aG _ _⟩
  ·have hk2:=HK.o.later hJ.bel;go_simp;refine(vj l _ (n:Int) k W2 hk2 hl hil).mono ?_;rintro r' W' ⟨v',rfl,hk3,hb'⟩;exact hK _ _ ⟨trivial,(hJ.below hb').same 6 (by decide) (by decide) (by decide),(hT.mono fun _ _ q=>q.later hb').on 6 (fun h=>absurd rfl h) (fun _=>dy (by decide)) (fun _=>dy (by decide)) (fun _=>by rw[dI];exact hk3.low hJ.size) (fun h=>by cases h) (fun h=>by cases h)⟩
  ·have k46:=hT.t0 (qw ⟨6,.data⟩ (by simp) rfl rfl);obtain⟨p6,c6,hv6,_⟩:=id k46;obtain⟨nn,hnn⟩:=aq ((fT l (n:Int)++[k]).length);rw[hnn]at hv6;rw[hv6]at hFF;go_simp;exact hK _ _ ⟨trivial,hJ.same 9 (by decide) (by decide) (by decide),hT.on 9 (fun _=>dy (by decide)) (fun _=>dy (by decide)) (fun h=>absurd rfl h) (fun h=>by cases h) (fun h=>by cases h) (fun _=>⟨_,dI ..,hv6▸k46⟩)⟩
  ·refine dT 61 _ _ rfl _ (mv k.m) (by simp[Act.eval,hFF]) (by simp[Act.eval,hFF]) _ _ (hJ.m0 qm) (ba _) (by simp[bO]) (dH _) ?_;exact hK undef _ ⟨trivial,hJ.mask qm (by decide) (by decide),(hT.mono fun v l hv=>hv.set (by omega) _).mark 11 (by decide) (by decide) (by decide)⟩
  ·obtain⟨v9,e9,k9⟩:=hT.t2 (qw ⟨9,.data⟩ (by simp) rfl rfl);obtain⟨p9,c9,hv9,_⟩:=id k9;obtain⟨nn,hnn⟩:=aq ((fT l (n:Int)++[k]).length);rw[hnn]at hv9;rw[e9,hv9]at hFF;refine dT 93 _ _ rfl _ #[.slice p9 nn c9,ag runs] (by simp[Act.eval,hFF]) (by simp[Act.eval,hFF]) _ _ (hJ.c0 qm) qI (by simp) (by simp[Value.oneCell']) ?_;exact hK undef _ ⟨trivial,hJ.cache qm (by decide) (by decide) (hv9▸k9),(hT.mono fun v l hv=>hv.set (by omega) _).mark 12 (by decide) (by decide) (by decide)⟩
  ·refine dT 47 _ _ rfl _ #[ag 0,ag 0] (by simp[Act.eval,hFF]) (by simp[Act.eval,hFF]) _ _ (hJ.f0 qm) mP (by simp) (by simp[Value.oneCell']) ?_;exact hK undef _ ⟨trivial,hJ.fault qm (by decide) (by decide),(hT.mono fun v l hv=>hv.set (by omega) _).mark 13 (by decide) (by decide) (by decide)⟩
 ·obtain⟨hJ,_⟩:=hJ;have hM1:=hJ.m1 (hM 11 (by decide) rfl);obtain⟨v9,hC,hK9⟩:=hJ.c1 (hM 12 (by decide) rfl);have hF:=hJ.f1 (hM 13 (by decide) rfl);have hb9:=hJ.bel;have hsz9:=hb9.size;have hb1:=hJ.b1;have hb0:=hJ.b0;simp only[kn,td,nk,dP,aQ,aW,Act.put,aB,aI,aH];clear hM hJ;go_wp2_with fail;exact vP (w.heap.size+3) k.m (fT l (n:Int)++[k]) runs 0 0 v9 rfl rfl rfl rfl hM1 hC hF (hK9.low (by omega)) hb9
theorem J4 {cs:List Cd}{rule day:Int}(h:(iU cs rule day).1=0):(iU cs rule day).2=0:=by
 unfold iU at h⊢;by_cases h1:(jw cs).1≠0
 ·rw[ay h1]at h;exact absurd h h1
 ·rw[aw h1]at h⊢;split
  ·rfl
  ·split<;>rfl
end Go.Proofs.YtjkilacmkbmmbaaGreatDoor
