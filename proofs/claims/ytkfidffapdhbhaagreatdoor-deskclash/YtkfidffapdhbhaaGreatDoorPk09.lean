/- Texts of the proof. -/
import Derived.Test.YtkfidffapdhbhaaGreatDoorPk08
import Derived.Lib.AppendZeros
open Go.Proofs.Tryz
set_option maxRecDepth 100000
set_option maxHeartbeats 8000000
namespace Vx
open Go.Proofs.YtkfidffapdhbhaaGreatDoor
structure Kp where
 r:Int
 d:Int
 v:Int
 m:M
def k0:Kp:=⟨0,0,0,noM⟩
def gc (r d:Int):List Kp->Nat->Int
 |[],_=> -1
 |k::l,j=>if k.r=r/\k.d=d then(j:Int) else gc r d l (j+1)
theorem Gm {r d:Int}{l:List Kp}{j:Nat}{k:Kp}(h:l[j]? =some k)(i:Nat):gc r d (l.drop j) i=if k.r=r/\k.d=d then(i:Int) else gc r d (l.drop (j+1)) (i+1):=by
 have hj:=(aE.1 h).1
 have e:l.drop j=k::l.drop (j+1):=by
  rw[bq hj];congr 1;exact(aE.1 h).2
 rw[e];rfl
theorem rq (r d:Int): ∀(l:List Kp) (j:Nat),gc r d l j= -1\/((j:Int)<=gc r d l j/\gc r d l j<(j:Int)+l.length)
 |[],_=> .inl rfl
 |k::l,j=>by
  unfold gc;by_cases h:k.r=r/\k.d=d
  ·rw[ay h];refine .inr ⟨gJ _,?_⟩;rw[bz];omega
  ·rw[au h];rcases rq r d l (j+1) with h1|⟨h1,h2⟩
   ·exact .inl h1
   ·refine .inr ⟨by omega,?_⟩;rw[bz];omega
def fI (l:List Kp)(i:Int):List Kp:=if 0<=i then l.take i.toNat++l.drop (i.toNat+1) else l
def rS (l:List Kp):List Kp:=l.drop (l.length-64)
def mE (l:List Kp)(v r d:Int):Bool:=decide (0<=gc r d l 0)&&decide ((l.getD (gc r d l 0).toNat k0).v=v)
theorem Em {l:List Kp}{i:Int}(h:i<l.length):(fI l i).length<=l.length:=by
 unfold fI;split
 ·simp;omega
 ·exact az _
theorem Cc {l:List Kp}{i:Int}(h0:0<=i)(h:i<l.length):(fI l i).length+1=l.length:=by
 unfold fI;rw[ay h0];simp;omega
end Vx
namespace Vx
open Go.Proofs.YtkfidffapdhbhaaGreatDoor
def al8:List Cd:=[⟨[⟨1,0,0,0,[(5,9)]⟩,⟨1,0,0,0,[(7,12)]⟩,⟨2,0,0,0,[]⟩],2,3⟩]
def al9:List Cd:=[⟨[⟨1,0,0,0,[(5,9)]⟩],1,1⟩]
end Vx
namespace Vx
open Go.Proofs.YtkfidffapdhbhaaGreatDoor
variable {wk:Int->Bool} {day:Int} {cs:List Cd} {l:List In}
structure Fr where
 r:Nat
 k:Nat
 S:List M
section
variable (wk:Int->Bool) (day:Int) (cs:List Cd)
end
end Vx
namespace Vx
open Go.Proofs.YtkfidffapdhbhaaGreatDoor
variable {wk:Int->Bool} {day:Int} {cs:List Cd} {l:List In}
abbrev Mv (cs:List Cd)(r:Nat):List In:=(cs.getD r cd0).ins
theorem lU.at (hR:lU cs){r:Nat}(hr:r<cs.length): ∃c,cs[r]? =some c/\Mv cs r=c.ins/\lH c.ins/\(∀(j:Nat) (x:In),c.ins[j]? =some x->fB x j c.ins.length cs.length=0)/\c.ins.length<=2000:=by
 have hu:cs[r]? =some cs[r]:=ax hr;have ha:=je (hR.alone r _ hu);exact⟨cs[r],hu,by unfold Mv;rw[iO hu],(hR.fit r _ hu).well,ha.2.2,ha.1.2⟩
end Vx
namespace Go.Proofs.YtkfidffapdhbhaaGreatDoor
section
open Go.RowKit Msk Vx
section
variable {wd:World} {gb:Nat} {X:Array Value} {L:Nat->Bool} {W:World}
end
section
variable {w0 W W':World} {F:List Fr} {S:List M} {sv fv:Value} {gb:Nat} {X:Array Value}
theorem En {w0 W W':World}{row:Option Nat}(hb:Below w0.heap.size w0 W)(hg:W.grownBy W' row)(hr: ∀k,row=some k->w0.heap.size<=k):Below w0.heap.size w0 W':=
 ⟨hg.os.trans hb.os,hg.tape.trans hb.tape,hg.output.trans hb.output,ba hb.size hg.size,fun q hq=>(hg.block q (aR hq hb.size) fun e=>by have:=hr q e.symm;omega).trans (hb.block q hq)⟩
end
end
section
open Go.RowKit Msk Vx
section
variable {vals:List Value} {base n:Nat} {xs:List Value} {f:M} {L L':Nat->Bool} {W W' W1:World} {row:Option Nat}
end
theorem kW {w w':World}{g o:Nat}{xs:List Value}(h:w.rangeAt g o xs)(hb:Below w.heap.size w w'):w'.rangeAt g o xs:=fun j v hj=>by
 have hc:=h j v hj;exact aj hb hc
theorem IW {op:Oper}{a:Act}{w:World}{K:Act->World->Prop}{Q:Exit->Act->World->Prop}(x:Operand)(ho:op.op= .load 86 x)(b o:Nat)(hx:a.eval x=ab b o)(f:M)(hc:w.rangeAt b o (mv f).toList)(h:K (a.put op.dst (.agg (mv f))) w):op.wp prog a w K Q:=by
 refine wp_load_mid 86 x ho b o hx (mv f).toList _ hc bP rfl (by rw[rj];kernel_rfl) ?_;simpa using h
end
section
open Go.RowKit Msk Vx
def kv (k:Kp):Array Value:= #[ag k.r,ag k.d,ag k.v]++mv k.m
theorem pt (k:Kp):(kv k).size=26:=by simp[kv,bL]
theorem C2 (k:Kp):(kv k).toList.length=26:=by rw[bO];exact pt k
theorem A6 (k:Kp):(kv k).all (·.oneCell')=true:=by
 unfold kv;rw[Array.all_append,dK];simp[Value.oneCell']
theorem Om (k:Kp):(kv k)[0]? =some (ag k.r):=by
 unfold kv;rw[Array.getElem?_append_left (by simp)];rfl
theorem On (k:Kp):(kv k)[1]? =some (ag k.d):=by
 unfold kv;rw[Array.getElem?_append_left (by simp)];rfl
theorem IX (k:Kp):(kv k)[2]? =some (ag k.v):=by
 unfold kv;rw[Array.getElem?_append_left (by simp)];rfl
theorem K5 (k:Kp): ∀u∈(kv k).toList,u.oneCell'=true:=by
 intro u hu;have:=A6 k;rw[Array.all_eq_true_iff_forall_mem]at this;exact this u (Array.mem_def.2 hu)
theorem pU:prog.underlying 186=some (.struct (prog.fieldsOf 186)):=by kernel_rfl
theorem nH (k:Kp):(prog.info? 186).map (·.size)=some (kv k).size:=by rw[pt];kernel_rfl
theorem Gn (k:Kp):(prog.info? 186).map (·.size)=some (kv k).toList.length:=by rw[C2];kernel_rfl
def iq (l:List Kp):List Value:=l.flatMap fun k=>(kv k).toList
theorem ly (l l':List Kp):iq (l++l')=iq l++iq l':=by unfold iq;rw[ff]
theorem yC (k:Kp):iq [k]=(kv k).toList:=by simp[iq]
theorem oD: ∀l:List Kp,(iq l).length=l.length*26
 |[]=>rfl
 |k::l=>by
  have h:=oD l;have e:iq (k::l)=(kv k).toList++iq l:=rfl;rw[e,aN,h,C2,bz];omega
theorem Gp: ∀(l:List Kp),∀u∈iq l,u.oneCell'=true:=fun l u hu=>by
 unfold iq at hu;rw[List.mem_flatMap]at hu;obtain⟨k,_,h⟩:=hu;exact K5 k u h
theorem wn {w:World}{g o:Nat}{xs ys:List Value}(h:w.rangeAt g o (xs++ys)):w.rangeAt g o xs:=fun j v hj=>
 h j v (by rw[dI (aE.1 hj).1];exact hj)
theorem uC {w:World}{g o:Nat}{xs ys:List Value}(h:w.rangeAt g o (xs++ys)):w.rangeAt g (o+xs.length) ys:=fun j v hj=>by
 have:=h (xs.length+j) v (by rw[dt (by omega),Nat.add_sub_cancel_left];exact hj);rw[<-Nat.add_assoc]at this;exact this
def dR (B:Nat)(w:World)(v:Value)(l:List Kp):Prop:= ∃p c,v= .slice p l.length c/\l.length<=c/\c<=maxLen/\(l≠[]-> ∃g o,p=some ⟨g,o,none⟩/\B<=g/\w.rangeAt g o (iq l))
theorem dR.later {B:Nat}{w w':World}{v:Value}{l:List Kp}(h:dR B w v l)(hb:Below w.heap.size w w'):dR B w' v l:=by
 obtain⟨p,c,e,h1,h2,h3⟩:=h;refine⟨p,c,e,h1,h2,fun hn=> ?_⟩;obtain⟨g,o,hp,hB,hr⟩:=h3 hn;exact⟨g,o,hp,hB,kW hr hb⟩
theorem dR.low {B B':Nat}{w:World}{v:Value}{l:List Kp}(h:dR B w v l)(hb:B'<=B):dR B' w v l:=by
 obtain⟨p,c,e,h1,h2,h3⟩:=h;refine⟨p,c,e,h1,h2,fun hn=> ?_⟩;obtain⟨g,o,hp,hB,hr⟩:=h3 hn;exact⟨g,o,hp,ba hb hB,hr⟩
theorem IY {w:World}{g o:Nat}{l:List Kp}(h:w.rangeAt g o (iq l)){j:Nat}{k:Kp}(hj:l[j]? =some k):w.rangeAt g (o+j*26) (kv k).toList:=by
 have hjl:=(aE.1 hj).1
 have e:l=l.take j++([k]++l.drop (j+1)):=by
  conv=>lhs;rw[<-gh j l]
  congr 1;rw[bq hjl,(aE.1 hj).2];rfl
 rw[e,ly,ly,yC]at h;have h1:=wn (uC h);rw[oD,d9,eW (by omega)]at h1;exact h1
theorem dR.at {B:Nat}{w:World}{p:Option Addr}{n c:Nat}{l:List Kp}(h:dR B w (.slice p n c) l){j:Nat}{k:Kp}(hj:l[j]? =some k): ∃g o,p=some ⟨g,o,none⟩/\w.rangeAt g (o+j*26) (kv k).toList:=by
 obtain⟨p',c',e,_,_,h3⟩:=h;injection e with e1 _ _;subst e1;obtain⟨g,o,hp,_,hr⟩:=h3 (by rintro rfl;simp at hj);exact⟨g,o,hp,IY hr hj⟩
theorem sU {ops:Array Oper}{rest:List Oper}{op:Oper}{a:Act}{w:World}{Q:Exit->Act->World->Prop}(hgd:op.guard=none)(x:Operand)(ho:op.op= .load 186 x)(b o:Nat)(hx:a.eval x=ab b o)(k:Kp)(hc:w.rangeAt b o (kv k).toList)
  (h:wpList prog ops Q rest (a.put op.dst (.agg (kv k))) w):wpList prog ops Q (op::rest) a w:=by
 refine wpList_load_mid hgd 186 x ho b o hx (kv k).toList _ hc pU rfl (Gn k) ?_;simpa using h
theorem IZ (k:Kp)(g8 g9:Nat)(rule day:Int)(w:World)(h8:w.heap[g8]? =ah #[ag rule] 3)(h9:w.heap[g9]? =ah #[ag day] 3):
  Calls prog 101 #[.agg (kv k),ab g8 0,ab g9 0] w fun e w'=>e= .returned (.bool (decide (k.r=rule/\k.d=day)))/\Below w.heap.size w w':=by
 have bA:=am w (.cells (kv k) 186);have nA:=aD w (.cells (kv k) 186);have z8:=(aX _ _ 0 _ _ _ (ai bA h8)).trans rfl;have z9:=(aX _ _ 0 _ _ _ (ai bA h9)).trans rfl;have y0:=(aX _ _ 0 _ _ _ nA).trans (Om k);have y1:=(aX _ _ 1 _ _ _ nA).trans (On k);generalize hwA:w.alloc (.cells (kv k) 186)=wA at*;obtain⟨r,d,v,m⟩:=k;dsimp only at*;by_cases hr:r=rule
 ·by_cases hd:d=day
  ·rw[bj (⟨hr,hd⟩:r=rule/\d=day)];have e1:(r==rule)=true:=(by simp[hr]);have e2:(d==day)=true:=(by simp[hd]);clear hr hd h8 h9 nA;go_enter func101,ntmps101;go_wp2_with fail;go_ret;exact⟨rfl,bA⟩
  ·rw[bl (fun e:r=rule/\d=day=>hd e.2)];have e1:(r==rule)=true:=(by simp[hr]);have e2:(d==day)=false:=(by simp[hd]);clear hr hd h8 h9 nA;go_enter func101,ntmps101;go_wp2_with fail;go_ret;exact⟨rfl,bA⟩
 ·rw[bl (fun e:r=rule/\d=day=>hr e.1)];have e1:(r==rule)=false:=(by simp[hr]);clear hr h8 h9 nA;go_enter func101,ntmps101;go_wp2_with fail;go_ret;exact⟨rfl,bA⟩
theorem sV (l:List Kp)(v:Value)(g8 g9:Nat)(rule day:Int)(w:World)(h:dR 0 w v l)(h8:w.heap[g8]? =ah #[ag rule] 3)(h9:w.heap[g9]? =ah #[ag day] 3):
  Calls prog 100 #[v,.func (.func 101) #[] #[ab g8 0,ab g9 0]] w fun e w'=>e= .returned (ag (gc rule day l 0))/\Below w.heap.size w w':=by
 have HK:=aY h;obtain⟨p,c,rfl,hlc,hcm,_⟩:=h;have hlm:l.length<9223372036854775808:=by unfold maxLen at hcm;omega
 clear hlc hcm;go_enter func100,ntmps100;go_wp2_with fail;go_loopw [5,8] (fun _ t wr=> ∃j:Nat,t=ag (j:Int)/\j<=l.length/\gc rule day l 0=gc rule day (l.drop j) j/\Below w.heap.size w wr) (fun _ t _=>l.length-(intOf t).toNat);case atStart=>exact⟨0,rfl,by omega,rfl,aG _ _⟩
 case round=>
  obtain⟨j,rfl,hj,hX,hb⟩:=hrel;have hj0:(0:Int)<=(j:Int):=(by omega);by_cases hlt:j<l.length
  ·have hlt':(j:Int)<(l.length:Int):=(by omega);obtain⟨k,hjk⟩: ∃p,l[j]? =some p:=⟨l[j],ax hlt⟩
   rw[Gm hjk]at hX;obtain⟨g,o,hpe,hr⟩:=HK.o.at hjk;subst hpe;have hr2:=kW hr hb;have c1:=IZ k g8 g9 rule day wr (ai hb h8) (ai hb h9);clear hr hjk;go_wp2_with(refine sU rfl _ rfl g (o+j*26) rfl k hr2 ?_)
   refine c1.mono ?_;rintro e w1 ⟨rfl,b1⟩;have hb1:=aq hb b1;clear c1 b1 hr2 hb;by_cases hm:k.r=rule/\k.d=day
   ·rw[ay hm]at hX;have HX:=aY hX;rw[bj hm];clear hX hm;go_wp2_with fail;go_ret;exact⟨by(rw[HX.o])<;>rfl,hb1⟩
   ·rw[au hm]at hX;have HX:=aY hX;rw[bl hm];clear hX hm;go_wp2_with fail;go_roundw;case rel=>exact⟨j+1,by go_num,by omega,HX.o,hb1⟩
    case measure=>simp[intOf];omega
  ·have hlt': ¬(j:Int)<(l.length:Int):=(by omega)
   have HX:OK (gc rule day l 0= -1):=by
    show _=_;rw[hX,cQ (by omega)];rfl
   clear hX;go_wp2_with fail;go_ret;exact⟨by(rw[HX.o])<;>rfl,hb⟩
end
section
open Go.RowKit Msk Vx
theorem ve:(prog.info? 186).map (fun i=>(i.zero,i.size,i.bytes))=some (some (.agg (kv ⟨0,0,0,fun _=>false⟩)),26,208):=by kernel_rfl
theorem sW:prog.underlying 51=some (.slice 186):=by kernel_rfl
theorem mF {w:World}{base n:Nat}{sv:Value}{xs:List Value}(h:w.ownsRow base 186 26 sv n xs): ∃p c,sv= .slice p n c/\n<=c:=by
 rcases h.2 with⟨e,e2⟩|⟨b,cap,cur,e,_,_,hn,_⟩
 ·exact⟨none,0,by rw[e,e2],by omega⟩
 ·exact⟨_,cap,e,hn⟩
theorem dR.of_own {w:World}{base:Nat}{v:Value}{l:List Kp}(h:w.ownsRow base 186 26 v l.length (iq l)):dR base w v l:=by
 rcases h.2 with⟨e,e2⟩|⟨g,cap,cur,e,hb,hg,hn,hc,hs,hx⟩
 ·exact⟨none,0,by rw[e,e2],by omega,by unfold maxLen;omega,fun q=>absurd (gS.1 e2) q⟩
 ·refine⟨_,cap,e,hn,hc,fun _=>⟨g,0,rfl,hb,fun j u hj=> ?_⟩⟩
  have hjl:j<l.length*26:=by
   have:=(aE.1 hj).1;rwa[oD]at this
  refine(aX _ _ _ _ _ _ hg).trans ?_;rw[<-hx,dF hjl,bn]at hj;rw[bN];exact hj
theorem ws (w:World)(ty:TypeId)(base p:Option Addr)(n cap c:Nat)(hle:n<=cap):(Builtin.append_ #[51,51] ty #[.slice base n cap,.slice p 0 c]).run prog w= .ok (.slice base n cap) w:=by
 obtain⟨i0,hi,hz0,hz1,hz2⟩:=iZ ve;cases base<;>cases p<;>simp[Builtin.append_,fW sW,sizeOf,typeInfo,hi,hle,Builtin.lenOf,Builtin.firstCells,storeCells,loadCells,loadCellsFrom]
section
variable {ops:Array Oper} {rest:List Oper} {op:Oper} {a:Act} {w:World} {Q:Exit->Act->World->Prop}
theorem xK (hgd:op.guard=none)(s x:Operand)(ho:op.op= .call {callee:= .builtin .append,args:= #[s,x],argTypes:= #[51,51]})(base:Nat)(S l:List Kp)(v vx:Value)(hs:a.eval s=v)(hown:w.ownsRow base 186 26 v S.length (iq S))(hx:a.eval x=vx)(hk:dR 0 w vx l)(hS:S.length+l.length<=676622540160)(hb:base<=w.heap.size)
  (h: ∀v' w',w'.ownsRow base 186 26 v' (S++l).length (iq (S++l))->w.grownBy w' v.ownBlock->wpList prog ops Q rest (a.put op.dst v') w'):wpList prog ops Q (op::rest) a w:=by
 obtain⟨p,c,e,hlc,hcm,hr⟩:=hk;subst e;by_cases hl:l=[]
 ·subst hl;obtain⟨p1,c1,e1,hn1⟩:=mF hown;subst e1;rw[iA]at h;refine Go.Lib.wpList_append_run w hgd s x _ _ ho _ _ hs hx _ _ (ws w _ p1 p _ c1 c hn1) (h _ _ hown ⟨rfl,rfl,rfl,az _,fun _ _ _=>rfl⟩)
 ·obtain⟨g,o,hp,_,hrg⟩:=hr hl;subst hp;obtain⟨i0,hi,hz0,hz1,hz2⟩:=iZ ve;refine iI (w:=w) hgd s x 51 ho base 186 i0 _ 26 208 sW hi hz0 hz1 hz2 (by exact pt _) (by decide) v S.length (iq S) hs hown ⟨g,o,none⟩ l.length c (iq l) hx (oD l) ?_ (Gp l) (by unfold maxLen;omega) (by omega) hb fun v' w' h1 h2 _=> ?_
  ·intro q u hq;rw[tY];exact hrg q u hq
  ·refine h v' w' ?_ h2;rw[aN,ly];exact h1
end
theorem NJ (n:Nat)(w:World)(h0:0<n)(h1:n<=676622540160):
  Calls prog 149 #[af,ag (n:Int)] w fun e w'=> ∃v,e= .returned v/\w'.ownsRow w.heap.size 186 26 v 0 []/\Below w.heap.size w w':=by
 obtain⟨i0,hi,hz0,hz1,hz2⟩:=iZ ve;have hrun:=fun ty=>Go.Lib.run_append_nil_zeros (P:=prog) w 51 3 ty 186 i0 _ .i64 .i64 sW (by kernel_rfl) hi hz0 n h0 (by omega) (by omega) (by rw[hz2];omega);have hge:=grownCap_ge w n 0 186;have hle:=grownCap_le_maxLen w n 0 186 (by unfold maxLen;omega)
 have hsz:(Builtin.zeroCells (Value.agg (kv ⟨0,0,0,fun _=>false⟩)).cells n++Builtin.zeroCells (Value.agg (kv ⟨0,0,0,fun _=>false⟩)).cells (grownCap w n 0 186-n)).size=grownCap w n 0 186*26:=by
  rw[Array.size_append,size_zeroCells,size_zeroCells];have e:(Value.agg (kv ⟨0,0,0,fun _=>false⟩)).cells.size=26:=pt _;rw[e];omega
 have HN:OK ((w.drew.alloc (.cells (Builtin.zeroCells (Value.agg (kv ⟨0,0,0,fun _=>false⟩)).cells n++Builtin.zeroCells (Value.agg (kv ⟨0,0,0,fun _=>false⟩)).cells (grownCap w n 0 186-n)) 186)).ownsRow w.heap.size 186 26 (.slice (some (ae w.heap.size 0)) 0 (grownCap w n 0 186)) 0 []):=
  ⟨rfl,.inr ⟨w.heap.size,_,_,rfl,az _,aD _ _,dW _,hle,hsz,by simp⟩⟩
 have hb:Below w.heap.size w (w.drew.alloc (.cells (Builtin.zeroCells (Value.agg (kv ⟨0,0,0,fun _=>false⟩)).cells n++Builtin.zeroCells (Value.agg (kv ⟨0,0,0,fun _=>false⟩)).cells (grownCap w n 0 186-n)) 186)):=(aG _ _).drew.alloc (az _) _;generalize w.drew.alloc (.cells (Builtin.zeroCells (Value.agg (kv ⟨0,0,0,fun _=>false⟩)).cells n++Builtin.zeroCells (Value.agg (kv ⟨0,0,0,fun _=>false⟩)).cells (grownCap w n 0 186-n)) 186)=w1 at*;generalize grownCap w n 0 186=cap at*;have hn0:(0:Int)<(n:Int):=by omega
 have hn1:(n:Int)<=676622540160:=by omega
 have hcap:cap<=9223372036854775807:=by unfold maxLen at hle;omega
 clear hsz hle;go_enter func149,ntmps149;go_wp2_with(refine Go.Lib.wpList_append_run w rfl _ _ _ _ rfl _ _ rfl rfl _ _ (hrun _) ?_)
 go_ret;exact⟨_,rfl,HN.o,hb⟩
def ii (ps:List (Value×List Kp))(j:Nat):List Kp:=(ps.take j).flatMap fun p=>p.2
theorem yD {ps:List (Value×List Kp)}{j:Nat}{p:Value×List Kp}(h:ps[j]? =some p):ii ps (j+1)=ii ps j++p.2:=by
 unfold ii;rw[fo,h,ff];simp
theorem K6 (ps:List (Value×List Kp))(j:Nat):(ii ps j).length<=(ii ps ps.length).length:=by
 unfold ii;rw[fN];conv=>rhs;rw[<-gh j ps]
 rw[ff,aN];omega
theorem wt (ps:List (Value×List Kp))(gP oP cP:Nat)(w:World)(hP: ∀(j:Nat) (p:Value×List Kp),ps[j]? =some p->w.cell? (ae gP (oP+j))=some p.1/\dR 0 w p.1 p.2)(hps:ps.length<=1000)(h0:0<(ii ps ps.length).length)(h1:(ii ps ps.length).length<=676622540160):
  Calls prog 129 #[.slice (some (ae gP oP)) ps.length cP] w fun e w'=> ∃v,e= .returned v/\w'.ownsRow w.heap.size 186 26 v (ii ps ps.length).length (iq (ii ps ps.length))/\Below w.heap.size w w':=by
 have HP:=aY hP;have hmax:=fun j=>K6 ps j;clear hP;go_enter func129,ntmps129;go_wp2_with fail;go_loopw [3,5,11] (fun s _ t wr=> ∃j:Nat,s=ag ((ii ps j).length:Int)/\t=ag (j:Int)/\j<=ps.length/\wr=w) (fun _ _ t _=>ps.length-(intOf t).toNat);case atStart=>exact⟨0,rfl,rfl,by omega,rfl⟩
 case round=>
  obtain⟨j,rfl,rfl,hj,hwr⟩:=hrel;replace hwr:=hwr.symm;subst hwr;have hj0:(0:Int)<=(j:Int):=(by omega);by_cases hlt:j<ps.length
  ·have hlt':(j:Int)<(ps.length:Int):=(by omega);obtain⟨p,hjp⟩: ∃p,ps[j]? =some p:=⟨ps[j],ax hlt⟩
   obtain⟨hc,hk⟩:=HP.o j p hjp;have e:=yD hjp;have m1:=hmax (j+1);rw[e,aN]at m1;obtain⟨vp,lp⟩:=p;obtain⟨pp,cp,hve,_,_,_⟩:=hk;dsimp only at hc hve e m1;subst hve;have HE:OK ((ii ps j).length+lp.length=(ii ps (j+1)).length):=(by show _=_;rw[e,aN]);clear e hjp;have hs1:((ii ps j).length:Int)+(lp.length:Int)<=676622540160:=(by omega);have hs0:(0:Int)<=((ii ps j).length:Int)+(lp.length:Int):=(by omega);generalize (ii ps j).length=sj at*;generalize lp.length=nj at*;clear m1 hmax;go_wp2_with fail;go_roundw;case rel=>exact⟨j+1,by(rw[<-HE.o])<;>go_num,by go_num,by omega,trivial⟩
   case measure=>simp[intOf];omega
  ·have hlt': ¬(j:Int)<(ps.length:Int):=(by omega);have ej:j=ps.length:=(by omega);subst ej;have c1:=NJ (ii ps ps.length).length w h0 h1;go_wp2_with fail;refine c1.mono ?_;rintro e w1 ⟨v1,rfl,own1,b1⟩;obtain⟨p1,q1,rfl,_⟩:=mF own1;clear c1;go_wp2_with fail;go_loopw [6,8,27] (fun s _ t wr=> ∃j:Nat,t=ag (j:Int)/\j<=ps.length/\wr.ownsRow w.heap.size 186 26 s (ii ps j).length (iq (ii ps j))/\Below w.heap.size w wr) (fun _ _ t _=>ps.length-(intOf t).toNat);case atStart=>exact⟨0,rfl,by omega,own1,b1⟩
   case round=>
    obtain⟨j,rfl,hj,own2,b2⟩:=hrel;have hj0:(0:Int)<=(j:Int):=(by omega);obtain⟨p2,q2,rfl,_⟩:=mF own2;by_cases hlt:j<ps.length
    ·have hlt':(j:Int)<(ps.length:Int):=(by omega);obtain⟨p,hjp⟩: ∃p,ps[j]? =some p:=⟨ps[j],ax hlt⟩
     obtain⟨hc,hk⟩:=HP.o j p hjp;have e:=yD hjp;have m1:=hmax (j+1);rw[e,aN]at m1;have hk2:=hk.later b2;have hc2:=aj b2 hc;have hbase:=b2.size;have hm2:(ii ps j).length+p.2.length<=676622540160:=(by omega);obtain⟨vp,lp⟩:=p;dsimp only at hc2 hk2 e hm2;have HE:=aY e;have HK2:=aY hk2;have HO2:=aY own2;have HB2:=aY b2;clear e hjp hk hc own1 b1 m1 hk2 own2 b2 hmax
     go_wp2_with(refine xK rfl _ _ rfl w.heap.size (ii ps j) lp _ vp rfl HO2.o rfl HK2.o hm2 hbase ?_
                 intro v9 w9 hv9 hg9
                 rw[<-HE.o]at hv9
                 have hb9:Below w.heap.size w w9:=En HB2.o hg9 fun k hk=>(HO2.o.lt k hk).1
                 have HO9:=aY hv9
                 clear HO2 HK2 HB2 HE hv9 hg9)
     go_roundw;case rel=>exact⟨j+1,by go_num,by omega,HO9.o,hb9⟩
     case measure=>simp[intOf];omega
    ·have hlt': ¬(j:Int)<(ps.length:Int):=(by omega);have ej:j=ps.length:=(by omega);subst ej;clear own1 b1;go_wp2_with fail;go_ret;exact⟨_,rfl,own2,b2⟩
end
section
open Go.RowKit Msk Vx
theorem Mw (k:Kp)(W:World):(Instr.buildSlice 51 1 #[(0,.agg (kv k))]).run prog W= .ok (.slice (some (ae W.heap.size 0)) 1 1) (W.alloc (.cells (kv k) 186)):=by
 kernel_rfl
theorem sq {ops:Array Oper}{rest:List Oper}{op:Oper}{a:Act}{w:World}{Q:Exit->Act->World->Prop}(hgd:op.guard=none)(x:Operand)(ho:op.op= .buildSlice 51 1 #[(0,x)])(k:Kp)(hx:a.eval x= .agg (kv k))
  (h:wpList prog ops Q rest (a.put op.dst (.slice (some (ae w.heap.size 0)) 1 1)) (w.alloc (.cells (kv k) 186))):wpList prog ops Q (op::rest) a w:=
 wpList_plain hgd fun _ hK=>by
  unfold Oper.wp execOp;have hb:=Mw k w;simp only[ho,hx,iS,dD,eY,jB,ko,gU,hb];exact hK _ _ h
theorem dR.take {B:Nat}{w:World}{p:Option Addr}{n c:Nat}{l:List Kp}(h:dR B w (.slice p n c) l)(j:Nat)(hj:j<=l.length):dR B w (.slice p j c) (l.take j):=by
 obtain⟨p',c',e,h1,h2,h3⟩:=h;injection e with e1 e2 e3;subst e1 e3;refine⟨p,c,by rw[d9,eW hj],by rw[d9];omega,h2,fun hn=> ?_⟩;obtain⟨g,o,hp,hB,hr⟩:=h3 (by rintro rfl;simp at hn);refine⟨g,o,hp,hB,?_⟩;rw[<-gh j l,ly]at hr;exact wn hr
theorem dR.drop {B:Nat}{w:World}{p:Option Addr}{n c:Nat}{l:List Kp}(h:dR B w (.slice p n c) l)(j:Nat)(hj:j<=l.length):dR B w (.slice (if c=j then p else Option.map (fun x=>x.add (j*26)) p) (l.length-j) (c-j)) (l.drop j):=by
 obtain⟨p',c',e,h1,h2,h3⟩:=h;injection e with e1 e2 e3;subst e1 e3;refine⟨_,c-j,by rw[eX],by rw[eX];omega,by omega,fun hn=> ?_⟩
 have hjl:j<l.length:=by
  rcases Nat.lt_or_ge j l.length with q|q
  ·exact q
  ·exact absurd (cQ q) hn
 obtain⟨g,o,hp,hB,hr⟩:=h3 (by rintro rfl;simp at hn);subst hp;refine⟨g,o+j*26,?_,hB,?_⟩
 ·rw[au (by omega)];show some ((⟨g,o,none⟩:Addr).add (j*26))=_;rw[tY]
 ·rw[<-gh j l,ly]at hr;have:=uC hr;rwa[oD,d9,eW hj]at this
theorem dR.one {w:World}{g:Nat}{k:Kp}(h:w.heap[g]? =ah (kv k) 186):dR 0 w (.slice (some (ae g 0)) 1 1) [k]:=
 ⟨_,1,rfl,by simp,by unfold maxLen;omega,fun _=>⟨g,0,rfl,dW _,fun j u hj=>by
   rw[yC]at hj;refine(aX _ _ _ _ _ _ h).trans ?_;rw[bN,<-bn];exact hj⟩⟩
theorem A7 {w:World}{b b':Nat}{e:TypeId}{size n:Nat}{v:Value}{xs:List Value}(h:w.ownsRow b' e size v n xs)(hb:b<=b'):w.ownsRow b e size v n xs:=by
 obtain⟨h1,h2⟩:=h;rcases h2 with h2|⟨g,cap,cur,e,q,r⟩
 ·exact⟨h1,.inl h2⟩
 ·exact⟨h1,.inr ⟨g,cap,cur,e,ba hb q,r⟩⟩
theorem dR.none (B:Nat)(w:World)(p:Option Addr)(c:Nat)(hc:c<=maxLen):dR B w (.slice p 0 c) []:=⟨p,c,rfl,by simp,hc,fun h=>absurd rfl h⟩
theorem A8 (l:List Kp)(v:Value)(i:Int)(hi:i<0)(k:Kp)(w:World)(h:dR 0 w v l)(hl:l.length<=676622540150):
  Calls prog 102 #[v,ag (i:Int),.agg (kv k)] w fun e w'=> ∃v',e= .returned v'/\w'.ownsRow w.heap.size 186 26 v' (l++[k]).length (iq (l++[k]))/\Below w.heap.size w w':=by
 obtain⟨R,hR⟩: ∃R,l++[k]=R:=⟨_,rfl⟩
 rw[hR];have bA:=am w (.cells (kv k) 186);have nA:=aD w (.cells (kv k) 186);have hk1:=h.later bA;obtain⟨p,c,rfl,hlc,hcm,_⟩:=h;have hl0:(0:Int)<=(l.length:Int):=by omega
 have hl1:(l.length:Int)<=676622540150:=by omega
 have hcm':c<=9223372036854775807:=by unfold maxLen at hcm;omega
 generalize hwA:w.alloc (.cells (kv k) 186)=wA at*;have HR1:OK (dR 0 wA (.slice p l.length c) l):=hk1;have HR2:OK (dR 0 wA (.slice (if c=l.length then p else Option.map (fun x=>x.add (l.length*26)) p) 0 (c-l.length)) []):=dR.none _ _ _ _ (by omega);have HK:=aY hk1;have HA:=aY bA;clear hk1 hcm bA;go_enter func102,ntmps102;go_wp2_with fail;go_quiet (fail);generalize (if c=l.length then p else Option.map (fun x=>x.add (l.length*26)) p)=q8 at*;have bD:Below wA.heap.size wA (wA.drewN nq):=dn (aG _ _) nq;obtain⟨wD,hwD⟩: ∃q,wA.drewN nq=q:=⟨_,rfl⟩
 rw[hwD]at bD;rw[hwD];have nA2:wD.heap[w.heap.size]? =ah (kv k) 186:=ai bD nA;have bB:=am wD (.cells (kv k) 186);have nB:=aD wD (.cells (kv k) 186);generalize hwB:wD.alloc (.cells (kv k) 186)=wB at*;have bC:=am wB (.cells #[.slice p l.length c,.slice q8 0 (c-l.length),.slice (some (ae wD.heap.size 0)) 1 1] 51);have nC:=aD wB (.cells #[.slice p l.length c,.slice q8 0 (c-l.length),.slice (some (ae wD.heap.size 0)) 1 1] 51);have bAC:=bD.trans ((aq bB bC).mono bD.size);have nBC:=ai bC nB;have r1:dR 0 wA (.slice p l.length c) (l):=HR1.o;have r2:dR 0 wA (.slice q8 0 (c-l.length)) ([]):=HR2.o;have q1:=r1.later bAC;have q2:=r2.later bAC;have q3:=dR.one nBC;have hbb:=aq HA.o bAC;generalize hwC:wB.alloc (.cells #[.slice p l.length c,.slice q8 0 (c-l.length),.slice (some (ae wD.heap.size 0)) 1 1] 51)=wC at*
 have c1:=wt [(.slice p l.length c,l),(.slice q8 0 (c-l.length),[]),(.slice (some (ae wD.heap.size 0)) 1 1,[k])] wB.heap.size 0 3 wC (fun j pr hj=>by
  match j,hj with
  |0,hj=>cases hj;exact⟨(aX _ _ _ _ _ _ nC).trans rfl,q1⟩
  |1,hj=>cases hj;exact⟨(aX _ _ _ _ _ _ nC).trans rfl,q2⟩
  |2,hj=>cases hj;exact⟨(aX _ _ _ _ _ _ nC).trans rfl,q3⟩
  |j+3,hj=>simp at hj) (by simp) (by first|(simp[ii];done)|(simp[ii];omega)) (by simp[ii];omega)
 have ec:ii [(.slice p l.length c,l),(.slice q8 0 (c-l.length),[]),(.slice (some (ae wD.heap.size 0)) 1 1,[k])] 3=R:=by
  rw[<-hR];simp[ii]
 have c2:Calls prog 129 #[.slice (some (ae wB.heap.size 0)) 3 3] wC fun e w'=> ∃v,e= .returned v/\w'.ownsRow wC.heap.size 186 26 v R.length (iq R)/\Below wC.heap.size wC w':=by
  have:=c1;simp only[bz,gd,bN,Nat.reduceAdd,ec]at this;exact this
 clear hR c1 ec q1 q2 q3 r1 r2 bB bC bAC nBC HA HK HR1 HR2 bD
 go_wp2_with(first
  |(refine aO rfl 186 _ rfl _ rfl _ _ _ _ nA2 pU rfl (nH k) ?_)
  |(refine sq rfl _ rfl k rfl ?_))
 refine c2.mono ?_;rintro e w9 ⟨v9,rfl,own9,b9⟩;have own9':=A7 own9 hbb.size;have hb9:=aq hbb b9;obtain⟨p9,c9,rfl,_⟩:=mF own9;clear c2 own9 b9 hbb;go_wp2_with fail;go_ret;exact⟨_,rfl,own9',hb9⟩
theorem Eo (l:List Kp)(v:Value)(i:Nat)(hi:i<l.length)(k:Kp)(w:World)(h:dR 0 w v l)(hl:l.length<=676622540150):
  Calls prog 102 #[v,ag (i:Int),.agg (kv k)] w fun e w'=> ∃v',e= .returned v'/\w'.ownsRow w.heap.size 186 26 v' ((l.take i++l.drop (i+1))++[k]).length (iq ((l.take i++l.drop (i+1))++[k]))/\Below w.heap.size w w':=by
 obtain⟨R,hR⟩: ∃R,(l.take i++l.drop (i+1))++[k]=R:=⟨_,rfl⟩
 rw[hR];have bA:=am w (.cells (kv k) 186);have nA:=aD w (.cells (kv k) 186);have hk1:=h.later bA;obtain⟨p,c,rfl,hlc,hcm,_⟩:=h;have hl0:(0:Int)<=(l.length:Int):=by omega
 have hl1:(l.length:Int)<=676622540150:=by omega
 have hcm':c<=9223372036854775807:=by unfold maxLen at hcm;omega
 generalize hwA:w.alloc (.cells (kv k) 186)=wA at*;have HR1:OK (dR 0 wA (.slice p i c) (l.take i)):=hk1.take i (by omega);have HR2:OK (dR 0 wA (.slice (if c=i+1 then p else Option.map (fun x=>x.add ((i+1)*26)) p) (l.length-(i+1)) (c-(i+1))) (l.drop (i+1))):=hk1.drop (i+1) (by omega);have hi0:(0:Int)<=(i:Int):=by omega
 have hi1:(i:Int)<(l.length:Int):=by omega
 have HK:=aY hk1;have HA:=aY bA;clear hk1 hcm bA;go_enter func102,ntmps102;go_wp2_with fail;go_quiet (fail);generalize (if c=l.length then p else Option.map (fun x=>x.add (l.length*26)) p)=q8 at*;have bE:Below wA.heap.size wA (wA.drewN nq):=dn (aG _ _) nq;obtain⟨wE,hwE⟩: ∃q,wA.drewN nq=q:=⟨_,rfl⟩
 rw[hwE]at bE;rw[hwE];go_wp2_with fail;go_quiet (fail);generalize (if c=i+1 then p else Option.map (fun x=>x.add ((i+1)*26)) p)=q9 at*;have bF:Below wE.heap.size wE (wE.drewN nq):=dn (aG _ _) nq;obtain⟨wD,hwD⟩: ∃q,wE.drewN nq=q:=⟨_,rfl⟩
 rw[hwD]at bF;rw[hwD];have bD:=aq bE bF;clear bE bF;have nA2:wD.heap[w.heap.size]? =ah (kv k) 186:=ai bD nA;have bB:=am wD (.cells (kv k) 186);have nB:=aD wD (.cells (kv k) 186);generalize hwB:wD.alloc (.cells (kv k) 186)=wB at*;have bC:=am wB (.cells #[.slice p i c,.slice q9 (l.length-(i+1)) (c-(i+1)),.slice (some (ae wD.heap.size 0)) 1 1] 51);have nC:=aD wB (.cells #[.slice p i c,.slice q9 (l.length-(i+1)) (c-(i+1)),.slice (some (ae wD.heap.size 0)) 1 1] 51);have bAC:=bD.trans ((aq bB bC).mono bD.size);have nBC:=ai bC nB;have r1:dR 0 wA (.slice p i c) (l.take i):=HR1.o;have r2:dR 0 wA (.slice q9 (l.length-(i+1)) (c-(i+1))) (l.drop (i+1)):=HR2.o;have q1:=r1.later bAC;have q2:=r2.later bAC;have q3:=dR.one nBC;have hbb:=aq HA.o bAC;generalize hwC:wB.alloc (.cells #[.slice p i c,.slice q9 (l.length-(i+1)) (c-(i+1)),.slice (some (ae wD.heap.size 0)) 1 1] 51)=wC at*
 have c1:=wt [(.slice p i c,l.take i),(.slice q9 (l.length-(i+1)) (c-(i+1)),l.drop (i+1)),(.slice (some (ae wD.heap.size 0)) 1 1,[k])] wB.heap.size 0 3 wC (fun j pr hj=>by
  match j,hj with
  |0,hj=>cases hj;exact⟨(aX _ _ _ _ _ _ nC).trans rfl,q1⟩
  |1,hj=>cases hj;exact⟨(aX _ _ _ _ _ _ nC).trans rfl,q2⟩
  |2,hj=>cases hj;exact⟨(aX _ _ _ _ _ _ nC).trans rfl,q3⟩
  |j+3,hj=>simp at hj) (by simp) (by first|(simp[ii];done)|(simp[ii];omega)) (by simp[ii];omega)
 have ec:ii [(.slice p i c,l.take i),(.slice q9 (l.length-(i+1)) (c-(i+1)),l.drop (i+1)),(.slice (some (ae wD.heap.size 0)) 1 1,[k])] 3=R:=by
  rw[<-hR];simp[ii]
 have c2:Calls prog 129 #[.slice (some (ae wB.heap.size 0)) 3 3] wC fun e w'=> ∃v,e= .returned v/\w'.ownsRow wC.heap.size 186 26 v R.length (iq R)/\Below wC.heap.size wC w':=by
  have:=c1;simp only[bz,gd,bN,Nat.reduceAdd,ec]at this;exact this
 clear hR c1 ec q1 q2 q3 r1 r2 bB bC bAC nBC HA HK HR1 HR2 bD
 go_wp2_with(first
  |(refine aO rfl 186 _ rfl _ rfl _ _ _ _ nA2 pU rfl (nH k) ?_)
  |(refine sq rfl _ rfl k rfl ?_))
 refine c2.mono ?_;rintro e w9 ⟨v9,rfl,own9,b9⟩;have own9':=A7 own9 hbb.size;have hb9:=aq hbb b9;obtain⟨p9,c9,rfl,_⟩:=mF own9;clear c2 own9 b9 hbb;go_wp2_with fail;go_ret;exact⟨_,rfl,own9',hb9⟩
theorem Ep (B:Nat)(l:List Kp)(v:Value)(w:World)(h:dR B w v l)(hl:l.length<=676622540160):
  Calls prog 104 #[v] w fun e w'=> ∃v',e= .returned v'/\dR B w' v' (rS l)/\w'=w:=by
 have HK:=aY h;obtain⟨p,c,rfl,hlc,hcm,_⟩:=h;have hl0:(0:Int)<=(l.length:Int):=by omega
 have hl1:(l.length:Int)<=676622540160:=by omega
 have hcm':c<=9223372036854775807:=by unfold maxLen at hcm;omega
 unfold rS;by_cases h64:64<l.length
 ·obtain⟨j,hj⟩: ∃j,l.length-64=j:=⟨_,rfl⟩
  rw[hj];have HR:=aY (HK.o.drop j (by omega));have e1:(l.length:Int)-64=(j:Int):=(by omega);have hw1:IntKind.i64.wrap ((j:Int))=(j:Int):=(by rw[br];omega);have hj0:(0:Int)<(j:Int):=(by omega);have hj1:j<=l.length:=(by omega);have hj2:(j:Int)<=(l.length:Int):=(by omega);have hc: ¬c=j:=(by omega);rw[au hc]at HR;clear HK hcm;go_enter func104,ntmps104;go_wp2_with fail;go_ret;exact⟨_,rfl,HR.o,rfl⟩
 ·have e0:l.length-64=0:=by omega
  rw[e0];have HR:OK (dR B w (.slice p l.length c) (l.drop 0)):=HK.o;have e1:(l.length:Int)-64<=0:=(by omega);clear HK hcm e0;go_enter func104,ntmps104;go_wp2_with fail;go_ret;exact⟨_,rfl,HR.o,rfl⟩
end
section
open Go.RowKit Msk Vx
theorem dR.set {B:Nat}{w:World}{v:Value}{l:List Kp}(h:dR B w v l){g:Nat}(hg:g<B)(X:Array Value):dR B (w.setRow g X) v l:=by
 obtain⟨p,c,e,h1,h2,h3⟩:=h;refine⟨p,c,e,h1,h2,fun hn=> ?_⟩;obtain⟨b,o,hp,hB,hr⟩:=h3 hn;refine⟨b,o,hp,hB,fun j u hj=> ?_⟩;have hc:=hr j u hj;have he:=aT w g b X (by omega);unfold World.cell? at hc⊢;rw[he];exact hc
structure GJ (w0 w1:World)(ga B:Nat)(m:M)(R:List Kp)(runs er at_:Int)(im ic iF:Nat)(L:Nat->Bool)(W:World):Prop where
 bel:Below w0.heap.size w0 W
 low: ∀q,q<B->q≠ga->q≠ga+1->q≠ga+2->W.heap[q]? =w1.heap[q]?
 size:B<=W.heap.size
 b0:w0.heap.size<=ga
 b1:ga+2<B
 m0:L im=false->W.heap[ga]? =ah (mv fun _=>false) 86
 m1:L im=true->W.heap[ga]? =ah (mv m) 86
 c0:L ic=false->W.heap[ga+1]? =ah #[af,ag 0] 53
 c1:L ic=true-> ∃v',W.heap[ga+1]? =ah #[v',ag runs] 53/\dR B W v' R
 f0:L iF=false->W.heap[ga+2]? =ah #[ag 0,ag 0] 95
 f1:L iF=true->W.heap[ga+2]? =ah #[ag er,ag at_] 95
section
variable {w0 w1:World} {ga B:Nat} {m:M} {R:List Kp} {runs er at_:Int} {im ic iF:Nat} {L:Nat->Bool} {W W':World}
theorem rT {i k:Nat}{b:Bool}(h:(decide (i=k)||b)=false):b=false:=(Bool.or_eq_false_iff.1 h).2
theorem mc {i k:Nat}{b:Bool}(hne:i≠k)(h:(decide (i=k)||b)=true):b=true:=by simpa[hne] using h
theorem GJ.below (h:GJ w0 w1 ga B m R runs er at_ im ic iF L W)(hb:Below W.heap.size W W'):GJ w0 w1 ga B m R runs er at_ im ic iF L W':=by
 have lt: ∀q,q<B->W'.heap[q]? =W.heap[q]? :=fun q hq=>hb.block q (aR hq h.size);have hb1:=h.b1;exact⟨aq h.bel hb,fun q a b c d=>(lt q a).trans (h.low q a b c d),ba h.size hb.size,h.b0,h.b1,fun e=>(lt _ (by omega)).trans (h.m0 e),fun e=>(lt _ (by omega)).trans (h.m1 e),fun e=>(lt _ (by omega)).trans (h.c0 e),fun e=>(h.c1 e).imp fun _ q=>⟨(lt _ (by omega)).trans q.1,q.2.later hb⟩,fun e=>(lt _ (by omega)).trans (h.f0 e),fun e=>(lt _ (by omega)).trans (h.f1 e)⟩
theorem GJ.same (h:GJ w0 w1 ga B m R runs er at_ im ic iF L W)(i:Nat)(h1:i≠im)(h2:i≠ic)(h3:i≠iF):GJ w0 w1 ga B m R runs er at_ im ic iF (fun k=>decide (i=k)||L k) W:=
 ⟨h.bel,h.low,h.size,h.b0,h.b1,fun e=>h.m0 (rT e),fun e=>h.m1 (mc h1 e),fun e=>h.c0 (rT e),fun e=>h.c1 (mc h2 e),fun e=>h.f0 (rT e),fun e=>h.f1 (mc h3 e)⟩
theorem GJ.mask (h:GJ w0 w1 ga B m R runs er at_ im ic iF L W)(hL:L im=false)(h2:im≠ic)(h3:im≠iF):GJ w0 w1 ga B m R runs er at_ im ic iF (fun k=>decide (im=k)||L k) (W.setRow ga (mv m)):=by
 have ot: ∀q,q≠ga->(W.setRow ga (mv m)).heap[q]? =W.heap[q]? :=fun q hq=>aT W ga q (mv m) hq;have hb1:=h.b1;refine⟨below_setRow h.bel h.b0 _,fun q a b c d=>(ot q b).trans (h.low q a b c d),by simpa using h.size,h.b0,h.b1,fun e=>(by simp at e),fun _=>aJ _ _ _ _ _ _ (h.m0 hL),fun e=>(ot _ (by omega)).trans (h.c0 (rT e)),fun e=> ?_,fun e=>(ot _ (by omega)).trans (h.f0 (rT e)),fun e=>(ot _ (by omega)).trans (h.f1 (mc h3 e))⟩;obtain⟨v',e1,e2⟩:=h.c1 (mc h2 e);exact⟨v',(ot _ (by omega)).trans e1,e2.set (by omega) _⟩
theorem GJ.cache (h:GJ w0 w1 ga B m R runs er at_ im ic iF L W)(hL:L ic=false)(h1:ic≠im)(h3:ic≠iF){v':Value}(hv:dR B W v' R):GJ w0 w1 ga B m R runs er at_ im ic iF (fun k=>decide (ic=k)||L k) (W.setRow (ga+1) #[v',ag runs]):=by
 have ot: ∀q,q≠ga+1->(W.setRow (ga+1) #[v',ag runs]).heap[q]? =W.heap[q]? :=fun q hq=>aT W (ga+1) q _ hq;have hb1:=h.b1;have hb0:=h.b0;exact⟨below_setRow h.bel (by omega) _,fun q a b c d=>(ot q c).trans (h.low q a b c d),by simpa using h.size,h.b0,h.b1,fun e=>(ot _ (by omega)).trans (h.m0 (rT e)),fun e=>(ot _ (by omega)).trans (h.m1 (mc h1 e)),fun e=>(by simp at e),fun _=>⟨v',aJ _ _ _ _ _ _ (h.c0 hL),hv.set (by omega) _⟩,fun e=>(ot _ (by omega)).trans (h.f0 (rT e)),fun e=>(ot _ (by omega)).trans (h.f1 (mc h3 e))⟩
theorem GJ.fault (h:GJ w0 w1 ga B m R runs er at_ im ic iF L W)(hL:L iF=false)(h1:iF≠im)(h2:iF≠ic):GJ w0 w1 ga B m R runs er at_ im ic iF (fun k=>decide (iF=k)||L k) (W.setRow (ga+2) #[ag er,ag at_]):=by
 have ot: ∀q,q≠ga+2->(W.setRow (ga+2) #[ag er,ag at_]).heap[q]? =W.heap[q]? :=fun q hq=>aT W (ga+2) q _ hq;have hb1:=h.b1;have hb0:=h.b0;refine⟨below_setRow h.bel (by omega) _,fun q a b c d=>(ot q d).trans (h.low q a b c d),by simpa using h.size,h.b0,h.b1,fun e=>(ot _ (by omega)).trans (h.m0 (rT e)),fun e=>(ot _ (by omega)).trans (h.m1 (mc h1 e)),fun e=>(ot _ (by omega)).trans (h.c0 (rT e)),fun e=> ?_,fun e=>(by simp at e),fun _=>aJ _ _ _ _ _ _ (h.f0 hL)⟩;obtain⟨v',e1,e2⟩:=h.c1 (mc h2 e);exact⟨v',(ot _ (by omega)).trans e1,e2.set (by omega) _⟩
end
structure GT (B:Nat)(R0 R:List Kp)(runs:Int)(i0 i1 i2 s0 s1 s2:Nat)(M:Nat->Bool)(φ:Nat->Value)(W:World):Prop where
 t0:M i0=true->dR B W (φ s0) R0
 t1:M i1=true->dR B W (φ s1) R
 t2:M i2=true-> ∃v',φ s2= .agg #[v',ag runs]/\dR B W v' R
section
variable {B:Nat} {R0 R:List Kp} {runs:Int} {i0 i1 i2 s0 s1 s2:Nat} {M:Nat->Bool} {φ φ':Nat->Value} {W W':World}
theorem GT.mono (h:GT B R0 R runs i0 i1 i2 s0 s1 s2 M φ W)(hK: ∀v l,dR B W v l->dR B W' v l):GT B R0 R runs i0 i1 i2 s0 s1 s2 M φ W':=⟨fun e=>hK _ _ (h.t0 e),fun e=>hK _ _ (h.t1 e),fun e=>(h.t2 e).imp fun _ q=>⟨q.1,hK _ _ q.2⟩⟩
theorem GT.on (h:GT B R0 R runs i0 i1 i2 s0 s1 s2 M φ W)(i:Nat)(h0:i≠i0->φ' s0=φ s0)(h1:i≠i1->φ' s1=φ s1)(h2:i≠i2->φ' s2=φ s2)(k0:i=i0->dR B W (φ' s0) R0)(k1:i=i1->dR B W (φ' s1) R)(k2:i=i2-> ∃v',φ' s2= .agg #[v',ag runs]/\dR B W v' R):GT B R0 R runs i0 i1 i2 s0 s1 s2 (fun k=>decide (i=k)||M k) φ' W:=by
 refine⟨fun e=> ?_,fun e=> ?_,fun e=> ?_⟩
 ·by_cases q:i=i0
  ·exact k0 q
  ·rw[h0 q];exact h.t0 (mc q e)
 ·by_cases q:i=i1
  ·exact k1 q
  ·rw[h1 q];exact h.t1 (mc q e)
 ·by_cases q:i=i2
  ·exact k2 q
  ·rw[h2 q];exact h.t2 (mc q e)
theorem GT.mark (h:GT B R0 R runs i0 i1 i2 s0 s1 s2 M φ W)(i:Nat)(h0:i≠i0)(h1:i≠i1)(h2:i≠i2):GT B R0 R runs i0 i1 i2 s0 s1 s2 (fun k=>decide (i=k)||M k) φ W:=⟨fun e=>h.t0 (mc h0 e),fun e=>h.t1 (mc h1 e),fun e=>h.t2 (mc h2 e)⟩
end
theorem K7 (k:Kp)(j:Nat)(_:j<23):(kv k)[3+j]? =(mv k.m)[j]? :=by
 unfold kv;rw[Array.getElem?_append_right (by simp)];simp
theorem I0 {w:World}{g:Nat}{k:Kp}(h:w.heap[g]? =ah (kv k) 186):w.rangeAt g 3 (mv k.m).toList:=fun j u hj=>by
 have hjl:j<23:=by
  have:=(aE.1 hj).1;rwa[rj]at this
 refine(aX _ _ _ _ _ _ h).trans ?_;rw[K7 k j hjl,<-bn];exact hj
theorem yE:prog.underlying 53=some (.struct (prog.fieldsOf 53)):=by kernel_rfl
theorem qq:(prog.info? 53).map (·.size)=some 2:=by kernel_rfl
theorem mG:(prog.info? 95).map (·.size)=some 2:=by kernel_rfl
def xL (m:M)(R:List Kp)(runs er at_:Int)(w:World)(e:Ending)(w':World):Prop:= ∃v',e= .returned (.tuple #[.agg (mv m),.agg #[v',ag runs],.agg #[ag er,ag at_]])/\dR w.heap.size w' v' R/\Below w.heap.size w w'
theorem vf {a:Act}{w0 w:World}(g:Nat)(m:M)(R:List Kp)(runs er at_:Int)(v':Value)(hd:a.defers=[])(h10:a.tmps.getD 10 undef=ab g 0)(h11:a.tmps.getD 11 undef=ab (g+1) 0)(h12:a.tmps.getD 12 undef=ab (g+2) 0)
  (hg:w.heap[g]? =ah (mv m) 86) (hg1:w.heap[g+1]? =ah #[v',ag runs] 53) (hg2:w.heap[g+2]? =ah #[ag er,ag at_] 95) (hk:dR w0.heap.size w v' R) (hb:Below w0.heap.size w0 w):bodyPost prog f74 (xL m R runs er at_ w0) .ret a w:=by
 refine aU (v:= .tuple #[.agg (mv m),.agg #[v',ag runs],.agg #[ag er,ag at_]]) ?_ hd ⟨v',rfl,hk,hb⟩;have h10':a.tmps[10]?.getD undef=ab g 0:=by simpa using h10
 have h11':a.tmps[11]?.getD undef=ab (g+1) 0:=by simpa using h11
 have h12':a.tmps[12]?.getD undef=ab (g+2) 0:=by simpa using h12
 have hv:=dO (P:=prog) w g 86 86 _ _ _ hg bP rfl (bc _);have hv1:=dO (P:=prog) w (g+1) 53 53 _ _ _ hg1 yE rfl qq;have hv2:=dO (P:=prog) w (g+2) 95 95 _ _ _ hg2 lK rfl mG;simp[results,results74,h10',h11',h12',asAddr,hv,hv1,hv2]
end
section
open Go.RowKit Msk Vx
theorem uD (l:List Kp)(v:Value)(i:Int)(k:Kp)(w:World)(h:dR 0 w v l)(hl:l.length<=676622540150)(hi:i<l.length):
  Calls prog 102 #[v,ag i,.agg (kv k)] w fun e w'=> ∃v',e= .returned v'/\dR w.heap.size w' v' (fI l i++[k])/\Below w.heap.size w w':=by
 by_cases h0:0<=i
 ·obtain⟨n,rfl⟩: ∃n:Nat,i=(n:Int):=⟨i.toNat,by omega⟩
  refine(Eo l v n (by omega) k w h hl).mono ?_;rintro e w' ⟨v',rfl,own,hb⟩
  have e1:fI l (n:Int)=l.take n++l.drop (n+1):=by
   unfold fI;rw[ay h0,bV]
  rw[e1];exact⟨v',rfl,dR.of_own own,hb⟩
 ·refine(A8 l v i (by omega) k w h hl).mono ?_;rintro e w' ⟨v',rfl,own,hb⟩
  have e1:fI l i=l:=by
   unfold fI;rw[au h0]
  rw[e1];exact⟨v',rfl,dR.of_own own,hb⟩
theorem Gq:(#[ag 0,ag 0,ag 0,.int .u64 0,.int .u64 0,.int .u64 0,.int .u64 0,.int .u64 0,.int .u64 0,.int .u64 0,.int .u64 0,.int .u64 0,.int .u64 0,.int .u64 0,.int .u64 0,.int .u64 0,.int .u64 0,.int .u64 0,.int .u64 0,.int .u64 0,.int .u64 0,.int .u64 0,.int .u64 0,.int .u64 0,.int .u64 0,.int .u64 0]:Array Value)=kv ⟨0,0,0,fun _=>false⟩:=by
 unfold kv;rw[<-eg];rfl
theorem Gr (r d v:Int)(m:M)(W:World):(Instr.build 186 #[(0,ag r),(1,ag d),(2,ag v),(3,.agg (mv m))]).run prog W= .ok (.agg (kv ⟨r,d,v,m⟩)) W:=by
 kernel_rfl
theorem vh {ops:Array Oper}{rest:List Oper}{op:Oper}{a:Act}{w:World}{Q:Exit->Act->World->Prop}(hgd:op.guard=none)(x0 x1 x2 x3:Operand)(ho:op.op= .build 186 #[(0,x0),(1,x1),(2,x2),(3,x3)])(r d v:Int)(m:M)(h0:a.eval x0=ag r)(h1:a.eval x1=ag d)(h2:a.eval x2=ag v)(h3:a.eval x3= .agg (mv m))
  (h:wpList prog ops Q rest (a.put op.dst (.agg (kv ⟨r,d,v,m⟩))) w):wpList prog ops Q (op::rest) a w:=
 wpList_plain hgd fun _ hK=>by
  unfold Oper.wp execOp;have hb:=Gr r d v m w;simp only[ho,h0,h1,h2,h3,iS,dD,eY,jB,ko,gU,hb];exact hK _ _ h
theorem A9 (cv:Value)(runs rule day:Int)(w:World): ∃W,(((((w.alloc (.cells #[cv,ag runs] 53)).alloc (.cells #[ag rule] 3)).alloc (.cells #[ag day] 3)).alloc (.cells (mv fun _=>false) 86)).alloc (.cells #[af,ag 0] 53)).alloc (.cells #[ag 0,ag 0] 95)=W/\Below w.heap.size w W/\W.heap[w.heap.size]? =ah #[cv,ag runs] 53/\W.heap[w.heap.size+1]? =ah #[ag rule] 3/\W.heap[w.heap.size+2]? =ah #[ag day] 3/\W.heap[w.heap.size+3]? =ah (mv fun _=>false) 86/\W.heap[w.heap.size+4]? =ah #[af,ag 0] 53/\W.heap[w.heap.size+5]? =ah #[ag 0,ag 0] 95:=
 ⟨_,rfl,(((((am _ _).alloc (by simp) _).alloc (by simp;omega) _).alloc (by simp;omega) _).alloc (by simp;omega) _).alloc (by simp;omega) _,by(repeat (first|refine da _ _ _ (by simp only[aQ];omega) ?_|exact du _ _ _ (by first|rfl|simp only[aQ]))),by(repeat (first|refine da _ _ _ (by simp only[aQ];omega) ?_|exact du _ _ _ (by first|rfl|simp only[aQ]))),by(repeat (first|refine da _ _ _ (by simp only[aQ];omega) ?_|exact du _ _ _ (by first|rfl|simp only[aQ]))),by(repeat (first|refine da _ _ _ (by simp only[aQ];omega) ?_|exact du _ _ _ (by first|rfl|simp only[aQ]))),by(repeat (first|refine da _ _ _ (by simp only[aQ];omega) ?_|exact du _ _ _ (by first|rfl|simp only[aQ]))),by(repeat (first|refine da _ _ _ (by simp only[aQ];omega) ?_|exact du _ _ _ (by first|rfl|simp only[aQ])))⟩
theorem K8 (l:List Kp)(cv lv:Value)(runs ver rule day:Int)(w:World)(h:dR 0 w cv l)(hl:l.length<=676622540150)(hhit:mE l ver rule day=true):
  Calls prog 74 #[.agg #[cv,ag runs],lv,ag ver,ag rule,ag day] w (xL (l.getD (gc rule day l 0).toNat k0).m (fI l (gc rule day l 0)++[l.getD (gc rule day l 0).toNat k0]) runs 0 0 w):=by
 obtain⟨i,hii⟩: ∃i,gc rule day l 0=i:=⟨_,rfl⟩
 have hiL:=rq rule day l 0;rw[hii]at hiL;have hil:i<l.length:=by omega
 have hil2:i<=676622540150:=by omega
 have hil3: -1<=i:=by omega
 have hz:=eg;obtain⟨wA,hwA,bA,n5,n8,n9,n10,n11,n12⟩:=A9 cv runs rule day w;have c1:=sV l cv (w.heap.size+1) (w.heap.size+2) rule day wA (h.later bA) n8 n9;rw[hii]at c1;have z5:=ak 0 n5
 have hh:0<=i/\(l.getD i.toNat k0).v=ver:=by
  unfold mE at hhit;rw[hii,bv,bU,bU]at hhit;exact hhit
 obtain⟨hi0,hver⟩:=hh;rw[hii];obtain⟨n,rfl⟩: ∃n:Nat,i=(n:Int):=⟨i.toNat,by omega⟩
 rw[bV]at hver⊢;obtain⟨k,hk⟩: ∃k,l[n]? =some k:=⟨l[n]'(by omega),ax (by omega)⟩
 have hkd:l.getD n k0=k:=by simp[List.getD,hk]
 rw[hkd]at hver⊢;have HK:=aY h;obtain⟨p,c,rfl,hlc,hcm,_⟩:=h;obtain⟨g,o,hpe,hrg⟩:=HK.o.at hk;subst hpe;have HB:=aY bA;clear hii hiL hhit hkd hcm bA;go_enter func74,ntmps74;go_wp2_with fail;refine c1.mono ?_;rintro e w1 ⟨rfl,b1⟩;have HB1:=aY (aq HB.o b1);have rg1:=kW hrg HB1.o
 have y2:w1.cell? (ae g (o+n*26+2))=some (ag ver):=by
  rw[<-hver];exact rg1 2 _ (by rw[bn];exact IX k)
 have m5:=ai b1 n5;have m10:=ai b1 n10;have m11:=ai b1 n11;have m12:=ai b1 n12;have z51:=ak 0 m5;have hni:(n:Int)<(l.length:Int):=by omega
 have bE:=am w1 (.cells (kv ⟨0,0,0,fun _=>false⟩) 186);have nE:=aD w1 (.cells (kv ⟨0,0,0,fun _=>false⟩) 186);generalize hwE:w1.alloc (.cells (kv ⟨0,0,0,fun _=>false⟩) 186)=wE at*;have bF:=below_setRow bE (az _) (kv k);have nF:=aJ _ _ _ (kv k) _ _ nE;generalize hwF:wE.setRow w1.heap.size (kv k)=w2 at*;clear c1 hver n5 n8 n9 n10 n11 n12 b1 hwA z5 hrg HB;have hzk:=Gq
 go_wp2_with(first
  |(refine sU rfl _ rfl g (o+n*26) rfl k rg1 ?_)
  |(refine aw rfl 186 _ _ rfl _ _ rfl rfl _ _ nE (nH _) (by simp[pt]) (A6 _) ?_))
 obtain⟨g14,hg14e⟩: ∃q,w1.heap.size=q:=⟨_,rfl⟩
 have HBW:=aY (aq HB1.o bF);have hg14:g14<w2.heap.size:=by rw[<-hg14e];exact aF nF
 have hgw:w.heap.size+5<g14:=by rw[<-hg14e];exact aF m12
 have n14:w2.heap[g14]? =ah (kv k) 186:=by rw[<-hg14e];exact nF
 replace m5:=ai bF m5;replace m10:=ai bF m10;replace m11:=ai bF m11;replace m12:=ai bF m12;rw[hwF,hg14e];clear nF bF bE nE hwE hwF rg1 y2 z51 hg14e hz HB1 hzk;refine dl (fun M φ W=>GJ w w2 (w.heap.size+3) w2.heap.size k.m (fI l (n:Int)++[k]) runs 0 0 11 12 13 M W/\GT w2.heap.size (fI l (n:Int)++[k]) (fI l (n:Int)++[k]) runs 6 1000 9 46 1000 49 M φ W) [kn 40 (ab g14 3),kn 41 (.agg (mv k.m)),kn 42 (ab w.heap.size 0),kn 43 (.slice (some (ae g o)) l.length c),kn 44 (ag (n:Int)),kn 45 (.agg (kv k)),td 46,kn 47 (ab w.heap.size 1),kn 48 (ag runs),td 49,kn 50 (.agg #[ag 0,ag 0]),nk,nk,nk] (fun _=>⟨⟨(HBW.o).trans ((aG w2.heap.size w2).drew.mono HBW.o.size),fun _ _ _ _ _=>rfl,az _,by omega,by omega,fun _=>m10,(fun e=>by cases e),fun _=>m11,(fun e=>by cases e),fun _=>m12,(fun e=>by cases e)⟩,(fun e=>by cases e),(fun e=>by cases e),(fun e=>by cases e)⟩) (fun _ _ _ _ hb h=>⟨h.1.below hb,h.2.mono fun _ _ q=>q.later hb⟩) (by kernel_rfl) (fun M φ W2 hJ hcl FF ll hll hFF=> ?_) (fun M φ W2 hM hJ=> ?_)
 ·simp only[kn,td,nk,dQ,aP,aW,Act.put,aA,aI,aH]at hll;subst hll;simp only[dc,Nat.reduceAdd]at hFF;obtain⟨hJ,hT⟩:=hJ;have b14:=(hJ.low g14 hg14 (by omega) (by omega) (by omega)).trans n14;have b5:=(hJ.low w.heap.size (by omega) (by omega) (by omega) (by omega)).trans m5;have y50:=ak 0 b5;have y51:=ak 1 b5;clear b5;dsimp only[kn,td,nk,dx,eo,dV,Act.put];and_intros;all_goals first|exact trivial|intro qw qn qm K hK
  all_goals try (go_simp;with_reducible exact hK _ _ ⟨rfl,aG _ _⟩)
  ·refine IW _ rfl g14 3 (by simp[Act.eval,hFF]) k.m (I0 b14) ?_;exact hK _ _ ⟨rfl,aG _ _⟩
  ·refine d7 186 _ rfl g14 (by simp[Act.eval,hFF]) _ _ _ _ b14 pU rfl (nH k) ?_;exact hK _ _ ⟨rfl,aG _ _⟩
  ·have hk2:=HK.o.later hJ.bel;go_simp;refine(uD l _ (n:Int) k W2 hk2 hl hil).mono ?_;rintro r' W' ⟨v',rfl,hk3,hb'⟩;exact hK _ _ ⟨trivial,(hJ.below hb').same 6 (by decide) (by decide) (by decide),(hT.mono fun _ _ q=>q.later hb').on 6 (fun h=>absurd rfl h) (fun _=>dB (by decide)) (fun _=>dB (by decide)) (fun _=>by rw[dM];exact hk3.low hJ.size) (fun h=>by cases h) (fun h=>by cases h)⟩
  ·have k46:=hT.t0 (qw ⟨6,.data⟩ (by simp) rfl rfl);obtain⟨p6,c6,hv6,_⟩:=id k46;obtain⟨nn,hnn⟩: ∃nn,(fI l (n:Int)++[k]).length=nn:=⟨_,rfl⟩
   rw[hnn]at hv6;rw[hv6]at hFF;go_simp;exact hK _ _ ⟨trivial,hJ.same 9 (by decide) (by decide) (by decide),hT.on 9 (fun _=>dB (by decide)) (fun _=>dB (by decide)) (fun h=>absurd rfl h) (fun h=>by cases h) (fun h=>by cases h) (fun _=>⟨_,dM ..,hv6▸k46⟩)⟩
  ·refine ef 86 _ _ rfl _ (mv k.m) (by simp[Act.eval,hFF]) (by simp[Act.eval,hFF]) _ _ (hJ.m0 qm) (bc _) (by simp[bL]) (dK _) ?_;exact hK undef _ ⟨trivial,hJ.mask qm (by decide) (by decide),(hT.mono fun v l hv=>hv.set (by omega) _).mark 11 (by decide) (by decide) (by decide)⟩
  ·obtain⟨v9,e9,k9⟩:=hT.t2 (qw ⟨9,.data⟩ (by simp) rfl rfl);obtain⟨p9,c9,hv9,_⟩:=id k9;obtain⟨nn,hnn⟩: ∃nn,(fI l (n:Int)++[k]).length=nn:=⟨_,rfl⟩
   rw[hnn]at hv9;rw[e9,hv9]at hFF;refine ef 53 _ _ rfl _ #[.slice p9 nn c9,ag runs] (by simp[Act.eval,hFF]) (by simp[Act.eval,hFF]) _ _ (hJ.c0 qm) qq (by simp) (by simp[Value.oneCell']) ?_;exact hK undef _ ⟨trivial,hJ.cache qm (by decide) (by decide) (hv9▸k9),(hT.mono fun v l hv=>hv.set (by omega) _).mark 12 (by decide) (by decide) (by decide)⟩
  ·refine ef 95 _ _ rfl _ #[ag 0,ag 0] (by simp[Act.eval,hFF]) (by simp[Act.eval,hFF]) _ _ (hJ.f0 qm) mG (by simp) (by simp[Value.oneCell']) ?_;exact hK undef _ ⟨trivial,hJ.fault qm (by decide) (by decide),(hT.mono fun v l hv=>hv.set (by omega) _).mark 13 (by decide) (by decide) (by decide)⟩
 ·obtain⟨hJ,_⟩:=hJ;have hM1:=hJ.m1 (hM 11 (by decide) rfl);obtain⟨v9,hC,hK9⟩:=hJ.c1 (hM 12 (by decide) rfl);have hF:=hJ.f1 (hM 13 (by decide) rfl);have hb9:=hJ.bel;have hsz9:=hb9.size;have hb1:=hJ.b1;have hb0:=hJ.b0;simp only[kn,td,nk,dX,aP,aW,Act.put,aA,aI,aH];clear hM hJ;go_wp2_with fail;exact vf (w.heap.size+3) k.m (fI l (n:Int)++[k]) runs 0 0 v9 rfl rfl rfl rfl hM1 hC hF (hK9.low (by omega)) hb9
theorem I1 {cs:List Cd}{rule day:Int}(h:(iL cs rule day).1=0):(iL cs rule day).2=0:=by
 unfold iL at h⊢;by_cases h1:(jt cs).1≠0
 ·rw[ay h1]at h;exact absurd h h1
 ·rw[au h1]at h⊢;split
  ·rfl
  ·split<;>rfl
end
end Go.Proofs.YtkfidffapdhbhaaGreatDoor
