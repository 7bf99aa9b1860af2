/- Texts of the proof. -/
import Derived.Test.YtkfidffapdhbhaaGreatDoorPh08
import Derived.Lib.AppendZeros
set_option maxRecDepth 100000
set_option maxHeartbeats 8000000
namespace Go.Proofs.YtkfidffapdhbhaaGreatDoor
open Go.Proofs.Tryz Go.RowKit Lx Vx Mx Msk
namespace Vx
structure Kp where
 r:Int
 d:Int
 v:Int
 m:M
def k0:Kp:=⟨0,0,0,noM⟩
def gI (r d:Int):List Kp->Nat->Int
 |[],_=> -1
 |k::l,j=>if k.r=r/\k.d=d then(j:Int) else gI r d l (j+1)
theorem G6 {r d:Int}{l:List Kp}{j:Nat}{k:Kp}(h:l[j]? =some k)(i:Nat):gI r d (l.drop j) i=if k.r=r/\k.d=d then(i:Int) else gI r d (l.drop (j+1)) (i+1):=by
 have hj:=(aF.1 h).1
 have e:l.drop j=k::l.drop (j+1):=by
  rw[bv hj];congr 1;exact(aF.1 h).2
 rw[e];rfl
theorem rQ (r d:Int): ∀(l:List Kp) (j:Nat),gI r d l j= -1\/((j:Int)<=gI r d l j/\gI r d l j<(j:Int)+l.length)
 |[],_=> .inl rfl
 |k::l,j=>by
  unfold gI;by_cases h:k.r=r/\k.d=d
  ·rw[aD h];refine .inr ⟨gX _,?_⟩;rw[bJ];omega
  ·rw[ax h];rcases rQ r d l (j+1) with h1|⟨h1,h2⟩
   ·exact .inl h1
   ·refine .inr ⟨by omega,?_⟩;rw[bJ];omega
def fY (l:List Kp)(i:Int):List Kp:=if 0<=i then l.take i.toNat++l.drop (i.toNat+1) else l
def sw (l:List Kp):List Kp:=l.drop (l.length-64)
def mX (l:List Kp)(v r d:Int):Bool:=decide (0<=gI r d l 0)&&decide ((l.getD (gI r d l 0).toNat k0).v=v)
theorem E0 {l:List Kp}{i:Int}(h:i<l.length):(fY l i).length<=l.length:=by
 unfold fY;split
 ·simp;omega
 ·exact aB _
theorem CQ {l:List Kp}{i:Int}(h0:0<=i)(h:i<l.length):(fY l i).length+1=l.length:=by
 unfold fY;rw[aD h0];simp;omega
def al8:List Cd:=[⟨[⟨1,0,0,0,[(5,9)]⟩,⟨1,0,0,0,[(7,12)]⟩,⟨2,0,0,0,[]⟩],2,3⟩]
def al9:List Cd:=[⟨[⟨1,0,0,0,[(5,9)]⟩],1,1⟩]
section
variable {wk:Int->Bool} {day:Int} {cs:List Cd} {l:List In}
structure Fr where
 r:Nat
 k:Nat
 S:List M
section
variable (wk:Int->Bool) (day:Int) (cs:List Cd)
end
end
section
variable {wk:Int->Bool} {day:Int} {cs:List Cd} {l:List In}
abbrev Nv (cs:List Cd)(r:Nat):List In:=(cs.getD r cd0).ins
theorem mq.at (hR:mq cs){r:Nat}(hr:r<cs.length): ∃c,cs[r]? =some c/\Nv cs r=c.ins/\lZ c.ins/\(∀(j:Nat) (x:In),c.ins[j]? =some x->fP x j c.ins.length cs.length=0)/\c.ins.length<=2000:=by
 have hu:cs[r]? =some cs[r]:=az hr;have ha:=jx (hR.alone r _ hu);exact⟨cs[r],hu,by unfold Nv;rw[je hu],(hR.fit r _ hu).well,ha.2.2,ha.1.2⟩
end
end Vx
section
section
variable {wd:World} {gb:Nat} {X:Array Value} {L:Nat->Bool} {W:World}
end
section
variable {w0 W W':World} {F:List Fr} {S:List M} {sv fv:Value} {gb:Nat} {X:Array Value}
theorem E1 {w0 W W':World}{row:Option Nat}(hb:aq w0 W)(hg:W.grownBy W' row)(hr: ∀k,row=some k->w0.heap.size<=k):aq w0 W':=
 ⟨hg.os.trans hb.os,hg.tape.trans hb.tape,hg.output.trans hb.output,bf hb.size hg.size,fun q hq=>(hg.block q (aT hq hb.size) fun e=>by have:=hr q e.symm;omega).trans (hb.block q hq)⟩
end
end
section
section
variable {vals:List Value} {base n:Nat} {xs:List Value} {f:M} {L L':Nat->Bool} {W W' W1:World} {row:Option Nat}
end
theorem ly {w w':World}{g o:Nat}{xs:List Value}(h:w.rangeAt g o xs)(hb:aq w w'):w'.rangeAt g o xs:=fun j v hj=>by
 have hc:=h j v hj;exact aj hb hc
theorem JK {op:Oper}{a:Act}{w:World}{K:Act->World->Prop}{Q:Exit->Act->World->Prop}(x:Operand)(ho:op.op= .load 86 x)(b o:Nat)(hx:a.eval x=ab b o)(f:M)(hc:w.rangeAt b o (mv f).toList)(h:K (a.put op.dst (.agg (mv f))) w):op.wp prog a w K Q:=by
 refine wp_load_mid 86 x ho b o hx (mv f).toList _ hc bV rfl (by rw[rO];kernel_rfl) ?_;simpa using h
end
def kv (k:Kp):Array Value:= #[ag k.r,ag k.d,ag k.v]++mv k.m
theorem pT (k:Kp):(kv k).size=26:=by simp[kv,bO]
theorem DD (k:Kp):(kv k).toList.length=26:=by rw[bQ];exact pT k
theorem BF (k:Kp):(kv k).all (·.oneCell')=true:=by
 unfold kv;rw[Array.all_append,dR];simp[Value.oneCell']
theorem Pl (k:Kp):(kv k)[0]? =some (ag k.r):=by
 unfold kv;rw[Array.getElem?_append_left (by simp)];rfl
theorem Pm (k:Kp):(kv k)[1]? =some (ag k.d):=by
 unfold kv;rw[Array.getElem?_append_left (by simp)];rfl
theorem JL (k:Kp):(kv k)[2]? =some (ag k.v):=by
 unfold kv;rw[Array.getElem?_append_left (by simp)];rfl
theorem LT (k:Kp): ∀u∈(kv k).toList,u.oneCell'=true:=by
 intro u hu;have:=BF k;rw[Array.all_eq_true_iff_forall_mem]at this;exact this u (Array.mem_def.2 hu)
theorem qv:prog.underlying 186=some (.struct (prog.fieldsOf 186)):=by kernel_rfl
theorem ol (k:Kp):(prog.info? 186).map (·.size)=some (kv k).size:=by rw[pT];kernel_rfl
theorem G7 (k:Kp):(prog.info? 186).map (·.size)=some (kv k).toList.length:=by rw[DD];kernel_rfl
def iK (l:List Kp):List Value:=l.flatMap fun k=>(kv k).toList
theorem lR (l l':List Kp):iK (l++l')=iK l++iK l':=by unfold iK;rw[fw]
theorem zp (k:Kp):iK [k]=(kv k).toList:=by simp[iK]
theorem o5: ∀l:List Kp,(iK l).length=l.length*26
 |[]=>rfl
 |k::l=>by
  have h:=o5 l;have e:iK (k::l)=(kv k).toList++iK l:=rfl;rw[e,aP,h,DD,bJ];omega
theorem G8: ∀(l:List Kp),∀u∈iK l,u.oneCell'=true:=fun l u hu=>by
 unfold iK at hu;rw[List.mem_flatMap]at hu;obtain⟨k,_,h⟩:=hu;exact LT k u h
theorem xq {w:World}{g o:Nat}{xs ys:List Value}(h:w.rangeAt g o (xs++ys)):w.rangeAt g o xs:=fun j v hj=>
 h j v (by rw[du (aF.1 hj).1];exact hj)
theorem vh {w:World}{g o:Nat}{xs ys:List Value}(h:w.rangeAt g o (xs++ys)):w.rangeAt g (o+xs.length) ys:=fun j v hj=>by
 have:=h (xs.length+j) v (by rw[dh (by omega),Nat.add_sub_cancel_left];exact hj);rw[<-Nat.add_assoc]at this;exact this
def ef (B:Nat)(w:World)(v:Value)(l:List Kp):Prop:= ∃p c,v= .slice p l.length c/\l.length<=c/\c<=maxLen/\(l≠[]-> ∃g o,p=some ⟨g,o,none⟩/\B<=g/\w.rangeAt g o (iK l))
theorem ef.later {B:Nat}{w w':World}{v:Value}{l:List Kp}(h:ef B w v l)(hb:aq w w'):ef B w' v l:=by
 obtain⟨p,c,e,h1,h2,h3⟩:=h;refine⟨p,c,e,h1,h2,fun hn=> ?_⟩;obtain⟨g,o,hp,hB,hr⟩:=h3 hn;exact⟨g,o,hp,hB,ly hr hb⟩
theorem ef.low {B B':Nat}{w:World}{v:Value}{l:List Kp}(h:ef B w v l)(hb:B'<=B):ef B' w v l:=by
 obtain⟨p,c,e,h1,h2,h3⟩:=h;refine⟨p,c,e,h1,h2,fun hn=> ?_⟩;obtain⟨g,o,hp,hB,hr⟩:=h3 hn;exact⟨g,o,hp,bf hb hB,hr⟩
theorem JM {w:World}{g o:Nat}{l:List Kp}(h:w.rangeAt g o (iK l)){j:Nat}{k:Kp}(hj:l[j]? =some k):w.rangeAt g (o+j*26) (kv k).toList:=by
 have hjl:=(aF.1 hj).1
 have e:l=l.take j++([k]++l.drop (j+1)):=by
  conv=>lhs;rw[<-gL j l]
  congr 1;rw[bv hjl,(aF.1 hj).2];rfl
 rw[e,lR,lR,zp]at h;have h1:=xq (vh h);rw[o5,eD,fj (by omega)]at h1;exact h1
theorem ef.at {B:Nat}{w:World}{p:Option Addr}{n c:Nat}{l:List Kp}(h:ef B w (.slice p n c) l){j:Nat}{k:Kp}(hj:l[j]? =some k): ∃g o,p=some ⟨g,o,none⟩/\w.rangeAt g (o+j*26) (kv k).toList:=by
 obtain⟨p',c',e,_,_,h3⟩:=h;injection e with e1 _ _;subst e1;obtain⟨g,o,hp,_,hr⟩:=h3 (by rintro rfl;simp at hj);exact⟨g,o,hp,JM hr hj⟩
theorem tD {ops:Array Oper}{rest:List Oper}{op:Oper}{a:Act}{w:World}{Q:Exit->Act->World->Prop}(hgd:op.guard=none)(x:Operand)(ho:op.op= .load 186 x)(b o:Nat)(hx:a.eval x=ab b o)(k:Kp)(hc:w.rangeAt b o (kv k).toList)
  (h:wpList prog ops Q rest (a.put op.dst (.agg (kv k))) w):wpList prog ops Q (op::rest) a w:=by
 refine wpList_load_mid hgd 186 x ho b o hx (kv k).toList _ hc qv rfl (G7 k) ?_;simpa using h
theorem JN (k:Kp)(g8 g9:Nat)(rule day:Int)(w:World)(h8:w.heap[g8]? =ah #[ag rule] 3)(h9:w.heap[g9]? =ah #[ag day] 3):
  Calls prog 101 #[.agg (kv k),ab g8 0,ab g9 0] w fun e w'=>e= .returned (.bool (decide (k.r=rule/\k.d=day)))/\aq w w':=by
 have bA:=am w (.cells (kv k) 186);have nA:=aE w (.cells (kv k) 186);have z8:=(aZ _ _ 0 _ _ _ (ai bA h8)).trans rfl;have z9:=(aZ _ _ 0 _ _ _ (ai bA h9)).trans rfl;have y0:=(aZ _ _ 0 _ _ _ nA).trans (Pl k);have y1:=(aZ _ _ 1 _ _ _ nA).trans (Pm k);generalize hwA:w.alloc (.cells (kv k) 186)=wA at*;obtain⟨r,d,v,m⟩:=k;dsimp only at*;by_cases hr:r=rule
 ·by_cases hd:d=day
  ·rw[bm (⟨hr,hd⟩:r=rule/\d=day)];have e1:(r==rule)=true:=(by simp[hr]);have e2:(d==day)=true:=(by simp[hd]);clear hr hd h8 h9 nA;go_enter func101,ntmps101;go_wp2_with fail;go_ret;exact⟨rfl,bA⟩
  ·rw[bn (fun e:r=rule/\d=day=>hd e.2)];have e1:(r==rule)=true:=(by simp[hr]);have e2:(d==day)=false:=(by simp[hd]);clear hr hd h8 h9 nA;go_enter func101,ntmps101;go_wp2_with fail;go_ret;exact⟨rfl,bA⟩
 ·rw[bn (fun e:r=rule/\d=day=>hr e.1)];have e1:(r==rule)=false:=(by simp[hr]);clear hr h8 h9 nA;go_enter func101,ntmps101;go_wp2_with fail;go_ret;exact⟨rfl,bA⟩
theorem tE (l:List Kp)(v:Value)(g8 g9:Nat)(rule day:Int)(w:World)(h:ef 0 w v l)(h8:w.heap[g8]? =ah #[ag rule] 3)(h9:w.heap[g9]? =ah #[ag day] 3):
  Calls prog 100 #[v,.func (.func 101) #[] #[ab g8 0,ab g9 0]] w fun e w'=>e= .returned (ag (gI rule day l 0))/\aq w w':=by
 have HK:=a8 h;obtain⟨p,c,rfl,hlc,hcm,_⟩:=h;have hlm:l.length<9223372036854775808:=by unfold maxLen at hcm;omega
 clear hlc hcm;go_enter func100,ntmps100;go_wp2_with fail;go_loopw [5,8] (fun _ t wr=> ∃j:Nat,t=ag (j:Int)/\j<=l.length/\gI rule day l 0=gI rule day (l.drop j) j/\aq w wr) (fun _ t _=>l.length-(intOf t).toNat);case atStart=>exact⟨0,rfl,by omega,rfl,aI _ _⟩
 case round=>
  obtain⟨j,rfl,hj,hX,hb⟩:=hrel;have hj0:(0:Int)<=(j:Int):=(by omega);by_cases hlt:j<l.length
  ·have hlt':(j:Int)<(l.length:Int):=(by omega);obtain⟨k,hjk⟩: ∃p,l[j]? =some p:=⟨l[j],az hlt⟩
   rw[G6 hjk]at hX;obtain⟨g,o,hpe,hr⟩:=HK.o.at hjk;subst hpe;have hr2:=ly hr hb;have c1:=JN k g8 g9 rule day wr (ai hb h8) (ai hb h9);clear hr hjk;go_wp2_with(refine tD rfl _ rfl g (o+j*26) rfl k hr2 ?_)
   refine c1.mono ?_;rintro e w1 ⟨rfl,b1⟩;have hb1:=aw hb b1;clear c1 b1 hr2 hb;by_cases hm:k.r=rule/\k.d=day
   ·rw[aD hm]at hX;have HX:=a8 hX;rw[bm hm];clear hX hm;go_wp2_with fail;go_ret;exact⟨by(rw[HX.o])<;>rfl,hb1⟩
   ·rw[ax hm]at hX;have HX:=a8 hX;rw[bn hm];clear hX hm;go_wp2_with fail;go_roundw;case rel=>exact⟨j+1,by go_num,by omega,HX.o,hb1⟩
    case measure=>simp[intOf];omega
  ·have hlt': ¬(j:Int)<(l.length:Int):=(by omega)
   have HX:PH (gI rule day l 0= -1):=by
    show _=_;rw[hX,df (by omega)];rfl
   clear hX;go_wp2_with fail;go_ret;exact⟨by(rw[HX.o])<;>rfl,hb⟩
section
theorem vP:(prog.info? 186).map (fun i=>(i.zero,i.size,i.bytes))=some (some (.agg (kv ⟨0,0,0,fun _=>false⟩)),26,208):=by kernel_rfl
theorem tF:prog.underlying 51=some (.slice 186):=by kernel_rfl
theorem mY {w:World}{base n:Nat}{sv:Value}{xs:List Value}(h:w.ownsRow base 186 26 sv n xs): ∃p c,sv= .slice p n c/\n<=c:=by
 rcases h.2 with⟨e,e2⟩|⟨b,cap,cur,e,_,_,hn,_⟩
 ·exact⟨none,0,by rw[e,e2],by omega⟩
 ·exact⟨_,cap,e,hn⟩
theorem ef.of_own {w:World}{base:Nat}{v:Value}{l:List Kp}(h:w.ownsRow base 186 26 v l.length (iK l)):ef base w v l:=by
 rcases h.2 with⟨e,e2⟩|⟨g,cap,cur,e,hb,hg,hn,hc,hs,hx⟩
 ·exact⟨none,0,by rw[e,e2],by omega,by unfold maxLen;omega,fun q=>absurd (ie.1 e2) q⟩
 ·refine⟨_,cap,e,hn,hc,fun _=>⟨g,0,rfl,hb,fun j u hj=> ?_⟩⟩
  have hjl:j<l.length*26:=by
   have:=(aF.1 hj).1;rwa[o5]at this
  refine(aZ _ _ _ _ _ _ hg).trans ?_;rw[<-hx,dI hjl,bp]at hj;rw[bN];exact hj
theorem xr (w:World)(ty:TypeId)(base p:Option Addr)(n cap c:Nat)(hle:n<=cap):(Builtin.append_ #[51,51] ty #[.slice base n cap,.slice p 0 c]).run prog w= .ok (.slice base n cap) w:=by
 obtain⟨i0,hi,hz0,hz1,hz2⟩:=jp vP;cases base<;>cases p<;>simp[Builtin.append_,fT tF,sizeOf,typeInfo,hi,hle,Builtin.lenOf,Builtin.firstCells,storeCells,loadCells,loadCellsFrom]
section
variable {ops:Array Oper} {rest:List Oper} {op:Oper} {a:Act} {w:World} {Q:Exit->Act->World->Prop}
theorem yB (hgd:op.guard=none)(s x:Operand)(ho:op.op= .call {callee:= .builtin .append,args:= #[s,x],argTypes:= #[51,51]})(base:Nat)(S l:List Kp)(v vx:Value)(hs:a.eval s=v)(hown:w.ownsRow base 186 26 v S.length (iK S))(hx:a.eval x=vx)(hk:ef 0 w vx l)(hS:S.length+l.length<=676622540160)(hb:base<=w.heap.size)
  (h: ∀v' w',w'.ownsRow base 186 26 v' (S++l).length (iK (S++l))->w.grownBy w' v.ownBlock->wpList prog ops Q rest (a.put op.dst v') w'):wpList prog ops Q (op::rest) a w:=by
 obtain⟨p,c,e,hlc,hcm,hr⟩:=hk;subst e;by_cases hl:l=[]
 ·subst hl;obtain⟨p1,c1,e1,hn1⟩:=mY hown;subst e1;rw[ik]at h;refine Go.Lib.wpList_append_run w hgd s x _ _ ho _ _ hs hx _ _ (xr w _ p1 p _ c1 c hn1) (h _ _ hown ⟨rfl,rfl,rfl,aB _,fun _ _ _=>rfl⟩)
 ·obtain⟨g,o,hp,_,hrg⟩:=hr hl;subst hp;obtain⟨i0,hi,hz0,hz1,hz2⟩:=jp vP;refine iZ (w:=w) hgd s x 51 ho base 186 i0 _ 26 208 tF hi hz0 hz1 hz2 (by exact pT _) (by decide) v S.length (iK S) hs hown ⟨g,o,none⟩ l.length c (iK l) hx (o5 l) ?_ (G8 l) (by unfold maxLen;omega) (by omega) hb fun v' w' h1 h2 _=> ?_
  ·intro q u hq;rw[uH];exact hrg q u hq
  ·refine h v' w' ?_ h2;rw[aP,lR];exact h1
end
theorem OI (n:Nat)(w:World)(h0:0<n)(h1:n<=676622540160):
  Calls prog 149 #[af,ag (n:Int)] w fun e w'=> ∃v,e= .returned v/\w'.ownsRow w.heap.size 186 26 v 0 []/\aq w w':=by
 obtain⟨i0,hi,hz0,hz1,hz2⟩:=jp vP;have hrun:=fun ty=>Go.Lib.run_append_nil_zeros (P:=prog) w 51 3 ty 186 i0 _ .i64 .i64 tF (by kernel_rfl) hi hz0 n h0 (by omega) (by omega) (by rw[hz2];omega);have hge:=grownCap_ge w n 0 186;have hle:=grownCap_le_maxLen w n 0 186 (by unfold maxLen;omega)
 have hsz:(Builtin.zeroCells (Value.agg (kv ⟨0,0,0,fun _=>false⟩)).cells n++Builtin.zeroCells (Value.agg (kv ⟨0,0,0,fun _=>false⟩)).cells (grownCap w n 0 186-n)).size=grownCap w n 0 186*26:=by
  rw[Array.size_append,size_zeroCells,size_zeroCells];have e:(Value.agg (kv ⟨0,0,0,fun _=>false⟩)).cells.size=26:=pT _;rw[e];omega
 have HN:PH ((w.drew.alloc (.cells (Builtin.zeroCells (Value.agg (kv ⟨0,0,0,fun _=>false⟩)).cells n++Builtin.zeroCells (Value.agg (kv ⟨0,0,0,fun _=>false⟩)).cells (grownCap w n 0 186-n)) 186)).ownsRow w.heap.size 186 26 (.slice (some (ae w.heap.size 0)) 0 (grownCap w n 0 186)) 0 []):=
  ⟨rfl,.inr ⟨w.heap.size,_,_,rfl,aB _,aE _ _,dM _,hle,hsz,by simp⟩⟩
 have hb:aq w (w.drew.alloc (.cells (Builtin.zeroCells (Value.agg (kv ⟨0,0,0,fun _=>false⟩)).cells n++Builtin.zeroCells (Value.agg (kv ⟨0,0,0,fun _=>false⟩)).cells (grownCap w n 0 186-n)) 186)):=(aI _ _).drew.alloc (aB _) _;generalize w.drew.alloc (.cells (Builtin.zeroCells (Value.agg (kv ⟨0,0,0,fun _=>false⟩)).cells n++Builtin.zeroCells (Value.agg (kv ⟨0,0,0,fun _=>false⟩)).cells (grownCap w n 0 186-n)) 186)=w1 at*;generalize grownCap w n 0 186=cap at*;have hn0:(0:Int)<(n:Int):=by omega
 have hn1:(n:Int)<=676622540160:=by omega
 have hcap:cap<=9223372036854775807:=by unfold maxLen at hle;omega
 clear hsz hle;go_enter func149,ntmps149;go_wp2_with(refine Go.Lib.wpList_append_run w rfl _ _ _ _ rfl _ _ rfl rfl _ _ (hrun _) ?_)
 go_ret;exact⟨_,rfl,HN.o,hb⟩
def iC (ps:List (Value×List Kp))(j:Nat):List Kp:=(ps.take j).flatMap fun p=>p.2
theorem zu {ps:List (Value×List Kp)}{j:Nat}{p:Value×List Kp}(h:ps[j]? =some p):iC ps (j+1)=iC ps j++p.2:=by
 unfold iC;rw[fD,h,fw];simp
theorem LU (ps:List (Value×List Kp))(j:Nat):(iC ps j).length<=(iC ps ps.length).length:=by
 unfold iC;rw[gd];conv=>rhs;rw[<-gL j ps]
 rw[fw,aP];omega
theorem xu (ps:List (Value×List Kp))(gP oP cP:Nat)(w:World)(hP: ∀(j:Nat) (p:Value×List Kp),ps[j]? =some p->w.cell? (ae gP (oP+j))=some p.1/\ef 0 w p.1 p.2)(hps:ps.length<=1000)(h0:0<(iC ps ps.length).length)(h1:(iC ps ps.length).length<=676622540160):
  Calls prog 129 #[.slice (some (ae gP oP)) ps.length cP] w fun e w'=> ∃v,e= .returned v/\w'.ownsRow w.heap.size 186 26 v (iC ps ps.length).length (iK (iC ps ps.length))/\aq w w':=by
 have HP:=a8 hP;have hmax:=fun j=>LU ps j;clear hP;go_enter func129,ntmps129;go_wp2_with fail;go_loopw [3,5,11] (fun s _ t wr=> ∃j:Nat,s=ag ((iC ps j).length:Int)/\t=ag (j:Int)/\j<=ps.length/\wr=w) (fun _ _ t _=>ps.length-(intOf t).toNat);case atStart=>exact⟨0,rfl,rfl,by omega,rfl⟩
 case round=>
  obtain⟨j,rfl,rfl,hj,hwr⟩:=hrel;replace hwr:=hwr.symm;subst hwr;have hj0:(0:Int)<=(j:Int):=(by omega);by_cases hlt:j<ps.length
  ·have hlt':(j:Int)<(ps.length:Int):=(by omega);obtain⟨p,hjp⟩: ∃p,ps[j]? =some p:=⟨ps[j],az hlt⟩
   obtain⟨hc,hk⟩:=HP.o j p hjp;have e:=zu hjp;have m1:=hmax (j+1);rw[e,aP]at m1;obtain⟨vp,lp⟩:=p;obtain⟨pp,cp,hve,_,_,_⟩:=hk;dsimp only at hc hve e m1;subst hve;have HE:PH ((iC ps j).length+lp.length=(iC ps (j+1)).length):=(by show _=_;rw[e,aP]);clear e hjp;have hs1:((iC ps j).length:Int)+(lp.length:Int)<=676622540160:=(by omega);have hs0:(0:Int)<=((iC ps j).length:Int)+(lp.length:Int):=(by omega);generalize (iC ps j).length=sj at*;generalize lp.length=nj at*;clear m1 hmax;go_wp2_with fail;go_roundw;case rel=>exact⟨j+1,by(rw[<-HE.o])<;>go_num,by go_num,by omega,trivial⟩
   case measure=>simp[intOf];omega
  ·have hlt': ¬(j:Int)<(ps.length:Int):=(by omega);have ej:j=ps.length:=(by omega);subst ej;have c1:=OI (iC ps ps.length).length w h0 h1;go_wp2_with fail;refine c1.mono ?_;rintro e w1 ⟨v1,rfl,own1,b1⟩;obtain⟨p1,q1,rfl,_⟩:=mY own1;clear c1;go_wp2_with fail;go_loopw [6,8,27] (fun s _ t wr=> ∃j:Nat,t=ag (j:Int)/\j<=ps.length/\wr.ownsRow w.heap.size 186 26 s (iC ps j).length (iK (iC ps j))/\aq w wr) (fun _ _ t _=>ps.length-(intOf t).toNat);case atStart=>exact⟨0,rfl,by omega,own1,b1⟩
   case round=>
    obtain⟨j,rfl,hj,own2,b2⟩:=hrel;have hj0:(0:Int)<=(j:Int):=(by omega);obtain⟨p2,q2,rfl,_⟩:=mY own2;by_cases hlt:j<ps.length
    ·have hlt':(j:Int)<(ps.length:Int):=(by omega);obtain⟨p,hjp⟩: ∃p,ps[j]? =some p:=⟨ps[j],az hlt⟩
     obtain⟨hc,hk⟩:=HP.o j p hjp;have e:=zu hjp;have m1:=hmax (j+1);rw[e,aP]at m1;have hk2:=hk.later b2;have hc2:=aj b2 hc;have hbase:=b2.size;have hm2:(iC ps j).length+p.2.length<=676622540160:=(by omega);obtain⟨vp,lp⟩:=p;dsimp only at hc2 hk2 e hm2;have HE:=a8 e;have HK2:=a8 hk2;have HO2:=a8 own2;have HB2:=a8 b2;clear e hjp hk hc own1 b1 m1 hk2 own2 b2 hmax
     go_wp2_with(refine yB rfl _ _ rfl w.heap.size (iC ps j) lp _ vp rfl HO2.o rfl HK2.o hm2 hbase ?_
                 intro v9 w9 hv9 hg9
                 rw[<-HE.o]at hv9
                 have hb9:aq w w9:=E1 HB2.o hg9 fun k hk=>(HO2.o.lt k hk).1
                 have HO9:=a8 hv9
                 clear HO2 HK2 HB2 HE hv9 hg9)
     go_roundw;case rel=>exact⟨j+1,by go_num,by omega,HO9.o,hb9⟩
     case measure=>simp[intOf];omega
    ·have hlt': ¬(j:Int)<(ps.length:Int):=(by omega);have ej:j=ps.length:=(by omega);subst ej;clear own1 b1;go_wp2_with fail;go_ret;exact⟨_,rfl,own2,b2⟩
end
theorem Nw (k:Kp)(W:World):(Instr.buildSlice 51 1 #[(0,.agg (kv k))]).run prog W= .ok (.slice (some (ae W.heap.size 0)) 1 1) (W.alloc (.cells (kv k) 186)):=by
 kernel_rfl
theorem sV {ops:Array Oper}{rest:List Oper}{op:Oper}{a:Act}{w:World}{Q:Exit->Act->World->Prop}(hgd:op.guard=none)(x:Operand)(ho:op.op= .buildSlice 51 1 #[(0,x)])(k:Kp)(hx:a.eval x= .agg (kv k))
  (h:wpList prog ops Q rest (a.put op.dst (.slice (some (ae w.heap.size 0)) 1 1)) (w.alloc (.cells (kv k) 186))):wpList prog ops Q (op::rest) a w:=
 wpList_plain hgd fun _ hK=>by
  unfold Oper.wp execOp;have hb:=Nw k w;simp only[ho,hx,iB,dH,ff,ju,jU,gF,hb];exact hK _ _ h
theorem ef.take {B:Nat}{w:World}{p:Option Addr}{n c:Nat}{l:List Kp}(h:ef B w (.slice p n c) l)(j:Nat)(hj:j<=l.length):ef B w (.slice p j c) (l.take j):=by
 obtain⟨p',c',e,h1,h2,h3⟩:=h;injection e with e1 e2 e3;subst e1 e3;refine⟨p,c,by rw[eD,fj hj],by rw[eD];omega,h2,fun hn=> ?_⟩;obtain⟨g,o,hp,hB,hr⟩:=h3 (by rintro rfl;simp at hn);refine⟨g,o,hp,hB,?_⟩;rw[<-gL j l,lR]at hr;exact xq hr
theorem ef.drop {B:Nat}{w:World}{p:Option Addr}{n c:Nat}{l:List Kp}(h:ef B w (.slice p n c) l)(j:Nat)(hj:j<=l.length):ef B w (.slice (if c=j then p else Option.map (fun x=>x.add (j*26)) p) (l.length-j) (c-j)) (l.drop j):=by
 obtain⟨p',c',e,h1,h2,h3⟩:=h;injection e with e1 e2 e3;subst e1 e3;refine⟨_,c-j,by rw[fo],by rw[fo];omega,by omega,fun hn=> ?_⟩
 have hjl:j<l.length:=by
  rcases Nat.lt_or_ge j l.length with q|q
  ·exact q
  ·exact absurd (df q) hn
 obtain⟨g,o,hp,hB,hr⟩:=h3 (by rintro rfl;simp at hn);subst hp;refine⟨g,o+j*26,?_,hB,?_⟩
 ·rw[ax (by omega)];show some ((⟨g,o,none⟩:Addr).add (j*26))=_;rw[uH]
 ·rw[<-gL j l,lR]at hr;have:=vh hr;rwa[o5,eD,fj hj]at this
theorem ef.one {w:World}{g:Nat}{k:Kp}(h:w.heap[g]? =ah (kv k) 186):ef 0 w (.slice (some (ae g 0)) 1 1) [k]:=
 ⟨_,1,rfl,by simp,by unfold maxLen;omega,fun _=>⟨g,0,rfl,dM _,fun j u hj=>by
   rw[zp]at hj;refine(aZ _ _ _ _ _ _ h).trans ?_;rw[bN,<-bp];exact hj⟩⟩
theorem BG {w:World}{b b':Nat}{e:TypeId}{size n:Nat}{v:Value}{xs:List Value}(h:w.ownsRow b' e size v n xs)(hb:b<=b'):w.ownsRow b e size v n xs:=by
 obtain⟨h1,h2⟩:=h;rcases h2 with h2|⟨g,cap,cur,e,q,r⟩
 ·exact⟨h1,.inl h2⟩
 ·exact⟨h1,.inr ⟨g,cap,cur,e,bf hb q,r⟩⟩
theorem ef.none (B:Nat)(w:World)(p:Option Addr)(c:Nat)(hc:c<=maxLen):ef B w (.slice p 0 c) []:=⟨p,c,rfl,by simp,hc,fun h=>absurd rfl h⟩
theorem BH (l:List Kp)(v:Value)(i:Int)(hi:i<0)(k:Kp)(w:World)(h:ef 0 w v l)(hl:l.length<=676622540150):
  Calls prog 102 #[v,ag (i:Int),.agg (kv k)] w fun e w'=> ∃v',e= .returned v'/\w'.ownsRow w.heap.size 186 26 v' (l++[k]).length (iK (l++[k]))/\aq w w':=by
 obtain⟨R,hR⟩:=au (l++[k]);rw[hR];have bA:=am w (.cells (kv k) 186);have nA:=aE w (.cells (kv k) 186);have hk1:=h.later bA;obtain⟨p,c,rfl,hlc,hcm,_⟩:=h;have hl0:(0:Int)<=(l.length:Int):=by omega
 have hl1:(l.length:Int)<=676622540150:=by omega
 have hcm':c<=9223372036854775807:=by unfold maxLen at hcm;omega
 generalize hwA:w.alloc (.cells (kv k) 186)=wA at*;have HR1:PH (ef 0 wA (.slice p l.length c) l):=hk1;have HR2:PH (ef 0 wA (.slice (if c=l.length then p else Option.map (fun x=>x.add (l.length*26)) p) 0 (c-l.length)) []):=ef.none _ _ _ _ (by omega);have HK:=a8 hk1;have HA:=a8 bA;go_enter func102,ntmps102;go_wp2_with fail;go_quiet (fail);generalize (if c=l.length then p else Option.map (fun x=>x.add (l.length*26)) p)=q8 at*;have bD:aq wA (wA.drewN nq):=dB (aI _ _) nq;obtain⟨wD,hwD⟩:=au (wA.drewN nq);rw[hwD]at bD;rw[hwD];have nA2:wD.heap[w.heap.size]? =ah (kv k) 186:=ai bD nA;have bB:=am wD (.cells (kv k) 186);have nB:=aE wD (.cells (kv k) 186);generalize hwB:wD.alloc (.cells (kv k) 186)=wB at*;have bC:=am wB (.cells #[.slice p l.length c,.slice q8 0 (c-l.length),.slice (some (ae wD.heap.size 0)) 1 1] 51);have nC:=aE wB (.cells #[.slice p l.length c,.slice q8 0 (c-l.length),.slice (some (ae wD.heap.size 0)) 1 1] 51);have bAC:=bD.trans ((aw bB bC).mono bD.size);have nBC:=ai bC nB;have r1:ef 0 wA (.slice p l.length c) (l):=HR1.o;have r2:ef 0 wA (.slice q8 0 (c-l.length)) ([]):=HR2.o;have q1:=r1.later bAC;have q2:=r2.later bAC;have q3:=ef.one nBC;have hbb:=aw HA.o bAC;generalize hwC:wB.alloc (.cells #[.slice p l.length c,.slice q8 0 (c-l.length),.slice (some (ae wD.heap.size 0)) 1 1] 51)=wC at*
 have c1:=xu [(.slice p l.length c,l),(.slice q8 0 (c-l.length),[]),(.slice (some (ae wD.heap.size 0)) 1 1,[k])] wB.heap.size 0 3 wC (fun j pr hj=>by
  match j,hj with
  |0,hj=>cases hj;exact⟨(aZ _ _ _ _ _ _ nC).trans rfl,q1⟩
  |1,hj=>cases hj;exact⟨(aZ _ _ _ _ _ _ nC).trans rfl,q2⟩
  |2,hj=>cases hj;exact⟨(aZ _ _ _ _ _ _ nC).trans rfl,q3⟩
  |j+3,hj=>simp at hj) (by simp) (by first|(simp[iC];done)|(simp[iC];omega)) (by simp[iC];omega)
 have ec:iC [(.slice p l.length c,l),(.slice q8 0 (c-l.length),[]),(.slice (some (ae wD.heap.size 0)) 1 1,[k])] 3=R:=by
  rw[<-hR];simp[iC]
 have c2:Calls prog 129 #[.slice (some (ae wB.heap.size 0)) 3 3] wC fun e w'=> ∃v,e= .returned v/\w'.ownsRow wC.heap.size 186 26 v R.length (iK R)/\aq wC w':=by
  have:=c1;simp only[bJ,gJ,bN,Nat.reduceAdd,ec]at this;exact this
 go_wp2_with(first
  |(refine aQ rfl 186 _ rfl _ rfl _ _ _ _ nA2 qv rfl (ol k) ?_)
  |(refine sV rfl _ rfl k rfl ?_))
 refine c2.mono ?_;rintro e w9 ⟨v9,rfl,own9,b9⟩;have own9':=BG own9 hbb.size;have hb9:=aw hbb b9;obtain⟨p9,c9,rfl,_⟩:=mY own9;go_wp2_with fail;go_ret;exact⟨_,rfl,own9',hb9⟩
theorem E2 (l:List Kp)(v:Value)(i:Nat)(hi:i<l.length)(k:Kp)(w:World)(h:ef 0 w v l)(hl:l.length<=676622540150):
  Calls prog 102 #[v,ag (i:Int),.agg (kv k)] w fun e w'=> ∃v',e= .returned v'/\w'.ownsRow w.heap.size 186 26 v' ((l.take i++l.drop (i+1))++[k]).length (iK ((l.take i++l.drop (i+1))++[k]))/\aq w w':=by
 obtain⟨R,hR⟩:=au ((l.take i++l.drop (i+1))++[k]);rw[hR];have bA:=am w (.cells (kv k) 186);have nA:=aE w (.cells (kv k) 186);have hk1:=h.later bA;obtain⟨p,c,rfl,hlc,hcm,_⟩:=h;have hl0:(0:Int)<=(l.length:Int):=by omega
 have hl1:(l.length:Int)<=676622540150:=by omega
 have hcm':c<=9223372036854775807:=by unfold maxLen at hcm;omega
 generalize hwA:w.alloc (.cells (kv k) 186)=wA at*;have HR1:PH (ef 0 wA (.slice p i c) (l.take i)):=hk1.take i (by omega);have HR2:PH (ef 0 wA (.slice (if c=i+1 then p else Option.map (fun x=>x.add ((i+1)*26)) p) (l.length-(i+1)) (c-(i+1))) (l.drop (i+1))):=hk1.drop (i+1) (by omega);have hi0:(0:Int)<=(i:Int):=by omega
 have hi1:(i:Int)<(l.length:Int):=by omega
 have HK:=a8 hk1;have HA:=a8 bA;go_enter func102,ntmps102;go_wp2_with fail;go_quiet (fail);generalize (if c=l.length then p else Option.map (fun x=>x.add (l.length*26)) p)=q8 at*;have bE:aq wA (wA.drewN nq):=dB (aI _ _) nq;obtain⟨wE,hwE⟩:=au (wA.drewN nq);rw[hwE]at bE;rw[hwE];go_wp2_with fail;go_quiet (fail);generalize (if c=i+1 then p else Option.map (fun x=>x.add ((i+1)*26)) p)=q9 at*;have bF:aq wE (wE.drewN nq):=dB (aI _ _) nq;obtain⟨wD,hwD⟩:=au (wE.drewN nq);rw[hwD]at bF;rw[hwD];have bD:=aw bE bF;have nA2:wD.heap[w.heap.size]? =ah (kv k) 186:=ai bD nA;have bB:=am wD (.cells (kv k) 186);have nB:=aE wD (.cells (kv k) 186);generalize hwB:wD.alloc (.cells (kv k) 186)=wB at*;have bC:=am wB (.cells #[.slice p i c,.slice q9 (l.length-(i+1)) (c-(i+1)),.slice (some (ae wD.heap.size 0)) 1 1] 51);have nC:=aE wB (.cells #[.slice p i c,.slice q9 (l.length-(i+1)) (c-(i+1)),.slice (some (ae wD.heap.size 0)) 1 1] 51);have bAC:=bD.trans ((aw bB bC).mono bD.size);have nBC:=ai bC nB;have r1:ef 0 wA (.slice p i c) (l.take i):=HR1.o;have r2:ef 0 wA (.slice q9 (l.length-(i+1)) (c-(i+1))) (l.drop (i+1)):=HR2.o;have q1:=r1.later bAC;have q2:=r2.later bAC;have q3:=ef.one nBC;have hbb:=aw HA.o bAC;generalize hwC:wB.alloc (.cells #[.slice p i c,.slice q9 (l.length-(i+1)) (c-(i+1)),.slice (some (ae wD.heap.size 0)) 1 1] 51)=wC at*
 have c1:=xu [(.slice p i c,l.take i),(.slice q9 (l.length-(i+1)) (c-(i+1)),l.drop (i+1)),(.slice (some (ae wD.heap.size 0)) 1 1,[k])] wB.heap.size 0 3 wC (fun j pr hj=>by
  match j,hj with
  |0,hj=>cases hj;exact⟨(aZ _ _ _ _ _ _ nC).trans rfl,q1⟩
  |1,hj=>cases hj;exact⟨(aZ _ _ _ _ _ _ nC).trans rfl,q2⟩
  |2,hj=>cases hj;exact⟨(aZ _ _ _ _ _ _ nC).trans rfl,q3⟩
  |j+3,hj=>simp at hj) (by simp) (by first|(simp[iC];done)|(simp[iC];omega)) (by simp[iC];omega)
 have ec:iC [(.slice p i c,l.take i),(.slice q9 (l.length-(i+1)) (c-(i+1)),l.drop (i+1)),(.slice (some (ae wD.heap.size 0)) 1 1,[k])] 3=R:=by
  rw[<-hR];simp[iC]
 have c2:Calls prog 129 #[.slice (some (ae wB.heap.size 0)) 3 3] wC fun e w'=> ∃v,e= .returned v/\w'.ownsRow wC.heap.size 186 26 v R.length (iK R)/\aq wC w':=by
  have:=c1;simp only[bJ,gJ,bN,Nat.reduceAdd,ec]at this;exact this
 go_wp2_with(first
  |(refine aQ rfl 186 _ rfl _ rfl _ _ _ _ nA2 qv rfl (ol k) ?_)
  |(refine sV rfl _ rfl k rfl ?_))
 refine c2.mono ?_;rintro e w9 ⟨v9,rfl,own9,b9⟩;have own9':=BG own9 hbb.size;have hb9:=aw hbb b9;obtain⟨p9,c9,rfl,_⟩:=mY own9;go_wp2_with fail;go_ret;exact⟨_,rfl,own9',hb9⟩
theorem E3 (B:Nat)(l:List Kp)(v:Value)(w:World)(h:ef B w v l)(hl:l.length<=676622540160):
  Calls prog 104 #[v] w fun e w'=> ∃v',e= .returned v'/\ef B w' v' (sw l)/\w'=w:=by
 have HK:=a8 h;obtain⟨p,c,rfl,hlc,hcm,_⟩:=h;have hl0:(0:Int)<=(l.length:Int):=by omega
 have hl1:(l.length:Int)<=676622540160:=by omega
 have hcm':c<=9223372036854775807:=by unfold maxLen at hcm;omega
 unfold sw;by_cases h64:64<l.length
 ·obtain⟨j,hj⟩:=au (l.length-64);rw[hj];have HR:=a8 (HK.o.drop j (by omega));have e1:(l.length:Int)-64=(j:Int):=(by omega);have hw1:IntKind.i64.wrap ((j:Int))=(j:Int):=(by rw[bG];omega);have hj0:(0:Int)<(j:Int):=(by omega);have hj1:j<=l.length:=(by omega);have hj2:(j:Int)<=(l.length:Int):=(by omega);have hc: ¬c=j:=(by omega);rw[ax hc]at HR;go_enter func104,ntmps104;go_wp2_with fail;go_ret;exact⟨_,rfl,HR.o,rfl⟩
 ·have e0:l.length-64=0:=by omega
  rw[e0];have HR:PH (ef B w (.slice p l.length c) (l.drop 0)):=HK.o;have e1:(l.length:Int)-64<=0:=(by omega);go_enter func104,ntmps104;go_wp2_with fail;go_ret;exact⟨_,rfl,HR.o,rfl⟩
section
theorem ef.set {B:Nat}{w:World}{v:Value}{l:List Kp}(h:ef B w v l){g:Nat}(hg:g<B)(X:Array Value):ef B (w.setRow g X) v l:=by
 obtain⟨p,c,e,h1,h2,h3⟩:=h;refine⟨p,c,e,h1,h2,fun hn=> ?_⟩;obtain⟨b,o,hp,hB,hr⟩:=h3 hn;refine⟨b,o,hp,hB,fun j u hj=> ?_⟩;have hc:=hr j u hj;have he:=aV w g b X (by omega);unfold World.cell? at hc⊢;rw[he];exact hc
structure GJ (w0 w1:World)(ga B:Nat)(m:M)(R:List Kp)(runs er at_:Int)(im ic iF:Nat)(L:Nat->Bool)(W:World):Prop where
 bel:aq w0 W
 low: ∀q,q<B->q≠ga->q≠ga+1->q≠ga+2->W.heap[q]? =w1.heap[q]?
 size:B<=W.heap.size
 b0:w0.heap.size<=ga
 b1:ga+2<B
 m0:L im=false->W.heap[ga]? =ah (mv fun _=>false) 86
 m1:L im=true->W.heap[ga]? =ah (mv m) 86
 c0:L ic=false->W.heap[ga+1]? =ah #[af,ag 0] 53
 c1:L ic=true-> ∃v',W.heap[ga+1]? =ah #[v',ag runs] 53/\ef B W v' R
 f0:L iF=false->W.heap[ga+2]? =ah #[ag 0,ag 0] 95
 f1:L iF=true->W.heap[ga+2]? =ah #[ag er,ag at_] 95
section
variable {w0 w1:World} {ga B:Nat} {m:M} {R:List Kp} {runs er at_:Int} {im ic iF:Nat} {L:Nat->Bool} {W W':World}
theorem sx {i k:Nat}{b:Bool}(h:(decide (i=k)||b)=false):b=false:=(Bool.or_eq_false_iff.1 h).2
theorem mB {i k:Nat}{b:Bool}(hne:i≠k)(h:(decide (i=k)||b)=true):b=true:=by simpa[hne] using h
theorem GJ.below (h:GJ w0 w1 ga B m R runs er at_ im ic iF L W)(hb:aq W W'):GJ w0 w1 ga B m R runs er at_ im ic iF L W':=by
 have lt: ∀q,q<B->W'.heap[q]? =W.heap[q]? :=fun q hq=>hb.block q (aT hq h.size);have hb1:=h.b1;exact⟨aw h.bel hb,fun q a b c d=>(lt q a).trans (h.low q a b c d),bf h.size hb.size,h.b0,h.b1,fun e=>(lt _ (by omega)).trans (h.m0 e),fun e=>(lt _ (by omega)).trans (h.m1 e),fun e=>(lt _ (by omega)).trans (h.c0 e),fun e=>(h.c1 e).imp fun _ q=>⟨(lt _ (by omega)).trans q.1,q.2.later hb⟩,fun e=>(lt _ (by omega)).trans (h.f0 e),fun e=>(lt _ (by omega)).trans (h.f1 e)⟩
theorem GJ.same (h:GJ w0 w1 ga B m R runs er at_ im ic iF L W)(i:Nat)(h1:i≠im)(h2:i≠ic)(h3:i≠iF):GJ w0 w1 ga B m R runs er at_ im ic iF (fun k=>decide (i=k)||L k) W:=
 ⟨h.bel,h.low,h.size,h.b0,h.b1,fun e=>h.m0 (sx e),fun e=>h.m1 (mB h1 e),fun e=>h.c0 (sx e),fun e=>h.c1 (mB h2 e),fun e=>h.f0 (sx e),fun e=>h.f1 (mB h3 e)⟩
theorem GJ.mask (h:GJ w0 w1 ga B m R runs er at_ im ic iF L W)(hL:L im=false)(h2:im≠ic)(h3:im≠iF):GJ w0 w1 ga B m R runs er at_ im ic iF (fun k=>decide (im=k)||L k) (W.setRow ga (mv m)):=by
 have ot: ∀q,q≠ga->(W.setRow ga (mv m)).heap[q]? =W.heap[q]? :=fun q hq=>aV W ga q (mv m) hq;have hb1:=h.b1;refine⟨below_setRow h.bel h.b0 _,fun q a b c d=>(ot q b).trans (h.low q a b c d),by simpa using h.size,h.b0,h.b1,fun e=>(by simp at e),fun _=>aL _ _ _ _ _ _ (h.m0 hL),fun e=>(ot _ (by omega)).trans (h.c0 (sx e)),fun e=> ?_,fun e=>(ot _ (by omega)).trans (h.f0 (sx e)),fun e=>(ot _ (by omega)).trans (h.f1 (mB h3 e))⟩;obtain⟨v',e1,e2⟩:=h.c1 (mB h2 e);exact⟨v',(ot _ (by omega)).trans e1,e2.set (by omega) _⟩
theorem GJ.cache (h:GJ w0 w1 ga B m R runs er at_ im ic iF L W)(hL:L ic=false)(h1:ic≠im)(h3:ic≠iF){v':Value}(hv:ef B W v' R):GJ w0 w1 ga B m R runs er at_ im ic iF (fun k=>decide (ic=k)||L k) (W.setRow (ga+1) #[v',ag runs]):=by
 have ot: ∀q,q≠ga+1->(W.setRow (ga+1) #[v',ag runs]).heap[q]? =W.heap[q]? :=fun q hq=>aV W (ga+1) q _ hq;have hb1:=h.b1;have hb0:=h.b0;exact⟨below_setRow h.bel (by omega) _,fun q a b c d=>(ot q c).trans (h.low q a b c d),by simpa using h.size,h.b0,h.b1,fun e=>(ot _ (by omega)).trans (h.m0 (sx e)),fun e=>(ot _ (by omega)).trans (h.m1 (mB h1 e)),fun e=>(by simp at e),fun _=>⟨v',aL _ _ _ _ _ _ (h.c0 hL),hv.set (by omega) _⟩,fun e=>(ot _ (by omega)).trans (h.f0 (sx e)),fun e=>(ot _ (by omega)).trans (h.f1 (mB h3 e))⟩
theorem GJ.fault (h:GJ w0 w1 ga B m R runs er at_ im ic iF L W)(hL:L iF=false)(h1:iF≠im)(h2:iF≠ic):GJ w0 w1 ga B m R runs er at_ im ic iF (fun k=>decide (iF=k)||L k) (W.setRow (ga+2) #[ag er,ag at_]):=by
 have ot: ∀q,q≠ga+2->(W.setRow (ga+2) #[ag er,ag at_]).heap[q]? =W.heap[q]? :=fun q hq=>aV W (ga+2) q _ hq;have hb1:=h.b1;have hb0:=h.b0;refine⟨below_setRow h.bel (by omega) _,fun q a b c d=>(ot q d).trans (h.low q a b c d),by simpa using h.size,h.b0,h.b1,fun e=>(ot _ (by omega)).trans (h.m0 (sx e)),fun e=>(ot _ (by omega)).trans (h.m1 (mB h1 e)),fun e=>(ot _ (by omega)).trans (h.c0 (sx e)),fun e=> ?_,fun e=>(by simp at e),fun _=>aL _ _ _ _ _ _ (h.f0 hL)⟩;obtain⟨v',e1,e2⟩:=h.c1 (mB h2 e);exact⟨v',(ot _ (by omega)).trans e1,e2.set (by omega) _⟩
end
structure GT (B:Nat)(R0 R:List Kp)(runs:Int)(i0 i1 i2 s0 s1 s2:Nat)(M:Nat->Bool)(φ:Nat->Value)(W:World):Prop where
 t0:M i0=true->ef B W (φ s0) R0
 t1:M i1=true->ef B W (φ s1) R
 t2:M i2=true-> ∃v',φ s2= .agg #[v',ag runs]/\ef B W v' R
section
variable {B:Nat} {R0 R:List Kp} {runs:Int} {i0 i1 i2 s0 s1 s2:Nat} {M:Nat->Bool} {φ φ':Nat->Value} {W W':World}
theorem GT.mono (h:GT B R0 R runs i0 i1 i2 s0 s1 s2 M φ W)(hK: ∀v l,ef B W v l->ef B W' v l):GT B R0 R runs i0 i1 i2 s0 s1 s2 M φ W':=⟨fun e=>hK _ _ (h.t0 e),fun e=>hK _ _ (h.t1 e),fun e=>(h.t2 e).imp fun _ q=>⟨q.1,hK _ _ q.2⟩⟩
theorem GT.on (h:GT B R0 R runs i0 i1 i2 s0 s1 s2 M φ W)(i:Nat)(h0:i≠i0->φ' s0=φ s0)(h1:i≠i1->φ' s1=φ s1)(h2:i≠i2->φ' s2=φ s2)(k0:i=i0->ef B W (φ' s0) R0)(k1:i=i1->ef B W (φ' s1) R)(k2:i=i2-> ∃v',φ' s2= .agg #[v',ag runs]/\ef B W v' R):GT B R0 R runs i0 i1 i2 s0 s1 s2 (fun k=>decide (i=k)||M k) φ' W:=by
 refine⟨fun e=> ?_,fun e=> ?_,fun e=> ?_⟩
 ·by_cases q:i=i0
  ·exact k0 q
  ·rw[h0 q];exact h.t0 (mB q e)
 ·by_cases q:i=i1
  ·exact k1 q
  ·rw[h1 q];exact h.t1 (mB q e)
 ·by_cases q:i=i2
  ·exact k2 q
  ·rw[h2 q];exact h.t2 (mB q e)
theorem GT.mark (h:GT B R0 R runs i0 i1 i2 s0 s1 s2 M φ W)(i:Nat)(h0:i≠i0)(h1:i≠i1)(h2:i≠i2):GT B R0 R runs i0 i1 i2 s0 s1 s2 (fun k=>decide (i=k)||M k) φ W:=⟨fun e=>h.t0 (mB h0 e),fun e=>h.t1 (mB h1 e),fun e=>h.t2 (mB h2 e)⟩
end
theorem LV (k:Kp)(j:Nat)(_:j<23):(kv k)[3+j]? =(mv k.m)[j]? :=by
 unfold kv;rw[Array.getElem?_append_right (by simp)];simp
theorem JO {w:World}{g:Nat}{k:Kp}(h:w.heap[g]? =ah (kv k) 186):w.rangeAt g 3 (mv k.m).toList:=fun j u hj=>by
 have hjl:j<23:=by
  have:=(aF.1 hj).1;rwa[rO]at this
 refine(aZ _ _ _ _ _ _ h).trans ?_;rw[LV k j hjl,<-bp];exact hj
theorem zw:prog.underlying 53=some (.struct (prog.fieldsOf 53)):=by kernel_rfl
theorem qL:(prog.info? 53).map (·.size)=some 2:=by kernel_rfl
theorem mZ:(prog.info? 95).map (·.size)=some 2:=by kernel_rfl
def yC (m:M)(R:List Kp)(runs er at_:Int)(w:World)(e:Ending)(w':World):Prop:= ∃v',e= .returned (.tuple #[.agg (mv m),.agg #[v',ag runs],.agg #[ag er,ag at_]])/\ef w.heap.size w' v' R/\aq w w'
theorem vQ {a:Act}{w0 w:World}(g:Nat)(m:M)(R:List Kp)(runs er at_:Int)(v':Value)(hd:a.defers=[])(h10:a.tmps.getD 10 undef=ab g 0)(h11:a.tmps.getD 11 undef=ab (g+1) 0)(h12:a.tmps.getD 12 undef=ab (g+2) 0)
  (hg:w.heap[g]? =ah (mv m) 86) (hg1:w.heap[g+1]? =ah #[v',ag runs] 53) (hg2:w.heap[g+2]? =ah #[ag er,ag at_] 95) (hk:ef w0.heap.size w v' R) (hb:aq w0 w):bodyPost prog f74 (yC m R runs er at_ w0) .ret a w:=by
 refine aW (v:= .tuple #[.agg (mv m),.agg #[v',ag runs],.agg #[ag er,ag at_]]) ?_ hd ⟨v',rfl,hk,hb⟩;have h10':a.tmps[10]?.getD undef=ab g 0:=by simpa using h10
 have h11':a.tmps[11]?.getD undef=ab (g+1) 0:=by simpa using h11
 have h12':a.tmps[12]?.getD undef=ab (g+2) 0:=by simpa using h12
 have hv:=dV (P:=prog) w g 86 86 _ _ _ hg bV rfl (bh _);have hv1:=dV (P:=prog) w (g+1) 53 53 _ _ _ hg1 zw rfl qL;have hv2:=dV (P:=prog) w (g+2) 95 95 _ _ _ hg2 mc rfl mZ;simp[results,results74,h10',h11',h12',asAddr,hv,hv1,hv2]
end
theorem vj (l:List Kp)(v:Value)(i:Int)(k:Kp)(w:World)(h:ef 0 w v l)(hl:l.length<=676622540150)(hi:i<l.length):
  Calls prog 102 #[v,ag i,.agg (kv k)] w fun e w'=> ∃v',e= .returned v'/\ef w.heap.size w' v' (fY l i++[k])/\aq w w':=by
 by_cases h0:0<=i
 ·obtain⟨n,rfl⟩: ∃n:Nat,i=(n:Int):=⟨i.toNat,by omega⟩
  refine(E2 l v n (by omega) k w h hl).mono ?_;rintro e w' ⟨v',rfl,own,hb⟩
  have e1:fY l (n:Int)=l.take n++l.drop (n+1):=by
   unfold fY;rw[aD h0,cZ]
  rw[e1];exact⟨v',rfl,ef.of_own own,hb⟩
 ·refine(BH l v i (by omega) k w h hl).mono ?_;rintro e w' ⟨v',rfl,own,hb⟩
  have e1:fY l i=l:=by
   unfold fY;rw[ax h0]
  rw[e1];exact⟨v',rfl,ef.of_own own,hb⟩
theorem G9:(#[ag 0,ag 0,ag 0,.int .u64 0,.int .u64 0,.int .u64 0,.int .u64 0,.int .u64 0,.int .u64 0,.int .u64 0,.int .u64 0,.int .u64 0,.int .u64 0,.int .u64 0,.int .u64 0,.int .u64 0,.int .u64 0,.int .u64 0,.int .u64 0,.int .u64 0,.int .u64 0,.int .u64 0,.int .u64 0,.int .u64 0,.int .u64 0,.int .u64 0]:Array Value)=kv ⟨0,0,0,fun _=>false⟩:=by
 unfold kv;rw[<-eG];rfl
theorem Ha (r d v:Int)(m:M)(W:World):(Instr.build 186 #[(0,ag r),(1,ag d),(2,ag v),(3,.agg (mv m))]).run prog W= .ok (.agg (kv ⟨r,d,v,m⟩)) W:=by
 kernel_rfl
theorem vR {ops:Array Oper}{rest:List Oper}{op:Oper}{a:Act}{w:World}{Q:Exit->Act->World->Prop}(hgd:op.guard=none)(x0 x1 x2 x3:Operand)(ho:op.op= .build 186 #[(0,x0),(1,x1),(2,x2),(3,x3)])(r d v:Int)(m:M)(h0:a.eval x0=ag r)(h1:a.eval x1=ag d)(h2:a.eval x2=ag v)(h3:a.eval x3= .agg (mv m))
  (h:wpList prog ops Q rest (a.put op.dst (.agg (kv ⟨r,d,v,m⟩))) w):wpList prog ops Q (op::rest) a w:=
 wpList_plain hgd fun _ hK=>by
  unfold Oper.wp execOp;have hb:=Ha r d v m w;simp only[ho,h0,h1,h2,h3,iB,dH,ff,ju,jU,gF,hb];exact hK _ _ h
theorem BI (cv:Value)(runs rule day:Int)(w:World): ∃W,(((((w.alloc (.cells #[cv,ag runs] 53)).alloc (.cells #[ag rule] 3)).alloc (.cells #[ag day] 3)).alloc (.cells (mv fun _=>false) 86)).alloc (.cells #[af,ag 0] 53)).alloc (.cells #[ag 0,ag 0] 95)=W/\aq w W/\W.heap[w.heap.size]? =ah #[cv,ag runs] 53/\W.heap[w.heap.size+1]? =ah #[ag rule] 3/\W.heap[w.heap.size+2]? =ah #[ag day] 3/\W.heap[w.heap.size+3]? =ah (mv fun _=>false) 86/\W.heap[w.heap.size+4]? =ah #[af,ag 0] 53/\W.heap[w.heap.size+5]? =ah #[ag 0,ag 0] 95:=
 ⟨_,rfl,(((((am _ _).alloc (by simp) _).alloc (by simp;omega) _).alloc (by simp;omega) _).alloc (by simp;omega) _).alloc (by simp;omega) _,by(repeat (first|refine dj _ _ _ (by simp only[aU];omega) ?_|exact dz _ _ _ (by first|rfl|simp only[aU]))),by(repeat (first|refine dj _ _ _ (by simp only[aU];omega) ?_|exact dz _ _ _ (by first|rfl|simp only[aU]))),by(repeat (first|refine dj _ _ _ (by simp only[aU];omega) ?_|exact dz _ _ _ (by first|rfl|simp only[aU]))),by(repeat (first|refine dj _ _ _ (by simp only[aU];omega) ?_|exact dz _ _ _ (by first|rfl|simp only[aU]))),by(repeat (first|refine dj _ _ _ (by simp only[aU];omega) ?_|exact dz _ _ _ (by first|rfl|simp only[aU]))),by(repeat (first|refine dj _ _ _ (by simp only[aU];omega) ?_|exact dz _ _ _ (by first|rfl|simp only[aU])))⟩
theorem LW (l:List Kp)(cv lv:Value)(runs ver rule day:Int)(w:World)(h:ef 0 w cv l)(hl:l.length<=676622540150)(hhit:mX l ver rule day=true):
  Calls prog 74 #[.agg #[cv,ag runs],lv,ag ver,ag rule,ag day] w (yC (l.getD (gI rule day l 0).toNat k0).m (fY l (gI rule day l 0)++[l.getD (gI rule day l 0).toNat k0]) runs 0 0 w):=by
 obtain⟨i,hii⟩:=au (gI rule day l 0);have hiL:=rQ rule day l 0;rw[hii]at hiL;have hil:i<l.length:=by omega
 have hil2:i<=676622540150:=by omega
 have hil3: -1<=i:=by omega
 have hz:=eG;obtain⟨wA,hwA,bA,n5,n8,n9,n10,n11,n12⟩:=BI cv runs rule day w;have c1:=tE l cv (w.heap.size+1) (w.heap.size+2) rule day wA (h.later bA) n8 n9;rw[hii]at c1;have z5:=ak 0 n5
 have hh:0<=i/\(l.getD i.toNat k0).v=ver:=by
  unfold mX at hhit;rw[hii,bx,cg,cg]at hhit;exact hhit
 obtain⟨hi0,hver⟩:=hh;rw[hii];obtain⟨n,rfl⟩: ∃n:Nat,i=(n:Int):=⟨i.toNat,by omega⟩
 rw[cZ]at hver⊢;obtain⟨k,hk⟩: ∃k,l[n]? =some k:=⟨l[n]'(by omega),az (by omega)⟩
 have hkd:l.getD n k0=k:=by simp[List.getD,hk]
 rw[hkd]at hver⊢;have HK:=a8 h;obtain⟨p,c,rfl,hlc,hcm,_⟩:=h;obtain⟨g,o,hpe,hrg⟩:=HK.o.at hk;subst hpe;have HB:=a8 bA;clear hii hiL hhit hkd hcm bA;go_enter func74,ntmps74;go_wp2_with fail;refine c1.mono ?_;rintro e w1 ⟨rfl,b1⟩;have HB1:=a8 (aw HB.o b1);have rg1:=ly hrg HB1.o
 have y2:w1.cell? (ae g (o+n*26+2))=some (ag ver):=by
  rw[<-hver];exact rg1 2 _ (by rw[bp];exact JL k)
 have m5:=ai b1 n5;have m10:=ai b1 n10;have m11:=ai b1 n11;have m12:=ai b1 n12;have z51:=ak 0 m5;have hni:(n:Int)<(l.length:Int):=by omega
 have bE:=am w1 (.cells (kv ⟨0,0,0,fun _=>false⟩) 186);have nE:=aE w1 (.cells (kv ⟨0,0,0,fun _=>false⟩) 186);generalize hwE:w1.alloc (.cells (kv ⟨0,0,0,fun _=>false⟩) 186)=wE at*;have bF:=below_setRow bE (aB _) (kv k);have nF:=aL _ _ _ (kv k) _ _ nE;generalize hwF:wE.setRow w1.heap.size (kv k)=w2 at*;clear c1 hver n5 n8 n9 n10 n11 n12 b1 hwA z5 hrg HB;have hzk:=G9
 go_wp2_with(first
  |(refine tD rfl _ rfl g (o+n*26) rfl k rg1 ?_)
  |(refine ay rfl 186 _ _ rfl _ _ rfl rfl _ _ nE (ol _) (by simp[pT]) (BF _) ?_))
 obtain⟨g14,hg14e⟩:=au w1.heap.size;have HBW:=a8 (aw HB1.o bF);have hg14:g14<w2.heap.size:=by rw[<-hg14e];exact aH nF
 have hgw:w.heap.size+5<g14:=by rw[<-hg14e];exact aH m12
 have n14:w2.heap[g14]? =ah (kv k) 186:=by rw[<-hg14e];exact nF
 replace m5:=ai bF m5;replace m10:=ai bF m10;replace m11:=ai bF m11;replace m12:=ai bF m12;rw[hwF,hg14e];clear nF bF bE nE hwE hwF rg1 y2 z51 hg14e hz HB1 hzk;refine dn (fun M φ W=>GJ w w2 (w.heap.size+3) w2.heap.size k.m (fY l (n:Int)++[k]) runs 0 0 11 12 13 M W/\GT w2.heap.size (fY l (n:Int)++[k]) (fY l (n:Int)++[k]) runs 6 1000 9 46 1000 49 M φ W) [kn 40 (ab g14 3),kn 41 (.agg (mv k.m)),kn 42 (ab w.heap.size 0),kn 43 (.slice (some (ae g o)) l.length c),kn 44 (ag (n:Int)),kn 45 (.agg (kv k)),td 46,kn 47 (ab w.heap.size 1),kn 48 (ag runs),td 49,kn 50 (.agg #[ag 0,ag 0]),nk,nk,nk] (fun _=>⟨⟨(HBW.o).trans ((aI w2.heap.size w2).drew.mono HBW.o.size),fun _ _ _ _ _=>rfl,aB _,by omega,by omega,fun _=>m10,(fun e=>by cases e),fun _=>m11,(fun e=>by cases e),fun _=>m12,(fun e=>by cases e)⟩,(fun e=>by cases e),(fun e=>by cases e),(fun e=>by cases e)⟩) (fun _ _ _ _ hb h=>⟨h.1.below hb,h.2.mono fun _ _ q=>q.later hb⟩) (by kernel_rfl) (fun M φ W2 hJ hcl FF ll hll hFF=> ?_) (fun M φ W2 hM hJ=> ?_)
 ·simp only[kn,td,nk,dX,aR,aX,Act.put,aA,aK,aJ]at hll;subst hll;simp only[dc,Nat.reduceAdd]at hFF;obtain⟨hJ,hT⟩:=hJ;have b14:=(hJ.low g14 hg14 (by omega) (by omega) (by omega)).trans n14;have b5:=(hJ.low w.heap.size (by omega) (by omega) (by omega) (by omega)).trans m5;have y50:=ak 0 b5;have y51:=ak 1 b5;clear b5;dsimp only[kn,td,nk,dC,eJ,eg,Act.put];and_intros;all_goals first|exact trivial|intro qw qn qm K hK
  all_goals try (go_simp;with_reducible exact hK _ _ ⟨rfl,aI _ _⟩)
  ·refine JK _ rfl g14 3 (by simp[Act.eval,hFF]) k.m (JO b14) ?_;exact hK _ _ ⟨rfl,aI _ _⟩
  ·refine eo 186 _ rfl g14 (by simp[Act.eval,hFF]) _ _ _ _ b14 qv rfl (ol k) ?_;exact hK _ _ ⟨rfl,aI _ _⟩
  ·have hk2:=HK.o.later hJ.bel;go_simp;refine(vj l _ (n:Int) k W2 hk2 hl hil).mono ?_;rintro r' W' ⟨v',rfl,hk3,hb'⟩;exact hK _ _ ⟨trivial,(hJ.below hb').same 6 (by decide) (by decide) (by decide),(hT.mono fun _ _ q=>q.later hb').on 6 (fun h=>absurd rfl h) (fun _=>cQ (by decide)) (fun _=>cQ (by decide)) (fun _=>by rw[dD];exact hk3.low hJ.size) (fun h=>by cases h) (fun h=>by cases h)⟩
  ·have k46:=hT.t0 (qw ⟨6,.data⟩ (by simp) rfl rfl);obtain⟨p6,c6,hv6,_⟩:=id k46;obtain⟨nn,hnn⟩:=au ((fY l (n:Int)++[k]).length);rw[hnn]at hv6;rw[hv6]at hFF;go_simp;exact hK _ _ ⟨trivial,hJ.same 9 (by decide) (by decide) (by decide),hT.on 9 (fun _=>cQ (by decide)) (fun _=>cQ (by decide)) (fun h=>absurd rfl h) (fun h=>by cases h) (fun h=>by cases h) (fun _=>⟨_,dD ..,hv6▸k46⟩)⟩
  ·refine eE 86 _ _ rfl _ (mv k.m) (by simp[Act.eval,hFF]) (by simp[Act.eval,hFF]) _ _ (hJ.m0 qm) (bh _) (by simp[bO]) (dR _) ?_;exact hK undef _ ⟨trivial,hJ.mask qm (by decide) (by decide),(hT.mono fun v l hv=>hv.set (by omega) _).mark 11 (by decide) (by decide) (by decide)⟩
  ·obtain⟨v9,e9,k9⟩:=hT.t2 (qw ⟨9,.data⟩ (by simp) rfl rfl);obtain⟨p9,c9,hv9,_⟩:=id k9;obtain⟨nn,hnn⟩:=au ((fY l (n:Int)++[k]).length);rw[hnn]at hv9;rw[e9,hv9]at hFF;refine eE 53 _ _ rfl _ #[.slice p9 nn c9,ag runs] (by simp[Act.eval,hFF]) (by simp[Act.eval,hFF]) _ _ (hJ.c0 qm) qL (by simp) (by simp[Value.oneCell']) ?_;exact hK undef _ ⟨trivial,hJ.cache qm (by decide) (by decide) (hv9▸k9),(hT.mono fun v l hv=>hv.set (by omega) _).mark 12 (by decide) (by decide) (by decide)⟩
  ·refine eE 95 _ _ rfl _ #[ag 0,ag 0] (by simp[Act.eval,hFF]) (by simp[Act.eval,hFF]) _ _ (hJ.f0 qm) mZ (by simp) (by simp[Value.oneCell']) ?_;exact hK undef _ ⟨trivial,hJ.fault qm (by decide) (by decide),(hT.mono fun v l hv=>hv.set (by omega) _).mark 13 (by decide) (by decide) (by decide)⟩
 ·obtain⟨hJ,_⟩:=hJ;have hM1:=hJ.m1 (hM 11 (by decide) rfl);obtain⟨v9,hC,hK9⟩:=hJ.c1 (hM 12 (by decide) rfl);have hF:=hJ.f1 (hM 13 (by decide) rfl);have hb9:=hJ.bel;have hsz9:=hb9.size;have hb1:=hJ.b1;have hb0:=hJ.b0;simp only[kn,td,nk,en,aR,aX,Act.put,aA,aK,aJ];clear hM hJ;go_wp2_with fail;exact vQ (w.heap.size+3) k.m (fY l (n:Int)++[k]) runs 0 0 v9 rfl rfl rfl rfl hM1 hC hF (hK9.low (by omega)) hb9
theorem JP {cs:List Cd}{rule day:Int}(h:(jb cs rule day).1=0):(jb cs rule day).2=0:=by
 unfold jb at h⊢;by_cases h1:(jM cs).1≠0
 ·rw[aD h1]at h;exact absurd h h1
 ·rw[ax h1]at h⊢;split
  ·rfl
  ·split<;>rfl
end Go.Proofs.YtkfidffapdhbhaaGreatDoor
