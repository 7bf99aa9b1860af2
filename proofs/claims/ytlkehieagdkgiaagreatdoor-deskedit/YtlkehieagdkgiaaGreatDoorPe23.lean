/- Texts of the proof. -/
import Derived.Test.YtlkehieagdkgiaaGreatDoorPe22
set_option maxRecDepth 100000
set_option maxHeartbeats 8000000
namespace Go.Proofs.YtlkehieagdkgiaaGreatDoor
open Go.Proofs.Tryz Go.RowKit Lx Vx Mx Msk
section
theorem yV: ∀{l:List Ru} {i:Nat},(jR l i).1=0-> ∀u∈l,OKE u.2
 |[],_,_,u,a=>by cases a
 |v::l,i,h,u,a=>by
  unfold jR at h;split at h
  ·rename_i c;exact absurd h c
  ·rename_i c;rcases bO.1 a with rfl|a
   ·have b:ruleP u=0:=(by simpa using c);unfold ruleP at b;split at b
    ·cases b
    ·exact⟨_,_,b⟩
   ·exact yV h u a
theorem tF {l:List Ru}(h:(gC l).1=0):l.length<=40/\ ∀u∈l,OKE u.2:=by
 unfold gC at h;split at h
 ·cases h
 ·exact⟨by omega,yV h⟩
def yW (D:MD)(i:Int)(f:Nat->Bool):Prop:= ∀(K:Nat->Bool) (W:World),MI D K W->Calls prog 22 #[ab D.g 0,ag i] W fun r b=>r= .returned (.agg (mv f))/\MQ D (fun a=>Les K a/\a i.toNat=true) W b
section
variable {wk:Bool} {day a b:Int} {nm:Nat->Bool} {ks:List (Nat->Bool)}
theorem Pe:mY wk day 1 a b nm ks=fun _=>false:=rfl
theorem Pf:mY wk day 2 a b nm ks=fun i=>decide (i<1440):=rfl
theorem Pg:mY wk day 3 a b nm ks=fun i:Nat=>(decide (a<=(i:Int))&&decide ((i:Int)<b))&&decide (i<1440):=rfl
theorem I0:mY wk day 4 a b nm ks=if wk=true then ks.getD 0 nev else fun _=>false:=rfl
theorem I1:mY wk day 5 a b nm ks=if a<=day/\day<=b then ks.getD 0 nev else fun _=>false:=rfl
theorem I2:mY wk day 6 a b nm ks=fun i=>(ks.getD 0 nev i||ks.getD 1 nev i)&&decide (i<1440):=rfl
theorem I3:mY wk day 7 a b nm ks=fun i=>(ks.getD 0 nev i&& !ks.getD 1 nev i)&&decide (i<1440):=rfl
theorem I4:mY wk day 8 a b nm ks=fun i=>(ks.getD 0 nev i&&ks.getD 1 nev i)&&decide (i<1440):=rfl
theorem I5:mY wk day 9 a b nm ks=shf (ks.getD 0 nev) a:=rfl
theorem ET:mY wk day 10 a b nm ks=nm:=rfl
end
theorem mB {F:Ex->Nat->Bool}{ks:List Ex}{j:Nat}{k:Ex}(h:ks[j]? =some k):(ks.map F).getD j nev=F k:=by
 rw[dg,a8,h];rfl
theorem yX {D:MD}{u:Nat->Bool}{W:World}{env:List UInt8->Nat->Bool}{e:Ex}{pe:Option Addr}{ce:Nat}(h:MI D u W)(n:OKE e)(s:0<=D.day)(t:D.day<146097)
  (c: ∀(j:Nat) (k:Ex),e.kids[j]? =some k->rx D e.kind e.a e.b e.name pe e.kids ce (j:Int) (fE (wkB D.day) D.day env k)) (o:e.kind=10->0<=atP5 D.l e.name/\yW D (atP5 D.l e.name) (env e.name)):
  Calls prog 49 #[ab D.g 0,exV e (.slice pe e.kids.length ce)] W fun r v=>r= .returned (.agg (mv (fE (wkB D.day) D.day env e)))/\MQ D (Les u) W v:=by
 have A:=jG (wkB D.day) D.day env e;obtain⟨E,F,_,z,_⟩:=n.kinds;have p:=fun d=>n.kid0 d;have m:=fun d=>n.kid1 d;obtain⟨kd,a,b,nm,ks⟩:=e;unfold exV;dsimp only at*;have y:kd=1\/kd=2\/kd=3\/kd=4\/kd=5\/kd=6\/kd=7\/kd=8\/kd=9\/kd=10:=by omega
 rw[A];rcases y with rfl|rfl|rfl|rfl|rfl|rfl|rfl|rfl|rfl|rfl
 ·rw[Pe];exact Pa h
 ·rw[Pf];exact Pb h
 ·rw[Pg];exact Pc h
 ·obtain⟨k,d,_⟩:=p (by decide);rw[I0,mB d];cases i:wkB D.day a with
  |true=>exact Nt h s t i (c 0 k d)
  |false=>exact Nu h s t i
 ·obtain⟨k,d,_⟩:=p (by decide);rw[I1,mB d];by_cases i:a<=D.day/\D.day<=b
  ·rw[aB i];exact Nv h s t (by simp[i.1,i.2]) (c 0 k d)
  ·rw[ax i]
   exact Nw h s t (by
    by_cases m:a<=D.day
    ·simp[m,show¬D.day<=b from fun w=>i ⟨m,w⟩]
    ·simp[m])
 ·obtain⟨k,d,_⟩:=p (by decide);obtain⟨q,f,_⟩:=m (by decide);rw[I2,mB d,mB f];exact O7 h (c 0 k d) (c 1 q f)
 ·obtain⟨k,d,_⟩:=p (by decide);obtain⟨q,f,_⟩:=m (by decide);rw[I3,mB d,mB f];exact O8 h (c 0 k d) (c 1 q f)
 ·obtain⟨k,d,_⟩:=p (by decide);obtain⟨q,f,_⟩:=m (by decide);rw[I4,mB d,mB f];exact O9 h (c 0 k d) (c 1 q f)
 ·obtain⟨k,d,_⟩:=p (by decide);rw[I5,mB d];have C:a≠0/\ -1440<a/\a<1440:=(by simpa[rangeP] using z);exact Pd h (by omega) (by omega) (c 0 k d)
 ·rw[ET];obtain⟨B,x⟩:=o rfl;exact Ny h B x
theorem I6 {D:MD}{env:List UInt8->Nat->Bool}(A:0<=D.day)(B:D.day<146097): ∀(d:Nat) (e:Ex) (sl:Value),fP (fun k=>k<D.w.heap.size) d D.w sl e.kids->OKE e->(∀x∈nms e,0<=atP5 D.l x/\yW D (atP5 D.l x) (env x))-> ∀(K:Nat->Bool) (W:World),MI D K W->
  Calls prog 49 #[ab D.g 0,exV e sl] W fun r s=>r= .returned (.agg (mv (fE (wkB D.day) D.day env e)))/\MQ D (Les K) W s:=by
 have none: ∀(e:Ex) (p:Option Addr) (c:Nat),e.kids=[]->OKE e->(∀x∈nms e,0<=atP5 D.l x/\yW D (atP5 D.l x) (env x))-> ∀(K:Nat->Bool) (W:World),MI D K W->
   Calls prog 49 #[ab D.g 0,exV e (.slice p 0 c)] W fun r s=>r= .returned (.agg (mv (fE (wkB D.day) D.day env e)))/\MQ D (Les K) W s:=fun e p c m a i K W n=>by
  have:=yX (env:=env) (pe:=p) (ce:=c) n a A B (fun j k q=>by rw[m]at q;simp at q) fun f=>i e.name (by rw[md,aB f];simp);rw[m]at this;exact this
 intro d;induction d with
 |zero=>
  intro e sl f a i K W n;obtain⟨m,p,c,rfl⟩:=f;exact none e p c m a i K W n
 |succ d L=>
  intro e sl f a i K W n;rcases f with⟨m,p,c,rfl⟩|⟨g,o,c,_,rfl,I,z⟩
  ·exact none e p c m a i K W n
  ·refine yX n a A B (fun j k q=> ?_) fun f=>i e.name (by rw[md,aB f];simp);obtain⟨_,U,c0,c1,F,G,H,r⟩:=z j k q;obtain⟨T,S,rfl⟩:=r.form;have b:k∈e.kids:=aM q;intro bd R Q s t v y M N O P
   exact Ns t q I v y M N O P c0 c1 F G H fun C E u=>L k _ r (a.kid b) (fun x J=>i x (by
    rw[md,da];right;unfold jL;exact List.mem_flatten.2 ⟨nms k,dR.2 ⟨k,b,rfl⟩,J⟩)) C E u
theorem A5 {D:MD}{t:List (Ru×Value)}(a:InR D.w D.lv t)(E:t.map (fun p=>p.1)=D.l)(v:t.length=D.n)(k:(dC D.l).1=0)(G:0<=D.day)(H:D.day<146097)(B: ∀i,D.V i=gX D.l (wkB D.day) D.day i):
  ∀(m i:Nat),i<D.n->muR D.l i<m->yW D (i:Int) (D.V i)
 |0,_,_,h=>by omega
 |m+1,i,hi,X=>by
  intro K W z;obtain⟨F,q⟩:=lO k;obtain⟨R,s⟩:=tF F;have T:D.l.length=D.n:=(by rw[<-E,bc,v]);cases hK:K i with
  |true=>
   obtain⟨M,P,Q⟩:=id z;refine(Gn P hi (by omega) hK).mono ?_;rintro r Z ⟨rfl,C⟩;rw[Q i hi hK];exact⟨rfl,⟨K,z.later C,Les.refl K,hK⟩,Kp.below C⟩
  |false=>
   obtain⟨⟨u,sl⟩,y⟩: ∃p,t[i]? =some p:=⟨t[i]'(by omega),ay _⟩
   have c:D.l[i]? =some u:=(by rw[<-E,a8,y];rfl);obtain⟨_,_,d,g⟩:=a.all _ (aM y);dsimp only at g;obtain⟨ps,cs,rfl⟩:=g.form;obtain⟨pv,cv,j⟩:=a.form;have f:=a;rw[j]at f;obtain⟨b,o,rfl,_⟩:=f.cells i _ y;rw[v]at j;refine Lf a (by omega) j v y z hK fun N O A=> ?_;have I:=I6 (env:=fun x=>D.V (atP5 D.l x).toNat) G H d u.2 _ g (s u (aM c)) (fun x L=> ?_) N O A
   ·have e:fE (wkB D.day) D.day (fun x=>D.V (atP5 D.l x).toNat) u.2=D.V i:=by
     rw[B i,ph k c];exact oA _ _ (aD _) fun x _=>B _
    rw[e]at I;exact I
   ·have J:=oB k c L;have U:=sU k (by omega) J;have S:=mW q i _ J;have C:=(ny D.l x).1
    have Y:atP5 D.l x≠ -1:=fun e=>q u (aM c) (by
     unfold gF;exact(qt _ _).2 (.inr ⟨x,L,e⟩))
    refine⟨by omega,?_⟩;have:=A5 a E v k G H B m (atP5 D.l x).toNat (by omega) (by omega);rw[show(((atP5 D.l x).toNat:Nat):Int)=atP5 D.l x by omega]at this;exact this
end
def mF (l:List Ru)(day:Int):Int×Nat:=if(dC l).1≠0 then dC l else if day<0\/146097<=day then(3,0) else(0,0)
def kY (l:List Ru)(day:Int):List (Nat->Bool):=if(mF l day).1=0 then(List.range l.length).map (gX l (wkB day) day) else []
def Gp (w:World)(v:Value)(a:List (Nat->Bool)):Prop:= ∃p c,v= .slice p a.length c/\(a.length<=40/\a.length<=c)/\ ∀(i:Nat) (f:Nat->Bool),a[i]? =some f-> ∃g o:Nat,p=some ⟨g,o,none⟩/\w.rangeAt g (o+i*23) (mv f).toList
def vG (l:List Ru)(day:Int)(w:World)(e:Ending)(w':World):Prop:= ∃v,e= .returned (.tuple #[v,.agg #[ag (mF l day).1,ag ((mF l day).2:Int)]])/\Gp w' v (kY l day)/\aq w w'
theorem CU (w:World)(p:Option Addr)(c:Nat):Gp w (.slice p 0 c) []:=⟨p,c,rfl,⟨by simp,by simp⟩,fun i f hi=>by simp at hi⟩
theorem Nz {w:World}{gm n:Nat}{F:Nat->Nat->Bool}(g:n<=40)(h: ∀i,i<n->w.rangeAt gm (i*23) (mv (F i)).toList):Gp w (.slice (some (ae gm 0)) n n) ((List.range n).map F):=by
 refine⟨some ⟨gm,0,none⟩,n,by simp,⟨by simpa using g,by simp⟩,fun i f hi=>⟨gm,0,rfl,?_⟩⟩;rw[a8]at hi;cases hr:(List.range n)[i]? with
 |none=>rw[hr]at hi;cases hi
 |some k=>
  rw[hr]at hi;have d:F k=f:=aN hi;obtain⟨b,c⟩:=aF.1 hr;have e:k=i:=(by rw[<-c];simp);have a:i<n:=(by simpa using b);rw[<-d,e,cY];exact h i a
def lm (n:Nat):Array Value:=madeCells (mv fun _=>false) (n*23)
theorem A6 {n i j:Nat}(hi:i<n)(d:j<23):(lm n)[i*23+j]? =(mv fun _=>false)[j]? :=by
 have a:i*23+j<n*23:=by
  have:(i+1)*23<=n*23:=Nat.mul_le_mul_right 23 hi;omega
 have b:(i*23+j)%23=j:=by omega
 have c:j<(mv fun _=>false).size:=by rw[di];exact d
 simp[lm,madeCells,a,di,b];rw[Array.getElem!_eq_getD,Array.getD_eq_getD_getElem?,gh c];rfl
theorem CV {w:World}{g n:Nat}{t:TypeId}(h:w.heap[g]? =ah (lm n) t){i:Nat}(hi:i<n):w.rangeAt g (i*23) (mv fun _=>false).toList:=fun j v a=>by
 have b:j<23:=by
  have:=(aF.1 a).1;rw[df,di]at this;exact this
 rw[aZ _ _ _ _ _ _ h,A6 hi b,<-bx];exact a
theorem I7:(prog.info? 55).map (fun i=>(i.zero,i.size,i.bytes))=some (some (.agg #[.int .u64 0, .int .u64 0, .int .u64 0, .int .u64 0, .int .u64 0, .int .u64 0, .int .u64 0, .int .u64 0, .int .u64 0, .int .u64 0, .int .u64 0, .int .u64 0, .int .u64 0, .int .u64 0, .int .u64 0, .int .u64 0, .int .u64 0, .int .u64 0, .int .u64 0, .int .u64 0, .int .u64 0, .int .u64 0, .int .u64 0]),23,184):=by kernel_rfl
theorem Gq:prog.underlying 46=some (.slice 55):=by kernel_rfl
theorem yY (n:Nat)(g:n<=1000)(w:World):(Instr.makeSlice 46 (ag (n:Int)) (ag (n:Int))).run prog w= .ok (.slice (some (ae w.heap.size 0)) n n) (w.alloc (.cells (lm n) 55)):=by
 obtain⟨i,hi,a⟩:=eh.1 I7;simp only[Prod.mk.injEq]at a;obtain⟨f,d,c⟩:=a;have b:=run_make (P:=prog) w 46 55 i _ Gq hi f .i64 .i64 n n (by omega) (io _) (by rw[c];omega) (by omega);rw[d]at b;have e:(Value.agg #[.int .u64 0, .int .u64 0, .int .u64 0, .int .u64 0, .int .u64 0, .int .u64 0, .int .u64 0, .int .u64 0, .int .u64 0, .int .u64 0, .int .u64 0, .int .u64 0, .int .u64 0, .int .u64 0, .int .u64 0, .int .u64 0, .int .u64 0, .int .u64 0, .int .u64 0, .int .u64 0, .int .u64 0, .int .u64 0, .int .u64 0]).cells=mv fun _=>false:=eR;rw[e]at b;simpa[lm] using b
structure AJ (B:World)(n:Nat)(day:Int)(sl:Value)(l:List Ru)(M:Nat->Bool)(φ:Nat->Value)(W:World):Prop where
 bel:aq B W
 m:M 3=true-> ∃mb,φ 25= .map (some mb)/\jr W mb l
 k:M 6=true-> ∃gk:Nat,φ 28= .slice (some (ae gk 0)) n n/\B.heap.size<=gk/\W.heap[gk]? =ah (fN n fun _=>false) 4
 g:M 9=true-> ∃gm:Nat,φ 31= .slice (some (ae gm 0)) n n/\B.heap.size<=gm/\W.heap[gm]? =ah (lm n) 55
 a:M 10=true->φ 32= .agg #[ag day,sl,φ 25,φ 28,φ 31]
 d:M 11=true-> ∃g:Nat,φ 7=ab g 0/\B.heap.size<=g/\W.heap[g]? =ah #[ag 0,af,.map none,af,af] 80
theorem AJ.below {B:World}{n:Nat}{day:Int}{sl:Value}{l:List Ru}{M:Nat->Bool}{φ:Nat->Value}{W b:World}(h:AJ B n day sl l M φ W)(f:aq W b):AJ B n day sl l M φ b:=by
 have c: ∀{k:Nat} {o:Obj},W.heap[k]? =some o->b.heap[k]? =some o:=fun h=>ai f h;exact⟨aw h.bel f,fun e=>(h.m e).imp fun _ q=>⟨q.1,q.2.later (f.block _ (ik q.2))⟩,fun e=>(h.k e).imp fun _ q=>⟨q.1,q.2.1,c q.2.2⟩,fun e=>(h.g e).imp fun _ q=>⟨q.1,q.2.1,c q.2.2⟩,h.a,fun e=>(h.d e).imp fun _ q=>⟨q.1,q.2.1,c q.2.2⟩⟩
theorem MD.begin {w W:World}{n g gk gm mb:Nat}{day:Int}{sl:Value}{l:List Ru}{V:Nat->Nat->Bool}{p:Array Value}(x:aq w W)(s:jr W mb l)(r:w.heap.size<=g)(d:W.heap[g]? =ah p 80)
  (j:w.heap.size<=gk) (b:W.heap[gk]? =ah (fN n fun _=>false) 4) (k:w.heap.size<=gm) (a:W.heap[gm]? =ah (lm n) 55):
  MI ⟨w,n,g,gk,gm,mb,day,sl,l,V⟩ (fun _=>false) (W.setRow g #[ag day,sl,.map (some mb),.slice (some (ae gk 0)) n n,.slice (some (ae gm 0)) n n]):=by
 have t:g≠gk:=fun e=>by subst e;rw[d]at b;cases b
 have o:g≠gm:=fun e=>by subst e;rw[d]at a;cases a
 have z:gk≠gm:=fun e=>by
  subst e;rw[b]at a;injection a with u;injection u with _ v;exact absurd v (by decide)
 obtain⟨D,c,m,_⟩:=id s;have A:mb≠gk:=fun e=>by subst e;rw[m]at b;cases b
 have B:mb≠gm:=fun e=>by subst e;rw[m]at a;cases a
 have C:mb≠g:=fun e=>by subst e;rw[m]at d;cases d
 have f: ∀q,q≠g->(W.setRow g #[ag day,sl,.map (some mb),.slice (some (ae gk 0)) n n,.slice (some (ae gm 0)) n n]).heap[q]? =W.heap[q]? :=fun q y=>aW _ _ _ _ y;refine⟨fun _ _=>false,⟨below_setRow x r _,aL _ _ _ _ _ _ d,(f _ (fun e=>t e.symm)).trans b,fun i hi=> ?_,⟨_,(f _ (fun e=>o e.symm)).trans a⟩,s.later (f _ C),⟨r,j,k⟩,t,o,z,A,B⟩,fun _ _ h=>by cases h⟩;exact CV ((f _ (fun e=>o e.symm)).trans a) hi
theorem rT {R:Ending->World->Prop}{a:Act}{w:World}(g:Nat)(v:Value)(er at_:Int)(i:a.defers=[])(d:a.tmps.getD 4 undef=v)(e:a.tmps.getD 5 undef=ab g 0)
  (j:w.heap[g]? =ah #[ag er,ag at_] 48) (f:R (.returned (.tuple #[v,.agg #[ag er,ag at_]])) w):bodyPost prog f10 R .ret a w:=by
 refine aX (v:= .tuple #[v,.agg #[ag er,ag at_]]) ?_ i f;have b:a.tmps[4]?.getD undef=v:=by simpa using d
 have c:a.tmps[5]?.getD undef=ab g 0:=by simpa using e
 have k:=en (P:=prog) w g 48 48 _ _ _ j pN rfl (by kernel_rfl);simp[results,results10,b,c,asAddr,k]
theorem CW (us:List (Ru×Value))(v:Value)(day:Int)(w:World)(h:InR w v us):Calls prog 10 #[v,ag day] w (vG (us.map (fun p=>p.1)) day w):=by
 obtain⟨l,hl⟩:=au (us.map (fun p=>p.1));obtain⟨n,R⟩:=au us.length;have a8:l.length=n:=by rw[<-hl,bc,R]
 obtain⟨z,y,rfl⟩:=h.form;have bA:=am w (.cells #[ag 0,ag 0] 48);have n1:=aG w (.cells #[ag 0,ag 0] 48);generalize aX:w.alloc (.cells #[ag 0,ag 0] 48)=wA at*;have cW:=vw us _ wA (h.below bA);rw[hl]at cW;rw[hl,R];have HL:=aE hl;have T:=aE R;have aa:=aE a8;have ap:=aE h;rw[R]at cW;go_enter func10,ntmps10;go_wp2_with fail;refine cW.mono ?_;rintro r w1 ⟨rfl,ah⟩;have m2:=ai ah n1;have Q:=aw bA ah;by_cases h0:(dC l).1=0
 ·obtain⟨aN,_⟩:=lO h0;have ac:=(tF aN).1;rw[aa.o]at ac;have H0:=aE h0;rw[h0];generalize (((dC l).2:Nat):Int)=A at*;have bC:=am w1 (.cells #[ag 0,ag A] 48);have s:=aE (aw Q bC);have HR:=aE (ai bC m2);have m3:=aG w1 (.cells #[ag 0,ag A] 48);have ab:=aE ac;have aS:(n:Int)<=40:=(by omega);generalize aO:w1.alloc (.cells #[ag 0,ag A] 48)=wB at*;have HI:=aE (ap.o.below s.o);have z0:=ak 0 m3;by_cases hd:day<0\/146097<=day
  ·have O:Rb (mF l day=(3,0)):=by
    show _=_;unfold mF;rw[ax (by simpa using H0.o),aB hd]
   have HO:Rb (∀cs,vG l day w (.returned (.tuple #[af,.agg #[ag 3,ag 0]])) (wB.setRow w.heap.size cs)):=fun cs=>by
    have Y:kY l day=[]:=by
     unfold kY;rw[O.o];rfl
    refine⟨_,by rw[O.o];rfl,?_,below_setRow s.o (aD _) _⟩;rw[Y];exact CU _ _ _
   have x:=HR.o;by_cases a5:day<0
   ·go_wp2_with(refine az rfl 48 _ _ rfl _ _ rfl rfl _ _ x (by kernel_rfl) (by simp) (by simp[Value.oneCell']) ?_)
    exact rT w.heap.size _ 3 0 rfl rfl rfl (aL _ _ _ _ _ _ x) (HO.o _)
   ·have a6:146097<=day:=(by omega);go_wp2_with(refine az rfl 48 _ _ rfl _ _ rfl rfl _ _ x (by kernel_rfl) (by simp) (by simp[Value.oneCell']) ?_)
    exact rT w.heap.size _ 3 0 rfl rfl rfl (aL _ _ _ _ _ _ x) (HO.o _)
  ·have O:Rb (mF l day=(0,0)):=by
    show _=_;unfold mF;rw[ax (by simpa using H0.o),ax hd]
   have ar:Rb (kY l day=(List.range n).map (gX l (wkB day) day)):=by
    show _=_;unfold kY;rw[O.o,aa.o];rfl
   have a5: ¬day<0:=fun e=>hd (.inl e);have a6: ¬146097<=day:=fun e=>hd (.inr e)
   have Hall:Rb (∀(g gk gm mb i:Nat),i<n->yW ⟨wB,n,g,gk,gm,mb,day,.slice z n y,l,gX l (wkB day) day⟩ (i:Int) (gX l (wkB day) day i)):=fun g gk gm mb i hi=>by
    have al:=HI.o;rw[T.o]at al;exact A5 (D:=⟨wB,n,g,gk,gm,mb,day,.slice z n y,l,gX l (wkB day) day⟩) al HL.o T.o H0.o (by show 0<=day;omega) (by show day<146097;omega) (fun _=>rfl) (muR l i+1) i hi (by show muR l i<muR l i+1;omega)
   have Hmb:=aE (run_make_row' (P:=prog) 78 4 (.bool false) 1 AG Cp rfl .i64 .i64 n (by omega) (by omega));rw[vX]at Hmb;have Hmm:=aE (yY n (by omega));go_wp2_with fail;refine se 12 (AJ wB n day (.slice z n y) l) [kn 22 (ag day),kn 23 (.slice z n y),kn 24 (.slice z n y),td 25,kn 26 (.slice z n y),kn 27 (ag (n:Int)),td 28,kn 29 (.slice z n y),kn 30 (ag (n:Int)),td 31,td 32,td 7,nk] (fun _=>⟨(aH _ _).drew,(fun h=>by cases h),(fun h=>by cases h),(fun h=>by cases h),(fun h=>by cases h),(fun h=>by cases h)⟩) (fun _ _ _ _ Z h=>h.below Z) (by kernel_rfl) (by kernel_rfl) (fun M φ L J b F l' hl hF=> ?_);simp only[kn,td,nk,dX,aQ,aT,Act.put,aA,aK,aJ]at hl;subst hl;simp only[dn,Nat.reduceAdd]at hF;dsimp only[kn,td,nk,dy,eJ,dY,Act.put];and_intros;all_goals first|exact trivial|intro S R hm K X
   all_goals try (go_simp;with_reducible exact X _ _ ⟨rfl,aH _ _⟩)
   ·have cN:=pJ us _ L (HI.o.below b.bel);rw[T.o]at cN;have I:=R 10 _ rfl (by kernel_rfl);go_simp;refine cN.mono ?_;rintro e' W' ⟨mb,rfl,_,N,a3⟩;rw[HL.o]at N;have f:=b.below a3;exact X _ _ ⟨trivial,fun _=>⟨f.bel,fun _=>⟨mb,dV ..,N⟩,fun e=>f.k (by simpa using e),fun e=>f.g (by simpa using e),(fun e=>by simp[I]at e),fun e=>f.d (by simpa using e)⟩,(fun e=>by simp[J]at e)⟩
   ·have aC:=Hmb.o L;have Z:=am L (.cells (fN n fun _=>false) 4);have I:=R 10 _ rfl (by kernel_rfl);have f:=b.below Z;go_simp;exact X _ _ ⟨trivial,fun _=>⟨f.bel,fun e=>f.m (by simpa using e),fun _=>⟨_,dV ..,b.bel.size,aG L _⟩,fun e=>f.g (by simpa using e),(fun e=>by simp[I]at e),fun e=>f.d (by simpa using e)⟩,(fun e=>by simp[J]at e)⟩
   ·have aC:=Hmm.o L;have Z:=am L (.cells (lm n) 55);have I:=R 10 _ rfl (by kernel_rfl);have f:=b.below Z;go_simp;exact X _ _ ⟨trivial,fun _=>⟨f.bel,fun e=>f.m (by simpa using e),fun e=>f.k (by simpa using e),fun _=>⟨_,dV ..,b.bel.size,aG L _⟩,(fun e=>by simp[I]at e),fun e=>f.d (by simpa using e)⟩,(fun e=>by simp[J]at e)⟩
   ·obtain⟨mb,B,_⟩:=b.m (S ⟨3,.data⟩ (by simp) rfl rfl);obtain⟨gk,C,_⟩:=b.k (S ⟨6,.data⟩ (by simp) rfl rfl);obtain⟨gm,E,_⟩:=b.g (S ⟨9,.data⟩ (by simp) rfl rfl);rw[B,C,E]at hF;go_simp;exact X _ _ ⟨trivial,fun _=>⟨b.bel,fun e=>b.m (by simpa using e),fun e=>b.k (by simpa using e),fun e=>b.g (by simpa using e),fun _=>by simp[oQ,B,C,E],fun e=>b.d (by simpa using e)⟩,(fun e=>by simp[J]at e)⟩
   ·have Z:=am L (.cells #[ag 0,af,.map none,af,af] 80);have f:=b.below Z;go_simp;exact X _ _ ⟨trivial,fun _=>⟨f.bel,fun e=>f.m (by simpa using e),fun e=>f.k (by simpa using e),fun e=>f.g (by simpa using e),fun e=>f.a (by simpa using e),fun _=>⟨_,dV ..,b.bel.size,aG L _⟩⟩,(fun e=>by simp[J]at e)⟩
   ·obtain⟨H,B,N⟩:=b.m (S ⟨3,.phase⟩ (by simp) rfl rfl);obtain⟨G,C,ay,aP⟩:=b.k (S ⟨6,.phase⟩ (by simp) rfl rfl);obtain⟨u,E,a0,aR⟩:=b.g (S ⟨9,.phase⟩ (by simp) rfl rfl);obtain⟨g,e7,b7,k7⟩:=b.d (S ⟨11,.data⟩ (by simp) rfl rfl);have U:=b.a (S ⟨10,.data⟩ (by simp) rfl rfl);rw[B,C,E]at U;rw[U,e7]at hF;have aM:=MD.begin (day:=day) (sl:= .slice z n y) (V:=gX l (wkB day) day) b.bel N b7 k7 ay aP a0 aR;refine eQ 80 _ _ rfl _ #[ag day,.slice z n y,.map (some H),.slice (some (ae G 0)) n n,.slice (some (ae u 0)) n n] (by simp[Act.eval,hF]) (by simp[Act.eval,hF]) _ _ k7 (by kernel_rfl) (by simp) (by simp[Value.oneCell']) ?_;refine X undef _ ⟨trivial,(fun c=>by simp at c),fun _=> ?_⟩;simp only[d8,aQ,aT,Act.put,aA,aK,aJ,B,C,E,U,e7];generalize L.setRow g #[ag day,.slice z n y,.map (some H),.slice (some (ae G 0)) n n,.slice (some (ae u 0)) n n]=W5 at*;have cR:=Hall.o g G u H;have HC:=aE cR;go_wp2_with fail;go_loopw [8,35] (fun _ t wr=> ∃j:Nat,t=ag (j:Int)/\j<=n/\ ∃K,MI ⟨wB,n,g,G,u,H,day,.slice z n y,l,gX l (wkB day) day⟩ K wr/\ ∀k,k<j->K k=true) (fun _ t _=>n-(intOf t).toNat);case atStart=>exact⟨0,rfl,by omega,_,aM,fun k hk=>by omega⟩
    case round=>
     obtain⟨j,rfl,hj,K,N,ad⟩:=hrel;have aU:(0:Int)<=(j:Int):=(by omega);have HA:=aE ad;by_cases a9:j<n
     ·have an:(j:Int)<(n:Int):=(by omega);have cJ:=HC.o j a9 K wr N;go_wp2_with fail;refine cJ.mono ?_;rintro r W6 ⟨rfl,⟨K',a2,a7,a1⟩,_⟩
      have HN:Rb (∃K,MI ⟨wB,n,g,G,u,H,day,.slice z n y,l,gX l (wkB day) day⟩ K W6/\ ∀k,k<j+1->K k=true):=⟨K',a2,fun k hk=>by
       by_cases e:k=j
       ·subst e;simpa using a1
       ·exact a7 k (HA.o k (by omega))⟩
      go_wp2_with fail;go_roundw;case rel=>exact⟨j+1,by go_num,by omega,HN.o⟩
      case measure=>simp[intOf];omega
     ·have ej:j=n:=(by omega);have an: ¬(j:Int)<(n:Int):=(by omega);have k4:=ak 4 N.blk;have aj:=N.bel;have x:=ai aj HR.o
      have HO:Rb (∀cs,vG l day w (.returned (.tuple #[.slice (some (ae u 0)) n n,.agg #[ag 0,ag 0]])) (wr.setRow w.heap.size cs)):=fun cs=>by
       obtain⟨M,h1,h2⟩:=N;have a4:=below_setRow (aw s.o aj) (aD w.heap.size) cs;refine⟨_,by rw[O.o];rfl,?_,a4⟩;rw[ar.o];refine Nz ab.o (fun i hi=> ?_);have h3:=h2 i hi (HA.o i (by omega));have h4:=MSt.meant h1 i hi;rw[h3]at h4;intro q v hv;rw[<-h4 q v hv];exact et (aW _ _ _ _ (by have:=(MSt.lo h1).2.2;have:=s.o.size;have:=aI HR.o;dsimp only at*;omega))
      go_wp2_with(refine az rfl 48 _ _ rfl _ _ rfl rfl _ _ x (by kernel_rfl) (by simp) (by simp[Value.oneCell']) ?_)
      exact rT w.heap.size _ 0 0 rfl rfl rfl (aL _ _ _ _ _ _ x) (HO.o _)
 ·have H0:=aE h0
  have O:Rb (mF l day=dC l):=by
   show _=_;unfold mF;rw[aB h0]
  have aV:((dC l).1 !=0)=true:=(by simpa using h0);have bC:=am w1 (.cells #[ag (dC l).1,ag ((dC l).2:Int)] 48);have s:=aE (aw Q bC);have x:=ai bC m2;have m3:=aG w1 (.cells #[ag (dC l).1,ag ((dC l).2:Int)] 48);generalize aO:w1.alloc (.cells #[ag (dC l).1,ag ((dC l).2:Int)] 48)=wB at*
  have HO:Rb (∀W,aq w W->vG l day w (.returned (.tuple #[af,.agg #[ag (dC l).1,ag ((dC l).2:Int)]])) W):=fun W hW=>by
   have Y:kY l day=[]:=by
    unfold kY;rw[O.o,ax H0.o]
   refine⟨_,by rw[O.o],?_,hW⟩;rw[Y];exact CU _ _ _
  have z0:=ak 0 m3;have z1:=ak 1 m3;have y0:=ak 0 x;have y1:=ak 1 x;have x0:=bo _ _ 0 _ _ x;have x1:=bo _ _ 1 _ _ x;have aF:=aY _ _ 1 _ _ (ag ((dC l).2:Int)) (aY _ _ 0 _ _ (ag (dC l).1) x);have ao:=aE ((s.o.setCell (p:=⟨w.heap.size,0,none⟩) (aD _) (ag (dC l).1)).setCell (p:=⟨w.heap.size,1,none⟩) (aD _) (ag ((dC l).2:Int)));have av:=aE aF;generalize (dC l).1=er at*;generalize (((dC l).2:Nat):Int)=A at*;go_wp2_with fail;go_region;go_wp2_with fail;exact rT w.heap.size _ er A rfl rfl rfl av.o (HO.o _ (du ao.o 1))
end Go.Proofs.YtlkehieagdkgiaaGreatDoor
