/- Texts of the proof. -/
import Derived.Test.YtlkehieagdkgiaaGreatDoorPeZb
set_option maxRecDepth 100000
set_option maxHeartbeats 8000000
namespace Go.Proofs.YtlkehieagdkgiaaGreatDoor
open Go.Proofs.Tryz Go.RowKit Lx Vx Mx Msk
section
def uc:List Bool->Nat
 |[]=>0
 |b::l=>(if b then 0 else 1)+uc l
theorem GY: ∀(l:List Bool) (i:Nat),l[i]? =some false->uc (l.set i true)+1=uc l
 |[],i,h=>by simp at h
 |b::l,0,h=>by
  simp at h;subst h;simp[uc];omega
 |b::l,i+1,h=>by
  have:=GY l i (by simpa using h);simp only[aK,uc];omega
theorem Eo: ∀(l:List Bool),uc l=0-> ∀i:Nat,l[i]? ≠some false
 |[],_,i=>by simp
 |b::l,h,0=>by
  cases b
  ·simp[uc]at h
  ·simp
 |b::l,h,i+1=>by
  have:uc l=0:=(by simp only[uc]at h;omega);simpa using Eo l this i
theorem GZ: ∀n,uc (List.replicate n false)=n
 |0=>rfl
 |n+1=>by simp only[List.replicate_succ,uc,GZ n];simp;omega
section
variable {P:Program} {ops:Array Oper} {Q:Exit->Act->World->Prop}
theorem vT {listed:Array Bool}{i:Nat}(h:i∈Region.ready .any ops listed):listed.toList[i]? =some false:=by
 have:=(mem_ready.1 h).1;by_cases hi:i<listed.size
 ·simp[Array.getD,hi]at this;simp[hi,this]
 ·simp[Array.getD,hi]at this
theorem Ar (I:Array Bool->Act->World->Prop)(e: ∀b a w i,I b a w->i∈Region.ready .any ops b->wpOp P ops Q i (fun g w'=>I (b.setIfInBounds i true) g w') a w)
  (d: ∀b a w,I b a w->Region.ready .any ops b=[]->Q .normal a w):
  ∀(c:Nat) (b:Array Bool) (a:Act) (w:World),uc b.toList<=c->I b a w->wpAny P .any ops Q c b a w
 |0,b,a,w,m,h=>by
  have f:Region.ready .any ops b=[]:=by
   cases f:Region.ready .any ops b with
   |nil=>rfl
   |cons i l=>
    have j:=vT (ops:=ops) (listed:=b) (i:=i) (by rw[f];simp);exact absurd j (Eo _ (by omega) i)
  exact⟨f,d _ _ _ h f⟩
 |c+1,b,a,w,m,h=>by
  refine⟨fun f=>d _ _ _ h f,fun i hi=> ?_⟩;have j:=vT hi;have n:=GY _ i j;refine wpOp_mono (fun g w' k=> ?_) (e b a w i h hi);refine Ar I e d c _ g w' ?_ k;rw[Array.toList_setIfInBounds];omega
def Fi (ops:Array Oper):Bool:=(List.range ops.size).all fun i=>match ops[i]? with|none=>true|some o=>o.after.all fun e=> !Region.binds .any e||decide (e.on<i)
theorem G0 (m:Fi ops=true){a:Array Bool}(o:Region.ready .any ops a=[]): ∀i,i<ops.size->a.getD i true=true:=by
 intro i;induction i using Nat.strongRecOn with
 |ind i q=>
  intro hi;cases hb:a.getD i true with
  |true=>rfl
  |false=>
   exfalso;have k:ops[i]? =some ops[i]:=(by simp[hi])
   have j:i∈Region.ready .any ops a:=mem_ready.2 ⟨hb,ops[i],k,fun e n b=>by
    have c:=dD.1 m i (by simpa using hi);rw[k]at c;have d:=Array.all_eq_true'.1 c e n;have l:e.on<i:=(by rw[b]at d;simpa using d);have f:=q e.on l (by omega);by_cases p:e.on<a.size
    ·simp[Array.getD,p]at f⊢;exact f
    ·exfalso
     have r:i<a.size:=by
      by_cases g:i<a.size
      ·exact g
      ·simp[Array.getD,g]at hb
     omega⟩
   rw[o]at j;cases j
def Og (ops:Array Oper):Bool:=(List.range ops.size).all fun i=>(List.range ops.size).all fun j=>i==j||(match(ops[i]?).bind (·.dst),(ops[j]?).bind (·.dst) with|some s,some t=>s !=t|_,_=>true)
def inB (ops:Array Oper)(n:Nat):Bool:=(List.range ops.size).all fun i=>(match(ops[i]?).bind (·.dst) with|some s=>decide (s<n)|none=>true)
structure St (ops:Array Oper)(sp:Nat->Value->World->Prop)(a0:Act)(listed:Array Bool)(a:Act)(w:World):Prop where
 defs:a.defers=a0.defers
 size:a.tmps.size=a0.tmps.size
 kept: ∀s,(∀i o,ops[i]? =some o->listed.getD i true=true->o.dst≠some s)->a.tmps.getD s undef=a0.tmps.getD s undef
 has: ∀i o,ops[i]? =some o->listed.getD i true=true-> ∀s,o.dst=some s->sp i (a.tmps.getD s undef) w
theorem kH (t:Array Value)(s:Nat)(v:Value)(h:s<t.size):(t.setIfInBounds s v).getD s undef=v:=by simp[Array.getD,h]
theorem jZ (t:Array Value)(s a:Nat)(v:Value)(h:s≠a):(t.setIfInBounds s v).getD a undef=t.getD a undef:=by
 by_cases b:a<t.size
 ·simp[Array.getD,b,h]
 ·simp[Array.getD,b]
theorem mH (l:Array Bool)(i j:Nat):(l.setIfInBounds i true).getD j true=(decide (i=j)||l.getD j true):=by
 by_cases b:j<l.size
 ·by_cases a:i=j
  ·subst a;simp[Array.getD,b]
  ·simp[Array.getD,b,a]
 ·simp[Array.getD,b]
def Oh (ops:Array Oper)(s:Nat):Bool:=ops.all fun o=>o.dst !=some s
theorem nd {s:Nat}(h:Oh ops s=true)(j:Nat)(p:Oper)(a:ops[j]? =some p):p.dst≠some s:=by
 have:=Array.all_eq_true'.1 h p (Array.mem_of_getElem? a);simpa using this
theorem zC {id:Nat}{r:Act}{w:World}(hm:P.follows .mixedOrders=true)(z:Fi ops=true)(D:Og ops=true)(U:inB ops r.tmps.size=true)
  (J:(Nat->Bool)->Act->World->Prop) (sp:Nat->Value->World->Prop)
  (hJ: ∀L:Nat->Bool,(∀i,i<ops.size->L i=false)->J L r {w with drawn:=w.drawn+1})
  (B: ∀(i:Nat) (o:Oper) (L:Nat->Bool) (a:Act) (W:World),ops[i]? =some o->L i=false->(∀e∈o.after,Region.binds .any e=true->L e.on=true)->J L a W->
    a.defers=r.defers->(∀s,(∀(j:Nat) (p:Oper),ops[j]? =some p->L j=true->p.dst≠some s)->a.tmps.getD s undef=r.tmps.getD s undef)->(∀(j:Nat) (p:Oper),ops[j]? =some p->L j=true-> ∀s,p.dst=some s->sp j (a.tmps.getD s undef) W)->
    wpOp P ops Q i (fun M C=> ∃v,M=a.put o.dst v/\(o.dst≠none->sp i v C)/\(∀j u,L j=true->sp j u W->sp j u C)/\J (fun k=>decide (i=k)||L k) M C) a W)
  (E: ∀(L:Nat->Bool) (a:Act) (W:World),(∀i,i<ops.size->L i=true)->J L a W->a.defers=r.defers->a.tmps.size=r.tmps.size->(∀s,(∀(j:Nat) (p:Oper),ops[j]? =some p->p.dst≠some s)->a.tmps.getD s undef=r.tmps.getD s undef)->
    (∀(j:Nat) (p:Oper),ops[j]? =some p-> ∀s,p.dst=some s->sp j (a.tmps.getD s undef) W)->Q .normal a W):(Code.region id ops true).wp P Q r w:=by
 refine wp_region_any hm (Ar (fun b a W=>b.size=ops.size/\J (fun i=>b.getD i true) a W/\St ops sp r b a W) ?_ ?_ _ _ _ _ ?_ ?_)
 ·rintro b a W i ⟨I,V,st⟩ hi;obtain⟨F,o,y,l⟩:=mem_ready.1 hi
  have hL: ∀e∈o.after,Region.binds .any e=true->b.getD e.on true=true:=fun e he hb=>by
   have:=l e he hb;by_cases I:e.on<b.size
   ·simp[Array.getD,I]at this⊢;exact this
   ·simp[Array.getD,I]
  have H:i<ops.size:=(dr.1 y).1;refine wpOp_mono ?_ (B i o (fun i=>b.getD i true) a W y F hL V st.defs (fun s h=>st.kept s h) (fun j p c m s A=>st.has j p c m s A));rintro M C ⟨v,rfl,hv,q,X⟩;have G:(fun k=>(b.setIfInBounds i true).getD k true)=fun k=>decide (i=k)||b.getD k true:=funext fun k=>mH b i k;refine⟨by simpa using I,by rw[G];exact X,?_⟩
  have R: ∀(j:Nat) (p:Oper) s t,ops[j]? =some p->i≠j->o.dst=some s->p.dst=some t->s≠t:=fun j p s t c x O Z=>by
   have K:=dD.1 D i (by simpa using H);have Y:=dD.1 K j (by simpa using(dr.1 c).1);rw[y,c]at Y;simp only[Option.bind_some,O,Z]at Y;simpa[x] using Y
  have T: ∀s,o.dst=some s->s<a.tmps.size:=fun s O=>by
   have K:=dD.1 U i (by simpa using H);rw[y]at K;simp only[Option.bind_some,O]at K;rw[st.size];simpa using K
  have n: ∀j,(b.setIfInBounds i true).getD j true=true->i=j\/b.getD j true=true:=fun j h=>by
   rw[mH]at h;simpa using h
  cases hd:o.dst with
  |none=>
   refine⟨st.defs,st.size,fun s h=> ?_,fun j p c m s f=> ?_⟩
   ·exact st.kept s fun j p c m=>h j p c (by rw[mH,m];simp)
   ·rcases n j m with rfl|g
    ·rw[y]at c;have:=aN c;subst this;rw[hd]at f;cases f
    ·exact q j _ g (st.has j p c g s f)
  |some d=>
   have S:=T d hd;refine⟨st.defs,by simpa[Act.put] using st.size,fun s h=> ?_,fun j p c m s f=> ?_⟩
   ·have A:d≠s:=fun e=>by
     subst e;exact h i o y (by rw[mH];simp) hd
    show(a.tmps.setIfInBounds d v).getD s undef=_;rw[jZ _ _ _ _ A];exact st.kept s fun j p c m=>h j p c (by rw[mH,m];simp)
   ·show sp j ((a.tmps.setIfInBounds d v).getD s undef) C;rcases n j m with rfl|g
    ·rw[y]at c;have:=aN c;subst this;rw[hd]at f;have:=aN f;subst this;rw[kH _ _ _ S];exact hv (by rw[hd];simp)
    ·by_cases x:i=j
     ·subst x;rw[F]at g;cases g
     ·rw[jZ _ _ _ _ (R j p d s c x hd f)];exact q j _ g (st.has j p c g s f)
 ·rintro b a W ⟨I,V,st⟩ hr;have l:=G0 z hr;exact E _ a W l V st.defs st.size (fun s h=>st.kept s fun j p c _=>h j p c) (fun j p c s f=>st.has j p c (l j (dr.1 c).1) s f)
 ·simp[GZ]
 ·have F: ∀i,i<ops.size->(Array.replicate ops.size false).getD i true=false:=fun i hi=>by simp[Array.getD,hi]
  refine⟨by simp,hJ _ F,rfl,rfl,fun _ _=>rfl,fun i o y m s _=> ?_⟩;rw[F i (dr.1 y).1]at m;cases m
end
end
theorem gd (A:Act)(s:Nat):A.tmps[s]?.getD undef=A.tmps.getD s undef:=by simp
section
def putAll (b:List (Nat×Value))(a:Act):Act:=b.foldl (fun a p=>a.put (some p.1) p.2) a
theorem aT (a:Act):putAll [] a=a:=rfl
theorem aQ (p:Nat×Value)(b:List (Nat×Value))(a:Act):putAll (p::b) a=putAll b (a.put (some p.1) p.2):=rfl
theorem tO: ∀(b:List (Nat×Value)) (a:Act),(putAll b a).defers=a.defers
 |[],_=>rfl
 |p::b,a=>(tO b (a.put (some p.1) p.2)).trans rfl
theorem r9: ∀(b:List (Nat×Value)) (a:Act),(putAll b a).tmps.size=a.tmps.size
 |[],_=>rfl
 |p::b,a=>(r9 b (a.put (some p.1) p.2)).trans (by simp[Act.put])
theorem lh: ∀(b:List (Nat×Value)) (a:Act) (s:Nat),(∀p∈b,p.1≠s)->(putAll b a).tmps.getD s undef=a.tmps.getD s undef
 |[],_,_,_=>rfl
 |p::b,a,s,h=>by
  rw[aQ,lh b _ s (fun q c=>h q (bL _ c))];exact jZ _ _ _ _ (h p bq)
theorem vU: ∀(b:List (Nat×Value)) (a:Act) (j s:Nat) (v:Value),(b.map (fun p=>some p.1)).Nodup->s<a.tmps.size->b[j]? =some (s,v)->(putAll b a).tmps.getD s undef=v
 |[],_,_,_,_,_,_,h=>by simp at h
 |p::b,a,0,s,v,c,d,h=>by
  simp at h;subst h;rw[aQ,lh b _ s ?_]
  ·exact kH _ _ _ d
  ·intro q f e;rw[dO,List.nodup_cons]at c;exact c.1 (dR.2 ⟨q,f,by rw[e]⟩)
 |p::b,a,j+1,s,v,c,d,h=>by
  rw[aQ];rw[dO,List.nodup_cons]at c;exact vU b _ j s v c.2 (by simpa[Act.put] using d) (by simpa using h)
theorem Oi {A a0:Act}(a:List (Nat×Value))(o:A.defers=a0.defers)(z:A.tmps.size=a0.tmps.size)(u:(a.map (fun p=>some p.1)).Nodup)
  (r: ∀s,(∀p∈a,p.1≠s)->A.tmps.getD s undef=a0.tmps.getD s undef) (q: ∀(j s:Nat) (v:Value),a[j]? =some (s,v)->A.tmps.getD s undef=v):A=putAll a a0:=by
 have k:=tO a a0;have y:=r9 a a0
 have l: ∀s,s<a0.tmps.size->A.tmps.getD s undef=(putAll a a0).tmps.getD s undef:=by
  intro s c;by_cases h: ∃p∈a,p.1=s
  ·obtain⟨p,b,rfl⟩:=h;obtain⟨j,g⟩:=List.getElem?_of_mem b;rw[q j _ _ g,vU a a0 j _ _ u c g]
  ·have f: ∀p∈a,p.1≠s:=fun p b e=>h ⟨p,b,e⟩;rw[r s f,lh a a0 s f]
 generalize putAll a a0=F at*;obtain⟨t,d⟩:=A;obtain⟨w,x⟩:=F;dsimp only at*
 have:t=w:=by
  apply Array.ext
  ·omega
  ·intro i m n;have:=l i (by omega);simpa[Array.getD,m,n] using this
 rw[this,o,k]
section
variable {P:Program} {ops:Array Oper} {Q:Exit->Act->World->Prop} {id:Nat} {a0:Act} {w:World}
def Fj (ops:Array Oper):Bool:=(List.range (ops.size-1)).all fun i=>(List.range ops.size).any fun j=>decide (i<j)&&match ops[j]? with|none=>false|some o=>o.after.any fun e=>Region.binds .any e&&decide (e.on=i)
theorem Ep (g:Fj ops=true){n:Nat}(u:ops.size=n+1){L:Nat->Bool}(f: ∀(j:Nat) (p:Oper),ops[j]? =some p->L j=true-> ∀e∈p.after,Region.binds .any e=true->L e.on=true)(c:L n=true): ∀k i,n-i<=k->i<=n->L i=true
 |0,i,t,hi=>by rw[show i=n by omega];exact c
 |k+1,i,t,hi=>by
  by_cases e:i=n
  ·rw[e];exact c
  have m:=dD.1 g i (by simp;omega);obtain⟨j,s,d⟩:=List.any_eq_true.1 m;simp at s;simp only[bz,bT]at d;obtain⟨r,a⟩:=d;cases ho:ops[j]? with
  |none=>rw[ho]at a;cases a
  |some o=>
   rw[ho]at a;obtain⟨l,q,b⟩:=Array.any_eq_true'.1 a;simp only[bz,bT]at b;have:=f j o ho (Ep g u f c k j (by omega) (by omega)) l q b.1;rw[b.2]at this;exact this
end
end
section
section
variable {P:Program} {ops:Array Oper} {Q:Exit->Act->World->Prop} {id:Nat} {a0:Act} {w:World}
def Fk (ops:Array Oper)(L:Nat->Bool):Prop:= ∀(j:Nat) (p:Oper),ops[j]? =some p->L j=true-> ∀e∈p.after,Region.binds .any e=true->L e.on=true
variable {m:Nat} {Pre Post:World->Prop} {L:Nat->Bool} {W W':World} {i:Nat}
end
end
section
section
variable {P:Program} {ops:Array Oper} {Q:Exit->Act->World->Prop} {id:Nat} {a0:Act} {w:World}
def oQ (φ:Nat->Value)(d:Option Nat)(v:Value):Nat->Value:=fun s=>if d=some s then v else φ s
theorem dH {φ:Nat->Value}{d s:Nat}{v:Value}(h:d≠s):oQ φ (some d) v s=φ s:=by
 unfold oQ;rw[ax (fun e=>h (aN e))]
theorem dV {φ:Nat->Value}{d:Nat}{v:Value}:oQ φ (some d) v d=v:=by
 unfold oQ;rw[aB rfl]
end
end
section
section
variable {P:Program} {ops:Array Oper} {Q:Exit->Act->World->Prop} {id:Nat} {a0:Act} {w:World}
def kn (s:Nat)(v:Value):Option Nat×Option Value×Nat:=(some s,some v,0)
def dk (s:Nat)(v:Value):Option Nat×Option Value×Nat:=(some s,some v,1)
def td (s:Nat):Option Nat×Option Value×Nat:=(some s,none,1)
def lkN (s:Nat)(v:Value):Option Nat×Option Value×Nat:=(some s,some v,2)
def nk:Option Nat×Option Value×Nat:=(none,none,1)
def d8:List (Option Nat×Option Value×Nat)->(Nat->Value)->List (Nat×Value)
 |[],_=>[]
 |(none,_)::l,φ=>d8 l φ
 |(some s,some v,_)::l,φ=>(s,v)::d8 l φ
 |(some s,none,_)::l,φ=>(s,φ s)::d8 l φ
def dX:List (Option Nat×Option Value×Nat)->(Nat->Value)->List (Nat×Value)
 |[],_=>[]
 |(none,_)::l,φ=>dX l φ
 |(some s,some v,k)::l,φ=>match k with|2=>dX l φ|_=>(s,v)::dX l φ
 |(some s,none,_)::l,φ=>(s,φ s)::dX l φ
def dY (P:Program)(ops:Array Oper)(X:Exit->World->Prop)(F:Act)(o:Oper)(W:World)(R:Value->World->Prop):Prop:=
 ∀K:Act->World->Prop,(∀v a,R v a->K (F.put o.dst v) a)->if Region.wanted o (yielded ops F.tmps)=true then Oper.wp P o F W K (fun ex _ w=>X ex w) else K (F.put o.dst undef) W
theorem BJ (A:Act)(t:Nat):A.eval (.tmp t)=A.tmps.getD t undef:=by simp[Act.eval]
theorem Fl (A B:Array Value)(t:Nat)(h:A.getD t undef=B.getD t undef):(match A[t]? with|some (.bool b)=>some b|_=>none)=(match B[t]? with|some (.bool b)=>some b|_=>none):=by
 have e: ∀C:Array Value,(match C[t]? with|some (.bool b)=>some b|_=>none)=(match C.getD t undef with| .bool b=>some b|_=>none):=fun C=>by
  by_cases a:t<C.size
  ·simp[Array.getD,a];cases C[t]<;>rfl
  ·simp[Array.getD,a,undef]
 rw[e,e,h]
theorem J2 {A B:Act}{d:Option Nat}{v:Value}{R:Value->Prop}(c: ∀s,d=some s->s<B.tmps.size)(h: ∃b,B.put d v=B.put d b/\R b): ∃b,A.put d v=A.put d b/\R b:=by
 obtain⟨b,f,e⟩:=h;cases d with
 |none=>exact⟨b,rfl,e⟩
 |some s=>
  have g:=congrArg (fun a:Act=>a.tmps.getD s undef) f;have i:v=b:=(kH _ _ v (c s rfl)).symm.trans (g.trans (kH _ _ b (c s rfl)));exact⟨b,by rw[i],e⟩
theorem Fm {i:Nat}{o:Oper}{A B:Act}{W:World}{R:Value->World->Prop}{X:Exit->World->Prop}(w: ∀ex W,X ex W->Q ex A W)(J:ops[i]? =some o)(L: ∀F b,o.op≠ .select F b)(p: ∀t∈o.looksAt ops,A.tmps.getD t undef=B.tmps.getD t undef)(y: ∀s,o.dst=some s->s<B.tmps.size)
  (h:dY P ops X B o W R):wpOp P ops Q i (fun u k=> ∃v,u=A.put o.dst v/\R v k) A W:=by
 have I:execOp A.eval o=execOp B.eval o:=execOp_congr o L fun x j=>by
  cases x with
  |tmp t=>rw[BJ,BJ];exact p t (ft _ (List.mem_filterMap.2 ⟨.tmp t,by simpa using j,rfl⟩))
  |_=>rfl
 have M:Region.wanted o (yielded ops A.tmps)=Region.wanted o (yielded ops B.tmps):=by
  unfold Region.wanted;cases hg:o.guard with
  |none=>rfl
  |some G=>
   obtain⟨g,E⟩:=G
   have N:yielded ops A.tmps g=yielded ops B.tmps g:=by
    unfold yielded;cases ht:(ops[g]?).bind (·.dst) with
    |none=>rfl
    |some t=>exact Fl _ _ _ (p t (by simp[Oper.looksAt,hg,ht]))
   simp only[N]
 have d:=h (fun u k=> ∃v,u=B.put o.dst v/\R v k) fun v k K=>⟨v,rfl,K⟩
 have q: ∀{v:Value} {k:World},(∃l,B.put o.dst v=B.put o.dst l/\R l k)-> ∃l,A.put o.dst v=A.put o.dst l/\R l k:=fun h=>J2 (R:=fun v=>R v _) y h;unfold wpOp;rw[J];show if Region.wanted o (yielded ops A.tmps)=true then _ else _;rw[M];split
 ·rename_i z;rw[aB z]at d;refine .inl ?_;unfold Oper.wp at d⊢;rw[I];generalize (execOp B.eval o).run P W=r at*;cases r with
  |ok n w'=>
   cases n with
   |value v=>exact q d
   |skip=>exact q d
   |defer O=>
    exfalso;obtain⟨l,H,_⟩:=d;have D:=congrArg (fun a:Act=>a.defers.length) H;cases hd:o.dst<;>rw[hd]at D<;>simp[Act.put]at D
   |enter f m=>
    refine Calls.mono d fun e C j=> ?_;cases e with
    |returned v=>exact q j
    |panicked c=>exact w _ _ j
    |outgrown=>obtain⟨_,_,j⟩:=j;exact⟨_,_,w _ _ j⟩
   |row row m=>exact Rows.mono d fun v C j=>q j
   |_=>exact(d:False).elim
  |halt x w'=>
   cases x with
   |panic v=>exact w _ _ d
   |_=>exact(d:False).elim
 ·rename_i z;rw[ax z]at d;exact q d
def tW (o:Oper)(j:Nat):Bool:=o.after.any fun e=>Region.binds .any e&&e.on==j
def kS (a:List (Option Nat×Option Value×Nat))(i:Nat):Bool:=match a[i]? with|some (_,_,1)=>true|_=>false
def eJ (P:Program)(ops:Array Oper)(X:Exit->World->Prop)(b:List (Option Nat×Option Value×Nat))(J:(Nat->Bool)->(Nat->Value)->World->Prop)(F:Act)(φ:Nat->Value)(M:Nat->Bool)(W:World)(i:Nat)(o:Oper)(p:Option Nat×Option Value×Nat):Prop:=
 (∀e∈o.after,Region.binds .any e=true->kS b e.on=true->M e.on=true)->(∀(j:Nat) (q:Oper),ops[j]? =some q->tW q i=true->M j=false)->M i=false->
  dY P ops X F o W fun v a=>(match p.2.1 with|some u=>v=u|none=>True)/\(match p.2.2 with|1=>J (fun k=>decide (i=k)||M k) (match p with|(some s,none,_)=>oQ φ (some s) v|_=>φ) a|_=>aq W a)
def dy (D:Nat->Oper->Option Nat×Option Value×Nat->Prop):Nat->List Oper->List (Option Nat×Option Value×Nat)->Prop
 |i,o::os,p::a=>D i o p/\dy D (i+1) os a
 |_,_,_=>True
theorem As {D:Nat->Oper->Option Nat×Option Value×Nat->Prop}: ∀{i:Nat} {os:List Oper} {c:List (Option Nat×Option Value×Nat)},dy D i os c-> ∀{j:Nat} {o:Oper} {p:Option Nat×Option Value×Nat},os[j]? =some o->c[j]? =some p->D (i+j) o p
 |i,o::os,p::c,h,0,d,e,a,b=>by
  have f:o=d:=(by simpa using a);have g:p=e:=(by simpa using b);subst f g;exact h.1
 |i,o::os,p::c,h,j+1,d,e,a,b=>by
  have:=As h.2 (j:=j) (by simpa using a) (by simpa using b);rwa[show i+1+j=i+(j+1) by omega]at this
 |_,[],_,_,j,_,_,a,_=>by simp at a
 |_,_::_,[],_,j,_,_,_,b=>by simp at b
def Oj (ops:Array Oper)(a:List (Bool×Nat)):Bool:=(List.range ops.size).all fun i=>match ops[i]? with
 |none=>true
 |some o=>(match o.op with| .select _ _=>false|_=>true)&&(o.looksAt ops).all fun t=>(List.range ops.size).all fun j=>match ops[j]? with
  |none=>true
  |some p=>p.dst !=some t||(if(a.getD j (true,0)).2==2 then i==j||tW p i else !(a.getD j (true,0)).1||tW o j)
theorem wt {o:Oper}{j:Nat}{L:Nat->Bool}(h:tW o j=true)(b: ∀e∈o.after,Region.binds .any e=true->L e.on=true):L j=true:=by
 obtain⟨e,c,a⟩:=Array.any_eq_true'.1 h;simp only[bz,beq_iff_eq]at a;rw[<-a.2];exact b e c a.1
theorem s7 {φ:Nat->Value}: ∀{ds:List (Option Nat×Option Value×Nat)} {s:Nat} {v:Value},(s,v)∈d8 ds φ-> ∃(j k:Nat),ds[j]? =some (some s,some v,k)\/(ds[j]? =some (some s,none,k)/\v=φ s)
 |[],s,v,h=>by cases h
 |(none,x)::l,s,v,h=>by
  obtain⟨j,k,h⟩:=s7 (ds:=l) h;exact⟨j+1,k,by simpa using h⟩
 |(some t,some u,k)::l,s,v,h=>by
  rcases bO.1 h with h|h
  ·cases h;exact⟨0,k,.inl rfl⟩
  ·obtain⟨j,k,h⟩:=s7 (ds:=l) h;exact⟨j+1,k,by simpa using h⟩
 |(some t,none,k)::l,s,v,h=>by
  rcases bO.1 h with h|h
  ·cases h;exact⟨0,k,.inr ⟨rfl,rfl⟩⟩
  ·obtain⟨j,k,h⟩:=s7 (ds:=l) h;exact⟨j+1,k,by simpa using h⟩
theorem nL {φ:Nat->Value}: ∀(a:List (Option Nat×Option Value×Nat)),(d8 a φ).map (fun p=>p.1)=a.filterMap (fun p=>p.1)
 |[]=>rfl
 |(none,x)::l=>nL l
 |(some t,some u,_)::l=>by simp[d8,nL l]
 |(some t,none,_)::l=>by simp[d8,nL l]
theorem G2 {φ:Nat->Value}{s:Nat}{v:Value}{l:List (Option Nat×Option Value×Nat)}:dX ((some s,some v,2)::l) φ=dX l φ:=rfl
theorem tX {φ:Nat->Value}{s k:Nat}{v:Value}{l:List (Option Nat×Option Value×Nat)}(h:k≠2):dX ((some s,some v,k)::l) φ=(s,v)::dX l φ:=by
 show(match k with|2=>_|_=>_)=_;split
 ·exact absurd rfl h
 ·rfl
theorem mN {φ:Nat->Value}: ∀{ds:List (Option Nat×Option Value×Nat)} {s:Nat} {v:Value},(s,v)∈dX ds φ-> ∃(j k:Nat),(ds[j]? =some (some s,some v,k)/\k≠2)\/(ds[j]? =some (some s,none,k)/\v=φ s)
 |[],s,v,h=>by cases h
 |(none,x)::l,s,v,h=>by
  obtain⟨j,k,h⟩:=mN (ds:=l) h;exact⟨j+1,k,by simpa using h⟩
 |(some t,some u,k)::l,s,v,h=>by
  by_cases a:k=2
  ·subst a;rw[G2]at h;obtain⟨j,k,h⟩:=mN (ds:=l) h;exact⟨j+1,k,by simpa using h⟩
  ·rw[tX a]at h;rcases bO.1 h with h|h
   ·cases h;exact⟨0,k,.inl ⟨rfl,a⟩⟩
   ·obtain⟨j,k,h⟩:=mN (ds:=l) h;exact⟨j+1,k,by simpa using h⟩
 |(some t,none,k)::l,s,v,h=>by
  rcases bO.1 h with h|h
  ·cases h;exact⟨0,k,.inr ⟨rfl,rfl⟩⟩
  ·obtain⟨j,k,h⟩:=mN (ds:=l) h;exact⟨j+1,k,by simpa using h⟩
theorem BK {φ:Nat->Value}: ∀{ds:List (Option Nat×Option Value×Nat)} {j s k:Nat} {x:Option Value},ds[j]? =some (some s,x,k)->(k≠2\/x=none)-> ∃v,(s,v)∈dX ds φ
 |(d,c,f)::l,0,s,k,x,h,a=>by
  have e:(d,c,f)=(some s,x,k):=(by simpa using h);cases e;cases c with
  |none=>exact⟨_,bq⟩
  |some u=>
   rcases a with a|a
   ·exact⟨u,by rw[tX a];exact bq⟩
   ·cases a
 |(d,c,f)::l,j+1,s,k,x,h,a=>by
  obtain⟨v,b⟩:=BK (ds:=l) (j:=j) (by simpa using h) a;refine⟨v,?_⟩;cases d with
  |none=>exact b
  |some t=>
   cases c with
   |none=>exact bL _ b
   |some u=>
    by_cases g:f=2
    ·subst g;exact b
    ·rw[tX g];exact bL _ b
theorem xS: ∀(b:List (Nat×Value)) (a:Act) (s:Nat),s<a.tmps.size->(∃v,(s,v)∈b)-> ∃v,(s,v)∈b/\(putAll b a).tmps.getD s undef=v
 |p::b,a,s,f,h=>by
  by_cases d: ∃v,(s,v)∈b
  ·obtain⟨v,c,e⟩:=xS b (a.put (some p.1) p.2) s (by simpa[Act.put] using f) d;exact⟨v,bL _ c,e⟩
  ·obtain⟨v,c⟩:=h;rcases bO.1 c with rfl|c
   ·refine⟨v,bq,?_⟩;rw[aQ,lh b _ s (fun q g e=>d ⟨q.2,by rw[<-e];exact g⟩)];exact kH _ _ _ f
   ·exact absurd ⟨v,c⟩ d
 |[],_,_,_,h=>by obtain⟨v,c⟩:=h;cases c
def okN (P:Program)(ops:Array Oper)(n:Nat)(a:List (Option Nat×Option Value×Nat)):Bool:=P.follows .mixedOrders&&(Fi ops&&(Og ops&&(inB ops n&&((ops.toList.map (fun o=>o.dst)==a.map (fun p=>p.1))&&(Oj ops (a.map (fun p=>(p.2.1.isSome,p.2.2)))&&(List.range ops.size).all (fun i=>((a.map (fun p=>(p.2.1.isSome,p.2.2))).getD i (true,0)).2==1||((a.map (fun p=>(p.2.1.isSome,p.2.2))).getD i (true,0)).1))))))
def dn (F:Act):Nat->List Value->Prop
 |_,[]=>True
 |i,v::l=>F.tmps[i]? =some v/\dn F (i+1) l
theorem BL {F:Act}: ∀{l:List Value} {i:Nat},(∀k v,l[k]? =some v->F.tmps[i+k]? =some v)->dn F i l
 |[],_,_=>trivial
 |v::l,i,h=>⟨h 0 v rfl,BL fun k u a=>by
  have:=h (k+1) u (by simpa using a);rwa[show i+(k+1)=i+1+k by omega]at this⟩
theorem gV {o:Oper}{a:Act}{K:Act->World->Prop}{i:Exit->Act->World->Prop}(j:o.guard=none)(h:wpList P ops (fun ex a w=>ex= .normal/\K a w) [o] a w):Oper.wp P o a w K i:=by
 unfold wpList at h;rw[aB (by simp[Region.wanted,j])]at h;rcases h with h|⟨_,_,_,h,_⟩
 ·unfold Oper.wp at h⊢;generalize (execOp a.eval o).run P w=r at*;cases r with
  |ok n w'=>
   cases n with
   |value v=>exact h.2
   |skip=>exact h.2
   |defer k=>exact h.2
   |enter f d=>
    refine Calls.mono h fun e g b=> ?_;cases e with
    |returned v=>exact b.2
    |panicked c=>cases b.1
    |outgrown=>obtain⟨_,_,b,_⟩:=b;cases b
   |row row d=>exact Rows.mono h fun v g b=>b.2
   |_=>exact h
  |halt x w'=>
   cases x with
   |panic v=>cases h.1
   |_=>exact h
 ·cases h
def xT (ops:Array Oper)(a:List (Option Nat×Option Value×Nat))(i:Nat)(M:Nat->Bool):Prop:=i<ops.size/\ ∃L,Fk ops L/\L i=false/\ ∀k,M k=(decide (k<ops.size)&&(kS a k&&L k))
theorem mI (X:Exit->World->Prop)(hX: ∀ex a W,a.defers=a0.defers->X ex W->Q ex a W)(J:(Nat->Bool)->(Nat->Value)->World->Prop)(f:List (Option Nat×Option Value×Nat))(aC: ∀φ,J (fun _=>false) φ w.drew)(al: ∀i M φ W W',xT ops f i M->aq W W'->J M φ W->J M φ W')(R:okN P ops a0.tmps.size f=true)
  (am: ∀i M φ W,xT ops f i M->J M φ W->(∀(j:Nat) (p:Oper),ops[j]? =some p->M j=true-> ∀e∈p.after,Region.binds .any e=true->kS f e.on=true->M e.on=true)-> ∀(F:Act) (l:List Value),(putAll (dX f φ) a0).tmps.toList=l->dn F 0 l->dy (eJ P ops X f J F φ M W) 0 ops.toList f)
  (av: ∀M φ W,(∀k,k<ops.size->kS f k=true->M k=true)->J M φ W->Q .normal (putAll (d8 f φ) a0) W):(Code.region id ops true).wp P Q a0 w:=by
 unfold okN at R;simp only[bz]at R;obtain⟨hm,S,af,a1,V,a3,ap⟩:=R;replace V:=eq_of_beq V;obtain⟨ks,a2⟩:=au (f.map (fun p=>(p.2.1.isSome,p.2.2)));rw[a2]at a3 ap
 have hl:f.length=ops.size:=by
  have h:=congrArg List.length V;simpa using h.symm
 have aa: ∀{j:Nat} {p:Oper},ops[j]? =some p-> ∃x k,f[j]? =some (p.dst,x,k):=fun {j p} c=>by
  have C:(ops.toList.map (fun o=>o.dst))[j]? =some p.dst:=by
   rw[a8,bx,c];rfl
  rw[V,a8]at C;cases hs:f[j]? with
  |none=>rw[hs]at C;cases C
  |some q=>
   rw[hs]at C;exact⟨q.2.1,q.2.2,by rw[<-aN C]⟩
 have G: ∀{j k:Nat} {d:Option Nat} {x:Option Value},f[j]? =some (d,x,k)-> ∃p,ops[j]? =some p/\p.dst=d:=fun {j k d x} g=>by
  have aK:=(aF.1 g).1;obtain⟨p,c⟩: ∃p,ops[j]? =some p:=⟨ops[j]'(by omega),gh _⟩
  obtain⟨v',k',a6⟩:=aa c;rw[g]at a6;exact⟨p,c,(congrArg Prod.fst (aN a6)).symm⟩
 have ah: ∀{j k:Nat} {d:Option Nat} {x:Option Value},f[j]? =some (d,x,k)->ks.getD j (true,0)=(x.isSome,k):=fun {j k d x} h=>by
  rw[<-a2];simp[List.getD,h]
 have ai: ∀{j:Nat} {p:Oper} {s:Nat},ops[j]? =some p->p.dst=some s->s<a0.tmps.size:=fun {j p s} c D=>by
  have q1:=dD.1 a1 j (by simpa using(dr.1 c).1);rw[c]at q1;simp only[Option.bind_some,D]at q1;simpa using q1
 have r: ∀{j k:Nat} {p q:Oper} {s:Nat},ops[j]? =some p->ops[k]? =some q->p.dst=some s->q.dst=some s->j=k:=fun {j k p q s} c n C N=>by
  have q1:=dD.1 af j (by simpa using(dr.1 c).1);have q2:=dD.1 q1 k (by simpa using(dr.1 n).1);rw[c,n]at q2;simpa[C,N] using q2
 refine zC hm S af a1 (fun L A W=>Fk ops L/\A.tmps.size=a0.tmps.size/\ ∃φ:Nat->Value,(∀j s k:Nat,f[j]? =some (some s,none,k)->φ s=A.tmps.getD s undef)/\J (fun k=>decide (k<ops.size)&&(kS f k&&L k)) φ W) (fun j x _=> ∀d v k,f[j]? =some (d,some v,k)->x=v) ?_ ?_ ?_
 ·intro L h;refine⟨fun j p c g=> ?_,rfl,fun s=>a0.tmps.getD s undef,fun _ _ _ _=>rfl,?_⟩
  ·have:=h j (dr.1 c).1;rw[this]at g;cases g
  ·rw[show(fun k=>decide (k<ops.size)&&(kS f k&&L k))=fun _=>false from funext fun k=>by
    by_cases E:k<ops.size
    ·rw[h k E];simp
    ·simp[E]]
   exact aC _
 ·intro i o L A W Z O U hJ T B Y;obtain⟨hc,ae,φ,hφ,hJ⟩:=hJ;have hi:i<ops.size:=(dr.1 Z).1
  have aE:Fk ops (fun k=>decide (i=k)||L k):=by
   intro j p c g e he hb;show(decide (i=e.on)||L e.on)=true;by_cases az:i=j
   ·subst az;rw[Z]at c;cases c;rw[U e he hb];simp
   ·rw[hc j p c (by simpa[az] using g) e he hb];simp
  obtain⟨x,kx,hx⟩:=aa Z;have ac:=dD.1 a3 i (by simpa using hi);rw[Z]at ac;obtain⟨ag,ac⟩:=(bz _ _).mp ac
  have ao: ∀(j:Nat) (p:Oper),ops[j]? =some p-> ∀e∈p.after,Region.binds .any e=true->e.on<ops.size:=fun j p c e he hb=>by
   have g:=(dr.1 c).1;have C:=dD.1 S j (by simpa using g);rw[c]at C;have N:=Array.all_eq_true'.1 C e he;rw[hb]at N;have h3:e.on<j:=(by simpa using N);omega
  have aD: ∀t∈o.looksAt ops,A.tmps.getD t undef=(putAll (dX f φ) a0).tmps.getD t undef:=fun t ht=>by
   have C:=dD.1 ac t ht;by_cases hw: ∃(j:Nat) (p:Oper),ops[j]? =some p/\p.dst=some t
   ·obtain⟨j,p,c,D⟩:=hw;have N:=dD.1 C j (by simpa using(dr.1 c).1);rw[c]at N;simp only[D,bne_self_eq_false,Bool.false_or]at N;obtain⟨y,ky,hy⟩:=aa c;rw[D]at hy;rw[ah hy]at N;by_cases ad:ky=2/\y≠none
    ·rw[aB (by simp[ad.1])]at N
     have aj:L j=false:=by
      cases n:L j with
      |false=>rfl
      |true=>
       rcases(iC _ _).mp N with e|e
       ·rw[<-beq_iff_eq.1 e,O]at n;cases n
       ·have:=wt e (hc j p c n);rw[O]at this;cases this
     have E:=B t fun k q n an m=>by
      have:=r c n D m;subst this;rw[aj]at an;cases an
     rw[E];refine(lh _ _ _ fun q n e=> ?_).symm;obtain⟨s,v⟩:=q;subst e;obtain⟨k,kk,I⟩:=mN n
     have ak: ∃z,f[k]? =some (some s,z,kk):=by
      rcases I with h|h
      ·exact⟨_,h.1⟩
      ·exact⟨_,h.1⟩
     obtain⟨z,hz⟩:=ak;obtain⟨q,K,m⟩:=G hz;have:=r c K D m;subst this;rw[hy]at hz;cases hz;rcases I with h|h
     ·exact h.2 ad.1
     ·rw[hy]at h;exact ad.2 (congrArg (fun q=>q.2.1) (aN h.1))
    ·obtain⟨v,hv,e⟩:=xS (dX f φ) a0 t (ai c D) (BK hy (by
      by_cases a7:y=none
      ·exact .inr a7
      ·exact .inl (by simpa[a7] using ad)))
     rw[e];obtain⟨k,kk,I⟩:=mN hv
     have ak: ∃z,f[k]? =some (some t,z,kk):=by
      rcases I with h|h
      ·exact⟨_,h.1⟩
      ·exact⟨_,h.1⟩
     obtain⟨z,hz⟩:=ak;obtain⟨q,K,m⟩:=G hz;have:=r c K D m;subst this;rw[hy]at hz;cases hz;rcases I with h|h
     ·have a9:=h.1;rw[hy]at a9;cases a9;rw[ax (by simpa using h.2)]at N;have aj:=wt (by simpa using N) U;exact Y j p c aj t D _ _ _ hy
     ·rw[h.2];exact(hφ j t _ h.1).symm
   ·have hn: ∀(j:Nat) (p:Oper),ops[j]? =some p->p.dst≠some t:=fun j p c e=>hw ⟨j,p,c,e⟩;rw[B t fun j p c _=>hn j p c];refine(lh _ _ _ fun q n e=> ?_).symm;obtain⟨s,v⟩:=q;subst e;obtain⟨k,kk,I⟩:=mN n;rcases I with h|h
    ·obtain⟨q,K,m⟩:=G h.1;exact hn _ _ K m
    ·obtain⟨q,K,m⟩:=G h.1;exact hn _ _ K m
  have hU:xT ops f i (fun k=>decide (k<ops.size)&&(kS f k&&L k)):=⟨hi,L,hc,O,fun _=>rfl⟩
  have hD:=As (am i _ φ W hU hJ (fun j p c g e he hb H=>by
   simp only[bz,bT]at g;simp only[hc j p c g.2.2 e he hb,H,ao j p c e he hb,decide_true,ip]) (putAll (dX f φ) a0) _ rfl (BL fun k v E=>by rw[cY,<-bx];exact E)) (j:=i) (by rw[bx];exact Z) hx
  rw[cY]at hD
  have a5: ∀(j:Nat) (q:Oper),ops[j]? =some q->tW q i=true->(decide (j<ops.size)&&(kS f j&&L j))=false:=fun j q n hw=>by
   cases g:L j with
   |false=>simp only[jo]
   |true=>
    have:=wt hw (hc j q n g);rw[O]at this;cases this
  have aA:=hD (fun e he hb H=>by simp only[U e he hb,H,ao i o Z e he hb,decide_true,ip]) a5 (by simp only[O,jo]);refine wpOp_mono ?_ (Fm (fun ex W=>hX ex A W T) Z (fun cs b e=>by rw[e]at ag;cases ag) aD (fun s hs=>by rw[r9];exact ai Z hs) aA);rintro a' W' ⟨v,rfl,hv,hR⟩;refine⟨v,rfl,fun _ d u k ar=> ?_,fun _ _ _ h=>h,aE,by cases o.dst<;>simpa[Act.put] using ae,?_⟩
  ·rw[hx]at ar;have e2:x=some u:=congrArg (fun q=>q.2.1) (aN ar);subst e2;exact hv
  ·have aw: ∀s,(∀t,o.dst=some t->t≠s)->(A.put o.dst v).tmps.getD s undef=A.tmps.getD s undef:=fun s hs=>by
    cases D:o.dst with
    |none=>rfl
    |some t=>exact jZ _ _ _ _ (hs t D)
   by_cases ab:kx=1
   ·subst ab;have H:kS f i=true:=(by unfold kS;rw[hx];rfl)
    have eM:(fun k=>decide (k<ops.size)&&(kS f k&&(decide (i=k)||L k)))=fun k=>decide (i=k)||(decide (k<ops.size)&&(kS f k&&L k)):=funext fun k=>by
     by_cases e:i=k
     ·subst e;simp only[hi,H,decide_true,Bool.true_or,ip]
     ·simp only[e,decide_false,Bool.false_or]
    rw[eM];refine⟨_,fun j s k g=> ?_,hR⟩;obtain⟨q,n,m⟩:=G g;cases D:o.dst with
    |none=>
     simp only[];exact hφ j s k g
    |some t=>
     cases x with
     |none=>
      simp only[];by_cases e:t=s
      ·subst e;rw[dV];exact(kH _ _ _ (by rw[ae];exact ai Z D)).symm
      ·rw[dH e,hφ j s k g];exact(jZ _ _ _ _ e).symm
     |some u=>
      simp only[];rw[hφ j s k g];refine(jZ _ _ _ _ fun e=> ?_).symm;subst e;have:=r Z n D m;subst this;rw[hx]at g;cases congrArg (fun q=>q.2.1) (aN g)
   ·have H:kS f i=false:=by
     unfold kS;rw[hx];split
     ·rename_i h;exact absurd (congrArg (fun q=>q.2.2) (aN h)) ab
     ·rfl
    have hB:aq W W':=by
     revert hR;dsimp only;split
     ·exact absurd rfl ab
     ·exact fun h=>h
    have eM:(fun k=>decide (k<ops.size)&&(kS f k&&(decide (i=k)||L k)))=fun k=>decide (k<ops.size)&&(kS f k&&L k):=funext fun k=>by
     by_cases e:i=k
     ·subst e;simp only[H,Bool.false_and,jo]
     ·simp only[e,decide_false,Bool.false_or]
    rw[eM];refine⟨φ,fun j s k g=> ?_,al i _ _ _ _ hU hB hJ⟩;rw[hφ j s k g];refine(aw s fun t ht e=> ?_).symm;subst e;obtain⟨q,n,m⟩:=G g;have:=r Z n ht m;subst this;rw[hx]at g;have aJ:x=none:=congrArg (fun q=>q.2.1) (aN g);subst aJ;have C:=dD.1 ap i (by simpa using hi);rw[ah hx]at C;simp[ab]at C
 ·intro L A W hL hJ T aI B Y;obtain⟨_,ae,φ,hφ,hJ⟩:=hJ
  have hA:A=putAll (d8 f φ) a0:=by
   have a4:((d8 f φ).map (fun p=>p.1)).Nodup:=by
    rw[nL]
    have:f.filterMap (fun p=>p.1)=ops.toList.filterMap (fun o=>o.dst):=by
     have C:=congrArg (List.filterMap fun q:Option Nat=>q) V;rw[List.filterMap_map,List.filterMap_map]at C;exact C.symm
    rw[this];unfold List.Nodup;refine List.pairwise_filterMap.2 (List.pairwise_iff_getElem.2 fun j k g E aL s hs t ht e=> ?_);subst e;have:=r (j:=j) (k:=k) (by rw[<-bx];exact ay g) (by rw[<-bx];exact ay E) hs ht;omega
   refine Oi _ T ae ?_ (fun s h=>B s fun j p c e=> ?_) fun j s v g=> ?_
   ·rw[show(d8 f φ).map (fun p=>some p.1)=((d8 f φ).map (fun p=>p.1)).map some by rw[j7];rfl];unfold List.Nodup at a4⊢;rw[List.pairwise_map];exact List.Pairwise.imp (fun h e=>h (aN e)) a4
   ·obtain⟨x,k,hx⟩:=aa c;rw[e]at hx
    have aG:s∈(d8 f φ).map (fun p=>p.1):=by
     rw[nL];exact List.mem_filterMap.2 ⟨(some s,x,k),aM hx,rfl⟩
    obtain⟨q,n,aH⟩:=dR.1 aG;exact h q n aH
   ·obtain⟨k,kk,E⟩:=s7 (aM g);rcases E with E|⟨E,rfl⟩
    ·obtain⟨p,c,D⟩:=G E;exact Y k p c s D _ _ _ E
    ·exact(hφ k s _ E).symm
  rw[hA];refine av _ φ W (fun k E D=> ?_) hJ;simp only[hL k E,D,E,decide_true,Bool.and_self]
theorem dl (J:(Nat->Bool)->(Nat->Value)->World->Prop)(a:List (Option Nat×Option Value×Nat))(i: ∀φ,J (fun _=>false) φ w.drew)(b: ∀M φ W g,aq W g->J M φ W->J M φ g)(d:okN P ops a0.tmps.size a=true)
  (c: ∀M φ W,J M φ W->(∀(j:Nat) (p:Oper),ops[j]? =some p->M j=true-> ∀e∈p.after,Region.binds .any e=true->kS a e.on=true->M e.on=true)-> ∀(F:Act) (l:List Value),(putAll (dX a φ) a0).tmps.toList=l->dn F 0 l->dy (eJ P ops (fun _ _=>False) a J F φ M W) 0 ops.toList a)
  (f: ∀M φ W,(∀k,k<ops.size->kS a k=true->M k=true)->J M φ W->Q .normal (putAll (d8 a φ) a0) W):(Code.region id ops true).wp P Q a0 w:=
 mI (fun _ _=>False) (fun _ _ _ _ h=>h.elim) J a i (fun _ M φ W g _=>b M φ W g) d (fun _ M φ W _=>c M φ W) f
def BC (Q:Exit->Act->World->Prop)(a0:Act)(b:List (Option Nat×Option Value×Nat))(n:Nat)(a:(Nat->Bool)->(Nat->Value)->World->Prop)(M:Nat->Bool)(φ:Nat->Value)(W:World):Prop:=(M n=false->a M φ W)/\(M n=true->Q .normal (putAll (d8 b φ) a0) W)
theorem se (n:Nat)(d:(Nat->Bool)->(Nat->Value)->World->Prop)(a:List (Option Nat×Option Value×Nat))(r: ∀φ,d (fun _=>false) φ w.drew)(v: ∀M φ W j,aq W j->d M φ W->d M φ j)(q:(Fj ops&&(kS a n&&ops.size==n+1))=true)(e:okN P ops a0.tmps.size a=true)
  (b: ∀M φ W,M n=false->d M φ W-> ∀(F:Act) (l:List Value),(putAll (dX a φ) a0).tmps.toList=l->dn F 0 l->dy (eJ P ops (fun _ _=>False) a (BC Q a0 a n d) F φ M W) 0 ops.toList a):(Code.region id ops true).wp P Q a0 w:=by
 simp only[bz,beq_iff_eq]at q;obtain⟨f,u,x⟩:=q
 have p: ∀{i M},xT ops a i M->M n=false:=fun {i M} h=>by
  obtain⟨hi,L,t,m,o⟩:=h;rw[o];cases h:L n with
  |false=>simp only[jo]
  |true=>
   have:=Ep f x t h n i (by omega) (by omega);rw[m]at this;cases this
 refine mI (fun _ _=>False) (fun _ _ _ _ h=>h.elim) (BC Q a0 a n d) a (fun φ=>⟨fun _=>r φ,(fun h=>by cases h)⟩) (fun i M φ W j g s h=>⟨fun c=>v _ _ _ _ s (h.1 c),fun c=>by rw[p g]at c;cases c⟩) e (fun i M φ W g k _=>b M φ W (p g) (k.1 (p g))) (fun M φ W o k=>k.2 (o n (by omega) u))
theorem mJ (n:Nat)(c:World->Prop)(a:List (Option Nat×Option Value×Nat))(f:c w.drew)(g: ∀W e,aq W e->c W->c e)(i:(Fj ops&&(kS a n&&ops.size==n+1))=true)(d:okN P ops a0.tmps.size a=true)
  (b: ∀M φ W,M n=false->c W-> ∀(F:Act) (l:List Value),(putAll (dX a φ) a0).tmps.toList=l->dn F 0 l->dy (eJ P ops (fun _ _=>False) a (BC Q a0 a n fun _ _=>c) F φ M W) 0 ops.toList a):(Code.region id ops true).wp P Q a0 w:=
 se n (fun _ _=>c) a (fun _=>f) (fun _ _=>g) i d b
theorem jV (n:Nat)(a:List (Option Nat×Option Value×Nat))(e:(Fj ops&&(kS a n&&ops.size==n+1))=true)(c:okN P ops a0.tmps.size a=true)
  (b: ∀M φ W,M n=false->aq w W-> ∀(F:Act) (l:List Value),(putAll (dX a φ) a0).tmps.toList=l->dn F 0 l->dy (eJ P ops (fun _ _=>False) a (BC Q a0 a n fun _ _=>Below w.heap.size w) F φ M W) 0 ops.toList a):(Code.region id ops true).wp P Q a0 w:=
 mJ n (Below w.heap.size w) a (aH _ _).drew (fun _ _ d h=>aw h d) e c b
end
end
end Go.Proofs.YtlkehieagdkgiaaGreatDoor
