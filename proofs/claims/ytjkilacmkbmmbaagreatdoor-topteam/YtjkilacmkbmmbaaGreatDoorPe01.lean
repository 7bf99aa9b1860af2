/- Texts of the proof. -/
import Derived.Test.YtjkilacmkbmmbaaGreatDoorPeZb
set_option maxRecDepth 100000
set_option maxHeartbeats 8000000
namespace Go.Proofs.YtjkilacmkbmmbaaGreatDoor
open Go.Proofs.Tryz Go.RowKit Lx Vx Mx Msk
section
def uc:List Bool->Nat
 |[]=>0
 |b::l=>(if b then 0 else 1)+uc l
theorem FV: ∀(l:List Bool) (i:Nat),l[i]? =some false->uc (l.set i true)+1=uc l
 |[],i,h=>by simp at h
 |b::l,0,h=>by
  simp at h;subst h;simp[uc];omega
 |b::l,i+1,h=>by
  have:=FV l i (by simpa using h);simp only[aI,uc];omega
theorem Ds: ∀(l:List Bool),uc l=0-> ∀i:Nat,l[i]? ≠some false
 |[],_,i=>by simp
 |b::l,h,0=>by
  cases b
  ·simp[uc]at h
  ·simp
 |b::l,h,i+1=>by
  have:uc l=0:=(by simp only[uc]at h;omega);simpa using Ds l this i
theorem FW: ∀n,uc (List.replicate n false)=n
 |0=>rfl
 |n+1=>by simp only[List.replicate_succ,uc,FW n];simp;omega
section
variable {P:Program} {ops:Array Oper} {Q:Exit->Act->World->Prop}
theorem uX {listed:Array Bool}{i:Nat}(h:i∈Region.ready .any ops listed):listed.toList[i]? =some false:=by
 have:=(mem_ready.1 h).1;by_cases hi:i<listed.size
 ·simp[Array.getD,hi]at this;simp[hi,this]
 ·simp[Array.getD,hi]at this
theorem yX (I:Array Bool->Act->World->Prop)(hstep: ∀listed a w i,I listed a w->i∈Region.ready .any ops listed->wpOp P ops Q i (fun a' w'=>I (listed.setIfInBounds i true) a' w') a w)
  (hend: ∀listed a w,I listed a w->Region.ready .any ops listed=[]->Q .normal a w):
  ∀(fuel:Nat) (listed:Array Bool) (a:Act) (w:World),uc listed.toList<=fuel->I listed a w->wpAny P .any ops Q fuel listed a w
 |0,listed,a,w,hu,h=>by
  have hr:Region.ready .any ops listed=[]:=by
   cases hr:Region.ready .any ops listed with
   |nil=>rfl
   |cons i l=>
    have h1:=uX (ops:=ops) (listed:=listed) (i:=i) (by rw[hr];simp);exact absurd h1 (Ds _ (by omega) i)
  exact⟨hr,hend _ _ _ h hr⟩
 |fuel+1,listed,a,w,hu,h=>by
  refine⟨fun hr=>hend _ _ _ h hr,fun i hi=> ?_⟩;have h1:=uX hi;have h2:=FV _ i h1;refine wpOp_mono (fun a' w' h'=> ?_) (hstep listed a w i h hi);refine yX I hstep hend fuel _ a' w' ?_ h';rw[Array.toList_setIfInBounds];omega
def Ef (ops:Array Oper):Bool:=(List.range ops.size).all fun i=>match ops[i]? with|none=>true|some o=>o.after.all fun e=> !Region.binds .any e||decide (e.on<i)
theorem FX (hB:Ef ops=true){listed:Array Bool}(hr:Region.ready .any ops listed=[]): ∀i,i<ops.size->listed.getD i true=true:=by
 intro i;induction i using Nat.strongRecOn with
 |ind i ih=>
  intro hi;cases hb:listed.getD i true with
  |true=>rfl
  |false=>
   exfalso;have ho:ops[i]? =some ops[i]:=(by simp[hi])
   have hm:i∈Region.ready .any ops listed:=mem_ready.2 ⟨hb,ops[i],ho,fun e he hbd=>by
    have h1:=dj.1 hB i (by simpa using hi);rw[ho]at h1;have h2:=Array.all_eq_true'.1 h1 e he;have h3:e.on<i:=(by rw[hbd]at h2;simpa using h2);have h4:=ih e.on h3 (by omega);by_cases hs:e.on<listed.size
    ·simp[Array.getD,hs]at h4⊢;exact h4
    ·exfalso
     have h5:i<listed.size:=by
      by_cases h6:i<listed.size
      ·exact h6
      ·simp[Array.getD,h6]at hb
     omega⟩
   rw[hr]at hm;cases hm
def Nd (ops:Array Oper):Bool:=(List.range ops.size).all fun i=>(List.range ops.size).all fun j=>i==j||(match(ops[i]?).bind (·.dst),(ops[j]?).bind (·.dst) with|some s,some t=>s !=t|_,_=>true)
def inB (ops:Array Oper)(n:Nat):Bool:=(List.range ops.size).all fun i=>(match(ops[i]?).bind (·.dst) with|some s=>decide (s<n)|none=>true)
structure St (ops:Array Oper)(sp:Nat->Value->World->Prop)(a0:Act)(listed:Array Bool)(a:Act)(w:World):Prop where
 defs:a.defers=a0.defers
 size:a.tmps.size=a0.tmps.size
 kept: ∀s,(∀i o,ops[i]? =some o->listed.getD i true=true->o.dst≠some s)->a.tmps.getD s undef=a0.tmps.getD s undef
 has: ∀i o,ops[i]? =some o->listed.getD i true=true-> ∀s,o.dst=some s->sp i (a.tmps.getD s undef) w
theorem jX (t:Array Value)(s:Nat)(v:Value)(h:s<t.size):(t.setIfInBounds s v).getD s undef=v:=by simp[Array.getD,h]
theorem jC (t:Array Value)(s s':Nat)(v:Value)(h:s≠s'):(t.setIfInBounds s v).getD s' undef=t.getD s' undef:=by
 by_cases hs:s'<t.size
 ·simp[Array.getD,hs,h]
 ·simp[Array.getD,hs]
theorem lX (l:Array Bool)(i j:Nat):(l.setIfInBounds i true).getD j true=(decide (i=j)||l.getD j true):=by
 by_cases hj:j<l.size
 ·by_cases hij:i=j
  ·subst hij;simp[Array.getD,hj]
  ·simp[Array.getD,hj,hij]
 ·simp[Array.getD,hj]
def Nf (ops:Array Oper)(s:Nat):Bool:=ops.all fun o=>o.dst !=some s
theorem nd {s:Nat}(h:Nf ops s=true)(j:Nat)(p:Oper)(hp:ops[j]? =some p):p.dst≠some s:=by
 have:=Array.all_eq_true'.1 h p (Array.mem_of_getElem? hp);simpa using this
theorem yj {id:Nat}{a0:Act}{w:World}(hm:P.follows .mixedOrders=true)(hback:Ef ops=true)(hdst:Nd ops=true)(hin:inB ops a0.tmps.size=true)
  (J:(Nat->Bool)->Act->World->Prop) (sp:Nat->Value->World->Prop)
  (hJ: ∀L:Nat->Bool,(∀i,i<ops.size->L i=false)->J L a0 {w with drawn:=w.drawn+1})
  (hstep: ∀(i:Nat) (o:Oper) (L:Nat->Bool) (a:Act) (W:World),ops[i]? =some o->L i=false->(∀e∈o.after,Region.binds .any e=true->L e.on=true)->J L a W->
    a.defers=a0.defers->(∀s,(∀(j:Nat) (p:Oper),ops[j]? =some p->L j=true->p.dst≠some s)->a.tmps.getD s undef=a0.tmps.getD s undef)->(∀(j:Nat) (p:Oper),ops[j]? =some p->L j=true-> ∀s,p.dst=some s->sp j (a.tmps.getD s undef) W)->
    wpOp P ops Q i (fun a' W'=> ∃v,a'=a.put o.dst v/\(o.dst≠none->sp i v W')/\(∀j u,L j=true->sp j u W->sp j u W')/\J (fun k=>decide (i=k)||L k) a' W') a W)
  (hend: ∀(L:Nat->Bool) (a:Act) (W:World),(∀i,i<ops.size->L i=true)->J L a W->a.defers=a0.defers->a.tmps.size=a0.tmps.size->(∀s,(∀(j:Nat) (p:Oper),ops[j]? =some p->p.dst≠some s)->a.tmps.getD s undef=a0.tmps.getD s undef)->
    (∀(j:Nat) (p:Oper),ops[j]? =some p-> ∀s,p.dst=some s->sp j (a.tmps.getD s undef) W)->Q .normal a W):(Code.region id ops true).wp P Q a0 w:=by
 refine wp_region_any hm (yX (fun listed a W=>listed.size=ops.size/\J (fun i=>listed.getD i true) a W/\St ops sp a0 listed a W) ?_ ?_ _ _ _ _ ?_ ?_)
 ·rintro listed a W i ⟨hs,hj,st⟩ hi;obtain⟨hf,o,ho,hall⟩:=mem_ready.1 hi
  have hL: ∀e∈o.after,Region.binds .any e=true->listed.getD e.on true=true:=fun e he hb=>by
   have:=hall e he hb;by_cases hs:e.on<listed.size
   ·simp[Array.getD,hs]at this⊢;exact this
   ·simp[Array.getD,hs]
  have hil:i<ops.size:=(cQ.1 ho).1;refine wpOp_mono ?_ (hstep i o (fun i=>listed.getD i true) a W ho hf hL hj st.defs (fun s h=>st.kept s h) (fun j p hp hl s hsd=>st.has j p hp hl s hsd));rintro a' W' ⟨v,rfl,hv,hmono,hj'⟩;have hfun:(fun k=>(listed.setIfInBounds i true).getD k true)=fun k=>decide (i=k)||listed.getD k true:=funext fun k=>lX listed i k;refine⟨by simpa using hs,by rw[hfun];exact hj',?_⟩
  have hdd: ∀(j:Nat) (p:Oper) s t,ops[j]? =some p->i≠j->o.dst=some s->p.dst=some t->s≠t:=fun j p s t hp hij h1 h2=>by
   have q1:=dj.1 hdst i (by simpa using hil);have q2:=dj.1 q1 j (by simpa using(cQ.1 hp).1);rw[ho,hp]at q2;simp only[Option.bind_some,h1,h2]at q2;simpa[hij] using q2
  have hds: ∀s,o.dst=some s->s<a.tmps.size:=fun s h1=>by
   have q1:=dj.1 hin i (by simpa using hil);rw[ho]at q1;simp only[Option.bind_some,h1]at q1;rw[st.size];simpa using q1
  have hlist: ∀j,(listed.setIfInBounds i true).getD j true=true->i=j\/listed.getD j true=true:=fun j h=>by
   rw[lX]at h;simpa using h
  cases hd:o.dst with
  |none=>
   refine⟨st.defs,st.size,fun s h=> ?_,fun j p hp hl s hps=> ?_⟩
   ·exact st.kept s fun j p hp hl=>h j p hp (by rw[lX,hl];simp)
   ·rcases hlist j hl with rfl|hl'
    ·rw[ho]at hp;have:=aK hp;subst this;rw[hd]at hps;cases hps
    ·exact hmono j _ hl' (st.has j p hp hl' s hps)
  |some d=>
   have hdl:=hds d hd;refine⟨st.defs,by simpa[Act.put] using st.size,fun s h=> ?_,fun j p hp hl s hps=> ?_⟩
   ·have hsd:d≠s:=fun e=>by
     subst e;exact h i o ho (by rw[lX];simp) hd
    show(a.tmps.setIfInBounds d v).getD s undef=_;rw[jC _ _ _ _ hsd];exact st.kept s fun j p hp hl=>h j p hp (by rw[lX,hl];simp)
   ·show sp j ((a.tmps.setIfInBounds d v).getD s undef) W';rcases hlist j hl with rfl|hl'
    ·rw[ho]at hp;have:=aK hp;subst this;rw[hd]at hps;have:=aK hps;subst this;rw[jX _ _ _ hdl];exact hv (by rw[hd];simp)
    ·by_cases hij:i=j
     ·subst hij;rw[hf]at hl';cases hl'
     ·rw[jC _ _ _ _ (hdd j p d s hp hij hd hps)];exact hmono j _ hl' (st.has j p hp hl' s hps)
 ·rintro listed a W ⟨hs,hj,st⟩ hr;have hall:=FX hback hr;exact hend _ a W hall hj st.defs st.size (fun s h=>st.kept s fun j p hp _=>h j p hp) (fun j p hp s hps=>st.has j p hp (hall j (cQ.1 hp).1) s hps)
 ·simp[FW]
 ·have hf: ∀i,i<ops.size->(Array.replicate ops.size false).getD i true=false:=fun i hi=>by simp[Array.getD,hi]
  refine⟨by simp,hJ _ hf,rfl,rfl,fun _ _=>rfl,fun i o ho hl s _=> ?_⟩;rw[hf i (cQ.1 ho).1]at hl;cases hl
end
end
section
def putAll (ds:List (Nat×Value))(a:Act):Act:=ds.foldl (fun a p=>a.put (some p.1) p.2) a
theorem aW (a:Act):putAll [] a=a:=rfl
theorem aQ (p:Nat×Value)(ds:List (Nat×Value))(a:Act):putAll (p::ds) a=putAll ds (a.put (some p.1) p.2):=rfl
theorem sL: ∀(ds:List (Nat×Value)) (a:Act),(putAll ds a).defers=a.defers
 |[],_=>rfl
 |p::ds,a=>(sL ds (a.put (some p.1) p.2)).trans rfl
theorem qV: ∀(ds:List (Nat×Value)) (a:Act),(putAll ds a).tmps.size=a.tmps.size
 |[],_=>rfl
 |p::ds,a=>(qV ds (a.put (some p.1) p.2)).trans (by simp[Act.put])
theorem kF: ∀(ds:List (Nat×Value)) (a:Act) (s:Nat),(∀p∈ds,p.1≠s)->(putAll ds a).tmps.getD s undef=a.tmps.getD s undef
 |[],_,_,_=>rfl
 |p::ds,a,s,h=>by
  rw[aQ,kF ds _ s (fun q hq=>h q (bn _ hq))];exact jC _ _ _ _ (h p bc)
theorem uY: ∀(ds:List (Nat×Value)) (a:Act) (j s:Nat) (v:Value),(ds.map (fun p=>some p.1)).Nodup->s<a.tmps.size->ds[j]? =some (s,v)->(putAll ds a).tmps.getD s undef=v
 |[],_,_,_,_,_,_,h=>by simp at h
 |p::ds,a,0,s,v,hn,hs,h=>by
  simp at h;subst h;rw[aQ,kF ds _ s ?_]
  ·exact jX _ _ _ hs
  ·intro q hq e;rw[dl,List.nodup_cons]at hn;exact hn.1 (dw.2 ⟨q,hq,by rw[e]⟩)
 |p::ds,a,j+1,s,v,hn,hs,h=>by
  rw[aQ];rw[dl,List.nodup_cons]at hn;exact uY ds _ j s v hn.2 (by simpa[Act.put] using hs) (by simpa using h)
theorem Ng {A a0:Act}(ds:List (Nat×Value))(hd:A.defers=a0.defers)(hs:A.tmps.size=a0.tmps.size)(hn:(ds.map (fun p=>some p.1)).Nodup)
  (hk: ∀s,(∀p∈ds,p.1≠s)->A.tmps.getD s undef=a0.tmps.getD s undef) (hh: ∀(j s:Nat) (v:Value),ds[j]? =some (s,v)->A.tmps.getD s undef=v):A=putAll ds a0:=by
 have e1:=sL ds a0;have e2:=qV ds a0
 have e3: ∀s,s<a0.tmps.size->A.tmps.getD s undef=(putAll ds a0).tmps.getD s undef:=by
  intro s hs';by_cases h: ∃p∈ds,p.1=s
  ·obtain⟨p,hp,rfl⟩:=h;obtain⟨j,hj⟩:=List.getElem?_of_mem hp;rw[hh j _ _ hj,uY ds a0 j _ _ hn hs' hj]
  ·have h': ∀p∈ds,p.1≠s:=fun p hp e=>h ⟨p,hp,e⟩;rw[hk s h',kF ds a0 s h']
 generalize putAll ds a0=F at*;obtain⟨t,d⟩:=A;obtain⟨t',d'⟩:=F;dsimp only at*
 have:t=t':=by
  apply Array.ext
  ·omega
  ·intro i h1 h2;have:=e3 i (by omega);simpa[Array.getD,h1,h2] using this
 rw[this,hd,e1]
section
variable {P:Program} {ops:Array Oper} {Q:Exit->Act->World->Prop} {id:Nat} {a0:Act} {w:World}
def Eg (ops:Array Oper):Bool:=(List.range (ops.size-1)).all fun i=>(List.range ops.size).any fun j=>decide (i<j)&&match ops[j]? with|none=>false|some o=>o.after.any fun e=>Region.binds .any e&&decide (e.on=i)
theorem Dt (hu:Eg ops=true){n:Nat}(hn:ops.size=n+1){L:Nat->Bool}(hc: ∀(j:Nat) (p:Oper),ops[j]? =some p->L j=true-> ∀e∈p.after,Region.binds .any e=true->L e.on=true)(hL:L n=true): ∀k i,n-i<=k->i<=n->L i=true
 |0,i,hk,hi=>by rw[show i=n by omega];exact hL
 |k+1,i,hk,hi=>by
  by_cases e:i=n
  ·rw[e];exact hL
  have h1:=dj.1 hu i (by simp;omega);obtain⟨j,hj,h2⟩:=List.any_eq_true.1 h1;simp at hj;simp only[bq,bH]at h2;obtain⟨hij,h3⟩:=h2;cases ho:ops[j]? with
  |none=>rw[ho]at h3;cases h3
  |some o=>
   rw[ho]at h3;obtain⟨e',he,h4⟩:=Array.any_eq_true'.1 h3;simp only[bq,bH]at h4;have:=hc j o ho (Dt hu hn hc hL k j (by omega) (by omega)) e' he h4.1;rw[h4.2]at this;exact this
end
end
section
section
variable {P:Program} {ops:Array Oper} {Q:Exit->Act->World->Prop} {id:Nat} {a0:Act} {w:World}
def Eh (ops:Array Oper)(L:Nat->Bool):Prop:= ∀(j:Nat) (p:Oper),ops[j]? =some p->L j=true-> ∀e∈p.after,Region.binds .any e=true->L e.on=true
variable {m:Nat} {Pre Post:World->Prop} {L:Nat->Bool} {W W':World} {i:Nat}
end
end
section
section
variable {P:Program} {ops:Array Oper} {Q:Exit->Act->World->Prop} {id:Nat} {a0:Act} {w:World}
def pR (φ:Nat->Value)(d:Option Nat)(v:Value):Nat->Value:=fun s=>if d=some s then v else φ s
theorem dy {φ:Nat->Value}{d s:Nat}{v:Value}(h:d≠s):pR φ (some d) v s=φ s:=by
 unfold pR;rw[aw (fun e=>h (aK e))]
theorem dI {φ:Nat->Value}{d:Nat}{v:Value}:pR φ (some d) v d=v:=by
 unfold pR;rw[ay rfl]
end
end
section
section
variable {P:Program} {ops:Array Oper} {Q:Exit->Act->World->Prop} {id:Nat} {a0:Act} {w:World}
def kn (s:Nat)(v:Value):Option Nat×Option Value×Nat:=(some s,some v,0)
def dk (s:Nat)(v:Value):Option Nat×Option Value×Nat:=(some s,some v,1)
def td (s:Nat):Option Nat×Option Value×Nat:=(some s,none,1)
def nk:Option Nat×Option Value×Nat:=(none,none,1)
def dP:List (Option Nat×Option Value×Nat)->(Nat->Value)->List (Nat×Value)
 |[],_=>[]
 |(none,_)::l,φ=>dP l φ
 |(some s,some v,_)::l,φ=>(s,v)::dP l φ
 |(some s,none,_)::l,φ=>(s,φ s)::dP l φ
def dN:List (Option Nat×Option Value×Nat)->(Nat->Value)->List (Nat×Value)
 |[],_=>[]
 |(none,_)::l,φ=>dN l φ
 |(some s,some v,k)::l,φ=>match k with|2=>dN l φ|_=>(s,v)::dN l φ
 |(some s,none,_)::l,φ=>(s,φ s)::dN l φ
def dS (P:Program)(ops:Array Oper)(X:Exit->World->Prop)(F:Act)(o:Oper)(W:World)(R:Value->World->Prop):Prop:=
 ∀K:Act->World->Prop,(∀v W',R v W'->K (F.put o.dst v) W')->if Region.wanted o (yielded ops F.tmps)=true then Oper.wp P o F W K (fun ex _ w=>X ex w) else K (F.put o.dst undef) W
theorem AS (A:Act)(t:Nat):A.eval (.tmp t)=A.tmps.getD t undef:=by simp[Act.eval]
theorem Ei (A B:Array Value)(t:Nat)(h:A.getD t undef=B.getD t undef):(match A[t]? with|some (.bool b)=>some b|_=>none)=(match B[t]? with|some (.bool b)=>some b|_=>none):=by
 have e: ∀C:Array Value,(match C[t]? with|some (.bool b)=>some b|_=>none)=(match C.getD t undef with| .bool b=>some b|_=>none):=fun C=>by
  by_cases hc:t<C.size
  ·simp[Array.getD,hc];cases C[t]<;>rfl
  ·simp[Array.getD,hc,undef]
 rw[e,e,h]
theorem I7 {A B:Act}{d:Option Nat}{v:Value}{R:Value->Prop}(hin: ∀s,d=some s->s<B.tmps.size)(h: ∃v',B.put d v=B.put d v'/\R v'): ∃v',A.put d v=A.put d v'/\R v':=by
 obtain⟨v',h1,h2⟩:=h;cases d with
 |none=>exact⟨v',rfl,h2⟩
 |some s=>
  have h3:=congrArg (fun a:Act=>a.tmps.getD s undef) h1;have h4:v=v':=(jX _ _ v (hin s rfl)).symm.trans (h3.trans (jX _ _ v' (hin s rfl)));exact⟨v',by rw[h4],h2⟩
theorem Ej {i:Nat}{o:Oper}{A B:Act}{W:World}{R:Value->World->Prop}{X:Exit->World->Prop}(hX: ∀ex W,X ex W->Q ex A W)(ho:ops[i]? =some o)(hs: ∀cs b,o.op≠ .select cs b)(hag: ∀t∈o.looksAt ops,A.tmps.getD t undef=B.tmps.getD t undef)(hin: ∀s,o.dst=some s->s<B.tmps.size)
  (h:dS P ops X B o W R):wpOp P ops Q i (fun a' W'=> ∃v,a'=A.put o.dst v/\R v W') A W:=by
 have he:execOp A.eval o=execOp B.eval o:=execOp_congr o hs fun x hx=>by
  cases x with
  |tmp t=>rw[AS,AS];exact hag t (fd _ (List.mem_filterMap.2 ⟨.tmp t,by simpa using hx,rfl⟩))
  |_=>rfl
 have hw:Region.wanted o (yielded ops A.tmps)=Region.wanted o (yielded ops B.tmps):=by
  unfold Region.wanted;cases hg:o.guard with
  |none=>rfl
  |some gw=>
   obtain⟨g,want⟩:=gw
   have hy:yielded ops A.tmps g=yielded ops B.tmps g:=by
    unfold yielded;cases ht:(ops[g]?).bind (·.dst) with
    |none=>rfl
    |some t=>exact Ei _ _ _ (hag t (by simp[Oper.looksAt,hg,ht]))
   simp only[hy]
 have h1:=h (fun a' W'=> ∃v,a'=B.put o.dst v/\R v W') fun v W' hr=>⟨v,rfl,hr⟩
 have hb: ∀{v:Value} {W':World},(∃v',B.put o.dst v=B.put o.dst v'/\R v' W')-> ∃v',A.put o.dst v=A.put o.dst v'/\R v' W':=fun h=>I7 (R:=fun v=>R v _) hin h;unfold wpOp;rw[ho];show if Region.wanted o (yielded ops A.tmps)=true then _ else _;rw[hw];split
 ·rename_i hq;rw[ay hq]at h1;refine .inl ?_;unfold Oper.wp at h1⊢;rw[he];generalize (execOp B.eval o).run P W=r at*;cases r with
  |ok n w'=>
   cases n with
   |value v=>exact hb h1
   |skip=>exact hb h1
   |defer dd=>
    exfalso;obtain⟨v',h2,_⟩:=h1;have h3:=congrArg (fun a:Act=>a.defers.length) h2;cases hd:o.dst<;>rw[hd]at h3<;>simp[Act.put]at h3
   |enter f args=>
    refine Calls.mono h1 fun e w'' hx=> ?_;cases e with
    |returned v=>exact hb hx
    |panicked c=>exact hX _ _ hx
    |outgrown=>obtain⟨_,_,hx⟩:=hx;exact⟨_,_,hX _ _ hx⟩
   |row row args=>exact Rows.mono h1 fun v w'' hx=>hb hx
   |_=>exact(h1:False).elim
  |halt x w'=>
   cases x with
   |panic v=>exact hX _ _ h1
   |_=>exact(h1:False).elim
 ·rename_i hq;rw[aw hq]at h1;exact hb h1
def sU (o:Oper)(j:Nat):Bool:=o.after.any fun e=>Region.binds .any e&&e.on==j
def ko (ds:List (Option Nat×Option Value×Nat))(i:Nat):Bool:=match ds[i]? with|some (_,_,1)=>true|_=>false
def en (P:Program)(ops:Array Oper)(X:Exit->World->Prop)(ds:List (Option Nat×Option Value×Nat))(J:(Nat->Bool)->(Nat->Value)->World->Prop)(F:Act)(φ:Nat->Value)(M:Nat->Bool)(W:World)(i:Nat)(o:Oper)(p:Option Nat×Option Value×Nat):Prop:=
 (∀e∈o.after,Region.binds .any e=true->ko ds e.on=true->M e.on=true)->(∀(j:Nat) (q:Oper),ops[j]? =some q->sU q i=true->M j=false)->M i=false->
  dS P ops X F o W fun v W'=>(match p.2.1 with|some u=>v=u|none=>True)/\(match p.2.2 with|1=>J (fun k=>decide (i=k)||M k) (match p with|(some s,none,_)=>pR φ (some s) v|_=>φ) W'|_=>ao W W')
def dC (D:Nat->Oper->Option Nat×Option Value×Nat->Prop):Nat->List Oper->List (Option Nat×Option Value×Nat)->Prop
 |i,o::os,p::ds=>D i o p/\dC D (i+1) os ds
 |_,_,_=>True
theorem yY {D:Nat->Oper->Option Nat×Option Value×Nat->Prop}: ∀{i:Nat} {os:List Oper} {ds:List (Option Nat×Option Value×Nat)},dC D i os ds-> ∀{j:Nat} {o:Oper} {p:Option Nat×Option Value×Nat},os[j]? =some o->ds[j]? =some p->D (i+j) o p
 |i,o::os,p::ds,h,0,o',p',h1,h2=>by
  have e1:o=o':=(by simpa using h1);have e2:p=p':=(by simpa using h2);subst e1 e2;exact h.1
 |i,o::os,p::ds,h,j+1,o',p',h1,h2=>by
  have:=yY h.2 (j:=j) (by simpa using h1) (by simpa using h2);rwa[show i+1+j=i+(j+1) by omega]at this
 |_,[],_,_,j,_,_,h1,_=>by simp at h1
 |_,_::_,[],_,j,_,_,_,h2=>by simp at h2
def Nh (ops:Array Oper)(ks:List (Bool×Nat)):Bool:=(List.range ops.size).all fun i=>match ops[i]? with
 |none=>true
 |some o=>(match o.op with| .select _ _=>false|_=>true)&&(o.looksAt ops).all fun t=>(List.range ops.size).all fun j=>match ops[j]? with
  |none=>true
  |some p=>p.dst !=some t||(if(ks.getD j (true,0)).2==2 then i==j||sU p i else !(ks.getD j (true,0)).1||sU o j)
theorem vw {o:Oper}{j:Nat}{L:Nat->Bool}(h:sU o j=true)(hd: ∀e∈o.after,Region.binds .any e=true->L e.on=true):L j=true:=by
 obtain⟨e,he,hb⟩:=Array.any_eq_true'.1 h;simp only[bq,beq_iff_eq]at hb;rw[<-hb.2];exact hd e he hb.1
theorem rW {φ:Nat->Value}: ∀{ds:List (Option Nat×Option Value×Nat)} {s:Nat} {v:Value},(s,v)∈dP ds φ-> ∃(j k:Nat),ds[j]? =some (some s,some v,k)\/(ds[j]? =some (some s,none,k)/\v=φ s)
 |[],s,v,h=>by cases h
 |(none,x)::l,s,v,h=>by
  obtain⟨j,k,h⟩:=rW (ds:=l) h;exact⟨j+1,k,by simpa using h⟩
 |(some t,some u,k)::l,s,v,h=>by
  rcases bh.1 h with h|h
  ·cases h;exact⟨0,k,.inl rfl⟩
  ·obtain⟨j,k,h⟩:=rW (ds:=l) h;exact⟨j+1,k,by simpa using h⟩
 |(some t,none,k)::l,s,v,h=>by
  rcases bh.1 h with h|h
  ·cases h;exact⟨0,k,.inr ⟨rfl,rfl⟩⟩
  ·obtain⟨j,k,h⟩:=rW (ds:=l) h;exact⟨j+1,k,by simpa using h⟩
theorem mF {φ:Nat->Value}: ∀(ds:List (Option Nat×Option Value×Nat)),(dP ds φ).map (fun p=>p.1)=ds.filterMap (fun p=>p.1)
 |[]=>rfl
 |(none,x)::l=>mF l
 |(some t,some u,_)::l=>by simp[dP,mF l]
 |(some t,none,_)::l=>by simp[dP,mF l]
theorem FY {φ:Nat->Value}{s:Nat}{v:Value}{l:List (Option Nat×Option Value×Nat)}:dN ((some s,some v,2)::l) φ=dN l φ:=rfl
theorem sV {φ:Nat->Value}{s k:Nat}{v:Value}{l:List (Option Nat×Option Value×Nat)}(h:k≠2):dN ((some s,some v,k)::l) φ=(s,v)::dN l φ:=by
 show(match k with|2=>_|_=>_)=_;split
 ·exact absurd rfl h
 ·rfl
theorem ma {φ:Nat->Value}: ∀{ds:List (Option Nat×Option Value×Nat)} {s:Nat} {v:Value},(s,v)∈dN ds φ-> ∃(j k:Nat),(ds[j]? =some (some s,some v,k)/\k≠2)\/(ds[j]? =some (some s,none,k)/\v=φ s)
 |[],s,v,h=>by cases h
 |(none,x)::l,s,v,h=>by
  obtain⟨j,k,h⟩:=ma (ds:=l) h;exact⟨j+1,k,by simpa using h⟩
 |(some t,some u,k)::l,s,v,h=>by
  by_cases hk:k=2
  ·subst hk;rw[FY]at h;obtain⟨j,k,h⟩:=ma (ds:=l) h;exact⟨j+1,k,by simpa using h⟩
  ·rw[sV hk]at h;rcases bh.1 h with h|h
   ·cases h;exact⟨0,k,.inl ⟨rfl,hk⟩⟩
   ·obtain⟨j,k,h⟩:=ma (ds:=l) h;exact⟨j+1,k,by simpa using h⟩
 |(some t,none,k)::l,s,v,h=>by
  rcases bh.1 h with h|h
  ·cases h;exact⟨0,k,.inr ⟨rfl,rfl⟩⟩
  ·obtain⟨j,k,h⟩:=ma (ds:=l) h;exact⟨j+1,k,by simpa using h⟩
theorem AT {φ:Nat->Value}: ∀{ds:List (Option Nat×Option Value×Nat)} {j s k:Nat} {x:Option Value},ds[j]? =some (some s,x,k)->(k≠2\/x=none)-> ∃v,(s,v)∈dN ds φ
 |(d,x',k')::l,0,s,k,x,h,h1=>by
  have e:(d,x',k')=(some s,x,k):=(by simpa using h);cases e;cases x' with
  |none=>exact⟨_,bc⟩
  |some u=>
   rcases h1 with h1|h1
   ·exact⟨u,by rw[sV h1];exact bc⟩
   ·cases h1
 |(d,x',k')::l,j+1,s,k,x,h,h1=>by
  obtain⟨v,hv⟩:=AT (ds:=l) (j:=j) (by simpa using h) h1;refine⟨v,?_⟩;cases d with
  |none=>exact hv
  |some t=>
   cases x' with
   |none=>exact bn _ hv
   |some u=>
    by_cases hk:k'=2
    ·subst hk;exact hv
    ·rw[sV hk];exact bn _ hv
theorem wo: ∀(es:List (Nat×Value)) (a:Act) (s:Nat),s<a.tmps.size->(∃v,(s,v)∈es)-> ∃v,(s,v)∈es/\(putAll es a).tmps.getD s undef=v
 |p::es,a,s,hs,h=>by
  by_cases h1: ∃v,(s,v)∈es
  ·obtain⟨v,hv,e⟩:=wo es (a.put (some p.1) p.2) s (by simpa[Act.put] using hs) h1;exact⟨v,bn _ hv,e⟩
  ·obtain⟨v,hv⟩:=h;rcases bh.1 hv with rfl|hv
   ·refine⟨v,bc,?_⟩;rw[aQ,kF es _ s (fun q hq e=>h1 ⟨q.2,by rw[<-e];exact hq⟩)];exact jX _ _ _ hs
   ·exact absurd ⟨v,hv⟩ h1
 |[],_,_,_,h=>by obtain⟨v,hv⟩:=h;cases hv
def okN (P:Program)(ops:Array Oper)(n:Nat)(ds:List (Option Nat×Option Value×Nat)):Bool:=P.follows .mixedOrders&&(Ef ops&&(Nd ops&&(inB ops n&&((ops.toList.map (fun o=>o.dst)==ds.map (fun p=>p.1))&&(Nh ops (ds.map (fun p=>(p.2.1.isSome,p.2.2)))&&(List.range ops.size).all (fun i=>((ds.map (fun p=>(p.2.1.isSome,p.2.2))).getD i (true,0)).2==1||((ds.map (fun p=>(p.2.1.isSome,p.2.2))).getD i (true,0)).1))))))
def dg (F:Act):Nat->List Value->Prop
 |_,[]=>True
 |i,v::l=>F.tmps[i]? =some v/\dg F (i+1) l
theorem AU {F:Act}: ∀{l:List Value} {i:Nat},(∀k v,l[k]? =some v->F.tmps[i+k]? =some v)->dg F i l
 |[],_,_=>trivial
 |v::l,i,h=>⟨h 0 v rfl,AU fun k u hu=>by
  have:=h (k+1) u (by simpa using hu);rwa[show i+(k+1)=i+1+k by omega]at this⟩
theorem lL {o:Oper}{a:Act}{K:Act->World->Prop}{Q':Exit->Act->World->Prop}(hg:o.guard=none)(h:wpList P ops (fun ex a w=>ex= .normal/\K a w) [o] a w):Oper.wp P o a w K Q':=by
 unfold wpList at h;rw[ay (by simp[Region.wanted,hg])]at h;rcases h with h|⟨_,_,_,h,_⟩
 ·unfold Oper.wp at h⊢;generalize (execOp a.eval o).run P w=r at*;cases r with
  |ok n w'=>
   cases n with
   |value v=>exact h.2
   |skip=>exact h.2
   |defer dd=>exact h.2
   |enter f args=>
    refine Calls.mono h fun e w'' hx=> ?_;cases e with
    |returned v=>exact hx.2
    |panicked c=>cases hx.1
    |outgrown=>obtain⟨_,_,hx,_⟩:=hx;cases hx
   |row row args=>exact Rows.mono h fun v w'' hx=>hx.2
   |_=>exact h
  |halt x w'=>
   cases x with
   |panic v=>cases h.1
   |_=>exact h
 ·cases h
def ws (ops:Array Oper)(ds:List (Option Nat×Option Value×Nat))(i:Nat)(M:Nat->Bool):Prop:=i<ops.size/\ ∃L,Eh ops L/\L i=false/\ ∀k,M k=(decide (k<ops.size)&&(ko ds k&&L k))
theorem lY (X:Exit->World->Prop)(hX: ∀ex a W,a.defers=a0.defers->X ex W->Q ex a W)(J:(Nat->Bool)->(Nat->Value)->World->Prop)(ds:List (Option Nat×Option Value×Nat))(hJ0: ∀φ,J (fun _=>false) φ w.drew)(hmono: ∀i M φ W W',ws ops ds i M->ao W W'->J M φ W->J M φ W')(hall:okN P ops a0.tmps.size ds=true)
  (hstep: ∀i M φ W,ws ops ds i M->J M φ W->(∀(j:Nat) (p:Oper),ops[j]? =some p->M j=true-> ∀e∈p.after,Region.binds .any e=true->ko ds e.on=true->M e.on=true)-> ∀(F:Act) (l:List Value),(putAll (dN ds φ) a0).tmps.toList=l->dg F 0 l->dC (en P ops X ds J F φ M W) 0 ops.toList ds)
  (hend: ∀M φ W,(∀k,k<ops.size->ko ds k=true->M k=true)->J M φ W->Q .normal (putAll (dP ds φ) a0) W):(Code.region id ops true).wp P Q a0 w:=by
 unfold okN at hall;simp only[bq]at hall;obtain⟨hm,hback,hdst,hin,hds,hlk,hdd⟩:=hall;replace hds:=eq_of_beq hds;obtain⟨ks,hks⟩:=aq (ds.map (fun p=>(p.2.1.isSome,p.2.2)));rw[hks]at hlk hdd
 have hl:ds.length=ops.size:=by
  have h:=congrArg List.length hds;simpa using h.symm
 have atD: ∀{j:Nat} {p:Oper},ops[j]? =some p-> ∃x k,ds[j]? =some (p.dst,x,k):=fun {j p} hp=>by
  have h1:(ops.toList.map (fun o=>o.dst))[j]? =some p.dst:=by
   rw[bg,bo,hp];rfl
  rw[hds,bg]at h1;cases hs:ds[j]? with
  |none=>rw[hs]at h1;cases h1
  |some q=>
   rw[hs]at h1;exact⟨q.2.1,q.2.2,by rw[<-aK h1]⟩
 have atO: ∀{j k:Nat} {d:Option Nat} {x:Option Value},ds[j]? =some (d,x,k)-> ∃p,ops[j]? =some p/\p.dst=d:=fun {j k d x} hj=>by
  have hj':=(aE.1 hj).1;obtain⟨p,hp⟩: ∃p,ops[j]? =some p:=⟨ops[j]'(by omega),fk _⟩
  obtain⟨v',k',hv'⟩:=atD hp;rw[hj]at hv';exact⟨p,hp,(congrArg Prod.fst (aK hv')).symm⟩
 have ksAt: ∀{j k:Nat} {d:Option Nat} {x:Option Value},ds[j]? =some (d,x,k)->ks.getD j (true,0)=(x.isSome,k):=fun {j k d x} h=>by
  rw[<-hks];simp[List.getD,h]
 have dsz: ∀{j:Nat} {p:Oper} {s:Nat},ops[j]? =some p->p.dst=some s->s<a0.tmps.size:=fun {j p s} hp hd=>by
  have q1:=dj.1 hin j (by simpa using(cQ.1 hp).1);rw[hp]at q1;simp only[Option.bind_some,hd]at q1;simpa using q1
 have uniq: ∀{j k:Nat} {p q:Oper} {s:Nat},ops[j]? =some p->ops[k]? =some q->p.dst=some s->q.dst=some s->j=k:=fun {j k p q s} hp hq h1 h2=>by
  have q1:=dj.1 hdst j (by simpa using(cQ.1 hp).1);have q2:=dj.1 q1 k (by simpa using(cQ.1 hq).1);rw[hp,hq]at q2;simpa[h1,h2] using q2
 refine yj hm hback hdst hin (fun L A W=>Eh ops L/\A.tmps.size=a0.tmps.size/\ ∃φ:Nat->Value,(∀j s k:Nat,ds[j]? =some (some s,none,k)->φ s=A.tmps.getD s undef)/\J (fun k=>decide (k<ops.size)&&(ko ds k&&L k)) φ W) (fun j x _=> ∀d v k,ds[j]? =some (d,some v,k)->x=v) ?_ ?_ ?_
 ·intro L h;refine⟨fun j p hp hj=> ?_,rfl,fun s=>a0.tmps.getD s undef,fun _ _ _ _=>rfl,?_⟩
  ·have:=h j (cQ.1 hp).1;rw[this]at hj;cases hj
  ·rw[show(fun k=>decide (k<ops.size)&&(ko ds k&&L k))=fun _=>false from funext fun k=>by
    by_cases hk:k<ops.size
    ·rw[h k hk];simp
    ·simp[hk]]
   exact hJ0 _
 ·intro i o L A W ho hLi hdep hJ hdef hkept hhas;obtain⟨hc,hsz,φ,hφ,hJ⟩:=hJ;have hi:i<ops.size:=(cQ.1 ho).1
  have hc':Eh ops (fun k=>decide (i=k)||L k):=by
   intro j p hp hj e he hb;show(decide (i=e.on)||L e.on)=true;by_cases hij:i=j
   ·subst hij;rw[ho]at hp;cases hp;rw[hdep e he hb];simp
   ·rw[hc j p hp (by simpa[hij] using hj) e he hb];simp
  obtain⟨x,kx,hx⟩:=atD ho;have hlo:=dj.1 hlk i (by simpa using hi);rw[ho]at hlo;obtain⟨hsel,hlo⟩:=(bq _ _).mp hlo
  have hbk: ∀(j:Nat) (p:Oper),ops[j]? =some p-> ∀e∈p.after,Region.binds .any e=true->e.on<ops.size:=fun j p hp e he hb=>by
   have hj:=(cQ.1 hp).1;have h1:=dj.1 hback j (by simpa using hj);rw[hp]at h1;have h2:=Array.all_eq_true'.1 h1 e he;rw[hb]at h2;have h3:e.on<j:=(by simpa using h2);omega
  have hag: ∀t∈o.looksAt ops,A.tmps.getD t undef=(putAll (dN ds φ) a0).tmps.getD t undef:=fun t ht=>by
   have h1:=dj.1 hlo t ht;by_cases hw: ∃(j:Nat) (p:Oper),ops[j]? =some p/\p.dst=some t
   ·obtain⟨j,p,hp,hd⟩:=hw;have h2:=dj.1 h1 j (by simpa using(cQ.1 hp).1);rw[hp]at h2;simp only[hd,bne_self_eq_false,Bool.false_or]at h2;obtain⟨y,ky,hy⟩:=atD hp;rw[hd]at hy;rw[ksAt hy]at h2;by_cases hlt:ky=2/\y≠none
    ·rw[ay (by simp[hlt.1])]at h2
     have hLj:L j=false:=by
      cases hq:L j with
      |false=>rfl
      |true=>
       rcases(gY _ _).mp h2 with e|e
       ·rw[<-beq_iff_eq.1 e,hLi]at hq;cases hq
       ·have:=vw e (hc j p hp hq);rw[hLi]at this;cases this
     have hk:=hkept t fun k q hq hLk hdq=>by
      have:=uniq hp hq hd hdq;subst this;rw[hLj]at hLk;cases hLk
     rw[hk];refine(kF _ _ _ fun q hq e=> ?_).symm;obtain⟨s,v⟩:=q;subst e;obtain⟨k,kk,hk'⟩:=ma hq
     have hkd: ∃z,ds[k]? =some (some s,z,kk):=by
      rcases hk' with h|h
      ·exact⟨_,h.1⟩
      ·exact⟨_,h.1⟩
     obtain⟨z,hz⟩:=hkd;obtain⟨q,hq',hdq⟩:=atO hz;have:=uniq hp hq' hd hdq;subst this;rw[hy]at hz;cases hz;rcases hk' with h|h
     ·exact h.2 hlt.1
     ·rw[hy]at h;exact hlt.2 (congrArg (fun q=>q.2.1) (aK h.1))
    ·obtain⟨v,hv,e⟩:=wo (dN ds φ) a0 t (dsz hp hd) (AT hy (by
      by_cases hy0:y=none
      ·exact .inr hy0
      ·exact .inl (by simpa[hy0] using hlt)))
     rw[e];obtain⟨k,kk,hk'⟩:=ma hv
     have hkd: ∃z,ds[k]? =some (some t,z,kk):=by
      rcases hk' with h|h
      ·exact⟨_,h.1⟩
      ·exact⟨_,h.1⟩
     obtain⟨z,hz⟩:=hkd;obtain⟨q,hq',hdq⟩:=atO hz;have:=uniq hp hq' hd hdq;subst this;rw[hy]at hz;cases hz;rcases hk' with h|h
     ·have hz':=h.1;rw[hy]at hz';cases hz';rw[aw (by simpa using h.2)]at h2;have hLj:=vw (by simpa using h2) hdep;exact hhas j p hp hLj t hd _ _ _ hy
     ·rw[h.2];exact(hφ j t _ h.1).symm
   ·have hn: ∀(j:Nat) (p:Oper),ops[j]? =some p->p.dst≠some t:=fun j p hp e=>hw ⟨j,p,hp,e⟩;rw[hkept t fun j p hp _=>hn j p hp];refine(kF _ _ _ fun q hq e=> ?_).symm;obtain⟨s,v⟩:=q;subst e;obtain⟨k,kk,hk'⟩:=ma hq;rcases hk' with h|h
    ·obtain⟨q,hq',hdq⟩:=atO h.1;exact hn _ _ hq' hdq
    ·obtain⟨q,hq',hdq⟩:=atO h.1;exact hn _ _ hq' hdq
  have hU:ws ops ds i (fun k=>decide (k<ops.size)&&(ko ds k&&L k)):=⟨hi,L,hc,hLi,fun _=>rfl⟩
  have hD:=yY (hstep i _ φ W hU hJ (fun j p hp hj e he hb hde=>by
   simp only[bq,bH]at hj;simp only[hc j p hp hj.2.2 e he hb,hde,hbk j p hp e he hb,decide_true,iM]) (putAll (dN ds φ) a0) _ rfl (AU fun k v hk=>by rw[bK,<-bo];exact hk)) (j:=i) (by rw[bo];exact ho) hx
  rw[bK]at hD
  have hnot: ∀(j:Nat) (q:Oper),ops[j]? =some q->sU q i=true->(decide (j<ops.size)&&(ko ds j&&L j))=false:=fun j q hq hw=>by
   cases hj:L j with
   |false=>simp only[iQ]
   |true=>
    have:=vw hw (hc j q hq hj);rw[hLi]at this;cases this
  have hD':=hD (fun e he hb hde=>by simp only[hdep e he hb,hde,hbk i o ho e he hb,decide_true,iM]) hnot (by simp only[hLi,iQ]);refine wpOp_mono ?_ (Ej (fun ex W=>hX ex A W hdef) ho (fun cs b e=>by rw[e]at hsel;cases hsel) hag (fun s hs=>by rw[qV];exact dsz ho hs) hD');rintro a' W' ⟨v,rfl,hv,hR⟩;refine⟨v,rfl,fun _ d u k hdu=> ?_,fun _ _ _ h=>h,hc',by cases o.dst<;>simpa[Act.put] using hsz,?_⟩
  ·rw[hx]at hdu;have e2:x=some u:=congrArg (fun q=>q.2.1) (aK hdu);subst e2;exact hv
  ·have hget: ∀s,(∀t,o.dst=some t->t≠s)->(A.put o.dst v).tmps.getD s undef=A.tmps.getD s undef:=fun s hs=>by
    cases hd:o.dst with
    |none=>rfl
    |some t=>exact jC _ _ _ _ (hs t hd)
   by_cases hk1:kx=1
   ·subst hk1;have hde:ko ds i=true:=(by unfold ko;rw[hx];rfl)
    have eM:(fun k=>decide (k<ops.size)&&(ko ds k&&(decide (i=k)||L k)))=fun k=>decide (i=k)||(decide (k<ops.size)&&(ko ds k&&L k)):=funext fun k=>by
     by_cases e:i=k
     ·subst e;simp only[hi,hde,decide_true,Bool.true_or,iM]
     ·simp only[e,decide_false,Bool.false_or]
    rw[eM];refine⟨_,fun j s k hj=> ?_,hR⟩;obtain⟨q,hq,hdq⟩:=atO hj;cases hd:o.dst with
    |none=>
     simp only[];exact hφ j s k hj
    |some t=>
     cases x with
     |none=>
      simp only[];by_cases e:t=s
      ·subst e;rw[dI];exact(jX _ _ _ (by rw[hsz];exact dsz ho hd)).symm
      ·rw[dy e,hφ j s k hj];exact(jC _ _ _ _ e).symm
     |some u=>
      simp only[];rw[hφ j s k hj];refine(jC _ _ _ _ fun e=> ?_).symm;subst e;have:=uniq ho hq hd hdq;subst this;rw[hx]at hj;cases congrArg (fun q=>q.2.1) (aK hj)
   ·have hde:ko ds i=false:=by
     unfold ko;rw[hx];split
     ·rename_i h;exact absurd (congrArg (fun q=>q.2.2) (aK h)) hk1
     ·rfl
    have hB:ao W W':=by
     revert hR;dsimp only;split
     ·exact absurd rfl hk1
     ·exact fun h=>h
    have eM:(fun k=>decide (k<ops.size)&&(ko ds k&&(decide (i=k)||L k)))=fun k=>decide (k<ops.size)&&(ko ds k&&L k):=funext fun k=>by
     by_cases e:i=k
     ·subst e;simp only[hde,Bool.false_and,iQ]
     ·simp only[e,decide_false,Bool.false_or]
    rw[eM];refine⟨φ,fun j s k hj=> ?_,hmono i _ _ _ _ hU hB hJ⟩;rw[hφ j s k hj];refine(hget s fun t ht e=> ?_).symm;subst e;obtain⟨q,hq,hdq⟩:=atO hj;have:=uniq ho hq ht hdq;subst this;rw[hx]at hj;have hxn:x=none:=congrArg (fun q=>q.2.1) (aK hj);subst hxn;have h1:=dj.1 hdd i (by simpa using hi);rw[ksAt hx]at h1;simp[hk1]at h1
 ·intro L A W hL hJ hdef hsize hkept hhas;obtain⟨_,hsz,φ,hφ,hJ⟩:=hJ
  have hA:A=putAll (dP ds φ) a0:=by
   have hnd:((dP ds φ).map (fun p=>p.1)).Nodup:=by
    rw[mF]
    have:ds.filterMap (fun p=>p.1)=ops.toList.filterMap (fun o=>o.dst):=by
     have h1:=congrArg (List.filterMap fun q:Option Nat=>q) hds;rw[List.filterMap_map,List.filterMap_map]at h1;exact h1.symm
    rw[this];unfold List.Nodup;refine List.pairwise_filterMap.2 (List.pairwise_iff_getElem.2 fun j k hj hk hjk s hs t ht e=> ?_);subst e;have:=uniq (j:=j) (k:=k) (by rw[<-bo];exact ax hj) (by rw[<-bo];exact ax hk) hs ht;omega
   refine Ng _ hdef hsz ?_ (fun s h=>hkept s fun j p hp e=> ?_) fun j s v hj=> ?_
   ·rw[show(dP ds φ).map (fun p=>some p.1)=((dP ds φ).map (fun p=>p.1)).map some by rw[jE];rfl];unfold List.Nodup at hnd⊢;rw[List.pairwise_map];exact List.Pairwise.imp (fun h e=>h (aK e)) hnd
   ·obtain⟨x,k,hx⟩:=atD hp;rw[e]at hx
    have hm1:s∈(dP ds φ).map (fun p=>p.1):=by
     rw[mF];exact List.mem_filterMap.2 ⟨(some s,x,k),aM hx,rfl⟩
    obtain⟨q,hq,hqs⟩:=dw.1 hm1;exact h q hq hqs
   ·obtain⟨k,kk,hk⟩:=rW (aM hj);rcases hk with hk|⟨hk,rfl⟩
    ·obtain⟨p,hp,hd⟩:=atO hk;exact hhas k p hp s hd _ _ _ hk
    ·exact(hφ k s _ hk).symm
  rw[hA];refine hend _ φ W (fun k hk hd=> ?_) hJ;simp only[hL k hk,hd,hk,decide_true,Bool.and_self]
theorem dt (J:(Nat->Bool)->(Nat->Value)->World->Prop)(ds:List (Option Nat×Option Value×Nat))(hJ0: ∀φ,J (fun _=>false) φ w.drew)(hmono: ∀M φ W W',ao W W'->J M φ W->J M φ W')(hall:okN P ops a0.tmps.size ds=true)
  (hstep: ∀M φ W,J M φ W->(∀(j:Nat) (p:Oper),ops[j]? =some p->M j=true-> ∀e∈p.after,Region.binds .any e=true->ko ds e.on=true->M e.on=true)-> ∀(F:Act) (l:List Value),(putAll (dN ds φ) a0).tmps.toList=l->dg F 0 l->dC (en P ops (fun _ _=>False) ds J F φ M W) 0 ops.toList ds)
  (hend: ∀M φ W,(∀k,k<ops.size->ko ds k=true->M k=true)->J M φ W->Q .normal (putAll (dP ds φ) a0) W):(Code.region id ops true).wp P Q a0 w:=
 lY (fun _ _=>False) (fun _ _ _ _ h=>h.elim) J ds hJ0 (fun _ M φ W W' _=>hmono M φ W W') hall (fun _ M φ W _=>hstep M φ W) hend
def AL (Q:Exit->Act->World->Prop)(a0:Act)(ds:List (Option Nat×Option Value×Nat))(n:Nat)(J0:(Nat->Bool)->(Nat->Value)->World->Prop)(M:Nat->Bool)(φ:Nat->Value)(W:World):Prop:=(M n=false->J0 M φ W)/\(M n=true->Q .normal (putAll (dP ds φ) a0) W)
theorem qW (n:Nat)(J0:(Nat->Bool)->(Nat->Value)->World->Prop)(ds:List (Option Nat×Option Value×Nat))(h0: ∀φ,J0 (fun _=>false) φ w.drew)(hm: ∀M φ W W',ao W W'->J0 M φ W->J0 M φ W')(hw:(Eg ops&&(ko ds n&&ops.size==n+1))=true)(hall:okN P ops a0.tmps.size ds=true)
  (hstep: ∀M φ W,M n=false->J0 M φ W-> ∀(F:Act) (l:List Value),(putAll (dN ds φ) a0).tmps.toList=l->dg F 0 l->dC (en P ops (fun _ _=>False) ds (AL Q a0 ds n J0) F φ M W) 0 ops.toList ds):(Code.region id ops true).wp P Q a0 w:=by
 simp only[bq,beq_iff_eq]at hw;obtain⟨huse,hd,hn⟩:=hw
 have hU: ∀{i M},ws ops ds i M->M n=false:=fun {i M} h=>by
  obtain⟨hi,L,hc,hLi,hM⟩:=h;rw[hM];cases h:L n with
  |false=>simp only[iQ]
  |true=>
   have:=Dt huse hn hc h n i (by omega) (by omega);rw[hLi]at this;cases this
 refine lY (fun _ _=>False) (fun _ _ _ _ h=>h.elim) (AL Q a0 ds n J0) ds (fun φ=>⟨fun _=>h0 φ,(fun h=>by cases h)⟩) (fun i M φ W W' hu hb h=>⟨fun c=>hm _ _ _ _ hb (h.1 c),fun c=>by rw[hU hu]at c;cases c⟩) hall (fun i M φ W hu hJ _=>hstep M φ W (hU hu) (hJ.1 (hU hu))) (fun M φ W hM hJ=>hJ.2 (hM n (by omega) hd))
theorem lZ (n:Nat)(J0:World->Prop)(ds:List (Option Nat×Option Value×Nat))(h0:J0 w.drew)(hm: ∀W W',ao W W'->J0 W->J0 W')(hw:(Eg ops&&(ko ds n&&ops.size==n+1))=true)(hall:okN P ops a0.tmps.size ds=true)
  (hstep: ∀M φ W,M n=false->J0 W-> ∀(F:Act) (l:List Value),(putAll (dN ds φ) a0).tmps.toList=l->dg F 0 l->dC (en P ops (fun _ _=>False) ds (AL Q a0 ds n fun _ _=>J0) F φ M W) 0 ops.toList ds):(Code.region id ops true).wp P Q a0 w:=
 qW n (fun _ _=>J0) ds (fun _=>h0) (fun _ _=>hm) hw hall hstep
theorem jz (n:Nat)(ds:List (Option Nat×Option Value×Nat))(hw:(Eg ops&&(ko ds n&&ops.size==n+1))=true)(hall:okN P ops a0.tmps.size ds=true)
  (hstep: ∀M φ W,M n=false->ao w W-> ∀(F:Act) (l:List Value),(putAll (dN ds φ) a0).tmps.toList=l->dg F 0 l->dC (en P ops (fun _ _=>False) ds (AL Q a0 ds n fun _ _=>Below w.heap.size w) F φ M W) 0 ops.toList ds):(Code.region id ops true).wp P Q a0 w:=
 lZ n (Below w.heap.size w) ds (aG _ _).drew (fun _ _ hb h=>au h hb) hw hall hstep
end
end
end Go.Proofs.YtjkilacmkbmmbaaGreatDoor
