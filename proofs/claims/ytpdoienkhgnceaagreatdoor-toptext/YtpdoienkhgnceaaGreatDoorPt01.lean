/- Texts of the proof. -/
import Derived.Test.YtpdoienkhgnceaaGreatDoorPtZb
set_option maxRecDepth 100000
set_option maxHeartbeats 8000000
namespace Go.Proofs.YtpdoienkhgnceaaGreatDoor
open Go.Proofs.Tryz Go.RowKit Lx Vx Mx Msk
section
def uc:List Bool->Nat
 |[]=>0
 |b::l=>(if b then 0 else 1)+uc l
theorem Jw: ∀(l:List Bool) (i:Nat),l[i]? =some false->uc (l.set i true)+1=uc l
 |[],i,h=>by simp at h
 |b::l,0,h=>by
  simp at h;subst h;simp[uc];omega
 |b::l,i+1,h=>by
  have:=Jw l i (by simpa using h);simp only[aJ,uc];omega
theorem F9: ∀(l:List Bool),uc l=0-> ∀i:Nat,l[i]? ≠some false
 |[],_,i=>by simp
 |b::l,h,0=>by
  cases b
  ·simp[uc]at h
  ·simp
 |b::l,h,i+1=>by
  have:uc l=0:=(by simp only[uc]at h;omega);simpa using F9 l this i
theorem Jx: ∀n,uc (List.replicate n false)=n
 |0=>rfl
 |n+1=>by simp only[List.replicate_succ,uc,Jx n];simp;omega
section
variable {P:Program} {ops:Array Oper} {Q:Exit->Act->World->Prop}
theorem wU {listed:Array Bool}{i:Nat}(h:i∈Region.ready .any ops listed):listed.toList[i]? =some false:=by
 have:=(mem_ready.1 h).1;by_cases hi:i<listed.size
 ·simp[Array.getD,hi]at this;simp[hi,this]
 ·simp[Array.getD,hi]at this
theorem Bm (I:Array Bool->Act->World->Prop)(e: ∀b a w i,I b a w->i∈Region.ready .any ops b->wpOp P ops Q i (fun g k=>I (b.setIfInBounds i true) g k) a w)
  (d: ∀b a w,I b a w->Region.ready .any ops b=[]->Q .normal a w):
  ∀(c:Nat) (b:Array Bool) (a:Act) (w:World),uc b.toList<=c->I b a w->wpAny P .any ops Q c b a w
 |0,b,a,w,n,h=>by
  have f:Region.ready .any ops b=[]:=by
   cases f:Region.ready .any ops b with
   |nil=>rfl
   |cons i l=>
    have j:=wU (ops:=ops) (listed:=b) (i:=i) (by rw[f];simp);exact absurd j (F9 _ (by omega) i)
  exact⟨f,d _ _ _ h f⟩
 |c+1,b,a,w,n,h=>by
  refine⟨fun f=>d _ _ _ h f,fun i hi=> ?_⟩;have j:=wU hi;have o:=Jw _ i j;refine wpOp_mono (fun g k m=> ?_) (e b a w i h hi);refine Bm I e d c _ g k ?_ m;rw[Array.toList_setIfInBounds];omega
def yG (ops:Array Oper):Bool:=(List.range ops.size).all fun i=>match ops[i]? with|none=>true|some o=>o.after.all fun e=> !Region.binds .any e||decide (e.on<i)
theorem Jy (m:yG ops=true){a:Array Bool}(o:Region.ready .any ops a=[]): ∀i,i<ops.size->a.getD i true=true:=by
 intro i;induction i using Nat.strongRecOn with
 |ind i q=>
  intro hi;cases hb:a.getD i true with
  |true=>rfl
  |false=>
   exfalso;have k:ops[i]? =some ops[i]:=(by simp[hi])
   have j:i∈Region.ready .any ops a:=mem_ready.2 ⟨hb,ops[i],k,fun e n b=>by
    have c:=dl.1 m i (by simpa using hi);rw[k]at c;have d:=Array.all_eq_true'.1 c e n;have l:e.on<i:=(by rw[b]at d;simpa using d);have f:=q e.on l (by omega);by_cases p:e.on<a.size
    ·simp[Array.getD,p]at f⊢;exact f
    ·exfalso
     have r:i<a.size:=by
      by_cases g:i<a.size
      ·exact g
      ·simp[Array.getD,g]at hb
     omega⟩
   rw[o]at j;cases j
def G7 (ops:Array Oper):Bool:=(List.range ops.size).all fun i=>(List.range ops.size).all fun j=>i==j||(match(ops[i]?).bind (·.dst),(ops[j]?).bind (·.dst) with|some s,some t=>s !=t|_,_=>true)
def inB (ops:Array Oper)(n:Nat):Bool:=(List.range ops.size).all fun i=>(match(ops[i]?).bind (·.dst) with|some s=>decide (s<n)|none=>true)
structure St (ops:Array Oper)(sp:Nat->Value->World->Prop)(a0:Act)(listed:Array Bool)(a:Act)(w:World):Prop where
 defs:a.defers=a0.defers
 size:a.tmps.size=a0.tmps.size
 kept: ∀s,(∀i o,ops[i]? =some o->listed.getD i true=true->o.dst≠some s)->a.tmps.getD s undef=a0.tmps.getD s undef
 has: ∀i o,ops[i]? =some o->listed.getD i true=true-> ∀s,o.dst=some s->sp i (a.tmps.getD s undef) w
theorem kJ (t:Array Value)(s:Nat)(v:Value)(h:s<t.size):(t.setIfInBounds s v).getD s undef=v:=by simp[Array.getD,h]
theorem j9 (t:Array Value)(s a:Nat)(v:Value)(h:s≠a):(t.setIfInBounds s v).getD a undef=t.getD a undef:=by
 by_cases b:a<t.size
 ·simp[Array.getD,b,h]
 ·simp[Array.getD,b]
theorem mT (l:Array Bool)(i j:Nat):(l.setIfInBounds i true).getD j true=(decide (i=j)||l.getD j true):=by
 by_cases b:j<l.size
 ·by_cases a:i=j
  ·subst a;simp[Array.getD,b]
  ·simp[Array.getD,b,a]
 ·simp[Array.getD,b]
def Jz (ops:Array Oper)(s:Nat):Bool:=ops.all fun o=>o.dst !=some s
theorem nd {s:Nat}(h:Jz ops s=true)(j:Nat)(p:Oper)(a:ops[j]? =some p):p.dst≠some s:=by
 have:=Array.all_eq_true'.1 h p (Array.mem_of_getElem? a);simpa using this
theorem o6 {id:Nat}{r:Act}{w:World}(hm:P.follows .mixedOrders=true)(z:yG ops=true)(D:G7 ops=true)(U:inB ops r.tmps.size=true)
  (J:(Nat->Bool)->Act->World->Prop) (sp:Nat->Value->World->Prop)
  (hJ: ∀L:Nat->Bool,(∀i,i<ops.size->L i=false)->J L r {w with drawn:=w.drawn+1})
  (B: ∀(i:Nat) (o:Oper) (L:Nat->Bool) (a:Act) (W:World),ops[i]? =some o->L i=false->(∀e∈o.after,Region.binds .any e=true->L e.on=true)->J L a W->
    a.defers=r.defers->(∀s,(∀(j:Nat) (p:Oper),ops[j]? =some p->L j=true->p.dst≠some s)->a.tmps.getD s undef=r.tmps.getD s undef)->(∀(j:Nat) (p:Oper),ops[j]? =some p->L j=true-> ∀s,p.dst=some s->sp j (a.tmps.getD s undef) W)->
    wpOp P ops Q i (fun M C=> ∃v,M=a.put o.dst v/\(o.dst≠none->sp i v C)/\(∀j u,L j=true->sp j u W->sp j u C)/\J (fun k=>decide (i=k)||L k) M C) a W)
  (E: ∀(L:Nat->Bool) (a:Act) (W:World),(∀i,i<ops.size->L i=true)->J L a W->a.defers=r.defers->a.tmps.size=r.tmps.size->(∀s,(∀(j:Nat) (p:Oper),ops[j]? =some p->p.dst≠some s)->a.tmps.getD s undef=r.tmps.getD s undef)->
    (∀(j:Nat) (p:Oper),ops[j]? =some p-> ∀s,p.dst=some s->sp j (a.tmps.getD s undef) W)->Q .normal a W):(Code.region id ops true).wp P Q r w:=by
 refine wp_region_any hm (Bm (fun b a W=>b.size=ops.size/\J (fun i=>b.getD i true) a W/\St ops sp r b a W) ?_ ?_ _ _ _ _ ?_ ?_)
 ·rintro b a W i ⟨I,V,st⟩ hi;obtain⟨F,o,y,l⟩:=mem_ready.1 hi
  have hL: ∀e∈o.after,Region.binds .any e=true->b.getD e.on true=true:=fun e he hb=>by
   have:=l e he hb;by_cases I:e.on<b.size
   ·simp[Array.getD,I]at this⊢;exact this
   ·simp[Array.getD,I]
  have H:i<ops.size:=(bz.1 y).1;refine wpOp_mono ?_ (B i o (fun i=>b.getD i true) a W y F hL V st.defs (fun s h=>st.kept s h) (fun j p c m s A=>st.has j p c m s A));rintro M C ⟨v,rfl,hv,q,X⟩;have G:(fun k=>(b.setIfInBounds i true).getD k true)=fun k=>decide (i=k)||b.getD k true:=funext fun k=>mT b i k;refine⟨by simpa using I,by rw[G];exact X,?_⟩
  have R: ∀(j:Nat) (p:Oper) s t,ops[j]? =some p->i≠j->o.dst=some s->p.dst=some t->s≠t:=fun j p s t c x O Z=>by
   have K:=dl.1 D i (by simpa using H);have Y:=dl.1 K j (by simpa using(bz.1 c).1);rw[y,c]at Y;simp only[Option.bind_some,O,Z]at Y;simpa[x] using Y
  have T: ∀s,o.dst=some s->s<a.tmps.size:=fun s O=>by
   have K:=dl.1 U i (by simpa using H);rw[y]at K;simp only[Option.bind_some,O]at K;rw[st.size];simpa using K
  have n: ∀j,(b.setIfInBounds i true).getD j true=true->i=j\/b.getD j true=true:=fun j h=>by
   rw[mT]at h;simpa using h
  cases hd:o.dst with
  |none=>
   refine⟨st.defs,st.size,fun s h=> ?_,fun j p c m s f=> ?_⟩
   ·exact st.kept s fun j p c m=>h j p c (by rw[mT,m];simp)
   ·rcases n j m with rfl|g
    ·rw[y]at c;have:=ay c;subst this;rw[hd]at f;cases f
    ·exact q j _ g (st.has j p c g s f)
  |some d=>
   have S:=T d hd;refine⟨st.defs,by simpa[Act.put] using st.size,fun s h=> ?_,fun j p c m s f=> ?_⟩
   ·have A:d≠s:=fun e=>by
     subst e;exact h i o y (by rw[mT];simp) hd
    show(a.tmps.setIfInBounds d v).getD s undef=_;rw[j9 _ _ _ _ A];exact st.kept s fun j p c m=>h j p c (by rw[mT,m];simp)
   ·show sp j ((a.tmps.setIfInBounds d v).getD s undef) C;rcases n j m with rfl|g
    ·rw[y]at c;have:=ay c;subst this;rw[hd]at f;have:=ay f;subst this;rw[kJ _ _ _ S];exact hv (by rw[hd];simp)
    ·by_cases x:i=j
     ·subst x;rw[F]at g;cases g
     ·rw[j9 _ _ _ _ (R j p d s c x hd f)];exact q j _ g (st.has j p c g s f)
 ·rintro b a W ⟨I,V,st⟩ hr;have l:=Jy z hr;exact E _ a W l V st.defs st.size (fun s h=>st.kept s fun j p c _=>h j p c) (fun j p c s f=>st.has j p c (l j (bz.1 c).1) s f)
 ·simp[Jx]
 ·have F: ∀i,i<ops.size->(Array.replicate ops.size false).getD i true=false:=fun i hi=>by simp[Array.getD,hi]
  refine⟨by simp,hJ _ F,rfl,rfl,fun _ _=>rfl,fun i o y m s _=> ?_⟩;rw[F i (bz.1 y).1]at m;cases m
end
end
theorem gd (A:Act)(s:Nat):A.tmps[s]?.getD undef=A.tmps.getD s undef:=by simp
section
def putAll (b:List (Nat×Value))(a:Act):Act:=b.foldl (fun a p=>a.put (some p.1) p.2) a
theorem a8 (a:Act):putAll [] a=a:=rfl
theorem aR (p:Nat×Value)(b:List (Nat×Value))(a:Act):putAll (p::b) a=putAll b (a.put (some p.1) p.2):=rfl
theorem uq: ∀(b:List (Nat×Value)) (a:Act),(putAll b a).defers=a.defers
 |[],_=>rfl
 |p::b,a=>(uq b (a.put (some p.1) p.2)).trans rfl
theorem sK: ∀(b:List (Nat×Value)) (a:Act),(putAll b a).tmps.size=a.tmps.size
 |[],_=>rfl
 |p::b,a=>(sK b (a.put (some p.1) p.2)).trans (by simp[Act.put])
theorem lh: ∀(b:List (Nat×Value)) (a:Act) (s:Nat),(∀p∈b,p.1≠s)->(putAll b a).tmps.getD s undef=a.tmps.getD s undef
 |[],_,_,_=>rfl
 |p::b,a,s,h=>by
  rw[aR,lh b _ s (fun q c=>h q (bj _ c))];exact j9 _ _ _ _ (h p aV)
theorem wV: ∀(b:List (Nat×Value)) (a:Act) (j s:Nat) (v:Value),(b.map (fun p=>some p.1)).Nodup->s<a.tmps.size->b[j]? =some (s,v)->(putAll b a).tmps.getD s undef=v
 |[],_,_,_,_,_,_,h=>by simp at h
 |p::b,a,0,s,v,c,d,h=>by
  simp at h;subst h;rw[aR,lh b _ s ?_]
  ·exact kJ _ _ _ d
  ·intro q f e;rw[cQ,List.nodup_cons]at c;exact c.1 (dB.2 ⟨q,f,by rw[e]⟩)
 |p::b,a,j+1,s,v,c,d,h=>by
  rw[aR];rw[cQ,List.nodup_cons]at c;exact wV b _ j s v c.2 (by simpa[Act.put] using d) (by simpa using h)
theorem CX {A a0:Act}(a:List (Nat×Value))(o:A.defers=a0.defers)(z:A.tmps.size=a0.tmps.size)(u:(a.map (fun p=>some p.1)).Nodup)
  (r: ∀s,(∀p∈a,p.1≠s)->A.tmps.getD s undef=a0.tmps.getD s undef) (q: ∀(j s:Nat) (v:Value),a[j]? =some (s,v)->A.tmps.getD s undef=v):A=putAll a a0:=by
 have k:=uq a a0;have y:=sK a a0
 have l: ∀s,s<a0.tmps.size->A.tmps.getD s undef=(putAll a a0).tmps.getD s undef:=by
  intro s c;by_cases h: ∃p∈a,p.1=s
  ·obtain⟨p,b,rfl⟩:=h;obtain⟨j,g⟩:=List.getElem?_of_mem b;rw[q j _ _ g,wV a a0 j _ _ u c g]
  ·have f: ∀p∈a,p.1≠s:=fun p b e=>h ⟨p,b,e⟩;rw[r s f,lh a a0 s f]
 generalize putAll a a0=F at*;obtain⟨t,d⟩:=A;obtain⟨w,x⟩:=F;dsimp only at*
 have:t=w:=by
  apply Array.ext
  ·omega
  ·intro i m n;have:=l i (by omega);simpa[Array.getD,m,n] using this
 rw[this,o,k]
section
variable {P:Program} {ops:Array Oper} {Q:Exit->Act->World->Prop} {id:Nat} {a0:Act} {w:World}
def Oq (P:Program)(ops:Array Oper)(Q:Exit->Act->World->Prop)(a:List (Nat×Value))(a0:Act)(w:World):Prop:=
 ∀(i s:Nat) (v:Value) (o:Oper) (L:Nat->Bool) (A:Act) (W:World),ops[i]? =some o->a[i]? =some (s,v)->(∀e∈o.after,Region.binds .any e=true->L e.on=true)->ao w W->
  (∀s,Jz ops s=true->A.tmps.getD s undef=a0.tmps.getD s undef)->(∀(j s:Nat) (u:Value),a[j]? =some (s,u)->L j=true->A.tmps.getD s undef=u)->wpOp P ops Q i (fun c b=>c=A.put (some s) v/\ao W b) A W
theorem rh {k:Nat}{c:List (Nat×Value)}(d:(ops.toList.take k).map (fun o=>o.dst)=c.map (fun p=>some p.1)){i s:Nat}{v:Value}{o:Oper}(e:ops[i]? =some o)(h:c[i]? =some (s,v)):o.dst=some s:=by
 have a:(c.map (fun p=>some p.1))[i]? =some (some s):=by rw[bf,h];rfl
 rw[<-d,bf]at a
 have b:(ops.toList.take k)[i]? =some o\/(ops.toList.take k)[i]? =none:=by
  rw[gC];split
  ·left;simpa using e
  ·right;rfl
 rcases b with b|b
 ·rw[b]at a;simpa using a
 ·rw[b]at a;simp at a
theorem yI {k:Nat}{a:List (Nat×Value)}(c:(ops.toList.take k).map (fun o=>o.dst)=a.map (fun p=>some p.1)){i:Nat}{o:Oper}(hi:i<k)(e:ops[i]? =some o): ∃s v,a[i]? =some (s,v):=by
 have d:(ops.toList.take k)[i]? =some o:=by rw[gC,ax hi];simpa using e
 have b:((ops.toList.take k).map (fun o=>o.dst))[i]? =some o.dst:=by rw[bf,d];rfl
 rw[c,bf]at b;cases h3:a[i]? with
 |none=>rw[h3]at b;simp at b
 |some p=>exact⟨p.1,p.2,rfl⟩
theorem AG (N:P.follows .mixedOrders=true)(k:yG ops=true)(y:G7 ops=true)(E:inB ops a0.tmps.size=true)(c:List (Nat×Value))
  (a:(ops.toList.take ops.size).map (fun o=>o.dst)=c.map (fun p=>some p.1)) (G:decide (((ops.toList.take ops.size).map (fun o=>o.dst)).Nodup)=true)
  (n:Oq P ops Q c a0 w) (z: ∀W,ao w W->Q .normal (putAll c a0) W):(Code.region id ops true).wp P Q a0 w:=by
 have B:(c.map (fun p=>some p.1)).Nodup:=by rw[<-a];exact dM G
 refine o6 N k y E (fun _ _ W=>ao w W) (fun j x _=> ∀s v,c[j]? =some (s,v)->x=v) ?_ ?_ ?_
 ·intro L _;exact(aF _ _).drew
 ·intro i o L A W D I t C g b d;have hi:i<ops.size:=(bz.1 D).1;obtain⟨s,v,q⟩:=yI a hi D;have K:=rh a D q;refine wpOp_mono ?_ (n i s v o L A W D q t C (fun r h=>b r fun j p f _=>nd h j p f) (fun j r u l H=> ?_))
  ·rintro R O ⟨rfl,J⟩;exact⟨v,by rw[K],fun _ r S h=>by rw[q]at h;cases h;rfl,fun _ _ _ h=>h,au C J⟩
  ·have F:j<c.length:=(aE.1 l).1;have M:c.length=ops.size:=(by have:=congrArg List.length a;simpa using this.symm);obtain⟨p,f⟩: ∃p,ops[j]? =some p:=⟨ops[j]'(by omega),eO _⟩
   exact d j p f H r (rh a f l) r u l
 ·intro L A W H C g m b d;have:A=putAll c a0:=CX c g m B (fun s h=>b s fun j p f e=> ?_) (fun j s v l=> ?_)
  ·rw[this];exact z W C
  ·have hi:j<ops.size:=(bz.1 f).1;obtain⟨r,v,q⟩:=yI a hi f;have:=(rh a f q).symm.trans e;cases this;exact h _ (aL q) rfl
  ·have F:j<c.length:=(aE.1 l).1;have M:c.length=ops.size:=(by have:=congrArg List.length a;simpa using this.symm);obtain⟨p,f⟩: ∃p,ops[j]? =some p:=⟨ops[j]'(by omega),eO _⟩
   exact d j p f s (rh a f l) s v l
def CY (ops:Array Oper):Bool:=(List.range (ops.size-1)).all fun i=>(List.range ops.size).any fun j=>decide (i<j)&&match ops[j]? with|none=>false|some o=>o.after.any fun e=>Region.binds .any e&&decide (e.on=i)
theorem vS (g:CY ops=true){n:Nat}(u:ops.size=n+1){L:Nat->Bool}(f: ∀(j:Nat) (p:Oper),ops[j]? =some p->L j=true-> ∀e∈p.after,Region.binds .any e=true->L e.on=true)(c:L n=true): ∀k i,n-i<=k->i<=n->L i=true
 |0,i,t,hi=>by rw[show i=n by omega];exact c
 |k+1,i,t,hi=>by
  by_cases e:i=n
  ·rw[e];exact c
  have m:=dl.1 g i (by simp;omega);obtain⟨j,s,d⟩:=List.any_eq_true.1 m;simp at s;simp only[bx,bL]at d;obtain⟨r,a⟩:=d;cases ho:ops[j]? with
  |none=>rw[ho]at a;cases a
  |some o=>
   rw[ho]at a;obtain⟨l,q,b⟩:=Array.any_eq_true'.1 a;simp only[bx,bL]at b;have:=f j o ho (vS g u f c k j (by omega) (by omega)) l q b.1;rw[b.2]at this;exact this
theorem o7 (hm:P.follows .mixedOrders=true)(B:yG ops=true)(M:G7 ops=true)(Z:inB ops a0.tmps.size=true)(n:Nat)(hn:ops.size=n+1)(t:CY ops=true)(f:List (Nat×Value))
  (a:(ops.toList.take n).map (fun o=>o.dst)=f.map (fun p=>some p.1)) (ab:decide (((ops.toList.take n).map (fun o=>o.dst)).Nodup)=true)
  (F:Oq P ops Q f a0 w) (E: ∀(o:Oper) (W:World),ops[n]? =some o->ao w W->wpOp P ops Q n (fun S U=>(∃v,S=(putAll f a0).put o.dst v)/\Q .normal S U) (putAll f a0) W):(Code.region id ops true).wp P Q a0 w:=by
 have O:(f.map (fun p=>some p.1)).Nodup:=by rw[<-a];exact dM ab
 have hl:f.length=n:=by
  have h:=congrArg List.length a;simp only[bm,ef,cg]at h;omega
 refine o6 hm B M Z (fun L A W=>(∀(j:Nat) (p:Oper),ops[j]? =some p->L j=true-> ∀e∈p.after,Region.binds .any e=true->L e.on=true)/\(L n=false->ao w W/\A.tmps.size=a0.tmps.size)/\(L n=true->Q .normal A W)) (fun j x _=> ∀s v,f[j]? =some (s,v)->x=v) ?_ ?_ ?_
 ·intro L h;refine⟨fun j p d b=> ?_,fun _=>⟨(aF _ _).drew,rfl⟩,fun h'=> ?_⟩
  ·have:=h j (bz.1 d).1;rw[this]at b;cases b
  ·rw[h n (by omega)]at h';cases h'
 ·intro i o L A W H I m V l c q;obtain⟨hc,K,Y⟩:=V;have hi:i<ops.size:=(bz.1 H).1
  have z:L n=false:=by
   cases h:L n with
   |false=>rfl
   |true=>
    have:=vS t hn hc h n i (by omega) (by omega);rw[this]at I;cases I
  obtain⟨C,R⟩:=K z
  have D: ∀(j:Nat) (p:Oper),ops[j]? =some p->(decide (i=j)||L j)=true-> ∀e∈p.after,Region.binds .any e=true->(decide (i=e.on)||L e.on)=true:=by
   intro j p d b e he T;by_cases N:i=j
   ·subst N;rw[H]at d;cases d;rw[m e he T];simp
   ·rw[hc j p d (by simpa[N] using b) e he T];simp
  have g: ∀(j s:Nat) (u:Value),f[j]? =some (s,u)->L j=true->A.tmps.getD s undef=u:=fun j G u b X=>by
   have ad:j<f.length:=(aE.1 b).1;obtain⟨p,d⟩: ∃p,ops[j]? =some p:=⟨ops[j]'(by omega),eO _⟩
   exact q j p d X G (rh a d b) G u b
  by_cases r:i=n
  ·subst r
   have J: ∀j,j<i->L j=true:=fun j b=>by
    have:=vS t hn D (L:=fun k=>decide (i=k)||L k) (by simp) i j (by omega) (by omega);simpa[show i≠j by omega] using this
   have e:A=putAll f a0:=by
    refine CX f l R O (fun s h=>c s fun j p d b e=> ?_) (fun j s v b=> ?_)
    ·have aa:j<i:=by
      have h1:=(bz.1 d).1;have h2:j≠i:=fun e'=>(by rw[e',z]at b;cases b);omega
     obtain⟨G,v,y⟩:=yI a aa d;have:=(rh a d y).symm.trans e;cases this;exact h _ (aL y) rfl
    ·exact g j s v b (J j (by have:=(aE.1 b).1;omega))
   rw[e];refine wpOp_mono ?_ (E o W H C);rintro S U ⟨⟨v,y⟩,hq⟩;refine⟨v,y,fun _ G v' h=> ?_,fun _ _ _ h=>h,D,fun h=>by simp at h,fun _=>hq⟩;have:=(aE.1 h).1;omega
  ·obtain⟨s,v,y⟩:=yI a (show i<n by omega) H;have hd:=rh a H y;refine wpOp_mono ?_ (F i s v o L A W H y m C (fun G h=>c G fun j p d _=>nd h j p d) g);rintro S U ⟨rfl,T⟩;refine⟨v,by rw[hd],fun _ G v' h=>by rw[y]at h;cases h;rfl,fun _ _ _ h=>h,D,fun _=>⟨au C T,by simpa[Act.put] using R⟩,fun h=> ?_⟩;simp[r,z]at h
 ·intro L A W X V l ac c q;exact V.2.2 (X n (by omega))
end
end
section
section
variable {P:Program} {ops:Array Oper} {Q:Exit->Act->World->Prop} {id:Nat} {a0:Act} {w:World}
def G8 (ops:Array Oper)(L:Nat->Bool):Prop:= ∀(j:Nat) (p:Oper),ops[j]? =some p->L j=true-> ∀e∈p.after,Region.binds .any e=true->L e.on=true
variable {m:Nat} {Pre Post:World->Prop} {L:Nat->Bool} {W W':World} {i:Nat}
end
end
section
section
variable {P:Program} {ops:Array Oper} {Q:Exit->Act->World->Prop} {id:Nat} {a0:Act} {w:World}
def rj (φ:Nat->Value)(d:Option Nat)(v:Value):Nat->Value:=fun s=>if d=some s then v else φ s
theorem dE {φ:Nat->Value}{d s:Nat}{v:Value}(h:d≠s):rj φ (some d) v s=φ s:=by
 unfold rj;rw[aw (fun e=>h (ay e))]
theorem dX {φ:Nat->Value}{d:Nat}{v:Value}:rj φ (some d) v d=v:=by
 unfold rj;rw[ax rfl]
end
end
section
section
variable {P:Program} {ops:Array Oper} {Q:Exit->Act->World->Prop} {id:Nat} {a0:Act} {w:World}
def kn (s:Nat)(v:Value):Option Nat×Option Value×Nat:=(some s,some v,0)
def dk (s:Nat)(v:Value):Option Nat×Option Value×Nat:=(some s,some v,1)
def td (s:Nat):Option Nat×Option Value×Nat:=(some s,none,1)
def nk:Option Nat×Option Value×Nat:=(none,none,1)
def ep:List (Option Nat×Option Value×Nat)->(Nat->Value)->List (Nat×Value)
 |[],_=>[]
 |(none,_)::l,φ=>ep l φ
 |(some s,some v,_)::l,φ=>(s,v)::ep l φ
 |(some s,none,_)::l,φ=>(s,φ s)::ep l φ
def d6:List (Option Nat×Option Value×Nat)->(Nat->Value)->List (Nat×Value)
 |[],_=>[]
 |(none,_)::l,φ=>d6 l φ
 |(some s,some v,k)::l,φ=>match k with|2=>d6 l φ|_=>(s,v)::d6 l φ
 |(some s,none,_)::l,φ=>(s,φ s)::d6 l φ
def eD (P:Program)(ops:Array Oper)(X:Exit->World->Prop)(F:Act)(o:Oper)(W:World)(R:Value->World->Prop):Prop:=
 ∀K:Act->World->Prop,(∀v a,R v a->K (F.put o.dst v) a)->if Region.wanted o (yielded ops F.tmps)=true then Oper.wp P o F W K (fun ex _ w=>X ex w) else K (F.put o.dst undef) W
theorem CZ (A:Act)(t:Nat):A.eval (.tmp t)=A.tmps.getD t undef:=by simp[Act.eval]
theorem G9 (A B:Array Value)(t:Nat)(h:A.getD t undef=B.getD t undef):(match A[t]? with|some (.bool b)=>some b|_=>none)=(match B[t]? with|some (.bool b)=>some b|_=>none):=by
 have e: ∀C:Array Value,(match C[t]? with|some (.bool b)=>some b|_=>none)=(match C.getD t undef with| .bool b=>some b|_=>none):=fun C=>by
  by_cases a:t<C.size
  ·simp[Array.getD,a];cases C[t]<;>rfl
  ·simp[Array.getD,a,undef]
 rw[e,e,h]
theorem Mi {A B:Act}{d:Option Nat}{v:Value}{R:Value->Prop}(c: ∀s,d=some s->s<B.tmps.size)(h: ∃b,B.put d v=B.put d b/\R b): ∃b,A.put d v=A.put d b/\R b:=by
 obtain⟨b,f,e⟩:=h;cases d with
 |none=>exact⟨b,rfl,e⟩
 |some s=>
  have g:=congrArg (fun a:Act=>a.tmps.getD s undef) f;have i:v=b:=(kJ _ _ v (c s rfl)).symm.trans (g.trans (kJ _ _ b (c s rfl)));exact⟨b,by rw[i],e⟩
theorem Ha {i:Nat}{o:Oper}{A B:Act}{W:World}{R:Value->World->Prop}{X:Exit->World->Prop}(w: ∀ex W,X ex W->Q ex A W)(J:ops[i]? =some o)(L: ∀F b,o.op≠ .select F b)(p: ∀t∈o.looksAt ops,A.tmps.getD t undef=B.tmps.getD t undef)(y: ∀s,o.dst=some s->s<B.tmps.size)
  (h:eD P ops X B o W R):wpOp P ops Q i (fun u k=> ∃v,u=A.put o.dst v/\R v k) A W:=by
 have I:execOp A.eval o=execOp B.eval o:=execOp_congr o L fun x j=>by
  cases x with
  |tmp t=>rw[CZ,CZ];exact p t (fO _ (List.mem_filterMap.2 ⟨.tmp t,by simpa using j,rfl⟩))
  |_=>rfl
 have M:Region.wanted o (yielded ops A.tmps)=Region.wanted o (yielded ops B.tmps):=by
  unfold Region.wanted;cases hg:o.guard with
  |none=>rfl
  |some G=>
   obtain⟨g,E⟩:=G
   have N:yielded ops A.tmps g=yielded ops B.tmps g:=by
    unfold yielded;cases ht:(ops[g]?).bind (·.dst) with
    |none=>rfl
    |some t=>exact G9 _ _ _ (p t (by simp[Oper.looksAt,hg,ht]))
   simp only[N]
 have d:=h (fun u k=> ∃v,u=B.put o.dst v/\R v k) fun v k K=>⟨v,rfl,K⟩
 have q: ∀{v:Value} {k:World},(∃l,B.put o.dst v=B.put o.dst l/\R l k)-> ∃l,A.put o.dst v=A.put o.dst l/\R l k:=fun h=>Mi (R:=fun v=>R v _) y h;unfold wpOp;rw[J];show if Region.wanted o (yielded ops A.tmps)=true then _ else _;rw[M];split
 ·rename_i z;rw[ax z]at d;refine .inl ?_;unfold Oper.wp at d⊢;rw[I];generalize (execOp B.eval o).run P W=r at*;cases r with
  |ok n O=>
   cases n with
   |value v=>exact q d
   |skip=>exact q d
   |defer S=>
    exfalso;obtain⟨l,H,_⟩:=d;have D:=congrArg (fun a:Act=>a.defers.length) H;cases hd:o.dst<;>rw[hd]at D<;>simp[Act.put]at D
   |enter f m=>
    refine Calls.mono d fun e C j=> ?_;cases e with
    |returned v=>exact q j
    |panicked c=>exact w _ _ j
    |outgrown=>obtain⟨_,_,j⟩:=j;exact⟨_,_,w _ _ j⟩
   |row row m=>exact Rows.mono d fun v C j=>q j
   |_=>exact(d:False).elim
  |halt x O=>
   cases x with
   |panic v=>exact w _ _ d
   |_=>exact(d:False).elim
 ·rename_i z;rw[aw z]at d;exact q d
def uE (o:Oper)(j:Nat):Bool:=o.after.any fun e=>Region.binds .any e&&e.on==j
def kY (a:List (Option Nat×Option Value×Nat))(i:Nat):Bool:=match a[i]? with|some (_,_,1)=>true|_=>false
def fo (P:Program)(ops:Array Oper)(X:Exit->World->Prop)(b:List (Option Nat×Option Value×Nat))(J:(Nat->Bool)->(Nat->Value)->World->Prop)(F:Act)(φ:Nat->Value)(M:Nat->Bool)(W:World)(i:Nat)(o:Oper)(p:Option Nat×Option Value×Nat):Prop:=
 (∀e∈o.after,Region.binds .any e=true->kY b e.on=true->M e.on=true)->(∀(j:Nat) (q:Oper),ops[j]? =some q->uE q i=true->M j=false)->M i=false->
  eD P ops X F o W fun v a=>(match p.2.1 with|some u=>v=u|none=>True)/\(match p.2.2 with|1=>J (fun k=>decide (i=k)||M k) (match p with|(some s,none,_)=>rj φ (some s) v|_=>φ) a|_=>ao W a)
def dK (D:Nat->Oper->Option Nat×Option Value×Nat->Prop):Nat->List Oper->List (Option Nat×Option Value×Nat)->Prop
 |i,o::os,p::a=>D i o p/\dK D (i+1) os a
 |_,_,_=>True
theorem Bn {D:Nat->Oper->Option Nat×Option Value×Nat->Prop}: ∀{i:Nat} {os:List Oper} {c:List (Option Nat×Option Value×Nat)},dK D i os c-> ∀{j:Nat} {o:Oper} {p:Option Nat×Option Value×Nat},os[j]? =some o->c[j]? =some p->D (i+j) o p
 |i,o::os,p::c,h,0,d,e,a,b=>by
  have f:o=d:=(by simpa using a);have g:p=e:=(by simpa using b);subst f g;exact h.1
 |i,o::os,p::c,h,j+1,d,e,a,b=>by
  have:=Bn h.2 (j:=j) (by simpa using a) (by simpa using b);rwa[show i+1+j=i+(j+1) by omega]at this
 |_,[],_,_,j,_,_,a,_=>by simp at a
 |_,_::_,[],_,j,_,_,_,b=>by simp at b
def QI (ops:Array Oper)(a:List (Bool×Nat)):Bool:=(List.range ops.size).all fun i=>match ops[i]? with
 |none=>true
 |some o=>(match o.op with| .select _ _=>false|_=>true)&&(o.looksAt ops).all fun t=>(List.range ops.size).all fun j=>match ops[j]? with
  |none=>true
  |some p=>p.dst !=some t||(if(a.getD j (true,0)).2==2 then i==j||uE p i else !(a.getD j (true,0)).1||uE o j)
theorem xD {o:Oper}{j:Nat}{L:Nat->Bool}(h:uE o j=true)(b: ∀e∈o.after,Region.binds .any e=true->L e.on=true):L j=true:=by
 obtain⟨e,c,a⟩:=Array.any_eq_true'.1 h;simp only[bx,beq_iff_eq]at a;rw[<-a.2];exact b e c a.1
theorem tF {φ:Nat->Value}: ∀{ds:List (Option Nat×Option Value×Nat)} {s:Nat} {v:Value},(s,v)∈ep ds φ-> ∃(j k:Nat),ds[j]? =some (some s,some v,k)\/(ds[j]? =some (some s,none,k)/\v=φ s)
 |[],s,v,h=>by cases h
 |(none,x)::l,s,v,h=>by
  obtain⟨j,k,h⟩:=tF (ds:=l) h;exact⟨j+1,k,by simpa using h⟩
 |(some t,some u,k)::l,s,v,h=>by
  rcases bv.1 h with h|h
  ·cases h;exact⟨0,k,.inl rfl⟩
  ·obtain⟨j,k,h⟩:=tF (ds:=l) h;exact⟨j+1,k,by simpa using h⟩
 |(some t,none,k)::l,s,v,h=>by
  rcases bv.1 h with h|h
  ·cases h;exact⟨0,k,.inr ⟨rfl,rfl⟩⟩
  ·obtain⟨j,k,h⟩:=tF (ds:=l) h;exact⟨j+1,k,by simpa using h⟩
theorem om {φ:Nat->Value}: ∀(a:List (Option Nat×Option Value×Nat)),(ep a φ).map (fun p=>p.1)=a.filterMap (fun p=>p.1)
 |[]=>rfl
 |(none,x)::l=>om l
 |(some t,some u,_)::l=>by simp[ep,om l]
 |(some t,none,_)::l=>by simp[ep,om l]
theorem JA {φ:Nat->Value}{s:Nat}{v:Value}{l:List (Option Nat×Option Value×Nat)}:d6 ((some s,some v,2)::l) φ=d6 l φ:=rfl
theorem uF {φ:Nat->Value}{s k:Nat}{v:Value}{l:List (Option Nat×Option Value×Nat)}(h:k≠2):d6 ((some s,some v,k)::l) φ=(s,v)::d6 l φ:=by
 show(match k with|2=>_|_=>_)=_;split
 ·exact absurd rfl h
 ·rfl
theorem ny {φ:Nat->Value}: ∀{ds:List (Option Nat×Option Value×Nat)} {s:Nat} {v:Value},(s,v)∈d6 ds φ-> ∃(j k:Nat),(ds[j]? =some (some s,some v,k)/\k≠2)\/(ds[j]? =some (some s,none,k)/\v=φ s)
 |[],s,v,h=>by cases h
 |(none,x)::l,s,v,h=>by
  obtain⟨j,k,h⟩:=ny (ds:=l) h;exact⟨j+1,k,by simpa using h⟩
 |(some t,some u,k)::l,s,v,h=>by
  by_cases a:k=2
  ·subst a;rw[JA]at h;obtain⟨j,k,h⟩:=ny (ds:=l) h;exact⟨j+1,k,by simpa using h⟩
  ·rw[uF a]at h;rcases bv.1 h with h|h
   ·cases h;exact⟨0,k,.inl ⟨rfl,a⟩⟩
   ·obtain⟨j,k,h⟩:=ny (ds:=l) h;exact⟨j+1,k,by simpa using h⟩
 |(some t,none,k)::l,s,v,h=>by
  rcases bv.1 h with h|h
  ·cases h;exact⟨0,k,.inr ⟨rfl,rfl⟩⟩
  ·obtain⟨j,k,h⟩:=ny (ds:=l) h;exact⟨j+1,k,by simpa using h⟩
theorem C0 {φ:Nat->Value}: ∀{ds:List (Option Nat×Option Value×Nat)} {j s k:Nat} {x:Option Value},ds[j]? =some (some s,x,k)->(k≠2\/x=none)-> ∃v,(s,v)∈d6 ds φ
 |(d,c,f)::l,0,s,k,x,h,a=>by
  have e:(d,c,f)=(some s,x,k):=(by simpa using h);cases e;cases c with
  |none=>exact⟨_,aV⟩
  |some u=>
   rcases a with a|a
   ·exact⟨u,by rw[uF a];exact aV⟩
   ·cases a
 |(d,c,f)::l,j+1,s,k,x,h,a=>by
  obtain⟨v,b⟩:=C0 (ds:=l) (j:=j) (by simpa using h) a;refine⟨v,?_⟩;cases d with
  |none=>exact b
  |some t=>
   cases c with
   |none=>exact bj _ b
   |some u=>
    by_cases g:f=2
    ·subst g;exact b
    ·rw[uF g];exact bj _ b
theorem yJ: ∀(b:List (Nat×Value)) (a:Act) (s:Nat),s<a.tmps.size->(∃v,(s,v)∈b)-> ∃v,(s,v)∈b/\(putAll b a).tmps.getD s undef=v
 |p::b,a,s,f,h=>by
  by_cases d: ∃v,(s,v)∈b
  ·obtain⟨v,c,e⟩:=yJ b (a.put (some p.1) p.2) s (by simpa[Act.put] using f) d;exact⟨v,bj _ c,e⟩
  ·obtain⟨v,c⟩:=h;rcases bv.1 c with rfl|c
   ·refine⟨v,aV,?_⟩;rw[aR,lh b _ s (fun q g e=>d ⟨q.2,by rw[<-e];exact g⟩)];exact kJ _ _ _ f
   ·exact absurd ⟨v,c⟩ d
 |[],_,_,_,h=>by obtain⟨v,c⟩:=h;cases c
def okN (P:Program)(ops:Array Oper)(n:Nat)(a:List (Option Nat×Option Value×Nat)):Bool:=P.follows .mixedOrders&&(yG ops&&(G7 ops&&(inB ops n&&((ops.toList.map (fun o=>o.dst)==a.map (fun p=>p.1))&&(QI ops (a.map (fun p=>(p.2.1.isSome,p.2.2)))&&(List.range ops.size).all (fun i=>((a.map (fun p=>(p.2.1.isSome,p.2.2))).getD i (true,0)).2==1||((a.map (fun p=>(p.2.1.isSome,p.2.2))).getD i (true,0)).1))))))
def dz (F:Act):Nat->List Value->Prop
 |_,[]=>True
 |i,v::l=>F.tmps[i]? =some v/\dz F (i+1) l
theorem C1 {F:Act}: ∀{l:List Value} {i:Nat},(∀k v,l[k]? =some v->F.tmps[i+k]? =some v)->dz F i l
 |[],_,_=>trivial
 |v::l,i,h=>⟨h 0 v rfl,C1 fun k u a=>by
  have:=h (k+1) u (by simpa using a);rwa[show i+(k+1)=i+1+k by omega]at this⟩
theorem oq {o:Oper}{a:Act}{K:Act->World->Prop}{i:Exit->Act->World->Prop}(j:o.guard=none)(h:wpList P ops (fun ex a w=>ex= .normal/\K a w) [o] a w):Oper.wp P o a w K i:=by
 unfold wpList at h;rw[ax (by simp[Region.wanted,j])]at h;rcases h with h|⟨_,_,_,h,_⟩
 ·unfold Oper.wp at h⊢;generalize (execOp a.eval o).run P w=r at*;cases r with
  |ok n k=>
   cases n with
   |value v=>exact h.2
   |skip=>exact h.2
   |defer l=>exact h.2
   |enter f d=>
    refine Calls.mono h fun e g b=> ?_;cases e with
    |returned v=>exact b.2
    |panicked c=>cases b.1
    |outgrown=>obtain⟨_,_,b,_⟩:=b;cases b
   |row row d=>exact Rows.mono h fun v g b=>b.2
   |_=>exact h
  |halt x k=>
   cases x with
   |panic v=>cases h.1
   |_=>exact h
 ·cases h
def yK (ops:Array Oper)(a:List (Option Nat×Option Value×Nat))(i:Nat)(M:Nat->Bool):Prop:=i<ops.size/\ ∃L,G8 ops L/\L i=false/\ ∀k,M k=(decide (k<ops.size)&&(kY a k&&L k))
theorem mU (X:Exit->World->Prop)(hX: ∀ex a W,a.defers=a0.defers->X ex W->Q ex a W)(J:(Nat->Bool)->(Nat->Value)->World->Prop)(f:List (Option Nat×Option Value×Nat))(aC: ∀φ,J (fun _=>false) φ w.drew)(al: ∀i M φ W W',yK ops f i M->ao W W'->J M φ W->J M φ W')(R:okN P ops a0.tmps.size f=true)
  (am: ∀i M φ W,yK ops f i M->J M φ W->(∀(j:Nat) (p:Oper),ops[j]? =some p->M j=true-> ∀e∈p.after,Region.binds .any e=true->kY f e.on=true->M e.on=true)-> ∀(F:Act) (l:List Value),(putAll (d6 f φ) a0).tmps.toList=l->dz F 0 l->dK (fo P ops X f J F φ M W) 0 ops.toList f)
  (av: ∀M φ W,(∀k,k<ops.size->kY f k=true->M k=true)->J M φ W->Q .normal (putAll (ep f φ) a0) W):(Code.region id ops true).wp P Q a0 w:=by
 unfold okN at R;simp only[bx]at R;obtain⟨hm,S,af,a3,V,a5,ar⟩:=R;replace V:=eq_of_beq V;obtain⟨ks,a4⟩:=aq (f.map (fun p=>(p.2.1.isSome,p.2.2)));rw[a4]at a5 ar
 have hl:f.length=ops.size:=by
  have h:=congrArg List.length V;simpa using h.symm
 have aa: ∀{j:Nat} {p:Oper},ops[j]? =some p-> ∃x k,f[j]? =some (p.dst,x,k):=fun {j p} c=>by
  have C:(ops.toList.map (fun o=>o.dst))[j]? =some p.dst:=by
   rw[bf,bq,c];rfl
  rw[V,bf]at C;cases hs:f[j]? with
  |none=>rw[hs]at C;cases C
  |some q=>
   rw[hs]at C;exact⟨q.2.1,q.2.2,by rw[<-ay C]⟩
 have G: ∀{j k:Nat} {d:Option Nat} {x:Option Value},f[j]? =some (d,x,k)-> ∃p,ops[j]? =some p/\p.dst=d:=fun {j k d x} g=>by
  have aK:=(aE.1 g).1;obtain⟨p,c⟩: ∃p,ops[j]? =some p:=⟨ops[j]'(by omega),eO _⟩
  obtain⟨v',k',a8⟩:=aa c;rw[g]at a8;exact⟨p,c,(congrArg Prod.fst (ay a8)).symm⟩
 have ah: ∀{j k:Nat} {d:Option Nat} {x:Option Value},f[j]? =some (d,x,k)->ks.getD j (true,0)=(x.isSome,k):=fun {j k d x} h=>by
  rw[<-a4];simp[List.getD,h]
 have ai: ∀{j:Nat} {p:Oper} {s:Nat},ops[j]? =some p->p.dst=some s->s<a0.tmps.size:=fun {j p s} c D=>by
  have q1:=dl.1 a3 j (by simpa using(bz.1 c).1);rw[c]at q1;simp only[Option.bind_some,D]at q1;simpa using q1
 have r: ∀{j k:Nat} {p q:Oper} {s:Nat},ops[j]? =some p->ops[k]? =some q->p.dst=some s->q.dst=some s->j=k:=fun {j k p q s} c n C N=>by
  have q1:=dl.1 af j (by simpa using(bz.1 c).1);have q2:=dl.1 q1 k (by simpa using(bz.1 n).1);rw[c,n]at q2;simpa[C,N] using q2
 refine o6 hm S af a3 (fun L A W=>G8 ops L/\A.tmps.size=a0.tmps.size/\ ∃φ:Nat->Value,(∀j s k:Nat,f[j]? =some (some s,none,k)->φ s=A.tmps.getD s undef)/\J (fun k=>decide (k<ops.size)&&(kY f k&&L k)) φ W) (fun j x _=> ∀d v k,f[j]? =some (d,some v,k)->x=v) ?_ ?_ ?_
 ·intro L h;refine⟨fun j p c g=> ?_,rfl,fun s=>a0.tmps.getD s undef,fun _ _ _ _=>rfl,?_⟩
  ·have:=h j (bz.1 c).1;rw[this]at g;cases g
  ·rw[show(fun k=>decide (k<ops.size)&&(kY f k&&L k))=fun _=>false from funext fun k=>by
    by_cases E:k<ops.size
    ·rw[h k E];simp
    ·simp[E]]
   exact aC _
 ·intro i o L A W Z O U hJ T B Y;obtain⟨hc,ae,φ,hφ,hJ⟩:=hJ;have hi:i<ops.size:=(bz.1 Z).1
  have aF:G8 ops (fun k=>decide (i=k)||L k):=by
   intro j p c g e he hb;show(decide (i=e.on)||L e.on)=true;by_cases a2:i=j
   ·subst a2;rw[Z]at c;cases c;rw[U e he hb];simp
   ·rw[hc j p c (by simpa[a2] using g) e he hb];simp
  obtain⟨x,kx,hx⟩:=aa Z;have ac:=dl.1 a5 i (by simpa using hi);rw[Z]at ac;obtain⟨ag,ac⟩:=(bx _ _).mp ac
  have ap: ∀(j:Nat) (p:Oper),ops[j]? =some p-> ∀e∈p.after,Region.binds .any e=true->e.on<ops.size:=fun j p c e he hb=>by
   have g:=(bz.1 c).1;have C:=dl.1 S j (by simpa using g);rw[c]at C;have N:=Array.all_eq_true'.1 C e he;rw[hb]at N;have h3:e.on<j:=(by simpa using N);omega
  have aD: ∀t∈o.looksAt ops,A.tmps.getD t undef=(putAll (d6 f φ) a0).tmps.getD t undef:=fun t ht=>by
   have C:=dl.1 ac t ht;by_cases hw: ∃(j:Nat) (p:Oper),ops[j]? =some p/\p.dst=some t
   ·obtain⟨j,p,c,D⟩:=hw;have N:=dl.1 C j (by simpa using(bz.1 c).1);rw[c]at N;simp only[D,bne_self_eq_false,Bool.false_or]at N;obtain⟨y,ky,hy⟩:=aa c;rw[D]at hy;rw[ah hy]at N;by_cases ad:ky=2/\y≠none
    ·rw[ax (by simp[ad.1])]at N
     have aj:L j=false:=by
      cases n:L j with
      |false=>rfl
      |true=>
       rcases(iD _ _).mp N with e|e
       ·rw[<-beq_iff_eq.1 e,O]at n;cases n
       ·have:=xD e (hc j p c n);rw[O]at this;cases this
     have E:=B t fun k q n an m=>by
      have:=r c n D m;subst this;rw[aj]at an;cases an
     rw[E];refine(lh _ _ _ fun q n e=> ?_).symm;obtain⟨s,v⟩:=q;subst e;obtain⟨k,kk,I⟩:=ny n
     have ak: ∃z,f[k]? =some (some s,z,kk):=by
      rcases I with h|h
      ·exact⟨_,h.1⟩
      ·exact⟨_,h.1⟩
     obtain⟨z,hz⟩:=ak;obtain⟨q,K,m⟩:=G hz;have:=r c K D m;subst this;rw[hy]at hz;cases hz;rcases I with h|h
     ·exact h.2 ad.1
     ·rw[hy]at h;exact ad.2 (congrArg (fun q=>q.2.1) (ay h.1))
    ·obtain⟨v,hv,e⟩:=yJ (d6 f φ) a0 t (ai c D) (C0 hy (by
      by_cases a9:y=none
      ·exact .inr a9
      ·exact .inl (by simpa[a9] using ad)))
     rw[e];obtain⟨k,kk,I⟩:=ny hv
     have ak: ∃z,f[k]? =some (some t,z,kk):=by
      rcases I with h|h
      ·exact⟨_,h.1⟩
      ·exact⟨_,h.1⟩
     obtain⟨z,hz⟩:=ak;obtain⟨q,K,m⟩:=G hz;have:=r c K D m;subst this;rw[hy]at hz;cases hz;rcases I with h|h
     ·have aA:=h.1;rw[hy]at aA;cases aA;rw[aw (by simpa using h.2)]at N;have aj:=xD (by simpa using N) U;exact Y j p c aj t D _ _ _ hy
     ·rw[h.2];exact(hφ j t _ h.1).symm
   ·have hn: ∀(j:Nat) (p:Oper),ops[j]? =some p->p.dst≠some t:=fun j p c e=>hw ⟨j,p,c,e⟩;rw[B t fun j p c _=>hn j p c];refine(lh _ _ _ fun q n e=> ?_).symm;obtain⟨s,v⟩:=q;subst e;obtain⟨k,kk,I⟩:=ny n;rcases I with h|h
    ·obtain⟨q,K,m⟩:=G h.1;exact hn _ _ K m
    ·obtain⟨q,K,m⟩:=G h.1;exact hn _ _ K m
  have hU:yK ops f i (fun k=>decide (k<ops.size)&&(kY f k&&L k)):=⟨hi,L,hc,O,fun _=>rfl⟩
  have hD:=Bn (am i _ φ W hU hJ (fun j p c g e he hb H=>by
   simp only[bx,bL]at g;simp only[hc j p c g.2.2 e he hb,H,ap j p c e he hb,decide_true,jc]) (putAll (d6 f φ) a0) _ rfl (C1 fun k v E=>by rw[bN,<-bq];exact E)) (j:=i) (by rw[bq];exact Z) hx
  rw[bN]at hD
  have a7: ∀(j:Nat) (q:Oper),ops[j]? =some q->uE q i=true->(decide (j<ops.size)&&(kY f j&&L j))=false:=fun j q n hw=>by
   cases g:L j with
   |false=>simp only[jk]
   |true=>
    have:=xD hw (hc j q n g);rw[O]at this;cases this
  have aB:=hD (fun e he hb H=>by simp only[U e he hb,H,ap i o Z e he hb,decide_true,jc]) a7 (by simp only[O,jk]);refine wpOp_mono ?_ (Ha (fun ex W=>hX ex A W T) Z (fun cs b e=>by rw[e]at ag;cases ag) aD (fun s hs=>by rw[sK];exact ai Z hs) aB);rintro a' W' ⟨v,rfl,hv,hR⟩;refine⟨v,rfl,fun _ d u k au=> ?_,fun _ _ _ h=>h,aF,by cases o.dst<;>simpa[Act.put] using ae,?_⟩
  ·rw[hx]at au;have e2:x=some u:=congrArg (fun q=>q.2.1) (ay au);subst e2;exact hv
  ·have a1: ∀s,(∀t,o.dst=some t->t≠s)->(A.put o.dst v).tmps.getD s undef=A.tmps.getD s undef:=fun s hs=>by
    cases D:o.dst with
    |none=>rfl
    |some t=>exact j9 _ _ _ _ (hs t D)
   by_cases ab:kx=1
   ·subst ab;have H:kY f i=true:=(by unfold kY;rw[hx];rfl)
    have eM:(fun k=>decide (k<ops.size)&&(kY f k&&(decide (i=k)||L k)))=fun k=>decide (i=k)||(decide (k<ops.size)&&(kY f k&&L k)):=funext fun k=>by
     by_cases e:i=k
     ·subst e;simp only[hi,H,decide_true,Bool.true_or,jc]
     ·simp only[e,decide_false,Bool.false_or]
    rw[eM];refine⟨_,fun j s k g=> ?_,hR⟩;obtain⟨q,n,m⟩:=G g;cases D:o.dst with
    |none=>
     simp only[];exact hφ j s k g
    |some t=>
     cases x with
     |none=>
      simp only[];by_cases e:t=s
      ·subst e;rw[dX];exact(kJ _ _ _ (by rw[ae];exact ai Z D)).symm
      ·rw[dE e,hφ j s k g];exact(j9 _ _ _ _ e).symm
     |some u=>
      simp only[];rw[hφ j s k g];refine(j9 _ _ _ _ fun e=> ?_).symm;subst e;have:=r Z n D m;subst this;rw[hx]at g;cases congrArg (fun q=>q.2.1) (ay g)
   ·have H:kY f i=false:=by
     unfold kY;rw[hx];split
     ·rename_i h;exact absurd (congrArg (fun q=>q.2.2) (ay h)) ab
     ·rfl
    have hB:ao W W':=by
     revert hR;dsimp only;split
     ·exact absurd rfl ab
     ·exact fun h=>h
    have eM:(fun k=>decide (k<ops.size)&&(kY f k&&(decide (i=k)||L k)))=fun k=>decide (k<ops.size)&&(kY f k&&L k):=funext fun k=>by
     by_cases e:i=k
     ·subst e;simp only[H,Bool.false_and,jk]
     ·simp only[e,decide_false,Bool.false_or]
    rw[eM];refine⟨φ,fun j s k g=> ?_,al i _ _ _ _ hU hB hJ⟩;rw[hφ j s k g];refine(a1 s fun t ht e=> ?_).symm;subst e;obtain⟨q,n,m⟩:=G g;have:=r Z n ht m;subst this;rw[hx]at g;have aJ:x=none:=congrArg (fun q=>q.2.1) (ay g);subst aJ;have C:=dl.1 ar i (by simpa using hi);rw[ah hx]at C;simp[ab]at C
 ·intro L A W hL hJ T aI B Y;obtain⟨_,ae,φ,hφ,hJ⟩:=hJ
  have hA:A=putAll (ep f φ) a0:=by
   have a6:((ep f φ).map (fun p=>p.1)).Nodup:=by
    rw[om]
    have:f.filterMap (fun p=>p.1)=ops.toList.filterMap (fun o=>o.dst):=by
     have C:=congrArg (List.filterMap fun q:Option Nat=>q) V;rw[List.filterMap_map,List.filterMap_map]at C;exact C.symm
    rw[this];unfold List.Nodup;refine List.pairwise_filterMap.2 (List.pairwise_iff_getElem.2 fun j k g E aM s hs t ht e=> ?_);subst e;have:=r (j:=j) (k:=k) (by rw[<-bq];exact az g) (by rw[<-bq];exact az E) hs ht;omega
   refine CX _ T ae ?_ (fun s h=>B s fun j p c e=> ?_) fun j s v g=> ?_
   ·rw[show(ep f φ).map (fun p=>some p.1)=((ep f φ).map (fun p=>p.1)).map some by rw[iU];rfl];unfold List.Nodup at a6⊢;rw[List.pairwise_map];exact List.Pairwise.imp (fun h e=>h (ay e)) a6
   ·obtain⟨x,k,hx⟩:=aa c;rw[e]at hx
    have aG:s∈(ep f φ).map (fun p=>p.1):=by
     rw[om];exact List.mem_filterMap.2 ⟨(some s,x,k),aL hx,rfl⟩
    obtain⟨q,n,aH⟩:=dB.1 aG;exact h q n aH
   ·obtain⟨k,kk,E⟩:=tF (aL g);rcases E with E|⟨E,rfl⟩
    ·obtain⟨p,c,D⟩:=G E;exact Y k p c s D _ _ _ E
    ·exact(hφ k s _ E).symm
  rw[hA];refine av _ φ W (fun k E D=> ?_) hJ;simp only[hL k E,D,E,decide_true,Bool.and_self]
theorem dH (J:(Nat->Bool)->(Nat->Value)->World->Prop)(a:List (Option Nat×Option Value×Nat))(i: ∀φ,J (fun _=>false) φ w.drew)(b: ∀M φ W g,ao W g->J M φ W->J M φ g)(d:okN P ops a0.tmps.size a=true)
  (c: ∀M φ W,J M φ W->(∀(j:Nat) (p:Oper),ops[j]? =some p->M j=true-> ∀e∈p.after,Region.binds .any e=true->kY a e.on=true->M e.on=true)-> ∀(F:Act) (l:List Value),(putAll (d6 a φ) a0).tmps.toList=l->dz F 0 l->dK (fo P ops (fun _ _=>False) a J F φ M W) 0 ops.toList a)
  (f: ∀M φ W,(∀k,k<ops.size->kY a k=true->M k=true)->J M φ W->Q .normal (putAll (ep a φ) a0) W):(Code.region id ops true).wp P Q a0 w:=
 mU (fun _ _=>False) (fun _ _ _ _ h=>h.elim) J a i (fun _ M φ W g _=>b M φ W g) d (fun _ M φ W _=>c M φ W) f
def CN (Q:Exit->Act->World->Prop)(a0:Act)(b:List (Option Nat×Option Value×Nat))(n:Nat)(a:(Nat->Bool)->(Nat->Value)->World->Prop)(M:Nat->Bool)(φ:Nat->Value)(W:World):Prop:=(M n=false->a M φ W)/\(M n=true->Q .normal (putAll (ep b φ) a0) W)
theorem sL (n:Nat)(d:(Nat->Bool)->(Nat->Value)->World->Prop)(a:List (Option Nat×Option Value×Nat))(r: ∀φ,d (fun _=>false) φ w.drew)(v: ∀M φ W j,ao W j->d M φ W->d M φ j)(q:(CY ops&&(kY a n&&ops.size==n+1))=true)(e:okN P ops a0.tmps.size a=true)
  (b: ∀M φ W,M n=false->d M φ W-> ∀(F:Act) (l:List Value),(putAll (d6 a φ) a0).tmps.toList=l->dz F 0 l->dK (fo P ops (fun _ _=>False) a (CN Q a0 a n d) F φ M W) 0 ops.toList a):(Code.region id ops true).wp P Q a0 w:=by
 simp only[bx,beq_iff_eq]at q;obtain⟨f,u,x⟩:=q
 have p: ∀{i M},yK ops a i M->M n=false:=fun {i M} h=>by
  obtain⟨hi,L,t,m,o⟩:=h;rw[o];cases h:L n with
  |false=>simp only[jk]
  |true=>
   have:=vS f x t h n i (by omega) (by omega);rw[m]at this;cases this
 refine mU (fun _ _=>False) (fun _ _ _ _ h=>h.elim) (CN Q a0 a n d) a (fun φ=>⟨fun _=>r φ,(fun h=>by cases h)⟩) (fun i M φ W j g s h=>⟨fun c=>v _ _ _ _ s (h.1 c),fun c=>by rw[p g]at c;cases c⟩) e (fun i M φ W g k _=>b M φ W (p g) (k.1 (p g))) (fun M φ W o k=>k.2 (o n (by omega) u))
theorem mV (n:Nat)(c:World->Prop)(a:List (Option Nat×Option Value×Nat))(f:c w.drew)(g: ∀W e,ao W e->c W->c e)(i:(CY ops&&(kY a n&&ops.size==n+1))=true)(d:okN P ops a0.tmps.size a=true)
  (b: ∀M φ W,M n=false->c W-> ∀(F:Act) (l:List Value),(putAll (d6 a φ) a0).tmps.toList=l->dz F 0 l->dK (fo P ops (fun _ _=>False) a (CN Q a0 a n fun _ _=>c) F φ M W) 0 ops.toList a):(Code.region id ops true).wp P Q a0 w:=
 sL n (fun _ _=>c) a (fun _=>f) (fun _ _=>g) i d b
theorem j3 (n:Nat)(a:List (Option Nat×Option Value×Nat))(e:(CY ops&&(kY a n&&ops.size==n+1))=true)(c:okN P ops a0.tmps.size a=true)
  (b: ∀M φ W,M n=false->ao w W-> ∀(F:Act) (l:List Value),(putAll (d6 a φ) a0).tmps.toList=l->dz F 0 l->dK (fo P ops (fun _ _=>False) a (CN Q a0 a n fun _ _=>Below w.heap.size w) F φ M W) 0 ops.toList a):(Code.region id ops true).wp P Q a0 w:=
 mV n (Below w.heap.size w) a (aF _ _).drew (fun _ _ d h=>au h d) e c b
end
end
end Go.Proofs.YtpdoienkhgnceaaGreatDoor
