/- Texts of the proof. -/
import Derived.Test.YtlkehieagdkgiaaGreatDoorPr33
set_option maxRecDepth 100000
set_option maxHeartbeats 8000000
namespace Go.Proofs.YtlkehieagdkgiaaGreatDoor
open Go.Proofs.Tryz Go.RowKit Lx Vx Mx Msk
theorem sA {E:Nat->Int}: ∀(m i:Nat),(∀j,i<=j->j<i+m->E j=0)->gS E m i=(0,0)
 |0,_,_=>rfl
 |m+1,i,h=>by
  simp only[gS];rw[ax (by simpa using h i (aE _) (by omega)),sA m (i+1) fun j a b=>h j (by omega) (by omega)]
theorem Ea {a:List Cd}(h:mH a):jQ a=(0,0):=by
 have c:gS (fun i=>aloneE (a.getD i cd0) a.length) a.length 0=(0,0):=sA _ _ fun j _ e=>by
  have b:a[j]? =some (a[j]'(by omega)):=ay (by omega);rw[jh b];exact h.alone j _ b
 have d:gS (qj a) a.length 0=(0,0):=sA _ _ fun j _ e=>by
  have b:a[j]? =some (a[j]'(by omega)):=ay (by omega);unfold qj;rw[ax (by rw[h.cyc j (by omega)];simp),jh b,aB (mO.2 (h.fit j _ b))]
 have f:=h.len;unfold jQ;rw[ax (by omega),c,ax (by simp),d]
theorem Be {n r:Nat}: ∀(l:List In) (k:Nat),(∀j x,l[j]? =some x->fV x (k+j) n r=0)->pV l k n r=0
 |[],_,_=>rfl
 |x::l,k,h=>by
  have a:=h 0 x rfl;rw[Nat.add_zero]at a;simp only[pV];rw[ax (by simpa using a)]
  exact Be l (k+1) fun j y b=>by
   have:=h (j+1) y (by simpa using b);rw[show k+(j+1)=k+1+j by omega]at this;exact this
theorem rW {E:Nat->Nat->Bool}{ρ:Nat->Nat}(h: ∀i k,E i k=true->ρ k<ρ i): ∀(m i k:Nat),Vx.wars E m i k=true->ρ k<ρ i
 |0,i,k,c=>h i k c
 |m+1,i,k,c=>by
  simp only[Vx.wars,it,bv]at c;rcases c with c|⟨d,e⟩
  ·exact rW h m i k c
  ·have a:=rW h m i m d;have b:=rW h m m k e;omega
theorem Da {m:Nat->Int×Int}: ∀(k j:Nat),¬0<=j8 m k j-> ∀i,j<=i->i<j+k->oz (m i)=false
 |0,_,_,i,b,c=>by omega
 |k+1,j,h,i,b,c=>by
  simp only[j8]at h;by_cases a:oz (m j)=true
  ·rw[aB a]at h;omega
  ·rw[ax a]at h;by_cases e:i=j
   ·subst e;simpa using a
   ·exact Da k (j+1) h i (by omega) (by omega)
theorem sV {l:List Ru}(h:(ir l).1=0):(dx l).1=0/\ ∀i,i<l.length->oz (gH l i)=false:=by
 unfold ir at h;by_cases a:(dx l).1≠0
 ·rw[aB a]at h;exact absurd h a
 ·rw[ax a]at h;refine⟨by simpa using a,?_⟩;by_cases b:0<=j8 (gH l) l.length 0
  ·rw[aB b]at h;exact absurd h (by show¬(4:Int)=0;omega)
  ·intro i hi;exact Da _ _ b i (dz _) (by omega)
theorem xA (l:List Ru):(eZ l).length=l.length:=by unfold eZ;rw[uz,ni]
theorem zZ {l:List Ru}{i:Nat}(hi:i<l.length):(eZ l)[i]? =some ⟨(fT l).getD i [],(gH l i).1,(gH l i).2⟩:=by
 unfold eZ eY;rw[aZ,List.getElem?_range (by rw[ni];exact hi)];rfl
theorem tE {l:List Ru}(h:(dx l).1=0){i:Nat}(hi:i<l.length):mn ((fT l).getD i [])/\ ∀j x,((fT l).getD i [])[j]? =some x->fV x j ((fT l).getD i []).length l.length=0:=by
 have b:l[i]? =some l[i]:=ay hi;have a:=aM b;rw[mV b];exact I9 ((rt h).2 _ a).ok fun x c=>⟨(sU h a c).1,(sU h a c).2.1⟩
theorem JH {l:List Ru}(h:(ir l).1=0):mH (eZ l):=by
 obtain⟨d,v⟩:=sV h;have a:=xA l
 have at_: ∀{i:Nat} {c:Cd},(eZ l)[i]? =some c->i<l.length/\c=⟨(fT l).getD i [],(gH l i).1,(gH l i).2⟩:=fun {i c} b=>by
  have hi:i<l.length:=(by rw[<-a];exact(aF.1 b).1);rw[zZ hi]at b;exact⟨hi,(aN b).symm⟩
 have p: ∀i,i<l.length->mxH (eZ l) ((fT l).getD i []) ((fT l).getD i []).length=(gH l i).1/\stS (eZ l) ((fT l).getD i []) ((fT l).getD i []).length=(gH l i).2/\1<=(gH l i).1/\(gH l i).1<=100/\1<=(gH l i).2/\(gH l i).2<=20000:=fun i hi=>by
  have e:=vK d hi;have o:=v i hi;unfold oz at o;rw[Bool.or_eq_false_iff,decide_eq_false_iff_not,decide_eq_false_iff_not]at o;have w:(gH l i).1=min (mxH (eZ l) ((fT l).getD i []) ((fT l).getD i []).length) 101:=congrArg Prod.fst e;have y:(gH l i).2=min (stS (eZ l) ((fT l).getD i []) ((fT l).getD i []).length) 20001:=congrArg Prod.snd e;have A:=CV d hi;have z:=(tE d hi).1.fin;have B:=Iz (eZ l) ((fT l).getD i []) ((fT l).getD i []).length;omega
 refine⟨by rw[a];exact(rt d).1,fun i c b=> ?_,fun i hi=> ?_,fun i c b=> ?_⟩
 ·obtain⟨hi,rfl⟩:=at_ b;have t:=xo d hi;have m:=p i hi;unfold aloneE;rw[ax (by intro q;exact q ⟨t.1,bg t.2 (by omega)⟩),ax (by intro q;exact q ⟨⟨m.2.2.1,m.2.2.2.1⟩,m.2.2.2.2⟩)];refine Be _ _ fun j x f=> ?_;rw[bV,a];exact(tE d hi).2 j x f
 ·cases hw:Vx.wars (gG (eZ l)) (eZ l).length i i with
  |false=>rfl
  |true=>
   have:=rW (ρ:=muR l) (E:=gG (eZ l)) (fun i k r=>by
    unfold gG at r;rw[List.any_eq_true]at r;obtain⟨x,b,g⟩:=r;rw[bv,bL,bL]at g;by_cases hi:i<l.length
    ·have s:(eZ l).getD i cd0=⟨(fT l).getD i [],(gH l i).1,(gH l i).2⟩:=jh (zZ hi);rw[s]at b;obtain⟨j,u,f⟩:=List.mem_iff_getElem.1 b;have n:((fT l).getD i [])[j]? =some x:=(by rw[ay u];exact congrArg some f);have:=((si d).lt i j x (by rw[ni];exact hi) n g.1).2.2;rw[g.2,cY]at this;exact this
    ·have:(eZ l).getD i cd0=cd0:=by
      have:(eZ l)[i]? =none:=eE (by rw[a];omega);simp[List.getD,this]
     rw[this]at b;cases b) _ i i hw
   omega
 ·obtain⟨hi,rfl⟩:=at_ b;have m:=p i hi;exact⟨(tE d hi).1,m.1,m.2.1⟩
section
theorem EY {wk:Int->Bool}{day:Int}{env:List UInt8->Nat->Bool}(c: ∀x (i:Nat),1440<=i->env x i=false): ∀(N:Nat) (e:Ex),SizeOf.sizeOf e<=N-> ∀(i:Nat),1440<=i->fz wk day env e i=false
 |0,e,b,_,_=>by cases e;simp at b
 |N+1,e,b,i,hi=>by
  have d: ∀j,(e.kids.map (fz wk day env)).getD j nev i=false:=fun j=>by
   cases hj:e.kids[j]? with
   |none=>simp[List.getD,hj,nev]
   |some k=>
    have f:=aM hj;have:=EY (wk:=wk) (day:=day) c N k (by have:=iV f;omega) i hi;simpa[List.getD,aZ,hj] using this
  have a:decide (i<1440)=false:=(by simp;omega);rw[jE];unfold mT;split
  ·exact a
  split
  ·simp[a]
  split
  ·split
   ·exact d 0
   ·rfl
  split
  ·split
   ·exact d 0
   ·rfl
  split
  ·simp[a]
  split
  ·simp[a]
  split
  ·simp[a]
  split
  ·unfold shf;simp[a]
  split
  ·exact c _ i hi
  ·rfl
theorem Pe (e:Ex){i:Nat}(hi:1440<=i):mnE e i=false:=EY (fun _ _ _=>rfl) _ e (aE _) i hi
theorem Pf {f:Nat->Bool}(h: ∀i:Nat,1440<=i->f i=false):spM (rs f 1440)=f:=by
 funext i;unfold spM;by_cases hi:i<1440
 ·have:=(EJ f 1440).has i hi;simpa[hi] using this
 ·rw[h i (by omega)];have a:decide (i<1440)=false:=(by simp;omega);simp[a]
section
variable {wk:Int->Bool} {day:Int} {ev:Nat->M×Nat} {l:List In} {num:List UInt8->Int} {env:List UInt8->Nat->Bool} {x:In} {s:Vx.St}
theorem QE (a:x.op=1):dJ wk day ev x s=⟨s.k+1,s.S++[spM x.sp],s.n+1⟩:=by simp[dJ,a]
theorem QF (a:x.op=2):dJ wk day ev x s=⟨s.k+1,nL unM s.S,s.n+1⟩:=by simp[dJ,a]
theorem QG (a:x.op=3):dJ wk day ev x s=⟨s.k+1,nL dfM s.S,s.n+1⟩:=by simp[dJ,a]
theorem QH (a:x.op=4):dJ wk day ev x s=⟨s.k+1,nL boM s.S,s.n+1⟩:=by simp[dJ,a]
theorem QI (b:x.op=5):dJ wk day ev x s=⟨s.k+1,zK (fun f=>shM f x.a) s.S,s.n+1⟩:=by simp[dJ,b]
theorem QJ (b:x.op=8):dJ wk day ev x s=⟨s.k+1,s.S++[(ev x.a.toNat).1],s.n+1+(ev x.a.toNat).2⟩:=by simp[dJ,b]
theorem Qa (b:x.op=6\/x.op=7)(a:onD wk day x=true):dJ wk day ev x s=⟨s.k+1,s.S,s.n+1⟩:=by
 unfold dJ;rw[ax (by omega),ax (by omega),ax (by omega),ax (by omega),ax (by omega),ax (by omega),aB a]
theorem Pg (b:x.op=6\/x.op=7)(a: ¬onD wk day x=true):dJ wk day ev x s=⟨x.to.toNat,s.S++[noM],s.n+1⟩:=by
 unfold dJ;rw[ax (by omega),ax (by omega),ax (by omega),ax (by omega),ax (by omega),ax (by omega),ax a]
theorem Bf (i:Up wk day ev l){b a:Nat}{S:List M}{n:Nat}{v:M}(j:l[b]? =some x)(f:x.op=6\/x.op=7)(d:x.to=((b+1+a:Nat):Int))(g: ∃e,runV wk day ev l ⟨b+1,S,n+1⟩=runV wk day ev l ⟨b+1+a,S++[v],e⟩):
  ∃e,runV wk day ev l ⟨b,S,n⟩=runV wk day ev l ⟨b+(a+1),S++[if onD wk day x=true then v else nev],e⟩:=by
 rw[lZ i (s:=⟨b,S,n⟩) j,show b+(a+1)=b+1+a by omega];by_cases c:onD wk day x=true
 ·rw[aB c,Qa f c];exact g
 ·rw[ax c,Pg f c,d,cY];exact⟨n+1,rfl⟩
theorem EZ (j:Up wk day ev l): ∀(N:Nat) (e:Ex),SizeOf.sizeOf e<=N->OKE e->(∀x∈nms e,(ev (num x).toNat).1=env x)-> ∀(b:Nat) (S:List M) (n:Nat),kb l b (cj num e b)-> ∃o,runV wk day ev l ⟨b,S,n⟩=runV wk day ev l ⟨b+(cj num e b).length,S++[fz wk day env e],o⟩
 |0,e,v,_,_,_,_,_,_=>by cases e;simp at v
 |N+1,e,v,h,w,b,S,n,d=>by
  have p: ∀k∈e.kids,∀(b:Nat) (S:List M) (n:Nat),kb l b (cj num k b)-> ∃o,runV wk day ev l ⟨b,S,n⟩=runV wk day ev l ⟨b+(cj num k b).length,S++[fz wk day env k],o⟩:=fun k c=>EZ j N k (by have:=iV c;omega) (h.kid c) (fun x t=>w x (vG c t));cases hstd:stdE e with
  |true=>
   rw[oY hstd]at d⊢;rw[lZ j (s:=⟨b,S,n⟩) d.one,CS hstd,QE rfl];refine⟨n+1,?_⟩;rw[Pf (fun i hi=>Pe e hi)];rfl
  |false=>
   rcases ol h hstd with⟨q,k,c⟩|⟨q,k,c⟩|⟨q,k,c⟩|q|⟨q,k,m,c⟩
   ·have g:k∈e.kids:=(by rw[c];simp)
    have f:fz wk day env e=if wk e.a=true then fz wk day env k else nev:=by
     rw[jE,q,IZ,c];rfl
    rw[pP q (by rw[c];rfl)]at d⊢;have:=Bf j (n:=n) d.one (.inl rfl) rfl (p k g (b+1) S (n+1) d.tail);rw[show onD wk day (⟨6,e.a,0,((b+1+(cj num k (b+1)).length:Nat):Int),[]⟩:In)=wk e.a from by unfold onD;rw[aB rfl]]at this;rw[f,bU];exact this
   ·have g:k∈e.kids:=(by rw[c];simp)
    have f:fz wk day env e=if(decide (e.a<=day)&&decide (day<=e.b))=true then fz wk day env k else nev:=by
     rw[jE,q,I0,c];by_cases r:e.a<=day/\day<=e.b
     ·rw[aB r,aB (by simp[r])];rfl
     ·rw[ax r,ax (by rw[bv,bL,bL];exact r)];rfl
    rw[oj q (by rw[c];rfl)]at d⊢;have:=Bf j (n:=n) d.one (.inr rfl) rfl (p k g (b+1) S (n+1) d.tail);rw[show onD wk day (⟨7,e.a,e.b,((b+1+(cj num k (b+1)).length:Nat):Int),[]⟩:In)=(decide (e.a<=day)&&decide (day<=e.b)) from by unfold onD;rw[ax (by show¬(7:Int)=6;omega)]]at this;rw[f,bU];exact this
   ·have g:k∈e.kids:=(by rw[c];simp)
    have f:fz wk day env e=shM (fz wk day env k) e.a:=by
     rw[jE,q,I4,c];rfl
    rw[qq hstd q c]at d⊢;obtain⟨o,z⟩:=p k g b S n d.left;rw[z,f,lZ j (s:=⟨b+(cj num k b).length,S++[fz wk day env k],o⟩) d.right.one,QI rfl];refine⟨o+1,?_⟩;rw[aQ,dZ,<-Nat.add_assoc,zL]
   ·have f:fz wk day env e=env e.name:=(by rw[jE,q,EM]);rw[pO q]at d⊢;rw[lZ j (s:=⟨b,S,n⟩) d.one,f,QJ rfl];refine⟨n+1+(ev (num e.name).toNat).2,?_⟩;dsimp only;rw[w _ (vH q)];rfl
   ·have g:k∈e.kids:=(by rw[c];simp);have u:m∈e.kids:=(by rw[c];simp);rw[rR hstd q c]at d⊢;obtain⟨D,A⟩:=p k g b S n d.left.left;obtain⟨y,B⟩:=p m u (b+(cj num k b).length) (S++[fz wk day env k]) D d.left.right;have t:=d.right.one;rw[aQ,<-Nat.add_assoc]at t
    have C:b+(cj num k b++cj num m (b+(cj num k b).length)++[(⟨opK e.kind,0,0,0,[]⟩:In)]).length=b+(cj num k b).length+(cj num m (b+(cj num k b).length)).length+1:=by
     rw[aQ,aQ,dZ];omega
    rw[A,B,lZ j (s:=⟨b+(cj num k b).length+(cj num m (b+(cj num k b).length)).length,S++[fz wk day env k]++[fz wk day env m],y⟩) t,C];refine⟨y+1,?_⟩;rw[d8,List.singleton_append];rcases q with q|q|q
    ·have f:fz wk day env e=unM (fz wk day env k) (fz wk day env m):=by
      rw[jE,q,I1,c];rfl
     rw[f,QF (by show opK e.kind=2;rw[q];decide)];dsimp only;rw[mo]
    ·have f:fz wk day env e=dfM (fz wk day env k) (fz wk day env m):=by
      rw[jE,q,I2,c];rfl
     rw[f,QG (by show opK e.kind=3;rw[q];decide)];dsimp only;rw[mo]
    ·have f:fz wk day env e=boM (fz wk day env k) (fz wk day env m):=by
      rw[jE,q,I3,c];rfl
     rw[f,QH (by show opK e.kind=4;rw[q];decide)];dsimp only;rw[mo]
end
theorem E0 {l:List Ru}(h:(dx l).1=0)(wk:Int->Bool)(day:Int): ∀(d i:Nat),i<l.length->muR l i<d->(evV wk day (eZ l) d i).1=gL l wk day i
 |0,_,_,p=>by omega
 |d+1,i,hi,p=>by
  have a:l[i]? =some l[i]:=ay hi;have m:=aM a;have c:(eZ l).getD i cd0=⟨(fT l).getD i [],(gH l i).1,(gH l i).2⟩:=jh (zZ hi);have k:Up wk day (evV wk day (eZ l) d) ((fT l).getD i []):=FQ (tE h hi).2;have g:=((rt h).2 _ m).ok;have b:kb ((fT l).getD i []) 0 (cj (atP5 l) (l[i]).2 0):=fun j _=>(by rw[mV a,bV])
  have f: ∀x∈nms (l[i]).2,(evV wk day (eZ l) d (atP5 l x).toNat).1=gL l wk day (atP5 l x).toNat:=fun x q=>by
   obtain⟨r,s,o⟩:=sU h m q;have e:(atP5 l x).toNat<l.length:=(by omega);have t:muR l (atP5 l x).toNat<muR l i:=sQ h hi (by rw[qU a];exact dQ.2 ⟨_,o,rfl⟩);exact E0 h wk day d _ e (by omega)
  obtain⟨u,n⟩:=EZ (env:=fun x=>gL l wk day (atP5 l x).toNat) k _ _ (aE _) g f 0 [] 0 b;rw[evV,c];dsimp only;rw[n,wK (by dsimp only;rw[bV,mV a])];show fz wk day _ _=_;rw[oX h a]
theorem NM (day:Int):eO day=wkB day:=rfl
end
structure Co where
 rules:List Ru
 res:List (List UInt8)
 svs:List Sv
 aps:List Ap
def coD (d:Dk):Co:=⟨d.rules,d.res,d.svs,d.aps⟩
def mS (c:Co)(r day:Int):M:=if atP5 c.rules (c.res.getD r.toNat [])<0 then noM else gL c.rules (wkB day) day (atP5 c.rules (c.res.getD r.toNat [])).toNat
def fS (c:Co)(r day a:Int):M:=rT (mS c r day) (inl (kW r day a c.aps 0))
def fA (c:Co)(n:Int)(a:Ap)(day min:Int)(who:List Int):Ap×Int:=
 if isN day 146097=false\/isN min 1440=false then(ap0,3) else
 if min-a.bef<0\/1440<min+a.len+a.aft then(ap0,3) else
 if jL who (c.svs.getD a.sv.toNat sv0).roles≠0 then(ap0,jL who (c.svs.getD a.sv.toNat sv0).roles) else
 if(who.any fun r=> !fk (fS c r day n) (min-a.bef) (min+a.len+a.aft))=true then(ap0,10) else({a with fr:=min-a.bef,to:=min+a.len+a.aft,day:=day,min:=min,who:=who},0)
def kQ (c:Co)(n:Int):Ap:=⟨1,10,0,0,n,(c.svs.getD n.toNat sv0).bef,(c.svs.getD n.toNat sv0).aft,(c.svs.getD n.toNat sv0).len,0,0,[]⟩
def kh (c:Co)(n day min:Int)(who:List Int):An×Co:=
 if isN n c.svs.length=false then(noA 6,c) else
 if 30<=c.aps.length then(noA 5,c) else
 if(fA c (-1) (kQ c n) day min who).2≠0 then(noA (fA c (-1) (kQ c n) day min who).2,c) else(iZ c.aps.length,{c with aps:=c.aps++[(fA c (-1) (kQ c n) day min who).1]})
def il (c:Co)(n:Int)(f:Ap->Ap×Int):An×Co:=
 if isN n c.aps.length=false\/(c.aps.getD n.toNat ap0).st=3 then(noA 6,c) else
 if(f (c.aps.getD n.toNat ap0)).2≠0 then(noA (f (c.aps.getD n.toNat ap0)).2,c) else(noA 0,{c with aps:=c.aps.set n.toNat (f (c.aps.getD n.toNat ap0)).1})
def BB (c:Co)(t:Int):An×Co:=if t<0\/1000<t then(noA 3,c) else(noA 0,{c with aps:=c.aps.map (iB t)})
def GK (c:Co)(name:List UInt8):An×Co:=
 if 12<=c.res.length then(noA 5,c) else if atP5 c.rules name<0 then(noA 7,c) else(iZ c.res.length,{c with res:=c.res++[name]})
def GL (c:Co)(s:Sv):An×Co:=
 if 8<=c.svs.length then(noA 5,c) else if fy s c.res.length≠0 then(noA (fy s c.res.length),c) else(iZ c.svs.length,{c with svs:=c.svs++[s]})
def GM (c:Co)(s:Sv)(day:Int):Nat->Nat->List M
 |0,_=>[]
 |m+1,r=>(if s.roles.any (fun p=>decide ((r:Int)∈p))=true then fS c r day (-1) else noM)::GM c s day m (r+1)
def uN (c:Co)(s:Sv)(day:Int):Nat->Nat->List (List M)
 |0,_=>[]
 |m+1,i=>GM c s (day+i) c.res.length 0::uN c s day m (i+1)
def BC (c:Co)(n day days:Int):An×Co:=
 if isN n c.svs.length=false then(noA 6,c) else
 if isN day 146097=false\/days<1\/30<days\/146097<day+days then(noA 3,c) else
 if(gX (c.svs.getD n.toNat sv0) (uN c (c.svs.getD n.toNat sv0) day days.toNat 0)).err≠0 then(noA (gX (c.svs.getD n.toNat sv0) (uN c (c.svs.getD n.toNat sv0) day days.toNat 0)).err,c) else(⟨0,0,(gX (c.svs.getD n.toNat sv0) (uN c (c.svs.getD n.toNat sv0) day days.toNat 0)).day+day,(gX (c.svs.getD n.toNat sv0) (uN c (c.svs.getD n.toNat sv0) day days.toNat 0)).min,(gX (c.svs.getD n.toNat sv0) (uN c (c.svs.getD n.toNat sv0) day days.toNat 0)).who,[]⟩,c)
def uO (c:Co):List Ap->Nat->List Int
 |[],_=>[]
 |a::l,i=>if a.st≠3/\(a.who.any fun r=> !fk (mS c r a.day) a.fr a.to)=true then(i:Int)::uO c l (i+1) else uO c l (i+1)
def ze (c:Co)(r:Int×List Ru):An×Co:=if r.1≠0 then(noA r.1,c) else(⟨0,0,0,0,[],uO {c with rules:=r.2} c.aps 0⟩,{c with rules:=r.2})
def doS (c:Co)(x:Cm):An×Co:=
 if x.kind=1 then ze c (iE x.text) else
 if x.kind=2 then GK c x.name else
 if x.kind=3 then GL c x.sv else
 if x.kind=4 then BC c x.n x.day x.days else
 if x.kind=5 then kh c x.n x.sday x.smin x.swho else
 if x.kind=6 then il c x.n (fun a=>(fp a 2,0)) else
 if x.kind=7 then il c x.n (fun a=>(fp a 3,0)) else
 if x.kind=8 then il c x.n (fun a=>fA c x.n a x.sday x.smin x.swho) else
 if x.kind=9 then BB c x.days else(noA 1,c)
def gy:Co->List Cm->List An×Co
 |c,[]=>([],c)
 |c,x::l=>((doS c x).1::(gy (doS c x).2 l).1,(gy (doS c x).2 l).2)
def co0:Co:=⟨[],[],[],[]⟩
structure DI (d:Dk):Prop where
 flt:ir d.rules=(0,0)
 vl:d.vers.length=d.rules.length
 kv: ∀e∈d.kept,e.v<=d.given
 vg: ∀v∈d.vers,v<=d.given
 ki: ∀e∈d.kept,∀i:Nat,e.r=(i:Int)->d.vers[i]? =some e.v->e.m=gL d.rules (wkB e.d) e.d i
 ad: ∀a∈d.aps,0<=a.day/\a.day<146097
theorem Db {l:List Ru}(h:ir l=(0,0)){i:Nat}(hi:i<l.length){day:Int}(d:0<=day)(e:day<146097):(je (eZ l) (i:Int) day).1=0/\oT (eZ l) (i:Int) day=gL l (wkB day) day i:=by
 have b:(ir l).1=0:=by rw[h]
 have c:=Ea (JH b)
 have a:(je (eZ l) (i:Int) day).1=0:=by
  unfold je;rw[c,ax (by simp),xA,ax (by omega),ax (by omega)]
 refine⟨a,?_⟩;unfold oT;rw[aB a,cY,NM];refine E0 (sV b).1 _ _ _ _ hi ?_;rw[xA];have:=AT l (i:Int);unfold muR;omega
theorem Lz {l:List Vx.Kp}{i:Int}{e:Vx.Kp}(h:e∈fw l i):e∈l:=by
 unfold fw at h;split at h
 ·rcases cg.1 h with h|h
  ·exact List.mem_of_mem_take h
  ·exact List.mem_of_mem_drop h
 ·exact h
theorem vM {l:List Vx.Kp}{i:Int}{e x:Vx.Kp}(h:x∈fw l i++[e]):x∈l\/x=e:=(cg.1 h).imp Lz da.1
theorem Dc {d:Dk}(h:DI d)(r:Int){day:Int}(B:0<=day)(C:day<146097):(fo d r day).1=mS (coD d) r day/\DI (fo d r day).2/\coD (fo d r day).2=coD d:=by
 have D:=ng d.rules (d.res.getD r.toNat []);by_cases f:atP5 d.rules (d.res.getD r.toNat [])<0
 ·have e:fo d r day=(noM,d):=aB f;rw[e];exact⟨(aB f).symm,h,rfl⟩
 ·obtain⟨i,g⟩: ∃i:Nat,atP5 d.rules (d.res.getD r.toNat [])=(i:Int):=⟨(atP5 d.rules (d.res.getD r.toNat [])).toNat,by omega⟩
  have e:fo d r day=((jg (eZ d.rules) d.kept d.runs (d.vers.getD i 0) (i:Int) day).m,{d with kept:=(jg (eZ d.rules) d.kept d.runs (d.vers.getD i 0) (i:Int) day).l,runs:=(jg (eZ d.rules) d.kept d.runs (d.vers.getD i 0) (i:Int) day).n}):=by
   unfold fo;dsimp only;rw[ax f,g,cY]
  have q:mS (coD d) r day=gL d.rules (wkB day) day i:=by
   unfold mS coD;dsimp only;rw[ax f,g,cY]
  rw[e,q];rw[g]at D;clear e q f g;have hi:i<d.rules.length:=(by omega);obtain⟨v,o⟩: ∃v,d.vers[i]? =some v:=⟨d.vers[i]'(by rw[h.vl];exact hi),ay _⟩
  have p:d.vers.getD i 0=v:=(by simp[List.getD,o]);obtain⟨E,F⟩:=Db h.flt hi B C;rw[p];unfold jg;by_cases k:ma d.kept v (i:Int) day=true
  ·rw[aB k];obtain⟨n,e,G,s,t,u,w,y⟩:=Pd k;dsimp only;rw[y];have b:=aM s;have A:e.m=gL d.rules (wkB day) day i:=(by rw[<-u];exact h.ki e b i t (by rw[w];exact o));refine⟨A,⟨h.flt,h.vl,fun x a=> ?_,h.vg,fun x a=> ?_,h.ad⟩,rfl⟩
   ·rcases vM a with a|rfl
    ·exact h.kv x a
    ·exact h.kv _ b
   ·rcases vM a with a|rfl
    ·exact h.ki x a
    ·exact h.ki _ b
  ·rw[ax k,ax (fun c=>c E)];dsimp only;rw[F];refine⟨rfl,⟨h.flt,h.vl,fun x a=> ?_,h.vg,fun x a=> ?_,h.ad⟩,rfl⟩
   ·rcases vM (List.mem_of_mem_drop a) with a|rfl
    ·exact h.kv x a
    ·exact h.vg _ (aM o)
   ·rcases vM (List.mem_of_mem_drop a) with a|rfl
    ·exact h.ki x a
    ·intro j z _
     have:j=i:=by
      have e:(i:Int)=(j:Int):=z;omega
     subst this;rfl
def Ste (d:Dk)(a:Dk):Prop:=DI a/\coD a=coD d
theorem E1 {d:Dk}(h:DI d)(r e:Int){day:Int}(f:0<=day)(g:day<146097):(iA d r day e).1=fS (coD d) r day e/\Ste d (iA d r day e).2:=by
 obtain⟨a,b,c⟩:=Dc h r f g;exact⟨by unfold iA fS;rw[a];rfl,b,c⟩
theorem Dd {f:Int->Dk->Bool×Dk}{g:Co->Int->Bool}(i: ∀x d,DI d->(f x d).1=g (coD d) x/\Ste d (f x d).2): ∀(l:List Int) (d:Dk),DI d->(jq f l d).1=l.any (g (coD d))/\Ste d (jq f l d).2
 |[],d,h=>⟨rfl,h,rfl⟩
 |x::l,d,h=>by
  obtain⟨a,b,c⟩:=i x d h;unfold jq;by_cases e:(f x d).1=true
  ·rw[aB e];refine⟨?_,b,c⟩;rw[List.any_cons,<-a,e];rfl
  ·rw[ax e];obtain⟨j,k,m⟩:=Dd i l (f x d).2 b;refine⟨?_,k,m.trans c⟩;rw[j,c,List.any_cons,<-a];simp[e]
theorem xB {d:Dk}(h:DI d)(n:Int)(a:Ap)(day min:Int)(who:List Int):(fc d n a day min who).1=fA (coD d) n a day min who/\Ste d (fc d n a day min who).2:=by
 unfold fc fA;by_cases b:isN day 146097=false\/isN min 1440=false
 ·rw[aB b,aB b];exact⟨rfl,h,rfl⟩
 rw[ax b,ax b];by_cases e:min-a.bef<0\/1440<min+a.len+a.aft
 ·rw[aB e,aB e];exact⟨rfl,h,rfl⟩
 rw[ax e,ax e];show((if jL who (d.svs.getD a.sv.toNat sv0).roles≠0 then _ else _:(Ap×Int)×Dk).1=(if jL who (d.svs.getD a.sv.toNat sv0).roles≠0 then _ else _))/\_;by_cases i:jL who (d.svs.getD a.sv.toNat sv0).roles≠0
 ·rw[aB i,aB i];exact⟨rfl,h,rfl⟩
 rw[ax i,ax i]
 have j:0<=day/\day<146097:=by
  have:isN day 146097=true:=(by simpa using fun c=>b (.inl c));simpa[isN] using this
 obtain⟨p,q⟩:=Dd (g:=fun c r=> !fk (fS c r day n) (min-a.bef) (min+a.len+a.aft)) (f:=kX day n (min-a.bef) (min+a.len+a.aft)) (fun x d h=>by
  obtain⟨k,l⟩:=E1 h x n j.1 j.2;exact⟨by unfold kX;rw[k],l⟩) who d h
 dsimp only;rw[p];split
 ·exact⟨rfl,q⟩
 ·exact⟨rfl,q⟩
theorem De (s:Sv){day:Int}(i:0<=day)(j:day<146097): ∀(m r:Nat) (d:Dk),DI d->(gj s day m r d).1=GM (coD d) s day m r/\Ste d (gj s day m r d).2
 |0,_,d,h=>⟨rfl,h,rfl⟩
 |m+1,r,d,h=>by
  unfold gj GM;dsimp only;split
  ·obtain⟨a,b,c⟩:=E1 h (r:Int) (-1) i j;obtain⟨e,f,g⟩:=De s i j m (r+1) _ b;exact⟨by rw[a,e,c],f,g.trans c⟩
  ·obtain⟨e,f,g⟩:=De s i j m (r+1) d h;exact⟨by rw[e],f,g⟩
theorem JI (s:Sv){day:Int}(j:0<=day): ∀(m i:Nat) (d:Dk),DI d->day+i+m<=146097->(iR s day m i d).1=uN (coD d) s day m i/\Ste d (iR s day m i d).2
 |0,_,d,h,_=>⟨rfl,h,rfl⟩
 |m+1,i,d,h,k=>by
  unfold iR uN;dsimp only;obtain⟨a,b,c⟩:=De s (day:=day+i) (by omega) (by omega) d.res.length 0 d h;obtain⟨e,f,g⟩:=JI s j m (i+1) _ b (by omega);exact⟨by rw[a,e,c];rfl,f,g.trans c⟩
theorem Df: ∀(N:Nat) (a b:Ex),lR N a b=true->a=b
 |0,_,_,h=>by cases h
 |N+1,a,b,h=>by
  unfold lR at h;simp only[bv,bL,dt]at h;obtain⟨⟨⟨⟨c,d⟩,e⟩,f⟩,j,k⟩:=h;have g:a.kids=b.kids:=List.ext_getElem j fun i hi l=>Df N _ _ (k (a.kids[i],b.kids[i]) (List.mem_iff_getElem.2 ⟨i,by simp;omega,by simp⟩));cases a;cases b;simp only at c d e f g;subst c d e f g;rfl
theorem Aa {c new:List Ru}{k:Nat}(h:jr c new (k:Int)=false): ∃u,c[k]? =some u/\new[k]? =some u:=by
 unfold jr at h;rw[cY]at h;cases ha:c[k]? with
 |none=>rw[ha]at h;cases h
 |some a=>
  cases hb:new[k]? with
  |none=>rw[ha,hb]at h;cases h
  |some b=>
   rw[ha,hb]at h;simp only[Bool.or_eq_false_iff,Bool.not_eq_false']at h;have d:=h.2;unfold qt at d;simp only[bv,bL]at d;have:a=b:=Prod.ext d.1 (Df _ _ _ d.2);exact⟨a,rfl,by rw[this]⟩
theorem NN {l:List Ru}(h:(dx l).1=0){k:Nat}{u:Ru}(b:l[k]? =some u):atP5 l u.1=(k:Int):=by
 have a:=(EK h).1 k (aF.1 b).1;unfold lk1 at a;rw[b]at a;simpa using a
theorem Bg {L d:List Ru}(o:(dx L).1=0)(c:(dx d).1=0)(w:Int->Bool)(day:Int): ∀(m i:Nat),muR d i<m->i<d.length->jr L d (i:Int)=false->(∀k∈gF d (i:Int),jr L d k=false)->gL L w day i=gL d w day i
 |0,_,h,_,_,_=>by omega
 |m+1,i,K,hi,G,z=>by
  obtain⟨u,E,n⟩:=Aa G;rw[oX o E,oX c n];refine oh _ u.2 (aE _) fun x B=> ?_;obtain⟨M,N,_⟩:=sU c (aM n) B;obtain⟨k,l⟩: ∃k:Nat,atP5 d x=(k:Int):=⟨(atP5 d x).toNat,by omega⟩
  have s:=oi c n B;rw[l,cY]at s;have A:Lx.Way (fun a b=>(iO d a).contains b) i k:=Relation.TransGen.single (by simpa using s);have f:k<d.length:=(by omega);have r:(k:Int)∈gF d (i:Int):=(mR c hi).2 ⟨k,rfl,f,A⟩;have g:=z _ r;obtain⟨v,I,J⟩:=Aa g
  have t:v.1=x:=by
   obtain⟨O,y,C⟩:=Im l;rw[J]at y;cases y;exact C
  have D:atP5 L x=(k:Int):=(by rw[<-t];exact NN o I);rw[D,l,cY];refine Bg o c w day m k (by have:=sQ c hi s;omega) f g fun j F=>z j ?_;obtain⟨H,e,p,q⟩:=(mR c f).1 F;exact(mR c hi).2 ⟨H,e,p,A.trans q⟩
theorem NO {t:List UInt8}(h:(iE t).1=0):ir (iE t).2=(0,0):=by
 unfold iE at h⊢;split at h
 ·rename_i a;exact absurd h a
 ·rename_i a;rw[ax a];exact Bc h
structure DJ (d:Dk):Prop extends DI d where
 gv:0<=d.given
theorem Ste.j {d a:Dk}(h:DJ d)(c:Ste d a)(b:a.given=d.given):DJ a:=⟨c.1,by rw[b];exact h.gv⟩
theorem Eb {d:Dk}(h:DJ d){l:List Ru}(o:ir l=(0,0)):DI {d with rules:=l,vers:=qu d l,given:=d.given+1}:=by
 have b:(qu d l).length=l.length:=by simp[qu]
 refine⟨o,b,fun e j=>by have:=h.kv e j;show e.v<=d.given+1;omega,fun v g=> ?_,fun e j i r g=> ?_,h.ad⟩
 ·show v<=d.given+1;unfold qu at g;obtain⟨i,_,rfl⟩:=dQ.1 g;split
  ·omega
  ·by_cases q:i<d.vers.length
   ·have:=h.vg (d.vers.getD i 0) (by simp[List.getD,ay q]);omega
   ·have:d.vers.getD i 0=0:=(by simp[List.getD,eE (by omega:d.vers.length<=i)]);have:=h.gv;omega
 ·show e.m=gL l (wkB e.d) e.d i;have hi:i<l.length:=(by rw[<-b];exact(aF.1 g).1);have a:(qu d l)[i]? =some e.v:=g;unfold qu at a;rw[aZ,List.getElem?_range hi]at a;replace a:(if jr d.rules l (i:Int)=true\/(gF l (i:Int)).any (jr d.rules l)=true then d.given+1 else d.vers.getD i 0)=e.v:=aN a;by_cases q:jr d.rules l (i:Int)=true\/(gF l (i:Int)).any (jr d.rules l)=true
  ·rw[aB q]at a;have:=h.kv e j;omega
  ·rw[ax q]at a;have p:jr d.rules l (i:Int)=false:=(by simpa using fun c=>q (.inl c))
   have t: ∀k∈gF l (i:Int),jr d.rules l k=false:=fun k s=>by
    have: ¬(gF l (i:Int)).any (jr d.rules l)=true:=fun c=>q (.inr c);simp only[List.any_eq_true,not_exists,not_and]at this;simpa using this k s
   obtain⟨u,u1,_⟩:=Aa p;have f:i<d.vers.length:=(by rw[h.vl];exact(aF.1 u1).1)
   have n:d.vers[i]? =some e.v:=by
    rw[<-a,ay f];simp[List.getD,ay f]
   rw[h.ki e j i r n];exact Bg (sV (by rw[h.flt])).1 (sV (by rw[o])).1 _ _ _ i (Nat.lt_succ_self _) hi p t
theorem xC: ∀(l:List Ap) (i:Nat) (d:Dk),DI d->(∀a∈l,0<=a.day/\a.day<146097)->(fd l i d).1=uO (coD d) l i/\Ste d (fd l i d).2
 |[],_,d,h,_=>⟨rfl,h,rfl⟩
 |a::l,i,d,h,m=>by
  unfold fd uO;by_cases j:a.st=3
  ·rw[aB j,ax (fun c=>c.1 j)];exact xC l (i+1) d h fun b k=>m b (bJ _ k)
  ·rw[ax j];have ha:=m a bp
   obtain⟨p,w,q⟩:=Dd (g:=fun c r=> !fk (mS c r a.day) a.fr a.to) (f:=lj a.day a.fr a.to) (fun x d h=>by
    obtain⟨s,t,u⟩:=Dc h x ha.1 ha.2;exact⟨by unfold lj;rw[s],t,u⟩) a.who d h
   obtain⟨v,n,o⟩:=xC l (i+1) _ w fun b k=>m b (bJ _ k);dsimp only;refine⟨?_,n,o.trans q⟩;rw[v,q,p];by_cases e:(a.who.any fun r=> !fk (mS (coD d) r a.day) a.fr a.to)=true
   ·rw[aB e,aB ⟨j,e⟩]
   ·rw[ax e,ax fun c=>e c.2]
theorem E2 {c:Co}{n:Int}{a:Ap}{day min:Int}{who:List Int}(h:(fA c n a day min who).2=0):0<=(fA c n a day min who).1.day/\(fA c n a day min who).1.day<146097:=by
 unfold fA at h⊢;split
 ·rename_i b;rw[aB b]at h;cases h
 rename_i b;rw[ax b]at h;split
 ·rename_i e;rw[aB e]at h;cases h
 rename_i e;rw[ax e]at h;split
 ·rename_i d;rw[aB d]at h;exact absurd h d
 rename_i d;rw[ax d]at h;split
 ·rename_i f;rw[aB f]at h;cases h
 have:isN day 146097=true:=by simpa using fun c=>b (.inl c)
 simpa[isN] using this
def Rl (p:An×Dk)(q:An×Co):Prop:=p.1=q.1/\coD p.2=q.2/\DJ p.2
theorem Rl.ite {c:Prop}[Decidable c]{p a:An×Dk}{q b:An×Co}(h:c->Rl p q)(d: ¬c->Rl a b):Rl (if c then p else a) (if c then q else b):=by
 by_cases e:c
 ·rw[aB e,aB e];exact h e
 ·rw[ax e,ax e];exact d e
theorem rB {n m:Int}(h: ¬isN n m=false):0<=n/\n<m:=by
 have:isN n m=true:=by simpa using h
 simpa[isN] using this
theorem Rl.aps {d c:Dk}(h:DJ d)(b:Ste d c)(f:c.given=d.given)(a:An){l:List Ap}(g: ∀x∈l,0<=x.day/\x.day<146097):Rl (a,{c with aps:=l}) (a,{coD d with aps:=l}):=by
 have e:=b.2;unfold coD at e;simp only[Co.mk.injEq]at e;refine⟨rfl,?_,⟨⟨b.1.flt,b.1.vl,b.1.kv,b.1.vg,b.1.ki,g⟩,by show 0<=c.given;rw[f];exact h.gv⟩⟩;unfold coD;simp only[Co.mk.injEq];exact⟨e.1,e.2.1,e.2.2.1,trivial⟩
theorem Dg {d:Dk}(h:DJ d)(n:Int)(f:Ap->Dk->(Ap×Int)×Dk)(g:Ap->Ap×Int)(l: ∀a,(f a d).1=g a/\Ste d (f a d).2/\Cor d (f a d).2)(m: ∀a∈d.aps,(g a).2=0->0<=(g a).1.day/\(g a).1.day<146097):Rl (iG d n f) (il (coD d) n g):=by
 unfold iG il;refine .ite (fun _=>⟨rfl,rfl,h⟩) fun i=> ?_;obtain⟨p,q,r⟩:=l (d.aps.getD n.toNat ap0);dsimp only;rw[p];refine .ite (fun _=>⟨rfl,q.2,q.j h r.given⟩) fun k=> ?_;have b:(f (d.aps.getD n.toNat ap0) d).2.aps=d.aps:=congrArg Co.aps q.2;rw[b];refine .aps h q r.given _ fun a ha=> ?_;rcases List.mem_or_eq_of_mem_set ha with ha|rfl
 ·exact h.ad a ha
 ·have o:=rB fun c=>i (.inl c);have e:n.toNat<d.aps.length:=(by omega);exact m _ (by simp[List.getD,ay e]) (by simpa using k)
theorem Qb {d:Dk}(h:DJ d)(x:Cm):Rl (doP d x) (doS (coD d) x):=by
 have f: ∀a,Rl (a,d) (a,coD d):=fun a=>⟨rfl,rfl,h⟩
 unfold doP doS;refine .ite (fun _=> ?_) fun _=> .ite (fun _=> ?_) fun _=> .ite (fun _=> ?_) fun _=> .ite (fun _=> ?_) fun _=> .ite (fun _=> ?_) fun _=> .ite (fun _=> ?_) fun _=> .ite (fun _=> ?_) fun _=> .ite (fun _=> ?_) fun _=> .ite (fun _=> ?_) fun _=>f _
 ·refine .ite (fun _=>f _) fun e=> ?_;obtain⟨p,q⟩:=xC d.aps 0 _ (Eb h (NO (by simpa using e))) h.ad;dsimp only;refine⟨by rw[p];rfl,q.2,q.1,?_⟩;rw[(qv d.aps 0 _).given];have:=h.gv;show 0<=d.given+1;omega
 ·exact .ite (fun _=>f _) fun _=> .ite (fun _=>f _) fun _=>⟨rfl,rfl,⟨⟨h.flt,h.vl,h.kv,h.vg,h.ki,h.ad⟩,h.gv⟩⟩
 ·exact .ite (fun _=>f _) fun _=> .ite (fun _=>f _) fun _=>⟨rfl,rfl,⟨⟨h.flt,h.vl,h.kv,h.vg,h.ki,h.ad⟩,h.gv⟩⟩
 ·refine .ite (fun _=>f _) fun _=> .ite (fun _=>f _) fun k=> ?_;have r:=rB fun c=>k (.inl c);obtain⟨p,q⟩:=JI (d.svs.getD x.n.toNat sv0) r.1 x.days.toNat 0 d h.toDI (by omega);have g:=(xz (d.svs.getD x.n.toNat sv0) x.day x.days.toNat 0 d).given;dsimp only;rw[p];exact .ite (fun _=>⟨rfl,q.2,q.j h g⟩) fun _=>⟨rfl,q.2,q.j h g⟩
 ·refine .ite (fun _=>f _) fun _=> .ite (fun _=>f _) fun _=> ?_;obtain⟨p,q⟩:=xB h.toDI (-1) (kQ (coD d) x.n) x.sday x.smin x.swho;have g:=(mx d (-1) (kQ (coD d) x.n) x.sday x.smin x.swho).given;have i:(fc d (-1) (kQ (coD d) x.n) x.sday x.smin x.swho).2.aps=d.aps:=congrArg Co.aps q.2;have m:(⟨1,10,0,0,x.n,(d.svs.getD x.n.toNat sv0).bef,(d.svs.getD x.n.toNat sv0).aft,(d.svs.getD x.n.toNat sv0).len,0,0,[]⟩:Ap)=kQ (coD d) x.n:=rfl;dsimp only;rw[m,p,i];refine .ite (fun _=>⟨rfl,q.2,q.j h g⟩) fun l=> .aps h q g _ fun a ha=> ?_;rcases cg.1 ha with ha|ha
  ·exact h.ad a ha
  ·cases da.1 ha;exact E2 (by simpa using l)
 ·exact Dg h _ _ _ (fun a=>⟨rfl,⟨h.toDI,rfl⟩,Cor.refl d⟩) fun a ha _=>h.ad a ha
 ·exact Dg h _ _ _ (fun a=>⟨rfl,⟨h.toDI,rfl⟩,Cor.refl d⟩) fun a ha _=>h.ad a ha
 ·exact Dg h _ _ _ (fun a=>⟨(xB h.toDI _ a _ _ _).1,(xB h.toDI _ a _ _ _).2,mx d _ a _ _ _⟩) fun a _ e=>E2 e
 ·refine .ite (fun _=>f _) fun _=> .aps h ⟨h.toDI,rfl⟩ rfl _ fun a ha=> ?_;obtain⟨b,o,rfl⟩:=dQ.1 ha;have:=h.ad b o;unfold iB fp;split
  ·exact this
  split<;>exact this
theorem E3: ∀(l:List Cm) (d:Dk),DJ d->(playP d l).1=(gy (coD d) l).1/\coD (playP d l).2=(gy (coD d) l).2/\DJ (playP d l).2
 |[],d,h=>⟨rfl,rfl,h⟩
 |x::l,d,h=>by
  obtain⟨a,b,c⟩:=Qb h x;obtain⟨e,f,g⟩:=E3 l _ c;unfold playP gy;rw[<-a,<-b];exact⟨by rw[e],f,g⟩
theorem Ph:DJ dk0:=⟨⟨zd.flt,zd.vl,(fun e a=>by cases a),(fun e a=>by cases a),(fun e a=>by cases a),(fun e a=>by cases a)⟩,zd.gv.1⟩
theorem pU (l:List Cm):(playP dk0 l).1=(gy co0 l).1/\coD (playP dk0 l).2=(gy co0 l).2/\DJ (playP dk0 l).2:=E3 l dk0 Ph
structure AW (S:List Sv)(a:Ap):Prop where
 lo:0<=a.fr
 hi:a.to<=1440
 fr:a.fr=a.min-a.bef
 to:a.to=a.min+a.len+a.aft
 meas:1<=a.len/\0<=a.bef/\0<=a.aft
 sv:0<=a.sv/\a.sv<S.length
 who:a.who.length=(S.getD a.sv.toNat sv0).roles.length
def NC (a b:Ap):Prop:=a.st=3\/b.st=3\/a.day≠b.day\/a.to<=b.fr\/b.to<=a.fr\/ ∀r∈a.who,r∉b.who
theorem NC.symm {a b:Ap}(h:NC a b):NC b a:=by
 rcases h with h|h|h|h|h|h
 ·exact .inr (.inl h)
 ·exact .inl h
 ·exact .inr (.inr (.inl fun e=>h e.symm))
 ·exact .inr (.inr (.inr (.inr (.inl h))))
 ·exact .inr (.inr (.inr (.inl h)))
 ·exact .inr (.inr (.inr (.inr (.inr fun r d c=>h r c d))))
structure CI (c:Co):Prop where
 svs: ∀s∈c.svs,(1<=s.len/\0<=s.bef/\0<=s.aft)/\1<=s.roles.length
 aps: ∀a∈c.aps,AW c.svs a
 nc: ∀(i j:Nat) (a b:Ap),i≠j->c.aps[i]? =some a->c.aps[j]? =some b->NC a b
theorem LA {f:Nat->Bool}{x y:Int}(h:fk f x y=true){i:Nat}(a:x<=(i:Int))(b:(i:Int)<y):f i=true:=by
 unfold fk at h;simp only[bv,bL]at h;obtain⟨⟨⟨_,d⟩,_⟩,c⟩:=h;have:=wO c i (by omega);have hi:i<1440:=by omega
 simpa[inl,a,b,hi] using this
theorem Dh (r day c:Int){b:Ap}(e:b.st≠3)(f:b.day=day)(g:r∈b.who): ∀(l:List Ap) (i j:Nat),l[j]? =some b->((i+j:Nat):Int)≠c->(b.fr,b.to)∈kW r day c l i
 |[],_,_,h,_=>by simp at h
 |a::l,i,0,h,d=>by
  cases h;unfold kW;rw[aB ⟨by simpa using d,e,f,g⟩];exact bp
 |a::l,i,j+1,h,d=>by
  have:=Dh r day c e f g l (i+1) j h (by rw[show i+1+j=i+(j+1) by omega];exact d);unfold kW;split
  ·exact bJ _ this
  ·exact this
theorem xD {c:Co}{n:Int}{a:Ap}{day min:Int}{who:List Int}(h:(fA c n a day min who).2=0)(D:1<=a.len/\0<=a.bef/\0<=a.aft)(F:0<=a.sv/\a.sv<c.svs.length):
  AW c.svs (fA c n a day min who).1/\ ∀(j:Nat) (b:Ap),(j:Int)≠n->c.aps[j]? =some b->AW c.svs b->NC (fA c n a day min who).1 b:=by
 unfold fA at h⊢;split at h
 ·exact absurd h (by decide)
 split at h
 ·exact absurd h (by decide)
 split at h
 ·rename_i i;exact absurd h i
 split at h
 ·exact absurd h (by decide)
 rename_i z u i v;rw[ax z,ax u,ax i,ax v]
 have G:who.length=(c.svs.getD a.sv.toNat sv0).roles.length:=by
  have d:jL who (c.svs.getD a.sv.toNat sv0).roles=0:=dX i;unfold jL at d;split at d
  ·exact absurd d (by decide)
  ·rename_i e;exact dX e
 refine⟨⟨?_,?_,rfl,rfl,D,F,G⟩,fun j b C B f=> ?_⟩
 ·show 0<=min-a.bef;omega
 ·show min+a.len+a.aft<=1440;omega
 by_cases t:b.st=3
 ·exact .inr (.inl t)
 by_cases g:day≠b.day
 ·exact .inr (.inr (.inl g))
 have g:b.day=day:=(dX g:day=b.day).symm;by_cases w:min+a.len+a.aft<=b.fr
 ·exact .inr (.inr (.inr (.inl w)))
 by_cases y:b.to<=min-a.bef
 ·exact .inr (.inr (.inr (.inr (.inl y))))
 refine .inr (.inr (.inr (.inr (.inr fun r E m=>v ?_))));refine List.any_eq_true.2 ⟨r,E,?_⟩;cases hh:fk (fS c r day n) (min-a.bef) (min+a.len+a.aft) with
 |false=>rfl
 |true=>
  exfalso;have A: ¬(min-a.bef<0):=fun e=>u (.inl e);have H:=f.fr;have I:=f.to;have J:=f.meas;have K:=f.lo;have L:=f.hi
  obtain⟨x,o,p,q,s⟩: ∃x:Nat,min-a.bef<=(x:Int)/\(x:Int)<min+a.len+a.aft/\b.fr<=(x:Int)/\(x:Int)<b.to:=by
   by_cases e:min-a.bef<=b.fr
   ·exact⟨b.fr.toNat,by omega,by omega,by omega,by omega⟩
   ·exact⟨(min-a.bef).toNat,by omega,by omega,by omega,by omega⟩
  have k:=LA hh o p;unfold fS rT at k;simp only[bv,Bool.not_eq_true']at k
  have l:inl (kW r day n c.aps 0) x=true:=by
   unfold inl;exact List.any_eq_true.2 ⟨_,Dh r day n t g m c.aps 0 j B (by rw[bV];exact C),by simp[q,s];omega⟩
  rw[l]at k;exact absurd k.1.2 (by decide)
theorem AW.settle {S:List Sv}{a:Ap}(h:AW S a)(s:Int):AW S (fp a s):=⟨h.lo,h.hi,h.fr,h.to,h.meas,h.sv,h.who⟩
theorem NC.settle {a b:Ap}(h:NC a b)(c:a.st≠3)(s:Int):NC (fp a s) b:=by
 rcases h with h|h
 ·exact absurd h c
 ·exact .inr h
theorem AW.tick {S:List Sv}{a:Ap}(h:AW S a)(t:Int):AW S (iB t a):=by
 unfold iB;split
 ·exact h
 split
 ·exact h.settle 3
 ·exact⟨h.lo,h.hi,h.fr,h.to,h.meas,h.sv,h.who⟩
theorem NC.tick {a b:Ap}(h:NC a b)(t:Int):NC (iB t a) b:=by
 unfold iB;split
 ·exact h
 split
 ·exact .inl rfl
 ·exact h
theorem CI.set {c:Co}(h:CI c){n:Nat}{p:Ap}(l:AW c.svs p)(k: ∀(j:Nat) (b:Ap),j≠n->c.aps[j]? =some b->NC p b):CI {c with aps:=c.aps.set n p}:=by
 refine⟨h.svs,fun a ha=> ?_,fun i j a b e hi d=> ?_⟩
 ·rcases List.mem_or_eq_of_mem_set ha with ha|rfl
  ·exact h.aps a ha
  ·exact l
 ·replace hi:(c.aps.set n p)[i]? =some a:=hi;replace d:(c.aps.set n p)[j]? =some b:=d;rw[List.getElem?_set]at hi d;by_cases f:n=i
  ·rw[aB f]at hi;rw[ax (by omega)]at d;split at hi
   ·cases hi;exact k j b (by omega) d
   ·cases hi
  ·rw[ax f]at hi;by_cases g:n=j
   ·rw[aB g]at d;split at d
    ·cases d;exact(k i a (by omega) hi).symm
    ·cases d
   ·rw[ax g]at d;exact h.nc i j a b e hi d
theorem CI.change {c:Co}(h:CI c)(n:Int)(f:Ap->Ap×Int)(i: ∀a,c.aps[n.toNat]? =some a->0<=n->a.st≠3->(f a).2=0->AW c.svs (f a).1/\ ∀(j:Nat) (b:Ap),j≠n.toNat->c.aps[j]? =some b->NC (f a).1 b):CI (il c n f).2:=by
 unfold il;split
 ·exact h
 split
 ·exact h
 rename_i d g;obtain⟨l,p⟩:=rB fun e=>d (.inl e);have k:n.toNat<c.aps.length:=by omega
 have e:c.aps[n.toNat]? =some (c.aps.getD n.toNat ap0):=by rw[dc,ay k];rfl
 obtain⟨m,o⟩:=i _ e l (fun e=>d (.inr e)) (dX g);exact h.set m o
theorem Qc {c:Co}(h:CI c)(x:Cm):CI (doS c x).2:=by
 unfold doS;split
 ·unfold ze;split
  ·exact h
  ·exact⟨h.svs,h.aps,h.nc⟩
 split
 ·unfold GK;split
  ·exact h
  split
  ·exact h
  ·exact⟨h.svs,h.aps,h.nc⟩
 split
 ·unfold GL;split
  ·exact h
  split
  ·exact h
  rename_i _ e;refine⟨fun s l=> ?_,fun a ha=> ?_,h.nc⟩
  ·rcases cg.1 l with l|l
   ·exact h.svs s l
   ·cases da.1 l;have m:fy x.sv c.res.length=0:=dX e;unfold fy at m;split at m
    ·exact absurd m (by decide)
    ·rename_i B;have:kJ x.sv.len x.sv.bef x.sv.aft=true:=(by simpa using B);unfold kJ at this;have:=fI this;split at m
     ·exact absurd m (by decide)
     ·omega
  ·have q:=h.aps a ha;have l:=q.sv;have r:a.sv.toNat<c.svs.length:=(by omega);refine⟨q.lo,q.hi,q.fr,q.to,q.meas,⟨l.1,?_⟩,q.who.trans ?_⟩
   ·show a.sv<((c.svs++[x.sv]).length:Nat);rw[aQ];omega
   ·show _=((c.svs++[x.sv]).getD a.sv.toNat sv0).roles.length;rw[dc,dc,dO r]
 split
 ·unfold BC;split
  ·exact h
  split
  ·exact h
  split
  ·exact h
  ·exact h
 split
 ·unfold kh;split
  ·exact h
  split
  ·exact h
  split
  ·exact h
  rename_i E _ F;obtain⟨H,I⟩:=rB E;have r:x.n.toNat<c.svs.length:=(by omega);have G:c.svs.getD x.n.toNat sv0∈c.svs:=(by rw[dc,ay r];exact List.getElem_mem r);obtain⟨t,u⟩:=xD (dX F) (h.svs _ G).1 ⟨H,I⟩;generalize (fA c (-1) (kQ c x.n) x.sday x.smin x.swho).1=p at t u;have o: ∀(j:Nat) (b:Ap),c.aps[j]? =some b->NC p b:=fun j b f=>u j b (by omega) f (h.aps b (aM f));refine⟨h.svs,fun a ha=> ?_,fun i j a b k hi d=> ?_⟩
  ·rcases cg.1 ha with ha|ha
   ·exact h.aps a ha
   ·cases da.1 ha;exact t
  ·replace hi:(c.aps++[p])[i]? =some a:=hi;replace d:(c.aps++[p])[j]? =some b:=d;by_cases C:i<c.aps.length
   ·rw[dO C]at hi;by_cases w:j<c.aps.length
    ·rw[dO w]at d;exact h.nc i j a b k hi d
    ·have:=(aF.1 d).1;rw[aQ,dZ]at this;rw[dE (by omega),show j-c.aps.length=0 by omega]at d;cases d;exact(o i a hi).symm
   ·have:=(aF.1 hi).1;rw[aQ,dZ]at this;rw[dE (by omega),show i-c.aps.length=0 by omega]at hi;cases hi;by_cases w:j<c.aps.length
    ·rw[dO w]at d;exact o j b d
    ·have:=(aF.1 d).1;rw[aQ,dZ]at this;omega
 split
 ·exact h.change _ _ fun a ha _ y _=>⟨(h.aps a (aM ha)).settle 2,fun j b d f=>(h.nc _ _ a b (Ne.symm d) ha f).settle y 2⟩
 split
 ·exact h.change _ _ fun a ha _ y _=>⟨(h.aps a (aM ha)).settle 3,fun j b d f=>(h.nc _ _ a b (Ne.symm d) ha f).settle y 3⟩
 split
 ·refine h.change _ _ fun a ha J _ D=> ?_;have q:=h.aps a (aM ha);obtain⟨t,u⟩:=xD D q.meas q.sv;exact⟨t,fun j b d f=>u j b (by omega) f (h.aps b (aM f))⟩
 split
 ·unfold BB;split
  ·exact h
  refine⟨h.svs,fun a ha=> ?_,fun i j a b k hi d=> ?_⟩
  ·obtain⟨v,g,rfl⟩:=dQ.1 ha;exact(h.aps v g).tick _
  ·replace hi:(c.aps.map (iB x.days))[i]? =some a:=hi;replace d:(c.aps.map (iB x.days))[j]? =some b:=d;rw[aZ]at hi d;obtain⟨v,g,rfl⟩:=dU.1 hi;obtain⟨A,z,rfl⟩:=dU.1 d;exact(((h.nc i j v A k g z).tick _).symm.tick _).symm
 ·exact h
theorem E4: ∀(l:List Cm) (c:Co),CI c->CI (gy c l).2
 |[],_,h=>h
 |x::l,_,h=>E4 l _ (Qc h x)
theorem Pi:CI co0:=⟨fun s c=>absurd c List.not_mem_nil,fun a ha=>absurd ha List.not_mem_nil,fun i j a b _ hi _=>by simp[co0]at hi⟩
theorem Qd {B:Nat}{w:World}{av:Value}{b:List (Ap×Value)}(h:w.ownsRow B 45 11 av b.length (apF b))(m: ∀q∈b,dH w q.2 q.1.who){j:Nat}(l:j<b.length): ∃(a:Ap) (p:Option Addr) (c g d:Nat),b[j]? =some (a,.slice p a.who.length c)/\av= .slice (some (ae g 0)) b.length d/\w.rangeAt g (j*11) (apC (a,.slice p a.who.length c)).toList/\dH w (.slice p a.who.length c) a.who:=by
 obtain⟨⟨a,v⟩,e⟩: ∃p,b[j]? =some p:=⟨b[j],ay l⟩
 have ha:=m _ (aM e);obtain⟨p,c,f,_,_⟩:=id ha;dsimp only at f ha;subst f;obtain⟨g,d,i,_,k⟩:=iD o7 h rfl e;exact⟨a,p,c,g,d,e,i,k,ha⟩
theorem NQ {w:World}{v:Value}{l:List Int}(h:dH w v l):l.length<9223372036854775808:=by
 obtain⟨_,_,_,h,_⟩:=h;exact h
theorem NR {w:World}{p:Option Addr}{n c:Nat}{l:List Int}(h:dH w (.slice p n c) l){j:Nat}{x:Int}(b:l[j]? =some x): ∃g o:Nat,p=some ⟨g,o,none⟩/\w.cell? (ae g (o+j))=some (ag x):=by
 obtain⟨_,_,e,_,h⟩:=h;injection e with a;subst a;exact h j x b
theorem xE {B:Nat}{w:World}{e:TypeId}{m:Nat}{v:Value}{n:Nat}{xs:List Value}(h:w.ownsRow B e m v n xs):n<=9223372036854775807:=by
 rcases h.2 with⟨_,e⟩|⟨_,_,_,_,_,_,b,a,_⟩
 ·omega
 ·unfold maxLen at a;omega
section
def oE (a b:Int):Ex:=⟨3,a,b,[],[]⟩
def fM (a b:Int):M:=fun i=>(decide (a<=(i:Int))&&decide ((i:Int)<b))&&decide (i<1440)
def oL (a b:Int):List Ru:=[([97],oE a b)]
theorem L1 {a b:Int}:gh (oL a b) ([97],oE a b)=[]:=by
 have:nms (oE a b)=[]:=by simp[oE,lX,jI]
 unfold gh;dsimp only;rw[this];rfl
theorem Pj {a b:Int}:iO (oL a b)=fun _=>[]:=by
 funext i;match i with
 |0=>exact(qU rfl).trans (by rw[L1];rfl)
 |i+1=>rfl
section
variable {a b:Int} (h:0<=a/\a<b/\b<=1440)
 include h
theorem NT:gg (oL a b)=(0,0):=by
 have c:(shapeP (oE a b) 1 0).1=0:=by
  have:aloneP (oE a b)=0:=(by simp[aloneP,oE,kidsP,rangeP,h]);rw[kG,ax (by decide),ax (by simp[this])];rfl
 unfold gg oL jO ruleP;rw[c];rfl
theorem GN:dx (oL a b)=(0,0):=by
 refine FM (by rw[NT h]) ?_ ?_ ?_
 ·intro i hi;match i,hi with
  |0,_=>rfl
  |i+1,hi=>exact absurd hi (by show¬(i+1<1);omega)
 ·intro i hi;match i,hi with
  |0,_=>show decide (-1∈gh (oL a b) ([97],oE a b))=false;rw[L1];decide
  |i+1,hi=>exact absurd hi (by show¬(i+1<1);omega)
 ·intro i hi;unfold lk3;rw[Pj];match i,hi with
  |0,_=>rfl
  |i+1,hi=>exact absurd hi (by show¬(i+1<1);omega)
theorem L2:ir (oL a b)=(0,0):=by
 have c:stdE (oE a b)=true:=by rw[sS];rfl
 have c0:(fT (oL a b)).getD 0 []=[⟨1,0,0,0,rs (mnE (oE a b)) 1440⟩]:=by rw[mV (u:=([97],oE a b)) rfl,oY c]
 have m0:gH (oL a b) 0=(1,1):=by
  rw[vK (by rw[GN h]) (by show 0<1;decide)];unfold mz;rw[c0];rfl
 unfold ir;rw[GN h,ax (by decide)]
 have:j8 (gH (oL a b)) (oL a b).length 0= -1:=by
  show j8 (gH (oL a b)) 1 0= -1;unfold j8;rw[m0,ax (by decide)];rfl
 rw[this,ax (by decide)]
theorem Pk (c:Int->Bool)(day:Int):gL (oL a b) c day 0=fM a b:=by
 rw[oX (by rw[GN h]) (u:=([97],oE a b)) rfl,jE];rfl
end
end
def aS:List UInt8:=[114,117,108,101,32,97,32,61,32,48,57,58,48,48,45,49,55,58,48,48,59]
theorem Pl:kY aS=(0,oL 540 1020):=by kernel_rfl
theorem Pm:iE aS=(0,oL 540 1020):=by
 unfold iE;rw[Pl,ax (by decide),L2 (by decide)]
def lm:Sv:=⟨60,0,0,[[0]]⟩
def aC:List Cm:=[⟨1,0,0,0,aS,[],sv0,0,0,[]⟩,⟨2,0,0,0,[],[97],sv0,0,0,[]⟩,⟨3,0,0,0,[],[],lm,0,0,[]⟩,⟨4,0,7,2,[],[],sv0,0,0,[]⟩,⟨5,0,0,0,[],[],sv0,7,540,[0]⟩]
def dA (aps:List Ap)(k:List Vx.Kp)(n:Int):Dk:=⟨oL 540 1020,[[97]],[lm],aps,[1],1,k,n⟩
theorem GO (k:List Vx.Kp)(n day:Int)(j:0<=day)(l:day<146097):jg (eZ (oL 540 1020)) k n 1 0 day=if ma k 1 0 day=true then⟨(k.getD (fN 0 day k 0).toNat k0).m,fw k (fN 0 day k 0)++[k.getD (fN 0 day k 0).toNat k0],n,0,0⟩ else⟨fM 540 1020,qp (fw k (fN 0 day k 0)++[⟨0,day,1,fM 540 1020⟩]),IntKind.i64.wrap (n+1),0,0⟩:=by
 obtain⟨g,f⟩:=Db (L2 (a:=540) (b:=1020) (by decide)) (i:=0) (by decide) j l;rw[Pk (by decide)]at f;have d: ¬(je (eZ (oL 540 1020)) 0 day).1≠0:=fun c=>c g;have e:oT (eZ (oL 540 1020)) 0 day=fM 540 1020:=f;unfold jg;rw[ax d,e]
theorem Ac (aps:List Ap)(k:List Vx.Kp)(n day:Int):fo (dA aps k n) 0 day=((jg (eZ (oL 540 1020)) k n 1 0 day).m,dA aps (jg (eZ (oL 540 1020)) k n 1 0 day).l (jg (eZ (oL 540 1020)) k n 1 0 day).n):=rfl
def kA (day:Int):Vx.Kp:=⟨0,day,1,fM 540 1020⟩
theorem a_7:fo (dA [] [] 0) 0 7=(fM 540 1020,dA [] [kA 7] 1):=by
 rw[Ac,GO _ _ _ (by decide) (by decide)];rfl
theorem a_8:fo (dA [] [kA 7] 1) 0 8=(fM 540 1020,dA [] [kA 7,kA 8] 2):=by
 rw[Ac,GO _ _ _ (by decide) (by decide)];rfl
theorem QK:fo (dA [] [kA 7,kA 8] 2) 0 7=(fM 540 1020,dA [] [kA 8,kA 7] 2):=by
 rw[Ac,GO _ _ _ (by decide) (by decide)];rfl
def mA:M:=rT (fM 540 1020) (inl [])
theorem Qe:iR lm 7 2 0 (dA [] [] 0)=([[mA],[mA]],dA [] [kA 7,kA 8] 2):=by
 have f7:iA (dA [] [] 0) ((0:Nat):Int) (7+((0:Nat):Int)) (-1)=(mA,dA [] [kA 7] 1):=by
  unfold iA;show(rT (fo (dA [] [] 0) 0 7).1 _,(fo (dA [] [] 0) 0 7).2)=_;rw[a_7];rfl
 have f8:iA (dA [] [kA 7] 1) ((0:Nat):Int) (7+((1:Nat):Int)) (-1)=(mA,dA [] [kA 7,kA 8] 2):=by
  unfold iA;show(rT (fo (dA [] [kA 7] 1) 0 8).1 _,(fo (dA [] [kA 7] 1) 0 8).2)=_;rw[a_8];rfl
 have a:gj lm (7+((0:Nat):Int)) 1 0 (dA [] [] 0)=([mA],dA [] [kA 7] 1):=by
  unfold gj;rw[aB (by decide),f7];rfl
 have b:gj lm (7+((1:Nat):Int)) 1 0 (dA [] [kA 7] 1)=([mA],dA [] [kA 7,kA 8] 2):=by
  unfold gj;rw[aB (by decide),f8];rfl
 have c:iR lm 7 1 1 (dA [] [kA 7] 1)=([[mA]],dA [] [kA 7,kA 8] 2):=by
  show((gj lm (7+((1:Nat):Int)) 1 0 (dA [] [kA 7] 1)).1::[],(gj lm (7+((1:Nat):Int)) 1 0 (dA [] [kA 7] 1)).2)=_;rw[b]
 show((gj lm (7+((0:Nat):Int)) 1 0 (dA [] [] 0)).1::(iR lm 7 1 1 (gj lm (7+((0:Nat):Int)) 1 0 (dA [] [] 0)).2).1,(iR lm 7 1 1 (gj lm (7+((0:Nat):Int)) 1 0 (dA [] [] 0)).2).2)=_;rw[a,c]
theorem NU:mG 60 0 0 [[0]] [mA]=some (540,[0]):=by
 have e:sP 60 [mA] [[0]]=[540]:=by kernel_rfl
 have a:iN 60 [mA] [[0]]=[540]:=by
  unfold iN;rw[e,List.mergeSort_singleton];rfl
 unfold mG;show(iN 60 [mA] [[0]]).findSome? _=_;rw[a];kernel_rfl
theorem Pn:jG (dA [] [] 0) 0 7 2=(⟨0,0,7,540,[0],[]⟩,dA [] [kA 7,kA 8] 2):=by
 have e:gX lm [[mA],[mA]]=⟨0,0,540,[0]⟩:=by
  have a:lO lm [[mA],[mA]]=0:=(by decide)
  have b:lP lm [[mA],[mA]] 0=some (0,540,[0]):=by
   unfold lP;show(match mG 60 0 0 [[0]] [mA] with|some x=>some (0,x.1,x.2)|none=>_)=_;rw[NU]
  unfold gX;rw[ax (by decide),ax (by rw[a];decide),b];rfl
 unfold jG;rw[ax (by decide),ax (by decide)];show(let q:=iR lm 7 2 0 (dA [] [] 0);let f:=gX lm q.1;if f.err≠0 then(noA f.err,q.2) else((⟨0,0,f.day+7,f.min,f.who,[]⟩:An),q.2))=_;rw[Qe];dsimp only;rw[e];rfl
def apA:Ap:=⟨1,10,540,600,0,0,0,60,7,540,[0]⟩
theorem Po:lQ (dA [] [kA 7,kA 8] 2) 0 7 540 [0]=(iZ 0,dA [apA] [kA 8,kA 7] 2):=by
 have eb:kX 7 (-1) 540 600 0 (dA [] [kA 7,kA 8] 2)=(false,dA [] [kA 8,kA 7] 2):=by
  unfold kX iA;rw[QK];have:fk mA 540 600=true:=(by kernel_rfl);show(!fk mA 540 600,_)=_;rw[this];rfl
 have a:fc (dA [] [kA 7,kA 8] 2) (-1) ⟨1,10,0,0,0,0,0,60,0,0,[]⟩ 7 540 [0]=((apA,0),dA [] [kA 8,kA 7] 2):=by
  have c:jq (kX 7 (-1) 540 600) [0] (dA [] [kA 7,kA 8] 2)=(false,dA [] [kA 8,kA 7] 2):=by
   show(if(kX 7 (-1) 540 600 0 (dA [] [kA 7,kA 8] 2)).1=true then _ else jq _ [] (kX 7 (-1) 540 600 0 (dA [] [kA 7,kA 8] 2)).2)=_;rw[eb];rfl
  unfold fc;rw[ax (by decide),ax (by decide),ax (by decide)];show(let b:=jq (kX 7 (-1) 540 600) [0] (dA [] [kA 7,kA 8] 2);_:(Ap×Int)×Dk)=_;rw[c];rfl
 unfold lQ;rw[ax (by decide),ax (by decide)];show(let p:=fc (dA [] [kA 7,kA 8] 2) (-1) ⟨1,10,0,0,0,0,0,60,0,0,[]⟩ 7 540 [0];_:An×Dk)=_;rw[a];rfl
theorem Pp:playP dk0 aC=([noA 0,iZ 0,iZ 0,⟨0,0,7,540,[0],[]⟩,iZ 0],dA [apA] [kA 8,kA 7] 2):=by
 have a:doP dk0 ⟨1,0,0,0,aS,[],sv0,0,0,[]⟩=(noA 0,⟨oL 540 1020,[],[],[],[1],1,[],0⟩):=by
  show oD dk0 (iE aS)=_;rw[Pm]
  have ev:qu dk0 (oL 540 1020)=[1]:=by
   have f:jr dk0.rules (oL 540 1020) (((0:Nat)):Int)=true:=rfl;show [if jr dk0.rules (oL 540 1020) (((0:Nat)):Int)=true\/_ then _ else _]=_;rw[aB (Or.inl f)];rfl
  unfold oD;rw[ax (by decide),ev];rfl
 have b:doP ⟨oL 540 1020,[],[],[],[1],1,[],0⟩ ⟨2,0,0,0,[],[97],sv0,0,0,[]⟩=(iZ 0,⟨oL 540 1020,[[97]],[],[],[1],1,[],0⟩):=rfl;have c:doP ⟨oL 540 1020,[[97]],[],[],[1],1,[],0⟩ ⟨3,0,0,0,[],[],lm,0,0,[]⟩=(iZ 0,dA [] [] 0):=rfl;have d:doP (dA [] [] 0) ⟨4,0,7,2,[],[],sv0,0,0,[]⟩=(⟨0,0,7,540,[0],[]⟩,dA [] [kA 7,kA 8] 2):=Pn;have e:doP (dA [] [kA 7,kA 8] 2) ⟨5,0,0,0,[],[],sv0,7,540,[0]⟩=(iZ 0,dA [apA] [kA 8,kA 7] 2):=Po;unfold aC;simp only[playP,a,b,c,d,e]
end Go.Proofs.YtlkehieagdkgiaaGreatDoor
