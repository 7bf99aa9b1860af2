/- Texts of the proof. -/
import Derived.Test.YtaoljfdfhggbbaaGreatDoorPc44
set_option maxRecDepth 100000
set_option maxHeartbeats 8000000
namespace Go.Proofs.YtaoljfdfhggbbaaGreatDoor
open Go.Proofs.Tryz Go.RowKit Lx Vx Mx Msk
structure AW (S:List Sv)(a:Ap):Prop where
 lo:0<=a.fr
 hi:a.to<=1440
 fr:a.fr=a.min-a.bef
 to:a.to=a.min+a.len+a.aft
 meas:1<=a.len/\0<=a.bef/\0<=a.aft
 sv:0<=a.sv/\a.sv<S.length
 who:a.who.length=(S.getD a.sv.toNat sv0).roles.length
def NC (a b:Ap):Prop:=a.st=3\/b.st=3\/a.day≠b.day\/a.to<=b.fr\/b.to<=a.fr\/ ∀r∈a.who,r∉b.who
theorem NC.symm {a b:Ap}(h:NC a b):NC b a:=by
 rcases h with h|h|h|h|h|h
 ·exact .inr (.inl h)
 ·exact .inl h
 ·exact .inr (.inr (.inl fun e=>h e.symm))
 ·exact .inr (.inr (.inr (.inr (.inl h))))
 ·exact .inr (.inr (.inr (.inl h)))
 ·exact .inr (.inr (.inr (.inr (.inr fun r d c=>h r c d))))
structure CI (c:Co):Prop where
 svs: ∀s∈c.svs,(1<=s.len/\0<=s.bef/\0<=s.aft)/\1<=s.roles.length
 aps: ∀a∈c.aps,AW c.svs a
 nc: ∀(i j:Nat) (a b:Ap),i≠j->c.aps[i]? =some a->c.aps[j]? =some b->NC a b
theorem CE {f:Nat->Bool}{x y:Int}(h:fQ f x y=true){i:Nat}(a:x<=(i:Int))(b:(i:Int)<y):f i=true:=by
 unfold fQ at h;simp only[bG,cg]at h;obtain⟨⟨⟨_,d⟩,_⟩,c⟩:=h;have:=BK c i (by omega);have hi:i<1440:=by omega
 simpa[inl,a,b,hi] using this
theorem sS (r day c:Int){b:Ap}(e:b.st≠3)(f:b.day=day)(g:r∈b.who): ∀(l:List Ap) (i j:Nat),l[j]? =some b->((i+j:Nat):Int)≠c->(b.fr,b.to)∈ie r day c l i
 |[],_,_,h,_=>by simp at h
 |a::l,i,0,h,d=>by
  cases h;unfold ie;rw[aD ⟨by simpa using d,e,f,g⟩];exact bq
 |a::l,i,j+1,h,d=>by
  have:=sS r day c e f g l (i+1) j h (by rw[show i+1+j=i+(j+1) by omega];exact d);unfold ie;split
  ·exact bH _ this
  ·exact this
theorem ww {c:Co}{n:Int}{a:Ap}{day min:Int}{who:List Int}(h:(fL c n a day min who).2=0)(C:1<=a.len/\0<=a.bef/\0<=a.aft)(E:0<=a.sv/\a.sv<c.svs.length):
  AW c.svs (fL c n a day min who).1/\ ∀(j:Nat) (b:Ap),(j:Int)≠n->c.aps[j]? =some b->AW c.svs b->NC (fL c n a day min who).1 b:=by
 unfold fL at h⊢;split at h
 ·exact absurd h (by decide)
 split at h
 ·exact absurd h (by decide)
 split at h
 ·rename_i g;exact absurd h g
 split at h
 ·exact absurd h (by decide)
 rename_i y t g u;rw[ax y,ax t,ax g,ax u]
 have F:who.length=(c.svs.getD a.sv.toNat sv0).roles.length:=by
  have d:j7 who (c.svs.getD a.sv.toNat sv0).roles=0:=dT g;unfold j7 at d;split at d
  ·exact absurd d (by decide)
  ·rename_i e;exact dT e
 refine⟨⟨?_,?_,rfl,rfl,C,E,F⟩,fun j b B A f=> ?_⟩
 ·show 0<=min-a.bef;omega
 ·show min+a.len+a.aft<=1440;omega
 by_cases s:b.st=3
 ·exact .inr (.inl s)
 by_cases e2:day≠b.day
 ·exact .inr (.inr (.inl e2))
 have e2:b.day=day:=(dT e2:day=b.day).symm;by_cases v:min+a.len+a.aft<=b.fr
 ·exact .inr (.inr (.inr (.inl v)))
 by_cases w:b.to<=min-a.bef
 ·exact .inr (.inr (.inr (.inr (.inl w))))
 refine .inr (.inr (.inr (.inr (.inr fun r D l=>u ?_))));refine List.any_eq_true.2 ⟨r,D,?_⟩;cases hh:fQ (fS c r day n) (min-a.bef) (min+a.len+a.aft) with
 |false=>rfl
 |true=>
  exfalso;have z: ¬(min-a.bef<0):=fun e=>t (.inl e);have G:=f.fr;have H:=f.to;have I:=f.meas;have J:=f.lo;have K:=f.hi
  obtain⟨x,m,o,p,q⟩: ∃x:Nat,min-a.bef<=(x:Int)/\(x:Int)<min+a.len+a.aft/\b.fr<=(x:Int)/\(x:Int)<b.to:=by
   by_cases e:min-a.bef<=b.fr
   ·exact⟨b.fr.toNat,by omega,by omega,by omega,by omega⟩
   ·exact⟨(min-a.bef).toNat,by omega,by omega,by omega,by omega⟩
  have i:=CE hh m o;unfold fS pQ at i;simp only[bG,Bool.not_eq_true']at i
  have k:inl (ie r day n c.aps 0) x=true:=by
   unfold inl;exact List.any_eq_true.2 ⟨_,sS r day n s e2 l c.aps 0 j A (by rw[bN];exact B),by simp[p,q];omega⟩
  rw[k]at i;exact absurd i.1.2 (by decide)
theorem AW.settle {S:List Sv}{a:Ap}(h:AW S a)(s:Int):AW S (eB a s):=⟨h.lo,h.hi,h.fr,h.to,h.meas,h.sv,h.who⟩
theorem NC.settle {a b:Ap}(h:NC a b)(c:a.st≠3)(s:Int):NC (eB a s) b:=by
 rcases h with h|h
 ·exact absurd h c
 ·exact .inr h
theorem AW.tick {S:List Sv}{a:Ap}(h:AW S a)(t:Int):AW S (gF t a):=by
 unfold gF;split
 ·exact h
 split
 ·exact h.settle 3
 ·exact⟨h.lo,h.hi,h.fr,h.to,h.meas,h.sv,h.who⟩
theorem NC.tick {a b:Ap}(h:NC a b)(t:Int):NC (gF t a) b:=by
 unfold gF;split
 ·exact h
 split
 ·exact .inl rfl
 ·exact h
theorem CI.set {c:Co}(h:CI c){n:Nat}{p:Ap}(l:AW c.svs p)(k: ∀(j:Nat) (b:Ap),j≠n->c.aps[j]? =some b->NC p b):CI {c with aps:=c.aps.set n p}:=by
 refine⟨h.svs,fun a ha=> ?_,fun i j a b e hi d=> ?_⟩
 ·rcases List.mem_or_eq_of_mem_set ha with ha|rfl
  ·exact h.aps a ha
  ·exact l
 ·replace hi:(c.aps.set n p)[i]? =some a:=hi;replace d:(c.aps.set n p)[j]? =some b:=d;rw[List.getElem?_set]at hi d;by_cases f:n=i
  ·rw[aD f]at hi;rw[ax (by omega)]at d;split at hi
   ·cases hi;exact k j b (by omega) d
   ·cases hi
  ·rw[ax f]at hi;by_cases g:n=j
   ·rw[aD g]at d;split at d
    ·cases d;exact(k i a (by omega) hi).symm
    ·cases d
   ·rw[ax g]at d;exact h.nc i j a b e hi d
theorem CI.change {c:Co}(h:CI c)(n:Int)(f:Ap->Ap×Int)(i: ∀a,c.aps[n.toNat]? =some a->0<=n->a.st≠3->(f a).2=0->AW c.svs (f a).1/\ ∀(j:Nat) (b:Ap),j≠n.toNat->c.aps[j]? =some b->NC (f a).1 b):CI (jT c n f).2:=by
 unfold jT;split
 ·exact h
 split
 ·exact h
 rename_i d g;obtain⟨l,p⟩:=ui fun e=>d (.inl e);have k:n.toNat<c.aps.length:=by omega
 have e:c.aps[n.toNat]? =some (c.aps.getD n.toNat ap0):=by rw[dJ,az k];rfl
 obtain⟨m,o⟩:=i _ e l (fun e=>d (.inr e)) (dT g);exact h.set m o
theorem O9 {c:Co}(h:CI c)(x:Cm):CI (doS c x).2:=by
 unfold doS;split
 ·unfold IJ;split
  ·exact h
  ·exact⟨h.svs,h.aps,h.nc⟩
 split
 ·unfold N9;split
  ·exact h
  split
  ·exact h
  ·exact⟨h.svs,h.aps,h.nc⟩
 split
 ·unfold Oa;split
  ·exact h
  split
  ·exact h
  rename_i _ e;refine⟨fun s l=> ?_,fun a ha=> ?_,h.nc⟩
  ·rcases bU.1 l with l|l
   ·exact h.svs s l
   ·cases bT.1 l;have m:fq x.sv c.res.length=0:=dT e;unfold fq at m;split at m
    ·exact absurd m (by decide)
    ·rename_i e2;have:kI x.sv.len x.sv.bef x.sv.aft=true:=(by simpa using e2);unfold kI at this;have:=fE this;split at m
     ·exact absurd m (by decide)
     ·omega
  ·have q:=h.aps a ha;have l:=q.sv;have r:a.sv.toNat<c.svs.length:=(by omega);refine⟨q.lo,q.hi,q.fr,q.to,q.meas,⟨l.1,?_⟩,q.who.trans ?_⟩
   ·show a.sv<((c.svs++[x.sv]).length:Nat);rw[aP];omega
   ·show _=((c.svs++[x.sv]).getD a.sv.toNat sv0).roles.length;rw[dJ,dJ,du r]
 split
 ·unfold KY;split
  ·exact h
  split
  ·exact h
  split
  ·exact h
  ·exact h
 split
 ·unfold iu;split
  ·exact h
  split
  ·exact h
  split
  ·exact h
  rename_i D _ E;obtain⟨G,H⟩:=ui D;have r:x.n.toNat<c.svs.length:=(by omega);have F:c.svs.getD x.n.toNat sv0∈c.svs:=(by rw[dJ,az r];exact List.getElem_mem r);obtain⟨t,u⟩:=ww (dT E) (h.svs _ F).1 ⟨G,H⟩;generalize (fL c (-1) (jM c x.n) x.sday x.smin x.swho).1=p at t u;have o: ∀(j:Nat) (b:Ap),c.aps[j]? =some b->NC p b:=fun j b f=>u j b (by omega) f (h.aps b (aM f));refine⟨h.svs,fun a ha=> ?_,fun i j a b k hi d=> ?_⟩
  ·rcases bU.1 ha with ha|ha
   ·exact h.aps a ha
   ·cases bT.1 ha;exact t
  ·replace hi:(c.aps++[p])[i]? =some a:=hi;replace d:(c.aps++[p])[j]? =some b:=d;by_cases B:i<c.aps.length
   ·rw[du B]at hi;by_cases w:j<c.aps.length
    ·rw[du w]at d;exact h.nc i j a b k hi d
    ·have:=(aG.1 d).1;rw[aP,dP]at this;rw[dj (by omega),show j-c.aps.length=0 by omega]at d;cases d;exact(o i a hi).symm
   ·have:=(aG.1 hi).1;rw[aP,dP]at this;rw[dj (by omega),show i-c.aps.length=0 by omega]at hi;cases hi;by_cases w:j<c.aps.length
    ·rw[du w]at d;exact o j b d
    ·have:=(aG.1 d).1;rw[aP,dP]at this;omega
 split
 ·exact h.change _ _ fun a ha _ y _=>⟨(h.aps a (aM ha)).settle 2,fun j b d f=>(h.nc _ _ a b (Ne.symm d) ha f).settle y 2⟩
 split
 ·exact h.change _ _ fun a ha _ y _=>⟨(h.aps a (aM ha)).settle 3,fun j b d f=>(h.nc _ _ a b (Ne.symm d) ha f).settle y 3⟩
 split
 ·refine h.change _ _ fun a ha I _ C=> ?_;have q:=h.aps a (aM ha);obtain⟨t,u⟩:=ww C q.meas q.sv;exact⟨t,fun j b d f=>u j b (by omega) f (h.aps b (aM f))⟩
 split
 ·unfold uY;split
  ·exact h
  refine⟨h.svs,fun a ha=> ?_,fun i j a b k hi d=> ?_⟩
  ·obtain⟨v,g,rfl⟩:=dV.1 ha;exact(h.aps v g).tick _
  ·replace hi:(c.aps.map (gF x.days))[i]? =some a:=hi;replace d:(c.aps.map (gF x.days))[j]? =some b:=d;rw[bg]at hi d;obtain⟨v,g,rfl⟩:=dR.1 hi;obtain⟨A,z,rfl⟩:=dR.1 d;exact(((h.nc i j v A k g z).tick _).symm.tick _).symm
 ·exact h
theorem Ef: ∀(l:List Cm) (c:Co),CI c->CI (iY c l).2
 |[],_,h=>h
 |x::l,_,h=>Ef l _ (O9 h x)
theorem Oq:CI co0:=⟨fun s c=>absurd c List.not_mem_nil,fun a ha=>absurd ha List.not_mem_nil,fun i j a b _ hi _=>by simp[co0]at hi⟩
theorem um: ∀(l m:List Cm) (c:Co),iY c (l++m)=((iY c l).1++(iY (iY c l).2 m).1,(iY (iY c l).2 m).2)
 |[],_,_=>rfl
 |x::l,m,c=>by
  show((doS c x).1::(iY (doS c x).2 (l++m)).1,(iY (doS c x).2 (l++m)).2)=_;rw[um l m];rfl
theorem rh: ∀(l:List Cm) (c:Co),(iY c l).1.length=l.length
 |[],_=>rfl
 |x::l,c=>congrArg (· +1) (rh l (doS c x).2)
theorem IS {f g:Nat->Bool}{x y:Int}(h:fQ f x y=true)(b: ∀i,i<1440->f i=true->g i=true):fQ g x y=true:=by
 unfold fQ at h⊢;simp only[bG]at h⊢;refine⟨h.1,JK fun i hi=> ?_⟩;have:=BK h.2 i hi;by_cases a:i<1440
 ·cases hf:f i with
  |true=>simp[b i a hf]
  |false=>
   have t:inl [(x,y)] i=false:=(by simpa[hf,a] using this);simp[t]
 ·simp[a]
structure Sm (c c2:Co):Prop where
 rules:c2.rules=c.rules
 res:c2.res=c.res
 svs:c2.svs=c.svs
theorem Sm.mean {c a:Co}(h:Sm c a)(r day:Int):mS a r day=mS c r day:=by unfold mS;rw[h.rules,h.res]
theorem Sm.new {c a:Co}(h:Sm c a)(n:Int):jM a n=jM c n:=by unfold jM;rw[h.svs]
theorem MO {c f:Co}(h:Sm c f){n:Int}{a:Ap}{day min:Int}{who:List Int}(b:(fL c n a day min who).2=0)(o: ∀r i,inl (ie r day n f.aps 0) i=true->inl (ie r day n c.aps 0) i=true):(fL f n a day min who).2=0:=by
 unfold fL at b⊢;rw[h.svs];split at b
 ·exact absurd b (by decide)
 split at b
 ·exact absurd b (by decide)
 split at b
 ·rename_i g;exact absurd b g
 split at b
 ·exact absurd b (by decide)
 rename_i j k g l;rw[ax j,ax k,ax g,ax];intro e;obtain⟨r,m,e⟩:=List.any_eq_true.1 e;refine l (List.any_eq_true.2 ⟨r,m,?_⟩);cases hh:fQ (fS c r day n) (min-a.bef) (min+a.len+a.aft) with
 |false=>rfl
 |true=>
  have:fQ (fS f r day n) (min-a.bef) (min+a.len+a.aft)=true:=IS hh fun i hi d=>by
   unfold fS pQ at d⊢;rw[h.mean];simp only[bG,Bool.not_eq_true']at d⊢;refine⟨⟨d.1.1,?_⟩,d.2⟩;cases hx:inl (ie r day n f.aps 0) i with
   |false=>rfl
   |true=>rw[o r i hx]at d;exact absurd d.1.2 (by decide)
  rw[this]at e;exact absurd e (by decide)
theorem MP {c:Co}{n:Int}{a p:Ap}{day min:Int}{who:List Int}{j:Nat}(l:c.aps[j]? =some p)(m:(j:Int)≠n)(e:p.st≠3)(o:p.day=day/\p.who=who/\p.fr=min-a.bef/\p.to=min+a.len+a.aft)(v:1<=a.len/\0<=a.bef/\0<=a.aft)(w:1<=who.length):(fL c n a day min who).2≠0:=by
 intro b;unfold fL at b;split at b
 ·exact absurd b (by decide)
 split at b
 ·exact absurd b (by decide)
 split at b
 ·rename_i e;exact absurd b e
 split at b
 ·exact absurd b (by decide)
 rename_i t u _ k;obtain⟨r,g⟩:=List.exists_mem_of_length_pos (by omega:0<who.length);refine k (List.any_eq_true.2 ⟨r,g,?_⟩);cases hh:fQ (fS c r day n) (min-a.bef) (min+a.len+a.aft) with
 |false=>rfl
 |true=>
  exfalso;obtain⟨q,s,x,y⟩:=o;have d:=CE hh (i:=(min-a.bef).toNat) (by omega) (by omega);unfold fS pQ at d;simp only[bG,Bool.not_eq_true']at d
  have f:inl (ie r day n c.aps 0) (min-a.bef).toNat=true:=by
   unfold inl;refine List.any_eq_true.2 ⟨_,sS r day n e q (by rw[s];exact g) c.aps 0 j l (by rw[bN];exact m),?_⟩;simp only[bG,cg];omega
  rw[f]at d;exact absurd d.1.2 (by decide)
theorem Eg {r day c:Int}{q:Int×Int}: ∀(l:List Ap) (i:Nat),q∈ie r day c l i-> ∃(j:Nat) (b:Ap),l[j]? =some b/\((i+j:Nat):Int)≠c/\b.st≠3/\b.day=day/\r∈b.who/\q=(b.fr,b.to)
 |[],_,h=>absurd h List.not_mem_nil
 |a::l,i,h=>by
  unfold ie at h
  have g:q∈ie r day c l (i+1)-> ∃(j:Nat) (b:Ap),(a::l)[j]? =some b/\((i+j:Nat):Int)≠c/\b.st≠3/\b.day=day/\r∈b.who/\q=(b.fr,b.to):=fun h=>by
   obtain⟨j,b,e,f,k⟩:=Eg l (i+1) h;exact⟨j+1,b,e,by rw[show i+(j+1)=i+1+j by omega];exact f,k⟩
  split at h
  ·rename_i d;rcases bv.1 h with rfl|h
   ·exact⟨0,a,rfl,d.1,d.2.1,d.2.2.1,d.2.2.2,rfl⟩
   ·exact g h
  ·exact g h
theorem KG {r day:Int}{l c:List Ap}(h: ∀(j:Nat) (b:Ap),c[j]? =some b->b.st≠3-> ∃a,l[j]? =some a/\a.st≠3/\a.day=b.day/\a.who=b.who/\a.fr=b.fr/\a.to=b.to)(i:Nat)(hi:inl (ie r day (-1) c 0) i=true):inl (ie r day (-1) l 0) i=true:=by
 unfold inl at hi⊢;obtain⟨q,u,e⟩:=List.any_eq_true.1 hi;obtain⟨j,b,o,_,p,s,t,rfl⟩:=Eg c 0 u;obtain⟨a,d,f,g,k,m,n⟩:=h j b o p;refine List.any_eq_true.2 ⟨(a.fr,a.to),sS r day (-1) f (g.trans s) (by rw[k];exact t) l 0 j d (by omega),?_⟩;rw[m,n];exact e
structure wx (c:Co)(n day min:Int)(who:List Int)(p:Ap):Prop where
 is:iu c n day min who=(iW c.aps.length,{c with aps:=c.aps++[p]})
 pl:(fL c (-1) (jM c n) day min who).2=0
 nn:isN n c.svs.length=true
 st:p.st=1/\p.left=10
 at_:p.day=day/\p.who=who/\p.fr=min-(jM c n).bef/\p.to=min+(jM c n).len+(jM c n).aft
 meas:1<=(jM c n).len/\0<=(jM c n).bef/\0<=(jM c n).aft
 wl:1<=who.length
theorem CF {c:Co}{n:Int}{a:Ap}{day min:Int}{who:List Int}(b:(fL c n a day min who).2=0):(fL c n a day min who).1={a with fr:=min-a.bef,to:=min+a.len+a.aft,day:=day,min:=min,who:=who}:=by
 unfold fL at b⊢;split at b
 ·exact absurd b (by decide)
 split at b
 ·exact absurd b (by decide)
 split at b
 ·rename_i d;exact absurd b d
 split at b
 ·exact absurd b (by decide)
 rename_i e f d g;rw[ax e,ax f,ax d,ax g]
theorem MR {c:Co}(m:CI c){n day min:Int}{who:List Int}(h:(iu c n day min who).1.err=0): ∃p,wx c n day min who p:=by
 refine⟨(fL c (-1) (jM c n) day min who).1,?_⟩
 have e: ¬isN n c.svs.length=false/\(fL c (-1) (jM c n) day min who).2=0/\iu c n day min who=(iW c.aps.length,{c with aps:=c.aps++[(fL c (-1) (jM c n) day min who).1]}):=by
  unfold iu at h⊢;split at h
  ·exact absurd (show(6:Int)=0 from h) (by decide)
  split at h
  ·exact absurd (show(5:Int)=0 from h) (by decide)
  split at h
  ·rename_i b;exact absurd h b
  rename_i i l b;rw[ax i,ax l,ax b];exact⟨i,dT b,rfl⟩
 obtain⟨f,e2,g⟩:=e;obtain⟨r,s⟩:=ui f;have j:n.toNat<c.svs.length:=by omega
 have o:c.svs.getD n.toNat sv0∈c.svs:=by rw[dJ,az j];exact List.getElem_mem j
 have d:=m.svs _ o;obtain⟨t,_⟩:=ww (a:=jM c n) e2 d.1 ⟨r,s⟩;have q:=t.who;rw[CF e2]at q⊢;have k:who.length=(c.svs.getD n.toNat sv0).roles.length:=q;rw[CF e2]at g;exact⟨g,e2,by simpa using f,⟨rfl,rfl⟩,⟨rfl,rfl,rfl,rfl⟩,d.1,by rw[k];exact d.2⟩
theorem KH {a:Co}{n day min:Int}{who:List Int}(h:(fL a (-1) (jM a n) day min who).2≠0):(iu a n day min who).1.err≠0:=by
 unfold iu;rw[aD h];split
 ·exact(by decide:(6:Int)≠0)
 split
 ·exact(by decide:(5:Int)≠0)
 ·exact h
theorem FU {c a:Co}{n day min:Int}{who:List Int}{p:Ap}(d:wx c n day min who p)(b:Sm c a)(f: ∀r i,inl (ie r day (-1) a.aps 0) i=true->inl (ie r day (-1) c.aps 0) i=true):(iu a n day min who).1.err=5\/(iu a n day min who).1.err=0:=by
 unfold iu;rw[b.svs,ax (by rw[d.nn];decide),b.new,ax (c:=(fL a (-1) (jM c n) day min who).2≠0) fun e=>e (MO b d.pl f)];split
 ·exact .inl rfl
 ·exact .inr rfl
section
theorem KI {c:Co}{n day min:Int}{who:List Int}{j:Nat}{q:Ap}(h:c.aps[j]? =some q):(iu c n day min who).2.aps[j]? =some q:=by
 unfold iu;split
 ·exact h
 split
 ·exact h
 split
 ·exact h
 exact(du (aG.1 h).1).trans h
theorem Ot {L:List Ap}{q:Ap}{f:Ap->Ap}(i: ∀a,(f a).st≠3->a.st≠3/\a.day=(f a).day/\a.who=(f a).who/\a.fr=(f a).fr/\a.to=(f a).to)(l:q.st=3)(j:Nat)(b:Ap)(d:(L.map f++[q])[j]? =some b)(g:b.st≠3): ∃c,L[j]? =some c/\c.st≠3/\c.day=b.day/\c.who=b.who/\c.fr=b.fr/\c.to=b.to:=by
 by_cases k:j<L.length
 ·rw[du (by simpa using k),bg]at d;obtain⟨c,e,rfl⟩:=dR.1 d;exact⟨c,e,i c g⟩
 ·have h:=(aG.1 d).1;rw[aP,ba,dP]at h;rw[dj (by simp;omega),show j-(L.map f).length=0 by simp;omega]at d;cases d;exact absurd l g
theorem yX {α:Type}(l:List α)(q:α){n:Nat}(h:l.length=n):(l++[q])[n]? =some q:=by subst h;simp
section
variable {c:Co} {n day min:Int} {who:List Int} {p:Ap}
theorem FV (k:wx c n day min who p){f:Ap->Ap}(g: ∀a,(f a).st≠3->a.st≠3/\a.day=(f a).day/\a.who=(f a).who/\a.fr=(f a).fr/\a.to=(f a).to){q:Ap}(l:q.st=3):(iu {c with aps:=c.aps.map f++[q]} n day min who).1.err=5\/(iu {c with aps:=c.aps.map f++[q]} n day min who).1.err=0:=
 FU k ⟨rfl,rfl,rfl⟩ fun _ i hi=>KG (fun j b e d=>Ot g l j b e d) i hi
theorem IT (a:wx c n day min who p)(L:List Ap){q:Ap}(g:L.length=c.aps.length)(i:q.st≠3/\q.day=p.day/\q.who=p.who/\q.fr=p.fr/\q.to=p.to):(iu {c with aps:=L++[q]} n day min who).1.err≠0:=by
 obtain⟨b,d,e,f⟩:=a.at_;obtain⟨k,l,m,o,r⟩:=i;exact KH (MP (j:=c.aps.length) (yX L q g) (by omega) k ⟨l.trans b,m.trans d,o.trans e,r.trans f⟩ a.meas a.wl)
theorem IU (c:Co)(q:Ap){t:Int}(a:0<=t/\t<=1000):uY {c with aps:=c.aps++[q]} t=(noA 0,{c with aps:=c.aps.map (gF t)++[gF t q]}):=by
 unfold uY;rw[ax (by omega),dN];rfl
theorem oV (b:wx c n day min who p)(s:Int):jT (iu c n day min who).2 (c.aps.length:Int) (fun a=>(eB a s,0))=(noA 0,{c with aps:=c.aps++[eB p s]}):=by
 rw[b.is];unfold jT;have e:(c.aps++[p]).getD c.aps.length ap0=p:=by rw[dJ,yX _ _ rfl];rfl
 dsimp only;rw[cj,e,ax,ax (by simp)]
 ·simp
 ·rintro(g|g)
  ·simp[isN]at g;omega
  ·rw[b.st.1]at g;exact absurd g (by decide)
theorem Dr (b:wx c n day min who p):(iu (jT (iu c n day min who).2 (c.aps.length:Int) (fun a=>(eB a 3,0))).2 n day min who).1.err=5\/(iu (jT (iu c n day min who).2 (c.aps.length:Int) (fun a=>(eB a 3,0))).2 n day min who).1.err=0:=by
 have:=FV b (f:=id) (fun a h=>⟨h,rfl,rfl,rfl,rfl⟩) (q:=eB p 3) rfl;rw[List.map_id]at this;rwa[oV b]
theorem CG (b:wx c n day min who p){t:Int}(e:0<=t/\t<=1000):(∃q,(iu (uY (jT (iu c n day min who).2 (c.aps.length:Int) (fun a=>(eB a 2,0))).2 t).2 n day min who).2.aps[c.aps.length]? =some q/\q.st=2)/\(iu (uY (jT (iu c n day min who).2 (c.aps.length:Int) (fun a=>(eB a 2,0))).2 t).2 n day min who).1.err≠0:=by
 rw[oV b,IU c _ e,show gF t (eB p 2)=eB p 2 from rfl];have d:(c.aps.map (gF t)).length=c.aps.length:=ba ..;exact⟨⟨_,KI (yX _ _ d),rfl⟩,IT b _ d ⟨by show(2:Int)≠3;decide,rfl,rfl,rfl,rfl⟩⟩
end
end
def cH (n x y:Int)(who:List Int):Cm:=⟨5,n,0,0,[],[],sv0,x,y,who⟩
def cT (t:Int):Cm:=⟨9,0,0,t,[],[],sv0,0,0,[]⟩
def cX (k n:Int):Cm:=⟨k,n,0,0,[],[],sv0,0,0,[]⟩
theorem uo (l:List Cm):(playP dk0 l).1.length=l.length:=by rw[(Cx l).1,rh]
theorem IV (l:List Cm):(playP dk0 l).2.aps=(iY co0 l).2.aps:=congrArg Co.aps (Cx l).2.1
theorem qL (l b:List Cm){j:Nat}{a:An}(h:(iY (iY co0 l).2 b).1[j]? =some a):(playP dk0 (l++b)).1[l.length+j]? =some a:=by
 rw[(Cx _).1,um,dj (by rw[rh];omega),rh,Nat.add_sub_cancel_left];exact h
theorem KJ (l a:List Cm):(playP dk0 (l++a)).2.aps=(iY (iY co0 l).2 a).2.aps:=by rw[IV,um]
theorem Pa {B:Nat}{w:World}{av:Value}{b:List (Ap×Value)}(h:w.ownsRow B 45 11 av b.length (apF b))(m: ∀q∈b,dS w q.2 q.1.who){j:Nat}(l:j<b.length): ∃(a:Ap) (p:Option Addr) (c g d:Nat),b[j]? =some (a,.slice p a.who.length c)/\av= .slice (some (ae g 0)) b.length d/\w.rangeAt g (j*11) (apC (a,.slice p a.who.length c)).toList/\dS w (.slice p a.who.length c) a.who:=by
 obtain⟨⟨a,v⟩,e⟩: ∃p,b[j]? =some p:=⟨b[j],az l⟩
 have ha:=m _ (aM e);obtain⟨p,c,f,_,_⟩:=id ha;dsimp only at f ha;subst f;obtain⟨g,d,i,_,k⟩:=jQ sM h rfl e;exact⟨a,p,c,g,d,e,i,k,ha⟩
theorem Ou {w:World}{sl:Value}{who:List Int}(h:dS w sl who)(a: ∀p n k,sl= .slice p n k->n<=k)(n x y:Int):lx w (cH n x y who) (af) sl:=⟨yW,h,dw _,dw _,a⟩
theorem yY {w b:World}{c d:List (Cm×Value×Value)}(f:DoB w.heap.size w c)(g: ∀q∈d,DoB w.heap.size w [q])(e:aq w b):DoB b.heap.size b (c++d):=fun q a=>by
 have h:Rob (fun k=>k<w.heap.size) (fun u=>lx u q.1 q.2.1 q.2.2) w:=(bU.1 a).elim (f q) fun a=>g q a q (bT.2 rfl);exact(h.below e).move (aB _) (fun _ _ _=>rfl) fun k _ i=>aT i e.size
theorem ym {w:World}{c:Cm}{b sl:Value}(h: ∀u,(∀k,k<w.heap.size->u.heap[k]? =w.heap[k]?)->lx u c b sl):DoB w.heap.size w [(c,b,sl)]:=fun q d u _ ha=>by
 cases bT.1 d;exact h u fun k a=>ha k a a
theorem Ds (l:List Cm)(n x y:Int)(who:List Int){t:Int}(s:0<=t/\t<=1000): ∃d:An,(playP dk0 (l++[cH n x y who])).1[l.length]? =some d/\(d.err=0-> ∃(m:Nat) (b1 b2 c1 f:An) (q:Ap),d.num=(m:Int)/\(playP dk0 (l++[cH n x y who,cX 7 m,cH n x y who])).1[l.length+1]? =some b1/\(playP dk0 (l++[cH n x y who,cX 7 m,cH n x y who])).1[l.length+2]? =some b2/\(playP dk0 (l++[cH n x y who,cX 6 m,cT t,cH n x y who])).1[l.length+1]? =some c1/\(playP dk0 (l++[cH n x y who,cX 6 m,cT t,cH n x y who])).1[l.length+3]? =some f/\(playP dk0 (l++[cH n x y who,cX 6 m,cT t,cH n x y who])).2.aps[m]? =some q/\b1.err=0/\(b2.err=5\/b2.err=0)/\c1.err=0/\f.err≠0/\q.st=2):=by
 obtain⟨c,a⟩:=au ((iY co0 l).2);have e:CI c:=by rw[<-a];exact Ef l co0 Oq
 refine⟨_,qL l _ (j:=0) rfl,fun h=> ?_⟩;rw[a]at h⊢;obtain⟨p,b⟩:=MR (n:=n) (day:=x) (min:=y) (who:=who) e h;obtain⟨⟨q,i,k⟩,o⟩:=CG b s;have e7:=oV b 3;have g:=oV b 2;refine⟨c.aps.length,_,_,_,_,q,by show(iu c n x y who).1.num=_;rw[b.is];rfl,qL l _ (j:=1) rfl,qL l _ (j:=2) rfl,qL l _ (j:=1) rfl,qL l _ (j:=3) rfl,by rw[KJ,a];exact i,?_,?_,?_,?_,k⟩
 ·rw[a];exact congrArg (fun r:An×Co=>r.1.err) e7
 ·rw[a];exact Dr b
 ·rw[a];exact congrArg (fun r:An×Co=>r.1.err) g
 ·rw[a];exact o
end Go.Proofs.YtaoljfdfhggbbaaGreatDoor
