/- Texts of the proof. -/
import Derived.Test.YtaoljfdfhggbbaaGreatDoorPc39
set_option maxRecDepth 100000
set_option maxHeartbeats 8000000
namespace Go.Proofs.YtaoljfdfhggbbaaGreatDoor
open Go.Proofs.Tryz Go.RowKit Lx Vx Mx Msk
section
theorem D7 {wk:Int->Bool}{day:Int}{env:List UInt8->Nat->Bool}(c: ∀x (i:Nat),1440<=i->env x i=false): ∀(N:Nat) (e:Ex),SizeOf.sizeOf e<=N-> ∀(i:Nat),1440<=i->ft wk day env e i=false
 |0,e,b,_,_=>by cases e;simp at b
 |N+1,e,b,i,hi=>by
  have d: ∀j,(e.kids.map (ft wk day env)).getD j nev i=false:=fun j=>by
   cases hj:e.kids[j]? with
   |none=>simp[List.getD,hj,nev]
   |some k=>
    have f:=aM hj;have:=D7 (wk:=wk) (day:=day) c N k (by have:=iS f;omega) i hi;simpa[List.getD,bg,hj] using this
  have a:decide (i<1440)=false:=(by simp;omega);rw[jA];unfold mG;split
  ·exact a
  split
  ·simp[a]
  split
  ·split
   ·exact d 0
   ·rfl
  split
  ·split
   ·exact d 0
   ·rfl
  split
  ·simp[a]
  split
  ·simp[a]
  split
  ·simp[a]
  split
  ·unfold shf;simp[a]
  split
  ·exact c _ i hi
  ·rfl
theorem N6 (e:Ex){i:Nat}(hi:1440<=i):mnE e i=false:=D7 (fun _ _ _=>rfl) _ e (aB _) i hi
theorem N7 {f:Nat->Bool}(h: ∀i:Nat,1440<=i->f i=false):spM (rs f 1440)=f:=by
 funext i;unfold spM;by_cases hi:i<1440
 ·have:=(DT f 1440).has i hi;simpa[hi] using this
 ·rw[h i (by omega)];have a:decide (i<1440)=false:=(by simp;omega);simp[a]
section
variable {wk:Int->Bool} {day:Int} {ev:Nat->M×Nat} {l:List In} {num:List UInt8->Int} {env:List UInt8->Nat->Bool} {x:In} {s:Vx.St}
theorem Py (a:x.op=1):dH wk day ev x s=⟨s.k+1,s.S++[spM x.sp],s.n+1⟩:=by simp[dH,a]
theorem Pz (a:x.op=2):dH wk day ev x s=⟨s.k+1,mV unM s.S,s.n+1⟩:=by simp[dH,a]
theorem PA (a:x.op=3):dH wk day ev x s=⟨s.k+1,mV dfM s.S,s.n+1⟩:=by simp[dH,a]
theorem PB (a:x.op=4):dH wk day ev x s=⟨s.k+1,mV boM s.S,s.n+1⟩:=by simp[dH,a]
theorem PC (b:x.op=5):dH wk day ev x s=⟨s.k+1,yF (fun f=>shM f x.a) s.S,s.n+1⟩:=by simp[dH,b]
theorem PD (b:x.op=8):dH wk day ev x s=⟨s.k+1,s.S++[(ev x.a.toNat).1],s.n+1+(ev x.a.toNat).2⟩:=by simp[dH,b]
theorem O3 (b:x.op=6\/x.op=7)(a:onD wk day x=true):dH wk day ev x s=⟨s.k+1,s.S,s.n+1⟩:=by
 unfold dH;rw[ax (by omega),ax (by omega),ax (by omega),ax (by omega),ax (by omega),ax (by omega),aD a]
theorem N8 (b:x.op=6\/x.op=7)(a: ¬onD wk day x=true):dH wk day ev x s=⟨x.to.toNat,s.S++[noM],s.n+1⟩:=by
 unfold dH;rw[ax (by omega),ax (by omega),ax (by omega),ax (by omega),ax (by omega),ax (by omega),ax a]
theorem Ax (i:Up wk day ev l){b a:Nat}{S:List M}{n:Nat}{v:M}(j:l[b]? =some x)(f:x.op=6\/x.op=7)(d:x.to=((b+1+a:Nat):Int))(g: ∃e,runV wk day ev l ⟨b+1,S,n+1⟩=runV wk day ev l ⟨b+1+a,S++[v],e⟩):
  ∃e,runV wk day ev l ⟨b,S,n⟩=runV wk day ev l ⟨b+(a+1),S++[if onD wk day x=true then v else nev],e⟩:=by
 rw[lR i (s:=⟨b,S,n⟩) j,show b+(a+1)=b+1+a by omega];by_cases c:onD wk day x=true
 ·rw[aD c,O3 f c];exact g
 ·rw[ax c,N8 f c,d,cj];exact⟨n+1,rfl⟩
theorem D8 (j:Up wk day ev l): ∀(N:Nat) (e:Ex),SizeOf.sizeOf e<=N->OKE e->(∀x∈nms e,(ev (num x).toNat).1=env x)-> ∀(b:Nat) (S:List M) (n:Nat),j9 l b (bL num e b)-> ∃o,runV wk day ev l ⟨b,S,n⟩=runV wk day ev l ⟨b+(bL num e b).length,S++[ft wk day env e],o⟩
 |0,e,v,_,_,_,_,_,_=>by cases e;simp at v
 |N+1,e,v,h,w,b,S,n,d=>by
  have p: ∀k∈e.kids,∀(b:Nat) (S:List M) (n:Nat),j9 l b (bL num k b)-> ∃o,runV wk day ev l ⟨b,S,n⟩=runV wk day ev l ⟨b+(bL num k b).length,S++[ft wk day env k],o⟩:=fun k c=>D8 j N k (by have:=iS c;omega) (h.kid c) (fun x t=>w x (uQ c t));cases hstd:stdE e with
  |true=>
   rw[oD hstd]at d⊢;rw[lR j (s:=⟨b,S,n⟩) d.one,B5 hstd,Py rfl];refine⟨n+1,?_⟩;rw[N7 (fun i hi=>N6 e hi)];rfl
  |false=>
   rcases nJ h hstd with⟨q,k,c⟩|⟨q,k,c⟩|⟨q,k,c⟩|q|⟨q,k,m,c⟩
   ·have g:k∈e.kids:=(by rw[c];simp)
    have f:ft wk day env e=if wk e.a=true then ft wk day env k else nev:=by
     rw[jA,q,Hz,c];rfl
    rw[ph q (by rw[c];rfl)]at d⊢;have:=Ax j (n:=n) d.one (.inl rfl) rfl (p k g (b+1) S (n+1) d.tail);rw[show onD wk day (⟨6,e.a,0,((b+1+(bL num k (b+1)).length:Nat):Int),[]⟩:In)=wk e.a from by unfold onD;rw[aD rfl]]at this;rw[f,bJ];exact this
   ·have g:k∈e.kids:=(by rw[c];simp)
    have f:ft wk day env e=if(decide (e.a<=day)&&decide (day<=e.b))=true then ft wk day env k else nev:=by
     rw[jA,q,H2,c];by_cases r:e.a<=day/\day<=e.b
     ·rw[aD r,aD (by simp[r])];rfl
     ·rw[ax r,ax (by rw[bG,cg,cg];exact r)];rfl
    rw[nz q (by rw[c];rfl)]at d⊢;have:=Ax j (n:=n) d.one (.inr rfl) rfl (p k g (b+1) S (n+1) d.tail);rw[show onD wk day (⟨7,e.a,e.b,((b+1+(bL num k (b+1)).length:Nat):Int),[]⟩:In)=(decide (e.a<=day)&&decide (day<=e.b)) from by unfold onD;rw[ax (by show¬(7:Int)=6;omega)]]at this;rw[f,bJ];exact this
   ·have g:k∈e.kids:=(by rw[c];simp)
    have f:ft wk day env e=shM (ft wk day env k) e.a:=by
     rw[jA,q,H6,c];rfl
    rw[pO hstd q c]at d⊢;obtain⟨o,z⟩:=p k g b S n d.left;rw[z,f,lR j (s:=⟨b+(bL num k b).length,S++[ft wk day env k],o⟩) d.right.one,PC rfl];refine⟨o+1,?_⟩;rw[aP,dP,<-Nat.add_assoc,yG]
   ·have f:ft wk day env e=env e.name:=(by rw[jA,q,DW]);rw[pg q]at d⊢;rw[lR j (s:=⟨b,S,n⟩) d.one,f,PD rfl];refine⟨n+1+(ev (num e.name).toNat).2,?_⟩;dsimp only;rw[w _ (uR q)];rfl
   ·have g:k∈e.kids:=(by rw[c];simp);have u:m∈e.kids:=(by rw[c];simp);rw[qW hstd q c]at d⊢;obtain⟨C,A⟩:=p k g b S n d.left.left;obtain⟨y,e2⟩:=p m u (b+(bL num k b).length) (S++[ft wk day env k]) C d.left.right;have t:=d.right.one;rw[aP,<-Nat.add_assoc]at t
    have B:b+(bL num k b++bL num m (b+(bL num k b).length)++[(⟨opK e.kind,0,0,0,[]⟩:In)]).length=b+(bL num k b).length+(bL num m (b+(bL num k b).length)).length+1:=by
     rw[aP,aP,dP];omega
    rw[A,e2,lR j (s:=⟨b+(bL num k b).length+(bL num m (b+(bL num k b).length)).length,S++[ft wk day env k]++[ft wk day env m],y⟩) t,B];refine⟨y+1,?_⟩;rw[eo,List.singleton_append];rcases q with q|q|q
    ·have f:ft wk day env e=unM (ft wk day env k) (ft wk day env m):=by
      rw[jA,q,H3,c];rfl
     rw[f,Pz (by show opK e.kind=2;rw[q];decide)];dsimp only;rw[mc]
    ·have f:ft wk day env e=dfM (ft wk day env k) (ft wk day env m):=by
      rw[jA,q,H4,c];rfl
     rw[f,PA (by show opK e.kind=3;rw[q];decide)];dsimp only;rw[mc]
    ·have f:ft wk day env e=boM (ft wk day env k) (ft wk day env m):=by
      rw[jA,q,H5,c];rfl
     rw[f,PB (by show opK e.kind=4;rw[q];decide)];dsimp only;rw[mc]
end
theorem D9 {l:List Ru}(h:(dq l).1=0)(wk:Int->Bool)(day:Int): ∀(d i:Nat),i<l.length->muR l i<d->(evV wk day (eW l) d i).1=ip l wk day i
 |0,_,_,p=>by omega
 |d+1,i,hi,p=>by
  have a:l[i]? =some l[i]:=az hi;have m:=aM a;have c:(eW l).getD i cd0=⟨(fK l).getD i [],(gj l i).1,(gj l i).2⟩:=jd (yS hi);have k:Up wk day (evV wk day (eW l) d) ((fK l).getD i []):=EX (sP h hi).2;have g:=((qH h).2 _ m).ok;have b:j9 ((fK l).getD i []) 0 (bL (atP5 l) (l[i]).2 0):=fun j _=>(by rw[mI a,bN])
  have f: ∀x∈nms (l[i]).2,(evV wk day (eW l) d (atP5 l x).toNat).1=ip l wk day (atP5 l x).toNat:=fun x q=>by
   obtain⟨r,s,o⟩:=r0 h m q;have e:(atP5 l x).toNat<l.length:=(by omega);have t:muR l (atP5 l x).toNat<muR l i:=rW h hi (by rw[qv a];exact dV.2 ⟨_,o,rfl⟩);exact D9 h wk day d _ e (by omega)
  obtain⟨u,n⟩:=D8 (env:=fun x=>ip l wk day (atP5 l x).toNat) k _ _ (aB _) g f 0 [] 0 b;rw[evV,c];dsimp only;rw[n,vP (by dsimp only;rw[bN,mI a])];show ft wk day _ _=_;rw[oB h a]
theorem MF (day:Int):eJ day=wkB day:=rfl
end
structure Co where
 rules:List Ru
 res:List (List UInt8)
 svs:List Sv
 aps:List Ap
def coD (d:Dk):Co:=⟨d.rules,d.res,d.svs,d.aps⟩
def mS (c:Co)(r day:Int):M:=if atP5 c.rules (c.res.getD r.toNat [])<0 then noM else ip c.rules (wkB day) day (atP5 c.rules (c.res.getD r.toNat [])).toNat
def fS (c:Co)(r day a:Int):M:=pQ (mS c r day) (inl (ie r day a c.aps 0))
def fL (c:Co)(n:Int)(a:Ap)(day min:Int)(who:List Int):Ap×Int:=
 if isN day 146097=false\/isN min 1440=false then(ap0,3) else
 if min-a.bef<0\/1440<min+a.len+a.aft then(ap0,3) else
 if j7 who (c.svs.getD a.sv.toNat sv0).roles≠0 then(ap0,j7 who (c.svs.getD a.sv.toNat sv0).roles) else
 if(who.any fun r=> !fQ (fS c r day n) (min-a.bef) (min+a.len+a.aft))=true then(ap0,10) else({a with fr:=min-a.bef,to:=min+a.len+a.aft,day:=day,min:=min,who:=who},0)
def jM (c:Co)(n:Int):Ap:=⟨1,10,0,0,n,(c.svs.getD n.toNat sv0).bef,(c.svs.getD n.toNat sv0).aft,(c.svs.getD n.toNat sv0).len,0,0,[]⟩
def iu (c:Co)(n day min:Int)(who:List Int):An×Co:=
 if isN n c.svs.length=false then(noA 6,c) else
 if 30<=c.aps.length then(noA 5,c) else
 if(fL c (-1) (jM c n) day min who).2≠0 then(noA (fL c (-1) (jM c n) day min who).2,c) else(iW c.aps.length,{c with aps:=c.aps++[(fL c (-1) (jM c n) day min who).1]})
def jT (c:Co)(n:Int)(f:Ap->Ap×Int):An×Co:=
 if isN n c.aps.length=false\/(c.aps.getD n.toNat ap0).st=3 then(noA 6,c) else
 if(f (c.aps.getD n.toNat ap0)).2≠0 then(noA (f (c.aps.getD n.toNat ap0)).2,c) else(noA 0,{c with aps:=c.aps.set n.toNat (f (c.aps.getD n.toNat ap0)).1})
def uY (c:Co)(t:Int):An×Co:=if t<0\/1000<t then(noA 3,c) else(noA 0,{c with aps:=c.aps.map (gF t)})
def N9 (c:Co)(name:List UInt8):An×Co:=
 if 12<=c.res.length then(noA 5,c) else if atP5 c.rules name<0 then(noA 7,c) else(iW c.res.length,{c with res:=c.res++[name]})
def Oa (c:Co)(s:Sv):An×Co:=
 if 8<=c.svs.length then(noA 5,c) else if fq s c.res.length≠0 then(noA (fq s c.res.length),c) else(iW c.svs.length,{c with svs:=c.svs++[s]})
def FM (c:Co)(s:Sv)(day:Int):Nat->Nat->List M
 |0,_=>[]
 |m+1,r=>(if s.roles.any (fun p=>decide ((r:Int)∈p))=true then fS c r day (-1) else noM)::FM c s day m (r+1)
def uf (c:Co)(s:Sv)(day:Int):Nat->Nat->List (List M)
 |0,_=>[]
 |m+1,i=>FM c s (day+i) c.res.length 0::uf c s day m (i+1)
def KY (c:Co)(n day days:Int):An×Co:=
 if isN n c.svs.length=false then(noA 6,c) else
 if isN day 146097=false\/days<1\/30<days\/146097<day+days then(noA 3,c) else
 if(gQ (c.svs.getD n.toNat sv0) (uf c (c.svs.getD n.toNat sv0) day days.toNat 0)).err≠0 then(noA (gQ (c.svs.getD n.toNat sv0) (uf c (c.svs.getD n.toNat sv0) day days.toNat 0)).err,c) else(⟨0,0,(gQ (c.svs.getD n.toNat sv0) (uf c (c.svs.getD n.toNat sv0) day days.toNat 0)).day+day,(gQ (c.svs.getD n.toNat sv0) (uf c (c.svs.getD n.toNat sv0) day days.toNat 0)).min,(gQ (c.svs.getD n.toNat sv0) (uf c (c.svs.getD n.toNat sv0) day days.toNat 0)).who,[]⟩,c)
def ug (c:Co):List Ap->Nat->List Int
 |[],_=>[]
 |a::l,i=>if a.st≠3/\(a.who.any fun r=> !fQ (mS c r a.day) a.fr a.to)=true then(i:Int)::ug c l (i+1) else ug c l (i+1)
def IJ (c:Co)(r:Int×List Ru):An×Co:=if r.1≠0 then(noA r.1,c) else(⟨0,0,0,0,[],ug {c with rules:=r.2} c.aps 0⟩,{c with rules:=r.2})
def doS (c:Co)(x:Cm):An×Co:=
 if x.kind=1 then IJ c (it x.text) else
 if x.kind=2 then N9 c x.name else
 if x.kind=3 then Oa c x.sv else
 if x.kind=4 then KY c x.n x.day x.days else
 if x.kind=5 then iu c x.n x.sday x.smin x.swho else
 if x.kind=6 then jT c x.n (fun a=>(eB a 2,0)) else
 if x.kind=7 then jT c x.n (fun a=>(eB a 3,0)) else
 if x.kind=8 then jT c x.n (fun a=>fL c x.n a x.sday x.smin x.swho) else
 if x.kind=9 then uY c x.days else(noA 1,c)
def iY:Co->List Cm->List An×Co
 |c,[]=>([],c)
 |c,x::l=>((doS c x).1::(iY (doS c x).2 l).1,(iY (doS c x).2 l).2)
def co0:Co:=⟨[],[],[],[]⟩
structure DI (d:Dk):Prop where
 flt:iA d.rules=(0,0)
 vl:d.vers.length=d.rules.length
 kv: ∀e∈d.kept,e.v<=d.given
 vg: ∀v∈d.vers,v<=d.given
 ki: ∀e∈d.kept,∀i:Nat,e.r=(i:Int)->d.vers[i]? =some e.v->e.m=ip d.rules (wkB e.d) e.d i
 ad: ∀a∈d.aps,0<=a.day/\a.day<146097
theorem Cr {l:List Ru}(h:iA l=(0,0)){i:Nat}(hi:i<l.length){day:Int}(d:0<=day)(e:day<146097):(ja (eW l) (i:Int) day).1=0/\oq (eW l) (i:Int) day=ip l (wkB day) day i:=by
 have b:(iA l).1=0:=by rw[h]
 have c:=Dm (II b)
 have a:(ja (eW l) (i:Int) day).1=0:=by
  unfold ja;rw[c,ax (by simp),wn,ax (by omega),ax (by omega)]
 refine⟨a,?_⟩;unfold oq;rw[aD a,cj,MF];refine D9 (uX b).1 _ _ _ _ hi ?_;rw[wn];have:=Ab l (i:Int);unfold muR;omega
theorem Kv {l:List Vx.Kp}{i:Int}{e:Vx.Kp}(h:e∈fX l i):e∈l:=by
 unfold fX at h;split at h
 ·rcases bU.1 h with h|h
  ·exact List.mem_of_mem_take h
  ·exact List.mem_of_mem_drop h
 ·exact h
theorem uZ {l:List Vx.Kp}{i:Int}{e x:Vx.Kp}(h:x∈fX l i++[e]):x∈l\/x=e:=(bU.1 h).imp Kv bT.1
theorem Cs {d:Dk}(h:DI d)(r:Int){day:Int}(A:0<=day)(B:day<146097):(fi d r day).1=mS (coD d) r day/\DI (fi d r day).2/\coD (fi d r day).2=coD d:=by
 have C:=ol d.rules (d.res.getD r.toNat []);by_cases f:atP5 d.rules (d.res.getD r.toNat [])<0
 ·have e:fi d r day=(noM,d):=aD f;rw[e];exact⟨(aD f).symm,h,rfl⟩
 ·obtain⟨i,g⟩: ∃i:Nat,atP5 d.rules (d.res.getD r.toNat [])=(i:Int):=⟨(atP5 d.rules (d.res.getD r.toNat [])).toNat,by omega⟩
  have e:fi d r day=((jc (eW d.rules) d.kept d.runs (d.vers.getD i 0) (i:Int) day).m,{d with kept:=(jc (eW d.rules) d.kept d.runs (d.vers.getD i 0) (i:Int) day).l,runs:=(jc (eW d.rules) d.kept d.runs (d.vers.getD i 0) (i:Int) day).n}):=by
   unfold fi;dsimp only;rw[ax f,g,cj]
  have q:mS (coD d) r day=ip d.rules (wkB day) day i:=by
   unfold mS coD;dsimp only;rw[ax f,g,cj]
  rw[e,q];rw[g]at C;clear e q f g;have hi:i<d.rules.length:=(by omega);obtain⟨v,o⟩: ∃v,d.vers[i]? =some v:=⟨d.vers[i]'(by rw[h.vl];exact hi),az _⟩
  have p:d.vers.getD i 0=v:=(by simp[List.getD,o]);obtain⟨D,E⟩:=Cr h.flt hi A B;rw[p];unfold jc;by_cases k:mZ d.kept v (i:Int) day=true
  ·rw[aD k];obtain⟨n,e,F,e2,s,t,u,w⟩:=N5 k;dsimp only;rw[w];have b:=aM e2;have z:e.m=ip d.rules (wkB day) day i:=(by rw[<-t];exact h.ki e b i s (by rw[u];exact o));refine⟨z,⟨h.flt,h.vl,fun x a=> ?_,h.vg,fun x a=> ?_,h.ad⟩,rfl⟩
   ·rcases uZ a with a|rfl
    ·exact h.kv x a
    ·exact h.kv _ b
   ·rcases uZ a with a|rfl
    ·exact h.ki x a
    ·exact h.ki _ b
  ·rw[ax k,ax (fun c=>c D)];dsimp only;rw[E];refine⟨rfl,⟨h.flt,h.vl,fun x a=> ?_,h.vg,fun x a=> ?_,h.ad⟩,rfl⟩
   ·rcases uZ (List.mem_of_mem_drop a) with a|rfl
    ·exact h.kv x a
    ·exact h.vg _ (aM o)
   ·rcases uZ (List.mem_of_mem_drop a) with a|rfl
    ·exact h.ki x a
    ·intro j y _
     have:j=i:=by
      have e:(i:Int)=(j:Int):=y;omega
     subst this;rfl
def Ste (d:Dk)(a:Dk):Prop:=DI a/\coD a=coD d
theorem Ea {d:Dk}(h:DI d)(r e:Int){day:Int}(f:0<=day)(g:day<146097):(iq d r day e).1=fS (coD d) r day e/\Ste d (iq d r day e).2:=by
 obtain⟨a,b,c⟩:=Cs h r f g;exact⟨by unfold iq fS;rw[a];rfl,b,c⟩
theorem Ct {f:Int->Dk->Bool×Dk}{g:Co->Int->Bool}(i: ∀x d,DI d->(f x d).1=g (coD d) x/\Ste d (f x d).2): ∀(l:List Int) (d:Dk),DI d->(jn f l d).1=l.any (g (coD d))/\Ste d (jn f l d).2
 |[],d,h=>⟨rfl,h,rfl⟩
 |x::l,d,h=>by
  obtain⟨a,b,c⟩:=i x d h;unfold jn;by_cases e:(f x d).1=true
  ·rw[aD e];refine⟨?_,b,c⟩;rw[List.any_cons,<-a,e];rfl
  ·rw[ax e];obtain⟨j,k,m⟩:=Ct i l (f x d).2 b;refine⟨?_,k,m.trans c⟩;rw[j,c,List.any_cons,<-a];simp[e]
theorem wo {d:Dk}(h:DI d)(n:Int)(a:Ap)(day min:Int)(who:List Int):(eY d n a day min who).1=fL (coD d) n a day min who/\Ste d (eY d n a day min who).2:=by
 unfold eY fL;by_cases b:isN day 146097=false\/isN min 1440=false
 ·rw[aD b,aD b];exact⟨rfl,h,rfl⟩
 rw[ax b,ax b];by_cases e:min-a.bef<0\/1440<min+a.len+a.aft
 ·rw[aD e,aD e];exact⟨rfl,h,rfl⟩
 rw[ax e,ax e];show((if j7 who (d.svs.getD a.sv.toNat sv0).roles≠0 then _ else _:(Ap×Int)×Dk).1=(if j7 who (d.svs.getD a.sv.toNat sv0).roles≠0 then _ else _))/\_;by_cases i:j7 who (d.svs.getD a.sv.toNat sv0).roles≠0
 ·rw[aD i,aD i];exact⟨rfl,h,rfl⟩
 rw[ax i,ax i]
 have j:0<=day/\day<146097:=by
  have:isN day 146097=true:=(by simpa using fun c=>b (.inl c));simpa[isN] using this
 obtain⟨p,q⟩:=Ct (g:=fun c r=> !fQ (fS c r day n) (min-a.bef) (min+a.len+a.aft)) (f:=kS day n (min-a.bef) (min+a.len+a.aft)) (fun x d h=>by
  obtain⟨k,e2⟩:=Ea h x n j.1 j.2;exact⟨by unfold kS;rw[k],e2⟩) who d h
 dsimp only;rw[p];split
 ·exact⟨rfl,q⟩
 ·exact⟨rfl,q⟩
theorem Cu (s:Sv){day:Int}(i:0<=day)(j:day<146097): ∀(m r:Nat) (d:Dk),DI d->(fY s day m r d).1=FM (coD d) s day m r/\Ste d (fY s day m r d).2
 |0,_,d,h=>⟨rfl,h,rfl⟩
 |m+1,r,d,h=>by
  unfold fY FM;dsimp only;split
  ·obtain⟨a,b,c⟩:=Ea h (r:Int) (-1) i j;obtain⟨e,f,g⟩:=Cu s i j m (r+1) _ b;exact⟨by rw[a,e,c],f,g.trans c⟩
  ·obtain⟨e,f,g⟩:=Cu s i j m (r+1) d h;exact⟨by rw[e],f,g⟩
theorem IK (s:Sv){day:Int}(j:0<=day): ∀(m i:Nat) (d:Dk),DI d->day+i+m<=146097->(iN s day m i d).1=uf (coD d) s day m i/\Ste d (iN s day m i d).2
 |0,_,d,h,_=>⟨rfl,h,rfl⟩
 |m+1,i,d,h,k=>by
  unfold iN uf;dsimp only;obtain⟨a,b,c⟩:=Cu s (day:=day+i) (by omega) (by omega) d.res.length 0 d h;obtain⟨e,f,g⟩:=IK s j m (i+1) _ b (by omega);exact⟨by rw[a,e,c];rfl,f,g.trans c⟩
theorem Cv: ∀(N:Nat) (a b:Ex),lK N a b=true->a=b
 |0,_,_,h=>by cases h
 |N+1,a,b,h=>by
  unfold lK at h;simp only[bG,cg,dr]at h;obtain⟨⟨⟨⟨c,d⟩,e⟩,f⟩,j,k⟩:=h;have g:a.kids=b.kids:=List.ext_getElem j fun i hi l=>Cv N _ _ (k (a.kids[i],b.kids[i]) (List.mem_iff_getElem.2 ⟨i,by simp;omega,by simp⟩));cases a;cases b;simp only at c d e f g;subst c d e f g;rfl
theorem yU {c new:List Ru}{k:Nat}(h:jo c new (k:Int)=false): ∃u,c[k]? =some u/\new[k]? =some u:=by
 unfold jo at h;rw[cj]at h;cases ha:c[k]? with
 |none=>rw[ha]at h;cases h
 |some a=>
  cases hb:new[k]? with
  |none=>rw[ha,hb]at h;cases h
  |some b=>
   rw[ha,hb]at h;simp only[Bool.or_eq_false_iff,Bool.not_eq_false']at h;have d:=h.2;unfold pR at d;simp only[bG,cg]at d;have:a=b:=Prod.ext d.1 (Cv _ _ _ d.2);exact⟨a,rfl,by rw[this]⟩
theorem MG {l:List Ru}(h:(dq l).1=0){k:Nat}{u:Ru}(b:l[k]? =some u):atP5 l u.1=(k:Int):=by
 have a:=(DU h).1 k (aG.1 b).1;unfold lk1 at a;rw[b]at a;simpa using a
theorem Ay {L d:List Ru}(o:(dq L).1=0)(c:(dq d).1=0)(w:Int->Bool)(day:Int): ∀(m i:Nat),muR d i<m->i<d.length->jo L d (i:Int)=false->(∀k∈gg d (i:Int),jo L d k=false)->ip L w day i=ip d w day i
 |0,_,h,_,_,_=>by omega
 |m+1,i,J,hi,F,z=>by
  obtain⟨u,D,n⟩:=yU F;rw[oB o D,oB c n];refine nt _ u.2 (aB _) fun x B=> ?_;obtain⟨K,M,_⟩:=r0 c (aM n) B;obtain⟨k,l⟩: ∃k:Nat,atP5 d x=(k:Int):=⟨(atP5 d x).toNat,by omega⟩
  have s:=ny c n B;rw[l,cj]at s;have A:Lx.Way (fun a b=>(iK d a).contains b) i k:=Relation.TransGen.single (by simpa using s);have f:k<d.length:=(by omega);have r:(k:Int)∈gg d (i:Int):=(mF c hi).2 ⟨k,rfl,f,A⟩;have g:=z _ r;obtain⟨v,H,I⟩:=yU g
  have t:v.1=x:=by
   obtain⟨N,y,e2⟩:=GR l;rw[I]at y;cases y;exact e2
  have C:atP5 L x=(k:Int):=(by rw[<-t];exact MG o H);rw[C,l,cj];refine Ay o c w day m k (by have:=rW c hi s;omega) f g fun j E=>z j ?_;obtain⟨G,e,p,q⟩:=(mF c f).1 E;exact(mF c hi).2 ⟨G,e,p,A.trans q⟩
theorem MH {t:List UInt8}(h:(it t).1=0):iA (it t).2=(0,0):=by
 unfold it at h⊢;split at h
 ·rename_i a;exact absurd h a
 ·rename_i a;rw[ax a];exact Av h
structure DJ (d:Dk):Prop extends DI d where
 gv:0<=d.given
theorem Ste.j {d a:Dk}(h:DJ d)(c:Ste d a)(b:a.given=d.given):DJ a:=⟨c.1,by rw[b];exact h.gv⟩
theorem Dn {d:Dk}(h:DJ d){l:List Ru}(o:iA l=(0,0)):DI {d with rules:=l,vers:=pS d l,given:=d.given+1}:=by
 have b:(pS d l).length=l.length:=by simp[pS]
 refine⟨o,b,fun e j=>by have:=h.kv e j;show e.v<=d.given+1;omega,fun v g=> ?_,fun e j i r g=> ?_,h.ad⟩
 ·show v<=d.given+1;unfold pS at g;obtain⟨i,_,rfl⟩:=dV.1 g;split
  ·omega
  ·by_cases q:i<d.vers.length
   ·have:=h.vg (d.vers.getD i 0) (by simp[List.getD,az q]);omega
   ·have:d.vers.getD i 0=0:=(by simp[List.getD,eX (by omega:d.vers.length<=i)]);have:=h.gv;omega
 ·show e.m=ip l (wkB e.d) e.d i;have hi:i<l.length:=(by rw[<-b];exact(aG.1 g).1);have a:(pS d l)[i]? =some e.v:=g;unfold pS at a;rw[bg,List.getElem?_range hi]at a;replace a:(if jo d.rules l (i:Int)=true\/(gg l (i:Int)).any (jo d.rules l)=true then d.given+1 else d.vers.getD i 0)=e.v:=aN a;by_cases q:jo d.rules l (i:Int)=true\/(gg l (i:Int)).any (jo d.rules l)=true
  ·rw[aD q]at a;have:=h.kv e j;omega
  ·rw[ax q]at a;have p:jo d.rules l (i:Int)=false:=(by simpa using fun c=>q (.inl c))
   have t: ∀k∈gg l (i:Int),jo d.rules l k=false:=fun k s=>by
    have: ¬(gg l (i:Int)).any (jo d.rules l)=true:=fun c=>q (.inr c);simp only[List.any_eq_true,not_exists,not_and]at this;simpa using this k s
   obtain⟨u,u1,_⟩:=yU p;have f:i<d.vers.length:=(by rw[h.vl];exact(aG.1 u1).1)
   have n:d.vers[i]? =some e.v:=by
    rw[<-a,az f];simp[List.getD,az f]
   rw[h.ki e j i r n];exact Ay (uX (by rw[h.flt])).1 (uX (by rw[o])).1 _ _ _ i (Nat.lt_succ_self _) hi p t
theorem ws: ∀(l:List Ap) (i:Nat) (d:Dk),DI d->(∀a∈l,0<=a.day/\a.day<146097)->(eZ l i d).1=ug (coD d) l i/\Ste d (eZ l i d).2
 |[],_,d,h,_=>⟨rfl,h,rfl⟩
 |a::l,i,d,h,m=>by
  unfold eZ ug;by_cases j:a.st=3
  ·rw[aD j,ax (fun c=>c.1 j)];exact ws l (i+1) d h fun b k=>m b (bH _ k)
  ·rw[ax j];have ha:=m a bq
   obtain⟨p,v,q⟩:=Ct (g:=fun c r=> !fQ (mS c r a.day) a.fr a.to) (f:=kZ a.day a.fr a.to) (fun x d h=>by
    obtain⟨s,e2,t⟩:=Cs h x ha.1 ha.2;exact⟨by unfold kZ;rw[s],e2,t⟩) a.who d h
   obtain⟨u,n,o⟩:=ws l (i+1) _ v fun b k=>m b (bH _ k);dsimp only;refine⟨?_,n,o.trans q⟩;rw[u,q,p];by_cases e:(a.who.any fun r=> !fQ (mS (coD d) r a.day) a.fr a.to)=true
   ·rw[aD e,aD ⟨j,e⟩]
   ·rw[ax e,ax fun c=>e c.2]
theorem Eb {c:Co}{n:Int}{a:Ap}{day min:Int}{who:List Int}(h:(fL c n a day min who).2=0):0<=(fL c n a day min who).1.day/\(fL c n a day min who).1.day<146097:=by
 unfold fL at h⊢;split
 ·rename_i b;rw[aD b]at h;cases h
 rename_i b;rw[ax b]at h;split
 ·rename_i e;rw[aD e]at h;cases h
 rename_i e;rw[ax e]at h;split
 ·rename_i d;rw[aD d]at h;exact absurd h d
 rename_i d;rw[ax d]at h;split
 ·rename_i f;rw[aD f]at h;cases h
 have:isN day 146097=true:=by simpa using fun c=>b (.inl c)
 simpa[isN] using this
def Rl (p:An×Dk)(q:An×Co):Prop:=p.1=q.1/\coD p.2=q.2/\DJ p.2
theorem Rl.ite {c:Prop}[Decidable c]{p a:An×Dk}{q b:An×Co}(h:c->Rl p q)(d: ¬c->Rl a b):Rl (if c then p else a) (if c then q else b):=by
 by_cases e:c
 ·rw[aD e,aD e];exact h e
 ·rw[ax e,ax e];exact d e
theorem ui {n m:Int}(h: ¬isN n m=false):0<=n/\n<m:=by
 have:isN n m=true:=by simpa using h
 simpa[isN] using this
theorem Rl.aps {d c:Dk}(h:DJ d)(b:Ste d c)(f:c.given=d.given)(a:An){l:List Ap}(g: ∀x∈l,0<=x.day/\x.day<146097):Rl (a,{c with aps:=l}) (a,{coD d with aps:=l}):=by
 have e:=b.2;unfold coD at e;simp only[Co.mk.injEq]at e;refine⟨rfl,?_,⟨⟨b.1.flt,b.1.vl,b.1.kv,b.1.vg,b.1.ki,g⟩,by show 0<=c.given;rw[f];exact h.gv⟩⟩;unfold coD;simp only[Co.mk.injEq];exact⟨e.1,e.2.1,e.2.2.1,trivial⟩
theorem Cw {d:Dk}(h:DJ d)(n:Int)(f:Ap->Dk->(Ap×Int)×Dk)(g:Ap->Ap×Int)(l: ∀a,(f a d).1=g a/\Ste d (f a d).2/\Cor d (f a d).2)(m: ∀a∈d.aps,(g a).2=0->0<=(g a).1.day/\(g a).1.day<146097):Rl (iy d n f) (jT (coD d) n g):=by
 unfold iy jT;refine .ite (fun _=>⟨rfl,rfl,h⟩) fun i=> ?_;obtain⟨p,q,r⟩:=l (d.aps.getD n.toNat ap0);dsimp only;rw[p];refine .ite (fun _=>⟨rfl,q.2,q.j h r.given⟩) fun k=> ?_;have b:(f (d.aps.getD n.toNat ap0) d).2.aps=d.aps:=congrArg Co.aps q.2;rw[b];refine .aps h q r.given _ fun a ha=> ?_;rcases List.mem_or_eq_of_mem_set ha with ha|rfl
 ·exact h.ad a ha
 ·have o:=ui fun c=>i (.inl c);have e:n.toNat<d.aps.length:=(by omega);exact m _ (by simp[List.getD,az e]) (by simpa using k)
theorem O4 {d:Dk}(h:DJ d)(x:Cm):Rl (doP d x) (doS (coD d) x):=by
 have f: ∀a,Rl (a,d) (a,coD d):=fun a=>⟨rfl,rfl,h⟩
 unfold doP doS;refine .ite (fun _=> ?_) fun _=> .ite (fun _=> ?_) fun _=> .ite (fun _=> ?_) fun _=> .ite (fun _=> ?_) fun _=> .ite (fun _=> ?_) fun _=> .ite (fun _=> ?_) fun _=> .ite (fun _=> ?_) fun _=> .ite (fun _=> ?_) fun _=> .ite (fun _=> ?_) fun _=>f _
 ·refine .ite (fun _=>f _) fun e=> ?_;obtain⟨p,q⟩:=ws d.aps 0 _ (Dn h (MH (by simpa using e))) h.ad;dsimp only;refine⟨by rw[p];rfl,q.2,q.1,?_⟩;rw[(pT d.aps 0 _).given];have:=h.gv;show 0<=d.given+1;omega
 ·exact .ite (fun _=>f _) fun _=> .ite (fun _=>f _) fun _=>⟨rfl,rfl,⟨⟨h.flt,h.vl,h.kv,h.vg,h.ki,h.ad⟩,h.gv⟩⟩
 ·exact .ite (fun _=>f _) fun _=> .ite (fun _=>f _) fun _=>⟨rfl,rfl,⟨⟨h.flt,h.vl,h.kv,h.vg,h.ki,h.ad⟩,h.gv⟩⟩
 ·refine .ite (fun _=>f _) fun _=> .ite (fun _=>f _) fun e2=> ?_;have o:=ui fun c=>e2 (.inl c);obtain⟨p,q⟩:=IK (d.svs.getD x.n.toNat sv0) o.1 x.days.toNat 0 d h.toDI (by omega);have g:=(wm (d.svs.getD x.n.toNat sv0) x.day x.days.toNat 0 d).given;dsimp only;rw[p];exact .ite (fun _=>⟨rfl,q.2,q.j h g⟩) fun _=>⟨rfl,q.2,q.j h g⟩
 ·refine .ite (fun _=>f _) fun _=> .ite (fun _=>f _) fun _=> ?_;obtain⟨p,q⟩:=wo h.toDI (-1) (jM (coD d) x.n) x.sday x.smin x.swho;have g:=(mi d (-1) (jM (coD d) x.n) x.sday x.smin x.swho).given;have i:(eY d (-1) (jM (coD d) x.n) x.sday x.smin x.swho).2.aps=d.aps:=congrArg Co.aps q.2;have l:(⟨1,10,0,0,x.n,(d.svs.getD x.n.toNat sv0).bef,(d.svs.getD x.n.toNat sv0).aft,(d.svs.getD x.n.toNat sv0).len,0,0,[]⟩:Ap)=jM (coD d) x.n:=rfl;dsimp only;rw[l,p,i];refine .ite (fun _=>⟨rfl,q.2,q.j h g⟩) fun k=> .aps h q g _ fun a ha=> ?_;rcases bU.1 ha with ha|ha
  ·exact h.ad a ha
  ·cases bT.1 ha;exact Eb (by simpa using k)
 ·exact Cw h _ _ _ (fun a=>⟨rfl,⟨h.toDI,rfl⟩,Cor.refl d⟩) fun a ha _=>h.ad a ha
 ·exact Cw h _ _ _ (fun a=>⟨rfl,⟨h.toDI,rfl⟩,Cor.refl d⟩) fun a ha _=>h.ad a ha
 ·exact Cw h _ _ _ (fun a=>⟨(wo h.toDI _ a _ _ _).1,(wo h.toDI _ a _ _ _).2,mi d _ a _ _ _⟩) fun a _ e=>Eb e
 ·refine .ite (fun _=>f _) fun _=> .aps h ⟨h.toDI,rfl⟩ rfl _ fun a ha=> ?_;obtain⟨b,m,rfl⟩:=dV.1 ha;have:=h.ad b m;unfold gF eB;split
  ·exact this
  split<;>exact this
theorem Ec: ∀(l:List Cm) (d:Dk),DJ d->(playP d l).1=(iY (coD d) l).1/\coD (playP d l).2=(iY (coD d) l).2/\DJ (playP d l).2
 |[],d,h=>⟨rfl,rfl,h⟩
 |x::l,d,h=>by
  obtain⟨a,b,c⟩:=O4 h x;obtain⟨e,f,g⟩:=Ec l _ c;unfold playP iY;rw[<-a,<-b];exact⟨by rw[e],f,g⟩
theorem Ob:DJ dk0:=⟨⟨yh.flt,yh.vl,(fun e a=>by cases a),(fun e a=>by cases a),(fun e a=>by cases a),(fun e a=>by cases a)⟩,yh.gv.1⟩
theorem Cx (l:List Cm):(playP dk0 l).1=(iY co0 l).1/\coD (playP dk0 l).2=(iY co0 l).2/\DJ (playP dk0 l).2:=Ec l dk0 Ob
section
def oE (a b:Int):Ex:=⟨3,a,b,[],[]⟩
def fM (a b:Int):M:=fun i=>(decide (a<=(i:Int))&&decide ((i:Int)<b))&&decide (i<1440)
def oL (a b:Int):List Ru:=[([97],oE a b)]
theorem KZ {a b:Int}:fW (oL a b) ([97],oE a b)=[]:=by
 have:nms (oE a b)=[]:=by simp[oE,lP,jE]
 unfold fW;dsimp only;rw[this];rfl
theorem Oc {a b:Int}:iK (oL a b)=fun _=>[]:=by
 funext i;match i with
 |0=>exact(qv rfl).trans (by rw[KZ];rfl)
 |i+1=>rfl
section
variable {a b:Int} (h:0<=a/\a<b/\b<=1440)
 include h
theorem MJ:fV (oL a b)=(0,0):=by
 have c:(shapeP (oE a b) 1 0).1=0:=by
  have:aloneP (oE a b)=0:=(by simp[aloneP,oE,kidsP,rangeP,h]);rw[kF,ax (by decide),ax (by simp[this])];rfl
 unfold fV oL jJ ruleP;rw[c];rfl
theorem FN:dq (oL a b)=(0,0):=by
 refine ET (by rw[MJ h]) ?_ ?_ ?_
 ·intro i hi;match i,hi with
  |0,_=>rfl
  |i+1,hi=>exact absurd hi (by show¬(i+1<1);omega)
 ·intro i hi;match i,hi with
  |0,_=>show decide (-1∈fW (oL a b) ([97],oE a b))=false;rw[KZ];decide
  |i+1,hi=>exact absurd hi (by show¬(i+1<1);omega)
 ·intro i hi;unfold lk3;rw[Oc];match i,hi with
  |0,_=>rfl
  |i+1,hi=>exact absurd hi (by show¬(i+1<1);omega)
theorem K4:iA (oL a b)=(0,0):=by
 have c:stdE (oE a b)=true:=by rw[rY];rfl
 have c0:(fK (oL a b)).getD 0 []=[⟨1,0,0,0,rs (mnE (oE a b)) 1440⟩]:=by rw[mI (u:=([97],oE a b)) rfl,oD c]
 have m0:gj (oL a b) 0=(1,1):=by
  rw[uU (by rw[FN h]) (by show 0<1;decide)];unfold mj;rw[c0];rfl
 unfold iA;rw[FN h,ax (by decide)]
 have:j6 (gj (oL a b)) (oL a b).length 0= -1:=by
  show j6 (gj (oL a b)) 1 0= -1;unfold j6;rw[m0,ax (by decide)];rfl
 rw[this,ax (by decide)]
theorem Od (c:Int->Bool)(day:Int):ip (oL a b) c day 0=fM a b:=by
 rw[oB (by rw[FN h]) (u:=([97],oE a b)) rfl,jA];rfl
end
end
def aS:List UInt8:=[114,117,108,101,32,97,32,61,32,48,57,58,48,48,45,49,55,58,48,48,59]
theorem Oe:kT aS=(0,oL 540 1020):=by kernel_rfl
theorem Of:it aS=(0,oL 540 1020):=by
 unfold it;rw[Oe,ax (by decide),K4 (by decide)]
def la:Sv:=⟨60,0,0,[[0]]⟩
def aC:List Cm:=[⟨1,0,0,0,aS,[],sv0,0,0,[]⟩,⟨2,0,0,0,[],[97],sv0,0,0,[]⟩,⟨3,0,0,0,[],[],la,0,0,[]⟩,⟨4,0,7,2,[],[],sv0,0,0,[]⟩,⟨5,0,0,0,[],[],sv0,7,540,[0]⟩]
def dA (aps:List Ap)(k:List Vx.Kp)(n:Int):Dk:=⟨oL 540 1020,[[97]],[la],aps,[1],1,k,n⟩
theorem FO (k:List Vx.Kp)(n day:Int)(g:0<=day)(j:day<146097):jc (eW (oL 540 1020)) k n 1 0 day=if mZ k 1 0 day=true then⟨(k.getD (gJ 0 day k 0).toNat k0).m,fX k (gJ 0 day k 0)++[k.getD (gJ 0 day k 0).toNat k0],n,0,0⟩ else⟨fM 540 1020,sE (fX k (gJ 0 day k 0)++[⟨0,day,1,fM 540 1020⟩]),IntKind.i64.wrap (n+1),0,0⟩:=by
 obtain⟨f,e2⟩:=Cr (K4 (a:=540) (b:=1020) (by decide)) (i:=0) (by decide) g j;rw[Od (by decide)]at e2;have d: ¬(ja (eW (oL 540 1020)) 0 day).1≠0:=fun c=>c f;have e:oq (eW (oL 540 1020)) 0 day=fM 540 1020:=e2;unfold jc;rw[ax d,e]
theorem yV (aps:List Ap)(k:List Vx.Kp)(n day:Int):fi (dA aps k n) 0 day=((jc (eW (oL 540 1020)) k n 1 0 day).m,dA aps (jc (eW (oL 540 1020)) k n 1 0 day).l (jc (eW (oL 540 1020)) k n 1 0 day).n):=rfl
def kA (day:Int):Vx.Kp:=⟨0,day,1,fM 540 1020⟩
theorem a_7:fi (dA [] [] 0) 0 7=(fM 540 1020,dA [] [kA 7] 1):=by
 rw[yV,FO _ _ _ (by decide) (by decide)];rfl
theorem a_8:fi (dA [] [kA 7] 1) 0 8=(fM 540 1020,dA [] [kA 7,kA 8] 2):=by
 rw[yV,FO _ _ _ (by decide) (by decide)];rfl
theorem PE:fi (dA [] [kA 7,kA 8] 2) 0 7=(fM 540 1020,dA [] [kA 8,kA 7] 2):=by
 rw[yV,FO _ _ _ (by decide) (by decide)];rfl
def mA:M:=pQ (fM 540 1020) (inl [])
theorem O5:iN la 7 2 0 (dA [] [] 0)=([[mA],[mA]],dA [] [kA 7,kA 8] 2):=by
 have f7:iq (dA [] [] 0) ((0:Nat):Int) (7+((0:Nat):Int)) (-1)=(mA,dA [] [kA 7] 1):=by
  unfold iq;show(pQ (fi (dA [] [] 0) 0 7).1 _,(fi (dA [] [] 0) 0 7).2)=_;rw[a_7];rfl
 have f8:iq (dA [] [kA 7] 1) ((0:Nat):Int) (7+((1:Nat):Int)) (-1)=(mA,dA [] [kA 7,kA 8] 2):=by
  unfold iq;show(pQ (fi (dA [] [kA 7] 1) 0 8).1 _,(fi (dA [] [kA 7] 1) 0 8).2)=_;rw[a_8];rfl
 have a:fY la (7+((0:Nat):Int)) 1 0 (dA [] [] 0)=([mA],dA [] [kA 7] 1):=by
  unfold fY;rw[aD (by decide),f7];rfl
 have b:fY la (7+((1:Nat):Int)) 1 0 (dA [] [kA 7] 1)=([mA],dA [] [kA 7,kA 8] 2):=by
  unfold fY;rw[aD (by decide),f8];rfl
 have c:iN la 7 1 1 (dA [] [kA 7] 1)=([[mA]],dA [] [kA 7,kA 8] 2):=by
  show((fY la (7+((1:Nat):Int)) 1 0 (dA [] [kA 7] 1)).1::[],(fY la (7+((1:Nat):Int)) 1 0 (dA [] [kA 7] 1)).2)=_;rw[b]
 show((fY la (7+((0:Nat):Int)) 1 0 (dA [] [] 0)).1::(iN la 7 1 1 (fY la (7+((0:Nat):Int)) 1 0 (dA [] [] 0)).2).1,(iN la 7 1 1 (fY la (7+((0:Nat):Int)) 1 0 (dA [] [] 0)).2).2)=_;rw[a,c]
theorem MK:mr 60 0 0 [[0]] [mA]=some (540,[0]):=by
 have e:rV 60 [mA] [[0]]=[540]:=by kernel_rfl
 have e2:iI 60 [mA] [[0]]=[540]:=by
  unfold iI;rw[e,List.mergeSort_singleton];rfl
 unfold mr;show(iI 60 [mA] [[0]]).findSome? _=_;rw[e2];kernel_rfl
theorem Og:jC (dA [] [] 0) 0 7 2=(⟨0,0,7,540,[0],[]⟩,dA [] [kA 7,kA 8] 2):=by
 have e:gQ la [[mA],[mA]]=⟨0,0,540,[0]⟩:=by
  have a:lH la [[mA],[mA]]=0:=(by decide)
  have e2:lI la [[mA],[mA]] 0=some (0,540,[0]):=by
   unfold lI;show(match mr 60 0 0 [[0]] [mA] with|some x=>some (0,x.1,x.2)|none=>_)=_;rw[MK]
  unfold gQ;rw[ax (by decide),ax (by rw[a];decide),e2];rfl
 unfold jC;rw[ax (by decide),ax (by decide)];show(let q:=iN la 7 2 0 (dA [] [] 0);let f:=gQ la q.1;if f.err≠0 then(noA f.err,q.2) else((⟨0,0,f.day+7,f.min,f.who,[]⟩:An),q.2))=_;rw[O5];dsimp only;rw[e];rfl
def apA:Ap:=⟨1,10,540,600,0,0,0,60,7,540,[0]⟩
theorem Oh:lJ (dA [] [kA 7,kA 8] 2) 0 7 540 [0]=(iW 0,dA [apA] [kA 8,kA 7] 2):=by
 have a:kS 7 (-1) 540 600 0 (dA [] [kA 7,kA 8] 2)=(false,dA [] [kA 8,kA 7] 2):=by
  unfold kS iq;rw[PE];have:fQ mA 540 600=true:=(by kernel_rfl);show(!fQ mA 540 600,_)=_;rw[this];rfl
 have c:eY (dA [] [kA 7,kA 8] 2) (-1) ⟨1,10,0,0,0,0,0,60,0,0,[]⟩ 7 540 [0]=((apA,0),dA [] [kA 8,kA 7] 2):=by
  have d:jn (kS 7 (-1) 540 600) [0] (dA [] [kA 7,kA 8] 2)=(false,dA [] [kA 8,kA 7] 2):=by
   show(if(kS 7 (-1) 540 600 0 (dA [] [kA 7,kA 8] 2)).1=true then _ else jn _ [] (kS 7 (-1) 540 600 0 (dA [] [kA 7,kA 8] 2)).2)=_;rw[a];rfl
  unfold eY;rw[ax (by decide),ax (by decide),ax (by decide)];show(let b:=jn (kS 7 (-1) 540 600) [0] (dA [] [kA 7,kA 8] 2);_:(Ap×Int)×Dk)=_;rw[d];rfl
 unfold lJ;rw[ax (by decide),ax (by decide)];show(let p:=eY (dA [] [kA 7,kA 8] 2) (-1) ⟨1,10,0,0,0,0,0,60,0,0,[]⟩ 7 540 [0];_:An×Dk)=_;rw[c];rfl
theorem Oi:playP dk0 aC=([noA 0,iW 0,iW 0,⟨0,0,7,540,[0],[]⟩,iW 0],dA [apA] [kA 8,kA 7] 2):=by
 have a:doP dk0 ⟨1,0,0,0,aS,[],sv0,0,0,[]⟩=(noA 0,⟨oL 540 1020,[],[],[],[1],1,[],0⟩):=by
  show nQ dk0 (it aS)=_;rw[Of]
  have ev:pS dk0 (oL 540 1020)=[1]:=by
   have e:jo dk0.rules (oL 540 1020) (((0:Nat)):Int)=true:=rfl;show [if jo dk0.rules (oL 540 1020) (((0:Nat)):Int)=true\/_ then _ else _]=_;rw[aD (Or.inl e)];rfl
  unfold nQ;rw[ax (by decide),ev];rfl
 have e2:doP ⟨oL 540 1020,[],[],[],[1],1,[],0⟩ ⟨2,0,0,0,[],[97],sv0,0,0,[]⟩=(iW 0,⟨oL 540 1020,[[97]],[],[],[1],1,[],0⟩):=rfl;have b:doP ⟨oL 540 1020,[[97]],[],[],[1],1,[],0⟩ ⟨3,0,0,0,[],[],la,0,0,[]⟩=(iW 0,dA [] [] 0):=rfl;have c:doP (dA [] [] 0) ⟨4,0,7,2,[],[],sv0,0,0,[]⟩=(⟨0,0,7,540,[0],[]⟩,dA [] [kA 7,kA 8] 2):=Og;have d:doP (dA [] [kA 7,kA 8] 2) ⟨5,0,0,0,[],[],sv0,7,540,[0]⟩=(iW 0,dA [apA] [kA 8,kA 7] 2):=Oh;unfold aC;simp only[playP,a,e2,b,c,d]
end Go.Proofs.YtaoljfdfhggbbaaGreatDoor
