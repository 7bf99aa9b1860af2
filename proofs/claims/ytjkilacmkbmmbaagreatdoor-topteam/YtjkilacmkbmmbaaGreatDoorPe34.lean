/- Texts of the proof. -/
import Derived.Test.YtjkilacmkbmmbaaGreatDoorPe33
set_option maxRecDepth 100000
set_option maxHeartbeats 8000000
namespace Go.Proofs.YtjkilacmkbmmbaaGreatDoor
open Go.Proofs.Tryz Go.RowKit Lx Vx Mx Msk
def il (n:Nat):List Int:=(List.range n).map fun(k:Nat)=>(k:Int)
def fP (n:Nat):Sv:=⟨60,0,0,[il n,il n]⟩
def ctm (n:Nat)(A:List Ap):Co:=⟨oL 540 600,List.replicate n [97],[fP n],A⟩
def eS:List UInt8:=[114,117,108,101,32,97,32,61,32,48,57,58,48,48,45,49,48,58,48,48,59]
theorem Ox:fO eS=(0,oL 540 600):=by
 unfold fO;rw[show kj eS=(0,oL 540 600) by kernel_rfl,aw (by decide),Lm (by decide)]
theorem jg {n:Nat}{r:Int}:r∈il n↔0<=r/\r<n:=by
 unfold il;rw[dw];constructor
 ·rintro⟨k,hk,rfl⟩;have:=gQ.1 hk;omega
 ·intro h;exact⟨r.toNat,gQ.2 (by omega),by omega⟩
theorem lJ (n:Nat):(il n).length=n:=by simp[il]
theorem Do (n:Nat):(il n).Nodup:=by
 unfold il;rw[List.nodup_iff_pairwise_ne,List.pairwise_map];exact(List.nodup_iff_pairwise_ne.1 List.nodup_range).imp fun h e=>h (by omega)
theorem IN: ∀n:Nat,2<=n->n<=8->dW (fP n) (n:Int)=0
 |0,h,_=>by omega
 |1,h,_=>by omega
 |2,_,_=>by decide
 |3,_,_=>by decide
 |4,_,_=>by decide
 |5,_,_=>by decide
 |6,_,_=>by decide
 |7,_,_=>by decide
 |8,_,_=>by decide
 |n+9,_,h=>by omega
theorem CB (n:Nat)(hn:n<=8): ∀k:Nat,k<=n->(ib ⟨oL 540 600,[],[],[]⟩ (List.replicate k cAd)).2=⟨oL 540 600,List.replicate k [97],[],[]⟩
 |0,_=>rfl
 |k+1,hk=>by
  have ih:=CB n hn k (by omega);rw[List.replicate_succ',kN,ih];show(Cl ⟨oL 540 600,List.replicate k [97],[],[]⟩ [97]).2=_;unfold Cl;rw[aw (by show¬12<=(List.replicate k ([97]:List UInt8)).length;rw[List.length_replicate];omega)];refine(congrArg Prod.snd (aw (by show¬(0:Int)<0;decide))).trans ?_;show(⟨oL 540 600,List.replicate k [97]++[[97]],[],[]⟩:Co)=_;rw[List.replicate_succ']
theorem FO {n:Nat}(h2:2<=n)(h8:n<=8):(ib co0 ([cR eS]++List.replicate n cAd++[cS (fP n)])).2=ctm n []:=by
 have e1:(ib co0 [cR eS]).2=⟨oL 540 600,[],[],[]⟩:=by
  show(Cp co0 (fO eS)).2=_;rw[Ox];rfl
 rw[kN,kN,e1,CB n h8 n (aA _)];show(Cn ⟨oL 540 600,List.replicate n [97],[],[]⟩ (fP n)).2=_;have hw:dW (fP n) ((List.replicate n ([97]:List UInt8)).length:Int)=0:=by rw[List.length_replicate];exact IN n h2 h8
 unfold Cn;refine(congrArg Prod.snd (aw (by show¬8<=0;decide))).trans ((congrArg Prod.snd (aw (fun c=>c hw))).trans ?_);rfl
def fB (A:List Ap):List Int:=A.flatMap fun x=>x.who
structure qD (n:Nat)(A:List Ap):Prop where
 ap: ∀x∈A,x.st=1/\x.day=5/\x.fr=540/\x.to=600/\x.who.length=2
 nd:(fB A).Nodup
 mem: ∀r∈fB A,0<=r/\r<(n:Int)
theorem AB: ∀{A:List Ap},(∀x∈A,x.who.length=2)->(fB A).length=2*A.length
 |[],_=>rfl
 |x::A,h=>by
  have:=AB (A:=A) fun y hy=>h y (bn _ hy);have e:fB (x::A)=x.who++fB A:=rfl;rw[e,aL,this,h x bc,bz];omega
theorem AC {r:Int}: ∀{A:List Ap} (i:Nat),(∀x∈A,x.st=1/\x.day=5/\x.fr=540/\x.to=600/\x.who.length=2)->(r∉fB A->kC r 5 (-1) A i=[])/\(r∈fB A->(540,600)∈kC r 5 (-1) A i)
 |[],_,_=>⟨fun _=>rfl,fun h=>by cases h⟩
 |x::A,i,h=>by
  obtain⟨h1,h2,h3,h4,h5⟩:=h x bc;obtain⟨p,q⟩:=AC (r:=r) (A:=A) (i+1) fun y hy=>h y (bn _ hy);have e:fB (x::A)=x.who++fB A:=rfl;unfold kC;rw[e,bJ];by_cases hx:r∈x.who
  ·rw[ay ⟨by omega,by omega,h2,hx⟩,h3,h4];exact⟨fun c=>absurd (.inl hx) c,fun _=>bc⟩
  ·rw[aw fun c=>hx c.2.2.2];exact⟨fun c=>p fun d=>c (.inr d),fun c=>q (c.resolve_left hx)⟩
theorem tY {n:Nat}{A:List Ap}(h:qD n A){r x y:Int}(hr:0<=r/\r<(n:Int))(hxy:x<y):gH (fS (ctm n A) r 5 (-1)) x y=true↔540<=x/\y<=600/\r∉fB A:=by
 have hM:mS (ctm n A) r 5=fM 540 600:=by
  have hg:(List.replicate n ([97]:List UInt8)).getD r.toNat []=[97]:=by
   rw[dJ,fG,ay (by omega)];rfl
  show(if atP5 (oL 540 600) ((List.replicate n [97]).getD r.toNat [])<0 then noM else fW (oL 540 600) (wkB 5) 5 (atP5 (oL 540 600) ((List.replicate n [97]).getD r.toNat [])).toNat)=_;rw[hg,show atP5 (oL 540 600) [97]=0 from rfl];exact(aw (by decide)).trans (IL (by decide) _ _)
 have hF:fS (ctm n A) r 5 (-1)=nh (fM 540 600) (inl (kC r 5 (-1) A 0)):=by
  unfold fS;rw[hM];rfl
 obtain⟨p,q⟩:=AC (r:=r) (A:=A) 0 h.ap
 have hfm: ∀i:Nat,fM 540 600 i=true↔540<=(i:Int)/\(i:Int)<600:=fun i=>by
  unfold fM;simp only[bq,bH];omega
 rw[hF,IM];constructor
 ·rintro⟨a,b,c,d⟩;have d1:=(hfm _).1 (d x.toNat (by omega) (by omega)).1;have d2:=(hfm _).1 (d (y-1).toNat (by omega) (by omega)).1;refine⟨by omega,by omega,fun ht=> ?_⟩;have d3:=(d x.toNat (by omega) (by omega)).2;unfold inl at d3;rw[List.any_eq_false]at d3;have:=d3 _ (q ht);simp at this;omega
 ·rintro⟨a,b,c⟩;rw[p c];exact⟨by omega,by omega,by omega,fun i h1 h2=>⟨(hfm i).2 (by omega),rfl⟩⟩
theorem CC (n:Nat)(A:List Ap): ∀m i:Nat,i+m<=n->wh (ctm n A) (fP n) 5 m i=(List.range' i m).map fun(k:Nat)=>fS (ctm n A) k 5 (-1)
 |0,_,_=>rfl
 |m+1,i,h=>by
  have hp:((fP n).roles.any fun p=>decide ((i:Int)∈p))=true:=by
   show(decide ((i:Int)∈il n)||_)=true;rw[a7 (jg.2 (by omega)),Bool.true_or]
  rw[List.range'_succ,dl,<-CC n A m (i+1) (by omega),wh,ay hp]
theorem KH (n:Nat)(A:List Ap):jN (ctm n A) (fP n) 5 1 0=[(List.range n).map fun(k:Nat)=>fS (ctm n A) k 5 (-1)]:=by
 show [wh (ctm n A) (fP n) (5+((0:Nat):Int)) (List.replicate n ([97]:List UInt8)).length 0]=_;rw[List.length_replicate,show(5:Int)+((0:Nat):Int)=5 from rfl,CC n A n 0 (by omega),List.range_eq_range']
theorem uS {n:Nat}{A:List Ap}(h:qD n A){m r:Int}(hr:0<=r/\r<(n:Int)):okP ((List.range n).map fun(k:Nat)=>fS (ctm n A) k 5 (-1)) (m-0) (m-0+jx (fP n)) r=true↔m=540/\r∉fB A:=by
 have e:((List.range n).map fun(k:Nat)=>fS (ctm n A) k 5 (-1)).getD r.toNat (fun _=>false)=fS (ctm n A) r 5 (-1):=by
  rw[dJ,bg,List.getElem?_range (by omega)];show fS (ctm n A) (r.toNat:Int) 5 (-1)=_;rw[show(r.toNat:Int)=r by omega]
 have ew:jx (fP n)=60:=rfl;unfold okP;rw[e,ew,tY h hr (by omega)];constructor
 ·rintro⟨a,b,c⟩;exact⟨by omega,c⟩
 ·rintro⟨a,c⟩;exact⟨by omega,by omega,c⟩
theorem KI {n:Nat}{A:List Ap}(h:qD n A){m:Int}{who:List Int}:Fit (fP n) ((List.range n).map fun(k:Nat)=>fS (ctm n A) k 5 (-1)) m who↔m=540/\ ∃r s,who=[r,s]/\r≠s/\(0<=r/\r<(n:Int))/\(0<=s/\s<(n:Int))/\r∉fB A/\s∉fB A:=by
 constructor
 ·rintro⟨h2,h3,h4,h5⟩;match who,h2 with
  |[r,s],_=>
   have hr:=jg.1 (h3 0 r (il n) rfl rfl);have hs:=jg.1 (h3 1 s (il n) rfl rfl);have o1:=(uS h hr).1 (h5 r (by simp));have o2:=(uS h hs).1 (h5 s (by simp));exact⟨o1.1,r,s,rfl,by simpa using h4,hr,hs,o1.2,o2.2⟩
 ·rintro⟨rfl,r,s,rfl,hrs,hr,hs,h6,h7⟩;refine⟨rfl,fun i x p hi hp=> ?_,by simpa using hrs,fun x hx=> ?_⟩
  ·match i,hi,hp with
   |0,hi,hp=>cases hi;cases hp;exact jg.2 hr
   |1,hi,hp=>cases hi;cases hp;exact jg.2 hs
  ·rcases bh.1 hx with rfl|hx
   ·exact(uS h hr).2 ⟨rfl,h6⟩
   ·cases bv.1 hx;exact(uS h hs).2 ⟨rfl,h7⟩
theorem IP {n:Nat}(h2:2<=n)(h8:n<=8)(A:List Ap):ia (fP n) [(List.range n).map fun(k:Nat)=>fS (ctm n A) k 5 (-1)]=0:=by
 have e:dW (fP n) (((List.range n).map fun(k:Nat)=>fS (ctm n A) k 5 (-1)).length:Int)=0:=by
  rw[aZ,List.length_range];exact IN n h2 h8
 rw[ia,e,aw (by simp)];rfl
theorem IQ {n:Nat}(h2:2<=n)(h8:n<=8){A:List Ap}(h:qD n A):
  (∃r s,r≠s/\(0<=r/\r<(n:Int))/\(0<=s/\s<(n:Int))/\r∉fB A/\s∉fB A/\(kY (ctm n A) 0 5 1).1=⟨0,0,5,540,[r,s],[]⟩)\/((kY (ctm n A) 0 5 1).1=noA 11/\ ∀r s:Int,r≠s->(0<=r/\r<(n:Int))->(0<=s/\s<(n:Int))->r∉fB A->s∈fB A):=by
 have hw:=KH n A;have hz:=IP h2 h8 A;have hok:vS (fP n) ((List.range n).map fun(k:Nat)=>fS (ctm n A) k 5 (-1)).length:=qt (sy hz _ (by simp))
 have eF:kY (ctm n A) 0 5 1=if(findP (fP n) (jN (ctm n A) (fP n) 5 1 0)).err≠0 then(noA (findP (fP n) (jN (ctm n A) (fP n) 5 1 0)).err,ctm n A) else(⟨0,0,(findP (fP n) (jN (ctm n A) (fP n) 5 1 0)).day+5,(findP (fP n) (jN (ctm n A) (fP n) 5 1 0)).min,(findP (fP n) (jN (ctm n A) (fP n) 5 1 0)).who,[]⟩,ctm n A):=by
  unfold kY;refine(aw (by show¬isN 0 1=false;decide)).trans ((aw (by decide)).trans ?_);rfl
 have hF:=fun m who=>KI h (m:=m) (who:=who);rw[eF,hw];generalize (List.range n).map (fun(k:Nat)=>fS (ctm n A) k 5 (-1))=fs at*;by_cases he:(findP (fP n) [fs]).err=0
 ·obtain⟨_,_,d,gs,e1,e2,e3,_⟩:=Az he
  have hd:d=0:=by
   have:=(aE.1 e2).1;simp at this;omega
  subst hd;cases aK e2;obtain⟨f1,r,s,f2,f3,f4,f5,f6,f7⟩:=(hF _ _).1 (xY hok e3).1;refine .inl ⟨r,s,f3,f4,f5,f6,f7,?_⟩;rw[aw (fun c=>c he),e1,f1,f2];rfl
 ·have e11:(findP (fP n) [fs]).err=11:=by
   unfold findP at he⊢;rw[aw (by simp),aw (by rw[hz];simp)]at he⊢;split at he
   ·exact absurd rfl he
   ·rfl
  obtain⟨_,_,e3⟩:=AA e11;rw[ay he,e11];refine .inr ⟨rfl,fun r s hrs hr hs hrt=>d7 fun hst=> ?_⟩;exact sH hok (e3 fs (by simp)) 540 [r,s] ((hF _ _).2 ⟨rfl,r,s,rfl,hrs,hr,hs,hrt,hst⟩)
theorem KJ {n:Nat}: ∀{l:List Int},l.Nodup->(∀r∈l,0<=r/\r<(n:Int))->l.length+2<=n-> ∃r s:Int,r≠s/\(0<=r/\r<(n:Int))/\(0<=s/\s<(n:Int))/\r∉l/\s∉l:=by
 intro l hn hm hl
 have one: ∀k:List Int,k.length<n-> ∃r:Int,(0<=r/\r<(n:Int))/\r∉k:=fun k hk=>by
  refine d7 fun hc=> ?_;have hs: ∀x∈il n,x∈k:=fun x hx=>d7 fun hx'=>hc ⟨x,jg.1 hx,hx'⟩;have:=List.Nodup.length_le_of_subset (Do n) hs;rw[lJ]at this;omega
 obtain⟨r,hr,hrl⟩:=one l (by omega);obtain⟨s,hs,hsl⟩:=one (r::l) (by rw[bz];omega);exact⟨r,s,fun e=>hsl (by rw[e];exact bc),hr,hs,hrl,fun e=>hsl (bn _ e)⟩
theorem IR {n:Nat}{l:List Int}(hn:l.Nodup)(hm: ∀r∈l,0<=r/\r<(n:Int)){r s:Int}(hrs:r≠s)(hr:0<=r/\r<(n:Int))(hs:0<=s/\s<(n:Int))(hrl:r∉l)(hsl:s∉l):l.length+2<=n:=by
 have hnd:(r::s::l).Nodup:=by
  rw[List.nodup_cons,List.nodup_cons,bh];exact⟨fun h=>h.elim hrs hrl,hsl,hn⟩
 have hsub: ∀x∈r::s::l,x∈il n:=fun x hx=>by
  rcases bh.1 hx with rfl|hx
  ·exact jg.2 hr
  ·rcases bh.1 hx with rfl|hx
   ·exact jg.2 hs
   ·exact jg.2 (hm x hx)
 have:=List.Nodup.length_le_of_subset hnd hsub;rw[lJ]at this;simpa using this
def nt (q:Int×Int):Ap:=⟨1,10,540,600,0,0,0,60,5,540,[q.1,q.2]⟩
def lK (q:Int×Int):Cm:=cHd 5 540 [q.1,q.2]
theorem IS {n:Nat}{A:List Ap}(h:qD n A)(h30:A.length<30){r s:Int}(hrs:r≠s)(hr:0<=r/\r<(n:Int))(hs:0<=s/\s<(n:Int))(hrl:r∉fB A)(hsl:s∉fB A):(doS (ctm n A) (lK (r,s))).2=ctm n (A++[nt (r,s)])/\qD n (A++[nt (r,s)]):=by
 have q1:=(tY h hr (show(540:Int)<600 by decide)).2 ⟨by omega,by omega,hrl⟩;have q2:=(tY h hs (show(540:Int)<600 by decide)).2 ⟨by omega,by omega,hsl⟩
 have hw:jV [r,s] [il n,il n]=0:=by
  show(if r∉il n then(6:Int) else if r∈[] then 7 else if s∉il n then 6 else if s∈[r] then 7 else 0)=0;rw[aw (fun c=>c (jg.2 hr)),aw (by simp),aw (fun c=>c (jg.2 hs)),aw (by rw[bv];exact fun e=>hrs e.symm)]
 have hp:lg (ctm n A) (-1) (tW (ctm n A) 0) 5 540 [r,s]=(nt (r,s),0):=by
  unfold lg;refine(aw (by decide)).trans ((aw (by show¬((540:Int)-0<0\/1440<540+60+0);decide)).trans ((aw (fun c=>c hw)).trans ?_));refine(aw ?_).trans rfl;show¬(!gH (fS (ctm n A) r 5 (-1)) (540-0) (540+60+0)||(!gH (fS (ctm n A) s 5 (-1)) (540-0) (540+60+0)||false))=true;rw[show(540:Int)-0=540 from rfl,show(540:Int)+60+0=600 from rfl,q1,q2];decide
 refine⟨?_,?_,?_,?_⟩
 ·show(FJ (ctm n A) 0 5 540 [r,s]).2=_;unfold FJ;rw[hp];refine(congrArg Prod.snd (aw (by show¬isN 0 1=false;decide))).trans ((congrArg Prod.snd (aw (by show¬30<=A.length;omega))).trans ?_);rfl
 ·intro x hx;rcases bJ.1 hx with hx|hx
  ·exact h.ap x hx
  ·cases bv.1 hx;exact⟨rfl,rfl,rfl,rfl,rfl⟩
 ·have e:fB (A++[nt (r,s)])=fB A++[r,s]:=by
   unfold fB;rw[dZ];rfl
  rw[e,List.nodup_append];refine⟨h.nd,by simpa using hrs,fun x hx y hy e=> ?_⟩;subst e;rcases bh.1 hy with rfl|hy
  ·exact hrl hx
  ·cases bv.1 hy;exact hsl hx
 ·intro x hx
  have e:fB (A++[nt (r,s)])=fB A++[r,s]:=by
   unfold fB;rw[dZ];rfl
  rw[e]at hx;rcases bJ.1 hx with hx|hx
  ·exact h.mem x hx
  ·rcases bh.1 hx with rfl|hx
   ·exact hr
   ·cases bv.1 hx;exact hs
def yd (n:Nat)(P:List (Int×Int)):Prop:=(ib (ctm n []) (P.map lK)).2=ctm n (P.map nt)/\qD n (P.map nt)
theorem IT (n:Nat):yd n []:=⟨rfl,⟨fun x hx=>by simp at hx,List.nodup_nil,fun r hr=>by simp[fB]at hr⟩⟩
theorem IU {n:Nat}(h2:2<=n)(h8:n<=8){P:List (Int×Int)}(h:yd n P):(2*P.length+2<=n-> ∃r s:Int,(kY (ctm n (P.map nt)) 0 5 1).1=⟨0,0,5,540,[r,s],[]⟩/\yd n (P++[(r,s)]))/\(n<2*P.length+2->(kY (ctm n (P.map nt)) 0 5 1).1=noA 11):=by
 obtain⟨hp,ht⟩:=h;have hl:(fB (P.map nt)).length=2*P.length:=by rw[AB fun x hx=>(ht.ap x hx).2.2.2.2,aZ]
 rcases IQ h2 h8 ht with⟨r,s,f3,f4,f5,f6,f7,e⟩|⟨e,e1⟩
 ·refine⟨fun hn=>⟨r,s,e,?_⟩,fun hn=> ?_⟩
  ·obtain⟨g1,g2⟩:=IS ht (by rw[aZ];omega) f3 f4 f5 f6 f7;have e1:(P++[(r,s)]).map nt=P.map nt++[nt (r,s)]:=(by rw[dh];rfl);have e2:(P++[(r,s)]).map lK=P.map lK++[lK (r,s)]:=(by rw[dh];rfl);refine⟨?_,by rw[e1];exact g2⟩;rw[e1,e2,kN,hp];exact g1
  ·have:=IR ht.nd ht.mem f3 f4 f5 f6 f7;omega
 ·refine⟨fun hn=> ?_,fun _=>e⟩;obtain⟨r,s,f3,f4,f5,f6,f7⟩:=KJ ht.nd ht.mem (by omega);exact absurd (e1 r s f3 f4 f5 f6) f7
theorem KK {n:Nat}(h2:2<=n)(h8:n<=8){P:List (Int×Int)}(h:yd n P):(eZ dk0 ([cR eS]++List.replicate n cAd++[cS (fP n)]++P.map lK++[cF 0 5 1])).1[n+2+P.length]? =some (kY (ctm n (P.map nt)) 0 5 1).1:=by
 rw[(Cv _).1,kN,kN]
 have hl:((ib co0 ([cR eS]++List.replicate n cAd++[cS (fP n)])).1++(ib (ib co0 ([cR eS]++List.replicate n cAd++[cS (fP n)])).2 (P.map lK)).1).length=n+2+P.length:=by
  rw[aL,qU,qU];simp
 rw[dG (by dsimp only;omega)];dsimp only;rw[FO h2 h8,h.1]at*;rw[hl,iB];rfl
def aS:List UInt8:=[114,117,108,101,32,97,32,61,32,48,57,58,48,48,45,49,55,58,48,48,59]
theorem Oy:kj aS=(0,oL 540 1020):=by kernel_rfl
theorem Oz:fO aS=(0,oL 540 1020):=by
 unfold fO;rw[Oy,aw (by decide),Lm (by decide)]
def anF (l:List (An×Value×Value)):List Value:=l.flatMap fun a=>(anC a.1 a.2.1 a.2.2).toList
structure yU (B:Nat)(w:World)(p:List An×Dk)(rv ev sv av asv:Value)(ss:List (Sv×Value))(aa:List (Ap×Value))(ls:List (An×Value×Value)):Prop where
 rules: ∃us,InR w rv us/\us.map (fun p=>p.1)=p.2.rules
 res:w.ownsRow B 9 1 ev p.2.res.length (p.2.res.map kK)
 svs:w.ownsRow B 35 4 sv ss.length (svF ss)
 sve:ss.map (fun p=>p.1)=p.2.svs
 svr: ∀q∈ss,fo w q.2 q.1.roles
 aps:w.ownsRow B 122 11 av aa.length (apF aa)
 ape:aa.map (fun p=>p.1)=p.2.aps
 apr: ∀q∈aa,dQ w q.2 q.1.who
 ans:w.ownsRow B 28 6 asv ls.length (anF ls)
 ane:ls.map (fun p=>p.1)=p.1
 anr: ∀a∈ls,mw B w a.2.1 a.1.who/\dQ w a.2.2 a.1.list
theorem yU.below {B:Nat}{w w':World}{p:List An×Dk}{rv ev sv av asv:Value}{ss:List (Sv×Value)}{aa:List (Ap×Value)}{ls:List (An×Value×Value)}(h:yU B w p rv ev sv av asv ss aa ls)(hb:ao w w'):yU B w' p rv ev sv av asv ss aa ls:=by
 have rk: ∀{e s n:Nat} {u:Value} {xs:List Value},w.ownsRow B e s u n xs->w'.ownsRow B e s u n xs:=fun hr=>bp hr fun b hq=>hb.block b (hr.lt b hq).2;obtain⟨us,h1,h2⟩:=h.rules;exact⟨⟨us,h1.below hb,h2⟩,rk h.res,rk h.svs,h.sve,fun q hq=>(h.svr q hq).below hb,rk h.aps,h.ape,fun q hq=>(h.apr q hq).below hb,rk h.ans,h.ane,fun a ha=>⟨⟨(h.anr a ha).1.1.below hb,(h.anr a ha).1.2⟩,(h.anr a ha).2.below hb⟩⟩
def Pp (B:Nat)(ys:List Nat)(l:List Cm)(w:World)(e:Ending)(w':World):Prop:=ao w w'/\((60<l.length/\e= .returned (.tuple #[.agg #[af,af,af,af],af,ag 0,ag 5]))\/(l.length<=60/\ ∃(rv ev sv av asv:Value) (ss:List (Sv×Value)) (aa:List (Ap×Value)) (ls:List (An×Value×Value)),e= .returned (.tuple #[.agg #[rv,ev,sv,av],asv,ag (eZ dk0 l).2.runs,ag 0])/\Rob (fun k=>k∉ys) (fun u=>yU B u (eZ dk0 l) rv ev sv av asv ss aa ls) w'))
theorem PX:(prog.info? 28).map (fun i=>(i.zero,i.size,i.bytes))=some (some (.agg #[ag 0,ag 0,ag 0,ag 0,af,af]),6,80):=by kernel_rfl
theorem Pq:prog.underlying 70=some (.slice 28):=by kernel_rfl
theorem dsT:prog.underlying 69=some (.struct (prog.fieldsOf 69)):=by kernel_rfl
theorem D9 (c:Cm)(p q:Option Addr)(n m k j:Nat):(doC c (.slice p n k) (.slice q m j)).all (·.oneCell')=true:=by simp[doC,kK,Value.oneCell']
theorem AD {R:Ending->World->Prop}{a:Act}{w:World}(g:Nat)(c:Array Value)(x:Value)(n er:Int)(hc:c.size=4)(hd:a.defers=[])(h2:a.tmps.getD 2 undef=ab g 0)(h3:a.tmps.getD 3 undef=x)(h4:a.tmps.getD 4 undef=ag n)(h5:a.tmps.getD 5 undef=ag er)
  (hg:w.heap[g]? =ah c 69) (hR:R (.returned (.tuple #[.agg c,x,ag n,ag er])) w):bodyPost prog f21 R .ret a w:=by
 refine aU (v:= .tuple #[.agg c,x,ag n,ag er]) ?_ hd hR;have hf:f21.results= #[ResultVar.cell 2 69,ResultVar.tmp 3,ResultVar.tmp 4,ResultVar.tmp 5]:=rfl;have h2':a.tmps[2]?.getD undef=ab g 0:=by simpa using h2
 have h3':a.tmps[3]?.getD undef=x:=by simpa using h3
 have h4':a.tmps[4]?.getD undef=ag n:=by simpa using h4
 have h5':a.tmps[5]?.getD undef=ag er:=by simpa using h5
 have hv:=dR (P:=prog) w g 69 69 _ _ _ hg dsT rfl (by rw[hc];kernel_rfl);simp[results,h2',h3',h4',h5',asAddr,hv]
theorem IV {gD:Nat}{t:Tr}{L L':List Nat}(h: ∀b∈L',b∈L){q:Nat}(hq:Fx gD (t.ad L) q):Fx gD (t.ad L') q:=⟨hq.1,fun hx=>hq.2 (by
 rcases bJ.1 hx with hx|hx
 ·exact fd _ (h q hx)
 ·exact eo _ hx)⟩
theorem dE.sub {B gD:Nat}{d:Dk}{t:Tr}{L L':List Nat}{w:World}(h:dE B gD d (t.ad L) w)(hs: ∀b∈L',b∈L):dE B gD d (t.ad L') w:=by
 obtain⟨h0,rv,cv,vv,kv,ss,aa,h⟩:=h;have mv: ∀{Φ:World->Prop},Rob (Fx gD (t.ad L)) Φ w->Rob (Fx gD (t.ad L')) Φ w:=fun hR=>hR.move (aA _) (fun _ _ _=>rfl) fun q _ hq=>IV hs hq
 exact⟨h0,rv,cv,vv,kv,ss,aa,h.blk,h.lo,mv h.rules,mv h.codes,mv h.vers,mv h.kept,h.res,h.svs,h.sve,fun p hp=>mv (h.svr p hp),h.aps,h.ape,fun p hp=>mv (h.apr p hp),fun q hq=>h.nx q (by
  rcases bJ.1 hq with hq|hq
  ·exact fd _ (hs q hq)
  ·exact eo _ hq)⟩
theorem KL (B:Nat)(ys:List Nat)(cs:List (Cm×Value×Value))(v:Value)(w:World)(hB0:B<=w.heap.size)(h:lT w v cs)(hT:Tbs B w)(hok: ∀q∈cs,wf q.1)(hwh: ∀q∈cs,Rob (fun k=>k<B) (fun u=>dQ u q.2.2 q.1.swho) w)(hys: ∀q∈ys,B<=q/\ ∃c T f,w.heap[q]? =some (.cells c T f)/\ ¬(T=208\/T=234\/T=143)):Calls prog 21 #[v] w (Pp B ys (cs.map fun q=>q.1) w):=by
 obtain⟨wA,hA,bA,nA⟩:=nb w #[af,af,af,af] 69;have HR:=aD h;obtain⟨p,kc,rfl,hlen,hx0⟩:=h;obtain⟨n,hn⟩:=aq cs.length;have HN:=aD hn;have HOK:=aD hok;have HT:=aD hT;have HWH:=aD hwh;have HYS:=aD hys;have HBA:=aD bA;rw[hn]at hlen⊢;obtain⟨l,hl⟩:=aq (cs.map (fun q=>q.1));have hll:l.length=n:=by rw[<-hl,aZ,hn]
 rw[hl];have HL:=aD hl;have HLL:=aD hll;clear hok hT hn hx0 hl hll hwh hys;by_cases h60:60<n
 ·have h60':(60:Int)<(n:Int):=by omega
  have HO:=aD (below_setRow bA (aA _) #[af,af,af,af]);have HRR:=aD (aJ _ _ _ #[af,af,af,af] _ _ nA);clear bA;go_enter func21,ntmps21;go_wp2_with(refine az rfl 69 _ _ rfl _ _ rfl rfl _ _ nA (by kernel_rfl) rfl (by simp[Value.oneCell']) ?_)
  exact AD w.heap.size _ _ 0 5 rfl rfl rfl rfl rfl rfl HRR.o ⟨HO.o,.inl ⟨by rw[HLL.o];exact h60,rfl⟩⟩
 ·have h60': ¬(60:Int)<(n:Int):=by omega
  obtain⟨wB,hB,bB,nB⟩:=nb wA #[af,af,af,af,af,af,ag 0,af,ag 0] 95;have hwA:w.heap.size<wA.heap.size:=(by rw[<-hA];simp);have hwB:wA.heap.size<wB.heap.size:=(by rw[<-hB];simp)
  have hd0:=Om (B:=B) (xs:=w.heap.size::ys) (by omega) (fun q hq=>by
   rcases bh.1 hq with rfl|hq
   ·omega
   ·obtain⟨h1,_,_,_,h2,_⟩:=HYS.o q hq;have:=aF h2;omega) nB
  have HD0:=aD hd0;have HBB:=aD (fE (au HBA.o bB) (bt bB nA));clear bA hd0 bB;go_enter func21,ntmps21;go_wp2_with fail;go_loopw [7,9,16] (fun v _ q wr=> ∃(j:Nat) (dd:Dk) (tt:Tr) (L:List Nat) (ls:List (An×Value×Value)),q=ag (j:Int)/\j<=n/\(tt.xs=w.heap.size::ys/\ ∀q,q<w.heap.size->Gx wA.heap.size tt q)/\dE B wA.heap.size dd (tt.ad L) wr/\(∀b,v.ownBlock=some b->b∈L)/\(∀b∈L,∃c,wr.heap[b]? =ah c 28)/\(ao w wr/\wr.heap[w.heap.size]? =ah #[af,af,af,af] 69)/\wr.ownsRow wA.heap.size 28 6 v j (anF ls)/\ls.length=j/\dd.given<=j/\(∀a∈ls,Rob (Fx wA.heap.size (tt.ad L)) (fun u=>mw B u a.2.1 a.1.who) wr/\Rob (Fx wA.heap.size (tt.ad L)) (fun u=>dQ u a.2.2 a.1.list) wr)/\eZ dk0 l=(ls.map (fun a=>a.1)++(eZ dd (l.drop j)).1,(eZ dd (l.drop j)).2)) (fun _ _ q _=>n-(intOf q).toNat);case atStart=>exact⟨0,dk0,⟨af,af,af,w.heap.size::ys⟩,[],[],rfl,by omega,⟨rfl,fun q hq=>⟨by omega,nofun,nofun,nofun⟩⟩,HD0.o,(fun b hb=>by cases hb),(fun b hb=>by cases hb),HBB.o,bV _ _ _ _,rfl,fi _,(fun a ha=>by cases ha),rfl⟩
  case round=>
   obtain⟨j,dd,tt,L,ls,rfl,hj,⟨htx,hgx⟩,hd,hLb,hLt,⟨hbr,hzr⟩,hown,hlj,hgv,hrb,hX⟩:=hrel;have hj0:(0:Int)<=(j:Int):=(by omega);by_cases hjn:j<n
   ·have hjn':(j:Int)<(n:Int):=(by omega);obtain⟨⟨c,rv,wv⟩,hcj⟩: ∃q,cs[j]? =some q:=⟨cs[j]'(by rw[HN.o];exact hjn),ax _⟩
    have hlc:l[j]? =some c:=(by rw[<-HL.o,bg,hcj];rfl);rw[FI dd hlc]at hX;obtain⟨p',k',e',_,hcell⟩:=HR.o;injection e' with e1 e3 e2;subst e1 e2;obtain⟨hcm,g,o,hpe,hrg⟩:=hcell j _ hcj;subst hpe;dsimp only at hcm hrg;have hdok:=HOK.o _ (aM hcj);have hrg':=it hrg hbr;have hcm':=hcm.below hbr;obtain⟨pr,kr,rfl,_,_⟩:=hcm.roles;obtain⟨pw,kw,rfl,_,_⟩:=hcm.who;obtain⟨wZ,wC,hZ,nZ,hC,bC,nC⟩:=nbs wr #[ag 0,ag 0,ag 0,ag 0,.string ⟨#[]⟩,.string ⟨#[]⟩,ag 0,ag 0,ag 0,af,ag 0,ag 0,af] (doC c (.slice pr c.sv.roles.length kr) (.slice pw c.swho.length kw)) 37;have hdC:=hd.below bC;have hbC:=au hbr bC;have hzC:=bt bC hzr;have hTC:Tbs B wC:=fun W hW=>HT.o W ((hbC.mono hB0).trans hW)
    have hLC: ∀b∈L,∃c,wC.heap[b]? =ah c 28:=fun b hb=>by
     obtain⟨x,hx⟩:=hLt b hb;exact⟨x,bt bC hx⟩
    have cD:=hdok B wA.heap.size dd (tt.ad L) wC pr pw kr kw hdC hTC (a6 hB0 hbC.size) (by omega) (fun b hb=>by
     rcases bJ.1 hb with hb|hb
     ·obtain⟨x,hx⟩:=hLC b hb;exact⟨x,_,_,hx,by decide⟩
     ·rw[htx]at hb;rcases bh.1 hb with rfl|hb
      ·exact⟨_,_,_,hzC,by decide⟩
      ·obtain⟨_,x,T,f,h2,h3⟩:=HYS.o b hb;exact⟨x,T,f,bt hbC h2,h3⟩) (hcm'.below bC) ((HWH.o _ (aM hcj)).below hbC)
    have hoC:=bp hown fun b hq=>bC.block b (hown.lt b hq).2
    have hgxL:(∀b∈L,Gx wA.heap.size (tt.ad L) b)/\Gx wA.heap.size (tt.ad L) w.heap.size:=by
     obtain⟨_,_,_,_,_,_,_,hm⟩:=hdC;exact⟨fun b hb=>(hm.nx b (fd _ hb)).2.2,(hm.nx _ (eo _ (by rw[htx];exact bc))).2.2⟩
    have HZC:=aD hzC;obtain⟨P,hP⟩:=aq (doP dd c);have HGV:P3 (P.2.given<=dd.given+1):=(by have:=IE dd c;rw[hP]at this;exact this);rw[hP]at cD hX
    have HX:P3 (eZ dk0 l=((ls.map (fun a=>a.1)++[P.1])++(eZ P.2 (l.drop (j+1))).1,(eZ P.2 (l.drop (j+1))).2)):=by
     show _=_;rw[hX,dm];rfl
    have HRB:P3 (∀a∈ls,Rob (Fx wA.heap.size (tt.ad L)) (fun u=>mw B u a.2.1 a.1.who) wC/\Rob (Fx wA.heap.size (tt.ad L)) (fun u=>dQ u a.2.2 a.1.list) wC):=fun a ha=>⟨(hrb a ha).1.below bC,(hrb a ha).2.below bC⟩
    have HBC:=aD hbC;have HDC:=aD hdC;have HOC:=aD hoC;have HGX:=aD hgxL;have HLB:=aD hLb;have HLC:=aD hLC;have HLJ:=aD hlj;have HTX:=aD htx;have HGX0:=aD hgx;have HDG:=aD hgv;clear hX hP hrb hbC hdC hoC hgxL hLb hLC hLt hlj htx hgv hdok hcm hcm' hrg hTC hcj hlc hcell e3 hown hd hbr bC hzr hzC hgx;go_wp2_with(first|(refine wpList_load_mid rfl 37 _ rfl g (o+j*13) rfl (doC c (.slice pr c.sv.roles.length kr) (.slice pw c.swho.length kw)).toList _ hrg' doT rfl (by kernel_rfl) ?_)|(refine az rfl 37 _ _ rfl _ _ rfl rfl _ _ nZ (by kernel_rfl) rfl (D9 _ _ _ _ _ _ _) ?_;rw[hC])|(refine aR rfl 37 _ rfl _ rfl _ _ _ _ nC doT rfl (by kernel_rfl) ?_))
    refine cD.mono ?_;rintro e w4 ⟨t',wv',lv,rfl,hd4,hk4,hw4,hl4⟩
    obtain⟨tt',htt,rfl⟩: ∃tt':Tr,tt'.xs=w.heap.size::ys/\t'=tt'.ad L:=⟨⟨t'.ev,t'.sv,t'.av,w.heap.size::ys⟩,rfl,by
     have e:=hk4.xs;obtain⟨a1,a2,a3,a4⟩:=t';dsimp only[Tr.ad]at e⊢;rw[e,HTX.o]⟩
    obtain⟨p5,c5,hv5,_,_⟩:=hw4.here.1;obtain⟨p6,c6,hv6,_,_⟩:=hl4.here;obtain⟨wE,hE,bE,nE⟩:=nb w4 #[ag P.1.err,ag P.1.num,ag P.1.day,ag P.1.min,wv',lv] 28;have hb4:ao w w4:=HBC.o.trans ⟨hk4.os,hk4.tape,hk4.output,hk4.size,fun q hq=>hk4.blk q (HGX0.o q hq) (aO hq HBC.o.size)⟩;have HG4:P3 (∀q,q<w.heap.size->Gx wA.heap.size tt' q):=fun q hq=>hk4.gx q (aO hq HBC.o.size) (HGX0.o q hq);have hbE:=au hb4 bE;have hoE:wE.ownsRow wA.heap.size 28 6 u7 j (anF ls):=bp HOC.o fun b hq=>(bE.block b (aO (HOC.o.lt b hq).2 hk4.size)).trans (hk4.blk b (HGX.o.1 b (HLB.o b hq)) (HOC.o.lt b hq).2);have hdE:=hd4.below bE;have HZE:=aD (bt bE ((hk4.blk _ HGX.o.2 (aF HZC.o)).trans HZC.o))
    have HLE:P3 (∀b∈L,∃c,wE.heap[b]? =ah c 28):=fun b hb=>by
     obtain⟨x,hx⟩:=HLC.o b hb;exact⟨x,bt bE ((hk4.blk b (HGX.o.1 b hb) (aF hx)).trans hx)⟩
    have HRE:P3 (∀a∈ls++[(P.1,wv',lv)],Rob (Fx wA.heap.size (tt'.ad L)) (fun u=>mw B u a.2.1 a.1.who) wE/\Rob (Fx wA.heap.size (tt'.ad L)) (fun u=>dQ u a.2.2 a.1.list) wE):=fun a ha=>by
     rcases bJ.1 ha with ha|ha
     ·exact⟨(hk4.rob (HRB.o a ha).1).below bE,(hk4.rob (HRB.o a ha).2).below bE⟩
     ·rw[bv.1 ha];exact⟨hw4.below bE,hl4.below bE⟩
    have HDE:=aD hdE
    have hsE:wA.heap.size<=wE.heap.size:=by
     obtain⟨_,_,_,_,_,_,_,hm⟩:=hdE;exact Nat.le_of_lt (aF hm.blk)
    have HBE:=aD hbE;have h1c:(#[ag P.1.err,ag P.1.num,ag P.1.day,ag P.1.min,wv',lv]:Array Value).all (·.oneCell')=true:=(by rw[hv5,hv6];simp[Value.oneCell']);unfold anC;subst hv5 hv6;clear cD hd4 hk4 hw4 hl4 hb4 hbE hdE bE HRB HOC HDC HBC HLC hrg' nZ nC hZ hC;go_wp2_with(at_builtin;refine ik rfl _ _ 70 28 rfl Pq PX rfl (by decide) (by decide) rfl hoE rfl nE rfl h1c (by omega) hsE ?_)
    rintro v2 w5 ho5 hgr hbl g5 c7 rfl;obtain⟨L',hd5,hL5,hL6,hmv⟩:=HDE.o.grown hoE HLB.o hgr ho5 hbl;have hb5:ao w w5/\w5.heap[w.heap.size]? =ah #[af,af,af,af] 69:=⟨HBE.o.grown hgr HBE.o.size (fun k hk=>by have:=(hoE.lt k hk).1;omega),(hgr.block _ (aF HZE.o) (fun e=>by have:=(hoE.lt _ e.symm).1;omega)).trans HZE.o⟩
    have HR5:P3 (∃(L:List Nat) (ls':List (An×Value×Value)),dE B wA.heap.size P.2 (tt'.ad L) w5/\(∀b,(Value.slice (some (ae g5 0)) (j+1) c7).ownBlock=some b->b∈L)/\(∀b∈L,∃c,w5.heap[b]? =ah c 28)/\(ao w w5/\w5.heap[w.heap.size]? =ah #[af,af,af,af] 69)/\w5.ownsRow wA.heap.size 28 6 (.slice (some (ae g5 0)) (j+1) c7) (j+1) (anF ls')/\ls'.length=j+1/\(∀a∈ls',Rob (Fx wA.heap.size (tt'.ad L)) (fun u=>mw B u a.2.1 a.1.who) w5/\Rob (Fx wA.heap.size (tt'.ad L)) (fun u=>dQ u a.2.2 a.1.list) w5)/\ls'.map (fun a=>a.1)=ls.map (fun a=>a.1)++[P.1]):=by
     have hsb: ∀b∈[g5],b∈L':=fun b hb=>(by rw[bv.1 hb];exact hL5 g5 rfl);have hm2: ∀{Φ:World->Prop},Rob (Fx wA.heap.size (tt'.ad L)) Φ wE->Rob (Fx wA.heap.size (tt'.ad [g5])) Φ w5:=fun hR=>(hmv _ hR).move (aA _) (fun _ _ _=>rfl) fun q _ hq=>IV hsb hq;refine⟨[g5],ls++[_],hd5.sub hsb,fun b hb=>by rw[bv];exact(aK hb).symm,fun b hb=> ?_,hb5,?_,by rw[aL,HLJ.o];rfl,fun a ha=>⟨hm2 (HRE.o a ha).1,hm2 (HRE.o a ha).2⟩,by rw[dh];rfl⟩
     ·rw[bv.1 hb];rcases ho5.2 with⟨e,_⟩|⟨g',cap,cur,e,_,hg',_⟩
      ·cases e
      ·injection e with e1 _ _;injection e1 with e1;injection e1 with e1;subst e1;exact⟨cur,hg'⟩
     ·unfold anF;rw[dZ];exact ho5
    clear hsE hoE ho5 hgr hbl nE hE hd5 hL5 hL6 hmv hb5 HDE HBE HLE HRE h1c;go_wp2_with fail;go_roundw
    case rel=>
     obtain⟨L,ls',q1,q2,q3,q4,q5,q6,q7,q8⟩:=HR5.o;exact⟨j+1,P.2,tt',L,ls',by go_num,by omega,⟨htt,HG4.o⟩,q1,q2,q3,q4,q5,q6,by have:=HGV.o;have:=HDG.o;omega,q7,by rw[q8];exact HX.o⟩
    case measure=>simp[intOf];omega
   ·have hjn': ¬(j:Int)<(n:Int):=(by omega);obtain rfl:n=j:=(by omega);rw[dc (by rw[HLL.o];exact aA _)]at hX
    have HX:P3 (eZ dk0 l=(ls.map (fun a=>a.1),dd)):=by
     show _=_;rw[hX];simp[eZ]
    obtain⟨hok,rv,cv,vv,kv,ss,aa,hm⟩:=hd
    obtain⟨pr,kr,hrv⟩: ∃p c,rv= .slice p dd.rules.length c:=by
     obtain⟨us,h1,h2⟩:=hm.rules.here;obtain⟨p,c,e⟩:=h1.form;exact⟨p,c,by rw[e,<-h2,aZ]⟩
    obtain⟨pe,ke,hev⟩:=bU hm.res;obtain⟨ps,ks,hsv⟩:=bU hm.svs;obtain⟨pa,ka,hav⟩:=bU hm.aps;obtain⟨px,kx,hxv⟩:=bU hown;have z0:=cr 0 hm.blk rfl;have z1:=cr (v:=tt.ev) 1 hm.blk rfl;have z2:=cr (v:=tt.sv) 2 hm.blk rfl;have z3:=cr (v:=tt.av) 3 hm.blk rfl;have z8:=cr 8 hm.blk rfl;obtain⟨n0,h0⟩:=aq dd.rules.length;obtain⟨n1,h1⟩:=aq dd.res.length;obtain⟨n2,h2⟩:=aq ss.length;obtain⟨n3,h3⟩:=aq aa.length;obtain⟨rn,hrn⟩:=aq dd.runs;have hev':tt.ev= .slice pe n1 ke:=(by rw[<-h1];exact hev);have hsv':tt.sv= .slice ps n2 ks:=(by rw[<-h2];exact hsv);have hav':tt.av= .slice pa n3 ka:=(by rw[<-h3];exact hav);rw[hrv,h0]at z0;rw[hev']at z1;rw[hsv']at z2;rw[hav']at z3;rw[hrn]at z8;subst hxv;have nAr:=hzr
    have HPY:P3 (∀W:World,wr.heap.size<=W.heap.size->(∀q,q<wr.heap.size->q≠w.heap.size->q∉ys->W.heap[q]? =wr.heap[q]?)->yU B W (eZ dk0 l) (.slice pr n0 kr) (.slice pe n1 ke) (.slice ps n2 ks) (.slice pa n3 ka) (.slice px n kx) ss aa ls):=fun W hs hW=>by
     have mv: ∀{Φ:World->Prop},Rob (Fx wA.heap.size (tt.ad L)) Φ wr->Φ W:=fun hR=>hR W hs fun q hq hl=>hW q hl (fun e=>hq.2 (eo _ (by rw[htx,e];exact bc))) fun e=>hq.2 (eo _ (by rw[htx];exact bn _ e));have hnx:=fun q (hq:q∈w.heap.size::ys)=>(hm.nx q (eo _ (by rw[htx];exact hq))).2.2;have rk: ∀{B e s k:Nat} {u:Value} {xs:List Value},wr.ownsRow B e s u k xs->(∀q∈w.heap.size::ys,some q≠u.ownBlock)->W.ownsRow B e s u k xs:=fun hr hn=>bp hr fun b hb=>hW b (hr.lt b hb).2 (fun e=>hn b (by rw[e];exact bc) hb.symm) fun e=>hn b (bn _ e) hb.symm
     have hoW:=rk hown fun q hq e=>by
      have h1:=(hown.lt _ e.symm).1;rcases bh.1 hq with rfl|hq
      ·omega
      ·obtain⟨_,_,_,_,h2,_⟩:=HYS.o q hq;have:=aF h2;omega
     rw[HX.o];refine⟨?_,?_,?_,hm.sve,fun q hq=>mv (hm.svr q hq),?_,hm.ape,fun q hq=>mv (hm.apr q hq),⟨hoW.1.trans (by rw[hlj]),?_⟩,rfl,fun a ha=>⟨mv (hrb a ha).1,mv (hrb a ha).2⟩⟩
     ·rw[<-h0,<-hrv];exact mv hm.rules
     ·rw[<-hev'];exact rk hm.res fun q hq=>(hnx q hq).2.1
     ·rw[<-hsv'];exact rk hm.svs fun q hq=>(hnx q hq).2.2.1
     ·rw[<-hav'];exact rk hm.aps fun q hq=>(hnx q hq).2.2.2
     ·rw[hlj];exact hoW.2.imp id fun⟨g,c,cu,q1,q2,q3⟩=>⟨g,c,cu,q1,by omega,q3⟩
    have HRN:P3 ((eZ dk0 l).2.runs=rn):=(by show _=_;rw[HX.o];exact hrn);have HBR:=aD hbr;have hwr:=aF nAr;clear hX hm hown hev hsv hav hrv h0 h1 h2 h3 hrn hev' hsv' hav' hrb hLb hLt hbr hok htx hlj hgv hzr;go_upto_region 10 with fail;refine dt (fun M _ W=>(M 6=false->ao wr W)/\(M 6=true-> ∃W0,ao wr W0/\Below W0.heap.size (W0.setRow w.heap.size #[.slice pr n0 kr,.slice pe n1 ke,.slice ps n2 ks,.slice pa n3 ka]) W)) [kn 26 (ab wA.heap.size 0),kn 27 (.agg #[.slice pr n0 kr,.slice pe n1 ke,.slice ps n2 ks,.slice pa n3 ka]),kn 28 (.slice px n kx),kn 29 (ab wA.heap.size 7),kn 30 (ab wA.heap.size 8),kn 31 (ag rn),nk,kn 3 (.slice px n kx),kn 4 (ag rn),kn 5 (ag 0)] (fun _=>⟨fun _=>(aG _ _).drew,(fun h=>by cases h)⟩) (fun _ _ _ _ hb h=>⟨fun c=>(h.1 c).trans (hb.mono (h.1 c).size),fun c=> ?_⟩) (by kernel_rfl) ?_ ?_
    ·obtain⟨W0,h1,h2⟩:=h.2 c;exact⟨W0,h1,h2.trans (hb.mono (by have:=h2.size;simpa using this))⟩
    ·rintro M φ W hJ hc F l' hl hF;have HJ:=aD hJ;clear hc hJ;simp only[kn,nk,dN,aQ,aW,Act.put,aB,aI,aH]at hl;subst hl;simp only[dg,Nat.reduceAdd]at hF;dsimp only[kn,nk,dC,en,dS,Act.put];and_intros;all_goals first|exact trivial|intro hw hn hm K hK
     all_goals try (go_simp;with_reducible exact hK _ _ ⟨rfl,aG _ _⟩)
     ·have hb:=HJ.o.1 (hn 6 _ rfl (by kernel_rfl));have z0:=aj hb z0;have z1:=aj hb z1;have z2:=aj hb z2;have z3:=aj hb z3;go_simp;exact hK _ _ ⟨rfl,aG _ _⟩
     ·have z8:W.cell? (ae wA.heap.size 8)=some (ag rn):=by
       cases hq:M 6 with
       |false=>exact((HJ.o.1 hq).cell (bT z8)).trans z8
       |true=>
        obtain⟨W0,h1,h2⟩:=HJ.o.2 hq;have hz:=aj h1 z8;exact(dL ((h2.block _ (bT hz)).trans (aT W0 w.heap.size wA.heap.size _ (by omega)))).trans hz
      go_simp;exact hK _ _ ⟨rfl,aG _ _⟩
     ·have hb:=HJ.o.1 hm;have nW:=bt hb nAr;show Oper.wp _ _ _ _ _ _;refine lL (ops:= #[]) rfl (az rfl 69 _ _ rfl _ #[.slice pr n0 kr,.slice pe n1 ke,.slice ps n2 ks,.slice pa n3 ka] (by simp[Act.eval,hF]) (by simp[Act.eval,hF]) _ _ nW (by kernel_rfl) rfl (by simp[Value.oneCell']) ?_);exact⟨rfl,hK undef _ ⟨trivial,fun c=>by simp at c,fun _=>⟨W,hb,aG _ _⟩⟩⟩
    ·rintro M φ W hM hJ;obtain⟨W0,h1,h2⟩:=hJ.2 (hM 6 (by decide) rfl);simp only[kn,nk,dP,aQ,aW,Act.put,aB,aI,aH];have m0:=bt h1 nAr;have m2:=aJ _ _ _ #[.slice pr n0 kr,.slice pe n1 ke,.slice ps n2 ks,.slice pa n3 ka] _ _ m0;have hsz:W0.heap.size<=W.heap.size:=(by have:=h2.size;simpa using this);have hW: ∀q,q<wr.heap.size->q≠w.heap.size->W.heap[q]? =wr.heap[q]? :=fun q hl hq=>(h2.block q (aO hl h1.size)).trans ((aT W0 w.heap.size q _ hq).trans (h1.block q hl));have HF1:=aD ((h2.block _ (aF m0)).trans m2);have HF2:=aD ((below_setRow (au HBR.o h1) (aA _) #[.slice pr n0 kr,.slice pe n1 ke,.slice ps n2 ks,.slice pa n3 ka]).trans (h2.mono (Nat.le_of_lt (aF m0))));have HF3:P3 (Rob (fun k=>k∉ys) (fun u=>yU B u (eZ dk0 l) (.slice pr n0 kr) (.slice pe n1 ke) (.slice ps n2 ks) (.slice pa n3 ka) (.slice px n kx) ss aa ls) W):=fun u hu ha=>HPY.o u (a6 h1.size (a6 hsz hu)) fun q hl hq hy=>(ha q hy (aO hl (a6 h1.size hsz))).trans (hW q hl hq);clear hM hJ h1 h2 m0 m2 hsz hW z0 z1 z2 z3 z8 nAr;go_wp2_with fail;exact AD w.heap.size #[.slice pr n0 kr,.slice pe n1 ke,.slice ps n2 ks,.slice pa n3 ka] _ rn 0 rfl rfl rfl rfl rfl rfl HF1.o ⟨HF2.o,.inr ⟨by rw[HLL.o];omega,_,_,_,_,_,_,_,_,by rw[HRN.o];rfl,HF3.o⟩⟩
end Go.Proofs.YtjkilacmkbmmbaaGreatDoor
