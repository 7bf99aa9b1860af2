/- Texts of the proof. -/
import Derived.Test.YtlkehieagdkgiaaGreatDoorPr37
set_option maxRecDepth 100000
set_option maxHeartbeats 8000000
namespace Go.Proofs.YtlkehieagdkgiaaGreatDoor
open Go.Proofs.Tryz Go.RowKit Lx Vx Mx Msk
def SvI (c:Co):Prop:= ∀s∈c.svs,Gf s c.res.length
theorem JT {s:Sv}{n m:Int}(h:Gf s n)(c:n<=m):Gf s m:=⟨h.meas,h.r1,h.r4,fun p a=>⟨(h.pool p a).len1,(h.pool p a).len8,fun r b=>⟨((h.pool p a).bd r b).1,Int.lt_of_lt_of_le ((h.pool p a).bd r b).2 c⟩,(h.pool p a).up⟩⟩
theorem qF {c a:Co}(h:SvI c)(e:a.svs=c.svs)(d:a.res=c.res):SvI a:=fun s b=>by
 rw[e]at b;rw[d];exact h s b
theorem kR (c:Co)(n:Int)(f:Ap->Ap×Int):(il c n f).2.svs=c.svs/\(il c n f).2.res=c.res/\(il c n f).2.rules=c.rules:=by
 unfold il;split
 ·exact⟨rfl,rfl,rfl⟩
 split<;>exact⟨rfl,rfl,rfl⟩
theorem uW (c:Co)(n day min:Int)(who:List Int):(kh c n day min who).2.svs=c.svs/\(kh c n day min who).2.res=c.res/\(kh c n day min who).2.rules=c.rules:=by
 unfold kh;split
 ·exact⟨rfl,rfl,rfl⟩
 split
 ·exact⟨rfl,rfl,rfl⟩
 split<;>exact⟨rfl,rfl,rfl⟩
theorem Qj {c:Co}(h:SvI c)(x:Cm):SvI (doS c x).2:=by
 unfold doS;split
 ·unfold ze;split
  ·exact h
  ·exact qF h rfl rfl
 split
 ·unfold GK;split
  ·exact h
  split
  ·exact h
  ·intro s a;refine JT (h s a) ?_;show(c.res.length:Int)<=((c.res++[x.name]).length:Int)
   rw[aQ];omega
 split
 ·unfold GL;split
  ·exact h
  split
  ·exact h
  ·rename_i b;intro s a;rcases cg.1 a with a|a
   ·exact h s a
   ·cases da.1 a;exact tw (Classical.not_not.1 b)
 split
 ·unfold BC;split
  ·exact h
  split
  ·exact h
  split<;>exact h
 split
 ·exact qF h (uW ..).1 (uW ..).2.1
 split
 ·exact qF h (kR ..).1 (kR ..).2.1
 split
 ·exact qF h (kR ..).1 (kR ..).2.1
 split
 ·exact qF h (kR ..).1 (kR ..).2.1
 split
 ·unfold BB;split
  ·exact h
  ·exact qF h rfl rfl
 ·exact h
theorem Fa: ∀(l:List Cm) (c:Co),SvI c->SvI (gy c l).2
 |[],_,h=>h
 |x::l,c,h=>Fa l (doS c x).2 (Qj h x)
theorem Pz:SvI co0:=fun _ a=>absurd a List.not_mem_nil
theorem Du {who:List Int}{roles:List (List Int)}: ∀m i:Nat,pY who roles m i=0-> ∀k,i<=k->k<i+m->who.getD k 0∈roles.getD k []
 |0,i,_,k,c,d=>by omega
 |m+1,i,h,k,c,d=>by
  rw[pY]at h;split at h
  ·cases h
  split at h
  ·cases h
  rename_i a b;by_cases e:k=i
  ·subst e;exact Classical.not_not.1 a
  ·exact Du m (i+1) h k (by omega) (by omega)
theorem PA {who:List Int}{roles:List (List Int)}(h:jL who roles=0){r:Int}(f:r∈who): ∃p∈roles,r∈p:=by
 unfold jL at h;split at h
 ·cases h
 rename_i d;have e:=Classical.not_not.1 d;obtain⟨i,hi⟩:=List.getElem?_of_mem f;have c:=(aF.1 hi).1;have a:=Du _ _ h i (dz _) (by omega);have b:roles[i]? =some (roles[i]'(by omega)):=ay _;rw[dc,dc,hi,b]at a;exact⟨_,List.getElem_mem _,a⟩
def oG (c:Co)(p:Ap):Prop:=p.fr<p.to/\ ∀r∈p.who,(0<=r/\r<(c.res.length:Int))/\fk (mS c r p.day) p.fr p.to=true
theorem oG.keep {c a:Co}{p:Ap}(h:oG c p)(b:a.res=c.res)(d:a.rules=c.rules):oG a p:=by
 refine⟨h.1,fun r e=> ?_⟩;have:=h.2 r e;unfold mS at this⊢;rw[b,d];exact this
theorem zj {c:Co}(k:SvI c){n:Int}{a:Ap}{day min:Int}{who:List Int}(q:1<=a.len/\0<=a.bef/\0<=a.aft)(s:0<=a.sv/\a.sv<c.svs.length)(h:(fA c n a day min who).2=0):oG c (fA c n a day min who).1:=by
 rw[xH h];have f:a.sv.toNat<c.svs.length:=by omega
 have o:c.svs.getD a.sv.toNat sv0∈c.svs:=by rw[dc,ay f];exact List.getElem_mem f
 have d:=k _ o;unfold fA at h;split at h
 ·cases h
 split at h
 ·cases h
 split at h
 ·rename_i b;exact absurd h b
 split at h
 ·cases h
 rename_i _ _ b j;refine⟨by show min-a.bef<min+a.len+a.aft;omega,fun r g=> ?_⟩;obtain⟨p,l,e⟩:=PA (Classical.not_not.1 b) g;refine⟨(d.pool p l).bd r e,?_⟩
 have m:fk (fS c r day n) (min-a.bef) (min+a.len+a.aft)=true:=by
  cases hb:fk (fS c r day n) (min-a.bef) (min+a.len+a.aft) with
  |true=>rfl
  |false=>exact absurd (List.any_eq_true.2 ⟨r,g,by rw[hb];rfl⟩) j
 refine JP m fun i _ hi=> ?_;unfold fS rT at hi;simp only[bv]at hi;exact hi.1.1
theorem Ee {c:Co}(j:CI c)(i:SvI c){n day min:Int}{who:List Int}(h:(kh c n day min who).1.err=0):0<=(kh c n day min who).1.num/\ ∃p,(kh c n day min who).2.aps[(kh c n day min who).1.num.toNat]? =some p/\oG (kh c n day min who).2 p:=by
 obtain⟨p,b⟩:=NX j h;obtain⟨o,r⟩:=rB (n:=n) (m:=c.svs.length) (by rw[b.nn];decide);have l:=zj i (a:=kQ c n) b.meas ⟨o,r⟩ b.pl;have k:=uW c n day min who
 have g:(fA c (-1) (kQ c n) day min who).1=p:=by
  have e:=b.is;unfold kh at e;rw[ax (by rw[b.nn];decide)]at e;split at e
  ·have:=congrArg (fun q=>q.1.err) e;exact absurd this (by decide:(5:Int)≠0)
  rw[ax (fun q=>q b.pl)]at e;have d:=congrArg (fun q=>q.2.aps) e;have f:=List.append_cancel_left d;exact(List.cons.inj f).1
 refine⟨by rw[b.is];exact Int.natCast_nonneg _,p,?_,?_⟩
 ·rw[b.is];show(c.aps++[p])[(c.aps.length:Int).toNat]? =some p;rw[cY];simp
 ·rw[<-g];exact l.keep k.2.1 k.2.2
theorem Ef {c:Co}(i:CI c)(g:SvI c){n day min:Int}{who:List Int}(h:(il c n fun a=>fA c n a day min who).1.err=0): ∃p,(il c n fun a=>fA c n a day min who).2.aps[n.toNat]? =some p/\0<=n/\n<c.aps.length/\oG (il c n fun a=>fA c n a day min who).2 p:=by
 have k:=kR c n fun a=>fA c n a day min who;unfold il at h k⊢;split at h
 ·exact absurd h (by decide:(6:Int)≠0)
 rename_i e;rw[ax e]at k⊢;split at h
 ·rename_i b;exact absurd h b
 rename_i b;rw[ax b]at k⊢;obtain⟨o,r⟩:=rB (n:=n) (m:=c.aps.length) fun q=>e (.inl q);have d:n.toNat<c.aps.length:=by omega
 have l:c.aps.getD n.toNat ap0∈c.aps:=by rw[dc,ay d];exact List.getElem_mem d
 have f:=i.aps _ l;have j:=zj g (a:=c.aps.getD n.toNat ap0) f.meas f.sv (Classical.not_not.1 b);refine⟨_,?_,o,r,j.keep k.2.1 k.2.2⟩;show(c.aps.set n.toNat _)[n.toNat]? =_;rw[eV d]
theorem JU (l:List Cm)(i:Nat)(x:Cm)(k:l[i]? =some x)(b:x.kind=5\/x.kind=8)(a:An)(ha:(gy co0 l).1[i]? =some a)(d:a.err=0):0<=(if x.kind=8 then x.n else a.num)/\ ∃p,(gy co0 (l.take (i+1))).2.aps[(if x.kind=8 then x.n else a.num).toNat]? =some p/\oG (gy co0 (l.take (i+1))).2 p:=by
 have e:=Ag l co0 i x k;rw[ha]at e;have ea:=aN e;have m:l.take (i+1)=l.take i++[x]:=by rw[eR,k];rfl
 have j:=E4 (l.take i) co0 Pi;have g:=Fa (l.take i) co0 Pz;rw[m,Bk];generalize (gy co0 (l.take i)).2=c at*;show _/\ ∃p,(doS c x).2.aps[(if x.kind=8 then x.n else a.num).toNat]? =some p/\oG (doS c x).2 p;rw[ea]at d⊢;rcases b with b|b
 ·have f:doS c x=kh c x.n x.sday x.smin x.swho:=by
   unfold doS;rw[b];rfl
  rw[f]at d⊢;rw[ax (by rw[b];decide)];exact Ee j g d
 ·have f:doS c x=il c x.n (fun a=>fA c x.n a x.sday x.smin x.swho):=by
   unfold doS;rw[b];rfl
  rw[f]at d⊢;rw[aB b];obtain⟨p,o,r,_,q⟩:=Ef j g d;exact⟨r,p,o,q⟩
theorem JV {c:Co}{p:Ap}(h:oG c p){r:Int}(i:r∈p.who):0<=r/\r<c.res.length/\0<=atP5 c.rules (c.res.getD r.toNat [])/\fk (gL c.rules (wkB p.day) p.day (atP5 c.rules (c.res.getD r.toNat [])).toNat) p.fr p.to=true:=by
 obtain⟨⟨d,e⟩,a⟩:=h.2 r i;have g:=h.1;unfold mS at a;by_cases b:atP5 c.rules (c.res.getD r.toNat [])<0
 ·rw[aB b]at a;have f:=(JQ _ _ _).1 a;have:=f.2.2.2 p.fr.toNat (by omega) (by omega);cases this
 ·rw[ax b]at a;exact⟨d,e,by omega,a⟩
theorem PB {d:Dk}{c:Co}(h:coD d=c):d.rules=c.rules/\d.res=c.res/\d.svs=c.svs/\d.aps=c.aps:=by
 subst h;exact⟨rfl,rfl,rfl,rfl⟩
theorem JW (l:List Cm)(i:Nat)(x:Cm)(o:l[i]? =some x)(k:x.kind=5\/x.kind=8)(a:An)(ha:(playP dk0 l).1[i]? =some a)(g:a.err=0):0<=(if x.kind=8 then x.n else a.num)/\ ∃p,(playP dk0 (l.take (i+1))).2.aps[(if x.kind=8 then x.n else a.num).toNat]? =some p/\p.fr<p.to/\ ∀r∈p.who,0<=r/\r<(playP dk0 (l.take (i+1))).2.res.length/\0<=atP5 (playP dk0 (l.take (i+1))).2.rules ((playP dk0 (l.take (i+1))).2.res.getD r.toNat [])/\fk (gL (playP dk0 (l.take (i+1))).2.rules (wkB p.day) p.day (atP5 (playP dk0 (l.take (i+1))).2.rules ((playP dk0 (l.take (i+1))).2.res.getD r.toNat [])).toNat) p.fr p.to=true:=by
 rw[(pU l).1]at ha;obtain⟨b,p,j,c⟩:=JU l i x o k a ha g;obtain⟨d,e,_,f⟩:=PB (pU (l.take (i+1))).2.1;rw[d,e,f];exact⟨b,p,j,c.1,fun r m=>JV c m⟩
theorem LK (l:List Cm){p:Ap}(c:p∈(playP dk0 l).2.aps):my (playP dk0 l).2.rules p.day=(0,0)/\ir (playP dk0 l).2.rules=(0,0):=by
 have a:=(pU l).2.2;have d:=a.ad p c;have b:=sV (l:=(playP dk0 l).2.rules) (by rw[a.flt]);refine⟨?_,a.flt⟩;unfold my;rw[ax (fun q=>q b.1),ax (by omega)]
theorem wnK {b:Array Oper}{A:Act}{o:Oper}{e d:Nat}{a:Bool}(g:o.guard=some (e,a))(f:(b[e]?).bind (·.dst)=some d)(c:A.tmps[d]?.getD undef= .bool a):Region.wanted o (yielded b A.tmps)=true:=by
 unfold Region.wanted;rw[g];unfold yielded;dsimp only;rw[f];dsimp only[Option.bind_some];cases h:A.tmps[d]? with
 |none=>rw[h]at c;cases c
 |some v=>
  rw[h]at c;have:v= .bool a:=c;subst this;simp
theorem GS {w:World}{p:Option Addr}{k:Nat}{a:List (Cm×Value×Value)}(h:jR w (.slice p a.length k) a){j:Nat}(g:j<=a.length):jR w (.slice p j k) (a.take j):=by
 obtain⟨n,m,e,l,b⟩:=h;injection e with c d f;subst c f;clear d;refine⟨p,k,by rw[d9,fb g],by rw[d9];omega,fun i q hi=>b i q ?_⟩;rw[iK]at hi;split at hi
 ·exact hi
 ·cases hi
def GU (l:List Cm)(j kn:Nat):Prop:= ∃p,(playP dk0 (l.take (j+1))).2.aps[kn]? =some p/\ ∀r∈p.who,0<=r/\r<(playP dk0 (l.take (j+1))).2.res.length/\0<=atP5 (playP dk0 (l.take (j+1))).2.rules ((playP dk0 (l.take (j+1))).2.res.getD r.toNat [])/\fk (gL (playP dk0 (l.take (j+1))).2.rules (wkB p.day) p.day (atP5 (playP dk0 (l.take (j+1))).2.rules ((playP dk0 (l.take (j+1))).2.res.getD r.toNat [])).toNat) p.fr p.to=true
theorem Fb (l:List Cm)(j:Nat)(c:Cm)(g:l[j]? =some c)(f:c.kind=5\/c.kind=8)(a:An)(ha:(playP dk0 l).1[j]? =some a)(b:a.err=0): ∃kn:Nat,(if c.kind=8 then c.n else a.num)=(kn:Int)/\GU l j kn:=by
 obtain⟨i,p,d,_,e⟩:=JW l j c g f a ha b;exact⟨(if c.kind=8 then c.n else a.num).toNat,by omega,p,d,e⟩
theorem JX {l:List Ru}{day:Int}(h:my l day=(0,0)){i:Nat}(hi:i<l.length):(kV l day)[i]? =some (gL l (wkB day) day i):=by
 unfold kV;rw[aB (by rw[h]),aZ,List.getElem?_range hi];rfl
theorem LL {B:Nat}{w:World}{l:List Cm}{j kn:Nat}{R ev sv av D:Value}{ss:List (Sv×Value)}{S:List (Ap×Value)}{ls:List (An×Value×Value)}(h:po B w (playP dk0 (l.take (j+1))) R ev sv av D ss S ls)(V:GU l j kn): ∃(d:Ap) (C:List (Ru×Value)) (z:Option Addr) (N x:Nat) (A:Option Addr) (O I:Nat) (y:Option Addr) (u q Q J:Nat),R= .slice z N x/\ev= .slice A O I/\av= .slice (some (ae q 0)) Q J/\QR (InR w (.slice z N x) C)/\QR (C.map (fun p=>p.1)=(playP dk0 (l.take (j+1))).2.rules)/\my (playP dk0 (l.take (j+1))).2.rules d.day=(0,0)/\kn<Q/\w.rangeAt q (kn*11) (apC (d,.slice y d.who.length u)).toList/\QR (dH w (.slice y d.who.length u) d.who)/\QR (∀r∈d.who,∃(t b o:Nat) (s:List UInt8) (f:Nat->Bool),r=(b:Int)/\b<O/\A=some ⟨t,0,none⟩/\w.cell? (ae t b)=some (.string ⟨s.toArray⟩)/\atP5 (playP dk0 (l.take (j+1))).2.rules s=(o:Int)/\(kV (playP dk0 (l.take (j+1))).2.rules d.day)[o]? =some f/\fk f d.fr d.to=true):=by
 obtain⟨p,F,U⟩:=V;have L:=(LK (l.take (j+1)) (aM F)).1;generalize playP dk0 (l.take (j+1))=P at*;obtain⟨C,m,H⟩:=h.rules;obtain⟨z,x,rfl⟩:=m.form;obtain⟨A,I,rfl⟩:=bK h.res;rw[<-h.ape,aZ]at F;obtain⟨⟨p',v⟩,M,e⟩:=dU.1 F;dsimp only at e;subst e;have i:=(aF.1 M).1;obtain⟨a,y,u,q,J,ha,Z,G,hw⟩:=Qd h.aps h.apr i;rw[M]at ha;obtain⟨E,T⟩:=Prod.mk.inj (aN ha);subst E T;refine⟨p',C,z,_,x,A,_,I,y,u,q,_,J,rfl,rfl,Z,aD m,aD H,L,i,G,aD hw,aD fun r G=> ?_⟩;obtain⟨r0,r1,r2,K⟩:=U r G;obtain⟨b,rfl⟩: ∃n:Nat,r=(n:Int):=⟨r.toNat,by omega⟩
 rw[cY]at r2 K;have k:b<P.2.res.length:=by omega
 have Y:P.2.res[b]? =some (P.2.res.getD b []):=by rw[dc,ay k];rfl
 generalize P.2.res.getD b []=s at*;obtain⟨o,g⟩: ∃n:Nat,atP5 P.2.rules s=(n:Int):=⟨(atP5 P.2.rules s).toNat,by omega⟩
 rw[g,cY]at K;obtain⟨t,c,e,_,X⟩:=np h.res (by omega);injection e with E;have W:=ng P.2.rules s;rw[g]at W;exact⟨t,b,o,s,_,rfl,k,E,X b _ (by rw[aZ,Y];rfl),g,JX L (by omega),K⟩
theorem GV (u:List (Cm×Value×Value))(v:Value)(w:World)(hs:jR w v u)(ad: ∀p n k,v= .slice p n k->n<=k)(hT:Tbs w.heap.size w):Calls prog 3 #[v] w fun e w'=>e= .returned (.bool true)/\aq w w':=by
 have c1:=wf w hT;have HS:=aD hs;have HT:=aD hT;obtain⟨p,k,rfl,bh,Q⟩:=id hs;have ad:=ad _ _ _ rfl;have aG:=aD Q;clear hT hs Q;go_enter func3,ntmps3;go_wp2_with fail;refine c1.mono ?_;rintro e w1 ⟨rfl,b1⟩;clear c1;have c2:=rA u _ w1 (HS.o.below b1) (fun W hW=>HT.o W (aw b1 hW)) (fun q _=>rD q.1);have aL:=aD b1;clear b1;go_wp2_with fail;refine c2.mono ?_;clear c2;rintro e w5 ⟨b5,h5⟩;have am:=aD (aw aL.o b5);clear b5;rcases h5 with⟨_,rfl⟩|⟨a1,rv,ev,sv,av,bv,ss,aa,ls,rfl,z⟩
 ·obtain⟨wZ,wC,hZ,O,hC,bC,nC⟩:=nbs w5 #[af,af,af,af] #[af,af,af,af] 29;have aN:=aD (aw am.o bC);clear bC nC;go_wp2_with(refine az rfl 29 _ _ rfl _ _ rfl rfl _ _ O (by kernel_rfl) rfl (by simp[Value.oneCell']) ?_;rw[hC])
  go_ret;exact⟨rfl,aN.o⟩
 ·replace z:=z.here;rw[ba]at a1;have L:=uS (u.map fun q=>q.1);rw[ba]at L;obtain⟨us,a8,_⟩:=z.rules;obtain⟨p1,k1,rfl⟩:=a8.form;obtain⟨p2,k2,rfl⟩:=bK z.res;obtain⟨p3,k3,ai⟩:=bK z.svs;obtain⟨p4,k4,bm⟩:=bK z.aps;subst ai bm;obtain⟨px,cx,rfl,E⟩:=z.at7;obtain⟨m,hm⟩:=au u.length;rw[L];rw[hm]at a1 L bh ad⊢;have HM:=aD hm
  have aI:QR (∀j<m,∃(g:Nat) (a:An),px=some ⟨g,0,none⟩/\(playP dk0 (u.map fun q=>q.1)).1[j]? =some a/\w5.cell? (ae g (j*6))=some (ag a.err)/\w5.cell? (ae g (j*6+1))=some (ag a.num)):=fun j hj=>by
   obtain⟨a,ha⟩: ∃a,(playP dk0 (u.map fun q=>q.1)).1[j]? =some a:=⟨_,ay (by omega)⟩
   obtain⟨g,wv,lv,e,r,_,_⟩:=E j a ha;exact⟨g,a,e,ha,r 0 _ rfl,r 1 _ rfl⟩
  generalize us.length=n1;generalize (playP dk0 (u.map fun q=>q.1)).2.res.length=n2;generalize ss.length=n3;generalize aa.length=n4;generalize (playP dk0 (u.map fun q=>q.1)).2.runs=rn;obtain⟨wZ,wC,hZ,O,hC,bC,nC⟩:=nbs w5 #[af,af,af,af] #[.slice p1 n1 k1,.slice p2 n2 k2,.slice p3 n3 k3,.slice p4 n4 k4] 29;have aO:=aD bC;have a0:=aD (aw am.o bC);clear z L a8 E hm bC nC;go_wp2_with(refine az rfl 29 _ _ rfl _ _ rfl rfl _ _ O (by kernel_rfl) rfl (by simp[Value.oneCell']) ?_;rw[hC])
  clear hZ O hC;go_loopw [7,8,9,10,11,12,13,14,15,16,18,19,33] (fun _ _ _ _ _ _ _ _ _ _ _ _ q wr=> ∃j:Nat,q=ag (j:Int)/\j<=m/\aq wC wr) (fun _ _ _ _ _ _ _ _ _ _ _ _ q _=>m-(intOf q).toNat);case atStart=>exact⟨0,rfl,dz _,aH _ _⟩
  case round=>
   obtain⟨j,rfl,hj,B⟩:=hrel;have b3:(0:Int)<=(j:Int):=(by omega);by_cases bk:j<m
   ·have a6:(j:Int)<(m:Int):=(by omega);obtain⟨q,hx⟩: ∃x,u[j]? =some x:=⟨u[j]'(by have:=HM.o;omega),ay _⟩
    obtain⟨g,a,rfl,hA,y0,G⟩:=aI.o j bk;obtain⟨Z,gp,op,rfl,y⟩:=aG.o j q hx;obtain⟨c,rq,sq⟩:=q;obtain⟨pr,kr,er,_,_⟩:=Z.roles;obtain⟨pw,kw,ew,_,_⟩:=Z.who;dsimp only at er ew y;subst er ew;have X:=aw aO.o B;have Y:=aw a0.o B;replace y:=dS y Y;obtain⟨wZ,wB,hZ,O,hB,bB,nB⟩:=nbs wr #[ag 0,ag 0,ag 0,ag 0,.string ⟨#[]⟩,.string ⟨#[]⟩,ag 0,ag 0,ag 0,af,ag 0,ag 0,af] (doC c (.slice pr c.sv.roles.length kr) (.slice pw c.swho.length kw)) 41;replace y0:=((aw X bB).cell (bN y0)).trans y0;replace G:=((aw X bB).cell (bN G)).trans G;have x0:wB.cell? (ae wr.heap.size 0)=some (ag c.kind):=cr 0 nB rfl;have T:wB.cell? (ae wr.heap.size 1)=some (ag c.n):=cr 1 nB rfl
    have H:(a.err !=0)=true\/((a.err !=0)=false/\(c.kind !=5)=true/\(c.kind !=8)=true)\/((a.err !=0)=false/\ ∃ki:Nat,GU (u.map fun q=>q.1) j ki/\(((c.kind !=5)=false/\(c.kind==8)=false/\wB.cell? (ae g (j*6+1))=some (ag (ki:Int))/\wB.cell? (ae wr.heap.size 1)=some (ag c.n))\/((c.kind !=5)=true/\(c.kind !=8)=false/\(c.kind==8)=true/\wB.cell? (ae g (j*6+1))=some (ag a.num)/\wB.cell? (ae wr.heap.size 1)=some (ag (ki:Int))))):=by
     by_cases I:a.err=0
     ·have aC:(u.map fun q=>q.1)[j]? =some c:=(by rw[aZ,hx];rfl);by_cases h5:c.kind=5
      ·obtain⟨ki,e,P⟩:=Fb _ j c aC (.inl h5) a hA I;rw[ax (by omega)]at e;exact .inr (.inr ⟨by simp[I],ki,P,.inl ⟨by simp[h5],by simp[h5],by rw[<-e];exact G,T⟩⟩)
      ·by_cases h8:c.kind=8
       ·obtain⟨ki,e,P⟩:=Fb _ j c aC (.inr h8) a hA I;rw[aB h8]at e;exact .inr (.inr ⟨by simp[I],ki,P,.inr ⟨by simp[h8],by simp[h8],by simp[h8],G,by rw[<-e];exact T⟩⟩)
       ·exact .inr (.inl ⟨by simp[I],by simpa using h5,by simpa using h8⟩)
     ·exact .inl (by simpa using I)
    have U:=aD (aw B bB);have ar:=aD (aw Y bB);have NB:=aD nB;dsimp only[doC]at hB y;clear G T X Y bB nB B hx hA Z;rcases H with I|⟨I,h2,h3⟩|⟨I,ki,P,⟨h2,h4,G,T⟩|⟨h2,h3,h4,G,T⟩⟩;rotate_left 2
    all_goals try
     have b4:(j:Int)+1<=(k:Int):=by omega
     have b7:(0:Int)<=(j:Int)+1:=by omega
     have bJ:IntKind.i64.wrap ((j:Int)+1)=(j:Int)+1:=by rw[bO];omega
     have c3:=rA (u.take (j+1)) (.slice (some (ae gp op)) (j+1) k) wB ((GS HS.o (by rw[HM.o];omega)).below ar.o) (fun W hW=>HT.o W (aw ar.o hW)) (fun q _=>rD q.1)
     rw[List.map_take]at c3
     have bc:=aD P
     clear P
     go_upto_region 9 with(first|(refine wpList_load_mid rfl 41 _ rfl gp (op+j*13) rfl _ _ y doT rfl (by kernel_rfl) ?_)|(refine az rfl 41 _ _ rfl _ _ rfl rfl _ _ O (by kernel_rfl) rfl (by simp[jB,Value.oneCell']) ?_;rw[hB]))
     clear y hZ O hB
     go_wp2_with fail
     refine c3.mono ?_
     clear c3 y0
     rintro e w6 ⟨b6,h6⟩
     rcases h6 with⟨bf,_⟩|⟨_,bQ,bx,bR,bw,bs,bq,bu,bp,rfl,z⟩
     ·rw[d9,ba]at bf
      have:=HM.o
      omega
     replace z:=z.here
     obtain⟨b,us,q1,n1,l1,q2,n2,l2,al,ak,ga,n4,l4,rfl,rfl,rfl,HU,ap,a5,bi,N,a3,a4⟩:=LL z bc.o
     have bI:=NQ a3.o
     obtain⟨q3,l3,ai⟩:=bK z.svs
     obtain⟨q5,l5,bn⟩:=bK z.ans
     subst ai bn
     generalize bq.length=n3
     generalize bp.length=n6
     generalize (playP dk0 ((u.map fun q=>q.1).take (j+1))).2.runs=bM at*
     obtain⟨wY,wG,hY,nY,hG,bG,nG⟩:=nbs w6 #[af,af,af,af] #[.slice q1 n1 l1,.slice q2 n2 l2,.slice q3 n3 l3,.slice (some (ae ga 0)) n4 l4] 29
     obtain⟨wX,wP,hX,nX,hQ,bP,nP⟩:=nbs wG apZ (apC (b,.slice al b.who.length ak)) 45
     unfold apZ at hX nX
     have A:=aw b6 bG
     replace x0:=aj A x0
     replace G:=aj A G
     replace T:=aj A T
     have z3:wG.cell? (ae w6.heap.size 3)=some (.slice (some (ae ga 0)) n4 l4):=cr 3 nG rfl
     replace N:=dS N bG
     have nG:=bt bP nG
     have z0:wP.cell? (ae w6.heap.size 0)=some (.slice q1 n1 l1):=cr 0 nG rfl
     have x8:wP.cell? (ae wG.heap.size 8)=some (ag b.day):=cr 8 nP rfl
     have bA:(ki:Int)<(n4:Int):=by omega
     have b9:(0:Int)<=(ki:Int):=by omega
     have c4:Calls prog 10 #[.slice q1 n1 l1,ag b.day] wP fun r W'=> ∃vm,r= .returned (.tuple #[vm,.agg #[ag 0,ag 0]])/\Gi W' vm (kV (playP dk0 ((u.map fun q=>q.1).take (j+1))).2.rules b.day)/\aq wP W':=by
      have:=CQ us _ b.day wP (HU.o.below (aw bG bP));rw[ap.o]at this;unfold vF at this;rw[a5]at this;exact this
     have aV:=aD (b6.trans ((aw bG bP).mono b6.size))
     have aY:=aD (aw bG bP)
     have NG:=aD nG
     have NP:=aD nP
     clear z a5 bi b6 bG bP nG nP A
     go_wp2_with(first|(refine wpList_load_mid rfl 45 _ rfl ga (ki*11) rfl (apC (b,.slice al b.who.length ak)).toList _ N apT rfl (by kernel_rfl) ?_)|(refine az rfl 29 _ _ rfl _ _ rfl rfl _ _ nY (by kernel_rfl) rfl (by simp[Value.oneCell']) ?_;rw[hG])|(refine az rfl 45 _ _ rfl _ _ rfl rfl _ _ nX (by kernel_rfl) rfl (gU _ _ _ _) ?_;rw[hQ]))
     refine c4.mono ?_
     clear c4 x0 G T z3 N z0 x8 hY nY hG hX nX hQ
     rintro e w8 ⟨vm,rfl,bl,b8⟩
     obtain⟨pm,cm,rfl,_,R⟩:=bl
     have aX:=aD R
     have ao:QR (∀(i:Nat) f,(kV (playP dk0 ((u.map fun q=>q.1).take (j+1))).2.rules b.day)[i]? =some f->i<(kV (playP dk0 ((u.map fun q=>q.1).take (j+1))).2.rules b.day).length):=fun i f h=>(aF.1 h).1
     obtain⟨n5,a7⟩:=au ((kV (playP dk0 ((u.map fun q=>q.1).take (j+1))).2.rules b.day).length)
     rw[a7]at ao⊢
     obtain⟨wV,wF,hV,nV,a2,bF,nF⟩:=nbs w8 #[ag 0,ag 0] #[ag 0,ag 0] 48
     have D:=aw b8 bF
     have f0:wF.cell? (ae w8.heap.size 0)=some (ag 0):=cr 0 nF rfl
     replace NG:=aD (bt D NG.o)
     replace NP:=aD (bt D NP.o)
     have br:wF.cell? (ae wG.heap.size 10)=some (.slice al b.who.length ak):=cr 10 NP.o rfl
     have aQ:=aD bF
     have aE:=aD (aw aY.o D)
     have bd:=aD (aw aV.o D)
     clear R a7 b8 bF D nF
     go_wp2_with(refine az rfl 48 _ _ rfl _ _ rfl rfl _ _ nV (by kernel_rfl) rfl (by simp[Value.oneCell']) ?_;rw[a2])
     clear f0 br hV nV a2
     go_loopw [18,19,95] (fun _ _ q wr=> ∃x:Nat,q=ag (x:Int)/\x<=b.who.length/\aq wF wr) (fun _ _ q _=>b.who.length-(intOf q).toNat)
     case atStart=>exact⟨0,rfl,dz _,aH _ _⟩
     case round=>
      obtain⟨x,rfl,hx,t⟩:=hrel
      have bL:(0:Int)<=(x:Int):=by omega
      obtain⟨wi,rfl⟩: ∃q,q=wr:=⟨_,rfl⟩
      by_cases bo:x<b.who.length
      ·have a9:(x:Int)<(b.who.length:Int):=by omega
       obtain⟨r0,ah⟩: ∃r,b.who[x]? =some r:=⟨_,ay bo⟩
       obtain⟨gw,ow,ew,c0⟩:=NR a3.o ah
       obtain⟨ge,r,C,s,f,er,bH,be,u2,E,ac,hH⟩:=a4.o _ (aM ah)
       subst ew be er
       have J:=aw aE.o t
       replace c0:=aj J c0
       replace u2:=aj J u2
       have u0:=cr 0 (bt t NG.o) rfl
       have u1:=cr 1 (bt t NG.o) rfl
       have u3:=cr 2 (bt t NP.o) rfl
       have u4:=cr 3 (bt t NP.o) rfl
       have bj:=ao.o C f ac
       obtain⟨gm,om,e,S⟩:=aX.o C f ac
       subst e
       replace S:=dS S (aw aQ.o t)
       have bD:(r:Int)<(n2:Int):=by omega
       have bE:(0:Int)<=(r:Int):=by omega
       have bz:(C:Int)<(n5:Int):=by omega
       have b0:(0:Int)<=(C:Int):=by omega
       have b2: ¬(C:Int)<0:=by omega
       have bb:=aD J
       have aR:=aD t
       clear ah ac bj J t
       go_upto_region 21 with fail
       clear c0
       refine dh (fun _ _ W=>aq wi W) [kn 99 (ab w6.heap.size 0),kn 100 (.slice q1 n1 l1),kn 101 (ab w6.heap.size 1),kn 102 (.slice (some (ae ge 0)) n2 l2),kn 103 (ag (r:Int)),kn 104 (ab ge r),kn 105 (.string ⟨s.toArray⟩),kn 106 (ag (C:Int)),kn 19 (ag (C:Int))] (fun _=>(aH _ _).drew) (fun _ _ _ _ d h=>aw h d) (by kernel_rfl) ?_ ?_
       ·rintro M φ W d _ F l hl hF
        have u0:=aj d u0
        have u1:=aj d u1
        have u2:=aj d u2
        have cA:=Ou us (.slice q1 n1 l1) s W ((HU.o.below bb.o).below d)
        rw[ap.o,E]at cA
        simp only[kn,dV,aP,aT,Act.put,aA,aK,aJ]at hl
        subst hl
        simp only[di,Nat.reduceAdd]at hF
        dsimp only[kn,du,eG,dY,Act.put]
        and_intros
        all_goals first|exact trivial|intro hw hn hm K hK
        all_goals try (go_simp;with_reducible exact hK _ _ ⟨rfl,aH _ _⟩)
        ·go_simp
         refine cA.mono ?_
         rintro r' W' ⟨rfl,V⟩
         exact hK _ _ ⟨rfl,V⟩
       ·rintro M φ wj P d
        simp only[kn,d7,aP,aT,Act.put,aA,aK,aJ]
        replace u3:=aj d u3
        replace u4:=aj d u4
        replace S:=dS S d
        have aS:=aD (aw aR.o d)
        clear d u0 u1 u2 E
        go_upto_region 22 with fail
        refine dh (fun _ _ W=>aq wj W) [kn 107 (ag (C:Int)),kn 108 (.bool false),kn 109 (.bool false),kn 110 (.slice (some (ae gm om)) n5 cm),kn 111 (ag (C:Int)),kn 112 (ab gm (om+C*23)),kn 113 (.agg (mv f)),kn 114 (ab wG.heap.size 2),kn 115 (ag b.fr),kn 116 (ab wG.heap.size 3),kn 117 (ag b.to),kn 118 (.agg #[ag b.fr,ag b.to]),kn 119 (.bool true),kn 120 (.bool false),kn 121 (.bool false)] (fun _=>(aH _ _).drew) (fun _ _ _ _ d h=>aw h d) (by kernel_rfl) ?_ ?_
        ·rintro M φ W d _ F l hl hF
         have u3:=aj d u3
         have u4:=aj d u4
         have S:=dS S d
         have cH:=rL f b.fr b.to W
         rw[hH]at cH
         simp only[kn,dV,aP,aT,Act.put,aA,aK,aJ]at hl
         subst hl
         simp only[di,Nat.reduceAdd]at hF
         dsimp only[kn,du,eG,dY,Act.put]
         and_intros
         all_goals first|exact trivial|intro hw hn hm K hK
         all_goals try (go_simp;with_reducible exact hK _ _ ⟨rfl,aH _ _⟩)
         ·rw[aB (wnK rfl rfl (by simp[hF]))]
          exact uy _ rfl gm (om+C*23) (by simp[Act.eval,hF]) f S (hK _ _ ⟨rfl,aH _ _⟩)
         ·go_simp
          refine cH.mono ?_
          rintro r' W' ⟨rfl,V⟩
          exact hK _ _ ⟨rfl,V⟩
        ·rintro M φ wk P d
         simp only[kn,d7,aP,aT,Act.put,aA,aK,aJ]
         have aU:=aD (aw aS.o d)
         clear d u3 u4 S hH
         go_wp2_with fail
         go_roundw
         case rel=>exact⟨x+1,by go_num,by omega,aU.o⟩
         case measure=>simp[intOf];omega
      ·have a9: ¬(x:Int)<(b.who.length:Int):=by omega
       have bg:=U.o.trans ((aw bd.o t).mono U.o.size)
       clear t
       go_wp2_with fail
       go_roundw
       case rel=>exact⟨j+1,by go_num,by omega,bg⟩
       case measure=>simp[intOf];omega
    all_goals
     go_upto_region 9 with(first|(refine wpList_load_mid rfl 41 _ rfl gp (op+j*13) rfl _ _ y doT rfl (by kernel_rfl) ?_)|(refine az rfl 41 _ _ rfl _ _ rfl rfl _ _ O (by kernel_rfl) rfl (by simp[jB,Value.oneCell']) ?_;rw[hB]))
     clear y hZ O hB
     go_wp2_with fail
     go_roundw
     case rel=>exact⟨j+1,by go_num,by omega,U.o⟩
     case measure=>simp[intOf];omega
   ·have a6: ¬(j:Int)<(m:Int):=(by omega);have aW:=aD (aw a0.o B);clear B;go_wp2_with fail;go_ret;exact⟨rfl,aW.o⟩
section
open Go.ChangeShapes Go.WideShapes Go.ChangeAt Go.WideMaps Go.WideElems Go.Joins
theorem N0 {H:Type}{f:TypeId×Value->H}{W:World}{v:Value}{d:DataW H}{p:List MemPlace}(h:DataW.Trod f prog W 0 (fun _=>true) true 22 v d p){q:Option Addr}{n k:Nat}(e:v= .slice q n k):n<=k:=by
 obtain⟨i,l⟩:=h;subst e;rcases DataW.trod_slice underlying22 l with⟨e,_⟩|⟨a,len,cap,c,j,m,_,e,_,_,g,_⟩
 ·have b:Value.slice q n k=af:=by simpa[Value.cells] using e
  cases b;exact aE _
 ·have b:Value.slice q n k= .slice (some a) len cap:=by simpa[Value.cells] using e
  cases b;exact g
end
end Go.Proofs.YtlkehieagdkgiaaGreatDoor
