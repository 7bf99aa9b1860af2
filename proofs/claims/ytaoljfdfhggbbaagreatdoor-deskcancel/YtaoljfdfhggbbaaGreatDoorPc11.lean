/- Texts of the proof. -/
import Derived.Test.YtaoljfdfhggbbaaGreatDoorPc10
set_option maxRecDepth 100000
set_option maxHeartbeats 8000000
namespace Go.Proofs.YtaoljfdfhggbbaaGreatDoor
open Go.Proofs.Tryz Go.RowKit Lx Vx Mx Msk
theorem gX {d:World}{gm:Nat}{lv:Value}{day c b:Int}{S a:List M}{W:World}(h:VSt d gm lv day S c W)(e:S=a)(e2:c=b):VSt d gm lv day a b W:=by
 subst e e2;exact h
theorem JO {ev:Nat->M×Nat}{x:In}{sv:Value}{s:Vx.St}{B:List M}{c:Int}{W j:World}{gm:Nat}{lv:Value}{day:Int}{n r:Nat}(h:VSt j gm lv day (B++s.S) c W)(F:mX W sv x.sp)(hi:fO x s.k n r=0)(o:s.k<=2000)(I:B.length+s.S.length<=900)(J:tk x<=s.S.length)
  (C:0<=day) (D:day<146097)
  (w:x.op=8-> ∀W,VSt j gm lv day (B++s.S) c W->Calls prog 129 #[ab gm 0,ag x.a] W fun e l=>e= .returned (.tuple #[])/\VSt j gm lv day (B++s.S++[(ev x.a.toNat).1]) (c+(ev x.a.toNat).2) l):
  Calls prog 154 #[ab gm 0,.agg #[ag x.op,ag x.a,ag x.b,ag x.to,sv],ag (s.k:Int)] W fun e l=>e= .returned (ag ((dH (eJ day) day ev x s).k:Int))/\VSt j gm lv day (B++(dH (eJ day) day ev x s).S) (c+(((dH (eJ day) day ev x s).n:Int)-(s.n+1))) l:=by
 have m:(B++s.S).length<=900:=by rw[aP];exact I
 rcases tD hi with d|d|d|d|d|d|d
 ·have e:dH (eJ day) day ev x s=⟨s.k+1,s.S++[spM x.sp],s.n+1⟩:=by simp[dH,d]
  rw[e,d];refine(Nx j gm lv day c (B++s.S) x.a x.b x.to sv s.k W x.sp h F o m).mono ?_;rintro u l ⟨rfl,i⟩;exact⟨rfl,gX i (by simp) (by simp)⟩
 ·have e:dH (eJ day) day ev x s=⟨s.k+1,mV unM s.S,s.n+1⟩:=by simp[dH,d]
  have y:tk x=2:=(by simp[tk,d]);obtain⟨T,f,g,v⟩:=uI (S:=s.S) (by omega);rw[e,d];dsimp only;rw[v]at h m⊢;rw[mc];refine(BM j gm lv day c (B++T) x.a x.b x.to sv s.k W f g 2 unM (.inl ⟨rfl,rfl⟩) (gX h (by simp) rfl) o (by simp at m⊢;omega)).mono ?_;rintro u l ⟨rfl,i⟩;exact⟨rfl,gX i (by simp) (by simp)⟩
 ·have e:dH (eJ day) day ev x s=⟨s.k+1,mV dfM s.S,s.n+1⟩:=by simp[dH,d]
  have y:tk x=2:=(by simp[tk,d]);obtain⟨T,f,g,v⟩:=uI (S:=s.S) (by omega);rw[e,d];dsimp only;rw[v]at h m⊢;rw[mc];refine(BM j gm lv day c (B++T) x.a x.b x.to sv s.k W f g 3 dfM (.inr (.inl ⟨rfl,rfl⟩)) (gX h (by simp) rfl) o (by simp at m⊢;omega)).mono ?_;rintro u l ⟨rfl,i⟩;exact⟨rfl,gX i (by simp) (by simp)⟩
 ·have e:dH (eJ day) day ev x s=⟨s.k+1,mV boM s.S,s.n+1⟩:=by simp[dH,d]
  have y:tk x=2:=(by simp[tk,d]);obtain⟨T,f,g,v⟩:=uI (S:=s.S) (by omega);rw[e,d];dsimp only;rw[v]at h m⊢;rw[mc];refine(BM j gm lv day c (B++T) x.a x.b x.to sv s.k W f g 4 boM (.inr (.inr ⟨rfl,rfl⟩)) (gX h (by simp) rfl) o (by simp at m⊢;omega)).mono ?_;rintro u l ⟨rfl,i⟩;exact⟨rfl,gX i (by simp) (by simp)⟩
 ·have e:dH (eJ day) day ev x s=⟨s.k+1,yF (fun f=>shM f x.a) s.S,s.n+1⟩:=by simp[dH,d]
  have y:tk x=1:=(by simp[tk,d])
  have p: -1439<=x.a/\x.a<=1439:=by
   simp only[fO,d]at hi;simp only[show¬((5:Int)=2\/(5:Int)=3\/(5:Int)=4) by omega,show¬(5:Int)=1 by omega,if_false,if_true]at hi;by_cases E:x.a≠0/\ -1439<=x.a/\x.a<=1439
   ·exact E.2
   ·rw[ax E]at hi;simp at hi
  obtain⟨T,g,v⟩:=xr (S:=s.S) (by omega);rw[e,d];dsimp only;rw[v]at h m⊢;rw[yG];refine(Ny j gm lv day c (B++T) x.a x.b x.to sv s.k W g (gX h (by simp) rfl) o (by simp at m⊢;omega) p.1 p.2).mono ?_;rintro u l ⟨rfl,i⟩;exact⟨rfl,gX i (by simp) (by simp)⟩
 ·have e:dH (eJ day) day ev x s=⟨s.k+1,s.S++[(ev x.a.toNat).1],s.n+1+(ev x.a.toNat).2⟩:=by simp[dH,d]
  rw[e];have z:=w d;rw[d];refine(Nz j gm lv day c (B++s.S) x.a x.b x.to sv s.k W (B++s.S++[(ev x.a.toNat).1]) (c+(ev x.a.toNat).2) h o z).mono ?_;rintro u l ⟨rfl,i⟩;exact⟨rfl,gX i (by simp) (by push_cast;omega)⟩
 ·have K:=rN hi d;obtain⟨G,A,rfl,_,_⟩:=F.form
  have e:dH (eJ day) day ev x s=if onD (eJ day) day x=true then⟨s.k+1,s.S,s.n+1⟩ else⟨x.to.toNat,s.S++[noM],s.n+1⟩:=by
   unfold isG at d;unfold dH;rw[ax (by omega),ax (by omega),ax (by omega),ax (by omega),ax (by omega),ax (by omega)]
  rw[e];have t:((x.to.toNat:Nat):Int)=x.to:=(by omega);rcases d with d|d
  ·have H:onD (eJ day) day x=eJ day x.a:=(by simp[onD,d]);rw[d,H];refine(He j gm lv day c (B++s.S) x.a x.b x.to s.k W 6 _ (.inl ⟨rfl,rfl⟩) G x.sp.length A h o m C D).mono ?_;rintro u l ⟨rfl,i⟩;cases hq:eJ day x.a with
   |true=>
    rw[hq]at i;exact⟨rfl,gX i rfl (by simp)⟩
   |false=>
    rw[hq]at i;exact⟨congrArg (fun q=>Ending.returned (ag q)) t.symm,gX i (by simp) (by simp)⟩
  ·have e7:onD (eJ day) day x=(decide (x.a<=day)&&decide (day<=x.b)):=by
    unfold onD;rw[ax (by omega)]
   rw[d,e7];refine(He j gm lv day c (B++s.S) x.a x.b x.to s.k W 7 _ (.inr ⟨rfl,rfl⟩) G x.sp.length A h o m C D).mono ?_;rintro u l ⟨rfl,i⟩;cases hq:(decide (x.a<=day)&&decide (day<=x.b)) with
   |true=>
    rw[hq]at i;exact⟨rfl,gX i rfl (by simp)⟩
   |false=>
    rw[hq]at i;exact⟨congrArg (fun q=>Ending.returned (ag q)) t.symm,gX i (by simp) (by simp)⟩
theorem VSt.count {g W:World}{gm:Nat}{lv:Value}{day k:Int}{S:List M}(h:VSt g gm lv day S k W)(f:Int):VSt g gm lv day S f (W.setCell ⟨gm,3,none⟩ (ag f)):=by
 obtain⟨i,b,sv,c,d⟩:=h;have a:=ko d c (by decide);refine⟨i.setCell (p:=⟨gm,3,none⟩) b _,b,sv,aY W gm 3 _ _ _ c,?_⟩;exact d.kept (row:=some gm) ⟨rfl,rfl,rfl,by simp,fun q l j=>aO W ⟨gm,3,none⟩ q _ fun e=>j (congrArg some e)⟩ (.inr fun e=>a e.symm)
def NB (d:Int->Bool)(day:Int)(ev:Nat->M×Nat)(a:List Cd)(l:List In)(R:Vx.St)(b:World)(gm:Nat)(lv:Value)(B:List M)(c:Int)(t:Value)(wr:World):Prop:= ∃s:Vx.St,t=ag (s.k:Int)/\mW a l s/\runV d day ev l s=R/\VSt b gm lv day (B++s.S) (c+s.n) wr
theorem DP (b:List Cd)(lv:Value)(I:World)(gm:Nat)(day:Int)(A:mu b)(Y:InV I lv b)(d0:0<=day)(d1:day<146097): ∀(d r:Nat) (B:List M) (c:Int) (W:World),r<b.length->rk (gh b) b.length r<d->VSt I gm lv day B c W->(B.length:Int)+(b.getD r cd0).high<=800->0<=c->c+(b.getD r cd0).steps<=1000000->
  Calls prog 129 #[ab gm 0,ag (r:Int)] W fun e T=>e= .returned (.tuple #[])/\VSt I gm lv day (B++[(evV (eJ day) day b d r).1]) (c+(evV (eJ day) day b d r).2) T
 |0,_,_,_,_,_,hd,_,_,_,_=>by omega
 |d+1,r,B,c,W,hr,hd,U,hB,a6,av=>by
  have ih:=DP b lv I gm day A Y d0 d1 d;obtain⟨u,H⟩: ∃u,b[r]? =some u:=⟨b[r],az hr⟩
  rw[jd H]at hB av;have y:=jx (A.alone r u H);have E:=A.fit r u H;obtain⟨ax,ay,an,ao,Z,aa⟩:=A.run (wk:=eJ day) (day:=day) (d+1) r u H hd;rw[Nat.add_sub_cancel]at an ao Z aa;have aq:Up (eJ day) day (evV (eJ day) day b d) u.ins:=EX y.2.2;obtain⟨p,cp,ad,a1,ae⟩:=Y.form;obtain⟨sv,F,g,o,rfl,e0,_,_⟩:=ae r u H;obtain⟨pu,cu,rfl,aF,af⟩:=F.form;have K:=a8 af;have N:=a8 ih;have J:=a8 y.2.2;have f:=a8 E;have R:=a8 aq;have Q:=a8 A;have HU:=a8 H;have w:PN (∀i,0<=(b.getD i cd0).steps):=A.steps0
  have L:PN (∀(j:Nat) (x:In),u.ins[j]? =some x->x.op=8->((evV (eJ day) day b d x.a.toNat).2:Int)<=(b.getD x.a.toNat cd0).steps):=fun j x v ho=>by
   obtain⟨q1,_,q3⟩:=A.call H v ho;have hg:b[x.a.toNat]? =some b[x.a.toNat]:=az q1;rw[jd hg];exact(A.run (wk:=eJ day) (day:=day) d _ _ hg (by omega)).2.1
  have aE:u.ins.length<=2000:=y.1.2;have a5:u.steps<=20000:=y.2.1.2.2;have f0:=aj U.bel e0;have aA:(0:Int)<=(r:Int):=(by omega);have aB:(r:Int)<(b.length:Int):=(by omega);have aI:(0:Int)<=(u.ins.length:Int):=(by omega)
  have nM: ∃sv,W.heap[gm]? =ah #[lv,ag day,sv,ag c] 210:=by
   obtain⟨_,_,s1,q,_⟩:=U;exact⟨s1,q⟩
  obtain⟨s1,nM⟩:=nM;rw[ad]at nM;have zM:=ak 0 nM;have HM:=a8 U;have O:=a8 Z;have P:=a8 aa;clear y E ax ay an ao Z aa aq ae F af ih A H U nM Y ad;go_enter func129,ntmps129;go_wp2_with fail;have U:=HM.o;clear HM zM f0 e0;go_loopw [5] (fun t wr=>NB (eJ day) day (evV (eJ day) day b d) b u.ins (runV (eJ day) day (evV (eJ day) day b d) u.ins ⟨0,[],0⟩) I gm lv B c t wr) (fun t _=>u.ins.length-(intOf t).toNat);case atStart=>exact⟨⟨0,[],0⟩,rfl,mW.nil,rfl,gX U (by simp) (by simp)⟩
  case round=>
   obtain⟨s,rfl,hI,C,z⟩:=hrel;clear U;have aC:(0:Int)<=(s.k:Int):=(by omega);have a3:=hI.le;have a4:=hI.st;have a2:=hI.hi;by_cases al:s.k<u.ins.length
   ·have am:(s.k:Int)<(u.ins.length:Int):=(by omega);obtain⟨x,v⟩: ∃x,u.ins[s.k]? =some x:=⟨u.ins[s.k],az al⟩
    obtain⟨sk,G,g2,o2,aw,k0,k1,k2,k3,k4⟩:=K.o s.k _ v;subst aw;have X:=J.o _ _ v;have m:=hI.step (wk:=eJ day) (day:=day) (ev:=evV (eJ day) day b d) f.o.well v X w.o (L.o _ _ v);have ap:=lR R.o v
    have aG:stS b u.ins s.k<=u.steps:=by
     rw[<-f.o.steps];exact vO w.o (by omega)
    have aH:hAt u.ins s.k<=u.high:=by
     rw[<-f.o.high];exact LF (by omega)
    have a0:=f.o.well.tk _ _ v;have l:=z.count (c+s.n+1);obtain⟨_,_,s2,ac,_⟩:=z;have z3:=ak 3 ac;have y3:=bl _ _ 3 _ _ ac;have q0:=aj l.bel k0;have q1:=aj l.bel k1;have q2:=aj l.bel k2;have q3:=aj l.bel k3;have q4:=aj l.bel k4
    have cS:=JO (ev:=evV (eJ day) day b d) (x:=x) (sv:=sk) (s:=s) (B:=B) (r:=b.length) l (G.later l.bel) X (by omega) (by omega) (by omega) d0 d1 (fun ho T V=>by
     obtain⟨v1,v2,v3⟩:=Q.o.call HU.o v ho;have h8:=jY (cs:=b) v;rw[aD ho]at h8
     have h9:stS b u.ins (s.k+1)<=u.steps:=by
      rw[<-f.o.steps];exact vO w.o (by omega)
     have au:=JH (cs:=b) v al ho;rw[f.o.high]at au;have:=N.o x.a.toNat (B++s.S) (c+s.n+1) T v1 (by omega) V (by rw[aP];push_cast;omega) (by omega) (by omega);rw[v2]at this;exact this)
    have HN:PN (∀T,VSt I gm lv day (B++(dH (eJ day) day (evV (eJ day) day b d) x s).S) (c+s.n+1+(((dH (eJ day) day (evV (eJ day) day b d) x s).n:Int)-(s.n+1))) T->NB (eJ day) day (evV (eJ day) day b d) b u.ins (runV (eJ day) day (evV (eJ day) day b d) u.ins ⟨0,[],0⟩) I gm lv B c (ag ((dH (eJ day) day (evV (eJ day) day b d) x s).k:Int)) T):=fun T V=>⟨_,rfl,m.1,ap.symm.trans C,gX V rfl (by omega)⟩
    have hgt:=m.2;have a7:c+s.n+1<=2000000:=(by omega);have a9:0<=c+s.n:=(by omega);obtain⟨k',ai⟩: ∃q,(dH (eJ day) day (evV (eJ day) day b d) x s).k=q:=⟨_,rfl⟩
    rw[ai]at cS HN hgt;generalize (dH (eJ day) day (evV (eJ day) day b d) x s).S=S' at*;generalize (dH (eJ day) day (evV (eJ day) day b d) x s).n=n' at*;clear ai m ap hI C v X a0 l ac N Q J f R L w HU K O P G;generalize aJ:wr.setCell ⟨gm,3,none⟩ (ag (c+s.n+1))=wS at*;go_wp2_with fail;refine cS.mono ?_;rintro e w2 ⟨rfl,h2⟩;have ar:=a8 (HN.o _ h2);clear cS h2 HN;go_wp2_with fail;go_roundw;case rel=>exact ar.o
    case measure=>simp[intOf];omega
   ·have am: ¬(s.k:Int)<(u.ins.length:Int):=(by omega);have D:=vP (wk:=eJ day) (day:=day) (ev:=evV (eJ day) day b d) (show s.k=u.ins.length by omega);have hs:s=runV (eJ day) day (evV (eJ day) day b d) u.ins ⟨0,[],0⟩:=D.symm.trans C
    have HN:PN (VSt I gm lv day (B++[(evV (eJ day) day b (d+1) r).1]) (c+(evV (eJ day) day b (d+1) r).2) wr):=by
     show VSt _ _ _ _ _ _ _;rw[<-O.o,<-P.o,<-hs];exact z
    clear z hs D C hI N Q J f R L w HU K O P;go_wp2_with fail;exact⟨rfl,_,eO rfl _ _ _,rfl,HN.o⟩
def ja (b:List Cd)(a day:Int):Int×Nat:=if(jL b).1≠0 then jL b else if¬(0<=a/\a<b.length) then(6,0) else if¬(0<=day/\day<146097) then(3,0) else(0,0)
def oq (b:List Cd)(a day:Int):M:=if(ja b a day).1=0 then(evV (eJ day) day b (b.length+1) a.toNat).1 else fun _=>false
def vT (b:List Cd)(a day:Int):Nat:=if(ja b a day).1=0 then(evV (eJ day) day b (b.length+1) a.toNat).2 else 0
def E9 (f:M)(n er at_:Int)(w:World)(e:Ending)(w':World):Prop:=e= .returned (.tuple #[.agg (mv f),ag n,.agg #[ag er,ag at_]])/\aq w w'
theorem vU {R:Ending->World->Prop}{a:Act}{w:World}(g b:Nat)(f:M)(n er at_:Int)(p:a.defers=[])(k:a.tmps.getD 6 undef=ab g 0)(l:a.tmps.getD 7 undef=ag n)(m:a.tmps.getD 8 undef=ab b 0)
  (q:w.heap[g]? =ah (mv f) 84) (i:w.heap[b]? =ah #[ag er,ag at_] 93) (o:R (.returned (.tuple #[.agg (mv f),ag n,.agg #[ag er,ag at_]])) w):bodyPost prog f100 R .ret a w:=by
 refine aW (v:= .tuple #[.agg (mv f),ag n,.agg #[ag er,ag at_]]) ?_ p o;have c:a.tmps[6]?.getD undef=ab g 0:=by simpa using k
 have d:a.tmps[7]?.getD undef=ag n:=by simpa using l
 have e:a.tmps[8]?.getD undef=ab b 0:=by simpa using m
 have r:=dX (P:=prog) w g 84 84 _ _ _ q bV rfl (bh _);have j:=dX (P:=prog) w b 93 93 _ _ _ i me rfl (by kernel_rfl);simp[results,results100,c,d,e,asAddr,r,j]
structure FtJ (w:World)(rr rf:Nat)(er at_:Int)(M:Nat->Bool)(W:World):Prop where
 bel:aq w W
 msk:W.heap[rr]? =ah (mv fun _=>false) 84
 src:W.heap[rf]? =ah #[ag er,ag at_] 93
 flt: ∃a b,W.heap[rr+1]? =ah #[ag a,ag b] 93/\(M 4=true->a=er/\b=at_)
structure RnJ (w w0:World)(gm:Nat)(lv:Value)(day k:Int)(f:Vx.M)(rr:Nat)(M:Nat->Bool)(W:World):Prop where
 bel:aq w W
 mach: ∃sv,W.heap[gm]? =ah #[lv,ag day,sv,ag k] 210
 ahead:M 0=false->VSt w0 gm lv day [f] k W
 m0:M 4=false->W.heap[rr]? =ah (mv fun _=>false) 84
 m1:M 4=true->W.heap[rr]? =ah (mv f) 84
 flt:W.heap[rr+1]? =ah #[ag 0,ag 0] 93
theorem BN (b:List Cd)(lv:Value)(a day:Int)(w:World)(h:InV w lv b):
  Calls prog 100 #[lv,ag a,ag day] w (E9 (oq b a day) (vT b a day:Int) (ja b a day).1 ((ja b a day).2:Int) w):=by
 obtain⟨p,P,u,aG,aO⟩:=h.form;have hz:=eI;have bA:aq w ((w.alloc (.cells (mv fun _=>false) 84)).alloc (.cells #[ag 0,ag 0] 93)):=(am _ _).alloc (by simp) _;have a0:((w.alloc (.cells (mv fun _=>false) 84)).alloc (.cells #[ag 0,ag 0] 93)).heap[w.heap.size]? =ah (mv fun _=>false) 84:=by(repeat (first|refine dl _ _ _ (by simp only[aU];omega) ?_|exact dC _ _ _ (by first|rfl|simp only[aU])))
 have ap:((w.alloc (.cells (mv fun _=>false) 84)).alloc (.cells #[ag 0,ag 0] 93)).heap[w.heap.size+1]? =ah #[ag 0,ag 0] 93:=by(repeat (first|refine dl _ _ _ (by simp only[aU];omega) ?_|exact dC _ _ _ (by first|rfl|simp only[aU])))
 generalize aW:(w.alloc (.cells (mv fun _=>false) 84)).alloc (.cells #[ag 0,ag 0] 93)=wA at*;have O:=E8 b lv wA (h.below bA);have aS:(0:Int)<=(b.length:Int):=by omega
 by_cases g:(jL b).1=0
 ·have hR:=CW g
  have N:jL b=(0,0):=by
   unfold jL at g⊢;by_cases Q:40<b.length
   ·rw[aD Q]at g;simp at g
   ·rw[ax Q]at g⊢;by_cases E:(gL (fun i=>aloneE (b.getD i cd0) b.length) b.length 0).1≠0
    ·rw[aD E]at g;exact absurd g E
    ·rw[ax E]at g⊢;exact(o6 _ _ g).1
  rw[N]at O;have c2:=fun W=>qx a (b.length:Int) W;have c3:=fun W=>qx day 146097 W;have z:ja b a day=if¬(0<=a/\a<b.length) then(6,0) else if¬(0<=day/\day<146097) then(3,0) else(0,0):=ax (fun e=>e g);have V:=a8 h;have aa:=a8 hR;have HE:=a8 z;obtain⟨f0,ad⟩:=au (oq b a day);obtain⟨k0,an⟩:=au (vT b a day:Int);obtain⟨X,hX⟩:=au (ja b a day);rw[ad,an,hX];have U:=a8 ad;have Y:=a8 an;have HX:=a8 hX;subst u;go_enter func100,ntmps100;go_wp2_with fail;refine O.mono ?_;rintro e C ⟨rfl,j⟩;dsimp only;have b1:=aw bA j;have B:=ai j a0;have A:=ai j ap;have a2:=am C (.cells #[ag 0,ag 0] 93);have av:=aE C (.cells #[ag 0,ag 0] 93);generalize aT:C.alloc (.cells #[ag 0,ag 0] 93)=aF at*;have D:=below_setRow a2 (aB _) #[ag 0,ag 0];have nG:=aL _ _ _ #[ag 0,ag 0] _ _ av;have r:=ai D B;have v:=ai D A;have b2:=aw b1 D;generalize N:aF.setRow C.heap.size #[ag 0,ag 0]=w2 at*;have zG:=ak 0 nG;have d2:=c2 w2;have d3:=c3 w2;go_wp2_with(refine ay rfl 93 _ _ rfl _ _ rfl rfl _ _ av (by kernel_rfl) (by simp) (by simp[Value.oneCell']) ?_)
  refine d2.mono ?_;rintro e s ⟨rfl,rfl⟩;by_cases L:0<=a/\a<b.length
  case' neg=>
   have I:X=(6,0):=HX.o.symm.trans (HE.o.trans (aD L));rw[bn L];clear d3 L
  case' pos=>
   rw[bm L];go_wp2_with fail;refine d3.mono ?_;rintro e s ⟨rfl,rfl⟩;by_cases R:0<=day/\day<146097
   case' neg=>
    have I:X=(3,0):=HX.o.symm.trans (HE.o.trans ((ax fun e=>e L).trans (aD R)));rw[bn R];clear L R
   case pos=>
    have z:ja b a day=(0,0):=HE.o.trans ((ax fun e=>e L).trans (ax fun e=>e R));have x:oq b a day=(evV (eJ day) day b (b.length+1) a.toNat).1:=aD (by rw[z]);have e2:vT b a day=(evV (eJ day) day b (b.length+1) a.toNat).2:=aD (by rw[z]);rw[bm R];obtain⟨lv,u⟩:=au (Value.slice p b.length P);rw[u]at V;obtain⟨y,rfl⟩: ∃y:Nat,a=(y:Int):=⟨a.toNat,by omega⟩
    have ao:y<b.length:=(by omega);rw[cj]at x e2;obtain⟨a6,a7⟩:=R;obtain⟨fM,ae⟩:=au (evV (eJ day) day b (b.length+1) y)
    have Z:PN (∀(w0:World) (gm:Nat) (W:World),aq w w0->VSt w0 gm lv day [] 0 W->Calls prog 129 #[ab gm 0,ag (y:Int)] W fun e W'=>e= .returned (.tuple #[])/\VSt w0 gm lv day [fM.1] (fM.2:Int) W'):=fun w0 gm W n G=>by
     have hu:b[y]? =some b[y]:=az ao;have ha:=(jx (aa.o.alone y _ hu)).2.1;have:=DP b lv w0 gm day aa.o (V.o.below n) a6 a7 (b.length+1) y [] 0 W ao (by have:=OE (gh b) b.length y;omega) G (by rw[jd hu];simp;omega) (by omega) (by rw[jd hu];omega);rw[ae]at this;refine this.mono ?_;rintro e W' ⟨rfl,h'⟩;exact⟨rfl,gX h' (by simp) (by simp)⟩
    rw[ae]at x e2;obtain⟨f,k⟩:=fM;rw[U.o]at x;have a3:k0=(k:Int):=(by rw[<-Y.o,e2]);have e3:X=(0,0):=HX.o.symm.trans z;replace x:=x.symm;subst x a3 e3;dsimp only at Z⊢;subst u;have bX:=am s (.cells #[af,ag 0,af,ag 0] 210);have nX:=aE s (.cells #[af,ag 0,af,ag 0] 210);generalize aY:s.alloc (.cells #[af,ag 0,af,ag 0] 210)=wX at*;have bY:=below_setRow bX (aB _) #[.slice p b.length P,ag day,af,ag 0];have nY:=aL _ _ _ #[.slice p b.length P,ag day,af,ag 0] _ _ nX;generalize aZ:wX.setRow s.heap.size #[.slice p b.length P,ag day,af,ag 0]=wY at*;have a4:VSt s s.heap.size (.slice p b.length P) day [] 0 wY:=⟨bY,aB _,_,nY,dc _ _ _ _⟩
    have cR:=Z.o s s.heap.size wY b2 a4;go_wp2_with(refine ay rfl 210 _ _ rfl _ _ rfl rfl _ _ nX (by kernel_rfl) (by simp) (by simp[Value.oneCell']) ?_)
    refine cR.mono ?_;rintro e w4 ⟨rfl,H⟩;go_wp2_with fail;obtain⟨lv,a9⟩:=au (Value.slice p b.length P);rw[a9]at H;have l1:=aH r;have l2:=aH v;have hgt:w.heap.size+1<s.heap.size:=l2;obtain⟨gm,al⟩:=au s.heap.size;rw[al]at H hgt;simp only[al];refine dh (fun M _=>RnJ w s gm lv day (k:Int) f w.heap.size M) [dk 35 (.agg (mv f)),kn 36 (ab gm 3),kn 37 (ag (k:Int)),kn 38 (.agg #[ag 0,ag 0]),nk,dk 7 (ag (k:Int)),nk] (fun _=> ?_) (fun _ _ _ _ n h=>⟨aw h.bel n,h.mach.imp fun _ q=>ai n q,fun e=>(h.ahead e).below n,fun e=>(n.block _ (aH (h.m0 e))).trans (h.m0 e),fun e=>(n.block _ (aH (h.m1 e))).trans (h.m1 e),ai n h.flt⟩) (by kernel_rfl) (fun M φ W2 d J F l hl t=> ?_) (fun M φ W5 G d=> ?_)
    ·obtain⟨S,q2,sv,q3,q4⟩:=H.below (aI _ _).drew;exact⟨aw b2 S,⟨sv,q3⟩,fun _=>⟨S,q2,sv,q3,q4⟩,fun _=>(S.block _ l1).trans r,(fun e=>by cases e),(S.block _ l2).trans v⟩
    ·simp only[kn,dk,nk,dW,aQ,aX,Act.put,aA,aK,aJ]at hl;subst hl;simp only[cZ,Nat.reduceAdd]at t;obtain⟨s0,nM⟩:=d.mach;have zz:=ak 3 nM;dsimp only[kn,dk,nk,dB,eN,eg,Act.put];and_intros;all_goals first|exact trivial|intro hw hn hm K m
     ·go_simp;refine(sD s gm lv day (k:Int) [] f W2 (d.ahead hm) (by simp)).mono ?_;rintro e' W' ⟨rfl,G,aj⟩;have n4:=hn 4 _ rfl (by kernel_rfl);obtain⟨S,q2,sv,q3,q4⟩:=G;exact m _ _ ⟨rfl,aw b2 S,⟨sv,q3⟩,(fun e=>by simp at e),fun _=>(aj _ (aH (d.m0 n4)) (by omega)).trans (d.m0 n4),(fun e=>by simp[n4]at e),(aj _ (aH d.flt) (by omega)).trans d.flt⟩
     ·go_simp;exact m _ _ ⟨rfl,aI _ _⟩
     ·go_simp;exact m _ _ ⟨rfl,aI _ _⟩
     ·go_simp;exact m _ _ ⟨rfl,aI _ _⟩
     ·have q0:=hw ⟨0,.data⟩ (by simp) rfl rfl;refine eG 84 _ _ rfl _ (mv f) (by simp[Act.eval,t]) (by simp[Act.eval,t]) _ _ (d.m0 hm) (bh _) (by simp[bO]) (dQ _) ?_;exact m undef _ ⟨trivial,below_setRow d.bel (aB _) _,⟨_,(aV _ _ _ _ (by omega)).trans nM⟩,(fun e=>by simp[q0]at e),(fun e=>by simp at e),fun _=>aL _ _ _ _ _ _ (d.m0 hm),(aV _ _ _ _ (by omega)).trans d.flt⟩
     ·go_simp;exact m _ _ ⟨rfl,d.bel,d.mach,fun e=>d.ahead (by simpa using e),fun e=>d.m0 (by simpa using e),fun e=>d.m1 (by simpa using e),d.flt⟩
     ·have q5:=hw ⟨5,.chain⟩ (by simp) rfl rfl;have q0:=J 5 _ rfl q5 ⟨0,.phase⟩ (by simp) rfl rfl;have q4:=J 5 _ rfl q5 ⟨4,.chain⟩ (by simp) rfl rfl;refine eG 93 _ _ rfl _ #[ag 0,ag 0] (by simp[Act.eval,t]) (by simp[Act.eval,t]) _ _ d.flt (by kernel_rfl) (by simp) (by simp[Value.oneCell']) ?_;exact m undef _ ⟨trivial,below_setRow d.bel (Nat.le_succ _) _,⟨_,(aV _ _ _ _ (by omega)).trans nM⟩,(fun e=>by simp[q0]at e),(fun e=>by simp[q4]at e),fun _=>(aV _ _ _ _ (by omega)).trans (d.m1 q4),aL _ _ _ _ _ _ d.flt⟩
    ·have Q:=d.m1 (G 4 (by decide) rfl);have E:=d.flt;have T:=a8 d.bel;simp only[kn,dk,nk,eh,aQ,aX,Act.put,aA,aK,aJ];go_wp2_with fail;exact vU w.heap.size (w.heap.size+1) f (k:Int) 0 0 rfl rfl rfl rfl Q E ⟨rfl,T.o⟩
  all_goals
   have ac:(ja b a day).1≠0:=by rw[HX.o,I];decide
   have x:f0=fun _=>false:=U.o.symm.trans (ax ac)
   have e2:k0=0:=by rw[<-Y.o,show vT b a day=0 from ax ac];rfl
   subst x e2 I
   have aC:=aL _ _ _ (mv fun _=>false) _ _ r
   have ar:=(aV _ w.heap.size (w.heap.size+1) (mv fun _=>false) (by omega)).trans v
   have b3:=below_setRow b2 (aB _) (mv fun _=>false)
   have T:=a8 fun c=>below_setRow b3 (by omega:w.heap.size<=w.heap.size+1) c
   have HM:=a8 fun c=>(aV _ (w.heap.size+1) w.heap.size c (by omega)).trans aC
   have HS:=a8 fun c=>aL _ _ _ c _ _ ar
   go_wp2_with(first
    |(refine ay rfl 84 _ _ rfl _ _ rfl rfl _ _ r (bh _) (by simp[bO]) (dQ _) ?_)
    |(refine ay rfl 93 _ _ rfl _ _ rfl rfl _ _ ar (by kernel_rfl) (by simp) (by simp[Value.oneCell']) ?_))
   exact vU w.heap.size (w.heap.size+1) (fun _=>false) 0 _ 0 rfl rfl rfl rfl (HM.o _) (HS.o _) ⟨rfl,T.o _⟩
 ·have z:ja b a day=jL b:=aD g;have x:oq b a day=fun _=>false:=ax (by rw[z];exact g);have e2:vT b a day=0:=ax (by rw[z];exact g);rw[z,x,e2];obtain⟨X,hX⟩:=au (jL b);rw[hX]at g O⊢;obtain⟨er,a1⟩:=X;dsimp only at g O⊢;obtain⟨at_,a5⟩: ∃q:Int,(a1:Int)=q:=⟨_,rfl⟩
  rw[a5]at O⊢;have aM:(er==0)=false:=bj.2 g;have aN:(er !=0)=true:=(by simpa using g);subst u;go_enter func100,ntmps100;go_wp2_with fail;refine O.mono ?_;rintro e C ⟨rfl,j⟩;have b1:=aw bA j;have B:=ai j a0;have A:=ai j ap;have D:=am C (.cells #[ag er,ag at_] 93);have nG:=aE C (.cells #[ag er,ag at_] 93);have r:=ai D B;have v:=ai D A;have b2:=aw b1 D;have aP:=aH B;have aR:=aH A;generalize N:C.alloc (.cells #[ag er,ag at_] 93)=w2 at*;have zG:=ak 0 nG;go_wp2_with fail;refine dh (fun M _=>FtJ w w.heap.size C.heap.size er at_ M) [kn 16 (.agg (mv fun _=>false)),kn 17 (.agg #[ag er,ag at_]),nk,kn 7 (ag 0),nk] (fun _=>⟨b2.trans ((aI w2.heap.size w2).drew.mono b2.size),r,nG,_,_,v,(fun e=>by cases e)⟩) (fun _ _ _ _ n h=>⟨aw h.bel n,ai n h.msk,ai n h.src,h.flt.imp fun _ q=>q.imp fun _ q=>⟨ai n q.1,q.2⟩⟩) (by kernel_rfl) (fun M φ W2 d J F l hl t=> ?_) (fun M φ W5 G d=> ?_)
  ·simp only[kn,nk,dW,aQ,aX,Act.put,aA,aK,aJ]at hl;subst hl;simp only[cZ,Nat.reduceAdd]at t;obtain⟨xa,xb,nf,hf⟩:=d.flt;dsimp only[kn,nk,dB,eN,eg,Act.put];and_intros;all_goals first|exact trivial|intro hw hn hm K m
   ·go_simp;exact m _ _ ⟨rfl,aI _ _⟩
   ·refine dU 93 _ rfl _ (by simp[Act.eval,t]) _ _ _ _ d.src me rfl (by kernel_rfl) ?_;exact m _ _ ⟨rfl,aI _ _⟩
   ·refine eG 84 _ _ rfl _ (mv fun _=>false) (by simp[Act.eval,t]) (by simp[Act.eval,t]) _ _ d.msk (bh _) (by simp[bO]) (dQ _) ?_;exact m undef _ ⟨trivial,below_setRow d.bel (aB _) _,aL _ _ _ _ _ _ d.msk,(aV _ _ _ _ (by omega)).trans d.src,_,_,(aV _ _ _ _ (by omega)).trans nf,fun e=>hf (by simpa using e)⟩
   ·go_simp;exact m _ _ ⟨rfl,aI _ _⟩
   ·refine eG 93 _ _ rfl _ #[ag er,ag at_] (by simp[Act.eval,t]) (by simp[Act.eval,t]) _ _ nf (by kernel_rfl) (by simp) (by simp[Value.oneCell']) ?_;exact m undef _ ⟨trivial,below_setRow d.bel (Nat.le_succ _) _,(aV _ _ _ _ (by omega)).trans d.msk,(aV _ _ _ _ (by omega)).trans d.src,_,_,aL _ _ _ _ _ _ nf,fun _=>⟨rfl,rfl⟩⟩
  ·have Q:=d.msk;obtain⟨xa,xb,E,hf⟩:=d.flt;obtain⟨rfl,rfl⟩:=hf (G 4 (by decide) rfl);have T:=a8 d.bel;simp only[kn,nk,eh,aQ,aX,Act.put,aA,aK,aJ];go_wp2_with fail;exact vU w.heap.size (w.heap.size+1) (fun _=>false) 0 _ _ rfl rfl rfl rfl Q E ⟨rfl,T.o⟩
end Go.Proofs.YtaoljfdfhggbbaaGreatDoor
