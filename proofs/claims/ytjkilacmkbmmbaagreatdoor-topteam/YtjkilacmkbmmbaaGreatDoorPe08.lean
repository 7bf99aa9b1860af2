/- Texts of the proof. -/
import Derived.Test.YtjkilacmkbmmbaaGreatDoorPe07
set_option maxRecDepth 100000
set_option maxHeartbeats 8000000
namespace Go.Proofs.YtjkilacmkbmmbaaGreatDoor
open Go.Proofs.Tryz Go.RowKit Lx Vx Mx Msk
theorem NP (n:Int)(w:World)(a:0<=n)(b:n<146097):Calls prog 23 #[ag n] w fun e w'=>e= .returned (.bool true)/\w'=w:=by
 go_enter func23,ntmps23;go_wp2;go_ret;exact⟨rfl,rfl⟩
def vK (n:Int):Int:=(n+5).tmod 7
theorem Mh (n:Int)(a:0<=n):vK n=(n+5)%7:=by
 unfold vK;rw[Int.tmod_eq_emod_of_nonneg (by omega)]
theorem DL (n:Int)(a:0<=n):0<=vK n/\vK n<7:=by
 rw[Mh n a];omega
theorem O5 (n:Int)(w:World)(a:0<=n)(b:n<146097):Calls prog 15 #[ag n] w fun e w'=>e= .returned (ag (vK n))/\w'=w:=by
 have c1:=NP n w a b;have hb:=DL n a;have hw:(n+5).tmod 7=vK n:=rfl;go_enter func15,ntmps15;go_wp2_with fail;refine c1.mono ?_;rintro e w' ⟨rfl,rfl⟩;clear c1;go_wp2_with fail;go_ret;exact⟨rfl,rfl⟩
def dV (n a:Int):Bool:=bits BinOp.and IntKind.i64 (a/2^(vK n).toNat) 1==1
theorem JV (w0:World)(gm:Nat)(lv:Value)(n k:Int)(S:List M)(x b t:Int)(sv:Value)(W:World)(h:VSt w0 gm lv n S k W)(a0:0<=n)(a1:n<146097):
  Calls prog 233 #[ab gm 0,.agg #[ag 6,ag x,ag b,ag t,sv]] W fun r w'=>r= .returned (.bool (dV n x))/\ao W w':=by
 obtain⟨_,_,s0,nM,_⟩:=h;have k0:=ak 1 nM;have bA:=am W (.cells #[ag 6,ag x,ag b,ag t,sv] 234);have nA:=aC W (.cells #[ag 6,ag x,ag b,ag t,sv] 234);have k0':=aj bA k0;have z0:=ak 0 nA;have z1:=ak 1 nA;have hb:=DL n a0;have cw:=fun W=>O5 n W a0 a1;generalize hwA:W.alloc (.cells #[ag 6,ag x,ag b,ag t,sv] 234)=wA at*;clear nM nA k0;go_enter func233,ntmps233;go_wp2_with fail;go_quiet ((go_at_call 15;exact eU (cw _)));go_wp2_with fail;go_ret;exact⟨rfl,dr bA nq⟩
theorem JW (w0:World)(gm:Nat)(lv:Value)(n k:Int)(S:List M)(x b t:Int)(sv:Value)(W:World)(h:VSt w0 gm lv n S k W):
  Calls prog 233 #[ab gm 0,.agg #[ag 7,ag x,ag b,ag t,sv]] W fun r w'=>r= .returned (.bool (decide (x<=n)&&decide (n<=b)))/\ao W w':=by
 obtain⟨_,_,s0,nM,_⟩:=h;have k0:=ak 1 nM;have bA:=am W (.cells #[ag 7,ag x,ag b,ag t,sv] 234);have nA:=aC W (.cells #[ag 7,ag x,ag b,ag t,sv] 234);have k0':=aj bA k0;have z0:=ak 0 nA;have z1:=ak 1 nA;have z2:=ak 2 nA;generalize hwA:W.alloc (.cells #[ag 7,ag x,ag b,ag t,sv] 234)=wA at*;clear nM nA k0;by_cases h1:x<=n
 ·by_cases h2:n<=b
  ·rw[a7 h1,a7 h2];go_enter func233,ntmps233;go_wp2_with fail;go_quiet (fail);go_wp2_with fail;go_ret;exact⟨rfl,dr bA nq⟩
  ·rw[a7 h1,bj h2];have hd2:decide (n<=b)=false:=bj h2;go_enter func233,ntmps233;go_wp2_with fail;go_quiet (fail);go_wp2_with fail;go_ret
   first
    |exact⟨rfl,dr bA nq⟩
    |exact⟨congrArg (fun x=>Ending.returned (.bool x)) hd2,dr bA nq⟩
 ·rw[bj h1];have hd1:decide (x<=n)=false:=bj h1;go_enter func233,ntmps233;go_wp2_with fail;go_quiet (fail);go_wp2_with fail;go_ret;exact⟨rfl,dr bA nq⟩
theorem vL (K:Nat)(F:M->M->M)(eK: ∀args w,(callFunc K args).run prog w= .ok (.enter K args) w)(hK: ∀(f g:M) (W:World),Calls prog K #[.agg (mv f),.agg (mv g)] W fun e w'=>e= .returned (.agg (mv (F f g)))/\ao W w')
  (w0:World) (gm:Nat) (lv:Value) (day k:Int) (S:List M) (f g:M) (W:World) (h:VSt w0 gm lv day (S++[f,g]) k W) (hS:S.length<=900):
  Calls prog 232 #[ab gm 0,.func (.func K) #[] #[]] W fun e W'=>e= .returned (.tuple #[])/\VSt w0 gm lv day (S++[F f g]) k W':=by
 have e0:S++[f,g]=(S++[f])++[g]:=by simp
 rw[e0]at h;have c1:=si w0 gm lv day k (S++[f]) g W h (by rw[aL];simp;omega);have hz:=dU;have HK:=aY hK;clear hK h e0;go_enter func232,ntmps232;go_wp2_with fail;refine c1.mono ?_;rintro e w1 ⟨rfl,h1,_⟩;clear c1;have bA:=am w1 (.cells (mv fun _=>false) 61);have nA:=aC w1 (.cells (mv fun _=>false) 61);generalize hwA:w1.alloc (.cells (mv fun _=>false) 61)=wA at*;have bB:=below_setRow bA (aA _) (mv g);have nB:=aJ _ _ _ (mv g) _ _ nA;have h2:=h1.below bB;obtain⟨_,_,sv1,nM1,_⟩:=h1
 have hg1:w1.heap.size≠gm:=fun e=>by
  have:=aF nM1;omega
 generalize hwB:wA.setRow w1.heap.size (mv g)=wB at*;have c2:=si w0 gm lv day k S f wB h2 (by omega);clear h2 bA bB nM1;go_wp2_with(refine az rfl 61 _ _ rfl _ _ rfl rfl _ _ nA (ba _) (by simp[bO]) (dH _) ?_)
 refine c2.mono ?_;rintro e w2 ⟨rfl,h3,hfr⟩;have nG:=(hfr _ (aF nB) hg1).trans nB;clear c2 hwA hwB nA nB hfr;have bC:=am w2 (.cells (mv fun _=>false) 61);have nC:=aC w2 (.cells (mv fun _=>false) 61);generalize hwC:w2.alloc (.cells (mv fun _=>false) 61)=wC at*;have bD:=below_setRow bC (aA _) (mv f);have nD:=aJ _ _ _ (mv f) _ _ nC;have nG2:=ai bD nG;have h4:=h3.below bD;generalize hwD:wC.setRow w2.heap.size (mv f)=wD at*;have c3:=HK.o f g wD;clear h3 bC bD nG
 go_wp2_with(first
  |(refine az rfl 61 _ _ rfl _ _ rfl rfl _ _ nC (ba _) (by simp[bO]) (dH _) ?_)
  |(refine aR rfl 61 _ rfl _ rfl _ _ _ _ nD bQ rfl (ba _) ?_)
  |(refine aR rfl 61 _ rfl _ rfl _ _ _ _ nG2 bQ rfl (ba _) ?_))
 refine c3.mono ?_;rintro e w5 ⟨rfl,b5⟩;have h5:=h4.below b5;have c4:=uC w0 gm lv day k S (F f g) w5 h5 (by omega);clear c3 h4 b5 h5 nC nD nG2 hwC hwD;go_wp2_with fail;refine c4.mono ?_;rintro e w6 ⟨rfl,h6,_⟩;have HN:=aY h6;clear c4 h6;go_wp2_with fail;exact⟨rfl,_,dY rfl _ _ _,rfl,HN.o⟩
section
theorem NQ (l:List (Int×Int)):spM l=inl l:=rfl
abbrev StO (w0:World)(gm:Nat)(lv:Value)(day op a b t:Int)(sv:Value)(k:Nat)(W:World)(k':Int)(S:List M)(c:Int):Prop:=Calls prog 217 #[ab gm 0,.agg #[ag op,ag a,ag b,ag t,sv],ag (k:Int)] W fun e W'=>e= .returned (ag k')/\VSt w0 gm lv day S c W'
section
variable (w0:World) (gm:Nat) (lv:Value) (day c:Int) (S:List M) (a b t:Int) (sv:Value) (k:Nat) (W:World)
theorem rJ (op:Int): ∃wX,W.alloc (.cells #[ag op,ag a,ag b,ag t,sv] 234)=wX/\ao W wX/\wX.heap[W.heap.size]? =ah #[ag op,ag a,ag b,ag t,sv] 234/\wX.cell? (ae W.heap.size 0)=some (ag op)/\wX.cell? (ae W.heap.size 1)=some (ag a)/\wX.cell? (ae W.heap.size 3)=some (ag t)/\wX.cell? (ae W.heap.size 4)=some sv:=
 have n:=aC W (.cells #[ag op,ag a,ag b,ag t,sv] 234)
 ⟨_,rfl,am _ _,n,ak 0 n,ak 1 n,ak 3 n,ak 4 n⟩
theorem BJ {k:Nat}(h:k<=2000):(0:Int)<=(k:Int)/\(k:Int)<=2000:=by omega
theorem NR (sp:List (Int×Int))(h:VSt w0 gm lv day S c W)(hr:mM W sv sp)(hk:k<=2000)(hS:S.length<=900):StO w0 gm lv day 1 a b t sv k W ((k+1:Nat):Int) (S++[spM sp]) c:=by
 obtain⟨wX,hwX,bX,nX,z0,z1,z3,z4⟩:=rJ a b t sv W 1;obtain⟨hk0,hk1⟩:=BJ hk;have hX:=h.below bX;have c1:=DF sv sp wX (hr.later bX);rw[<-NQ]at c1;clear h hr bX;go_enter func217,ntmps217;go_wp2_with fail;refine c1.mono ?_;rintro e w1 ⟨rfl,b1⟩;have h1:=hX.below b1;have c2:=uC w0 gm lv day c S (spM sp) w1 h1 (by omega);clear c1 hX b1 h1 z0 z1 z3 z4 nX hwX;go_wp2_with fail;refine c2.mono ?_;rintro e w2 ⟨rfl,h2,_⟩;have HN:=aY h2;clear c2 h2;go_wp2_with fail;go_ret;exact⟨by go_num,HN.o⟩
theorem BK (f g:M)(op:Int)(o:M->M->M)(ho:op=2/\o=unM\/op=3/\o=dfM\/op=4/\o=boM)(h:VSt w0 gm lv day (S++[f,g]) c W)(hk:k<=2000)(hS:S.length<=900):StO w0 gm lv day op a b t sv k W ((k+1:Nat):Int) (S++[o f g]) c:=by
 obtain⟨wX,hwX,bX,nX,z0,z1,z3,z4⟩:=rJ a b t sv W op;obtain⟨hk0,hk1⟩:=BJ hk;have hX:=h.below bX;rcases ho with⟨rfl,rfl⟩|⟨rfl,rfl⟩|⟨rfl,rfl⟩;case' inl=>have c1:=vL 83 unM (fun _ _=>by simp[go_sem]) (fun f g W=>yZ f g W) w0 gm lv day c S f g wX hX (by omega)
 case' inr.inl=>have c1:=vL 84 dfM (fun _ _=>by simp[go_sem]) (fun f g W=>pT f g W) w0 gm lv day c S f g wX hX (by omega)
 case' inr.inr=>have c1:=vL 85 boM (fun _ _=>by simp[go_sem]) (fun f g W=>AY f g W) w0 gm lv day c S f g wX hX (by omega)
 all_goals
  clear h bX hX nX
  go_enter func217,ntmps217
  go_wp2_with fail
  refine c1.mono ?_
  rintro e w1 ⟨rfl,h1⟩
  have HN:=aY h1
  clear c1 h1 z0 z1 z3 z4 hwX
  go_wp2_with fail
  go_ret
  exact⟨by go_num,HN.o⟩
structure ShJ (w0:World)(gm:Nat)(lv:Value)(day c:Int)(S:List M)(g g':M)(gx:Nat)(X:Array Value)(M:Nat->Bool)(W:World):Prop where
 box:W.heap[gx]? =ah X 234
 ahead:M 2=false->VSt w0 gm lv day (S++[g]) c W
 mid:M 2=true->M 6=false->VSt w0 gm lv day S c W
 fin:M 6=true->VSt w0 gm lv day (S++[g']) c W
theorem NS (g:M)(h:VSt w0 gm lv day (S++[g]) c W)(hk:k<=2000)(hS:S.length<=900)(ha0: -1439<=a)(ha1:a<=1439):StO w0 gm lv day 5 a b t sv k W ((k+1:Nat):Int) (S++[shM g a]) c:=by
 obtain⟨wX,hwX,bX,nX,z0,z1,z3,z4⟩:=rJ a b t sv W 5;obtain⟨hk0,hk1⟩:=BJ hk;have hX:=h.below bX;have HSH:P3 (∀W,Calls prog 86 #[.agg (mv g),ag a] W fun e w'=>e= .returned (.agg (mv (shM g a)))/\ao W w'):=fun W=>wu g a W (by omega) (by omega)
 have hgx:W.heap.size≠gm:=fun e=>by
  obtain⟨_,_,_,q,_⟩:=h;have:=aF q;omega
 clear h bX z1 z3 z4;go_enter func217,ntmps217;go_wp2_with fail;obtain⟨gx,hgx'⟩: ∃b,W.heap.size=b:=⟨_,rfl⟩
 rw[hgx']at nX hgx;simp only[hgx'];clear hgx' hwX z0;refine dt (fun M _=>ShJ w0 gm lv day c S g (shM g a) gx #[ag 5,ag a,ag b,ag t,sv] M) [kn 30 (ab gm 0),kn 31 (ab gm 0),dk 32 (.agg (mv g)),kn 33 (ab gx 1),kn 34 (ag a),dk 35 (.agg (mv (shM g a))),dk 36 (.tuple #[])] (fun _=>⟨nX,fun _=>hX.below (aG _ _).drew,(fun h=>by cases h),(fun h=>by cases h)⟩) (fun _ _ _ _ hb h=>⟨ai hb h.box,fun e=>(h.ahead e).below hb,fun e e'=>(h.mid e e').below hb,fun e=>(h.fin e).below hb⟩) (by kernel_rfl) (fun M φ W2 hJ hcl F l hl hF=> ?_) (fun M φ W5 hM hJ=> ?_)
 ·simp only[kn,dk,dN,aQ,aW,Act.put,aB,aI,aH]at hl;subst hl;simp only[dg,Nat.reduceAdd]at hF;have zz:=ak 1 hJ.box;dsimp only[kn,dk,dC,en,dS,Act.put];and_intros;all_goals first|exact trivial|intro hw hn hm K hK
  all_goals try (go_simp;with_reducible exact hK _ _ ⟨rfl,aG _ _⟩)
  ·go_simp;refine(si w0 gm lv day c S g W2 (hJ.ahead hm) (by omega)).mono ?_;rintro e' W' ⟨rfl,hM,hfr⟩
   have n6:M 6=false:=by
    cases h:M 6 with
    |false=>rfl
    |true=>rw[hcl 5 _ rfl (hcl 6 _ rfl h ⟨5,.data⟩ (by simp) rfl rfl) ⟨2,.data⟩ (by simp) rfl rfl]at hm;cases hm
   exact hK _ _ ⟨rfl,(hfr _ (aF hJ.box) hgx).trans hJ.box,(fun e=>by simp at e),fun _ _=>hM,(fun e=>by simp[n6]at e)⟩
  ·go_simp;refine(HSH.o W2).mono ?_;rintro e' W' ⟨rfl,hb'⟩;exact hK _ _ ⟨rfl,ai hb' hJ.box,fun e=>(hJ.ahead (by simpa using e)).below hb',fun e e'=>(hJ.mid (by simpa using e) (by simpa using e')).below hb',fun e=>(hJ.fin (by simpa using e)).below hb'⟩
  ·have q2:=hcl 5 _ rfl (hw ⟨5,.data⟩ (by simp) rfl rfl) ⟨2,.data⟩ (by simp) rfl rfl;go_simp;refine(uC w0 gm lv day c S (shM g a) W2 (hJ.mid q2 hm) (by omega)).mono ?_;rintro e' W' ⟨rfl,hM,hfr⟩;exact hK _ _ ⟨rfl,hfr _ _ _ hJ.box (by decide) hgx,(fun e=>by simp[q2]at e),(fun _ e=>by simp at e),fun _=>hM⟩
 ·have HN:=aY (hJ.fin (hM 6 (by decide) rfl));simp only[kn,dk,dP,aQ,aW,Act.put,aB,aI,aH];clear hM hJ HSH hX nX;go_wp2_with fail;go_ret;exact⟨by go_num,HN.o⟩
theorem NT (S':List M)(c':Int)(h:VSt w0 gm lv day S c W)(hk:k<=2000)(hrun: ∀W,VSt w0 gm lv day S c W->Calls prog 202 #[ab gm 0,ag a] W fun e W'=>e= .returned (.tuple #[])/\VSt w0 gm lv day S' c' W'):StO w0 gm lv day 8 a b t sv k W ((k+1:Nat):Int) S' c':=by
 obtain⟨wX,hwX,bX,nX,z0,z1,z3,z4⟩:=rJ a b t sv W 8;obtain⟨hk0,hk1⟩:=BJ hk;have c1:=hrun wX (h.below bX);clear h bX nX hrun;go_enter func217,ntmps217;go_wp2_with fail;refine c1.mono ?_;rintro e w1 ⟨rfl,h1⟩;have HN:=aY h1;clear c1 h1 z0 z1 z3 z4 hwX;go_wp2_with fail;go_ret;exact⟨by go_num,HN.o⟩
theorem Hb (op:Int)(q:Bool)(ho:op=6/\q=dV day a\/op=7/\q=(decide (a<=day)&&decide (day<=b)))(ps:Option Addr)(ls cs:Nat)(h:VSt w0 gm lv day S c W)(hk:k<=2000)(hS:S.length<=900)(d0:0<=day)(d1:day<146097):StO w0 gm lv day op a b t (.slice ps ls cs) k W (if q=true then((k+1:Nat):Int) else t) (if q=true then S else S++[noM]) c:=by
 obtain⟨wX,hwX,bX,nX,z0,z1,z3,z4⟩:=rJ a b t (.slice ps ls cs) W op;obtain⟨hk0,hk1⟩:=BJ hk;have hX:=h.below bX
 have hgx:W.heap.size≠gm:=fun e=>by
  obtain⟨_,_,_,q,_⟩:=h;have:=aF q;omega
 have hz:=dU;rcases ho with⟨rfl,hq⟩|⟨rfl,hq⟩;case' inl=>have c1:=JV w0 gm lv day c S a b t (.slice ps ls cs) wX hX d0 d1
 case' inr=>have c1:=JW w0 gm lv day c S a b t (.slice ps ls cs) wX hX
 all_goals
  rw[<-hq]at c1
  clear h bX d0 d1 hq
  go_enter func217,ntmps217
  go_wp2_with(refine aR rfl 234 _ rfl _ rfl _ _ _ _ nX rE rfl (by kernel_rfl) ?_)
  refine c1.mono ?_
  rintro e w1 ⟨rfl,b1⟩
  have h1:=hX.below b1
  have nX1:=ai b1 nX
  have c2:=uC w0 gm lv day c S noM w1 h1 (by omega)
  unfold noM at c2
  have HN:=aY h1
  clear c1 hX b1 h1 z0 z1 z3 z4 hwX nX
  cases q with
  |true=>
   simp only
   go_wp2_with fail
   go_ret
   exact⟨by go_num,HN.o⟩
  |false=>
   simp only
   go_wp2_with fail
   refine c2.mono ?_
   rintro e w2 ⟨rfl,h2,hfr⟩
   have nX2:=hfr _ _ _ nX1 (by decide) hgx
   have z3:=ak 3 nX2
   have HN:=aY h2
   clear c2 h2 hfr nX1 nX2
   go_wp2_with fail
   go_ret
   exact⟨rfl,HN.o⟩
end
end
theorem gO {w0:World}{gm:Nat}{lv:Value}{day c c':Int}{S S':List M}{W:World}(h:VSt w0 gm lv day S c W)(e1:S=S')(e2:c=c'):VSt w0 gm lv day S' c' W:=by
 subst e1 e2;exact h
theorem JX {ev:Nat->M×Nat}{x:In}{sv:Value}{s:Vx.St}{B:List M}{c:Int}{W w0:World}{gm:Nat}{lv:Value}{day:Int}{n r:Nat}(h:VSt w0 gm lv day (B++s.S) c W)(hr:mM W sv x.sp)(hi:fj x s.k n r=0)(hk:s.k<=2000)(hS:B.length+s.S.length<=900)(htk:tk x<=s.S.length)
  (d0:0<=day) (d1:day<146097)
  (hrun:x.op=8-> ∀W,VSt w0 gm lv day (B++s.S) c W->Calls prog 202 #[ab gm 0,ag x.a] W fun e W'=>e= .returned (.tuple #[])/\VSt w0 gm lv day (B++s.S++[(ev x.a.toNat).1]) (c+(ev x.a.toNat).2) W'):
  Calls prog 217 #[ab gm 0,.agg #[ag x.op,ag x.a,ag x.b,ag x.to,sv],ag (s.k:Int)] W fun e W'=>e= .returned (ag ((dz (dV day) day ev x s).k:Int))/\VSt w0 gm lv day (B++(dz (dV day) day ev x s).S) (c+(((dz (dV day) day ev x s).n:Int)-(s.n+1))) W':=by
 have hl:(B++s.S).length<=900:=by rw[aL];exact hS
 rcases tp hi with ho|ho|ho|ho|ho|ho|ho
 ·have e:dz (dV day) day ev x s=⟨s.k+1,s.S++[spM x.sp],s.n+1⟩:=by simp[dz,ho]
  rw[e,ho];refine(NR w0 gm lv day c (B++s.S) x.a x.b x.to sv s.k W x.sp h hr hk hl).mono ?_;rintro e' W' ⟨rfl,h'⟩;exact⟨rfl,gO h' (by simp) (by simp)⟩
 ·have e:dz (dV day) day ev x s=⟨s.k+1,mK unM s.S,s.n+1⟩:=by simp[dz,ho]
  have h2:tk x=2:=(by simp[tk,ho]);obtain⟨T,f,g,hT⟩:=ux (S:=s.S) (by omega);rw[e,ho];dsimp only;rw[hT]at h hl⊢;rw[lO];refine(BK w0 gm lv day c (B++T) x.a x.b x.to sv s.k W f g 2 unM (.inl ⟨rfl,rfl⟩) (gO h (by simp) rfl) hk (by simp at hl⊢;omega)).mono ?_;rintro e' W' ⟨rfl,h'⟩;exact⟨rfl,gO h' (by simp) (by simp)⟩
 ·have e:dz (dV day) day ev x s=⟨s.k+1,mK dfM s.S,s.n+1⟩:=by simp[dz,ho]
  have h2:tk x=2:=(by simp[tk,ho]);obtain⟨T,f,g,hT⟩:=ux (S:=s.S) (by omega);rw[e,ho];dsimp only;rw[hT]at h hl⊢;rw[lO];refine(BK w0 gm lv day c (B++T) x.a x.b x.to sv s.k W f g 3 dfM (.inr (.inl ⟨rfl,rfl⟩)) (gO h (by simp) rfl) hk (by simp at hl⊢;omega)).mono ?_;rintro e' W' ⟨rfl,h'⟩;exact⟨rfl,gO h' (by simp) (by simp)⟩
 ·have e:dz (dV day) day ev x s=⟨s.k+1,mK boM s.S,s.n+1⟩:=by simp[dz,ho]
  have h2:tk x=2:=(by simp[tk,ho]);obtain⟨T,f,g,hT⟩:=ux (S:=s.S) (by omega);rw[e,ho];dsimp only;rw[hT]at h hl⊢;rw[lO];refine(BK w0 gm lv day c (B++T) x.a x.b x.to sv s.k W f g 4 boM (.inr (.inr ⟨rfl,rfl⟩)) (gO h (by simp) rfl) hk (by simp at hl⊢;omega)).mono ?_;rintro e' W' ⟨rfl,h'⟩;exact⟨rfl,gO h' (by simp) (by simp)⟩
 ·have e:dz (dV day) day ev x s=⟨s.k+1,yC (fun f=>shM f x.a) s.S,s.n+1⟩:=by simp[dz,ho]
  have h2:tk x=1:=(by simp[tk,ho])
  have hrng: -1439<=x.a/\x.a<=1439:=by
   simp only[fj,ho]at hi;simp only[show¬((5:Int)=2\/(5:Int)=3\/(5:Int)=4) by omega,show¬(5:Int)=1 by omega,if_false,if_true]at hi;by_cases hh:x.a≠0/\ -1439<=x.a/\x.a<=1439
   ·exact hh.2
   ·rw[aw hh]at hi;simp at hi
  obtain⟨T,g,hT⟩:=xl (S:=s.S) (by omega);rw[e,ho];dsimp only;rw[hT]at h hl⊢;rw[yD];refine(NS w0 gm lv day c (B++T) x.a x.b x.to sv s.k W g (gO h (by simp) rfl) hk (by simp at hl⊢;omega) hrng.1 hrng.2).mono ?_;rintro e' W' ⟨rfl,h'⟩;exact⟨rfl,gO h' (by simp) (by simp)⟩
 ·have e:dz (dV day) day ev x s=⟨s.k+1,s.S++[(ev x.a.toNat).1],s.n+1+(ev x.a.toNat).2⟩:=by simp[dz,ho]
  rw[e];have hr':=hrun ho;rw[ho];refine(NT w0 gm lv day c (B++s.S) x.a x.b x.to sv s.k W (B++s.S++[(ev x.a.toNat).1]) (c+(ev x.a.toNat).2) h hk hr').mono ?_;rintro e' W' ⟨rfl,h'⟩;exact⟨rfl,gO h' (by simp) (by push_cast;omega)⟩
 ·have hto:=rD hi ho;obtain⟨ps,cs,rfl,_,_⟩:=hr.form
  have e:dz (dV day) day ev x s=if onD (dV day) day x=true then⟨s.k+1,s.S,s.n+1⟩ else⟨x.to.toNat,s.S++[noM],s.n+1⟩:=by
   unfold isG at ho;unfold dz;rw[aw (by omega),aw (by omega),aw (by omega),aw (by omega),aw (by omega),aw (by omega)]
  rw[e];have hto2:((x.to.toNat:Nat):Int)=x.to:=(by omega);rcases ho with ho|ho
  ·have e6:onD (dV day) day x=dV day x.a:=(by simp[onD,ho]);rw[ho,e6];refine(Hb w0 gm lv day c (B++s.S) x.a x.b x.to s.k W 6 _ (.inl ⟨rfl,rfl⟩) ps x.sp.length cs h hk hl d0 d1).mono ?_;rintro e' W' ⟨rfl,h'⟩;cases hq:dV day x.a with
   |true=>
    rw[hq]at h';exact⟨rfl,gO h' rfl (by simp)⟩
   |false=>
    rw[hq]at h';exact⟨congrArg (fun q=>Ending.returned (ag q)) hto2.symm,gO h' (by simp) (by simp)⟩
  ·have e7:onD (dV day) day x=(decide (x.a<=day)&&decide (day<=x.b)):=by
    unfold onD;rw[aw (by omega)]
   rw[ho,e7];refine(Hb w0 gm lv day c (B++s.S) x.a x.b x.to s.k W 7 _ (.inr ⟨rfl,rfl⟩) ps x.sp.length cs h hk hl d0 d1).mono ?_;rintro e' W' ⟨rfl,h'⟩;cases hq:(decide (x.a<=day)&&decide (day<=x.b)) with
   |true=>
    rw[hq]at h';exact⟨rfl,gO h' rfl (by simp)⟩
   |false=>
    rw[hq]at h';exact⟨congrArg (fun q=>Ending.returned (ag q)) hto2.symm,gO h' (by simp) (by simp)⟩
theorem VSt.count {w0 W:World}{gm:Nat}{lv:Value}{day k:Int}{S:List M}(h:VSt w0 gm lv day S k W)(k':Int):VSt w0 gm lv day S k' (W.setCell ⟨gm,3,none⟩ (ag k')):=by
 obtain⟨h1,h2,sv,h3,h4⟩:=h;have hne:=jY h4 h3 (by decide);refine⟨h1.setCell (p:=⟨gm,3,none⟩) h2 _,h2,sv,aX W gm 3 _ _ _ h3,?_⟩;exact h4.kept (row:=some gm) ⟨rfl,rfl,rfl,by simp,fun q hq hr=>aN W ⟨gm,3,none⟩ q _ fun e=>hr (congrArg some e)⟩ (.inr fun e=>hne e.symm)
def NU (wk:Int->Bool)(day:Int)(ev:Nat->M×Nat)(cs:List Cd)(l:List In)(R:Vx.St)(w0:World)(gm:Nat)(lv:Value)(B:List M)(c:Int)(t:Value)(wr:World):Prop:= ∃s:Vx.St,t=ag (s.k:Int)/\mL cs l s/\runV wk day ev l s=R/\VSt w0 gm lv day (B++s.S) (c+s.n) wr
theorem DM (cs:List Cd)(lv:Value)(w0:World)(gm:Nat)(day:Int)(hR:l3 cs)(hin:InV w0 lv cs)(d0:0<=day)(d1:day<146097): ∀(d r:Nat) (B:List M) (c:Int) (W:World),r<cs.length->rk (fL cs) cs.length r<d->VSt w0 gm lv day B c W->(B.length:Int)+(cs.getD r cd0).high<=800->0<=c->c+(cs.getD r cd0).steps<=1000000->
  Calls prog 202 #[ab gm 0,ag (r:Int)] W fun e W'=>e= .returned (.tuple #[])/\VSt w0 gm lv day (B++[(evV (dV day) day cs d r).1]) (c+(evV (dV day) day cs d r).2) W'
 |0,_,_,_,_,_,hd,_,_,_,_=>by omega
 |d+1,r,B,c,W,hr,hd,hM,hB,hc0,hc1=>by
  have ih:=DM cs lv w0 gm day hR hin d0 d1 d;obtain⟨u,hu⟩: ∃u,cs[r]? =some u:=⟨cs[r],ax hr⟩
  rw[iO hu]at hB hc1;have hal:=je (hR.alone r u hu);have hfit:=hR.fit r u hu;obtain⟨hr1,hr2,hr3,hr4,hr5,hr6⟩:=hR.run (wk:=dV day) (day:=day) (d+1) r u hu hd;rw[Nat.add_sub_cancel]at hr3 hr4 hr5 hr6;have hup:Up (dV day) day (evV (dV day) day cs d) u.ins:=EU hal.2.2;obtain⟨p,cp,elv,hlen,hcc⟩:=hin.form;obtain⟨sv,hins,g,o,rfl,e0,_,_⟩:=hcc r u hu;obtain⟨pu,cu,rfl,hlu,hcu⟩:=hins.form;have HCU:=aY hcu;have HIH:=aY ih;have HAL:=aY hal.2.2;have HFIT:=aY hfit;have HUP:=aY hup;have HRT:=aY hR;have HU:=aY hu;have HST:P3 (∀i,0<=(cs.getD i cd0).steps):=hR.steps0
  have HEV:P3 (∀(j:Nat) (x:In),u.ins[j]? =some x->x.op=8->((evV (dV day) day cs d x.a.toNat).2:Int)<=(cs.getD x.a.toNat cd0).steps):=fun j x hx ho=>by
   obtain⟨q1,_,q3⟩:=hR.call hu hx ho;have hg:cs[x.a.toNat]? =some cs[x.a.toNat]:=ax q1;rw[iO hg];exact(hR.run (wk:=dV day) (day:=day) d _ _ hg (by omega)).2.1
  have hln:u.ins.length<=2000:=hal.1.2;have hstp:u.steps<=20000:=hal.2.1.2.2;have f0:=aj hM.bel e0;have hi0:(0:Int)<=(r:Int):=(by omega);have hi1:(r:Int)<(cs.length:Int):=(by omega);have hul:(0:Int)<=(u.ins.length:Int):=(by omega)
  have nM: ∃sv,W.heap[gm]? =ah #[lv,ag day,sv,ag c] 256:=by
   obtain⟨_,_,s1,q,_⟩:=hM;exact⟨s1,q⟩
  obtain⟨s1,nM⟩:=nM;rw[elv]at nM;have zM:=ak 0 nM;have HM:=aY hM;have HR5:=aY hr5;have HR6:=aY hr6;clear hal hfit hr1 hr2 hr3 hr4 hr5 hr6 hup hcc hins hcu ih hR hu hM nM hin elv;go_enter func202,ntmps202;go_wp2_with fail;have hM:=HM.o;clear HM zM f0 e0;go_loopw [5] (fun t wr=>NU (dV day) day (evV (dV day) day cs d) cs u.ins (runV (dV day) day (evV (dV day) day cs d) u.ins ⟨0,[],0⟩) w0 gm lv B c t wr) (fun t _=>u.ins.length-(intOf t).toNat);case atStart=>exact⟨⟨0,[],0⟩,rfl,mL.nil,rfl,gO hM (by simp) (by simp)⟩
  case round=>
   obtain⟨s,rfl,hI,hrv,hMs⟩:=hrel;clear hM;have hk0:(0:Int)<=(s.k:Int):=(by omega);have hsle:=hI.le;have hsst:=hI.st;have hshi:=hI.hi;by_cases hlt:s.k<u.ins.length
   ·have hlt':(s.k:Int)<(u.ins.length:Int):=(by omega);obtain⟨x,hx⟩: ∃x,u.ins[s.k]? =some x:=⟨u.ins[s.k],ax hlt⟩
    obtain⟨sk,hrow,g2,o2,hpe,k0,k1,k2,k3,k4⟩:=HCU.o s.k _ hx;subst hpe;have hie:=HAL.o _ _ hx;have hnext:=hI.step (wk:=dV day) (day:=day) (ev:=evV (dV day) day cs d) HFIT.o.well hx hie HST.o (HEV.o _ _ hx);have hrs:=lA HUP.o hx
    have hm1:stS cs u.ins s.k<=u.steps:=by
     rw[<-HFIT.o.steps];exact vH HST.o (by omega)
    have hm2:hAt u.ins s.k<=u.high:=by
     rw[<-HFIT.o.high];exact LX (by omega)
    have htk:=HFIT.o.well.tk _ _ hx;have hM2:=hMs.count (c+s.n+1);obtain⟨_,_,s2,nM2,_⟩:=hMs;have z3:=ak 3 nM2;have y3:=bl _ _ 3 _ _ nM2;have q0:=aj hM2.bel k0;have q1:=aj hM2.bel k1;have q2:=aj hM2.bel k2;have q3:=aj hM2.bel k3;have q4:=aj hM2.bel k4
    have cS:=JX (ev:=evV (dV day) day cs d) (x:=x) (sv:=sk) (s:=s) (B:=B) (r:=cs.length) hM2 (hrow.later hM2.bel) hie (by omega) (by omega) (by omega) d0 d1 (fun ho W' hW'=>by
     obtain⟨v1,v2,v3⟩:=HRT.o.call HU.o hx ho;have h8:=jH (cs:=cs) hx;rw[ay ho]at h8
     have h9:stS cs u.ins (s.k+1)<=u.steps:=by
      rw[<-HFIT.o.steps];exact vH HST.o (by omega)
     have h10:=JP (cs:=cs) hx hlt ho;rw[HFIT.o.high]at h10;have:=HIH.o x.a.toNat (B++s.S) (c+s.n+1) W' v1 (by omega) hW' (by rw[aL];push_cast;omega) (by omega) (by omega);rw[v2]at this;exact this)
    have HN:P3 (∀W',VSt w0 gm lv day (B++(dz (dV day) day (evV (dV day) day cs d) x s).S) (c+s.n+1+(((dz (dV day) day (evV (dV day) day cs d) x s).n:Int)-(s.n+1))) W'->NU (dV day) day (evV (dV day) day cs d) cs u.ins (runV (dV day) day (evV (dV day) day cs d) u.ins ⟨0,[],0⟩) w0 gm lv B c (ag ((dz (dV day) day (evV (dV day) day cs d) x s).k:Int)) W'):=fun W' hW'=>⟨_,rfl,hnext.1,hrs.symm.trans hrv,gO hW' rfl (by omega)⟩
    have hgt:=hnext.2;have hc2:c+s.n+1<=2000000:=(by omega);have hc3:0<=c+s.n:=(by omega);obtain⟨k',hk'⟩: ∃q,(dz (dV day) day (evV (dV day) day cs d) x s).k=q:=⟨_,rfl⟩
    rw[hk']at cS HN hgt;generalize (dz (dV day) day (evV (dV day) day cs d) x s).S=S' at*;generalize (dz (dV day) day (evV (dV day) day cs d) x s).n=n' at*;clear hk' hnext hrs hI hrv hx hie htk hM2 nM2 HIH HRT HAL HFIT HUP HEV HST HU HCU HR5 HR6 hrow;generalize hwS:wr.setCell ⟨gm,3,none⟩ (ag (c+s.n+1))=wS at*;go_wp2_with fail;refine cS.mono ?_;rintro e w2 ⟨rfl,h2⟩;have HN2:=aY (HN.o _ h2);clear cS h2 HN;go_wp2_with fail;go_roundw;case rel=>exact HN2.o
    case measure=>simp[intOf];omega
   ·have hlt': ¬(s.k:Int)<(u.ins.length:Int):=(by omega);have hend:=vI (wk:=dV day) (day:=day) (ev:=evV (dV day) day cs d) (show s.k=u.ins.length by omega);have hs:s=runV (dV day) day (evV (dV day) day cs d) u.ins ⟨0,[],0⟩:=hend.symm.trans hrv
    have HN:P3 (VSt w0 gm lv day (B++[(evV (dV day) day cs (d+1) r).1]) (c+(evV (dV day) day cs (d+1) r).2) wr):=by
     show VSt _ _ _ _ _ _ _;rw[<-HR5.o,<-HR6.o,<-hs];exact hMs
    clear hMs hs hend hrv hI HIH HRT HAL HFIT HUP HEV HST HU HCU HR5 HR6;go_wp2_with fail;exact⟨rfl,_,dY rfl _ _ _,rfl,HN.o⟩
def iU (cs:List Cd)(rule day:Int):Int×Nat:=if(jw cs).1≠0 then jw cs else if¬(0<=rule/\rule<cs.length) then(6,0) else if¬(0<=day/\day<146097) then(3,0) else(0,0)
def oY (cs:List Cd)(rule day:Int):M:=if(iU cs rule day).1=0 then(evV (dV day) day cs (cs.length+1) rule.toNat).1 else fun _=>false
def vM (cs:List Cd)(rule day:Int):Nat:=if(iU cs rule day).1=0 then(evV (dV day) day cs (cs.length+1) rule.toNat).2 else 0
def E6 (f:M)(n er at_:Int)(w:World)(e:Ending)(w':World):Prop:=e= .returned (.tuple #[.agg (mv f),ag n,.agg #[ag er,ag at_]])/\ao w w'
theorem vN {R:Ending->World->Prop}{a:Act}{w:World}(g g':Nat)(f:M)(n er at_:Int)(hd:a.defers=[])(h6:a.tmps.getD 6 undef=ab g 0)(h7:a.tmps.getD 7 undef=ag n)(h8:a.tmps.getD 8 undef=ab g' 0)
  (hg:w.heap[g]? =ah (mv f) 61) (hg':w.heap[g']? =ah #[ag er,ag at_] 47) (hR:R (.returned (.tuple #[.agg (mv f),ag n,.agg #[ag er,ag at_]])) w):bodyPost prog f187 R .ret a w:=by
 refine aU (v:= .tuple #[.agg (mv f),ag n,.agg #[ag er,ag at_]]) ?_ hd hR;have h6':a.tmps[6]?.getD undef=ab g 0:=by simpa using h6
 have h7':a.tmps[7]?.getD undef=ag n:=by simpa using h7
 have h8':a.tmps[8]?.getD undef=ab g' 0:=by simpa using h8
 have hv:=dR (P:=prog) w g 61 61 _ _ _ hg bQ rfl (ba _);have hv':=dR (P:=prog) w g' 47 47 _ _ _ hg' lQ rfl (by kernel_rfl);simp[results,results187,h6',h7',h8',asAddr,hv,hv']
structure FtJ (w:World)(rr rf:Nat)(er at_:Int)(M:Nat->Bool)(W:World):Prop where
 bel:ao w W
 msk:W.heap[rr]? =ah (mv fun _=>false) 61
 src:W.heap[rf]? =ah #[ag er,ag at_] 47
 flt: ∃a b,W.heap[rr+1]? =ah #[ag a,ag b] 47/\(M 4=true->a=er/\b=at_)
structure RnJ (w w0:World)(gm:Nat)(lv:Value)(day k:Int)(f:Vx.M)(rr:Nat)(M:Nat->Bool)(W:World):Prop where
 bel:ao w W
 mach: ∃sv,W.heap[gm]? =ah #[lv,ag day,sv,ag k] 256
 ahead:M 0=false->VSt w0 gm lv day [f] k W
 m0:M 4=false->W.heap[rr]? =ah (mv fun _=>false) 61
 m1:M 4=true->W.heap[rr]? =ah (mv f) 61
 flt:W.heap[rr+1]? =ah #[ag 0,ag 0] 47
theorem BL (cs:List Cd)(lv:Value)(rule day:Int)(w:World)(h:InV w lv cs):
  Calls prog 187 #[lv,ag rule,ag day] w (E6 (oY cs rule day) (vM cs rule day:Int) (iU cs rule day).1 ((iU cs rule day).2:Int) w):=by
 obtain⟨p,cp,elv,hlen,hcc⟩:=h.form;have hz:=dU;have bA:ao w ((w.alloc (.cells (mv fun _=>false) 61)).alloc (.cells #[ag 0,ag 0] 47)):=(am _ _).alloc (by simp) _;have nM0:((w.alloc (.cells (mv fun _=>false) 61)).alloc (.cells #[ag 0,ag 0] 47)).heap[w.heap.size]? =ah (mv fun _=>false) 61:=by(repeat (first|refine cY _ _ _ (by simp only[aP];omega) ?_|exact dq _ _ _ (by first|rfl|simp only[aP])))
 have nF0:((w.alloc (.cells (mv fun _=>false) 61)).alloc (.cells #[ag 0,ag 0] 47)).heap[w.heap.size+1]? =ah #[ag 0,ag 0] 47:=by(repeat (first|refine cY _ _ _ (by simp only[aP];omega) ?_|exact dq _ _ _ (by first|rfl|simp only[aP])))
 generalize hwA:(w.alloc (.cells (mv fun _=>false) 61)).alloc (.cells #[ag 0,ag 0] 47)=wA at*;have cW:=E5 cs lv wA (h.below bA);have hn0:(0:Int)<=(cs.length:Int):=by omega
 by_cases he:(jw cs).1=0
 ·have hR:=CX he
  have hw2:jw cs=(0,0):=by
   unfold jw at he⊢;by_cases h1:40<cs.length
   ·rw[ay h1]at he;simp at he
   ·rw[aw h1]at he⊢;by_cases h2:(gh (fun i=>aloneE (cs.getD i cd0) cs.length) cs.length 0).1≠0
    ·rw[ay h2]at he;exact absurd he h2
    ·rw[aw h2]at he⊢;exact(oO _ _ he).1
  rw[hw2]at cW;have c2:=fun W=>qj rule (cs.length:Int) W;have c3:=fun W=>qj day 146097 W;have hE:iU cs rule day=if¬(0<=rule/\rule<cs.length) then(6,0) else if¬(0<=day/\day<146097) then(3,0) else(0,0):=aw (fun e=>e he);have HIN:=aY h;have HRT:=aY hR;have HE:=aY hE;obtain⟨f0,hf0⟩:=aq (oY cs rule day);obtain⟨k0,hk0⟩:=aq (vM cs rule day:Int);obtain⟨X,hX⟩:=aq (iU cs rule day);rw[hf0,hk0,hX];have HF0:=aY hf0;have HK0:=aY hk0;have HX:=aY hX;clear he hw2 hcc hR h hE hf0 hk0 hX;subst elv;go_enter func187,ntmps187;go_wp2_with fail;refine cW.mono ?_;rintro e w1 ⟨rfl,hb1⟩;dsimp only;have b1:=au bA hb1;have nM1:=ai hb1 nM0;have nF1:=ai hb1 nF0;have bF0:=am w1 (.cells #[ag 0,ag 0] 47);have nG0:=aC w1 (.cells #[ag 0,ag 0] 47);generalize hw1:w1.alloc (.cells #[ag 0,ag 0] 47)=w1a at*;have bF:=below_setRow bF0 (aA _) #[ag 0,ag 0];have nG:=aJ _ _ _ #[ag 0,ag 0] _ _ nG0;have nM2:=ai bF nM1;have nF2:=ai bF nF1;have b2:=au b1 bF;generalize hw2:w1a.setRow w1.heap.size #[ag 0,ag 0]=w2 at*;have zG:=ak 0 nG;have d2:=c2 w2;have d3:=c3 w2;clear cW hb1 nM1 nF1 bF nM0 nF0 hwA bA b1 bF0 c2 c3;go_wp2_with(refine az rfl 47 _ _ rfl _ _ rfl rfl _ _ nG0 (by kernel_rfl) (by simp) (by simp[Value.oneCell']) ?_)
  refine d2.mono ?_;rintro e w3 ⟨rfl,rfl⟩;clear d2 zG nG nG0 hw1 hw2;by_cases hr:0<=rule/\rule<cs.length
  case' neg=>
   have hX6:X=(6,0):=HX.o.symm.trans (HE.o.trans (ay hr));rw[bj hr];clear d3 hr
  case' pos=>
   rw[a7 hr];go_wp2_with fail;refine d3.mono ?_;rintro e w3 ⟨rfl,rfl⟩;clear d3;by_cases hd:0<=day/\day<146097
   case' neg=>
    have hX6:X=(3,0):=HX.o.symm.trans (HE.o.trans ((aw fun e=>e hr).trans (ay hd)));rw[bj hd];clear hr hd
   case pos=>
    have hE:iU cs rule day=(0,0):=HE.o.trans ((aw fun e=>e hr).trans (aw fun e=>e hd));have e1:oY cs rule day=(evV (dV day) day cs (cs.length+1) rule.toNat).1:=ay (by rw[hE]);have e2:vM cs rule day=(evV (dV day) day cs (cs.length+1) rule.toNat).2:=ay (by rw[hE]);rw[a7 hd];obtain⟨lv,elv⟩:=aq (Value.slice p cs.length cp);rw[elv]at HIN;obtain⟨rn,rfl⟩: ∃rn:Nat,rule=(rn:Int):=⟨rule.toNat,by omega⟩
    have hrn:rn<cs.length:=(by omega);rw[cg]at e1 e2;obtain⟨hd0,hd1⟩:=hd;obtain⟨fM,hfM⟩:=aq (evV (dV day) day cs (cs.length+1) rn)
    have HRA:P3 (∀(w0:World) (gm:Nat) (W:World),ao w w0->VSt w0 gm lv day [] 0 W->Calls prog 202 #[ab gm 0,ag (rn:Int)] W fun e W'=>e= .returned (.tuple #[])/\VSt w0 gm lv day [fM.1] (fM.2:Int) W'):=fun w0 gm W hb hM=>by
     have hu:cs[rn]? =some cs[rn]:=ax hrn;have ha:=(je (HRT.o.alone rn _ hu)).2.1;have:=DM cs lv w0 gm day HRT.o (HIN.o.below hb) hd0 hd1 (cs.length+1) rn [] 0 W hrn (by have:=OX (fL cs) cs.length rn;omega) hM (by rw[iO hu];simp;omega) (by omega) (by rw[iO hu];omega);rw[hfM]at this;refine this.mono ?_;rintro e W' ⟨rfl,h'⟩;exact⟨rfl,gO h' (by simp) (by simp)⟩
    rw[hfM]at e1 e2;obtain⟨f,k⟩:=fM;rw[HF0.o]at e1;have e2':k0=(k:Int):=(by rw[<-HK0.o,e2]);have e3:X=(0,0):=HX.o.symm.trans hE;replace e1:=e1.symm;subst e1 e2' e3;dsimp only at HRA⊢;clear hr hE e2 hfM HIN HRT hd0 hd1 HE HX HF0 HK0;subst elv;have bX:=am w3 (.cells #[af,ag 0,af,ag 0] 256);have nX:=aC w3 (.cells #[af,ag 0,af,ag 0] 256);generalize hwX:w3.alloc (.cells #[af,ag 0,af,ag 0] 256)=wX at*;have bY:=below_setRow bX (aA _) #[.slice p cs.length cp,ag day,af,ag 0];have nY:=aJ _ _ _ #[.slice p cs.length cp,ag day,af,ag 0] _ _ nX;generalize hwY:wX.setRow w3.heap.size #[.slice p cs.length cp,ag day,af,ag 0]=wY at*;have hMY:VSt w3 w3.heap.size (.slice p cs.length cp) day [] 0 wY:=⟨bY,aA _,_,nY,bV _ _ _ _⟩
    have cR:=HRA.o w3 w3.heap.size wY b2 hMY;clear HRA hMY bX bY nY;go_wp2_with(refine az rfl 256 _ _ rfl _ _ rfl rfl _ _ nX (by kernel_rfl) (by simp) (by simp[Value.oneCell']) ?_)
    refine cR.mono ?_;rintro e w4 ⟨rfl,hM4⟩;clear cR nX hwX hwY;go_wp2_with fail;obtain⟨lv,hlv⟩:=aq (Value.slice p cs.length cp);rw[hlv]at hM4;have l1:=aF nM2;have l2:=aF nF2;have hgt:w.heap.size+1<w3.heap.size:=l2;obtain⟨gm,hgm⟩:=aq w3.heap.size;rw[hgm]at hM4 hgt;simp only[hgm];clear hgm hlv;refine dt (fun M _=>RnJ w w3 gm lv day (k:Int) f w.heap.size M) [dk 35 (.agg (mv f)),kn 36 (ab gm 3),kn 37 (ag (k:Int)),kn 38 (.agg #[ag 0,ag 0]),nk,dk 7 (ag (k:Int)),nk] (fun _=> ?_) (fun _ _ _ _ hb h=>⟨au h.bel hb,h.mach.imp fun _ q=>ai hb q,fun e=>(h.ahead e).below hb,fun e=>(hb.block _ (aF (h.m0 e))).trans (h.m0 e),fun e=>(hb.block _ (aF (h.m1 e))).trans (h.m1 e),ai hb h.flt⟩) (by kernel_rfl) (fun M φ W2 hJ hcl F l hl hF=> ?_) (fun M φ W5 hM hJ=> ?_)
    ·obtain⟨q1,q2,sv,q3,q4⟩:=hM4.below (aG _ _).drew;exact⟨au b2 q1,⟨sv,q3⟩,fun _=>⟨q1,q2,sv,q3,q4⟩,fun _=>(q1.block _ l1).trans nM2,(fun e=>by cases e),(q1.block _ l2).trans nF2⟩
    ·simp only[kn,dk,nk,dN,aQ,aW,Act.put,aB,aI,aH]at hl;subst hl;simp only[dg,Nat.reduceAdd]at hF;obtain⟨s0,nM⟩:=hJ.mach;have zz:=ak 3 nM;dsimp only[kn,dk,nk,dC,en,dS,Act.put];and_intros;all_goals first|exact trivial|intro hw hn hm K hK
     ·go_simp;refine(si w3 gm lv day (k:Int) [] f W2 (hJ.ahead hm) (by simp)).mono ?_;rintro e' W' ⟨rfl,hM,hfr⟩;have n4:=hn 4 _ rfl (by kernel_rfl);obtain⟨q1,q2,sv,q3,q4⟩:=hM;exact hK _ _ ⟨rfl,au b2 q1,⟨sv,q3⟩,(fun e=>by simp at e),fun _=>(hfr _ (aF (hJ.m0 n4)) (by omega)).trans (hJ.m0 n4),(fun e=>by simp[n4]at e),(hfr _ (aF hJ.flt) (by omega)).trans hJ.flt⟩
     ·go_simp;exact hK _ _ ⟨rfl,aG _ _⟩
     ·go_simp;exact hK _ _ ⟨rfl,aG _ _⟩
     ·go_simp;exact hK _ _ ⟨rfl,aG _ _⟩
     ·have q0:=hw ⟨0,.data⟩ (by simp) rfl rfl;refine dT 61 _ _ rfl _ (mv f) (by simp[Act.eval,hF]) (by simp[Act.eval,hF]) _ _ (hJ.m0 hm) (ba _) (by simp[bO]) (dH _) ?_;exact hK undef _ ⟨trivial,below_setRow hJ.bel (aA _) _,⟨_,(aT _ _ _ _ (by omega)).trans nM⟩,(fun e=>by simp[q0]at e),(fun e=>by simp at e),fun _=>aJ _ _ _ _ _ _ (hJ.m0 hm),(aT _ _ _ _ (by omega)).trans hJ.flt⟩
     ·go_simp;exact hK _ _ ⟨rfl,hJ.bel,hJ.mach,fun e=>hJ.ahead (by simpa using e),fun e=>hJ.m0 (by simpa using e),fun e=>hJ.m1 (by simpa using e),hJ.flt⟩
     ·have q5:=hw ⟨5,.chain⟩ (by simp) rfl rfl;have q0:=hcl 5 _ rfl q5 ⟨0,.phase⟩ (by simp) rfl rfl;have q4:=hcl 5 _ rfl q5 ⟨4,.chain⟩ (by simp) rfl rfl;refine dT 47 _ _ rfl _ #[ag 0,ag 0] (by simp[Act.eval,hF]) (by simp[Act.eval,hF]) _ _ hJ.flt (by kernel_rfl) (by simp) (by simp[Value.oneCell']) ?_;exact hK undef _ ⟨trivial,below_setRow hJ.bel (Nat.le_succ _) _,⟨_,(aT _ _ _ _ (by omega)).trans nM⟩,(fun e=>by simp[q0]at e),(fun e=>by simp[q4]at e),fun _=>(aT _ _ _ _ (by omega)).trans (hJ.m1 q4),aJ _ _ _ _ _ _ hJ.flt⟩
    ·have h1:=hJ.m1 (hM 4 (by decide) rfl);have h2:=hJ.flt;have HB:=aY hJ.bel;simp only[kn,dk,nk,dP,aQ,aW,Act.put,aB,aI,aH];clear hM hJ;go_wp2_with fail;exact vN w.heap.size (w.heap.size+1) f (k:Int) 0 0 rfl rfl rfl rfl h1 h2 ⟨rfl,HB.o⟩
  all_goals
   have hX0:(iU cs rule day).1≠0:=by rw[HX.o,hX6];decide
   have e1:f0=fun _=>false:=HF0.o.symm.trans (aw hX0)
   have e2:k0=0:=by rw[<-HK0.o,show vM cs rule day=0 from aw hX0];rfl
   subst e1 e2 hX6
   clear HIN HRT HE HX HF0 HK0 hX0
   have nM3:=aJ _ _ _ (mv fun _=>false) _ _ nM2
   have nF3:=(aT _ w.heap.size (w.heap.size+1) (mv fun _=>false) (by omega)).trans nF2
   have b3:=below_setRow b2 (aA _) (mv fun _=>false)
   have HB:=aY fun c=>below_setRow b3 (by omega:w.heap.size<=w.heap.size+1) c
   have HM:=aY fun c=>(aT _ (w.heap.size+1) w.heap.size c (by omega)).trans nM3
   have HS:=aY fun c=>aJ _ _ _ c _ _ nF3
   clear b2 b3 nM3
   go_wp2_with(first
    |(refine az rfl 61 _ _ rfl _ _ rfl rfl _ _ nM2 (ba _) (by simp[bO]) (dH _) ?_)
    |(refine az rfl 47 _ _ rfl _ _ rfl rfl _ _ nF3 (by kernel_rfl) (by simp) (by simp[Value.oneCell']) ?_))
   exact vN w.heap.size (w.heap.size+1) (fun _=>false) 0 _ 0 rfl rfl rfl rfl (HM.o _) (HS.o _) ⟨rfl,HB.o _⟩
 ·have hE:iU cs rule day=jw cs:=ay he;have e1:oY cs rule day=fun _=>false:=aw (by rw[hE];exact he);have e2:vM cs rule day=0:=aw (by rw[hE];exact he);rw[hE,e1,e2];obtain⟨X,hX⟩:=aq (jw cs);rw[hX]at he cW⊢;obtain⟨er,at0⟩:=X;dsimp only at he cW⊢;obtain⟨at_,hat⟩: ∃q:Int,(at0:Int)=q:=⟨_,rfl⟩
  rw[hat]at cW⊢;have hb0:(er==0)=false:=bf.2 he;have hbn:(er !=0)=true:=(by simpa using he);clear he h hcc hX hE e1 e2 hat;subst elv;go_enter func187,ntmps187;go_wp2_with fail;refine cW.mono ?_;rintro e w1 ⟨rfl,hb1⟩;have b1:=au bA hb1;have nM1:=ai hb1 nM0;have nF1:=ai hb1 nF0;have bF:=am w1 (.cells #[ag er,ag at_] 47);have nG:=aC w1 (.cells #[ag er,ag at_] 47);have nM2:=ai bF nM1;have nF2:=ai bF nF1;have b2:=au b1 bF;have hl1:=aF nM1;have hl2:=aF nF1;generalize hw2:w1.alloc (.cells #[ag er,ag at_] 47)=w2 at*;have zG:=ak 0 nG;clear cW hb1 nM1 nF1 bF nM0 nF0 hwA bA b1;go_wp2_with fail;clear hw2;refine dt (fun M _=>FtJ w w.heap.size w1.heap.size er at_ M) [kn 16 (.agg (mv fun _=>false)),kn 17 (.agg #[ag er,ag at_]),nk,kn 7 (ag 0),nk] (fun _=>⟨b2.trans ((aG w2.heap.size w2).drew.mono b2.size),nM2,nG,_,_,nF2,(fun e=>by cases e)⟩) (fun _ _ _ _ hb h=>⟨au h.bel hb,ai hb h.msk,ai hb h.src,h.flt.imp fun _ q=>q.imp fun _ q=>⟨ai hb q.1,q.2⟩⟩) (by kernel_rfl) (fun M φ W2 hJ hcl F l hl hF=> ?_) (fun M φ W5 hM hJ=> ?_)
  ·simp only[kn,nk,dN,aQ,aW,Act.put,aB,aI,aH]at hl;subst hl;simp only[dg,Nat.reduceAdd]at hF;obtain⟨xa,xb,nf,hf⟩:=hJ.flt;dsimp only[kn,nk,dC,en,dS,Act.put];and_intros;all_goals first|exact trivial|intro hw hn hm K hK
   ·go_simp;exact hK _ _ ⟨rfl,aG _ _⟩
   ·refine d9 47 _ rfl _ (by simp[Act.eval,hF]) _ _ _ _ hJ.src lQ rfl (by kernel_rfl) ?_;exact hK _ _ ⟨rfl,aG _ _⟩
   ·refine dT 61 _ _ rfl _ (mv fun _=>false) (by simp[Act.eval,hF]) (by simp[Act.eval,hF]) _ _ hJ.msk (ba _) (by simp[bO]) (dH _) ?_;exact hK undef _ ⟨trivial,below_setRow hJ.bel (aA _) _,aJ _ _ _ _ _ _ hJ.msk,(aT _ _ _ _ (by omega)).trans hJ.src,_,_,(aT _ _ _ _ (by omega)).trans nf,fun e=>hf (by simpa using e)⟩
   ·go_simp;exact hK _ _ ⟨rfl,aG _ _⟩
   ·refine dT 47 _ _ rfl _ #[ag er,ag at_] (by simp[Act.eval,hF]) (by simp[Act.eval,hF]) _ _ nf (by kernel_rfl) (by simp) (by simp[Value.oneCell']) ?_;exact hK undef _ ⟨trivial,below_setRow hJ.bel (Nat.le_succ _) _,(aT _ _ _ _ (by omega)).trans hJ.msk,(aT _ _ _ _ (by omega)).trans hJ.src,_,_,aJ _ _ _ _ _ _ nf,fun _=>⟨rfl,rfl⟩⟩
  ·have h1:=hJ.msk;obtain⟨xa,xb,h2,hf⟩:=hJ.flt;obtain⟨rfl,rfl⟩:=hf (hM 4 (by decide) rfl);have HB:=aY hJ.bel;simp only[kn,nk,dP,aQ,aW,Act.put,aB,aI,aH];clear hM hJ;go_wp2_with fail;exact vN w.heap.size (w.heap.size+1) (fun _=>false) 0 _ _ rfl rfl rfl rfl h1 h2 ⟨rfl,HB.o⟩
end Go.Proofs.YtjkilacmkbmmbaaGreatDoor
