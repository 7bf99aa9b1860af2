/- Texts of the proof. -/
import Derived.Test.YtkfidffapdhbhaaGreatDoorPh07
set_option maxRecDepth 100000
set_option maxHeartbeats 8000000
namespace Go.Proofs.YtkfidffapdhbhaaGreatDoor
open Go.Proofs.Tryz Go.RowKit Lx Vx Mx Msk
theorem Np (n:Int)(w:World)(a:0<=n)(b:n<146097):Calls prog 220 #[ag n] w fun e w'=>e= .returned (.bool true)/\w'=w:=by
 go_enter func220,ntmps220;go_wp2;go_ret;exact⟨rfl,rfl⟩
def vL (n:Int):Int:=(n+5).tmod 7
theorem LS (n:Int)(a:0<=n):vL n=(n+5)%7:=by
 unfold vL;rw[Int.tmod_eq_emod_of_nonneg (by omega)]
theorem DB (n:Int)(a:0<=n):0<=vL n/\vL n<7:=by
 rw[LS n a];omega
theorem OH (n:Int)(w:World)(a:0<=n)(b:n<146097):Calls prog 214 #[ag n] w fun e w'=>e= .returned (ag (vL n))/\w'=w:=by
 have c1:=Np n w a b;have hb:=DB n a;have hw:(n+5).tmod 7=vL n:=rfl;go_enter func214,ntmps214;go_wp2_with fail;refine c1.mono ?_;rintro e w' ⟨rfl,rfl⟩;clear c1;go_wp2_with fail;go_ret;exact⟨rfl,rfl⟩
def eI (n a:Int):Bool:=bits BinOp.and IntKind.i64 (a/2^(vL n).toNat) 1==1
theorem JH (w0:World)(gm:Nat)(lv:Value)(n k:Int)(S:List M)(x b t:Int)(sv:Value)(W:World)(h:VSt w0 gm lv n S k W)(a0:0<=n)(a1:n<146097):
  Calls prog 191 #[ab gm 0,.agg #[ag 6,ag x,ag b,ag t,sv]] W fun r w'=>r= .returned (.bool (eI n x))/\aq W w':=by
 obtain⟨_,_,s0,nM,_⟩:=h;have k0:=ak 1 nM;have bA:=am W (.cells #[ag 6,ag x,ag b,ag t,sv] 179);have nA:=aE W (.cells #[ag 6,ag x,ag b,ag t,sv] 179);have k0':=aj bA k0;have z0:=ak 0 nA;have z1:=ak 1 nA;have hb:=DB n a0;have cw:=fun W=>OH n W a0 a1;generalize hwA:W.alloc (.cells #[ag 6,ag x,ag b,ag t,sv] 179)=wA at*;clear nM nA k0;go_enter func191,ntmps191;go_wp2_with fail;go_quiet ((go_at_call 214;exact fu (cw _)));go_wp2_with fail;go_ret;exact⟨rfl,dB bA nq⟩
theorem JI (w0:World)(gm:Nat)(lv:Value)(n k:Int)(S:List M)(x b t:Int)(sv:Value)(W:World)(h:VSt w0 gm lv n S k W):
  Calls prog 191 #[ab gm 0,.agg #[ag 7,ag x,ag b,ag t,sv]] W fun r w'=>r= .returned (.bool (decide (x<=n)&&decide (n<=b)))/\aq W w':=by
 obtain⟨_,_,s0,nM,_⟩:=h;have k0:=ak 1 nM;have bA:=am W (.cells #[ag 7,ag x,ag b,ag t,sv] 179);have nA:=aE W (.cells #[ag 7,ag x,ag b,ag t,sv] 179);have k0':=aj bA k0;have z0:=ak 0 nA;have z1:=ak 1 nA;have z2:=ak 2 nA;generalize hwA:W.alloc (.cells #[ag 7,ag x,ag b,ag t,sv] 179)=wA at*;clear nM nA k0;by_cases h1:x<=n
 ·by_cases h2:n<=b
  ·rw[bm h1,bm h2];go_enter func191,ntmps191;go_wp2_with fail;go_quiet (fail);go_wp2_with fail;go_ret;exact⟨rfl,dB bA nq⟩
  ·rw[bm h1,bn h2];have hd2:decide (n<=b)=false:=bn h2;go_enter func191,ntmps191;go_wp2_with fail;go_quiet (fail);go_wp2_with fail;go_ret
   first
    |exact⟨rfl,dB bA nq⟩
    |exact⟨congrArg (fun x=>Ending.returned (.bool x)) hd2,dB bA nq⟩
 ·rw[bn h1];have hd1:decide (x<=n)=false:=bn h1;go_enter func191,ntmps191;go_wp2_with fail;go_quiet (fail);go_wp2_with fail;go_ret;exact⟨rfl,dB bA nq⟩
theorem vM (K:Nat)(F:M->M->M)(eK: ∀args w,(callFunc K args).run prog w= .ok (.enter K args) w)(hK: ∀(f g:M) (W:World),Calls prog K #[.agg (mv f),.agg (mv g)] W fun e w'=>e= .returned (.agg (mv (F f g)))/\aq W w')
  (w0:World) (gm:Nat) (lv:Value) (day k:Int) (S:List M) (f g:M) (W:World) (h:VSt w0 gm lv day (S++[f,g]) k W) (hS:S.length<=900):
  Calls prog 187 #[ab gm 0,.func (.func K) #[] #[]] W fun e W'=>e= .returned (.tuple #[])/\VSt w0 gm lv day (S++[F f g]) k W':=by
 have e0:S++[f,g]=(S++[f])++[g]:=by simp
 rw[e0]at h;have c1:=sq w0 gm lv day k (S++[f]) g W h (by rw[aP];simp;omega);have hz:=eG;have HK:=a8 hK;clear hK h e0;go_enter func187,ntmps187;go_wp2_with fail;refine c1.mono ?_;rintro e w1 ⟨rfl,h1,_⟩;clear c1;have bA:=am w1 (.cells (mv fun _=>false) 86);have nA:=aE w1 (.cells (mv fun _=>false) 86);generalize hwA:w1.alloc (.cells (mv fun _=>false) 86)=wA at*;have bB:=below_setRow bA (aB _) (mv g);have nB:=aL _ _ _ (mv g) _ _ nA;have h2:=h1.below bB;obtain⟨_,_,sv1,nM1,_⟩:=h1
 have hg1:w1.heap.size≠gm:=fun e=>by
  have:=aH nM1;omega
 generalize hwB:wA.setRow w1.heap.size (mv g)=wB at*;have c2:=sq w0 gm lv day k S f wB h2 (by omega);clear h2 bA bB nM1;go_wp2_with(refine ay rfl 86 _ _ rfl _ _ rfl rfl _ _ nA (bh _) (by simp[bO]) (dR _) ?_)
 refine c2.mono ?_;rintro e w2 ⟨rfl,h3,hfr⟩;have nG:=(hfr _ (aH nB) hg1).trans nB;clear c2 hwA hwB nA nB hfr;have bC:=am w2 (.cells (mv fun _=>false) 86);have nC:=aE w2 (.cells (mv fun _=>false) 86);generalize hwC:w2.alloc (.cells (mv fun _=>false) 86)=wC at*;have bD:=below_setRow bC (aB _) (mv f);have nD:=aL _ _ _ (mv f) _ _ nC;have nG2:=ai bD nG;have h4:=h3.below bD;generalize hwD:wC.setRow w2.heap.size (mv f)=wD at*;have c3:=HK.o f g wD;clear h3 bC bD nG
 go_wp2_with(first
  |(refine ay rfl 86 _ _ rfl _ _ rfl rfl _ _ nC (bh _) (by simp[bO]) (dR _) ?_)
  |(refine aQ rfl 86 _ rfl _ rfl _ _ _ _ nD bV rfl (bh _) ?_)
  |(refine aQ rfl 86 _ rfl _ rfl _ _ _ _ nG2 bV rfl (bh _) ?_))
 refine c3.mono ?_;rintro e w5 ⟨rfl,b5⟩;have h5:=h4.below b5;have c4:=uI w0 gm lv day k S (F f g) w5 h5 (by omega);clear c3 h4 b5 h5 nC nD nG2 hwC hwD;go_wp2_with fail;refine c4.mono ?_;rintro e w6 ⟨rfl,h6,_⟩;have HN:=a8 h6;clear c4 h6;go_wp2_with fail;exact⟨rfl,_,eN rfl _ _ _,rfl,HN.o⟩
section
theorem Nq (l:List (Int×Int)):spM l=inl l:=rfl
abbrev StO (w0:World)(gm:Nat)(lv:Value)(day op a b t:Int)(sv:Value)(k:Nat)(W:World)(k':Int)(S:List M)(c:Int):Prop:=Calls prog 157 #[ab gm 0,.agg #[ag op,ag a,ag b,ag t,sv],ag (k:Int)] W fun e W'=>e= .returned (ag k')/\VSt w0 gm lv day S c W'
section
variable (w0:World) (gm:Nat) (lv:Value) (day c:Int) (S:List M) (a b t:Int) (sv:Value) (k:Nat) (W:World)
theorem rP (op:Int): ∃wX,W.alloc (.cells #[ag op,ag a,ag b,ag t,sv] 179)=wX/\aq W wX/\wX.heap[W.heap.size]? =ah #[ag op,ag a,ag b,ag t,sv] 179/\wX.cell? (ae W.heap.size 0)=some (ag op)/\wX.cell? (ae W.heap.size 1)=some (ag a)/\wX.cell? (ae W.heap.size 3)=some (ag t)/\wX.cell? (ae W.heap.size 4)=some sv:=
 have n:=aE W (.cells #[ag op,ag a,ag b,ag t,sv] 179)
 ⟨_,rfl,am _ _,n,ak 0 n,ak 1 n,ak 3 n,ak 4 n⟩
theorem BC {k:Nat}(h:k<=2000):(0:Int)<=(k:Int)/\(k:Int)<=2000:=by omega
theorem Nr (sp:List (Int×Int))(h:VSt w0 gm lv day S c W)(hr:mV W sv sp)(hk:k<=2000)(hS:S.length<=900):StO w0 gm lv day 1 a b t sv k W ((k+1:Nat):Int) (S++[spM sp]) c:=by
 obtain⟨wX,hwX,bX,nX,z0,z1,z3,z4⟩:=rP a b t sv W 1;obtain⟨hk0,hk1⟩:=BC hk;have hX:=h.below bX;have c1:=Dx sv sp wX (hr.later bX);rw[<-Nq]at c1;clear h hr bX;go_enter func157,ntmps157;go_wp2_with fail;refine c1.mono ?_;rintro e w1 ⟨rfl,b1⟩;have h1:=hX.below b1;have c2:=uI w0 gm lv day c S (spM sp) w1 h1 (by omega);clear c1 hX b1 h1 z0 z1 z3 z4 nX hwX;go_wp2_with fail;refine c2.mono ?_;rintro e w2 ⟨rfl,h2,_⟩;have HN:=a8 h2;clear c2 h2;go_wp2_with fail;go_ret;exact⟨by go_num,HN.o⟩
theorem BD (f g:M)(op:Int)(o:M->M->M)(ho:op=2/\o=unM\/op=3/\o=dfM\/op=4/\o=boM)(h:VSt w0 gm lv day (S++[f,g]) c W)(hk:k<=2000)(hS:S.length<=900):StO w0 gm lv day op a b t sv k W ((k+1:Nat):Int) (S++[o f g]) c:=by
 obtain⟨wX,hwX,bX,nX,z0,z1,z3,z4⟩:=rP a b t sv W op;obtain⟨hk0,hk1⟩:=BC hk;have hX:=h.below bX;rcases ho with⟨rfl,rfl⟩|⟨rfl,rfl⟩|⟨rfl,rfl⟩;case' inl=>have c1:=vM 188 unM (fun _ _=>by simp[go_sem]) (fun f g W=>yS f g W) w0 gm lv day c S f g wX hX (by omega)
 case' inr.inl=>have c1:=vM 56 dfM (fun _ _=>by simp[go_sem]) (fun f g W=>pY f g W) w0 gm lv day c S f g wX hX (by omega)
 case' inr.inr=>have c1:=vM 189 boM (fun _ _=>by simp[go_sem]) (fun f g W=>AO f g W) w0 gm lv day c S f g wX hX (by omega)
 all_goals
  clear h bX hX nX
  go_enter func157,ntmps157
  go_wp2_with fail
  refine c1.mono ?_
  rintro e w1 ⟨rfl,h1⟩
  have HN:=a8 h1
  clear c1 h1 z0 z1 z3 z4 hwX
  go_wp2_with fail
  go_ret
  exact⟨by go_num,HN.o⟩
structure ShJ (w0:World)(gm:Nat)(lv:Value)(day c:Int)(S:List M)(g g':M)(gx:Nat)(X:Array Value)(M:Nat->Bool)(W:World):Prop where
 box:W.heap[gx]? =ah X 179
 ahead:M 2=false->VSt w0 gm lv day (S++[g]) c W
 mid:M 2=true->M 6=false->VSt w0 gm lv day S c W
 fin:M 6=true->VSt w0 gm lv day (S++[g']) c W
theorem Ns (g:M)(h:VSt w0 gm lv day (S++[g]) c W)(hk:k<=2000)(hS:S.length<=900)(ha0: -1439<=a)(ha1:a<=1439):StO w0 gm lv day 5 a b t sv k W ((k+1:Nat):Int) (S++[shM g a]) c:=by
 obtain⟨wX,hwX,bX,nX,z0,z1,z3,z4⟩:=rP a b t sv W 5;obtain⟨hk0,hk1⟩:=BC hk;have hX:=h.below bX;have HSH:PH (∀W,Calls prog 190 #[.agg (mv g),ag a] W fun e w'=>e= .returned (.agg (mv (shM g a)))/\aq W w'):=fun W=>wt g a W (by omega) (by omega)
 have hgx:W.heap.size≠gm:=fun e=>by
  obtain⟨_,_,_,q,_⟩:=h;have:=aH q;omega
 clear h bX z1 z3 z4;go_enter func157,ntmps157;go_wp2_with fail;obtain⟨gx,hgx'⟩: ∃b,W.heap.size=b:=⟨_,rfl⟩
 rw[hgx']at nX hgx;simp only[hgx'];clear hgx' hwX z0;refine dn (fun M _=>ShJ w0 gm lv day c S g (shM g a) gx #[ag 5,ag a,ag b,ag t,sv] M) [kn 30 (ab gm 0),kn 31 (ab gm 0),dk 32 (.agg (mv g)),kn 33 (ab gx 1),kn 34 (ag a),dk 35 (.agg (mv (shM g a))),dk 36 (.tuple #[])] (fun _=>⟨nX,fun _=>hX.below (aI _ _).drew,(fun h=>by cases h),(fun h=>by cases h)⟩) (fun _ _ _ _ hb h=>⟨ai hb h.box,fun e=>(h.ahead e).below hb,fun e e'=>(h.mid e e').below hb,fun e=>(h.fin e).below hb⟩) (by kernel_rfl) (fun M φ W2 hJ hcl F l hl hF=> ?_) (fun M φ W5 hM hJ=> ?_)
 ·simp only[kn,dk,dX,aR,aX,Act.put,aA,aK,aJ]at hl;subst hl;simp only[dc,Nat.reduceAdd]at hF;have zz:=ak 1 hJ.box;dsimp only[kn,dk,dC,eJ,eg,Act.put];and_intros;all_goals first|exact trivial|intro hw hn hm K hK
  all_goals try (go_simp;with_reducible exact hK _ _ ⟨rfl,aI _ _⟩)
  ·go_simp;refine(sq w0 gm lv day c S g W2 (hJ.ahead hm) (by omega)).mono ?_;rintro e' W' ⟨rfl,hM,hfr⟩
   have n6:M 6=false:=by
    cases h:M 6 with
    |false=>rfl
    |true=>rw[hcl 5 _ rfl (hcl 6 _ rfl h ⟨5,.data⟩ (by simp) rfl rfl) ⟨2,.data⟩ (by simp) rfl rfl]at hm;cases hm
   exact hK _ _ ⟨rfl,(hfr _ (aH hJ.box) hgx).trans hJ.box,(fun e=>by simp at e),fun _ _=>hM,(fun e=>by simp[n6]at e)⟩
  ·go_simp;refine(HSH.o W2).mono ?_;rintro e' W' ⟨rfl,hb'⟩;exact hK _ _ ⟨rfl,ai hb' hJ.box,fun e=>(hJ.ahead (by simpa using e)).below hb',fun e e'=>(hJ.mid (by simpa using e) (by simpa using e')).below hb',fun e=>(hJ.fin (by simpa using e)).below hb'⟩
  ·have q2:=hcl 5 _ rfl (hw ⟨5,.data⟩ (by simp) rfl rfl) ⟨2,.data⟩ (by simp) rfl rfl;go_simp;refine(uI w0 gm lv day c S (shM g a) W2 (hJ.mid q2 hm) (by omega)).mono ?_;rintro e' W' ⟨rfl,hM,hfr⟩;exact hK _ _ ⟨rfl,hfr _ _ _ hJ.box (by decide) hgx,(fun e=>by simp[q2]at e),(fun _ e=>by simp at e),fun _=>hM⟩
 ·have HN:=a8 (hJ.fin (hM 6 (by decide) rfl));simp only[kn,dk,en,aR,aX,Act.put,aA,aK,aJ];clear hM hJ HSH hX nX;go_wp2_with fail;go_ret;exact⟨by go_num,HN.o⟩
theorem Nt (S':List M)(c':Int)(h:VSt w0 gm lv day S c W)(hk:k<=2000)(hrun: ∀W,VSt w0 gm lv day S c W->Calls prog 132 #[ab gm 0,ag a] W fun e W'=>e= .returned (.tuple #[])/\VSt w0 gm lv day S' c' W'):StO w0 gm lv day 8 a b t sv k W ((k+1:Nat):Int) S' c':=by
 obtain⟨wX,hwX,bX,nX,z0,z1,z3,z4⟩:=rP a b t sv W 8;obtain⟨hk0,hk1⟩:=BC hk;have c1:=hrun wX (h.below bX);clear h bX nX hrun;go_enter func157,ntmps157;go_wp2_with fail;refine c1.mono ?_;rintro e w1 ⟨rfl,h1⟩;have HN:=a8 h1;clear c1 h1 z0 z1 z3 z4 hwX;go_wp2_with fail;go_ret;exact⟨by go_num,HN.o⟩
theorem G5 (op:Int)(q:Bool)(ho:op=6/\q=eI day a\/op=7/\q=(decide (a<=day)&&decide (day<=b)))(ps:Option Addr)(ls cs:Nat)(h:VSt w0 gm lv day S c W)(hk:k<=2000)(hS:S.length<=900)(d0:0<=day)(d1:day<146097):StO w0 gm lv day op a b t (.slice ps ls cs) k W (if q=true then((k+1:Nat):Int) else t) (if q=true then S else S++[noM]) c:=by
 obtain⟨wX,hwX,bX,nX,z0,z1,z3,z4⟩:=rP a b t (.slice ps ls cs) W op;obtain⟨hk0,hk1⟩:=BC hk;have hX:=h.below bX
 have hgx:W.heap.size≠gm:=fun e=>by
  obtain⟨_,_,_,q,_⟩:=h;have:=aH q;omega
 have hz:=eG;rcases ho with⟨rfl,hq⟩|⟨rfl,hq⟩;case' inl=>have c1:=JH w0 gm lv day c S a b t (.slice ps ls cs) wX hX d0 d1
 case' inr=>have c1:=JI w0 gm lv day c S a b t (.slice ps ls cs) wX hX
 all_goals
  rw[<-hq]at c1
  clear h bX d0 d1 hq
  go_enter func157,ntmps157
  go_wp2_with(refine aQ rfl 179 _ rfl _ rfl _ _ _ _ nX rJ rfl (by kernel_rfl) ?_)
  refine c1.mono ?_
  rintro e w1 ⟨rfl,b1⟩
  have h1:=hX.below b1
  have nX1:=ai b1 nX
  have c2:=uI w0 gm lv day c S noM w1 h1 (by omega)
  unfold noM at c2
  have HN:=a8 h1
  clear c1 hX b1 h1 z0 z1 z3 z4 hwX nX
  cases q with
  |true=>
   simp only
   go_wp2_with fail
   go_ret
   exact⟨by go_num,HN.o⟩
  |false=>
   simp only
   go_wp2_with fail
   refine c2.mono ?_
   rintro e w2 ⟨rfl,h2,hfr⟩
   have nX2:=hfr _ _ _ nX1 (by decide) hgx
   have z3:=ak 3 nX2
   have HN:=a8 h2
   clear c2 h2 hfr nX1 nX2
   go_wp2_with fail
   go_ret
   exact⟨rfl,HN.o⟩
end
end
theorem gW {w0:World}{gm:Nat}{lv:Value}{day c c':Int}{S S':List M}{W:World}(h:VSt w0 gm lv day S c W)(e1:S=S')(e2:c=c'):VSt w0 gm lv day S' c' W:=by
 subst e1 e2;exact h
theorem JJ {ev:Nat->M×Nat}{x:In}{sv:Value}{s:Vx.St}{B:List M}{c:Int}{W w0:World}{gm:Nat}{lv:Value}{day:Int}{n r:Nat}(h:VSt w0 gm lv day (B++s.S) c W)(hr:mV W sv x.sp)(hi:fP x s.k n r=0)(hk:s.k<=2000)(hS:B.length+s.S.length<=900)(htk:tk x<=s.S.length)
  (d0:0<=day) (d1:day<146097)
  (hrun:x.op=8-> ∀W,VSt w0 gm lv day (B++s.S) c W->Calls prog 132 #[ab gm 0,ag x.a] W fun e W'=>e= .returned (.tuple #[])/\VSt w0 gm lv day (B++s.S++[(ev x.a.toNat).1]) (c+(ev x.a.toNat).2) W'):
  Calls prog 157 #[ab gm 0,.agg #[ag x.op,ag x.a,ag x.b,ag x.to,sv],ag (s.k:Int)] W fun e W'=>e= .returned (ag ((dG (eI day) day ev x s).k:Int))/\VSt w0 gm lv day (B++(dG (eI day) day ev x s).S) (c+(((dG (eI day) day ev x s).n:Int)-(s.n+1))) W':=by
 have hl:(B++s.S).length<=900:=by rw[aP];exact hS
 rcases tz hi with ho|ho|ho|ho|ho|ho|ho
 ·have e:dG (eI day) day ev x s=⟨s.k+1,s.S++[spM x.sp],s.n+1⟩:=by simp[dG,ho]
  rw[e,ho];refine(Nr w0 gm lv day c (B++s.S) x.a x.b x.to sv s.k W x.sp h hr hk hl).mono ?_;rintro e' W' ⟨rfl,h'⟩;exact⟨rfl,gW h' (by simp) (by simp)⟩
 ·have e:dG (eI day) day ev x s=⟨s.k+1,mT unM s.S,s.n+1⟩:=by simp[dG,ho]
  have h2:tk x=2:=(by simp[tk,ho]);obtain⟨T,f,g,hT⟩:=uD (S:=s.S) (by omega);rw[e,ho];dsimp only;rw[hT]at h hl⊢;rw[l3];refine(BD w0 gm lv day c (B++T) x.a x.b x.to sv s.k W f g 2 unM (.inl ⟨rfl,rfl⟩) (gW h (by simp) rfl) hk (by simp at hl⊢;omega)).mono ?_;rintro e' W' ⟨rfl,h'⟩;exact⟨rfl,gW h' (by simp) (by simp)⟩
 ·have e:dG (eI day) day ev x s=⟨s.k+1,mT dfM s.S,s.n+1⟩:=by simp[dG,ho]
  have h2:tk x=2:=(by simp[tk,ho]);obtain⟨T,f,g,hT⟩:=uD (S:=s.S) (by omega);rw[e,ho];dsimp only;rw[hT]at h hl⊢;rw[l3];refine(BD w0 gm lv day c (B++T) x.a x.b x.to sv s.k W f g 3 dfM (.inr (.inl ⟨rfl,rfl⟩)) (gW h (by simp) rfl) hk (by simp at hl⊢;omega)).mono ?_;rintro e' W' ⟨rfl,h'⟩;exact⟨rfl,gW h' (by simp) (by simp)⟩
 ·have e:dG (eI day) day ev x s=⟨s.k+1,mT boM s.S,s.n+1⟩:=by simp[dG,ho]
  have h2:tk x=2:=(by simp[tk,ho]);obtain⟨T,f,g,hT⟩:=uD (S:=s.S) (by omega);rw[e,ho];dsimp only;rw[hT]at h hl⊢;rw[l3];refine(BD w0 gm lv day c (B++T) x.a x.b x.to sv s.k W f g 4 boM (.inr (.inr ⟨rfl,rfl⟩)) (gW h (by simp) rfl) hk (by simp at hl⊢;omega)).mono ?_;rintro e' W' ⟨rfl,h'⟩;exact⟨rfl,gW h' (by simp) (by simp)⟩
 ·have e:dG (eI day) day ev x s=⟨s.k+1,yz (fun f=>shM f x.a) s.S,s.n+1⟩:=by simp[dG,ho]
  have h2:tk x=1:=(by simp[tk,ho])
  have hrng: -1439<=x.a/\x.a<=1439:=by
   simp only[fP,ho]at hi;simp only[show¬((5:Int)=2\/(5:Int)=3\/(5:Int)=4) by omega,show¬(5:Int)=1 by omega,if_false,if_true]at hi;by_cases hh:x.a≠0/\ -1439<=x.a/\x.a<=1439
   ·exact hh.2
   ·rw[ax hh]at hi;simp at hi
  obtain⟨T,g,hT⟩:=xk (S:=s.S) (by omega);rw[e,ho];dsimp only;rw[hT]at h hl⊢;rw[yA];refine(Ns w0 gm lv day c (B++T) x.a x.b x.to sv s.k W g (gW h (by simp) rfl) hk (by simp at hl⊢;omega) hrng.1 hrng.2).mono ?_;rintro e' W' ⟨rfl,h'⟩;exact⟨rfl,gW h' (by simp) (by simp)⟩
 ·have e:dG (eI day) day ev x s=⟨s.k+1,s.S++[(ev x.a.toNat).1],s.n+1+(ev x.a.toNat).2⟩:=by simp[dG,ho]
  rw[e];have hr':=hrun ho;rw[ho];refine(Nt w0 gm lv day c (B++s.S) x.a x.b x.to sv s.k W (B++s.S++[(ev x.a.toNat).1]) (c+(ev x.a.toNat).2) h hk hr').mono ?_;rintro e' W' ⟨rfl,h'⟩;exact⟨rfl,gW h' (by simp) (by push_cast;omega)⟩
 ·have hto:=rI hi ho;obtain⟨ps,cs,rfl,_,_⟩:=hr.form
  have e:dG (eI day) day ev x s=if onD (eI day) day x=true then⟨s.k+1,s.S,s.n+1⟩ else⟨x.to.toNat,s.S++[noM],s.n+1⟩:=by
   unfold isG at ho;unfold dG;rw[ax (by omega),ax (by omega),ax (by omega),ax (by omega),ax (by omega),ax (by omega)]
  rw[e];have hto2:((x.to.toNat:Nat):Int)=x.to:=(by omega);rcases ho with ho|ho
  ·have e6:onD (eI day) day x=eI day x.a:=(by simp[onD,ho]);rw[ho,e6];refine(G5 w0 gm lv day c (B++s.S) x.a x.b x.to s.k W 6 _ (.inl ⟨rfl,rfl⟩) ps x.sp.length cs h hk hl d0 d1).mono ?_;rintro e' W' ⟨rfl,h'⟩;cases hq:eI day x.a with
   |true=>
    rw[hq]at h';exact⟨rfl,gW h' rfl (by simp)⟩
   |false=>
    rw[hq]at h';exact⟨congrArg (fun q=>Ending.returned (ag q)) hto2.symm,gW h' (by simp) (by simp)⟩
  ·have e7:onD (eI day) day x=(decide (x.a<=day)&&decide (day<=x.b)):=by
    unfold onD;rw[ax (by omega)]
   rw[ho,e7];refine(G5 w0 gm lv day c (B++s.S) x.a x.b x.to s.k W 7 _ (.inr ⟨rfl,rfl⟩) ps x.sp.length cs h hk hl d0 d1).mono ?_;rintro e' W' ⟨rfl,h'⟩;cases hq:(decide (x.a<=day)&&decide (day<=x.b)) with
   |true=>
    rw[hq]at h';exact⟨rfl,gW h' rfl (by simp)⟩
   |false=>
    rw[hq]at h';exact⟨congrArg (fun q=>Ending.returned (ag q)) hto2.symm,gW h' (by simp) (by simp)⟩
theorem VSt.count {w0 W:World}{gm:Nat}{lv:Value}{day k:Int}{S:List M}(h:VSt w0 gm lv day S k W)(k':Int):VSt w0 gm lv day S k' (W.setCell ⟨gm,3,none⟩ (ag k')):=by
 obtain⟨h1,h2,sv,h3,h4⟩:=h;have hne:=kj h4 h3 (by decide);refine⟨h1.setCell (p:=⟨gm,3,none⟩) h2 _,h2,sv,aY W gm 3 _ _ _ h3,?_⟩;exact h4.kept (row:=some gm) ⟨rfl,rfl,rfl,by simp,fun q hq hr=>aO W ⟨gm,3,none⟩ q _ fun e=>hr (congrArg some e)⟩ (.inr fun e=>hne e.symm)
def Nu (wk:Int->Bool)(day:Int)(ev:Nat->M×Nat)(cs:List Cd)(l:List In)(R:Vx.St)(w0:World)(gm:Nat)(lv:Value)(B:List M)(c:Int)(t:Value)(wr:World):Prop:= ∃s:Vx.St,t=ag (s.k:Int)/\mU cs l s/\runV wk day ev l s=R/\VSt w0 gm lv day (B++s.S) (c+s.n) wr
theorem DC (cs:List Cd)(lv:Value)(w0:World)(gm:Nat)(day:Int)(hR:mq cs)(hin:InV w0 lv cs)(d0:0<=day)(d1:day<146097): ∀(d r:Nat) (B:List M) (c:Int) (W:World),r<cs.length->rk (gj cs) cs.length r<d->VSt w0 gm lv day B c W->(B.length:Int)+(cs.getD r cd0).high<=800->0<=c->c+(cs.getD r cd0).steps<=1000000->
  Calls prog 132 #[ab gm 0,ag (r:Int)] W fun e W'=>e= .returned (.tuple #[])/\VSt w0 gm lv day (B++[(evV (eI day) day cs d r).1]) (c+(evV (eI day) day cs d r).2) W'
 |0,_,_,_,_,_,hd,_,_,_,_=>by omega
 |d+1,r,B,c,W,hr,hd,hM,hB,hc0,hc1=>by
  have ih:=DC cs lv w0 gm day hR hin d0 d1 d;obtain⟨u,hu⟩: ∃u,cs[r]? =some u:=⟨cs[r],az hr⟩
  rw[je hu]at hB hc1;have hal:=jx (hR.alone r u hu);have hfit:=hR.fit r u hu;obtain⟨hr1,hr2,hr3,hr4,hr5,hr6⟩:=hR.run (wk:=eI day) (day:=day) (d+1) r u hu hd;rw[Nat.add_sub_cancel]at hr3 hr4 hr5 hr6;have hup:Up (eI day) day (evV (eI day) day cs d) u.ins:=EN hal.2.2;obtain⟨p,cp,elv,hlen,hcc⟩:=hin.form;obtain⟨sv,hins,g,o,rfl,e0,_,_⟩:=hcc r u hu;obtain⟨pu,cu,rfl,hlu,hcu⟩:=hins.form;have HCU:=a8 hcu;have HIH:=a8 ih;have HAL:=a8 hal.2.2;have HFIT:=a8 hfit;have HUP:=a8 hup;have HRT:=a8 hR;have HU:=a8 hu;have HST:PH (∀i,0<=(cs.getD i cd0).steps):=hR.steps0
  have HEV:PH (∀(j:Nat) (x:In),u.ins[j]? =some x->x.op=8->((evV (eI day) day cs d x.a.toNat).2:Int)<=(cs.getD x.a.toNat cd0).steps):=fun j x hx ho=>by
   obtain⟨q1,_,q3⟩:=hR.call hu hx ho;have hg:cs[x.a.toNat]? =some cs[x.a.toNat]:=az q1;rw[je hg];exact(hR.run (wk:=eI day) (day:=day) d _ _ hg (by omega)).2.1
  have hln:u.ins.length<=2000:=hal.1.2;have hstp:u.steps<=20000:=hal.2.1.2.2;have f0:=aj hM.bel e0;have hi0:(0:Int)<=(r:Int):=(by omega);have hi1:(r:Int)<(cs.length:Int):=(by omega);have hul:(0:Int)<=(u.ins.length:Int):=(by omega)
  have nM: ∃sv,W.heap[gm]? =ah #[lv,ag day,sv,ag c] 212:=by
   obtain⟨_,_,s1,q,_⟩:=hM;exact⟨s1,q⟩
  obtain⟨s1,nM⟩:=nM;rw[elv]at nM;have zM:=ak 0 nM;have HM:=a8 hM;have HR5:=a8 hr5;have HR6:=a8 hr6;clear hal hfit hr1 hr2 hr3 hr4 hr5 hr6 hup hcc hins hcu ih hR hu hM nM hin elv;go_enter func132,ntmps132;go_wp2_with fail;have hM:=HM.o;clear HM zM f0 e0;go_loopw [5] (fun t wr=>Nu (eI day) day (evV (eI day) day cs d) cs u.ins (runV (eI day) day (evV (eI day) day cs d) u.ins ⟨0,[],0⟩) w0 gm lv B c t wr) (fun t _=>u.ins.length-(intOf t).toNat);case atStart=>exact⟨⟨0,[],0⟩,rfl,mU.nil,rfl,gW hM (by simp) (by simp)⟩
  case round=>
   obtain⟨s,rfl,hI,hrv,hMs⟩:=hrel;clear hM;have hk0:(0:Int)<=(s.k:Int):=(by omega);have hsle:=hI.le;have hsst:=hI.st;have hshi:=hI.hi;by_cases hlt:s.k<u.ins.length
   ·have hlt':(s.k:Int)<(u.ins.length:Int):=(by omega);obtain⟨x,hx⟩: ∃x,u.ins[s.k]? =some x:=⟨u.ins[s.k],az hlt⟩
    obtain⟨sk,hrow,g2,o2,hpe,k0,k1,k2,k3,k4⟩:=HCU.o s.k _ hx;subst hpe;have hie:=HAL.o _ _ hx;have hnext:=hI.step (wk:=eI day) (day:=day) (ev:=evV (eI day) day cs d) HFIT.o.well hx hie HST.o (HEV.o _ _ hx);have hrs:=lQ HUP.o hx
    have hm1:stS cs u.ins s.k<=u.steps:=by
     rw[<-HFIT.o.steps];exact vI HST.o (by omega)
    have hm2:hAt u.ins s.k<=u.high:=by
     rw[<-HFIT.o.high];exact Lz (by omega)
    have htk:=HFIT.o.well.tk _ _ hx;have hM2:=hMs.count (c+s.n+1);obtain⟨_,_,s2,nM2,_⟩:=hMs;have z3:=ak 3 nM2;have y3:=bl _ _ 3 _ _ nM2;have q0:=aj hM2.bel k0;have q1:=aj hM2.bel k1;have q2:=aj hM2.bel k2;have q3:=aj hM2.bel k3;have q4:=aj hM2.bel k4
    have cS:=JJ (ev:=evV (eI day) day cs d) (x:=x) (sv:=sk) (s:=s) (B:=B) (r:=cs.length) hM2 (hrow.later hM2.bel) hie (by omega) (by omega) (by omega) d0 d1 (fun ho W' hW'=>by
     obtain⟨v1,v2,v3⟩:=HRT.o.call HU.o hx ho;have h8:=jX (cs:=cs) hx;rw[aD ho]at h8
     have h9:stS cs u.ins (s.k+1)<=u.steps:=by
      rw[<-HFIT.o.steps];exact vI HST.o (by omega)
     have h10:=JC (cs:=cs) hx hlt ho;rw[HFIT.o.high]at h10;have:=HIH.o x.a.toNat (B++s.S) (c+s.n+1) W' v1 (by omega) hW' (by rw[aP];push_cast;omega) (by omega) (by omega);rw[v2]at this;exact this)
    have HN:PH (∀W',VSt w0 gm lv day (B++(dG (eI day) day (evV (eI day) day cs d) x s).S) (c+s.n+1+(((dG (eI day) day (evV (eI day) day cs d) x s).n:Int)-(s.n+1))) W'->Nu (eI day) day (evV (eI day) day cs d) cs u.ins (runV (eI day) day (evV (eI day) day cs d) u.ins ⟨0,[],0⟩) w0 gm lv B c (ag ((dG (eI day) day (evV (eI day) day cs d) x s).k:Int)) W'):=fun W' hW'=>⟨_,rfl,hnext.1,hrs.symm.trans hrv,gW hW' rfl (by omega)⟩
    have hgt:=hnext.2;have hc2:c+s.n+1<=2000000:=(by omega);have hc3:0<=c+s.n:=(by omega);obtain⟨k',hk'⟩: ∃q,(dG (eI day) day (evV (eI day) day cs d) x s).k=q:=⟨_,rfl⟩
    rw[hk']at cS HN hgt;generalize (dG (eI day) day (evV (eI day) day cs d) x s).S=S' at*;generalize (dG (eI day) day (evV (eI day) day cs d) x s).n=n' at*;clear hk' hnext hrs hI hrv hx hie htk hM2 nM2 HIH HRT HAL HFIT HUP HEV HST HU HCU HR5 HR6 hrow;generalize hwS:wr.setCell ⟨gm,3,none⟩ (ag (c+s.n+1))=wS at*;go_wp2_with fail;refine cS.mono ?_;rintro e w2 ⟨rfl,h2⟩;have HN2:=a8 (HN.o _ h2);clear cS h2 HN;go_wp2_with fail;go_roundw;case rel=>exact HN2.o
    case measure=>simp[intOf];omega
   ·have hlt': ¬(s.k:Int)<(u.ins.length:Int):=(by omega);have hend:=vJ (wk:=eI day) (day:=day) (ev:=evV (eI day) day cs d) (show s.k=u.ins.length by omega);have hs:s=runV (eI day) day (evV (eI day) day cs d) u.ins ⟨0,[],0⟩:=hend.symm.trans hrv
    have HN:PH (VSt w0 gm lv day (B++[(evV (eI day) day cs (d+1) r).1]) (c+(evV (eI day) day cs (d+1) r).2) wr):=by
     show VSt _ _ _ _ _ _ _;rw[<-HR5.o,<-HR6.o,<-hs];exact hMs
    clear hMs hs hend hrv hI HIH HRT HAL HFIT HUP HEV HST HU HCU HR5 HR6;go_wp2_with fail;exact⟨rfl,_,eN rfl _ _ _,rfl,HN.o⟩
def jb (cs:List Cd)(rule day:Int):Int×Nat:=if(jM cs).1≠0 then jM cs else if¬(0<=rule/\rule<cs.length) then(6,0) else if¬(0<=day/\day<146097) then(3,0) else(0,0)
def oj (cs:List Cd)(rule day:Int):M:=if(jb cs rule day).1=0 then(evV (eI day) day cs (cs.length+1) rule.toNat).1 else fun _=>false
def vN (cs:List Cd)(rule day:Int):Nat:=if(jb cs rule day).1=0 then(evV (eI day) day cs (cs.length+1) rule.toNat).2 else 0
def EZ (f:M)(n er at_:Int)(w:World)(e:Ending)(w':World):Prop:=e= .returned (.tuple #[.agg (mv f),ag n,.agg #[ag er,ag at_]])/\aq w w'
theorem vO {R:Ending->World->Prop}{a:Act}{w:World}(g g':Nat)(f:M)(n er at_:Int)(hd:a.defers=[])(h6:a.tmps.getD 6 undef=ab g 0)(h7:a.tmps.getD 7 undef=ag n)(h8:a.tmps.getD 8 undef=ab g' 0)
  (hg:w.heap[g]? =ah (mv f) 86) (hg':w.heap[g']? =ah #[ag er,ag at_] 95) (hR:R (.returned (.tuple #[.agg (mv f),ag n,.agg #[ag er,ag at_]])) w):bodyPost prog f103 R .ret a w:=by
 refine aW (v:= .tuple #[.agg (mv f),ag n,.agg #[ag er,ag at_]]) ?_ hd hR;have h6':a.tmps[6]?.getD undef=ab g 0:=by simpa using h6
 have h7':a.tmps[7]?.getD undef=ag n:=by simpa using h7
 have h8':a.tmps[8]?.getD undef=ab g' 0:=by simpa using h8
 have hv:=dV (P:=prog) w g 86 86 _ _ _ hg bV rfl (bh _);have hv':=dV (P:=prog) w g' 95 95 _ _ _ hg' mc rfl (by kernel_rfl);simp[results,results103,h6',h7',h8',asAddr,hv,hv']
structure FtJ (w:World)(rr rf:Nat)(er at_:Int)(M:Nat->Bool)(W:World):Prop where
 bel:aq w W
 msk:W.heap[rr]? =ah (mv fun _=>false) 86
 src:W.heap[rf]? =ah #[ag er,ag at_] 95
 flt: ∃a b,W.heap[rr+1]? =ah #[ag a,ag b] 95/\(M 4=true->a=er/\b=at_)
structure RnJ (w w0:World)(gm:Nat)(lv:Value)(day k:Int)(f:Vx.M)(rr:Nat)(M:Nat->Bool)(W:World):Prop where
 bel:aq w W
 mach: ∃sv,W.heap[gm]? =ah #[lv,ag day,sv,ag k] 212
 ahead:M 0=false->VSt w0 gm lv day [f] k W
 m0:M 4=false->W.heap[rr]? =ah (mv fun _=>false) 86
 m1:M 4=true->W.heap[rr]? =ah (mv f) 86
 flt:W.heap[rr+1]? =ah #[ag 0,ag 0] 95
theorem BE (cs:List Cd)(lv:Value)(rule day:Int)(w:World)(h:InV w lv cs):
  Calls prog 103 #[lv,ag rule,ag day] w (EZ (oj cs rule day) (vN cs rule day:Int) (jb cs rule day).1 ((jb cs rule day).2:Int) w):=by
 obtain⟨p,cp,elv,hlen,hcc⟩:=h.form;have hz:=eG;have bA:aq w ((w.alloc (.cells (mv fun _=>false) 86)).alloc (.cells #[ag 0,ag 0] 95)):=(am _ _).alloc (by simp) _;have nM0:((w.alloc (.cells (mv fun _=>false) 86)).alloc (.cells #[ag 0,ag 0] 95)).heap[w.heap.size]? =ah (mv fun _=>false) 86:=by(repeat (first|refine dj _ _ _ (by simp only[aU];omega) ?_|exact dz _ _ _ (by first|rfl|simp only[aU])))
 have nF0:((w.alloc (.cells (mv fun _=>false) 86)).alloc (.cells #[ag 0,ag 0] 95)).heap[w.heap.size+1]? =ah #[ag 0,ag 0] 95:=by(repeat (first|refine dj _ _ _ (by simp only[aU];omega) ?_|exact dz _ _ _ (by first|rfl|simp only[aU])))
 generalize hwA:(w.alloc (.cells (mv fun _=>false) 86)).alloc (.cells #[ag 0,ag 0] 95)=wA at*;have cW:=EY cs lv wA (h.below bA);have hn0:(0:Int)<=(cs.length:Int):=by omega
 by_cases he:(jM cs).1=0
 ·have hR:=CN he
  have hw2:jM cs=(0,0):=by
   unfold jM at he⊢;by_cases h1:40<cs.length
   ·rw[aD h1]at he;simp at he
   ·rw[ax h1]at he⊢;by_cases h2:(gK (fun i=>aloneE (cs.getD i cd0) cs.length) cs.length 0).1≠0
    ·rw[aD h2]at he;exact absurd he h2
    ·rw[ax h2]at he⊢;exact(oZ _ _ he).1
  rw[hw2]at cW;have c2:=fun W=>qt rule (cs.length:Int) W;have c3:=fun W=>qt day 146097 W;have hE:jb cs rule day=if¬(0<=rule/\rule<cs.length) then(6,0) else if¬(0<=day/\day<146097) then(3,0) else(0,0):=ax (fun e=>e he);have HIN:=a8 h;have HRT:=a8 hR;have HE:=a8 hE;obtain⟨f0,hf0⟩:=au (oj cs rule day);obtain⟨k0,hk0⟩:=au (vN cs rule day:Int);obtain⟨X,hX⟩:=au (jb cs rule day);rw[hf0,hk0,hX];have HF0:=a8 hf0;have HK0:=a8 hk0;have HX:=a8 hX;subst elv;go_enter func103,ntmps103;go_wp2_with fail;refine cW.mono ?_;rintro e w1 ⟨rfl,hb1⟩;dsimp only;have b1:=aw bA hb1;have nM1:=ai hb1 nM0;have nF1:=ai hb1 nF0;have bF0:=am w1 (.cells #[ag 0,ag 0] 95);have nG0:=aE w1 (.cells #[ag 0,ag 0] 95);generalize hw1:w1.alloc (.cells #[ag 0,ag 0] 95)=w1a at*;have bF:=below_setRow bF0 (aB _) #[ag 0,ag 0];have nG:=aL _ _ _ #[ag 0,ag 0] _ _ nG0;have nM2:=ai bF nM1;have nF2:=ai bF nF1;have b2:=aw b1 bF;generalize hw2:w1a.setRow w1.heap.size #[ag 0,ag 0]=w2 at*;have zG:=ak 0 nG;have d2:=c2 w2;have d3:=c3 w2;go_wp2_with(refine ay rfl 95 _ _ rfl _ _ rfl rfl _ _ nG0 (by kernel_rfl) (by simp) (by simp[Value.oneCell']) ?_)
  refine d2.mono ?_;rintro e w3 ⟨rfl,rfl⟩;by_cases hr:0<=rule/\rule<cs.length
  case' neg=>
   have hX6:X=(6,0):=HX.o.symm.trans (HE.o.trans (aD hr));rw[bn hr];clear d3 hr
  case' pos=>
   rw[bm hr];go_wp2_with fail;refine d3.mono ?_;rintro e w3 ⟨rfl,rfl⟩;by_cases hd:0<=day/\day<146097
   case' neg=>
    have hX6:X=(3,0):=HX.o.symm.trans (HE.o.trans ((ax fun e=>e hr).trans (aD hd)));rw[bn hd];clear hr hd
   case pos=>
    have hE:jb cs rule day=(0,0):=HE.o.trans ((ax fun e=>e hr).trans (ax fun e=>e hd));have e1:oj cs rule day=(evV (eI day) day cs (cs.length+1) rule.toNat).1:=aD (by rw[hE]);have e2:vN cs rule day=(evV (eI day) day cs (cs.length+1) rule.toNat).2:=aD (by rw[hE]);rw[bm hd];obtain⟨lv,elv⟩:=au (Value.slice p cs.length cp);rw[elv]at HIN;obtain⟨rn,rfl⟩: ∃rn:Nat,rule=(rn:Int):=⟨rule.toNat,by omega⟩
    have hrn:rn<cs.length:=(by omega);rw[cZ]at e1 e2;obtain⟨hd0,hd1⟩:=hd;obtain⟨fM,hfM⟩:=au (evV (eI day) day cs (cs.length+1) rn)
    have HRA:PH (∀(w0:World) (gm:Nat) (W:World),aq w w0->VSt w0 gm lv day [] 0 W->Calls prog 132 #[ab gm 0,ag (rn:Int)] W fun e W'=>e= .returned (.tuple #[])/\VSt w0 gm lv day [fM.1] (fM.2:Int) W'):=fun w0 gm W hb hM=>by
     have hu:cs[rn]? =some cs[rn]:=az hrn;have ha:=(jx (HRT.o.alone rn _ hu)).2.1;have:=DC cs lv w0 gm day HRT.o (HIN.o.below hb) hd0 hd1 (cs.length+1) rn [] 0 W hrn (by have:=Oz (gj cs) cs.length rn;omega) hM (by rw[je hu];simp;omega) (by omega) (by rw[je hu];omega);rw[hfM]at this;refine this.mono ?_;rintro e W' ⟨rfl,h'⟩;exact⟨rfl,gW h' (by simp) (by simp)⟩
    rw[hfM]at e1 e2;obtain⟨f,k⟩:=fM;rw[HF0.o]at e1;have e2':k0=(k:Int):=(by rw[<-HK0.o,e2]);have e3:X=(0,0):=HX.o.symm.trans hE;replace e1:=e1.symm;subst e1 e2' e3;dsimp only at HRA⊢;subst elv;have bX:=am w3 (.cells #[af,ag 0,af,ag 0] 212);have nX:=aE w3 (.cells #[af,ag 0,af,ag 0] 212);generalize hwX:w3.alloc (.cells #[af,ag 0,af,ag 0] 212)=wX at*;have bY:=below_setRow bX (aB _) #[.slice p cs.length cp,ag day,af,ag 0];have nY:=aL _ _ _ #[.slice p cs.length cp,ag day,af,ag 0] _ _ nX;generalize hwY:wX.setRow w3.heap.size #[.slice p cs.length cp,ag day,af,ag 0]=wY at*;have hMY:VSt w3 w3.heap.size (.slice p cs.length cp) day [] 0 wY:=⟨bY,aB _,_,nY,cY _ _ _ _⟩
    have cR:=HRA.o w3 w3.heap.size wY b2 hMY;go_wp2_with(refine ay rfl 212 _ _ rfl _ _ rfl rfl _ _ nX (by kernel_rfl) (by simp) (by simp[Value.oneCell']) ?_)
    refine cR.mono ?_;rintro e w4 ⟨rfl,hM4⟩;go_wp2_with fail;obtain⟨lv,hlv⟩:=au (Value.slice p cs.length cp);rw[hlv]at hM4;have l1:=aH nM2;have l2:=aH nF2;have hgt:w.heap.size+1<w3.heap.size:=l2;obtain⟨gm,hgm⟩:=au w3.heap.size;rw[hgm]at hM4 hgt;simp only[hgm];refine dn (fun M _=>RnJ w w3 gm lv day (k:Int) f w.heap.size M) [dk 35 (.agg (mv f)),kn 36 (ab gm 3),kn 37 (ag (k:Int)),kn 38 (.agg #[ag 0,ag 0]),nk,dk 7 (ag (k:Int)),nk] (fun _=> ?_) (fun _ _ _ _ hb h=>⟨aw h.bel hb,h.mach.imp fun _ q=>ai hb q,fun e=>(h.ahead e).below hb,fun e=>(hb.block _ (aH (h.m0 e))).trans (h.m0 e),fun e=>(hb.block _ (aH (h.m1 e))).trans (h.m1 e),ai hb h.flt⟩) (by kernel_rfl) (fun M φ W2 hJ hcl F l hl hF=> ?_) (fun M φ W5 hM hJ=> ?_)
    ·obtain⟨q1,q2,sv,q3,q4⟩:=hM4.below (aI _ _).drew;exact⟨aw b2 q1,⟨sv,q3⟩,fun _=>⟨q1,q2,sv,q3,q4⟩,fun _=>(q1.block _ l1).trans nM2,(fun e=>by cases e),(q1.block _ l2).trans nF2⟩
    ·simp only[kn,dk,nk,dX,aR,aX,Act.put,aA,aK,aJ]at hl;subst hl;simp only[dc,Nat.reduceAdd]at hF;obtain⟨s0,nM⟩:=hJ.mach;have zz:=ak 3 nM;dsimp only[kn,dk,nk,dC,eJ,eg,Act.put];and_intros;all_goals first|exact trivial|intro hw hn hm K hK
     ·go_simp;refine(sq w3 gm lv day (k:Int) [] f W2 (hJ.ahead hm) (by simp)).mono ?_;rintro e' W' ⟨rfl,hM,hfr⟩;have n4:=hn 4 _ rfl (by kernel_rfl);obtain⟨q1,q2,sv,q3,q4⟩:=hM;exact hK _ _ ⟨rfl,aw b2 q1,⟨sv,q3⟩,(fun e=>by simp at e),fun _=>(hfr _ (aH (hJ.m0 n4)) (by omega)).trans (hJ.m0 n4),(fun e=>by simp[n4]at e),(hfr _ (aH hJ.flt) (by omega)).trans hJ.flt⟩
     ·go_simp;exact hK _ _ ⟨rfl,aI _ _⟩
     ·go_simp;exact hK _ _ ⟨rfl,aI _ _⟩
     ·go_simp;exact hK _ _ ⟨rfl,aI _ _⟩
     ·have q0:=hw ⟨0,.data⟩ (by simp) rfl rfl;refine eE 86 _ _ rfl _ (mv f) (by simp[Act.eval,hF]) (by simp[Act.eval,hF]) _ _ (hJ.m0 hm) (bh _) (by simp[bO]) (dR _) ?_;exact hK undef _ ⟨trivial,below_setRow hJ.bel (aB _) _,⟨_,(aV _ _ _ _ (by omega)).trans nM⟩,(fun e=>by simp[q0]at e),(fun e=>by simp at e),fun _=>aL _ _ _ _ _ _ (hJ.m0 hm),(aV _ _ _ _ (by omega)).trans hJ.flt⟩
     ·go_simp;exact hK _ _ ⟨rfl,hJ.bel,hJ.mach,fun e=>hJ.ahead (by simpa using e),fun e=>hJ.m0 (by simpa using e),fun e=>hJ.m1 (by simpa using e),hJ.flt⟩
     ·have q5:=hw ⟨5,.chain⟩ (by simp) rfl rfl;have q0:=hcl 5 _ rfl q5 ⟨0,.phase⟩ (by simp) rfl rfl;have q4:=hcl 5 _ rfl q5 ⟨4,.chain⟩ (by simp) rfl rfl;refine eE 95 _ _ rfl _ #[ag 0,ag 0] (by simp[Act.eval,hF]) (by simp[Act.eval,hF]) _ _ hJ.flt (by kernel_rfl) (by simp) (by simp[Value.oneCell']) ?_;exact hK undef _ ⟨trivial,below_setRow hJ.bel (Nat.le_succ _) _,⟨_,(aV _ _ _ _ (by omega)).trans nM⟩,(fun e=>by simp[q0]at e),(fun e=>by simp[q4]at e),fun _=>(aV _ _ _ _ (by omega)).trans (hJ.m1 q4),aL _ _ _ _ _ _ hJ.flt⟩
    ·have h1:=hJ.m1 (hM 4 (by decide) rfl);have h2:=hJ.flt;have HB:=a8 hJ.bel;simp only[kn,dk,nk,en,aR,aX,Act.put,aA,aK,aJ];go_wp2_with fail;exact vO w.heap.size (w.heap.size+1) f (k:Int) 0 0 rfl rfl rfl rfl h1 h2 ⟨rfl,HB.o⟩
  all_goals
   have hX0:(jb cs rule day).1≠0:=by rw[HX.o,hX6];decide
   have e1:f0=fun _=>false:=HF0.o.symm.trans (ax hX0)
   have e2:k0=0:=by rw[<-HK0.o,show vN cs rule day=0 from ax hX0];rfl
   subst e1 e2 hX6
   have nM3:=aL _ _ _ (mv fun _=>false) _ _ nM2
   have nF3:=(aV _ w.heap.size (w.heap.size+1) (mv fun _=>false) (by omega)).trans nF2
   have b3:=below_setRow b2 (aB _) (mv fun _=>false)
   have HB:=a8 fun c=>below_setRow b3 (by omega:w.heap.size<=w.heap.size+1) c
   have HM:=a8 fun c=>(aV _ (w.heap.size+1) w.heap.size c (by omega)).trans nM3
   have HS:=a8 fun c=>aL _ _ _ c _ _ nF3
   go_wp2_with(first
    |(refine ay rfl 86 _ _ rfl _ _ rfl rfl _ _ nM2 (bh _) (by simp[bO]) (dR _) ?_)
    |(refine ay rfl 95 _ _ rfl _ _ rfl rfl _ _ nF3 (by kernel_rfl) (by simp) (by simp[Value.oneCell']) ?_))
   exact vO w.heap.size (w.heap.size+1) (fun _=>false) 0 _ 0 rfl rfl rfl rfl (HM.o _) (HS.o _) ⟨rfl,HB.o _⟩
 ·have hE:jb cs rule day=jM cs:=aD he;have e1:oj cs rule day=fun _=>false:=ax (by rw[hE];exact he);have e2:vN cs rule day=0:=ax (by rw[hE];exact he);rw[hE,e1,e2];obtain⟨X,hX⟩:=au (jM cs);rw[hX]at he cW⊢;obtain⟨er,at0⟩:=X;dsimp only at he cW⊢;obtain⟨at_,hat⟩: ∃q:Int,(at0:Int)=q:=⟨_,rfl⟩
  rw[hat]at cW⊢;have hb0:(er==0)=false:=bj.2 he;have hbn:(er !=0)=true:=(by simpa using he);subst elv;go_enter func103,ntmps103;go_wp2_with fail;refine cW.mono ?_;rintro e w1 ⟨rfl,hb1⟩;have b1:=aw bA hb1;have nM1:=ai hb1 nM0;have nF1:=ai hb1 nF0;have bF:=am w1 (.cells #[ag er,ag at_] 95);have nG:=aE w1 (.cells #[ag er,ag at_] 95);have nM2:=ai bF nM1;have nF2:=ai bF nF1;have b2:=aw b1 bF;have hl1:=aH nM1;have hl2:=aH nF1;generalize hw2:w1.alloc (.cells #[ag er,ag at_] 95)=w2 at*;have zG:=ak 0 nG;go_wp2_with fail;refine dn (fun M _=>FtJ w w.heap.size w1.heap.size er at_ M) [kn 16 (.agg (mv fun _=>false)),kn 17 (.agg #[ag er,ag at_]),nk,kn 7 (ag 0),nk] (fun _=>⟨b2.trans ((aI w2.heap.size w2).drew.mono b2.size),nM2,nG,_,_,nF2,(fun e=>by cases e)⟩) (fun _ _ _ _ hb h=>⟨aw h.bel hb,ai hb h.msk,ai hb h.src,h.flt.imp fun _ q=>q.imp fun _ q=>⟨ai hb q.1,q.2⟩⟩) (by kernel_rfl) (fun M φ W2 hJ hcl F l hl hF=> ?_) (fun M φ W5 hM hJ=> ?_)
  ·simp only[kn,nk,dX,aR,aX,Act.put,aA,aK,aJ]at hl;subst hl;simp only[dc,Nat.reduceAdd]at hF;obtain⟨xa,xb,nf,hf⟩:=hJ.flt;dsimp only[kn,nk,dC,eJ,eg,Act.put];and_intros;all_goals first|exact trivial|intro hw hn hm K hK
   ·go_simp;exact hK _ _ ⟨rfl,aI _ _⟩
   ·refine eo 95 _ rfl _ (by simp[Act.eval,hF]) _ _ _ _ hJ.src mc rfl (by kernel_rfl) ?_;exact hK _ _ ⟨rfl,aI _ _⟩
   ·refine eE 86 _ _ rfl _ (mv fun _=>false) (by simp[Act.eval,hF]) (by simp[Act.eval,hF]) _ _ hJ.msk (bh _) (by simp[bO]) (dR _) ?_;exact hK undef _ ⟨trivial,below_setRow hJ.bel (aB _) _,aL _ _ _ _ _ _ hJ.msk,(aV _ _ _ _ (by omega)).trans hJ.src,_,_,(aV _ _ _ _ (by omega)).trans nf,fun e=>hf (by simpa using e)⟩
   ·go_simp;exact hK _ _ ⟨rfl,aI _ _⟩
   ·refine eE 95 _ _ rfl _ #[ag er,ag at_] (by simp[Act.eval,hF]) (by simp[Act.eval,hF]) _ _ nf (by kernel_rfl) (by simp) (by simp[Value.oneCell']) ?_;exact hK undef _ ⟨trivial,below_setRow hJ.bel (Nat.le_succ _) _,(aV _ _ _ _ (by omega)).trans hJ.msk,(aV _ _ _ _ (by omega)).trans hJ.src,_,_,aL _ _ _ _ _ _ nf,fun _=>⟨rfl,rfl⟩⟩
  ·have h1:=hJ.msk;obtain⟨xa,xb,h2,hf⟩:=hJ.flt;obtain⟨rfl,rfl⟩:=hf (hM 4 (by decide) rfl);have HB:=a8 hJ.bel;simp only[kn,nk,en,aR,aX,Act.put,aA,aK,aJ];go_wp2_with fail;exact vO w.heap.size (w.heap.size+1) (fun _=>false) 0 _ _ rfl rfl rfl rfl h1 h2 ⟨rfl,HB.o⟩
end Go.Proofs.YtkfidffapdhbhaaGreatDoor
