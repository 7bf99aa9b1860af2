/- Texts of the proof. -/
import Derived.Test.YtaoljfdfhggbbaaGreatDoorPc19
set_option maxRecDepth 100000
set_option maxHeartbeats 8000000
namespace Go.Proofs.YtaoljfdfhggbbaaGreatDoor
open Go.Proofs.Tryz Go.RowKit Lx Vx Mx Msk
section
variable {all:List Tk} {E g:Nat} {v:Value} {w:World} {i n:Nat}
theorem EH (f:PS0 all E g v)(hS: ∀j,i<j->RC all E g v 119 0 j)(hF: ∀j,i<j->RC all E g v 174 4 j):RC all E g v 198 6 i:=by
 intro w n d h I a6;have aA:=aH h.blk;have ak:aq w (w.alloc (.cells #[ag 0,ag 0,ag 0,.string ⟨#[]⟩,af] 102)):=am _ _;have hz:=mz w;have D:=h.below ak f;have F:=bo.of_below (g:=g) ak;generalize aI:w.alloc (.cells #[ag 0,ag 0,ag 0,.string ⟨#[]⟩,af] 102)=w0 at*;have J:=bo.refl g w0;by_cases aj:40<d
 ·have a5:(40:Int)<(d:Int):=by omega
  rw[M8,aD aj];go_enter func198,ntmps198;go_wp2_with fail;refine(lh f D 4).mono ?_;rintro e w1 ⟨rfl,av⟩;exact⟨rfl,rfl,F.trans (bo.of_below av)⟩
 have hd:d<=40:=by omega
 have a7: ¬(40:Int)<(d:Int):=by omega
 have a8:(d:Int)<=40:=by omega
 have a9:(0:Int)<=(d:Int):=by omega
 generalize au:rd E 6 d ex0 (all.drop i) n=X;have A:_:=au;rw[M8,ax aj]at A;simp only[fA]at A;by_cases t0:isT kP (all.drop i)=true
 ·rw[aD t0]at A;have L:PN (dm (rd E 0 (d+1) ex0 (all.drop (i+1)) n) (fun e r n=>if isT oM r then .ok (e,r.tail,n) else dY E 2 r)=X):=A;go_enter func198,ntmps198;go_wp2_with fail;refine(fU f D kP (by decide) t0).mono ?_;rintro e U ⟨rfl,x,c⟩;have l:=J.trans c;have m:=l.at hz (by omega);have s:=F.trans l;have R:=aH m;have z:Calls prog 119 #[ab g 0,ag ((d:Int)+1)] U (jw all E g v U (fun k=>U.heap.size<=k) (rd E 0 (d+1) ex0 (all.drop (i+1)) n)):=hS (i+1) (by omega) U n (d+1) x I (by omega);have P:=L.o;go_wp2_with fail;refine z.mono ?_;intro e W G;cases hx:rd E 0 (d+1) ex0 (all.drop (i+1)) n with
  |error q=>
   obtain⟨er,at_⟩:=q;rw[hx]at G P;obtain⟨rfl,a0⟩:=G;refine⟨rfl,?_⟩;rw[<-P];exact⟨rfl,s.trans a0⟩
  |ok q=>
   obtain⟨ex,rr,nn⟩:=q;rw[hx]at G P;obtain⟨i',sl,dd,a4,rfl,al,h2,a2,ae⟩:=G;subst a4;obtain⟨p5,c5,rfl⟩:=al.form;have aJ:=ae.at m (by omega);have aF:=ae.size;have ad:aq W (W.alloc (.cells #[ag ex.kind,ag ex.a,ag ex.b,.string ⟨ex.name.toArray⟩,.slice p5 ex.kids.length c5] 102)):=am _ _;have h3:=h2.below ad f;have ah:=ae.trans (bo.of_below ad);have aw:=aE W (.cells #[ag ex.kind,ag ex.a,ag ex.b,.string ⟨ex.name.toArray⟩,.slice p5 ex.kids.length c5] 102);have an:dy (fun k=>w.heap.size+1<=k) dd (W.alloc (.cells #[ag ex.kind,ag ex.a,ag ex.b,.string ⟨ex.name.toArray⟩,.slice p5 ex.kids.length c5] 102)) (.slice p5 ex.kids.length c5) ex.kids:=(bo.of_below (g:=g) ad).kids (fun k V=>by omega) (al.mono fun k V=>by omega);unfold exV;generalize aG:W.alloc (.cells #[ag ex.kind,ag ex.a,ag ex.b,.string ⟨ex.name.toArray⟩,.slice p5 ex.kids.length c5] 102)=w3 at*;by_cases hm:isT oM (all.drop i')=true
   ·have aa:=oh f h3 oM (by decide) hm
    have Z:PN (X= .ok (ex,all.drop (i'+1),nn)):=by
     show _=_;rw[<-P,<-fA];show(if isT oM (all.drop i') then _ else _)=_;rw[aD hm]
    go_wp2_with fail;refine aa.mono ?_;rintro e Y ⟨rfl,h4,M⟩;have az:=M.at aw (by omega);have ar:=(ah.trans M).at m (by omega);have ap:=(s.trans ah).trans M;have ao:=M.kids (fun k V=>by omega) an
    have HO:PN (∀cs,jw all E g v w (fun k=>w.heap.size<=k) X (.returned (exV ex (.slice p5 ex.kids.length c5))) (Y.setRow w.heap.size cs)):=fun cs=>by
     rw[Z.o];exact⟨i'+1,_,dd,rfl,rfl,(ao.kept fun k V _=>aV _ _ _ _ (by omega)).mono fun k V=>by omega,h.of_kept f (ap.setRow (aB _) cs) ((aV _ _ _ _ (by omega)).trans h4.blk) h4.le,a2,ap.setRow (aB _) cs⟩
    unfold exV at HO
    go_wp2_with(first
     |(refine aR rfl 102 _ rfl _ rfl _ _ _ _ az fd rfl (by kernel_rfl) ?_)
     |(refine ay rfl 102 _ _ rfl _ _ rfl rfl _ _ ar (by kernel_rfl) (by rfl) (by simp[Value.oneCell']) ?_))
    exact jI 4 (by kernel_rfl) w.heap.size _ _ _ _ _ rfl rfl (aL _ _ _ _ _ _ ar) (HO.o _)
   ·have a1:isT oM (all.drop i')=false:=(by simpa using hm);have aa:=pU f h3 oM a1
    have Z:PN (X=dY E 2 (all.drop i')):=by
     show _=_;rw[<-P];show(if isT oM (all.drop i') then _ else _)=_;rw[ax hm]
    go_wp2_with fail;refine aa.mono ?_;rintro e Y ⟨rfl,M⟩;refine⟨rfl,?_⟩;rw[Z.o];exact⟨rfl,(s.trans ah).trans M⟩
 have f0:isT kP (all.drop i)=false:=by simpa using t0
 rw[ax t0]at A;by_cases t1:isT jX (all.drop i)=true
 ·rw[aD t1]at A;have L:PN (dE E ⟨1,0,0,[],[]⟩ (all.drop (i+1)) n=X):=A;go_enter func198,ntmps198;go_wp2_with fail;refine(ew f D kP f0).mono ?_;rintro e w1 ⟨rfl,u,c⟩;have y:=J.trans c;go_wp2_with fail;refine(fU f u jX (by decide) t1).mono ?_;rintro e U ⟨rfl,x,c⟩;have l:=y.trans c;have m:=l.at hz (by omega);have s:=F.trans l;have R:=aH m;have z:=kE f x I (fun k=>w.heap.size+1<=k) (fun k V=>by omega) ⟨1,0,0,[],[]⟩ (af) 0 (dy.nil _ _ _ _ _);unfold exV at z;rw[show dE E ⟨1,0,0,[],[]⟩ (all.drop (i+1)) n=X from L.o]at z;go_wp2_with fail;refine z.mono ?_;intro e w5 G;rcases jO h f s m G with⟨ch,rfl,t⟩|⟨a',b',c',x',p',q',r',rfl,p,t⟩
  ·exact⟨rfl,t⟩
  ·go_wp2_with(refine ay rfl 102 _ _ rfl _ _ rfl rfl _ _ p (by kernel_rfl) (by rfl) (by simp[Value.oneCell']) ?_)
   exact jI 4 (by kernel_rfl) w.heap.size _ _ _ _ _ rfl rfl (aL _ _ _ _ _ _ p) (t _)
 have f1:isT jX (all.drop i)=false:=by simpa using t1
 rw[ax t1]at A;by_cases t2:isT jz (all.drop i)=true
 ·rw[aD t2]at A;have L:PN (dE E ⟨2,0,0,[],[]⟩ (all.drop (i+1)) n=X):=A;go_enter func198,ntmps198;go_wp2_with fail;refine(ew f D kP f0).mono ?_;rintro e w1 ⟨rfl,u,c⟩;have y:=J.trans c;go_wp2_with fail;refine(ew f u jX f1).mono ?_;rintro e W ⟨rfl,B,c⟩;have C:=y.trans c;go_wp2_with fail;refine(fU f B jz (by decide) t2).mono ?_;rintro e U ⟨rfl,x,c⟩;have l:=C.trans c;have m:=l.at hz (by omega);have s:=F.trans l;have R:=aH m;have z:=kE f x I (fun k=>w.heap.size+1<=k) (fun k V=>by omega) ⟨2,0,0,[],[]⟩ (af) 0 (dy.nil _ _ _ _ _);unfold exV at z;rw[show dE E ⟨2,0,0,[],[]⟩ (all.drop (i+1)) n=X from L.o]at z;go_wp2_with fail;refine z.mono ?_;intro e w5 G;rcases jO h f s m G with⟨ch,rfl,t⟩|⟨a',b',c',x',p',q',r',rfl,p,t⟩
  ·exact⟨rfl,t⟩
  ·go_wp2_with(refine ay rfl 102 _ _ rfl _ _ rfl rfl _ _ p (by kernel_rfl) (by rfl) (by simp[Value.oneCell']) ?_)
   exact jI 4 (by kernel_rfl) w.heap.size _ _ _ _ _ rfl rfl (aL _ _ _ _ _ _ p) (t _)
 have f2:isT jz (all.drop i)=false:=by simpa using t2
 rw[ax t2]at A;by_cases t3:isT jS (all.drop i)=true
 ·rw[aD t3]at A;have L:PN (rd E 7 d ex0 (all.drop (i+1)) n=X):=A;go_enter func198,ntmps198;go_wp2_with fail;refine(ew f D kP f0).mono ?_;rintro e w1 ⟨rfl,u,c⟩;have y:=J.trans c;go_wp2_with fail;refine(ew f u jX f1).mono ?_;rintro e W ⟨rfl,B,c⟩;have C:=y.trans c;go_wp2_with fail;refine(ew f B jz f2).mono ?_;rintro e w3 ⟨rfl,H,c⟩;have K:=C.trans c;go_wp2_with fail;refine(fU f H jS (by decide) t3).mono ?_;rintro e U ⟨rfl,x,c⟩;have l:=K.trans c;have m:=l.at hz (by omega);have s:=F.trans l;have R:=aH m;have z:=EG f x I d hd (fun j hj=>hF j (by omega));rw[show rd E 7 d ex0 (all.drop (i+1)) n=X from L.o]at z;go_wp2_with fail;refine z.mono ?_;intro e Y S;have G:=jw.weak (B':=fun k=>w.heap.size+1<=k) (bo.refl g U) (fun k V=>by omega) S;rcases jO h f s m G with⟨ch,rfl,t⟩|⟨a',b',c',x',p',q',r',rfl,p,t⟩
  ·exact⟨rfl,t⟩
  ·go_wp2_with(refine ay rfl 102 _ _ rfl _ _ rfl rfl _ _ p (by kernel_rfl) (by rfl) (by simp[Value.oneCell']) ?_)
   exact jI 4 (by kernel_rfl) w.heap.size _ _ _ _ _ rfl rfl (aL _ _ _ _ _ _ p) (t _)
 have f3:isT jS (all.drop i)=false:=by simpa using t3
 rw[ax t3]at A;by_cases t4:isT lz (all.drop i)=true
 ·rw[aD t4]at A
  have L:PN (tu E d (all.drop (i+1)) n=X):=by
   show _=_;rw[<-A];unfold tu;simp only[fA]
  go_enter func198,ntmps198;go_wp2_with fail;refine(ew f D kP f0).mono ?_;rintro e w1 ⟨rfl,u,c⟩;have y:=J.trans c;go_wp2_with fail;refine(ew f u jX f1).mono ?_;rintro e W ⟨rfl,B,c⟩;have C:=y.trans c;go_wp2_with fail;refine(ew f B jz f2).mono ?_;rintro e w3 ⟨rfl,H,c⟩;have K:=C.trans c;go_wp2_with fail;refine(ew f H jS f3).mono ?_;rintro e Y ⟨rfl,N,c⟩;have T:=K.trans c;go_wp2_with fail;refine(fU f N lz (by decide) t4).mono ?_;rintro e U ⟨rfl,x,c⟩;have l:=T.trans c;have m:=l.at hz (by omega);have s:=F.trans l;have R:=aH m;have z:=Gv f x I d hd (fun j hj=>hF j (by omega));rw[show tu E d (all.drop (i+1)) n=X from L.o]at z;go_wp2_with fail;refine z.mono ?_;intro e Y S;have G:=jw.weak (B':=fun k=>w.heap.size+1<=k) (bo.refl g U) (fun k V=>by omega) S;rcases jO h f s m G with⟨ch,rfl,t⟩|⟨a',b',c',x',p',q',r',rfl,p,t⟩
  ·exact⟨rfl,t⟩
  ·go_wp2_with(refine ay rfl 102 _ _ rfl _ _ rfl rfl _ _ p (by kernel_rfl) (by rfl) (by simp[Value.oneCell']) ?_)
   exact jI 4 (by kernel_rfl) w.heap.size _ _ _ _ _ rfl rfl (aL _ _ _ _ _ _ p) (t _)
 have f4:isT lz (all.drop i)=false:=by simpa using t4
 rw[ax t4]at A;by_cases t5:kindP (all.drop i)=1
 ·rw[aD t5]at A;have L:PN (dE E ⟨10,0,0,textP (all.drop i),[]⟩ (all.drop (i+1)) n=X):=A;go_enter func198,ntmps198;go_wp2_with fail;refine(ew f D kP f0).mono ?_;rintro e w1 ⟨rfl,u,c⟩;have y:=J.trans c;go_wp2_with fail;refine(ew f u jX f1).mono ?_;rintro e W ⟨rfl,B,c⟩;have C:=y.trans c;go_wp2_with fail;refine(ew f B jz f2).mono ?_;rintro e w3 ⟨rfl,H,c⟩;have K:=C.trans c;go_wp2_with fail;refine(ew f H jS f3).mono ?_;rintro e Y ⟨rfl,N,c⟩;have T:=K.trans c;go_wp2_with fail;refine(ew f N lz f4).mono ?_;rintro e w5 ⟨rfl,O,c⟩;have ai:=T.trans c;have cm:=mL f O;unfold kb at cm;rw[t5]at cm;go_wp2_with fail;refine cm.mono ?_;rintro e w6 ⟨rfl,Q⟩;have ac:=O.below Q f;have a3:=ai.trans (bo.of_below Q);have ct:=qh f ac 1 (by decide) t5;unfold kb at ct;go_wp2_with fail;refine ct.mono ?_;rintro e U ⟨rfl,x,c⟩;have l:=a3.trans c;have m:=l.at hz (by omega);have s:=F.trans l;have z:=kE f x I (fun k=>w.heap.size+1<=k) (fun k V=>by omega) ⟨10,0,0,textP (all.drop i),[]⟩ (af) 0 (dy.nil _ _ _ _ _);unfold exV at z;rw[show dE E ⟨10,0,0,textP (all.drop i),[]⟩ (all.drop (i+1)) n=X from L.o]at z;go_wp2_with fail;refine z.mono ?_;intro e w5 G;rcases jO h f s m G with⟨ch,rfl,t⟩|⟨a',b',c',x',p',q',r',rfl,p,t⟩
  ·exact⟨rfl,t⟩
  ·go_wp2_with(refine ay rfl 102 _ _ rfl _ _ rfl rfl _ _ p (by kernel_rfl) (by rfl) (by simp[Value.oneCell']) ?_)
   exact jI 4 (by kernel_rfl) w.heap.size _ _ _ _ _ rfl rfl (aL _ _ _ _ _ _ p) (t _)
 ·rw[ax t5]at A
  have L:PN (xd E (all.drop i) n=X):=by
   show _=_;rw[<-A];unfold xd;simp only[fA]
  go_enter func198,ntmps198;go_wp2_with fail;refine(ew f D kP f0).mono ?_;rintro e w1 ⟨rfl,u,c⟩;have y:=J.trans c;go_wp2_with fail;refine(ew f u jX f1).mono ?_;rintro e W ⟨rfl,B,c⟩;have C:=y.trans c;go_wp2_with fail;refine(ew f B jz f2).mono ?_;rintro e w3 ⟨rfl,H,c⟩;have K:=C.trans c;go_wp2_with fail;refine(ew f H jS f3).mono ?_;rintro e Y ⟨rfl,N,c⟩;have T:=K.trans c;go_wp2_with fail;refine(ew f N lz f4).mono ?_;rintro e w5 ⟨rfl,O,c⟩;have ai:=T.trans c;have cm:=mL f O;unfold kb at cm;have aC:(kindP (all.drop i)==1)=false:=(by simpa using t5);generalize kindP (all.drop i)=aK at*;go_wp2_with fail;refine cm.mono ?_;rintro e w6 ⟨rfl,Q⟩;have ac:=O.below Q f;have l:=ai.trans (bo.of_below Q);have m:=l.at hz (by omega);have s:=F.trans l;have R:=aH m;have z:=Jl f ac I;rw[show xd E (all.drop i) n=X from L.o]at z;go_wp2_with fail;refine z.mono ?_;intro e Y S;have G:=jw.weak (B':=fun k=>w.heap.size+1<=k) (bo.refl g w6) (fun k V=>by omega) S;rcases jO h f s m G with⟨ch,rfl,t⟩|⟨a',b',c',x',p',q',r',rfl,p,t⟩
  ·exact⟨rfl,t⟩
  ·go_wp2_with(refine ay rfl 102 _ _ rfl _ _ rfl rfl _ _ p (by kernel_rfl) (by rfl) (by simp[Value.oneCell']) ?_)
   exact jI 4 (by kernel_rfl) w.heap.size _ _ _ _ _ rfl rfl (aL _ _ _ _ _ _ p) (t _)
end
section
variable {all:List Tk} {E g:Nat} {v:Value} {w:World} {i n:Nat}
def oO (g:Nat)(w:World):Nat:=match w.heap[g]? with
 |some (.cells a _ _)=>(intOf (a.getD 1 undef)).toNat
 |_=>0
theorem PSt.pos (h:PSt all E g v w i n):oO g w=i:=by
 unfold oO;rw[h.blk];simp[intOf]
theorem Bi (j:Nat):fH (all.drop j)=all.drop (oj all (j+1)):=by
 unfold fH oj;rw[fA];split
 ·rw[fA]
 ·rfl
def sf (E d:Nat)(all:List Tk)(e:Ex)(n:Nat):Except (Int×Nat) (Int×Nat)->Res
 | .error q=> .error q
 | .ok (m,j)=>dm (dE E ⟨9,m,0,[],[e]⟩ (all.drop j) n) fun e r n=>rd E 5 d e r n
theorem Gz (d:Nat)(e:Ex)(j n:Nat)(h:isT mq (all.drop j)=true):rd E 5 d e (all.drop j) n=sf E d all e n (oY all E (j+1)):=by
 rw[M7,aD h,Bi,fA];unfold oY;split
 ·rfl
 split
 ·rfl
 ·unfold sf;rw[fA]
theorem Ng (d:Nat)(e:Ex)(j n:Nat)(h:isT mq (all.drop j)=false):rd E 5 d e (all.drop j) n= .ok (e,all.drop j,n):=by
 rw[M7,ax (by simp[h])]
structure rx (w0 w:World)(b:Nat)(e:Ex):Prop where
 ex: ∃(p:Option Addr) (c d:Nat),w.heap[b]? =ah #[ag e.kind,ag e.a,ag e.b,.string ⟨e.name.toArray⟩,.slice p e.kids.length c] 102/\dy (fun k=>w0.heap.size+1<=k/\k≠b) d w (.slice p e.kids.length c) e.kids
theorem rx.kept {f w w':World}{b:Nat}{e:Ex}(h:rx f w b e)(a:bo g w w')(l:b≠g)(m:g<f.heap.size):rx f w' b e:=by
 obtain⟨p,c,d,i,j⟩:=h.ex;exact⟨p,c,d,a.at i l,a.kids (fun k a=>by omega) j⟩
theorem CN (F:PS0 all E g v)(hT:RC all E g v 198 6 i):RC all E g v 174 4 i:=by
 intro w n d h az U;have W:=aH h.blk;have T:aq w (w.alloc (.cells #[ag 0,ag 0,ag 0,.string ⟨#[]⟩,af] 102)):=am _ _;have hz:=mz w;have ao:=h.below T F;have Y:=bo.of_below (g:=g) T;have a8:(w.alloc (.cells #[ag 0,ag 0,ag 0,.string ⟨#[]⟩,af] 102)).heap.size=w.heap.size+1:=by simp
 generalize aK:w.alloc (.cells #[ag 0,ag 0,ag 0,.string ⟨#[]⟩,af] 102)=w0 at*;have c1:=hT w0 n d ao az U;generalize x:rd E 4 d ex0 (all.drop i) n=X;rw[Pf]at x;go_enter func174,ntmps174;go_wp2_with fail;refine c1.mono ?_;intro e f p;cases hx:rd E 6 d ex0 (all.drop i) n with
 |error q=>
  obtain⟨er,at_⟩:=q;rw[hx]at p x;obtain⟨rfl,z⟩:=p;refine⟨rfl,?_⟩;rw[<-x];exact⟨rfl,Y.trans z⟩
 |ok q=>
  obtain⟨e0,rr,n0⟩:=q;rw[hx]at p x;obtain⟨i1,sl,dd,P,rfl,C,h1,ax,z⟩:=p;subst P;obtain⟨p1,q1,rfl⟩:=C.form;have ap:rd E 5 d e0 (all.drop i1) n0=X:=x;have aD:=z.size;have a3:=z.at hz (by omega);have H:aq f (f.alloc (.cells #[ag e0.kind,ag e0.a,ag e0.b,.string ⟨e0.name.toArray⟩,.slice p1 e0.kids.length q1] 102)):=am _ _;have h2:=h1.below H F;have a4:=ai H a3;have aa:=(Y.trans z).trans (bo.of_below H)
  have a0:rx w (f.alloc (.cells #[ag e0.kind,ag e0.a,ag e0.b,.string ⟨e0.name.toArray⟩,.slice p1 e0.kids.length q1] 102)) f.heap.size e0:=
   ⟨p1,q1,dd,aE f _,(bo.of_below (g:=g) H).kids (fun k L=>by omega) (C.lt.mono fun k L=>by omega)⟩
  unfold exV;have an:PN (rd E 5 d e0 (all.drop i1) n0=X):=ap;generalize aI:f.alloc (.cells #[ag e0.kind,ag e0.a,ag e0.b,.string ⟨e0.name.toArray⟩,.slice p1 e0.kids.length q1] 102)=w2 at*;go_wp2_with fail;go_loopw [6] (fun _ wr=> ∃(e:Ex) (j m:Nat),rd E 5 d e (all.drop j) m=X/\rx w wr f.heap.size e/\PSt all E g v wr j m/\m<=600/\bo g w wr/\wr.heap[w.heap.size]? =ah se 102) (fun _ wr=>all.length-oO g wr);case atStart=>exact⟨e0,i1,n0,an.o,a0,h2,ax,aa,a4⟩
  case round=>
   obtain⟨e,j,m,G,hv,Q,ab,N,ak⟩:=hrel;have hp:=Q.pos;by_cases hs:isT mq (all.drop j)=true
   ·have aA:=og (by decide) hs;have c2:=fU F Q mq (by decide) hs;rw[Gz d e j m hs]at G;have c3:=fun(f:World) (h1:PSt all E g v f (j+1) m)=>Gu F h1;have D:PN (sf E d all e m (oY all E (j+1))=X):=G;go_wp2_with fail;refine c2.mono ?_;rintro e' w3 ⟨rfl,h3,l⟩;go_wp2_with fail;refine(c3 _ h3).mono ?_;intro e' w4 p;cases hx:oY all E (j+1) with
    |error q=>
     obtain⟨er,at_⟩:=q;have c:=D.o;rw[hx]at p c;obtain⟨rfl,I⟩:=p;refine⟨rfl,?_⟩;rw[<-c];exact⟨rfl,(N.trans l).trans I⟩
    |ok q=>
     obtain⟨s,j2⟩:=q;have c:=D.o;rw[hx]at p c;obtain⟨rfl,h4,I⟩:=p
     have aC:j+1<j2:=by
      unfold oY at hx;split at hx
      ·cases hx
      split at hx
      ·cases hx
      ·cases hx;unfold oj;split<;>omega
     have A:=l.trans I;have a7:=A.size;have a2:=hv.kept A (by omega) W;obtain⟨pv,S,dv,K,O⟩:=a2.ex;have aj:=A.at ak (by omega);have aw:=aH aj;have av:=aH K;have y:aq w4 (w4.alloc (.cells #[ag e.kind,ag e.a,ag e.b,.string ⟨e.name.toArray⟩,.slice pv e.kids.length S] 102)):=am _ _;have kk:=Bg (B:=fun k=>w.heap.size+1<=k/\k≠f.heap.size) (by constructor<;>omega) (aE w4 (.cells #[ag e.kind,ag e.a,ag e.b,.string ⟨e.name.toArray⟩,.slice pv e.kids.length S] 102)) ((bo.of_below (g:=g) y).kids (fun k L=>by omega) O);have h5:=h4.below y F;have au:=(y.block _ av).trans K;have a5:=(y.block _ aw).trans aj;have M:=((N.trans l).trans I).trans (bo.of_below y);have c6:=kE F h5 ab (fun k=>w.heap.size+1<=k/\k≠f.heap.size) (fun k L=>by omega) ⟨9,s,0,[],[e]⟩ _ _ kk;unfold exV at c6;have R:PN (dm (dE E ⟨9,s,0,[],[e]⟩ (all.drop j2) m) (fun e r n=>rd E 5 d e r n)=X):=c;generalize aJ:w4.alloc (.cells #[ag e.kind,ag e.a,ag e.b,.string ⟨e.name.toArray⟩,.slice pv e.kids.length S] 102)=w5 at*;go_wp2_with(refine aR rfl 102 _ rfl _ rfl _ _ _ _ K fd rfl (by kernel_rfl) ?_)
     refine c6.mono ?_;intro e' w6 p;cases hx:dE E ⟨9,s,0,[],[e]⟩ (all.drop j2) m with
     |error q=>
      obtain⟨er,at_⟩:=q;have c:=R.o;rw[hx]at p c;obtain⟨rfl,t⟩:=p;refine⟨rfl,?_⟩;rw[<-c];exact⟨rfl,M.trans t⟩
     |ok q=>
      obtain⟨e6,rr,n6⟩:=q;have c:=R.o;rw[hx]at p c;obtain⟨i6,sl,dd,P,rfl,C,h6,ac,t⟩:=p;have er:=dM hx;cases er;obtain⟨p6,q6,rfl⟩:=C.form;have V:=t.at au (by omega);have a6:=t.at a5 (by omega);have aF:=t.size;have J:=M.trans t;have aG:=M.size;have al:all.drop j2=all.drop i6:=P
      have HR:PN (∀u,PSt all E g v (w6.setRow f.heap.size u) i6 (m+1)/\bo g w (w6.setRow f.heap.size u)/\(w6.setRow f.heap.size u).heap[w.heap.size]? =ah se 102/\dy (fun k=>w.heap.size+1<=k/\k≠f.heap.size) dd (w6.setRow f.heap.size u) (.slice p6 1 q6) [e]):=fun u=>
       ⟨h.of_kept F (J.setRow (by omega) u) ((aV _ _ _ _ (by omega)).trans h6.blk) h6.le,J.setRow (by omega) u,(aV _ _ _ _ (by omega)).trans a6,C.kept fun k L _=>aV _ _ _ _ L.2⟩
      have HN:PN (rd E 5 d ⟨9,s,0,[],[e]⟩ (all.drop i6) (m+1)=X):=by
       show _=_;rw[<-al];exact c
      have a9:j<i6:=by
       have l1:=congrArg List.length al;simp only[fo]at l1;have:=h6.le;have:=h5.le;omega
      unfold exV;go_wp2_with(refine ay rfl 102 _ _ rfl _ _ rfl rfl _ _ V (by kernel_rfl) (by simp) (by simp[Value.oneCell']) ?_)
      obtain⟨r1,r2,r3,r4⟩:=HR.o #[ag 9,ag s,ag 0,.string ⟨#[]⟩,.slice p6 1 q6];go_roundw
      case rel=>
       (repeat apply iP);exact⟨⟨⟨9,s,0,[],[e]⟩,i6,m+1,HN.o,⟨p6,q6,dd,aL _ _ _ _ _ _ V,r4⟩,r1,ac,r2,r3⟩,rfl⟩
      case measure=>
       rw[hp];have:=r1.pos;have:=r1.le;show all.length-oO g _<_;omega
   ·have ad:isT mq (all.drop j)=false:=(by simpa using hs);have c2:=ew F Q mq ad;rw[Ng d e j m ad]at G;have D:PN (.ok (e,all.drop j,m)=X):=G;go_wp2_with fail;refine c2.mono ?_;rintro e' w3 ⟨rfl,h3,l⟩;have a1:=hv.kept l (by omega) W;obtain⟨pv,S,dv,ar,O⟩:=a1.ex;have ae:=l.at ak (by omega);have Z:=N.trans l
    have HO:PN (∀u,jw all E g v w (fun k=>w.heap.size<=k) X (.returned (exV e (.slice pv e.kids.length S))) (w3.setRow w.heap.size u)):=fun u=>by
     rw[<-D.o];exact⟨j,_,dv,rfl,rfl,(O.kept fun k L _=>aV _ _ _ _ (by omega)).mono fun k L=>by omega,h.of_kept F (Z.setRow (aB _) u) ((aV _ _ _ _ (by omega)).trans h3.blk) h3.le,ab,Z.setRow (aB _) u⟩
    unfold exV at HO
    go_wp2_with(first
     |(refine aR rfl 102 _ rfl _ rfl _ _ _ _ ar fd rfl (by kernel_rfl) ?_)
     |(refine ay rfl 102 _ _ rfl _ _ rfl rfl _ _ ae (by kernel_rfl) (by rfl) (by simp[Value.oneCell']) ?_))
    exact jI 4 (by kernel_rfl) w.heap.size _ _ _ _ _ rfl rfl (aL _ _ _ _ _ _ ae) (HO.o _)
end
section
variable {all:List Tk} {E g:Nat} {v:Value} {w:World} {i n:Nat}
def yB (all:List Tk)(E g:Nat)(v:Value)(B:Nat->Prop)(W:World)(y:Res)(x:Value):Prop:= ∃(ex:Ex) (i n:Nat) (p:Option Addr) (c d:Nat),y= .ok (ex,all.drop i,n)/\x=exV ex (.slice p ex.kids.length c)/\dy B d W (.slice p ex.kids.length c) ex.kids/\PSt all E g v W i n/\n<=600
theorem jw.two {B:Nat->Prop}{y:Res}{e:Ending}{w':World}(h:jw all E g v w B y e w'):bo g w w'/\((∃er at_,y= .error (er,at_)/\e= .panicked (jj er at_))\/ ∃x,e= .returned x/\yB all E g v B w' y x):=by
 cases y with
 |error q=>exact⟨h.2,.inl ⟨_,_,rfl,h.1⟩⟩
 |ok q=>
  obtain⟨i,sl,d,b,e2,a,f,j,k⟩:=h;obtain⟨p,c,rfl⟩:=a.form;exact⟨k,.inr ⟨_,e2,q.1,i,q.2.2,p,c,d,by rw[<-b],rfl,a,f,j⟩⟩
theorem Jn {p:Prop}(h:p):PN p:=h
theorem ry (y:Res)(f k:Ex->List Tk->Nat->Res):dm y (fun t r n=>dm (f t r n) k)=dm (dm y f) k:=by cases y<;>rfl
theorem Jo {y:Res}{kd:Int}{e ex:Ex}{r:List Tk}(h:dm y (fun t r n=>dE E ⟨kd,0,0,[],[e,t]⟩ r n)= .ok (ex,r,n)): ∃b a,y= .ok (b,r,a):=by
 cases y with
 |error q=>cases h
 |ok q=>
  unfold dm dE at h;dsimp only at h;split at h<;>cases h;exact⟨_,_,rfl⟩
theorem rz {y z X:Res}{kd:Int}{e:Ex}{k:Ex->List Tk->Nat->Res}(a:dm y (fun t r n=>dE E ⟨kd,0,0,[],[e,t]⟩ r n)=z)(b:dm z k=X):(∀q,y= .error q->X= .error q)/\(∀t r n,y= .ok (t,r,n)->dE E ⟨kd,0,0,[],[e,t]⟩ r n=z)/\ ∀ex r n,z= .ok (ex,r,n)-> ∃d c,y= .ok (d,r,c):=
 ⟨fun q h=>by rw[<-b,<-a,h];rfl,fun t r n h=>by rw[<-a,h];rfl,fun ex r n h=>Jo (a.trans h)⟩
structure PJ (all:List Tk)(E g:Nat)(v:Value)(w w3:World)(b j m:Nat)(y z:Res)(s t:Nat)(M:Nat->Bool)(φ:Nat->Value)(W:World):Prop where
 kp:M 6=false->bo g w3 W
 a:M 4=false->PSt all E g v W (j+1) m
 f:M 4=true->M 5=false->yB all E g v (fun k=>w.heap.size+1<=k/\k≠b) W y (φ s)
 c:M 5=true->M 6=false->yB all E g v (fun k=>w.heap.size+1<=k/\k≠b) W z (φ t)
 d:M 6=true-> ∃ex i n,z= .ok (ex,all.drop i,n)/\rx w W b ex/\PSt all E g v W i n/\n<=600/\bo g w W/\W.heap[w.heap.size]? =ah se 102
theorem yB.below {B:Nat->Prop}{W a:World}{y:Res}{x:Value}(h:yB all E g v B W y x)(e:PS0 all E g v)(q: ∀k,B k->k≠g)(b:aq W a):yB all E g v B a y x:=by
 obtain⟨ex,i,n,p,c,d,f,j,l,m,o⟩:=h;exact⟨ex,i,n,p,c,d,f,j,(bo.of_below (g:=g) b).kids q l,m.below b e,o⟩
theorem PJ.below {u W r:World}{b j m s t:Nat}{y z:Res}{M:Nat->Bool}{φ:Nat->Value}(h:PJ all E g v w u b j m y z s t M φ W)(o:PS0 all E g v)(G:g<w.heap.size)(q:b≠g)(l:aq W r):PJ all E g v w u b j m y z s t M φ r:=by
 have e:=bo.of_below (g:=g) l;refine⟨fun c=>(h.kp c).trans e,fun c=>(h.a c).below l o,fun c p=>(h.f c p).below o (fun k e=>by omega) l,fun c p=>(h.c c p).below o (fun k e=>by omega) l,fun c=> ?_⟩;obtain⟨ex,i,n,x,A,B,C,D,F⟩:=h.d c;exact⟨ex,i,n,x,A.kept e q G,B.below l o,C,D.trans e,e.at F (by omega)⟩
theorem GA (J:PS0 all E g v)(a8:RC all E g v 174 4 i)(L: ∀j,i<j->RC all E g v 174 4 j):RC all E g v 141 2 i:=by
 intro w n d h aN Q;have Z:=aH h.blk;have al:aq w (w.alloc (.cells #[ag 0,ag 0,ag 0,.string ⟨#[]⟩,af] 102)):=am _ _;have hz:=mz w;have a9:=h.below al J;have ar:=bo.of_below (g:=g) al;have aZ:(w.alloc (.cells #[ag 0,ag 0,ag 0,.string ⟨#[]⟩,af] 102)).heap.size=w.heap.size+1:=by simp
 generalize bh:w.alloc (.cells #[ag 0,ag 0,ag 0,.string ⟨#[]⟩,af] 102)=w0 at*;have c1:=a8 w0 n d a9 aN Q;generalize A:rd E 2 d ex0 (all.drop i) n=X;rw[Pe]at A;go_enter func141,ntmps141;go_wp2_with fail;refine c1.mono ?_;intro e w1 ho;cases hx:rd E 4 d ex0 (all.drop i) n with
 |error q=>
  obtain⟨er,at_⟩:=q;rw[hx]at ho A;obtain⟨rfl,C⟩:=ho;refine⟨rfl,?_⟩;rw[<-A];exact⟨rfl,ar.trans C⟩
 |ok q=>
  obtain⟨e0,bi,n0⟩:=q;have ac:=lM (by omega) hx;rw[hx]at ho A;obtain⟨i1,sl,dd,aO,rfl,av,h1,aG,C⟩:=ho;subst aO;obtain⟨p1,I,rfl⟩:=av.form;have aC:rd E 3 d e0 (all.drop i1) n0=X:=A
  have ap:i<i1:=by
   have e1:gd 4=1:=rfl;simp only[fo]at ac;have:=h1.le;omega
  have bf:=C.size;have aU:=C.at hz (by omega);have N:aq w1 (w1.alloc (.cells #[ag e0.kind,ag e0.a,ag e0.b,.string ⟨e0.name.toArray⟩,.slice p1 e0.kids.length I] 102)):=am _ _;have h2:=h1.below N J;have aW:=ai N aU;have a2:=(ar.trans C).trans (bo.of_below N)
  have a4:rx w (w1.alloc (.cells #[ag e0.kind,ag e0.a,ag e0.b,.string ⟨e0.name.toArray⟩,.slice p1 e0.kids.length I] 102)) w1.heap.size e0:=
   ⟨p1,I,dd,aE w1 _,(bo.of_below (g:=g) N).kids (fun k hk=>by omega) (av.lt.mono fun k hk=>by omega)⟩
  unfold exV;have a6:PN (rd E 3 d e0 (all.drop i1) n0=X):=aC;generalize bg:w1.alloc (.cells #[ag e0.kind,ag e0.a,ag e0.b,.string ⟨e0.name.toArray⟩,.slice p1 e0.kids.length I] 102)=w2 at*;go_wp2_with fail;obtain⟨b5,an⟩:=au w1.heap.size;rw[an]at a4;simp only[an];have aY:w.heap.size+1<=b5:=(by omega);go_loopw [9] (fun _ wr=> ∃(e:Ex) (j m:Nat),rd E 3 d e (all.drop j) m=X/\rx w wr b5 e/\PSt all E g v wr j m/\m<=600/\bo g w wr/\wr.heap[w.heap.size]? =ah se 102/\i<j) (fun _ wr=>all.length-oO g wr);case atStart=>exact⟨e0,i1,n0,a6.o,a4,h2,aG,a2,aW,ap⟩
  case round=>
   obtain⟨e,j,m,Y,hv,ad,a3,aw,a5,bb⟩:=hrel;have hp:=ad.pos;by_cases hs:isT tm (all.drop j)=true
   ·have bc:=og (by decide) hs;have c2:=fun(W:World) (V:PSt all E g v W j m)=>fU J V tm (by decide) hs;obtain⟨y,HY⟩: ∃y,PN (rd E 4 d ex0 (all.drop (j+1)) m=y):=⟨_,rfl⟩
    obtain⟨z,HZ⟩: ∃z,PN (dm y (fun t r n=>dE E ⟨8,0,0,[],[e,t]⟩ r n)=z):=⟨_,rfl⟩
    have S:PN (dm z (fun e r n=>rd E 3 d e r n)=X):=by
     show _=_;rw[<-Y,M6,aD hs,fA,HY.o,ry,HZ.o]
    go_wp2_with fail;refine(c2 _ ad).mono ?_;rintro e' w3 ⟨rfl,h3,s⟩;have ae:=hv.kept s (by omega) Z;obtain⟨pv,cv,dv,B,az⟩:=ae.ex;have H:=s.at a5 (by omega);have G:=aw.trans s;have bd:=aH B;have be:=aH H;go_wp2_with fail;have cF:=fun(W:World) (V:PSt all E g v W (j+1) m)=>L (j+1) (by omega) W m d V a3 Q;simp only[HY.o]at cF;have ak: ∀k,(w.heap.size+1<=k/\k≠b5)->k≠g:=fun k hk=>(by omega);have HB:=Jn (rz HZ.o S.o);refine mn (fun ex W=> ∃er at_,ex= .panic (jj er at_)/\X= .error (er,at_)/\bo g w W) (fun ex a W hd ⟨er,at_,h1,h2,h3⟩=>by subst h1;refine⟨hd,?_⟩;rw[h2];exact⟨rfl,h3⟩) (PJ all E g v w w3 b5 j m y z 15 16) [kn 11 (ab g 0),kn 12 (exV e (.slice pv e.kids.length cv)),kn 13 (ab g 0),kn 14 (ag (d:Int)),td 15,td 16,nk] (fun _=>⟨fun _=>bo.of_below (aI _ _).drew,fun _=>h3.below (aI _ _).drew J,(fun h=>by cases h),(fun h=>by cases h),(fun h=>by cases h)⟩) (fun _ M φ W W' _ hb u=>u.below J Z (by omega) hb) (by kernel_rfl) (fun _ M φ W _ u ao F l hl L=> ?_) (fun M φ W hM u=> ?_)
    ·simp only[kn,td,nk,dW,aQ,aX,Act.put,aA,aK,aJ]at hl;subst hl;simp only[cZ,Nat.reduceAdd]at L
     have U:M 5=false->M 6=false:=fun T=>by
      cases h:M 6 with
      |false=>rfl
      |true=>rw[ao 6 _ rfl h ⟨5,.data⟩ (by simp) rfl rfl]at T;cases T
     dsimp only[kn,td,nk,dB,eN,eg,Act.put];and_intros;all_goals first|exact trivial|intro hw hn hm K hK
     all_goals try (go_simp;with_reducible exact hK _ _ ⟨rfl,aI _ _⟩)
     ·have O:=(u.kp (U (hn 5 _ rfl (by kernel_rfl)))).at B (by omega);refine dU 102 _ rfl _ (by simp[Act.eval,L]) _ _ _ _ O fd rfl (by kernel_rfl) ?_;exact hK _ _ ⟨rfl,aI _ _⟩
     ·have l5:=hn 5 _ rfl (by kernel_rfl);have l6:=U l5;have p:=u.kp l6;have V:=u.a hm;have aS:=p.size;go_simp;refine(cF W V).mono ?_;intro e' W' P;obtain⟨D,⟨er,at_,hy,rfl⟩|⟨x,rfl,hx⟩⟩:=P.two
      ·exact⟨er,at_,rfl,HB.o.1 _ hy,(G.trans p).trans D⟩
      ·obtain⟨ex,i4,n4,p4,c4,d4,r1,r2,r3,r4⟩:=hx;refine hK _ _ ⟨trivial,fun _=>p.trans D,(fun h=>by simp at h),fun _ _=>⟨ex,i4,n4,p4,c4,d4,r1,(dF ..).trans r2,r3.mono fun k hk=>by omega,r4⟩,(fun h=>by simp[l5]at h),(fun h=>by simp[l6]at h)⟩
     ·have l6:=U hm;have p:=u.kp l6;have l4:=hw ⟨4,.data⟩ (by simp) rfl rfl;obtain⟨tx,i4,n4,p4,c4,d4,r1,r2,r3,r4,r5⟩:=u.f l4 hm;rw[r2]at L;have a0:=p.kids ak az;have aS:=p.size;go_simp;refine(Bh J r4 r5 (fun k=>w.heap.size+1<=k/\k≠b5) ak (fun k hk=>by constructor<;>omega) _ e tx _ _ dv d4 a0 r3).mono ?_;intro e' W' P;rw[HB.o.2.1 _ _ _ r1]at P;obtain⟨D,⟨er,at_,hy,rfl⟩|⟨x,rfl,hx⟩⟩:=P.two
      ·exact⟨er,at_,rfl,by rw[<-S.o,hy];rfl,(G.trans p).trans D⟩
      ·obtain⟨ex,i5,n5,p5,c5,d5,I,q2,q3,q4⟩:=hx;refine hK _ _ ⟨trivial,fun _=>p.trans D,(fun h=>by simp[l4]at h),(fun _ h=>by simp at h),fun _ _=>⟨ex,i5,n5,p5,c5,d5,I,(dF ..).trans q2,q3,q4⟩,(fun h=>by simp[l6]at h)⟩
     ·have l5:=hw ⟨5,.data⟩ (by simp) rfl rfl;have l4:M 4=true:=ao 5 _ rfl l5 ⟨4,.data⟩ (by simp) rfl rfl;have p:=u.kp hm;obtain⟨ex,i5,n5,p5,c5,d5,I,q2,q3,q4,q5⟩:=u.c l5 hm;have O:=p.at B (by omega);have aj:=p.at H (by omega);have aa:=G.trans p;rw[q2]at L;unfold exV at L;refine eG 102 _ _ rfl _ #[ag ex.kind,ag ex.a,ag ex.b,.string ⟨ex.name.toArray⟩,.slice p5 ex.kids.length c5] (by simp[Act.eval,L]) (by simp[Act.eval,L]) _ _ O (by kernel_rfl) (by rfl) (by simp[Value.oneCell']) ?_;have R:=fun c=>aa.setRow (k:=b5) (by omega) c;exact hK undef _ ⟨trivial,(fun h=>by simp at h),(fun h=>by simp[l4]at h),(fun _ h=>by simp[l5]at h),(fun _ h=>by simp at h),fun _=>⟨ex,i5,n5,I,⟨p5,c5,d5,aL _ _ _ _ _ _ O,q3.kept fun k hB _=>aV _ _ _ _ hB.2⟩,h.of_kept J (R _) ((aV _ _ _ _ (by omega)).trans q4.blk) q4.le,q5,R _,(aV _ _ _ _ (by omega)).trans aj⟩⟩
    ·obtain⟨ex,i5,n5,I,aT,T,aM,aa,aj⟩:=u.d (hM 6 (by decide) rfl);have HN:PN (rd E 3 d ex (all.drop i5) n5=X):=(by show _=_;rw[<-S.o,I];rfl)
     have ba:j<i5:=by
      obtain⟨tx,n1,hy⟩:=HB.o.2.2 _ _ _ I;have hl:=lM (by omega) (HY.o.trans hy);have e1:gd 4=1:=rfl;simp only[fo]at hl;have:=T.le;omega
     simp only[kn,td,nk,eh,aQ,aX,Act.put,aA,aK,aJ];go_wp2_with fail;go_roundw
     case rel=>
      refine⟨ex,i5,n5,HN.o,aT,T,aM,aa,aj,by omega⟩
     case measure=>
      try rw[hp]
      have:=T.pos;have:=T.le;show all.length-oO g _<_;omega
   ·have aP:isT tm (all.drop j)=false:=(by simpa using hs);have c2:=fun(W:World) (V:PSt all E g v W j m)=>ew J V tm aP;rw[M6,ax hs]at Y;have a7:PN (.ok (e,all.drop j,m)=X):=Y;go_wp2_with fail;refine(c2 _ ad).mono ?_;rintro e' w3 ⟨rfl,h3,s⟩;have ae:=hv.kept s (by omega) Z;obtain⟨pv,cv,dv,B,aF⟩:=ae.ex;have H:=s.at a5 (by omega);have a1:=aw.trans s
    have HO:PN (∀cs,jw all E g v w (fun k=>w.heap.size<=k) X (.returned (exV e (.slice pv e.kids.length cv))) (w3.setRow w.heap.size cs)):=fun cs=>by
     rw[<-a7.o];exact⟨j,_,dv,rfl,rfl,(aF.kept fun k hk _=>aV _ _ _ _ (by omega)).mono fun k hk=>by omega,h.of_kept J (a1.setRow (aB _) cs) ((aV _ _ _ _ (by omega)).trans h3.blk) h3.le,a3,a1.setRow (aB _) cs⟩
    unfold exV at HO
    go_wp2_with(first
     |(refine aR rfl 102 _ rfl _ rfl _ _ _ _ B fd rfl (by kernel_rfl) ?_)
     |(refine ay rfl 102 _ _ rfl _ _ rfl rfl _ _ H (by kernel_rfl) (by rfl) (by simp[Value.oneCell']) ?_))
    exact jI 4 (by kernel_rfl) w.heap.size _ _ _ _ _ rfl rfl (aL _ _ _ _ _ _ H) (HO.o _)
end
end Go.Proofs.YtaoljfdfhggbbaaGreatDoor
