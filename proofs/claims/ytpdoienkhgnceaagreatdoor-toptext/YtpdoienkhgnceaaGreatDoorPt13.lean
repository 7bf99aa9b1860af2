/- Texts of the proof. -/
import Derived.Test.YtpdoienkhgnceaaGreatDoorPt12
set_option maxRecDepth 100000
set_option maxHeartbeats 8000000
namespace Go.Proofs.YtpdoienkhgnceaaGreatDoor
open Go.Proofs.Tryz Go.RowKit Lx Vx Mx Msk
section
variable {all:List Tk} {E g:Nat} {v:Value} {w:World} {i n:Nat}
theorem H3 (f:PS0 all E g v)(hS: ∀j,i<j->RC all E g v 77 0 j)(hF: ∀j,i<j->RC all E g v 173 4 j):RC all E g v 201 6 i:=by
 intro w n d h I a6;have aD:=aH h.blk;have ak:ao w (w.alloc (.cells #[ag 0,ag 0,ag 0,.string ⟨#[]⟩,af] 78)):=am _ _;have hz:=nz w;have D:=h.below ak f;have F:=bp.of_below (g:=g) ak;generalize aI:w.alloc (.cells #[ag 0,ag 0,ag 0,.string ⟨#[]⟩,af] 78)=w0 at*;have J:=bp.refl g w0;by_cases aj:40<d
 ·have a5:(40:Int)<(d:Int):=by omega
  rw[rt,ax aj];go_enter func201,ntmps201;go_wp2_with fail;refine(lK f D 4).mono ?_;rintro e w1 ⟨rfl,av⟩;exact⟨rfl,rfl,F.trans (bp.of_below av)⟩
 have hd:d<=40:=by omega
 have a7: ¬(40:Int)<(d:Int):=by omega
 have a8:(d:Int)<=40:=by omega
 have a9:(0:Int)<=(d:Int):=by omega
 generalize au:rd E 6 d ex0 (all.drop i) n=X;have A:_:=au;rw[rt,aw aj]at A;simp only[fD]at A;by_cases t0:isT g7 (all.drop i)=true
 ·rw[ax t0]at A;have L:T4 (dg (rd E 0 (d+1) ex0 (all.drop (i+1)) n) (fun e r n=>if isT pR r then .ok (e,r.tail,n) else dN E 2 r)=X):=A;go_enter func201,ntmps201;go_wp2_with fail;refine(gh f D g7 (by decide) t0).mono ?_;rintro e U ⟨rfl,x,c⟩;have l:=J.trans c;have m:=l.at hz (by omega);have s:=F.trans l;have R:=aH m;have z:Calls prog 77 #[ab g 0,ag ((d:Int)+1)] U (jA all E g v U (fun k=>U.heap.size<=k) (rd E 0 (d+1) ex0 (all.drop (i+1)) n)):=hS (i+1) (by omega) U n (d+1) x I (by omega);have P:=L.o;go_wp2_with fail;refine z.mono ?_;intro e W G;cases hx:rd E 0 (d+1) ex0 (all.drop (i+1)) n with
  |error q=>
   obtain⟨er,at_⟩:=q;rw[hx]at G P;obtain⟨rfl,a0⟩:=G;refine⟨rfl,?_⟩;rw[<-P];exact⟨rfl,s.trans a0⟩
  |ok q=>
   obtain⟨ex,rr,nn⟩:=q;rw[hx]at G P;obtain⟨i',sl,dd,a4,rfl,al,h2,a2,ae⟩:=G;subst a4;obtain⟨p5,c5,rfl⟩:=al.form;have aJ:=ae.at m (by omega);have aF:=ae.size;have ad:ao W (W.alloc (.cells #[ag ex.kind,ag ex.a,ag ex.b,.string ⟨ex.name.toArray⟩,.slice p5 ex.kids.length c5] 78)):=am _ _;have h3:=h2.below ad f;have ah:=ae.trans (bp.of_below ad);have ay:=aB W (.cells #[ag ex.kind,ag ex.a,ag ex.b,.string ⟨ex.name.toArray⟩,.slice p5 ex.kids.length c5] 78);have an:dr (fun k=>w.heap.size+1<=k) dd (W.alloc (.cells #[ag ex.kind,ag ex.a,ag ex.b,.string ⟨ex.name.toArray⟩,.slice p5 ex.kids.length c5] 78)) (.slice p5 ex.kids.length c5) ex.kids:=(bp.of_below (g:=g) ad).kids (fun k V=>by omega) (al.mono fun k V=>by omega);unfold exV;generalize aG:W.alloc (.cells #[ag ex.kind,ag ex.a,ag ex.b,.string ⟨ex.name.toArray⟩,.slice p5 ex.kids.length c5] 78)=w3 at*;by_cases hm:isT pR (all.drop i')=true
   ·have aa:=pm f h3 pR (by decide) hm
    have Z:T4 (X= .ok (ex,all.drop (i'+1),nn)):=by
     show _=_;rw[<-P,<-fD];show(if isT pR (all.drop i') then _ else _)=_;rw[ax hm]
    go_wp2_with fail;refine aa.mono ?_;rintro e Y ⟨rfl,h4,M⟩;have az:=M.at ay (by omega);have ar:=(ah.trans M).at m (by omega);have aq:=(s.trans ah).trans M;have ap:=M.kids (fun k V=>by omega) an
    have HO:T4 (∀cs,jA all E g v w (fun k=>w.heap.size<=k) X (.returned (exV ex (.slice p5 ex.kids.length c5))) (Y.setRow w.heap.size cs)):=fun cs=>by
     rw[Z.o];exact⟨i'+1,_,dd,rfl,rfl,(ap.kept fun k V _=>aQ _ _ _ _ (by omega)).mono fun k V=>by omega,h.of_kept f (aq.setRow (aA _) cs) ((aQ _ _ _ _ (by omega)).trans h4.blk) h4.le,a2,aq.setRow (aA _) cs⟩
    unfold exV at HO
    go_wp2_with(first
     |(refine aO rfl 78 _ rfl _ rfl _ _ _ _ az d9 rfl (by kernel_rfl) ?_)
     |(refine aC rfl 78 _ _ rfl _ _ rfl rfl _ _ ar (by kernel_rfl) (by rfl) (by simp[Value.oneCell']) ?_))
    exact jT 4 (by kernel_rfl) w.heap.size _ _ _ _ _ rfl rfl (aK _ _ _ _ _ _ ar) (HO.o _)
   ·have a1:isT pR (all.drop i')=false:=(by simpa using hm);have aa:=qU f h3 pR a1
    have Z:T4 (X=dN E 2 (all.drop i')):=by
     show _=_;rw[<-P];show(if isT pR (all.drop i') then _ else _)=_;rw[aw hm]
    go_wp2_with fail;refine aa.mono ?_;rintro e Y ⟨rfl,M⟩;refine⟨rfl,?_⟩;rw[Z.o];exact⟨rfl,(s.trans ah).trans M⟩
 have f0:isT g7 (all.drop i)=false:=by simpa using t0
 rw[aw t0]at A;by_cases t1:isT fw (all.drop i)=true
 ·rw[ax t1]at A;have L:T4 (dp E ⟨1,0,0,[],[]⟩ (all.drop (i+1)) n=X):=A;go_enter func201,ntmps201;go_wp2_with fail;refine(dY f D g7 f0).mono ?_;rintro e w1 ⟨rfl,u,c⟩;have y:=J.trans c;go_wp2_with fail;refine(gh f u fw (by decide) t1).mono ?_;rintro e U ⟨rfl,x,c⟩;have l:=y.trans c;have m:=l.at hz (by omega);have s:=F.trans l;have R:=aH m;have z:=kP f x I (fun k=>w.heap.size+1<=k) (fun k V=>by omega) ⟨1,0,0,[],[]⟩ (af) 0 (dr.nil _ _ _ _ _);unfold exV at z;rw[show dp E ⟨1,0,0,[],[]⟩ (all.drop (i+1)) n=X from L.o]at z;go_wp2_with fail;refine z.mono ?_;intro e w5 G;rcases j4 h f s m G with⟨ch,rfl,t⟩|⟨a',b',c',x',p',q',r',rfl,p,t⟩
  ·exact⟨rfl,t⟩
  ·go_wp2_with(refine aC rfl 78 _ _ rfl _ _ rfl rfl _ _ p (by kernel_rfl) (by rfl) (by simp[Value.oneCell']) ?_)
   exact jT 4 (by kernel_rfl) w.heap.size _ _ _ _ _ rfl rfl (aK _ _ _ _ _ _ p) (t _)
 have f1:isT fw (all.drop i)=false:=by simpa using t1
 rw[aw t1]at A;by_cases t2:isT eW (all.drop i)=true
 ·rw[ax t2]at A;have L:T4 (dp E ⟨2,0,0,[],[]⟩ (all.drop (i+1)) n=X):=A;go_enter func201,ntmps201;go_wp2_with fail;refine(dY f D g7 f0).mono ?_;rintro e w1 ⟨rfl,u,c⟩;have y:=J.trans c;go_wp2_with fail;refine(dY f u fw f1).mono ?_;rintro e W ⟨rfl,B,c⟩;have C:=y.trans c;go_wp2_with fail;refine(gh f B eW (by decide) t2).mono ?_;rintro e U ⟨rfl,x,c⟩;have l:=C.trans c;have m:=l.at hz (by omega);have s:=F.trans l;have R:=aH m;have z:=kP f x I (fun k=>w.heap.size+1<=k) (fun k V=>by omega) ⟨2,0,0,[],[]⟩ (af) 0 (dr.nil _ _ _ _ _);unfold exV at z;rw[show dp E ⟨2,0,0,[],[]⟩ (all.drop (i+1)) n=X from L.o]at z;go_wp2_with fail;refine z.mono ?_;intro e w5 G;rcases j4 h f s m G with⟨ch,rfl,t⟩|⟨a',b',c',x',p',q',r',rfl,p,t⟩
  ·exact⟨rfl,t⟩
  ·go_wp2_with(refine aC rfl 78 _ _ rfl _ _ rfl rfl _ _ p (by kernel_rfl) (by rfl) (by simp[Value.oneCell']) ?_)
   exact jT 4 (by kernel_rfl) w.heap.size _ _ _ _ _ rfl rfl (aK _ _ _ _ _ _ p) (t _)
 have f2:isT eW (all.drop i)=false:=by simpa using t2
 rw[aw t2]at A;by_cases t3:isT eX (all.drop i)=true
 ·rw[ax t3]at A;have L:T4 (rd E 7 d ex0 (all.drop (i+1)) n=X):=A;go_enter func201,ntmps201;go_wp2_with fail;refine(dY f D g7 f0).mono ?_;rintro e w1 ⟨rfl,u,c⟩;have y:=J.trans c;go_wp2_with fail;refine(dY f u fw f1).mono ?_;rintro e W ⟨rfl,B,c⟩;have C:=y.trans c;go_wp2_with fail;refine(dY f B eW f2).mono ?_;rintro e w3 ⟨rfl,H,c⟩;have K:=C.trans c;go_wp2_with fail;refine(gh f H eX (by decide) t3).mono ?_;rintro e U ⟨rfl,x,c⟩;have l:=K.trans c;have m:=l.at hz (by omega);have s:=F.trans l;have R:=aH m;have z:=Hz f x I d hd (fun j hj=>hF j (by omega));rw[show rd E 7 d ex0 (all.drop (i+1)) n=X from L.o]at z;go_wp2_with fail;refine z.mono ?_;intro e Y S;have G:=jA.weak (B':=fun k=>w.heap.size+1<=k) (bp.refl g U) (fun k V=>by omega) S;rcases j4 h f s m G with⟨ch,rfl,t⟩|⟨a',b',c',x',p',q',r',rfl,p,t⟩
  ·exact⟨rfl,t⟩
  ·go_wp2_with(refine aC rfl 78 _ _ rfl _ _ rfl rfl _ _ p (by kernel_rfl) (by rfl) (by simp[Value.oneCell']) ?_)
   exact jT 4 (by kernel_rfl) w.heap.size _ _ _ _ _ rfl rfl (aK _ _ _ _ _ _ p) (t _)
 have f3:isT eX (all.drop i)=false:=by simpa using t3
 rw[aw t3]at A;by_cases t4:isT fG (all.drop i)=true
 ·rw[ax t4]at A
  have L:T4 (uN E d (all.drop (i+1)) n=X):=by
   show _=_;rw[<-A];unfold uN;simp only[fD]
  go_enter func201,ntmps201;go_wp2_with fail;refine(dY f D g7 f0).mono ?_;rintro e w1 ⟨rfl,u,c⟩;have y:=J.trans c;go_wp2_with fail;refine(dY f u fw f1).mono ?_;rintro e W ⟨rfl,B,c⟩;have C:=y.trans c;go_wp2_with fail;refine(dY f B eW f2).mono ?_;rintro e w3 ⟨rfl,H,c⟩;have K:=C.trans c;go_wp2_with fail;refine(dY f H eX f3).mono ?_;rintro e Y ⟨rfl,N,c⟩;have T:=K.trans c;go_wp2_with fail;refine(gh f N fG (by decide) t4).mono ?_;rintro e U ⟨rfl,x,c⟩;have l:=T.trans c;have m:=l.at hz (by omega);have s:=F.trans l;have R:=aH m;have z:=J2 f x I d hd (fun j hj=>hF j (by omega));rw[show uN E d (all.drop (i+1)) n=X from L.o]at z;go_wp2_with fail;refine z.mono ?_;intro e Y S;have G:=jA.weak (B':=fun k=>w.heap.size+1<=k) (bp.refl g U) (fun k V=>by omega) S;rcases j4 h f s m G with⟨ch,rfl,t⟩|⟨a',b',c',x',p',q',r',rfl,p,t⟩
  ·exact⟨rfl,t⟩
  ·go_wp2_with(refine aC rfl 78 _ _ rfl _ _ rfl rfl _ _ p (by kernel_rfl) (by rfl) (by simp[Value.oneCell']) ?_)
   exact jT 4 (by kernel_rfl) w.heap.size _ _ _ _ _ rfl rfl (aK _ _ _ _ _ _ p) (t _)
 have f4:isT fG (all.drop i)=false:=by simpa using t4
 rw[aw t4]at A;by_cases t5:kindP (all.drop i)=1
 ·rw[ax t5]at A;have L:T4 (dp E ⟨10,0,0,textP (all.drop i),[]⟩ (all.drop (i+1)) n=X):=A;go_enter func201,ntmps201;go_wp2_with fail;refine(dY f D g7 f0).mono ?_;rintro e w1 ⟨rfl,u,c⟩;have y:=J.trans c;go_wp2_with fail;refine(dY f u fw f1).mono ?_;rintro e W ⟨rfl,B,c⟩;have C:=y.trans c;go_wp2_with fail;refine(dY f B eW f2).mono ?_;rintro e w3 ⟨rfl,H,c⟩;have K:=C.trans c;go_wp2_with fail;refine(dY f H eX f3).mono ?_;rintro e Y ⟨rfl,N,c⟩;have T:=K.trans c;go_wp2_with fail;refine(dY f N fG f4).mono ?_;rintro e w5 ⟨rfl,O,c⟩;have ai:=T.trans c;have cm:=oe f O;unfold kG at cm;rw[t5]at cm;go_wp2_with fail;refine cm.mono ?_;rintro e w6 ⟨rfl,Q⟩;have ac:=O.below Q f;have a3:=ai.trans (bp.of_below Q);have ct:=ru f ac 1 (by decide) t5;unfold kG at ct;go_wp2_with fail;refine ct.mono ?_;rintro e U ⟨rfl,x,c⟩;have l:=a3.trans c;have m:=l.at hz (by omega);have s:=F.trans l;have z:=kP f x I (fun k=>w.heap.size+1<=k) (fun k V=>by omega) ⟨10,0,0,textP (all.drop i),[]⟩ (af) 0 (dr.nil _ _ _ _ _);unfold exV at z;rw[show dp E ⟨10,0,0,textP (all.drop i),[]⟩ (all.drop (i+1)) n=X from L.o]at z;go_wp2_with fail;refine z.mono ?_;intro e w5 G;rcases j4 h f s m G with⟨ch,rfl,t⟩|⟨a',b',c',x',p',q',r',rfl,p,t⟩
  ·exact⟨rfl,t⟩
  ·go_wp2_with(refine aC rfl 78 _ _ rfl _ _ rfl rfl _ _ p (by kernel_rfl) (by rfl) (by simp[Value.oneCell']) ?_)
   exact jT 4 (by kernel_rfl) w.heap.size _ _ _ _ _ rfl rfl (aK _ _ _ _ _ _ p) (t _)
 ·rw[aw t5]at A
  have L:T4 (yV E (all.drop i) n=X):=by
   show _=_;rw[<-A];unfold yV;simp only[fD]
  go_enter func201,ntmps201;go_wp2_with fail;refine(dY f D g7 f0).mono ?_;rintro e w1 ⟨rfl,u,c⟩;have y:=J.trans c;go_wp2_with fail;refine(dY f u fw f1).mono ?_;rintro e W ⟨rfl,B,c⟩;have C:=y.trans c;go_wp2_with fail;refine(dY f B eW f2).mono ?_;rintro e w3 ⟨rfl,H,c⟩;have K:=C.trans c;go_wp2_with fail;refine(dY f H eX f3).mono ?_;rintro e Y ⟨rfl,N,c⟩;have T:=K.trans c;go_wp2_with fail;refine(dY f N fG f4).mono ?_;rintro e w5 ⟨rfl,O,c⟩;have ai:=T.trans c;have cm:=oe f O;unfold kG at cm;have aE:(kindP (all.drop i)==1)=false:=(by simpa using t5);generalize kindP (all.drop i)=aL at*;go_wp2_with fail;refine cm.mono ?_;rintro e w6 ⟨rfl,Q⟩;have ac:=O.below Q f;have l:=ai.trans (bp.of_below Q);have m:=l.at hz (by omega);have s:=F.trans l;have R:=aH m;have z:=MF f ac I;rw[show yV E (all.drop i) n=X from L.o]at z;go_wp2_with fail;refine z.mono ?_;intro e Y S;have G:=jA.weak (B':=fun k=>w.heap.size+1<=k) (bp.refl g w6) (fun k V=>by omega) S;rcases j4 h f s m G with⟨ch,rfl,t⟩|⟨a',b',c',x',p',q',r',rfl,p,t⟩
  ·exact⟨rfl,t⟩
  ·go_wp2_with(refine aC rfl 78 _ _ rfl _ _ rfl rfl _ _ p (by kernel_rfl) (by rfl) (by simp[Value.oneCell']) ?_)
   exact jT 4 (by kernel_rfl) w.heap.size _ _ _ _ _ rfl rfl (aK _ _ _ _ _ _ p) (t _)
end
section
variable {all:List Tk} {E g:Nat} {v:Value} {w:World} {i n:Nat}
def pT (g:Nat)(w:World):Nat:=match w.heap[g]? with
 |some (.cells a _ _)=>(intOf (a.getD 1 undef)).toNat
 |_=>0
theorem PSt.pos (h:PSt all E g v w i n):pT g w=i:=by
 unfold pT;rw[h.blk];simp[intOf]
theorem Dn (j:Nat):eQ (all.drop j)=all.drop (pt all (j+1)):=by
 unfold eQ pt;rw[fD];split
 ·rw[fD]
 ·rfl
def tL (E d:Nat)(all:List Tk)(e:Ex)(n:Nat):Except (Int×Nat) (Int×Nat)->Res
 | .error q=> .error q
 | .ok (m,j)=>dg (dp E ⟨9,m,0,[],[e]⟩ (all.drop j) n) fun e r n=>rd E 5 d e r n
theorem J5 (d:Nat)(e:Ex)(j n:Nat)(h:isT fY (all.drop j)=true):rd E 5 d e (all.drop j) n=tL E d all e n (pZ all E (j+1)):=by
 rw[Hh,ax h,Dn,fD];unfold pZ;split
 ·rfl
 split
 ·rfl
 ·unfold tL;rw[fD]
theorem QY (d:Nat)(e:Ex)(j n:Nat)(h:isT fY (all.drop j)=false):rd E 5 d e (all.drop j) n= .ok (e,all.drop j,n):=by
 rw[Hh,aw (by simp[h])]
structure sO (w0 w:World)(b:Nat)(e:Ex):Prop where
 ex: ∃(p:Option Addr) (c d:Nat),w.heap[b]? =ah #[ag e.kind,ag e.a,ag e.b,.string ⟨e.name.toArray⟩,.slice p e.kids.length c] 78/\dr (fun k=>w0.heap.size+1<=k/\k≠b) d w (.slice p e.kids.length c) e.kids
theorem sO.kept {f w w':World}{b:Nat}{e:Ex}(h:sO f w b e)(a:bp g w w')(l:b≠g)(m:g<f.heap.size):sO f w' b e:=by
 obtain⟨p,c,d,i,j⟩:=h.ex;exact⟨p,c,d,a.at i l,a.kids (fun k a=>by omega) j⟩
theorem Fa (G:PS0 all E g v)(hT:RC all E g v 201 6 i):RC all E g v 173 4 i:=by
 intro w n d h az V;have Y:=aH h.blk;have U:ao w (w.alloc (.cells #[ag 0,ag 0,ag 0,.string ⟨#[]⟩,af] 78)):=am _ _;have hz:=nz w;have aq:=h.below U G;have Z:=bp.of_below (g:=g) U;have a8:(w.alloc (.cells #[ag 0,ag 0,ag 0,.string ⟨#[]⟩,af] 78)).heap.size=w.heap.size+1:=by simp
 generalize aM:w.alloc (.cells #[ag 0,ag 0,ag 0,.string ⟨#[]⟩,af] 78)=w0 at*;have c1:=hT w0 n d aq az V;generalize y:rd E 4 d ex0 (all.drop i) n=X;rw[AN]at y;go_enter func173,ntmps173;go_wp2_with fail;refine c1.mono ?_;intro e l s;cases hx:rd E 6 d ex0 (all.drop i) n with
 |error q=>
  obtain⟨er,at_⟩:=q;rw[hx]at s y;obtain⟨rfl,A⟩:=s;refine⟨rfl,?_⟩;rw[<-y];exact⟨rfl,Z.trans A⟩
 |ok q=>
  obtain⟨f,rr,n0⟩:=q;rw[hx]at s y;obtain⟨i1,sl,dd,Q,rfl,D,h1,ay,A⟩:=s;subst Q;obtain⟨p1,q1,rfl⟩:=D.form;have ar:rd E 5 d f (all.drop i1) n0=X:=y;have aF:=A.size;have a3:=A.at hz (by omega);have I:ao l (l.alloc (.cells #[ag f.kind,ag f.a,ag f.b,.string ⟨f.name.toArray⟩,.slice p1 f.kids.length q1] 78)):=am _ _;have h2:=h1.below I G;have a4:=ai I a3;have ab:=(Z.trans A).trans (bp.of_below I)
  have a0:sO w (l.alloc (.cells #[ag f.kind,ag f.a,ag f.b,.string ⟨f.name.toArray⟩,.slice p1 f.kids.length q1] 78)) l.heap.size f:=
   ⟨p1,q1,dd,aB l _,(bp.of_below (g:=g) I).kids (fun k M=>by omega) (D.lt.mono fun k M=>by omega)⟩
  unfold exV;have ap:T4 (rd E 5 d f (all.drop i1) n0=X):=ar;generalize aJ:l.alloc (.cells #[ag f.kind,ag f.a,ag f.b,.string ⟨f.name.toArray⟩,.slice p1 f.kids.length q1] 78)=w2 at*;go_wp2_with fail;go_loopw [6] (fun _ wr=> ∃(e:Ex) (j m:Nat),rd E 5 d e (all.drop j) m=X/\sO w wr l.heap.size e/\PSt all E g v wr j m/\m<=600/\bp g w wr/\wr.heap[w.heap.size]? =ah tK 78) (fun _ wr=>all.length-pT g wr);case atStart=>exact⟨f,i1,n0,ap.o,a0,h2,ay,ab,a4⟩
  case round=>
   obtain⟨e,j,m,H,hv,R,ac,O,al⟩:=hrel;have hp:=R.pos;by_cases hs:isT fY (all.drop j)=true
   ·have aD:=pj (by decide) hs;have c2:=gh G R fY (by decide) hs;rw[J5 d e j m hs]at H;have c3:=fun(l:World) (h1:PSt all E g v l (j+1) m)=>J1 G h1;have F:T4 (tL E d all e m (pZ all E (j+1))=X):=H;go_wp2_with fail;refine c2.mono ?_;rintro e' w3 ⟨rfl,h3,p⟩;go_wp2_with fail;refine(c3 _ h3).mono ?_;intro e' w4 s;cases hx:pZ all E (j+1) with
    |error q=>
     obtain⟨er,at_⟩:=q;have c:=F.o;rw[hx]at s c;obtain⟨rfl,J⟩:=s;refine⟨rfl,?_⟩;rw[<-c];exact⟨rfl,(O.trans p).trans J⟩
    |ok q=>
     obtain⟨t,j2⟩:=q;have c:=F.o;rw[hx]at s c;obtain⟨rfl,h4,J⟩:=s
     have aE:j+1<j2:=by
      unfold pZ at hx;split at hx
      ·cases hx
      split at hx
      ·cases hx
      ·cases hx;unfold pt;split<;>omega
     have C:=p.trans J;have a7:=C.size;have a2:=hv.kept C (by omega) Y;obtain⟨pv,T,dv,L,P⟩:=a2.ex;have ak:=C.at al (by omega);have ax:=aH ak;have aw:=aH L;have z:ao w4 (w4.alloc (.cells #[ag e.kind,ag e.a,ag e.b,.string ⟨e.name.toArray⟩,.slice pv e.kids.length T] 78)):=am _ _;have kk:=Dl (B:=fun k=>w.heap.size+1<=k/\k≠l.heap.size) (by constructor<;>omega) (aB w4 (.cells #[ag e.kind,ag e.a,ag e.b,.string ⟨e.name.toArray⟩,.slice pv e.kids.length T] 78)) ((bp.of_below (g:=g) z).kids (fun k M=>by omega) P);have h5:=h4.below z G;have av:=(z.block _ aw).trans L;have a5:=(z.block _ ax).trans ak;have N:=((O.trans p).trans J).trans (bp.of_below z);have c6:=kP G h5 ac (fun k=>w.heap.size+1<=k/\k≠l.heap.size) (fun k M=>by omega) ⟨9,t,0,[],[e]⟩ _ _ kk;unfold exV at c6;have S:T4 (dg (dp E ⟨9,t,0,[],[e]⟩ (all.drop j2) m) (fun e r n=>rd E 5 d e r n)=X):=c;generalize aL:w4.alloc (.cells #[ag e.kind,ag e.a,ag e.b,.string ⟨e.name.toArray⟩,.slice pv e.kids.length T] 78)=w5 at*;go_wp2_with(refine aO rfl 78 _ rfl _ rfl _ _ _ _ L d9 rfl (by kernel_rfl) ?_)
     refine c6.mono ?_;intro e' w6 s;cases hx:dp E ⟨9,t,0,[],[e]⟩ (all.drop j2) m with
     |error q=>
      obtain⟨er,at_⟩:=q;have c:=S.o;rw[hx]at s c;obtain⟨rfl,u⟩:=s;refine⟨rfl,?_⟩;rw[<-c];exact⟨rfl,N.trans u⟩
     |ok q=>
      obtain⟨e6,rr,n6⟩:=q;have c:=S.o;rw[hx]at s c;obtain⟨i6,sl,dd,Q,rfl,D,h6,ad,u⟩:=s;have er:=dx hx;cases er;obtain⟨p6,q6,rfl⟩:=D.form;have W:=u.at av (by omega);have a6:=u.at a5 (by omega);have aG:=u.size;have K:=N.trans u;have aI:=N.size;have an:all.drop j2=all.drop i6:=Q
      have HR:T4 (∀x,PSt all E g v (w6.setRow l.heap.size x) i6 (m+1)/\bp g w (w6.setRow l.heap.size x)/\(w6.setRow l.heap.size x).heap[w.heap.size]? =ah tK 78/\dr (fun k=>w.heap.size+1<=k/\k≠l.heap.size) dd (w6.setRow l.heap.size x) (.slice p6 1 q6) [e]):=fun x=>
       ⟨h.of_kept G (K.setRow (by omega) x) ((aQ _ _ _ _ (by omega)).trans h6.blk) h6.le,K.setRow (by omega) x,(aQ _ _ _ _ (by omega)).trans a6,D.kept fun k M _=>aQ _ _ _ _ M.2⟩
      have HN:T4 (rd E 5 d ⟨9,t,0,[],[e]⟩ (all.drop i6) (m+1)=X):=by
       show _=_;rw[<-an];exact c
      have a9:j<i6:=by
       have l1:=congrArg List.length an;simp only[fi]at l1;have:=h6.le;have:=h5.le;omega
      unfold exV;go_wp2_with(refine aC rfl 78 _ _ rfl _ _ rfl rfl _ _ W (by kernel_rfl) (by simp) (by simp[Value.oneCell']) ?_)
      obtain⟨r1,r2,r3,r4⟩:=HR.o #[ag 9,ag t,ag 0,.string ⟨#[]⟩,.slice p6 1 q6];go_roundw
      case rel=>
       (repeat apply iW);exact⟨⟨⟨9,t,0,[],[e]⟩,i6,m+1,HN.o,⟨p6,q6,dd,aK _ _ _ _ _ _ W,r4⟩,r1,ad,r2,r3⟩,rfl⟩
      case measure=>
       rw[hp];have:=r1.pos;have:=r1.le;show all.length-pT g _<_;omega
   ·have ae:isT fY (all.drop j)=false:=(by simpa using hs);have c2:=dY G R fY ae;rw[QY d e j m ae]at H;have F:T4 (.ok (e,all.drop j,m)=X):=H;go_wp2_with fail;refine c2.mono ?_;rintro e' w3 ⟨rfl,h3,p⟩;have a1:=hv.kept p (by omega) Y;obtain⟨pv,T,dv,au,P⟩:=a1.ex;have aj:=p.at al (by omega);have aa:=O.trans p
    have HO:T4 (∀x,jA all E g v w (fun k=>w.heap.size<=k) X (.returned (exV e (.slice pv e.kids.length T))) (w3.setRow w.heap.size x)):=fun x=>by
     rw[<-F.o];exact⟨j,_,dv,rfl,rfl,(P.kept fun k M _=>aQ _ _ _ _ (by omega)).mono fun k M=>by omega,h.of_kept G (aa.setRow (aA _) x) ((aQ _ _ _ _ (by omega)).trans h3.blk) h3.le,ac,aa.setRow (aA _) x⟩
    unfold exV at HO
    go_wp2_with(first
     |(refine aO rfl 78 _ rfl _ rfl _ _ _ _ au d9 rfl (by kernel_rfl) ?_)
     |(refine aC rfl 78 _ _ rfl _ _ rfl rfl _ _ aj (by kernel_rfl) (by rfl) (by simp[Value.oneCell']) ?_))
    exact jT 4 (by kernel_rfl) w.heap.size _ _ _ _ _ rfl rfl (aK _ _ _ _ _ _ aj) (HO.o _)
end
section
variable {all:List Tk} {E g:Nat} {v:Value} {w:World} {i n:Nat}
def AS (all:List Tk)(E g:Nat)(v:Value)(B:Nat->Prop)(W:World)(y:Res)(x:Value):Prop:= ∃(ex:Ex) (i n:Nat) (p:Option Addr) (c d:Nat),y= .ok (ex,all.drop i,n)/\x=exV ex (.slice p ex.kids.length c)/\dr B d W (.slice p ex.kids.length c) ex.kids/\PSt all E g v W i n/\n<=600
theorem jA.two {B:Nat->Prop}{y:Res}{e:Ending}{a:World}(h:jA all E g v w B y e a):bp g w a/\((∃er at_,y= .error (er,at_)/\e= .panicked (jm er at_))\/ ∃x,e= .returned x/\AS all E g v B a y x):=by
 cases y with
 |error q=>exact⟨h.2,.inl ⟨_,_,rfl,h.1⟩⟩
 |ok q=>
  obtain⟨i,sl,d,f,j,b,k,l,m⟩:=h;obtain⟨p,c,rfl⟩:=b.form;exact⟨m,.inr ⟨_,j,q.1,i,q.2.2,p,c,d,by rw[<-f],rfl,b,k,l⟩⟩
theorem MH {p:Prop}(h:p):T4 p:=h
theorem sP (y:Res)(f k:Ex->List Tk->Nat->Res):dg y (fun t r n=>dg (f t r n) k)=dg (dg y f) k:=by cases y<;>rfl
theorem MJ {y:Res}{kd:Int}{e ex:Ex}{r:List Tk}(h:dg y (fun t r n=>dp E ⟨kd,0,0,[],[e,t]⟩ r n)= .ok (ex,r,n)): ∃b a,y= .ok (b,r,a):=by
 cases y with
 |error q=>cases h
 |ok q=>
  unfold dg dp at h;dsimp only at h;split at h<;>cases h;exact⟨_,_,rfl⟩
theorem sQ {y z X:Res}{kd:Int}{e:Ex}{k:Ex->List Tk->Nat->Res}(a:dg y (fun t r n=>dp E ⟨kd,0,0,[],[e,t]⟩ r n)=z)(b:dg z k=X):(∀q,y= .error q->X= .error q)/\(∀t r n,y= .ok (t,r,n)->dp E ⟨kd,0,0,[],[e,t]⟩ r n=z)/\ ∀ex r n,z= .ok (ex,r,n)-> ∃d c,y= .ok (d,r,c):=
 ⟨fun q h=>by rw[<-b,<-a,h];rfl,fun t r n h=>by rw[<-a,h];rfl,fun ex r n h=>MJ (a.trans h)⟩
structure PJ (all:List Tk)(E g:Nat)(v:Value)(w w3:World)(b j m:Nat)(y z:Res)(s t:Nat)(M:Nat->Bool)(φ:Nat->Value)(W:World):Prop where
 kp:M 6=false->bp g w3 W
 a:M 4=false->PSt all E g v W (j+1) m
 f:M 4=true->M 5=false->AS all E g v (fun k=>w.heap.size+1<=k/\k≠b) W y (φ s)
 c:M 5=true->M 6=false->AS all E g v (fun k=>w.heap.size+1<=k/\k≠b) W z (φ t)
 d:M 6=true-> ∃ex i n,z= .ok (ex,all.drop i,n)/\sO w W b ex/\PSt all E g v W i n/\n<=600/\bp g w W/\W.heap[w.heap.size]? =ah tK 78
theorem AS.below {B:Nat->Prop}{W a:World}{y:Res}{x:Value}(h:AS all E g v B W y x)(e:PS0 all E g v)(q: ∀k,B k->k≠g)(b:ao W a):AS all E g v B a y x:=by
 obtain⟨ex,i,n,p,c,d,f,j,l,m,o⟩:=h;exact⟨ex,i,n,p,c,d,f,j,(bp.of_below (g:=g) b).kids q l,m.below b e,o⟩
theorem PJ.below {u W r:World}{b j m s t:Nat}{y z:Res}{M:Nat->Bool}{φ:Nat->Value}(h:PJ all E g v w u b j m y z s t M φ W)(o:PS0 all E g v)(G:g<w.heap.size)(q:b≠g)(l:ao W r):PJ all E g v w u b j m y z s t M φ r:=by
 have e:=bp.of_below (g:=g) l;refine⟨fun c=>(h.kp c).trans e,fun c=>(h.a c).below l o,fun c p=>(h.f c p).below o (fun k e=>by omega) l,fun c p=>(h.c c p).below o (fun k e=>by omega) l,fun c=> ?_⟩;obtain⟨ex,i,n,x,A,B,C,D,F⟩:=h.d c;exact⟨ex,i,n,x,A.kept e q G,B.below l o,C,D.trans e,e.at F (by omega)⟩
theorem J6 (L:PS0 all E g v)(aE:RC all E g v 173 4 i)(N: ∀j,i<j->RC all E g v 173 4 j):RC all E g v 127 2 i:=by
 intro w n d h aS R;have aa:=aH h.blk;have an:ao w (w.alloc (.cells #[ag 0,ag 0,ag 0,.string ⟨#[]⟩,af] 78)):=am _ _;have hz:=nz w;have aG:=h.below an L;have av:=bp.of_below (g:=g) an;have ba:(w.alloc (.cells #[ag 0,ag 0,ag 0,.string ⟨#[]⟩,af] 78)).heap.size=w.heap.size+1:=by simp
 generalize bi:w.alloc (.cells #[ag 0,ag 0,ag 0,.string ⟨#[]⟩,af] 78)=w0 at*;have c1:=aE w0 n d aG aS R;generalize B:rd E 2 d ex0 (all.drop i) n=X;rw[QS]at B;go_enter func127,ntmps127;go_wp2_with fail;refine c1.mono ?_;intro e w1 ho;cases hx:rd E 4 d ex0 (all.drop i) n with
 |error q=>
  obtain⟨er,at_⟩:=q;rw[hx]at ho B;obtain⟨rfl,D⟩:=ho;refine⟨rfl,?_⟩;rw[<-B];exact⟨rfl,av.trans D⟩
 |ok q=>
  obtain⟨s,bj,n0⟩:=q;have ad:=mn (by omega) hx;rw[hx]at ho B;obtain⟨i1,sl,dd,aT,rfl,ay,h1,aN,D⟩:=ho;subst aT;obtain⟨p1,J,rfl⟩:=ay.form;have aL:rd E 3 d s (all.drop i1) n0=X:=B
  have au:i<i1:=by
   have e1:fK 4=1:=rfl;simp only[fi]at ad;have:=h1.le;omega
  have bg:=D.size;have aX:=D.at hz (by omega);have O:ao w1 (w1.alloc (.cells #[ag s.kind,ag s.a,ag s.b,.string ⟨s.name.toArray⟩,.slice p1 s.kids.length J] 78)):=am _ _;have h2:=h1.below O L;have aY:=ai O aX;have a3:=(av.trans D).trans (bp.of_below O)
  have a5:sO w (w1.alloc (.cells #[ag s.kind,ag s.a,ag s.b,.string ⟨s.name.toArray⟩,.slice p1 s.kids.length J] 78)) w1.heap.size s:=
   ⟨p1,J,dd,aB w1 _,(bp.of_below (g:=g) O).kids (fun k hk=>by omega) (ay.lt.mono fun k hk=>by omega)⟩
  unfold exV;have a7:T4 (rd E 3 d s (all.drop i1) n0=X):=aL;generalize bh:w1.alloc (.cells #[ag s.kind,ag s.a,ag s.b,.string ⟨s.name.toArray⟩,.slice p1 s.kids.length J] 78)=w2 at*;go_wp2_with fail;obtain⟨b5,ap⟩:=aq w1.heap.size;rw[ap]at a5;simp only[ap];have aZ:w.heap.size+1<=b5:=(by omega);go_loopw [9] (fun _ wr=> ∃(e:Ex) (j m:Nat),rd E 3 d e (all.drop j) m=X/\sO w wr b5 e/\PSt all E g v wr j m/\m<=600/\bp g w wr/\wr.heap[w.heap.size]? =ah tK 78/\i<j) (fun _ wr=>all.length-pT g wr);case atStart=>exact⟨s,i1,n0,a7.o,a5,h2,aN,a3,aY,au⟩
  case round=>
   obtain⟨e,j,m,Z,hv,ae,a4,az,a6,bc⟩:=hrel;have hp:=ae.pos;by_cases hs:isT qr (all.drop j)=true
   ·have bd:=pj (by decide) hs;have c2:=fun(W:World) (Y:PSt all E g v W j m)=>gh L Y qr (by decide) hs;obtain⟨y,HY⟩: ∃y,T4 (rd E 4 d ex0 (all.drop (j+1)) m=y):=⟨_,rfl⟩
    obtain⟨z,HZ⟩: ∃z,T4 (dg y (fun t r n=>dp E ⟨8,0,0,[],[e,t]⟩ r n)=z):=⟨_,rfl⟩
    have T:T4 (dg z (fun e r n=>rd E 3 d e r n)=X):=by
     show _=_;rw[<-Z,Hf,ax hs,fD,HY.o,sP,HZ.o]
    go_wp2_with fail;refine(c2 _ ae).mono ?_;rintro e' w3 ⟨rfl,h3,u⟩;have aj:=hv.kept u (by omega) aa;obtain⟨pv,cv,dv,C,a0⟩:=aj.ex;have I:=u.at a6 (by omega);have H:=az.trans u;have be:=aH C;have bf:=aH I;go_wp2_with fail;have cF:=fun(W:World) (Y:PSt all E g v W (j+1) m)=>N (j+1) (by omega) W m d Y a4 R;simp only[HY.o]at cF;have al: ∀k,(w.heap.size+1<=k/\k≠b5)->k≠g:=fun k hk=>(by omega);have HB:=MH (sQ HZ.o T.o);refine mU (fun ex W=> ∃er at_,ex= .panic (jm er at_)/\X= .error (er,at_)/\bp g w W) (fun ex a W hd ⟨er,at_,h1,h2,h3⟩=>by subst h1;refine⟨hd,?_⟩;rw[h2];exact⟨rfl,h3⟩) (PJ all E g v w w3 b5 j m y z 15 16) [kn 11 (ab g 0),kn 12 (exV e (.slice pv e.kids.length cv)),kn 13 (ab g 0),kn 14 (ag (d:Int)),td 15,td 16,nk] (fun _=>⟨fun _=>bp.of_below (aF _ _).drew,fun _=>h3.below (aF _ _).drew L,(fun h=>by cases h),(fun h=>by cases h),(fun h=>by cases h)⟩) (fun _ M φ W W' _ hb A=>A.below L aa (by omega) hb) (by kernel_rfl) (fun _ M φ W _ A ar F l hl N=> ?_) (fun M φ W hM A=> ?_)
    ·simp only[kn,td,nk,d6,aR,a8,Act.put,aD,aJ,aI]at hl;subst hl;simp only[dz,Nat.reduceAdd]at N
     have V:M 5=false->M 6=false:=fun U=>by
      cases h:M 6 with
      |false=>rfl
      |true=>rw[ar 6 _ rfl h ⟨5,.data⟩ (by simp) rfl rfl]at U;cases U
     dsimp only[kn,td,nk,dK,fo,eD,Act.put];and_intros;all_goals first|exact trivial|intro hw hn hm K hK
     all_goals try (go_simp;with_reducible exact hK _ _ ⟨rfl,aF _ _⟩)
     ·have P:=(A.kp (V (hn 5 _ rfl (by kernel_rfl)))).at C (by omega);refine fh 78 _ rfl _ (by simp[Act.eval,N]) _ _ _ _ P d9 rfl (by kernel_rfl) ?_;exact hK _ _ ⟨rfl,aF _ _⟩
     ·have l5:=hn 5 _ rfl (by kernel_rfl);have l6:=V l5;have p:=A.kp l6;have Y:=A.a hm;have aV:=p.size;go_simp;refine(cF W Y).mono ?_;intro e' W' Q;obtain⟨G,⟨er,at_,hy,rfl⟩|⟨x,rfl,hx⟩⟩:=Q.two
      ·exact⟨er,at_,rfl,HB.o.1 _ hy,(H.trans p).trans G⟩
      ·obtain⟨ex,i4,n4,p4,c4,d4,r1,r2,r3,r4⟩:=hx;refine hK _ _ ⟨trivial,fun _=>p.trans G,(fun h=>by simp at h),fun _ _=>⟨ex,i4,n4,p4,c4,d4,r1,(dX ..).trans r2,r3.mono fun k hk=>by omega,r4⟩,(fun h=>by simp[l5]at h),(fun h=>by simp[l6]at h)⟩
     ·have l6:=V hm;have p:=A.kp l6;have l4:=hw ⟨4,.data⟩ (by simp) rfl rfl;obtain⟨tx,i4,n4,p4,c4,d4,r1,r2,r3,r4,r5⟩:=A.f l4 hm;rw[r2]at N;have a1:=p.kids al a0;have aV:=p.size;go_simp;refine(Dm L r4 r5 (fun k=>w.heap.size+1<=k/\k≠b5) al (fun k hk=>by constructor<;>omega) _ e tx _ _ dv d4 a1 r3).mono ?_;intro e' W' Q;rw[HB.o.2.1 _ _ _ r1]at Q;obtain⟨G,⟨er,at_,hy,rfl⟩|⟨x,rfl,hx⟩⟩:=Q.two
      ·exact⟨er,at_,rfl,by rw[<-T.o,hy];rfl,(H.trans p).trans G⟩
      ·obtain⟨ex,i5,n5,p5,c5,d5,J,q2,q3,q4⟩:=hx;refine hK _ _ ⟨trivial,fun _=>p.trans G,(fun h=>by simp[l4]at h),(fun _ h=>by simp at h),fun _ _=>⟨ex,i5,n5,p5,c5,d5,J,(dX ..).trans q2,q3,q4⟩,(fun h=>by simp[l6]at h)⟩
     ·have l5:=hw ⟨5,.data⟩ (by simp) rfl rfl;have l4:M 4=true:=ar 5 _ rfl l5 ⟨4,.data⟩ (by simp) rfl rfl;have p:=A.kp hm;obtain⟨ex,i5,n5,p5,c5,d5,J,q2,q3,q4,q5⟩:=A.c l5 hm;have P:=p.at C (by omega);have ak:=p.at I (by omega);have ac:=H.trans p;rw[q2]at N;unfold exV at N;refine eo 78 _ _ rfl _ #[ag ex.kind,ag ex.a,ag ex.b,.string ⟨ex.name.toArray⟩,.slice p5 ex.kids.length c5] (by simp[Act.eval,N]) (by simp[Act.eval,N]) _ _ P (by kernel_rfl) (by rfl) (by simp[Value.oneCell']) ?_;have S:=fun c=>ac.setRow (k:=b5) (by omega) c;exact hK undef _ ⟨trivial,(fun h=>by simp at h),(fun h=>by simp[l4]at h),(fun _ h=>by simp[l5]at h),(fun _ h=>by simp at h),fun _=>⟨ex,i5,n5,J,⟨p5,c5,d5,aK _ _ _ _ _ _ P,q3.kept fun k hB _=>aQ _ _ _ _ hB.2⟩,h.of_kept L (S _) ((aQ _ _ _ _ (by omega)).trans q4.blk) q4.le,q5,S _,(aQ _ _ _ _ (by omega)).trans ak⟩⟩
    ·obtain⟨ex,i5,n5,J,aW,U,aP,ac,ak⟩:=A.d (hM 6 (by decide) rfl);have HN:T4 (rd E 3 d ex (all.drop i5) n5=X):=(by show _=_;rw[<-T.o,J];rfl)
     have bb:j<i5:=by
      obtain⟨tx,n1,hy⟩:=HB.o.2.2 _ _ _ J;have hl:=mn (by omega) (HY.o.trans hy);have e1:fK 4=1:=rfl;simp only[fi]at hl;have:=U.le;omega
     simp only[kn,td,nk,ep,aR,a8,Act.put,aD,aJ,aI];go_wp2_with fail;go_roundw
     case rel=>
      refine⟨ex,i5,n5,HN.o,aW,U,aP,ac,ak,by omega⟩
     case measure=>
      try rw[hp]
      have:=U.pos;have:=U.le;show all.length-pT g _<_;omega
   ·have aU:isT qr (all.drop j)=false:=(by simpa using hs);have c2:=fun(W:World) (Y:PSt all E g v W j m)=>dY L Y qr aU;rw[Hf,aw hs]at Z;have a9:T4 (.ok (e,all.drop j,m)=X):=Z;go_wp2_with fail;refine(c2 _ ae).mono ?_;rintro e' w3 ⟨rfl,h3,u⟩;have aj:=hv.kept u (by omega) aa;obtain⟨pv,cv,dv,C,aM⟩:=aj.ex;have I:=u.at a6 (by omega);have a2:=az.trans u
    have HO:T4 (∀cs,jA all E g v w (fun k=>w.heap.size<=k) X (.returned (exV e (.slice pv e.kids.length cv))) (w3.setRow w.heap.size cs)):=fun cs=>by
     rw[<-a9.o];exact⟨j,_,dv,rfl,rfl,(aM.kept fun k hk _=>aQ _ _ _ _ (by omega)).mono fun k hk=>by omega,h.of_kept L (a2.setRow (aA _) cs) ((aQ _ _ _ _ (by omega)).trans h3.blk) h3.le,a4,a2.setRow (aA _) cs⟩
    unfold exV at HO
    go_wp2_with(first
     |(refine aO rfl 78 _ rfl _ rfl _ _ _ _ C d9 rfl (by kernel_rfl) ?_)
     |(refine aC rfl 78 _ _ rfl _ _ rfl rfl _ _ I (by kernel_rfl) (by rfl) (by simp[Value.oneCell']) ?_))
    exact jT 4 (by kernel_rfl) w.heap.size _ _ _ _ _ rfl rfl (aK _ _ _ _ _ _ I) (HO.o _)
end
section
variable {all:List Tk} {E g:Nat} {v:Value} {w:World} {i n:Nat}
theorem MK (D:PS0 all E g v)(aS:RC all E g v 127 2 i)(Z: ∀j,i<j->RC all E g v 127 2 j):RC all E g v 77 0 i:=by
 intro w n d h aZ aj;have G:=aH h.blk;have a1:ao w (w.alloc (.cells #[ag 0,ag 0,ag 0,.string ⟨#[]⟩,af] 78)):=am _ _;have hz:=nz w;have aT:=h.below a1 D;have a4:=bp.of_below (g:=g) a1;have bi:(w.alloc (.cells #[ag 0,ag 0,ag 0,.string ⟨#[]⟩,af] 78)).heap.size=w.heap.size+1:=by simp
 generalize bq:w.alloc (.cells #[ag 0,ag 0,ag 0,.string ⟨#[]⟩,af] 78)=w0 at*;have c1:=aS w0 n d aT aZ aj;generalize L:rd E 0 d ex0 (all.drop i) n=X;rw[QR]at L;go_enter func77,ntmps77;go_wp2_with fail;refine c1.mono ?_;intro e w1 ho;cases hx:rd E 2 d ex0 (all.drop i) n with
 |error q=>
  obtain⟨er,at_⟩:=q;rw[hx]at ho L;obtain⟨rfl,O⟩:=ho;refine⟨rfl,?_⟩;rw[<-L];exact⟨rfl,a4.trans O⟩
 |ok q=>
  obtain⟨s,br,n0⟩:=q;have au:=mn (by omega) hx;rw[hx]at ho L;obtain⟨i1,sl,dd,ba,rfl,a5,h1,aX,O⟩:=ho;subst ba;obtain⟨p1,Y,rfl⟩:=a5.form;have aU:rd E 1 d s (all.drop i1) n0=X:=L
  have a3:i<i1:=by
   have e1:fK 2=1:=rfl;simp only[fi]at au;have:=h1.le;omega
  have bn:=O.size;have be:=O.at hz (by omega);have ac:ao w1 (w1.alloc (.cells #[ag s.kind,ag s.a,ag s.b,.string ⟨s.name.toArray⟩,.slice p1 s.kids.length Y] 78)):=am _ _;have h2:=h1.below ac D;have bf:=ai ac be;have aE:=(a4.trans O).trans (bp.of_below ac)
  have aM:sO w (w1.alloc (.cells #[ag s.kind,ag s.a,ag s.b,.string ⟨s.name.toArray⟩,.slice p1 s.kids.length Y] 78)) w1.heap.size s:=
   ⟨p1,Y,dd,aB w1 _,(bp.of_below (g:=g) ac).kids (fun k hk=>by omega) (a5.lt.mono fun k hk=>by omega)⟩
  unfold exV;have aN:T4 (rd E 1 d s (all.drop i1) n0=X):=aU;generalize bo:w1.alloc (.cells #[ag s.kind,ag s.a,ag s.b,.string ⟨s.name.toArray⟩,.slice p1 s.kids.length Y] 78)=w2 at*;go_wp2_with fail;obtain⟨b5,a2⟩:=aq w1.heap.size;rw[a2]at aM;simp only[a2];have bh:w.heap.size+1<=b5:=(by omega);go_loopw [10] (fun _ wr=> ∃(e:Ex) (j m:Nat),rd E 1 d e (all.drop j) m=X/\sO w wr b5 e/\PSt all E g v wr j m/\m<=600/\bp g w wr/\wr.heap[w.heap.size]? =ah tK 78/\i<j) (fun _ wr=>all.length-pT g wr);case atStart=>exact⟨s,i1,n0,aN.o,aM,h2,aX,aE,bf,a3⟩
  case round=>
   obtain⟨e,j,m,aa,hv,C,aG,H,I,bk⟩:=hrel;have hp:=C.pos;by_cases S:isT mG (all.drop j)=true
   case' neg=>
    have aL:isT mG (all.drop j)=false:=(by simpa using S);have ak:=S;by_cases S:isT ft (all.drop j)=true
    case neg=>
     have bb:isT ft (all.drop j)=false:=(by simpa using S);have c2:=fun(W:World) (hW:PSt all E g v W j m)=>dY D hW ft bb;rw[AO,aw ak,aw S]at aa;go_wp2_with fail;refine(dY D C mG aL).mono ?_;rintro e' bg ⟨rfl,T,B⟩;have av:=hv.kept B (by omega) G;have V:=B.at I (by omega);have Q:=H.trans B;have hv:=av;have C:=T;have I:=V;have H:=Q;have aP:T4 (.ok (e,all.drop j,m)=X):=aa;go_wp2_with fail;refine(c2 _ C).mono ?_;rintro e' w3 ⟨rfl,h3,A⟩;have ay:=hv.kept A (by omega) G;obtain⟨pv,cv,dv,N,aW⟩:=ay.ex;have U:=A.at I (by omega);have a9:=H.trans A
     have HO:T4 (∀cs,jA all E g v w (fun k=>w.heap.size<=k) X (.returned (exV e (.slice pv e.kids.length cv))) (w3.setRow w.heap.size cs)):=fun cs=>by
      rw[<-aP.o];exact⟨j,_,dv,rfl,rfl,(aW.kept fun k hk _=>aQ _ _ _ _ (by omega)).mono fun k hk=>by omega,h.of_kept D (a9.setRow (aA _) cs) ((aQ _ _ _ _ (by omega)).trans h3.blk) h3.le,aG,a9.setRow (aA _) cs⟩
     unfold exV at HO
     go_wp2_with(first
      |(refine aO rfl 78 _ rfl _ rfl _ _ _ _ N d9 rfl (by kernel_rfl) ?_)
      |(refine aC rfl 78 _ _ rfl _ _ rfl rfl _ _ U (by kernel_rfl) (by rfl) (by simp[Value.oneCell']) ?_))
     exact jT 4 (by kernel_rfl) w.heap.size _ _ _ _ _ rfl rfl (aK _ _ _ _ _ _ U) (HO.o _)
    have aV:=pj (by decide) S;have c2:=fun(W:World) (hW:PSt all E g v W j m)=>gh D hW ft (by decide) S;obtain⟨y,HY⟩: ∃y,T4 (rd E 2 d ex0 (all.drop (j+1)) m=y):=⟨_,rfl⟩
    obtain⟨z,HZ⟩: ∃z,T4 (dg y (fun t r n=>dp E ⟨7,0,0,[],[e,t]⟩ r n)=z):=⟨_,rfl⟩
    have J:T4 (dg z (fun e r n=>rd E 1 d e r n)=X):=by
     show _=_;rw[<-aa,AO,aw ak,ax S,fD,HY.o,sP,HZ.o]
    have HB:=MH (sQ HZ.o J.o);go_wp2_with fail;refine(dY D C mG aL).mono ?_;rintro e' bg ⟨rfl,T,B⟩;have av:=hv.kept B (by omega) G;have V:=B.at I (by omega);have Q:=H.trans B;have hv:=av;have C:=T;have I:=V;have H:=Q;go_wp2_with fail
   case' pos=>
    have aV:=pj (by decide) S;have c2:=fun(W:World) (hW:PSt all E g v W j m)=>gh D hW mG (by decide) S;obtain⟨y,HY⟩: ∃y,T4 (rd E 2 d ex0 (all.drop (j+1)) m=y):=⟨_,rfl⟩
    obtain⟨z,HZ⟩: ∃z,T4 (dg y (fun t r n=>dp E ⟨6,0,0,[],[e,t]⟩ r n)=z):=⟨_,rfl⟩
    have J:T4 (dg z (fun e r n=>rd E 1 d e r n)=X):=by
     show _=_;rw[<-aa,AO,ax S,fD,HY.o,sP,HZ.o]
    have HB:=MH (sQ HZ.o J.o);go_wp2_with fail
   all_goals
    refine(c2 _ C).mono ?_
    rintro e' w3 ⟨rfl,h3,A⟩
    have ay:=hv.kept A (by omega) G
    obtain⟨pv,cv,dv,N,a6⟩:=ay.ex
    have U:=A.at I (by omega)
    have R:=H.trans A
    have bl:=aH N
    have bm:=aH U
    go_wp2_with fail
    have cF:=fun(W:World) (hW:PSt all E g v W (j+1) m)=>Z (j+1) (by omega) W m d hW aG aj
    simp only[HY.o]at cF
    have a0: ∀k,(w.heap.size+1<=k/\k≠b5)->k≠g:=fun k hk=>by omega
   refine mU (fun ex W=> ∃er at_,ex= .panic (jm er at_)/\X= .error (er,at_)/\bp g w W) (fun ex a W hd ⟨er,at_,h1,h2,h3⟩=>by subst h1;refine⟨hd,?_⟩;rw[h2];exact⟨rfl,h3⟩) (PJ all E g v w w3 b5 j m y z 17 18) [kn 13 (ab g 0),kn 14 (exV e (.slice pv e.kids.length cv)),kn 15 (ab g 0),kn 16 (ag (d:Int)),td 17,td 18,nk] (fun _=>⟨fun _=>bp.of_below (aF _ _).drew,fun _=>h3.below (aF _ _).drew D,(fun h=>by cases h),(fun h=>by cases h),(fun h=>by cases h)⟩) (fun _ M φ W W' _ hb u=>u.below D G (by omega) hb) (by kernel_rfl) (fun _ M φ W _ u ap F l hl Z=> ?_) (fun M φ W hM u=> ?_);rotate_left 2;refine mU (fun ex W=> ∃er at_,ex= .panic (jm er at_)/\X= .error (er,at_)/\bp g w W) (fun ex a W hd ⟨er,at_,h1,h2,h3⟩=>by subst h1;refine⟨hd,?_⟩;rw[h2];exact⟨rfl,h3⟩) (PJ all E g v w w3 b5 j m y z 26 27) [kn 22 (ab g 0),kn 23 (exV e (.slice pv e.kids.length cv)),kn 24 (ab g 0),kn 25 (ag (d:Int)),td 26,td 27,nk] (fun _=>⟨fun _=>bp.of_below (aF _ _).drew,fun _=>h3.below (aF _ _).drew D,(fun h=>by cases h),(fun h=>by cases h),(fun h=>by cases h)⟩) (fun _ M φ W W' _ hb u=>u.below D G (by omega) hb) (by kernel_rfl) (fun _ M φ W _ u ap F l hl Z=> ?_) (fun M φ W hM u=> ?_)
   all_goals first
    |(simp only[kn,td,nk,d6,aR,a8,Act.put,aD,aJ,aI]at hl
      subst hl
      simp only[dz,Nat.reduceAdd]at Z
      have an:M 5=false->M 6=false:=fun h5=>by
       cases h:M 6 with
       |false=>rfl
       |true=>rw[ap 6 _ rfl h ⟨5,.data⟩ (by simp) rfl rfl]at h5;cases h5
      dsimp only[kn,td,nk,dK,fo,eD,Act.put]
      and_intros
      all_goals first|exact trivial|intro hw hn hm K hK
      all_goals try (go_simp;with_reducible exact hK _ _ ⟨rfl,aF _ _⟩)
      ·have ad:=(u.kp (an (hn 5 _ rfl (by kernel_rfl)))).at N (by omega)
       refine fh 78 _ rfl _ (by simp[Act.eval,Z]) _ _ _ _ ad d9 rfl (by kernel_rfl) ?_
       exact hK _ _ ⟨rfl,aF _ _⟩
      ·have l5:=hn 5 _ rfl (by kernel_rfl)
       have l6:=an l5
       have p:=u.kp l6
       have hW:=u.a hm
       have bc:=p.size
       go_simp
       refine(cF W hW).mono ?_
       intro e' W' ae
       obtain⟨P,⟨er,at_,hy,rfl⟩|⟨x,rfl,hx⟩⟩:=ae.two
       ·exact⟨er,at_,rfl,HB.o.1 _ hy,(R.trans p).trans P⟩
       ·obtain⟨ex,i4,n4,p4,c4,d4,r1,r2,r3,r4⟩:=hx
        refine hK _ _ ⟨trivial,fun _=>p.trans P,(fun h=>by simp at h),fun _ _=>⟨ex,i4,n4,p4,c4,d4,r1,(dX ..).trans r2,r3.mono fun k hk=>by omega,r4⟩,(fun h=>by simp[l5]at h),(fun h=>by simp[l6]at h)⟩
      ·have l6:=an hm
       have p:=u.kp l6
       have l4:=hw ⟨4,.data⟩ (by simp) rfl rfl
       obtain⟨tx,i4,n4,p4,c4,d4,r1,r2,r3,r4,r5⟩:=u.f l4 hm
       rw[r2]at Z
       have a7:=p.kids a0 a6
       have bc:=p.size
       go_simp
       refine(Dm D r4 r5 (fun k=>w.heap.size+1<=k/\k≠b5) a0 (fun k hk=>by constructor<;>omega) _ e tx _ _ dv d4 a7 r3).mono ?_
       intro e' W' ae
       rw[HB.o.2.1 _ _ _ r1]at ae
       obtain⟨P,⟨er,at_,hy,rfl⟩|⟨x,rfl,hx⟩⟩:=ae.two
       ·exact⟨er,at_,rfl,by rw[<-J.o,hy];rfl,(R.trans p).trans P⟩
       ·obtain⟨ex,i5,n5,p5,c5,d5,Y,q2,q3,q4⟩:=hx
        refine hK _ _ ⟨trivial,fun _=>p.trans P,(fun h=>by simp[l4]at h),(fun _ h=>by simp at h),fun _ _=>⟨ex,i5,n5,p5,c5,d5,Y,(dX ..).trans q2,q3,q4⟩,(fun h=>by simp[l6]at h)⟩
      ·have l5:=hw ⟨5,.data⟩ (by simp) rfl rfl
       have l4:M 4=true:=ap 5 _ rfl l5 ⟨4,.data⟩ (by simp) rfl rfl
       have p:=u.kp hm
       obtain⟨ex,i5,n5,p5,c5,d5,Y,q2,q3,q4,q5⟩:=u.c l5 hm
       have ad:=p.at N (by omega)
       have az:=p.at U (by omega)
       have ar:=R.trans p
       rw[q2]at Z
       unfold exV at Z
       refine eo 78 _ _ rfl _ #[ag ex.kind,ag ex.a,ag ex.b,.string ⟨ex.name.toArray⟩,.slice p5 ex.kids.length c5] (by simp[Act.eval,Z]) (by simp[Act.eval,Z]) _ _ ad (by kernel_rfl) (by rfl) (by simp[Value.oneCell']) ?_
       have al:=fun c=>ar.setRow (k:=b5) (by omega) c
       exact hK undef _ ⟨trivial,(fun h=>by simp at h),(fun h=>by simp[l4]at h),(fun _ h=>by simp[l5]at h),(fun _ h=>by simp at h),fun _=>⟨ex,i5,n5,Y,⟨p5,c5,d5,aK _ _ _ _ _ _ ad,q3.kept fun k hB _=>aQ _ _ _ _ hB.2⟩,h.of_kept D (al _) ((aQ _ _ _ _ (by omega)).trans q4.blk) q4.le,q5,al _,(aQ _ _ _ _ (by omega)).trans az⟩⟩)
    |(obtain⟨ex,i5,n5,Y,bd,h5,aY,ar,az⟩:=u.d (hM 6 (by decide) rfl)
      have HN:T4 (rd E 1 d ex (all.drop i5) n5=X):=by show _=_;rw[<-J.o,Y];rfl
      have bj:j<i5:=by
       obtain⟨tx,n1,hy⟩:=HB.o.2.2 _ _ _ Y;have hl:=mn (by omega) (HY.o.trans hy);have e1:fK 2=1:=rfl;simp only[fi]at hl;have:=h5.le;omega
      simp only[kn,td,nk,ep,aR,a8,Act.put,aD,aJ,aI]
      go_wp2_with fail
      go_roundw
      case rel=>
       refine⟨ex,i5,n5,HN.o,bd,h5,aY,ar,az,by omega⟩
      case measure=>
       try rw[hp]
       have:=h5.pos
       have:=h5.le
       show all.length-pT g _<_
       omega)
end
section
variable {all:List Tk} {E g:Nat} {v:Value} {w:World} {i n:Nat}
theorem yW (b:PS0 all E g v): ∀(k i:Nat),all.length+1-i<=k->
  RC all E g v 201 6 i/\RC all E g v 173 4 i/\RC all E g v 127 2 i/\RC all E g v 77 0 i
 |0,i,d=>⟨fun _ _ _ h _ _=>absurd h.le (by omega),fun _ _ _ h _ _=>absurd h.le (by omega),fun _ _ _ h _ _=>absurd h.le (by omega),fun _ _ _ h _ _=>absurd h.le (by omega)⟩
 |k+1,i,d=>by
  have c:=fun j (a:i<j)=>yW b k j (by omega);have t:=H3 b (fun j a=>(c j a).2.2.2) (fun j a=>(c j a).2.1);have f:=Fa b t;have m:=J6 b f (fun j a=>(c j a).2.1);exact⟨t,f,m,MK b m (fun j a=>(c j a).2.2.1)⟩
theorem O9 (a:PS0 all E g v)(i:Nat):RC all E g v 77 0 i:=(yW a _ i (aA _)).2.2.2
end
theorem H4 (B:Nat->Prop): ∀(d:Nat) (e:Ex) (sl:Value) (w:World),dr B d w sl e.kids->hgt e<=1000000->
  Calls prog 78 #[exV e sl] w fun r w'=>r= .returned (ag (hgt e:Int))/\ao w w':=by
 intro d;induction d with
 |zero=>
  intro e sl w E hh;obtain⟨s,p,c,rfl⟩:=E;have D:hgt e=1:=(by rw[mr,s];rfl);rw[D];unfold exV;go_enter func78,ntmps78;go_wp2_with fail;refine wp_loop_rounds 1 ?_;rw[rounds_succ];go_wp2_with fail;go_ret;exact⟨rfl,am _ _⟩
 |succ d ih=>
  intro e sl w E hh;rcases E with⟨s,p,c,rfl⟩|⟨g,o,c,hB,rfl,U,l⟩
  ·have D:hgt e=1:=(by rw[mr,s];rfl);rw[D];unfold exV;go_enter func78,ntmps78;go_wp2_with fail;refine wp_loop_rounds 1 ?_;rw[rounds_succ];go_wp2_with fail;go_ret;exact⟨rfl,am _ _⟩
  ·have N:T4 (∀(j:Nat) (k:Ex),e.kids[j]? =some k-> ∃K:Value,
    w.cell? (ae g (o+j*5))=some (ag k.kind)/\w.cell? (ae g (o+j*5+1))=some (ag k.a)/\w.cell? (ae g (o+j*5+2))=some (ag k.b)/\
    w.cell? (ae g (o+j*5+3))=some (.string ⟨k.name.toArray⟩)/\w.cell? (ae g (o+j*5+4))=some K/\dr B d w K k.kids):=l
   have L:T4 (hgt e=hgtL e.kids+1):=mr e;have O:T4 (∀k∈e.kids,hgt k<hgt e):=fun k h=>lr h;have C:ao w (w.alloc (.cells #[ag e.kind,ag e.a,ag e.b,.string ⟨e.name.toArray⟩,.slice (some (ae g o)) e.kids.length c] 78)):=am _ _;unfold exV;clear l;go_enter func78,ntmps78;go_wp2_with fail;go_loopw [3,9] (fun q t wr=> ∃j:Nat,t=ag (j:Int)/\j<=e.kids.length/\q=ag (hgtL (e.kids.take j):Int)/\hgtL (e.kids.take j)<=1000000/\ao w wr) (fun _ t _=>e.kids.length-(intOf t).toNat);case atStart=>exact⟨0,rfl,by omega,rfl,by simp[hgtL],C⟩
   case round=>
    obtain⟨j,rfl,hj,rfl,hm,f⟩:=hrel;have aa:(0:Int)<=(j:Int):=(by omega);by_cases G:j<e.kids.length
    ·have y:(j:Int)<(e.kids.length:Int):=(by omega);obtain⟨k,i⟩: ∃k,e.kids[j]? =some k:=⟨e.kids[j],az G⟩
     obtain⟨K,c0,c1,Q,R,S,n⟩:=N.o j k i;have F:=O.o k (aL i)
     have W:e.kids.take (j+1)=e.kids.take j++[k]:=by
      obtain⟨Y,Z⟩:=aE.1 i;rw[List.take_succ_eq_append_getElem Y,Z]
     have V:hgtL (e.kids.take (j+1))=max (hgtL (e.kids.take j)) (hgt k):=(by rw[W,J8]);obtain⟨A,u,rfl⟩:=n.form;have d0:=aj f c0;have d1:=aj f c1;have d2:=aj f Q;have d3:=aj f R;have d4:=aj f S;have m:=f.alloc f.size (.cells #[ag k.kind,ag k.a,ag k.b,.string ⟨k.name.toArray⟩,.slice A k.kids.length u] 78);have cR:=ih k (.slice A k.kids.length u) (wr.alloc (.cells #[ag k.kind,ag k.a,ag k.b,.string ⟨k.name.toArray⟩,.slice A k.kids.length u] 78)) (n.kept fun q _ hq=>m.block q hq) (by omega);have z:=aB wr (.cells #[ag k.kind,ag k.a,ag k.b,.string ⟨k.name.toArray⟩,.slice A k.kids.length u] 78);unfold exV at cR;have P:T4 (hgtL (e.kids.take (j+1))=max (hgtL (e.kids.take j)) (hgt k)):=V;have ab:(hgt k:Int)<=1000000:=(by omega);have I:(hgtL (e.kids.take j):Int)<=1000000:=(by omega);generalize hgt k=H at*;generalize hgtL (e.kids.take j)=M at*;clear V W n c0 c1 Q R S i F;generalize J:wr.alloc (.cells #[ag k.kind,ag k.a,ag k.b,.string ⟨k.name.toArray⟩,.slice A k.kids.length u] 78)=wB at*;go_wp2_with(refine aO rfl 78 _ rfl _ rfl _ _ _ _ z d9 rfl (by kernel_rfl) ?_)
     refine cR.mono ?_;rintro e' w2 ⟨rfl,v⟩;have x:=au m v;clear cR v m J z;go_wp2_with fail;go_roundw;case rel=>exact⟨j+1,by go_num,by omega,by rw[P.o];exact JL (by omega),by rw[P.o];omega,x⟩
     case measure=>simp[intOf];omega
    ·have T:j=e.kids.length:=(by omega);have y: ¬(j:Int)<(e.kids.length:Int):=(by omega)
     have X:T4 (hgt e=hgtL (e.kids.take j)+1):=by
      show _=_;rw[L.o,T,gI]
     have I:(hgtL (e.kids.take j):Int)<=1000000:=(by omega);generalize hgtL (e.kids.take j)=M at*;clear L N O T;go_wp2_with fail;go_ret;exact⟨by rw[X.o];rfl,f⟩
section
variable {all:List Tk} {E g:Nat} {v:Value} {w:World} {i n:Nat}
def ruV (u:Ru)(sl:Value):Value:= .agg #[.string ⟨u.1.toArray⟩,ag u.2.kind,ag u.2.a,ag u.2.b,.string ⟨u.2.name.toArray⟩,sl]
def Q0 (all:List Tk)(E g:Nat)(v:Value)(w:World)(B:Nat->Prop)(x:Except (Int×Nat) (Ru×List Tk))(e:Ending)(a:World):Prop:=
 match x with
 | .error (er,at_)=>e= .panicked (jm er at_)/\bp g w a
 | .ok (u,r)=> ∃(i m:Nat) (sl:Value) (d:Nat),r=all.drop i/\e= .returned (ruV u sl)/\dr B d a sl u.2.kids/\PSt all E g v a i m/\m<=600/\bp g w a
def Tu:Array Value:= #[.string ⟨#[]⟩,ag 0,ag 0,ag 0,.string ⟨#[]⟩,af]
theorem Do:prog.underlying 80=some (.struct (prog.fieldsOf 80)):=by kernel_rfl
theorem Q1 {i:Func}(s:Nat)(h:i.results= #[ResultVar.cell s 80]){R:Ending->World->Prop}{a:Act}{w:World}(g:Nat)(c0 c1 b c d e:Value)(l:a.defers=[])(j:a.tmps.getD s undef=ab g 0)
  (m:w.heap[g]? =ah #[c0,c1,b,c,d,e] 80) (k:R (.returned (.agg #[c0,c1,b,c,d,e])) w):bodyPost prog i R .ret a w:=by
 refine aX (v:= .agg #[c0,c1,b,c,d,e]) ?_ l k;have f:a.tmps[s]?.getD undef=ab g 0:=by simpa using j
 have n:=dZ (P:=prog) w g 80 80 _ _ _ m Do rfl (by kernel_rfl);simp[results,h,f,asAddr,n]
theorem ML (j:PS0 all E g v)(h:PSt all E g v w i n):
  Calls prog 38 #[ab g 0] w (Q0 all E g v w (fun k=>w.heap.size<=k) (kA E (all.drop i))):=by
 have av:=aH h.blk;have K:ao w (w.alloc (.cells #[.string ⟨#[]⟩,ag 0,ag 0,ag 0,.string ⟨#[]⟩,af] 80)):=am _ _;have hz:(w.alloc (.cells #[.string ⟨#[]⟩,ag 0,ag 0,ag 0,.string ⟨#[]⟩,af] 80)).heap[w.heap.size]? =ah Tu 80:=aB w _;have hA:=h.below K j;have F:=bp.of_below (g:=g) K;generalize A:kA E (all.drop i)=X;unfold kA at A;simp only[fD]at A;generalize au:w.alloc (.cells #[.string ⟨#[]⟩,ag 0,ag 0,ag 0,.string ⟨#[]⟩,af] 80)=wA at*;by_cases l:kindP (all.drop i)=1
 ·rw[aw (by simp[l])]at A;have c1:=ru j hA 1 (by decide) l;unfold kG at c1;by_cases R:isT wIs (all.drop (i+1))=true
  ·rw[ax R]at A;have c2:=fun(s:World) (z:PSt all E g v s (i+1) n)=>pm j z wIs (by decide) R;have c3: ∀(s:World),PSt all E g v s (i+1+1) 0->Calls prog 77 #[ab g 0,ag 1] s (jA all E g v s (fun k=>s.heap.size<=k) (rd E 0 1 ex0 (all.drop (i+1+1)) 0)):=fun s z=>O9 j (i+1+1) s 0 1 z (by omega) (by omega)
   have HX:T4 ((match rd E 0 1 ex0 (all.drop (i+1+1)) 0 with
    | .error q=>Except.error q
    | .ok (e,q,_)=>if 40<hgt e then .error (4,atP E q) else if isT rW q then .ok ((textP (all.drop i),e),q.tail) else .error (2,atP E q))=X):=A
   generalize kindP (all.drop i)=t0 at*;generalize numP (all.drop i)=t1 at*;generalize (atP E (all.drop i):Int)=t2 at*;generalize textP (all.drop i)=nm at*;clear R l A;go_enter func38,ntmps38;go_wp2_with fail;refine c1.mono ?_;rintro e s ⟨rfl,z,p⟩;go_wp2_with fail;refine(c2 _ z).mono ?_;rintro e w2 ⟨rfl,h2,D⟩;have k3:=ak 3 h2.blk;have y3:=bu _ _ 3 _ _ h2.blk;have h3:PSt all E g v (w2.setCell ⟨g,3,none⟩ (ag 0)) (i+1+1) 0:=h2.setN j 0;have M:=(p.trans D).trans (bp.set w2 g 3 (ag 0));have O:=M.at hz (by omega);have x:=F.trans M;have ay:=aH O;clear c1 c2 z p D M hA F K au hz;go_wp2_with fail;refine(c3 _ h3).mono ?_;intro e w4 ho;clear c3 k3 y3;cases hx:rd E 0 1 ex0 (all.drop (i+1+1)) 0 with
   |error q=>
    obtain⟨er,at_⟩:=q;have c:=HX.o;rw[hx]at ho c;obtain⟨rfl,r⟩:=ho;refine⟨rfl,?_⟩;rw[<-c];exact⟨rfl,x.trans r⟩
   |ok q=>
    obtain⟨ex,rr,nn⟩:=q;have hh:=QZ hx;have c:=HX.o;rw[hx]at ho c;obtain⟨B,sl,dd,aq,rfl,N,h4,ap,r⟩:=ho;subst aq;obtain⟨T,Q,rfl⟩:=N.form;dsimp only at c;have az:=r.size;have ac:=r.at O (by omega);have t:ao w4 (w4.alloc (.cells #[ag ex.kind,ag ex.a,ag ex.b,.string ⟨ex.name.toArray⟩,.slice T ex.kids.length Q] 78)):=am _ _;have h5:=h4.below t j;have L:=aB w4 (.cells #[ag ex.kind,ag ex.a,ag ex.b,.string ⟨ex.name.toArray⟩,.slice T ex.kids.length Q] 78);have ad:=ai t ac;have J:=(x.trans r).trans (bp.of_below t);have u:dr (fun k=>w.heap.size+1<=k) dd (w4.alloc (.cells #[ag ex.kind,ag ex.a,ag ex.b,.string ⟨ex.name.toArray⟩,.slice T ex.kids.length Q] 78)) (.slice T ex.kids.length Q) ex.kids:=(bp.of_below (g:=g) t).kids (fun k Y=>by omega) (N.mono fun k Y=>by omega);have c6:=H4 _ dd ex _ _ u (by omega);unfold exV at c6⊢;have C:T4 ((if 40<hgt ex then Except.error (4,atP E (all.drop B)) else if isT rW (all.drop B) then .ok ((nm,ex),(all.drop B).tail) else .error (2,atP E (all.drop B)))=X):=c;clear N h3 h4 r t hx c HX O ac x;generalize ar:w4.alloc (.cells #[ag ex.kind,ag ex.a,ag ex.b,.string ⟨ex.name.toArray⟩,.slice T ex.kids.length Q] 78)=w5 at*;go_wp2_with(refine aO rfl 78 _ rfl _ rfl _ _ _ _ L d9 rfl (by kernel_rfl) ?_)
    refine c6.mono ?_;rintro e w6 ⟨rfl,m⟩;have h6:=h5.below m j;have W:=ai m L;have ae:=ai m ad;have f:=J.trans (bp.of_below m);have G:=(bp.of_below (g:=g) m).kids (fun k Y=>by omega) u;clear c6 m h5 L ad J u ar;by_cases U:40<hgt ex
    ·have V:(40:Int)<(hgt ex:Int):=(by omega);have c:=C.o;rw[ax U]at c;have P:T4 (X= .error (4,atP E (all.drop B))):=c.symm;generalize hgt ex=H at*;clear c C;go_wp2_with fail;refine(lK j h6 4).mono ?_;rintro e w7 ⟨rfl,al⟩;refine⟨rfl,?_⟩;rw[P.o];exact⟨rfl,f.trans (bp.of_below al)⟩
    ·have V: ¬(40:Int)<(hgt ex:Int):=(by omega);have c:=C.o;rw[aw U]at c;generalize hgt ex=H at*;clear C;by_cases S:isT rW (all.drop B)=true
     ·rw[ax S,fD]at c;have c7:=pm j h6 rW (by decide) S;have P:T4 (X= .ok ((nm,ex),all.drop (B+1))):=c.symm;clear c S;go_wp2_with fail;refine c7.mono ?_;rintro e w7 ⟨rfl,h7,d⟩;have an:=d.at W (by omega);have aj:=d.at ae (by omega);have y:=f.trans d;have I:=d.kids (fun k Y=>by omega) G
      have HO:T4 (∀cs,Q0 all E g v w (fun k=>w.heap.size<=k) X (.returned (ruV (nm,ex) (.slice T ex.kids.length Q))) (w7.setRow w.heap.size cs)):=fun cs=>by
       rw[P.o];exact⟨B+1,nn,_,dd,rfl,rfl,(I.kept fun k Y _=>aQ _ _ _ _ (by omega)).mono fun k Y=>by omega,h.of_kept j (y.setRow (aA _) cs) ((aQ _ _ _ _ (by omega)).trans h7.blk) h7.le,ap,y.setRow (aA _) cs⟩
      unfold ruV at HO;clear c7 h6 h7 d f y G I W ae P
      go_wp2_with(first
       |(refine aO rfl 78 _ rfl _ rfl _ _ _ _ an d9 rfl (by kernel_rfl) ?_)
       |(refine aC rfl 80 _ _ rfl _ _ rfl rfl _ _ aj (by kernel_rfl) (by rfl) (by simp[Value.oneCell']) ?_))
      exact Q1 2 (by kernel_rfl) w.heap.size _ _ _ _ _ _ rfl rfl (aK _ _ _ _ _ _ aj) (HO.o _)
     ·have aa:isT rW (all.drop B)=false:=(by simpa using S);rw[aw S]at c;have c7:=qU j h6 rW aa;have P:T4 (X= .error (2,atP E (all.drop B))):=c.symm;clear c S aa;go_wp2_with fail;refine c7.mono ?_;rintro e w7 ⟨rfl,d⟩;refine⟨rfl,?_⟩;rw[P.o];exact⟨rfl,f.trans d⟩
  ·have Z:isT wIs (all.drop (i+1))=false:=(by simpa using R);rw[aw R]at A;have c2:=fun(s:World) (z:PSt all E g v s (i+1) n)=>qU j z wIs Z;subst A;clear R Z l;go_enter func38,ntmps38;go_wp2_with fail;refine c1.mono ?_;rintro e s ⟨rfl,z,p⟩;go_wp2_with fail;refine(c2 _ z).mono ?_;rintro e w2 ⟨rfl,D⟩;exact⟨rfl,rfl,(F.trans p).trans D⟩
 ·rw[ax l]at A;have c1:=AR j hA 1 l;subst A;go_enter func38,ntmps38;go_wp2_with fail;refine c1.mono ?_;rintro e s ⟨rfl,p⟩;exact⟨rfl,rfl,F.trans p⟩
end
end Go.Proofs.YtpdoienkhgnceaaGreatDoor
