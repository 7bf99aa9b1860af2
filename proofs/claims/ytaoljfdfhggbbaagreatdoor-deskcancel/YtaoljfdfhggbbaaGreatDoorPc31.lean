/- Texts of the proof. -/
import Derived.Test.YtaoljfdfhggbbaaGreatDoorPc30
set_option maxRecDepth 100000
set_option maxHeartbeats 8000000
namespace Go.Proofs.YtaoljfdfhggbbaaGreatDoor
open Go.Proofs.Tryz Go.RowKit Lx Vx Mx Msk
section
def upI (f:Nat->Int)(i:Nat)(v:Int):Nat->Int:=fun k=>if k=i then v else f k
theorem iV (f:Nat->Int)(i:Nat)(v:Int):upI f i v i=v:=by unfold upI;rw[aD rfl]
theorem xV (f:Nat->Int){i k:Nat}(v:Int)(h:k≠i):upI f i v k=f k:=by unfold upI;rw[ax h]
def fC (go n:Nat)(sv:Nat->Value)(H T:Nat->Int)(w:World):Prop:= ∃a:Array Value,w.heap[go]? =ah a 140/\a.size=n*3/\ ∀i,i<n->a[i*3]? =some (sv i)/\a[i*3+1]? =some (ag (H i))/\a[i*3+2]? =some (ag (T i))
section
variable {go n:Nat} {sv:Nat->Value} {H T:Nat->Int} {w w':World}
theorem fC.cells (h:fC go n sv H T w){i:Nat}(hi:i<n):w.cell? (ae go (i*3))=some (sv i)/\w.cell? (ae go (i*3+1))=some (ag (H i))/\w.cell? (ae go (i*3+2))=some (ag (T i))/\w.frozen? (ae go (i*3+1))=false/\w.frozen? (ae go (i*3+2))=false:=by
 obtain⟨c,a,_,d⟩:=h;obtain⟨c0,c1,b⟩:=d i hi;exact⟨(aZ _ _ _ _ _ _ a).trans c0,(aZ _ _ _ _ _ _ a).trans c1,(aZ _ _ _ _ _ _ a).trans b,bl _ _ _ _ _ a,bl _ _ _ _ _ a⟩
theorem fC.lt (h:fC go n sv H T w):go<w.heap.size:=by
 obtain⟨a,b,_⟩:=h;exact aH b
theorem fC.same (h:fC go n sv H T w)(e:w'.heap[go]? =w.heap[go]?):fC go n sv H T w':=by
 obtain⟨a,b,r⟩:=h;exact⟨a,e.trans b,r⟩
theorem fC.below (h:fC go n sv H T w)(a:aq w w'):fC go n sv H T w':=h.same (a.block _ h.lt)
theorem fC.setH (h:fC go n sv H T w){i:Nat}(v:Int)(hi:i<n):fC go n sv (upI H i v) T (w.setCell ⟨go,i*3+1,none⟩ (ag v)):=by
 obtain⟨b,d,g,c⟩:=h;refine⟨_,aY w go (i*3+1) _ _ _ d,by rw[gT];exact g,fun k f=> ?_⟩;obtain⟨c0,c1,a⟩:=c k f;refine⟨?_,?_,?_⟩
 ·rw[dn (by omega)];exact c0
 ·by_cases e:k=i
  ·subst e;rw[iV,gu (by omega)]
  ·rw[xV _ _ e,dn (by omega)];exact c1
 ·rw[dn (by omega)];exact a
theorem fC.setT (h:fC go n sv H T w){i:Nat}(v:Int)(hi:i<n):fC go n sv H (upI T i v) (w.setCell ⟨go,i*3+2,none⟩ (ag v)):=by
 obtain⟨b,d,g,c⟩:=h;refine⟨_,aY w go (i*3+2) _ _ _ d,by rw[gT];exact g,fun k f=> ?_⟩;obtain⟨c0,c1,a⟩:=c k f;refine⟨?_,?_,?_⟩
 ·rw[dn (by omega)];exact c0
 ·rw[dn (by omega)];exact c1
 ·by_cases e:k=i
  ·subst e;rw[iV,gu (by omega)]
  ·rw[xV _ _ e,dn (by omega)];exact a
end
theorem iE (w:World)(g i:Nat)(v:Value):bo g w (w.setCell ⟨g,i,none⟩ v):=bo.set w g i v
def jZ (w:World)(v:Value)(S:List (In×Value)):Prop:=w.ownsRow 0 177 5 v S.length (jr S)
theorem jZ.below {w w':World}{v:Value}{S:List (In×Value)}(h:jZ w v S)(a:aq w w'):jZ w' v S:=io h a
theorem jZ.kept {w w':World}{v:Value}{S:List (In×Value)}{go n:Nat}{sv:Nat->Value}{H T:Nat->Int}(h:jZ w v S)(d:fC go n sv H T w)(c:bo go w w'):jZ w' v S:=by
 obtain⟨a,b,_⟩:=d;exact World.ownsRow.kept h c (.inr fun e=>ko h b (by decide) e.symm)
theorem jZ.form {w:World}{v:Value}{S:List (In×Value)}(h:jZ w v S)(q:1<=S.length): ∃g c,v= .slice (some (ae g 0)) S.length c/\ ∀(j:Nat) (u:In×Value),S[j]? =some u->
  w.cell? (ae g (j*5))=some (ag u.1.op)/\w.cell? (ae g (j*5+1))=some (ag u.1.a)/\w.cell? (ae g (j*5+2))=some (ag u.1.b)/\w.cell? (ae g (j*5+3))=some (ag u.1.to)/\w.cell? (ae g (j*5+4))=some u.2:=by
 rcases h.2 with⟨_,e⟩|⟨g,cap,f,e,_,n,_,_,_,p⟩
 ·omega
 ·refine⟨g,cap,e,fun j u m=> ?_⟩;have k:=(aG.1 m).1
  have d: ∀(i:Nat) (v:Value),i<5->(iv u).toList[i]? =some v->w.cell? (ae g (j*5+i))=some v:=fun i v hi o=>by
   refine(aZ _ _ _ _ _ _ n).trans ?_;have l:(f.toList.take (S.length*5))[j*5+i]? =(jr S)[j*5+i]? :=(by rw[p]);rw[dK (by omega)]at l;rw[<-bp,l]
   have e2:S=S.take j++(u::S.drop (j+1)):=by
    conv=>lhs;rw[<-gM j S]
    congr 1;rw[bx k,(aG.1 m).2]
   rw[e2,qG,dj (by rw[pm,eE];omega),pm,eE,fj (by omega),Nat.add_sub_cancel_left];show((iv u).toList++jr (S.drop (j+1)))[i]? =_;rw[du (by rw[D1];exact hi)];exact o
  exact⟨d 0 _ (by omega) rfl,d 1 _ (by omega) rfl,d 2 _ (by omega) rfl,d 3 _ (by omega) rfl,d 4 _ (by omega) rfl⟩
def Me (mea:Nat->Int×Int)(H T:Nat->Int)(k:Nat):Prop:=H k=(mea k).1/\T k=(mea k).2
def Okm (mea:Nat->Int×Int)(H T:Nat->Int)(k:Nat):Prop:=(H k=0/\T k=0)\/Me mea H T k
def lu (mea:Nat->Int×Int)(ρ:Nat->Nat)(n i:Nat)(H0 T0 H T:Nat->Int):Prop:= ∀k,k<n->k≠i->(ρ k<=ρ i->Okm mea H T k/\(Me mea H0 T0 k->Me mea H T k))/\(ρ i<ρ k->H k=H0 k/\T k=T0 k)
section
variable {mea:Nat->Int×Int} {ρ:Nat->Nat} {n i k0:Nat} {H0 T0 H T H' T':Nat->Int}
theorem lu.refl (h: ∀k,k<n->ρ k<=ρ i->Okm mea H0 T0 k):lu mea ρ n i H0 T0 H0 T0:=fun k a _=>⟨fun b=>⟨h k a b,id⟩,fun _=>⟨rfl,rfl⟩⟩
theorem lu.setH (h:lu mea ρ n i H0 T0 H T)(v:Int):lu mea ρ n i H0 T0 (upI H i v) T:=fun k b a=>by
 have:=h k b a;unfold Okm Me at this⊢;rw[xV _ _ a];exact this
theorem lu.setT (h:lu mea ρ n i H0 T0 H T)(v:Int):lu mea ρ n i H0 T0 H (upI T i v):=fun k b a=>by
 have:=h k b a;unfold Okm Me at this⊢;rw[xV _ _ a];exact this
theorem lu.pre (h:lu mea ρ n i H0 T0 H T)(c:ρ k0<ρ i): ∀k,k<n->ρ k<=ρ k0->Okm mea H T k:=fun k a b=>((h k a (fun e=>by subst e;omega)).1 (by omega)).1
theorem lu.call (h:lu mea ρ n i H0 T0 H T)(m:ρ k0<ρ i)(hi:i<n)(l:Me mea H' T' k0)(g:lu mea ρ n k0 H T H' T'):lu mea ρ n i H0 T0 H' T'/\H' i=H i/\T' i=T i:=by
 refine⟨fun k d f=>⟨fun c=> ?_,fun c=> ?_⟩,(g i hi (fun e=>by subst e;omega)).2 m⟩
 ·by_cases e:k=k0
  ·subst e;exact⟨.inr l,fun _=>l⟩
  ·have a:=(h k d f).1 c;by_cases j:ρ k<=ρ k0
   ·have b:=(g k d e).1 j;exact⟨b.1,fun q=>b.2 (a.2 q)⟩
   ·have b:=(g k d e).2 (by omega);unfold Okm Me at a⊢;rw[b.1,b.2];exact a
 ·have e:k≠k0:=fun e=>by subst e;omega
  have a:=(h k d f).2 c;have b:=(g k d e).2 (by omega);exact⟨b.1.trans a.1,b.2.trans a.2⟩
end
def v7 (mea:Nat->Int×Int)(ρ:Nat->Nat)(go n:Nat)(sv:Nat->Value)(i:Nat)(H0 T0:Nat->Int)(w:World)(r:Ending)(w':World):Prop:=r= .returned (.agg #[sv i,ag (mea i).1,ag (mea i).2])/\ ∃H' T',fC go n sv H' T' w'/\Me mea H' T' i/\lu mea ρ n i H0 T0 H' T'/\bo go w w'
theorem Ak:prog.underlying 140=some (.struct (prog.fieldsOf 140)):=by kernel_rfl
end
section
structure MJc (go n:Nat)(sv:Nat->Value)(H T:Nat->Int)(i:Nat)(h tt mh mt:Int)(w:World)(L:Nat->Bool)(W:World):Prop where
 st:fC go n sv (if L 14=true then upI H i mh else H) (if L 17=true then upI T i mt else T) W
 hi:i<n
 eH:H i=h
 eT:T i=tt
 kept:bo go w W
section
variable {go n i:Nat} {sv:Nat->Value} {H T:Nat->Int} {h tt mh mt:Int} {w W:World} {L:Nat->Bool}
theorem MJc.start (a:fC go n sv H T w)(hi:i<n)(eH:H i=h)(eT:T i=tt):MJc go n sv H T i h tt mh mt w (fun _=>false) w.drew:=⟨a.below (aI _ _).drew,hi,eH,eT,bo.of_below (aI _ _).drew⟩
theorem MJc.below {b:World}(a:MJc go n sv H T i h tt mh mt w L W)(c:aq W b):MJc go n sv H T i h tt mh mt w L b:=⟨a.st.below c,a.hi,a.eH,a.eT,a.kept.trans (bo.of_below c)⟩
theorem MJc.other (a:MJc go n sv H T i h tt mh mt w L W)(k:Nat)(b:k≠14)(c:k≠17):MJc go n sv H T i h tt mh mt w (fun q=>decide (k=q)||L q) W:=by
 refine⟨?_,a.hi,a.eH,a.eT,a.kept⟩;simpa[b,c] using a.st
theorem MJc.loadH (a:MJc go n sv H T i h tt mh mt w L W)(b:L 14=false):W.cell? (ae go (i*3+1))=some (ag h):=by
 have:=(a.st.cells a.hi).2.1;rw[b,ax (by simp),a.eH]at this;exact this
theorem MJc.loadT (a:MJc go n sv H T i h tt mh mt w L W)(b:L 17=false):W.cell? (ae go (i*3+2))=some (ag tt):=by
 have:=(a.st.cells a.hi).2.2.1;rw[b,ax (by simp),a.eT]at this;exact this
theorem MJc.cellH (a:MJc go n sv H T i h tt mh mt w L W): ∃v,W.cell? (ae go (i*3+1))=some (ag v)/\W.frozen? (ae go (i*3+1))=false:=⟨_,(a.st.cells a.hi).2.1,(a.st.cells a.hi).2.2.2.1⟩
theorem MJc.cellT (a:MJc go n sv H T i h tt mh mt w L W): ∃v,W.cell? (ae go (i*3+2))=some (ag v)/\W.frozen? (ae go (i*3+2))=false:=⟨_,(a.st.cells a.hi).2.2.1,(a.st.cells a.hi).2.2.2.2⟩
theorem MJc.storeH (a:MJc go n sv H T i h tt mh mt w L W)(b:L 14=false):MJc go n sv H T i h tt mh mt w (fun q=>decide (14=q)||L q) (W.setCell ⟨go,i*3+1,none⟩ (ag mh)):=by
 refine⟨?_,a.hi,a.eH,a.eT,a.kept.trans (iE W go (i*3+1) _)⟩;have:=a.st.setH mh a.hi;simp only[b,Bool.false_eq_true,if_false]at this;simpa using this
theorem MJc.storeT (a:MJc go n sv H T i h tt mh mt w L W)(b:L 17=false):MJc go n sv H T i h tt mh mt w (fun q=>decide (17=q)||L q) (W.setCell ⟨go,i*3+2,none⟩ (ag mt)):=by
 refine⟨?_,a.hi,a.eH,a.eT,a.kept.trans (iE W go (i*3+2) _)⟩;have:=a.st.setT mt a.hi;simp only[b,Bool.false_eq_true,if_false]at this;simpa using this
theorem MJc.fin (c:MJc go n sv H T i h tt mh mt w L W)(a:L 14=true)(b:L 17=true):fC go n sv (upI H i mh) (upI T i mt) W:=by
 have:=c.st;rw[a,b,aD rfl,aD rfl]at this;exact this
end
theorem tS (C:List (List In))(ρ:Nat->Nat)(a:Nat->Int×Int)(hR:rZ C ρ)(aT:qX (eU C a))(n go c:Nat)(hn:n=C.length)(da:n<=1000)(sv:Nat->Value)(Ss:Nat->List (In×Value))(hS: ∀k,k<n->(Ss k).map (fun u=>u.1)=C.getD k [])(hL: ∀k,k<n->1<=(Ss k).length/\(Ss k).length<=700)(hV: ∀k,k<n-> ∀u∈Ss k,∃p m c,u.2= .slice p m c)(i:Nat)(hi:i<n)(cs:a i=mj C a i)(h1:1<=(a i).2)
  (IH: ∀k,k<n->ρ k<ρ i-> ∀(H T:Nat->Int) (w:World),fC go n sv H T w->(∀q,q<n->jZ w (sv q) (Ss q))->(∀q,q<n->ρ q<=ρ k->Okm a H T q)->Calls prog 67 #[.slice (some (ae go 0)) n c,ag (k:Int)] w (v7 a ρ go n sv k H T w))
  (H0 T0:Nat->Int) (w:World) (S:fC go n sv H0 T0 w) (hq: ∀q,q<n->jZ w (sv q) (Ss q)) (aG: ∀q,q<n->ρ q<=ρ i->Okm a H0 T0 q):
  Calls prog 67 #[.slice (some (ae go 0)) n c,ag (i:Int)] w (v7 a ρ go n sv i H0 T0 w):=by
 obtain⟨g1,c1,a0,_⟩:=(hq i hi).form (hL i hi).1;obtain⟨Q,bs⟩:=au ((Ss i).length);have cg:=hL i hi;rw[bs]at a0 cg;have cE:(C.getD i []).length=Q:=by rw[<-hS i hi,ba,bs]
 have c2:PN (i<C.length):=hn▸hi;have aY:=a8 hn;have HQ:=a8 hq;have b1:=a8 S;have bA:=am w (.cells #[af,ag 0,ag 0] 140);have nA:=aE w (.cells #[af,ag 0,ag 0] 140);have an:=S.below bA;have co:=S.lt;obtain⟨P,bh⟩:=au w.heap.size;have cz:PN (w.heap.size<=P):=jW bh;have b:P≠go:=by omega
 have bB:=bo.of_below (g:=go) bA;generalize cL:w.alloc (.cells #[af,ag 0,ag 0] 140)=wA at*;rw[bh]at nA;have x0:=(an.cells hi).1;have x1:=(an.cells hi).2.1;have x2:=(an.cells hi).2.2.1;rw[a0]at x0;have cT:(0:Int)<=(i:Int):=by omega
 have cU:(i:Int)<(n:Int):=by omega
 have cV:(n:Int)<=1000:=by omega
 rcases aG i hi (aB _) with⟨zh,zt⟩|⟨zh,zt⟩
 ·rw[zh]at x1;rw[zt]at x2;have bZ:=a8 (lu.refl (n:=n) (i:=i) aG);have bW:=a8 an;have bT:=a8 bB;have bY:=a8 nA;have cd:=a8 zh;have ce:=a8 zt;clear S hq aG an bB bA zh zt hn nA;go_enter func67,ntmps67;go_wp2_with fail;clear x0 x1 x2 bh;go_loopw [6,8,9,26] (fun y _ _ t wr=> ∃(j:Nat) (H T:Nat->Int),t=ag (j:Int)/\j<=Q/\y=ag (hAt (C.getD i []) j)/\fC go n sv H T wr/\H i=mxH (eU C a) (C.getD i []) j/\T i=stS (eU C a) (C.getD i []) j/\lu a ρ n i H0 T0 H T/\bo go w wr/\wr.heap[P]? =ah #[af,ag 0,ag 0] 140) (fun _ _ _ t _=>Q-(intOf t).toNat);case atStart=>exact⟨0,H0,T0,rfl,by omega,rfl,bW.o,cd.o,ce.o,bZ.o,bT.o,bY.o⟩
  case round=>
   clear bW bT bY cd ce bZ cL;obtain⟨j,H,T,rfl,hj,rfl,aF,bb,a1,bn,a6,ao⟩:=hrel;have cW:(0:Int)<=(j:Int):=(by omega);obtain⟨y,a4⟩:=au (hAt (C.getD i []) j);obtain⟨h,bj⟩:=au (mxH (eU C a) (C.getD i []) j);obtain⟨tt,bq⟩:=au (stS (eU C a) (C.getD i []) j);have cC:=mY (C.getD i []) j;have cA:=rQ aT (C.getD i []) j;have cB:=rR aT (C.getD i []) j;rw[a4]at cC;rw[bj]at cA bb;rw[bq]at cB a1;rw[a4];have Z:=a8 a4;have X:=a8 bj;have ad:=a8 bq;have Y:=a8 bb;have cX:=cg.2;by_cases cY:j<Q
   ·have cq:(j:Int)<(Q:Int):=(by omega);obtain⟨u,bk⟩: ∃u,(Ss i)[j]? =some u:=⟨(Ss i)[j]'(by omega),az (by omega)⟩
    have hx:(C.getD i [])[j]? =some u.1:=(by rw[<-hS i hi,bg,bk];rfl);obtain⟨g',c',e',al⟩:=((HQ.o i hi).kept b1.o a6).form (hL i hi).1;rw[a0]at e';injection e' with e1 e2 e3;injection e1 with e1;injection e1 with e1 _ _;subst e1;clear e2 e3;obtain⟨d0,d1,d2,d3,d4⟩:=al j u bk;obtain⟨pv,nv,cv,cw⟩:=hV i hi u (aM bk);obtain⟨⟨op,xa,xb,xt,xs⟩,vv⟩:=u;dsimp only at d0 d1 d2 d3 d4 cw hx;subst cw;have bI:=am wr (.cells #[ag op,ag xa,ag xb,ag xt,.slice pv nv cv] 177);have nI:=aE wr (.cells #[ag op,ag xa,ag xb,ag xt,.slice pv nv cv] 177);have a7:=aF.below bI;have cn:=ai bI ao;have bD:=a6.trans (bo.of_below bI);have ch: ∀q,q<n->jZ (wr.alloc (.cells #[ag op,ag xa,ag xb,ag xt,.slice pv nv cv] 177)) (sv q) (Ss q):=fun q hq=>(HQ.o q hq).kept b1.o bD;have co:=aF.lt;obtain⟨g8,cD⟩:=au wr.heap.size;generalize dd:wr.alloc (.cells #[ag op,ag xa,ag xb,ag xt,.slice pv nv cv] 177)=wI at*;rw[cD]at nI;have zT:=(a7.cells hi).2.2.1;have yT:=(a7.cells hi).2.2.2.2;rw[a1]at zT;have bu:=a7.setT (tt+1) hi;have d:=a8 bu;have bw:=a8 (bD.trans (iE wI go (i*3+2) (ag (tt+1))));have av:=a8 ((aO wI ⟨go,i*3+2,none⟩ P (ag (tt+1)) b).trans cn);have aZ:=a8 (lu.setT bn (tt+1));have b3:PN (∀q,q<n->jZ (wI.setCell ⟨go,i*3+2,none⟩ (ag (tt+1))) (sv q) (Ss q)):=fun q hq=>(ch q hq).kept a7 (iE wI go (i*3+2) (ag (tt+1)));have bG:=(aO wI ⟨go,i*3+2,none⟩ g8 (ag (tt+1)) (by show g8≠go;omega)).trans nI;generalize db:wI.setCell ⟨go,i*3+2,none⟩ (ag (tt+1))=U at*;have cM:=ak 0 bG;have O:=a8 hx;have aa:=bw;have V:=av;have ac:=aZ;clear bI aF ao a6 ch a7 cn bD bu nI bk hx al bn bb a1 a4 bj bq;by_cases aP:op=1
    ·have e1:(op==1)=true:=(by simp[aP])
     have f:PN (hAt (C.getD i []) (j+1)=y+1):=by
      show _=_;rw[jG O.o,Z.o];unfold eff;dsimp only;rw[aD (.inl aP)];try omega
     have I:PN (max h (y+1)=mxH (eU C a) (C.getD i []) (j+1)):=by
      show _=_;rw[kN O.o,f.o,ax (by show¬op=8;omega),X.o]
     have G:PN (upI T i (tt+1) i=stS (eU C a) (C.getD i []) (j+1)):=by
      show _=_;rw[iV,jY O.o,ax (by show¬op=8;omega),ad.o];try omega
     have zH:=(d.o.cells hi).2.1;have yH:=(d.o.cells hi).2.2.2.1;rw[Y.o]at zH;obtain⟨m1,J⟩:=au (max h (y+1));have B:=a8 J;have D:=a8 (d.o.setH m1 hi);have A:=a8 (aa.o.trans (iE U go (i*3+1) (ag m1)));have z:=a8 ((aO U ⟨go,i*3+1,none⟩ P (ag m1) b).trans V.o);have E:=a8 (ac.o.setH m1);generalize aU:U.setCell ⟨go,i*3+1,none⟩ (ag m1)=wZ at*;clear aP;go_wp2_with fail;go_roundw;case rel=>exact⟨j+1,upI H i m1,upI T i (tt+1),by go_num,by omega,by rw[f.o],D.o,(iV _ _ _).trans (B.o.symm.trans I.o),G.o,E.o,A.o,z.o⟩
     case measure=>simp[intOf];omega
    have e1:(op==1)=false:=(by simpa using aP);by_cases ap:op=2
    ·have e2:(op==2)=true:=(by simp[ap])
     have f:PN (hAt (C.getD i []) (j+1)=y-1):=by
      show _=_;rw[jG O.o,Z.o];unfold eff;dsimp only;rw[ax (by omega),aD (by omega)];try omega
     have I:PN (max h (y-1)=mxH (eU C a) (C.getD i []) (j+1)):=by
      show _=_;rw[kN O.o,f.o,ax (by show¬op=8;omega),X.o]
     have G:PN (upI T i (tt+1) i=stS (eU C a) (C.getD i []) (j+1)):=by
      show _=_;rw[iV,jY O.o,ax (by show¬op=8;omega),ad.o];try omega
     have zH:=(d.o.cells hi).2.1;have yH:=(d.o.cells hi).2.2.2.1;rw[Y.o]at zH;obtain⟨m1,J⟩:=au (max h (y-1));have B:=a8 J;have D:=a8 (d.o.setH m1 hi);have A:=a8 (aa.o.trans (iE U go (i*3+1) (ag m1)));have z:=a8 ((aO U ⟨go,i*3+1,none⟩ P (ag m1) b).trans V.o);have E:=a8 (ac.o.setH m1);generalize aU:U.setCell ⟨go,i*3+1,none⟩ (ag m1)=wZ at*;clear ap;go_wp2_with fail;go_roundw;case rel=>exact⟨j+1,upI H i m1,upI T i (tt+1),by go_num,by omega,by rw[f.o],D.o,(iV _ _ _).trans (B.o.symm.trans I.o),G.o,E.o,A.o,z.o⟩
     case measure=>simp[intOf];omega
    have e2:(op==2)=false:=(by simpa using ap);by_cases aq:op=3
    ·have e3:(op==3)=true:=(by simp[aq])
     have f:PN (hAt (C.getD i []) (j+1)=y-1):=by
      show _=_;rw[jG O.o,Z.o];unfold eff;dsimp only;rw[ax (by omega),aD (by omega)];try omega
     have I:PN (max h (y-1)=mxH (eU C a) (C.getD i []) (j+1)):=by
      show _=_;rw[kN O.o,f.o,ax (by show¬op=8;omega),X.o]
     have G:PN (upI T i (tt+1) i=stS (eU C a) (C.getD i []) (j+1)):=by
      show _=_;rw[iV,jY O.o,ax (by show¬op=8;omega),ad.o];try omega
     have zH:=(d.o.cells hi).2.1;have yH:=(d.o.cells hi).2.2.2.1;rw[Y.o]at zH;obtain⟨m1,J⟩:=au (max h (y-1));have B:=a8 J;have D:=a8 (d.o.setH m1 hi);have A:=a8 (aa.o.trans (iE U go (i*3+1) (ag m1)));have z:=a8 ((aO U ⟨go,i*3+1,none⟩ P (ag m1) b).trans V.o);have E:=a8 (ac.o.setH m1);generalize aU:U.setCell ⟨go,i*3+1,none⟩ (ag m1)=wZ at*;clear aq;go_wp2_with fail;go_roundw;case rel=>exact⟨j+1,upI H i m1,upI T i (tt+1),by go_num,by omega,by rw[f.o],D.o,(iV _ _ _).trans (B.o.symm.trans I.o),G.o,E.o,A.o,z.o⟩
     case measure=>simp[intOf];omega
    have e3:(op==3)=false:=(by simpa using aq);by_cases ar:op=4
    ·have e4:(op==4)=true:=(by simp[ar])
     have f:PN (hAt (C.getD i []) (j+1)=y-1):=by
      show _=_;rw[jG O.o,Z.o];unfold eff;dsimp only;rw[ax (by omega),aD (by omega)];try omega
     have I:PN (max h (y-1)=mxH (eU C a) (C.getD i []) (j+1)):=by
      show _=_;rw[kN O.o,f.o,ax (by show¬op=8;omega),X.o]
     have G:PN (upI T i (tt+1) i=stS (eU C a) (C.getD i []) (j+1)):=by
      show _=_;rw[iV,jY O.o,ax (by show¬op=8;omega),ad.o];try omega
     have zH:=(d.o.cells hi).2.1;have yH:=(d.o.cells hi).2.2.2.1;rw[Y.o]at zH;obtain⟨m1,J⟩:=au (max h (y-1));have B:=a8 J;have D:=a8 (d.o.setH m1 hi);have A:=a8 (aa.o.trans (iE U go (i*3+1) (ag m1)));have z:=a8 ((aO U ⟨go,i*3+1,none⟩ P (ag m1) b).trans V.o);have E:=a8 (ac.o.setH m1);generalize aU:U.setCell ⟨go,i*3+1,none⟩ (ag m1)=wZ at*;clear ar;go_wp2_with fail;go_roundw;case rel=>exact⟨j+1,upI H i m1,upI T i (tt+1),by go_num,by omega,by rw[f.o],D.o,(iV _ _ _).trans (B.o.symm.trans I.o),G.o,E.o,A.o,z.o⟩
     case measure=>simp[intOf];omega
    have e4:(op==4)=false:=(by simpa using ar);by_cases x:op=8
    ·have e8:(op==8)=true:=(by simp[x]);obtain⟨cl,bd,bm⟩:=hR.lt i j _ c2.o O.o x;dsimp only at cl bd bm;obtain⟨k0,b8⟩: ∃k0:Nat,xa=(k0:Int):=⟨xa.toNat,by omega⟩
     have L:k0<n:=(by rw[aY.o];rw[b8]at bd;simpa using bd);have aS:ρ k0<ρ i:=(by rw[b8]at bm;simpa using bm);subst b8;have cR:=IH k0 L aS _ _ U d.o (fun q cG=>b3.o q cG) (aZ.o.pre aS);obtain⟨h9,bi⟩:=au ((a k0).1);obtain⟨s9,bp⟩:=au ((a k0).2);have b5:=(aT.hi k0)
     have a2:=(aT.st k0)
     rw[mH (by rw[<-aY.o];exact L)]at b5 a2;dsimp only at b5 a2;rw[bi]at b5;rw[bp]at a2;unfold v7 at cR;rw[bi,bp]at cR;obtain⟨gk,ck,bv,_⟩:=(b3.o k0 L).form (hL k0 L).1;rw[bv]at cR;obtain⟨lk,cp⟩:=au ((Ss k0).length);rw[cp]at cR;obtain⟨t9,cH⟩:=au (tt+1+s9);obtain⟨m0,cr⟩:=au (max h (y+h9));have cQ:=a8 cr;have a3:0<=t9/\t9<=99999999:=(by omega);have cP:IntKind.i64.wrap t9=t9:=(by rw[bz];omega);have cO:IntKind.i64.wrap (y+h9)=y+h9:=(by rw[bz];omega);have c9:=a3.1;have c8:=a3.2
     have f:PN (hAt (C.getD i []) (j+1)=y+1):=by
      show _=_;rw[jG O.o,Z.o];unfold eff;dsimp only;rw[aD (.inr x)]
     have I:PN (max m0 (y+1)=mxH (eU C a) (C.getD i []) (j+1)):=by
      show _=_;rw[kN O.o,f.o,aD x,X.o,Z.o];dsimp only;rw[cj,mH (by rw[<-aY.o];exact L),<-cr,<-bi]
     have c4:PN (t9=stS (eU C a) (C.getD i []) (j+1)):=by
      show _=_;rw[jY O.o,aD x,ad.o,<-cH];dsimp only;rw[cj,mH (by rw[<-aY.o];exact L),<-bp]
     have cN:=ak 1 bG;clear bi bp cl bd bm x bv cp;go_wp2_with fail;refine cR.mono ?_;rintro r w2 ⟨rfl,Hc,Tc,bF,bt,ct,bl⟩;obtain⟨aR,cf,ci⟩:=aZ.o.call aS hi bt ct;have c0:PN (Hc i=h):=cf.trans Y.o;have c6:PN (Tc i=tt+1):=ci.trans (iV _ _ _);have bC:=am w2 (.cells #[.slice (some (ae gk 0)) lk ck,ag h9,ag s9] 140);have n9:=aE w2 (.cells #[.slice (some (ae gk 0)) lk ck,ag h9,ag s9] 140);have bx:=a8 (bF.below bC);have bR:=a8 ((bw.o.trans bl).trans (bo.of_below bC));have bO:=a8 ((bC.block _ (aH ((bl.block _ (aH av.o) (fun e=>b (aN e))).trans av.o))).trans ((bl.block _ (aH av.o) (fun e=>b (aN e))).trans av.o));have ca:=a8 aR;obtain⟨g9,be⟩:=au w2.heap.size;have b6:g9≠go:=(by have:=bF.lt;omega);generalize dc:w2.alloc (.cells #[.slice (some (ae gk 0)) lk ck,ag h9,ag s9] 140)=w3 at*;rw[be]at n9;have bX:=a8 n9;have bM:=(bx.o.cells hi).2.2.1;rw[c6.o]at bM;have br:=ak 2 n9;have G:PN (upI Tc i t9 i=stS (eU C a) (C.getD i []) (j+1)):=(iV _ _ _).trans c4.o;clear cR bF bt ct bl aR cf ci bC n9 d b3 aZ bw av bG cM cN;go_wp2_with fail;refine jN 9 [kn 55 (ab go (i*3)),kn 56 (ab go (i*3)),kn 57 (ab go (i*3+2)),kn 58 (ag (tt+1)),kn 59 (ab g9 2),kn 60 (ag s9),kn 61 (ag t9),kn 62 (ab go (i*3)),kn 63 (ab go (i*3+2)),nk] (by kernel_rfl) (by kernel_rfl) fun M φ W _ s F l hl hF=> ?_;have bH:=aj s bM;have bJ:=aj s br;simp only[kn,nk,dW,aQ,aX,Act.put,aA,aK,aJ]at hl;subst hl;simp only[cZ,Nat.reduceAdd]at hF;dsimp only[kn,nk,dB,eN,eg,Act.put];and_intros;all_goals first|exact trivial|intro hw hn S K hK
     all_goals try (go_simp;with_reducible exact hK _ _ ⟨rfl,aI _ _⟩)
     clear bH bJ;have N:=a8 (bx.o.below s);have zq:=(N.o.cells hi).2.2.1;have yq:=(N.o.cells hi).2.2.2.2;have bE:=N.o.setT t9 hi;have bV:=a8 bE;have bL:=(bE.cells hi).2.1;rw[c0.o]at bL;have bS:=a8 ((bR.o.trans (bo.of_below s)).trans (iE W go (i*3+2) (ag t9)));have bP:=a8 ((aO W ⟨go,i*3+2,none⟩ P (ag t9) b).trans (ai s bO.o));have cb:=a8 (ca.o.setT t9);have cx:=(aO W ⟨go,i*3+2,none⟩ g9 (ag t9) b6).trans (ai s bX.o);generalize cI:W.setCell ⟨go,i*3+2,none⟩ (ag t9)=w4 at*;have bK:=ak 1 cx;go_simp;refine hK undef _ ⟨trivial,fun c=>by simp at c,fun _=> ?_⟩;simp only[eh,aQ,aX,Act.put,aA,aK,aJ];clear hF hw hn S;clear hK s zq yq cI bM br bx bR bO ca N cx bX bE;have br:=bK;go_wp2_with fail;refine jN 12 [kn 64 (ab go (i*3)),kn 65 (ab go (i*3)),kn 66 (ab go (i*3)),kn 67 (ab go (i*3+1)),kn 68 (ag h),kn 69 (ag y),kn 70 (ab g9 1),kn 71 (ag h9),kn 72 (ag (y+h9)),kn 73 (ag m0),kn 74 (ab go (i*3)),kn 75 (ab go (i*3+1)),nk] (by kernel_rfl) (by kernel_rfl) fun M φ W _ s F ll hl hF=> ?_;have bH:=aj s bL;have bJ:=aj s bK;simp only[kn,nk,dW,aQ,aX,Act.put,aA,aK,aJ]at hl;subst hl;simp only[cZ,Nat.reduceAdd]at hF;dsimp only[kn,nk,dB,eN,eg,Act.put];and_intros;all_goals first|exact trivial|intro hw hn S K hK
     all_goals try (go_simp;with_reducible exact hK _ _ ⟨rfl,aI _ _⟩)
     clear bH bJ;have N:=a8 (bV.o.below s);have zq:=(N.o.cells hi).2.1;have yq:=(N.o.cells hi).2.2.2.1;have b0:=a8 (N.o.setH m0 hi);have c3:=a8 ((bS.o.trans (bo.of_below s)).trans (iE W go (i*3+1) (ag m0)));have cy:=a8 ((aO W ⟨go,i*3+1,none⟩ P (ag m0) b).trans (ai s bP.o));have ac:=a8 (cb.o.setH m0);generalize cJ:W.setCell ⟨go,i*3+1,none⟩ (ag m0)=w5 at*;go_simp;refine hK undef _ ⟨trivial,(fun c=>by simp at c),fun _=> ?_⟩;simp only[eh,aQ,aX,Act.put,aA,aK,aJ];clear hK hF hw hn S s zq yq cJ bL bK br bV bS bP cb N;have aa:=c3;have V:=cy;have cu:upI Hc i m0 i=m0:=iV _ _ _;have c7:=a8 cu;clear cu;have zH:=(b0.o.cells hi).2.1;have yH:=(b0.o.cells hi).2.2.2.1;rw[c7.o]at zH;obtain⟨m1,J⟩:=au (max m0 (y+1));have B:=a8 J;have D:=a8 (b0.o.setH m1 hi);have A:=a8 (aa.o.trans (iE w5 go (i*3+1) (ag m1)));have z:=a8 ((aO w5 ⟨go,i*3+1,none⟩ P (ag m1) b).trans V.o);have E:=a8 (ac.o.setH m1);generalize aU:w5.setCell ⟨go,i*3+1,none⟩ (ag m1)=wZ at*;go_wp2_with fail;go_roundw;case rel=>exact⟨j+1,upI (upI Hc i m0) i m1,upI Tc i t9,by go_num,by omega,by rw[f.o],D.o,(iV _ _ _).trans (B.o.symm.trans I.o),G.o,E.o,A.o,z.o⟩
     case measure=>simp[intOf];omega
    have e8:(op==8)=false:=(by simpa using x)
    have f:PN (hAt (C.getD i []) (j+1)=y):=by
     show _=_;rw[jG O.o,Z.o];unfold eff;dsimp only;rw[ax (by omega),ax (by omega)];simp
    have I:PN (max h (y)=mxH (eU C a) (C.getD i []) (j+1)):=by
     show _=_;rw[kN O.o,f.o,ax (by show¬op=8;omega),X.o]
    have G:PN (upI T i (tt+1) i=stS (eU C a) (C.getD i []) (j+1)):=by
     show _=_;rw[iV,jY O.o,ax (by show¬op=8;omega),ad.o];try omega
    have zH:=(d.o.cells hi).2.1;have yH:=(d.o.cells hi).2.2.2.1;rw[Y.o]at zH;obtain⟨m1,J⟩:=au (max h (y));have B:=a8 J;have D:=a8 (d.o.setH m1 hi);have A:=a8 (aa.o.trans (iE U go (i*3+1) (ag m1)));have z:=a8 ((aO U ⟨go,i*3+1,none⟩ P (ag m1) b).trans V.o);have E:=a8 (ac.o.setH m1);generalize aU:U.setCell ⟨go,i*3+1,none⟩ (ag m1)=wZ at*;clear aP ap aq ar x;go_wp2_with fail;go_roundw;case rel=>exact⟨j+1,upI H i m1,upI T i (tt+1),by go_num,by omega,by rw[f.o],D.o,(iV _ _ _).trans (B.o.symm.trans I.o),G.o,E.o,A.o,z.o⟩
    case measure=>simp[intOf];omega
   ·have cq: ¬(j:Int)<(Q:Int):=(by omega);obtain rfl:Q=j:=(by omega);obtain⟨mh,aC⟩:=au (min h 101);obtain⟨mt,aw⟩:=au (min tt 20001)
    have b4:PN (a i=(mh,mt)):=by
     show _=_;rw[cs];unfold mj;rw[cE,X.o,ad.o,aC,aw]
    have c5:=a8 a1;have bQ:=a8 aF;have cc:=a8 bn;have bU:=a8 a6;have bN:=a8 ao;clear aF bn a6 ao a4 bj bq bb a1;go_wp2_with fail;refine dh (fun M _ W=>MJc go n sv H T i h tt mh mt wr M W) [kn 88 (ab go (i*3)),kn 89 (ab go (i*3)),kn 90 (ab go (i*3)),kn 91 (ab go (i*3)),kn 92 (ab go (i*3+1)),dk 93 (ag h),dk 94 (ag mh),kn 95 (ab go (i*3)),kn 96 (ab go (i*3)),kn 97 (ab go (i*3+2)),dk 98 (ag tt),dk 99 (ag mt),kn 100 (ab go (i*3)),kn 101 (ab go (i*3+1)),nk,kn 102 (ab go (i*3)),kn 103 (ab go (i*3+2)),nk] (fun _=>MJc.start bQ.o hi Y.o c5.o) (fun _ _ _ _ hb h=>h.below hb) (by kernel_rfl) (fun M φ W2 s al F ll hl hF=> ?_) (fun M φ W2 hM s=> ?_)
    ·simp only[kn,dk,nk,dW,aQ,aX,Act.put,aA,aK,aJ]at hl;subst hl;simp only[cZ,Nat.reduceAdd]at hF;dsimp only[kn,dk,nk,dB,eN,eg,Act.put];and_intros;all_goals first|exact trivial|intro hw hn S K hK
     all_goals try (go_simp;with_reducible exact hK _ _ ⟨rfl,aI _ _⟩)
     ·have zz:=s.loadH (by
       cases q:M 14 with
       |false=>rfl
       |true=>rw[al 6 _ rfl (al 14 _ rfl q ⟨6,.data⟩ (by simp) rfl rfl) ⟨5,.data⟩ (by simp) rfl rfl]at S;cases S)
      go_simp;exact hK _ _ ⟨rfl,s.other 5 (by decide) (by decide)⟩
     ·go_simp;exact hK _ _ ⟨rfl,s.other 6 (by decide) (by decide)⟩
     ·have zz:=s.loadT (by
       cases q:M 17 with
       |false=>rfl
       |true=>rw[al 11 _ rfl (al 17 _ rfl q ⟨11,.data⟩ (by simp) rfl rfl) ⟨10,.data⟩ (by simp) rfl rfl]at S;cases S)
      go_simp;exact hK _ _ ⟨rfl,s.other 10 (by decide) (by decide)⟩
     ·go_simp;exact hK _ _ ⟨rfl,s.other 11 (by decide) (by decide)⟩
     ·obtain⟨v9,zz,yy⟩:=s.cellH;have b7:=s.storeH S;generalize cK:W2.setCell ⟨go,i*3+1,none⟩ (ag mh)=w9 at*;go_simp;exact hK undef _ ⟨trivial,b7⟩
     ·obtain⟨v9,zz,yy⟩:=s.cellT;have b7:=s.storeT S;generalize cK:W2.setCell ⟨go,i*3+2,none⟩ (ag mt)=w9 at*;go_simp;exact hK undef _ ⟨trivial,b7⟩
    ·have R:=s.fin (hM 14 (by decide) rfl) (hM 17 (by decide) rfl);have b9:=s.kept;have be:=(b9.block _ (aH bN.o) (fun e=>b (aN e))).trans bN.o;have y0:=(R.cells hi).1;have y1:=(R.cells hi).2.1;have y2:=(R.cells hi).2.2.1;rw[iV]at y1 y2;rw[a0]at y0;have nR:=aL _ _ _ #[.slice (some (ae g1 0)) Q c1,ag mh,ag mt] _ _ be;have a9:=R.same (aV W2 P go #[.slice (some (ae g1 0)) Q c1,ag mh,ag mt] (fun e=>b e.symm))
     have HN:PN (v7 a ρ go n sv i H0 T0 w (.returned (.agg #[.slice (some (ae g1 0)) Q c1,ag mh,ag mt])) (W2.setRow P #[.slice (some (ae g1 0)) Q c1,ag mh,ag mt])):=by
      refine⟨by rw[a0,b4.o],_,_,a9,⟨by rw[b4.o];exact iV _ _ _,by rw[b4.o];exact iV _ _ _⟩,(cc.o.setH mh).setT mt,?_⟩;have a5:=bU.o.trans b9;exact⟨a5.os,a5.tape,a5.output,bf a5.size (by simp),fun q hq cF=>(aV W2 P q _ (fun e=>by have:=cz.o;omega)).trans (a5.block q hq cF)⟩
     have b2:=a8 nR;clear s hM R b9 a9 cc bU bQ nR;simp only[kn,dk,nk,eh,aQ,aX,Act.put,aA,aK,aJ];go_wp2_with(refine ay rfl 140 _ _ rfl _ _ rfl rfl _ _ be (by kernel_rfl) (by simp) (by simp[Value.oneCell']) ?_)
     refine aW (v:= .agg #[.slice (some (ae g1 0)) Q c1,ag mh,ag mt]) ?_ rfl HN.o;exact bc rfl _ _ P _ _ _ _ rfl b2.o Ak rfl (by kernel_rfl)
 ·obtain⟨mh,aC⟩:=au ((a i).1);obtain⟨mt,aw⟩:=au ((a i).2);rw[zh,aC]at x1;rw[zt,aw]at x2;rw[aw]at h1;have cS:0<mt:=(by omega);have nR:=aL _ _ _ #[.slice (some (ae g1 0)) Q c1,ag mh,ag mt] _ _ nA;have a9:=an.same (aV wA P go #[.slice (some (ae g1 0)) Q c1,ag mh,ag mt] (fun e=>b e.symm));have cm:=below_setRow bA (jW bh) #[.slice (some (ae g1 0)) Q c1,ag mh,ag mt]
  have HN:PN (v7 a ρ go n sv i H0 T0 w (.returned (.agg #[.slice (some (ae g1 0)) Q c1,ag mh,ag mt])) (wA.setRow P #[.slice (some (ae g1 0)) Q c1,ag mh,ag mt])):=
   ⟨by rw[a0,aC,aw],H0,T0,a9,⟨zh,zt⟩,lu.refl aG,bo.of_below cm⟩
  have b2:=a8 nR;clear S hq aG an bB bA zh zt hn nR a9 cm h1 aC aw cs HQ b1 IH hS hL hV hR aT;go_enter func67,ntmps67;go_wp2_with(refine ay rfl 140 _ _ rfl _ _ rfl rfl _ _ nA (by kernel_rfl) (by simp) (by simp[Value.oneCell']) ?_)
  refine aW (v:= .agg #[.slice (some (ae g1 0)) Q c1,ag mh,ag mt]) ?_ rfl HN.o;exact bc rfl _ _ P _ _ _ _ rfl b2.o Ak rfl (by kernel_rfl)
end
theorem vy (w0:World)(gm:Nat)(mp:Value)(l:List Ru)(k:Ex)(p:Option Addr)(q:Nat)(op a b:Int)(S:List (In×Value))(w:World)(h:WOk w0 gm mp S w)(hC:Fq w0 gm mp l k (.slice p k.kids.length q))(hS:S.length+1+jb k<=700)(R:(bL (atP5 l) k (S.length+1)).length<=700):
  Calls prog 94 #[ab gm 0,.agg #[ag op,ag a,ag b,ag 0,af],.agg #[ag k.kind,ag k.a,ag k.b,.string ⟨k.name.toArray⟩,.slice p k.kids.length q]] w (nL w0 gm mp S (⟨op,a,b,((S.length+1+(bL (atP5 l) k (S.length+1)).length:Nat):Int),[]⟩::bL (atP5 l) k (S.length+1)) w):=by
 have ay:PN ((bL (atP5 l) k (S.length+1)).length<=700):=R;have av:=a8 h.lt;have bA:=am w (.cells #[ag op,ag a,ag b,ag 0,af] 177);have nA:=aE w (.cells #[ag op,ag a,ag b,ag 0,af] 177);have hA:=h.below bA;obtain⟨gA,a0⟩:=au w.heap.size;generalize a7:w.alloc (.cells #[ag op,ag a,ag b,ag 0,af] 177)=wA at*;rw[a0]at nA;have bB:=am wA (.cells #[ag k.kind,ag k.a,ag k.b,.string ⟨k.name.toArray⟩,.slice p k.kids.length q] 102);have nB:=aE wA (.cells #[ag k.kind,ag k.a,ag k.b,.string ⟨k.name.toArray⟩,.slice p k.kids.length q] 102);have hB:=hA.below bB;have an:=ai bB nA;have aF:=hA.lt;obtain⟨gB,a1⟩:=au wA.heap.size;generalize a9:wA.alloc (.cells #[ag k.kind,ag k.a,ag k.b,.string ⟨k.name.toArray⟩,.slice p k.kids.length q] 102)=wB at*;rw[a1]at nB;have a3:gB≠gm:=by omega
 have P:PN (Fr2 gm w wB):=Fr2.below av.o (aw bA bB);obtain⟨_,hgt,sv,n1,D⟩:=id hB.st;obtain⟨p0,c0,a4⟩:=df D;subst a4;have z1:=ak 1 n1;have cP:=uT hB ⟨op,a,b,0,[]⟩ (af) (ib.nil _ _ _) (by omega);dsimp only at cP;have aM:(0:Int)<=(S.length:Int):=by omega
 have aN:(S.length:Int)<=700:=by omega
 have ax:=a8 hgt;have ar:=a8 hB.st;clear bA bB hA hB D nA hgt n1 h;go_enter func94,ntmps94
 go_wp2_with(first
  |(refine aR rfl 177 _ rfl _ rfl _ _ _ _ an v6 rfl (by kernel_rfl) ?_))
 refine cP.mono ?_;rintro L w2 ⟨rfl,C,n⟩;have ao:=(Fr2.fr ar.o n) _ _ _ nB (by decide) a3;have cE:=hC _ w2 C (by rw[aP,dP];exact hS);unfold exV at cE;have O:=a8 (P.o.trans n);clear cP C n z1 nB an a9 a7
 go_wp2_with(first
  |(refine aR rfl 102 _ rfl _ rfl _ _ _ _ ao fd rfl (by kernel_rfl) ?_))
 refine cE.mono ?_;rintro e2 w3 ⟨rfl,G,x,ad,B⟩;rw[aP,dP]at x;have U:=a8 x;have Q:=a8 (O.o.trans B);obtain⟨⟨W,_,aB,J,own3⟩,s⟩:=ad;have eS:(S++[((⟨op,a,b,0,[]⟩:In),af)])++G=S++((⟨op,a,b,0,[]⟩,af)::G):=by simp
 rw[eS]at own3 s;obtain⟨f,H⟩:=au ((S++(((⟨op,a,b,0,[]⟩:In),af)::G)).length);rw[H]at own3;have v:PN (f=S.length+1+G.length):=by show _=_;rw[<-H];simp;omega
 obtain⟨d,c3,a5⟩: ∃d c3,aB= .slice (some (ae d 0)) f c3:=by
  rcases own3.2 with⟨_,e⟩|⟨g',cap,i,e,_⟩
  ·have:=v.o;omega
  ·exact⟨g',cap,e⟩
 subst a5;have aD:=ak 1 J;have az:=a8 own3;have y:=a8 s;have ap:=a8 W
 have a2:f<=2000:=by
  have h1:=v.o;have V:=congrArg List.length x;rw[ba]at V;have h3:=ay.o;omega
 have aG:(S.length:Int)<(f:Int):=by have:=v.o;omega
 have aL:(f:Int)<=2000:=by omega
 clear cE x B own3 s W eS H ao O P;go_wp2_with fail;refine jN 12 [kn 18 (ab gm 0),kn 19 (ab gm 0),kn 20 (ab gm 1),kn 21 (.slice (some (ae d 0)) f c3),kn 22 (ag (S.length:Int)),kn 23 (ab gm 0),kn 24 (ab gm 0),kn 25 (ab gm 1),kn 26 (.slice (some (ae d 0)) f c3),kn 27 (ag (f:Int)),kn 28 (ab d (S.length*5)),kn 29 (ab d (S.length*5+3)),nk] (by kernel_rfl) (by kernel_rfl) fun M φ m _ z F l hl hF=> ?_;have aC:=aj z aD;simp only[kn,nk,dW,aQ,aX,Act.put,aA,aK,aJ]at hl;subst hl;simp only[cZ,Nat.reduceAdd]at hF;dsimp only[kn,nk,dB,eN,eg,Act.put];and_intros;all_goals first|exact trivial|intro hw hn hm K hK
 all_goals try (go_simp;with_reducible exact hK _ _ ⟨rfl,aI _ _⟩)
 clear aC;have j:=io az.o z;have E:=NX (f:Int) j
 have al: ∃i,m.heap[d]? =ah i 177/\S.length*5+3<i.size:=by
  rcases j.2 with⟨e,_⟩|⟨g',cap,i,e,_,hg,hn,_,hs,_⟩
  ·cases e
  ·injection e with L _ e3;injection L with L;injection L with L _ _;subst L e3;exact⟨i,hg,by omega⟩
 obtain⟨i,g,Y⟩:=al;have ck:m.cell? (ae d (S.length*5+3))=some (i[S.length*5+3]'Y):=(aZ _ _ _ _ _ _ g).trans (fP Y);have yk:m.frozen? (ae d (S.length*5+3))=false:=bl _ _ _ _ _ g;have t:=ai z J
 have Z:gm≠d:=fun e=>by
  rw[e,g]at t;injection t with t;injection t with _ V _;exact absurd V (by decide)
 have n5:=(aO m ⟨d,S.length*5+3,none⟩ gm (ag (f:Int)) Z).trans t;have X:aq w0 (m.setCell ⟨d,S.length*5+3,none⟩ (ag (f:Int))):=(aw ap.o z).setCell (p:=⟨d,S.length*5+3,none⟩) ((j.lt d rfl).1) _
 have r:Fr gm m (m.setCell ⟨d,S.length*5+3,none⟩ (ag (f:Int))):=fun q c T N hT _=>by
  refine(aO m ⟨d,S.length*5+3,none⟩ q _ (fun e=> ?_)).trans N;rw[show q=d from e,g]at N;injection N with N;injection N with _ V _;exact absurd V.symm hT
 have A:Fr2 gm m (m.setCell ⟨d,S.length*5+3,none⟩ (ag (f:Int))):=by
  refine⟨fun q N _ hr=>aO m ⟨d,S.length*5+3,none⟩ q _ (fun e=>hr ?_),.inl ?_,by simp⟩
  ·rw[oG t,show q=d from e];rfl
  ·rw[oG n5,oG t]
 have ac:=v.o
 have HN:PN (nL w0 gm mp S (⟨op,a,b,((S.length+1+(bL (atP5 l) k (S.length+1)).length:Nat):Int),[]⟩::bL (atP5 l) k (S.length+1)) w (.returned (.tuple #[])) (m.setCell ⟨d,S.length*5+3,none⟩ (ag (f:Int)))):=by
  refine⟨rfl,(⟨op,a,b,(f:Int),[]⟩,af)::G,?_,⟨⟨X,ax.o,_,n5,?_⟩,fun u I=> ?_⟩,(Q.o.trans (Fr2.below (aH J) z)).trans A⟩
  ·rw[dI,U.o];have hl:=congrArg List.length U.o;rw[ba]at hl;rw[<-hl,show S.length+1+G.length=f by omega]
  ·have aa:(S++((⟨op,a,b,(f:Int),[]⟩,af)::G)).length=f:=(by simp;omega);rw[aa];exact E
  ·rcases bU.1 I with I|I
   ·exact(((y.o u (by simp[I])).below z).fr t r)
   ·rcases bv.1 I with rfl|I
    ·exact ib.nil _ _ _
    ·exact(((y.o u (by simp[I])).below z).fr t r)
 clear j E t n5 X r A ac g;generalize a6:m.setCell ⟨d,S.length*5+3,none⟩ (ag (f:Int))=w9 at*;go_simp;refine hK undef _ ⟨trivial,fun c=>by simp at c,fun _=> ?_⟩;simp only[eh,aQ,aX,Act.put,aA,aK,aJ];clear hF hw hn hm;clear hK z ck yk a6;go_wp2_with fail;exact⟨rfl,_,eO rfl _ _ _,HN.o⟩
theorem Al: ∀(a:List (Nat->List In)) (f:Nat->List In) (b:Nat),kh (a++[f]) b=kh a b++f (b+(kh a b).length)
 |[],f,b=>by simp[kh]
 |g::a,f,b=>by
  have c:=Al a f (b+(g b).length);show g b++kh (a++[f]) (b+(g b).length)=(g b++kh a (b+(g b).length))++_;rw[c,eo];congr 2;show f _=f (b+(g b++kh a (b+(g b).length)).length);rw[aP,<-Nat.add_assoc]
def KW (d:World)(gm:Nat)(f:Value)(l:List Ru)(sl:Value)(e:List Ex):Prop:=
 ∃g o c:Nat,sl= .slice (some (ae g o)) e.length c/\g<d.heap.size/\e.length<9223372036854775808/\ ∀(j:Nat) (k:Ex),e[j]? =some k-> ∃(p:Option Addr) (q:Nat),
  d.cell? (ae g (o+j*5))=some (ag k.kind)/\d.cell? (ae g (o+j*5+1))=some (ag k.a)/\d.cell? (ae g (o+j*5+2))=some (ag k.b)/\
  d.cell? (ae g (o+j*5+3))=some (.string ⟨k.name.toArray⟩)/\d.cell? (ae g (o+j*5+4))=some (.slice p k.kids.length q)/\Fq d gm f l k (.slice p k.kids.length q)
def kY (l:List Ru)(a:List Ex)(j b:Nat):List In:=kh ((a.take j).map (bL (atP5 l))) b
theorem C9 {l:List Ru}{a:List Ex}{j b:Nat}{k:Ex}(h:a[j]? =some k):kY l a (j+1) b=kY l a j b++bL (atP5 l) k (b+(kY l a j b).length):=by
 unfold kY;rw[fD,h,dN];exact Al _ _ _
theorem pP (E:World)(gm:Nat)(D:Value)(l:List Ru)(d:List Ex)(sl:Value)(op a:Int)(S:List (In×Value))(q:World)(h:WOk E gm D S q)(hk:KW E gm D l sl d)(L: ∀(j:Nat) (k:Ex),d[j]? =some k->S.length+(kY l d j S.length).length+jb k<=700)(N:S.length+(kY l d d.length S.length).length<=700):
  Calls prog 95 #[ab gm 0,sl,.agg #[ag op,ag a,ag 0,ag 0,af]] q (nL E gm D S (kh (d.map (bL (atP5 l))) S.length++[⟨op,a,0,0,[]⟩]) q):=by
 have X:=a8 L;have Y:=a8 N;obtain⟨g,o,c,ah,ao,aq,y⟩:=hk;subst ah;have G:=a8 y;have R:=am q (.cells #[ag op,ag a,ag 0,ag 0,af] 177);have U:=aE q (.cells #[ag op,ag a,ag 0,ag 0,af] 177);have hA:=h.below R;obtain⟨T,K⟩:=au q.heap.size;have an:gm<T:=by rw[<-K];exact h.lt
 have W:=a8 (Fr2.below h.lt R)
 have ac:PN (tR gm (q.alloc (.cells #[ag op,ag a,ag 0,ag 0,af] 177))≠some T):=by
  show _≠_;obtain⟨_,_,sv,n1,Q⟩:=h.st;rw[oG (ai R n1)];intro e;have:=(Q.lt _ e).2;omega
 generalize ak:q.alloc (.cells #[ag op,ag a,ag 0,ag 0,af] 177)=wA at*;rw[K]at U;have aa:=a8 U;have HA:=a8 hA;have ad:T<wA.heap.size:=aH U;clear R U hA h L N y;go_enter func95,ntmps95;go_wp2_with fail;go_loopw [7,10] (fun _ t wr=> ∃(j:Nat) (i:List (In×Value)),t=ag (j:Int)/\j<=d.length/\i.map (fun u=>u.1)=kY l d j S.length/\WOk E gm D (S++i) wr/\Fr2 gm wA wr) (fun _ t _=>d.length-(intOf t).toNat);case atStart=>exact⟨0,[],rfl,by omega,rfl,by rw[il];exact HA.o,Fr2.below (by omega) (aI _ _)⟩
 case round=>
  obtain⟨j,i,rfl,hj,m,f,n⟩:=hrel;clear HA ak;have ap:(0:Int)<=(j:Int):=(by omega);have p:i.length=(kY l d j S.length).length:=(by rw[<-m,ba]);by_cases ae:j<d.length
  ·have M:(j:Int)<(d.length:Int):=(by omega);obtain⟨k,s⟩: ∃k,d[j]? =some k:=⟨d[j],az ae⟩
   obtain⟨pk,ck,d0,d1,d2,d3,d4,O⟩:=G.o j k s;have C:=f.st.bel;have f0:=aj C d0;have f1:=aj C d1;have f2:=aj C d2;have f3:=aj C d3;have f4:=aj C d4;have bB:=am wr (.cells #[ag k.kind,ag k.a,ag k.b,.string ⟨k.name.toArray⟩,.slice pk k.kids.length ck] 102);have nB:=aE wr (.cells #[ag k.kind,ag k.a,ag k.b,.string ⟨k.name.toArray⟩,.slice pk k.kids.length ck] 102);have B:=f.below bB;have x:=n.trans (Fr2.below f.lt bB);have cE:=O _ _ B (by rw[aP,p];exact X.o j k s);unfold exV at cE
   have I:PN (i.map (fun u=>u.1)++bL (atP5 l) k (S++i).length=kY l d (j+1) S.length):=by
    show _=_;rw[C9 s,m,aP,p]
   generalize al:wr.alloc (.cells #[ag k.kind,ag k.a,ag k.b,.string ⟨k.name.toArray⟩,.slice pk k.kids.length ck] 102)=wB at*;have F:=a8 x;clear d0 d1 d2 d3 d4 O s bB f n B x m C p;go_wp2_with(refine aR rfl 102 _ rfl _ rfl _ _ _ _ nB fd rfl (by kernel_rfl) ?_)
   refine cE.mono ?_;rintro r w3 ⟨rfl,S2,J,z,v⟩
   have H:PN (WOk E gm D (S++(i++S2)) w3):=by
    show WOk _ _ _ _ _;rw[<-eo];exact z
   have Z:PN ((i++S2).map (fun u=>u.1)=kY l d (j+1) S.length):=by
    show _=_;rw[dN,J];exact I.o
   have V:=a8 (F.o.trans v);clear cE nB al f0 f1 f2 f3 f4 J z v I F;go_wp2_with fail;go_roundw;case rel=>exact⟨j+1,i++S2,by go_num,by omega,Z.o,H.o,V.o⟩
   case measure=>simp[intOf];omega
  ·have M: ¬(j:Int)<(d.length:Int):=(by omega);obtain rfl:j=d.length:=(by omega);have P:=(n.blk T ad (by omega) ac.o).trans aa.o;have cP:=uT f ⟨op,a,0,0,[]⟩ (af) (ib.nil _ _ _) (by rw[aP,p];have:=Y.o;omega);dsimp only at cP
   have HM:PN (i.map (fun u=>u.1)=kh (d.map (bL (atP5 l))) S.length):=by
    show _=_;rw[m];unfold kY;rw[gc]
   have HF:=a8 (W.o.trans n);clear f n m p;go_wp2_with(refine aR rfl 177 _ rfl _ rfl _ _ _ _ P v6 rfl (by kernel_rfl) ?_)
   refine cP.mono ?_;rintro r w4 ⟨rfl,A,w⟩
   have HN:PN (nL E gm D S (kh (d.map (bL (atP5 l))) S.length++[⟨op,a,0,0,[]⟩]) q (.returned (.tuple #[])) w4):=by
    refine⟨rfl,i++[(⟨op,a,0,0,[]⟩,af)],?_,?_,HF.o.trans w⟩
    ·rw[dN,HM.o];rfl
    ·rw[<-eo];exact A
   clear cP P A w HM HF;go_wp2_with fail;exact⟨rfl,_,eO rfl _ _ _,HN.o⟩
end Go.Proofs.YtaoljfdfhggbbaaGreatDoor
