/- Texts of the proof. -/
import Derived.Test.YtlkehieagdkgiaaGreatDoorPe25
set_option maxRecDepth 100000
set_option maxHeartbeats 8000000
namespace Go.Proofs.YtlkehieagdkgiaaGreatDoor
open Go.Proofs.Tryz Go.RowKit Lx Vx Mx Msk
theorem mo {l:List Ru}{ks:List Ex}{j b:Nat}(h: ∀k∈ks,OKE k):(lq l ks j b).length<=((ks.take j).map jj).sum:=by
 unfold lq;have d: ∀k∈ks.take j,OKE k:=fun k e=>h k (List.mem_of_mem_take e);generalize ks.take j=c at*;induction c generalizing b with
 |nil=>simp[kG]
 |cons k ks f=>
  have i:=(mn (atP5 l) _ k (aD _) (d k bq) b).2;have m:=f (b:=b+(dc (atP5 l) k b).length) fun g a=>d g (bL _ a);simp only[dO,kG,aP,jg];omega
theorem tH {a:List Ex}{j:Nat}{k:Ex}(h:a[j]? =some k):((a.take j).map jj).sum+jj k<=(a.map jj).sum:=by
 have b:a=a.take j++(k::a.drop (j+1)):=by
  conv=>lhs;rw[<-gY j a]
  congr 1;have c:=(aF.1 h).1;rw[bJ c,(aF.1 h).2]
 conv=>rhs;rw[b]
 rw[dZ,List.sum_append,dO,jg];omega
theorem NL {w w':World}(h:Tab w)(a:aq w w'):Tab w':=kR h a
theorem Be (C:World)(gm mb d:Nat)(l:List Ru)(e:Ex)(p:Option Addr)(c:Nat)(S:List (In×Value))(N:World)(h:WOk C gm (.map (some mb)) S N)(a8:jr C mb l)(hT:Tab C)(J:Rt e)(hn:e.name.length<=9223372036854775807)(a7:fP (fun k=>k<C.heap.size) d C (.slice p e.kids.length c) e.kids)(B:e.kids=[]\/L8 C gm (.map (some mb)) l (.slice p e.kids.length c) e.kids)(ar: ∀x∈nms e,0<=atP5 l x)(hS:S.length+jj e<=700):
  Calls prog 132 #[ab gm 0,.agg #[ag e.kind,ag e.a,ag e.b,.string ⟨e.name.toArray⟩,.slice p e.kids.length c]] N (oH C gm (.map (some mb)) S (dc (atP5 l) e S.length) N):=by
 have a2:=ba a7;have bA:=am N (.cells #[ag e.kind,ag e.a,ag e.b,.string ⟨e.name.toArray⟩,.slice p e.kids.length c] 84);have nA:=aG N (.cells #[ag e.kind,ag e.a,ag e.b,.string ⟨e.name.toArray⟩,.slice p e.kids.length c] 84);have hA:=h.below bA;have a5:=Fr2.below h.lt bA;obtain⟨gE,aI⟩:=au N.heap.size;generalize aO:N.alloc (.cells #[ag e.kind,ag e.a,ag e.b,.string ⟨e.name.toArray⟩,.slice p e.kids.length c] 84)=wA at*;rw[aI]at nA;have a6:fP (fun k=>k<C.heap.size) d wA (.slice p e.kids.length c) e.kids:=a2.o.kept fun g hg _=>hA.st.bel.block g hg;have cS:=Gt d e _ wA a6;unfold exV vJ at cS;have HA:=ba hA;have a1:=ba a5;have a3:=ba a8;have HT:=ba hT;clear bA hA a5 a6 h a7 a8 hT;go_enter func132,ntmps132;go_wp2_with(refine aR rfl 84 _ rfl _ rfl _ _ _ _ nA fo rfl (by kernel_rfl) ?_)
 refine cS.mono ?_;rintro r w1 ⟨rfl,b1⟩;have n:=ba (HA.o.below b1);have E:=ba (a1.o.trans (Fr2.below HA.o.lt b1));have I:=ai b1 nA;clear cS nA aO HA a1 b1;cases hstd:stdE e with
 |true=>
  have q:=n.o.st.bel;have cM:=D1 d e (.slice p e.kids.length c) w1 J hstd hn ((a2.o.kept fun g hg _=>q.block g hg).mono fun g hg=>aU hg q.size);unfold exV at cM;have t:=ba (pj (num:=atP5 l) hstd S.length);have aF:=ba (NL HT.o q);clear q B J hn ar hstd;go_wp2_with(refine aR rfl 84 _ rfl _ rfl _ _ _ _ I fo rfl (by kernel_rfl) ?_)
  refine cM.mono ?_;rintro r w2 ⟨rfl,b2⟩;have cP:=AV (mnE e) w2 (kR aF.o b2);have ac:=ba (n.o.below b2);have a9:=ba (E.o.trans (Fr2.below n.o.lt b2));clear cM I b2;go_wp2_with fail;refine cP.mono ?_;rintro r w3 ⟨⟨v3,rfl,own3⟩,_,b3⟩;have aw:=it.of_own own3;have ad:=ac.o.below b3;have aB:=ba (a9.o.trans (Fr2.below ac.o.lt b3));have cW:=vK ad ⟨1,0,0,0,rs (mnE e) 1440⟩ v3 aw (by omega);dsimp only at cW;obtain⟨p3,n3,c3,aN⟩:=aw.form;subst aN;clear cP own3 aw ad b3;go_wp2_with fail;refine cW.mono ?_;rintro r Q ⟨rfl,m,i⟩;have L:Rb (oH C gm (.map (some mb)) S (dc (atP5 l) e S.length) N (.returned (.tuple #[])) Q):=⟨rfl,_,by rw[t.o];rfl,m,aB.o.trans i⟩
  clear cW m i;go_wp2_with fail;exact⟨rfl,_,eW rfl _ _ _,L.o⟩
 |false=>
  have z0:=ak 0 I;have z1:=ak 1 I;have z2:=ak 2 I;have z3:=ak 3 I;have z4:=ak 4 I;clear I hn;rcases oF J.ok hstd with⟨f,y⟩|⟨f,y⟩|⟨f,y⟩|f|⟨f,y⟩
  ·have e4:(e.kind==4)=true:=(by simp[f]);obtain⟨k,w⟩:=y;obtain⟨g,o,c',av,an,ao,H⟩:=B.resolve_left (by rw[w];simp);injection av with e1 e2 e3;subst e1 e3;have O:e.kids[0]? =some k:=(by rw[w];rfl);obtain⟨pk,qk,d0,d1,d2,d3,d4,X⟩:=H 0 k O;simp only[Nat.zero_mul,Nat.add_zero]at d0 d1 d2 d3 d4;have q:=n.o.st.bel;have f0:=aj q d0;have f1:=aj q d1;have f2:=aj q d2;have f3:=aj q d3;have f4:=aj q d4;have aL:(e.kids.length:Int)=1:=(by rw[w];rfl);have V:k∈e.kids:=(by rw[w];simp)
   have aq:S.length+1+jj k<=700:=by
    have:=mC e;rw[w]at this;simp only[dO,fA,jg,List.sum_nil]at this;omega
   have aM:=(mn (atP5 l) _ k (aD _) (J.ok.kid V) (S.length+1)).2;have t:=ba (pU (num:=atP5 l) f O S.length);have ah:=ba X;clear d0 d1 d2 d3 d4 X H q B w O V J hstd ao an;go_wp2_with fail;refine jV 8 [kn 16 (ab gm 0),kn 17 (ab gE 1),kn 18 (ag e.a),kn 19 (.agg #[ag 6,ag e.a,ag 0,ag 0,af]),kn 20 (ab gE 4),kn 21 (.slice (some (ae g o)) e.kids.length c),kn 22 (ab g o),kn 23 (.agg #[ag k.kind,ag k.a,ag k.b,.string ⟨k.name.toArray⟩,.slice pk k.kids.length qk]),td 24] (by kernel_rfl) (by kernel_rfl) fun M φ W _ v F l hl hF=> ?_;have Y:=aj v z1;have Z:=aj v z4;have aa:=aj v f0;have ax:=aj v f1;have ay:=aj v f2;have az:=aj v f3;have a0:=aj v f4;simp only[kn,td,dX,aQ,aT,Act.put,aA,aK,aJ]at hl;subst hl;simp only[dn,Nat.reduceAdd]at hF;dsimp only[kn,td,dy,eJ,dY,Act.put];and_intros;all_goals first|exact trivial|intro hw hn hm K U
   all_goals try (go_simp;with_reducible exact U _ _ ⟨rfl,aH _ _⟩)
   clear Y Z aa ax ay az a0;have z:=n.o.below v;have G:=n.o.lt;have D:=wf C gm (.map (some mb)) l k pk qk 6 e.a 0 S W z ah.o aq (by omega);go_simp;refine D.mono ?_;rintro r Q ⟨rfl,R,s,m,i⟩;have L:Rb (oH C gm (.map (some mb)) S (dc (atP5 l) e S.length) N (.returned (.tuple #[])) Q):=⟨rfl,R,s.trans t.o.symm,m,(E.o.trans (Fr2.below G v)).trans i⟩
   refine U _ _ ⟨trivial,fun c=>by simp at c,fun _=> ?_⟩;simp only[d8,aQ,aT,Act.put,aA,aK,aJ];clear hF hw hn hm;clear U v D z s m i;go_wp2_with fail;exact⟨rfl,_,eW rfl _ _ _,L.o⟩
  ·have e4:(e.kind==4)=false:=(by simp[f]);have e5:(e.kind==5)=true:=(by simp[f]);obtain⟨k,w⟩:=y;obtain⟨g,o,c',av,an,ao,H⟩:=B.resolve_left (by rw[w];simp);injection av with e1 e2 e3;subst e1 e3;have O:e.kids[0]? =some k:=(by rw[w];rfl);obtain⟨pk,qk,d0,d1,d2,d3,d4,X⟩:=H 0 k O;simp only[Nat.zero_mul,Nat.add_zero]at d0 d1 d2 d3 d4;have q:=n.o.st.bel;have f0:=aj q d0;have f1:=aj q d1;have f2:=aj q d2;have f3:=aj q d3;have f4:=aj q d4;have aL:(e.kids.length:Int)=1:=(by rw[w];rfl);have V:k∈e.kids:=(by rw[w];simp)
   have aq:S.length+1+jj k<=700:=by
    have:=mC e;rw[w]at this;simp only[dO,fA,jg,List.sum_nil]at this;omega
   have aM:=(mn (atP5 l) _ k (aD _) (J.ok.kid V) (S.length+1)).2;have t:=ba (oD (num:=atP5 l) f O S.length);have ah:=ba X;clear d0 d1 d2 d3 d4 X H q B w O V J hstd ao an;go_wp2_with fail;refine jV 10 [kn 27 (ab gm 0),kn 28 (ab gE 1),kn 29 (ag e.a),kn 30 (ab gE 2),kn 31 (ag e.b),kn 32 (.agg #[ag 7,ag e.a,ag e.b,ag 0,af]),kn 33 (ab gE 4),kn 34 (.slice (some (ae g o)) e.kids.length c),kn 35 (ab g o),kn 36 (.agg #[ag k.kind,ag k.a,ag k.b,.string ⟨k.name.toArray⟩,.slice pk k.kids.length qk]),td 37] (by kernel_rfl) (by kernel_rfl) fun M φ W _ v F l hl hF=> ?_;have Y:=aj v z1;have Z:=aj v z2;have aa:=aj v z4;have ax:=aj v f0;have ay:=aj v f1;have az:=aj v f2;have a0:=aj v f3;have aP:=aj v f4;simp only[kn,td,dX,aQ,aT,Act.put,aA,aK,aJ]at hl;subst hl;simp only[dn,Nat.reduceAdd]at hF;dsimp only[kn,td,dy,eJ,dY,Act.put];and_intros;all_goals first|exact trivial|intro hw hn hm K U
   all_goals try (go_simp;with_reducible exact U _ _ ⟨rfl,aH _ _⟩)
   clear Y Z aa ax ay az a0 aP;have z:=n.o.below v;have G:=n.o.lt;have D:=wf C gm (.map (some mb)) l k pk qk 7 e.a e.b S W z ah.o aq (by omega);go_simp;refine D.mono ?_;rintro r Q ⟨rfl,R,s,m,i⟩;have L:Rb (oH C gm (.map (some mb)) S (dc (atP5 l) e S.length) N (.returned (.tuple #[])) Q):=⟨rfl,R,s.trans t.o.symm,m,(E.o.trans (Fr2.below G v)).trans i⟩
   refine U _ _ ⟨trivial,fun c=>by simp at c,fun _=> ?_⟩;simp only[d8,aQ,aT,Act.put,aA,aK,aJ];clear hF hw hn hm;clear U v D z s m i;go_wp2_with fail;exact⟨rfl,_,eW rfl _ _ _,L.o⟩
  ·have e4:(e.kind==4)=false:=(by simp[f]);have e5:(e.kind==5)=false:=(by simp[f]);have e9:(e.kind==9)=true:=(by simp[f]);have A:=B.resolve_left (by rw[y.choose_spec];simp);have u: ∀k∈e.kids,OKE k:=fun k B=>J.ok.kid B;have P:=mC e
   have D:=qz C gm (.map (some mb)) l e.kids _ 5 e.a S w1 n.o A (fun j k hj=>by
    have T:=mo (l:=l) (ks:=e.kids) (j:=j) (b:=S.length) u;have h2:=tH hj;omega) (by
    have T:=mo (l:=l) (ks:=e.kids) (j:=e.kids.length) (b:=S.length) u;rw[gI]at T;omega)
   have t:Rb (dc (atP5 l) e S.length=kG (e.kids.map (dc (atP5 l))) S.length++[⟨5,e.a,0,0,[]⟩]):=by
    show _=_;rw[po hstd (by omega) (by omega) (by omega)];unfold opK;simp[f]
   clear A u P B y J hstd;go_wp2_with fail;refine D.mono ?_;rintro r Q ⟨rfl,R,s,m,i⟩;have L:Rb (oH C gm (.map (some mb)) S (dc (atP5 l) e S.length) N (.returned (.tuple #[])) Q):=⟨rfl,R,s.trans t.o.symm,m,E.o.trans i⟩
   clear D s m i;go_wp2_with fail;exact⟨rfl,_,eW rfl _ _ _,L.o⟩
  ·have e4:(e.kind==4)=false:=(by simp[f]);have e5:(e.kind==5)=false:=(by simp[f]);have e9:(e.kind==9)=false:=(by simp[f]);have al:(e.kind==10)=true:=(by simp[f])
   have zm:w1.cell? (ae gm 0)=some (.map (some mb)):=by
    obtain⟨_,_,sv,n1,_⟩:=n.o.st;exact ak 0 n1
   have aE:=ba (ar _ (vI f));have t:=ba (pT (num:=atP5 l) f S.length);have ap:=ik a3.o;have a4:=ba (a3.o.later (n.o.st.bel.block _ ap));have aC:=ba (aU ap n.o.st.bel.size);clear ar B J hstd ap;go_wp2_with fail;refine jV 9 [kn 49 (ab gm 0),kn 50 (ab gm 0),kn 51 (ab gm 0),kn 52 (ab gm 0),kn 53 (.map (some mb)),kn 54 (ab gE 3),kn 55 (.string ⟨e.name.toArray⟩),kn 56 (ag (atP5 l e.name)),kn 57 (.agg #[ag 8,ag (atP5 l e.name),ag 0,ag 0,af]),td 58] (by kernel_rfl) (by kernel_rfl) fun M φ W _ v F l hl hF=> ?_;have Y:=aj v zm;have Z:=aj v z3;have aa:=FO (a4.o.later (v.block _ aC.o)) e.name aE.o;simp only[kn,td,dX,aQ,aT,Act.put,aA,aK,aJ]at hl;subst hl;simp only[dn,Nat.reduceAdd]at hF;dsimp only[kn,td,dy,eJ,dY,Act.put];and_intros;all_goals first|exact trivial|intro hw hn hm K U
   all_goals try (go_simp;with_reducible exact U _ _ ⟨rfl,aH _ _⟩)
   clear Y Z aa;have z:=n.o.below v;have G:=n.o.lt;have D:=vK z ⟨8,atP5 l e.name,0,0,[]⟩ (af) (it.nil _ _ _) (by omega);dsimp only at D;go_simp;refine D.mono ?_;rintro r Q ⟨rfl,m,i⟩;have L:Rb (oH C gm (.map (some mb)) S (dc (atP5 l) e S.length) N (.returned (.tuple #[])) Q):=⟨rfl,_,by rw[t.o];rfl,m,(E.o.trans (Fr2.below G v)).trans i⟩
   refine U _ _ ⟨trivial,fun c=>by simp at c,fun _=> ?_⟩;simp only[d8,aQ,aT,Act.put,aA,aK,aJ];clear hF hw hn hm;clear U v D z m i;go_wp2_with fail;exact⟨rfl,_,eW rfl _ _ _,L.o⟩
  ·rcases f with f|f|f
   ·have e4:(e.kind==4)=false:=(by simp[f]);have e5:(e.kind==5)=false:=(by simp[f]);have e9:(e.kind==9)=false:=(by simp[f]);have al:(e.kind==10)=false:=(by simp[f]);have e6:(e.kind==6)=true:=(by simp[f]);have A:=B.resolve_left (by rw[y.choose_spec.choose_spec];simp);have u: ∀k∈e.kids,OKE k:=fun k B=>J.ok.kid B;have P:=mC e
    have D:=qz C gm (.map (some mb)) l e.kids _ 2 0 S w1 n.o A (fun j k hj=>by
     have T:=mo (l:=l) (ks:=e.kids) (j:=j) (b:=S.length) u;have h2:=tH hj;omega) (by
     have T:=mo (l:=l) (ks:=e.kids) (j:=e.kids.length) (b:=S.length) u;rw[gI]at T;omega)
    have t:Rb (dc (atP5 l) e S.length=kG (e.kids.map (dc (atP5 l))) S.length++[⟨2,0,0,0,[]⟩]):=by
     show _=_;rw[po hstd (by omega) (by omega) (by omega)];unfold opK;simp[f]
    clear A u P B y J hstd;go_wp2_with fail;refine D.mono ?_;rintro r Q ⟨rfl,R,s,m,i⟩;have L:Rb (oH C gm (.map (some mb)) S (dc (atP5 l) e S.length) N (.returned (.tuple #[])) Q):=⟨rfl,R,s.trans t.o.symm,m,E.o.trans i⟩
    clear D s m i;go_wp2_with fail;exact⟨rfl,_,eW rfl _ _ _,L.o⟩
   ·have e4:(e.kind==4)=false:=(by simp[f]);have e5:(e.kind==5)=false:=(by simp[f]);have e9:(e.kind==9)=false:=(by simp[f]);have al:(e.kind==10)=false:=(by simp[f]);have e6:(e.kind==6)=false:=(by simp[f]);have e7:(e.kind==7)=true:=(by simp[f]);have A:=B.resolve_left (by rw[y.choose_spec.choose_spec];simp);have u: ∀k∈e.kids,OKE k:=fun k B=>J.ok.kid B;have P:=mC e
    have D:=qz C gm (.map (some mb)) l e.kids _ 3 0 S w1 n.o A (fun j k hj=>by
     have T:=mo (l:=l) (ks:=e.kids) (j:=j) (b:=S.length) u;have h2:=tH hj;omega) (by
     have T:=mo (l:=l) (ks:=e.kids) (j:=e.kids.length) (b:=S.length) u;rw[gI]at T;omega)
    have t:Rb (dc (atP5 l) e S.length=kG (e.kids.map (dc (atP5 l))) S.length++[⟨3,0,0,0,[]⟩]):=by
     show _=_;rw[po hstd (by omega) (by omega) (by omega)];unfold opK;simp[f]
    clear A u P B y J hstd;go_wp2_with fail;refine D.mono ?_;rintro r Q ⟨rfl,R,s,m,i⟩;have L:Rb (oH C gm (.map (some mb)) S (dc (atP5 l) e S.length) N (.returned (.tuple #[])) Q):=⟨rfl,R,s.trans t.o.symm,m,E.o.trans i⟩
    clear D s m i;go_wp2_with fail;exact⟨rfl,_,eW rfl _ _ _,L.o⟩
   ·have e4:(e.kind==4)=false:=(by simp[f]);have e5:(e.kind==5)=false:=(by simp[f]);have e9:(e.kind==9)=false:=(by simp[f]);have al:(e.kind==10)=false:=(by simp[f]);have e6:(e.kind==6)=false:=(by simp[f]);have e7:(e.kind==7)=false:=(by simp[f]);have e8:(e.kind==8)=true:=(by simp[f]);have A:=B.resolve_left (by rw[y.choose_spec.choose_spec];simp);have u: ∀k∈e.kids,OKE k:=fun k B=>J.ok.kid B;have P:=mC e
    have D:=qz C gm (.map (some mb)) l e.kids _ 4 0 S w1 n.o A (fun j k hj=>by
     have T:=mo (l:=l) (ks:=e.kids) (j:=j) (b:=S.length) u;have h2:=tH hj;omega) (by
     have T:=mo (l:=l) (ks:=e.kids) (j:=e.kids.length) (b:=S.length) u;rw[gI]at T;omega)
    have t:Rb (dc (atP5 l) e S.length=kG (e.kids.map (dc (atP5 l))) S.length++[⟨4,0,0,0,[]⟩]):=by
     show _=_;rw[po hstd (by omega) (by omega) (by omega)];unfold opK;simp[f]
    clear A u P B y J hstd;go_wp2_with fail;refine D.mono ?_;rintro r Q ⟨rfl,R,s,m,i⟩;have L:Rb (oH C gm (.map (some mb)) S (dc (atP5 l) e S.length) N (.returned (.tuple #[])) Q):=⟨rfl,R,s.trans t.o.symm,m,E.o.trans i⟩
    clear D s m i;go_wp2_with fail;exact⟨rfl,_,eW rfl _ _ _,L.o⟩
theorem Lm (f:World)(gm mb:Nat)(l:List Ru)(n:jr f mb l)(w:Tab f): ∀(d:Nat) (e:Ex) (sl:Value),fP (fun k=>k<f.heap.size) d f sl e.kids->Rt e->e.name.length<=9223372036854775807->(∀x∈nms e,0<=atP5 l x)->Gu f gm (.map (some mb)) l e sl:=by
 intro d;induction d with
 |zero=>
  intro e sl b q t a S W h s;obtain⟨p,c,rfl⟩:=b.form;exact Be f gm mb 0 l e p c S W h n w q t b (.inl b.1) a s
 |succ d H=>
  intro e sl b q t a S W h s;obtain⟨p,c,v⟩:=b.form;subst v;refine Be f gm mb (d+1) l e p c S W h n w q t b ?_ a s;rcases b with⟨h,_⟩|⟨g,o,z,D,F,E,i⟩
  ·exact .inl h
  ·refine .inr ⟨g,o,z,F,D,E,fun j k y=> ?_⟩;obtain⟨u,K,c0,c1,A,B,C,r⟩:=i j k y;obtain⟨I,J,rfl⟩:=r.form;have m:=aM y;exact⟨I,J,c0,c1,A,B,C,H k _ r (q.kid m) u fun x G=>a x (vH m G)⟩
theorem D3 (C:List (List In))(ρ:Nat->Nat)(a:Nat->Int×Int)(x:sX C ρ)(o:rV (fc C a))(n e c:Nat)(A:n=C.length)(j:n<=1000)(sv:Nat->Value)(d:Nat->List (In×Value))(y: ∀k,k<n->(d k).map (fun u=>u.1)=C.getD k [])(v: ∀k,k<n->1<=(d k).length/\(d k).length<=700)(z: ∀k,k<n-> ∀u∈d k,∃p m c,u.2= .slice p m c)(g: ∀i,i<n->a i=mG C a i)(t: ∀i,i<n->1<=(a i).2):
  ∀(r i:Nat),ρ i<=r->i<n-> ∀(H T:Nat->Int) (w:World),fL e n sv H T w->(∀q,q<n->kj w (sv q) (d q))->(∀q,q<n->ρ q<=ρ i->Okm a H T q)->Calls prog 133 #[.slice (some (ae e 0)) n c,ag (i:Int)] w (xu a ρ e n sv i H T w):=by
 intro r;induction r with
 |zero=>
  intro i D hi H T w f l b;exact uH C ρ a x o n e c A j sv d y v z i hi (g i hi) (t i hi) (fun k _ B=>by omega) H T w f l b
 |succ r E=>
  intro i D hi H T w f l b;exact uH C ρ a x o n e c A j sv d y v z i hi (g i hi) (t i hi) (fun k s B H T w f l b=>E k (by omega) s H T w f l b) H T w f l b
def oI (m:Int×Int):Bool:=decide (100<m.1)||decide (20000<m.2)
def ko (m:Nat->Int×Int):Nat->Nat->Int
 |0,_=> -1
 |k+1,j=>if oI (m j)=true then(j:Int) else ko m k (j+1)
theorem D4 (p:Option Addr)(a c:Nat)(h t:Int)(w:World)(j:a<=700):
  Calls prog 135 #[.agg #[.slice p a c,ag h,ag t]] w fun e w'=>e= .returned (.bool (oI (h,t)))/\aq w w':=by
 have f:=am w (.cells #[.slice p a c,ag h,ag t] 195);have b:=aG w (.cells #[.slice p a c,ag h,ag t] 195);generalize m:w.alloc (.cells #[.slice p a c,ag h,ag t] 195)=n at*;have q:=ak 0 b;have r:=ak 1 b;have s:=ak 2 b;have k:(a:Int)<=700:=by omega
 by_cases g:100<h
 ·have d:Rb (oI (h,t)=true):=by show _=_;simp[oI,g]
  rw[d.o];clear b j;go_enter func135,ntmps135;go_wp2_with fail;go_ret;exact⟨rfl,f⟩
 ·by_cases i:20000<t
  ·have d:Rb (oI (h,t)=true):=(by show _=_;simp[oI,i]);rw[d.o];clear b j;go_enter func135,ntmps135;go_wp2_with fail;go_ret;exact⟨rfl,f⟩
  ·have d:Rb (oI (h,t)=false):=(by show _=_;simp[oI,g,i]);rw[d.o];have l: ¬(2000:Int)<(a:Int):=(by omega);clear b;go_enter func135,ntmps135;go_wp2_with fail;go_ret;exact⟨rfl,f⟩
theorem BA (n x c:Nat)(sv:Nat->Value)(m:Nat->Int×Int)(w:World)(z:fL x n sv (fun k=>(m k).1) (fun k=>(m k).2) w)(q: ∀k,k<n-> ∃p s c,sv k= .slice p s c/\s<=700)(J:n<=1000):
  Calls prog 134 #[.slice (some (ae x 0)) n c,.func (.func 135) #[] #[]] w fun e w'=>e= .returned (ag (ko m n 0))/\aq w w':=by
 have B:=ba z;have v:=ba q;have G:(n:Int)<=1000:=by omega
 clear z q;go_enter func134,ntmps134;go_wp2_with fail;go_loopw [5,8] (fun _ t wr=> ∃j:Nat,t=ag (j:Int)/\j<=n/\ko m n 0=ko m (n-j) j/\aq w wr) (fun _ t _=>n-(intOf t).toNat);case atStart=>exact⟨0,rfl,by omega,by rw[Nat.sub_zero],aH _ _⟩
 case round=>
  obtain⟨j,rfl,I,d,r⟩:=hrel;have E:(0:Int)<=(j:Int):=(by omega);by_cases g:j<n
  ·have i:(j:Int)<(n:Int):=(by omega);obtain⟨c0,c1,C,_,_⟩:=(B.o.below r).cells g;obtain⟨H,s,D,A,F⟩:=v.o j g;rw[A]at c0;rw[show n-j=(n-(j+1))+1 by omega,ko]at d;have cT:=D4 H s D (m j).1 (m j).2 wr F;have b:=ba d;generalize l:oI ((m j).1,(m j).2)=y at cT;have a:Rb (oI (m j)=y):=l;generalize (m j).1=K at*;generalize (m j).2=L at*;clear A d l;go_wp2_with fail;refine cT.mono ?_;rintro e M ⟨rfl,b1⟩;have f:=aw r b1;clear cT b1 r c0 c1 C;cases y with
   |true=>
    have u:Rb (ko m n 0=(j:Int)):=(by show _=_;rw[b.o,aB a.o]);clear b a;go_wp2_with fail;go_ret;exact⟨by(rw[u.o])<;>rfl,f⟩
   |false=>
    have u:Rb (ko m n 0=ko m (n-(j+1)) (j+1)):=(by show _=_;rw[b.o,ax (by rw[a.o];simp)]);clear b a;go_wp2_with fail;go_roundw;case rel=>exact⟨j+1,by go_num,by omega,u.o,f⟩
    case measure=>simp[intOf];omega
  ·have i: ¬(j:Int)<(n:Int):=(by omega)
   have b:Rb (ko m n 0= -1):=by
    show _=_;rw[d,show n-j=0 by omega];rfl
   clear d;go_wp2_with fail;go_ret;exact⟨by(rw[b.o])<;>rfl,r⟩
theorem zd {num:List UInt8->Int}: ∀(N:Nat) (e:Ex),SizeOf.sizeOf e<=N->OKE e-> ∀(b:Nat) (x:In),x∈dc num e b->x.op=8-> ∃nm∈nms e,x.a=num nm
 |0,e,j,_,_,_,_,_=>by cases e;simp at j
 |N+1,e,j,h,b,x,c,f=>by
  have g: ∀k∈e.kids,∀b,x∈dc num k b-> ∃nm∈nms e,x.a=num nm:=fun k d b i=>by
   obtain⟨nm,l,n⟩:=zd N k (by have:=iZ d;omega) (h.kid d) b x i f;exact⟨nm,vH d l,n⟩
  cases hs:stdE e with
  |true=>
   rw[pj hs,cQ]at c;subst c;exact absurd f (by show¬(1:Int)=8;omega)
  |false=>
   rcases oF h hs with⟨q,k,d⟩|⟨q,k,d⟩|⟨q,k,d⟩|q|⟨q,k,m,d⟩
   ·rw[pU q (by rw[d];rfl)]at c;rcases bO.1 c with rfl|c
    ·exact absurd f (by show¬(6:Int)=8;omega)
    ·exact g k (by rw[d];simp) _ c
   ·rw[oD q (by rw[d];rfl)]at c;rcases bO.1 c with rfl|c
    ·exact absurd f (by show¬(7:Int)=8;omega)
    ·exact g k (by rw[d];simp) _ c
   ·rw[qy hs q d]at c;rcases da.1 c with c|c
    ·exact g k (by rw[d];simp) _ c
    ·rw[cQ]at c;subst c;exact absurd f (by show¬(5:Int)=8;omega)
   ·rw[pT q,cQ]at c;subst c;exact⟨_,vI q,rfl⟩
   ·rw[rU hs q d]at c;rcases da.1 c with c|c
    ·rcases da.1 c with c|c
     ·exact g k (by rw[d];simp) _ c
     ·exact g m (by rw[d];simp) _ c
    ·rw[cQ]at c;subst c;have:=EV q;exact absurd f (by show¬opK e.kind=8;omega)
theorem C0: ∀{l:List (Int×Int)} {j:Nat},j<l.length->(jb l)[j*2+0]? =some (ag (l.getD j (0,0)).1)/\(jb l)[j*2+1]? =some (ag (l.getD j (0,0)).2)
 |[],_,h=>by simp at h
 |_::_,0,_=>⟨rfl,rfl⟩
 |s::l,j+1,h=>by
  have a:=C0 (l:=l) (j:=j) (by simpa using h)
  have e: ∀i,(jb (s::l))[(j+1)*2+i]? =(jb l)[j*2+i]? :=fun i=>by
   show(_::_::jb l)[(j+1)*2+i]? =_;rw[show(j+1)*2+i=(j*2+i)+1+1 by omega,List.getElem?_cons_succ,List.getElem?_cons_succ]
  rw[e,e];exact a
theorem it.row {w:World}{v:Value}{l:List (Int×Int)}(h:it w v l):oi w v l:=by
 rcases h with h|⟨g,c,f,e,n,k,o⟩
 ·exact .inl h
 ·refine .inr (.inr ⟨g,0,c,e,n,fun j m=> ?_⟩)
  have a: ∀(i:Nat) (v:Value),j*2+i<l.length*2->(jb l)[j*2+i]? =some v->w.cell? (ae g (0+j*2+i))=some v:=fun i v hi d=>by
   refine(aZ _ _ _ _ _ _ k).trans ?_;rw[cY,<-bx];rw[<-o,dP hi]at d;exact d
  have b:=C0 m;exact⟨by simpa using a 0 _ (by omega) b.1,a 1 _ (by omega) b.2⟩
theorem Jd {w:World}{v:Value}{S:List (In×Value)}(h:kj w v S)(l:1<=S.length)(o:S.length<=700)(n: ∀u∈S,it w u.2 u.1.sp):pK w v (S.map fun u=>u.1):=by
 obtain⟨g,c,e,m⟩:=h.form l;refine⟨S,⟨some ⟨g,0,none⟩,c,e,by omega,fun j u a=>⟨(n u (aM a)).row,g,0,rfl,?_⟩⟩,rfl⟩;obtain⟨b,d,f,i,k⟩:=m j u a;simp only[cY];exact⟨b,d,f,i,k⟩
theorem NM {w:World}{d n c:Nat}{sv:Nat->Value}{b:Nat->List (In×Value)}{C:List (List In)}{m:Nat->Int×Int}(s:n=C.length)(t:n<=1000)(r:fL d n sv (fun k=>(m k).1) (fun k=>(m k).2) w)(v: ∀k,k<n->kj w (sv k) (b k))(f: ∀k,k<n->1<=(b k).length/\(b k).length<=700)(x: ∀k,k<n-> ∀u∈b k,it w u.2 u.1.sp)(p: ∀k,k<n->(b k).map (fun u=>u.1)=C.getD k []):InV w (.slice (some (ae d 0)) n c) (fc C m):=by
 refine⟨(List.range n).map fun k=>(⟨C.getD k [],(m k).1,(m k).2⟩,sv k),⟨some ⟨d,0,none⟩,c,by simp,by simp;omega,fun j u g=> ?_⟩,?_⟩
 ·rw[a8]at g;obtain⟨k,q,rfl⟩:=eh.1 g;obtain⟨l,o⟩:=aF.1 q;have e:k=j:=(by rw[<-o];simp);subst e;have a:k<n:=(by simpa using l);refine⟨?_,d,0,rfl,?_⟩
  ·have:=Jd (v k a) (f k a).1 (f k a).2 (x k a);rw[p k a]at this;exact this
  ·obtain⟨c0,c1,i,_,_⟩:=r.cells a;simp only[cY];exact⟨c0,c1,i⟩
 ·rw[j7,s];rfl
def fX (l:List Ru):List (List In):=l.map fun u=>dc (atP5 l) u.2 0
def gM (l:List Ru):Nat->Int×Int:=oG (fX l) (l.length+1)
def fd (l:List Ru):List Cd:=fc (fX l) (gM l)
def iB (l:List Ru):Int×Int:=if(dC l).1≠0 then((dC l).1,((dC l).2:Int)) else if 0<=ko (gM l) l.length 0 then(4,ko (gM l) l.length 0) else(0,0)
theorem nH (l:List Ru):(fX l).length=l.length:=by simp[fX]
theorem ng {l:List Ru}{i:Nat}{u:Ru}(h:l[i]? =some u):(fX l).getD i []=dc (atP5 l) u.2 0:=by
 simp[fX,List.getD,h]
theorem Bf: ∀{l:List Ru} {i:Nat},(jR l i).1=0-> ∀u∈l,Rt u.2
 |[],_,_,u,a=>by cases a
 |d::l,i,h,u,a=>by
  unfold jR at h;by_cases b:ruleP d≠0
  ·rw[aB b]at h;exact absurd h b
  ·rw[ax b]at h;rcases bO.1 a with rfl|a
   ·have c:ruleP u=0:=(by simpa using b);unfold ruleP at c;split at c
    ·cases c
    ·exact c
   ·exact Bf h u a
theorem rA {l:List Ru}(h:(dC l).1=0):l.length<=40/\ ∀u∈l,Rt u.2:=by
 have a:=(lO h).1;refine⟨(tF a).1,?_⟩;unfold gC at a;split at a
 ·cases a
 ·exact Bf a
theorem sY {l:List Ru}(h:(dC l).1=0){u:Ru}(d:u∈l){x:List UInt8}(f:x∈nms u.2):0<=atP5 l x/\atP5 l x<l.length/\atP5 l x∈gF l u:=by
 have a:atP5 l x∈gF l u:=(qt (nms u.2) []).2 (.inr ⟨x,f,rfl⟩);have c:=ny l x;have b:=(lO h).2 u d;refine⟨?_,c.2,a⟩;by_cases q:0<=atP5 l x
 ·exact q
 ·have e:atP5 l x= -1:=by omega
  rw[e]at a;exact absurd a b
theorem Pl (l:List Ru)(i:Nat):muR l i<=l.length:=by
 unfold muR gK;split
 ·simp
 ·unfold mkL;rw[bc];refine bg (List.length_filter_le _ _) ?_;simp
theorem sy {l:List Ru}(h:(dC l).1=0):sX (fX l) (muR l):=by
 refine⟨fun i j x hi d k=> ?_⟩;rw[nH]at hi⊢;have b:l[i]? =some l[i]:=ay hi;rw[ng b]at d;have a:=aM b;obtain⟨nm,g,c⟩:=zd _ _ (aD _) ((rA h).2 _ a).ok 0 x (aM d) k;obtain⟨e,m,f⟩:=sY h a g;rw[c];refine⟨e,by omega,sU h hi ?_⟩;rw[re b];exact dR.2 ⟨_,f,rfl⟩
theorem vL {l:List Ru}(h:(dC l).1=0){i:Nat}(hi:i<l.length):gM l i=mG (fX l) (gM l) i:=NH (sy h) (N:=l.length) (fun i _=>Pl l i) (by rw[nH];exact hi)
theorem ze (l:List Ru):rV (fc (fX l) (gM l)):=Gr _ _
theorem xw {l:List Ru}(h:(dC l).1=0){i:Nat}(hi:i<l.length):1<=((fX l).getD i []).length/\((fX l).getD i []).length<=600:=by
 have b:l[i]? =some l[i]:=ay hi;have a:=(rA h).2 _ (aM b);rw[ng b];have:=mn (atP5 l) _ _ (aD _) a.ok 0;have c:=a.nod;omega
theorem C1 {l:List Ru}(h:(dC l).1=0){i:Nat}(hi:i<l.length):1<=(gM l i).2:=by
 rw[vL h hi];exact(EW (ze l) i).2.2 (xw h hi).1
def oJ (w u:World):Prop:= ∀(q:Nat) (c:Array Value) (T:TypeId) (f:Nat×Nat),w.heap[q]? =some (.cells c T f)->(T=195\/T=216\/T=57)->u.heap[q]? =w.heap[q]?
def zf (l:List Ru)(w:World)(r:Ending)(w':World):Prop:= ∃v,r= .returned (.tuple #[v,.agg #[ag (iB l).1,ag (iB l).2]])/\((iB l).1=0-> ∀u,oJ w' u->InV u v (fd l))/\((iB l).1≠0->v=af)/\aq w w'
theorem kj.ty {w u:World}{v:Value}{S:List (In×Value)}(h:kj w v S)(f:oJ w u):kj u v S:=br h fun b a=>by
 rcases h.2 with⟨e,_⟩|⟨g,cap,c,e,_,d,_⟩
 ·rw[e]at a;cases a
 ·rw[e]at a;cases aN a;exact f _ _ _ _ d (.inr (.inl rfl))
theorem it.ty {w u:World}{v:Value}{l:List (Int×Int)}(h:it w v l)(i:oJ w u):it u v l:=by
 rcases h with h|⟨g,c,a,e,f,b,d⟩
 ·exact .inl h
 ·exact .inr ⟨g,c,a,e,f,(i _ _ _ _ b (.inr (.inr rfl))).trans b,d⟩
theorem fL.ty {b n:Nat}{sv:Nat->Value}{H T:Nat->Int}{w u:World}(h:fL b n sv H T w)(d:oJ w u):fL b n sv H T u:=by
 obtain⟨a,c,h⟩:=h;exact⟨a,(d _ _ _ _ c (.inl rfl)).trans c,h⟩
def oK (n:Nat):Array Value:=madeCells #[af,ag 0,ag 0] (n*3)
theorem uI {n i j:Nat}(hi:i<n)(c:j<3):(oK n)[i*3+j]? =(#[af,ag 0,ag 0]:Array Value)[j]? :=by
 have a:i*3+j<n*3:=by omega
 have b:(i*3+j)%3=j:=by omega
 simp only[oK,madeCells];match j,c,a,b with
 |0,_,a,b=>simp at a b⊢;simp[a]
 |1,_,a,b=>simp[a,b]
 |2,_,a,b=>simp[a,b]
theorem Je:(prog.info? 195).map (fun i=>(i.zero,i.size,i.bytes))=some (some (.agg #[af,ag 0,ag 0]),3,40):=by kernel_rfl
theorem Gv:prog.underlying 68=some (.slice 195):=by kernel_rfl
theorem Gw (n:Nat)(g:n<=1000)(w:World):(Instr.makeSlice 68 (ag (n:Int)) (ag (n:Int))).run prog w= .ok (.slice (some (ae w.heap.size 0)) n n) (w.alloc (.cells (oK n) 195)):=by
 obtain⟨i,hi,a⟩:=eh.1 Je;simp only[Prod.mk.injEq]at a;obtain⟨f,d,c⟩:=a;have b:=run_make (P:=prog) w 68 195 i _ Gv hi f .i64 .i64 n n (by omega) (io _) (by rw[c];omega) (by omega);rw[d]at b;have e:(Value.agg #[af,ag 0,ag 0]).cells= #[af,ag 0,ag 0]:=rfl;rw[e]at b;simpa[oK] using b
theorem fL.made {w:World}{a n:Nat}(h:w.heap[a]? =ah (oK n) 195):fL a n (fun _=>af) (fun _=>0) (fun _=>0) w:=by
 refine⟨_,h,by simp[oK,madeCells],fun i hi=>⟨?_,?_,?_⟩⟩
 ·have:=uI (j:=0) hi (by omega);simpa using this
 ·exact(uI (j:=1) hi (by omega)).trans rfl
 ·exact(uI (j:=2) hi (by omega)).trans rfl
def upV (f:Nat->Value)(i:Nat)(v:Value):Nat->Value:=fun k=>if k=i then v else f k
theorem Jf (f:Nat->Value)(i:Nat)(v:Value):upV f i v i=v:=by unfold upV;rw[aB rfl]
theorem Jg (f:Nat->Value){i k:Nat}(v:Value)(h:k≠i):upV f i v k=f k:=by unfold upV;rw[ax h]
theorem fL.setV {a n:Nat}{sv:Nat->Value}{H T:Nat->Int}{w:World}(h:fL a n sv H T w){i:Nat}(v:Value)(hi:i<n):fL a n (upV sv i v) H T (w.setCell ⟨a,i*3,none⟩ v):=by
 obtain⟨c,f,j,d⟩:=h;refine⟨_,aY w a (i*3) _ _ _ f,by rw[ig];exact j,fun k g=> ?_⟩;obtain⟨c0,c1,b⟩:=d k g;refine⟨?_,?_,?_⟩
 ·by_cases e:k=i
  ·subst e;rw[Jf,gN (by omega)]
  ·rw[Jg _ _ e,dx (by omega)];exact c0
 ·rw[dx (by omega)];exact c1
 ·rw[dx (by omega)];exact b
theorem fL.frozen {a n:Nat}{sv:Nat->Value}{H T:Nat->Int}{w:World}(h:fL a n sv H T w)(i:Nat):w.frozen? (ae a i)=false:=by
 obtain⟨b,c,_⟩:=h;exact bo _ _ _ _ _ c
theorem fL.congr {d n:Nat}{sv:Nat->Value}{H T b c:Nat->Int}{w:World}(h:fL d n sv H T w)(e: ∀k,k<n->H k=b k/\T k=c k):fL d n sv b c w:=by
 obtain⟨a,m,o,l⟩:=h;refine⟨a,m,o,fun k f=> ?_⟩;obtain⟨c0,c1,g⟩:=l k f;obtain⟨i,j⟩:=e k f;rw[<-i,<-j];exact⟨c0,c1,g⟩
theorem it.kept {d n:Nat}{sv:Nat->Value}{H T:Nat->Int}{w w':World}{v:Value}{l:List (Int×Int)}(h:it w v l)(p:fL d n sv H T w)(m:bp d w w'):it w' v l:=by
 obtain⟨i,a,_⟩:=p;rcases h with h|⟨g,c,b,e,o,f,r⟩
 ·exact .inl h
 ·refine .inr ⟨g,c,b,e,o,(m.block g (aI f) (fun q=> ?_)).trans f,r⟩;have s:g=d:=aN q;subst s;rw[f]at a;injection a with k;injection k with _ j _;exact absurd j (by decide)
theorem zg {B c:Nat}{w w' b:World}(h:Below B w w')(a:bp c w' b)(g:B<=c)(f:B<=w'.heap.size):Below B w b:=
 ⟨a.os.trans h.os,a.tape.trans h.tape,a.output.trans h.output,bg h.size a.size,fun k d=>(a.block k (aU d f) (fun e=>by have:=aN e;omega)).trans (h.block k d)⟩
def qg (l:List Ru)(w:World)(sv:Nat->Value)(a:Nat->List (In×Value))(k:Nat):Prop:=kj w (sv k) (a k)/\(a k).map (fun u=>u.1)=(fX l).getD k []/\ ∀u∈a k,it w u.2 u.1.sp
theorem qg.kept {l:List Ru}{c n:Nat}{sv a:Nat->Value}{H T:Nat->Int}{w w':World}{b:Nat->List (In×Value)}{k:Nat}(h:qg l w sv b k)(e:fL c n a H T w)(d:bp c w w'):qg l w' sv b k:=⟨h.1.kept e d,h.2.1,fun u f=>(h.2.2 u f).kept e d⟩
theorem qg.ext {l:List Ru}{sv b:Nat->Value}{w:World}{c a:Nat->List (In×Value)}{k:Nat}(h:qg l w sv c k)(d:b k=sv k)(e:a k=c k):qg l w b a k:=by
 unfold qg;rw[d,e];exact h
def upS (f:Nat->List (In×Value))(i:Nat)(v:List (In×Value)):Nat->List (In×Value):=fun k=>if k=i then v else f k
theorem Pm (f:Nat->List (In×Value))(i:Nat)(v:List (In×Value)):upS f i v i=v:=by unfold upS;rw[aB rfl]
theorem Pn (f:Nat->List (In×Value)){i k:Nat}(v:List (In×Value))(h:k≠i):upS f i v k=f k:=by unfold upS;rw[ax h]
theorem Ln {w:World}{b size n:Nat}{e:TypeId}{v:Value}{xs:List Value}(h:w.ownsRow b e size v n xs):w.ownsRow 0 e size v n xs:=by
 obtain⟨d,c⟩:=h;rcases c with c|⟨g,cap,a,e,q,r⟩
 ·exact⟨d,.inl c⟩
 ·exact⟨d,.inr ⟨g,cap,a,e,dF _,r⟩⟩
theorem uJ {R:Ending->World->Prop}{a:Act}{w:World}(g:Nat)(v:Value)(er at_:Int)(i:a.defers=[])(d:a.tmps.getD 2 undef=v)(e:a.tmps.getD 3 undef=ab g 0)
  (j:w.heap[g]? =ah #[ag er,ag at_] 48) (f:R (.returned (.tuple #[v,.agg #[ag er,ag at_]])) w):bodyPost prog f101 R .ret a w:=by
 refine aX (v:= .tuple #[v,.agg #[ag er,ag at_]]) ?_ i f;have b:a.tmps[2]?.getD undef=v:=by simpa using d
 have c:a.tmps[3]?.getD undef=ab g 0:=by simpa using e
 have k:=en (P:=prog) w g 48 48 _ _ _ j pN rfl (by kernel_rfl);simp[results,results101,b,c,asAddr,k]
theorem Jh (m:Nat->Int×Int): ∀(k j n:Nat),j+k<=n-> -1<=ko m k j/\ko m k j<=(n:Int)
 |0,j,n,_=>by simp only[ko];omega
 |k+1,j,n,h=>by
  have a:=Jh m k (j+1) n (by omega);simp only[ko];split
  ·omega
  ·exact a
theorem kj.set {w:World}{v:Value}{S:List (In×Value)}(h:kj w v S){g:Nat}{c:Array Value}(b:w.heap[g]? =ah c 48)(xs:Array Value):kj (w.setRow g xs) v S:=
 World.ownsRow.kept h (row:=some g) ⟨rfl,rfl,rfl,by simp,fun q _ a=>aW w g q xs (fun e=>a (congrArg some e))⟩ (.inr fun e=>lj h b (by decide) e.symm)
theorem it.set {w:World}{v:Value}{l:List (Int×Int)}(h:it w v l){g:Nat}{c:Array Value}(k:w.heap[g]? =ah c 48)(xs:Array Value):it (w.setRow g xs) v l:=by
 rcases h with h|⟨d,f,b,e,m,a,n⟩
 ·exact .inl h
 ·refine .inr ⟨d,f,b,e,m,(aW w g d xs (fun q=> ?_)).trans a,n⟩;rw[q,k]at a;injection a with j;injection j with _ i _;exact absurd i (by decide)
theorem D5 (us:List (Ru×Value))(v:Value)(w:World)(h:InR w v us)(hT:Tab w):Calls prog 101 #[v] w (zf (us.map (fun p=>p.1)) w):=by
 obtain⟨l,hl⟩:=au (us.map (fun p=>p.1));obtain⟨n,hn⟩:=au us.length;have b4:l.length=n:=by rw[<-hl,bc,hn]
 obtain⟨pv,cv,rfl⟩:=h.form;have bA:=am w (.cells #[ag 0,ag 0] 48);have n1:=aG w (.cells #[ag 0,ag 0] 48);generalize cc:w.alloc (.cells #[ag 0,ag 0] 48)=wA at*;have cW:=vw us _ wA (h.below bA);rw[hl]at cW;rw[hl,hn];have HL:=aE hl;have bj:=aE hn;have ab:=aE b4;have bh:=aE h;have bV:=aE hT;rw[hn]at cW;clear hl b4 h hn hT;go_enter func101,ntmps101;go_wp2_with fail;refine cW.mono ?_;rintro r w1 ⟨rfl,aR⟩;have m2:=ai aR n1;have E:=aw bA aR;clear cW n1 aR bA cc;by_cases h0:(dC l).1=0
 ·have bv:=(rA h0).1;rw[ab.o]at bv;have L:=aE h0;rw[h0];generalize (((dC l).2:Nat):Int)=P at*;have bC:=am w1 (.cells #[ag 0,ag P] 48);have M:=aE (aw E bC);have HR:=aE (ai bC m2);have m3:=aG w1 (.cells #[ag 0,ag P] 48);have ch:=aE bv;have ci:(n:Int)<=40:=(by omega);have cl:(0:Int)<=(n:Int):=(by omega);clear bC E m2 h0;generalize bJ:w1.alloc (.cells #[ag 0,ag P] 48)=wB at*;have z0:=ak 0 m3;have cN:=pJ us _ wB (bh.o.below M.o);unfold FP at cN;rw[HL.o,bj.o]at cN;clear m3;go_wp2_with fail;refine cN.mono ?_;rintro r w3 ⟨mb,rfl,cq,a2,b3⟩;have aJ:=aw M.o b3;have r3:=ai b3 HR.o;have bM:=am w3 (.cells (oK n) 195);have nM:=aG w3 (.cells (oK n) 195);have b8:=Gw n (by omega) w3;have a5:=a2.later (bM.block _ (ik a2));have aK:=aw aJ bM;have rM:=ai bM r3;have b7:=ik a2;have ca:=aI r3;obtain⟨C,aT⟩:=au w3.heap.size;have aF:w.heap.size<=C:=(by rw[<-aT];exact aJ.size);generalize cd:w3.alloc (.cells (oK n) 195)=wM at*;rw[aT]at nM b8 b7 ca;have aC:w.heap.size<=wM.heap.size:=aK.size;have ac:=aE (fL.made nM);have bq:=aE a5;have bb:=aE aK;have bu:=aE rM;have Q:w.heap.size≠C:=(by omega);have aZ:mb≠C:=(by omega);clear bJ cN a2 b3 aJ r3 bM nM a5 aK rM HR M z0;go_wp2_with fail;clear b8 cd aT;go_loopw [7,8,9,25] (fun _ _ _ t wr=> ∃(j:Nat) (sv:Nat->Value) (Ss:Nat->List (In×Value)),t=ag (j:Int)/\j<=n/\fL C n sv (fun _=>0) (fun _=>0) wr/\(∀k,k<j->qg l wr sv Ss k)/\bp C wM wr) (fun _ _ _ t _=>n-(intOf t).toNat);case atStart=>exact⟨0,_,fun _=>[],rfl,by omega,ac.o,fun k f=>by omega,bp.refl _ _⟩
  case round=>
   obtain⟨j,sv,Ss,rfl,hj,A,D,d⟩:=hrel;clear ac;have cp:(0:Int)<=(j:Int):=(by omega);have aj:=zg bb.o d aF aC;by_cases b5:j<n
   ·have b6:(j:Int)<(n:Int):=(by omega);obtain⟨p,ao⟩: ∃p,us[j]? =some p:=⟨us[j]'(by have:=bj.o;omega),ay _⟩
    have R:=bh.o.below aj;have be:=aE R.cells;obtain⟨g,o,bY,d0,d1,d2,d3,d4,d5⟩:=be.o j p ao;subst bY;have bF:=aM ao;obtain⟨bD,aS,dd,ap⟩:=R.all p bF;obtain⟨ps,cs,bG⟩:=ap.form;have av:l[j]? =some p.1:=(by rw[<-HL.o,a8,ao];rfl);have a0:=aM av;obtain⟨⟨nm,e⟩,sk⟩:=p;dsimp only at d0 d1 d2 d3 d4 d5 aS ap bG bD av a0;subst bG;have X:=(rA L.o).2 _ a0;have bS:=aE av;have bR:=am wr (.cells #[.string ⟨nm.toArray⟩,ag e.kind,ag e.a,ag e.b,.string ⟨e.name.toArray⟩,.slice ps e.kids.length cs] 86);have nR:=aG wr (.cells #[.string ⟨nm.toArray⟩,ag e.kind,ag e.a,ag e.b,.string ⟨e.name.toArray⟩,.slice ps e.kids.length cs] 86);generalize ce:wr.alloc (.cells #[.string ⟨nm.toArray⟩,ag e.kind,ag e.a,ag e.b,.string ⟨e.name.toArray⟩,.slice ps e.kids.length cs] 86)=K at*;have bZ:=am K (.cells #[.map none,af] 192);have nZ:=aG K (.cells #[.map none,af] 192);generalize cf:K.alloc (.cells #[.map none,af] 192)=wZ at*;have bW:=below_setRow bZ (aD _) #[.map (some mb),af];have nW:=aL _ _ _ #[.map (some mb),af] _ _ nZ;have I:=ai bW nR;generalize bK:wZ.setRow K.heap.size #[.map (some mb),af]=wW at*;have a9:WOk K K.heap.size (.map (some mb)) [] wW:=⟨⟨bW,aD _,_,nW,dp _ _ _ _⟩,fun u hu=>by cases hu⟩
    have a6:jr K mb l:=by
     have z:=bq.o.later (d.block _ (ik bq.o) (fun e=>aZ (aN e)));exact z.later (bR.block _ (ik z))
    have bw:Tab K:=kR (kR bV.o aj) bR;have a4:fP (fun k=>k<K.heap.size) dd K (.slice ps e.kids.length cs) e.kids:=(ap.kept fun g _ hl=>bR.block g hl).mono fun g hg=>aU hg bR.size;have cE:=Lm K K.heap.size mb l a6 bw dd e _ a4 X aS (fun x hx=>(sY L.o a0 hx).1) [] wW a9 (by have:=X.nod;simpa using bg this (by omega));unfold exV at cE;have y1:=ak 1 I;have y2:=ak 2 I;have y3:=ak 3 I;have y4:=ak 4 I;have y5:=ak 5 I;have y:=aE A;have m:=aE D;have Z:=aE d;have bd:=aE bR;have cj:=X.nod;have cm:=(mn (atP5 l) _ e (aD _) X.ok 0)
    clear R be ao bF ap bD aS av a0 A D d aj bR bW bZ nW a9 a6 bw a4 nR X;go_wp2_with(refine az rfl 192 _ _ rfl _ _ rfl rfl _ _ nZ (by kernel_rfl) (by simp) (by simp[Value.oneCell']) ?_;rw[bK])
    refine cE.mono ?_;rintro r w5 ⟨rfl,J,aQ,bE,_⟩;obtain⟨⟨bx,_,cg,n5,F⟩,Y⟩:=bE;rw[List.nil_append]at F Y
    have bX:J.length=(dc (atP5 l) e 0).length:=by
     have z:=congrArg List.length aQ;rw[bc]at z;exact z
    obtain⟨g5,c5,cb⟩: ∃g5 c5,cg= .slice (some (ae g5 0)) J.length c5:=by
     rcases F.2 with⟨_,e0⟩|⟨g',cap,ck,e0,_⟩
     ·omega
     ·exact⟨g',cap,e0⟩
    subst cb;have cw:=ak 1 n5;have B:aq wr w5:=aw bd.o bx;have s:=y.o.below B;have x0:=(s.cells b5).1;have xf:=s.frozen (j*3);have b1:=Z.o.trans (bp.of_below B);have ar:=iP w5 C (j*3) (.slice (some (ae g5 0)) J.length c5);have bT:=aE (s.setV (.slice (some (ae g5 0)) J.length c5) b5);have bP:=aE (b1.trans ar);have bH:kj w5 (.slice (some (ae g5 0)) J.length c5) J:=Ln F
    have bk:Rb (∀k,k<j+1->qg l (w5.setCell ⟨C,j*3,none⟩ (.slice (some (ae g5 0)) J.length c5)) (upV sv j (.slice (some (ae g5 0)) J.length c5)) (upS Ss j J) k):=fun k f=>by
     by_cases e1:k=j
     ·subst e1
      have z:qg l w5 (upV sv k (.slice (some (ae g5 0)) J.length c5)) (upS Ss k J) k:=by
       unfold qg;rw[Jf,Pm,ng bS.o];exact⟨bH,aQ,Y⟩
      exact z.kept s ar
     ·have z:=m.o k (by omega);have h2:qg l w5 sv Ss k:=⟨z.1.below B,z.2.1,fun u hu=>(z.2.2 u hu).below B⟩
      exact(h2.kept s ar).ext (Jg _ _ e1) (Pn _ _ e1)
    generalize ct:w5.setCell ⟨C,j*3,none⟩ (.slice (some (ae g5 0)) J.length c5)=w6 at*;clear bX cE F Y aQ bx n5 B s b1 ar bH y1 y2 y3 y4 y5 I y m Z bd bK cf nZ ce d0 d1 d2 d3 d4 d5;go_wp2_with fail;go_roundw;case rel=>exact⟨j+1,_,_,by go_num,by omega,bT.o,bk.o,bP.o⟩
    case measure=>simp[intOf];omega
   ·have b6: ¬(j:Int)<(n:Int):=(by omega);obtain rfl:n=j:=(by omega);generalize wr=wL at*;have aO:n=(fX l).length:=(by rw[nH];exact ab.o.symm);have an: ∀k,k<n->k<l.length:=fun k f=>(by have:=ab.o;omega)
    have aP: ∀k,k<n->1<=(Ss k).length/\(Ss k).length<=700:=fun k f=>by
     have z:=congrArg List.length (D k f).2.1;rw[bc]at z;have h2:=xw L.o (an k f);omega
    have bl:=aE (fun(w':World) (i:Nat)=>D3 (fX l) (muR l) (gM l) (sy L.o) (ze l) n C n aO (by omega) sv Ss (fun k f=>(D k f).2.1) aP (fun k f u hu=>((D k f).2.2 u hu).form) (fun i hi=>vL L.o (an i hi)) (fun i hi=>C1 L.o (an i hi)) _ i (aD _));have m:=aE D;have y:=aE A;have Z:=aE d;have aa:=aE aP;have bN:=aE aO;clear D A d aP an aO aj;go_wp2_with fail;go_loopw [10,44] (fun _ t w7=> ∃(i:Nat) (H T:Nat->Int),t=ag (i:Int)/\i<=n/\fL C n sv H T w7/\(∀k,k<n->Okm (gM l) H T k)/\(∀k,k<i->Me (gM l) H T k)/\bp C wL w7) (fun _ t _=>n-(intOf t).toNat);case atStart=>exact⟨0,_,_,rfl,by omega,y.o,fun k _=> .inl ⟨rfl,rfl⟩,fun k f=>by omega,bp.refl _ _⟩
    case round=>
     obtain⟨i,H,T,rfl,hi,A,a3,a1,d⟩:=hrel;have co:(0:Int)<=(i:Int):=(by omega);by_cases aV:i<n
     ·have b0:(i:Int)<(n:Int):=(by omega);have cM:=bl.o wr i aV H T wr A (fun q hq=>((m.o q hq).1.kept y.o d)) (fun q hq _=>a3 q hq);obtain⟨ps,cs,bI,_⟩:=((m.o i aV).1.kept y.o d).form (aa.o i aV).1;unfold xu at cM;rw[bI]at cM;have bU:=aE a3;have bn:=aE a1;have bQ:=aE d;clear bI A a3 a1 d;go_wp2_with fail;refine cM.mono ?_;rintro r w8 ⟨rfl,H',T',a7,S,V,b2⟩
      have bs:Rb (∀k,k<n->Okm (gM l) H' T' k):=fun k f=>by
       by_cases e1:k=i
       ·subst e1;exact .inr S
       ·have z:=V k f e1;by_cases e2:muR l k<=muR l i
        ·exact(z.1 e2).1
        ·have h2:=z.2 (by omega);have h3:=bU.o k f;unfold Okm Me at h3⊢;rw[h2.1,h2.2];exact h3
      have bm:Rb (∀k,k<i+1->Me (gM l) H' T' k):=fun k f=>by
       by_cases e1:k=i
       ·subst e1;exact S
       ·have z:=V k (by omega) e1;have h3:=bn.o k (by omega);by_cases e2:muR l k<=muR l i
        ·exact(z.1 e2).2 h3
        ·have h2:=z.2 (by omega);unfold Me at h3⊢;rw[h2.1,h2.2];exact h3
      have bO:=aE (bQ.o.trans b2);have br:=aE a7;clear cM a7 S V b2;go_wp2_with fail;go_roundw;case rel=>exact⟨i+1,H',T',by go_num,by omega,br.o,bs.o,bm.o,bO.o⟩
      case measure=>simp[intOf];omega
     ·have b0: ¬(i:Int)<(n:Int):=(by omega);obtain rfl:n=i:=(by omega);have U:fL C n sv (fun k=>(gM l k).1) (fun k=>(gM l k).2) wr:=A.congr fun k f=>a1 k f
      have aA: ∀k,k<n-> ∃p ln c,sv k= .slice p ln c/\ln<=700:=fun k f=>by
       obtain⟨g',c',e',_⟩:=(m.o k f).1.form (aa.o k f).1;exact⟨_,_,_,e',(aa.o k f).2⟩
      have cI:=BA n C n sv (gM l) wr U aA (by omega)
      have bi:Rb (∀(W:World) (c xs:Array Value),aq wr W->W.heap[w.heap.size]? =ah c 48-> ∀u,oJ (W.setRow w.heap.size xs) u->InV u (.slice (some (ae C 0)) n n) (fd l)):=fun W c xs hW hg u hu=>by
       refine NM bN.o (by omega) (((U.below hW).same (aW W w.heap.size C xs (fun e=>Q e.symm))).ty hu) (fun k f=>((((m.o k f).1.kept y.o d).below hW).set hg xs).ty hu) aa.o (fun k f p hp=>(((((m.o k f).2.2 p hp).kept y.o d).below hW).set hg xs).ty hu) (fun k f=>(m.o k f).2.1)
      have aX:=Z.o.trans d;have ba:=aE (zg bb.o aX aF aC);have bt:=aE ((aX.block _ (aI bu.o) (fun e=>Q (aN e))).trans bu.o);obtain⟨fx,al⟩:=au (ko (gM l) n 0);rw[al]at cI;have bf:Rb (ko (gM l) l.length 0=fx):=(by show _=_;rw[ab.o];exact al);have cn: -1<=fx/\fx<=(n:Int):=(by rw[<-al];exact Jh (gM l) n 0 n (by omega));clear A a3 a1 d U aA aX al y m bl;go_wp2_with fail;refine cI.mono ?_;rintro r w9 ⟨rfl,b9⟩;have G:=ai b9 bt.o;have ad:=aw ba.o b9;have O:=aE (bi.o w9 _ #[ag 0,ag 0] b9 G);have cu:=aI G;clear cI bi ba bt b9;by_cases bz:0<=fx
      ·have N:Rb (iB l=(4,fx)):=by
        show _=_;unfold iB;rw[ax (by simpa using L.o),bf.o,aB bz]
       have HO:Rb (zf l w (.returned (.tuple #[af,.agg #[ag 4,ag fx]])) (w9.setRow w.heap.size #[ag 4,ag fx])):=by
        refine⟨_,by rw[N.o],fun e=> ?_,fun _=>rfl,below_setRow ad (aD _) _⟩;rw[N.o]at e;exact absurd e (by show¬(4:Int)=0;omega)
       have aH:=aE (aL _ _ _ #[ag 4,ag fx] _ _ G);clear O ad;go_wp2_with(refine az rfl 48 _ _ rfl _ _ rfl rfl _ _ G (by kernel_rfl) (by simp) (by simp[Value.oneCell']) ?_)
       exact uJ w.heap.size _ 4 fx rfl rfl rfl aH.o HO.o
      ·have N:Rb (iB l=(0,0)):=by
        show _=_;unfold iB;rw[ax (by simpa using L.o),bf.o,ax bz]
       have HO:Rb (zf l w (.returned (.tuple #[.slice (some (ae C 0)) n n,.agg #[ag 0,ag 0]])) (w9.setRow w.heap.size #[ag 0,ag 0])):=by
        refine⟨_,by rw[N.o],fun _=> ?_,fun e=> ?_,below_setRow ad (aD _) _⟩
        ·exact O.o
        ·rw[N.o]at e;exact absurd rfl e
       have aH:=aE (aL _ _ _ #[ag 0,ag 0] _ _ G);clear O ad;go_wp2_with(refine az rfl 48 _ _ rfl _ _ rfl rfl _ _ G (by kernel_rfl) (by simp) (by simp[Value.oneCell']) ?_)
       exact uJ w.heap.size _ 0 0 rfl rfl rfl aH.o HO.o
 ·have L:=aE h0
  have HF:Rb (iB l=((dC l).1,((dC l).2:Int))):=by
   show _=_;unfold iB;rw[aB h0]
  have cr:((dC l).1 !=0)=true:=(by simpa using h0);have bC:=am w1 (.cells #[ag (dC l).1,ag ((dC l).2:Int)] 48);have M:=aE (aw E bC);have G:=ai bC m2;have m3:=aG w1 (.cells #[ag (dC l).1,ag ((dC l).2:Int)] 48);clear bC E m2 h0;generalize bJ:w1.alloc (.cells #[ag (dC l).1,ag ((dC l).2:Int)] 48)=wB at*
  have HO:Rb (∀W,aq w W->zf l w (.returned (.tuple #[af,.agg #[ag (dC l).1,ag ((dC l).2:Int)]])) W):=fun W hW=>by
   refine⟨_,by rw[HF.o],fun e=> ?_,fun _=>rfl,hW⟩;rw[HF.o]at e;exact absurd e L.o
  have z0:=ak 0 m3;have z1:=ak 1 m3;have y0:=ak 0 G;have y1:=ak 1 G;have x0:=bo _ _ 0 _ _ G;have x1:=bo _ _ 1 _ _ G;have bB:=aY _ _ 1 _ _ (ag ((dC l).2:Int)) (aY _ _ 0 _ _ (ag (dC l).1) G);have bL:=aE ((M.o.setCell (p:=⟨w.heap.size,0,none⟩) (aD _) (ag (dC l).1)).setCell (p:=⟨w.heap.size,1,none⟩) (aD _) (ag ((dC l).2:Int)));have ac:=aE bB;clear bB G m3;clear HF L;generalize (dC l).1=er at*;generalize (((dC l).2:Nat):Int)=P at*;go_wp2_with fail;go_region;go_wp2_with fail;exact uJ w.heap.size _ er P rfl rfl rfl ac.o (HO.o _ (du bL.o 1))
end Go.Proofs.YtlkehieagdkgiaaGreatDoor
