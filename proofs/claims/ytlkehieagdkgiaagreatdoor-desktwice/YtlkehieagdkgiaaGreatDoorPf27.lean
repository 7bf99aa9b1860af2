/- Texts of the proof. -/
import Derived.Test.YtlkehieagdkgiaaGreatDoorPf26
set_option maxRecDepth 100000
set_option maxHeartbeats 8000000
namespace Go.Proofs.YtlkehieagdkgiaaGreatDoor
open Go.Proofs.Tryz Go.RowKit Lx Vx Mx Msk
theorem mn {l:List Ru}{ks:List Ex}{j b:Nat}(h: ∀k∈ks,OKE k):(lu l ks j b).length<=((ks.take j).map jm).sum:=by
 unfold lu;have d: ∀k∈ks.take j,OKE k:=fun k e=>h k (List.mem_of_mem_take e);generalize ks.take j=c at*;induction c generalizing b with
 |nil=>simp[kJ]
 |cons k ks f=>
  have i:=(ml (atP5 l) _ k (aD _) (d k bf) b).2;have m:=f (b:=b+(bU (atP5 l) k b).length) fun g a=>d g (bG _ a);simp only[dR,kJ,aO,jj];omega
theorem tw {a:List Ex}{j:Nat}{k:Ex}(h:a[j]? =some k):((a.take j).map jm).sum+jm k<=(a.map jm).sum:=by
 have b:a=a.take j++(k::a.drop (j+1)):=by
  conv=>lhs;rw[<-ie j a]
  congr 1;have c:=(aE.1 h).1;rw[bK c,(aE.1 h).2]
 conv=>rhs;rw[b]
 rw[dO,List.sum_append,dR,jj];omega
theorem N1 {w w':World}(h:Tab w)(a:aq w w'):Tab w':=kV h a
theorem Bi (C:World)(gm mb d:Nat)(l:List Ru)(e:Ex)(p:Option Addr)(c:Nat)(S:List (In×Value))(N:World)(h:WOk C gm (.map (some mb)) S N)(a9:js C mb l)(hT:Tab C)(J:Rt e)(hn:e.name.length<=9223372036854775807)(a8:gK (fun k=>k<C.heap.size) d C (.slice p e.kids.length c) e.kids)(B:e.kids=[]\/Mt C gm (.map (some mb)) l (.slice p e.kids.length c) e.kids)(ar: ∀x∈nms e,0<=atP5 l x)(hS:S.length+jm e<=700):
  Calls prog 132 #[ab gm 0,.agg #[ag e.kind,ag e.a,ag e.b,.string ⟨e.name.toArray⟩,.slice p e.kids.length c]] N (oq C gm (.map (some mb)) S (bU (atP5 l) e S.length) N):=by
 have a3:=ba a8;have bA:=am N (.cells #[ag e.kind,ag e.a,ag e.b,.string ⟨e.name.toArray⟩,.slice p e.kids.length c] 84);have nA:=aG N (.cells #[ag e.kind,ag e.a,ag e.b,.string ⟨e.name.toArray⟩,.slice p e.kids.length c] 84);have hA:=h.below bA;have a6:=Fr2.below h.lt bA;obtain⟨gE,aI⟩:=au N.heap.size;generalize aO:N.alloc (.cells #[ag e.kind,ag e.a,ag e.b,.string ⟨e.name.toArray⟩,.slice p e.kids.length c] 84)=wA at*;rw[aI]at nA;have a7:gK (fun k=>k<C.heap.size) d wA (.slice p e.kids.length c) e.kids:=a3.o.kept fun g hg _=>hA.st.bel.block g hg;have cS:=GH d e _ wA a7;unfold exV vK at cS;have HA:=ba hA;have a2:=ba a6;have a4:=ba a9;have HT:=ba hT;clear bA hA a6 a7 h a8 a9 hT;go_enter func132,ntmps132;go_wp2_with(refine aR rfl 84 _ rfl _ rfl _ _ _ _ nA ft rfl (by kernel_rfl) ?_)
 refine cS.mono ?_;rintro r w1 ⟨rfl,b1⟩;have n:=ba (HA.o.below b1);have E:=ba (a2.o.trans (Fr2.below HA.o.lt b1));have I:=ai b1 nA;clear cS nA aO HA a2 b1;cases hstd:stdE e with
 |true=>
  have q:=n.o.st.bel;have cM:=Ef d e (.slice p e.kids.length c) w1 J hstd hn ((a3.o.kept fun g hg _=>q.block g hg).mono fun g hg=>aU hg q.size);unfold exV at cM;have t:=ba (oT (num:=atP5 l) hstd S.length);have aF:=ba (N1 HT.o q);clear q B J hn ar hstd;go_wp2_with(refine aR rfl 84 _ rfl _ rfl _ _ _ _ I ft rfl (by kernel_rfl) ?_)
  refine cM.mono ?_;rintro r w2 ⟨rfl,b2⟩;have cP:=A1 (mnE e) w2 (kV aF.o b2);have ac:=ba (n.o.below b2);have aA:=ba (E.o.trans (Fr2.below n.o.lt b2));clear cM I b2;go_wp2_with fail;refine cP.mono ?_;rintro r w3 ⟨⟨v3,rfl,own3⟩,_,b3⟩;have aw:=iA.of_own own3;have ad:=ac.o.below b3;have aB:=ba (aA.o.trans (Fr2.below ac.o.lt b3));have cW:=vL ad ⟨1,0,0,0,rs (mnE e) 1440⟩ v3 aw (by omega);dsimp only at cW;obtain⟨p3,n3,c3,aN⟩:=aw.form;subst aN;clear cP own3 aw ad b3;go_wp2_with fail;refine cW.mono ?_;rintro r Q ⟨rfl,m,i⟩;have L:Rg (oq C gm (.map (some mb)) S (bU (atP5 l) e S.length) N (.returned (.tuple #[])) Q):=⟨rfl,_,by rw[t.o];rfl,m,aB.o.trans i⟩
  clear cW m i;go_wp2_with fail;exact⟨rfl,_,fc rfl _ _ _,L.o⟩
 |false=>
  have z0:=ak 0 I;have z1:=ak 1 I;have z2:=ak 2 I;have z3:=ak 3 I;have z4:=ak 4 I;clear I hn;rcases ol J.ok hstd with⟨f,y⟩|⟨f,y⟩|⟨f,y⟩|f|⟨f,y⟩
  ·have e4:(e.kind==4)=true:=(by simp[f]);obtain⟨k,w⟩:=y;obtain⟨g,o,c',av,an,ao,H⟩:=B.resolve_left (by rw[w];simp);injection av with e1 e2 e3;subst e1 e3;have O:e.kids[0]? =some k:=(by rw[w];rfl);obtain⟨pk,qk,d0,d1,d2,d3,d4,X⟩:=H 0 k O;simp only[Nat.zero_mul,Nat.add_zero]at d0 d1 d2 d3 d4;have q:=n.o.st.bel;have f0:=aj q d0;have f1:=aj q d1;have f2:=aj q d2;have f3:=aj q d3;have f4:=aj q d4;have aL:(e.kids.length:Int)=1:=(by rw[w];rfl);have V:k∈e.kids:=(by rw[w];simp)
   have aq:S.length+1+jm k<=700:=by
    have:=mC e;rw[w]at this;simp only[dR,fw,jj,List.sum_nil]at this;omega
   have aM:=(ml (atP5 l) _ k (aD _) (J.ok.kid V) (S.length+1)).2;have t:=ba (pK (num:=atP5 l) f O S.length);have ah:=ba X;clear d0 d1 d2 d3 d4 X H q B w O V J hstd ao an;go_wp2_with fail;refine jY 8 [kn 16 (ab gm 0),kn 17 (ab gE 1),kn 18 (ag e.a),kn 19 (.agg #[ag 6,ag e.a,ag 0,ag 0,af]),kn 20 (ab gE 4),kn 21 (.slice (some (ae g o)) e.kids.length c),kn 22 (ab g o),kn 23 (.agg #[ag k.kind,ag k.a,ag k.b,.string ⟨k.name.toArray⟩,.slice pk k.kids.length qk]),td 24] (by kernel_rfl) (by kernel_rfl) fun M φ W _ v F l hl hF=> ?_;have Y:=aj v z1;have Z:=aj v z4;have aa:=aj v f0;have ax:=aj v f1;have ay:=aj v f2;have a0:=aj v f3;have a1:=aj v f4;simp only[kn,td,eh,aQ,aT,Act.put,az,aK,aJ]at hl;subst hl;simp only[dc,Nat.reduceAdd]at hF;dsimp only[kn,td,dz,eV,eo,Act.put];and_intros;all_goals first|exact trivial|intro hw hn hm K U
   all_goals try (go_simp;with_reducible exact U _ _ ⟨rfl,aH _ _⟩)
   clear Y Z aa ax ay a0 a1;have z:=n.o.below v;have G:=n.o.lt;have D:=wg C gm (.map (some mb)) l k pk qk 6 e.a 0 S W z ah.o aq (by omega);go_simp;refine D.mono ?_;rintro r Q ⟨rfl,R,s,m,i⟩;have L:Rg (oq C gm (.map (some mb)) S (bU (atP5 l) e S.length) N (.returned (.tuple #[])) Q):=⟨rfl,R,s.trans t.o.symm,m,(E.o.trans (Fr2.below G v)).trans i⟩
   refine U _ _ ⟨trivial,fun c=>by simp at c,fun _=> ?_⟩;simp only[eD,aQ,aT,Act.put,az,aK,aJ];clear hF hw hn hm;clear U v D z s m i;go_wp2_with fail;exact⟨rfl,_,fc rfl _ _ _,L.o⟩
  ·have e4:(e.kind==4)=false:=(by simp[f]);have e5:(e.kind==5)=true:=(by simp[f]);obtain⟨k,w⟩:=y;obtain⟨g,o,c',av,an,ao,H⟩:=B.resolve_left (by rw[w];simp);injection av with e1 e2 e3;subst e1 e3;have O:e.kids[0]? =some k:=(by rw[w];rfl);obtain⟨pk,qk,d0,d1,d2,d3,d4,X⟩:=H 0 k O;simp only[Nat.zero_mul,Nat.add_zero]at d0 d1 d2 d3 d4;have q:=n.o.st.bel;have f0:=aj q d0;have f1:=aj q d1;have f2:=aj q d2;have f3:=aj q d3;have f4:=aj q d4;have aL:(e.kids.length:Int)=1:=(by rw[w];rfl);have V:k∈e.kids:=(by rw[w];simp)
   have aq:S.length+1+jm k<=700:=by
    have:=mC e;rw[w]at this;simp only[dR,fw,jj,List.sum_nil]at this;omega
   have aM:=(ml (atP5 l) _ k (aD _) (J.ok.kid V) (S.length+1)).2;have t:=ba (oj (num:=atP5 l) f O S.length);have ah:=ba X;clear d0 d1 d2 d3 d4 X H q B w O V J hstd ao an;go_wp2_with fail;refine jY 10 [kn 27 (ab gm 0),kn 28 (ab gE 1),kn 29 (ag e.a),kn 30 (ab gE 2),kn 31 (ag e.b),kn 32 (.agg #[ag 7,ag e.a,ag e.b,ag 0,af]),kn 33 (ab gE 4),kn 34 (.slice (some (ae g o)) e.kids.length c),kn 35 (ab g o),kn 36 (.agg #[ag k.kind,ag k.a,ag k.b,.string ⟨k.name.toArray⟩,.slice pk k.kids.length qk]),td 37] (by kernel_rfl) (by kernel_rfl) fun M φ W _ v F l hl hF=> ?_;have Y:=aj v z1;have Z:=aj v z2;have aa:=aj v z4;have ax:=aj v f0;have ay:=aj v f1;have a0:=aj v f2;have a1:=aj v f3;have aP:=aj v f4;simp only[kn,td,eh,aQ,aT,Act.put,az,aK,aJ]at hl;subst hl;simp only[dc,Nat.reduceAdd]at hF;dsimp only[kn,td,dz,eV,eo,Act.put];and_intros;all_goals first|exact trivial|intro hw hn hm K U
   all_goals try (go_simp;with_reducible exact U _ _ ⟨rfl,aH _ _⟩)
   clear Y Z aa ax ay a0 a1 aP;have z:=n.o.below v;have G:=n.o.lt;have D:=wg C gm (.map (some mb)) l k pk qk 7 e.a e.b S W z ah.o aq (by omega);go_simp;refine D.mono ?_;rintro r Q ⟨rfl,R,s,m,i⟩;have L:Rg (oq C gm (.map (some mb)) S (bU (atP5 l) e S.length) N (.returned (.tuple #[])) Q):=⟨rfl,R,s.trans t.o.symm,m,(E.o.trans (Fr2.below G v)).trans i⟩
   refine U _ _ ⟨trivial,fun c=>by simp at c,fun _=> ?_⟩;simp only[eD,aQ,aT,Act.put,az,aK,aJ];clear hF hw hn hm;clear U v D z s m i;go_wp2_with fail;exact⟨rfl,_,fc rfl _ _ _,L.o⟩
  ·have e4:(e.kind==4)=false:=(by simp[f]);have e5:(e.kind==5)=false:=(by simp[f]);have e9:(e.kind==9)=true:=(by simp[f]);have A:=B.resolve_left (by rw[y.choose_spec];simp);have u: ∀k∈e.kids,OKE k:=fun k B=>J.ok.kid B;have P:=mC e
   have D:=qp C gm (.map (some mb)) l e.kids _ 5 e.a S w1 n.o A (fun j k hj=>by
    have T:=mn (l:=l) (ks:=e.kids) (j:=j) (b:=S.length) u;have h2:=tw hj;omega) (by
    have T:=mn (l:=l) (ks:=e.kids) (j:=e.kids.length) (b:=S.length) u;rw[gM]at T;omega)
   have t:Rg (bU (atP5 l) e S.length=kJ (e.kids.map (bU (atP5 l))) S.length++[⟨5,e.a,0,0,[]⟩]):=by
    show _=_;rw[oU hstd (by omega) (by omega) (by omega)];unfold opK;simp[f]
   clear A u P B y J hstd;go_wp2_with fail;refine D.mono ?_;rintro r Q ⟨rfl,R,s,m,i⟩;have L:Rg (oq C gm (.map (some mb)) S (bU (atP5 l) e S.length) N (.returned (.tuple #[])) Q):=⟨rfl,R,s.trans t.o.symm,m,E.o.trans i⟩
   clear D s m i;go_wp2_with fail;exact⟨rfl,_,fc rfl _ _ _,L.o⟩
  ·have e4:(e.kind==4)=false:=(by simp[f]);have e5:(e.kind==5)=false:=(by simp[f]);have e9:(e.kind==9)=false:=(by simp[f]);have al:(e.kind==10)=true:=(by simp[f])
   have zm:w1.cell? (ae gm 0)=some (.map (some mb)):=by
    obtain⟨_,_,sv,n1,_⟩:=n.o.st;exact ak 0 n1
   have aE:=ba (ar _ (vJ f));have t:=ba (pJ (num:=atP5 l) f S.length);have ap:=iq a4.o;have a5:=ba (a4.o.later (n.o.st.bel.block _ ap));have aC:=ba (aU ap n.o.st.bel.size);clear ar B J hstd ap;go_wp2_with fail;refine jY 9 [kn 49 (ab gm 0),kn 50 (ab gm 0),kn 51 (ab gm 0),kn 52 (ab gm 0),kn 53 (.map (some mb)),kn 54 (ab gE 3),kn 55 (.string ⟨e.name.toArray⟩),kn 56 (ag (atP5 l e.name)),kn 57 (.agg #[ag 8,ag (atP5 l e.name),ag 0,ag 0,af]),td 58] (by kernel_rfl) (by kernel_rfl) fun M φ W _ v F l hl hF=> ?_;have Y:=aj v zm;have Z:=aj v z3;have aa:=F4 (a5.o.later (v.block _ aC.o)) e.name aE.o;simp only[kn,td,eh,aQ,aT,Act.put,az,aK,aJ]at hl;subst hl;simp only[dc,Nat.reduceAdd]at hF;dsimp only[kn,td,dz,eV,eo,Act.put];and_intros;all_goals first|exact trivial|intro hw hn hm K U
   all_goals try (go_simp;with_reducible exact U _ _ ⟨rfl,aH _ _⟩)
   clear Y Z aa;have z:=n.o.below v;have G:=n.o.lt;have D:=vL z ⟨8,atP5 l e.name,0,0,[]⟩ (af) (iA.nil _ _ _) (by omega);dsimp only at D;go_simp;refine D.mono ?_;rintro r Q ⟨rfl,m,i⟩;have L:Rg (oq C gm (.map (some mb)) S (bU (atP5 l) e S.length) N (.returned (.tuple #[])) Q):=⟨rfl,_,by rw[t.o];rfl,m,(E.o.trans (Fr2.below G v)).trans i⟩
   refine U _ _ ⟨trivial,fun c=>by simp at c,fun _=> ?_⟩;simp only[eD,aQ,aT,Act.put,az,aK,aJ];clear hF hw hn hm;clear U v D z m i;go_wp2_with fail;exact⟨rfl,_,fc rfl _ _ _,L.o⟩
  ·rcases f with f|f|f
   ·have e4:(e.kind==4)=false:=(by simp[f]);have e5:(e.kind==5)=false:=(by simp[f]);have e9:(e.kind==9)=false:=(by simp[f]);have al:(e.kind==10)=false:=(by simp[f]);have e6:(e.kind==6)=true:=(by simp[f]);have A:=B.resolve_left (by rw[y.choose_spec.choose_spec];simp);have u: ∀k∈e.kids,OKE k:=fun k B=>J.ok.kid B;have P:=mC e
    have D:=qp C gm (.map (some mb)) l e.kids _ 2 0 S w1 n.o A (fun j k hj=>by
     have T:=mn (l:=l) (ks:=e.kids) (j:=j) (b:=S.length) u;have h2:=tw hj;omega) (by
     have T:=mn (l:=l) (ks:=e.kids) (j:=e.kids.length) (b:=S.length) u;rw[gM]at T;omega)
    have t:Rg (bU (atP5 l) e S.length=kJ (e.kids.map (bU (atP5 l))) S.length++[⟨2,0,0,0,[]⟩]):=by
     show _=_;rw[oU hstd (by omega) (by omega) (by omega)];unfold opK;simp[f]
    clear A u P B y J hstd;go_wp2_with fail;refine D.mono ?_;rintro r Q ⟨rfl,R,s,m,i⟩;have L:Rg (oq C gm (.map (some mb)) S (bU (atP5 l) e S.length) N (.returned (.tuple #[])) Q):=⟨rfl,R,s.trans t.o.symm,m,E.o.trans i⟩
    clear D s m i;go_wp2_with fail;exact⟨rfl,_,fc rfl _ _ _,L.o⟩
   ·have e4:(e.kind==4)=false:=(by simp[f]);have e5:(e.kind==5)=false:=(by simp[f]);have e9:(e.kind==9)=false:=(by simp[f]);have al:(e.kind==10)=false:=(by simp[f]);have e6:(e.kind==6)=false:=(by simp[f]);have e7:(e.kind==7)=true:=(by simp[f]);have A:=B.resolve_left (by rw[y.choose_spec.choose_spec];simp);have u: ∀k∈e.kids,OKE k:=fun k B=>J.ok.kid B;have P:=mC e
    have D:=qp C gm (.map (some mb)) l e.kids _ 3 0 S w1 n.o A (fun j k hj=>by
     have T:=mn (l:=l) (ks:=e.kids) (j:=j) (b:=S.length) u;have h2:=tw hj;omega) (by
     have T:=mn (l:=l) (ks:=e.kids) (j:=e.kids.length) (b:=S.length) u;rw[gM]at T;omega)
    have t:Rg (bU (atP5 l) e S.length=kJ (e.kids.map (bU (atP5 l))) S.length++[⟨3,0,0,0,[]⟩]):=by
     show _=_;rw[oU hstd (by omega) (by omega) (by omega)];unfold opK;simp[f]
    clear A u P B y J hstd;go_wp2_with fail;refine D.mono ?_;rintro r Q ⟨rfl,R,s,m,i⟩;have L:Rg (oq C gm (.map (some mb)) S (bU (atP5 l) e S.length) N (.returned (.tuple #[])) Q):=⟨rfl,R,s.trans t.o.symm,m,E.o.trans i⟩
    clear D s m i;go_wp2_with fail;exact⟨rfl,_,fc rfl _ _ _,L.o⟩
   ·have e4:(e.kind==4)=false:=(by simp[f]);have e5:(e.kind==5)=false:=(by simp[f]);have e9:(e.kind==9)=false:=(by simp[f]);have al:(e.kind==10)=false:=(by simp[f]);have e6:(e.kind==6)=false:=(by simp[f]);have e7:(e.kind==7)=false:=(by simp[f]);have e8:(e.kind==8)=true:=(by simp[f]);have A:=B.resolve_left (by rw[y.choose_spec.choose_spec];simp);have u: ∀k∈e.kids,OKE k:=fun k B=>J.ok.kid B;have P:=mC e
    have D:=qp C gm (.map (some mb)) l e.kids _ 4 0 S w1 n.o A (fun j k hj=>by
     have T:=mn (l:=l) (ks:=e.kids) (j:=j) (b:=S.length) u;have h2:=tw hj;omega) (by
     have T:=mn (l:=l) (ks:=e.kids) (j:=e.kids.length) (b:=S.length) u;rw[gM]at T;omega)
    have t:Rg (bU (atP5 l) e S.length=kJ (e.kids.map (bU (atP5 l))) S.length++[⟨4,0,0,0,[]⟩]):=by
     show _=_;rw[oU hstd (by omega) (by omega) (by omega)];unfold opK;simp[f]
    clear A u P B y J hstd;go_wp2_with fail;refine D.mono ?_;rintro r Q ⟨rfl,R,s,m,i⟩;have L:Rg (oq C gm (.map (some mb)) S (bU (atP5 l) e S.length) N (.returned (.tuple #[])) Q):=⟨rfl,R,s.trans t.o.symm,m,E.o.trans i⟩
    clear D s m i;go_wp2_with fail;exact⟨rfl,_,fc rfl _ _ _,L.o⟩
theorem LO (f:World)(gm mb:Nat)(l:List Ru)(n:js f mb l)(w:Tab f): ∀(d:Nat) (e:Ex) (sl:Value),gK (fun k=>k<f.heap.size) d f sl e.kids->Rt e->e.name.length<=9223372036854775807->(∀x∈nms e,0<=atP5 l x)->GI f gm (.map (some mb)) l e sl:=by
 intro d;induction d with
 |zero=>
  intro e sl b q t a S W h s;obtain⟨p,c,rfl⟩:=b.form;exact Bi f gm mb 0 l e p c S W h n w q t b (.inl b.1) a s
 |succ d H=>
  intro e sl b q t a S W h s;obtain⟨p,c,v⟩:=b.form;subst v;refine Bi f gm mb (d+1) l e p c S W h n w q t b ?_ a s;rcases b with⟨h,_⟩|⟨g,o,z,D,F,E,i⟩
  ·exact .inl h
  ·refine .inr ⟨g,o,z,F,D,E,fun j k y=> ?_⟩;obtain⟨u,K,c0,c1,A,B,C,r⟩:=i j k y;obtain⟨I,J,rfl⟩:=r.form;have m:=aN y;exact⟨I,J,c0,c1,A,B,C,H k _ r (q.kid m) u fun x G=>a x (vI m G)⟩
theorem Eh (C:List (List In))(ρ:Nat->Nat)(a:Nat->Int×Int)(x:sM C ρ)(o:rS (fj C a))(n e c:Nat)(A:n=C.length)(j:n<=1000)(sv:Nat->Value)(d:Nat->List (In×Value))(y: ∀k,k<n->(d k).map (fun u=>u.1)=C.getD k [])(v: ∀k,k<n->1<=(d k).length/\(d k).length<=700)(z: ∀k,k<n-> ∀u∈d k,∃p m c,u.2= .slice p m c)(g: ∀i,i<n->a i=mG C a i)(t: ∀i,i<n->1<=(a i).2):
  ∀(r i:Nat),ρ i<=r->i<n-> ∀(H T:Nat->Int) (w:World),fU e n sv H T w->(∀q,q<n->kB w (sv q) (d q))->(∀q,q<n->ρ q<=ρ i->Okm a H T q)->Calls prog 133 #[.slice (some (ae e 0)) n c,ag (i:Int)] w (xl a ρ e n sv i H T w):=by
 intro r;induction r with
 |zero=>
  intro i D hi H T w f l b;exact uE C ρ a x o n e c A j sv d y v z i hi (g i hi) (t i hi) (fun k _ B=>by omega) H T w f l b
 |succ r E=>
  intro i D hi H T w f l b;exact uE C ρ a x o n e c A j sv d y v z i hi (g i hi) (t i hi) (fun k s B H T w f l b=>E k (by omega) s H T w f l b) H T w f l b
def oy (m:Int×Int):Bool:=decide (100<m.1)||decide (20000<m.2)
def kE (m:Nat->Int×Int):Nat->Nat->Int
 |0,_=> -1
 |k+1,j=>if oy (m j)=true then(j:Int) else kE m k (j+1)
theorem Ei (p:Option Addr)(a c:Nat)(h t:Int)(w:World)(j:a<=700):
  Calls prog 135 #[.agg #[.slice p a c,ag h,ag t]] w fun e w'=>e= .returned (.bool (oy (h,t)))/\aq w w':=by
 have f:=am w (.cells #[.slice p a c,ag h,ag t] 195);have b:=aG w (.cells #[.slice p a c,ag h,ag t] 195);generalize m:w.alloc (.cells #[.slice p a c,ag h,ag t] 195)=n at*;have q:=ak 0 b;have r:=ak 1 b;have s:=ak 2 b;have k:(a:Int)<=700:=by omega
 by_cases g:100<h
 ·have d:Rg (oy (h,t)=true):=by show _=_;simp[oy,g]
  rw[d.o];clear b j;go_enter func135,ntmps135;go_wp2_with fail;go_ret;exact⟨rfl,f⟩
 ·by_cases i:20000<t
  ·have d:Rg (oy (h,t)=true):=(by show _=_;simp[oy,i]);rw[d.o];clear b j;go_enter func135,ntmps135;go_wp2_with fail;go_ret;exact⟨rfl,f⟩
  ·have d:Rg (oy (h,t)=false):=(by show _=_;simp[oy,g,i]);rw[d.o];have l: ¬(2000:Int)<(a:Int):=(by omega);clear b;go_enter func135,ntmps135;go_wp2_with fail;go_ret;exact⟨rfl,f⟩
theorem BE (n x c:Nat)(sv:Nat->Value)(m:Nat->Int×Int)(w:World)(z:fU x n sv (fun k=>(m k).1) (fun k=>(m k).2) w)(q: ∀k,k<n-> ∃p s c,sv k= .slice p s c/\s<=700)(J:n<=1000):
  Calls prog 134 #[.slice (some (ae x 0)) n c,.func (.func 135) #[] #[]] w fun e w'=>e= .returned (ag (kE m n 0))/\aq w w':=by
 have B:=ba z;have v:=ba q;have G:(n:Int)<=1000:=by omega
 clear z q;go_enter func134,ntmps134;go_wp2_with fail;go_loopw [5,8] (fun _ t wr=> ∃j:Nat,t=ag (j:Int)/\j<=n/\kE m n 0=kE m (n-j) j/\aq w wr) (fun _ t _=>n-(intOf t).toNat);case atStart=>exact⟨0,rfl,by omega,by rw[Nat.sub_zero],aH _ _⟩
 case round=>
  obtain⟨j,rfl,I,d,r⟩:=hrel;have E:(0:Int)<=(j:Int):=(by omega);by_cases g:j<n
  ·have i:(j:Int)<(n:Int):=(by omega);obtain⟨c0,c1,C,_,_⟩:=(B.o.below r).cells g;obtain⟨H,s,D,A,F⟩:=v.o j g;rw[A]at c0;rw[show n-j=(n-(j+1))+1 by omega,kE]at d;have cT:=Ei H s D (m j).1 (m j).2 wr F;have b:=ba d;generalize l:oy ((m j).1,(m j).2)=y at cT;have a:Rg (oy (m j)=y):=l;generalize (m j).1=K at*;generalize (m j).2=L at*;clear A d l;go_wp2_with fail;refine cT.mono ?_;rintro e M ⟨rfl,b1⟩;have f:=aw r b1;clear cT b1 r c0 c1 C;cases y with
   |true=>
    have u:Rg (kE m n 0=(j:Int)):=(by show _=_;rw[b.o,aB a.o]);clear b a;go_wp2_with fail;go_ret;exact⟨by(rw[u.o])<;>rfl,f⟩
   |false=>
    have u:Rg (kE m n 0=kE m (n-(j+1)) (j+1)):=(by show _=_;rw[b.o,ax (by rw[a.o];simp)]);clear b a;go_wp2_with fail;go_roundw;case rel=>exact⟨j+1,by go_num,by omega,u.o,f⟩
    case measure=>simp[intOf];omega
  ·have i: ¬(j:Int)<(n:Int):=(by omega)
   have b:Rg (kE m n 0= -1):=by
    show _=_;rw[d,show n-j=0 by omega];rfl
   clear d;go_wp2_with fail;go_ret;exact⟨by(rw[b.o])<;>rfl,r⟩
theorem zb {num:List UInt8->Int}: ∀(N:Nat) (e:Ex),SizeOf.sizeOf e<=N->OKE e-> ∀(b:Nat) (x:In),x∈bU num e b->x.op=8-> ∃nm∈nms e,x.a=num nm
 |0,e,j,_,_,_,_,_=>by cases e;simp at j
 |N+1,e,j,h,b,x,c,f=>by
  have g: ∀k∈e.kids,∀b,x∈bU num k b-> ∃nm∈nms e,x.a=num nm:=fun k d b i=>by
   obtain⟨nm,l,n⟩:=zb N k (by have:=ja d;omega) (h.kid d) b x i f;exact⟨nm,vI d l,n⟩
  cases hs:stdE e with
  |true=>
   rw[oT hs,bL]at c;subst c;exact absurd f (by show¬(1:Int)=8;omega)
  |false=>
   rcases ol h hs with⟨q,k,d⟩|⟨q,k,d⟩|⟨q,k,d⟩|q|⟨q,k,m,d⟩
   ·rw[pK q (by rw[d];rfl)]at c;rcases bo.1 c with rfl|c
    ·exact absurd f (by show¬(6:Int)=8;omega)
    ·exact g k (by rw[d];simp) _ c
   ·rw[oj q (by rw[d];rfl)]at c;rcases bo.1 c with rfl|c
    ·exact absurd f (by show¬(7:Int)=8;omega)
    ·exact g k (by rw[d];simp) _ c
   ·rw[ql hs q d]at c;rcases bN.1 c with c|c
    ·exact g k (by rw[d];simp) _ c
    ·rw[bL]at c;subst c;exact absurd f (by show¬(5:Int)=8;omega)
   ·rw[pJ q,bL]at c;subst c;exact⟨_,vJ q,rfl⟩
   ·rw[rR hs q d]at c;rcases bN.1 c with c|c
    ·rcases bN.1 c with c|c
     ·exact g k (by rw[d];simp) _ c
     ·exact g m (by rw[d];simp) _ c
    ·rw[bL]at c;subst c;have:=E7 q;exact absurd f (by show¬opK e.kind=8;omega)
theorem C2: ∀{l:List (Int×Int)} {j:Nat},j<l.length->(jc l)[j*2+0]? =some (ag (l.getD j (0,0)).1)/\(jc l)[j*2+1]? =some (ag (l.getD j (0,0)).2)
 |[],_,h=>by simp at h
 |_::_,0,_=>⟨rfl,rfl⟩
 |s::l,j+1,h=>by
  have a:=C2 (l:=l) (j:=j) (by simpa using h)
  have e: ∀i,(jc (s::l))[(j+1)*2+i]? =(jc l)[j*2+i]? :=fun i=>by
   show(_::_::jc l)[(j+1)*2+i]? =_;rw[show(j+1)*2+i=(j*2+i)+1+1 by omega,List.getElem?_cons_succ,List.getElem?_cons_succ]
  rw[e,e];exact a
theorem iA.row {w:World}{v:Value}{l:List (Int×Int)}(h:iA w v l):nU w v l:=by
 rcases h with h|⟨g,c,f,e,n,k,o⟩
 ·exact .inl h
 ·refine .inr (.inr ⟨g,0,c,e,n,fun j m=> ?_⟩)
  have a: ∀(i:Nat) (v:Value),j*2+i<l.length*2->(jc l)[j*2+i]? =some v->w.cell? (ae g (0+j*2+i))=some v:=fun i v hi d=>by
   refine(a8 _ _ _ _ _ _ k).trans ?_;rw[bQ,<-bv];rw[<-o,dH hi]at d;exact d
  have b:=C2 m;exact⟨by simpa using a 0 _ (by omega) b.1,a 1 _ (by omega) b.2⟩
theorem JB {w:World}{v:Value}{S:List (In×Value)}(h:kB w v S)(l:1<=S.length)(o:S.length<=700)(n: ∀u∈S,iA w u.2 u.1.sp):pt w v (S.map fun u=>u.1):=by
 obtain⟨g,c,e,m⟩:=h.form l;refine⟨S,⟨some ⟨g,0,none⟩,c,e,by omega,fun j u a=>⟨(n u (aN a)).row,g,0,rfl,?_⟩⟩,rfl⟩;obtain⟨b,d,f,i,k⟩:=m j u a;simp only[bQ];exact⟨b,d,f,i,k⟩
theorem N3 {w:World}{d n c:Nat}{sv:Nat->Value}{b:Nat->List (In×Value)}{C:List (List In)}{m:Nat->Int×Int}(s:n=C.length)(t:n<=1000)(r:fU d n sv (fun k=>(m k).1) (fun k=>(m k).2) w)(v: ∀k,k<n->kB w (sv k) (b k))(f: ∀k,k<n->1<=(b k).length/\(b k).length<=700)(x: ∀k,k<n-> ∀u∈b k,iA w u.2 u.1.sp)(p: ∀k,k<n->(b k).map (fun u=>u.1)=C.getD k []):InV w (.slice (some (ae d 0)) n c) (fj C m):=by
 refine⟨(List.range n).map fun k=>(⟨C.getD k [],(m k).1,(m k).2⟩,sv k),⟨some ⟨d,0,none⟩,c,by simp,by simp;omega,fun j u g=> ?_⟩,?_⟩
 ·rw[bj]at g;obtain⟨k,q,rfl⟩:=eN.1 g;obtain⟨l,o⟩:=aE.1 q;have e:k=j:=(by rw[<-o];simp);subst e;have a:k<n:=(by simpa using l);refine⟨?_,d,0,rfl,?_⟩
  ·have:=JB (v k a) (f k a).1 (f k a).2 (x k a);rw[p k a]at this;exact this
  ·obtain⟨c0,c1,i,_,_⟩:=r.cells a;simp only[bQ];exact⟨c0,c1,i⟩
 ·rw[j9,s];rfl
def gd (l:List Ru):List (List In):=l.map fun u=>bU (atP5 l) u.2 0
def gS (l:List Ru):Nat->Int×Int:=om (gd l) (l.length+1)
def eW (l:List Ru):List Cd:=fj (gd l) (gS l)
def iE (l:List Ru):Int×Int:=if(dy l).1≠0 then((dy l).1,((dy l).2:Int)) else if 0<=kE (gS l) l.length 0 then(4,kE (gS l) l.length 0) else(0,0)
theorem nJ (l:List Ru):(gd l).length=l.length:=by simp[gd]
theorem ng {l:List Ru}{i:Nat}{u:Ru}(h:l[i]? =some u):(gd l).getD i []=bU (atP5 l) u.2 0:=by
 simp[gd,List.getD,h]
theorem Bj: ∀{l:List Ru} {i:Nat},(jT l i).1=0-> ∀u∈l,Rt u.2
 |[],_,_,u,a=>by cases a
 |d::l,i,h,u,a=>by
  unfold jT at h;by_cases b:ruleP d≠0
  ·rw[aB b]at h;exact absurd h b
  ·rw[ax b]at h;rcases bo.1 a with rfl|a
   ·have c:ruleP u=0:=(by simpa using b);unfold ruleP at c;split at c
    ·cases c
    ·exact c
   ·exact Bj h u a
theorem pN {l:List Ru}(h:(dy l).1=0):l.length<=40/\ ∀u∈l,Rt u.2:=by
 have a:=(lR h).1;refine⟨(tr a).1,?_⟩;unfold gH at a;split at a
 ·cases a
 ·exact Bj a
theorem sN {l:List Ru}(h:(dy l).1=0){u:Ru}(d:u∈l){x:List UInt8}(f:x∈nms u.2):0<=atP5 l x/\atP5 l x<l.length/\atP5 l x∈gI l u:=by
 have a:atP5 l x∈gI l u:=(qf (nms u.2) []).2 (.inr ⟨x,f,rfl⟩);have c:=mu l x;have b:=(lR h).2 u d;refine⟨?_,c.2,a⟩;by_cases q:0<=atP5 l x
 ·exact q
 ·have e:atP5 l x= -1:=by omega
  rw[e]at a;exact absurd a b
theorem Ps (l:List Ru)(i:Nat):muR l i<=l.length:=by
 unfold muR gO;split
 ·simp
 ·unfold mkL;rw[aX];refine bg (List.length_filter_le _ _) ?_;simp
theorem sh {l:List Ru}(h:(dy l).1=0):sM (gd l) (muR l):=by
 refine⟨fun i j x hi d k=> ?_⟩;rw[nJ]at hi⊢;have b:l[i]? =some l[i]:=ay hi;rw[ng b]at d;have a:=aN b;obtain⟨nm,g,c⟩:=zb _ _ (aD _) ((pN h).2 _ a).ok 0 x (aN d) k;obtain⟨e,m,f⟩:=sN h a g;rw[c];refine⟨e,by omega,sJ h hi ?_⟩;rw[qS b];exact dI.2 ⟨_,f,rfl⟩
theorem vM {l:List Ru}(h:(dy l).1=0){i:Nat}(hi:i<l.length):gS l i=mG (gd l) (gS l) i:=NY (sh h) (N:=l.length) (fun i _=>Ps l i) (by rw[nJ];exact hi)
theorem zd (l:List Ru):rS (fj (gd l) (gS l)):=GF _ _
theorem xm {l:List Ru}(h:(dy l).1=0){i:Nat}(hi:i<l.length):1<=((gd l).getD i []).length/\((gd l).getD i []).length<=600:=by
 have b:l[i]? =some l[i]:=ay hi;have a:=(pN h).2 _ (aN b);rw[ng b];have:=ml (atP5 l) _ _ (aD _) a.ok 0;have c:=a.nod;omega
theorem C3 {l:List Ru}(h:(dy l).1=0){i:Nat}(hi:i<l.length):1<=(gS l i).2:=by
 rw[vM h hi];exact(E8 (zd l) i).2.2 (xm h hi).1
def oz (w u:World):Prop:= ∀(q:Nat) (c:Array Value) (T:TypeId) (f:Nat×Nat),w.heap[q]? =some (.cells c T f)->(T=195\/T=216\/T=57)->u.heap[q]? =w.heap[q]?
def ze (l:List Ru)(w:World)(r:Ending)(w':World):Prop:= ∃v,r= .returned (.tuple #[v,.agg #[ag (iE l).1,ag (iE l).2]])/\((iE l).1=0-> ∀u,oz w' u->InV u v (eW l))/\((iE l).1≠0->v=af)/\aq w w'
theorem kB.ty {w u:World}{v:Value}{S:List (In×Value)}(h:kB w v S)(f:oz w u):kB u v S:=bJ h fun b a=>by
 rcases h.2 with⟨e,_⟩|⟨g,cap,c,e,_,d,_⟩
 ·rw[e]at a;cases a
 ·rw[e]at a;cases aM a;exact f _ _ _ _ d (.inr (.inl rfl))
theorem iA.ty {w u:World}{v:Value}{l:List (Int×Int)}(h:iA w v l)(i:oz w u):iA u v l:=by
 rcases h with h|⟨g,c,a,e,f,b,d⟩
 ·exact .inl h
 ·exact .inr ⟨g,c,a,e,f,(i _ _ _ _ b (.inr (.inr rfl))).trans b,d⟩
theorem fU.ty {b n:Nat}{sv:Nat->Value}{H T:Nat->Int}{w u:World}(h:fU b n sv H T w)(d:oz w u):fU b n sv H T u:=by
 obtain⟨a,c,h⟩:=h;exact⟨a,(d _ _ _ _ c (.inl rfl)).trans c,h⟩
def oA (n:Nat):Array Value:=madeCells #[af,ag 0,ag 0] (n*3)
theorem uF {n i j:Nat}(hi:i<n)(c:j<3):(oA n)[i*3+j]? =(#[af,ag 0,ag 0]:Array Value)[j]? :=by
 have a:i*3+j<n*3:=by omega
 have b:(i*3+j)%3=j:=by omega
 simp only[oA,madeCells];match j,c,a,b with
 |0,_,a,b=>simp at a b⊢;simp[a]
 |1,_,a,b=>simp[a,b]
 |2,_,a,b=>simp[a,b]
theorem JC:(prog.info? 195).map (fun i=>(i.zero,i.size,i.bytes))=some (some (.agg #[af,ag 0,ag 0]),3,40):=by kernel_rfl
theorem GK:prog.underlying 68=some (.slice 195):=by kernel_rfl
theorem GL (n:Nat)(g:n<=1000)(w:World):(Instr.makeSlice 68 (ag (n:Int)) (ag (n:Int))).run prog w= .ok (.slice (some (ae w.heap.size 0)) n n) (w.alloc (.cells (oA n) 195)):=by
 obtain⟨i,hi,a⟩:=eN.1 JC;simp only[Prod.mk.injEq]at a;obtain⟨f,d,c⟩:=a;have b:=run_make (P:=prog) w 68 195 i _ GK hi f .i64 .i64 n n (by omega) (gh _) (by rw[c];omega) (by omega);rw[d]at b;have e:(Value.agg #[af,ag 0,ag 0]).cells= #[af,ag 0,ag 0]:=rfl;rw[e]at b;simpa[oA] using b
theorem fU.made {w:World}{a n:Nat}(h:w.heap[a]? =ah (oA n) 195):fU a n (fun _=>af) (fun _=>0) (fun _=>0) w:=by
 refine⟨_,h,by simp[oA,madeCells],fun i hi=>⟨?_,?_,?_⟩⟩
 ·have:=uF (j:=0) hi (by omega);simpa using this
 ·exact(uF (j:=1) hi (by omega)).trans rfl
 ·exact(uF (j:=2) hi (by omega)).trans rfl
def upV (f:Nat->Value)(i:Nat)(v:Value):Nat->Value:=fun k=>if k=i then v else f k
theorem JD (f:Nat->Value)(i:Nat)(v:Value):upV f i v i=v:=by unfold upV;rw[aB rfl]
theorem JE (f:Nat->Value){i k:Nat}(v:Value)(h:k≠i):upV f i v k=f k:=by unfold upV;rw[ax h]
theorem fU.setV {a n:Nat}{sv:Nat->Value}{H T:Nat->Int}{w:World}(h:fU a n sv H T w){i:Nat}(v:Value)(hi:i<n):fU a n (upV sv i v) H T (w.setCell ⟨a,i*3,none⟩ v):=by
 obtain⟨c,f,j,d⟩:=h;refine⟨_,aZ w a (i*3) _ _ _ f,by rw[il];exact j,fun k g=> ?_⟩;obtain⟨c0,c1,b⟩:=d k g;refine⟨?_,?_,?_⟩
 ·by_cases e:k=i
  ·subst e;rw[JD,gT (by omega)]
  ·rw[JE _ _ e,dt (by omega)];exact c0
 ·rw[dt (by omega)];exact c1
 ·rw[dt (by omega)];exact b
theorem fU.frozen {a n:Nat}{sv:Nat->Value}{H T:Nat->Int}{w:World}(h:fU a n sv H T w)(i:Nat):w.frozen? (ae a i)=false:=by
 obtain⟨b,c,_⟩:=h;exact bp _ _ _ _ _ c
theorem fU.congr {d n:Nat}{sv:Nat->Value}{H T b c:Nat->Int}{w:World}(h:fU d n sv H T w)(e: ∀k,k<n->H k=b k/\T k=c k):fU d n sv b c w:=by
 obtain⟨a,l,m,j⟩:=h;refine⟨a,l,m,fun k f=> ?_⟩;obtain⟨c0,c1,g⟩:=j k f;obtain⟨i,e2⟩:=e k f;rw[<-i,<-e2];exact⟨c0,c1,g⟩
theorem iA.kept {d n:Nat}{sv:Nat->Value}{H T:Nat->Int}{w w':World}{v:Value}{l:List (Int×Int)}(h:iA w v l)(p:fU d n sv H T w)(m:bq d w w'):iA w' v l:=by
 obtain⟨i,a,_⟩:=p;rcases h with h|⟨g,c,b,e,o,f,r⟩
 ·exact .inl h
 ·refine .inr ⟨g,c,b,e,o,(m.block g (aI f) (fun q=> ?_)).trans f,r⟩;have s:g=d:=aM q;subst s;rw[f]at a;injection a with k;injection k with _ j _;exact absurd j (by decide)
theorem zf {B c:Nat}{w w' b:World}(h:Below B w w')(a:bq c w' b)(g:B<=c)(f:B<=w'.heap.size):Below B w b:=
 ⟨a.os.trans h.os,a.tape.trans h.tape,a.output.trans h.output,bg h.size a.size,fun k d=>(a.block k (aU d f) (fun e=>by have:=aM e;omega)).trans (h.block k d)⟩
def pU (l:List Ru)(w:World)(sv:Nat->Value)(a:Nat->List (In×Value))(k:Nat):Prop:=kB w (sv k) (a k)/\(a k).map (fun u=>u.1)=(gd l).getD k []/\ ∀u∈a k,iA w u.2 u.1.sp
theorem pU.kept {l:List Ru}{c n:Nat}{sv a:Nat->Value}{H T:Nat->Int}{w w':World}{b:Nat->List (In×Value)}{k:Nat}(h:pU l w sv b k)(e:fU c n a H T w)(d:bq c w w'):pU l w' sv b k:=⟨h.1.kept e d,h.2.1,fun u f=>(h.2.2 u f).kept e d⟩
theorem pU.ext {l:List Ru}{sv b:Nat->Value}{w:World}{c a:Nat->List (In×Value)}{k:Nat}(h:pU l w sv c k)(d:b k=sv k)(e2:a k=c k):pU l w b a k:=by
 unfold pU;rw[d,e2];exact h
def upS (f:Nat->List (In×Value))(i:Nat)(v:List (In×Value)):Nat->List (In×Value):=fun k=>if k=i then v else f k
theorem Pu (f:Nat->List (In×Value))(i:Nat)(v:List (In×Value)):upS f i v i=v:=by unfold upS;rw[aB rfl]
theorem Pv (f:Nat->List (In×Value)){i k:Nat}(v:List (In×Value))(h:k≠i):upS f i v k=f k:=by unfold upS;rw[ax h]
theorem LP {w:World}{b size n:Nat}{e:TypeId}{v:Value}{xs:List Value}(h:w.ownsRow b e size v n xs):w.ownsRow 0 e size v n xs:=by
 obtain⟨d,c⟩:=h;rcases c with c|⟨g,cap,a,e,q,r⟩
 ·exact⟨d,.inl c⟩
 ·exact⟨d,.inr ⟨g,cap,a,e,dL _,r⟩⟩
theorem uG {R:Ending->World->Prop}{a:Act}{w:World}(g:Nat)(v:Value)(er at_:Int)(i:a.defers=[])(d:a.tmps.getD 2 undef=v)(e:a.tmps.getD 3 undef=ab g 0)
  (j:w.heap[g]? =ah #[ag er,ag at_] 48) (f:R (.returned (.tuple #[v,.agg #[ag er,ag at_]])) w):bodyPost prog f101 R .ret a w:=by
 refine aY (v:= .tuple #[v,.agg #[ag er,ag at_]]) ?_ i f;have b:a.tmps[2]?.getD undef=v:=by simpa using d
 have c:a.tmps[3]?.getD undef=ab g 0:=by simpa using e
 have k:=eE (P:=prog) w g 48 48 _ _ _ j pD rfl (by kernel_rfl);simp[results,results101,b,c,asAddr,k]
theorem JF (m:Nat->Int×Int): ∀(k j n:Nat),j+k<=n-> -1<=kE m k j/\kE m k j<=(n:Int)
 |0,j,n,_=>by simp only[kE];omega
 |k+1,j,n,h=>by
  have a:=JF m k (j+1) n (by omega);simp only[kE];split
  ·omega
  ·exact a
theorem kB.set {w:World}{v:Value}{S:List (In×Value)}(h:kB w v S){g:Nat}{c:Array Value}(b:w.heap[g]? =ah c 48)(xs:Array Value):kB (w.setRow g xs) v S:=
 World.ownsRow.kept h (row:=some g) ⟨rfl,rfl,rfl,by simp,fun q _ a=>aW w g q xs (fun e=>a (congrArg some e))⟩ (.inr fun e=>kM h b (by decide) e.symm)
theorem iA.set {w:World}{v:Value}{l:List (Int×Int)}(h:iA w v l){g:Nat}{c:Array Value}(k:w.heap[g]? =ah c 48)(xs:Array Value):iA (w.setRow g xs) v l:=by
 rcases h with h|⟨d,f,b,e,m,a,n⟩
 ·exact .inl h
 ·refine .inr ⟨d,f,b,e,m,(aW w g d xs (fun q=> ?_)).trans a,n⟩;rw[q,k]at a;injection a with j;injection j with _ i _;exact absurd i (by decide)
theorem Ej (us:List (Ru×Value))(v:Value)(w:World)(h:InR w v us)(hT:Tab w):Calls prog 101 #[v] w (ze (us.map (fun p=>p.1)) w):=by
 obtain⟨l,hl⟩:=au (us.map (fun p=>p.1));obtain⟨n,hn⟩:=au us.length;have b4:l.length=n:=by rw[<-hl,aX,hn]
 obtain⟨pv,cv,rfl⟩:=h.form;have bA:=am w (.cells #[ag 0,ag 0] 48);have n1:=aG w (.cells #[ag 0,ag 0] 48);generalize cd:w.alloc (.cells #[ag 0,ag 0] 48)=wA at*;have cW:=vz us _ wA (h.below bA);rw[hl]at cW;rw[hl,hn];have HL:=aF hl;have bi:=aF hn;have ab:=aF b4;have bf:=aF h;have bX:=aF hT;rw[hn]at cW;clear hl b4 h hn hT;go_enter func101,ntmps101;go_wp2_with fail;refine cW.mono ?_;rintro r w1 ⟨rfl,aQ⟩;have m2:=ai aQ n1;have E:=aw bA aQ;clear cW n1 aQ bA cd;by_cases h0:(dy l).1=0
 ·have bv:=(pN h0).1;rw[ab.o]at bv;have L:=aF h0;rw[h0];generalize (((dy l).2:Nat):Int)=P at*;have bC:=am w1 (.cells #[ag 0,ag P] 48);have M:=aF (aw E bC);have HR:=aF (ai bC m2);have m3:=aG w1 (.cells #[ag 0,ag P] 48);have ci:=aF bv;have cj:(n:Int)<=40:=(by omega);have cm:(0:Int)<=(n:Int):=(by omega);clear bC E m2 h0;generalize bJ:w1.alloc (.cells #[ag 0,ag P] 48)=wB at*;have z0:=ak 0 m3;have cN:=po us _ wB (bf.o.below M.o);unfold F5 at cN;rw[HL.o,bi.o]at cN;clear m3;go_wp2_with fail;refine cN.mono ?_;rintro r w3 ⟨mb,rfl,cr,a1,b3⟩;have aH:=aw M.o b3;have r3:=ai b3 HR.o;have bM:=am w3 (.cells (oA n) 195);have nM:=aG w3 (.cells (oA n) 195);have b8:=GL n (by omega) w3;have a4:=a1.later (bM.block _ (iq a1));have aJ:=aw aH bM;have rM:=ai bM r3;have b7:=iq a1;have cb:=aI r3;obtain⟨C,aS⟩:=au w3.heap.size;have aC:w.heap.size<=C:=(by rw[<-aS];exact aH.size);generalize ce:w3.alloc (.cells (oA n) 195)=wM at*;rw[aS]at nM b8 b7 cb;have a9:w.heap.size<=wM.heap.size:=aJ.size;have ac:=aF (fU.made nM);have bo:=aF a4;have bb:=aF aJ;have bu:=aF rM;have Q:w.heap.size≠C:=(by omega);have aY:mb≠C:=(by omega);clear bJ cN a1 b3 aH r3 bM nM a4 aJ rM HR M z0;go_wp2_with fail;clear b8 ce aS;go_loopw [7,8,9,25] (fun _ _ _ t wr=> ∃(j:Nat) (sv:Nat->Value) (Ss:Nat->List (In×Value)),t=ag (j:Int)/\j<=n/\fU C n sv (fun _=>0) (fun _=>0) wr/\(∀k,k<j->pU l wr sv Ss k)/\bq C wM wr) (fun _ _ _ t _=>n-(intOf t).toNat);case atStart=>exact⟨0,_,fun _=>[],rfl,by omega,ac.o,fun k f=>by omega,bq.refl _ _⟩
  case round=>
   obtain⟨j,sv,Ss,rfl,hj,A,D,d⟩:=hrel;clear ac;have cq:(0:Int)<=(j:Int):=(by omega);have aj:=zf bb.o d aC a9;by_cases b5:j<n
   ·have b6:(j:Int)<(n:Int):=(by omega);obtain⟨p,ao⟩: ∃p,us[j]? =some p:=⟨us[j]'(by have:=bi.o;omega),ay _⟩
    have R:=bf.o.below aj;have bd:=aF R.cells;obtain⟨g,o,ca,d0,d1,d2,d3,d4,d5⟩:=bd.o j p ao;subst ca;have bF:=aN ao;obtain⟨bD,aR,dd,ap⟩:=R.all p bF;obtain⟨ps,cs,bG⟩:=ap.form;have av:l[j]? =some p.1:=(by rw[<-HL.o,bj,ao];rfl);have az:=aN av;obtain⟨⟨nm,e⟩,sk⟩:=p;dsimp only at d0 d1 d2 d3 d4 d5 aR ap bG bD av az;subst bG;have X:=(pN L.o).2 _ az;have bS:=aF av;have bR:=am wr (.cells #[.string ⟨nm.toArray⟩,ag e.kind,ag e.a,ag e.b,.string ⟨e.name.toArray⟩,.slice ps e.kids.length cs] 86);have nR:=aG wr (.cells #[.string ⟨nm.toArray⟩,ag e.kind,ag e.a,ag e.b,.string ⟨e.name.toArray⟩,.slice ps e.kids.length cs] 86);generalize cf:wr.alloc (.cells #[.string ⟨nm.toArray⟩,ag e.kind,ag e.a,ag e.b,.string ⟨e.name.toArray⟩,.slice ps e.kids.length cs] 86)=K at*;have bZ:=am K (.cells #[.map none,af] 192);have nZ:=aG K (.cells #[.map none,af] 192);generalize cg:K.alloc (.cells #[.map none,af] 192)=wZ at*;have bW:=below_setRow bZ (aD _) #[.map (some mb),af];have nW:=aL _ _ _ #[.map (some mb),af] _ _ nZ;have I:=ai bW nR;generalize bK:wZ.setRow K.heap.size #[.map (some mb),af]=wW at*;have a7:WOk K K.heap.size (.map (some mb)) [] wW:=⟨⟨bW,aD _,_,nW,dl _ _ _ _⟩,fun u hu=>by cases hu⟩
    have a5:js K mb l:=by
     have z:=bo.o.later (d.block _ (iq bo.o) (fun e=>aY (aM e)));exact z.later (bR.block _ (iq z))
    have bw:Tab K:=kV (kV bX.o aj) bR;have a3:gK (fun k=>k<K.heap.size) dd K (.slice ps e.kids.length cs) e.kids:=(ap.kept fun g _ hl=>bR.block g hl).mono fun g hg=>aU hg bR.size;have cE:=LO K K.heap.size mb l a5 bw dd e _ a3 X aR (fun x hx=>(sN L.o az hx).1) [] wW a7 (by have:=X.nod;simpa using bg this (by omega));unfold exV at cE;have y1:=ak 1 I;have y2:=ak 2 I;have y3:=ak 3 I;have y4:=ak 4 I;have y5:=ak 5 I;have y:=aF A;have m:=aF D;have Z:=aF d;have bc:=aF bR;have ck:=X.nod;have cn:=(ml (atP5 l) _ e (aD _) X.ok 0)
    clear R bd ao bF ap bD aR av az A D d aj bR bW bZ nW a7 a5 bw a3 nR X;go_wp2_with(refine aA rfl 192 _ _ rfl _ _ rfl rfl _ _ nZ (by kernel_rfl) (by simp) (by simp[Value.oneCell']) ?_;rw[bK])
    refine cE.mono ?_;rintro r w5 ⟨rfl,J,aP,bE,_⟩;obtain⟨⟨bx,_,ch,n5,F⟩,Y⟩:=bE;rw[List.nil_append]at F Y
    have bY:J.length=(bU (atP5 l) e 0).length:=by
     have z:=congrArg List.length aP;rw[aX]at z;exact z
    obtain⟨g5,c5,cc⟩: ∃g5 c5,ch= .slice (some (ae g5 0)) J.length c5:=by
     rcases F.2 with⟨_,e0⟩|⟨g',cap,cl,e0,_⟩
     ·omega
     ·exact⟨g',cap,e0⟩
    subst cc;have cx:=ak 1 n5;have B:aq wr w5:=aw bc.o bx;have s:=y.o.below B;have x0:=(s.cells b5).1;have xf:=s.frozen (j*3);have b1:=Z.o.trans (bq.of_below B);have ar:=iR w5 C (j*3) (.slice (some (ae g5 0)) J.length c5);have bT:=aF (s.setV (.slice (some (ae g5 0)) J.length c5) b5);have bP:=aF (b1.trans ar);have bH:kB w5 (.slice (some (ae g5 0)) J.length c5) J:=LP F
    have bk:Rg (∀k,k<j+1->pU l (w5.setCell ⟨C,j*3,none⟩ (.slice (some (ae g5 0)) J.length c5)) (upV sv j (.slice (some (ae g5 0)) J.length c5)) (upS Ss j J) k):=fun k f=>by
     by_cases e1:k=j
     ·subst e1
      have z:pU l w5 (upV sv k (.slice (some (ae g5 0)) J.length c5)) (upS Ss k J) k:=by
       unfold pU;rw[JD,Pu,ng bS.o];exact⟨bH,aP,Y⟩
      exact z.kept s ar
     ·have z:=m.o k (by omega);have h2:pU l w5 sv Ss k:=⟨z.1.below B,z.2.1,fun u hu=>(z.2.2 u hu).below B⟩
      exact(h2.kept s ar).ext (JE _ _ e1) (Pv _ _ e1)
    generalize cu:w5.setCell ⟨C,j*3,none⟩ (.slice (some (ae g5 0)) J.length c5)=w6 at*;clear bY cE F Y aP bx n5 B s b1 ar bH y1 y2 y3 y4 y5 I y m Z bc bK cg nZ cf d0 d1 d2 d3 d4 d5;go_wp2_with fail;go_roundw;case rel=>exact⟨j+1,_,_,by go_num,by omega,bT.o,bk.o,bP.o⟩
    case measure=>simp[intOf];omega
   ·have b6: ¬(j:Int)<(n:Int):=(by omega);obtain rfl:n=j:=(by omega);generalize wr=wL at*;have aK:n=(gd l).length:=(by rw[nJ];exact ab.o.symm);have an: ∀k,k<n->k<l.length:=fun k f=>(by have:=ab.o;omega)
    have aO: ∀k,k<n->1<=(Ss k).length/\(Ss k).length<=700:=fun k f=>by
     have z:=congrArg List.length (D k f).2.1;rw[aX]at z;have h2:=xm L.o (an k f);omega
    have bl:=aF (fun(w':World) (i:Nat)=>Eh (gd l) (muR l) (gS l) (sh L.o) (zd l) n C n aK (by omega) sv Ss (fun k f=>(D k f).2.1) aO (fun k f u hu=>((D k f).2.2 u hu).form) (fun i hi=>vM L.o (an i hi)) (fun i hi=>C3 L.o (an i hi)) _ i (aD _));have m:=aF D;have y:=aF A;have Z:=aF d;have aa:=aF aO;have bN:=aF aK;clear D A d aO an aK aj;go_wp2_with fail;go_loopw [10,44] (fun _ t w7=> ∃(i:Nat) (H T:Nat->Int),t=ag (i:Int)/\i<=n/\fU C n sv H T w7/\(∀k,k<n->Okm (gS l) H T k)/\(∀k,k<i->Me (gS l) H T k)/\bq C wL w7) (fun _ t _=>n-(intOf t).toNat);case atStart=>exact⟨0,_,_,rfl,by omega,y.o,fun k _=> .inl ⟨rfl,rfl⟩,fun k f=>by omega,bq.refl _ _⟩
    case round=>
     obtain⟨i,H,T,rfl,hi,A,a2,a0,d⟩:=hrel;have cp:(0:Int)<=(i:Int):=(by omega);by_cases aT:i<n
     ·have b0:(i:Int)<(n:Int):=(by omega);have cM:=bl.o wr i aT H T wr A (fun q hq=>((m.o q hq).1.kept y.o d)) (fun q hq _=>a2 q hq);obtain⟨ps,cs,bI,_⟩:=((m.o i aT).1.kept y.o d).form (aa.o i aT).1;unfold xl at cM;rw[bI]at cM;have bV:=aF a2;have bn:=aF a0;have bQ:=aF d;clear bI A a2 a0 d;go_wp2_with fail;refine cM.mono ?_;rintro r w8 ⟨rfl,H',T',a6,S,V,b2⟩
      have bs:Rg (∀k,k<n->Okm (gS l) H' T' k):=fun k f=>by
       by_cases e1:k=i
       ·subst e1;exact .inr S
       ·have z:=V k f e1;by_cases e2:muR l k<=muR l i
        ·exact(z.1 e2).1
        ·have h2:=z.2 (by omega);have h3:=bV.o k f;unfold Okm Me at h3⊢;rw[h2.1,h2.2];exact h3
      have bm:Rg (∀k,k<i+1->Me (gS l) H' T' k):=fun k f=>by
       by_cases e1:k=i
       ·subst e1;exact S
       ·have z:=V k (by omega) e1;have h3:=bn.o k (by omega);by_cases e2:muR l k<=muR l i
        ·exact(z.1 e2).2 h3
        ·have h2:=z.2 (by omega);unfold Me at h3⊢;rw[h2.1,h2.2];exact h3
      have bO:=aF (bQ.o.trans b2);have br:=aF a6;clear cM a6 S V b2;go_wp2_with fail;go_roundw;case rel=>exact⟨i+1,H',T',by go_num,by omega,br.o,bs.o,bm.o,bO.o⟩
      case measure=>simp[intOf];omega
     ·have b0: ¬(i:Int)<(n:Int):=(by omega);obtain rfl:n=i:=(by omega);have U:fU C n sv (fun k=>(gS l k).1) (fun k=>(gS l k).2) wr:=A.congr fun k f=>a0 k f
      have a8: ∀k,k<n-> ∃p ln c,sv k= .slice p ln c/\ln<=700:=fun k f=>by
       obtain⟨g',c',e',_⟩:=(m.o k f).1.form (aa.o k f).1;exact⟨_,_,_,e',(aa.o k f).2⟩
      have cI:=BE n C n sv (gS l) wr U a8 (by omega)
      have bh:Rg (∀(W:World) (c xs:Array Value),aq wr W->W.heap[w.heap.size]? =ah c 48-> ∀u,oz (W.setRow w.heap.size xs) u->InV u (.slice (some (ae C 0)) n n) (eW l)):=fun W c xs hW hg u hu=>by
       refine N3 bN.o (by omega) (((U.below hW).same (aW W w.heap.size C xs (fun e=>Q e.symm))).ty hu) (fun k f=>((((m.o k f).1.kept y.o d).below hW).set hg xs).ty hu) aa.o (fun k f p hp=>(((((m.o k f).2.2 p hp).kept y.o d).below hW).set hg xs).ty hu) (fun k f=>(m.o k f).2.1)
      have aV:=Z.o.trans d;have ba:=aF (zf bb.o aV aC a9);have bt:=aF ((aV.block _ (aI bu.o) (fun e=>Q (aM e))).trans bu.o);obtain⟨fx,al⟩:=au (kE (gS l) n 0);rw[al]at cI;have be:Rg (kE (gS l) l.length 0=fx):=(by show _=_;rw[ab.o];exact al);have co: -1<=fx/\fx<=(n:Int):=(by rw[<-al];exact JF (gS l) n 0 n (by omega));clear A a2 a0 d U a8 aV al y m bl;go_wp2_with fail;refine cI.mono ?_;rintro r w9 ⟨rfl,b9⟩;have G:=ai b9 bt.o;have ad:=aw ba.o b9;have O:=aF (bh.o w9 _ #[ag 0,ag 0] b9 G);have cw:=aI G;clear cI bh ba bt b9;by_cases bz:0<=fx
      ·have N:Rg (iE l=(4,fx)):=by
        show _=_;unfold iE;rw[ax (by simpa using L.o),be.o,aB bz]
       have HO:Rg (ze l w (.returned (.tuple #[af,.agg #[ag 4,ag fx]])) (w9.setRow w.heap.size #[ag 4,ag fx])):=by
        refine⟨_,by rw[N.o],fun e=> ?_,fun _=>rfl,below_setRow ad (aD _) _⟩;rw[N.o]at e;exact absurd e (by show¬(4:Int)=0;omega)
       have aE:=aF (aL _ _ _ #[ag 4,ag fx] _ _ G);clear O ad;go_wp2_with(refine aA rfl 48 _ _ rfl _ _ rfl rfl _ _ G (by kernel_rfl) (by simp) (by simp[Value.oneCell']) ?_)
       exact uG w.heap.size _ 4 fx rfl rfl rfl aE.o HO.o
      ·have N:Rg (iE l=(0,0)):=by
        show _=_;unfold iE;rw[ax (by simpa using L.o),be.o,ax bz]
       have HO:Rg (ze l w (.returned (.tuple #[.slice (some (ae C 0)) n n,.agg #[ag 0,ag 0]])) (w9.setRow w.heap.size #[ag 0,ag 0])):=by
        refine⟨_,by rw[N.o],fun _=> ?_,fun e=> ?_,below_setRow ad (aD _) _⟩
        ·exact O.o
        ·rw[N.o]at e;exact absurd rfl e
       have aE:=aF (aL _ _ _ #[ag 0,ag 0] _ _ G);clear O ad;go_wp2_with(refine aA rfl 48 _ _ rfl _ _ rfl rfl _ _ G (by kernel_rfl) (by simp) (by simp[Value.oneCell']) ?_)
       exact uG w.heap.size _ 0 0 rfl rfl rfl aE.o HO.o
 ·have L:=aF h0
  have HF:Rg (iE l=((dy l).1,((dy l).2:Int))):=by
   show _=_;unfold iE;rw[aB h0]
  have ct:((dy l).1 !=0)=true:=(by simpa using h0);have bC:=am w1 (.cells #[ag (dy l).1,ag ((dy l).2:Int)] 48);have M:=aF (aw E bC);have G:=ai bC m2;have m3:=aG w1 (.cells #[ag (dy l).1,ag ((dy l).2:Int)] 48);clear bC E m2 h0;generalize bJ:w1.alloc (.cells #[ag (dy l).1,ag ((dy l).2:Int)] 48)=wB at*
  have HO:Rg (∀W,aq w W->ze l w (.returned (.tuple #[af,.agg #[ag (dy l).1,ag ((dy l).2:Int)]])) W):=fun W hW=>by
   refine⟨_,by rw[HF.o],fun e=> ?_,fun _=>rfl,hW⟩;rw[HF.o]at e;exact absurd e L.o
  have z0:=ak 0 m3;have z1:=ak 1 m3;have y0:=ak 0 G;have y1:=ak 1 G;have x0:=bp _ _ 0 _ _ G;have x1:=bp _ _ 1 _ _ G;have bB:=aZ _ _ 1 _ _ (ag ((dy l).2:Int)) (aZ _ _ 0 _ _ (ag (dy l).1) G);have bL:=aF ((M.o.setCell (p:=⟨w.heap.size,0,none⟩) (aD _) (ag (dy l).1)).setCell (p:=⟨w.heap.size,1,none⟩) (aD _) (ag ((dy l).2:Int)));have ac:=aF bB;clear bB G m3;clear HF L;generalize (dy l).1=er at*;generalize (((dy l).2:Nat):Int)=P at*;go_wp2_with fail;go_region;go_wp2_with fail;exact uG w.heap.size _ er P rfl rfl rfl ac.o (HO.o _ (dw bL.o 1))
end Go.Proofs.YtlkehieagdkgiaaGreatDoor
