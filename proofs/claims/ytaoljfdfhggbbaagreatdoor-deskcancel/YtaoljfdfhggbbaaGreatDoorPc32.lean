/- Texts of the proof. -/
import Derived.Test.YtaoljfdfhggbbaaGreatDoorPc31
set_option maxRecDepth 100000
set_option maxHeartbeats 8000000
namespace Go.Proofs.YtaoljfdfhggbbaaGreatDoor
open Go.Proofs.Tryz Go.RowKit Lx Vx Mx Msk
theorem lX {l:List Ru}{ks:List Ex}{j b:Nat}(h: ∀k∈ks,OKE k):(kY l ks j b).length<=((ks.take j).map jb).sum:=by
 unfold kY;have d: ∀k∈ks.take j,OKE k:=fun k e=>h k (List.mem_of_mem_take e);generalize ks.take j=c at*;induction c generalizing b with
 |nil=>simp[kh]
 |cons k ks f=>
  have i:=(lV (atP5 l) _ k (aB _) (d k bq) b).2;have m:=f (b:=b+(bL (atP5 l) k b).length) fun g a=>d g (bH _ a);simp only[dI,kh,aP,i7];omega
theorem sL {a:List Ex}{j:Nat}{k:Ex}(h:a[j]? =some k):((a.take j).map jb).sum+jb k<=(a.map jb).sum:=by
 have b:a=a.take j++(k::a.drop (j+1)):=by
  conv=>lhs;rw[<-gM j a]
  congr 1;have c:=(aG.1 h).1;rw[bx c,(aG.1 h).2]
 conv=>rhs;rw[b]
 rw[dN,List.sum_append,dI,i7];omega
theorem Ms {w w':World}(h:Tab w)(a:aq w w'):Tab w':=kL h a
theorem Am (C:World)(gm mb d:Nat)(l:List Ru)(e:Ex)(p:Option Addr)(c:Nat)(S:List (In×Value))(N:World)(h:WOk C gm (.map (some mb)) S N)(a9:jk C mb l)(hT:Tab C)(J:Rt e)(hn:e.name.length<=9223372036854775807)(a7:fZ (fun k=>k<C.heap.size) d C (.slice p e.kids.length c) e.kids)(B:e.kids=[]\/KW C gm (.map (some mb)) l (.slice p e.kids.length c) e.kids)(ar: ∀x∈nms e,0<=atP5 l x)(hS:S.length+jb e<=700):
  Calls prog 66 #[ab gm 0,.agg #[ag e.kind,ag e.a,ag e.b,.string ⟨e.name.toArray⟩,.slice p e.kids.length c]] N (nL C gm (.map (some mb)) S (bL (atP5 l) e S.length) N):=by
 have a2:=a8 a7;have bA:=am N (.cells #[ag e.kind,ag e.a,ag e.b,.string ⟨e.name.toArray⟩,.slice p e.kids.length c] 102);have nA:=aE N (.cells #[ag e.kind,ag e.a,ag e.b,.string ⟨e.name.toArray⟩,.slice p e.kids.length c] 102);have hA:=h.below bA;have a5:=Fr2.below h.lt bA;obtain⟨gE,aL⟩:=au N.heap.size;generalize aP:N.alloc (.cells #[ag e.kind,ag e.a,ag e.b,.string ⟨e.name.toArray⟩,.slice p e.kids.length c] 102)=wA at*;rw[aL]at nA;have a6:fZ (fun k=>k<C.heap.size) d wA (.slice p e.kids.length c) e.kids:=a2.o.kept fun g hg _=>hA.st.bel.block g hg;have cS:=Fp d e _ wA a6;unfold exV uS at cS;have HA:=a8 hA;have a1:=a8 a5;have a3:=a8 a9;have HT:=a8 hT;clear bA hA a5 a6 h a7 a9 hT;go_enter func66,ntmps66;go_wp2_with(refine aR rfl 102 _ rfl _ rfl _ _ _ _ nA fd rfl (by kernel_rfl) ?_)
 refine cS.mono ?_;rintro r w1 ⟨rfl,b1⟩;have n:=a8 (HA.o.below b1);have E:=a8 (a1.o.trans (Fr2.below HA.o.lt b1));have I:=ai b1 nA;clear cS nA aP HA a1 b1;cases hstd:stdE e with
 |true=>
  have q:=n.o.st.bel;have cM:=C8 d e (.slice p e.kids.length c) w1 J hstd hn ((a2.o.kept fun g hg _=>q.block g hg).mono fun g hg=>aT hg q.size);unfold exV at cM;have t:=a8 (oD (num:=atP5 l) hstd S.length);have aH:=a8 (Ms HT.o q);clear q B J hn ar hstd;go_wp2_with(refine aR rfl 102 _ rfl _ rfl _ _ _ _ I fd rfl (by kernel_rfl) ?_)
  refine cM.mono ?_;rintro r w2 ⟨rfl,b2⟩;have cP:=zV (mnE e) w2 (kL aH.o b2);have ac:=a8 (n.o.below b2);have aC:=a8 (E.o.trans (Fr2.below n.o.lt b2));clear cM I b2;go_wp2_with fail;refine cP.mono ?_;rintro r w3 ⟨⟨v3,rfl,own3⟩,_,b3⟩;have aw:=ib.of_own own3;have ad:=ac.o.below b3;have aD:=a8 (aC.o.trans (Fr2.below ac.o.lt b3));have cW:=uT ad ⟨1,0,0,0,rs (mnE e) 1440⟩ v3 aw (by omega);dsimp only at cW;obtain⟨p3,n3,c3,aO⟩:=aw.form;subst aO;clear cP own3 aw ad b3;go_wp2_with fail;refine cW.mono ?_;rintro r Q ⟨rfl,m,i⟩;have L:PN (nL C gm (.map (some mb)) S (bL (atP5 l) e S.length) N (.returned (.tuple #[])) Q):=⟨rfl,_,by rw[t.o];rfl,m,aD.o.trans i⟩
  clear cW m i;go_wp2_with fail;exact⟨rfl,_,eO rfl _ _ _,L.o⟩
 |false=>
  have z0:=ak 0 I;have z1:=ak 1 I;have z2:=ak 2 I;have z3:=ak 3 I;have z4:=ak 4 I;clear I hn;rcases nJ J.ok hstd with⟨f,y⟩|⟨f,y⟩|⟨f,y⟩|f|⟨f,y⟩
  ·have e4:(e.kind==4)=true:=(by simp[f]);obtain⟨k,w⟩:=y;obtain⟨g,o,c',av,an,ao,H⟩:=B.resolve_left (by rw[w];simp);injection av with e1 e2 e3;subst e1 e3;have O:e.kids[0]? =some k:=(by rw[w];rfl);obtain⟨pk,qk,d0,d1,d2,d3,d4,X⟩:=H 0 k O;simp only[Nat.zero_mul,Nat.add_zero]at d0 d1 d2 d3 d4;have q:=n.o.st.bel;have f0:=aj q d0;have f1:=aj q d1;have f2:=aj q d2;have f3:=aj q d3;have f4:=aj q d4;have aM:(e.kids.length:Int)=1:=(by rw[w];rfl);have V:k∈e.kids:=(by rw[w];simp)
   have aq:S.length+1+jb k<=700:=by
    have:=mg e;rw[w]at this;simp only[dI,fg,i7,List.sum_nil]at this;omega
   have aN:=(lV (atP5 l) _ k (aB _) (J.ok.kid V) (S.length+1)).2;have t:=a8 (ph (num:=atP5 l) f O S.length);have ah:=a8 X;clear d0 d1 d2 d3 d4 X H q B w O V J hstd ao an;go_wp2_with fail;refine jN 8 [kn 16 (ab gm 0),kn 17 (ab gE 1),kn 18 (ag e.a),kn 19 (.agg #[ag 6,ag e.a,ag 0,ag 0,af]),kn 20 (ab gE 4),kn 21 (.slice (some (ae g o)) e.kids.length c),kn 22 (ab g o),kn 23 (.agg #[ag k.kind,ag k.a,ag k.b,.string ⟨k.name.toArray⟩,.slice pk k.kids.length qk]),td 24] (by kernel_rfl) (by kernel_rfl) fun M φ W _ v F l hl hF=> ?_;have Y:=aj v z1;have Z:=aj v z4;have aa:=aj v f0;have ax:=aj v f1;have ay:=aj v f2;have az:=aj v f3;have a0:=aj v f4;simp only[kn,td,dW,aQ,aX,Act.put,aA,aK,aJ]at hl;subst hl;simp only[cZ,Nat.reduceAdd]at hF;dsimp only[kn,td,dB,eN,eg,Act.put];and_intros;all_goals first|exact trivial|intro hw hn hm K U
   all_goals try (go_simp;with_reducible exact U _ _ ⟨rfl,aI _ _⟩)
   clear Y Z aa ax ay az a0;have z:=n.o.below v;have G:=n.o.lt;have D:=vy C gm (.map (some mb)) l k pk qk 6 e.a 0 S W z ah.o aq (by omega);go_simp;refine D.mono ?_;rintro r Q ⟨rfl,R,s,m,i⟩;have L:PN (nL C gm (.map (some mb)) S (bL (atP5 l) e S.length) N (.returned (.tuple #[])) Q):=⟨rfl,R,s.trans t.o.symm,m,(E.o.trans (Fr2.below G v)).trans i⟩
   refine U _ _ ⟨trivial,fun c=>by simp at c,fun _=> ?_⟩;simp only[eh,aQ,aX,Act.put,aA,aK,aJ];clear hF hw hn hm;clear U v D z s m i;go_wp2_with fail;exact⟨rfl,_,eO rfl _ _ _,L.o⟩
  ·have e4:(e.kind==4)=false:=(by simp[f]);have e5:(e.kind==5)=true:=(by simp[f]);obtain⟨k,w⟩:=y;obtain⟨g,o,c',av,an,ao,H⟩:=B.resolve_left (by rw[w];simp);injection av with e1 e2 e3;subst e1 e3;have O:e.kids[0]? =some k:=(by rw[w];rfl);obtain⟨pk,qk,d0,d1,d2,d3,d4,X⟩:=H 0 k O;simp only[Nat.zero_mul,Nat.add_zero]at d0 d1 d2 d3 d4;have q:=n.o.st.bel;have f0:=aj q d0;have f1:=aj q d1;have f2:=aj q d2;have f3:=aj q d3;have f4:=aj q d4;have aM:(e.kids.length:Int)=1:=(by rw[w];rfl);have V:k∈e.kids:=(by rw[w];simp)
   have aq:S.length+1+jb k<=700:=by
    have:=mg e;rw[w]at this;simp only[dI,fg,i7,List.sum_nil]at this;omega
   have aN:=(lV (atP5 l) _ k (aB _) (J.ok.kid V) (S.length+1)).2;have t:=a8 (nz (num:=atP5 l) f O S.length);have ah:=a8 X;clear d0 d1 d2 d3 d4 X H q B w O V J hstd ao an;go_wp2_with fail;refine jN 10 [kn 27 (ab gm 0),kn 28 (ab gE 1),kn 29 (ag e.a),kn 30 (ab gE 2),kn 31 (ag e.b),kn 32 (.agg #[ag 7,ag e.a,ag e.b,ag 0,af]),kn 33 (ab gE 4),kn 34 (.slice (some (ae g o)) e.kids.length c),kn 35 (ab g o),kn 36 (.agg #[ag k.kind,ag k.a,ag k.b,.string ⟨k.name.toArray⟩,.slice pk k.kids.length qk]),td 37] (by kernel_rfl) (by kernel_rfl) fun M φ W _ v F l hl hF=> ?_;have Y:=aj v z1;have Z:=aj v z2;have aa:=aj v z4;have ax:=aj v f0;have ay:=aj v f1;have az:=aj v f2;have a0:=aj v f3;have aS:=aj v f4;simp only[kn,td,dW,aQ,aX,Act.put,aA,aK,aJ]at hl;subst hl;simp only[cZ,Nat.reduceAdd]at hF;dsimp only[kn,td,dB,eN,eg,Act.put];and_intros;all_goals first|exact trivial|intro hw hn hm K U
   all_goals try (go_simp;with_reducible exact U _ _ ⟨rfl,aI _ _⟩)
   clear Y Z aa ax ay az a0 aS;have z:=n.o.below v;have G:=n.o.lt;have D:=vy C gm (.map (some mb)) l k pk qk 7 e.a e.b S W z ah.o aq (by omega);go_simp;refine D.mono ?_;rintro r Q ⟨rfl,R,s,m,i⟩;have L:PN (nL C gm (.map (some mb)) S (bL (atP5 l) e S.length) N (.returned (.tuple #[])) Q):=⟨rfl,R,s.trans t.o.symm,m,(E.o.trans (Fr2.below G v)).trans i⟩
   refine U _ _ ⟨trivial,fun c=>by simp at c,fun _=> ?_⟩;simp only[eh,aQ,aX,Act.put,aA,aK,aJ];clear hF hw hn hm;clear U v D z s m i;go_wp2_with fail;exact⟨rfl,_,eO rfl _ _ _,L.o⟩
  ·have e4:(e.kind==4)=false:=(by simp[f]);have e5:(e.kind==5)=false:=(by simp[f]);have e9:(e.kind==9)=true:=(by simp[f]);have A:=B.resolve_left (by rw[y.choose_spec];simp);have u: ∀k∈e.kids,OKE k:=fun k B=>J.ok.kid B;have P:=mg e
   have D:=pP C gm (.map (some mb)) l e.kids _ 5 e.a S w1 n.o A (fun j k hj=>by
    have T:=lX (l:=l) (ks:=e.kids) (j:=j) (b:=S.length) u;have h2:=sL hj;omega) (by
    have T:=lX (l:=l) (ks:=e.kids) (j:=e.kids.length) (b:=S.length) u;rw[gc]at T;omega)
   have t:PN (bL (atP5 l) e S.length=kh (e.kids.map (bL (atP5 l))) S.length++[⟨5,e.a,0,0,[]⟩]):=by
    show _=_;rw[oF hstd (by omega) (by omega) (by omega)];unfold opK;simp[f]
   clear A u P B y J hstd;go_wp2_with fail;refine D.mono ?_;rintro r Q ⟨rfl,R,s,m,i⟩;have L:PN (nL C gm (.map (some mb)) S (bL (atP5 l) e S.length) N (.returned (.tuple #[])) Q):=⟨rfl,R,s.trans t.o.symm,m,E.o.trans i⟩
   clear D s m i;go_wp2_with fail;exact⟨rfl,_,eO rfl _ _ _,L.o⟩
  ·have e4:(e.kind==4)=false:=(by simp[f]);have e5:(e.kind==5)=false:=(by simp[f]);have e9:(e.kind==9)=false:=(by simp[f]);have al:(e.kind==10)=true:=(by simp[f])
   have zm:w1.cell? (ae gm 0)=some (.map (some mb)):=by
    obtain⟨_,_,sv,n1,_⟩:=n.o.st;exact ak 0 n1
   have aG:=a8 (ar _ (uR f));have t:=a8 (pg (num:=atP5 l) f S.length);have ap:=gW a3.o;have a4:=a8 (a3.o.later (n.o.st.bel.block _ ap));have aF:=a8 (aT ap n.o.st.bel.size);clear ar B J hstd ap;go_wp2_with fail;refine jN 9 [kn 49 (ab gm 0),kn 50 (ab gm 0),kn 51 (ab gm 0),kn 52 (ab gm 0),kn 53 (.map (some mb)),kn 54 (ab gE 3),kn 55 (.string ⟨e.name.toArray⟩),kn 56 (ag (atP5 l e.name)),kn 57 (.agg #[ag 8,ag (atP5 l e.name),ag 0,ag 0,af]),td 58] (by kernel_rfl) (by kernel_rfl) fun M φ W _ v F l hl hF=> ?_;have Y:=aj v zm;have Z:=aj v z3;have aa:=EP (a4.o.later (v.block _ aF.o)) e.name aG.o;simp only[kn,td,dW,aQ,aX,Act.put,aA,aK,aJ]at hl;subst hl;simp only[cZ,Nat.reduceAdd]at hF;dsimp only[kn,td,dB,eN,eg,Act.put];and_intros;all_goals first|exact trivial|intro hw hn hm K U
   all_goals try (go_simp;with_reducible exact U _ _ ⟨rfl,aI _ _⟩)
   clear Y Z aa;have z:=n.o.below v;have G:=n.o.lt;have D:=uT z ⟨8,atP5 l e.name,0,0,[]⟩ (af) (ib.nil _ _ _) (by omega);dsimp only at D;go_simp;refine D.mono ?_;rintro r Q ⟨rfl,m,i⟩;have L:PN (nL C gm (.map (some mb)) S (bL (atP5 l) e S.length) N (.returned (.tuple #[])) Q):=⟨rfl,_,by rw[t.o];rfl,m,(E.o.trans (Fr2.below G v)).trans i⟩
   refine U _ _ ⟨trivial,fun c=>by simp at c,fun _=> ?_⟩;simp only[eh,aQ,aX,Act.put,aA,aK,aJ];clear hF hw hn hm;clear U v D z m i;go_wp2_with fail;exact⟨rfl,_,eO rfl _ _ _,L.o⟩
  ·rcases f with f|f|f
   ·have e4:(e.kind==4)=false:=(by simp[f]);have e5:(e.kind==5)=false:=(by simp[f]);have e9:(e.kind==9)=false:=(by simp[f]);have al:(e.kind==10)=false:=(by simp[f]);have e6:(e.kind==6)=true:=(by simp[f]);have A:=B.resolve_left (by rw[y.choose_spec.choose_spec];simp);have u: ∀k∈e.kids,OKE k:=fun k B=>J.ok.kid B;have P:=mg e
    have D:=pP C gm (.map (some mb)) l e.kids _ 2 0 S w1 n.o A (fun j k hj=>by
     have T:=lX (l:=l) (ks:=e.kids) (j:=j) (b:=S.length) u;have h2:=sL hj;omega) (by
     have T:=lX (l:=l) (ks:=e.kids) (j:=e.kids.length) (b:=S.length) u;rw[gc]at T;omega)
    have t:PN (bL (atP5 l) e S.length=kh (e.kids.map (bL (atP5 l))) S.length++[⟨2,0,0,0,[]⟩]):=by
     show _=_;rw[oF hstd (by omega) (by omega) (by omega)];unfold opK;simp[f]
    clear A u P B y J hstd;go_wp2_with fail;refine D.mono ?_;rintro r Q ⟨rfl,R,s,m,i⟩;have L:PN (nL C gm (.map (some mb)) S (bL (atP5 l) e S.length) N (.returned (.tuple #[])) Q):=⟨rfl,R,s.trans t.o.symm,m,E.o.trans i⟩
    clear D s m i;go_wp2_with fail;exact⟨rfl,_,eO rfl _ _ _,L.o⟩
   ·have e4:(e.kind==4)=false:=(by simp[f]);have e5:(e.kind==5)=false:=(by simp[f]);have e9:(e.kind==9)=false:=(by simp[f]);have al:(e.kind==10)=false:=(by simp[f]);have e6:(e.kind==6)=false:=(by simp[f]);have e7:(e.kind==7)=true:=(by simp[f]);have A:=B.resolve_left (by rw[y.choose_spec.choose_spec];simp);have u: ∀k∈e.kids,OKE k:=fun k B=>J.ok.kid B;have P:=mg e
    have D:=pP C gm (.map (some mb)) l e.kids _ 3 0 S w1 n.o A (fun j k hj=>by
     have T:=lX (l:=l) (ks:=e.kids) (j:=j) (b:=S.length) u;have h2:=sL hj;omega) (by
     have T:=lX (l:=l) (ks:=e.kids) (j:=e.kids.length) (b:=S.length) u;rw[gc]at T;omega)
    have t:PN (bL (atP5 l) e S.length=kh (e.kids.map (bL (atP5 l))) S.length++[⟨3,0,0,0,[]⟩]):=by
     show _=_;rw[oF hstd (by omega) (by omega) (by omega)];unfold opK;simp[f]
    clear A u P B y J hstd;go_wp2_with fail;refine D.mono ?_;rintro r Q ⟨rfl,R,s,m,i⟩;have L:PN (nL C gm (.map (some mb)) S (bL (atP5 l) e S.length) N (.returned (.tuple #[])) Q):=⟨rfl,R,s.trans t.o.symm,m,E.o.trans i⟩
    clear D s m i;go_wp2_with fail;exact⟨rfl,_,eO rfl _ _ _,L.o⟩
   ·have e4:(e.kind==4)=false:=(by simp[f]);have e5:(e.kind==5)=false:=(by simp[f]);have e9:(e.kind==9)=false:=(by simp[f]);have al:(e.kind==10)=false:=(by simp[f]);have e6:(e.kind==6)=false:=(by simp[f]);have e7:(e.kind==7)=false:=(by simp[f]);have e8:(e.kind==8)=true:=(by simp[f]);have A:=B.resolve_left (by rw[y.choose_spec.choose_spec];simp);have u: ∀k∈e.kids,OKE k:=fun k B=>J.ok.kid B;have P:=mg e
    have D:=pP C gm (.map (some mb)) l e.kids _ 4 0 S w1 n.o A (fun j k hj=>by
     have T:=lX (l:=l) (ks:=e.kids) (j:=j) (b:=S.length) u;have h2:=sL hj;omega) (by
     have T:=lX (l:=l) (ks:=e.kids) (j:=e.kids.length) (b:=S.length) u;rw[gc]at T;omega)
    have t:PN (bL (atP5 l) e S.length=kh (e.kids.map (bL (atP5 l))) S.length++[⟨4,0,0,0,[]⟩]):=by
     show _=_;rw[oF hstd (by omega) (by omega) (by omega)];unfold opK;simp[f]
    clear A u P B y J hstd;go_wp2_with fail;refine D.mono ?_;rintro r Q ⟨rfl,R,s,m,i⟩;have L:PN (nL C gm (.map (some mb)) S (bL (atP5 l) e S.length) N (.returned (.tuple #[])) Q):=⟨rfl,R,s.trans t.o.symm,m,E.o.trans i⟩
    clear D s m i;go_wp2_with fail;exact⟨rfl,_,eO rfl _ _ _,L.o⟩
theorem Ki (f:World)(gm mb:Nat)(l:List Ru)(n:jk f mb l)(w:Tab f): ∀(d:Nat) (e:Ex) (sl:Value),fZ (fun k=>k<f.heap.size) d f sl e.kids->Rt e->e.name.length<=9223372036854775807->(∀x∈nms e,0<=atP5 l x)->Fq f gm (.map (some mb)) l e sl:=by
 intro d;induction d with
 |zero=>
  intro e sl b q t a S W h s;obtain⟨p,c,rfl⟩:=b.form;exact Am f gm mb 0 l e p c S W h n w q t b (.inl b.1) a s
 |succ d H=>
  intro e sl b q t a S W h s;obtain⟨p,c,v⟩:=b.form;subst v;refine Am f gm mb (d+1) l e p c S W h n w q t b ?_ a s;rcases b with⟨h,_⟩|⟨g,o,z,D,F,E,i⟩
  ·exact .inl h
  ·refine .inr ⟨g,o,z,F,D,E,fun j k y=> ?_⟩;obtain⟨u,K,c0,c1,A,B,C,r⟩:=i j k y;obtain⟨I,J,rfl⟩:=r.form;have m:=aM y;exact⟨I,J,c0,c1,A,B,C,H k _ r (q.kid m) u fun x G=>a x (uQ m G)⟩
theorem Da (C:List (List In))(ρ:Nat->Nat)(a:Nat->Int×Int)(x:rZ C ρ)(o:qX (eU C a))(n e c:Nat)(A:n=C.length)(j:n<=1000)(sv:Nat->Value)(d:Nat->List (In×Value))(y: ∀k,k<n->(d k).map (fun u=>u.1)=C.getD k [])(v: ∀k,k<n->1<=(d k).length/\(d k).length<=700)(z: ∀k,k<n-> ∀u∈d k,∃p m c,u.2= .slice p m c)(g: ∀i,i<n->a i=mj C a i)(t: ∀i,i<n->1<=(a i).2):
  ∀(r i:Nat),ρ i<=r->i<n-> ∀(H T:Nat->Int) (w:World),fC e n sv H T w->(∀q,q<n->jZ w (sv q) (d q))->(∀q,q<n->ρ q<=ρ i->Okm a H T q)->Calls prog 67 #[.slice (some (ae e 0)) n c,ag (i:Int)] w (v7 a ρ e n sv i H T w):=by
 intro r;induction r with
 |zero=>
  intro i D hi H T w f l b;exact tS C ρ a x o n e c A j sv d y v z i hi (g i hi) (t i hi) (fun k _ B=>by omega) H T w f l b
 |succ r E=>
  intro i D hi H T w f l b;exact tS C ρ a x o n e c A j sv d y v z i hi (g i hi) (t i hi) (fun k s B H T w f l b=>E k (by omega) s H T w f l b) H T w f l b
def nN (m:Int×Int):Bool:=decide (100<m.1)||decide (20000<m.2)
def j6 (m:Nat->Int×Int):Nat->Nat->Int
 |0,_=> -1
 |k+1,j=>if nN (m j)=true then(j:Int) else j6 m k (j+1)
theorem Db (p:Option Addr)(a c:Nat)(h t:Int)(w:World)(j:a<=700):
  Calls prog 69 #[.agg #[.slice p a c,ag h,ag t]] w fun e w'=>e= .returned (.bool (nN (h,t)))/\aq w w':=by
 have f:=am w (.cells #[.slice p a c,ag h,ag t] 140);have b:=aE w (.cells #[.slice p a c,ag h,ag t] 140);generalize m:w.alloc (.cells #[.slice p a c,ag h,ag t] 140)=n at*;have q:=ak 0 b;have r:=ak 1 b;have s:=ak 2 b;have k:(a:Int)<=700:=by omega
 by_cases g:100<h
 ·have d:PN (nN (h,t)=true):=by show _=_;simp[nN,g]
  rw[d.o];clear b j;go_enter func69,ntmps69;go_wp2_with fail;go_ret;exact⟨rfl,f⟩
 ·by_cases i:20000<t
  ·have d:PN (nN (h,t)=true):=(by show _=_;simp[nN,i]);rw[d.o];clear b j;go_enter func69,ntmps69;go_wp2_with fail;go_ret;exact⟨rfl,f⟩
  ·have d:PN (nN (h,t)=false):=(by show _=_;simp[nN,g,i]);rw[d.o];have l: ¬(2000:Int)<(a:Int):=(by omega);clear b;go_enter func69,ntmps69;go_wp2_with fail;go_ret;exact⟨rfl,f⟩
theorem AG (n x c:Nat)(sv:Nat->Value)(m:Nat->Int×Int)(w:World)(z:fC x n sv (fun k=>(m k).1) (fun k=>(m k).2) w)(q: ∀k,k<n-> ∃p s c,sv k= .slice p s c/\s<=700)(J:n<=1000):
  Calls prog 68 #[.slice (some (ae x 0)) n c,.func (.func 69) #[] #[]] w fun e w'=>e= .returned (ag (j6 m n 0))/\aq w w':=by
 have B:=a8 z;have v:=a8 q;have G:(n:Int)<=1000:=by omega
 clear z q;go_enter func68,ntmps68;go_wp2_with fail;go_loopw [5,8] (fun _ t wr=> ∃j:Nat,t=ag (j:Int)/\j<=n/\j6 m n 0=j6 m (n-j) j/\aq w wr) (fun _ t _=>n-(intOf t).toNat);case atStart=>exact⟨0,rfl,by omega,by rw[Nat.sub_zero],aI _ _⟩
 case round=>
  obtain⟨j,rfl,I,d,r⟩:=hrel;have E:(0:Int)<=(j:Int):=(by omega);by_cases g:j<n
  ·have i:(j:Int)<(n:Int):=(by omega);obtain⟨c0,c1,C,_,_⟩:=(B.o.below r).cells g;obtain⟨H,s,D,A,F⟩:=v.o j g;rw[A]at c0;rw[show n-j=(n-(j+1))+1 by omega,j6]at d;have cT:=Db H s D (m j).1 (m j).2 wr F;have b:=a8 d;generalize l:nN ((m j).1,(m j).2)=y at cT;have a:PN (nN (m j)=y):=l;generalize (m j).1=K at*;generalize (m j).2=L at*;clear A d l;go_wp2_with fail;refine cT.mono ?_;rintro e M ⟨rfl,b1⟩;have f:=aw r b1;clear cT b1 r c0 c1 C;cases y with
   |true=>
    have u:PN (j6 m n 0=(j:Int)):=(by show _=_;rw[b.o,aD a.o]);clear b a;go_wp2_with fail;go_ret;exact⟨by(rw[u.o])<;>rfl,f⟩
   |false=>
    have u:PN (j6 m n 0=j6 m (n-(j+1)) (j+1)):=(by show _=_;rw[b.o,ax (by rw[a.o];simp)]);clear b a;go_wp2_with fail;go_roundw;case rel=>exact⟨j+1,by go_num,by omega,u.o,f⟩
    case measure=>simp[intOf];omega
  ·have i: ¬(j:Int)<(n:Int):=(by omega)
   have b:PN (j6 m n 0= -1):=by
    show _=_;rw[d,show n-j=0 by omega];rfl
   clear d;go_wp2_with fail;go_ret;exact⟨by(rw[b.o])<;>rfl,r⟩
theorem xW {num:List UInt8->Int}: ∀(N:Nat) (e:Ex),SizeOf.sizeOf e<=N->OKE e-> ∀(b:Nat) (x:In),x∈bL num e b->x.op=8-> ∃nm∈nms e,x.a=num nm
 |0,e,j,_,_,_,_,_=>by cases e;simp at j
 |N+1,e,j,h,b,x,c,f=>by
  have g: ∀k∈e.kids,∀b,x∈bL num k b-> ∃nm∈nms e,x.a=num nm:=fun k d b i=>by
   obtain⟨nm,l,n⟩:=xW N k (by have:=iS d;omega) (h.kid d) b x i f;exact⟨nm,uQ d l,n⟩
  cases hs:stdE e with
  |true=>
   rw[oD hs,bT]at c;subst c;exact absurd f (by show¬(1:Int)=8;omega)
  |false=>
   rcases nJ h hs with⟨q,k,d⟩|⟨q,k,d⟩|⟨q,k,d⟩|q|⟨q,k,m,d⟩
   ·rw[ph q (by rw[d];rfl)]at c;rcases bv.1 c with rfl|c
    ·exact absurd f (by show¬(6:Int)=8;omega)
    ·exact g k (by rw[d];simp) _ c
   ·rw[nz q (by rw[d];rfl)]at c;rcases bv.1 c with rfl|c
    ·exact absurd f (by show¬(7:Int)=8;omega)
    ·exact g k (by rw[d];simp) _ c
   ·rw[pO hs q d]at c;rcases bU.1 c with c|c
    ·exact g k (by rw[d];simp) _ c
    ·rw[bT]at c;subst c;exact absurd f (by show¬(5:Int)=8;omega)
   ·rw[pg q,bT]at c;subst c;exact⟨_,uR q,rfl⟩
   ·rw[qW hs q d]at c;rcases bU.1 c with c|c
    ·rcases bU.1 c with c|c
     ·exact g k (by rw[d];simp) _ c
     ·exact g m (by rw[d];simp) _ c
    ·rw[bT]at c;subst c;have:=DY q;exact absurd f (by show¬opK e.kind=8;omega)
theorem B7: ∀{l:List (Int×Int)} {j:Nat},j<l.length->(iU l)[j*2+0]? =some (ag (l.getD j (0,0)).1)/\(iU l)[j*2+1]? =some (ag (l.getD j (0,0)).2)
 |[],_,h=>by simp at h
 |_::_,0,_=>⟨rfl,rfl⟩
 |s::l,j+1,h=>by
  have a:=B7 (l:=l) (j:=j) (by simpa using h)
  have e: ∀i,(iU (s::l))[(j+1)*2+i]? =(iU l)[j*2+i]? :=fun i=>by
   show(_::_::iU l)[(j+1)*2+i]? =_;rw[show(j+1)*2+i=(j*2+i)+1+1 by omega,List.getElem?_cons_succ,List.getElem?_cons_succ]
  rw[e,e];exact a
theorem ib.row {w:World}{v:Value}{l:List (Int×Int)}(h:ib w v l):mX w v l:=by
 rcases h with h|⟨g,c,f,e,n,k,o⟩
 ·exact .inl h
 ·refine .inr (.inr ⟨g,0,c,e,n,fun j m=> ?_⟩)
  have a: ∀(i:Nat) (v:Value),j*2+i<l.length*2->(iU l)[j*2+i]? =some v->w.cell? (ae g (0+j*2+i))=some v:=fun i v hi d=>by
   refine(aZ _ _ _ _ _ _ k).trans ?_;rw[bN,<-bp];rw[<-o,dK hi]at d;exact d
  have b:=B7 m;exact⟨by simpa using a 0 _ (by omega) b.1,a 1 _ (by omega) b.2⟩
theorem If {w:World}{v:Value}{S:List (In×Value)}(h:jZ w v S)(l:1<=S.length)(o:S.length<=700)(n: ∀u∈S,ib w u.2 u.1.sp):oS w v (S.map fun u=>u.1):=by
 obtain⟨g,c,e,m⟩:=h.form l;refine⟨S,⟨some ⟨g,0,none⟩,c,e,by omega,fun j u a=>⟨(n u (aM a)).row,g,0,rfl,?_⟩⟩,rfl⟩;obtain⟨b,d,f,i,k⟩:=m j u a;simp only[bN];exact⟨b,d,f,i,k⟩
theorem Mt {w:World}{d n c:Nat}{sv:Nat->Value}{b:Nat->List (In×Value)}{C:List (List In)}{m:Nat->Int×Int}(s:n=C.length)(t:n<=1000)(r:fC d n sv (fun k=>(m k).1) (fun k=>(m k).2) w)(v: ∀k,k<n->jZ w (sv k) (b k))(f: ∀k,k<n->1<=(b k).length/\(b k).length<=700)(x: ∀k,k<n-> ∀u∈b k,ib w u.2 u.1.sp)(p: ∀k,k<n->(b k).map (fun u=>u.1)=C.getD k []):InV w (.slice (some (ae d 0)) n c) (eU C m):=by
 refine⟨(List.range n).map fun k=>(⟨C.getD k [],(m k).1,(m k).2⟩,sv k),⟨some ⟨d,0,none⟩,c,by simp,by simp;omega,fun j u g=> ?_⟩,?_⟩
 ·rw[bg]at g;obtain⟨k,q,rfl⟩:=dR.1 g;obtain⟨l,o⟩:=aG.1 q;have e:k=j:=(by rw[<-o];simp);subst e;have a:k<n:=(by simpa using l);refine⟨?_,d,0,rfl,?_⟩
  ·have:=If (v k a) (f k a).1 (f k a).2 (x k a);rw[p k a]at this;exact this
  ·obtain⟨c0,c1,i,_,_⟩:=r.cells a;simp only[bN];exact⟨c0,c1,i⟩
 ·rw[jU,s];rfl
def fK (l:List Ru):List (List In):=l.map fun u=>bL (atP5 l) u.2 0
def gj (l:List Ru):Nat->Int×Int:=nK (fK l) (l.length+1)
def eW (l:List Ru):List Cd:=eU (fK l) (gj l)
def iA (l:List Ru):Int×Int:=if(dq l).1≠0 then((dq l).1,((dq l).2:Int)) else if 0<=j6 (gj l) l.length 0 then(4,j6 (gj l) l.length 0) else(0,0)
theorem mO (l:List Ru):(fK l).length=l.length:=by simp[fK]
theorem mI {l:List Ru}{i:Nat}{u:Ru}(h:l[i]? =some u):(fK l).getD i []=bL (atP5 l) u.2 0:=by
 simp[fK,List.getD,h]
theorem Ao: ∀{l:List Ru} {i:Nat},(jJ l i).1=0-> ∀u∈l,Rt u.2
 |[],_,_,u,a=>by cases a
 |d::l,i,h,u,a=>by
  unfold jJ at h;by_cases b:ruleP d≠0
  ·rw[aD b]at h;exact absurd h b
  ·rw[ax b]at h;rcases bv.1 a with rfl|a
   ·have c:ruleP u=0:=(by simpa using b);unfold ruleP at c;split at c
    ·cases c
    ·exact c
   ·exact Ao h u a
theorem qH {l:List Ru}(h:(dq l).1=0):l.length<=40/\ ∀u∈l,Rt u.2:=by
 have a:=(lD h).1;refine⟨(sJ a).1,?_⟩;unfold fV at a;split at a
 ·cases a
 ·exact Ao a
theorem r0 {l:List Ru}(h:(dq l).1=0){u:Ru}(d:u∈l){x:List UInt8}(f:x∈nms u.2):0<=atP5 l x/\atP5 l x<l.length/\atP5 l x∈fW l u:=by
 have a:atP5 l x∈fW l u:=(pK (nms u.2) []).2 (.inr ⟨x,f,rfl⟩);have c:=ol l x;have b:=(lD h).2 u d;refine⟨?_,c.2,a⟩;by_cases q:0<=atP5 l x
 ·exact q
 ·have e:atP5 l x= -1:=by omega
  rw[e]at a;exact absurd a b
theorem NY (l:List Ru)(i:Nat):muR l i<=l.length:=by
 unfold muR gg;split
 ·simp
 ·unfold mkL;rw[ba];refine bf (List.length_filter_le _ _) ?_;simp
theorem rC {l:List Ru}(h:(dq l).1=0):rZ (fK l) (muR l):=by
 refine⟨fun i j x hi d k=> ?_⟩;rw[mO]at hi⊢;have b:l[i]? =some l[i]:=az hi;rw[mI b]at d;have a:=aM b;obtain⟨nm,g,c⟩:=xW _ _ (aB _) ((qH h).2 _ a).ok 0 x (aM d) k;obtain⟨e,m,f⟩:=r0 h a g;rw[c];refine⟨e,by omega,rW h hi ?_⟩;rw[qv b];exact dV.2 ⟨_,f,rfl⟩
theorem uU {l:List Ru}(h:(dq l).1=0){i:Nat}(hi:i<l.length):gj l i=mj (fK l) (gj l) i:=Mp (rC h) (N:=l.length) (fun i _=>NY l i) (by rw[mO];exact hi)
theorem xX (l:List Ru):qX (eU (fK l) (gj l)):=Fm _ _
theorem v8 {l:List Ru}(h:(dq l).1=0){i:Nat}(hi:i<l.length):1<=((fK l).getD i []).length/\((fK l).getD i []).length<=600:=by
 have b:l[i]? =some l[i]:=az hi;have a:=(qH h).2 _ (aM b);rw[mI b];have:=lV (atP5 l) _ _ (aB _) a.ok 0;have c:=a.nod;omega
theorem B8 {l:List Ru}(h:(dq l).1=0){i:Nat}(hi:i<l.length):1<=(gj l i).2:=by
 rw[uU h hi];exact(DZ (xX l) i).2.2 (v8 h hi).1
def nO (w u:World):Prop:= ∀(q:Nat) (c:Array Value) (T:TypeId) (f:Nat×Nat),w.heap[q]? =some (.cells c T f)->(T=140\/T=177\/T=87)->u.heap[q]? =w.heap[q]?
def xY (l:List Ru)(w:World)(r:Ending)(w':World):Prop:= ∃v,r= .returned (.tuple #[v,.agg #[ag (iA l).1,ag (iA l).2]])/\((iA l).1=0-> ∀u,nO w' u->InV u v (eW l))/\((iA l).1≠0->v=af)/\aq w w'
theorem jZ.ty {w u:World}{v:Value}{S:List (In×Value)}(h:jZ w v S)(f:nO w u):jZ u v S:=br h fun b a=>by
 rcases h.2 with⟨e,_⟩|⟨g,cap,c,e,_,d,_⟩
 ·rw[e]at a;cases a
 ·rw[e]at a;cases aN a;exact f _ _ _ _ d (.inr (.inl rfl))
theorem ib.ty {w u:World}{v:Value}{l:List (Int×Int)}(h:ib w v l)(i:nO w u):ib u v l:=by
 rcases h with h|⟨g,c,a,e,f,b,d⟩
 ·exact .inl h
 ·exact .inr ⟨g,c,a,e,f,(i _ _ _ _ b (.inr (.inr rfl))).trans b,d⟩
theorem fC.ty {b n:Nat}{sv:Nat->Value}{H T:Nat->Int}{w u:World}(h:fC b n sv H T w)(d:nO w u):fC b n sv H T u:=by
 obtain⟨a,c,h⟩:=h;exact⟨a,(d _ _ _ _ c (.inl rfl)).trans c,h⟩
def nP (n:Nat):Array Value:=madeCells #[af,ag 0,ag 0] (n*3)
theorem tT {n i j:Nat}(hi:i<n)(c:j<3):(nP n)[i*3+j]? =(#[af,ag 0,ag 0]:Array Value)[j]? :=by
 have a:i*3+j<n*3:=by omega
 have b:(i*3+j)%3=j:=by omega
 simp only[nP,madeCells];match j,c,a,b with
 |0,_,a,b=>simp at a b⊢;simp[a]
 |1,_,a,b=>simp[a,b]
 |2,_,a,b=>simp[a,b]
theorem Ig:(prog.info? 140).map (fun i=>(i.zero,i.size,i.bytes))=some (some (.agg #[af,ag 0,ag 0]),3,40):=by kernel_rfl
theorem Fs:prog.underlying 48=some (.slice 140):=by kernel_rfl
theorem Ft (n:Nat)(g:n<=1000)(w:World):(Instr.makeSlice 48 (ag (n:Int)) (ag (n:Int))).run prog w= .ok (.slice (some (ae w.heap.size 0)) n n) (w.alloc (.cells (nP n) 140)):=by
 obtain⟨i,hi,a⟩:=dR.1 Ig;simp only[Prod.mk.injEq]at a;obtain⟨f,d,c⟩:=a;have b:=run_make (P:=prog) w 48 140 i _ Fs hi f .i64 .i64 n n (by omega) (gY _) (by rw[c];omega) (by omega);rw[d]at b;have e:(Value.agg #[af,ag 0,ag 0]).cells= #[af,ag 0,ag 0]:=rfl;rw[e]at b;simpa[nP] using b
theorem fC.made {w:World}{a n:Nat}(h:w.heap[a]? =ah (nP n) 140):fC a n (fun _=>af) (fun _=>0) (fun _=>0) w:=by
 refine⟨_,h,by simp[nP,madeCells],fun i hi=>⟨?_,?_,?_⟩⟩
 ·have:=tT (j:=0) hi (by omega);simpa using this
 ·exact(tT (j:=1) hi (by omega)).trans rfl
 ·exact(tT (j:=2) hi (by omega)).trans rfl
def upV (f:Nat->Value)(i:Nat)(v:Value):Nat->Value:=fun k=>if k=i then v else f k
theorem Ih (f:Nat->Value)(i:Nat)(v:Value):upV f i v i=v:=by unfold upV;rw[aD rfl]
theorem Ii (f:Nat->Value){i k:Nat}(v:Value)(h:k≠i):upV f i v k=f k:=by unfold upV;rw[ax h]
theorem fC.setV {a n:Nat}{sv:Nat->Value}{H T:Nat->Int}{w:World}(h:fC a n sv H T w){i:Nat}(v:Value)(hi:i<n):fC a n (upV sv i v) H T (w.setCell ⟨a,i*3,none⟩ v):=by
 obtain⟨c,f,j,d⟩:=h;refine⟨_,aY w a (i*3) _ _ _ f,by rw[gT];exact j,fun k g=> ?_⟩;obtain⟨c0,c1,b⟩:=d k g;refine⟨?_,?_,?_⟩
 ·by_cases e:k=i
  ·subst e;rw[Ih,gu (by omega)]
  ·rw[Ii _ _ e,dn (by omega)];exact c0
 ·rw[dn (by omega)];exact c1
 ·rw[dn (by omega)];exact b
theorem fC.frozen {a n:Nat}{sv:Nat->Value}{H T:Nat->Int}{w:World}(h:fC a n sv H T w)(i:Nat):w.frozen? (ae a i)=false:=by
 obtain⟨b,c,_⟩:=h;exact bl _ _ _ _ _ c
theorem fC.congr {d n:Nat}{sv:Nat->Value}{H T b c:Nat->Int}{w:World}(h:fC d n sv H T w)(e: ∀k,k<n->H k=b k/\T k=c k):fC d n sv b c w:=by
 obtain⟨a,l,m,j⟩:=h;refine⟨a,l,m,fun k f=> ?_⟩;obtain⟨c0,c1,g⟩:=j k f;obtain⟨i,e2⟩:=e k f;rw[<-i,<-e2];exact⟨c0,c1,g⟩
theorem ib.kept {d n:Nat}{sv:Nat->Value}{H T:Nat->Int}{w w':World}{v:Value}{l:List (Int×Int)}(h:ib w v l)(p:fC d n sv H T w)(m:bo d w w'):ib w' v l:=by
 obtain⟨i,a,_⟩:=p;rcases h with h|⟨g,c,b,e,o,f,r⟩
 ·exact .inl h
 ·refine .inr ⟨g,c,b,e,o,(m.block g (aH f) (fun q=> ?_)).trans f,r⟩;have s:g=d:=aN q;subst s;rw[f]at a;injection a with k;injection k with _ j _;exact absurd j (by decide)
theorem xZ {B c:Nat}{w w' b:World}(h:Below B w w')(a:bo c w' b)(g:B<=c)(f:B<=w'.heap.size):Below B w b:=
 ⟨a.os.trans h.os,a.tape.trans h.tape,a.output.trans h.output,bf h.size a.size,fun k d=>(a.block k (aT d f) (fun e=>by have:=aN e;omega)).trans (h.block k d)⟩
def pC (l:List Ru)(w:World)(sv:Nat->Value)(a:Nat->List (In×Value))(k:Nat):Prop:=jZ w (sv k) (a k)/\(a k).map (fun u=>u.1)=(fK l).getD k []/\ ∀u∈a k,ib w u.2 u.1.sp
theorem pC.kept {l:List Ru}{c n:Nat}{sv a:Nat->Value}{H T:Nat->Int}{w w':World}{b:Nat->List (In×Value)}{k:Nat}(h:pC l w sv b k)(e:fC c n a H T w)(d:bo c w w'):pC l w' sv b k:=⟨h.1.kept e d,h.2.1,fun u f=>(h.2.2 u f).kept e d⟩
theorem pC.ext {l:List Ru}{sv b:Nat->Value}{w:World}{c a:Nat->List (In×Value)}{k:Nat}(h:pC l w sv c k)(d:b k=sv k)(e2:a k=c k):pC l w b a k:=by
 unfold pC;rw[d,e2];exact h
def upS (f:Nat->List (In×Value))(i:Nat)(v:List (In×Value)):Nat->List (In×Value):=fun k=>if k=i then v else f k
theorem NZ (f:Nat->List (In×Value))(i:Nat)(v:List (In×Value)):upS f i v i=v:=by unfold upS;rw[aD rfl]
theorem N0 (f:Nat->List (In×Value)){i k:Nat}(v:List (In×Value))(h:k≠i):upS f i v k=f k:=by unfold upS;rw[ax h]
theorem Kj {w:World}{b size n:Nat}{e:TypeId}{v:Value}{xs:List Value}(h:w.ownsRow b e size v n xs):w.ownsRow 0 e size v n xs:=by
 obtain⟨d,c⟩:=h;rcases c with c|⟨g,cap,a,e,q,r⟩
 ·exact⟨d,.inl c⟩
 ·exact⟨d,.inr ⟨g,cap,a,e,dw _,r⟩⟩
theorem tU {R:Ending->World->Prop}{a:Act}{w:World}(g:Nat)(v:Value)(er at_:Int)(i:a.defers=[])(d:a.tmps.getD 2 undef=v)(e:a.tmps.getD 3 undef=ab g 0)
  (j:w.heap[g]? =ah #[ag er,ag at_] 93) (f:R (.returned (.tuple #[v,.agg #[ag er,ag at_]])) w):bodyPost prog f39 R .ret a w:=by
 refine aW (v:= .tuple #[v,.agg #[ag er,ag at_]]) ?_ i f;have b:a.tmps[2]?.getD undef=v:=by simpa using d
 have c:a.tmps[3]?.getD undef=ab g 0:=by simpa using e
 have k:=dX (P:=prog) w g 93 93 _ _ _ j oX rfl (by kernel_rfl);simp[results,results39,b,c,asAddr,k]
theorem Ij (m:Nat->Int×Int): ∀(k j n:Nat),j+k<=n-> -1<=j6 m k j/\j6 m k j<=(n:Int)
 |0,j,n,_=>by simp only[j6];omega
 |k+1,j,n,h=>by
  have a:=Ij m k (j+1) n (by omega);simp only[j6];split
  ·omega
  ·exact a
theorem jZ.set {w:World}{v:Value}{S:List (In×Value)}(h:jZ w v S){g:Nat}{c:Array Value}(b:w.heap[g]? =ah c 93)(xs:Array Value):jZ (w.setRow g xs) v S:=
 World.ownsRow.kept h (row:=some g) ⟨rfl,rfl,rfl,by simp,fun q _ a=>aV w g q xs (fun e=>a (congrArg some e))⟩ (.inr fun e=>ko h b (by decide) e.symm)
theorem ib.set {w:World}{v:Value}{l:List (Int×Int)}(h:ib w v l){g:Nat}{c:Array Value}(k:w.heap[g]? =ah c 93)(xs:Array Value):ib (w.setRow g xs) v l:=by
 rcases h with h|⟨d,f,b,e,m,a,n⟩
 ·exact .inl h
 ·refine .inr ⟨d,f,b,e,m,(aV w g d xs (fun q=> ?_)).trans a,n⟩;rw[q,k]at a;injection a with j;injection j with _ i _;exact absurd i (by decide)
end Go.Proofs.YtaoljfdfhggbbaaGreatDoor
