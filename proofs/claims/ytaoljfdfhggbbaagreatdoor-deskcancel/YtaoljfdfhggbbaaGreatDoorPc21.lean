/- Texts of the proof. -/
import Derived.Test.YtaoljfdfhggbbaaGreatDoorPc20
set_option maxRecDepth 100000
set_option maxHeartbeats 8000000
namespace Go.Proofs.YtaoljfdfhggbbaaGreatDoor
open Go.Proofs.Tryz Go.RowKit Lx Vx Mx Msk
section
variable {all:List Tk} {E g:Nat} {v:Value} {w:World} {i n:Nat}
theorem Jp (C:PS0 all E g v)(aO:RC all E g v 141 2 i)(Y: ∀j,i<j->RC all E g v 141 2 j):RC all E g v 119 0 i:=by
 intro w n d h aZ aj;have D:=aH h.blk;have a1:aq w (w.alloc (.cells #[ag 0,ag 0,ag 0,.string ⟨#[]⟩,af] 102)):=am _ _;have hz:=mz w;have aP:=h.below a1 C;have a4:=bo.of_below (g:=g) a1;have bi:(w.alloc (.cells #[ag 0,ag 0,ag 0,.string ⟨#[]⟩,af] 102)).heap.size=w.heap.size+1:=by simp
 generalize bq:w.alloc (.cells #[ag 0,ag 0,ag 0,.string ⟨#[]⟩,af] 102)=w0 at*;have c1:=aO w0 n d aP aZ aj;generalize J:rd E 0 d ex0 (all.drop i) n=X;rw[Pd]at J;go_enter func119,ntmps119;go_wp2_with fail;refine c1.mono ?_;intro e w1 ho;cases hx:rd E 2 d ex0 (all.drop i) n with
 |error q=>
  obtain⟨er,at_⟩:=q;rw[hx]at ho J;obtain⟨rfl,N⟩:=ho;refine⟨rfl,?_⟩;rw[<-J];exact⟨rfl,a4.trans N⟩
 |ok q=>
  obtain⟨e0,br,n0⟩:=q;have ar:=lM (by omega) hx;rw[hx]at ho J;obtain⟨i1,sl,dd,ba,rfl,a5,h1,aW,N⟩:=ho;subst ba;obtain⟨p1,V,rfl⟩:=a5.form;have aS:rd E 1 d e0 (all.drop i1) n0=X:=J
  have a3:i<i1:=by
   have e1:gd 2=1:=rfl;simp only[fo]at ar;have:=h1.le;omega
  have bn:=N.size;have be:=N.at hz (by omega);have ac:aq w1 (w1.alloc (.cells #[ag e0.kind,ag e0.a,ag e0.b,.string ⟨e0.name.toArray⟩,.slice p1 e0.kids.length V] 102)):=am _ _;have h2:=h1.below ac C;have bf:=ai ac be;have a9:=(a4.trans N).trans (bo.of_below ac)
  have aG:rx w (w1.alloc (.cells #[ag e0.kind,ag e0.a,ag e0.b,.string ⟨e0.name.toArray⟩,.slice p1 e0.kids.length V] 102)) w1.heap.size e0:=
   ⟨p1,V,dd,aE w1 _,(bo.of_below (g:=g) ac).kids (fun k hk=>by omega) (a5.lt.mono fun k hk=>by omega)⟩
  unfold exV;have aM:PN (rd E 1 d e0 (all.drop i1) n0=X):=aS;generalize bp:w1.alloc (.cells #[ag e0.kind,ag e0.a,ag e0.b,.string ⟨e0.name.toArray⟩,.slice p1 e0.kids.length V] 102)=w2 at*;go_wp2_with fail;obtain⟨b5,a2⟩:=au w1.heap.size;rw[a2]at aG;simp only[a2];have bh:w.heap.size+1<=b5:=(by omega);go_loopw [10] (fun _ wr=> ∃(e:Ex) (j m:Nat),rd E 1 d e (all.drop j) m=X/\rx w wr b5 e/\PSt all E g v wr j m/\m<=600/\bo g w wr/\wr.heap[w.heap.size]? =ah se 102/\i<j) (fun _ wr=>all.length-oO g wr);case atStart=>exact⟨e0,i1,n0,aM.o,aG,h2,aW,a9,bf,a3⟩
  case round=>
   obtain⟨e,j,m,aa,hv,B,aC,G,H,bk⟩:=hrel;have hp:=B.pos;by_cases R:isT pI (all.drop j)=true
   case' neg=>
    have aF:isT pI (all.drop j)=false:=(by simpa using R);have ak:=R;by_cases R:isT gC (all.drop j)=true
    case neg=>
     have bb:isT gC (all.drop j)=false:=(by simpa using R);have c2:=fun(W:World) (hW:PSt all E g v W j m)=>ew C hW gC bb;rw[I8,ax ak,ax R]at aa;go_wp2_with fail;refine(ew C B pI aF).mono ?_;rintro e' bg ⟨rfl,S,A⟩;have av:=hv.kept A (by omega) D;have U:=A.at H (by omega);have P:=G.trans A;have hv:=av;have B:=S;have H:=U;have G:=P;have aN:PN (.ok (e,all.drop j,m)=X):=aa;go_wp2_with fail;refine(c2 _ B).mono ?_;rintro e' w3 ⟨rfl,Z,u⟩;have aw:=hv.kept u (by omega) D;obtain⟨pv,cv,dv,L,aU⟩:=aw.ex;have T:=u.at H (by omega);have a8:=G.trans u
     have HO:PN (∀cs,jw all E g v w (fun k=>w.heap.size<=k) X (.returned (exV e (.slice pv e.kids.length cv))) (w3.setRow w.heap.size cs)):=fun cs=>by
      rw[<-aN.o];exact⟨j,_,dv,rfl,rfl,(aU.kept fun k hk _=>aV _ _ _ _ (by omega)).mono fun k hk=>by omega,h.of_kept C (a8.setRow (aB _) cs) ((aV _ _ _ _ (by omega)).trans Z.blk) Z.le,aC,a8.setRow (aB _) cs⟩
     unfold exV at HO
     go_wp2_with(first
      |(refine aR rfl 102 _ rfl _ rfl _ _ _ _ L fd rfl (by kernel_rfl) ?_)
      |(refine ay rfl 102 _ _ rfl _ _ rfl rfl _ _ T (by kernel_rfl) (by rfl) (by simp[Value.oneCell']) ?_))
     exact jI 4 (by kernel_rfl) w.heap.size _ _ _ _ _ rfl rfl (aL _ _ _ _ _ _ T) (HO.o _)
    have aT:=og (by decide) R;have c2:=fun(W:World) (hW:PSt all E g v W j m)=>fU C hW gC (by decide) R;obtain⟨y,HY⟩: ∃y,PN (rd E 2 d ex0 (all.drop (j+1)) m=y):=⟨_,rfl⟩
    obtain⟨z,HZ⟩: ∃z,PN (dm y (fun t r n=>dE E ⟨7,0,0,[],[e,t]⟩ r n)=z):=⟨_,rfl⟩
    have I:PN (dm z (fun e r n=>rd E 1 d e r n)=X):=by
     show _=_;rw[<-aa,I8,ax ak,aD R,fA,HY.o,ry,HZ.o]
    have HB:=Jn (rz HZ.o I.o);go_wp2_with fail;refine(ew C B pI aF).mono ?_;rintro e' bg ⟨rfl,S,A⟩;have av:=hv.kept A (by omega) D;have U:=A.at H (by omega);have P:=G.trans A;have hv:=av;have B:=S;have H:=U;have G:=P;go_wp2_with fail
   case' pos=>
    have aT:=og (by decide) R;have c2:=fun(W:World) (hW:PSt all E g v W j m)=>fU C hW pI (by decide) R;obtain⟨y,HY⟩: ∃y,PN (rd E 2 d ex0 (all.drop (j+1)) m=y):=⟨_,rfl⟩
    obtain⟨z,HZ⟩: ∃z,PN (dm y (fun t r n=>dE E ⟨6,0,0,[],[e,t]⟩ r n)=z):=⟨_,rfl⟩
    have I:PN (dm z (fun e r n=>rd E 1 d e r n)=X):=by
     show _=_;rw[<-aa,I8,aD R,fA,HY.o,ry,HZ.o]
    have HB:=Jn (rz HZ.o I.o);go_wp2_with fail
   all_goals
    refine(c2 _ B).mono ?_
    rintro e' w3 ⟨rfl,Z,u⟩
    have aw:=hv.kept u (by omega) D
    obtain⟨pv,cv,dv,L,a6⟩:=aw.ex
    have T:=u.at H (by omega)
    have Q:=G.trans u
    have bl:=aH L
    have bm:=aH T
    go_wp2_with fail
    have cF:=fun(W:World) (hW:PSt all E g v W (j+1) m)=>Y (j+1) (by omega) W m d hW aC aj
    simp only[HY.o]at cF
    have a0: ∀k,(w.heap.size+1<=k/\k≠b5)->k≠g:=fun k hk=>by omega
   refine mn (fun ex W=> ∃er at_,ex= .panic (jj er at_)/\X= .error (er,at_)/\bo g w W) (fun ex a W hd ⟨er,at_,h1,h2,Z⟩=>by subst h1;refine⟨hd,?_⟩;rw[h2];exact⟨rfl,Z⟩) (PJ all E g v w w3 b5 j m y z 17 18) [kn 13 (ab g 0),kn 14 (exV e (.slice pv e.kids.length cv)),kn 15 (ab g 0),kn 16 (ag (d:Int)),td 17,td 18,nk] (fun _=>⟨fun _=>bo.of_below (aI _ _).drew,fun _=>Z.below (aI _ _).drew C,(fun h=>by cases h),(fun h=>by cases h),(fun h=>by cases h)⟩) (fun _ M φ W W' _ hb s=>s.below C D (by omega) hb) (by kernel_rfl) (fun _ M φ W _ s ao F l hl Y=> ?_) (fun M φ W hM s=> ?_);rotate_left 2;refine mn (fun ex W=> ∃er at_,ex= .panic (jj er at_)/\X= .error (er,at_)/\bo g w W) (fun ex a W hd ⟨er,at_,h1,h2,Z⟩=>by subst h1;refine⟨hd,?_⟩;rw[h2];exact⟨rfl,Z⟩) (PJ all E g v w w3 b5 j m y z 26 27) [kn 22 (ab g 0),kn 23 (exV e (.slice pv e.kids.length cv)),kn 24 (ab g 0),kn 25 (ag (d:Int)),td 26,td 27,nk] (fun _=>⟨fun _=>bo.of_below (aI _ _).drew,fun _=>Z.below (aI _ _).drew C,(fun h=>by cases h),(fun h=>by cases h),(fun h=>by cases h)⟩) (fun _ M φ W W' _ hb s=>s.below C D (by omega) hb) (by kernel_rfl) (fun _ M φ W _ s ao F l hl Y=> ?_) (fun M φ W hM s=> ?_)
   all_goals first
    |(simp only[kn,td,nk,dW,aQ,aX,Act.put,aA,aK,aJ]at hl
      subst hl
      simp only[cZ,Nat.reduceAdd]at Y
      have an:M 5=false->M 6=false:=fun h5=>by
       cases h:M 6 with
       |false=>rfl
       |true=>rw[ao 6 _ rfl h ⟨5,.data⟩ (by simp) rfl rfl]at h5;cases h5
      dsimp only[kn,td,nk,dB,eN,eg,Act.put]
      and_intros
      all_goals first|exact trivial|intro hw hn hm K hK
      all_goals try (go_simp;with_reducible exact hK _ _ ⟨rfl,aI _ _⟩)
      ·have ad:=(s.kp (an (hn 5 _ rfl (by kernel_rfl)))).at L (by omega)
       refine dU 102 _ rfl _ (by simp[Act.eval,Y]) _ _ _ _ ad fd rfl (by kernel_rfl) ?_
       exact hK _ _ ⟨rfl,aI _ _⟩
      ·have l5:=hn 5 _ rfl (by kernel_rfl)
       have l6:=an l5
       have p:=s.kp l6
       have hW:=s.a hm
       have bc:=p.size
       go_simp
       refine(cF W hW).mono ?_
       intro e' W' ae
       obtain⟨O,⟨er,at_,hy,rfl⟩|⟨x,rfl,hx⟩⟩:=ae.two
       ·exact⟨er,at_,rfl,HB.o.1 _ hy,(Q.trans p).trans O⟩
       ·obtain⟨ex,i4,n4,p4,c4,d4,r1,r2,r3,r4⟩:=hx
        refine hK _ _ ⟨trivial,fun _=>p.trans O,(fun h=>by simp at h),fun _ _=>⟨ex,i4,n4,p4,c4,d4,r1,(dF ..).trans r2,r3.mono fun k hk=>by omega,r4⟩,(fun h=>by simp[l5]at h),(fun h=>by simp[l6]at h)⟩
      ·have l6:=an hm
       have p:=s.kp l6
       have l4:=hw ⟨4,.data⟩ (by simp) rfl rfl
       obtain⟨tx,i4,n4,p4,c4,d4,r1,r2,r3,r4,r5⟩:=s.f l4 hm
       rw[r2]at Y
       have a7:=p.kids a0 a6
       have bc:=p.size
       go_simp
       refine(Bh C r4 r5 (fun k=>w.heap.size+1<=k/\k≠b5) a0 (fun k hk=>by constructor<;>omega) _ e tx _ _ dv d4 a7 r3).mono ?_
       intro e' W' ae
       rw[HB.o.2.1 _ _ _ r1]at ae
       obtain⟨O,⟨er,at_,hy,rfl⟩|⟨x,rfl,hx⟩⟩:=ae.two
       ·exact⟨er,at_,rfl,by rw[<-I.o,hy];rfl,(Q.trans p).trans O⟩
       ·obtain⟨ex,i5,n5,p5,c5,d5,V,q2,q3,q4⟩:=hx
        refine hK _ _ ⟨trivial,fun _=>p.trans O,(fun h=>by simp[l4]at h),(fun _ h=>by simp at h),fun _ _=>⟨ex,i5,n5,p5,c5,d5,V,(dF ..).trans q2,q3,q4⟩,(fun h=>by simp[l6]at h)⟩
      ·have l5:=hw ⟨5,.data⟩ (by simp) rfl rfl
       have l4:M 4=true:=ao 5 _ rfl l5 ⟨4,.data⟩ (by simp) rfl rfl
       have p:=s.kp hm
       obtain⟨ex,i5,n5,p5,c5,d5,V,q2,q3,q4,q5⟩:=s.c l5 hm
       have ad:=p.at L (by omega)
       have az:=p.at T (by omega)
       have ap:=Q.trans p
       rw[q2]at Y
       unfold exV at Y
       refine eG 102 _ _ rfl _ #[ag ex.kind,ag ex.a,ag ex.b,.string ⟨ex.name.toArray⟩,.slice p5 ex.kids.length c5] (by simp[Act.eval,Y]) (by simp[Act.eval,Y]) _ _ ad (by kernel_rfl) (by rfl) (by simp[Value.oneCell']) ?_
       have al:=fun c=>ap.setRow (k:=b5) (by omega) c
       exact hK undef _ ⟨trivial,(fun h=>by simp at h),(fun h=>by simp[l4]at h),(fun _ h=>by simp[l5]at h),(fun _ h=>by simp at h),fun _=>⟨ex,i5,n5,V,⟨p5,c5,d5,aL _ _ _ _ _ _ ad,q3.kept fun k hB _=>aV _ _ _ _ hB.2⟩,h.of_kept C (al _) ((aV _ _ _ _ (by omega)).trans q4.blk) q4.le,q5,al _,(aV _ _ _ _ (by omega)).trans az⟩⟩)
    |(obtain⟨ex,i5,n5,V,bd,h5,aY,ap,az⟩:=s.d (hM 6 (by decide) rfl)
      have HN:PN (rd E 1 d ex (all.drop i5) n5=X):=by show _=_;rw[<-I.o,V];rfl
      have bj:j<i5:=by
       obtain⟨tx,n1,hy⟩:=HB.o.2.2 _ _ _ V;have hl:=lM (by omega) (HY.o.trans hy);have e1:gd 2=1:=rfl;simp only[fo]at hl;have:=h5.le;omega
      simp only[kn,td,nk,eh,aQ,aX,Act.put,aA,aK,aJ]
      go_wp2_with fail
      go_roundw
      case rel=>
       refine⟨ex,i5,n5,HN.o,bd,h5,aY,ap,az,by omega⟩
      case measure=>
       try rw[hp]
       have:=h5.pos
       have:=h5.le
       show all.length-oO g _<_
       omega)
end
section
variable {all:List Tk} {E g:Nat} {v:Value} {w:World} {i n:Nat}
theorem xg (b:PS0 all E g v): ∀(k i:Nat),all.length+1-i<=k->
  RC all E g v 198 6 i/\RC all E g v 174 4 i/\RC all E g v 141 2 i/\RC all E g v 119 0 i
 |0,i,d=>⟨fun _ _ _ h _ _=>absurd h.le (by omega),fun _ _ _ h _ _=>absurd h.le (by omega),fun _ _ _ h _ _=>absurd h.le (by omega),fun _ _ _ h _ _=>absurd h.le (by omega)⟩
 |k+1,i,d=>by
  have c:=fun j (a:i<j)=>xg b k j (by omega);have t:=EH b (fun j a=>(c j a).2.2.2) (fun j a=>(c j a).2.1);have f:=CN b t;have m:=GA b f (fun j a=>(c j a).2.1);exact⟨t,f,m,Jp b m (fun j a=>(c j a).2.2.1)⟩
theorem Lz (a:PS0 all E g v)(i:Nat):RC all E g v 119 0 i:=(xg a _ i (aB _)).2.2.2
end
theorem EI (B:Nat->Prop): ∀(d:Nat) (e:Ex) (sl:Value) (w:World),dy B d w sl e.kids->hgt e<=1000000->
  Calls prog 120 #[exV e sl] w fun r w'=>r= .returned (ag (hgt e:Int))/\aq w w':=by
 intro d;induction d with
 |zero=>
  intro e sl w F hh;obtain⟨s,p,c,rfl⟩:=F;have E:hgt e=1:=(by rw[qp,s];rfl);rw[E];unfold exV;go_enter func120,ntmps120;go_wp2_with fail;refine wp_loop_rounds 1 ?_;rw[rounds_succ];go_wp2_with fail;go_ret;exact⟨rfl,am _ _⟩
 |succ d ih=>
  intro e sl w F hh;rcases F with⟨s,p,c,rfl⟩|⟨g,o,c,hB,rfl,V,l⟩
  ·have E:hgt e=1:=(by rw[qp,s];rfl);rw[E];unfold exV;go_enter func120,ntmps120;go_wp2_with fail;refine wp_loop_rounds 1 ?_;rw[rounds_succ];go_wp2_with fail;go_ret;exact⟨rfl,am _ _⟩
  ·have O:PN (∀(j:Nat) (k:Ex),e.kids[j]? =some k-> ∃L:Value,
    w.cell? (ae g (o+j*5))=some (ag k.kind)/\w.cell? (ae g (o+j*5+1))=some (ag k.a)/\w.cell? (ae g (o+j*5+2))=some (ag k.b)/\
    w.cell? (ae g (o+j*5+3))=some (.string ⟨k.name.toArray⟩)/\w.cell? (ae g (o+j*5+4))=some L/\dy B d w L k.kids):=l
   have N:PN (hgt e=hgtL e.kids+1):=qp e;have P:PN (∀k∈e.kids,hgt k<hgt e):=fun k h=>DD h;have D:aq w (w.alloc (.cells #[ag e.kind,ag e.a,ag e.b,.string ⟨e.name.toArray⟩,.slice (some (ae g o)) e.kids.length c] 102)):=am _ _;unfold exV;clear l;go_enter func120,ntmps120;go_wp2_with fail;go_loopw [3,9] (fun q t wr=> ∃j:Nat,t=ag (j:Int)/\j<=e.kids.length/\q=ag (hgtL (e.kids.take j):Int)/\hgtL (e.kids.take j)<=1000000/\aq w wr) (fun _ t _=>e.kids.length-(intOf t).toNat);case atStart=>exact⟨0,rfl,by omega,rfl,by simp[hgtL],D⟩
   case round=>
    obtain⟨j,rfl,hj,rfl,hm,f⟩:=hrel;have aa:(0:Int)<=(j:Int):=(by omega);by_cases I:j<e.kids.length
    ·have y:(j:Int)<(e.kids.length:Int):=(by omega);obtain⟨k,i⟩: ∃k,e.kids[j]? =some k:=⟨e.kids[j],az I⟩
     obtain⟨L,c0,c1,R,S,T,n⟩:=O.o j k i;have G:=P.o k (aM i)
     have X:e.kids.take (j+1)=e.kids.take j++[k]:=by
      obtain⟨Z,h2⟩:=aG.1 i;rw[List.take_succ_eq_append_getElem Z,h2]
     have W:hgtL (e.kids.take (j+1))=max (hgtL (e.kids.take j)) (hgt k):=(by rw[X,GC]);obtain⟨A,u,rfl⟩:=n.form;have d0:=aj f c0;have d1:=aj f c1;have d2:=aj f R;have d3:=aj f S;have d4:=aj f T;have m:=f.alloc f.size (.cells #[ag k.kind,ag k.a,ag k.b,.string ⟨k.name.toArray⟩,.slice A k.kids.length u] 102);have C:=ih k (.slice A k.kids.length u) (wr.alloc (.cells #[ag k.kind,ag k.a,ag k.b,.string ⟨k.name.toArray⟩,.slice A k.kids.length u] 102)) (n.kept fun q _ hq=>m.block q hq) (by omega);have z:=aE wr (.cells #[ag k.kind,ag k.a,ag k.b,.string ⟨k.name.toArray⟩,.slice A k.kids.length u] 102);unfold exV at C;have Q:PN (hgtL (e.kids.take (j+1))=max (hgtL (e.kids.take j)) (hgt k)):=W;have ab:(hgt k:Int)<=1000000:=(by omega);have J:(hgtL (e.kids.take j):Int)<=1000000:=(by omega);generalize hgt k=H at*;generalize hgtL (e.kids.take j)=M at*;clear W X n c0 c1 R S T i G;generalize K:wr.alloc (.cells #[ag k.kind,ag k.a,ag k.b,.string ⟨k.name.toArray⟩,.slice A k.kids.length u] 102)=wB at*;go_wp2_with(refine aR rfl 102 _ rfl _ rfl _ _ _ _ z fd rfl (by kernel_rfl) ?_)
     refine C.mono ?_;rintro e' w2 ⟨rfl,v⟩;have x:=aw m v;clear C v m K z;go_wp2_with fail;go_roundw;case rel=>exact⟨j+1,by go_num,by omega,by rw[Q.o];exact Gc (by omega),by rw[Q.o];omega,x⟩
     case measure=>simp[intOf];omega
    ·have U:j=e.kids.length:=(by omega);have y: ¬(j:Int)<(e.kids.length:Int):=(by omega)
     have Y:PN (hgt e=hgtL (e.kids.take j)+1):=by
      show _=_;rw[N.o,U,gc]
     have J:(hgtL (e.kids.take j):Int)<=1000000:=(by omega);generalize hgtL (e.kids.take j)=M at*;clear N O P U;go_wp2_with fail;go_ret;exact⟨by rw[Y.o];rfl,f⟩
section
variable {all:List Tk} {E g:Nat} {v:Value} {w:World} {i n:Nat}
def ruV (u:Ru)(sl:Value):Value:= .agg #[.string ⟨u.1.toArray⟩,ag u.2.kind,ag u.2.a,ag u.2.b,.string ⟨u.2.name.toArray⟩,sl]
def Ni (all:List Tk)(E g:Nat)(v:Value)(w:World)(B:Nat->Prop)(x:Except (Int×Nat) (Ru×List Tk))(e:Ending)(w':World):Prop:=
 match x with
 | .error (er,at_)=>e= .panicked (jj er at_)/\bo g w w'
 | .ok (u,r)=> ∃(i m:Nat) (sl:Value) (d:Nat),r=all.drop i/\e= .returned (ruV u sl)/\dy B d w' sl u.2.kids/\PSt all E g v w' i m/\m<=600/\bo g w w'
def Pj:Array Value:= #[.string ⟨#[]⟩,ag 0,ag 0,ag 0,.string ⟨#[]⟩,af]
theorem Bk:prog.underlying 104=some (.struct (prog.fieldsOf 104)):=by kernel_rfl
theorem Nj {i:Func}(s:Nat)(h:i.results= #[ResultVar.cell s 104]){R:Ending->World->Prop}{a:Act}{w:World}(g:Nat)(c0 c1 b c d e:Value)(l:a.defers=[])(j:a.tmps.getD s undef=ab g 0)
  (m:w.heap[g]? =ah #[c0,c1,b,c,d,e] 104) (k:R (.returned (.agg #[c0,c1,b,c,d,e])) w):bodyPost prog i R .ret a w:=by
 refine aW (v:= .agg #[c0,c1,b,c,d,e]) ?_ l k;have f:a.tmps[s]?.getD undef=ab g 0:=by simpa using j
 have n:=dX (P:=prog) w g 104 104 _ _ _ m Bk rfl (by kernel_rfl);simp[results,h,f,asAddr,n]
theorem Jq (j:PS0 all E g v)(h:PSt all E g v w i n):
  Calls prog 85 #[ab g 0] w (Ni all E g v w (fun k=>w.heap.size<=k) (oQ E (all.drop i))):=by
 have av:=aH h.blk;have K:aq w (w.alloc (.cells #[.string ⟨#[]⟩,ag 0,ag 0,ag 0,.string ⟨#[]⟩,af] 104)):=am _ _;have hz:(w.alloc (.cells #[.string ⟨#[]⟩,ag 0,ag 0,ag 0,.string ⟨#[]⟩,af] 104)).heap[w.heap.size]? =ah Pj 104:=aE w _;have hA:=h.below K j;have F:=bo.of_below (g:=g) K;generalize A:oQ E (all.drop i)=X;unfold oQ at A;simp only[fA]at A;generalize au:w.alloc (.cells #[.string ⟨#[]⟩,ag 0,ag 0,ag 0,.string ⟨#[]⟩,af] 104)=wA at*;by_cases l:kindP (all.drop i)=1
 ·rw[ax (by simp[l])]at A;have c1:=qh j hA 1 (by decide) l;unfold kb at c1;by_cases R:isT wIs (all.drop (i+1))=true
  ·rw[aD R]at A;have c2:=fun(s:World) (z:PSt all E g v s (i+1) n)=>oh j z wIs (by decide) R;have c3: ∀(s:World),PSt all E g v s (i+1+1) 0->Calls prog 119 #[ab g 0,ag 1] s (jw all E g v s (fun k=>s.heap.size<=k) (rd E 0 1 ex0 (all.drop (i+1+1)) 0)):=fun s z=>Lz j (i+1+1) s 0 1 z (by omega) (by omega)
   have HX:PN ((match rd E 0 1 ex0 (all.drop (i+1+1)) 0 with
    | .error q=>Except.error q
    | .ok (e,q,_)=>if 40<hgt e then .error (4,atP E q) else if isT sb q then .ok ((textP (all.drop i),e),q.tail) else .error (2,atP E q))=X):=A
   generalize kindP (all.drop i)=t0 at*;generalize numP (all.drop i)=t1 at*;generalize (atP E (all.drop i):Int)=t2 at*;generalize textP (all.drop i)=nm at*;clear R l A;go_enter func85,ntmps85;go_wp2_with fail;refine c1.mono ?_;rintro e s ⟨rfl,z,p⟩;go_wp2_with fail;refine(c2 _ z).mono ?_;rintro e w2 ⟨rfl,h2,D⟩;have k3:=ak 3 h2.blk;have y3:=bl _ _ 3 _ _ h2.blk;have h3:PSt all E g v (w2.setCell ⟨g,3,none⟩ (ag 0)) (i+1+1) 0:=h2.setN j 0;have M:=(p.trans D).trans (bo.set w2 g 3 (ag 0));have O:=M.at hz (by omega);have x:=F.trans M;have aw:=aH O;clear c1 c2 z p D M hA F K au hz;go_wp2_with fail;refine(c3 _ h3).mono ?_;intro e w4 ho;clear c3 k3 y3;cases hx:rd E 0 1 ex0 (all.drop (i+1+1)) 0 with
   |error q=>
    obtain⟨er,at_⟩:=q;have c:=HX.o;rw[hx]at ho c;obtain⟨rfl,r⟩:=ho;refine⟨rfl,?_⟩;rw[<-c];exact⟨rfl,x.trans r⟩
   |ok q=>
    obtain⟨ex,rr,nn⟩:=q;have hh:=Nh hx;have c:=HX.o;rw[hx]at ho c;obtain⟨B,sl,dd,ap,rfl,N,h4,ao,r⟩:=ho;subst ap;obtain⟨T,Q,rfl⟩:=N.form;dsimp only at c;have az:=r.size;have ac:=r.at O (by omega);have t:aq w4 (w4.alloc (.cells #[ag ex.kind,ag ex.a,ag ex.b,.string ⟨ex.name.toArray⟩,.slice T ex.kids.length Q] 102)):=am _ _;have h5:=h4.below t j;have L:=aE w4 (.cells #[ag ex.kind,ag ex.a,ag ex.b,.string ⟨ex.name.toArray⟩,.slice T ex.kids.length Q] 102);have ad:=ai t ac;have J:=(x.trans r).trans (bo.of_below t);have u:dy (fun k=>w.heap.size+1<=k) dd (w4.alloc (.cells #[ag ex.kind,ag ex.a,ag ex.b,.string ⟨ex.name.toArray⟩,.slice T ex.kids.length Q] 102)) (.slice T ex.kids.length Q) ex.kids:=(bo.of_below (g:=g) t).kids (fun k Y=>by omega) (N.mono fun k Y=>by omega);have c6:=EI _ dd ex _ _ u (by omega);unfold exV at c6⊢;have C:PN ((if 40<hgt ex then Except.error (4,atP E (all.drop B)) else if isT sb (all.drop B) then .ok ((nm,ex),(all.drop B).tail) else .error (2,atP E (all.drop B)))=X):=c;clear N h3 h4 r t hx c HX O ac x;generalize ar:w4.alloc (.cells #[ag ex.kind,ag ex.a,ag ex.b,.string ⟨ex.name.toArray⟩,.slice T ex.kids.length Q] 102)=w5 at*;go_wp2_with(refine aR rfl 102 _ rfl _ rfl _ _ _ _ L fd rfl (by kernel_rfl) ?_)
    refine c6.mono ?_;rintro e w6 ⟨rfl,m⟩;have h6:=h5.below m j;have W:=ai m L;have ae:=ai m ad;have f:=J.trans (bo.of_below m);have G:=(bo.of_below (g:=g) m).kids (fun k Y=>by omega) u;clear c6 m h5 L ad J u ar;by_cases U:40<hgt ex
    ·have V:(40:Int)<(hgt ex:Int):=(by omega);have c:=C.o;rw[aD U]at c;have P:PN (X= .error (4,atP E (all.drop B))):=c.symm;generalize hgt ex=H at*;clear c C;go_wp2_with fail;refine(lh j h6 4).mono ?_;rintro e w7 ⟨rfl,al⟩;refine⟨rfl,?_⟩;rw[P.o];exact⟨rfl,f.trans (bo.of_below al)⟩
    ·have V: ¬(40:Int)<(hgt ex:Int):=(by omega);have c:=C.o;rw[ax U]at c;generalize hgt ex=H at*;clear C;by_cases S:isT sb (all.drop B)=true
     ·rw[aD S,fA]at c;have c7:=oh j h6 sb (by decide) S;have P:PN (X= .ok ((nm,ex),all.drop (B+1))):=c.symm;clear c S;go_wp2_with fail;refine c7.mono ?_;rintro e w7 ⟨rfl,h7,d⟩;have an:=d.at W (by omega);have aj:=d.at ae (by omega);have y:=f.trans d;have I:=d.kids (fun k Y=>by omega) G
      have HO:PN (∀cs,Ni all E g v w (fun k=>w.heap.size<=k) X (.returned (ruV (nm,ex) (.slice T ex.kids.length Q))) (w7.setRow w.heap.size cs)):=fun cs=>by
       rw[P.o];exact⟨B+1,nn,_,dd,rfl,rfl,(I.kept fun k Y _=>aV _ _ _ _ (by omega)).mono fun k Y=>by omega,h.of_kept j (y.setRow (aB _) cs) ((aV _ _ _ _ (by omega)).trans h7.blk) h7.le,ao,y.setRow (aB _) cs⟩
      unfold ruV at HO;clear c7 h6 h7 d f y G I W ae P
      go_wp2_with(first
       |(refine aR rfl 102 _ rfl _ rfl _ _ _ _ an fd rfl (by kernel_rfl) ?_)
       |(refine ay rfl 104 _ _ rfl _ _ rfl rfl _ _ aj (by kernel_rfl) (by rfl) (by simp[Value.oneCell']) ?_))
      exact Nj 2 (by kernel_rfl) w.heap.size _ _ _ _ _ _ rfl rfl (aL _ _ _ _ _ _ aj) (HO.o _)
     ·have aa:isT sb (all.drop B)=false:=(by simpa using S);rw[ax S]at c;have c7:=pU j h6 sb aa;have P:PN (X= .error (2,atP E (all.drop B))):=c.symm;clear c S aa;go_wp2_with fail;refine c7.mono ?_;rintro e w7 ⟨rfl,d⟩;refine⟨rfl,?_⟩;rw[P.o];exact⟨rfl,f.trans d⟩
  ·have Z:isT wIs (all.drop (i+1))=false:=(by simpa using R);rw[ax R]at A;have c2:=fun(s:World) (z:PSt all E g v s (i+1) n)=>pU j z wIs Z;subst A;clear R Z l;go_enter func85,ntmps85;go_wp2_with fail;refine c1.mono ?_;rintro e s ⟨rfl,z,p⟩;go_wp2_with fail;refine(c2 _ z).mono ?_;rintro e w2 ⟨rfl,D⟩;exact⟨rfl,rfl,(F.trans p).trans D⟩
 ·rw[aD l]at A;have c1:=yA j hA 1 l;subst A;go_enter func85,ntmps85;go_wp2_with fail;refine c1.mono ?_;rintro e s ⟨rfl,p⟩;exact⟨rfl,rfl,F.trans p⟩
end
section
variable {all:List Tk} {E g:Nat} {v:Value} {w:World} {i n:Nat}
def lj:List (Ru×Value)->List Value
 |[]=>[]
 |p::l=> .string ⟨p.1.1.toArray⟩::ag p.1.2.kind::ag p.1.2.a::ag p.1.2.b:: .string ⟨p.1.2.name.toArray⟩::p.2::lj l
theorem xh (p:Ru×Value): ∀l:List (Ru×Value),lj (l++[p])=lj l++[.string ⟨p.1.1.toArray⟩,ag p.1.2.kind,ag p.1.2.a,ag p.1.2.b,.string ⟨p.1.2.name.toArray⟩,p.2]
 |[]=>rfl
 |q::l=>by simp[lj,xh p l]
theorem Jr:(prog.info? 104).map (fun i=>(i.zero,i.size,i.bytes))=some (some (.agg #[.string ⟨#[]⟩,ag 0,ag 0,ag 0,.string ⟨#[]⟩,af]),6,80):=by kernel_rfl
theorem GD:prog.underlying 32=some (.slice 104):=by kernel_rfl
structure mB (w0 w:World)(v:Value)(us:List (Ru×Value)):Prop where
 own:w.ownsRow w0.heap.size 104 6 v us.length (lj us)
 kids: ∀p∈us,∃d,dy (fun k=>w0.heap.size<=k) d w p.2 p.1.2.kids
def Pk (g:Nat)(w:World)(x:Except (Int×Nat) (List Ru))(e:Ending)(w':World):Prop:=
 match x with
 | .error (er,at_)=>e= .panicked (jj er at_)/\bo g w w'
 | .ok rs=> ∃(b:Value) (a:List (Ru×Value)),e= .returned b/\a.map (·.1)=rs/\mB w w' b a/\a.length<=40/\bo g w w'
theorem GF {E:Nat}{r q:List Tk}{u:Ru}(h:oQ E r= .ok (u,q)):q.length<r.length:=by
 unfold oQ at h;split at h
 ·cases h
 ·rename_i d;have a:=pJ (r:=r) (by omega);split at h
  ·split at h
   ·cases h
   ·rename_i e g f c;have b:=lM (by omega) c;split at h
    ·cases h
    ·split at h
     ·cases h;simp only[List.length_tail]at b⊢;omega
     ·cases h
  ·cases h
theorem mB.kept {b w w':World}{f:Value}{c:List (Ru×Value)}(h:mB b w f c)(a:bo g w w')(l:g<b.heap.size):mB b w' f c:=by
 refine⟨h.own.kept a (.inr fun e=> ?_),fun p j=> ?_⟩
 ·have:=(h.own.lt g e).1;omega
 ·obtain⟨d,i⟩:=h.kids p j;exact⟨d,a.kids (fun k a=>by omega) i⟩
theorem xi {f w w':World}{j:Value}{xs:List Value}{m:Nat}{i:List Ex}{sl:Value}{d:Nat}(p:w.ownsRow f.heap.size 104 6 j m xs)(g:w.grownBy w' j.ownBlock)(h:dy (fun k=>f.heap.size<=k) d w sl i):dy (fun k=>f.heap.size<=k) d w' sl i:=by
 obtain⟨_,n⟩:=p;rcases n with⟨rfl,_⟩|⟨b,cap,l,rfl,_,o,_⟩
 ·exact h.kept fun k _ c=>g.block k c (fun e=>by cases e)
 ·refine((h.other o (by decide)).kept fun k a c=>g.block k c (fun e=>a.2 (aN e))).mono fun k a=>a.1
theorem CO {E f:Nat}{a:List Ru}{r:List Tk}(h:r.length≠0):iT E (f+1) a r=if isT uw r then(if a.length=40 then .error (5,atP E r.tail) else match oQ E r.tail with| .error q=> .error q| .ok (u,q)=>iT E f (a++[u]) q) else .error (2,atP E r):=by
 rw[iT,ax h];rfl
theorem EJ {E f:Nat}{a:List Ru}{r:List Tk}(h:r.length=0):iT E f a r= .ok a:=by
 cases f with
 |zero=>rfl
 |succ f=>rw[iT,aD h]
theorem GG (M:PS0 all E g v)(h:PSt all E g v w i n):
  Calls prog 58 #[ab g 0] w (Pk g w (iT E ((all.drop i).length+1) [] (all.drop i))):=by
 have G:=aH h.blk;obtain⟨i0,hi,a2,a3,a4⟩:=jp Jr;have a5:=M.len;generalize hX:iT E ((all.drop i).length+1) [] (all.drop i)=X;have HX:PN (iT E ((all.drop i).length+1) [] (all.drop i)=X):=hX;go_enter func58,ntmps58;go_wp2_with fail;go_loopw [3] (fun q wr=> ∃(y:List (Ru×Value)) (f j m:Nat),iT E f (y.map (·.1)) (all.drop j)=X/\(all.drop j).length<f/\y.length<=40/\mB w wr q y/\PSt all E g v wr j m/\bo g w wr) (fun _ wr=>all.length-oO g wr);case atStart=>exact⟨[],_,i,n,HX.o,by omega,by simp,⟨dc _ _ _ _,fun p L=>by cases L⟩,h,bo.refl _ _⟩
 case round=>
  obtain⟨y,f,j,m,ar,hf,ao,P,C,ai⟩:=hrel;have L:=C.pos;have k0:=ak 0 C.blk;have k1:=ak 1 C.blk;obtain⟨pv,cv,ev⟩:=ru.form C.row;have a7:=C.le;have ac:PN (iT E f (y.map (·.1)) (all.drop j)=X):=ar;have HV:PN (v= .slice pv all.length cv):=ev;rw[ev]at k0;by_cases a8:j<all.length
  ·have al:(j:Int)<(all.length:Int):=(by omega);go_wp2_with fail;go_quiet (fail);have A:aq wr (wr.drewN nq):=dD (aI _ _) nq;have Q:=C.below A M;have z:=ai.trans (bo.of_below A);have r:=P.kept (bo.of_below (g:=g) A) G;generalize wr.drewN nq=w1 at*;obtain⟨f,rfl⟩: ∃f',f=f'+1:=⟨f-1,by omega⟩
   have c:=ac.o;rw[CO (by simp;omega),fA]at c;by_cases hR:isT uw (all.drop j)=true
   ·rw[aD hR]at c;have Z:=oh M Q uw (by decide) hR;by_cases hm:y.length=40
    ·rw[aD (by simpa using hm)]at c;have HE:PN (X= .error (5,atP E (all.drop (j+1)))):=c.symm;obtain⟨pq,cq,rfl⟩:=df r.own;have aw:((y.length:Int)==40)=true:=(by rw[hm];rfl);go_wp2_with fail;refine Z.mono ?_;rintro e w2 ⟨rfl,h2,B⟩;go_wp2_with fail;refine(lh M h2 5).mono ?_;rintro e Y ⟨rfl,au⟩;refine⟨rfl,?_⟩;rw[HE.o];exact⟨rfl,(z.trans B).trans (bo.of_below au)⟩
    ·rw[ax (by simpa using hm)]at c;have aw:((y.length:Int)==40)=false:=bj.2 (by omega);have a6:=og (by decide) hR;have aa:PN ((match oQ E (all.drop (j+1)) with| .error q=> .error q| .ok (u,q)=>iT E f (y.map (·.1)++[u]) q)=X):=c;have cR:=fun(W:World) (hW:PSt all E g v W (j+1) m)=>Jq M hW;have S:=r.own;obtain⟨pq,cq,eq⟩:=df S;have HQ:PN (u3= .slice pq y.length cq):=eq;subst eq;go_wp2_with fail;refine Z.mono ?_;rintro e w2 ⟨rfl,h2,B⟩;have H:=z.trans B;have T:=r.kept B G;go_wp2_with fail;refine(cR _ h2).mono ?_;intro e Y ho;cases hx:oQ E (all.drop (j+1)) with
     |error q=>
      obtain⟨er,at_⟩:=q;have c:=aa.o;rw[hx]at ho c;obtain⟨rfl,K⟩:=ho;refine⟨rfl,?_⟩;rw[<-c];exact⟨rfl,H.trans K⟩
     |ok q=>
      obtain⟨u,rr⟩:=q;have an:=GF hx;have c:=aa.o;rw[hx]at ho c;obtain⟨i3,m3,sl,d3,a0,rfl,ae,h3,a9,K⟩:=ho;subst a0;obtain⟨I,F,rfl⟩:=ae.form;have U:=T.kept K G;have N:=H.trans K;have aA:=H.size;have aB:=N.size
      have HN:PN (iT E f ((y++[(u,Value.slice I u.2.kids.length F)]).map (fun p=>p.1)) (all.drop i3)=X):=by
       show _=_;rw[dN];exact c
      have J:aq Y (Y.alloc (.cells #[.string ⟨u.1.toArray⟩,ag u.2.kind,ag u.2.a,ag u.2.b,.string ⟨u.2.name.toArray⟩,.slice I u.2.kids.length F] 104)):=am _ _;have s:=U.kept (bo.of_below (g:=g) J) G;have h4:=h3.below J M;have t:=N.trans (bo.of_below J);have ah:dy (fun k=>w.heap.size<=k) d3 (Y.alloc (.cells #[.string ⟨u.1.toArray⟩,ag u.2.kind,ag u.2.a,ag u.2.b,.string ⟨u.2.name.toArray⟩,.slice I u.2.kids.length F] 104)) (.slice I u.2.kids.length F) u.2.kids:=(bo.of_below (g:=g) J).kids (fun k hk=>by omega) (ae.mono fun k hk=>by omega);have D:=aE Y (.cells #[.string ⟨u.1.toArray⟩,ag u.2.kind,ag u.2.a,ag u.2.b,.string ⟨u.2.name.toArray⟩,.slice I u.2.kids.length F] 104);have a1:=t.size;unfold ruV;generalize aC:Y.alloc (.cells #[.string ⟨u.1.toArray⟩,ag u.2.kind,ag u.2.a,ag u.2.b,.string ⟨u.2.name.toArray⟩,.slice I u.2.kids.length F] 104)=w4 at*;go_wp2_with(at_builtin;refine iZ _ rfl _ _ 32 rfl w.heap.size 104 i0 (.agg #[.string ⟨#[]⟩,ag 0,ag 0,ag 0,.string ⟨#[]⟩,af]) 6 80 GD hi a2 a3 a4 rfl (by decide) (.slice pq y.length cq) y.length (lj y) rfl s.own ⟨Y.heap.size,0,none⟩ 1 1 [.string ⟨u.1.toArray⟩,ag u.2.kind,ag u.2.a,ag u.2.b,.string ⟨u.2.name.toArray⟩,.slice I u.2.kids.length F] rfl rfl ?c1 ?Z ?F ?c4 ?c5 ?_)
      case c1=>
       intro j u' x;match j,x with
       |0,x=>simp at x;subst x;exact(aZ _ _ _ _ _ _ D).trans rfl
       |1,x=>simp at x;subst x;exact(aZ _ _ _ _ _ _ D).trans rfl
       |2,x=>simp at x;subst x;exact(aZ _ _ _ _ _ _ D).trans rfl
       |3,x=>simp at x;subst x;exact(aZ _ _ _ _ _ _ D).trans rfl
       |4,x=>simp at x;subst x;exact(aZ _ _ _ _ _ _ D).trans rfl
       |5,x=>simp at x;subst x;exact(aZ _ _ _ _ _ _ D).trans rfl
      case Z=>intro u hu;simp at hu;rcases hu with rfl|rfl|rfl|rfl|rfl|rfl<;>rfl
      case F=>unfold maxLen;omega
      case c4=>omega
      case c5=>exact a1
      intro v' w5 R l _;have aj:=s.own.lt;have ad: ∀b,(Value.slice pq y.length cq).ownBlock=some b->b≠g:=fun b hb=>(by have:=(aj b hb).1;omega);have O:bo g w w5:=⟨l.os.trans t.os,l.tape.trans t.tape,l.output.trans t.output,bf t.size l.size,fun k hk az=>(l.block k (by omega) (fun e=>by have:=(aj k e.symm).1;omega)).trans (t.block k hk az)⟩
      have h5:PSt all E g v w5 i3 m3:=h.of_kept M O ((l.block g (aH h4.blk) (fun e=>ad g e.symm rfl)).trans h4.blk) h4.le
      have V:mB w w5 v' (y++[(u,.slice I u.2.kids.length F)]):=by
       refine⟨?_,fun p L=> ?_⟩
       ·rw[xh];simp only[aP,bJ,gK,bN];exact R
       ·rcases bU.1 L with L|L
        ·obtain⟨d,hd⟩:=s.kids p L;exact⟨d,xi s.own l hd⟩
        ·have e:p=(u,.slice I u.2.kids.length F):=(by simpa using L);subst e;exact⟨d3,xi s.own l ah⟩
      have ay:(y++[(u,Value.slice I u.2.kids.length F)]).length<=40:=(by simp;omega)
      have av:(all.drop i3).length<f:=by
       simp only[fo]at an hf⊢;omega
      go_wp2_with fail;go_roundw;case rel=>exact⟨_,f,i3,m3,HN.o,av,ay,V,h5,O⟩
      case measure=>
       rw[L];have:=h5.pos;have:=h5.le;show all.length-oO g _<_;simp only[fo]at an;omega
   ·have ap:isT uw (all.drop j)=false:=(by simpa using hR);rw[ax hR]at c;have HE:PN (X= .error (2,atP E (all.drop j))):=c.symm;have Z:=pU M Q uw ap;go_wp2_with fail;refine Z.mono ?_;rintro e w2 ⟨rfl,B⟩;refine⟨rfl,?_⟩;rw[HE.o];exact⟨rfl,z.trans B⟩
  ·have al: ¬(j:Int)<(all.length:Int):=(by omega);have c:=ac.o;rw[EJ (by simp;omega)]at c;have HE:PN (X= .ok (y.map (·.1))):=c.symm;go_wp2_with fail;go_quiet (fail);have A:aq wr (wr.drewN nq):=dD (aI _ _) nq;have z:=ai.trans (bo.of_below A);have r:=P.kept (bo.of_below (g:=g) A) G;go_wp2_with fail;go_ret;rw[HE.o];exact⟨_,y,rfl,rfl,r,ao,z⟩
end
section
theorem EK (p q:Option Addr)(w:World):
  CallsD prog 57 #[.pointer p,.pointer q] .returning w fun e c w'=>e= .returned (.tuple #[])/\c= .returning/\w'=w:=by
 refine callsD_of_wpS func57 rfl fun a d b=> ?_;apply wpS_seq;apply wpS_region;simp[wpOpsS,go_sem,recoverD,b,ntmps57,Exit.thenS];refine wpS_of_wp ?_;change Code.wp _ _ _ {tmps:= #[.pointer p,.pointer q,.nilIface,.nilIface,undef,undef,undef,undef,undef],defers:=[]} w;go_wp2_with fail;cases a;simp_all [bodyPostS,results,results57]
theorem Bm (c0 c1:Value)(w:World):(Instr.typeAssert (.iface 124 (.agg #[c0,c1])) 20 124 false).run prog w= .ok (.agg #[c0,c1]) w:=by
 unfold Instr.typeAssert;simp[go_sem]
theorem CP (c0 c1:Value)(w:World):(Instr.field 124 (.agg #[c0,c1]) 0).run prog w= .ok (.agg #[c0,c1]) w:=by
 unfold Instr.field;simp[go_sem,asAgg]
attribute [local go_sem] Bm CP
def qq (p q:Nat)(er at_:Int)(w:World):World:=((w.setCell ⟨p,0,none⟩ (af)).setCell ⟨q,0,none⟩ (ag er)).setCell ⟨q,1,none⟩ (ag at_)
theorem Bn (p q:Nat)(d:p≠q)(c0 c1 c:Value)(er at_:Int)(w:World)(b:w.heap[p]? =ah #[c0] 32)(a:w.heap[q]? =ah #[c1,c] 93):
  CallsD prog 57 #[ab p 0,ab q 0] (.panicking [{v:= .iface 124 (.agg #[ag er,ag at_]),recovered:=false}]) w fun e j w'=>
   e= .returned (.tuple #[])/\j= .panicking [{v:= .iface 124 (.agg #[ag er,ag at_]),recovered:=true}]/\ ∃k,w'=(qq p q er at_ w).drewN k:=by
 have kp:=ak 0 b;have g:=ak 0 a;have i:=ak 1 a;have r:=bl _ _ 0 _ _ b;have l:=bl _ _ 0 _ _ a;have m:=bl _ _ 1 _ _ a;refine callsD_of_wpS func57 rfl fun o n f=> ?_;apply wpS_seq;apply wpS_region;simp[wpOpsS,go_sem,recoverD,f,ntmps57,Exit.thenS];refine wpS_of_wp ?_;change Code.wp _ _ _ {tmps:= #[ab p 0,ab q 0,.iface 124 (.agg #[ag er,ag at_]),.iface 124 (.agg #[ag er,ag at_]),undef,undef,undef,undef,undef],defers:=[]} w;go_wp2_with fail;go_region;show bodyPostS _ _ _ _ _ _ _ _ _;simp[bodyPostS,results,results57];exact⟨1,rfl⟩
end
end Go.Proofs.YtaoljfdfhggbbaaGreatDoor
