/- Texts of the proof. -/
import Derived.Test.YtlkehieagdkgiaaGreatDoorPe09
set_option maxRecDepth 100000
set_option maxHeartbeats 8000000
namespace Go.Proofs.YtlkehieagdkgiaaGreatDoor
open Go.Proofs.Tryz Go.RowKit Lx Vx Mx Msk
theorem IQ (x:List Cd)(l:List Kp)(cv lv:Value)(runs z a day:Int)(w:World)(h:eD 0 w cv l)(hl:l.length<=676622540150)(ar:InV w lv x)(m:mg l z a day=false)(G:(jh x a day).1≠0):
  Calls prog 137 #[.agg #[cv,ag runs],lv,ag z,ag a,ag day] w (zY (fun _=>false) [] 0 (jh x a day).1 ((jh x a day).2:Int) w):=by
 obtain⟨i,F⟩:=au (fQ a day l 0);have ap:=sS a day l 0;rw[F]at ap;have aU:i<l.length:=by omega
 have aB:i<=676622540150:=by omega
 have aC: -1<=i:=by omega
 have hz:=eR;obtain⟨wA,bb,bA,n5,n8,n9,a4,a5,a6⟩:=CJ cv runs a day w;have c1:=ux l cv (w.heap.size+1) (w.heap.size+2) a day wA (h.later bA) n8 n9;rw[F]at c1;have z5:=ak 0 n5;obtain⟨er,S⟩:=au ((jh x a day).1);obtain⟨at_,Q⟩: ∃q:Int,((jh x a day).2:Int)=q:=⟨_,rfl⟩
 obtain⟨f,hf⟩:=au (oZ x a day);obtain⟨sn,a2⟩: ∃q:Int,(xl x a day:Int)=q:=⟨_,rfl⟩
 have O:Rb (∀W,aq w W->Calls prog 165 #[lv,ag a,ag day] W (F9 f sn er at_ W)):=fun W hW=>by
  have:=CE x lv a day W (ar.below hW);rw[S,Q,hf,a2]at this;exact this
 rw[S]at G⊢;rw[Q];have aM:(er==0)=false:=bm.2 G;have aN:(er !=0)=true:=by simpa using G
 have HK:=ba h;obtain⟨p,c,rfl,aX,ao,_⟩:=h;have HB:=ba bA;have aY:c<=9223372036854775807:=by unfold maxLen at ao;omega
 have ax: ∀k,l[i.toNat]? =some k->0<=i->k.v≠z:=fun k hk E e=>by
  have:l.getD i.toNat k0=k:=(by simp[List.getD,hk]);unfold mg at m;rw[F,this,Bool.and_eq_false_iff,decide_eq_false_iff_not,decide_eq_false_iff_not]at m;rcases m with q|q
  ·exact q E
  ·exact q e
 have ad:=ba ax;go_enter func137,ntmps137;go_wp2_with fail;refine c1.mono ?_;rintro e w1 ⟨rfl,b1⟩;have A:=ba (aw HB.o b1);have H:=ai b1 n5;have I:=ai b1 n8;have J:=ai b1 n9;have s:=ai b1 a4;have t:=ai b1 a5;have r:=ai b1 a6;have bh:=ak 0 H;have bi:=ak 0 I;have bj:=ak 0 J;have c2:=O.o w1 A.o;by_cases E:0<=i
 case' pos=>
  obtain⟨n,rfl⟩: ∃n:Nat,i=(n:Int):=⟨i.toNat,by omega⟩
  obtain⟨k,hk⟩: ∃k,l[n]? =some k:=⟨l[n]'(by omega),ay (by omega)⟩
  have av:=ad.o k hk E;obtain⟨g,o,a0,a1⟩:=HK.o.at hk;have a9:=lL a1 A.o;have y2:w1.cell? (ae g (o+n*26+2))=some (ag k.v):=a9 2 _ (by rw[bx];exact KV k);have a3:(k.v==z)=false:=bm.2 av;have aZ:(n:Int)<(l.length:Int):=(by omega);subst a0;obtain⟨kv9,U⟩:=au k.v;rw[U]at y2 a3;go_wp2_with fail;generalize (n:Int)=i at*;generalize (some ⟨g,o,none⟩:Option Addr)=p at*
 case' neg=>
  have aS:i<0:=(by omega);go_wp2_with fail
 all_goals
  refine c2.mono ?_
  rintro e j ⟨rfl,b3⟩
  have ab:=ba (aw A.o b3)
  replace H:=ai b3 H
  replace I:=ai b3 I
  replace J:=ai b3 J
  replace s:=ai b3 s
  replace t:=ai b3 t
  replace r:=ai b3 r
  have bX:aq j ((j.alloc (.cells (mv fun _=>false) 55)).alloc (.cells #[ag 0,ag 0] 48)):=(am _ _).alloc (by simp) _
  have Z:((j.alloc (.cells (mv fun _=>false) 55)).alloc (.cells #[ag 0,ag 0] 48)).heap[j.heap.size]? =ah (mv fun _=>false) 55:=by(repeat (first|refine dt _ _ _ (by simp only[aV];omega) ?_|exact dJ _ _ _ (by first|rfl|simp only[aV])))
  have a7:((j.alloc (.cells (mv fun _=>false) 55)).alloc (.cells #[ag 0,ag 0] 48)).heap[j.heap.size+1]? =ah #[ag 0,ag 0] 48:=by(repeat (first|refine dt _ _ _ (by simp only[aV];omega) ?_|exact dJ _ _ _ (by first|rfl|simp only[aV])))
  generalize bc:(j.alloc (.cells (mv fun _=>false) 55)).alloc (.cells #[ag 0,ag 0] 48)=wX at*
  have a8:=aL _ _ _ (mv f) _ _ Z
  have aa:=(aW wX j.heap.size (j.heap.size+1) (mv f) (by omega)).trans a7
  have bY:=below_setRow bX (aD _) (mv f)
  generalize bd:wX.setRow j.heap.size (mv f)=wY at*
  have bf:=(aW wY (j.heap.size+1) j.heap.size #[ag er,ag at_] (by omega)).trans a8
  have u:=aL _ _ _ #[ag er,ag at_] _ _ aa
  have C:=below_setRow bY (by omega:j.heap.size<=j.heap.size+1) #[ag er,ag at_]
  generalize be:wY.setRow (j.heap.size+1) #[ag er,ag at_]=w4 at*
  have aP:w.heap.size+5<j.heap.size:=aI r
  replace H:=ai C H
  replace I:=ai C I
  replace J:=ai C J
  replace s:=ai C s
  replace t:=ai C t
  replace r:=ai C r
  have bg:=ak 0 u
  have z8:=ak 0 I
  have z9:=ak 0 J
  have ac:=ba (aw ab.o C)
  go_wp2_with(first
   |(refine az rfl 55 _ _ rfl _ _ rfl rfl _ _ Z (bl _) (by simp[di]) (dW _) ?_)
   |(refine az rfl 48 _ _ rfl _ _ rfl rfl _ _ aa (by kernel_rfl) (by simp) (by simp[Value.oneCell']) ?_))
  have B:=ac
  obtain⟨N,Y⟩:=au w4
  obtain⟨y,D⟩:=au (j.heap.size+1)
  rw[Y]
  rw[Y]at H s t r u B
  simp only[D]at u⊢
  have T:y<N.heap.size:=aI u
  have aR:w.heap.size+5<y:=by omega
  refine dl (fun M φ W=>GJ w N (w.heap.size+3) N.heap.size (fun _=>false) [] 0 er at_ 3 4 5 M W/\GT N.heap.size [] [] 0 1000 1001 1002 1000 1000 1000 M φ W) [kn 62 (.agg (mv fun _=>false)),kn 63 (.agg #[af,ag 0]),kn 64 (.agg #[ag er,ag at_]),nk,nk,nk] (fun _=>⟨⟨(B.o).trans ((aH N.heap.size N).drew.mono B.o.size),fun _ _ _ _ _=>rfl,aD _,by omega,by omega,fun _=>s,(fun e=>by cases e),fun _=>t,(fun e=>by cases e),fun _=>r,(fun e=>by cases e)⟩,(fun e=>by cases e),(fun e=>by cases e),(fun e=>by cases e)⟩) (fun _ _ _ _ hb h=>⟨h.1.below hb,h.2.mono fun _ _ q=>q.later hb⟩) (by kernel_rfl) (fun M φ W2 b aO FF ll V d=> ?_) (fun M φ W2 hM b=> ?_)
  ·simp only[kn,nk,dX,aQ,aT,Act.put,aA,aK,aJ]at V
   subst V
   simp only[dn,Nat.reduceAdd]at d
   obtain⟨b,hT⟩:=b
   have aj:=(b.low y T (by omega) (by omega) (by omega)).trans u
   dsimp only[kn,td,nk,dy,eJ,dY,Act.put]
   and_intros
   all_goals first|exact trivial|intro qw qn L K P
   all_goals try (go_simp;with_reducible exact P _ _ ⟨rfl,aH _ _⟩)
   ·refine eN 48 _ rfl y (by simp[Act.eval,d]) _ _ _ _ aj mz rfl oq ?_
    exact P _ _ ⟨rfl,aH _ _⟩
   ·refine eQ 55 _ _ rfl _ (mv fun _=>false) (by simp[Act.eval,d]) (by simp[Act.eval,d]) _ _ (b.m0 L) (bl _) (by simp[di]) (dW _) ?_
    exact P undef _ ⟨trivial,b.mask L (by decide) (by decide),(hT.mono fun v l X=>X.set (by omega) _).mark 3 (by decide) (by decide) (by decide)⟩
   ·refine eQ 71 _ _ rfl _ #[af,ag 0] (by simp[Act.eval,d]) (by simp[Act.eval,d]) _ _ (b.c0 L) rL (by simp) (by simp[Value.oneCell']) ?_
    exact P undef _ ⟨trivial,b.cache L (by decide) (by decide) (eD.none _ _ _ _ (dF _)),(hT.mono fun v l X=>X.set (by omega) _).mark 4 (by decide) (by decide) (by decide)⟩
   ·refine eQ 48 _ _ rfl _ #[ag er,ag at_] (by simp[Act.eval,d]) (by simp[Act.eval,d]) _ _ (b.f0 L) oq (by simp) (by simp[Value.oneCell']) ?_
    exact P undef _ ⟨trivial,b.fault L (by decide) (by decide),(hT.mono fun v l X=>X.set (by omega) _).mark 5 (by decide) (by decide) (by decide)⟩
  ·obtain⟨b,_⟩:=b
   have an:=b.m1 (hM 3 (by decide) rfl)
   obtain⟨v9,hC,al⟩:=b.c1 (hM 4 (by decide) rfl)
   have hF:=b.f1 (hM 5 (by decide) rfl)
   have R:=b.bel
   have aE:=R.size
   have aG:=b.b1
   have aF:=b.b0
   simp only[kn,nk,d8,aQ,aT,Act.put,aA,aK,aJ]
   go_wp2_with fail
   exact xo (w.heap.size+3) (fun _=>false) [] 0 er at_ v9 rfl rfl rfl rfl an hC hF (al.low (by omega)) R
theorem Nj (C:List Cd)(l:List Kp)(cv lv:Value)(runs b a day:Int)(w:World)(h:eD 0 w cv l)(hl:l.length<=676622540150)(aN:InV w lv C)(u:mg l b a day=false)(ax:(jh C a day).1=0):
  Calls prog 137 #[.agg #[cv,ag runs],lv,ag b,ag a,ag day] w (zY (oZ C a day) (qx (fC l (fQ a day l 0)++[⟨a,day,b,oZ C a day⟩])) (IntKind.i64.wrap (runs+1)) 0 0 w):=by
 obtain⟨i,F⟩:=au (fQ a day l 0);have aM:=sS a day l 0;rw[F]at aM;have ap:i<l.length:=by omega
 have bo:i<=676622540150:=by omega
 have bp: -1<=i:=by omega
 have hz:=eR;obtain⟨wA,b7,bA,n5,n8,n9,be,bf,bg⟩:=CJ cv runs a day w;have c1:=ux l cv (w.heap.size+1) (w.heap.size+2) a day wA (h.later bA) n8 n9;rw[F]at c1;have z5:=ak 0 n5;obtain⟨er,O⟩:=au ((jh C a day).1);obtain⟨at_,ad⟩: ∃q:Int,((jh C a day).2:Int)=q:=⟨_,rfl⟩
 obtain⟨f,hf⟩:=au (oZ C a day);obtain⟨sn,aZ⟩: ∃q:Int,(xl C a day:Int)=q:=⟨_,rfl⟩
 have aa:Rb (∀W,aq w W->Calls prog 165 #[lv,ag a,ag day] W (F9 f sn er at_ W)):=fun W hW=>by
  have:=CE C lv a day W (aN.below hW);rw[O,ad,hf,aZ]at this;exact this
 rw[F,hf];obtain⟨rn,R⟩:=au (IntKind.i64.wrap (runs+1));obtain⟨RR,ac⟩:=au (qx (fC l i++[(⟨a,day,b,f⟩:Kp)]));rw[R,ac];have a6:=ba R;have a7:=ba ac
 have af:at_=0:=by
  rw[<-ad,KZ ax];rfl
 rw[ax]at O;subst O af
 have aF:(fC l i++[(⟨a,day,b,f⟩:Kp)]).length<=676622540160:=by
  have:=Ga (l:=l) ap;simp;omega
 have HK:=ba h;obtain⟨p,c,rfl,b2,aE,_⟩:=h;have HB:=ba bA;have b4:c<=9223372036854775807:=by unfold maxLen at aE;omega
 have aS: ∀k,l[i.toNat]? =some k->0<=i->k.v≠b:=fun k hk P e=>by
  have:l.getD i.toNat k0=k:=(by simp[List.getD,hk]);unfold mg at u;rw[F,this,Bool.and_eq_false_iff,decide_eq_false_iff_not,decide_eq_false_iff_not]at u;rcases u with q|q
  ·exact q P
  ·exact q e
 have a5:=ba aS;go_enter func137,ntmps137;go_wp2_with fail;refine c1.mono ?_;rintro e w1 ⟨rfl,b1⟩;have J:=ba (aw HB.o b1);have I:=ai b1 n5;have V:=ai b1 n8;have X:=ai b1 n9;have x:=ai b1 be;have y:=ai b1 bf;have s:=ai b1 bg;have bJ:=ak 0 I;have bK:=ak 0 V;have bL:=ak 0 X;have c2:=aa.o w1 J.o;by_cases P:0<=i
 case' pos=>
  obtain⟨n,rfl⟩: ∃n:Nat,i=(n:Int):=⟨i.toNat,by omega⟩
  obtain⟨k,hk⟩: ∃k,l[n]? =some k:=⟨l[n]'(by omega),ay (by omega)⟩
  have aP:=a5.o k hk P;obtain⟨g,o,aX,aY⟩:=HK.o.at hk;have bn:=lL aY J.o;have y2:w1.cell? (ae g (o+n*26+2))=some (ag k.v):=bn 2 _ (by rw[bx];exact KV k);have bb:(k.v==b)=false:=bm.2 aP;have b6:(n:Int)<(l.length:Int):=(by omega);subst aX;obtain⟨kv9,ar⟩:=au k.v;rw[ar]at y2 bb;go_wp2_with fail;generalize (n:Int)=i at*;generalize (some ⟨g,o,none⟩:Option Addr)=p at*
 case' neg=>
  have bz:i<0:=(by omega);go_wp2_with fail
 all_goals
  refine c2.mono ?_
  rintro e t ⟨rfl,b3⟩
  have a3:=ba (aw J.o b3)
  replace I:=ai b3 I
  replace V:=ai b3 V
  replace X:=ai b3 X
  replace x:=ai b3 x
  replace y:=ai b3 y
  replace s:=ai b3 s
  have bX:aq t ((t.alloc (.cells (mv fun _=>false) 55)).alloc (.cells #[ag 0,ag 0] 48)):=(am _ _).alloc (by simp) _
  have a1:((t.alloc (.cells (mv fun _=>false) 55)).alloc (.cells #[ag 0,ag 0] 48)).heap[t.heap.size]? =ah (mv fun _=>false) 55:=by(repeat (first|refine dt _ _ _ (by simp only[aV];omega) ?_|exact dJ _ _ _ (by first|rfl|simp only[aV])))
  have bj:((t.alloc (.cells (mv fun _=>false) 55)).alloc (.cells #[ag 0,ag 0] 48)).heap[t.heap.size+1]? =ah #[ag 0,ag 0] 48:=by(repeat (first|refine dt _ _ _ (by simp only[aV];omega) ?_|exact dJ _ _ _ (by first|rfl|simp only[aV])))
  generalize b9:(t.alloc (.cells (mv fun _=>false) 55)).alloc (.cells #[ag 0,ag 0] 48)=wX at*
  have bk:=aL _ _ _ (mv f) _ _ a1
  have a2:=(aW wX t.heap.size (t.heap.size+1) (mv f) (by omega)).trans bj
  have bY:=below_setRow bX (aD _) (mv f)
  generalize bB:wX.setRow t.heap.size (mv f)=wY at*
  have A:=(aW wY (t.heap.size+1) t.heap.size #[ag 0,ag 0] (by omega)).trans bk
  have bh:=aL _ _ _ #[ag 0,ag 0] _ _ a2
  have N:=below_setRow bY (by omega:t.heap.size<=t.heap.size+1) #[ag 0,ag 0]
  generalize bC:wY.setRow (t.heap.size+1) #[ag 0,ag 0]=w4 at*
  have bu:w.heap.size+5<t.heap.size:=aI s
  replace I:=ai N I
  replace V:=ai N V
  replace X:=ai N X
  replace x:=ai N x
  replace y:=ai N y
  replace s:=ai N s
  have bI:=ak 0 bh
  have z8:=ak 0 V
  have z9:=ak 0 X
  have a4:=ba (aw a3.o N)
  have bE:=am w4 (.cells (kv ⟨0,0,0,fun _=>false⟩) 223)
  have nE:=aG w4 (.cells (kv ⟨0,0,0,fun _=>false⟩) 223)
  generalize b8:w4.alloc (.cells (kv ⟨0,0,0,fun _=>false⟩) 223)=wE at*
  have L:=below_setRow bE (aD _) (kv ⟨a,day,b,f⟩)
  have nF:=aL _ _ _ (kv ⟨a,day,b,f⟩) _ _ nE
  generalize bc:wE.setRow w4.heap.size (kv ⟨a,day,b,f⟩)=H at*
  have bD:=IN
  go_wp2_with(first
   |(refine az rfl 55 _ _ rfl _ _ rfl rfl _ _ a1 (bl _) (by simp[di]) (dW _) ?_)
   |(refine az rfl 48 _ _ rfl _ _ rfl rfl _ _ a2 (by kernel_rfl) (by simp) (by simp[Value.oneCell']) ?_)
   |(refine aR rfl 55 _ rfl _ rfl _ _ _ _ A dm rfl (bl _) ?_)
   |(refine xp rfl _ _ _ _ rfl a day b f rfl rfl rfl rfl ?_)
   |(refine az rfl 223 _ _ rfl _ _ rfl rfl _ _ nE (o5 _) (by simp[qG]) (CF _) ?_))
  obtain⟨z,m⟩:=au t.heap.size
  obtain⟨B,r⟩:=au w4.heap.size
  have Z:=ba (aw a4.o L)
  have ao:B<H.heap.size:=by rw[<-r];exact aI nF
  have an:z<H.heap.size:=by rw[<-m];exact aU (aI A) L.size
  have bv:w.heap.size+5<z:=by omega
  have bw:z<B:=by rw[<-m,<-r];exact aI A
  have bi:H.heap[B]? =ah (kv ⟨a,day,b,f⟩) 223:=by rw[<-r];exact nF
  replace A:H.heap[z]? =ah (mv f) 55:=by rw[<-m];exact ai L A
  replace I:=ai L I
  replace x:=ai L x
  replace y:=ai L y
  replace s:=ai L s
  rw[bc]
  simp only[m,r]
  refine dl (fun M φ W=>GJ w H (w.heap.size+3) H.heap.size f RR rn 0 0 12 13 14 M W/\GT H.heap.size (fC l i++[⟨a,day,b,f⟩]) RR rn 5 6 10 75 76 80 M φ W) [kn 70 (.agg (mv f)),kn 71 (ab w.heap.size 0),kn 72 (.slice p l.length c),kn 73 (ag i),kn 74 (.agg (kv ⟨a,day,b,f⟩)),td 75,td 76,kn 77 (ab w.heap.size 1),kn 78 (ag runs),kn 79 (ag rn),td 80,kn 81 (.agg #[ag 0,ag 0]),nk,nk,nk] (fun _=>⟨⟨(Z.o).trans ((aH H.heap.size H).drew.mono Z.o.size),fun _ _ _ _ _=>rfl,aD _,by omega,by omega,fun _=>x,(fun e=>by cases e),fun _=>y,(fun e=>by cases e),fun _=>s,(fun e=>by cases e)⟩,(fun e=>by cases e),(fun e=>by cases e),(fun e=>by cases e)⟩) (fun _ _ _ _ hb h=>⟨h.1.below hb,h.2.mono fun _ _ q=>q.later hb⟩) (by kernel_rfl) (fun M φ W2 d bt FF ll av j=> ?_) (fun M φ W2 hM d=> ?_)
  ·simp only[kn,td,nk,dX,aQ,aT,Act.put,aA,aK,aJ]at av
   subst av
   simp only[dn,Nat.reduceAdd]at j
   obtain⟨d,E⟩:=d
   have a8:=(d.low z an (by omega) (by omega) (by omega)).trans A
   have a9:=(d.low B ao (by omega) (by omega) (by omega)).trans bi
   have b5:=(d.low w.heap.size (by omega) (by omega) (by omega) (by omega)).trans I
   have bG:=ak 0 b5
   have bH:=ak 1 b5
   have R:=a6.o
   dsimp only[kn,td,nk,dy,eJ,dY,Act.put]
   and_intros
   all_goals first|exact trivial|intro qw qn Y K D
   all_goals try (go_simp;with_reducible exact D _ _ ⟨rfl,aH _ _⟩)
   ·refine eN 55 _ rfl z (by simp[Act.eval,j]) _ _ _ _ a8 dm rfl (bl _) ?_
    exact D _ _ ⟨rfl,aH _ _⟩
   ·refine eN 223 _ rfl B (by simp[Act.eval,j]) _ _ _ _ a9 rj rfl (o5 _) ?_
    exact D _ _ ⟨rfl,aH _ _⟩
   ·have aO:=HK.o.later d.bel
    go_simp
    refine(v7 l _ i _ W2 aO hl ap).mono ?_
    rintro r' W' ⟨v',rfl,G,aj⟩
    exact D _ _ ⟨trivial,(d.below aj).same 5 (by decide) (by decide) (by decide),(E.mono fun _ _ q=>q.later aj).on 5 (fun h=>absurd rfl h) (fun _=>dH (by decide)) (fun _=>dH (by decide)) (fun _=>by rw[dV];exact G.low d.size) (fun h=>by cases h) (fun h=>by cases h)⟩
   ·have bd:=E.t0 (qw ⟨5,.data⟩ (by simp) rfl rfl)
    generalize φ 75=v5 at*
    go_simp
    refine(Ge _ _ v5 W2 bd aF).mono ?_
    rintro r' W' ⟨v',rfl,G,U⟩
    replace U:=U.symm
    subst U
    rw[a7.o]at G
    exact D _ _ ⟨trivial,d.same 6 (by decide) (by decide) (by decide),E.on 6 (fun _=>dH (by decide)) (fun h=>absurd rfl h) (fun _=>dH (by decide)) (fun h=>by cases h) (fun _=>by rw[dV];exact G) (fun h=>by cases h)⟩
   ·have a0:=E.t1 (qw ⟨6,.data⟩ (by simp) rfl rfl)
    obtain⟨p6,c6,S,_⟩:=id a0
    obtain⟨nn,Q⟩:=au RR.length
    rw[Q]at S
    rw[S]at j
    go_simp
    exact D _ _ ⟨trivial,d.same 10 (by decide) (by decide) (by decide),E.on 10 (fun _=>dH (by decide)) (fun _=>dH (by decide)) (fun h=>absurd rfl h) (fun h=>by cases h) (fun h=>by cases h) (fun _=>⟨_,dV ..,S▸a0⟩)⟩
   ·refine eQ 55 _ _ rfl _ (mv f) (by simp[Act.eval,j]) (by simp[Act.eval,j]) _ _ (d.m0 Y) (bl _) (by simp[di]) (dW _) ?_
    exact D undef _ ⟨trivial,d.mask Y (by decide) (by decide),(E.mono fun v l hv=>hv.set (by omega) _).mark 12 (by decide) (by decide) (by decide)⟩
   ·obtain⟨v9,e9,k9⟩:=E.t2 (qw ⟨10,.data⟩ (by simp) rfl rfl)
    obtain⟨p9,c9,T,_⟩:=id k9
    obtain⟨nn,Q⟩:=au RR.length
    rw[Q]at T
    rw[e9,T]at j
    refine eQ 71 _ _ rfl _ #[.slice p9 nn c9,ag rn] (by simp[Act.eval,j]) (by simp[Act.eval,j]) _ _ (d.c0 Y) rL (by simp) (by simp[Value.oneCell']) ?_
    exact D undef _ ⟨trivial,d.cache Y (by decide) (by decide) (T▸k9),(E.mono fun v l hv=>hv.set (by omega) _).mark 13 (by decide) (by decide) (by decide)⟩
   ·refine eQ 48 _ _ rfl _ #[ag 0,ag 0] (by simp[Act.eval,j]) (by simp[Act.eval,j]) _ _ (d.f0 Y) oq (by simp) (by simp[Value.oneCell']) ?_
    exact D undef _ ⟨trivial,d.fault Y (by decide) (by decide),(E.mono fun v l hv=>hv.set (by omega) _).mark 14 (by decide) (by decide) (by decide)⟩
  ·obtain⟨d,_⟩:=d
   have aC:=d.m1 (hM 12 (by decide) rfl)
   obtain⟨v9,hC,aB⟩:=d.c1 (hM 13 (by decide) rfl)
   have hF:=d.f1 (hM 14 (by decide) rfl)
   have al:=d.bel
   have bq:=al.size
   have bs:=d.b1
   have br:=d.b0
   simp only[kn,td,nk,d8,aQ,aT,Act.put,aA,aK,aJ]
   go_wp2_with fail
   exact xo (w.heap.size+3) f RR rn 0 0 v9 rfl rfl rfl rfl aC hC hF (aB.low (by omega)) al
end Go.Proofs.YtlkehieagdkgiaaGreatDoor
