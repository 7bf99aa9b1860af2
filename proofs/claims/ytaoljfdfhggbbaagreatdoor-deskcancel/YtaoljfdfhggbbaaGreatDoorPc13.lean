/- Texts of the proof. -/
import Derived.Test.YtaoljfdfhggbbaaGreatDoorPc12
set_option maxRecDepth 100000
set_option maxHeartbeats 8000000
namespace Go.Proofs.YtaoljfdfhggbbaaGreatDoor
open Go.Proofs.Tryz Go.RowKit Lx Vx Mx Msk
theorem vt (l:List Kp)(v:Value)(i:Int)(k:Kp)(w:World)(h:en 0 w v l)(f:l.length<=676622540150)(hi:i<l.length):
  Calls prog 99 #[v,ag i,.agg (kv k)] w fun e w'=> ∃a,e= .returned a/\en w.heap.size w' a (fX l i++[k])/\aq w w':=by
 by_cases d:0<=i
 ·obtain⟨n,rfl⟩: ∃n:Nat,i=(n:Int):=⟨i.toNat,by omega⟩
  refine(Fc l v n (by omega) k w h f).mono ?_;rintro e w' ⟨a,rfl,own,c⟩
  have b:fX l (n:Int)=l.take n++l.drop (n+1):=by
   unfold fX;rw[aD d,cj]
  rw[b];exact⟨a,rfl,en.of_own own,c⟩
 ·refine(BQ l v i (by omega) k w h f).mono ?_;rintro e w' ⟨a,rfl,own,c⟩
  have b:fX l i=l:=by
   unfold fX;rw[ax d]
  rw[b];exact⟨a,rfl,en.of_own own,c⟩
theorem Hj:(#[ag 0,ag 0,ag 0,.int .u64 0,.int .u64 0,.int .u64 0,.int .u64 0,.int .u64 0,.int .u64 0,.int .u64 0,.int .u64 0,.int .u64 0,.int .u64 0,.int .u64 0,.int .u64 0,.int .u64 0,.int .u64 0,.int .u64 0,.int .u64 0,.int .u64 0,.int .u64 0,.int .u64 0,.int .u64 0,.int .u64 0,.int .u64 0,.int .u64 0]:Array Value)=kv ⟨0,0,0,fun _=>false⟩:=by
 unfold kv;rw[<-eI];rfl
theorem Hk (r d v:Int)(m:M)(W:World):(Instr.build 184 #[(0,ag r),(1,ag d),(2,ag v),(3,.agg (mv m))]).run prog W= .ok (.agg (kv ⟨r,d,v,m⟩)) W:=by
 kernel_rfl
theorem vX {c:Array Oper}{b:List Oper}{op:Oper}{a:Act}{w:World}{Q:Exit->Act->World->Prop}(e:op.guard=none)(f g i j:Operand)(s:op.op= .build 184 #[(0,f),(1,g),(2,i),(3,j)])(r d v:Int)(m:M)(k:a.eval f=ag r)(l:a.eval g=ag d)(n:a.eval i=ag v)(o:a.eval j= .agg (mv m))
  (h:wpList prog c Q b (a.put op.dst (.agg (kv ⟨r,d,v,m⟩))) w):wpList prog c Q (op::b) a w:=
 wpList_plain e fun _ p=>by
  unfold Oper.wp execOp;have q:=Hk r d v m w;simp only[s,k,l,n,o,iC,dI,fg,ju,jV,gG,q];exact p _ _ h
theorem BR (b:Value)(runs a day:Int)(w:World): ∃W,(((((w.alloc (.cells #[b,ag runs] 51)).alloc (.cells #[ag a] 3)).alloc (.cells #[ag day] 3)).alloc (.cells (mv fun _=>false) 84)).alloc (.cells #[af,ag 0] 51)).alloc (.cells #[ag 0,ag 0] 93)=W/\aq w W/\W.heap[w.heap.size]? =ah #[b,ag runs] 51/\W.heap[w.heap.size+1]? =ah #[ag a] 3/\W.heap[w.heap.size+2]? =ah #[ag day] 3/\W.heap[w.heap.size+3]? =ah (mv fun _=>false) 84/\W.heap[w.heap.size+4]? =ah #[af,ag 0] 51/\W.heap[w.heap.size+5]? =ah #[ag 0,ag 0] 93:=
 ⟨_,rfl,(((((am _ _).alloc (by simp) _).alloc (by simp;omega) _).alloc (by simp;omega) _).alloc (by simp;omega) _).alloc (by simp;omega) _,by(repeat (first|refine dl _ _ _ (by simp only[aU];omega) ?_|exact dC _ _ _ (by first|rfl|simp only[aU]))),by(repeat (first|refine dl _ _ _ (by simp only[aU];omega) ?_|exact dC _ _ _ (by first|rfl|simp only[aU]))),by(repeat (first|refine dl _ _ _ (by simp only[aU];omega) ?_|exact dC _ _ _ (by first|rfl|simp only[aU]))),by(repeat (first|refine dl _ _ _ (by simp only[aU];omega) ?_|exact dC _ _ _ (by first|rfl|simp only[aU]))),by(repeat (first|refine dl _ _ _ (by simp only[aU];omega) ?_|exact dC _ _ _ (by first|rfl|simp only[aU]))),by(repeat (first|refine dl _ _ _ (by simp only[aU];omega) ?_|exact dC _ _ _ (by first|rfl|simp only[aU])))⟩
theorem L3 (l:List Kp)(cv lv:Value)(runs x a day:Int)(w:World)(h:en 0 w cv l)(hl:l.length<=676622540150)(r:mZ l x a day=true):
  Calls prog 71 #[.agg #[cv,ag runs],lv,ag x,ag a,ag day] w (yJ (l.getD (gJ a day l 0).toNat k0).m (fX l (gJ a day l 0)++[l.getD (gJ a day l 0).toNat k0]) runs 0 0 w):=by
 obtain⟨i,t⟩:=au (gJ a day l 0);have S:=rU a day l 0;rw[t]at S;have an:i<l.length:=by omega
 have a2:i<=676622540150:=by omega
 have a3: -1<=i:=by omega
 have hz:=eI;obtain⟨wA,ar,bA,n5,n8,n9,aa,ac,ad⟩:=BR cv runs a day w;have c1:=tI l cv (w.heap.size+1) (w.heap.size+2) a day wA (h.later bA) n8 n9;rw[t]at c1;have z5:=ak 0 n5
 have hh:0<=i/\(l.getD i.toNat k0).v=x:=by
  unfold mZ at r;rw[t,bG,cg,cg]at r;exact r
 obtain⟨aC,s⟩:=hh;rw[t];obtain⟨n,rfl⟩: ∃n:Nat,i=(n:Int):=⟨i.toNat,by omega⟩
 rw[cj]at s⊢;obtain⟨k,hk⟩: ∃k,l[n]? =some k:=⟨l[n]'(by omega),az (by omega)⟩
 have T:l.getD n k0=k:=by simp[List.getD,hk]
 rw[T]at s⊢;have HK:=a8 h;obtain⟨p,c,rfl,aD,al,_⟩:=h;obtain⟨g,o,aq,V⟩:=HK.o.at hk;subst aq;have HB:=a8 bA;clear t S r T al bA;go_enter func71,ntmps71;go_wp2_with fail;refine c1.mono ?_;rintro e L ⟨rfl,b1⟩;have z:=a8 (aw HB.o b1);have G:=lA V z.o
 have y2:L.cell? (ae g (o+n*26+2))=some (ag x):=by
  rw[<-s];exact G 2 _ (by rw[bp];exact JQ k)
 have m5:=ai b1 n5;have E:=ai b1 aa;have F:=ai b1 ac;have u:=ai b1 ad;have a1:=ak 0 m5;have aF:(n:Int)<(l.length:Int):=by omega
 have bE:=am L (.cells (kv ⟨0,0,0,fun _=>false⟩) 184);have nE:=aE L (.cells (kv ⟨0,0,0,fun _=>false⟩) 184);generalize av:L.alloc (.cells (kv ⟨0,0,0,fun _=>false⟩) 184)=wE at*;have I:=below_setRow bE (aB _) (kv k);have nF:=aL _ _ _ (kv k) _ _ nE;generalize Y:wE.setRow L.heap.size (kv k)=H at*;clear c1 s n5 n8 n9 aa ac ad b1 ar z5 V HB;have ax:=Hj
 go_wp2_with(first
  |(refine tH rfl _ rfl g (o+n*26) rfl k G ?_)
  |(refine ay rfl 184 _ _ rfl _ _ rfl rfl _ _ nE (oy _) (by simp[pW]) (BO _) ?_))
 obtain⟨j,f⟩:=au L.heap.size;have N:=a8 (aw z.o I);have R:j<H.heap.size:=by rw[<-f];exact aH nF
 have a9:w.heap.size+5<j:=by rw[<-f];exact aH u
 have a0:H.heap[j]? =ah (kv k) 184:=by rw[<-f];exact nF
 replace m5:=ai I m5;replace E:=ai I E;replace F:=ai I F;replace u:=ai I u;rw[Y,f];clear nF I bE nE av Y G y2 a1 f hz z ax;refine dh (fun M φ W=>GJ w H (w.heap.size+3) H.heap.size k.m (fX l (n:Int)++[k]) runs 0 0 11 12 13 M W/\GT H.heap.size (fX l (n:Int)++[k]) (fX l (n:Int)++[k]) runs 6 1000 9 46 1000 49 M φ W) [kn 40 (ab j 3),kn 41 (.agg (mv k.m)),kn 42 (ab w.heap.size 0),kn 43 (.slice (some (ae g o)) l.length c),kn 44 (ag (n:Int)),kn 45 (.agg (kv k)),td 46,kn 47 (ab w.heap.size 1),kn 48 (ag runs),td 49,kn 50 (.agg #[ag 0,ag 0]),nk,nk,nk] (fun _=>⟨⟨(N.o).trans ((aI H.heap.size H).drew.mono N.o.size),fun _ _ _ _ _=>rfl,aB _,by omega,by omega,fun _=>E,(fun e=>by cases e),fun _=>F,(fun e=>by cases e),fun _=>u,(fun e=>by cases e)⟩,(fun e=>by cases e),(fun e=>by cases e),(fun e=>by cases e)⟩) (fun _ _ _ _ hb h=>⟨h.1.below hb,h.2.mono fun _ _ q=>q.later hb⟩) (by kernel_rfl) (fun M φ W2 b a7 FF ll U d=> ?_) (fun M φ W2 hM b=> ?_)
 ·simp only[kn,td,nk,dW,aQ,aX,Act.put,aA,aK,aJ]at U;subst U;simp only[cZ,Nat.reduceAdd]at d;obtain⟨b,A⟩:=b;have O:=(b.low j R (by omega) (by omega) (by omega)).trans a0;have b5:=(b.low w.heap.size (by omega) (by omega) (by omega) (by omega)).trans m5;have aG:=ak 0 b5;have aM:=ak 1 b5;clear b5;dsimp only[kn,td,nk,dB,eN,eg,Act.put];and_intros;all_goals first|exact trivial|intro qw qn J K y
  all_goals try (go_simp;with_reducible exact y _ _ ⟨rfl,aI _ _⟩)
  ·refine JP _ rfl j 3 (by simp[Act.eval,d]) k.m (JT O) ?_;exact y _ _ ⟨rfl,aI _ _⟩
  ·refine dU 184 _ rfl j (by simp[Act.eval,d]) _ _ _ _ O qz rfl (oy k) ?_;exact y _ _ ⟨rfl,aI _ _⟩
  ·have ao:=HK.o.later b.bel;go_simp;refine(vt l _ (n:Int) k W2 ao hl an).mono ?_;rintro r' W' ⟨v',rfl,ap,P⟩;exact y _ _ ⟨trivial,(b.below P).same 6 (by decide) (by decide) (by decide),(A.mono fun _ _ q=>q.later P).on 6 (fun h=>absurd rfl h) (fun _=>cY (by decide)) (fun _=>cY (by decide)) (fun _=>by rw[dF];exact ap.low b.size) (fun h=>by cases h) (fun h=>by cases h)⟩
  ·have Z:=A.t0 (qw ⟨6,.data⟩ (by simp) rfl rfl);obtain⟨p6,c6,C,_⟩:=id Z;obtain⟨nn,B⟩:=au ((fX l (n:Int)++[k]).length);rw[B]at C;rw[C]at d;go_simp;exact y _ _ ⟨trivial,b.same 9 (by decide) (by decide) (by decide),A.on 9 (fun _=>cY (by decide)) (fun _=>cY (by decide)) (fun h=>absurd rfl h) (fun h=>by cases h) (fun h=>by cases h) (fun _=>⟨_,dF ..,C▸Z⟩)⟩
  ·refine eG 84 _ _ rfl _ (mv k.m) (by simp[Act.eval,d]) (by simp[Act.eval,d]) _ _ (b.m0 J) (bh _) (by simp[bO]) (dQ _) ?_;exact y undef _ ⟨trivial,b.mask J (by decide) (by decide),(A.mono fun v l X=>X.set (by omega) _).mark 11 (by decide) (by decide) (by decide)⟩
  ·obtain⟨v9,e9,k9⟩:=A.t2 (qw ⟨9,.data⟩ (by simp) rfl rfl);obtain⟨p9,c9,D,_⟩:=id k9;obtain⟨nn,B⟩:=au ((fX l (n:Int)++[k]).length);rw[B]at D;rw[e9,D]at d;refine eG 51 _ _ rfl _ #[.slice p9 nn c9,ag runs] (by simp[Act.eval,d]) (by simp[Act.eval,d]) _ _ (b.c0 J) qP (by simp) (by simp[Value.oneCell']) ?_;exact y undef _ ⟨trivial,b.cache J (by decide) (by decide) (D▸k9),(A.mono fun v l X=>X.set (by omega) _).mark 12 (by decide) (by decide) (by decide)⟩
  ·refine eG 93 _ _ rfl _ #[ag 0,ag 0] (by simp[Act.eval,d]) (by simp[Act.eval,d]) _ _ (b.f0 J) nh (by simp) (by simp[Value.oneCell']) ?_;exact y undef _ ⟨trivial,b.fault J (by decide) (by decide),(A.mono fun v l X=>X.set (by omega) _).mark 13 (by decide) (by decide) (by decide)⟩
 ·obtain⟨b,_⟩:=b;have aj:=b.m1 (hM 11 (by decide) rfl);obtain⟨v9,hC,af⟩:=b.c1 (hM 12 (by decide) rfl);have hF:=b.f1 (hM 13 (by decide) rfl);have Q:=b.bel;have a4:=Q.size;have a6:=b.b1;have a5:=b.b0;simp only[kn,td,nk,eh,aQ,aX,Act.put,aA,aK,aJ];clear hM b;go_wp2_with fail;exact vW (w.heap.size+3) k.m (fX l (n:Int)++[k]) runs 0 0 v9 rfl rfl rfl rfl aj hC hF (af.low (by omega)) Q
theorem JU {b:List Cd}{a day:Int}(h:(ja b a day).1=0):(ja b a day).2=0:=by
 unfold ja at h⊢;by_cases c:(jL b).1≠0
 ·rw[aD c]at h;exact absurd h c
 ·rw[ax c]at h⊢;split
  ·rfl
  ·split<;>rfl
theorem Hl (x:List Cd)(l:List Kp)(cv lv:Value)(runs z a day:Int)(w:World)(h:en 0 w cv l)(hl:l.length<=676622540150)(ar:InV w lv x)(m:mZ l z a day=false)(G:(ja x a day).1≠0):
  Calls prog 71 #[.agg #[cv,ag runs],lv,ag z,ag a,ag day] w (yJ (fun _=>false) [] 0 (ja x a day).1 ((ja x a day).2:Int) w):=by
 obtain⟨i,F⟩:=au (gJ a day l 0);have ap:=rU a day l 0;rw[F]at ap;have aW:i<l.length:=by omega
 have aD:i<=676622540150:=by omega
 have aE: -1<=i:=by omega
 have hz:=eI;obtain⟨wA,bb,bA,n5,n8,n9,a4,a5,a6⟩:=BR cv runs a day w;have c1:=tI l cv (w.heap.size+1) (w.heap.size+2) a day wA (h.later bA) n8 n9;rw[F]at c1;have z5:=ak 0 n5;obtain⟨er,S⟩:=au ((ja x a day).1);obtain⟨at_,Q⟩: ∃q:Int,((ja x a day).2:Int)=q:=⟨_,rfl⟩
 obtain⟨f,hf⟩:=au (oq x a day);obtain⟨sn,a2⟩: ∃q:Int,(vT x a day:Int)=q:=⟨_,rfl⟩
 have O:PN (∀W,aq w W->Calls prog 100 #[lv,ag a,ag day] W (E9 f sn er at_ W)):=fun W hW=>by
  have:=BN x lv a day W (ar.below hW);rw[S,Q,hf,a2]at this;exact this
 rw[S]at G⊢;rw[Q];have aN:(er==0)=false:=bj.2 G;have aO:(er !=0)=true:=by simpa using G
 have HK:=a8 h;obtain⟨p,c,rfl,aY,ao,_⟩:=h;have HB:=a8 bA;have aZ:c<=9223372036854775807:=by unfold maxLen at ao;omega
 have ax: ∀k,l[i.toNat]? =some k->0<=i->k.v≠z:=fun k hk E e=>by
  have:l.getD i.toNat k0=k:=(by simp[List.getD,hk]);unfold mZ at m;rw[F,this,Bool.and_eq_false_iff,decide_eq_false_iff_not,decide_eq_false_iff_not]at m;rcases m with q|q
  ·exact q E
  ·exact q e
 have ad:=a8 ax;go_enter func71,ntmps71;go_wp2_with fail;refine c1.mono ?_;rintro e w1 ⟨rfl,b1⟩;have A:=a8 (aw HB.o b1);have H:=ai b1 n5;have I:=ai b1 n8;have J:=ai b1 n9;have s:=ai b1 a4;have t:=ai b1 a5;have r:=ai b1 a6;have bi:=ak 0 H;have bk:=ak 0 I;have bl:=ak 0 J;have c2:=O.o w1 A.o;by_cases E:0<=i
 case' pos=>
  obtain⟨n,rfl⟩: ∃n:Nat,i=(n:Int):=⟨i.toNat,by omega⟩
  obtain⟨k,hk⟩: ∃k,l[n]? =some k:=⟨l[n]'(by omega),az (by omega)⟩
  have av:=ad.o k hk E;obtain⟨g,o,a0,a1⟩:=HK.o.at hk;have aC:=lA a1 A.o;have y2:w1.cell? (ae g (o+n*26+2))=some (ag k.v):=aC 2 _ (by rw[bp];exact JQ k);have a3:(k.v==z)=false:=bj.2 av;have ba:(n:Int)<(l.length:Int):=(by omega);subst a0;obtain⟨kv9,U⟩:=au k.v;rw[U]at y2 a3;go_wp2_with fail;generalize (n:Int)=i at*;generalize (some ⟨g,o,none⟩:Option Addr)=p at*
 case' neg=>
  have aT:i<0:=(by omega);go_wp2_with fail
 all_goals
  refine c2.mono ?_
  rintro e j ⟨rfl,b3⟩
  have ab:=a8 (aw A.o b3)
  replace H:=ai b3 H
  replace I:=ai b3 I
  replace J:=ai b3 J
  replace s:=ai b3 s
  replace t:=ai b3 t
  replace r:=ai b3 r
  have bX:aq j ((j.alloc (.cells (mv fun _=>false) 84)).alloc (.cells #[ag 0,ag 0] 93)):=(am _ _).alloc (by simp) _
  have Z:((j.alloc (.cells (mv fun _=>false) 84)).alloc (.cells #[ag 0,ag 0] 93)).heap[j.heap.size]? =ah (mv fun _=>false) 84:=by(repeat (first|refine dl _ _ _ (by simp only[aU];omega) ?_|exact dC _ _ _ (by first|rfl|simp only[aU])))
  have a7:((j.alloc (.cells (mv fun _=>false) 84)).alloc (.cells #[ag 0,ag 0] 93)).heap[j.heap.size+1]? =ah #[ag 0,ag 0] 93:=by(repeat (first|refine dl _ _ _ (by simp only[aU];omega) ?_|exact dC _ _ _ (by first|rfl|simp only[aU])))
  generalize bc:(j.alloc (.cells (mv fun _=>false) 84)).alloc (.cells #[ag 0,ag 0] 93)=wX at*
  have a9:=aL _ _ _ (mv f) _ _ Z
  have aa:=(aV wX j.heap.size (j.heap.size+1) (mv f) (by omega)).trans a7
  have bY:=below_setRow bX (aB _) (mv f)
  generalize bd:wX.setRow j.heap.size (mv f)=wY at*
  have bf:=(aV wY (j.heap.size+1) j.heap.size #[ag er,ag at_] (by omega)).trans a9
  have u:=aL _ _ _ #[ag er,ag at_] _ _ aa
  have C:=below_setRow bY (by omega:j.heap.size<=j.heap.size+1) #[ag er,ag at_]
  generalize be:wY.setRow (j.heap.size+1) #[ag er,ag at_]=w4 at*
  have aR:w.heap.size+5<j.heap.size:=aH r
  replace H:=ai C H
  replace I:=ai C I
  replace J:=ai C J
  replace s:=ai C s
  replace t:=ai C t
  replace r:=ai C r
  have bg:=ak 0 u
  have z8:=ak 0 I
  have z9:=ak 0 J
  have ac:=a8 (aw ab.o C)
  go_wp2_with(first
   |(refine ay rfl 84 _ _ rfl _ _ rfl rfl _ _ Z (bh _) (by simp[bO]) (dQ _) ?_)
   |(refine ay rfl 93 _ _ rfl _ _ rfl rfl _ _ aa (by kernel_rfl) (by simp) (by simp[Value.oneCell']) ?_))
  have B:=ac
  obtain⟨N,Y⟩:=au w4
  obtain⟨y,D⟩:=au (j.heap.size+1)
  rw[Y]
  rw[Y]at H s t r u B
  simp only[D]at u⊢
  have T:y<N.heap.size:=aH u
  have aS:w.heap.size+5<y:=by omega
  refine dh (fun M φ W=>GJ w N (w.heap.size+3) N.heap.size (fun _=>false) [] 0 er at_ 3 4 5 M W/\GT N.heap.size [] [] 0 1000 1001 1002 1000 1000 1000 M φ W) [kn 62 (.agg (mv fun _=>false)),kn 63 (.agg #[af,ag 0]),kn 64 (.agg #[ag er,ag at_]),nk,nk,nk] (fun _=>⟨⟨(B.o).trans ((aI N.heap.size N).drew.mono B.o.size),fun _ _ _ _ _=>rfl,aB _,by omega,by omega,fun _=>s,(fun e=>by cases e),fun _=>t,(fun e=>by cases e),fun _=>r,(fun e=>by cases e)⟩,(fun e=>by cases e),(fun e=>by cases e),(fun e=>by cases e)⟩) (fun _ _ _ _ hb h=>⟨h.1.below hb,h.2.mono fun _ _ q=>q.later hb⟩) (by kernel_rfl) (fun M φ W2 b aP FF ll V d=> ?_) (fun M φ W2 hM b=> ?_)
  ·simp only[kn,nk,dW,aQ,aX,Act.put,aA,aK,aJ]at V
   subst V
   simp only[cZ,Nat.reduceAdd]at d
   obtain⟨b,hT⟩:=b
   have aj:=(b.low y T (by omega) (by omega) (by omega)).trans u
   dsimp only[kn,td,nk,dB,eN,eg,Act.put]
   and_intros
   all_goals first|exact trivial|intro qw qn L K P
   all_goals try (go_simp;with_reducible exact P _ _ ⟨rfl,aI _ _⟩)
   ·refine dU 93 _ rfl y (by simp[Act.eval,d]) _ _ _ _ aj me rfl nh ?_
    exact P _ _ ⟨rfl,aI _ _⟩
   ·refine eG 84 _ _ rfl _ (mv fun _=>false) (by simp[Act.eval,d]) (by simp[Act.eval,d]) _ _ (b.m0 L) (bh _) (by simp[bO]) (dQ _) ?_
    exact P undef _ ⟨trivial,b.mask L (by decide) (by decide),(hT.mono fun v l X=>X.set (by omega) _).mark 3 (by decide) (by decide) (by decide)⟩
   ·refine eG 51 _ _ rfl _ #[af,ag 0] (by simp[Act.eval,d]) (by simp[Act.eval,d]) _ _ (b.c0 L) qP (by simp) (by simp[Value.oneCell']) ?_
    exact P undef _ ⟨trivial,b.cache L (by decide) (by decide) (en.none _ _ _ _ (dw _)),(hT.mono fun v l X=>X.set (by omega) _).mark 4 (by decide) (by decide) (by decide)⟩
   ·refine eG 93 _ _ rfl _ #[ag er,ag at_] (by simp[Act.eval,d]) (by simp[Act.eval,d]) _ _ (b.f0 L) nh (by simp) (by simp[Value.oneCell']) ?_
    exact P undef _ ⟨trivial,b.fault L (by decide) (by decide),(hT.mono fun v l X=>X.set (by omega) _).mark 5 (by decide) (by decide) (by decide)⟩
  ·obtain⟨b,_⟩:=b
   have an:=b.m1 (hM 3 (by decide) rfl)
   obtain⟨v9,hC,al⟩:=b.c1 (hM 4 (by decide) rfl)
   have hF:=b.f1 (hM 5 (by decide) rfl)
   have R:=b.bel
   have aF:=R.size
   have aM:=b.b1
   have aG:=b.b0
   simp only[kn,nk,eh,aQ,aX,Act.put,aA,aK,aJ]
   go_wp2_with fail
   exact vW (w.heap.size+3) (fun _=>false) [] 0 er at_ v9 rfl rfl rfl rfl an hC hF (al.low (by omega)) R
theorem L4 (C:List Cd)(l:List Kp)(cv lv:Value)(runs b a day:Int)(w:World)(h:en 0 w cv l)(hl:l.length<=676622540150)(aO:InV w lv C)(u:mZ l b a day=false)(ax:(ja C a day).1=0):
  Calls prog 71 #[.agg #[cv,ag runs],lv,ag b,ag a,ag day] w (yJ (oq C a day) (sE (fX l (gJ a day l 0)++[⟨a,day,b,oq C a day⟩])) (IntKind.i64.wrap (runs+1)) 0 0 w):=by
 obtain⟨i,F⟩:=au (gJ a day l 0);have aN:=rU a day l 0;rw[F]at aN;have ap:i<l.length:=by omega
 have bo:i<=676622540150:=by omega
 have bq: -1<=i:=by omega
 have hz:=eI;obtain⟨wA,b7,bA,n5,n8,n9,be,bf,bg⟩:=BR cv runs a day w;have c1:=tI l cv (w.heap.size+1) (w.heap.size+2) a day wA (h.later bA) n8 n9;rw[F]at c1;have z5:=ak 0 n5;obtain⟨er,O⟩:=au ((ja C a day).1);obtain⟨at_,ad⟩: ∃q:Int,((ja C a day).2:Int)=q:=⟨_,rfl⟩
 obtain⟨f,hf⟩:=au (oq C a day);obtain⟨sn,ba⟩: ∃q:Int,(vT C a day:Int)=q:=⟨_,rfl⟩
 have aa:PN (∀W,aq w W->Calls prog 100 #[lv,ag a,ag day] W (E9 f sn er at_ W)):=fun W hW=>by
  have:=BN C lv a day W (aO.below hW);rw[O,ad,hf,ba]at this;exact this
 rw[F,hf];obtain⟨rn,R⟩:=au (IntKind.i64.wrap (runs+1));obtain⟨RR,ac⟩:=au (sE (fX l i++[(⟨a,day,b,f⟩:Kp)]));rw[R,ac];have a6:=a8 R;have a7:=a8 ac
 have af:at_=0:=by
  rw[<-ad,JU ax];rfl
 rw[ax]at O;subst O af
 have aM:(fX l i++[(⟨a,day,b,f⟩:Kp)]).length<=676622540160:=by
  have:=Fa (l:=l) ap;simp;omega
 have HK:=a8 h;obtain⟨p,c,rfl,b2,aG,_⟩:=h;have HB:=a8 bA;have b4:c<=9223372036854775807:=by unfold maxLen at aG;omega
 have aW: ∀k,l[i.toNat]? =some k->0<=i->k.v≠b:=fun k hk P e=>by
  have:l.getD i.toNat k0=k:=(by simp[List.getD,hk]);unfold mZ at u;rw[F,this,Bool.and_eq_false_iff,decide_eq_false_iff_not,decide_eq_false_iff_not]at u;rcases u with q|q
  ·exact q P
  ·exact q e
 have a5:=a8 aW;go_enter func71,ntmps71;go_wp2_with fail;refine c1.mono ?_;rintro e w1 ⟨rfl,b1⟩;have J:=a8 (aw HB.o b1);have I:=ai b1 n5;have V:=ai b1 n8;have X:=ai b1 n9;have x:=ai b1 be;have y:=ai b1 bf;have s:=ai b1 bg;have bJ:=ak 0 I;have bK:=ak 0 V;have bL:=ak 0 X;have c2:=aa.o w1 J.o;by_cases P:0<=i
 case' pos=>
  obtain⟨n,rfl⟩: ∃n:Nat,i=(n:Int):=⟨i.toNat,by omega⟩
  obtain⟨k,hk⟩: ∃k,l[n]? =some k:=⟨l[n]'(by omega),az (by omega)⟩
  have aS:=a5.o k hk P;obtain⟨g,o,aY,aZ⟩:=HK.o.at hk;have bn:=lA aZ J.o;have y2:w1.cell? (ae g (o+n*26+2))=some (ag k.v):=bn 2 _ (by rw[bp];exact JQ k);have bb:(k.v==b)=false:=bj.2 aS;have b6:(n:Int)<(l.length:Int):=(by omega);subst aY;obtain⟨kv9,ar⟩:=au k.v;rw[ar]at y2 bb;go_wp2_with fail;generalize (n:Int)=i at*;generalize (some ⟨g,o,none⟩:Option Addr)=p at*
 case' neg=>
  have bz:i<0:=(by omega);go_wp2_with fail
 all_goals
  refine c2.mono ?_
  rintro e t ⟨rfl,b3⟩
  have a3:=a8 (aw J.o b3)
  replace I:=ai b3 I
  replace V:=ai b3 V
  replace X:=ai b3 X
  replace x:=ai b3 x
  replace y:=ai b3 y
  replace s:=ai b3 s
  have bX:aq t ((t.alloc (.cells (mv fun _=>false) 84)).alloc (.cells #[ag 0,ag 0] 93)):=(am _ _).alloc (by simp) _
  have a1:((t.alloc (.cells (mv fun _=>false) 84)).alloc (.cells #[ag 0,ag 0] 93)).heap[t.heap.size]? =ah (mv fun _=>false) 84:=by(repeat (first|refine dl _ _ _ (by simp only[aU];omega) ?_|exact dC _ _ _ (by first|rfl|simp only[aU])))
  have bl:((t.alloc (.cells (mv fun _=>false) 84)).alloc (.cells #[ag 0,ag 0] 93)).heap[t.heap.size+1]? =ah #[ag 0,ag 0] 93:=by(repeat (first|refine dl _ _ _ (by simp only[aU];omega) ?_|exact dC _ _ _ (by first|rfl|simp only[aU])))
  generalize b9:(t.alloc (.cells (mv fun _=>false) 84)).alloc (.cells #[ag 0,ag 0] 93)=wX at*
  have bm:=aL _ _ _ (mv f) _ _ a1
  have a2:=(aV wX t.heap.size (t.heap.size+1) (mv f) (by omega)).trans bl
  have bY:=below_setRow bX (aB _) (mv f)
  generalize bB:wX.setRow t.heap.size (mv f)=wY at*
  have A:=(aV wY (t.heap.size+1) t.heap.size #[ag 0,ag 0] (by omega)).trans bm
  have bi:=aL _ _ _ #[ag 0,ag 0] _ _ a2
  have N:=below_setRow bY (by omega:t.heap.size<=t.heap.size+1) #[ag 0,ag 0]
  generalize bC:wY.setRow (t.heap.size+1) #[ag 0,ag 0]=w4 at*
  have bv:w.heap.size+5<t.heap.size:=aH s
  replace I:=ai N I
  replace V:=ai N V
  replace X:=ai N X
  replace x:=ai N x
  replace y:=ai N y
  replace s:=ai N s
  have bI:=ak 0 bi
  have z8:=ak 0 V
  have z9:=ak 0 X
  have a4:=a8 (aw a3.o N)
  have bE:=am w4 (.cells (kv ⟨0,0,0,fun _=>false⟩) 184)
  have nE:=aE w4 (.cells (kv ⟨0,0,0,fun _=>false⟩) 184)
  generalize b8:w4.alloc (.cells (kv ⟨0,0,0,fun _=>false⟩) 184)=wE at*
  have L:=below_setRow bE (aB _) (kv ⟨a,day,b,f⟩)
  have nF:=aL _ _ _ (kv ⟨a,day,b,f⟩) _ _ nE
  generalize bc:wE.setRow w4.heap.size (kv ⟨a,day,b,f⟩)=H at*
  have bD:=Hj
  go_wp2_with(first
   |(refine ay rfl 84 _ _ rfl _ _ rfl rfl _ _ a1 (bh _) (by simp[bO]) (dQ _) ?_)
   |(refine ay rfl 93 _ _ rfl _ _ rfl rfl _ _ a2 (by kernel_rfl) (by simp) (by simp[Value.oneCell']) ?_)
   |(refine aR rfl 84 _ rfl _ rfl _ _ _ _ A bV rfl (bh _) ?_)
   |(refine vX rfl _ _ _ _ rfl a day b f rfl rfl rfl rfl ?_)
   |(refine ay rfl 184 _ _ rfl _ _ rfl rfl _ _ nE (oy _) (by simp[pW]) (BO _) ?_))
  obtain⟨z,m⟩:=au t.heap.size
  obtain⟨B,r⟩:=au w4.heap.size
  have Z:=a8 (aw a4.o L)
  have ao:B<H.heap.size:=by rw[<-r];exact aH nF
  have an:z<H.heap.size:=by rw[<-m];exact aT (aH A) L.size
  have bw:w.heap.size+5<z:=by omega
  have bx:z<B:=by rw[<-m,<-r];exact aH A
  have bk:H.heap[B]? =ah (kv ⟨a,day,b,f⟩) 184:=by rw[<-r];exact nF
  replace A:H.heap[z]? =ah (mv f) 84:=by rw[<-m];exact ai L A
  replace I:=ai L I
  replace x:=ai L x
  replace y:=ai L y
  replace s:=ai L s
  rw[bc]
  simp only[m,r]
  refine dh (fun M φ W=>GJ w H (w.heap.size+3) H.heap.size f RR rn 0 0 12 13 14 M W/\GT H.heap.size (fX l i++[⟨a,day,b,f⟩]) RR rn 5 6 10 75 76 80 M φ W) [kn 70 (.agg (mv f)),kn 71 (ab w.heap.size 0),kn 72 (.slice p l.length c),kn 73 (ag i),kn 74 (.agg (kv ⟨a,day,b,f⟩)),td 75,td 76,kn 77 (ab w.heap.size 1),kn 78 (ag runs),kn 79 (ag rn),td 80,kn 81 (.agg #[ag 0,ag 0]),nk,nk,nk] (fun _=>⟨⟨(Z.o).trans ((aI H.heap.size H).drew.mono Z.o.size),fun _ _ _ _ _=>rfl,aB _,by omega,by omega,fun _=>x,(fun e=>by cases e),fun _=>y,(fun e=>by cases e),fun _=>s,(fun e=>by cases e)⟩,(fun e=>by cases e),(fun e=>by cases e),(fun e=>by cases e)⟩) (fun _ _ _ _ hb h=>⟨h.1.below hb,h.2.mono fun _ _ q=>q.later hb⟩) (by kernel_rfl) (fun M φ W2 d bu FF ll av j=> ?_) (fun M φ W2 hM d=> ?_)
  ·simp only[kn,td,nk,dW,aQ,aX,Act.put,aA,aK,aJ]at av
   subst av
   simp only[cZ,Nat.reduceAdd]at j
   obtain⟨d,E⟩:=d
   have a9:=(d.low z an (by omega) (by omega) (by omega)).trans A
   have aC:=(d.low B ao (by omega) (by omega) (by omega)).trans bk
   have b5:=(d.low w.heap.size (by omega) (by omega) (by omega) (by omega)).trans I
   have bG:=ak 0 b5
   have bH:=ak 1 b5
   have R:=a6.o
   dsimp only[kn,td,nk,dB,eN,eg,Act.put]
   and_intros
   all_goals first|exact trivial|intro qw qn Y K D
   all_goals try (go_simp;with_reducible exact D _ _ ⟨rfl,aI _ _⟩)
   ·refine dU 84 _ rfl z (by simp[Act.eval,j]) _ _ _ _ a9 bV rfl (bh _) ?_
    exact D _ _ ⟨rfl,aI _ _⟩
   ·refine dU 184 _ rfl B (by simp[Act.eval,j]) _ _ _ _ aC qz rfl (oy _) ?_
    exact D _ _ ⟨rfl,aI _ _⟩
   ·have aP:=HK.o.later d.bel
    go_simp
    refine(vt l _ i _ W2 aP hl ap).mono ?_
    rintro r' W' ⟨v',rfl,G,aj⟩
    exact D _ _ ⟨trivial,(d.below aj).same 5 (by decide) (by decide) (by decide),(E.mono fun _ _ q=>q.later aj).on 5 (fun h=>absurd rfl h) (fun _=>cY (by decide)) (fun _=>cY (by decide)) (fun _=>by rw[dF];exact G.low d.size) (fun h=>by cases h) (fun h=>by cases h)⟩
   ·have bd:=E.t0 (qw ⟨5,.data⟩ (by simp) rfl rfl)
    generalize φ 75=v5 at*
    go_simp
    refine(Fd _ _ v5 W2 bd aM).mono ?_
    rintro r' W' ⟨v',rfl,G,U⟩
    replace U:=U.symm
    subst U
    rw[a7.o]at G
    exact D _ _ ⟨trivial,d.same 6 (by decide) (by decide) (by decide),E.on 6 (fun _=>cY (by decide)) (fun h=>absurd rfl h) (fun _=>cY (by decide)) (fun h=>by cases h) (fun _=>by rw[dF];exact G) (fun h=>by cases h)⟩
   ·have a0:=E.t1 (qw ⟨6,.data⟩ (by simp) rfl rfl)
    obtain⟨p6,c6,S,_⟩:=id a0
    obtain⟨nn,Q⟩:=au RR.length
    rw[Q]at S
    rw[S]at j
    go_simp
    exact D _ _ ⟨trivial,d.same 10 (by decide) (by decide) (by decide),E.on 10 (fun _=>cY (by decide)) (fun _=>cY (by decide)) (fun h=>absurd rfl h) (fun h=>by cases h) (fun h=>by cases h) (fun _=>⟨_,dF ..,S▸a0⟩)⟩
   ·refine eG 84 _ _ rfl _ (mv f) (by simp[Act.eval,j]) (by simp[Act.eval,j]) _ _ (d.m0 Y) (bh _) (by simp[bO]) (dQ _) ?_
    exact D undef _ ⟨trivial,d.mask Y (by decide) (by decide),(E.mono fun v l hv=>hv.set (by omega) _).mark 12 (by decide) (by decide) (by decide)⟩
   ·obtain⟨v9,e9,k9⟩:=E.t2 (qw ⟨10,.data⟩ (by simp) rfl rfl)
    obtain⟨p9,c9,T,_⟩:=id k9
    obtain⟨nn,Q⟩:=au RR.length
    rw[Q]at T
    rw[e9,T]at j
    refine eG 51 _ _ rfl _ #[.slice p9 nn c9,ag rn] (by simp[Act.eval,j]) (by simp[Act.eval,j]) _ _ (d.c0 Y) qP (by simp) (by simp[Value.oneCell']) ?_
    exact D undef _ ⟨trivial,d.cache Y (by decide) (by decide) (T▸k9),(E.mono fun v l hv=>hv.set (by omega) _).mark 13 (by decide) (by decide) (by decide)⟩
   ·refine eG 93 _ _ rfl _ #[ag 0,ag 0] (by simp[Act.eval,j]) (by simp[Act.eval,j]) _ _ (d.f0 Y) nh (by simp) (by simp[Value.oneCell']) ?_
    exact D undef _ ⟨trivial,d.fault Y (by decide) (by decide),(E.mono fun v l hv=>hv.set (by omega) _).mark 14 (by decide) (by decide) (by decide)⟩
  ·obtain⟨d,_⟩:=d
   have aF:=d.m1 (hM 12 (by decide) rfl)
   obtain⟨v9,hC,aD⟩:=d.c1 (hM 13 (by decide) rfl)
   have hF:=d.f1 (hM 14 (by decide) rfl)
   have al:=d.bel
   have br:=al.size
   have bt:=d.b1
   have bs:=d.b0
   simp only[kn,td,nk,eh,aQ,aX,Act.put,aA,aK,aJ]
   go_wp2_with fail
   exact vW (w.heap.size+3) f RR rn 0 0 v9 rfl rfl rfl rfl aF hC hF (aD.low (by omega)) al
end Go.Proofs.YtaoljfdfhggbbaaGreatDoor
