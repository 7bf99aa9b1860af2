/- Texts of the proof. -/
import Derived.Test.YtpdoienkhgnceaaGreatDoorPt18
set_option maxRecDepth 100000
set_option maxHeartbeats 8000000
namespace Go.Proofs.YtpdoienkhgnceaaGreatDoor
open Go.Proofs.Tryz Go.RowKit Lx Vx Mx Msk
def md (l:List Ru)(day:Int):Int×Nat:=if(dm l).1≠0 then dm l else if day<0\/146097<=day then(3,0) else(0,0)
def lS (l:List Ru)(day:Int):List (Nat->Bool):=if(md l day).1=0 then(List.range l.length).map (gL l (wkB day) day) else []
def vt (w:World)(v:Value)(a:List (Nat->Bool)):Prop:= ∃p c,v= .slice p a.length c/\(a.length<=40/\a.length<=c)/\ ∀(i:Nat) (f:Nat->Bool),a[i]? =some f-> ∃g o:Nat,p=some ⟨g,o,none⟩/\w.rangeAt g (o+i*23) (mv f).toList
def wl (l:List Ru)(day:Int)(w:World)(e:Ending)(a:World):Prop:= ∃v,e= .returned (.tuple #[v,.agg #[ag (md l day).1,ag ((md l day).2:Int)]])/\vt a v (lS l day)/\ao w a
theorem D3 (w:World)(p:Option Addr)(c:Nat):vt w (.slice p 0 c) []:=⟨p,c,rfl,⟨by simp,by simp⟩,fun i f hi=>by simp at hi⟩
theorem PT {w:World}{gm n:Nat}{F:Nat->Nat->Bool}(g:n<=40)(h: ∀i,i<n->w.rangeAt gm (i*23) (mv (F i)).toList):vt w (.slice (some (ae gm 0)) n n) ((List.range n).map F):=by
 refine⟨some ⟨gm,0,none⟩,n,by simp,⟨by simpa using g,by simp⟩,fun i f hi=>⟨gm,0,rfl,?_⟩⟩;rw[bf]at hi;cases hr:(List.range n)[i]? with
 |none=>rw[hr]at hi;cases hi
 |some k=>
  rw[hr]at hi;have d:F k=f:=ay hi;obtain⟨b,c⟩:=aE.1 hr;have e:k=i:=(by rw[<-c];simp);have a:i<n:=(by simpa using b);rw[<-d,e,bN];exact h i a
def lu (n:Nat):Array Value:=madeCells (mv fun _=>false) (n*23)
theorem BY {n i j:Nat}(hi:i<n)(d:j<23):(lu n)[i*23+j]? =(mv fun _=>false)[j]? :=by
 have a:i*23+j<n*23:=by
  have:(i+1)*23<=n*23:=Nat.mul_le_mul_right 23 hi;omega
 have b:(i*23+j)%23=j:=by omega
 have c:j<(mv fun _=>false).size:=by rw[bU];exact d
 simp[lu,madeCells,a,bU,b];rw[Array.getElem!_eq_getD,Array.getD_eq_getD_getElem?,eO c];rfl
theorem D4 {w:World}{g n:Nat}{t:TypeId}(h:w.heap[g]? =ah (lu n) t){i:Nat}(hi:i<n):w.rangeAt g (i*23) (mv fun _=>false).toList:=fun j v a=>by
 have b:j<23:=by
  have:=(aE.1 a).1;rw[cg,bU]at this;exact this
 rw[aW _ _ _ _ _ _ h,BY hi b,<-bq];exact a
theorem K9:(prog.info? 39).map (fun i=>(i.zero,i.size,i.bytes))=some (some (.agg #[.int .u64 0, .int .u64 0, .int .u64 0, .int .u64 0, .int .u64 0, .int .u64 0, .int .u64 0, .int .u64 0, .int .u64 0, .int .u64 0, .int .u64 0, .int .u64 0, .int .u64 0, .int .u64 0, .int .u64 0, .int .u64 0, .int .u64 0, .int .u64 0, .int .u64 0, .int .u64 0, .int .u64 0, .int .u64 0, .int .u64 0]),23,184):=by kernel_rfl
theorem II:prog.underlying 29=some (.slice 39):=by kernel_rfl
theorem zQ (n:Nat)(g:n<=1000)(w:World):(Instr.makeSlice 29 (ag (n:Int)) (ag (n:Int))).run prog w= .ok (.slice (some (ae w.heap.size 0)) n n) (w.alloc (.cells (lu n) 39)):=by
 obtain⟨i,hi,a⟩:=eU.1 K9;simp only[Prod.mk.injEq]at a;obtain⟨f,d,c⟩:=a;have b:=run_make (P:=prog) w 29 39 i _ II hi f .i64 .i64 n n (by omega) (gy _) (by rw[c];omega) (by omega);rw[d]at b;have e:(Value.agg #[.int .u64 0, .int .u64 0, .int .u64 0, .int .u64 0, .int .u64 0, .int .u64 0, .int .u64 0, .int .u64 0, .int .u64 0, .int .u64 0, .int .u64 0, .int .u64 0, .int .u64 0, .int .u64 0, .int .u64 0, .int .u64 0, .int .u64 0, .int .u64 0, .int .u64 0, .int .u64 0, .int .u64 0, .int .u64 0, .int .u64 0]).cells=mv fun _=>false:=ea;rw[e]at b;simpa[lu] using b
structure AJ (B:World)(n:Nat)(day:Int)(sl:Value)(l:List Ru)(M:Nat->Bool)(φ:Nat->Value)(W:World):Prop where
 bel:ao B W
 m:M 3=true-> ∃mb,φ 25= .map (some mb)/\jn W mb l
 k:M 6=true-> ∃gk:Nat,φ 28= .slice (some (ae gk 0)) n n/\B.heap.size<=gk/\W.heap[gk]? =ah (fI n fun _=>false) 4
 g:M 9=true-> ∃gm:Nat,φ 31= .slice (some (ae gm 0)) n n/\B.heap.size<=gm/\W.heap[gm]? =ah (lu n) 39
 a:M 10=true->φ 32= .agg #[ag day,sl,φ 25,φ 28,φ 31]
 d:M 11=true-> ∃g:Nat,φ 7=ab g 0/\B.heap.size<=g/\W.heap[g]? =ah #[ag 0,af,.map none,af,af] 70
theorem AJ.below {B:World}{n:Nat}{day:Int}{sl:Value}{l:List Ru}{M:Nat->Bool}{φ:Nat->Value}{W b:World}(h:AJ B n day sl l M φ W)(f:ao W b):AJ B n day sl l M φ b:=by
 have c: ∀{k:Nat} {o:Obj},W.heap[k]? =some o->b.heap[k]? =some o:=fun h=>ai f h;exact⟨au h.bel f,fun e=>(h.m e).imp fun _ q=>⟨q.1,q.2.later (f.block _ (ij q.2))⟩,fun e=>(h.k e).imp fun _ q=>⟨q.1,q.2.1,c q.2.2⟩,fun e=>(h.g e).imp fun _ q=>⟨q.1,q.2.1,c q.2.2⟩,h.a,fun e=>(h.d e).imp fun _ q=>⟨q.1,q.2.1,c q.2.2⟩⟩
theorem MD.begin {w W:World}{n g gk gm mb:Nat}{day:Int}{sl:Value}{l:List Ru}{V:Nat->Nat->Bool}{p:Array Value}(x:ao w W)(s:jn W mb l)(r:w.heap.size<=g)(d:W.heap[g]? =ah p 70)
  (j:w.heap.size<=gk) (b:W.heap[gk]? =ah (fI n fun _=>false) 4) (k:w.heap.size<=gm) (a:W.heap[gm]? =ah (lu n) 39):
  MI ⟨w,n,g,gk,gm,mb,day,sl,l,V⟩ (fun _=>false) (W.setRow g #[ag day,sl,.map (some mb),.slice (some (ae gk 0)) n n,.slice (some (ae gm 0)) n n]):=by
 have t:g≠gk:=fun e=>by subst e;rw[d]at b;cases b
 have o:g≠gm:=fun e=>by subst e;rw[d]at a;cases a
 have z:gk≠gm:=fun e=>by
  subst e;rw[b]at a;injection a with u;injection u with _ v;exact absurd v (by decide)
 obtain⟨D,c,m,_⟩:=id s;have A:mb≠gk:=fun e=>by subst e;rw[m]at b;cases b
 have B:mb≠gm:=fun e=>by subst e;rw[m]at a;cases a
 have C:mb≠g:=fun e=>by subst e;rw[m]at d;cases d
 have f: ∀q,q≠g->(W.setRow g #[ag day,sl,.map (some mb),.slice (some (ae gk 0)) n n,.slice (some (ae gm 0)) n n]).heap[q]? =W.heap[q]? :=fun q y=>aQ _ _ _ _ y;refine⟨fun _ _=>false,⟨below_setRow x r _,aK _ _ _ _ _ _ d,(f _ (fun e=>t e.symm)).trans b,fun i hi=> ?_,⟨_,(f _ (fun e=>o e.symm)).trans a⟩,s.later (f _ C),⟨r,j,k⟩,t,o,z,A,B⟩,fun _ _ h=>by cases h⟩;exact D4 ((f _ (fun e=>o e.symm)).trans a) hi
theorem sy {R:Ending->World->Prop}{a:Act}{w:World}(g:Nat)(v:Value)(er at_:Int)(i:a.defers=[])(d:a.tmps.getD 4 undef=v)(e:a.tmps.getD 5 undef=ab g 0)
  (j:w.heap[g]? =ah #[ag er,ag at_] 26) (f:R (.returned (.tuple #[v,.agg #[ag er,ag at_]])) w):bodyPost prog f6 R .ret a w:=by
 refine aX (v:= .tuple #[v,.agg #[ag er,ag at_]]) ?_ i f;have b:a.tmps[4]?.getD undef=v:=by simpa using d
 have c:a.tmps[5]?.getD undef=ab g 0:=by simpa using e
 have k:=dZ (P:=prog) w g 26 26 _ _ _ j od rfl (by kernel_rfl);simp[results,results6,b,c,asAddr,k]
theorem D5 (us:List (Ru×Value))(v:Value)(day:Int)(w:World)(h:InR w v us):Calls prog 6 #[v,ag day] w (wl (us.map (fun p=>p.1)) day w):=by
 obtain⟨l,hl⟩:=aq (us.map (fun p=>p.1));obtain⟨n,R⟩:=aq us.length;have a9:l.length=n:=by rw[<-hl,bm,R]
 obtain⟨z,y,rfl⟩:=h.form;have bA:=am w (.cells #[ag 0,ag 0] 26);have n1:=aB w (.cells #[ag 0,ag 0] 26);generalize aX:w.alloc (.cells #[ag 0,ag 0] 26)=wA at*;have cW:=vZ us _ wA (h.below bA);rw[hl]at cW;rw[hl,R];have HL:=aG hl;have T:=aG R;have aa:=aG a9;have ar:=aG h;rw[R]at cW;go_enter func6,ntmps6;go_wp2_with fail;refine cW.mono ?_;rintro r w1 ⟨rfl,ah⟩;have m2:=ai ah n1;have Q:=au bA ah;by_cases h0:(dm l).1=0
 ·obtain⟨aO,_⟩:=ma h0;have ac:=(ua aO).1;rw[aa.o]at ac;have H0:=aG h0;rw[h0];generalize (((dm l).2:Nat):Int)=A at*;have bC:=am w1 (.cells #[ag 0,ag A] 26);have s:=aG (au Q bC);have HR:=aG (ai bC m2);have m3:=aB w1 (.cells #[ag 0,ag A] 26);have ab:=aG ac;have aU:(n:Int)<=40:=(by omega);generalize aP:w1.alloc (.cells #[ag 0,ag A] 26)=wB at*;have HI:=aG (ar.o.below s.o);have z0:=ak 0 m3;by_cases hd:day<0\/146097<=day
  ·have O:T4 (md l day=(3,0)):=by
    show _=_;unfold md;rw[aw (by simpa using H0.o),ax hd]
   have HO:T4 (∀cs,wl l day w (.returned (.tuple #[af,.agg #[ag 3,ag 0]])) (wB.setRow w.heap.size cs)):=fun cs=>by
    have Y:lS l day=[]:=by
     unfold lS;rw[O.o];rfl
    refine⟨_,by rw[O.o];rfl,?_,below_setRow s.o (aA _) _⟩;rw[Y];exact D3 _ _ _
   have x:=HR.o;by_cases a5:day<0
   ·go_wp2_with(refine aC rfl 26 _ _ rfl _ _ rfl rfl _ _ x (by kernel_rfl) (by simp) (by simp[Value.oneCell']) ?_)
    exact sy w.heap.size _ 3 0 rfl rfl rfl (aK _ _ _ _ _ _ x) (HO.o _)
   ·have a6:146097<=day:=(by omega);go_wp2_with(refine aC rfl 26 _ _ rfl _ _ rfl rfl _ _ x (by kernel_rfl) (by simp) (by simp[Value.oneCell']) ?_)
    exact sy w.heap.size _ 3 0 rfl rfl rfl (aK _ _ _ _ _ _ x) (HO.o _)
  ·have O:T4 (md l day=(0,0)):=by
    show _=_;unfold md;rw[aw (by simpa using H0.o),aw hd]
   have av:T4 (lS l day=(List.range n).map (gL l (wkB day) day)):=by
    show _=_;unfold lS;rw[O.o,aa.o];rfl
   have a5: ¬day<0:=fun e=>hd (.inl e);have a6: ¬146097<=day:=fun e=>hd (.inr e)
   have Hall:T4 (∀(g gk gm mb i:Nat),i<n->zO ⟨wB,n,g,gk,gm,mb,day,.slice z n y,l,gL l (wkB day) day⟩ (i:Int) (gL l (wkB day) day i)):=fun g gk gm mb i hi=>by
    have al:=HI.o;rw[T.o]at al;exact BX (D:=⟨wB,n,g,gk,gm,mb,day,.slice z n y,l,gL l (wkB day) day⟩) al HL.o T.o H0.o (by show 0<=day;omega) (by show day<146097;omega) (fun _=>rfl) (muR l i+1) i hi (by show muR l i<muR l i+1;omega)
   have Hmb:=aG (run_make_row' (P:=prog) 68 4 (.bool false) 1 BA Dz rfl .i64 .i64 n (by omega) (by omega));rw[xh]at Hmb;have Hmm:=aG (zQ n (by omega));go_wp2_with fail;refine sL 12 (AJ wB n day (.slice z n y) l) [kn 22 (ag day),kn 23 (.slice z n y),kn 24 (.slice z n y),td 25,kn 26 (.slice z n y),kn 27 (ag (n:Int)),td 28,kn 29 (.slice z n y),kn 30 (ag (n:Int)),td 31,td 32,td 7,nk] (fun _=>⟨(aF _ _).drew,(fun h=>by cases h),(fun h=>by cases h),(fun h=>by cases h),(fun h=>by cases h),(fun h=>by cases h)⟩) (fun _ _ _ _ Z h=>h.below Z) (by kernel_rfl) (by kernel_rfl) (fun M φ L J b F l' hl hF=> ?_);simp only[kn,td,nk,d6,aR,a8,Act.put,aD,aJ,aI]at hl;subst hl;simp only[dz,Nat.reduceAdd]at hF;dsimp only[kn,td,nk,dK,fo,eD,Act.put];and_intros;all_goals first|exact trivial|intro S R hm K X
   all_goals try (go_simp;with_reducible exact X _ _ ⟨rfl,aF _ _⟩)
   ·have cN:=pU us _ L (HI.o.below b.bel);rw[T.o]at cN;have I:=R 10 _ rfl (by kernel_rfl);go_simp;refine cN.mono ?_;rintro e' W' ⟨mb,rfl,_,N,a3⟩;rw[HL.o]at N;have f:=b.below a3;exact X _ _ ⟨trivial,fun _=>⟨f.bel,fun _=>⟨mb,dX ..,N⟩,fun e=>f.k (by simpa using e),fun e=>f.g (by simpa using e),(fun e=>by simp[I]at e),fun e=>f.d (by simpa using e)⟩,(fun e=>by simp[J]at e)⟩
   ·have aL:=Hmb.o L;have Z:=am L (.cells (fI n fun _=>false) 4);have I:=R 10 _ rfl (by kernel_rfl);have f:=b.below Z;go_simp;exact X _ _ ⟨trivial,fun _=>⟨f.bel,fun e=>f.m (by simpa using e),fun _=>⟨_,dX ..,b.bel.size,aB L _⟩,fun e=>f.g (by simpa using e),(fun e=>by simp[I]at e),fun e=>f.d (by simpa using e)⟩,(fun e=>by simp[J]at e)⟩
   ·have aL:=Hmm.o L;have Z:=am L (.cells (lu n) 39);have I:=R 10 _ rfl (by kernel_rfl);have f:=b.below Z;go_simp;exact X _ _ ⟨trivial,fun _=>⟨f.bel,fun e=>f.m (by simpa using e),fun e=>f.k (by simpa using e),fun _=>⟨_,dX ..,b.bel.size,aB L _⟩,(fun e=>by simp[I]at e),fun e=>f.d (by simpa using e)⟩,(fun e=>by simp[J]at e)⟩
   ·obtain⟨mb,B,_⟩:=b.m (S ⟨3,.data⟩ (by simp) rfl rfl);obtain⟨gk,C,_⟩:=b.k (S ⟨6,.data⟩ (by simp) rfl rfl);obtain⟨gm,E,_⟩:=b.g (S ⟨9,.data⟩ (by simp) rfl rfl);rw[B,C,E]at hF;go_simp;exact X _ _ ⟨trivial,fun _=>⟨b.bel,fun e=>b.m (by simpa using e),fun e=>b.k (by simpa using e),fun e=>b.g (by simpa using e),fun _=>by simp[rj,B,C,E],fun e=>b.d (by simpa using e)⟩,(fun e=>by simp[J]at e)⟩
   ·have Z:=am L (.cells #[ag 0,af,.map none,af,af] 70);have f:=b.below Z;go_simp;exact X _ _ ⟨trivial,fun _=>⟨f.bel,fun e=>f.m (by simpa using e),fun e=>f.k (by simpa using e),fun e=>f.g (by simpa using e),fun e=>f.a (by simpa using e),fun _=>⟨_,dX ..,b.bel.size,aB L _⟩⟩,(fun e=>by simp[J]at e)⟩
   ·obtain⟨H,B,N⟩:=b.m (S ⟨3,.phase⟩ (by simp) rfl rfl);obtain⟨G,C,az,aS⟩:=b.k (S ⟨6,.phase⟩ (by simp) rfl rfl);obtain⟨u,E,a0,aT⟩:=b.g (S ⟨9,.phase⟩ (by simp) rfl rfl);obtain⟨g,e7,b7,k7⟩:=b.d (S ⟨11,.data⟩ (by simp) rfl rfl);have U:=b.a (S ⟨10,.data⟩ (by simp) rfl rfl);rw[B,C,E]at U;rw[U,e7]at hF;have aN:=MD.begin (day:=day) (sl:= .slice z n y) (V:=gL l (wkB day) day) b.bel N b7 k7 az aS a0 aT;refine eo 70 _ _ rfl _ #[ag day,.slice z n y,.map (some H),.slice (some (ae G 0)) n n,.slice (some (ae u 0)) n n] (by simp[Act.eval,hF]) (by simp[Act.eval,hF]) _ _ k7 (by kernel_rfl) (by simp) (by simp[Value.oneCell']) ?_;refine X undef _ ⟨trivial,(fun c=>by simp at c),fun _=> ?_⟩;simp only[ep,aR,a8,Act.put,aD,aJ,aI,B,C,E,U,e7];generalize L.setRow g #[ag day,.slice z n y,.map (some H),.slice (some (ae G 0)) n n,.slice (some (ae u 0)) n n]=W5 at*;have cR:=Hall.o g G u H;have HC:=aG cR;go_wp2_with fail;go_loopw [8,35] (fun _ t wr=> ∃j:Nat,t=ag (j:Int)/\j<=n/\ ∃K,MI ⟨wB,n,g,G,u,H,day,.slice z n y,l,gL l (wkB day) day⟩ K wr/\ ∀k,k<j->K k=true) (fun _ t _=>n-(intOf t).toNat);case atStart=>exact⟨0,rfl,by omega,_,aN,fun k hk=>by omega⟩
    case round=>
     obtain⟨j,rfl,hj,K,N,ad⟩:=hrel;have aV:(0:Int)<=(j:Int):=(by omega);have HA:=aG ad;by_cases aE:j<n
     ·have an:(j:Int)<(n:Int):=(by omega);have cJ:=HC.o j aE K wr N;go_wp2_with fail;refine cJ.mono ?_;rintro r W6 ⟨rfl,⟨K',a2,a7,a1⟩,_⟩
      have HN:T4 (∃K,MI ⟨wB,n,g,G,u,H,day,.slice z n y,l,gL l (wkB day) day⟩ K W6/\ ∀k,k<j+1->K k=true):=⟨K',a2,fun k hk=>by
       by_cases e:k=j
       ·subst e;simpa using a1
       ·exact a7 k (HA.o k (by omega))⟩
      go_wp2_with fail;go_roundw;case rel=>exact⟨j+1,by go_num,by omega,HN.o⟩
      case measure=>simp[intOf];omega
     ·have ej:j=n:=(by omega);have an: ¬(j:Int)<(n:Int):=(by omega);have k4:=ak 4 N.blk;have aj:=N.bel;have x:=ai aj HR.o
      have HO:T4 (∀cs,wl l day w (.returned (.tuple #[.slice (some (ae u 0)) n n,.agg #[ag 0,ag 0]])) (wr.setRow w.heap.size cs)):=fun cs=>by
       obtain⟨M,h1,h2⟩:=N;have a4:=below_setRow (au s.o aj) (aA w.heap.size) cs;refine⟨_,by rw[O.o];rfl,?_,a4⟩;rw[av.o];refine PT ab.o (fun i hi=> ?_);have h3:=h2 i hi (HA.o i (by omega));have h4:=MSt.meant h1 i hi;rw[h3]at h4;intro q v hv;rw[<-h4 q v hv];exact dP (aQ _ _ _ _ (by have:=(MSt.lo h1).2.2;have:=s.o.size;have:=aH HR.o;dsimp only at*;omega))
      go_wp2_with(refine aC rfl 26 _ _ rfl _ _ rfl rfl _ _ x (by kernel_rfl) (by simp) (by simp[Value.oneCell']) ?_)
      exact sy w.heap.size _ 0 0 rfl rfl rfl (aK _ _ _ _ _ _ x) (HO.o _)
 ·have H0:=aG h0
  have O:T4 (md l day=dm l):=by
   show _=_;unfold md;rw[ax h0]
  have aW:((dm l).1 !=0)=true:=(by simpa using h0);have bC:=am w1 (.cells #[ag (dm l).1,ag ((dm l).2:Int)] 26);have s:=aG (au Q bC);have x:=ai bC m2;have m3:=aB w1 (.cells #[ag (dm l).1,ag ((dm l).2:Int)] 26);generalize aP:w1.alloc (.cells #[ag (dm l).1,ag ((dm l).2:Int)] 26)=wB at*
  have HO:T4 (∀W,ao w W->wl l day w (.returned (.tuple #[af,.agg #[ag (dm l).1,ag ((dm l).2:Int)]])) W):=fun W hW=>by
   have Y:lS l day=[]:=by
    unfold lS;rw[O.o,aw H0.o]
   refine⟨_,by rw[O.o],?_,hW⟩;rw[Y];exact D3 _ _ _
  have z0:=ak 0 m3;have z1:=ak 1 m3;have y0:=ak 0 x;have y1:=ak 1 x;have x0:=bu _ _ 0 _ _ x;have x1:=bu _ _ 1 _ _ x;have aM:=aY _ _ 1 _ _ (ag ((dm l).2:Int)) (aY _ _ 0 _ _ (ag (dm l).1) x);have ap:=aG ((s.o.setCell (p:=⟨w.heap.size,0,none⟩) (aA _) (ag (dm l).1)).setCell (p:=⟨w.heap.size,1,none⟩) (aA _) (ag ((dm l).2:Int)));have ay:=aG aM;generalize (dm l).1=er at*;generalize (((dm l).2:Nat):Int)=A at*;go_wp2_with fail;go_region;go_wp2_with fail;exact sy w.heap.size _ er A rfl rfl rfl ay.o (HO.o _ (du ap.o 1))
end Go.Proofs.YtpdoienkhgnceaaGreatDoor
