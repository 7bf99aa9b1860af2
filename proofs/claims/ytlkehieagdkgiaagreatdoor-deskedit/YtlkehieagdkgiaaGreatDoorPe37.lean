/- Texts of the proof. -/
import Derived.Test.YtlkehieagdkgiaaGreatDoorPe36
set_option maxRecDepth 100000
set_option maxHeartbeats 8000000
namespace Go.Proofs.YtlkehieagdkgiaaGreatDoor
open Go.Proofs.Tryz Go.RowKit Lx Vx Mx Msk
section
structure TwJ (w0:World)(T:TypeId)(z c1 c2:Array Value)(a sa sb:Nat)(M:Nat->Bool)(φ:Nat->Value)(W:World):Prop where
 bel:aq w0 W
 ea:M a=true-> ∃g,φ sa=ab g 0/\w0.heap.size<=g/\W.heap[g]? =ah (bif M (a+2) then c1 else z) T
 eb:M (a+1)=true-> ∃g,φ sb=ab g 0/\w0.heap.size<=g/\W.heap[g]? =ah (bif M (a+3) then c2 else z) T
 ne:M a=true->M (a+1)=true->φ sa≠φ sb
section
variable {w0 W W':World} {T:TypeId} {z c1 c2:Array Value} {a sa sb k:Nat} {M:Nat->Bool} {φ:Nat->Value} {s:Option Nat} {u:Value}
theorem TwJ.start (h:aq w0 W):TwJ w0 T z c1 c2 a sa sb (fun _=>false) φ W:=⟨h,(fun h=>by cases h),(fun h=>by cases h),fun h=>by cases h⟩
theorem TwJ.below (h:TwJ w0 T z c1 c2 a sa sb M φ W)(f:aq W W'):TwJ w0 T z c1 c2 a sa sb M φ W' where
 bel:=aw h.bel f
 ea c:=by obtain⟨g,e,b,d⟩:=h.ea c;exact⟨g,e,b,bt f d⟩
 eb c:=by obtain⟨g,e,b,d⟩:=h.eb c;exact⟨g,e,b,bt f d⟩
 ne:=h.ne
theorem TwJ.alA (h:TwJ w0 T z c1 c2 a sa sb M φ W)(f:sa≠sb)(k:M (a+2)=false):TwJ w0 T z c1 c2 a sa sb (fun x=>decide (a=x)||M x) (oQ φ (some sa) (ab W.heap.size 0)) (W.alloc (.cells z T)):=by
 have d:=am W (.cells z T);refine⟨aw h.bel d,fun _=>⟨_,dV,h.bel.size,?_⟩,fun c=> ?_,fun _ c e=> ?_⟩
 ·rw[orZ (by omega),k];exact aG _ _
 ·rw[orZ (by omega)]at c⊢;rw[dH f];obtain⟨g,e,j,b⟩:=h.eb c;exact⟨g,e,j,bt d b⟩
 ·rw[orZ (by omega)]at c;obtain⟨g,i,_,b⟩:=h.eb c;rw[dV,dH f,i]at e;injection e with e;injection e with e;injection e with e;have:=aI b;omega
theorem TwJ.alB (h:TwJ w0 T z c1 c2 a sa sb M φ W)(f:sa≠sb)(k:M (a+3)=false):TwJ w0 T z c1 c2 a sa sb (fun x=>decide (a+1=x)||M x) (oQ φ (some sb) (ab W.heap.size 0)) (W.alloc (.cells z T)):=by
 have d:=am W (.cells z T);refine⟨aw h.bel d,fun c=> ?_,fun _=>⟨_,dV,h.bel.size,?_⟩,fun c _ e=> ?_⟩
 ·rw[orZ (by omega)]at c⊢;rw[dH f.symm];obtain⟨g,e,j,b⟩:=h.ea c;exact⟨g,e,j,bt d b⟩
 ·rw[orZ (by omega),k];exact aG _ _
 ·rw[orZ (by omega)]at c;obtain⟨g,i,_,b⟩:=h.ea c;rw[dV,dH f.symm,i]at e;injection e with e;injection e with e;injection e with e;have:=aI b;omega
theorem TwJ.stA (h:TwJ w0 T z c1 c2 a sa sb M φ W)(k:M a=true)(n:M (a+2)=false): ∃g,φ sa=ab g 0/\W.heap[g]? =ah z T/\TwJ w0 T z c1 c2 a sa sb (fun x=>decide (a+2=x)||M x) φ (W.setRow g c1):=by
 obtain⟨g,e,l,f⟩:=h.ea k;rw[n]at f;refine⟨g,e,f,below_setRow h.bel l _,fun _=>⟨g,e,l,?_⟩,fun c=> ?_,fun c d=> ?_⟩
 ·rw[bh rfl,Bool.true_or];exact aL _ _ _ _ _ _ f
 ·rw[orZ (by omega)]at c⊢;obtain⟨m,j,b,i⟩:=h.eb c;exact⟨m,j,b,(aW _ _ _ _ fun q=>h.ne k c (by rw[e,j,q])).trans i⟩
 ·exact h.ne (by rwa[orZ (by omega)]at c) (by rwa[orZ (by omega)]at d)
theorem TwJ.stB (h:TwJ w0 T z c1 c2 a sa sb M φ W)(k:M (a+1)=true)(n:M (a+3)=false): ∃g,φ sb=ab g 0/\W.heap[g]? =ah z T/\TwJ w0 T z c1 c2 a sa sb (fun x=>decide (a+3=x)||M x) φ (W.setRow g c2):=by
 obtain⟨g,e,l,f⟩:=h.eb k;rw[n]at f;refine⟨g,e,f,below_setRow h.bel l _,fun c=> ?_,fun _=>⟨g,e,l,?_⟩,fun c d=> ?_⟩
 ·rw[orZ (by omega)]at c⊢;obtain⟨m,j,b,i⟩:=h.ea c;exact⟨m,j,b,(aW _ _ _ _ fun q=>h.ne c k (by rw[e,j,q])).trans i⟩
 ·rw[bh rfl,Bool.true_or];exact aL _ _ _ _ _ _ f
 ·exact h.ne (by rwa[orZ (by omega)]at c) (by rwa[orZ (by omega)]at d)
end
end
structure tM (B:Nat)(w:World)(c:Co)(rv ev sv av:Value)(ss:List (Sv×Value))(aa:List (Ap×Value)):Prop where
 rules: ∃us,InR w rv us/\us.map (fun p=>p.1)=c.rules
 res:w.ownsRow B 9 1 ev c.res.length (c.res.map jU)
 svs:w.ownsRow B 36 4 sv ss.length (svF ss)
 sve:ss.map (fun p=>p.1)=c.svs
 svr: ∀q∈ss,fu w q.2 q.1.roles
 aps:w.ownsRow B 45 11 av aa.length (apF aa)
 ape:aa.map (fun p=>p.1)=c.aps
 apr: ∀q∈aa,dM w q.2 q.1.who
theorem pD.ds {B:Nat}{w:World}{p:List An×Dk}{c ev sv av a:Value}{d:List (Sv×Value)}{b:List (Ap×Value)}{e:List (An×Value×Value)}(h:pD B w p c ev sv av a d b e):tM B w (coD p.2) c ev sv av d b:=⟨h.rules,h.res,h.svs,h.sve,h.svr,h.aps,h.ape,h.apr⟩
theorem tM.below {B:Nat}{w w':World}{c:Co}{i ev sv av:Value}{j:List (Sv×Value)}{f:List (Ap×Value)}(h:tM B w c i ev sv av j f)(d:aq w w'):tM B w' c i ev sv av j f:=by
 have rk: ∀{e s n:Nat} {u:Value} {xs:List Value},w.ownsRow B e s u n xs->w'.ownsRow B e s u n xs:=fun g=>br g fun b a=>d.block b (g.lt b a).2;obtain⟨m,k,l⟩:=h.rules;exact⟨⟨m,k.below d,l⟩,rk h.res,rk h.svs,h.sve,fun q a=>(h.svr q a).below d,rk h.aps,h.ape,fun q a=>(h.apr q a).below d⟩
theorem Fg {α β:Type}{l c:List (α×β)}(h:c.map (fun p=>p.1)=l.map (fun p=>p.1)){j:Nat}{a:α}{u:β}(g:l[j]? =some (a,u)): ∃b,c[j]? =some (a,b):=by
 have e:=congrArg (fun l=>l[j]?) h;rw[a8,a8,g]at e;obtain⟨⟨i,b⟩,d,f⟩:=eh.1 e;cases f;exact⟨b,d⟩
theorem Oe (s:List UInt8):((s !=s):Bool)=false:=by simp
theorem Bw (B B':Nat)(c:Co)(rv ev sv av aI a9 aL a5:Value)(ss ai:List (Sv×Value))(aa ac:List (Ap×Value))(w:World)(ha:tM B w c rv ev sv av ss aa)(k:tM B' w c aI a9 aL a5 ai ac):Calls prog 13 #[.agg #[rv,ev,sv,av],.agg #[aI,a9,aL,a5]] w fun e w'=>e= .returned (.bool true)/\aq w w':=by
 obtain⟨us,hu,aD⟩:=ha.rules;obtain⟨aN,a3,ak⟩:=k.rules;obtain⟨pr,ba,rfl⟩:=hu.form;obtain⟨bs,aZ,rfl⟩:=a3.form;obtain⟨pe,ce,rfl⟩:=cg ha.res;obtain⟨br,aY,rfl⟩:=cg k.res;obtain⟨ps,cs,bn⟩:=cg ha.svs;obtain⟨bu,a7,aG⟩:=cg k.svs;obtain⟨pa,ca,bm⟩:=cg ha.aps;obtain⟨bq,a6,aF⟩:=cg k.aps;subst bn aG bm aF;obtain⟨wA,hA,bA,nA⟩:=nb w #[.slice pr us.length ba,.slice pe c.res.length ce,.slice ps ss.length cs,.slice pa aa.length ca] 29;obtain⟨wB,hB,bB,S⟩:=nb wA #[.slice bs aN.length aZ,.slice br c.res.length aY,.slice bu ai.length a7,.slice bq ac.length a6] 29;have m:=aw bA bB;have A:=bt bB nA;have HA:=aE (ha.below m);have HB:=aE (k.below m);have cR:=JU us aN _ _ wB (hu.below m) (a3.below m) (aD.trans ak.symm);have es:ai.map (fun p=>p.1)=ss.map (fun p=>p.1):=k.sve.trans ha.sve.symm;have ea:ac.map (fun p=>p.1)=aa.map (fun p=>p.1):=k.ape.trans ha.ape.symm;have ls:ai.length=ss.length:=by simpa using congrArg List.length es
 have la:ac.length=aa.length:=by simpa using congrArg List.length ea
 have ar:=xN ha.res;have bj:=xN ha.svs;have bk:=xN ha.aps;rw[ls,la]at hB S⊢;obtain⟨n2,ax⟩:=au c.res.length;obtain⟨n3,a0⟩:=au ss.length;obtain⟨n4,a1⟩:=au aa.length;rw[ax]at ar hA hB A nA S⊢;rw[a0]at bj hA hB A nA S⊢;rw[a1]at bk hA hB A nA S⊢;have aU:=aE es;have aS:=aE ea;have bx:=aE ls;have bw:=aE la;have ao:=aE ax;have aV:=aE a0;have aW:=aE a1;have x0:=cr 0 A rfl;have x1:=cr 1 A rfl;have x2:=cr 2 A rfl;have O:=cr 3 A rfl;have y0:=cr 0 S rfl;have y1:=cr 1 S rfl;have y2:=cr 2 S rfl;have P:=cr 3 S rfl;have HW:=aE m;have NA:=aE A;have NB:=aE S;have h2:((n2:Int) !=(n2:Int))=false:=by simp
 have h3:((n3:Int) !=(n3:Int))=false:=by simp
 have h4:((n4:Int) !=(n4:Int))=false:=by simp
 clear ha k hu a3 aD ak es ea ls la ax a0 a1 bA bB nA S A m;go_enter func13,ntmps13;go_wp2_with fail;refine cR.mono ?_;rintro e wC ⟨rfl,bC⟩;clear cR;replace x1:=aj bC x1;replace x2:=aj bC x2;replace O:=aj bC O;replace y1:=aj bC y1;replace y2:=aj bC y2;replace P:=aj bC P;have HC:=aE bC;clear x0 y0 bC;go_wp2_with fail;clear h2 h3 h4;go_loopw [5,49] (fun _ t wr=> ∃j:Nat,t=ag (j:Int)/\j<=n2/\aq wC wr) (fun _ t _=>n2-(intOf t).toNat);case atStart=>exact⟨0,rfl,dF _,aH _ _⟩
 case round=>
  obtain⟨j,rfl,hj,b⟩:=hrel;have ad:(0:Int)<=(j:Int):=(by omega);by_cases ah:j<n2
  ·have r:(j:Int)<(n2:Int):=(by omega);have n: ∃x,c.res[j]? =some x:=⟨c.res[j]'(by have:=ao.o;omega),ay _⟩
   obtain⟨s,n⟩:=n;have hs:(c.res.map jU)[j]? =some (jU s):=(by rw[a8,n];rfl);obtain⟨ga,c1,v,_,k1⟩:=nJ HA.o.res (by have:=ao.o;omega);obtain⟨gb,c2,y,_,k2⟩:=nJ HB.o.res (by have:=ao.o;omega);injection v with v e5 e3;injection y with y e6 e4;clear e5 e6;subst v y e3 e4;have f:=aw HC.o b;have u1:wr.cell? (ae ga j)=some (.string ⟨s.toArray⟩):=(f.cell (cZ (k1 _ _ hs))).trans (k1 _ _ hs);have u2:wr.cell? (ae gb j)=some (.string ⟨s.toArray⟩):=(f.cell (cZ (k2 _ _ hs))).trans (k2 _ _ hs);have z2:=aj b x1;have z3:=aj b y1;have b0:=Oe s;clear n hs k1 k2 f x1 x2 O y1 y2 P;go_wp2_with fail;go_quiet (fail);have bc:=du b nq;clear b u1 u2 z2 z3;go_wp2_with fail;go_roundw;case rel=>exact⟨j+1,by go_num,by omega,bc⟩
   case measure=>simp[intOf];omega
  ·have r: ¬(j:Int)<(n2:Int):=(by omega);replace x2:=aj b x2;replace O:=aj b O;replace y2:=aj b y2;replace P:=aj b P;have an:=aE (aw HC.o b);clear b x1 y1 HC;go_wp2_with fail;clear ah r ad;obtain⟨wD,rfl⟩: ∃q,q=wr:=⟨_,rfl⟩
   go_loopw [6,7,8,9,67] (fun _ _ _ _ t wr=> ∃j:Nat,t=ag (j:Int)/\j<=n3/\aq wD wr) (fun _ _ _ _ t _=>n3-(intOf t).toNat);case atStart=>exact⟨0,rfl,dF _,aH _ _⟩
   case round=>
    obtain⟨j,rfl,hj,b⟩:=hrel;have ad:(0:Int)<=(j:Int):=(by omega);by_cases ah:j<n3
    ·have r:(j:Int)<(n3:Int):=(by omega);have n: ∃x,ss[j]? =some x:=⟨ss[j]'(by have:=aV.o;omega),ay _⟩
     obtain⟨⟨s,v1⟩,n⟩:=n;obtain⟨v2,hy⟩:=Fg aU.o n;have r1:=HA.o.svr _ (aM n);have r2:=HB.o.svr _ (aM hy);dsimp only at r1 r2;obtain⟨p1,T,rfl,bl,aB⟩:=r1;obtain⟨p2,U,rfl,_,aC⟩:=r2;obtain⟨ga,c1,v,_,J⟩:=iJ rB HA.o.svs rfl n;obtain⟨gb,c2,y,_,L⟩:=iJ rB HB.o.svs rfl hy;injection v with v e5 e3;injection y with y e6 e4;clear e5 e6;subst v y e3 e4;have f:=aw an.o b;replace J:=eB J f;replace L:=eB L f;have z2:=aj b x2;have z3:=aj b y2;have al:=aE b;have aO:=aE f;have Y:=aE aB;have Z:=aE aC;clear n hy f aB aC b x2 O y2 P;go_upto_region 12 with fail;refine dl (TwJ wr 36 #[ag 0,ag 0,ag 0,af] (svC (s,.slice p1 s.roles.length T)) (svC (s,.slice p2 s.roles.length U)) 10 7 8) [kn 70 (ab w.heap.size 2),kn 71 (.slice (some (ae ga 0)) n3 cs),kn 72 (ag (j:Int)),kn 73 (ab ga (j*4)),kn 74 (.agg (svC (s,.slice p1 s.roles.length T))),kn 75 (ab wA.heap.size 2),kn 76 (.slice (some (ae gb 0)) n3 a7),kn 77 (ag (j:Int)),kn 78 (ab gb (j*4)),kn 79 (.agg (svC (s,.slice p2 s.roles.length U))),td 7,td 8,nk,nk] (fun _=>TwJ.start (aH _ _).drew) (fun _ _ _ _ k h=>h.below k) (by kernel_rfl) ?_ ?_
     ·rintro M φ W E _ F l hl D;have k:=E.bel;have V:=fun(q:Addr) (x:Value) (h:wr.cell? q=some x)=>aj k h;have z2:=V _ _ z2;have z3:=V _ _ z3;have J:=eB J k;have L:=eB L k;have X:=aE E;clear E;simp only[kn,td,nk,dX,aQ,aT,Act.put,aA,aK,aJ]at hl;subst hl;simp only[dn,Nat.reduceAdd]at D;dsimp only[kn,td,nk,dy,eJ,dY,Act.put];and_intros;all_goals first|exact trivial|intro R Q hm K C
      all_goals try (go_simp;with_reducible exact C _ _ ⟨rfl,aH _ _⟩)
      ·show Oper.wp _ _ _ _ _ _;exact gV (ops:= #[]) rfl (wpList_load_mid rfl 36 _ rfl ga (j*4) (by simp[Act.eval,D]) ((svC (s,.slice p1 s.roles.length T))).toList _ J svT rfl (by kernel_rfl) ⟨rfl,C _ _ ⟨rfl,aH _ _⟩⟩)
      ·show Oper.wp _ _ _ _ _ _;exact gV (ops:= #[]) rfl (wpList_load_mid rfl 36 _ rfl gb (j*4) (by simp[Act.eval,D]) ((svC (s,.slice p2 s.roles.length U))).toList _ L svT rfl (by kernel_rfl) ⟨rfl,C _ _ ⟨rfl,aH _ _⟩⟩)
      ·have h2:=Q 12 _ rfl (by kernel_rfl);clear R Q;go_simp;exact C _ _ ⟨trivial,X.o.alA (by decide) h2⟩
      ·have h2:=Q 13 _ rfl (by kernel_rfl);clear R Q;go_simp;exact C _ _ ⟨trivial,X.o.alB (by decide) h2⟩
      ·obtain⟨g,e,hg,h⟩:=X.o.stA (R ⟨10,.data⟩ (by simp) rfl rfl) hm;show Oper.wp _ _ _ _ _ _;exact gV (ops:= #[]) rfl (az rfl 36 _ _ rfl g ((svC (s,.slice p1 s.roles.length T))) (by simp[Act.eval,D,e]) (by simp[Act.eval,D]) _ _ hg (by kernel_rfl) rfl (qJ _ _ _ _) ⟨rfl,C undef _ ⟨trivial,h⟩⟩)
      ·obtain⟨g,e,hg,h⟩:=X.o.stB (R ⟨11,.data⟩ (by simp) rfl rfl) hm;show Oper.wp _ _ _ _ _ _;exact gV (ops:= #[]) rfl (az rfl 36 _ _ rfl g ((svC (s,.slice p2 s.roles.length U))) (by simp[Act.eval,D,e]) (by simp[Act.eval,D]) _ _ hg (by kernel_rfl) rfl (qJ _ _ _ _) ⟨rfl,C undef _ ⟨trivial,h⟩⟩)
     ·rintro M φ WS N E;obtain⟨g1,v,_,u⟩:=E.ea (N 10 (by decide) rfl);obtain⟨g2,y,_,d⟩:=E.eb (N 11 (by decide) rfl);rw[show M (10+2)=true from N 12 (by decide) rfl,cond_true]at u;rw[show M (10+3)=true from N 13 (by decide) rfl,cond_true]at d;have G:=E.bel;simp only[kn,td,nk,d8,aQ,aT,Act.put,aA,aK,aJ];rw[v,y];dsimp only[svC]at u d;have bh:=cr 0 u rfl;have bi:=cr 1 u rfl;have ar:=cr 2 u rfl;have bd:=cr 0 d rfl;have be:=cr 1 d rfl;have bf:=cr 2 d rfl;have m3:=cr 3 u rfl;have m4:=cr 3 d rfl;have bg:s.roles.length<9223372036854775808:=bl;obtain⟨nr,a2⟩:=au s.roles.length;have aX:=aE a2;rw[a2]at bg m3 m4;have H: ∀z:Int,(z !=z)=false:=fun z=>(by simp);have t1:=H s.len;have t2:=H s.bef;have t3:=H s.aft;have t4:=H (nr:Int);have am:=aE (aw al.o G);have aR:=aE (aw aO.o G);clear E N v y a2 H u d G J L z2 z3;go_wp2_with fail;clear t1 t2 t3 t4 bh bi ar bd be bf;obtain⟨wo,rfl⟩: ∃q,q=wr:=⟨_,rfl⟩
      go_loopw [9,111] (fun _ t wr=> ∃i:Nat,t=ag (i:Int)/\i<=nr/\aq WS wr) (fun _ t _=>nr-(intOf t).toNat);case atStart=>exact⟨0,rfl,dF _,aH _ _⟩
      case round=>
       obtain⟨i,rfl,hi,I⟩:=hrel;have bz:(0:Int)<=(i:Int):=(by omega);by_cases bv:i<nr
       ·have ap:(i:Int)<(nr:Int):=(by omega);have n: ∃x,s.roles[i]? =some x:=⟨s.roles[i]'(by have:=aX.o;omega),ay _⟩
        obtain⟨x,n⟩:=n;obtain⟨gc,oc,sc,v,xc,rc⟩:=Y.o i x n;obtain⟨gd,od,sd,y,xd,rd⟩:=Z.o i x n;subst v y;have f:=aw aR.o I;replace xc:=aj f xc;replace xd:=aj f xd;replace rc:=rc.below f;replace rd:=rd.below f;replace m3:=aj I m3;replace m4:=aj I m4;have aP:=aE I;clear n f I;go_upto_region 18 with fail;refine dl (fun _ _ W=>aq wr W) [kn 114 (ab g1 3),kn 115 (.slice (some (ae gc oc)) nr T),kn 116 (ag (i:Int)),kn 117 (ab gc (oc+i)),kn 118 (sc),kn 119 (ab g2 3),kn 120 (.slice (some (ae gd od)) nr U),kn 121 (ag (i:Int)),kn 122 (ab gd (od+i)),kn 123 (sd),kn 124 (.bool true),kn 125 (.bool false)] (fun _=>(aH _ _).drew) (fun _ _ _ _ k h=>aw h k) (by kernel_rfl) ?_ ?_
        ·rintro M φ W k _ F l hl D;have V:=fun(q:Addr) (x:Value) (h:wr.cell? q=some x)=>aj k h;have m3:=V _ _ m3;have m4:=V _ _ m4;have xc:=V _ _ xc;have xd:=V _ _ xd;have cS:=C9 x sc sd W (rc.below k) (rd.below k);simp only[kn,dX,aQ,aT,Act.put,aA,aK,aJ]at hl;subst hl;simp only[dn,Nat.reduceAdd]at D;dsimp only[kn,dy,eJ,dY,Act.put];and_intros;all_goals first|exact trivial|intro R Q hm K C
         all_goals try (go_simp;with_reducible exact C _ _ ⟨rfl,aH _ _⟩)
         ·go_simp;refine cS.mono ?_;rintro r' W' ⟨rfl,bb⟩;exact C _ _ ⟨rfl,bb⟩
        ·rintro M φ WR N k;simp only[kn,d8,aQ,aT,Act.put,aA,aK,aJ];have m:=aw aP.o k;clear k;go_wp2_with fail;go_roundw;case rel=>exact⟨i+1,by go_num,by omega,m⟩
         case measure=>simp[intOf];omega
       ·have ap: ¬(i:Int)<(nr:Int):=(by omega);have m:=aw am.o I;clear I m3 m4;go_wp2_with fail;go_roundw;case rel=>exact⟨j+1,by go_num,by omega,m⟩
        case measure=>simp[intOf];omega
    ·have r: ¬(j:Int)<(n3:Int):=(by omega);replace O:=aj b O;replace P:=aj b P;have a4:=aE (aw an.o b);clear b x2 y2 an;go_wp2_with fail;clear ah r ad;obtain⟨wE,rfl⟩: ∃q,q=wr:=⟨_,rfl⟩
     go_loopw [10,11,12,131] (fun _ _ _ t wr=> ∃j:Nat,t=ag (j:Int)/\j<=n4/\aq wE wr) (fun _ _ _ t _=>n4-(intOf t).toNat);case atStart=>exact⟨0,rfl,dF _,aH _ _⟩
     case round=>
      obtain⟨j,rfl,hj,b⟩:=hrel;have ad:(0:Int)<=(j:Int):=(by omega);by_cases ah:j<n4
      ·have r:(j:Int)<(n4:Int):=(by omega);have n: ∃x,aa[j]? =some x:=⟨aa[j]'(by have:=aW.o;omega),ay _⟩
       obtain⟨⟨a,v1⟩,n⟩:=n;obtain⟨v2,hy⟩:=Fg aS.o n;have r1:=HA.o.apr _ (aM n);have r2:=HB.o.apr _ (aM hy);obtain⟨p1,T,f1,_,_⟩:=id r1;obtain⟨p2,U,f2,_,_⟩:=id r2;dsimp only at f1 f2;subst f1 f2;obtain⟨ga,c1,v,_,J⟩:=iJ pA HA.o.aps rfl n;obtain⟨gb,c2,y,_,L⟩:=iJ pA HB.o.aps rfl hy;injection v with v e5 e3;injection y with y e6 e4;clear e5 e6;subst v y e3 e4;have f:=aw a4.o b;replace J:=eB J f;replace L:=eB L f;have Y:=aE (r1.below f);have Z:=aE (r2.below f);have z2:=aj b O;have z3:=aj b P;have al:=aE b;clear n hy f b r1 r2 O P;go_upto_region 25 with fail;refine dl (TwJ wr 45 #[ag 0,ag 0,ag 0,ag 0,ag 0,ag 0,ag 0,ag 0,ag 0,ag 0,af] (apC (a,.slice p1 a.who.length T)) (apC (a,.slice p2 a.who.length U)) 10 11 12) [kn 134 (ab w.heap.size 3),kn 135 (.slice (some (ae ga 0)) n4 ca),kn 136 (ag (j:Int)),kn 137 (ab ga (j*11)),kn 138 (.agg (apC (a,.slice p1 a.who.length T))),kn 139 (ab wA.heap.size 3),kn 140 (.slice (some (ae gb 0)) n4 a6),kn 141 (ag (j:Int)),kn 142 (ab gb (j*11)),kn 143 (.agg (apC (a,.slice p2 a.who.length U))),td 11,td 12,nk,nk] (fun _=>TwJ.start (aH _ _).drew) (fun _ _ _ _ k h=>h.below k) (by kernel_rfl) ?_ ?_
       ·rintro M φ W E _ F l hl D;have k:=E.bel;have V:=fun(q:Addr) (x:Value) (h:wr.cell? q=some x)=>aj k h;have z2:=V _ _ z2;have z3:=V _ _ z3;have J:=eB J k;have L:=eB L k;have X:=aE E;clear E;simp only[kn,td,nk,dX,aQ,aT,Act.put,aA,aK,aJ]at hl;subst hl;simp only[dn,Nat.reduceAdd]at D;dsimp only[kn,td,nk,dy,eJ,dY,Act.put];and_intros;all_goals first|exact trivial|intro R Q hm K C
        all_goals try (go_simp;with_reducible exact C _ _ ⟨rfl,aH _ _⟩)
        ·show Oper.wp _ _ _ _ _ _;exact gV (ops:= #[]) rfl (wpList_load_mid rfl 45 _ rfl ga (j*11) (by simp[Act.eval,D]) ((apC (a,.slice p1 a.who.length T))).toList _ J apT rfl (by kernel_rfl) ⟨rfl,C _ _ ⟨rfl,aH _ _⟩⟩)
        ·show Oper.wp _ _ _ _ _ _;exact gV (ops:= #[]) rfl (wpList_load_mid rfl 45 _ rfl gb (j*11) (by simp[Act.eval,D]) ((apC (a,.slice p2 a.who.length U))).toList _ L apT rfl (by kernel_rfl) ⟨rfl,C _ _ ⟨rfl,aH _ _⟩⟩)
        ·have h2:=Q 12 _ rfl (by kernel_rfl);clear R Q;go_simp;exact C _ _ ⟨trivial,X.o.alA (by decide) h2⟩
        ·have h2:=Q 13 _ rfl (by kernel_rfl);clear R Q;go_simp;exact C _ _ ⟨trivial,X.o.alB (by decide) h2⟩
        ·obtain⟨g,e,hg,h⟩:=X.o.stA (R ⟨10,.data⟩ (by simp) rfl rfl) hm;show Oper.wp _ _ _ _ _ _;exact gV (ops:= #[]) rfl (az rfl 45 _ _ rfl g ((apC (a,.slice p1 a.who.length T))) (by simp[Act.eval,D,e]) (by simp[Act.eval,D]) _ _ hg (by kernel_rfl) rfl (gQ _ _ _ _) ⟨rfl,C undef _ ⟨trivial,h⟩⟩)
        ·obtain⟨g,e,hg,h⟩:=X.o.stB (R ⟨11,.data⟩ (by simp) rfl rfl) hm;show Oper.wp _ _ _ _ _ _;exact gV (ops:= #[]) rfl (az rfl 45 _ _ rfl g ((apC (a,.slice p2 a.who.length U))) (by simp[Act.eval,D,e]) (by simp[Act.eval,D]) _ _ hg (by kernel_rfl) rfl (gQ _ _ _ _) ⟨rfl,C undef _ ⟨trivial,h⟩⟩)
       ·rintro M φ WS N E;obtain⟨g1,v,_,u⟩:=E.ea (N 10 (by decide) rfl);obtain⟨g2,y,_,d⟩:=E.eb (N 11 (by decide) rfl);rw[show M (10+2)=true from N 12 (by decide) rfl,cond_true]at u;rw[show M (10+3)=true from N 13 (by decide) rfl,cond_true]at d;have G:=E.bel;simp only[kn,td,nk,d8,aQ,aT,Act.put,aA,aK,aJ];rw[v,y];dsimp only[apC]at u d;have i0:=cr 0 u rfl;have i1:=cr 1 u rfl;have i2:=cr 2 u rfl;have i3:=cr 3 u rfl;have i4:=cr 4 u rfl;have i5:=cr 5 u rfl;have i6:=cr 6 u rfl;have i7:=cr 7 u rfl;have i8:=cr 8 u rfl;have i9:=cr 9 u rfl;have bo:=cr 10 u rfl;have l0:=cr 0 d rfl;have l1:=cr 1 d rfl;have l2:=cr 2 d rfl;have l3:=cr 3 d rfl;have l4:=cr 4 d rfl;have l5:=cr 5 d rfl;have l6:=cr 6 d rfl;have l7:=cr 7 d rfl;have l8:=cr 8 d rfl;have l9:=cr 9 d rfl;have bp:=cr 10 d rfl;have cS:=JW a.day a.min a.day a.min _ _ a.who a.who WS (Y.o.below G) (Z.o.below G);rw[show decide (a.day=a.day/\a.min=a.min/\a.who=a.who)=true by simp]at cS;have H: ∀z:Int,(z !=z)=false:=fun z=>(by simp);have t0:=H a.st;have t1:=H a.left;have t2:=H a.fr;have t3:=H a.to;have t4:=H a.sv;have t5:=H a.bef;have t6:=H a.aft;have t7:=H a.len;have am:=aE (aw al.o G);clear E N v y H u d G J L z2 z3 Y Z;go_wp2_with fail;refine cS.mono ?_;rintro e wQ ⟨rfl,bQ⟩;have m:=aw am.o bQ;clear cS bQ i0 i1 i2 i3 i4 i5 i6 i7 i8 i9 bo l0 l1 l2 l3 l4 l5 l6 l7 l8 l9 bp t0 t1 t2 t3 t4 t5 t6 t7;go_wp2_with fail;go_roundw;case rel=>exact⟨j+1,by go_num,by omega,m⟩
        case measure=>simp[intOf];omega
      ·have r: ¬(j:Int)<(n4:Int):=(by omega);have m:=HW.o.trans ((aw a4.o b).mono HW.o.size);clear b O P;go_wp2_with fail;go_ret;exact⟨rfl,m⟩
theorem PS {b:Array Oper}{A:Act}{o:Oper}{e d:Nat}{a:Bool}(g:o.guard=some (e,a))(f:(b[e]?).bind (·.dst)=some d)(c:A.tmps[d]?.getD undef= .bool (!a)): ¬Region.wanted o (yielded b A.tmps)=true:=by
 unfold Region.wanted;rw[g];unfold yielded;dsimp only;rw[f];dsimp only[Option.bind_some];cases h:A.tmps[d]? with
 |none=>rw[h]at c;cases c
 |some v=>
  rw[h]at c;have:v= .bool (!a):=c;subst this;cases a<;>simp
theorem LU (a:World): ∃wE,a.alloc (.cells #[] 41)=wE/\aq a wE/\wE.ownsRow a.heap.size 41 13 (.slice (some (ae a.heap.size 0)) 0 0) ([]:List (Cm×Value×Value)).length (DoF []):=by
 obtain⟨wE,c,b,d⟩:=nb a #[] 41;exact⟨wE,c,b,r8 (n:=0) d (aD _) rfl (by decide)⟩
theorem LV {c f:World}{k:Value}{d:List (Cm×Value×Value)}{s:List UInt8}(j:f.ownsRow c.heap.size 41 13 k ([]++d).length (DoF ([]++d)))(g:aq c f)(m:DoB c.heap.size c (d++[(cR s,af,af)]))(o:s.length<=9223372036854775807): ∃a,f.alloc (.cells #[ag 1,ag 0,ag 0,ag 0,.string ⟨s.toArray⟩,.string ⟨#[]⟩,ag 0,ag 0,ag 0,af,ag 0,ag 0,af] 41)=a/\aq c a/\a.ownsRow c.heap.size 41 13 k d.length (DoF d)/\lI a (.slice (some (ae f.heap.size 0)) 1 1) [(cR s,af,af)]/\DoB c.heap.size a (d++[(cR s,af,af)]):=by
 obtain⟨a,l,i,r⟩:=nb f #[ag 1,ag 0,ag 0,ag 0,.string ⟨s.toArray⟩,.string ⟨#[]⟩,ag 0,ag 0,ag 0,af,ag 0,ag 0,af] 41;have e:=aw g i;refine⟨a,l,e,br j fun b g=>i.block b (j.lt b g).2,vR (B:=0) (r8 (n:=1) r (dF _) rfl (by decide)) (fun q p=> ?_) (show 1<9223372036854775808 by decide),m.below e⟩;cases cQ.1 p;exact uW _ rfl rfl o (dF _)
theorem Fh {c:Array Oper}{b:List Oper}{o:Oper}{a:Act}{w:World}{Q:Exit->Act->World->Prop}(i:Region.wanted o (yielded c a.tmps)=true)(x:Operand)(f:o.op= .load 29 x)(g:Nat)(j:a.eval x=ab g 0)(p q r t:Value)(e:w.heap[g]? =ah #[p,q,r,t] 29)
  (h:wpList prog c Q b (a.put o.dst (.agg #[p,q,r,t])) w):wpList prog c Q (o::b) a w:=
 wpList_step fun K d=>by
  rw[aB i];exact eN 29 x f g j _ _ _ _ e dsT rfl (by kernel_rfl) (d _ _ h)
theorem Of {B k:Nat}{w:World}{c l:Co}{R:List Ru}{m ev sv av j f i d:Value}{o g:List (Sv×Value)}{n b:List (Ap×Value)}(h:tM B w c m ev sv av o n)(a:tM k w l j f i d g b)(e:l={c with rules:=R}):tM k w c m f i d g b:=by
 subst e;exact⟨h.rules,a.res,a.svs,a.sve,a.svr,a.aps,a.ape,a.apr⟩
theorem LW {f:Int->Bool}{l:List Int}{x:Nat}{r:Int}(h:l[x]? =some r):(l.take (x+1)).all f=((l.take x).all f&&f r):=by
 rw[eX,h,Option.toList_some,List.all_append];simp
section
section
variable {w0 W:World} {i t v k:Nat} {cs ds:List (Cm×Value×Value)} {M:Nat->Bool} {φ:Nat->Value}
end
theorem pD.at7 {B:Nat}{W:World}{P:List An×Dk}{t ev sv av b:Value}{u:List (Sv×Value)}{o:List (Ap×Value)}{m:List (An×Value×Value)}(h:pD B W P t ev sv av b u o m): ∃i k,b= .slice i P.1.length k/\ ∀(j:Nat) (a:An),P.1[j]? =some a-> ∃(g:Nat) (n lv:Value),i=some ⟨g,0,none⟩/\W.rangeAt g (j*6) (anC a n lv).toList/\rC B W n a.who/\dM W lv a.list:=by
 obtain⟨i,k,e⟩:=cg h.ans;have s:m.length=P.1.length:=by rw[<-h.ane,bc]
 refine⟨i,k,by rw[e,s],fun j a ha=> ?_⟩;rw[<-h.ane,a8]at ha;obtain⟨q,l,rfl⟩:=eh.1 ha;obtain⟨g,c,d,_,r⟩:=iJ (f:=fun p:An×Value×Value=>anC p.1 p.2.1 p.2.2) (fun _=>rfl) h.ans rfl l;rw[e]at d;injection d with d;exact⟨g,q.2.1,q.2.2,d,r,(h.anr q (aM l)).1,(h.anr q (aM l)).2⟩
end
theorem GX (D:List (Cm×Value×Value))(v:Value)(s:List UInt8)(w:World)(hs:lI w v D)(hl:s.length<=9223372036854775807)(hT:Tbs w.heap.size w):Calls prog 4 #[v,.string ⟨s.toArray⟩] w fun e w'=>e= .returned (.bool true)/\aq w w':=by
 have c1:=Ei w hT;have HT:=aE hT;obtain⟨p,k,rfl,cn,_⟩:=id hs;obtain⟨m,hm⟩:=au D.length;rw[hm]at hs cn⊢;have HS:=aE hs;have HM:=aE hm;have HL:=aE hl;clear hT hs hm hl;go_enter func4,ntmps4;go_wp2_with fail;refine c1.mono ?_;rintro e w1 ⟨rfl,b1⟩;clear c1;by_cases dI:60<=(m:Int)
 ·go_wp2_with fail;go_ret;exact⟨rfl,b1⟩
 have c2:=xM D _ w1 (HS.o.below b1) (fun W hW=>HT.o W (aw b1 hW)) (fun q _=>xP q.1);have cK:=aE b1;clear b1;go_wp2_with fail;refine c2.mono ?_;clear c2;rintro e w5 ⟨b5,h5⟩;rcases h5 with⟨dj,_⟩|⟨_,rv,ev,sv,av,dE,ss,aa,ls,rfl,n⟩
 ·rw[bc,HM.o]at dj;omega
 replace n:=n.here;have cL:=aE (aw cK.o b5);have E:=n.ds;obtain⟨us,am,_⟩:=n.rules;obtain⟨p1,k1,rfl⟩:=am.form;obtain⟨p2,k2,rfl⟩:=cg n.res;obtain⟨p3,k3,b2⟩:=cg n.svs;obtain⟨p4,k4,b3⟩:=cg n.aps;obtain⟨p5,k5,d2⟩:=cg n.ans;subst b2 b3 d2;obtain⟨n1,cu⟩:=au us.length;obtain⟨n2,cv⟩:=au ((playP dk0 (D.map fun q=>q.1)).2.res.length);obtain⟨n3,cw⟩:=au ss.length;obtain⟨n4,cy⟩:=au aa.length;rw[cu,cv,cw,cy]at E⊢;generalize ls.length=n9;generalize (playP dk0 (D.map fun q=>q.1)).2.runs=rn;obtain⟨wZ,wC,hZ,nZ,hC,bC,nD⟩:=nbs w5 #[af,af,af,af] #[.slice p1 n1 k1,.slice p2 n2 k2,.slice p3 n3 k3,.slice p4 n4 k4] 29;have bm:=aw cL.o bC;have cU:=aE (E.below bC);have bJ:=aE bm;have ND:=aE nD;have bW:=aE (HS.o.below bm);obtain⟨wE,hE,bE,oE⟩:=LU wC;have dt:=fun W=>Ek W;have ck:=bW.o.below bE;have bh:DoB wC.heap.size wC (D++[(cR s,af,af)]):=Oc (PQ bW.o) (fun q hq=>by cases cQ.1 hq;exact PR fun u _=>uW _ rfl rfl HL.o (dF _)) (aH _ _);have aU:=aE bh;have ce:DoB wC.heap.size wE ([]++D):=fun q hq=>(bh.below bE) q (ft _ hq);have c6:([]:List (Cm×Value×Value)).length+D.length<=100000:=by rw[HM.o];show 0+m<=100000;omega
 have aL:D.length+[((cR s,af,af):Cm×Value×Value)].length<=100000:=by rw[HM.o];show m+1<=100000;omega
 have aS:=aE bE;have aW:=aE oE;have bY:=aE ck;have bL:=aE ce;clear n am E cu cv cw cy b5 bC nD bm bE oE ck bh ce cn;go_upto_region 6 with(refine az rfl 29 _ _ rfl _ _ rfl rfl _ _ nZ (by kernel_rfl) rfl (by simp[Value.oneCell']) ?_;rw[hC])
 clear hZ nZ hC
 go_wp2_with(first
  |(refine ws rfl _ _ rfl rfl aW.o rfl bY.o bL.o c6 aS.o.size ?_;intro v3 w3 ch g3;obtain⟨w4,h4,b4,C,x4,c4⟩:=LV ch (fT aS.o g3 (aD _) (fun k hk=>(aW.o.lt k hk).1)) aU.o HL.o;clear g3 ch)
  |(refine ws rfl _ _ rfl rfl C rfl x4 c4 aL b4.size ?_;intro v5 w6 ci g6))
 have a4:=fT b4 g6 (aD _) (fun k hk=>(C.lt k hk).1);have aG:=aw bJ.o a4;have c3:=xM (D++[(cR s,af,af)]) v5 w6 (vR ci (fun q hq=>(aU.o.below a4 q hq).here) (by rw[aP,HM.o];show m+1<_;omega)) (fun W hW=>HT.o W (aw aG hW)) (fun q _=>xP q.1);have cM:=aE a4;clear hE dt aW bY bL aS aU h4 b4 C x4 c4 ci g6 a4 aG c6 aL;refine c3.mono ?_;clear c3;rintro e w7 ⟨b7,h7⟩;rcases h7 with⟨cd,_⟩|⟨_,dW,dH,ea,dG,dB,d7,bb,dU,rfl,n⟩
 ·rw[bc,aP,HM.o]at cd;have:m+1>60:=cd;omega
 replace n:=n.here;rw[dZ,show([(cR s,af,af)]:List (Cm×Value×Value)).map (fun q=>q.1)=[cR s] from rfl]at n⊢;have ad:=JI ((D.map fun q=>q.1)++[cR s]);have bn:=LH ((D.map fun q=>q.1)++[cR s]);rw[aP,bc,HM.o]at bn;obtain⟨a,ha,Z,G⟩:=JM (D.map fun q=>q.1) s;obtain⟨q2,l2,d1⟩:=cg n.res;subst d1;have I:=fun j (hj:j<bb.length)=>LJ n rfl hj;generalize playP dk0 ((D.map fun q=>q.1)++[cR s])=P at*;rw[bc,HM.o]at ha;have E:=n.ds;obtain⟨d9,am,_⟩:=n.rules;obtain⟨q1,l1,rfl⟩:=am.form;obtain⟨q3,l3,b2⟩:=cg n.svs;obtain⟨q4,l4,b3⟩:=cg n.aps;subst b2 b3;obtain⟨px,cx,rfl,V⟩:=n.at7;obtain⟨gx,wv,lv,rfl,a8,cC,bs⟩:=V _ _ ha;obtain⟨pw,kw,ew,_,_⟩:=id cC.1;obtain⟨pl,kl,el,_,_⟩:=id bs;subst ew el;have T:P.2.aps.length=bb.length:=by rw[<-n.ape,bc]
 have cY:=aE bs;obtain⟨o1,bx⟩:=au d9.length;obtain⟨o2,a6⟩:=au P.2.res.length;obtain⟨o3,bz⟩:=au d7.length;obtain⟨C,ak⟩:=au bb.length;obtain⟨n6,bw⟩:=au P.1.length;rw[bx,a6,bz,ak]at E;rw[a6,ak]at I;rw[bx,a6,bz,ak,bw];rw[bw]at ad;rw[ak]at T
 have aO:Rb (C<=61):=by
  show C<=61;have:P.2.aps.length<=m+1:=bn;omega
 generalize P.2.runs=dV;have cp:(n6:Int)=(m:Int)+1:=by simp[HM.o]at ad;omega
 have d5:IntKind.i64.wrap ((m:Int)+1)=(m:Int)+1:=by rw[bU];omega
 have i4:((n6:Int) !=(m:Int)+1)=false:=by rw[cp];simp
 have i0:(0:Int)<=(m:Int):=by omega
 have i1:(m:Int)<(n6:Int):=by omega
 obtain⟨wZ,wD,hZ,nZ,hD,bD,nX⟩:=nbs w7 #[af,af,af,af] #[.slice q1 o1 l1,.slice q2 o2 l2,.slice q3 o3 l3,.slice q4 C l4] 29;replace a8:=eB a8 bD;obtain⟨wY,wG,hY,nY,hG,bG,nA⟩:=nbs wD #[ag 0,ag 0,ag 0,ag 0,af,af] (anC a (.slice pw a.who.length kw) (.slice pl a.list.length kl)) 43;have bZ:=b7.trans ((aw bD bG).mono b7.size);have bg:=aw bD bG;have a2:=aw cM.o bZ;have a0:wG.cell? (ae wD.heap.size 0)=some (ag a.err):=cr 0 nA rfl;have bO:=aE (E.below bg);have aV:=aE (cU.o.below a2);have nD:=bt a2 ND.o;have nX:=bt bG nX;have I:=aE I;have ap:=aE (aw bJ.o a2);have bB:=aE bg;have T:=aE T;clear n am E V ha cC bs bn bx a6 bz ak bw ad cp b7 bD bG bZ bg a2;go_upto_region 10 with(first|(refine az rfl 29 _ _ rfl _ _ rfl rfl _ _ nZ (by kernel_rfl) rfl (by simp[Value.oneCell']) ?_;rw[hD])|(refine wpList_load_mid rfl 43 _ rfl gx (m*6) rfl (anC a (.slice pw a.who.length kw) (.slice pl a.list.length kl)).toList _ a8 anT rfl (by kernel_rfl) ?_)|(refine az rfl 43 _ _ rfl _ _ rfl rfl _ _ nY (by kernel_rfl) rfl (by simp[anC,Value.oneCell']) ?_;rw[hG]))
 clear hZ nZ hD hY nY hG a8 i0 i1 i4 d5;obtain⟨b0,X⟩:=au (a.err !=0);cases b0 with
 |true=>
  obtain⟨e1,e2⟩:=Z (by simpa using X);have hx:=bO.o;rw[e1]at hx;have cS:=Bw _ _ _ _ _ _ _ _ _ _ _ _ _ _ _ wG aV.o hx;have y5:wG.cell? (ae wD.heap.size 5)=some (.slice pl 0 kl):=cr 5 nA (by show some (Value.slice pl a.list.length kl)=_;rw[e2];rfl);clear Z G hx e1 e2 nA T;go_wp2_with(first|(refine aR rfl 29 _ rfl _ rfl _ _ _ _ nD dsT rfl (by kernel_rfl) ?_)|(refine aR rfl 29 _ rfl _ rfl _ _ _ _ nX dsT rfl (by kernel_rfl) ?_))
  refine cS.mono ?_;rintro e w9 ⟨rfl,b9⟩;replace y5:=aj b9 y5;clear cS a0 nD nX;go_wp2_with fail;go_ret;exact⟨rfl,aw ap.o b9⟩
 |false=>
  obtain⟨g1,g2,g3⟩:=G (by simpa using X);obtain⟨r1,r2⟩:=N5 g1;have c9:P.2.rules=(jJ s).2:=(congrArg Co.rules g2).trans r2.symm;rw[show(playP dk0 (D.map fun q=>q.1)).2.aps=P.2.aps from(congrArg Co.aps g2).symm]at g3;have cP:=AC ⟨s.toArray⟩ s (by simp) HL.o wG (HT.o wG ap.o).1 (HT.o wG ap.o).2.1;have NA:=aE nA;have cW:=aE g3;have dc:=aE c9;clear Z G g1 r2 nA g3 c9;go_wp2_with fail;refine cP.mono ?_;rintro e w8 ⟨⟨vr,er,at_,rfl,hp⟩,b8⟩;obtain⟨he,c8⟩:=Bk hp;rw[r1]at he;subst he;obtain⟨a9,y,cc,aN,c7⟩:=c8 rfl;obtain⟨pr,kr,d4⟩:=cg y.own;subst d4;have bq:=(y.rob cc c7).here;have bX:Rb (a9.map (fun p=>p.1)=P.2.rules):=aN.trans dc.o.symm;generalize a9.length=n7 at bq⊢;obtain⟨wV,w9,hV,nV,h9,b9,nF⟩:=nbs w8 #[ag 0,ag 0] #[ag 0,ag at_] 48;have a1:=aw b8 b9;have cF:=bt a1 nX;obtain⟨wU,cJ,hU,nU,ca,bd,nY⟩:=nbs w9 #[af,af,af,af] #[.slice q1 o1 l1,.slice q2 o2 l2,.slice q3 o3 l3,.slice q4 C l4] 29;have y0:=bo _ _ 0 _ _ nY;have y1:=cr 0 nY rfl;obtain⟨bA,bf⟩:=au (cJ.setCell ⟨w9.heap.size,0,none⟩ (.slice p1 n1 k1));have cG:bA.heap[w9.heap.size]? =ah #[.slice p1 n1 k1,.slice q2 o2 l2,.slice q3 o3 l3,.slice q4 C l4] 29:=bf▸aY cJ w9.heap.size 0 _ _ (.slice p1 n1 k1) nY;have ar:aq w9 bA:=bd.trans (bf▸(aH _ _).setCell (p:=⟨w9.heap.size,0,none⟩) (aD _) _);have t:=aw a1 ar;have d0:=cr 0 (bt bd (bt a1 nD)) rfl;have f0:=cr 0 (bt ar nF) rfl;have cE:=bt t nD;have cS:=Bw _ _ _ _ _ _ _ _ _ _ _ _ _ _ _ bA (aV.o.below t) (Of (aV.o.below t) (bO.o.below t) g2);have bS:=aE (bq.below (aw b9 ar));have cN:=aE t;have NX:=aE nX;clear cP hp c8 y cc aN c7 bq b8 b9 a1 bd ar t nF nY g2 nX nD a0 r1;go_upto_region 13 with(refine az rfl 48 _ _ rfl _ _ rfl rfl _ _ nV (by kernel_rfl) rfl (by simp[Value.oneCell']) ?_;rw[h9])
  clear hV nV h9;go_upto_region 14 with(first|(refine aR rfl 29 _ rfl _ rfl _ _ _ _ cF dsT rfl (by kernel_rfl) ?_)|(refine az rfl 29 _ _ rfl _ _ rfl rfl _ _ nU (by kernel_rfl) rfl (by simp[Value.oneCell']) ?_;rw[ca]))
  clear hU nU ca cF;go_wp2_with(first|(refine Fh (by rfl) _ (by rfl) _ (by rfl) _ _ _ _ cE ?_)|(refine Fh (by rfl) _ (by rfl) _ (by rfl) _ _ _ _ cG ?_))
  refine cS.mono ?_;rintro e wK ⟨rfl,bK⟩;clear cS cE cG d0 f0 y0 y1 bf;have be:=aw cN.o bK;have x3:=cr 3 (bt be NX.o) rfl;have z:=aE bK;have bR:=aE be;clear bK be;go_wp2_with fail;clear x3;have dm:C<=61:=aO.o;go_loopw [17,18,19,20,21,22,24,25,103] (fun gv _ _ _ _ _ _ _ q wr=> ∃(j:Nat) (l:List Int),q=ag (j:Int)/\j<=C/\wr.ownsRow wK.heap.size 3 1 gv l.length (dz l)/\l=ld (coD P.2) (P.2.aps.take j) 0/\l.length<=j/\aq wK wr) (fun _ _ _ _ _ _ _ _ q _=>C-(intOf q).toNat);case atStart=>exact⟨0,[],rfl,dF _,dp _ _ _ _,rfl,aD _,aH _ _⟩
  case round=>
   obtain⟨j,l,rfl,hj,ho,ai,dM,ac⟩:=hrel;have dL:(0:Int)<=(j:Int):=(by omega);obtain⟨wL,rfl⟩: ∃q,q=wr:=⟨_,rfl⟩
   obtain⟨pg,kg,d3⟩:=cg ho;subst d3;by_cases dw:j<C
   ·have ct:(j:Int)<(C:Int):=(by omega);obtain⟨d,pv,kv9,ga,l9,aC,hv,O,bk,co,U⟩:=I.o j dw;injection hv with e1 e3 e2;subst e1 e2;clear e3;have b6:=JN (c:=coD P.2) aC;rw[<-ai]at b6;have B:=aw bR.o ac;have N:=aw bB.o B;replace O:=eB O N;obtain⟨wZ,wP,hZ,nZ,a3,bP,nP⟩:=nbs wL apZ (apC (d,.slice pv d.who.length kv9)) 45;unfold apZ at hZ nZ;have z0:wP.cell? (ae wL.heap.size 0)=some (ag d.st):=cr 0 nP rfl;have aZ:=aE (br ho fun b g=>bP.block b (ho.lt b g).2);have ao:=aE (aw ac bP);have df:=aE (aw B bP);have da:=aE (aw N bP);have ba:=aE b6;obtain⟨b1,cl⟩:=au (d.st==3);clear aC ai B N ho ac bP b6;cases b1 with
    |true=>
     have al:d.st=3:=(by simpa using cl);have cB:ld (coD P.2) (P.2.aps.take (j+1)) 0=l:=(by rw[ba.o,ax fun q=>q.1 al,gH]);have R:=aE cB;clear cB al U bk;go_upto_region 21 with(first|(refine wpList_load_mid rfl 45 _ rfl ga (j*11) rfl (apC (d,.slice pv d.who.length kv9)).toList _ O apT rfl (by kernel_rfl) ?_)|(refine az rfl 45 _ _ rfl _ _ rfl rfl _ _ nZ (by kernel_rfl) rfl (gQ _ _ _ _) ?_;rw[a3]))
     clear O hZ nZ a3;go_wp2_with fail;go_roundw;case rel=>exact⟨j+1,l,by go_num,by omega,aZ.o,R.o.symm,by omega,ao.o⟩
     case measure=>simp[intOf];omega
    |false=>
     have al:d.st≠3:=(by simpa using cl);have x8:wP.cell? (ae wL.heap.size 8)=some (ag d.day):=cr 8 nP rfl
     have c5:Calls prog 10 #[.slice pr n7 kr,ag d.day] wP fun r W'=> ∃vm,r= .returned (.tuple #[vm,.agg #[ag 0,ag 0]])/\Gp W' vm (kY P.2.rules d.day)/\aq wP W':=by
      have:=CW a9 _ d.day wP (bS.o.below (aw z.o ao.o));rw[bX.o]at this;unfold vG at this;rw[co]at this;exact this
     have bV:=aE bk;have bI:=aE U;have dd:=aE al;have NP:=aE nP;clear U bk co al nP;go_upto_region 21 with(first|(refine wpList_load_mid rfl 45 _ rfl ga (j*11) rfl (apC (d,.slice pv d.who.length kv9)).toList _ O apT rfl (by kernel_rfl) ?_)|(refine az rfl 45 _ _ rfl _ _ rfl rfl _ _ nZ (by kernel_rfl) rfl (gQ _ _ _ _) ?_;rw[a3]))
     clear O hZ nZ a3;go_wp2_with fail;refine c5.mono ?_;clear c5 z0 x8;rintro e wM ⟨vm,rfl,dx,bM⟩;obtain⟨pm,cm,rfl,_,y⟩:=dx;have cV:=aE y;have bT:Rb (∀(i:Nat) f,(kY P.2.rules d.day)[i]? =some f->i<(kY P.2.rules d.day).length):=fun i f h=>(aF.1 h).1;obtain⟨n5,cz⟩:=au ((kY P.2.rules d.day).length);rw[cz]at bT⊢;obtain⟨wV,wN,hV,nV,hN,bN,nF⟩:=nbs wM #[ag 0,ag 0] #[ag 0,ag 0] 48;have L:=aw bM bN;have f0:wN.cell? (ae wM.heap.size 0)=some (ag 0):=cr 0 nF rfl;have NP:=aE (bt L NP.o);have dA:wN.cell? (ae wL.heap.size 10)=some (.slice pv d.who.length kv9):=cr 10 NP.o rfl;have dg:=aE (bt (aw df.o L) NX.o);have cT:=aE bN;have db:=aE L;have cZ:=aE (aw da.o L);have cX:=aE (aw ao.o L);have dS:=N6 bV.o;clear y cz bM bN L nF;go_wp2_with(refine az rfl 48 _ _ rfl _ _ rfl rfl _ _ nV (by kernel_rfl) rfl (by simp[Value.oneCell']) ?_;rw[hN])
     clear f0 dA hV nV hN;go_loopw [22,24,25,126] (fun bv _ _ q wr=> ∃x:Nat,bv= .bool ((d.who.take x).all (mE (coD P.2) d))/\q=ag (x:Int)/\x<=d.who.length/\aq wN wr) (fun _ _ _ q _=>d.who.length-(intOf q).toNat);case atStart=>exact⟨0,rfl,rfl,dF _,aH _ _⟩
     case round=>
      obtain⟨x,rfl,rfl,hx,A⟩:=hrel;have dT:(0:Int)<=(x:Int):=(by omega);obtain⟨wi,rfl⟩: ∃q,q=wr:=⟨_,rfl⟩
      by_cases d6:x<d.who.length
      ·have cD:(x:Int)<(d.who.length:Int):=(by omega);obtain⟨r0,a7⟩: ∃r,d.who[x]? =some r:=⟨_,ay d6⟩
       have H:=LW (f:=mE (coD P.2) d) a7;obtain⟨gw,ow,ew,c0⟩:=N7 bV.o a7;obtain⟨ge,r,sn,av,er,dR,di,u2,V,aI⟩:=bI.o _ (aM a7);subst ew er di;obtain⟨b0,X⟩:=au ((d.who.take x).all (mE (coD P.2) d));rw[X]at H⊢;have bl:=aw cZ.o A;replace c0:=aj bl c0;replace u2:=aj bl u2;have u1:=cr 1 (bt A dg.o) rfl;have dP:(r:Int)<(o2:Int):=(by omega);have dQ:(0:Int)<=(r:Int):=(by omega);have cA:=OI a9 (.slice pr n7 kr) sn wi (bS.o.below (z.o.trans ((aw cX.o A).mono z.o.size)));rw[bX.o,show atP5 P.2.rules sn=av from V]at cA;have cO:=aE A;clear a7 X bl A V;go_wp2_with fail;refine cA.mono ?_;clear cA c0 u1 u2;rintro e wj ⟨rfl,bj⟩;have J:=aE (aw cO.o bj);have dD:=aE bj;clear bj;go_upto_region 30 with fail;cases b0 with
       |false=>
        have Q:Rb ((d.who.take (x+1)).all (mE (coD P.2) d)=false):=by
         show _=_;rw[H];rfl
        clear H aI;refine dl (fun _ _ W=>aq wj W) [kn 137 (.bool false),kn 138 (.bool false),kn 139 (undef),kn 140 (undef),kn 141 (.bool false),kn 142 (.bool false),kn 143 (undef),kn 144 (undef),kn 145 (undef),kn 146 (undef),kn 147 (undef),kn 148 (undef),kn 149 (undef),kn 150 (undef),kn 151 (undef),kn 152 (undef),kn 153 (undef),kn 154 (.bool false),lkN 22 (.bool false)] (fun _=>(aH _ _).drew) (fun _ _ _ _ g h=>aw h g) (by kernel_rfl) ?_ ?_
        ·rintro M φ W g _ F l hl hF;simp only[kn,lkN,dX,aQ,aT,Act.put,aA,aK,aJ]at hl;subst hl;simp only[dn,Nat.reduceAdd]at hF;dsimp only[kn,lkN,dy,eJ,dY,Act.put];and_intros;all_goals first|exact trivial|intro hw hn hm K hK
         all_goals try (go_simp;with_reducible exact hK _ _ ⟨rfl,aH _ _⟩)
         all_goals (rw[ax (PS rfl rfl (by simp[hF]))];exact hK _ _ ⟨rfl,aH _ _⟩)
        ·rintro M φ wk hM g;simp only[kn,lkN,d8,aQ,aT,Act.put,aA,aK,aJ];have z:=aE (aw J.o g);clear g;go_wp2_with fail;go_roundw;case rel=>exact⟨x+1,by rw[Q.o],by go_num,by omega,z.o⟩
         case measure=>simp[intOf];omega
       |true=>
        rcases aI with⟨dC,hf⟩|⟨S,f,er,bu,hf⟩
        ·have Q:Rb ((d.who.take (x+1)).all (mE (coD P.2) d)=false):=by
          show _=_;rw[H,hf];rfl
         have dO: ¬(0:Int)<=av:=(by omega);clear H hf;refine dl (fun _ _ W=>aq wj W) [kn 137 (.bool true),kn 138 (.bool true),kn 139 (ag av),kn 140 (.bool false),kn 141 (.bool false),kn 142 (.bool false),kn 143 (undef),kn 144 (undef),kn 145 (undef),kn 146 (undef),kn 147 (undef),kn 148 (undef),kn 149 (undef),kn 150 (undef),kn 151 (undef),kn 152 (undef),kn 153 (undef),kn 154 (.bool false),lkN 22 (.bool false)] (fun _=>(aH _ _).drew) (fun _ _ _ _ g h=>aw h g) (by kernel_rfl) ?_ ?_
         ·rintro M φ W g _ F l hl hF;simp only[kn,lkN,dX,aQ,aT,Act.put,aA,aK,aJ]at hl;subst hl;simp only[dn,Nat.reduceAdd]at hF;dsimp only[kn,lkN,dy,eJ,dY,Act.put];and_intros;all_goals first|exact trivial|intro hw hn hm K hK
          all_goals try (go_simp;with_reducible exact hK _ _ ⟨rfl,aH _ _⟩)
          all_goals (rw[ax (PS rfl rfl (by simp[hF]))];exact hK _ _ ⟨rfl,aH _ _⟩)
         ·rintro M φ wk hM g;simp only[kn,lkN,d8,aQ,aT,Act.put,aA,aK,aJ];have z:=aE (aw J.o g);clear g;go_wp2_with fail;go_roundw;case rel=>exact⟨x+1,by rw[Q.o],by go_num,by omega,z.o⟩
          case measure=>simp[intOf];omega
        ·obtain⟨bH,hH⟩:=au (ff f d.fr d.to)
         have Q:Rb ((d.who.take (x+1)).all (mE (coD P.2) d)=bH):=by
          show _=_;rw[H,hf,hH];rfl
         subst er;have dv:=bT.o S f bu;obtain⟨gm,om,e,rM⟩:=cV.o S f bu;subst e;replace rM:=eB rM (aw cT.o J.o);have u3:=cr 2 (bt J.o NP.o) rfl;have u4:=cr 3 (bt J.o NP.o) rfl;have dJ:(S:Int)<(n5:Int):=(by omega);have dK:(0:Int)<=(S:Int):=(by omega);have dN:max (S:Int) 0=(S:Int):=(by omega);clear H hf bu dv;refine dl (fun _ _ W=>aq wj W) [kn 137 (.bool true),kn 138 (.bool true),kn 139 (ag (S:Int)),kn 140 (.bool true),kn 141 (.bool true),kn 142 (.bool true),kn 143 (.slice (some (ae gm om)) n5 cm),kn 144 (ag (S:Int)),kn 145 (ag (S:Int)),kn 146 (ab gm (om+S*23)),kn 147 (.agg (mv f)),kn 148 (ab wL.heap.size 2),kn 149 (ag d.fr),kn 150 (ab wL.heap.size 3),kn 151 (ag d.to),kn 152 (.agg #[ag d.fr,ag d.to]),kn 153 (.bool bH),kn 154 (.bool bH),lkN 22 (.bool bH)] (fun _=>(aH _ _).drew) (fun _ _ _ _ g h=>aw h g) (by kernel_rfl) ?_ ?_
         ·rintro M φ W g _ F l hl hF;have u3:=aj g u3;have u4:=aj g u4;have rM:=eB rM g;have cH:=rP f d.fr d.to W;rw[hH]at cH;simp only[kn,lkN,dX,aQ,aT,Act.put,aA,aK,aJ]at hl;subst hl;simp only[dn,Nat.reduceAdd]at hF;dsimp only[kn,lkN,dy,eJ,dY,Act.put];and_intros;all_goals first|exact trivial|intro hw hn hm K hK
          all_goals try (go_simp;with_reducible exact hK _ _ ⟨rfl,aH _ _⟩)
          ·rw[aB (wnK rfl rfl (by simp[hF]))];exact uE _ rfl gm (om+S*23) (by simp[Act.eval,hF]) f rM (hK _ _ ⟨rfl,aH _ _⟩)
          ·go_simp;refine cH.mono ?_;rintro r' W' ⟨rfl,dq⟩;exact hK _ _ ⟨rfl,dq⟩
         ·rintro M φ wk hM g;simp only[kn,lkN,d8,aQ,aT,Act.put,aA,aK,aJ];have z:=aE (aw J.o g);clear g;go_wp2_with fail;go_roundw;case rel=>exact⟨x+1,by rw[Q.o],by go_num,by omega,z.o⟩
          case measure=>simp[intOf];omega
      ·have cD: ¬(x:Int)<(d.who.length:Int):=(by omega)
       have bp:(d.who.take x).all (mE (coD P.2) d)=qD (coD P.2) d:=by
        rw[dh (by omega)];rfl
       obtain⟨bF,Y⟩:=au (qD (coD P.2) d);rw[bp,Y];have a5:=aw db.o A;have bi:=aw ao.o a5;have aX:=aE (br aZ.o fun b g=>a5.block b (aZ.o.lt b g).2);cases bF with
       |true=>
        have R:Rb (ld (coD P.2) (P.2.aps.take (j+1)) 0=l):=by
         show _=_;rw[ba.o,ax (fun q=>by have q:=q.2;rw[Y]at q;cases q),gH]
        clear A a5 bp Y;go_wp2_with fail;go_roundw;case rel=>exact⟨j+1,l,by go_num,by omega,aX.o,R.o.symm,by omega,bi⟩
        case measure=>simp[intOf];omega
       |false=>
        have R:Rb (ld (coD P.2) (P.2.aps.take (j+1)) 0=l++[(j:Int)]):=by
         show _=_;rw[ba.o,aB ⟨dd.o,Y⟩]
        obtain⟨wQ,hQ,bQ,nQ⟩:=nb wi #[ag (j:Int)] 3;have cf:=aw bi bQ;have cj:=br aX.o fun b g=>bQ.block b (aX.o.lt b g).2
        have cb:l.length+[(j:Int)].length<=1000000:=by
         have:=aO.o;show l.length+1<=1000000;omega
        clear A a5 bp Y bi bQ;go_wp2_with(first|(at_builtin;refine pX rfl _ _ rfl wK.heap.size l [(j:Int)] _ _ rfl cj rfl (xA nQ) cb cf.size ?_;intro v9 w9 dk g9))
        have dr:=fT cf g9 (aD _) (fun k hk=>(cj.lt k hk).1);go_roundw;case rel=>exact⟨j+1,l++[(j:Int)],by go_num,by omega,dk,R.o.symm,by rw[aP];show l.length+1<=j+1;omega,dr⟩
        case measure=>simp[intOf];omega
   ·have ct: ¬(j:Int)<(C:Int):=(by omega);have du:j=C:=(by omega);subst du;rw[dh (by rw[T.o];exact aD _)]at ai;have cq:l=a.list:=ai.trans cW.o.symm;have B:=aw bR.o ac;have y5:=cr 5 (bt B NA.o) rfl;have N:=aw bB.o B;have cI:=C9 a.list (.slice pl a.list.length kl) (.slice pg l.length kg) wL (cY.o.below N) (by rw[<-cq];exact nK ho (by have:=aO.o;omega));have de:=aE (aw ap.o B);clear ai cq B N ac ho;go_wp2_with fail;refine cI.mono ?_;rintro e w9 ⟨rfl,b9⟩;clear cI y5;go_wp2_with fail;go_ret;exact⟨rfl,aw de.o b9⟩
theorem El (a:List (Cm×Value×Value))(v:Value)(s:ByteArray)(w:World)(d:lI w v a)(c:s.size<=maxLen)(b:Tbs w.heap.size w):Calls prog 4 #[v,.string s] w fun e w'=>e= .returned (.bool true)/\aq w w':=by
 have e:s=⟨s.data.toList.toArray⟩:=by cases s;simp
 rw[e];exact GX a v _ w d (by rw[df];exact c) b
end Go.Proofs.YtlkehieagdkgiaaGreatDoor
