/- Texts of the proof. -/
import Derived.Test.YtkfidffapdhbhaaGreatDoorPh36
import Derived.Test.YtkfidffapdhbhaaGreatDoorCards
import Derived.Test.YtkfidffapdhbhaaGreatDoorTie
import Derived.LaidMore
import Derived.SevenTiedAt
set_option maxRecDepth 100000
set_option maxHeartbeats 8000000
namespace Go.Proofs.YtkfidffapdhbhaaGreatDoor
open Go.Proofs.Tryz Go.RowKit Lx Vx Mx Msk
theorem Om {w:World}{sl:Value}{who:List Int}(h:dS w sl who)(hc: ∀p n k,sl= .slice p n k->n<=k)(n x y:Int):lu w (cH n x y who) (af) sl:=⟨yP,h,dM _,dM _,hc⟩
theorem MK {w w0:World}{cs ds:List (Cm×Value×Value)}(h1:DoB w.heap.size w cs)(h2: ∀q∈ds,DoB w.heap.size w [q])(hb:aq w w0):DoB w0.heap.size w0 (cs++ds):=fun q hq=>by
 have h:Rob (fun k=>k<w.heap.size) (fun u=>lu u q.1 q.2.1 q.2.2) w:=(bU.1 hq).elim (h1 q) fun hq=>h2 q hq q (bT.2 rfl);exact(h.below hb).move (aB _) (fun _ _ _=>rfl) fun k _ hk=>aT hk hb.size
theorem IQ {w:World}{c:Cm}{rv sl:Value}(h: ∀u,(∀k,k<w.heap.size->u.heap[k]? =w.heap[k]?)->lu u c rv sl):DoB w.heap.size w [(c,rv,sl)]:=fun q hq u _ ha=>by
 cases bT.1 hq;exact h u fun k hk=>ha k hk hk
theorem Dh (cs:List (Cm×Value×Value))(v:Value)(n x y:Int)(sl:Value)(who:List Int)(t:Int)(w:World)(hs:kT w v cs)(hn:cs.length<=1000000000000)(hw:dS w sl who)(hc: ∀p n k,sl= .slice p n k->n<=k)(hT:Tbs w.heap.size w):Calls prog 4 #[v,ag n,.agg #[ag x,ag y,sl],ag t] w fun e w'=>e= .returned (.bool true)/\aq w w':=by
 obtain⟨wA,hA,bA,nA⟩:=nb w #[ag x,ag y,sl] 36;have c1:=De wA fun W hW=>hT W (aw bA hW);have HS:=aG hs;have HT:=aG hT;have HW:=aG hw;have HC0:=aG hc;have HBA:=aG bA;obtain⟨p,k,rfl,_,_⟩:=hs;obtain⟨ps,ks,rfl,_,_⟩:=hw;have NA:=aG nA;have hw3:IntKind.i64.wrap ((cs.length:Int)+3)=(cs.length:Int)+3:=by rw[bG];omega
 clear hT hc bA nA;go_enter func4,ntmps4;go_wp2_with fail;refine c1.mono ?_;rintro e w1 ⟨rfl,b1⟩;clear c1;have HB1:=aG (aw HBA.o b1);have n1:=bt b1 NA.o;clear b1 hA NA;have H:60<(cs.length:Int)+3\/(¬60<(cs.length:Int)+3/\t<0)\/(¬60<(cs.length:Int)+3/\ ¬t<0/\100<t)\/(¬60<(cs.length:Int)+3/\ ¬t<0/\ ¬100<t):=by omega
 rcases H with h1|⟨h1,h2⟩|⟨h1,h2,h3⟩|⟨h1,h2,h3⟩;rotate_left 3
 ·obtain⟨wZ,wC,hZ,nZ,hC,bC,nH⟩:=nbs w1 #[ag 0,ag 0,ag 0,ag 0,.string ⟨#[]⟩,.string ⟨#[]⟩,ag 0,ag 0,ag 0,af,ag 0,ag 0,af] #[ag 5,ag n,ag 0,ag 0,.string ⟨#[]⟩,.string ⟨#[]⟩,ag 0,ag 0,ag 0,af,ag x,ag y,.slice ps who.length ks] 45;have y0:w1.cell? (ae w.heap.size 0)=some (ag x):=cr 0 n1 rfl;have hbC:=aw HB1.o bC
  have hHC:PyC wC cs [(cH n x y who,af,.slice ps who.length ks),(cT t,af,af),(cH n x y who,af,.slice ps who.length ks)] (.slice p cs.length k):=by
   refine⟨HS.o.below hbC,MK (Oj HS.o) (fun q hq=> ?_) hbC,by simp;omega,Nat.zero_lt_succ _,fun W hW=>HT.o W (aw hbC hW)⟩;have hH:DoB w.heap.size w [(cH n x y who,af,.slice ps who.length ks)]:=IQ fun u hu=>Om (oT HW.o hu) HC0.o n x y;have hT2:DoB w.heap.size w [(cT t,af,af)]:=IQ fun u _=>ya _ rfl rfl (dM _) (dM _);simp only[bz,List.not_mem_nil,or_false]at hq;rcases hq with rfl|rfl|rfl
   ·exact hH
   ·exact hT2
   ·exact hH
  have HC:=aG hHC;have HBC:=aG hbC;clear hHC hbC bC;go_upto_region 6 with(first|(refine aQ rfl 36 _ rfl _ rfl _ _ _ _ n1 slT rfl (by kernel_rfl) ?_)|(refine ay rfl 45 _ _ rfl _ _ rfl rfl _ _ nZ (by kernel_rfl) rfl (by simp[Value.oneCell']) ?_;rw[hC]))
  clear nZ hZ hC n1 y0;refine dn (PyJ wC 7 34 10 cs [(cH n x y who,af,.slice ps who.length ks),(cT t,af,af),(cH n x y who,af,.slice ps who.length ks)]) [td 35,kn 36 (.slice p cs.length k),td 37,kn 38 (.agg #[ag 5,ag n,ag 0,ag 0,.string ⟨#[]⟩,.string ⟨#[]⟩,ag 0,ag 0,ag 0,af,ag x,ag y,.slice ps who.length ks]),kn 39 (ag t),kn 40 (.agg #[ag 9,ag 0,ag 0,ag t,.string ⟨#[]⟩,.string ⟨#[]⟩,ag 0,ag 0,ag 0,af,ag 0,ag 0,af]),kn 41 (.agg #[ag 5,ag n,ag 0,ag 0,.string ⟨#[]⟩,.string ⟨#[]⟩,ag 0,ag 0,ag 0,af,ag x,ag y,.slice ps who.length ks]),td 42,td 43,td 44,td 34,td 45,td 46,td 47,td 48,td 10,nk,td 11,td 12,td 13] (fun _=>PyJ.start (aI _ _).drew) (fun _ _ _ _ hb h=>h.below hb) (by kernel_rfl) ?_ ?_
  ·rintro M φ W hJ _ F l hl hF;have HJ:=aG hJ;clear hJ;simp only[kn,td,nk,dX,aR,aX,Act.put,aA,aK,aJ]at hl;subst hl;simp only[dc,Nat.reduceAdd]at hF;dsimp only[kn,td,nk,dC,eJ,eg,Act.put];and_intros;all_goals first|exact trivial|intro hw hn hm K hK
   all_goals try (go_simp;with_reducible exact hK _ _ ⟨rfl,aI _ _⟩)
   ·show Oper.wp _ _ _ _ _ _;exact ye rfl (hK _ _ ⟨trivial,HJ.o.d0 (by decide) (hn 2 _ rfl (by kernel_rfl))⟩)
   ·show Oper.wp _ _ _ _ _ _;exact HJ.o.op2 HC.o (by decide) (hw ⟨0,.data⟩ (by simp) rfl rfl) hm (hn 8 _ rfl (by kernel_rfl)) rfl rfl (by simp[Act.eval,hF]) (by simp[Act.eval,hF]) fun u W' h=>hK _ _ ⟨trivial,h⟩
   ·show Oper.wp _ _ _ _ _ _;refine eo 45 _ rfl _ (by simp[Act.eval,hF]) _ _ _ _ (bt HJ.o.bel nH) doT rfl (by kernel_rfl) ?_;exact hK _ _ ⟨rfl,aI _ _⟩
   ·show Oper.wp _ _ _ _ _ _;refine eo 45 _ rfl _ (by simp[Act.eval,hF]) _ _ _ _ (bt HJ.o.bel nH) doT rfl (by kernel_rfl) ?_;exact hK _ _ ⟨rfl,aI _ _⟩
   ·have h8:=hn 8 _ rfl (by kernel_rfl);clear hw hn;go_simp;exact hK _ _ ⟨trivial,HJ.o.d7' (by decide) h8 (by kernel_rfl) (by kernel_rfl)⟩
   ·show Oper.wp _ _ _ _ _ _;exact HJ.o.op8 HC.o (by decide) (hw ⟨2,.data⟩ (by simp) rfl rfl) (hw ⟨7,.data⟩ (by simp) rfl rfl) hm rfl rfl (by simp[Act.eval,hF]) (by simp[Act.eval,hF]) fun u W' h=>hK _ _ ⟨trivial,h⟩
   ·have cP:=HJ.o.play HC.o (by decide) (hw ⟨8,.data⟩ (by simp) rfl rfl) hm;clear hw hn;go_simp;refine cP.mono ?_;rintro e W' ⟨u,rfl,h⟩;exact hK _ _ ⟨trivial,h⟩
   ·have h1:=hw ⟨9,.data⟩ (by simp) rfl rfl;have h9:=h1;obtain⟨rv,ev,sv,av,asv,rn,ss,aa,ls,hP⟩:=HJ.o.e9 h9;rw[hP.get 0 rfl h1]at hF;clear hw hn;go_simp;exact hK _ _ ⟨trivial,HJ.o.val h9 hP (by decide) (by decide) (p:=1) rfl⟩
   ·have h1:=hw ⟨10,.data⟩ (by simp) rfl rfl;have h9:=HJ.o.cl 10 (by decide) (by decide) h1;obtain⟨rv,ev,sv,av,asv,rn,ss,aa,ls,hP⟩:=HJ.o.e9 h9;rw[hP.get 1 rfl h1]at hF;clear hw hn;go_simp;exact hK _ _ ⟨trivial,HJ.o.val h9 hP (by decide) (by decide) (p:=2) rfl⟩
   ·have h1:=hw ⟨10,.data⟩ (by simp) rfl rfl;have h9:=HJ.o.cl 10 (by decide) (by decide) h1;obtain⟨rv,ev,sv,av,asv,rn,ss,aa,ls,hP⟩:=HJ.o.e9 h9;rw[hP.get 1 rfl h1]at hF;clear hw hn;go_simp;exact hK _ _ ⟨trivial,HJ.o.val h9 hP (by decide) (by decide) (p:=3) rfl⟩
   ·have h1:=hw ⟨10,.data⟩ (by simp) rfl rfl;have h9:=HJ.o.cl 10 (by decide) (by decide) h1;obtain⟨rv,ev,sv,av,asv,rn,ss,aa,ls,hP⟩:=HJ.o.e9 h9;rw[hP.get 1 rfl h1]at hF;clear hw hn;go_simp;exact hK _ _ ⟨trivial,HJ.o.val h9 hP (by decide) (by decide) (p:=4) rfl⟩
   ·have h1:=hw ⟨10,.data⟩ (by simp) rfl rfl;have h9:=HJ.o.cl 10 (by decide) (by decide) h1;obtain⟨rv,ev,sv,av,asv,rn,ss,aa,ls,hP⟩:=HJ.o.e9 h9;rw[hP.get 1 rfl h1]at hF;clear hw hn;go_simp;exact hK _ _ ⟨trivial,HJ.o.val h9 hP (by decide) (by decide) (p:=5) rfl⟩
   ·have h16:=hn 16 _ rfl (by kernel_rfl);clear hw hn;go_simp;exact hK _ _ ⟨trivial,HJ.o.da (by decide) h16⟩
   ·have h4:=hw ⟨11,.data⟩ (by simp) rfl rfl;obtain⟨c,g,e1,e2,h1,h3,hg,h⟩:=HJ.o.d16 (HJ.o.cl 11 (by decide) (by decide) h4) h4 (hw ⟨15,.data⟩ (by simp) rfl rfl) hm;show Oper.wp _ _ _ _ _ _;exact iP (ops:= #[]) rfl (ay rfl 29 _ _ rfl g c (by simp[Act.eval,hF,e1]) (by simp[Act.eval,hF,e2]) _ _ hg (by rw[h3];kernel_rfl) (by rw[h3];rfl) h1 ⟨rfl,hK undef _ ⟨trivial,h⟩⟩)
   ·have h1:=hw ⟨12,.data⟩ (by simp) rfl rfl;have h9:=HJ.o.cl 12 (by decide) (by decide) h1;obtain⟨rv,ev,sv,av,asv,rn,ss,aa,ls,hP⟩:=HJ.o.e9 h9;rw[hP.get 3 rfl h1]at hF;clear hw hn;go_simp;exact hK _ _ ⟨trivial,HJ.o.val h9 hP (by decide) (by decide) (p:=6) rfl⟩
   ·have h1:=hw ⟨13,.data⟩ (by simp) rfl rfl;have h9:=HJ.o.cl 13 (by decide) (by decide) h1;obtain⟨rv,ev,sv,av,asv,rn,ss,aa,ls,hP⟩:=HJ.o.e9 h9;rw[hP.get 4 rfl h1]at hF;clear hw hn;go_simp;exact hK _ _ ⟨trivial,HJ.o.val h9 hP (by decide) (by decide) (p:=7) rfl⟩
   ·have h1:=hw ⟨14,.data⟩ (by simp) rfl rfl;have h9:=HJ.o.cl 14 (by decide) (by decide) h1;obtain⟨rv,ev,sv,av,asv,rn,ss,aa,ls,hP⟩:=HJ.o.e9 h9;rw[hP.get 5 rfl h1]at hF;clear hw hn;go_simp;exact hK _ _ ⟨trivial,HJ.o.val h9 hP (by decide) (by decide) (p:=8) rfl⟩
  ·rintro M φ W hM hJ
   obtain⟨rv,ev,sv,av,asv,ss,aa,ls,g,e10,e11,_,_,hb,hg,hR⟩:=hJ.fin fun k h1 h2=>by
    obtain rfl|rfl|rfl|rfl|rfl|rfl|rfl|rfl|rfl|rfl|rfl:k=9\/k=10\/k=11\/k=12\/k=13\/k=14\/k=15\/k=16\/k=17\/k=18\/k=19:=(by omega);all_goals exact hM _ (by decide) rfl
   simp only[kn,td,nk,en,aR,aX,Act.put,aA,aK,aJ];rw[e10,e11];have hP:=hR.here;have hBW:=aw HBC.o hb;have HBW:=aG hBW;obtain⟨a1,a3,f1,f3,hF⟩:=FM (cs.map fun q=>q.1) n x y who (t:=t) (by omega);have hlen:=IN ((cs.map fun q=>q.1)++[cH n x y who,cT t,cH n x y who]);rw[dT,show([(cH n x y who,af,.slice ps who.length ks),(cT t,af,af),(cH n x y who,af,.slice ps who.length ks)]:List (Cm×Value×Value)).map (fun q=>q.1)=[cH n x y who,cT t,cH n x y who] from rfl]at hP;generalize playP dk0 ((cs.map fun q=>q.1)++[cH n x y who,cT t,cH n x y who])=P at hP f1 f3 hF hlen;rw[ba]at f1 f3;rw[<-hP.ane,bg]at f1 f3;obtain⟨q1,hq1,rfl⟩:=dL.1 f1;obtain⟨q3,hq3,rfl⟩:=dL.1 f3
   have hll:ls.length=cs.length+3:=by
    rw[<-ba (f:=fun p:An×Value×Value=>p.1),hP.ane,hlen];simp
   obtain⟨gx,cx,e1,_,r1⟩:=jy (f:=fun p:An×Value×Value=>anC p.1 p.2.1 p.2.2) (fun _=>rfl) hP.ans rfl hq1;obtain⟨gx',cx',e2,_,r3⟩:=jy (f:=fun p:An×Value×Value=>anC p.1 p.2.1 p.2.2) (fun _=>rfl) hP.ans rfl hq3;subst e1;injection e2 with e2 _ e3;injection e2 with e2;injection e2 with e2;subst e2 e3;obtain⟨m,hm⟩:=au cs.length;obtain⟨n5,hn5⟩:=au ls.length;obtain⟨m2,hm2⟩:=au (m+2);rw[hm]at hn hll r1 r3 hw3;rw[hm2]at r3;rw[hn5]at hll;have y1:W.cell? (ae gx (m*6))=some (ag q1.1.err):=r1 0 _ rfl;have y2:W.cell? (ae gx (m*6+1))=some (ag q1.1.num):=r1 1 _ rfl;have y3:W.cell? (ae gx (m2*6))=some (ag q3.1.err):=r3 0 _ rfl;have i0:(0:Int)<=(m:Int):=(by omega);have i1:(m:Int)<(n5:Int):=(by omega);have i2:(0:Int)<=(m2:Int):=(by omega);have i3:(m2:Int)<(n5:Int):=(by omega);have w2:IntKind.i64.wrap ((m:Int)+2)=(m2:Int):=(by rw[bG];omega);have i4:((n5:Int) !=(m:Int)+3)=false:=(by rw[hll];simp);have i5:((n5:Int)==(m:Int)+3)=true:=(by rw[hll];simp);have hps:=hP.aps;have hpr:=hP.apr;have hape:=hP.ape;clear hP hR f1 f3 hq1 hq3 hlen r1 r3 hll hM hJ hb hBW;obtain⟨b1,hb1⟩:=au (q1.1.err !=0);rw[hm,hn5];have HM:=aG hm;clear hm hn5 hm2;cases b1 with
   |true=>
    clear y2 y3 hF hps hpr hape hg;go_wp2_with fail;go_ret;exact⟨rfl,HBW.o⟩
   |false=>
    obtain⟨na,p',hnum,hap,hst,h5⟩:=hF (by simpa using hb1);rw[hnum]at y2;rw[<-hape,bg]at hap;obtain⟨⟨a,pv⟩,hq,rfl⟩:=dL.1 hap;have hlt:na<aa.length:=(aF.1 hq).1;obtain⟨a',pw,cw,gp,ca,hq',hav,hrg,_⟩:=O5 hps hpr hlt;rw[hq]at hq';cases hq';subst hav;obtain⟨n6,hn6⟩:=au aa.length;rw[hn6]at hlt hg;have i6:(0:Int)<=(na:Int):=(by omega);have i7:(na:Int)<(n6:Int):=(by omega);have zd:=cr 3 hg rfl;dsimp only at hst;have hs3:(a.st==3)=decide (10<=t):=(by by_cases h:10<=t<;>simp[h,hst])
    have h6:(q3.1.err==5)=true\/((q3.1.err==5)=false/\(q3.1.err==0)=decide (10<=t)):=by
     by_cases h:q3.1.err=5
     ·exact .inl (by simp[h])
     ·refine .inr ⟨by simp[h],?_⟩;have h5:=h5.resolve_left h;by_cases h:10<=t<;>simp[h,h5]
    clear hF hps hpr hape hap hq hn6 hlt hnum hg hst h5;by_cases h10:10<=t
    all_goals
     simp only[h10,decide_true,decide_false]at hs3 h6
     go_upto_region 11 with fail
     refine oI 10 (fun M φ W'=>aq W W'/\(M 9=true-> ∃gz,φ 16=ab gz 0/\W.heap.size<=gz/\W'.heap[gz]? =ah apZ 38)) [kn 71 (ab g 3),kn 72 (.slice (some (ae gp 0)) n6 ca),kn 73 (.slice (some (ae gx 0)) n5 cx),kn 74 (ag (m:Int)),kn 75 (ab gx (m*6)),kn 76 (ab gx (m*6+1)),kn 77 (ag (na:Int)),kn 78 (ab gp (na*11)),kn 79 (.agg (apC (a,.slice pw a.who.length cw))),td 16,nk] (fun _=>⟨(aI _ _).drew,fun h=>by cases h⟩) (fun _ _ _ _ hb h=>⟨aw h.1 hb,fun c=>by
      obtain⟨gz,e,h1,h2⟩:=h.2 c;exact⟨gz,e,h1,bt hb h2⟩⟩) (by kernel_rfl) (by kernel_rfl) ?_
     rintro M φ W' hm hJ F l hl hF
     have zd:=aj hJ.1 zd
     have y2:=aj hJ.1 y2
     have HJ:=aG hJ
     clear hJ
     simp only[kn,td,nk,dX,aR,aX,Act.put,aA,aK,aJ]at hl
     subst hl
     simp only[dc,Nat.reduceAdd]at hF
     dsimp only[kn,td,nk,dC,eJ,eg,Act.put]
     and_intros
     all_goals first|exact trivial|intro hw hn _ K hK
     all_goals try (go_simp;with_reducible exact hK _ _ ⟨rfl,aI _ _⟩)
     ·show Oper.wp _ _ _ _ _ _
      exact iP (ops:= #[]) rfl (wpList_load_mid rfl 38 _ rfl gp (na*11) (by simp[Act.eval,hF]) (apC (a,.slice pw a.who.length cw)).toList _ (iI hrg HJ.o.1) apT rfl (by kernel_rfl) ⟨rfl,hK _ _ ⟨rfl,aI _ _⟩⟩)
     ·go_simp
      exact hK _ _ ⟨trivial,fun _=>⟨HJ.o.1.trans ((am _ _).mono HJ.o.1.size),fun _=>⟨_,dD,HJ.o.1.size,aE _ _⟩⟩,fun c=>lD hm c (by decide)⟩
     ·obtain⟨gz,e,h1,h2⟩:=HJ.o.2 (hw ⟨9,.data⟩ (by simp) rfl rfl)
      show Oper.wp _ _ _ _ _ _
      refine iP (ops:= #[]) rfl (ay rfl 38 _ _ rfl gz (apC (a,.slice pw a.who.length cw)) (by simp[Act.eval,hF,e]) (by simp[Act.eval,hF]) _ _ h2 (by kernel_rfl) rfl (iu _ _ _ _) ⟨rfl,hK undef _ ⟨trivial,fun c=>by simp at c,fun _=> ?_⟩⟩)
      have hb:=below_setRow HJ.o.1 h1 (apC (a,.slice pw a.who.length cw))
      have z0:(W'.setRow gz (apC (a,.slice pw a.who.length cw))).cell? (ae gz 0)=some (ag a.st):=cr 0 (aL _ _ _ _ _ _ h2) rfl
      have z3:=aj hb y3
      have HB:=aG (aw HBW.o hb)
      simp only[en,aR,aX,Act.put,aA,aK,aJ]
      rw[e]
      clear hw hn hF h1 h2 hb y1 y2 y3 zd hrg hm
      generalize W'.setRow gz (apC (a,.slice pw a.who.length cw))=WZ at*
      rcases h6 with h6|⟨h6,h7⟩
      all_goals
       go_wp2_with fail
       go_ret
       exact⟨rfl,HB.o⟩
 all_goals
  go_wp2_with fail
  go_ret
  exact⟨rfl,HB1.o⟩
section
open Go.ChangeShapes Go.WideShapes Go.ChangeAt Go.WideMaps Go.WideElems Go.Joins
abbrev uW:List (String×DataW Unit):=Rows.deskClashRow.laid
def KX:String:=(Rows.deskClashRow.laid.headD default).1
def On:String:=(Rows.deskClashRow.laid.getD 1 default).1
def PD:String:=(Rows.deskClashRow.laid.getD 2 default).1
def sP:List Int:=Lib.deBruijn64tab.map fun(n:Nat)=>(n:Int)
theorem own3:ownKnob prog.godebug=none:=by kernel_rfl
theorem IR:prog.globalNamed KX=some 1:=by kernel_rfl
theorem Oo:(prog.globals[1]?).map (·.type)=some 273:=by kernel_rfl
theorem KY:prog.globalNamed On=some 0:=by kernel_rfl
theorem O6:(prog.globals[0]?).map (·.type)=some 268:=by kernel_rfl
theorem KZ:prog.globalNamed PD=some 3:=by kernel_rfl
theorem O7:(prog.globals[3]?).map (·.type)=some 284:=by kernel_rfl
theorem cI3:prog.cellsOf 3=1:=by kernel_rfl
theorem cB3:prog.cellsOf 5=1:=by kernel_rfl
theorem cT3:prog.cellsOf 273=64:=by kernel_rfl
theorem cL3:prog.cellsOf 268=12:=by kernel_rfl
theorem cS3:prog.cellsOf 9=1:=by kernel_rfl
theorem cD3:prog.cellsOf 284=7:=by kernel_rfl
theorem IS (os:Os)(args:Array Value):laidMetH prog uW ((World.doorLaid prog 400 os).forCall (fun _ _=>0) ⟨#[],args,[]⟩).memory:=
 laidMetH_of_parts3 (fuel:=8) (laidMet_of_run' 8 (by kernel_rfl) (by kernel_rfl)) (by kernel_rfl) (by kernel_rfl)
theorem IT {H:Type}{enc:TypeId×Value->H}{P:Program}{w:World}{base:Nat}{sp:Nat->Bool}{held:Bool}{t e:TypeId}{n:Nat}{cs:List Value}{zs:List (List UInt8)}{p:List MemPlace}(ht:P.underlying t=some (.array n e))(he:P.underlying e=some .string)(hce:P.cellsOf e=1)(hct:P.cellsOf t=n):
  ∀fuel,DataW.trod enc P w base sp held fuel t cs=some (.agg (zs.map fun z=> .lit (.string z)),p)-> ∀(i:Nat) (z:List UInt8),zs[i]? =some z->cs[i]? =some (.string ⟨z.toArray⟩)
 |0,h,_,_,_=>by simp[DataW.trod]at h
 |fuel+1,h,i,z,hz=>by
  simp only[DataW.trod,ht,hce,hct,Nat.mul_one]at h;split at h
  ·obtain⟨xs,hm,hx⟩:=dL.1 h;have h1:xs.map (fun x=>x.1)=zs.map fun z=>(DataW.lit (.string z):DataW H):=(by simpa using congrArg Prod.fst hx);have h2:(xs.map fun x=>x.1)[i]? =some (DataW.lit (.string z):DataW H):=(by rw[h1,bg,hz];rfl);rw[bg]at h2;obtain⟨x,hx1,hx2⟩:=dL.1 h2
   have hin:i<n:=by
    have a:=(aF.1 hx1).1;have b:=Lib.mapM_length hm;simp at b;omega
   obtain⟨b,hb,hf⟩:=Lib.mapM_at hm i i (by simp[hin]);obtain⟨s,hc,rfl,_⟩:=DataW.trod_string he hf;rw[hb]at hx1;obtain rfl:=aN hx1;have hs:s.data.toList=z:=(by simpa using hx2);have h3:=congrArg (fun l:List Value=>l[0]?) hc;have h4:cs[i]? =some (.string s):=(by simpa[js,List.getElem?_drop] using h3);rw[h4,<-hs]
  ·cases h
theorem Ay {W:World}(h:laidMetH prog uW W):Tab W/\gH W/\qd W:=by
 rw[MakeChecks.laidMetH_plain _ _ _ (by kernel_rfl)]at h;obtain⟨ps,⟨g1,t1,cs1,fuel1,p1,q1,hg1,ht1,hv1,hd1,⟨g2,t2,cs2,fuel2,p2,q2,hg2,ht2,hv2,hd2,⟨g3,t3,cs3,fuel3,p3,q3,hg3,ht3,hv3,hd3,_,_⟩,_⟩,_⟩,_⟩:=h;obtain rfl:=aN (IR.symm.trans hg1);obtain rfl:=aN (Oo.symm.trans ht1);obtain rfl:=aN (KY.symm.trans hg2);obtain rfl:=aN (O6.symm.trans ht2);obtain rfl:=aN (KZ.symm.trans hg3);obtain rfl:=aN (O7.symm.trans ht3);refine⟨?_,?_,?_⟩
 ·have e1:=Lib.cells_of_tab (zs:=sP) underlying273 underlying5 cB3 cT3 hd1
  have t:Lib.TabIs prog W KX .u8 sP:=by
   unfold Lib.TabIs;rw[<-e1];exact hv1
  intro i hi;have:=t.cell IR i (by simpa[sP,Lib.deBruijn64tab] using hi);rw[this];have hl:i<Lib.deBruijn64tab.length:=(by simpa[Lib.deBruijn64tab] using hi);simp[sP,List.getD,hl]
 ·have e2:=Lib.cells_of_tab (zs:=tab) underlying268 underlying3 cI3 cL3 hd2
  have t:Lib.TabIs prog W On .i64 tab:=by
   unfold Lib.TabIs;rw[<-e2];exact hv2
  intro i hi;exact t.cell KY i (by simpa[tab] using hi)
 ·intro j hj
  have hz:fy[j]? =some (fy.getD j []):=by
   rw[dQ,az (by exact hj)];rfl
  have hc:=IT (zs:=fy) underlying284 underlying9 cS3 cD3 fuel3 hd3 j _ hz;have:=World.var?_cell KZ hv3 j;rw[this];simpa using hc
end
section
open Go.ChangeShapes Go.WideShapes Go.ChangeAt Go.WideMaps Go.WideElems Go.Joins
theorem Di {W:World}(h:laidMetH prog uW W):Tbs W.heap.size W:=fun W' hb=>by
 obtain⟨a,b,c⟩:=Ay h;exact⟨fun i hi=>(hb.cell (bP (b i hi))).trans (b i hi),fun i hi=>(hb.cell (bP (c i hi))).trans (c i hi),fun i hi=>(hb.cell (bP (a i hi))).trans (a i hi)⟩
end
end Go.Proofs.YtkfidffapdhbhaaGreatDoor
