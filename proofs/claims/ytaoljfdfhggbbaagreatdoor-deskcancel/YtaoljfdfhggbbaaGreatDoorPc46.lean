/- Texts of the proof. -/
import Derived.Test.YtaoljfdfhggbbaaGreatDoorPc45
import Derived.Test.YtaoljfdfhggbbaaGreatDoorCards
import Derived.Test.YtaoljfdfhggbbaaGreatDoorTie
import Derived.LaidMore
import Derived.SevenTiedAt
set_option maxRecDepth 100000
set_option maxHeartbeats 8000000
namespace Go.Proofs.YtaoljfdfhggbbaaGreatDoor
open Go.Proofs.Tryz Go.RowKit Lx Vx Mx Msk
theorem pG.at_ {B:Nat}{W:World}{P:List An×Dk}{s ev sv av b:Value}{t:List (Sv×Value)}{m:List (Ap×Value)}{l:List (An×Value×Value)}(h:pG B W P s ev sv av b t m l): ∃i k,b= .slice i P.1.length k/\ ∀(j:Nat) (a:An),P.1[j]? =some a-> ∃g,i=some ⟨g,0,none⟩/\W.cell? (ae g (j*6))=some (ag a.err)/\W.cell? (ae g (j*6+1))=some (ag a.num):=by
 obtain⟨i,k,e⟩:=df h.ans;have n:l.length=P.1.length:=by rw[<-h.ane,ba]
 refine⟨i,k,by rw[e,n],fun j a ha=> ?_⟩;rw[<-h.ane,bg]at ha;obtain⟨q,o,rfl⟩:=dR.1 ha;obtain⟨g,c,d,_,r⟩:=jQ (f:=fun p:An×Value×Value=>anC p.1 p.2.1 p.2.2) (fun _=>rfl) h.ans rfl o;rw[e]at d;injection d with d;exact⟨g,d,r 0 _ rfl,r 1 _ rfl⟩
theorem CH (A:List (Cm×Value×Value))(v:Value)(n x y:Int)(sl:Value)(who:List Int)(t:Int)(w:World)(hs:kU w v A)(s:A.length<=1000000000000)(f:dS w sl who)(hc: ∀p n k,sl= .slice p n k->n<=k)(hT:Tbs w.heap.size w):Calls prog 3 #[v,ag n,.agg #[ag x,ag y,sl],ag t] w fun e w'=>e= .returned (.bool true)/\aq w w':=by
 obtain⟨wA,hA,bA,nA⟩:=nb w #[ag x,ag y,sl] 25;have c1:=Do wA fun W hW=>hT W (aw bA hW);have HS:=aF hs;have HT:=aF hT;have aL:=aF bA;obtain⟨p,k,rfl,_,_⟩:=id hs;obtain⟨L,J,rfl,_,_⟩:=id f;have HH:PN (DoB w.heap.size w [(cH n x y who,af,.slice L who.length J)]):=ym fun u hu=>Ou (oU f hu) hc n x y;have NA:=aF nA;have bi:IntKind.i64.wrap ((A.length:Int)+4)=(A.length:Int)+4:=by rw[bz];omega
 clear hT hc bA nA hs f;go_enter func3,ntmps3;go_wp2_with fail;refine c1.mono ?_;rintro e w1 ⟨rfl,b1⟩;clear c1;have a0:=aF (aw aL.o b1);have n1:=bt b1 NA.o;clear b1 hA NA;have H:60<(A.length:Int)+4\/(¬60<(A.length:Int)+4/\t<0)\/(¬60<(A.length:Int)+4/\ ¬t<0/\1000<t)\/(¬60<(A.length:Int)+4/\ ¬t<0/\ ¬1000<t):=by omega
 rcases H with d|⟨d,h2⟩|⟨d,h2,h3⟩|⟨d,h2,h3⟩;rotate_left 3
 ·obtain⟨wZ,wC,hZ,nZ,hC,bC,nH⟩:=nbs w1 #[ag 0,ag 0,ag 0,ag 0,.string ⟨#[]⟩,.string ⟨#[]⟩,ag 0,ag 0,ag 0,af,ag 0,ag 0,af] #[ag 5,ag n,ag 0,ag 0,.string ⟨#[]⟩,.string ⟨#[]⟩,ag 0,ag 0,ag 0,af,ag x,ag y,.slice L who.length J] 31;have y0:w1.cell? (ae w.heap.size 0)=some (ag x):=cr 0 n1 rfl;have B:=aw a0.o bC
  have S:PyC wC A [(cH n x y who,af,.slice L who.length J)] (.slice p A.length k):=⟨HS.o.below B,yY (CC HS.o) (fun q hq=>by
   simp only[bv,List.not_mem_nil,or_false]at hq;rcases hq with rfl;all_goals first|exact HH.o|exact ym fun u _=>r9 _ rfl rfl (dw _) (dw _)) B,by simp;omega,Nat.zero_lt_succ _,fun W hW=>HT.o W (aw B hW)⟩
  have HC:=aF S;have a2:=aF B;clear S B bC;go_upto_region 6 with(first|(refine aR rfl 25 _ rfl _ rfl _ _ _ _ n1 slT rfl (by kernel_rfl) ?_)|(refine ay rfl 31 _ _ rfl _ _ rfl rfl _ _ nZ (by kernel_rfl) rfl (by simp[Value.oneCell']) ?_;rw[hC]))
  clear nZ hZ hC n1 y0;refine dh (PyJ wC 4 41 10 A [(cH n x y who,af,.slice L who.length J)]) [td 42,kn 43 (.slice p A.length k),td 44,kn 45 (.agg #[ag 5,ag n,ag 0,ag 0,.string ⟨#[]⟩,.string ⟨#[]⟩,ag 0,ag 0,ag 0,af,ag x,ag y,.slice L who.length J]),td 46,td 47,td 48,td 41,td 49,td 50,td 51,td 52,td 10,nk,td 11,td 12,td 13] (fun _=>PyJ.start (aI _ _).drew) (fun _ _ _ _ hb h=>h.below hb) (by kernel_rfl) ?_ ?_
  ·rintro M φ W T _ F l hl m;have b:=aF T;clear T;simp only[kn,td,nk,dW,aQ,aX,Act.put,aA,aK,aJ]at hl;subst hl;simp only[cZ,Nat.reduceAdd]at m;dsimp only[kn,td,nk,dB,eN,eg,Act.put];and_intros;all_goals first|exact trivial|intro f s X K r
   all_goals try (go_simp;with_reducible exact r _ _ ⟨rfl,aI _ _⟩)
   ·show Oper.wp _ _ _ _ _ _;exact nU rfl (r _ _ ⟨trivial,b.o.d0 (by decide) (s 2 _ rfl (by kernel_rfl))⟩)
   ·show Oper.wp _ _ _ _ _ _;exact b.o.op2 HC.o (by decide) (f ⟨0,.data⟩ (by simp) rfl rfl) X (s 5 _ rfl (by kernel_rfl)) rfl rfl (by simp[Act.eval,m]) (by simp[Act.eval,m]) fun u W' h=>r _ _ ⟨trivial,h⟩
   ·show Oper.wp _ _ _ _ _ _;refine dU 31 _ rfl _ (by simp[Act.eval,m]) _ _ _ _ (bt b.o.bel nH) doT rfl (by kernel_rfl) ?_;exact r _ _ ⟨rfl,aI _ _⟩
   ·have h8:=s 5 _ rfl (by kernel_rfl);clear f s;go_simp;exact r _ _ ⟨trivial,b.o.d7' (by decide) h8 (by kernel_rfl) (by kernel_rfl)⟩
   ·show Oper.wp _ _ _ _ _ _;exact b.o.op8 HC.o (by decide) (f ⟨2,.data⟩ (by simp) rfl rfl) (f ⟨4,.data⟩ (by simp) rfl rfl) X rfl rfl (by simp[Act.eval,m]) (by simp[Act.eval,m]) fun u W' h=>r _ _ ⟨trivial,h⟩
   ·have cP:=b.o.play HC.o (by decide) (f ⟨5,.data⟩ (by simp) rfl rfl) X;clear f s;go_simp;refine cP.mono ?_;rintro e W' ⟨u,rfl,h⟩;exact r _ _ ⟨trivial,h⟩
   ·have d:=f ⟨6,.data⟩ (by simp) rfl rfl;have i:=d;obtain⟨G,ev,sv,av,z,E,I,C,D,j⟩:=b.o.e9 i;rw[j.get 0 rfl d]at m;clear f s;go_simp;exact r _ _ ⟨trivial,b.o.val i j (by decide) (by decide) (p:=1) rfl⟩
   ·have d:=f ⟨7,.data⟩ (by simp) rfl rfl;have i:=b.o.cl 7 (by decide) (by decide) d;obtain⟨G,ev,sv,av,z,E,I,C,D,j⟩:=b.o.e9 i;rw[j.get 1 rfl d]at m;clear f s;go_simp;exact r _ _ ⟨trivial,b.o.val i j (by decide) (by decide) (p:=2) rfl⟩
   ·have d:=f ⟨7,.data⟩ (by simp) rfl rfl;have i:=b.o.cl 7 (by decide) (by decide) d;obtain⟨G,ev,sv,av,z,E,I,C,D,j⟩:=b.o.e9 i;rw[j.get 1 rfl d]at m;clear f s;go_simp;exact r _ _ ⟨trivial,b.o.val i j (by decide) (by decide) (p:=3) rfl⟩
   ·have d:=f ⟨7,.data⟩ (by simp) rfl rfl;have i:=b.o.cl 7 (by decide) (by decide) d;obtain⟨G,ev,sv,av,z,E,I,C,D,j⟩:=b.o.e9 i;rw[j.get 1 rfl d]at m;clear f s;go_simp;exact r _ _ ⟨trivial,b.o.val i j (by decide) (by decide) (p:=4) rfl⟩
   ·have d:=f ⟨7,.data⟩ (by simp) rfl rfl;have i:=b.o.cl 7 (by decide) (by decide) d;obtain⟨G,ev,sv,av,z,E,I,C,D,j⟩:=b.o.e9 i;rw[j.get 1 rfl d]at m;clear f s;go_simp;exact r _ _ ⟨trivial,b.o.val i j (by decide) (by decide) (p:=5) rfl⟩
   ·have ad:=s 13 _ rfl (by kernel_rfl);clear f s;go_simp;exact r _ _ ⟨trivial,b.o.da (by decide) ad⟩
   ·have h4:=f ⟨8,.data⟩ (by simp) rfl rfl;obtain⟨c,g,e1,e2,d,h3,hg,h⟩:=b.o.d16 (b.o.cl 8 (by decide) (by decide) h4) h4 (f ⟨12,.data⟩ (by simp) rfl rfl) X;show Oper.wp _ _ _ _ _ _;exact iQ (ops:= #[]) rfl (ay rfl 37 _ _ rfl g c (by simp[Act.eval,m,e1]) (by simp[Act.eval,m,e2]) _ _ hg (by rw[h3];kernel_rfl) (by rw[h3];rfl) d ⟨rfl,r undef _ ⟨trivial,h⟩⟩)
   ·have d:=f ⟨9,.data⟩ (by simp) rfl rfl;have i:=b.o.cl 9 (by decide) (by decide) d;obtain⟨G,ev,sv,av,z,E,I,C,D,j⟩:=b.o.e9 i;rw[j.get 3 rfl d]at m;clear f s;go_simp;exact r _ _ ⟨trivial,b.o.val i j (by decide) (by decide) (p:=6) rfl⟩
   ·have d:=f ⟨10,.data⟩ (by simp) rfl rfl;have i:=b.o.cl 10 (by decide) (by decide) d;obtain⟨G,ev,sv,av,z,E,I,C,D,j⟩:=b.o.e9 i;rw[j.get 4 rfl d]at m;clear f s;go_simp;exact r _ _ ⟨trivial,b.o.val i j (by decide) (by decide) (p:=7) rfl⟩
   ·have d:=f ⟨11,.data⟩ (by simp) rfl rfl;have i:=b.o.cl 11 (by decide) (by decide) d;obtain⟨G,ev,sv,av,z,E,I,C,D,j⟩:=b.o.e9 i;rw[j.get 5 rfl d]at m;clear f s;go_simp;exact r _ _ ⟨trivial,b.o.val i j (by decide) (by decide) (p:=8) rfl⟩
  ·rintro M φ W1 hM T
   obtain⟨bm,be,bs,bb,aU,bp,aY,bj,g1,ab,ac,_,_,ap,aP,hR⟩:=T.fin fun k d h2=>by
    obtain rfl|rfl|rfl|rfl|rfl|rfl|rfl|rfl|rfl|rfl|rfl:k=6\/k=7\/k=8\/k=9\/k=10\/k=11\/k=12\/k=13\/k=14\/k=15\/k=16:=(by omega);all_goals exact hM _ (by decide) rfl
   simp only[kn,td,nk,eh,aQ,aX,Act.put,aA,aK,aJ];rw[ab,ac];have ah:=hR.here;rw[dN,show([(cH n x y who,af,.slice L who.length J)]:List (Cm×Value×Value)).map (fun q=>q.1)=[cH n x y who] from rfl]at ah;have R:=uo ((A.map fun q=>q.1)++[cH n x y who]);have Q:=aw a2.o ap;obtain⟨a1,f1,m⟩:=Ds (A.map fun q=>q.1) n x y who (t:=t) (by omega);generalize playP dk0 ((A.map fun q=>q.1)++[cH n x y who])=P at ah f1 R;rw[ba]at f1 m;obtain⟨px,cx,rfl,N⟩:=ah.at_;obtain⟨gx,rfl,y1,y2⟩:=N _ _ f1;have aT:IntKind.i64.wrap ((A.length:Int)+1)=(A.length:Int)+1:=(by rw[bz];omega);obtain⟨n5,a9⟩:=au P.1.length;have i0:(0:Int)<=(A.length:Int):=(by omega);rw[a9]at R⊢;have ax:(n5:Int)=(A.length:Int)+1:=(by simp at R;omega);have i1:(A.length:Int)<(n5:Int):=(by omega);have i4:((n5:Int) !=(A.length:Int)+1)=false:=(by rw[ax];simp);have i5:((n5:Int)==(A.length:Int)+1)=true:=(by rw[ax];simp);have nH:=bt ap nH;have Y:=aF Q;obtain⟨b1,al⟩: ∃q,(a1.err !=0)=q:=⟨_,rfl⟩
   clear ah hR f1 R hM T ap N a9 aP ax;cases b1 with
   |true=>
    clear y2 m nH;go_wp2_with fail;go_ret;exact⟨rfl,Y.o⟩
   |false=>
    obtain⟨O,b1,b2,c1,c3,q,am,k1,k2,k3,k4,k5,k6,k7,k8,k9,k0⟩:=m (by simpa using al);rw[am]at y2;have HK:=aF (eV k1 (eV k2 (eV k3 (eV k4 k5))));clear m am k1 k2 k3 k4 k5 Q;have B:=Y.o
    have S:PyC W1 A [(cH n x y who,af,.slice L who.length J),(cX 7 (O:Int),af,af),(cH n x y who,af,.slice L who.length J)] (.slice p A.length k):=⟨HS.o.below B,yY (CC HS.o) (fun q hq=>by
     simp only[bv,List.not_mem_nil,or_false]at hq;rcases hq with rfl|rfl|rfl;all_goals first|exact HH.o|exact ym fun u _=>r9 _ rfl rfl (dw _) (dw _)) B,by simp;omega,Nat.zero_lt_succ _,fun W hW=>HT.o W (aw B hW)⟩
    have HC:=aF S;clear S B a2;go_upto_region 11 with fail;clear y1 y2 i1 i4 i5 al;refine dh (PyJ W1 7 78 16 A [(cH n x y who,af,.slice L who.length J),(cX 7 (O:Int),af,af),(cH n x y who,af,.slice L who.length J)]) [td 79,kn 80 (.slice p A.length k),td 81,kn 82 (.agg #[ag 5,ag n,ag 0,ag 0,.string ⟨#[]⟩,.string ⟨#[]⟩,ag 0,ag 0,ag 0,af,ag x,ag y,.slice L who.length J]),kn 83 (ag (O:Int)),kn 84 (.agg #[ag 7,ag (O:Int),ag 0,ag 0,.string ⟨#[]⟩,.string ⟨#[]⟩,ag 0,ag 0,ag 0,af,ag 0,ag 0,af]),kn 85 (.agg #[ag 5,ag n,ag 0,ag 0,.string ⟨#[]⟩,.string ⟨#[]⟩,ag 0,ag 0,ag 0,af,ag x,ag y,.slice L who.length J]),td 86,td 87,td 88,td 78,td 89,td 90,td 91,td 92,td 16,nk,td 17,td 18,td 19] (fun _=>PyJ.start (aI _ _).drew) (fun _ _ _ _ hb h=>h.below hb) (by kernel_rfl) ?_ ?_
    ·rintro M φ W T _ F l hl m;have b:=aF T;clear T;simp only[kn,td,nk,dW,aQ,aX,Act.put,aA,aK,aJ]at hl;subst hl;simp only[cZ,Nat.reduceAdd]at m;dsimp only[kn,td,nk,dB,eN,eg,Act.put];and_intros;all_goals first|exact trivial|intro f s X K r
     all_goals try (go_simp;with_reducible exact r _ _ ⟨rfl,aI _ _⟩)
     ·show Oper.wp _ _ _ _ _ _;exact nU rfl (r _ _ ⟨trivial,b.o.d0 (by decide) (s 2 _ rfl (by kernel_rfl))⟩)
     ·show Oper.wp _ _ _ _ _ _;exact b.o.op2 HC.o (by decide) (f ⟨0,.data⟩ (by simp) rfl rfl) X (s 8 _ rfl (by kernel_rfl)) rfl rfl (by simp[Act.eval,m]) (by simp[Act.eval,m]) fun u W' h=>r _ _ ⟨trivial,h⟩
     ·show Oper.wp _ _ _ _ _ _;refine dU 31 _ rfl _ (by simp[Act.eval,m]) _ _ _ _ (bt b.o.bel nH) doT rfl (by kernel_rfl) ?_;exact r _ _ ⟨rfl,aI _ _⟩
     ·show Oper.wp _ _ _ _ _ _;refine dU 31 _ rfl _ (by simp[Act.eval,m]) _ _ _ _ (bt b.o.bel nH) doT rfl (by kernel_rfl) ?_;exact r _ _ ⟨rfl,aI _ _⟩
     ·have h8:=s 8 _ rfl (by kernel_rfl);clear f s;go_simp;exact r _ _ ⟨trivial,b.o.d7' (by decide) h8 (by kernel_rfl) (by kernel_rfl)⟩
     ·show Oper.wp _ _ _ _ _ _;exact b.o.op8 HC.o (by decide) (f ⟨2,.data⟩ (by simp) rfl rfl) (f ⟨7,.data⟩ (by simp) rfl rfl) X rfl rfl (by simp[Act.eval,m]) (by simp[Act.eval,m]) fun u W' h=>r _ _ ⟨trivial,h⟩
     ·have cP:=b.o.play HC.o (by decide) (f ⟨8,.data⟩ (by simp) rfl rfl) X;clear f s;go_simp;refine cP.mono ?_;rintro e W' ⟨u,rfl,h⟩;exact r _ _ ⟨trivial,h⟩
     ·have d:=f ⟨9,.data⟩ (by simp) rfl rfl;have i:=d;obtain⟨G,ev,sv,av,z,E,I,C,D,j⟩:=b.o.e9 i;rw[j.get 0 rfl d]at m;clear f s;go_simp;exact r _ _ ⟨trivial,b.o.val i j (by decide) (by decide) (p:=1) rfl⟩
     ·have d:=f ⟨10,.data⟩ (by simp) rfl rfl;have i:=b.o.cl 10 (by decide) (by decide) d;obtain⟨G,ev,sv,av,z,E,I,C,D,j⟩:=b.o.e9 i;rw[j.get 1 rfl d]at m;clear f s;go_simp;exact r _ _ ⟨trivial,b.o.val i j (by decide) (by decide) (p:=2) rfl⟩
     ·have d:=f ⟨10,.data⟩ (by simp) rfl rfl;have i:=b.o.cl 10 (by decide) (by decide) d;obtain⟨G,ev,sv,av,z,E,I,C,D,j⟩:=b.o.e9 i;rw[j.get 1 rfl d]at m;clear f s;go_simp;exact r _ _ ⟨trivial,b.o.val i j (by decide) (by decide) (p:=3) rfl⟩
     ·have d:=f ⟨10,.data⟩ (by simp) rfl rfl;have i:=b.o.cl 10 (by decide) (by decide) d;obtain⟨G,ev,sv,av,z,E,I,C,D,j⟩:=b.o.e9 i;rw[j.get 1 rfl d]at m;clear f s;go_simp;exact r _ _ ⟨trivial,b.o.val i j (by decide) (by decide) (p:=4) rfl⟩
     ·have d:=f ⟨10,.data⟩ (by simp) rfl rfl;have i:=b.o.cl 10 (by decide) (by decide) d;obtain⟨G,ev,sv,av,z,E,I,C,D,j⟩:=b.o.e9 i;rw[j.get 1 rfl d]at m;clear f s;go_simp;exact r _ _ ⟨trivial,b.o.val i j (by decide) (by decide) (p:=5) rfl⟩
     ·have ad:=s 16 _ rfl (by kernel_rfl);clear f s;go_simp;exact r _ _ ⟨trivial,b.o.da (by decide) ad⟩
     ·have h4:=f ⟨11,.data⟩ (by simp) rfl rfl;obtain⟨c,g,e1,e2,d,h3,hg,h⟩:=b.o.d16 (b.o.cl 11 (by decide) (by decide) h4) h4 (f ⟨15,.data⟩ (by simp) rfl rfl) X;show Oper.wp _ _ _ _ _ _;exact iQ (ops:= #[]) rfl (ay rfl 37 _ _ rfl g c (by simp[Act.eval,m,e1]) (by simp[Act.eval,m,e2]) _ _ hg (by rw[h3];kernel_rfl) (by rw[h3];rfl) d ⟨rfl,r undef _ ⟨trivial,h⟩⟩)
     ·have d:=f ⟨12,.data⟩ (by simp) rfl rfl;have i:=b.o.cl 12 (by decide) (by decide) d;obtain⟨G,ev,sv,av,z,E,I,C,D,j⟩:=b.o.e9 i;rw[j.get 3 rfl d]at m;clear f s;go_simp;exact r _ _ ⟨trivial,b.o.val i j (by decide) (by decide) (p:=6) rfl⟩
     ·have d:=f ⟨13,.data⟩ (by simp) rfl rfl;have i:=b.o.cl 13 (by decide) (by decide) d;obtain⟨G,ev,sv,av,z,E,I,C,D,j⟩:=b.o.e9 i;rw[j.get 4 rfl d]at m;clear f s;go_simp;exact r _ _ ⟨trivial,b.o.val i j (by decide) (by decide) (p:=7) rfl⟩
     ·have d:=f ⟨14,.data⟩ (by simp) rfl rfl;have i:=b.o.cl 14 (by decide) (by decide) d;obtain⟨G,ev,sv,av,z,E,I,C,D,j⟩:=b.o.e9 i;rw[j.get 5 rfl d]at m;clear f s;go_simp;exact r _ _ ⟨trivial,b.o.val i j (by decide) (by decide) (p:=8) rfl⟩
    ·rintro M φ W2 hM T
     obtain⟨bn,bf,bu,bc,aV,bq,aZ,bk,g2,ab,ac,_,_,ar,aS,hR⟩:=T.fin fun k d h2=>by
      obtain rfl|rfl|rfl|rfl|rfl|rfl|rfl|rfl|rfl|rfl|rfl:k=9\/k=10\/k=11\/k=12\/k=13\/k=14\/k=15\/k=16\/k=17\/k=18\/k=19:=(by omega);all_goals exact hM _ (by decide) rfl
     simp only[kn,td,nk,eh,aQ,aX,Act.put,aA,aK,aJ];rw[ab,ac];have an:=hR.here;rw[dN,show([(cH n x y who,af,.slice L who.length J),(cX 7 (O:Int),af,af),(cH n x y who,af,.slice L who.length J)]:List (Cm×Value×Value)).map (fun q=>q.1)=[cH n x y who,cX 7 (O:Int),cH n x y who] from rfl]at an;have U:=uo ((A.map fun q=>q.1)++[cH n x y who,cX 7 (O:Int),cH n x y who]);have Q:=aw Y.o ar;have nH:=bt ar nH;have B:=Q
     have S:PyC W2 A [(cH n x y who,af,.slice L who.length J),(cX 6 (O:Int),af,af),(cT t,af,af),(cH n x y who,af,.slice L who.length J)] (.slice p A.length k):=⟨HS.o.below B,yY (CC HS.o) (fun q hq=>by
      simp only[bv,List.not_mem_nil,or_false]at hq;rcases hq with rfl|rfl|rfl|rfl;all_goals first|exact HH.o|exact ym fun u _=>r9 _ rfl rfl (dw _) (dw _)) B,by simp;omega,Nat.zero_lt_succ _,fun W hW=>HT.o W (aw B hW)⟩
     have HC:=aF S;obtain⟨px,cx,rfl,N⟩:=an.at_;obtain⟨gy,rfl,z1,_⟩:=N _ _ HK.o.1;obtain⟨_,e,z2,_⟩:=N _ _ HK.o.2.1;cases e;have aM:=aF Q;clear S B Q Y an hR hM T ar N aS;obtain⟨n6,aB⟩:=au ((playP dk0 ((A.map fun q=>q.1)++[cH n x y who,cX 7 (O:Int),cH n x y who])).1.length);rw[aB]at U⊢;have ak:(n6:Int)=(A.length:Int)+3:=(by simp at U;omega);have aN:=aF ak;clear aB U ak;go_upto_region 12 with fail;refine dh (PyJ W2 9 93 20 A [(cH n x y who,af,.slice L who.length J),(cX 6 (O:Int),af,af),(cT t,af,af),(cH n x y who,af,.slice L who.length J)]) [td 94,kn 95 (.slice p A.length k),td 96,kn 97 (.agg #[ag 5,ag n,ag 0,ag 0,.string ⟨#[]⟩,.string ⟨#[]⟩,ag 0,ag 0,ag 0,af,ag x,ag y,.slice L who.length J]),kn 98 (ag (O:Int)),kn 99 (.agg #[ag 6,ag (O:Int),ag 0,ag 0,.string ⟨#[]⟩,.string ⟨#[]⟩,ag 0,ag 0,ag 0,af,ag 0,ag 0,af]),kn 100 (ag t),kn 101 (.agg #[ag 9,ag 0,ag 0,ag t,.string ⟨#[]⟩,.string ⟨#[]⟩,ag 0,ag 0,ag 0,af,ag 0,ag 0,af]),kn 102 (.agg #[ag 5,ag n,ag 0,ag 0,.string ⟨#[]⟩,.string ⟨#[]⟩,ag 0,ag 0,ag 0,af,ag x,ag y,.slice L who.length J]),td 103,td 104,td 105,td 93,td 106,td 107,td 108,td 109,td 20,nk,td 21,td 22,td 23] (fun _=>PyJ.start (aI _ _).drew) (fun _ _ _ _ hb h=>h.below hb) (by kernel_rfl) ?_ ?_
     ·rintro M φ W T _ F l hl m;have b:=aF T;clear T;simp only[kn,td,nk,dW,aQ,aX,Act.put,aA,aK,aJ]at hl;subst hl;simp only[cZ,Nat.reduceAdd]at m;dsimp only[kn,td,nk,dB,eN,eg,Act.put];and_intros;all_goals first|exact trivial|intro f s X K r
      all_goals try (go_simp;with_reducible exact r _ _ ⟨rfl,aI _ _⟩)
      ·show Oper.wp _ _ _ _ _ _;exact nU rfl (r _ _ ⟨trivial,b.o.d0 (by decide) (s 2 _ rfl (by kernel_rfl))⟩)
      ·show Oper.wp _ _ _ _ _ _;exact b.o.op2 HC.o (by decide) (f ⟨0,.data⟩ (by simp) rfl rfl) X (s 10 _ rfl (by kernel_rfl)) rfl rfl (by simp[Act.eval,m]) (by simp[Act.eval,m]) fun u W' h=>r _ _ ⟨trivial,h⟩
      ·show Oper.wp _ _ _ _ _ _;refine dU 31 _ rfl _ (by simp[Act.eval,m]) _ _ _ _ (bt b.o.bel nH) doT rfl (by kernel_rfl) ?_;exact r _ _ ⟨rfl,aI _ _⟩
      ·show Oper.wp _ _ _ _ _ _;refine dU 31 _ rfl _ (by simp[Act.eval,m]) _ _ _ _ (bt b.o.bel nH) doT rfl (by kernel_rfl) ?_;exact r _ _ ⟨rfl,aI _ _⟩
      ·have h8:=s 10 _ rfl (by kernel_rfl);clear f s;go_simp;exact r _ _ ⟨trivial,b.o.d7' (by decide) h8 (by kernel_rfl) (by kernel_rfl)⟩
      ·show Oper.wp _ _ _ _ _ _;exact b.o.op8 HC.o (by decide) (f ⟨2,.data⟩ (by simp) rfl rfl) (f ⟨9,.data⟩ (by simp) rfl rfl) X rfl rfl (by simp[Act.eval,m]) (by simp[Act.eval,m]) fun u W' h=>r _ _ ⟨trivial,h⟩
      ·have cP:=b.o.play HC.o (by decide) (f ⟨10,.data⟩ (by simp) rfl rfl) X;clear f s;go_simp;refine cP.mono ?_;rintro e W' ⟨u,rfl,h⟩;exact r _ _ ⟨trivial,h⟩
      ·have d:=f ⟨11,.data⟩ (by simp) rfl rfl;have i:=d;obtain⟨G,ev,sv,av,z,E,I,C,D,j⟩:=b.o.e9 i;rw[j.get 0 rfl d]at m;clear f s;go_simp;exact r _ _ ⟨trivial,b.o.val i j (by decide) (by decide) (p:=1) rfl⟩
      ·have d:=f ⟨12,.data⟩ (by simp) rfl rfl;have i:=b.o.cl 12 (by decide) (by decide) d;obtain⟨G,ev,sv,av,z,E,I,C,D,j⟩:=b.o.e9 i;rw[j.get 1 rfl d]at m;clear f s;go_simp;exact r _ _ ⟨trivial,b.o.val i j (by decide) (by decide) (p:=2) rfl⟩
      ·have d:=f ⟨12,.data⟩ (by simp) rfl rfl;have i:=b.o.cl 12 (by decide) (by decide) d;obtain⟨G,ev,sv,av,z,E,I,C,D,j⟩:=b.o.e9 i;rw[j.get 1 rfl d]at m;clear f s;go_simp;exact r _ _ ⟨trivial,b.o.val i j (by decide) (by decide) (p:=3) rfl⟩
      ·have d:=f ⟨12,.data⟩ (by simp) rfl rfl;have i:=b.o.cl 12 (by decide) (by decide) d;obtain⟨G,ev,sv,av,z,E,I,C,D,j⟩:=b.o.e9 i;rw[j.get 1 rfl d]at m;clear f s;go_simp;exact r _ _ ⟨trivial,b.o.val i j (by decide) (by decide) (p:=4) rfl⟩
      ·have d:=f ⟨12,.data⟩ (by simp) rfl rfl;have i:=b.o.cl 12 (by decide) (by decide) d;obtain⟨G,ev,sv,av,z,E,I,C,D,j⟩:=b.o.e9 i;rw[j.get 1 rfl d]at m;clear f s;go_simp;exact r _ _ ⟨trivial,b.o.val i j (by decide) (by decide) (p:=5) rfl⟩
      ·have ad:=s 18 _ rfl (by kernel_rfl);clear f s;go_simp;exact r _ _ ⟨trivial,b.o.da (by decide) ad⟩
      ·have h4:=f ⟨13,.data⟩ (by simp) rfl rfl;obtain⟨c,g,e1,e2,d,h3,hg,h⟩:=b.o.d16 (b.o.cl 13 (by decide) (by decide) h4) h4 (f ⟨17,.data⟩ (by simp) rfl rfl) X;show Oper.wp _ _ _ _ _ _;exact iQ (ops:= #[]) rfl (ay rfl 37 _ _ rfl g c (by simp[Act.eval,m,e1]) (by simp[Act.eval,m,e2]) _ _ hg (by rw[h3];kernel_rfl) (by rw[h3];rfl) d ⟨rfl,r undef _ ⟨trivial,h⟩⟩)
      ·have d:=f ⟨14,.data⟩ (by simp) rfl rfl;have i:=b.o.cl 14 (by decide) (by decide) d;obtain⟨G,ev,sv,av,z,E,I,C,D,j⟩:=b.o.e9 i;rw[j.get 3 rfl d]at m;clear f s;go_simp;exact r _ _ ⟨trivial,b.o.val i j (by decide) (by decide) (p:=6) rfl⟩
      ·have d:=f ⟨15,.data⟩ (by simp) rfl rfl;have i:=b.o.cl 15 (by decide) (by decide) d;obtain⟨G,ev,sv,av,z,E,I,C,D,j⟩:=b.o.e9 i;rw[j.get 4 rfl d]at m;clear f s;go_simp;exact r _ _ ⟨trivial,b.o.val i j (by decide) (by decide) (p:=7) rfl⟩
      ·have d:=f ⟨16,.data⟩ (by simp) rfl rfl;have i:=b.o.cl 16 (by decide) (by decide) d;obtain⟨G,ev,sv,av,z,E,I,C,D,j⟩:=b.o.e9 i;rw[j.get 5 rfl d]at m;clear f s;go_simp;exact r _ _ ⟨trivial,b.o.val i j (by decide) (by decide) (p:=8) rfl⟩
     ·rintro M φ W3 hM T
      obtain⟨bo,bh,bw,bd,aW,br,a3,bl,g3,ab,ac,_,_,ai,a4,hR⟩:=T.fin fun k d h2=>by
       obtain rfl|rfl|rfl|rfl|rfl|rfl|rfl|rfl|rfl|rfl|rfl:k=11\/k=12\/k=13\/k=14\/k=15\/k=16\/k=17\/k=18\/k=19\/k=20\/k=21:=(by omega);all_goals exact hM _ (by decide) rfl
      simp only[kn,td,nk,eh,aQ,aX,Act.put,aA,aK,aJ];rw[ab,ac];have Z:=hR.here;rw[dN,show([(cH n x y who,af,.slice L who.length J),(cX 6 (O:Int),af,af),(cT t,af,af),(cH n x y who,af,.slice L who.length J)]:List (Cm×Value×Value)).map (fun q=>q.1)=[cH n x y who,cX 6 (O:Int),cT t,cH n x y who] from rfl]at Z;have V:=uo ((A.map fun q=>q.1)++[cH n x y who,cX 6 (O:Int),cT t,cH n x y who]);have Q:=aw aM.o ai;have z1:=aj ai z1;have z2:=aj ai z2;obtain⟨px,cx,rfl,N⟩:=Z.at_;obtain⟨gz,rfl,u1,_⟩:=N _ _ HK.o.2.2.1;obtain⟨_,e,u3,_⟩:=N _ _ HK.o.2.2.2.1;cases e;have ao:=HK.o.2.2.2.2;rw[<-Z.ape,bg]at ao;obtain⟨⟨a,pv⟩,hq,rfl⟩:=dR.1 ao;have az:O<a3.length:=(aG.1 hq).1;obtain⟨a',pw,cw,gp,ca,aE,aO,aH,_⟩:=Pa Z.aps Z.apr az;rw[hq]at aE;cases aE;subst aO;dsimp only at k0;have zd:=cr 3 a4 rfl;have zs:W3.cell? (ae gp (O*11))=some (ag a.st):=aH 0 _ rfl;rw[k0]at zs;rw[k6]at z1;rw[k8]at u1;obtain⟨n8,aD⟩:=au a3.length;obtain⟨n7,aC⟩:=au ((playP dk0 ((A.map fun q=>q.1)++[cH n x y who,cX 6 (O:Int),cT t,cH n x y who])).1.length);rw[aD]at zd az;rw[aC]at V⊢;have a5:(n7:Int)=(A.length:Int)+4:=(by simp at V;omega);have ak:=aN.o;obtain⟨m1,a6⟩:=au (A.length+1);obtain⟨m2,a7⟩:=au (A.length+2);obtain⟨m3,a8⟩:=au (A.length+3);rw[a6]at z1 u1;rw[a7]at z2;rw[a8]at u3;have v1:IntKind.i64.wrap ((A.length:Int)+1)=(m1:Int):=(by rw[bz];omega);have v2:IntKind.i64.wrap ((A.length:Int)+2)=(m2:Int):=(by rw[bz];omega);have v3:IntKind.i64.wrap ((A.length:Int)+3)=(m3:Int):=(by rw[bz];omega);have p1:(0:Int)<=(m1:Int):=(by omega);have p2:(0:Int)<=(m2:Int):=(by omega);have p3:(0:Int)<=(m3:Int):=(by omega);have p4:(0:Int)<=(O:Int):=(by omega);have r1:(m1:Int)<(n6:Int):=(by omega);have r2:(m2:Int)<(n6:Int):=(by omega);have r3:(m1:Int)<(n7:Int):=(by omega);have r4:(m3:Int)<(n7:Int):=(by omega);have r5:(O:Int)<(n8:Int):=(by omega)
      have j1:((n6:Int) !=(m3:Int))=false:=by
       have:(n6:Int)=(m3:Int):=(by omega);rw[this];simp
      have j2:((n7:Int) !=(A.length:Int)+4)=false:=(by rw[a5];simp);have j3:(c3.err !=0)=true:=(by simpa using k9);have Y:=aF Q;clear aT Z hR hM T ai N a4 ao hq aH aC aD V a5 ak a6 a7 a8 az k0 k6 k8 k9 Q nH;rcases k7 with k7|k7
      all_goals
       rw[k7]at z2
       clear k7
       go_wp2_with fail
       go_ret
       exact⟨rfl,Y.o⟩
 all_goals
  go_wp2_with fail
  go_ret
  exact⟨rfl,a0.o⟩
section
open Go.ChangeShapes Go.WideShapes Go.ChangeAt Go.WideMaps Go.WideElems Go.Joins
abbrev ve:List (String×DataW Unit):=Rows.deskCancelRow.laid
def K6:String:=(Rows.deskCancelRow.laid.headD default).1
def Ov:String:=(Rows.deskCancelRow.laid.getD 1 default).1
def PI:String:=(Rows.deskCancelRow.laid.getD 2 default).1
def sT:List Int:=Lib.deBruijn64tab.map fun(n:Nat)=>(n:Int)
theorem own3:ownKnob prog.godebug=none:=by kernel_rfl
theorem IW:prog.globalNamed K6=some 1:=by kernel_rfl
theorem Ow:(prog.globals[1]?).map (·.type)=some 271:=by kernel_rfl
theorem K7:prog.globalNamed Ov=some 0:=by kernel_rfl
theorem Pb:(prog.globals[0]?).map (·.type)=some 266:=by kernel_rfl
theorem K8:prog.globalNamed PI=some 3:=by kernel_rfl
theorem Pc:(prog.globals[3]?).map (·.type)=some 282:=by kernel_rfl
theorem cI3:prog.cellsOf 3=1:=by kernel_rfl
theorem cB3:prog.cellsOf 5=1:=by kernel_rfl
theorem cT3:prog.cellsOf 271=64:=by kernel_rfl
theorem cL3:prog.cellsOf 266=12:=by kernel_rfl
theorem cS3:prog.cellsOf 9=1:=by kernel_rfl
theorem cD3:prog.cellsOf 282=7:=by kernel_rfl
theorem IX (os:Os)(a:Array Value):laidMetH prog ve ((World.doorLaid prog 400 os).forCall (fun _ _=>0) ⟨#[],a,[]⟩).memory:=
 laidMetH_of_parts3 (fuel:=8) (laidMet_of_run' 8 (by kernel_rfl) (by kernel_rfl)) (by kernel_rfl) (by kernel_rfl)
theorem IY {H:Type}{j:TypeId×Value->H}{P:Program}{w:World}{f:Nat}{sp:Nat->Bool}{held:Bool}{t e:TypeId}{n:Nat}{g:List Value}{zs:List (List UInt8)}{p:List MemPlace}(G:P.underlying t=some (.array n e))(D:P.underlying e=some .string)(k:P.cellsOf e=1)(m:P.cellsOf t=n):
  ∀c,DataW.trod j P w f sp held c t g=some (.agg (zs.map fun z=> .lit (.string z)),p)-> ∀(i:Nat) (z:List UInt8),zs[i]? =some z->g[i]? =some (.string ⟨z.toArray⟩)
 |0,h,_,_,_=>by simp[DataW.trod]at h
 |c+1,h,i,z,J=>by
  simp only[DataW.trod,G,k,m,Nat.mul_one]at h;split at h
  ·obtain⟨xs,u,I⟩:=dR.1 h;have v:xs.map (fun x=>x.1)=zs.map fun z=>(DataW.lit (.string z):DataW H):=(by simpa using congrArg Prod.fst I);have r:(xs.map fun x=>x.1)[i]? =some (DataW.lit (.string z):DataW H):=(by rw[v,bg,J];rfl);rw[bg]at r;obtain⟨x,d,q⟩:=dR.1 r
   have o:i<n:=by
    have a:=(aG.1 d).1;have b:=Lib.mapM_length u;simp at b;omega
   obtain⟨b,B,E⟩:=Lib.mapM_at u i i (by simp[o]);obtain⟨s,C,rfl,_⟩:=DataW.trod_string D E;rw[B]at d;obtain rfl:=aN d;have F:s.data.toList=z:=(by simpa using q);have y:=congrArg (fun l:List Value=>l[0]?) C;have A:g[i]? =some (.string s):=(by simpa[js,List.getElem?_drop] using y);rw[A,<-F]
  ·cases h
theorem AH {W:World}(h:laidMetH prog ve W):Tab W/\gI W/\qg W:=by
 rw[MakeChecks.laidMetH_plain _ _ _ (by kernel_rfl)]at h;obtain⟨H,⟨B,t1,s,b,E,I,g,m,p,d,⟨C,t2,u,c,F,J,k,n,q,e,⟨D,L,v,a,G,K,l,o,r,f,_,_⟩,_⟩,_⟩,_⟩:=h;obtain rfl:=aN (IW.symm.trans g);obtain rfl:=aN (Ow.symm.trans m);obtain rfl:=aN (K7.symm.trans k);obtain rfl:=aN (Pb.symm.trans n);obtain rfl:=aN (K8.symm.trans l);obtain rfl:=aN (Pc.symm.trans o);refine⟨?_,?_,?_⟩
 ·have w:=Lib.cells_of_tab (zs:=sT) underlying271 underlying5 cB3 cT3 d
  have t:Lib.TabIs prog W K6 .u8 sT:=by
   unfold Lib.TabIs;rw[<-w];exact p
  intro i hi;have:=t.cell IW i (by simpa[sT,Lib.deBruijn64tab] using hi);rw[this];have z:i<Lib.deBruijn64tab.length:=(by simpa[Lib.deBruijn64tab] using hi);simp[sT,List.getD,z]
 ·have e2:=Lib.cells_of_tab (zs:=tab) underlying266 underlying3 cI3 cL3 e
  have t:Lib.TabIs prog W Ov .i64 tab:=by
   unfold Lib.TabIs;rw[<-e2];exact q
  intro i hi;exact t.cell K7 i (by simpa[tab] using hi)
 ·intro j y
  have A:fy[j]? =some (fy.getD j []):=by
   rw[dJ,az (by exact y)];rfl
  have x:=IY (zs:=fy) underlying282 underlying9 cS3 cD3 a f j _ A;have:=World.var?_cell K8 r j;rw[this];simpa using x
end
section
open Go.ChangeShapes Go.WideShapes Go.ChangeAt Go.WideMaps Go.WideElems Go.Joins
theorem Dt {W:World}(h:laidMetH prog ve W):Tbs W.heap.size W:=fun e d=>by
 obtain⟨a,b,c⟩:=AH h;exact⟨fun i hi=>(d.cell (bP (b i hi))).trans (b i hi),fun i hi=>(d.cell (bP (c i hi))).trans (c i hi),fun i hi=>(d.cell (bP (a i hi))).trans (a i hi)⟩
end
end Go.Proofs.YtaoljfdfhggbbaaGreatDoor
