/- Texts of the proof. -/
import Derived.Test.YtaoljfdfhggbbaaGreatDoorPc15
import Derived.Test.YtaoljfdfhggbbaaGreatDoorPc26
import Derived.Sort.OwnSortedInts
set_option maxRecDepth 100000
set_option maxHeartbeats 8000000
namespace Go.Proofs.YtaoljfdfhggbbaaGreatDoor
open Go.Proofs.Tryz Go.RowKit Lx Vx Mx Msk
theorem zX (l:List Int):dp l=l.map (Value.int .i64):=rfl
theorem J2 {w:World}{B:Nat}{v:Value}{a:List Int}(h:w.ownsRow B 3 1 v a.length (dp a))(q:a.length<=1000000):
  Calls prog 102 #[v] w fun e w'=>e= .returned (.tuple #[])/\w'.ownsRow B 3 1 v a.length (dp (a.mergeSort fun x y=>decide (x<=y)))/\w.grownBy w' v.ownBlock:=by
 rcases h.2 with⟨rfl,e⟩|⟨g,cap,i,rfl,k,d,m,l,o,f⟩
 ·have p:a=[]:=gN e;subst p;refine(Hr none 0 w).mono fun e w' ⟨c,b⟩=>⟨c,by rw[b,List.mergeSort_nil];exact dc _ _ _ _,by rw[b];exact jt _ _⟩
 ·rw[Nat.mul_one]at f;have j:=Go.holds_of_blockI (ss:=a) d f;refine(Hq g 0 cap a w j (aH d) (by omega)).mono fun e w' ⟨c,n,os,b⟩=>⟨c,?_,?_⟩
  ·rw[b,zX];exact Go.ownsRow_sortedI (List.length_mergeSort a) k d m l o
  ·rw[b];exact Go.grownBy_sortedI _
theorem xJ (a:List Int):(Go.Lib.compact a).length<=a.length:=by
 unfold Go.Lib.compact Go.Lib.compactUpTo;rw[ba];refine bf (List.length_filter_le _ _) ?_;simp
theorem C4 {w:World}{B:Nat}{v:Value}{a:List Int}(h:w.ownsRow B 3 1 v a.length (dp a))(K:a.length<=1000000):
  Calls prog 103 #[v] w fun e w'=> ∃z,e= .returned z/\w'.ownsRow B 3 1 z (Go.Lib.compact a).length (dp (Go.Lib.compact a))/\w.grownBy w' v.ownBlock:=by
 rcases h.2 with⟨rfl,e⟩|⟨g,cap,A,rfl,E,u,x,F,H,y⟩
 ·have I:a=[]:=gN e;subst I;refine(BX none 0 w).mono fun e w' ⟨j,d⟩=>⟨_,j,by rw[d];exact dc _ _ _ _,by rw[d];exact jt _ _⟩
 ·rw[Nat.mul_one]at y;have D:=Go.holds_of_blockI (ss:=a) u y;have i:=xJ a;refine(BW g 0 cap a w D (by omega) x).mono fun e w' ⟨j,q,d⟩=>⟨_,j,?_,?_⟩
  ·have l:(Go.Lib.compact a++List.replicate (a.length-(Go.Lib.compact a).length) (0:Int)).length=a.length:=(by simp;omega);have s:=Go.ownsRow_sortedI (n:=q) (os:= #[]) l E u x F H;rw[Go.Sort.grow_empty,<-d]at s;refine⟨by rw[kK];simp,.inr ?_⟩;rcases s.2 with⟨e,_⟩|⟨J,r,b,e,f,k,G,m,o,p⟩
   ·cases e
   ·injection e with c _ C;injection c with c;injection c with c;subst c C;refine⟨g,cap,b,rfl,f,k,by omega,m,o,?_⟩;have t:=congrArg (List.take (Go.Lib.compact a).length) p;rw[List.take_take,Nat.mul_one,fj i,dN,List.take_append_of_le_length (by simp)]at t;rw[Nat.mul_one,t,zX];exact cQ (by simp)
  ·rw[d,<-Go.Sort.grow_empty (Go.Sort.putRow _ _ _ _ _)];exact Go.grownBy_sortedI _
theorem DS:prog.underlying 29=some (.struct (prog.fieldsOf 29)):=by kernel_rfl
theorem AF {d:Array Oper}{c:List Oper}{o:Oper}{a:Act}{w:World}{Q:Exit->Act->World->Prop}(e:o.guard=none)(x:Operand)(j:o.op= .load 84 x)(b q:Nat)(k:a.eval x=ab b q)(f:Nat->Bool)(i:w.rangeAt b q (mv f).toList)(h:wpList prog d Q c (a.put o.dst (.agg (mv f))) w):wpList prog d Q (o::c) a w:=
 wpList_plain e fun _ g=>zS x j b q k f i (g _ _ h)
theorem zY {w:World}{v:Value}{l:List (Int×Int)}(h:Row w v l): ∃(q:Option Addr) (c:Nat),v= .slice q l.length c/\l.length<9223372036854775808/\ ∀j s,l[j]? =some s-> ∃g o:Nat,q=some ⟨g,o,none⟩/\w.cell? (ae g (o+j*2))=some (ag s.1)/\w.cell? (ae g (o+j*2+1))=some (ag s.2):=by
 rcases h with⟨c,rfl,rfl⟩|⟨g,o,c,rfl,d,b⟩
 ·exact⟨none,c,rfl,by simp,fun j s a=>by simp at a⟩
 ·refine⟨_,c,rfl,d,fun j s a=>⟨g,o,rfl,?_⟩⟩;have:=b j (aG.1 a).1;rwa[show l.getD j (0,0)=s by simp[List.getD,a]]at this
theorem yM {n:Int}: ∀{l:List (Int×Int)} {last:Int},good last n l-> ∀s∈l,last<s.1/\s.1<s.2/\s.2<=n
 |[],_,_,s,a=>by cases a
 |t::l,last,h,s,a=>by
  obtain⟨b,c,d,e⟩:=h;rcases bv.1 a with rfl|a
  ·exact⟨b,c,d⟩
  ·obtain⟨i,f,g⟩:=yM e s a;exact⟨by omega,f,g⟩
theorem Ff (l b a:Int)(roles:List (List Int))(rv:Value)(D:List (Nat->Bool))(fv:Value)(w:World)(hT:Tab w)(hR:fk w rv roles)(hF:sH w fv D)(bt: ∀p∈roles,p.length<=8/\ ∀r∈p,0<=r/\r<(D.length:Int))(bR:roles.length<=4)(bw:kI l b a=true):
  Calls prog 75 #[.agg #[ag l,ag b,ag a,rv],fv] w fun e w'=> ∃v,e= .returned v/\dS w' v (iI (b+l+a) D roles)/\aq w w':=by
 obtain⟨pr,cr,rfl,bQ,aR⟩:=id hR;have bA:=am w (.cells #[ag l,ag b,ag a,.slice pr roles.length cr] 29);have nA:=aE w (.cells #[ag l,ag b,ag a,.slice pr roles.length cr] 29);generalize bU:w.alloc (.cells #[ag l,ag b,ag a,.slice pr roles.length cr] 29)=wA at*;have HR:=bK (hR.below bA);have HF:=bK (hF.below bA);have HT:=bK (kL hT bA);have HB:=bK bA;have bb:=bK bt;have bd:=bK bw;have z3:=ak 3 nA;obtain⟨pf,cf,rfl,bP,_⟩:=hF;go_enter func75,ntmps75
 go_wp2_with fail;go_loopw [5,15] (fun q t wr=> ∃(j:Nat) (A:List Int) (qa:Option Addr) (ca:Nat),q= .slice qa A.length ca/\t=ag (j:Int)/\j<=roles.length/\PN (A=(roles.take j).flatMap (AP (b+l+a) D))/\A.length<=j*11520/\PN (wr.ownsRow wA.heap.size 3 1 (.slice qa A.length ca) A.length (dp A))/\PN (aq wA wr)) (fun _ t _=>roles.length-(intOf t).toNat);case atStart=>exact⟨0,[],none,0,rfl,rfl,by omega,rfl,by simp,dc _ _ _ _,aI _ _⟩
 case round=>
  obtain⟨j,A,qa,ca,rfl,rfl,hj,ap,bJ,HO,Q⟩:=hrel;have bN:(0:Int)<=(j:Int):=(by omega);by_cases bv:j<roles.length
  ·have aL:(j:Int)<(roles.length:Int):=(by omega);obtain⟨c,ad⟩: ∃r,roles[j]? =some r:=⟨roles[j],az bv⟩
   obtain⟨_,_,e1,_,a9⟩:=HR.o;cases e1;obtain⟨gr,or,sv,b3,bm,an⟩:=a9 j _ ad;subst b3;have hc:=aj Q.o bm;obtain⟨ar,ac,rfl,aS,L⟩:=an;have HC:=bK L;have bc:=bK ad;have a2:=bK (bb.o c (aM ad));have b8:c.length<=8:=a2.o.1;go_wp2_with fail;go_loopw [5,21] (fun q t W=> ∃(i:Nat) (d:List Int) (H:Option Addr) (G:Nat),q= .slice H d.length G/\t=ag (i:Int)/\i<=c.length/\PN (d=A++(c.take i).flatMap fun r=>xF (b+l+a) (D.getD r.toNat fun _=>false))/\d.length<=j*11520+i*1440/\PN (W.ownsRow wA.heap.size 3 1 (.slice H d.length G) d.length (dp d))/\PN (aq wA W)) (fun _ t _=>c.length-(intOf t).toNat);case atStart=>exact⟨0,A,qa,ca,rfl,rfl,by omega,by show _=_;simp,by omega,HO,Q⟩
   case round=>
    obtain⟨i,d,H,G,rfl,rfl,hi,O,bD,U,g⟩:=hrel;have bM:(0:Int)<=(i:Int):=(by omega);by_cases aN:i<c.length
    ·have ah:(i:Int)<(c.length:Int):=(by omega);obtain⟨r,aa⟩: ∃r,c[i]? =some r:=⟨c[i],az aN⟩
     obtain⟨h1,Y⟩:=a2.o.2 r (aM aa);obtain⟨rn,b7⟩: ∃rn:Nat,r=(rn:Int):=⟨r.toNat,by omega⟩
     subst b7;obtain⟨f,hf⟩: ∃f,D[rn]? =some f:=⟨D[rn]'(by omega),az (by omega)⟩
     obtain⟨ga,oa,b2,bj⟩:=HC.o i _ aa;subst b2;have bI:=aj g.o bj;obtain⟨_,_,e3,_,Z⟩:=HF.o;cases e3;obtain⟨gf,of,b5,aP⟩:=Z rn f hf;subst b5;have bC:=jm aP g.o;have a3:=bK aa;have c1:=zV f wr (kL HT.o g.o);have bp:D.getD rn (fun _=>false)=f:=(by simp[List.getD,hf]);have aY:=bK bp
     go_wp2_with(first
      |(refine AF rfl _ rfl gf (of+rn*23) rfl f bC ?_))
     refine c1.mono ?_;rintro e w4 ⟨⟨vs,rfl,m⟩,n,b4⟩;have ao:=vu m (by have:=n.few;omega)
     have bh:PN (∀W:World,w4.grownBy W (Value.slice H d.length G).ownBlock->W.ownsRow wr.heap.size 87 2 vs (rs f 1440).length (iU (rs f 1440))):=fun W hW=>m.kept hW (by
      cases hz:vs.ownBlock with
      |none=>exact .inl rfl
      |some q=>
       refine .inr fun e=> ?_;have h1:=(m.lt q hz).1;have Y:=(U.o.lt q e.symm).2;omega)
     have bg:=bK (ia U.o b4);have aV:=bK (aw g.o b4);obtain⟨qs,cs,rfl,bu,_⟩:=zY ao;have HG:=bK (yM n.good);have bE:(rs f 1440).length<=1440:=n.few;have hN:(rs f 1440).length<9223372036854775808:=bu;go_wp2_with fail;go_loopw [5,31] (fun q t W=> ∃(k:Nat) (C:List Int) (qc:Option Addr) (V:Nat),q= .slice qc C.length V/\t=ag (k:Int)/\k<=(rs f 1440).length/\PN (C=d++(((rs f 1440).take k).filter fun s=>decide (b+l+a<=s.2-s.1)).map fun s=>s.1)/\C.length<=j*11520+i*1440+k/\PN (W.ownsRow wA.heap.size 3 1 (.slice qc C.length V) C.length (dp C))/\PN (w4.grownBy W (Value.slice H d.length G).ownBlock)/\PN (aq wA W)/\PN (∀B:World,W.grownBy B (Value.slice qc C.length V).ownBlock->w4.grownBy B (Value.slice H d.length G).ownBlock)) (fun _ t _=>(rs f 1440).length-(intOf t).toNat);case atStart=>exact⟨0,d,H,G,rfl,rfl,by omega,by show _=_;simp,by omega,bg,jt _ _,aV,fun _ h=>h⟩
     case round=>
      obtain⟨k,C,qc,V,rfl,rfl,hk,R,bL,a7,ba,a0,z⟩:=hrel;have bk:=vu (bh.o wr ba.o) hN;obtain⟨_,_,e9,_,bn⟩:=zY bk;cases e9;have aW:=bK bn;have bO:(0:Int)<=(k:Int):=(by omega);by_cases aO:k<(rs f 1440).length
      ·have al:(k:Int)<((rs f 1440).length:Int):=(by omega);obtain⟨s,af⟩: ∃s,(rs f 1440)[k]? =some s:=⟨_,az aO⟩
       obtain⟨X,g2,g3⟩:=HG.o s (aM af);obtain⟨go,oo,b6,p0,p1⟩:=aW.o k s af;subst b6;obtain⟨x,y⟩:=s;dsimp only at X g2 g3 p0 p1;have bX:IntKind.i64.wrap (y-x)=y-x:=(by rw[bz];omega);have aF:=bK af;have bS:=am wr (.cells #[ag x,ag y] 87);have nS:=aE wr (.cells #[ag x,ag y] 87);have a4:=bK (ia a7.o bS);have ay:=bK (aw a0.o bS);have aZ:=bK (jl bS (Value.slice qc C.length V).ownBlock);obtain⟨gs,bs⟩:=au wr.heap.size;rw[bs]at nS;generalize bW:wr.alloc (.cells #[ag x,ag y] 87)=wS at*;have q0:=ak 0 nS;have q1:=ak 1 nS;have n2:=ai ay.o nA;go_wp2_with fail;refine dh (fun _ _ W=>aq wS W) [kn 35 (ab gs 1),kn 36 (ag y),kn 37 (ab gs 0),kn 38 (ag x),kn 39 (ag (y-x)),kn 40 (.agg #[ag l,ag b,ag a,.slice (some (ae gr or)) roles.length cr]),kn 41 (ag (b+l+a)),kn 42 (.bool (decide (b+l+a<=y-x)))] (fun _=>(aI _ _).drew) (fun _ _ _ _ hb h=>aw h hb) (by kernel_rfl) (fun M φ B P bo FF ll aH a8=> ?_) (fun M φ W5 hM P=> ?_)
       ·simp only[kn,dW,aQ,aX,Act.put,aA,aK,aJ]at aH;subst aH;simp only[cZ,Nat.reduceAdd]at a8;have bF:=aj P q1;have bG:=aj P q0;dsimp only[kn,dB,eN,eg,Act.put];and_intros;all_goals first|exact trivial|intro qw qn qm K hK
        all_goals try (go_simp;with_reducible exact hK _ _ ⟨rfl,aI _ _⟩)
        ·refine dU 29 _ rfl _ (by simp[Act.eval,a8]) _ _ _ _ (ai P n2) DS rfl (by kernel_rfl) ?_;exact hK _ _ ⟨rfl,aI _ _⟩
        ·go_simp;refine(tL l b a _ B (.inl bd.o)).mono ?_;rintro r' W' ⟨rfl,bl⟩;exact hK _ _ ⟨rfl,bl⟩
       ·simp only[kn,eh,aQ,aX,Act.put,aA,aK,aJ];have a5:=bK (ia a4.o P);have av:=bK (aw ay.o P);have T:=bK (aZ.o.trans (jl P _));have bY:=aj P q0;by_cases aC:b+l+a<=y-x
        ·have bB:=am W5 (.cells #[ag x] 3);have nB:=aE W5 (.cells #[ag x] 3);generalize bV:W5.alloc (.cells #[ag x] 3)=wB at*;have zB:=ak 0 nB;have a6:=bK (ia a5.o bB);have I:=bK (aw av.o bB);have J:=bK (T.o.trans (jl bB _))
         have S:PN (C++[x]=d++(((rs f 1440).take (k+1)).filter fun s=>decide (b+l+a<=s.2-s.1)).map fun s=>s.1):=by
          show _=_;rw[R.o,lU aF.o,List.filter_append,dN,List.filter_cons,aD (by simpa using aC),<-eo];rfl
         go_wp2_with(first
          |(refine lT rfl _ _ rfl wA.heap.size _ C x rfl ?ho W5.heap.size 1 rfl zB ?hl ?hb ?_
            case ho=>exact a6.o
            case hl=>omega
            case hb=>exact I.o.size
            intro v' w3 b1 F))
         have aU:=bK (xI I.o a6.o F);have bf:=bK b1
         have a1:PN (w4.grownBy w3 (Value.slice H d.length G).ownBlock/\ ∀B:World,w3.grownBy B v'.ownBlock->w4.grownBy B (Value.slice H d.length G).ownBlock):=by
          rcases F with⟨e,X,_⟩|⟨X,q,e,hq⟩
          ·exact⟨z.o w3 (J.o.trans X),fun B Y=>z.o B ((J.o.trans X).trans (e▸Y))⟩
          ·refine⟨z.o w3 (J.o.trans (tO X _)),fun B Y=>z.o B (J.o.trans (tO (xH X Y (fun j hj=> ?_)) _))⟩;rw[e]at hj;cases hj;exact .inl hq
         go_wp2_with fail;go_roundw
         case rel=>
          have h3:=bf.o;have aG:=zU (l:=C) (x:=x) rfl;rw[<-aG]at h3;obtain⟨q',c',b9⟩:=np h3;subst b9;exact⟨k+1,C++[x],q',c',rfl,by go_num,by omega,S,by rw[aG];omega,h3,a1.o.1,aU,a1.o.2⟩
         case measure=>simp[intOf];omega
        ·have S:PN (C=d++(((rs f 1440).take (k+1)).filter fun s=>decide (b+l+a<=s.2-s.1)).map fun s=>s.1):=by
          show _=_;rw[R.o,lU aF.o,List.filter_append,dN,List.filter_cons,ax (by simpa using aC)];simp
         go_wp2_with fail;go_roundw;case rel=>exact⟨k+1,C,qc,V,rfl,by go_num,by omega,S,by omega,a5,z.o _ T.o,av,fun B Y=>z.o B (T.o.trans Y)⟩
         case measure=>simp[intOf];omega
      ·have al: ¬(k:Int)<((rs f 1440).length:Int):=(by omega)
       have E:PN (C=A++(c.take (i+1)).flatMap fun r=>xF (b+l+a) (D.getD r.toNat fun _=>false)):=by
        show _=_;rw[R.o,show k=(rs f 1440).length by omega,cQ (aB _),lU a3.o,fw,<-eo,<-O.o];congr 1;rw[List.flatMap_singleton,cj,aY.o];rfl
       go_wp2_with fail;go_roundw;case rel=>exact⟨i+1,C,qc,V,rfl,by go_num,by omega,E,by omega,a7,a0⟩
       case measure=>simp[intOf];omega
    ·have ah: ¬(i:Int)<(c.length:Int):=(by omega)
     have E:PN (d=(roles.take (j+1)).flatMap (AP (b+l+a) D)):=by
      show _=_;rw[O.o,show i=c.length by omega,cQ (aB _),lU bc.o,fw,<-ap.o,List.flatMap_singleton];rfl
     go_wp2_with fail;go_roundw;case rel=>exact⟨j+1,d,H,G,rfl,by go_num,by omega,E,by omega,U,g⟩
     case measure=>simp[intOf];omega
  ·have aL: ¬(j:Int)<(roles.length:Int):=(by omega)
   have E:PN (A=rV (b+l+a) D roles):=by
    show _=_;rw[ap.o,show j=roles.length by omega,cQ (aB _)];rfl
   have c1:=J2 HO.o (by omega);go_wp2_with fail;refine c1.mono ?_;rintro e w1 ⟨rfl,bx,bq⟩;have aT:=bK (gZ Q.o bq (aB _) (fun k hk=>(HO.o.lt k hk).1));have N:(A.mergeSort fun x y=>decide (x<=y)).length=A.length:=List.length_mergeSort A;have u:=bx;rw[<-N]at u;obtain⟨q1,bH,bT⟩:=np u;have c2:=C4 u (by rw[N];omega);have be:=bK u;rw[N]at c2;go_wp2_with fail;refine c2.mono ?_;rintro e w2 ⟨v2,rfl,b0,br⟩;have g:=bK (gZ aT.o br (aB _) (fun k hk=>(be.o.lt k (by rw[N];exact hk)).1))
   have bi:PN (dS w2 v2 (iI (b+l+a) D roles)):=by
    have bo:=xJ (A.mergeSort fun x y=>decide (x<=y));have h:=qB b0 (by omega);rw[E.o]at h;exact h
   have I:=bK (aw HB.o g.o);go_wp2_with fail;go_ret;exact⟨v2,rfl,bi.o,I.o⟩
def BY (l b a:Int)(roles:List (List Int))(c:List (Nat->Bool))(x:Int):Option (Int×List Int):=(lG (kR (okP c x (x+(b+l+a))) roles) roles.length []).map fun who=>(x+b,who)
def mr (l b a:Int)(roles:List (List Int))(c:List (Nat->Bool)):Option (Int×List Int):=(iI (b+l+a) c roles).findSome? (BY l b a roles c)
def OP (res:Option (Int×List Int))(w:World)(e:Ending)(w':World):Prop:=(∃m who v,res=some (m,who)/\e= .returned (.tuple #[ag m,v,.bool true])/\w'.ownsRow w.heap.size 3 1 v who.length (dp who)/\aq w w')\/(res=none/\e= .returned (.tuple #[ag 0,af,.bool false])/\aq w w')
theorem C5 {x:Int}{b:List Int}(h:x∈Go.Lib.compact b):x∈b:=by
 unfold Go.Lib.compact Go.Lib.compactUpTo at h;rw[dV]at h;obtain⟨j,c,rfl⟩:=h;have a:=jf.1 ((List.mem_filter.1 c).1);rw[getElem!_pos _ j (by simpa using a)];simp
theorem L8 (f:Nat->Bool):lE f 1440 (rs f 1440):=Msk.DT f 1440
theorem J4 {W:Int}{b:List (Nat->Bool)}{roles:List (List Int)}{x:Int}(h:x∈iI W b roles):0<=x/\x<1440:=by
 have a:x∈rV W b roles:=(List.mem_mergeSort).1 (C5 h);unfold rV AP xF at a;rw[List.mem_flatMap]at a;obtain⟨p,_,c⟩:=a;rw[List.mem_flatMap]at c;obtain⟨r,_,d⟩:=c;rw[dV]at d;obtain⟨s,e,rfl⟩:=d;have:=yM (L8 _).good s (List.mem_filter.1 e).1;omega
theorem C6 (l b a:Int)(roles:List (List Int))(rv:Value)(c:List (Nat->Bool))(fv:Value)(w:World)(hT:Tab w)(hR:fk w rv roles)(hF:sH w fv c)(s: ∀p∈roles,p.length<=8/\ ∀r∈p,0<=r/\r<(c.length:Int))(ar:roles.length<=4)(u:kI l b a=true):
  Calls prog 52 #[.agg #[ag l,ag b,ag a,rv],fv] w (OP (mr l b a roles c) w):=by
 obtain⟨T,cr,rfl,a4,v⟩:=id hR;clear v;have J:=am w (.cells #[ag l,ag b,ag a,.slice T roles.length cr] 29);have S:=aE w (.cells #[ag l,ag b,ag a,.slice T roles.length cr] 29);generalize a5:w.alloc (.cells #[ag l,ag b,ag a,.slice T roles.length cr] 29)=wA at*;have HR:=bK (hR.below J);have HF:=bK (hF.below J);have U:=bK J;have ay:=bK s;have G:PN (∀p∈roles,p.length<=1000/\ ∀r∈p,0<=r/\r<(c.length:Int)):=fun p hp=>⟨by have:=(s p hp).1;omega,(s p hp).2⟩
 have aa:=bK u
 have ao:1<=l/\l<=1440/\0<=b/\b<=1440/\0<=a/\a<=1440/\b+l+a<=1440:=by
  unfold kI at u;exact fE u
 obtain⟨m1,m2,m3,m4,m5,m6,m7⟩:=ao;have z0:=ak 0 S;have z1:=ak 1 S;have z2:=ak 2 S;have z3:=ak 3 S;have c0:=Ff l b a roles _ c fv wA (kL hT J) HR.o HF.o s ar u;obtain⟨pf,cf,rfl,a3,_⟩:=hF;clear J s hR u;go_enter func52,ntmps52
 go_wp2_with fail;refine c0.mono ?_;rintro e w1 ⟨v1,rfl,i,b1⟩;obtain⟨p1,q1,rfl,a2,_⟩:=id i;have ac:=bK i;have Y:=bK b1;clear c0 i b1 z0 z1 z2 z3;go_wp2_with fail;go_loopw [16] (fun t wr=> ∃j:Nat,t=ag (j:Int)/\j<=(iI (b+l+a) c roles).length/\PN (mr l b a roles c=((iI (b+l+a) c roles).drop j).findSome? (BY l b a roles c))/\PN (aq wA wr)/\PN (dS wr (.slice p1 (iI (b+l+a) c roles).length q1) (iI (b+l+a) c roles))) (fun t _=>(iI (b+l+a) c roles).length-(intOf t).toNat);case atStart=>exact⟨0,rfl,by omega,rfl,Y,ac⟩
 case round=>
  obtain⟨j,rfl,hj,V,n,z⟩:=hrel;have a1:(0:Int)<=(j:Int):=(by omega);by_cases an:j<(iI (b+l+a) c roles).length
  ·have P:(j:Int)<((iI (b+l+a) c roles).length:Int):=(by omega);obtain⟨x,y⟩: ∃r,(iI (b+l+a) c roles)[j]? =some r:=⟨_,az an⟩
   obtain⟨_,_,e1,_,A⟩:=z.o;cases e1;obtain⟨gx,ox,ap,cx⟩:=A j _ y;subst ap;obtain⟨a8,a9⟩:=J4 (aM y);have hS:=s6 (f:=BY l b a roles c) y;have I:=bK (V.o.trans hS);have ae:=bK (HR.o.below n.o);have Z:=bK (HF.o.below n.o);have n2:=ai n.o S;have y1:=ak 1 n2;have y3:=ak 3 n2;have a7:IntKind.i64.wrap (x+(b+l+a))=x+(b+l+a):=(by rw[bz];omega);rw[show BY l b a roles c x=(lG (kR (okP c x (x+(b+l+a))) roles) roles.length []).map fun who=>(x+b,who) from rfl]at I;clear A hS V y;go_wp2_with fail;refine dh (fun M φ W=>aq wr W/\(M 9=true->fk W (φ 29) (kR (okP c x (x+(b+l+a))) roles))/\(M 10=true->φ 9=φ 29)) [kn 20 (ab w.heap.size 3),kn 21 (.slice T roles.length cr),kn 22 (.slice pf c.length cf),kn 23 (ag x),kn 24 (ag x),kn 25 (.agg #[ag l,ag b,ag a,.slice T roles.length cr]),kn 26 (ag (b+l+a)),kn 27 (ag (x+(b+l+a))),kn 28 (.agg #[ag x,ag (x+(b+l+a))]),td 29,td 9] (fun _=>⟨(aI _ _).drew,(fun h=>by cases h),(fun h=>by cases h)⟩) (fun _ _ _ _ hb h=>⟨aw h.1 hb,fun e=>(h.2.1 e).below hb,h.2.2⟩) (by kernel_rfl) (fun M φ D g a0 FF ll O L=> ?_) (fun M φ D hM g=> ?_)
   ·simp only[kn,td,dW,aQ,aX,Act.put,aA,aK,aJ]at O;subst O;simp only[cZ,Nat.reduceAdd]at L;obtain⟨g,al,_⟩:=g;have zz:=aj g y3;dsimp only[kn,td,dB,eN,eg,Act.put];and_intros;all_goals first|exact trivial|intro qw qn qm K N
    all_goals try (go_simp;with_reducible exact N _ _ ⟨rfl,aI _ _⟩)
    ·refine dU 29 _ rfl _ (by simp[Act.eval,L]) _ _ _ _ (ai g n2) DS rfl (by kernel_rfl) ?_;exact N _ _ ⟨rfl,aI _ _⟩
    ·go_simp;refine(tL l b a _ D (.inl aa.o)).mono ?_;rintro r' W' ⟨rfl,E⟩;exact N _ _ ⟨rfl,E⟩
    ·have au:=qn 10 _ rfl (by kernel_rfl);go_simp;refine(AD roles _ c _ x (x+(b+l+a)) D (ae.o.below g) (Z.o.below g) G.o (by omega)).mono ?_;rintro r' W' ⟨q,rfl,Q,E⟩;exact N _ _ ⟨trivial,aw g E,fun _=>by rw[dF];exact Q,(fun h=>by simp[au]at h)⟩
    ·go_simp;exact N _ _ ⟨trivial,g,fun h=>by rw[cY (by decide)];exact al (by simpa using h),fun _=>by rw[dF,cY (by decide)]⟩
   ·obtain⟨g,d,e9⟩:=g;replace d:=d (hM 9 (by decide) rfl);replace e9:=e9 (hM 10 (by decide) rfl);simp only[kn,td,eh,aQ,aX,Act.put,aA,aK,aJ];rw[e9];generalize φ 29=av at*;clear hM e9;have B:=bK (aw n.o g);have ad:=bK (z.o.below g);have F:(kR (okP c x (x+(b+l+a))) roles).length=roles.length:=(by unfold kR;rw[ba]);have c1:=JZ (kR (okP c x (x+(b+l+a))) roles) av D d (by rw[F];omega) roles.length [] (af) D (by rw[F];simp) (aI _ _) (dc _ _ _ _);have aD:=aj g y3;have ax:=aj g y1;clear d g F;go_wp2_with fail;refine c1.mono ?_;rintro e w3 ⟨X,⟨who,v',R,rfl,ho⟩|⟨R,rfl,_⟩⟩
    ·have C:PN (mr l b a roles c=some (x+b,who)):=by
      show _=_;rw[I.o,R];rfl
     have b3:aq D w3:=gZ (aI _ _) X (aB _) (fun k hk=>by cases hk);have ah:=bK (qC ho (bf U.o.size B.o.size));have aC:=aj b3 ax;have m:=bK (U.o.trans ((aw B.o b3).mono U.o.size));have a6:IntKind.i64.wrap (x+b)=x+b:=(by rw[bz];omega);clear c1 X ho R b3;go_wp2_with fail;go_ret3;exact .inl ⟨x+b,who,v',C.o,rfl,ah.o,m.o⟩
    ·have C:PN (mr l b a roles c=((iI (b+l+a) c roles).drop (j+1)).findSome? (BY l b a roles c)):=by
      show _=_;rw[I.o,R];rfl
     have b3:aq D w3:=gZ (aI _ _) X (aB _) (fun k hk=>by cases hk);have m:=bK (aw B.o b3);have H:=bK (ad.o.below b3);clear c1 X R b3;go_wp2_with fail;go_roundw;case rel=>exact⟨j+1,by go_num,by omega,C,m,H⟩
     case measure=>simp[intOf];omega
  ·have P: ¬(j:Int)<((iI (b+l+a) c roles).length:Int):=(by omega)
   have I:PN (mr l b a roles c=none):=by
    show _=_;rw[V.o,dg (by omega)];rfl
   have m:=bK (aw U.o n.o);clear V;go_wp2_with fail;go_ret3;exact .inr ⟨I.o,rfl,m.o⟩
def uO (w:World)(v:Value)(a:List (List (Nat->Bool))):Prop:= ∃p c,v= .slice p a.length c/\a.length<9223372036854775808/\ ∀(j:Nat) (b:List (Nat->Bool)),a[j]? =some b-> ∃(g o:Nat) (sv:Value),p=some ⟨g,o,none⟩/\w.cell? (ae g (o+j))=some sv/\sH w sv b
theorem uO.below {w w':World}{v:Value}{a:List (List (Nat->Bool))}(h:uO w v a)(b:aq w w'):uO w' v a:=by
 obtain⟨p,c,d,f,i⟩:=h;refine⟨p,c,d,f,fun j l m=> ?_⟩;obtain⟨g,o,sv,e,k,n⟩:=i j l m;exact⟨g,o,sv,e,aj b k,n.below b⟩
def lH (s:Sv):List (List (Nat->Bool))->Int
 |[]=>0
 |d::l=>if fq s d.length≠0 then fq s d.length else lH s l
def lI (s:Sv):List (List (Nat->Bool))->Nat->Option (Nat×Int×List Int)
 |[],_=>none
 |d::l,n=>match mr s.len s.bef s.aft s.roles d with
  |some x=>some (n,x.1,x.2)
  |none=>lI s l (n+1)
structure Sl where
 err:Int
 day:Int
 min:Int
 who:List Int
def gQ (s:Sv)(a:List (List (Nat->Bool))):Sl:=if 30<a.length then⟨5,0,0,[]⟩ else if lH s a≠0 then⟨lH s a,0,0,[]⟩ else match lI s a 0 with
 |some x=>⟨0,(x.1:Int),x.2.1,x.2.2⟩
 |none=>⟨11,0,0,[]⟩
def Fg (r:Sl)(w:World)(e:Ending)(w':World):Prop:= ∃v,e= .returned (.tuple #[.agg #[ag r.day,ag r.min,v],ag r.err])/\w'.ownsRow w.heap.size 3 1 v r.who.length (dp r.who)/\aq w w'
theorem Fh {s:Sv}{l:List (List (Nat->Bool))}{j:Nat}{d:List (Nat->Bool)}(h:l[j]? =some d):lH s (l.drop j)=if fq s d.length≠0 then fq s d.length else lH s (l.drop (j+1)):=by
 obtain⟨a,b⟩:=aG.1 h;rw[bx a,b];rfl
theorem Fi {s:Sv}{l:List (List (Nat->Bool))}{j:Nat}{d:List (Nat->Bool)}(n:Nat)(h:l[j]? =some d):lI s (l.drop j) n=match mr s.len s.bef s.aft s.roles d with
  |some x=>some (n,x.1,x.2)
  |none=>lI s (l.drop (j+1)) (n+1):=by
 obtain⟨a,b⟩:=aG.1 h;rw[bx a,b];rfl
theorem BZ {s:Sv}: ∀{l:List (List (Nat->Bool))},lH s l=0-> ∀d∈l,fq s d.length=0
 |[],_,d,a=>by cases a
 |x::l,h,d,a=>by
  by_cases b:fq s x.length=0
  ·rw[lH,ax (by simpa using b)]at h;rcases bv.1 a with rfl|a
   ·exact b
   ·exact BZ h d a
  ·rw[lH,aD b]at h;exact absurd h b
theorem B0 {p:List Int}{n:Int}: ∀(m i:Nat),ni p n m i=0-> ∀j,i<=j->j<i+m->(0<=p.getD j 0/\p.getD j 0<n)/\(0<j->p.getD (j-1) 0<p.getD j 0)
 |0,i,_,j,b,c=>by omega
 |m+1,i,h,j,b,c=>by
  rw[ni]at h;by_cases c1:p.getD i 0<0\/n<=p.getD i 0
  ·rw[aD c1]at h;cases h
  ·rw[ax c1]at h;by_cases a:0<i/\p.getD i 0<=p.getD (i-1) 0
   ·rw[aD a]at h;cases h
   ·rw[ax a]at h;by_cases e:j=i
    ·subst e;exact⟨by omega,fun d=>by omega⟩
    ·exact B0 m (i+1) h j (by omega) (by omega)
structure xK (p:List Int)(n:Int):Prop where
 len1:1<=p.length
 len8:p.length<=8
 bd: ∀r∈p,0<=r/\r<n
 up:p.Pairwise (· < ·)
theorem L9 {p:List Int}{n:Int}(h:iM p n=0):xK p n:=by
 unfold iM at h;by_cases e:p.length<1\/8<p.length
 ·rw[aD e]at h;cases h
 ·rw[ax e]at h;have c:=B0 p.length 0 h;refine⟨by omega,by omega,fun r k=> ?_,?_⟩
  ·obtain⟨j,a,rfl⟩:=List.getElem_of_mem k;have:=(c j (by omega) (by omega)).1;simpa[List.getD,az a] using this
  ·have b: ∀d j:Nat,j+d+1<p.length->p.getD j 0<p.getD (j+d+1) 0:=by
    intro d;induction d with
    |zero=>
     intro j a;have:=(c (j+1) (by omega) (by omega)).2 (by omega);simpa using this
    |succ d l=>
     intro j a;have m:=l j (by omega);have f:=(c (j+d+1+1) (by omega) (by omega)).2 (by omega);rw[show j+d+1+1-1=j+d+1 by omega]at f;rw[show j+(d+1)+1=j+d+1+1 by omega];omega
   rw[List.pairwise_iff_getElem];intro i j hi a g;have:=b (j-i-1) i (by omega);rw[show i+(j-i-1)+1=j by omega]at this;simpa[List.getD,az hi,az a] using this
theorem Aa {n:Int}: ∀{l:List (List Int)},kJ n l=0-> ∀p∈l,xK p n
 |[],_,p,a=>by cases a
 |x::l,h,p,a=>by
  by_cases b:iM x n=0
  ·rw[kJ,ax (by simpa using b)]at h;rcases bv.1 a with rfl|a
   ·exact L9 b
   ·exact Aa h p a
  ·rw[kJ,aD b]at h;exact absurd h b
structure Ps (s:Sv)(n:Int):Prop where
 meas:kI s.len s.bef s.aft=true
 r1:1<=s.roles.length
 r4:s.roles.length<=4
 pool: ∀p∈s.roles,xK p n
theorem vZ {s:Sv}{n:Int}(h:fq s n=0):Ps s n:=by
 unfold fq at h;by_cases a:kI s.len s.bef s.aft=false
 ·rw[aD a]at h;cases h
 ·rw[ax a]at h;by_cases b:s.roles.length<1\/4<s.roles.length
  ·rw[aD b]at h;cases h
  ·rw[ax b]at h;exact⟨by simpa using a,by omega,by omega,Aa h⟩
theorem J5 {w:World}{B:Nat}{e:TypeId}{n:Nat}{v:Value}{xs:List Value}{size:Nat}(h:w.ownsRow B e size v n xs){g:Nat}(b:g<B)(X:Array Value):(w.setRow g X).ownsRow B e size v n xs:=
 h.kept (row:=some g) ⟨rfl,rfl,rfl,by simp,fun k _ a=>aV w g k _ (fun e=>a (by rw[e]))⟩ (by
  cases hz:v.ownBlock with
  |none=>exact .inl rfl
  |some q=>
   refine .inr fun e=> ?_;cases e;have:=(h.lt g hz).1;omega)
theorem J6:prog.underlying 25=some (.struct (prog.fieldsOf 25)):=by kernel_rfl
theorem qS {R:Ending->World->Prop}{a:Act}{w:World}(g:Nat)(d m:Int)(v:Value)(er:Int)(j:a.defers=[])(e:a.tmps.getD 4 undef=ab g 0)(f:a.tmps.getD 5 undef=ag er)
  (k:w.heap[g]? =ah #[ag d,ag m,v] 25) (i:R (.returned (.tuple #[.agg #[ag d,ag m,v],ag er])) w):bodyPost prog f29 R .ret a w:=by
 refine aW (v:= .tuple #[.agg #[ag d,ag m,v],ag er]) ?_ j i;have b:a.tmps[4]?.getD undef=ab g 0:=by simpa using e
 have c:a.tmps[5]?.getD undef=ag er:=by simpa using f
 have l:=dX (P:=prog) w g 25 25 _ _ _ k J6 rfl (by kernel_rfl);simp[results,results29,b,c,asAddr,l]
theorem Ht (s:Sv)(rv:Value)(c:List (List (Nat->Bool)))(dv:Value)(w:World)(hT:Tab w)(hR:fk w rv s.roles)(hD:uO w dv c):
  Calls prog 29 #[svV s rv,dv] w (Fg (gQ s c) w):=by
 obtain⟨l,b,a,roles⟩:=s;dsimp only at hR;unfold svV;dsimp only;obtain⟨P,cr,rfl,ar,V⟩:=id hR;have U:aq w ((w.alloc (.cells #[ag l,ag b,ag a,.slice P roles.length cr] 29)).alloc (.cells #[ag 0,ag 0,af] 25)):=(am _ _).alloc (by simp) _;have nA:((w.alloc (.cells #[ag l,ag b,ag a,.slice P roles.length cr] 29)).alloc (.cells #[ag 0,ag 0,af] 25)).heap[w.heap.size]? =ah #[ag l,ag b,ag a,.slice P roles.length cr] 29:=by(repeat (first|refine dl _ _ _ (by simp only[aU];omega) ?_|exact dC _ _ _ (by first|rfl|simp only[aU])))
 have J:((w.alloc (.cells #[ag l,ag b,ag a,.slice P roles.length cr] 29)).alloc (.cells #[ag 0,ag 0,af] 25)).heap[w.heap.size+1]? =ah #[ag 0,ag 0,af] 25:=by(repeat (first|refine dl _ _ _ (by simp only[aU];omega) ?_|exact dC _ _ _ (by first|rfl|simp only[aU])))
 generalize av:(w.alloc (.cells #[ag l,ag b,ag a,.slice P roles.length cr] 29)).alloc (.cells #[ag 0,ag 0,af] 25)=R at*;have HR:=bK (hR.below U);have HD:=bK (hD.below U);have HT:=bK (kL hT U);have S:=bK U;obtain⟨pd,cd,rfl,ap,_⟩:=hD
 have u:PN (∀(W:World) (er:Int),aq R W->W.heap[w.heap.size+1]? =ah #[ag 0,ag 0,af] 25->gQ ⟨l,b,a,roles⟩ c=⟨er,0,0,[]⟩->(W.setRow (w.heap.size+1) #[ag 0,ag 0,af]).heap[w.heap.size+1]? =ah #[ag 0,ag 0,af] 25/\Fg (gQ ⟨l,b,a,roles⟩ c) w (.returned (.tuple #[.agg #[ag 0,ag 0,af],ag er])) (W.setRow (w.heap.size+1) #[ag 0,ag 0,af])):=fun W er hW hs he=>by
  rw[he];exact⟨aL _ _ _ _ _ _ hs,_,rfl,dc _ _ _ _,below_setRow (aw S.o hW) (by omega) _⟩
 by_cases al:30<(c.length:Int)
 ·have T:PN (gQ ⟨l,b,a,roles⟩ c=⟨5,0,0,[]⟩):=by
   show _=_;unfold gQ;rw[aD (by omega)]
  have q:=bK (u.o R 5 (aI _ _) J T.o);go_enter func29,ntmps29
  go_wp2_with(first
   |(refine ay rfl 25 _ _ rfl _ _ rfl rfl _ _ J (by kernel_rfl) (by simp) (by simp[Value.oneCell']) ?_))
  exact qS (w.heap.size+1) 0 0 (af) 5 rfl rfl rfl q.o.1 q.o.2
 have HE:PN (gQ ⟨l,b,a,roles⟩ c=if lH ⟨l,b,a,roles⟩ c≠0 then⟨lH ⟨l,b,a,roles⟩ c,0,0,[]⟩ else match lI ⟨l,b,a,roles⟩ c 0 with
   |some x=>⟨0,(x.1:Int),x.2.1,x.2.2⟩
   |none=>⟨11,0,0,[]⟩):=by
  show _=_;unfold gQ;rw[ax (by omega)]
 go_enter func29,ntmps29
 go_wp2_with fail;go_loopw [20] (fun t wr=> ∃j:Nat,t=ag (j:Int)/\j<=c.length/\PN (lH ⟨l,b,a,roles⟩ c=lH ⟨l,b,a,roles⟩ (c.drop j))/\PN (aq R wr)) (fun t _=>c.length-(intOf t).toNat);case atStart=>exact⟨0,rfl,by omega,rfl,aI _ _⟩
 case round=>
  obtain⟨j,rfl,hj,I,f⟩:=hrel;have an:(0:Int)<=(j:Int):=(by omega);by_cases ae:j<c.length
  ·have M:(j:Int)<(c.length:Int):=(by omega);obtain⟨L,i⟩: ∃r,c[j]? =some r:=⟨_,az ae⟩
   obtain⟨_,_,Z,_,z⟩:=HD.o.below f.o;cases Z;obtain⟨aa,aj,sv,H,cx,g⟩:=z j _ i;subst H;obtain⟨pf,cf,rfl,ad,_⟩:=g;have C:=ai f.o nA;have y0:=ak 0 C;have y1:=ak 1 C;have y2:=ak 2 C;have y3:=ak 3 C;have c1:=xG ⟨l,b,a,roles⟩ _ (L.length:Int) wr (HR.o.below f.o);unfold svV at c1;dsimp only at c1;have D:=Fh (s:=⟨l,b,a,roles⟩) i;obtain⟨er,ab⟩:=au (fq ⟨l,b,a,roles⟩ (L.length:Int));rw[ab]at c1 D;have n:=ai f.o J;by_cases X:er=0
   ·subst X;rw[ax (by simp)]at D;have y:=bK (I.o.trans D);go_wp2_with fail;refine c1.mono ?_;rintro e Q ⟨rfl,b2⟩;have E:=bK (aw f.o b2);go_wp2_with fail;go_roundw;case rel=>exact⟨j+1,by go_num,by omega,y,E⟩
    case measure=>simp[intOf];omega
   ·rw[aD X]at D;have a0:(er==0)=false:=bj.2 X;have y:=bK (I.o.trans D);go_wp2_with fail;refine c1.mono ?_;rintro e Q ⟨rfl,b2⟩;have A:=ai b2 n;have q:=bK (u.o Q er (aw f.o b2) A (HE.o.trans (by rw[y.o];exact aD X)))
    go_wp2_with(first
     |(refine ay rfl 25 _ _ rfl _ _ rfl rfl _ _ A (by kernel_rfl) (by simp) (by simp[Value.oneCell']) ?_))
    exact qS (w.heap.size+1) 0 0 (af) er rfl rfl rfl q.o.1 q.o.2
  ·have M: ¬(j:Int)<(c.length:Int):=(by omega)
   have HZ:PN (lH ⟨l,b,a,roles⟩ c=0):=by
    show _=_;rw[I.o,dg (by omega)];rfl
   have Y:=bK (BZ HZ.o);have K:=bK (HE.o.trans (ax (by rw[HZ.o];simp)));go_wp2_with fail;go_loopw [35] (fun t W=> ∃k:Nat,t=ag (k:Int)/\k<=c.length/\PN (lI ⟨l,b,a,roles⟩ c 0=lI ⟨l,b,a,roles⟩ (c.drop k) k)/\PN (aq R W)) (fun t _=>c.length-(intOf t).toNat);case atStart=>exact⟨0,rfl,by omega,rfl,f⟩
   case round=>
    obtain⟨k,rfl,hk,I,d⟩:=hrel;have ao:(0:Int)<=(k:Int):=(by omega);by_cases N:k<c.length
    ·have G:(k:Int)<(c.length:Int):=(by omega);obtain⟨L,i⟩: ∃r,c[k]? =some r:=⟨_,az N⟩
     obtain⟨_,_,Z,_,z⟩:=HD.o.below d.o;cases Z;obtain⟨aa,aj,sv,H,cx,g⟩:=z k _ i;subst H;have B:=vZ (Y.o L (aM i));have c1:=C6 l b a roles _ L sv wr (kL HT.o d.o) (HR.o.below d.o) g (fun p hp=>⟨(B.pool p hp).len8,(B.pool p hp).bd⟩) B.r4 B.meas;obtain⟨pf,cf,rfl,ad,_⟩:=g;have C:=ai d.o nA;have y0:=ak 0 C;have y1:=ak 1 C;have y2:=ak 2 C;have y3:=ak 3 C;have D:=Fi (s:=⟨l,b,a,roles⟩) k i;dsimp only at D;have T:=bK (I.o.trans D);have n:=ai d.o J;go_wp2_with fail;refine c1.mono ?_;rintro e Q (⟨m,who,v,hf,rfl,O,b2⟩|⟨hf,rfl,b2⟩)
     ·have A:=ai b2 n
      have F:PN (gQ ⟨l,b,a,roles⟩ c=⟨0,(k:Int),m,who⟩):=by
       show _=_;rw[K.o,T.o,hf]
      have ac:w.heap.size+1<R.heap.size:=aH J
      have q:PN ((Q.setRow (w.heap.size+1) #[ag (k:Int),ag m,v]).heap[w.heap.size+1]? =ah #[ag (k:Int),ag m,v] 25/\Fg (gQ ⟨l,b,a,roles⟩ c) w (.returned (.tuple #[.agg #[ag (k:Int),ag m,v],ag 0])) (Q.setRow (w.heap.size+1) #[ag (k:Int),ag m,v])):=by
       rw[F.o];refine⟨aL _ _ _ _ _ _ A,v,rfl,?_,below_setRow (S.o.trans ((aw d.o b2).mono S.o.size)) (by omega) _⟩;exact qC (J5 O (aT ac d.o.size) _) (bf S.o.size d.o.size)
      obtain⟨pw,cw,rfl⟩:=np O
      go_wp2_with(first
       |(refine ay rfl 25 _ _ rfl _ _ rfl rfl _ _ A (by kernel_rfl) (by simp) (by simp[Value.oneCell']) ?_))
      exact qS (w.heap.size+1) (k:Int) m _ 0 rfl rfl rfl q.o.1 q.o.2
     ·have y:PN (lI ⟨l,b,a,roles⟩ c 0=lI ⟨l,b,a,roles⟩ (c.drop (k+1)) (k+1)):=by
       show _=_;rw[T.o,hf]
      have E:=bK (aw d.o b2);go_wp2_with fail;go_roundw;case rel=>exact⟨k+1,by go_num,by omega,y,E⟩
      case measure=>simp[intOf];omega
    ·have G: ¬(k:Int)<(c.length:Int):=(by omega)
     have F:PN (gQ ⟨l,b,a,roles⟩ c=⟨11,0,0,[]⟩):=by
      show _=_;rw[K.o,I.o,dg (by omega)];rfl
     have n:=ai d.o J;have q:=bK (u.o wr 11 d.o n F.o)
     go_wp2_with(first
      |(refine ay rfl 25 _ _ rfl _ _ rfl rfl _ _ n (by kernel_rfl) (by simp) (by simp[Value.oneCell']) ?_))
     exact qS (w.heap.size+1) 0 0 (af) 11 rfl rfl rfl q.o.1 q.o.2
end Go.Proofs.YtaoljfdfhggbbaaGreatDoor
