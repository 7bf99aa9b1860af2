/- Texts of the proof. -/
import Derived.Test.YtkfidffapdhbhaaGreatDoorPh12
import Derived.Test.YtkfidffapdhbhaaGreatDoorPh20
import Derived.Sort.OwnSortedInts
set_option maxRecDepth 100000
set_option maxHeartbeats 8000000
namespace Go.Proofs.YtkfidffapdhbhaaGreatDoor
open Go.Proofs.Tryz Go.RowKit Lx Vx Mx Msk
theorem zL (l:List Int):dp l=l.map (Value.int .i64):=rfl
theorem JW {w:World}{B:Nat}{v:Value}{zs:List Int}(h:w.ownsRow B 3 1 v zs.length (dp zs))(hl:zs.length<=1000000):
  Calls prog 105 #[v] w fun e w'=>e= .returned (.tuple #[])/\w'.ownsRow B 3 1 v zs.length (dp (zs.mergeSort fun x y=>decide (x<=y)))/\w.grownBy w' v.ownBlock:=by
 rcases h.2 with⟨rfl,e⟩|⟨g,cap,cur,rfl,hb,hg,hn,hm,hs,ht⟩
 ·have hz:zs=[]:=gM e;subst hz;refine(Hi none 0 w).mono fun e w' ⟨he,hw⟩=>⟨he,by rw[hw,List.mergeSort_nil];exact cY _ _ _ _,by rw[hw];exact jt _ _⟩
 ·rw[Nat.mul_one]at ht;have hH:=Go.holds_of_blockI (ss:=zs) hg ht;refine(Hh g 0 cap zs w hH (aH hg) (by omega)).mono fun e w' ⟨he,n,os,hw⟩=>⟨he,?_,?_⟩
  ·rw[hw,zL];exact Go.ownsRow_sortedI (List.length_mergeSort zs) hb hg hn hm hs
  ·rw[hw];exact Go.grownBy_sortedI _
theorem xC (zs:List Int):(Go.Lib.compact zs).length<=zs.length:=by
 unfold Go.Lib.compact Go.Lib.compactUpTo;rw[ba];refine bf (List.length_filter_le _ _) ?_;simp
theorem CV {w:World}{B:Nat}{v:Value}{zs:List Int}(h:w.ownsRow B 3 1 v zs.length (dp zs))(hl:zs.length<=1000000):
  Calls prog 106 #[v] w fun e w'=> ∃v',e= .returned v'/\w'.ownsRow B 3 1 v' (Go.Lib.compact zs).length (dp (Go.Lib.compact zs))/\w.grownBy w' v.ownBlock:=by
 rcases h.2 with⟨rfl,e⟩|⟨g,cap,cur,rfl,hb,hg,hn,hm,hs,ht⟩
 ·have hz:zs=[]:=gM e;subst hz;refine(BO none 0 w).mono fun e w' ⟨he,hw⟩=>⟨_,he,by rw[hw];exact cY _ _ _ _,by rw[hw];exact jt _ _⟩
 ·rw[Nat.mul_one]at ht;have hH:=Go.holds_of_blockI (ss:=zs) hg ht;have hcl:=xC zs;refine(BN g 0 cap zs w hH (by omega) hn).mono fun e w' ⟨he,q,hw⟩=>⟨_,he,?_,?_⟩
  ·have hl2:(Go.Lib.compact zs++List.replicate (zs.length-(Go.Lib.compact zs).length) (0:Int)).length=zs.length:=(by simp;omega);have h2:=Go.ownsRow_sortedI (n:=q) (os:= #[]) hl2 hb hg hn hm hs;rw[Go.Sort.grow_empty,<-hw]at h2;refine⟨by rw[kJ];simp,.inr ?_⟩;rcases h2.2 with⟨e,_⟩|⟨g',cap',cur',e,hb',hg',hn',hm',hs',ht'⟩
   ·cases e
   ·injection e with e1 _ e3;injection e1 with e1;injection e1 with e1;subst e1 e3;refine⟨g,cap,cur',rfl,hb',hg',by omega,hm',hs',?_⟩;have h3:=congrArg (List.take (Go.Lib.compact zs).length) ht';rw[List.take_take,Nat.mul_one,fj hcl,dT,List.take_append_of_le_length (by simp)]at h3;rw[Nat.mul_one,h3,zL];exact cj (by simp)
  ·rw[hw,<-Go.Sort.grow_empty (Go.Sort.putRow _ _ _ _ _)];exact Go.grownBy_sortedI _
theorem DF:prog.underlying 41=some (.struct (prog.fieldsOf 41)):=by kernel_rfl
theorem Aw {ops:Array Oper}{rest:List Oper}{o:Oper}{a:Act}{w:World}{Q:Exit->Act->World->Prop}(hgd:o.guard=none)(x:Operand)(ho:o.op= .load 86 x)(b q:Nat)(hx:a.eval x=ab b q)(f:Nat->Bool)(hc:w.rangeAt b q (mv f).toList)(h:wpList prog ops Q rest (a.put o.dst (.agg (mv f))) w):wpList prog ops Q (o::rest) a w:=
 wpList_plain hgd fun _ hK=>zE x ho b q hx f hc (hK _ _ h)
theorem zN {w:World}{v:Value}{l:List (Int×Int)}(h:Row w v l): ∃(q:Option Addr) (c:Nat),v= .slice q l.length c/\l.length<9223372036854775808/\ ∀j s,l[j]? =some s-> ∃g o:Nat,q=some ⟨g,o,none⟩/\w.cell? (ae g (o+j*2))=some (ag s.1)/\w.cell? (ae g (o+j*2+1))=some (ag s.2):=by
 rcases h with⟨c,rfl,rfl⟩|⟨g,o,c,rfl,hl,hc⟩
 ·exact⟨none,c,rfl,by simp,fun j s hj=>by simp at hj⟩
 ·refine⟨_,c,rfl,hl,fun j s hj=>⟨g,o,rfl,?_⟩⟩;have:=hc j (aF.1 hj).1;rwa[show l.getD j (0,0)=s by simp[List.getD,hj]]at this
theorem yF {n:Int}: ∀{l:List (Int×Int)} {last:Int},good last n l-> ∀s∈l,last<s.1/\s.1<s.2/\s.2<=n
 |[],_,_,s,hs=>by cases hs
 |t::l,last,h,s,hs=>by
  obtain⟨h1,h2,h3,h4⟩:=h;rcases bz.1 hs with rfl|hs
  ·exact⟨h1,h2,h3⟩
  ·obtain⟨q1,q2,q3⟩:=yF h4 s hs;exact⟨by omega,q2,q3⟩
theorem E5 (l b a:Int)(roles:List (List Int))(rv:Value)(fs:List (Nat->Bool))(fv:Value)(w:World)(hT:Tab w)(hR:fk w rv roles)(hF:sA w fv fs)(hin: ∀p∈roles,p.length<=8/\ ∀r∈p,0<=r/\r<(fs.length:Int))(hrl:roles.length<=4)(hme:kH l b a=true):
  Calls prog 78 #[.agg #[ag l,ag b,ag a,rv],fv] w fun e w'=> ∃v,e= .returned v/\dS w' v (iH (b+l+a) fs roles)/\aq w w':=by
 obtain⟨pr,cr,rfl,hlr,hallr0⟩:=id hR;have bA:=am w (.cells #[ag l,ag b,ag a,.slice pr roles.length cr] 41);have nA:=aE w (.cells #[ag l,ag b,ag a,.slice pr roles.length cr] 41);generalize hwA:w.alloc (.cells #[ag l,ag b,ag a,.slice pr roles.length cr] 41)=wA at*;have HR:=bK (hR.below bA);have HF:=bK (hF.below bA);have HT:=bK (kK hT bA);have HB:=bK bA;have HIN:=bK hin;have HME:=bK hme;have z3:=ak 3 nA;obtain⟨pf,cf,rfl,hlf,_⟩:=hF;go_enter func78,ntmps78
 go_wp2_with fail;go_loopw [5,15] (fun q t wr=> ∃(j:Nat) (A:List Int) (qa:Option Addr) (ca:Nat),q= .slice qa A.length ca/\t=ag (j:Int)/\j<=roles.length/\PH (A=(roles.take j).flatMap (AF (b+l+a) fs))/\A.length<=j*11520/\PH (wr.ownsRow wA.heap.size 3 1 (.slice qa A.length ca) A.length (dp A))/\PH (aq wA wr)) (fun _ t _=>roles.length-(intOf t).toNat);case atStart=>exact⟨0,[],none,0,rfl,rfl,by omega,rfl,by simp,cY _ _ _ _,aI _ _⟩
 case round=>
  obtain⟨j,A,qa,ca,rfl,rfl,hj,HAe,hAl,HO,HBr⟩:=hrel;have hj0:(0:Int)<=(j:Int):=(by omega);by_cases hlt:j<roles.length
  ·have hlt':(j:Int)<(roles.length:Int):=(by omega);obtain⟨role,hjr⟩: ∃r,roles[j]? =some r:=⟨roles[j],az hlt⟩
   obtain⟨_,_,e1,_,hall⟩:=HR.o;cases e1;obtain⟨gr,or,sv,hpe,hc0,hrow0⟩:=hall j _ hjr;subst hpe;have hc:=aj HBr.o hc0;obtain⟨ar,ac,rfl,hlrole,hcells⟩:=hrow0;have HC:=bK hcells;have HJR:=bK hjr;have HIR:=bK (HIN.o role (aM hjr));have hrole:role.length<=8:=HIR.o.1;go_wp2_with fail;go_loopw [5,21] (fun q t W=> ∃(i:Nat) (A2:List Int) (qb:Option Addr) (cb:Nat),q= .slice qb A2.length cb/\t=ag (i:Int)/\i<=role.length/\PH (A2=A++(role.take i).flatMap fun r=>xy (b+l+a) (fs.getD r.toNat fun _=>false))/\A2.length<=j*11520+i*1440/\PH (W.ownsRow wA.heap.size 3 1 (.slice qb A2.length cb) A2.length (dp A2))/\PH (aq wA W)) (fun _ t _=>role.length-(intOf t).toNat);case atStart=>exact⟨0,A,qa,ca,rfl,rfl,by omega,by show _=_;simp,by omega,HO,HBr⟩
   case round=>
    obtain⟨i,A2,qb,cb,rfl,rfl,hi,HAe2,hAl2,HO2,HB2⟩:=hrel;have hi0:(0:Int)<=(i:Int):=(by omega);by_cases hlti:i<role.length
    ·have hlti':(i:Int)<(role.length:Int):=(by omega);obtain⟨r,hir⟩: ∃r,role[i]? =some r:=⟨role[i],az hlti⟩
     obtain⟨h1,h2⟩:=HIR.o.2 r (aM hir);obtain⟨rn,hrn⟩: ∃rn:Nat,r=(rn:Int):=⟨r.toNat,by omega⟩
     subst hrn;obtain⟨f,hf⟩: ∃f,fs[rn]? =some f:=⟨fs[rn]'(by omega),az (by omega)⟩
     obtain⟨ga,oa,hpa,ca0⟩:=HC.o i _ hir;subst hpa;have ca1:=aj HB2.o ca0;obtain⟨_,_,e3,_,hallf⟩:=HF.o;cases e3;obtain⟨gf,of,hpf,rgf0⟩:=hallf rn f hf;subst hpf;have rgf:=iI rgf0 HB2.o;have HIRi:=bK hir;have c1:=zJ f wr (kK HT.o HB2.o);have hfg:fs.getD rn (fun _=>false)=f:=(by simp[List.getD,hf]);have HFG:=bK hfg
     go_wp2_with(first
      |(refine Aw rfl _ rfl gf (of+rn*23) rfl f rgf ?_))
     refine c1.mono ?_;rintro e w4 ⟨⟨vs,rfl,hownS⟩,hruns,b4⟩;have hrowS:=vk hownS (by have:=hruns.few;omega)
     have HOS:PH (∀W:World,w4.grownBy W (Value.slice qb A2.length cb).ownBlock->W.ownsRow wr.heap.size 89 2 vs (rs f 1440).length (iT (rs f 1440))):=fun W hW=>hownS.kept hW (by
      cases hz:vs.ownBlock with
      |none=>exact .inl rfl
      |some q=>
       refine .inr fun e=> ?_;have h1:=(hownS.lt q hz).1;have h2:=(HO2.o.lt q e.symm).2;omega)
     have HO4:=bK (g7 HO2.o b4);have HB4:=bK (aw HB2.o b4);obtain⟨qs,cs,rfl,hlS,_⟩:=zN hrowS;have HG:=bK (yF hruns.good);have hfew:(rs f 1440).length<=1440:=hruns.few;have hN:(rs f 1440).length<9223372036854775808:=hlS;go_wp2_with fail;go_loopw [5,31] (fun q t W=> ∃(k:Nat) (C:List Int) (qc:Option Addr) (cc:Nat),q= .slice qc C.length cc/\t=ag (k:Int)/\k<=(rs f 1440).length/\PH (C=A2++(((rs f 1440).take k).filter fun s=>decide (b+l+a<=s.2-s.1)).map fun s=>s.1)/\C.length<=j*11520+i*1440+k/\PH (W.ownsRow wA.heap.size 3 1 (.slice qc C.length cc) C.length (dp C))/\PH (w4.grownBy W (Value.slice qb A2.length cb).ownBlock)/\PH (aq wA W)/\PH (∀W2:World,W.grownBy W2 (Value.slice qc C.length cc).ownBlock->w4.grownBy W2 (Value.slice qb A2.length cb).ownBlock)) (fun _ t _=>(rs f 1440).length-(intOf t).toNat);case atStart=>exact⟨0,A2,qb,cb,rfl,rfl,by omega,by show _=_;simp,by omega,HO4,jt _ _,HB4,fun _ h=>h⟩
     case round=>
      obtain⟨k,C,qc,cc,rfl,rfl,hk,HCe,hCl,HOk,HGk,HBk,HFk⟩:=hrel;have hRk:=vk (HOS.o wr HGk.o) hN;obtain⟨_,_,e9,_,hcS⟩:=zN hRk;cases e9;have HCS:=bK hcS;have hk0:(0:Int)<=(k:Int):=(by omega);by_cases hltk:k<(rs f 1440).length
      ·have hltk':(k:Int)<((rs f 1440).length:Int):=(by omega);obtain⟨s,hks⟩: ∃s,(rs f 1440)[k]? =some s:=⟨_,az hltk⟩
       obtain⟨g1,g2,g3⟩:=HG.o s (aM hks);obtain⟨go,oo,hps,p0,p1⟩:=HCS.o k s hks;subst hps;obtain⟨x,y⟩:=s;dsimp only at g1 g2 g3 p0 p1;have hwr:IntKind.i64.wrap (y-x)=y-x:=(by rw[bG];omega);have hkr:=bK hks;have bS:=am wr (.cells #[ag x,ag y] 89);have nS:=aE wr (.cells #[ag x,ag y] 89);have HO4':=bK (g7 HOk.o bS);have HBS:=bK (aw HBk.o bS);have HGS:=bK (jm bS (Value.slice qc C.length cc).ownBlock);obtain⟨gs,hgs⟩:=au wr.heap.size;rw[hgs]at nS;generalize hwS:wr.alloc (.cells #[ag x,ag y] 89)=wS at*;have q0:=ak 0 nS;have q1:=ak 1 nS;have n2:=ai HBS.o nA;go_wp2_with fail;refine dn (fun _ _ W=>aq wS W) [kn 35 (ab gs 1),kn 36 (ag y),kn 37 (ab gs 0),kn 38 (ag x),kn 39 (ag (y-x)),kn 40 (.agg #[ag l,ag b,ag a,.slice (some (ae gr or)) roles.length cr]),kn 41 (ag (b+l+a)),kn 42 (.bool (decide (b+l+a<=y-x)))] (fun _=>(aI _ _).drew) (fun _ _ _ _ hb h=>aw h hb) (by kernel_rfl) (fun M φ W2 hJ hcl FF ll hll hFF=> ?_) (fun M φ W5 hM hJ=> ?_)
       ·simp only[kn,dX,aR,aX,Act.put,aA,aK,aJ]at hll;subst hll;simp only[dc,Nat.reduceAdd]at hFF;have zz_1:=aj hJ q1;have zz_3:=aj hJ q0;dsimp only[kn,dC,eJ,eg,Act.put];and_intros;all_goals first|exact trivial|intro qw qn qm K hK
        all_goals try (go_simp;with_reducible exact hK _ _ ⟨rfl,aI _ _⟩)
        ·refine eo 41 _ rfl _ (by simp[Act.eval,hFF]) _ _ _ _ (ai hJ n2) DF rfl (by kernel_rfl) ?_;exact hK _ _ ⟨rfl,aI _ _⟩
        ·go_simp;refine(tH l b a _ W2 (.inl HME.o)).mono ?_;rintro r' W' ⟨rfl,hb'⟩;exact hK _ _ ⟨rfl,hb'⟩
       ·simp only[kn,en,aR,aX,Act.put,aA,aK,aJ];have HO5:=bK (g7 HO4'.o hJ);have HB5:=bK (aw HBS.o hJ);have HG5:=bK (HGS.o.trans (jm hJ _));have q05:=aj hJ q0;by_cases hge:b+l+a<=y-x
        ·have bB:=am W5 (.cells #[ag x] 3);have nB:=aE W5 (.cells #[ag x] 3);generalize hwB:W5.alloc (.cells #[ag x] 3)=wB at*;have zB:=ak 0 nB;have HOB:=bK (g7 HO5.o bB);have HBB:=bK (aw HB5.o bB);have HGB:=bK (HG5.o.trans (jm bB _))
         have HFt:PH (C++[x]=A2++(((rs f 1440).take (k+1)).filter fun s=>decide (b+l+a<=s.2-s.1)).map fun s=>s.1):=by
          show _=_;rw[HCe.o,lT hkr.o,List.filter_append,dT,List.filter_cons,aD (by simpa using hge),<-eh];rfl
         go_wp2_with(first
          |(refine lS rfl _ _ rfl wA.heap.size _ C x rfl ?ho W5.heap.size 1 rfl zB ?hl ?hb ?_
            case ho=>exact HOB.o
            case hl=>omega
            case hb=>exact HBB.o.size
            intro v' w3 ho3 hcase))
         have HB3:=bK (xB HBB.o HOB.o hcase);have HO3:=bK ho3
         have HF3:PH (w4.grownBy w3 (Value.slice qb A2.length cb).ownBlock/\ ∀W2:World,w3.grownBy W2 v'.ownBlock->w4.grownBy W2 (Value.slice qb A2.length cb).ownBlock):=by
          rcases hcase with⟨e,g1,_⟩|⟨g1,q,e,hq⟩
          ·exact⟨HFk.o w3 (HGB.o.trans g1),fun W2 h2=>HFk.o W2 ((HGB.o.trans g1).trans (e▸h2))⟩
          ·refine⟨HFk.o w3 (HGB.o.trans (tK g1 _)),fun W2 h2=>HFk.o W2 (HGB.o.trans (tK (xA g1 h2 (fun j hj=> ?_)) _))⟩;rw[e]at hj;cases hj;exact .inl hq
         go_wp2_with fail;go_roundw
         case rel=>
          have h3:=HO3.o;have hl3:=zI (l:=C) (x:=x) rfl;rw[<-hl3]at h3;obtain⟨q',c',hv'⟩:=nh h3;subst hv';exact⟨k+1,C++[x],q',c',rfl,by go_num,by omega,HFt,by rw[hl3];omega,h3,HF3.o.1,HB3,HF3.o.2⟩
         case measure=>simp[intOf];omega
        ·have HFt:PH (C=A2++(((rs f 1440).take (k+1)).filter fun s=>decide (b+l+a<=s.2-s.1)).map fun s=>s.1):=by
          show _=_;rw[HCe.o,lT hkr.o,List.filter_append,dT,List.filter_cons,ax (by simpa using hge)];simp
         go_wp2_with fail;go_roundw;case rel=>exact⟨k+1,C,qc,cc,rfl,by go_num,by omega,HFt,by omega,HO5,HFk.o _ HG5.o,HB5,fun W2 h2=>HFk.o W2 (HG5.o.trans h2)⟩
         case measure=>simp[intOf];omega
      ·have hltk': ¬(k:Int)<((rs f 1440).length:Int):=(by omega)
       have HAn:PH (C=A++(role.take (i+1)).flatMap fun r=>xy (b+l+a) (fs.getD r.toNat fun _=>false)):=by
        show _=_;rw[HCe.o,show k=(rs f 1440).length by omega,cj (aB _),lT HIRi.o,fw,<-eh,<-HAe2.o];congr 1;rw[List.flatMap_singleton,cZ,HFG.o];rfl
       go_wp2_with fail;go_roundw;case rel=>exact⟨i+1,C,qc,cc,rfl,by go_num,by omega,HAn,by omega,HOk,HBk⟩
       case measure=>simp[intOf];omega
    ·have hlti': ¬(i:Int)<(role.length:Int):=(by omega)
     have HAn:PH (A2=(roles.take (j+1)).flatMap (AF (b+l+a) fs)):=by
      show _=_;rw[HAe2.o,show i=role.length by omega,cj (aB _),lT HJR.o,fw,<-HAe.o,List.flatMap_singleton];rfl
     go_wp2_with fail;go_roundw;case rel=>exact⟨j+1,A2,qb,cb,rfl,by go_num,by omega,HAn,by omega,HO2,HB2⟩
     case measure=>simp[intOf];omega
  ·have hlt': ¬(j:Int)<(roles.length:Int):=(by omega)
   have HAn:PH (A=rR (b+l+a) fs roles):=by
    show _=_;rw[HAe.o,show j=roles.length by omega,cj (aB _)];rfl
   have c1:=JW HO.o (by omega);go_wp2_with fail;refine c1.mono ?_;rintro e w1 ⟨rfl,ho1,hg1⟩;have HB1:=bK (gY HBr.o hg1 (aB _) (fun k hk=>(HO.o.lt k hk).1));have hls:(A.mergeSort fun x y=>decide (x<=y)).length=A.length:=List.length_mergeSort A;have ho1':=ho1;rw[<-hls]at ho1';obtain⟨q1,c1',hsh⟩:=nh ho1';have c2:=CV ho1' (by rw[hls];omega);have HO1:=bK ho1';rw[hls]at c2;go_wp2_with fail;refine c2.mono ?_;rintro e w2 ⟨v2,rfl,ho2,hg2⟩;have HB2:=bK (gY HB1.o hg2 (aB _) (fun k hk=>(HO1.o.lt k (by rw[hls];exact hk)).1))
   have HR2:PH (dS w2 v2 (iH (b+l+a) fs roles)):=by
    have hcl:=xC (A.mergeSort fun x y=>decide (x<=y));have h:=qy ho2 (by omega);rw[HAn.o]at h;exact h
   have HBB:=bK (aw HB.o HB2.o);go_wp2_with fail;go_ret;exact⟨v2,rfl,HR2.o,HBB.o⟩
def BP (l b a:Int)(roles:List (List Int))(fs:List (Nat->Bool))(x:Int):Option (Int×List Int):=(lF (kQ (okP fs x (x+(b+l+a))) roles) roles.length []).map fun who=>(x+b,who)
def mo (l b a:Int)(roles:List (List Int))(fs:List (Nat->Bool)):Option (Int×List Int):=(iH (b+l+a) fs roles).findSome? (BP l b a roles fs)
def OK (res:Option (Int×List Int))(w:World)(e:Ending)(w':World):Prop:=(∃m who v,res=some (m,who)/\e= .returned (.tuple #[ag m,v,.bool true])/\w'.ownsRow w.heap.size 3 1 v who.length (dp who)/\aq w w')\/(res=none/\e= .returned (.tuple #[ag 0,af,.bool false])/\aq w w')
theorem CW {x:Int}{zs:List Int}(h:x∈Go.Lib.compact zs):x∈zs:=by
 unfold Go.Lib.compact Go.Lib.compactUpTo at h;rw[dU]at h;obtain⟨j,hj,rfl⟩:=h;have hj':=jg.1 ((List.mem_filter.1 hj).1);rw[getElem!_pos _ j (by simpa using hj')];simp
theorem L1 (f:Nat->Bool):lC f 1440 (rs f 1440):=Msk.DG f 1440
theorem JY {W:Int}{fs:List (Nat->Bool)}{roles:List (List Int)}{x:Int}(h:x∈iH W fs roles):0<=x/\x<1440:=by
 have h1:x∈rR W fs roles:=(List.mem_mergeSort).1 (CW h);unfold rR AF xy at h1;rw[List.mem_flatMap]at h1;obtain⟨p,_,h2⟩:=h1;rw[List.mem_flatMap]at h2;obtain⟨r,_,h3⟩:=h2;rw[dU]at h3;obtain⟨s,hs,rfl⟩:=h3;have:=yF (L1 _).good s (List.mem_filter.1 hs).1;omega
theorem CX (l b a:Int)(roles:List (List Int))(rv:Value)(fs:List (Nat->Bool))(fv:Value)(w:World)(hT:Tab w)(hR:fk w rv roles)(hF:sA w fv fs)(hin: ∀p∈roles,p.length<=8/\ ∀r∈p,0<=r/\r<(fs.length:Int))(hrl:roles.length<=4)(hme:kH l b a=true):
  Calls prog 55 #[.agg #[ag l,ag b,ag a,rv],fv] w (OK (mo l b a roles fs) w):=by
 obtain⟨pr,cr,rfl,hlr,hallr0⟩:=id hR;clear hallr0;have bA:=am w (.cells #[ag l,ag b,ag a,.slice pr roles.length cr] 41);have nA:=aE w (.cells #[ag l,ag b,ag a,.slice pr roles.length cr] 41);generalize hwA:w.alloc (.cells #[ag l,ag b,ag a,.slice pr roles.length cr] 41)=wA at*;have HR:=bK (hR.below bA);have HF:=bK (hF.below bA);have HB:=bK bA;have HIN:=bK hin;have HIN2:PH (∀p∈roles,p.length<=1000/\ ∀r∈p,0<=r/\r<(fs.length:Int)):=fun p hp=>⟨by have:=(hin p hp).1;omega,(hin p hp).2⟩
 have HME:=bK hme
 have hmb:1<=l/\l<=1440/\0<=b/\b<=1440/\0<=a/\a<=1440/\b+l+a<=1440:=by
  unfold kH at hme;exact fE hme
 obtain⟨m1,m2,m3,m4,m5,m6,m7⟩:=hmb;have z0:=ak 0 nA;have z1:=ak 1 nA;have z2:=ak 2 nA;have z3:=ak 3 nA;have c0:=E5 l b a roles _ fs fv wA (kK hT bA) HR.o HF.o hin hrl hme;obtain⟨pf,cf,rfl,hlf,_⟩:=hF;clear bA hin hR hme;go_enter func55,ntmps55
 go_wp2_with fail;refine c0.mono ?_;rintro e w1 ⟨v1,rfl,hrow1,b1⟩;obtain⟨p1,q1,rfl,hl1,_⟩:=id hrow1;have HR1:=bK hrow1;have HB1:=bK b1;clear c0 hrow1 b1 z0 z1 z2 z3;go_wp2_with fail;go_loopw [16] (fun t wr=> ∃j:Nat,t=ag (j:Int)/\j<=(iH (b+l+a) fs roles).length/\PH (mo l b a roles fs=((iH (b+l+a) fs roles).drop j).findSome? (BP l b a roles fs))/\PH (aq wA wr)/\PH (dS wr (.slice p1 (iH (b+l+a) fs roles).length q1) (iH (b+l+a) fs roles))) (fun t _=>(iH (b+l+a) fs roles).length-(intOf t).toNat);case atStart=>exact⟨0,rfl,by omega,rfl,HB1,HR1⟩
 case round=>
  obtain⟨j,rfl,hj,hX,HBr,HRA0⟩:=hrel;have hj0:(0:Int)<=(j:Int):=(by omega);by_cases hlt:j<(iH (b+l+a) fs roles).length
  ·have hlt':(j:Int)<((iH (b+l+a) fs roles).length:Int):=(by omega);obtain⟨x,hjx⟩: ∃r,(iH (b+l+a) fs roles)[j]? =some r:=⟨_,az hlt⟩
   obtain⟨_,_,e1,_,hall⟩:=HRA0.o;cases e1;obtain⟨gx,ox,hpe,cx⟩:=hall j _ hjx;subst hpe;obtain⟨hx0,hx1⟩:=JY (aM hjx);have hS:=sW (f:=BP l b a roles fs) hjx;have HX:=bK (hX.o.trans hS);have HRr:=bK (HR.o.below HBr.o);have HFr:=bK (HF.o.below HBr.o);have n2:=ai HBr.o nA;have y1:=ak 1 n2;have y3:=ak 3 n2;have hwx:IntKind.i64.wrap (x+(b+l+a))=x+(b+l+a):=(by rw[bG];omega);rw[show BP l b a roles fs x=(lF (kQ (okP fs x (x+(b+l+a))) roles) roles.length []).map fun who=>(x+b,who) from rfl]at HX;clear hall hS hX hjx;go_wp2_with fail;refine dn (fun M φ W=>aq wr W/\(M 9=true->fk W (φ 29) (kQ (okP fs x (x+(b+l+a))) roles))/\(M 10=true->φ 9=φ 29)) [kn 20 (ab w.heap.size 3),kn 21 (.slice pr roles.length cr),kn 22 (.slice pf fs.length cf),kn 23 (ag x),kn 24 (ag x),kn 25 (.agg #[ag l,ag b,ag a,.slice pr roles.length cr]),kn 26 (ag (b+l+a)),kn 27 (ag (x+(b+l+a))),kn 28 (.agg #[ag x,ag (x+(b+l+a))]),td 29,td 9] (fun _=>⟨(aI _ _).drew,(fun h=>by cases h),(fun h=>by cases h)⟩) (fun _ _ _ _ hb h=>⟨aw h.1 hb,fun e=>(h.2.1 e).below hb,h.2.2⟩) (by kernel_rfl) (fun M φ W2 hJ hcl FF ll hll hFF=> ?_) (fun M φ W2 hM hJ=> ?_)
   ·simp only[kn,td,dX,aR,aX,Act.put,aA,aK,aJ]at hll;subst hll;simp only[dc,Nat.reduceAdd]at hFF;obtain⟨hJ,hJ2,_⟩:=hJ;have zz:=aj hJ y3;dsimp only[kn,td,dC,eJ,eg,Act.put];and_intros;all_goals first|exact trivial|intro qw qn qm K hK
    all_goals try (go_simp;with_reducible exact hK _ _ ⟨rfl,aI _ _⟩)
    ·refine eo 41 _ rfl _ (by simp[Act.eval,hFF]) _ _ _ _ (ai hJ n2) DF rfl (by kernel_rfl) ?_;exact hK _ _ ⟨rfl,aI _ _⟩
    ·go_simp;refine(tH l b a _ W2 (.inl HME.o)).mono ?_;rintro r' W' ⟨rfl,hb'⟩;exact hK _ _ ⟨rfl,hb'⟩
    ·have q10:=qn 10 _ rfl (by kernel_rfl);go_simp;refine(Au roles _ fs _ x (x+(b+l+a)) W2 (HRr.o.below hJ) (HFr.o.below hJ) HIN2.o (by omega)).mono ?_;rintro r' W' ⟨q,rfl,hrow,hb'⟩;exact hK _ _ ⟨trivial,aw hJ hb',fun _=>by rw[dD];exact hrow,(fun h=>by simp[q10]at h)⟩
    ·go_simp;exact hK _ _ ⟨trivial,hJ,fun h=>by rw[cQ (by decide)];exact hJ2 (by simpa using h),fun _=>by rw[dD,cQ (by decide)]⟩
   ·obtain⟨hJ,hrow29,e9⟩:=hJ;replace hrow29:=hrow29 (hM 9 (by decide) rfl);replace e9:=e9 (hM 10 (by decide) rfl);simp only[kn,td,en,aR,aX,Act.put,aA,aK,aJ];rw[e9];generalize φ 29=q29 at*;clear hM e9;have HB2:=bK (aw HBr.o hJ);have HRA:=bK (HRA0.o.below hJ);have hfl:(kQ (okP fs x (x+(b+l+a))) roles).length=roles.length:=(by unfold kQ;rw[ba]);have c1:=JU (kQ (okP fs x (x+(b+l+a))) roles) q29 W2 hrow29 (by rw[hfl];omega) roles.length [] (af) W2 (by rw[hfl];simp) (aI _ _) (cY _ _ _ _);have y32:=aj hJ y3;have y12:=aj hJ y1;clear hrow29 hJ hfl;go_wp2_with fail;refine c1.mono ?_;rintro e w3 ⟨hg,⟨who,v',hw,rfl,ho⟩|⟨hw,rfl,_⟩⟩
    ·have HX2:PH (mo l b a roles fs=some (x+b,who)):=by
      show _=_;rw[HX.o,hw];rfl
     have b3:aq W2 w3:=gY (aI _ _) hg (aB _) (fun k hk=>by cases hk);have HRw:=bK (qz ho (bf HB.o.size HB2.o.size));have y13:=aj b3 y12;have HB3:=bK (HB.o.trans ((aw HB2.o b3).mono HB.o.size));have hwb:IntKind.i64.wrap (x+b)=x+b:=(by rw[bG];omega);clear c1 hg ho hw b3;go_wp2_with fail;go_ret3;exact .inl ⟨x+b,who,v',HX2.o,rfl,HRw.o,HB3.o⟩
    ·have HX2:PH (mo l b a roles fs=((iH (b+l+a) fs roles).drop (j+1)).findSome? (BP l b a roles fs)):=by
      show _=_;rw[HX.o,hw];rfl
     have b3:aq W2 w3:=gY (aI _ _) hg (aB _) (fun k hk=>by cases hk);have HB3:=bK (aw HB2.o b3);have HRA3:=bK (HRA.o.below b3);clear c1 hg hw b3;go_wp2_with fail;go_roundw;case rel=>exact⟨j+1,by go_num,by omega,HX2,HB3,HRA3⟩
     case measure=>simp[intOf];omega
  ·have hlt': ¬(j:Int)<((iH (b+l+a) fs roles).length:Int):=(by omega)
   have HX:PH (mo l b a roles fs=none):=by
    show _=_;rw[hX.o,df (by omega)];rfl
   have HB3:=bK (aw HB.o HBr.o);clear hX;go_wp2_with fail;go_ret3;exact .inr ⟨HX.o,rfl,HB3.o⟩
def uJ (w:World)(v:Value)(ds:List (List (Nat->Bool))):Prop:= ∃p c,v= .slice p ds.length c/\ds.length<9223372036854775808/\ ∀(j:Nat) (fs:List (Nat->Bool)),ds[j]? =some fs-> ∃(g o:Nat) (sv:Value),p=some ⟨g,o,none⟩/\w.cell? (ae g (o+j))=some sv/\sA w sv fs
theorem uJ.below {w w':World}{v:Value}{ds:List (List (Nat->Bool))}(h:uJ w v ds)(hb:aq w w'):uJ w' v ds:=by
 obtain⟨p,c,h1,h2,h3⟩:=h;refine⟨p,c,h1,h2,fun j l hj=> ?_⟩;obtain⟨g,o,sv,e,hc,hr⟩:=h3 j l hj;exact⟨g,o,sv,e,aj hb hc,hr.below hb⟩
def lG (s:Sv):List (List (Nat->Bool))->Int
 |[]=>0
 |d::l=>if fq s d.length≠0 then fq s d.length else lG s l
def lH (s:Sv):List (List (Nat->Bool))->Nat->Option (Nat×Int×List Int)
 |[],_=>none
 |d::l,n=>match mo s.len s.bef s.aft s.roles d with
  |some x=>some (n,x.1,x.2)
  |none=>lH s l (n+1)
structure Sl where
 err:Int
 day:Int
 min:Int
 who:List Int
def gO (s:Sv)(ds:List (List (Nat->Bool))):Sl:=if 30<ds.length then⟨5,0,0,[]⟩ else if lG s ds≠0 then⟨lG s ds,0,0,[]⟩ else match lH s ds 0 with
 |some x=>⟨0,(x.1:Int),x.2.1,x.2.2⟩
 |none=>⟨11,0,0,[]⟩
def E6 (r:Sl)(w:World)(e:Ending)(w':World):Prop:= ∃v,e= .returned (.tuple #[.agg #[ag r.day,ag r.min,v],ag r.err])/\w'.ownsRow w.heap.size 3 1 v r.who.length (dp r.who)/\aq w w'
theorem E7 {s:Sv}{l:List (List (Nat->Bool))}{j:Nat}{d:List (Nat->Bool)}(h:l[j]? =some d):lG s (l.drop j)=if fq s d.length≠0 then fq s d.length else lG s (l.drop (j+1)):=by
 obtain⟨h1,h2⟩:=aF.1 h;rw[bv h1,h2];rfl
theorem E8 {s:Sv}{l:List (List (Nat->Bool))}{j:Nat}{d:List (Nat->Bool)}(n:Nat)(h:l[j]? =some d):lH s (l.drop j) n=match mo s.len s.bef s.aft s.roles d with
  |some x=>some (n,x.1,x.2)
  |none=>lH s (l.drop (j+1)) (n+1):=by
 obtain⟨h1,h2⟩:=aF.1 h;rw[bv h1,h2];rfl
theorem BQ {s:Sv}: ∀{l:List (List (Nat->Bool))},lG s l=0-> ∀d∈l,fq s d.length=0
 |[],_,d,hd=>by cases hd
 |x::l,h,d,hd=>by
  by_cases hx:fq s x.length=0
  ·rw[lG,ax (by simpa using hx)]at h;rcases bz.1 hd with rfl|hd
   ·exact hx
   ·exact BQ h d hd
  ·rw[lG,aD hx]at h;exact absurd h hx
theorem BR {p:List Int}{n:Int}: ∀(m i:Nat),ng p n m i=0-> ∀j,i<=j->j<i+m->(0<=p.getD j 0/\p.getD j 0<n)/\(0<j->p.getD (j-1) 0<p.getD j 0)
 |0,i,_,j,h1,h2=>by omega
 |m+1,i,h,j,h1,h2=>by
  rw[ng]at h;by_cases c1:p.getD i 0<0\/n<=p.getD i 0
  ·rw[aD c1]at h;cases h
  ·rw[ax c1]at h;by_cases c2:0<i/\p.getD i 0<=p.getD (i-1) 0
   ·rw[aD c2]at h;cases h
   ·rw[ax c2]at h;by_cases e:j=i
    ·subst e;exact⟨by omega,fun h0=>by omega⟩
    ·exact BR m (i+1) h j (by omega) (by omega)
structure xD (p:List Int)(n:Int):Prop where
 len1:1<=p.length
 len8:p.length<=8
 bd: ∀r∈p,0<=r/\r<n
 up:p.Pairwise (· < ·)
theorem L2 {p:List Int}{n:Int}(h:iL p n=0):xD p n:=by
 unfold iL at h;by_cases hl:p.length<1\/8<p.length
 ·rw[aD hl]at h;cases h
 ·rw[ax hl]at h;have hk:=BR p.length 0 h;refine⟨by omega,by omega,fun r hr=> ?_,?_⟩
  ·obtain⟨j,hj,rfl⟩:=List.getElem_of_mem hr;have:=(hk j (by omega) (by omega)).1;simpa[List.getD,az hj] using this
  ·have step: ∀d j:Nat,j+d+1<p.length->p.getD j 0<p.getD (j+d+1) 0:=by
    intro d;induction d with
    |zero=>
     intro j hj;have:=(hk (j+1) (by omega) (by omega)).2 (by omega);simpa using this
    |succ d ih=>
     intro j hj;have h1:=ih j (by omega);have h2:=(hk (j+d+1+1) (by omega) (by omega)).2 (by omega);rw[show j+d+1+1-1=j+d+1 by omega]at h2;rw[show j+(d+1)+1=j+d+1+1 by omega];omega
   rw[List.pairwise_iff_getElem];intro i j hi hj hij;have:=step (j-i-1) i (by omega);rw[show i+(j-i-1)+1=j by omega]at this;simpa[List.getD,az hi,az hj] using this
theorem zP {n:Int}: ∀{l:List (List Int)},kI n l=0-> ∀p∈l,xD p n
 |[],_,p,hp=>by cases hp
 |x::l,h,p,hp=>by
  by_cases hx:iL x n=0
  ·rw[kI,ax (by simpa using hx)]at h;rcases bz.1 hp with rfl|hp
   ·exact L2 hx
   ·exact zP h p hp
  ·rw[kI,aD hx]at h;exact absurd h hx
structure Pn (s:Sv)(n:Int):Prop where
 meas:kH s.len s.bef s.aft=true
 r1:1<=s.roles.length
 r4:s.roles.length<=4
 pool: ∀p∈s.roles,xD p n
theorem vT {s:Sv}{n:Int}(h:fq s n=0):Pn s n:=by
 unfold fq at h;by_cases h1:kH s.len s.bef s.aft=false
 ·rw[aD h1]at h;cases h
 ·rw[ax h1]at h;by_cases h2:s.roles.length<1\/4<s.roles.length
  ·rw[aD h2]at h;cases h
  ·rw[ax h2]at h;exact⟨by simpa using h1,by omega,by omega,zP h⟩
theorem JZ {w:World}{B:Nat}{e:TypeId}{n:Nat}{v:Value}{xs:List Value}{size:Nat}(h:w.ownsRow B e size v n xs){g:Nat}(hg:g<B)(X:Array Value):(w.setRow g X).ownsRow B e size v n xs:=
 h.kept (row:=some g) ⟨rfl,rfl,rfl,by simp,fun k _ hk=>aV w g k _ (fun e=>hk (by rw[e]))⟩ (by
  cases hz:v.ownBlock with
  |none=>exact .inl rfl
  |some q=>
   refine .inr fun e=> ?_;cases e;have:=(h.lt g hz).1;omega)
theorem J1:prog.underlying 36=some (.struct (prog.fieldsOf 36)):=by kernel_rfl
theorem qO {R:Ending->World->Prop}{a:Act}{w:World}(g:Nat)(d m:Int)(v:Value)(er:Int)(hd:a.defers=[])(h4:a.tmps.getD 4 undef=ab g 0)(h5:a.tmps.getD 5 undef=ag er)
  (hg:w.heap[g]? =ah #[ag d,ag m,v] 36) (hR:R (.returned (.tuple #[.agg #[ag d,ag m,v],ag er])) w):bodyPost prog f32 R .ret a w:=by
 refine aW (v:= .tuple #[.agg #[ag d,ag m,v],ag er]) ?_ hd hR;have h4':a.tmps[4]?.getD undef=ab g 0:=by simpa using h4
 have h5':a.tmps[5]?.getD undef=ag er:=by simpa using h5
 have hv:=dV (P:=prog) w g 36 36 _ _ _ hg J1 rfl (by kernel_rfl);simp[results,results32,h4',h5',asAddr,hv]
theorem Hj (s:Sv)(rv:Value)(ds:List (List (Nat->Bool)))(dv:Value)(w:World)(hT:Tab w)(hR:fk w rv s.roles)(hD:uJ w dv ds):
  Calls prog 32 #[svV s rv,dv] w (E6 (gO s ds) w):=by
 obtain⟨l,b,a,roles⟩:=s;dsimp only at hR;unfold svV;dsimp only;obtain⟨pr,cr,rfl,hlr,hallr0⟩:=id hR;have bA:aq w ((w.alloc (.cells #[ag l,ag b,ag a,.slice pr roles.length cr] 41)).alloc (.cells #[ag 0,ag 0,af] 36)):=(am _ _).alloc (by simp) _;have nA:((w.alloc (.cells #[ag l,ag b,ag a,.slice pr roles.length cr] 41)).alloc (.cells #[ag 0,ag 0,af] 36)).heap[w.heap.size]? =ah #[ag l,ag b,ag a,.slice pr roles.length cr] 41:=by(repeat (first|refine dj _ _ _ (by simp only[aU];omega) ?_|exact dz _ _ _ (by first|rfl|simp only[aU])))
 have nS:((w.alloc (.cells #[ag l,ag b,ag a,.slice pr roles.length cr] 41)).alloc (.cells #[ag 0,ag 0,af] 36)).heap[w.heap.size+1]? =ah #[ag 0,ag 0,af] 36:=by(repeat (first|refine dj _ _ _ (by simp only[aU];omega) ?_|exact dz _ _ _ (by first|rfl|simp only[aU])))
 generalize hwA:(w.alloc (.cells #[ag l,ag b,ag a,.slice pr roles.length cr] 41)).alloc (.cells #[ag 0,ag 0,af] 36)=wA at*;have HR:=bK (hR.below bA);have HD:=bK (hD.below bA);have HT:=bK (kK hT bA);have HB:=bK bA;obtain⟨pd,cd,rfl,hld,_⟩:=hD
 have HRet:PH (∀(W:World) (er:Int),aq wA W->W.heap[w.heap.size+1]? =ah #[ag 0,ag 0,af] 36->gO ⟨l,b,a,roles⟩ ds=⟨er,0,0,[]⟩->(W.setRow (w.heap.size+1) #[ag 0,ag 0,af]).heap[w.heap.size+1]? =ah #[ag 0,ag 0,af] 36/\E6 (gO ⟨l,b,a,roles⟩ ds) w (.returned (.tuple #[.agg #[ag 0,ag 0,af],ag er])) (W.setRow (w.heap.size+1) #[ag 0,ag 0,af])):=fun W er hW hs he=>by
  rw[he];exact⟨aL _ _ _ _ _ _ hs,_,rfl,cY _ _ _ _,below_setRow (aw HB.o hW) (by omega) _⟩
 by_cases h30:30<(ds.length:Int)
 ·have HX:PH (gO ⟨l,b,a,roles⟩ ds=⟨5,0,0,[]⟩):=by
   show _=_;unfold gO;rw[aD (by omega)]
  have HQ:=bK (HRet.o wA 5 (aI _ _) nS HX.o);go_enter func32,ntmps32
  go_wp2_with(first
   |(refine ay rfl 36 _ _ rfl _ _ rfl rfl _ _ nS (by kernel_rfl) (by simp) (by simp[Value.oneCell']) ?_))
  exact qO (w.heap.size+1) 0 0 (af) 5 rfl rfl rfl HQ.o.1 HQ.o.2
 have HE:PH (gO ⟨l,b,a,roles⟩ ds=if lG ⟨l,b,a,roles⟩ ds≠0 then⟨lG ⟨l,b,a,roles⟩ ds,0,0,[]⟩ else match lH ⟨l,b,a,roles⟩ ds 0 with
   |some x=>⟨0,(x.1:Int),x.2.1,x.2.2⟩
   |none=>⟨11,0,0,[]⟩):=by
  show _=_;unfold gO;rw[ax (by omega)]
 go_enter func32,ntmps32
 go_wp2_with fail;go_loopw [20] (fun t wr=> ∃j:Nat,t=ag (j:Int)/\j<=ds.length/\PH (lG ⟨l,b,a,roles⟩ ds=lG ⟨l,b,a,roles⟩ (ds.drop j))/\PH (aq wA wr)) (fun t _=>ds.length-(intOf t).toNat);case atStart=>exact⟨0,rfl,by omega,rfl,aI _ _⟩
 case round=>
  obtain⟨j,rfl,hj,hX,HBr⟩:=hrel;have hj0:(0:Int)<=(j:Int):=(by omega);by_cases hlt:j<ds.length
  ·have hlt':(j:Int)<(ds.length:Int):=(by omega);obtain⟨fs,hjf⟩: ∃r,ds[j]? =some r:=⟨_,az hlt⟩
   obtain⟨_,_,e1,_,hall⟩:=HD.o.below HBr.o;cases e1;obtain⟨gd0,od0,sv,hpe,cx,hrow⟩:=hall j _ hjf;subst hpe;obtain⟨pf,cf,rfl,hlf,_⟩:=hrow;have n2:=ai HBr.o nA;have y0:=ak 0 n2;have y1:=ak 1 n2;have y2:=ak 2 n2;have y3:=ak 3 n2;have c1:=xz ⟨l,b,a,roles⟩ _ (fs.length:Int) wr (HR.o.below HBr.o);unfold svV at c1;dsimp only at c1;have hS:=E7 (s:=⟨l,b,a,roles⟩) hjf;obtain⟨er,her⟩:=au (fq ⟨l,b,a,roles⟩ (fs.length:Int));rw[her]at c1 hS;have nS0:=ai HBr.o nS;by_cases hz:er=0
   ·subst hz;rw[ax (by simp)]at hS;have HX2:=bK (hX.o.trans hS);go_wp2_with fail;refine c1.mono ?_;rintro e w2 ⟨rfl,b2⟩;have HB2:=bK (aw HBr.o b2);go_wp2_with fail;go_roundw;case rel=>exact⟨j+1,by go_num,by omega,HX2,HB2⟩
    case measure=>simp[intOf];omega
   ·rw[aD hz]at hS;have hz':(er==0)=false:=bj.2 hz;have HX2:=bK (hX.o.trans hS);go_wp2_with fail;refine c1.mono ?_;rintro e w2 ⟨rfl,b2⟩;have nS2:=ai b2 nS0;have HQ:=bK (HRet.o w2 er (aw HBr.o b2) nS2 (HE.o.trans (by rw[HX2.o];exact aD hz)))
    go_wp2_with(first
     |(refine ay rfl 36 _ _ rfl _ _ rfl rfl _ _ nS2 (by kernel_rfl) (by simp) (by simp[Value.oneCell']) ?_))
    exact qO (w.heap.size+1) 0 0 (af) er rfl rfl rfl HQ.o.1 HQ.o.2
  ·have hlt': ¬(j:Int)<(ds.length:Int):=(by omega)
   have HZ:PH (lG ⟨l,b,a,roles⟩ ds=0):=by
    show _=_;rw[hX.o,df (by omega)];rfl
   have HOK:=bK (BQ HZ.o);have HE2:=bK (HE.o.trans (ax (by rw[HZ.o];simp)));go_wp2_with fail;go_loopw [35] (fun t W=> ∃k:Nat,t=ag (k:Int)/\k<=ds.length/\PH (lH ⟨l,b,a,roles⟩ ds 0=lH ⟨l,b,a,roles⟩ (ds.drop k) k)/\PH (aq wA W)) (fun t _=>ds.length-(intOf t).toNat);case atStart=>exact⟨0,rfl,by omega,rfl,HBr⟩
   case round=>
    obtain⟨k,rfl,hk,hX,HBk⟩:=hrel;have hk0:(0:Int)<=(k:Int):=(by omega);by_cases hltk:k<ds.length
    ·have hltk':(k:Int)<(ds.length:Int):=(by omega);obtain⟨fs,hjf⟩: ∃r,ds[k]? =some r:=⟨_,az hltk⟩
     obtain⟨_,_,e1,_,hall⟩:=HD.o.below HBk.o;cases e1;obtain⟨gd0,od0,sv,hpe,cx,hrow⟩:=hall k _ hjf;subst hpe;have hok:=vT (HOK.o fs (aM hjf));have c1:=CX l b a roles _ fs sv wr (kK HT.o HBk.o) (HR.o.below HBk.o) hrow (fun p hp=>⟨(hok.pool p hp).len8,(hok.pool p hp).bd⟩) hok.r4 hok.meas;obtain⟨pf,cf,rfl,hlf,_⟩:=hrow;have n2:=ai HBk.o nA;have y0:=ak 0 n2;have y1:=ak 1 n2;have y2:=ak 2 n2;have y3:=ak 3 n2;have hS:=E8 (s:=⟨l,b,a,roles⟩) k hjf;dsimp only at hS;have HX:=bK (hX.o.trans hS);have nS0:=ai HBk.o nS;go_wp2_with fail;refine c1.mono ?_;rintro e w2 (⟨m,who,v,hf,rfl,hrw,b2⟩|⟨hf,rfl,b2⟩)
     ·have nS2:=ai b2 nS0
      have HXX:PH (gO ⟨l,b,a,roles⟩ ds=⟨0,(k:Int),m,who⟩):=by
       show _=_;rw[HE2.o,HX.o,hf]
      have hgl:w.heap.size+1<wA.heap.size:=aH nS
      have HQ:PH ((w2.setRow (w.heap.size+1) #[ag (k:Int),ag m,v]).heap[w.heap.size+1]? =ah #[ag (k:Int),ag m,v] 36/\E6 (gO ⟨l,b,a,roles⟩ ds) w (.returned (.tuple #[.agg #[ag (k:Int),ag m,v],ag 0])) (w2.setRow (w.heap.size+1) #[ag (k:Int),ag m,v])):=by
       rw[HXX.o];refine⟨aL _ _ _ _ _ _ nS2,v,rfl,?_,below_setRow (HB.o.trans ((aw HBk.o b2).mono HB.o.size)) (by omega) _⟩;exact qz (JZ hrw (aT hgl HBk.o.size) _) (bf HB.o.size HBk.o.size)
      obtain⟨pw,cw,rfl⟩:=nh hrw
      go_wp2_with(first
       |(refine ay rfl 36 _ _ rfl _ _ rfl rfl _ _ nS2 (by kernel_rfl) (by simp) (by simp[Value.oneCell']) ?_))
      exact qO (w.heap.size+1) (k:Int) m _ 0 rfl rfl rfl HQ.o.1 HQ.o.2
     ·have HX2:PH (lH ⟨l,b,a,roles⟩ ds 0=lH ⟨l,b,a,roles⟩ (ds.drop (k+1)) (k+1)):=by
       show _=_;rw[HX.o,hf]
      have HB2:=bK (aw HBk.o b2);go_wp2_with fail;go_roundw;case rel=>exact⟨k+1,by go_num,by omega,HX2,HB2⟩
      case measure=>simp[intOf];omega
    ·have hltk': ¬(k:Int)<(ds.length:Int):=(by omega)
     have HXX:PH (gO ⟨l,b,a,roles⟩ ds=⟨11,0,0,[]⟩):=by
      show _=_;rw[HE2.o,hX.o,df (by omega)];rfl
     have nS0:=ai HBk.o nS;have HQ:=bK (HRet.o wr 11 HBk.o nS0 HXX.o)
     go_wp2_with(first
      |(refine ay rfl 36 _ _ rfl _ _ rfl rfl _ _ nS0 (by kernel_rfl) (by simp) (by simp[Value.oneCell']) ?_))
     exact qO (w.heap.size+1) 0 0 (af) 11 rfl rfl rfl HQ.o.1 HQ.o.2
end Go.Proofs.YtkfidffapdhbhaaGreatDoor
