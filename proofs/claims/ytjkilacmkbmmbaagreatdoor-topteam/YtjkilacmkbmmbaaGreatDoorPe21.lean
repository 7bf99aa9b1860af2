/- Texts of the proof. -/
import Derived.Test.YtjkilacmkbmmbaaGreatDoorPe12
import Derived.Test.YtjkilacmkbmmbaaGreatDoorPe20
import Derived.Sort.OwnSortedInts
set_option maxRecDepth 100000
set_option maxHeartbeats 8000000
namespace Go.Proofs.YtjkilacmkbmmbaaGreatDoor
open Go.Proofs.Tryz Go.RowKit Lx Vx Mx Msk
theorem zQ (l:List Int):c8 l=l.map (Value.int .i64):=rfl
theorem Kb {w:World}{B:Nat}{v:Value}{zs:List Int}(h:w.ownsRow B 3 1 v zs.length (c8 zs))(hl:zs.length<=1000000):
  Calls prog 189 #[v] w fun e w'=>e= .returned (.tuple #[])/\w'.ownsRow B 3 1 v zs.length (c8 (zs.mergeSort fun x y=>decide (x<=y)))/\w.grownBy w' v.ownBlock:=by
 rcases h.2 with⟨rfl,e⟩|⟨g,cap,cur,rfl,hb,hg,hn,hm,hs,ht⟩
 ·have hz:zs=[]:=fp e;subst hz;refine(Hq none 0 w).mono fun e w' ⟨he,hw⟩=>⟨he,by rw[hw,List.mergeSort_nil];exact bV _ _ _ _,by rw[hw];exact jb _ _⟩
 ·rw[Nat.mul_one]at ht;have hH:=Go.holds_of_blockI (ss:=zs) hg ht;refine(Hp g 0 cap zs w hH (aF hg) (by omega)).mono fun e w' ⟨he,n,os,hw⟩=>⟨he,?_,?_⟩
  ·rw[hw,zQ];exact Go.ownsRow_sortedI (List.length_mergeSort zs) hb hg hn hm hs
  ·rw[hw];exact Go.grownBy_sortedI _
theorem xD (zs:List Int):(Go.Lib.compact zs).length<=zs.length:=by
 unfold Go.Lib.compact Go.Lib.compactUpTo;rw[aZ];refine a6 (List.length_filter_le _ _) ?_;simp
theorem C5 {w:World}{B:Nat}{v:Value}{zs:List Int}(h:w.ownsRow B 3 1 v zs.length (c8 zs))(hl:zs.length<=1000000):
  Calls prog 190 #[v] w fun e w'=> ∃v',e= .returned v'/\w'.ownsRow B 3 1 v' (Go.Lib.compact zs).length (c8 (Go.Lib.compact zs))/\w.grownBy w' v.ownBlock:=by
 rcases h.2 with⟨rfl,e⟩|⟨g,cap,cur,rfl,hb,hg,hn,hm,hs,ht⟩
 ·have hz:zs=[]:=fp e;subst hz;refine(BU none 0 w).mono fun e w' ⟨he,hw⟩=>⟨_,he,by rw[hw];exact bV _ _ _ _,by rw[hw];exact jb _ _⟩
 ·rw[Nat.mul_one]at ht;have hH:=Go.holds_of_blockI (ss:=zs) hg ht;have hcl:=xD zs;refine(BT g 0 cap zs w hH (by omega) hn).mono fun e w' ⟨he,q,hw⟩=>⟨_,he,?_,?_⟩
  ·have hl2:(Go.Lib.compact zs++List.replicate (zs.length-(Go.Lib.compact zs).length) (0:Int)).length=zs.length:=(by simp;omega);have h2:=Go.ownsRow_sortedI (n:=q) (os:= #[]) hl2 hb hg hn hm hs;rw[Go.Sort.grow_empty,<-hw]at h2;refine⟨by rw[kb];simp,.inr ?_⟩;rcases h2.2 with⟨e,_⟩|⟨g',cap',cur',e,hb',hg',hn',hm',hs',ht'⟩
   ·cases e
   ·injection e with e1 _ e3;injection e1 with e1;injection e1 with e1;subst e1 e3;refine⟨g,cap,cur',rfl,hb',hg',by omega,hm',hs',?_⟩;have h3:=congrArg (List.take (Go.Lib.compact zs).length) ht';rw[List.take_take,Nat.mul_one,fC hcl,dh,List.take_append_of_le_length (by simp)]at h3;rw[Nat.mul_one,h3,zQ];exact cj (by simp)
  ·rw[hw,<-Go.Sort.grow_empty (Go.Sort.putRow _ _ _ _ _)];exact Go.grownBy_sortedI _
theorem DP:prog.underlying 35=some (.struct (prog.fieldsOf 35)):=by kernel_rfl
theorem AH {ops:Array Oper}{rest:List Oper}{o:Oper}{a:Act}{w:World}{Q:Exit->Act->World->Prop}(hgd:o.guard=none)(x:Operand)(ho:o.op= .load 61 x)(b q:Nat)(hx:a.eval x=ab b q)(f:Nat->Bool)(hc:w.rangeAt b q (mv f).toList)(h:wpList prog ops Q rest (a.put o.dst (.agg (mv f))) w):wpList prog ops Q (o::rest) a w:=
 wpList_plain hgd fun _ hK=>zL x ho b q hx f hc (hK _ _ h)
theorem zS {w:World}{v:Value}{l:List (Int×Int)}(h:Row w v l): ∃(q:Option Addr) (c:Nat),v= .slice q l.length c/\l.length<9223372036854775808/\ ∀j s,l[j]? =some s-> ∃g o:Nat,q=some ⟨g,o,none⟩/\w.cell? (ae g (o+j*2))=some (ag s.1)/\w.cell? (ae g (o+j*2+1))=some (ag s.2):=by
 rcases h with⟨c,rfl,rfl⟩|⟨g,o,c,rfl,hl,hc⟩
 ·exact⟨none,c,rfl,by simp,fun j s hj=>by simp at hj⟩
 ·refine⟨_,c,rfl,hl,fun j s hj=>⟨g,o,rfl,?_⟩⟩;have:=hc j (aE.1 hj).1;rwa[show l.getD j (0,0)=s by simp[List.getD,hj]]at this
theorem pM {n:Int}: ∀{l:List (Int×Int)} {last:Int},good last n l-> ∀s∈l,last<s.1/\s.1<s.2/\s.2<=n
 |[],_,_,s,hs=>by cases hs
 |t::l,last,h,s,hs=>by
  obtain⟨h1,h2,h3,h4⟩:=h;rcases bh.1 hs with rfl|hs
  ·exact⟨h1,h2,h3⟩
  ·obtain⟨q1,q2,q3⟩:=pM h4 s hs;exact⟨by omega,q2,q3⟩
theorem Fc (l b a:Int)(roles:List (List Int))(rv:Value)(fs:List (Nat->Bool))(fv:Value)(w:World)(hT:Tab w)(hR:fo w rv roles)(hF:sx w fv fs)(hin: ∀p∈roles,p.length<=8/\ ∀r∈p,0<=r/\r<(fs.length:Int))(hrl:roles.length<=4)(hme:iY l b a=true):
  Calls prog 162 #[.agg #[ag l,ag b,ag a,rv],fv] w fun e w'=> ∃v,e= .returned v/\dQ w' v (gz (b+l+a) fs roles)/\ao w w':=by
 obtain⟨pr,cr,rfl,hlr,hallr0⟩:=id hR;clear hallr0;have bA:=am w (.cells #[ag l,ag b,ag a,.slice pr roles.length cr] 35);have nA:=aC w (.cells #[ag l,ag b,ag a,.slice pr roles.length cr] 35);generalize hwA:w.alloc (.cells #[ag l,ag b,ag a,.slice pr roles.length cr] 35)=wA at*;have HR:=bL (hR.below bA);have HF:=bL (hF.below bA);have HT:=bL (kh hT bA);have HB:=bL bA;have HIN:=bL hin;have HME:=bL hme;have z3:=ak 3 nA;obtain⟨pf,cf,rfl,hlf,_⟩:=hF;clear bA hin hR hme;go_enter func162,ntmps162
 go_wp2_with fail;go_loopw [5,15] (fun q t wr=> ∃(j:Nat) (A:List Int) (qa:Option Addr) (ca:Nat),q= .slice qa A.length ca/\t=ag (j:Int)/\j<=roles.length/\P3 (A=(roles.take j).flatMap (xz (b+l+a) fs))/\A.length<=j*11520/\P3 (wr.ownsRow wA.heap.size 3 1 (.slice qa A.length ca) A.length (c8 A))/\P3 (ao wA wr)) (fun _ t _=>roles.length-(intOf t).toNat);case atStart=>exact⟨0,[],none,0,rfl,rfl,by omega,rfl,by simp,bV _ _ _ _,aG _ _⟩
 case round=>
  obtain⟨j,A,qa,ca,rfl,rfl,hj,HAe,hAl,HO,HBr⟩:=hrel;have hj0:(0:Int)<=(j:Int):=(by omega);by_cases hlt:j<roles.length
  ·have hlt':(j:Int)<(roles.length:Int):=(by omega);obtain⟨role,hjr⟩: ∃r,roles[j]? =some r:=⟨roles[j],ax hlt⟩
   obtain⟨_,_,e1,_,hall⟩:=HR.o;cases e1;obtain⟨gr,or,sv,hpe,hc0,hrow0⟩:=hall j _ hjr;subst hpe;have hc:=aj HBr.o hc0;obtain⟨ar,ac,rfl,hlrole,hcells⟩:=hrow0;have HC:=bL hcells;have HJR:=bL hjr;have HIR:=bL (HIN.o role (aM hjr));have hrole:role.length<=8:=HIR.o.1;clear hall hc0 hcells hjr;go_wp2_with fail;go_loopw [5,21] (fun q t W=> ∃(i:Nat) (A2:List Int) (qb:Option Addr) (cb:Nat),q= .slice qb A2.length cb/\t=ag (i:Int)/\i<=role.length/\P3 (A2=A++(role.take i).flatMap fun r=>tD (b+l+a) (fs.getD r.toNat fun _=>false))/\A2.length<=j*11520+i*1440/\P3 (W.ownsRow wA.heap.size 3 1 (.slice qb A2.length cb) A2.length (c8 A2))/\P3 (ao wA W)) (fun _ t _=>role.length-(intOf t).toNat);case atStart=>exact⟨0,A,qa,ca,rfl,rfl,by omega,by show _=_;simp,by omega,HO,HBr⟩
   case round=>
    obtain⟨i,A2,qb,cb,rfl,rfl,hi,HAe2,hAl2,HO2,HB2⟩:=hrel;have hi0:(0:Int)<=(i:Int):=(by omega);by_cases hlti:i<role.length
    ·have hlti':(i:Int)<(role.length:Int):=(by omega);obtain⟨r,hir⟩: ∃r,role[i]? =some r:=⟨role[i],ax hlti⟩
     obtain⟨h1,h2⟩:=HIR.o.2 r (aM hir);obtain⟨rn,hrn⟩: ∃rn:Nat,r=(rn:Int):=⟨r.toNat,by omega⟩
     subst hrn;obtain⟨f,hf⟩: ∃f,fs[rn]? =some f:=⟨fs[rn]'(by omega),ax (by omega)⟩
     obtain⟨ga,oa,hpa,ca0⟩:=HC.o i _ hir;subst hpa;have ca1:=aj HB2.o ca0;obtain⟨_,_,e3,_,hallf⟩:=HF.o;cases e3;obtain⟨gf,of,hpf,rgf0⟩:=hallf rn f hf;subst hpf;have rgf:=it rgf0 HB2.o;have HIRi:=bL hir;have c1:=zO f wr (kh HT.o HB2.o);have hfg:fs.getD rn (fun _=>false)=f:=(by simp[List.getD,hf]);have HFG:=bL hfg;clear hallf rgf0 ca0 hf h1 hir hfg
     go_wp2_with(first
      |(refine AH rfl _ rfl gf (of+rn*23) rfl f rgf ?_))
     refine c1.mono ?_;rintro e w4 ⟨⟨vs,rfl,hownS⟩,hruns,b4⟩;have hrowS:=vk hownS (by have:=hruns.few;omega)
     have HOS:P3 (∀W:World,w4.grownBy W (Value.slice qb A2.length cb).ownBlock->W.ownsRow wr.heap.size 143 2 vs (rs f 1440).length (iG (rs f 1440))):=fun W hW=>hownS.kept hW (by
      cases hz:vs.ownBlock with
      |none=>exact .inl rfl
      |some q=>
       refine .inr fun e=> ?_;have h1:=(hownS.lt q hz).1;have h2:=(HO2.o.lt q e.symm).2;omega)
     have HO4:=bL (gT HO2.o b4);have HB4:=bL (au HB2.o b4);obtain⟨qs,cs,rfl,hlS,_⟩:=zS hrowS;have HG:=bL (pM hruns.good);have hfew:(rs f 1440).length<=1440:=hruns.few;have hN:(rs f 1440).length<9223372036854775808:=hlS;clear c1 b4 hrowS hownS hruns rgf ca1 HO2 HB2;go_wp2_with fail;go_loopw [5,31] (fun q t W=> ∃(k:Nat) (C:List Int) (qc:Option Addr) (cc:Nat),q= .slice qc C.length cc/\t=ag (k:Int)/\k<=(rs f 1440).length/\P3 (C=A2++(((rs f 1440).take k).filter fun s=>decide (b+l+a<=s.2-s.1)).map fun s=>s.1)/\C.length<=j*11520+i*1440+k/\P3 (W.ownsRow wA.heap.size 3 1 (.slice qc C.length cc) C.length (c8 C))/\P3 (w4.grownBy W (Value.slice qb A2.length cb).ownBlock)/\P3 (ao wA W)/\P3 (∀W2:World,W.grownBy W2 (Value.slice qc C.length cc).ownBlock->w4.grownBy W2 (Value.slice qb A2.length cb).ownBlock)) (fun _ t _=>(rs f 1440).length-(intOf t).toNat);case atStart=>exact⟨0,A2,qb,cb,rfl,rfl,by omega,by show _=_;simp,by omega,HO4,jb _ _,HB4,fun _ h=>h⟩
     case round=>
      obtain⟨k,C,qc,cc,rfl,rfl,hk,HCe,hCl,HOk,HGk,HBk,HFk⟩:=hrel;have hRk:=vk (HOS.o wr HGk.o) hN;obtain⟨_,_,e9,_,hcS⟩:=zS hRk;cases e9;have HCS:=bL hcS;clear hRk hcS;have hk0:(0:Int)<=(k:Int):=(by omega);by_cases hltk:k<(rs f 1440).length
      ·have hltk':(k:Int)<((rs f 1440).length:Int):=(by omega);obtain⟨s,hks⟩: ∃s,(rs f 1440)[k]? =some s:=⟨_,ax hltk⟩
       obtain⟨g1,g2,g3⟩:=HG.o s (aM hks);obtain⟨go,oo,hps,p0,p1⟩:=HCS.o k s hks;subst hps;obtain⟨x,y⟩:=s;dsimp only at g1 g2 g3 p0 p1;have hwr:IntKind.i64.wrap (y-x)=y-x:=(by rw[bG];omega);have hkr:=bL hks;have bS:=am wr (.cells #[ag x,ag y] 143);have nS:=aC wr (.cells #[ag x,ag y] 143);have HO4':=bL (gT HOk.o bS);have HBS:=bL (au HBk.o bS);have HGS:=bL (iV bS (Value.slice qc C.length cc).ownBlock);obtain⟨gs,hgs⟩:=aq wr.heap.size;rw[hgs]at nS;generalize hwS:wr.alloc (.cells #[ag x,ag y] 143)=wS at*;have q0:=ak 0 nS;have q1:=ak 1 nS;have n2:=ai HBS.o nA;clear hks bS nS HOk;go_wp2_with fail;refine dt (fun _ _ W=>ao wS W) [kn 35 (ab gs 1),kn 36 (ag y),kn 37 (ab gs 0),kn 38 (ag x),kn 39 (ag (y-x)),kn 40 (.agg #[ag l,ag b,ag a,.slice (some (ae gr or)) roles.length cr]),kn 41 (ag (b+l+a)),kn 42 (.bool (decide (b+l+a<=y-x)))] (fun _=>(aG _ _).drew) (fun _ _ _ _ hb h=>au h hb) (by kernel_rfl) (fun M φ W2 hJ hcl FF ll hll hFF=> ?_) (fun M φ W5 hM hJ=> ?_)
       ·simp only[kn,dN,aQ,aW,Act.put,aB,aI,aH]at hll;subst hll;simp only[dg,Nat.reduceAdd]at hFF;have zz_1:=aj hJ q1;have zz_3:=aj hJ q0;dsimp only[kn,dC,en,dS,Act.put];and_intros;all_goals first|exact trivial|intro qw qn qm K hK
        all_goals try (go_simp;with_reducible exact hK _ _ ⟨rfl,aG _ _⟩)
        ·refine d9 35 _ rfl _ (by simp[Act.eval,hFF]) _ _ _ _ (ai hJ n2) DP rfl (by kernel_rfl) ?_;exact hK _ _ ⟨rfl,aG _ _⟩
        ·go_simp;refine(tE l b a _ W2 (.inl HME.o)).mono ?_;rintro r' W' ⟨rfl,hb'⟩;exact hK _ _ ⟨rfl,hb'⟩
       ·simp only[kn,dP,aQ,aW,Act.put,aB,aI,aH];clear hM;have HO5:=bL (gT HO4'.o hJ);have HB5:=bL (au HBS.o hJ);have HG5:=bL (HGS.o.trans (iV hJ _));have q05:=aj hJ q0;by_cases hge:b+l+a<=y-x
        ·have bB:=am W5 (.cells #[ag x] 3);have nB:=aC W5 (.cells #[ag x] 3);generalize hwB:W5.alloc (.cells #[ag x] 3)=wB at*;have zB:=ak 0 nB;have HOB:=bL (gT HO5.o bB);have HBB:=bL (au HB5.o bB);have HGB:=bL (HG5.o.trans (iV bB _))
         have HFt:P3 (C++[x]=A2++(((rs f 1440).take (k+1)).filter fun s=>decide (b+l+a<=s.2-s.1)).map fun s=>s.1):=by
          show _=_;rw[HCe.o,lD hkr.o,List.filter_append,dh,List.filter_cons,ay (by simpa using hge),<-dm];rfl
         clear bB nB hJ
         go_wp2_with(first
          |(refine lC rfl _ _ rfl wA.heap.size _ C x rfl ?ho W5.heap.size 1 rfl zB ?hl ?hb ?_
            case ho=>exact HOB.o
            case hl=>omega
            case hb=>exact HBB.o.size
            intro v' w3 ho3 hcase))
         have HB3:=bL (xC HBB.o HOB.o hcase);have HO3:=bL ho3
         have HF3:P3 (w4.grownBy w3 (Value.slice qb A2.length cb).ownBlock/\ ∀W2:World,w3.grownBy W2 v'.ownBlock->w4.grownBy W2 (Value.slice qb A2.length cb).ownBlock):=by
          rcases hcase with⟨e,g1,_⟩|⟨g1,q,e,hq⟩
          ·exact⟨HFk.o w3 (HGB.o.trans g1),fun W2 h2=>HFk.o W2 ((HGB.o.trans g1).trans (e▸h2))⟩
          ·refine⟨HFk.o w3 (HGB.o.trans (tH g1 _)),fun W2 h2=>HFk.o W2 (HGB.o.trans (tH (xB g1 h2 (fun j hj=> ?_)) _))⟩;rw[e]at hj;cases hj;exact .inl hq
         clear hcase ho3;go_wp2_with fail;go_roundw
         case rel=>
          have h3:=HO3.o;have hl3:=zN (l:=C) (x:=x) rfl;rw[<-hl3]at h3;obtain⟨q',c',hv'⟩:=mQ h3;subst hv';exact⟨k+1,C++[x],q',c',rfl,by go_num,by omega,HFt,by rw[hl3];omega,h3,HF3.o.1,HB3,HF3.o.2⟩
         case measure=>simp[intOf];omega
        ·have HFt:P3 (C=A2++(((rs f 1440).take (k+1)).filter fun s=>decide (b+l+a<=s.2-s.1)).map fun s=>s.1):=by
          show _=_;rw[HCe.o,lD hkr.o,List.filter_append,dh,List.filter_cons,aw (by simpa using hge)];simp
         clear hJ;go_wp2_with fail;go_roundw;case rel=>exact⟨k+1,C,qc,cc,rfl,by go_num,by omega,HFt,by omega,HO5,HFk.o _ HG5.o,HB5,fun W2 h2=>HFk.o W2 (HG5.o.trans h2)⟩
         case measure=>simp[intOf];omega
      ·have hltk': ¬(k:Int)<((rs f 1440).length:Int):=(by omega)
       have HAn:P3 (C=A++(role.take (i+1)).flatMap fun r=>tD (b+l+a) (fs.getD r.toNat fun _=>false)):=by
        show _=_;rw[HCe.o,show k=(rs f 1440).length by omega,cj (aA _),lD HIRi.o,dZ,<-dm,<-HAe2.o];congr 1;rw[List.flatMap_singleton,cg,HFG.o];rfl
       clear HCS HFk HGk HOS HG;go_wp2_with fail;go_roundw;case rel=>exact⟨i+1,C,qc,cc,rfl,by go_num,by omega,HAn,by omega,HOk,HBk⟩
       case measure=>simp[intOf];omega
    ·have hlti': ¬(i:Int)<(role.length:Int):=(by omega)
     have HAn:P3 (A2=(roles.take (j+1)).flatMap (xz (b+l+a) fs)):=by
      show _=_;rw[HAe2.o,show i=role.length by omega,cj (aA _),lD HJR.o,dZ,<-HAe.o,List.flatMap_singleton];rfl
     go_wp2_with fail;go_roundw;case rel=>exact⟨j+1,A2,qb,cb,rfl,by go_num,by omega,HAn,by omega,HO2,HB2⟩
     case measure=>simp[intOf];omega
  ·have hlt': ¬(j:Int)<(roles.length:Int):=(by omega)
   have HAn:P3 (A=nV (b+l+a) fs roles):=by
    show _=_;rw[HAe.o,show j=roles.length by omega,cj (aA _)];rfl
   have c1:=Kb HO.o (by omega);go_wp2_with fail;refine c1.mono ?_;rintro e w1 ⟨rfl,ho1,hg1⟩;have HB1:=bL (fU HBr.o hg1 (aA _) (fun k hk=>(HO.o.lt k hk).1));have hls:(A.mergeSort fun x y=>decide (x<=y)).length=A.length:=List.length_mergeSort A;have ho1':=ho1;rw[<-hls]at ho1';obtain⟨q1,c1',hsh⟩:=mQ ho1';have c2:=C5 ho1' (by rw[hls];omega);have HO1:=bL ho1';rw[hls]at c2;clear c1 ho1 hg1 ho1';go_wp2_with fail;refine c2.mono ?_;rintro e w2 ⟨v2,rfl,ho2,hg2⟩;have HB2:=bL (fU HB1.o hg2 (aA _) (fun k hk=>(HO1.o.lt k (by rw[hls];exact hk)).1))
   have HR2:P3 (dQ w2 v2 (gz (b+l+a) fs roles)):=by
    have hcl:=xD (A.mergeSort fun x y=>decide (x<=y));have h:=qq ho2 (by omega);rw[HAn.o]at h;exact h
   have HBB:=bL (au HB.o HB2.o);clear c2 ho2 hg2;go_wp2_with fail;go_ret;exact⟨v2,rfl,HR2.o,HBB.o⟩
theorem sS {α β:Type}{f:α->Option β}: ∀{l:List α} {y:β},l.findSome? f=some y-> ∃x∈l,f x=some y
 |[],y,h=>by simp at h
 |x::l,y,h=>by
  rw[List.findSome?_cons]at h;cases hx:f x with
  |some z=>
   rw[hx]at h;exact⟨x,bc,by rw[hx];exact h⟩
  |none=>
   rw[hx]at h;obtain⟨q,hq,e⟩:=sS h;exact⟨q,bn _ hq,e⟩
def rj (l b a:Int)(roles:List (List Int))(fs:List (Nat->Bool))(x:Int):Option (Int×List Int):=(iZ (gj (okP fs x (x+(b+l+a))) roles) roles.length []).map fun who=>(x+b,who)
def iH (l b a:Int)(roles:List (List Int))(fs:List (Nat->Bool)):Option (Int×List Int):=(gz (b+l+a) fs roles).findSome? (rj l b a roles fs)
def O8 (res:Option (Int×List Int))(w:World)(e:Ending)(w':World):Prop:=(∃m who v,res=some (m,who)/\e= .returned (.tuple #[ag m,v,.bool true])/\w'.ownsRow w.heap.size 3 1 v who.length (c8 who)/\ao w w')\/(res=none/\e= .returned (.tuple #[ag 0,af,.bool false])/\ao w w')
theorem vm {x:Int}{zs:List Int}(h:x∈Go.Lib.compact zs):x∈zs:=by
 unfold Go.Lib.compact Go.Lib.compactUpTo at h;rw[dw]at h;obtain⟨j,hj,rfl⟩:=h;have hj':=gQ.1 ((List.mem_filter.1 hj).1);rw[getElem!_pos _ j (by simpa using hj')];simp
theorem Mq (f:Nat->Bool):lj f 1440 (rs f 1440):=Msk.yJ f 1440
theorem Kf {W:Int}{fs:List (Nat->Bool)}{roles:List (List Int)}{x:Int}(h:x∈gz W fs roles):0<=x/\x<1440:=by
 have h1:x∈nV W fs roles:=(List.mem_mergeSort).1 (vm h);unfold nV xz tD at h1;rw[List.mem_flatMap]at h1;obtain⟨p,_,h2⟩:=h1;rw[List.mem_flatMap]at h2;obtain⟨r,_,h3⟩:=h2;rw[dw]at h3;obtain⟨s,hs,rfl⟩:=h3;have:=pM (Mq _).good s (List.mem_filter.1 hs).1;omega
theorem C6 (l b a:Int)(roles:List (List Int))(rv:Value)(fs:List (Nat->Bool))(fv:Value)(w:World)(hT:Tab w)(hR:fo w rv roles)(hF:sx w fv fs)(hin: ∀p∈roles,p.length<=8/\ ∀r∈p,0<=r/\r<(fs.length:Int))(hrl:roles.length<=4)(hme:iY l b a=true):
  Calls prog 135 #[.agg #[ag l,ag b,ag a,rv],fv] w (O8 (iH l b a roles fs) w):=by
 obtain⟨pr,cr,rfl,hlr,hallr0⟩:=id hR;clear hallr0;have bA:=am w (.cells #[ag l,ag b,ag a,.slice pr roles.length cr] 35);have nA:=aC w (.cells #[ag l,ag b,ag a,.slice pr roles.length cr] 35);generalize hwA:w.alloc (.cells #[ag l,ag b,ag a,.slice pr roles.length cr] 35)=wA at*;have HR:=bL (hR.below bA);have HF:=bL (hF.below bA);have HB:=bL bA;have HIN:=bL hin;have HIN2:P3 (∀p∈roles,p.length<=1000/\ ∀r∈p,0<=r/\r<(fs.length:Int)):=fun p hp=>⟨by have:=(hin p hp).1;omega,(hin p hp).2⟩
 have HME:=bL hme
 have hmb:1<=l/\l<=1440/\0<=b/\b<=1440/\0<=a/\a<=1440/\b+l+a<=1440:=by
  unfold iY at hme;exact eG hme
 obtain⟨m1,m2,m3,m4,m5,m6,m7⟩:=hmb;have z0:=ak 0 nA;have z1:=ak 1 nA;have z2:=ak 2 nA;have z3:=ak 3 nA;have c0:=Fc l b a roles _ fs fv wA (kh hT bA) HR.o HF.o hin hrl hme;obtain⟨pf,cf,rfl,hlf,_⟩:=hF;clear bA hin hR hme;go_enter func135,ntmps135
 go_wp2_with fail;refine c0.mono ?_;rintro e w1 ⟨v1,rfl,hrow1,b1⟩;obtain⟨p1,q1,rfl,hl1,_⟩:=id hrow1;have HR1:=bL hrow1;have HB1:=bL b1;clear c0 hrow1 b1 z0 z1 z2 z3;go_wp2_with fail;go_loopw [16] (fun t wr=> ∃j:Nat,t=ag (j:Int)/\j<=(gz (b+l+a) fs roles).length/\P3 (iH l b a roles fs=((gz (b+l+a) fs roles).drop j).findSome? (rj l b a roles fs))/\P3 (ao wA wr)/\P3 (dQ wr (.slice p1 (gz (b+l+a) fs roles).length q1) (gz (b+l+a) fs roles))) (fun t _=>(gz (b+l+a) fs roles).length-(intOf t).toNat);case atStart=>exact⟨0,rfl,by omega,rfl,HB1,HR1⟩
 case round=>
  obtain⟨j,rfl,hj,hX,HBr,HRA0⟩:=hrel;have hj0:(0:Int)<=(j:Int):=(by omega);by_cases hlt:j<(gz (b+l+a) fs roles).length
  ·have hlt':(j:Int)<((gz (b+l+a) fs roles).length:Int):=(by omega);obtain⟨x,hjx⟩: ∃r,(gz (b+l+a) fs roles)[j]? =some r:=⟨_,ax hlt⟩
   obtain⟨_,_,e1,_,hall⟩:=HRA0.o;cases e1;obtain⟨gx,ox,hpe,cx⟩:=hall j _ hjx;subst hpe;obtain⟨hx0,hx1⟩:=Kf (aM hjx);have hS:=sR (f:=rj l b a roles fs) hjx;have HX:=bL (hX.o.trans hS);have HRr:=bL (HR.o.below HBr.o);have HFr:=bL (HF.o.below HBr.o);have n2:=ai HBr.o nA;have y1:=ak 1 n2;have y3:=ak 3 n2;have hwx:IntKind.i64.wrap (x+(b+l+a))=x+(b+l+a):=(by rw[bG];omega);rw[show rj l b a roles fs x=(iZ (gj (okP fs x (x+(b+l+a))) roles) roles.length []).map fun who=>(x+b,who) from rfl]at HX;clear hall hS hX hjx;go_wp2_with fail;refine dt (fun M φ W=>ao wr W/\(M 9=true->fo W (φ 29) (gj (okP fs x (x+(b+l+a))) roles))/\(M 10=true->φ 9=φ 29)) [kn 20 (ab w.heap.size 3),kn 21 (.slice pr roles.length cr),kn 22 (.slice pf fs.length cf),kn 23 (ag x),kn 24 (ag x),kn 25 (.agg #[ag l,ag b,ag a,.slice pr roles.length cr]),kn 26 (ag (b+l+a)),kn 27 (ag (x+(b+l+a))),kn 28 (.agg #[ag x,ag (x+(b+l+a))]),td 29,td 9] (fun _=>⟨(aG _ _).drew,(fun h=>by cases h),(fun h=>by cases h)⟩) (fun _ _ _ _ hb h=>⟨au h.1 hb,fun e=>(h.2.1 e).below hb,h.2.2⟩) (by kernel_rfl) (fun M φ W2 hJ hcl FF ll hll hFF=> ?_) (fun M φ W2 hM hJ=> ?_)
   ·simp only[kn,td,dN,aQ,aW,Act.put,aB,aI,aH]at hll;subst hll;simp only[dg,Nat.reduceAdd]at hFF;obtain⟨hJ,hJ2,_⟩:=hJ;have zz:=aj hJ y3;dsimp only[kn,td,dC,en,dS,Act.put];and_intros;all_goals first|exact trivial|intro qw qn qm K hK
    all_goals try (go_simp;with_reducible exact hK _ _ ⟨rfl,aG _ _⟩)
    ·refine d9 35 _ rfl _ (by simp[Act.eval,hFF]) _ _ _ _ (ai hJ n2) DP rfl (by kernel_rfl) ?_;exact hK _ _ ⟨rfl,aG _ _⟩
    ·go_simp;refine(tE l b a _ W2 (.inl HME.o)).mono ?_;rintro r' W' ⟨rfl,hb'⟩;exact hK _ _ ⟨rfl,hb'⟩
    ·have q10:=qn 10 _ rfl (by kernel_rfl);go_simp;refine(AF roles _ fs _ x (x+(b+l+a)) W2 (HRr.o.below hJ) (HFr.o.below hJ) HIN2.o (by omega)).mono ?_;rintro r' W' ⟨q,rfl,hrow,hb'⟩;exact hK _ _ ⟨trivial,au hJ hb',fun _=>by rw[dI];exact hrow,(fun h=>by simp[q10]at h)⟩
    ·go_simp;exact hK _ _ ⟨trivial,hJ,fun h=>by rw[dy (by decide)];exact hJ2 (by simpa using h),fun _=>by rw[dI,dy (by decide)]⟩
   ·obtain⟨hJ,hrow29,e9⟩:=hJ;replace hrow29:=hrow29 (hM 9 (by decide) rfl);replace e9:=e9 (hM 10 (by decide) rfl);simp only[kn,td,dP,aQ,aW,Act.put,aB,aI,aH];rw[e9];generalize φ 29=q29 at*;clear hM e9;have HB2:=bL (au HBr.o hJ);have HRA:=bL (HRA0.o.below hJ);have hfl:(gj (okP fs x (x+(b+l+a))) roles).length=roles.length:=(by unfold gj;rw[aZ]);have c1:=J9 (gj (okP fs x (x+(b+l+a))) roles) q29 W2 hrow29 (by rw[hfl];omega) roles.length [] (af) W2 (by rw[hfl];simp) (aG _ _) (bV _ _ _ _);have y32:=aj hJ y3;have y12:=aj hJ y1;clear hrow29 hJ hfl;go_wp2_with fail;refine c1.mono ?_;rintro e w3 ⟨hg,⟨who,v',hw,rfl,ho⟩|⟨hw,rfl,_⟩⟩
    ·have HX2:P3 (iH l b a roles fs=some (x+b,who)):=by
      show _=_;rw[HX.o,hw];rfl
     have b3:ao W2 w3:=fU (aG _ _) hg (aA _) (fun k hk=>by cases hk);have HRw:=bL (qr ho (a6 HB.o.size HB2.o.size));have y13:=aj b3 y12;have HB3:=bL (HB.o.trans ((au HB2.o b3).mono HB.o.size));have hwb:IntKind.i64.wrap (x+b)=x+b:=(by rw[bG];omega);clear c1 hg ho hw b3;go_wp2_with fail;go_ret3;exact .inl ⟨x+b,who,v',HX2.o,rfl,HRw.o,HB3.o⟩
    ·have HX2:P3 (iH l b a roles fs=((gz (b+l+a) fs roles).drop (j+1)).findSome? (rj l b a roles fs)):=by
      show _=_;rw[HX.o,hw];rfl
     have b3:ao W2 w3:=fU (aG _ _) hg (aA _) (fun k hk=>by cases hk);have HB3:=bL (au HB2.o b3);have HRA3:=bL (HRA.o.below b3);clear c1 hg hw b3;go_wp2_with fail;go_roundw;case rel=>exact⟨j+1,by go_num,by omega,HX2,HB3,HRA3⟩
     case measure=>simp[intOf];omega
  ·have hlt': ¬(j:Int)<((gz (b+l+a) fs roles).length:Int):=(by omega)
   have HX:P3 (iH l b a roles fs=none):=by
    show _=_;rw[hX.o,dc (by omega)];rfl
   have HB3:=bL (au HB.o HBr.o);clear hX;go_wp2_with fail;go_ret3;exact .inr ⟨HX.o,rfl,HB3.o⟩
def uE (w:World)(v:Value)(ds:List (List (Nat->Bool))):Prop:= ∃p c,v= .slice p ds.length c/\ds.length<9223372036854775808/\ ∀(j:Nat) (fs:List (Nat->Bool)),ds[j]? =some fs-> ∃(g o:Nat) (sv:Value),p=some ⟨g,o,none⟩/\w.cell? (ae g (o+j))=some sv/\sx w sv fs
theorem uE.below {w w':World}{v:Value}{ds:List (List (Nat->Bool))}(h:uE w v ds)(hb:ao w w'):uE w' v ds:=by
 obtain⟨p,c,h1,h2,h3⟩:=h;refine⟨p,c,h1,h2,fun j l hj=> ?_⟩;obtain⟨g,o,sv,e,hc,hr⟩:=h3 j l hj;exact⟨g,o,sv,e,aj hb hc,hr.below hb⟩
def ia (s:Sv):List (List (Nat->Bool))->Int
 |[]=>0
 |d::l=>if dW s d.length≠0 then dW s d.length else ia s l
def jQ (s:Sv):List (List (Nat->Bool))->Nat->Option (Nat×Int×List Int)
 |[],_=>none
 |d::l,n=>match iH s.len s.bef s.aft s.roles d with
  |some x=>some (n,x.1,x.2)
  |none=>jQ s l (n+1)
structure Sl where
 err:Int
 day:Int
 min:Int
 who:List Int
def findP (s:Sv)(ds:List (List (Nat->Bool))):Sl:=if 30<ds.length then⟨5,0,0,[]⟩ else if ia s ds≠0 then⟨ia s ds,0,0,[]⟩ else match jQ s ds 0 with
 |some x=>⟨0,(x.1:Int),x.2.1,x.2.2⟩
 |none=>⟨11,0,0,[]⟩
def Fd (r:Sl)(w:World)(e:Ending)(w':World):Prop:= ∃v,e= .returned (.tuple #[.agg #[ag r.day,ag r.min,v],ag r.err])/\w'.ownsRow w.heap.size 3 1 v r.who.length (c8 r.who)/\ao w w'
theorem Fe {s:Sv}{l:List (List (Nat->Bool))}{j:Nat}{d:List (Nat->Bool)}(h:l[j]? =some d):ia s (l.drop j)=if dW s d.length≠0 then dW s d.length else ia s (l.drop (j+1)):=by
 obtain⟨h1,h2⟩:=aE.1 h;rw[bx h1,h2];rfl
theorem Ff {s:Sv}{l:List (List (Nat->Bool))}{j:Nat}{d:List (Nat->Bool)}(n:Nat)(h:l[j]? =some d):jQ s (l.drop j) n=match iH s.len s.bef s.aft s.roles d with
  |some x=>some (n,x.1,x.2)
  |none=>jQ s (l.drop (j+1)) (n+1):=by
 obtain⟨h1,h2⟩:=aE.1 h;rw[bx h1,h2];rfl
theorem sy {s:Sv}: ∀{l:List (List (Nat->Bool))},ia s l=0-> ∀d∈l,dW s d.length=0
 |[],_,d,hd=>by cases hd
 |x::l,h,d,hd=>by
  by_cases hx:dW s x.length=0
  ·rw[ia,aw (by simpa using hx)]at h;rcases bh.1 hd with rfl|hd
   ·exact hx
   ·exact sy h d hd
  ·rw[ia,ay hx]at h;exact absurd h hx
theorem BV {p:List Int}{n:Int}: ∀(m i:Nat),kT p n m i=0-> ∀j,i<=j->j<i+m->(0<=p.getD j 0/\p.getD j 0<n)/\(0<j->p.getD (j-1) 0<p.getD j 0)
 |0,i,_,j,h1,h2=>by omega
 |m+1,i,h,j,h1,h2=>by
  rw[kT]at h;by_cases c1:p.getD i 0<0\/n<=p.getD i 0
  ·rw[ay c1]at h;cases h
  ·rw[aw c1]at h;by_cases c2:0<i/\p.getD i 0<=p.getD (i-1) 0
   ·rw[ay c2]at h;cases h
   ·rw[aw c2]at h;by_cases e:j=i
    ·subst e;exact⟨by omega,fun h0=>by omega⟩
    ·exact BV m (i+1) h j (by omega) (by omega)
structure xE (p:List Int)(n:Int):Prop where
 len1:1<=p.length
 len8:p.length<=8
 bd: ∀r∈p,0<=r/\r<n
 up:p.Pairwise (· < ·)
theorem Mr {p:List Int}{n:Int}(h:gG p n=0):xE p n:=by
 unfold gG at h;by_cases hl:p.length<1\/8<p.length
 ·rw[ay hl]at h;cases h
 ·rw[aw hl]at h;have hk:=BV p.length 0 h;refine⟨by omega,by omega,fun r hr=> ?_,?_⟩
  ·obtain⟨j,hj,rfl⟩:=List.getElem_of_mem hr;have:=(hk j (by omega) (by omega)).1;simpa[List.getD,ax hj] using this
  ·have step: ∀d j:Nat,j+d+1<p.length->p.getD j 0<p.getD (j+d+1) 0:=by
    intro d;induction d with
    |zero=>
     intro j hj;have:=(hk (j+1) (by omega) (by omega)).2 (by omega);simpa using this
    |succ d ih=>
     intro j hj;have h1:=ih j (by omega);have h2:=(hk (j+d+1+1) (by omega) (by omega)).2 (by omega);rw[show j+d+1+1-1=j+d+1 by omega]at h2;rw[show j+(d+1)+1=j+d+1+1 by omega];omega
   rw[List.pairwise_iff_getElem];intro i j hi hj hij;have:=step (j-i-1) i (by omega);rw[show i+(j-i-1)+1=j by omega]at this;simpa[List.getD,ax hi,ax hj] using this
theorem zV {n:Int}: ∀{l:List (List Int)},jf n l=0-> ∀p∈l,xE p n
 |[],_,p,hp=>by cases hp
 |x::l,h,p,hp=>by
  by_cases hx:gG x n=0
  ·rw[jf,aw (by simpa using hx)]at h;rcases bh.1 hp with rfl|hp
   ·exact Mr hx
   ·exact zV h p hp
  ·rw[jf,ay hx]at h;exact absurd h hx
structure vS (s:Sv)(n:Int):Prop where
 meas:iY s.len s.bef s.aft=true
 r1:1<=s.roles.length
 r4:s.roles.length<=4
 pool: ∀p∈s.roles,xE p n
theorem qt {s:Sv}{n:Int}(h:dW s n=0):vS s n:=by
 unfold dW at h;by_cases h1:iY s.len s.bef s.aft=false
 ·rw[ay h1]at h;cases h
 ·rw[aw h1]at h;by_cases h2:s.roles.length<1\/4<s.roles.length
  ·rw[ay h2]at h;cases h
  ·rw[aw h2]at h;exact⟨by simpa using h1,by omega,by omega,zV h⟩
theorem Kg {w:World}{B:Nat}{e:TypeId}{n:Nat}{v:Value}{xs:List Value}{size:Nat}(h:w.ownsRow B e size v n xs){g:Nat}(hg:g<B)(X:Array Value):(w.setRow g X).ownsRow B e size v n xs:=
 h.kept (row:=some g) ⟨rfl,rfl,rfl,by simp,fun k _ hk=>aT w g k _ (fun e=>hk (by rw[e]))⟩ (by
  cases hz:v.ownBlock with
  |none=>exact .inl rfl
  |some q=>
   refine .inr fun e=> ?_;cases e;have:=(h.lt g hz).1;omega)
theorem Kh:prog.underlying 26=some (.struct (prog.fieldsOf 26)):=by kernel_rfl
theorem qL {R:Ending->World->Prop}{a:Act}{w:World}(g:Nat)(d m:Int)(v:Value)(er:Int)(hd:a.defers=[])(h4:a.tmps.getD 4 undef=ab g 0)(h5:a.tmps.getD 5 undef=ag er)
  (hg:w.heap[g]? =ah #[ag d,ag m,v] 26) (hR:R (.returned (.tuple #[.agg #[ag d,ag m,v],ag er])) w):bodyPost prog f95 R .ret a w:=by
 refine aU (v:= .tuple #[.agg #[ag d,ag m,v],ag er]) ?_ hd hR;have h4':a.tmps[4]?.getD undef=ab g 0:=by simpa using h4
 have h5':a.tmps[5]?.getD undef=ag er:=by simpa using h5
 have hv:=dR (P:=prog) w g 26 26 _ _ _ hg Kh rfl (by kernel_rfl);simp[results,results95,h4',h5',asAddr,hv]
theorem Hr (s:Sv)(rv:Value)(ds:List (List (Nat->Bool)))(dv:Value)(w:World)(hT:Tab w)(hR:fo w rv s.roles)(hD:uE w dv ds):
  Calls prog 95 #[svV s rv,dv] w (Fd (findP s ds) w):=by
 obtain⟨l,b,a,roles⟩:=s;dsimp only at hR;unfold svV;dsimp only;obtain⟨pr,cr,rfl,hlr,hallr0⟩:=id hR;clear hallr0;have bA:ao w ((w.alloc (.cells #[ag l,ag b,ag a,.slice pr roles.length cr] 35)).alloc (.cells #[ag 0,ag 0,af] 26)):=(am _ _).alloc (by simp) _;have nA:((w.alloc (.cells #[ag l,ag b,ag a,.slice pr roles.length cr] 35)).alloc (.cells #[ag 0,ag 0,af] 26)).heap[w.heap.size]? =ah #[ag l,ag b,ag a,.slice pr roles.length cr] 35:=by(repeat (first|refine cY _ _ _ (by simp only[aP];omega) ?_|exact dq _ _ _ (by first|rfl|simp only[aP])))
 have nS:((w.alloc (.cells #[ag l,ag b,ag a,.slice pr roles.length cr] 35)).alloc (.cells #[ag 0,ag 0,af] 26)).heap[w.heap.size+1]? =ah #[ag 0,ag 0,af] 26:=by(repeat (first|refine cY _ _ _ (by simp only[aP];omega) ?_|exact dq _ _ _ (by first|rfl|simp only[aP])))
 generalize hwA:(w.alloc (.cells #[ag l,ag b,ag a,.slice pr roles.length cr] 35)).alloc (.cells #[ag 0,ag 0,af] 26)=wA at*;have HR:=bL (hR.below bA);have HD:=bL (hD.below bA);have HT:=bL (kh hT bA);have HB:=bL bA;obtain⟨pd,cd,rfl,hld,_⟩:=hD;clear bA hR hT
 have HRet:P3 (∀(W:World) (er:Int),ao wA W->W.heap[w.heap.size+1]? =ah #[ag 0,ag 0,af] 26->findP ⟨l,b,a,roles⟩ ds=⟨er,0,0,[]⟩->(W.setRow (w.heap.size+1) #[ag 0,ag 0,af]).heap[w.heap.size+1]? =ah #[ag 0,ag 0,af] 26/\Fd (findP ⟨l,b,a,roles⟩ ds) w (.returned (.tuple #[.agg #[ag 0,ag 0,af],ag er])) (W.setRow (w.heap.size+1) #[ag 0,ag 0,af])):=fun W er hW hs he=>by
  rw[he];exact⟨aJ _ _ _ _ _ _ hs,_,rfl,bV _ _ _ _,below_setRow (au HB.o hW) (by omega) _⟩
 by_cases h30:30<(ds.length:Int)
 ·have HX:P3 (findP ⟨l,b,a,roles⟩ ds=⟨5,0,0,[]⟩):=by
   show _=_;unfold findP;rw[ay (by omega)]
  have HQ:=bL (HRet.o wA 5 (aG _ _) nS HX.o);clear HRet;go_enter func95,ntmps95
  go_wp2_with(first
   |(refine az rfl 26 _ _ rfl _ _ rfl rfl _ _ nS (by kernel_rfl) (by simp) (by simp[Value.oneCell']) ?_))
  exact qL (w.heap.size+1) 0 0 (af) 5 rfl rfl rfl HQ.o.1 HQ.o.2
 have HE:P3 (findP ⟨l,b,a,roles⟩ ds=if ia ⟨l,b,a,roles⟩ ds≠0 then⟨ia ⟨l,b,a,roles⟩ ds,0,0,[]⟩ else match jQ ⟨l,b,a,roles⟩ ds 0 with
   |some x=>⟨0,(x.1:Int),x.2.1,x.2.2⟩
   |none=>⟨11,0,0,[]⟩):=by
  show _=_;unfold findP;rw[aw (by omega)]
 go_enter func95,ntmps95
 go_wp2_with fail;go_loopw [20] (fun t wr=> ∃j:Nat,t=ag (j:Int)/\j<=ds.length/\P3 (ia ⟨l,b,a,roles⟩ ds=ia ⟨l,b,a,roles⟩ (ds.drop j))/\P3 (ao wA wr)) (fun t _=>ds.length-(intOf t).toNat);case atStart=>exact⟨0,rfl,by omega,rfl,aG _ _⟩
 case round=>
  obtain⟨j,rfl,hj,hX,HBr⟩:=hrel;have hj0:(0:Int)<=(j:Int):=(by omega);by_cases hlt:j<ds.length
  ·have hlt':(j:Int)<(ds.length:Int):=(by omega);obtain⟨fs,hjf⟩: ∃r,ds[j]? =some r:=⟨_,ax hlt⟩
   obtain⟨_,_,e1,_,hall⟩:=HD.o.below HBr.o;cases e1;obtain⟨gd0,od0,sv,hpe,cx,hrow⟩:=hall j _ hjf;subst hpe;obtain⟨pf,cf,rfl,hlf,_⟩:=hrow;have n2:=ai HBr.o nA;have y0:=ak 0 n2;have y1:=ak 1 n2;have y2:=ak 2 n2;have y3:=ak 3 n2;have c1:=xA ⟨l,b,a,roles⟩ _ (fs.length:Int) wr (HR.o.below HBr.o);unfold svV at c1;dsimp only at c1;have hS:=Fe (s:=⟨l,b,a,roles⟩) hjf;obtain⟨er,her⟩:=aq (dW ⟨l,b,a,roles⟩ (fs.length:Int));rw[her]at c1 hS;have nS0:=ai HBr.o nS;clear hall hjf her;by_cases hz:er=0
   ·subst hz;rw[aw (by simp)]at hS;have HX2:=bL (hX.o.trans hS);clear hS hX;go_wp2_with fail;refine c1.mono ?_;rintro e w2 ⟨rfl,b2⟩;have HB2:=bL (au HBr.o b2);clear c1 b2;go_wp2_with fail;go_roundw;case rel=>exact⟨j+1,by go_num,by omega,HX2,HB2⟩
    case measure=>simp[intOf];omega
   ·rw[ay hz]at hS;have hz':(er==0)=false:=bf.2 hz;have HX2:=bL (hX.o.trans hS);clear hS hX;go_wp2_with fail;refine c1.mono ?_;rintro e w2 ⟨rfl,b2⟩;have nS2:=ai b2 nS0;have HQ:=bL (HRet.o w2 er (au HBr.o b2) nS2 (HE.o.trans (by rw[HX2.o];exact ay hz)));clear c1 b2 hz
    go_wp2_with(first
     |(refine az rfl 26 _ _ rfl _ _ rfl rfl _ _ nS2 (by kernel_rfl) (by simp) (by simp[Value.oneCell']) ?_))
    exact qL (w.heap.size+1) 0 0 (af) er rfl rfl rfl HQ.o.1 HQ.o.2
  ·have hlt': ¬(j:Int)<(ds.length:Int):=(by omega)
   have HZ:P3 (ia ⟨l,b,a,roles⟩ ds=0):=by
    show _=_;rw[hX.o,dc (by omega)];rfl
   have HOK:=bL (sy HZ.o);have HE2:=bL (HE.o.trans (aw (by rw[HZ.o];simp)));clear hX HE HZ;go_wp2_with fail;go_loopw [35] (fun t W=> ∃k:Nat,t=ag (k:Int)/\k<=ds.length/\P3 (jQ ⟨l,b,a,roles⟩ ds 0=jQ ⟨l,b,a,roles⟩ (ds.drop k) k)/\P3 (ao wA W)) (fun t _=>ds.length-(intOf t).toNat);case atStart=>exact⟨0,rfl,by omega,rfl,HBr⟩
   case round=>
    obtain⟨k,rfl,hk,hX,HBk⟩:=hrel;have hk0:(0:Int)<=(k:Int):=(by omega);by_cases hltk:k<ds.length
    ·have hltk':(k:Int)<(ds.length:Int):=(by omega);obtain⟨fs,hjf⟩: ∃r,ds[k]? =some r:=⟨_,ax hltk⟩
     obtain⟨_,_,e1,_,hall⟩:=HD.o.below HBk.o;cases e1;obtain⟨gd0,od0,sv,hpe,cx,hrow⟩:=hall k _ hjf;subst hpe;have hok:=qt (HOK.o fs (aM hjf));have c1:=C6 l b a roles _ fs sv wr (kh HT.o HBk.o) (HR.o.below HBk.o) hrow (fun p hp=>⟨(hok.pool p hp).len8,(hok.pool p hp).bd⟩) hok.r4 hok.meas;obtain⟨pf,cf,rfl,hlf,_⟩:=hrow;have n2:=ai HBk.o nA;have y0:=ak 0 n2;have y1:=ak 1 n2;have y2:=ak 2 n2;have y3:=ak 3 n2;have hS:=Ff (s:=⟨l,b,a,roles⟩) k hjf;dsimp only at hS;have HX:=bL (hX.o.trans hS);have nS0:=ai HBk.o nS;clear hall hjf hS hX hok;go_wp2_with fail;refine c1.mono ?_;rintro e w2 (⟨m,who,v,hf,rfl,hrw,b2⟩|⟨hf,rfl,b2⟩)
     ·have nS2:=ai b2 nS0
      have HXX:P3 (findP ⟨l,b,a,roles⟩ ds=⟨0,(k:Int),m,who⟩):=by
       show _=_;rw[HE2.o,HX.o,hf]
      have hgl:w.heap.size+1<wA.heap.size:=aF nS
      have HQ:P3 ((w2.setRow (w.heap.size+1) #[ag (k:Int),ag m,v]).heap[w.heap.size+1]? =ah #[ag (k:Int),ag m,v] 26/\Fd (findP ⟨l,b,a,roles⟩ ds) w (.returned (.tuple #[.agg #[ag (k:Int),ag m,v],ag 0])) (w2.setRow (w.heap.size+1) #[ag (k:Int),ag m,v])):=by
       rw[HXX.o];refine⟨aJ _ _ _ _ _ _ nS2,v,rfl,?_,below_setRow (HB.o.trans ((au HBk.o b2).mono HB.o.size)) (by omega) _⟩;exact qr (Kg hrw (aO hgl HBk.o.size) _) (a6 HB.o.size HBk.o.size)
      obtain⟨pw,cw,rfl⟩:=mQ hrw;clear c1 b2 hf
      go_wp2_with(first
       |(refine az rfl 26 _ _ rfl _ _ rfl rfl _ _ nS2 (by kernel_rfl) (by simp) (by simp[Value.oneCell']) ?_))
      exact qL (w.heap.size+1) (k:Int) m _ 0 rfl rfl rfl HQ.o.1 HQ.o.2
     ·have HX2:P3 (jQ ⟨l,b,a,roles⟩ ds 0=jQ ⟨l,b,a,roles⟩ (ds.drop (k+1)) (k+1)):=by
       show _=_;rw[HX.o,hf]
      have HB2:=bL (au HBk.o b2);clear c1 b2 hf;go_wp2_with fail;go_roundw;case rel=>exact⟨k+1,by go_num,by omega,HX2,HB2⟩
      case measure=>simp[intOf];omega
    ·have hltk': ¬(k:Int)<(ds.length:Int):=(by omega)
     have HXX:P3 (findP ⟨l,b,a,roles⟩ ds=⟨11,0,0,[]⟩):=by
      show _=_;rw[HE2.o,hX.o,dc (by omega)];rfl
     have nS0:=ai HBk.o nS;have HQ:=bL (HRet.o wr 11 HBk.o nS0 HXX.o);clear hX
     go_wp2_with(first
      |(refine az rfl 26 _ _ rfl _ _ rfl rfl _ _ nS0 (by kernel_rfl) (by simp) (by simp[Value.oneCell']) ?_))
     exact qL (w.heap.size+1) 0 0 (af) 11 rfl rfl rfl HQ.o.1 HQ.o.2
end Go.Proofs.YtjkilacmkbmmbaaGreatDoor
