/- Texts of the proof. -/
import Derived.Test.YtaoljfdfhggbbaaGreatDoorPc34
import Derived.Test.YtaoljfdfhggbbaaGreatDoorPc16
set_option maxRecDepth 100000
set_option maxHeartbeats 8000000
namespace Go.Proofs.YtaoljfdfhggbbaaGreatDoor
open Go.Proofs.Tryz Go.RowKit Lx Vx Mx Msk
section
section
variable {B gD:Nat} {d:Dk} {t:Tr} {w w':World}
theorem DkM.ap (b: ∃m k o kv n e,DkM B gD d t m k o kv n e w){j:Nat}(x:j<d.aps.length): ∃(a:Ap) (p:Option Addr) (c g f:Nat),d.aps[j]? =some a/\t.av= .slice (some (ae g 0)) d.aps.length f/\B<=g/\w.rangeAt g (j*11) (apC (a,.slice p a.who.length c)).toList/\Rob (Fx gD t) (fun u=>dS u (.slice p a.who.length c) a.who) w:=by
 obtain⟨m,k,o,kv,n,e,b⟩:=b;have s:e.length=d.aps.length:=by rw[<-b.ape,ba]
 obtain⟨⟨a,v⟩,i⟩: ∃p,e[j]? =some p:=⟨e[j]'(by omega),az _⟩
 have ha:=b.apr _ (aM i);obtain⟨p,c,l,_,_⟩:=ha.here;dsimp only at l ha;subst l;obtain⟨g,f,q,e2,r⟩:=jQ sM b.aps rfl i;refine⟨a,p,c,g,f,by rw[<-b.ape,bg,i];rfl,by rw[q,s],e2,r,ha⟩
theorem Cc (r day g:Int)(w:World)(h:dt B gD d t w)(h0:0<=r)(hr:r<d.res.length):Calls prog 33 #[ab gD 0,ag r,ag day,ag g] w fun e w'=>e= .returned (.agg (mv (iq d r day g).1))/\dt B gD (iq d r day g).2 t w'/\Kd gD t t w w':=by
 have hz:=eI;obtain⟨X,hA,bA,nA⟩:=nb w (mv fun _=>false) 84;have a1:X.heap.size=w.heap.size+1:=by rw[<-hA];simp
 have aj:=h.opened (aB _) a1 bA;have ac:=aF aj;obtain⟨az,ak⟩:=aj;have aE:=aF ak;obtain⟨rv,cv,vv,kv,ss,aa,hm⟩:=ak;have ar:aa.length=d.aps.length:=by rw[<-hm.ape,ba]
 obtain⟨n,hn⟩:=au d.aps.length;have HN:=aF hn;obtain⟨pa,ca,R⟩:=df hm.aps;rw[ar,hn]at R;have z3:=cr 3 hm.blk rfl;have a8:X.cell? (ae gD 3)=some t.av:=z3;have C:t.av= .slice pa n ca:=R;rw[C]at a8;have aX:n<=30:=by rw[<-hn];exact az.al
 have a9:=aF C;have H0:=aF h;have aA:=aF bA;have aJ:=aF h0;have aK:=aF hr;have bb:w.heap.size<=X.heap.size:=by omega
 clear h hm ar hn z3 R C az h0 hr bA a1;go_enter func33,ntmps33;go_wp2_with fail;clear a8 hA;go_loopw [9,10,11,18] (fun v _ _ q wr=> ∃(j:Nat) (l:List (Int×Int)),q=ag (j:Int)/\j<=n/\aq X wr/\wr.ownsRow X.heap.size 87 2 v l.length (iU l)/\l.length<=j/\ie r day g d.aps 0=l++ie r day g (d.aps.drop j) j) (fun _ _ _ q _=>n-(intOf q).toNat);case atStart=>exact⟨0,[],rfl,by omega,aI _ _,dc _ _ _ _,aB _,rfl⟩
 case round=>
  obtain⟨j,l,rfl,hj,s,m,aQ,Z⟩:=hrel;have aZ:(0:Int)<=(j:Int):=(by omega);by_cases aO:j<n
  ·have ao:(j:Int)<(n:Int):=(by omega);obtain⟨a,V,P,ga,aM,ha,a3,_,a0,K⟩:=DkM.ap aE.o (j:=j) (by rw[HN.o];exact aO);have e0:Value.slice pa n ca= .slice (some (ae ga 0)) n aM:=(by rw[<-a9.o,<-HN.o];exact a3);injection e0 with e1 e3 e2;subst e1 e2;clear e3 a3;rw[Fw r day g ha]at Z;have u:=jm a0 s;have L:=(K.below s).here;obtain⟨wZ,wB,hZ,nZ,hB,bB,nB⟩:=nbs wr apZ (apC (a,.slice V a.who.length P)) 45;unfold apZ at hZ nZ;have y0:wB.cell? (ae wr.heap.size 0)=some (ag a.st):=cr 0 nB rfl;have y8:wB.cell? (ae wr.heap.size 8)=some (ag a.day):=cr 8 nB rfl;have aU:wB.cell? (ae wr.heap.size 10)=some (.slice V a.who.length P):=cr 10 nB rfl;have Y:=jF a.who _ r wB (L.below bB);have ah:=aw s bB;have F:=br m fun b H=>bB.block b (m.lt b H).2;obtain⟨b1,aN⟩:=au ((j:Int) !=g);obtain⟨b2,S⟩:=au (a.st !=3);obtain⟨b3,G⟩:=au (a.day==day);obtain⟨b4,D⟩:=au (decide (r∈a.who));have hT:tkB r day g a j=(b1&&(b2&&(b3&&b4))):=(by unfold tkB;rw[aN,S,G,D]);rw[hT]at Z;rw[D]at Y;obtain⟨fr,am⟩:=au a.fr;obtain⟨to,a2⟩:=au a.to;have I:=aF Z;have cT:=fun W=>tW a V P W;rw[am,a2]at I cT;have M:=aF ah;have f:=aF F;clear Z hT D a0 L K m s F ah ha am a2;cases b1 with
   |false=>
    clear Y cT S G;go_wp2_with(first|(refine wpList_load_mid rfl 45 _ rfl ga (j*11) rfl (apC (a,.slice V a.who.length P)).toList _ u apT rfl (by kernel_rfl) ?_)|(refine ay rfl 45 _ _ rfl _ _ rfl rfl _ _ nZ (by kernel_rfl) rfl (iJ _ _ _ _) ?_;rw[hB]))
    go_roundw;case rel=>exact⟨j+1,l,by go_num,by omega,M.o,f.o,by omega,I.o⟩
    case measure=>simp[intOf];omega
   |true=>
    cases b2 with
    |false=>
     clear Y cT G;go_wp2_with(first|(refine wpList_load_mid rfl 45 _ rfl ga (j*11) rfl (apC (a,.slice V a.who.length P)).toList _ u apT rfl (by kernel_rfl) ?_)|(refine ay rfl 45 _ _ rfl _ _ rfl rfl _ _ nZ (by kernel_rfl) rfl (iJ _ _ _ _) ?_;rw[hB]))
     go_roundw;case rel=>exact⟨j+1,l,by go_num,by omega,M.o,f.o,by omega,I.o⟩
     case measure=>simp[intOf];omega
    |true=>
     cases b3 with
     |false=>
      clear Y cT;go_wp2_with(first|(refine wpList_load_mid rfl 45 _ rfl ga (j*11) rfl (apC (a,.slice V a.who.length P)).toList _ u apT rfl (by kernel_rfl) ?_)|(refine ay rfl 45 _ _ rfl _ _ rfl rfl _ _ nZ (by kernel_rfl) rfl (iJ _ _ _ _) ?_;rw[hB]))
      go_roundw;case rel=>exact⟨j+1,l,by go_num,by omega,M.o,f.o,by omega,I.o⟩
      case measure=>simp[intOf];omega
     |true=>
      go_wp2_with(first|(refine wpList_load_mid rfl 45 _ rfl ga (j*11) rfl (apC (a,.slice V a.who.length P)).toList _ u apT rfl (by kernel_rfl) ?_)|(refine ay rfl 45 _ _ rfl _ _ rfl rfl _ _ nZ (by kernel_rfl) rfl (iJ _ _ _ _) ?_;rw[hB]))
      refine Y.mono ?_;rintro e w1 ⟨rfl,b1⟩;have z:=aw M.o b1;have c:=br f.o fun b H=>b1.block b (f.o.lt b H).2;have U:=bt b1 nB;clear Y y0 y8 aU nB u b1 M f S G;cases b4 with
      |false=>
       have M:=aF z;have f:=aF c;clear cT z c U;go_wp2_with fail;go_roundw;case rel=>exact⟨j+1,l,by go_num,by omega,M.o,f.o,by omega,I.o⟩
       case measure=>simp[intOf];omega
      |true=>
       have ad:=cT w1;clear cT;go_wp2_with(refine aR rfl 45 _ rfl _ rfl _ _ _ _ U apT rfl (by kernel_rfl) ?_)
       refine ad.mono ?_;rintro e w2 ⟨rfl,b2⟩;have J:=aw z b2;have x:=br c fun b H=>b2.block b (c.lt b H).2;obtain⟨wC,hC,bC,nC⟩:=nb w2 #[ag fr,ag to] 87;have y:=br x fun b H=>bC.block b (x.lt b H).2;have A:=aw J bC;clear ad z c U x J b2 bC;go_wp2_with(at_builtin;refine iB rfl _ _ 118 87 rfl zQ O0 rfl (by decide) (by decide) rfl y rfl nC rfl (by simp[Value.oneCell']) (by omega) A.size ?_)
       rintro v' w4 E an _ g4 c4 rfl;have D:=A.grown an A.size (fun k hk=>(y.lt k hk).1)
       have f:PN (w4.ownsRow X.heap.size 87 2 (.slice (some (ae g4 0)) (l.length+1) c4) (l++[(fr,to)]).length (iU (l++[(fr,to)]))):=by
        show World.ownsRow _ _ _ _ _ _ _;rw[tN,aP];exact E
       clear y E an A hC nC;go_wp2_with fail;go_roundw;case rel=>exact⟨j+1,l++[(fr,to)],by go_num,by omega,D,f.o,by simp;omega,by rw[I.o];simp⟩
       case measure=>simp[intOf];omega
  ·have ao: ¬(j:Int)<(n:Int):=(by omega)
   have af:ie r day g d.aps 0=l:=by
    rw[Z,dg (by have:=HN.o;omega)];simp[ie]
   have I:=aF af;have T:=ac.o.below s;have cM:=Aq r day wr T aJ.o aK.o;have f:=aF m;have aC:=aF s;have aY:=aF T;have a7:=bt s nA;obtain⟨pl,cl,aT⟩:=df m;subst aT;clear Z af m s T nA aQ;go_wp2_with fail;refine cM.mono ?_;rintro e w1 ⟨rfl,ai,p⟩
   have c:w1.ownsRow X.heap.size 87 2 (.slice pl l.length cl) l.length (iU l):=br f.o fun b H=>by
    have ax:=f.o.lt b H;exact p.blk b (ac.o.fx (.inr ax.1)).1 ax.2
   have cO:=DK _ l w1 (ib.of_own c).row;have a4:=Kd.at (t:=t) (t':=t) H0.o (aB _) ⟨p.os,p.tape,p.output,p.size,p.blk,p.gx,rfl⟩ a7;have aG:=aF p;have aD:=aF ai;obtain⟨N,Q⟩:=au ((fi d r day).1);rw[Q];have aH:=aF Q;clear cM c p ai Q a7;go_wp2_with fail;refine cO.mono ?_;rintro e w2 ⟨rfl,b2⟩;have cD:=qe N (inl l) w2;have a5:=bt b2 a4;clear cO a4;go_wp2_with fail;refine cD.mono ?_;rintro e w3 ⟨rfl,b3⟩;have O:=aw b2 b3;have a6:=bt b3 a5;have hk: ∀k,k<w3.heap.size->k≠w.heap.size->(w3.setRow w.heap.size (mv fun i=>(N i&& !inl l i)&&decide (i<1440))).heap[k]? =w3.heap[k]? :=fun k _ aS=>aV _ _ _ _ aS
   have HO:PN (dt B gD (fi d r day).2 t (w3.setRow w.heap.size (mv fun i=>(N i&& !inl l i)&&decide (i<1440)))/\Kd gD t t w (w3.setRow w.heap.size (mv fun i=>(N i&& !inl l i)&&decide (i<1440)))):=by
    refine⟨(aD.o.below O).closed (by simp) hk,?_⟩;have k1:=Kd.opened (aw aA.o aC.o) (aG.o.trans (Kd.of O));exact k1.closed (aB _) rfl rfl rfl (by simp) hk
   have HR:=aF (aL _ _ _ (mv fun i=>(N i&& !inl l i)&&decide (i<1440)) _ _ a6)
   have HF:PN (iq d r day g=(fun i=>(N i&& !inl l i)&&decide (i<1440),(fi d r day).2)):=by
    show _=_;unfold iq pQ;rw[I.o,aH.o]
   clear cD hk b2 b3 O a5;go_wp2_with(refine ay rfl 84 _ _ rfl _ _ rfl rfl _ _ a6 (bh _) (by simp[bO]) (dQ _) ?_)
   refine aW (v:= .agg (mv fun i=>(N i&& !inl l i)&&decide (i<1440))) ?_ rfl ⟨by rw[HF.o],by rw[HF.o];exact HO.o.1,HO.o.2⟩;exact bc rfl _ _ w.heap.size _ _ _ _ rfl HR.o bV rfl (bh _)
end
end
section
section
variable {B gD:Nat} {d:Dk} {t:Tr}
theorem Kn {p i q s o:Nat}{x:Option Addr}{sv:Value}{a:Ap}{r day min num:Int}(w:World)(h:dt B gD d t w)(L:0<=r)(O:r<d.res.length)(j:w.heap[p]? =ah #[ab gD 0] 55)(k:w.heap[i]? =ah #[ag day,ag min,sv] 25)(m:w.heap[q]? =ah #[ag num] 3)(n:w.heap[s]? =ah (apC (a,.slice x a.who.length o)) 45)(z:Gx gD t i)(A:Gx gD t q)(C:Gx gD t s)(y:Gx gD t p):
  Calls prog 31 #[ag r,ab p 0,ab i 0,ab q 0,ab s 0] w fun e w'=>e= .returned (.bool (kS day num a.fr a.to r d).1)/\dt B gD (kS day num a.fr a.to r d).2 t w'/\Kd gD t t w w':=by
 unfold kS;dsimp only;go_enter func31,ntmps31;go_upto_region 1 with fail;refine dh (fun M _ W=>Kd gD t t w W/\dt B gD (bif M 5 then(iq d r day num).2 else d) t W) [kn 7 (ab gD 0),kn 8 (ag r),kn 9 (ab i 0),kn 10 (ag day),kn 11 (ag num),dk 12 (.agg (mv (iq d r day num).1)),kn 13 (.agg (apC (a,.slice x a.who.length o))),kn 14 (.agg #[ag a.fr,ag a.to]),kn 15 (.bool (fQ (iq d r day num).1 a.fr a.to)),kn 16 (.bool (!(fQ (iq d r day num).1 a.fr a.to))),kn 6 (.bool (!(fQ (iq d r day num).1 a.fr a.to)))] (fun _=>⟨Kd.of (aI _ _).drew,h.below (aI _ _).drew⟩) (fun _ _ _ _ H h=>⟨h.1.trans (Kd.of H),h.2.below H⟩) (by kernel_rfl) ?_ ?_
 ·rintro M φ W ⟨c,g⟩ _ F l I E;have S:=cr 0 ((c.blk _ y (aH j)).trans j) rfl;have T:=cr 0 ((c.blk _ z (aH k)).trans k) rfl;have U:=cr 0 ((c.blk _ A (aH m)).trans m) rfl;have P:=(c.blk _ C (aH n)).trans n;clear j k m n;simp only[kn,dk,dW,aQ,aX,Act.put,aA,aK,aJ]at I;subst I;simp only[cZ,Nat.reduceAdd]at E;dsimp only[kn,dk,dB,eN,eg,Act.put];and_intros;all_goals first|exact trivial|intro R Q N K f
  all_goals try (go_simp;with_reducible exact f _ _ ⟨rfl,aI _ _⟩)
  ·rw[N]at g;go_simp;refine(Cc r day num W g L O).mono ?_;rintro J D ⟨rfl,u,v⟩;exact f _ _ ⟨rfl,c.trans v,u⟩
  ·show Oper.wp _ _ _ _ _ _;refine dU 45 _ rfl _ (by simp[Act.eval,E]) _ _ _ _ P apT rfl (by kernel_rfl) ?_;exact f _ _ ⟨rfl,aI _ _⟩
  ·go_simp;refine(tW a x o W).mono ?_;rintro J D ⟨rfl,b⟩;exact f _ _ ⟨rfl,b⟩
  ·go_simp;refine(tP _ a.fr a.to W).mono ?_;rintro J D ⟨rfl,b⟩;exact f _ _ ⟨rfl,b⟩
 ·rintro M φ W G ⟨c,g⟩;rw[G 5 (by decide) rfl]at g;simp only[kn,dk,eh,aQ,aX,Act.put,aA,aK,aJ];clear j k m n G;go_wp2_with fail;go_ret;exact⟨rfl,g,c⟩
theorem Io {n c m:Nat}{q:Option Addr}{a:Ap}{r:Int}(w:World)(h:dt B gD d t w)(E:0<=r)(H:r<d.res.length)(j:w.heap[n]? =ah #[ab gD 0] 55)(k:w.heap[c]? =ah (apC (a,.slice q a.who.length m)) 45)(u:Gx gD t c)(s:Gx gD t n):
  Calls prog 43 #[ag r,ab n 0,ab c 0] w fun e w'=>e= .returned (.bool (kZ a.day a.fr a.to r d).1)/\dt B gD (kZ a.day a.fr a.to r d).2 t w'/\Kd gD t t w w':=by
 unfold kZ;dsimp only;go_enter func43,ntmps43;go_upto_region 1 with fail;refine dh (fun M _ W=>Kd gD t t w W/\dt B gD (bif M 5 then(fi d r a.day).2 else d) t W) [kn 5 (ab gD 0),kn 6 (ag r),kn 7 (ab c 8),kn 8 (ab c 8),kn 9 (ag a.day),dk 10 (.agg (mv (fi d r a.day).1)),kn 11 (.agg (apC (a,.slice q a.who.length m))),kn 12 (.agg #[ag a.fr,ag a.to]),kn 13 (.bool (fQ (fi d r a.day).1 a.fr a.to)),kn 14 (.bool (!(fQ (fi d r a.day).1 a.fr a.to))),kn 4 (.bool (!(fQ (fi d r a.day).1 a.fr a.to)))] (fun _=>⟨Kd.of (aI _ _).drew,h.below (aI _ _).drew⟩) (fun _ _ _ _ z h=>⟨h.1.trans (Kd.of z),h.2.below z⟩) (by kernel_rfl) ?_ ?_
 ·rintro M φ W ⟨i,g⟩ _ F l A x;have L:=cr 0 ((i.blk _ s (aH j)).trans j) rfl;have D:=(i.blk _ u (aH k)).trans k;have N:W.cell? (ae c 8)=some (ag a.day):=cr 8 D rfl;clear j k;simp only[kn,dk,dW,aQ,aX,Act.put,aA,aK,aJ]at A;subst A;simp only[cZ,Nat.reduceAdd]at x;dsimp only[kn,dk,dB,eN,eg,Act.put];and_intros;all_goals first|exact trivial|intro J I G K f
  all_goals try (go_simp;with_reducible exact f _ _ ⟨rfl,aI _ _⟩)
  ·rw[G]at g;go_simp;refine(Aq r a.day W g E H).mono ?_;rintro C v ⟨rfl,o,p⟩;exact f _ _ ⟨rfl,i.trans p,o⟩
  ·show Oper.wp _ _ _ _ _ _;refine dU 45 _ rfl _ (by simp[Act.eval,x]) _ _ _ _ D apT rfl (by kernel_rfl) ?_;exact f _ _ ⟨rfl,aI _ _⟩
  ·go_simp;refine(tW a q m W).mono ?_;rintro C v ⟨rfl,b⟩;exact f _ _ ⟨rfl,b⟩
  ·go_simp;refine(tP _ a.fr a.to W).mono ?_;rintro C v ⟨rfl,b⟩;exact f _ _ ⟨rfl,b⟩
 ·rintro M φ W y ⟨i,g⟩;rw[y 5 (by decide) rfl]at g;simp only[kn,dk,eh,aQ,aX,Act.put,aA,aK,aJ];clear j k y;go_wp2_with fail;go_ret;exact⟨rfl,g,i⟩
end
end
section
theorem Ip (u v:Ru)(s t:Option Addr)(p r:Nat)(w:World)(ha:qt w (u,.slice s u.2.kids.length p))(H:qt w (v,.slice t v.2.kids.length r)):Calls prog 41 #[.agg #[.string ⟨u.1.toArray⟩,ag u.2.kind,ag u.2.a,ag u.2.b,.string ⟨u.2.name.toArray⟩,.slice s u.2.kids.length p],.agg #[.string ⟨v.1.toArray⟩,ag v.2.kind,ag v.2.a,ag v.2.b,.string ⟨v.2.name.toArray⟩,.slice t v.2.kids.length r]] w fun e w'=>e= .returned (.bool (pR u v))/\aq w w':=by
 obtain⟨J,L,D,F⟩:=nb w #[.string ⟨u.1.toArray⟩,ag u.2.kind,ag u.2.a,ag u.2.b,.string ⟨u.2.name.toArray⟩,.slice s u.2.kids.length p] 104;obtain⟨K,I,y,j⟩:=nb J #[.string ⟨v.1.toArray⟩,ag v.2.kind,ag v.2.a,ag v.2.b,.string ⟨v.2.name.toArray⟩,.slice t v.2.kids.length r] 104;have f:=aw D y;have i:=bt y F;obtain⟨_,_,d,E⟩:=ha;obtain⟨_,_,G,m⟩:=H;have c:=Kk d _ _ (hgt u.2+1) G u.2 v.2 s t p r K (fun k z=>aT z f.size) (fun k z=>aT z f.size) (Nat.lt_succ_self _) (E.kept fun g _ A=>f.block g A) (m.kept fun g _ A=>f.block g A);have C:PN (pR u v=(decide (u.1=v.1)&&lK (hgt u.2+1) u.2 v.2)):=rfl;have N:=cr 0 i rfl;have O:=cr 1 i rfl;have P:=cr 2 i rfl;have Q:=cr 3 i rfl;have R:=cr 4 i rfl;have S:=cr 5 i rfl;have T:=cr 0 j rfl;have U:=cr 1 j rfl;have V:=cr 2 j rfl;have W:=cr 3 j rfl;have X:=cr 4 j rfl;have Y:=cr 5 j rfl;have B:=aF f;have n:=tz u.1 v.1;clear E m D y F j i f;by_cases q:u.1=v.1
 ·rw[bm q]at n;have x:=aF q;clear q;go_enter func41,ntmps41;go_wp2_with fail;refine c.mono ?_;rintro e M ⟨rfl,l⟩;have f:=aw B.o l;clear c l;go_wp2_with fail;go_ret;exact⟨by rw[C.o];simp[x.o],f⟩
 ·rw[bn q]at n;have x:=aF q;clear c q;go_enter func41,ntmps41;go_wp2_with fail;go_ret;exact⟨by rw[C.o];simp[x.o],B.o⟩
section
variable {B gD:Nat} {d:Dk} {t:Tr}
theorem Iq {X Y k:Nat}{v2:Value}{j:List (Ru×Value)}(w:World)(h:dt B gD d t w)(C:InR w v2 j)(hk:k<j.length)(n1:w.heap[X]? =ah #[ab gD 0] 55)(n2:w.heap[Y]? =ah #[v2] 32):
  Calls prog 40 #[ag (k:Int),ab X 0,ab Y 0] w fun e w'=>e= .returned (.bool (jo d.rules (j.map (fun p=>p.1)) (k:Int)))/\aq w w':=by
 obtain⟨_,rv,cv,vv,kv,ss,aa,A⟩:=h;obtain⟨U,i,r⟩:=A.rules.here;have v:=cr 0 A.blk rfl;obtain⟨pr,g,rfl⟩:=i.form;obtain⟨pn,cn,rfl⟩:=C.form;obtain⟨n,T⟩:=au U.length;obtain⟨m,S⟩: ∃m,j.length=m:=⟨_,rfl⟩
 have HU:=aF C;have HR:=aF i;rw[T]at v;rw[S]at n2 hk;have ad:(0:Int)<=(k:Int):=by omega
 have af:(k:Int)<(m:Int):=by omega
 obtain⟨⟨b,vb⟩,c⟩: ∃p,j[k]? =some p:=⟨j[k]'(by omega),az _⟩
 by_cases ai:k<n
 ·have u:((k:Int)>=(n:Int))=False:=by simp;omega
  have ac:(k:Int)<(n:Int):=(by omega);obtain⟨⟨a,va⟩,ha⟩: ∃p,U[k]? =some p:=⟨U[k]'(by omega),az _⟩
  obtain⟨y,D,e3,G,H,I,J,L,N⟩:=i.cells k _ ha;obtain⟨Z,o4,e4,b0,b1,b2,b3,O,b5⟩:=C.cells k _ c;have ra:=i.all _ (aM ha);have rb:=C.all _ (aM c);obtain⟨p1,c1,q1⟩:=(Classical.choose_spec ra.2.2).form;obtain⟨p2,V,q2⟩:=(Classical.choose_spec rb.2.2).form;dsimp only at G H I J L N b0 b1 b2 b3 O b5 q1 q2;subst q1 q2 e3 e4
  have E:PN (jo d.rules (j.map (fun p=>p.1)) (k:Int)= !pR a b):=by
   show _=_;have P:d.rules[k]? =some a:=(by rw[<-r,bg,ha];rfl);have h2:(j.map (fun p=>p.1))[k]? =some b:=(by rw[bg,c];rfl);have h3: ¬(d.rules.length:Int)<=(k:Int):=(by rw[<-r,ba];omega);unfold jo;rw[cj,P,h2];simp[h3]
  go_enter func40,ntmps40;go_upto_region 1 with fail;refine dh (fun _ _ W=>aq w W) [kn 5 (ag (k:Int)),kn 6 (ab gD 0),kn 7 (ab gD 0),kn 8 (ab gD 0),kn 9 (ab gD 0),kn 10 (.slice (some (ae y D)) n g),kn 11 (ag (n:Int)),kn 12 (.bool false),kn 13 (.bool false),kn 14 (ab gD 0),kn 15 (ab gD 0),kn 16 (ab gD 0),kn 17 (ab gD 0),kn 18 (.slice (some (ae y D)) n g),kn 19 (ag (k:Int)),kn 20 (ab y (D+k*6)),kn 21 (.agg #[.string ⟨a.1.toArray⟩,ag a.2.kind,ag a.2.a,ag a.2.b,.string ⟨a.2.name.toArray⟩,.slice p1 a.2.kids.length c1]),kn 22 (.slice (some (ae Z o4)) m cn),kn 23 (ag (k:Int)),kn 24 (ab Z (o4+k*6)),kn 25 (.agg #[.string ⟨b.1.toArray⟩,ag b.2.kind,ag b.2.a,ag b.2.b,.string ⟨b.2.name.toArray⟩,.slice p2 b.2.kids.length V]),kn 26 (.bool (pR a b)),kn 27 (.bool (!pR a b)),kn 28 (.bool (!pR a b)),kn 4 (.bool (!pR a b))] (fun _=>(aI _ _).drew) (fun _ _ _ _ c h=>aw h c) (by kernel_rfl) ?_ ?_
  ·rintro M φ W c _ F l s Q;have z1:=cr 0 (bt c n1) rfl;have z2:=cr 0 (bt c n2) rfl;have v:W.cell? (ae gD 0)=some (.slice (some (ae y D)) n g):=aj c v;have f:=fun(q:Addr) (x:Value) (h:w.cell? q=some x)=>aj c h;have G:=f _ _ G;have H:=f _ _ H;have I:=f _ _ I;have J:=f _ _ J;have L:=f _ _ L;have N:=f _ _ N;have b0:=f _ _ b0;have b1:=f _ _ b1;have b2:=f _ _ b2;have b3:=f _ _ b3;have O:=f _ _ O;have b5:=f _ _ b5;have cS:=Ip a b p1 p2 c1 V W (ra.below c) (rb.below c);simp only[kn,dW,aQ,aX,Act.put,aA,aK,aJ]at s;subst s;simp only[cZ,Nat.reduceAdd]at Q;dsimp only[kn,dB,eN,eg,Act.put];and_intros;all_goals first|exact trivial|intro hw T A K z
   all_goals try (go_simp;with_reducible exact z _ _ ⟨rfl,aI _ _⟩)
   go_simp;refine cS.mono ?_;rintro r' W' ⟨rfl,R⟩;exact z _ _ ⟨rfl,R⟩
  ·rintro M φ W hM c;simp only[kn,eh,aQ,aX,Act.put,aA,aK,aJ];go_wp2_with fail;go_ret;exact⟨by rw[E.o];rfl,c⟩
 ·have u:(n:Int)<=(k:Int):=by omega
  have E:PN (jo d.rules (j.map (fun p=>p.1)) (k:Int)=true):=by
   show _=_;have P:d.rules[k]? =none:=(by rw[<-r,bg,eX (by omega)];rfl);unfold jo;rw[cj,P]
  go_enter func40,ntmps40;go_upto_region 1 with fail;refine dh (fun _ _ W=>aq w W) [kn 5 (ag (k:Int)),kn 6 (ab gD 0),kn 7 (ab gD 0),kn 8 (ab gD 0),kn 9 (ab gD 0),kn 10 (.slice pr n g),kn 11 (ag (n:Int)),kn 12 (.bool true),kn 13 (.bool true),kn 14 (undef),kn 15 (undef),kn 16 (undef),kn 17 (undef),kn 18 (undef),kn 19 (undef),kn 20 (undef),kn 21 (undef),kn 22 (undef),kn 23 (undef),kn 24 (undef),kn 25 (undef),kn 26 (undef),kn 27 (undef),kn 28 (.bool true),kn 4 (.bool true)] (fun _=>(aI _ _).drew) (fun _ _ _ _ c h=>aw h c) (by kernel_rfl) ?_ ?_
  ·rintro M φ W c _ F l s Q;have z1:=cr 0 (bt c n1) rfl;have v:W.cell? (ae gD 0)=some (.slice pr n g):=aj c v;simp only[kn,dW,aQ,aX,Act.put,aA,aK,aJ]at s;subst s;simp only[cZ,Nat.reduceAdd]at Q;dsimp only[kn,dB,eN,eg,Act.put];and_intros;all_goals first|exact trivial|intro hw T A K z
   all_goals try (go_simp;with_reducible exact z _ _ ⟨rfl,aI _ _⟩)
  ·rintro M φ W hM c;simp only[kn,eh,aQ,aX,Act.put,aA,aK,aJ];go_wp2_with fail;go_ret;exact⟨by rw[E.o];rfl,c⟩
end
end
section
theorem My (n c:Nat)(w:World):(binOp .eql 23 (.slice none n c) (af)).run prog w= .ok (.bool true) w:=by rfl
theorem N1 (q:Addr)(n c:Nat)(w:World):(binOp .eql 23 (.slice (some q) n c) (af)).run prog w= .ok (.bool false) w:=by rfl
attribute [local go_sem] My N1
theorem yd (a:List Int)(v:Value)(w:World)(h:dS w v a)(D:a.length<=1000):Calls prog 36 #[v] w fun e w'=> ∃d,e= .returned d/\w'.ownsRow w.heap.size 3 1 d a.length (dp a)/\aq w w':=by
 have j:=aF h;obtain⟨p,c,rfl,E,s⟩:=h;cases p with
 |none=>
  have u:a=[]:=by
   cases a with
   |nil=>rfl
   |cons x l=>
    obtain⟨g,o,e,_⟩:=s 0 x rfl;cases e
  subst u;go_enter func36,ntmps36;go_wp2_with fail;go_ret;exact⟨_,rfl,dc _ _ _ _,aI _ _⟩
 |some q=>
  obtain⟨B,n,b,A⟩:=nb w #[] 3;have i:=Ir B A w.heap.size (aB _);have y:=j.o.below b;go_enter func36,ntmps36;go_wp2_with(first|(refine s7 rfl rfl ?_;rw[n])|(at_builtin;refine tY rfl _ _ rfl w.heap.size [] a _ _ rfl i rfl y (by simp;omega) b.size ?_))
  intro d w' f m;have r:=b.grown m b.size (fun k t=>(i.lt k t).1);obtain⟨F,C,z⟩:=df f;subst z;go_wp2_with fail;go_ret;exact⟨_,rfl,f,r⟩
theorem Is {w:World}{p:Option Addr}{n c:Nat}{d:List Int}(h:dS w (.slice p n c) d){j:Nat}(o:j<=d.length):dS w (.slice p j c) (d.take j):=by
 obtain⟨r,l,e,q,i⟩:=h;injection e with g m e2;subst g e2;have a:(d.take j).length=j:=by rw[eE];omega
 refine⟨p,c,by rw[a],by omega,fun k x f=>i k x ?_⟩;have b:=(aG.1 f).1;rw[a]at b;rw[dK b]at f;exact f
theorem It {who:List Int}{roles:List (List Int)}{n j:Nat}{x:Int}{l:List Int}(d:j<n)(c:who[j]? =some x)(b:roles[j]? =some l):rD who roles (n-j) j=if decide (x∈l)=false then 6 else if decide (x∈who.take j)=true then 7 else rD who roles (n-(j+1)) (j+1):=by
 rw[show n-j=(n-(j+1))+1 by omega];simp only[rD,List.getD,c,b,Option.getD_some];by_cases a:x∈l<;>simp[a]
theorem Cf (who:List Int)(roles:List (List Int))(p:Option Addr)(c:Nat)(Y:Value)(w:World)(h:dS w (.slice p who.length c) who)(F:who.length<=c)(X:fk w Y roles):Calls prog 30 #[.slice p who.length c,Y] w fun e w'=>e= .returned (ag (j7 who roles))/\aq w w':=by
 have V:=aF h;have HR:=aF X;obtain⟨p0,c0,e0,hl,K⟩:=h;injection e0 with J e3 e2;subst J e2;clear e3;obtain⟨q,cq,rfl,M,s⟩:=X;obtain⟨n,A⟩:=au who.length;obtain⟨m,z⟩:=au roles.length;have U:=aF A;have Z:=aF z;have T:=aF K;have B:=aF s;rw[A]at V hl F⊢;rw[z]at HR M⊢;have ae:(n:Int)<9223372036854775808:=by omega
 have ad:(m:Int)<9223372036854775808:=by omega
 by_cases b:n=m
 ·have I:PN (j7 who roles=rD who roles n 0):=by
   show _=_;unfold j7;rw[A,z,ax (by simpa using b)]
  subst b;clear K s A z;go_enter func30,ntmps30;go_wp2_with fail;go_loopw [5,6,14] (fun _ _ t wr=> ∃j:Nat,t=ag (j:Int)/\j<=n/\aq w wr/\j7 who roles=rD who roles (n-j) j) (fun _ _ t _=>n-(intOf t).toNat);case atStart=>exact⟨0,rfl,by omega,aI _ _,I.o⟩
  case round=>
   obtain⟨j,rfl,hj,y,k⟩:=hrel;have ab:(0:Int)<=(j:Int):=(by omega);by_cases L:j<n
   ·have G:(j:Int)<(n:Int):=(by omega);have ac:j<=n:=hj;obtain⟨x,Q⟩: ∃x,who[j]? =some x:=⟨who[j]'(by have:=U.o;omega),az _⟩
    obtain⟨l,u⟩: ∃l,roles[j]? =some l:=⟨roles[j]'(by have:=Z.o;omega),az _⟩
    rw[It L Q u]at k;obtain⟨g,o,J,c1⟩:=T.o j x Q;obtain⟨g2,o2,sv,e2,W,f⟩:=B.o j l u;subst J e2;have d1:=aj y c1;have d2:=aj y W;have R:=jF l sv x wr (f.below y);obtain⟨ps,cs,P,N,O⟩:=f;subst P;clear N O;have HT:=aF (Is V.o (j:=j) (by have:=U.o;omega));obtain⟨b1,E⟩:=au (decide (x∈l));obtain⟨b2,r⟩:=au (decide (x∈who.take j));rw[E]at R k;rw[r]at k;have H:=aF r;have v:=aF k;clear k E r Q u c1 W;go_wp2_with fail;refine R.mono ?_;rintro e w1 ⟨rfl,C⟩;have a:=aw y C;clear R d1 d2 C y;cases b1 with
    |false=>
     have i:PN (j7 who roles=6):=v.o;clear v;go_wp2_with fail;go_ret;exact⟨by rw[i.o];rfl,a⟩
    |true=>
     have S:=jF (who.take j) _ x w1 (HT.o.below a);rw[H.o]at S;have aa:(j:Int)<=(c:Int):=(by omega);go_wp2_with fail;refine S.mono ?_;rintro e w2 ⟨rfl,D⟩;have d:=aw a D;clear S D a;cases b2 with
     |true=>
      have i:PN (j7 who roles=7):=v.o;clear v;go_wp2_with fail;go_ret;exact⟨by rw[i.o];rfl,d⟩
     |false=>
      have i:PN (j7 who roles=rD who roles (n-(j+1)) (j+1)):=v.o;clear v;go_wp2_with fail;go_roundw;case rel=>exact⟨j+1,by go_num,by omega,d,i.o⟩
      case measure=>simp[intOf];omega
   ·have G: ¬(j:Int)<(n:Int):=(by omega)
    have i:PN (j7 who roles=0):=by
     show _=_;rw[k,show n-j=0 by omega];rfl
    clear k;go_wp2_with fail;go_ret;exact⟨by rw[i.o];rfl,y⟩
 ·have I:PN (j7 who roles=5):=by
   show _=_;unfold j7;rw[A,z,aD b]
  have af:((n:Int) !=(m:Int))=true:=(by simpa using(by omega: ¬(n:Int)=(m:Int)));clear K s A z b T B;go_enter func30,ntmps30;go_wp2_with fail;go_ret;exact⟨by rw[I.o];rfl,aI _ _⟩
end
section
section
variable {B gD:Nat} {d d':Dk} {t t':Tr} {rv cv vv kv:Value} {ss ss':List (Sv×Value)} {aa aa':List (Ap×Value)} {w w':World}
theorem DkM.turn (h:DkM B gD d t rv cv vv kv ss aa w)(c:Kd gD t t' w w')(k:w'.heap[gD]? =ah #[rv,t'.ev,t'.sv,t'.av,cv,vv,ag d'.given,kv,ag d'.runs] 53)(g:d'.rules=d.rules)(e2:d'.vers=d.vers)(j:d'.kept=d.kept)
  (r1:w'.ownsRow B 9 1 t'.ev d'.res.length (d'.res.map kO)) (s:w'.ownsRow B 29 4 t'.sv ss'.length (svF ss')) (v:w'.ownsRow B 45 11 t'.av aa'.length (apF aa')) (o:ss'.map (fun p=>p.1)=d'.svs) (r:aa'.map (fun p=>p.1)=d'.aps)
  (m: ∀p∈ss',p∈ss\/Rob (Fx gD t') (fun u=>fk u p.2 p.1.roles) w') (n: ∀p∈aa',(∃a,(a,p.2)∈aa/\a.who=p.1.who)\/Rob (Fx gD t') (fun u=>dS u p.2 p.1.who) w'):DkM B gD d' t' rv cv vv kv ss' aa' w':=by
 refine⟨k,h.lo,by rw[g];exact c.rob h.rules,by rw[g];exact c.rob h.codes,by rw[e2];exact c.rob h.vers,by rw[j];exact c.rob h.kept,r1,s,o,fun p b=> ?_,v,r,fun p b=> ?_,fun q i=> ?_⟩
 ·rcases m p b with b|b
  ·exact c.rob (h.svr p b)
  ·exact b
 ·rcases n p b with⟨a,b,e⟩|b
  ·rw[<-e];exact c.rob (h.apr (a,p.2) b)
  ·exact b
 ·rw[c.xs]at i;have f:=h.nx q i;have l:=c.gx q f.1 f.2.2;exact⟨aT f.1 c.size,f.2.1,l⟩
theorem Cg {k:Nat}{v:Value}(_:DkM B gD d t rv cv vv kv ss aa w){l:World}{b:Value}(m:b=t.ev\/b=t.sv\/b=t.av)(g:w.grownBy l b.ownBlock)(n:v.ownBlock=b.ownBlock\/v.ownBlock=some w.heap.size)(j:(t'={t with ev:=v}/\b=t.ev)\/(t'={t with sv:=v}/\b=t.sv)\/(t'={t with av:=v}/\b=t.av)):Kd gD t t' w (l.setCell ⟨gD,k,none⟩ v):=by
 have i: ∀q,Gx gD t q->some q≠b.ownBlock:=fun q a=>by
  rcases m with rfl|rfl|rfl
  ·exact a.2.1
  ·exact a.2.2.1
  ·exact a.2.2.2
 have c: ∀q,q<w.heap.size->Gx gD t q->some q≠v.ownBlock:=fun q f a=>by
  rcases n with e|e
  ·rw[e];exact i q a
  ·rw[e];intro e;have:=aN e;omega
 refine⟨g.os,g.tape,g.output,by simpa using g.size,fun q a f=>((aO _ _ _ _ a.1).trans (g.block q f (i q a))),fun q f a=> ?_,?_⟩
 ·rcases j with⟨rfl,_⟩|⟨rfl,_⟩|⟨rfl,_⟩
  ·exact⟨a.1,c q f a,a.2.2.1,a.2.2.2⟩
  ·exact⟨a.1,a.2.1,c q f a,a.2.2.2⟩
  ·exact⟨a.1,a.2.1,a.2.2.1,c q f a⟩
 ·rcases j with⟨rfl,_⟩|⟨rfl,_⟩|⟨rfl,_⟩<;>rfl
theorem po {b1 b2 T1 c p q n o:Nat}{d f:Value}{r s:List Value}(j:w.ownsRow b1 T1 p d n r)(k:w.ownsRow b2 c q f o s)(l:T1≠c){b:Nat}(a:d.ownBlock=some b):f.ownBlock≠some b:=by
 rcases j.2 with⟨e,_⟩|⟨g,cap,i,e,_,m,_⟩
 ·rw[e]at a;cases a
 ·rw[e]at a;have:g=b:=aN a;subst this;exact ir k m l
theorem pY {T1 g j v i t:Nat}{l m:Value}{o x:List Value}{k:Nat}{u:Value}{n:World}(a: ∃c,w.heap[gD]? =ah c 53)(d:w.ownsRow B T1 j l i o)(p:w.ownsRow B g v m t x)(r:T1≠g)(q:(53:Nat)≠T1)(s:w.grownBy n m.ownBlock):(n.setCell ⟨gD,k,none⟩ u).ownsRow B T1 j l i o:=by
 obtain⟨c,a⟩:=a;refine br d fun b f=> ?_;exact(aO _ _ _ _ (fun e=>ir d a q (by rw[f,e]))).trans (s.block b (d.lt b f).2 (fun e=>po d p r f e.symm))
theorem ye {p:List Int}{n a:Int}(c:n<=a): ∀(m i:Nat),ni p n m i=0->ni p a m i=0
 |0,_,_=>rfl
 |m+1,i,h=>by
  unfold ni at h⊢;split at h
  ·cases h
  ·rename_i d;rw[ax (by omega)];split at h
   ·cases h
   ·rename_i b;rw[ax b];exact ye c m (i+1) h
theorem vz {n b:Int}(c:n<=b): ∀(l:List (List Int)),kJ n l=0->kJ b l=0
 |[],_=>rfl
 |p::l,h=>by
  unfold kJ at h⊢;by_cases a:iM p n=0
  ·rw[ax (by simpa using a)]at h
   have d:iM p b=0:=by
    unfold iM at a⊢;split at a
    ·cases a
    ·rename_i e;rw[ax e];exact ye c _ _ a
   rw[ax (by simpa using d)];exact vz c l h
  ·rw[aD a]at h;exact absurd h a
theorem Df {s:Sv}{n a:Int}(d:n<=a)(h:fq s n=0):fq s a=0:=by
 unfold fq at h⊢;split at h
 ·cases h
 ·rename_i b;rw[ax b];split at h
  ·cases h
  ·rename_i c;rw[ax c];exact vz d _ h
def rH (B:Nat)(w:World)(v:Value)(l:List Int):Prop:=dS w v l/\(∀p n k,v= .slice p n k->n<=k)/\ ∀b,v.ownBlock=some b->B<=b
def qI (B gD:Nat)(p:An×Dk)(t:Tr)(w:World)(e:Ending)(w':World):Prop:= ∃(t':Tr) (a lv:Value),e= .returned (.agg (anC p.1 a lv))/\dt B gD p.2 t' w'/\Kd gD t t' w w'/\Rob (Fx gD t') (fun u=>rH B u a p.1.who) w'/\Rob (Fx gD t') (fun u=>dS u lv p.1.list) w'
theorem et (P:Nat->Prop)(w:World):Rob P (fun u=>dS u (af) []) w:=fun u _ _=>⟨none,0,rfl,by simp,fun j n a=>by simp at a⟩
theorem ff {B:Nat}(P:Nat->Prop)(w:World):Rob P (fun u=>rH B u (af) []) w:=fun u _ _=>⟨⟨none,0,rfl,by simp,fun j n a=>by simp at a⟩,(fun p n k e=>by cases e;exact aB _),fun b e=>by cases e⟩
theorem fB {q:Nat}{W:World}(b:dt B gD d (t'.add q) W)(e:Kd gD t t' w W)(f:w.heap.size<=q)(c:Array Value):dt B gD d t' (W.setRow q c)/\Kd gD t t' w (W.setRow q c):=
 ⟨b.closed (by simp) fun k _ a=>aV _ _ _ _ a,e.closed f rfl rfl rfl (by simp) fun k _ a=>aV _ _ _ _ a⟩
theorem Pw:(prog.info? 9).map (fun i=>(i.zero,i.size,i.bytes))=some (some (.string ⟨#[]⟩),1,16):=by kernel_rfl
theorem O1:prog.underlying 33=some (.slice 9):=by kernel_rfl
theorem Fy (x:List UInt8)(w:World)(h:dt B gD d t w)(hx:x.length<=9223372036854775807):Calls prog 9 #[ab gD 0,kO x] w (qI B gD (rE d x) t w):=by
 obtain⟨Z,hA,bA,nA⟩:=nb w #[ag 0,ag 0,ag 0,ag 0,af,af] 43;have az:Z.heap.size=w.heap.size+1:=by rw[<-hA];simp
 have P:=h.opened (aB _) az bA;have D:=aF P;obtain⟨c,rv,cv,vv,kv,ss,aa,hm⟩:=P;obtain⟨pe,ce,Q⟩:=df hm.res;obtain⟨n,Y⟩:=au d.res.length
 have z1:Z.cell? (ae gD 1)=some (.slice pe n ce):=by
  have:=cr (v:=t.ev) 1 hm.blk rfl;rw[this,<-Y];exact congrArg some Q
 have a0:n<=12:=by rw[<-Y];exact c.rl
 have F:=aF Y;have cR:=fun(e:Int) (W:World)=>fb e W;have J:=aF bA;have E:PN (t.ev= .slice pe n ce):=by show _=_;rw[<-Y];exact Q
 have HM:=aF hm;have HX:=aF hx;have ai:=aF c;unfold kO;by_cases G:12<=n
 ·have M:(12:Int)<=(n:Int):=by omega
  have K:PN (rE d x=(noA 5,d)):=(by show _=_;unfold rE;rw[aD (by rw[F.o];exact G)]);go_enter func9,ntmps9;go_wp2_with fail;refine(cR 5 Z).mono ?_;rintro e w1 ⟨rfl,b1⟩;have U:=bt b1 nA;have N:=aw J.o b1;have z:=aF (fB (D.o.below b1) (Kd.of (t:=t) (gD:=gD) N) (aB _) (anC (noA 5) (af) (af)));have L:=aF (aL _ _ _ (anC (noA 5) (af) (af)) _ _ U);go_wp2_with(refine ay rfl 43 _ _ rfl _ _ rfl rfl _ _ U (by kernel_rfl) rfl (by simp[anC,Value.oneCell']) ?_)
  refine aW (v:= .agg (anC (noA 5) (af) (af))) ?_ rfl ?_
  ·exact bc rfl _ _ w.heap.size _ _ _ _ rfl L.o anT rfl (by kernel_rfl)
  ·rw[K.o];exact⟨t,_,_,rfl,z.o.1,z.o.2,ff _ _,et _ _⟩
 ·have M: ¬(12:Int)<=(n:Int):=by omega
  have cC:=ya x Z D.o;unfold kO at cC;obtain⟨k,hk⟩:=au (atP5 d.rules x);rw[hk]at cC;have HK:=aF hk;go_enter func9,ntmps9;go_wp2_with fail;refine cC.mono ?_;rintro e w1 ⟨rfl,b1⟩;have U:=bt b1 nA;have I:=aF (aw J.o b1);have ad:=aF (D.o.below b1);have ah:=aF (HM.o.below b1);have a5:=aj b1 z1;by_cases R:k<0
  ·have K:PN (rE d x=(noA 7,d)):=(by show _=_;unfold rE;rw[ax (by rw[F.o];exact G),HK.o,aD R]);have ak:=cR 7 w1;go_wp2_with fail;refine ak.mono ?_;rintro e q ⟨rfl,b2⟩;have n2:=bt b2 U;have N:=aw I.o b2;have z:=aF (fB (ad.o.below b2) (Kd.of (t:=t) (gD:=gD) N) (aB _) (anC (noA 7) (af) (af)));have L:=aF (aL _ _ _ (anC (noA 7) (af) (af)) _ _ n2);go_wp2_with(refine ay rfl 43 _ _ rfl _ _ rfl rfl _ _ n2 (by kernel_rfl) rfl (by simp[anC,Value.oneCell']) ?_)
   refine aW (v:= .agg (anC (noA 7) (af) (af))) ?_ rfl ?_
   ·exact bc rfl _ _ w.heap.size _ _ _ _ rfl L.o anT rfl (by kernel_rfl)
   ·rw[K.o];exact⟨t,_,_,rfl,z.o.1,z.o.2,ff _ _,et _ _⟩
  ·have K:PN (rE d x=(iW n,{d with res:=d.res++[x]})):=(by show _=_;unfold rE;rw[ax (by rw[F.o];exact G),HK.o,ax R,F.o]);obtain⟨X,hB,bB,nB⟩:=nb w1 #[.string ⟨x.toArray⟩] 9;have u:=ah.o.below bB
   have S:X.ownsRow B 9 1 (.slice pe n ce) n (d.res.map kO):=by
    have:=u.res;rw[F.o]at this;rw[<-E.o];exact this
   have am:B<=X.heap.size:=(by have:=u.lo;have:=aH u.blk;omega);have f:=aF u;have ac:=aF (aw I.o bB);have V:=bt bB U;go_wp2_with(at_builtin;refine iB rfl _ _ 33 9 rfl O1 Pw rfl (by decide) (by decide) rfl S rfl nB rfl (by simp[Value.oneCell']) (by omega) am ?_)
   rintro v' q C ao O m l rfl;have g:=f.o.blk;have av:=f.o.nx w.heap.size (bq ..)
   have j:X.grownBy q (t.add w.heap.size).ev.ownBlock:=by
    show X.grownBy q t.ev.ownBlock;rw[E.o];exact ao
   have H:Kd gD (t.add w.heap.size) (({t with ev:= .slice (some (ae m 0)) (n+1) l}:Tr).add w.heap.size) X (q.setCell ⟨gD,1,none⟩ (.slice (some (ae m 0)) (n+1) l)):=Cg f.o (.inl rfl) j (by show _=t.ev.ownBlock\/_;rw[E.o];exact O) (.inl ⟨rfl,rfl⟩);have i:=(j.block gD (aH g) (fun e=>ir f.o.res g (by decide) e.symm)).trans g;have A:=aY q gD 1 _ _ (.slice (some (ae m 0)) (n+1) l) i;have y1:=cr 1 i rfl;have x1:=bl _ _ 1 _ _ i;have n3:=(H.blk w.heap.size av.2.2 (aH V)).trans V
   have ar:DkM B gD {d with res:=d.res++[x]} (({t with ev:= .slice (some (ae m 0)) (n+1) l}:Tr).add w.heap.size) rv cv vv kv ss aa (q.setCell ⟨gD,1,none⟩ (.slice (some (ae m 0)) (n+1) l)):=by
    refine f.o.turn H A rfl rfl rfl ?_ (pY ⟨_,g⟩ f.o.svs f.o.res (by decide) (by decide) j) (pY ⟨_,g⟩ f.o.aps f.o.res (by decide) (by decide) j) f.o.sve f.o.ape (fun p hp=> .inl hp) (fun p hp=> .inl ⟨p.1,hp,rfl⟩);refine br ?_ fun b N=>aO q ⟨gD,1,none⟩ b _ (fun e=>ir C i (by decide) (by rw[<-show b=gD from e];exact N));show q.ownsRow B _ 1 (.slice (some (ae m 0)) (n+1) l) (d.res++[x]).length ((d.res++[x]).map kO);rw[aP,F.o,dN];exact C
   have c:=ai.o;have a1:((d.res++[x]).length:Int)=(d.res.length:Int)+1:=(by simp)
   have an:dt B gD {d with res:=d.res++[x]} (({t with ev:= .slice (some (ae m 0)) (n+1) l}:Tr).add w.heap.size) (q.setCell ⟨gD,1,none⟩ (.slice (some (ae m 0)) (n+1) l)):=⟨⟨c.flt,c.vl,c.kl,by show(d.res++[x]).length<=12;rw[aP,F.o];simp;omega,c.sl,c.al,c.gv,fun y T=>by
    rcases bU.1 T with T|T
    ·exact c.nm y T
    ·rw[bT.1 T];exact HX.o,fun s hs=>Df (by show(d.res.length:Int)<=((d.res++[x]).length:Int);omega) (c.sv s hs),fun a ha=>by
    obtain⟨q1,q2,q3,q4,q5,q6,q7⟩:=c.ap a ha;exact⟨q1,q2,q3,q4,q5,q6,fun r hr=>⟨(q7 r hr).1,by have:=(q7 r hr).2;show r<((d.res++[x]).length:Int);omega⟩⟩⟩,_,_,_,_,_,_,ar⟩
   have aq:=Kd.opened ac.o H;have z:=aF (fB an aq (aB _) (anC (iW n) (af) (af)));have y3:=cr 1 A rfl;generalize a3:q.setCell ⟨gD,1,none⟩ (.slice (some (ae m 0)) (n+1) l)=w3 at*;have L:=aF (aL _ _ _ (anC (iW n) (af) (af)) _ _ n3);have a2:IntKind.i64.wrap ((n:Int)+1-1)=(n:Int):=(by rw[bz];omega);have a4:w3.cell? (ae gD 1)=some (.slice (some (ae m 0)) (n+1) l):=y3;go_wp2_with(refine ay rfl 43 _ _ rfl _ _ rfl rfl _ _ n3 (by kernel_rfl) rfl (by simp[Value.oneCell']) ?_)
   refine aW (v:= .agg (anC (iW n) (af) (af))) ?_ rfl ?_
   ·exact bc rfl _ _ w.heap.size _ _ _ _ rfl L.o anT rfl (by kernel_rfl)
   ·rw[K.o];exact⟨_,_,_,rfl,z.o.1,z.o.2,ff _ _,et _ _⟩
end
end
section
def tZ (c:Array Value):Nat->List Value->Array Value
 |_,[]=>c
 |o,v::a=>tZ (c.setIfInBounds o v) (o+1) a
theorem Ar: ∀(a:List Value) (c:Array Value) (o:Nat),(tZ c o a).size=c.size
 |[],_,_=>rfl
 |v::a,c,o=>by rw[tZ,Ar a,gT]
theorem D3: ∀(a:List Value) (c:Array Value) (o k:Nat),o+a.length<=c.size->(tZ c o a)[k]? =if o<=k/\k<o+a.length then a[k-o]? else c[k]?
 |[],c,o,k,_=>by rw[ax (by rintro⟨b,d⟩;rw[gK]at d;omega)];rfl
 |v::a,c,o,k,h=>by
  rw[bJ]at h;rw[tZ,D3 a _ (o+1) k (by rw[gT];omega),bJ];by_cases b:o+1<=k/\k<o+1+a.length
  ·rw[aD b,aD (by omega),show k-o=(k-(o+1))+1 by omega,List.getElem?_cons_succ]
  ·rw[ax b];by_cases d:k=o
   ·subst d;rw[aD (by omega),gu (by omega),iO];rfl
   ·rw[ax (by omega),dn (by omega)]
theorem ua {g:Nat}{T:TypeId}: ∀(a:List Value) (o:Nat) (w:World) (c:Array Value),w.heap[g]? =ah c T->(w.setCells g o a).heap[g]? =ah (tZ c o a) T
 |[],_,_,_,h=>h
 |v::a,o,w,c,h=>by
  rw[World.setCells,tZ];exact ua a (o+1) _ _ (aY w g o _ _ v h)
theorem eP (g:Nat): ∀(a:List Value) (o:Nat) (w:World),(w.setCells g o a).os=w.os/\(w.setCells g o a).tape=w.tape/\(w.setCells g o a).output=w.output/\(w.setCells g o a).heap.size=w.heap.size
 |[],_,_=>⟨rfl,rfl,rfl,rfl⟩
 |v::a,o,w=>by
  rw[World.setCells];obtain⟨b,c,d,e⟩:=eP g a (o+1) (w.setCell ⟨g,o,none⟩ v);exact⟨b,c,d,e.trans (by simp)⟩
theorem oI {α:Type}{m:Nat}{f:α->Array Value}(a: ∀p,(f p).size=m): ∀l:List α,(l.flatMap fun p=>(f p).toList).length=l.length*m
 |[]=>by simp
 |x::l=>by rw[List.flatMap_cons,aP,oI a l,bQ,a,bJ,Nat.add_mul];omega
theorem D4 {α:Type}{m b e:Nat}{f:α->Array Value}{w:World}{v:Value}{l:List α}(z:0<m)(c: ∀p,(f p).size=m)(h:w.ownsRow b e m v l.length (l.flatMap fun p=>(f p).toList)){j g:Nat}{p:α}(y:j<l.length)(i:v.ownBlock=some g):(w.setCells g (j*m) (f p).toList).ownsRow b e m v (l.set j p).length ((l.set j p).flatMap fun p=>(f p).toList):=by
 rcases h.2 with⟨e0,_⟩|⟨s,cap,n,e0,E,I,A,F,K,L⟩
 ·rw[e0]at i;cases i
 ·rw[e0]at i;have:s=g:=aN i;subst this
  have J:j*m+m<=l.length*m:=by
   have:(j+1)*m<=l.length*m:=Nat.mul_le_mul_right m y;rw[Nat.add_mul,Nat.one_mul]at this;exact this
  have G:l.length*m<=cap*m:=Nat.mul_le_mul_right m A;refine⟨oI c _,.inr ⟨s,cap,tZ n (j*m) (f p).toList,by rw[jy];exact e0,E,ua _ _ _ _ I,by rw[jy];exact A,F,by rw[Ar];exact K,?_⟩⟩;rw[jy];apply List.ext_getElem?;intro k;by_cases o:k<l.length*m
  ·rw[dK o,bp,D3 _ _ _ _ (by rw[bQ,c];omega),bQ,c];have B:k=(k/m)*m+k%m:=(by rw[Nat.mul_comm];exact(Nat.div_add_mod k m).symm);have C:k%m<m:=Nat.mod_lt _ z;have H:k/m<l.length:=(Nat.div_lt_iff_lt_mul z).2 o;by_cases a:j*m<=k/\k<j*m+m
   ·rw[aD a]
    have r:k/m=j:=by
     apply Nat.div_eq_of_lt_le
     ·exact a.1
     ·rw[Nat.succ_mul];exact a.2
    have d:(l.set j p)[j]? =some p:=(by rw[fh y]);have:=oH c d (k-j*m) (by omega);rw[show j*m+(k-j*m)=k by omega]at this;rw[this,<-bp]
   ·rw[ax a]
    have q:k/m≠j:=fun r=>by
     rw[r]at B;omega
    obtain⟨x,D⟩: ∃x,l[k/m]? =some x:=⟨l[k/m],az H⟩
    have t:=oH c D (k%m) C;have u:=oH c (show(l.set j p)[k/m]? =some x by rw[fI (fun e=>q e.symm)];exact D) (k%m) C;rw[<-B]at t u;rw[u,<-t,<-L,dK o,bp]
  ·rw[eX (by rw[eE];omega),eX (by rw[oI c,jy];omega)]
section
variable {B gD:Nat} {d:Dk} {t:Tr} {w:World}
theorem DkM.setAp {s r x kv:Value}{v:List (Sv×Value)}{i:List (Ap×Value)}(h:DkM B gD d t s r x kv v i w){j g:Nat}(y:j<i.length)(k:t.av.ownBlock=some g)(p:Ap×Value)(c:(∃a,(a,p.2)∈i/\a.who=p.1.who)\/Rob (Fx gD t) (fun u=>dS u p.2 p.1.who) w):
  DkM B gD {d with aps:=d.aps.set j p.1} t s r x kv v (i.set j p) (w.setCells g (j*11) (apC p).toList)/\Kd gD t t w (w.setCells g (j*11) (apC p).toList):=by
 have l:=D4 (p:=p) (by decide) sM h.aps y k;have m: ∀q,q≠g->(w.setCells g (j*11) (apC p).toList).heap[q]? =w.heap[q]? :=fun q f=>fz g _ _ w q f;obtain⟨A,C,D,z⟩:=eP g (apC p).toList (j*11) w;have o:Kd gD t t w (w.setCells g (j*11) (apC p).toList):=⟨A,C,D,jW z.symm,fun q f _=>m q (fun e=>f.2.2.2 (by rw[e];exact k.symm)),fun _ _ h=>h,rfl⟩
 generalize w.setCells g (j*11) (apC p).toList=w' at*;refine⟨h.turn o ((m gD (fun e=>ir h.aps h.blk (by decide) (by rw[k,e]))).trans h.blk) rfl rfl rfl ?_ ?_ ?_ h.sve ?_ (fun p c=> .inl c) (fun q f=> ?_),o⟩
 ·exact br h.res fun b n=>m b (fun e=>po h.res h.aps (by decide) n (by rw[k,e]))
 ·exact br h.svs fun b n=>m b (fun e=>po h.svs h.aps (by decide) n (by rw[k,e]))
 ·exact l
 ·show(i.set j p).map (fun p=>p.1)=d.aps.set j p.1;rw[List.map_set,h.ape]
 ·rcases List.mem_or_eq_of_mem_set f with f|rfl
  ·exact .inl ⟨q.1,f,rfl⟩
  ·rcases c with c|c
   ·exact .inl c
   ·exact .inr (o.rob c)
end
end
end Go.Proofs.YtaoljfdfhggbbaaGreatDoor
