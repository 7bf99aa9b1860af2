/- Texts of the proof. -/
import Derived.Test.YtaoljfdfhggbbaaGreatDoorPc38
set_option maxRecDepth 100000
set_option maxHeartbeats 8000000
namespace Go.Proofs.YtaoljfdfhggbbaaGreatDoor
open Go.Proofs.Tryz Go.RowKit Lx Vx Mx Msk
section
section
variable {B gD:Nat} {d:Dk} {t:Tr}
theorem ID (n day days:Int)(w:World)(h:dt B gD d t w)(hT: ∀W,Below B w W->Tab W)(bE:B<=w.heap.size):Calls prog 11 #[ab gD 0,ag n,ag day,ag days] w (qI B gD (jC d n day days) t w):=by
 obtain⟨wA,hA,bA,nA⟩:=nb w #[ag 0,ag 0,ag 0,ag 0,af,af] 43;have cb:wA.heap.size=w.heap.size+1:=by rw[<-hA];simp
 have bP:=h.opened (aB _) cb bA;have x:=aF bP;have l:PN (Kd gD t t w wA):=Kd.of bA;have H0:=aF h;obtain⟨bY,rv,cv,vv,kv,ss,aa,hm⟩:=bP;have cd:ss.length=d.svs.length:=by rw[<-hm.sve,ba]
 obtain⟨ps,cs,a5⟩:=df hm.svs;obtain⟨ns,a0⟩:=au ss.length;rw[a0]at a5;have z2:wA.cell? (ae gD 2)=some (.slice ps ns cs):=(cr (v:=t.sv) 2 hm.blk rfl).trans (congrArg some a5);have K:PN (d.svs.length=ns):=by show _=_;rw[<-cd,a0]
 have aK:=aF a0;have bD:PN (t.sv= .slice ps ns cs):=a5;have HM:=aF hm;have b0:=aF bY;have HT:=aF hT;have Q:=nA;have aO:=pX n (ns:Int) wA;have an:=pX day 146097 wA;obtain⟨b1,aS⟩:=au (isN n (ns:Int));obtain⟨b2,aU⟩:=au (isN day 146097);rw[aS]at aO;rw[aU]at an;have C:=aF aS;have al:=aF aU;have bn:=aF bE;clear h hm bY cd a5 a0 hT aS aU nA cb bE;go_enter func11,ntmps11;go_wp2_with fail;refine aO.mono ?_;rintro e w1 ⟨rfl,c6⟩;subst c6;clear aO;cases b1 with
 |false=>
  have S:PN (jC d n day days=(noA 6,d)):=(by show _=_;unfold jC;rw[K.o,aD C.o]);clear an hA z2 bA;have E:=fb 6 w1;go_wp2_with fail;refine E.mono ?_;rintro e w9 ⟨rfl,a⟩;have I:=bt a Q;have r:=aF (fB (x.o.below a) (l.o.trans (Kd.of a)) (aB _) (anC (noA 6) (af) (af)));have T:=aF (aL _ _ _ (anC (noA 6) (af) (af)) _ _ I);clear E a Q;go_wp2_with(refine ay rfl 43 _ _ rfl _ _ rfl rfl _ _ I (by kernel_rfl) rfl (by simp[anC,noA,Value.oneCell']) ?_)
  refine aW (v:= .agg (anC (noA 6) (af) (af))) ?_ rfl ?_
  ·exact bc rfl _ _ w.heap.size _ _ _ _ rfl T.o anT rfl (by kernel_rfl)
  ·rw[S.o];exact⟨t,_,_,rfl,r.o.1,r.o.2,ff _ _,et _ _⟩
 |true=>
  go_wp2_with fail;refine an.mono ?_;rintro e w2 ⟨rfl,c7⟩;subst c7;clear an;cases b2 with
  |false=>
   have S:PN (jC d n day days=(noA 3,d)):=(by show _=_;unfold jC;rw[K.o,ax (by rw[C.o];simp),aD (.inl al.o)]);clear hA z2 bA;have E:=fb 3 w2;go_wp2_with fail;refine E.mono ?_;rintro e w9 ⟨rfl,a⟩;have I:=bt a Q;have r:=aF (fB (x.o.below a) (l.o.trans (Kd.of a)) (aB _) (anC (noA 3) (af) (af)));have T:=aF (aL _ _ _ (anC (noA 3) (af) (af)) _ _ I);clear E a Q;go_wp2_with(refine ay rfl 43 _ _ rfl _ _ rfl rfl _ _ I (by kernel_rfl) rfl (by simp[anC,noA,Value.oneCell']) ?_)
   refine aW (v:= .agg (anC (noA 3) (af) (af))) ?_ rfl ?_
   ·exact bc rfl _ _ w.heap.size _ _ _ _ rfl T.o anT rfl (by kernel_rfl)
   ·rw[S.o];exact⟨t,_,_,rfl,r.o.1,r.o.2,ff _ _,et _ _⟩
  |true=>
   have c9:0<=day/\day<146097:=(by have:=al.o;simpa[isN] using this);by_cases N:days<1
   ·have S:PN (jC d n day days=(noA 3,d)):=(by show _=_;unfold jC;rw[K.o,ax (by rw[C.o];simp),aD (.inr (.inl N))]);clear hA z2 bA;have E:=fb 3 w2;go_wp2_with fail;refine E.mono ?_;rintro e w9 ⟨rfl,a⟩;have I:=bt a Q;have r:=aF (fB (x.o.below a) (l.o.trans (Kd.of a)) (aB _) (anC (noA 3) (af) (af)));have T:=aF (aL _ _ _ (anC (noA 3) (af) (af)) _ _ I);clear E a Q;go_wp2_with(refine ay rfl 43 _ _ rfl _ _ rfl rfl _ _ I (by kernel_rfl) rfl (by simp[anC,noA,Value.oneCell']) ?_)
    refine aW (v:= .agg (anC (noA 3) (af) (af))) ?_ rfl ?_
    ·exact bc rfl _ _ w.heap.size _ _ _ _ rfl T.o anT rfl (by kernel_rfl)
    ·rw[S.o];exact⟨t,_,_,rfl,r.o.1,r.o.2,ff _ _,et _ _⟩
   ·by_cases h2:30<days
    ·have S:PN (jC d n day days=(noA 3,d)):=(by show _=_;unfold jC;rw[K.o,ax (by rw[C.o];simp),aD (.inr (.inr (.inl h2)))]);clear hA z2 bA;have E:=fb 3 w2;go_wp2_with fail;refine E.mono ?_;rintro e w9 ⟨rfl,a⟩;have I:=bt a Q;have r:=aF (fB (x.o.below a) (l.o.trans (Kd.of a)) (aB _) (anC (noA 3) (af) (af)));have T:=aF (aL _ _ _ (anC (noA 3) (af) (af)) _ _ I);clear E a Q;go_wp2_with(refine ay rfl 43 _ _ rfl _ _ rfl rfl _ _ I (by kernel_rfl) rfl (by simp[anC,noA,Value.oneCell']) ?_)
     refine aW (v:= .agg (anC (noA 3) (af) (af))) ?_ rfl ?_
     ·exact bc rfl _ _ w.heap.size _ _ _ _ rfl T.o anT rfl (by kernel_rfl)
     ·rw[S.o];exact⟨t,_,_,rfl,r.o.1,r.o.2,ff _ _,et _ _⟩
    ·have bm:IntKind.i64.wrap (day+days)=day+days:=(by rw[bz];omega);by_cases h3:146097<day+days
     ·have S:PN (jC d n day days=(noA 3,d)):=(by show _=_;unfold jC;rw[K.o,ax (by rw[C.o];simp),aD (.inr (.inr (.inr h3)))]);clear hA z2 bA;have E:=fb 3 w2;go_wp2_with fail;refine E.mono ?_;rintro e w9 ⟨rfl,a⟩;have I:=bt a Q;have r:=aF (fB (x.o.below a) (l.o.trans (Kd.of a)) (aB _) (anC (noA 3) (af) (af)));have T:=aF (aL _ _ _ (anC (noA 3) (af) (af)) _ _ I);clear E a Q;go_wp2_with(refine ay rfl 43 _ _ rfl _ _ rfl rfl _ _ I (by kernel_rfl) rfl (by simp[anC,noA,Value.oneCell']) ?_)
      refine aW (v:= .agg (anC (noA 3) (af) (af))) ?_ rfl ?_
      ·exact bc rfl _ _ w.heap.size _ _ _ _ rfl T.o anT rfl (by kernel_rfl)
      ·rw[S.o];exact⟨t,_,_,rfl,r.o.1,r.o.2,ff _ _,et _ _⟩
     ·have hn:0<=n/\n<(ns:Int):=(by have:=C.o;simpa[isN] using this);obtain⟨k,rfl⟩: ∃k:Nat,n=(k:Int):=⟨n.toNat,by omega⟩
      have bX:k<ss.length:=(by rw[aK.o];omega);have cH:(0:Int)<=(k:Int):=(by omega);have cI:(k:Int)<(ns:Int):=hn.2;obtain⟨⟨s,sv⟩,a4⟩: ∃q,ss[k]? =some q:=⟨ss[k],az bX⟩
      have bk:d.svs[k]? =some s:=(by rw[<-HM.o.sve,bg,a4];rfl);have a3:=HM.o.svr _ (aM a4);obtain⟨pr,Z,cc,_,_⟩:=a3.here;dsimp only at cc a3;subst cc;obtain⟨gs,cy,e1,_,ca⟩:=jQ we HM.o.svs rfl a4;have e0:Value.slice ps ns cs= .slice (some (ae gs 0)) ns cy:=(by rw[<-bD.o,<-aK.o];exact e1);injection e0 with e2 e3 e4;subst e2 e4;obtain⟨m,rfl⟩: ∃m:Nat,days=(m:Int):=⟨days.toNat,by omega⟩
      obtain⟨wZ,A,hZ,nZ,hB,bB,nB⟩:=nbs w2 #[ag 0,ag 0,ag 0,af] (svC (s,.slice pr s.roles.length Z)) 29;have bQ:=x.o.below bB;have ck:=bt bB Q
      have J:PN (jC d (k:Int) day (m:Int)=(if(gQ s (iN s day m 0 d).1).err≠0 then(noA (gQ s (iN s day m 0 d).1).err,(iN s day m 0 d).2) else(⟨0,0,(gQ s (iN s day m 0 d).1).day+day,(gQ s (iN s day m 0 d).1).min,(gQ s (iN s day m 0 d).1).who,[]⟩,(iN s day m 0 d).2))):=by
       show _=_;have:d.svs.getD k sv0=s:=(by simp[List.getD,bk]);unfold jC
       rw[K.o,ax (by rw[C.o];simp),ax (fun h=>by
        rcases h with h|h|h|h
        ·rw[al.o]at h;cases h
        ·omega
        ·omega
        ·omega)]
       simp only[cj,this]
      have b4:=aF (a3.below bB);have cm:=aF bQ;have bu:=aF (l.o.trans (Kd.of bB));have HG:PN (∀q,w.heap.size<=q->Gx gD t q):=fun q f=>(H0.o.fx (.inr f)).1;have cx:=aF (vC (b0.o.sv s (aM bk)));obtain⟨z,bh⟩:=au d.res.length;have c1:z<=12:=(by rw[<-bh];exact b0.o.rl);have bw:=aF bh;have cN:w.heap.size<=A.heap.size:=bu.o.size;have cf:w.heap.size<=w2.heap.size:=l.o.size;have cA:m<=30:=(by omega);have cD:day+(m:Int)<=146097:=(by omega);have aA:=aH ck;have a9:=aH nB;clear hA bA hn bX a4 bk a3 e1 e3 bQ bh Q bB C al K aK bD HM x l;go_wp2_with(first|(refine wpList_load_mid rfl 29 _ rfl gs (k*4) rfl (svC (s,.slice pr s.roles.length Z)).toList _ ca svT rfl (by kernel_rfl) ?_)|(refine ay rfl 29 _ _ rfl _ _ rfl rfl _ _ nZ (by kernel_rfl) rfl (uV _ _ _ _) ?_;rw[hB]))
      clear z2 ca hZ nZ hB bm N h2 h3;go_loopw [10,11,51] (fun v _ q wr=> ∃(j:Nat) (V:Dk) (L:List Nat) (U:List (List (Nat->Bool))) (vs:List Value),q=ag (j:Int)/\j<=m/\Cor d V/\dt B gD V ((t.add w.heap.size).ad L) wr/\(∀b,v.ownBlock=some b->b∈L)/\(∀b∈L,A.heap.size<=b)/\Kd gD t t A wr/\wr.ownsRow A.heap.size 76 1 v j vs/\U.length=j/\(∀(i:Nat) (y:List (Nat->Bool)) (u:Value),U[i]? =some y->vs[i]? =some u->y.length=z/\wr.ownsRow A.heap.size 84 23 u z (mkF y))/\iN s day m 0 d=(U++(iN s day (m-j) j V).1,(iN s day (m-j) j V).2)) (fun _ _ q _=>m-(intOf q).toNat);case atStart=>exact⟨0,d,[],[],[],rfl,by omega,Cor.refl d,cm.o,(fun b hb=>by cases hb),(fun b hb=>by cases hb),Kd.of (aI _ _),dc _ _ _ _,rfl,(fun i y u hi=>by simp at hi),rfl⟩
      case round=>
       obtain⟨j,V,L,U,vs,rfl,hj,ap,hd,aQ,ao,X,H,aw,av,hX⟩:=hrel;have cG:(0:Int)<=(j:Int):=(by omega);have ar:V.res=d.res:=(by obtain⟨_,_,rfl⟩:=ap;rfl);by_cases c0:j<m
       ·have bS:(j:Int)<(m:Int):=(by omega);rw[IA s day c0,ar,bw.o]at hX;have ac:=(X.blk _ (HG.o w2.heap.size (by omega)) a9).trans nB
        have bZ:Rob (Fx gD ((t.add w.heap.size).ad L)) (fun u=>fk u (.slice pr s.roles.length Z) s.roles) wr:=b4.o.move X.size (fun q f hl=>X.blk q f.1 hl) fun q hl f=>⟨f.1,fun hx=>by
         rcases bU.1 hx with hx|hx
         ·have:=ao q hx;omega
         ·exact f.2 hx⟩
        have cF:=Dl s pr Z (day+(j:Int)) wr hd bZ;rw[ar,bw.o]at cF;have cL:IntKind.i64.wrap (day+(j:Int))=day+(j:Int):=(by rw[bz];omega);obtain⟨y,bd⟩:=au ((fY s (day+(j:Int)) z 0 V).1);obtain⟨de,aX⟩:=au ((fY s (day+(j:Int)) z 0 V).2)
        have bq:PN (Cor d de/\y.length=z):=by
         have:=oJ s (day+(j:Int)) z 0 V;rw[bd,aX]at this;exact⟨ap.trans this.1,this.2⟩
        rw[bd,aX]at cF hX
        have HX:PN (iN s day m 0 d=((U++[y])++(iN s day (m-(j+1)) (j+1) de).1,(iN s day (m-(j+1)) (j+1) de).2)):=by
         show _=_;rw[hX,eo];rfl
        have aJ:=aF H;have aE:=aF av;have cp:=aF aQ;have cq:=aF ao;have HK:=aF X;have Y:=aF aw;have ch:A.heap.size<=wr.heap.size:=X.size;clear hX bd aX H av aQ ao X aw ap ar hd bZ;go_wp2_with(refine aR rfl 29 _ rfl _ rfl _ _ _ _ ac svT rfl (by kernel_rfl) ?_)
        refine cF.mono ?_;rintro e w3 ⟨gm,rfl,cz,bj,bM,G⟩;have a7:Kd gD t t wr w3:=⟨G.os,G.tape,G.output,G.size,G.blk,fun _ _ h=>h,rfl⟩
        obtain⟨wC,hC,bC,nC⟩:=nb w3 #[.slice (some (ae gm 0)) z z] 76;have aj: ∀{e s n:Nat} {u:Value} {xs:List Value},wr.ownsRow A.heap.size e s u n xs->wC.ownsRow A.heap.size e s u n xs:=fun hr=>br hr fun b f=>(bC.block b (aT (hr.lt b f).2 G.size)).trans (G.blk b (HG.o b (by have:=(hr.lt b f).1;omega)) (hr.lt b f).2);have ai:=aj aJ.o;have bR:=bM.below bC;have D:=aF (HK.o.trans (a7.trans (Kd.of bC)))
        have b3:PN (wC.ownsRow A.heap.size 84 23 (.slice (some (ae gm 0)) z z) z (mkF y)):=by
         have N:=br bj fun b f=>bC.block b (bj.lt b f).2;exact⟨N.1,N.2.imp id fun⟨g,c,cu,q1,q2,q3⟩=>⟨g,c,cu,q1,bf ch q2,q3⟩⟩
        have aC:PN (∀(i:Nat) (y:List (Nat->Bool)) (u:Value),U[i]? =some y->vs[i]? =some u->y.length=z/\wC.ownsRow A.heap.size 84 23 u z (mkF y)):=fun i y u N h2=>⟨(aE.o i y u N h2).1,aj (aE.o i y u N h2).2⟩
        have bp:=aF bR;have c8:A.heap.size<=wC.heap.size:=D.o.size;clear cF ac G a7 bM bj aj bC bR HK aE cz;go_wp2_with(at_builtin;refine iB rfl _ _ 75 76 rfl MC N3 rfl (by decide) (by decide) rfl ai rfl nC rfl (by simp[Value.oneCell']) (by omega) c8 ?_)
        rintro v2 w4 bi F bL g4 c4 rfl;obtain⟨L',bN,bG,bI,_⟩:=bp.o.grown ai cp.o F bi bL;have bT:Kd gD t t A w4:=⟨F.os.trans D.o.os,F.tape.trans D.o.tape,F.output.trans D.o.output,bf D.o.size F.size,fun q f hl=>(F.block q (aT hl D.o.size) (fun e=>by have:=(ai.lt q e.symm).1;omega)).trans (D.o.blk q f hl),fun _ _ h=>h,rfl⟩
        have O: ∀{u:Value} {n:Nat} {xs:List Value},wC.ownsRow A.heap.size 84 23 u n xs->w4.ownsRow A.heap.size 84 23 u n xs:=fun hr=>br hr fun b f=>F.block b (hr.lt b f).2 fun e=>po hr ai (by decide) f e.symm
        have ct:PN (∃(L:List Nat) (a6:List Value),dt B gD de ((t.add w.heap.size).ad L) w4/\(∀b,(Value.slice (some (ae g4 0)) (j+1) c4).ownBlock=some b->b∈L)/\(∀b∈L,A.heap.size<=b)/\Kd gD t t A w4/\w4.ownsRow A.heap.size 76 1 (.slice (some (ae g4 0)) (j+1) c4) (j+1) a6/\(∀(i:Nat) (M:List (Nat->Bool)) (u:Value),(U++[y])[i]? =some M->a6[i]? =some u->M.length=z/\w4.ownsRow A.heap.size 84 23 u z (mkF M))):=by
         refine⟨L',_,bN,bG,fun b hb=> ?_,bT,bi,fun i M u N h2=> ?_⟩
         ·rcases bI b hb with h|h
          ·exact cq.o b h
          ·have:=h.1;omega
         ·have c3:vs.length=j:=(by have:=aJ.o.1;omega);by_cases e:i=j
          ·subst e;rw[dj (by have:=Y.o;omega),Y.o,iO]at N;rw[dj (by omega),c3,iO]at h2;have e1:y=M:=aN N;have e2:Value.slice (some (ae gm 0)) z z=u:=aN h2;subst e1 e2;exact⟨bq.o.2,O b3.o⟩
          ·have cE:i<j:=by
            have:=(aG.1 N).1;rw[aP,Y.o]at this;simp at this;omega
           rw[du (by have:=Y.o;omega)]at N;rw[du (by omega)]at h2;exact⟨(aC.o i M u N h2).1,O (aC.o i M u N h2).2⟩
        clear ai bi F bL nC hC bN bG bI bT O bp D b3 aC aJ;go_wp2_with fail;go_roundw
        case rel=>
         obtain⟨L,a6,q1,q2,q3,q4,q5,q6⟩:=ct.o;exact⟨j+1,de,L,U++[y],a6,by go_num,by omega,bq.o.1,q1,q2,q3,q4,q5,by rw[aP,Y.o];rfl,q6,HX.o⟩
        case measure=>simp[intOf];omega
       ·have bS: ¬(j:Int)<(m:Int):=(by omega);obtain rfl:m=j:=(by omega);rw[iO]at hX
        have bK:iN s day m 0 d=(U,V):=by
         rw[hX];simp[iN]
        have be:=bu.o.trans X;have bW:=X.size;have ac:=(X.blk _ (HG.o w2.heap.size cf) a9).trans nB;have cl:=(X.blk _ (HG.o w.heap.size (aB _)) aA).trans ck;have a8:=((X.rob (t':=t) (b4.o.move (P':=Fx gD t) (aB _) (fun _ _ _=>rfl) fun q _ f=>⟨f.1,fun hx=>f.2 (bH _ hx)⟩))).here;have bF:uO wr u10 U:=IC (by rw[aw];exact H) (by omega) (by omega) av;have bJ:=HT.o wr (Kd.below H0.o be bn.o);have cM:=Ht s (.slice pr s.roles.length Z) U u10 wr bJ a8 bF;unfold svV Fg at cM;rw[bK]at J;obtain⟨fr,bb⟩:=au (gQ s U);have co:PN (0<=fr.day/\fr.day<=30):=(by have:=IB s U;rw[bb]at this;exact this);rw[bb]at cM J;obtain⟨pw,cw,ce⟩:=df H;subst ce;have cn:=aF hd.drop;have bv:=aF be;clear hX bK X be hd aQ ao H av aw ap ar a8 bF bJ bb cx;go_wp2_with(refine aR rfl 29 _ rfl _ rfl _ _ _ _ ac svT rfl (by kernel_rfl) ?_)
        refine cM.mono ?_;rintro e w5 ⟨v5,rfl,a2,b5⟩;obtain⟨p5,c5,c2⟩:=df a2;subst c2;obtain⟨nw,a1⟩:=au fr.who.length;rw[a1]at a2;obtain⟨wY,w6,hY,nY,h6,b6,n6⟩:=nbs w5 #[ag 0,ag 0,af] #[ag fr.day,ag fr.min,.slice p5 nw c5] 25;have ak:=bt b5 cl;have bV:=bv.o.trans (Kd.of b5);have bO:=cn.o.below b5;have bs:=aF bV;have bo:=aF bO;have am:=aF a2;have bx:=aF a1;have cC:w.heap.size<w5.heap.size:=aH ak;have bm:w.heap.size<wr.heap.size:=aT aA bW;have cJ:wr.heap.size<=w5.heap.size:=b5.size;obtain⟨er,aZ⟩:=au fr.err;rw[aZ]at J;rw[a1,aZ];have R:=aF b6;clear cM ac b5 cl bV bO a2 a1 aZ b6 bv;by_cases h0:er=0
        ·subst h0;have S:PN (jC d (k:Int) day (m:Int)=(⟨0,0,fr.day+day,fr.min,fr.who,[]⟩,V)):=J.o.trans (by rw[ax (by simp)]);have cK:IntKind.i64.wrap (fr.day+day)=fr.day+day:=(by have:=co.o;rw[bz];omega);have y6:w6.cell? (ae w5.heap.size 0)=some (ag fr.day):=cr 0 n6 rfl;have x6:=bl _ _ 0 _ _ n6;obtain⟨w7,cg⟩:=au (w6.setCell ⟨w5.heap.size,0,none⟩ (ag (fr.day+day)));have n7:w7.heap[w5.heap.size]? =ah #[ag (fr.day+day),ag fr.min,.slice p5 nw c5] 25:=cg▸aY w6 w5.heap.size 0 _ _ (ag (fr.day+day)) n6;have b7:aq w5 w7:=cg▸R.o.setCell (p:=⟨w5.heap.size,0,none⟩) (aB _) (ag (fr.day+day));have ci:=bt b7 ak
         have b8:PN (Rob (Fx gD t) (fun u=>rH B u (.slice p5 nw c5) fr.who) (w7.setRow w.heap.size (anC ⟨0,0,fr.day+day,fr.min,fr.who,[]⟩ (.slice p5 nw c5) (af)))):=by
          refine Rob.imp (Rob.move (P:=fun q=>wr.heap.size<=q) (Φ:=fun u=>u.ownsRow wr.heap.size 3 1 (.slice p5 nw c5) nw (dp fr.who)) (w:=w7) (fun u hu ha=>br am.o fun b hb=>(ha b (am.o.lt b hb).1 (aT (am.o.lt b hb).2 b7.size)).trans (b7.block b (am.o.lt b hb).2)) (by simp) (fun q f _=>aV _ _ _ _ (by omega)) fun q _ f=>H0.o.fx (.inr (by omega))) fun u hu=>⟨pt (by rw[bx.o];exact hu) (by
           rw[bx.o];rcases hu.2 with⟨_,e⟩|⟨_,_,_,_,_,_,_,e,_⟩
           ·omega
           ·unfold maxLen at e;omega),(fun p n k e=>by
           cases e;rcases hu.2 with⟨e,e2⟩|⟨_,_,_,e,_,_,e2,_⟩
           ·omega
           ·cases e;exact e2),fun b e=>bf (bf bn.o (Nat.le_of_lt bm)) (hu.lt b e).1⟩
         have r:=aF (fB (bo.o.below b7) (bs.o.trans (Kd.of b7)) (aB _) (anC ⟨0,0,fr.day+day,fr.min,fr.who,[]⟩ (.slice p5 nw c5) (af)));have T:=aF (aL _ _ _ (anC ⟨0,0,fr.day+day,fr.min,fr.who,[]⟩ (.slice p5 nw c5) (af)) _ _ ci);clear b7 ak n6 R J;go_wp2_with(first|(refine aR rfl 25 _ rfl _ rfl _ _ _ _ n7 slT rfl (by kernel_rfl) ?_)|(refine ay rfl 25 _ _ rfl _ _ rfl rfl _ _ nY (by kernel_rfl) rfl (by simp[Value.oneCell']) ?_;rw[h6])|(refine ay rfl 43 _ _ rfl _ _ rfl rfl _ _ ci (by kernel_rfl) rfl (by simp[Value.oneCell']) ?_))
         refine aW (v:= .agg (anC ⟨0,0,fr.day+day,fr.min,fr.who,[]⟩ (.slice p5 nw c5) (af))) ?_ rfl ?_
         ·exact bc rfl _ _ w.heap.size _ _ _ _ rfl T.o anT rfl (by kernel_rfl)
         ·rw[S.o];exact⟨t,_,_,rfl,r.o.1,r.o.2,b8.o,et _ _⟩
        ·have cB:(er !=0)=true:=(by simpa using h0);have S:PN (jC d (k:Int) day (m:Int)=(noA er,V)):=J.o.trans (by rw[aD h0]);have Q:=bt R.o ak;have x:=aF (bo.o.below R.o);have l:=aF (bs.o.trans (Kd.of R.o));clear h0 ak R J n6;go_wp2_with(refine ay rfl 25 _ _ rfl _ _ rfl rfl _ _ nY (by kernel_rfl) rfl (by simp[Value.oneCell']) ?_;rw[h6])
         clear nY hY h6;have E:=fb er w6;go_wp2_with fail;refine E.mono ?_;rintro e w9 ⟨rfl,a⟩;have I:=bt a Q;have r:=aF (fB (x.o.below a) (l.o.trans (Kd.of a)) (aB _) (anC (noA er) (af) (af)));have T:=aF (aL _ _ _ (anC (noA er) (af) (af)) _ _ I);clear E a Q;go_wp2_with(refine ay rfl 43 _ _ rfl _ _ rfl rfl _ _ I (by kernel_rfl) rfl (by simp[anC,noA,Value.oneCell']) ?_)
         refine aW (v:= .agg (anC (noA er) (af) (af))) ?_ rfl ?_
         ·exact bc rfl _ _ w.heap.size _ _ _ _ rfl T.o anT rfl (by kernel_rfl)
         ·rw[S.o];exact⟨t,_,_,rfl,r.o.1,r.o.2,ff _ _,et _ _⟩
end
end
section
def doC (c:Cm)(a b:Value):Array Value:= #[ag c.kind,ag c.n,ag c.day,ag c.days,kO c.text,kO c.name,ag c.sv.len,ag c.sv.bef,ag c.sv.aft,a,ag c.sday,ag c.smin,b]
def doP (d:Dk)(c:Cm):An×Dk:=
 if c.kind=1 then nQ d (it c.text) else
 if c.kind=2 then rE d c.name else
 if c.kind=3 then rF d c.sv else
 if c.kind=4 then jC d c.n c.day c.days else
 if c.kind=5 then lJ d c.n c.sday c.smin c.swho else
 if c.kind=6 then iy d c.n (fun a d=>((eB a 2,0),d)) else
 if c.kind=7 then iy d c.n (fun a d=>((eB a 3,0),d)) else
 if c.kind=8 then iy d c.n (fun a d=>eY d c.n a c.sday c.smin c.swho) else
 if c.kind=9 then qY d c.days else(noA 1,d)
theorem doT:prog.underlying 31=some (.struct (prog.fieldsOf 31)):=by kernel_rfl
section
variable {B gD:Nat} {d:Dk} {t:Tr} {w w3 w4:World}
theorem Tr.back {d:Tr}{q:Nat}(h:d.xs=(t.add q).xs):d=(Tr.mk d.ev d.sv d.av t.xs).add q:=by
 obtain⟨a,b,c,x⟩:=d;dsimp only at h;subst h;rfl
theorem IE {q:Nat}{p:An×Dk}{i lv:Value}{a:Tr}(l:aq w w3)(o:w.heap.size<=q)(m:dt B gD p.2 a w4)(f:Kd gD (t.add q) a w3 w4)(r:Rob (Fx gD a) (fun u=>rH B u i p.1.who) w4)(n:Rob (Fx gD a) (fun u=>dS u lv p.1.list) w4)(c:Array Value):
  ∃t0:Tr,dt B gD p.2 t0 (w4.setRow q c)/\Kd gD t t0 w (w4.setRow q c)/\Rob (Fx gD t0) (fun u=>rH B u i p.1.who) (w4.setRow q c)/\Rob (Fx gD t0) (fun u=>dS u lv p.1.list) (w4.setRow q c):=by
 have e:=Tr.back f.xs;obtain⟨t0,rfl⟩: ∃t0:Tr,a=t0.add q:=⟨_,e⟩
 have d:=Kd.opened l f;have g:=fB m d o c;have mv: ∀{Φ:World->Prop},Rob (Fx gD (t0.add q)) Φ w4->Rob (Fx gD t0) Φ (w4.setRow q c):=fun j=>j.move (by simp) (fun k b _=>aV _ _ _ _ fun e=>b.2 (by rw[e];exact bq)) fun k _ b=>⟨b.1,fun s=>b.2 (bH _ s)⟩
 exact⟨t0,g.1,g.2,mv r,mv n⟩
theorem Cp {c:Cm}{a b:Value}{g:Nat}(m:w.heap[g]? =ah (doC c a b) 31):w.cell? (ae g 0)=some (ag c.kind)/\w.cell? (ae g 1)=some (ag c.n)/\w.cell? (ae g 2)=some (ag c.day)/\w.cell? (ae g 3)=some (ag c.days)/\w.cell? (ae g 4)=some (.string ⟨c.text.toArray⟩)/\w.cell? (ae g 5)=some (.string ⟨c.name.toArray⟩)/\w.cell? (ae g 6)=some (ag c.sv.len)/\w.cell? (ae g 7)=some (ag c.sv.bef)/\w.cell? (ae g 8)=some (ag c.sv.aft)/\w.cell? (ae g 9)=some a/\w.cell? (ae g 10)=some (ag c.sday)/\w.cell? (ae g 11)=some (ag c.smin)/\w.cell? (ae g 12)=some b:=
 ⟨cr 0 m rfl,cr 1 m rfl,cr 2 m rfl,cr 3 m rfl,cr 4 m rfl,cr 5 m rfl,cr 6 m rfl,cr 7 m rfl,cr 8 m rfl,cr 9 m rfl,cr 10 m rfl,cr 11 m rfl,cr 12 m rfl⟩
theorem ME (c:Cm)(F pw:Option Addr)(l M:Nat)(w:World)(h:dt B gD d t w)(hx:c.text.length<=9223372036854775807)(hT:Tbs B w)(z:B<=w.heap.size)(hg:d.given+1<=1000000)(J:FH w t.xs)(I:c.name.length<=9223372036854775807)(hr:fk w (.slice F c.sv.roles.length l) c.sv.roles)(aa: ¬(5<=c.kind/\c.kind<=8)):Calls prog 7 #[ab gD 0,.agg (doC c (.slice F c.sv.roles.length l) (.slice pw c.swho.length M))] w (qI B gD (doP d c) t w):=by
 obtain⟨w1,h1,b1,Q⟩:=nb w #[ab gD 0] 55;obtain⟨y,h2,b2,R⟩:=nb w1 (doC c (.slice F c.sv.roles.length l) (.slice pw c.swho.length M)) 31;obtain⟨w3,h3,b3,E⟩:=nb y #[ag 0,ag 0,ag 0,ag 0,af,af] 43;have j:=aw b1 b2;have b:=aw j b3;have a:=h.opened (q:=y.heap.size) j.size (by rw[<-h3];simp) b;have O:=bt b3 R;have N:=bt (aw b2 b3) Q;have z1:=cr 0 N rfl;obtain⟨y0,y1,y2,y3,y4,y5,y6,y7,y8,y9,ac,ad,ae⟩:=Cp O;have HB:=aF b;have HQ:=aF j.size
 have G:PN (Gx gD (t.add y.heap.size) y.heap.size):=by
  obtain⟨_,_,_,_,_,_,_,hm⟩:=a;exact(hm.nx _ bq).2.2
 have r:=hT.below (b.mono z);have m:=bf z b.size;rcases(show c.kind=1\/c.kind=2\/c.kind=3\/c.kind=4\/c.kind=9\/(c.kind<1\/9<c.kind) by omega) with i|i|i|i|i|i
 case' inl=>
  have C:FH w3 (t.add y.heap.size).xs:=fun k i=>by
   rcases bv.1 i with rfl|i
   ·exact⟨_,_,_,E,by decide⟩
   ·obtain⟨c,T,f,hc,I⟩:=J k i;exact⟨c,T,f,bt b hc,I⟩
  have g:=Ix c.text w3 a hx r m hg C;clear C;generalize p:nQ d (it c.text)=P at g
 case' inr.inl=>
  have g:=Fy c.name w3 a I;generalize p:rE d c.name=P at g
 case' inr.inr.inl=>
  have g:=FI c.sv F l w3 a (hr.below b);generalize p:rF d c.sv=P at g
 case' inr.inr.inr.inl=>
  have g:=ID c.n c.day c.days w3 a (fun W hW=>(r W hW).2.2) m;generalize p:jC d c.n c.day c.days=P at g
 case' inr.inr.inr.inr.inl=>
  have g:=Kq c.days w3 a;generalize p:qY d c.days=P at g
 case' inr.inr.inr.inr.inr=>
  have g:=(show Calls prog 20 #[ag 1] w3 (qI B gD (noA 1,d) (t.add y.heap.size) w3) from(fb 1 w3).mono fun e w H=>⟨_,_,_,H.1,a.below H.2,Kd.of H.2,ff _ _,et _ _⟩)
  generalize p:((noA 1,d):An×Dk)=P at g
 all_goals
  have HP:PN (doP d c=P):=by
   show _=_;rw[<-p];unfold doP;repeat (first|rw[aD i]|rw[ax (by omega)])
  clear b1 b2 b3 j b a Q R p N O r m
  try rw[i]at y0
  try (have e1:(c.kind==1)=false:=by simp;omega
       have e2:(c.kind==2)=false:=by simp;omega
       have e3:(c.kind==3)=false:=by simp;omega
       have e4:(c.kind==4)=false:=by simp;omega
       have e5:(c.kind==5)=false:=by simp;omega
       have e6:(c.kind==6)=false:=by simp;omega
       have e7:(c.kind==7)=false:=by simp;omega
       have e8:(c.kind==8)=false:=by simp;omega
       have e9:(c.kind==9)=false:=by simp;omega)
  clear i
  go_enter func7,ntmps7
  go_wp2_with fail
  refine g.mono ?_
  rintro e w4 ⟨t',wv,lv,rfl,A,s,x,u⟩
  obtain⟨t0,U,V,X,Y⟩:=IE HB.o HQ.o A s x u (anC P.1 wv lv)
  obtain⟨Z,K,rfl,_,_⟩:=x.here.1
  obtain⟨p6,L,rfl,_,_⟩:=u.here
  have S:=(s.blk _ G.o (aH E)).trans E
  have D:=aF (eV U (eV V (eV X Y)))
  have HR:=aF (aL _ _ _ (anC P.1 (.slice Z P.1.who.length K) (.slice p6 P.1.list.length L)) _ _ S)
  clear g A s x u U V X Y E
  go_wp2_with(refine ay rfl 43 _ _ rfl _ _ rfl rfl _ _ S (by kernel_rfl) rfl (by simp[anC,Value.oneCell']) ?_)
  refine aW (v:= .agg (anC P.1 (.slice Z P.1.who.length K) (.slice p6 P.1.list.length L))) ?_ rfl ?_
  ·exact bc rfl _ _ y.heap.size _ _ _ _ rfl HR.o anT rfl (by kernel_rfl)
  ·rw[HP.o]
   exact⟨t0,_,_,rfl,D.o.1,D.o.2.1,D.o.2.2.1,D.o.2.2.2⟩
end
end
def dk0:Dk:=⟨[],[],[],[],[],0,[],0⟩
def playP:Dk->List Cm->List An×Dk
 |d,[]=>([],d)
 |d,c::l=>((doP d c).1::(playP (doP d c).2 l).1,(playP (doP d c).2 l).2)
theorem FK {l:List Cm}{j:Nat}{c:Cm}(d:Dk)(h:l[j]? =some c):playP d (l.drop j)=((doP d c).1::(playP (doP d c).2 (l.drop (j+1))).1,(playP (doP d c).2 (l.drop (j+1))).2):=by
 obtain⟨a,b⟩:=aG.1 h;rw[bx a,b];rfl
theorem pT: ∀(l:List Ap) (i:Nat) (d:Dk),Cor d (eZ l i d).2
 |[],_,d=>Cor.refl d
 |a::l,i,d=>by
  unfold eZ;split
  ·exact pT l (i+1) d
  ·exact(wi (fun x d=>sN d x a.day) a.who d).trans (pT l (i+1) _)
theorem wm (s:Sv)(day:Int): ∀(m i:Nat) (d:Dk),Cor d (iN s day m i d).2
 |0,_,d=>Cor.refl d
 |m+1,i,d=>by
  unfold iN;exact(oJ s _ _ 0 d).1.trans (wm s day m (i+1) _)
theorem Cor.given {d a:Dk}(h:Cor d a):a.given=d.given:=by
 obtain⟨_,_,rfl⟩:=h;rfl
theorem pF (d:Dk)(n:Int)(f:Ap->Dk->(Ap×Int)×Dk)(b: ∀a d,Cor d (f a d).2):(iy d n f).2.given=d.given:=by
 unfold iy;dsimp only;repeat' split
 ·rfl
 ·exact(b _ d).given
 ·exact(b _ d).given
theorem IF (d:Dk)(c:Cm):(doP d c).2.given<=d.given+1:=by
 have le: ∀{x:Int},x=d.given->x<=d.given+1:=fun h=>by omega
 unfold doP;split
 ·unfold nQ;split
  ·exact le rfl
  ·exact Int.le_of_eq (pT _ 0 _).given
 ·split
  ·unfold rE;repeat' split
   all_goals exact le rfl
  ·split
   ·unfold rF;repeat' split
    all_goals exact le rfl
   ·split
    ·unfold jC;dsimp only;repeat' split
     all_goals first|exact le rfl|exact le (wm _ _ _ 0 d).given
    ·split
     ·unfold lJ;dsimp only;repeat' split
      all_goals first|exact le rfl|exact le (mi d _ _ _ _ _).given
     ·split
      ·exact le (pF d _ _ fun a d=>Cor.refl d)
      ·split
       ·exact le (pF d _ _ fun a d=>Cor.refl d)
       ·split
        ·exact le (pF d _ _ fun a d=>mi d _ a _ _ _)
        ·split
         ·unfold qY;split;all_goals exact le rfl
         ·exact le rfl
structure lx (w:World)(c:Cm)(rv wv:Value):Prop where
 roles:fk w rv c.sv.roles
 who:dS w wv c.swho
 text:c.text.length<=9223372036854775807
 name:c.name.length<=9223372036854775807
 cap: ∀p n k,wv= .slice p n k->n<=k
theorem lx.below {w w':World}{c:Cm}{b d:Value}(h:lx w c b d)(a:aq w w'):lx w' c b d:=⟨h.roles.below a,h.who.below a,h.text,h.name,h.cap⟩
def kU (w:World)(v:Value)(a:List (Cm×Value×Value)):Prop:= ∃p k,v= .slice p a.length k/\a.length<9223372036854775808/\ ∀(j:Nat) (q:Cm×Value×Value),a[j]? =some q->lx w q.1 q.2.1 q.2.2/\ ∃g o:Nat,p=some ⟨g,o,none⟩/\w.rangeAt g (o+j*13) (doC q.1 q.2.1 q.2.2).toList
theorem kU.below {w w':World}{v:Value}{d:List (Cm×Value×Value)}(h:kU w v d)(e:aq w w'):kU w' v d:=by
 obtain⟨p,k,f,i,l⟩:=h;refine⟨p,k,f,i,fun j q m=> ?_⟩;obtain⟨a,g,o,b,c⟩:=l j q m;exact⟨a.below e,g,o,b,jm c e⟩
theorem oU {w u:World}{v:Value}{b:List Int}(h:dS w v b)(l: ∀q,q<w.heap.size->u.heap[q]? =w.heap[q]?):dS u v b:=by
 obtain⟨p,c,d,f,i⟩:=h;refine⟨p,c,d,f,fun j x k=> ?_⟩;obtain⟨g,o,e,a⟩:=i j x k;exact⟨g,o,e,(ef (l g (bP a))).trans a⟩
def FL (c:Cm):Prop:= ∀(B a:Nat) (d:Dk) (t:Tr) (w:World) (g e:Option Addr) (f b:Nat),dt B a d t w->Tbs B w->B<=w.heap.size->d.given+1<=1000000->FH w t.xs->lx w c (.slice g c.sv.roles.length f) (.slice e c.swho.length b)->Rob (fun q=>q<B) (fun u=>dS u (.slice e c.swho.length b) c.swho) w->Calls prog 7 #[ab a 0,.agg (doC c (.slice g c.sv.roles.length f) (.slice e c.swho.length b))] w (qI B a (doP d c) t w)
theorem IG (c:Cm)(f: ¬(5<=c.kind/\c.kind<=8)):FL c:=fun _ _ _ _ w k l i j h d b e g a _=>ME c k l i j w h a.text d b e g a.name a.roles f
theorem yh:tV dk0:=⟨by decide,rfl,by decide,by decide,by decide,by decide,by decide,(fun x a=>by cases a),(fun x a=>by cases a),(fun x a=>by cases a)⟩
theorem N4 {B b:Nat}{xs:List Nat}{w:World}(e:B<=b)(d: ∀q∈xs,q<w.heap.size/\B<=q/\q≠b)(h:w.heap[b]? =ah #[af,af,af,af,af,af,ag 0,af,ag 0] 53):dt B b dk0 ⟨af,af,af,xs⟩ w:=
 ⟨yh,af,af,af,af,[],[],h,e,fun u _ _=>⟨[],⟨.inl ⟨rfl,none,0,rfl⟩,by simp,fun p a=>by cases a⟩,rfl⟩,fun u _ _=>⟨[],⟨none,0,rfl,by simp,fun j u f=>by simp at f⟩,rfl⟩,et _ _,fun u _ _=>⟨none,0,rfl,aB _,by unfold maxLen;omega,fun h=>absurd rfl h⟩,dc _ _ _ _,dc _ _ _ _,rfl,(fun p a=>by cases a),dc _ _ _ _,rfl,(fun p a=>by cases a),fun q c=>⟨(d q c).1,(d q c).2.1,(d q c).2.2,nofun,nofun,nofun⟩⟩
theorem rI {E:Nat->Int}: ∀(m i:Nat),(∀j,i<=j->j<i+m->E j=0)->gL E m i=(0,0)
 |0,_,_=>rfl
 |m+1,i,h=>by
  simp only[gL];rw[ax (by simpa using h i (aB _) (by omega)),rI m (i+1) fun j a b=>h j (by omega) (by omega)]
theorem Dm {a:List Cd}(h:mu a):jL a=(0,0):=by
 have c:gL (fun i=>aloneE (a.getD i cd0) a.length) a.length 0=(0,0):=rI _ _ fun j _ d=>by
  have b:a[j]? =some (a[j]'(by omega)):=az (by omega);rw[jd b];exact h.alone j _ b
 have e2:gL (pL a) a.length 0=(0,0):=rI _ _ fun j _ d=>by
  have b:a[j]? =some (a[j]'(by omega)):=az (by omega);unfold pL;rw[ax (by rw[h.cyc j (by omega)];simp),jd b,aD (om.2 (h.fit j _ b))]
 have e:=h.len;unfold jL;rw[ax (by omega),c,ax (by simp),e2]
theorem Aw {n r:Nat}: ∀(l:List In) (k:Nat),(∀j x,l[j]? =some x->fO x (k+j) n r=0)->py l k n r=0
 |[],_,_=>rfl
 |x::l,k,h=>by
  have a:=h 0 x rfl;rw[Nat.add_zero]at a;simp only[py];rw[ax (by simpa using a)]
  exact Aw l (k+1) fun j y b=>by
   have:=h (j+1) y (by simpa using b);rw[show k+(j+1)=k+1+j by omega]at this;exact this
theorem re {E:Nat->Nat->Bool}{ρ:Nat->Nat}(h: ∀i k,E i k=true->ρ k<ρ i): ∀(m i k:Nat),Vx.wars E m i k=true->ρ k<ρ i
 |0,i,k,c=>h i k c
 |m+1,i,k,c=>by
  simp only[Vx.wars,ij,bG]at c;rcases c with c|⟨d,e⟩
  ·exact re h m i k c
  ·have a:=re h m i m d;have b:=re h m m k e;omega
theorem Cq {m:Nat->Int×Int}: ∀(k j:Nat),¬0<=j6 m k j-> ∀i,j<=i->i<j+k->nN (m i)=false
 |0,_,_,i,b,c=>by omega
 |k+1,j,h,i,b,c=>by
  simp only[j6]at h;by_cases a:nN (m j)=true
  ·rw[aD a]at h;omega
  ·rw[ax a]at h;by_cases e:i=j
   ·subst e;simpa using a
   ·exact Cq k (j+1) h i (by omega) (by omega)
theorem uX {l:List Ru}(h:(iA l).1=0):(dq l).1=0/\ ∀i,i<l.length->nN (gj l i)=false:=by
 unfold iA at h;by_cases a:(dq l).1≠0
 ·rw[aD a]at h;exact absurd h a
 ·rw[ax a]at h;refine⟨by simpa using a,?_⟩;by_cases b:0<=j6 (gj l) l.length 0
  ·rw[aD b]at h;exact absurd h (by show¬(4:Int)=0;omega)
  ·intro i hi;exact Cq _ _ b i (dw _) (by omega)
theorem wn (l:List Ru):(eW l).length=l.length:=by unfold eW;rw[tQ,mO]
theorem yS {l:List Ru}{i:Nat}(hi:i<l.length):(eW l)[i]? =some ⟨(fK l).getD i [],(gj l i).1,(gj l i).2⟩:=by
 unfold eW eU;rw[bg,List.getElem?_range (by rw[mO];exact hi)];rfl
theorem sP {l:List Ru}(h:(dq l).1=0){i:Nat}(hi:i<l.length):ma ((fK l).getD i [])/\ ∀j x,((fK l).getD i [])[j]? =some x->fO x j ((fK l).getD i []).length l.length=0:=by
 have b:l[i]? =some l[i]:=az hi;have a:=aM b;rw[mI b];exact Ib ((qH h).2 _ a).ok fun x c=>⟨(r0 h a c).1,(r0 h a c).2.1⟩
theorem II {l:List Ru}(h:(iA l).1=0):mu (eW l):=by
 obtain⟨d,v⟩:=uX h;have a:=wn l
 have at_: ∀{i:Nat} {c:Cd},(eW l)[i]? =some c->i<l.length/\c=⟨(fK l).getD i [],(gj l i).1,(gj l i).2⟩:=fun {i c} b=>by
  have hi:i<l.length:=(by rw[<-a];exact(aG.1 b).1);rw[yS hi]at b;exact⟨hi,(aN b).symm⟩
 have p: ∀i,i<l.length->mxH (eW l) ((fK l).getD i []) ((fK l).getD i []).length=(gj l i).1/\stS (eW l) ((fK l).getD i []) ((fK l).getD i []).length=(gj l i).2/\1<=(gj l i).1/\(gj l i).1<=100/\1<=(gj l i).2/\(gj l i).2<=20000:=fun i hi=>by
  have e:=uU d hi;have o:=v i hi;unfold nN at o;rw[Bool.or_eq_false_iff,decide_eq_false_iff_not,decide_eq_false_iff_not]at o;have w:(gj l i).1=min (mxH (eW l) ((fK l).getD i []) ((fK l).getD i []).length) 101:=congrArg Prod.fst e;have e2:(gj l i).2=min (stS (eW l) ((fK l).getD i []) ((fK l).getD i []).length) 20001:=congrArg Prod.snd e;have z:=B8 d hi;have y:=(sP d hi).1.fin;have A:=G5 (eW l) ((fK l).getD i []) ((fK l).getD i []).length;omega
 refine⟨by rw[a];exact(qH d).1,fun i c b=> ?_,fun i hi=> ?_,fun i c b=> ?_⟩
 ·obtain⟨hi,rfl⟩:=at_ b;have t:=v8 d hi;have m:=p i hi;unfold aloneE;rw[ax (by intro q;exact q ⟨t.1,bf t.2 (by omega)⟩),ax (by intro q;exact q ⟨⟨m.2.2.1,m.2.2.2.1⟩,m.2.2.2.2⟩)];refine Aw _ _ fun j x f=> ?_;rw[bN,a];exact(sP d hi).2 j x f
 ·cases hw:Vx.wars (gh (eW l)) (eW l).length i i with
  |false=>rfl
  |true=>
   have:=re (ρ:=muR l) (E:=gh (eW l)) (fun i k r=>by
    unfold gh at r;rw[List.any_eq_true]at r;obtain⟨x,b,g⟩:=r;rw[bG,cg,cg]at g;by_cases hi:i<l.length
    ·have s:(eW l).getD i cd0=⟨(fK l).getD i [],(gj l i).1,(gj l i).2⟩:=jd (yS hi);rw[s]at b;obtain⟨j,u,f⟩:=List.mem_iff_getElem.1 b;have n:((fK l).getD i [])[j]? =some x:=(by rw[az u];exact congrArg some f);have:=((rC d).lt i j x (by rw[mO];exact hi) n g.1).2.2;rw[g.2,cj]at this;exact this
    ·have:(eW l).getD i cd0=cd0:=by
      have:(eW l)[i]? =none:=eX (by rw[a];omega);simp[List.getD,this]
     rw[this]at b;cases b) _ i i hw
   omega
 ·obtain⟨hi,rfl⟩:=at_ b;have m:=p i hi;exact⟨(sP d hi).1,m.1,m.2.1⟩
end Go.Proofs.YtaoljfdfhggbbaaGreatDoor
