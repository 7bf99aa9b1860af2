/- Texts of the proof. -/
import Derived.Test.YtpdoienkhgnceaaGreatDoorPt25
set_option maxRecDepth 100000
set_option maxHeartbeats 8000000
namespace Go.Proofs.YtpdoienkhgnceaaGreatDoor
open Go.Proofs.Tryz Go.RowKit Lx Vx Mx Msk
section
section
variable {B gD:Nat} {d:Dk} {t:Tr}
theorem LD (n day days:Int)(w:World)(h:dS B gD d t w)(hT: ∀W,Below B w W->Tab W)(bD:B<=w.heap.size):Calls prog 109 #[ab gD 0,ag n,ag day,ag days] w (A6 B gD (kF d n day days) t w):=by
 obtain⟨wA,hA,bA,nA⟩:=nb w #[ag 0,ag 0,ag 0,ag 0,af,af] 47;have ca:wA.heap.size=w.heap.size+1:=by rw[<-hA];simp
 have bO:=h.opened (aA _) ca bA;have x:=aG bO;have l:T4 (Kd gD t t w wA):=Kd.of bA;have H0:=aG h;obtain⟨bX,rv,cv,vv,kv,ss,aa,hm⟩:=bO;have cc:ss.length=d.svs.length:=by rw[<-hm.sve,bm]
 obtain⟨ps,cs,a6⟩:=dy hm.svs;obtain⟨ns,a1⟩:=aq ss.length;rw[a1]at a6;have z2:wA.cell? (ae gD 2)=some (.slice ps ns cs):=(cr (v:=t.sv) 2 hm.blk rfl).trans (congrArg some a6);have J:T4 (d.svs.length=ns):=by show _=_;rw[<-cc,a1]
 have aP:=aG a1;have b8:T4 (t.sv= .slice ps ns cs):=a6;have HM:=aG hm;have bz:=aG bX;have HT:=aG hT;have O:=nA;have aR:=GI n (ns:Int) wA;have an:=GI day 146097 wA;obtain⟨b1,aU⟩:=aq (isN n (ns:Int));obtain⟨b2,aV⟩:=aq (isN day 146097);rw[aU]at aR;rw[aV]at an;have C:=aG aU;have al:=aG aV;have bl:=aG bD;clear h hm bX cc a6 a1 hT aU aV nA ca bD;go_enter func109,ntmps109;go_wp2_with fail;refine aR.mono ?_;rintro e w1 ⟨rfl,c2⟩;subst c2;clear aR;cases b1 with
 |false=>
  have R:T4 (kF d n day days=(noA 6,d)):=(by show _=_;unfold kF;rw[J.o,ax C.o]);clear an hA z2 bA;have cR:=iS 6 w1;go_wp2_with fail;refine cR.mono ?_;rintro e w9 ⟨rfl,a⟩;have H:=bt a O;have r:=aG (jb (x.o.below a) (l.o.trans (Kd.of a)) (aA _) (anC (noA 6) (af) (af)));have S:=aG (aK _ _ _ (anC (noA 6) (af) (af)) _ _ H);clear cR a O;go_wp2_with(refine aC rfl 47 _ _ rfl _ _ rfl rfl _ _ H (by kernel_rfl) rfl (by simp[anC,noA,Value.oneCell']) ?_)
  refine aX (v:= .agg (anC (noA 6) (af) (af))) ?_ rfl ?_
  ·exact bn rfl _ _ w.heap.size _ _ _ _ rfl S.o anT rfl (by kernel_rfl)
  ·rw[R.o];exact⟨t,_,_,rfl,r.o.1,r.o.2,ja _ _,iM _ _⟩
 |true=>
  go_wp2_with fail;refine an.mono ?_;rintro e w2 ⟨rfl,c3⟩;subst c3;clear an;cases b2 with
  |false=>
   have R:T4 (kF d n day days=(noA 3,d)):=(by show _=_;unfold kF;rw[J.o,aw (by rw[C.o];simp),ax (.inl al.o)]);clear hA z2 bA;have cR:=iS 3 w2;go_wp2_with fail;refine cR.mono ?_;rintro e w9 ⟨rfl,a⟩;have H:=bt a O;have r:=aG (jb (x.o.below a) (l.o.trans (Kd.of a)) (aA _) (anC (noA 3) (af) (af)));have S:=aG (aK _ _ _ (anC (noA 3) (af) (af)) _ _ H);clear cR a O;go_wp2_with(refine aC rfl 47 _ _ rfl _ _ rfl rfl _ _ H (by kernel_rfl) rfl (by simp[anC,noA,Value.oneCell']) ?_)
   refine aX (v:= .agg (anC (noA 3) (af) (af))) ?_ rfl ?_
   ·exact bn rfl _ _ w.heap.size _ _ _ _ rfl S.o anT rfl (by kernel_rfl)
   ·rw[R.o];exact⟨t,_,_,rfl,r.o.1,r.o.2,ja _ _,iM _ _⟩
  |true=>
   have c7:0<=day/\day<146097:=(by have:=al.o;simpa[isN] using this);by_cases M:days<1
   ·have R:T4 (kF d n day days=(noA 3,d)):=(by show _=_;unfold kF;rw[J.o,aw (by rw[C.o];simp),ax (.inr (.inl M))]);clear hA z2 bA;have cR:=iS 3 w2;go_wp2_with fail;refine cR.mono ?_;rintro e w9 ⟨rfl,a⟩;have H:=bt a O;have r:=aG (jb (x.o.below a) (l.o.trans (Kd.of a)) (aA _) (anC (noA 3) (af) (af)));have S:=aG (aK _ _ _ (anC (noA 3) (af) (af)) _ _ H);clear cR a O;go_wp2_with(refine aC rfl 47 _ _ rfl _ _ rfl rfl _ _ H (by kernel_rfl) rfl (by simp[anC,noA,Value.oneCell']) ?_)
    refine aX (v:= .agg (anC (noA 3) (af) (af))) ?_ rfl ?_
    ·exact bn rfl _ _ w.heap.size _ _ _ _ rfl S.o anT rfl (by kernel_rfl)
    ·rw[R.o];exact⟨t,_,_,rfl,r.o.1,r.o.2,ja _ _,iM _ _⟩
   ·by_cases Z:30<days
    ·have R:T4 (kF d n day days=(noA 3,d)):=(by show _=_;unfold kF;rw[J.o,aw (by rw[C.o];simp),ax (.inr (.inr (.inl Z)))]);clear hA z2 bA;have cR:=iS 3 w2;go_wp2_with fail;refine cR.mono ?_;rintro e w9 ⟨rfl,a⟩;have H:=bt a O;have r:=aG (jb (x.o.below a) (l.o.trans (Kd.of a)) (aA _) (anC (noA 3) (af) (af)));have S:=aG (aK _ _ _ (anC (noA 3) (af) (af)) _ _ H);clear cR a O;go_wp2_with(refine aC rfl 47 _ _ rfl _ _ rfl rfl _ _ H (by kernel_rfl) rfl (by simp[anC,noA,Value.oneCell']) ?_)
     refine aX (v:= .agg (anC (noA 3) (af) (af))) ?_ rfl ?_
     ·exact bn rfl _ _ w.heap.size _ _ _ _ rfl S.o anT rfl (by kernel_rfl)
     ·rw[R.o];exact⟨t,_,_,rfl,r.o.1,r.o.2,ja _ _,iM _ _⟩
    ·have bk:IntKind.i64.wrap (day+days)=day+days:=(by rw[bQ];omega);by_cases h3:146097<day+days
     ·have R:T4 (kF d n day days=(noA 3,d)):=(by show _=_;unfold kF;rw[J.o,aw (by rw[C.o];simp),ax (.inr (.inr (.inr h3)))]);clear hA z2 bA;have cR:=iS 3 w2;go_wp2_with fail;refine cR.mono ?_;rintro e w9 ⟨rfl,a⟩;have H:=bt a O;have r:=aG (jb (x.o.below a) (l.o.trans (Kd.of a)) (aA _) (anC (noA 3) (af) (af)));have S:=aG (aK _ _ _ (anC (noA 3) (af) (af)) _ _ H);clear cR a O;go_wp2_with(refine aC rfl 47 _ _ rfl _ _ rfl rfl _ _ H (by kernel_rfl) rfl (by simp[anC,noA,Value.oneCell']) ?_)
      refine aX (v:= .agg (anC (noA 3) (af) (af))) ?_ rfl ?_
      ·exact bn rfl _ _ w.heap.size _ _ _ _ rfl S.o anT rfl (by kernel_rfl)
      ·rw[R.o];exact⟨t,_,_,rfl,r.o.1,r.o.2,ja _ _,iM _ _⟩
     ·have hn:0<=n/\n<(ns:Int):=(by have:=C.o;simpa[isN] using this);obtain⟨k,rfl⟩: ∃k:Nat,n=(k:Int):=⟨n.toNat,by omega⟩
      have bW:k<ss.length:=(by rw[aP.o];omega);have cE:(0:Int)<=(k:Int):=(by omega);have cG:(k:Int)<(ns:Int):=hn.2;obtain⟨⟨s,sv⟩,a5⟩: ∃q,ss[k]? =some q:=⟨ss[k],az bW⟩
      have bi:d.svs[k]? =some s:=(by rw[<-HM.o.sve,bf,a5];rfl);have a4:=HM.o.svr _ (aL a5);obtain⟨pr,Y,cb,_,_⟩:=a4.here;dsimp only at cb a4;subst cb;obtain⟨gs,ct,e1,_,bZ⟩:=qp NJ HM.o.svs rfl a5;have e0:Value.slice ps ns cs= .slice (some (ae gs 0)) ns ct:=(by rw[<-b8.o,<-aP.o];exact e1);injection e0 with e2 e3 e4;subst e2 e4;obtain⟨m,rfl⟩: ∃m:Nat,days=(m:Int):=⟨days.toNat,by omega⟩
      obtain⟨wZ,A,hZ,nZ,hB,bB,nB⟩:=nbs w2 #[ag 0,ag 0,ag 0,af] (svC (s,.slice pr s.roles.length Y)) 53;have bP:=x.o.below bB;have ci:=bt bB O
      have I:T4 (kF d (k:Int) day (m:Int)=(if(findP s (jO s day m 0 d).1).err≠0 then(noA (findP s (jO s day m 0 d).1).err,(jO s day m 0 d).2) else(⟨0,0,(findP s (jO s day m 0 d).1).day+day,(findP s (jO s day m 0 d).1).min,(findP s (jO s day m 0 d).1).who,[]⟩,(jO s day m 0 d).2))):=by
       show _=_;have:d.svs.getD k sv0=s:=(by simp[List.getD,bi]);unfold kF
       rw[J.o,aw (by rw[C.o];simp),aw (fun h=>by
        rcases h with h|h|h|h
        ·rw[al.o]at h;cases h
        ·omega
        ·omega
        ·omega)]
       simp only[di,this]
      have b3:=aG (a4.below bB);have ck:=aG bP;have bs:=aG (l.o.trans (Kd.of bB));have HG:T4 (∀q,w.heap.size<=q->Gx gD t q):=fun q f=>(H0.o.fx (.inr f)).1;have cq:=aG (xw (bz.o.sv s (aL bi)));obtain⟨z,bd⟩:=aq d.res.length;have cz:z<=12:=(by rw[<-bd];exact bz.o.rl);have bw:=aG bd;have cK:w.heap.size<=A.heap.size:=bs.o.size;have ce:w.heap.size<=w2.heap.size:=l.o.size;have c8:m<=30:=(by omega);have cB:day+(m:Int)<=146097:=(by omega);have aD:=aH ci;have aB:=aH nB;clear hA bA hn bW a5 bi a4 e1 e3 bP bd O bB C al J aP b8 HM x l;go_wp2_with(first|(refine wpList_load_mid rfl 53 _ rfl gs (k*4) rfl (svC (s,.slice pr s.roles.length Y)).toList _ bZ svT rfl (by kernel_rfl) ?_)|(refine aC rfl 53 _ _ rfl _ _ rfl rfl _ _ nZ (by kernel_rfl) rfl (A7 _ _ _ _) ?_;rw[hB]))
      clear z2 bZ hZ nZ hB bk M Z h3;go_loopw [10,11,51] (fun v _ q wr=> ∃(j:Nat) (U:Dk) (L:List Nat) (T:List (List (Nat->Bool))) (vs:List Value),q=ag (j:Int)/\j<=m/\Cor d U/\dS B gD U ((t.add w.heap.size).ad L) wr/\(∀b,v.ownBlock=some b->b∈L)/\(∀b∈L,A.heap.size<=b)/\Kd gD t t A wr/\wr.ownsRow A.heap.size 29 1 v j vs/\T.length=j/\(∀(i:Nat) (y:List (Nat->Bool)) (u:Value),T[i]? =some y->vs[i]? =some u->y.length=z/\wr.ownsRow A.heap.size 39 23 u z (mkF y))/\jO s day m 0 d=(T++(jO s day (m-j) j U).1,(jO s day (m-j) j U).2)) (fun _ _ q _=>m-(intOf q).toNat);case atStart=>exact⟨0,d,[],[],[],rfl,by omega,Cor.refl d,ck.o,(fun b hb=>by cases hb),(fun b hb=>by cases hb),Kd.of (aF _ _),df _ _ _ _,rfl,(fun i y u hi=>by simp at hi),rfl⟩
      case round=>
       obtain⟨j,U,L,T,vs,rfl,hj,ar,hd,aS,ap,V,G,a0,av,hX⟩:=hrel;have cD:(0:Int)<=(j:Int):=(by omega);have au:U.res=d.res:=(by obtain⟨_,_,rfl⟩:=ar;rfl);by_cases cy:j<m
       ·have bS:(j:Int)<(m:Int):=(by omega);rw[LA s day cy,au,bw.o]at hX;have ac:=(V.blk _ (HG.o w2.heap.size (by omega)) aB).trans nB
        have bY:Rob (Fx gD ((t.add w.heap.size).ad L)) (fun u=>fZ u (.slice pr s.roles.length Y) s.roles) wr:=b3.o.move V.size (fun q f hl=>V.blk q f.1 hl) fun q hl f=>⟨f.1,fun hx=>by
         rcases cZ.1 hx with hx|hx
         ·have:=ap q hx;omega
         ·exact f.2 hx⟩
        have cF:=FI s pr Y (day+(j:Int)) wr hd bY;rw[au,bw.o]at cF;have cJ:IntKind.i64.wrap (day+(j:Int))=day+(j:Int):=(by rw[bQ];omega);obtain⟨y,bb⟩:=aq ((iJ s (day+(j:Int)) z 0 U).1);obtain⟨de,aW⟩:=aq ((iJ s (day+(j:Int)) z 0 U).2)
        have bq:T4 (Cor d de/\y.length=z):=by
         have:=pO s (day+(j:Int)) z 0 U;rw[bb,aW]at this;exact⟨ar.trans this.1,this.2⟩
        rw[bb,aW]at cF hX
        have HX:T4 (jO s day m 0 d=((T++[y])++(jO s day (m-(j+1)) (j+1) de).1,(jO s day (m-(j+1)) (j+1) de).2)):=by
         show _=_;rw[hX,dw];rfl
        have aM:=aG G;have aJ:=aG av;have cn:=aG aS;have co:=aG ap;have HK:=aG V;have X:=aG a0;have cg:A.heap.size<=wr.heap.size:=V.size;clear hX bb aW G av aS ap V a0 ar au hd bY;go_wp2_with(refine aO rfl 53 _ rfl _ rfl _ _ _ _ ac svT rfl (by kernel_rfl) ?_)
        refine cF.mono ?_;rintro e w3 ⟨gm,rfl,cx,bg,bL,F⟩;have a8:Kd gD t t wr w3:=⟨F.os,F.tape,F.output,F.size,F.blk,fun _ _ h=>h,rfl⟩
        obtain⟨wC,hC,bC,nC⟩:=nb w3 #[.slice (some (ae gm 0)) z z] 29;have aj: ∀{e s n:Nat} {u:Value} {xs:List Value},wr.ownsRow A.heap.size e s u n xs->wC.ownsRow A.heap.size e s u n xs:=fun hr=>bH hr fun b f=>(bC.block b (aT (hr.lt b f).2 F.size)).trans (F.blk b (HG.o b (by have:=(hr.lt b f).1;omega)) (hr.lt b f).2);have ai:=aj aM.o;have bR:=bL.below bC;have D:=aG (HK.o.trans (a8.trans (Kd.of bC)))
        have b0:T4 (wC.ownsRow A.heap.size 39 23 (.slice (some (ae gm 0)) z z) z (mkF y)):=by
         have M:=bH bg fun b f=>bC.block b (bg.lt b f).2;exact⟨M.1,M.2.imp id fun⟨g,c,cu,q1,q2,q3⟩=>⟨g,c,cu,q1,bh cg q2,q3⟩⟩
        have aI:T4 (∀(i:Nat) (y:List (Nat->Bool)) (u:Value),T[i]? =some y->vs[i]? =some u->y.length=z/\wC.ownsRow A.heap.size 39 23 u z (mkF y)):=fun i y u M Z=>⟨(aJ.o i y u M Z).1,aj (aJ.o i y u M Z).2⟩
        have bp:=aG bR;have c6:A.heap.size<=wC.heap.size:=D.o.size;clear cF ac F a8 bL bg aj bC bR HK aJ cx;go_wp2_with(at_builtin;refine iT rfl _ _ 231 29 rfl Qb RT rfl (by decide) (by decide) rfl ai rfl nC rfl (by simp[Value.oneCell']) (by omega) c6 ?_)
        rintro v2 w4 be E bK g4 c4 rfl;obtain⟨L',bM,bF,bG,_⟩:=bp.o.grown ai cn.o E be bK;have bT:Kd gD t t A w4:=⟨E.os.trans D.o.os,E.tape.trans D.o.tape,E.output.trans D.o.output,bh D.o.size E.size,fun q f hl=>(E.block q (aT hl D.o.size) (fun e=>by have:=(ai.lt q e.symm).1;omega)).trans (D.o.blk q f hl),fun _ _ h=>h,rfl⟩
        have N: ∀{u:Value} {n:Nat} {xs:List Value},wC.ownsRow A.heap.size 39 23 u n xs->w4.ownsRow A.heap.size 39 23 u n xs:=fun hr=>bH hr fun b f=>E.block b (hr.lt b f).2 fun e=>vD hr ai (by decide) f e.symm
        have cp:T4 (∃(L:List Nat) (a7:List Value),dS B gD de ((t.add w.heap.size).ad L) w4/\(∀b,(Value.slice (some (ae g4 0)) (j+1) c4).ownBlock=some b->b∈L)/\(∀b∈L,A.heap.size<=b)/\Kd gD t t A w4/\w4.ownsRow A.heap.size 29 1 (.slice (some (ae g4 0)) (j+1) c4) (j+1) a7/\(∀(i:Nat) (K:List (Nat->Bool)) (u:Value),(T++[y])[i]? =some K->a7[i]? =some u->K.length=z/\w4.ownsRow A.heap.size 39 23 u z (mkF K))):=by
         refine⟨L',_,bM,bF,fun b hb=> ?_,bT,be,fun i K u M Z=> ?_⟩
         ·rcases bG b hb with h|h
          ·exact co.o b h
          ·have:=h.1;omega
         ·have c1:vs.length=j:=(by have:=aM.o.1;omega);by_cases e:i=j
          ·subst e;rw[dR (by have:=X.o;omega),X.o,jw]at M;rw[dR (by omega),c1,jw]at Z;have e1:y=K:=ay M;have e2:Value.slice (some (ae gm 0)) z z=u:=ay Z;subst e1 e2;exact⟨bq.o.2,N b0.o⟩
          ·have cC:i<j:=by
            have:=(aE.1 M).1;rw[aN,X.o]at this;simp at this;omega
           rw[eP (by have:=X.o;omega)]at M;rw[eP (by omega)]at Z;exact⟨(aI.o i K u M Z).1,N (aI.o i K u M Z).2⟩
        clear ai be E bK nC hC bM bF bG bT N bp D b0 aI aM;go_wp2_with fail;go_roundw
        case rel=>
         obtain⟨L,a7,q1,q2,q3,q4,q5,q6⟩:=cp.o;exact⟨j+1,de,L,T++[y],a7,by go_num,by omega,bq.o.1,q1,q2,q3,q4,q5,by rw[aN,X.o];rfl,q6,HX.o⟩
        case measure=>simp[intOf];omega
       ·have bS: ¬(j:Int)<(m:Int):=(by omega);obtain rfl:m=j:=(by omega);rw[jw]at hX
        have bJ:jO s day m 0 d=(T,U):=by
         rw[hX];simp[jO]
        have bc:=bs.o.trans V;have bV:=V.size;have ac:=(V.blk _ (HG.o w2.heap.size ce) aB).trans nB;have cj:=(V.blk _ (HG.o w.heap.size (aA _)) aD).trans ci;have a9:=((V.rob (t':=t) (b3.o.move (P':=Fx gD t) (aA _) (fun _ _ _=>rfl) fun q _ f=>⟨f.1,fun hx=>f.2 (bj _ hx)⟩))).here;have bE:wi wr u10 T:=LC (by rw[a0];exact G) (by omega) (by omega) av;have bI:=HT.o wr (Kd.below H0.o bc bl.o);have cM:=KU s (.slice pr s.roles.length Y) T u10 wr bI a9 bE;unfold svV IC at cM;rw[bJ]at I;obtain⟨fr,ba⟩:=aq (findP s T);have cm:T4 (0<=fr.day/\fr.day<=30):=(by have:=LB s T;rw[ba]at this;exact this);rw[ba]at cM I;obtain⟨pw,cw,cd⟩:=dy G;subst cd;have cl:=aG hd.drop;have bv:=aG bc;clear hX bJ V bc hd aS ap G av a0 ar au a9 bE bI ba cq;go_wp2_with(refine aO rfl 53 _ rfl _ rfl _ _ _ _ ac svT rfl (by kernel_rfl) ?_)
        refine cM.mono ?_;rintro e w5 ⟨v5,rfl,a3,b5⟩;obtain⟨p5,c5,c0⟩:=dy a3;subst c0;obtain⟨nw,a2⟩:=aq fr.who.length;rw[a2]at a3;obtain⟨wY,w6,hY,nY,h6,b6,n6⟩:=nbs w5 #[ag 0,ag 0,af] #[ag fr.day,ag fr.min,.slice p5 nw c5] 45;have ak:=bt b5 cj;have bU:=bv.o.trans (Kd.of b5);have bN:=cl.o.below b5;have br:=aG bU;have bo:=aG bN;have am:=aG a3;have bx:=aG a2;have cA:w.heap.size<w5.heap.size:=aH ak;have bk:w.heap.size<wr.heap.size:=aT aD bV;have cH:wr.heap.size<=w5.heap.size:=b5.size;obtain⟨er,aZ⟩:=aq fr.err;rw[aZ]at I;rw[a2,aZ];have Q:=aG b6;clear cM ac b5 cj bU bN a3 a2 aZ b6 bv;by_cases h0:er=0
        ·subst h0;have R:T4 (kF d (k:Int) day (m:Int)=(⟨0,0,fr.day+day,fr.min,fr.who,[]⟩,U)):=I.o.trans (by rw[aw (by simp)]);have cI:IntKind.i64.wrap (fr.day+day)=fr.day+day:=(by have:=cm.o;rw[bQ];omega);have y6:w6.cell? (ae w5.heap.size 0)=some (ag fr.day):=cr 0 n6 rfl;have x6:=bu _ _ 0 _ _ n6;obtain⟨w7,cf⟩:=aq (w6.setCell ⟨w5.heap.size,0,none⟩ (ag (fr.day+day)));have n7:w7.heap[w5.heap.size]? =ah #[ag (fr.day+day),ag fr.min,.slice p5 nw c5] 45:=cf▸aY w6 w5.heap.size 0 _ _ (ag (fr.day+day)) n6;have b7:ao w5 w7:=cf▸Q.o.setCell (p:=⟨w5.heap.size,0,none⟩) (aA _) (ag (fr.day+day));have ch:=bt b7 ak
         have b4:T4 (Rob (Fx gD t) (fun u=>qz B u (.slice p5 nw c5) fr.who) (w7.setRow w.heap.size (anC ⟨0,0,fr.day+day,fr.min,fr.who,[]⟩ (.slice p5 nw c5) (af)))):=by
          refine Rob.imp (Rob.move (P:=fun q=>wr.heap.size<=q) (Φ:=fun u=>u.ownsRow wr.heap.size 3 1 (.slice p5 nw c5) nw (dt fr.who)) (w:=w7) (fun u hu ha=>bH am.o fun b hb=>(ha b (am.o.lt b hb).1 (aT (am.o.lt b hb).2 b7.size)).trans (b7.block b (am.o.lt b hb).2)) (by simp) (fun q f _=>aQ _ _ _ _ (by omega)) fun q _ f=>H0.o.fx (.inr (by omega))) fun u hu=>⟨sE (by rw[bx.o];exact hu) (by
           rw[bx.o];rcases hu.2 with⟨_,e⟩|⟨_,_,_,_,_,_,_,e,_⟩
           ·omega
           ·unfold maxLen at e;omega),(fun p n k e=>by
           cases e;rcases hu.2 with⟨e,e2⟩|⟨_,_,_,e,_,_,e2,_⟩
           ·omega
           ·cases e;exact e2),fun b e=>bh (bh bl.o (Nat.le_of_lt bk)) (hu.lt b e).1⟩
         have r:=aG (jb (bo.o.below b7) (br.o.trans (Kd.of b7)) (aA _) (anC ⟨0,0,fr.day+day,fr.min,fr.who,[]⟩ (.slice p5 nw c5) (af)));have S:=aG (aK _ _ _ (anC ⟨0,0,fr.day+day,fr.min,fr.who,[]⟩ (.slice p5 nw c5) (af)) _ _ ch);clear b7 ak n6 Q I;go_wp2_with(first|(refine aO rfl 45 _ rfl _ rfl _ _ _ _ n7 slT rfl (by kernel_rfl) ?_)|(refine aC rfl 45 _ _ rfl _ _ rfl rfl _ _ nY (by kernel_rfl) rfl (by simp[Value.oneCell']) ?_;rw[h6])|(refine aC rfl 47 _ _ rfl _ _ rfl rfl _ _ ch (by kernel_rfl) rfl (by simp[Value.oneCell']) ?_))
         refine aX (v:= .agg (anC ⟨0,0,fr.day+day,fr.min,fr.who,[]⟩ (.slice p5 nw c5) (af))) ?_ rfl ?_
         ·exact bn rfl _ _ w.heap.size _ _ _ _ rfl S.o anT rfl (by kernel_rfl)
         ·rw[R.o];exact⟨t,_,_,rfl,r.o.1,r.o.2,b4.o,iM _ _⟩
        ·have c9:(er !=0)=true:=(by simpa using h0);have R:T4 (kF d (k:Int) day (m:Int)=(noA er,U)):=I.o.trans (by rw[ax h0]);have O:=bt Q.o ak;have x:=aG (bo.o.below Q.o);have l:=aG (br.o.trans (Kd.of Q.o));clear h0 ak Q I n6;go_wp2_with(refine aC rfl 45 _ _ rfl _ _ rfl rfl _ _ nY (by kernel_rfl) rfl (by simp[Value.oneCell']) ?_;rw[h6])
         clear nY hY h6;have cR:=iS er w6;go_wp2_with fail;refine cR.mono ?_;rintro e w9 ⟨rfl,a⟩;have H:=bt a O;have r:=aG (jb (x.o.below a) (l.o.trans (Kd.of a)) (aA _) (anC (noA er) (af) (af)));have S:=aG (aK _ _ _ (anC (noA er) (af) (af)) _ _ H);clear cR a O;go_wp2_with(refine aC rfl 47 _ _ rfl _ _ rfl rfl _ _ H (by kernel_rfl) rfl (by simp[anC,noA,Value.oneCell']) ?_)
         refine aX (v:= .agg (anC (noA er) (af) (af))) ?_ rfl ?_
         ·exact bn rfl _ _ w.heap.size _ _ _ _ rfl S.o anT rfl (by kernel_rfl)
         ·rw[R.o];exact⟨t,_,_,rfl,r.o.1,r.o.2,ja _ _,iM _ _⟩
end
end
section
def doC (c:Cm)(a b:Value):Array Value:= #[ag c.kind,ag c.n,ag c.day,ag c.days,ly c.text,ly c.name,ag c.sv.len,ag c.sv.bef,ag c.sv.aft,a,ag c.sday,ag c.smin,b]
def doP (d:Dk)(c:Cm):An×Dk:=
 if c.kind=1 then rR d (ib c.text) else
 if c.kind=2 then sU d c.name else
 if c.kind=3 then sV d c.sv else
 if c.kind=4 then kF d c.n c.day c.days else
 if c.kind=5 then holdP d c.n c.sday c.smin c.swho else
 if c.kind=6 then pK d c.n (fun a d=>((qZ a 2,0),d)) else
 if c.kind=7 then pK d c.n (fun a d=>((qZ a 3,0),d)) else
 if c.kind=8 then pK d c.n (fun a d=>ql d c.n a c.sday c.smin c.swho) else
 if c.kind=9 then OF d c.days else(noA 1,d)
theorem doT:prog.underlying 55=some (.struct (prog.fieldsOf 55)):=by kernel_rfl
section
variable {B gD:Nat} {d:Dk} {t:Tr} {w w3 w4:World}
theorem Tr.back {d:Tr}{q:Nat}(h:d.xs=(t.add q).xs):d=(Tr.mk d.ev d.sv d.av t.xs).add q:=by
 obtain⟨a,b,c,x⟩:=d;dsimp only at h;subst h;rfl
theorem RU {q:Nat}{p:An×Dk}{i lv:Value}{a:Tr}(l:ao w w3)(o:w.heap.size<=q)(m:dS B gD p.2 a w4)(f:Kd gD (t.add q) a w3 w4)(r:Rob (Fx gD a) (fun u=>qz B u i p.1.who) w4)(n:Rob (Fx gD a) (fun u=>fk u lv p.1.list) w4)(c:Array Value):
  ∃t0:Tr,dS B gD p.2 t0 (w4.setRow q c)/\Kd gD t t0 w (w4.setRow q c)/\Rob (Fx gD t0) (fun u=>qz B u i p.1.who) (w4.setRow q c)/\Rob (Fx gD t0) (fun u=>fk u lv p.1.list) (w4.setRow q c):=by
 have e:=Tr.back f.xs;obtain⟨t0,rfl⟩: ∃t0:Tr,a=t0.add q:=⟨_,e⟩
 have d:=Kd.opened l f;have g:=jb m d o c;have mv: ∀{Φ:World->Prop},Rob (Fx gD (t0.add q)) Φ w4->Rob (Fx gD t0) Φ (w4.setRow q c):=fun j=>j.move (by simp) (fun k b _=>aQ _ _ _ _ fun e=>b.2 (by rw[e];exact aV)) fun k _ b=>⟨b.1,fun s=>b.2 (bj _ s)⟩
 exact⟨t0,g.1,g.2,mv r,mv n⟩
theorem NQ {c:Cm}{a b:Value}{g:Nat}(m:w.heap[g]? =ah (doC c a b) 55):w.cell? (ae g 0)=some (ag c.kind)/\w.cell? (ae g 1)=some (ag c.n)/\w.cell? (ae g 2)=some (ag c.day)/\w.cell? (ae g 3)=some (ag c.days)/\w.cell? (ae g 4)=some (.string ⟨c.text.toArray⟩)/\w.cell? (ae g 5)=some (.string ⟨c.name.toArray⟩)/\w.cell? (ae g 6)=some (ag c.sv.len)/\w.cell? (ae g 7)=some (ag c.sv.bef)/\w.cell? (ae g 8)=some (ag c.sv.aft)/\w.cell? (ae g 9)=some a/\w.cell? (ae g 10)=some (ag c.sday)/\w.cell? (ae g 11)=some (ag c.smin)/\w.cell? (ae g 12)=some b:=
 ⟨cr 0 m rfl,cr 1 m rfl,cr 2 m rfl,cr 3 m rfl,cr 4 m rfl,cr 5 m rfl,cr 6 m rfl,cr 7 m rfl,cr 8 m rfl,cr 9 m rfl,cr 10 m rfl,cr 11 m rfl,cr 12 m rfl⟩
end
end
def dk0:Dk:=⟨[],[],[],[],[],0,[],0⟩
def fW:Dk->List Cm->List An×Dk
 |d,[]=>([],d)
 |d,c::l=>((doP d c).1::(fW (doP d c).2 l).1,(fW (doP d c).2 l).2)
theorem I7 {l:List Cm}{j:Nat}{c:Cm}(d:Dk)(h:l[j]? =some c):fW d (l.drop j)=((doP d c).1::(fW (doP d c).2 (l.drop (j+1))).1,(fW (doP d c).2 (l.drop (j+1))).2):=by
 obtain⟨a,b⟩:=aE.1 h;rw[bG a,b];rfl
theorem qP: ∀(l:List Ap) (i:Nat) (d:Dk),Cor d (fg l i d).2
 |[],_,d=>Cor.refl d
 |a::l,i,d=>by
  unfold fg;split
  ·exact qP l (i+1) d
  ·exact(yj (fun x d=>ue d x a.day) a.who d).trans (qP l (i+1) _)
theorem yo (s:Sv)(day:Int): ∀(m i:Nat) (d:Dk),Cor d (jO s day m i d).2
 |0,_,d=>Cor.refl d
 |m+1,i,d=>by
  unfold jO;exact(pO s _ _ 0 d).1.trans (yo s day m (i+1) _)
theorem Cor.given {d a:Dk}(h:Cor d a):a.given=d.given:=by
 obtain⟨_,_,rfl⟩:=h;rfl
theorem qA (d:Dk)(n:Int)(f:Ap->Dk->(Ap×Int)×Dk)(b: ∀a d,Cor d (f a d).2):(pK d n f).2.given=d.given:=by
 unfold pK;dsimp only;repeat' split
 ·rfl
 ·exact(b _ d).given
 ·exact(b _ d).given
theorem LF (d:Dk)(c:Cm):(doP d c).2.given<=d.given+1:=by
 have le: ∀{x:Int},x=d.given->x<=d.given+1:=fun h=>by omega
 unfold doP;split
 ·unfold rR;split
  ·exact le rfl
  ·exact Int.le_of_eq (qP _ 0 _).given
 ·split
  ·unfold sU;repeat' split
   all_goals exact le rfl
  ·split
   ·unfold sV;repeat' split
    all_goals exact le rfl
   ·split
    ·unfold kF;dsimp only;repeat' split
     all_goals first|exact le rfl|exact le (yo _ _ _ 0 d).given
    ·split
     ·unfold holdP;dsimp only;repeat' split
      all_goals first|exact le rfl|exact le (qO d _ _ _ _ _).given
     ·split
      ·exact le (qA d _ _ fun a d=>Cor.refl d)
      ·split
       ·exact le (qA d _ _ fun a d=>Cor.refl d)
       ·split
        ·exact le (qA d _ _ fun a d=>qO d _ a _ _ _)
        ·split
         ·unfold OF;split;all_goals exact le rfl
         ·exact le rfl
structure pP (w:World)(c:Cm)(rv wv:Value):Prop where
 roles:fZ w rv c.sv.roles
 who:fk w wv c.swho
 text:c.text.length<=9223372036854775807
 name:c.name.length<=9223372036854775807
 cap: ∀p n k,wv= .slice p n k->n<=k
theorem pP.below {w d:World}{c:Cm}{b e:Value}(h:pP w c b e)(a:ao w d):pP d c b e:=⟨h.roles.below a,h.who.below a,h.text,h.name,h.cap⟩
def qQ (w:World)(v:Value)(a:List (Cm×Value×Value)):Prop:= ∃p k,v= .slice p a.length k/\a.length<9223372036854775808/\ ∀(j:Nat) (q:Cm×Value×Value),a[j]? =some q->pP w q.1 q.2.1 q.2.2/\ ∃g o:Nat,p=some ⟨g,o,none⟩/\w.rangeAt g (o+j*13) (doC q.1 q.2.1 q.2.2).toList
theorem qQ.below {w f:World}{v:Value}{d:List (Cm×Value×Value)}(h:qQ w v d)(e:ao w f):qQ f v d:=by
 obtain⟨p,k,i,l,m⟩:=h;refine⟨p,k,i,l,fun j q n=> ?_⟩;obtain⟨a,g,o,b,c⟩:=m j q n;exact⟨a.below e,g,o,b,gU c e⟩
theorem FJ {w u:World}{v:Value}{b:List Int}(h:fk w v b)(l: ∀q,q<w.heap.size->u.heap[q]? =w.heap[q]?):fk u v b:=by
 obtain⟨p,c,d,f,i⟩:=h;refine⟨p,c,d,f,fun j x k=> ?_⟩;obtain⟨g,o,e,a⟩:=i j x k;exact⟨g,o,e,(dP (l g (aU a))).trans a⟩
def NR (c:Cm):Prop:= ∀(B a:Nat) (d:Dk) (t:Tr) (w:World) (g e:Option Addr) (f b:Nat),dS B a d t w->Tbs B w->B<=w.heap.size->d.given+1<=1000000->I4 w t.xs->pP w c (.slice g c.sv.roles.length f) (.slice e c.swho.length b)->Rob (fun q=>q<B) (fun u=>fk u (.slice e c.swho.length b) c.swho) w->Calls prog 64 #[ab a 0,.agg (doC c (.slice g c.sv.roles.length f) (.slice e c.swho.length b))] w (A6 B a (doP d c) t w)
theorem Ae:IR dk0:=⟨by decide,rfl,by decide,by decide,by decide,by decide,by decide,(fun x a=>by cases a),(fun x a=>by cases a),(fun x a=>by cases a)⟩
theorem RV {B b:Nat}{xs:List Nat}{w:World}(e:B<=b)(d: ∀q∈xs,q<w.heap.size/\B<=q/\q≠b)(h:w.heap[b]? =ah #[af,af,af,af,af,af,ag 0,af,ag 0] 157):dS B b dk0 ⟨af,af,af,xs⟩ w:=
 ⟨Ae,af,af,af,af,[],[],h,e,fun u _ _=>⟨[],⟨.inl ⟨rfl,none,0,rfl⟩,by simp,fun p a=>by cases a⟩,rfl⟩,fun u _ _=>⟨[],⟨none,0,rfl,by simp,fun j u f=>by simp at f⟩,rfl⟩,iM _ _,fun u _ _=>⟨none,0,rfl,aA _,by unfold maxLen;omega,fun h=>absurd rfl h⟩,df _ _ _ _,df _ _ _ _,rfl,(fun p a=>by cases a),df _ _ _ _,rfl,(fun p a=>by cases a),fun q c=>⟨(d q c).1,(d q c).2.1,(d q c).2.2,nofun,nofun,nofun⟩⟩
theorem sW {E:Nat->Int}: ∀(m i:Nat),(∀j,i<=j->j<i+m->E j=0)->gW E m i=(0,0)
 |0,_,_=>rfl
 |m+1,i,h=>by
  simp only[gW];rw[aw (by simpa using h i (aA _) (by omega)),sW m (i+1) fun j a b=>h j (by omega) (by omega)]
theorem FK {a:List Cd}(h:nh a):jV a=(0,0):=by
 have c:gW (fun i=>aloneE (a.getD i cd0) a.length) a.length 0=(0,0):=sW _ _ fun j _ e=>by
  have b:a[j]? =some (a[j]'(by omega)):=az (by omega);rw[jh b];exact h.alone j _ b
 have d:gW (qJ a) a.length 0=(0,0):=sW _ _ fun j _ e=>by
  have b:a[j]? =some (a[j]'(by omega)):=az (by omega);unfold qJ;rw[aw (by rw[h.cyc j (by omega)];simp),jh b,ax (nJ.2 (h.fit j _ b))]
 have f:=h.len;unfold jV;rw[aw (by omega),c,aw (by simp),d]
theorem Ch {n r:Nat}: ∀(l:List In) (k:Nat),(∀j x,l[j]? =some x->fT x (k+j) n r=0)->qt l k n r=0
 |[],_,_=>rfl
 |x::l,k,h=>by
  have a:=h 0 x rfl;rw[Nat.add_zero]at a;simp only[qt];rw[aw (by simpa using a)]
  exact Ch l (k+1) fun j y b=>by
   have:=h (j+1) y (by simpa using b);rw[show k+(j+1)=k+1+j by omega]at this;exact this
theorem sF {E:Nat->Nat->Bool}{ρ:Nat->Nat}(h: ∀i k,E i k=true->ρ k<ρ i): ∀(m i k:Nat),Vx.wars E m i k=true->ρ k<ρ i
 |0,i,k,c=>h i k c
 |m+1,i,k,c=>by
  simp only[Vx.wars,iD,bx]at c;rcases c with c|⟨d,e⟩
  ·exact sF h m i k c
  ·have a:=sF h m i m d;have b:=sF h m m k e;omega
theorem Ek {m:Nat->Int×Int}: ∀(k j:Nat),¬0<=ko m k j-> ∀i,j<=i->i<j+k->oU (m i)=false
 |0,_,_,i,b,c=>by omega
 |k+1,j,h,i,b,c=>by
  simp only[ko]at h;by_cases a:oU (m j)=true
  ·rw[ax a]at h;omega
  ·rw[aw a]at h;by_cases e:i=j
   ·subst e;simpa using a
   ·exact Ek k (j+1) h i (by omega) (by omega)
theorem wx {l:List Ru}(h:(fU l).1=0):(dm l).1=0/\ ∀i,i<l.length->oU (gN l i)=false:=by
 unfold fU at h;by_cases a:(dm l).1≠0
 ·rw[ax a]at h;exact absurd h a
 ·rw[aw a]at h;refine⟨by simpa using a,?_⟩;by_cases b:0<=ko (gN l) l.length 0
  ·rw[ax b]at h;exact absurd h (by show¬(4:Int)=0;omega)
  ·intro i hi;exact Ek _ _ b i (dU _) (by omega)
theorem yr (l:List Ru):(eZ l).length=l.length:=by unfold eZ;rw[vu,oi]
theorem Bc {l:List Ru}{i:Nat}(hi:i<l.length):(eZ l)[i]? =some ⟨(fP l).getD i [],(gN l i).1,(gN l i).2⟩:=by
 unfold eZ eV;rw[bf,List.getElem?_range (by rw[oi];exact hi)];rfl
theorem uf {l:List Ru}(h:(dm l).1=0){i:Nat}(hi:i<l.length):mI ((fP l).getD i [])/\ ∀j x,((fP l).getD i [])[j]? =some x->fT x j ((fP l).getD i []).length l.length=0:=by
 have b:l[i]? =some l[i]:=az hi;have a:=aL b;rw[nQ b];exact Lc ((rQ h).2 _ a).ok fun x c=>⟨(tA h a c).1,(tA h a c).2.1⟩
theorem LG {l:List Ru}(h:(fU l).1=0):nh (eZ l):=by
 obtain⟨d,v⟩:=wx h;have a:=yr l
 have at_: ∀{i:Nat} {c:Cd},(eZ l)[i]? =some c->i<l.length/\c=⟨(fP l).getD i [],(gN l i).1,(gN l i).2⟩:=fun {i c} b=>by
  have hi:i<l.length:=(by rw[<-a];exact(aE.1 b).1);rw[Bc hi]at b;exact⟨hi,(ay b).symm⟩
 have p: ∀i,i<l.length->mxH (eZ l) ((fP l).getD i []) ((fP l).getD i []).length=(gN l i).1/\stS (eZ l) ((fP l).getD i []) ((fP l).getD i []).length=(gN l i).2/\1<=(gN l i).1/\(gN l i).1<=100/\1<=(gN l i).2/\(gN l i).2<=20000:=fun i hi=>by
  have e:=wt d hi;have o:=v i hi;unfold oU at o;rw[Bool.or_eq_false_iff,decide_eq_false_iff_not,decide_eq_false_iff_not]at o;have w:(gN l i).1=min (mxH (eZ l) ((fP l).getD i []) ((fP l).getD i []).length) 101:=congrArg Prod.fst e;have y:(gN l i).2=min (stS (eZ l) ((fP l).getD i []) ((fP l).getD i []).length) 20001:=congrArg Prod.snd e;have A:=Eb d hi;have z:=(uf d hi).1.fin;have B:=Ky (eZ l) ((fP l).getD i []) ((fP l).getD i []).length;omega
 refine⟨by rw[a];exact(rQ d).1,fun i c b=> ?_,fun i hi=> ?_,fun i c b=> ?_⟩
 ·obtain⟨hi,rfl⟩:=at_ b;have t:=yd d hi;have m:=p i hi;unfold aloneE;rw[aw (by intro q;exact q ⟨t.1,bh t.2 (by omega)⟩),aw (by intro q;exact q ⟨⟨m.2.2.1,m.2.2.2.1⟩,m.2.2.2.2⟩)];refine Ch _ _ fun j x f=> ?_;rw[bN,a];exact(uf d hi).2 j x f
 ·cases hw:Vx.wars (gK (eZ l)) (eZ l).length i i with
  |false=>rfl
  |true=>
   have:=sF (ρ:=muR l) (E:=gK (eZ l)) (fun i k r=>by
    unfold gK at r;rw[List.any_eq_true]at r;obtain⟨x,b,g⟩:=r;rw[bx,bL,bL]at g;by_cases hi:i<l.length
    ·have s:(eZ l).getD i cd0=⟨(fP l).getD i [],(gN l i).1,(gN l i).2⟩:=jh (Bc hi);rw[s]at b;obtain⟨j,u,f⟩:=List.mem_iff_getElem.1 b;have n:((fP l).getD i [])[j]? =some x:=(by rw[az u];exact congrArg some f);have:=((sT d).lt i j x (by rw[oi];exact hi) n g.1).2.2;rw[g.2,di]at this;exact this
    ·have:(eZ l).getD i cd0=cd0:=by
      have:(eZ l)[i]? =none:=fc (by rw[a];omega);simp[List.getD,this]
     rw[this]at b;cases b) _ i i hw
   omega
 ·obtain⟨hi,rfl⟩:=at_ b;have m:=p i hi;exact⟨(uf d hi).1,m.1,m.2.1⟩
section
theorem GO {wk:Int->Bool}{day:Int}{env:List UInt8->Nat->Bool}(c: ∀x (i:Nat),1440<=i->env x i=false): ∀(N:Nat) (e:Ex),SizeOf.sizeOf e<=N-> ∀(i:Nat),1440<=i->fA wk day env e i=false
 |0,e,b,_,_=>by cases e;simp at b
 |N+1,e,b,i,hi=>by
  have d: ∀j,(e.kids.map (fA wk day env)).getD j nev i=false:=fun j=>by
   cases hj:e.kids[j]? with
   |none=>simp[List.getD,hj,nev]
   |some k=>
    have f:=aL hj;have:=GO (wk:=wk) (day:=day) c N k (by have:=fy f;omega) i hi;simpa[List.getD,bf,hj] using this
  have a:decide (i<1440)=false:=(by simp;omega);rw[jF];unfold nO;split
  ·exact a
  split
  ·simp[a]
  split
  ·split
   ·exact d 0
   ·rfl
  split
  ·split
   ·exact d 0
   ·rfl
  split
  ·simp[a]
  split
  ·simp[a]
  split
  ·simp[a]
  split
  ·unfold shf;simp[a]
  split
  ·exact c _ i hi
  ·rfl
theorem RX (e:Ex){i:Nat}(hi:1440<=i):mnE e i=false:=GO (fun _ _ _=>rfl) _ e (aA _) i hi
theorem RY {f:Nat->Bool}(h: ∀i:Nat,1440<=i->f i=false):spM (rs f 1440)=f:=by
 funext i;unfold spM;by_cases hi:i<1440
 ·have:=(A3 f 1440).has i hi;simpa[hi] using this
 ·rw[h i (by omega)];have a:decide (i<1440)=false:=(by simp;omega);simp[a]
section
variable {wk:Int->Bool} {day:Int} {ev:Nat->M×Nat} {l:List In} {num:List UInt8->Int} {env:List UInt8->Nat->Bool} {x:In} {s:Vx.St}
theorem TH (a:x.op=1):dC wk day ev x s=⟨s.k+1,s.S++[spM x.sp],s.n+1⟩:=by simp[dC,a]
theorem TI (a:x.op=2):dC wk day ev x s=⟨s.k+1,oD unM s.S,s.n+1⟩:=by simp[dC,a]
theorem TJ (a:x.op=3):dC wk day ev x s=⟨s.k+1,oD dfM s.S,s.n+1⟩:=by simp[dC,a]
theorem TK (a:x.op=4):dC wk day ev x s=⟨s.k+1,oD boM s.S,s.n+1⟩:=by simp[dC,a]
theorem TL (b:x.op=5):dC wk day ev x s=⟨s.k+1,AW (fun f=>shM f x.a) s.S,s.n+1⟩:=by simp[dC,b]
theorem TM (b:x.op=8):dC wk day ev x s=⟨s.k+1,s.S++[(ev x.a.toNat).1],s.n+1+(ev x.a.toNat).2⟩:=by simp[dC,b]
theorem Te (b:x.op=6\/x.op=7)(a:onD wk day x=true):dC wk day ev x s=⟨s.k+1,s.S,s.n+1⟩:=by
 unfold dC;rw[aw (by omega),aw (by omega),aw (by omega),aw (by omega),aw (by omega),aw (by omega),ax a]
theorem RZ (b:x.op=6\/x.op=7)(a: ¬onD wk day x=true):dC wk day ev x s=⟨x.to.toNat,s.S++[noM],s.n+1⟩:=by
 unfold dC;rw[aw (by omega),aw (by omega),aw (by omega),aw (by omega),aw (by omega),aw (by omega),aw a]
theorem Ci (i:Up wk day ev l){b a:Nat}{S:List M}{n:Nat}{v:M}(j:l[b]? =some x)(f:x.op=6\/x.op=7)(d:x.to=((b+1+a:Nat):Int))(g: ∃e,runV wk day ev l ⟨b+1,S,n+1⟩=runV wk day ev l ⟨b+1+a,S++[v],e⟩):
  ∃e,runV wk day ev l ⟨b,S,n⟩=runV wk day ev l ⟨b+(a+1),S++[if onD wk day x=true then v else nev],e⟩:=by
 rw[my i (s:=⟨b,S,n⟩) j,show b+(a+1)=b+1+a by omega];by_cases c:onD wk day x=true
 ·rw[ax c,Te f c];exact g
 ·rw[aw c,RZ f c,d,di];exact⟨n+1,rfl⟩
theorem GP (j:Up wk day ev l): ∀(N:Nat) (e:Ex),SizeOf.sizeOf e<=N->OKE e->(∀x∈nms e,(ev (num x).toNat).1=env x)-> ∀(b:Nat) (S:List M) (n:Nat),kE l b (bT num e b)-> ∃o,runV wk day ev l ⟨b,S,n⟩=runV wk day ev l ⟨b+(bT num e b).length,S++[fA wk day env e],o⟩
 |0,e,v,_,_,_,_,_,_=>by cases e;simp at v
 |N+1,e,v,h,w,b,S,n,d=>by
  have p: ∀k∈e.kids,∀(b:Nat) (S:List M) (n:Nat),kE l b (bT num k b)-> ∃o,runV wk day ev l ⟨b,S,n⟩=runV wk day ev l ⟨b+(bT num k b).length,S++[fA wk day env k],o⟩:=fun k c=>GP j N k (by have:=fy c;omega) (h.kid c) (fun x t=>w x (wm c t));cases hstd:stdE e with
  |true=>
   rw[pH hstd]at d⊢;rw[my j (s:=⟨b,S,n⟩) d.one,D7 hstd,TH rfl];refine⟨n+1,?_⟩;rw[RY (fun i hi=>RX e hi)];rfl
  |false=>
   rcases oR h hstd with⟨q,k,c⟩|⟨q,k,c⟩|⟨q,k,c⟩|q|⟨q,k,m,c⟩
   ·have g:k∈e.kids:=(by rw[c];simp)
    have f:fA wk day env e=if wk e.a=true then fA wk day env k else nev:=by
     rw[jF,q,KY,c];rfl
    rw[qh q (by rw[c];rfl)]at d⊢;have:=Ci j (n:=n) d.one (.inl rfl) rfl (p k g (b+1) S (n+1) d.tail);rw[show onD wk day (⟨6,e.a,0,((b+1+(bT num k (b+1)).length:Nat):Int),[]⟩:In)=wk e.a from by unfold onD;rw[ax rfl]]at this;rw[f,bK];exact this
   ·have g:k∈e.kids:=(by rw[c];simp)
    have f:fA wk day env e=if(decide (e.a<=day)&&decide (day<=e.b))=true then fA wk day env k else nev:=by
     rw[jF,q,KZ,c];by_cases r:e.a<=day/\day<=e.b
     ·rw[ax r,ax (by simp[r])];rfl
     ·rw[aw r,aw (by rw[bx,bL,bL];exact r)];rfl
    rw[oQ q (by rw[c];rfl)]at d⊢;have:=Ci j (n:=n) d.one (.inr rfl) rfl (p k g (b+1) S (n+1) d.tail);rw[show onD wk day (⟨7,e.a,e.b,((b+1+(bT num k (b+1)).length:Nat):Int),[]⟩:In)=(decide (e.a<=day)&&decide (day<=e.b)) from by unfold onD;rw[aw (by show¬(7:Int)=6;omega)]]at this;rw[f,bK];exact this
   ·have g:k∈e.kids:=(by rw[c];simp)
    have f:fA wk day env e=shM (fA wk day env k) e.a:=by
     rw[jF,q,K7,c];rfl
    rw[qL hstd q c]at d⊢;obtain⟨o,z⟩:=p k g b S n d.left;rw[z,f,my j (s:=⟨b+(bT num k b).length,S++[fA wk day env k],o⟩) d.right.one,TL rfl];refine⟨o+1,?_⟩;rw[aN,eG,<-Nat.add_assoc,AX]
   ·have f:fA wk day env e=env e.name:=(by rw[jF,q,Gz]);rw[qg q]at d⊢;rw[my j (s:=⟨b,S,n⟩) d.one,f,TM rfl];refine⟨n+1+(ev (num e.name).toNat).2,?_⟩;dsimp only;rw[w _ (wn q)];rfl
   ·have g:k∈e.kids:=(by rw[c];simp);have u:m∈e.kids:=(by rw[c];simp);rw[sA hstd q c]at d⊢;obtain⟨D,A⟩:=p k g b S n d.left.left;obtain⟨y,B⟩:=p m u (b+(bT num k b).length) (S++[fA wk day env k]) D d.left.right;have t:=d.right.one;rw[aN,<-Nat.add_assoc]at t
    have C:b+(bT num k b++bT num m (b+(bT num k b).length)++[(⟨opK e.kind,0,0,0,[]⟩:In)]).length=b+(bT num k b).length+(bT num m (b+(bT num k b).length)).length+1:=by
     rw[aN,aN,eG];omega
    rw[A,B,my j (s:=⟨b+(bT num k b).length+(bT num m (b+(bT num k b).length)).length,S++[fA wk day env k]++[fA wk day env m],y⟩) t,C];refine⟨y+1,?_⟩;rw[dw,List.singleton_append];rcases q with q|q|q
    ·have f:fA wk day env e=unM (fA wk day env k) (fA wk day env m):=by
      rw[jF,q,K4,c];rfl
     rw[f,TI (by show opK e.kind=2;rw[q];decide)];dsimp only;rw[mJ]
    ·have f:fA wk day env e=dfM (fA wk day env k) (fA wk day env m):=by
      rw[jF,q,K5,c];rfl
     rw[f,TJ (by show opK e.kind=3;rw[q];decide)];dsimp only;rw[mJ]
    ·have f:fA wk day env e=boM (fA wk day env k) (fA wk day env m):=by
      rw[jF,q,K6,c];rfl
     rw[f,TK (by show opK e.kind=4;rw[q];decide)];dsimp only;rw[mJ]
end
theorem GQ {l:List Ru}(h:(dm l).1=0)(wk:Int->Bool)(day:Int): ∀(d i:Nat),i<l.length->muR l i<d->(evV wk day (eZ l) d i).1=gL l wk day i
 |0,_,_,p=>by omega
 |d+1,i,hi,p=>by
  have a:l[i]? =some l[i]:=az hi;have m:=aL a;have c:(eZ l).getD i cd0=⟨(fP l).getD i [],(gN l i).1,(gN l i).2⟩:=jh (Bc hi);have k:Up wk day (evV wk day (eZ l) d) ((fP l).getD i []):=Ij (uf h hi).2;have g:=((rQ h).2 _ m).ok;have b:kE ((fP l).getD i []) 0 (bT (atP5 l) (l[i]).2 0):=fun j _=>(by rw[nQ a,bN])
  have f: ∀x∈nms (l[i]).2,(evV wk day (eZ l) d (atP5 l x).toNat).1=gL l wk day (atP5 l x).toNat:=fun x q=>by
   obtain⟨r,s,o⟩:=tA h m q;have e:(atP5 l x).toNat<l.length:=(by omega);have t:muR l (atP5 l x).toNat<muR l i:=tq h hi (by rw[rF a];exact dB.2 ⟨_,o,rfl⟩);exact GQ h wk day d _ e (by omega)
  obtain⟨u,n⟩:=GP (env:=fun x=>gL l wk day (atP5 l x).toNat) k _ _ (aA _) g f 0 [] 0 b;rw[evV,c];dsimp only;rw[n,xP (by dsimp only;rw[bN,nQ a])];show fA wk day _ _=_;rw[pG h a]
theorem Qc (day:Int):eB day=wkB day:=rfl
end
structure Co where
 rules:List Ru
 res:List (List UInt8)
 svs:List Sv
 aps:List Ap
def coD (d:Dk):Co:=⟨d.rules,d.res,d.svs,d.aps⟩
def mS (c:Co)(r day:Int):M:=if atP5 c.rules (c.res.getD r.toNat [])<0 then noM else gL c.rules (wkB day) day (atP5 c.rules (c.res.getD r.toNat [])).toNat
def fS (c:Co)(r day a:Int):M:=sC (mS c r day) (inl (ni r day a c.aps 0))
def mZ (c:Co)(n:Int)(a:Ap)(day min:Int)(who:List Int):Ap×Int:=
 if isN day 146097=false\/isN min 1440=false then(ap0,3) else
 if min-a.bef<0\/1440<min+a.len+a.aft then(ap0,3) else
 if ye who (c.svs.getD a.sv.toNat sv0).roles≠0 then(ap0,ye who (c.svs.getD a.sv.toNat sv0).roles) else
 if(who.any fun r=> !jt (fS c r day n) (min-a.bef) (min+a.len+a.aft))=true then(ap0,10) else({a with fr:=min-a.bef,to:=min+a.len+a.aft,day:=day,min:=min,who:=who},0)
def yt (c:Co)(n:Int):Ap:=⟨1,10,0,0,n,(c.svs.getD n.toNat sv0).bef,(c.svs.getD n.toNat sv0).aft,(c.svs.getD n.toNat sv0).len,0,0,[]⟩
def Tf (c:Co)(n day min:Int)(who:List Int):An×Co:=
 if isN n c.svs.length=false then(noA 6,c) else
 if 30<=c.aps.length then(noA 5,c) else
 if(mZ c (-1) (yt c n) day min who).2≠0 then(noA (mZ c (-1) (yt c n) day min who).2,c) else(me c.aps.length,{c with aps:=c.aps++[(mZ c (-1) (yt c n) day min who).1]})
def tC (c:Co)(n:Int)(f:Ap->Ap×Int):An×Co:=
 if isN n c.aps.length=false\/(c.aps.getD n.toNat ap0).st=3 then(noA 6,c) else
 if(f (c.aps.getD n.toNat ap0)).2≠0 then(noA (f (c.aps.getD n.toNat ap0)).2,c) else(noA 0,{c with aps:=c.aps.set n.toNat (f (c.aps.getD n.toNat ap0)).1})
def Tg (c:Co)(t:Int):An×Co:=if t<0\/1000<t then(noA 3,c) else(noA 0,{c with aps:=c.aps.map (IQ t)})
def NS (c:Co)(name:List UInt8):An×Co:=
 if 12<=c.res.length then(noA 5,c) else if atP5 c.rules name<0 then(noA 7,c) else(me c.res.length,{c with res:=c.res++[name]})
def NT (c:Co)(s:Sv):An×Co:=
 if 8<=c.svs.length then(noA 5,c) else if ff s c.res.length≠0 then(noA (ff s c.res.length),c) else(me c.svs.length,{c with svs:=c.svs++[s]})
def I8 (c:Co)(s:Sv)(day:Int):Nat->Nat->List M
 |0,_=>[]
 |m+1,r=>(if s.roles.any (fun p=>decide ((r:Int)∈p))=true then fS c r day (-1) else noM)::I8 c s day m (r+1)
def mE (c:Co)(s:Sv)(day:Int):Nat->Nat->List (List M)
 |0,_=>[]
 |m+1,i=>I8 c s (day+i) c.res.length 0::mE c s day m (i+1)
def sG (c:Co)(n day days:Int):An×Co:=
 if isN n c.svs.length=false then(noA 6,c) else
 if isN day 146097=false\/days<1\/30<days\/146097<day+days then(noA 3,c) else
 if(findP (c.svs.getD n.toNat sv0) (mE c (c.svs.getD n.toNat sv0) day days.toNat 0)).err≠0 then(noA (findP (c.svs.getD n.toNat sv0) (mE c (c.svs.getD n.toNat sv0) day days.toNat 0)).err,c) else(⟨0,0,(findP (c.svs.getD n.toNat sv0) (mE c (c.svs.getD n.toNat sv0) day days.toNat 0)).day+day,(findP (c.svs.getD n.toNat sv0) (mE c (c.svs.getD n.toNat sv0) day days.toNat 0)).min,(findP (c.svs.getD n.toNat sv0) (mE c (c.svs.getD n.toNat sv0) day days.toNat 0)).who,[]⟩,c)
def vI (c:Co):List Ap->Nat->List Int
 |[],_=>[]
 |a::l,i=>if a.st≠3/\(a.who.any fun r=> !jt (mS c r a.day) a.fr a.to)=true then(i:Int)::vI c l (i+1) else vI c l (i+1)
def LH (c:Co)(r:Int×List Ru):An×Co:=if r.1≠0 then(noA r.1,c) else(⟨0,0,0,0,[],vI {c with rules:=r.2} c.aps 0⟩,{c with rules:=r.2})
def doS (c:Co)(x:Cm):An×Co:=
 if x.kind=1 then LH c (ib x.text) else
 if x.kind=2 then NS c x.name else
 if x.kind=3 then NT c x.sv else
 if x.kind=4 then sG c x.n x.day x.days else
 if x.kind=5 then Tf c x.n x.sday x.smin x.swho else
 if x.kind=6 then tC c x.n (fun a=>(qZ a 2,0)) else
 if x.kind=7 then tC c x.n (fun a=>(qZ a 3,0)) else
 if x.kind=8 then tC c x.n (fun a=>mZ c x.n a x.sday x.smin x.swho) else
 if x.kind=9 then Tg c x.days else(noA 1,c)
def jY:Co->List Cm->List An×Co
 |c,[]=>([],c)
 |c,x::l=>((doS c x).1::(jY (doS c x).2 l).1,(jY (doS c x).2 l).2)
def co0:Co:=⟨[],[],[],[]⟩
structure DI (d:Dk):Prop where
 flt:fU d.rules=(0,0)
 vl:d.vers.length=d.rules.length
 kv: ∀e∈d.kept,e.v<=d.given
 vg: ∀v∈d.vers,v<=d.given
 ki: ∀e∈d.kept,∀i:Nat,e.r=(i:Int)->d.vers[i]? =some e.v->e.m=gL d.rules (wkB e.d) e.d i
 ad: ∀a∈d.aps,0<=a.day/\a.day<146097
theorem El {l:List Ru}(h:fU l=(0,0)){i:Nat}(hi:i<l.length){day:Int}(d:0<=day)(e:day<146097):(je (eZ l) (i:Int) day).1=0/\qv (eZ l) (i:Int) day=gL l (wkB day) day i:=by
 have b:(fU l).1=0:=by rw[h]
 have c:=FK (LG b)
 have a:(je (eZ l) (i:Int) day).1=0:=by
  unfold je;rw[c,aw (by simp),yr,aw (by omega),aw (by omega)]
 refine⟨a,?_⟩;unfold qv;rw[ax a,di,Qc];refine GQ (wx b).1 _ _ _ _ hi ?_;rw[yr];have:=BW l (i:Int);unfold muR;omega
theorem NU {l:List Vx.Kp}{i:Int}{e:Vx.Kp}(h:e∈gQ l i):e∈l:=by
 unfold gQ at h;split at h
 ·rcases cZ.1 h with h|h
  ·exact List.mem_of_mem_take h
  ·exact List.mem_of_mem_drop h
 ·exact h
theorem wy {l:List Vx.Kp}{i:Int}{e x:Vx.Kp}(h:x∈gQ l i++[e]):x∈l\/x=e:=(cZ.1 h).imp NU bJ.1
theorem Em {d:Dk}(h:DI d)(r:Int){day:Int}(B:0<=day)(C:day<146097):(gY d r day).1=mS (coD d) r day/\DI (gY d r day).2/\coD (gY d r day).2=coD d:=by
 have D:=py d.rules (d.res.getD r.toNat []);by_cases f:atP5 d.rules (d.res.getD r.toNat [])<0
 ·have e:gY d r day=(noM,d):=ax f;rw[e];exact⟨(ax f).symm,h,rfl⟩
 ·obtain⟨i,g⟩: ∃i:Nat,atP5 d.rules (d.res.getD r.toNat [])=(i:Int):=⟨(atP5 d.rules (d.res.getD r.toNat [])).toNat,by omega⟩
  have e:gY d r day=((ku (eZ d.rules) d.kept d.runs (d.vers.getD i 0) (i:Int) day).m,{d with kept:=(ku (eZ d.rules) d.kept d.runs (d.vers.getD i 0) (i:Int) day).l,runs:=(ku (eZ d.rules) d.kept d.runs (d.vers.getD i 0) (i:Int) day).n}):=by
   unfold gY;dsimp only;rw[aw f,g,di]
  have q:mS (coD d) r day=gL d.rules (wkB day) day i:=by
   unfold mS coD;dsimp only;rw[aw f,g,di]
  rw[e,q];rw[g]at D;clear e q f g;have hi:i<d.rules.length:=(by omega);obtain⟨v,o⟩: ∃v,d.vers[i]? =some v:=⟨d.vers[i]'(by rw[h.vl];exact hi),az _⟩
  have p:d.vers.getD i 0=v:=(by simp[List.getD,o]);obtain⟨E,F⟩:=El h.flt hi B C;rw[p];unfold ku;by_cases k:pB d.kept v (i:Int) day=true
  ·rw[ax k];obtain⟨n,e,G,s,t,u,w,y⟩:=RW k;dsimp only;rw[y];have b:=aL s;have A:e.m=gL d.rules (wkB day) day i:=(by rw[<-u];exact h.ki e b i t (by rw[w];exact o));refine⟨A,⟨h.flt,h.vl,fun x a=> ?_,h.vg,fun x a=> ?_,h.ad⟩,rfl⟩
   ·rcases wy a with a|rfl
    ·exact h.kv x a
    ·exact h.kv _ b
   ·rcases wy a with a|rfl
    ·exact h.ki x a
    ·exact h.ki _ b
  ·rw[aw k,aw (fun c=>c E)];dsimp only;rw[F];refine⟨rfl,⟨h.flt,h.vl,fun x a=> ?_,h.vg,fun x a=> ?_,h.ad⟩,rfl⟩
   ·rcases wy (List.mem_of_mem_drop a) with a|rfl
    ·exact h.kv x a
    ·exact h.vg _ (aL o)
   ·rcases wy (List.mem_of_mem_drop a) with a|rfl
    ·exact h.ki x a
    ·intro j z _
     have:j=i:=by
      have e:(i:Int)=(j:Int):=z;omega
     subst this;rfl
def Ste (d:Dk)(a:Dk):Prop:=DI a/\coD a=coD d
theorem GR {d:Dk}(h:DI d)(r e:Int){day:Int}(f:0<=day)(g:day<146097):(lc d r day e).1=fS (coD d) r day e/\Ste d (lc d r day e).2:=by
 obtain⟨a,b,c⟩:=Em h r f g;exact⟨by unfold lc fS;rw[a];rfl,b,c⟩
theorem En {f:Int->Dk->Bool×Dk}{g:Co->Int->Bool}(i: ∀x d,DI d->(f x d).1=g (coD d) x/\Ste d (f x d).2): ∀(l:List Int) (d:Dk),DI d->(kI f l d).1=l.any (g (coD d))/\Ste d (kI f l d).2
 |[],d,h=>⟨rfl,h,rfl⟩
 |x::l,d,h=>by
  obtain⟨a,b,c⟩:=i x d h;unfold kI;by_cases e:(f x d).1=true
  ·rw[ax e];refine⟨?_,b,c⟩;rw[List.any_cons,<-a,e];rfl
  ·rw[aw e];obtain⟨j,k,m⟩:=En i l (f x d).2 b;refine⟨?_,k,m.trans c⟩;rw[j,c,List.any_cons,<-a];simp[e]
theorem yu {d:Dk}(h:DI d)(n:Int)(a:Ap)(day min:Int)(who:List Int):(ql d n a day min who).1=mZ (coD d) n a day min who/\Ste d (ql d n a day min who).2:=by
 unfold ql mZ;by_cases b:isN day 146097=false\/isN min 1440=false
 ·rw[ax b,ax b];exact⟨rfl,h,rfl⟩
 rw[aw b,aw b];by_cases e:min-a.bef<0\/1440<min+a.len+a.aft
 ·rw[ax e,ax e];exact⟨rfl,h,rfl⟩
 rw[aw e,aw e];show((if ye who (d.svs.getD a.sv.toNat sv0).roles≠0 then _ else _:(Ap×Int)×Dk).1=(if ye who (d.svs.getD a.sv.toNat sv0).roles≠0 then _ else _))/\_;by_cases i:ye who (d.svs.getD a.sv.toNat sv0).roles≠0
 ·rw[ax i,ax i];exact⟨rfl,h,rfl⟩
 rw[aw i,aw i]
 have j:0<=day/\day<146097:=by
  have:isN day 146097=true:=(by simpa using fun c=>b (.inl c));simpa[isN] using this
 obtain⟨p,q⟩:=En (g:=fun c r=> !jt (fS c r day n) (min-a.bef) (min+a.len+a.aft)) (f:=CT day n (min-a.bef) (min+a.len+a.aft)) (fun x d h=>by
  obtain⟨k,l⟩:=GR h x n j.1 j.2;exact⟨by unfold CT;rw[k],l⟩) who d h
 dsimp only;rw[p];split
 ·exact⟨rfl,q⟩
 ·exact⟨rfl,q⟩
theorem Eo (s:Sv){day:Int}(i:0<=day)(j:day<146097): ∀(m r:Nat) (d:Dk),DI d->(iJ s day m r d).1=I8 (coD d) s day m r/\Ste d (iJ s day m r d).2
 |0,_,d,h=>⟨rfl,h,rfl⟩
 |m+1,r,d,h=>by
  unfold iJ I8;dsimp only;split
  ·obtain⟨a,b,c⟩:=GR h (r:Int) (-1) i j;obtain⟨e,f,g⟩:=Eo s i j m (r+1) _ b;exact⟨by rw[a,e,c],f,g.trans c⟩
  ·obtain⟨e,f,g⟩:=Eo s i j m (r+1) d h;exact⟨by rw[e],f,g⟩
theorem LI (s:Sv){day:Int}(j:0<=day): ∀(m i:Nat) (d:Dk),DI d->day+i+m<=146097->(jO s day m i d).1=mE (coD d) s day m i/\Ste d (jO s day m i d).2
 |0,_,d,h,_=>⟨rfl,h,rfl⟩
 |m+1,i,d,h,k=>by
  unfold jO mE;dsimp only;obtain⟨a,b,c⟩:=Eo s (day:=day+i) (by omega) (by omega) d.res.length 0 d h;obtain⟨e,f,g⟩:=LI s j m (i+1) _ b (by omega);exact⟨by rw[a,e,c];rfl,f,g.trans c⟩
theorem Ep: ∀(N:Nat) (a b:Ex),mg N a b=true->a=b
 |0,_,_,h=>by cases h
 |N+1,a,b,h=>by
  unfold mg at h;simp only[bx,bL,dl]at h;obtain⟨⟨⟨⟨c,d⟩,e⟩,f⟩,j,k⟩:=h;have g:a.kids=b.kids:=List.ext_getElem j fun i hi l=>Ep N _ _ (k (a.kids[i],b.kids[i]) (List.mem_iff_getElem.2 ⟨i,by simp;omega,by simp⟩));cases a;cases b;simp only at c d e f g;subst c d e f g;rfl
theorem Bd {c new:List Ru}{k:Nat}(h:jP c new (k:Int)=false): ∃u,c[k]? =some u/\new[k]? =some u:=by
 unfold jP at h;rw[di]at h;cases ha:c[k]? with
 |none=>rw[ha]at h;cases h
 |some a=>
  cases hb:new[k]? with
  |none=>rw[ha,hb]at h;cases h
  |some b=>
   rw[ha,hb]at h;simp only[Bool.or_eq_false_iff,Bool.not_eq_false']at h;have d:=h.2;unfold qN at d;simp only[bx,bL]at d;have:a=b:=Prod.ext d.1 (Ep _ _ _ d.2);exact⟨a,rfl,by rw[this]⟩
theorem Qd {l:List Ru}(h:(dm l).1=0){k:Nat}{u:Ru}(b:l[k]? =some u):atP5 l u.1=(k:Int):=by
 have a:=(Gw h).1 k (aE.1 b).1;unfold lk1 at a;rw[b]at a;simpa using a
theorem Cj {L d:List Ru}(o:(dm L).1=0)(c:(dm d).1=0)(w:Int->Bool)(day:Int): ∀(m i:Nat),muR d i<m->i<d.length->jP L d (i:Int)=false->(∀k∈gJ d (i:Int),jP L d k=false)->gL L w day i=gL d w day i
 |0,_,h,_,_,_=>by omega
 |m+1,i,K,hi,G,z=>by
  obtain⟨u,E,n⟩:=Bd G;rw[pG o E,pG c n];refine oN _ u.2 (aA _) fun x B=> ?_;obtain⟨M,N,_⟩:=tA c (aL n) B;obtain⟨k,l⟩: ∃k:Nat,atP5 d x=(k:Int):=⟨(atP5 d x).toNat,by omega⟩
  have s:=oO c n B;rw[l,di]at s;have A:Lx.Way (fun a b=>(iP d a).contains b) i k:=Relation.TransGen.single (by simpa using s);have f:k<d.length:=(by omega);have r:(k:Int)∈gJ d (i:Int):=(nN c hi).2 ⟨k,rfl,f,A⟩;have g:=z _ r;obtain⟨v,I,J⟩:=Bd g
  have t:v.1=x:=by
   obtain⟨O,y,C⟩:=Kl l;rw[J]at y;cases y;exact C
  have D:atP5 L x=(k:Int):=(by rw[<-t];exact Qd o I);rw[D,l,di];refine Cj o c w day m k (by have:=tq c hi s;omega) f g fun j F=>z j ?_;obtain⟨H,e,p,q⟩:=(nN c f).1 F;exact(nN c hi).2 ⟨H,e,p,A.trans q⟩
theorem Qe {t:List UInt8}(h:(ib t).1=0):fU (ib t).2=(0,0):=by
 unfold ib at h⊢;split at h
 ·rename_i a;exact absurd h a
 ·rename_i a;rw[aw a];exact Cg h
structure DJ (d:Dk):Prop extends DI d where
 gv:0<=d.given
theorem Ste.j {d a:Dk}(h:DJ d)(c:Ste d a)(b:a.given=d.given):DJ a:=⟨c.1,by rw[b];exact h.gv⟩
theorem FL {d:Dk}(h:DJ d){l:List Ru}(o:fU l=(0,0)):DI {d with rules:=l,vers:=sD d l,given:=d.given+1}:=by
 have b:(sD d l).length=l.length:=by simp[sD]
 refine⟨o,b,fun e j=>by have:=h.kv e j;show e.v<=d.given+1;omega,fun v g=> ?_,fun e j i r g=> ?_,h.ad⟩
 ·show v<=d.given+1;unfold sD at g;obtain⟨i,_,rfl⟩:=dB.1 g;split
  ·omega
  ·by_cases q:i<d.vers.length
   ·have:=h.vg (d.vers.getD i 0) (by simp[List.getD,az q]);omega
   ·have:d.vers.getD i 0=0:=(by simp[List.getD,fc (by omega:d.vers.length<=i)]);have:=h.gv;omega
 ·show e.m=gL l (wkB e.d) e.d i;have hi:i<l.length:=(by rw[<-b];exact(aE.1 g).1);have a:(sD d l)[i]? =some e.v:=g;unfold sD at a;rw[bf,List.getElem?_range hi]at a;replace a:(if jP d.rules l (i:Int)=true\/(gJ l (i:Int)).any (jP d.rules l)=true then d.given+1 else d.vers.getD i 0)=e.v:=ay a;by_cases q:jP d.rules l (i:Int)=true\/(gJ l (i:Int)).any (jP d.rules l)=true
  ·rw[ax q]at a;have:=h.kv e j;omega
  ·rw[aw q]at a;have p:jP d.rules l (i:Int)=false:=(by simpa using fun c=>q (.inl c))
   have t: ∀k∈gJ l (i:Int),jP d.rules l k=false:=fun k s=>by
    have: ¬(gJ l (i:Int)).any (jP d.rules l)=true:=fun c=>q (.inr c);simp only[List.any_eq_true,not_exists,not_and]at this;simpa using this k s
   obtain⟨u,u1,_⟩:=Bd p;have f:i<d.vers.length:=(by rw[h.vl];exact(aE.1 u1).1)
   have n:d.vers[i]? =some e.v:=by
    rw[<-a,az f];simp[List.getD,az f]
   rw[h.ki e j i r n];exact Cj (wx (by rw[h.flt])).1 (wx (by rw[o])).1 _ _ _ i (Nat.lt_succ_self _) hi p t
theorem yv: ∀(l:List Ap) (i:Nat) (d:Dk),DI d->(∀a∈l,0<=a.day/\a.day<146097)->(fg l i d).1=vI (coD d) l i/\Ste d (fg l i d).2
 |[],_,d,h,_=>⟨rfl,h,rfl⟩
 |a::l,i,d,h,m=>by
  unfold fg vI;by_cases j:a.st=3
  ·rw[ax j,aw (fun c=>c.1 j)];exact yv l (i+1) d h fun b k=>m b (bj _ k)
  ·rw[aw j];have ha:=m a aV
   obtain⟨p,w,q⟩:=En (g:=fun c r=> !jt (mS c r a.day) a.fr a.to) (f:=lx a.day a.fr a.to) (fun x d h=>by
    obtain⟨s,t,u⟩:=Em h x ha.1 ha.2;exact⟨by unfold lx;rw[s],t,u⟩) a.who d h
   obtain⟨v,n,o⟩:=yv l (i+1) _ w fun b k=>m b (bj _ k);dsimp only;refine⟨?_,n,o.trans q⟩;rw[v,q,p];by_cases e:(a.who.any fun r=> !jt (mS (coD d) r a.day) a.fr a.to)=true
   ·rw[ax e,ax ⟨j,e⟩]
   ·rw[aw e,aw fun c=>e c.2]
theorem GS {c:Co}{n:Int}{a:Ap}{day min:Int}{who:List Int}(h:(mZ c n a day min who).2=0):0<=(mZ c n a day min who).1.day/\(mZ c n a day min who).1.day<146097:=by
 unfold mZ at h⊢;split
 ·rename_i b;rw[ax b]at h;cases h
 rename_i b;rw[aw b]at h;split
 ·rename_i e;rw[ax e]at h;cases h
 rename_i e;rw[aw e]at h;split
 ·rename_i d;rw[ax d]at h;exact absurd h d
 rename_i d;rw[aw d]at h;split
 ·rename_i f;rw[ax f]at h;cases h
 have:isN day 146097=true:=by simpa using fun c=>b (.inl c)
 simpa[isN] using this
def Rl (p:An×Dk)(q:An×Co):Prop:=p.1=q.1/\coD p.2=q.2/\DJ p.2
theorem Rl.ite {c:Prop}[Decidable c]{p a:An×Dk}{q b:An×Co}(h:c->Rl p q)(d: ¬c->Rl a b):Rl (if c then p else a) (if c then q else b):=by
 by_cases e:c
 ·rw[ax e,ax e];exact h e
 ·rw[aw e,aw e];exact d e
theorem LJ {n m:Int}(h: ¬isN n m=false):0<=n/\n<m:=by
 have:isN n m=true:=by simpa using h
 simpa[isN] using this
theorem Rl.aps {d c:Dk}(h:DJ d)(b:Ste d c)(f:c.given=d.given)(a:An){l:List Ap}(g: ∀x∈l,0<=x.day/\x.day<146097):Rl (a,{c with aps:=l}) (a,{coD d with aps:=l}):=by
 have e:=b.2;unfold coD at e;simp only[Co.mk.injEq]at e;refine⟨rfl,?_,⟨⟨b.1.flt,b.1.vl,b.1.kv,b.1.vg,b.1.ki,g⟩,by show 0<=c.given;rw[f];exact h.gv⟩⟩;unfold coD;simp only[Co.mk.injEq];exact⟨e.1,e.2.1,e.2.2.1,trivial⟩
theorem Er {d:Dk}(h:DJ d)(n:Int)(f:Ap->Dk->(Ap×Int)×Dk)(g:Ap->Ap×Int)(l: ∀a,(f a d).1=g a/\Ste d (f a d).2/\Cor d (f a d).2)(m: ∀a∈d.aps,(g a).2=0->0<=(g a).1.day/\(g a).1.day<146097):Rl (pK d n f) (tC (coD d) n g):=by
 unfold pK tC;refine .ite (fun _=>⟨rfl,rfl,h⟩) fun i=> ?_;obtain⟨p,q,r⟩:=l (d.aps.getD n.toNat ap0);dsimp only;rw[p];refine .ite (fun _=>⟨rfl,q.2,q.j h r.given⟩) fun k=> ?_;have b:(f (d.aps.getD n.toNat ap0) d).2.aps=d.aps:=congrArg Co.aps q.2;rw[b];refine .aps h q r.given _ fun a ha=> ?_;rcases List.mem_or_eq_of_mem_set ha with ha|rfl
 ·exact h.ad a ha
 ·have o:=LJ fun c=>i (.inl c);have e:n.toNat<d.aps.length:=(by omega);exact m _ (by simp[List.getD,az e]) (by simpa using k)
theorem Th {d:Dk}(h:DJ d)(x:Cm):Rl (doP d x) (doS (coD d) x):=by
 have f: ∀a,Rl (a,d) (a,coD d):=fun a=>⟨rfl,rfl,h⟩
 unfold doP doS;refine .ite (fun _=> ?_) fun _=> .ite (fun _=> ?_) fun _=> .ite (fun _=> ?_) fun _=> .ite (fun _=> ?_) fun _=> .ite (fun _=> ?_) fun _=> .ite (fun _=> ?_) fun _=> .ite (fun _=> ?_) fun _=> .ite (fun _=> ?_) fun _=> .ite (fun _=> ?_) fun _=>f _
 ·refine .ite (fun _=>f _) fun e=> ?_;obtain⟨p,q⟩:=yv d.aps 0 _ (FL h (Qe (by simpa using e))) h.ad;dsimp only;refine⟨by rw[p];rfl,q.2,q.1,?_⟩;rw[(qP d.aps 0 _).given];have:=h.gv;show 0<=d.given+1;omega
 ·exact .ite (fun _=>f _) fun _=> .ite (fun _=>f _) fun _=>⟨rfl,rfl,⟨⟨h.flt,h.vl,h.kv,h.vg,h.ki,h.ad⟩,h.gv⟩⟩
 ·exact .ite (fun _=>f _) fun _=> .ite (fun _=>f _) fun _=>⟨rfl,rfl,⟨⟨h.flt,h.vl,h.kv,h.vg,h.ki,h.ad⟩,h.gv⟩⟩
 ·refine .ite (fun _=>f _) fun _=> .ite (fun _=>f _) fun k=> ?_;have r:=LJ fun c=>k (.inl c);obtain⟨p,q⟩:=LI (d.svs.getD x.n.toNat sv0) r.1 x.days.toNat 0 d h.toDI (by omega);have g:=(yo (d.svs.getD x.n.toNat sv0) x.day x.days.toNat 0 d).given;dsimp only;rw[p];exact .ite (fun _=>⟨rfl,q.2,q.j h g⟩) fun _=>⟨rfl,q.2,q.j h g⟩
 ·refine .ite (fun _=>f _) fun _=> .ite (fun _=>f _) fun _=> ?_;obtain⟨p,q⟩:=yu h.toDI (-1) (yt (coD d) x.n) x.sday x.smin x.swho;have g:=(qO d (-1) (yt (coD d) x.n) x.sday x.smin x.swho).given;have i:(ql d (-1) (yt (coD d) x.n) x.sday x.smin x.swho).2.aps=d.aps:=congrArg Co.aps q.2;have m:(⟨1,10,0,0,x.n,(d.svs.getD x.n.toNat sv0).bef,(d.svs.getD x.n.toNat sv0).aft,(d.svs.getD x.n.toNat sv0).len,0,0,[]⟩:Ap)=yt (coD d) x.n:=rfl;dsimp only;rw[m,p,i];refine .ite (fun _=>⟨rfl,q.2,q.j h g⟩) fun l=> .aps h q g _ fun a ha=> ?_;rcases cZ.1 ha with ha|ha
  ·exact h.ad a ha
  ·cases bJ.1 ha;exact GS (by simpa using l)
 ·exact Er h _ _ _ (fun a=>⟨rfl,⟨h.toDI,rfl⟩,Cor.refl d⟩) fun a ha _=>h.ad a ha
 ·exact Er h _ _ _ (fun a=>⟨rfl,⟨h.toDI,rfl⟩,Cor.refl d⟩) fun a ha _=>h.ad a ha
 ·exact Er h _ _ _ (fun a=>⟨(yu h.toDI _ a _ _ _).1,(yu h.toDI _ a _ _ _).2,qO d _ a _ _ _⟩) fun a _ e=>GS e
 ·refine .ite (fun _=>f _) fun _=> .aps h ⟨h.toDI,rfl⟩ rfl _ fun a ha=> ?_;obtain⟨b,o,rfl⟩:=dB.1 ha;have:=h.ad b o;unfold IQ qZ;split
  ·exact this
  split<;>exact this
theorem GU: ∀(l:List Cm) (d:Dk),DJ d->(fW d l).1=(jY (coD d) l).1/\coD (fW d l).2=(jY (coD d) l).2/\DJ (fW d l).2
 |[],d,h=>⟨rfl,rfl,h⟩
 |x::l,d,h=>by
  obtain⟨a,b,c⟩:=Th h x;obtain⟨e,f,g⟩:=GU l _ c;unfold fW jY;rw[<-a,<-b];exact⟨by rw[e],f,g⟩
theorem R1:DJ dk0:=⟨⟨Ae.flt,Ae.vl,(fun e a=>by cases a),(fun e a=>by cases a),(fun e a=>by cases a),(fun e a=>by cases a)⟩,Ae.gv.1⟩
theorem LK (l:List Cm):(fW dk0 l).1=(jY co0 l).1/\coD (fW dk0 l).2=(jY co0 l).2/\DJ (fW dk0 l).2:=GU l dk0 R1
end Go.Proofs.YtpdoienkhgnceaaGreatDoor
