/- Texts of the proof. -/
import Derived.Test.YtlkehieagdkgiaaGreatDoorPe31
set_option maxRecDepth 100000
set_option maxHeartbeats 8000000
namespace Go.Proofs.YtlkehieagdkgiaaGreatDoor
open Go.Proofs.Tryz Go.RowKit Lx Vx Mx Msk
section
section
variable {B gD:Nat} {d:Dk} {t:Tr}
theorem Jz (n day days:Int)(w:World)(h:dE B gD d t w)(hT: ∀W,Below B w W->Tab W)(bD:B<=w.heap.size):Calls prog 32 #[ab gD 0,ag n,ag day,ag days] w (rD B gD (jI d n day days) t w):=by
 obtain⟨wA,hA,bA,nA⟩:=nb w #[ag 0,ag 0,ag 0,ag 0,af,af] 43;have ca:wA.heap.size=w.heap.size+1:=by rw[<-hA];simp
 have bO:=h.opened (aD _) ca bA;have x:=aE bO;have l:Rb (Kd gD t t w wA):=Kd.of bA;have H0:=aE h;obtain⟨bX,rv,cv,vv,kv,ss,aa,hm⟩:=bO;have cc:ss.length=d.svs.length:=by rw[<-hm.sve,bc]
 obtain⟨ps,cs,a5⟩:=cg hm.svs;obtain⟨ns,a0⟩:=au ss.length;rw[a0]at a5;have z2:wA.cell? (ae gD 2)=some (.slice ps ns cs):=(cr (v:=t.sv) 2 hm.blk rfl).trans (congrArg some a5);have J:Rb (d.svs.length=ns):=by show _=_;rw[<-cc,a0]
 have aO:=aE a0;have b8:Rb (t.sv= .slice ps ns cs):=a5;have HM:=aE hm;have bz:=aE bX;have HT:=aE hT;have O:=nA;have aQ:=qH n (ns:Int) wA;have an:=qH day 146097 wA;obtain⟨b1,aT⟩:=au (isN n (ns:Int));obtain⟨b2,aV⟩:=au (isN day 146097);rw[aT]at aQ;rw[aV]at an;have C:=aE aT;have al:=aE aV;have bm:=aE bD;clear h hm bX cc a5 a0 hT aT aV nA ca bD;go_enter func32,ntmps32;go_wp2_with fail;refine aQ.mono ?_;rintro e w1 ⟨rfl,c3⟩;subst c3;clear aQ;cases b1 with
 |false=>
  have R:Rb (jI d n day days=(noA 6,d)):=(by show _=_;unfold jI;rw[J.o,aB C.o]);clear an hA z2 bA;have cR:=fj 6 w1;go_wp2_with fail;refine cR.mono ?_;rintro e w9 ⟨rfl,a⟩;have H:=bt a O;have r:=aE (fK (x.o.below a) (l.o.trans (Kd.of a)) (aD _) (anC (noA 6) (af) (af)));have S:=aE (aL _ _ _ (anC (noA 6) (af) (af)) _ _ H);clear cR a O;go_wp2_with(refine az rfl 43 _ _ rfl _ _ rfl rfl _ _ H (by kernel_rfl) rfl (by simp[anC,noA,Value.oneCell']) ?_)
  refine aX (v:= .agg (anC (noA 6) (af) (af))) ?_ rfl ?_
  ·exact bf rfl _ _ w.heap.size _ _ _ _ rfl S.o anT rfl (by kernel_rfl)
  ·rw[R.o];exact⟨t,_,_,rfl,r.o.1,r.o.2,fp _ _,eE _ _⟩
 |true=>
  go_wp2_with fail;refine an.mono ?_;rintro e w2 ⟨rfl,c6⟩;subst c6;clear an;cases b2 with
  |false=>
   have R:Rb (jI d n day days=(noA 3,d)):=(by show _=_;unfold jI;rw[J.o,ax (by rw[C.o];simp),aB (.inl al.o)]);clear hA z2 bA;have cR:=fj 3 w2;go_wp2_with fail;refine cR.mono ?_;rintro e w9 ⟨rfl,a⟩;have H:=bt a O;have r:=aE (fK (x.o.below a) (l.o.trans (Kd.of a)) (aD _) (anC (noA 3) (af) (af)));have S:=aE (aL _ _ _ (anC (noA 3) (af) (af)) _ _ H);clear cR a O;go_wp2_with(refine az rfl 43 _ _ rfl _ _ rfl rfl _ _ H (by kernel_rfl) rfl (by simp[anC,noA,Value.oneCell']) ?_)
   refine aX (v:= .agg (anC (noA 3) (af) (af))) ?_ rfl ?_
   ·exact bf rfl _ _ w.heap.size _ _ _ _ rfl S.o anT rfl (by kernel_rfl)
   ·rw[R.o];exact⟨t,_,_,rfl,r.o.1,r.o.2,fp _ _,eE _ _⟩
  |true=>
   have c8:0<=day/\day<146097:=(by have:=al.o;simpa[isN] using this);by_cases M:days<1
   ·have R:Rb (jI d n day days=(noA 3,d)):=(by show _=_;unfold jI;rw[J.o,ax (by rw[C.o];simp),aB (.inr (.inl M))]);clear hA z2 bA;have cR:=fj 3 w2;go_wp2_with fail;refine cR.mono ?_;rintro e w9 ⟨rfl,a⟩;have H:=bt a O;have r:=aE (fK (x.o.below a) (l.o.trans (Kd.of a)) (aD _) (anC (noA 3) (af) (af)));have S:=aE (aL _ _ _ (anC (noA 3) (af) (af)) _ _ H);clear cR a O;go_wp2_with(refine az rfl 43 _ _ rfl _ _ rfl rfl _ _ H (by kernel_rfl) rfl (by simp[anC,noA,Value.oneCell']) ?_)
    refine aX (v:= .agg (anC (noA 3) (af) (af))) ?_ rfl ?_
    ·exact bf rfl _ _ w.heap.size _ _ _ _ rfl S.o anT rfl (by kernel_rfl)
    ·rw[R.o];exact⟨t,_,_,rfl,r.o.1,r.o.2,fp _ _,eE _ _⟩
   ·by_cases Z:30<days
    ·have R:Rb (jI d n day days=(noA 3,d)):=(by show _=_;unfold jI;rw[J.o,ax (by rw[C.o];simp),aB (.inr (.inr (.inl Z)))]);clear hA z2 bA;have cR:=fj 3 w2;go_wp2_with fail;refine cR.mono ?_;rintro e w9 ⟨rfl,a⟩;have H:=bt a O;have r:=aE (fK (x.o.below a) (l.o.trans (Kd.of a)) (aD _) (anC (noA 3) (af) (af)));have S:=aE (aL _ _ _ (anC (noA 3) (af) (af)) _ _ H);clear cR a O;go_wp2_with(refine az rfl 43 _ _ rfl _ _ rfl rfl _ _ H (by kernel_rfl) rfl (by simp[anC,noA,Value.oneCell']) ?_)
     refine aX (v:= .agg (anC (noA 3) (af) (af))) ?_ rfl ?_
     ·exact bf rfl _ _ w.heap.size _ _ _ _ rfl S.o anT rfl (by kernel_rfl)
     ·rw[R.o];exact⟨t,_,_,rfl,r.o.1,r.o.2,fp _ _,eE _ _⟩
    ·have bl:IntKind.i64.wrap (day+days)=day+days:=(by rw[bU];omega);by_cases h3:146097<day+days
     ·have R:Rb (jI d n day days=(noA 3,d)):=(by show _=_;unfold jI;rw[J.o,ax (by rw[C.o];simp),aB (.inr (.inr (.inr h3)))]);clear hA z2 bA;have cR:=fj 3 w2;go_wp2_with fail;refine cR.mono ?_;rintro e w9 ⟨rfl,a⟩;have H:=bt a O;have r:=aE (fK (x.o.below a) (l.o.trans (Kd.of a)) (aD _) (anC (noA 3) (af) (af)));have S:=aE (aL _ _ _ (anC (noA 3) (af) (af)) _ _ H);clear cR a O;go_wp2_with(refine az rfl 43 _ _ rfl _ _ rfl rfl _ _ H (by kernel_rfl) rfl (by simp[anC,noA,Value.oneCell']) ?_)
      refine aX (v:= .agg (anC (noA 3) (af) (af))) ?_ rfl ?_
      ·exact bf rfl _ _ w.heap.size _ _ _ _ rfl S.o anT rfl (by kernel_rfl)
      ·rw[R.o];exact⟨t,_,_,rfl,r.o.1,r.o.2,fp _ _,eE _ _⟩
     ·have hn:0<=n/\n<(ns:Int):=(by have:=C.o;simpa[isN] using this);obtain⟨k,rfl⟩: ∃k:Nat,n=(k:Int):=⟨n.toNat,by omega⟩
      have bW:k<ss.length:=(by rw[aO.o];omega);have cG:(0:Int)<=(k:Int):=(by omega);have cH:(k:Int)<(ns:Int):=hn.2;obtain⟨⟨s,sv⟩,a4⟩: ∃q,ss[k]? =some q:=⟨ss[k],ay bW⟩
      have bk:d.svs[k]? =some s:=(by rw[<-HM.o.sve,a8,a4];rfl);have a3:=HM.o.svr _ (aM a4);obtain⟨pr,Y,cb,_,_⟩:=a3.here;dsimp only at cb a3;subst cb;obtain⟨gs,cx,e1,_,bZ⟩:=iJ rB HM.o.svs rfl a4;have e0:Value.slice ps ns cs= .slice (some (ae gs 0)) ns cx:=(by rw[<-b8.o,<-aO.o];exact e1);injection e0 with e2 e3 e4;subst e2 e4;obtain⟨m,rfl⟩: ∃m:Nat,days=(m:Int):=⟨days.toNat,by omega⟩
      obtain⟨wZ,A,hZ,nZ,hB,bB,nB⟩:=nbs w2 #[ag 0,ag 0,ag 0,af] (svC (s,.slice pr s.roles.length Y)) 36;have bP:=x.o.below bB;have cj:=bt bB O
      have I:Rb (jI d (k:Int) day (m:Int)=(if(ia s (iW s day m 0 d).1).err≠0 then(noA (ia s (iW s day m 0 d).1).err,(iW s day m 0 d).2) else(⟨0,0,(ia s (iW s day m 0 d).1).day+day,(ia s (iW s day m 0 d).1).min,(ia s (iW s day m 0 d).1).who,[]⟩,(iW s day m 0 d).2))):=by
       show _=_;have:d.svs.getD k sv0=s:=(by simp[List.getD,bk]);unfold jI
       rw[J.o,ax (by rw[C.o];simp),ax (fun h=>by
        rcases h with h|h|h|h
        ·rw[al.o]at h;cases h
        ·omega
        ·omega
        ·omega)]
       simp only[dj,this]
      have b3:=aE (a3.below bB);have cl:=aE bP;have bu:=aE (l.o.trans (Kd.of bB));have HG:Rb (∀q,w.heap.size<=q->Gx gD t q):=fun q f=>(H0.o.fx (.inr f)).1;have ct:=aE (wn (bz.o.sv s (aM bk)));obtain⟨z,bh⟩:=au d.res.length;have c0:z<=12:=(by rw[<-bh];exact bz.o.rl);have bw:=aE bh;have cL:w.heap.size<=A.heap.size:=bu.o.size;have ce:w.heap.size<=w2.heap.size:=l.o.size;have c9:m<=30:=(by omega);have cC:day+(m:Int)<=146097:=(by omega);have aC:=aI cj;have aA:=aI nB;clear hA bA hn bW a4 bk a3 e1 e3 bP bh O bB C al J aO b8 HM x l;go_wp2_with(first|(refine wpList_load_mid rfl 36 _ rfl gs (k*4) rfl (svC (s,.slice pr s.roles.length Y)).toList _ bZ svT rfl (by kernel_rfl) ?_)|(refine az rfl 36 _ _ rfl _ _ rfl rfl _ _ nZ (by kernel_rfl) rfl (qJ _ _ _ _) ?_;rw[hB]))
      clear z2 bZ hZ nZ hB bl M Z h3;go_loopw [10,11,51] (fun v _ q wr=> ∃(j:Nat) (U:Dk) (L:List Nat) (T:List (List (Nat->Bool))) (vs:List Value),q=ag (j:Int)/\j<=m/\Cor d U/\dE B gD U ((t.add w.heap.size).ad L) wr/\(∀b,v.ownBlock=some b->b∈L)/\(∀b∈L,A.heap.size<=b)/\Kd gD t t A wr/\wr.ownsRow A.heap.size 46 1 v j vs/\T.length=j/\(∀(i:Nat) (y:List (Nat->Bool)) (u:Value),T[i]? =some y->vs[i]? =some u->y.length=z/\wr.ownsRow A.heap.size 55 23 u z (mkF y))/\iW s day m 0 d=(T++(iW s day (m-j) j U).1,(iW s day (m-j) j U).2)) (fun _ _ q _=>m-(intOf q).toNat);case atStart=>exact⟨0,d,[],[],[],rfl,by omega,Cor.refl d,cl.o,(fun b hb=>by cases hb),(fun b hb=>by cases hb),Kd.of (aH _ _),dp _ _ _ _,rfl,(fun i y u hi=>by simp at hi),rfl⟩
      case round=>
       obtain⟨j,U,L,T,vs,rfl,hj,ap,hd,aS,ao,V,G,aw,av,hX⟩:=hrel;have cE:(0:Int)<=(j:Int):=(by omega);have ar:U.res=d.res:=(by obtain⟨_,_,rfl⟩:=ap;rfl);by_cases cz:j<m
       ·have bR:(j:Int)<(m:Int):=(by omega);rw[Jw s day cz,ar,bw.o]at hX;have ac:=(V.blk _ (HG.o w2.heap.size (by omega)) aA).trans nB
        have bY:Rob (Fx gD ((t.add w.heap.size).ad L)) (fun u=>fu u (.slice pr s.roles.length Y) s.roles) wr:=b3.o.move V.size (fun q f hl=>V.blk q f.1 hl) fun q hl f=>⟨f.1,fun hx=>by
         rcases da.1 hx with hx|hx
         ·have:=ao q hx;omega
         ·exact f.2 hx⟩
        have cF:=Ed s pr Y (day+(j:Int)) wr hd bY;rw[ar,bw.o]at cF;have cK:IntKind.i64.wrap (day+(j:Int))=day+(j:Int):=(by rw[bU];omega);obtain⟨y,bd⟩:=au ((gG s (day+(j:Int)) z 0 U).1);obtain⟨de,aZ⟩:=au ((gG s (day+(j:Int)) z 0 U).2)
        have bq:Rb (Cor d de/\y.length=z):=by
         have:=pC s (day+(j:Int)) z 0 U;rw[bd,aZ]at this;exact⟨ap.trans this.1,this.2⟩
        rw[bd,aZ]at cF hX
        have HX:Rb (iW s day m 0 d=((T++[y])++(iW s day (m-(j+1)) (j+1) de).1,(iW s day (m-(j+1)) (j+1) de).2)):=by
         show _=_;rw[hX,ef];rfl
        have aK:=aE G;have aJ:=aE av;have co:=aE aS;have cp:=aE ao;have HK:=aE V;have X:=aE aw;have ch:A.heap.size<=wr.heap.size:=V.size;clear hX bd aZ G av aS ao V aw ap ar hd bY;go_wp2_with(refine aR rfl 36 _ rfl _ rfl _ _ _ _ ac svT rfl (by kernel_rfl) ?_)
        refine cF.mono ?_;rintro e w3 ⟨gm,rfl,cy,bj,bK,F⟩;have a7:Kd gD t t wr w3:=⟨F.os,F.tape,F.output,F.size,F.blk,fun _ _ h=>h,rfl⟩
        obtain⟨wC,hC,bC,nC⟩:=nb w3 #[.slice (some (ae gm 0)) z z] 46;have aj: ∀{e s n:Nat} {u:Value} {xs:List Value},wr.ownsRow A.heap.size e s u n xs->wC.ownsRow A.heap.size e s u n xs:=fun hr=>br hr fun b f=>(bC.block b (aU (hr.lt b f).2 F.size)).trans (F.blk b (HG.o b (by have:=(hr.lt b f).1;omega)) (hr.lt b f).2);have ai:=aj aK.o;have bQ:=bK.below bC;have D:=aE (HK.o.trans (a7.trans (Kd.of bC)))
        have b0:Rb (wC.ownsRow A.heap.size 55 23 (.slice (some (ae gm 0)) z z) z (mkF y)):=by
         have M:=br bj fun b f=>bC.block b (bj.lt b f).2;exact⟨M.1,M.2.imp id fun⟨g,c,cu,q1,q2,q3⟩=>⟨g,c,cu,q1,bg ch q2,q3⟩⟩
        have aG:Rb (∀(i:Nat) (y:List (Nat->Bool)) (u:Value),T[i]? =some y->vs[i]? =some u->y.length=z/\wC.ownsRow A.heap.size 55 23 u z (mkF y)):=fun i y u M Z=>⟨(aJ.o i y u M Z).1,aj (aJ.o i y u M Z).2⟩
        have bp:=aE bQ;have c7:A.heap.size<=wC.heap.size:=D.o.size;clear cF ac F a7 bK bj aj bC bQ HK aJ cy;go_wp2_with(at_builtin;refine iN rfl _ _ 142 46 rfl NV Pp rfl (by decide) (by decide) rfl ai rfl nC rfl (by simp[Value.oneCell']) (by omega) c7 ?_)
        rintro v2 w4 bi E bJ g4 c4 rfl;obtain⟨L',bM,bF,bG,_⟩:=bp.o.grown ai co.o E bi bJ;have bS:Kd gD t t A w4:=⟨E.os.trans D.o.os,E.tape.trans D.o.tape,E.output.trans D.o.output,bg D.o.size E.size,fun q f hl=>(E.block q (aU hl D.o.size) (fun e=>by have:=(ai.lt q e.symm).1;omega)).trans (D.o.blk q f hl),fun _ _ h=>h,rfl⟩
        have N: ∀{u:Value} {n:Nat} {xs:List Value},wC.ownsRow A.heap.size 55 23 u n xs->w4.ownsRow A.heap.size 55 23 u n xs:=fun hr=>br hr fun b f=>E.block b (hr.lt b f).2 fun e=>pY hr ai (by decide) f e.symm
        have cq:Rb (∃(L:List Nat) (a6:List Value),dE B gD de ((t.add w.heap.size).ad L) w4/\(∀b,(Value.slice (some (ae g4 0)) (j+1) c4).ownBlock=some b->b∈L)/\(∀b∈L,A.heap.size<=b)/\Kd gD t t A w4/\w4.ownsRow A.heap.size 46 1 (.slice (some (ae g4 0)) (j+1) c4) (j+1) a6/\(∀(i:Nat) (K:List (Nat->Bool)) (u:Value),(T++[y])[i]? =some K->a6[i]? =some u->K.length=z/\w4.ownsRow A.heap.size 55 23 u z (mkF K))):=by
         refine⟨L',_,bM,bF,fun b hb=> ?_,bS,bi,fun i K u M Z=> ?_⟩
         ·rcases bG b hb with h|h
          ·exact cp.o b h
          ·have:=h.1;omega
         ·have c2:vs.length=j:=(by have:=aK.o.1;omega);by_cases e:i=j
          ·subst e;rw[dB (by have:=X.o;omega),X.o,iM]at M;rw[dB (by omega),c2,iM]at Z;have e1:y=K:=aN M;have e2:Value.slice (some (ae gm 0)) z z=u:=aN Z;subst e1 e2;exact⟨bq.o.2,N b0.o⟩
          ·have cD:i<j:=by
            have:=(aF.1 M).1;rw[aP,X.o]at this;simp at this;omega
           rw[dT (by have:=X.o;omega)]at M;rw[dT (by omega)]at Z;exact⟨(aG.o i K u M Z).1,N (aG.o i K u M Z).2⟩
        clear ai bi E bJ nC hC bM bF bG bS N bp D b0 aG aK;go_wp2_with fail;go_roundw
        case rel=>
         obtain⟨L,a6,q1,q2,q3,q4,q5,q6⟩:=cq.o;exact⟨j+1,de,L,T++[y],a6,by go_num,by omega,bq.o.1,q1,q2,q3,q4,q5,by rw[aP,X.o];rfl,q6,HX.o⟩
        case measure=>simp[intOf];omega
       ·have bR: ¬(j:Int)<(m:Int):=(by omega);obtain rfl:m=j:=(by omega);rw[iM]at hX
        have bI:iW s day m 0 d=(T,U):=by
         rw[hX];simp[iW]
        have be:=bu.o.trans V;have bV:=V.size;have ac:=(V.blk _ (HG.o w2.heap.size ce) aA).trans nB;have ck:=(V.blk _ (HG.o w.heap.size (aD _)) aC).trans cj;have a9:=((V.rob (t':=t) (b3.o.move (P':=Fx gD t) (aD _) (fun _ _ _=>rfl) fun q _ f=>⟨f.1,fun hx=>f.2 (bL _ hx)⟩))).here;have bE:vE wr u10 T:=Jy (by rw[aw];exact G) (by omega) (by omega) av;have bH:=HT.o wr (Kd.below H0.o be bm.o);have cM:=IW s (.slice pr s.roles.length Y) T u10 wr bH a9 bE;unfold svV Gi at cM;rw[bI]at I;obtain⟨fr,bb⟩:=au (ia s T);have cn:Rb (0<=fr.day/\fr.day<=30):=(by have:=Jx s T;rw[bb]at this;exact this);rw[bb]at cM I;obtain⟨pw,cw,cd⟩:=cg G;subst cd;have cm:=aE hd.drop;have bv:=aE be;clear hX bI V be hd aS ao G av aw ap ar a9 bE bH bb ct;go_wp2_with(refine aR rfl 36 _ rfl _ rfl _ _ _ _ ac svT rfl (by kernel_rfl) ?_)
        refine cM.mono ?_;rintro e w5 ⟨v5,rfl,a2,b5⟩;obtain⟨p5,c5,c1⟩:=cg a2;subst c1;obtain⟨nw,a1⟩:=au fr.who.length;rw[a1]at a2;obtain⟨wY,w6,hY,nY,h6,b6,n6⟩:=nbs w5 #[ag 0,ag 0,af] #[ag fr.day,ag fr.min,.slice p5 nw c5] 39;have ak:=bt b5 ck;have bT:=bv.o.trans (Kd.of b5);have bN:=cm.o.below b5;have bs:=aE bT;have bn:=aE bN;have am:=aE a2;have bx:=aE a1;have cB:w.heap.size<w5.heap.size:=aI ak;have bl:w.heap.size<wr.heap.size:=aU aC bV;have cI:wr.heap.size<=w5.heap.size:=b5.size;obtain⟨er,ba⟩:=au fr.err;rw[ba]at I;rw[a1,ba];have Q:=aE b6;clear cM ac b5 ck bT bN a2 a1 ba b6 bv;by_cases h0:er=0
        ·subst h0;have R:Rb (jI d (k:Int) day (m:Int)=(⟨0,0,fr.day+day,fr.min,fr.who,[]⟩,U)):=I.o.trans (by rw[ax (by simp)]);have cJ:IntKind.i64.wrap (fr.day+day)=fr.day+day:=(by have:=cn.o;rw[bU];omega);have y6:w6.cell? (ae w5.heap.size 0)=some (ag fr.day):=cr 0 n6 rfl;have x6:=bo _ _ 0 _ _ n6;obtain⟨w7,cf⟩:=au (w6.setCell ⟨w5.heap.size,0,none⟩ (ag (fr.day+day)));have n7:w7.heap[w5.heap.size]? =ah #[ag (fr.day+day),ag fr.min,.slice p5 nw c5] 39:=cf▸aY w6 w5.heap.size 0 _ _ (ag (fr.day+day)) n6;have b7:aq w5 w7:=cf▸Q.o.setCell (p:=⟨w5.heap.size,0,none⟩) (aD _) (ag (fr.day+day));have ci:=bt b7 ak
         have b4:Rb (Rob (Fx gD t) (fun u=>rC B u (.slice p5 nw c5) fr.who) (w7.setRow w.heap.size (anC ⟨0,0,fr.day+day,fr.min,fr.who,[]⟩ (.slice p5 nw c5) (af)))):=by
          refine Rob.imp (Rob.move (P:=fun q=>wr.heap.size<=q) (Φ:=fun u=>u.ownsRow wr.heap.size 3 1 (.slice p5 nw c5) nw (dz fr.who)) (w:=w7) (fun u hu ha=>br am.o fun b hb=>(ha b (am.o.lt b hb).1 (aU (am.o.lt b hb).2 b7.size)).trans (b7.block b (am.o.lt b hb).2)) (by simp) (fun q f _=>aW _ _ _ _ (by omega)) fun q _ f=>H0.o.fx (.inr (by omega))) fun u hu=>⟨nK (by rw[bx.o];exact hu) (by
           rw[bx.o];rcases hu.2 with⟨_,e⟩|⟨_,_,_,_,_,_,_,e,_⟩
           ·omega
           ·unfold maxLen at e;omega),(fun p n k e=>by
           cases e;rcases hu.2 with⟨e,e2⟩|⟨_,_,_,e,_,_,e2,_⟩
           ·omega
           ·cases e;exact e2),fun b e=>bg (bg bm.o (Nat.le_of_lt bl)) (hu.lt b e).1⟩
         have r:=aE (fK (bn.o.below b7) (bs.o.trans (Kd.of b7)) (aD _) (anC ⟨0,0,fr.day+day,fr.min,fr.who,[]⟩ (.slice p5 nw c5) (af)));have S:=aE (aL _ _ _ (anC ⟨0,0,fr.day+day,fr.min,fr.who,[]⟩ (.slice p5 nw c5) (af)) _ _ ci);clear b7 ak n6 Q I;go_wp2_with(first|(refine aR rfl 39 _ rfl _ rfl _ _ _ _ n7 slT rfl (by kernel_rfl) ?_)|(refine az rfl 39 _ _ rfl _ _ rfl rfl _ _ nY (by kernel_rfl) rfl (by simp[Value.oneCell']) ?_;rw[h6])|(refine az rfl 43 _ _ rfl _ _ rfl rfl _ _ ci (by kernel_rfl) rfl (by simp[Value.oneCell']) ?_))
         refine aX (v:= .agg (anC ⟨0,0,fr.day+day,fr.min,fr.who,[]⟩ (.slice p5 nw c5) (af))) ?_ rfl ?_
         ·exact bf rfl _ _ w.heap.size _ _ _ _ rfl S.o anT rfl (by kernel_rfl)
         ·rw[R.o];exact⟨t,_,_,rfl,r.o.1,r.o.2,b4.o,eE _ _⟩
        ·have cA:(er !=0)=true:=(by simpa using h0);have R:Rb (jI d (k:Int) day (m:Int)=(noA er,U)):=I.o.trans (by rw[aB h0]);have O:=bt Q.o ak;have x:=aE (bn.o.below Q.o);have l:=aE (bs.o.trans (Kd.of Q.o));clear h0 ak Q I n6;go_wp2_with(refine az rfl 39 _ _ rfl _ _ rfl rfl _ _ nY (by kernel_rfl) rfl (by simp[Value.oneCell']) ?_;rw[h6])
         clear nY hY h6;have cR:=fj er w6;go_wp2_with fail;refine cR.mono ?_;rintro e w9 ⟨rfl,a⟩;have H:=bt a O;have r:=aE (fK (x.o.below a) (l.o.trans (Kd.of a)) (aD _) (anC (noA er) (af) (af)));have S:=aE (aL _ _ _ (anC (noA er) (af) (af)) _ _ H);clear cR a O;go_wp2_with(refine az rfl 43 _ _ rfl _ _ rfl rfl _ _ H (by kernel_rfl) rfl (by simp[anC,noA,Value.oneCell']) ?_)
         refine aX (v:= .agg (anC (noA er) (af) (af))) ?_ rfl ?_
         ·exact bf rfl _ _ w.heap.size _ _ _ _ rfl S.o anT rfl (by kernel_rfl)
         ·rw[R.o];exact⟨t,_,_,rfl,r.o.1,r.o.2,fp _ _,eE _ _⟩
end
end
section
def doC (c:Cm)(a b:Value):Array Value:= #[ag c.kind,ag c.n,ag c.day,ag c.days,jU c.text,jU c.name,ag c.sv.len,ag c.sv.bef,ag c.sv.aft,a,ag c.sday,ag c.smin,b]
def doP (d:Dk)(c:Cm):An×Dk:=
 if c.kind=1 then oM d (fY c.text) else
 if c.kind=2 then sA d c.name else
 if c.kind=3 then sD d c.sv else
 if c.kind=4 then jI d c.n c.day c.days else
 if c.kind=5 then lV d c.n c.sday c.smin c.swho else
 if c.kind=6 then iL d c.n (fun a d=>((fy a 2,0),d)) else
 if c.kind=7 then iL d c.n (fun a d=>((fy a 3,0),d)) else
 if c.kind=8 then iL d c.n (fun a d=>fh d c.n a c.sday c.smin c.swho) else
 if c.kind=9 then rX d c.days else(noA 1,d)
theorem doT:prog.underlying 41=some (.struct (prog.fieldsOf 41)):=by kernel_rfl
section
variable {B gD:Nat} {d:Dk} {t:Tr} {w w3 w4:World}
theorem Tr.back {d:Tr}{q:Nat}(h:d.xs=(t.add q).xs):d=(Tr.mk d.ev d.sv d.av t.xs).add q:=by
 obtain⟨a,b,c,x⟩:=d;dsimp only at h;subst h;rfl
theorem JA {q:Nat}{p:An×Dk}{i lv:Value}{a:Tr}(l:aq w w3)(o:w.heap.size<=q)(m:dE B gD p.2 a w4)(f:Kd gD (t.add q) a w3 w4)(r:Rob (Fx gD a) (fun u=>rC B u i p.1.who) w4)(n:Rob (Fx gD a) (fun u=>dM u lv p.1.list) w4)(c:Array Value):
  ∃t0:Tr,dE B gD p.2 t0 (w4.setRow q c)/\Kd gD t t0 w (w4.setRow q c)/\Rob (Fx gD t0) (fun u=>rC B u i p.1.who) (w4.setRow q c)/\Rob (Fx gD t0) (fun u=>dM u lv p.1.list) (w4.setRow q c):=by
 have e:=Tr.back f.xs;obtain⟨t0,rfl⟩: ∃t0:Tr,a=t0.add q:=⟨_,e⟩
 have d:=Kd.opened l f;have g:=fK m d o c;have mv: ∀{Φ:World->Prop},Rob (Fx gD (t0.add q)) Φ w4->Rob (Fx gD t0) Φ (w4.setRow q c):=fun j=>j.move (by simp) (fun k b _=>aW _ _ _ _ fun e=>b.2 (by rw[e];exact bq)) fun k _ b=>⟨b.1,fun s=>b.2 (bL _ s)⟩
 exact⟨t0,g.1,g.2,mv r,mv n⟩
theorem Df {c:Cm}{a b:Value}{g:Nat}(m:w.heap[g]? =ah (doC c a b) 41):w.cell? (ae g 0)=some (ag c.kind)/\w.cell? (ae g 1)=some (ag c.n)/\w.cell? (ae g 2)=some (ag c.day)/\w.cell? (ae g 3)=some (ag c.days)/\w.cell? (ae g 4)=some (.string ⟨c.text.toArray⟩)/\w.cell? (ae g 5)=some (.string ⟨c.name.toArray⟩)/\w.cell? (ae g 6)=some (ag c.sv.len)/\w.cell? (ae g 7)=some (ag c.sv.bef)/\w.cell? (ae g 8)=some (ag c.sv.aft)/\w.cell? (ae g 9)=some a/\w.cell? (ae g 10)=some (ag c.sday)/\w.cell? (ae g 11)=some (ag c.smin)/\w.cell? (ae g 12)=some b:=
 ⟨cr 0 m rfl,cr 1 m rfl,cr 2 m rfl,cr 3 m rfl,cr 4 m rfl,cr 5 m rfl,cr 6 m rfl,cr 7 m rfl,cr 8 m rfl,cr 9 m rfl,cr 10 m rfl,cr 11 m rfl,cr 12 m rfl⟩
theorem NW (c:Cm)(F pw:Option Addr)(l M:Nat)(w:World)(h:dE B gD d t w)(hx:c.text.length<=9223372036854775807)(hT:Tbs B w)(z:B<=w.heap.size)(hg:d.given+1<=1000000)(J:GL w t.xs)(I:c.name.length<=9223372036854775807)(hr:fu w (.slice F c.sv.roles.length l) c.sv.roles)(aa: ¬(5<=c.kind/\c.kind<=8)):Calls prog 19 #[ab gD 0,.agg (doC c (.slice F c.sv.roles.length l) (.slice pw c.swho.length M))] w (rD B gD (doP d c) t w):=by
 obtain⟨w1,h1,b1,Q⟩:=nb w #[ab gD 0] 99;obtain⟨y,h2,b2,R⟩:=nb w1 (doC c (.slice F c.sv.roles.length l) (.slice pw c.swho.length M)) 41;obtain⟨w3,h3,b3,E⟩:=nb y #[ag 0,ag 0,ag 0,ag 0,af,af] 43;have j:=aw b1 b2;have b:=aw j b3;have a:=h.opened (q:=y.heap.size) j.size (by rw[<-h3];simp) b;have O:=bt b3 R;have N:=bt (aw b2 b3) Q;have z1:=cr 0 N rfl;obtain⟨y0,y1,y2,y3,y4,y5,y6,y7,y8,y9,ac,ad,ae⟩:=Df O;have HB:=aE b;have HQ:=aE j.size
 have G:Rb (Gx gD (t.add y.heap.size) y.heap.size):=by
  obtain⟨_,_,_,_,_,_,_,hm⟩:=a;exact(hm.nx _ bq).2.2
 have r:=hT.below (b.mono z);have m:=bg z b.size;rcases(show c.kind=1\/c.kind=2\/c.kind=3\/c.kind=4\/c.kind=9\/(c.kind<1\/9<c.kind) by omega) with i|i|i|i|i|i
 case' inl=>
  have C:GL w3 (t.add y.heap.size).xs:=fun k i=>by
   rcases bO.1 i with rfl|i
   ·exact⟨_,_,_,E,by decide⟩
   ·obtain⟨c,T,f,hc,I⟩:=J k i;exact⟨c,T,f,bt b hc,I⟩
  have g:=Jt c.text w3 a hx r m hg C;clear C;generalize p:oM d (fY c.text)=P at g
 case' inr.inl=>
  have g:=GB c.name w3 a I;generalize p:sA d c.name=P at g
 case' inr.inr.inl=>
  have g:=GM c.sv F l w3 a (hr.below b);generalize p:sD d c.sv=P at g
 case' inr.inr.inr.inl=>
  have g:=Jz c.n c.day c.days w3 a (fun W hW=>(r W hW).2.2) m;generalize p:jI d c.n c.day c.days=P at g
 case' inr.inr.inr.inr.inl=>
  have g:=Lt c.days w3 a;generalize p:rX d c.days=P at g
 case' inr.inr.inr.inr.inr=>
  have g:=(show Calls prog 41 #[ag 1] w3 (rD B gD (noA 1,d) (t.add y.heap.size) w3) from(fj 1 w3).mono fun e w H=>⟨_,_,_,H.1,a.below H.2,Kd.of H.2,fp _ _,eE _ _⟩)
  generalize p:((noA 1,d):An×Dk)=P at g
 all_goals
  have HP:Rb (doP d c=P):=by
   show _=_;rw[<-p];unfold doP;repeat (first|rw[aB i]|rw[ax (by omega)])
  clear b1 b2 b3 j b a Q R p N O r m
  try rw[i]at y0
  try (have e1:(c.kind==1)=false:=by simp;omega
       have e2:(c.kind==2)=false:=by simp;omega
       have e3:(c.kind==3)=false:=by simp;omega
       have e4:(c.kind==4)=false:=by simp;omega
       have e5:(c.kind==5)=false:=by simp;omega
       have e6:(c.kind==6)=false:=by simp;omega
       have e7:(c.kind==7)=false:=by simp;omega
       have e8:(c.kind==8)=false:=by simp;omega
       have e9:(c.kind==9)=false:=by simp;omega)
  clear i
  go_enter func19,ntmps19
  go_wp2_with fail
  refine g.mono ?_
  rintro e w4 ⟨t',wv,lv,rfl,A,s,x,u⟩
  obtain⟨t0,U,V,X,Y⟩:=JA HB.o HQ.o A s x u (anC P.1 wv lv)
  obtain⟨Z,K,rfl,_,_⟩:=x.here.1
  obtain⟨p6,L,rfl,_,_⟩:=u.here
  have S:=(s.blk _ G.o (aI E)).trans E
  have D:=aE (fV U (fV V (fV X Y)))
  have HR:=aE (aL _ _ _ (anC P.1 (.slice Z P.1.who.length K) (.slice p6 P.1.list.length L)) _ _ S)
  clear g A s x u U V X Y E
  go_wp2_with(refine az rfl 43 _ _ rfl _ _ rfl rfl _ _ S (by kernel_rfl) rfl (by simp[anC,Value.oneCell']) ?_)
  refine aX (v:= .agg (anC P.1 (.slice Z P.1.who.length K) (.slice p6 P.1.list.length L))) ?_ rfl ?_
  ·exact bf rfl _ _ y.heap.size _ _ _ _ rfl HR.o anT rfl (by kernel_rfl)
  ·rw[HP.o]
   exact⟨t0,_,_,rfl,D.o.1,D.o.2.1,D.o.2.2.1,D.o.2.2.2⟩
end
end
def dk0:Dk:=⟨[],[],[],[],[],0,[],0⟩
def playP:Dk->List Cm->List An×Dk
 |d,[]=>([],d)
 |d,c::l=>((doP d c).1::(playP (doP d c).2 l).1,(playP (doP d c).2 l).2)
theorem GO {l:List Cm}{j:Nat}{c:Cm}(d:Dk)(h:l[j]? =some c):playP d (l.drop j)=((doP d c).1::(playP (doP d c).2 (l.drop (j+1))).1,(playP (doP d c).2 (l.drop (j+1))).2):=by
 obtain⟨a,b⟩:=aF.1 h;rw[bJ a,b];rfl
theorem qC: ∀(l:List Ap) (i:Nat) (d:Dk),Cor d (fi l i d).2
 |[],_,d=>Cor.refl d
 |a::l,i,d=>by
  unfold fi;split
  ·exact qC l (i+1) d
  ·exact(xD (fun x d=>tI d x a.day) a.who d).trans (qC l (i+1) _)
theorem xF (s:Sv)(day:Int): ∀(m i:Nat) (d:Dk),Cor d (iW s day m i d).2
 |0,_,d=>Cor.refl d
 |m+1,i,d=>by
  unfold iW;exact(pC s _ _ 0 d).1.trans (xF s day m (i+1) _)
theorem Cor.given {d a:Dk}(h:Cor d a):a.given=d.given:=by
 obtain⟨_,_,rfl⟩:=h;rfl
theorem ql (d:Dk)(n:Int)(f:Ap->Dk->(Ap×Int)×Dk)(b: ∀a d,Cor d (f a d).2):(iL d n f).2.given=d.given:=by
 unfold iL;dsimp only;repeat' split
 ·rfl
 ·exact(b _ d).given
 ·exact(b _ d).given
theorem JB (d:Dk)(c:Cm):(doP d c).2.given<=d.given+1:=by
 have le: ∀{x:Int},x=d.given->x<=d.given+1:=fun h=>by omega
 unfold doP;split
 ·unfold oM;split
  ·exact le rfl
  ·exact Int.le_of_eq (qC _ 0 _).given
 ·split
  ·unfold sA;repeat' split
   all_goals exact le rfl
  ·split
   ·unfold sD;repeat' split
    all_goals exact le rfl
   ·split
    ·unfold jI;dsimp only;repeat' split
     all_goals first|exact le rfl|exact le (xF _ _ _ 0 d).given
    ·split
     ·unfold lV;dsimp only;repeat' split
      all_goals first|exact le rfl|exact le (mD d _ _ _ _ _).given
     ·split
      ·exact le (ql d _ _ fun a d=>Cor.refl d)
      ·split
       ·exact le (ql d _ _ fun a d=>Cor.refl d)
       ·split
        ·exact le (ql d _ _ fun a d=>mD d _ a _ _ _)
        ·split
         ·unfold rX;split;all_goals exact le rfl
         ·exact le rfl
structure lQ (w:World)(c:Cm)(rv wv:Value):Prop where
 roles:fu w rv c.sv.roles
 who:dM w wv c.swho
 text:c.text.length<=9223372036854775807
 name:c.name.length<=9223372036854775807
 cap: ∀p n k,wv= .slice p n k->n<=k
theorem lQ.below {w w':World}{c:Cm}{b d:Value}(h:lQ w c b d)(a:aq w w'):lQ w' c b d:=⟨h.roles.below a,h.who.below a,h.text,h.name,h.cap⟩
def lI (w:World)(v:Value)(a:List (Cm×Value×Value)):Prop:= ∃p k,v= .slice p a.length k/\a.length<9223372036854775808/\ ∀(j:Nat) (q:Cm×Value×Value),a[j]? =some q->lQ w q.1 q.2.1 q.2.2/\ ∃g o:Nat,p=some ⟨g,o,none⟩/\w.rangeAt g (o+j*13) (doC q.1 q.2.1 q.2.2).toList
theorem lI.below {w w':World}{v:Value}{d:List (Cm×Value×Value)}(h:lI w v d)(e:aq w w'):lI w' v d:=by
 obtain⟨p,k,f,i,l⟩:=h;refine⟨p,k,f,i,fun j q m=> ?_⟩;obtain⟨a,g,o,b,c⟩:=l j q m;exact⟨a.below e,g,o,b,eB c e⟩
theorem sF {w u:World}{v:Value}{b:List Int}(h:dM w v b)(l: ∀q,q<w.heap.size->u.heap[q]? =w.heap[q]?):dM u v b:=by
 obtain⟨p,c,d,f,i⟩:=h;refine⟨p,c,d,f,fun j x k=> ?_⟩;obtain⟨g,o,e,a⟩:=i j x k;exact⟨g,o,e,(et (l g (cZ a))).trans a⟩
def GP (c:Cm):Prop:= ∀(B a:Nat) (d:Dk) (t:Tr) (w:World) (g e:Option Addr) (f b:Nat),dE B a d t w->Tbs B w->B<=w.heap.size->d.given+1<=1000000->GL w t.xs->lQ w c (.slice g c.sv.roles.length f) (.slice e c.swho.length b)->Rob (fun q=>q<B) (fun u=>dM u (.slice e c.swho.length b) c.swho) w->Calls prog 19 #[ab a 0,.agg (doC c (.slice g c.sv.roles.length f) (.slice e c.swho.length b))] w (rD B a (doP d c) t w)
theorem JC (c:Cm)(f: ¬(5<=c.kind/\c.kind<=8)):GP c:=fun _ _ _ _ w k l i j h d b e g a _=>NW c k l i j w h a.text d b e g a.name a.roles f
theorem zo:uK dk0:=⟨by decide,rfl,by decide,by decide,by decide,by decide,by decide,(fun x a=>by cases a),(fun x a=>by cases a),(fun x a=>by cases a)⟩
theorem Pq {B b:Nat}{xs:List Nat}{w:World}(e:B<=b)(d: ∀q∈xs,q<w.heap.size/\B<=q/\q≠b)(h:w.heap[b]? =ah #[af,af,af,af,af,af,ag 0,af,ag 0] 73):dE B b dk0 ⟨af,af,af,xs⟩ w:=
 ⟨zo,af,af,af,af,[],[],h,e,fun u _ _=>⟨[],⟨.inl ⟨rfl,none,0,rfl⟩,by simp,fun p a=>by cases a⟩,rfl⟩,fun u _ _=>⟨[],⟨none,0,rfl,by simp,fun j u f=>by simp at f⟩,rfl⟩,eE _ _,fun u _ _=>⟨none,0,rfl,aD _,by unfold maxLen;omega,fun h=>absurd rfl h⟩,dp _ _ _ _,dp _ _ _ _,rfl,(fun p a=>by cases a),dp _ _ _ _,rfl,(fun p a=>by cases a),fun q c=>⟨(d q c).1,(d q c).2.1,(d q c).2.2,nofun,nofun,nofun⟩⟩
theorem sG {E:Nat->Int}: ∀(m i:Nat),(∀j,i<=j->j<i+m->E j=0)->gW E m i=(0,0)
 |0,_,_=>rfl
 |m+1,i,h=>by
  simp only[gW];rw[ax (by simpa using h i (aD _) (by omega)),sG m (i+1) fun j a b=>h j (by omega) (by omega)]
theorem Ee {a:List Cd}(h:mM a):jT a=(0,0):=by
 have c:gW (fun i=>aloneE (a.getD i cd0) a.length) a.length 0=(0,0):=sG _ _ fun j _ e=>by
  have b:a[j]? =some (a[j]'(by omega)):=ay (by omega);rw[jl b];exact h.alone j _ b
 have d:gW (qu a) a.length 0=(0,0):=sG _ _ fun j _ e=>by
  have b:a[j]? =some (a[j]'(by omega)):=ay (by omega);unfold qu;rw[ax (by rw[h.cyc j (by omega)];simp),jl b,aB (mU.2 (h.fit j _ b))]
 have f:=h.len;unfold jT;rw[ax (by omega),c,ax (by simp),d]
theorem Bn {n r:Nat}: ∀(l:List In) (k:Nat),(∀j x,l[j]? =some x->gg x (k+j) n r=0)->qe l k n r=0
 |[],_,_=>rfl
 |x::l,k,h=>by
  have a:=h 0 x rfl;rw[Nat.add_zero]at a;simp only[qe];rw[ax (by simpa using a)]
  exact Bn l (k+1) fun j y b=>by
   have:=h (j+1) y (by simpa using b);rw[show k+(j+1)=k+1+j by omega]at this;exact this
theorem rZ {E:Nat->Nat->Bool}{ρ:Nat->Nat}(h: ∀i k,E i k=true->ρ k<ρ i): ∀(m i k:Nat),Vx.wars E m i k=true->ρ k<ρ i
 |0,i,k,c=>h i k c
 |m+1,i,k,c=>by
  simp only[Vx.wars,iC,bz]at c;rcases c with c|⟨d,e⟩
  ·exact rZ h m i k c
  ·have a:=rZ h m i m d;have b:=rZ h m m k e;omega
theorem Dg {m:Nat->Int×Int}: ∀(k j:Nat),¬0<=ko m k j-> ∀i,j<=i->i<j+k->oI (m i)=false
 |0,_,_,i,b,c=>by omega
 |k+1,j,h,i,b,c=>by
  simp only[ko]at h;by_cases a:oI (m j)=true
  ·rw[aB a]at h;omega
  ·rw[ax a]at h;by_cases e:i=j
   ·subst e;simpa using a
   ·exact Dg k (j+1) h i (by omega) (by omega)
theorem sZ {l:List Ru}(h:(iB l).1=0):(dC l).1=0/\ ∀i,i<l.length->oI (gM l i)=false:=by
 unfold iB at h;by_cases a:(dC l).1≠0
 ·rw[aB a]at h;exact absurd h a
 ·rw[ax a]at h;refine⟨by simpa using a,?_⟩;by_cases b:0<=ko (gM l) l.length 0
  ·rw[aB b]at h;exact absurd h (by show¬(4:Int)=0;omega)
  ·intro i hi;exact Dg _ _ b i (dF _) (by omega)
theorem xG (l:List Ru):(fd l).length=l.length:=by unfold fd;rw[uF,nH]
theorem Ai {l:List Ru}{i:Nat}(hi:i<l.length):(fd l)[i]? =some ⟨(fX l).getD i [],(gM l i).1,(gM l i).2⟩:=by
 unfold fd fc;rw[a8,List.getElem?_range (by rw[nH];exact hi)];rfl
theorem tJ {l:List Ru}(h:(dC l).1=0){i:Nat}(hi:i<l.length):mw ((fX l).getD i [])/\ ∀j x,((fX l).getD i [])[j]? =some x->gg x j ((fX l).getD i []).length l.length=0:=by
 have b:l[i]? =some l[i]:=ay hi;have a:=aM b;rw[ng b];exact Ja ((rA h).2 _ a).ok fun x c=>⟨(sY h a c).1,(sY h a c).2.1⟩
theorem JD {l:List Ru}(h:(iB l).1=0):mM (fd l):=by
 obtain⟨d,v⟩:=sZ h;have a:=xG l
 have at_: ∀{i:Nat} {c:Cd},(fd l)[i]? =some c->i<l.length/\c=⟨(fX l).getD i [],(gM l i).1,(gM l i).2⟩:=fun {i c} b=>by
  have hi:i<l.length:=(by rw[<-a];exact(aF.1 b).1);rw[Ai hi]at b;exact⟨hi,(aN b).symm⟩
 have p: ∀i,i<l.length->mxH (fd l) ((fX l).getD i []) ((fX l).getD i []).length=(gM l i).1/\stS (fd l) ((fX l).getD i []) ((fX l).getD i []).length=(gM l i).2/\1<=(gM l i).1/\(gM l i).1<=100/\1<=(gM l i).2/\(gM l i).2<=20000:=fun i hi=>by
  have e:=vL d hi;have o:=v i hi;unfold oI at o;rw[Bool.or_eq_false_iff,decide_eq_false_iff_not,decide_eq_false_iff_not]at o;have w:(gM l i).1=min (mxH (fd l) ((fX l).getD i []) ((fX l).getD i []).length) 101:=congrArg Prod.fst e;have y:(gM l i).2=min (stS (fd l) ((fX l).getD i []) ((fX l).getD i []).length) 20001:=congrArg Prod.snd e;have A:=C1 d hi;have z:=(tJ d hi).1.fin;have B:=IA (fd l) ((fX l).getD i []) ((fX l).getD i []).length;omega
 refine⟨by rw[a];exact(rA d).1,fun i c b=> ?_,fun i hi=> ?_,fun i c b=> ?_⟩
 ·obtain⟨hi,rfl⟩:=at_ b;have t:=xw d hi;have m:=p i hi;unfold aloneE;rw[ax (by intro q;exact q ⟨t.1,bg t.2 (by omega)⟩),ax (by intro q;exact q ⟨⟨m.2.2.1,m.2.2.2.1⟩,m.2.2.2.2⟩)];refine Bn _ _ fun j x f=> ?_;rw[cY,a];exact(tJ d hi).2 j x f
 ·cases hw:Vx.wars (gL (fd l)) (fd l).length i i with
  |false=>rfl
  |true=>
   have:=rZ (ρ:=muR l) (E:=gL (fd l)) (fun i k r=>by
    unfold gL at r;rw[List.any_eq_true]at r;obtain⟨x,b,g⟩:=r;rw[bz,bT,bT]at g;by_cases hi:i<l.length
    ·have s:(fd l).getD i cd0=⟨(fX l).getD i [],(gM l i).1,(gM l i).2⟩:=jl (Ai hi);rw[s]at b;obtain⟨j,u,f⟩:=List.mem_iff_getElem.1 b;have n:((fX l).getD i [])[j]? =some x:=(by rw[ay u];exact congrArg some f);have:=((sy d).lt i j x (by rw[nH];exact hi) n g.1).2.2;rw[g.2,dj]at this;exact this
    ·have:(fd l).getD i cd0=cd0:=by
      have:(fd l)[i]? =none:=eO (by rw[a];omega);simp[List.getD,this]
     rw[this]at b;cases b) _ i i hw
   omega
 ·obtain⟨hi,rfl⟩:=at_ b;have m:=p i hi;exact⟨(tJ d hi).1,m.1,m.2.1⟩
section
theorem E4 {wk:Int->Bool}{day:Int}{env:List UInt8->Nat->Bool}(c: ∀x (i:Nat),1440<=i->env x i=false): ∀(N:Nat) (e:Ex),SizeOf.sizeOf e<=N-> ∀(i:Nat),1440<=i->fE wk day env e i=false
 |0,e,b,_,_=>by cases e;simp at b
 |N+1,e,b,i,hi=>by
  have d: ∀j,(e.kids.map (fE wk day env)).getD j nev i=false:=fun j=>by
   cases hj:e.kids[j]? with
   |none=>simp[List.getD,hj,nev]
   |some k=>
    have f:=aM hj;have:=E4 (wk:=wk) (day:=day) c N k (by have:=iZ f;omega) i hi;simpa[List.getD,a8,hj] using this
  have a:decide (i<1440)=false:=(by simp;omega);rw[jG];unfold mY;split
  ·exact a
  split
  ·simp[a]
  split
  ·split
   ·exact d 0
   ·rfl
  split
  ·split
   ·exact d 0
   ·rfl
  split
  ·simp[a]
  split
  ·simp[a]
  split
  ·simp[a]
  split
  ·unfold shf;simp[a]
  split
  ·exact c _ i hi
  ·rfl
theorem Ps (e:Ex){i:Nat}(hi:1440<=i):mnE e i=false:=E4 (fun _ _ _=>rfl) _ e (aD _) i hi
theorem Pu {f:Nat->Bool}(h: ∀i:Nat,1440<=i->f i=false):spM (rs f 1440)=f:=by
 funext i;unfold spM;by_cases hi:i<1440
 ·have:=(EQ f 1440).has i hi;simpa[hi] using this
 ·rw[h i (by omega)];have a:decide (i<1440)=false:=(by simp;omega);simp[a]
section
variable {wk:Int->Bool} {day:Int} {ev:Nat->M×Nat} {l:List In} {num:List UInt8->Int} {env:List UInt8->Nat->Bool} {x:In} {s:Vx.St}
theorem QV (a:x.op=1):dN wk day ev x s=⟨s.k+1,s.S++[spM x.sp],s.n+1⟩:=by simp[dN,a]
theorem QW (a:x.op=2):dN wk day ev x s=⟨s.k+1,og unM s.S,s.n+1⟩:=by simp[dN,a]
theorem QX (a:x.op=3):dN wk day ev x s=⟨s.k+1,og dfM s.S,s.n+1⟩:=by simp[dN,a]
theorem QY (a:x.op=4):dN wk day ev x s=⟨s.k+1,og boM s.S,s.n+1⟩:=by simp[dN,a]
theorem QZ (b:x.op=5):dN wk day ev x s=⟨s.k+1,zV (fun f=>shM f x.a) s.S,s.n+1⟩:=by simp[dN,b]
theorem Q0 (b:x.op=8):dN wk day ev x s=⟨s.k+1,s.S++[(ev x.a.toNat).1],s.n+1+(ev x.a.toNat).2⟩:=by simp[dN,b]
theorem Qr (b:x.op=6\/x.op=7)(a:onD wk day x=true):dN wk day ev x s=⟨s.k+1,s.S,s.n+1⟩:=by
 unfold dN;rw[ax (by omega),ax (by omega),ax (by omega),ax (by omega),ax (by omega),ax (by omega),aB a]
theorem Pv (b:x.op=6\/x.op=7)(a: ¬onD wk day x=true):dN wk day ev x s=⟨x.to.toNat,s.S++[noM],s.n+1⟩:=by
 unfold dN;rw[ax (by omega),ax (by omega),ax (by omega),ax (by omega),ax (by omega),ax (by omega),ax a]
theorem Bo (i:Up wk day ev l){b a:Nat}{S:List M}{n:Nat}{v:M}(j:l[b]? =some x)(f:x.op=6\/x.op=7)(d:x.to=((b+1+a:Nat):Int))(g: ∃e,runV wk day ev l ⟨b+1,S,n+1⟩=runV wk day ev l ⟨b+1+a,S++[v],e⟩):
  ∃e,runV wk day ev l ⟨b,S,n⟩=runV wk day ev l ⟨b+(a+1),S++[if onD wk day x=true then v else nev],e⟩:=by
 rw[mf i (s:=⟨b,S,n⟩) j,show b+(a+1)=b+1+a by omega];by_cases c:onD wk day x=true
 ·rw[aB c,Qr f c];exact g
 ·rw[ax c,Pv f c,d,dj];exact⟨n+1,rfl⟩
theorem E5 (j:Up wk day ev l): ∀(N:Nat) (e:Ex),SizeOf.sizeOf e<=N->OKE e->(∀x∈nms e,(ev (num x).toNat).1=env x)-> ∀(b:Nat) (S:List M) (n:Nat),kB l b (dc num e b)-> ∃o,runV wk day ev l ⟨b,S,n⟩=runV wk day ev l ⟨b+(dc num e b).length,S++[fE wk day env e],o⟩
 |0,e,v,_,_,_,_,_,_=>by cases e;simp at v
 |N+1,e,v,h,w,b,S,n,d=>by
  have p: ∀k∈e.kids,∀(b:Nat) (S:List M) (n:Nat),kB l b (dc num k b)-> ∃o,runV wk day ev l ⟨b,S,n⟩=runV wk day ev l ⟨b+(dc num k b).length,S++[fE wk day env k],o⟩:=fun k c=>E5 j N k (by have:=iZ c;omega) (h.kid c) (fun x t=>w x (vH c t));cases hstd:stdE e with
  |true=>
   rw[pj hstd]at d⊢;rw[mf j (s:=⟨b,S,n⟩) d.one,CY hstd,QV rfl];refine⟨n+1,?_⟩;rw[Pu (fun i hi=>Ps e hi)];rfl
  |false=>
   rcases oF h hstd with⟨q,k,c⟩|⟨q,k,c⟩|⟨q,k,c⟩|q|⟨q,k,m,c⟩
   ·have g:k∈e.kids:=(by rw[c];simp)
    have f:fE wk day env e=if wk e.a=true then fE wk day env k else nev:=by
     rw[jG,q,I0,c];rfl
    rw[pU q (by rw[c];rfl)]at d⊢;have:=Bo j (n:=n) d.one (.inl rfl) rfl (p k g (b+1) S (n+1) d.tail);rw[show onD wk day (⟨6,e.a,0,((b+1+(dc num k (b+1)).length:Nat):Int),[]⟩:In)=wk e.a from by unfold onD;rw[aB rfl]]at this;rw[f,bV];exact this
   ·have g:k∈e.kids:=(by rw[c];simp)
    have f:fE wk day env e=if(decide (e.a<=day)&&decide (day<=e.b))=true then fE wk day env k else nev:=by
     rw[jG,q,I1,c];by_cases r:e.a<=day/\day<=e.b
     ·rw[aB r,aB (by simp[r])];rfl
     ·rw[ax r,ax (by rw[bz,bT,bT];exact r)];rfl
    rw[oD q (by rw[c];rfl)]at d⊢;have:=Bo j (n:=n) d.one (.inr rfl) rfl (p k g (b+1) S (n+1) d.tail);rw[show onD wk day (⟨7,e.a,e.b,((b+1+(dc num k (b+1)).length:Nat):Int),[]⟩:In)=(decide (e.a<=day)&&decide (day<=e.b)) from by unfold onD;rw[ax (by show¬(7:Int)=6;omega)]]at this;rw[f,bV];exact this
   ·have g:k∈e.kids:=(by rw[c];simp)
    have f:fE wk day env e=shM (fE wk day env k) e.a:=by
     rw[jG,q,I5,c];rfl
    rw[qy hstd q c]at d⊢;obtain⟨o,z⟩:=p k g b S n d.left;rw[z,f,mf j (s:=⟨b+(dc num k b).length,S++[fE wk day env k],o⟩) d.right.one,QZ rfl];refine⟨o+1,?_⟩;rw[aP,d9,<-Nat.add_assoc,zW]
   ·have f:fE wk day env e=env e.name:=(by rw[jG,q,ET]);rw[pT q]at d⊢;rw[mf j (s:=⟨b,S,n⟩) d.one,f,Q0 rfl];refine⟨n+1+(ev (num e.name).toNat).2,?_⟩;dsimp only;rw[w _ (vI q)];rfl
   ·have g:k∈e.kids:=(by rw[c];simp);have u:m∈e.kids:=(by rw[c];simp);rw[rU hstd q c]at d⊢;obtain⟨D,A⟩:=p k g b S n d.left.left;obtain⟨y,B⟩:=p m u (b+(dc num k b).length) (S++[fE wk day env k]) D d.left.right;have t:=d.right.one;rw[aP,<-Nat.add_assoc]at t
    have C:b+(dc num k b++dc num m (b+(dc num k b).length)++[(⟨opK e.kind,0,0,0,[]⟩:In)]).length=b+(dc num k b).length+(dc num m (b+(dc num k b).length)).length+1:=by
     rw[aP,aP,d9];omega
    rw[A,B,mf j (s:=⟨b+(dc num k b).length+(dc num m (b+(dc num k b).length)).length,S++[fE wk day env k]++[fE wk day env m],y⟩) t,C];refine⟨y+1,?_⟩;rw[ef,List.singleton_append];rcases q with q|q|q
    ·have f:fE wk day env e=unM (fE wk day env k) (fE wk day env m):=by
      rw[jG,q,I2,c];rfl
     rw[f,QW (by show opK e.kind=2;rw[q];decide)];dsimp only;rw[mx]
    ·have f:fE wk day env e=dfM (fE wk day env k) (fE wk day env m):=by
      rw[jG,q,I3,c];rfl
     rw[f,QX (by show opK e.kind=3;rw[q];decide)];dsimp only;rw[mx]
    ·have f:fE wk day env e=boM (fE wk day env k) (fE wk day env m):=by
      rw[jG,q,I4,c];rfl
     rw[f,QY (by show opK e.kind=4;rw[q];decide)];dsimp only;rw[mx]
end
theorem E6 {l:List Ru}(h:(dC l).1=0)(wk:Int->Bool)(day:Int): ∀(d i:Nat),i<l.length->muR l i<d->(evV wk day (fd l) d i).1=gX l wk day i
 |0,_,_,p=>by omega
 |d+1,i,hi,p=>by
  have a:l[i]? =some l[i]:=ay hi;have m:=aM a;have c:(fd l).getD i cd0=⟨(fX l).getD i [],(gM l i).1,(gM l i).2⟩:=jl (Ai hi);have k:Up wk day (evV wk day (fd l) d) ((fX l).getD i []):=FX (tJ h hi).2;have g:=((rA h).2 _ m).ok;have b:kB ((fX l).getD i []) 0 (dc (atP5 l) (l[i]).2 0):=fun j _=>(by rw[ng a,cY])
  have f: ∀x∈nms (l[i]).2,(evV wk day (fd l) d (atP5 l x).toNat).1=gX l wk day (atP5 l x).toNat:=fun x q=>by
   obtain⟨r,s,o⟩:=sY h m q;have e:(atP5 l x).toNat<l.length:=(by omega);have t:muR l (atP5 l x).toNat<muR l i:=sU h hi (by rw[re a];exact dR.2 ⟨_,o,rfl⟩);exact E6 h wk day d _ e (by omega)
  obtain⟨u,n⟩:=E5 (env:=fun x=>gX l wk day (atP5 l x).toNat) k _ _ (aD _) g f 0 [] 0 b;rw[evV,c];dsimp only;rw[n,xg (by dsimp only;rw[cY,ng a])];show fE wk day _ _=_;rw[ph h a]
theorem NY (day:Int):eU day=wkB day:=rfl
end
end Go.Proofs.YtlkehieagdkgiaaGreatDoor
