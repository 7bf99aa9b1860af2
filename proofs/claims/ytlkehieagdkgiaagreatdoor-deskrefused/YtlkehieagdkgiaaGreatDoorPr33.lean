/- Texts of the proof. -/
import Derived.Test.YtlkehieagdkgiaaGreatDoorPr32
set_option maxRecDepth 100000
set_option maxHeartbeats 8000000
namespace Go.Proofs.YtlkehieagdkgiaaGreatDoor
open Go.Proofs.Tryz Go.RowKit Lx Vx Mx Msk
section
section
variable {B gD:Nat} {d:Dk} {t:Tr}
theorem JC (n day days:Int)(w:World)(h:dy B gD d t w)(hT: ∀W,Below B w W->Tab W)(bD:B<=w.heap.size):Calls prog 32 #[ab gD 0,ag n,ag day,ag days] w (ry B gD (jG d n day days) t w):=by
 obtain⟨wA,hA,bA,nA⟩:=nb w #[ag 0,ag 0,ag 0,ag 0,af,af] 43;have cb:wA.heap.size=w.heap.size+1:=by rw[<-hA];simp
 have bQ:=h.opened (aE _) cb bA;have x:=aD bQ;have l:QR (Kd gD t t w wA):=Kd.of bA;have H0:=aD h;obtain⟨bY,rv,cv,vv,kv,ss,aa,hm⟩:=bQ;have cd:ss.length=d.svs.length:=by rw[<-hm.sve,ba]
 obtain⟨ps,cs,a5⟩:=bK hm.svs;obtain⟨ns,a0⟩:=au ss.length;rw[a0]at a5;have z2:wA.cell? (ae gD 2)=some (.slice ps ns cs):=(cr (v:=t.sv) 2 hm.blk rfl).trans (congrArg some a5);have J:QR (d.svs.length=ns):=by show _=_;rw[<-cd,a0]
 have aK:=aD a0;have b8:QR (t.sv= .slice ps ns cs):=a5;have HM:=aD hm;have bz:=aD bY;have HT:=aD hT;have O:=nA;have aO:=qB n (ns:Int) wA;have an:=qB day 146097 wA;obtain⟨b1,aS⟩:=au (isN n (ns:Int));obtain⟨b2,aT⟩:=au (isN day 146097);rw[aS]at aO;rw[aT]at an;have C:=aD aS;have al:=aD aT;have bm:=aD bD;clear h hm bY cd a5 a0 hT aS aT nA cb bD;go_enter func32,ntmps32;go_wp2_with fail;refine aO.mono ?_;rintro e w1 ⟨rfl,c6⟩;subst c6;clear aO;cases b1 with
 |false=>
  have R:QR (jG d n day days=(noA 6,d)):=(by show _=_;unfold jG;rw[J.o,aB C.o]);clear an hA z2 bA;have cR:=ff 6 w1;go_wp2_with fail;refine cR.mono ?_;rintro e w9 ⟨rfl,a⟩;have H:=bt a O;have r:=aD (fG (x.o.below a) (l.o.trans (Kd.of a)) (aE _) (anC (noA 6) (af) (af)));have S:=aD (aL _ _ _ (anC (noA 6) (af) (af)) _ _ H);clear cR a O;go_wp2_with(refine az rfl 43 _ _ rfl _ _ rfl rfl _ _ H (by kernel_rfl) rfl (by simp[anC,noA,Value.oneCell']) ?_)
  refine aX (v:= .agg (anC (noA 6) (af) (af))) ?_ rfl ?_
  ·exact bf rfl _ _ w.heap.size _ _ _ _ rfl S.o anT rfl (by kernel_rfl)
  ·rw[R.o];exact⟨t,_,_,rfl,r.o.1,r.o.2,fi _ _,eB _ _⟩
 |true=>
  go_wp2_with fail;refine an.mono ?_;rintro e w2 ⟨rfl,c7⟩;subst c7;clear an;cases b2 with
  |false=>
   have R:QR (jG d n day days=(noA 3,d)):=(by show _=_;unfold jG;rw[J.o,ax (by rw[C.o];simp),aB (.inl al.o)]);clear hA z2 bA;have cR:=ff 3 w2;go_wp2_with fail;refine cR.mono ?_;rintro e w9 ⟨rfl,a⟩;have H:=bt a O;have r:=aD (fG (x.o.below a) (l.o.trans (Kd.of a)) (aE _) (anC (noA 3) (af) (af)));have S:=aD (aL _ _ _ (anC (noA 3) (af) (af)) _ _ H);clear cR a O;go_wp2_with(refine az rfl 43 _ _ rfl _ _ rfl rfl _ _ H (by kernel_rfl) rfl (by simp[anC,noA,Value.oneCell']) ?_)
   refine aX (v:= .agg (anC (noA 3) (af) (af))) ?_ rfl ?_
   ·exact bf rfl _ _ w.heap.size _ _ _ _ rfl S.o anT rfl (by kernel_rfl)
   ·rw[R.o];exact⟨t,_,_,rfl,r.o.1,r.o.2,fi _ _,eB _ _⟩
  |true=>
   have c9:0<=day/\day<146097:=(by have:=al.o;simpa[isN] using this);by_cases M:days<1
   ·have R:QR (jG d n day days=(noA 3,d)):=(by show _=_;unfold jG;rw[J.o,ax (by rw[C.o];simp),aB (.inr (.inl M))]);clear hA z2 bA;have cR:=ff 3 w2;go_wp2_with fail;refine cR.mono ?_;rintro e w9 ⟨rfl,a⟩;have H:=bt a O;have r:=aD (fG (x.o.below a) (l.o.trans (Kd.of a)) (aE _) (anC (noA 3) (af) (af)));have S:=aD (aL _ _ _ (anC (noA 3) (af) (af)) _ _ H);clear cR a O;go_wp2_with(refine az rfl 43 _ _ rfl _ _ rfl rfl _ _ H (by kernel_rfl) rfl (by simp[anC,noA,Value.oneCell']) ?_)
    refine aX (v:= .agg (anC (noA 3) (af) (af))) ?_ rfl ?_
    ·exact bf rfl _ _ w.heap.size _ _ _ _ rfl S.o anT rfl (by kernel_rfl)
    ·rw[R.o];exact⟨t,_,_,rfl,r.o.1,r.o.2,fi _ _,eB _ _⟩
   ·by_cases Z:30<days
    ·have R:QR (jG d n day days=(noA 3,d)):=(by show _=_;unfold jG;rw[J.o,ax (by rw[C.o];simp),aB (.inr (.inr (.inl Z)))]);clear hA z2 bA;have cR:=ff 3 w2;go_wp2_with fail;refine cR.mono ?_;rintro e w9 ⟨rfl,a⟩;have H:=bt a O;have r:=aD (fG (x.o.below a) (l.o.trans (Kd.of a)) (aE _) (anC (noA 3) (af) (af)));have S:=aD (aL _ _ _ (anC (noA 3) (af) (af)) _ _ H);clear cR a O;go_wp2_with(refine az rfl 43 _ _ rfl _ _ rfl rfl _ _ H (by kernel_rfl) rfl (by simp[anC,noA,Value.oneCell']) ?_)
     refine aX (v:= .agg (anC (noA 3) (af) (af))) ?_ rfl ?_
     ·exact bf rfl _ _ w.heap.size _ _ _ _ rfl S.o anT rfl (by kernel_rfl)
     ·rw[R.o];exact⟨t,_,_,rfl,r.o.1,r.o.2,fi _ _,eB _ _⟩
    ·have bl:IntKind.i64.wrap (day+days)=day+days:=(by rw[bO];omega);by_cases h3:146097<day+days
     ·have R:QR (jG d n day days=(noA 3,d)):=(by show _=_;unfold jG;rw[J.o,ax (by rw[C.o];simp),aB (.inr (.inr (.inr h3)))]);clear hA z2 bA;have cR:=ff 3 w2;go_wp2_with fail;refine cR.mono ?_;rintro e w9 ⟨rfl,a⟩;have H:=bt a O;have r:=aD (fG (x.o.below a) (l.o.trans (Kd.of a)) (aE _) (anC (noA 3) (af) (af)));have S:=aD (aL _ _ _ (anC (noA 3) (af) (af)) _ _ H);clear cR a O;go_wp2_with(refine az rfl 43 _ _ rfl _ _ rfl rfl _ _ H (by kernel_rfl) rfl (by simp[anC,noA,Value.oneCell']) ?_)
      refine aX (v:= .agg (anC (noA 3) (af) (af))) ?_ rfl ?_
      ·exact bf rfl _ _ w.heap.size _ _ _ _ rfl S.o anT rfl (by kernel_rfl)
      ·rw[R.o];exact⟨t,_,_,rfl,r.o.1,r.o.2,fi _ _,eB _ _⟩
     ·have hn:0<=n/\n<(ns:Int):=(by have:=C.o;simpa[isN] using this);obtain⟨k,rfl⟩: ∃k:Nat,n=(k:Int):=⟨n.toNat,by omega⟩
      have bX:k<ss.length:=(by rw[aK.o];omega);have cH:(0:Int)<=(k:Int):=(by omega);have cI:(k:Int)<(ns:Int):=hn.2;obtain⟨⟨s,sv⟩,a4⟩: ∃q,ss[k]? =some q:=⟨ss[k],ay bX⟩
      have bk:d.svs[k]? =some s:=(by rw[<-HM.o.sve,aZ,a4];rfl);have a3:=HM.o.svr _ (aM a4);obtain⟨pr,Y,cc,_,_⟩:=a3.here;dsimp only at cc a3;subst cc;obtain⟨gs,cy,e1,_,ca⟩:=iD ru HM.o.svs rfl a4;have e0:Value.slice ps ns cs= .slice (some (ae gs 0)) ns cy:=(by rw[<-b8.o,<-aK.o];exact e1);injection e0 with e2 e3 e4;subst e2 e4;obtain⟨m,rfl⟩: ∃m:Nat,days=(m:Int):=⟨days.toNat,by omega⟩
      obtain⟨wZ,A,hZ,nZ,hB,bB,nB⟩:=nbs w2 #[ag 0,ag 0,ag 0,af] (svC (s,.slice pr s.roles.length Y)) 36;have bR:=x.o.below bB;have ck:=bt bB O
      have I:QR (jG d (k:Int) day (m:Int)=(if(gX s (iR s day m 0 d).1).err≠0 then(noA (gX s (iR s day m 0 d).1).err,(iR s day m 0 d).2) else(⟨0,0,(gX s (iR s day m 0 d).1).day+day,(gX s (iR s day m 0 d).1).min,(gX s (iR s day m 0 d).1).who,[]⟩,(iR s day m 0 d).2))):=by
       show _=_;have:d.svs.getD k sv0=s:=(by simp[List.getD,bk]);unfold jG
       rw[J.o,ax (by rw[C.o];simp),ax (fun h=>by
        rcases h with h|h|h|h
        ·rw[al.o]at h;cases h
        ·omega
        ·omega
        ·omega)]
       simp only[cY,this]
      have b3:=aD (a3.below bB);have cm:=aD bR;have bu:=aD (l.o.trans (Kd.of bB));have HG:QR (∀q,w.heap.size<=q->Gx gD t q):=fun q f=>(H0.o.fx (.inr f)).1;have cx:=aD (we (bz.o.sv s (aM bk)));obtain⟨z,bh⟩:=au d.res.length;have c1:z<=12:=(by rw[<-bh];exact bz.o.rl);have bw:=aD bh;have cN:w.heap.size<=A.heap.size:=bu.o.size;have cf:w.heap.size<=w2.heap.size:=l.o.size;have cA:m<=30:=(by omega);have cD:day+(m:Int)<=146097:=(by omega);have aA:=aI ck;have a9:=aI nB;clear hA bA hn bX a4 bk a3 e1 e3 bR bh O bB C al J aK b8 HM x l;go_wp2_with(first|(refine wpList_load_mid rfl 36 _ rfl gs (k*4) rfl (svC (s,.slice pr s.roles.length Y)).toList _ ca svT rfl (by kernel_rfl) ?_)|(refine az rfl 36 _ _ rfl _ _ rfl rfl _ _ nZ (by kernel_rfl) rfl (qD _ _ _ _) ?_;rw[hB]))
      clear z2 ca hZ nZ hB bl M Z h3;go_loopw [10,11,51] (fun v _ q wr=> ∃(j:Nat) (U:Dk) (L:List Nat) (T:List (List (Nat->Bool))) (vs:List Value),q=ag (j:Int)/\j<=m/\Cor d U/\dy B gD U ((t.add w.heap.size).ad L) wr/\(∀b,v.ownBlock=some b->b∈L)/\(∀b∈L,A.heap.size<=b)/\Kd gD t t A wr/\wr.ownsRow A.heap.size 46 1 v j vs/\T.length=j/\(∀(i:Nat) (y:List (Nat->Bool)) (u:Value),T[i]? =some y->vs[i]? =some u->y.length=z/\wr.ownsRow A.heap.size 55 23 u z (mkF y))/\iR s day m 0 d=(T++(iR s day (m-j) j U).1,(iR s day (m-j) j U).2)) (fun _ _ q _=>m-(intOf q).toNat);case atStart=>exact⟨0,d,[],[],[],rfl,by omega,Cor.refl d,cm.o,(fun b hb=>by cases hb),(fun b hb=>by cases hb),Kd.of (aH _ _),dl _ _ _ _,rfl,(fun i y u hi=>by simp at hi),rfl⟩
      case round=>
       obtain⟨j,U,L,T,vs,rfl,hj,ap,hd,aP,ao,V,G,aw,av,hX⟩:=hrel;have cG:(0:Int)<=(j:Int):=(by omega);have ar:U.res=d.res:=(by obtain⟨_,_,rfl⟩:=ap;rfl);by_cases c0:j<m
       ·have bT:(j:Int)<(m:Int):=(by omega);rw[Jz s day c0,ar,bw.o]at hX;have ac:=(V.blk _ (HG.o w2.heap.size (by omega)) a9).trans nB
        have bZ:Rob (Fx gD ((t.add w.heap.size).ad L)) (fun u=>fj u (.slice pr s.roles.length Y) s.roles) wr:=b3.o.move V.size (fun q f hl=>V.blk q f.1 hl) fun q hl f=>⟨f.1,fun hx=>by
         rcases cg.1 hx with hx|hx
         ·have:=ao q hx;omega
         ·exact f.2 hx⟩
        have cF:=D9 s pr Y (day+(j:Int)) wr hd bZ;rw[ar,bw.o]at cF;have cL:IntKind.i64.wrap (day+(j:Int))=day+(j:Int):=(by rw[bO];omega);obtain⟨y,bd⟩:=au ((gj s (day+(j:Int)) z 0 U).1);obtain⟨de,aV⟩:=au ((gj s (day+(j:Int)) z 0 U).2)
        have bq:QR (Cor d de/\y.length=z):=by
         have:=pj s (day+(j:Int)) z 0 U;rw[bd,aV]at this;exact⟨ap.trans this.1,this.2⟩
        rw[bd,aV]at cF hX
        have HX:QR (iR s day m 0 d=((T++[y])++(iR s day (m-(j+1)) (j+1) de).1,(iR s day (m-(j+1)) (j+1) de).2)):=by
         show _=_;rw[hX,d8];rfl
        have aJ:=aD G;have aG:=aD av;have cp:=aD aP;have cq:=aD ao;have HK:=aD V;have X:=aD aw;have ci:A.heap.size<=wr.heap.size:=V.size;clear hX bd aV G av aP ao V aw ap ar hd bZ;go_wp2_with(refine aR rfl 36 _ rfl _ rfl _ _ _ _ ac svT rfl (by kernel_rfl) ?_)
        refine cF.mono ?_;rintro e w3 ⟨gm,rfl,cz,bj,bM,F⟩;have a7:Kd gD t t wr w3:=⟨F.os,F.tape,F.output,F.size,F.blk,fun _ _ h=>h,rfl⟩
        obtain⟨wC,hC,bC,nC⟩:=nb w3 #[.slice (some (ae gm 0)) z z] 46;have aj: ∀{e s n:Nat} {u:Value} {xs:List Value},wr.ownsRow A.heap.size e s u n xs->wC.ownsRow A.heap.size e s u n xs:=fun hr=>br hr fun b f=>(bC.block b (aU (hr.lt b f).2 F.size)).trans (F.blk b (HG.o b (by have:=(hr.lt b f).1;omega)) (hr.lt b f).2);have ai:=aj aJ.o;have bS:=bM.below bC;have D:=aD (HK.o.trans (a7.trans (Kd.of bC)))
        have b0:QR (wC.ownsRow A.heap.size 55 23 (.slice (some (ae gm 0)) z z) z (mkF y)):=by
         have M:=br bj fun b f=>bC.block b (bj.lt b f).2;exact⟨M.1,M.2.imp id fun⟨g,c,cu,q1,q2,q3⟩=>⟨g,c,cu,q1,bg ci q2,q3⟩⟩
        have aC:QR (∀(i:Nat) (y:List (Nat->Bool)) (u:Value),T[i]? =some y->vs[i]? =some u->y.length=z/\wC.ownsRow A.heap.size 55 23 u z (mkF y)):=fun i y u M Z=>⟨(aG.o i y u M Z).1,aj (aG.o i y u M Z).2⟩
        have bp:=aD bS;have c8:A.heap.size<=wC.heap.size:=D.o.size;clear cF ac F a7 bM bj aj bC bS HK aG cz;go_wp2_with(at_builtin;refine iH rfl _ _ 142 46 rfl NJ Pb rfl (by decide) (by decide) rfl ai rfl nC rfl (by simp[Value.oneCell']) (by omega) c8 ?_)
        rintro v2 w4 bi E bL g4 c4 rfl;obtain⟨L',bN,bF,bG,_⟩:=bp.o.grown ai cp.o E bi bL;have bU:Kd gD t t A w4:=⟨E.os.trans D.o.os,E.tape.trans D.o.tape,E.output.trans D.o.output,bg D.o.size E.size,fun q f hl=>(E.block q (aU hl D.o.size) (fun e=>by have:=(ai.lt q e.symm).1;omega)).trans (D.o.blk q f hl),fun _ _ h=>h,rfl⟩
        have N: ∀{u:Value} {n:Nat} {xs:List Value},wC.ownsRow A.heap.size 55 23 u n xs->w4.ownsRow A.heap.size 55 23 u n xs:=fun hr=>br hr fun b f=>E.block b (hr.lt b f).2 fun e=>pS hr ai (by decide) f e.symm
        have ct:QR (∃(L:List Nat) (a6:List Value),dy B gD de ((t.add w.heap.size).ad L) w4/\(∀b,(Value.slice (some (ae g4 0)) (j+1) c4).ownBlock=some b->b∈L)/\(∀b∈L,A.heap.size<=b)/\Kd gD t t A w4/\w4.ownsRow A.heap.size 46 1 (.slice (some (ae g4 0)) (j+1) c4) (j+1) a6/\(∀(i:Nat) (K:List (Nat->Bool)) (u:Value),(T++[y])[i]? =some K->a6[i]? =some u->K.length=z/\w4.ownsRow A.heap.size 55 23 u z (mkF K))):=by
         refine⟨L',_,bN,bF,fun b hb=> ?_,bU,bi,fun i K u M Z=> ?_⟩
         ·rcases bG b hb with h|h
          ·exact cq.o b h
          ·have:=h.1;omega
         ·have c3:vs.length=j:=(by have:=aJ.o.1;omega);by_cases e:i=j
          ·subst e;rw[dE (by have:=X.o;omega),X.o,iS]at M;rw[dE (by omega),c3,iS]at Z;have e1:y=K:=aN M;have e2:Value.slice (some (ae gm 0)) z z=u:=aN Z;subst e1 e2;exact⟨bq.o.2,N b0.o⟩
          ·have cE:i<j:=by
            have:=(aF.1 M).1;rw[aQ,X.o]at this;simp at this;omega
           rw[dO (by have:=X.o;omega)]at M;rw[dO (by omega)]at Z;exact⟨(aC.o i K u M Z).1,N (aC.o i K u M Z).2⟩
        clear ai bi E bL nC hC bN bF bG bU N bp D b0 aC aJ;go_wp2_with fail;go_roundw
        case rel=>
         obtain⟨L,a6,q1,q2,q3,q4,q5,q6⟩:=ct.o;exact⟨j+1,de,L,T++[y],a6,by go_num,by omega,bq.o.1,q1,q2,q3,q4,q5,by rw[aQ,X.o];rfl,q6,HX.o⟩
        case measure=>simp[intOf];omega
       ·have bT: ¬(j:Int)<(m:Int):=(by omega);obtain rfl:m=j:=(by omega);rw[iS]at hX
        have bI:iR s day m 0 d=(T,U):=by
         rw[hX];simp[iR]
        have be:=bu.o.trans V;have bW:=V.size;have ac:=(V.blk _ (HG.o w2.heap.size cf) a9).trans nB;have cl:=(V.blk _ (HG.o w.heap.size (aE _)) aA).trans ck;have a8:=((V.rob (t':=t) (b3.o.move (P':=Fx gD t) (aE _) (fun _ _ _=>rfl) fun q _ f=>⟨f.1,fun hx=>f.2 (bJ _ hx)⟩))).here;have bE:vD wr u10 T:=JB (by rw[aw];exact G) (by omega) (by omega) av;have bH:=HT.o wr (Kd.below H0.o be bm.o);have cM:=IV s (.slice pr s.roles.length Y) T u10 wr bH a8 bE;unfold svV Gb at cM;rw[bI]at I;obtain⟨fr,bc⟩:=au (gX s T);have co:QR (0<=fr.day/\fr.day<=30):=(by have:=JA s T;rw[bc]at this;exact this);rw[bc]at cM I;obtain⟨pw,cw,ce⟩:=bK G;subst ce;have cn:=aD hd.drop;have bv:=aD be;clear hX bI V be hd aP ao G av aw ap ar a8 bE bH bc cx;go_wp2_with(refine aR rfl 36 _ rfl _ rfl _ _ _ _ ac svT rfl (by kernel_rfl) ?_)
        refine cM.mono ?_;rintro e w5 ⟨v5,rfl,a2,b5⟩;obtain⟨p5,c5,c2⟩:=bK a2;subst c2;obtain⟨nw,a1⟩:=au fr.who.length;rw[a1]at a2;obtain⟨wY,w6,hY,nY,h6,b6,n6⟩:=nbs w5 #[ag 0,ag 0,af] #[ag fr.day,ag fr.min,.slice p5 nw c5] 39;have ak:=bt b5 cl;have bV:=bv.o.trans (Kd.of b5);have bP:=cn.o.below b5;have bs:=aD bV;have bo:=aD bP;have am:=aD a2;have bx:=aD a1;have cC:w.heap.size<w5.heap.size:=aI ak;have bl:w.heap.size<wr.heap.size:=aU aA bW;have cJ:wr.heap.size<=w5.heap.size:=b5.size;obtain⟨er,bb⟩:=au fr.err;rw[bb]at I;rw[a1,bb];have Q:=aD b6;clear cM ac b5 cl bV bP a2 a1 bb b6 bv;by_cases h0:er=0
        ·subst h0;have R:QR (jG d (k:Int) day (m:Int)=(⟨0,0,fr.day+day,fr.min,fr.who,[]⟩,U)):=I.o.trans (by rw[ax (by simp)]);have cK:IntKind.i64.wrap (fr.day+day)=fr.day+day:=(by have:=co.o;rw[bO];omega);have y6:w6.cell? (ae w5.heap.size 0)=some (ag fr.day):=cr 0 n6 rfl;have x6:=bn _ _ 0 _ _ n6;obtain⟨w7,ch⟩:=au (w6.setCell ⟨w5.heap.size,0,none⟩ (ag (fr.day+day)));have n7:w7.heap[w5.heap.size]? =ah #[ag (fr.day+day),ag fr.min,.slice p5 nw c5] 39:=ch▸aY w6 w5.heap.size 0 _ _ (ag (fr.day+day)) n6;have b7:aq w5 w7:=ch▸Q.o.setCell (p:=⟨w5.heap.size,0,none⟩) (aE _) (ag (fr.day+day));have cj:=bt b7 ak
         have b4:QR (Rob (Fx gD t) (fun u=>rx B u (.slice p5 nw c5) fr.who) (w7.setRow w.heap.size (anC ⟨0,0,fr.day+day,fr.min,fr.who,[]⟩ (.slice p5 nw c5) (af)))):=by
          refine Rob.imp (Rob.move (P:=fun q=>wr.heap.size<=q) (Φ:=fun u=>u.ownsRow wr.heap.size 3 1 (.slice p5 nw c5) nw (dw fr.who)) (w:=w7) (fun u hu ha=>br am.o fun b hb=>(ha b (am.o.lt b hb).1 (aU (am.o.lt b hb).2 b7.size)).trans (b7.block b (am.o.lt b hb).2)) (by simp) (fun q f _=>aW _ _ _ _ (by omega)) fun q _ f=>H0.o.fx (.inr (by omega))) fun u hu=>⟨pT (by rw[bx.o];exact hu) (by
           rw[bx.o];rcases hu.2 with⟨_,e⟩|⟨_,_,_,_,_,_,_,e,_⟩
           ·omega
           ·unfold maxLen at e;omega),(fun p n k e=>by
           cases e;rcases hu.2 with⟨e,e2⟩|⟨_,_,_,e,_,_,e2,_⟩
           ·omega
           ·cases e;exact e2),fun b e=>bg (bg bm.o (Nat.le_of_lt bl)) (hu.lt b e).1⟩
         have r:=aD (fG (bo.o.below b7) (bs.o.trans (Kd.of b7)) (aE _) (anC ⟨0,0,fr.day+day,fr.min,fr.who,[]⟩ (.slice p5 nw c5) (af)));have S:=aD (aL _ _ _ (anC ⟨0,0,fr.day+day,fr.min,fr.who,[]⟩ (.slice p5 nw c5) (af)) _ _ cj);clear b7 ak n6 Q I;go_wp2_with(first|(refine aR rfl 39 _ rfl _ rfl _ _ _ _ n7 slT rfl (by kernel_rfl) ?_)|(refine az rfl 39 _ _ rfl _ _ rfl rfl _ _ nY (by kernel_rfl) rfl (by simp[Value.oneCell']) ?_;rw[h6])|(refine az rfl 43 _ _ rfl _ _ rfl rfl _ _ cj (by kernel_rfl) rfl (by simp[Value.oneCell']) ?_))
         refine aX (v:= .agg (anC ⟨0,0,fr.day+day,fr.min,fr.who,[]⟩ (.slice p5 nw c5) (af))) ?_ rfl ?_
         ·exact bf rfl _ _ w.heap.size _ _ _ _ rfl S.o anT rfl (by kernel_rfl)
         ·rw[R.o];exact⟨t,_,_,rfl,r.o.1,r.o.2,b4.o,eB _ _⟩
        ·have cB:(er !=0)=true:=(by simpa using h0);have R:QR (jG d (k:Int) day (m:Int)=(noA er,U)):=I.o.trans (by rw[aB h0]);have O:=bt Q.o ak;have x:=aD (bo.o.below Q.o);have l:=aD (bs.o.trans (Kd.of Q.o));clear h0 ak Q I n6;go_wp2_with(refine az rfl 39 _ _ rfl _ _ rfl rfl _ _ nY (by kernel_rfl) rfl (by simp[Value.oneCell']) ?_;rw[h6])
         clear nY hY h6;have cR:=ff er w6;go_wp2_with fail;refine cR.mono ?_;rintro e w9 ⟨rfl,a⟩;have H:=bt a O;have r:=aD (fG (x.o.below a) (l.o.trans (Kd.of a)) (aE _) (anC (noA er) (af) (af)));have S:=aD (aL _ _ _ (anC (noA er) (af) (af)) _ _ H);clear cR a O;go_wp2_with(refine az rfl 43 _ _ rfl _ _ rfl rfl _ _ H (by kernel_rfl) rfl (by simp[anC,noA,Value.oneCell']) ?_)
         refine aX (v:= .agg (anC (noA er) (af) (af))) ?_ rfl ?_
         ·exact bf rfl _ _ w.heap.size _ _ _ _ rfl S.o anT rfl (by kernel_rfl)
         ·rw[R.o];exact⟨t,_,_,rfl,r.o.1,r.o.2,fi _ _,eB _ _⟩
end
end
section
def doC (c:Cm)(a b:Value):Array Value:= #[ag c.kind,ag c.n,ag c.day,ag c.days,jB c.text,jB c.name,ag c.sv.len,ag c.sv.bef,ag c.sv.aft,a,ag c.sday,ag c.smin,b]
def doP (d:Dk)(c:Cm):An×Dk:=
 if c.kind=1 then oD d (iE c.text) else
 if c.kind=2 then sm d c.name else
 if c.kind=3 then sw d c.sv else
 if c.kind=4 then jG d c.n c.day c.days else
 if c.kind=5 then lQ d c.n c.sday c.smin c.swho else
 if c.kind=6 then iG d c.n (fun a d=>((fp a 2,0),d)) else
 if c.kind=7 then iG d c.n (fun a d=>((fp a 3,0),d)) else
 if c.kind=8 then iG d c.n (fun a d=>fc d c.n a c.sday c.smin c.swho) else
 if c.kind=9 then rU d c.days else(noA 1,d)
theorem doT:prog.underlying 41=some (.struct (prog.fieldsOf 41)):=by kernel_rfl
section
variable {B gD:Nat} {d:Dk} {t:Tr} {w w3 w4:World}
theorem Tr.back {d:Tr}{q:Nat}(h:d.xs=(t.add q).xs):d=(Tr.mk d.ev d.sv d.av t.xs).add q:=by
 obtain⟨a,b,c,x⟩:=d;dsimp only at h;subst h;rfl
theorem JD {q:Nat}{p:An×Dk}{i lv:Value}{a:Tr}(l:aq w w3)(o:w.heap.size<=q)(m:dy B gD p.2 a w4)(f:Kd gD (t.add q) a w3 w4)(r:Rob (Fx gD a) (fun u=>rx B u i p.1.who) w4)(n:Rob (Fx gD a) (fun u=>dH u lv p.1.list) w4)(c:Array Value):
  ∃t0:Tr,dy B gD p.2 t0 (w4.setRow q c)/\Kd gD t t0 w (w4.setRow q c)/\Rob (Fx gD t0) (fun u=>rx B u i p.1.who) (w4.setRow q c)/\Rob (Fx gD t0) (fun u=>dH u lv p.1.list) (w4.setRow q c):=by
 have e:=Tr.back f.xs;obtain⟨t0,rfl⟩: ∃t0:Tr,a=t0.add q:=⟨_,e⟩
 have d:=Kd.opened l f;have g:=fG m d o c;have mv: ∀{Φ:World->Prop},Rob (Fx gD (t0.add q)) Φ w4->Rob (Fx gD t0) Φ (w4.setRow q c):=fun j=>j.move (by simp) (fun k b _=>aW _ _ _ _ fun e=>b.2 (by rw[e];exact bp)) fun k _ b=>⟨b.1,fun s=>b.2 (bJ _ s)⟩
 exact⟨t0,g.1,g.2,mv r,mv n⟩
theorem C9 {c:Cm}{a b:Value}{g:Nat}(m:w.heap[g]? =ah (doC c a b) 41):w.cell? (ae g 0)=some (ag c.kind)/\w.cell? (ae g 1)=some (ag c.n)/\w.cell? (ae g 2)=some (ag c.day)/\w.cell? (ae g 3)=some (ag c.days)/\w.cell? (ae g 4)=some (.string ⟨c.text.toArray⟩)/\w.cell? (ae g 5)=some (.string ⟨c.name.toArray⟩)/\w.cell? (ae g 6)=some (ag c.sv.len)/\w.cell? (ae g 7)=some (ag c.sv.bef)/\w.cell? (ae g 8)=some (ag c.sv.aft)/\w.cell? (ae g 9)=some a/\w.cell? (ae g 10)=some (ag c.sday)/\w.cell? (ae g 11)=some (ag c.smin)/\w.cell? (ae g 12)=some b:=
 ⟨cr 0 m rfl,cr 1 m rfl,cr 2 m rfl,cr 3 m rfl,cr 4 m rfl,cr 5 m rfl,cr 6 m rfl,cr 7 m rfl,cr 8 m rfl,cr 9 m rfl,cr 10 m rfl,cr 11 m rfl,cr 12 m rfl⟩
theorem NL (c:Cm)(F pw:Option Addr)(l M:Nat)(w:World)(h:dy B gD d t w)(hx:c.text.length<=9223372036854775807)(hT:Tbs B w)(z:B<=w.heap.size)(hg:d.given+1<=1000000)(J:GD w t.xs)(I:c.name.length<=9223372036854775807)(hr:fj w (.slice F c.sv.roles.length l) c.sv.roles)(aa: ¬(5<=c.kind/\c.kind<=8)):Calls prog 19 #[ab gD 0,.agg (doC c (.slice F c.sv.roles.length l) (.slice pw c.swho.length M))] w (ry B gD (doP d c) t w):=by
 obtain⟨w1,h1,b1,Q⟩:=nb w #[ab gD 0] 99;obtain⟨y,h2,b2,R⟩:=nb w1 (doC c (.slice F c.sv.roles.length l) (.slice pw c.swho.length M)) 41;obtain⟨w3,h3,b3,E⟩:=nb y #[ag 0,ag 0,ag 0,ag 0,af,af] 43;have j:=aw b1 b2;have b:=aw j b3;have a:=h.opened (q:=y.heap.size) j.size (by rw[<-h3];simp) b;have O:=bt b3 R;have N:=bt (aw b2 b3) Q;have z1:=cr 0 N rfl;obtain⟨y0,y1,y2,y3,y4,y5,y6,y7,y8,y9,ac,ad,ae⟩:=C9 O;have HB:=aD b;have HQ:=aD j.size
 have G:QR (Gx gD (t.add y.heap.size) y.heap.size):=by
  obtain⟨_,_,_,_,_,_,_,hm⟩:=a;exact(hm.nx _ bp).2.2
 have r:=hT.below (b.mono z);have m:=bg z b.size;rcases(show c.kind=1\/c.kind=2\/c.kind=3\/c.kind=4\/c.kind=9\/(c.kind<1\/9<c.kind) by omega) with i|i|i|i|i|i
 case' inl=>
  have C:GD w3 (t.add y.heap.size).xs:=fun k i=>by
   rcases bz.1 i with rfl|i
   ·exact⟨_,_,_,E,by decide⟩
   ·obtain⟨c,T,f,hc,I⟩:=J k i;exact⟨c,T,f,bt b hc,I⟩
  have g:=Jw c.text w3 a hx r m hg C;clear C;generalize p:oD d (iE c.text)=P at g
 case' inr.inl=>
  have g:=Gu c.name w3 a I;generalize p:sm d c.name=P at g
 case' inr.inr.inl=>
  have g:=GF c.sv F l w3 a (hr.below b);generalize p:sw d c.sv=P at g
 case' inr.inr.inr.inl=>
  have g:=JC c.n c.day c.days w3 a (fun W hW=>(r W hW).2.2) m;generalize p:jG d c.n c.day c.days=P at g
 case' inr.inr.inr.inr.inl=>
  have g:=Ls c.days w3 a;generalize p:rU d c.days=P at g
 case' inr.inr.inr.inr.inr=>
  have g:=(show Calls prog 41 #[ag 1] w3 (ry B gD (noA 1,d) (t.add y.heap.size) w3) from(ff 1 w3).mono fun e w H=>⟨_,_,_,H.1,a.below H.2,Kd.of H.2,fi _ _,eB _ _⟩)
  generalize p:((noA 1,d):An×Dk)=P at g
 all_goals
  have HP:QR (doP d c=P):=by
   show _=_;rw[<-p];unfold doP;repeat (first|rw[aB i]|rw[ax (by omega)])
  clear b1 b2 b3 j b a Q R p N O r m
  try rw[i]at y0
  try (have e1:(c.kind==1)=false:=by simp;omega
       have e2:(c.kind==2)=false:=by simp;omega
       have e3:(c.kind==3)=false:=by simp;omega
       have e4:(c.kind==4)=false:=by simp;omega
       have e5:(c.kind==5)=false:=by simp;omega
       have e6:(c.kind==6)=false:=by simp;omega
       have e7:(c.kind==7)=false:=by simp;omega
       have e8:(c.kind==8)=false:=by simp;omega
       have e9:(c.kind==9)=false:=by simp;omega)
  clear i
  go_enter func19,ntmps19
  go_wp2_with fail
  refine g.mono ?_
  rintro e w4 ⟨t',wv,lv,rfl,A,s,x,u⟩
  obtain⟨t0,U,V,X,Y⟩:=JD HB.o HQ.o A s x u (anC P.1 wv lv)
  obtain⟨Z,K,rfl,_,_⟩:=x.here.1
  obtain⟨p6,L,rfl,_,_⟩:=u.here
  have S:=(s.blk _ G.o (aI E)).trans E
  have D:=aD (fP U (fP V (fP X Y)))
  have HR:=aD (aL _ _ _ (anC P.1 (.slice Z P.1.who.length K) (.slice p6 P.1.list.length L)) _ _ S)
  clear g A s x u U V X Y E
  go_wp2_with(refine az rfl 43 _ _ rfl _ _ rfl rfl _ _ S (by kernel_rfl) rfl (by simp[anC,Value.oneCell']) ?_)
  refine aX (v:= .agg (anC P.1 (.slice Z P.1.who.length K) (.slice p6 P.1.list.length L))) ?_ rfl ?_
  ·exact bf rfl _ _ y.heap.size _ _ _ _ rfl HR.o anT rfl (by kernel_rfl)
  ·rw[HP.o]
   exact⟨t0,_,_,rfl,D.o.1,D.o.2.1,D.o.2.2.1,D.o.2.2.2⟩
end
end
def dk0:Dk:=⟨[],[],[],[],[],0,[],0⟩
def playP:Dk->List Cm->List An×Dk
 |d,[]=>([],d)
 |d,c::l=>((doP d c).1::(playP (doP d c).2 l).1,(playP (doP d c).2 l).2)
theorem GH {l:List Cm}{j:Nat}{c:Cm}(d:Dk)(h:l[j]? =some c):playP d (l.drop j)=((doP d c).1::(playP (doP d c).2 (l.drop (j+1))).1,(playP (doP d c).2 (l.drop (j+1))).2):=by
 obtain⟨a,b⟩:=aF.1 h;rw[bx a,b];rfl
theorem qv: ∀(l:List Ap) (i:Nat) (d:Dk),Cor d (fd l i d).2
 |[],_,d=>Cor.refl d
 |a::l,i,d=>by
  unfold fd;split
  ·exact qv l (i+1) d
  ·exact(xw (fun x d=>tD d x a.day) a.who d).trans (qv l (i+1) _)
theorem xz (s:Sv)(day:Int): ∀(m i:Nat) (d:Dk),Cor d (iR s day m i d).2
 |0,_,d=>Cor.refl d
 |m+1,i,d=>by
  unfold iR;exact(pj s _ _ 0 d).1.trans (xz s day m (i+1) _)
theorem Cor.given {d a:Dk}(h:Cor d a):a.given=d.given:=by
 obtain⟨_,_,rfl⟩:=h;rfl
theorem qe (d:Dk)(n:Int)(f:Ap->Dk->(Ap×Int)×Dk)(b: ∀a d,Cor d (f a d).2):(iG d n f).2.given=d.given:=by
 unfold iG;dsimp only;repeat' split
 ·rfl
 ·exact(b _ d).given
 ·exact(b _ d).given
theorem JE (d:Dk)(c:Cm):(doP d c).2.given<=d.given+1:=by
 have le: ∀{x:Int},x=d.given->x<=d.given+1:=fun h=>by omega
 unfold doP;split
 ·unfold oD;split
  ·exact le rfl
  ·exact Int.le_of_eq (qv _ 0 _).given
 ·split
  ·unfold sm;repeat' split
   all_goals exact le rfl
  ·split
   ·unfold sw;repeat' split
    all_goals exact le rfl
   ·split
    ·unfold jG;dsimp only;repeat' split
     all_goals first|exact le rfl|exact le (xz _ _ _ 0 d).given
    ·split
     ·unfold lQ;dsimp only;repeat' split
      all_goals first|exact le rfl|exact le (mx d _ _ _ _ _).given
     ·split
      ·exact le (qe d _ _ fun a d=>Cor.refl d)
      ·split
       ·exact le (qe d _ _ fun a d=>Cor.refl d)
       ·split
        ·exact le (qe d _ _ fun a d=>mx d _ a _ _ _)
        ·split
         ·unfold rU;split;all_goals exact le rfl
         ·exact le rfl
structure mB (w:World)(c:Cm)(rv wv:Value):Prop where
 roles:fj w rv c.sv.roles
 who:dH w wv c.swho
 text:c.text.length<=9223372036854775807
 name:c.name.length<=9223372036854775807
 cap: ∀p n k,wv= .slice p n k->n<=k
theorem mB.below {w w':World}{c:Cm}{b d:Value}(h:mB w c b d)(a:aq w w'):mB w' c b d:=⟨h.roles.below a,h.who.below a,h.text,h.name,h.cap⟩
def jR (w:World)(v:Value)(a:List (Cm×Value×Value)):Prop:= ∃p k,v= .slice p a.length k/\a.length<9223372036854775808/\ ∀(j:Nat) (q:Cm×Value×Value),a[j]? =some q->mB w q.1 q.2.1 q.2.2/\ ∃g o:Nat,p=some ⟨g,o,none⟩/\w.rangeAt g (o+j*13) (doC q.1 q.2.1 q.2.2).toList
theorem jR.below {w w':World}{v:Value}{d:List (Cm×Value×Value)}(h:jR w v d)(e:aq w w'):jR w' v d:=by
 obtain⟨p,k,f,i,l⟩:=h;refine⟨p,k,f,i,fun j q m=> ?_⟩;obtain⟨a,g,o,b,c⟩:=l j q m;exact⟨a.below e,g,o,b,dS c e⟩
theorem sy {w u:World}{v:Value}{b:List Int}(h:dH w v b)(l: ∀q,q<w.heap.size->u.heap[q]? =w.heap[q]?):dH u v b:=by
 obtain⟨p,c,d,f,i⟩:=h;refine⟨p,c,d,f,fun j x k=> ?_⟩;obtain⟨g,o,e,a⟩:=i j x k;exact⟨g,o,e,(en (l g (bN a))).trans a⟩
def GI (c:Cm):Prop:= ∀(B a:Nat) (d:Dk) (t:Tr) (w:World) (g e:Option Addr) (f b:Nat),dy B a d t w->Tbs B w->B<=w.heap.size->d.given+1<=1000000->GD w t.xs->mB w c (.slice g c.sv.roles.length f) (.slice e c.swho.length b)->Rob (fun q=>q<B) (fun u=>dH u (.slice e c.swho.length b) c.swho) w->Calls prog 19 #[ab a 0,.agg (doC c (.slice g c.sv.roles.length f) (.slice e c.swho.length b))] w (ry B a (doP d c) t w)
theorem JF (c:Cm)(f: ¬(5<=c.kind/\c.kind<=8)):GI c:=fun _ _ _ _ w k l i j h d b e g a _=>NL c k l i j w h a.text d b e g a.name a.roles f
theorem zd:uE dk0:=⟨by decide,rfl,by decide,by decide,by decide,by decide,by decide,(fun x a=>by cases a),(fun x a=>by cases a),(fun x a=>by cases a)⟩
theorem Pc {B b:Nat}{xs:List Nat}{w:World}(e:B<=b)(d: ∀q∈xs,q<w.heap.size/\B<=q/\q≠b)(h:w.heap[b]? =ah #[af,af,af,af,af,af,ag 0,af,ag 0] 73):dy B b dk0 ⟨af,af,af,xs⟩ w:=
 ⟨zd,af,af,af,af,[],[],h,e,fun u _ _=>⟨[],⟨.inl ⟨rfl,none,0,rfl⟩,by simp,fun p a=>by cases a⟩,rfl⟩,fun u _ _=>⟨[],⟨none,0,rfl,by simp,fun j u f=>by simp at f⟩,rfl⟩,eB _ _,fun u _ _=>⟨none,0,rfl,aE _,by unfold maxLen;omega,fun h=>absurd rfl h⟩,dl _ _ _ _,dl _ _ _ _,rfl,(fun p a=>by cases a),dl _ _ _ _,rfl,(fun p a=>by cases a),fun q c=>⟨(d q c).1,(d q c).2.1,(d q c).2.2,nofun,nofun,nofun⟩⟩
def anF (l:List (An×Value×Value)):List Value:=l.flatMap fun a=>(anC a.1 a.2.1 a.2.2).toList
structure po (B:Nat)(w:World)(p:List An×Dk)(rv ev sv av asv:Value)(ss:List (Sv×Value))(aa:List (Ap×Value))(ls:List (An×Value×Value)):Prop where
 rules: ∃us,InR w rv us/\us.map (fun p=>p.1)=p.2.rules
 res:w.ownsRow B 9 1 ev p.2.res.length (p.2.res.map jB)
 svs:w.ownsRow B 36 4 sv ss.length (svF ss)
 sve:ss.map (fun p=>p.1)=p.2.svs
 svr: ∀q∈ss,fj w q.2 q.1.roles
 aps:w.ownsRow B 45 11 av aa.length (apF aa)
 ape:aa.map (fun p=>p.1)=p.2.aps
 apr: ∀q∈aa,dH w q.2 q.1.who
 ans:w.ownsRow B 43 6 asv ls.length (anF ls)
 ane:ls.map (fun p=>p.1)=p.1
 anr: ∀a∈ls,rx B w a.2.1 a.1.who/\dH w a.2.2 a.1.list
theorem po.below {B:Nat}{w w':World}{p:List An×Dk}{k ev sv av d:Value}{l:List (Sv×Value)}{g:List (Ap×Value)}{j:List (An×Value×Value)}(h:po B w p k ev sv av d l g j)(c:aq w w'):po B w' p k ev sv av d l g j:=by
 have rk: ∀{e s n:Nat} {u:Value} {xs:List Value},w.ownsRow B e s u n xs->w'.ownsRow B e s u n xs:=fun i=>br i fun b f=>c.block b (i.lt b f).2;obtain⟨r,m,o⟩:=h.rules;exact⟨⟨r,m.below c,o⟩,rk h.res,rk h.svs,h.sve,fun q f=>(h.svr q f).below c,rk h.aps,h.ape,fun q f=>(h.apr q f).below c,rk h.ans,h.ane,fun a ha=>⟨⟨(h.anr a ha).1.1.below c,(h.anr a ha).1.2⟩,(h.anr a ha).2.below c⟩⟩
def L0 (B:Nat)(ys:List Nat)(l:List Cm)(w:World)(e:Ending)(w':World):Prop:=aq w w'/\((60<l.length/\e= .returned (.tuple #[.agg #[af,af,af,af],af,ag 0,ag 5]))\/(l.length<=60/\ ∃(b ev sv av a:Value) (f:List (Sv×Value)) (c:List (Ap×Value)) (d:List (An×Value×Value)),e= .returned (.tuple #[.agg #[b,ev,sv,av],a,ag (playP dk0 l).2.runs,ag 0])/\Rob (fun k=>k∉ys) (fun u=>po B u (playP dk0 l) b ev sv av a f c d) w'))
theorem QD:(prog.info? 43).map (fun i=>(i.zero,i.size,i.bytes))=some (some (.agg #[ag 0,ag 0,ag 0,ag 0,af,af]),6,80):=by kernel_rfl
theorem P9:prog.underlying 30=some (.slice 43):=by kernel_rfl
theorem dsT:prog.underlying 29=some (.struct (prog.fieldsOf 29)):=by kernel_rfl
theorem EW (c:Cm)(p q:Option Addr)(n m k j:Nat):(doC c (.slice p n k) (.slice q m j)).all (·.oneCell')=true:=by simp[doC,jB,Value.oneCell']
theorem Bd {R:Ending->World->Prop}{a:Act}{w:World}(g:Nat)(c:Array Value)(x:Value)(n er:Int)(o:c.size=4)(p:a.defers=[])(i:a.tmps.getD 2 undef=ab g 0)(j:a.tmps.getD 3 undef=x)(k:a.tmps.getD 4 undef=ag n)(l:a.tmps.getD 5 undef=ag er)
  (q:w.heap[g]? =ah c 29) (m:R (.returned (.tuple #[.agg c,x,ag n,ag er])) w):bodyPost prog f9 R .ret a w:=by
 refine aX (v:= .tuple #[.agg c,x,ag n,ag er]) ?_ p m;have s:f9.results= #[ResultVar.cell 2 29,ResultVar.tmp 3,ResultVar.tmp 4,ResultVar.tmp 5]:=rfl;have b:a.tmps[2]?.getD undef=ab g 0:=by simpa using i
 have d:a.tmps[3]?.getD undef=x:=by simpa using j
 have e:a.tmps[4]?.getD undef=ag n:=by simpa using k
 have f:a.tmps[5]?.getD undef=ag er:=by simpa using l
 have r:=ef (P:=prog) w g 29 29 _ _ _ q dsT rfl (by rw[o];kernel_rfl);simp[results,b,d,e,f,asAddr,r]
theorem JG {d:Nat}{t:Tr}{L c:List Nat}(h: ∀b∈c,b∈L){q:Nat}(e:Fx d (t.ad L) q):Fx d (t.ad c) q:=⟨e.1,fun a=>e.2 (by
 rcases cg.1 a with a|a
 ·exact fR _ (h q a)
 ·exact eP _ a)⟩
theorem dy.sub {B c:Nat}{d:Dk}{t:Tr}{L e:List Nat}{w:World}(h:dy B c d (t.ad L) w)(g: ∀b∈e,b∈L):dy B c d (t.ad e) w:=by
 obtain⟨k,m,j,o,kv,n,i,h⟩:=h;have mv: ∀{Φ:World->Prop},Rob (Fx c (t.ad L)) Φ w->Rob (Fx c (t.ad e)) Φ w:=fun l=>l.move (aE _) (fun _ _ _=>rfl) fun q _ a=>JG g a
 exact⟨k,m,j,o,kv,n,i,h.blk,h.lo,mv h.rules,mv h.codes,mv h.vers,mv h.kept,h.res,h.svs,h.sve,fun p f=>mv (h.svr p f),h.aps,h.ape,fun p f=>mv (h.apr p f),fun q a=>h.nx q (by
  rcases cg.1 a with a|a
  ·exact fR _ (g q a)
  ·exact eP _ a)⟩
theorem Ly (B:Nat)(ys:List Nat)(cs:List (Cm×Value×Value))(v:Value)(w:World)(bb:B<=w.heap.size)(h:jR w v cs)(hT:Tbs B w)(bn: ∀q∈cs,GI q.1)(c2: ∀q∈cs,Rob (fun k=>k<B) (fun u=>dH u q.2.2 q.1.swho) w)(c4: ∀q∈ys,B<=q/\ ∃c T f,w.heap[q]? =some (.cells c T f)/\ ¬(T=195\/T=216\/T=57)):Calls prog 9 #[v] w (L0 B ys (cs.map fun q=>q.1) w):=by
 obtain⟨m,hA,bA,nA⟩:=nb w #[af,af,af,af] 29;have HR:=aD h;obtain⟨p,kc,rfl,bk,cG⟩:=h;obtain⟨n,hn⟩:=au cs.length;have HN:=aD hn;have bO:=aD bn;have HT:=aD hT;have bU:=aD c2;have ax:=aD c4;have b4:=aD bA;rw[hn]at bk⊢;obtain⟨l,G⟩:=au (cs.map (fun q=>q.1));have ct:l.length=n:=by rw[<-G,ba,hn]
 rw[G];have HL:=aD G;have ap:=aD ct;by_cases bX:60<n
 ·have aY:(60:Int)<(n:Int):=by omega
  have HO:=aD (below_setRow bA (aE _) #[af,af,af,af]);have bS:=aD (aL _ _ _ #[af,af,af,af] _ _ nA);go_enter func9,ntmps9;go_wp2_with(refine az rfl 29 _ _ rfl _ _ rfl rfl _ _ nA (by kernel_rfl) rfl (by simp[Value.oneCell']) ?_)
  exact Bd w.heap.size _ _ 0 5 rfl rfl rfl rfl rfl rfl bS.o ⟨HO.o,.inl ⟨by rw[ap.o];exact bX,rfl⟩⟩
 ·have aY: ¬(60:Int)<(n:Int):=by omega
  obtain⟨wB,hB,bB,nB⟩:=nb m #[af,af,af,af,af,af,ag 0,af,ag 0] 73;have cC:w.heap.size<m.heap.size:=(by rw[<-hA];simp);have cE:m.heap.size<wB.heap.size:=(by rw[<-hB];simp)
  have ci:=Pc (B:=B) (xs:=w.heap.size::ys) (by omega) (fun q d=>by
   rcases bz.1 d with rfl|d
   ·omega
   ·obtain⟨D,_,_,_,z,_⟩:=ax.o q d;have:=aI z;omega) nB
  have b7:=aD ci;have b5:=aD (fP (aw b4.o bB) (bt bB nA));go_enter func9,ntmps9;go_wp2_with fail;go_loopw [7,9,16] (fun v _ q wr=> ∃(j:Nat) (E:Dk) (A:Tr) (L:List Nat) (H:List (An×Value×Value)),q=ag (j:Int)/\j<=n/\(A.xs=w.heap.size::ys/\ ∀q,q<w.heap.size->Gx m.heap.size A q)/\dy B m.heap.size E (A.ad L) wr/\(∀b,v.ownBlock=some b->b∈L)/\(∀b∈L,∃c,wr.heap[b]? =ah c 43)/\(aq w wr/\wr.heap[w.heap.size]? =ah #[af,af,af,af] 29)/\wr.ownsRow m.heap.size 43 6 v j (anF H)/\H.length=j/\E.given<=j/\(∀a∈H,Rob (Fx m.heap.size (A.ad L)) (fun u=>rx B u a.2.1 a.1.who) wr/\Rob (Fx m.heap.size (A.ad L)) (fun u=>dH u a.2.2 a.1.list) wr)/\playP dk0 l=(H.map (fun a=>a.1)++(playP E (l.drop j)).1,(playP E (l.drop j)).2)) (fun _ _ q _=>n-(intOf q).toNat);case atStart=>exact⟨0,dk0,⟨af,af,af,w.heap.size::ys⟩,[],[],rfl,by omega,⟨rfl,fun q d=>⟨by omega,nofun,nofun,nofun⟩⟩,b7.o,(fun b i=>by cases i),(fun b i=>by cases i),b5.o,dl _ _ _ _,rfl,ig _,(fun a ha=>by cases ha),rfl⟩
  case round=>
   obtain⟨j,E,A,L,H,rfl,hj,⟨I,co⟩,hd,bZ,ca,⟨V,b3⟩,C,a7,cn,ac,hX⟩:=hrel;have cB:(0:Int)<=(j:Int):=(by omega);by_cases cp:j<n
   ·have bi:(j:Int)<(n:Int):=(by omega);obtain⟨⟨c,rv,wv⟩,X⟩: ∃q,cs[j]? =some q:=⟨cs[j]'(by rw[HN.o];exact cp),ay _⟩
    have cq:l[j]? =some c:=(by rw[<-HL.o,aZ,X];rfl);rw[GH E cq]at hX;obtain⟨p',k',e',_,a0⟩:=HR.o;injection e' with e1 e3 e2;subst e1 e2;obtain⟨Y,g,o,cy,bo⟩:=a0 j _ X;subst cy;dsimp only at Y bo;have bf:=bO.o _ (aM X);have bq:=dS bo V;have bd:=Y.below V;obtain⟨O,N,rfl,_,_⟩:=Y.roles;obtain⟨pw,kw,rfl,_,_⟩:=Y.who;obtain⟨wZ,wC,hZ,nZ,hC,bC,nC⟩:=nbs wr #[ag 0,ag 0,ag 0,ag 0,.string ⟨#[]⟩,.string ⟨#[]⟩,ag 0,ag 0,ag 0,af,ag 0,ag 0,af] (doC c (.slice O c.sv.roles.length N) (.slice pw c.swho.length kw)) 41;have a5:=hd.below bC;have Q:=aw V bC;have b2:=bt bC b3;have cb:Tbs B wC:=fun W hW=>HT.o W ((Q.mono bb).trans hW)
    have bc: ∀b∈L,∃c,wC.heap[b]? =ah c 43:=fun b i=>by
     obtain⟨x,hx⟩:=ca b i;exact⟨x,bt bC hx⟩
    have cD:=bf B m.heap.size E (A.ad L) wC O pw N kw a5 cb (bg bb Q.size) (by omega) (fun b i=>by
     rcases cg.1 i with i|i
     ·obtain⟨x,hx⟩:=bc b i;exact⟨x,_,_,hx,by decide⟩
     ·rw[I]at i;rcases bz.1 i with rfl|i
      ·exact⟨_,_,_,b2,by decide⟩
      ·obtain⟨_,x,T,f,z,h3⟩:=ax.o b i;exact⟨x,T,f,bt Q z,h3⟩) (bd.below bC) ((bU.o _ (aM X)).below Q)
    have cx:=br C fun b d=>bC.block b (C.lt b d).2
    have bh:(∀b∈L,Gx m.heap.size (A.ad L) b)/\Gx m.heap.size (A.ad L) w.heap.size:=by
     obtain⟨_,_,_,_,_,_,_,t⟩:=a5;exact⟨fun b i=>(t.nx b (fR _ i)).2.2,(t.nx _ (eP _ (by rw[I];exact bp))).2.2⟩
    have aV:=aD b2;obtain⟨P,hP⟩:=au (doP E c);have bI:QR (P.2.given<=E.given+1):=(by have:=JE E c;rw[hP]at this;exact this);rw[hP]at cD hX
    have HX:QR (playP dk0 l=((H.map (fun a=>a.1)++[P.1])++(playP P.2 (l.drop (j+1))).1,(playP P.2 (l.drop (j+1))).2)):=by
     show _=_;rw[hX,d8];rfl
    have aO:QR (∀a∈H,Rob (Fx m.heap.size (A.ad L)) (fun u=>rx B u a.2.1 a.1.who) wC/\Rob (Fx m.heap.size (A.ad L)) (fun u=>dH u a.2.2 a.1.list) wC):=fun a ha=>⟨(ac a ha).1.below bC,(ac a ha).2.below bC⟩
    have an:=aD Q;have c8:=aD a5;have ar:=aD cx;have ao:=aD bh;have aG:=aD bZ;have bL:=aD bc;have bM:=aD a7;have bT:=aD I;have ai:=aD co;have b9:=aD cn;go_wp2_with(first|(refine wpList_load_mid rfl 41 _ rfl g (o+j*13) rfl (doC c (.slice O c.sv.roles.length N) (.slice pw c.swho.length kw)).toList _ bq doT rfl (by kernel_rfl) ?_)|(refine az rfl 41 _ _ rfl _ _ rfl rfl _ _ nZ (by kernel_rfl) rfl (EW _ _ _ _ _ _ _) ?_;rw[hC])|(refine aR rfl 41 _ rfl _ rfl _ _ _ _ nC doT rfl (by kernel_rfl) ?_))
    refine cD.mono ?_;rintro e w4 ⟨t',aC,lv,rfl,cj,r,b1,bj⟩
    obtain⟨y,c1,rfl⟩: ∃y:Tr,y.xs=w.heap.size::ys/\t'=y.ad L:=⟨⟨t'.ev,t'.sv,t'.av,w.heap.size::ys⟩,rfl,by
     have e:=r.xs;obtain⟨a1,a2,a3,a4⟩:=t';dsimp only[Tr.ad]at e⊢;rw[e,bT.o]⟩
    obtain⟨p5,c5,bx,_,_⟩:=b1.here.1;obtain⟨p6,c6,b0,_,_⟩:=bj.here;obtain⟨wE,hE,U,nE⟩:=nb w4 #[ag P.1.err,ag P.1.num,ag P.1.day,ag P.1.min,aC,lv] 43;have cd:aq w w4:=an.o.trans ⟨r.os,r.tape,r.output,r.size,fun q d=>r.blk q (ai.o q d) (aU d an.o.size)⟩;have bH:QR (∀q,q<w.heap.size->Gx m.heap.size y q):=fun q d=>r.gx q (aU d an.o.size) (ai.o q d);have cf:=aw cd U;have Z:wE.ownsRow m.heap.size 43 6 u7 j (anF H):=br ar.o fun b d=>(U.block b (aU (ar.o.lt b d).2 r.size)).trans (r.blk b (ao.o.1 b (aG.o b d)) (ar.o.lt b d).2);have be:=cj.below U;have aX:=aD (bt U ((r.blk _ ao.o.2 (aI aV.o)).trans aV.o))
    have c9:QR (∀b∈L,∃c,wE.heap[b]? =ah c 43):=fun b i=>by
     obtain⟨x,hx⟩:=bL.o b i;exact⟨x,bt U ((r.blk b (ao.o.1 b i) (aI hx)).trans hx)⟩
    have aS:QR (∀a∈H++[(P.1,aC,lv)],Rob (Fx m.heap.size (y.ad L)) (fun u=>rx B u a.2.1 a.1.who) wE/\Rob (Fx m.heap.size (y.ad L)) (fun u=>dH u a.2.2 a.1.list) wE):=fun a ha=>by
     rcases cg.1 ha with ha|ha
     ·exact⟨(r.rob (aO.o a ha).1).below U,(r.rob (aO.o a ha).2).below U⟩
     ·rw[da.1 ha];exact⟨b1.below U,bj.below U⟩
    have b8:=aD be
    have cz:m.heap.size<=wE.heap.size:=by
     obtain⟨_,_,_,_,_,_,_,t⟩:=be;exact Nat.le_of_lt (aI t.blk)
    have aF:=aD cf;have bW:(#[ag P.1.err,ag P.1.num,ag P.1.day,ag P.1.min,aC,lv]:Array Value).all (·.oneCell')=true:=(by rw[bx,b0];simp[Value.oneCell']);unfold anC;subst bx b0;go_wp2_with(at_builtin;refine iH rfl _ _ 30 43 rfl P9 QD rfl (by decide) (by decide) rfl Z rfl nE rfl bW (by omega) cz ?_)
    rintro v2 S a9 a6 ch g5 c7 rfl;obtain⟨L',ck,bY,cA,cw⟩:=b8.o.grown Z aG.o a6 a9 ch;have ce:aq w S/\S.heap[w.heap.size]? =ah #[af,af,af,af] 29:=⟨aF.o.grown a6 aF.o.size (fun k hk=>by have:=(Z.lt k hk).1;omega),(a6.block _ (aI aX.o) (fun e=>by have:=(Z.lt _ e.symm).1;omega)).trans aX.o⟩
    have bQ:QR (∃(L:List Nat) (J:List (An×Value×Value)),dy B m.heap.size P.2 (y.ad L) S/\(∀b,(Value.slice (some (ae g5 0)) (j+1) c7).ownBlock=some b->b∈L)/\(∀b∈L,∃c,S.heap[b]? =ah c 43)/\(aq w S/\S.heap[w.heap.size]? =ah #[af,af,af,af] 29)/\S.ownsRow m.heap.size 43 6 (.slice (some (ae g5 0)) (j+1) c7) (j+1) (anF J)/\J.length=j+1/\(∀a∈J,Rob (Fx m.heap.size (y.ad L)) (fun u=>rx B u a.2.1 a.1.who) S/\Rob (Fx m.heap.size (y.ad L)) (fun u=>dH u a.2.2 a.1.list) S)/\J.map (fun a=>a.1)=H.map (fun a=>a.1)++[P.1]):=by
     have bv: ∀b∈[g5],b∈L':=fun b i=>(by rw[da.1 i];exact bY g5 rfl);have bl: ∀{Φ:World->Prop},Rob (Fx m.heap.size (y.ad L)) Φ wE->Rob (Fx m.heap.size (y.ad [g5])) Φ S:=fun hR=>(cw _ hR).move (aE _) (fun _ _ _=>rfl) fun q _ d=>JG bv d;refine⟨[g5],H++[_],ck.sub bv,fun b i=>by rw[da];exact(aN i).symm,fun b i=> ?_,ce,?_,by rw[aQ,bM.o];rfl,fun a ha=>⟨bl (aS.o a ha).1,bl (aS.o a ha).2⟩,by rw[dW];rfl⟩
     ·rw[da.1 i];rcases a9.2 with⟨e,_⟩|⟨g',cap,bV,e,_,cm,_⟩
      ·cases e
      ·injection e with e1 _ _;injection e1 with e1;injection e1 with e1;subst e1;exact⟨bV,cm⟩
     ·unfold anF;rw[fC];exact a9
    go_wp2_with fail;go_roundw
    case rel=>
     obtain⟨L,J,q1,q2,q3,q4,q5,q6,q7,q8⟩:=bQ.o;exact⟨j+1,P.2,y,L,J,by go_num,by omega,⟨c1,bH.o⟩,q1,q2,q3,q4,q5,q6,by have:=bI.o;have:=b9.o;omega,q7,by rw[q8];exact HX.o⟩
    case measure=>simp[intOf];omega
   ·have bi: ¬(j:Int)<(n:Int):=(by omega);obtain rfl:n=j:=(by omega);rw[dj (by rw[ap.o];exact aE _)]at hX
    have HX:QR (playP dk0 l=(H.map (fun a=>a.1),E)):=by
     show _=_;rw[hX];simp[playP]
    obtain⟨bn,rv,cv,vv,kv,ss,aa,t⟩:=hd
    obtain⟨O,N,bu⟩: ∃p c,rv= .slice p E.rules.length c:=by
     obtain⟨us,D,z⟩:=t.rules.here;obtain⟨p,c,e⟩:=D.form;exact⟨p,c,by rw[e,<-z,ba]⟩
    obtain⟨pe,ke,cl⟩:=bK t.res;obtain⟨ps,ks,c0⟩:=bK t.svs;obtain⟨pa,ka,cc⟩:=bK t.aps;obtain⟨px,kx,c3⟩:=bK C;have z0:=cr 0 t.blk rfl;have z1:=cr (v:=A.ev) 1 t.blk rfl;have z2:=cr (v:=A.sv) 2 t.blk rfl;have z3:=cr (v:=A.av) 3 t.blk rfl;have z8:=cr 8 t.blk rfl;obtain⟨n0,h0⟩:=au E.rules.length;obtain⟨n1,D⟩:=au E.res.length;obtain⟨n2,z⟩:=au ss.length;obtain⟨n3,h3⟩:=au aa.length;obtain⟨rn,bs⟩:=au E.runs;have al:A.ev= .slice pe n1 ke:=(by rw[<-D];exact cl);have am:A.sv= .slice ps n2 ks:=(by rw[<-z];exact c0);have ak:A.av= .slice pa n3 ka:=(by rw[<-h3];exact cc);rw[bu,h0]at z0;rw[al]at z1;rw[am]at z2;rw[ak]at z3;rw[bs]at z8;subst c3;have aB:=b3
    have bP:QR (∀W:World,wr.heap.size<=W.heap.size->(∀q,q<wr.heap.size->q≠w.heap.size->q∉ys->W.heap[q]? =wr.heap[q]?)->po B W (playP dk0 l) (.slice O n0 N) (.slice pe n1 ke) (.slice ps n2 ks) (.slice pa n3 ka) (.slice px n kx) ss aa H):=fun W hs hW=>by
     have mv: ∀{Φ:World->Prop},Rob (Fx m.heap.size (A.ad L)) Φ wr->Φ W:=fun hR=>hR W hs fun q d G=>hW q G (fun e=>d.2 (eP _ (by rw[I,e];exact bp))) fun e=>d.2 (eP _ (by rw[I];exact bJ _ e));have a8:=fun q (d:q∈w.heap.size::ys)=>(t.nx q (eP _ (by rw[I];exact d))).2.2;have rk: ∀{B e s k:Nat} {u:Value} {xs:List Value},wr.ownsRow B e s u k xs->(∀q∈w.heap.size::ys,some q≠u.ownBlock)->W.ownsRow B e s u k xs:=fun hr hn=>br hr fun b i=>hW b (hr.lt b i).2 (fun e=>hn b (by rw[e];exact bp) i.symm) fun e=>hn b (bJ _ e) i.symm
     have bm:=rk C fun q d e=>by
      have D:=(C.lt _ e.symm).1;rcases bz.1 d with rfl|d
      ·omega
      ·obtain⟨_,_,_,_,z,_⟩:=ax.o q d;have:=aI z;omega
     rw[HX.o];refine⟨?_,?_,?_,t.sve,fun q d=>mv (t.svr q d),?_,t.ape,fun q d=>mv (t.apr q d),⟨bm.1.trans (by rw[a7]),?_⟩,rfl,fun a ha=>⟨mv (ac a ha).1,mv (ac a ha).2⟩⟩
     ·rw[<-h0,<-bu];exact mv t.rules
     ·rw[<-al];exact rk t.res fun q d=>(a8 q d).2.1
     ·rw[<-am];exact rk t.svs fun q d=>(a8 q d).2.2.1
     ·rw[<-ak];exact rk t.aps fun q d=>(a8 q d).2.2.2
     ·rw[a7];exact bm.2.imp id fun⟨g,c,cu,q1,q2,q3⟩=>⟨g,c,cu,q1,by omega,q3⟩
    have bR:QR ((playP dk0 l).2.runs=rn):=(by show _=_;rw[HX.o];exact bs);have b6:=aD V;have cF:=aI aB;go_upto_region 10 with fail;refine dh (fun M _ W=>(M 6=false->aq wr W)/\(M 6=true-> ∃R,aq wr R/\Below R.heap.size (R.setRow w.heap.size #[.slice O n0 N,.slice pe n1 ke,.slice ps n2 ks,.slice pa n3 ka]) W)) [kn 26 (ab m.heap.size 0),kn 27 (.agg #[.slice O n0 N,.slice pe n1 ke,.slice ps n2 ks,.slice pa n3 ka]),kn 28 (.slice px n kx),kn 29 (ab m.heap.size 7),kn 30 (ab m.heap.size 8),kn 31 (ag rn),nk,kn 3 (.slice px n kx),kn 4 (ag rn),kn 5 (ag 0)] (fun _=>⟨fun _=>(aH _ _).drew,(fun h=>by cases h)⟩) (fun _ _ _ _ i h=>⟨fun c=>(h.1 c).trans (i.mono (h.1 c).size),fun c=> ?_⟩) (by kernel_rfl) ?_ ?_
    ·obtain⟨R,D,z⟩:=h.2 c;exact⟨R,D,z.trans (i.mono (by have:=z.size;simpa using this))⟩
    ·rintro M φ W hJ hc F l' G hF;have HJ:=aD hJ;simp only[kn,nk,dV,aP,aT,Act.put,aA,aK,aJ]at G;subst G;simp only[di,Nat.reduceAdd]at hF;dsimp only[kn,nk,du,eG,dY,Act.put];and_intros;all_goals first|exact trivial|intro hw hn t K hK
     all_goals try (go_simp;with_reducible exact hK _ _ ⟨rfl,aH _ _⟩)
     ·have i:=HJ.o.1 (hn 6 _ rfl (by kernel_rfl));have z0:=aj i z0;have z1:=aj i z1;have z2:=aj i z2;have z3:=aj i z3;go_simp;exact hK _ _ ⟨rfl,aH _ _⟩
     ·have z8:W.cell? (ae m.heap.size 8)=some (ag rn):=by
       cases d:M 6 with
       |false=>exact((HJ.o.1 d).cell (bN z8)).trans z8
       |true=>
        obtain⟨R,D,z⟩:=HJ.o.2 d;have hz:=aj D z8;exact(en ((z.block _ (bN hz)).trans (aW R w.heap.size m.heap.size _ (by omega)))).trans hz
      go_simp;exact hK _ _ ⟨rfl,aH _ _⟩
     ·have i:=HJ.o.1 t;have nW:=bt i aB;show Oper.wp _ _ _ _ _ _;refine gQ (ops:= #[]) rfl (az rfl 29 _ _ rfl _ #[.slice O n0 N,.slice pe n1 ke,.slice ps n2 ks,.slice pa n3 ka] (by simp[Act.eval,hF]) (by simp[Act.eval,hF]) _ _ nW (by kernel_rfl) rfl (by simp[Value.oneCell']) ?_);exact⟨rfl,hK undef _ ⟨trivial,fun c=>by simp at c,fun _=>⟨W,i,aH _ _⟩⟩⟩
    ·rintro M φ W hM hJ;obtain⟨R,D,z⟩:=hJ.2 (hM 6 (by decide) rfl);simp only[kn,nk,d7,aP,aT,Act.put,aA,aK,aJ];have m0:=bt D aB;have m2:=aL _ _ _ #[.slice O n0 N,.slice pe n1 ke,.slice ps n2 ks,.slice pa n3 ka] _ _ m0;have bw:R.heap.size<=W.heap.size:=(by have:=z.size;simpa using this);have hW: ∀q,q<wr.heap.size->q≠w.heap.size->W.heap[q]? =wr.heap[q]? :=fun q G d=>(z.block q (aU G D.size)).trans ((aW R w.heap.size q _ d).trans (D.block q G));have bD:=aD ((z.block _ (aI m0)).trans m2);have bF:=aD ((below_setRow (aw b6.o D) (aE _) #[.slice O n0 N,.slice pe n1 ke,.slice ps n2 ks,.slice pa n3 ka]).trans (z.mono (Nat.le_of_lt (aI m0))));have bG:QR (Rob (fun k=>k∉ys) (fun u=>po B u (playP dk0 l) (.slice O n0 N) (.slice pe n1 ke) (.slice ps n2 ks) (.slice pa n3 ka) (.slice px n kx) ss aa H) W):=fun u hu ha=>bP.o u (bg D.size (bg bw hu)) fun q G d hy=>(ha q hy (aU G (bg D.size bw))).trans (hW q G d);go_wp2_with fail;exact Bd w.heap.size #[.slice O n0 N,.slice pe n1 ke,.slice ps n2 ks,.slice pa n3 ka] _ rn 0 rfl rfl rfl rfl rfl rfl bD.o ⟨bF.o,.inr ⟨by rw[ap.o];omega,_,_,_,_,_,_,_,_,by rw[bR.o];rfl,bG.o⟩⟩
theorem rA (a:List (Cm×Value×Value))(v:Value)(w:World)(h:jR w v a)(f:Tbs w.heap.size w)(b: ∀q∈a,GI q.1):Calls prog 9 #[v] w (L0 w.heap.size [] (a.map fun q=>q.1) w):=
 Ly _ [] a v w (aE _) h f b (fun q c u i ha=>by
  obtain⟨_,_,_,_,e⟩:=id h;obtain⟨j,g⟩:=List.getElem?_of_mem c;exact sy (e j q g).1.who fun k d=>ha k d d) (fun q c=>absurd c List.not_mem_nil)
end Go.Proofs.YtlkehieagdkgiaaGreatDoor
