/- Texts of the proof. -/
import Derived.Test.YtlkehieagdkgiaaGreatDoorPf32
set_option maxRecDepth 100000
set_option maxHeartbeats 8000000
namespace Go.Proofs.YtlkehieagdkgiaaGreatDoor
open Go.Proofs.Tryz Go.RowKit Lx Vx Mx Msk
section
section
variable {B gD:Nat} {d:Dk} {t:Tr}
theorem JY (n day days:Int)(w:World)(h:dC B gD d t w)(hT: ∀W,Below B w W->Tab W)(b8:B<=w.heap.size):Calls prog 32 #[ab gD 0,ag n,ag day,ag days] w (ru B gD (fH d n day days) t w):=by
 obtain⟨wA,hA,bA,nA⟩:=nb w #[ag 0,ag 0,ag 0,ag 0,af,af] 43;have ca:wA.heap.size=w.heap.size+1:=by rw[<-hA];simp
 have bP:=h.opened (aD _) ca bA;have x:=aF bP;have l:Rg (Kd gD t t w wA):=Kd.of bA;have H0:=aF h;obtain⟨bX,rv,cv,vv,kv,ss,aa,hm⟩:=bP;have cc:ss.length=d.svs.length:=by rw[<-hm.sve,aX]
 obtain⟨ps,cs,a3⟩:=dj hm.svs;obtain⟨ns,aw⟩:=au ss.length;rw[aw]at a3;have z2:wA.cell? (ae gD 2)=some (.slice ps ns cs):=(cr (v:=t.sv) 2 hm.blk rfl).trans (congrArg some a3);have J:Rg (d.svs.length=ns):=by show _=_;rw[<-cc,aw]
 have aJ:=aF aw;have b4:Rg (t.sv= .slice ps ns cs):=a3;have HM:=aF hm;have bw:=aF bX;have HT:=aF hT;have O:=nA;have aK:=qB n (ns:Int) wA;have am:=qB day 146097 wA;obtain⟨b1,aQ⟩:=au (isN n (ns:Int));obtain⟨b2,aS⟩:=au (isN day 146097);rw[aQ]at aK;rw[aS]at am;have C:=aF aQ;have ak:=aF aS;have bl:=aF b8;clear h hm bX cc a3 aw hT aQ aS nA ca b8;go_enter func32,ntmps32;go_wp2_with fail;refine aK.mono ?_;rintro e w1 ⟨rfl,c3⟩;subst c3;clear aK;cases b1 with
 |false=>
  have R:Rg (fH d n day days=(noA 6,d)):=(by show _=_;unfold fH;rw[J.o,aB C.o]);clear am hA z2 bA;have cR:=fp 6 w1;go_wp2_with fail;refine cR.mono ?_;rintro e w9 ⟨rfl,a⟩;have H:=bt a O;have r:=aF (fT (x.o.below a) (l.o.trans (Kd.of a)) (aD _) (anC (noA 6) (af) (af)));have S:=aF (aL _ _ _ (anC (noA 6) (af) (af)) _ _ H);clear cR a O;go_wp2_with(refine aA rfl 43 _ _ rfl _ _ rfl rfl _ _ H (by kernel_rfl) rfl (by simp[anC,noA,Value.oneCell']) ?_)
  refine aY (v:= .agg (anC (noA 6) (af) (af))) ?_ rfl ?_
  ·exact bc rfl _ _ w.heap.size _ _ _ _ rfl S.o anT rfl (by kernel_rfl)
  ·rw[R.o];exact⟨t,_,_,rfl,r.o.1,r.o.2,fu _ _,eO _ _⟩
 |true=>
  go_wp2_with fail;refine am.mono ?_;rintro e w2 ⟨rfl,c6⟩;subst c6;clear am;cases b2 with
  |false=>
   have R:Rg (fH d n day days=(noA 3,d)):=(by show _=_;unfold fH;rw[J.o,ax (by rw[C.o];simp),aB (.inl ak.o)]);clear hA z2 bA;have cR:=fp 3 w2;go_wp2_with fail;refine cR.mono ?_;rintro e w9 ⟨rfl,a⟩;have H:=bt a O;have r:=aF (fT (x.o.below a) (l.o.trans (Kd.of a)) (aD _) (anC (noA 3) (af) (af)));have S:=aF (aL _ _ _ (anC (noA 3) (af) (af)) _ _ H);clear cR a O;go_wp2_with(refine aA rfl 43 _ _ rfl _ _ rfl rfl _ _ H (by kernel_rfl) rfl (by simp[anC,noA,Value.oneCell']) ?_)
   refine aY (v:= .agg (anC (noA 3) (af) (af))) ?_ rfl ?_
   ·exact bc rfl _ _ w.heap.size _ _ _ _ rfl S.o anT rfl (by kernel_rfl)
   ·rw[R.o];exact⟨t,_,_,rfl,r.o.1,r.o.2,fu _ _,eO _ _⟩
  |true=>
   have c8:0<=day/\day<146097:=(by have:=ak.o;simpa[isN] using this);by_cases M:days<1
   ·have R:Rg (fH d n day days=(noA 3,d)):=(by show _=_;unfold fH;rw[J.o,ax (by rw[C.o];simp),aB (.inr (.inl M))]);clear hA z2 bA;have cR:=fp 3 w2;go_wp2_with fail;refine cR.mono ?_;rintro e w9 ⟨rfl,a⟩;have H:=bt a O;have r:=aF (fT (x.o.below a) (l.o.trans (Kd.of a)) (aD _) (anC (noA 3) (af) (af)));have S:=aF (aL _ _ _ (anC (noA 3) (af) (af)) _ _ H);clear cR a O;go_wp2_with(refine aA rfl 43 _ _ rfl _ _ rfl rfl _ _ H (by kernel_rfl) rfl (by simp[anC,noA,Value.oneCell']) ?_)
    refine aY (v:= .agg (anC (noA 3) (af) (af))) ?_ rfl ?_
    ·exact bc rfl _ _ w.heap.size _ _ _ _ rfl S.o anT rfl (by kernel_rfl)
    ·rw[R.o];exact⟨t,_,_,rfl,r.o.1,r.o.2,fu _ _,eO _ _⟩
   ·by_cases Y:30<days
    ·have R:Rg (fH d n day days=(noA 3,d)):=(by show _=_;unfold fH;rw[J.o,ax (by rw[C.o];simp),aB (.inr (.inr (.inl Y)))]);clear hA z2 bA;have cR:=fp 3 w2;go_wp2_with fail;refine cR.mono ?_;rintro e w9 ⟨rfl,a⟩;have H:=bt a O;have r:=aF (fT (x.o.below a) (l.o.trans (Kd.of a)) (aD _) (anC (noA 3) (af) (af)));have S:=aF (aL _ _ _ (anC (noA 3) (af) (af)) _ _ H);clear cR a O;go_wp2_with(refine aA rfl 43 _ _ rfl _ _ rfl rfl _ _ H (by kernel_rfl) rfl (by simp[anC,noA,Value.oneCell']) ?_)
     refine aY (v:= .agg (anC (noA 3) (af) (af))) ?_ rfl ?_
     ·exact bc rfl _ _ w.heap.size _ _ _ _ rfl S.o anT rfl (by kernel_rfl)
     ·rw[R.o];exact⟨t,_,_,rfl,r.o.1,r.o.2,fu _ _,eO _ _⟩
    ·have bk:IntKind.i64.wrap (day+days)=day+days:=(by rw[bx];omega);by_cases h3:146097<day+days
     ·have R:Rg (fH d n day days=(noA 3,d)):=(by show _=_;unfold fH;rw[J.o,ax (by rw[C.o];simp),aB (.inr (.inr (.inr h3)))]);clear hA z2 bA;have cR:=fp 3 w2;go_wp2_with fail;refine cR.mono ?_;rintro e w9 ⟨rfl,a⟩;have H:=bt a O;have r:=aF (fT (x.o.below a) (l.o.trans (Kd.of a)) (aD _) (anC (noA 3) (af) (af)));have S:=aF (aL _ _ _ (anC (noA 3) (af) (af)) _ _ H);clear cR a O;go_wp2_with(refine aA rfl 43 _ _ rfl _ _ rfl rfl _ _ H (by kernel_rfl) rfl (by simp[anC,noA,Value.oneCell']) ?_)
      refine aY (v:= .agg (anC (noA 3) (af) (af))) ?_ rfl ?_
      ·exact bc rfl _ _ w.heap.size _ _ _ _ rfl S.o anT rfl (by kernel_rfl)
      ·rw[R.o];exact⟨t,_,_,rfl,r.o.1,r.o.2,fu _ _,eO _ _⟩
     ·have hn:0<=n/\n<(ns:Int):=(by have:=C.o;simpa[isN] using this);obtain⟨k,rfl⟩: ∃k:Nat,n=(k:Int):=⟨n.toNat,by omega⟩
      have bW:k<ss.length:=(by rw[aJ.o];omega);have cG:(0:Int)<=(k:Int):=(by omega);have cH:(k:Int)<(ns:Int):=hn.2;obtain⟨⟨s,sv⟩,a2⟩: ∃q,ss[k]? =some q:=⟨ss[k],ay bW⟩
      have bi:d.svs[k]? =some s:=(by rw[<-HM.o.sve,bj,a2];rfl);have a1:=HM.o.svr _ (aN a2);obtain⟨pr,X,cb,_,_⟩:=a1.here;dsimp only at cb a1;subst cb;obtain⟨gs,cx,e1,_,bZ⟩:=kZ xp HM.o.svs rfl a2;have e0:Value.slice ps ns cs= .slice (some (ae gs 0)) ns cx:=(by rw[<-b4.o,<-aJ.o];exact e1);injection e0 with e2 e3 e4;subst e2 e4;obtain⟨m,rfl⟩: ∃m:Nat,days=(m:Int):=⟨days.toNat,by omega⟩
      obtain⟨wZ,A,hZ,nZ,hB,bB,nB⟩:=nbs w2 #[ag 0,ag 0,ag 0,af] (svC (s,.slice pr s.roles.length X)) 36;have bQ:=x.o.below bB;have ci:=bt bB O
      have I:Rg (fH d (k:Int) day (m:Int)=(if(fy s (gV s day m 0 d).1).err≠0 then(noA (fy s (gV s day m 0 d).1).err,(gV s day m 0 d).2) else(⟨0,0,(fy s (gV s day m 0 d).1).day+day,(fy s (gV s day m 0 d).1).min,(fy s (gV s day m 0 d).1).who,[]⟩,(gV s day m 0 d).2))):=by
       show _=_;have:d.svs.getD k sv0=s:=(by simp[List.getD,bi]);unfold fH
       rw[J.o,ax (by rw[C.o];simp),ax (fun h=>by
        rcases h with h|h|h|h
        ·rw[ak.o]at h;cases h
        ·omega
        ·omega
        ·omega)]
       simp only[cj,this]
      have b0:=aF (a1.below bB);have cl:=aF bQ;have br:=aF (l.o.trans (Kd.of bB));have HG:Rg (∀q,w.heap.size<=q->Gx gD t q):=fun q f=>(H0.o.fx (.inr f)).1;have ct:=aF (wm (bw.o.sv s (aN bi)));obtain⟨z,be⟩:=au d.res.length;have c0:z<=12:=(by rw[<-be];exact bw.o.rl);have bu:=aF be;have cL:w.heap.size<=A.heap.size:=br.o.size;have ce:w.heap.size<=w2.heap.size:=l.o.size;have c9:m<=30:=(by omega);have cC:day+(m:Int)<=146097:=(by omega);have a8:=aI ci;have a7:=aI nB;clear hA bA hn bW a2 bi a1 e1 e3 bQ be O bB C ak J aJ b4 HM x l;go_wp2_with(first|(refine wpList_load_mid rfl 36 _ rfl gs (k*4) rfl (svC (s,.slice pr s.roles.length X)).toList _ bZ svT rfl (by kernel_rfl) ?_)|(refine aA rfl 36 _ _ rfl _ _ rfl rfl _ _ nZ (by kernel_rfl) rfl (vN _ _ _ _) ?_;rw[hB]))
      clear z2 bZ hZ nZ hB bk M Y h3;go_loopw [10,11,51] (fun v _ q wr=> ∃(j:Nat) (dd:Dk) (L:List Nat) (T:List (List (Nat->Bool))) (vs:List Value),q=ag (j:Int)/\j<=m/\Cor d dd/\dC B gD dd ((t.add w.heap.size).ad L) wr/\(∀b,v.ownBlock=some b->b∈L)/\(∀b∈L,A.heap.size<=b)/\Kd gD t t A wr/\wr.ownsRow A.heap.size 46 1 v j vs/\T.length=j/\(∀(i:Nat) (y:List (Nat->Bool)) (u:Value),T[i]? =some y->vs[i]? =some u->y.length=z/\wr.ownsRow A.heap.size 55 23 u z (mkF y))/\gV s day m 0 d=(T++(gV s day (m-j) j dd).1,(gV s day (m-j) j dd).2)) (fun _ _ q _=>m-(intOf q).toNat);case atStart=>exact⟨0,d,[],[],[],rfl,by omega,Cor.refl d,cl.o,(fun b hb=>by cases hb),(fun b hb=>by cases hb),Kd.of (aH _ _),dl _ _ _ _,rfl,(fun i y u hi=>by simp at hi),rfl⟩
      case round=>
       obtain⟨j,dd,L,T,vs,rfl,hj,ao,hd,aP,an,U,G,av,ar,hX⟩:=hrel;have cE:(0:Int)<=(j:Int):=(by omega);have ap:dd.res=d.res:=(by obtain⟨_,_,rfl⟩:=ao;rfl);by_cases cz:j<m
       ·have bS:(j:Int)<(m:Int):=(by omega);rw[JV s day cz,ap,bu.o]at hX;have Z:=(U.blk _ (HG.o w2.heap.size (by omega)) a7).trans nB
        have bY:Rob (Fx gD ((t.add w.heap.size).ad L)) (fun u=>fG u (.slice pr s.roles.length X) s.roles) wr:=b0.o.move U.size (fun q f hl=>U.blk q f.1 hl) fun q hl f=>⟨f.1,fun hx=>by
         rcases bN.1 hx with hx|hx
         ·have:=an q hx;omega
         ·exact f.2 hx⟩
        have cF:=Es s pr X (day+(j:Int)) wr hd bY;rw[ap,bu.o]at cF;have cK:IntKind.i64.wrap (day+(j:Int))=day+(j:Int):=(by rw[bx];omega);obtain⟨y,bb⟩:=au ((fD s (day+(j:Int)) z 0 dd).1);obtain⟨de,aT⟩:=au ((fD s (day+(j:Int)) z 0 dd).2)
        have bo:Rg (Cor d de/\y.length=z):=by
         have:=oY s (day+(j:Int)) z 0 dd;rw[bb,aT]at this;exact⟨ao.trans this.1,this.2⟩
        rw[bb,aT]at cF hX
        have HX:Rg (gV s day m 0 d=((T++[y])++(gV s day (m-(j+1)) (j+1) de).1,(gV s day (m-(j+1)) (j+1) de).2)):=by
         show _=_;rw[hX,dD];rfl
        have aG:=aF G;have aC:=aF ar;have co:=aF aP;have cp:=aF an;have HK:=aF U;have V:=aF av;have cg:A.heap.size<=wr.heap.size:=U.size;clear hX bb aT G ar aP an U av ao ap hd bY;go_wp2_with(refine aR rfl 36 _ rfl _ rfl _ _ _ _ Z svT rfl (by kernel_rfl) ?_)
        refine cF.mono ?_;rintro e w3 ⟨gm,rfl,cy,bh,bL,F⟩;have a5:Kd gD t t wr w3:=⟨F.os,F.tape,F.output,F.size,F.blk,fun _ _ h=>h,rfl⟩
        obtain⟨wC,hC,bC,nC⟩:=nb w3 #[.slice (some (ae gm 0)) z z] 46;have ai: ∀{e s n:Nat} {u:Value} {xs:List Value},wr.ownsRow A.heap.size e s u n xs->wC.ownsRow A.heap.size e s u n xs:=fun hr=>bJ hr fun b f=>(bC.block b (aU (hr.lt b f).2 F.size)).trans (F.blk b (HG.o b (by have:=(hr.lt b f).1;omega)) (hr.lt b f).2);have ac:=ai aG.o;have bR:=bL.below bC;have D:=aF (HK.o.trans (a5.trans (Kd.of bC)))
        have bz:Rg (wC.ownsRow A.heap.size 55 23 (.slice (some (ae gm 0)) z z) z (mkF y)):=by
         have M:=bJ bh fun b f=>bC.block b (bh.lt b f).2;exact⟨M.1,M.2.imp id fun⟨g,c,cu,q1,q2,q3⟩=>⟨g,c,cu,q1,bg cg q2,q3⟩⟩
        have a9:Rg (∀(i:Nat) (y:List (Nat->Bool)) (u:Value),T[i]? =some y->vs[i]? =some u->y.length=z/\wC.ownsRow A.heap.size 55 23 u z (mkF y)):=fun i y u M Y=>⟨(aC.o i y u M Y).1,ai (aC.o i y u M Y).2⟩
        have bn:=aF bR;have c7:A.heap.size<=wC.heap.size:=D.o.size;clear cF Z F a5 bL bh ai bC bR HK aC cy;go_wp2_with(at_builtin;refine iO rfl _ _ 142 46 rfl Ob Px rfl (by decide) (by decide) rfl ac rfl nC rfl (by simp[Value.oneCell']) (by omega) c7 ?_)
        rintro v2 w4 bf E bK g4 c4 rfl;obtain⟨L',bM,bE,bF,_⟩:=bn.o.grown ac co.o E bf bK;have bT:Kd gD t t A w4:=⟨E.os.trans D.o.os,E.tape.trans D.o.tape,E.output.trans D.o.output,bg D.o.size E.size,fun q f hl=>(E.block q (aU hl D.o.size) (fun e=>by have:=(ac.lt q e.symm).1;omega)).trans (D.o.blk q f hl),fun _ _ h=>h,rfl⟩
        have N: ∀{u:Value} {n:Nat} {xs:List Value},wC.ownsRow A.heap.size 55 23 u n xs->w4.ownsRow A.heap.size 55 23 u n xs:=fun hr=>bJ hr fun b f=>E.block b (hr.lt b f).2 fun e=>pO hr ac (by decide) f e.symm
        have cq:Rg (∃(L:List Nat) (a4:List Value),dC B gD de ((t.add w.heap.size).ad L) w4/\(∀b,(Value.slice (some (ae g4 0)) (j+1) c4).ownBlock=some b->b∈L)/\(∀b∈L,A.heap.size<=b)/\Kd gD t t A w4/\w4.ownsRow A.heap.size 46 1 (.slice (some (ae g4 0)) (j+1) c4) (j+1) a4/\(∀(i:Nat) (K:List (Nat->Bool)) (u:Value),(T++[y])[i]? =some K->a4[i]? =some u->K.length=z/\w4.ownsRow A.heap.size 55 23 u z (mkF K))):=by
         refine⟨L',_,bM,bE,fun b hb=> ?_,bT,bf,fun i K u M Y=> ?_⟩
         ·rcases bF b hb with h|h
          ·exact cp.o b h
          ·have:=h.1;omega
         ·have c2:vs.length=j:=(by have:=aG.o.1;omega);by_cases e:i=j
          ·subst e;rw[df (by have:=V.o;omega),V.o,iN]at M;rw[df (by omega),c2,iN]at Y;have e1:y=K:=aM M;have e2:Value.slice (some (ae gm 0)) z z=u:=aM Y;subst e1 e2;exact⟨bo.o.2,N bz.o⟩
          ·have cD:i<j:=by
            have:=(aE.1 M).1;rw[aO,V.o]at this;simp at this;omega
           rw[dV (by have:=V.o;omega)]at M;rw[dV (by omega)]at Y;exact⟨(a9.o i K u M Y).1,N (a9.o i K u M Y).2⟩
        clear ac bf E bK nC hC bM bE bF bT N bn D bz a9 aG;go_wp2_with fail;go_roundw
        case rel=>
         obtain⟨L,a4,q1,q2,q3,q4,q5,q6⟩:=cq.o;exact⟨j+1,de,L,T++[y],a4,by go_num,by omega,bo.o.1,q1,q2,q3,q4,q5,by rw[aO,V.o];rfl,q6,HX.o⟩
        case measure=>simp[intOf];omega
       ·have bS: ¬(j:Int)<(m:Int):=(by omega);obtain rfl:m=j:=(by omega);rw[iN]at hX
        have bI:gV s day m 0 d=(T,dd):=by
         rw[hX];simp[gV]
        have bd:=br.o.trans U;have bV:=U.size;have Z:=(U.blk _ (HG.o w2.heap.size ce) a7).trans nB;have ck:=(U.blk _ (HG.o w.heap.size (aD _)) a8).trans ci;have a6:=((U.rob (t':=t) (b0.o.move (P':=Fx gD t) (aD _) (fun _ _ _=>rfl) fun q _ f=>⟨f.1,fun hx=>f.2 (bG _ hx)⟩))).here;have bD:vG wr u10 T:=JX (by rw[av];exact G) (by omega) (by omega) ar;have bH:=HT.o wr (Kd.below H0.o bd bl.o);have cM:=Jk s (.slice pr s.roles.length X) T u10 wr bH a6 bD;unfold svV Gy at cM;rw[bI]at I;obtain⟨fr,ba⟩:=au (fy s T);have cn:Rg (0<=fr.day/\fr.day<=30):=(by have:=JW s T;rw[ba]at this;exact this);rw[ba]at cM I;obtain⟨pw,cw,cd⟩:=dj G;subst cd;have cm:=aF hd.drop;have bs:=aF bd;clear hX bI U bd hd aP an G ar av ao ap a6 bD bH ba ct;go_wp2_with(refine aR rfl 36 _ rfl _ rfl _ _ _ _ Z svT rfl (by kernel_rfl) ?_)
        refine cM.mono ?_;rintro e w5 ⟨v5,rfl,a0,b5⟩;obtain⟨p5,c5,c1⟩:=dj a0;subst c1;obtain⟨nw,az⟩:=au fr.who.length;rw[az]at a0;obtain⟨wY,w6,hY,nY,h6,b6,n6⟩:=nbs w5 #[ag 0,ag 0,af] #[ag fr.day,ag fr.min,.slice p5 nw c5] 39;have aj:=bt b5 ck;have bU:=bs.o.trans (Kd.of b5);have bO:=cm.o.below b5;have bq:=aF bU;have bm:=aF bO;have al:=aF a0;have bv:=aF az;have cB:w.heap.size<w5.heap.size:=aI aj;have bk:w.heap.size<wr.heap.size:=aU a8 bV;have cI:wr.heap.size<=w5.heap.size:=b5.size;obtain⟨er,aV⟩:=au fr.err;rw[aV]at I;rw[az,aV];have Q:=aF b6;clear cM Z b5 ck bU bO a0 az aV b6 bs;by_cases h0:er=0
        ·subst h0;have R:Rg (fH d (k:Int) day (m:Int)=(⟨0,0,fr.day+day,fr.min,fr.who,[]⟩,dd)):=I.o.trans (by rw[ax (by simp)]);have cJ:IntKind.i64.wrap (fr.day+day)=fr.day+day:=(by have:=cn.o;rw[bx];omega);have y6:w6.cell? (ae w5.heap.size 0)=some (ag fr.day):=cr 0 n6 rfl;have x6:=bp _ _ 0 _ _ n6;obtain⟨w7,cf⟩:=au (w6.setCell ⟨w5.heap.size,0,none⟩ (ag (fr.day+day)));have n7:w7.heap[w5.heap.size]? =ah #[ag (fr.day+day),ag fr.min,.slice p5 nw c5] 39:=cf▸aZ w6 w5.heap.size 0 _ _ (ag (fr.day+day)) n6;have b7:aq w5 w7:=cf▸Q.o.setCell (p:=⟨w5.heap.size,0,none⟩) (aD _) (ag (fr.day+day));have ch:=bt b7 aj
         have b3:Rg (Rob (Fx gD t) (fun u=>rt B u (.slice p5 nw c5) fr.who) (w7.setRow w.heap.size (anC ⟨0,0,fr.day+day,fr.min,fr.who,[]⟩ (.slice p5 nw c5) (af)))):=by
          refine Rob.imp (Rob.move (P:=fun q=>wr.heap.size<=q) (Φ:=fun u=>u.ownsRow wr.heap.size 3 1 (.slice p5 nw c5) nw (dB fr.who)) (w:=w7) (fun u hu ha=>bJ al.o fun b hb=>(ha b (al.o.lt b hb).1 (aU (al.o.lt b hb).2 b7.size)).trans (b7.block b (al.o.lt b hb).2)) (by simp) (fun q f _=>aW _ _ _ _ (by omega)) fun q _ f=>H0.o.fx (.inr (by omega))) fun u hu=>⟨pP (by rw[bv.o];exact hu) (by
           rw[bv.o];rcases hu.2 with⟨_,e⟩|⟨_,_,_,_,_,_,_,e,_⟩
           ·omega
           ·unfold maxLen at e;omega),(fun p n k e=>by
           cases e;rcases hu.2 with⟨e,e2⟩|⟨_,_,_,e,_,_,e2,_⟩
           ·omega
           ·cases e;exact e2),fun b e=>bg (bg bl.o (Nat.le_of_lt bk)) (hu.lt b e).1⟩
         have r:=aF (fT (bm.o.below b7) (bq.o.trans (Kd.of b7)) (aD _) (anC ⟨0,0,fr.day+day,fr.min,fr.who,[]⟩ (.slice p5 nw c5) (af)));have S:=aF (aL _ _ _ (anC ⟨0,0,fr.day+day,fr.min,fr.who,[]⟩ (.slice p5 nw c5) (af)) _ _ ch);clear b7 aj n6 Q I;go_wp2_with(first|(refine aR rfl 39 _ rfl _ rfl _ _ _ _ n7 slT rfl (by kernel_rfl) ?_)|(refine aA rfl 39 _ _ rfl _ _ rfl rfl _ _ nY (by kernel_rfl) rfl (by simp[Value.oneCell']) ?_;rw[h6])|(refine aA rfl 43 _ _ rfl _ _ rfl rfl _ _ ch (by kernel_rfl) rfl (by simp[Value.oneCell']) ?_))
         refine aY (v:= .agg (anC ⟨0,0,fr.day+day,fr.min,fr.who,[]⟩ (.slice p5 nw c5) (af))) ?_ rfl ?_
         ·exact bc rfl _ _ w.heap.size _ _ _ _ rfl S.o anT rfl (by kernel_rfl)
         ·rw[R.o];exact⟨t,_,_,rfl,r.o.1,r.o.2,b3.o,eO _ _⟩
        ·have cA:(er !=0)=true:=(by simpa using h0);have R:Rg (fH d (k:Int) day (m:Int)=(noA er,dd)):=I.o.trans (by rw[aB h0]);have O:=bt Q.o aj;have x:=aF (bm.o.below Q.o);have l:=aF (bq.o.trans (Kd.of Q.o));clear h0 aj Q I n6;go_wp2_with(refine aA rfl 39 _ _ rfl _ _ rfl rfl _ _ nY (by kernel_rfl) rfl (by simp[Value.oneCell']) ?_;rw[h6])
         clear nY hY h6;have cR:=fp er w6;go_wp2_with fail;refine cR.mono ?_;rintro e w9 ⟨rfl,a⟩;have H:=bt a O;have r:=aF (fT (x.o.below a) (l.o.trans (Kd.of a)) (aD _) (anC (noA er) (af) (af)));have S:=aF (aL _ _ _ (anC (noA er) (af) (af)) _ _ H);clear cR a O;go_wp2_with(refine aA rfl 43 _ _ rfl _ _ rfl rfl _ _ H (by kernel_rfl) rfl (by simp[anC,noA,Value.oneCell']) ?_)
         refine aY (v:= .agg (anC (noA er) (af) (af))) ?_ rfl ?_
         ·exact bc rfl _ _ w.heap.size _ _ _ _ rfl S.o anT rfl (by kernel_rfl)
         ·rw[R.o];exact⟨t,_,_,rfl,r.o.1,r.o.2,fu _ _,eO _ _⟩
end
end
section
def doC (c:Cm)(a b:Value):Array Value:= #[ag c.kind,ag c.n,ag c.day,ag c.days,lg c.text,lg c.name,ag c.sv.len,ag c.sv.bef,ag c.sv.aft,a,ag c.sday,ag c.smin,b]
def doP (d:Dk)(c:Cm):An×Dk:=
 if c.kind=1 then mL d (iM c.text) else
 if c.kind=2 then ro d c.name else
 if c.kind=3 then rq d c.sv else
 if c.kind=4 then fH d c.n c.day c.days else
 if c.kind=5 then lJ d c.n c.sday c.smin c.swho else
 if c.kind=6 then ig d c.n (fun a d=>((fC a 2,0),d)) else
 if c.kind=7 then ig d c.n (fun a d=>((fC a 3,0),d)) else
 if c.kind=8 then ig d c.n (fun a d=>fd d c.n a c.sday c.smin c.swho) else
 if c.kind=9 then qq d c.days else(noA 1,d)
theorem doT:prog.underlying 41=some (.struct (prog.fieldsOf 41)):=by kernel_rfl
section
variable {B gD:Nat} {d:Dk} {t:Tr} {w w3 w4:World}
theorem Tr.back {d:Tr}{q:Nat}(h:d.xs=(t.add q).xs):d=(Tr.mk d.ev d.sv d.av t.xs).add q:=by
 obtain⟨a,b,c,x⟩:=d;dsimp only at h;subst h;rfl
theorem JZ {q:Nat}{p:An×Dk}{i lv:Value}{a:Tr}(l:aq w w3)(o:w.heap.size<=q)(m:dC B gD p.2 a w4)(f:Kd gD (t.add q) a w3 w4)(r:Rob (Fx gD a) (fun u=>rt B u i p.1.who) w4)(n:Rob (Fx gD a) (fun u=>dT u lv p.1.list) w4)(c:Array Value):
  ∃t0:Tr,dC B gD p.2 t0 (w4.setRow q c)/\Kd gD t t0 w (w4.setRow q c)/\Rob (Fx gD t0) (fun u=>rt B u i p.1.who) (w4.setRow q c)/\Rob (Fx gD t0) (fun u=>dT u lv p.1.list) (w4.setRow q c):=by
 have e:=Tr.back f.xs;obtain⟨t0,rfl⟩: ∃t0:Tr,a=t0.add q:=⟨_,e⟩
 have d:=Kd.opened l f;have g:=fT m d o c;have mv: ∀{Φ:World->Prop},Rob (Fx gD (t0.add q)) Φ w4->Rob (Fx gD t0) Φ (w4.setRow q c):=fun j=>j.move (by simp) (fun k b _=>aW _ _ _ _ fun e=>b.2 (by rw[e];exact bf)) fun k _ b=>⟨b.1,fun s=>b.2 (bG _ s)⟩
 exact⟨t0,g.1,g.2,mv r,mv n⟩
theorem Dh {c:Cm}{a b:Value}{g:Nat}(m:w.heap[g]? =ah (doC c a b) 41):w.cell? (ae g 0)=some (ag c.kind)/\w.cell? (ae g 1)=some (ag c.n)/\w.cell? (ae g 2)=some (ag c.day)/\w.cell? (ae g 3)=some (ag c.days)/\w.cell? (ae g 4)=some (.string ⟨c.text.toArray⟩)/\w.cell? (ae g 5)=some (.string ⟨c.name.toArray⟩)/\w.cell? (ae g 6)=some (ag c.sv.len)/\w.cell? (ae g 7)=some (ag c.sv.bef)/\w.cell? (ae g 8)=some (ag c.sv.aft)/\w.cell? (ae g 9)=some a/\w.cell? (ae g 10)=some (ag c.sday)/\w.cell? (ae g 11)=some (ag c.smin)/\w.cell? (ae g 12)=some b:=
 ⟨cr 0 m rfl,cr 1 m rfl,cr 2 m rfl,cr 3 m rfl,cr 4 m rfl,cr 5 m rfl,cr 6 m rfl,cr 7 m rfl,cr 8 m rfl,cr 9 m rfl,cr 10 m rfl,cr 11 m rfl,cr 12 m rfl⟩
theorem Oc (c:Cm)(F pw:Option Addr)(l M:Nat)(w:World)(h:dC B gD d t w)(hx:c.text.length<=9223372036854775807)(hT:Tbs B w)(z:B<=w.heap.size)(hg:d.given+1<=1000000)(J:GY w t.xs)(I:c.name.length<=9223372036854775807)(hr:fG w (.slice F c.sv.roles.length l) c.sv.roles)(aa: ¬(5<=c.kind/\c.kind<=8)):Calls prog 19 #[ab gD 0,.agg (doC c (.slice F c.sv.roles.length l) (.slice pw c.swho.length M))] w (ru B gD (doP d c) t w):=by
 obtain⟨w1,h1,b1,Q⟩:=nb w #[ab gD 0] 99;obtain⟨y,h2,b2,R⟩:=nb w1 (doC c (.slice F c.sv.roles.length l) (.slice pw c.swho.length M)) 41;obtain⟨w3,h3,b3,E⟩:=nb y #[ag 0,ag 0,ag 0,ag 0,af,af] 43;have j:=aw b1 b2;have b:=aw j b3;have a:=h.opened (q:=y.heap.size) j.size (by rw[<-h3];simp) b;have O:=bt b3 R;have N:=bt (aw b2 b3) Q;have z1:=cr 0 N rfl;obtain⟨y0,y1,y2,y3,y4,y5,y6,y7,y8,y9,ac,ad,ae⟩:=Dh O;have HB:=aF b;have HQ:=aF j.size
 have G:Rg (Gx gD (t.add y.heap.size) y.heap.size):=by
  obtain⟨_,_,_,_,_,_,_,hm⟩:=a;exact(hm.nx _ bf).2.2
 have r:=hT.below (b.mono z);have m:=bg z b.size;rcases(show c.kind=1\/c.kind=2\/c.kind=3\/c.kind=4\/c.kind=9\/(c.kind<1\/9<c.kind) by omega) with i|i|i|i|i|i
 case' inl=>
  have C:GY w3 (t.add y.heap.size).xs:=fun k i=>by
   rcases bo.1 i with rfl|i
   ·exact⟨_,_,_,E,by decide⟩
   ·obtain⟨c,T,f,hc,I⟩:=J k i;exact⟨c,T,f,bt b hc,I⟩
  have g:=JS c.text w3 a hx r m hg C;clear C;generalize p:mL d (iM c.text)=P at g
 case' inr.inl=>
  have g:=GP c.name w3 a I;generalize p:ro d c.name=P at g
 case' inr.inr.inl=>
  have g:=GZ c.sv F l w3 a (hr.below b);generalize p:rq d c.sv=P at g
 case' inr.inr.inr.inl=>
  have g:=JY c.n c.day c.days w3 a (fun W hW=>(r W hW).2.2) m;generalize p:fH d c.n c.day c.days=P at g
 case' inr.inr.inr.inr.inl=>
  have g:=LW c.days w3 a;generalize p:qq d c.days=P at g
 case' inr.inr.inr.inr.inr=>
  have g:=(show Calls prog 41 #[ag 1] w3 (ru B gD (noA 1,d) (t.add y.heap.size) w3) from(fp 1 w3).mono fun e w H=>⟨_,_,_,H.1,a.below H.2,Kd.of H.2,fu _ _,eO _ _⟩)
  generalize p:((noA 1,d):An×Dk)=P at g
 all_goals
  have HP:Rg (doP d c=P):=by
   show _=_;rw[<-p];unfold doP;repeat (first|rw[aB i]|rw[ax (by omega)])
  clear b1 b2 b3 j b a Q R p N O r m
  try rw[i]at y0
  try (have e1:(c.kind==1)=false:=by simp;omega
       have e2:(c.kind==2)=false:=by simp;omega
       have e3:(c.kind==3)=false:=by simp;omega
       have e4:(c.kind==4)=false:=by simp;omega
       have e5:(c.kind==5)=false:=by simp;omega
       have e6:(c.kind==6)=false:=by simp;omega
       have e7:(c.kind==7)=false:=by simp;omega
       have e8:(c.kind==8)=false:=by simp;omega
       have e9:(c.kind==9)=false:=by simp;omega)
  clear i
  go_enter func19,ntmps19
  go_wp2_with fail
  refine g.mono ?_
  rintro e w4 ⟨t',wv,lv,rfl,A,s,x,u⟩
  obtain⟨t0,U,V,X,Y⟩:=JZ HB.o HQ.o A s x u (anC P.1 wv lv)
  obtain⟨Z,K,rfl,_,_⟩:=x.here.1
  obtain⟨p6,L,rfl,_,_⟩:=u.here
  have S:=(s.blk _ G.o (aI E)).trans E
  have D:=aF (fk U (fk V (fk X Y)))
  have HR:=aF (aL _ _ _ (anC P.1 (.slice Z P.1.who.length K) (.slice p6 P.1.list.length L)) _ _ S)
  clear g A s x u U V X Y E
  go_wp2_with(refine aA rfl 43 _ _ rfl _ _ rfl rfl _ _ S (by kernel_rfl) rfl (by simp[anC,Value.oneCell']) ?_)
  refine aY (v:= .agg (anC P.1 (.slice Z P.1.who.length K) (.slice p6 P.1.list.length L))) ?_ rfl ?_
  ·exact bc rfl _ _ y.heap.size _ _ _ _ rfl HR.o anT rfl (by kernel_rfl)
  ·rw[HP.o]
   exact⟨t0,_,_,rfl,D.o.1,D.o.2.1,D.o.2.2.1,D.o.2.2.2⟩
end
end
def dk0:Dk:=⟨[],[],[],[],[],0,[],0⟩
def playP:Dk->List Cm->List An×Dk
 |d,[]=>([],d)
 |d,c::l=>((doP d c).1::(playP (doP d c).2 l).1,(playP (doP d c).2 l).2)
theorem G2 {l:List Cm}{j:Nat}{c:Cm}(d:Dk)(h:l[j]? =some c):playP d (l.drop j)=((doP d c).1::(playP (doP d c).2 (l.drop (j+1))).1,(playP (doP d c).2 (l.drop (j+1))).2):=by
 obtain⟨a,b⟩:=aE.1 h;rw[bK a,b];rfl
theorem qu: ∀(l:List Ap) (i:Nat) (d:Dk),Cor d (ff l i d).2
 |[],_,d=>Cor.refl d
 |a::l,i,d=>by
  unfold ff;split
  ·exact qu l (i+1) d
  ·exact(xw (fun x d=>tz d x a.day) a.who d).trans (qu l (i+1) _)
theorem xz (s:Sv)(day:Int): ∀(m i:Nat) (d:Dk),Cor d (gV s day m i d).2
 |0,_,d=>Cor.refl d
 |m+1,i,d=>by
  unfold gV;exact(oY s _ _ 0 d).1.trans (xz s day m (i+1) _)
theorem Cor.given {d a:Dk}(h:Cor d a):a.given=d.given:=by
 obtain⟨_,_,rfl⟩:=h;rfl
theorem pY (d:Dk)(n:Int)(f:Ap->Dk->(Ap×Int)×Dk)(b: ∀a d,Cor d (f a d).2):(ig d n f).2.given=d.given:=by
 unfold ig;dsimp only;repeat' split
 ·rfl
 ·exact(b _ d).given
 ·exact(b _ d).given
theorem J1 (d:Dk)(c:Cm):(doP d c).2.given<=d.given+1:=by
 have le: ∀{x:Int},x=d.given->x<=d.given+1:=fun h=>by omega
 unfold doP;split
 ·unfold mL;split
  ·exact le rfl
  ·exact Int.le_of_eq (qu _ 0 _).given
 ·split
  ·unfold ro;repeat' split
   all_goals exact le rfl
  ·split
   ·unfold rq;repeat' split
    all_goals exact le rfl
   ·split
    ·unfold fH;dsimp only;repeat' split
     all_goals first|exact le rfl|exact le (xz _ _ _ 0 d).given
    ·split
     ·unfold lJ;dsimp only;repeat' split
      all_goals first|exact le rfl|exact le (mD d _ _ _ _ _).given
     ·split
      ·exact le (pY d _ _ fun a d=>Cor.refl d)
      ·split
       ·exact le (pY d _ _ fun a d=>Cor.refl d)
       ·split
        ·exact le (pY d _ _ fun a d=>mD d _ a _ _ _)
        ·split
         ·unfold qq;split;all_goals exact le rfl
         ·exact le rfl
structure lL (w:World)(c:Cm)(rv wv:Value):Prop where
 roles:fG w rv c.sv.roles
 who:dT w wv c.swho
 text:c.text.length<=9223372036854775807
 name:c.name.length<=9223372036854775807
 cap: ∀p n k,wv= .slice p n k->n<=k
theorem lL.below {w w':World}{c:Cm}{b d:Value}(h:lL w c b d)(a:aq w w'):lL w' c b d:=⟨h.roles.below a,h.who.below a,h.text,h.name,h.cap⟩
def k6 (w:World)(v:Value)(a:List (Cm×Value×Value)):Prop:= ∃p k,v= .slice p a.length k/\a.length<9223372036854775808/\ ∀(j:Nat) (q:Cm×Value×Value),a[j]? =some q->lL w q.1 q.2.1 q.2.2/\ ∃g o:Nat,p=some ⟨g,o,none⟩/\w.rangeAt g (o+j*13) (doC q.1 q.2.1 q.2.2).toList
theorem k6.below {w w':World}{v:Value}{d:List (Cm×Value×Value)}(h:k6 w v d)(e:aq w w'):k6 w' v d:=by
 obtain⟨p,k,f,i,l⟩:=h;refine⟨p,k,f,i,fun j q m=> ?_⟩;obtain⟨a,g,o,b,c⟩:=l j q m;exact⟨a.below e,g,o,b,fZ c e⟩
theorem pB {w u:World}{v:Value}{b:List Int}(h:dT w v b)(l: ∀q,q<w.heap.size->u.heap[q]? =w.heap[q]?):dT u v b:=by
 obtain⟨p,c,d,f,i⟩:=h;refine⟨p,c,d,f,fun j x k=> ?_⟩;obtain⟨g,o,e,a⟩:=i j x k;exact⟨g,o,e,(eI (l g (cg a))).trans a⟩
def G3 (c:Cm):Prop:= ∀(B a:Nat) (d:Dk) (t:Tr) (w:World) (g e:Option Addr) (f b:Nat),dC B a d t w->Tbs B w->B<=w.heap.size->d.given+1<=1000000->GY w t.xs->lL w c (.slice g c.sv.roles.length f) (.slice e c.swho.length b)->Rob (fun q=>q<B) (fun u=>dT u (.slice e c.swho.length b) c.swho) w->Calls prog 19 #[ab a 0,.agg (doC c (.slice g c.sv.roles.length f) (.slice e c.swho.length b))] w (ru B a (doP d c) t w)
theorem J2 (c:Cm)(f: ¬(5<=c.kind/\c.kind<=8)):G3 c:=fun _ _ _ _ w k l i j h d b e g a _=>Oc c k l i j w h a.text d b e g a.name a.roles f
theorem zn:uH dk0:=⟨by decide,rfl,by decide,by decide,by decide,by decide,by decide,(fun x a=>by cases a),(fun x a=>by cases a),(fun x a=>by cases a)⟩
theorem Py {B b:Nat}{xs:List Nat}{w:World}(e:B<=b)(d: ∀q∈xs,q<w.heap.size/\B<=q/\q≠b)(h:w.heap[b]? =ah #[af,af,af,af,af,af,ag 0,af,ag 0] 73):dC B b dk0 ⟨af,af,af,xs⟩ w:=
 ⟨zn,af,af,af,af,[],[],h,e,fun u _ _=>⟨[],⟨.inl ⟨rfl,none,0,rfl⟩,by simp,fun p a=>by cases a⟩,rfl⟩,fun u _ _=>⟨[],⟨none,0,rfl,by simp,fun j u f=>by simp at f⟩,rfl⟩,eO _ _,fun u _ _=>⟨none,0,rfl,aD _,by unfold maxLen;omega,fun h=>absurd rfl h⟩,dl _ _ _ _,dl _ _ _ _,rfl,(fun p a=>by cases a),dl _ _ _ _,rfl,(fun p a=>by cases a),fun q c=>⟨(d q c).1,(d q c).2.1,(d q c).2.2,nofun,nofun,nofun⟩⟩
theorem sm {E:Nat->Int}: ∀(m i:Nat),(∀j,i<=j->j<i+m->E j=0)->g7 E m i=(0,0)
 |0,_,_=>rfl
 |m+1,i,h=>by
  simp only[g7];rw[ax (by simpa using h i (aD _) (by omega)),sm m (i+1) fun j a b=>h j (by omega) (by omega)]
theorem Et {a:List Cd}(h:mM a):jV a=(0,0):=by
 have c:g7 (fun i=>aloneE (a.getD i cd0) a.length) a.length 0=(0,0):=sm _ _ fun j _ d=>by
  have b:a[j]? =some (a[j]'(by omega)):=ay (by omega);rw[jn b];exact h.alone j _ b
 have e2:g7 (qg a) a.length 0=(0,0):=sm _ _ fun j _ d=>by
  have b:a[j]? =some (a[j]'(by omega)):=ay (by omega);unfold qg;rw[ax (by rw[h.cyc j (by omega)];simp),jn b,aB (mU.2 (h.fit j _ b))]
 have e:=h.len;unfold jV;rw[ax (by omega),c,ax (by simp),e2]
theorem Bq {n r:Nat}: ∀(l:List In) (k:Nat),(∀j x,l[j]? =some x->gj x (k+j) n r=0)->pR l k n r=0
 |[],_,_=>rfl
 |x::l,k,h=>by
  have a:=h 0 x rfl;rw[Nat.add_zero]at a;simp only[pR];rw[ax (by simpa using a)]
  exact Bq l (k+1) fun j y b=>by
   have:=h (j+1) y (by simpa using b);rw[show k+(j+1)=k+1+j by omega]at this;exact this
theorem rV {E:Nat->Nat->Bool}{ρ:Nat->Nat}(h: ∀i k,E i k=true->ρ k<ρ i): ∀(m i k:Nat),Vx.wars E m i k=true->ρ k<ρ i
 |0,i,k,c=>h i k c
 |m+1,i,k,c=>by
  simp only[Vx.wars,iG,br]at c;rcases c with c|⟨d,e⟩
  ·exact rV h m i k c
  ·have a:=rV h m i m d;have b:=rV h m m k e;omega
theorem Di {m:Nat->Int×Int}: ∀(k j:Nat),¬0<=kE m k j-> ∀i,j<=i->i<j+k->oy (m i)=false
 |0,_,_,i,b,c=>by omega
 |k+1,j,h,i,b,c=>by
  simp only[kE]at h;by_cases a:oy (m j)=true
  ·rw[aB a]at h;omega
  ·rw[ax a]at h;by_cases e:i=j
   ·subst e;simpa using a
   ·exact Di k (j+1) h i (by omega) (by omega)
theorem vP {l:List Ru}(h:(iE l).1=0):(dy l).1=0/\ ∀i,i<l.length->oy (gS l i)=false:=by
 unfold iE at h;by_cases a:(dy l).1≠0
 ·rw[aB a]at h;exact absurd h a
 ·rw[ax a]at h;refine⟨by simpa using a,?_⟩;by_cases b:0<=kE (gS l) l.length 0
  ·rw[aB b]at h;exact absurd h (by show¬(4:Int)=0;omega)
  ·intro i hi;exact Di _ _ b i (dL _) (by omega)
theorem xA (l:List Ru):(eW l).length=l.length:=by unfold eW;rw[uC,nJ]
theorem Al {l:List Ru}{i:Nat}(hi:i<l.length):(eW l)[i]? =some ⟨(gd l).getD i [],(gS l i).1,(gS l i).2⟩:=by
 unfold eW fj;rw[bj,List.getElem?_range (by rw[nJ];exact hi)];rfl
theorem tA {l:List Ru}(h:(dy l).1=0){i:Nat}(hi:i<l.length):mw ((gd l).getD i [])/\ ∀j x,((gd l).getD i [])[j]? =some x->gj x j ((gd l).getD i []).length l.length=0:=by
 have b:l[i]? =some l[i]:=ay hi;have a:=aN b;rw[ng b];exact Jy ((pN h).2 _ a).ok fun x c=>⟨(sN h a c).1,(sN h a c).2.1⟩
theorem J3 {l:List Ru}(h:(iE l).1=0):mM (eW l):=by
 obtain⟨d,v⟩:=vP h;have a:=xA l
 have at_: ∀{i:Nat} {c:Cd},(eW l)[i]? =some c->i<l.length/\c=⟨(gd l).getD i [],(gS l i).1,(gS l i).2⟩:=fun {i c} b=>by
  have hi:i<l.length:=(by rw[<-a];exact(aE.1 b).1);rw[Al hi]at b;exact⟨hi,(aM b).symm⟩
 have p: ∀i,i<l.length->mxH (eW l) ((gd l).getD i []) ((gd l).getD i []).length=(gS l i).1/\stS (eW l) ((gd l).getD i []) ((gd l).getD i []).length=(gS l i).2/\1<=(gS l i).1/\(gS l i).1<=100/\1<=(gS l i).2/\(gS l i).2<=20000:=fun i hi=>by
  have e:=vM d hi;have o:=v i hi;unfold oy at o;rw[Bool.or_eq_false_iff,decide_eq_false_iff_not,decide_eq_false_iff_not]at o;have w:(gS l i).1=min (mxH (eW l) ((gd l).getD i []) ((gd l).getD i []).length) 101:=congrArg Prod.fst e;have e2:(gS l i).2=min (stS (eW l) ((gd l).getD i []) ((gd l).getD i []).length) 20001:=congrArg Prod.snd e;have z:=C3 d hi;have y:=(tA d hi).1.fin;have A:=I0 (eW l) ((gd l).getD i []) ((gd l).getD i []).length;omega
 refine⟨by rw[a];exact(pN d).1,fun i c b=> ?_,fun i hi=> ?_,fun i c b=> ?_⟩
 ·obtain⟨hi,rfl⟩:=at_ b;have t:=xm d hi;have m:=p i hi;unfold aloneE;rw[ax (by intro q;exact q ⟨t.1,bg t.2 (by omega)⟩),ax (by intro q;exact q ⟨⟨m.2.2.1,m.2.2.2.1⟩,m.2.2.2.2⟩)];refine Bq _ _ fun j x f=> ?_;rw[bQ,a];exact(tA d hi).2 j x f
 ·cases hw:Vx.wars (gQ (eW l)) (eW l).length i i with
  |false=>rfl
  |true=>
   have:=rV (ρ:=muR l) (E:=gQ (eW l)) (fun i k r=>by
    unfold gQ at r;rw[List.any_eq_true]at r;obtain⟨x,b,g⟩:=r;rw[br,bz,bz]at g;by_cases hi:i<l.length
    ·have s:(eW l).getD i cd0=⟨(gd l).getD i [],(gS l i).1,(gS l i).2⟩:=jn (Al hi);rw[s]at b;obtain⟨j,u,f⟩:=List.mem_iff_getElem.1 b;have n:((gd l).getD i [])[j]? =some x:=(by rw[ay u];exact congrArg some f);have:=((sh d).lt i j x (by rw[nJ];exact hi) n g.1).2.2;rw[g.2,cj]at this;exact this
    ·have:(eW l).getD i cd0=cd0:=by
      have:(eW l)[i]? =none:=eU (by rw[a];omega);simp[List.getD,this]
     rw[this]at b;cases b) _ i i hw
   omega
 ·obtain⟨hi,rfl⟩:=at_ b;have m:=p i hi;exact⟨(tA d hi).1,m.1,m.2.1⟩
section
theorem Fg {wk:Int->Bool}{day:Int}{env:List UInt8->Nat->Bool}(c: ∀x (i:Nat),1440<=i->env x i=false): ∀(N:Nat) (e:Ex),SizeOf.sizeOf e<=N-> ∀(i:Nat),1440<=i->fK wk day env e i=false
 |0,e,b,_,_=>by cases e;simp at b
 |N+1,e,b,i,hi=>by
  have d: ∀j,(e.kids.map (fK wk day env)).getD j nev i=false:=fun j=>by
   cases hj:e.kids[j]? with
   |none=>simp[List.getD,hj,nev]
   |some k=>
    have f:=aN hj;have:=Fg (wk:=wk) (day:=day) c N k (by have:=ja f;omega) i hi;simpa[List.getD,bj,hj] using this
  have a:decide (i<1440)=false:=(by simp;omega);rw[jK];unfold mY;split
  ·exact a
  split
  ·simp[a]
  split
  ·split
   ·exact d 0
   ·rfl
  split
  ·split
   ·exact d 0
   ·rfl
  split
  ·simp[a]
  split
  ·simp[a]
  split
  ·simp[a]
  split
  ·unfold shf;simp[a]
  split
  ·exact c _ i hi
  ·rfl
theorem PA (e:Ex){i:Nat}(hi:1440<=i):mnE e i=false:=Fg (fun _ _ _=>rfl) _ e (aD _) i hi
theorem PB {f:Nat->Bool}(h: ∀i:Nat,1440<=i->f i=false):spM (rs f 1440)=f:=by
 funext i;unfold spM;by_cases hi:i<1440
 ·have:=(Ae f 1440).has i hi;simpa[hi] using this
 ·rw[h i (by omega)];have a:decide (i<1440)=false:=(by simp;omega);simp[a]
section
variable {wk:Int->Bool} {day:Int} {ev:Nat->M×Nat} {l:List In} {num:List UInt8->Int} {env:List UInt8->Nat->Bool} {x:In} {s:Vx.St}
theorem Q0 (a:x.op=1):dQ wk day ev x s=⟨s.k+1,s.S++[spM x.sp],s.n+1⟩:=by simp[dQ,a]
theorem Q1 (a:x.op=2):dQ wk day ev x s=⟨s.k+1,nQ unM s.S,s.n+1⟩:=by simp[dQ,a]
theorem Q2 (a:x.op=3):dQ wk day ev x s=⟨s.k+1,nQ dfM s.S,s.n+1⟩:=by simp[dQ,a]
theorem Q5 (a:x.op=4):dQ wk day ev x s=⟨s.k+1,nQ boM s.S,s.n+1⟩:=by simp[dQ,a]
theorem Q6 (b:x.op=5):dQ wk day ev x s=⟨s.k+1,zX (fun f=>shM f x.a) s.S,s.n+1⟩:=by simp[dQ,b]
theorem Q7 (b:x.op=8):dQ wk day ev x s=⟨s.k+1,s.S++[(ev x.a.toNat).1],s.n+1+(ev x.a.toNat).2⟩:=by simp[dQ,b]
theorem Qy (b:x.op=6\/x.op=7)(a:onD wk day x=true):dQ wk day ev x s=⟨s.k+1,s.S,s.n+1⟩:=by
 unfold dQ;rw[ax (by omega),ax (by omega),ax (by omega),ax (by omega),ax (by omega),ax (by omega),aB a]
theorem PC (b:x.op=6\/x.op=7)(a: ¬onD wk day x=true):dQ wk day ev x s=⟨x.to.toNat,s.S++[noM],s.n+1⟩:=by
 unfold dQ;rw[ax (by omega),ax (by omega),ax (by omega),ax (by omega),ax (by omega),ax (by omega),ax a]
theorem Br (i:Up wk day ev l){b a:Nat}{S:List M}{n:Nat}{v:M}(j:l[b]? =some x)(f:x.op=6\/x.op=7)(d:x.to=((b+1+a:Nat):Int))(g: ∃e,runV wk day ev l ⟨b+1,S,n+1⟩=runV wk day ev l ⟨b+1+a,S++[v],e⟩):
  ∃e,runV wk day ev l ⟨b,S,n⟩=runV wk day ev l ⟨b+(a+1),S++[if onD wk day x=true then v else nev],e⟩:=by
 rw[mf i (s:=⟨b,S,n⟩) j,show b+(a+1)=b+1+a by omega];by_cases c:onD wk day x=true
 ·rw[aB c,Qy f c];exact g
 ·rw[ax c,PC f c,d,cj];exact⟨n+1,rfl⟩
theorem Fh (j:Up wk day ev l): ∀(N:Nat) (e:Ex),SizeOf.sizeOf e<=N->OKE e->(∀x∈nms e,(ev (num x).toNat).1=env x)-> ∀(b:Nat) (S:List M) (n:Nat),kH l b (bU num e b)-> ∃o,runV wk day ev l ⟨b,S,n⟩=runV wk day ev l ⟨b+(bU num e b).length,S++[fK wk day env e],o⟩
 |0,e,v,_,_,_,_,_,_=>by cases e;simp at v
 |N+1,e,v,h,w,b,S,n,d=>by
  have p: ∀k∈e.kids,∀(b:Nat) (S:List M) (n:Nat),kH l b (bU num k b)-> ∃o,runV wk day ev l ⟨b,S,n⟩=runV wk day ev l ⟨b+(bU num k b).length,S++[fK wk day env k],o⟩:=fun k c=>Fh j N k (by have:=ja c;omega) (h.kid c) (fun x t=>w x (vI c t));cases hstd:stdE e with
  |true=>
   rw[oT hstd]at d⊢;rw[mf j (s:=⟨b,S,n⟩) d.one,C0 hstd,Q0 rfl];refine⟨n+1,?_⟩;rw[PB (fun i hi=>PA e hi)];rfl
  |false=>
   rcases ol h hstd with⟨q,k,c⟩|⟨q,k,c⟩|⟨q,k,c⟩|q|⟨q,k,m,c⟩
   ·have g:k∈e.kids:=(by rw[c];simp)
    have f:fK wk day env e=if wk e.a=true then fK wk day env k else nev:=by
     rw[jK,q,Jo,c];rfl
    rw[pK q (by rw[c];rfl)]at d⊢;have:=Br j (n:=n) d.one (.inl rfl) rfl (p k g (b+1) S (n+1) d.tail);rw[show onD wk day (⟨6,e.a,0,((b+1+(bU num k (b+1)).length:Nat):Int),[]⟩:In)=wk e.a from by unfold onD;rw[aB rfl]]at this;rw[f,bO];exact this
   ·have g:k∈e.kids:=(by rw[c];simp)
    have f:fK wk day env e=if(decide (e.a<=day)&&decide (day<=e.b))=true then fK wk day env k else nev:=by
     rw[jK,q,Jp,c];by_cases r:e.a<=day/\day<=e.b
     ·rw[aB r,aB (by simp[r])];rfl
     ·rw[ax r,ax (by rw[br,bz,bz];exact r)];rfl
    rw[oj q (by rw[c];rfl)]at d⊢;have:=Br j (n:=n) d.one (.inr rfl) rfl (p k g (b+1) S (n+1) d.tail);rw[show onD wk day (⟨7,e.a,e.b,((b+1+(bU num k (b+1)).length:Nat):Int),[]⟩:In)=(decide (e.a<=day)&&decide (day<=e.b)) from by unfold onD;rw[ax (by show¬(7:Int)=6;omega)]]at this;rw[f,bO];exact this
   ·have g:k∈e.kids:=(by rw[c];simp)
    have f:fK wk day env e=shM (fK wk day env k) e.a:=by
     rw[jK,q,Jt,c];rfl
    rw[ql hstd q c]at d⊢;obtain⟨o,z⟩:=p k g b S n d.left;rw[z,f,mf j (s:=⟨b+(bU num k b).length,S++[fK wk day env k],o⟩) d.right.one,Q6 rfl];refine⟨o+1,?_⟩;rw[aO,eB,<-Nat.add_assoc,zY]
   ·have f:fK wk day env e=env e.name:=(by rw[jK,q,E5]);rw[pJ q]at d⊢;rw[mf j (s:=⟨b,S,n⟩) d.one,f,Q7 rfl];refine⟨n+1+(ev (num e.name).toNat).2,?_⟩;dsimp only;rw[w _ (vJ q)];rfl
   ·have g:k∈e.kids:=(by rw[c];simp);have u:m∈e.kids:=(by rw[c];simp);rw[rR hstd q c]at d⊢;obtain⟨C,A⟩:=p k g b S n d.left.left;obtain⟨y,e2⟩:=p m u (b+(bU num k b).length) (S++[fK wk day env k]) C d.left.right;have t:=d.right.one;rw[aO,<-Nat.add_assoc]at t
    have B:b+(bU num k b++bU num m (b+(bU num k b).length)++[(⟨opK e.kind,0,0,0,[]⟩:In)]).length=b+(bU num k b).length+(bU num m (b+(bU num k b).length)).length+1:=by
     rw[aO,aO,eB];omega
    rw[A,e2,mf j (s:=⟨b+(bU num k b).length+(bU num m (b+(bU num k b).length)).length,S++[fK wk day env k]++[fK wk day env m],y⟩) t,B];refine⟨y+1,?_⟩;rw[dD,List.singleton_append];rcases q with q|q|q
    ·have f:fK wk day env e=unM (fK wk day env k) (fK wk day env m):=by
      rw[jK,q,Jq,c];rfl
     rw[f,Q1 (by show opK e.kind=2;rw[q];decide)];dsimp only;rw[mx]
    ·have f:fK wk day env e=dfM (fK wk day env k) (fK wk day env m):=by
      rw[jK,q,Jr,c];rfl
     rw[f,Q2 (by show opK e.kind=3;rw[q];decide)];dsimp only;rw[mx]
    ·have f:fK wk day env e=boM (fK wk day env k) (fK wk day env m):=by
      rw[jK,q,Js,c];rfl
     rw[f,Q5 (by show opK e.kind=4;rw[q];decide)];dsimp only;rw[mx]
end
theorem Fi {l:List Ru}(h:(dy l).1=0)(wk:Int->Bool)(day:Int): ∀(d i:Nat),i<l.length->muR l i<d->(evV wk day (eW l) d i).1=iJ l wk day i
 |0,_,_,p=>by omega
 |d+1,i,hi,p=>by
  have a:l[i]? =some l[i]:=ay hi;have m:=aN a;have c:(eW l).getD i cd0=⟨(gd l).getD i [],(gS l i).1,(gS l i).2⟩:=jn (Al hi);have k:Up wk day (evV wk day (eW l) d) ((gd l).getD i []):=Gc (tA h hi).2;have g:=((pN h).2 _ m).ok;have b:kH ((gd l).getD i []) 0 (bU (atP5 l) (l[i]).2 0):=fun j _=>(by rw[ng a,bQ])
  have f: ∀x∈nms (l[i]).2,(evV wk day (eW l) d (atP5 l x).toNat).1=iJ l wk day (atP5 l x).toNat:=fun x q=>by
   obtain⟨r,s,o⟩:=sN h m q;have e:(atP5 l x).toNat<l.length:=(by omega);have t:muR l (atP5 l x).toNat<muR l i:=sJ h hi (by rw[qS a];exact dI.2 ⟨_,o,rfl⟩);exact Fi h wk day d _ e (by omega)
  obtain⟨u,n⟩:=Fh (env:=fun x=>iJ l wk day (atP5 l x).toNat) k _ _ (aD _) g f 0 [] 0 b;rw[evV,c];dsimp only;rw[n,wP (by dsimp only;rw[bQ,ng a])];show fK wk day _ _=_;rw[oS h a]
theorem Od (day:Int):eZ day=wkB day:=rfl
end
end Go.Proofs.YtlkehieagdkgiaaGreatDoor
