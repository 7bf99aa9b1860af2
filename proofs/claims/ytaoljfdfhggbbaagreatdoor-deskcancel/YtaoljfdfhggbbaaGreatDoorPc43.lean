/- Texts of the proof. -/
import Derived.Test.YtaoljfdfhggbbaaGreatDoorPc42
set_option maxRecDepth 100000
set_option maxHeartbeats 8000000
namespace Go.Proofs.YtaoljfdfhggbbaaGreatDoor
open Go.Proofs.Tryz Go.RowKit Lx Vx Mx Msk
section
theorem PG:(prog.info? 45).map (fun i=>(i.zero,i.size,i.bytes))=some (some (.agg #[ag 0,ag 0,ag 0,ag 0,ag 0,ag 0,ag 0,ag 0,ag 0,ag 0,af]),11,104):=by kernel_rfl
theorem O7:prog.underlying 35=some (.slice 45):=by kernel_rfl
def uj (d:Dk)(a:Ap):Prop:=(0<=a.sv/\a.sv<d.svs.length)/\(0<=a.fr/\a.fr<=a.to/\a.to<=1440)/\(0<=a.left/\a.left<=10)/\(0<=a.bef/\a.bef<=1440/\0<=a.aft/\a.aft<=1440/\0<=a.len/\a.len<=1440)/\(0<=a.day/\a.day<146097)/\a.who.length<=4/\ ∀r∈a.who,0<=r/\r<d.res.length
theorem AA {d:Dk}{num:Int}{a:Ap}{day min:Int}{who:List Int}(l:tV d)(o:0<=a.sv/\a.sv<d.svs.length)(m:0<=a.left/\a.left<=10)(n:0<=a.bef/\a.bef<=1440/\0<=a.aft/\a.aft<=1440/\0<=a.len/\a.len<=1440)(h:(eY d num a day min who).1.2=0):uj d (eY d num a day min who).1.1:=by
 unfold eY at h⊢;dsimp only at h⊢;by_cases f:isN day 146097=false\/isN min 1440=false
 ·rw[aD f]at h;cases h
 rw[ax f]at h⊢;by_cases i:min-a.bef<0\/1440<min+a.len+a.aft
 ·rw[aD i]at h;cases h
 rw[ax i]at h⊢;by_cases b:j7 who (d.svs.getD a.sv.toNat sv0).roles≠0
 ·rw[aD b]at h;exact absurd h b
 rw[ax b]at h⊢;split at h
 ·cases h
 ·rename_i k;rw[ax k];obtain⟨s,c⟩: ∃s,d.svs[a.sv.toNat]? =some s:=⟨d.svs[a.sv.toNat]'(by omega),az _⟩
  have e:d.svs.getD a.sv.toNat sv0=s:=(by simp[List.getD,c]);rw[e]at b;have j:=Ee (l.sv s (aM c)) (dT b)
  have g:0<=day/\day<146097:=by
   have:isN day 146097=true:=by
    cases hq:isN day 146097 with
    |true=>rfl
    |false=>exact absurd (.inl hq) f
   simpa[isN] using this
  exact⟨o,⟨by show 0<=min-a.bef;omega,by show min-a.bef<=min+a.len+a.aft;omega,by show min+a.len+a.aft<=1440;omega⟩,m,n,g,j.2,j.1⟩
theorem Kx (a:List (Ap×Value))(p:Ap×Value):apF (a++[p])=apF a++(apC p).toList:=by simp[apF]
theorem DkM.addAp {B gD:Nat}{d:Dk}{t:Tr}{H F J kv:Value}{I:List (Sv×Value)}{y:List (Ap×Value)}{z K j W:World}{a:Ap}{v g:Value}(N:DkM B gD d t H F J kv I y z)(L:qJ z B 45 11 y.length t.av (apF y) (apC (a,v)) g K j)(M:Below j.heap.size (j.setCell ⟨gD,3,none⟩ g) W)(x:Rob (Fx gD t) (fun u=>dS u v a.who) z):
  DkM B gD {d with aps:=d.aps++[a]} {t with av:=g} H F J kv I (y++[(a,v)]) W/\Kd gD t {t with av:=g} z W:=by
 obtain⟨o,i,O,m⟩:=L;have c:=N.below o;have C:=Cg (t':={t with av:=g}) (k:=3) c (.inr (.inr rfl)) i O (.inr (.inr ⟨rfl,rfl⟩));have l:=(i.block gD (aH c.blk) fun e=>ir c.aps c.blk (by decide) e.symm).trans c.blk;have D: ∀b,g.ownBlock=some b->b≠gD:=fun b A e=>ir m l (by decide) (by rw[A,e]);have q:Below (j.setCell ⟨gD,3,none⟩ g).heap.size (j.setCell ⟨gD,3,none⟩ g) W:=M.mono (by simp);have r:=C.trans (Kd.of q);have f: ∀{e s n:Nat} {u:Value} {xs:List Value},(j.setCell ⟨gD,3,none⟩ g).ownsRow B e s u n xs->W.ownsRow B e s u n xs:=fun G=>br G fun b E=>q.block b (G.lt b E).2;refine⟨c.turn r (bt q (aY j gD 3 _ _ g l)) rfl rfl rfl (f (pY ⟨_,c.blk⟩ c.res c.aps (by decide) (by decide) i)) (f (pY ⟨_,c.blk⟩ c.svs c.aps (by decide) (by decide) i)) (f (br ?_ fun b E=>aO j ⟨gD,3,none⟩ b g (D b E))) c.sve (by simp[c.ape]) (fun p w=> .inl w) (fun p w=> ?_),(Kd.of o).trans r⟩
 ·rw[aP,Kx];exact m
 ·rcases bU.1 w with w|w
  ·exact .inl ⟨p.1,w,rfl⟩
  ·rw[bT.1 w];exact .inr (r.rob (x.below o))
structure ApJ (wX:World)(B gD:Nat)(c:Array Value)(v:Value)(na:Nat)(aa:List (Ap×Value))(M:Nat->Bool)(φ:Nat->Value)(W:World):Prop where
 bel:M 8=false->aq wX W
 one:M 7=true->M 8=false-> ∃g k,φ 62= .slice (some (ae g 0)) 1 k/\W.heap[g]? =ah c 45
 app:M 8=true->M 12=false-> ∃g k W0,φ 63= .slice (some (ae g 0)) (na+1) k/\qJ wX B 45 11 na v (apF aa) c (φ 63) W0 W
 sto:M 12=true-> ∃g k W0 W1,φ 63= .slice (some (ae g 0)) (na+1) k/\qJ wX B 45 11 na v (apF aa) c (φ 63) W0 W1/\Below W1.heap.size (W1.setCell ⟨gD,3,none⟩ (φ 63)) W
section
variable {B gD:Nat} {d:Dk} {t:Tr}
theorem Ky (n day min:Int)(who:List Int)(pw:Option Addr)(cw:Nat)(w:World)(h:dt B gD d t w)(hw:Rob (Fx gD t) (fun u=>dS u (.slice pw who.length cw) who) w)(b8:who.length<=cw):Calls prog 12 #[ab gD 0,ag n,.agg #[ag day,ag min,.slice pw who.length cw]] w (qI B gD (lJ d n day min who) t w):=by
 obtain⟨D,h1,b1,n1⟩:=nb w #[ag day,ag min,.slice pw who.length cw] 25;obtain⟨w2,h2,b2,n2⟩:=nb D #[ag 0,ag 0,ag 0,ag 0,af,af] 43;have s1:D.heap.size=w.heap.size+1:=by rw[<-h1];simp
 have s2:w2.heap.size=D.heap.size+1:=by rw[<-h2];simp
 have a2:=aw b1 b2;have ad:=h.opened (q:=D.heap.size) b1.size s2 a2;have m1:=bt b2 n1;have aN:=aF ad;have bk:PN (Kd gD t t w w2):=Kd.of a2;have H0:=aF h;have HW:=aF hw;have a8:=aF a2;have HG:PN (∀q,w.heap.size<=q->Gx gD t q):=fun q p=>(h.fx (.inr p)).1;obtain⟨i,rv,cv,vv,kv,ss,aa,I⟩:=ad;have bM:ss.length=d.svs.length:=by rw[<-I.sve,ba]
 have b6:aa.length=d.aps.length:=by rw[<-I.ape,ba]
 obtain⟨ps,cs,a7⟩:=df I.svs;obtain⟨pa,ca,aS⟩:=df I.aps;obtain⟨ns,a5⟩:=au ss.length;obtain⟨na,bb⟩:=au aa.length;rw[a5]at a7;rw[bb]at aS;have z2:w2.cell? (ae gD 2)=some (.slice ps ns cs):=(cr (v:=t.sv) 2 I.blk rfl).trans (congrArg some a7);have z3:w2.cell? (ae gD 3)=some (.slice pa na ca):=(cr (v:=t.av) 3 I.blk rfl).trans (congrArg some aS);have a0:PN (d.svs.length=ns):=by show _=_;rw[<-bM,a5]
 have ar:PN (d.aps.length=na):=by show _=_;rw[<-b6,bb]
 have bQ:PN (t.sv= .slice ps ns cs):=a7;have bp:=aF a5;have HM:=aF I;have bn:=aF i;have ce:na<=30:=by rw[<-ar.o];exact i.al
 have cN:=pX n (ns:Int) w2;obtain⟨c1,O⟩:=au (isN n (ns:Int));rw[O]at cN;have ao:=aF O;have cq:w.heap.size<D.heap.size:=by omega
 have ct:D.heap.size<w2.heap.size:=by omega
 clear h hw b1 b2 a2 I i bM b6 a7 aS a5 bb O n1 s1 s2;go_enter func12,ntmps12;go_wp2_with fail;refine cN.mono ?_;rintro e wa ⟨rfl,ch⟩;subst ch;clear cN;cases c1 with
 |false=>
  have HP:PN (lJ d n day min who=(noA 6,d)):=(by show _=_;unfold lJ;rw[a0.o,aD ao.o]);clear h1 h2 z2 z3 m1;have cR:=fb 6 wa;go_wp2_with fail;refine cR.mono ?_;rintro e w9 ⟨rfl,H⟩;have n9:=bt H n2;have V:=aF (fB (aN.o.below H) (bk.o.trans (Kd.of H)) (by omega) (anC (noA 6) (af) (af)));have HR:=aF (aL _ _ _ (anC (noA 6) (af) (af)) _ _ n9);clear cR H n2;go_wp2_with(refine ay rfl 43 _ _ rfl _ _ rfl rfl _ _ n9 (by kernel_rfl) rfl (by simp[anC,noA,Value.oneCell']) ?_)
  refine aW (v:= .agg (anC (noA 6) (af) (af))) ?_ rfl ?_
  ·exact bc rfl _ _ D.heap.size _ _ _ _ rfl HR.o anT rfl (by kernel_rfl)
  ·rw[HP.o];exact⟨t,_,_,rfl,V.o.1,V.o.2,ff _ _,et _ _⟩
 |true=>
  by_cases b0:30<=na
  ·have b5:(30:Int)<=(na:Int):=(by omega);have HP:PN (lJ d n day min who=(noA 5,d)):=(by show _=_;unfold lJ;rw[a0.o,ax (by rw[ao.o];simp),ar.o,aD b0]);clear h1 h2 z2 m1;have cR:=fb 5 wa;go_wp2_with fail;refine cR.mono ?_;rintro e w9 ⟨rfl,H⟩;have n9:=bt H n2;have V:=aF (fB (aN.o.below H) (bk.o.trans (Kd.of H)) (by omega) (anC (noA 5) (af) (af)));have HR:=aF (aL _ _ _ (anC (noA 5) (af) (af)) _ _ n9);clear cR H n2;go_wp2_with(refine ay rfl 43 _ _ rfl _ _ rfl rfl _ _ n9 (by kernel_rfl) rfl (by simp[anC,noA,Value.oneCell']) ?_)
   refine aW (v:= .agg (anC (noA 5) (af) (af))) ?_ rfl ?_
   ·exact bc rfl _ _ D.heap.size _ _ _ _ rfl HR.o anT rfl (by kernel_rfl)
   ·rw[HP.o];exact⟨t,_,_,rfl,V.o.1,V.o.2,ff _ _,et _ _⟩
  ·have b5: ¬(30:Int)<=(na:Int):=(by omega);have hn:0<=n/\n<(ns:Int):=(by have:=ao.o;simpa[isN] using this);obtain⟨k,rfl⟩: ∃k:Nat,n=(k:Int):=⟨n.toNat,by omega⟩
   have bE:k<ss.length:=(by rw[bp.o];omega);have cc:(0:Int)<=(k:Int):=(by omega);have cd:(k:Int)<(ns:Int):=hn.2;obtain⟨⟨s,sv⟩,a6⟩: ∃q,ss[k]? =some q:=⟨ss[k],az bE⟩
   have be:d.svs[k]? =some s:=(by rw[<-HM.o.sve,bg,a6];rfl);obtain⟨pr,bw,bL,_,_⟩:=(HM.o.svr _ (aM a6)).here;dsimp only at bL;subst bL;obtain⟨gs,bR,e1,_,bJ⟩:=jQ we HM.o.svs rfl a6;have e0:Value.slice ps ns cs= .slice (some (ae gs 0)) ns bR:=(by rw[<-bQ.o,<-bp.o];exact e1);injection e0 with e2 e3 e4;subst e2 e4;obtain⟨R,Y⟩: ∃q:Ap,q=⟨1,10,0,0,(k:Int),s.bef,s.aft,s.len,0,0,[]⟩:=⟨_,rfl⟩
   obtain⟨wY,T,hY,nY,h3,b3,n3⟩:=nbs wa #[ag 0,ag 0,ag 0,af] (svC (s,.slice pr s.roles.length bw)) 29;obtain⟨wZ,w4,hZ,nZ,h4,b4,n4⟩:=nbs T #[ag 0,ag 0,ag 0,ag 0,ag 0,ag 0,ag 0,ag 0,ag 0,ag 0,af] #[ag 1,ag 10,ag 0,ag 0,ag (k:Int),ag s.bef,ag s.aft,ag s.len,ag 0,ag 0,af] 45;have s4:w4.heap.size=T.heap.size+1:=(by rw[<-h4,<-hZ];simp);have bA:=(aN.o.below b3).opened (q:=T.heap.size) (aB _) s4 b4;have a3:=aw b3 b4;have q0:T.cell? (ae wa.heap.size 0)=some (ag s.len):=cr 0 n3 rfl;have q1:T.cell? (ae wa.heap.size 1)=some (ag s.bef):=cr 1 n3 rfl;have q2:T.cell? (ae wa.heap.size 2)=some (ag s.aft):=cr 2 n3 rfl;have m4:=bt a3 m1;have l4:=bt a3 n2;have aZ:=(vZ (bn.o.sv s (aM be))).meas
   have aC:0<=s.bef/\s.bef<=1440/\0<=s.aft/\s.aft<=1440/\0<=s.len/\s.len<=1440:=by
    unfold kI at aZ;have:=fE aZ;omega
   have an:0<=R.sv/\R.sv<d.svs.length:=(by rw[Y,a0.o];exact⟨cc,cd⟩);have Z:0<=R.bef/\R.bef<=1440/\0<=R.aft/\R.aft<=1440/\0<=R.len/\R.len<=1440:=(by rw[Y];exact aC);have co:wa.heap.size<T.heap.size:=aH n3;have G:=aF (aw a8.o a3)
   have bN:Rob (Fx gD ((t.add D.heap.size).add T.heap.size)) (fun u=>dS u (.slice pw who.length cw) who) w4:=HW.o.move G.o.size (fun q _ hl=>G.o.block q hl) fun q hl p=>⟨p.1,fun Q=>by
    rcases bv.1 Q with e|Q
    ·omega
    ·rcases bv.1 Q with e|Q
     ·omega
     ·exact p.2 Q⟩
   have cP:=yi (-1) R none pw 0 cw day min who w4 bA an Z bN b8;obtain⟨P,hP⟩:=au (eY d (-1) R day min who);rw[hP]at cP;unfold u9 at cP
   have a1:PN (lJ d (k:Int) day min who=if P.1.2≠0 then(noA P.1.2,P.2) else(iW P.2.aps.length,{P.2 with aps:=P.2.aps++[P.1.1]})):=by
    show _=_;have e:d.svs.getD k sv0=s:=(by simp[List.getD,be]);unfold lJ;rw[a0.o,ax (by rw[ao.o];simp),ar.o,ax b0];simp only[cj,e];rw[Y]at hP;rw[hP]
   have bi:PN (Cor d P.2):=(by have:=mi d (-1) R day min who;rw[hP]at this;exact this)
   have bh:PN (P.1.2=0->uj d P.1.1):=fun e=>by
    have:=AA (num:= -1) (a:=R) (day:=day) (min:=min) (who:=who) bn.o an (by rw[Y];exact⟨by show(0:Int)<=10;omega,gY _⟩) Z (by rw[hP];exact e);rw[hP]at this;exact this
   subst Y;obtain⟨nw,bI⟩:=au who.length;rw[bI]at cP m4⊢;have bP:=aF (Kd.of (gD:=gD) (t:=t) G.o);have cp:wa.heap.size<w4.heap.size:=(by omega);clear h1 h2 hn bE a6 be e1 e3 bA a3 aZ aC an Z bN hP b3 b4 m1 n2 s4 bI b8 G a8;go_wp2_with(first|(refine wpList_load_mid rfl 29 _ rfl gs (k*4) rfl (svC (s,.slice pr s.roles.length bw)).toList _ bJ svT rfl (by kernel_rfl) ?_)|(refine ay rfl 29 _ _ rfl _ _ rfl rfl _ _ nY (by kernel_rfl) rfl (uV _ _ _ _) ?_;rw[h3])|(refine ay rfl 45 _ _ rfl _ _ rfl rfl _ _ nZ (by kernel_rfl) rfl (by simp[Value.oneCell']) ?_;rw[h4])|(refine aR rfl 45 _ rfl _ rfl _ _ _ _ n4 apT rfl (by kernel_rfl) ?_)|(refine aR rfl 25 _ rfl _ rfl _ _ _ _ m4 slT rfl (by kernel_rfl) ?_))
   refine cP.mono ?_;rintro e w5 ⟨cz,rfl,bB,z,L⟩;obtain⟨p5,c5,cg,_,_⟩:=L.here;subst cg;have bx:=HG.o T.heap.size (by omega);have n5:=(z.blk _ bx (aH n4)).trans n4;have l5:=(z.blk _ (HG.o D.heap.size (by omega)) (aH l4)).trans l4;obtain⟨nx,cf⟩:=au P.1.1.who.length;rw[cf]at L⊢;obtain⟨cA,E⟩:=au (apC (P.1.1,.slice p5 nx c5));have a4:cA.all (·.oneCell')=true:=(by rw[<-E];exact iJ _ _ _ _);have m:cA.size=11:=(by rw[<-E];rfl);rw[E];obtain⟨U,r⟩:=au (w5.setRow T.heap.size cA);have n6:=aL _ _ _ cA _ _ n5;rw[r]at n6;have ak: ∀q,q≠T.heap.size->U.heap[q]? =w5.heap[q]? :=fun q p=>r▸aV _ _ _ _ p;have bK:U.heap.size=w5.heap.size:=(by rw[<-r];simp);have bC:dt B gD P.2 (t.add D.heap.size) U:=bB.closed (by omega) fun q _ p=>ak q p;have aG:Rob (Fx gD (t.add D.heap.size)) (fun u=>dS u (.slice p5 nx c5) P.1.1.who) U:=L.move (by omega) (fun q p _=>ak q fun e=>p.2 (by rw[e];exact bq)) fun q _ p=>⟨p.1,fun Q=>p.2 (bH _ Q)⟩
   have a9:Kd gD t t w4 w5:=⟨z.os,z.tape,z.output,z.size,z.blk,fun _ _ h=>h,rfl⟩
   have A:=aF ((bP.o.trans a9).closed (w':=U) (q:=T.heap.size) (by omega) (by rw[<-r];rfl) (by rw[<-r];rfl) (by rw[<-r];rfl) (by omega) fun q _ p=>ak q p);have l6:=(ak _ (by omega)).trans l5;have bj:=aF bC;have bo:=aF aG;have ck:w4.heap.size<=U.heap.size:=(by rw[bK];exact z.size);obtain⟨er,bD⟩:=au P.1.2;rw[bD]at a1 bh⊢;clear cP bB z a9 L bC aG ak bK l5 l4 bD n4 m4 hY hZ nY nZ h3 h4 q0 q1 q2 bJ n3 z2 z3 bx;by_cases h0:er=0
   ·subst h0;obtain⟨i,cx,cm,c0,cu,cy,aO,j⟩:=bj.o;obtain⟨pb,cb,ac⟩:=df j.aps;obtain⟨f,ah⟩: ∃q,aO.length=q:=⟨_,rfl⟩
    have ai:P.2.aps.length=f:=(by rw[<-j.ape,ba,ah])
    have bG:f=na:=by
     obtain⟨_,_,e⟩:=bi.o;rw[<-ai,e];exact ar.o
    have HP:PN (lJ d (k:Int) day min who=(iW f,{P.2 with aps:=P.2.aps++[P.1.1]})):=a1.o.trans (by rw[ax (by simp),ai]);rw[ah]at ac;have z3:U.cell? (ae gD 3)=some (.slice pb f cb):=(cr (v:=t.av) 3 j.blk rfl).trans (congrArg some ac);have J:U.ownsRow B 45 11 (.slice pb f cb) f (apF aO):=(by have:=j.aps;rw[ah]at this;rw[<-show t.av=_ from ac];exact this);have bY:=aH j.blk;have bV:B<=U.heap.size:=(by have:=j.lo;omega);have bO:PN (t.av= .slice pb f cb):=ac;have bm:=aF ah;have ci:f<30:=(by omega);clear ah ai bG ac a1;go_upto_region 10 with(refine ay rfl 45 _ _ rfl _ _ rfl rfl _ _ n5 (by rw[m];kernel_rfl) (by rw[m];rfl) a4 ?_;rw[r])
    clear n5 r;refine dh (ApJ U B gD cA (.slice pb f cb) f aO) [kn 55 (ab gD 0),kn 56 (ab gD 0),kn 57 (ab gD 0),kn 58 (ab gD 0),kn 59 (ab gD 3),kn 60 (.slice pb f cb),kn 61 (.agg cA),td 62,td 63,kn 64 (ab gD 0),kn 65 (ab gD 0),kn 66 (ab gD 3),nk] (fun _=>⟨fun _=>(aI _ _).drew,(fun h=>by cases h),(fun h=>by cases h),(fun h=>by cases h)⟩) (fun _ _ _ _ S h=>⟨fun c=>(h.bel c).trans (S.mono (h.bel c).size),fun c c'=> ?_,fun c c'=> ?_,fun c=> ?_⟩) (by kernel_rfl) ?_ ?_
    ·obtain⟨g,c1,e1,hg⟩:=h.one c c';exact⟨g,c1,e1,bt S hg⟩
    ·obtain⟨g,c1,W0,e1,hg⟩:=h.app c c';exact⟨g,c1,W0,e1,hg.below S⟩
    ·obtain⟨g,c1,W0,W1,e1,hg,O⟩:=h.sto c;exact⟨g,c1,W0,W1,e1,hg,O.trans (S.mono (by have:=O.size;simpa using this))⟩
    ·rintro M φ W hJ hc F l hl hF;have bs:M 8=true->M 7=true:=fun h=>hc 8 _ rfl h ⟨7,.data⟩ (by simp) rfl rfl;have bu:M 12=true->M 8=true:=fun h=>hc 12 _ rfl h ⟨8,.data⟩ (by simp) rfl rfl;have aq:=aF (eV bs bu);have HJ:=aF hJ;clear hc bs bu hJ;simp only[kn,td,nk,dW,aQ,aX,Act.put,aA,aK,aJ]at hl;subst hl;simp only[cZ,Nat.reduceAdd]at hF;dsimp only[kn,td,nk,dB,eN,eg,Act.put];and_intros;all_goals first|exact trivial|intro hw hn I K hK
     all_goals try (go_simp;with_reducible exact hK _ _ ⟨rfl,aI _ _⟩)
     ·have S:=HJ.o.bel (hn 8 _ rfl (by kernel_rfl));have y:=aj S z3;go_simp;exact hK _ _ ⟨rfl,aI _ _⟩
     ·have nW:=bt (HJ.o.bel (iX aq.o.1 (hn 7 _ rfl (by kernel_rfl)))) n6;show Oper.wp _ _ _ _ _ _;refine dU 45 _ rfl _ (by simp[Act.eval,hF]) _ _ _ _ nW apT rfl (by rw[m];kernel_rfl) ?_;exact hK _ _ ⟨rfl,aI _ _⟩
     ·have h8:=iX aq.o.1 I;have hD:=iX aq.o.2 h8;have S:=HJ.o.bel h8;have b7:=am W (.cells cA 45);rw[<-E]at hF b7;clear hw hn;unfold apC at hF;go_simp;refine hK _ _ ⟨trivial,fun _=>aw S b7,fun _ _=>⟨W.heap.size,1,dF,?_⟩,fun c _=>lZ h8 c (by decide),fun c=>lZ hD c (by decide)⟩;rw[<-E];exact aE _ _
     ·have h7:=hw ⟨7,.data⟩ (by simp) rfl rfl;have hD:=iX aq.o.2 I;have S:=HJ.o.bel I;obtain⟨g,c1,bS,hg⟩:=HJ.o.one h7 I;have bd:=br J fun b p=>S.block b (J.lt b p).2;show Oper.wp _ _ _ _ _ _;refine iQ (ops:= #[]) rfl (iB (c:=c1) rfl _ _ 35 45 rfl O7 PG rfl (by decide) (by decide) (by simp[Act.eval,hF]) bd (by simp[Act.eval,hF,bS]) hg m a4 (by omega) (bf bV S.size) ?_);rintro v' w' ho bZ bX ⟨g2,c2,rfl⟩;refine⟨rfl,hK _ _ ⟨trivial,fun c=>by simp at c,fun _ c=>by simp at c,fun _ _=>⟨g2,c2,W,dF,?_⟩,fun c=>lZ hD c (by decide)⟩⟩;rw[dF];exact⟨S,bZ,bX,ho⟩
     ·have h8:=hw ⟨8,.data⟩ (by simp) rfl rfl;obtain⟨g,c1,W0,N,hG⟩:=HJ.o.app h8 I;have X:=(hG.2.1.block gD (aT bY hG.1.size) fun e=>ir J j.blk (by decide) e.symm).trans (bt hG.1 j.blk);have y:=cr 3 X rfl;have x3:=bl _ _ 3 _ _ X;rw[N]at hF;clear hw hn X;go_simp;refine hK undef _ ⟨trivial,fun c=> ?_,fun _ c=> ?_,fun _ c=>by simp at c,fun _=>⟨g,c1,W0,W,N,hG,by rw[N];exact aI _ _⟩⟩
      ·rw[orZ (by decide),h8]at c;cases c
      ·rw[orZ (by decide),h8]at c;cases c
    ·rintro M φ W hM hJ;obtain⟨g,c1,W0,W1,N,hG,aU⟩:=hJ.sto (hM 12 (by decide) rfl);simp only[kn,td,nk,eh,aQ,aX,Act.put,aA,aK,aJ];rw[N]at hG aU;rw[N];obtain⟨aY,C⟩:=j.addAp (d:=P.2) (a:=P.1.1) (v:= .slice p5 nx c5) (by rw[bm.o,E];show qJ U B 45 11 f t.av _ _ _ _ _;rw[bO.o];exact hG) aU bo.o;have bW:uj d P.1.1:=bh.o trivial
     have ad:dt B gD {P.2 with aps:=P.2.aps++[P.1.1]} (({t with av:= .slice (some (ae g 0)) (f+1) c1}:Tr).add D.heap.size) W:=by
      refine⟨⟨i.flt,i.vl,i.kl,i.rl,i.sl,?_,i.gv,i.nm,i.sv,fun x Q=> ?_⟩,_,_,_,_,_,_,aY⟩
      ·show(P.2.aps++[P.1.1]).length<=30;rw[aP,<-j.ape,ba,bm.o];simp;omega
      ·rcases bU.1 Q with Q|Q
       ·exact i.ap x Q
       ·rw[bT.1 Q];obtain⟨_,_,e⟩:=bi.o;rw[e];exact bW
     have bF:Kd gD t {t with av:= .slice (some (ae g 0)) (f+1) c1} w W:=⟨C.os.trans A.o.os,C.tape.trans A.o.tape,C.output.trans A.o.output,bf A.o.size C.size,fun q p hl=>(C.blk q p (aT hl A.o.size)).trans (A.o.blk q p hl),fun q hl p=>C.gx q (aT hl A.o.size) p,rfl⟩
     have lW:=(C.blk D.heap.size (j.nx _ bq).2.2 (aH l6)).trans l6;have y3:W.cell? (ae gD 3)=some (.slice (some (ae g 0)) (f+1) c1):=cr 3 aY.blk rfl;have V:=aF (fB ad bF (by omega) (anC (iW f) (af) (af)));have HR:=aF (aL _ _ _ (anC (iW f) (af) (af)) _ _ lW);have cl:IntKind.i64.wrap ((f:Int)+1-1)=(f:Int):=(by rw[bz];omega);clear hM hJ hG aU aY C ad bF i j J E a4 m l6 n6 z3;go_wp2_with(refine ay rfl 43 _ _ rfl _ _ rfl rfl _ _ lW (by kernel_rfl) rfl (by simp[Value.oneCell']) ?_)
     refine aW (v:= .agg (anC (iW f) (af) (af))) ?_ rfl ?_
     ·exact bc rfl _ _ D.heap.size _ _ _ _ rfl HR.o anT rfl (by kernel_rfl)
     ·rw[HP.o];exact⟨_,_,_,rfl,V.o.1,V.o.2,ff _ _,et _ _⟩
   ·have cn:(er !=0)=true:=(by simpa using h0);have HP:PN (lJ d (k:Int) day min who=(noA er,P.2)):=a1.o.trans (by rw[aD h0]);clear h0;go_wp2_with(refine ay rfl 45 _ _ rfl _ _ rfl rfl _ _ n5 (by rw[m];kernel_rfl) (by rw[m];rfl) a4 ?_;rw[r])
    clear n5 r;have cR:=fb er U;go_wp2_with fail;refine cR.mono ?_;rintro e w9 ⟨rfl,H⟩;have n9:=bt H l6;have V:=aF (fB (bj.o.below H) (A.o.trans (Kd.of H)) (by omega) (anC (noA er) (af) (af)));have HR:=aF (aL _ _ _ (anC (noA er) (af) (af)) _ _ n9);clear cR H l6;go_wp2_with(refine ay rfl 43 _ _ rfl _ _ rfl rfl _ _ n9 (by kernel_rfl) rfl (by simp[anC,noA,Value.oneCell']) ?_)
    refine aW (v:= .agg (anC (noA er) (af) (af))) ?_ rfl ?_
    ·exact bc rfl _ _ D.heap.size _ _ _ _ rfl HR.o anT rfl (by kernel_rfl)
    ·rw[HP.o];exact⟨t,_,_,rfl,V.o.1,V.o.2,ff _ _,et _ _⟩
end
end
section
section
variable {B gD:Nat} {d:Dk} {t:Tr}
theorem sQ (n:Int)(F:Nat)(O:Array Value)(f:Ap->Dk->(Ap×Int)×Dk)(w:World)(h:dt B gD d t w)(eF: ∀L w,(callFunc F L).run prog w= .ok (.enter F L) w)
  (a0: ∀(a:Ap) (p:Option Addr) (c:Nat) (W:World),a∈d.aps->dt B gD d (t.add w.heap.size) W->aq w W->Rob (Fx gD (t.add w.heap.size)) (fun u=>dS u (.slice p a.who.length c) a.who) W->Calls prog F (#[.agg (apC (a,.slice p a.who.length c))]++O) W (u9 B gD (f a d) (t.add w.heap.size) W))
  (a3: ∀a∈d.aps,(f a d).1.2=0->uj d (f a d).1.1) (bg: ∀a,Cor d (f a d).2):Calls prog 13 #[ab gD 0,ag n,.func (.func F) #[] O] w (qI B gD (iy d n f) t w):=by
 obtain⟨w1,Q,b1,n1⟩:=nb w #[ag 0,ag 0,ag 0,ag 0,af,af] 43;have s1:w1.heap.size=w.heap.size+1:=by rw[<-Q];simp
 have a1:=h.opened (aB _) s1 b1;have X:=aF a1;have Y:PN (Kd gD t t w w1):=Kd.of b1;have aO:=aF b1;have HG:PN (∀q,w.heap.size<=q->Gx gD t q):=fun q hq=>(h.fx (.inr hq)).1;have aP:=aF a0;have aT:=aF a3;have aS:=aF bg;obtain⟨m,a2⟩:=a1;have aR:=aF a2;obtain⟨rv,cv,vv,kv,ss,aa,hm⟩:=a2;have aZ:aa.length=d.aps.length:=by rw[<-hm.ape,ba]
 obtain⟨pa,ca,ai⟩:=df hm.aps;obtain⟨s,a8⟩:=au d.aps.length;rw[aZ,a8]at ai;have z3:w1.cell? (ae gD 3)=some (.slice pa s ca):=(cr (v:=t.av) 3 hm.blk rfl).trans (congrArg some ai);have A:PN (t.av= .slice pa s ca):=ai;have C:=aF a8;have b0:w.heap.size<w1.heap.size:=by omega
 have cN:=pX n (s:Int) w1;obtain⟨c1,az⟩:=au (isN n (s:Int));rw[az]at cN;have U:=aF az;go_enter func13,ntmps13;go_wp2_with fail;refine cN.mono ?_;rintro e wa ⟨rfl,bu⟩;subst bu;cases c1 with
 |false=>
  have Z:PN (iy d n f=(noA 6,d)):=(by show _=_;unfold iy;rw[C.o,aD (.inl U.o)]);have cR:=fb 6 wa;go_wp2_with fail;refine cR.mono ?_;rintro e w9 ⟨rfl,E⟩;have T:=bt E n1;have D:=aF (fB (X.o.below E) (Y.o.trans (Kd.of E)) (by omega) (anC (noA 6) (af) (af)));have HR:=aF (aL _ _ _ (anC (noA 6) (af) (af)) _ _ T);go_wp2_with(refine ay rfl 43 _ _ rfl _ _ rfl rfl _ _ T (by kernel_rfl) rfl (by simp[anC,noA,Value.oneCell']) ?_)
  refine aW (v:= .agg (anC (noA 6) (af) (af))) ?_ rfl ?_
  ·exact bc rfl _ _ w.heap.size _ _ _ _ rfl HR.o anT rfl (by kernel_rfl)
  ·rw[Z.o];exact⟨t,_,_,rfl,D.o.1,D.o.2,ff _ _,et _ _⟩
 |true=>
  have hn:0<=n/\n<(s:Int):=(by have:=U.o;simpa[isN] using this);obtain⟨k,rfl⟩: ∃k:Nat,n=(k:Int):=⟨n.toNat,by omega⟩
  have bx:(0:Int)<=(k:Int):=(by omega);have bz:(k:Int)<(s:Int):=hn.2;have R:k<s:=(by omega);obtain⟨a,pw,cw,r,aV,ha,bs,_,aE,aG⟩:=DkM.ap aR.o (j:=k) (by rw[C.o];exact R);have e0:Value.slice pa s ca= .slice (some (ae r 0)) s aV:=(by rw[<-A.o,<-C.o];exact bs);injection e0 with e2 e3 e4;subst e2 e4;have zs:wa.cell? (ae r (k*11))=some (ag a.st):=aE 0 _ rfl;have a7:a∈d.aps:=aM ha;have bh:d.aps.getD k ap0=a:=(by simp[List.getD,ha]);have cB:=aP.o a pw cw wa a7 X.o aO.o aG;unfold u9 at cB;obtain⟨P,hP⟩:=au (f a d);rw[hP]at cB;obtain⟨st,aN⟩:=au a.st;rw[aN]at zs
  have am:PN (iy d (k:Int) f=if st=3 then(noA 6,d) else if P.1.2≠0 then(noA P.1.2,P.2) else(noA 0,{P.2 with aps:=P.2.aps.set k P.1.1})):=by
   show _=_;unfold iy;simp only[cj,bh,hP,aN,C.o,U.o];by_cases e:st=3
   ·simp[e]
   ·simp[e]
  have an:PN (Cor d P.2):=(by have:=aS.o a;rw[hP]at this;exact this);have ak:PN (P.1.2=0->uj d P.1.1):=(by have:=aT.o a a7;rw[hP]at this;exact this);by_cases h3:st=3
  ·have aY:(st==3)=true:=(by simpa using h3);have Z:PN (iy d (k:Int) f=(noA 6,d)):=am.o.trans (by rw[aD h3]);have cR:=fb 6 wa;go_wp2_with fail;refine cR.mono ?_;rintro e w9 ⟨rfl,E⟩;have T:=bt E n1;have D:=aF (fB (X.o.below E) (Y.o.trans (Kd.of E)) (by omega) (anC (noA 6) (af) (af)));have HR:=aF (aL _ _ _ (anC (noA 6) (af) (af)) _ _ T);go_wp2_with(refine ay rfl 43 _ _ rfl _ _ rfl rfl _ _ T (by kernel_rfl) rfl (by simp[anC,noA,Value.oneCell']) ?_)
   refine aW (v:= .agg (anC (noA 6) (af) (af))) ?_ rfl ?_
   ·exact bc rfl _ _ w.heap.size _ _ _ _ rfl HR.o anT rfl (by kernel_rfl)
   ·rw[Z.o];exact⟨t,_,_,rfl,D.o.1,D.o.2,ff _ _,et _ _⟩
  ·have aY:(st==3)=false:=(by simpa using h3);have V:=aF (am.o.trans (by rw[ax h3]));go_wp2_with(refine wpList_load_mid rfl 45 _ rfl r (k*11) rfl (apC (a,.slice pw a.who.length cw)).toList _ aE apT rfl (by kernel_rfl) ?_)
   refine cB.mono ?_;rintro e w5 ⟨b5,rfl,be,z,H⟩;obtain⟨p5,c5,bp,_,_⟩:=H.here;subst bp;obtain⟨nx,bm⟩:=au P.1.1.who.length;rw[bm]at H⊢;obtain⟨N,I⟩:=au (apC (P.1.1,.slice p5 nx c5));have ad:N.all (·.oneCell')=true:=(by rw[<-I];exact iJ _ _ _ _);have i:N.size=11:=(by rw[<-I];rfl);rw[I];obtain⟨wZ,w6,hZ,nZ,h6,b6,n6⟩:=nbs w5 #[ag 0,ag 0,ag 0,ag 0,ag 0,ag 0,ag 0,ag 0,ag 0,ag 0,af] N 45;have a4:Kd gD t t wa w5:=⟨z.os,z.tape,z.output,z.size,z.blk,fun _ _ h=>h,rfl⟩
   have l5:=(z.blk _ (HG.o w.heap.size (aB _)) (aH n1)).trans n1;have l6:=bt b6 l5;have ao:=aF (be.below b6);have ar:=aF (Y.o.trans (a4.trans (Kd.of b6)));have aU:=aF (H.below b6);obtain⟨er,bf⟩:=au P.1.2;rw[bf]at V ak⊢;by_cases h0:er=0
   ·subst h0;have Z:PN (iy d (k:Int) f=(noA 0,{P.2 with aps:=P.2.aps.set k P.1.1})):=V.o.trans (by rw[ax (by simp)]);obtain⟨m,b3,bv,b7,b2,b4,ac,G⟩:=ao.o;have aw:P.2.aps=d.aps:=(by obtain⟨_,_,e⟩:=an.o;rw[e]);have a9:ac.length=s:=(by rw[<-C.o,<-aw,<-G.ape,ba]);have bj:k<ac.length:=(by omega);have S:w6.ownsRow B 45 11 (.slice (some (ae r 0)) s ca) s (apF ac):=(by have:=G.aps;rw[a9]at this;rw[<-A.o];exact this);have z3:w6.cell? (ae gD 3)=some (.slice (some (ae r 0)) s ca):=(cr (v:=t.av) 3 G.blk rfl).trans (congrArg some A.o);have bi:w.heap.size≠r:=fun e=>(G.nx w.heap.size bq).2.2.2.2.2 (by show _=t.av.ownBlock;rw[A.o,e];rfl);go_upto_region 6 with(refine ay rfl 45 _ _ rfl _ _ rfl rfl _ _ nZ (by rw[i];kernel_rfl) (by rw[i];rfl) ad ?_;rw[h6])
    refine dh (fun M _ W=>(M 8=false->aq w6 W)/\(M 8=true-> ∃J,aq w6 J/\Below J.heap.size (J.setCells r (k*11) N.toList) W)) [kn 48 (ab gD 0),kn 49 (ab gD 0),kn 50 (ab gD 0),kn 51 (ab gD 3),kn 52 (.slice (some (ae r 0)) s ca),kn 53 (ag (k:Int)),kn 54 (.agg N),kn 55 (ab r (k*11)),nk] (fun _=>⟨fun _=>(aI _ _).drew,(fun h=>by cases h)⟩) (fun _ _ _ _ hb h=>⟨fun c=>(h.1 c).trans (hb.mono (h.1 c).size),fun c=> ?_⟩) (by kernel_rfl) ?_ ?_
    ·obtain⟨J,Q,h2⟩:=h.2 c;exact⟨J,Q,h2.trans (hb.mono (by have:=h2.size;rw[(eP _ _ _ _).2.2.2]at this;exact this))⟩
    ·rintro M φ W hJ hc F l hl hF;have HJ:=aF hJ;simp only[kn,nk,dW,aQ,aX,Act.put,aA,aK,aJ]at hl;subst hl;simp only[cZ,Nat.reduceAdd]at hF;dsimp only[kn,nk,dB,eN,eg,Act.put];and_intros;all_goals first|exact trivial|intro hw hn hm K hK
     all_goals try (go_simp;with_reducible exact hK _ _ ⟨rfl,aI _ _⟩)
     ·have hb:=HJ.o.1 (hn 8 _ rfl (by kernel_rfl));have y:=aj hb z3;go_simp;exact hK _ _ ⟨rfl,aI _ _⟩
     ·have nW:=bt (HJ.o.1 (hn 8 _ rfl (by kernel_rfl))) n6;show Oper.wp _ _ _ _ _ _;refine dU 45 _ rfl _ (by simp[Act.eval,hF]) _ _ _ _ nW apT rfl (by rw[i];kernel_rfl) ?_;exact hK _ _ ⟨rfl,aI _ _⟩
     ·have hb:=HJ.o.1 hm;have aC:=br S fun b hq=>hb.block b (S.lt b hq).2;have bo:W.there r (k*11) N.size:=(by rw[i];exact ub aC R rfl);show Oper.wp _ _ _ _ _ _;refine wp_store_mid 45 _ _ rfl r (k*11) N (by simp[Act.eval,hF]) (by simp[Act.eval,hF]) bo (by rw[i];kernel_rfl) ad ?_;exact hK undef _ ⟨trivial,fun c=>by simp at c,fun _=>⟨W,hb,aI _ _⟩⟩
    ·rintro M φ W hM hJ;obtain⟨J,Q,h2⟩:=hJ.2 (hM 8 (by decide) rfl);simp only[kn,nk,eh,aQ,aX,Act.put,aA,aK,aJ];have bl:=G.below Q;obtain⟨a6,a5⟩:=bl.setAp (j:=k) (g:=r) bj (by show t.av.ownBlock=_;rw[A.o];rfl) (P.1.1,.slice p5 nx c5) (.inr (aU.o.below Q));rw[I]at a6 a5;have bn:=(eP r N.toList (k*11) J).2.2.2;have ah:=h2.mono (jW bn);have bb:uj d P.1.1:=ak.o trivial
     have bd:dt B gD {P.2 with aps:=P.2.aps.set k P.1.1} (t.add w.heap.size) W:=by
      refine dt.below ⟨⟨m.flt,m.vl,m.kl,m.rl,m.sl,by simpa using m.al,m.gv,m.nm,m.sv,fun x hx=> ?_⟩,_,_,_,_,_,_,a6⟩ ah;rcases List.mem_or_eq_of_mem_set hx with hx|rfl
      ·exact m.ap x hx
      ·obtain⟨_,_,e⟩:=an.o;rw[e];exact bb
     have bk:Kd gD t t w W:=ar.o.trans (Kd.off (q:=w.heap.size) (((Kd.of Q).trans a5).trans (Kd.of ah)));have lW:=bt ah ((fz r _ _ J _ bi).trans (bt Q l6));have D:=aF (fB bd bk (aB _) #[ag 0,ag 0,ag 0,ag 0,af,af]);have HR:=aF (aL _ _ _ #[ag 0,ag 0,ag 0,ag 0,af,af] _ _ lW);go_wp2_with(refine ay rfl 43 _ _ rfl _ _ rfl rfl _ _ lW (by kernel_rfl) rfl (by simp[Value.oneCell']) ?_)
     refine aW (v:= .agg #[ag 0,ag 0,ag 0,ag 0,af,af]) ?_ rfl ?_
     ·exact bc rfl _ _ w.heap.size _ _ _ _ rfl HR.o anT rfl (by kernel_rfl)
     ·rw[Z.o];exact⟨_,_,_,rfl,D.o.1,D.o.2,ff _ _,et _ _⟩
   ·have bw:(er !=0)=true:=(by simpa using h0);have Z:PN (iy d (k:Int) f=(noA er,P.2)):=V.o.trans (by rw[aD h0]);go_wp2_with(refine ay rfl 45 _ _ rfl _ _ rfl rfl _ _ nZ (by rw[i];kernel_rfl) (by rw[i];rfl) ad ?_;rw[h6])
    have cR:=fb er w6;go_wp2_with fail;refine cR.mono ?_;rintro e w9 ⟨rfl,E⟩;have T:=bt E l6;have D:=aF (fB (ao.o.below E) (ar.o.trans (Kd.of E)) (by omega) (anC (noA er) (af) (af)));have HR:=aF (aL _ _ _ (anC (noA er) (af) (af)) _ _ T);go_wp2_with(refine ay rfl 43 _ _ rfl _ _ rfl rfl _ _ T (by kernel_rfl) rfl (by simp[anC,noA,Value.oneCell']) ?_)
    refine aW (v:= .agg (anC (noA er) (af) (af))) ?_ rfl ?_
    ·exact bc rfl _ _ w.heap.size _ _ _ _ rfl HR.o anT rfl (by kernel_rfl)
    ·rw[Z.o];exact⟨t,_,_,rfl,D.o.1,D.o.2,ff _ _,et _ _⟩
end
end
section
theorem IM {R:Ending->World->Prop}{a:Act}{w:World}(g:Nat)(c:Array Value)(er:Int)(j:c.size=11)(k:a.defers=[])(e:a.tmps.getD 4 undef=ab g 0)(f:a.tmps.getD 5 undef=ag er)
  (l:w.heap[g]? =ah c 45) (i:R (.returned (.tuple #[.agg c,ag er])) w):bodyPost prog f17 R .ret a w:=by
 refine aW (v:= .tuple #[.agg c,ag er]) ?_ k i;have n:f17.results= #[ResultVar.cell 4 45,ResultVar.tmp 5]:=rfl;have b:a.tmps[4]?.getD undef=ab g 0:=by simpa using e
 have d:a.tmps[5]?.getD undef=ag er:=by simpa using f
 have m:=dX (P:=prog) w g 45 45 _ _ _ l apT rfl (by rw[j];kernel_rfl);simp[results,b,d,asAddr,m]
section
variable {B gD:Nat} {d:Dk} {t:Tr}
theorem AB (h:tV d){a:Ap}(ha:a∈d.aps)(s:Int):uj d (eB a s):=by
 obtain⟨b,c,f,e⟩:=h.ap a ha;exact⟨b,c,⟨gY _,by show(0:Int)<=10;omega⟩,e⟩
theorem Kz {X y:Nat}(c:Cm)(a:Ap)(p J:Option Addr)(k x:Nat)(rv:Value)(w:World)(h:dt B gD d t w)(n1:w.heap[X]? =ah #[ab gD 0] 55)(n2:w.heap[y]? =ah (doC c rv (.slice J c.swho.length x)) 31)(ha:uj d a)(hw:Rob (Fx gD t) (fun u=>dS u (.slice J c.swho.length x) c.swho) w)(C:c.swho.length<=x):
  Calls prog 17 #[.agg (apC (a,.slice p a.who.length k)),ab X 0,ab y 0] w (u9 B gD (eY d c.n a c.sday c.smin c.swho) t w):=by
 obtain⟨m,hA,z,nA⟩:=nb w (apC (a,.slice p a.who.length k)) 45;obtain⟨r,hB,Q,U⟩:=nb m #[ag 0,ag 0,ag 0,ag 0,ag 0,ag 0,ag 0,ag 0,ag 0,ag 0,af] 45;have sB:r.heap.size=m.heap.size+1:=by rw[<-hB];simp
 have b:=aw z Q;have E:=h.opened (q:=m.heap.size) z.size sB b;have m1:=bt b n1;have I:=bt b n2;have mA:=bt Q nA;have z1:=cr 0 m1 rfl;have y1:r.cell? (ae y 1)=some (ag c.n):=cr 1 I rfl;have ad:r.cell? (ae y 10)=some (ag c.sday):=cr 10 I rfl;have ai:r.cell? (ae y 11)=some (ag c.smin):=cr 11 I rfl;have V:r.cell? (ae y 12)=some (.slice J c.swho.length x):=cr 12 I rfl
 have G:Rob (Fx gD (t.add m.heap.size)) (fun u=>dS u (.slice J c.swho.length x) c.swho) r:=hw.move b.size (fun q _ Z=>b.block q Z) fun q Z l=>⟨l.1,fun H=>by
  rcases bv.1 H with e|H
  ·have:=z.size;omega
  ·exact l.2 H⟩
 have A:=yi c.n a p J k x c.sday c.smin c.swho r E ha.1 ha.2.2.2.1 G C;obtain⟨P,Y⟩:=au (eY d c.n a c.sday c.smin c.swho);rw[Y]at A⊢;unfold u9 at A;have H0:=aF h;have N:PN (Kd gD t t w r):=Kd.of b;have aa:w.heap.size<m.heap.size:=by rw[<-hA];simp
 have M:PN (Gx gD t m.heap.size):=(h.fx (.inr z.size)).1;obtain⟨nw,F⟩:=au c.swho.length;rw[F]at A V;clear h z Q b sB E n1 n2 nA m1 I G Y hw F C;go_enter func17,ntmps17;go_wp2_with(refine aR rfl 45 _ rfl _ rfl _ _ _ _ mA apT rfl (by kernel_rfl) ?_)
 refine A.mono ?_;rintro e K ⟨ac,rfl,D,f,g⟩;obtain⟨p5,W,T,_,_⟩:=g.here;subst T;have n5:=(f.blk _ M.o (aH U)).trans U;obtain⟨nx,S⟩:=au P.1.1.who.length;rw[S]at g⊢;obtain⟨v,j⟩:=au (apC (P.1.1,.slice p5 nx W));have R:v.all (·.oneCell')=true:=by rw[<-j];exact iJ _ _ _ _
 have i:v.size=11:=by rw[<-j];rfl
 rw[j];have s:Kd gD t t r K:=⟨f.os,f.tape,f.output,f.size,f.blk,fun _ _ h=>h,rfl⟩
 have O:=aF (eV (D.closed (w':=K.setRow m.heap.size v) (by simp) fun q _ l=>aV _ _ _ _ l) (eV ((N.o.trans s).closed (w':=K.setRow m.heap.size v) (q:=m.heap.size) (by omega) rfl rfl rfl (by simp) fun q _ l=>aV _ _ _ _ l) (g.move (w':=K.setRow m.heap.size v) (P':=Fx gD t) (by simp) (fun q l _=>aV _ _ _ _ fun e=>l.2 (by rw[e];exact bq)) fun q _ l=>⟨l.1,fun H=>l.2 (bH _ H)⟩)));have HR:=aF (aL _ _ _ v _ _ n5);have L:=aF j;clear A D f s g j U;go_wp2_with(refine ay rfl 45 _ _ rfl _ _ rfl rfl _ _ n5 (by rw[i];kernel_rfl) (by rw[i];rfl) R ?_)
 refine IM m.heap.size v P.1.2 i rfl rfl rfl HR.o ?_;exact⟨.slice p5 nx W,by rw[L.o],O.o.1,O.o.2.1,O.o.2.2⟩
theorem KA (c:Cm)(pr C:Option Addr)(E l:Nat)(w:World)(h:dt B gD d t w)(H:c.swho.length<=l)(L:Rob (fun q=>q<B) (fun u=>dS u (.slice C c.swho.length l) c.swho) w)(aa:5<=c.kind/\c.kind<=8):Calls prog 7 #[ab gD 0,.agg (doC c (.slice pr c.sv.roles.length E) (.slice C c.swho.length l))] w (qI B gD (doP d c) t w):=by
 obtain⟨w1,h1,b1,X⟩:=nb w #[ab gD 0] 55;obtain⟨D,h2,b2,Y⟩:=nb w1 (doC c (.slice pr c.sv.roles.length E) (.slice C c.swho.length l)) 31;obtain⟨M,h3,b3,T⟩:=nb D #[ag 0,ag 0,ag 0,ag 0,af,af] 43;have f:=aw b1 b2;have g:=aw f b3;have b:=h.opened (q:=D.heap.size) f.size (by rw[<-h3];simp) g;have S:=bt b3 Y;have R:=bt (aw b2 b3) X;have z1:=cr 0 R rfl;obtain⟨y0,y1,y2,y3,y4,y5,y6,y7,y8,y9,ac,ad,ae⟩:=Cp S;have HB:=aF g;have HQ:=aF f.size
 have Q:PN (Gx gD (t.add D.heap.size) D.heap.size):=by
  obtain⟨_,_,_,_,_,_,_,hm⟩:=b;exact(hm.nx _ bq).2.2
 have s:Rob (Fx gD (t.add D.heap.size)) (fun u=>dS u (.slice C c.swho.length l) c.swho) M:=L.move g.size (fun q _ J=>g.block q J) fun q J K=>⟨(h.fx (.inl K)).1,fun y=>by
  rcases bv.1 y with e|y
  ·have:=f.size;omega
  ·exact(h.fx (.inl K)).2 y⟩
 rcases(show c.kind=5\/c.kind=6\/c.kind=7\/c.kind=8 by omega) with A|A|A|A
 case' inl=>
  have i:=Ky c.n c.sday c.smin c.swho C l M b s H;generalize F:lJ d c.n c.sday c.smin c.swho=P at i
 case' inr.inl=>
  have i:=sQ c.n 14 #[] (fun a d=>((eB a 2,0),d)) M b (fun _ _=>rfl) (fun a p c W ha G z O=>(Dh a p c W).mono fun e w' j=>⟨_,j.1,G.below j.2,Kd.of j.2,O.below j.2⟩) (fun a ha _=>AB b.1 ha 2) (fun a=>Cor.refl d);generalize F:iy d c.n (fun a d=>((eB a 2,0),d))=P at i
 case' inr.inr.inl=>
  have i:=sQ c.n 16 #[] (fun a d=>((eB a 3,0),d)) M b (fun _ _=>rfl) (fun a p c W ha G z O=>(Fz a p c W).mono fun e w' j=>⟨_,j.1,G.below j.2,Kd.of j.2,O.below j.2⟩) (fun a ha _=>AB b.1 ha 3) (fun a=>Cor.refl d);generalize F:iy d c.n (fun a d=>((eB a 3,0),d))=P at i
 case' inr.inr.inr=>
  have i:=sQ c.n 17 #[ab w.heap.size 0,ab w1.heap.size 0] (fun a d=>eY d c.n a c.sday c.smin c.swho) M b (fun _ _=>rfl) (fun a p k W ha G z O=>Kz c a p C k l _ W G (bt z R) (bt z S) (b.1.ap a ha) (s.move z.size (fun q _ J=>z.block q J) fun q J K=>⟨K.1,fun y=>by
   rcases bv.1 y with e|y
   ·omega
   ·exact K.2 y⟩) H) (fun a ha e=>AA b.1 (b.1.ap a ha).1 (b.1.ap a ha).2.2.1 (b.1.ap a ha).2.2.2.1 e) (fun a=>mi d _ a _ _ _)
  generalize F:iy d c.n (fun a d=>eY d c.n a c.sday c.smin c.swho)=P at i
 all_goals
  have HP:PN (doP d c=P):=by
   show _=_;rw[<-F];unfold doP;repeat (first|rw[aD A]|rw[ax (by omega)])
  clear b1 b2 b3 f g b X Y F R S s
  try rw[A]at y0
  clear A
  go_enter func7,ntmps7
  go_wp2_with fail
  refine i.mono ?_
  rintro e w4 ⟨t',wv,lv,rfl,I,m,x,r⟩
  obtain⟨t0,o1,o2,o3,o4⟩:=IE HB.o HQ.o I m x r (anC P.1 wv lv)
  obtain⟨p5,U,rfl,_,_⟩:=x.here.1
  obtain⟨p6,V,rfl,_,_⟩:=r.here
  have Z:=(m.blk _ Q.o (aH T)).trans T
  have N:=aF (eV o1 (eV o2 (eV o3 o4)))
  have HR:=aF (aL _ _ _ (anC P.1 (.slice p5 P.1.who.length U) (.slice p6 P.1.list.length V)) _ _ Z)
  clear i I m x r o1 o2 o3 o4 T
  go_wp2_with(refine ay rfl 43 _ _ rfl _ _ rfl rfl _ _ Z (by kernel_rfl) rfl (by simp[anC,Value.oneCell']) ?_)
  refine aW (v:= .agg (anC P.1 (.slice p5 P.1.who.length U) (.slice p6 P.1.list.length V))) ?_ rfl ?_
  ·exact bc rfl _ _ D.heap.size _ _ _ _ rfl HR.o anT rfl (by kernel_rfl)
  ·rw[HP.o]
   exact⟨t0,_,_,rfl,N.o.1,N.o.2.1,N.o.2.2.1,N.o.2.2.2⟩
theorem CA (c:Cm):FL c:=fun B gD d t w i j f g h l k m n b e=>by
 by_cases a:5<=c.kind/\c.kind<=8
 ·exact KA c i j f g w h (b.cap _ _ _ rfl) e a
 ·exact IG c a B gD d t w i j f g h l k m n b e
end
end
end Go.Proofs.YtaoljfdfhggbbaaGreatDoor
