/- Texts of the proof. -/
import Derived.Test.YtpdoienkhgnceaaGreatDoorPt24
set_option maxRecDepth 100000
set_option maxHeartbeats 8000000
namespace Go.Proofs.YtpdoienkhgnceaaGreatDoor
open Go.Proofs.Tryz Go.RowKit Lx Vx Mx Msk
section
def Tbs (B:Nat)(w:World):Prop:= ∀W,Below B w W->fL W/\oA W/\Tab W
theorem Tbs.below {B:Nat}{w a:World}(h:Tbs B w)(c:Below B w a):Tbs B a:=fun _ b=>h _ (c.trans b)
def I4 (w:World)(xs:List Nat):Prop:= ∀k∈xs,∃c T f,w.heap[k]? =some (.cells c T f)/\ ¬(T=93\/T=140\/T=171)
theorem yl (d:Dk)(l:List Ru):(oX d l).length=l.length:=by simp[oX]
section
variable {B gD:Nat} {d:Dk} {t:Tr}
theorem Lw (x:List UInt8)(w:World)(h:dS B gD d t w)(hx:x.length<=9223372036854775807)(hT:Tbs B w)(hB:B<=w.heap.size)(hg:d.given+1<=1000000)(b6:I4 w t.xs):Calls prog 106 #[ab gD 0,ly x] w (A6 B gD (rR d (ib x)) t w):=by
 obtain⟨wA,hA,bA,nA⟩:=nb w #[ag 0,ag 0,ag 0,ag 0,af,af] 47;have b4:wA.heap.size=w.heap.size+1:=by rw[<-hA];simp
 have bl:=h.opened (aA _) b4 bA;have a2:=aG bl;have H0:=aG h;have az:=aG bA;obtain⟨b9,bB,bC⟩:=hT wA (bA.mono hB);have cC:=Ei x hx wA b9 bB bC;have cR:=fun(e:Int) (W:World)=>iS e W;have HX:=aG b6;have HG:=aG hg
 have ba:T4 (gD<w.heap.size):=by
  obtain⟨_,_,_,_,_,_,_,y⟩:=h;exact aH y.blk
 unfold ly;unfold OG at cC;obtain⟨er,he⟩:=aq ((ib x).1);obtain⟨R,hR⟩:=aq ((ib x).2);rw[he,hR]at cC;have HC:T4 (ib x=(er,R)):=by show _=_;rw[<-he,<-hR]
 go_enter func106,ntmps106;go_wp2_with fail;refine cC.mono ?_;rintro e F ⟨b8,bE,rfl,b1,aJ⟩;have I:=a2.o.below b1;have n1:=bt b1 nA;have bh:=au az.o b1;have a0:=aG I;have m:=aG bh;have aT:=aG b1;have a6:=aG aJ;by_cases h0:er=0
 ·subst h0;obtain⟨bf,bo,b0,aN⟩:=a6.o rfl;obtain⟨i,rv,cv,vv,kv,ss,aa,y⟩:=a0.o;have z6:F.cell? (ae gD 6)=some (ag d.given):=cr 6 y.blk rfl;have x6:=bu _ _ 6 _ _ y.blk;obtain⟨G,A⟩:=aq (F.setCell ⟨gD,6,none⟩ (ag (d.given+1)));have X:G.heap[gD]? =ah #[rv,(t.add w.heap.size).ev,(t.add w.heap.size).sv,(t.add w.heap.size).av,cv,vv,ag (d.given+1),kv,ag d.runs] 157:=A▸aY F gD 6 _ _ (ag (d.given+1)) y.blk;have J: ∀q,q≠gD->G.heap[q]? =F.heap[q]? :=fun q a=>A▸aM _ _ _ _ a;have aO:G.heap.size=F.heap.size:=(by rw[<-A];simp)
  have bO:IntKind.i64.wrap (d.given+1)=d.given+1:=by
   have:=HG.o;have:=i.gv;rw[bQ];omega
  have S: ∀{Φ:World->Prop},Rob (Fx gD (t.add w.heap.size)) Φ F->Rob (Fx gD (t.add w.heap.size)) Φ G:=fun hR=>hR.move (by omega) (fun q a _=>J q a.1.1) fun _ _ h=>h;have aE:DkM B gD {d with given:=d.given+1} (t.add w.heap.size) rv cv vv kv ss aa G:=y.put (by omega) (fun q _ a=>J q a) X rfl rfl rfl (S y.rules) (S y.codes) (S y.vers) (S y.kept);have ad:IR {d with given:=d.given+1}:=⟨i.flt,i.vl,i.kl,i.rl,i.sl,i.al,⟨by have:=i.gv;show 0<=d.given+1;omega,HG.o⟩,i.nm,i.sv,i.ap⟩
  have bK:w.heap.size<=wA.heap.size:=az.o.size;have bJ:=ba.o;have Z:Rob (fun q=>wA.heap.size<=q) (fun u=> ∃us,InR u b8 us/\us.map (fun p=>p.1)=R) G:=b0.move (by omega) (fun q a _=>J q (by omega)) fun _ _ h=>h;obtain⟨us,aR,ac⟩:=Z.here;have aP:us.length=R.length:=(by rw[<-ac,bm]);obtain⟨aw,ai,ar⟩:=aR.form;rw[aP]at ar;obtain⟨V,M,aD,_,_⟩:=(aN F (fun _ _ _ _ _ _=>rfl)).form;obtain⟨U,aj⟩:=aq R.length;obtain⟨nC,bx⟩:=aq ((eZ R).length);rw[aj]at ar;rw[bx]at aD;subst ar aD;have cV:=NM G ⟨ad,_,_,_,_,_,_,aE⟩ aR (by omega);rw[ac,aP,aj]at cV;have bc:=aG aj;have bb:=aG aE;have a3:=aG Z;have be:=aG aO;have a5:=aG J;have aW:T4 (∀u,oV F u->InV u (.slice V nC M) (eZ R)):=aN;have aZ:=aG bo;have aS:=aG bf;have a7:=aG ad;have n2:G.heap[w.heap.size]? =_:=(J w.heap.size (by omega)).trans n1;have L:=aG y;have aU:=aG X;go_wp2_with fail;refine cV.mono ?_;rintro e w3 ⟨v3,rfl,O,b3⟩;obtain⟨p3,c3,b5⟩:=dy O;subst b5;have H:=bt b3 aU.o;have x5:=bu _ _ 5 _ _ H;have y5:=cr 5 H rfl;obtain⟨w4,C⟩:=aq (w3.setCell ⟨gD,5,none⟩ (.slice p3 U c3));have j:=aY w3 gD 5 _ _ (.slice p3 U c3) H;rw[C]at j;have x0:=bu _ _ 0 _ _ j;have y0:=cr 0 j rfl;obtain⟨w5,D⟩:=aq (w4.setCell ⟨gD,0,none⟩ (.slice aw U ai));have k:=aY w4 gD 0 _ _ (.slice aw U ai) j;rw[D]at k;have x4:=bu _ _ 4 _ _ k;have y4:=cr 4 k rfl;obtain⟨K,E⟩:=aq (w5.setCell ⟨gD,4,none⟩ (.slice V nC M));have Y:=aY w5 gD 4 _ _ (.slice V nC M) k;rw[E]at Y
  have z: ∀q,q≠gD->K.heap[q]? =w3.heap[q]? :=fun q a=>by
   rw[<-E,<-D,<-C];exact(aM _ _ _ _ a).trans ((aM _ _ _ _ a).trans (aM _ _ _ _ a))
  have bM:K.heap.size=w3.heap.size:=(by rw[<-E,<-D,<-C];simp);have aF:=bb.o.below b3;have bL:=b3.size;have aO:=be.o;have aB: ∀q,q<F.heap.size->q≠gD->K.heap[q]? =F.heap[q]? :=fun q hl a=>(z q a).trans ((b3.block q (by omega)).trans (a5.o q a));have bN:=aT.o.size;have a9: ∀q,wA.heap.size<=q->Fx gD (t.add w.heap.size) q:=fun q a=>a2.o.fx (.inr a);have b7: ∀{Φ:World->Prop},Rob (Fx gD (t.add w.heap.size)) Φ w3->Rob (Fx gD (t.add w.heap.size)) Φ K:=fun hR=>hR.move (by omega) (fun q a _=>z q a.1.1) fun _ _ h=>h;have bI:gD<wA.heap.size:=(by omega);obtain⟨N,I⟩: ∃q:Dk,q={d with rules:=R,vers:=sD d R,given:=d.given+1}:=⟨_,rfl⟩
  have bs:DkM B gD N (t.add w.heap.size) (.slice aw U ai) (.slice V nC M) (.slice p3 U c3) kv ss aa K:=by
   subst I;refine aF.put (by omega) (fun q _ a=>z q a) Y rfl rfl rfl ?_ ?_ ?_ (b7 aF.kept)
   ·exact(a3.o.below b3).move (by omega) (fun q a _=>z q (by omega)) fun q _ a=>a9 q a
   ·intro u hu ha;refine aW.o u fun q c T f a hT=> ?_;have bz:=aH a;have bg:T≠157:=(by rcases hT with rfl|rfl|rfl<;>decide)
    have ao:q≠gD:=fun e=>by
     subst e;have h1:=L.o.blk;rw[h1]at a;injection a with a;injection a with _ a _;exact bg a.symm
    have an: ∀{e s n:Nat} {v:Value} {xs:List Value},F.ownsRow B e s v n xs->(e=9\/e=53\/e=197)->some q≠v.ownBlock:=fun hr he e2=>by
     rcases hr.2 with⟨e,_⟩|⟨g,cap,bD,e,_,hg,_⟩
     ·rw[e]at e2;cases e2
     ·rw[e]at e2;have:q=g:=ay e2;subst this;rw[hg]at a;injection a with a;injection a with _ a _;subst a;revert hT he;rintro(rfl|rfl|rfl) (h|h|h)<;>cases h
    refine(ha q ⟨⟨ao,an L.o.res (.inl rfl),an L.o.svs (.inr (.inl rfl)),an L.o.aps (.inr (.inr rfl))⟩,fun hx=> ?_⟩ (by omega)).trans (aB q bz ao)
    obtain⟨c',T',f',bi,bw⟩: ∃c T f,F.heap[q]? =some (.cells c T f)/\ ¬(T=93\/T=140\/T=171):=by
     rcases bv.1 hx with rfl|hx
     ·exact⟨_,_,_,(a5.o _ ao).symm.trans n2,by decide⟩
     ·obtain⟨c,T,f,hc,hn⟩:=HX.o q hx;exact⟨c,T,f,bt m.o hc,hn⟩
    rw[bi]at a;injection a with a;injection a with _ a _;subst a;exact absurd hT bw
   ·refine Rob.imp (Rob.move (P:=fun q=>G.heap.size<=q) (Φ:=fun u=>u.ownsRow G.heap.size 3 1 (.slice p3 U c3) U (dt (oX {d with given:=d.given+1} R))) (w:=w3) (fun u _ ha=>bH O fun b hb=>ha b (O.lt b hb).1 (O.lt b hb).2) (by omega) (fun q a _=>z q (by omega)) fun q _ a=>a9 q (by omega)) fun u hu=> ?_;have:=sE (w:=u) (B:=G.heap.size) (v:= .slice p3 U c3) (l:=oX {d with given:=d.given+1} R) (by rw[yl,bc.o];exact hu) (by rw[yl];have:=aS.o;omega);exact this
  have aL:IR N:=by
   subst I;have a:=a7.o;exact⟨aZ.o,(yl {d with given:=d.given+1} R),a.kl,a.rl,a.sl,a.al,a.gv,a.nm,a.sv,a.ap⟩
  have n6:=(z _ (by omega)).trans (bt b3 n2);have a1:=aG (show dS B gD N (t.add w.heap.size) K from⟨aL,_,_,_,_,_,_,bs⟩);have bq:Kd gD t t w K:=⟨by rw[<-E,<-D,<-C];exact b3.os.trans (by rw[<-A];exact m.o.os),by rw[<-E,<-D,<-C];exact b3.tape.trans (by rw[<-A];exact m.o.tape),by rw[<-E,<-D,<-C];exact b3.output.trans (by rw[<-A];exact m.o.output),by omega,fun q a hl=>(aB q (by omega) a.1).trans (m.o.block q hl),fun _ _ h=>h,rfl⟩
  have a4:=aG bq;have cS:=I3 K a1.o
  have a8:T4 (rR d (ib x)=(⟨0,0,0,0,[],(fg N.aps 0 N).1⟩,(fg N.aps 0 N).2)):=by
   show _=_;rw[HC.o,I];rfl
  obtain⟨Q,hQ⟩:=aq (fg N.aps 0 N);rw[hQ]at cS;rw[hQ]at a8;go_wp2_with fail;refine cS.mono ?_;rintro e w7 ⟨lv,rfl,bk,r,ak⟩;obtain⟨pl,cl,br⟩:=dy ak;subst br
  have bp:Gx gD (t.add w.heap.size) w.heap.size:=by
   obtain⟨_,_,_,_,_,_,_,y⟩:=a1.o;exact(y.nx _ aV).2.2
  have n7:=(r.blk _ bp (aH n6)).trans n6;obtain⟨nq,aI⟩:=aq Q.1.length;have bG:=a4.o.size;have am:w7.ownsRow K.heap.size 3 1 (.slice pl nq cl) Q.1.length (dt Q.1):=(by rw[<-aI];exact ak)
  have bd:T4 (Rob (Fx gD t) (fun u=>fk u (.slice pl nq cl) Q.1) (w7.setRow w.heap.size (anC ⟨0,0,0,0,[],Q.1⟩ (af) (.slice pl nq cl)))):=by
   refine Rob.imp (Rob.move (P:=fun q=>K.heap.size<=q) (Φ:=fun u=>u.ownsRow K.heap.size 3 1 (.slice pl nq cl) Q.1.length (dt Q.1)) (w:=w7) (fun u _ ha=>bH am fun b hb=>ha b (am.lt b hb).1 (am.lt b hb).2) (by simp) (fun q a _=>aQ _ _ _ _ (by have:=aH n6;omega)) fun q _ a=>H0.o.fx (.inr (by omega))) fun u hu=>sE hu (by
    rcases ak.2 with⟨_,e⟩|⟨_,_,_,_,_,_,_,e,_⟩
    ·omega
    ·unfold maxLen at e;omega)
  have HO:=aG (jb bk (a4.o.trans ⟨r.os,r.tape,r.output,r.size,r.blk,fun _ _ h=>h,rfl⟩) (aA _) (anC ⟨0,0,0,0,[],Q.1⟩ (af) (.slice pl nq cl)));have HR:=aG (aK _ _ _ (anC ⟨0,0,0,0,[],Q.1⟩ (af) (.slice pl nq cl)) _ _ n7);rw[aI];go_wp2_with(refine aC rfl 47 _ _ rfl _ _ rfl rfl _ _ n7 (by kernel_rfl) rfl (by simp[Value.oneCell']) ?_)
  refine aX (v:= .agg (anC ⟨0,0,0,0,[],Q.1⟩ (af) (.slice pl nq cl))) ?_ rfl ?_
  ·exact bn rfl _ _ w.heap.size _ _ _ _ rfl HR.o anT rfl (by kernel_rfl)
  ·rw[a8.o];exact⟨t,_,_,rfl,HO.o.1,HO.o.2,ja _ _,bd.o⟩
 ·have bF:(er !=0)=true:=by simpa using h0
  have HP:T4 (rR d (ib x)=(noA er,d)):=(by show _=_;rw[HC.o];unfold rR;rw[ax h0]);go_wp2_with fail;refine(cR er F).mono ?_;rintro e G ⟨rfl,b2⟩;have n2:=bt b2 n1;have bj:=a0.o.below b2;have HO:=aG (jb bj (Kd.of (au m.o b2)) (aA _) (anC (noA er) (af) (af)));have HR:=aG (aK _ _ _ (anC (noA er) (af) (af)) _ _ n2);go_wp2_with(refine aC rfl 47 _ _ rfl _ _ rfl rfl _ _ n2 (by kernel_rfl) rfl (by simp[anC,noA,Value.oneCell']) ?_)
  refine aX (v:= .agg (anC (noA er) (af) (af))) ?_ rfl ?_
  ·exact bn rfl _ _ w.heap.size _ _ _ _ rfl HR.o anT rfl (by kernel_rfl)
  ·rw[HP.o];exact⟨t,_,_,rfl,HO.o.1,HO.o.2,ja _ _,iM _ _⟩
end
end
section
theorem svI:(prog.info? 53).map (fun i=>(i.zero,i.size,i.bytes))=some (some (.agg #[ag 0,ag 0,ag 0,af]),4,48):=by kernel_rfl
theorem TG:prog.underlying 104=some (.slice 53):=by kernel_rfl
theorem xw {s:Sv}{n:Int}(h:ff s n=0):s.roles.length<=1000/\ ∀l∈s.roles,l.length<=1000:=by
 unfold ff at h;split at h
 ·cases h
 ·split at h
  ·cases h
  ·refine⟨by omega,?_⟩
   have: ∀l:List (List Int),jC n l=0-> ∀p∈l,p.length<=1000:=fun l=>by
    induction l with
    |nil=>intro _ p b;cases b
    |cons q l c=>
     intro h p b;unfold jC at h;by_cases a:ia q n=0
     ·rw[aw (by simpa using a)]at h;rcases bv.1 b with rfl|b
      ·unfold ia at a;split at a
       ·cases a
       ·omega
      ·exact c h p b
     ·rw[ax a]at h;exact absurd h a
   exact this _ h
def ym (d:World)(B T size n:Nat)(v:Value)(xs:List Value)(c:Array Value)(b:Value)(a W:World):Prop:=ao d a/\a.grownBy W v.ownBlock/\(b.ownBlock=v.ownBlock\/b.ownBlock=some a.heap.size)/\W.ownsRow B T size b (n+1) (xs++c.toList)
structure SvJ (wX:World)(B gD:Nat)(s:Sv)(v:Value)(ns:Nat)(ss:List (Sv×Value))(M:Nat->Bool)(φ:Nat->Value)(W:World):Prop where
 bel:M 9=false->ao wX W
 cop:M 7=true->M 9=false-> ∃p k,φ 33= .agg (svC (s,.slice p s.roles.length k))/\Rob (fun q=>wX.heap.size<=q) (fun u=>fZ u (.slice p s.roles.length k) s.roles) W
 one:M 8=true->M 9=false-> ∃g c x,φ 34= .slice (some (ae g 0)) 1 c/\φ 33= .agg x/\W.heap[g]? =ah x 53
 app:M 9=true->M 13=false-> ∃g c p k W0,φ 35= .slice (some (ae g 0)) (ns+1) c/\ym wX B 53 4 ns v (svF ss) (svC (s,.slice p s.roles.length k)) (φ 35) W0 W/\Rob (fun q=>wX.heap.size<=q/\q<W0.heap.size) (fun u=>fZ u (.slice p s.roles.length k) s.roles) W
 sto:M 13=true-> ∃g c p k W0 W1,φ 35= .slice (some (ae g 0)) (ns+1) c/\ym wX B 53 4 ns v (svF ss) (svC (s,.slice p s.roles.length k)) (φ 35) W0 W1/\Below W1.heap.size (W1.setCell ⟨gD,2,none⟩ (φ 35)) W/\Rob (fun q=>wX.heap.size<=q/\q<W0.heap.size) (fun u=>fZ u (.slice p s.roles.length k) s.roles) W
theorem ym.below {i:World}{B T size n:Nat}{v:Value}{xs:List Value}{c:Array Value}{g:Value}{e W d:World}(h:ym i B T size n v xs c g e W)(a:ao W d):ym i B T size n v xs c g e d:=⟨h.1,⟨a.os.trans h.2.1.os,a.tape.trans h.2.1.tape,a.output.trans h.2.1.output,bh h.2.1.size a.size,fun k f j=>(a.block k (aT f h.2.1.size)).trans (h.2.1.block k f j)⟩,h.2.2.1,bH h.2.2.2 fun b l=>a.block b (h.2.2.2.lt b l).2⟩
theorem NP (a:List (Sv×Value))(p:Sv×Value):svF (a++[p])=svF a++(svC p).toList:=by simp[svF]
theorem DkM.addSv {B gD:Nat}{d:Dk}{t:Tr}{M J N kv:Value}{C:List (Sv×Value)}{I:List (Ap×Value)}{D E i W:World}{s:Sv}{v f:Value}(r:DkM B gD d t M J N kv C I D)(O:ym D B 53 4 C.length t.sv (svF C) (svC (s,v)) f E i)(P:Below i.heap.size (i.setCell ⟨gD,2,none⟩ f) W)(z:Rob (fun q=>D.heap.size<=q/\q<E.heap.size) (fun u=>fZ u v s.roles) W):
  DkM B gD {d with svs:=d.svs++[s]} {t with sv:=f} M J N kv (C++[(s,v)]) I W/\Kd gD t {t with sv:=f} D W:=by
 obtain⟨x,g,L,l⟩:=O;have a:=r.below x;have Q:=aH r.blk;have G:=Lr (t':={t with sv:=f}) (k:=2) a (.inr (.inl rfl)) g L (.inr (.inl ⟨rfl,rfl⟩));have j:=(g.block gD (aH a.blk) fun e=>j6 a.svs a.blk (by decide) e.symm).trans a.blk;have H: ∀b,f.ownBlock=some b->b≠gD:=fun b F e=>j6 l j (by decide) (by rw[F,e]);have m:Below (i.setCell ⟨gD,2,none⟩ f).heap.size (i.setCell ⟨gD,2,none⟩ f) W:=P.mono (by simp);have y:=G.trans (Kd.of m);have c: ∀{e s n:Nat} {u:Value} {xs:List Value},(i.setCell ⟨gD,2,none⟩ f).ownsRow B e s u n xs->W.ownsRow B e s u n xs:=fun K=>bH K fun b w=>m.block b (K.lt b w).2;refine⟨a.turn y (bt m (aY i gD 2 _ _ f j)) rfl rfl rfl (c (wu ⟨_,a.blk⟩ a.res a.svs (by decide) (by decide) g)) (c (bH ?_ fun b w=>aM i ⟨gD,2,none⟩ b f (H b w))) (c (wu ⟨_,a.blk⟩ a.aps a.svs (by decide) (by decide) g)) (by simp[a.sve]) a.ape (fun p o=> ?_) (fun p o=> .inl ⟨p.1,o,rfl⟩),(Kd.of x).trans y⟩
 ·rw[aN,NP];exact l
 ·rcases cZ.1 o with o|o
  ·exact .inl o
  ·rw[bJ.1 o];refine .inr (z.move (aA _) (fun _ _ _=>rfl) fun q S w=>⟨⟨by omega,mD r.res (.inr w.1),fun e=> ?_,mD r.aps (.inr w.1)⟩,fun R=>by have:=(r.nx q R).1;omega⟩);rcases L with A|A
   ·have:=(a.svs.lt q (by rw[<-A,<-e])).2;have:=(r.svs.lt q (by rw[<-A,<-e])).2;omega
   ·have:q=E.heap.size:=ay (e.trans A);omega
section
variable {B gD:Nat} {d:Dk} {t:Tr}
theorem I5 (s:Sv)(p:Option Addr)(c:Nat)(w:World)(h:dS B gD d t w)(hr:fZ w (.slice p s.roles.length c) s.roles):Calls prog 108 #[ab gD 0,.agg (svC (s,.slice p s.roles.length c))] w (A6 B gD (sV d s) t w):=by
 obtain⟨Q,hA,bA,nA⟩:=nb w (svC (s,.slice p s.roles.length c)) 53;obtain⟨wB,hB,bB,nB⟩:=nb Q #[ag 0,ag 0,ag 0,ag 0,af,af] 47;have aZ:wB.heap.size=Q.heap.size+1:=by rw[<-hB];simp
 have bo:Q.heap.size=w.heap.size+1:=by rw[<-hA];simp
 have X:=au bA bB;have aW:=h.opened (q:=Q.heap.size) bA.size aZ X;have a6:=aG aW;have ai:=aG X;have ad:=bt bB nA;have a7:=aG (hr.below X);obtain⟨j,rv,cv,vv,kv,ss,aa,A⟩:=aW;have a5:ss.length=d.svs.length:=by rw[<-A.sve,bm]
 obtain⟨ps,cs,ac⟩:=dy A.svs;obtain⟨pe,ce,az⟩:=dy A.res;obtain⟨m,N⟩:=aq ss.length;obtain⟨ne,Z⟩:=aq d.res.length;rw[N]at ac;rw[Z]at az;have z2:wB.cell? (ae gD 2)=some (.slice ps m cs):=(cr (v:=t.sv) 2 A.blk rfl).trans (congrArg some ac);have z1:wB.cell? (ae gD 1)=some (.slice pe ne ce):=(cr (v:=t.ev) 1 A.blk rfl).trans (congrArg some az);have bs:m<=8:=by rw[<-N,a5];exact j.sl
 have bp:ne<=12:=by rw[<-Z];exact j.rl
 have H:T4 (d.svs.length=m):=by show _=_;rw[<-a5,N]
 have a9:=aG N;have an:=aG Z;have aE:T4 (t.sv= .slice ps m cs):=ac;have HM:=aG A;have bd:=aG j;have bw:w.heap.size<Q.heap.size:=by omega
 have br:gD<w.heap.size:=by
  obtain⟨_,_,_,_,_,_,_,bl⟩:=h;exact aH bl.blk
 have H0:=aG h;clear h hr A j a5 ac az N Z nA bA bB X bo aZ;by_cases V:8<=m
 ·have bf:(8:Int)<=(m:Int):=by omega
  have HP:T4 (sV d s=(noA 5,d)):=(by show _=_;unfold sV;rw[ax (by rw[H.o];exact V)]);have cR:=iS 5 wB;go_enter func108,ntmps108;go_wp2_with fail;refine cR.mono ?_;rintro e w2 ⟨rfl,b2⟩;have n2:=bt b2 nB;have HO:=aG (jb (a6.o.below b2) (Kd.of (au ai.o b2)) (by omega) (anC (noA 5) (af) (af)));have HR:=aG (aK _ _ _ (anC (noA 5) (af) (af)) _ _ n2);clear cR b2 nB;go_wp2_with(refine aC rfl 47 _ _ rfl _ _ rfl rfl _ _ n2 (by kernel_rfl) rfl (by simp[anC,noA,Value.oneCell']) ?_)
  refine aX (v:= .agg (anC (noA 5) (af) (af))) ?_ rfl ?_
  ·exact bn rfl _ _ Q.heap.size _ _ _ _ rfl HR.o anT rfl (by kernel_rfl)
  ·rw[HP.o];exact⟨t,_,_,rfl,HO.o.1,HO.o.2,ja _ _,iM _ _⟩
 ·have bf: ¬(8:Int)<=(m:Int):=by omega
  obtain⟨er,Y⟩:=aq (ff s ne);have T:=aG Y;go_enter func108,ntmps108;go_upto_region 3 with fail;refine dH (fun _ _ W=>ao wB W) [kn 14 (.agg (svC (s,.slice p s.roles.length c))),kn 15 (ab gD 0),kn 16 (ab gD 0),kn 17 (ab gD 0),kn 18 (ab gD 1),kn 19 (.slice pe ne ce),kn 20 (ag (ne:Int)),kn 21 (ag er),kn 5 (ag er)] (fun _=>(aF _ _).drew) (fun _ _ _ _ f h=>au h f) (by kernel_rfl) ?_ ?_
  ·rintro M φ W f _ F l S R;have n1:=bt f ad;have z1:=aj f z1;have cW:=zD s (.slice p s.roles.length c) (ne:Int) W (a7.o.below f);rw[Y]at cW;clear Y ad nB z2;simp only[kn,d6,aR,a8,Act.put,aD,aJ,aI]at S;subst S;simp only[dz,Nat.reduceAdd]at R;dsimp only[kn,dK,fo,eD,Act.put];and_intros;all_goals first|exact trivial|intro hw hn A K L
   all_goals try (go_simp;with_reducible exact L _ _ ⟨rfl,aF _ _⟩)
   ·show Oper.wp _ _ _ _ _ _;refine fh 53 _ rfl _ (by simp[Act.eval,R]) _ _ _ _ n1 svT rfl (by kernel_rfl) ?_;exact L _ _ ⟨rfl,aF _ _⟩
   ·go_simp;refine cW.mono ?_;rintro r' W' ⟨rfl,ar⟩;exact L _ _ ⟨rfl,ar⟩
  ·rintro M φ wX hM f;simp only[kn,ep,aR,a8,Act.put,aD,aJ,aI];have ba:=bt f ad;have O:=bt f nB;have y2:=aj f z2;have ak:=aG f;have k:=HM.o.below f;have bc:=aG k;clear hM f ad nB z1 z2 Y k hA hB;by_cases h0:er=0
   ·subst h0;have a4:=xw T.o;have k:=bc.o;have bj:=aH k.blk;have z:wX.ownsRow B 53 4 (.slice ps m cs) m (svF ss):=(by have:=k.svs;rw[a9.o]at this;rw[<-aE.o];exact this);have bg:B<=wX.heap.size:=(by have:=k.lo;omega);go_upto_region 6 with fail;refine dH (SvJ wX B gD s (.slice ps m cs) m ss) [kn 26 (ab gD 0),kn 27 (ab gD 0),kn 28 (ab gD 0),kn 29 (ab gD 0),kn 30 (ab gD 2),kn 31 (.slice ps m cs),kn 32 (.agg (svC (s,.slice p s.roles.length c))),td 33,td 34,td 35,kn 36 (ab gD 0),kn 37 (ab gD 0),kn 38 (ab gD 2),nk] (fun _=>⟨fun _=>(aF _ _).drew,(fun h=>by cases h),(fun h=>by cases h),(fun h=>by cases h),(fun h=>by cases h)⟩) (fun _ _ _ _ f h=>⟨fun c=>(h.bel c).trans (f.mono (h.bel c).size),fun c r=> ?_,fun c r=> ?_,fun c r=> ?_,fun c=> ?_⟩) (by kernel_rfl) ?_ ?_
    ·obtain⟨C,r,e,hr⟩:=h.cop c r;exact⟨C,r,e,hr.below f⟩
    ·obtain⟨g,c1,x,e1,e2,hg⟩:=h.one c r;exact⟨g,c1,x,e1,e2,bt f hg⟩
    ·obtain⟨g,c1,C,k',W0,e1,hg,hr⟩:=h.app c r;exact⟨g,c1,C,k',W0,e1,hg.below f,hr.below f⟩
    ·obtain⟨g,c1,C,k',W0,W1,e1,hg,aQ,hr⟩:=h.sto c;exact⟨g,c1,C,k',W0,W1,e1,hg,aQ.trans (f.mono (by have:=aQ.size;simpa using this)),hr.below f⟩
    ·rintro M φ W hJ hc F l S R;have aO:M 9=true->M 8=true:=fun h=>hc 9 _ rfl h ⟨8,.data⟩ (by simp) rfl rfl;have aL:M 8=true->M 7=true:=fun h=>hc 8 _ rfl h ⟨7,.data⟩ (by simp) rfl rfl;have aP:M 13=true->M 9=true:=fun h=>hc 13 _ rfl h ⟨9,.data⟩ (by simp) rfl rfl;have n:=aG (jv aO (jv aL aP));have U:=aG hJ;clear hc aO aL aP hJ;simp only[kn,td,nk,d6,aR,a8,Act.put,aD,aJ,aI]at S;subst S;simp only[dz,Nat.reduceAdd]at R;dsimp only[kn,dk,td,nk,dK,fo,eD,Act.put];and_intros;all_goals first|exact trivial|intro hw hn A K L
     all_goals try (go_simp;with_reducible exact L _ _ ⟨rfl,aF _ _⟩)
     ·have f:=U.o.bel (hn 9 _ rfl (by kernel_rfl));have y:=aj f y2;go_simp;exact L _ _ ⟨rfl,aF _ _⟩
     ·have n1:=bt (U.o.bel (np n.o.1 (np n.o.2.1 (hn 7 _ rfl (by kernel_rfl))))) ba;show Oper.wp _ _ _ _ _ _;refine fh 53 _ rfl _ (by simp[Act.eval,R]) _ _ _ _ n1 svT rfl (by kernel_rfl) ?_;exact L _ _ ⟨rfl,aF _ _⟩
     ·have V:=np n.o.2.1 A;have E:=np n.o.1 V;have hD:=np n.o.2.2 E;have f:=U.o.bel E;have cC:=IZ s p c W ((a7.o.below ak.o).below f) a4.1 a4.2;clear hw hn;go_simp;refine cC.mono ?_;rintro r' W' ⟨C,r,rfl,i,ar⟩;exact L _ _ ⟨trivial,fun _=>au f ar,fun _ _=>⟨C,r,dX,i.move (aA _) (fun _ _ _=>rfl) fun q _ G=>bh f.size G⟩,fun c _=>rS V c (by decide),fun c _=>rS E c (by decide),fun c=>rS hD c (by decide)⟩
     ·have h7:=hw ⟨7,.data⟩ (by simp) rfl rfl;have E:=np n.o.1 A;have hD:=np n.o.2.2 E;have f:=U.o.bel E;obtain⟨C,r,J,i⟩:=U.o.cop h7 E;have aS:=am W (.cells (svC (s,.slice C s.roles.length r)) 53);have HF:=aG R;rw[J]at R;clear hw hn;go_simp;exact L _ _ ⟨trivial,fun _=>au f aS,fun _ _=>⟨C,r,(dE (by decide)).trans J,i.below aS⟩,fun _ _=>⟨W.heap.size,1,_,dX,(dE (by decide)).trans J,aB _ _⟩,fun c _=>rS E c (by decide),fun c=>rS hD c (by decide)⟩
     ·have V:=hw ⟨8,.data⟩ (by simp) rfl rfl;have hD:=np n.o.2.2 A;have f:=U.o.bel A;obtain⟨C,r,J,i⟩:=U.o.cop (n.o.2.1 V) A;obtain⟨g,c1,x,be,ah,hg⟩:=U.o.one V A;obtain rfl:svC (s,.slice C s.roles.length r)=x:=(by rw[J]at ah;injection ah);have a3:=bH z fun b G=>f.block b (z.lt b G).2;show Oper.wp _ _ _ _ _ _;refine oq (ops:= #[]) rfl (iT (c:=c1) rfl _ _ 104 53 rfl TG svI rfl (by decide) (by decide) (by simp[Act.eval,R]) a3 (by simp[Act.eval,R,be]) hg rfl (A7 _ _ _ _) (by omega) (bh bg f.size) ?_);rintro v' w' ho a0 bi ⟨g2,c2,rfl⟩;refine⟨rfl,L _ _ ⟨trivial,fun c=>by simp at c,fun _ c=>by simp at c,fun _ c=>by simp at c,fun _ _=>⟨g2,c2,C,r,W,dX,?_,Rob.move (P:=fun q=>wX.heap.size<=q/\q<W.heap.size) (w:=W) (fun u hu ha=>i u hu fun q G S=>ha q ⟨G,S⟩ S) a0.size (fun q G S=>a0.block q S fun e=>by have:=(z.lt q e.symm).2;omega) fun _ _ h=>h⟩,fun c=>rS hD c (by decide)⟩⟩;rw[dX];exact⟨f,a0,bi,ho⟩
     ·have E:=hw ⟨9,.data⟩ (by simp) rfl rfl;obtain⟨g,c1,C,r,W0,D,hG,i⟩:=U.o.app E A;have I:=(hG.2.1.block gD (aT bj hG.1.size) fun e=>j6 z k.blk (by decide) e.symm).trans (bt hG.1 k.blk);have y:=cr 2 I rfl;have x2:=bu _ _ 2 _ _ I;rw[D]at R;clear hw hn I;go_simp;refine L undef _ ⟨trivial,fun c=> ?_,fun _ c=> ?_,fun _ c=> ?_,fun _ c=>by simp at c,fun _=>⟨g,c1,C,r,W0,W,D,hG,by rw[D];exact aF _ _,i.move (by simp) (fun q G _=>aM _ _ _ _ (fun e=>by have:q=gD:=e;omega)) fun _ _ h=>h⟩⟩
      ·rw[orZ (by decide),E]at c;cases c
      ·rw[orZ (by decide),E]at c;cases c
      ·rw[orZ (by decide),E]at c;cases c
    ·rintro M φ W hM hJ;obtain⟨g,c1,C,r,W0,W1,D,hG,ay,i⟩:=hJ.sto (hM 13 (by decide) rfl);simp only[kn,td,nk,ep,aR,a8,Act.put,aD,aJ,aI];rw[D]at hG ay;rw[D];obtain⟨a2,a1⟩:=k.addSv (d:=d) (s:=s) (by rw[a9.o];show ym wX B 53 4 m t.sv _ _ _ _ _;rw[aE.o];exact hG) ay i;have j:=bd.o;have bk:((d.svs++[s]).length:Int)=(d.svs.length:Int)+1:=(by simp)
     have aU:dS B gD {d with svs:=d.svs++[s]} (({t with sv:= .slice (some (ae g 0)) (m+1) c1}:Tr).add Q.heap.size) W:=⟨⟨j.flt,j.vl,j.kl,j.rl,by show(d.svs++[s]).length<=8;rw[aN,H.o];simp;omega,j.al,j.gv,j.nm,fun q G=>by
      rcases cZ.1 G with G|G
      ·exact j.sv q G
      ·rw[bJ.1 G];show ff s (d.res.length:Int)=0;rw[an.o];exact T.o,fun a ha=>by
      obtain⟨q1,q2⟩:=j.ap a ha;exact⟨⟨q1.1,by have:=q1.2;show a.sv<((d.svs++[s]).length:Int);omega⟩,q2⟩⟩,_,_,_,_,_,_,a2⟩
     have aY:Kd gD t {t with sv:= .slice (some (ae g 0)) (m+1) c1} w W:=Kd.opened (q:=Q.heap.size) (au ai.o ak.o) a1;have HP:T4 (sV d s=(me m,{d with svs:=d.svs++[s]})):=(by show _=_;unfold sV;rw[aw (by rw[H.o];exact V),an.o,T.o,aw (by simp),H.o]);have bb:=(a1.blk Q.heap.size (k.nx _ aV).2.2 (aH O)).trans O;have y3:W.cell? (ae gD 2)=some (.slice (some (ae g 0)) (m+1) c1):=cr 2 a2.blk rfl;have HO:=aG (jb aU aY (by omega) (anC (me m) (af) (af)));have HR:=aG (aK _ _ _ (anC (me m) (af) (af)) _ _ bb);have bv:IntKind.i64.wrap ((m:Int)+1-1)=(m:Int):=(by rw[bQ];omega);clear hM hJ hG ay i a2 a1 aU aY j bk y2 ba O k z a4;go_wp2_with(refine aC rfl 47 _ _ rfl _ _ rfl rfl _ _ bb (by kernel_rfl) rfl (by simp[Value.oneCell']) ?_)
     refine aX (v:= .agg (anC (me m) (af) (af))) ?_ rfl ?_
     ·exact bn rfl _ _ Q.heap.size _ _ _ _ rfl HR.o anT rfl (by kernel_rfl)
     ·rw[HP.o];exact⟨_,_,_,rfl,HO.o.1,HO.o.2,ja _ _,iM _ _⟩
   ·have bq:(er !=0)=true:=(by simpa using h0);have HP:T4 (sV d s=(noA er,d)):=(by show _=_;unfold sV;rw[aw (by rw[H.o];exact V),an.o,T.o,ax h0]);clear h0;have cR:=iS er wX;go_wp2_with fail;refine cR.mono ?_;rintro e w2 ⟨rfl,b2⟩;have n2:=bt b2 O;have av:=au ak.o b2;have HO:=aG (jb (a6.o.below av) (Kd.of (au ai.o av)) (by omega) (anC (noA er) (af) (af)));have HR:=aG (aK _ _ _ (anC (noA er) (af) (af)) _ _ n2);clear cR b2 av O;go_wp2_with(refine aC rfl 47 _ _ rfl _ _ rfl rfl _ _ n2 (by kernel_rfl) rfl (by simp[anC,noA,Value.oneCell']) ?_)
    refine aX (v:= .agg (anC (noA er) (af) (af))) ?_ rfl ?_
    ·exact bn rfl _ _ Q.heap.size _ _ _ _ rfl HR.o anT rfl (by kernel_rfl)
    ·rw[HP.o];exact⟨t,_,_,rfl,HO.o.1,HO.o.2,ja _ _,iM _ _⟩
end
end
def mkF (l:List M):List Value:=l.flatMap fun f=>(mv f).toList
theorem rg (f:M):(mv f).size=23:=bU f
theorem Qa (n:Nat):(lu n).toList=mkF (List.replicate n fun _=>false):=by
 apply List.ext_getElem?;intro i;by_cases hi:i<n*23
 ·have a:i/23<n:=Nat.div_lt_of_lt_mul (by omega);have b:i%23<23:=Nat.mod_lt _ (by omega);have c:i=i/23*23+i%23:=(by omega);have d:(List.replicate n (fun _=>false:M))[i/23]? =some fun _=>false:=(by rw[iy,ax a]);rw[c,bq,BY a b];exact(pL rg d _ b).symm
 ·rw[fc (by simp[lu,madeCells];omega),fc (by unfold mkF;rw[pN rg,List.length_replicate];omega)]
theorem Ly (f:List Int->Bool)(F:Nat)(q:Array Value)(a:List (List Int))(P:Value)(w:World)(eF: ∀m w,(callFunc F m).run prog w= .ok (.enter F m) w)(h:fZ w P a)(O: ∀l∈a,∀sv W,ao w W->fk W sv l->Calls prog F (#[sv]++q) W fun e L=>e= .returned (.bool (f l))/\ao W L):
  Calls prog 214 #[P,.func (.func F) #[] q] w fun e L=> ∃k:Int,e= .returned (ag k)/\decide (0<=k)=a.any f/\ao w L:=by
 have S:=aG h;obtain⟨p,c,rfl,C,K⟩:=h;have R:=aG O;obtain⟨n,I⟩:=aq a.length;have M:=aG I;rw[I]at C⊢;have ab:(n:Int)<9223372036854775808:=by omega
 clear O I K;go_enter func214,ntmps214;go_wp2_with fail;go_loopw [5,8] (fun _ t wr=> ∃(j:Nat),t=ag (j:Int)/\j<=n/\ao w wr/\a.any f=(a.drop j).any f) (fun _ t _=>n-(intOf t).toNat);case atStart=>exact⟨0,rfl,by omega,aF _ _,rfl⟩
 case round=>
  obtain⟨j,rfl,hj,d,s⟩:=hrel;have H:(0:Int)<=(j:Int):=(by omega);by_cases aa:j<n
  ·have D:(j:Int)<(n:Int):=(by omega);obtain⟨x,G⟩: ∃x,a[j]? =some x:=⟨a[j]'(by have:=M.o;omega),az _⟩
   have B:(a.drop j).any f=(f x||(a.drop (j+1)).any f):=by
    obtain⟨Y,Z⟩:=aE.1 G;rw[bG Y,Z];rfl
   rw[B]at s;obtain⟨p',c',T,_,i⟩:=S.o;injection T with U X V;subst U V;obtain⟨g,o,sv,J,z,r⟩:=i j x G;subst J;have A:=aj d z;have c1:=R.o x (aL G) sv wr d (r.below d);obtain⟨ps,cs,rfl,_,_⟩:=r;obtain⟨b,N⟩:=aq (f x);rw[N]at c1 s;have E:=aG s;have Q:=aG d;clear s N G i B z d X;go_wp2_with fail;refine c1.mono ?_;rintro e w1 ⟨rfl,v⟩;have y:=au Q.o v;clear c1 A v;cases b with
   |true=>
    have u:T4 (a.any f=true):=E.o;clear E;go_wp2_with fail;go_ret;exact⟨j,rfl,by rw[u.o];exact bc H,y⟩
   |false=>
    have u:T4 (a.any f=(a.drop (j+1)).any f):=E.o;clear E;go_wp2_with fail;go_roundw;case rel=>exact⟨j+1,by go_num,by omega,y,u.o⟩
    case measure=>simp[intOf];omega
  ·have D: ¬(j:Int)<(n:Int):=(by omega)
   have u:T4 (a.any f=false):=by
    show _=_;rw[s,dn (by have:=M.o;omega)];rfl
   clear s;go_wp2_with fail;go_ret;exact⟨-1,rfl,by rw[u.o];rfl,d⟩
theorem Bb (f:List Int->Bool)(F:Nat)(a:Array Value)(i:List (List Int))(n:Value)(w:World)(u: ∀d w,(callFunc F d).run prog w= .ok (.enter F d) w)(h:fZ w n i)(s: ∀l∈i,∀sv W,ao w W->fk W sv l->Calls prog F (#[sv]++a) W fun e r=>e= .returned (.bool (f l))/\ao W r):
  Calls prog 194 #[n,.func (.func F) #[] a] w fun e r=>e= .returned (.bool (i.any f))/\ao w r:=by
 have c0:=Ly f F a i n w u h s;obtain⟨p,c,rfl,m,j⟩:=h;clear j m s;go_enter func194,ntmps194;go_wp2_with fail;refine c0.mono ?_;rintro e y ⟨k,rfl,x,v⟩;clear c0;obtain⟨b,g⟩: ∃q,i.any f=q:=⟨_,rfl⟩
 rw[g]at x;have t:=aG g;clear g;go_wp2_with fail;go_ret;exact⟨by rw[t.o];rfl,v⟩
theorem I6 {d j:Nat}(l:List Int)(sv:Value)(W:World)(h:fk W sv l)(f:W.heap[d]? =ah #[ag (j:Int)] 3):Calls prog 195 #[sv,ab d 0] W fun e i=>e= .returned (.bool (decide ((j:Int)∈l)))/\ao W i:=by
 have c1:=lV l sv (j:Int) W h;have z:=cr 0 f rfl;obtain⟨p,c,rfl,b,a⟩:=h;clear b a f;go_enter func195,ntmps195;go_wp2_with fail;refine c1.mono ?_;rintro e k ⟨rfl,g⟩;clear c1;go_wp2_with fail;go_ret;exact⟨rfl,g⟩
section
theorem vH (d:Dk)(r day a:Int):Cor d (lc d r day a).2:=ue d r day
theorem Lz (s:Sv)(day:Int){n j:Nat}(a:j<n)(d:Dk):iJ s day (n-j) j d=if s.roles.any (fun p=>decide ((j:Int)∈p))=true then((lc d (j:Int) day (-1)).1::(iJ s day (n-(j+1)) (j+1) (lc d (j:Int) day (-1)).2).1,(iJ s day (n-(j+1)) (j+1) (lc d (j:Int) day (-1)).2).2) else(noM::(iJ s day (n-(j+1)) (j+1) d).1,(iJ s day (n-(j+1)) (j+1) d).2):=by
 rw[show n-j=(n-(j+1))+1 by omega];rfl
section
variable {B gD:Nat} {d:Dk} {t:Tr} {w w':World}
theorem dS.wr (h:dS B gD d t w)(l:w.heap.size<=w'.heap.size)(c: ∀k,k<w.heap.size->k∉t.xs->w'.heap[k]? =w.heap[k]?):dS B gD d t w':=by
 obtain⟨r,A,o,D,kv,C,m,h⟩:=h;have mv: ∀{Φ:World->Prop},Rob (Fx gD t) Φ w->Rob (Fx gD t) Φ w':=fun v=>v.move l (fun k x y=>c k y x.2) fun _ _ h=>h;have rk: ∀{e s n:Nat} {u:Value} {xs:List Value},w.ownsRow B e s u n xs->(∀q∈t.xs,some q≠u.ownBlock)->w'.ownsRow B e s u n xs:=fun j z=>bH j fun b i=>c b (j.lt b i).2 fun g=>z b g i.symm;exact⟨r,A,o,D,kv,C,m,(c gD (aH h.blk) fun g=>(h.nx gD g).2.2.1 rfl).trans h.blk,h.lo,mv h.rules,mv h.codes,mv h.vers,mv h.kept,rk h.res fun q a=>(h.nx q a).2.2.2.1,rk h.svs fun q a=>(h.nx q a).2.2.2.2.1,h.sve,fun p f=>mv (h.svr p f),rk h.aps fun q a=>(h.nx q a).2.2.2.2.2,h.ape,fun p f=>mv (h.apr p f),fun q a=>⟨aT (h.nx q a).1 l,(h.nx q a).2⟩⟩
theorem Kd.on {q:Nat}(h:Kd gD t t w w'):Kd gD (t.add q) (t.add q) w w':=⟨h.os,h.tape,h.output,h.size,h.blk,fun _ _ h=>h,rfl⟩
theorem Kd.off {q:Nat}(h:Kd gD (t.add q) (t.add q) w w'):Kd gD t t w w':=⟨h.os,h.tape,h.output,h.size,h.blk,fun _ _ h=>h,rfl⟩
structure FrJ (B gD:Nat)(t:Tr)(d e:Dk)(wX:World)(gm o:Nat)(c:Array Value)(M:Nat->Bool)(W:World):Prop where
 kd:M 7=false->Kd gD t t wX W
 st:M 7=false->dS B gD (bif M 5 then e else d) (t.add gm) W
 fin:M 7=true-> ∃W0,Kd gD t t wX W0/\dS B gD e (t.add gm) W0/\Below W0.heap.size (W0.setCells gm o c.toList) W
theorem FI (s:Sv)(p:Option Addr)(c:Nat)(day:Int)(w:World)(h:dS B gD d t w)(hr:Rob (Fx gD t) (fun u=>fZ u (.slice p s.roles.length c) s.roles) w):Calls prog 156 #[ab gD 0,.agg (svC (s,.slice p s.roles.length c)),ag day] w fun e w'=> ∃gm,e= .returned (.slice (some (ae gm 0)) d.res.length d.res.length)/\w.heap.size<=gm/\w'.ownsRow w.heap.size 39 23 (.slice (some (ae gm 0)) d.res.length d.res.length) d.res.length (mkF (iJ s day d.res.length 0 d).1)/\dS B gD (iJ s day d.res.length 0 d).2 t w'/\Kd gD t t w w':=by
 obtain⟨a,hA,bA,nA⟩:=nb w (svC (s,.slice p s.roles.length c)) 53;obtain⟨aO,rv,cv,vv,kv,ss,aa,Y⟩:=h.below bA;obtain⟨pe,ce,al⟩:=dy Y.res;obtain⟨n,L⟩:=aq d.res.length;rw[L]at al;have z1:a.cell? (ae gD 1)=some (.slice pe n ce):=(cr (v:=t.ev) 1 Y.blk rfl).trans (congrArg some al);have bn:n<=12:=by rw[<-L];exact aO.rl
 have aL:=zQ n (by omega) a;obtain⟨wM,hM,bM,nM⟩:=nb a (lu n) 39;have bk:wM.heap.size=a.heap.size+1:=by rw[<-hM];simp
 have ai:=au bA bM;have aB:=h.opened (q:=a.heap.size) bA.size bk ai
 have aM:wM.ownsRow a.heap.size 39 23 (.slice (some (ae a.heap.size 0)) n n) n (mkF (List.replicate n fun _=>false)):=by
  refine⟨by unfold mkF;rw[pN rg,List.length_replicate],.inr ⟨a.heap.size,n,lu n,rfl,aA _,nM,aA _,by unfold maxLen;omega,by simp[lu,madeCells],?_⟩⟩;rw[Qa,da (by unfold mkF;rw[pN rg,List.length_replicate];exact aA _)]
 rw[hM]at aL;have HN:=aG L;have aZ:=aG aB;have bd:=aG aM;have aU:=aG ai;have be:=aG hr;have HG:T4 (∀q,w.heap.size<=q->Gx gD t q):=fun q r=>(h.fx (.inr r)).1;have bm:=bt bM nA;have bp:w.heap.size<a.heap.size:=by rw[<-hA];simp
 have bq:a.heap.size<wM.heap.size:=by omega
 have eF: ∀V w,(callFunc 195 V).run prog w= .ok (.enter 195 V) w:=fun _ _=>rfl;rw[L];clear h hr Y aO al L nA bA bM ai aB aM nM;go_enter func156,ntmps156;go_wp2_with fail;clear z1 aL hA hM;go_loopw [8,18] (fun _ q wr=> ∃(j:Nat) (y:Dk) (l:List M),q=ag (j:Int)/\j<=n/\Cor d y/\dS B gD y (t.add a.heap.size) wr/\Kd gD t t w wr/\wr.ownsRow a.heap.size 39 23 (.slice (some (ae a.heap.size 0)) n n) n (mkF (l++List.replicate (n-j) fun _=>false))/\l.length=j/\wr.heap[w.heap.size]? =ah (svC (s,.slice p s.roles.length c)) 53/\iJ s day n 0 d=(l++(iJ s day (n-j) j y).1,(iJ s day (n-j) j y).2)) (fun _ q _=>n-(intOf q).toNat);case atStart=>exact⟨0,d,[],rfl,by omega,Cor.refl d,aZ.o,Kd.of aU.o,bd.o,rfl,bm,rfl⟩
 case round=>
  obtain⟨j,y,l,rfl,hj,P,hd,hk,m,ao,aj,hX⟩:=hrel;have bi:(0:Int)<=(j:Int):=(by omega);have ak:y.res=d.res:=(by obtain⟨_,_,rfl⟩:=P;rfl);by_cases am:j<n
  ·have X:(j:Int)<(n:Int):=(by omega);rw[Lz s day am]at hX;obtain⟨wC,hC,bC,nC⟩:=nb wr #[ag (j:Int)] 3;have an:=hk.trans (Kd.of bC);have a9:=hd.below bC;have N:=bH m fun b r=>bC.block b (m.lt b r).2;have aQ:=(an.rob be.o).here;have ay:=bt bC aj;have yb:wC.cell? (ae w.heap.size 3)=some (.slice p s.roles.length c):=cr 3 ay rfl;have cC:=Bb (fun p=>decide ((j:Int)∈p)) 195 #[ab wr.heap.size 0] s.roles (.slice p s.roles.length c) wC eF aQ (fun l _ sv W hW aS=>I6 l sv W aS (bt hW nC));obtain⟨nr,ap⟩:=aq s.roles.length;rw[ap]at yb cC;have bo:=aG ap;obtain⟨bb,a6⟩:=aq (s.roles.any (fun p=>decide ((j:Int)∈p)));rw[a6]at cC hX;have HX:=aG hX;have a2:=aG an;have a1:=aG a9;have af:=aG N;have a0:=aG P;have G:=aG ao;have aX:=aG ak;have az:=aG ay;have br:a.heap.size<wr.heap.size:=aT (m.lt _ rfl).2 (aA _);clear hX a6 ap aj m hk an hd a9 N P aQ ao ak bC ay;go_wp2_with fail;refine cC.mono ?_;rintro e w1 ⟨rfl,b1⟩;have x:=a2.o.trans (Kd.of b1);have Q:=a1.o.below b1;have i:=bH af.o fun b r=>b1.block b (af.o.lt b r).2;have E:=bt b1 nC;have O:=bt b1 az.o;clear cC yb nC hC a2 a1 af az b1;cases bb with
   |false=>
    have aY:=aG Q;have ba:=aG x
    have bc:T4 (w1.ownsRow a.heap.size 39 23 (.slice (some (ae a.heap.size 0)) n n) n (mkF ((l++[noM])++List.replicate (n-(j+1)) fun _=>false))):=by
     show World.ownsRow _ _ _ _ _ _ _
     have e:l++List.replicate (n-j) (fun _=>false:M)=(l++[noM])++List.replicate (n-(j+1)) fun _=>false:=by
      rw[show n-j=(n-(j+1))+1 by omega,List.replicate_succ,dw];rfl
     rw[<-e];exact i
    have HZ:T4 (iJ s day n 0 d=((l++[noM])++(iJ s day (n-(j+1)) (j+1) y).1,(iJ s day (n-(j+1)) (j+1) y).2)):=by
     show _=_;rw[HX.o,aw (by simp),dw];rfl
    have ad:=aG O;clear HX Q x i E O;go_wp2_with fail;go_roundw;case rel=>exact⟨j+1,y,l++[noM],by go_num,by omega,a0.o,aY.o,ba.o,bc.o,by rw[aN,G.o];rfl,ad.o,HZ.o⟩
    case measure=>simp[intOf];omega
   |true=>
    have aE:(j:Int)<y.res.length:=(by rw[aX.o,HN.o];exact X);obtain⟨f,hf⟩:=aq ((lc y (j:Int) day (-1)).1);obtain⟨de,R⟩:=aq ((lc y (j:Int) day (-1)).2);have aW:T4 (Cor d de):=(by have:=a0.o.trans (vH y (j:Int) day (-1));rw[R]at this;exact this)
    have HZ:T4 (iJ s day n 0 d=((l++[f])++(iJ s day (n-(j+1)) (j+1) de).1,(iJ s day (n-(j+1)) (j+1) de).2)):=by
     show _=_;rw[HX.o,ax rfl,hf,R,dw];rfl
    have J:Gx gD t wr.heap.size:=HG.o _ (by omega);have aC:Gx gD t a.heap.size:=HG.o _ (by omega);clear HX;go_upto_region 6 with fail;refine dH (fun M _ W=>FrJ B gD t y de w1 a.heap.size (j*23) (mv f) M W) [kn 25 (.slice (some (ae a.heap.size 0)) n n),kn 26 (ag (j:Int)),kn 27 (ab gD 0),kn 28 (ag (j:Int)),kn 29 (ag day),dk 30 (.agg (mv f)),kn 31 (ab a.heap.size (j*23)),nk] (fun _=>⟨fun _=>Kd.of (aF _ _).drew,fun _=>Q.below (aF _ _).drew,(fun h=>by cases h)⟩) (fun _ _ _ _ hb h=>⟨fun c=>(h.kd c).trans (Kd.of hb),fun c=>(h.st c).below hb,fun c=> ?_⟩) (by kernel_rfl) ?_ ?_
    ·obtain⟨U,h1,h2,h3⟩:=h.fin c;exact⟨U,h1,h2,h3.trans (hb.mono (by have:=h3.size;rw[(kL _ _ _ _).2.2.2]at this;exact this))⟩
    ·rintro M φ W hJ hc F l' hl hF;have a3:M 7=true->M 5=true:=fun h=>hc 7 _ rfl h ⟨5,.data⟩ (by simp) rfl rfl;have HC:=aG a3;have HJ:=aG hJ;clear hc a3 hJ;simp only[kn,dk,nk,d6,aR,a8,Act.put,aD,aJ,aI]at hl;subst hl;simp only[dz,Nat.reduceAdd]at hF;dsimp only[kn,dk,nk,dK,fo,eD,Act.put];and_intros;all_goals first|exact trivial|intro hw hn Y K hK
     all_goals try (go_simp;with_reducible exact hK _ _ ⟨rfl,aF _ _⟩)
     ·have z:=cr 0 (((HJ.o.kd (hn 7 _ rfl (by kernel_rfl))).blk _ J (aH E)).trans E) rfl;go_simp;exact hK _ _ ⟨rfl,aF _ _⟩
     ·have z:=cr 0 (((HJ.o.kd (np HC.o (hn 5 _ rfl (by kernel_rfl)))).blk _ J (aH E)).trans E) rfl;go_simp;exact hK _ _ ⟨rfl,aF _ _⟩
     ·have h7:=np HC.o Y;have av:dS B gD y (t.add a.heap.size) W:=(by have:=HJ.o.st h7;rw[Y]at this;exact this);have cF:=NK (j:Int) day (-1) W av bi aE;rw[hf,R]at cF;clear hw hn;go_simp;refine cF.mono ?_;rintro r' W' ⟨rfl,bf,bj⟩;exact hK _ _ ⟨rfl,fun _=>(HJ.o.kd h7).trans bj.off,fun _=>bf,fun c=>rS h7 c (by decide)⟩
     ·have h5:=hw ⟨5,.data⟩ (by simp) rfl rfl;have av:dS B gD de (t.add a.heap.size) W:=(by have:=HJ.o.st Y;rw[h5]at this;exact this);have aK:=HJ.o.kd Y;have aP:=bH i fun b r=>aK.blk b (HG.o b (by have:=(i.lt b r).1;omega)) (i.lt b r).2;have bl:W.there a.heap.size (j*23) (mv f).size:=(by rw[bU];exact Ls aP am rfl);show Oper.wp _ _ _ _ _ _;refine wp_store_mid 39 _ _ rfl a.heap.size (j*23) (mv f) (by simp[Act.eval,hF]) (by simp[Act.eval,hF]) bl (bg _) (dI _) ?_;refine hK undef _ ⟨trivial,fun c=>by simp at c,fun c=>by simp at c,fun _=>⟨W,aK,av,aF _ _⟩⟩
    ·rintro M φ W hM hJ;obtain⟨U,C,a7,A⟩:=hJ.fin (hM 7 (by decide) rfl);simp only[kn,dk,nk,ep,aR,a8,Act.put,aD,aJ,aI];have D:(l++List.replicate (n-j) (fun _=>false:Nat->Bool)).length=n:=(by rw[aN,List.length_replicate,G.o];omega);have Z:=bH i fun b r=>C.blk b (HG.o b (by have:=(i.lt b r).1;omega)) (i.lt b r).2;have T:=(kL a.heap.size (mv f).toList (j*23) U).2.2.2;have ar: ∀q,q≠a.heap.size->(U.setCells a.heap.size (j*23) (mv f).toList).heap[q]? =U.heap[q]? :=fun q r=>iH a.heap.size _ _ U q r;have I:Below (U.setCells a.heap.size (j*23) (mv f).toList).heap.size (U.setCells a.heap.size (j*23) (mv f).toList) W:=A.mono (Nat.le_of_eq T);have S:=P8 (f:=mv) (p:=f) (by decide) rg (l:=l++List.replicate (n-j) fun _=>false) (by rw[D];exact Z) (j:=j) (by rw[D];exact am) rfl
     have ac:(l++List.replicate (n-j) (fun _=>false:Nat->Bool)).set j f=(l++[f])++List.replicate (n-(j+1)) fun _=>false:=by
      rw[show n-j=(n-(j+1))+1 by omega,List.replicate_succ,List.set_append_right _ _ (by rw[G.o];exact aA _),G.o,jw,dw];rfl
     have HO:T4 (W.ownsRow a.heap.size 39 23 (.slice (some (ae a.heap.size 0)) n n) n (mkF ((l++[f])++List.replicate (n-(j+1)) fun _=>false))):=by
      rw[jD,D,ac]at S;exact bH S fun b r=>I.block b (S.lt b r).2
     have HD:=aG ((a7.wr (Nat.le_of_eq T.symm) fun k _ hx=>ar k fun e=>hx (by rw[e];exact aV)).below I);have a4:=C.size;have a5:=x.size;have H: ∀q,q≠a.heap.size->q<w1.heap.size->Gx gD t q->W.heap[q]? =w1.heap[q]? :=fun q r hl hg=>(A.block q (by omega)).trans ((ar q r).trans (C.blk q hg hl));have HK:T4 (Kd gD t t w W):=⟨A.os.trans ((kL _ _ _ _).1.trans (C.os.trans x.os)),A.tape.trans ((kL _ _ _ _).2.1.trans (C.tape.trans x.tape)),A.output.trans ((kL _ _ _ _).2.2.1.trans (C.output.trans x.output)),bh a5 (bh a4 (by have:=A.size;rw[T]at this;exact this)),fun q r hl=>(H q (by omega) (by omega) r).trans (x.blk q r hl),fun _ _ h=>h,rfl⟩
     have ad:=aG ((H w.heap.size (by omega) (aH O) (HG.o _ (aA _))).trans O);clear hM hJ C a7 A I ar S ac Z i D T H a4 a5 Q x E O hf R aE J aC;go_wp2_with fail;go_roundw;case rel=>exact⟨j+1,de,l++[f],by go_num,by omega,aW.o,HD.o,HK.o,HO.o,by rw[aN,G.o];rfl,ad.o,HZ.o⟩
     case measure=>simp[intOf];omega
  ·have X: ¬(j:Int)<(n:Int):=(by omega);obtain rfl:n=j:=(by omega);rw[jw]at hX m
   have HX:T4 (iJ s day n 0 d=(l,y)):=by
    show _=_;rw[hX];simp[iJ]
   have HD:=aG (hd.closed (w':=wr) (aA _) fun _ _ _=>rfl);have HK:=aG hk
   have HO:T4 (wr.ownsRow w.heap.size 39 23 (.slice (some (ae a.heap.size 0)) n n) n (mkF l)):=by
    have h1:l++List.replicate 0 (fun _=>false:M)=l:=(by simp);rw[h1]at m;exact⟨m.1,m.2.imp id fun⟨g,c,cu,q1,q2,q3⟩=>⟨g,c,cu,q1,by omega,q3⟩⟩
   clear hX hd hk m P ak ao aj;go_wp2_with fail;go_ret;exact⟨a.heap.size,rfl,by omega,by rw[HX.o];exact HO.o,by rw[HX.o];exact HD.o,HK.o⟩
end
end
theorem RT:(prog.info? 29).map (fun i=>(i.zero,i.size,i.bytes))=some (some (af),1,24):=by kernel_rfl
theorem Qb:prog.underlying 231=some (.slice 29):=by kernel_rfl
theorem slT:prog.underlying 45=some (.struct (prog.fieldsOf 45)):=by kernel_rfl
theorem LA (s:Sv)(day:Int){m j:Nat}(a:j<m)(d:Dk):jO s day (m-j) j d=((iJ s (day+j) d.res.length 0 d).1::(jO s day (m-(j+1)) (j+1) (iJ s (day+j) d.res.length 0 d).2).1,(jO s day (m-(j+1)) (j+1) (iJ s (day+j) d.res.length 0 d).2).2):=by
 rw[show m-j=(m-(j+1))+1 by omega];rfl
theorem pO (s:Sv)(day:Int): ∀(m r:Nat) (d:Dk),Cor d (iJ s day m r d).2/\(iJ s day m r d).1.length=m
 |0,_,d=>⟨Cor.refl d,rfl⟩
 |m+1,r,d=>by
  unfold iJ;split
  ·exact⟨(vH d r day (-1)).trans (pO s day m (r+1) _).1,congrArg (· +1) (pO s day m (r+1) _).2⟩
  ·exact⟨(pO s day m (r+1) d).1,congrArg (· +1) (pO s day m (r+1) d).2⟩
theorem qO (d:Dk)(n:Int)(a:Ap)(day min:Int)(who:List Int):Cor d (ql d n a day min who).2:=by
 have h:=yj (f:=CT day n (min-a.bef) (min+a.len+a.aft)) (fun x d=>vH d x day n) who d;unfold ql;dsimp only;repeat' split
 all_goals first|exact Cor.refl d|exact h
theorem Ej (s:Sv): ∀(l:List (List (Nat->Bool))) (k:Nat) {x:Nat×Int×List Int},kB s l k=some x->x.1<k+l.length
 |[],k,x,h=>by simp[kB]at h
 |f::l,k,x,h=>by
  unfold kB at h;split at h
  ·cases h;simp
  ·have:=Ej s l (k+1) h;simp only[bK];omega
theorem LB (s:Sv)(l:List (List (Nat->Bool))):0<=(findP s l).day/\(findP s l).day<=30:=by
 unfold findP;split
 ·exact⟨gy _,by show(0:Int)<=30;omega⟩
 ·split
  ·exact⟨gy _,by show(0:Int)<=30;omega⟩
  ·split
   ·rename_i h;have:=Ej s l 0 h;exact⟨by show(0:Int)<=((_:Nat):Int);omega,by show((_:Nat):Int)<=30;omega⟩
   ·exact⟨gy _,by show(0:Int)<=30;omega⟩
theorem LC {w:World}{B q:Nat}{v:Value}{m:List (List M)}{n:List Value}(o:w.ownsRow B 29 1 v m.length n)(L:m.length<=1000)(N:q<=1000)(E: ∀(i:Nat) (a:List M) (u:Value),m[i]? =some a->n[i]? =some u->a.length=q/\w.ownsRow B 39 23 u q (mkF a)):wi w v m:=by
 obtain⟨p,c,x⟩:=dy o;refine⟨p,c,x,by omega,fun j a s=> ?_⟩;have G:=(aE.1 s).1;obtain⟨u,t⟩: ∃u,n[j]? =some u:=⟨n[j]'(by have:=o.1;omega),az _⟩
 obtain⟨g,J,e,_,D⟩:=tB o (by omega);rw[x]at e;injection e with z _ _;obtain⟨b,d⟩:=E j a u s t;refine⟨g,0,u,z,by rw[bN];exact D j u t,?_⟩;obtain⟨I,y,k⟩:=dy d;refine⟨I,y,by rw[b];exact k,by omega,fun i f hi=> ?_⟩;have F:=(aE.1 hi).1;obtain⟨C,K,r,_,H⟩:=qp (f:=mv) (l:=a) rg d b.symm hi;rw[k]at r;injection r with A _ _;exact⟨C,0,A,by rw[bN];exact H⟩
end Go.Proofs.YtpdoienkhgnceaaGreatDoor
