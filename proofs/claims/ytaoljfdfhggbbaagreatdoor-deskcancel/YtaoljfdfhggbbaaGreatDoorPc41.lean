/- Texts of the proof. -/
import Derived.Test.YtaoljfdfhggbbaaGreatDoorPc39
set_option maxRecDepth 100000
set_option maxHeartbeats 8000000
namespace Go.Proofs.YtaoljfdfhggbbaaGreatDoor
open Go.Proofs.Tryz Go.RowKit Lx Vx Mx Msk
def anF (l:List (An×Value×Value)):List Value:=l.flatMap fun a=>(anC a.1 a.2.1 a.2.2).toList
structure pG (B:Nat)(w:World)(p:List An×Dk)(rv ev sv av asv:Value)(ss:List (Sv×Value))(aa:List (Ap×Value))(ls:List (An×Value×Value)):Prop where
 rules: ∃us,InR w rv us/\us.map (fun p=>p.1)=p.2.rules
 res:w.ownsRow B 9 1 ev p.2.res.length (p.2.res.map kO)
 svs:w.ownsRow B 29 4 sv ss.length (svF ss)
 sve:ss.map (fun p=>p.1)=p.2.svs
 svr: ∀q∈ss,fk w q.2 q.1.roles
 aps:w.ownsRow B 45 11 av aa.length (apF aa)
 ape:aa.map (fun p=>p.1)=p.2.aps
 apr: ∀q∈aa,dS w q.2 q.1.who
 ans:w.ownsRow B 43 6 asv ls.length (anF ls)
 ane:ls.map (fun p=>p.1)=p.1
 anr: ∀a∈ls,rH B w a.2.1 a.1.who/\dS w a.2.2 a.1.list
theorem pG.below {B:Nat}{w w':World}{p:List An×Dk}{k ev sv av d:Value}{l:List (Sv×Value)}{g:List (Ap×Value)}{j:List (An×Value×Value)}(h:pG B w p k ev sv av d l g j)(c:aq w w'):pG B w' p k ev sv av d l g j:=by
 have rk: ∀{e s n:Nat} {u:Value} {xs:List Value},w.ownsRow B e s u n xs->w'.ownsRow B e s u n xs:=fun i=>br i fun b f=>c.block b (i.lt b f).2;obtain⟨r,m,o⟩:=h.rules;exact⟨⟨r,m.below c,o⟩,rk h.res,rk h.svs,h.sve,fun q f=>(h.svr q f).below c,rk h.aps,h.ape,fun q f=>(h.apr q f).below c,rk h.ans,h.ane,fun a ha=>⟨⟨(h.anr a ha).1.1.below c,(h.anr a ha).1.2⟩,(h.anr a ha).2.below c⟩⟩
def FP (B:Nat)(ys:List Nat)(l:List Cm)(w:World)(e:Ending)(w':World):Prop:=aq w w'/\((60<l.length/\e= .returned (.tuple #[.agg #[af,af,af,af],af,ag 0,ag 5]))\/(l.length<=60/\ ∃(b ev sv av a:Value) (f:List (Sv×Value)) (c:List (Ap×Value)) (d:List (An×Value×Value)),e= .returned (.tuple #[.agg #[b,ev,sv,av],a,ag (playP dk0 l).2.runs,ag 0])/\Rob (fun k=>k∉ys) (fun u=>pG B u (playP dk0 l) b ev sv av a f c d) w'))
theorem PF:(prog.info? 43).map (fun i=>(i.zero,i.size,i.bytes))=some (some (.agg #[ag 0,ag 0,ag 0,ag 0,af,af]),6,80):=by kernel_rfl
theorem O6:prog.underlying 38=some (.slice 43):=by kernel_rfl
theorem dsT:prog.underlying 37=some (.struct (prog.fieldsOf 37)):=by kernel_rfl
theorem Ed (c:Cm)(p q:Option Addr)(n m k j:Nat):(doC c (.slice p n k) (.slice q m j)).all (·.oneCell')=true:=by simp[doC,kO,Value.oneCell']
theorem Az {R:Ending->World->Prop}{a:Act}{w:World}(g:Nat)(c:Array Value)(x:Value)(n er:Int)(o:c.size=4)(p:a.defers=[])(i:a.tmps.getD 2 undef=ab g 0)(j:a.tmps.getD 3 undef=x)(k:a.tmps.getD 4 undef=ag n)(l:a.tmps.getD 5 undef=ag er)
  (q:w.heap[g]? =ah c 37) (m:R (.returned (.tuple #[.agg c,x,ag n,ag er])) w):bodyPost prog f5 R .ret a w:=by
 refine aW (v:= .tuple #[.agg c,x,ag n,ag er]) ?_ p m;have s:f5.results= #[ResultVar.cell 2 37,ResultVar.tmp 3,ResultVar.tmp 4,ResultVar.tmp 5]:=rfl;have b:a.tmps[2]?.getD undef=ab g 0:=by simpa using i
 have d:a.tmps[3]?.getD undef=x:=by simpa using j
 have e:a.tmps[4]?.getD undef=ag n:=by simpa using k
 have f:a.tmps[5]?.getD undef=ag er:=by simpa using l
 have r:=dX (P:=prog) w g 37 37 _ _ _ q dsT rfl (by rw[o];kernel_rfl);simp[results,b,d,e,f,asAddr,r]
theorem IL {d:Nat}{t:Tr}{L c:List Nat}(h: ∀b∈c,b∈L){q:Nat}(e:Fx d (t.ad L) q):Fx d (t.ad c) q:=⟨e.1,fun a=>e.2 (by
 rcases bU.1 a with a|a
 ·exact fJ _ (h q a)
 ·exact eD _ a)⟩
theorem dt.sub {B c:Nat}{d:Dk}{t:Tr}{L e:List Nat}{w:World}(h:dt B c d (t.ad L) w)(g: ∀b∈e,b∈L):dt B c d (t.ad e) w:=by
 obtain⟨k,m,j,o,kv,n,i,h⟩:=h;have mv: ∀{Φ:World->Prop},Rob (Fx c (t.ad L)) Φ w->Rob (Fx c (t.ad e)) Φ w:=fun l=>l.move (aB _) (fun _ _ _=>rfl) fun q _ a=>IL g a
 exact⟨k,m,j,o,kv,n,i,h.blk,h.lo,mv h.rules,mv h.codes,mv h.vers,mv h.kept,h.res,h.svs,h.sve,fun p f=>mv (h.svr p f),h.aps,h.ape,fun p f=>mv (h.apr p f),fun q a=>h.nx q (by
  rcases bU.1 a with a|a
  ·exact fJ _ (g q a)
  ·exact eD _ a)⟩
theorem Cy (B:Nat)(ys:List Nat)(cs:List (Cm×Value×Value))(v:Value)(w:World)(aZ:B<=w.heap.size)(h:kU w v cs)(hT:Tbs B w)(bn: ∀q∈cs,FL q.1)(c2: ∀q∈cs,Rob (fun k=>k<B) (fun u=>dS u q.2.2 q.1.swho) w)(c4: ∀q∈ys,B<=q/\ ∃c T f,w.heap[q]? =some (.cells c T f)/\ ¬(T=140\/T=177\/T=87)):Calls prog 5 #[v] w (FP B ys (cs.map fun q=>q.1) w):=by
 obtain⟨m,hA,bA,nA⟩:=nb w #[af,af,af,af] 37;have HR:=aF h;obtain⟨p,kc,rfl,bk,cG⟩:=h;obtain⟨n,hn⟩:=au cs.length;have HN:=aF hn;have bM:=aF bn;have HT:=aF hT;have bV:=aF c2;have ax:=aF c4;have b4:=aF bA;rw[hn]at bk⊢;obtain⟨l,G⟩:=au (cs.map (fun q=>q.1));have ct:l.length=n:=by rw[<-G,ba,hn]
 rw[G];have HL:=aF G;have ap:=aF ct;by_cases bY:60<n
 ·have aY:(60:Int)<(n:Int):=by omega
  have HO:=aF (below_setRow bA (aB _) #[af,af,af,af]);have bR:=aF (aL _ _ _ #[af,af,af,af] _ _ nA);go_enter func5,ntmps5;go_wp2_with(refine ay rfl 37 _ _ rfl _ _ rfl rfl _ _ nA (by kernel_rfl) rfl (by simp[Value.oneCell']) ?_)
  exact Az w.heap.size _ _ 0 5 rfl rfl rfl rfl rfl rfl bR.o ⟨HO.o,.inl ⟨by rw[ap.o];exact bY,rfl⟩⟩
 ·have aY: ¬(60:Int)<(n:Int):=by omega
  obtain⟨wB,hB,bB,nB⟩:=nb m #[af,af,af,af,af,af,ag 0,af,ag 0] 53;have cC:w.heap.size<m.heap.size:=(by rw[<-hA];simp);have cE:m.heap.size<wB.heap.size:=(by rw[<-hB];simp)
  have ci:=N4 (B:=B) (xs:=w.heap.size::ys) (by omega) (fun q d=>by
   rcases bv.1 d with rfl|d
   ·omega
   ·obtain⟨D,_,_,_,z,_⟩:=ax.o q d;have:=aH z;omega) nB
  have b7:=aF ci;have b5:=aF (eV (aw b4.o bB) (bt bB nA));go_enter func5,ntmps5;go_wp2_with fail;go_loopw [7,9,16] (fun v _ q wr=> ∃(j:Nat) (E:Dk) (A:Tr) (L:List Nat) (H:List (An×Value×Value)),q=ag (j:Int)/\j<=n/\(A.xs=w.heap.size::ys/\ ∀q,q<w.heap.size->Gx m.heap.size A q)/\dt B m.heap.size E (A.ad L) wr/\(∀b,v.ownBlock=some b->b∈L)/\(∀b∈L,∃c,wr.heap[b]? =ah c 43)/\(aq w wr/\wr.heap[w.heap.size]? =ah #[af,af,af,af] 37)/\wr.ownsRow m.heap.size 43 6 v j (anF H)/\H.length=j/\E.given<=j/\(∀a∈H,Rob (Fx m.heap.size (A.ad L)) (fun u=>rH B u a.2.1 a.1.who) wr/\Rob (Fx m.heap.size (A.ad L)) (fun u=>dS u a.2.2 a.1.list) wr)/\playP dk0 l=(H.map (fun a=>a.1)++(playP E (l.drop j)).1,(playP E (l.drop j)).2)) (fun _ _ q _=>n-(intOf q).toNat);case atStart=>exact⟨0,dk0,⟨af,af,af,w.heap.size::ys⟩,[],[],rfl,by omega,⟨rfl,fun q d=>⟨by omega,nofun,nofun,nofun⟩⟩,b7.o,(fun b i=>by cases i),(fun b i=>by cases i),b5.o,dc _ _ _ _,rfl,gY _,(fun a ha=>by cases ha),rfl⟩
  case round=>
   obtain⟨j,E,A,L,H,rfl,hj,⟨I,co⟩,hd,ca,cb,⟨V,b3⟩,C,a7,cn,ac,hX⟩:=hrel;have cB:(0:Int)<=(j:Int):=(by omega);by_cases cp:j<n
   ·have bi:(j:Int)<(n:Int):=(by omega);obtain⟨⟨c,rv,wv⟩,X⟩: ∃q,cs[j]? =some q:=⟨cs[j]'(by rw[HN.o];exact cp),az _⟩
    have cq:l[j]? =some c:=(by rw[<-HL.o,bg,X];rfl);rw[FK E cq]at hX;obtain⟨p',k',e',_,a0⟩:=HR.o;injection e' with e1 e3 e2;subst e1 e2;obtain⟨Y,g,o,cy,bo⟩:=a0 j _ X;subst cy;dsimp only at Y bo;have be:=bM.o _ (aM X);have bp:=jm bo V;have bc:=Y.below V;obtain⟨O,N,rfl,_,_⟩:=Y.roles;obtain⟨pw,kw,rfl,_,_⟩:=Y.who;obtain⟨wZ,wC,hZ,nZ,hC,bC,nC⟩:=nbs wr #[ag 0,ag 0,ag 0,ag 0,.string ⟨#[]⟩,.string ⟨#[]⟩,ag 0,ag 0,ag 0,af,ag 0,ag 0,af] (doC c (.slice O c.sv.roles.length N) (.slice pw c.swho.length kw)) 31;have a5:=hd.below bC;have Q:=aw V bC;have b2:=bt bC b3;have cc:Tbs B wC:=fun W hW=>HT.o W ((Q.mono aZ).trans hW)
    have bb: ∀b∈L,∃c,wC.heap[b]? =ah c 43:=fun b i=>by
     obtain⟨x,hx⟩:=cb b i;exact⟨x,bt bC hx⟩
    have cD:=be B m.heap.size E (A.ad L) wC O pw N kw a5 cc (bf aZ Q.size) (by omega) (fun b i=>by
     rcases bU.1 i with i|i
     ·obtain⟨x,hx⟩:=bb b i;exact⟨x,_,_,hx,by decide⟩
     ·rw[I]at i;rcases bv.1 i with rfl|i
      ·exact⟨_,_,_,b2,by decide⟩
      ·obtain⟨_,x,T,f,z,h3⟩:=ax.o b i;exact⟨x,T,f,bt Q z,h3⟩) (bc.below bC) ((bV.o _ (aM X)).below Q)
    have cx:=br C fun b d=>bC.block b (C.lt b d).2
    have bh:(∀b∈L,Gx m.heap.size (A.ad L) b)/\Gx m.heap.size (A.ad L) w.heap.size:=by
     obtain⟨_,_,_,_,_,_,_,t⟩:=a5;exact⟨fun b i=>(t.nx b (fJ _ i)).2.2,(t.nx _ (eD _ (by rw[I];exact bq))).2.2⟩
    have aU:=aF b2;obtain⟨P,hP⟩:=au (doP E c);have bJ:PN (P.2.given<=E.given+1):=(by have:=IF E c;rw[hP]at this;exact this);rw[hP]at cD hX
    have HX:PN (playP dk0 l=((H.map (fun a=>a.1)++[P.1])++(playP P.2 (l.drop (j+1))).1,(playP P.2 (l.drop (j+1))).2)):=by
     show _=_;rw[hX,eo];rfl
    have aO:PN (∀a∈H,Rob (Fx m.heap.size (A.ad L)) (fun u=>rH B u a.2.1 a.1.who) wC/\Rob (Fx m.heap.size (A.ad L)) (fun u=>dS u a.2.2 a.1.list) wC):=fun a ha=>⟨(ac a ha).1.below bC,(ac a ha).2.below bC⟩
    have an:=aF Q;have c8:=aF a5;have ar:=aF cx;have ao:=aF bh;have aG:=aF ca;have bK:=aF bb;have bL:=aF a7;have bS:=aF I;have ai:=aF co;have b9:=aF cn;go_wp2_with(first|(refine wpList_load_mid rfl 31 _ rfl g (o+j*13) rfl (doC c (.slice O c.sv.roles.length N) (.slice pw c.swho.length kw)).toList _ bp doT rfl (by kernel_rfl) ?_)|(refine ay rfl 31 _ _ rfl _ _ rfl rfl _ _ nZ (by kernel_rfl) rfl (Ed _ _ _ _ _ _ _) ?_;rw[hC])|(refine aR rfl 31 _ rfl _ rfl _ _ _ _ nC doT rfl (by kernel_rfl) ?_))
    refine cD.mono ?_;rintro e w4 ⟨t',aD,lv,rfl,cj,r,b1,bj⟩
    obtain⟨y,c1,rfl⟩: ∃y:Tr,y.xs=w.heap.size::ys/\t'=y.ad L:=⟨⟨t'.ev,t'.sv,t'.av,w.heap.size::ys⟩,rfl,by
     have e:=r.xs;obtain⟨a1,a2,a3,a4⟩:=t';dsimp only[Tr.ad]at e⊢;rw[e,bS.o]⟩
    obtain⟨p5,c5,bz,_,_⟩:=b1.here.1;obtain⟨p6,c6,b0,_,_⟩:=bj.here;obtain⟨wE,hE,U,nE⟩:=nb w4 #[ag P.1.err,ag P.1.num,ag P.1.day,ag P.1.min,aD,lv] 43;have ce:aq w w4:=an.o.trans ⟨r.os,r.tape,r.output,r.size,fun q d=>r.blk q (ai.o q d) (aT d an.o.size)⟩;have bI:PN (∀q,q<w.heap.size->Gx m.heap.size y q):=fun q d=>r.gx q (aT d an.o.size) (ai.o q d);have cg:=aw ce U;have Z:wE.ownsRow m.heap.size 43 6 u7 j (anF H):=br ar.o fun b d=>(U.block b (aT (ar.o.lt b d).2 r.size)).trans (r.blk b (ao.o.1 b (aG.o b d)) (ar.o.lt b d).2);have bd:=cj.below U;have aW:=aF (bt U ((r.blk _ ao.o.2 (aH aU.o)).trans aU.o))
    have c9:PN (∀b∈L,∃c,wE.heap[b]? =ah c 43):=fun b i=>by
     obtain⟨x,hx⟩:=bK.o b i;exact⟨x,bt U ((r.blk b (ao.o.1 b i) (aH hx)).trans hx)⟩
    have aS:PN (∀a∈H++[(P.1,aD,lv)],Rob (Fx m.heap.size (y.ad L)) (fun u=>rH B u a.2.1 a.1.who) wE/\Rob (Fx m.heap.size (y.ad L)) (fun u=>dS u a.2.2 a.1.list) wE):=fun a ha=>by
     rcases bU.1 ha with ha|ha
     ·exact⟨(r.rob (aO.o a ha).1).below U,(r.rob (aO.o a ha).2).below U⟩
     ·rw[bT.1 ha];exact⟨b1.below U,bj.below U⟩
    have b8:=aF bd
    have cz:m.heap.size<=wE.heap.size:=by
     obtain⟨_,_,_,_,_,_,_,t⟩:=bd;exact Nat.le_of_lt (aH t.blk)
    have aE:=aF cg;have bX:(#[ag P.1.err,ag P.1.num,ag P.1.day,ag P.1.min,aD,lv]:Array Value).all (·.oneCell')=true:=(by rw[bz,b0];simp[Value.oneCell']);unfold anC;subst bz b0;go_wp2_with(at_builtin;refine iB rfl _ _ 38 43 rfl O6 PF rfl (by decide) (by decide) rfl Z rfl nE rfl bX (by omega) cz ?_)
    rintro v2 S a9 a6 ch g5 c7 rfl;obtain⟨L',ck,bZ,cA,cw⟩:=b8.o.grown Z aG.o a6 a9 ch;have cf:aq w S/\S.heap[w.heap.size]? =ah #[af,af,af,af] 37:=⟨aE.o.grown a6 aE.o.size (fun k hk=>by have:=(Z.lt k hk).1;omega),(a6.block _ (aH aW.o) (fun e=>by have:=(Z.lt _ e.symm).1;omega)).trans aW.o⟩
    have bO:PN (∃(L:List Nat) (J:List (An×Value×Value)),dt B m.heap.size P.2 (y.ad L) S/\(∀b,(Value.slice (some (ae g5 0)) (j+1) c7).ownBlock=some b->b∈L)/\(∀b∈L,∃c,S.heap[b]? =ah c 43)/\(aq w S/\S.heap[w.heap.size]? =ah #[af,af,af,af] 37)/\S.ownsRow m.heap.size 43 6 (.slice (some (ae g5 0)) (j+1) c7) (j+1) (anF J)/\J.length=j+1/\(∀a∈J,Rob (Fx m.heap.size (y.ad L)) (fun u=>rH B u a.2.1 a.1.who) S/\Rob (Fx m.heap.size (y.ad L)) (fun u=>dS u a.2.2 a.1.list) S)/\J.map (fun a=>a.1)=H.map (fun a=>a.1)++[P.1]):=by
     have bw: ∀b∈[g5],b∈L':=fun b i=>(by rw[bT.1 i];exact bZ g5 rfl);have bl: ∀{Φ:World->Prop},Rob (Fx m.heap.size (y.ad L)) Φ wE->Rob (Fx m.heap.size (y.ad [g5])) Φ S:=fun hR=>(cw _ hR).move (aB _) (fun _ _ _=>rfl) fun q _ d=>IL bw d;refine⟨[g5],H++[_],ck.sub bw,fun b i=>by rw[bT];exact(aN i).symm,fun b i=> ?_,cf,?_,by rw[aP,bL.o];rfl,fun a ha=>⟨bl (aS.o a ha).1,bl (aS.o a ha).2⟩,by rw[dN];rfl⟩
     ·rw[bT.1 i];rcases a9.2 with⟨e,_⟩|⟨g',cap,bW,e,_,cm,_⟩
      ·cases e
      ·injection e with e1 _ _;injection e1 with e1;injection e1 with e1;subst e1;exact⟨bW,cm⟩
     ·unfold anF;rw[fw];exact a9
    go_wp2_with fail;go_roundw
    case rel=>
     obtain⟨L,J,q1,q2,q3,q4,q5,q6,q7,q8⟩:=bO.o;exact⟨j+1,P.2,y,L,J,by go_num,by omega,⟨c1,bI.o⟩,q1,q2,q3,q4,q5,q6,by have:=bJ.o;have:=b9.o;omega,q7,by rw[q8];exact HX.o⟩
    case measure=>simp[intOf];omega
   ·have bi: ¬(j:Int)<(n:Int):=(by omega);obtain rfl:n=j:=(by omega);rw[dg (by rw[ap.o];exact aB _)]at hX
    have HX:PN (playP dk0 l=(H.map (fun a=>a.1),E)):=by
     show _=_;rw[hX];simp[playP]
    obtain⟨bn,rv,cv,vv,kv,ss,aa,t⟩:=hd
    obtain⟨O,N,bu⟩: ∃p c,rv= .slice p E.rules.length c:=by
     obtain⟨us,D,z⟩:=t.rules.here;obtain⟨p,c,e⟩:=D.form;exact⟨p,c,by rw[e,<-z,ba]⟩
    obtain⟨pe,ke,cl⟩:=df t.res;obtain⟨ps,ks,c0⟩:=df t.svs;obtain⟨pa,ka,cd⟩:=df t.aps;obtain⟨px,kx,c3⟩:=df C;have z0:=cr 0 t.blk rfl;have z1:=cr (v:=A.ev) 1 t.blk rfl;have z2:=cr (v:=A.sv) 2 t.blk rfl;have z3:=cr (v:=A.av) 3 t.blk rfl;have z8:=cr 8 t.blk rfl;obtain⟨n0,h0⟩:=au E.rules.length;obtain⟨n1,D⟩:=au E.res.length;obtain⟨n2,z⟩:=au ss.length;obtain⟨n3,h3⟩:=au aa.length;obtain⟨rn,bs⟩:=au E.runs;have al:A.ev= .slice pe n1 ke:=(by rw[<-D];exact cl);have am:A.sv= .slice ps n2 ks:=(by rw[<-z];exact c0);have ak:A.av= .slice pa n3 ka:=(by rw[<-h3];exact cd);rw[bu,h0]at z0;rw[al]at z1;rw[am]at z2;rw[ak]at z3;rw[bs]at z8;subst c3;have aC:=b3
    have bN:PN (∀W:World,wr.heap.size<=W.heap.size->(∀q,q<wr.heap.size->q≠w.heap.size->q∉ys->W.heap[q]? =wr.heap[q]?)->pG B W (playP dk0 l) (.slice O n0 N) (.slice pe n1 ke) (.slice ps n2 ks) (.slice pa n3 ka) (.slice px n kx) ss aa H):=fun W hs hW=>by
     have mv: ∀{Φ:World->Prop},Rob (Fx m.heap.size (A.ad L)) Φ wr->Φ W:=fun hR=>hR W hs fun q d G=>hW q G (fun e=>d.2 (eD _ (by rw[I,e];exact bq))) fun e=>d.2 (eD _ (by rw[I];exact bH _ e));have a8:=fun q (d:q∈w.heap.size::ys)=>(t.nx q (eD _ (by rw[I];exact d))).2.2;have rk: ∀{B e s k:Nat} {u:Value} {xs:List Value},wr.ownsRow B e s u k xs->(∀q∈w.heap.size::ys,some q≠u.ownBlock)->W.ownsRow B e s u k xs:=fun hr hn=>br hr fun b i=>hW b (hr.lt b i).2 (fun e=>hn b (by rw[e];exact bq) i.symm) fun e=>hn b (bH _ e) i.symm
     have bm:=rk C fun q d e=>by
      have D:=(C.lt _ e.symm).1;rcases bv.1 d with rfl|d
      ·omega
      ·obtain⟨_,_,_,_,z,_⟩:=ax.o q d;have:=aH z;omega
     rw[HX.o];refine⟨?_,?_,?_,t.sve,fun q d=>mv (t.svr q d),?_,t.ape,fun q d=>mv (t.apr q d),⟨bm.1.trans (by rw[a7]),?_⟩,rfl,fun a ha=>⟨mv (ac a ha).1,mv (ac a ha).2⟩⟩
     ·rw[<-h0,<-bu];exact mv t.rules
     ·rw[<-al];exact rk t.res fun q d=>(a8 q d).2.1
     ·rw[<-am];exact rk t.svs fun q d=>(a8 q d).2.2.1
     ·rw[<-ak];exact rk t.aps fun q d=>(a8 q d).2.2.2
     ·rw[a7];exact bm.2.imp id fun⟨g,c,cu,q1,q2,q3⟩=>⟨g,c,cu,q1,by omega,q3⟩
    have bQ:PN ((playP dk0 l).2.runs=rn):=(by show _=_;rw[HX.o];exact bs);have b6:=aF V;have cF:=aH aC;go_upto_region 10 with fail;refine dh (fun M _ W=>(M 6=false->aq wr W)/\(M 6=true-> ∃R,aq wr R/\Below R.heap.size (R.setRow w.heap.size #[.slice O n0 N,.slice pe n1 ke,.slice ps n2 ks,.slice pa n3 ka]) W)) [kn 26 (ab m.heap.size 0),kn 27 (.agg #[.slice O n0 N,.slice pe n1 ke,.slice ps n2 ks,.slice pa n3 ka]),kn 28 (.slice px n kx),kn 29 (ab m.heap.size 7),kn 30 (ab m.heap.size 8),kn 31 (ag rn),nk,kn 3 (.slice px n kx),kn 4 (ag rn),kn 5 (ag 0)] (fun _=>⟨fun _=>(aI _ _).drew,(fun h=>by cases h)⟩) (fun _ _ _ _ i h=>⟨fun c=>(h.1 c).trans (i.mono (h.1 c).size),fun c=> ?_⟩) (by kernel_rfl) ?_ ?_
    ·obtain⟨R,D,z⟩:=h.2 c;exact⟨R,D,z.trans (i.mono (by have:=z.size;simpa using this))⟩
    ·rintro M φ W hJ hc F l' G hF;have HJ:=aF hJ;simp only[kn,nk,dW,aQ,aX,Act.put,aA,aK,aJ]at G;subst G;simp only[cZ,Nat.reduceAdd]at hF;dsimp only[kn,nk,dB,eN,eg,Act.put];and_intros;all_goals first|exact trivial|intro hw hn t K hK
     all_goals try (go_simp;with_reducible exact hK _ _ ⟨rfl,aI _ _⟩)
     ·have i:=HJ.o.1 (hn 6 _ rfl (by kernel_rfl));have z0:=aj i z0;have z1:=aj i z1;have z2:=aj i z2;have z3:=aj i z3;go_simp;exact hK _ _ ⟨rfl,aI _ _⟩
     ·have z8:W.cell? (ae m.heap.size 8)=some (ag rn):=by
       cases d:M 6 with
       |false=>exact((HJ.o.1 d).cell (bP z8)).trans z8
       |true=>
        obtain⟨R,D,z⟩:=HJ.o.2 d;have hz:=aj D z8;exact(ef ((z.block _ (bP hz)).trans (aV R w.heap.size m.heap.size _ (by omega)))).trans hz
      go_simp;exact hK _ _ ⟨rfl,aI _ _⟩
     ·have i:=HJ.o.1 t;have nW:=bt i aC;show Oper.wp _ _ _ _ _ _;refine iQ (ops:= #[]) rfl (ay rfl 37 _ _ rfl _ #[.slice O n0 N,.slice pe n1 ke,.slice ps n2 ks,.slice pa n3 ka] (by simp[Act.eval,hF]) (by simp[Act.eval,hF]) _ _ nW (by kernel_rfl) rfl (by simp[Value.oneCell']) ?_);exact⟨rfl,hK undef _ ⟨trivial,fun c=>by simp at c,fun _=>⟨W,i,aI _ _⟩⟩⟩
    ·rintro M φ W hM hJ;obtain⟨R,D,z⟩:=hJ.2 (hM 6 (by decide) rfl);simp only[kn,nk,eh,aQ,aX,Act.put,aA,aK,aJ];have m0:=bt D aC;have m2:=aL _ _ _ #[.slice O n0 N,.slice pe n1 ke,.slice ps n2 ks,.slice pa n3 ka] _ _ m0;have bx:R.heap.size<=W.heap.size:=(by have:=z.size;simpa using this);have hW: ∀q,q<wr.heap.size->q≠w.heap.size->W.heap[q]? =wr.heap[q]? :=fun q G d=>(z.block q (aT G D.size)).trans ((aV R w.heap.size q _ d).trans (D.block q G));have bD:=aF ((z.block _ (aH m0)).trans m2);have bF:=aF ((below_setRow (aw b6.o D) (aB _) #[.slice O n0 N,.slice pe n1 ke,.slice ps n2 ks,.slice pa n3 ka]).trans (z.mono (Nat.le_of_lt (aH m0))));have bG:PN (Rob (fun k=>k∉ys) (fun u=>pG B u (playP dk0 l) (.slice O n0 N) (.slice pe n1 ke) (.slice ps n2 ks) (.slice pa n3 ka) (.slice px n kx) ss aa H) W):=fun u hu ha=>bN.o u (bf D.size (bf bx hu)) fun q G d hy=>(ha q hy (aT G (bf D.size bx))).trans (hW q G d);go_wp2_with fail;exact Az w.heap.size #[.slice O n0 N,.slice pe n1 ke,.slice ps n2 ks,.slice pa n3 ka] _ rn 0 rfl rfl rfl rfl rfl rfl bD.o ⟨bF.o,.inr ⟨by rw[ap.o];omega,_,_,_,_,_,_,_,_,by rw[bQ.o];rfl,bG.o⟩⟩
theorem Kw (a:List (Cm×Value×Value))(v:Value)(w:World)(h:kU w v a)(f:Tbs w.heap.size w)(b: ∀q∈a,FL q.1):Calls prog 5 #[v] w (FP w.heap.size [] (a.map fun q=>q.1) w):=
 Cy _ [] a v w (aB _) h f b (fun q c u i ha=>by
  obtain⟨_,_,_,_,e⟩:=id h;obtain⟨j,g⟩:=List.getElem?_of_mem c;exact oU (e j q g).1.who fun k d=>ha k d d) (fun q c=>absurd c List.not_mem_nil)
end Go.Proofs.YtaoljfdfhggbbaaGreatDoor
