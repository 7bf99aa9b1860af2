/- Texts of the proof. -/
import Derived.Test.YtlkehieagdkgiaaGreatDoorPe33
set_option maxRecDepth 100000
set_option maxHeartbeats 8000000
namespace Go.Proofs.YtlkehieagdkgiaaGreatDoor
open Go.Proofs.Tryz Go.RowKit Lx Vx Mx Msk
def WhI (c:Co):Prop:= ∀a∈c.aps,∀r∈a.who,0<=r/\r<(c.res.length:Int)
theorem xL {c d:Co}(h:WhI c)(ha: ∀a∈d.aps,∃b∈c.aps,a.who=b.who)(j:c.res.length<=d.res.length):WhI d:=fun a i r f=>by
 obtain⟨b,g,e⟩:=ha a i;rw[e]at f;have:=h b g r f;omega
theorem LF (t:Int)(a:Ap):(ib t a).who=a.who:=by
 unfold ib;split
 ·rfl
 split<;>rfl
theorem PA {c:Co}(v:CI c)(y:SvI c)(h:WhI c)(x:Cm):WhI (doS c x).2:=by
 by_cases d:(doS c x).1.err=0;rotate_left 1
 ·rw[Ds d];exact h
 have same: ∀s:Co,s.aps=c.aps->c.res.length<=s.res.length->WhI s:=fun s ha g=>xL h (fun a j=>⟨a,by rw[<-ha];exact j,rfl⟩) g
 have i: ∀f:Ap->Ap×Int,(∀a,(f a).1.who=a.who)->WhI (fU c x.n f).2:=fun f k=>by
  unfold fU;split
  ·exact h
  split
  ·exact h
  ·rename_i A _;obtain⟨K,L⟩:=pZ (n:=x.n) (m:=c.aps.length) fun q=>A (.inl q);have t:x.n.toNat<c.aps.length:=(by omega);refine xL h (fun a j=> ?_) (aD _);rcases List.mem_or_eq_of_mem_set j with j|rfl
   ·exact⟨a,j,rfl⟩
   ·exact⟨_,by rw[dg,ay t];exact List.getElem_mem t,k _⟩
 unfold doS at d⊢;split
 ·unfold jE;split
  ·exact h
  ·exact same _ rfl (aD _)
 rename_i D;rw[ax D]at d;split
 ·unfold Aj;split
  ·exact h
  split
  ·exact h
  ·exact same _ rfl (by rw[aP];omega)
 rename_i E;rw[ax E]at d;split
 ·unfold Ak;split
  ·exact h
  split
  ·exact h
  ·exact same _ rfl (aD _)
 rename_i F;rw[ax F]at d;split
 ·unfold vO;split
  ·exact h
  split
  ·exact h
  split<;>exact h
 rename_i G;rw[ax G]at d;split
 ·rename_i w;rw[aB w]at d;obtain⟨p,C⟩:=Fb v d;obtain⟨_,q,l,k⟩:=Eg v y d;rw[C.is]at l k⊢
  have e:p=q:=by
   have l:(c.aps++[p])[(c.aps.length:Int).toNat]? =some q:=l;rw[dj]at l;simpa using l
  subst e;intro a ha r g;rcases da.1 ha with ha|ha
  ·exact h a ha r g
  ·cases cQ.1 ha;exact(k.2 r g).1
 rename_i w;rw[ax w]at d;split
 ·exact i _ fun _=>rfl
 rename_i H;rw[ax H]at d;split
 ·exact i _ fun _=>rfl
 rename_i I;rw[ax I]at d;split
 ·rename_i J;rw[aB J]at d;obtain⟨p,u,_,_,k⟩:=Eh v y d;have g:=(jY c x.n fun a=>fq c x.n a x.sday x.smin x.swho).2.1
  have o:(fU c x.n fun a=>fq c x.n a x.sday x.smin x.swho).2.aps=c.aps\/ ∃q,(fU c x.n fun a=>fq c x.n a x.sday x.smin x.swho).2.aps=c.aps.set x.n.toNat q:=by
   unfold fU;split
   ·exact .inl rfl
   split
   ·exact .inl rfl
   ·exact .inr ⟨_,rfl⟩
  rcases o with o|⟨q,o⟩
  ·exact same _ o (by rw[g];exact aD _)
  ·intro a ha r z;rw[g];rw[o]at ha u;rcases List.mem_or_eq_of_mem_set ha with ha|rfl
   ·exact h a ha r z
   ·have t:x.n.toNat<c.aps.length:=by
     have:=(aF.1 u).1;rwa[iE]at this
    rw[eP t]at u;cases u;have:=(k.2 r z).1;rwa[g]at this
 split
 ·unfold vN;split
  ·exact h
  ·refine xL h (fun a j=> ?_) (aD _);obtain⟨b,B,rfl⟩:=dR.1 j;exact⟨b,B,LF _ _⟩
 ·exact h
theorem Dw: ∀(l:List Cm) (c:Co),CI c->SvI c->WhI c->WhI (iK c l).2
 |[],_,_,_,h=>h
 |x::l,c,b,a,h=>Dw l (doS c x).2 (Ma b x) (Qt a x) (PA b a h x)
theorem LG (l:List Cm){p:Ap}(d:p∈(playP dk0 l).2.aps){r:Int}(e:r∈p.who):0<=r/\r<((playP dk0 l).2.res.length:Int):=by
 have h:=Dw l co0 JF Px fun a ha=>absurd ha List.not_mem_nil;obtain⟨_,b,_,c⟩:=Dv (qd l).2.1;rw[b];exact h p (by rw[<-c];exact d) r e
theorem JN {c:Co}{l:List Ap}{j:Nat}{a:Ap}(h:l[j]? =some a):ld c (l.take (j+1)) 0=ld c (l.take j) 0++if a.st≠3/\qD c a=false then [(j:Int)] else []:=by
 have b:=(aF.1 h).1;rw[eX,h,Option.toList_some,Du,eI,fg (by omega),cY]
theorem PB (c:Co)(x:Cm):(doS c x).2.aps.length<=c.aps.length+1:=by
 have a: ∀(n:Int) (f:Ap->Ap×Int),(fU c n f).2.aps.length<=c.aps.length+1:=fun n f=>by
  unfold fU;split
  ·exact Nat.le_succ _
  split
  ·exact Nat.le_succ _
  ·show(c.aps.set _ _).length<=_;rw[iE];exact Nat.le_succ _
 unfold doS;split
 ·unfold jE;split<;>exact Nat.le_succ _
 split
 ·unfold Aj;split
  ·exact Nat.le_succ _
  split<;>exact Nat.le_succ _
 split
 ·unfold Ak;split
  ·exact Nat.le_succ _
  split<;>exact Nat.le_succ _
 split
 ·unfold vO;split
  ·exact Nat.le_succ _
  split
  ·exact Nat.le_succ _
  split<;>exact Nat.le_succ _
 split
 ·unfold kE;split
  ·exact Nat.le_succ _
  split
  ·exact Nat.le_succ _
  split
  ·exact Nat.le_succ _
  ·show(c.aps++[_]).length<=_;rw[aP];exact aD _
 split
 ·exact a _ _
 split
 ·exact a _ _
 split
 ·exact a _ _
 split
 ·unfold vN;split
  ·exact Nat.le_succ _
  ·show(c.aps.map _).length<=_;rw[bc];exact Nat.le_succ _
 ·exact Nat.le_succ _
theorem Br: ∀(l:List Cm) (c:Co),(iK c l).2.aps.length<=c.aps.length+l.length
 |[],_=>aD _
 |x::l,c=>by
  have a:=Br l (doS c x).2;have b:=PB c x;show(iK (doS c x).2 l).2.aps.length<=_;rw[bV];omega
theorem LH (l:List Cm):(playP dk0 l).2.aps.length<=l.length:=by
 have h:=Br l co0;obtain⟨_,_,_,a⟩:=Dv (qd l).2.1;rw[a];have e:co0.aps.length=0:=rfl;omega
theorem N5 {s:List UInt8}(h:(fY s).1=0):(jJ s).1=0/\(jJ s).2=(fY s).2:=by
 unfold fY at h⊢;by_cases a:(jJ s).1≠0
 ·rw[aB a]at h;exact absurd h a
 ·rw[ax a];exact⟨Classical.not_not.1 a,rfl⟩
def anF (l:List (An×Value×Value)):List Value:=l.flatMap fun a=>(anC a.1 a.2.1 a.2.2).toList
structure pD (B:Nat)(w:World)(p:List An×Dk)(rv ev sv av asv:Value)(ss:List (Sv×Value))(aa:List (Ap×Value))(ls:List (An×Value×Value)):Prop where
 rules: ∃us,InR w rv us/\us.map (fun p=>p.1)=p.2.rules
 res:w.ownsRow B 9 1 ev p.2.res.length (p.2.res.map jU)
 svs:w.ownsRow B 36 4 sv ss.length (svF ss)
 sve:ss.map (fun p=>p.1)=p.2.svs
 svr: ∀q∈ss,fu w q.2 q.1.roles
 aps:w.ownsRow B 45 11 av aa.length (apF aa)
 ape:aa.map (fun p=>p.1)=p.2.aps
 apr: ∀q∈aa,dM w q.2 q.1.who
 ans:w.ownsRow B 43 6 asv ls.length (anF ls)
 ane:ls.map (fun p=>p.1)=p.1
 anr: ∀a∈ls,rC B w a.2.1 a.1.who/\dM w a.2.2 a.1.list
theorem pD.below {B:Nat}{w w':World}{p:List An×Dk}{k ev sv av d:Value}{l:List (Sv×Value)}{g:List (Ap×Value)}{j:List (An×Value×Value)}(h:pD B w p k ev sv av d l g j)(c:aq w w'):pD B w' p k ev sv av d l g j:=by
 have rk: ∀{e s n:Nat} {u:Value} {xs:List Value},w.ownsRow B e s u n xs->w'.ownsRow B e s u n xs:=fun i=>br i fun b f=>c.block b (i.lt b f).2;obtain⟨r,m,o⟩:=h.rules;exact⟨⟨r,m.below c,o⟩,rk h.res,rk h.svs,h.sve,fun q f=>(h.svr q f).below c,rk h.aps,h.ape,fun q f=>(h.apr q f).below c,rk h.ans,h.ane,fun a ha=>⟨⟨(h.anr a ha).1.1.below c,(h.anr a ha).1.2⟩,(h.anr a ha).2.below c⟩⟩
def Mc (B:Nat)(ys:List Nat)(l:List Cm)(w:World)(e:Ending)(w':World):Prop:=aq w w'/\((60<l.length/\e= .returned (.tuple #[.agg #[af,af,af,af],af,ag 0,ag 5]))\/(l.length<=60/\ ∃(b ev sv av a:Value) (f:List (Sv×Value)) (c:List (Ap×Value)) (d:List (An×Value×Value)),e= .returned (.tuple #[.agg #[b,ev,sv,av],a,ag (playP dk0 l).2.runs,ag 0])/\Rob (fun k=>k∉ys) (fun u=>pD B u (playP dk0 l) b ev sv av a f c d) w'))
theorem Q2:(prog.info? 43).map (fun i=>(i.zero,i.size,i.bytes))=some (some (.agg #[ag 0,ag 0,ag 0,ag 0,af,af]),6,80):=by kernel_rfl
theorem Qu:prog.underlying 30=some (.slice 43):=by kernel_rfl
theorem dsT:prog.underlying 29=some (.struct (prog.fieldsOf 29)):=by kernel_rfl
theorem Fd (c:Cm)(p q:Option Addr)(n m k j:Nat):(doC c (.slice p n k) (.slice q m j)).all (·.oneCell')=true:=by simp[doC,jU,Value.oneCell']
theorem Bs {R:Ending->World->Prop}{a:Act}{w:World}(g:Nat)(c:Array Value)(x:Value)(n er:Int)(o:c.size=4)(p:a.defers=[])(i:a.tmps.getD 2 undef=ab g 0)(j:a.tmps.getD 3 undef=x)(k:a.tmps.getD 4 undef=ag n)(l:a.tmps.getD 5 undef=ag er)
  (q:w.heap[g]? =ah c 29) (m:R (.returned (.tuple #[.agg c,x,ag n,ag er])) w):bodyPost prog f9 R .ret a w:=by
 refine aX (v:= .tuple #[.agg c,x,ag n,ag er]) ?_ p m;have s:f9.results= #[ResultVar.cell 2 29,ResultVar.tmp 3,ResultVar.tmp 4,ResultVar.tmp 5]:=rfl;have b:a.tmps[2]?.getD undef=ab g 0:=by simpa using i
 have d:a.tmps[3]?.getD undef=x:=by simpa using j
 have e:a.tmps[4]?.getD undef=ag n:=by simpa using k
 have f:a.tmps[5]?.getD undef=ag er:=by simpa using l
 have r:=en (P:=prog) w g 29 29 _ _ _ q dsT rfl (by rw[o];kernel_rfl);simp[results,b,d,e,f,asAddr,r]
theorem JO {d:Nat}{t:Tr}{L c:List Nat}(h: ∀b∈c,b∈L){q:Nat}(e:Fx d (t.ad L) q):Fx d (t.ad c) q:=⟨e.1,fun a=>e.2 (by
 rcases da.1 a with a|a
 ·exact ft _ (h q a)
 ·exact eV _ a)⟩
theorem dE.sub {B c:Nat}{d:Dk}{t:Tr}{L e:List Nat}{w:World}(h:dE B c d (t.ad L) w)(g: ∀b∈e,b∈L):dE B c d (t.ad e) w:=by
 obtain⟨k,m,j,o,kv,n,i,h⟩:=h;have mv: ∀{Φ:World->Prop},Rob (Fx c (t.ad L)) Φ w->Rob (Fx c (t.ad e)) Φ w:=fun l=>l.move (aD _) (fun _ _ _=>rfl) fun q _ a=>JO g a
 exact⟨k,m,j,o,kv,n,i,h.blk,h.lo,mv h.rules,mv h.codes,mv h.vers,mv h.kept,h.res,h.svs,h.sve,fun p f=>mv (h.svr p f),h.aps,h.ape,fun p f=>mv (h.apr p f),fun q a=>h.nx q (by
  rcases da.1 a with a|a
  ·exact ft _ (g q a)
  ·exact eV _ a)⟩
theorem LI (B:Nat)(ys:List Nat)(cs:List (Cm×Value×Value))(v:Value)(w:World)(ba:B<=w.heap.size)(h:lI w v cs)(hT:Tbs B w)(bn: ∀q∈cs,GP q.1)(c0: ∀q∈cs,Rob (fun k=>k<B) (fun u=>dM u q.2.2 q.1.swho) w)(c2: ∀q∈ys,B<=q/\ ∃c T f,w.heap[q]? =some (.cells c T f)/\ ¬(T=195\/T=216\/T=57)):Calls prog 9 #[v] w (Mc B ys (cs.map fun q=>q.1) w):=by
 obtain⟨m,hA,bA,nA⟩:=nb w #[af,af,af,af] 29;have HR:=aE h;obtain⟨p,kc,rfl,bk,cE⟩:=h;obtain⟨n,hn⟩:=au cs.length;have HN:=aE hn;have bK:=aE bn;have HT:=aE hT;have bS:=aE c0;have ax:=aE c2;have b3:=aE bA;rw[hn]at bk⊢;obtain⟨l,G⟩:=au (cs.map (fun q=>q.1));have cp:l.length=n:=by rw[<-G,bc,hn]
 rw[G];have HL:=aE G;have ap:=aE cp;by_cases bV:60<n
 ·have aZ:(60:Int)<(n:Int):=by omega
  have HO:=aE (below_setRow bA (aD _) #[af,af,af,af]);have bQ:=aE (aL _ _ _ #[af,af,af,af] _ _ nA);go_enter func9,ntmps9;go_wp2_with(refine az rfl 29 _ _ rfl _ _ rfl rfl _ _ nA (by kernel_rfl) rfl (by simp[Value.oneCell']) ?_)
  exact Bs w.heap.size _ _ 0 5 rfl rfl rfl rfl rfl rfl bQ.o ⟨HO.o,.inl ⟨by rw[ap.o];exact bV,rfl⟩⟩
 ·have aZ: ¬(60:Int)<(n:Int):=by omega
  obtain⟨wB,hB,bB,nB⟩:=nb m #[af,af,af,af,af,af,ag 0,af,ag 0] 73;have cA:w.heap.size<m.heap.size:=(by rw[<-hA];simp);have cB:m.heap.size<wB.heap.size:=(by rw[<-hB];simp)
  have cf:=Pq (B:=B) (xs:=w.heap.size::ys) (by omega) (fun q d=>by
   rcases bO.1 d with rfl|d
   ·omega
   ·obtain⟨D,_,_,_,z,_⟩:=ax.o q d;have:=aI z;omega) nB
  have b6:=aE cf;have b4:=aE (fV (aw b3.o bB) (bt bB nA));go_enter func9,ntmps9;go_wp2_with fail;go_loopw [7,9,16] (fun v _ q wr=> ∃(j:Nat) (E:Dk) (A:Tr) (L:List Nat) (H:List (An×Value×Value)),q=ag (j:Int)/\j<=n/\(A.xs=w.heap.size::ys/\ ∀q,q<w.heap.size->Gx m.heap.size A q)/\dE B m.heap.size E (A.ad L) wr/\(∀b,v.ownBlock=some b->b∈L)/\(∀b∈L,∃c,wr.heap[b]? =ah c 43)/\(aq w wr/\wr.heap[w.heap.size]? =ah #[af,af,af,af] 29)/\wr.ownsRow m.heap.size 43 6 v j (anF H)/\H.length=j/\E.given<=j/\(∀a∈H,Rob (Fx m.heap.size (A.ad L)) (fun u=>rC B u a.2.1 a.1.who) wr/\Rob (Fx m.heap.size (A.ad L)) (fun u=>dM u a.2.2 a.1.list) wr)/\playP dk0 l=(H.map (fun a=>a.1)++(playP E (l.drop j)).1,(playP E (l.drop j)).2)) (fun _ _ q _=>n-(intOf q).toNat);case atStart=>exact⟨0,dk0,⟨af,af,af,w.heap.size::ys⟩,[],[],rfl,by omega,⟨rfl,fun q d=>⟨by omega,nofun,nofun,nofun⟩⟩,b6.o,(fun b i=>by cases i),(fun b i=>by cases i),b4.o,dp _ _ _ _,rfl,io _,(fun a ha=>by cases ha),rfl⟩
  case round=>
   obtain⟨j,E,A,L,H,rfl,hj,⟨I,cm⟩,hd,bX,bY,⟨V,b2⟩,C,a7,cl,ac,hX⟩:=hrel;have c9:(0:Int)<=(j:Int):=(by omega);by_cases cn:j<n
   ·have bi:(j:Int)<(n:Int):=(by omega);obtain⟨⟨c,rv,wv⟩,X⟩: ∃q,cs[j]? =some q:=⟨cs[j]'(by rw[HN.o];exact cn),ay _⟩
    have co:l[j]? =some c:=(by rw[<-HL.o,a8,X];rfl);rw[GO E co]at hX;obtain⟨p',k',e',_,a0⟩:=HR.o;injection e' with e1 e3 e2;subst e1 e2;obtain⟨Y,g,o,cw,bo⟩:=a0 j _ X;subst cw;dsimp only at Y bo;have bf:=bK.o _ (aM X);have bp:=eB bo V;have bd:=Y.below V;obtain⟨O,N,rfl,_,_⟩:=Y.roles;obtain⟨pw,kw,rfl,_,_⟩:=Y.who;obtain⟨wZ,wC,hZ,nZ,hC,bC,nC⟩:=nbs wr #[ag 0,ag 0,ag 0,ag 0,.string ⟨#[]⟩,.string ⟨#[]⟩,ag 0,ag 0,ag 0,af,ag 0,ag 0,af] (doC c (.slice O c.sv.roles.length N) (.slice pw c.swho.length kw)) 41;have a5:=hd.below bC;have Q:=aw V bC;have b1:=bt bC b2;have bZ:Tbs B wC:=fun W hW=>HT.o W ((Q.mono ba).trans hW)
    have bb: ∀b∈L,∃c,wC.heap[b]? =ah c 43:=fun b i=>by
     obtain⟨x,hx⟩:=bY b i;exact⟨x,bt bC hx⟩
    have cD:=bf B m.heap.size E (A.ad L) wC O pw N kw a5 bZ (bg ba Q.size) (by omega) (fun b i=>by
     rcases da.1 i with i|i
     ·obtain⟨x,hx⟩:=bb b i;exact⟨x,_,_,hx,by decide⟩
     ·rw[I]at i;rcases bO.1 i with rfl|i
      ·exact⟨_,_,_,b1,by decide⟩
      ·obtain⟨_,x,T,f,z,h3⟩:=ax.o b i;exact⟨x,T,f,bt Q z,h3⟩) (bd.below bC) ((bS.o _ (aM X)).below Q)
    have ct:=br C fun b d=>bC.block b (C.lt b d).2
    have bh:(∀b∈L,Gx m.heap.size (A.ad L) b)/\Gx m.heap.size (A.ad L) w.heap.size:=by
     obtain⟨_,_,_,_,_,_,_,t⟩:=a5;exact⟨fun b i=>(t.nx b (ft _ i)).2.2,(t.nx _ (eV _ (by rw[I];exact bq))).2.2⟩
    have aX:=aE b1;obtain⟨P,hP⟩:=au (doP E c);have bH:Rb (P.2.given<=E.given+1):=(by have:=JB E c;rw[hP]at this;exact this);rw[hP]at cD hX
    have HX:Rb (playP dk0 l=((H.map (fun a=>a.1)++[P.1])++(playP P.2 (l.drop (j+1))).1,(playP P.2 (l.drop (j+1))).2)):=by
     show _=_;rw[hX,ef];rfl
    have aS:Rb (∀a∈H,Rob (Fx m.heap.size (A.ad L)) (fun u=>rC B u a.2.1 a.1.who) wC/\Rob (Fx m.heap.size (A.ad L)) (fun u=>dM u a.2.2 a.1.list) wC):=fun a ha=>⟨(ac a ha).1.below bC,(ac a ha).2.below bC⟩
    have an:=aE Q;have c3:=aE a5;have ar:=aE ct;have ao:=aE bh;have aO:=aE bX;have bI:=aE bb;have bJ:=aE a7;have bR:=aE I;have ai:=aE cm;have b8:=aE cl;go_wp2_with(first|(refine wpList_load_mid rfl 41 _ rfl g (o+j*13) rfl (doC c (.slice O c.sv.roles.length N) (.slice pw c.swho.length kw)).toList _ bp doT rfl (by kernel_rfl) ?_)|(refine az rfl 41 _ _ rfl _ _ rfl rfl _ _ nZ (by kernel_rfl) rfl (Fd _ _ _ _ _ _ _) ?_;rw[hC])|(refine aR rfl 41 _ rfl _ rfl _ _ _ _ nC doT rfl (by kernel_rfl) ?_))
    refine cD.mono ?_;rintro e w4 ⟨t',aF,lv,rfl,ch,r,b0,bj⟩
    obtain⟨y,cz,rfl⟩: ∃y:Tr,y.xs=w.heap.size::ys/\t'=y.ad L:=⟨⟨t'.ev,t'.sv,t'.av,w.heap.size::ys⟩,rfl,by
     have e:=r.xs;obtain⟨a1,a2,a3,a4⟩:=t';dsimp only[Tr.ad]at e⊢;rw[e,bR.o]⟩
    obtain⟨p5,c5,bx,_,_⟩:=b0.here.1;obtain⟨p6,c6,bz,_,_⟩:=bj.here;obtain⟨wE,hE,U,nE⟩:=nb w4 #[ag P.1.err,ag P.1.num,ag P.1.day,ag P.1.min,aF,lv] 43;have cb:aq w w4:=an.o.trans ⟨r.os,r.tape,r.output,r.size,fun q d=>r.blk q (ai.o q d) (aU d an.o.size)⟩;have bG:Rb (∀q,q<w.heap.size->Gx m.heap.size y q):=fun q d=>r.gx q (aU d an.o.size) (ai.o q d);have cd:=aw cb U;have Z:wE.ownsRow m.heap.size 43 6 u7 j (anF H):=br ar.o fun b d=>(U.block b (aU (ar.o.lt b d).2 r.size)).trans (r.blk b (ao.o.1 b (aO.o b d)) (ar.o.lt b d).2);have be:=ch.below U;have aY:=aE (bt U ((r.blk _ ao.o.2 (aI aX.o)).trans aX.o))
    have c4:Rb (∀b∈L,∃c,wE.heap[b]? =ah c 43):=fun b i=>by
     obtain⟨x,hx⟩:=bI.o b i;exact⟨x,bt U ((r.blk b (ao.o.1 b i) (aI hx)).trans hx)⟩
    have aV:Rb (∀a∈H++[(P.1,aF,lv)],Rob (Fx m.heap.size (y.ad L)) (fun u=>rC B u a.2.1 a.1.who) wE/\Rob (Fx m.heap.size (y.ad L)) (fun u=>dM u a.2.2 a.1.list) wE):=fun a ha=>by
     rcases da.1 ha with ha|ha
     ·exact⟨(r.rob (aS.o a ha).1).below U,(r.rob (aS.o a ha).2).below U⟩
     ·rw[cQ.1 ha];exact⟨b0.below U,bj.below U⟩
    have b7:=aE be
    have cx:m.heap.size<=wE.heap.size:=by
     obtain⟨_,_,_,_,_,_,_,t⟩:=be;exact Nat.le_of_lt (aI t.blk)
    have aG:=aE cd;have bU:(#[ag P.1.err,ag P.1.num,ag P.1.day,ag P.1.min,aF,lv]:Array Value).all (·.oneCell')=true:=(by rw[bx,bz];simp[Value.oneCell']);unfold anC;subst bx bz;go_wp2_with(at_builtin;refine iN rfl _ _ 30 43 rfl Qu Q2 rfl (by decide) (by decide) rfl Z rfl nE rfl bU (by omega) cx ?_)
    rintro v2 S aB a6 ce g5 c7 rfl;obtain⟨L',ci,bW,c8,cq⟩:=b7.o.grown Z aO.o a6 aB ce;have cc:aq w S/\S.heap[w.heap.size]? =ah #[af,af,af,af] 29:=⟨aG.o.grown a6 aG.o.size (fun k hk=>by have:=(Z.lt k hk).1;omega),(a6.block _ (aI aY.o) (fun e=>by have:=(Z.lt _ e.symm).1;omega)).trans aY.o⟩
    have bN:Rb (∃(L:List Nat) (J:List (An×Value×Value)),dE B m.heap.size P.2 (y.ad L) S/\(∀b,(Value.slice (some (ae g5 0)) (j+1) c7).ownBlock=some b->b∈L)/\(∀b∈L,∃c,S.heap[b]? =ah c 43)/\(aq w S/\S.heap[w.heap.size]? =ah #[af,af,af,af] 29)/\S.ownsRow m.heap.size 43 6 (.slice (some (ae g5 0)) (j+1) c7) (j+1) (anF J)/\J.length=j+1/\(∀a∈J,Rob (Fx m.heap.size (y.ad L)) (fun u=>rC B u a.2.1 a.1.who) S/\Rob (Fx m.heap.size (y.ad L)) (fun u=>dM u a.2.2 a.1.list) S)/\J.map (fun a=>a.1)=H.map (fun a=>a.1)++[P.1]):=by
     have bv: ∀b∈[g5],b∈L':=fun b i=>(by rw[cQ.1 i];exact bW g5 rfl);have bl: ∀{Φ:World->Prop},Rob (Fx m.heap.size (y.ad L)) Φ wE->Rob (Fx m.heap.size (y.ad [g5])) Φ S:=fun hR=>(cq _ hR).move (aD _) (fun _ _ _=>rfl) fun q _ d=>JO bv d;refine⟨[g5],H++[_],ci.sub bv,fun b i=>by rw[cQ];exact(aN i).symm,fun b i=> ?_,cc,?_,by rw[aP,bJ.o];rfl,fun a ha=>⟨bl (aV.o a ha).1,bl (aV.o a ha).2⟩,by rw[dZ];rfl⟩
     ·rw[cQ.1 i];rcases aB.2 with⟨e,_⟩|⟨g',cap,bT,e,_,ck,_⟩
      ·cases e
      ·injection e with e1 _ _;injection e1 with e1;injection e1 with e1;subst e1;exact⟨bT,ck⟩
     ·unfold anF;rw[fG];exact aB
    go_wp2_with fail;go_roundw
    case rel=>
     obtain⟨L,J,q1,q2,q3,q4,q5,q6,q7,q8⟩:=bN.o;exact⟨j+1,P.2,y,L,J,by go_num,by omega,⟨cz,bG.o⟩,q1,q2,q3,q4,q5,q6,by have:=bH.o;have:=b8.o;omega,q7,by rw[q8];exact HX.o⟩
    case measure=>simp[intOf];omega
   ·have bi: ¬(j:Int)<(n:Int):=(by omega);obtain rfl:n=j:=(by omega);rw[dq (by rw[ap.o];exact aD _)]at hX
    have HX:Rb (playP dk0 l=(H.map (fun a=>a.1),E)):=by
     show _=_;rw[hX];simp[playP]
    obtain⟨bn,rv,cv,vv,kv,ss,aa,t⟩:=hd
    obtain⟨O,N,bu⟩: ∃p c,rv= .slice p E.rules.length c:=by
     obtain⟨us,D,z⟩:=t.rules.here;obtain⟨p,c,e⟩:=D.form;exact⟨p,c,by rw[e,<-z,bc]⟩
    obtain⟨pe,ke,cj⟩:=cg t.res;obtain⟨ps,ks,cy⟩:=cg t.svs;obtain⟨pa,ka,ca⟩:=cg t.aps;obtain⟨px,kx,c1⟩:=cg C;have z0:=cr 0 t.blk rfl;have z1:=cr (v:=A.ev) 1 t.blk rfl;have z2:=cr (v:=A.sv) 2 t.blk rfl;have z3:=cr (v:=A.av) 3 t.blk rfl;have z8:=cr 8 t.blk rfl;obtain⟨n0,h0⟩:=au E.rules.length;obtain⟨n1,D⟩:=au E.res.length;obtain⟨n2,z⟩:=au ss.length;obtain⟨n3,h3⟩:=au aa.length;obtain⟨rn,bs⟩:=au E.runs;have al:A.ev= .slice pe n1 ke:=(by rw[<-D];exact cj);have am:A.sv= .slice ps n2 ks:=(by rw[<-z];exact cy);have ak:A.av= .slice pa n3 ka:=(by rw[<-h3];exact ca);rw[bu,h0]at z0;rw[al]at z1;rw[am]at z2;rw[ak]at z3;rw[bs]at z8;subst c1;have aC:=b2
    have bM:Rb (∀W:World,wr.heap.size<=W.heap.size->(∀q,q<wr.heap.size->q≠w.heap.size->q∉ys->W.heap[q]? =wr.heap[q]?)->pD B W (playP dk0 l) (.slice O n0 N) (.slice pe n1 ke) (.slice ps n2 ks) (.slice pa n3 ka) (.slice px n kx) ss aa H):=fun W hs hW=>by
     have mv: ∀{Φ:World->Prop},Rob (Fx m.heap.size (A.ad L)) Φ wr->Φ W:=fun hR=>hR W hs fun q d G=>hW q G (fun e=>d.2 (eV _ (by rw[I,e];exact bq))) fun e=>d.2 (eV _ (by rw[I];exact bL _ e));have a9:=fun q (d:q∈w.heap.size::ys)=>(t.nx q (eV _ (by rw[I];exact d))).2.2;have rk: ∀{B e s k:Nat} {u:Value} {xs:List Value},wr.ownsRow B e s u k xs->(∀q∈w.heap.size::ys,some q≠u.ownBlock)->W.ownsRow B e s u k xs:=fun hr hn=>br hr fun b i=>hW b (hr.lt b i).2 (fun e=>hn b (by rw[e];exact bq) i.symm) fun e=>hn b (bL _ e) i.symm
     have bm:=rk C fun q d e=>by
      have D:=(C.lt _ e.symm).1;rcases bO.1 d with rfl|d
      ·omega
      ·obtain⟨_,_,_,_,z,_⟩:=ax.o q d;have:=aI z;omega
     rw[HX.o];refine⟨?_,?_,?_,t.sve,fun q d=>mv (t.svr q d),?_,t.ape,fun q d=>mv (t.apr q d),⟨bm.1.trans (by rw[a7]),?_⟩,rfl,fun a ha=>⟨mv (ac a ha).1,mv (ac a ha).2⟩⟩
     ·rw[<-h0,<-bu];exact mv t.rules
     ·rw[<-al];exact rk t.res fun q d=>(a9 q d).2.1
     ·rw[<-am];exact rk t.svs fun q d=>(a9 q d).2.2.1
     ·rw[<-ak];exact rk t.aps fun q d=>(a9 q d).2.2.2
     ·rw[a7];exact bm.2.imp id fun⟨g,c,cu,q1,q2,q3⟩=>⟨g,c,cu,q1,by omega,q3⟩
    have bP:Rb ((playP dk0 l).2.runs=rn):=(by show _=_;rw[HX.o];exact bs);have b5:=aE V;have cC:=aI aC;go_upto_region 10 with fail;refine dl (fun M _ W=>(M 6=false->aq wr W)/\(M 6=true-> ∃R,aq wr R/\Below R.heap.size (R.setRow w.heap.size #[.slice O n0 N,.slice pe n1 ke,.slice ps n2 ks,.slice pa n3 ka]) W)) [kn 26 (ab m.heap.size 0),kn 27 (.agg #[.slice O n0 N,.slice pe n1 ke,.slice ps n2 ks,.slice pa n3 ka]),kn 28 (.slice px n kx),kn 29 (ab m.heap.size 7),kn 30 (ab m.heap.size 8),kn 31 (ag rn),nk,kn 3 (.slice px n kx),kn 4 (ag rn),kn 5 (ag 0)] (fun _=>⟨fun _=>(aH _ _).drew,(fun h=>by cases h)⟩) (fun _ _ _ _ i h=>⟨fun c=>(h.1 c).trans (i.mono (h.1 c).size),fun c=> ?_⟩) (by kernel_rfl) ?_ ?_
    ·obtain⟨R,D,z⟩:=h.2 c;exact⟨R,D,z.trans (i.mono (by have:=z.size;simpa using this))⟩
    ·rintro M φ W hJ hc F l' G hF;have HJ:=aE hJ;simp only[kn,nk,dX,aQ,aT,Act.put,aA,aK,aJ]at G;subst G;simp only[dn,Nat.reduceAdd]at hF;dsimp only[kn,nk,dy,eJ,dY,Act.put];and_intros;all_goals first|exact trivial|intro hw hn t K hK
     all_goals try (go_simp;with_reducible exact hK _ _ ⟨rfl,aH _ _⟩)
     ·have i:=HJ.o.1 (hn 6 _ rfl (by kernel_rfl));have z0:=aj i z0;have z1:=aj i z1;have z2:=aj i z2;have z3:=aj i z3;go_simp;exact hK _ _ ⟨rfl,aH _ _⟩
     ·have z8:W.cell? (ae m.heap.size 8)=some (ag rn):=by
       cases d:M 6 with
       |false=>exact((HJ.o.1 d).cell (cZ z8)).trans z8
       |true=>
        obtain⟨R,D,z⟩:=HJ.o.2 d;have hz:=aj D z8;exact(et ((z.block _ (cZ hz)).trans (aW R w.heap.size m.heap.size _ (by omega)))).trans hz
      go_simp;exact hK _ _ ⟨rfl,aH _ _⟩
     ·have i:=HJ.o.1 t;have nW:=bt i aC;show Oper.wp _ _ _ _ _ _;refine gV (ops:= #[]) rfl (az rfl 29 _ _ rfl _ #[.slice O n0 N,.slice pe n1 ke,.slice ps n2 ks,.slice pa n3 ka] (by simp[Act.eval,hF]) (by simp[Act.eval,hF]) _ _ nW (by kernel_rfl) rfl (by simp[Value.oneCell']) ?_);exact⟨rfl,hK undef _ ⟨trivial,fun c=>by simp at c,fun _=>⟨W,i,aH _ _⟩⟩⟩
    ·rintro M φ W hM hJ;obtain⟨R,D,z⟩:=hJ.2 (hM 6 (by decide) rfl);simp only[kn,nk,d8,aQ,aT,Act.put,aA,aK,aJ];have m0:=bt D aC;have m2:=aL _ _ _ #[.slice O n0 N,.slice pe n1 ke,.slice ps n2 ks,.slice pa n3 ka] _ _ m0;have bw:R.heap.size<=W.heap.size:=(by have:=z.size;simpa using this);have hW: ∀q,q<wr.heap.size->q≠w.heap.size->W.heap[q]? =wr.heap[q]? :=fun q G d=>(z.block q (aU G D.size)).trans ((aW R w.heap.size q _ d).trans (D.block q G));have b9:=aE ((z.block _ (aI m0)).trans m2);have bD:=aE ((below_setRow (aw b5.o D) (aD _) #[.slice O n0 N,.slice pe n1 ke,.slice ps n2 ks,.slice pa n3 ka]).trans (z.mono (Nat.le_of_lt (aI m0))));have bF:Rb (Rob (fun k=>k∉ys) (fun u=>pD B u (playP dk0 l) (.slice O n0 N) (.slice pe n1 ke) (.slice ps n2 ks) (.slice pa n3 ka) (.slice px n kx) ss aa H) W):=fun u hu ha=>bM.o u (bg D.size (bg bw hu)) fun q G d hy=>(ha q hy (aU G (bg D.size bw))).trans (hW q G d);go_wp2_with fail;exact Bs w.heap.size #[.slice O n0 N,.slice pe n1 ke,.slice ps n2 ks,.slice pa n3 ka] _ rn 0 rfl rfl rfl rfl rfl rfl b9.o ⟨bD.o,.inr ⟨by rw[ap.o];omega,_,_,_,_,_,_,_,_,by rw[bP.o];rfl,bF.o⟩⟩
theorem xM (a:List (Cm×Value×Value))(v:Value)(w:World)(h:lI w v a)(f:Tbs w.heap.size w)(b: ∀q∈a,GP q.1):Calls prog 9 #[v] w (Mc w.heap.size [] (a.map fun q=>q.1) w):=
 LI _ [] a v w (aD _) h f b (fun q c u i ha=>by
  obtain⟨_,_,_,_,e⟩:=id h;obtain⟨j,g⟩:=List.getElem?_of_mem c;exact sF (e j q g).1.who fun k d=>ha k d d) (fun q c=>absurd c List.not_mem_nil)
theorem Qv {B:Nat}{w:World}{av:Value}{b:List (Ap×Value)}(h:w.ownsRow B 45 11 av b.length (apF b))(m: ∀q∈b,dM w q.2 q.1.who){j:Nat}(l:j<b.length): ∃(a:Ap) (p:Option Addr) (c g d:Nat),b[j]? =some (a,.slice p a.who.length c)/\av= .slice (some (ae g 0)) b.length d/\w.rangeAt g (j*11) (apC (a,.slice p a.who.length c)).toList/\dM w (.slice p a.who.length c) a.who:=by
 obtain⟨⟨a,v⟩,e⟩: ∃p,b[j]? =some p:=⟨b[j],ay l⟩
 have ha:=m _ (aM e);obtain⟨p,c,f,_,_⟩:=id ha;dsimp only at f ha;subst f;obtain⟨g,d,i,_,k⟩:=iJ pA h rfl e;exact⟨a,p,c,g,d,e,i,k,ha⟩
theorem N6 {w:World}{v:Value}{l:List Int}(h:dM w v l):l.length<9223372036854775808:=by
 obtain⟨_,_,_,h,_⟩:=h;exact h
theorem N7 {w:World}{p:Option Addr}{n c:Nat}{l:List Int}(h:dM w (.slice p n c) l){j:Nat}{x:Int}(b:l[j]? =some x): ∃g o:Nat,p=some ⟨g,o,none⟩/\w.cell? (ae g (o+j))=some (ag x):=by
 obtain⟨_,_,e,_,h⟩:=h;injection e with a;subst a;exact h j x b
theorem xN {B:Nat}{w:World}{e:TypeId}{m:Nat}{v:Value}{n:Nat}{xs:List Value}(h:w.ownsRow B e m v n xs):n<=9223372036854775807:=by
 rcases h.2 with⟨_,e⟩|⟨_,_,_,_,_,_,b,a,_⟩
 ·omega
 ·unfold maxLen at a;omega
theorem wnK {b:Array Oper}{A:Act}{o:Oper}{e d:Nat}{a:Bool}(g:o.guard=some (e,a))(f:(b[e]?).bind (·.dst)=some d)(c:A.tmps[d]?.getD undef= .bool a):Region.wanted o (yielded b A.tmps)=true:=by
 unfold Region.wanted;rw[g];unfold yielded;dsimp only;rw[f];dsimp only[Option.bind_some];cases h:A.tmps[d]? with
 |none=>rw[h]at c;cases c
 |some v=>
  rw[h]at c;have:v= .bool a:=c;subst this;simp
theorem JP {l:List Ru}{day:Int}(h:mF l day=(0,0)){i:Nat}(hi:i<l.length):(kY l day)[i]? =some (gX l (wkB day) day i):=by
 unfold kY;rw[aB (by rw[h]),a8,List.getElem?_range hi];rfl
def Qw (w:World)(i:Option Addr)(g:Nat)(c:Co)(a:Ap)(r:Int):Prop:= ∃(e b:Nat) (s:List UInt8) (at_:Int),r=(b:Int)/\b<g/\i=some ⟨e,0,none⟩/\w.cell? (ae e b)=some (.string ⟨s.toArray⟩)/\atP5 c.rules s=at_/\(at_<0/\mE c a r=false\/ ∃(d:Nat) (f:Nat->Bool),at_=(d:Int)/\(kY c.rules a.day)[d]? =some f/\mE c a r=ff f a.fr a.to)
theorem LJ {B:Nat}{w:World}{l:List Cm}{O ev sv av s:Value}{Q:List (Sv×Value)}{q:List (Ap×Value)}{N:List (An×Value×Value)}(h:pD B w (playP dk0 l) O ev sv av s Q q N){y:Option Addr}{x M:Nat}(G:ev= .slice y x M){j:Nat}(H:j<q.length): ∃(d:Ap) (p:Option Addr) (o m u:Nat),(playP dk0 l).2.aps[j]? =some d/\av= .slice (some (ae m 0)) q.length u/\w.rangeAt m (j*11) (apC (d,.slice p d.who.length o)).toList/\dM w (.slice p d.who.length o) d.who/\mF (playP dk0 l).2.rules d.day=(0,0)/\ ∀r∈d.who,Qw w y x (coD (playP dk0 l).2) d r:=by
 obtain⟨a,p,o,m,u,ha,K,i,L⟩:=Qv h.aps h.apr H;have f:(playP dk0 l).2.aps[j]? =some a:=by rw[<-h.ape,a8,ha];rfl
 have v:=(LD l (aM f)).1;have k:=fun r (i:r∈a.who)=>LG l (aM f) i;generalize playP dk0 l=P at*;refine⟨a,p,o,m,u,f,K,i,L,v,fun r i=> ?_⟩;obtain⟨S,r1⟩:=k r i;obtain⟨b,rfl⟩: ∃n:Nat,r=(n:Int):=⟨r.toNat,by omega⟩
 have t:b<P.2.res.length:=by omega
 have J:P.2.res[b]? =some (P.2.res.getD b []):=by rw[dg,ay t];rfl
 obtain⟨C,c,e,_,F⟩:=nJ h.res (by omega);rw[G]at e;injection e with A R;have E:=ny P.2.rules (P.2.res.getD b []);have D:mE (coD P.2) a (b:Int)=(decide (0<=atP5 P.2.rules (P.2.res.getD b []))&&ff (gX P.2.rules (wkB a.day) a.day (atP5 P.2.rules (P.2.res.getD b [])).toNat) a.fr a.to):=rfl;refine⟨C,b,P.2.res.getD b [],_,rfl,by omega,A,F b _ (by rw[a8,J];rfl),rfl,?_⟩;rw[D];show atP5 P.2.rules _<0/\_\/_;by_cases I:atP5 P.2.rules (P.2.res.getD b [])<0
 ·exact .inl ⟨I,by rw[bn (by omega),Bool.false_and]⟩
 ·obtain⟨z,g⟩: ∃n:Nat,atP5 P.2.rules (P.2.res.getD b [])=(n:Int):=⟨(atP5 P.2.rules (P.2.res.getD b [])).toNat,by omega⟩
  rw[g]at E⊢;refine .inr ⟨z,_,g,JP v (by omega),?_⟩;rw[dj,bh (by omega),ip]
section
def oE (a b:Int):Ex:=⟨3,a,b,[],[]⟩
def fM (a b:Int):M:=fun i=>(decide (a<=(i:Int))&&decide ((i:Int)<b))&&decide (i<1440)
def oL (a b:Int):List Ru:=[([97],oE a b)]
theorem Md {a b:Int}:gF (oL a b) ([97],oE a b)=[]:=by
 have:nms (oE a b)=[]:=by simp[oE,md,jL]
 unfold gF;dsimp only;rw[this];rfl
theorem PC {a b:Int}:iT (oL a b)=fun _=>[]:=by
 funext i;match i with
 |0=>exact(re rfl).trans (by rw[Md];rfl)
 |i+1=>rfl
section
variable {a b:Int} (h:0<=a/\a<b/\b<=1440)
 include h
theorem N8:gC (oL a b)=(0,0):=by
 have c:(shapeP (oE a b) 1 0).1=0:=by
  have:aloneP (oE a b)=0:=(by simp[aloneP,oE,kidsP,rangeP,h]);rw[kL,ax (by decide),ax (by simp[this])];rfl
 unfold gC oL jR ruleP;rw[c];rfl
theorem GR:dC (oL a b)=(0,0):=by
 refine FT (by rw[N8 h]) ?_ ?_ ?_
 ·intro i hi;match i,hi with
  |0,_=>rfl
  |i+1,hi=>exact absurd hi (by show¬(i+1<1);omega)
 ·intro i hi;match i,hi with
  |0,_=>show decide (-1∈gF (oL a b) ([97],oE a b))=false;rw[Md];decide
  |i+1,hi=>exact absurd hi (by show¬(i+1<1);omega)
 ·intro i hi;unfold lk3;rw[PC];match i,hi with
  |0,_=>rfl
  |i+1,hi=>exact absurd hi (by show¬(i+1<1);omega)
theorem Mf:iB (oL a b)=(0,0):=by
 have c:stdE (oE a b)=true:=by rw[sW];rfl
 have c0:(fX (oL a b)).getD 0 []=[⟨1,0,0,0,rs (mnE (oE a b)) 1440⟩]:=by rw[ng (u:=([97],oE a b)) rfl,pj c]
 have m0:gM (oL a b) 0=(1,1):=by
  rw[vL (by rw[GR h]) (by show 0<1;decide)];unfold mG;rw[c0];rfl
 unfold iB;rw[GR h,ax (by decide)]
 have:ko (gM (oL a b)) (oL a b).length 0= -1:=by
  show ko (gM (oL a b)) 1 0= -1;unfold ko;rw[m0,ax (by decide)];rfl
 rw[this,ax (by decide)]
theorem PD (c:Int->Bool)(day:Int):gX (oL a b) c day 0=fM a b:=by
 rw[ph (by rw[GR h]) (u:=([97],oE a b)) rfl,jG];rfl
end
end
def aS:List UInt8:=[114,117,108,101,32,97,32,61,32,48,57,58,48,48,45,49,55,58,48,48,59]
theorem PE:jJ aS=(0,oL 540 1020):=by kernel_rfl
theorem PF:fY aS=(0,oL 540 1020):=by
 unfold fY;rw[PE,ax (by decide),Mf (by decide)]
def lw:Sv:=⟨60,0,0,[[0]]⟩
def aC:List Cm:=[⟨1,0,0,0,aS,[],sv0,0,0,[]⟩,⟨2,0,0,0,[],[97],sv0,0,0,[]⟩,⟨3,0,0,0,[],[],lw,0,0,[]⟩,⟨4,0,7,2,[],[],sv0,0,0,[]⟩,⟨5,0,0,0,[],[],sv0,7,540,[0]⟩]
def dA (aps:List Ap)(k:List Vx.Kp)(n:Int):Dk:=⟨oL 540 1020,[[97]],[lw],aps,[1],1,k,n⟩
theorem GS (k:List Vx.Kp)(n day:Int)(j:0<=day)(l:day<146097):jk (fd (oL 540 1020)) k n 1 0 day=if mg k 1 0 day=true then⟨(k.getD (fQ 0 day k 0).toNat k0).m,fC k (fQ 0 day k 0)++[k.getD (fQ 0 day k 0).toNat k0],n,0,0⟩ else⟨fM 540 1020,qx (fC k (fQ 0 day k 0)++[⟨0,day,1,fM 540 1020⟩]),IntKind.i64.wrap (n+1),0,0⟩:=by
 obtain⟨g,f⟩:=Dh (Mf (a:=540) (b:=1020) (by decide)) (i:=0) (by decide) j l;rw[PD (by decide)]at f;have d: ¬(jh (fd (oL 540 1020)) 0 day).1≠0:=fun c=>c g;have e:oZ (fd (oL 540 1020)) 0 day=fM 540 1020:=f;unfold jk;rw[ax d,e]
theorem Ao (aps:List Ap)(k:List Vx.Kp)(n day:Int):fw (dA aps k n) 0 day=((jk (fd (oL 540 1020)) k n 1 0 day).m,dA aps (jk (fd (oL 540 1020)) k n 1 0 day).l (jk (fd (oL 540 1020)) k n 1 0 day).n):=rfl
def kA (day:Int):Vx.Kp:=⟨0,day,1,fM 540 1020⟩
theorem a_7:fw (dA [] [] 0) 0 7=(fM 540 1020,dA [] [kA 7] 1):=by
 rw[Ao,GS _ _ _ (by decide) (by decide)];rfl
theorem a_8:fw (dA [] [kA 7] 1) 0 8=(fM 540 1020,dA [] [kA 7,kA 8] 2):=by
 rw[Ao,GS _ _ _ (by decide) (by decide)];rfl
theorem Q5:fw (dA [] [kA 7,kA 8] 2) 0 7=(fM 540 1020,dA [] [kA 8,kA 7] 2):=by
 rw[Ao,GS _ _ _ (by decide) (by decide)];rfl
def mA:M:=rW (fM 540 1020) (inl [])
theorem Qx:iW lw 7 2 0 (dA [] [] 0)=([[mA],[mA]],dA [] [kA 7,kA 8] 2):=by
 have f7:iH (dA [] [] 0) ((0:Nat):Int) (7+((0:Nat):Int)) (-1)=(mA,dA [] [kA 7] 1):=by
  unfold iH;show(rW (fw (dA [] [] 0) 0 7).1 _,(fw (dA [] [] 0) 0 7).2)=_;rw[a_7];rfl
 have f8:iH (dA [] [kA 7] 1) ((0:Nat):Int) (7+((1:Nat):Int)) (-1)=(mA,dA [] [kA 7,kA 8] 2):=by
  unfold iH;show(rW (fw (dA [] [kA 7] 1) 0 8).1 _,(fw (dA [] [kA 7] 1) 0 8).2)=_;rw[a_8];rfl
 have a:gG lw (7+((0:Nat):Int)) 1 0 (dA [] [] 0)=([mA],dA [] [kA 7] 1):=by
  unfold gG;rw[aB (by decide),f7];rfl
 have b:gG lw (7+((1:Nat):Int)) 1 0 (dA [] [kA 7] 1)=([mA],dA [] [kA 7,kA 8] 2):=by
  unfold gG;rw[aB (by decide),f8];rfl
 have c:iW lw 7 1 1 (dA [] [kA 7] 1)=([[mA]],dA [] [kA 7,kA 8] 2):=by
  show((gG lw (7+((1:Nat):Int)) 1 0 (dA [] [kA 7] 1)).1::[],(gG lw (7+((1:Nat):Int)) 1 0 (dA [] [kA 7] 1)).2)=_;rw[b]
 show((gG lw (7+((0:Nat):Int)) 1 0 (dA [] [] 0)).1::(iW lw 7 1 1 (gG lw (7+((0:Nat):Int)) 1 0 (dA [] [] 0)).2).1,(iW lw 7 1 1 (gG lw (7+((0:Nat):Int)) 1 0 (dA [] [] 0)).2).2)=_;rw[a,c]
theorem N9:mL 60 0 0 [[0]] [mA]=some (540,[0]):=by
 have e:sT 60 [mA] [[0]]=[540]:=by kernel_rfl
 have a:iS 60 [mA] [[0]]=[540]:=by
  unfold iS;rw[e,List.mergeSort_singleton];rfl
 unfold mL;show(iS 60 [mA] [[0]]).findSome? _=_;rw[a];kernel_rfl
theorem PG:jI (dA [] [] 0) 0 7 2=(⟨0,0,7,540,[0],[]⟩,dA [] [kA 7,kA 8] 2):=by
 have e:ia lw [[mA],[mA]]=⟨0,0,540,[0]⟩:=by
  have a:lT lw [[mA],[mA]]=0:=(by decide)
  have b:lU lw [[mA],[mA]] 0=some (0,540,[0]):=by
   unfold lU;show(match mL 60 0 0 [[0]] [mA] with|some x=>some (0,x.1,x.2)|none=>_)=_;rw[N9]
  unfold ia;rw[ax (by decide),ax (by rw[a];decide),b];rfl
 unfold jI;rw[ax (by decide),ax (by decide)];show(let q:=iW lw 7 2 0 (dA [] [] 0);let f:=ia lw q.1;if f.err≠0 then(noA f.err,q.2) else((⟨0,0,f.day+7,f.min,f.who,[]⟩:An),q.2))=_;rw[Qx];dsimp only;rw[e];rfl
def apA:Ap:=⟨1,10,540,600,0,0,0,60,7,540,[0]⟩
theorem PH:lV (dA [] [kA 7,kA 8] 2) 0 7 540 [0]=(jd 0,dA [apA] [kA 8,kA 7] 2):=by
 have eb:lc 7 (-1) 540 600 0 (dA [] [kA 7,kA 8] 2)=(false,dA [] [kA 8,kA 7] 2):=by
  unfold lc iH;rw[Q5];have:ff mA 540 600=true:=(by kernel_rfl);show(!ff mA 540 600,_)=_;rw[this];rfl
 have a:fh (dA [] [kA 7,kA 8] 2) (-1) ⟨1,10,0,0,0,0,0,60,0,0,[]⟩ 7 540 [0]=((apA,0),dA [] [kA 8,kA 7] 2):=by
  have c:jt (lc 7 (-1) 540 600) [0] (dA [] [kA 7,kA 8] 2)=(false,dA [] [kA 8,kA 7] 2):=by
   show(if(lc 7 (-1) 540 600 0 (dA [] [kA 7,kA 8] 2)).1=true then _ else jt _ [] (lc 7 (-1) 540 600 0 (dA [] [kA 7,kA 8] 2)).2)=_;rw[eb];rfl
  unfold fh;rw[ax (by decide),ax (by decide),ax (by decide)];show(let b:=jt (lc 7 (-1) 540 600) [0] (dA [] [kA 7,kA 8] 2);_:(Ap×Int)×Dk)=_;rw[c];rfl
 unfold lV;rw[ax (by decide),ax (by decide)];show(let p:=fh (dA [] [kA 7,kA 8] 2) (-1) ⟨1,10,0,0,0,0,0,60,0,0,[]⟩ 7 540 [0];_:An×Dk)=_;rw[a];rfl
theorem PI:playP dk0 aC=([noA 0,jd 0,jd 0,⟨0,0,7,540,[0],[]⟩,jd 0],dA [apA] [kA 8,kA 7] 2):=by
 have a:doP dk0 ⟨1,0,0,0,aS,[],sv0,0,0,[]⟩=(noA 0,⟨oL 540 1020,[],[],[],[1],1,[],0⟩):=by
  show oM dk0 (fY aS)=_;rw[PF]
  have ev:qB dk0 (oL 540 1020)=[1]:=by
   have f:ju dk0.rules (oL 540 1020) (((0:Nat)):Int)=true:=rfl;show [if ju dk0.rules (oL 540 1020) (((0:Nat)):Int)=true\/_ then _ else _]=_;rw[aB (Or.inl f)];rfl
  unfold oM;rw[ax (by decide),ev];rfl
 have b:doP ⟨oL 540 1020,[],[],[],[1],1,[],0⟩ ⟨2,0,0,0,[],[97],sv0,0,0,[]⟩=(jd 0,⟨oL 540 1020,[[97]],[],[],[1],1,[],0⟩):=rfl;have c:doP ⟨oL 540 1020,[[97]],[],[],[1],1,[],0⟩ ⟨3,0,0,0,[],[],lw,0,0,[]⟩=(jd 0,dA [] [] 0):=rfl;have d:doP (dA [] [] 0) ⟨4,0,7,2,[],[],sv0,0,0,[]⟩=(⟨0,0,7,540,[0],[]⟩,dA [] [kA 7,kA 8] 2):=PG;have e:doP (dA [] [kA 7,kA 8] 2) ⟨5,0,0,0,[],[],sv0,7,540,[0]⟩=(jd 0,dA [apA] [kA 8,kA 7] 2):=PH;unfold aC;simp only[playP,a,b,c,d,e]
end Go.Proofs.YtlkehieagdkgiaaGreatDoor
