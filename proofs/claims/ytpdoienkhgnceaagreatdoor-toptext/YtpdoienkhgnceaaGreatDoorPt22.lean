/- Texts of the proof. -/
import Derived.Test.YtpdoienkhgnceaaGreatDoorPt21
set_option maxRecDepth 100000
set_option maxHeartbeats 8000000
namespace Go.Proofs.YtpdoienkhgnceaaGreatDoor
open Go.Proofs.Tryz Go.RowKit Lx Vx Mx Msk
def fP (l:List Ru):List (List In):=l.map fun u=>bT (atP5 l) u.2 0
def gN (l:List Ru):Nat->Int×Int:=oS (fP l) (l.length+1)
def eZ (l:List Ru):List Cd:=eV (fP l) (gN l)
def fU (l:List Ru):Int×Int:=if(dm l).1≠0 then((dm l).1,((dm l).2:Int)) else if 0<=ko (gN l) l.length 0 then(4,ko (gN l) l.length 0) else(0,0)
theorem oi (l:List Ru):(fP l).length=l.length:=by simp[fP]
theorem nQ {l:List Ru}{i:Nat}{u:Ru}(h:l[i]? =some u):(fP l).getD i []=bT (atP5 l) u.2 0:=by
 simp[fP,List.getD,h]
theorem B8: ∀{l:List Ru} {i:Nat},(iA l i).1=0-> ∀u∈l,Rt u.2
 |[],_,_,u,a=>by cases a
 |d::l,i,h,u,a=>by
  unfold iA at h;by_cases b:ruleP d≠0
  ·rw[ax b]at h;exact absurd h b
  ·rw[aw b]at h;rcases bv.1 a with rfl|a
   ·have c:ruleP u=0:=(by simpa using b);unfold ruleP at c;split at c
    ·cases c
    ·exact c
   ·exact B8 h u a
theorem rQ {l:List Ru}(h:(dm l).1=0):l.length<=40/\ ∀u∈l,Rt u.2:=by
 have a:=(ma h).1;refine⟨(ua a).1,?_⟩;unfold dQ7 at a;split at a
 ·cases a
 ·exact B8 a
theorem tA {l:List Ru}(h:(dm l).1=0){u:Ru}(d:u∈l){x:List UInt8}(f:x∈nms u.2):0<=atP5 l x/\atP5 l x<l.length/\atP5 l x∈gj l u:=by
 have a:atP5 l x∈gj l u:=(qI (nms u.2) []).2 (.inr ⟨x,f,rfl⟩);have c:=py l x;have b:=(ma h).2 u d;refine⟨?_,c.2,a⟩;by_cases q:0<=atP5 l x
 ·exact q
 ·have e:atP5 l x= -1:=by omega
  rw[e]at a;exact absurd a b
theorem RM (l:List Ru)(i:Nat):muR l i<=l.length:=by
 unfold muR gJ;split
 ·simp
 ·unfold mkL;rw[bm];refine bh (List.length_filter_le _ _) ?_;simp
theorem sT {l:List Ru}(h:(dm l).1=0):tw (fP l) (muR l):=by
 refine⟨fun i j x hi d k=> ?_⟩;rw[oi]at hi⊢;have b:l[i]? =some l[i]:=az hi;rw[nQ b]at d;have a:=aL b;obtain⟨nm,g,c⟩:=zW _ _ (aA _) ((rQ h).2 _ a).ok 0 x (aL d) k;obtain⟨e,m,f⟩:=tA h a g;rw[c];refine⟨e,by omega,tq h hi ?_⟩;rw[rF b];exact dB.2 ⟨_,f,rfl⟩
theorem wt {l:List Ru}(h:(dm l).1=0){i:Nat}(hi:i<l.length):gN l i=mR (fP l) (gN l) i:=PW (sT h) (N:=l.length) (fun i _=>RM l i) (by rw[oi];exact hi)
theorem zX (l:List Ru):sB (eV (fP l) (gN l)):=IJ _ _
theorem yd {l:List Ru}(h:(dm l).1=0){i:Nat}(hi:i<l.length):1<=((fP l).getD i []).length/\((fP l).getD i []).length<=600:=by
 have b:l[i]? =some l[i]:=az hi;have a:=(rQ h).2 _ (aL b);rw[nQ b];have:=mB (atP5 l) _ _ (aA _) a.ok 0;have c:=a.nod;omega
theorem Eb {l:List Ru}(h:(dm l).1=0){i:Nat}(hi:i<l.length):1<=(gN l i).2:=by
 rw[wt h hi];exact(GD (zX l) i).2.2 (yd h hi).1
def RN (l:List Ru)(w:World)(r:Ending)(a:World):Prop:= ∃v,r= .returned (.tuple #[v,.agg #[ag (fU l).1,ag (fU l).2]])/\((fU l).1=0->InV a v (eZ l))/\((fU l).1≠0->v=af)/\ao w a
def oV (w u:World):Prop:= ∀(q:Nat) (c:Array Value) (T:TypeId) (f:Nat×Nat),w.heap[q]? =some (.cells c T f)->(T=93\/T=140\/T=171)->u.heap[q]? =w.heap[q]?
def zY (l:List Ru)(w:World)(r:Ending)(a:World):Prop:= ∃v,r= .returned (.tuple #[v,.agg #[ag (fU l).1,ag (fU l).2]])/\((fU l).1=0-> ∀u,oV a u->InV u v (eZ l))/\((fU l).1≠0->v=af)/\ao w a
theorem kj.ty {w u:World}{v:Value}{S:List (In×Value)}(h:kj w v S)(f:oV w u):kj u v S:=bH h fun b a=>by
 rcases h.2 with⟨e,_⟩|⟨g,cap,c,e,_,d,_⟩
 ·rw[e]at a;cases a
 ·rw[e]at a;cases ay a;exact f _ _ _ _ d (.inr (.inl rfl))
theorem iu.ty {w u:World}{v:Value}{l:List (Int×Int)}(h:iu w v l)(i:oV w u):iu u v l:=by
 rcases h with h|⟨g,c,a,e,f,b,d⟩
 ·exact .inl h
 ·exact .inr ⟨g,c,a,e,f,(i _ _ _ _ b (.inr (.inr rfl))).trans b,d⟩
theorem fE.ty {b n:Nat}{sv:Nat->Value}{H T:Nat->Int}{w u:World}(h:fE b n sv H T w)(d:oV w u):fE b n sv H T u:=by
 obtain⟨a,c,h⟩:=h;exact⟨a,(d _ _ _ _ c (.inl rfl)).trans c,h⟩
def oW (n:Nat):Array Value:=madeCells #[af,ag 0,ag 0] (n*3)
theorem vz {n i j:Nat}(hi:i<n)(c:j<3):(oW n)[i*3+j]? =(#[af,ag 0,ag 0]:Array Value)[j]? :=by
 have a:i*3+j<n*3:=by omega
 have b:(i*3+j)%3=j:=by omega
 simp only[oW,madeCells];match j,c,a,b with
 |0,_,a,b=>simp at a b⊢;simp[a]
 |1,_,a,b=>simp[a,b]
 |2,_,a,b=>simp[a,b]
theorem Lg:(prog.info? 93).map (fun i=>(i.zero,i.size,i.bytes))=some (some (.agg #[af,ag 0,ag 0]),3,40):=by kernel_rfl
theorem IN:prog.underlying 34=some (.slice 93):=by kernel_rfl
theorem IP (n:Nat)(g:n<=1000)(w:World):(Instr.makeSlice 34 (ag (n:Int)) (ag (n:Int))).run prog w= .ok (.slice (some (ae w.heap.size 0)) n n) (w.alloc (.cells (oW n) 93)):=by
 obtain⟨i,hi,a⟩:=eU.1 Lg;simp only[Prod.mk.injEq]at a;obtain⟨f,d,c⟩:=a;have b:=run_make (P:=prog) w 34 93 i _ IN hi f .i64 .i64 n n (by omega) (gy _) (by rw[c];omega) (by omega);rw[d]at b;have e:(Value.agg #[af,ag 0,ag 0]).cells= #[af,ag 0,ag 0]:=rfl;rw[e]at b;simpa[oW] using b
theorem fE.made {w:World}{a n:Nat}(h:w.heap[a]? =ah (oW n) 93):fE a n (fun _=>af) (fun _=>0) (fun _=>0) w:=by
 refine⟨_,h,by simp[oW,madeCells],fun i hi=>⟨?_,?_,?_⟩⟩
 ·have:=vz (j:=0) hi (by omega);simpa using this
 ·exact(vz (j:=1) hi (by omega)).trans rfl
 ·exact(vz (j:=2) hi (by omega)).trans rfl
def upV (f:Nat->Value)(i:Nat)(v:Value):Nat->Value:=fun k=>if k=i then v else f k
theorem Lh (f:Nat->Value)(i:Nat)(v:Value):upV f i v i=v:=by unfold upV;rw[ax rfl]
theorem Li (f:Nat->Value){i k:Nat}(v:Value)(h:k≠i):upV f i v k=f k:=by unfold upV;rw[aw h]
theorem fE.setV {a n:Nat}{sv:Nat->Value}{H T:Nat->Int}{w:World}(h:fE a n sv H T w){i:Nat}(v:Value)(hi:i<n):fE a n (upV sv i v) H T (w.setCell ⟨a,i*3,none⟩ v):=by
 obtain⟨c,f,j,d⟩:=h;refine⟨_,aY w a (i*3) _ _ _ f,by rw[ig];exact j,fun k g=> ?_⟩;obtain⟨c0,c1,b⟩:=d k g;refine⟨?_,?_,?_⟩
 ·by_cases e:k=i
  ·subst e;rw[Lh,gO (by omega)]
  ·rw[Li _ _ e,dj (by omega)];exact c0
 ·rw[dj (by omega)];exact c1
 ·rw[dj (by omega)];exact b
theorem fE.frozen {a n:Nat}{sv:Nat->Value}{H T:Nat->Int}{w:World}(h:fE a n sv H T w)(i:Nat):w.frozen? (ae a i)=false:=by
 obtain⟨b,c,_⟩:=h;exact bu _ _ _ _ _ c
theorem fE.congr {d n:Nat}{sv:Nat->Value}{H T b c:Nat->Int}{w:World}(h:fE d n sv H T w)(e: ∀k,k<n->H k=b k/\T k=c k):fE d n sv b c w:=by
 obtain⟨a,m,o,l⟩:=h;refine⟨a,m,o,fun k f=> ?_⟩;obtain⟨c0,c1,g⟩:=l k f;obtain⟨i,j⟩:=e k f;rw[<-i,<-j];exact⟨c0,c1,g⟩
theorem iu.kept {d n:Nat}{sv:Nat->Value}{H T:Nat->Int}{w w':World}{v:Value}{l:List (Int×Int)}(h:iu w v l)(p:fE d n sv H T w)(m:bp d w w'):iu w' v l:=by
 obtain⟨i,a,_⟩:=p;rcases h with h|⟨g,c,b,e,o,f,r⟩
 ·exact .inl h
 ·refine .inr ⟨g,c,b,e,o,(m.block g (aH f) (fun q=> ?_)).trans f,r⟩;have s:g=d:=ay q;subst s;rw[f]at a;injection a with k;injection k with _ j _;exact absurd j (by decide)
theorem zZ {B d:Nat}{w c b:World}(h:Below B w c)(a:bp d c b)(i:B<=d)(g:B<=c.heap.size):Below B w b:=
 ⟨a.os.trans h.os,a.tape.trans h.tape,a.output.trans h.output,bh h.size a.size,fun k f=>(a.block k (aT f g) (fun e=>by have:=ay e;omega)).trans (h.block k f)⟩
def qx (l:List Ru)(w:World)(sv:Nat->Value)(a:Nat->List (In×Value))(k:Nat):Prop:=kj w (sv k) (a k)/\(a k).map (fun u=>u.1)=(fP l).getD k []/\ ∀u∈a k,iu w u.2 u.1.sp
theorem qx.kept {l:List Ru}{c n:Nat}{sv a:Nat->Value}{H T:Nat->Int}{w w':World}{b:Nat->List (In×Value)}{k:Nat}(h:qx l w sv b k)(e:fE c n a H T w)(d:bp c w w'):qx l w' sv b k:=⟨h.1.kept e d,h.2.1,fun u f=>(h.2.2 u f).kept e d⟩
theorem qx.ext {l:List Ru}{sv b:Nat->Value}{w:World}{c a:Nat->List (In×Value)}{k:Nat}(h:qx l w sv c k)(d:b k=sv k)(e:a k=c k):qx l w b a k:=by
 unfold qx;rw[d,e];exact h
def upS (f:Nat->List (In×Value))(i:Nat)(v:List (In×Value)):Nat->List (In×Value):=fun k=>if k=i then v else f k
theorem RO (f:Nat->List (In×Value))(i:Nat)(v:List (In×Value)):upS f i v i=v:=by unfold upS;rw[ax rfl]
theorem RP (f:Nat->List (In×Value)){i k:Nat}(v:List (In×Value))(h:k≠i):upS f i v k=f k:=by unfold upS;rw[aw h]
theorem NE {w:World}{b size n:Nat}{e:TypeId}{v:Value}{xs:List Value}(h:w.ownsRow b e size v n xs):w.ownsRow 0 e size v n xs:=by
 obtain⟨d,c⟩:=h;rcases c with c|⟨g,cap,a,e,q,r⟩
 ·exact⟨d,.inl c⟩
 ·exact⟨d,.inr ⟨g,cap,a,e,dU _,r⟩⟩
theorem vA {R:Ending->World->Prop}{a:Act}{w:World}(g:Nat)(v:Value)(er at_:Int)(i:a.defers=[])(d:a.tmps.getD 2 undef=v)(e:a.tmps.getD 3 undef=ab g 0)
  (j:w.heap[g]? =ah #[ag er,ag at_] 26) (f:R (.returned (.tuple #[v,.agg #[ag er,ag at_]])) w):bodyPost prog f8 R .ret a w:=by
 refine aX (v:= .tuple #[v,.agg #[ag er,ag at_]]) ?_ i f;have b:a.tmps[2]?.getD undef=v:=by simpa using d
 have c:a.tmps[3]?.getD undef=ab g 0:=by simpa using e
 have k:=dZ (P:=prog) w g 26 26 _ _ _ j od rfl (by kernel_rfl);simp[results,results8,b,c,asAddr,k]
theorem Lj (m:Nat->Int×Int): ∀(k j n:Nat),j+k<=n-> -1<=ko m k j/\ko m k j<=(n:Int)
 |0,j,n,_=>by simp only[ko];omega
 |k+1,j,n,h=>by
  have a:=Lj m k (j+1) n (by omega);simp only[ko];split
  ·omega
  ·exact a
theorem kj.set {w:World}{v:Value}{S:List (In×Value)}(h:kj w v S){g:Nat}{c:Array Value}(b:w.heap[g]? =ah c 26)(xs:Array Value):kj (w.setRow g xs) v S:=
 World.ownsRow.kept h (row:=some g) ⟨rfl,rfl,rfl,by simp,fun q _ a=>aQ w g q xs (fun e=>a (congrArg some e))⟩ (.inr fun e=>lm h b (by decide) e.symm)
theorem iu.set {w:World}{v:Value}{l:List (Int×Int)}(h:iu w v l){g:Nat}{c:Array Value}(k:w.heap[g]? =ah c 26)(xs:Array Value):iu (w.setRow g xs) v l:=by
 rcases h with h|⟨d,f,b,e,m,a,n⟩
 ·exact .inl h
 ·refine .inr ⟨d,f,b,e,m,(aQ w g d xs (fun q=> ?_)).trans a,n⟩;rw[q,k]at a;injection a with j;injection j with _ i _;exact absurd i (by decide)
theorem xq (us:List (Ru×Value))(v:Value)(w:World)(h:InR w v us)(hT:Tab w):Calls prog 8 #[v] w (zY (us.map (fun p=>p.1)) w):=by
 obtain⟨l,hl⟩:=aq (us.map (fun p=>p.1));obtain⟨n,hn⟩:=aq us.length;have b4:l.length=n:=by rw[<-hl,bm,hn]
 obtain⟨pv,cv,rfl⟩:=h.form;have bA:=am w (.cells #[ag 0,ag 0] 26);have n1:=aB w (.cells #[ag 0,ag 0] 26);generalize cd:w.alloc (.cells #[ag 0,ag 0] 26)=wA at*;have cW:=vZ us _ wA (h.below bA);rw[hl]at cW;rw[hl,hn];have HL:=aG hl;have bi:=aG hn;have ab:=aG b4;have be:=aG h;have bX:=aG hT;rw[hn]at cW;clear hl b4 h hn hT;go_enter func8,ntmps8;go_wp2_with fail;refine cW.mono ?_;rintro r w1 ⟨rfl,aR⟩;have m2:=ai aR n1;have E:=au bA aR;clear cW n1 aR bA cd;by_cases h0:(dm l).1=0
 ·have bv:=(rQ h0).1;rw[ab.o]at bv;have L:=aG h0;rw[h0];generalize (((dm l).2:Nat):Int)=P at*;have bC:=am w1 (.cells #[ag 0,ag P] 26);have M:=aG (au E bC);have HR:=aG (ai bC m2);have m3:=aB w1 (.cells #[ag 0,ag P] 26);have ci:=aG bv;have cj:(n:Int)<=40:=(by omega);have cm:(0:Int)<=(n:Int):=(by omega);clear bC E m2 h0;generalize bJ:w1.alloc (.cells #[ag 0,ag P] 26)=wB at*;have z0:=ak 0 m3;have cN:=pU us _ wB (be.o.below M.o);unfold Ib at cN;rw[HL.o,bi.o]at cN;clear m3;go_wp2_with fail;refine cN.mono ?_;rintro r w3 ⟨mb,rfl,cr,a3,b3⟩;have aJ:=au M.o b3;have r3:=ai b3 HR.o;have bM:=am w3 (.cells (oW n) 93);have nM:=aB w3 (.cells (oW n) 93);have b8:=IP n (by omega) w3;have a6:=a3.later (bM.block _ (ij a3));have aM:=au aJ bM;have rM:=ai bM r3;have b7:=ij a3;have cb:=aH r3;obtain⟨C,aU⟩:=aq w3.heap.size;have aF:w.heap.size<=C:=(by rw[<-aU];exact aJ.size);generalize ce:w3.alloc (.cells (oW n) 93)=wM at*;rw[aU]at nM b8 b7 cb;have aE:w.heap.size<=wM.heap.size:=aM.size;have ac:=aG (fE.made nM);have bo:=aG a6;have ba:=aG aM;have bt:=aG rM;have Q:w.heap.size≠C:=(by omega);have aX:mb≠C:=(by omega);clear bJ cN a3 b3 aJ r3 bM nM a6 aM rM HR M z0;go_wp2_with fail;clear b8 ce aU;go_loopw [7,8,9,25] (fun _ _ _ t wr=> ∃(j:Nat) (sv:Nat->Value) (Ss:Nat->List (In×Value)),t=ag (j:Int)/\j<=n/\fE C n sv (fun _=>0) (fun _=>0) wr/\(∀k,k<j->qx l wr sv Ss k)/\bp C wM wr) (fun _ _ _ t _=>n-(intOf t).toNat);case atStart=>exact⟨0,_,fun _=>[],rfl,by omega,ac.o,fun k f=>by omega,bp.refl _ _⟩
  case round=>
   obtain⟨j,sv,Ss,rfl,hj,A,D,d⟩:=hrel;clear ac;have cq:(0:Int)<=(j:Int):=(by omega);have aj:=zZ ba.o d aF aE;by_cases b5:j<n
   ·have b6:(j:Int)<(n:Int):=(by omega);obtain⟨p,ap⟩: ∃p,us[j]? =some p:=⟨us[j]'(by have:=bi.o;omega),az _⟩
    have R:=be.o.below aj;have bc:=aG R.cells;obtain⟨g,o,ca,d0,d1,d2,d3,d4,d5⟩:=bc.o j p ap;subst ca;have bF:=aL ap;obtain⟨bD,aS,dd,ar⟩:=R.all p bF;obtain⟨ps,cs,bG⟩:=ar.form;have a0:l[j]? =some p.1:=(by rw[<-HL.o,bf,ap];rfl);have a1:=aL a0;obtain⟨⟨nm,e⟩,sk⟩:=p;dsimp only at d0 d1 d2 d3 d4 d5 aS ar bG bD a0 a1;subst bG;have X:=(rQ L.o).2 _ a1;have bS:=aG a0;have bR:=am wr (.cells #[.string ⟨nm.toArray⟩,ag e.kind,ag e.a,ag e.b,.string ⟨e.name.toArray⟩,.slice ps e.kids.length cs] 80);have nR:=aB wr (.cells #[.string ⟨nm.toArray⟩,ag e.kind,ag e.a,ag e.b,.string ⟨e.name.toArray⟩,.slice ps e.kids.length cs] 80);generalize cf:wr.alloc (.cells #[.string ⟨nm.toArray⟩,ag e.kind,ag e.a,ag e.b,.string ⟨e.name.toArray⟩,.slice ps e.kids.length cs] 80)=K at*;have bZ:=am K (.cells #[.map none,af] 90);have nZ:=aB K (.cells #[.map none,af] 90);generalize cg:K.alloc (.cells #[.map none,af] 90)=wZ at*;have bW:=below_setRow bZ (aA _) #[.map (some mb),af];have nW:=aK _ _ _ #[.map (some mb),af] _ _ nZ;have I:=ai bW nR;generalize bK:wZ.setRow K.heap.size #[.map (some mb),af]=wW at*;have a9:WOk K K.heap.size (.map (some mb)) [] wW:=⟨⟨bW,aA _,_,nW,df _ _ _ _⟩,fun u hu=>by cases hu⟩
    have a7:jn K mb l:=by
     have z:=bo.o.later (d.block _ (ij bo.o) (fun e=>aX (ay e)));exact z.later (bR.block _ (ij z))
    have bw:Tab K:=kU (kU bX.o aj) bR;have a5:fV (fun k=>k<K.heap.size) dd K (.slice ps e.kids.length cs) e.kids:=(ar.kept fun g _ hl=>bR.block g hl).mono fun g hg=>aT hg bR.size;have cE:=ND K K.heap.size mb l a7 bw dd e _ a5 X aS (fun x hx=>(tA L.o a1 hx).1) [] wW a9 (by have:=X.nod;simpa using bh this (by omega));unfold exV at cE;have y1:=ak 1 I;have y2:=ak 2 I;have y3:=ak 3 I;have y4:=ak 4 I;have y5:=ak 5 I;have y:=aG A;have m:=aG D;have Z:=aG d;have bb:=aG bR;have ck:=X.nod;have cn:=(mB (atP5 l) _ e (aA _) X.ok 0)
    clear R bc ap bF ar bD aS a0 a1 A D d aj bR bW bZ nW a9 a7 bw a5 nR X;go_wp2_with(refine aC rfl 90 _ _ rfl _ _ rfl rfl _ _ nZ (by kernel_rfl) (by simp) (by simp[Value.oneCell']) ?_;rw[bK])
    refine cE.mono ?_;rintro r w5 ⟨rfl,J,aP,bE,_⟩;obtain⟨⟨bx,_,ch,n5,F⟩,Y⟩:=bE;rw[List.nil_append]at F Y
    have bY:J.length=(bT (atP5 l) e 0).length:=by
     have z:=congrArg List.length aP;rw[bm]at z;exact z
    obtain⟨g5,c5,cc⟩: ∃g5 c5,ch= .slice (some (ae g5 0)) J.length c5:=by
     rcases F.2 with⟨_,e0⟩|⟨g',cap,cl,e0,_⟩
     ·omega
     ·exact⟨g',cap,e0⟩
    subst cc;have cx:=ak 1 n5;have B:ao wr w5:=au bb.o bx;have s:=y.o.below B;have x0:=(s.cells b5).1;have xf:=s.frozen (j*3);have b1:=Z.o.trans (bp.of_below B);have av:=jp w5 C (j*3) (.slice (some (ae g5 0)) J.length c5);have bU:=aG (s.setV (.slice (some (ae g5 0)) J.length c5) b5);have bP:=aG (b1.trans av);have bH:kj w5 (.slice (some (ae g5 0)) J.length c5) J:=NE F
    have bj:T4 (∀k,k<j+1->qx l (w5.setCell ⟨C,j*3,none⟩ (.slice (some (ae g5 0)) J.length c5)) (upV sv j (.slice (some (ae g5 0)) J.length c5)) (upS Ss j J) k):=fun k f=>by
     by_cases e1:k=j
     ·subst e1
      have z:qx l w5 (upV sv k (.slice (some (ae g5 0)) J.length c5)) (upS Ss k J) k:=by
       unfold qx;rw[Lh,RO,nQ bS.o];exact⟨bH,aP,Y⟩
      exact z.kept s av
     ·have z:=m.o k (by omega);have h2:qx l w5 sv Ss k:=⟨z.1.below B,z.2.1,fun u hu=>(z.2.2 u hu).below B⟩
      exact(h2.kept s av).ext (Li _ _ e1) (RP _ _ e1)
    generalize cu:w5.setCell ⟨C,j*3,none⟩ (.slice (some (ae g5 0)) J.length c5)=w6 at*;clear bY cE F Y aP bx n5 B s b1 av bH y1 y2 y3 y4 y5 I y m Z bb bK cg nZ cf d0 d1 d2 d3 d4 d5;go_wp2_with fail;go_roundw;case rel=>exact⟨j+1,_,_,by go_num,by omega,bU.o,bj.o,bP.o⟩
    case measure=>simp[intOf];omega
   ·have b6: ¬(j:Int)<(n:Int):=(by omega);obtain rfl:n=j:=(by omega);generalize wr=wL at*;have aN:n=(fP l).length:=(by rw[oi];exact ab.o.symm);have an: ∀k,k<n->k<l.length:=fun k f=>(by have:=ab.o;omega)
    have aO: ∀k,k<n->1<=(Ss k).length/\(Ss k).length<=700:=fun k f=>by
     have z:=congrArg List.length (D k f).2.1;rw[bm]at z;have h2:=yd L.o (an k f);omega
    have bk:=aG (fun(w':World) (i:Nat)=>Fz (fP l) (muR l) (gN l) (sT L.o) (zX l) n C n aN (by omega) sv Ss (fun k f=>(D k f).2.1) aO (fun k f u hu=>((D k f).2.2 u hu).form) (fun i hi=>wt L.o (an i hi)) (fun i hi=>Eb L.o (an i hi)) _ i (aA _));have m:=aG D;have y:=aG A;have Z:=aG d;have aa:=aG aO;have bN:=aG aN;clear D A d aO an aN aj;go_wp2_with fail;go_loopw [10,44] (fun _ t w7=> ∃(i:Nat) (H T:Nat->Int),t=ag (i:Int)/\i<=n/\fE C n sv H T w7/\(∀k,k<n->Okm (gN l) H T k)/\(∀k,k<i->Me (gN l) H T k)/\bp C wL w7) (fun _ t _=>n-(intOf t).toNat);case atStart=>exact⟨0,_,_,rfl,by omega,y.o,fun k _=> .inl ⟨rfl,rfl⟩,fun k f=>by omega,bp.refl _ _⟩
    case round=>
     obtain⟨i,H,T,rfl,hi,A,a4,a2,d⟩:=hrel;have cp:(0:Int)<=(i:Int):=(by omega);by_cases aV:i<n
     ·have b0:(i:Int)<(n:Int):=(by omega);have cM:=bk.o wr i aV H T wr A (fun q hq=>((m.o q hq).1.kept y.o d)) (fun q hq _=>a4 q hq);obtain⟨ps,cs,bI,_⟩:=((m.o i aV).1.kept y.o d).form (aa.o i aV).1;unfold yc at cM;rw[bI]at cM;have bV:=aG a4;have bn:=aG a2;have bQ:=aG d;clear bI A a4 a2 d;go_wp2_with fail;refine cM.mono ?_;rintro r w8 ⟨rfl,H',T',a8,S,V,b2⟩
      have br:T4 (∀k,k<n->Okm (gN l) H' T' k):=fun k f=>by
       by_cases e1:k=i
       ·subst e1;exact .inr S
       ·have z:=V k f e1;by_cases e2:muR l k<=muR l i
        ·exact(z.1 e2).1
        ·have h2:=z.2 (by omega);have h3:=bV.o k f;unfold Okm Me at h3⊢;rw[h2.1,h2.2];exact h3
      have bl:T4 (∀k,k<i+1->Me (gN l) H' T' k):=fun k f=>by
       by_cases e1:k=i
       ·subst e1;exact S
       ·have z:=V k (by omega) e1;have h3:=bn.o k (by omega);by_cases e2:muR l k<=muR l i
        ·exact(z.1 e2).2 h3
        ·have h2:=z.2 (by omega);unfold Me at h3⊢;rw[h2.1,h2.2];exact h3
      have bO:=aG (bQ.o.trans b2);have bq:=aG a8;clear cM a8 S V b2;go_wp2_with fail;go_roundw;case rel=>exact⟨i+1,H',T',by go_num,by omega,bq.o,br.o,bl.o,bO.o⟩
      case measure=>simp[intOf];omega
     ·have b0: ¬(i:Int)<(n:Int):=(by omega);obtain rfl:n=i:=(by omega);have U:fE C n sv (fun k=>(gN l k).1) (fun k=>(gN l k).2) wr:=A.congr fun k f=>a2 k f
      have aD: ∀k,k<n-> ∃p ln c,sv k= .slice p ln c/\ln<=700:=fun k f=>by
       obtain⟨g',c',e',_⟩:=(m.o k f).1.form (aa.o k f).1;exact⟨_,_,_,e',(aa.o k f).2⟩
      have cI:=CJ n C n sv (gN l) wr U aD (by omega)
      have bg:T4 (∀(W:World) (c xs:Array Value),ao wr W->W.heap[w.heap.size]? =ah c 26-> ∀u,oV (W.setRow w.heap.size xs) u->InV u (.slice (some (ae C 0)) n n) (eZ l)):=fun W c xs hW hg u hu=>by
       refine P0 bN.o (by omega) (((U.below hW).same (aQ W w.heap.size C xs (fun e=>Q e.symm))).ty hu) (fun k f=>((((m.o k f).1.kept y.o d).below hW).set hg xs).ty hu) aa.o (fun k f p hp=>(((((m.o k f).2.2 p hp).kept y.o d).below hW).set hg xs).ty hu) (fun k f=>(m.o k f).2.1)
      have aW:=Z.o.trans d;have aZ:=aG (zZ ba.o aW aF aE);have bs:=aG ((aW.block _ (aH bt.o) (fun e=>Q (ay e))).trans bt.o);obtain⟨fx,al⟩:=aq (ko (gN l) n 0);rw[al]at cI;have bd:T4 (ko (gN l) l.length 0=fx):=(by show _=_;rw[ab.o];exact al);have co: -1<=fx/\fx<=(n:Int):=(by rw[<-al];exact Lj (gN l) n 0 n (by omega));clear A a4 a2 d U aD aW al y m bk;go_wp2_with fail;refine cI.mono ?_;rintro r w9 ⟨rfl,b9⟩;have G:=ai b9 bs.o;have ad:=au aZ.o b9;have O:=aG (bg.o w9 _ #[ag 0,ag 0] b9 G);have cw:=aH G;clear cI bg aZ bs b9;by_cases bz:0<=fx
      ·have N:T4 (fU l=(4,fx)):=by
        show _=_;unfold fU;rw[aw (by simpa using L.o),bd.o,ax bz]
       have HO:T4 (zY l w (.returned (.tuple #[af,.agg #[ag 4,ag fx]])) (w9.setRow w.heap.size #[ag 4,ag fx])):=by
        refine⟨_,by rw[N.o],fun e=> ?_,fun _=>rfl,below_setRow ad (aA _) _⟩;rw[N.o]at e;exact absurd e (by show¬(4:Int)=0;omega)
       have aI:=aG (aK _ _ _ #[ag 4,ag fx] _ _ G);clear O ad;go_wp2_with(refine aC rfl 26 _ _ rfl _ _ rfl rfl _ _ G (by kernel_rfl) (by simp) (by simp[Value.oneCell']) ?_)
       exact vA w.heap.size _ 4 fx rfl rfl rfl aI.o HO.o
      ·have N:T4 (fU l=(0,0)):=by
        show _=_;unfold fU;rw[aw (by simpa using L.o),bd.o,aw bz]
       have HO:T4 (zY l w (.returned (.tuple #[.slice (some (ae C 0)) n n,.agg #[ag 0,ag 0]])) (w9.setRow w.heap.size #[ag 0,ag 0])):=by
        refine⟨_,by rw[N.o],fun _=> ?_,fun e=> ?_,below_setRow ad (aA _) _⟩
        ·exact O.o
        ·rw[N.o]at e;exact absurd rfl e
       have aI:=aG (aK _ _ _ #[ag 0,ag 0] _ _ G);clear O ad;go_wp2_with(refine aC rfl 26 _ _ rfl _ _ rfl rfl _ _ G (by kernel_rfl) (by simp) (by simp[Value.oneCell']) ?_)
       exact vA w.heap.size _ 0 0 rfl rfl rfl aI.o HO.o
 ·have L:=aG h0
  have HF:T4 (fU l=((dm l).1,((dm l).2:Int))):=by
   show _=_;unfold fU;rw[ax h0]
  have ct:((dm l).1 !=0)=true:=(by simpa using h0);have bC:=am w1 (.cells #[ag (dm l).1,ag ((dm l).2:Int)] 26);have M:=aG (au E bC);have G:=ai bC m2;have m3:=aB w1 (.cells #[ag (dm l).1,ag ((dm l).2:Int)] 26);clear bC E m2 h0;generalize bJ:w1.alloc (.cells #[ag (dm l).1,ag ((dm l).2:Int)] 26)=wB at*
  have HO:T4 (∀W,ao w W->zY l w (.returned (.tuple #[af,.agg #[ag (dm l).1,ag ((dm l).2:Int)]])) W):=fun W hW=>by
   refine⟨_,by rw[HF.o],fun e=> ?_,fun _=>rfl,hW⟩;rw[HF.o]at e;exact absurd e L.o
  have z0:=ak 0 m3;have z1:=ak 1 m3;have y0:=ak 0 G;have y1:=ak 1 G;have x0:=bu _ _ 0 _ _ G;have x1:=bu _ _ 1 _ _ G;have bB:=aY _ _ 1 _ _ (ag ((dm l).2:Int)) (aY _ _ 0 _ _ (ag (dm l).1) G);have bL:=aG ((M.o.setCell (p:=⟨w.heap.size,0,none⟩) (aA _) (ag (dm l).1)).setCell (p:=⟨w.heap.size,1,none⟩) (aA _) (ag ((dm l).2:Int)));have ac:=aG bB;clear bB G m3;clear HF L;generalize (dm l).1=er at*;generalize (((dm l).2:Nat):Int)=P at*;go_wp2_with fail;go_region;go_wp2_with fail;exact vA w.heap.size _ er P rfl rfl rfl ac.o (HO.o _ (du bL.o 1))
theorem FB (a:List (Ru×Value))(v:Value)(w:World)(h:InR w v a)(f:Tab w):Calls prog 8 #[v] w (RN (a.map (fun p=>p.1)) w):=(xq a v w h f).mono fun _ g ⟨v,b,c,d⟩=>⟨v,b,fun e=>c e g fun _ _ _ _ _ _=>rfl,d⟩
structure Ap where
 st:Int
 left:Int
 fr:Int
 to:Int
 sv:Int
 bef:Int
 aft:Int
 len:Int
 day:Int
 min:Int
 who:List Int
structure Dk where
 rules:List Ru
 res:List (List UInt8)
 svs:List Sv
 aps:List Ap
 vers:List Int
 given:Int
 kept:List Vx.Kp
 runs:Int
structure An where
 err:Int
 num:Int
 day:Int
 min:Int
 who:List Int
 list:List Int
structure Cm where
 kind:Int
 n:Int
 day:Int
 days:Int
 text:List UInt8
 name:List UInt8
 sv:Sv
 sday:Int
 smin:Int
 swho:List Int
def noA (e:Int):An:=⟨e,0,0,0,[],[]⟩
def me (n:Int):An:=⟨0,n,0,0,[],[]⟩
def isN (n m:Int):Bool:=decide (0<=n)&&decide (n<m)
def sv0:Sv:=⟨0,0,0,[]⟩
def ap0:Ap:=⟨0,0,0,0,0,0,0,0,0,0,[]⟩
def gY (d:Dk)(r day:Int):M×Dk:=
 let k:=atP5 d.rules (d.res.getD r.toNat [])
 if k<0 then(noM,d) else
  let g:=ku (eZ d.rules) d.kept d.runs (d.vers.getD k.toNat 0) k day
  (g.m,{d with kept:=g.l,runs:=g.n})
def ni (r day b:Int):List Ap->Nat->List (Int×Int)
 |[],_=>[]
 |a::l,i=>if(i:Int)≠b/\a.st≠3/\a.day=day/\r∈a.who then(a.fr,a.to)::ni r day b l (i+1) else ni r day b l (i+1)
def sC (a b:M):M:=fun i=>(a i&& !b i)&&decide (i<1440)
def lc (d:Dk)(r day a:Int):M×Dk:=(sC (gY d r day).1 (inl (ni r day a d.aps 0)),(gY d r day).2)
def kI {S:Type}(f:Int->S->Bool×S):List Int->S->Bool×S
 |[],d=>(false,d)
 |x::l,d=>if(f x d).1=true then(true,(f x d).2) else kI f l (f x d).2
def CT (day a fr to r:Int)(d:Dk):Bool×Dk:=(!jt (lc d r day a).1 fr to,(lc d r day a).2)
def lx (day fr to r:Int)(d:Dk):Bool×Dk:=(!jt (gY d r day).1 fr to,(gY d r day).2)
def RQ (who:List Int)(roles:List (List Int)):Nat->Nat->Int
 |0,_=>0
 |m+1,i=>if who.getD i 0∉roles.getD i [] then 6 else if who.getD i 0∈who.take i then 7 else RQ who roles m (i+1)
def ye (who:List Int)(roles:List (List Int)):Int:=if who.length≠roles.length then 5 else RQ who roles who.length 0
def ql (d:Dk)(n:Int)(a:Ap)(day min:Int)(who:List Int):(Ap×Int)×Dk:=
 if isN day 146097=false\/isN min 1440=false then((ap0,3),d) else
 if min-a.bef<0\/1440<min+a.len+a.aft then((ap0,3),d) else
 if ye who (d.svs.getD a.sv.toNat sv0).roles≠0 then((ap0,ye who (d.svs.getD a.sv.toNat sv0).roles),d) else
 let b:=kI (CT day n (min-a.bef) (min+a.len+a.aft)) who d
 if b.1=true then((ap0,10),b.2) else(({a with fr:=min-a.bef,to:=min+a.len+a.aft,day:=day,min:=min,who:=who},0),b.2)
def holdP (d:Dk)(n day min:Int)(who:List Int):An×Dk:=
 if isN n d.svs.length=false then(noA 6,d) else
 if 30<=d.aps.length then(noA 5,d) else
 let s:=d.svs.getD n.toNat sv0
 let p:=ql d (-1) ⟨1,10,0,0,n,s.bef,s.aft,s.len,0,0,[]⟩ day min who
 if p.1.2≠0 then(noA p.1.2,p.2) else(me p.2.aps.length,{p.2 with aps:=p.2.aps++[p.1.1]})
def qZ (a:Ap)(s:Int):Ap:={a with st:=s,left:=0}
def pK (d:Dk)(n:Int)(f:Ap->Dk->(Ap×Int)×Dk):An×Dk:=
 if isN n d.aps.length=false\/(d.aps.getD n.toNat ap0).st=3 then(noA 6,d) else
 let p:=f (d.aps.getD n.toNat ap0) d
 if p.1.2≠0 then(noA p.1.2,p.2) else(noA 0,{p.2 with aps:=p.2.aps.set n.toNat p.1.1})
def IQ (t:Int)(a:Ap):Ap:=if a.st≠1 then a else if a.left-t<=0 then qZ a 3 else {a with left:=a.left-t}
def OF (d:Dk)(t:Int):An×Dk:=if t<0\/1000<t then(noA 3,d) else(noA 0,{d with aps:=d.aps.map (IQ t)})
def sU (d:Dk)(name:List UInt8):An×Dk:=
 if 12<=d.res.length then(noA 5,d) else if atP5 d.rules name<0 then(noA 7,d) else(me d.res.length,{d with res:=d.res++[name]})
def sV (d:Dk)(s:Sv):An×Dk:=
 if 8<=d.svs.length then(noA 5,d) else if ff s d.res.length≠0 then(noA (ff s d.res.length),d) else(me d.svs.length,{d with svs:=d.svs++[s]})
def iJ (s:Sv)(day:Int):Nat->Nat->Dk->List M×Dk
 |0,_,d=>([],d)
 |m+1,r,d=>
  if s.roles.any (fun p=>decide ((r:Int)∈p))=true then
   let p:=lc d (r:Int) day (-1)
   let q:=iJ s day m (r+1) p.2
   (p.1::q.1,q.2)
  else
   let q:=iJ s day m (r+1) d
   (noM::q.1,q.2)
def jO (s:Sv)(day:Int):Nat->Nat->Dk->List (List M)×Dk
 |0,_,d=>([],d)
 |m+1,i,d=>
  let p:=iJ s (day+i) d.res.length 0 d
  let q:=jO s day m (i+1) p.2
  (p.1::q.1,q.2)
def kF (d:Dk)(n day days:Int):An×Dk:=
 if isN n d.svs.length=false then(noA 6,d) else
 if isN day 146097=false\/days<1\/30<days\/146097<day+days then(noA 3,d) else
 let s:=d.svs.getD n.toNat sv0
 let q:=jO s day days.toNat 0 d
 let f:=findP s q.1
 if f.err≠0 then(noA f.err,q.2) else(⟨0,0,f.day+day,f.min,f.who,[]⟩,q.2)
def mg:Nat->Ex->Ex->Bool
 |0,_,_=>false
 |N+1,a,b=>decide (a.kind=b.kind)&&decide (a.a=b.a)&&decide (a.b=b.b)&&decide (a.name=b.name)&&(decide (a.kids.length=b.kids.length)&&(a.kids.zip b.kids).all fun p=>mg N p.1 p.2)
def qN (a b:Ru):Bool:=decide (a.1=b.1)&&mg (hgt a.2+1) a.2 b.2
def jP (c new:List Ru)(k:Int):Bool:=match c[k.toNat]?,new[k.toNat]? with
 |some a,some b=>decide ((c.length:Int)<=k)|| !qN a b
 |_,_=>true
def sD (d:Dk)(l:List Ru):List Int:=(List.range l.length).map fun(i:Nat)=>if jP d.rules l (i:Int)=true\/(gJ l (i:Int)).any (jP d.rules l)=true then d.given+1 else d.vers.getD i 0
def fg:List Ap->Nat->Dk->List Int×Dk
 |[],_,d=>([],d)
 |a::l,i,d=>
  if a.st=3 then fg l (i+1) d else
  let p:=kI (lx a.day a.fr a.to) a.who d
  let q:=fg l (i+1) p.2
  (if p.1=true then(i:Int)::q.1 else q.1,q.2)
def rR (d:Dk)(r:Int×List Ru):An×Dk:=
 if r.1≠0 then(noA r.1,d) else
 let a:Dk:={d with rules:=r.2,vers:=sD d r.2,given:=d.given+1}
 let q:=fg a.aps 0 a
 (⟨0,0,0,0,[],q.1⟩,q.2)
section
def Rob (P:Nat->Prop)(Φ:World->Prop)(w:World):Prop:= ∀u:World,w.heap.size<=u.heap.size->(∀q,P q->q<w.heap.size->u.heap[q]? =w.heap[q]?)->Φ u
section
variable {P P':Nat->Prop} {Φ Ψ:World->Prop} {w w':World}
theorem Rob.here (h:Rob P Φ w):Φ w:=h w (aA _) fun _ _ _=>rfl
theorem Rob.move (h:Rob P Φ w)(c:w.heap.size<=w'.heap.size)(e: ∀q,P q->q<w.heap.size->w'.heap[q]? =w.heap[q]?)(d: ∀q,q<w.heap.size->P q->P' q):Rob P' Φ w':=
 fun u f ha=>h u (bh c f) fun q b a=>(ha q (d q a b) (aT a c)).trans (e q b a)
theorem Rob.below (h:Rob P Φ w)(a:ao w w'):Rob P Φ w':=h.move a.size (fun q _ b=>a.block q b) fun _ _ h=>h
theorem Rob.imp (h:Rob P Φ w)(hi: ∀u,Φ u->Ψ u):Rob P Ψ w:=fun u a ha=>hi u (h u a ha)
end
structure Tr where
 ev:Value
 sv:Value
 av:Value
 xs:List Nat
def Gx (gD:Nat)(t:Tr)(q:Nat):Prop:=q≠gD/\some q≠t.ev.ownBlock/\some q≠t.sv.ownBlock/\some q≠t.av.ownBlock
def Fx (gD:Nat)(t:Tr)(q:Nat):Prop:=Gx gD t q/\q∉t.xs
def Tr.add (t:Tr)(q:Nat):Tr:={t with xs:=q::t.xs}
def ly (n:List UInt8):Value:= .string ⟨n.toArray⟩
def svC (p:Sv×Value):Array Value:= #[ag p.1.len,ag p.1.bef,ag p.1.aft,p.2]
def apC (p:Ap×Value):Array Value:= #[ag p.1.st,ag p.1.left,ag p.1.fr,ag p.1.to,ag p.1.sv,ag p.1.bef,ag p.1.aft,ag p.1.len,ag p.1.day,ag p.1.min,p.2]
def svF (l:List (Sv×Value)):List Value:=l.flatMap fun p=>(svC p).toList
def apF (l:List (Ap×Value)):List Value:=l.flatMap fun p=>(apC p).toList
structure DkM (B gD:Nat)(d:Dk)(t:Tr)(rv cv vv kv:Value)(ss:List (Sv×Value))(aa:List (Ap×Value))(w:World):Prop where
 blk:w.heap[gD]? =ah #[rv,t.ev,t.sv,t.av,cv,vv,ag d.given,kv,ag d.runs] 157
 lo:B<=gD
 rules:Rob (Fx gD t) (fun u=> ∃us,InR u rv us/\us.map (fun p=>p.1)=d.rules) w
 codes:Rob (Fx gD t) (fun u=>InV u cv (eZ d.rules)) w
 vers:Rob (Fx gD t) (fun u=>fk u vv d.vers) w
 kept:Rob (Fx gD t) (fun u=>dT 0 u kv d.kept) w
 res:w.ownsRow B 9 1 t.ev d.res.length (d.res.map ly)
 svs:w.ownsRow B 53 4 t.sv ss.length (svF ss)
 sve:ss.map (fun p=>p.1)=d.svs
 svr: ∀p∈ss,Rob (Fx gD t) (fun u=>fZ u p.2 p.1.roles) w
 aps:w.ownsRow B 197 11 t.av aa.length (apF aa)
 ape:aa.map (fun p=>p.1)=d.aps
 apr: ∀p∈aa,Rob (Fx gD t) (fun u=>fk u p.2 p.1.who) w
 nx: ∀q∈t.xs,q<w.heap.size/\B<=q/\q≠gD/\some q≠t.ev.ownBlock/\some q≠t.sv.ownBlock/\some q≠t.av.ownBlock
structure IR (d:Dk):Prop where
 flt:fU d.rules=(0,0)
 vl:d.vers.length=d.rules.length
 kl:d.kept.length<=64
 rl:d.res.length<=12
 sl:d.svs.length<=8
 al:d.aps.length<=30
 gv:0<=d.given/\d.given<=1000000
 nm: ∀x∈d.res,x.length<=9223372036854775807
 sv: ∀s∈d.svs,ff s d.res.length=0
 ap: ∀a∈d.aps,(0<=a.sv/\a.sv<d.svs.length)/\(0<=a.fr/\a.fr<=a.to/\a.to<=1440)/\(0<=a.left/\a.left<=10)/\(0<=a.bef/\a.bef<=1440/\0<=a.aft/\a.aft<=1440/\0<=a.len/\a.len<=1440)/\(0<=a.day/\a.day<146097)/\a.who.length<=4/\ ∀r∈a.who,0<=r/\r<d.res.length
def dS (B gD:Nat)(d:Dk)(t:Tr)(w:World):Prop:=IR d/\ ∃rv cv vv kv ss aa,DkM B gD d t rv cv vv kv ss aa w
structure Kd (gD:Nat)(t t':Tr)(w w':World):Prop where
 os:w'.os=w.os
 tape:w'.tape=w.tape
 output:w'.output=w.output
 size:w.heap.size<=w'.heap.size
 blk: ∀q,Gx gD t q->q<w.heap.size->w'.heap[q]? =w.heap[q]?
 gx: ∀q,q<w.heap.size->Gx gD t q->Gx gD t' q
 xs:t'.xs=t.xs
section
variable {gD:Nat} {t t' t'':Tr} {w w' w'':World}
theorem Kd.of (h:ao w w'):Kd gD t t w w':=⟨h.os,h.tape,h.output,h.size,fun q _ a=>h.block q a,fun _ _ h=>h,rfl⟩
theorem Kd.trans (h:Kd gD t t' w w')(a:Kd gD t' t'' w' w''):Kd gD t t'' w w'':=
 ⟨a.os.trans h.os,a.tape.trans h.tape,a.output.trans h.output,bh h.size a.size,fun q c b=>(a.blk q (h.gx q b c) (aT b h.size)).trans (h.blk q c b),fun q b c=>a.gx q (aT b h.size) (h.gx q b c),a.xs.trans h.xs⟩
theorem Kd.rob {Φ:World->Prop}(h:Kd gD t t' w w')(c:Rob (Fx gD t) Φ w):Rob (Fx gD t') Φ w':=c.move h.size (fun q a=>h.blk q a.1) fun q b a=>⟨h.gx q b a.1,by rw[h.xs];exact a.2⟩
end
section
variable {B gD:Nat} {d:Dk} {t:Tr} {rv cv vv kv:Value} {ss:List (Sv×Value)} {aa:List (Ap×Value)} {w w':World}
theorem j6 {a e size n:Nat}{v:Value}{xs:List Value}{g:Nat}{d:Array Value}{T:TypeId}(h:w.ownsRow a e size v n xs)(c:w.heap[g]? =ah d T)(l:T≠e):v.ownBlock≠some g:=fun q=>by
 rcases h.2 with⟨b,_⟩|⟨i,cap,f,b,_,j,_⟩
 ·rw[b]at q;cases q
 ·rw[b]at q;have:i=g:=ay q;subst this;rw[j]at c;injection c with m;injection m with _ k _;exact l k.symm
theorem DkM.below (h:DkM B gD d t rv cv vv kv ss aa w)(a:ao w w'):DkM B gD d t rv cv vv kv ss aa w':=
 ⟨ai a h.blk,h.lo,h.rules.below a,h.codes.below a,h.vers.below a,h.kept.below a,bH h.res fun b c=>a.block b (h.res.lt b c).2,bH h.svs fun b c=>a.block b (h.svs.lt b c).2,h.sve,fun p e=>(h.svr p e).below a,bH h.aps fun b c=>a.block b (h.aps.lt b c).2,h.ape,fun p e=>(h.apr p e).below a,fun q c=>⟨aT (h.nx q c).1 a.size,(h.nx q c).2⟩⟩
theorem dS.below (h:dS B gD d t w)(b:ao w w'):dS B gD d t w':=by
 obtain⟨a,rv,cv,vv,kv,ss,aa,h⟩:=h;exact⟨a,_,_,_,_,_,_,h.below b⟩
theorem mD {a e size n:Nat}{v:Value}{xs:List Value}(h:w.ownsRow a e size v n xs){q:Nat}(b:q<a\/w.heap.size<=q):some q≠v.ownBlock:=fun e=>by
 have:=h.lt q e.symm;omega
theorem dS.fx (h:dS B gD d t w){q:Nat}(a:q<B\/w.heap.size<=q):Fx gD t q:=by
 obtain⟨_,rv,cv,vv,kv,ss,aa,h⟩:=h;have:=h.lo;have:=aH h.blk;exact⟨⟨by omega,mD h.res a,mD h.svs a,mD h.aps a⟩,fun b=>by have:=h.nx q b;omega⟩
theorem Kd.below {t':Tr}(h:dS B gD d t w)(a:Kd gD t t' w w')(c:B<=w.heap.size):Below B w w':=⟨a.os,a.tape,a.output,a.size,fun q b=>a.blk q (h.fx (.inl b)).1 (aT b c)⟩
theorem Kd.at {t':Tr}{b:World}{g:Nat}{c:Array Value}{T:TypeId}{f:Nat×Nat}(h:dS B gD d t b)(e:b.heap.size<=g)(i:Kd gD t t' w w')(a:w.heap[g]? =some (.cells c T f)):w'.heap[g]? =some (.cells c T f):=(i.blk g (h.fx (.inr e)).1 (aH a)).trans a
theorem DkM.put {c:Dk}{i f j g:Value}(h:DkM B gD d t rv cv vv kv ss aa w)(n:w.heap.size<=w'.heap.size)(k: ∀q,q<w.heap.size->q≠gD->w'.heap[q]? =w.heap[q]?)
  (y:w'.heap[gD]? =ah #[i,t.ev,t.sv,t.av,f,j,ag c.given,g,ag c.runs] 157) (r:c.res=d.res) (s:c.svs=d.svs) (v:c.aps=d.aps)
  (C:Rob (Fx gD t) (fun u=> ∃o,InR u i o/\o.map (fun p=>p.1)=c.rules) w') (z:Rob (Fx gD t) (fun u=>InV u f (eZ c.rules)) w') (D:Rob (Fx gD t) (fun u=>fk u j c.vers) w') (l:Rob (Fx gD t) (fun u=>dT 0 u g c.kept) w'):DkM B gD c t i f j g ss aa w':=by
 have mv: ∀{Φ:World->Prop},Rob (Fx gD t) Φ w->Rob (Fx gD t) Φ w':=fun x=>x.move n (fun q a A=>k q A a.1.1) fun _ _ h=>h;refine⟨y,h.lo,C,z,D,l,?_,bH h.svs fun b a=>k b (h.svs.lt b a).2 fun e=>j6 h.svs h.blk (by decide) (by rw[a,e]),by rw[s];exact h.sve,fun p m=>mv (h.svr p m),bH h.aps fun b a=>k b (h.aps.lt b a).2 fun e=>j6 h.aps h.blk (by decide) (by rw[a,e]),by rw[v];exact h.ape,fun p m=>mv (h.apr p m),fun q a=>⟨aT (h.nx q a).1 n,(h.nx q a).2⟩⟩;rw[r];exact bH h.res fun b a=>k b (h.res.lt b a).2 fun e=>j6 h.res h.blk (by decide) (by rw[a,e])
theorem DkM.opened (h:DkM B gD d t rv cv vv kv ss aa w){q:Nat}(g:w.heap.size<=q)(n:w'.heap.size=q+1)(c:ao w w'):DkM B gD d (t.add q) rv cv vv kv ss aa w':=by
 have mv: ∀{Φ:World->Prop},Rob (Fx gD t) Φ w->Rob (Fx gD (t.add q)) Φ w':=fun l=>l.move c.size (fun q _ m=>c.block q m) fun k b j=>⟨j.1,fun i=>by
  rcases bv.1 i with e|i
  ·omega
  ·exact j.2 i⟩
 have a:=h.below c;refine⟨a.blk,a.lo,mv h.rules,mv h.codes,mv h.vers,mv h.kept,a.res,a.svs,a.sve,fun p f=>mv (h.svr p f),a.aps,a.ape,fun p f=>mv (h.apr p f),fun k b=> ?_⟩;rcases bv.1 b with rfl|b
 ·have:=aH h.blk;have:=h.lo;exact⟨by omega,by omega,by omega,mD h.res (.inr g),mD h.svs (.inr g),mD h.aps (.inr g)⟩
 ·exact a.nx k b
theorem dS.opened (h:dS B gD d t w){q:Nat}(c:w.heap.size<=q)(e:w'.heap.size=q+1)(b:ao w w'):dS B gD d (t.add q) w':=by
 obtain⟨a,rv,cv,vv,kv,ss,aa,h⟩:=h;exact⟨a,_,_,_,_,_,_,h.opened c e b⟩
theorem dS.closed {q:Nat}(h:dS B gD d (t.add q) w)(o:w.heap.size<=w'.heap.size)(c: ∀k,k<w.heap.size->k≠q->w'.heap[k]? =w.heap[k]?):dS B gD d t w':=by
 obtain⟨l,rv,cv,vv,kv,ss,aa,h⟩:=h;have g:=h.nx q (aV ..);have mv: ∀{Φ:World->Prop},Rob (Fx gD (t.add q)) Φ w->Rob (Fx gD t) Φ w':=fun m=>m.move o (fun k f n=>c k n fun e=>f.2 (by rw[e];exact aV ..)) fun k _ f=>⟨f.1,fun r=>f.2 (bj _ r)⟩
 refine⟨l,rv,cv,vv,kv,ss,aa,(c _ (aH h.blk) (fun e=>g.2.2.1 e.symm)).trans h.blk,h.lo,mv h.rules,mv h.codes,mv h.vers,mv h.kept,bH h.res fun b a=>c b (h.res.lt b a).2 (fun e=>g.2.2.2.1 (by rw[<-e];exact a.symm)),bH h.svs fun b a=>c b (h.svs.lt b a).2 (fun e=>g.2.2.2.2.1 (by rw[<-e];exact a.symm)),h.sve,fun p j=>mv (h.svr p j),bH h.aps fun b a=>c b (h.aps.lt b a).2 (fun e=>g.2.2.2.2.2 (by rw[<-e];exact a.symm)),h.ape,fun p j=>mv (h.apr p j),fun k i=> ?_⟩;have:=h.nx k (bj _ i);exact⟨by omega,this.2⟩
theorem Kd.opened {q:Nat}{t':Tr}{d:World}(a:ao w d)(h:Kd gD (t.add q) (t'.add q) d w'):Kd gD t t' w w':=
 ⟨h.os.trans a.os,h.tape.trans a.tape,h.output.trans a.output,bh a.size h.size,fun k c b=>(h.blk k c (aT b a.size)).trans (a.block k b),fun k b c=>h.gx k (aT b a.size) c,(List.cons.inj h.xs).2⟩
theorem Kd.closed {q:Nat}{t':Tr}{a:World}(h:Kd gD t t' w a)(j:w.heap.size<=q)(e:w'.os=a.os)(g:w'.tape=a.tape)(i:w'.output=a.output)(f:a.heap.size<=w'.heap.size)(d: ∀k,k<a.heap.size->k≠q->w'.heap[k]? =a.heap[k]?):Kd gD t t' w w':=
 ⟨e.trans h.os,g.trans h.tape,i.trans h.output,bh h.size f,fun k c b=>(d k (aT b h.size) (by omega)).trans (h.blk k c b),h.gx,h.xs⟩
end
end
theorem bt {w a:World}{k:Nat}{c:Array Value}{T:TypeId}{f:Nat×Nat}(b:ao w a)(h:w.heap[k]? =some (.cells c T f)):a.heap[k]? =some (.cells c T f):=ai b h
theorem cr {w:World}{g:Nat}{c:Array Value}{T:TypeId}{f:Nat×Nat}(k:Nat)(h:w.heap[g]? =some (.cells c T f)){v:Value}(e:c[k]? =some v):w.cell? (ae g k)=some v:=(aW _ _ k _ _ _ h).trans e
theorem nb (w:World)(c:Array Value)(T:TypeId): ∃W,w.alloc (.cells c T)=W/\ao w W/\W.heap[w.heap.size]? =ah c T:=⟨_,rfl,am _ _,aB _ _⟩
def anC (a:An)(b lv:Value):Array Value:= #[ag a.err,ag a.num,ag a.day,ag a.min,b,lv]
theorem anT:prog.underlying 47=some (.struct (prog.fieldsOf 47)):=by kernel_rfl
theorem apT:prog.underlying 197=some (.struct (prog.fieldsOf 197)):=by kernel_rfl
theorem spT:prog.underlying 171=some (.struct (prog.fieldsOf 171)):=by kernel_rfl
theorem iS (e:Int)(w:World):Calls prog 118 #[ag e] w fun r f=>r= .returned (.agg (anC (noA e) (af) (af)))/\ao w f:=by
 obtain⟨i,g,a,b⟩:=nb w #[ag 0,ag 0,ag 0,ag 0,af,af] 47;have d:=aG (aK _ _ _ #[ag e,ag 0,ag 0,ag 0,af,af] _ _ b);have c:=aG (below_setRow a (aA _) #[ag e,ag 0,ag 0,ag 0,af,af]);clear a;go_enter func118,ntmps118;go_wp2_with(refine aC rfl 47 _ _ rfl _ _ rfl rfl _ _ b (by kernel_rfl) (by simp) (by simp[Value.oneCell']) ?_)
 refine aX (v:= .agg #[ag e,ag 0,ag 0,ag 0,af,af]) ?_ rfl ⟨rfl,c.o⟩;exact bn rfl _ _ w.heap.size _ _ _ _ rfl d.o anT rfl (by kernel_rfl)
theorem GI (n m:Int)(w:World):Calls prog 155 #[ag n,ag m] w fun r b=>r= .returned (.bool (isN n m))/\b=w:=by
 unfold isN;by_cases h:0<=n
 ·have a:decide (0<=n)=true:=bc h;go_enter func155,ntmps155;go_wp2_with fail;go_ret;exact⟨by rw[a];rfl,rfl⟩
 ·have a:decide (0<=n)=false:=bo h;go_enter func155,ntmps155;go_wp2_with fail;go_ret;exact⟨rfl,rfl⟩
theorem B9 (a:Ap)(p:Option Addr)(c:Nat)(w:World):Calls prog 162 #[.agg (apC (a,.slice p a.who.length c))] w fun r k=>r= .returned (.agg #[ag a.fr,ag a.to])/\ao w k:=by
 unfold apC;dsimp only;obtain⟨g,l,d,e⟩:=nb w #[ag a.st,ag a.left,ag a.fr,ag a.to,ag a.sv,ag a.bef,ag a.aft,ag a.len,ag a.day,ag a.min,.slice p a.who.length c] 197;obtain⟨n,m,b,f⟩:=nb g #[ag 0,ag 0] 171;have q:=cr 2 (bt b e) rfl;have s:=cr 3 (bt b e) rfl;have j:=aG (aK _ _ _ #[ag a.fr,ag a.to] _ _ f);have i:=aG (d.trans ((below_setRow b (aA _) #[ag a.fr,ag a.to]).mono d.size));clear d b e;go_enter func162,ntmps162;go_wp2_with(refine aC rfl 171 _ _ rfl _ _ rfl rfl _ _ f (by kernel_rfl) (by simp) (by simp[Value.oneCell']) ?_)
 refine aX (v:= .agg #[ag a.fr,ag a.to]) ?_ rfl ⟨rfl,i.o⟩;exact bn rfl _ _ g.heap.size _ _ _ _ rfl j.o spT rfl (by kernel_rfl)
section
section
variable {B B':Nat->Prop}
theorem fV.at {d:Nat}{w:World}{sl:Value}{f:List Ex}(h:fV B d w sl f){j:Nat}{k:Ex}(e:f[j]? =some k): ∃(i g o c:Nat) (p:Option Addr) (q:Nat),d=i+1/\sl= .slice (some (ae g o)) f.length c/\w.cell? (ae g (o+j*5))=some (ag k.kind)/\w.cell? (ae g (o+j*5+1))=some (ag k.a)/\w.cell? (ae g (o+j*5+2))=some (ag k.b)/\
   w.cell? (ae g (o+j*5+3))=some (.string ⟨k.name.toArray⟩)/\w.cell? (ae g (o+j*5+4))=some (.slice p k.kids.length q)/\fV B i w (.slice p k.kids.length q) k.kids:=by
 cases d with
 |zero=>rw[h.1]at e;simp at e
 |succ d=>
  rcases h with⟨h,_⟩|⟨g,o,c,_,t,_,s⟩
  ·rw[h]at e;simp at e
  ·obtain⟨_,u,c0,c1,l,m,n,r⟩:=s j k e;obtain⟨p,q,rfl⟩:=r.form;exact⟨d,g,o,c,p,q,rfl,t,c0,c1,l,m,n,r⟩
def vB (f:Ex->Ex->Bool)(a b:List Ex):Bool:=(a.zip b).all fun p=>f p.1 p.2
theorem Lk (f:Ex->Ex->Bool){a b:List Ex}{j:Nat}{x y:Ex}(i:a[j]? =some x)(k:b[j]? =some y):vB f (a.drop j) (b.drop j)=(f x y&&vB f (a.drop (j+1)) (b.drop (j+1))):=by
 obtain⟨c,d⟩:=aE.1 i;obtain⟨e,g⟩:=aE.1 k;rw[bG c,d,bG e,g];rfl
def CU (d:Nat):Prop:= ∀(B B':Nat->Prop) (N j:Nat) (a b:Ex) (g i:Option Addr) (c f:Nat) (w:World),(∀k,B k->k<w.heap.size)->(∀k,B' k->k<w.heap.size)->hgt a<N->fV B d w (.slice g a.kids.length c) a.kids->fV B' j w (.slice i b.kids.length f) b.kids->
 Calls prog 211 #[.agg #[ag a.kind,ag a.a,ag a.b,.string ⟨a.name.toArray⟩,.slice g a.kids.length c],.agg #[ag b.kind,ag b.a,ag b.b,.string ⟨b.name.toArray⟩,.slice i b.kids.length f]] w fun e l=>e= .returned (.bool (mg N a b))/\ao w l
theorem P5 {d:Nat}(ih: ∀F,F<d->CU F)(N F:Nat)(xs ys:List Ex)(pa pb:Option Addr)(ca cb:Nat)(w:World)(P: ∀k,B k->k<w.heap.size)(u: ∀k,B' k->k<w.heap.size)(hN: ∀a∈xs,hgt a<N)(ha:fV B d w (.slice pa xs.length ca) xs)(hb:fV B' F w (.slice pb ys.length cb) ys):
  Calls prog 230 #[.slice pa xs.length ca,.slice pb ys.length cb,.func (.func 211) #[] #[]] w fun e w'=>e= .returned (.bool (decide (xs.length=ys.length)&&vB (mg N) xs ys))/\ao w w':=by
 obtain⟨n,S⟩:=aq xs.length;obtain⟨m,R⟩:=aq ys.length;have Y:=aG ha;have HB:=aG hb;rw[S,R];have r:=aG S;have HM:=aG R;have HI:=aG ih;have HL:=aG hN;have HK:=aG P;have J:=aG u;clear ha hb S R ih hN P u;by_cases l:n=m
 ·have E:((n:Int) !=(m:Int))=false:=by simp[l]
  have I:=aG l
  have ac:(n:Int)<9223372036854775808:=by
   by_cases h0:0<n
   ·have O:=Y.o;rw[r.o]at O;cases d with
    |zero=>have:=O.1;have:=r.o;simp_all
    |succ d=>
     rcases O with⟨h,_⟩|⟨_,_,_,_,_,G,_⟩
     ·have:=r.o;rw[h]at this;simp at this;omega
     ·have:=r.o;omega
   ·omega
  clear l;go_enter func230,ntmps230;go_wp2_with fail;go_loopw [7,8,9,17] (fun _ _ _ q wr=> ∃j:Nat,q=ag (j:Int)/\j<=n/\vB (mg N) xs ys=vB (mg N) (xs.drop j) (ys.drop j)/\ao w wr) (fun _ _ _ q _=>n-(intOf q).toNat);case atStart=>exact⟨0,rfl,by omega,rfl,aF _ _⟩
  case round=>
   obtain⟨j,rfl,hj,s,c⟩:=hrel;have ab:(0:Int)<=(j:Int):=(by omega);by_cases ad:j<n
   ·have D:(j:Int)<(n:Int):=(by omega);have aa:(j:Int)<(m:Int):=(by have:=I.o;omega);obtain⟨x,H⟩: ∃x,xs[j]? =some x:=⟨xs[j]'(by have:=r.o;omega),az _⟩
    obtain⟨y,T⟩: ∃y,ys[j]? =some y:=⟨ys[j]'(by have:=HM.o;have:=I.o;omega),az _⟩
    rw[Lk _ H T]at s;obtain⟨d1,g1,o1,c1,p1,q1,e1,V,Z,a1,a2,a3,a4,r1⟩:=Y.o.at H;obtain⟨d2,g2,o2,c2,p2,q2,e2,W,b0,b1,b2,b3,b4,r2⟩:=HB.o.at T;injection V with V _ s3;injection W with W _ s4;subst V W s3 s4;replace Z:=aj c Z;replace a1:=aj c a1;replace a2:=aj c a2;replace a3:=aj c a3;replace a4:=aj c a4;obtain⟨wA,hA,bA,nA⟩:=nb wr #[ag x.kind,ag x.a,ag x.b,.string ⟨x.name.toArray⟩,.slice p1 x.kids.length q1] 78;have f:=au c bA;replace b0:=aj f b0;replace b1:=aj f b1;replace b2:=aj f b2;replace b3:=aj f b3;replace b4:=aj f b4;obtain⟨X,P,M,nB⟩:=nb wA #[ag y.kind,ag y.a,ag y.b,.string ⟨y.name.toArray⟩,.slice p2 y.kids.length q2] 78;have i:=au f M;have U:=bt M nA;have v: ∀k,B k->k<X.heap.size:=fun k Q=>aT (HK.o k Q) i.size;have p: ∀k,B' k->k<X.heap.size:=fun k Q=>aT (J.o k Q) i.size;have cS:=HI.o d1 (by omega) B B' N d2 x y p1 p2 q1 q2 X v p (HL.o x (aL H)) (r1.kept fun g hg G=>i.block g G) (r2.kept fun g hg G=>i.block g G);obtain⟨bb,A⟩:=aq (mg N x y);rw[A]at cS s;have K:=aG s;have t:=aG i;clear s A r1 r2 v p bA M f i c H T e1 e2 nA;go_wp2_with(first|(refine aO rfl 78 _ rfl _ rfl _ _ _ _ U d9 rfl (by kernel_rfl) ?_)|(refine aO rfl 78 _ rfl _ rfl _ _ _ _ nB d9 rfl (by kernel_rfl) ?_))
    refine cS.mono ?_;rintro e w1 ⟨rfl,z⟩;have C:=au t.o z;clear cS z t;cases bb with
    |true=>
     go_wp2_with fail;go_roundw;case rel=>exact⟨j+1,by go_num,by omega,K.o,C⟩
     case measure=>simp[intOf];omega
    |false=>
     have L:T4 (vB (mg N) xs ys=false):=K.o;clear K;go_wp2_with fail;go_ret;exact⟨by rw[L.o,jk];rfl,C⟩
   ·have D: ¬(j:Int)<(n:Int):=(by omega)
    have L:T4 (vB (mg N) xs ys=true):=by
     show _=_;rw[s,dn (by have:=r.o;omega)];rfl
    clear s;go_wp2_with fail;go_ret;exact⟨by rw[L.o];simp[I.o],c⟩
 ·have E:((n:Int) !=(m:Int))=true:=by
   simp only[bne_iff_ne,ne_eq];omega
  have hd:decide (n=m)=false:=bo l;go_enter func230,ntmps230;go_wp2_with fail;go_ret;exact⟨by rw[hd];rfl,aF _ _⟩
theorem Ll (d:Nat)(O: ∀C,C<d->CU C):CU d:=by
 intro B B' N C a b Q R J K w L x W ha M;obtain⟨N,rfl⟩: ∃q,N=q+1:=⟨N-1,by omega⟩
 obtain⟨X,V,I,P⟩:=nb w #[ag a.kind,ag a.a,ag a.b,.string ⟨a.name.toArray⟩,.slice Q a.kids.length J] 78;obtain⟨Y,H,D,u⟩:=nb X #[ag b.kind,ag b.a,ag b.b,.string ⟨b.name.toArray⟩,.slice R b.kids.length K] 78;have f:=au I D;have i:=bt D P;have c:=P5 O N C a.kids b.kids Q R J K Y (fun k z=>aT (L k z) f.size) (fun k z=>aT (x k z) f.size) (fun k z=>by have:=lr z;omega) (ha.kept fun g _ E=>f.block g E) (M.kept fun g _ E=>f.block g E);have t:T4 (mg (N+1) a b=(decide (a.kind=b.kind)&&decide (a.a=b.a)&&decide (a.b=b.b)&&decide (a.name=b.name)&&(decide (a.kids.length=b.kids.length)&&vB (mg N) a.kids b.kids))):=rfl;have x0:=cr 0 i rfl;have x1:=cr 1 i rfl;have x2:=cr 2 i rfl;have x3:=cr 3 i rfl;have Z:=cr 4 i rfl;have y0:=cr 0 u rfl;have y1:=cr 1 u rfl;have y2:=cr 2 u rfl;have y3:=cr 3 u rfl;have y4:=cr 4 u rfl;have v:=aG f;obtain⟨n,G⟩:=aq a.kids.length;obtain⟨m,F⟩:=aq b.kids.length;rw[G,F]at c t;rw[G]at Z V⊢;rw[F]at y4 H⊢;clear O L x W ha M I D P u i f G F;by_cases j:a.kind=b.kind
 ·have S:(a.kind==b.kind)=true:=by simp[j]
  by_cases l:a.a=b.a
  ·have T:(a.a==b.a)=true:=(by simp[l]);by_cases r:a.b=b.b
   ·have U:(a.b==b.b)=true:=(by simp[r]);have A:=uQ a.name b.name;by_cases s:a.name=b.name
    ·rw[bc s]at A;have p:=aG (jv j (jv l (jv r s)));clear j l r s;go_enter func211,ntmps211;go_wp2_with fail;refine c.mono ?_;rintro e w1 ⟨rfl,y⟩;have f:=au v.o y;clear c y;go_wp2_with fail;go_ret;obtain⟨j,l,r,s⟩:=p.o;exact⟨by rw[t.o];simp[j,l,r,s],f⟩
    ·rw[bo s]at A;have p:=aG s;clear c j l r s;go_enter func211,ntmps211;go_wp2_with fail;go_ret;exact⟨by rw[t.o];simp[p.o],v.o⟩
   ·have U:(a.b==b.b)=false:=(by simp[r]);have p:=aG r;clear c j l r;go_enter func211,ntmps211;go_wp2_with fail;go_ret;exact⟨by rw[t.o];simp[p.o],v.o⟩
  ·have T:(a.a==b.a)=false:=(by simp[l]);have p:=aG l;clear c j l;go_enter func211,ntmps211;go_wp2_with fail;go_ret;exact⟨by rw[t.o];simp[p.o],v.o⟩
 ·have S:(a.kind==b.kind)=false:=by simp[j]
  have p:=aG j;clear c j;go_enter func211,ntmps211;go_wp2_with fail;go_ret;exact⟨by rw[t.o];simp[p.o],v.o⟩
theorem NF (d:Nat):CU d:=by
 induction d using Nat.strongRecOn with
 |ind d a=>exact Ll d a
end
end
def nT {S:Type}(f:Int->S->Bool×S):List Int->Nat->S->Int×S
 |[],_,s=>(-1,s)
 |x::l,j,s=>if(f x s).1=true then((j:Int),(f x s).2) else nT f l (j+1) (f x s).2
theorem Ec {S:Type}(f:Int->S->Bool×S): ∀(l:List Int) (j:Nat) (s:S),decide (0<=(nT f l j s).1)=(kI f l s).1/\(nT f l j s).2=(kI f l s).2
 |[],j,s=>⟨rfl,rfl⟩
 |x::l,j,s=>by
  unfold nT kI;by_cases h:(f x s).1=true
  ·rw[ax h,ax h];exact⟨bc (by show(0:Int)<=(j:Int);omega),rfl⟩
  ·rw[aw h,aw h];exact Ec f l (j+1) _
theorem Lm {S:Type}(f:Int->S->Bool×S){l:List Int}{j:Nat}{x:Int}(s:S)(h:l[j]? =some x):nT f (l.drop j) j s=if(f x s).1=true then((j:Int),(f x s).2) else nT f (l.drop (j+1)) (j+1) (f x s).2:=by
 obtain⟨a,b⟩:=aE.1 h;rw[bG a,b];rfl
theorem IS {S:Type}(f:Int->S->Bool×S)(Φ:S->World->Prop)(F:Nat)(m:Array Value)(a:List Int)(v:Value)(s:S)(w:World)(eF: ∀l w,(callFunc F l).run prog w= .ok (.enter F l) w)(E:Φ s w)(i: ∀s w,Φ s w->fk w v a)
  (O: ∀x∈a,∀s w,Φ s w->Calls prog F (#[ag x]++m) w fun e K=>e= .returned (.bool (f x s).1)/\Φ (f x s).2 K):
  Calls prog 197 #[v,.func (.func F) #[] m] w fun e K=>e= .returned (ag (nT f a 0 s).1)/\Φ (nT f a 0 s).2 K:=by
 obtain⟨p,c,rfl,u,J⟩:=i s w E;clear J;have M:=aG i;have Q:=aG O;have P:=aG E;obtain⟨n,B⟩:=aq a.length;have L:=aG B;rw[B]at u M;have Y:(n:Int)<9223372036854775808:=by omega
 rw[B];clear i O E B;go_enter func197,ntmps197;go_wp2_with fail;go_loopw [5,8] (fun _ t wr=> ∃(j:Nat) (k:S),t=ag (j:Int)/\j<=n/\Φ k wr/\nT f a 0 s=nT f (a.drop j) j k) (fun _ t _=>n-(intOf t).toNat);case atStart=>exact⟨0,s,rfl,by omega,P.o,rfl⟩
 case round=>
  obtain⟨j,k,rfl,hj,C,r⟩:=hrel;have W:(0:Int)<=(j:Int):=(by omega);by_cases X:j<n
  ·have y:(j:Int)<(n:Int):=(by omega);obtain⟨x,D⟩: ∃x,a[j]? =some x:=⟨a[j]'(by have:=L.o;omega),az _⟩
   rw[Lm f k D]at r;obtain⟨p',Z,R,H,d⟩:=M.o k wr C;injection R with T V U;subst T U;clear V H;obtain⟨g,o,I,G⟩:=d j x D;subst I;have c1:=Q.o x (aL D) k wr C;obtain⟨b,N⟩:=aq ((f x k).1);rw[N]at c1 r;have A:=aG r;clear r N D d C;go_wp2_with fail;refine c1.mono ?_;rintro e w1 ⟨rfl,z⟩;clear c1 G;cases b with
   |true=>
    have q:T4 (nT f a 0 s=((j:Int),(f x k).2)):=A.o;clear A;go_wp2_with fail;go_ret;exact⟨by rw[q.o];rfl,by rw[q.o];exact z⟩
   |false=>
    have q:T4 (nT f a 0 s=nT f (a.drop (j+1)) (j+1) (f x k).2):=A.o;clear A;go_wp2_with fail;go_roundw;case rel=>exact⟨j+1,_,by go_num,by omega,z,q.o⟩
    case measure=>simp[intOf];omega
  ·have y: ¬(j:Int)<(n:Int):=(by omega)
   have q:T4 (nT f a 0 s=(-1,k)):=by
    show _=_;rw[r,dn (by have:=L.o;omega)];rfl
   clear r;go_wp2_with fail;go_ret;exact⟨by rw[q.o];rfl,by rw[q.o];exact C⟩
theorem uC {S:Type}(f:Int->S->Bool×S)(Φ:S->World->Prop)(F:Nat)(a:Array Value)(i:List Int)(v:Value)(s:S)(w:World)(t: ∀d w,(callFunc F d).run prog w= .ok (.enter F d) w)(l:Φ s w)(g: ∀s w,Φ s w->fk w v i)
  (u: ∀x∈i,∀s w,Φ s w->Calls prog F (#[ag x]++a) w fun e j=>e= .returned (.bool (f x s).1)/\Φ (f x s).2 j):
  Calls prog 163 #[v,.func (.func F) #[] a] w fun e j=>e= .returned (.bool (kI f i s).1)/\Φ (kI f i s).2 j:=by
 have c0:=IS f Φ F a i v s w t l g u;obtain⟨p,c,rfl,z,y⟩:=g s w l;have k:=aG (Ec f i 0 s);go_enter func163,ntmps163;go_wp2_with fail;refine c0.mono ?_;rintro e B ⟨rfl,m⟩;have r:=k.o.1;rw[k.o.2]at m;generalize (nT f i 0 s).1=A at*;obtain⟨b,n⟩:=aq ((kI f i s).1);rw[n]at r;have q:=aG n;go_wp2_with fail;go_ret;exact⟨by rw[q.o];rfl,m⟩
theorem FC (u:Ru)(i:Option Addr)(g e f:Nat)(x:List UInt8)(w:World)(j:w.heap[f]? =ah #[ly x] 9):
  Calls prog 191 #[.agg #[.string ⟨u.1.toArray⟩,ag u.2.kind,ag u.2.a,ag u.2.b,.string ⟨u.2.name.toArray⟩,.slice i g e],ab f 0] w fun r l=>r= .returned (.bool (decide (u.1=x)))/\ao w l:=by
 obtain⟨o,n,d,k⟩:=nb w #[.string ⟨u.1.toArray⟩,ag u.2.kind,ag u.2.a,ag u.2.b,.string ⟨u.2.name.toArray⟩,.slice i g e] 80;have p:=cr 0 k rfl;have m:=cr 0 (bt d j) rfl;unfold ly at m;have c:=uQ u.1 x;go_enter func191,ntmps191;go_wp2_with fail;go_ret;exact⟨by rw[<-c];rfl,d⟩
theorem IT (f:List (Ru×Value))(v:Value)(x:List UInt8)(H:Nat)(w:World)(h:InR w v f)(N:w.heap[H]? =ah #[ly x] 9):
  Calls prog 190 #[v,.func (.func 191) #[] #[ab H 0]] w fun r w'=>r= .returned (ag (atP5 (f.map (fun p=>p.1)) x))/\ao w w':=by
 obtain⟨pv,cv,rfl⟩:=h.form;have L:=aG h.cells;have M:=h.len
 have K:T4 (∀p∈f,∃q n c,p.2= .slice q n c):=fun p X=>by
  obtain⟨_,_,d,V⟩:=h.all p X;obtain⟨q,c,e⟩:=V.form;exact⟨q,_,c,e⟩
 have B:=aG N;clear h N;go_enter func190,ntmps190;go_wp2_with fail;go_loopw [5,8] (fun _ t wr=> ∃j:Nat,t=ag (j:Int)/\j<=f.length/\atP5 (f.map (fun p=>p.1)) x=atF ((f.map (fun p=>p.1)).drop j) j x/\ao w wr) (fun _ t _=>f.length-(intOf t).toNat);case atStart=>exact⟨0,rfl,by omega,rfl,aF _ _⟩
 case round=>
  obtain⟨j,rfl,hj,i,a⟩:=hrel;have W:(0:Int)<=(j:Int):=(by omega);by_cases I:j<f.length
  ·have y:(j:Int)<(f.length:Int):=(by omega);obtain⟨⟨u,sk⟩,k⟩: ∃p,f[j]? =some p:=⟨f[j],az I⟩
   have A:(f.map (fun p=>p.1))[j]? =some u:=(by rw[bf,k];rfl);rw[MN A]at i;obtain⟨g,o,J,c0,c1,C,D,E,F⟩:=L.o j _ k;obtain⟨Z,Y,O,z⟩:=K.o _ (aL k);dsimp only at c0 c1 C D E F z;subst z J;have P:=aj a c0;have Q:=aj a c1;have R:=aj a C;have S:=aj a D;have T:=aj a E;have U:=aj a F;have G:=FC u Z Y O H x wr (bt a B.o);clear A k c0 c1 C D E F;obtain⟨b,m⟩:=aq (decide (u.1=x));rw[m]at G;go_wp2_with fail;refine G.mono ?_;rintro e w1 ⟨rfl,b1⟩;have s:=au a b1;clear G P Q R S T U;cases b with
   |true=>
    rw[ax (dM m)]at i;have l:=aG i;clear i m;go_wp2_with fail;go_ret;exact⟨by(rw[l.o])<;>rfl,s⟩
   |false=>
    rw[aw (of_decide_eq_false m)]at i;have l:=aG i;clear i m;go_wp2_with fail;go_roundw;case rel=>exact⟨j+1,by go_num,by omega,l.o,s⟩
    case measure=>simp[intOf];omega
  ·have y: ¬(j:Int)<(f.length:Int):=(by omega)
   have l:T4 (atP5 (f.map (fun p=>p.1)) x= -1):=by
    show _=_;rw[i,dn (by simp;omega)];rfl
   clear i L K;go_wp2_with fail;go_ret;exact⟨by(rw[l.o])<;>rfl,a⟩
end Go.Proofs.YtpdoienkhgnceaaGreatDoor
