/- Texts of the proof. -/
import Derived.Test.YtaoljfdfhggbbaaGreatDoorPc24
set_option maxRecDepth 100000
set_option maxHeartbeats 8000000
namespace Go.Proofs.YtaoljfdfhggbbaaGreatDoor
open Go.Proofs.Tryz Go.RowKit Lx Vx Mx Msk
namespace Lx
theorem xp (l:List Ru)(a:List Int)(xs ys:List (List UInt8)):gV l a (xs++ys)=gV l (gV l a xs) ys:=by
 unfold gV;rw[List.foldl_append]
theorem BA (a:List Int)(n:Int):(addN a n).length<=a.length+1:=by
 unfold addN;split<;>simp
theorem tA (l:List Ru): ∀(xs:List (List UInt8)) (a:List Int),(gV l a xs).length<=a.length+xs.length
 |[],a=>by simp[gV]
 |y::xs,a=>by
  have b:=tA l xs (addN a (atP5 l y));have c:=BA a (atP5 l y);show(gV l (addN a (atP5 l y)) xs).length<=_;simp only[bJ];omega
theorem zC {a:List Ex}{j:Nat}{k:Ex}(h:a[j]? =some k):jE (a.take (j+1))=jE (a.take j)++nms k:=by
 unfold jE;rw[fD,h,Option.toList_some,dN,List.flatten_append];simp
theorem Jv {a:List Ex}{j:Nat}{k:Ex}(h:a[j]? =some k):(jE (a.take j)).length+(nms k).length<=(jE a).length:=by
 rw[<-aP,<-zC h];unfold jE;have:a=a.take (j+1)++a.drop (j+1):=(gM _ _).symm;conv=>rhs;rw[this,dN,List.flatten_append,aP]
 omega
theorem zD: ∀(N:Nat) (e:Ex) (a n:Nat),SizeOf.sizeOf e<=N->(shapeP e a n).1=0->n+(nms e).length+1<=(shapeP e a n).2+1/\n+1<=(shapeP e a n).2
 |0,e,_,_,l,_=>by cases e;simp at l
 |N+1,e,a,n,l,h=>by
  rw[kF]at h⊢;by_cases c1:600<n+1\/40<a
  ·rw[aD c1]at h;cases h
  rw[ax c1]at h⊢;by_cases i:aloneP e≠0
  ·rw[aD i]at h;exact absurd h i
  rw[ax i]at h⊢
  have g: ∀(b:List Ex),(∀k∈b,SizeOf.sizeOf k<=N)-> ∀m:Nat,(gU b (a+1) (0,m)).1=0->m+(jE b).length<=(gU b (a+1) (0,m)).2:=by
   intro b;induction b with
   |nil=>intro _ m _;simp[jE,EM]
   |cons k b t=>
    intro f m c;rw[jP,ax (by simp)]at c⊢
    have d:(shapeP k (a+1) m).1=0:=by
     by_cases d:(shapeP k (a+1) m).1=0
     ·exact d
     ·rw[kG d]at c;exact c
    obtain⟨p,v⟩:=zD N k (a+1) m (f k bq) d;obtain⟨j,r⟩: ∃j,shapeP k (a+1) m=(0,j):=⟨_,Prod.ext d rfl⟩
    rw[r]at c p⊢;have:=t (fun q s=>f q (bH _ s)) j c;have o:(jE (k::b)).length=(nms k).length+(jE b).length:=(by simp[jE]);rw[o];dsimp only at p;omega
  have u:=g e.kids (fun k f=>by have:=iS f;omega) (n+1) h
  have o:(nms e).length<=1+(jE e.kids).length:=by
   rw[lP,aP];split<;>simp
  omega
end Lx
def yE (w:World)(a:Nat):Value:= .func (.func 88) #[] #[ab w.heap.size 0,ab (w.heap.size+1+1) 0,ab a 0]
def Po (w:World)(l:List Ru)(n mb c i:Nat)(a:List (List Int))(r:List Int)(b:List Ex)(d:World)(t:Value)(wr:World):Prop:= ∃j:Nat,t=ag (j:Int)/\j<=b.length/\SpS w l n mb c i (a.set i (gV l r (jE (b.take j)))) wr/\KT d wr
theorem sX (w:World)(l:List Ru)(n mb z i:Nat)(d:List (List Int))(hM:jk w mb l)(ah:i<n)(hn:n<=1000000)(al:d.length=n)
  (e:Ex) (C:Option Addr) (D:Nat) (r:List Int) (wr:World) (h:SpS w l n mb z i (d.set i r) wr) (X:r.length+(nms e).length<=1000000) (T:(e.kids.length:Int)<9223372036854775808)
  (R: ∀(j:Nat) (k:Ex),e.kids[j]? =some k-> ∃(g o:Nat) (M:Option Addr) (K:Nat),C=some ⟨g,o,none⟩/\
    w.cell? (ae g (o+j*5))=some (ag k.kind)/\w.cell? (ae g (o+j*5+1))=some (ag k.a)/\w.cell? (ae g (o+j*5+2))=some (ag k.b)/\
    w.cell? (ae g (o+j*5+3))=some (.string ⟨k.name.toArray⟩)/\w.cell? (ae g (o+j*5+4))=some (.slice M k.kids.length K)/\
    ∀(q:List Int) (W:World),SpS w l n mb z i (d.set i q) W->q.length+(nms k).length<=1000000->Calls prog 87 #[exV k (.slice M k.kids.length K),yE w z] W (xo w l n mb z i (d.set i (gV l q (nms k))) W)):
  Calls prog 87 #[exV e (.slice C e.kids.length D),yE w z] wr (xo w l n mb z i (d.set i (gV l r (nms e))) wr):=by
 have HK:=aF R;have m:aq wr (wr.alloc (.cells #[ag e.kind,ag e.a,ag e.b,.string ⟨e.name.toArray⟩,.slice C e.kids.length D] 102)):=am _ _;have f:=aE wr (.cells #[ag e.kind,ag e.a,ag e.b,.string ⟨e.name.toArray⟩,.slice C e.kids.length D] 102);have P:=h.below m;unfold exV;clear R h;generalize J:wr.alloc (.cells #[ag e.kind,ag e.a,ag e.b,.string ⟨e.name.toArray⟩,.slice C e.kids.length D] 102)=wA at*;have z0:=ak 0 f;have z3:=ak 3 f;have z4:=ak 4 f;have c:=lP e;unfold yE;go_enter func87,ntmps87;go_upto_if 8 with fail;rename_i K1 G
 have aa: ∀(N O v x y:Value) (q:List Int) (W:World),SpS w l n mb z i (d.set i q) W->KT wr W->q.length+(jE e.kids).length<=1000000->gV l q (jE e.kids)=gV l r (nms e)->W.cell? (ae wr.heap.size 4)=some (.slice C e.kids.length D)->
   K1 ⟨#[.agg #[ag e.kind,ag e.a,ag e.b,.string ⟨e.name.toArray⟩,.slice C e.kids.length D],.func (.func 88) #[] #[ab w.heap.size 0,ab (w.heap.size+1+1) 0,ab z 0],ab wr.heap.size 0,undef,undef,undef,ab wr.heap.size 0,ag e.kind,N,O,v,x,y,undef,undef,undef,undef,undef,undef,undef,undef,undef,undef,undef],[]⟩ W:=by
  intro N O v x y q W hW S ay V af;refine G _ _ ?_;have Hqe:=aF V;have Hkt:=aF S;clear S;clear G P f z0 z3 z4 m c V J X;go_wp2_with fail;clear af;go_loopw [5,16] (fun _ t wq=>Po w l n mb z i d q e.kids wr t wq) (fun _ t _=>e.kids.length-(intOf t).toNat);case atStart=>exact⟨0,rfl,by omega,hW,Hkt.o⟩
  case round=>
   obtain⟨j,rfl,hj,u,E⟩:=hrel;have Hktj:=aF E;clear hW E Hkt;have aw:(0:Int)<=(j:Int):=(by omega);by_cases ao:j<e.kids.length
   ·have U:(j:Int)<(e.kids.length:Int):=(by omega);obtain⟨k,B⟩: ∃k,e.kids[j]? =some k:=⟨e.kids[j],az ao⟩
    obtain⟨g,o,M,K,ar,c0,c1,c2,c3,c4,cK⟩:=HK.o j k B;have Y:=zC B;have ap:=Jv B;have au:=tA l (jE (e.kids.take j)) q;subst ar;have p:=u.bel;have d0:=aj p c0;have d1:=aj p c1;have d2:=aj p c2;have d3:=aj p c3;have d4:=aj p c4;have I:=am wr (.cells #[ag k.kind,ag k.a,ag k.b,.string ⟨k.name.toArray⟩,.slice M k.kids.length K] 102);have Z:=aE wr (.cells #[ag k.kind,ag k.a,ag k.b,.string ⟨k.name.toArray⟩,.slice M k.kids.length K] 102);have cR:=cK _ _ (u.below I) (by omega);rw[<-xp,<-Y]at cR;unfold exV yE at cR;have HbA:=aF I;clear Y ap au B c0 c1 c2 c3 c4 cK u p I;generalize a0:wr.alloc (.cells #[ag k.kind,ag k.a,ag k.b,.string ⟨k.name.toArray⟩,.slice M k.kids.length K] 102)=wB at*;go_wp2_with(refine aR rfl 102 _ rfl _ rfl _ _ _ _ Z oZ rfl (by kernel_rfl) ?_)
    refine cR.mono ?_;rintro e' w2 ⟨rfl,A,s⟩;have F:=aF ((Hktj.o.trans (KT.below HbA.o)).trans s);clear cR Z Hktj HbA s;go_wp2_with fail;go_roundw;case rel=>exact⟨j+1,by go_num,by omega,A,F.o⟩
    case measure=>simp[intOf];omega
   ·have U: ¬(j:Int)<(e.kids.length:Int):=(by omega);have HO:=fun(H:SpS w l n mb z i (d.set i (gV l r (nms e))) wr)=>aF (eV (rfl:Ending.returned (.tuple #[])= .returned (.tuple #[])) (eV H Hktj.o))
    have HO:=HO (by
     rw[<-Hqe.o];have e1:e.kids.take j=e.kids:=cQ (by omega);rw[e1]at u;exact u)
    clear u HK Hqe Hktj;go_wp2_with fail;refine aW (eO rfl _ _ _) rfl ?_;exact⟨rfl,HO.o.2⟩
 clear G HK;have Hkey:=aF aa;clear aa;by_cases L:e.kind=10
 ·have ai:(e.kind==10)=true:=by rw[L];rfl
  rw[aD L]at c;have an:(nms e).length=1+(jE e.kids).length:=(by rw[c];simp;omega);have cS:=CU w l n mb z i d r e.name wA hM ah hn al (by omega) P;have ad:=BA r (atP5 l e.name)
  have Q:gV l (addN r (atP5 l e.name)) (jE e.kids)=gV l r (nms e):=by
   rw[c,xp];rfl
  have HL:PN ((addN r (atP5 l e.name)).length+(jE e.kids).length<=1000000):=by
   show _<=_;omega
  have HE:=aF Q;have Hx:=aF f;have ac:=aF m;clear L c an ad Q X f P hM J m z0 z4 T;generalize addN r (atP5 l e.name)=q at*;go_wp2_with fail;refine cS.mono ?_;rintro e' w2 ⟨rfl,A,s⟩;have av:w2.cell? (ae wr.heap.size 4)=some (.slice C e.kids.length D):=(aZ _ _ 4 _ _ _ (s _ _ _ _ Hx.o (by decide) (by decide))).trans rfl;have F:=aF ((KT.below ac.o).trans s);clear cS s;go_wp2_with fail;exact Hkey.o _ _ _ _ _ q w2 A F.o HL.o HE.o av
 ·have ai:(e.kind==10)=false:=bj.2 L;rw[ax L,List.nil_append]at c;have HF:PN (∀(N O v x y:Value),K1 ⟨#[.agg #[ag e.kind,ag e.a,ag e.b,.string ⟨e.name.toArray⟩,.slice C e.kids.length D],.func (.func 88) #[] #[ab w.heap.size 0,ab (w.heap.size+1+1) 0,ab z 0],ab wr.heap.size 0,undef,undef,undef,ab wr.heap.size 0,ag e.kind,N,O,v,x,y,undef,undef,undef,undef,undef,undef,undef,undef,undef,undef,undef],[]⟩ wA):=fun N O v x y=>Hkey.o N O v x y r wA P (KT.below m) (by rw[c]at X;exact X) (by rw[c]) z4;clear L c Hkey P hM X J m z0 z3 z4 f T;go_wp2_with fail;exact HF.o _ _ _ _ _
theorem tB (w:World)(l:List Ru)(n mb s i:Nat)(a:List (List Int))(v:jk w mb l)(f:i<n)(z:n<=1000000)(m:a.length=n):
  ∀(d:Nat) (e:Ex) (sl:Value) (r:List Int) (wr:World),fZ (fun k=>k<w.heap.size) d w sl e.kids->SpS w l n mb s i (a.set i r) wr->r.length+(nms e).length<=1000000->Calls prog 87 #[exV e sl,yE w s] wr (xo w l n mb s i (a.set i (gV l r (nms e))) wr)
 |0,e,sl,r,wr,u,h,A=>by
  obtain⟨b,p,c,rfl⟩:=u;have:=sX w l n mb s i a v f z m e p c r wr h A (by rw[b];decide) (fun j k t=>by rw[b]at t;simp at t);rw[b]at this;exact this
 |d+1,e,sl,r,wr,u,h,A=>by
  obtain⟨M,F,B⟩:=u.form;subst B
  have y:(e.kids.length:Int)<9223372036854775808:=by
   rcases u with⟨b,_⟩|⟨_,_,_,_,_,J,_⟩
   ·rw[b];decide
   ·omega
  refine sX w l n mb s i a v f z m e M F r wr h A y fun j k t=> ?_;rcases u with⟨b,_⟩|⟨g,o,c,P,L,J,x⟩
  ·rw[b]at t;simp at t
  ·obtain⟨_,Q,c0,c1,C,D,E,q⟩:=x j k t;obtain⟨N,G,rfl⟩:=q.form;injection L with H;exact⟨g,o,N,G,H,c0,c1,C,D,E,fun O W I K=>tB w l n mb s i a v f z m d k _ O W q I K⟩
def mU (w:World)(d:Value)(a:List (List Int)):Prop:= ∃p c,d= .slice p a.length c/\ ∀(i:Nat) (b:List Int),a[i]? =some b-> ∃(g o:Nat) (v:Value),p=some ⟨g,o,none⟩/\w.cell? (ae g (o+i))=some v/\dS w v b
theorem mU.below {w w':World}{d:Value}{b:List (List Int)}(h:mU w d b)(a:aq w w'):mU w' d b:=by
 obtain⟨p,c,f,j⟩:=h;refine⟨p,c,f,fun i m hi=> ?_⟩;obtain⟨g,o,v,e,k,l⟩:=j i m hi;exact⟨g,o,v,e,aj a k,l.below a⟩
def lsJ (l:List Ru)(j:Nat):List (List Int):=(l.take j).map (fW l)++List.replicate (l.length-j) []
theorem DF {l:List Ru}{j:Nat}(a:j<=l.length):(lsJ l j).length=l.length:=by simp[lsJ];omega
theorem BB (l:List Ru):lsJ l 0=List.replicate l.length []:=by simp[lsJ]
theorem LA (l:List Ru):lsJ l l.length=l.map (fW l):=by simp[lsJ]
theorem Jw {l:List Ru}{j:Nat}(a:j<l.length):(lsJ l j).set j []=lsJ l j:=by
 apply List.ext_getElem?;intro k;by_cases e:j=k
 ·subst e;rw[fh (by rw[DF (by omega)];omega)];have:((l.take j).map (fW l)).length=j:=(by simp;omega);unfold lsJ;rw[dj (by omega),this,iO,ii,aD (by omega)]
 ·rw[fI e]
theorem Jx {l:List Ru}{j:Nat}{u:Ru}(a:l[j]? =some u):(lsJ l j).set j (fW l u)=lsJ l (j+1):=by
 have d:j<l.length:=(aG.1 a).1;have b:((l.take j).map (fW l)).length=j:=by simp;omega
 unfold lsJ;rw[List.set_append_right _ _ (by omega),b,iO];obtain⟨m,c⟩: ∃m,l.length-j=m+1:=⟨l.length-j-1,by omega⟩
 rw[c,List.replicate_succ,aJ,fD,a,Option.toList_some,dN,eo];simp;omega
theorem LB:(prog.info? 23).map (fun i=>(i.zero,i.size,i.bytes))=some (some (af),1,24):=by kernel_rfl
theorem ES:prog.underlying 27=some (.slice 23):=by kernel_rfl
theorem Jy (n:Nat):madeCells #[af] n=(List.replicate n (af)).toArray:=by
 apply Array.ext
 ·simp[madeCells]
 ·intro k a b;simp[madeCells,Nat.mod_one]
structure SpH (w:World)(n mb:Nat)(ls:List (List Int))(W:World):Prop where
 bel:aq w W
 b1:W.heap[w.heap.size]? =ah #[.map (some mb)] 128
 b5:W.heap[w.heap.size+1+1]? =ah #[.slice (some (ae (w.heap.size+1) 0)) n n] 27
 rows: ∃vs,Sps (w.heap.size+3) W (w.heap.size+1) w.heap.size vs ls
def Pp (w:World)(l:List Ru)(n mb:Nat)(t:Value)(wr:World):Prop:= ∃j:Nat,t=ag (j:Int)/\j<=n/\SpH w n mb (lsJ l j) wr
def KP (l:List Ru)(w:World)(e:Ending)(w':World):Prop:= ∃a,e= .returned a/\mU w' a (l.map (fW l))/\aq w w'
theorem SpH.open {w:World}{l:List Ru}{n mb j:Nat}{W:World}{cs:Array Value}(h:SpH w n mb (lsJ l j) W)(s:l.length=n)(r:j<n):SpS w l n mb W.heap.size j ((lsJ l j).set j []) ((W.alloc (.cells #[ag (j:Int)] 3)).alloc (.cells cs 104)):=by
 obtain⟨o,a⟩:=h.rows;have b1:=am W (.cells #[ag (j:Int)] 3);have b2:=b1.alloc b1.size (.cells cs 104);have i:(W.alloc (.cells #[ag (j:Int)] 3)).heap.size=W.heap.size+1:=by simp
 rw[Jw (by omega)];refine⟨aw h.bel b2,ai b2 h.b1,ai b2 h.b5,?_,aH h.b5,o,ai b2 a.blk,a.len,fun k v c d p=> ?_,a.apart,fun k v d e=> ?_⟩
 ·exact(dL _ _ _ (by rw[i];omega)).trans (aE W _)
 ·have m:=a.rows k v c d p;exact br m fun b q=>b2.block b (m.lt b q).2
 ·obtain⟨c,g⟩: ∃c,(lsJ l j)[k]? =some c:=by
   have f:k<o.length:=(aG.1 d).1;exact⟨(lsJ l j)[k]'(by rw[<-a.len];exact f),az _⟩
  have:=((a.rows k v c d g).lt _ e).2;omega
theorem SpS.shut {w:World}{l:List Ru}{n mb m i:Nat}{b:List (List Int)}{W:World}(h:SpS w l n mb m i b W):SpH w n mb b W:=by
 obtain⟨j,a⟩:=h.rows;refine⟨h.bel,h.b1,h.b5,j,a.blk,a.len,a.rows,a.apart,fun k v g e=> ?_⟩
 obtain⟨f,d⟩: ∃f,b[k]? =some f:=by
  have c:k<j.length:=(aG.1 g).1;exact⟨b[k]'(by rw[<-a.len];exact c),az _⟩
 have:=((a.rows k v f g d).lt _ e).1;omega
theorem SpH.o {w:World}{l:List Ru}{n mb:Nat}{W:World}(h:SpH w n mb (lsJ l l.length) W)(k:l.length=n)(j: ∀u∈l,(fW l u).length<1000000):mU W (.slice (some (ae (w.heap.size+1) 0)) n n) (l.map (fW l)):=by
 obtain⟨g,a⟩:=h.rows;rw[LA]at a;refine⟨_,_,by rw[ba,k],fun i f hi=> ?_⟩;have b:i<(l.map (fW l)).length:=(aG.1 hi).1;obtain⟨v,d⟩: ∃v,g[i]? =some v:=⟨g[i]'(by rw[a.len];exact b),az _⟩
 have c:f.length<1000000:=by
  rw[bg]at hi;obtain⟨u,m,e⟩:=dR.1 hi;rw[<-e];exact j u (aM m)
 refine⟨w.heap.size+1,0,v,rfl,?_,qu (a.rows i v f d hi) (by omega)⟩;rw[bN];exact(aZ _ _ i _ _ _ a.blk).trans (by simpa using d)
theorem xq (c:List (Ru×Value))(v:Value)(mb:Nat)(w:World)(h:InR w v c)(V:jk w mb (c.map (fun p=>p.1)))(aa:c.length<=1000)(F: ∀p∈c,(nms p.1.2).length<=1000):
  Calls prog 61 #[v,.map (some mb)] w (KP (c.map (fun p=>p.1)) w):=by
 obtain⟨l,L⟩:=au (c.map (fun p=>p.1));have A:l.length=c.length:=by rw[<-L,ba]
 obtain⟨pv,cv,rfl⟩:=h.form;have HK:=aF h.cells;have HI:PN (∀p∈c,∃d,fZ (fun k=>k<w.heap.size) d w p.2 p.1.2.kids):=fun p W=>(h.all p W).2.2;have N:=aF F;have D:=run_make_row' (P:=prog) 27 23 (af) 24 ES LB rfl .i64 .i64 c.length (by omega) (by omega);rw[Jy]at D;rw[L]at V⊢;have HL:PN (c.map (fun p=>p.1)=l):=L;have r:=aF A;have HM:=aF V;clear h F L V;have O:=am w (.cells #[.map (some mb)] 128);have Q:=O.alloc O.size (.cells (List.replicate c.length (af)).toArray 23);have bC:=Q.alloc Q.size (.cells #[.slice (some (ae (w.heap.size+1) 0)) c.length c.length] 27);have s1:(w.alloc (.cells #[.map (some mb)] 128)).heap.size=w.heap.size+1:=by simp
 have M:((w.alloc (.cells #[.map (some mb)] 128)).alloc (.cells (List.replicate c.length (af)).toArray 23)).heap.size=w.heap.size+1+1:=by simp
 have I:SpH w c.length mb (lsJ l 0) (((w.alloc (.cells #[.map (some mb)] 128)).alloc (.cells (List.replicate c.length (af)).toArray 23)).alloc (.cells #[.slice (some (ae (w.heap.size+1) 0)) c.length c.length] 27)):=by
  refine⟨bC,?_,?_,List.replicate c.length (af),?_,?_,?_,?_,?_⟩
  ·exact(dL _ _ _ (by rw[M];omega)).trans ((dL _ _ _ (by rw[s1];omega)).trans (aE w _))
  ·have:=aE ((w.alloc (.cells #[.map (some mb)] 128)).alloc (.cells (List.replicate c.length (af)).toArray 23)) (.cells #[.slice (some (ae (w.heap.size+1) 0)) c.length c.length] 27);rw[M]at this;exact this
  ·refine(dL _ _ _ (by rw[M];omega)).trans ?_;have:=aE (w.alloc (.cells #[.map (some mb)] 128)) (.cells (List.replicate c.length (af)).toArray 23);rw[s1]at this;exact this
  ·rw[BB];simp[A]
  ·intro j v ns n z;rw[BB,ii]at z;rw[ii]at n;split at n
   ·split at z
    ·cases n;cases z;exact dc _ _ _ _
    ·cases z
   ·cases n
  ·intro j k v v' b _ n _ h3;rw[ii]at n;split at n
   ·cases n;cases h3
   ·cases n
  ·intro j v n e;rw[ii]at n;split at n
   ·cases n;cases e
   ·cases n
 clear O Q bC s1 M A;have ac: ∀(fn:Fn) (first cap:Array Value) (w:World),(Instr.makeFunc fn first cap).run prog w= .ok (.func fn first cap) w:=fun _ _ _ _=>rfl;go_enter func61,ntmps61;go_wp2_with fail;go_loopw [6,7,13] (fun _ _ t wq=>Pp w l c.length mb t wq) (fun _ _ t _=>c.length-(intOf t).toNat);case atStart=>exact⟨0,rfl,by omega,I⟩
 case round=>
  obtain⟨j,rfl,hj,f⟩:=hrel;clear I D;have ab:(0:Int)<=(j:Int):=(by omega);by_cases B:j<c.length
  ·have C:(j:Int)<(c.length:Int):=(by omega);obtain⟨⟨u,sk⟩,q⟩: ∃p,c[j]? =some p:=⟨c[j],az B⟩
   have J:l[j]? =some u:=(by rw[<-HL.o,bg,q];rfl);obtain⟨g,o,X,c0,c1,R,S,T,U⟩:=HK.o j _ q;obtain⟨dk,s⟩:=HI.o _ (aM q);have E:=N.o _ (aM q);dsimp only at c0 c1 R S T U s E;obtain⟨ps,K,rfl⟩:=s.form;subst X;have i:=f.bel;have d0:=aj i c0;have d1:=aj i c1;have d2:=aj i R;have d3:=aj i S;have d4:=aj i T;have d5:=aj i U;have H:=f.open (cs:= #[.string ⟨u.1.toArray⟩,ag u.2.kind,ag u.2.a,ag u.2.b,.string ⟨u.2.name.toArray⟩,.slice ps u.2.kids.length K]) r.o B;have cE:=tB w l c.length mb wr.heap.size j (lsJ l j) HM.o B (by omega) ((DF (by rw[r.o];omega)).trans r.o) dk u.2 _ [] _ s H (by simp;omega);have G:(lsJ l j).set j (gV l [] (nms u.2))=lsJ l (j+1):=Jx J;rw[G]at cE;have m:=aE (wr.alloc (.cells #[ag (j:Int)] 3)) (.cells #[.string ⟨u.1.toArray⟩,ag u.2.kind,ag u.2.a,ag u.2.b,.string ⟨u.2.name.toArray⟩,.slice ps u.2.kids.length K] 104);rw[show(wr.alloc (.cells #[ag (j:Int)] 3)).heap.size=wr.heap.size+1 by simp]at m;unfold exV yE at cE;clear G H J q c0 c1 R S T U s E i f;generalize Z:(wr.alloc (.cells #[ag (j:Int)] 3)).alloc (.cells #[.string ⟨u.1.toArray⟩,ag u.2.kind,ag u.2.a,ag u.2.b,.string ⟨u.2.name.toArray⟩,.slice ps u.2.kids.length K] 104)=wB at*;have r1:=ak 1 m;have r2:=ak 2 m;have r3:=ak 3 m;have r4:=ak 4 m;have r5:=ak 5 m;go_wp2_with fail;refine cE.mono ?_;rintro e' w2 ⟨rfl,y,_⟩;have Y:=y.shut;clear cE y Z m r1 r2 r3 r4 r5;go_wp2_with fail;go_roundw;case rel=>exact⟨j+1,by go_num,by omega,Y⟩
   case measure=>simp[intOf];omega
  ·have ej:j=c.length:=(by omega);have C: ¬(j:Int)<(c.length:Int):=(by omega);have k5:=ak 0 f.b5
   have HO:PN (KP l w (.returned (.slice (some (ae (w.heap.size+1) 0)) c.length c.length)) wr):=by
    have z:=r.o;refine⟨_,rfl,?_,f.bel⟩;rw[ej,<-z]at f
    have:=SpH.o f rfl fun x hx=>by
     rw[<-HL.o]at hx;obtain⟨p,W,rfl⟩:=dV.1 hx;have h3:=N.o p W;have h4:=tA l (nms p.1.2) [];unfold fW;simp at h4;omega
    rw[<-z];exact this
   clear f HK HI N HM ej;go_wp2_with fail;go_ret;exact HO.o
def o5 (a:List Int):List Nat:=a.map Int.toNat
def iK (l:List Ru)(i:Nat):List Nat:=match l[i]? with|some u=>o5 (fW l u)|none=>[]
theorem qv {l:List Ru}{i:Nat}{u:Ru}(h:l[i]? =some u):iK l i=o5 (fW l u):=by unfold iK;rw[h]
theorem BC {w:World}{s:Value}{l:List Ru}(h:mU w s (l.map (fW l)))(y: ∀u∈l,-1∉fW l u):sm w s l.length (iK l):=by
 have r: ∀u∈l,∀m∈fW l u,0<=m/\m<l.length:=fun u d m b=>by
  have j:=(sh (l:=l) (nms u.2) [] List.nodup_nil (fun m b=>by cases b)).2 m b;have n:m≠ -1:=fun e=>y u d (e▸b);omega
 obtain⟨p,c,j,n⟩:=h;refine⟨⟨p,c,by rw[j,ba],fun i hi=> ?_⟩,fun i k a=> ?_⟩
 ·obtain⟨u,d⟩: ∃u,l[i]? =some u:=⟨l[i],az hi⟩
  obtain⟨g,o,v,e,t,A⟩:=n i (fW l u) (by rw[bg,d];rfl);refine⟨g,o,v,e,t,?_⟩;rw[qv d]
  have:(o5 (fW l u)).map (fun k:Nat=>(k:Int))=fW l u:=by
   unfold o5;rw[jU]
   have x: ∀f:List Int,(∀m∈f,0<=m)->f.map ((fun k:Nat=>(k:Int))∘Int.toNat)=f:=by
    intro f;induction f with
    |nil=>intro _;rfl
    |cons m f B=>
     intro b;rw[dI,B fun q z=>b q (bH _ z)];have:=b m bq;show((m.toNat:Nat):Int)::f=_;rw[Int.toNat_of_nonneg this]
   exact x _ fun m b=>(r u (aM d) m b).1
  rw[this];exact A
 ·unfold iK at a;split at a
  ·rename_i u d;unfold o5 at a;obtain⟨m,b,rfl⟩:=dV.1 a;have:=r u (aM d) m b;omega
  ·cases a
theorem GV {l:List Ru}{i:Nat}{u:Ru}(h:l[i]? =some u):0<=atP5 l u.1:=by
 have a: ∀(l:List Ru) (k i:Nat),l[i]? =some u->0<=atF l k u.1:=by
  intro l;induction l with
  |nil=>intro k i h;simp at h
  |cons v l c=>
   intro k i h;simp only[atF];split
   ·omega
   ·rename_i b;cases i with
    |zero=>simp at h;exact absurd (by rw[h]) b
    |succ i=>exact c (k+1) i (by simpa using h)
 exact a l 0 i h
theorem GW (a:List (Ru×Value))(v:Option Addr)(k:Nat)(mb j b1 i:Nat)(u:Ru)(w:World)(h:InR w (.slice v a.length k) a)(q:jk w mb (a.map (fun p=>p.1)))(l:w.heap[b1]? =ah #[.slice v a.length k] 32)(m:w.heap[j]? =ah #[.map (some mb)] 128)(d:(a.map (fun p=>p.1))[i]? =some u):
  Calls prog 62 #[ag (i:Int),ab j 0,ab b1 0] w fun r w'=>r= .returned (.bool (atP5 (a.map (fun p=>p.1)) u.1 !=(i:Int)))/\aq w w':=by
 have b:=fun W (x:w.heap=W.heap)=>EP (w:=W) (q.later (by rw[x])) u.1 (GV d)
 obtain⟨⟨A,D⟩,f,c⟩: ∃p,a[i]? =some p/\p.1=u:=by
  rw[bg]at d;exact dR.1 d
 dsimp only at c;subst c;have hi:i<a.length:=(aG.1 f).1;obtain⟨g,o,rfl,c0,_⟩:=h.cells i _ f;dsimp only at c0;have B:=ak 0 l;have C:=ak 0 m;have y:(0:Int)<=(i:Int):=by omega
 have z:(i:Int)<(a.length:Int):=by omega
 have s:=fun n=>b (w.drewN n) rfl;have t:=b w rfl;generalize atP5 (a.map (fun p=>p.1)) A.1=N at*;clear b h q d f l m;go_enter func62,ntmps62;go_wp2_with fail;go_quiet (fail);have e:aq w (w.drewN nq):=dD (aI _ _) nq;go_wp2_with fail;go_ret;exact⟨rfl,e⟩
theorem GX (l:List Ru)(k:Value)(b5 i:Nat)(u:Ru)(w:World)(m:mU w k (l.map (fW l)))(f:w.heap[b5]? =ah #[k] 27)(d:l[i]? =some u):
  Calls prog 63 #[ag (i:Int),ab b5 0] w fun r w'=>r= .returned (.bool (decide (-1∈fW l u)))/\aq w w':=by
 obtain⟨p,c,rfl,a⟩:=m;obtain⟨g,o,v,rfl,y,j⟩:=a i (fW l u) (by rw[bg,d];rfl);have hi:i<l.length:=(aG.1 d).1;have e:=jF (fW l u) v (-1) w j;obtain⟨z,x,rfl,_,_⟩:=j;have t:=ak 0 f;rw[ba]at t;have q:(0:Int)<=(i:Int):=by omega
 have s:(i:Int)<(l.length:Int):=by omega
 clear a f d;generalize decide (-1∈fW l u)=b at*;generalize (fW l u).length=nn at*;go_enter func63,ntmps63;go_wp2_with fail;refine e.mono ?_;rintro r A ⟨rfl,n⟩;clear e;go_wp2_with fail;go_ret;exact⟨rfl,n⟩
theorem GY (l:List Ru)(b:Value)(b5 i:Nat)(w:World)(a:sm w b l.length (iK l))(o:l.length<=1000)(e:w.heap[b5]? =ah #[b] 27)(hi:i<l.length):
  Calls prog 64 #[ag (i:Int),ab b5 0] w fun r w'=>r= .returned (.bool (fol (iK l) (l.length+1) (fun _=>false) i i))/\aq w w':=by
 have d:=vn b l.length (iK l) i w a (by omega) hi;obtain⟨p,c,rfl,_⟩:=a.form;have q:=ak 0 e;have k:(0:Int)<=(i:Int):=by omega
 have n:(i:Int)<(l.length:Int):=by omega
 generalize fol (iK l) (l.length+1) (fun _=>false) i=m at*;clear e a;go_enter func64,ntmps64;go_wp2_with fail;refine d.mono ?_;rintro r t ⟨g,rfl,f,j⟩;have s:=(aZ _ _ i _ _ _ f).trans (mN hi);clear d f;go_wp2_with fail;go_ret;exact⟨rfl,j⟩
end Go.Proofs.YtaoljfdfhggbbaaGreatDoor
