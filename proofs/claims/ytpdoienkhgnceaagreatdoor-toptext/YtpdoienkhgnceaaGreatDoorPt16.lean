/- Texts of the proof. -/
import Derived.Test.YtpdoienkhgnceaaGreatDoorPt15
import Derived.Deep.Cut
set_option maxRecDepth 100000
set_option maxHeartbeats 8000000
namespace Go.Proofs.YtpdoienkhgnceaaGreatDoor
open Go.Proofs.Tryz Go.RowKit Lx Vx Mx Msk
def jU (a:List Int):List Value:=a.map (fun n=>ag n)
theorem rE {w:World}{b:Nat}{v:Value}{d:List Int}(h:w.ownsRow b 3 1 v d.length (jU d))(m:d.length<9223372036854775808):fk w v d:=by
 obtain⟨p,c,i⟩:=dy h;refine⟨p,c,i,m,fun j n f=> ?_⟩;have l:j<d.length:=(aE.1 f).1;obtain⟨g,cap,e,a⟩:=uJ h (by omega);rw[i]at e;injection e with k;refine⟨g,0,k,?_⟩;rw[bN];exact a j _ (by unfold jU;rw[bf,f];rfl)
structure Sps (base:Nat)(W:World)(go gi:Nat)(vs:List Value)(ls:List (List Int)):Prop where
 blk:W.heap[go]? =ah vs.toArray 43
 len:vs.length=ls.length
 rows: ∀(j:Nat) (v:Value) (ns:List Int),vs[j]? =some v->ls[j]? =some ns->W.ownsRow base 3 1 v ns.length (jU ns)
 apart: ∀(j k:Nat) (v v':Value) (b:Nat),j≠k->vs[j]? =some v->vs[k]? =some v'->v.ownBlock=some b->v'.ownBlock≠some b
 other: ∀(j:Nat) (v:Value),vs[j]? =some v->v.ownBlock≠some gi
structure SpS (w:World)(l:List Ru)(n mb gi i:Nat)(ls:List (List Int))(W:World):Prop where
 bel:ao w W
 b1:W.heap[w.heap.size]? =ah #[.map (some mb)] 66
 b5:W.heap[w.heap.size+1+1]? =ah #[.slice (some (ae (w.heap.size+1) 0)) n n] 51
 bi:W.heap[gi]? =ah #[ag (i:Int)] 3
 gib:w.heap.size+1+1<gi
 rows: ∃vs,Sps (w.heap.size+3) W (w.heap.size+1) gi vs ls
theorem SpS.below {w:World}{l:List Ru}{n mb f i:Nat}{k:List (List Int)}{W e:World}(h:SpS w l n mb f i k W)(a:ao W e):SpS w l n mb f i k e:=by
 obtain⟨q,c⟩:=h.rows;refine⟨au h.bel a,ai a h.b1,ai a h.b5,ai a h.bi,h.gib,q,ai a c.blk,c.len,fun j v p m o=> ?_,c.apart,c.other⟩;have g:=c.rows j v p m o;exact bH g fun b d=>a.block b (g.lt b d).2
def KT (W b:World):Prop:= ∀(q:Nat) (a:Array Value) (t:TypeId) (fr:Nat×Nat),W.heap[q]? =some (.cells a t fr)->t≠3->t≠43->b.heap[q]? =some (.cells a t fr)
theorem KT.refl (W:World):KT W W:=fun _ _ _ _ h _ _=>h
theorem KT.trans {W b a:World}(h:KT W b)(f:KT b a):KT W a:=fun q c t fr g d e=>f q c t fr (h q c t fr g d e) d e
theorem KT.below {W a:World}(h:ao W a):KT W a:=fun q _ _ _ b _ _=>(h.block q (bz.1 b).1).trans b
structure SJ (w:World)(l:List Ru)(n mb gi i n3:Nat)(ls0:List (List Int))(vs:List Value)(vi:Value)(r:List Int)(nn:Int)(wk:World)(M:Nat->Bool)(φ:Nat->Value)(W:World):Prop where
 bel:ao w W
 kt:KT wk W
 sz:n3<=W.heap.size
 b1:W.heap[w.heap.size]? =ah #[.map (some mb)] 66
 b5:W.heap[w.heap.size+1+1]? =ah #[.slice (some (ae (w.heap.size+1) 0)) n n] 51
 bi:W.heap[gi]? =ah #[ag (i:Int)] 3
 go0:M 10=false->W.heap[w.heap.size+1]? =ah vs.toArray 43
 row0:M 8=false->W.ownsRow (w.heap.size+3) 3 1 vi r.length (jU r)
 oth: ∀(j:Nat) (v:Value) (ns:List Int),j≠i->vs[j]? =some v->ls0[j]? =some ns->W.ownsRow (w.heap.size+3) 3 1 v ns.length (jU ns)
 one:M 7=true->M 8=false-> ∃g4,φ 29= .slice (some (ae g4 0)) 1 1/\n3<=g4/\W.heap[g4]? =ah #[ag nn] 3
 app:M 8=true->M 10=false->W.ownsRow (w.heap.size+3) 3 1 (φ 30) (r.length+1) (jU r++[ag nn])/\(φ 30).ownBlock≠some gi/\ ∀(j:Nat) (v:Value) (b:Nat),j≠i->vs[j]? =some v->v.ownBlock=some b->(φ 30).ownBlock≠some b
 done:M 10=true->SpS w l n mb gi i (ls0.set i (r++[nn])) W
theorem SJ.below {w:World}{l:List Ru}{n mb u i x:Nat}{g:List (List Int)}{A:List Value}{z:Value}{r:List Int}{y:Int}{B:World}{M:Nat->Bool}{φ:Nat->Value}{W m:World}(h:SJ w l n mb u i x g A z r y B M φ W)(d:ao W m):SJ w l n mb u i x g A z r y B M φ m:=by
 have f: ∀{k:Nat} {o:Obj},W.heap[k]? =some o->m.heap[k]? =some o:=fun h=>ai d h;have t: ∀{a e size n:Nat} {v:Value} {xs:List Value},W.ownsRow a e size v n xs->m.ownsRow a e size v n xs:=fun h=>bH h fun b s=>d.block b (h.lt b s).2;exact⟨au h.bel d,h.kt.trans (KT.below d),bh h.sz d.size,f h.b1,f h.b5,f h.bi,fun c=>f (h.go0 c),fun c=>t (h.row0 c),fun j v F C D E=>t (h.oth j v F C D E),fun c p=>(h.one c p).imp fun _ q=>⟨q.1,q.2.1,f q.2.2⟩,fun c p=>⟨t (h.app c p).1,(h.app c p).2⟩,fun c=>(h.done c).below d⟩
theorem DA:(prog.info? 3).map (fun i=>(i.zero,i.size,i.bytes))=some (some (ag 0),1,8):=by kernel_rfl
theorem BB:prog.underlying 43=some (.slice 3):=by kernel_rfl
def zf (w:World)(l:List Ru)(n mb b i:Nat)(c:List (List Int))(wr:World)(e:Ending)(a:World):Prop:=e= .returned (.tuple #[])/\SpS w l n mb b i c a/\KT wr a
theorem Fh (w:World)(l:List Ru)(n mb X i:Nat)(g:List (List Int))(r:List Int)(x:List UInt8)(wr:World)(hM:jn w mb l)(b7:i<n)(_:n<=1000000)(a4:g.length=n)(hr:r.length<=1000000)(h:SpS w l n mb X i (g.set i r) wr):
  Calls prog 80 #[.string ⟨x.toArray⟩,ab w.heap.size 0,ab (w.heap.size+1+1) 0,ab X 0] wr (zf w l n mb X i (g.set i (addN r (atP5 l x))) wr):=by
 have aZ:=hM.later (h.bel.block _ (ij hM));have b9:=Ow aZ x;obtain⟨V,U⟩:=h.rows;have bn:V.length=n:=by rw[U.len,jD,a4]
 obtain⟨N,z⟩: ∃v,V[i]? =some v:=⟨V[i]'(by omega),az _⟩
 have a9:(g.set i r)[i]? =some r:=by rw[fQ (by omega)]
 have P:=U.rows i N r z a9;have aC:=rE P (by omega);have k1:=ak 0 h.b1;have k5:=ak 0 h.b5;have ki:=ak 0 h.bi;have kg:wr.cell? (ae (w.heap.size+1) i)=some N:=(aW _ _ i _ _ _ U.blk).trans (by simpa using z);have b4:(0:Int)<=(i:Int):=by omega
 have b6:(i:Int)<(n:Int):=by omega
 have cC:=fun L=>lV r N L wr aC;obtain⟨pi,ci,bl⟩:=dy P;have bx:=(py l x).1;have Hs:=aG U;have Hw:=aG P;have HD:T4 (¬(0<=atP5 l x)->atP5 l x= -1):=fun h=>by omega
 obtain⟨i0,hi,bq,br,bs⟩:=iV DA;subst bl;go_enter func80,ntmps80;go_upto_if 14 with fail;rename_i K1 aV
 have ar: ∀(x6 x7 aO aP aQ aS aT:Value),K1 ⟨#[.string ⟨x.toArray⟩,ab w.heap.size 0,ab (w.heap.size+1+1) 0,ab X 0,undef,ag (atP5 l x),x6,x7,.map (some mb),.string ⟨x.toArray⟩,aO,aP,aQ,aS,aT,undef,undef,undef,undef,undef,undef,undef,undef,undef,undef,undef,undef,undef,undef,undef,undef,undef],[]⟩ wr:=by
  intro x6 x7 aO aP aQ aS aT;refine aV _ _ ?_;generalize atP5 l x=L at*;have c1:=cC L;go_wp2_with fail;refine c1.mono ?_;rintro e w1 ⟨rfl,D⟩;by_cases Y:L∈r
  ·have HO:T4 (zf w l n mb X i (g.set i (addN r L)) wr (.returned (.tuple #[])) w1):=by
    refine⟨rfl,?_,KT.below D⟩;unfold addN;rw[ax Y];exact h.below D
   rw[bc Y];go_wp2_with fail;refine aX (eN rfl _ _ _) rfl ?_;exact HO.o
  ·have B:=h.below D
   have HA:T4 (addN r L=r++[L]):=by
    show _=_;unfold addN;rw[aw Y]
   have U:=Hs.o;have P:=Hw.o;have s:Sps (w.heap.size+3) w1 (w.heap.size+1) X V (g.set i r):=⟨ai D U.blk,U.len,fun j v m a d=>bH (U.rows j v m a d) fun b p=>D.block b ((U.rows j v m a d).lt b p).2,U.apart,U.other⟩
   have H:=s.rows i _ r z a9;have b2:=aH B.bi;have b3:=aH s.blk;have a1:=B.gib;rw[bo Y];have aU:=aG D;go_wp2_with fail;have a5:=H.lt;have a7: ∀(j:Nat) (v:Value) (m:List Int),j≠i->V[j]? =some v->g[j]? =some m->w1.ownsRow (w.heap.size+3) 3 1 v m.length (jU m):=fun j v m hj a d=>s.rows j v m a (by rw[gH (fun e=>hj e.symm)];exact d);obtain⟨N,bm⟩:=aq (Value.slice pi r.length ci);rw[bm]at z H a5;refine dH (SJ w l n mb X i w1.heap.size g V N r L w1) [kn 22 (.slice (some (ae (w.heap.size+1) 0)) n n),kn 23 (ag (i:Int)),kn 24 (.slice (some (ae (w.heap.size+1) 0)) n n),kn 25 (ag (i:Int)),kn 26 (ab (w.heap.size+1) i),kn 27 N,kn 28 (ag L),td 29,td 30,kn 31 (ab (w.heap.size+1) i),nk] (fun _=>⟨B.bel.drew,fun _ _ _ _ h _ _=>h,aA _,B.b1,B.b5,B.bi,fun _=>s.blk,fun _=>bH H fun _ _=>rfl,fun j v m a d O=>bH (a7 j v m a d O) fun _ _=>rfl,(fun h=>by cases h),(fun h=>by cases h),(fun h=>by cases h)⟩) (fun _ _ _ _ R h=>h.below R) (by kernel_rfl) (fun M φ W f bd F l hl hF=> ?_) (fun M φ W hM f=> ?_)
   ·simp only[kn,td,nk,d6,aR,a8,Act.put,aD,aJ,aI]at hl;subst hl;simp only[dz,Nat.reduceAdd]at hF
    have ah:M 8=false->M 10=false:=fun h8=>by
     cases h:M 10 with
     |false=>rfl
     |true=>rw[bd 10 _ rfl h ⟨8,.data⟩ (by simp) rfl rfl]at h8;cases h8
    have j5:=ak 0 f.b5;have ji:=ak 0 f.bi;dsimp only[kn,td,nk,dK,fo,eD,Act.put];and_intros;all_goals first|exact trivial|intro hw hn Y K hK
    all_goals try (go_simp;with_reducible exact hK _ _ ⟨rfl,aF _ _⟩)
    ·have kg:W.cell? (ae (w.heap.size+1) i)=some N:=(aW _ _ i _ _ _ (f.go0 (ah (hn 8 _ rfl (by kernel_rfl))))).trans (by simpa using z);go_simp;exact hK _ _ ⟨rfl,aF _ _⟩
    ·have R:=am W (.cells #[ag L] 3);have l8:=hn 8 _ rfl (by kernel_rfl);have C:=f.below R;go_simp;exact hK _ _ ⟨trivial,C.bel,C.kt,C.sz,C.b1,C.b5,C.bi,fun h=>C.go0 (by simpa using h),fun h=>C.row0 (by simpa using h),C.oth,fun _ _=>⟨_,dX ..,f.sz,aB W _⟩,(fun h=>by simp[l8]at h),(fun h=>by simp[ah l8]at h)⟩
    ·have aN:=ah Y;obtain⟨g4,bt,b0,bf⟩:=f.one (hw ⟨7,.data⟩ (by simp) rfl rfl) Y;rw[bt]at hF;have I:=f.row0 Y;have bA:=f.sz;have c:=f.go0 aN;have E:=f.oth;refine ut _ _ 43 rfl (w.heap.size+3) 3 i0 (ag 0) 1 8 BB hi bq br bs rfl (by decide) N r.length (jU r) (by simp[Act.eval,hF]) I ⟨g4,0,none⟩ 1 1 [ag L] (by simp[Act.eval,hF]) rfl ?c1 ?c2 ?c3 ?c4 ?c5 ?_
     case c1=>
      intro k u' ac;match k,ac with
      |0,ac=>simp at ac;subst ac;exact(aW _ _ _ _ _ _ bf).trans rfl
     case c2=>intro u hu;simp at hu;subst hu;rfl
     case c3=>unfold maxLen;omega
     case c4=>omega
     case c5=>omega
     intro v' W' ap G ad;have af:=I.lt;have S: ∀q,N.ownBlock≠some q->q<W.heap.size->W'.heap[q]? =W.heap[q]? :=fun q hq hl=>G.block q hl (fun e=>hq e.symm);have bv: ∀q,w1.heap.size<=q->q<W.heap.size->W'.heap[q]? =W.heap[q]? :=fun q hq hl=>S q (fun e=>by have:=(a5 q e).2;omega) hl;have T: ∀q,q<w.heap.size+3->q<W.heap.size->W'.heap[q]? =W.heap[q]? :=fun q hq hl=>S q (fun e=>by have:=(af q e).1;omega) hl
     have aK:v'.ownBlock≠some X/\ ∀(j:Nat) (v:Value) (b:Nat),j≠i->V[j]? =some v->v.ownBlock=some b->v'.ownBlock≠some b:=by
      refine⟨fun e=> ?_,fun j v b hj a d e=> ?_⟩
      ·rcases ad with R|R
       ·rw[R]at e;exact s.other i N z e
       ·rw[R]at e;have:=ay e;omega
      ·rcases ad with R|R
       ·rw[R]at e;exact s.apart i j N v b (fun e=>hj e.symm) z a e d
       ·rw[R]at e;have e1:=ay e
        obtain⟨m,bj⟩: ∃m,g[j]? =some m:=by
         have b8:j<V.length:=(aE.1 a).1;exact⟨g[j]'(by omega),az _⟩
        have:=((E j v m hj a bj).lt b d).2;omega
     have bg:KT W W':=fun q cs t fr a d O=>by
      refine(S q (fun e=> ?_) (bz.1 a).1).trans a;obtain⟨_,bk⟩:=I;rcases bk with⟨e2,_⟩|⟨gb,cap,bw,e2,_,aa,_⟩
      ·rw[e2]at e;cases e
      ·rw[e2]at e;have e3:gb=q:=ay e;subst e3;rw[a]at aa;injection aa with aa;injection aa with _ e4;exact d e4
     exact hK _ _ ⟨trivial,f.bel.grown G (by omega) (fun q hq=>by have:=(af q hq).1;omega),f.kt.trans bg,bh f.sz G.size,(T _ (by omega) (aH f.b1)).trans f.b1,(T _ (by omega) (aH f.b5)).trans f.b5,(S _ (s.other i N z) (aH f.bi)).trans f.bi,fun _=>(T _ (by omega) (aH c)).trans c,(fun h=>by simp at h),fun j v m a d O=>bH (E j v m a d O) fun b p=>S b (fun e=>s.apart i j N v b (fun e=>a e.symm) z d e p) ((E j v m a d O).lt b p).2,(fun _ h=>by simp at h),fun _ _=>by rw[dX];exact⟨ap,aK⟩,(fun h=>by simp[aN]at h)⟩
    ·have l8:=hw ⟨8,.data⟩ (by simp) rfl rfl;obtain⟨hR,au,aj⟩:=f.app l8 Y;obtain⟨y,hy⟩:=aq (φ 30);rw[hy]at hR au aj hF;have c:=f.go0 Y;have kg:W.cell? (ae (w.heap.size+1) i)=some N:=(aW _ _ i _ _ _ c).trans (by simpa using z);have yg:=bu _ _ i _ _ c;have av:=hR.lt;obtain⟨px,cx,bp⟩:=dy hR;have J: ∀q,q≠w.heap.size+1->(W.setCell ⟨w.heap.size+1,i,none⟩ y).heap[q]? =W.heap[q]? :=fun q hq=>aM W ⟨w.heap.size+1,i,none⟩ q _ hq;have be:=aY W (w.heap.size+1) i _ _ y c;have a0:ao w (W.setCell ⟨w.heap.size+1,i,none⟩ y):=f.bel.setCell (by show w.heap.size<=w.heap.size+1;omega) _;have E:=f.oth
     have A:SpS w l n mb X i (g.set i (r++[L])) (W.setCell ⟨w.heap.size+1,i,none⟩ y):=by
      refine⟨a0,(J _ (by omega)).trans f.b1,(J _ (by omega)).trans f.b5,(J _ (by omega)).trans f.bi,a1,V.set i y,?_,by simp[bn,a4],fun j v m a d=> ?_,fun j k v v' b al a d O=> ?_,fun j v a=> ?_⟩
      ·rw[be];simp
      ·by_cases e:j=i
       ·subst e;rw[fQ (by omega)]at a;rw[fQ (by omega)]at d;cases a;cases d
        have:W.ownsRow (w.heap.size+3) 3 1 y (r++[L]).length (jU (r++[L])):=by
         unfold jU at hR⊢;simpa using hR
        exact bH this fun b p=>J b (by have:=(av b p).1;omega)
       ·rw[gH (fun h=>e h.symm)]at a d;have a6:=E j v m e a d;exact bH a6 fun b p=>J b (by have:=(a6.lt b p).1;omega)
      ·by_cases ej:j=i
       ·subst ej;rw[fQ (by omega)]at a;rw[gH al]at d;cases a;exact fun e=>aj k v' b (fun e=>al e.symm) d e O
       ·rw[gH (fun h=>ej h.symm)]at a;by_cases ek:k=i
        ·subst ek;rw[fQ (by omega)]at d;cases d;exact aj j v b ej a O
        ·rw[gH (fun h=>ek h.symm)]at d;exact s.apart j k v v' b al a d O
      ·by_cases ej:j=i
       ·subst ej;rw[fQ (by omega)]at a;cases a;exact au
       ·rw[gH (fun h=>ej h.symm)]at a;exact s.other j v a
     have D:=A.b1;have ba:=A.b5;have bb:=A.bi;have an: ∀(j:Nat) (v:Value) (m:List Int),j≠i->V[j]? =some v->g[j]? =some m->(W.setCell ⟨w.heap.size+1,i,none⟩ y).ownsRow (w.heap.size+3) 3 1 v m.length (jU m):=fun j v m a d O=>bH (E j v m a d O) fun b p=>J b (by have:=((E j v m a d O).lt b p).1;omega);have aL:w1.heap.size<=(W.setCell ⟨w.heap.size+1,i,none⟩ y).heap.size:=(by simpa using f.sz)
     have a3:KT W (W.setCell ⟨w.heap.size+1,i,none⟩ y):=fun q cs t fr a d O=>(J q (fun e=>by
      subst e;rw[a]at c;injection c with c;injection c with _ e4;exact O e4)).trans a
     have Z: ∀φ',SJ w l n mb X i w1.heap.size g V N r L w1 (fun k=>decide (10=k)||M k) φ' (W.setCell ⟨w.heap.size+1,i,none⟩ y):=fun _=>⟨a0,f.kt.trans a3,aL,D,ba,bb,(fun h=>by simp at h),(fun h=>by simp[l8]at h),an,(fun _ h=>by simp[l8]at h),(fun _ h=>by simp at h),fun _=>A⟩
     subst bp;go_simp;exact hK undef _ ⟨trivial,Z _⟩
   ·have A:=f.done (hM 10 (by decide) rfl);have a2:=(KT.below aU.o).trans f.kt;simp only[kn,td,nk,ep,aR,a8,Act.put,aD,aJ,aI];go_wp2_with fail;refine aX (eN rfl _ _ _) rfl ?_;rw[HA.o];exact⟨rfl,A,a2⟩
 by_cases Q:0<=atP5 l x
 ·have e1:(if 0<=atP5 l x then atP5 l x else 0)=atP5 l x:=ax Q;have e2:decide (0<=atP5 l x)=true:=bc Q;simp only[e1,e2];go_wp2_with fail;exact ar _ _ _ _ _ _ _
 ·have he:=HD.o Q;rw[he]at ar;have e1:(if 0<=atP5 l x then atP5 l x else 0)=0:=aw Q;have e2:decide (0<=atP5 l x)=false:=bo Q;simp only[e1,e2];go_wp2_with fail;exact ar _ _ _ _ _ _ _
theorem p8:prog.underlying 78=some (.struct (prog.fieldsOf 78)):=by kernel_rfl
namespace Lx
theorem zg (l:List Ru)(a:List Int)(xs ys:List (List UInt8)):ii l a (xs++ys)=ii l (ii l a xs) ys:=by
 unfold ii;rw[List.foldl_append]
theorem DB (a:List Int)(n:Int):(addN a n).length<=a.length+1:=by
 unfold addN;split<;>simp
theorem uR (l:List Ru): ∀(xs:List (List UInt8)) (a:List Int),(ii l a xs).length<=a.length+xs.length
 |[],a=>by simp[ii]
 |y::xs,a=>by
  have b:=uR l xs (addN a (atP5 l y));have c:=DB a (atP5 l y);show(ii l (addN a (atP5 l y)) xs).length<=_;simp only[bK];omega
theorem BC {a:List Ex}{j:Nat}{k:Ex}(h:a[j]? =some k):jM (a.take (j+1))=jM (a.take j)++nms k:=by
 unfold jM;rw[fF,h,Option.toList_some,dV,List.flatten_append];simp
theorem MR {a:List Ex}{j:Nat}{k:Ex}(h:a[j]? =some k):(jM (a.take j)).length+(nms k).length<=(jM a).length:=by
 rw[<-aN,<-BC h];unfold jM;have:a=a.take (j+1)++a.drop (j+1):=(gZ _ _).symm;conv=>rhs;rw[this,dV,List.flatten_append,aN]
 omega
theorem BD: ∀(N:Nat) (e:Ex) (a n:Nat),SizeOf.sizeOf e<=N->(shapeP e a n).1=0->n+(nms e).length+1<=(shapeP e a n).2+1/\n+1<=(shapeP e a n).2
 |0,e,_,_,l,_=>by cases e;simp at l
 |N+1,e,a,n,l,h=>by
  rw[jd]at h⊢;by_cases c1:600<n+1\/40<a
  ·rw[ax c1]at h;cases h
  rw[aw c1]at h⊢;by_cases i:aloneP e≠0
  ·rw[ax i]at h;exact absurd h i
  rw[aw i]at h⊢
  have g: ∀(b:List Ex),(∀k∈b,SizeOf.sizeOf k<=N)-> ∀m:Nat,(gF b (a+1) (0,m)).1=0->m+(jM b).length<=(gF b (a+1) (0,m)).2:=by
   intro b;induction b with
   |nil=>intro _ m _;simp[jM,qH]
   |cons k b t=>
    intro f m c;rw[gT,aw (by simp)]at c⊢
    have d:(shapeP k (a+1) m).1=0:=by
     by_cases d:(shapeP k (a+1) m).1=0
     ·exact d
     ·rw[jX d]at c;exact c
    obtain⟨p,v⟩:=BD N k (a+1) m (f k aV) d;obtain⟨j,r⟩: ∃j,shapeP k (a+1) m=(0,j):=⟨_,Prod.ext d rfl⟩
    rw[r]at c p⊢;have:=t (fun q s=>f q (bj _ s)) j c;have o:(jM (k::b)).length=(nms k).length+(jM b).length:=(by simp[jM]);rw[o];dsimp only at p;omega
  have u:=g e.kids (fun k f=>by have:=fy f;omega) (n+1) h
  have o:(nms e).length<=1+(jM e.kids).length:=by
   rw[mw,aN];split<;>simp
  omega
end Lx
def AV (w:World)(a:Nat):Value:= .func (.func 80) #[] #[ab w.heap.size 0,ab (w.heap.size+1+1) 0,ab a 0]
def Tz (w:World)(l:List Ru)(n mb c i:Nat)(a:List (List Int))(r:List Int)(b:List Ex)(d:World)(t:Value)(wr:World):Prop:= ∃j:Nat,t=ag (j:Int)/\j<=b.length/\SpS w l n mb c i (a.set i (ii l r (jM (b.take j)))) wr/\KT d wr
theorem uw (w:World)(l:List Ru)(n mb z i:Nat)(d:List (List Int))(hM:jn w mb l)(ah:i<n)(hn:n<=1000000)(al:d.length=n)
  (e:Ex) (C:Option Addr) (D:Nat) (r:List Int) (wr:World) (h:SpS w l n mb z i (d.set i r) wr) (X:r.length+(nms e).length<=1000000) (T:(e.kids.length:Int)<9223372036854775808)
  (R: ∀(j:Nat) (k:Ex),e.kids[j]? =some k-> ∃(g o:Nat) (M:Option Addr) (K:Nat),C=some ⟨g,o,none⟩/\
    w.cell? (ae g (o+j*5))=some (ag k.kind)/\w.cell? (ae g (o+j*5+1))=some (ag k.a)/\w.cell? (ae g (o+j*5+2))=some (ag k.b)/\
    w.cell? (ae g (o+j*5+3))=some (.string ⟨k.name.toArray⟩)/\w.cell? (ae g (o+j*5+4))=some (.slice M k.kids.length K)/\
    ∀(q:List Int) (W:World),SpS w l n mb z i (d.set i q) W->q.length+(nms k).length<=1000000->Calls prog 79 #[exV k (.slice M k.kids.length K),AV w z] W (zf w l n mb z i (d.set i (ii l q (nms k))) W)):
  Calls prog 79 #[exV e (.slice C e.kids.length D),AV w z] wr (zf w l n mb z i (d.set i (ii l r (nms e))) wr):=by
 have HK:=aG R;have m:ao wr (wr.alloc (.cells #[ag e.kind,ag e.a,ag e.b,.string ⟨e.name.toArray⟩,.slice C e.kids.length D] 78)):=am _ _;have f:=aB wr (.cells #[ag e.kind,ag e.a,ag e.b,.string ⟨e.name.toArray⟩,.slice C e.kids.length D] 78);have P:=h.below m;unfold exV;clear R h;generalize J:wr.alloc (.cells #[ag e.kind,ag e.a,ag e.b,.string ⟨e.name.toArray⟩,.slice C e.kids.length D] 78)=wA at*;have z0:=ak 0 f;have z3:=ak 3 f;have z4:=ak 4 f;have c:=mw e;unfold AV;go_enter func79,ntmps79;go_upto_if 8 with fail;rename_i K1 G
 have aa: ∀(N O v x y:Value) (q:List Int) (W:World),SpS w l n mb z i (d.set i q) W->KT wr W->q.length+(jM e.kids).length<=1000000->ii l q (jM e.kids)=ii l r (nms e)->W.cell? (ae wr.heap.size 4)=some (.slice C e.kids.length D)->
   K1 ⟨#[.agg #[ag e.kind,ag e.a,ag e.b,.string ⟨e.name.toArray⟩,.slice C e.kids.length D],.func (.func 80) #[] #[ab w.heap.size 0,ab (w.heap.size+1+1) 0,ab z 0],ab wr.heap.size 0,undef,undef,undef,ab wr.heap.size 0,ag e.kind,N,O,v,x,y,undef,undef,undef,undef,undef,undef,undef,undef,undef,undef,undef],[]⟩ W:=by
  intro N O v x y q W hW S a0 V af;refine G _ _ ?_;have Hqe:=aG V;have Hkt:=aG S;clear S;clear G P f z0 z3 z4 m c V J X;go_wp2_with fail;clear af;go_loopw [5,16] (fun _ t wq=>Tz w l n mb z i d q e.kids wr t wq) (fun _ t _=>e.kids.length-(intOf t).toNat);case atStart=>exact⟨0,rfl,by omega,hW,Hkt.o⟩
  case round=>
   obtain⟨j,rfl,hj,u,E⟩:=hrel;have Hktj:=aG E;clear hW E Hkt;have ay:(0:Int)<=(j:Int):=(by omega);by_cases ap:j<e.kids.length
   ·have U:(j:Int)<(e.kids.length:Int):=(by omega);obtain⟨k,B⟩: ∃k,e.kids[j]? =some k:=⟨e.kids[j],az ap⟩
    obtain⟨g,o,M,K,ar,c0,c1,c2,c3,c4,cK⟩:=HK.o j k B;have Y:=BC B;have aq:=MR B;have au:=uR l (jM (e.kids.take j)) q;subst ar;have p:=u.bel;have d0:=aj p c0;have d1:=aj p c1;have d2:=aj p c2;have d3:=aj p c3;have d4:=aj p c4;have I:=am wr (.cells #[ag k.kind,ag k.a,ag k.b,.string ⟨k.name.toArray⟩,.slice M k.kids.length K] 78);have Z:=aB wr (.cells #[ag k.kind,ag k.a,ag k.b,.string ⟨k.name.toArray⟩,.slice M k.kids.length K] 78);have cR:=cK _ _ (u.below I) (by omega);rw[<-zg,<-Y]at cR;unfold exV AV at cR;have HbA:=aG I;clear Y aq au B c0 c1 c2 c3 c4 cK u p I;generalize a1:wr.alloc (.cells #[ag k.kind,ag k.a,ag k.b,.string ⟨k.name.toArray⟩,.slice M k.kids.length K] 78)=wB at*;go_wp2_with(refine aO rfl 78 _ rfl _ rfl _ _ _ _ Z p8 rfl (by kernel_rfl) ?_)
    refine cR.mono ?_;rintro e' w2 ⟨rfl,A,s⟩;have F:=aG ((Hktj.o.trans (KT.below HbA.o)).trans s);clear cR Z Hktj HbA s;go_wp2_with fail;go_roundw;case rel=>exact⟨j+1,by go_num,by omega,A,F.o⟩
    case measure=>simp[intOf];omega
   ·have U: ¬(j:Int)<(e.kids.length:Int):=(by omega);have HO:=fun(H:SpS w l n mb z i (d.set i (ii l r (nms e))) wr)=>aG (jv (rfl:Ending.returned (.tuple #[])= .returned (.tuple #[])) (jv H Hktj.o))
    have HO:=HO (by
     rw[<-Hqe.o];have e1:e.kids.take j=e.kids:=da (by omega);rw[e1]at u;exact u)
    clear u HK Hqe Hktj;go_wp2_with fail;refine aX (eN rfl _ _ _) rfl ?_;exact⟨rfl,HO.o.2⟩
 clear G HK;have Hkey:=aG aa;clear aa;by_cases L:e.kind=10
 ·have ai:(e.kind==10)=true:=by rw[L];rfl
  rw[ax L]at c;have an:(nms e).length=1+(jM e.kids).length:=(by rw[c];simp;omega);have cS:=Fh w l n mb z i d r e.name wA hM ah hn al (by omega) P;have ad:=DB r (atP5 l e.name)
  have Q:ii l (addN r (atP5 l e.name)) (jM e.kids)=ii l r (nms e):=by
   rw[c,zg];rfl
  have HL:T4 ((addN r (atP5 l e.name)).length+(jM e.kids).length<=1000000):=by
   show _<=_;omega
  have HE:=aG Q;have Hx:=aG f;have ac:=aG m;clear L c an ad Q X f P hM J m z0 z4 T;generalize addN r (atP5 l e.name)=q at*;go_wp2_with fail;refine cS.mono ?_;rintro e' w2 ⟨rfl,A,s⟩;have av:w2.cell? (ae wr.heap.size 4)=some (.slice C e.kids.length D):=(aW _ _ 4 _ _ _ (s _ _ _ _ Hx.o (by decide) (by decide))).trans rfl;have F:=aG ((KT.below ac.o).trans s);clear cS s;go_wp2_with fail;exact Hkey.o _ _ _ _ _ q w2 A F.o HL.o HE.o av
 ·have ai:(e.kind==10)=false:=bl.2 L;rw[aw L,List.nil_append]at c;have HF:T4 (∀(N O v x y:Value),K1 ⟨#[.agg #[ag e.kind,ag e.a,ag e.b,.string ⟨e.name.toArray⟩,.slice C e.kids.length D],.func (.func 80) #[] #[ab w.heap.size 0,ab (w.heap.size+1+1) 0,ab z 0],ab wr.heap.size 0,undef,undef,undef,ab wr.heap.size 0,ag e.kind,N,O,v,x,y,undef,undef,undef,undef,undef,undef,undef,undef,undef,undef,undef],[]⟩ wA):=fun N O v x y=>Hkey.o N O v x y r wA P (KT.below m) (by rw[c]at X;exact X) (by rw[c]) z4;clear L c Hkey P hM X J m z0 z3 z4 f T;go_wp2_with fail;exact HF.o _ _ _ _ _
theorem uS (w:World)(l:List Ru)(n mb s i:Nat)(a:List (List Int))(v:jn w mb l)(f:i<n)(z:n<=1000000)(m:a.length=n):
  ∀(d:Nat) (e:Ex) (sl:Value) (r:List Int) (wr:World),fV (fun k=>k<w.heap.size) d w sl e.kids->SpS w l n mb s i (a.set i r) wr->r.length+(nms e).length<=1000000->Calls prog 79 #[exV e sl,AV w s] wr (zf w l n mb s i (a.set i (ii l r (nms e))) wr)
 |0,e,sl,r,wr,u,h,A=>by
  obtain⟨b,p,c,rfl⟩:=u;have:=uw w l n mb s i a v f z m e p c r wr h A (by rw[b];decide) (fun j k t=>by rw[b]at t;simp at t);rw[b]at this;exact this
 |d+1,e,sl,r,wr,u,h,A=>by
  obtain⟨M,F,B⟩:=u.form;subst B
  have y:(e.kids.length:Int)<9223372036854775808:=by
   rcases u with⟨b,_⟩|⟨_,_,_,_,_,J,_⟩
   ·rw[b];decide
   ·omega
  refine uw w l n mb s i a v f z m e M F r wr h A y fun j k t=> ?_;rcases u with⟨b,_⟩|⟨g,o,c,P,L,J,x⟩
  ·rw[b]at t;simp at t
  ·obtain⟨_,Q,c0,c1,C,D,E,q⟩:=x j k t;obtain⟨N,G,rfl⟩:=q.form;injection L with H;exact⟨g,o,N,G,H,c0,c1,C,D,E,fun O W I K=>uS w l n mb s i a v f z m d k _ O W q I K⟩
def oB (w:World)(d:Value)(a:List (List Int)):Prop:= ∃p c,d= .slice p a.length c/\ ∀(i:Nat) (b:List Int),a[i]? =some b-> ∃(g o:Nat) (v:Value),p=some ⟨g,o,none⟩/\w.cell? (ae g (o+i))=some v/\fk w v b
theorem oB.below {w f:World}{d:Value}{b:List (List Int)}(h:oB w d b)(a:ao w f):oB f d b:=by
 obtain⟨p,c,j,k⟩:=h;refine⟨p,c,j,fun i n hi=> ?_⟩;obtain⟨g,o,v,e,l,m⟩:=k i n hi;exact⟨g,o,v,e,aj a l,m.below a⟩
def lsJ (l:List Ru)(j:Nat):List (List Int):=(l.take j).map (gj l)++List.replicate (l.length-j) []
theorem Gi {l:List Ru}{j:Nat}(a:j<=l.length):(lsJ l j).length=l.length:=by simp[lsJ];omega
theorem DC (l:List Ru):lsJ l 0=List.replicate l.length []:=by simp[lsJ]
theorem Pa (l:List Ru):lsJ l l.length=l.map (gj l):=by simp[lsJ]
theorem MS {l:List Ru}{j:Nat}(a:j<l.length):(lsJ l j).set j []=lsJ l j:=by
 apply List.ext_getElem?;intro k;by_cases e:j=k
 ·subst e;rw[fQ (by rw[Gi (by omega)];omega)];have:((l.take j).map (gj l)).length=j:=(by simp;omega);unfold lsJ;rw[dR (by omega),this,jw,iy,ax (by omega)]
 ·rw[gH e]
theorem MT {l:List Ru}{j:Nat}{u:Ru}(a:l[j]? =some u):(lsJ l j).set j (gj l u)=lsJ l (j+1):=by
 have d:j<l.length:=(aE.1 a).1;have b:((l.take j).map (gj l)).length=j:=by simp;omega
 unfold lsJ;rw[List.set_append_right _ _ (by omega),b,jw];obtain⟨m,c⟩: ∃m,l.length-j=m+1:=⟨l.length-j-1,by omega⟩
 rw[c,List.replicate_succ,aI,fF,a,Option.toList_some,dV,dw];simp;omega
theorem Pb:(prog.info? 43).map (fun i=>(i.zero,i.size,i.bytes))=some (some (af),1,24):=by kernel_rfl
theorem Ie:prog.underlying 51=some (.slice 43):=by kernel_rfl
theorem MU (n:Nat):madeCells #[af] n=(List.replicate n (af)).toArray:=by
 apply Array.ext
 ·simp[madeCells]
 ·intro k a b;simp[madeCells,Nat.mod_one]
structure SpH (w:World)(n mb:Nat)(ls:List (List Int))(W:World):Prop where
 bel:ao w W
 b1:W.heap[w.heap.size]? =ah #[.map (some mb)] 66
 b5:W.heap[w.heap.size+1+1]? =ah #[.slice (some (ae (w.heap.size+1) 0)) n n] 51
 rows: ∃vs,Sps (w.heap.size+3) W (w.heap.size+1) w.heap.size vs ls
def TA (w:World)(l:List Ru)(n mb:Nat)(t:Value)(wr:World):Prop:= ∃j:Nat,t=ag (j:Int)/\j<=n/\SpH w n mb (lsJ l j) wr
def Oy (l:List Ru)(w:World)(e:Ending)(b:World):Prop:= ∃a,e= .returned a/\oB b a (l.map (gj l))/\ao w b
theorem SpH.open {w:World}{l:List Ru}{n mb j:Nat}{W:World}{cs:Array Value}(h:SpH w n mb (lsJ l j) W)(s:l.length=n)(r:j<n):SpS w l n mb W.heap.size j ((lsJ l j).set j []) ((W.alloc (.cells #[ag (j:Int)] 3)).alloc (.cells cs 80)):=by
 obtain⟨o,a⟩:=h.rows;have b1:=am W (.cells #[ag (j:Int)] 3);have b2:=b1.alloc b1.size (.cells cs 80);have i:(W.alloc (.cells #[ag (j:Int)] 3)).heap.size=W.heap.size+1:=by simp
 rw[MS (by omega)];refine⟨au h.bel b2,ai b2 h.b1,ai b2 h.b5,?_,aH h.b5,o,ai b2 a.blk,a.len,fun k v c d p=> ?_,a.apart,fun k v d e=> ?_⟩
 ·exact(dD _ _ _ (by rw[i];omega)).trans (aB W _)
 ·have m:=a.rows k v c d p;exact bH m fun b q=>b2.block b (m.lt b q).2
 ·obtain⟨c,g⟩: ∃c,(lsJ l j)[k]? =some c:=by
   have f:k<o.length:=(aE.1 d).1;exact⟨(lsJ l j)[k]'(by rw[<-a.len];exact f),az _⟩
  have:=((a.rows k v c d g).lt _ e).2;omega
theorem SpS.shut {w:World}{l:List Ru}{n mb m i:Nat}{b:List (List Int)}{W:World}(h:SpS w l n mb m i b W):SpH w n mb b W:=by
 obtain⟨j,a⟩:=h.rows;refine⟨h.bel,h.b1,h.b5,j,a.blk,a.len,a.rows,a.apart,fun k v g e=> ?_⟩
 obtain⟨f,d⟩: ∃f,b[k]? =some f:=by
  have c:k<j.length:=(aE.1 g).1;exact⟨b[k]'(by rw[<-a.len];exact c),az _⟩
 have:=((a.rows k v f g d).lt _ e).1;omega
theorem SpH.o {w:World}{l:List Ru}{n mb:Nat}{W:World}(h:SpH w n mb (lsJ l l.length) W)(k:l.length=n)(j: ∀u∈l,(gj l u).length<1000000):oB W (.slice (some (ae (w.heap.size+1) 0)) n n) (l.map (gj l)):=by
 obtain⟨g,a⟩:=h.rows;rw[Pa]at a;refine⟨_,_,by rw[bm,k],fun i f hi=> ?_⟩;have b:i<(l.map (gj l)).length:=(aE.1 hi).1;obtain⟨v,d⟩: ∃v,g[i]? =some v:=⟨g[i]'(by rw[a.len];exact b),az _⟩
 have c:f.length<1000000:=by
  rw[bf]at hi;obtain⟨u,m,e⟩:=eU.1 hi;rw[<-e];exact j u (aL m)
 refine⟨w.heap.size+1,0,v,rfl,?_,rE (a.rows i v f d hi) (by omega)⟩;rw[bN];exact(aW _ _ i _ _ _ a.blk).trans (by simpa using d)
theorem zi (c:List (Ru×Value))(v:Value)(mb:Nat)(w:World)(h:InR w v c)(V:jn w mb (c.map (fun p=>p.1)))(aa:c.length<=1000)(F: ∀p∈c,(nms p.1.2).length<=1000):
  Calls prog 39 #[v,.map (some mb)] w (Oy (c.map (fun p=>p.1)) w):=by
 obtain⟨l,L⟩:=aq (c.map (fun p=>p.1));have A:l.length=c.length:=by rw[<-L,bm]
 obtain⟨pv,cv,rfl⟩:=h.form;have HK:=aG h.cells;have HI:T4 (∀p∈c,∃d,fV (fun k=>k<w.heap.size) d w p.2 p.1.2.kids):=fun p W=>(h.all p W).2.2;have N:=aG F;have D:=run_make_row' (P:=prog) 51 43 (af) 24 Ie Pb rfl .i64 .i64 c.length (by omega) (by omega);rw[MU]at D;rw[L]at V⊢;have HL:T4 (c.map (fun p=>p.1)=l):=L;have r:=aG A;have HM:=aG V;clear h F L V;have O:=am w (.cells #[.map (some mb)] 66);have Q:=O.alloc O.size (.cells (List.replicate c.length (af)).toArray 43);have bC:=Q.alloc Q.size (.cells #[.slice (some (ae (w.heap.size+1) 0)) c.length c.length] 51);have s1:(w.alloc (.cells #[.map (some mb)] 66)).heap.size=w.heap.size+1:=by simp
 have M:((w.alloc (.cells #[.map (some mb)] 66)).alloc (.cells (List.replicate c.length (af)).toArray 43)).heap.size=w.heap.size+1+1:=by simp
 have I:SpH w c.length mb (lsJ l 0) (((w.alloc (.cells #[.map (some mb)] 66)).alloc (.cells (List.replicate c.length (af)).toArray 43)).alloc (.cells #[.slice (some (ae (w.heap.size+1) 0)) c.length c.length] 51)):=by
  refine⟨bC,?_,?_,List.replicate c.length (af),?_,?_,?_,?_,?_⟩
  ·exact(dD _ _ _ (by rw[M];omega)).trans ((dD _ _ _ (by rw[s1];omega)).trans (aB w _))
  ·have:=aB ((w.alloc (.cells #[.map (some mb)] 66)).alloc (.cells (List.replicate c.length (af)).toArray 43)) (.cells #[.slice (some (ae (w.heap.size+1) 0)) c.length c.length] 51);rw[M]at this;exact this
  ·refine(dD _ _ _ (by rw[M];omega)).trans ?_;have:=aB (w.alloc (.cells #[.map (some mb)] 66)) (.cells (List.replicate c.length (af)).toArray 43);rw[s1]at this;exact this
  ·rw[DC];simp[A]
  ·intro j v ns n z;rw[DC,iy]at z;rw[iy]at n;split at n
   ·split at z
    ·cases n;cases z;exact df _ _ _ _
    ·cases z
   ·cases n
  ·intro j k v v' b _ n _ h3;rw[iy]at n;split at n
   ·cases n;cases h3
   ·cases n
  ·intro j v n e;rw[iy]at n;split at n
   ·cases n;cases e
   ·cases n
 clear O Q bC s1 M A;have ac: ∀(fn:Fn) (first cap:Array Value) (w:World),(Instr.makeFunc fn first cap).run prog w= .ok (.func fn first cap) w:=fun _ _ _ _=>rfl;go_enter func39,ntmps39;go_wp2_with fail;go_loopw [6,7,13] (fun _ _ t wq=>TA w l c.length mb t wq) (fun _ _ t _=>c.length-(intOf t).toNat);case atStart=>exact⟨0,rfl,by omega,I⟩
 case round=>
  obtain⟨j,rfl,hj,f⟩:=hrel;clear I D;have ab:(0:Int)<=(j:Int):=(by omega);by_cases B:j<c.length
  ·have C:(j:Int)<(c.length:Int):=(by omega);obtain⟨⟨u,sk⟩,q⟩: ∃p,c[j]? =some p:=⟨c[j],az B⟩
   have J:l[j]? =some u:=(by rw[<-HL.o,bf,q];rfl);obtain⟨g,o,X,c0,c1,R,S,T,U⟩:=HK.o j _ q;obtain⟨dk,s⟩:=HI.o _ (aL q);have E:=N.o _ (aL q);dsimp only at c0 c1 R S T U s E;obtain⟨ps,K,rfl⟩:=s.form;subst X;have i:=f.bel;have d0:=aj i c0;have d1:=aj i c1;have d2:=aj i R;have d3:=aj i S;have d4:=aj i T;have d5:=aj i U;have H:=f.open (cs:= #[.string ⟨u.1.toArray⟩,ag u.2.kind,ag u.2.a,ag u.2.b,.string ⟨u.2.name.toArray⟩,.slice ps u.2.kids.length K]) r.o B;have cE:=uS w l c.length mb wr.heap.size j (lsJ l j) HM.o B (by omega) ((Gi (by rw[r.o];omega)).trans r.o) dk u.2 _ [] _ s H (by simp;omega);have G:(lsJ l j).set j (ii l [] (nms u.2))=lsJ l (j+1):=MT J;rw[G]at cE;have m:=aB (wr.alloc (.cells #[ag (j:Int)] 3)) (.cells #[.string ⟨u.1.toArray⟩,ag u.2.kind,ag u.2.a,ag u.2.b,.string ⟨u.2.name.toArray⟩,.slice ps u.2.kids.length K] 80);rw[show(wr.alloc (.cells #[ag (j:Int)] 3)).heap.size=wr.heap.size+1 by simp]at m;unfold exV AV at cE;clear G H J q c0 c1 R S T U s E i f;generalize Z:(wr.alloc (.cells #[ag (j:Int)] 3)).alloc (.cells #[.string ⟨u.1.toArray⟩,ag u.2.kind,ag u.2.a,ag u.2.b,.string ⟨u.2.name.toArray⟩,.slice ps u.2.kids.length K] 80)=wB at*;have r1:=ak 1 m;have r2:=ak 2 m;have r3:=ak 3 m;have r4:=ak 4 m;have r5:=ak 5 m;go_wp2_with fail;refine cE.mono ?_;rintro e' w2 ⟨rfl,y,_⟩;have Y:=y.shut;clear cE y Z m r1 r2 r3 r4 r5;go_wp2_with fail;go_roundw;case rel=>exact⟨j+1,by go_num,by omega,Y⟩
   case measure=>simp[intOf];omega
  ·have ej:j=c.length:=(by omega);have C: ¬(j:Int)<(c.length:Int):=(by omega);have k5:=ak 0 f.b5
   have HO:T4 (Oy l w (.returned (.slice (some (ae (w.heap.size+1) 0)) c.length c.length)) wr):=by
    have z:=r.o;refine⟨_,rfl,?_,f.bel⟩;rw[ej,<-z]at f
    have:=SpH.o f rfl fun x hx=>by
     rw[<-HL.o]at hx;obtain⟨p,W,rfl⟩:=dB.1 hx;have h3:=N.o p W;have h4:=uR l (nms p.1.2) [];unfold gj;simp at h4;omega
    rw[<-z];exact this
   clear f HK HI N HM ej;go_wp2_with fail;go_ret;exact HO.o
def qd (a:List Int):List Nat:=a.map Int.toNat
def iP (l:List Ru)(i:Nat):List Nat:=match l[i]? with|some u=>qd (gj l u)|none=>[]
theorem rF {l:List Ru}{i:Nat}{u:Ru}(h:l[i]? =some u):iP l i=qd (gj l u):=by unfold iP;rw[h]
theorem DD {w:World}{s:Value}{l:List Ru}(h:oB w s (l.map (gj l)))(y: ∀u∈l,-1∉gj l u):tO w s l.length (iP l):=by
 have r: ∀u∈l,∀m∈gj l u,0<=m/\m<l.length:=fun u d m b=>by
  have j:=(tM (l:=l) (nms u.2) [] List.nodup_nil (fun m b=>by cases b)).2 m b;have n:m≠ -1:=fun e=>y u d (e▸b);omega
 obtain⟨p,c,j,n⟩:=h;refine⟨⟨p,c,by rw[j,bm],fun i hi=> ?_⟩,fun i k a=> ?_⟩
 ·obtain⟨u,d⟩: ∃u,l[i]? =some u:=⟨l[i],az hi⟩
  obtain⟨g,o,v,e,t,A⟩:=n i (gj l u) (by rw[bf,d];rfl);refine⟨g,o,v,e,t,?_⟩;rw[rF d]
  have:(qd (gj l u)).map (fun k:Nat=>(k:Int))=gj l u:=by
   unfold qd;rw[iU]
   have x: ∀f:List Int,(∀m∈f,0<=m)->f.map ((fun k:Nat=>(k:Int))∘Int.toNat)=f:=by
    intro f;induction f with
    |nil=>intro _;rfl
    |cons m f B=>
     intro b;rw[cQ,B fun q z=>b q (bj _ z)];have:=b m aV;show((m.toNat:Nat):Int)::f=_;rw[Int.toNat_of_nonneg this]
   exact x _ fun m b=>(r u (aL d) m b).1
  rw[this];exact A
 ·unfold iP at a;split at a
  ·rename_i u d;unfold qd at a;obtain⟨m,b,rfl⟩:=dB.1 a;have:=r u (aL d) m b;omega
  ·cases a
theorem Ko {l:List Ru}{i:Nat}{u:Ru}(h:l[i]? =some u):0<=atP5 l u.1:=by
 have a: ∀(l:List Ru) (k i:Nat),l[i]? =some u->0<=atF l k u.1:=by
  intro l;induction l with
  |nil=>intro k i h;simp at h
  |cons v l c=>
   intro k i h;simp only[atF];split
   ·omega
   ·rename_i b;cases i with
    |zero=>simp at h;exact absurd (by rw[h]) b
    |succ i=>exact c (k+1) i (by simpa using h)
 exact a l 0 i h
theorem Kq (a:List (Ru×Value))(v:Option Addr)(k:Nat)(mb j b1 i:Nat)(u:Ru)(w:World)(h:InR w (.slice v a.length k) a)(q:jn w mb (a.map (fun p=>p.1)))(l:w.heap[b1]? =ah #[.slice v a.length k] 23)(m:w.heap[j]? =ah #[.map (some mb)] 66)(d:(a.map (fun p=>p.1))[i]? =some u):
  Calls prog 40 #[ag (i:Int),ab j 0,ab b1 0] w fun r B=>r= .returned (.bool (atP5 (a.map (fun p=>p.1)) u.1 !=(i:Int)))/\ao w B:=by
 have b:=fun W (x:w.heap=W.heap)=>Ia (w:=W) (q.later (by rw[x])) u.1 (Ko d)
 obtain⟨⟨A,E⟩,f,c⟩: ∃p,a[i]? =some p/\p.1=u:=by
  rw[bf]at d;exact eU.1 d
 dsimp only at c;subst c;have hi:i<a.length:=(aE.1 f).1;obtain⟨g,o,rfl,c0,_⟩:=h.cells i _ f;dsimp only at c0;have C:=ak 0 l;have D:=ak 0 m;have y:(0:Int)<=(i:Int):=by omega
 have z:(i:Int)<(a.length:Int):=by omega
 have s:=fun n=>b (w.drewN n) rfl;have t:=b w rfl;generalize atP5 (a.map (fun p=>p.1)) A.1=N at*;clear b h q d f l m;go_enter func40,ntmps40;go_wp2_with fail;go_quiet (fail);have e:ao w (w.drewN nq):=du (aF _ _) nq;go_wp2_with fail;go_ret;exact⟨rfl,e⟩
theorem Kr (l:List Ru)(k:Value)(b5 i:Nat)(u:Ru)(w:World)(m:oB w k (l.map (gj l)))(f:w.heap[b5]? =ah #[k] 51)(d:l[i]? =some u):
  Calls prog 41 #[ag (i:Int),ab b5 0] w fun r x=>r= .returned (.bool (decide (-1∈gj l u)))/\ao w x:=by
 obtain⟨p,c,rfl,a⟩:=m;obtain⟨g,o,v,rfl,z,j⟩:=a i (gj l u) (by rw[bf,d];rfl);have hi:i<l.length:=(aE.1 d).1;have e:=lV (gj l u) v (-1) w j;obtain⟨B,y,rfl,_,_⟩:=j;have t:=ak 0 f;rw[bm]at t;have q:(0:Int)<=(i:Int):=by omega
 have s:(i:Int)<(l.length:Int):=by omega
 clear a f d;generalize decide (-1∈gj l u)=b at*;generalize (gj l u).length=A at*;go_enter func41,ntmps41;go_wp2_with fail;refine e.mono ?_;rintro r C ⟨rfl,n⟩;clear e;go_wp2_with fail;go_ret;exact⟨rfl,n⟩
theorem Ks (l:List Ru)(b:Value)(b5 i:Nat)(w:World)(a:tO w b l.length (iP l))(o:l.length<=1000)(d:w.heap[b5]? =ah #[b] 51)(hi:i<l.length):
  Calls prog 43 #[ag (i:Int),ab b5 0] w fun r n=>r= .returned (.bool (fol (iP l) (l.length+1) (fun _=>false) i i))/\ao w n:=by
 have cR:=xi b l.length (iP l) i w a (by omega) hi;obtain⟨p,c,rfl,_⟩:=a.form;have q:=ak 0 d;have j:(0:Int)<=(i:Int):=by omega
 have k:(i:Int)<(l.length:Int):=by omega
 generalize fol (iP l) (l.length+1) (fun _=>false) i=m at*;clear d a;go_enter func43,ntmps43;go_wp2_with fail;refine cR.mono ?_;rintro r t ⟨g,rfl,e,f⟩;have s:=(aW _ _ i _ _ _ e).trans (oh hi);clear cR e;go_wp2_with fail;go_ret;exact⟨rfl,f⟩
namespace Lx
def frF (p:Nat->Bool):Nat->Nat->Option Nat
 |_,0=>none
 |i,k+1=>if p i=true then some i else frF p (i+1) k
theorem tQ {p:Nat->Bool}{j:Nat}(f:p j=true): ∀(k i:Nat),i<=j->j<i+k->(∀c,i<=c->c<j->p c=false)->frF p i k=some j
 |0,i,g,l,_=>by omega
 |k+1,i,g,l,d=>by
  rw[frF];by_cases e:i=j
  ·subst e;rw[ax f]
  ·rw[aw (by rw[d i (aA _) (by omega)];decide)];exact tQ f k (i+1) (by omega) (by omega) fun c a b=>d c (by omega) b
theorem nH {p:Nat->Bool}: ∀(k i:Nat),(∀c,i<=c->c<i+k->p c=false)->frF p i k=none
 |0,_,_=>rfl
 |k+1,i,h=>by
  rw[frF,aw (by rw[h i (aA _) (by omega)];decide)];exact nH k (i+1) fun c a b=>h c (by omega) (by omega)
end Lx
def lk1 (l:List Ru)(i:Nat):Bool:=match l[i]? with|some u=>atP5 l u.1 !=(i:Int)|none=>false
def lk2 (l:List Ru)(i:Nat):Bool:=match l[i]? with|some u=>decide (-1∈gj l u)|none=>false
def lk3 (l:List Ru)(i:Nat):Bool:=fol (iP l) (l.length+1) (fun _=>false) i i
def dm (l:List Ru):Int×Nat:=if(dQ7 l).1≠0 then dQ7 l else match frF (lk1 l) 0 l.length with
 |some i=>(7,i)
 |none=>match frF (lk2 l) 0 l.length with
  |some i=>(6,i)
  |none=>match frF (lk3 l) 0 l.length with
   |some i=>(9,i)
   |none=>(0,0)
theorem SF {l:List Ru}{i:Nat}(c:(dQ7 l).1=0)(hi:i<l.length)(d:lk1 l i=true)(a: ∀b,b<i->lk1 l b=false):dm l=(7,i):=by
 unfold dm;rw[aw (by simpa using c),tQ d l.length 0 (by omega) (by omega) fun b _ h=>a b h]
theorem SG {l:List Ru}{i:Nat}(c:(dQ7 l).1=0)(d: ∀a,a<l.length->lk1 l a=false)(hi:i<l.length)(e:lk2 l i=true)(b: ∀a,a<i->lk2 l a=false):dm l=(6,i):=by
 unfold dm;rw[aw (by simpa using c),nH l.length 0 fun a _ h=>d a (by omega),tQ e l.length 0 (by omega) (by omega) fun a _ h=>b a h]
theorem SH {l:List Ru}{i:Nat}(c:(dQ7 l).1=0)(d: ∀a,a<l.length->lk1 l a=false)(e: ∀a,a<l.length->lk2 l a=false)(hi:i<l.length)(f:lk3 l i=true)(b: ∀a,a<i->lk3 l a=false):dm l=(9,i):=by
 unfold dm;rw[aw (by simpa using c),nH l.length 0 fun a _ h=>d a (by omega),nH l.length 0 fun a _ h=>e a (by omega),tQ f l.length 0 (by omega) (by omega) fun a _ h=>b a h]
theorem If {l:List Ru}(b:(dQ7 l).1=0)(c: ∀a,a<l.length->lk1 l a=false)(d: ∀a,a<l.length->lk2 l a=false)(e: ∀a,a<l.length->lk3 l a=false):dm l=(0,0):=by
 unfold dm;rw[aw (by simpa using b),nH l.length 0 fun a _ h=>c a (by omega),nH l.length 0 fun a _ h=>d a (by omega),nH l.length 0 fun a _ h=>e a (by omega)]
def MV (n:Nat)(p:Nat->Bool)(b c:World)(t:Value)(wr:World):Prop:= ∃i:Nat,t=ag (i:Int)/\i<=n/\(∀a,a<i->p a=false)/\ao b wr/\ao c wr
def Ig (l:List Ru)(n:Nat)(b:World)(t:Value)(wr:World):Prop:= ∃k:Nat,t=ag (k:Int)/\k<=3/\((0<k-> ∀a,a<n->lk1 l a=false)/\(1<k-> ∀a,a<n->lk2 l a=false)/\(2<k-> ∀a,a<n->lk3 l a=false))/\ao b wr
theorem BE {l:List Ru}(h:(dQ7 l).1=0):l.length<=40/\ ∀u∈l,(nms u.2).length<=600:=by
 unfold dQ7 at h;split at h
 ·cases h
 ·refine⟨by omega,?_⟩
  have c: ∀(l:List Ru) (i:Nat),(iA l i).1=0-> ∀u∈l,ruleP u=0:=by
   intro l;induction l with
   |nil=>intro _ _ u a;cases a
   |cons x l e=>
    intro i h u a;rw[iA]at h;split at h
    ·rename_i d;exact absurd h d
    ·rename_i d;rcases bv.1 a with rfl|a
     ·simpa using d
     ·exact e _ h u a
  intro u a;have b:=c l 0 h u a;unfold ruleP at b;split at b
  ·cases b
  ·have f:=BD _ u.2 1 0 (aA _) b;have g:=sd b;omega
theorem vZ (f:List (Ru×Value))(v:Value)(w:World)(h:InR w v f):Calls prog 16 #[v] w fun r X=>r= .returned (.agg #[ag (dm (f.map (fun p=>p.1))).1,ag ((dm (f.map (fun p=>p.1))).2:Int)])/\ao w X:=by
 obtain⟨l,hl⟩:=aq (f.map (fun p=>p.1));have a8:l.length=f.length:=by rw[<-hl,bm]
 obtain⟨pv,cv,rfl⟩:=h.form;have bA:=am w (.cells #[.slice pv f.length cv] 23);have bB:=bA.alloc bA.size (.cells #[ag 0,ag 0] 26);have s1:(w.alloc (.cells #[.slice pv f.length cv] 23)).heap.size=w.heap.size+1:=by simp
 have n1:=(dD _ (.cells #[ag 0,ag 0] 26) _ (aH (aB w (.cells #[.slice pv f.length cv] 23)))).trans (aB w (.cells #[.slice pv f.length cv] 23));have n2:=aB (w.alloc (.cells #[.slice pv f.length cv] 23)) (.cells #[ag 0,ag 0] 26);rw[s1]at n2;generalize ap:(w.alloc (.cells #[.slice pv f.length cv] 23)).alloc (.cells #[ag 0,ag 0] 26)=wB at*;have cW:=By f _ wB (h.below bB);have k1:=ak 0 n1;rw[hl]at cW⊢;go_enter func16,ntmps16;go_wp2_with fail;refine cW.mono ?_;rintro r w1 ⟨rfl,af⟩;have m1:=ai af n1;have m2:=ai af n2;have ac:=au bB af;by_cases P:(dQ7 l).1=0
 ·obtain⟨aQ,aM⟩:=BE P;rw[P];generalize (((dQ7 l).2:Nat):Int)=B at*;have bC:=am w1 (.cells #[ag 0,ag B] 26);have K:=au ac bC;have ar:=ai bC m1;have T:=ai bC m2;have k1:=ak 0 ar;have cN:=pU f _ _ (h.below K);have m3:=aB w1 (.cells #[ag 0,ag B] 26);generalize aN:w1.alloc (.cells #[ag 0,ag B] 26)=w2 at*;have z0:=ak 0 m3;go_wp2_with fail;refine cN.mono ?_;rintro r w3 ⟨mb,rfl,aT,hM,ah⟩;have m1:=(ah.block _ (aH ar)).trans ar;have m2:=(ah.block _ (aH T)).trans T;have a3:=au K ah;have bD:=am w3 (.cells #[.map (some mb)] 66);have ad:=au a3 bD;have ae:jn (w3.alloc (.cells #[.map (some mb)] 66)) mb (f.map (fun p=>p.1)):=hM.later (bD.block _ (ij hM));have q1:=ai bD m1;have q2:=ai bD m2;have q4:=aB w3 (.cells #[.map (some mb)] 66)
  have cS:=zi f _ mb _ (h.below ad) ae (by omega) (fun p H=>by
   have:=aM p.1 (by rw[<-hl];exact dB.2 ⟨p,H,rfl⟩);omega)
  generalize aX:w3.alloc (.cells #[.map (some mb)] 66)=w4 at*;have k1:=ak 0 q1;have k4:=ak 0 q4;go_wp2_with fail;refine cS.mono ?_;rintro r w5 ⟨so,rfl,hZ,z⟩;rw[hl]at hZ;obtain⟨pz,cz,a9,_⟩:=(show oB w5 so (l.map (gj l)) from hZ)
  rw[bm,a8]at a9;obtain⟨Y,al⟩:=aq w3.heap.size;have p1:=ai z q1;have p2:=ai z q2;have p4:=ai z q4;have ay:=ae.later (z.block _ (ij ae));have a4:=au ad z;have bE:=am w5 (.cells #[so] 51);have a5:=au a4 bE;have x5:=aB w5 (.cells #[so] 51);have x1:=ai bE p1;have x2:=ai bE p2;have x4:=ai bE p4;have a0:=ay.later (bE.block _ (ij ay));have aL:=oB.below hZ bE;generalize aY:w5.alloc (.cells #[so] 51)=w6 at*;rw[al]at x4;obtain⟨b5,z⟩:=aq w5.heap.size;rw[z]at x5;have bF:=am w6 (.cells #[ag 7,.func (.func 40) #[] #[ab Y 0,ab w.heap.size 0],ag 6,.func (.func 41) #[] #[ab b5 0],ag 9,.func (.func 43) #[] #[ab b5 0]] 123);have M:=aB w6 (.cells #[ag 7,.func (.func 40) #[] #[ab Y 0,ab w.heap.size 0],ag 6,.func (.func 41) #[] #[ab b5 0],ag 9,.func (.func 43) #[] #[ab b5 0]] 123);have HbW:=aG (au a5 bF);have y1:=ai bF x1;have y2:=ai bF x2;have y4:=ai bF x4;have y5:=ai bF x5;have a1:=a0.later (bF.block _ (ij a0));have a2:=oB.below aL bF;have a7:=h.below HbW.o;have I:=aG a8;have H0:=aG P;have aV: ∀(fn:Fn) (first cap:Array Value) (w:World),(Instr.makeFunc fn first cap).run prog w= .ok (.func fn first cap) w:=fun _ _ _ _=>rfl;subst a9;try simp only[al]
  try simp only[z]
  go_wp2_with fail;try simp only[al]
  try simp only[z]
  generalize aR:w6.alloc (.cells #[ag 7,.func (.func 40) #[] #[ab Y 0,ab w.heap.size 0],ag 6,.func (.func 41) #[] #[ab b5 0],ag 9,.func (.func 43) #[] #[ab b5 0]] 123)=U at*;have kl:=ak 0 y1;have g0:=ak 0 M;have g1:=ak 1 M;have g2:=ak 2 M;have g3:=ak 3 M;have g4:=ak 4 M;have g5:=ak 5 M;have L:=y2
  have aD:T4 (∀(i:Nat),i<f.length-> ∀W,ao U W->Calls prog 40 #[ag (i:Int),ab Y 0,ab w.heap.size 0] W fun r X=>r= .returned (.bool (lk1 l i))/\ao W X):=fun i hi W N=>by
   obtain⟨u,hu⟩: ∃u,l[i]? =some u:=⟨l[i]'(by omega),az _⟩
   have e:lk1 l i=(atP5 l u.1 !=(i:Int)):=(by unfold lk1;rw[hu]);rw[e];have:=Kq f pv cv mb Y w.heap.size i u W (a7.below N) (a1.later (N.block _ (ij a1))) (ai N y1) (ai N y4) (by rw[hl];exact hu);rw[hl]at this;exact this
  have aI:T4 (∀(i:Nat),i<f.length-> ∀W,ao U W->Calls prog 41 #[ag (i:Int),ab b5 0] W fun r X=>r= .returned (.bool (lk2 l i))/\ao W X):=fun i hi W N=>by
   obtain⟨u,hu⟩: ∃u,l[i]? =some u:=⟨l[i]'(by omega),az _⟩
   have e:lk2 l i=decide (-1∈gj l u):=(by unfold lk2;rw[hu]);rw[e];exact Kr l _ b5 i u W (a2.below N) (ai N y5) hu
  have aJ:T4 ((∀y,y<f.length->lk2 l y=false)-> ∀(i:Nat),i<f.length-> ∀W,ao U W->Calls prog 43 #[ag (i:Int),ab b5 0] W fun r X=>r= .returned (.bool (lk3 l i))/\ao W X):=fun d i hi W N=>by
   refine Ks l _ b5 i W (DD (a2.below N) fun u hu hm=> ?_) (by omega) (ai N y5) (by omega);obtain⟨j,hj⟩:=List.getElem?_of_mem hu;have aS:j<l.length:=(aE.1 hj).1;have:=d j (by omega);unfold lk2 at this;rw[hj]at this;dsimp only at this;rw[bc hm]at this;cases this
  have aP:(f.length:Int)<=40:=(by omega);go_loopw [8,9,30] (fun _ _ t wr=>Ig l f.length U t wr) (fun _ _ t _=>3-(intOf t).toNat);case atStart=>exact⟨0,rfl,by omega,⟨fun h=>absurd h (by omega),fun h=>absurd h (by omega),fun h=>absurd h (by omega)⟩,aF _ _⟩
  case round=>
   obtain⟨k,rfl,an,d,n⟩:=hrel;match k,an with
   |0,_=>
    have d0:=aj n g0;have d1:=aj n g1;have D:=n.alloc n.size (.cells #[ag 7,.func (.func 40) #[] #[ab Y 0,ab w.heap.size 0]] 123);have G:=aB wr (.cells #[ag 7,.func (.func 40) #[] #[ab Y 0,ab w.heap.size 0]] 123);have cL:=aD.o;generalize ap:wr.alloc (.cells #[ag 7,.func (.func 40) #[] #[ab Y 0,ab w.heap.size 0]] 123)=wB at*;have Z:=ak 0 G;have e1:=ak 1 G;have aA:=aj D kl;have Hno:=aG d;go_wp2_with fail;obtain⟨b8,Q⟩:=aq wr.heap.size;simp only[Q]at Z e1⊢;go_loopw [9,36] (fun _ t wr=>MV f.length (lk1 l) U wB t wr) (fun _ t _=>f.length-(intOf t).toNat);case atStart=>exact⟨0,rfl,by omega,fun y R=>by omega,D,aF _ _⟩
    case round=>
     obtain⟨i,rfl,hi,c,m,x⟩:=hrel;have a6:(0:Int)<=(i:Int):=(by omega);have C:=aj x Z;have av:=aj x e1;have Hall:=aG c;by_cases s:i<f.length
     ·have F:(i:Int)<(f.length:Int):=(by omega);have J:=cL i s wr m;cases H:lk1 l i with
      |true=>
       rw[H]at J
       have V:T4 (dm l=(7,i)):=by
        have c:=Hall.o;have d:=Hno.o;have P:=H0.o;have s:i<l.length:=(by rw[I.o];exact s);have aw:=I.o;exact SF P s H c
       go_wp2_with fail;refine J.mono ?_;rintro r w2 ⟨rfl,g⟩;have aa:=(g.cell (aU C)).trans C;have q:=au m g;have S:=ai q L;have A:=below_setRow ((HbW.o).trans (q.mono (HbW.o).size)) (show w.heap.size<=w.heap.size+1 by omega) #[ag 7,ag (i:Int)]
       go_wp2_with(first
        |(refine aC rfl 26 _ _ rfl _ _ rfl rfl _ _ S (by kernel_rfl) (by simp) (by simp[Value.oneCell']) ?_))
       refine og 2 (by kernel_rfl) (w.heap.size+1) _ _ rfl rfl (aK _ _ _ _ _ _ S) ?_;rw[V.o];exact⟨rfl,A⟩
      |false=>
       rw[H]at J
       have O:T4 (∀y,y<i+1->lk1 l y=false):=fun y R=>by
        by_cases e:y=i
        ·rw[e];exact H
        ·exact Hall.o y (by omega)
       go_wp2_with fail;refine J.mono ?_;rintro r w2 ⟨rfl,g⟩;have q:=au m g;have E:=au x g;go_wp2_with fail;go_roundw
       case rel=>
        (repeat apply iW);refine⟨?_,rfl⟩;exact⟨i+1,by go_num,by omega,O.o,q,E⟩
       case measure=>simp[intOf];omega
     ·have F: ¬(i:Int)<(f.length:Int):=(by omega);have ei:i=f.length:=(by omega)
      have O:T4 (Ig l f.length U (ag 1) wr):=by
       have d:=Hno.o;have c:=Hall.o;rw[ei]at c;exact⟨1,rfl,by omega,⟨fun _=>c,fun h=>absurd h (by omega),fun h=>absurd h (by omega)⟩,m⟩
      go_wp2_with fail;go_roundw;case rel=>exact O.o
      case measure=>simp[intOf]
   |1,_=>
    have d0:=aj n g2;have d1:=aj n g3;have D:=n.alloc n.size (.cells #[ag 6,.func (.func 41) #[] #[ab b5 0]] 123);have G:=aB wr (.cells #[ag 6,.func (.func 41) #[] #[ab b5 0]] 123);have cL:=aI.o;generalize ap:wr.alloc (.cells #[ag 6,.func (.func 41) #[] #[ab b5 0]] 123)=wB at*;have Z:=ak 0 G;have e1:=ak 1 G;have aA:=aj D kl;have Hno:=aG d;go_wp2_with fail;obtain⟨b8,Q⟩:=aq wr.heap.size;simp only[Q]at Z e1⊢;go_loopw [9,36] (fun _ t wr=>MV f.length (lk2 l) U wB t wr) (fun _ t _=>f.length-(intOf t).toNat);case atStart=>exact⟨0,rfl,by omega,fun y R=>by omega,D,aF _ _⟩
    case round=>
     obtain⟨i,rfl,hi,c,m,x⟩:=hrel;have a6:(0:Int)<=(i:Int):=(by omega);have C:=aj x Z;have av:=aj x e1;have Hall:=aG c;by_cases s:i<f.length
     ·have F:(i:Int)<(f.length:Int):=(by omega);have J:=cL i s wr m;cases H:lk2 l i with
      |true=>
       rw[H]at J
       have V:T4 (dm l=(6,i)):=by
        have c:=Hall.o;have d:=Hno.o;have P:=H0.o;have s:i<l.length:=(by rw[I.o];exact s);have aw:=I.o;exact SG P (fun a b=>d.1 (by omega) a (by omega)) s H c
       go_wp2_with fail;refine J.mono ?_;rintro r w2 ⟨rfl,g⟩;have aa:=(g.cell (aU C)).trans C;have q:=au m g;have S:=ai q L;have A:=below_setRow ((HbW.o).trans (q.mono (HbW.o).size)) (show w.heap.size<=w.heap.size+1 by omega) #[ag 6,ag (i:Int)]
       go_wp2_with(first
        |(refine aC rfl 26 _ _ rfl _ _ rfl rfl _ _ S (by kernel_rfl) (by simp) (by simp[Value.oneCell']) ?_))
       refine og 2 (by kernel_rfl) (w.heap.size+1) _ _ rfl rfl (aK _ _ _ _ _ _ S) ?_;rw[V.o];exact⟨rfl,A⟩
      |false=>
       rw[H]at J
       have O:T4 (∀y,y<i+1->lk2 l y=false):=fun y R=>by
        by_cases e:y=i
        ·rw[e];exact H
        ·exact Hall.o y (by omega)
       go_wp2_with fail;refine J.mono ?_;rintro r w2 ⟨rfl,g⟩;have q:=au m g;have E:=au x g;go_wp2_with fail;go_roundw
       case rel=>
        (repeat apply iW);refine⟨?_,rfl⟩;exact⟨i+1,by go_num,by omega,O.o,q,E⟩
       case measure=>simp[intOf];omega
     ·have F: ¬(i:Int)<(f.length:Int):=(by omega);have ei:i=f.length:=(by omega)
      have O:T4 (Ig l f.length U (ag 2) wr):=by
       have d:=Hno.o;have c:=Hall.o;rw[ei]at c;exact⟨2,rfl,by omega,⟨fun _=>d.1 (by omega),fun _=>c,fun h=>absurd h (by omega)⟩,m⟩
      go_wp2_with fail;go_roundw;case rel=>exact O.o
      case measure=>simp[intOf]
   |2,_=>
    have d0:=aj n g4;have d1:=aj n g5;have D:=n.alloc n.size (.cells #[ag 9,.func (.func 43) #[] #[ab b5 0]] 123);have G:=aB wr (.cells #[ag 9,.func (.func 43) #[] #[ab b5 0]] 123);have cL:=aJ.o (d.2.1 (by omega));generalize ap:wr.alloc (.cells #[ag 9,.func (.func 43) #[] #[ab b5 0]] 123)=wB at*;have Z:=ak 0 G;have e1:=ak 1 G;have aA:=aj D kl;have Hno:=aG d;go_wp2_with fail;obtain⟨b8,Q⟩:=aq wr.heap.size;simp only[Q]at Z e1⊢;go_loopw [9,36] (fun _ t wr=>MV f.length (lk3 l) U wB t wr) (fun _ t _=>f.length-(intOf t).toNat);case atStart=>exact⟨0,rfl,by omega,fun y R=>by omega,D,aF _ _⟩
    case round=>
     obtain⟨i,rfl,hi,c,m,x⟩:=hrel;have a6:(0:Int)<=(i:Int):=(by omega);have C:=aj x Z;have av:=aj x e1;have Hall:=aG c;by_cases s:i<f.length
     ·have F:(i:Int)<(f.length:Int):=(by omega);have J:=cL i s wr m;cases H:lk3 l i with
      |true=>
       rw[H]at J
       have V:T4 (dm l=(9,i)):=by
        have c:=Hall.o;have d:=Hno.o;have P:=H0.o;have s:i<l.length:=(by rw[I.o];exact s);have aw:=I.o;exact SH P (fun a b=>d.1 (by omega) a (by omega)) (fun a b=>d.2.1 (by omega) a (by omega)) s H c
       go_wp2_with fail;refine J.mono ?_;rintro r w2 ⟨rfl,g⟩;have aa:=(g.cell (aU C)).trans C;have q:=au m g;have S:=ai q L;have A:=below_setRow ((HbW.o).trans (q.mono (HbW.o).size)) (show w.heap.size<=w.heap.size+1 by omega) #[ag 9,ag (i:Int)]
       go_wp2_with(first
        |(refine aC rfl 26 _ _ rfl _ _ rfl rfl _ _ S (by kernel_rfl) (by simp) (by simp[Value.oneCell']) ?_))
       refine og 2 (by kernel_rfl) (w.heap.size+1) _ _ rfl rfl (aK _ _ _ _ _ _ S) ?_;rw[V.o];exact⟨rfl,A⟩
      |false=>
       rw[H]at J
       have O:T4 (∀y,y<i+1->lk3 l y=false):=fun y R=>by
        by_cases e:y=i
        ·rw[e];exact H
        ·exact Hall.o y (by omega)
       go_wp2_with fail;refine J.mono ?_;rintro r w2 ⟨rfl,g⟩;have q:=au m g;have E:=au x g;go_wp2_with fail;go_roundw
       case rel=>
        (repeat apply iW);refine⟨?_,rfl⟩;exact⟨i+1,by go_num,by omega,O.o,q,E⟩
       case measure=>simp[intOf];omega
     ·have F: ¬(i:Int)<(f.length:Int):=(by omega);have ei:i=f.length:=(by omega)
      have O:T4 (Ig l f.length U (ag 3) wr):=by
       have d:=Hno.o;have c:=Hall.o;rw[ei]at c;exact⟨3,rfl,by omega,⟨fun _=>d.1 (by omega),fun _=>d.2.1 (by omega),fun _=>c⟩,m⟩
      go_wp2_with fail;go_roundw;case rel=>exact O.o
      case measure=>simp[intOf]
   |3,_=>
    have S:=ai n L;have A:=below_setRow ((HbW.o).trans (n.mono (HbW.o).size)) (show w.heap.size<=w.heap.size+1 by omega) #[ag 0,ag 0]
    have V:T4 (dm l=(0,0)):=by
     have e:=I.o;exact If H0.o (by rw[e];exact d.1 (by omega)) (by rw[e];exact d.2.1 (by omega)) (by rw[e];exact d.2.2 (by omega))
    go_wp2_with(first
     |(refine aC rfl 26 _ _ rfl _ _ rfl rfl _ _ S (by kernel_rfl) (by simp) (by simp[Value.oneCell']) ?_))
    refine og 2 (by kernel_rfl) (w.heap.size+1) _ _ rfl rfl (aK _ _ _ _ _ _ S) ?_;rw[V.o];exact⟨rfl,A⟩
   |k+4,an=>exact absurd an (by omega)
 ·have V:T4 (dm l=dQ7 l):=by
   show _=_;unfold dm;rw[ax P]
  have aW:((dQ7 l).1 !=0)=true:=(by simpa using P);have HR:T4 (∀W,ao w W->(fun(r:Ending) (X:World)=>r= .returned (.agg #[ag (dm l).1,ag ((dm l).2:Int)])/\ao w X) (.returned (.agg #[ag (dQ7 l).1,ag ((dQ7 l).2:Int)])) W):=fun W N=>⟨by rw[V.o],N⟩
  generalize (dQ7 l).1=er at*;generalize (((dQ7 l).2:Nat):Int)=B at*;have bC:=am w1 (.cells #[ag er,ag B] 26);have K:=au ac bC;have T:=ai bC m2;have m3:=aB w1 (.cells #[ag er,ag B] 26);have A:=below_setRow K (show w.heap.size<=w.heap.size+1 by omega) #[ag er,ag B];generalize aN:w1.alloc (.cells #[ag er,ag B] 26)=w2 at*;have z0:=ak 0 m3
  go_wp2_with(first
   |(refine aO rfl 26 _ rfl _ rfl _ _ _ _ m3 od rfl (by kernel_rfl) ?_)
   |(refine aC rfl 26 _ _ rfl _ _ rfl rfl _ _ T (by kernel_rfl) (by simp) (by simp[Value.oneCell']) ?_))
  refine og 2 (by kernel_rfl) (w.heap.size+1) _ _ rfl rfl (aK _ _ _ _ _ _ T) ?_;exact HR.o _ A
end Go.Proofs.YtpdoienkhgnceaaGreatDoor
