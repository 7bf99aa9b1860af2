/- Texts of the proof. -/
import Derived.Test.YtpdoienkhgnceaaGreatDoorPt13
set_option maxRecDepth 100000
set_option maxHeartbeats 8000000
namespace Go.Proofs.YtpdoienkhgnceaaGreatDoor
open Go.Proofs.Tryz Go.RowKit Lx Vx Mx Msk
section
variable {all:List Tk} {E g:Nat} {v:Value} {w:World} {i n:Nat}
def lN:List (Ru×Value)->List Value
 |[]=>[]
 |p::l=> .string ⟨p.1.1.toArray⟩::ag p.1.2.kind::ag p.1.2.a::ag p.1.2.b:: .string ⟨p.1.2.name.toArray⟩::p.2::lN l
theorem yX (p:Ru×Value): ∀l:List (Ru×Value),lN (l++[p])=lN l++[.string ⟨p.1.1.toArray⟩,ag p.1.2.kind,ag p.1.2.a,ag p.1.2.b,.string ⟨p.1.2.name.toArray⟩,p.2]
 |[]=>rfl
 |q::l=>by simp[lN,yX p l]
theorem MM:(prog.info? 80).map (fun i=>(i.zero,i.size,i.bytes))=some (some (.agg #[.string ⟨#[]⟩,ag 0,ag 0,ag 0,.string ⟨#[]⟩,af]),6,80):=by kernel_rfl
theorem J9:prog.underlying 23=some (.slice 80):=by kernel_rfl
structure kZ (w0 w:World)(v:Value)(us:List (Ru×Value)):Prop where
 own:w.ownsRow w0.heap.size 80 6 v us.length (lN us)
 kids: ∀p∈us,∃d,dr (fun k=>w0.heap.size<=k) d w p.2 p.1.2.kids
def Tv (g:Nat)(w:World)(x:Except (Int×Nat) (List Ru))(e:Ending)(b:World):Prop:=
 match x with
 | .error (er,at_)=>e= .panicked (jm er at_)/\bp g w b
 | .ok rs=> ∃(c:Value) (a:List (Ru×Value)),e= .returned c/\a.map (·.1)=rs/\kZ w b c a/\a.length<=40/\bp g w b
theorem Ka {E:Nat}{r q:List Tk}{u:Ru}(h:kA E r= .ok (u,q)):q.length<r.length:=by
 unfold kA at h;split at h
 ·cases h
 ·rename_i d;have a:=qG (r:=r) (by omega);split at h
  ·split at h
   ·cases h
   ·rename_i e g f c;have b:=mn (by omega) c;split at h
    ·cases h
    ·split at h
     ·cases h;simp only[List.length_tail]at b⊢;omega
     ·cases h
  ·cases h
theorem kZ.kept {b w w':World}{f:Value}{c:List (Ru×Value)}(h:kZ b w f c)(a:bp g w w')(l:g<b.heap.size):kZ b w' f c:=by
 refine⟨h.own.kept a (.inr fun e=> ?_),fun p j=> ?_⟩
 ·have:=(h.own.lt g e).1;omega
 ·obtain⟨d,i⟩:=h.kids p j;exact⟨d,a.kids (fun k a=>by omega) i⟩
theorem yY {f w l:World}{j:Value}{xs:List Value}{m:Nat}{i:List Ex}{sl:Value}{d:Nat}(q:w.ownsRow f.heap.size 80 6 j m xs)(g:w.grownBy l j.ownBlock)(h:dr (fun k=>f.heap.size<=k) d w sl i):dr (fun k=>f.heap.size<=k) d l sl i:=by
 obtain⟨_,o⟩:=q;rcases o with⟨rfl,_⟩|⟨b,cap,n,rfl,_,p,_⟩
 ·exact h.kept fun k _ c=>g.block k c (fun e=>by cases e)
 ·refine((h.other p (by decide)).kept fun k a c=>g.block k c (fun e=>a.2 (ay e))).mono fun k a=>a.1
theorem Fb {E f:Nat}{a:List Ru}{r:List Tk}(h:r.length≠0):fH E (f+1) a r=if isT la r then(if a.length=40 then .error (5,atP E r.tail) else match kA E r.tail with| .error q=> .error q| .ok (u,q)=>fH E f (a++[u]) q) else .error (2,atP E r):=by
 rw[fH,aw h];rfl
theorem H5 {E f:Nat}{a:List Ru}{r:List Tk}(h:r.length=0):fH E f a r= .ok a:=by
 cases f with
 |zero=>rfl
 |succ f=>rw[fH,ax h]
theorem Kb (L:PS0 all E g v)(h:PSt all E g v w i n):
  Calls prog 15 #[ab g 0] w (Tv g w (fH E ((all.drop i).length+1) [] (all.drop i))):=by
 have F:=aH h.blk;obtain⟨i0,hi,a2,a3,a4⟩:=iV MM;have a5:=L.len;generalize hX:fH E ((all.drop i).length+1) [] (all.drop i)=X;have HX:T4 (fH E ((all.drop i).length+1) [] (all.drop i)=X):=hX;go_enter func15,ntmps15;go_wp2_with fail;go_loopw [3] (fun q wr=> ∃(y:List (Ru×Value)) (f j m:Nat),fH E f (y.map (·.1)) (all.drop j)=X/\(all.drop j).length<f/\y.length<=40/\kZ w wr q y/\PSt all E g v wr j m/\bp g w wr) (fun _ wr=>all.length-pT g wr);case atStart=>exact⟨[],_,i,n,HX.o,by omega,by simp,⟨df _ _ _ _,fun p K=>by cases K⟩,h,bp.refl _ _⟩
 case round=>
  obtain⟨y,f,j,m,aq,hf,an,O,C,ah⟩:=hrel;have K:=C.pos;have k0:=ak 0 C.blk;have k1:=ak 1 C.blk;obtain⟨pv,cv,ev⟩:=sN.form C.row;have a7:=C.le;have aa:T4 (fH E f (y.map (·.1)) (all.drop j)=X):=aq;have HV:T4 (v= .slice pv all.length cv):=ev;rw[ev]at k0;by_cases a8:j<all.length
  ·have aj:(j:Int)<(all.length:Int):=(by omega);go_wp2_with fail;go_quiet (fail);have A:ao wr (wr.drewN nq):=du (aF _ _) nq;have P:=C.below A L;have z:=ah.trans (bp.of_below A);have r:=O.kept (bp.of_below (g:=g) A) F;generalize wr.drewN nq=w1 at*;obtain⟨f,rfl⟩: ∃f',f=f'+1:=⟨f-1,by omega⟩
   have c:=aa.o;rw[Fb (by simp;omega),fD]at c;by_cases hR:isT la (all.drop j)=true
   ·rw[ax hR]at c;have c2:=pm L P la (by decide) hR;by_cases hm:y.length=40
    ·rw[ax (by simpa using hm)]at c;have Y:T4 (X= .error (5,atP E (all.drop (j+1)))):=c.symm;obtain⟨pq,cq,rfl⟩:=dy r.own;have av:((y.length:Int)==40)=true:=(by rw[hm];rfl);go_wp2_with fail;refine c2.mono ?_;rintro e w2 ⟨rfl,h2,B⟩;go_wp2_with fail;refine(lK L h2 5).mono ?_;rintro e V ⟨rfl,ar⟩;refine⟨rfl,?_⟩;rw[Y.o];exact⟨rfl,(z.trans B).trans (bp.of_below ar)⟩
    ·rw[aw (by simpa using hm)]at c;have av:((y.length:Int)==40)=false:=bl.2 (by omega);have a6:=pj (by decide) hR;have Z:T4 ((match kA E (all.drop (j+1)) with| .error q=> .error q| .ok (u,q)=>fH E f (y.map (·.1)++[u]) q)=X):=c;have cR:=fun(W:World) (hW:PSt all E g v W (j+1) m)=>ML L hW;have R:=r.own;obtain⟨pq,cq,eq⟩:=dy R;have HQ:T4 (u3= .slice pq y.length cq):=eq;subst eq;go_wp2_with fail;refine c2.mono ?_;rintro e w2 ⟨rfl,h2,B⟩;have G:=z.trans B;have S:=r.kept B F;go_wp2_with fail;refine(cR _ h2).mono ?_;intro e V ho;cases hx:kA E (all.drop (j+1)) with
     |error q=>
      obtain⟨er,at_⟩:=q;have c:=Z.o;rw[hx]at ho c;obtain⟨rfl,J⟩:=ho;refine⟨rfl,?_⟩;rw[<-c];exact⟨rfl,G.trans J⟩
     |ok q=>
      obtain⟨u,rr⟩:=q;have al:=Ka hx;have c:=Z.o;rw[hx]at ho c;obtain⟨i3,m3,sl,d3,a0,rfl,ad,h3,a9,J⟩:=ho;subst a0;obtain⟨H,c3,rfl⟩:=ad.form;have T:=S.kept J F;have M:=G.trans J;have aA:=G.size;have aC:=M.size
      have HN:T4 (fH E f ((y++[(u,Value.slice H u.2.kids.length c3)]).map (fun p=>p.1)) (all.drop i3)=X):=by
       show _=_;rw[dV];exact c
      have I:ao V (V.alloc (.cells #[.string ⟨u.1.toArray⟩,ag u.2.kind,ag u.2.a,ag u.2.b,.string ⟨u.2.name.toArray⟩,.slice H u.2.kids.length c3] 80)):=am _ _;have s:=T.kept (bp.of_below (g:=g) I) F;have h4:=h3.below I L;have t:=M.trans (bp.of_below I);have ae:dr (fun k=>w.heap.size<=k) d3 (V.alloc (.cells #[.string ⟨u.1.toArray⟩,ag u.2.kind,ag u.2.a,ag u.2.b,.string ⟨u.2.name.toArray⟩,.slice H u.2.kids.length c3] 80)) (.slice H u.2.kids.length c3) u.2.kids:=(bp.of_below (g:=g) I).kids (fun k hk=>by omega) (ad.mono fun k hk=>by omega);have D:=aB V (.cells #[.string ⟨u.1.toArray⟩,ag u.2.kind,ag u.2.a,ag u.2.b,.string ⟨u.2.name.toArray⟩,.slice H u.2.kids.length c3] 80);have a1:=t.size;unfold ruV;generalize aD:V.alloc (.cells #[.string ⟨u.1.toArray⟩,ag u.2.kind,ag u.2.a,ag u.2.b,.string ⟨u.2.name.toArray⟩,.slice H u.2.kids.length c3] 80)=w4 at*;go_wp2_with(at_builtin;refine eC _ rfl _ _ 23 rfl w.heap.size 80 i0 (.agg #[.string ⟨#[]⟩,ag 0,ag 0,ag 0,.string ⟨#[]⟩,af]) 6 80 J9 hi a2 a3 a4 rfl (by decide) (.slice pq y.length cq) y.length (lN y) rfl s.own ⟨V.heap.size,0,none⟩ 1 1 [.string ⟨u.1.toArray⟩,ag u.2.kind,ag u.2.a,ag u.2.b,.string ⟨u.2.name.toArray⟩,.slice H u.2.kids.length c3] rfl rfl ?c1 ?c2 ?c3 ?c4 ?c5 ?_)
      case c1=>
       intro j u' x;match j,x with
       |0,x=>simp at x;subst x;exact(aW _ _ _ _ _ _ D).trans rfl
       |1,x=>simp at x;subst x;exact(aW _ _ _ _ _ _ D).trans rfl
       |2,x=>simp at x;subst x;exact(aW _ _ _ _ _ _ D).trans rfl
       |3,x=>simp at x;subst x;exact(aW _ _ _ _ _ _ D).trans rfl
       |4,x=>simp at x;subst x;exact(aW _ _ _ _ _ _ D).trans rfl
       |5,x=>simp at x;subst x;exact(aW _ _ _ _ _ _ D).trans rfl
      case c2=>intro u hu;simp at hu;rcases hu with rfl|rfl|rfl|rfl|rfl|rfl<;>rfl
      case c3=>unfold maxLen;omega
      case c4=>omega
      case c5=>exact a1
      intro v' w5 Q l _;have ai:=s.own.lt;have ac: ∀b,(Value.slice pq y.length cq).ownBlock=some b->b≠g:=fun b hb=>(by have:=(ai b hb).1;omega);have N:bp g w w5:=⟨l.os.trans t.os,l.tape.trans t.tape,l.output.trans t.output,bh t.size l.size,fun k hk az=>(l.block k (by omega) (fun e=>by have:=(ai k e.symm).1;omega)).trans (t.block k hk az)⟩
      have h5:PSt all E g v w5 i3 m3:=h.of_kept L N ((l.block g (aH h4.blk) (fun e=>ac g e.symm rfl)).trans h4.blk) h4.le
      have U:kZ w w5 v' (y++[(u,.slice H u.2.kids.length c3)]):=by
       refine⟨?_,fun p K=> ?_⟩
       ·rw[yX];simp only[aN,bK,fN,bN];exact Q
       ·rcases cZ.1 K with K|K
        ·obtain⟨d,hd⟩:=s.kids p K;exact⟨d,yY s.own l hd⟩
        ·have e:p=(u,.slice H u.2.kids.length c3):=(by simpa using K);subst e;exact⟨d3,yY s.own l ae⟩
      have ay:(y++[(u,Value.slice H u.2.kids.length c3)]).length<=40:=(by simp;omega)
      have au:(all.drop i3).length<f:=by
       simp only[fi]at al hf⊢;omega
      go_wp2_with fail;go_roundw;case rel=>exact⟨_,f,i3,m3,HN.o,au,ay,U,h5,N⟩
      case measure=>
       rw[K];have:=h5.pos;have:=h5.le;show all.length-pT g _<_;simp only[fi]at al;omega
   ·have ap:isT la (all.drop j)=false:=(by simpa using hR);rw[aw hR]at c;have Y:T4 (X= .error (2,atP E (all.drop j))):=c.symm;have c2:=qU L P la ap;go_wp2_with fail;refine c2.mono ?_;rintro e w2 ⟨rfl,B⟩;refine⟨rfl,?_⟩;rw[Y.o];exact⟨rfl,z.trans B⟩
  ·have aj: ¬(j:Int)<(all.length:Int):=(by omega);have c:=aa.o;rw[H5 (by simp;omega)]at c;have Y:T4 (X= .ok (y.map (·.1))):=c.symm;go_wp2_with fail;go_quiet (fail);have A:ao wr (wr.drewN nq):=du (aF _ _) nq;have z:=ah.trans (bp.of_below A);have r:=O.kept (bp.of_below (g:=g) A) F;go_wp2_with fail;go_ret;rw[Y.o];exact⟨_,y,rfl,rfl,r,an,z⟩
end
section
theorem H6 (p q:Option Addr)(w:World):
  CallsD prog 14 #[.pointer p,.pointer q] .returning w fun e c d=>e= .returned (.tuple #[])/\c= .returning/\d=w:=by
 refine callsD_of_wpS func14 rfl fun a f b=> ?_;apply wpS_seq;apply wpS_region;simp[wpOpsS,go_sem,recoverD,b,ntmps14,Exit.thenS];refine wpS_of_wp ?_;change Code.wp _ _ _ {tmps:= #[.pointer p,.pointer q,.nilIface,.nilIface,undef,undef,undef,undef,undef],defers:=[]} w;go_wp2_with fail;cases a;simp_all [bodyPostS,results,results14]
theorem Dp (c0 c1:Value)(w:World):(Instr.typeAssert (.iface 61 (.agg #[c0,c1])) 20 61 false).run prog w= .ok (.agg #[c0,c1]) w:=by
 unfold Instr.typeAssert;simp[go_sem]
theorem Fc (c0 c1:Value)(w:World):(Instr.field 61 (.agg #[c0,c1]) 0).run prog w= .ok (.agg #[c0,c1]) w:=by
 unfold Instr.field;simp[go_sem,asAgg]
attribute [local go_sem] Dp Fc
def rA (p q:Nat)(er at_:Int)(w:World):World:=((w.setCell ⟨p,0,none⟩ (af)).setCell ⟨q,0,none⟩ (ag er)).setCell ⟨q,1,none⟩ (ag at_)
theorem Dq (p q:Nat)(d:p≠q)(c0 c1 c:Value)(er at_:Int)(w:World)(b:w.heap[p]? =ah #[c0] 23)(a:w.heap[q]? =ah #[c1,c] 26):
  CallsD prog 14 #[ab p 0,ab q 0] (.panicking [{v:= .iface 61 (.agg #[ag er,ag at_]),recovered:=false}]) w fun e j l=>
   e= .returned (.tuple #[])/\j= .panicking [{v:= .iface 61 (.agg #[ag er,ag at_]),recovered:=true}]/\ ∃k,l=(rA p q er at_ w).drewN k:=by
 have kp:=ak 0 b;have g:=ak 0 a;have i:=ak 1 a;have s:=bu _ _ 0 _ _ b;have m:=bu _ _ 0 _ _ a;have n:=bu _ _ 1 _ _ a;refine callsD_of_wpS func14 rfl fun r o f=> ?_;apply wpS_seq;apply wpS_region;simp[wpOpsS,go_sem,recoverD,f,ntmps14,Exit.thenS];refine wpS_of_wp ?_;change Code.wp _ _ _ {tmps:= #[ab p 0,ab q 0,.iface 61 (.agg #[ag er,ag at_]),.iface 61 (.agg #[ag er,ag at_]),undef,undef,undef,undef,undef],defers:=[]} w;go_wp2_with fail;go_region;show bodyPostS _ _ _ _ _ _ _ _ _;simp[bodyPostS,results,results14];exact⟨1,rfl⟩
end
theorem xK (l:List UInt8)(h: ∀i,i<l.length->isD (l.getD i 0)=true)(a:l.length<=6):0<=valL l/\valL l<=999999:=by
 have b:=qF l h l.length (aA _) a;rw[gI]at b;omega
theorem H7 (l:List UInt8): ∀i,i<(l.take (fd isD l)).length->isD ((l.take (fd isD l)).getD i 0)=true:=by
 intro i hi;have a:=mi isD l;rw[ef,gu a]at hi;have:=Bq isD l i hi;rw[eE]at this⊢;rw[gC,ax hi];exact this
theorem Ke (l:List UInt8)(a:(firstT l).err=0):0<=(firstT l).n/\(firstT l).n<=999999:=by
 unfold firstT at a⊢;split at a
 ·rename_i e;rw[ax e];unfold kN at a⊢;split at a
  ·rename_i h;rw[ax h];unfold mQ at h⊢;split at h
   ·rename_i j;rw[ax j];have:=Cal.s6 _ _ _ j.1 j.2;show 0<=Cal.num _ _ _/\Cal.num _ _ _<=999999;omega
   ·simp at h
  ·simp[bad]at a
 ·rename_i e;rw[aw e];split at a
  ·rename_i b;rw[ax b];have k:=lJ b 0 2 (by decide) (fun i hi=>by match i,hi with|0,_=>rfl|1,_=>rfl);have m:=lJ b 3 2 (by decide) (fun i hi=>by match i,hi with|0,_=>rfl|1,_=>rfl);have o:=xK _ k.2 (by omega);have p:=xK _ m.2 (by omega);unfold ng at a⊢;split at a
   ·simp[bad]at a
   ·rename_i h;rw[aw h];simp only;omega
  ·rename_i b;rw[aw b];split at a
   ·rename_i d;rw[ax d];unfold mj at a⊢;split at a
    ·simp[bad]at a
    ·rename_i h;rw[aw h];have f:=mi isD l;exact xK _ (H7 l) (by rw[ef,gu f];omega)
   ·rename_i d;rw[aw d];split at a
    ·rename_i c;rw[ax c];unfold jW at a⊢;split at a
     ·simp[bad]at a
     ·rename_i h;rw[aw h];simp
    ·rename_i c;rw[aw c];unfold jg at a⊢;split at a
     ·rename_i g;rw[ax g];simp
     ·rename_i g;rw[aw g];split at a
      ·simp[bad]at a
      ·rename_i h;rw[aw h];simp
theorem Kf {l:List UInt8}{a:List Tk}{k:Nat}(h:eI l a k): ∀p∈a,0<=p.1.n/\p.1.n<=999999:=by
 obtain⟨n,d⟩:=h;refine eI.ind (M:=fun a _=> ∀p∈a,0<=p.1.n/\p.1.n<=999999) (fun p b=>by cases b) ?_ n d;intro a k _ _ c f p b;rcases cZ.1 b with h|h
 ·exact f p h
 ·have e:p=(firstT (l.drop k),k):=by simpa using h
  rw[e];exact Ke _ c
theorem kZ.later {c w1 w w':World}{j:Value}{i:List (Ru×Value)}(h:kZ c w j i)(f: ∀k,c.heap.size<=k->w'.heap[k]? =w.heap[k]?)(t:w1.heap.size<=c.heap.size):kZ w1 w' j i:=by
 refine⟨?_,fun p q=> ?_⟩
 ·obtain⟨l,b⟩:=h.own;refine⟨l,?_⟩;rcases b with b|⟨g,cap,a,s,n,o,r⟩
  ·exact .inl b
  ·exact .inr ⟨g,cap,a,s,by omega,(f g n).trans o,r⟩
 ·obtain⟨d,m⟩:=h.kids p q;exact⟨d,(m.kept fun k e _=>f k e).mono fun k e=>by omega⟩
theorem Dr (p q:Nat)(er at_:Int)(w:World)(k:Nat)(b:k≠p)(a:k≠q):(rA p q er at_ w).heap[k]? =w.heap[k]? :=by
 unfold rA;rw[aM _ _ _ _ a,aM _ _ _ _ a,aM _ _ _ _ b]
def mY (l:List UInt8)(e w:World)(v:Value)(er at_:Int):Prop:=
 (6000<l.length/\v=af/\er=4/\at_=0)\/
 (∃(a:List Tk) (k:Nat),l.length<=6000/\eI l a k/\k<l.length/\(firstT (l.drop k)).err≠0/\v=af/\er=(firstT (l.drop k)).err/\at_=(k:Int))\/
 (∃(a:List Tk) (k:Nat) (c:Int) (b:Nat),l.length<=6000/\eI l a k/\ ¬k<l.length/\fH l.length (a.length+1) [] a= .error (c,b)/\v=af/\er=c/\at_=(b:Int))\/
 (∃(a:List Tk) (k:Nat) (d:List (Ru×Value)),l.length<=6000/\eI l a k/\ ¬k<l.length/\fH l.length (a.length+1) [] a= .ok (d.map (fun p=>p.1))/\d.length<=40/\kZ e w v d/\er=0/\at_=0)
theorem rB {d:Array Value}{R:Ending->World->Prop}{w:World}(p q:Nat)(a:Option Addr)(b c:Nat)(er at_:Int)(k:d.getD 2 undef=ab p 0)(l:d.getD 3 undef=ab q 0)
  (n:w.heap[p]? =ah #[.slice a b c] 23) (j:w.heap[q]? =ah #[ag er,ag at_] 26) (m:R (.returned (.tuple #[.slice a b c,.agg #[ag er,ag at_]])) w):Leaves prog f5 d R [] .returning w:=by
 refine⟨.tuple #[.slice a b c,.agg #[ag er,ag at_]],?_,m⟩;have e:d[2]?.getD undef=ab p 0:=by simpa using k
 have f:d[3]?.getD undef=ab q 0:=by simpa using l
 have kp:w.cell? (ae p 0)=some (.slice a b c):=ak 0 n;have g:w.cell? (ae q 0)=some (ag er):=ak 0 j;have i:w.cell? (ae q 1)=some (ag at_):=ak 1 j;simp[results,results5,e,f,asAddr,kp,g,i,go_sem]
theorem uO (s:ByteArray)(l:List UInt8)(hs:s.data.toList=l)(hl:l.length<=9223372036854775807)(w:World)(hT:fL w)(hD:oA w):
  Calls prog 5 #[.string s] w fun e w'=>(∃v er at_,e= .returned (.tuple #[v,.agg #[ag er,ag at_]])/\mY l w w' v er at_)/\ao w w':=by
 have hz:s.size=l.length:=by rw[<-hs,Lib.size_eq]
 have aN: ∀(fn:Fn) (first cap:Array Value) (w:World),(Instr.makeFunc fn first cap).run prog w= .ok (.func fn first cap) w:=fun _ _ _ _=>rfl;have ad:=am w (.cells #[af] 23);have aj:=ad.alloc ad.size (.cells #[ag 0,ag 0] 26);have ap:=(dD _ (.cells #[ag 0,ag 0] 26) _ (aH (aB w (.cells #[af] 23)))).trans (aB w (.cells #[af] 23));have V:=aB (w.alloc (.cells #[af] 23)) (.cells #[ag 0,ag 0] 26);rw[show(w.alloc (.cells #[af] 23)).heap.size=w.heap.size+1 by simp]at V;have aI:((w.alloc (.cells #[af] 23)).alloc (.cells #[ag 0,ag 0] 26)).heap.size=w.heap.size+2:=by simp
 generalize aE:(w.alloc (.cells #[af] 23)).alloc (.cells #[ag 0,ag 0] 26)=wB at*;have cX:=O1 s l hs hl wB (hT.below aj);go_enter_defers func5,ntmps5;go_wp2_with fail;refine cX.mono ?_;rintro e n ⟨⟨v,er,at_,rfl,L⟩,N⟩;have a8:=ai N ap;have Y:=ai N V;have ac:=au aj N;have aG:=N.size;clear ap V cX aE;have r:=aK n (w.heap.size+1) _ #[ag er,ag at_] _ _ Y;have G:=(aQ n (w.heap.size+1) w.heap.size #[ag er,ag at_] (by omega)).trans a8;have U:ao w (n.setRow (w.heap.size+1) #[ag er,ag at_]):=below_setRow ac (by omega) _;have d0:(n.setRow (w.heap.size+1) #[ag er,ag at_]).cell? (ae (w.heap.size+1) 0)=some (ag er):=ak 0 r;by_cases he:er=0
 ·subst he
  obtain⟨m,k,h6,T,O,P⟩: ∃(m:List Tk) (k:Nat),l.length<=6000/\eI l m k/\ ¬k<l.length/\n.ownsRow wB.heap.size 114 4 v m.length (kO m):=by
   rcases L with⟨_,_,h,_⟩|⟨m,k,_,_,_,he,_,h,_⟩|⟨m,k,M,S,h3,h4,_⟩
   ·cases h
   ·exact absurd h.symm he
   ·exact⟨m,k,M,S,h3,h4⟩
  have aJ:=T.le;have R:=Kf T;have z: ∀b,v.ownBlock=some b->b<n.heap.size/\wB.heap.size<=b:=fun b hb=>⟨(P.lt b hb).2,(P.lt b hb).1⟩
  have y:sN n v m:=Di P (by omega);have ar:(n.setRow (w.heap.size+1) #[ag 0,ag at_]).heap.size=n.heap.size:=(by simp[World.setRow])
  have I:sN (n.setRow (w.heap.size+1) #[ag 0,ag at_]) v m:=by
   rcases y with h|⟨gt,o,c,hv,a3,hc⟩
   ·exact .inl h
   ·refine .inr ⟨gt,o,c,hv,a3,fun j t k hj=> ?_⟩;obtain⟨c1,c2,c3,c4⟩:=hc j t k hj
    have an:gt≠w.heap.size+1:=by
     have:=(z gt (by rw[hv];rfl)).2;omega
    have e:(n.setRow (w.heap.size+1) #[ag 0,ag at_]).heap[gt]? =n.heap[gt]? :=aQ _ _ _ _ an;have ce: ∀i,(n.setRow (w.heap.size+1) #[ag 0,ag at_]).cell? (ae gt i)=n.cell? (ae gt i):=fun i=>dP e;exact⟨(ce _).trans c1,(ce _).trans c2,(ce _).trans c3,(ce _).trans c4⟩
  have aa:oA (n.setRow (w.heap.size+1) #[ag 0,ag at_]):=fun j hj=>(U.cell (aU (hD j hj))).trans (hD j hj);have al:=aU (hD 0 (by omega));obtain⟨pv,cv,rfl⟩:=y.form;clear L P y hT;generalize az:n.setRow (w.heap.size+1) #[ag 0,ag at_]=u at*;have A:ao u (u.alloc (.cells #[.slice pv m.length cv,ag 0,ag (l.length:Int),ag 0] 63)):=am _ _;have h0:PS0 m l.length u.heap.size (.slice pv m.length cv):=⟨by omega,h6,fun e=>by have:=(z _ e).1;omega,R,by show 0≠u.heap.size;have:0<w.heap.size:=al;omega⟩
  have av:PSt m l.length u.heap.size (.slice pv m.length cv) (u.alloc (.cells #[.slice pv m.length cv,ag 0,ag (l.length:Int),ag 0] 63)) 0 0:=
   ⟨aB u _,(bp.of_below (g:=u.heap.size+1) A).row (fun e=>by have:=(z _ e).1;omega) I,by omega,(bp.of_below (g:=u.heap.size+1) A).days (by show 0≠u.heap.size+1;have:0<w.heap.size:=al;omega) aa⟩
  have c4:=Kb h0 av;rw[List.drop_zero]at c4;have X:=ai A G;have Z:=ai A r;have a:=au U A;have aO:(u.alloc (.cells #[.slice pv m.length cv,ag 0,ag (l.length:Int),ag 0] 63)).heap.size=u.heap.size+1:=(by simp);have aL:w.heap.size+1<u.heap.size:=aH r;clear A av aa I z R;have aF:=ar.symm;clear ar;go_wp2_with(refine aC rfl 26 _ _ rfl _ _ rfl rfl _ _ Y (by kernel_rfl) (by simp) (by simp[Value.oneCell']) ?_)
  refine c4.mono ?_;intro e C P;cases L:fH l.length (m.length+1) [] m with
  |error q=>
   obtain⟨er,x⟩:=q;rw[L]at P;obtain⟨rfl,d⟩:=P;have B:=d.at X (by omega);have Q:=d.at Z (by omega)
   have a6:(rA w.heap.size (w.heap.size+1) er (x:Int) C).heap[w.heap.size]? =ah #[af] 23:=
    (aM _ _ _ _ (by show w.heap.size≠w.heap.size+1;omega)).trans ((aM _ _ _ _ (by show w.heap.size≠w.heap.size+1;omega)).trans (aY _ _ 0 _ _ _ B))
   have a7:(rA w.heap.size (w.heap.size+1) er (x:Int) C).heap[w.heap.size+1]? =ah #[ag er,ag (x:Int)] 26:=
    aY _ _ 1 _ _ _ (aY _ _ 0 _ _ _ ((aM _ _ _ _ (by show w.heap.size+1≠w.heap.size;omega)).trans Q))
   have E:ao w (rA w.heap.size (w.heap.size+1) er (x:Int) C):=by
    have aD:=d.size;refine⟨d.os.trans a.os,d.tape.trans a.tape,d.output.trans a.output,?_,fun k O=> ?_⟩
    ·have:=a.size;simp[rA];omega
    ·rw[Dr _ _ _ _ _ _ (by omega) (by omega),d.block k (by omega) (fun e=>by have:=ay e;omega)];exact a.block k O
   show bodyPostD _ _ _ (Exit.panic _) _ _;simp only[bodyPostD];refine leaves_cons (f:=14) (args:= #[ab w.heap.size 0,ab (w.heap.size+1) 0]) (by simp) (by simp[go_sem]) ?_;refine(Dq w.heap.size (w.heap.size+1) (by omega) _ _ _ er (x:Int) C B Q).mono ?_;rintro e u' w6 ⟨rfl,rfl,k,rfl⟩;show Leaves _ _ _ _ [] (settle _) _;simp only[settle,List.dropWhile_nil];exact rB w.heap.size (w.heap.size+1) none 0 0 er (x:Int) rfl rfl a6 a7 ⟨⟨_,_,_,rfl,.inr (.inr (.inl ⟨m,_,er,x,h6,T,O,L,rfl,rfl,rfl⟩))⟩,du E k⟩
  |ok rs=>
   rw[L]at P;obtain⟨vr,D,rfl,ax,H,aw,d⟩:=P;have B:=d.at X (by omega);have Q:=d.at Z (by omega);obtain⟨K,cr,rfl⟩:=dy H.own;have kp:=ak 0 B;have yp:=bu _ _ 0 _ _ B;have a4:(C.setCell ⟨w.heap.size,0,none⟩ (.slice K D.length cr)).heap[w.heap.size]? =ah #[.slice K D.length cr] 23:=aY _ _ 0 _ _ _ B;have aq:=(aM C ⟨w.heap.size,0,none⟩ (w.heap.size+1) (.slice K D.length cr) (by show w.heap.size+1≠w.heap.size;omega)).trans Q;have a5:=(aQ (C.setCell ⟨w.heap.size,0,none⟩ (.slice K D.length cr)) (w.heap.size+1) w.heap.size #[ag 0,ag 0] (by omega)).trans a4;have a9:=aK (C.setCell ⟨w.heap.size,0,none⟩ (.slice K D.length cr)) (w.heap.size+1) _ #[ag 0,ag 0] _ _ aq;have F: ∀k,k≠w.heap.size->k≠w.heap.size+1->((C.setCell ⟨w.heap.size,0,none⟩ (.slice K D.length cr)).setRow (w.heap.size+1) #[ag 0,ag 0]).heap[k]? =C.heap[k]? :=fun k M S=>(aQ _ _ _ _ S).trans (aM _ _ _ _ M)
   have E:ao w ((C.setCell ⟨w.heap.size,0,none⟩ (.slice K D.length cr)).setRow (w.heap.size+1) #[ag 0,ag 0]):=by
    have aD:=d.size;refine⟨d.os.trans a.os,d.tape.trans a.tape,d.output.trans a.output,?_,fun k O=> ?_⟩
    ·have:=a.size;simp[World.setRow];omega
    ·rw[F _ (by omega) (by omega),d.block k (by omega) (fun e=>by have:=ay e;omega)];exact a.block k O
   have J:=H.later (w1:=w) (w':=(C.setCell ⟨w.heap.size,0,none⟩ (.slice K D.length cr)).setRow (w.heap.size+1) #[ag 0,ag 0]) (fun k O=>F k (by omega) (by omega)) a.size;have HP:T4 (mY l w ((C.setCell ⟨w.heap.size,0,none⟩ (.slice K D.length cr)).setRow (w.heap.size+1) #[ag 0,ag 0]) (.slice K D.length cr) 0 0):= .inr (.inr (.inr ⟨m,k,D,h6,T,O,by rw[L,ax],aw,J,rfl,rfl⟩));clear H J c4 L ax F d T X Z G r;go_wp2_with(refine aC rfl 26 _ _ rfl _ _ rfl rfl _ _ aq (by kernel_rfl) (by simp) (by simp[Value.oneCell']) ?_)
   simp only[bodyPostD];refine leaves_cons (f:=14) (args:= #[ab w.heap.size 0,ab (w.heap.size+1) 0]) (by simp) (by simp[go_sem]) ?_;refine(H6 _ _ _).mono ?_;rintro e u' w6 ⟨rfl,rfl,rfl⟩;show Leaves _ _ _ _ [] (settle _) _;simp only[settle];exact rB w.heap.size (w.heap.size+1) K D.length cr 0 0 rfl rfl a5 a9 ⟨⟨_,_,_,rfl,HP.o⟩,E⟩
 ·have an:(er !=0)=true:=by simpa using he
  have d1:(n.setRow (w.heap.size+1) #[ag er,ag at_]).cell? (ae (w.heap.size+1) 1)=some (ag at_):=ak 1 r;have k0:(n.setRow (w.heap.size+1) #[ag er,ag at_]).cell? (ae w.heap.size 0)=some (af):=ak 0 G;have y0:=bu _ _ 0 _ _ G;have y1:=bu _ _ 0 _ _ r;have y2:=bu _ _ 1 _ _ r
  have HP:T4 (∀W,mY l w W (af) er at_):=fun W=>by
   rcases L with⟨h,_,M,S⟩|⟨m,k,h6,T,O,a0,_,M,S⟩|⟨m,k,_,_,_,_,M,_⟩
   ·exact .inl ⟨h,rfl,M,S⟩
   ·exact .inr (.inl ⟨m,k,h6,T,O,a0,rfl,M,S⟩)
   ·exact absurd M he
  clear L he;generalize az:n.setRow (w.heap.size+1) #[ag er,ag at_]=u at*;go_wp2_with(refine aC rfl 26 _ _ rfl _ _ rfl rfl _ _ Y (by kernel_rfl) (by simp) (by simp[Value.oneCell']) ?_)
  go_region;go_wp2_with fail
  have a1:(((u.setCell ⟨w.heap.size,0,none⟩ (af)).setCell ⟨w.heap.size+1,0,none⟩ (ag er)).setCell ⟨w.heap.size+1,1,none⟩ (ag at_)).heap[w.heap.size]? =ah #[af] 23:=
   (aM _ _ _ _ (by show w.heap.size≠w.heap.size+1;omega)).trans ((aM _ _ _ _ (by show w.heap.size≠w.heap.size+1;omega)).trans (aY _ _ 0 _ _ _ G))
  have a2:(((u.setCell ⟨w.heap.size,0,none⟩ (af)).setCell ⟨w.heap.size+1,0,none⟩ (ag er)).setCell ⟨w.heap.size+1,1,none⟩ (ag at_)).heap[w.heap.size+1]? =ah #[ag er,ag at_] 26:=
   aY _ _ 1 _ _ _ (aY _ _ 0 _ _ _ ((aM _ _ _ _ (by show w.heap.size+1≠w.heap.size;omega)).trans r))
  have E:=((U.setCell (p:=⟨w.heap.size,0,none⟩) (aA _) (af)).setCell (p:=⟨w.heap.size+1,0,none⟩) (by show w.heap.size<=w.heap.size+1;omega) (ag er)).setCell (p:=⟨w.heap.size+1,1,none⟩) (by show w.heap.size<=w.heap.size+1;omega) (ag at_);simp only[bodyPostD];exact rB w.heap.size (w.heap.size+1) none 0 0 er at_ rfl rfl a1 a2 ⟨⟨_,_,_,rfl,HP.o _⟩,du E 1⟩
end Go.Proofs.YtpdoienkhgnceaaGreatDoor
