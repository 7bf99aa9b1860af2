/- Texts of the proof. -/
import Derived.Test.YtaoljfdfhggbbaaGreatDoorPc21
set_option maxRecDepth 100000
set_option maxHeartbeats 8000000
namespace Go.Proofs.YtaoljfdfhggbbaaGreatDoor
open Go.Proofs.Tryz Go.RowKit Lx Vx Mx Msk
theorem vK (l:List UInt8)(h: ∀i,i<l.length->isD (l.getD i 0)=true)(a:l.length<=6):0<=valL l/\valL l<=999999:=by
 have b:=pH l h l.length (aB _) a;rw[gc]at b;omega
theorem EL (l:List UInt8): ∀i,i<(l.take (gO isD l)).length->isD ((l.take (gO isD l)).getD i 0)=true:=by
 intro i hi;have a:=lL isD l;rw[eE,fj a]at hi;have:=zg isD l i hi;rw[dJ]at this⊢;rw[js,aD hi];exact this
theorem GH (l:List UInt8)(a:(firstT l).err=0):0<=(firstT l).n/\(firstT l).n<=999999:=by
 unfold firstT at a⊢;split at a
 ·rename_i e;rw[aD e];unfold lg at a⊢;split at a
  ·rename_i h;rw[aD h];unfold oe at h⊢;split at h
   ·rename_i j;rw[aD j];have:=Cal.wT _ _ _ j.1 j.2;show 0<=Cal.num _ _ _/\Cal.num _ _ _<=999999;omega
   ·simp at h
  ·simp[bad]at a
 ·rename_i e;rw[ax e];split at a
  ·rename_i b;rw[aD b];have k:=my b 0 2 (by decide) (fun i hi=>by match i,hi with|0,_=>rfl|1,_=>rfl);have m:=my b 3 2 (by decide) (fun i hi=>by match i,hi with|0,_=>rfl|1,_=>rfl);have o:=vK _ k.2 (by omega);have p:=vK _ m.2 (by omega);unfold oK at a⊢;split at a
   ·simp[bad]at a
   ·rename_i h;rw[ax h];simp only;omega
  ·rename_i b;rw[ax b];split at a
   ·rename_i d;rw[aD d];unfold mx at a⊢;split at a
    ·simp[bad]at a
    ·rename_i h;rw[ax h];have f:=lL isD l;exact vK _ (EL l) (by rw[eE,fj f];omega)
   ·rename_i d;rw[ax d];split at a
    ·rename_i c;rw[aD c];unfold kQ at a⊢;split at a
     ·simp[bad]at a
     ·rename_i h;rw[ax h];simp
    ·rename_i c;rw[ax c];unfold j8 at a⊢;split at a
     ·rename_i g;rw[aD g];simp
     ·rename_i g;rw[ax g];split at a
      ·simp[bad]at a
      ·rename_i h;rw[ax h];simp
theorem GI {l:List UInt8}{a:List Tk}{k:Nat}(h:fG l a k): ∀p∈a,0<=p.1.n/\p.1.n<=999999:=by
 obtain⟨n,d⟩:=h;refine fG.ind (M:=fun a _=> ∀p∈a,0<=p.1.n/\p.1.n<=999999) (fun p b=>by cases b) ?_ n d;intro a k _ _ c f p b;rcases bU.1 b with h|h
 ·exact f p h
 ·have e:p=(firstT (l.drop k),k):=by simpa using h
  rw[e];exact GH _ c
theorem mB.later {c w1 w w':World}{j:Value}{i:List (Ru×Value)}(h:mB c w j i)(f: ∀k,c.heap.size<=k->w'.heap[k]? =w.heap[k]?)(t:w1.heap.size<=c.heap.size):mB w1 w' j i:=by
 refine⟨?_,fun p q=> ?_⟩
 ·obtain⟨l,b⟩:=h.own;refine⟨l,?_⟩;rcases b with b|⟨g,cap,a,s,n,o,r⟩
  ·exact .inl b
  ·exact .inr ⟨g,cap,a,s,by omega,(f g n).trans o,r⟩
 ·obtain⟨d,m⟩:=h.kids p q;exact⟨d,(m.kept fun k e _=>f k e).mono fun k e=>by omega⟩
theorem Bo (p q:Nat)(er at_:Int)(w:World)(k:Nat)(b:k≠p)(a:k≠q):(qq p q er at_ w).heap[k]? =w.heap[k]? :=by
 unfold qq;rw[aO _ _ _ _ a,aO _ _ _ _ a,aO _ _ _ _ b]
def tw (l:List UInt8)(e w:World)(v:Value)(er at_:Int):Prop:=
 (6000<l.length/\v=af/\er=4/\at_=0)\/
 (∃(a:List Tk) (k:Nat),l.length<=6000/\fG l a k/\k<l.length/\(firstT (l.drop k)).err≠0/\v=af/\er=(firstT (l.drop k)).err/\at_=(k:Int))\/
 (∃(a:List Tk) (k:Nat) (c:Int) (b:Nat),l.length<=6000/\fG l a k/\ ¬k<l.length/\iT l.length (a.length+1) [] a= .error (c,b)/\v=af/\er=c/\at_=(b:Int))\/
 (∃(a:List Tk) (k:Nat) (d:List (Ru×Value)),l.length<=6000/\fG l a k/\ ¬k<l.length/\iT l.length (a.length+1) [] a= .ok (d.map (fun p=>p.1))/\d.length<=40/\mB e w v d/\er=0/\at_=0)
theorem qr {d:Array Value}{R:Ending->World->Prop}{w:World}(p q:Nat)(a:Option Addr)(b c:Nat)(er at_:Int)(k:d.getD 2 undef=ab p 0)(l:d.getD 3 undef=ab q 0)
  (n:w.heap[p]? =ah #[.slice a b c] 32) (j:w.heap[q]? =ah #[ag er,ag at_] 93) (m:R (.returned (.tuple #[.slice a b c,.agg #[ag er,ag at_]])) w):Leaves prog f37 d R [] .returning w:=by
 refine⟨.tuple #[.slice a b c,.agg #[ag er,ag at_]],?_,m⟩;have e:d[2]?.getD undef=ab p 0:=by simpa using k
 have f:d[3]?.getD undef=ab q 0:=by simpa using l
 have kp:w.cell? (ae p 0)=some (.slice a b c):=ak 0 n;have g:w.cell? (ae q 0)=some (ag er):=ak 0 j;have i:w.cell? (ae q 1)=some (ag at_):=ak 1 j;simp[results,results37,e,f,asAddr,kp,g,i,go_sem]
theorem GK (s:ByteArray)(l:List UInt8)(hs:s.data.toList=l)(hl:l.length<=9223372036854775807)(w:World)(hT:gI w)(hD:qg w):
  Calls prog 37 #[.string s] w fun e w'=>(∃v er at_,e= .returned (.tuple #[v,.agg #[ag er,ag at_]])/\tw l w w' v er at_)/\aq w w':=by
 have hz:s.size=l.length:=by rw[<-hs,Lib.size_eq]
 have aK: ∀(fn:Fn) (first cap:Array Value) (w:World),(Instr.makeFunc fn first cap).run prog w= .ok (.func fn first cap) w:=fun _ _ _ _=>rfl;have ad:=am w (.cells #[af] 32);have aj:=ad.alloc ad.size (.cells #[ag 0,ag 0] 93);have ao:=(dL _ (.cells #[ag 0,ag 0] 93) _ (aH (aE w (.cells #[af] 32)))).trans (aE w (.cells #[af] 32));have V:=aE (w.alloc (.cells #[af] 32)) (.cells #[ag 0,ag 0] 93);rw[show(w.alloc (.cells #[af] 32)).heap.size=w.heap.size+1 by simp]at V;have aG:((w.alloc (.cells #[af] 32)).alloc (.cells #[ag 0,ag 0] 93)).heap.size=w.heap.size+2:=by simp
 generalize aC:(w.alloc (.cells #[af] 32)).alloc (.cells #[ag 0,ag 0] 93)=wB at*;have cX:=Lq s l hs hl wB (hT.below aj);go_enter_defers func37,ntmps37;go_wp2_with fail;refine cX.mono ?_;rintro e n ⟨⟨v,er,at_,rfl,L⟩,N⟩;have a8:=ai N ao;have Y:=ai N V;have ac:=aw aj N;have aF:=N.size;clear ao V cX aC;have r:=aL n (w.heap.size+1) _ #[ag er,ag at_] _ _ Y;have G:=(aV n (w.heap.size+1) w.heap.size #[ag er,ag at_] (by omega)).trans a8;have U:aq w (n.setRow (w.heap.size+1) #[ag er,ag at_]):=below_setRow ac (by omega) _;have d0:(n.setRow (w.heap.size+1) #[ag er,ag at_]).cell? (ae (w.heap.size+1) 0)=some (ag er):=ak 0 r;by_cases he:er=0
 ·subst he
  obtain⟨m,k,h6,T,O,P⟩: ∃(m:List Tk) (k:Nat),l.length<=6000/\fG l m k/\ ¬k<l.length/\n.ownsRow wB.heap.size 160 4 v m.length (kB m):=by
   rcases L with⟨_,_,h,_⟩|⟨m,k,_,_,_,he,_,h,_⟩|⟨m,k,M,S,h3,h4,_⟩
   ·cases h
   ·exact absurd h.symm he
   ·exact⟨m,k,M,S,h3,h4⟩
  have aI:=T.le;have R:=GI T;have z: ∀b,v.ownBlock=some b->b<n.heap.size/\wB.heap.size<=b:=fun b hb=>⟨(P.lt b hb).2,(P.lt b hb).1⟩
  have y:ru n v m:=Be P (by omega);have ar:(n.setRow (w.heap.size+1) #[ag 0,ag at_]).heap.size=n.heap.size:=(by simp[World.setRow])
  have I:ru (n.setRow (w.heap.size+1) #[ag 0,ag at_]) v m:=by
   rcases y with h|⟨gt,o,c,hv,a3,hc⟩
   ·exact .inl h
   ·refine .inr ⟨gt,o,c,hv,a3,fun j t k hj=> ?_⟩;obtain⟨c1,c2,c3,c4⟩:=hc j t k hj
    have an:gt≠w.heap.size+1:=by
     have:=(z gt (by rw[hv];rfl)).2;omega
    have e:(n.setRow (w.heap.size+1) #[ag 0,ag at_]).heap[gt]? =n.heap[gt]? :=aV _ _ _ _ an;have ce: ∀i,(n.setRow (w.heap.size+1) #[ag 0,ag at_]).cell? (ae gt i)=n.cell? (ae gt i):=fun i=>ef e;exact⟨(ce _).trans c1,(ce _).trans c2,(ce _).trans c3,(ce _).trans c4⟩
  have aa:qg (n.setRow (w.heap.size+1) #[ag 0,ag at_]):=fun j hj=>(U.cell (bP (hD j hj))).trans (hD j hj);have al:=bP (hD 0 (by omega));obtain⟨pv,cv,rfl⟩:=y.form;clear L P y hT;generalize az:n.setRow (w.heap.size+1) #[ag 0,ag at_]=u at*;have A:aq u (u.alloc (.cells #[.slice pv m.length cv,ag 0,ag (l.length:Int),ag 0] 126)):=am _ _;have h0:PS0 m l.length u.heap.size (.slice pv m.length cv):=⟨by omega,h6,fun e=>by have:=(z _ e).1;omega,R,by show 3≠u.heap.size;have:3<w.heap.size:=al;omega⟩
  have au:PSt m l.length u.heap.size (.slice pv m.length cv) (u.alloc (.cells #[.slice pv m.length cv,ag 0,ag (l.length:Int),ag 0] 126)) 0 0:=
   ⟨aE u _,(bo.of_below (g:=u.heap.size+1) A).row (fun e=>by have:=(z _ e).1;omega) I,by omega,(bo.of_below (g:=u.heap.size+1) A).days (by show 3≠u.heap.size+1;have:3<w.heap.size:=al;omega) aa⟩
  have c4:=GG h0 au;rw[List.drop_zero]at c4;have X:=ai A G;have Z:=ai A r;have a:=aw U A;have aM:(u.alloc (.cells #[.slice pv m.length cv,ag 0,ag (l.length:Int),ag 0] 126)).heap.size=u.heap.size+1:=(by simp);have aJ:w.heap.size+1<u.heap.size:=aH r;clear A au aa I z R;have aD:=ar.symm;clear ar;go_wp2_with(refine ay rfl 93 _ _ rfl _ _ rfl rfl _ _ Y (by kernel_rfl) (by simp) (by simp[Value.oneCell']) ?_)
  refine c4.mono ?_;intro e C P;cases L:iT l.length (m.length+1) [] m with
  |error q=>
   obtain⟨er,x⟩:=q;rw[L]at P;obtain⟨rfl,d⟩:=P;have B:=d.at X (by omega);have Q:=d.at Z (by omega)
   have a6:(qq w.heap.size (w.heap.size+1) er (x:Int) C).heap[w.heap.size]? =ah #[af] 32:=
    (aO _ _ _ _ (by show w.heap.size≠w.heap.size+1;omega)).trans ((aO _ _ _ _ (by show w.heap.size≠w.heap.size+1;omega)).trans (aY _ _ 0 _ _ _ B))
   have a7:(qq w.heap.size (w.heap.size+1) er (x:Int) C).heap[w.heap.size+1]? =ah #[ag er,ag (x:Int)] 93:=
    aY _ _ 1 _ _ _ (aY _ _ 0 _ _ _ ((aO _ _ _ _ (by show w.heap.size+1≠w.heap.size;omega)).trans Q))
   have E:aq w (qq w.heap.size (w.heap.size+1) er (x:Int) C):=by
    have aA:=d.size;refine⟨d.os.trans a.os,d.tape.trans a.tape,d.output.trans a.output,?_,fun k O=> ?_⟩
    ·have:=a.size;simp[qq];omega
    ·rw[Bo _ _ _ _ _ _ (by omega) (by omega),d.block k (by omega) (fun e=>by have:=aN e;omega)];exact a.block k O
   show bodyPostD _ _ _ (Exit.panic _) _ _;simp only[bodyPostD];refine leaves_cons (f:=57) (args:= #[ab w.heap.size 0,ab (w.heap.size+1) 0]) (by simp) (by simp[go_sem]) ?_;refine(Bn w.heap.size (w.heap.size+1) (by omega) _ _ _ er (x:Int) C B Q).mono ?_;rintro e u' w6 ⟨rfl,rfl,k,rfl⟩;show Leaves _ _ _ _ [] (settle _) _;simp only[settle,List.dropWhile_nil];exact qr w.heap.size (w.heap.size+1) none 0 0 er (x:Int) rfl rfl a6 a7 ⟨⟨_,_,_,rfl,.inr (.inr (.inl ⟨m,_,er,x,h6,T,O,L,rfl,rfl,rfl⟩))⟩,dD E k⟩
  |ok rs=>
   rw[L]at P;obtain⟨vr,D,rfl,ax,H,av,d⟩:=P;have B:=d.at X (by omega);have Q:=d.at Z (by omega);obtain⟨K,cr,rfl⟩:=df H.own;have kp:=ak 0 B;have yp:=bl _ _ 0 _ _ B;have a4:(C.setCell ⟨w.heap.size,0,none⟩ (.slice K D.length cr)).heap[w.heap.size]? =ah #[.slice K D.length cr] 32:=aY _ _ 0 _ _ _ B;have ap:=(aO C ⟨w.heap.size,0,none⟩ (w.heap.size+1) (.slice K D.length cr) (by show w.heap.size+1≠w.heap.size;omega)).trans Q;have a5:=(aV (C.setCell ⟨w.heap.size,0,none⟩ (.slice K D.length cr)) (w.heap.size+1) w.heap.size #[ag 0,ag 0] (by omega)).trans a4;have a9:=aL (C.setCell ⟨w.heap.size,0,none⟩ (.slice K D.length cr)) (w.heap.size+1) _ #[ag 0,ag 0] _ _ ap;have F: ∀k,k≠w.heap.size->k≠w.heap.size+1->((C.setCell ⟨w.heap.size,0,none⟩ (.slice K D.length cr)).setRow (w.heap.size+1) #[ag 0,ag 0]).heap[k]? =C.heap[k]? :=fun k M S=>(aV _ _ _ _ S).trans (aO _ _ _ _ M)
   have E:aq w ((C.setCell ⟨w.heap.size,0,none⟩ (.slice K D.length cr)).setRow (w.heap.size+1) #[ag 0,ag 0]):=by
    have aA:=d.size;refine⟨d.os.trans a.os,d.tape.trans a.tape,d.output.trans a.output,?_,fun k O=> ?_⟩
    ·have:=a.size;simp[World.setRow];omega
    ·rw[F _ (by omega) (by omega),d.block k (by omega) (fun e=>by have:=aN e;omega)];exact a.block k O
   have J:=H.later (w1:=w) (w':=(C.setCell ⟨w.heap.size,0,none⟩ (.slice K D.length cr)).setRow (w.heap.size+1) #[ag 0,ag 0]) (fun k O=>F k (by omega) (by omega)) a.size;have HP:PN (tw l w ((C.setCell ⟨w.heap.size,0,none⟩ (.slice K D.length cr)).setRow (w.heap.size+1) #[ag 0,ag 0]) (.slice K D.length cr) 0 0):= .inr (.inr (.inr ⟨m,k,D,h6,T,O,by rw[L,ax],av,J,rfl,rfl⟩));clear H J c4 L ax F d T X Z G r;go_wp2_with(refine ay rfl 93 _ _ rfl _ _ rfl rfl _ _ ap (by kernel_rfl) (by simp) (by simp[Value.oneCell']) ?_)
   simp only[bodyPostD];refine leaves_cons (f:=57) (args:= #[ab w.heap.size 0,ab (w.heap.size+1) 0]) (by simp) (by simp[go_sem]) ?_;refine(EK _ _ _).mono ?_;rintro e u' w6 ⟨rfl,rfl,rfl⟩;show Leaves _ _ _ _ [] (settle _) _;simp only[settle];exact qr w.heap.size (w.heap.size+1) K D.length cr 0 0 rfl rfl a5 a9 ⟨⟨_,_,_,rfl,HP.o⟩,E⟩
 ·have an:(er !=0)=true:=by simpa using he
  have d1:(n.setRow (w.heap.size+1) #[ag er,ag at_]).cell? (ae (w.heap.size+1) 1)=some (ag at_):=ak 1 r;have k0:(n.setRow (w.heap.size+1) #[ag er,ag at_]).cell? (ae w.heap.size 0)=some (af):=ak 0 G;have y0:=bl _ _ 0 _ _ G;have y1:=bl _ _ 0 _ _ r;have y2:=bl _ _ 1 _ _ r
  have HP:PN (∀W,tw l w W (af) er at_):=fun W=>by
   rcases L with⟨h,_,M,S⟩|⟨m,k,h6,T,O,a0,_,M,S⟩|⟨m,k,_,_,_,_,M,_⟩
   ·exact .inl ⟨h,rfl,M,S⟩
   ·exact .inr (.inl ⟨m,k,h6,T,O,a0,rfl,M,S⟩)
   ·exact absurd M he
  clear L he;generalize az:n.setRow (w.heap.size+1) #[ag er,ag at_]=u at*;go_wp2_with(refine ay rfl 93 _ _ rfl _ _ rfl rfl _ _ Y (by kernel_rfl) (by simp) (by simp[Value.oneCell']) ?_)
  go_region;go_wp2_with fail
  have a1:(((u.setCell ⟨w.heap.size,0,none⟩ (af)).setCell ⟨w.heap.size+1,0,none⟩ (ag er)).setCell ⟨w.heap.size+1,1,none⟩ (ag at_)).heap[w.heap.size]? =ah #[af] 32:=
   (aO _ _ _ _ (by show w.heap.size≠w.heap.size+1;omega)).trans ((aO _ _ _ _ (by show w.heap.size≠w.heap.size+1;omega)).trans (aY _ _ 0 _ _ _ G))
  have a2:(((u.setCell ⟨w.heap.size,0,none⟩ (af)).setCell ⟨w.heap.size+1,0,none⟩ (ag er)).setCell ⟨w.heap.size+1,1,none⟩ (ag at_)).heap[w.heap.size+1]? =ah #[ag er,ag at_] 93:=
   aY _ _ 1 _ _ _ (aY _ _ 0 _ _ _ ((aO _ _ _ _ (by show w.heap.size+1≠w.heap.size;omega)).trans r))
  have E:=((U.setCell (p:=⟨w.heap.size,0,none⟩) (aB _) (af)).setCell (p:=⟨w.heap.size+1,0,none⟩) (by show w.heap.size<=w.heap.size+1;omega) (ag er)).setCell (p:=⟨w.heap.size+1,1,none⟩) (by show w.heap.size<=w.heap.size+1;omega) (ag at_);simp only[bodyPostD];exact qr w.heap.size (w.heap.size+1) none 0 0 er at_ rfl rfl a1 a2 ⟨⟨_,_,_,rfl,HP.o _⟩,dD E 1⟩
end Go.Proofs.YtaoljfdfhggbbaaGreatDoor
