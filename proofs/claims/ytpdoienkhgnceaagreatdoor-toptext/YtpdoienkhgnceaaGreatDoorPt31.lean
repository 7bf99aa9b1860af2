/- Texts of the proof. -/
import Derived.Test.YtpdoienkhgnceaaGreatDoorPt30
import Derived.Test.YtpdoienkhgnceaaGreatDoorCards
import Derived.Test.YtpdoienkhgnceaaGreatDoorTie
import Derived.LaidMore
import Derived.SevenTiedAt
import Derived.Lib.SmallJoins
set_option maxRecDepth 100000
set_option maxHeartbeats 8000000
namespace Go.Proofs.YtpdoienkhgnceaaGreatDoor
open Go.Proofs.Tryz Go.RowKit Lx Vx Mx Msk
theorem CF (i:List (Ru×Value))(v:Value)(w:World)(h:InR w v i)(z:PTb w.heap.size w):Calls prog 7 #[v] w (TS (i.map (fun p=>p.1)) w):=by
 have N: ∃p c,v= .slice p i.length c:=by
  rcases h.row with⟨rfl,p,c,hv⟩|⟨g,o,c,hv,_⟩
  ·exact⟨p,c,hv⟩
  ·exact⟨_,c,hv⟩
 obtain⟨p,c,rfl⟩:=N;have J:=am w (.cells #[ag 0,ag 0] 26);have aq:=aB w (.cells #[ag 0,ag 0] 26);have cW:=By i (.slice p i.length c) _ (h.below J);generalize aO:w.alloc (.cells #[ag 0,ag 0] 26)=wF at*;generalize hL:i.map (fun p=>p.1)=L at*;generalize hX:dQ7 L=X at*;go_enter func7,ntmps7;go_wp2_with fail;refine cW.mono ?_;rintro r w1 ⟨rfl,K⟩;have aa:=au J K;have ar:=ai K aq;have m:=am w1 (.cells #[ag X.1,ag (X.2:Int)] 26);have e:=au aa m;have A:=aB w1 (.cells #[ag X.1,ag (X.2:Int)] 26);have n:=ai m ar;have F:=h.below e;have I:T4 (InR _ (.slice p i.length c) i):=F;clear cW K ar h aq J aO F m;generalize a4:w1.alloc (.cells #[ag X.1,ag (X.2:Int)] 26)=d at*;by_cases Y:X.1≠0
 ·have V:T4 (mF L=([],X)):=by
   show _=_;unfold mF;rw[hX,ax Y]
  have aV:(X.1 !=0)=true:=(by simpa using Y);have W:=ak 0 A;have d1:=ak 1 A;have z0:=ak 0 n;have z1:=ak 1 n;have y0:=bu _ _ 0 _ _ n;have y1:=bu _ _ 1 _ _ n;have aE:((d.setCell ⟨w.heap.size,0,none⟩ (ag X.1)).setCell ⟨w.heap.size,1,none⟩ (ag (X.2:Int))).heap[w.heap.size]? =ah #[ag X.1,ag (X.2:Int)] 26:=aY _ _ 1 _ _ _ (aY _ _ 0 _ _ _ n);have a6:=(e.setCell (p:=⟨w.heap.size,0,none⟩) (aA _) (ag X.1)).setCell (p:=⟨w.heap.size,1,none⟩) (aA _) (ag (X.2:Int));clear Y I z hX;go_wp2_with fail;go_region;go_wp2_with fail;refine yE (by kernel_rfl) w.heap.size (.string ⟨#[]⟩) X.1 (X.2:Int) rfl rfl rfl aE ⟨?_,du a6 1⟩;rw[V.o]
 ·have ad:X.1=0:=by simpa using Y
  obtain⟨aP,ap⟩:=L4 (l:=L) (by rw[hX];exact ad);have aQ:L.length=i.length:=(by rw[<-hL,bm])
  have V:T4 (mF L=if 6000<(eR L).length then([],4,0) else(eR L,0,0)):=by
   show _=_;unfold mF;rw[hX,aw Y]
  obtain⟨er,at_⟩:=X;dsimp only at*;subst ad;have W:=ak 0 A;have a5:=am d (.cells #[.pointer none,af] 75);have aF:BSt d.heap.size d.heap.size [] (d.alloc (.cells #[.pointer none,af] 75)):=Lib.IsBuilderF.of (Lib.fresh_isBuilder _ _ d);have G:PTb d.heap.size d:=fun w' hw=>z w' (au e hw);clear Y A z hX;have z:=G;clear G;go_wp2_with fail;clear a4 W;generalize aR:d.alloc (.cells #[.pointer none,af] 75)=w3 at*;go_loopw [16] (fun t wr=> ∃j:Nat,t=ag (j:Int)/\j<=i.length/\BSt d.heap.size d.heap.size (eR (L.take j)) wr/\ao d wr) (fun t _=>i.length-(intOf t).toNat);case atStart=>exact⟨0,rfl,by omega,aF,a5⟩
  case round=>
   obtain⟨j,rfl,hj,E,f⟩:=hrel;have aS:(0:Int)<=(j:Int):=(by omega);have aT:(j:Int)<=40:=(by omega);by_cases Q:j<i.length
   ·have an:(j:Int)<(i.length:Int):=(by omega);obtain⟨⟨u,sk⟩,C⟩: ∃k,i[j]? =some k:=⟨i[j],az Q⟩
    have O:L[j]? =some u:=(by rw[<-hL,bf,C];rfl);have a7:=I.o.all _ (aL C);obtain⟨_,_,dd,D⟩:=a7;obtain⟨pk,ck,a1⟩:=D.form;dsimp only at a1 D;subst a1;rcases I.o.row with⟨hh,_⟩|⟨g,o,c',aM,_,s⟩
    ·rw[hh]at Q;simp at Q
    injection aM with e1 e2 e3;subst e1;subst e3;obtain⟨W,d1,d2,d3,d4,d5⟩:=s j _ C;dsimp only at W d1 d2 d3 d4 d5;have f0:=aj f W;have f1:=aj f d1;have f2:=aj f d2;have f3:=aj f d3;have f4:=aj f d4;have f5:=aj f d5;have T:=ap u (aL O);have aW:=yz T.1;have aX:=T.2.len 0;have a3:T4 (eR (L.take (j+1))=eR (L.take j)++qT u):=(by show _=_;rw[Lx.kT O,F2])
    have aU:(eR (L.take j)).length<=40000*40:=by
     have h1:=AD (l:=L.take j) (fun x hx=>ap x (List.mem_of_mem_take hx));have h2:(L.take j).length<=40:=(by rw[ef];omega);exact bh h1 (Nat.mul_le_mul_left _ h2)
    have m:ao wr (wr.alloc (.cells #[.string ⟨u.1.toArray⟩,ag u.2.kind,ag u.2.a,ag u.2.b,.string ⟨u.2.name.toArray⟩,.slice pk u.2.kids.length ck] 80)):=am _ _;have U:=aB wr (.cells #[.string ⟨u.1.toArray⟩,ag u.2.kind,ag u.2.a,ag u.2.b,.string ⟨u.2.name.toArray⟩,.slice pk u.2.kids.length ck] 80);have a0:=E.below m;have ae:BK d.heap.size d.heap.size wr _:=BK.of_below m E.le;have P1:=jS ([114,117,108,101,32]++u.1++[32,61,32]) a0 (by simp;omega);have q1: ¬9223372036854775807<5+u.1.length:=(by omega);have q2: ¬9223372036854775807<5+u.1.length+3:=(by omega);clear W d1 d2 d3 d4 d5 s C O m;generalize aN:wr.alloc (.cells #[.string ⟨u.1.toArray⟩,ag u.2.kind,ag u.2.a,ag u.2.b,.string ⟨u.2.name.toArray⟩,.slice pk u.2.kids.length ck] 80)=wB at*;have x0:=ak 0 U;simp only[List.cons_append,List.nil_append]at P1;go_wp2_with fail;refine P1.mono ?_;rintro r w4 ⟨rfl,aG,P⟩;have y:=P.others _ _ U (by intro q;have:=ay q;have:=E.lt;omega) (by intro cc fz q;cases q);have al:=ae.trans P;have M:ao d w4:=f.trans al.below;have P2:=L3 (B:=d.heap.size) (b:=d.heap.size) dd u.2 (.slice pk u.2.kids.length ck) w4 _ 0 (D.kept fun k hk _=>M.block k hk) T.2 (z.on M) aG (by omega) (by simp;omega);unfold exV at P2;have x1:=ak 1 y;have x2:=ak 2 y;have x3:=ak 3 y;have x4:=ak 4 y;have x5:=ak 5 y;clear P1 U y a0 ae P aN x0 f0 f1 f2 f3 f4 f5 D;go_wp2_with fail;refine P2.mono ?_;rintro r w5 ⟨rfl,aI,a9⟩;have P3:=jS [59,10] aI (by simp;omega);clear P2 x1 x2 x3 x4 x5;go_wp2_with fail;refine P3.mono ?_;rintro r w6 ⟨rfl,aJ,aD⟩;clear P3;go_wp2_with fail;go_roundw;case rel=>exact⟨j+1,by go_num,by omega,by rw[a3.o];simpa[qT] using aJ,M.trans (a9.trans aD).below⟩
    case measure=>simp[intOf];omega
   ·have an: ¬(j:Int)<(i.length:Int):=(by omega);have a8:L.take j=L:=da (by omega);rw[a8]at E;have Z:=TQ d.heap.size d.heap.size _ wr E;rw[Lib.byteCells_length]at Z;have S:=ai f n;have H:=au e f;by_cases h6:6000<(eR L).length
    ·have a2:(6000:Int)<((eR L).length:Int):=(by omega);have HQ:T4 (mF L=([],4,0)):=(by show _=_;rw[V.o,ax h6]);clear V h6 E;generalize (eR L).length=n6 at*;go_wp2_with fail;refine Z.mono ?_;rintro r w7 ⟨rfl,rfl⟩;clear Z;go_wp2_with(refine aC rfl 26 _ _ rfl _ _ rfl rfl _ _ S (by kernel_rfl) (by simp) (by simp[Value.oneCell']) ?_)
     refine yE (by kernel_rfl) w.heap.size (.string ⟨#[]⟩) 4 0 rfl rfl rfl (aK _ _ _ _ _ _ S) ⟨?_,below_setRow H (aA _) _⟩;rw[HQ.o];rfl
    ·have a2: ¬(6000:Int)<((eR L).length:Int):=(by omega);have HQ:T4 (mF L=(eR L,0,0)):=(by show _=_;rw[V.o,aw h6]);have cS:=TP d.heap.size d.heap.size (eR L) wr E E.le;clear V h6 E;generalize hR:eR L=R at*;go_wp2_with fail;refine Z.mono ?_;rintro r w7 ⟨rfl,rfl⟩;clear Z;go_wp2_with fail;refine cS.mono ?_;rintro r w8 ⟨rfl,_,ab,_⟩;clear cS;have av:=(ab.block _ (by have:=e.size;have:=aH n;omega)).trans S;have ac:=H.trans (ab.mono e.size);go_wp2_with(refine aC rfl 26 _ _ rfl _ _ rfl rfl _ _ av (by kernel_rfl) (by simp) (by simp[Value.oneCell']) ?_)
     refine yE (by kernel_rfl) w.heap.size (.string ⟨R.toArray⟩) 0 0 rfl rfl rfl (aK _ _ _ _ _ _ av) ⟨?_,below_setRow ac (aA _) _⟩;rw[HQ.o];rfl
def E3:Nat->List Ex->Prop
 |0,_=>True
 |d+1,a=> ∀(j:Nat) (k:Ex),a[j]? =some k->k.name.length<=9223372036854775807/\E3 d k.kids
theorem xC {B:Nat->Prop}: ∀{d:Nat} {w:World} {sl:Value} {a:List Ex},dr B d w sl a->E3 d a->fV (fun k=>k<w.heap.size) d w sl a
 |0,_,_,_,h,_=>h
 |d+1,w,sl,a,h,t=>by
  rcases h with h|⟨g,o,c,A,m,s,i⟩
  ·exact .inl h
  ·by_cases e:a=[]
   ·subst e;exact .inl ⟨rfl,_,c,m⟩
   ·obtain⟨k0,b⟩: ∃k,a[0]? =some k:=by
     cases a with
     |nil=>exact absurd rfl e
     |cons x l=>exact⟨x,rfl⟩
    obtain⟨_,y,_⟩:=i 0 k0 b;refine .inr ⟨g,o,c,aU y,m,s,fun j k f=> ?_⟩;obtain⟨z,c0,c1,n,p,q,r⟩:=i j k f;obtain⟨u,v⟩:=t j k f;exact⟨u,z,c0,c1,n,p,q,xC r v⟩
theorem AF {j w:World}{v:Value}{a:List (Ru×Value)}(h:kZ j w v a)(k:a.length<=40)(e: ∀p∈a,p.1.1.length<=9223372036854775807/\p.1.2.name.length<=9223372036854775807/\ ∀d,E3 d p.1.2.kids):InR w v a:=by
 refine⟨uP h.own (by omega),by omega,fun p b=> ?_⟩;obtain⟨d,c⟩:=h.kids p b;obtain⟨f,g,i⟩:=e p b;exact⟨f,g,d,xC c (i d)⟩
theorem Mb {l:List UInt8}{c:List Tk}{k:Nat}(B:l.length<=6000)(g:eI l c k)(i: ¬k<l.length){o w:World}{v:Value}{er at_:Int}(h:mY l o w v er at_):
  (∃a b,fH l.length (c.length+1) [] c= .error (a,b)/\er=a)\/(er=0/\ ∃j:List (Ru×Value),kZ o w v j/\j.length<=40/\fH l.length (c.length+1) [] c= .ok (j.map (fun p=>p.1))):=by
 rcases h with⟨h,_⟩|⟨n,m,_,d,e,r,_,_,_⟩|⟨n,m,a,b,_,d,e,s,_,q,_⟩|⟨n,m,t,C,d,e,u,x,y,z,_⟩
 ·omega
 ·obtain⟨_,A⟩:=sc g d (fun h=>i h.1) (fun h=>r h.2);omega
 ·obtain⟨f,_⟩:=sc g d (fun h=>i h.1) (fun h=>e h.1);subst f;exact .inl ⟨a,b,s,q⟩
 ·obtain⟨f,_⟩:=sc g d (fun h=>i h.1) (fun h=>e h.1);subst f;exact .inr ⟨z,t,y,x,u⟩
theorem F7 {l:List Ru}(q:(dQ7 l).1=0)(n:(eR l).length<=6000){e w:World}{v:Value}{er at_:Int}(h:mY (eR l) e w v er at_):
  er=0/\ ∃a:List (Ru×Value),kZ e w v a/\a.length<=40/\a.map (fun p=>p.1)=l.map oZ:=by
 obtain⟨r,k,i,j,c⟩:=F5 q;rcases Mb n i j h with⟨g,f,b,_⟩|⟨b,a,m,o,d⟩
 ·rw[c]at b;cases b
 ·rw[c]at d;exact⟨b,a,m,o,(Except.ok.inj d).symm⟩
theorem G6 {e:Ex}(h:RE e):e.name.length<=20/\ ∀k∈e.kids,RE k:=by
 obtain⟨j,f⟩:=h;obtain⟨g,i⟩:=(rU e).1 j;rw[jr]at f;have c:=congrArg Ex.name f;have a:=congrArg Ex.kids f;dsimp only at c a;refine⟨?_,fun k b=>⟨i k b,?_⟩⟩
 ·unfold CW at c;split at c
  ·rename_i d;exact(mP ((xy g).2.2.2.2 d)).2.2.1
  ·rw[<-c];simp
 ·have: ∀l:List Ex,l.map iK=l-> ∀k∈l,iK k=k:=by
   intro l;induction l with
   |nil=>intro _ k a;cases a
   |cons q l m=>
    intro h k a;simp only[cQ,List.cons.injEq]at h;rcases bv.1 a with rfl|a
    ·exact h.1
    ·exact m h.2 k a
  exact this _ a k b
theorem E4: ∀(d:Nat) (a:List Ex),(∀k∈a,RE k)->E3 d a
 |0,_,_=>trivial
 |d+1,a,h=>fun j k c=>by
  obtain⟨e,b⟩:=G6 (h k (aL c));exact⟨by omega,E4 d k.kids b⟩
def NmT (a:List (Ru×Value)):Prop:= ∀p∈a,p.1.1.length<=9223372036854775807/\p.1.2.name.length<=9223372036854775807/\ ∀d,E3 d p.1.2.kids
theorem NmT.same {c a:List (Ru×Value)}(h:NmT c)(e:a.map (fun p=>p.1)=c.map (fun p=>p.1)):NmT a:=fun p d=>by
 have:p.1∈c.map (fun p=>p.1):=by rw[<-e];exact dB.2 ⟨p,d,rfl⟩
 obtain⟨q,f,b⟩:=dB.1 this;rw[<-b];exact h q f
theorem vR {l:List UInt8}{e w:World}{v:Value}{at_:Int}(h:mY l e w v 0 at_):
  ∃a:List (Ru×Value),kZ e w v a/\a.length<=40/\dQ7 (a.map (fun p=>p.1))=(0,0)/\(a.map (fun p=>p.1)).map oZ=a.map (fun p=>p.1)/\NmT a:=by
 obtain⟨A,k,a,B,t,C,x,f,y,_⟩:=Lt h;have c:=vQ _ _ _ _ (Jr t) (fun u b=>by cases b) x;refine⟨a,y,f,F4 (by simpa using f) fun u b=>(c u b).1,?_,fun p i=> ?_⟩
 ·have: ∀m:List Ru,(∀u∈m,oZ u=u)->m.map oZ=m:=by
   intro m;induction m with
   |nil=>intro _;rfl
   |cons q m j=>intro h;rw[cQ,h q aV,j fun u b=>h u (bj _ b)]
  exact this _ fun u b=>(c u b).2
 ·obtain⟨r1,s⟩:=c p.1 (dB.2 ⟨p,i,rfl⟩);obtain⟨o,r,_,_⟩:=E0 r1;have g:iK p.1.2=p.1.2:=congrArg Prod.snd s;obtain⟨z,n⟩:=G6 ⟨r,g⟩;have:=(mP o).2.2.1;exact⟨by omega,by omega,fun d=>E4 d _ n⟩
theorem Js {l:List UInt8}{b w:World}{v:Value}{er at_:Int}(h:mY l b w v er at_)(a:er≠0):v=af:=by
 rcases h with⟨_,h,_⟩|⟨_,_,_,_,_,_,h,_⟩|⟨_,_,_,_,_,_,_,_,h,_⟩|⟨_,_,_,_,_,_,_,_,_,h,_⟩
 ·exact h
 ·exact h
 ·exact h
 ·exact absurd h a
theorem Mc (c0 c1:Value)(w:World):(Instr.field 26 (.agg #[c0,c1]) 0).run prog w= .ok c0 w:=by
 unfold Instr.field;simp[go_sem,asAgg]
attribute [go_sem] Mc
theorem Jt {a:List (Ru×Value)}{v:Value}{w:World}(h:InR w v a)(b:PTb w.heap.size w)(g:dQ7 (a.map (fun p=>p.1))=(0,0))(d:6000<(eR (a.map (fun p=>p.1))).length):
  Calls prog 7 #[v] w fun e c=>e= .returned (.tuple #[.string ⟨#[]⟩,.agg #[ag 4,ag 0]])/\ao w c:=by
 refine(CF a v w h b).mono ?_;rintro e c ⟨rfl,f⟩;refine⟨?_,f⟩;unfold mF;rw[g,aw (by simp),ax d];rfl
theorem Ju {a:List (Ru×Value)}{v:Value}{w:World}(h:InR w v a)(b:PTb w.heap.size w)(g:dQ7 (a.map (fun p=>p.1))=(0,0))(d: ¬6000<(eR (a.map (fun p=>p.1))).length):
  Calls prog 7 #[v] w fun e c=>e= .returned (.tuple #[.string ⟨(eR (a.map (fun p=>p.1))).toArray⟩,.agg #[ag 0,ag 0]])/\ao w c:=by
 refine(CF a v w h b).mono ?_;rintro e c ⟨rfl,f⟩;refine⟨?_,f⟩;unfold mF;rw[g,aw (by simp),aw d];rfl
theorem wnT {b:Array Oper}{A:Act}{o:Oper}{e d:Nat}{a:Bool}(g:o.guard=some (e,a))(f:(b[e]?).bind (·.dst)=some d)(c:A.tmps[d]?.getD undef= .bool a):Region.wanted o (yielded b A.tmps)=true:=by
 unfold Region.wanted;rw[g];unfold yielded;dsimp only;rw[f];dsimp only[Option.bind_some];cases h:A.tmps[d]? with
 |none=>rw[h]at c;cases c
 |some v=>
  rw[h]at c;have:v= .bool a:=c;subst this;simp
theorem sI {f i d:World}{g:Nat}{c:Array Value}(j:ao f i)(l:i.heap[g]? =ah c 26)(n:f.heap.size<=g)(b:ao i d)(x y:Int): ∃e,d.heap[g]? =ah c 26/\d.setRow g #[ag x,ag y]=e/\ao f e/\e.heap[g]? =ah #[ag x,ag y] 26/\ ∀k,k≠g->e.heap[k]? =d.heap[k]? :=by
 have a:=bt b l;exact⟨_,a,rfl,below_setRow (au j b) n _,aK _ _ _ _ _ _ a,fun k m=>aQ _ _ _ _ m⟩
theorem Sx {l:List Ru}(h:(dm l).1=0):fU l=(0,0)\/(fU l).1=4:=by
 unfold fU;rw[aw (fun q=>q h)];split
 ·exact .inr rfl
 ·exact .inl rfl
theorem Sy {l:List Ru}{day:Int}(h:(md l day).1=0):(dm l).1=0/\md l day=(0,0):=by
 unfold md at h⊢;by_cases a:(dm l).1≠0
 ·rw[ax a]at h;exact absurd h a
 ·rw[aw a]at h⊢;split at h
  ·cases h
  ·rename_i b;exact⟨Classical.not_not.1 a,aw b⟩
theorem Oo {l:List Ru}{day:Int}(h:md l day=(0,0)){i:Nat}(hi:i<l.length):(lS l day)[i]? =some (gL l (wkB day) day i):=by
 unfold lS;rw[ax (by rw[h]),bf,List.getElem?_range hi];rfl
theorem T5 {w j:World}{v:Value}{a:List (Nat->Bool)}(h:vt w v a)(k:ao w j):vt j v a:=by
 obtain⟨p,c,e,l,n⟩:=h;refine⟨p,c,e,l,fun i f hi=> ?_⟩;obtain⟨g,o,m,b⟩:=n i f hi;exact⟨g,o,m,fun q v d=>(k.cell (aU (b q v d))).trans (b q v d)⟩
theorem yF {w:World}{v:Value}{m:List (Nat->Bool)}{g:Nat}{a b:Int}{r:Array Value}(h:vt w v m)(y:w.heap[g]? =ah #[ag a,ag b] 26):vt (w.setRow g r) v m:=by
 obtain⟨p,c,s,t,x⟩:=h;refine⟨p,c,s,t,fun i f hi=> ?_⟩;obtain⟨q,o,e,n⟩:=x i f hi;refine⟨q,o,e,fun j u z=> ?_⟩
 have l:q≠g:=fun e=>by
  subst e;have d:=n 0 (.int .u64 (wd f 0:Int)) (by rw[bq];exact pY f 0 (by decide));rw[aW _ _ _ _ _ _ y]at d
  have k:o+i*23+0<2:=by
   by_cases A:o+i*23+0<2
   ·exact A
   ·rw[Array.getElem?_eq_none (by simp;omega)]at d;cases d
  match hk:o+i*23+0,k,d with
  |0,_,d=>cases d
  |1,_,d=>cases d
 rw[<-n j u z];exact dP (aQ _ _ _ _ l)
theorem Jv (s:ByteArray)(day:Int)(w:World)(a3:s.size<=maxLen)(hT:Tbs w.heap.size w)(av:PTb w.heap.size w):Calls prog 3 #[.string s,ag day] w fun e w'=>e= .returned (.bool true)/\ao w w':=by
 obtain⟨l0,hs⟩:=aq s.data.toList;have bz:s.size=l0.length:=by rw[<-hs,Lib.size_eq]
 have a2:l0.length<=9223372036854775807:=by unfold maxLen at a3;omega
 have c0:=LU w hT;have HT:=aG hT;have bf:=aG av;have hz:=ea;have c1:=fun(W:World) (hW:ao w W)=>uO s l0 hs a2 W (hT W hW).1 (hT W hW).2.1;clear hs bz a3 a2 hT av;go_enter func3,ntmps3;go_wp2_with fail;refine c0.mono ?_;rintro e w0 ⟨rfl,b0⟩;have d1:=c1 w0 b0;clear c0 c1;go_wp2_with fail;refine d1.mono ?_;rintro e w1 ⟨⟨v1,b,bi,rfl,h1⟩,b1⟩;obtain⟨wZ,W1,hZ,nZ,T,X1,f1⟩:=nbs w1 #[ag 0,ag 0] #[ag b,ag bi] 26;have z1:W1.cell? (ae w1.heap.size 0)=some (ag b):=cr 0 f1 rfl;have a:=au b0 b1;have b8:=aG a;have B1:=aG X1;clear d1 b0 b1
 have hv: ∃p n c,v1= .slice p n c:=by
  by_cases A:b=0
  ·subst A;obtain⟨us,r1,_⟩:=vR h1;obtain⟨p,c,e⟩:=dy r1.own;exact⟨p,_,c,e⟩
  ·exact⟨none,0,0,Js h1 A⟩
 obtain⟨p1,n1,k1,rfl⟩:=hv;by_cases hA:b=0/\0<=day/\day<146097;rotate_left 1
 ·have Q:=aG (au a X1)
  have H:(b !=0)=true\/((b !=0)=false/\day<0)\/((b !=0)=false/\ ¬day<0/\146097<=day):=by
   by_cases A:b=0
   ·subst A;by_cases L:day<0
    ·exact .inr (.inl ⟨rfl,L⟩)
    ·exact .inr (.inr ⟨rfl,L,by omega⟩)
   ·exact .inl (by simpa using A)
  clear hA h1 a X1 f1;rcases H with L|⟨L,h3⟩|⟨L,h3,B⟩
  all_goals
   go_wp2_with(refine aC rfl 26 _ _ rfl _ _ rfl rfl _ _ nZ (by kernel_rfl) rfl (by simp[Value.oneCell']) ?_;rw[T])
   go_ret
   exact⟨rfl,Q.o⟩
 obtain⟨rfl,ay,az⟩:=hA;obtain⟨us,r1,ar,af,d,ad⟩:=vR h1;have i1:=AF r1 ar ad;obtain⟨p9,k9,e9⟩:=dy r1.own;injection e9 with bk en bl;subst bk en bl;obtain⟨l,hl⟩:=aq (us.map (fun p=>p.1));have P:l.length=us.length:=by rw[<-hl,bm]
 have c2:=D5 us _ day W1 (i1.below X1);unfold wl at c2;rw[hl]at c2 af d;have n2: ¬day<0:=by omega
 have n3: ¬146097<=day:=by omega
 have HL:=aG hl;have al:=aG P;have R:=aG af;have aT:=aG d;have HI:=aG i1;have be:=aG ad;obtain⟨n,hn⟩:=aq us.length;rw[hn]at c2 HI al⊢;have am:=aG (show n<=40 by omega);have HD:=aG (jv ay az);clear h1 r1 i1 hl P af d ad ar hn ay az;obtain⟨er,Z⟩:=aq ((md l day).1);obtain⟨bh,O⟩: ∃x:Int,((md l day).2:Int)=x:=⟨_,rfl⟩
 rw[Z,O]at c2;have aY:=aG Z;clear Z O;go_wp2_with(refine aC rfl 26 _ _ rfl _ _ rfl rfl _ _ nZ (by kernel_rfl) rfl (by simp[Value.oneCell']) ?_;rw[T])
 refine c2.mono ?_;rintro e w2 ⟨vm,rfl,hm,b2⟩;obtain⟨W2,g2,i,y,f2,_⟩:=sI X1 f1 (aA _) b2 er bh;have z2:W2.cell? (ae w1.heap.size 0)=some (ag er):=cr 0 f2 rfl;have u:vt W2 vm (lS l day):=i▸yF hm g2;obtain⟨pM,cM,rfl,_,_⟩:=id hm;clear c2 nZ hZ T z1 X1 f1 b2 hm;by_cases A:er=0;rotate_left 1
 ·have bw:(er !=0)=true:=by simpa using A
  have Q:=aG (au a y);clear A a y f2 u;go_wp2_with(refine aC rfl 26 _ _ rfl _ _ rfl rfl _ _ g2 (by kernel_rfl) rfl (by simp[Value.oneCell']) ?_;rw[i])
  go_ret;exact⟨rfl,Q.o⟩
 subst A;obtain⟨aw,a6⟩:=Sy aY.o;obtain⟨n5,ac⟩:=aq ((lS l day).length);rw[ac]at u⊢;have aX:=aG aw;have bc:=aG a6;have X:=au a y;have C:PTb W2.heap.size W2:=fun w' hw=>bf.o w' (au X hw);have bd:=aG ac;clear aw a6 n2 n3 ac;by_cases h6:6000<(eR l).length
 ·have c3:=Jt (HI.o.below y) C (by rw[HL.o];exact R.o) (by rw[HL.o];exact h6);clear C h6;go_wp2_with(refine aC rfl 26 _ _ rfl _ _ rfl rfl _ _ g2 (by kernel_rfl) rfl (by simp[Value.oneCell']) ?_;rw[i])
  refine c3.mono ?_;rintro e w3 ⟨rfl,b3⟩;obtain⟨W3,g3,t,X3,f3,_⟩:=sI y f2 (aA _) b3 4 0;have z3:=cr 0 f3 rfl;have Q:=aG (au a X3);clear c3 b3 a X y X3 f2 f3 z2 g2 i u;go_wp2_with(refine aC rfl 26 _ _ rfl _ _ rfl rfl _ _ g3 (by kernel_rfl) rfl (by simp[Value.oneCell']) ?_;rw[t])
  go_ret;exact⟨rfl,Q.o⟩
 have c3:=Ju (HI.o.below y) C (by rw[HL.o];exact R.o) (by rw[HL.o];exact h6);rw[HL.o]at c3;clear C;go_wp2_with(refine aC rfl 26 _ _ rfl _ _ rfl rfl _ _ g2 (by kernel_rfl) rfl (by simp[Value.oneCell']) ?_;rw[i])
 refine c3.mono ?_;rintro e w3 ⟨rfl,b3⟩;obtain⟨W3,g3,t,X3,f3,_⟩:=sI y f2 (aA _) b3 0 0;have z3:=cr 0 f3 rfl;have a5:vt W3 (.slice pM n5 cM) (lS l day):=t▸yF (T5 u b3) g3;have Y:=au a X3;have c4:=uO ⟨(eR l).toArray⟩ _ rfl (by simp;omega) W3 (HT.o W3 Y).1 (HT.o W3 Y).2.1;have bu:=aH f3;clear c3 b3 X y f2 z2 g2 i u;go_wp2_with(refine aC rfl 26 _ _ rfl _ _ rfl rfl _ _ g3 (by kernel_rfl) rfl (by simp[Value.oneCell']) ?_;rw[t])
 refine c4.mono ?_;rintro e w4 ⟨⟨v2,bA,bj,rfl,L⟩,b4⟩;obtain⟨rfl,J,r2,N,g⟩:=F7 (by rw[R.o]) (by omega) L;obtain⟨W4,g4,U,X4,f4,a9⟩:=sI X3 f3 (aA _) b4 0 bj;have z4:W4.cell? (ae w1.heap.size 0)=some (ag 0):=cr 0 f4 rfl;have aa:vt W4 (.slice pM n5 cM) (lS l day):=U▸yF (T5 a5 b4) g4;have D:=au a X4;obtain⟨p2,k2,rfl⟩:=dy r2.own;have aO:kZ W3 W4 (.slice p2 J.length k2) J:=r2.later (fun k hk=>a9 k (by omega)) (aA _);rw[aT.o]at g;have i2:=AF aO N (be.o.same (by rw[HL.o];exact g));have c5:=FB J _ W4 i2 (HT.o W4 D).2.2;unfold RN at c5;rw[g]at c5;generalize J.length=n2 at c5⊢;clear c4 L b4 Y X3 f3 z3 g3 t a5 r2 aO i2 g N bu h6 a9;go_wp2_with(refine aC rfl 26 _ _ rfl _ _ rfl rfl _ _ g4 (by kernel_rfl) rfl (by simp[Value.oneCell']) ?_;rw[U])
 refine c5.mono ?_;rintro e w5 ⟨vc,rfl,hI,hN,b5⟩;clear c5 g4 U;obtain⟨wY,W5,hY,nY,V,z,f5⟩:=nbs w5 #[ag 0,ag 0] #[ag (fU l).1,ag (fU l).2] 26;have r:=au b5 z;have z4:=aj r z4;have E:=au D r;have y0:=cr 0 f5 rfl;rcases Sx aX.o with B|B;rotate_left 1
 ·obtain rfl:=hN (by rw[B];decide);replace y0:W5.cell? (ae w5.heap.size 0)=some (ag 4):=(by rw[y0];show some (ag (fU l).1)=_;rw[B]);have Q:=aG E;clear B hI hN z r b5 E D X4 f4 f5 aa a;go_wp2_with(refine aC rfl 26 _ _ rfl _ _ rfl rfl _ _ nY (by kernel_rfl) rfl (by simp[Value.oneCell']) ?_;rw[V])
  go_ret;exact⟨rfl,Q.o⟩
 have I:=(hI (by rw[B])).below z;obtain⟨pC,kC,br,_,_⟩:=I.form;subst br;replace y0:W5.cell? (ae w5.heap.size 0)=some (ag 0):=by rw[y0];show some (ag (fU l).1)=_;rw[B]
 obtain⟨n7,a7⟩:=aq ((eZ l).length);rw[a7]at I⊢;have aZ:=aG I;have HM:=aG (T5 aa r);have aP:=aG E;have aW:=aG B;have b7:=am.o;clear hI hN z r b5 E D X4 f4 f5 aa a I B a7;go_wp2_with(refine aC rfl 26 _ _ rfl _ _ rfl rfl _ _ nY (by kernel_rfl) rfl (by simp[Value.oneCell']) ?_;rw[V])
 clear y0 z4 nY hY V;go_loopw [12,13,14,15,79] (fun _ _ _ _ q wr=> ∃j:Nat,q=ag (j:Int)/\j<=n/\ao W5 wr) (fun _ _ _ _ q _=>n-(intOf q).toNat);case atStart=>exact⟨0,rfl,dU _,aF _ _⟩
 case round=>
  obtain⟨j,rfl,hj,m⟩:=hrel;have bC:(0:Int)<=(j:Int):=(by omega);by_cases bv:j<n
  ·have a4:(j:Int)<(n:Int):=(by omega);have a1:j<l.length:=(by rw[al.o];exact bv);obtain⟨hE,hM⟩:=El aW.o a1 HD.o.1 HD.o.2;have cV:=xU (eZ l) (.slice pC n7 kC) (j:Int) day wr (aZ.o.below m);unfold CS at cV;have G:=Oo bc.o a1;have a0:=(aE.1 G).1;rw[bd.o]at a0;rw[hE,hM]at cV;obtain⟨f,hf⟩:=aq (gL l (wkB day) day j);rw[hf]at cV G;obtain⟨x0,aL⟩: ∃q:Int,((je (eZ l) (j:Int) day).2:Int)=q:=⟨_,rfl⟩
   obtain⟨x1,aM⟩: ∃q:Int,(uY (eZ l) (j:Int) day:Int)=q:=⟨_,rfl⟩
   rw[aL,aM]at cV;obtain⟨bD,b9,bs,_,aB⟩:=T5 HM.o m;obtain⟨gM,oM,bq,rM⟩:=aB j f G;injection bs with bn bo bp;clear bo;subst bn bq bp;have bB:(j:Int)<(n5:Int):=(by omega);have ak:=aG m;clear hE hM G a0 hf aL aM aB m;go_wp2_with fail;refine cV.mono ?_;rintro e w6 ⟨rfl,b6⟩;obtain⟨wa,ha,ba,na⟩:=nb w6 (mv fun _=>false) 39;obtain⟨wb,v,bb,aN⟩:=nb wa #[ag 0,ag 0] 26;have bx:wa.heap.size=w6.heap.size+1:=(by rw[<-ha];simp);have ai:=bt bb na;obtain⟨wc,hc⟩:=aq (wb.setRow w6.heap.size (mv f));have nc:wc.heap[w6.heap.size]? =ah (mv f) 39:=hc▸aK _ _ _ _ _ _ ai;have nf:wc.heap[wa.heap.size]? =ah #[ag 0,ag 0] 26:=hc▸(aQ wb _ _ _ (by omega)).trans aN;obtain⟨wR,hR⟩:=aq (wc.setRow wa.heap.size #[ag 0,ag x0]);have nM:wR.heap[w6.heap.size]? =ah (mv f) 39:=hR▸(aQ wc _ _ _ (by omega)).trans nc;have zF:wR.cell? (ae wa.heap.size 0)=some (ag 0):=cr 0 (hR▸aK _ _ _ _ _ _ nf) rfl;have ap:=(au ba bb)
   have an:ao w6 wR:=hR▸below_setRow (hc▸below_setRow ap (aA _) _) (by omega) _;have S:=au b6 an;replace rM:=gU rM S;have aV:=aG (au ak.o S);clear cV b6 ba bb na aN ap an S nc bx;go_upto_region 20 with(first|(refine aC rfl 39 _ _ rfl _ _ rfl rfl _ _ ai (bg _) (by simp[bU]) (dI _) ?_;rw[hc])|(refine aC rfl 26 _ _ rfl _ _ rfl rfl _ _ nf (by kernel_rfl) rfl (by simp[Value.oneCell']) ?_;rw[hR]))
   clear ha v ai hc nf hR;refine dH (fun _ _ W=>ao wR W) [kn 90 (ab wa.heap.size 0),kn 91 (ag 0),kn 92 (.bool false),kn 93 (.bool false),kn 94 (.agg (mv f)),kn 95 (.slice (some (ae gM oM)) n5 cM),kn 96 (ag (j:Int)),kn 97 (ab gM (oM+j*23)),kn 98 (.agg (mv f)),kn 99 (.bool false),kn 100 (.bool false)] (fun _=>(aF _ _).drew) (fun _ _ _ _ v h=>au h v) (by kernel_rfl) ?_ ?_
   ·rintro M φ W v _ F l hl hF;have zF:=aj v zF;have rM:=gU rM v;have nM:=bt v nM;simp only[kn,d6,aR,a8,Act.put,aD,aJ,aI]at hl;subst hl;simp only[dz,Nat.reduceAdd]at hF;dsimp only[kn,dK,fo,eD,Act.put];and_intros;all_goals first|exact trivial|intro hw hn hm K hK
    all_goals try (go_simp;with_reducible exact hK _ _ ⟨rfl,aF _ _⟩)
    ·rw[ax (wnT rfl rfl (by simp[hF]))];exact fh 39 _ rfl w6.heap.size (by simp[Act.eval,hF]) _ _ _ _ nM cj rfl (bg _) (hK _ _ ⟨rfl,aF _ _⟩)
    ·rw[ax (wnT rfl rfl (by simp[hF]))];exact vq _ rfl gM (oM+j*23) (by simp[Act.eval,hF]) f rM (hK _ _ ⟨rfl,aF _ _⟩)
    ·have bw: ∀W,(binOp .neq 39 (.agg (mv f)) (.agg (mv f))).run prog W= .ok (.bool false) W:=fun W=>(by rw[M9,DN fun _ _=>rfl];rfl);go_simp;exact hK _ _ ⟨rfl,aF _ _⟩
   ·rintro M φ wS hM v;simp only[kn,ep,aR,a8,Act.put,aD,aJ,aI];have aU:=aG (au aV.o v);clear v nM zF rM;go_wp2_with fail;go_roundw;case rel=>exact⟨j+1,by go_num,by omega,aU.o⟩
    case measure=>simp[intOf];omega
  ·have a4: ¬(j:Int)<(n:Int):=(by omega);have aS:=aG (au aP.o m);clear m;go_wp2_with fail;go_ret;exact⟨rfl,aS.o⟩
section
open Go.ChangeShapes Go.WideShapes Go.ChangeAt Go.WideMaps Go.WideElems Go.Joins
abbrev wQ:List (String×DataW Unit):=Rows.topTextRow.laid
def OJ:String:=(Rows.topTextRow.laid.getD 1 default).1
def Sz:String:=(Rows.topTextRow.laid.getD 3 default).1
def TU:String:=(Rows.topTextRow.laid.getD 4 default).1
def sJ:List Int:=Lib.deBruijn64tab.map fun(n:Nat)=>(n:Int)
theorem TV:ownKnob prog.godebug=none:=by kernel_rfl
theorem Md:prog.globalNamed OJ=some 2:=by kernel_rfl
theorem SA:(prog.globals[2]?).map (·.type)=some 272:=by kernel_rfl
theorem OK:prog.globalNamed Sz=some 1:=by kernel_rfl
theorem To:(prog.globals[1]?).map (·.type)=some 263:=by kernel_rfl
theorem OL:prog.globalNamed TU=some 0:=by kernel_rfl
theorem Tp:(prog.globals[0]?).map (·.type)=some 217:=by kernel_rfl
theorem cIK:prog.cellsOf 3=1:=by kernel_rfl
theorem cBK:prog.cellsOf 5=1:=by kernel_rfl
theorem cTK:prog.cellsOf 272=64:=by kernel_rfl
theorem cLK:prog.cellsOf 263=12:=by kernel_rfl
theorem cSK:prog.cellsOf 9=1:=by kernel_rfl
theorem cDK:prog.cellsOf 217=7:=by kernel_rfl
theorem Mf (os:Os)(a:Array Value):laidMetH prog wQ ((World.doorLaid prog 400 os).forCall (fun _ _=>0) ⟨#[],a,[]⟩).memory:=
 laidMetH_of_parts3 (fuel:=8) (laidMet_of_run' 8 (by kernel_rfl) (by kernel_rfl)) (by kernel_rfl) (by kernel_rfl)
theorem Mg {H:Type}{j:TypeId×Value->H}{P:Program}{w:World}{f:Nat}{sp:Nat->Bool}{held:Bool}{t e:TypeId}{n:Nat}{g:List Value}{zs:List (List UInt8)}{p:List MemPlace}(G:P.underlying t=some (.array n e))(D:P.underlying e=some .string)(k:P.cellsOf e=1)(m:P.cellsOf t=n):
  ∀c,DataW.trod j P w f sp held c t g=some (.agg (zs.map fun z=> .lit (.string z)),p)-> ∀(i:Nat) (z:List UInt8),zs[i]? =some z->g[i]? =some (.string ⟨z.toArray⟩)
 |0,h,_,_,_=>by simp[DataW.trod]at h
 |c+1,h,i,z,J=>by
  simp only[DataW.trod,G,k,m,Nat.mul_one]at h;split at h
  ·obtain⟨xs,u,I⟩:=eU.1 h;have v:xs.map (fun x=>x.1)=zs.map fun z=>(DataW.lit (.string z):DataW H):=(by simpa using congrArg Prod.fst I);have r:(xs.map fun x=>x.1)[i]? =some (DataW.lit (.string z):DataW H):=(by rw[v,bf,J];rfl);rw[bf]at r;obtain⟨x,d,q⟩:=eU.1 r
   have o:i<n:=by
    have a:=(aE.1 d).1;have b:=Lib.mapM_length u;simp at b;omega
   obtain⟨b,B,E⟩:=Lib.mapM_at u i i (by simp[o]);obtain⟨s,C,rfl,_⟩:=DataW.trod_string D E;rw[B]at d;obtain rfl:=ay d;have F:s.data.toList=z:=(by simpa using q);have y:=congrArg (fun l:List Value=>l[0]?) C;have A:g[i]? =some (.string s):=(by simpa[gC,List.getElem?_drop] using y);rw[A,<-F]
  ·cases h
theorem SB:prog.globalNamed G4=some 4:=by kernel_rfl
theorem TW:(prog.globals[4]?).map (·.type)=some 290:=by kernel_rfl
theorem cU5:prog.cellsOf 37=1:=by kernel_rfl
theorem cP5:prog.cellsOf 290=20:=by kernel_rfl
theorem CM {W:World}(h:laidMetH prog wQ W):Tab W/\fL W/\oA W/\yD W:=by
 rw[MakeChecks.laidMetH_plain _ _ _ (by kernel_rfl)]at h;obtain⟨Q,⟨_,_,_,_,_,_,_,_,_,_,⟨I,t1,z,c,M,R,m,q,v,f,⟨L,X,C,e,P,U,p,u,y,l,⟨J,t2,A,d,N,S,n,r,w,g,⟨K,V,B,a,O,T,o,s,x,k,_,_⟩,_⟩,_⟩,_⟩,_⟩,_⟩:=h;obtain rfl:=ay (Md.symm.trans m);obtain rfl:=ay (SA.symm.trans q);obtain rfl:=ay (SB.symm.trans p);obtain rfl:=ay (TW.symm.trans u);obtain rfl:=ay (OK.symm.trans n);obtain rfl:=ay (To.symm.trans r);obtain rfl:=ay (OL.symm.trans o);obtain rfl:=ay (Tp.symm.trans s);refine⟨?_,?_,?_,?_⟩
 ·have b:=Lib.cells_of_tab (zs:=sJ) underlying272 underlying5 cBK cTK f
  have t:Lib.TabIs prog W OJ .u8 sJ:=by
   unfold Lib.TabIs;rw[<-b];exact v
  intro i hi;have:=t.cell Md i (by simpa[sJ,Lib.deBruijn64tab] using hi);rw[this];have G:i<Lib.deBruijn64tab.length:=(by simpa[Lib.deBruijn64tab] using hi);simp[sJ,List.getD,G]
 ·have D:=Lib.cells_of_tab (zs:=tab) underlying263 underlying3 cIK cLK g
  have t:Lib.TabIs prog W Sz .i64 tab:=by
   unfold Lib.TabIs;rw[<-D];exact w
  intro i hi;exact t.cell OK i (by simpa[tab] using hi)
 ·intro j F
  have H:dO[j]? =some (dO.getD j []):=by
   rw[eE,az (by exact F)];rfl
  have E:=Mg (zs:=dO) underlying217 underlying9 cSK cDK a k j _ H;have:=World.var?_cell OL x j;rw[this];simpa using E
 ·have b:=Lib.cells_of_tab (zs:=Lib.pow10Tab) underlying290 underlying37 cU5 cP5 l;unfold yD Lib.TabIs;rw[<-b];exact y
theorem E5 {W:World}(h:laidMetH prog wQ W):Tbs W.heap.size W/\PTb W.heap.size W:=by
 obtain⟨a,b,c,d⟩:=CM h;have g: ∀e,ao W e->fL e/\oA e/\Tab e:=fun e f=>⟨fun i hi=>(f.cell (aU (b i hi))).trans (b i hi),fun i hi=>(f.cell (aU (c i hi))).trans (c i hi),fun i hi=>(f.cell (aU (a i hi))).trans (a i hi)⟩
 exact⟨g,fun e f=>⟨(g e f).1,(g e f).2.1,tab_stays SB d f (aA _)⟩⟩
end
end Go.Proofs.YtpdoienkhgnceaaGreatDoor
