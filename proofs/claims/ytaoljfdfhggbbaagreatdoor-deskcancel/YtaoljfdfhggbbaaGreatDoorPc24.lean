/- Texts of the proof. -/
import Derived.Test.YtaoljfdfhggbbaaGreatDoorPc23
import Derived.Deep.OwnRows
import Derived.Laws.EntriesVeiled
import Derived.Deep.Cut
set_option maxRecDepth 100000
set_option maxHeartbeats 8000000
namespace Go.Proofs.YtaoljfdfhggbbaaGreatDoor
open Go.Proofs.Tryz Go.RowKit Lx Vx Mx Msk
theorem AM:prog.underlying 128=some (.map 9 3):=by kernel_rfl
theorem si:prog.underlying 9=some .string:=by kernel_rfl
theorem zu (k:Value)(e:MapEntry): ∀(a:List MapEntry) (i:Nat),Instr.findNow .string k (a++[e]) i=match Instr.findNow .string k a i with
  |some (some r)=>some (some r)
  |some none=>(match Instr.sameNow .string k e.key with|some true=>some (some (i+a.length,e.val))|some false=>some none|none=>none)
  |none=>none
 |[],i=>by
  simp only[List.nil_append,Instr.findNow,gK,Nat.add_zero];cases Instr.sameNow .string k e.key with
  |none=>rfl
  |some b=>cases b<;>rfl
 |x::a,i=>by
  simp only[List.cons_append,Instr.findNow];cases Instr.sameNow .string k x.key with
  |none=>rfl
  |some b=>
   cases b with
   |true=>rfl
   |false=>
    have:=zu k e a (i+1);rw[this];simp only[bJ];rw[show i+1+a.length=i+(a.length+1) by omega]
def EsN (a:List MapEntry)(l:List Ru):Prop:= ∀x:List UInt8,(0<=atP5 l x/\ ∃i,Instr.findNow .string (.string ⟨x.toArray⟩) a 0=some (some (i,ag (atP5 l x))))\/(atP5 l x= -1/\Instr.findNow .string (.string ⟨x.toArray⟩) a 0=some none)
def jk (w:World)(b:Nat)(l:List Ru):Prop:= ∃a c,w.heap[b]? =some (.map a c)/\EsN a.toList l
theorem jk.later {w w':World}{b:Nat}{l:List Ru}(h:jk w b l)(f:w'.heap[b]? =w.heap[b]?):jk w' b l:=by
 obtain⟨a,c,d,e⟩:=h;exact⟨a,c,f.trans d,e⟩
theorem gW {w:World}{b:Nat}{l:List Ru}(h:jk w b l):b<w.heap.size:=by
 obtain⟨d,c,a,_⟩:=h;exact(di.1 a).1
theorem vL: ∀(l:List Ru) (i:Nat) (u:Ru) (x:List UInt8),atF (l++[u]) i x=if 0<=atF l i x then atF l i x else if u.1=x then((i+l.length:Nat):Int) else-1
 |[],i,u,x=>by simp[atF]
 |v::l,i,u,x=>by
  have:=vL l (i+1) u x;have a:atF (v::l++[u]) i x=if v.1=x then(i:Int) else atF (l++[u]) (i+1) x:=rfl;have e2:atF (v::l) i x=if v.1=x then(i:Int) else atF l (i+1) x:=rfl;by_cases h:v.1=x
  ·rw[aD h]at a e2;rw[a,e2,aD (by omega)]
  ·rw[ax h]at a e2;rw[a,e2,this,bJ,show i+1+l.length=i+(l.length+1) by omega]
theorem Jt (x y:List UInt8):Instr.sameNow .string (.string ⟨x.toArray⟩) (.string ⟨y.toArray⟩)=some (decide (x=y)):=by
 have e:((⟨x.toArray⟩:ByteArray)==⟨y.toArray⟩)=decide (x=y):=by
  show(x.toArray==y.toArray)=_;by_cases h:x=y
  ·subst h;simp
  ·simp[h]
 simp[Instr.sameNow,e]
theorem EsN.taken {b:List MapEntry}{l:List Ru}{u:Ru}(h:EsN b l)(c:0<=atP5 l u.1):EsN b (l++[u]):=fun x=>by
 have e:atP5 (l++[u]) x=atP5 l x:=by
  unfold atP5 at*;rw[vL];split
  ·rfl
  ·rename_i d;have a:u.1≠x:=fun e=>(by subst e;exact d c);rw[ax a];have:=xk l 0 x;omega
 rw[e];exact h x
theorem EsN.push {f:List MapEntry}{l:List Ru}{u:Ru}{c:Nat}(h:EsN f l):EsN (f++[⟨.string ⟨u.1.toArray⟩,ag (l.length:Int),c⟩]) (l++[u]):=fun x=>by
 rw[zu]
 have e:atP5 (l++[u]) x=if 0<=atP5 l x then atP5 l x else if u.1=x then(l.length:Int) else-1:=by
  unfold atP5;rw[vL,bN]
 rcases h x with⟨a,i,b⟩|⟨a,b⟩
 ·rw[aD a]at e;rw[b,e];exact .inl ⟨a,i,rfl⟩
 ·rw[ax (by omega)]at e;rw[b];dsimp only;rw[Jt];by_cases d:x=u.1
  ·subst d;rw[aD rfl]at e;rw[e,bm rfl];exact .inl ⟨by omega,_,rfl⟩
  ·rw[ax (fun e=>d e.symm)]at e;rw[e,bn d];exact .inr ⟨rfl,rfl⟩
theorem EsN.nil:EsN [] []:=fun _=> .inr ⟨rfl,rfl⟩
theorem KN {w:World}{b:Nat}{l:List Ru}(h:jk w b l)(x:List UInt8):(Instr.lookup 128 (.map (some b)) (.string ⟨x.toArray⟩) true).run prog w= .ok (.tuple #[ag (if 0<=atP5 l x then atP5 l x else 0),.bool (decide (0<=atP5 l x))]) w:=by
 obtain⟨m,c,e,g⟩:=h;have f: ∀z,(Instr.checkKey z 10000 9 (.string ⟨x.toArray⟩)).run prog w= .ok () w:=fun z=>MapKept.run_checkKey (k:= .string _) si (by simp[MapKept.IsKey]) z 9999;have j:(zeroValue 3).run prog w= .ok (ag 0) w:=by kernel_rfl
 rcases g x with⟨a,i,d⟩|⟨a,d⟩
 ·simp[Instr.lookup,fR AM,fN e,f,gH si d,Result.andThen,a]
 ·simp[Instr.lookup,fR AM,fN e,f,gH si d,j,Result.andThen,a]
theorem EP {w:World}{b:Nat}{l:List Ru}(h:jk w b l)(x:List UInt8)(m:0<=atP5 l x):(Instr.lookup 128 (.map (some b)) (.string ⟨x.toArray⟩) false).run prog w= .ok (ag (atP5 l x)) w:=by
 obtain⟨j,c,f,e⟩:=h;have g: ∀z,(Instr.checkKey z 10000 9 (.string ⟨x.toArray⟩)).run prog w= .ok () w:=fun z=>MapKept.run_checkKey (k:= .string _) si (by simp[MapKept.IsKey]) z 9999;rcases e x with⟨d,i,a⟩|⟨d,a⟩
 ·simp[Instr.lookup,fR AM,fN f,g,gH si a,Result.andThen]
 ·omega
theorem Pl {w:World}{b:Nat}{l:List Ru}{u:Ru}(h:jk w b l)(m:atP5 l u.1= -1): ∃o,(Instr.mapUpdate 128 (.map (some b)) (.string ⟨u.1.toArray⟩) (ag (l.length:Int))).run prog w= .ok () (xl w b o)/\jk (xl w b o) b (l++[u]):=by
 obtain⟨a,c,d,e⟩:=h;have g:(Instr.checkKey false 10000 9 (.string ⟨u.1.toArray⟩)).run prog w= .ok () w:=MapKept.run_checkKey (k:= .string _) si (by simp[MapKept.IsKey]) false 9999
 have i:Instr.findNow .string (.string ⟨u.1.toArray⟩) a.toList 0=some none:=by
  rcases e u.1 with⟨j,_⟩|⟨_,f⟩
  ·omega
  ·exact f
 refine⟨.map (a.push ⟨.string ⟨u.1.toArray⟩,ag (l.length:Int),c⟩) (c+1),?_,a.push ⟨.string ⟨u.1.toArray⟩,ag (l.length:Int),c⟩,c+1,(MapKept.heap_set d).1,?_⟩
 ·simp[Instr.mapUpdate,fR AM,fN d,g,gH si i,MapKept.run_setObj_map _ d,Result.andThen,xl]
 ·rw[Array.toList_push];exact e.push
theorem GS (n:Nat)(_:n<9223372036854775808)(w:World):(Instr.makeMap 128 (some (ag (n:Int)))).run prog w= .ok (.map (some w.heap.size)) (w.alloc (.map #[] 0)):=by
 unfold Instr.makeMap;simp[go_sem]
def EQ (a:List (Ru×Value))(w:World)(r:Ending)(w':World):Prop:= ∃b,r= .returned (.map (some b))/\w.heap.size<=b/\jk w' b (a.map (fun p=>p.1))/\aq w w'
def Pm (a:List (Ru×Value))(w:World)(t:Value)(wr:World):Prop:= ∃j:Nat,t=ag (j:Int)/\j<=a.length/\jk wr w.heap.size ((a.map (fun p=>p.1)).take j)/\aq w wr
theorem oR (f:List (Ru×Value))(v:Value)(w:World)(h:InR w v f):Calls prog 60 #[v] w (EQ f w):=by
 obtain⟨pv,cv,rfl⟩:=h.form;have X:=aF h.cells;have B:=h.len
 have V:PN (∀p∈f,∃q n c,p.2= .slice q n c):=fun p hp=>by
  obtain⟨_,_,d,hd⟩:=h.all p hp;obtain⟨q,c,e⟩:=hd.form;exact⟨q,_,c,e⟩
 clear h;have z:=am w (.map #[] 0);have E:jk (w.alloc (.map #[] 0)) w.heap.size []:=⟨#[],0,(MapKept.heap_alloc w _).1,EsN.nil⟩
 have ab:=fun W=>GS f.length B W;go_enter func60,ntmps60;go_wp2_with fail;go_loopw [4,5,6,7,13] (fun _ _ _ _ t wr=>Pm f w t wr) (fun _ _ _ _ t _=>f.length-(intOf t).toNat);case atStart=>exact⟨0,rfl,by omega,E,z⟩
 case round=>
  obtain⟨j,rfl,hj,y,i⟩:=hrel;clear z E;have aa:(0:Int)<=(j:Int):=(by omega);by_cases Q:j<f.length
  ·have D:(j:Int)<(f.length:Int):=(by omega);obtain⟨⟨u,sk⟩,m⟩: ∃p,f[j]? =some p:=⟨f[j],az Q⟩
   have r:(f.map (fun p=>p.1)).take (j+1)=(f.map (fun p=>p.1)).take j++[u]:=by
    have S:(f.map (fun p=>p.1))[j]? =some u:=(by rw[bg,m];rfl);rw[fD,S];rfl
   have x:((f.map (fun p=>p.1)).take j).length=j:=(by simp;omega);obtain⟨g,o,R,c0,c1,L,M,N,O⟩:=X.o j _ m;obtain⟨J,I,H,G⟩:=V.o _ (aM m);dsimp only at c0 c1 L M N O G;subst G R;have d0:=aj i c0;have d1:=aj i c1;have d2:=aj i L;have d3:=aj i M;have d4:=aj i N;have d5:=aj i O;have A:=i.alloc i.size (.cells #[.string ⟨u.1.toArray⟩,ag u.2.kind,ag u.2.a,ag u.2.b,.string ⟨u.2.name.toArray⟩,.slice J I H] 104);have U:=aE wr (.cells #[.string ⟨u.1.toArray⟩,ag u.2.kind,ag u.2.a,ag u.2.b,.string ⟨u.2.name.toArray⟩,.slice J I H] 104);have l:jk (wr.alloc (.cells #[.string ⟨u.1.toArray⟩,ag u.2.kind,ag u.2.a,ag u.2.b,.string ⟨u.2.name.toArray⟩,.slice J I H] 104)) w.heap.size ((f.map (fun p=>p.1)).take j):=y.later (dL _ _ _ (gW y));have C:=KN l u.1;clear m c0 c1 L M N O y;generalize ac:wr.alloc (.cells #[.string ⟨u.1.toArray⟩,ag u.2.kind,ag u.2.a,ag u.2.b,.string ⟨u.2.name.toArray⟩,.slice J I H] 104)=wB at*;have z0:=ak 0 U;by_cases s:0<=atP5 ((f.map (fun p=>p.1)).take j) u.1
   ·rw[aD s,bm s]at C
    have k:jk wB w.heap.size ((f.map (fun p=>p.1)).take (j+1)):=by
     obtain⟨es,c,h1,h2⟩:=l;rw[r];exact⟨es,c,h1,h2.taken s⟩
    generalize atP5 ((f.map (fun p=>p.1)).take j) u.1=n at*;have K:=aF k;clear l r x k s;go_wp2_with fail;go_roundw;case rel=>exact⟨j+1,by go_num,by omega,K.o,A⟩
    case measure=>simp[intOf];omega
   ·rw[ax s,bn s]at C
    have F:atP5 ((f.map (fun p=>p.1)).take j) u.1= -1:=by
     have:=(ol ((f.map (fun p=>p.1)).take j) u.1).1;omega
    obtain⟨ob,T,k⟩:=Pl l F;rw[x]at T;rw[<-r]at k;have P:=CT A (aB _) ob;have K:=aF k;clear l r x k s F;go_wp2_with fail;go_roundw;case rel=>exact⟨j+1,by go_num,by omega,K.o,P⟩
    case measure=>simp[intOf];omega
  ·have Y:j=f.length:=(by omega);have D: ¬(j:Int)<(f.length:Int):=(by omega)
   have Z:PN (EQ f w (.returned (.map (some w.heap.size))) wr):=by
    refine⟨w.heap.size,rfl,aB _,?_,i⟩;rw[Y,cQ (by simp)]at y;exact y
   clear y X V Y;go_wp2_with fail;go_ret;exact Z.o
def fF (n:Nat)(m:Nat->Bool):Array Value:=((List.range n).map fun i=>Value.bool (m i)).toArray
theorem mN {n:Nat}{m:Nat->Bool}{i:Nat}(h:i<n):(fF n m)[i]? =some (.bool (m i)):=by
 simp[fF,h]
theorem xm {n:Nat}{m:Nat->Bool}{i:Nat}:(fF n m).setIfInBounds i (.bool true)=fF n (upd m i):=by
 apply Array.ext
 ·simp[fF]
 ·intro k c a;have b:k<n:=(by simpa[fF] using a);rw[Array.getElem_setIfInBounds (by simpa[fF] using b)];by_cases e:i=k
  ·subst e;simp[fF,upd]
  ·rw[ax e];simp[fF,upd,show k≠i from fun h=>e h.symm]
theorem vm (n:Nat):madeCells #[Value.bool false] n=fF n (fun _=>false):=by
 apply Array.ext
 ·simp[fF,madeCells]
 ·intro k a b;simp[fF,madeCells,Nat.mod_one]
structure sm (w:World)(so:Value)(n:Nat)(S:Nat->List Nat):Prop where
 form: ∃p c,so= .slice p n c/\ ∀i,i<n-> ∃(g o:Nat) (v:Value),p=some ⟨g,o,none⟩/\w.cell? (ae g (o+i))=some v/\dS w v ((S i).map fun k:Nat=>(k:Int))
 lt: ∀i,∀k∈S i,k<n
theorem sm.below {w w':World}{b:Value}{n:Nat}{S:Nat->List Nat}(h:sm w b n S)(a:aq w w'):sm w' b n S:=by
 obtain⟨p,c,d,f⟩:=h.form;refine⟨⟨p,c,d,fun i hi=> ?_⟩,h.lt⟩;obtain⟨g,o,v,e,j,k⟩:=f i hi;exact⟨g,o,v,e,aj a j,k.below a⟩
structure FSt (w:World)(n:Nat)(so:Value)(m:Nat->Bool)(wr:World):Prop where
 bel:aq w wr
 b1:wr.heap[w.heap.size]? =ah #[so] 27
 marks:wr.heap[w.heap.size+1]? =ah (fF n m) 4
 b2:wr.heap[w.heap.size+1+1]? =ah #[.slice (some (ae (w.heap.size+1) 0)) n n] 132
 b3:wr.heap[w.heap.size+1+1+1]? =ah #[.func (.func 89) #[] #[ab w.heap.size 0,ab (w.heap.size+1+1) 0,ab (w.heap.size+1+1+1) 0]] 170
theorem FSt.set {w wr:World}{n:Nat}{b:Value}{m:Nat->Bool}(h:FSt w n b m wr)(i:Nat):FSt w n b (upd m i) (wr.setCell ⟨w.heap.size+1,i,none⟩ (.bool true)):=by
 have a: ∀q,q≠w.heap.size+1->(wr.setCell ⟨w.heap.size+1,i,none⟩ (.bool true)).heap[q]? =wr.heap[q]? :=fun q c=>aO wr ⟨w.heap.size+1,i,none⟩ q _ c;refine⟨h.bel.setCell (by show w.heap.size<=w.heap.size+1;omega) _,(a _ (by omega)).trans h.b1,?_,(a _ (by omega)).trans h.b2,(a _ (by omega)).trans h.b3⟩;rw[<-xm];exact aY wr (w.heap.size+1) i _ _ _ h.marks
def sq (S:Nat->List Nat)(f:Nat)(m:Nat->Bool)(l:List Nat):Nat->Bool:=l.foldl (fun m n=>if m n=true then m else fol S f (upd m n) n) m
def Ju (w:World)(n:Nat)(a:Value)(S:Nat->List Nat)(f:Nat)(m:Nat->Bool)(r:Nat)(t:Value)(wr:World):Prop:= ∃j:Nat,t=ag (j:Int)/\j<=(S r).length/\(∀k,m k=true->sq S f m ((S r).take j) k=true)/\FSt w n a (sq S f m ((S r).take j)) wr
def Pn (w:World)(n:Nat)(b:Value)(a:Nat->Bool)(e:Ending)(w':World):Prop:=e= .returned (.tuple #[])/\FSt w n b a w'
theorem xn (w:World)(H:Value)(n:Nat)(S:Nat->List Nat)(F:sm w H n S)(hn:n<9223372036854775808): ∀(f:Nat) (m:Nat->Bool) (r:Nat) (wr:World),FSt w n H m wr->r<n->unm m n+1<=f->
  Calls prog 89 #[ag (r:Int),ab w.heap.size 0,ab (w.heap.size+1+1) 0,ab (w.heap.size+1+1+1) 0] wr (Pn w n H (fol S f m r))
 |0,_,_,_,_,_,h=>by omega
 |f+1,m,r,wr,I,hr,hu=>by
  have ih:=xn w H n S F hn f;obtain⟨p,c,rfl,u⟩:=F.form;obtain⟨g,o,v,hp,z,C⟩:=u r hr;subst hp;obtain⟨pv,cv,rfl,K,d⟩:=C;have B:=F.lt r;rw[ba]at K;rw[ba]at z;have O:PN (∀(j k:Nat),(S r)[j]? =some k-> ∃g o:Nat,pv=some ⟨g,o,none⟩/\w.cell? (ae g (o+j))=some (ag (k:Int))):=fun j k G=>d j _ (by rw[bg,G];rfl);have P:PN (∀j k:Nat,(S r)[j]? =some k->k<n):=fun j k G=>B k (aM G);have Q:PN (fol S (f+1) m r=sq S f m (S r)):=rfl;have d0:=aj I.bel z;have k1:=ak 0 I.b1;have aa:(0:Int)<=(r:Int):=(by omega);have ac:(r:Int)<(n:Int):=(by omega);go_enter func89,ntmps89;go_wp2_with fail;go_loopw [6,12] (fun _ t wr=>Ju w n (.slice (some (ae g o)) n c) S f m r t wr) (fun _ t _=>(S r).length-(intOf t).toNat);case atStart=>exact⟨0,rfl,by omega,fun k V=>V,I⟩
  case round=>
   obtain⟨j,rfl,G,x,b⟩:=hrel;have U:(0:Int)<=(j:Int):=(by omega);by_cases J:j<(S r).length
   ·have A:(j:Int)<((S r).length:Int):=(by omega);obtain⟨k,l⟩: ∃k,(S r)[j]? =some k:=⟨(S r)[j],az J⟩
    have s:=P.o j k l;obtain⟨g',o',L,c0⟩:=O.o j k l;subst L;have e0:=aj b.bel c0
    have a:sq S f m ((S r).take (j+1))=if sq S f m ((S r).take j) k=true then sq S f m ((S r).take j) else fol S f (upd (sq S f m ((S r).take j)) k) k:=by
     unfold sq;rw[fD,l,Option.toList_some,List.foldl_append];rfl
    have k2:=ak 0 b.b2;have k3:=ak 0 b.b3;have N:=(aZ _ _ k _ _ _ b.marks).trans (mN s);have kz:=bl _ _ k _ _ b.marks;have X:(0:Int)<=(k:Int):=(by omega);have Y:(k:Int)<(n:Int):=(by omega);have Z:=xj x n;generalize hM:sq S f m ((S r).take j)=M at*;cases hMk:M k with
    |true=>
     rw[hMk]at N;rw[aD hMk]at a;have y:PN (Ju w n (.slice (some (ae g o)) n c) S f m r (ag ((j+1:Nat):Int)) wr):=⟨j+1,rfl,by omega,by rw[a];exact x,by rw[a];exact b⟩
     go_wp2_with fail;go_roundw;case rel=>exact y.o
     case measure=>simp[intOf];omega
    |false=>
     rw[hMk]at N;rw[ax (by rw[hMk];decide)]at a;have ad:=yC hMk n s;have i:=b.set k;have R:=ih (upd M k) k _ i s (by omega);have af:=ak 0 i.b3;have E: ∀q,m q=true->fol S f (upd M k) k q=true:=fun q hq=>(Bv F.lt f (upd M k) k (by omega)).up q (by simp[upd,x q hq]);have y:PN (∀W,FSt w n (.slice (some (ae g o)) n c) (fol S f (upd M k) k) W->Ju w n (.slice (some (ae g o)) n c) S f m r (ag ((j+1:Nat):Int)) W):=fun W T=>⟨j+1,rfl,by omega,by rw[a];exact E,by rw[a];exact T⟩
     go_wp2_with fail;refine R.mono ?_;rintro e w2 ⟨rfl,D⟩;go_wp2_with fail;go_roundw;case rel=>exact y.o _ D
     case measure=>simp[intOf];omega
   ·have A: ¬(j:Int)<((S r).length:Int):=(by omega)
    have y:PN (FSt w n (.slice (some (ae g o)) n c) (fol S (f+1) m r) wr):=by
     have e:(S r).take j=S r:=cQ (by omega);rw[e]at b;show FSt _ _ _ _ _;rw[Q.o];exact b
    go_wp2_with fail;refine aW (eO rfl _ _ _) rfl ?_;exact⟨rfl,y.o⟩
def KO (n:Nat)(m:Nat->Bool)(w:World)(e:Ending)(w':World):Prop:= ∃g,e= .returned (.slice (some (ae g 0)) n n)/\w'.heap[g]? =ah (fF n m) 4/\aq w w'
theorem By:(prog.info? 4).map (fun i=>(i.zero,i.size,i.bytes))=some (some (.bool false),1,1):=by kernel_rfl
theorem zw:prog.underlying 132=some (.slice 4):=by kernel_rfl
theorem vn (v:Value)(n:Nat)(S:Nat->List Nat)(r:Nat)(w:World)(t:sm w v n S)(J:n<=1000000)(G:r<n):
  Calls prog 65 #[v,ag (r:Int)] w (KO n (fol S (n+1) (fun _=>false) r) w):=by
 obtain⟨p,c,rfl,_⟩:=t.form;have g:=run_make_row' (P:=prog) 132 4 (.bool false) 1 zw By rfl .i64 .i64 n (by omega) (by omega)
 have K:unm (fun _=>false) n<=n:=by
  have: ∀n,unm (fun _=>false) n=n:=by
   intro n;induction n with
   |zero=>rfl
   |succ n H=>simp[unm,H];omega
  rw[this];omega
 rw[vm]at g;have k:=am w (.cells #[.slice p n c] 27);have l:=k.alloc k.size (.cells (fF n (fun _=>false)) 4);have m:=l.alloc l.size (.cells #[.slice (some (ae (w.heap.size+1) 0)) n n] 132);have y:=m.alloc m.size (.cells #[.nilFunc] 170);have u:(w.alloc (.cells #[.slice p n c] 27)).heap.size=w.heap.size+1:=by simp
 have j:((w.alloc (.cells #[.slice p n c] 27)).alloc (.cells (fF n (fun _=>false)) 4)).heap.size=w.heap.size+1+1:=by simp
 have d:(((w.alloc (.cells #[.slice p n c] 27)).alloc (.cells (fF n (fun _=>false)) 4)).alloc (.cells #[.slice (some (ae (w.heap.size+1) 0)) n n] 132)).heap.size=w.heap.size+1+1+1:=by simp
 have A:((((w.alloc (.cells #[.slice p n c] 27)).alloc (.cells (fF n (fun _=>false)) 4)).alloc (.cells #[.slice (some (ae (w.heap.size+1) 0)) n n] 132)).alloc (.cells #[.nilFunc] 170)).heap[w.heap.size]? =ah #[.slice p n c] 27:=(dL _ _ _ (by rw[d];omega)).trans ((dL _ _ _ (by rw[j];omega)).trans ((dL _ _ _ (by rw[u];omega)).trans (aE w _)))
 have B:((((w.alloc (.cells #[.slice p n c] 27)).alloc (.cells (fF n (fun _=>false)) 4)).alloc (.cells #[.slice (some (ae (w.heap.size+1) 0)) n n] 132)).alloc (.cells #[.nilFunc] 170)).heap[w.heap.size+1]? =ah (fF n (fun _=>false)) 4:=by
  refine(dL _ _ _ (by rw[d];omega)).trans ((dL _ _ _ (by rw[j];omega)).trans ?_);have:=aE (w.alloc (.cells #[.slice p n c] 27)) (.cells (fF n (fun _=>false)) 4);rw[u]at this;exact this
 have C:((((w.alloc (.cells #[.slice p n c] 27)).alloc (.cells (fF n (fun _=>false)) 4)).alloc (.cells #[.slice (some (ae (w.heap.size+1) 0)) n n] 132)).alloc (.cells #[.nilFunc] 170)).heap[w.heap.size+1+1]? =ah #[.slice (some (ae (w.heap.size+1) 0)) n n] 132:=by
  refine(dL _ _ _ (by rw[d];omega)).trans ?_;have:=aE ((w.alloc (.cells #[.slice p n c] 27)).alloc (.cells (fF n (fun _=>false)) 4)) (.cells #[.slice (some (ae (w.heap.size+1) 0)) n n] 132);rw[j]at this;exact this
 have f:((((w.alloc (.cells #[.slice p n c] 27)).alloc (.cells (fF n (fun _=>false)) 4)).alloc (.cells #[.slice (some (ae (w.heap.size+1) 0)) n n] 132)).alloc (.cells #[.nilFunc] 170)).heap[w.heap.size+1+1+1]? =ah #[.nilFunc] 170:=by
  have:=aE (((w.alloc (.cells #[.slice p n c] 27)).alloc (.cells (fF n (fun _=>false)) 4)).alloc (.cells #[.slice (some (ae (w.heap.size+1) 0)) n n] 132)) (.cells #[.nilFunc] 170);rw[d]at this;exact this
 have O:=ak 0 f;have N:=bl _ _ 0 _ _ f;generalize D:((((w.alloc (.cells #[.slice p n c] 27)).alloc (.cells (fF n (fun _=>false)) 4)).alloc (.cells #[.slice (some (ae (w.heap.size+1) 0)) n n] 132)).alloc (.cells #[.nilFunc] 170))=b at*;have i: ∀q,q≠w.heap.size+1+1+1->(b.setCell ⟨w.heap.size+1+1+1,0,none⟩ (.func (.func 89) #[] #[ab w.heap.size 0,ab (w.heap.size+1+1) 0,ab (w.heap.size+1+1+1) 0])).heap[q]? =b.heap[q]? :=fun q F=>aO b ⟨w.heap.size+1+1+1,0,none⟩ q _ F
 have a:FSt w n (.slice p n c) (fun _=>false) (b.setCell ⟨w.heap.size+1+1+1,0,none⟩ (.func (.func 89) #[] #[ab w.heap.size 0,ab (w.heap.size+1+1) 0,ab (w.heap.size+1+1+1) 0])):=
  ⟨y.setCell (by show w.heap.size<=w.heap.size+1+1+1;omega) _,(i _ (by omega)).trans A,(i _ (by omega)).trans B,(i _ (by omega)).trans C,aY b (w.heap.size+1+1+1) 0 _ _ _ f⟩
 have z:=xn w (.slice p n c) n S t (by omega) (n+1) (fun _=>false) r _ a G (by omega);have M:=ak 0 a.b3;have E: ∀(s:Fn) (first cap:Array Value) (w:World),(Instr.makeFunc s first cap).run prog w= .ok (.func s first cap) w:=fun _ _ _ _=>rfl;go_enter func65,ntmps65;go_wp2_with fail;refine z.mono ?_;rintro e I ⟨rfl,a⟩;have L:=ak 0 a.b2;have x:PN (KO n (fol S (n+1) (fun _=>false) r) w (.returned (.slice (some (ae (w.heap.size+1) 0)) n n)) I):=⟨_,rfl,a.marks,a.bel⟩
 go_wp2_with fail;go_ret;exact x.o
def jK (a:List Int):List Value:=a.map (fun n=>ag n)
theorem qu {w:World}{b:Nat}{v:Value}{d:List Int}(h:w.ownsRow b 3 1 v d.length (jK d))(m:d.length<9223372036854775808):dS w v d:=by
 obtain⟨p,c,i⟩:=df h;refine⟨p,c,i,m,fun j n f=> ?_⟩;have l:j<d.length:=(aG.1 f).1;obtain⟨g,cap,e,a⟩:=tn h (by omega);rw[i]at e;injection e with k;refine⟨g,0,k,?_⟩;rw[bN];exact a j _ (by unfold jK;rw[bg,f];rfl)
structure Sps (base:Nat)(W:World)(go gi:Nat)(vs:List Value)(ls:List (List Int)):Prop where
 blk:W.heap[go]? =ah vs.toArray 23
 len:vs.length=ls.length
 rows: ∀(j:Nat) (v:Value) (ns:List Int),vs[j]? =some v->ls[j]? =some ns->W.ownsRow base 3 1 v ns.length (jK ns)
 apart: ∀(j k:Nat) (v v':Value) (b:Nat),j≠k->vs[j]? =some v->vs[k]? =some v'->v.ownBlock=some b->v'.ownBlock≠some b
 other: ∀(j:Nat) (v:Value),vs[j]? =some v->v.ownBlock≠some gi
structure SpS (w:World)(l:List Ru)(n mb gi i:Nat)(ls:List (List Int))(W:World):Prop where
 bel:aq w W
 b1:W.heap[w.heap.size]? =ah #[.map (some mb)] 128
 b5:W.heap[w.heap.size+1+1]? =ah #[.slice (some (ae (w.heap.size+1) 0)) n n] 27
 bi:W.heap[gi]? =ah #[ag (i:Int)] 3
 gib:w.heap.size+1+1<gi
 rows: ∃vs,Sps (w.heap.size+3) W (w.heap.size+1) gi vs ls
theorem SpS.below {w:World}{l:List Ru}{n mb f i:Nat}{k:List (List Int)}{W e:World}(h:SpS w l n mb f i k W)(a:aq W e):SpS w l n mb f i k e:=by
 obtain⟨q,c⟩:=h.rows;refine⟨aw h.bel a,ai a h.b1,ai a h.b5,ai a h.bi,h.gib,q,ai a c.blk,c.len,fun j v p m o=> ?_,c.apart,c.other⟩;have g:=c.rows j v p m o;exact br g fun b d=>a.block b (g.lt b d).2
def KT (W b:World):Prop:= ∀(q:Nat) (a:Array Value) (t:TypeId) (fr:Nat×Nat),W.heap[q]? =some (.cells a t fr)->t≠3->t≠23->b.heap[q]? =some (.cells a t fr)
theorem KT.refl (W:World):KT W W:=fun _ _ _ _ h _ _=>h
theorem KT.trans {W b a:World}(h:KT W b)(f:KT b a):KT W a:=fun q c t fr g d e=>f q c t fr (h q c t fr g d e) d e
theorem KT.below {W a:World}(h:aq W a):KT W a:=fun q _ _ _ b _ _=>(h.block q (di.1 b).1).trans b
structure SJ (w:World)(l:List Ru)(n mb gi i n3:Nat)(ls0:List (List Int))(vs:List Value)(vi:Value)(r:List Int)(nn:Int)(wk:World)(M:Nat->Bool)(φ:Nat->Value)(W:World):Prop where
 bel:aq w W
 kt:KT wk W
 sz:n3<=W.heap.size
 b1:W.heap[w.heap.size]? =ah #[.map (some mb)] 128
 b5:W.heap[w.heap.size+1+1]? =ah #[.slice (some (ae (w.heap.size+1) 0)) n n] 27
 bi:W.heap[gi]? =ah #[ag (i:Int)] 3
 go0:M 10=false->W.heap[w.heap.size+1]? =ah vs.toArray 23
 row0:M 8=false->W.ownsRow (w.heap.size+3) 3 1 vi r.length (jK r)
 oth: ∀(j:Nat) (v:Value) (ns:List Int),j≠i->vs[j]? =some v->ls0[j]? =some ns->W.ownsRow (w.heap.size+3) 3 1 v ns.length (jK ns)
 one:M 7=true->M 8=false-> ∃g4,φ 29= .slice (some (ae g4 0)) 1 1/\n3<=g4/\W.heap[g4]? =ah #[ag nn] 3
 app:M 8=true->M 10=false->W.ownsRow (w.heap.size+3) 3 1 (φ 30) (r.length+1) (jK r++[ag nn])/\(φ 30).ownBlock≠some gi/\ ∀(j:Nat) (v:Value) (b:Nat),j≠i->vs[j]? =some v->v.ownBlock=some b->(φ 30).ownBlock≠some b
 done:M 10=true->SpS w l n mb gi i (ls0.set i (r++[nn])) W
theorem SJ.below {w:World}{l:List Ru}{n mb u i x:Nat}{g:List (List Int)}{z:List Value}{y:Value}{r:List Int}{nn:Int}{A:World}{M:Nat->Bool}{φ:Nat->Value}{W m:World}(h:SJ w l n mb u i x g z y r nn A M φ W)(d:aq W m):SJ w l n mb u i x g z y r nn A M φ m:=by
 have f: ∀{k:Nat} {o:Obj},W.heap[k]? =some o->m.heap[k]? =some o:=fun h=>ai d h;have t: ∀{a e size n:Nat} {v:Value} {xs:List Value},W.ownsRow a e size v n xs->m.ownsRow a e size v n xs:=fun h=>br h fun b s=>d.block b (h.lt b s).2;exact⟨aw h.bel d,h.kt.trans (KT.below d),bf h.sz d.size,f h.b1,f h.b5,f h.bi,fun c=>f (h.go0 c),fun c=>t (h.row0 c),fun j v E B C D=>t (h.oth j v E B C D),fun c p=>(h.one c p).imp fun _ q=>⟨q.1,q.2.1,f q.2.2⟩,fun c p=>⟨t (h.app c p).1,(h.app c p).2⟩,fun c=>(h.done c).below d⟩
theorem Bz:(prog.info? 3).map (fun i=>(i.zero,i.size,i.bytes))=some (some (ag 0),1,8):=by kernel_rfl
theorem zy:prog.underlying 23=some (.slice 3):=by kernel_rfl
def xo (w:World)(l:List Ru)(n mb a i:Nat)(b:List (List Int))(wr:World)(e:Ending)(w':World):Prop:=e= .returned (.tuple #[])/\SpS w l n mb a i b w'/\KT wr w'
theorem CU (w:World)(l:List Ru)(n mb V i:Nat)(g:List (List Int))(r:List Int)(x:List UInt8)(wr:World)(hM:jk w mb l)(b6:i<n)(_:n<=1000000)(a1:g.length=n)(hr:r.length<=1000000)(h:SpS w l n mb V i (g.set i r) wr):
  Calls prog 88 #[.string ⟨x.toArray⟩,ab w.heap.size 0,ab (w.heap.size+1+1) 0,ab V 0] wr (xo w l n mb V i (g.set i (addN r (atP5 l x))) wr):=by
 have aU:=hM.later (h.bel.block _ (gW hM));have b8:=KN aU x;obtain⟨U,T⟩:=h.rows;have bo:U.length=n:=by rw[T.len,jy,a1]
 obtain⟨L,z⟩: ∃v,U[i]? =some v:=⟨U[i]'(by omega),az _⟩
 have a5:(g.set i r)[i]? =some r:=by rw[fh (by omega)]
 have O:=T.rows i L r z a5;have a6:=qu O (by omega);have k1:=ak 0 h.b1;have k5:=ak 0 h.b5;have ki:=ak 0 h.bi;have kg:wr.cell? (ae (w.heap.size+1) i)=some L:=(aZ _ _ i _ _ _ T.blk).trans (by simpa using z);have b3:(0:Int)<=(i:Int):=by omega
 have b4:(i:Int)<(n:Int):=by omega
 have cC:=fun nn=>jF r L nn wr a6;obtain⟨pi,ci,bj⟩:=df O;have bx:=(ol l x).1;have Hs:=aF T;have Hw:=aF O;have HD:PN (¬(0<=atP5 l x)->atP5 l x= -1):=fun h=>by omega
 obtain⟨i0,hi,bq,bs,bt⟩:=jp Bz;subst bj;go_enter func88,ntmps88;go_upto_if 14 with fail;rename_i K1 aT
 have ao: ∀(x6 x7 aC aL aM aP aR:Value),K1 ⟨#[.string ⟨x.toArray⟩,ab w.heap.size 0,ab (w.heap.size+1+1) 0,ab V 0,undef,ag (atP5 l x),x6,x7,.map (some mb),.string ⟨x.toArray⟩,aC,aL,aM,aP,aR,undef,undef,undef,undef,undef,undef,undef,undef,undef,undef,undef,undef,undef,undef,undef,undef,undef],[]⟩ wr:=by
  intro x6 x7 aC aL aM aP aR;refine aT _ _ ?_;generalize atP5 l x=nn at*;have c1:=cC nn;go_wp2_with fail;refine c1.mono ?_;rintro e w1 ⟨rfl,D⟩;by_cases X:nn∈r
  ·have HO:PN (xo w l n mb V i (g.set i (addN r nn)) wr (.returned (.tuple #[])) w1):=by
    refine⟨rfl,?_,KT.below D⟩;unfold addN;rw[aD X];exact h.below D
   rw[bm X];go_wp2_with fail;refine aW (eO rfl _ _ _) rfl ?_;exact HO.o
  ·have B:=h.below D
   have HA:PN (addN r nn=r++[nn]):=by
    show _=_;unfold addN;rw[ax X]
   have T:=Hs.o;have O:=Hw.o;have s:Sps (w.heap.size+3) w1 (w.heap.size+1) V U (g.set i r):=⟨ai D T.blk,T.len,fun j v m a d=>br (T.rows j v m a d) fun b p=>D.block b ((T.rows j v m a d).lt b p).2,T.apart,T.other⟩
   have H:=s.rows i _ r z a5;have b0:=aH B.bi;have b2:=aH s.blk;have aw:=B.gib;rw[bn X];have aS:=aF D;go_wp2_with fail;have a2:=H.lt;have a4: ∀(j:Nat) (v:Value) (m:List Int),j≠i->U[j]? =some v->g[j]? =some m->w1.ownsRow (w.heap.size+3) 3 1 v m.length (jK m):=fun j v m hj a d=>s.rows j v m a (by rw[fI (fun e=>hj e.symm)];exact d);obtain⟨L,bk⟩:=au (Value.slice pi r.length ci);rw[bk]at z H a2;refine dh (SJ w l n mb V i w1.heap.size g U L r nn w1) [kn 22 (.slice (some (ae (w.heap.size+1) 0)) n n),kn 23 (ag (i:Int)),kn 24 (.slice (some (ae (w.heap.size+1) 0)) n n),kn 25 (ag (i:Int)),kn 26 (ab (w.heap.size+1) i),kn 27 L,kn 28 (ag nn),td 29,td 30,kn 31 (ab (w.heap.size+1) i),nk] (fun _=>⟨B.bel.drew,fun _ _ _ _ h _ _=>h,aB _,B.b1,B.b5,B.bi,fun _=>s.blk,fun _=>br H fun _ _=>rfl,fun j v m a d N=>br (a4 j v m a d N) fun _ _=>rfl,(fun h=>by cases h),(fun h=>by cases h),(fun h=>by cases h)⟩) (fun _ _ _ _ Q h=>h.below Q) (by kernel_rfl) (fun M φ W f bb F l hl hF=> ?_) (fun M φ W hM f=> ?_)
   ·simp only[kn,td,nk,dW,aQ,aX,Act.put,aA,aK,aJ]at hl;subst hl;simp only[cZ,Nat.reduceAdd]at hF
    have af:M 8=false->M 10=false:=fun h8=>by
     cases h:M 10 with
     |false=>rfl
     |true=>rw[bb 10 _ rfl h ⟨8,.data⟩ (by simp) rfl rfl]at h8;cases h8
    have j5:=ak 0 f.b5;have ji:=ak 0 f.bi;dsimp only[kn,td,nk,dB,eN,eg,Act.put];and_intros;all_goals first|exact trivial|intro hw hn X K hK
    all_goals try (go_simp;with_reducible exact hK _ _ ⟨rfl,aI _ _⟩)
    ·have kg:W.cell? (ae (w.heap.size+1) i)=some L:=(aZ _ _ i _ _ _ (f.go0 (af (hn 8 _ rfl (by kernel_rfl))))).trans (by simpa using z);go_simp;exact hK _ _ ⟨rfl,aI _ _⟩
    ·have Q:=am W (.cells #[ag nn] 3);have l8:=hn 8 _ rfl (by kernel_rfl);have C:=f.below Q;go_simp;exact hK _ _ ⟨trivial,C.bel,C.kt,C.sz,C.b1,C.b5,C.bi,fun h=>C.go0 (by simpa using h),fun h=>C.row0 (by simpa using h),C.oth,fun _ _=>⟨_,dF ..,f.sz,aE W _⟩,(fun h=>by simp[l8]at h),(fun h=>by simp[af l8]at h)⟩
    ·have a9:=af X;obtain⟨g4,bu,bz,bd⟩:=f.one (hw ⟨7,.data⟩ (by simp) rfl rfl) X;rw[bu]at hF;have I:=f.row0 X;have b9:=f.sz;have c:=f.go0 a9;have E:=f.oth;refine sV _ _ 23 rfl (w.heap.size+3) 3 i0 (ag 0) 1 8 zy hi bq bs bt rfl (by decide) L r.length (jK r) (by simp[Act.eval,hF]) I ⟨g4,0,none⟩ 1 1 [ag nn] (by simp[Act.eval,hF]) rfl ?c1 ?c2 ?c3 ?c4 ?c5 ?_
     case c1=>
      intro k u' aa;match k,aa with
      |0,aa=>simp at aa;subst aa;exact(aZ _ _ _ _ _ _ bd).trans rfl
     case c2=>intro u hu;simp at hu;subst hu;rfl
     case c3=>unfold maxLen;omega
     case c4=>omega
     case c5=>omega
     intro v' W' an G ac;have ad:=I.lt;have R: ∀q,L.ownBlock≠some q->q<W.heap.size->W'.heap[q]? =W.heap[q]? :=fun q hq hl=>G.block q hl (fun e=>hq e.symm);have bv: ∀q,w1.heap.size<=q->q<W.heap.size->W'.heap[q]? =W.heap[q]? :=fun q hq hl=>R q (fun e=>by have:=(a2 q e).2;omega) hl;have S: ∀q,q<w.heap.size+3->q<W.heap.size->W'.heap[q]? =W.heap[q]? :=fun q hq hl=>R q (fun e=>by have:=(ad q e).1;omega) hl
     have a7:v'.ownBlock≠some V/\ ∀(j:Nat) (v:Value) (b:Nat),j≠i->U[j]? =some v->v.ownBlock=some b->v'.ownBlock≠some b:=by
      refine⟨fun e=> ?_,fun j v b hj a d e=> ?_⟩
      ·rcases ac with Q|Q
       ·rw[Q]at e;exact s.other i L z e
       ·rw[Q]at e;have:=aN e;omega
      ·rcases ac with Q|Q
       ·rw[Q]at e;exact s.apart i j L v b (fun e=>hj e.symm) z a e d
       ·rw[Q]at e;have e1:=aN e
        obtain⟨m,bg⟩: ∃m,g[j]? =some m:=by
         have b7:j<U.length:=(aG.1 a).1;exact⟨g[j]'(by omega),az _⟩
        have:=((E j v m hj a bg).lt b d).2;omega
     have be:KT W W':=fun q cs t fr a d N=>by
      refine(R q (fun e=> ?_) (di.1 a).1).trans a;obtain⟨_,bh⟩:=I;rcases bh with⟨e2,_⟩|⟨gb,cap,bw,e2,_,Z,_⟩
      ·rw[e2]at e;cases e
      ·rw[e2]at e;have e3:gb=q:=aN e;subst e3;rw[a]at Z;injection Z with Z;injection Z with _ e4;exact d e4
     exact hK _ _ ⟨trivial,f.bel.grown G (by omega) (fun q hq=>by have:=(ad q hq).1;omega),f.kt.trans be,bf f.sz G.size,(S _ (by omega) (aH f.b1)).trans f.b1,(S _ (by omega) (aH f.b5)).trans f.b5,(R _ (s.other i L z) (aH f.bi)).trans f.bi,fun _=>(S _ (by omega) (aH c)).trans c,(fun h=>by simp at h),fun j v m a d N=>br (E j v m a d N) fun b p=>R b (fun e=>s.apart i j L v b (fun e=>a e.symm) z d e p) ((E j v m a d N).lt b p).2,(fun _ h=>by simp at h),fun _ _=>by rw[dF];exact⟨an,a7⟩,(fun h=>by simp[a9]at h)⟩
    ·have l8:=hw ⟨8,.data⟩ (by simp) rfl rfl;obtain⟨hR,ap,ah⟩:=f.app l8 X;obtain⟨y,hy⟩:=au (φ 30);rw[hy]at hR ap ah hF;have c:=f.go0 X;have kg:W.cell? (ae (w.heap.size+1) i)=some L:=(aZ _ _ i _ _ _ c).trans (by simpa using z);have yg:=bl _ _ i _ _ c;have ar:=hR.lt;obtain⟨px,cx,bp⟩:=df hR;have J: ∀q,q≠w.heap.size+1->(W.setCell ⟨w.heap.size+1,i,none⟩ y).heap[q]? =W.heap[q]? :=fun q hq=>aO W ⟨w.heap.size+1,i,none⟩ q _ hq;have bc:=aY W (w.heap.size+1) i _ _ y c;have av:aq w (W.setCell ⟨w.heap.size+1,i,none⟩ y):=f.bel.setCell (by show w.heap.size<=w.heap.size+1;omega) _;have E:=f.oth
     have A:SpS w l n mb V i (g.set i (r++[nn])) (W.setCell ⟨w.heap.size+1,i,none⟩ y):=by
      refine⟨av,(J _ (by omega)).trans f.b1,(J _ (by omega)).trans f.b5,(J _ (by omega)).trans f.bi,aw,U.set i y,?_,by simp[bo,a1],fun j v m a d=> ?_,fun j k v v' b aj a d N=> ?_,fun j v a=> ?_⟩
      ·rw[bc];simp
      ·by_cases e:j=i
       ·subst e;rw[fh (by omega)]at a;rw[fh (by omega)]at d;cases a;cases d
        have:W.ownsRow (w.heap.size+3) 3 1 y (r++[nn]).length (jK (r++[nn])):=by
         unfold jK at hR⊢;simpa using hR
        exact br this fun b p=>J b (by have:=(ar b p).1;omega)
       ·rw[fI (fun h=>e h.symm)]at a d;have a3:=E j v m e a d;exact br a3 fun b p=>J b (by have:=(a3.lt b p).1;omega)
      ·by_cases ej:j=i
       ·subst ej;rw[fh (by omega)]at a;rw[fI aj]at d;cases a;exact fun e=>ah k v' b (fun e=>aj e.symm) d e N
       ·rw[fI (fun h=>ej h.symm)]at a;by_cases ek:k=i
        ·subst ek;rw[fh (by omega)]at d;cases d;exact ah j v b ej a N
        ·rw[fI (fun h=>ek h.symm)]at d;exact s.apart j k v v' b aj a d N
      ·by_cases ej:j=i
       ·subst ej;rw[fh (by omega)]at a;cases a;exact ap
       ·rw[fI (fun h=>ej h.symm)]at a;exact s.other j v a
     have D:=A.b1;have aV:=A.b5;have ba:=A.bi;have al: ∀(j:Nat) (v:Value) (m:List Int),j≠i->U[j]? =some v->g[j]? =some m->(W.setCell ⟨w.heap.size+1,i,none⟩ y).ownsRow (w.heap.size+3) 3 1 v m.length (jK m):=fun j v m a d N=>br (E j v m a d N) fun b p=>J b (by have:=((E j v m a d N).lt b p).1;omega);have a8:w1.heap.size<=(W.setCell ⟨w.heap.size+1,i,none⟩ y).heap.size:=(by simpa using f.sz)
     have a0:KT W (W.setCell ⟨w.heap.size+1,i,none⟩ y):=fun q cs t fr a d N=>(J q (fun e=>by
      subst e;rw[a]at c;injection c with c;injection c with _ e4;exact N e4)).trans a
     have Y: ∀φ',SJ w l n mb V i w1.heap.size g U L r nn w1 (fun k=>decide (10=k)||M k) φ' (W.setCell ⟨w.heap.size+1,i,none⟩ y):=fun _=>⟨av,f.kt.trans a0,a8,D,aV,ba,(fun h=>by simp at h),(fun h=>by simp[l8]at h),al,(fun _ h=>by simp[l8]at h),(fun _ h=>by simp at h),fun _=>A⟩
     subst bp;go_simp;exact hK undef _ ⟨trivial,Y _⟩
   ·have A:=f.done (hM 10 (by decide) rfl);have ay:=(KT.below aS.o).trans f.kt;simp only[kn,td,nk,eh,aQ,aX,Act.put,aA,aK,aJ];go_wp2_with fail;refine aW (eO rfl _ _ _) rfl ?_;rw[HA.o];exact⟨rfl,A,ay⟩
 by_cases P:0<=atP5 l x
 ·have e1:(if 0<=atP5 l x then atP5 l x else 0)=atP5 l x:=aD P;have e2:decide (0<=atP5 l x)=true:=bm P;simp only[e1,e2];go_wp2_with fail;exact ao _ _ _ _ _ _ _
 ·have he:=HD.o P;rw[he]at ao;have e1:(if 0<=atP5 l x then atP5 l x else 0)=0:=ax P;have e2:decide (0<=atP5 l x)=false:=bn P;simp only[e1,e2];go_wp2_with fail;exact ao _ _ _ _ _ _ _
theorem oZ:prog.underlying 102=some (.struct (prog.fieldsOf 102)):=by kernel_rfl
end Go.Proofs.YtaoljfdfhggbbaaGreatDoor
