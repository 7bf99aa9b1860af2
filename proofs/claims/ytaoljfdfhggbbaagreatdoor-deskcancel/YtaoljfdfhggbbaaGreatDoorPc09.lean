/- Texts of the proof. -/
import Derived.Test.YtaoljfdfhggbbaaGreatDoorPc08
import Derived.Laws.EntriesVeiled
import Derived.Deep.OwnRows
set_option maxRecDepth 100000
set_option maxHeartbeats 8000000
namespace Go.Proofs.YtaoljfdfhggbbaaGreatDoor
open Go.Proofs.Tryz Go.RowKit Lx Vx Mx Msk
theorem No (f:Nat->Bool)(a:Nat)(ha:a<64):bits BinOp.or IntKind.u64 (wd f 0:Int) (IntKind.u64.wrap (2^a))=(wd (fun k=>f k||decide (k=a)) 0:Int):=by
 have b:(2:Nat)^a<18446744073709551616:=by
  have:=Nat.pow_lt_pow_right (a:=2) (by omega) ha;simpa using this
 have c:IntKind.u64.wrap ((2:Int)^a)=((2^a:Nat):Int):=by
  rw[gS];have:((2:Int)^a)=((2^a:Nat):Int):=(by push_cast;rfl);rw[this];generalize (2^a:Nat)=y at*;omega
 rw[c,bits_or_u64_nat _ _ (g7 f 0) b];congr 1;refine mQ _ 0 _ (Nat.or_lt_two_pow (n:=64) (g7 f 0) b) fun j d=> ?_;rw[Nat.testBit_or,jv,bm d,i8,Nat.mul_zero,bN,Nat.testBit_two_pow];congr 1;by_cases e:a=j
 ·simp[e]
 ·simp[e,show¬j=a from fun h=>e h.symm]
theorem LQ (f g:Nat->Bool):bits BinOp.or IntKind.u64 (wd f 0:Int) (wd g 0:Int)=(wd (fun k=>f k||g k) 0:Int):=by
 rw[bits_or_u64_nat _ _ (g7 f 0) (g7 g 0),AL]
def cE (b:List Cd)(i j:Nat):Nat->Nat->Bool:=fun r k=>if r<i then gh b r k else if r=i then(((b.getD i cd0).ins.take j).any fun x=>decide (x.op=8)&&decide (x.a=(k:Int))) else false
theorem Np (a:List Cd):cE a 0 0=fun _ _=>false:=by
 funext r k;unfold cE;rw[ax (by omega)];split<;>simp
theorem LR {b:List Cd}{i j c:Nat}{x:In}(g:(b.getD i cd0).ins[j]? =some x)(f:x.op=8)(ha:x.a=(c:Int))(r k:Nat):pA (cE b i j) i (fun k=>cE b i j i k||decide (k=c)) r k=cE b i (j+1) r k:=by
 unfold pA;by_cases e:r=i
 ·subst e;rw[aD rfl];show(cE b r j r k||decide (k=c))=cE b r (j+1) r k;unfold cE;rw[ax (by omega),aD rfl,ax (by omega),aD rfl,fD,g,Option.toList_some,List.any_append];simp only[List.any_cons,List.any_nil,Bool.or_false,f,ha,decide_true,i8];congr 1;by_cases h:k=c
  ·simp[h]
  ·have d: ¬(c:Int)=(k:Int):=(by omega);simp[h,d]
 ·rw[ax e];unfold cE;by_cases h:r<i
  ·rw[aD h,aD h]
  ·rw[ax h,ax h,ax e,ax e]
theorem LS {a:List Cd}{i j:Nat}{x:In}(c:(a.getD i cd0).ins[j]? =some x)(b:x.op≠8):cE a i j=cE a i (j+1):=by
 funext r k;unfold cE;rw[fD,c,Option.toList_some,List.any_append];simp[b]
theorem Nq {a:List Cd}{i j:Nat}(b:(a.getD i cd0).ins.length<=j):cE a i j=cE a (i+1) 0:=by
 funext r k;unfold cE;rw[cQ b];by_cases h:r<i
 ·rw[aD h,aD (by omega)]
 ·rw[ax h];by_cases e:r=i
  ·rw[aD e,aD (by omega)];subst e;rfl
  ·rw[ax e,ax (by omega)];split<;>simp
def wE (E:Nat->Nat->Bool)(m i:Nat):Nat->Nat->Bool:=fun r k=>if r<i then wars E (m+1) r k else wars E m r k
theorem G8 (E:Nat->Nat->Bool)(m k:Nat):wars E (m+1) m k=wars E m m k:=by
 simp only[wars];cases wars E m m k<;>simp
theorem OF (E:Nat->Nat->Bool)(m i k:Nat):wE E m i m k=wars E m m k:=by
 unfold wE;split
 ·exact G8 E m k
 ·rfl
theorem BH (E:Nat->Nat->Bool)(m i k:Nat):wE E m i i k=wars E m i k:=ax (by omega)
theorem Nr {E:Nat->Nat->Bool}{m i:Nat}(h:wE E m i i m=true)(r k:Nat):pA (wE E m i) i (fun k=>wE E m i i k||wE E m i m k) r k=wE E m (i+1) r k:=by
 unfold pA;rw[BH]at h;by_cases e:r=i
 ·subst e;rw[aD rfl];show(wE E m r r k||wE E m r m k)=_;rw[BH,OF];unfold wE;rw[aD (by omega)];simp only[wars,h,i8]
 ·rw[ax e];unfold wE;by_cases h:r<i
  ·rw[aD h,aD (by omega)]
  ·rw[ax h,ax (by omega)]
theorem OG {E:Nat->Nat->Bool}{m i:Nat}(h:wE E m i i m=false)(r k:Nat):wE E m i r k=wE E m (i+1) r k:=by
 rw[BH]at h;unfold wE;by_cases e:r=i
 ·subst e;rw[ax (by omega),aD (by omega)];simp only[wars,h,Bool.false_and,Bool.or_false]
 ·by_cases h:r<i
  ·rw[aD h,aD (by omega)]
  ·rw[ax h,ax (by omega)]
def EA (a:List Cd)(w:World)(t:Value)(wr:World):Prop:= ∃i:Nat,t=ag (i:Int)/\i<=a.length/\UcM w a.length (cE a i 0) wr
def EB (a:List Cd)(i n:Nat)(w:World)(t:Value)(wr:World):Prop:= ∃j:Nat,t=ag (j:Int)/\j<=n/\UcM w a.length (cE a i j) wr
def EC (a:List Cd)(w:World)(t:Value)(wr:World):Prop:= ∃m:Nat,t=ag (m:Int)/\m<=a.length/\UcM w a.length (wE (gh a) m 0) wr
def ED (a:List Cd)(m:Nat)(w:World)(t:Value)(wr:World):Prop:= ∃i:Nat,t=ag (i:Int)/\i<=a.length/\UcM w a.length (wE (gh a) m i) wr
def OH (a:List Cd)(w:World)(e:Ending)(w':World):Prop:=e= .returned (.slice (some (ae w.heap.size 0)) a.length a.length)/\UcM w a.length (wars (gh a) a.length) w'
theorem LU:(prog.info? 82).map (fun i=>(i.zero,i.size,i.bytes))=some (some (.int .u64 0),1,8):=by kernel_rfl
theorem JI:prog.underlying 232=some (.slice 82):=by kernel_rfl
theorem BI (d:List Cd)(lv:Value)(w:World)(h:InV w lv d)(aO:d.length<=40)(a6: ∀(i:Nat) (c:Cd),d[i]? =some c->aloneE c d.length=0):Calls prog 150 #[lv] w (OH d w):=by
 obtain⟨p,cp,rfl,aL,hc⟩:=h.form;have HC:=a8 hc;have HK:=a8 a6;have a5:=run_make_row' (P:=prog) 232 82 (.int .u64 0) 8 JI LU rfl .i64 .i64 d.length (by omega) (by omega);rw[CY]at a5;have bA:=am w (.cells (iH d.length (fun _ _=>false)) 82);have n:UcM w d.length (cE d 0 0) (w.alloc (.cells (iH d.length (fun _ _=>false)) 82)):=⟨bA,by rw[Np];exact aE w _⟩
 have aH:(d.length:Int)<=40:=by omega
 have aP:(0:Int)<=(d.length:Int):=by omega
 generalize ba:w.alloc (.cells (iH d.length (fun _ _=>false)) 82)=wA at*;go_enter func150,ntmps150;go_wp2_with fail;go_loopw [15] (fun t wr=>EA d w t wr) (fun t _=>d.length-(intOf t).toNat);case atStart=>exact⟨0,rfl,by omega,n⟩
 case round=>
  obtain⟨f,rfl,hi,C⟩:=hrel;have aT:(0:Int)<=(f:Int):=(by omega);by_cases ad:f<d.length
  ·have af:(f:Int)<(d.length:Int):=(by omega);obtain⟨u,O⟩: ∃u,d[f]? =some u:=⟨d[f],az ad⟩
   obtain⟨sv,ac,g,o,U,c0,c1,c2⟩:=HC.o f _ O;have a2:=jd O;have N:=jx (HK.o f _ O);obtain⟨s,hi,st⟩:=u;dsimp only at ac c0 c1 c2 N;obtain⟨pu,cu,rfl,aV,a3⟩:=ac.form;subst U;have d0:=aj C.bel c0;have d1:=aj C.bel c1;have d2:=aj C.bel c2;have bI:=am wr (.cells #[.slice pu s.length cu,ag hi,ag st] 140);have V:=C.below bI;have aB:=aE wr (.cells #[.slice pu s.length cu,ag hi,ag st] 140);have zc:=ak 0 aB;generalize bb:wr.alloc (.cells #[.slice pu s.length cu,ag hi,ag st] 140)=wC at*;have aM:(0:Int)<=(s.length:Int):=(by omega);have aN:s.length<=2000:=N.1.2;have ap:=a8 N.2.2;have X:=a8 a2;have aq:=a8 a3;have ar:=a8 V;go_wp2_with fail;have V:=ar.o;go_loopw [23] (fun t wr=>EB d f s.length w t wr) (fun t _=>s.length-(intOf t).toNat);case atStart=>exact⟨0,rfl,by omega,V⟩
   case round=>
    obtain⟨j,rfl,hj,n⟩:=hrel;have aU:(0:Int)<=(j:Int):=(by omega);by_cases ah:j<s.length
    ·have R:(j:Int)<(s.length:Int):=(by omega);obtain⟨x,Q⟩: ∃x,s[j]? =some x:=⟨s[j],az ah⟩
     obtain⟨sk,G,g2,o2,U,e0,e1,e2,e3,e4⟩:=aq.o j _ Q;subst U;have a4:=ap.o j _ Q;have E:(d.getD f cd0).ins[j]? =some x:=(by rw[X.o];exact Q);have d0:=aj n.bel e0;have d1:=aj n.bel e1;have d2:=aj n.bel e2;have d3:=aj n.bel e3;have d4:=aj n.bel e4;have B:x.op=8->0<=x.a/\x.a<d.length:=fun ho=>vN a4 ho;obtain⟨op,a,b,t,sp⟩:=x;dsimp only at d0 d1 d2 d3 d4 G B;obtain⟨ps,Y,rfl,_,_⟩:=G.form;have bI:=am wr (.cells #[ag op,ag a,ag b,ag t,.slice ps sp.length Y] 177);have ao:=aE wr (.cells #[ag op,ag a,ag b,ag t,.slice ps sp.length Y] 177);have z0:=ak 0 ao;have z1:=ak 1 ao;have H:=n.below bI;by_cases ho:op=8
     ·subst ho;obtain⟨a0,a1⟩:=B rfl;obtain⟨v,rfl⟩: ∃v:Nat,a=(v:Int):=⟨a.toNat,by omega⟩
      have ay:v<64:=(by omega);have aR:(0:Int)<=(v:Int):=(by omega);have aS:(v:Int)<64:=(by omega);have I:PN (∀W,UcM w d.length (pA (cE d f j) f (fun k=>cE d f j f k||decide (k=v))) W->EB d f s.length w (ag ((j+1:Nat):Int)) W):=fun W L=>⟨j+1,rfl,by omega,L.same fun r k _ _=>LR E rfl rfl r k⟩
      have n:=H;generalize cE d f j=St at*;have J:=a8 (No (St f) v ay);have rc:=n.cell ad;generalize a9:wr.alloc (.cells #[ag 8,ag (v:Int),ag b,ag t,.slice ps sp.length Y] 177)=wI at*;go_wp2_with fail;obtain⟨gx,aa⟩:=au wr.heap.size;rw[aa]at z1;simp only[aa];have zx:=z1;refine jN 9 [kn 30 (.slice (some (ae w.heap.size 0)) d.length d.length),kn 31 (ag (f:Int)),kn 32 (ab w.heap.size f),kn 33 (.int .u64 (wd (St f) 0:Int)),kn 34 (ab gx 1),kn 35 (ag (v:Int)),kn 36 (.int .u64 (IntKind.u64.wrap (2^v))),kn 37 (.int .u64 (wd (fun k=>St f k||decide (k=v)) 0:Int)),kn 38 (ab w.heap.size f),nk] (by kernel_rfl) (by kernel_rfl) fun M φ W _ A F l hl hF=> ?_;have aC:=aj A rc;have aF:=aj A zx;have aG:=J.o;simp only[kn,nk,dW,aQ,aX,Act.put,aA,aK,aJ]at hl;subst hl;simp only[cZ,Nat.reduceAdd]at hF;dsimp only[kn,nk,dB,eN,eg,Act.put];and_intros;all_goals first|exact trivial|intro hw hn hm K Z
      all_goals try (go_simp;with_reducible exact Z _ _ ⟨rfl,aI _ _⟩)
      have L:=(n.below A).set f (fun k=>St f k||decide (k=v));have z:=aj A rc;have y:=(n.below A).frz f;have q:=a8 (I.o _ L);go_simp;refine Z undef _ ⟨trivial,fun c=>by simp at c,fun _=> ?_⟩;simp only[eh,aQ,aX,Act.put,aA,aK,aJ];go_wp2_with fail;go_roundw
      case rel=>first
       |exact q.o
       |((repeat apply iP);exact⟨q.o,rfl⟩)
      case measure=>simp[intOf];omega
     ·have aY:(op==8)=false:=bj.2 ho;have q:PN (EB d f s.length w (ag ((j+1:Nat):Int)) (wr.alloc (.cells #[ag op,ag a,ag b,ag t,.slice ps sp.length Y] 177))):=⟨j+1,rfl,by omega,by rw[<-LS E ho];exact H⟩
      generalize a9:wr.alloc (.cells #[ag op,ag a,ag b,ag t,.slice ps sp.length Y] 177)=wI at*;go_wp2_with fail;go_roundw
      case rel=>first
       |exact q.o
       |((repeat apply iP);exact⟨q.o,rfl⟩)
      case measure=>simp[intOf];omega
    ·have R: ¬(j:Int)<(s.length:Int):=(by omega);have q:PN (EA d w (ag ((f+1:Nat):Int)) wr):=⟨f+1,rfl,by omega,by rw[<-Nq (j:=j) (by rw[X.o];show s.length<=j;omega)];exact n⟩
     go_wp2_with fail;go_roundw
     case rel=>first
      |exact q.o
      |((repeat apply iP);exact⟨q.o,rfl⟩)
     case measure=>simp[intOf];omega
  ·have af: ¬(f:Int)<(d.length:Int):=(by omega)
   have a7:UcM w d.length (wE (gh d) 0 0) wr:=C.same fun r k hr _=>by
    unfold cE wE;rw[aD (by omega),ax (by omega)];rfl
   have av:=a8 a7;go_wp2_with fail;have n:=av.o;go_loopw [43] (fun t wr=>EC d w t wr) (fun t _=>d.length-(intOf t).toNat);case atStart=>exact⟨0,rfl,by omega,n⟩
   case round=>
    obtain⟨m,rfl,hm,D⟩:=hrel;have aW:(0:Int)<=(m:Int):=(by omega);by_cases ai:m<d.length
    ·have S:(m:Int)<(d.length:Int):=(by omega);have aw:=a8 D;go_wp2_with fail;have D:=aw.o;go_loopw [48] (fun t wr=>ED d m w t wr) (fun t _=>d.length-(intOf t).toNat);case atStart=>exact⟨0,rfl,by omega,D⟩
     case round=>
      obtain⟨f,rfl,hi,n⟩:=hrel;have aZ:(0:Int)<=(f:Int):=(by omega);by_cases al:f<d.length
      ·have T:(f:Int)<(d.length:Int):=(by omega);have rc:=n.cell al;have rm:=n.cell ai;have cH:=DL (wE (gh d) m f f) m (by omega) wr;cases hb:wE (gh d) m f f m with
       |true=>
        rw[hb]at cH;have I:PN (∀W,UcM w d.length (pA (wE (gh d) m f) f (fun k=>wE (gh d) m f f k||wE (gh d) m f m k)) W->ED d m w (ag ((f+1:Nat):Int)) W):=fun W L=>⟨f+1,rfl,by omega,L.same fun r k _ _=>Nr hb r k⟩
        generalize wE (gh d) m f=St at*;have J:=a8 (LQ (St f) (St m));go_wp2_with fail;refine cH.mono ?_;rintro e w1 ⟨rfl,rfl⟩;go_wp2_with fail;refine jN 10 [kn 57 (.slice (some (ae w.heap.size 0)) d.length d.length),kn 58 (ag (f:Int)),kn 59 (ab w.heap.size f),kn 60 (.int .u64 (wd (St f) 0:Int)),kn 61 (.slice (some (ae w.heap.size 0)) d.length d.length),kn 62 (ag (m:Int)),kn 63 (ab w.heap.size m),kn 64 (.int .u64 (wd (St m) 0:Int)),kn 65 (.int .u64 (wd (fun k=>St f k||St m k) 0:Int)),kn 66 (ab w.heap.size f),nk] (by kernel_rfl) (by kernel_rfl) fun M φ W _ A F l hl hF=> ?_;have aC:=aj A rc;have aF:=aj A rm;have aG:=J.o;simp only[kn,nk,dW,aQ,aX,Act.put,aA,aK,aJ]at hl;subst hl;simp only[cZ,Nat.reduceAdd]at hF;dsimp only[kn,nk,dB,eN,eg,Act.put];and_intros;all_goals first|exact trivial|intro hw hn hm K Z
        all_goals try (go_simp;with_reducible exact Z _ _ ⟨rfl,aI _ _⟩)
        have L:=(n.below A).set f (fun k=>St f k||St m k);have z:=aj A rc;have y:=(n.below A).frz f;have q:=a8 (I.o _ L);go_simp;refine Z undef _ ⟨trivial,fun c=>by simp at c,fun _=> ?_⟩;simp only[eh,aQ,aX,Act.put,aA,aK,aJ];go_wp2_with fail;go_roundw
        case rel=>first
         |exact q.o
         |((repeat apply iP);exact⟨q.o,rfl⟩)
        case measure=>simp[intOf];omega
       |false=>
        rw[hb]at cH;have q:PN (ED d m w (ag ((f+1:Nat):Int)) wr):=⟨f+1,rfl,by omega,n.same fun r k _ _=>OG hb r k⟩
        generalize wE (gh d) m f=St at*;go_wp2_with fail;refine cH.mono ?_;rintro e w1 ⟨rfl,rfl⟩;go_wp2_with fail;go_roundw
        case rel=>first
         |exact q.o
         |((repeat apply iP);exact⟨q.o,rfl⟩)
        case measure=>simp[intOf];omega
      ·have T: ¬(f:Int)<(d.length:Int):=(by omega)
       have q:PN (EC d w (ag ((m+1:Nat):Int)) wr):=⟨m+1,rfl,by omega,n.same fun r k hr _=>by
        unfold wE;rw[aD (by omega),ax (by omega)]⟩
       go_wp2_with fail;go_roundw
       case rel=>first
        |exact q.o
        |((repeat apply iP);exact⟨q.o,rfl⟩)
       case measure=>simp[intOf];omega
    ·have S: ¬(m:Int)<(d.length:Int):=(by omega)
     have q:PN (UcM w d.length (wars (gh d) d.length) wr):=by
      show UcM _ _ _ _;have e:m=d.length:=(by omega);subst e;exact D.same fun r k _ _=>(by unfold wE;rw[ax (by omega)])
     go_wp2_with fail;go_ret;exact⟨rfl,q.o⟩
namespace Vx
section
variable {cs:List Cd} {l:List In}
theorem xw (x:In): -1<=eff x/\eff x<=1:=by
 unfold eff;split
 ·omega
 ·split<;>omega
theorem OI (x:In):0<=tk x/\tk x<=2:=by
 unfold tk;split
 ·omega
 ·split<;>omega
theorem mY: ∀j:Nat,-(j:Int)<=hAt l j/\hAt l j<=j
 |0=>by simp[hAt]
 |j+1=>by
  have a:=mY j;have b:=xw (l.getD j in0);simp only[hAt];omega
theorem rQ (b: ∀i,(cs.getD i cd0).high<=100): ∀j:Nat,0<=mxH cs l j/\mxH cs l j<=j+100
 |0=>by simp[mxH]
 |j+1=>by
  have c:=rQ b j;have d:=mY (l:=l) j;have e:=mY (l:=l) (j+1);have f:=b (l.getD j in0).a.toNat;simp only[mxH];split<;>omega
theorem rR (b: ∀i,0<=(cs.getD i cd0).steps/\(cs.getD i cd0).steps<=20000): ∀j:Nat,(j:Int)<=stS cs l j/\stS cs l j<=j*20001
 |0=>by simp[stS]
 |j+1=>by
  have c:=rR b j;have d:=b (l.getD j in0).a.toNat;simp only[stS];split<;>omega
theorem LV (h: ∀(i:Nat) (c:Cd),cs[i]? =some c->aloneE c cs.length=0)(i:Nat):(cs.getD i cd0).high<=100:=by
 cases hi:cs[i]? with
 |none=>simp[List.getD,hi,cd0]
 |some c=>
  rw[jd hi];have:=(jx (h i c hi)).2.1;omega
theorem JJ (h: ∀(i:Nat) (c:Cd),cs[i]? =some c->aloneE c cs.length=0)(i:Nat):0<=(cs.getD i cd0).steps/\(cs.getD i cd0).steps<=20000:=by
 cases hi:cs[i]? with
 |none=>simp[List.getD,hi,cd0]
 |some c=>
  rw[jd hi];have:=(jx (h i c hi)).2.1;omega
def agB (L:List (Int×Int))(p h:Int):Bool:=match lk L p with
 |none=>true
 |some v=>decide (v=h)
theorem sx {L:List (Int×Int)}{p h:Int}(e:agB L p h=true): ∀v,lk L p=some v->v=h:=fun v a=>by
 unfold agB at e;rw[a]at e;simpa using e
theorem qO {L:List (Int×Int)}{p h:Int}(e:agB L p h=false): ∃v,lk L p=some v/\v≠h:=by
 unfold agB at e;cases hl:lk L p with
 |none=>rw[hl]at e;cases e
 |some v=>rw[hl]at e;exact⟨v,rfl,by simpa using e⟩
theorem LW {L:List (Int×Int)}{p h:Int}:agB L p h=true↔ ∀v,lk L p=some v->v=h:=by
 constructor
 ·exact sx
 ·intro c;cases e:agB L p h with
  |true=>rfl
  |false=>
   obtain⟨v,a,b⟩:=qO e;exact absurd (c v a) b
end
end Vx
theorem AO:prog.underlying 274=some (.map 3 3):=by kernel_rfl
theorem uJ:prog.underlying 3=some (.int .i64):=by kernel_rfl
def kv9 (e:MapEntry):Value×Value:=(e.key,e.val)
def tE (L:List (Int×Int)):List (Value×Value):=L.map fun n=>(ag n.1,ag n.2)
def tF (w:World)(b:Nat)(L:List (Int×Int)):Prop:= ∃a c,w.heap[b]? =some (.map a c)/\a.toList.map kv9=tE L
theorem tF.later {w w':World}{b:Nat}{L:List (Int×Int)}(h:tF w b L)(f:w'.heap[b]? =w.heap[b]?):tF w' b L:=by
 obtain⟨a,c,d,e⟩:=h;exact⟨a,c,f.trans d,e⟩
theorem E3 {w:World}{b:Nat}{L:List (Int×Int)}(h:tF w b L):b<w.heap.size:=by
 obtain⟨d,c,a,_⟩:=h;exact(di.1 a).1
theorem E4 (k:Int): ∀(c:List MapEntry) (L:List (Int×Int)) (i:Nat),c.map kv9=tE L->(∃v j,lk L k=some v/\Instr.findNow (.int .i64) (ag k) c i=some (some (i+j,ag v))/\(c[j]?).map kv9=some (ag k,ag v)/\ ∀a,tE (upL L k a)=(c.map kv9).set j (ag k,ag a))\/(lk L k=none/\Instr.findNow (.int .i64) (ag k) c i=some none/\ ∀a,upL L k a=L++[(k,a)])
 |[],[],i,_=> .inr ⟨rfl,rfl,fun _=>rfl⟩
 |[],_::_,i,h=>by simp[tE]at h
 |_::_,[],i,h=>by simp[tE]at h
 |e::c,n::L,i,h=>by
  simp only[tE,dI,List.cons.injEq]at h;obtain⟨d,l⟩:=h;have o:e.key=ag n.1:=congrArg Prod.fst d;have s:e.val=ag n.2:=congrArg Prod.snd d;have r:Instr.sameNow (.int .i64) (ag k) e.key=some (k==n.1):=(by rw[o];simp[Instr.sameNow]);simp only[Instr.findNow,r];by_cases b:k=n.1
  ·left;refine⟨n.2,0,by simp[lk,b],?_,?_,fun a=> ?_⟩
   ·simp[b,s]
   ·simp only[List.getElem?_cons_zero,Option.map_some,d,b]
   ·have p:c.map kv9=tE L:=l;simp only[upL,aD b,dI,aJ,p];rfl
  ·have e2:(k==n.1)=false:=(by simpa using b);rw[e2];rcases E4 k c L (i+1) l with⟨v,j,m,f,g,q⟩|⟨m,f,q⟩
   ·left;refine⟨v,j+1,by simp[lk,b,m],by rw[show i+(j+1)=i+1+j by omega];exact f,by simpa using g,fun a=> ?_⟩;simp only[upL,ax b,dI,aK,<-q a,d];rfl
   ·right;refine⟨by simp[lk,b,m],f,fun a=> ?_⟩;simp only[upL,ax b,q a,List.cons_append]
theorem OJ {w:World}{b:Nat}{L:List (Int×Int)}(h:tF w b L)(k:Int):(Instr.lookup 274 (.map (some b)) (ag k) true).run prog w= .ok (.tuple #[ag ((lk L k).getD 0),.bool (lk L k).isSome]) w:=by
 obtain⟨g,c,e,i⟩:=h;have f: ∀z,(Instr.checkKey z 10000 3 (ag k)).run prog w= .ok () w:=fun z=>MapKept.run_checkKey (k:=ag k) uJ (by simp[MapKept.IsKey]) z 9999;have l:(zeroValue 3).run prog w= .ok (ag 0) w:=by kernel_rfl
 rcases E4 k g.toList L 0 i with⟨v,j,a,d,_,_⟩|⟨a,d,_⟩
 ·simp[Instr.lookup,fR AO,fN e,f,gH uJ d,Result.andThen,a]
 ·simp[Instr.lookup,fR AO,fN e,f,gH uJ d,l,Result.andThen,a]
def sy (w:World)(b:Nat)(o:Obj):World:={w with heap:=w.heap.setIfInBounds b o}
theorem xy {r n:Nat}{a w:World}(h:Below n a w)(c:n<=r)(o:Obj):Below n a (sy w r o):=
 ⟨h.os,h.tape,h.output,by simpa[sy] using h.size,fun k b=>by
   rw[<-h.block k b];show(w.heap.setIfInBounds r o)[k]? =_;rw[dn (by omega)]⟩
theorem xz {r k:Nat}{w:World}(o:Obj)(h:k≠r):(sy w r o).heap[k]? =w.heap[k]? :=by
 show(w.heap.setIfInBounds r o)[k]? =_;rw[dn (by omega)]
theorem Ns {w:World}{b:Nat}{L:List (Int×Int)}(h:tF w b L)(k v:Int): ∃o,(Instr.mapUpdate 274 (.map (some b)) (ag k) (ag v)).run prog w= .ok () (sy w b o)/\tF (sy w b o) b (upL L k v):=by
 obtain⟨a,c,g,r⟩:=h;have s:(Instr.checkKey false 10000 3 (ag k)).run prog w= .ok () w:=MapKept.run_checkKey (k:=ag k) uJ (by simp[MapKept.IsKey]) false 9999;rcases E4 k a.toList L 0 r with⟨A,j,t,l,f,n⟩|⟨t,l,n⟩
 ·have p:(Instr.keyThatStays (ag k) (ag k)).run prog w= .ok (ag k) w:=MapKept.run_keyThatStays (d:= .int .i64) (by simp[MapKept.IsKey])
  have i:(Option.map (fun x=>x.key) a[j]?).getD (ag k)=ag k:=by
   rw[bp]at f;cases he:a[j]? with
   |none=>rfl
   |some e=>
    rw[he]at f;simp[kv9]at f;simp[f.1]
  refine⟨.map (a.modify j fun e=>{e with key:=ag k,val:=ag v}) c,?_,_,c,(MapKept.heap_set g).1,?_⟩
  ·rw[bN]at l;simp[Instr.mapUpdate,fR AO,fN g,s,gH uJ l,i,p,MapKept.run_setObj_map _ g,Result.andThen,sy]
  ·rw[n v];rw[bp]at f;apply List.ext_getElem?;intro q;simp only[bg,bp,Array.getElem?_modify,List.getElem?_set];by_cases m:j=q
   ·subst m;rw[aD rfl,aD rfl];cases he:a[j]? with
    |none=>rw[he]at f;simp at f
    |some e=>
     have u:j<a.size:=(di.1 he).1;simp[kv9,u]
   ·rw[ax m,ax m]
 ·refine⟨.map (a.push ⟨ag k,ag v,c⟩) (c+1),?_,_,c+1,(MapKept.heap_set g).1,?_⟩
  ·simp[Instr.mapUpdate,fR AO,fN g,s,gH uJ l,MapKept.run_setObj_map _ g,Result.andThen,sy]
  ·rw[n v,Array.toList_push,dN,r];simp[tE,kv9]
theorem OK (w:World):(Instr.makeMap 274 none).run prog w= .ok (.map (some w.heap.size)) (w.alloc (.map #[] 0)):=by
 unfold Instr.makeMap;simp[go_sem]
structure MmI (w:World)(L:List (Int×Int))(W:World):Prop where
 bel:aq w W
 map:tF W w.heap.size L
 var:W.heap[w.heap.size+1]? =ah #[.map (some w.heap.size)] 274
theorem MmI.below {w W b:World}{L:List (Int×Int)}(h:MmI w L W)(a:aq W b):MmI w L b:=
 ⟨aw h.bel a,h.map.later (a.block _ (E3 h.map)),ai a h.var⟩
theorem pM (L:List (Int×Int))(p h:Int)(w W:World)(d:MmI w L W):Calls prog 205 #[ag p,ag h,ab (w.heap.size+1) 0] W fun e w'=>e= .returned (.bool (agB L p h))/\w'=W:=by
 have a:=OJ d.map p;have z:=ak 0 d.var;generalize b:agB L p h=X;unfold agB at b;clear d;cases hl:lk L p with
 |none=>
  rw[hl]at a b;have c:(Instr.lookup 274 (.map (some w.heap.size)) (ag p) true).run prog W= .ok (.tuple #[ag 0,.bool false]) W:=a;dsimp only at b;subst b;clear a hl;go_enter func205,ntmps205;go_wp2_with fail;go_ret;exact⟨rfl,rfl⟩
 |some v=>
  rw[hl]at a b;have c:(Instr.lookup 274 (.map (some w.heap.size)) (ag p) true).run prog W= .ok (.tuple #[ag v,.bool true]) W:=a;dsimp only at b;have f:(v==h)=X:=(by rw[<-b];rfl);clear a hl b;go_enter func205,ntmps205;go_wp2_with fail;go_ret;exact⟨rfl,rfl⟩
def E5 (a:List Cd)(l:List In)(h s:Int)(b:Bool):Prop:=(b=true↔ma l)/\(b=true->h=mxH a l l.length/\s=stS a l l.length)
def OL (b:List Cd)(l:List In)(w:World)(e:Ending)(w':World):Prop:= ∃(h s:Int) (a:Bool),e= .returned (.tuple #[ag h,ag s,.bool a])/\E5 b l h s a/\aq w w'
theorem uK {cs:List Cd}{l:List In}(h: ¬ma l):E5 cs l 0 0 false:=⟨⟨fun e=>(by cases e),fun e=>absurd e h⟩,fun e=>(by cases e)⟩
def E6 (b:List Cd)(l:List In)(w:World)(c d e a:Value)(wr:World):Prop:= ∃(j:Nat) (L:List (Int×Int)),a=ag (j:Int)/\j<=l.length/\e=ag (hAt l j)/\c=ag (mxH b l j)/\d=ag ((l.length:Int)+(stS b l j-j))/\lQ l j L/\MmI w L wr
theorem uL {i:List Cd}{l:List In}{w W:World}{a b c d e f g j:Int}(h:E6 i l w (ag a) (ag b) (ag c) (ag d) W)(k:e=a)(e2:f=b)(m:g=c)(n:j=d):E6 i l w (ag e) (ag f) (ag g) (ag j) W:=by
 subst k e2 m n;exact h
theorem BJ (d:List Cd)(l:List In)(lv sv:Value)(w:World)(h:InV w lv d)(hs:oS w sv l)(af: ∀(i:Nat) (c:Cd),d[i]? =some c->aloneE c d.length=0)(bb:l.length<=2000)(ao: ∀(j:Nat) (x:In),l[j]? =some x->fO x j l.length d.length=0):
  Calls prog 182 #[lv,sv] w (OL d l w):=by
 obtain⟨p,cp,rfl,aP,hc⟩:=h.form;obtain⟨pu,cu,rfl,bc,av⟩:=hs.form;have HC:=a8 hc;have y:=a8 av;have z:=a8 ao;have r:=a8 (LV af);have A:=a8 af;have s:=a8 (JJ af);have q:PN (Tos l):=fun j x hx V=>rN (ao j x hx) V;have b1:=am w (.map #[] 0);have b2:=b1.alloc b1.size (.cells #[.map (some w.heap.size)] 274);have a6:=OK w;have s1:(w.alloc (.map #[] 0)).heap.size=w.heap.size+1:=by simp
 have ad:MmI w [] ((w.alloc (.map #[] 0)).alloc (.cells #[.map (some w.heap.size)] 274)):=by
  refine⟨b2,⟨#[],0,(dL _ _ _ (by rw[s1];omega)).trans (aE w _),rfl⟩,?_⟩;have:=aE (w.alloc (.map #[] 0)) (.cells #[.map (some w.heap.size)] 274);rw[s1]at this;exact this
 have aZ:(0:Int)<=(l.length:Int):=by omega
 have ba:(l.length:Int)<=2000:=by omega
 have aq:=a8 ad;have bd: ∀(fn:Fn) (first cap:Array Value) (w:World),(Instr.makeFunc fn first cap).run prog w= .ok (.func fn first cap) w:=fun _ _ _ _=>rfl;generalize aC:(w.alloc (.map #[] 0)).alloc (.cells #[.map (some w.heap.size)] 274)=wB at*;clear h hs hc av af ao b1 b2 ad s1;go_enter func182,ntmps182;go_wp2_with fail;clear a6 aC;have ad:=aq.o;clear aq;go_loopw [4,5,7,20] (fun t4 t5 t7 aF wr=>E6 d l w t4 t5 t7 aF wr) (fun _ _ _ t _=>l.length-(intOf t).toNat);case atStart=>exact⟨0,[],rfl,by omega,rfl,rfl,by simp[stS],lQ.nil l,ad⟩
 case round=>
  obtain⟨j,L,rfl,hj,rfl,rfl,rfl,I,hm⟩:=hrel;clear ad;have aX:(0:Int)<=(j:Int):=(by omega);have a0:=mY (l:=l) j;have a1:=rQ (l:=l) r.o j;have a2:=rR (l:=l) s.o j;obtain⟨aG,aH⟩:=a0;obtain⟨aI,aJ⟩:=a1;obtain⟨aK,aL⟩:=a2;have aY:(j:Int)<=2000:=(by omega);have aM:stS d l j<=50000000:=(by omega);by_cases a5:j<l.length
  ·have aw:(j:Int)<(l.length:Int):=(by omega);obtain⟨x,g⟩: ∃x,l[j]? =some x:=⟨l[j],az a5⟩
   obtain⟨sk,al,g2,o2,ap,e0,e1,e2,e3,e4⟩:=y.o j _ g;subst ap;have d0:=aj hm.bel e0;have d1:=aj hm.bel e1;have d2:=aj hm.bel e2;have d3:=aj hm.bel e3;have d4:=aj hm.bel e4;have hE:=z.o j _ g;have Q:=jG g;have E:=kN (cs:=d) g;have F:=jY (cs:=d) g;have a7:=OI x;have a4:=xw x;have cX:=BG x;obtain⟨ps,ck,rfl,_,_⟩:=al.form;have bI:=am wr (.cells #[ag x.op,ag x.a,ag x.b,ag x.to,.slice ps x.sp.length ck] 177);have ah:=aE wr (.cells #[ag x.op,ag x.a,ag x.b,ag x.to,.slice ps x.sp.length ck] 177);have z0:=ak 0 ah;have z1:=ak 1 ah;have z3:=ak 3 ah;have f:=hm.below bI;generalize be:wr.alloc (.cells #[ag x.op,ag x.a,ag x.b,ag x.to,.slice ps x.sp.length ck] 177)=wI at*;have C:=pM L (j:Int) (hAt l j) w wI f;have m:=cX wI;obtain⟨aQ,aR⟩:=a7;obtain⟨aN,aO⟩:=a4;clear cX al e0 e1 e2 e3 e4 bI ah hm;by_cases G:hAt l j<tk x
   ·have P:=a8 (uK (cs:=d) (Nm g G));have HB:=a8 f.bel;clear C hE Q E F I f HC y z r s q A g;generalize hAt l j=Z at*;generalize tk x=S at*;generalize mxH d l j=X at*;generalize stS d l j=ss at*;go_wp2_with fail;refine m.mono ?_;rintro e H ⟨rfl,rfl⟩;clear m;go_wp2_with fail;exact aW (v:= .tuple #[ag 0,ag 0,.bool false]) (by simp[results,results182,go_sem]) rfl ⟨0,0,false,rfl,P.o,HB.o⟩
   ·have aS: ¬hAt l j<tk x:=G;cases hag:agB L (j:Int) (hAt l j) with
    |false=>
     obtain⟨v,N,O⟩:=qO hag;have P:=a8 (uK (cs:=d) (I.not_met N O));have HB:=a8 f.bel;rw[hag]at C;clear hag hE Q E F I f HC y z r s q A g N O G;generalize hAt l j=Z at*;generalize tk x=S at*;generalize mxH d l j=X at*;generalize stS d l j=ss at*;go_wp2_with fail;refine m.mono ?_;rintro e H ⟨rfl,rfl⟩;clear m;go_wp2_with fail;refine C.mono ?_;rintro e H ⟨rfl,rfl⟩;clear C;go_wp2_with fail;exact aW (v:= .tuple #[ag 0,ag 0,.bool false]) (by simp[results,results182,go_sem]) rfl ⟨0,0,false,rfl,P.o,HB.o⟩
    |true=>
     rw[hag]at C;have n:=sx hag;clear hag;have ae:tk x<=hAt l j:=(by omega);have D:PN (∀(W:World) (L':List (Int×Int)),lQ l (j+1) L'->MmI w L' W->E6 d l w (ag (mxH d l (j+1))) (ag ((l.length:Int)+(stS d l (j+1)-((j+1:Nat):Int)))) (ag (hAt l (j+1))) (ag ((j+1:Nat):Int)) W):=fun W L' h1 h2=>⟨j+1,L',rfl,by omega,rfl,rfl,rfl,h1,h2⟩
     by_cases k:x.op=6
     ·have V:isG x:= .inl k;have a9:=rN hE V;have U:=pM L x.to (hAt l j+1) w wI f;have J:eff x=0:=(by unfold eff;rw[ax (by omega),ax (by omega)]);have R: ¬x.op=8:=(by omega);rw[ax R]at E F;have ac:(x.op==6)=true:=(by rw[k];rfl);cases hag2:agB L x.to (hAt l j+1) with
      |false=>
       obtain⟨v,N,O⟩:=qO hag2;have P:=a8 (uK (cs:=d) (I.not_two g V N O));have HB:=a8 f.bel;rw[hag2]at U;clear hag2 hE Q E F I f HC y z r s q A g N O G D n V J R k;generalize hAt l j=Z at*;generalize tk x=S at*;generalize mxH d l j=X at*;generalize stS d l j=ss at*;go_wp2_with fail;refine m.mono ?_;rintro e H ⟨rfl,rfl⟩;clear m;go_wp2_with fail;refine C.mono ?_;rintro e H ⟨rfl,rfl⟩;clear C;go_wp2_with fail;refine U.mono ?_;rintro e H ⟨rfl,rfl⟩;clear U;go_wp2_with fail;exact aW (v:= .tuple #[ag 0,ag 0,.bool false]) (by simp[results,results182,go_sem]) rfl ⟨0,0,false,rfl,P.o,HB.o⟩
      |true=>
       rw[hag2]at U;have B:=I.stepG q.o g ae n V (sx hag2);obtain⟨ob,aA,hM⟩:=Ns f.map x.to (hAt l j+1);have aa:MmI w (upL L x.to (hAt l j+1)) (sy wI w.heap.size ob):=⟨xy f.bel (aB _) ob,hM,(xz ob (by omega)).trans f.var⟩
       have HN:=a8 (D.o _ _ B aa);have zv:=ak 0 f.var;clear hag2 hE I f HC y z r s q A g G D n V R k B hM aa;rw[J]at Q m;generalize hAt l (j+1)=h1 at*;generalize mxH d l (j+1)=m1 at*;generalize stS d l (j+1)=s1 at*;generalize hAt l j=Z at*;generalize mxH d l j=X at*;generalize stS d l j=ss at*;generalize tk x=S at*;go_wp2_with fail;refine m.mono ?_;rintro e H ⟨rfl,rfl⟩;clear m;go_wp2_with fail;refine C.mono ?_;rintro e H ⟨rfl,rfl⟩;clear C;go_wp2_with fail;refine U.mono ?_;rintro e H ⟨rfl,rfl⟩;clear U;go_wp2_with fail;have e1:Z+(S+0-S)=h1:=(by omega);have e2:max X (Z+(S+0-S))=m1:=(by omega);go_roundw;case rel=>exact uL HN.o (by split<;>omega) (by omega) (by omega) (by omega)
       case measure=>simp[intOf];omega
     by_cases K:x.op=7
     ·have k:=K;clear K;have V:isG x:= .inr k;have a9:=rN hE V;have U:=pM L x.to (hAt l j+1) w wI f;have J:eff x=0:=(by unfold eff;rw[ax (by omega),ax (by omega)]);have R: ¬x.op=8:=(by omega);rw[ax R]at E F;have ac:(x.op==6)=false:=(by rw[k];rfl);have ai:(x.op==7)=true:=(by rw[k];rfl);cases hag2:agB L x.to (hAt l j+1) with
      |false=>
       obtain⟨v,N,O⟩:=qO hag2;have P:=a8 (uK (cs:=d) (I.not_two g V N O));have HB:=a8 f.bel;rw[hag2]at U;clear hag2 hE Q E F I f HC y z r s q A g N O G D n V J R k;generalize hAt l j=Z at*;generalize tk x=S at*;generalize mxH d l j=X at*;generalize stS d l j=ss at*;go_wp2_with fail;refine m.mono ?_;rintro e H ⟨rfl,rfl⟩;clear m;go_wp2_with fail;refine C.mono ?_;rintro e H ⟨rfl,rfl⟩;clear C;go_wp2_with fail;refine U.mono ?_;rintro e H ⟨rfl,rfl⟩;clear U;go_wp2_with fail;exact aW (v:= .tuple #[ag 0,ag 0,.bool false]) (by simp[results,results182,go_sem]) rfl ⟨0,0,false,rfl,P.o,HB.o⟩
      |true=>
       rw[hag2]at U;have B:=I.stepG q.o g ae n V (sx hag2);obtain⟨ob,aA,hM⟩:=Ns f.map x.to (hAt l j+1);have aa:MmI w (upL L x.to (hAt l j+1)) (sy wI w.heap.size ob):=⟨xy f.bel (aB _) ob,hM,(xz ob (by omega)).trans f.var⟩
       have HN:=a8 (D.o _ _ B aa);have zv:=ak 0 f.var;clear hag2 hE I f HC y z r s q A g G D n V R k B hM aa;rw[J]at Q m;generalize hAt l (j+1)=h1 at*;generalize mxH d l (j+1)=m1 at*;generalize stS d l (j+1)=s1 at*;generalize hAt l j=Z at*;generalize mxH d l j=X at*;generalize stS d l j=ss at*;generalize tk x=S at*;go_wp2_with fail;refine m.mono ?_;rintro e H ⟨rfl,rfl⟩;clear m;go_wp2_with fail;refine C.mono ?_;rintro e H ⟨rfl,rfl⟩;clear C;go_wp2_with fail;refine U.mono ?_;rintro e H ⟨rfl,rfl⟩;clear U;go_wp2_with fail;have e1:Z+(S+0-S)=h1:=(by omega);have e2:max X (Z+(S+0-S))=m1:=(by omega);go_roundw;case rel=>exact uL HN.o (by split<;>omega) (by omega) (by omega) (by omega)
       case measure=>simp[intOf];omega
     by_cases M:x.op=8
     ·have k:=M;clear M K;have a3:=vN hE k;obtain⟨Y,ar⟩: ∃Y:Nat,x.a=(Y:Int):=⟨x.a.toNat,by omega⟩
      have au:Y<d.length:=(by omega);have aT:(0:Int)<=(Y:Int):=(by omega);have aU:(Y:Int)<(d.length:Int):=(by omega);obtain⟨u,hu⟩: ∃u,d[Y]? =some u:=⟨d[Y],az au⟩
      obtain⟨su,_,g3,o3,ap,k0,k1,k2⟩:=HC.o Y _ hu;subst ap;have q1:=aj f.bel k1;have q2:=aj f.bel k2;have v1:=r.o Y;have v2:=s.o Y;have v3:=(jx (A.o Y _ hu)).2.1.1.1;rw[aD k,show x.a.toNat=Y by omega]at E F;rw[jd hu]at E F v1 v2;obtain⟨bf,bg⟩:=v2;have J:eff x=1:=(by unfold eff;rw[aD (.inr k)]);have ac:(x.op==6)=false:=(by rw[k];rfl);have ai:(x.op==7)=false:=(by rw[k];rfl);have ay:(x.op==8)=true:=(by rw[k];rfl);have ab: ¬isG x:=(by unfold isG;omega);have B:=I.step q.o g ae n ab;have HN:=a8 (D.o _ _ B f);rw[ar]at z1;clear ar a3;clear hE I f HC y z r s q A g G D n k B ab k0 k1 k2 hu;rw[J]at Q m;clear J;generalize u.high=uh at*;generalize u.steps=us at*;generalize hAt l (j+1)=h1 at*;generalize mxH d l (j+1)=m1 at*;generalize stS d l (j+1)=s1 at*;generalize hAt l j=Z at*;generalize mxH d l j=X at*;generalize stS d l j=ss at*;generalize tk x=S at*;go_wp2_with fail;refine m.mono ?_;rintro e H ⟨rfl,rfl⟩;clear m;go_wp2_with fail;refine C.mono ?_;rintro e H ⟨rfl,rfl⟩;clear C;go_wp2_with fail;go_roundw;case rel=>exact uL HN.o (by repeat (first|omega|split)) (by omega) (by omega) (by omega)
      case measure=>simp[intOf];omega
     ·have ac:(x.op==6)=false:=bj.2 k;have ai:(x.op==7)=false:=bj.2 K;have ay:(x.op==8)=false:=bj.2 M;rw[ax M]at E F;have ab: ¬isG x:=(by unfold isG;omega);have B:=I.step q.o g ae n ab;have HN:=a8 (D.o _ _ B f);clear hE I f HC y z r s q A g G D n k K M B ab;generalize hAt l (j+1)=h1 at*;generalize mxH d l (j+1)=m1 at*;generalize stS d l (j+1)=s1 at*;generalize hAt l j=Z at*;generalize mxH d l j=X at*;generalize stS d l j=ss at*;generalize tk x=S at*;generalize eff x=ee at*;go_wp2_with fail;refine m.mono ?_;rintro e H ⟨rfl,rfl⟩;clear m;go_wp2_with fail;refine C.mono ?_;rintro e H ⟨rfl,rfl⟩;clear C;go_wp2_with fail;go_roundw;case rel=>exact uL HN.o (by repeat (first|omega|split)) (by omega) (by omega) (by omega)
      case measure=>simp[intOf];omega
  ·have aw: ¬(j:Int)<(l.length:Int):=(by omega);have ej:j=l.length:=(by omega);subst ej;have C:=pM L (l.length:Int) (hAt l l.length) w wr hm;by_cases T:hAt l l.length=1
   ·have HU:PN (E5 d l (mxH d l l.length) ((l.length:Int)+(stS d l l.length-(l.length:Int))) (agB L (l.length:Int) (hAt l l.length))):=by
     refine⟨?_,fun _=>⟨rfl,by omega⟩⟩;rw[LW,<-I.fin q.o];exact⟨fun e=>⟨T,e⟩,fun e=>e.2⟩
    have HB:=a8 hm.bel;clear I hm HC y z r s q A;rw[T]at C HU⊢;generalize mxH d l l.length=X at*;generalize stS d l l.length=ss at*;generalize agB L (l.length:Int) 1=ok at*;go_wp2_with fail;refine C.mono ?_;rintro e H ⟨rfl,rfl⟩;clear C;go_wp2_with fail;exact aW (v:= .tuple #[ag X,ag ((l.length:Int)+(ss-(l.length:Int))),.bool ok]) (by simp[results,results182,go_sem]) rfl ⟨_,_,_,rfl,HU.o,HB.o⟩
   ·have aV:(hAt l l.length==1)=false:=bj.2 T;have HU:PN (E5 d l (mxH d l l.length) ((l.length:Int)+(stS d l l.length-(l.length:Int))) false):=⟨⟨fun e=>(by cases e),fun e=>absurd e.fin T⟩,fun e=>(by cases e)⟩
    have HB:=a8 hm.bel;clear I hm HC y z r s q A C;generalize mxH d l l.length=X at*;generalize stS d l l.length=ss at*;generalize hAt l l.length=Z at*;go_wp2_with fail;exact aW (v:= .tuple #[ag X,ag ((l.length:Int)+(ss-(l.length:Int))),.bool false]) (by simp[results,results182,go_sem]) rfl ⟨_,_,_,rfl,HU.o,HB.o⟩
theorem G9 (b:List Cd)(lv:Value)(q:Nat)(w:World)(h:InV w lv b)(r: ∀(i:Nat) (c:Cd),b[i]? =some c->aloneE c b.length=0)(C:q<b.length):
  Calls prog 153 #[lv,ag (q:Int)] w fun e w'=>e= .returned (.bool (rA b (b.getD q cd0)))/\aq w w':=by
 obtain⟨p,S,A,L,K⟩:=h.form;obtain⟨u,y⟩: ∃u,b[q]? =some u:=⟨b[q],az C⟩
 obtain⟨sv,n,g,o,rfl,e0,H,e2⟩:=K q u y;have m:=jx (r q u y);rw[jd y];generalize J:rA b u=X;have O:(0:Int)<=(q:Int):=by omega
 have P:(q:Int)<(b.length:Int):=by omega
 obtain⟨j,hi,st⟩:=u;dsimp only at n H e2 m;obtain⟨z,v,rfl,_,_⟩:=n.form;have t:=am w (.cells #[.slice z j.length v,ag hi,ag st] 140);have s:=aE w (.cells #[.slice z j.length v,ag hi,ag st] 140);generalize D:w.alloc (.cells #[.slice z j.length v,ag hi,ag st] 140)=Q at*;have G:=BJ b j lv (.slice z j.length v) Q (h.below t) (n.below t) r m.1.2 m.2.2;subst A;have R:=ak 0 s;clear h K r n y m;go_enter func153,ntmps153;go_wp2_with fail;refine G.mono ?_;rintro e T ⟨B,F,E,rfl,I,b1⟩;have k:=ai b1 s;have U:=ak 1 k;have V:=ak 2 k;have x:=aw t b1;clear G b1 t s k R D e0 H e2
 have a:X=(E&&(decide (B=hi)&&decide (F=st))):=by
  obtain⟨u1,u2⟩:=I;subst J;cases E with
  |false=>
   cases hf:rA b ⟨j,hi,st⟩ with
   |false=>rfl
   |true=>exact absurd (u1.2 (om.1 hf).well) (by simp)
  |true=>
   obtain⟨rfl,rfl⟩:=u2 rfl;by_cases f:mxH b j j.length=hi
   ·by_cases l:stS b j j.length=st
    ·rw[bm f,bm l];exact om.2 ⟨u1.1 rfl,f,l⟩
    ·rw[bn l];simp only[jg];cases hf:rA b ⟨j,hi,st⟩ with
     |false=>rfl
     |true=>exact absurd (om.1 hf).steps l
   ·rw[bn f];simp only[Bool.false_and,jg];cases hf:rA b ⟨j,hi,st⟩ with
    |false=>rfl
    |true=>exact absurd (om.1 hf).high f
 clear J I;cases E with
 |false=>
  have d:X=false:=a;subst d;clear a;go_wp2_with fail;go_ret;exact⟨rfl,x⟩
 |true=>
  by_cases f:B=hi
  ·by_cases l:F=st
   ·rw[bm f,bm l]at a;have d:X=true:=a;subst d f l;clear a;go_wp2_with fail;go_ret;exact⟨rfl,x⟩
   ·rw[bm f,bn l]at a;have d:X=false:=a;subst d f;have N:(F==st)=false:=bj.2 l;clear a l;go_wp2_with fail;go_ret;exact⟨rfl,x⟩
  ·rw[bn f]at a;have d:X=false:=(by rw[a];simp);subst d;have M:(B==hi)=false:=bj.2 f;clear a f;go_wp2_with fail;go_ret;exact⟨rfl,x⟩
end Go.Proofs.YtaoljfdfhggbbaaGreatDoor
