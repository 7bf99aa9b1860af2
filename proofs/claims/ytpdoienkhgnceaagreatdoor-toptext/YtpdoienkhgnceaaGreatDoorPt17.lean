/- Texts of the proof. -/
import Derived.Test.YtpdoienkhgnceaaGreatDoorPt16
import Derived.Shelf.Sort.Plain
import Derived.Shelf.Slices.CompactI
import Derived.Shelf.Slices.In.SortNone
import Derived.Test.YtpdoienkhgnceaaGreatDoorChecked
import Derived.Test.YtpdoienkhgnceaaGreatDoorPt10
import Derived.Sort.OwnSortedInts
set_option maxRecDepth 100000
set_option maxHeartbeats 8000000
namespace Go.Proofs.YtpdoienkhgnceaaGreatDoor
open Go.Proofs.Tryz Go.RowKit Lx Vx Mx Msk
def mkL (m:Nat->Bool)(j:Nat):List Int:=((List.range j).filter m).map fun k:Nat=>(k:Int)
theorem MW (m:Nat->Bool)(j:Nat):mkL m (j+1)=if m j=true then mkL m j++[(j:Int)] else mkL m j:=by
 unfold mkL;rw[List.range_succ,List.filter_append,dV];by_cases h:m j=true
 ·simp[h]
 ·simp[h]
theorem Gj (m:Nat->Bool)(j:Nat):(mkL m j).length<=j:=by
 unfold mkL;rw[bm];have:=List.length_filter_le m (List.range j);simpa using this
def gJ (l:List Ru)(r:Int):List Int:=if r<0\/(l.length:Int)<=r\/(dm l).1≠0 then [] else mkL (fol (iP l) (l.length+1) (fun _=>false) r.toNat) l.length
theorem ma {l:List Ru}(h:(dm l).1=0):(dQ7 l).1=0/\ ∀u∈l,-1∉gj l u:=by
 unfold dm at h;split at h
 ·rename_i c;exact absurd h c
 ·rename_i c;refine⟨by simpa using c,fun u p m=> ?_⟩;split at h
  ·cases h
  ·split at h
   ·cases h
   ·rename_i f;obtain⟨j,d⟩:=List.getElem?_of_mem p;have g:j<l.length:=(aE.1 d).1
    have o:lk2 l j=true:=by
     unfold lk2;rw[d];exact bc m
    have: ∀(k i:Nat),i<=j->j<i+k->frF (lk2 l) i k≠none:=by
     intro k;induction k with
     |zero=>intro i a b;omega
     |succ k q=>
      intro i a b;rw[frF];split
      ·simp
      ·rename_i n;have:i≠j:=fun e=>n (by rw[e];exact o);exact q (i+1) (by omega) (by omega)
    exact this l.length 0 (by omega) (by omega) f
theorem Fi (a:List Int)(n:Int):jU (a++[n])=jU a++[ag n]:=by simp[jU]
def MX (b:List Int)(w:World)(e:Ending)(a:World):Prop:= ∃v,e= .returned v/\fk a v b/\ao w a
def MY (m:Nat->Bool)(n:Nat)(_ a:World)(q t:Value)(wr:World):Prop:= ∃j:Nat,t=ag (j:Int)/\j<=n/\wr.ownsRow a.heap.size 3 1 q (mkL m j).length (jU (mkL m j))/\ao a wr
theorem Kt (c0 c1:Value)(w:World):(Instr.field 26 (.agg #[c0,c1]) 0).run prog w= .ok c0 w:=by
 unfold Instr.field;simp[go_sem,asAgg]
attribute [go_sem] Kt
theorem MZ (a:List (Ru×Value))(v:Value)(r:Int)(w:World)(h:InR w v a):Calls prog 187 #[v,ag r] w (MX (gJ (a.map (fun p=>p.1)) r) w):=by
 obtain⟨l,Z⟩:=aq (a.map (fun p=>p.1));have aa:l.length=a.length:=by rw[<-Z,bm]
 obtain⟨pv,cv,rfl⟩:=h.form;have az:=h.len;have N:=vZ a _ w h;rw[Z]at N⊢;have f:T4 (∀W,ao w W->MX [] w (.returned (af)) W):=fun W R=>⟨_,rfl,⟨none,0,rfl,by decide,fun j n hj=>by simp at hj⟩,R⟩
 have d:=aG aa;have F:=aG Z;by_cases h1:r<0
 ·have x:T4 (gJ l r=[]):=ax (.inl h1);go_enter func187,ntmps187;go_wp2_with fail;go_ret;rw[x.o];exact f.o _ (aF _ _)
 by_cases h2:(a.length:Int)<=r
 ·have x:T4 (gJ l r=[]):=ax (.inr (.inl (by rw[d.o];exact h2)));go_enter func187,ntmps187;go_wp2_with fail;go_ret;rw[x.o];exact f.o _ (aF _ _)
 by_cases O:(dm l).1=0
 ·have x:T4 (gJ l r=mkL (fol (iP l) (l.length+1) (fun _=>false) r.toNat) l.length):=aw (by rw[d.o];omega);obtain⟨h0,ae⟩:=ma O;obtain⟨H,ad⟩:=BE h0;rw[O]at N;generalize (((dm l).2:Nat):Int)=Q at*;obtain⟨C,ak⟩: ∃C:Nat,r=(C:Int):=⟨r.toNat,by omega⟩
  subst ak;have al:((C:Int)).toNat=C:=(by omega);rw[al]at x;have aj:C<l.length:=(by rw[d.o];omega);have cN:=fun W (R:ao w W)=>pU a _ W (h.below R);obtain⟨i0,hi,ap,ar,av⟩:=iV DA;have ay:(a.length:Int)<=40:=(by rw[d.o]at H;omega);have Hrl:=aG aj;have P:=aG H;have Hno:=aG ae;have Hnm:=aG ad;have HI:=aG h;go_enter func187,ntmps187;go_wp2_with fail;refine N.mono ?_;rintro e w1 ⟨rfl,y⟩;have d1:=cN w1 y;go_wp2_with fail;refine d1.mono ?_;rintro e w2 ⟨mb,rfl,_,hM,T⟩;have B:=au y T
  have d2:=zi a _ mb w2 (HI.o.below B) hM (by omega) (fun p hp=>by
   have:=Hnm.o p.1 (by rw[<-F.o];exact dB.2 ⟨p,hp,rfl⟩);omega)
  go_wp2_with fail;refine d2.mono ?_;rintro e w3 ⟨so,rfl,S,U⟩;rw[F.o]at S;have I:=au B U;have d3:=xi so l.length (iP l) C w3 (DD S Hno.o) (by have:=P.o;omega) Hrl.o;obtain⟨pz,cz,L,_⟩:=(show oB w3 so (l.map (gj l)) from S)
  rw[d.o]at d3;rw[bm,d.o]at L;subst L;go_wp2_with fail;refine d3.mono ?_;rintro e M ⟨g,rfl,hg,V⟩;have J:=au I V;rw[d.o]at x;generalize fol (iP l) (a.length+1) (fun _=>false) C=m at*;have Hbw:=aG J;have Hg:=aG hg;go_wp2_with fail;go_loopw [5,6,7,29] (fun q _ _ t wr=>MY m a.length w M q t wr) (fun _ _ _ t _=>a.length-(intOf t).toNat);case atStart=>exact⟨0,rfl,by omega,df _ _ _ _,aF _ _⟩
  case round=>
   obtain⟨j,rfl,hj,c,i⟩:=hrel;have a0:(0:Int)<=(j:Int):=(by omega);have a1:=Gj m j;by_cases ac:j<a.length
   ·have K:(j:Int)<(a.length:Int):=(by omega);have km:=(aW _ _ j _ _ _ (ai i Hg.o)).trans (oh ac);have A:=MW m j;cases hmj:m j with
    |true=>
     rw[hmj]at km;rw[ax hmj]at A;obtain⟨pq,cq,ah⟩:=dy c;have bA:=am wr (.cells #[ag (j:Int)] 3);have an:=aB wr (.cells #[ag (j:Int)] 3);have s:=bH (w':=wr.alloc (.cells #[ag (j:Int)] 3)) c fun b hb=>bA.block b (c.lt b hb).2;have Y:=au i bA;have a4:=i.size;have a3:(wr.alloc (.cells #[ag (j:Int)] 3)).heap.size=wr.heap.size+1:=(by simp);have Hst:=aG A;subst ah;generalize mkL m j=ns at*;generalize a5:wr.alloc (.cells #[ag (j:Int)] 3)=wA at*;go_wp2_with(at_builtin;refine eC _ rfl _ _ 43 rfl M.heap.size 3 i0 (ag 0) 1 8 BB hi ap ar av rfl (by decide) (.slice pq ns.length cq) ns.length (jU ns) rfl s ⟨wr.heap.size,0,none⟩ 1 1 [ag (j:Int)] rfl rfl ?c1 ?c2 ?c3 ?c4 ?c5 ?_)
     case c1=>
      intro k u' z;match k,z with
      |0,z=>simp at z;subst z;exact(aW _ _ _ _ _ _ an).trans rfl
     case c2=>intro u hu;simp at hu;subst hu;rfl
     case c3=>unfold maxLen;omega
     case c4=>omega
     case c5=>omega
     intro v' w5 E D _;have ab:=s.lt;have X:ao M w5:=Y.grown D (by omega) (fun q hq=>(ab q hq).1)
     have G:T4 (MY m a.length w M v' (ag ((j+1:Nat):Int)) w5):=by
      refine⟨j+1,rfl,by omega,?_,X⟩;rw[Hst.o,Fi];simpa using E
     go_wp2_with fail;go_roundw
     case rel=>first
      |exact G.o
      |exact⟨_,_,_,_,G.o,rfl,rfl,rfl,rfl⟩
     case measure=>simp[intOf];omega
    |false=>
     rw[hmj]at km;rw[aw (by rw[hmj];decide)]at A;have G:T4 (MY m a.length w M u5 (ag ((j+1:Nat):Int)) wr):=⟨j+1,rfl,by omega,by rw[A];exact c,i⟩
     go_wp2_with fail;go_roundw
     case rel=>first
      |exact G.o
      |exact⟨_,_,_,_,G.o,rfl,rfl,rfl,rfl⟩
     case measure=>simp[intOf];omega
   ·have K: ¬(j:Int)<(a.length:Int):=(by omega);have ej:j=a.length:=(by omega)
    have HO:T4 (MX (gJ l (C:Int)) w (.returned u5) wr):=by
     rw[x.o,<-ej];exact⟨_,rfl,rE c (by omega),(Hbw.o).trans (i.mono (Hbw.o).size)⟩
    go_wp2_with fail;go_ret;exact HO.o
 ·have x:T4 (gJ l r=[]):=ax (.inr (.inr O));have a2:((dm l).1 !=0)=true:=(by simpa using O);have Hn:=f;generalize (dm l).1=er at*;generalize (((dm l).2:Nat):Int)=Q at*;go_enter func187,ntmps187;go_wp2_with fail;refine N.mono ?_;rintro e w1 ⟨rfl,y⟩;go_wp2_with fail;go_ret;rw[x.o];exact Hn.o _ y
section
open Go.Shelf
def Fs:Go.Shelf.Ren:=⟨fun|189=>235|125=>242|257=>241|128=>253|129=>225|294=>244|295=>245|296=>246|297=>247|298=>248|299=>249|216=>250|300=>251|301=>252|328=>254|329=>255|330=>256|331=>257|332=>258|215=>259|343=>260|n=>n,fun|28=>43|3=>3|46=>265|0=>0|51=>284|53=>37|4=>4|183=>311|182=>310|131=>127|5=>5|9=>9|218=>316|222=>175|228=>321|229=>223|n=>n,fun|n=>n⟩
theorem Gu:Go.Proofs.Lays.n189 prog Fs:={
 mixed:=by kernel_rfl
 f125:=func242.trans (congrArg some (by kernel_rfl))
 f128:=func253.trans (congrArg some (by kernel_rfl))
 f129:=func225.trans (congrArg some (by kernel_rfl))
 f189:=func235.trans (congrArg some (by kernel_rfl))
 f215:=func259.trans (congrArg some (by kernel_rfl))
 f216:=func250.trans (congrArg some (by kernel_rfl))
 f257:=func241.trans (congrArg some (by kernel_rfl))
 f294:=func244.trans (congrArg some (by kernel_rfl))
 f295:=func245.trans (congrArg some (by kernel_rfl))
 f296:=func246.trans (congrArg some (by kernel_rfl))
 f297:=func247.trans (congrArg some (by kernel_rfl))
 f298:=func248.trans (congrArg some (by kernel_rfl))
 f299:=func249.trans (congrArg some (by kernel_rfl))
 f300:=func251.trans (congrArg some (by kernel_rfl))
 f301:=func252.trans (congrArg some (by kernel_rfl))
 f328:=func254.trans (congrArg some (by kernel_rfl))
 f329:=func255.trans (congrArg some (by kernel_rfl))
 f330:=func256.trans (congrArg some (by kernel_rfl))
 f331:=func257.trans (congrArg some (by kernel_rfl))
 f332:=func258.trans (congrArg some (by kernel_rfl))
 f343:=func260.trans (congrArg some (by kernel_rfl))
 t0:=underlying0
 a0:=isAgg0
 z0:=sizeOf0
 v0:=zeroValue0
 t3:=underlying3
 a3:=isAgg3
 z3:=sizeOf3
 v3:=zeroValue3
 t4:=underlying4
 a4:=isAgg4
 z4:=sizeOf4
 v4:=zeroValue4
 t5:=underlying5
 a5:=isAgg5
 z5:=sizeOf5
 v5:=zeroValue5
 t9:=underlying9
 a9:=isAgg9
 z9:=sizeOf9
 v9:=zeroValue9
 t28:=underlying43
 a28:=isAgg43
 z28:=sizeOf43
 v28:=zeroValue43
 t46:=underlying265
 a46:=isAgg265
 z46:=sizeOf265
 v46:=zeroValue265
 t51:=underlying284
 a51:=isAgg284
 z51:=sizeOf284
 v51:=zeroValue284
 t53:=underlying37
 a53:=isAgg37
 z53:=sizeOf37
 v53:=zeroValue37
 t131:=underlying127
 a131:=isAgg127
 z131:=sizeOf127
 v131:=zeroValue127
 t182:=underlying310
 a182:=isAgg310
 z182:=sizeOf310
 v182:=zeroValue310
 t183:=underlying311
 a183:=isAgg311
 z183:=sizeOf311
 v183:=zeroValue311
 t218:=underlying316
 a218:=isAgg316
 z218:=sizeOf316
 v218:=zeroValue316
 t222:=underlying175
 a222:=isAgg175
 z222:=sizeOf175
 v222:=zeroValue175
 t228:=underlying321
 a228:=isAgg321
 z228:=sizeOf321
 v228:=zeroValue321
 t229:=underlying223
 a229:=isAgg223
 z229:=sizeOf223
 v229:=zeroValue223}
def CH:Go.Shelf.Ren:=⟨fun|20=>236|n=>n,fun|22=>43|3=>3|4=>4|0=>0|n=>n,fun|n=>n⟩
theorem BR:Go.Proofs.Lays2.n20 prog CH:={
 mixed:=by kernel_rfl
 f20:=func236.trans (congrArg some (by kernel_rfl))
 t0:=underlying0
 a0:=isAgg0
 z0:=sizeOf0
 v0:=zeroValue0
 t3:=underlying3
 a3:=isAgg3
 z3:=sizeOf3
 v3:=zeroValue3
 t4:=underlying4
 a4:=isAgg4
 z4:=sizeOf4
 v4:=zeroValue4
 t22:=underlying43
 a22:=isAgg43
 z22:=sizeOf43
 v22:=zeroValue43
 i3:=by kernel_rfl}
theorem KR (blk a cap:Nat)(c:List Int)(w:World)(f:Go.Sort.Holds (Value.int .i64) w blk a c.toArray)(b:blk<w.heap.size)(d:c.length<4611686018427387904):
 Calls prog 235 #[.slice (some (ae blk a)) c.length cap] w fun e g=>e= .returned (.tuple #[])/\ ∃n os,g=Go.Sort.grow (Go.Sort.putRow (Value.int .i64) (Go.Sort.ahead w n) blk a (c.mergeSort fun x y=>decide (x<=y)).toArray) os:=Any.slices_Sort_int Gu blk a cap c w f b d
theorem KS (p:Option Addr)(cap:Nat)(w:World):Calls prog 235 #[.slice p 0 cap] w fun e a=>e= .returned (.tuple #[])/\a=w:=Any.slices_Sort_int_none Gu p cap w
theorem DX (blk a cap:Nat)(b:List Int)(w:World)(f:Go.Sort.Holds (Value.int .i64) w blk a b.toArray)(d:b.length<=9223372036854775807)(c:b.length<=cap):
 Calls prog 236 #[.slice (some (ae blk a)) b.length cap] w fun e g=>e= .returned (.slice (some (ae blk a)) (Go.Lib.compact b).length cap)/\ ∃q,g=Go.Sort.putRow (Value.int .i64) (Go.Sort.ahead w q) blk a (Go.Lib.compact b++List.replicate (b.length-(Go.Lib.compact b).length) 0).toArray:=Any.slices_Compact_int BR blk a cap b w f d c
theorem DY (a:Option Addr)(cap:Nat)(w:World):Calls prog 236 #[.slice a 0 cap] w fun e b=>e= .returned (.slice a 0 cap)/\b=w:=Any.slices_Compact_int_empty BR a cap w
end
theorem BS (l:List Int):dt l=l.map (Value.int .i64):=rfl
theorem Nr {w:World}{B:Nat}{v:Value}{a:List Int}(h:w.ownsRow B 3 1 v a.length (dt a))(r:a.length<=1000000):
  Calls prog 235 #[v] w fun e c=>e= .returned (.tuple #[])/\c.ownsRow B 3 1 v a.length (dt (a.mergeSort fun x y=>decide (x<=y)))/\w.grownBy c v.ownBlock:=by
 rcases h.2 with⟨rfl,e⟩|⟨g,cap,j,rfl,l,f,o,m,p,i⟩
 ·have q:a=[]:=fX e;subst q;refine(KS none 0 w).mono fun e c ⟨d,b⟩=>⟨d,by rw[b,List.mergeSort_nil];exact df _ _ _ _,by rw[b];exact jx _ _⟩
 ·rw[Nat.mul_one]at i;have k:=Go.holds_of_blockI (ss:=a) f i;refine(KR g 0 cap a w k (aH f) (by omega)).mono fun e c ⟨d,n,os,b⟩=>⟨d,?_,?_⟩
  ·rw[b,BS];exact Go.ownsRow_sortedI (List.length_mergeSort a) l f o m p
  ·rw[b];exact Go.grownBy_sortedI _
theorem zJ (a:List Int):(Go.Lib.compact a).length<=a.length:=by
 unfold Go.Lib.compact Go.Lib.compactUpTo;rw[bm];refine bh (List.length_filter_le _ _) ?_;simp
theorem Ft {w:World}{B:Nat}{v:Value}{a:List Int}(h:w.ownsRow B 3 1 v a.length (dt a))(L:a.length<=1000000):
  Calls prog 236 #[v] w fun e f=> ∃A,e= .returned A/\f.ownsRow B 3 1 A (Go.Lib.compact a).length (dt (Go.Lib.compact a))/\w.grownBy f v.ownBlock:=by
 rcases h.2 with⟨rfl,e⟩|⟨g,cap,C,rfl,F,x,y,G,I,z⟩
 ·have J:a=[]:=fX e;subst J;refine(DY none 0 w).mono fun e f ⟨k,d⟩=>⟨_,k,by rw[d];exact df _ _ _ _,by rw[d];exact jx _ _⟩
 ·rw[Nat.mul_one]at z;have E:=Go.holds_of_blockI (ss:=a) x z;have j:=zJ a;refine(DX g 0 cap a w E (by omega) y).mono fun e f ⟨k,q,d⟩=>⟨_,k,?_,?_⟩
  ·have m:(Go.Lib.compact a++List.replicate (a.length-(Go.Lib.compact a).length) (0:Int)).length=a.length:=(by simp;omega);have t:=Go.ownsRow_sortedI (n:=q) (os:= #[]) m F x y G I;rw[Go.Sort.grow_empty,<-d]at t;refine⟨by rw[kS];simp,.inr ?_⟩;rcases t.2 with⟨e,_⟩|⟨K,s,b,e,i,l,H,o,p,r⟩
   ·cases e
   ·injection e with c _ D;injection c with c;injection c with c;subst c D;refine⟨g,cap,b,rfl,i,l,by omega,o,p,?_⟩;have u:=congrArg (List.take (Go.Lib.compact a).length) r;rw[List.take_take,Nat.mul_one,gu j,dV,List.take_append_of_le_length (by simp)]at u;rw[Nat.mul_one,u,BS];exact da (by simp)
  ·rw[d,<-Go.Sort.grow_empty (Go.Sort.putRow _ _ _ _ _)];exact Go.grownBy_sortedI _
theorem Gv:prog.underlying 53=some (.struct (prog.fieldsOf 53)):=by kernel_rfl
theorem CI {d:Array Oper}{c:List Oper}{o:Oper}{a:Act}{w:World}{Q:Exit->Act->World->Prop}(e:o.guard=none)(x:Operand)(j:o.op= .load 39 x)(b q:Nat)(k:a.eval x=ab b q)(f:Nat->Bool)(i:w.rangeAt b q (mv f).toList)(h:wpList prog d Q c (a.put o.dst (.agg (mv f))) w):wpList prog d Q (o::c) a w:=
 wpList_plain e fun _ g=>vq x j b q k f i (g _ _ h)
theorem BT {w:World}{v:Value}{l:List (Int×Int)}(h:Row w v l): ∃(q:Option Addr) (c:Nat),v= .slice q l.length c/\l.length<9223372036854775808/\ ∀j s,l[j]? =some s-> ∃g o:Nat,q=some ⟨g,o,none⟩/\w.cell? (ae g (o+j*2))=some (ag s.1)/\w.cell? (ae g (o+j*2+1))=some (ag s.2):=by
 rcases h with⟨c,rfl,rfl⟩|⟨g,o,c,rfl,d,b⟩
 ·exact⟨none,c,rfl,by simp,fun j s a=>by simp at a⟩
 ·refine⟨_,c,rfl,d,fun j s a=>⟨g,o,rfl,?_⟩⟩;have:=b j (aE.1 a).1;rwa[show l.getD j (0,0)=s by simp[List.getD,a]]at this
theorem qY {n:Int}: ∀{l:List (Int×Int)} {last:Int},good last n l-> ∀s∈l,last<s.1/\s.1<s.2/\s.2<=n
 |[],_,_,s,a=>by cases a
 |t::l,last,h,s,a=>by
  obtain⟨b,c,d,e⟩:=h;rcases bv.1 a with rfl|a
  ·exact⟨b,c,d⟩
  ·obtain⟨i,f,g⟩:=qY e s a;exact⟨by omega,f,g⟩
theorem IB (l b a:Int)(roles:List (List Int))(rv:Value)(D:List (Nat->Bool))(fv:Value)(w:World)(hT:Tab w)(hR:fZ w rv roles)(hF:tY w fv D)(bt: ∀p∈roles,p.length<=8/\ ∀r∈p,0<=r/\r<(D.length:Int))(bR:roles.length<=4)(bw:jE l b a=true):
  Calls prog 215 #[.agg #[ag l,ag b,ag a,rv],fv] w fun e w'=> ∃v,e= .returned v/\fk w' v (g6 (b+l+a) D roles)/\ao w w':=by
 obtain⟨pr,cr,rfl,bP,aS⟩:=id hR;have bA:=am w (.cells #[ag l,ag b,ag a,.slice pr roles.length cr] 53);have nA:=aB w (.cells #[ag l,ag b,ag a,.slice pr roles.length cr] 53);generalize bU:w.alloc (.cells #[ag l,ag b,ag a,.slice pr roles.length cr] 53)=wA at*;have HR:=bO (hR.below bA);have HF:=bO (hF.below bA);have HT:=bO (kU hT bA);have HB:=bO bA;have bb:=bO bt;have bd:=bO bw;have z3:=ak 3 nA;obtain⟨pf,cf,rfl,bN,_⟩:=hF;go_enter func215,ntmps215
 go_wp2_with fail;go_loopw [5,15] (fun q t wr=> ∃(j:Nat) (A:List Int) (qa:Option Addr) (ca:Nat),q= .slice qa A.length ca/\t=ag (j:Int)/\j<=roles.length/\T4 (A=(roles.take j).flatMap (zC (b+l+a) D))/\A.length<=j*11520/\T4 (wr.ownsRow wA.heap.size 3 1 (.slice qa A.length ca) A.length (dt A))/\T4 (ao wA wr)) (fun _ t _=>roles.length-(intOf t).toNat);case atStart=>exact⟨0,[],none,0,rfl,rfl,by omega,rfl,by simp,df _ _ _ _,aF _ _⟩
 case round=>
  obtain⟨j,A,qa,ca,rfl,rfl,hj,av,bI,HO,Q⟩:=hrel;have bL:(0:Int)<=(j:Int):=(by omega);by_cases bv:j<roles.length
  ·have aN:(j:Int)<(roles.length:Int):=(by omega);obtain⟨c,ad⟩: ∃r,roles[j]? =some r:=⟨roles[j],az bv⟩
   obtain⟨_,_,e1,_,aE⟩:=HR.o;cases e1;obtain⟨gr,or,sv,b2,bm,an⟩:=aE j _ ad;subst b2;have hc:=aj Q.o bm;obtain⟨ar,ac,rfl,aT,L⟩:=an;have HC:=bO L;have bc:=bO ad;have a3:=bO (bb.o c (aL ad));have b7:c.length<=8:=a3.o.1;go_wp2_with fail;go_loopw [5,21] (fun q t W=> ∃(i:Nat) (d:List Int) (H:Option Addr) (G:Nat),q= .slice H d.length G/\t=ag (i:Int)/\i<=c.length/\T4 (d=A++(c.take i).flatMap fun r=>vh (b+l+a) (D.getD r.toNat fun _=>false))/\d.length<=j*11520+i*1440/\T4 (W.ownsRow wA.heap.size 3 1 (.slice H d.length G) d.length (dt d))/\T4 (ao wA W)) (fun _ t _=>c.length-(intOf t).toNat);case atStart=>exact⟨0,A,qa,ca,rfl,rfl,by omega,by show _=_;simp,by omega,HO,Q⟩
   case round=>
    obtain⟨i,d,H,G,rfl,rfl,hi,O,bC,U,g⟩:=hrel;have bK:(0:Int)<=(i:Int):=(by omega);by_cases aO:i<c.length
    ·have ah:(i:Int)<(c.length:Int):=(by omega);obtain⟨r,aa⟩: ∃r,c[i]? =some r:=⟨c[i],az aO⟩
     obtain⟨h1,Y⟩:=a3.o.2 r (aL aa);obtain⟨rn,b6⟩: ∃rn:Nat,r=(rn:Int):=⟨r.toNat,by omega⟩
     subst b6;obtain⟨f,hf⟩: ∃f,D[rn]? =some f:=⟨D[rn]'(by omega),az (by omega)⟩
     obtain⟨ga,oa,b1,bj⟩:=HC.o i _ aa;subst b1;have bH:=aj g.o bj;obtain⟨_,_,e3,_,Z⟩:=HF.o;cases e3;obtain⟨gf,of,b3,aQ⟩:=Z rn f hf;subst b3;have b9:=gU aQ g.o;have a4:=bO aa;have c1:=BQ f wr (kU HT.o g.o);have bp:D.getD rn (fun _=>false)=f:=(by simp[List.getD,hf]);have aY:=bO bp
     go_wp2_with(first
      |(refine CI rfl _ rfl gf (of+rn*23) rfl f b9 ?_))
     refine c1.mono ?_;rintro e w4 ⟨⟨vs,rfl,m⟩,n,b4⟩;have ap:=xm m (by have:=n.few;omega)
     have bh:T4 (∀W:World,w4.grownBy W (Value.slice H d.length G).ownBlock->W.ownsRow wr.heap.size 171 2 vs (rs f 1440).length (iZ (rs f 1440))):=fun W hW=>m.kept hW (by
      cases hz:vs.ownBlock with
      |none=>exact .inl rfl
      |some q=>
       refine .inr fun e=> ?_;have h1:=(m.lt q hz).1;have Y:=(U.o.lt q e.symm).2;omega)
     have bg:=bO (it U.o b4);have aW:=bO (au g.o b4);obtain⟨qs,cs,rfl,bu,_⟩:=BT ap;have HG:=bO (qY n.good);have bD:(rs f 1440).length<=1440:=n.few;have hN:(rs f 1440).length<9223372036854775808:=bu;go_wp2_with fail;go_loopw [5,31] (fun q t W=> ∃(k:Nat) (C:List Int) (qc:Option Addr) (V:Nat),q= .slice qc C.length V/\t=ag (k:Int)/\k<=(rs f 1440).length/\T4 (C=d++(((rs f 1440).take k).filter fun s=>decide (b+l+a<=s.2-s.1)).map fun s=>s.1)/\C.length<=j*11520+i*1440+k/\T4 (W.ownsRow wA.heap.size 3 1 (.slice qc C.length V) C.length (dt C))/\T4 (w4.grownBy W (Value.slice H d.length G).ownBlock)/\T4 (ao wA W)/\T4 (∀B:World,W.grownBy B (Value.slice qc C.length V).ownBlock->w4.grownBy B (Value.slice H d.length G).ownBlock)) (fun _ t _=>(rs f 1440).length-(intOf t).toNat);case atStart=>exact⟨0,d,H,G,rfl,rfl,by omega,by show _=_;simp,by omega,bg,jx _ _,aW,fun _ h=>h⟩
     case round=>
      obtain⟨k,C,qc,V,rfl,rfl,hk,R,bJ,a9,ba,a1,z⟩:=hrel;have bk:=xm (bh.o wr ba.o) hN;obtain⟨_,_,e9,_,bn⟩:=BT bk;cases e9;have aX:=bO bn;have bM:(0:Int)<=(k:Int):=(by omega);by_cases aP:k<(rs f 1440).length
      ·have al:(k:Int)<((rs f 1440).length:Int):=(by omega);obtain⟨s,af⟩: ∃s,(rs f 1440)[k]? =some s:=⟨_,az aP⟩
       obtain⟨X,g2,g3⟩:=HG.o s (aL af);obtain⟨go,oo,b5,p0,p1⟩:=aX.o k s af;subst b5;obtain⟨x,y⟩:=s;dsimp only at X g2 g3 p0 p1;have bX:IntKind.i64.wrap (y-x)=y-x:=(by rw[bQ];omega);have aH:=bO af;have bS:=am wr (.cells #[ag x,ag y] 171);have nS:=aB wr (.cells #[ag x,ag y] 171);have a5:=bO (it a9.o bS);have a0:=bO (au a1.o bS);have aZ:=bO (jo bS (Value.slice qc C.length V).ownBlock);obtain⟨gs,bs⟩:=aq wr.heap.size;rw[bs]at nS;generalize bW:wr.alloc (.cells #[ag x,ag y] 171)=wS at*;have q0:=ak 0 nS;have q1:=ak 1 nS;have n2:=ai a0.o nA;go_wp2_with fail;refine dH (fun _ _ W=>ao wS W) [kn 35 (ab gs 1),kn 36 (ag y),kn 37 (ab gs 0),kn 38 (ag x),kn 39 (ag (y-x)),kn 40 (.agg #[ag l,ag b,ag a,.slice (some (ae gr or)) roles.length cr]),kn 41 (ag (b+l+a)),kn 42 (.bool (decide (b+l+a<=y-x)))] (fun _=>(aF _ _).drew) (fun _ _ _ _ hb h=>au h hb) (by kernel_rfl) (fun M φ B P bo FF ll aM aC=> ?_) (fun M φ W5 hM P=> ?_)
       ·simp only[kn,d6,aR,a8,Act.put,aD,aJ,aI]at aM;subst aM;simp only[dz,Nat.reduceAdd]at aC;have bE:=aj P q1;have bF:=aj P q0;dsimp only[kn,dK,fo,eD,Act.put];and_intros;all_goals first|exact trivial|intro qw qn qm K hK
        all_goals try (go_simp;with_reducible exact hK _ _ ⟨rfl,aF _ _⟩)
        ·refine fh 53 _ rfl _ (by simp[Act.eval,aC]) _ _ _ _ (ai P n2) Gv rfl (by kernel_rfl) ?_;exact hK _ _ ⟨rfl,aF _ _⟩
        ·go_simp;refine(vj l b a _ B (.inl bd.o)).mono ?_;rintro r' W' ⟨rfl,bl⟩;exact hK _ _ ⟨rfl,bl⟩
       ·simp only[kn,ep,aR,a8,Act.put,aD,aJ,aI];have a6:=bO (it a5.o P);have ay:=bO (au a0.o P);have T:=bO (aZ.o.trans (jo P _));have bY:=aj P q0;by_cases aG:b+l+a<=y-x
        ·have bB:=am W5 (.cells #[ag x] 3);have nB:=aB W5 (.cells #[ag x] 3);generalize bV:W5.alloc (.cells #[ag x] 3)=wB at*;have zB:=ak 0 nB;have a7:=bO (it a6.o bB);have I:=bO (au ay.o bB);have J:=bO (T.o.trans (jo bB _))
         have S:T4 (C++[x]=d++(((rs f 1440).take (k+1)).filter fun s=>decide (b+l+a<=s.2-s.1)).map fun s=>s.1):=by
          show _=_;rw[R.o,kT aH.o,List.filter_append,dV,List.filter_cons,ax (by simpa using aG),<-dw];rfl
         go_wp2_with(first
          |(refine mA rfl _ _ rfl wA.heap.size _ C x rfl ?ho W5.heap.size 1 rfl zB ?hl ?hb ?_
            case ho=>exact a7.o
            case hl=>omega
            case hb=>exact I.o.size
            intro v' w3 b0 F))
         have aV:=bO (zI I.o a7.o F);have bf:=bO b0
         have a2:T4 (w4.grownBy w3 (Value.slice H d.length G).ownBlock/\ ∀B:World,w3.grownBy B v'.ownBlock->w4.grownBy B (Value.slice H d.length G).ownBlock):=by
          rcases F with⟨e,X,_⟩|⟨X,q,e,hq⟩
          ·exact⟨z.o w3 (J.o.trans X),fun B Y=>z.o B ((J.o.trans X).trans (e▸Y))⟩
          ·refine⟨z.o w3 (J.o.trans (vo X _)),fun B Y=>z.o B (J.o.trans (vo (zE X Y (fun j hj=> ?_)) _))⟩;rw[e]at hj;cases hj;exact .inl hq
         go_wp2_with fail;go_roundw
         case rel=>
          have h3:=bf.o;have aK:=BP (l:=C) (x:=x) rfl;rw[<-aK]at h3;obtain⟨q',c',b8⟩:=oK h3;subst b8;exact⟨k+1,C++[x],q',c',rfl,by go_num,by omega,S,by rw[aK];omega,h3,a2.o.1,aV,a2.o.2⟩
         case measure=>simp[intOf];omega
        ·have S:T4 (C=d++(((rs f 1440).take (k+1)).filter fun s=>decide (b+l+a<=s.2-s.1)).map fun s=>s.1):=by
          show _=_;rw[R.o,kT aH.o,List.filter_append,dV,List.filter_cons,aw (by simpa using aG)];simp
         go_wp2_with fail;go_roundw;case rel=>exact⟨k+1,C,qc,V,rfl,by go_num,by omega,S,by omega,a6,z.o _ T.o,ay,fun B Y=>z.o B (T.o.trans Y)⟩
         case measure=>simp[intOf];omega
      ·have al: ¬(k:Int)<((rs f 1440).length:Int):=(by omega)
       have E:T4 (C=A++(c.take (i+1)).flatMap fun r=>vh (b+l+a) (D.getD r.toNat fun _=>false)):=by
        show _=_;rw[R.o,show k=(rs f 1440).length by omega,da (aA _),kT a4.o,fC,<-dw,<-O.o];congr 1;rw[List.flatMap_singleton,di,aY.o];rfl
       go_wp2_with fail;go_roundw;case rel=>exact⟨i+1,C,qc,V,rfl,by go_num,by omega,E,by omega,a9,a1⟩
       case measure=>simp[intOf];omega
    ·have ah: ¬(i:Int)<(c.length:Int):=(by omega)
     have E:T4 (d=(roles.take (j+1)).flatMap (zC (b+l+a) D)):=by
      show _=_;rw[O.o,show i=c.length by omega,da (aA _),kT bc.o,fC,<-av.o,List.flatMap_singleton];rfl
     go_wp2_with fail;go_roundw;case rel=>exact⟨j+1,d,H,G,rfl,by go_num,by omega,E,by omega,U,g⟩
     case measure=>simp[intOf];omega
  ·have aN: ¬(j:Int)<(roles.length:Int):=(by omega)
   have E:T4 (A=pE (b+l+a) D roles):=by
    show _=_;rw[av.o,show j=roles.length by omega,da (aA _)];rfl
   have c1:=Nr HO.o (by omega);go_wp2_with fail;refine c1.mono ?_;rintro e w1 ⟨rfl,bx,bq⟩;have aU:=bO (io Q.o bq (aA _) (fun k hk=>(HO.o.lt k hk).1));have N:(A.mergeSort fun x y=>decide (x<=y)).length=A.length:=List.length_mergeSort A;have u:=bx;rw[<-N]at u;obtain⟨q1,bG,bT⟩:=oK u;have c2:=Ft u (by rw[N];omega);have be:=bO u;rw[N]at c2;go_wp2_with fail;refine c2.mono ?_;rintro e w2 ⟨v2,rfl,bz,br⟩;have g:=bO (io aU.o br (aA _) (fun k hk=>(be.o.lt k (by rw[N];exact hk)).1))
   have bi:T4 (fk w2 v2 (g6 (b+l+a) D roles)):=by
    have bo:=zJ (A.mergeSort fun x y=>decide (x<=y));have h:=rJ bz (by omega);rw[E.o]at h;exact h
   have I:=bO (au HB.o g.o);go_wp2_with fail;go_ret;exact⟨v2,rfl,bi.o,I.o⟩
theorem uB {α β:Type}{f:α->Option β}: ∀{l:List α} {y:β},l.findSome? f=some y-> ∃x∈l,f x=some y
 |[],y,h=>by simp at h
 |x::l,y,h=>by
  rw[List.findSome?_cons]at h;cases hx:f x with
  |some z=>
   rw[hx]at h;exact⟨x,aV,by rw[hx];exact h⟩
  |none=>
   rw[hx]at h;obtain⟨q,a,e⟩:=uB h;exact⟨q,bj _ a,e⟩
def sR (l b a:Int)(roles:List (List Int))(c:List (Nat->Bool))(x:Int):Option (Int×List Int):=(js (gX (okP c x (x+(b+l+a))) roles) roles.length []).map fun who=>(x+b,who)
def i7 (l b a:Int)(roles:List (List Int))(c:List (Nat->Bool)):Option (Int×List Int):=(g6 (b+l+a) c roles).findSome? (sR l b a roles c)
def SX (res:Option (Int×List Int))(w:World)(e:Ending)(a:World):Prop:=(∃m who v,res=some (m,who)/\e= .returned (.tuple #[ag m,v,.bool true])/\a.ownsRow w.heap.size 3 1 v who.length (dt who)/\ao w a)\/(res=none/\e= .returned (.tuple #[ag 0,af,.bool false])/\ao w a)
theorem xn {x:Int}{b:List Int}(h:x∈Go.Lib.compact b):x∈b:=by
 unfold Go.Lib.compact Go.Lib.compactUpTo at h;rw[dB]at h;obtain⟨j,c,rfl⟩:=h;have a:=ip.1 ((List.mem_filter.1 c).1);rw[getElem!_pos _ j (by simpa using a)];simp
theorem PG (f:Nat->Bool):mc f 1440 (rs f 1440):=Msk.A3 f 1440
theorem Nt {W:Int}{b:List (Nat->Bool)}{roles:List (List Int)}{x:Int}(h:x∈g6 W b roles):0<=x/\x<1440:=by
 have a:x∈pE W b roles:=(List.mem_mergeSort).1 (xn h);unfold pE zC vh at a;rw[List.mem_flatMap]at a;obtain⟨p,_,c⟩:=a;rw[List.mem_flatMap]at c;obtain⟨r,_,d⟩:=c;rw[dB]at d;obtain⟨s,e,rfl⟩:=d;have:=qY (PG _).good s (List.mem_filter.1 e).1;omega
theorem Fu (l b a:Int)(roles:List (List Int))(rv:Value)(c:List (Nat->Bool))(fv:Value)(w:World)(hT:Tab w)(hR:fZ w rv roles)(hF:tY w fv c)(s: ∀p∈roles,p.length<=8/\ ∀r∈p,0<=r/\r<(c.length:Int))(av:roles.length<=4)(u:jE l b a=true):
  Calls prog 196 #[.agg #[ag l,ag b,ag a,rv],fv] w (SX (i7 l b a roles c) w):=by
 obtain⟨T,cr,rfl,a5,v⟩:=id hR;clear v;have J:=am w (.cells #[ag l,ag b,ag a,.slice T roles.length cr] 53);have S:=aB w (.cells #[ag l,ag b,ag a,.slice T roles.length cr] 53);generalize a6:w.alloc (.cells #[ag l,ag b,ag a,.slice T roles.length cr] 53)=wA at*;have HR:=bO (hR.below J);have HF:=bO (hF.below J);have U:=bO J;have a0:=bO s;have G:T4 (∀p∈roles,p.length<=1000/\ ∀r∈p,0<=r/\r<(c.length:Int)):=fun p hp=>⟨by have:=(s p hp).1;omega,(s p hp).2⟩
 have ac:=bO u
 have aq:1<=l/\l<=1440/\0<=b/\b<=1440/\0<=a/\a<=1440/\b+l+a<=1440:=by
  unfold jE at u;exact dM u
 obtain⟨m1,m2,m3,m4,m5,m6,m7⟩:=aq;have z0:=ak 0 S;have z1:=ak 1 S;have z2:=ak 2 S;have z3:=ak 3 S;have c0:=IB l b a roles _ c fv wA (kU hT J) HR.o HF.o s av u;obtain⟨pf,cf,rfl,a4,_⟩:=hF;clear J s hR u;go_enter func196,ntmps196
 go_wp2_with fail;refine c0.mono ?_;rintro e w1 ⟨v1,rfl,i,b1⟩;obtain⟨p1,q1,rfl,a3,_⟩:=id i;have ad:=bO i;have Z:=bO b1;clear c0 i b1 z0 z1 z2 z3;go_wp2_with fail;go_loopw [16] (fun t wr=> ∃j:Nat,t=ag (j:Int)/\j<=(g6 (b+l+a) c roles).length/\T4 (i7 l b a roles c=((g6 (b+l+a) c roles).drop j).findSome? (sR l b a roles c))/\T4 (ao wA wr)/\T4 (fk wr (.slice p1 (g6 (b+l+a) c roles).length q1) (g6 (b+l+a) c roles))) (fun t _=>(g6 (b+l+a) c roles).length-(intOf t).toNat);case atStart=>exact⟨0,rfl,by omega,rfl,Z,ad⟩
 case round=>
  obtain⟨j,rfl,hj,X,n,z⟩:=hrel;have a2:(0:Int)<=(j:Int):=(by omega);by_cases ap:j<(g6 (b+l+a) c roles).length
  ·have P:(j:Int)<((g6 (b+l+a) c roles).length:Int):=(by omega);obtain⟨x,y⟩: ∃r,(g6 (b+l+a) c roles)[j]? =some r:=⟨_,az ap⟩
   obtain⟨_,_,e1,_,A⟩:=z.o;cases e1;obtain⟨gx,ox,ar,cx⟩:=A j _ y;subst ar;obtain⟨aC,aE⟩:=Nt (aL y);have hS:=uA (f:=sR l b a roles c) y;have I:=bO (X.o.trans hS);have ah:=bO (HR.o.below n.o);have aa:=bO (HF.o.below n.o);have n2:=ai n.o S;have y1:=ak 1 n2;have y3:=ak 3 n2;have a9:IntKind.i64.wrap (x+(b+l+a))=x+(b+l+a):=(by rw[bQ];omega);rw[show sR l b a roles c x=(js (gX (okP c x (x+(b+l+a))) roles) roles.length []).map fun who=>(x+b,who) from rfl]at I;clear A hS X y;go_wp2_with fail;refine dH (fun M φ W=>ao wr W/\(M 9=true->fZ W (φ 29) (gX (okP c x (x+(b+l+a))) roles))/\(M 10=true->φ 9=φ 29)) [kn 20 (ab w.heap.size 3),kn 21 (.slice T roles.length cr),kn 22 (.slice pf c.length cf),kn 23 (ag x),kn 24 (ag x),kn 25 (.agg #[ag l,ag b,ag a,.slice T roles.length cr]),kn 26 (ag (b+l+a)),kn 27 (ag (x+(b+l+a))),kn 28 (.agg #[ag x,ag (x+(b+l+a))]),td 29,td 9] (fun _=>⟨(aF _ _).drew,(fun h=>by cases h),(fun h=>by cases h)⟩) (fun _ _ _ _ hb h=>⟨au h.1 hb,fun e=>(h.2.1 e).below hb,h.2.2⟩) (by kernel_rfl) (fun M φ D g a1 FF ll O L=> ?_) (fun M φ D hM g=> ?_)
   ·simp only[kn,td,d6,aR,a8,Act.put,aD,aJ,aI]at O;subst O;simp only[dz,Nat.reduceAdd]at L;obtain⟨g,an,_⟩:=g;have zz:=aj g y3;dsimp only[kn,td,dK,fo,eD,Act.put];and_intros;all_goals first|exact trivial|intro qw qn qm K N
    all_goals try (go_simp;with_reducible exact N _ _ ⟨rfl,aF _ _⟩)
    ·refine fh 53 _ rfl _ (by simp[Act.eval,L]) _ _ _ _ (ai g n2) Gv rfl (by kernel_rfl) ?_;exact N _ _ ⟨rfl,aF _ _⟩
    ·go_simp;refine(vj l b a _ D (.inl ac.o)).mono ?_;rintro r' W' ⟨rfl,E⟩;exact N _ _ ⟨rfl,E⟩
    ·have aw:=qn 10 _ rfl (by kernel_rfl);go_simp;refine(CG roles _ c _ x (x+(b+l+a)) D (ah.o.below g) (aa.o.below g) G.o (by omega)).mono ?_;rintro r' W' ⟨q,rfl,Q,E⟩;exact N _ _ ⟨trivial,au g E,fun _=>by rw[dX];exact Q,(fun h=>by simp[aw]at h)⟩
    ·go_simp;exact N _ _ ⟨trivial,g,fun h=>by rw[dE (by decide)];exact an (by simpa using h),fun _=>by rw[dX,dE (by decide)]⟩
   ·obtain⟨g,d,V⟩:=g;replace d:=d (hM 9 (by decide) rfl);replace V:=V (hM 10 (by decide) rfl);simp only[kn,td,ep,aR,a8,Act.put,aD,aJ,aI];rw[V];generalize φ 29=ax at*;clear hM V;have B:=bO (au n.o g);have ae:=bO (z.o.below g);have F:(gX (okP c x (x+(b+l+a))) roles).length=roles.length:=(by unfold gX;rw[bm]);have c1:=Np (gX (okP c x (x+(b+l+a))) roles) ax D d (by rw[F];omega) roles.length [] (af) D (by rw[F];simp) (aF _ _) (df _ _ _ _);have aH:=aj g y3;have ay:=aj g y1;clear d g F;go_wp2_with fail;refine c1.mono ?_;rintro e w3 ⟨Y,⟨who,v',R,rfl,ho⟩|⟨R,rfl,_⟩⟩
    ·have C:T4 (i7 l b a roles c=some (x+b,who)):=by
      show _=_;rw[I.o,R];rfl
     have b3:ao D w3:=io (aF _ _) Y (aA _) (fun k hk=>by cases hk);have al:=bO (rK ho (bh U.o.size B.o.size));have aG:=aj b3 ay;have m:=bO (U.o.trans ((au B.o b3).mono U.o.size));have a7:IntKind.i64.wrap (x+b)=x+b:=(by rw[bQ];omega);clear c1 Y ho R b3;go_wp2_with fail;go_ret3;exact .inl ⟨x+b,who,v',C.o,rfl,al.o,m.o⟩
    ·have C:T4 (i7 l b a roles c=((g6 (b+l+a) c roles).drop (j+1)).findSome? (sR l b a roles c)):=by
      show _=_;rw[I.o,R];rfl
     have b3:ao D w3:=io (aF _ _) Y (aA _) (fun k hk=>by cases hk);have m:=bO (au B.o b3);have H:=bO (ae.o.below b3);clear c1 Y R b3;go_wp2_with fail;go_roundw;case rel=>exact⟨j+1,by go_num,by omega,C,m,H⟩
     case measure=>simp[intOf];omega
  ·have P: ¬(j:Int)<((g6 (b+l+a) c roles).length:Int):=(by omega)
   have I:T4 (i7 l b a roles c=none):=by
    show _=_;rw[X.o,dn (by omega)];rfl
   have m:=bO (au U.o n.o);clear X;go_wp2_with fail;go_ret3;exact .inr ⟨I.o,rfl,m.o⟩
def wi (w:World)(v:Value)(a:List (List (Nat->Bool))):Prop:= ∃p c,v= .slice p a.length c/\a.length<9223372036854775808/\ ∀(j:Nat) (b:List (Nat->Bool)),a[j]? =some b-> ∃(g o:Nat) (sv:Value),p=some ⟨g,o,none⟩/\w.cell? (ae g (o+j))=some sv/\tY w sv b
theorem wi.below {w d:World}{v:Value}{a:List (List (Nat->Bool))}(h:wi w v a)(b:ao w d):wi d v a:=by
 obtain⟨p,c,f,i,k⟩:=h;refine⟨p,c,f,i,fun j l n=> ?_⟩;obtain⟨g,o,sv,e,m,q⟩:=k j l n;exact⟨g,o,sv,e,aj b m,q.below b⟩
def iR (s:Sv):List (List (Nat->Bool))->Int
 |[]=>0
 |d::l=>if ff s d.length≠0 then ff s d.length else iR s l
def kB (s:Sv):List (List (Nat->Bool))->Nat->Option (Nat×Int×List Int)
 |[],_=>none
 |d::l,n=>match i7 s.len s.bef s.aft s.roles d with
  |some x=>some (n,x.1,x.2)
  |none=>kB s l (n+1)
structure Sl where
 err:Int
 day:Int
 min:Int
 who:List Int
def findP (s:Sv)(a:List (List (Nat->Bool))):Sl:=if 30<a.length then⟨5,0,0,[]⟩ else if iR s a≠0 then⟨iR s a,0,0,[]⟩ else match kB s a 0 with
 |some x=>⟨0,(x.1:Int),x.2.1,x.2.2⟩
 |none=>⟨11,0,0,[]⟩
def IC (r:Sl)(w:World)(e:Ending)(a:World):Prop:= ∃v,e= .returned (.tuple #[.agg #[ag r.day,ag r.min,v],ag r.err])/\a.ownsRow w.heap.size 3 1 v r.who.length (dt r.who)/\ao w a
theorem ID {s:Sv}{l:List (List (Nat->Bool))}{j:Nat}{d:List (Nat->Bool)}(h:l[j]? =some d):iR s (l.drop j)=if ff s d.length≠0 then ff s d.length else iR s (l.drop (j+1)):=by
 obtain⟨a,b⟩:=aE.1 h;rw[bG a,b];rfl
theorem IE {s:Sv}{l:List (List (Nat->Bool))}{j:Nat}{d:List (Nat->Bool)}(n:Nat)(h:l[j]? =some d):kB s (l.drop j) n=match i7 s.len s.bef s.aft s.roles d with
  |some x=>some (n,x.1,x.2)
  |none=>kB s (l.drop (j+1)) (n+1):=by
 obtain⟨a,b⟩:=aE.1 h;rw[bG a,b];rfl
theorem xZ {s:Sv}: ∀{l:List (List (Nat->Bool))},iR s l=0-> ∀d∈l,ff s d.length=0
 |[],_,d,a=>by cases a
 |x::l,h,d,a=>by
  by_cases b:ff s x.length=0
  ·rw[iR,aw (by simpa using b)]at h;rcases bv.1 a with rfl|a
   ·exact b
   ·exact xZ h d a
  ·rw[iR,ax b]at h;exact absurd h b
theorem DZ {p:List Int}{n:Int}: ∀(m i:Nat),lP p n m i=0-> ∀j,i<=j->j<i+m->(0<=p.getD j 0/\p.getD j 0<n)/\(0<j->p.getD (j-1) 0<p.getD j 0)
 |0,i,_,j,b,c=>by omega
 |m+1,i,h,j,b,c=>by
  rw[lP]at h;by_cases c1:p.getD i 0<0\/n<=p.getD i 0
  ·rw[ax c1]at h;cases h
  ·rw[aw c1]at h;by_cases a:0<i/\p.getD i 0<=p.getD (i-1) 0
   ·rw[ax a]at h;cases h
   ·rw[aw a]at h;by_cases e:j=i
    ·subst e;exact⟨by omega,fun d=>by omega⟩
    ·exact DZ m (i+1) h j (by omega) (by omega)
structure D0 (p:List Int)(n:Int):Prop where
 len1:1<=p.length
 len8:p.length<=8
 bd: ∀r∈p,0<=r/\r<n
 up:p.Pairwise (· < ·)
theorem PH {p:List Int}{n:Int}(h:ia p n=0):D0 p n:=by
 unfold ia at h;by_cases e:p.length<1\/8<p.length
 ·rw[ax e]at h;cases h
 ·rw[aw e]at h;have c:=DZ p.length 0 h;refine⟨by omega,by omega,fun r k=> ?_,?_⟩
  ·obtain⟨j,a,rfl⟩:=List.getElem_of_mem k;have:=(c j (by omega) (by omega)).1;simpa[List.getD,az a] using this
  ·have b: ∀d j:Nat,j+d+1<p.length->p.getD j 0<p.getD (j+d+1) 0:=by
    intro d;induction d with
    |zero=>
     intro j a;have:=(c (j+1) (by omega) (by omega)).2 (by omega);simpa using this
    |succ d l=>
     intro j a;have m:=l j (by omega);have f:=(c (j+d+1+1) (by omega) (by omega)).2 (by omega);rw[show j+d+1+1-1=j+d+1 by omega]at f;rw[show j+(d+1)+1=j+d+1+1 by omega];omega
   rw[List.pairwise_iff_getElem];intro i j hi a g;have:=b (j-i-1) i (by omega);rw[show i+(j-i-1)+1=j by omega]at this;simpa[List.getD,az hi,az a] using this
theorem BV {n:Int}: ∀{l:List (List Int)},jC n l=0-> ∀p∈l,D0 p n
 |[],_,p,a=>by cases a
 |x::l,h,p,a=>by
  by_cases b:ia x n=0
  ·rw[jC,aw (by simpa using b)]at h;rcases bv.1 a with rfl|a
   ·exact PH b
   ·exact BV h p a
  ·rw[jC,ax b]at h;exact absurd h b
structure A4 (s:Sv)(n:Int):Prop where
 meas:jE s.len s.bef s.aft=true
 r1:1<=s.roles.length
 r4:s.roles.length<=4
 pool: ∀p∈s.roles,D0 p n
theorem D1 {s:Sv}{n:Int}(h:ff s n=0):A4 s n:=by
 unfold ff at h;by_cases a:jE s.len s.bef s.aft=false
 ·rw[ax a]at h;cases h
 ·rw[aw a]at h;by_cases b:s.roles.length<1\/4<s.roles.length
  ·rw[ax b]at h;cases h
  ·rw[aw b]at h;exact⟨by simpa using a,by omega,by omega,BV h⟩
theorem Nu {w:World}{B:Nat}{e:TypeId}{n:Nat}{v:Value}{xs:List Value}{size:Nat}(h:w.ownsRow B e size v n xs){g:Nat}(b:g<B)(X:Array Value):(w.setRow g X).ownsRow B e size v n xs:=
 h.kept (row:=some g) ⟨rfl,rfl,rfl,by simp,fun k _ a=>aQ w g k _ (fun e=>a (by rw[e]))⟩ (by
  cases hz:v.ownBlock with
  |none=>exact .inl rfl
  |some q=>
   refine .inr fun e=> ?_;cases e;have:=(h.lt g hz).1;omega)
theorem Nv:prog.underlying 45=some (.struct (prog.fieldsOf 45)):=by kernel_rfl
theorem sq {R:Ending->World->Prop}{a:Act}{w:World}(g:Nat)(d m:Int)(v:Value)(er:Int)(j:a.defers=[])(e:a.tmps.getD 4 undef=ab g 0)(f:a.tmps.getD 5 undef=ag er)
  (k:w.heap[g]? =ah #[ag d,ag m,v] 45) (i:R (.returned (.tuple #[.agg #[ag d,ag m,v],ag er])) w):bodyPost prog f157 R .ret a w:=by
 refine aX (v:= .tuple #[.agg #[ag d,ag m,v],ag er]) ?_ j i;have b:a.tmps[4]?.getD undef=ab g 0:=by simpa using e
 have c:a.tmps[5]?.getD undef=ag er:=by simpa using f
 have l:=dZ (P:=prog) w g 45 45 _ _ _ k Nv rfl (by kernel_rfl);simp[results,results157,b,c,asAddr,l]
theorem KU (s:Sv)(rv:Value)(c:List (List (Nat->Bool)))(dv:Value)(w:World)(hT:Tab w)(hR:fZ w rv s.roles)(hD:wi w dv c):
  Calls prog 157 #[svV s rv,dv] w (IC (findP s c) w):=by
 obtain⟨l,b,a,roles⟩:=s;dsimp only at hR;unfold svV;dsimp only;obtain⟨P,cr,rfl,av,V⟩:=id hR;have U:ao w ((w.alloc (.cells #[ag l,ag b,ag a,.slice P roles.length cr] 53)).alloc (.cells #[ag 0,ag 0,af] 45)):=(am _ _).alloc (by simp) _;have nA:((w.alloc (.cells #[ag l,ag b,ag a,.slice P roles.length cr] 53)).alloc (.cells #[ag 0,ag 0,af] 45)).heap[w.heap.size]? =ah #[ag l,ag b,ag a,.slice P roles.length cr] 53:=by(repeat (first|refine dh _ _ _ (by simp only[aP];omega) ?_|exact dA _ _ _ (by first|rfl|simp only[aP])))
 have J:((w.alloc (.cells #[ag l,ag b,ag a,.slice P roles.length cr] 53)).alloc (.cells #[ag 0,ag 0,af] 45)).heap[w.heap.size+1]? =ah #[ag 0,ag 0,af] 45:=by(repeat (first|refine dh _ _ _ (by simp only[aP];omega) ?_|exact dA _ _ _ (by first|rfl|simp only[aP])))
 generalize ay:(w.alloc (.cells #[ag l,ag b,ag a,.slice P roles.length cr] 53)).alloc (.cells #[ag 0,ag 0,af] 45)=R at*;have HR:=bO (hR.below U);have HD:=bO (hD.below U);have HT:=bO (kU hT U);have S:=bO U;obtain⟨pd,cd,rfl,ar,_⟩:=hD
 have u:T4 (∀(W:World) (er:Int),ao R W->W.heap[w.heap.size+1]? =ah #[ag 0,ag 0,af] 45->findP ⟨l,b,a,roles⟩ c=⟨er,0,0,[]⟩->(W.setRow (w.heap.size+1) #[ag 0,ag 0,af]).heap[w.heap.size+1]? =ah #[ag 0,ag 0,af] 45/\IC (findP ⟨l,b,a,roles⟩ c) w (.returned (.tuple #[.agg #[ag 0,ag 0,af],ag er])) (W.setRow (w.heap.size+1) #[ag 0,ag 0,af])):=fun W er hW hs he=>by
  rw[he];exact⟨aK _ _ _ _ _ _ hs,_,rfl,df _ _ _ _,below_setRow (au S.o hW) (by omega) _⟩
 by_cases al:30<(c.length:Int)
 ·have T:T4 (findP ⟨l,b,a,roles⟩ c=⟨5,0,0,[]⟩):=by
   show _=_;unfold findP;rw[ax (by omega)]
  have q:=bO (u.o R 5 (aF _ _) J T.o);go_enter func157,ntmps157
  go_wp2_with(first
   |(refine aC rfl 45 _ _ rfl _ _ rfl rfl _ _ J (by kernel_rfl) (by simp) (by simp[Value.oneCell']) ?_))
  exact sq (w.heap.size+1) 0 0 (af) 5 rfl rfl rfl q.o.1 q.o.2
 have HE:T4 (findP ⟨l,b,a,roles⟩ c=if iR ⟨l,b,a,roles⟩ c≠0 then⟨iR ⟨l,b,a,roles⟩ c,0,0,[]⟩ else match kB ⟨l,b,a,roles⟩ c 0 with
   |some x=>⟨0,(x.1:Int),x.2.1,x.2.2⟩
   |none=>⟨11,0,0,[]⟩):=by
  show _=_;unfold findP;rw[aw (by omega)]
 go_enter func157,ntmps157
 go_wp2_with fail;go_loopw [20] (fun t wr=> ∃j:Nat,t=ag (j:Int)/\j<=c.length/\T4 (iR ⟨l,b,a,roles⟩ c=iR ⟨l,b,a,roles⟩ (c.drop j))/\T4 (ao R wr)) (fun t _=>c.length-(intOf t).toNat);case atStart=>exact⟨0,rfl,by omega,rfl,aF _ _⟩
 case round=>
  obtain⟨j,rfl,hj,I,f⟩:=hrel;have an:(0:Int)<=(j:Int):=(by omega);by_cases ae:j<c.length
  ·have M:(j:Int)<(c.length:Int):=(by omega);obtain⟨L,i⟩: ∃r,c[j]? =some r:=⟨_,az ae⟩
   obtain⟨_,_,Z,_,z⟩:=HD.o.below f.o;cases Z;obtain⟨aa,aj,sv,H,cx,g⟩:=z j _ i;subst H;obtain⟨pf,cf,rfl,ad,_⟩:=g;have C:=ai f.o nA;have y0:=ak 0 C;have y1:=ak 1 C;have y2:=ak 2 C;have y3:=ak 3 C;have c1:=zD ⟨l,b,a,roles⟩ _ (L.length:Int) wr (HR.o.below f.o);unfold svV at c1;dsimp only at c1;have D:=ID (s:=⟨l,b,a,roles⟩) i;obtain⟨er,ab⟩:=aq (ff ⟨l,b,a,roles⟩ (L.length:Int));rw[ab]at c1 D;have n:=ai f.o J;by_cases X:er=0
   ·subst X;rw[aw (by simp)]at D;have y:=bO (I.o.trans D);go_wp2_with fail;refine c1.mono ?_;rintro e Q ⟨rfl,b2⟩;have E:=bO (au f.o b2);go_wp2_with fail;go_roundw;case rel=>exact⟨j+1,by go_num,by omega,y,E⟩
    case measure=>simp[intOf];omega
   ·rw[ax X]at D;have a0:(er==0)=false:=bl.2 X;have y:=bO (I.o.trans D);go_wp2_with fail;refine c1.mono ?_;rintro e Q ⟨rfl,b2⟩;have A:=ai b2 n;have q:=bO (u.o Q er (au f.o b2) A (HE.o.trans (by rw[y.o];exact ax X)))
    go_wp2_with(first
     |(refine aC rfl 45 _ _ rfl _ _ rfl rfl _ _ A (by kernel_rfl) (by simp) (by simp[Value.oneCell']) ?_))
    exact sq (w.heap.size+1) 0 0 (af) er rfl rfl rfl q.o.1 q.o.2
  ·have M: ¬(j:Int)<(c.length:Int):=(by omega)
   have HZ:T4 (iR ⟨l,b,a,roles⟩ c=0):=by
    show _=_;rw[I.o,dn (by omega)];rfl
   have Y:=bO (xZ HZ.o);have K:=bO (HE.o.trans (aw (by rw[HZ.o];simp)));go_wp2_with fail;go_loopw [35] (fun t W=> ∃k:Nat,t=ag (k:Int)/\k<=c.length/\T4 (kB ⟨l,b,a,roles⟩ c 0=kB ⟨l,b,a,roles⟩ (c.drop k) k)/\T4 (ao R W)) (fun t _=>c.length-(intOf t).toNat);case atStart=>exact⟨0,rfl,by omega,rfl,f⟩
   case round=>
    obtain⟨k,rfl,hk,I,d⟩:=hrel;have ap:(0:Int)<=(k:Int):=(by omega);by_cases N:k<c.length
    ·have G:(k:Int)<(c.length:Int):=(by omega);obtain⟨L,i⟩: ∃r,c[k]? =some r:=⟨_,az N⟩
     obtain⟨_,_,Z,_,z⟩:=HD.o.below d.o;cases Z;obtain⟨aa,aj,sv,H,cx,g⟩:=z k _ i;subst H;have B:=D1 (Y.o L (aL i));have c1:=Fu l b a roles _ L sv wr (kU HT.o d.o) (HR.o.below d.o) g (fun p hp=>⟨(B.pool p hp).len8,(B.pool p hp).bd⟩) B.r4 B.meas;obtain⟨pf,cf,rfl,ad,_⟩:=g;have C:=ai d.o nA;have y0:=ak 0 C;have y1:=ak 1 C;have y2:=ak 2 C;have y3:=ak 3 C;have D:=IE (s:=⟨l,b,a,roles⟩) k i;dsimp only at D;have T:=bO (I.o.trans D);have n:=ai d.o J;go_wp2_with fail;refine c1.mono ?_;rintro e Q (⟨m,who,v,hf,rfl,O,b2⟩|⟨hf,rfl,b2⟩)
     ·have A:=ai b2 n
      have F:T4 (findP ⟨l,b,a,roles⟩ c=⟨0,(k:Int),m,who⟩):=by
       show _=_;rw[K.o,T.o,hf]
      have ac:w.heap.size+1<R.heap.size:=aH J
      have q:T4 ((Q.setRow (w.heap.size+1) #[ag (k:Int),ag m,v]).heap[w.heap.size+1]? =ah #[ag (k:Int),ag m,v] 45/\IC (findP ⟨l,b,a,roles⟩ c) w (.returned (.tuple #[.agg #[ag (k:Int),ag m,v],ag 0])) (Q.setRow (w.heap.size+1) #[ag (k:Int),ag m,v])):=by
       rw[F.o];refine⟨aK _ _ _ _ _ _ A,v,rfl,?_,below_setRow (S.o.trans ((au d.o b2).mono S.o.size)) (by omega) _⟩;exact rK (Nu O (aT ac d.o.size) _) (bh S.o.size d.o.size)
      obtain⟨pw,cw,rfl⟩:=oK O
      go_wp2_with(first
       |(refine aC rfl 45 _ _ rfl _ _ rfl rfl _ _ A (by kernel_rfl) (by simp) (by simp[Value.oneCell']) ?_))
      exact sq (w.heap.size+1) (k:Int) m _ 0 rfl rfl rfl q.o.1 q.o.2
     ·have y:T4 (kB ⟨l,b,a,roles⟩ c 0=kB ⟨l,b,a,roles⟩ (c.drop (k+1)) (k+1)):=by
       show _=_;rw[T.o,hf]
      have E:=bO (au d.o b2);go_wp2_with fail;go_roundw;case rel=>exact⟨k+1,by go_num,by omega,y,E⟩
      case measure=>simp[intOf];omega
    ·have G: ¬(k:Int)<(c.length:Int):=(by omega)
     have F:T4 (findP ⟨l,b,a,roles⟩ c=⟨11,0,0,[]⟩):=by
      show _=_;rw[K.o,I.o,dn (by omega)];rfl
     have n:=ai d.o J;have q:=bO (u.o wr 11 d.o n F.o)
     go_wp2_with(first
      |(refine aC rfl 45 _ _ rfl _ _ rfl rfl _ _ n (by kernel_rfl) (by simp) (by simp[Value.oneCell']) ?_))
     exact sq (w.heap.size+1) 0 0 (af) 11 rfl rfl rfl q.o.1 q.o.2
end Go.Proofs.YtpdoienkhgnceaaGreatDoor
