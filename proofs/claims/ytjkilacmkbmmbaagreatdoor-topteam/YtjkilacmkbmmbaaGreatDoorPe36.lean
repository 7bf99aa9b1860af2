/- Texts of the proof. -/
import Derived.Test.YtjkilacmkbmmbaaGreatDoorPe34
import Derived.Test.YtjkilacmkbmmbaaGreatDoorPe35
import Derived.Lib.ItoaNum
import Derived.Lib.Join
import Derived.Lib.ItoaWalk
set_option maxRecDepth 100000
set_option maxHeartbeats 8000000
namespace Go.Proofs.YtjkilacmkbmmbaaGreatDoor
open Go.Proofs.Tryz Go.RowKit Lx Vx Mx Msk
section
section
variable {w w':World}
theorem CE:dQ w (af) []:=⟨none,0,rfl,by decide,fun j n h=>by simp at h⟩
theorem Eb:fo w (af) []:=⟨none,0,rfl,by decide,fun j n h=>by simp at h⟩
theorem M4 {g:Nat}{sv:Value}{l:List Int}{T:TypeId}(h:w.heap[g]? =ah #[sv] T)(hr:dQ w sv l):fo w (.slice (some (ae g 0)) 1 1) [l]:=by
 refine⟨some ⟨g,0,none⟩,1,rfl,by simp,fun j m hj=> ?_⟩;match j,hj with
 |0,hj=>cases hj;exact⟨g,0,sv,rfl,aV _ _ _ _ _ _ h,hr⟩
 |j+1,hj=>simp at hj
def jW (B:Nat)(w:World)(v:Value)(cs:List (Cm×Value×Value)):Prop:=w.ownsRow B 37 13 v cs.length (cs.flatMap fun q=>(doC q.1 q.2.1 q.2.2).toList)/\ ∀q∈cs,Rob (fun k=>some k≠v.ownBlock) (fun u=>jM u q.1 q.2.1 q.2.2) w
theorem uT {B:Nat}{v:Value}{cs:List (Cm×Value×Value)}(h:w.ownsRow B 37 13 v cs.length (cs.flatMap fun q=>(doC q.1 q.2.1 q.2.2).toList))(hc: ∀q∈cs,jM w q.1 q.2.1 q.2.2)(hl:cs.length<9223372036854775808):lT w v cs:=by
 obtain⟨p,k,hv⟩:=bU h;refine⟨p,k,hv,hl,fun j q hj=>⟨hc q (aM hj),?_⟩⟩;obtain⟨g,c,e,_,hr⟩:=lI (f:=fun q:Cm×Value×Value=>doC q.1 q.2.1 q.2.2) (fun q=>rfl) h rfl hj;rw[hv]at e;cases e;exact⟨g,0,rfl,by rw[bK];exact hr⟩
theorem jW.row {B:Nat}{v:Value}{cs:List (Cm×Value×Value)}(h:jW B w v cs)(hl:cs.length<9223372036854775808):lT w v cs:=uT h.1 (fun q hq=>(h.2 q hq).here) hl
theorem jW.below {B:Nat}{v:Value}{cs:List (Cm×Value×Value)}(h:jW B w v cs)(hb:ao w w'):jW B w' v cs:=
 ⟨bp h.1 fun b hq=>hb.block b (h.1.lt b hq).2,fun q hq=>(h.2 q hq).below hb⟩
theorem M5 {c:Cm}{rv wv:Value}(h:jM w c rv wv):(doC c rv wv).all (·.oneCell')=true:=by
 obtain⟨_,_,rfl,_⟩:=h.roles;obtain⟨_,_,rfl,_⟩:=h.who;exact D9 ..
theorem uU: ∀cs:List (Cm×Value×Value),(cs.flatMap fun q=>(doC q.1 q.2.1 q.2.2).toList).length=cs.length*13
 |[]=>rfl
 |c::cs=>by
  rw[List.flatMap_cons,aL,uU cs,bz];show 13+_=_;omega
theorem OA {cs:List (Cm×Value×Value)}{g o:Nat}(h: ∀(j:Nat) (q:Cm×Value×Value),cs[j]? =some q->w.rangeAt g (o+j*13) (doC q.1 q.2.1 q.2.2).toList):w.rangeAt g o (cs.flatMap fun q=>(doC q.1 q.2.1 q.2.2).toList):=by
 intro k u hu
 have hk:k<cs.length*13:=by
  have:=(aE.1 hu).1;rwa[uU]at this
 obtain⟨q,hq⟩: ∃q,cs[k/13]? =some q:=⟨_,ax (by omega)⟩
 have e:=oj (f:=fun q:Cm×Value×Value=>doC q.1 q.2.1 q.2.2) (m:=13) (fun q=>rfl) hq (k%13) (Nat.mod_lt _ (by decide));rw[show k/13*13+k%13=k by omega,hu]at e;have:=h _ q hq (k%13) u (by rw[bo];exact e.symm);rwa[show o+k/13*13+k%13=o+k by omega]at this
theorem jO {ops:Array Oper}{rest:List Oper}{o:Oper}{a:Act}{Q:Exit->Act->World->Prop}(hgd:o.guard=none)(s x:Operand)(ho:o.op= .call {callee:= .builtin .append,args:= #[s,x],argTypes:= #[30,30]})
  {B:Nat} {v xv:Value} {cs ds:List (Cm×Value×Value)} (hs:a.eval s=v) (hO:jW B w v cs) (hx:a.eval x=xv) (hX:lT w xv ds) (h0:0<ds.length) (hR: ∀q∈ds,Rob (fun k=>some k≠v.ownBlock) (fun u=>jM u q.1 q.2.1 q.2.2) w) (hn:cs.length+ds.length<=100000) (hB:B<=w.heap.size)
  (h: ∀v' w',jW B w' v' (cs++ds)->Below B w w'->w.grownBy w' v.ownBlock->wpList prog ops Q rest (a.put o.dst v') w'):wpList prog ops Q (o::rest) a w:=by
 obtain⟨i,hi,hz0,hz1,hz2⟩:=pL (t:=37) (z:= .agg (doC ⟨0,0,0,0,[],[],sv0,0,0,[]⟩ (af) (af))) (a:=13) (b:=152) (by kernel_rfl);obtain⟨p,k,rfl,_,hc⟩:=hX;obtain⟨q0,hq0⟩: ∃q,ds[0]? =some q:=⟨_,ax h0⟩
 obtain⟨_,g,of,rfl,_⟩:=hc 0 q0 hq0
 have hF:w.rangeAt g of (ds.flatMap fun q=>(doC q.1 q.2.1 q.2.2).toList):=OA fun j q hj=>by
  obtain⟨_,g',o',e,hr⟩:=hc j q hj;cases e;exact hr
 refine wpList_append_own_at w hgd s x 30 ho B 37 i _ 13 152 (by kernel_rfl) hi hz0 hz1 hz2 rfl (by decide) v cs.length _ hs hO.1 ⟨g,of,none⟩ ds.length k (ds.flatMap fun q=>(doC q.1 q.2.1 q.2.2).toList) hx ?_ (fun j u hu=> ?_) (fun u hu=> ?_) (by unfold maxLen;omega) (a6 (Nat.mul_le_mul_right _ hn) (by decide)) hB fun v' w' h2 h3 _ h5=> ?_
 ·exact uU ds
 ·rw[show(⟨g,of,none⟩:Addr).add j=⟨g,of+j,none⟩ by simp[Addr.add]];exact hF j u hu
 ·obtain⟨q,hq,hu⟩:=List.mem_flatMap.1 hu;exact Array.all_eq_true'.1 (M5 (hR q hq).here) u (Array.mem_toList_iff.1 hu)
 ·refine h v' w' ⟨?_,fun q hq=> ?_⟩ (fU (aG _ _) h3 hB fun k hk=>(hO.1.lt k hk).1) h3
  ·rw[aL,dZ];exact h2
  ·have H:Rob (fun k=>some k≠v.ownBlock) (fun u=>jM u q.1 q.2.1 q.2.2) w:=(bJ.1 hq).elim (hO.2 q) (hR q);refine H.move h3.size (fun k hk hl=>h3.block k hl hk) fun k hl hk=> ?_;rcases h5 with h5|h5
   ·rw[h5];exact hk
   ·rw[h5];intro e;cases e;omega
theorem mE {B g n m:Nat}{cur:Array Value}{T:TypeId}(h:w.heap[g]? =ah cur T)(hB:B<=g)(hs:cur.size=n*m)(hn:n<=maxLen):w.ownsRow B T m (.slice (some (ae g 0)) n n) n cur.toList:=
 ⟨by rw[bP];exact hs,.inr ⟨g,n,cur,rfl,hB,h,aA _,hn,hs,by rw[cj (by rw[bP,hs];exact aA _)]⟩⟩
theorem rU (c:Cm)(h1:c.sv.roles=[])(h2:c.swho=[])(h3:c.text.length<=9223372036854775807)(h4:c.name.length<=9223372036854775807):jM w c (af) (af):=
 ⟨by rw[h1];exact Eb,by rw[h2];exact CE,h3,h4,fun p n k e=>by cases e;exact aA _⟩
end
end
section
section
variable {B gD:Nat} {d:Dk} {t:Tr}
theorem M6 (c:Cm)(pr pw:Option Addr)(cr2 cw:Nat)(w:World)(h:dE B gD d t w)(hx:c.text.length<=9223372036854775807)(hT:Tbs B w)(hBw:B<=w.heap.size)(hg:d.given+1<=1000000)(hxs:FE w t.xs)(hn:c.name.length<=9223372036854775807)(hr:fo w (.slice pr c.sv.roles.length cr2) c.sv.roles)(h14:1<=c.kind/\c.kind<=4):Calls prog 32 #[ab gD 0,.agg (doC c (.slice pr c.sv.roles.length cr2) (.slice pw c.swho.length cw))] w (tR B gD (doP d c) t w):=by
 obtain⟨w1,h1,b1,n1⟩:=nb w #[ab gD 0] 115;obtain⟨w2,h2,b2,n2⟩:=nb w1 (doC c (.slice pr c.sv.roles.length cr2) (.slice pw c.swho.length cw)) 37;obtain⟨w3,h3,b3,n3⟩:=nb w2 #[ag 0,ag 0,ag 0,ag 0,af,af] 28;have b12:=au b1 b2;have b13:=au b12 b3;have hd3:=h.opened (q:=w2.heap.size) b12.size (by rw[<-h3];simp) b13;have m2:=bt b3 n2;have k1:=bt (au b2 b3) n1;have z1:=cr 0 k1 rfl;obtain⟨y0,y1,y2,y3,y4,y5,y6,y7,y8,y9,y10,y11,y12⟩:=Cj m2;have HB:=aD b13;have HQ:=aD b12.size
 have HGX:P3 (Gx gD (t.add w2.heap.size) w2.heap.size):=by
  obtain⟨_,_,_,_,_,_,_,hm⟩:=hd3;exact(hm.nx _ bc).2.2
 have hT3:=hT.below (b13.mono hBw);have hB3:=a6 hBw b13.size;rcases(show c.kind=1\/c.kind=2\/c.kind=3\/c.kind=4 by omega) with hk|hk|hk|hk
 case' inl=>
  have hx3:FE w3 (t.add w2.heap.size).xs:=fun k hk=>by
   rcases bh.1 hk with rfl|hk
   ·exact⟨_,_,_,n3,by decide⟩
   ·obtain⟨c,T,f,hc,hn⟩:=hxs k hk;exact⟨c,T,f,bt b13 hc,hn⟩
  have cC:=Iw c.text w3 hd3 hx hT3 hB3 hg hx3;clear hx3;generalize hP:qA d (fO c.text)=P at cC
 case' inr.inl=>
  have cC:=Fw c.name w3 hd3 hn;generalize hP:ru d c.name=P at cC
 case' inr.inr.inl=>
  have cC:=FG c.sv pr cr2 w3 hd3 (hr.below b13);generalize hP:rx d c.sv=P at cC
 case' inr.inr.inr=>
  have cC:=IC c.n c.day c.days w3 hd3 (fun W hW=>(hT3 W hW).2.2) hB3;generalize hP:jS d c.n c.day c.days=P at cC
 all_goals
  have HP:P3 (doP d c=P):=by
   show _=_;rw[<-hP];unfold doP;repeat (first|rw[ay hk]|rw[aw (by omega)])
  clear b1 b2 b3 b12 b13 hd3 n1 n2 hP k1 m2 hT3 hB3
  try rw[hk]at y0
  try (have e1:(c.kind==1)=false:=by simp;omega
       have e2:(c.kind==2)=false:=by simp;omega
       have e3:(c.kind==3)=false:=by simp;omega
       have e4:(c.kind==4)=false:=by simp;omega
       have e5:(c.kind==5)=false:=by simp;omega
       have e6:(c.kind==6)=false:=by simp;omega
       have e7:(c.kind==7)=false:=by simp;omega
       have e8:(c.kind==8)=false:=by simp;omega
       have e9:(c.kind==9)=false:=by simp;omega)
  clear hk
  go_enter func32,ntmps32
  go_wp2_with fail
  refine cC.mono ?_
  rintro e w4 ⟨t',wv,lv,rfl,hd4,hk4,hw4,hl4⟩
  obtain⟨t0,o1,o2,o3,o4⟩:=ID HB.o HQ.o hd4 hk4 hw4 hl4 (anC P.1 wv lv)
  obtain⟨p5,c5,rfl,_,_⟩:=hw4.here.1
  obtain⟨p6,c6,rfl,_,_⟩:=hl4.here
  have n4:=(hk4.blk _ HGX.o (aF n3)).trans n3
  have HO:=aD (fE o1 (fE o2 (fE o3 o4)))
  have HR:=aD (aJ _ _ _ (anC P.1 (.slice p5 P.1.who.length c5) (.slice p6 P.1.list.length c6)) _ _ n4)
  clear cC hd4 hk4 hw4 hl4 o1 o2 o3 o4 n3
  go_wp2_with(refine az rfl 28 _ _ rfl _ _ rfl rfl _ _ n4 (by kernel_rfl) rfl (by simp[anC,Value.oneCell']) ?_)
  refine aU (v:= .agg (anC P.1 (.slice p5 P.1.who.length c5) (.slice p6 P.1.list.length c6))) ?_ rfl ?_
  ·exact a8 rfl _ _ w2.heap.size _ _ _ _ rfl HR.o anT rfl (by kernel_rfl)
  ·rw[HP.o]
   exact⟨t0,_,_,rfl,HO.o.1,HO.o.2.1,HO.o.2.2.1,HO.o.2.2.2⟩
theorem M7 (c:Cm)(pr pw:Option Addr)(cr2 cw:Nat)(w:World)(h:dE B gD d t w)(hcw:c.swho.length<=cw)(hwho:Rob (fun q=>q<B) (fun u=>dQ u (.slice pw c.swho.length cw) c.swho) w)(hk:c.kind=5):Calls prog 32 #[ab gD 0,.agg (doC c (.slice pr c.sv.roles.length cr2) (.slice pw c.swho.length cw))] w (tR B gD (doP d c) t w):=by
 obtain⟨w1,h1,b1,n1⟩:=nb w #[ab gD 0] 115;obtain⟨w2,h2,b2,n2⟩:=nb w1 (doC c (.slice pr c.sv.roles.length cr2) (.slice pw c.swho.length cw)) 37;obtain⟨w3,h3,b3,n3⟩:=nb w2 #[ag 0,ag 0,ag 0,ag 0,af,af] 28;have b12:=au b1 b2;have b13:=au b12 b3;have hd3:=h.opened (q:=w2.heap.size) b12.size (by rw[<-h3];simp) b13;have m2:=bt b3 n2;have k1:=bt (au b2 b3) n1;have z1:=cr 0 k1 rfl;obtain⟨y0,y1,y2,y3,y4,y5,y6,y7,y8,y9,y10,y11,y12⟩:=Cj m2;have HB:=aD b13;have HQ:=aD b12.size
 have HGX:P3 (Gx gD (t.add w2.heap.size) w2.heap.size):=by
  obtain⟨_,_,_,_,_,_,_,hm⟩:=hd3;exact(hm.nx _ bc).2.2
 have hw3:Rob (Fx gD (t.add w2.heap.size)) (fun u=>dQ u (.slice pw c.swho.length cw) c.swho) w3:=hwho.move b13.size (fun q _ hl=>b13.block q hl) fun q hl hq=>⟨(h.fx (.inl hq)).1,fun hx=>by
  rcases bh.1 hx with e|hx
  ·have:=b12.size;omega
  ·exact(h.fx (.inl hq)).2 hx⟩
 have cC:=KO c.n c.sday c.smin c.swho pw cw w3 hd3 hw3 hcw;generalize hP:kX d c.n c.sday c.smin c.swho=P at cC
 have HP:P3 (doP d c=P):=by
  show _=_;rw[<-hP];unfold doP;repeat (first|rw[ay hk]|rw[aw (by omega)])
 clear b1 b2 b3 b12 b13 hd3 n1 n2 hP k1 m2 hw3;try rw[hk]at y0
 clear hk;go_enter func32,ntmps32;go_wp2_with fail;refine cC.mono ?_;rintro e w4 ⟨t',wv,lv,rfl,hd4,hk4,hw4,hl4⟩;obtain⟨t0,o1,o2,o3,o4⟩:=ID HB.o HQ.o hd4 hk4 hw4 hl4 (anC P.1 wv lv);obtain⟨p5,c5,rfl,_,_⟩:=hw4.here.1;obtain⟨p6,c6,rfl,_,_⟩:=hl4.here;have n4:=(hk4.blk _ HGX.o (aF n3)).trans n3;have HO:=aD (fE o1 (fE o2 (fE o3 o4)));have HR:=aD (aJ _ _ _ (anC P.1 (.slice p5 P.1.who.length c5) (.slice p6 P.1.list.length c6)) _ _ n4);clear cC hd4 hk4 hw4 hl4 o1 o2 o3 o4 n3;go_wp2_with(refine az rfl 28 _ _ rfl _ _ rfl rfl _ _ n4 (by kernel_rfl) rfl (by simp[anC,Value.oneCell']) ?_)
 refine aU (v:= .agg (anC P.1 (.slice p5 P.1.who.length c5) (.slice p6 P.1.list.length c6))) ?_ rfl ?_
 ·exact a8 rfl _ _ w2.heap.size _ _ _ _ rfl HR.o anT rfl (by kernel_rfl)
 ·rw[HP.o];exact⟨t0,_,_,rfl,HO.o.1,HO.o.2.1,HO.o.2.2.1,HO.o.2.2.2⟩
theorem IX (c:Cm)(hk:1<=c.kind/\c.kind<=4):wf c:=fun _ _ _ _ w pr pw kr kw h hT hB hg hx hc _=>M6 c pr pw kr kw w h hc.text hT hB hg hx hc.name hc.roles hk
theorem OB (c:Cm)(hk:c.kind=5):wf c:=fun _ _ _ _ w pr pw kr kw h _ _ _ _ hc hr=>M7 c pr pw kr kw w h (hc.cap _ _ _ rfl) hr hk
theorem OC (c:Cm)(hk:c.kind=1\/c.kind=2\/c.kind=3\/c.kind=4\/c.kind=5):wf c:=by
 by_cases h5:c.kind=5
 ·exact OB c h5
 ·exact IX c (by omega)
end
end
theorem ye (t:List UInt8)(w:World):Calls prog 19 #[.string ⟨t.toArray⟩] w fun e w'=>e= .returned (.agg (doC (cR t) (af) (af)))/\ao w w':=by
 obtain⟨wA,hA,bA,nA⟩:=nb w #[ag 0,ag 0,ag 0,ag 0,.string ⟨#[]⟩,.string ⟨#[]⟩,ag 0,ag 0,ag 0,af,ag 0,ag 0,af] 37;have HF:=aD (aJ _ _ _ #[ag 1,ag 0,ag 0,ag 0,.string ⟨t.toArray⟩,.string ⟨#[]⟩,ag 0,ag 0,ag 0,af,ag 0,ag 0,af] _ _ nA);have HB:=aD (below_setRow bA (aA _) #[ag 1,ag 0,ag 0,ag 0,.string ⟨t.toArray⟩,.string ⟨#[]⟩,ag 0,ag 0,ag 0,af,ag 0,ag 0,af]);clear bA;go_enter func19,ntmps19;go_wp2_with(refine az rfl 37 _ _ rfl _ _ rfl rfl _ _ nA (by kernel_rfl) rfl (by simp[Value.oneCell']) ?_)
 refine aU (v:= .agg #[ag 1,ag 0,ag 0,ag 0,.string ⟨t.toArray⟩,.string ⟨#[]⟩,ag 0,ag 0,ag 0,af,ag 0,ag 0,af]) ?_ rfl ⟨rfl,HB.o⟩;exact a8 rfl _ _ w.heap.size _ _ _ _ rfl HF.o doT rfl (by kernel_rfl)
theorem tZ (n day days:Int)(w:World):Calls prog 14 #[ag n,ag day,ag days] w fun e w'=>e= .returned (.agg (doC (cF n day days) (af) (af)))/\ao w w':=by
 obtain⟨wA,hA,bA,nA⟩:=nb w #[ag 0,ag 0,ag 0,ag 0,.string ⟨#[]⟩,.string ⟨#[]⟩,ag 0,ag 0,ag 0,af,ag 0,ag 0,af] 37;have HF:=aD (aJ _ _ _ #[ag 4,ag n,ag day,ag days,.string ⟨#[]⟩,.string ⟨#[]⟩,ag 0,ag 0,ag 0,af,ag 0,ag 0,af] _ _ nA);have HB:=aD (below_setRow bA (aA _) #[ag 4,ag n,ag day,ag days,.string ⟨#[]⟩,.string ⟨#[]⟩,ag 0,ag 0,ag 0,af,ag 0,ag 0,af]);clear bA;go_enter func14,ntmps14;go_wp2_with(refine az rfl 37 _ _ rfl _ _ rfl rfl _ _ nA (by kernel_rfl) rfl (by simp[Value.oneCell']) ?_)
 refine aU (v:= .agg #[ag 4,ag n,ag day,ag days,.string ⟨#[]⟩,.string ⟨#[]⟩,ag 0,ag 0,ag 0,af,ag 0,ag 0,af]) ?_ rfl ⟨rfl,HB.o⟩;exact a8 rfl _ _ w.heap.size _ _ _ _ rfl HF.o doT rfl (by kernel_rfl)
def oC (t:List UInt8)(len:Int)(rv:Value):List (Cm×Value×Value):=[(cR t,af,af),(cAd,af,af),(cS (sv1 len),rv,af)]
theorem M8 (t:List UInt8)(len:Int)(w:World)(ht:t.length<=9223372036854775807):Calls prog 12 #[.string ⟨t.toArray⟩,ag len] w fun e w'=> ∃v rv,e= .returned v/\ao w w'/\jW w.heap.size w' v (oC t len rv):=by
 have c1:=ye t w;go_enter func12,ntmps12;go_wp2_with fail;refine c1.mono ?_;rintro e wr ⟨rfl,br⟩;clear c1;obtain⟨w1,h1,b1,n1⟩:=nb wr #[ag 0] 3;obtain⟨w2,h2,b2,n2⟩:=nb w1 #[.slice (some (ae wr.heap.size 0)) 1 1] 24;have HBR:=aD br;have HB1:=aD b1;have HB2:=aD b2;have HN1:=aD n1;have HN2:=aD n2;have HT:=aD ht;clear b1 b2 n1 n2 br ht;dsimp only[doC];go_wp2_with fail;go_ret;obtain⟨rv,hrv⟩:=aq (.slice (some (ae w1.heap.size 0)) 1 1:Value)
 suffices H: ∀W,w2.alloc (.cells ((oC t len rv).flatMap fun q=>(doC q.1 q.2.1 q.2.2).toList).toArray 37)=W->ao w W/\jW w.heap.size W (.slice (some (ae w2.heap.size 0)) 3 3) (oC t len rv) by
  rw[hrv];exact⟨_,rv,rfl,H _ rfl⟩
 intro w3 h3;obtain⟨w3',h3',b3,n3⟩:=nb w2 ((oC t len rv).flatMap fun q=>(doC q.1 q.2.1 q.2.2).toList).toArray 37;rw[h3]at h3';subst h3';have bb:=(au HBR.o HB1.o).trans (HB2.o.mono (a6 HBR.o.size HB1.o.size));refine⟨au bb b3,mE (n:=3) n3 bb.size rfl (by decide),fun q hq u hu ha=> ?_⟩;have ha': ∀k,k<w2.heap.size->u.heap[k]? =w2.heap[k]? :=fun k hk=>(ha k (fun e=>Nat.ne_of_lt hk (aK e)) (aO hk b3.size)).trans (b3.block k hk);subst hrv;rcases bh.1 hq with rfl|hq
 ·exact rU _ rfl rfl HT.o (df _)
 rcases bh.1 hq with rfl|hq
 ·exact rU _ rfl rfl (df _) (by decide)
 cases bv.1 hq;have y1:=bt HB2.o HN1.o;exact⟨M4 ((ha' _ (aF HN2.o)).trans HN2.o) (Ca ((ha' _ (aF y1)).trans y1)),CE,df _,df _,fun p n k e=>by cases e;exact aA _⟩
def Ps (cs:List Cm)(w:World)(e:Ending)(w':World):Prop:= ∃(a:An) (wv lv:Value),(eZ dk0 cs).1[cs.length-1]? =some a/\e= .returned (.agg (anC a wv lv))/\mw w.heap.size w' wv a.who/\dQ w' lv a.list/\ao w w'
theorem FQ (l:List Cm):(eZ dk0 l).1.length=l.length:=by rw[(Cv l).1,qU]
theorem CF (cs:List (Cm×Value×Value))(v:Value)(w:World)(hs:lT w v cs)(h0:0<cs.length)(h60:cs.length<=60)(hT:Tbs w.heap.size w)(hok: ∀q∈cs,wf q.1):Calls prog 11 #[v] w (Ps (cs.map fun q=>q.1) w):=by
 obtain⟨wA,hA,bA,nA⟩:=nb w #[ag 0,ag 0,ag 0,ag 0,af,af] 28
 have c1:=KL w.heap.size [w.heap.size] cs v wA bA.size (hs.below bA) (fun W hW=>hT W (bA.trans hW)) hok (fun q hq u hu ha=>by
  obtain⟨_,_,_,_,h3⟩:=id hs;obtain⟨j,hj⟩:=List.getElem?_of_mem hq;exact Dj (h3 j q hj).1.who fun k hk=>(ha k hk (aO hk bA.size)).trans (bA.block k hk)) (fun q hq=>by
  cases bv.1 hq;exact⟨aA _,_,_,_,nA,by decide⟩)
 have HBA:=aD bA;have NA:=aD nA;obtain⟨n,hn⟩: ∃n,cs.length=n+1:=⟨cs.length-1,by omega⟩
 have hcl:(cs.map fun q=>q.1).length=n+1:=by rw[aZ,hn]
 obtain⟨L,hL⟩:=aq (cs.map fun q=>q.1);rw[hL]at hcl c1⊢;have h60':n+1<=60:=by omega
 clear bA nA hT hok hs hn hL h0 h60;go_enter func11,ntmps11;go_wp2_with fail;refine c1.mono ?_;clear c1;rintro e w5 ⟨b5,h5⟩;rcases h5 with⟨hl,_⟩|⟨hl,rw',ev,sv,av,asv,ss,aa,ls,rfl,hR⟩
 ·omega
 clear hl;have hP:=hR.here
 have hl5:ls.length=n+1:=by
  have:=congrArg List.length hP.ane;rw[aZ,FQ,hcl]at this;exact this
 obtain⟨us,hus,hx3⟩:=hP.rules;obtain⟨p1,k1,rfl⟩:=hus.form;obtain⟨p2,k2,rfl⟩:=bU hP.res;obtain⟨p3,k3,rfl⟩:=bU hP.svs;obtain⟨pa,ka,rfl⟩:=bU hP.aps;obtain⟨q,hq⟩: ∃q,ls[n]? =some q:=⟨_,ax (by omega)⟩
 have fq:(eZ dk0 L).1[L.length-1]? =some q.1:=by
  rw[hcl,Nat.add_sub_cancel,<-hP.ane,bg,hq];rfl
 have hrr:Rob (fun k=>k∉[w.heap.size]) (fun u=>mw w.heap.size u q.2.1 q.1.who/\dQ u q.2.2 q.1.list) w5:=hR.imp fun u hu=>hu.anr q (aM hq);obtain⟨hr1,hr2⟩:=hP.anr q (aM hq);obtain⟨⟨pw,kw,ew,_,_⟩,_⟩:=hr1;obtain⟨pl,kl,el,_,_⟩:=hr2;obtain⟨g,c,hv,hx1,r3⟩:=lI (f:=fun p:An×Value×Value=>anC p.1 p.2.1 p.2.2) (fun _=>rfl) hP.ans rfl hq;subst hv;clear hR hP hus hx1 hx3 hq;obtain⟨a,wv,lv⟩:=q;dsimp only at hrr ew el r3 fq;subst ew el;have HRR:=aD hrr;have HF:=aD fq;rw[hl5];clear hl5 hrr fq;generalize us.length=n1;generalize ss.length=n3;generalize aa.length=n4;generalize (eZ dk0 L).2.res.length=n2;generalize (eZ dk0 L).2.runs=rn;obtain⟨wZ,wC,hZ,nZ,hC,bC,nC⟩:=nbs w5 #[af,af,af,af] #[.slice p1 n1 k1,.slice p2 n2 k2,.slice p3 n3 k3,.slice pa n4 ka] 69;have r4:=it r3 bC;have nA':=bt bC (bt b5 NA.o);have HB:=aD (HBA.o.trans ((au b5 bC).mono HBA.o.size));have HW:=aD (below_setRow HB.o (aA _) (anC a (.slice pw a.who.length kw) (.slice pl a.list.length kl)));have HX:=aD (aJ _ _ _ (anC a (.slice pw a.who.length kw) (.slice pl a.list.length kl)) _ _ nA');have HC:=aD bC;clear r3 bC b5 nC;have hw1:IntKind.i64.wrap (((n+1:Nat):Int)-1)=(n:Int):=by rw[bG];omega
 have hnz: ¬((n+1:Nat):Int)=0:=by omega
 go_wp2_with(first|(refine az rfl 69 _ _ rfl _ _ rfl rfl _ _ nZ (by kernel_rfl) rfl (by simp[Value.oneCell']) ?_;rw[hC])|(refine wpList_load_mid rfl 28 _ rfl g (n*6) rfl (anC a (.slice pw a.who.length kw) (.slice pl a.list.length kl)).toList _ r4 anT rfl (by kernel_rfl) ?_)|(refine az rfl 28 _ _ rfl _ _ rfl rfl _ _ nA' (by kernel_rfl) rfl (by simp[anC,Value.oneCell']) ?_))
 refine aU (v:= .agg (anC a (.slice pw a.who.length kw) (.slice pl a.list.length kl))) ?_ rfl (by
  have h:=HRR.o ((wC.setRow w.heap.size (anC a (.slice pw a.who.length kw) (.slice pl a.list.length kl)))) ?_ ?_
  ·exact⟨a,_,_,HF.o,rfl,h.1,h.2,HW.o⟩
  ·exact a6 HC.o.size (below_setRow (aG 0 wC) (df _) _).size
  ·exact fun k hk hl=>(aT _ _ _ _ fun e=>hk (bv.2 e)).trans (HC.o.block k hl))
 ·exact a8 rfl _ _ w.heap.size _ _ _ _ rfl HX.o anT rfl (by kernel_rfl)
theorem wm {w0 w1 w2:World}{v:Value}{cs:List (Cm×Value×Value)}(hO:jW w0.heap.size w1 v cs)(b1:ao w0 w1)(b2:ao w1 w2)(n day days:Int): ∃w3,w2.alloc (.cells (doC (cF n day days) (af) (af)) 37)=w3/\ao w0 w3/\jW w0.heap.size w3 v cs/\lT w3 (.slice (some (ae w2.heap.size 0)) 1 1) [(cF n day days,af,af)]/\ ∀q∈[((cF n day days,af,af):Cm×Value×Value)],Rob (fun k=>some k≠v.ownBlock) (fun u=>jM u q.1 q.2.1 q.2.2) w3:=by
 obtain⟨w3,h3,b3,n3⟩:=nb w2 (doC (cF n day days) (af) (af)) 37;have b13:=au b2 b3
 have hR: ∀(P:Nat->Prop),∀q∈[((cF n day days,af,af):Cm×Value×Value)],Rob P (fun u=>jM u q.1 q.2.1 q.2.2) w3:=fun P q hq u _ _=>by
  cases bv.1 hq;exact rU _ rfl rfl (df _) (df _)
 exact⟨w3,h3,au b1 b13,hO.below b13,uT (B:=0) (mE (n:=1) n3 (df _) rfl (by decide)) (fun q hq=>(hR (fun _=>True) q hq).here) (by decide:1<9223372036854775808),hR _⟩
theorem M9 {t:List UInt8}{L:List Ru}(h:fO t=(0,L))(ha:0<=atP5 L [97]){len:Int}(hl:1<=len/\len<=1440)(day days:Int):(eZ dk0 [cR t,cAd,cS (sv1 len),cF 0 day days]).1[3]? =some (kY (c1 L len []) 0 day days).1:=by
 rw[(Cv _).1];show(ib co0 ([cR t,cAd,cS (sv1 len)]++[cF 0 day days])).1[3]? =_;rw[kN,KF h ha hl];rfl
theorem KP {w0 w4:World}{v:Value}{t:List UInt8}{len day days:Int}{rv:Value}(hO:jW w0.heap.size w4 v (oC t len rv++[(cF 0 day days,af,af)]))(hb:ao w0 w4)(hT:Tbs w0.heap.size w0){A:An}(hA:(eZ dk0 [cR t,cAd,cS (sv1 len),cF 0 day days]).1[3]? =some A):Calls prog 11 #[v] w4 fun e w'=> ∃(p q:Option Addr) (k m:Nat),e= .returned (.agg (anC A (.slice p A.who.length k) (.slice q A.list.length m)))/\ao w4 w':=by
 refine(CF _ v w4 (hO.row (by show 4<9223372036854775808;decide)) (by show 0<4;decide) (by show 4<=60;decide) (fun W hW=>hT W (au hb hW)) fun q hq=>IX _ ?_).mono ?_
 ·have:q.1.kind=1\/q.1.kind=2\/q.1.kind=3\/q.1.kind=4:=by
   simp only[oC,List.cons_append,List.nil_append,bh,List.not_mem_nil,or_false]at hq;rcases hq with rfl|rfl|rfl|rfl
   ·exact .inl rfl
   ·exact .inr (.inl rfl)
   ·exact .inr (.inr (.inl rfl))
   ·exact .inr (.inr (.inr rfl))
  omega
 ·rintro e w' ⟨a,wv,lv,h1,rfl,⟨⟨p,k,rfl,_⟩,_⟩,⟨q,m,rfl,_⟩,h4⟩;have h1':(eZ dk0 [cR t,cAd,cS (sv1 len),cF 0 day days]).1[3]? =some a:=h1;rw[hA]at h1';cases aK h1';exact⟨p,q,k,m,rfl,h4⟩
theorem IY (w:World)(hT:Tbs w.heap.size w):Calls prog 10 #[] w fun e w'=>e= .returned (.bool true)/\ao w w':=by
 have c1:=M8 aS 30 w (by decide)
 have hA:(eZ dk0 [cR aS,cAd,cS (sv1 30),cF 0 7 1]).1[3]? =some ⟨0,0,7,540,[0],[]⟩:=by
  rw[M9 Oz (by decide) (by decide)];exact congrArg some ((Ow (a:=540) (b:=1020) (len:=30) (day:=7) (days:=1) (by decide) (by decide) (by decide) (by decide) (by decide)).trans (aw (by decide)))
 have HA:=aD hA;have HT:=aD hT;clear hT hA;go_enter func10,ntmps10;go_wp2_with fail;refine c1.mono ?_;rintro e w1 ⟨v,rv,rfl,b1,ho⟩;clear c1;have HB1:=aD b1;have HO:=aD ho;have c2:=tZ 0 7 1 w1;obtain⟨p,k,hv⟩:=bU ho.1;subst hv;clear ho b1;go_wp2_with fail;refine c2.mono ?_;rintro e w2 ⟨rfl,b2⟩;clear c2;obtain⟨w3,h3,b3,o3,x3,r3⟩:=wm HO.o HB1.o b2 0 7 1;have HB3:=aD b3;have HO3:=aD o3;have HX:=aD x3;have HR:=aD r3;clear b3 o3 x3 r3 b2 HO;dsimp only[doC,oC,List.length]at*;go_wp2_with(refine jO rfl _ _ rfl rfl HO3.o rfl HX.o (show 0<1 by decide) HR.o (show 4<=100000 by decide) HB3.o.size ?_;intro v' w4 hO4 b4 _)
 have hb4:=HB3.o.trans b4;have HB4:=aD hb4;have c3:=KP hO4 hb4 HT.o HA.o;clear hO4 hb4 b4 HB3 HO3 HX HR;refine c3.mono ?_;clear c3;rintro e w5 ⟨p1,p2,k1,k2,rfl,b5⟩;obtain⟨wZ,wC,hZ,nZ,hC,bC,nC⟩:=nbs w5 #[ag 0,ag 0,ag 0,ag 0,af,af] #[ag 0,ag 0,ag 7,ag 540,.slice p1 1 k1,.slice p2 0 k2] 28;have z0:=cr 0 nC rfl;have z3:=cr 3 nC rfl;have z4:=cr 4 nC rfl;have HB5:=aD (au HB4.o b5);have HB6:=aD (au HB5.o bC);clear b5 bC;dsimp only[anC,List.length];go_wp2_with(refine az rfl 28 _ _ rfl _ _ rfl rfl _ _ nZ (by kernel_rfl) rfl (by simp[Value.oneCell']) ?_;rw[hC])
 go_ret;exact⟨rfl,HB6.o⟩
namespace Lx
def yV (n:Nat):List UInt8:=[UInt8.ofNat (48+n/10),UInt8.ofNat (48+n%10)]
def rV (n:Int):List UInt8:=yV (n.toNat/60)++58::yV (n.toNat%60)
def Lo (n:Int)(t:Int×Int×Int):Bool:=decide (1<=t.2.2/\t.2.2<=Cal.dim t.1 t.2.1/\Cal.num t.1 t.2.1 t.2.2=n)
def FR (n:Int)(p:Nat×Nat):Int×Int×Int:=(2000+(p.1:Int),1+(p.2:Int),n-Cal.ys (2000+(p.1:Int))-Cal.cum (2000+(p.1:Int)) (1+(p.2:Int))+1)
def OD:List (Nat×Nat):=(List.range 400).flatMap fun i=>(List.range 12).map fun j=>(i,j)
def ymd (n:Int):Int×Int×Int:=match OD.find? (fun p=>Lo n (FR n p)) with
 |some p=>FR n p
 |none=>(0,0,0)
def yf (n:Int):List UInt8:=Lib.decDigits (ymd n).1.toNat++45::(yV (ymd n).2.1.toNat++45::yV (ymd n).2.2.toNat)
def yh (a b:Int):List UInt8:=if a=b then yf a else yf a++([46,46]++yf b)
def Pu (a:Int)(i:Nat):Bool:=decide ((a.toNat/2^i)%2=1)
def CG (a:Int):Nat->List (List UInt8)
 |0=>[]
 |i+1=>if Pu a i then CG a i++[eJ.getD i []] else CG a i
def AR (a:Int):List UInt8:=Lib.join (CG a 7) [44]
def kX (k:Int):Nat:=if k=6\/k=7 then 0 else if k=8 then 1 else if k=4\/k=5 then 2 else 3
def ie (e:Ex)(t:Nat->Nat->List UInt8):List UInt8:=
 if e.kind=1 then [110,101,118,101,114] else if e.kind=2 then [97,108,119,97,121,115]
 else if e.kind=3 then rV e.a++45::rV e.b else if e.kind=10 then e.name
 else if e.kind=6 then t 0 0++([32,43,32]++t 1 1) else if e.kind=7 then t 0 0++([32,45,32]++t 1 1) else if e.kind=8 then t 0 1++([32,38,32]++t 1 2)
 else if e.kind=9 then t 0 3++([32,115,104,105,102,116,32]++Lib.itoa e.a)
 else if e.kind=4 then [119,101,101,107,108,121,32]++AR e.a++[58,32]++t 0 2
 else if e.kind=5 then [100,97,116,101,115,32]++yh e.a e.b++[58,32]++t 0 2 else []
theorem OE {e:Ex}{t:Nat->Nat->List UInt8}(h:e.kind=1):ie e t=[110,101,118,101,114]:=by
 unfold ie;rw[h];rfl
theorem OF {e:Ex}{t:Nat->Nat->List UInt8}(h:e.kind=2):ie e t=[97,108,119,97,121,115]:=by
 unfold ie;rw[h];rfl
theorem OG {e:Ex}{t:Nat->Nat->List UInt8}(h:e.kind=3):ie e t=rV e.a++45::rV e.b:=by
 unfold ie;rw[h];rfl
theorem Na {e:Ex}{t:Nat->Nat->List UInt8}(h:e.kind=10):ie e t=e.name:=by
 unfold ie;rw[h];rfl
theorem OH {e:Ex}{t:Nat->Nat->List UInt8}(h:e.kind=6):ie e t=t 0 0++([32,43,32]++t 1 1):=by
 unfold ie;rw[h];rfl
theorem OI {e:Ex}{t:Nat->Nat->List UInt8}(h:e.kind=7):ie e t=t 0 0++([32,45,32]++t 1 1):=by
 unfold ie;rw[h];rfl
theorem OJ {e:Ex}{t:Nat->Nat->List UInt8}(h:e.kind=8):ie e t=t 0 1++([32,38,32]++t 1 2):=by
 unfold ie;rw[h];rfl
theorem OK {e:Ex}{t:Nat->Nat->List UInt8}(h:e.kind=9):ie e t=t 0 3++([32,115,104,105,102,116,32]++Lib.itoa e.a):=by
 unfold ie;rw[h];rfl
theorem OL {e:Ex}{t:Nat->Nat->List UInt8}(h:e.kind=4):ie e t=[119,101,101,107,108,121,32]++AR e.a++[58,32]++t 0 2:=by
 unfold ie;rw[h];rfl
theorem OM {e:Ex}{t:Nat->Nat->List UInt8}(h:e.kind=5):ie e t=[100,97,116,101,115,32]++yh e.a e.b++[58,32]++t 0 2:=by
 unfold ie;rw[h];rfl
def brk (b:Bool)(s:List UInt8):List UInt8:=if b then [40]++s++[41] else s
def l7 (e:Ex)(least:Nat):List UInt8:=
 brk (decide (kX e.kind<least)) (ie e fun j l=>match e.kids.attach[j]? with|some k=>l7 k.1 l|none=>[])
 termination_by SizeOf.sizeOf e
 decreasing_by exact gK k.2
def wn (ks:List Ex)(j l:Nat):List UInt8:=match ks[j]? with|some k=>l7 k l|none=>[]
theorem KQ (e:Ex)(least:Nat):l7 e least=brk (decide (kX e.kind<least)) (ie e (wn e.kids)):=by
 rw[l7];congr 2;funext j l;unfold wn
 have h: ∀(o:Option {x//x∈e.kids}) (p:Option Ex),o.map Subtype.val=p->(match o with|some k=>l7 k.1 l|none=>[])=(match p with|some k=>l7 k l|none=>[]):=by
  intro o p h;subst h;cases o<;>rfl
 exact h _ _ (by rw[<-bg,fF])
theorem AE (n:Int):(rV n).length=5:=by simp[rV,yV]
theorem yW {u:Nat}(h:u<10000):(Lib.decDigits u).length<=4:=by
 rw[Lib.decDigits_length];by_cases h1:u<10
 ·rw[Lib.nDigits_small h1];omega
 rw[Lib.nDigits_big h1];by_cases h2:u/10<10
 ·rw[Lib.nDigits_small h2];omega
 rw[Lib.nDigits_big h2];by_cases h3:u/10/10<10
 ·rw[Lib.nDigits_small h3];omega
 rw[Lib.nDigits_big h3,Lib.nDigits_small (by omega)];omega
theorem ON (n:Int):0<=(ymd n).1/\(ymd n).1<=2399:=by
 unfold ymd;cases hf:OD.find? (fun p=>Lo n (FR n p)) with
 |none=>exact⟨by simp,by simp⟩
 |some p=>
  have hp:=List.find?_some hf;dsimp only at hp⊢;obtain⟨a1,a2,_⟩:=eG hp;have:=Cal.LC _ _ (Int.le_trans a1 a2);omega
theorem CH (n:Int):(yf n).length<=10:=by
 have h:=ON n;have:=yW (u:=(ymd n).1.toNat) (by omega);simp[yf,yV];omega
theorem IZ (a b:Int):(yh a b).length<=22:=by
 have h1:=CH a;have h2:=CH b;unfold yh;split
 ·omega
 ·simp;omega
theorem KR: ∀n:Fin 128,(AR (n.1:Int)).length<=27:=by decide+kernel
theorem KS {a:Int}(h0:0<=a)(h1:a<128):(AR a).length<=27:=by
 have:=KR ⟨a.toNat,by omega⟩;rw[show(((⟨a.toNat,by omega⟩:Fin 128).1:Nat):Int)=a from by simp;omega]at this;exact this
theorem KU {a:Int}(h0: -10000<a)(h1:a<10000):(Lib.itoa a).length<=5:=by
 unfold Lib.itoa;split
 ·have:=yW (u:=a.natAbs) (by omega);simp;omega
 ·have:=yW (u:=a.toNat) (by omega);omega
theorem KV {l:List UInt8}(h:Go.Proofs.YtjkilacmkbmmbaaGreatDoor.namedL l=true):l.length<=20:=by
 unfold Go.Proofs.YtjkilacmkbmmbaaGreatDoor.namedL at h;rw[bq,bq]at h;exact eG h.2.1
theorem Nb (b:Bool)(s:List UInt8):(brk b s).length<=s.length+2:=by unfold brk;split<;>simp
theorem KW {e:Ex}(h:OKE e)(t:Nat->Nat->List UInt8):
  (kidsP e.kind=0->(ie e t).length<=40)/\(kidsP e.kind=1-> ∃l,(ie e t).length<=40+(t 0 l).length)/\(kidsP e.kind=2-> ∃l l',(ie e t).length<=40+(t 0 l).length+(t 1 l').length):=by
 obtain⟨k1,k2,_,hr,hn⟩:=h.kinds;have c1:=AE e.a;have c2:=AE e.b;have c3:=IZ e.a e.b;have hc:e.kind=1\/e.kind=2\/e.kind=3\/e.kind=10\/e.kind=6\/e.kind=7\/e.kind=8\/e.kind=9\/e.kind=4\/e.kind=5:=by omega
 rcases hc with hk|hk|hk|hk|hk|hk|hk|hk|hk|hk
 ·have kp':kidsP e.kind=0:=by rw[hk];rfl
  rw[OE hk,kp'];refine⟨fun _=> ?_,fun h=>(by omega),fun h=>(by omega)⟩;simp;try omega
 ·have kp':kidsP e.kind=0:=by rw[hk];rfl
  rw[OF hk,kp'];refine⟨fun _=> ?_,fun h=>(by omega),fun h=>(by omega)⟩;simp;try omega
 ·have kp':kidsP e.kind=0:=by rw[hk];rfl
  rw[OG hk,kp'];refine⟨fun _=> ?_,fun h=>(by omega),fun h=>(by omega)⟩;simp;try omega
 ·have:=KV (hn hk);have kp':kidsP e.kind=0:=(by rw[hk];rfl);rw[Na hk,kp'];refine⟨fun _=> ?_,fun h=>(by omega),fun h=>(by omega)⟩;omega
 ·have kp':kidsP e.kind=2:=by rw[hk];rfl
  rw[OH hk,kp'];refine⟨fun h=>(by omega),fun h=>(by omega),fun _=>⟨0,1,?_⟩⟩;simp;omega
 ·have kp':kidsP e.kind=2:=by rw[hk];rfl
  rw[OI hk,kp'];refine⟨fun h=>(by omega),fun h=>(by omega),fun _=>⟨0,1,?_⟩⟩;simp;omega
 ·have kp':kidsP e.kind=2:=by rw[hk];rfl
  rw[OJ hk,kp'];refine⟨fun h=>(by omega),fun h=>(by omega),fun _=>⟨1,2,?_⟩⟩;simp;omega
 ·simp[rangeP,hk]at hr;have:=KU (a:=e.a) (by omega) (by omega);have kp':kidsP e.kind=1:=(by rw[hk];rfl);rw[OK hk,kp'];refine⟨fun h=>(by omega),fun _=>⟨3,?_⟩,fun h=>(by omega)⟩;simp;omega
 ·simp[rangeP,hk]at hr;have:=KS (a:=e.a) (by omega) (by omega);have kp':kidsP e.kind=1:=(by rw[hk];rfl);rw[OL hk,kp'];refine⟨fun h=>(by omega),fun _=>⟨2,?_⟩,fun h=>(by omega)⟩;simp;omega
 ·have kp':kidsP e.kind=1:=by rw[hk];rfl
  rw[OM hk,kp'];refine⟨fun h=>(by omega),fun _=>⟨2,?_⟩,fun h=>(by omega)⟩;simp;omega
theorem KX (k:Int):kidsP k<=2:=by unfold kidsP;split;omega;split<;>omega
theorem uV: ∀(N:Nat) (e:Ex) (deep n:Nat),SizeOf.sizeOf e<=N->(shapeP e deep n).1=0->n+1<=(shapeP e deep n).2/\ ∀least,(l7 e least).length+50*n<=50*(shapeP e deep n).2
 |0,e,_,_,hN,_=>by cases e;simp at hN
 |N+1,e,deep,n,hN,h=>by
  have hok:OKE e:=⟨deep,n,h⟩
  obtain⟨b0,b1,b2⟩:=KW hok (wn e.kids);have hl:=hok.kinds.2.2.1;have hle:=KX e.kind;have ha:=hok.alone;have hlt: ∀least,(l7 e least).length<=(ie e (wn e.kids)).length+2:=fun least=>(by rw[KQ];exact Nb _ _);rw[jB]at h⊢;split at h
  ·cases h
  rename_i hc;rw[aw hc];rw[aw (by simpa using ha)]at h⊢;match hk:e.kids,hl with
  |[],hl=>
   have:=b0 (by simp at hl;omega);rw[hk]at this;rw[pt];refine⟨by simp,fun least=> ?_⟩;have:=hlt least;rw[hk]at this;simp;omega
  |[k],hl=>
   obtain⟨l,hb⟩:=b1 (by simp at hl;omega);rw[hk]at h hb;have hkl:=gK (e:=e) (k:=k) (by simp[hk]);rw[ig,aw (by simp),pt]at h⊢;dsimp only at h⊢;obtain⟨q1,q2⟩:=uV N k (deep+1) (n+1) (by omega) h;have q3:=q2 l;have e0:wn [k] 0 l=l7 k l:=rfl;rw[e0]at hb;refine⟨by omega,fun least=> ?_⟩;have:=hlt least;rw[hk]at this;omega
  |[k,k'],hl=>
   obtain⟨l,l',hb⟩:=b2 (by simp at hl;omega);rw[hk]at h hb;have hkl:=gK (e:=e) (k:=k) (by simp[hk]);have hkl':=gK (e:=e) (k:=k') (by simp[hk]);rw[ig,aw (by simp),ig,pt]at h⊢;dsimp only at h⊢
   have hz:(shapeP k (deep+1) (n+1)).1=0:=by
    by_cases hz:(shapeP k (deep+1) (n+1)).1=0
    ·exact hz
    ·rw[ay hz]at h;exact h
   rw[aw (by simpa using hz)]at h⊢;obtain⟨q1,q2⟩:=uV N k (deep+1) (n+1) (by omega) hz;obtain⟨r1,r2⟩:=uV N k' (deep+1) _ (by omega) h;have q3:=q2 l;have r3:=r2 l';have e0:wn [k,k'] 0 l=l7 k l:=rfl;have e1:wn [k,k'] 1 l'=l7 k' l':=rfl;rw[e0,e1]at hb;refine⟨by omega,fun least=> ?_⟩;have:=hlt least;rw[hk]at this;omega
  |_::_::_::_,hl=>simp at hl;omega
theorem OKE.len {e:Ex}(h:OKE e)(least:Nat):(l7 e least).length<=30000:=by
 obtain⟨deep,n,h⟩:=h;have h1:=(uV _ e deep n (aA _) h).2 least;have h2:=tg h;omega
end Lx
theorem PZ:prog.underlying 26=some (.struct (prog.fieldsOf 26)):=by kernel_rfl
theorem Ec {w0 w1 w2:World}{v:Value}{cs:List (Cm×Value×Value)}(hO:jW w0.heap.size w1 v cs)(b1:ao w0 w1)(b2:ao w1 w2)(ds:List (Cm×Value×Value))(arr:Array Value)(ha:arr.toList=ds.flatMap fun q=>(doC q.1 q.2.1 q.2.2).toList)(hl:ds.length<=60)(hR: ∀q∈ds,Rob (fun k=>w1.heap.size<=k) (fun u=>jM u q.1 q.2.1 q.2.2) w2): ∃w3,w2.alloc (.cells arr 37)=w3/\ao w0 w3/\jW w0.heap.size w3 v cs/\lT w3 (.slice (some (ae w2.heap.size 0)) ds.length ds.length) ds/\ ∀q∈ds,Rob (fun k=>some k≠v.ownBlock) (fun u=>jM u q.1 q.2.1 q.2.2) w3:=by
 obtain⟨w3,h3,b3,n3⟩:=nb w2 arr 37;have b13:=au b2 b3
 have hR': ∀q∈ds,Rob (fun k=>some k≠v.ownBlock) (fun u=>jM u q.1 q.2.1 q.2.2) w3:=fun q hq=>((hR q hq).below b3).move (aA _) (fun _ _ _=>rfl) fun k _ hk e=>by
  have:=(hO.1.lt k e.symm).2;omega
 have hsz:arr.size=ds.length*13:=by rw[<-bP,ha,uU]
 exact⟨w3,h3,au b1 b13,hO.below b13,uT (B:=0) (by
  have:=mE (B:=0) (n:=ds.length) (m:=13) n3 (df _) hsz (by unfold maxLen;omega);rwa[ha]at this) (fun q hq=>(hR' q hq).here) (by omega),hR'⟩
theorem Dp (W:World):(Instr.buildSlice 30 0 #[]).run prog W= .ok (.slice (some (ae W.heap.size 0)) 0 0) (W.alloc (.cells #[] 37)):=by kernel_rfl
theorem Ed {w0 w4:World}{v:Value}{cs:List (Cm×Value×Value)}(hO:jW w0.heap.size w4 v cs)(hb:ao w0 w4)(hT:Tbs w0.heap.size w0)(h0:0<cs.length)(h60:cs.length<=60)(hok: ∀q∈cs,wf q.1){A:An}(hA:(eZ dk0 (cs.map fun q=>q.1)).1[cs.length-1]? =some A):Calls prog 11 #[v] w4 fun e w'=> ∃(wv:Value) (q:Option Addr) (m:Nat),e= .returned (.agg (anC A wv (.slice q A.list.length m)))/\mw w4.heap.size w' wv A.who/\ao w4 w':=by
 refine(CF _ v w4 (hO.row (by omega)) h0 h60 (fun W hW=>hT W (au hb hW)) hok).mono ?_;rintro e w' ⟨a,wv,lv,h1,rfl,h2,⟨q,m,rfl,_⟩,h4⟩;rw[aZ,hA]at h1;cases aK h1;exact⟨wv,q,m,rfl,h2,h4⟩
theorem KY {w w1:World}(h:w.alloc (.cells #[] 37)=w1):jW w.heap.size w1 (.slice (some (ae w.heap.size 0)) 0 0) []/\ao w w1:=by
 subst h;exact⟨⟨mE (n:=0) (aC _ _) (aA _) rfl (by decide),fun q hq=>by cases hq⟩,am _ _⟩
theorem KZ {B:Nat}{w w1:World}{v:Value}{cs:List (Cm×Value×Value)}(h:jW B w v cs)(hb:ao w w1): ∀q∈cs,Rob (fun k=>some k≠(Value.slice (some (ae w.heap.size 0)) 0 0).ownBlock) (fun u=>jM u q.1 q.2.1 q.2.2) w1:=fun q hq=>(h.2 q hq).move hb.size (fun k _ hl=>hb.block k hl) fun k hl _ e=>by
 have:k=w.heap.size:=aK e;omega
theorem I0 {w5 wC:World}{wv:Value}{who:List Int}(kd n x y:Int)(h:mw w5.heap.size wC wv who):Rob (fun k=>w5.heap.size<=k) (fun u=>jM u ⟨kd,n,0,0,[],[],sv0,x,y,who⟩ (af) wv) wC:=fun u _ ha=>by
 obtain⟨⟨p,c,e,hl,hc⟩,h2,h3⟩:=h;refine⟨Eb,⟨p,c,e,hl,fun j m hj=> ?_⟩,df _,df _,h2⟩;obtain⟨g,o,hp,hcc⟩:=hc j m hj;have hg:w5.heap.size<=g:=h3 g (by rw[e,hp];rfl);exact⟨g,o,hp,(dL (ha g hg (bT hcc))).trans hcc⟩
theorem I1 (wv lv:Value)(W:World):(Instr.field 28 (.agg #[ag 11,ag 0,ag 0,ag 0,wv,lv]) 0).run prog W= .ok (ag 11) W:=by kernel_rfl
end Go.Proofs.YtjkilacmkbmmbaaGreatDoor
