/- Texts of the proof. -/
import Derived.Test.YtjkilacmkbmmbaaGreatDoorPt30
set_option maxRecDepth 100000
set_option maxHeartbeats 8000000
namespace Go.Proofs.YtjkilacmkbmmbaaGreatDoor
open Go.Proofs.Tryz Go.RowKit Lx Vx Mx Msk
section
section
variable {B gD:Nat} {d d':Dk} {t t':Tr} {rv cv vv kv:Value} {ss ss':List (Sv×Value)} {aa aa':List (Ap×Value)} {w w':World}
theorem DkM.turn (h:DkM B gD d t rv cv vv kv ss aa w)(hk:Kd gD t t' w w')(hb:w'.heap[gD]? =ah #[rv,t'.ev,t'.sv,t'.av,cv,vv,ag d'.given,kv,ag d'.runs] 95)(e1:d'.rules=d.rules)(e2:d'.vers=d.vers)(e3:d'.kept=d.kept)
  (r1:w'.ownsRow B 9 1 t'.ev d'.res.length (d'.res.map kS)) (r2:w'.ownsRow B 35 4 t'.sv ss'.length (svF ss')) (r3:w'.ownsRow B 122 11 t'.av aa'.length (apF aa')) (q2:ss'.map (fun p=>p.1)=d'.svs) (q3:aa'.map (fun p=>p.1)=d'.aps)
  (p2: ∀p∈ss',p∈ss\/Rob (Fx gD t') (fun u=>fT u p.2 p.1.roles) w') (p3: ∀p∈aa',(∃a,(a,p.2)∈aa/\a.who=p.1.who)\/Rob (Fx gD t') (fun u=>d8 u p.2 p.1.who) w'):DkM B gD d' t' rv cv vv kv ss' aa' w':=by
 refine⟨hb,h.lo,by rw[e1];exact hk.rob h.rules,by rw[e1];exact hk.rob h.codes,by rw[e2];exact hk.rob h.vers,by rw[e3];exact hk.rob h.kept,r1,r2,q2,fun p hp=> ?_,r3,q3,fun p hp=> ?_,fun q hq=> ?_⟩
 ·rcases p2 p hp with hp|hp
  ·exact hk.rob (h.svr p hp)
  ·exact hp
 ·rcases p3 p hp with⟨a,hp,e⟩|hp
  ·rw[<-e];exact hk.rob (h.apr (a,p.2) hp)
  ·exact hp
 ·rw[hk.xs]at hq;have hn:=h.nx q hq;have hg:=hk.gx q hn.1 hn.2.2;exact⟨aQ hn.1 hk.size,hn.2.1,hg⟩
theorem JJ {k:Nat}{v:Value}(_:DkM B gD d t rv cv vv kv ss aa w){w1:World}{old:Value}(ho:old=t.ev\/old=t.sv\/old=t.av)(hg:w.grownBy w1 old.ownBlock)(hv:v.ownBlock=old.ownBlock\/v.ownBlock=some w.heap.size)(ht:(t'={t with ev:=v}/\old=t.ev)\/(t'={t with sv:=v}/\old=t.sv)\/(t'={t with av:=v}/\old=t.av)):Kd gD t t' w (w1.setCell ⟨gD,k,none⟩ v):=by
 have hne: ∀q,Gx gD t q->some q≠old.ownBlock:=fun q hq=>by
  rcases ho with rfl|rfl|rfl
  ·exact hq.2.1
  ·exact hq.2.2.1
  ·exact hq.2.2.2
 have hnv: ∀q,q<w.heap.size->Gx gD t q->some q≠v.ownBlock:=fun q hl hq=>by
  rcases hv with e|e
  ·rw[e];exact hne q hq
  ·rw[e];intro e;have:=aI e;omega
 refine⟨hg.os,hg.tape,hg.output,by simpa using hg.size,fun q hq hl=>((aM _ _ _ _ hq.1).trans (hg.block q hl (hne q hq))),fun q hl hq=> ?_,?_⟩
 ·rcases ht with⟨rfl,_⟩|⟨rfl,_⟩|⟨rfl,_⟩
  ·exact⟨hq.1,hnv q hl hq,hq.2.2.1,hq.2.2.2⟩
  ·exact⟨hq.1,hq.2.1,hnv q hl hq,hq.2.2.2⟩
  ·exact⟨hq.1,hq.2.1,hq.2.2.1,hnv q hl hq⟩
 ·rcases ht with⟨rfl,_⟩|⟨rfl,_⟩|⟨rfl,_⟩<;>rfl
theorem pK {b1 b2 T1 T2 s1 s2 n1 n2:Nat}{v1 v2:Value}{x1 x2:List Value}(h1:w.ownsRow b1 T1 s1 v1 n1 x1)(h2:w.ownsRow b2 T2 s2 v2 n2 x2)(hT:T1≠T2){b:Nat}(hb:v1.ownBlock=some b):v2.ownBlock≠some b:=by
 rcases h1.2 with⟨e,_⟩|⟨g,cap,cur,e,_,hg,_⟩
 ·rw[e]at hb;cases hb
 ·rw[e]at hb;have:g=b:=aI hb;subst this;exact jt h2 hg hT
theorem vo {T1 T2 s1 s2 n1 n2:Nat}{v1 v2:Value}{x1 x2:List Value}{k:Nat}{u:Value}{w1:World}(hblk: ∃c,w.heap[gD]? =ah c 95)(h1:w.ownsRow B T1 s1 v1 n1 x1)(h2:w.ownsRow B T2 s2 v2 n2 x2)(hT:T1≠T2)(hD:(95:Nat)≠T1)(hg:w.grownBy w1 v2.ownBlock):(w1.setCell ⟨gD,k,none⟩ u).ownsRow B T1 s1 v1 n1 x1:=by
 obtain⟨c,hblk⟩:=hblk;refine bv h1 fun b hb=> ?_;exact(aM _ _ _ _ (fun e=>jt h1 hblk hD (by rw[hb,e]))).trans (hg.block b (h1.lt b hb).2 (fun e=>pK h1 h2 hT hb e.symm))
theorem yF {p:List Int}{n n':Int}(hn:n<=n'): ∀(m i:Nat),k6 p n m i=0->k6 p n' m i=0
 |0,_,_=>rfl
 |m+1,i,h=>by
  unfold k6 at h⊢;split at h
  ·cases h
  ·rename_i h1;rw[aw (by omega)];split at h
   ·cases h
   ·rename_i h2;rw[aw h2];exact yF hn m (i+1) h
theorem vR {n n':Int}(hn:n<=n'): ∀(l:List (List Int)),js n l=0->js n' l=0
 |[],_=>rfl
 |p::l,h=>by
  unfold js at h⊢;by_cases h1:gQ p n=0
  ·rw[aw (by simpa using h1)]at h
   have h2:gQ p n'=0:=by
    unfold gQ at h1⊢;split at h1
    ·cases h1
    ·rename_i h3;rw[aw h3];exact yF hn _ _ h1
   rw[aw (by simpa using h2)];exact vR hn l h
  ·rw[ax h1]at h;exact absurd h h1
theorem Ek {s:Sv}{n n':Int}(hn:n<=n')(h:eW s n=0):eW s n'=0:=by
 unfold eW at h⊢;split at h
 ·cases h
 ·rename_i h1;rw[aw h1];split at h
  ·cases h
  ·rename_i h2;rw[aw h2];exact vR hn _ h
def uu (B gD:Nat)(p:An×Dk)(t:Tr)(w:World)(e:Ending)(w':World):Prop:= ∃(t':Tr) (wv lv:Value),e= .returned (.agg (anC p.1 wv lv))/\dO B gD p.2 t' w'/\Kd gD t t' w w'/\Rob (Fx gD t') (fun u=>d8 u wv p.1.who) w'/\Rob (Fx gD t') (fun u=>d8 u lv p.1.list) w'
theorem dP (P:Nat->Prop)(w:World):Rob P (fun u=>d8 u (af) []) w:=fun u _ _=>⟨none,0,rfl,by simp,fun j n hj=>by simp at hj⟩
theorem ip {q:Nat}{W:World}(hd:dO B gD d (t'.add q) W)(hk:Kd gD t t' w W)(hq:w.heap.size<=q)(c:Array Value):dO B gD d t' (W.setRow q c)/\Kd gD t t' w (W.setRow q c):=
 ⟨hd.closed (by simp) fun k _ hne=>aU _ _ _ _ hne,hk.closed hq rfl rfl rfl (by simp) fun k _ hne=>aU _ _ _ _ hne⟩
theorem Rs:(prog.info? 9).map (fun i=>(i.zero,i.size,i.bytes))=some (some (.string ⟨#[]⟩),1,16):=by kernel_rfl
theorem QQ:prog.underlying 42=some (.slice 9):=by kernel_rfl
theorem GO (x:List UInt8)(w:World)(h:dO B gD d t w)(hx:x.length<=9223372036854775807):Calls prog 48 #[ab gD 0,kS x] w (uu B gD (rO d x) t w):=by
 obtain⟨wA,hA,bA,nA⟩:=nb w #[ag 0,ag 0,ag 0,ag 0,af,af] 28;have hsA:wA.heap.size=w.heap.size+1:=by rw[<-hA];simp
 have hdA:=h.opened (aA _) hsA bA;have HDA:=aF hdA;obtain⟨hok,rv,cv,vv,kv,ss,aa,hm⟩:=hdA;obtain⟨pe,ce,hev⟩:=dl hm.res;obtain⟨n,hn⟩:=aq d.res.length
 have z1:wA.cell? (ae gD 1)=some (.slice pe n ce):=by
  have:=cr (v:=t.ev) 1 hm.blk rfl;rw[this,<-hn];exact congrArg some hev
 have hn12:n<=12:=by rw[<-hn];exact hok.rl
 have HN:=aF hn;have cR:=fun(e:Int) (W:World)=>gZ e W;have HBA:=aF bA;have HEV:RJ (t.ev= .slice pe n ce):=by show _=_;rw[<-hn];exact hev
 have HM:=aF hm;have HX:=aF hx;have HOK:=aF hok;clear h hm hev hn hx hok hsA bA;unfold kS;by_cases h12:12<=n
 ·have h12':(12:Int)<=(n:Int):=by omega
  have HP:RJ (rO d x=(noA 5,d)):=(by show _=_;unfold rO;rw[ax (by rw[HN.o];exact h12)]);go_enter func48,ntmps48;go_wp2_with fail;refine(cR 5 wA).mono ?_;rintro e w1 ⟨rfl,b1⟩;have n1:=bt b1 nA;have hb:=au HBA.o b1;have HO:=aF (ip (HDA.o.below b1) (Kd.of (t:=t) (gD:=gD) hb) (aA _) (anC (noA 5) (af) (af)));have HR:=aF (aL _ _ _ (anC (noA 5) (af) (af)) _ _ n1);clear cR z1 b1 hb nA;go_wp2_with(refine az rfl 28 _ _ rfl _ _ rfl rfl _ _ n1 (by kernel_rfl) rfl (by simp[anC,Value.oneCell']) ?_)
  refine aV (v:= .agg (anC (noA 5) (af) (af))) ?_ rfl ?_
  ·exact a8 rfl _ _ w.heap.size _ _ _ _ rfl HR.o anT rfl (by kernel_rfl)
  ·rw[HP.o];exact⟨t,_,_,rfl,HO.o.1,HO.o.2,dP _ _,dP _ _⟩
 ·have h12': ¬(12:Int)<=(n:Int):=by omega
  have cC:=yE x wA HDA.o;unfold kS at cC;obtain⟨k,hk⟩:=aq (atP5 d.rules x);rw[hk]at cC;have HK:=aF hk;clear hk;go_enter func48,ntmps48;go_wp2_with fail;refine cC.mono ?_;rintro e w1 ⟨rfl,b1⟩;have n1:=bt b1 nA;have HB1:=aF (au HBA.o b1);have HD1:=aF (HDA.o.below b1);have HM1:=aF (HM.o.below b1);have z1':=aj b1 z1;clear cC z1 b1 nA hA;by_cases hk0:k<0
  ·have HP:RJ (rO d x=(noA 7,d)):=(by show _=_;unfold rO;rw[aw (by rw[HN.o];exact h12),HK.o,ax hk0]);have cR7:=cR 7 w1;clear z1';go_wp2_with fail;refine cR7.mono ?_;rintro e w2 ⟨rfl,b2⟩;have n2:=bt b2 n1;have hb:=au HB1.o b2;have HO:=aF (ip (HD1.o.below b2) (Kd.of (t:=t) (gD:=gD) hb) (aA _) (anC (noA 7) (af) (af)));have HR:=aF (aL _ _ _ (anC (noA 7) (af) (af)) _ _ n2);clear cR cR7 b2 hb n1;go_wp2_with(refine az rfl 28 _ _ rfl _ _ rfl rfl _ _ n2 (by kernel_rfl) rfl (by simp[anC,Value.oneCell']) ?_)
   refine aV (v:= .agg (anC (noA 7) (af) (af))) ?_ rfl ?_
   ·exact a8 rfl _ _ w.heap.size _ _ _ _ rfl HR.o anT rfl (by kernel_rfl)
   ·rw[HP.o];exact⟨t,_,_,rfl,HO.o.1,HO.o.2,dP _ _,dP _ _⟩
  ·have HP:RJ (rO d x=(lH n,{d with res:=d.res++[x]})):=(by show _=_;unfold rO;rw[aw (by rw[HN.o];exact h12),HK.o,aw hk0,HN.o]);obtain⟨wB,hB,bB,nB⟩:=nb w1 #[.string ⟨x.toArray⟩] 9;have hmB:=HM1.o.below bB
   have hres:wB.ownsRow B 9 1 (.slice pe n ce) n (d.res.map kS):=by
    have:=hmB.res;rw[HN.o]at this;rw[<-HEV.o];exact this
   have hbB:B<=wB.heap.size:=(by have:=hmB.lo;have:=aG hmB.blk;omega);have HMB:=aF hmB;have HBB:=aF (au HB1.o bB);have nB1:=bt bB n1;clear cR hmB bB n1 HM1 HB1 HD1;go_wp2_with(at_builtin;refine iO rfl _ _ 42 9 rfl QQ Rs rfl (by decide) (by decide) rfl hres rfl nB rfl (by simp[Value.oneCell']) (by omega) hbB ?_)
   rintro v' w2 hown hgr hblk g4 c4 rfl;have hblkB:=HMB.o.blk;have hnx:=HMB.o.nx w.heap.size (bo ..)
   have hgr':wB.grownBy w2 (t.add w.heap.size).ev.ownBlock:=by
    show wB.grownBy w2 t.ev.ownBlock;rw[HEV.o];exact hgr
   have hkd:Kd gD (t.add w.heap.size) (({t with ev:= .slice (some (ae g4 0)) (n+1) c4}:Tr).add w.heap.size) wB (w2.setCell ⟨gD,1,none⟩ (.slice (some (ae g4 0)) (n+1) c4)):=JJ HMB.o (.inl rfl) hgr' (by show _=t.ev.ownBlock\/_;rw[HEV.o];exact hblk) (.inl ⟨rfl,rfl⟩);have blk2:=(hgr'.block gD (aG hblkB) (fun e=>jt HMB.o.res hblkB (by decide) e.symm)).trans hblkB;have blk3:=aW w2 gD 1 _ _ (.slice (some (ae g4 0)) (n+1) c4) blk2;have y1:=cr 1 blk2 rfl;have x1:=bl _ _ 1 _ _ blk2;have n3:=(hkd.blk w.heap.size hnx.2.2 (aG nB1)).trans nB1
   have hm3:DkM B gD {d with res:=d.res++[x]} (({t with ev:= .slice (some (ae g4 0)) (n+1) c4}:Tr).add w.heap.size) rv cv vv kv ss aa (w2.setCell ⟨gD,1,none⟩ (.slice (some (ae g4 0)) (n+1) c4)):=by
    refine HMB.o.turn hkd blk3 rfl rfl rfl ?_ (vo ⟨_,hblkB⟩ HMB.o.svs HMB.o.res (by decide) (by decide) hgr') (vo ⟨_,hblkB⟩ HMB.o.aps HMB.o.res (by decide) (by decide) hgr') HMB.o.sve HMB.o.ape (fun p hp=> .inl hp) (fun p hp=> .inl ⟨p.1,hp,rfl⟩);refine bv ?_ fun b hb=>aM w2 ⟨gD,1,none⟩ b _ (fun e=>jt hown blk2 (by decide) (by rw[<-show b=gD from e];exact hb));show w2.ownsRow B _ 1 (.slice (some (ae g4 0)) (n+1) c4) (d.res++[x]).length ((d.res++[x]).map kS);rw[aO,HN.o,dR];exact hown
   have hok:=HOK.o;have hl1:((d.res++[x]).length:Int)=(d.res.length:Int)+1:=(by simp)
   have hd3:dO B gD {d with res:=d.res++[x]} (({t with ev:= .slice (some (ae g4 0)) (n+1) c4}:Tr).add w.heap.size) (w2.setCell ⟨gD,1,none⟩ (.slice (some (ae g4 0)) (n+1) c4)):=⟨⟨hok.flt,hok.vl,hok.kl,by show(d.res++[x]).length<=12;rw[aO,HN.o];simp;omega,hok.sl,hok.al,hok.gv,fun y hy=>by
    rcases cY.1 hy with hy|hy
    ·exact hok.nm y hy
    ·rw[cg.1 hy];exact HX.o,fun s hs=>Ek (by show(d.res.length:Int)<=((d.res++[x]).length:Int);omega) (hok.sv s hs),fun a ha=>by
    obtain⟨q1,q2,q3,q4,q5,q6,q7⟩:=hok.ap a ha;exact⟨q1,q2,q3,q4,q5,q6,fun r hr=>⟨(q7 r hr).1,by have:=(q7 r hr).2;show r<((d.res++[x]).length:Int);omega⟩⟩⟩,_,_,_,_,_,_,hm3⟩
   have hkw:=Kd.opened HBB.o hkd;have HO:=aF (ip hd3 hkw (aA _) (anC (lH n) (af) (af)));have y3:=cr 1 blk3 rfl;generalize hw3:w2.setCell ⟨gD,1,none⟩ (.slice (some (ae g4 0)) (n+1) c4)=w3 at*;have HR:=aF (aL _ _ _ (anC (lH n) (af) (af)) _ _ n3);have hw1:IntKind.i64.wrap ((n:Int)+1-1)=(n:Int):=(by rw[bz];omega);have y3':w3.cell? (ae gD 1)=some (.slice (some (ae g4 0)) (n+1) c4):=y3;clear hm3 hd3 hkw hkd hown hgr hgr' hblk blk2 blk3 hblkB hnx nB nB1 hres hok hl1 y3 z1' hB;go_wp2_with(refine az rfl 28 _ _ rfl _ _ rfl rfl _ _ n3 (by kernel_rfl) rfl (by simp[Value.oneCell']) ?_)
   refine aV (v:= .agg (anC (lH n) (af) (af))) ?_ rfl ?_
   ·exact a8 rfl _ _ w.heap.size _ _ _ _ rfl HR.o anT rfl (by kernel_rfl)
   ·rw[HP.o];exact⟨_,_,_,rfl,HO.o.1,HO.o.2,dP _ _,dP _ _⟩
end
end
section
def uw (c:Array Value):Nat->List Value->Array Value
 |_,[]=>c
 |o,v::vs=>uw (c.setIfInBounds o v) (o+1) vs
theorem A5: ∀(vs:List Value) (c:Array Value) (o:Nat),(uw c o vs).size=c.size
 |[],_,_=>rfl
 |v::vs,c,o=>by rw[uw,A5 vs,gS]
theorem Fb: ∀(vs:List Value) (c:Array Value) (o k:Nat),o+vs.length<=c.size->(uw c o vs)[k]? =if o<=k/\k<o+vs.length then vs[k-o]? else c[k]?
 |[],c,o,k,_=>by rw[aw (by rintro⟨h1,h2⟩;rw[fF]at h2;omega)];rfl
 |v::vs,c,o,k,h=>by
  rw[bH]at h;rw[uw,Fb vs _ (o+1) k (by rw[gS];omega),bH];by_cases h1:o+1<=k/\k<o+1+vs.length
  ·rw[ax h1,ax (by omega),show k-o=(k-(o+1))+1 by omega,List.getElem?_cons_succ]
  ·rw[aw h1];by_cases h2:k=o
   ·subst h2;rw[ax (by omega),gh (by omega),iQ];rfl
   ·rw[aw (by omega),dj (by omega)]
theorem A6 {g:Nat}{T:TypeId}: ∀(vs:List Value) (o:Nat) (w:World) (c:Array Value),w.heap[g]? =ah c T->(w.setCells g o vs).heap[g]? =ah (uw c o vs) T
 |[],_,_,_,h=>h
 |v::vs,o,w,c,h=>by
  rw[World.setCells,uw];exact A6 vs (o+1) _ _ (aW w g o _ _ v h)
theorem iy (g:Nat): ∀(vs:List Value) (o:Nat) (w:World),(w.setCells g o vs).os=w.os/\(w.setCells g o vs).tape=w.tape/\(w.setCells g o vs).output=w.output/\(w.setCells g o vs).heap.size=w.heap.size
 |[],_,_=>⟨rfl,rfl,rfl,rfl⟩
 |v::vs,o,w=>by
  rw[World.setCells];obtain⟨h1,h2,h3,h4⟩:=iy g vs (o+1) (w.setCell ⟨g,o,none⟩ v);exact⟨h1,h2,h3,h4.trans (by simp)⟩
theorem oS {α:Type}{m:Nat}{f:α->Array Value}(hf: ∀p,(f p).size=m): ∀l:List α,(l.flatMap fun p=>(f p).toList).length=l.length*m
 |[]=>by simp
 |x::l=>by rw[List.flatMap_cons,aO,oS hf l,bU,hf,bH,Nat.add_mul];omega
theorem Fc {α:Type}{m base e:Nat}{f:α->Array Value}{w:World}{v:Value}{l:List α}(hm:0<m)(hf: ∀p,(f p).size=m)(h:w.ownsRow base e m v l.length (l.flatMap fun p=>(f p).toList)){j g:Nat}{p:α}(hj:j<l.length)(hg:v.ownBlock=some g):(w.setCells g (j*m) (f p).toList).ownsRow base e m v (l.set j p).length ((l.set j p).flatMap fun p=>(f p).toList):=by
 rcases h.2 with⟨e0,_⟩|⟨g',cap,cur,e0,hb,hh,hn,hc,hs,ht⟩
 ·rw[e0]at hg;cases hg
 ·rw[e0]at hg;have:g'=g:=aI hg;subst this
  have hjm:j*m+m<=l.length*m:=by
   have:(j+1)*m<=l.length*m:=Nat.mul_le_mul_right m hj;rw[Nat.add_mul,Nat.one_mul]at this;exact this
  have hcm:l.length*m<=cap*m:=Nat.mul_le_mul_right m hn;refine⟨oS hf _,.inr ⟨g',cap,uw cur (j*m) (f p).toList,by rw[ju];exact e0,hb,A6 _ _ _ _ hh,by rw[ju];exact hn,hc,by rw[A5];exact hs,?_⟩⟩;rw[ju];apply List.ext_getElem?;intro k;by_cases hk:k<l.length*m
  ·rw[dK hk,bn,Fb _ _ _ _ (by rw[bU,hf];omega),bU,hf];have hq:k=(k/m)*m+k%m:=(by rw[Nat.mul_comm];exact(Nat.div_add_mod k m).symm);have hr:k%m<m:=Nat.mod_lt _ hm;have hd:k/m<l.length:=(Nat.div_lt_iff_lt_mul hm).2 hk;by_cases hin:j*m<=k/\k<j*m+m
   ·rw[ax hin]
    have ej:k/m=j:=by
     apply Nat.div_eq_of_lt_le
     ·exact hin.1
     ·rw[Nat.succ_mul];exact hin.2
    have hset:(l.set j p)[j]? =some p:=(by rw[fh hj]);have:=oR hf hset (k-j*m) (by omega);rw[show j*m+(k-j*m)=k by omega]at this;rw[this,<-bn]
   ·rw[aw hin]
    have hne:k/m≠j:=fun ej=>by
     rw[ej]at hq;omega
    obtain⟨x,hx⟩: ∃x,l[k/m]? =some x:=⟨l[k/m],ay hd⟩
    have h1:=oR hf hx (k%m) hr;have h2:=oR hf (show(l.set j p)[k/m]? =some x by rw[fE (fun e=>hne e.symm)];exact hx) (k%m) hr;rw[<-hq]at h1 h2;rw[h2,<-h1,<-ht,dK hk,bn]
  ·rw[eU (by rw[eO];omega),eU (by rw[oS hf,ju];omega)]
section
variable {B gD:Nat} {d:Dk} {t:Tr} {w:World}
theorem DkM.setAp {rv cv vv kv:Value}{ss:List (Sv×Value)}{aa:List (Ap×Value)}(h:DkM B gD d t rv cv vv kv ss aa w){j g:Nat}(hj:j<aa.length)(hg:t.av.ownBlock=some g)(p:Ap×Value)(hp:(∃a,(a,p.2)∈aa/\a.who=p.1.who)\/Rob (Fx gD t) (fun u=>d8 u p.2 p.1.who) w):
  DkM B gD {d with aps:=d.aps.set j p.1} t rv cv vv kv ss (aa.set j p) (w.setCells g (j*11) (apC p).toList)/\Kd gD t t w (w.setCells g (j*11) (apC p).toList):=by
 have hput:=Fc (p:=p) (by decide) De h.aps hj hg;have ho: ∀q,q≠g->(w.setCells g (j*11) (apC p).toList).heap[q]? =w.heap[q]? :=fun q hq=>gF g _ _ w q hq;obtain⟨k1,k2,k3,hs⟩:=iy g (apC p).toList (j*11) w;have hk:Kd gD t t w (w.setCells g (j*11) (apC p).toList):=⟨k1,k2,k3,Nat.le_of_eq hs.symm,fun q hq _=>ho q (fun e=>hq.2.2.2 (by rw[e];exact hg.symm)),fun _ _ h=>h,rfl⟩
 generalize w.setCells g (j*11) (apC p).toList=w' at*;refine⟨h.turn hk ((ho gD (fun e=>jt h.aps h.blk (by decide) (by rw[hg,e]))).trans h.blk) rfl rfl rfl ?_ ?_ ?_ h.sve ?_ (fun p hp=> .inl hp) (fun q hq=> ?_),hk⟩
 ·exact bv h.res fun b hb=>ho b (fun e=>pK h.res h.aps (by decide) hb (by rw[hg,e]))
 ·exact bv h.svs fun b hb=>ho b (fun e=>pK h.svs h.aps (by decide) hb (by rw[hg,e]))
 ·exact hput
 ·show(aa.set j p).map (fun p=>p.1)=d.aps.set j p.1;rw[List.map_set,h.ape]
 ·rcases List.mem_or_eq_of_mem_set hq with hq|rfl
  ·exact .inl ⟨q.1,hq,rfl⟩
  ·rcases hp with hp|hp
   ·exact .inl hp
   ·exact .inr (hk.rob hp)
end
end
section
theorem El {w w':World}{g o n:Nat}(h:w.there g o n)(hb:ao w w'):w'.there g o n:=fun j hj=>by
 obtain⟨v,hv⟩:=Option.isSome_iff_exists.1 (h j hj).1;have hl:=bJ hv;exact⟨Option.isSome_iff_exists.2 ⟨v,(hb.cell hl).trans hv⟩,(hb.frozen hl).trans (h j hj).2⟩
theorem JK (k:Int)(a:Ap):(jz k a).who=a.who:=by
 unfold jz jy;split
 ·rfl
 ·split<;>rfl
def lm (d:Dk)(k:Int)(j:Nat):Dk:={d with aps:=(d.aps.take j).map (jz k)++d.aps.drop j}
theorem wQ {d:Dk}{k:Int}{j:Nat}{a:Ap}(h:d.aps[j]? =some a):(lm d k j).aps[j]? =some a:=by
 have hj:=(aD.1 h).1;unfold lm;dsimp only;rw[dL (by simp;omega)];simp[fj (Nat.le_of_lt hj),h]
theorem yG {d:Dk}{k:Int}{j:Nat}{a:Ap}(h:d.aps[j]? =some a):({lm d k j with aps:=(lm d k j).aps.set j (jz k a)}:Dk)=lm d k (j+1):=by
 obtain⟨hj,e⟩:=aD.1 h;unfold lm;dsimp only;congr 1;rw[List.set_append_right _ _ (by simp;omega),bu hj,e];simp only[bf,eO,fj (Nat.le_of_lt hj),iQ,aJ];rw[fA,h];simp
theorem Ob {d:Dk}{k:Int}{j:Nat}{a:Ap}(h:zE d)(hk:0<=k)(ha:d.aps[j]? =some a):zE {d with aps:=d.aps.set j (jz k a)}:=by
 refine⟨h.flt,h.vl,h.kl,h.rl,h.sl,by simpa using h.al,h.gv,h.nm,h.sv,fun b hb=> ?_⟩;rcases List.mem_or_eq_of_mem_set hb with hb|rfl
 ·exact h.ap b hb
 ·have:=h.ap a (aN ha);unfold jz jy;split
  ·exact this
  ·split
   ·exact⟨this.1,this.2.1,⟨fJ _,by show(0:Int)<=10;omega⟩,this.2.2.2⟩
   ·exact⟨this.1,this.2.1,⟨by dsimp only;omega,by dsimp only;have:=this.2.2.1;omega⟩,this.2.2.2⟩
def Df (wX:World)(g o:Nat)(c:Array Value)(i:Nat)(M:Nat->Bool)(_:Nat->Value)(W:World):Prop:=
 (M i=false->ao wX W)/\(M i=true-> ∃W0,ao wX W0/\Below W0.heap.size (W0.setCells g o c.toList) W)
theorem Df.on {wX:World}{g o i:Nat}{c:Array Value}(M:Nat->Bool)(φ:Nat->Value)(W W':World)(hb:ao W W')(h:Df wX g o c i M φ W):Df wX g o c i M φ W':=by
 refine⟨fun x=>(h.1 x).trans (hb.mono (h.1 x).size),fun x=> ?_⟩;obtain⟨W0,h1,h2⟩:=h.2 x;exact⟨W0,h1,h2.trans (hb.mono (by have:=h2.size;rw[(iy _ _ _ _).2.2.2]at this;exact this))⟩
theorem A7 {m base e n:Nat}{w:World}{v:Value}{xs:List Value}(h:w.ownsRow base e m v n xs){j g c:Nat}(hj:j<n)(hv:v= .slice (some (ae g 0)) n c):w.there g (j*m) m:=fun k hk=>by
 rcases h.2 with⟨_,h2⟩|⟨g',cap,cur,e0,_,hh,hn,_,hs,_⟩
 ·omega
 ·rw[hv]at e0;injection e0 with e1 _ _;injection e1 with e1;injection e1 with e1;subst e1;have h1:(j+1)*m<=cap*m:=Nat.mul_le_mul_right m (by omega);rw[Nat.add_mul,Nat.one_mul]at h1;refine⟨?_,bl _ _ _ _ _ hh⟩;rw[aX _ _ _ _ _ _ hh,gG (by omega)];rfl
theorem LQ {α:Type}{l:List α}{j:Nat}{a:α}(h:l[j]? =some a):l.set j a=l:=by
 apply List.ext_getElem?;intro i;by_cases e:j=i
 ·subst e;rw[fh (aD.1 h).1,h]
 ·rw[fE e]
section
variable {B gD:Nat} {d:Dk} {t:Tr}
theorem LR (k:Int)(w:World)(h:dO B gD d t w):Calls prog 58 #[ab gD 0,ag k] w (uu B gD (rt d k) t w):=by
 obtain⟨wA,hA,bA,nA⟩:=nb w #[ag 0,ag 0,ag 0,ag 0,af,af] 28;have hsA:wA.heap.size=w.heap.size+1:=by rw[<-hA];simp
 have hdA:=h.opened (aA _) hsA bA;have HDA:=aF hdA;have HBA:=aF bA;have H0:=aF h;obtain⟨hok,rv,cv,vv,kv,ss,aa,hm⟩:=hdA;have hla:aa.length=d.aps.length:=by rw[<-hm.ape,bf]
 obtain⟨n,hn⟩:=aq d.aps.length;obtain⟨pa,ca,hav⟩:=dl hm.aps;rw[hla,hn]at hav;have hav':t.av= .slice pa n ca:=hav
 have z3:wA.cell? (ae gD 3)=some (.slice pa n ca):=by
  have:=cr (v:=t.av) 3 hm.blk rfl;rw[this,hav']
 have hn30:n<=30:=by rw[<-hn];exact hok.al
 have HN:=aF hn;have HAV0:=aF hav';have HOK:=aF hok;have hwA:w.heap.size<wA.heap.size:=by omega
 clear h hm hla hn hav hav' hok hsA bA;by_cases hk:k<0\/1000<k
 ·have HP:RJ (rt d k=(noA 3,d)):=by show _=_;unfold rt;rw[ax hk]
  have cR:=gZ 3 wA;have hkk:k<0\/ ¬k<0/\1000<k:=(by omega);clear hk
  rcases hkk with hk1|⟨hk1,hk2⟩<;>
   (go_enter func58,ntmps58
    go_wp2_with fail
    refine cR.mono ?_
    rintro e w1 ⟨rfl,b1⟩
    have n1:=bt b1 nA
    have hb:=au HBA.o b1
    have HO:=aF (ip (HDA.o.below b1) (Kd.of (t:=t) (gD:=gD) hb) (aA _) (anC (noA 3) (af) (af)))
    have HR:=aF (aL _ _ _ (anC (noA 3) (af) (af)) _ _ n1)
    clear cR z3 b1 hb nA
    go_wp2_with(refine az rfl 28 _ _ rfl _ _ rfl rfl _ _ n1 (by kernel_rfl) rfl (by simp[anC,Value.oneCell']) ?_)
    refine aV (v:= .agg (anC (noA 3) (af) (af))) ?_ rfl ?_
    ·exact a8 rfl _ _ w.heap.size _ _ _ _ rfl HR.o anT rfl (by kernel_rfl)
    ·rw[HP.o]
     exact⟨t,_,_,rfl,HO.o.1,HO.o.2,dP _ _,dP _ _⟩)
 ·have hk1: ¬k<0:=fun e=>hk (.inl e);have hk2: ¬1000<k:=fun e=>hk (.inr e);have HKB:RJ (0<=k):=(by show(0:Int)<=k;omega)
  have HP:RJ (rt d k=(noA 0,lm d k n)):=by
   show _=_;unfold rt lm;rw[aw hk,cQ (by rw[HN.o];exact aA _),dg (by rw[HN.o];exact aA _),eV]
  clear hk;go_enter func58,ntmps58;go_wp2_with fail;clear hA z3;go_loopw [5,6,20] (fun _ _ q wr=> ∃j:Nat,q=ag (j:Int)/\j<=n/\dO B gD (lm d k j) (t.add w.heap.size) wr/\Kd gD (t.add w.heap.size) (t.add w.heap.size) wA wr) (fun _ _ q _=>n-(intOf q).toNat);case atStart=>exact⟨0,rfl,by omega,HDA.o,Kd.of (aH _ _)⟩
  case round=>
   obtain⟨j,rfl,hj,hd,hkd⟩:=hrel;have hj0:(0:Int)<=(j:Int):=(by omega);by_cases hjn:j<n
   ·have hjn':(j:Int)<(n:Int):=(by omega);obtain⟨a,ha⟩: ∃a,d.aps[j]? =some a:=⟨d.aps[j]'(by have:=HN.o;omega),ay _⟩
    have hlj:(lm d k j).aps.length=n:=(by unfold lm;simp;have:=HN.o;omega);have hav:(lm d k j).aps[j]? =some a:=wQ ha;obtain⟨a',pw,cw,ga,ca',ha',hva,_,hrg,hrob⟩:=DkM.ap hd.2 (j:=j) (by omega);rw[hav]at ha';have:a=a':=aI ha';subst this;rw[hlj]at hva;have hva':t.av= .slice (some (ae ga 0)) n ca':=hva;have e0:=HAV0.o.symm.trans hva';injection e0 with e1 e3 e2;subst e1 e2;clear e3 ha' hva;obtain⟨wZ,wB,hZ,nZ,hB,bB,nB⟩:=nbs wr apZ (apC (a,.slice pw a.who.length cw)) 122;unfold apZ at hZ nZ;obtain⟨gx,hgx⟩:=aq wr.heap.size;have hsB:wB.heap.size=gx+1:=(by rw[<-hB,<-hZ,<-hgx];simp);rw[hgx]at nZ hB;have hdB:=hd.opened (q:=gx) (by omega) hsB bB;have y0:wB.cell? (ae gx 0)=some (ag a.st):=(by rw[<-hgx];exact cr 0 nB rfl);have y1:wB.cell? (ae gx 1)=some (ag a.left):=(by rw[<-hgx];exact cr 1 nB rfl);have hap:=hd.1.ap a (aN hav);have hl0:=hap.2.2.1;have HA:=aF ha;have HLJ:=aF hlj;have HAV:=aF hva';have HGX:=aF hgx;have HBB:=aF bB;have HD:=aF hd;have HDB:=aF hdB;have HKD:=aF hkd;have HRB:=aF hrob;have HSB:=aF hsB;have hgxn:gx<wB.heap.size:=(by omega);clear hap hd hkd hrob hsB hdB bB ha hlj hva' hav;by_cases hst:a.st=1
    ·have hst':(a.st !=1)=false:=(by rw[hst];rfl);have HST:=aF hst;clear hst;have hwr:IntKind.i64.wrap (a.left-k)=a.left-k:=(by rw[bz];omega);have nB':wB.heap[gx]? =ah (apC (a,.slice pw a.who.length cw)) 122:=(by rw[<-HGX.o];exact nB);have x1:=bl _ _ 1 _ _ nB';have nC:(wB.setCell ⟨gx,1,none⟩ (ag (a.left-k))).heap[gx]? =ah (apC ({a with left:=a.left-k},.slice pw a.who.length cw)) 122:=aW wB gx 1 _ _ _ nB';have oC: ∀q,q≠gx->(wB.setCell ⟨gx,1,none⟩ (ag (a.left-k))).heap[q]? =wB.heap[q]? :=fun q hq=>aM _ _ _ _ hq;have sC:(wB.setCell ⟨gx,1,none⟩ (ag (a.left-k))).heap.size=wB.heap.size:=(by simp);have kC:(wB.setCell ⟨gx,1,none⟩ (ag (a.left-k))).os=wB.os/\(wB.setCell ⟨gx,1,none⟩ (ag (a.left-k))).tape=wB.tape/\(wB.setCell ⟨gx,1,none⟩ (ag (a.left-k))).output=wB.output:=⟨rfl,rfl,rfl⟩
     generalize hwC:wB.setCell ⟨gx,1,none⟩ (ag (a.left-k))=wC at*;have y1C:wC.cell? (ae gx 1)=some (ag (a.left-k)):=cr 1 nC rfl
     have HFIN:RJ (∀wX:World,wB.heap.size<=wX.heap.size->(∀q,q<wB.heap.size->q≠gx->wX.heap[q]? =wB.heap[q]?)->wX.os=wB.os->wX.tape=wB.tape->wX.output=wB.output->dO B gD (lm d k j) (t.add w.heap.size) wX/\Kd gD (t.add w.heap.size) (t.add w.heap.size) wA wX/\Rob (Fx gD (t.add w.heap.size)) (fun u=>d8 u (.slice pw a.who.length cw) a.who) wX):=fun wX h1 h2 h3 h4 h5=>by
      have hb:=HBB.o;refine⟨HDB.o.closed h1 h2,HKD.o.trans ((Kd.of hb).closed (q:=gx) (by rw[HGX.o];exact aA _) h3 h4 h5 h1 h2),HRB.o.move (bg hb.size h1) (fun q _ hl=> ?_) fun _ _ h=>h⟩;have:=HGX.o;exact(h2 q (aQ hl hb.size) (by omega)).trans (hb.block q hl)
     by_cases hle:a.left-k<=0
     case' pos=>
      have HT:RJ (jz k a=jy a 3):=(by show _=_;unfold jz;rw[aw (by simpa using HST.o),ax hle]);have cS:=Eh {a with left:=a.left-k} 3 pw cw wC;dsimp only at cS;have nC0:=nC;go_wp2_with(first|(refine wpList_load_mid rfl 122 _ rfl ga (j*11) rfl (apC (a,.slice pw a.who.length cw)).toList _ hrg apT rfl (by kernel_rfl) ?_;clear hrg)|(refine az rfl 122 _ _ rfl _ _ rfl rfl _ _ nZ (by kernel_rfl) rfl (kT _ _ _ _) ?_;rw[hB];clear nZ hB)|(refine aR rfl 122 _ rfl _ rfl _ _ _ _ nC apT rfl (by kernel_rfl) ?_;clear nC))
      refine cS.mono ?_;rintro e w5 ⟨rfl,b5⟩;have n5:=bt b5 nC0
      have nX:(w5.setRow gx (apC (jy {a with left:=a.left-k} 3,.slice pw a.who.length cw))).heap[gx]? =ah (apC (jz k a,.slice pw a.who.length cw)) 122:=by
       rw[HT.o];exact aL _ _ _ _ _ _ n5
      have hfin:=HFIN.o (w5.setRow gx (apC (jy {a with left:=a.left-k} 3,.slice pw a.who.length cw))) (by simp;rw[<-sC];exact b5.size) (fun q hl hq=>((aU _ _ _ _ hq).trans (b5.block q (by omega))).trans (oC q hq)) (b5.os.trans kC.1) (b5.tape.trans kC.2.1) (b5.output.trans kC.2.2);generalize hwX:w5.setRow gx (apC (jy {a with left:=a.left-k} 3,.slice pw a.who.length cw))=wX at*;clear cS nC0 b5 y1C y0 y1 nB x1 hZ
     case' neg=>
      have HT:RJ (jz k a={a with left:=a.left-k}):=(by show _=_;unfold jz;rw[aw (by simpa using HST.o),aw hle])
      have nX:wC.heap[gx]? =ah (apC (jz k a,.slice pw a.who.length cw)) 122:=by
       rw[HT.o];exact nC
      have hfin:=HFIN.o wC (by rw[sC];exact aA _) (fun q _ hq=>oC q hq) kC.1 kC.2.1 kC.2.2;obtain⟨wX,rfl⟩: ∃q,q=wC:=⟨_,rfl⟩
      clear nC
     all_goals
      obtain⟨⟨okX,rvX,cvX,vvX,kvX,ssX,aaX,hmX⟩,hkX,hpX⟩:=hfin
      have hlX:aaX.length=n:=by have:=congrArg List.length hmX.ape;rw[bf]at this;exact this.trans HLJ.o
      have zA:wX.cell? (ae gD 3)=some (.slice (some (ae ga 0)) n ca):=(cr (v:=t.av) 3 hmX.blk rfl).trans (congrArg some HAV.o)
      have HTH:RJ (wX.there ga (j*11) 11):=A7 hmX.aps (c:=ca) (by omega) (by rw[hlX];exact HAV.o)
      have HMX:=aF hmX
      have HOX:=aF okX
      have HKX:=aF hkX
      have HPX:=aF hpX
      obtain⟨cA,hcA⟩:=aq (apC (jz k a,.slice pw a.who.length cw))
      have h1c:cA.all (·.oneCell')=true:=by rw[<-hcA];exact kT _ _ _ _
      have hc11:cA.size=11:=by rw[<-hcA];rfl
      rw[hcA]at nX
      clear hmX okX hkX hpX oC sC kC HFIN nB'
      go_upto_region 10 with(first|(refine wpList_load_mid rfl 122 _ rfl ga (j*11) rfl (apC (a,.slice pw a.who.length cw)).toList _ hrg apT rfl (by kernel_rfl) ?_;clear hrg)|(refine az rfl 122 _ _ rfl _ _ rfl rfl _ _ nZ (by kernel_rfl) rfl (kT _ _ _ _) ?_;rw[hB];clear nZ hB)|(refine az rfl 122 _ _ rfl _ _ rfl rfl _ _ n5 (by kernel_rfl) rfl (kT _ _ _ _) ?_;rw[hwX];clear n5 hwX))
      refine dz (Df wX ga (j*11) cA 8) [kn 38 (ab gD 0),kn 39 (ab gD 0),kn 40 (ab gD 0),kn 41 (ab gD 3),kn 42 (.slice (some (ae ga 0)) n ca),kn 43 (ag (j:Int)),kn 44 (.agg cA),kn 45 (ab ga (j*11)),nk] (fun _=>⟨fun _=>(aH _ _).drew,(fun h=>by cases h)⟩) Df.on (by kernel_rfl) ?_ ?_
      ·rintro M φ W hJ hc F l hl hF
       have HJ:=aF hJ
       clear hc hJ
       simp only[kn,nk,dX,aT,aZ,Act.put,aC,aK,aJ]at hl
       subst hl
       simp only[dm,Nat.reduceAdd]at hF
       dsimp only[kn,nk,dJ,eZ,eh,Act.put]
       and_intros
       all_goals first|exact trivial|intro hw hn hm K hK
       all_goals try (go_simp;with_reducible exact hK _ _ ⟨rfl,aH _ _⟩)
       ·have y:=((HJ.o.1 (hn 8 _ rfl (by kernel_rfl))).cell (bJ zA)).trans zA
        go_simp
        exact hK _ _ ⟨rfl,aH _ _⟩
       ·have nW:=bt (HJ.o.1 (hn 8 _ rfl (by kernel_rfl))) nX
        show Oper.wp _ _ _ _ _ _
        refine eP 122 _ rfl _ (by simp[Act.eval,hF]) _ _ _ _ nW apT rfl (by rw[hc11];kernel_rfl) ?_
        exact hK _ _ ⟨rfl,aH _ _⟩
       ·have hb:=HJ.o.1 hm
        show Oper.wp _ _ _ _ _ _
        refine wp_store_mid 122 _ _ rfl ga (j*11) cA (by simp[Act.eval,hF]) (by simp[Act.eval,hF]) (by rw[hc11];exact El HTH.o hb) (by rw[hc11];kernel_rfl) h1c ?_
        exact hK undef _ ⟨trivial,fun c=>by simp at c,fun _=>⟨W,hb,aH _ _⟩⟩
      ·rintro M φ W hM hJ
       obtain⟨W0,hb0,h2⟩:=hJ.2 (hM 8 (by decide) rfl)
       simp only[kn,nk,ef,aT,aZ,Act.put,aC,aK,aJ]
       obtain⟨hm2,hk2⟩:=(HMX.o.below hb0).setAp (j:=j) (g:=ga) (by omega) (by show t.av.ownBlock=_;rw[HAV.o];rfl) (jz k a,.slice pw a.who.length cw) (.inr (by
        show Rob _ (fun u=>d8 u (.slice pw a.who.length cw) (jz k a).who) W0;rw[JK];exact HPX.o.below hb0))
       rw[hcA]at hm2 hk2
       have h2':=h2.mono (Nat.le_of_eq (iy ga cA.toList (j*11) W0).2.2.2)
       have HN:RJ (dO B gD (lm d k (j+1)) (t.add w.heap.size) W/\Kd gD (t.add w.heap.size) (t.add w.heap.size) wA W):=by
        refine⟨dO.below ?_ h2',((HKX.o.trans (Kd.of hb0)).trans hk2).trans (Kd.of h2')⟩;rw[<-yG HA.o];exact⟨Ob HOX.o HKB.o (by rw[wQ HA.o]),_,_,_,_,_,_,hm2⟩
       clear hM hJ hm2 hk2 hb0 h2 h2' hlX nX zA hcA h1c hc11
       go_wp2_with fail
       go_roundw
       case rel=>exact⟨j+1,by go_num,by omega,HN.o⟩
       case measure=>simp[intOf];omega
    ·have hst':(a.st !=1)=true:=(by simpa using hst)
     have HN:RJ (dO B gD (lm d k (j+1)) (t.add w.heap.size) wB/\Kd gD (t.add w.heap.size) (t.add w.heap.size) wA wB):=by
      refine⟨?_,HKD.o.trans (Kd.of HBB.o)⟩;rw[<-yG HA.o];have e:jz k a=a:=(by unfold jz;rw[ax hst]);rw[e,LQ (wQ HA.o)];exact HD.o.below HBB.o
     clear hst y1 nB;go_wp2_with(first|(refine wpList_load_mid rfl 122 _ rfl ga (j*11) rfl (apC (a,.slice pw a.who.length cw)).toList _ hrg apT rfl (by kernel_rfl) ?_;clear hrg)|(refine az rfl 122 _ _ rfl _ _ rfl rfl _ _ nZ (by kernel_rfl) rfl (kT _ _ _ _) ?_;rw[hB];clear nZ hB))
     go_roundw;case rel=>exact⟨j+1,by go_num,by omega,HN.o⟩
     case measure=>simp[intOf];omega
   ·have hjn': ¬(j:Int)<(n:Int):=(by omega);obtain rfl:n=j:=(by omega)
    have nq:wr.heap[w.heap.size]? =ah #[ag 0,ag 0,ag 0,ag 0,af,af] 28:=by
     obtain⟨_,_,_,_,_,_,_,hm⟩:=HDA.o;exact(hkd.blk w.heap.size (hm.nx w.heap.size (bo ..)).2.2 (aG nA)).trans nA
    have HO:=aF (ip hd (Kd.opened HBA.o hkd) (aA _) (anC (noA 0) (af) (af)));have HR:=aF (aL _ _ _ (anC (noA 0) (af) (af)) _ _ nq);clear hd hkd nA;go_wp2_with(refine az rfl 28 _ _ rfl _ _ rfl rfl _ _ nq (by kernel_rfl) rfl (by simp[Value.oneCell']) ?_)
    refine aV (v:= .agg (anC (noA 0) (af) (af))) ?_ rfl ?_
    ·exact a8 rfl _ _ w.heap.size _ _ _ _ rfl HR.o anT rfl (by kernel_rfl)
    ·rw[HP.o];exact⟨_,_,_,rfl,HO.o.1,HO.o.2,dP _ _,dP _ _⟩
end
end
theorem QR:(prog.info? 24).map (fun i=>(i.zero,i.size,i.bytes))=some (some (af),1,24):=by kernel_rfl
theorem svT:prog.underlying 35=some (.struct (prog.fieldsOf 35)):=by kernel_rfl
theorem zI (s:Sv)(p:Option Addr)(n c:Nat):(svC (s,.slice p n c)).all (·.oneCell')=true:=by simp[svC,Value.oneCell']
structure GP (B:Nat)(v:Value)(ls:List (List Int))(vs:List Value)(w:World):Prop where
 o:w.ownsRow B 24 1 v ls.length vs
 each: ∀(i:Nat) (l:List Int) (u:Value),ls[i]? =some l->vs[i]? =some u->w.ownsRow B 3 1 u l.length (dn l)
theorem rx {w:World}{B:Nat}{v:Value}{l:List Int}(h:w.ownsRow B 3 1 v l.length (dn l))(hl:l.length<9223372036854775808):d8 w v l:=by
 obtain⟨p,c,hv⟩:=dl h;refine⟨p,c,hv,hl,fun j x hj=> ?_⟩;obtain⟨g,c',e,_,hc⟩:=se h (by have:=(aD.1 hj).1;omega);rw[hv]at e;injection e with e1 _ _;refine⟨g,0,e1,?_⟩;rw[bG];exact hc j _ (by unfold dn;rw[bc,hj];rfl)
theorem GP.rob {B:Nat}{v:Value}{ls:List (List Int)}{vs:List Value}{w:World}(h:GP B v ls vs w)(hl:ls.length<9223372036854775808)(hp: ∀l∈ls,l.length<9223372036854775808):Rob (fun q=>B<=q) (fun u=>fT u v ls) w:=fun u _ ha=>by
 have hk: ∀{e n:Nat} {x:Value} {xs:List Value},w.ownsRow B e 1 x n xs->u.ownsRow B e 1 x n xs:=fun h=>bv h fun b hb=>ha b (h.lt b hb).1 (h.lt b hb).2;have h1:=hk h.o;have hlv:vs.length=ls.length:=by have:=h1.1;omega
 obtain⟨p,c,hv⟩:=dl h1;refine⟨p,c,hv,hl,fun j l hj=> ?_⟩;have hjl:=(aD.1 hj).1;obtain⟨x,hx⟩: ∃x,vs[j]? =some x:=⟨vs[j]'(by omega),ay _⟩
 obtain⟨g,c',e,_,hc⟩:=se h1 (by omega);rw[hv]at e;injection e with e1 _ _;exact⟨g,0,x,e1,by rw[bG];exact hc j x hx,rx (hk (h.each j l x hj hx)) (hp l (aN hj))⟩
theorem GQ (s:Sv)(p:Option Addr)(c:Nat)(w:World)(h:fT w (.slice p s.roles.length c) s.roles)(hl:s.roles.length<=1000)(hp: ∀l∈s.roles,l.length<=1000):Calls prog 92 #[.agg (svC (s,.slice p s.roles.length c))] w fun e w'=> ∃p' c',e= .returned (.agg (svC (s,.slice p' s.roles.length c')))/\Rob (fun q=>w.heap.size<=q) (fun u=>fT u (.slice p' s.roles.length c') s.roles) w'/\ao w w':=by
 obtain⟨wA,hA,bA,nA⟩:=nb w (svC (s,.slice p s.roles.length c)) 35;obtain⟨wB,hB,bB,nB⟩:=nb wA #[ag 0,ag 0,ag 0,af] 35;have nA':=bt bB nA;have hb:=au bA bB;have hr:=h.below hb;obtain⟨n,hn⟩:=aq s.roles.length;have z3:wB.cell? (ae w.heap.size 3)=some (.slice p n c):=by rw[<-hn];exact cr 3 nA' rfl
 have HN:=aF hn;have HR:=aF hr;have HB:=aF hb;have HP:=aF hp;have hwB:w.heap.size<=wB.heap.size:=hb.size;rw[hn]at hl;have hn1:(n:Int)<=1000:=by omega
 clear h hn hr hp nA bA bB hb;go_enter func92,ntmps92;go_wp2_with fail;go_loopw [3,5,9] (fun v _ q wr=> ∃(j:Nat) (vs:List Value),q=ag (j:Int)/\j<=n/\ao wB wr/\GP wB.heap.size v (s.roles.take j) vs wr) (fun _ _ q _=>n-(intOf q).toNat);case atStart=>exact⟨0,[],rfl,by omega,aH _ _,da _ _ _ _,fun i l u hi=>by simp at hi⟩
 case round=>
  obtain⟨j,vs,rfl,hj,hbr,hro⟩:=hrel;have hj0:(0:Int)<=(j:Int):=(by omega);by_cases hjn:j<n
  ·have hjn':(j:Int)<(n:Int):=(by omega);obtain⟨l,hlj⟩: ∃l,s.roles[j]? =some l:=⟨s.roles[j]'(by have:=HN.o;omega),ay _⟩
   obtain⟨p0,c0,e0,hq1,hce⟩:=HR.o;injection e0 with e1 e3 e2;subst e1 e2;obtain⟨g,o,sv,e4,hc,hrow⟩:=hce j l hlj;subst e4;clear e3 hq1 hce;have hc':=aj hbr hc;have cC:=GN l sv wr (hrow.below hbr) (HP.o l (aN hlj));obtain⟨ps,cs,hsv,hq1,hq2⟩:=hrow;subst hsv;have HL:=aF hlj;have HRO:=aF hro;have HBR:=aF hbr;clear hq1 hq2 hlj hc hro hbr;go_wp2_with fail;refine cC.mono ?_;rintro e w1 ⟨v1,rfl,ho1,b1⟩;obtain⟨p1,c1,hv1⟩:=dl ho1;subst hv1;obtain⟨wC,hC,bC,nC⟩:=nb w1 #[.slice p1 l.length c1] 24;have hbC:=au b1 bC;have hoC:=bv HRO.o.o fun b hq=>hbC.block b (HRO.o.o.lt b hq).2;have hbw:=au HBR.o hbC;have hlt:(s.roles.take j).length=j:=(by rw[eO,HN.o];omega);rw[hlt]at hoC;have HO1:=aF (bv ho1 fun b hq=>bC.block b (ho1.lt b hq).2);have HBC:=aF hbC;clear cC ho1 b1 bC hc' hbC;go_wp2_with(at_builtin;refine iO rfl _ _ 33 24 rfl Jd QR rfl (by decide) (by decide) rfl hoC rfl nC rfl (by simp[Value.oneCell']) (by omega) hbw.size ?_)
   rintro v2 w2 ho2 hgr _ g2 c2 rfl;have hb2:=hbw.grown hgr hbw.size (fun k hk=>(hoC.lt k hk).1)
   have HRO2:RJ (GP wB.heap.size (.slice (some (ae g2 0)) (j+1) c2) (s.roles.take (j+1)) (vs++[.slice p1 l.length c1]) w2):=by
    have hkp: ∀{x:Value} {m:Nat} {xs:List Value} {B':Nat},wC.ownsRow B' 3 1 x m xs->w2.ownsRow B' 3 1 x m xs:=fun hx=>bv hx fun b hb=>hgr.block b (hx.lt b hb).2 (fun e=>pK hx hoC (by decide) hb e.symm);have hvl:vs.length=j:=(by have:=hoC.1;omega);refine⟨?_,fun i l' u hi hu=> ?_⟩
    ·rw[eO,HN.o,fj (by omega)];exact ho2
    ·by_cases e:i=j
     ·subst e;rw[dK (by omega),HL.o]at hi;have:l=l':=aI hi;subst this;rw[dL (by omega),hvl,iQ]at hu;have:Value.slice p1 l.length c1=u:=aI hu;subst this;refine hkp ⟨HO1.o.1,?_⟩;rcases HO1.o.2 with q|⟨gq,cq,cu,q1,q2,q3⟩
      ·exact .inl q
      ·exact .inr ⟨gq,cq,cu,q1,bg HBR.o.size q2,q3⟩
     ·have hij:i<j:=by
       have:=(aD.1 hi).1;rw[eO]at this;omega
      rw[dK (by omega)]at hi;rw[d9 (by omega)]at hu;have hx:=HRO.o.each i l' u (by rw[dK hij];exact hi) hu;exact hkp (bv hx fun b hb=>HBC.o.block b (hx.lt b hb).2)
   clear hoC ho2 hgr hbw nC hC HO1 HBC;go_wp2_with fail;go_roundw;case rel=>exact⟨j+1,_,by go_num,by omega,hb2,HRO2.o⟩
   case measure=>simp[intOf];omega
  ·have hjn': ¬(j:Int)<(n:Int):=(by omega);obtain rfl:n=j:=(by omega);have htk:s.roles.take n=s.roles:=cQ (by rw[HN.o];exact aA _);rw[htk]at hro;have ho:=hro.o;rw[HN.o]at ho;obtain⟨pv,cv,hv⟩:=dl ho;subst hv;have nAr:=bt hbr nA';have nBr:=bt hbr nB
   have hwlt:w.heap.size<wA.heap.size:=by
    have:=hA▸(aG (aB w (.cells (svC (s,.slice p s.roles.length c)) 35)));omega
   have hwAB:w.heap.size≠wA.heap.size:=(by omega);have x3:=bl _ _ 3 _ _ nAr;have y3:wr.cell? (ae w.heap.size 3)=some (.slice p n c):=aj hbr z3;have nC:(wr.setCell ⟨w.heap.size,3,none⟩ (.slice pv n cv)).heap[w.heap.size]? =ah (svC (s,.slice pv n cv)) 35:=aW wr w.heap.size 3 _ _ _ nAr;have nD:=(aM wr ⟨w.heap.size,3,none⟩ wA.heap.size (.slice pv n cv) (fun e=>hwAB e.symm)).trans nBr;have hb2:=(au HB.o hbr).setCell (p:=⟨w.heap.size,3,none⟩) (aA _) (.slice pv n cv);have hrob:=hro.rob (by rw[HN.o];omega) (fun l hl'=>by have:=HP.o l hl';omega);have hor: ∀q,q≠w.heap.size->(wr.setCell ⟨w.heap.size,3,none⟩ (.slice pv n cv)).heap[q]? =wr.heap[q]? :=fun q hq=>aM _ _ _ _ hq;have hsz:(wr.setCell ⟨w.heap.size,3,none⟩ (.slice pv n cv)).heap.size=wr.heap.size:=(by simp);generalize hwC:wr.setCell ⟨w.heap.size,3,none⟩ (.slice pv n cv)=wC at*;have hwl:=aG nB
   have HO:RJ (Rob (fun q=>w.heap.size<=q) (fun u=>fT u (.slice pv n cv) s.roles) (wC.setRow wA.heap.size (svC (s,.slice pv n cv)))/\ao w (wC.setRow wA.heap.size (svC (s,.slice pv n cv)))):=by
    refine⟨hrob.move (by simp;rw[hsz];exact aA _) (fun q hq _=> ?_) (fun q _ hq=>bg hwB hq),below_setRow hb2 (by have:=aG nAr;have:=hA▸(am w (.cells (svC (s,.slice p s.roles.length c)) 35)).size;exact this) _⟩;exact(aU _ _ _ _ (by omega)).trans (hor q (by omega))
   have HRR:=aF (aL _ _ _ (svC (s,.slice pv n cv)) _ _ nD);clear hro ho hrob hor hsz hb2 nAr nBr nA' hwAB htk z3;go_wp2_with(first|(refine aR rfl 35 _ rfl _ rfl _ _ _ _ nC svT rfl (by kernel_rfl) ?_)|(refine az rfl 35 _ _ rfl _ _ rfl rfl _ _ nD (by kernel_rfl) rfl (zI _ _ _ _) ?_))
   refine aV (v:= .agg (svC (s,.slice pv n cv))) ?_ rfl ⟨pv,cv,by rw[HN.o],by rw[HN.o];exact HO.o.1,HO.o.2⟩;exact a8 rfl _ _ wA.heap.size _ _ _ _ rfl HRR.o svT rfl (by kernel_rfl)
section
theorem Oc {l:List Ru}{r x:Int}(h:x∈gd l r): ∃k:Nat,x=(k:Int)/\k<l.length:=by
 unfold gd at h;split at h
 ·cases h
 ·obtain⟨k,hk,rfl⟩:=dM.1 h;exact⟨k,rfl,jd.1 (List.mem_filter.1 hk).1⟩
theorem A8 (f:Int->Bool): ∀l:List Int,(j4 (fun x (s:Unit)=>(f x,s)) l ()).1=l.any f
 |[]=>rfl
 |x::l=>by
  unfold j4;rw[List.any_cons];cases h:f x with
  |true=>simp
  |false=>simpa using A8 f l
def ux (d:Dk)(l:List Ru)(i:Nat):Int:=if jD d.rules l (i:Int)=true\/(gd l (i:Int)).any (jD d.rules l)=true then d.given else d.vers.getD i 0
def og (d:Dk)(l:List Ru):List Int:=(List.range l.length).map (ux d l)
theorem uy (d:Dk){l:List Ru}{j:Nat}(hj:j<l.length):(og d l).take (j+1)=(og d l).take j++[ux d l j]:=by
 unfold og;rw[fA,bc,List.getElem?_range hj];rfl
section
variable {B gD:Nat} {d:Dk} {t:Tr}
theorem LS {v2:Value}{us:List (Ru×Value)}(w:World)(h:dO B gD d t w)(hu:InR w v2 us)(hl:us.length<=1000):Calls prog 88 #[ab gD 0,v2] w fun e w'=> ∃v',e= .returned v'/\w'.ownsRow w.heap.size 3 1 v' us.length (dn (og d (us.map (fun p=>p.1))))/\ao w w':=by
 obtain⟨pn,cn,rfl⟩:=hu.form;obtain⟨wA,hA,bA,nA⟩:=nb w #[ab gD 0] 115;obtain⟨wB,hwB,bB,nB⟩:=nb wA #[.slice pn us.length cn] 45;have hbw:=au bA bB;have nA':=bt bB nA;obtain⟨ll,hll⟩:=aq (us.map (fun p=>p.1));have hlu:ll.length=us.length:=by rw[<-hll,bf]
 have HD:=aF (h.below hbw);have HU:=aF (hu.below hbw);obtain⟨n,hn⟩:=aq us.length;have HL:=aF (hlu.trans hn);rw[hn]at hwB nB hl hlu;rw[hll,hn];have HX:=aF hll;have HN:=aF hn;have HB:=aF hbw;have hn1:(n:Int)<=1000:=by omega
 have z1:=cr 0 nA' rfl;have z2:=cr 0 nB rfl;obtain⟨hok,rv,cv,vv,kv,ss,aa,hm⟩:=HD.o;have z6:=cr 6 hm.blk rfl;have z5:=cr 5 hm.blk rfl;obtain⟨pv,cvv,rfl,hvl,hvc⟩:=hm.vers.here;obtain⟨nv,hnv⟩:=aq d.vers.length;rw[hnv]at z5;have HV:=aF hvc;have HNV:=aF (hnv.symm.trans hok.vl);have HNE:=aF hnv;have eF: ∀args w,(callFunc 124 args).run prog w= .ok (.enter 124 args) w:=fun _ _=>rfl;clear h hu hll hlu hn bA bB hbw nA hm hok hvc hvl hnv;go_enter func88,ntmps88;go_wp2_with fail;go_loopw [6,7,8,12] (fun v _ _ q wr=> ∃j:Nat,q=ag (j:Int)/\j<=n/\ao wB wr/\wr.ownsRow wB.heap.size 3 1 v j (dn ((og d ll).take j))) (fun _ _ _ q _=>n-(intOf q).toNat);case atStart=>exact⟨0,rfl,by omega,aH _ _,da _ _ _ _⟩
 case round=>
  obtain⟨j,rfl,hj,hbr,hro⟩:=hrel;have hj0:(0:Int)<=(j:Int):=(by omega);by_cases hlt:j<n
  ·have hlt':(j:Int)<(n:Int):=(by omega);have y1:=cr 0 (bt hbr nA') rfl;have y2:=cr 0 (bt hbr nB) rfl;have y6:=aj hbr z6;have y5:=aj hbr z5
   have cN: ∀(k:Nat) (W:World),k<n->ao wB W->Calls prog 124 #[ag (k:Int),ab w.heap.size 0,ab wA.heap.size 0] W fun e w'=>e= .returned (.bool (jD d.rules ll (k:Int)))/\ao W w':=fun k W hk hW=>by
    rw[<-HX.o];have hU:=HU.o.below hW;exact JH W (HD.o.below hW) hU (by rw[HN.o];exact hk) (bt hW nA') (by rw[HN.o];exact bt hW nB)
   have c1:=cN j wr hlt hbr;have HCN:=aF cN;obtain⟨b1,hb1⟩:=aq (jD d.rules ll (j:Int));rw[hb1]at c1;have HB1:=aF hb1;have HBR:=aF hbr;have HRO:=aF hro;clear cN hb1 hbr hro;go_wp2_with fail;refine c1.mono ?_;rintro e w1 ⟨rfl,hb1⟩;have hbw1:=au HBR.o hb1;cases b1 with
   |true=>
    have HS:=aF hb1;clear c1 hb1 HCN
    have HV1:RJ (ux d ll j=d.given):=by
     show _=_;unfold ux;rw[ax (.inl HB1.o)]
    obtain⟨wC,hC,bC,nC⟩:=nb w1 #[ag d.given] 3;have hbC:=au hbw1 bC;have hoC:=bv HRO.o fun b hq=>(show wC.heap[b]? =wr.heap[b]? from(bC.block b (aQ (HRO.o.lt b hq).2 HS.o.size)).trans (HS.o.block b (HRO.o.lt b hq).2))
    clear bC HS y5;go_wp2_with(at_builtin;refine iO rfl _ _ 24 3 rfl sR oJ rfl (by decide) (by decide) rfl hoC rfl nC rfl (by simp[Value.oneCell']) (by omega) hbC.size ?_)
    rintro v2 w2 ho2 hgr _ g2 c2 rfl;have hb2:=hbC.grown hgr hbC.size (fun k hk=>(hoC.lt k hk).1)
    have HO:RJ (w2.ownsRow wB.heap.size 3 1 (.slice (some (ae g2 0)) (j+1) c2) (j+1) (dn ((og d ll).take (j+1)))):=by
     show World.ownsRow _ _ _ _ _ _ _;rw[uy d (by rw[HL.o];exact hlt),HV1.o,ld];exact ho2
    clear hoC ho2 hgr hbC nC hC;go_wp2_with fail;go_roundw;case rel=>exact⟨j+1,by go_num,by omega,hb2,HO.o⟩
    case measure=>simp[intOf];omega
   |false=>
    have y2':=aj hb1 y2;have y6':=aj hb1 y6;have y5':=aj hb1 y5;have cU:=K6 us (.slice pn n cn) (j:Int) w1 (by have:=HU.o.below hbw1;rw[HN.o]at this;exact this);rw[HX.o]at cU;have HS1:=aF hb1;clear c1 hb1 y1 y2 y5 y6;go_wp2_with fail;refine cU.mono ?_;rintro e w3 ⟨v3,rfl,hr3,hb3⟩;have hbw3:=au hbw1 hb3;have HS3:=aF (au HS1.o hb3)
    have cC:=tA (fun x (s:Unit)=>(jD d.rules ll x,s)) (fun _ W=>ao w3 W) 124 #[ab w.heap.size 0,ab wA.heap.size 0] (gd ll (j:Int)) v3 () w3 eF (aH _ _) (fun _ W hW=>hr3.below hW) (fun x hx _ W hW=>by
     obtain⟨k,rfl,hk⟩:=Oc hx;rw[HL.o]at hk;exact(HCN.o k W hk (au hbw3 hW)).mono fun e w' hh=>⟨hh.1,au hW hh.2⟩)
    rw[A8]at cC;obtain⟨p3,c3,rfl,hq1,hq2⟩:=hr3;obtain⟨b2,hb2⟩:=aq ((gd ll (j:Int)).any (jD d.rules ll));rw[hb2]at cC;have HB2:=aF hb2;have x5:=(hb3.cell (bJ y5')).trans y5';have x1:=cr 0 (bt hbw3 nA') rfl;clear cU hq1 hq2 hb2 hb3 y2' y6' y5' HS1 HCN;go_wp2_with fail;refine cC.mono ?_;rintro e w4 ⟨rfl,hb4⟩;have hbw4:=au hbw3 hb4;have HS:=aF (au HS3.o hb4);have u5:=aj hb4 x5;have u1:=aj hb4 x1;clear cC hb4 HS3 x5 x1;cases b2 with
    |true=>
     have HV1:RJ (ux d ll j=d.given):=by
      show _=_;unfold ux;rw[ax (.inr HB2.o)]
     obtain⟨wC,hC,bC,nC⟩:=nb w4 #[ag d.given] 3;have hbC:=au hbw4 bC;have hoC:=bv HRO.o fun b hq=>(show wC.heap[b]? =wr.heap[b]? from(bC.block b (aQ (HRO.o.lt b hq).2 HS.o.size)).trans (HS.o.block b (HRO.o.lt b hq).2))
     clear bC HS u5 u1;go_wp2_with(at_builtin;refine iO rfl _ _ 24 3 rfl sR oJ rfl (by decide) (by decide) rfl hoC rfl nC rfl (by simp[Value.oneCell']) (by omega) hbC.size ?_)
     rintro v2 w2 ho2 hgr _ g2 c2 rfl;have hb2:=hbC.grown hgr hbC.size (fun k hk=>(hoC.lt k hk).1)
     have HO:RJ (w2.ownsRow wB.heap.size 3 1 (.slice (some (ae g2 0)) (j+1) c2) (j+1) (dn ((og d ll).take (j+1)))):=by
      show World.ownsRow _ _ _ _ _ _ _;rw[uy d (by rw[HL.o];exact hlt),HV1.o,ld];exact ho2
     clear hoC ho2 hgr hbC nC hC;go_wp2_with fail;go_roundw;case rel=>exact⟨j+1,by go_num,by omega,hb2,HO.o⟩
     case measure=>simp[intOf];omega
    |false=>
     have hjv:j<nv:=by
      apply jI;intro hc;have h1:=HB1.o;have h2:d.rules[j]? =none:=eU (by have:=HNV.o;omega);unfold jD at h1;rw[cj,h2]at h1;cases h1
     have hjv':(j:Int)<(nv:Int):=(by omega);obtain⟨x,hx⟩: ∃x,d.vers[j]? =some x:=⟨d.vers[j]'(by have:=HNE.o;omega),ay _⟩
     obtain⟨gv,ov,hpe,hcv⟩:=HV.o j x hx;subst hpe;have uv:=aj hbw4 hcv;have HXV:=aF hx;clear hcv hx hjv
     have HV1:RJ (ux d ll j=x):=by
      show _=_;unfold ux;rw[aw (by rw[HB1.o,HB2.o];simp)];simp[List.getD,HXV.o]
     obtain⟨wC,hC,bC,nC⟩:=nb w4 #[ag x] 3;have hbC:=au hbw4 bC;have hoC:=bv HRO.o fun b hq=>(show wC.heap[b]? =wr.heap[b]? from(bC.block b (aQ (HRO.o.lt b hq).2 HS.o.size)).trans (HS.o.block b (HRO.o.lt b hq).2))
     clear bC HS;go_wp2_with(at_builtin;refine iO rfl _ _ 24 3 rfl sR oJ rfl (by decide) (by decide) rfl hoC rfl nC rfl (by simp[Value.oneCell']) (by omega) hbC.size ?_)
     rintro v2 w2 ho2 hgr _ g2 c2 rfl;have hb2:=hbC.grown hgr hbC.size (fun k hk=>(hoC.lt k hk).1)
     have HO:RJ (w2.ownsRow wB.heap.size 3 1 (.slice (some (ae g2 0)) (j+1) c2) (j+1) (dn ((og d ll).take (j+1)))):=by
      show World.ownsRow _ _ _ _ _ _ _;rw[uy d (by rw[HL.o];exact hlt),HV1.o,ld];exact ho2
     clear hoC ho2 hgr hbC nC hC;go_wp2_with fail;go_roundw;case rel=>exact⟨j+1,by go_num,by omega,hb2,HO.o⟩
     case measure=>simp[intOf];omega
  ·have hlt': ¬(j:Int)<(n:Int):=(by omega);obtain rfl:n=j:=(by omega);have hbF:=au HB.o hbr
   have hro2:wr.ownsRow w.heap.size 3 1 u6 n (dn (og d ll)):=by
    rw[cQ (by unfold og;rw[bf,List.length_range,HL.o];exact aA _)]at hro;exact⟨hro.1,hro.2.imp id fun⟨g,c,cu,q1,q2,q3⟩=>⟨g,c,cu,q1,bg HB.o.size q2,q3⟩⟩
   have HR:=aF hro2;clear hro hro2;go_wp2_with fail;go_ret;exact⟨_,rfl,HR.o,hbF⟩
end
end
def NmK:Nat->List Ex->Prop
 |0,_=>True
 |d+1,ks=> ∀(j:Nat) (k:Ex),ks[j]? =some k->k.name.length<=9223372036854775807/\NmK d k.kids
theorem Fd: ∀d,NmK d []
 |0=>trivial
 |d+1=>fun j k h=>by simp at h
theorem Dg {k:Ex}{ks:List Ex}(h1:k.name.length<=9223372036854775807)(h2: ∀d,NmK d k.kids)(h3: ∀d,NmK d ks): ∀d,NmK d (k::ks)
 |0=>trivial
 |d+1=>fun j q h=>by
  cases j with
  |zero=>
   simp at h;subst h;exact⟨h1,h2 d⟩
  |succ j=>exact h3 (d+1) j q (by simpa using h)
theorem vS {B:Nat->Prop}: ∀{d:Nat} {w:World} {sl:Value} {ks:List Ex},dq B d w sl ks->NmK d ks->fX (fun k=>k<w.heap.size) d w sl ks
 |0,_,_,_,h,_=>h
 |d+1,w,sl,ks,h,hn=>by
  rcases h with h|⟨g,o,c,hB,hs,hl,hk⟩
  ·exact .inl h
  ·by_cases h0:ks=[]
   ·subst h0;exact .inl ⟨rfl,_,c,hs⟩
   ·obtain⟨k0,hk0⟩: ∃k,ks[0]? =some k:=by
     cases ks with
     |nil=>exact absurd rfl h0
     |cons x l=>exact⟨x,rfl⟩
    obtain⟨_,q0,_⟩:=hk 0 k0 hk0;refine .inr ⟨g,o,c,bJ q0,hs,hl,fun j k hj=> ?_⟩;obtain⟨sk,c0,c1,c2,c3,c4,r⟩:=hk j k hj;obtain⟨n1,n2⟩:=hn j k hj;exact⟨n1,sk,c0,c1,c2,c3,c4,vS r n2⟩
def NmR (L:List Ru):Prop:= ∀p∈L,p.1.length<=9223372036854775807/\p.2.name.length<=9223372036854775807/\ ∀d,NmK d p.2.kids
theorem Em {w0 w:World}{v:Value}{us:List (Ru×Value)}(h:mG w0 w v us)(hl:us.length<=40)(hn:NmR (us.map (fun p=>p.1))):InR w v us:=by
 refine⟨tN h.own (by omega),by omega,fun p hp=> ?_⟩;obtain⟨d,hd⟩:=h.kids p hp;obtain⟨n1,n2,n3⟩:=hn p.1 (dM.2 ⟨p,hp,rfl⟩);exact⟨n1,n2,d,vS hd (n3 d)⟩
end Go.Proofs.YtjkilacmkbmmbaaGreatDoor
