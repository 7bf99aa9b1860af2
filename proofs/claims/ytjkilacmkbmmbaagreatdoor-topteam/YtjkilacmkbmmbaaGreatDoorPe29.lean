/- Texts of the proof. -/
import Derived.Test.YtjkilacmkbmmbaaGreatDoorPe28
set_option maxRecDepth 100000
set_option maxHeartbeats 8000000
namespace Go.Proofs.YtjkilacmkbmmbaaGreatDoor
open Go.Proofs.Tryz Go.RowKit Lx Vx Mx Msk
section
theorem MS (n c:Nat)(w:World):(binOp .eql 24 (.slice none n c) (af)).run prog w= .ok (.bool true) w:=by rfl
theorem Ok (q:Addr)(n c:Nat)(w:World):(binOp .eql 24 (.slice (some q) n c) (af)).run prog w= .ok (.bool false) w:=by rfl
attribute [local go_sem] MS Ok
theorem xU (ns:List Int)(v:Value)(w:World)(h:dQ w v ns)(hl:ns.length<=1000):Calls prog 102 #[v] w fun e w'=> ∃v',e= .returned v'/\w'.ownsRow w.heap.size 3 1 v' ns.length (c8 ns)/\ao w w':=by
 have HK:=aD h;obtain⟨p,c,rfl,hq,hc⟩:=h;clear hq;cases p with
 |none=>
  have hn:ns=[]:=by
   cases ns with
   |nil=>rfl
   |cons x l=>
    obtain⟨g,o,e,_⟩:=hc 0 x rfl;cases e
  subst hn;clear hc HK;go_enter func102,ntmps102;go_wp2_with fail;go_ret;exact⟨_,rfl,bV _ _ _ _,aG _ _⟩
 |some q=>
  clear hc;obtain⟨wA,hA,bA,nA⟩:=nb w #[] 3;have ho:=Iq wA nA w.heap.size (aA _);have hr:=HK.o.below bA;clear HK;go_enter func102,ntmps102;go_wp2_with(first|(refine sT rfl rfl ?_;rw[hA])|(at_builtin;refine oV rfl _ _ rfl w.heap.size [] ns _ _ rfl ho rfl hr (by simp;omega) bA.size ?_))
  intro v' w' h1 h2;have hb:=bA.grown h2 bA.size (fun k hk=>(ho.lt k hk).1);obtain⟨p',c',hv⟩:=bU h1;subst hv;clear hr ho nA;go_wp2_with fail;go_ret;exact⟨_,rfl,h1,hb⟩
theorem Ir {w:World}{p:Option Addr}{n c:Nat}{ns:List Int}(h:dQ w (.slice p n c) ns){j:Nat}(hj:j<=ns.length):dQ w (.slice p j c) (ns.take j):=by
 obtain⟨p',c',e,hl,hc⟩:=h;injection e with e1 e3 e2;subst e1 e2;have hlen:(ns.take j).length=j:=by rw[d8];omega
 refine⟨p,c,by rw[hlen],by omega,fun k x hk=>hc k x ?_⟩;have hlt:=(aE.1 hk).1;rw[hlen]at hlt;rw[dA hlt]at hk;exact hk
theorem Is {who:List Int}{roles:List (List Int)}{n j:Nat}{x:Int}{l:List Int}(hj:j<n)(hx:who[j]? =some x)(hl:roles[j]? =some l):rt who roles (n-j) j=if decide (x∈l)=false then 6 else if decide (x∈who.take j)=true then 7 else rt who roles (n-(j+1)) (j+1):=by
 rw[show n-j=(n-(j+1))+1 by omega];simp only[rt,List.getD,hx,hl,Option.getD_some];by_cases h1:x∈l<;>simp[h1]
theorem Cb (who:List Int)(roles:List (List Int))(p:Option Addr)(c:Nat)(rv:Value)(w:World)(h:dQ w (.slice p who.length c) who)(hcap:who.length<=c)(hr:fo w rv roles):Calls prog 96 #[.slice p who.length c,rv] w fun e w'=>e= .returned (ag (jV who roles))/\ao w w':=by
 have HW:=aD h;have HR:=aD hr;obtain⟨p0,c0,e0,hl,hc⟩:=h;injection e0 with e1 e3 e2;subst e1 e2;clear e3;obtain⟨q,cq,rfl,hlr,hcr⟩:=hr;obtain⟨n,hn⟩:=aq who.length;obtain⟨m,hm⟩:=aq roles.length;have HN:=aD hn;have HM:=aD hm;have HC:=aD hc;have HCR:=aD hcr;rw[hn]at HW hl hcap⊢;rw[hm]at HR hlr⊢;have hn1:(n:Int)<9223372036854775808:=by omega
 have hm1:(m:Int)<9223372036854775808:=by omega
 by_cases hnm:n=m
 ·have HE:P3 (jV who roles=rt who roles n 0):=by
   show _=_;unfold jV;rw[hn,hm,aw (by simpa using hnm)]
  subst hnm;clear hc hcr hn hm;go_enter func96,ntmps96;go_wp2_with fail;go_loopw [5,6,14] (fun _ _ t wr=> ∃j:Nat,t=ag (j:Int)/\j<=n/\ao w wr/\jV who roles=rt who roles (n-j) j) (fun _ _ t _=>n-(intOf t).toNat);case atStart=>exact⟨0,rfl,by omega,aG _ _,HE.o⟩
  case round=>
   obtain⟨j,rfl,hj,hb,hX⟩:=hrel;have hj0:(0:Int)<=(j:Int):=(by omega);by_cases hjn:j<n
   ·have hjn':(j:Int)<(n:Int):=(by omega);have hjc:j<=n:=hj;obtain⟨x,hx⟩: ∃x,who[j]? =some x:=⟨who[j]'(by have:=HN.o;omega),ax _⟩
    obtain⟨l,hl0⟩: ∃l,roles[j]? =some l:=⟨roles[j]'(by have:=HM.o;omega),ax _⟩
    rw[Is hjn hx hl0]at hX;obtain⟨g,o,e1,c1⟩:=HC.o j x hx;obtain⟨g2,o2,sv,e2,c2,hrow⟩:=HCR.o j l hl0;subst e1 e2;have d1:=aj hb c1;have d2:=aj hb c2;have k1:=jo l sv x wr (hrow.below hb);obtain⟨ps,cs,hsv,hq1,hq2⟩:=hrow;subst hsv;clear hq1 hq2;have HT:=aD (Ir HW.o (j:=j) (by have:=HN.o;omega));obtain⟨b1,hb1⟩:=aq (decide (x∈l));obtain⟨b2,hb2⟩:=aq (decide (x∈who.take j));rw[hb1]at k1 hX;rw[hb2]at hX;have HB2:=aD hb2;have HX:=aD hX;clear hX hb1 hb2 hx hl0 c1 c2;go_wp2_with fail;refine k1.mono ?_;rintro e w1 ⟨rfl,b1'⟩;have hbw:=au hb b1';clear k1 d1 d2 b1' hb;cases b1 with
    |false=>
     have HY:P3 (jV who roles=6):=HX.o;clear HX;go_wp2_with fail;go_ret;exact⟨by rw[HY.o];rfl,hbw⟩
    |true=>
     have k2:=jo (who.take j) _ x w1 (HT.o.below hbw);rw[HB2.o]at k2;have hcp:(j:Int)<=(c:Int):=(by omega);go_wp2_with fail;refine k2.mono ?_;rintro e w2 ⟨rfl,b2'⟩;have hbw2:=au hbw b2';clear k2 b2' hbw;cases b2 with
     |true=>
      have HY:P3 (jV who roles=7):=HX.o;clear HX;go_wp2_with fail;go_ret;exact⟨by rw[HY.o];rfl,hbw2⟩
     |false=>
      have HY:P3 (jV who roles=rt who roles (n-(j+1)) (j+1)):=HX.o;clear HX;go_wp2_with fail;go_roundw;case rel=>exact⟨j+1,by go_num,by omega,hbw2,HY.o⟩
      case measure=>simp[intOf];omega
   ·have hjn': ¬(j:Int)<(n:Int):=(by omega)
    have HY:P3 (jV who roles=0):=by
     show _=_;rw[hX,show n-j=0 by omega];rfl
    clear hX;go_wp2_with fail;go_ret;exact⟨by rw[HY.o];rfl,hb⟩
 ·have HE:P3 (jV who roles=5):=by
   show _=_;unfold jV;rw[hn,hm,ay hnm]
  have hne:((n:Int) !=(m:Int))=true:=(by simpa using(by omega: ¬(n:Int)=(m:Int)));clear hc hcr hn hm hnm HC HCR;go_enter func96,ntmps96;go_wp2_with fail;go_ret;exact⟨by rw[HE.o];rfl,aG _ _⟩
end
section
section
variable {B gD:Nat} {d d':Dk} {t t':Tr} {rv cv vv kv:Value} {ss ss':List (Sv×Value)} {aa aa':List (Ap×Value)} {w w':World}
theorem DkM.turn (h:DkM B gD d t rv cv vv kv ss aa w)(hk:Kd gD t t' w w')(hb:w'.heap[gD]? =ah #[rv,t'.ev,t'.sv,t'.av,cv,vv,ag d'.given,kv,ag d'.runs] 95)(e1:d'.rules=d.rules)(e2:d'.vers=d.vers)(e3:d'.kept=d.kept)
  (r1:w'.ownsRow B 9 1 t'.ev d'.res.length (d'.res.map kK)) (r2:w'.ownsRow B 35 4 t'.sv ss'.length (svF ss')) (r3:w'.ownsRow B 122 11 t'.av aa'.length (apF aa')) (q2:ss'.map (fun p=>p.1)=d'.svs) (q3:aa'.map (fun p=>p.1)=d'.aps)
  (p2: ∀p∈ss',p∈ss\/Rob (Fx gD t') (fun u=>fo u p.2 p.1.roles) w') (p3: ∀p∈aa',(∃a,(a,p.2)∈aa/\a.who=p.1.who)\/Rob (Fx gD t') (fun u=>dQ u p.2 p.1.who) w'):DkM B gD d' t' rv cv vv kv ss' aa' w':=by
 refine⟨hb,h.lo,by rw[e1];exact hk.rob h.rules,by rw[e1];exact hk.rob h.codes,by rw[e2];exact hk.rob h.vers,by rw[e3];exact hk.rob h.kept,r1,r2,q2,fun p hp=> ?_,r3,q3,fun p hp=> ?_,fun q hq=> ?_⟩
 ·rcases p2 p hp with hp|hp
  ·exact hk.rob (h.svr p hp)
  ·exact hp
 ·rcases p3 p hp with⟨a,hp,e⟩|hp
  ·rw[<-e];exact hk.rob (h.apr (a,p.2) hp)
  ·exact hp
 ·rw[hk.xs]at hq;have hn:=h.nx q hq;have hg:=hk.gx q hn.1 hn.2.2;exact⟨aO hn.1 hk.size,hn.2.1,hg⟩
theorem Cc {k:Nat}{v:Value}(_:DkM B gD d t rv cv vv kv ss aa w){w1:World}{old:Value}(ho:old=t.ev\/old=t.sv\/old=t.av)(hg:w.grownBy w1 old.ownBlock)(hv:v.ownBlock=old.ownBlock\/v.ownBlock=some w.heap.size)(ht:(t'={t with ev:=v}/\old=t.ev)\/(t'={t with sv:=v}/\old=t.sv)\/(t'={t with av:=v}/\old=t.av)):Kd gD t t' w (w1.setCell ⟨gD,k,none⟩ v):=by
 have hne: ∀q,Gx gD t q->some q≠old.ownBlock:=fun q hq=>by
  rcases ho with rfl|rfl|rfl
  ·exact hq.2.1
  ·exact hq.2.2.1
  ·exact hq.2.2.2
 have hnv: ∀q,q<w.heap.size->Gx gD t q->some q≠v.ownBlock:=fun q hl hq=>by
  rcases hv with e|e
  ·rw[e];exact hne q hq
  ·rw[e];intro e;have:=aK e;omega
 refine⟨hg.os,hg.tape,hg.output,by simpa using hg.size,fun q hq hl=>((aN _ _ _ _ hq.1).trans (hg.block q hl (hne q hq))),fun q hl hq=> ?_,?_⟩
 ·rcases ht with⟨rfl,_⟩|⟨rfl,_⟩|⟨rfl,_⟩
  ·exact⟨hq.1,hnv q hl hq,hq.2.2.1,hq.2.2.2⟩
  ·exact⟨hq.1,hq.2.1,hnv q hl hq,hq.2.2.2⟩
  ·exact⟨hq.1,hq.2.1,hq.2.2.1,hnv q hl hq⟩
 ·rcases ht with⟨rfl,_⟩|⟨rfl,_⟩|⟨rfl,_⟩<;>rfl
theorem tQ {b1 b2 T1 T2 s1 s2 n1 n2:Nat}{v1 v2:Value}{x1 x2:List Value}(h1:w.ownsRow b1 T1 s1 v1 n1 x1)(h2:w.ownsRow b2 T2 s2 v2 n2 x2)(hT:T1≠T2){b:Nat}(hb:v1.ownBlock=some b):v2.ownBlock≠some b:=by
 rcases h1.2 with⟨e,_⟩|⟨g,cap,cur,e,_,hg,_⟩
 ·rw[e]at hb;cases hb
 ·rw[e]at hb;have:g=b:=aK hb;subst this;exact iu h2 hg hT
theorem pO {T1 T2 s1 s2 n1 n2:Nat}{v1 v2:Value}{x1 x2:List Value}{k:Nat}{u:Value}{w1:World}(hblk: ∃c,w.heap[gD]? =ah c 95)(h1:w.ownsRow B T1 s1 v1 n1 x1)(h2:w.ownsRow B T2 s2 v2 n2 x2)(hT:T1≠T2)(hD:(95:Nat)≠T1)(hg:w.grownBy w1 v2.ownBlock):(w1.setCell ⟨gD,k,none⟩ u).ownsRow B T1 s1 v1 n1 x1:=by
 obtain⟨c,hblk⟩:=hblk;refine bp h1 fun b hb=> ?_;exact(aN _ _ _ _ (fun e=>iu h1 hblk hD (by rw[hb,e]))).trans (hg.block b (h1.lt b hb).2 (fun e=>tQ h1 h2 hT hb e.symm))
theorem xV {p:List Int}{n n':Int}(hn:n<=n'): ∀(m i:Nat),kT p n m i=0->kT p n' m i=0
 |0,_,_=>rfl
 |m+1,i,h=>by
  unfold kT at h⊢;split at h
  ·cases h
  ·rename_i h1;rw[aw (by omega)];split at h
   ·cases h
   ·rename_i h2;rw[aw h2];exact xV hn m (i+1) h
theorem vq {n n':Int}(hn:n<=n'): ∀(l:List (List Int)),jf n l=0->jf n' l=0
 |[],_=>rfl
 |p::l,h=>by
  unfold jf at h⊢;by_cases h1:gG p n=0
  ·rw[aw (by simpa using h1)]at h
   have h2:gG p n'=0:=by
    unfold gG at h1⊢;split at h1
    ·cases h1
    ·rename_i h3;rw[aw h3];exact xV hn _ _ h1
   rw[aw (by simpa using h2)];exact vq hn l h
  ·rw[ay h1]at h;exact absurd h h1
theorem Df {s:Sv}{n n':Int}(hn:n<=n')(h:dW s n=0):dW s n'=0:=by
 unfold dW at h⊢;split at h
 ·cases h
 ·rename_i h1;rw[aw h1];split at h
  ·cases h
  ·rename_i h2;rw[aw h2];exact vq hn _ h
def mw (B:Nat)(w:World)(v:Value)(l:List Int):Prop:=dQ w v l/\(∀p n k,v= .slice p n k->n<=k)/\ ∀b,v.ownBlock=some b->B<=b
def tR (B gD:Nat)(p:An×Dk)(t:Tr)(w:World)(e:Ending)(w':World):Prop:= ∃(t':Tr) (wv lv:Value),e= .returned (.agg (anC p.1 wv lv))/\dE B gD p.2 t' w'/\Kd gD t t' w w'/\Rob (Fx gD t') (fun u=>mw B u wv p.1.who) w'/\Rob (Fx gD t') (fun u=>dQ u lv p.1.list) w'
theorem eE (P:Nat->Prop)(w:World):Rob P (fun u=>dQ u (af) []) w:=fun u _ _=>⟨none,0,rfl,by simp,fun j n hj=>by simp at hj⟩
theorem gg {B:Nat}(P:Nat->Prop)(w:World):Rob P (fun u=>mw B u (af) []) w:=fun u _ _=>⟨⟨none,0,rfl,by simp,fun j n hj=>by simp at hj⟩,(fun p n k e=>by cases e;exact aA _),fun b e=>by cases e⟩
theorem gC {q:Nat}{W:World}(hd:dE B gD d (t'.add q) W)(hk:Kd gD t t' w W)(hq:w.heap.size<=q)(c:Array Value):dE B gD d t' (W.setRow q c)/\Kd gD t t' w (W.setRow q c):=
 ⟨hd.closed (by simp) fun k _ hne=>aT _ _ _ _ hne,hk.closed hq rfl rfl rfl (by simp) fun k _ hne=>aT _ _ _ _ hne⟩
theorem PP:(prog.info? 9).map (fun i=>(i.zero,i.size,i.bytes))=some (some (.string ⟨#[]⟩),1,16):=by kernel_rfl
theorem Pk:prog.underlying 42=some (.slice 9):=by kernel_rfl
theorem Fw (x:List UInt8)(w:World)(h:dE B gD d t w)(hx:x.length<=9223372036854775807):Calls prog 48 #[ab gD 0,kK x] w (tR B gD (ru d x) t w):=by
 obtain⟨wA,hA,bA,nA⟩:=nb w #[ag 0,ag 0,ag 0,ag 0,af,af] 28;have hsA:wA.heap.size=w.heap.size+1:=by rw[<-hA];simp
 have hdA:=h.opened (aA _) hsA bA;have HDA:=aD hdA;obtain⟨hok,rv,cv,vv,kv,ss,aa,hm⟩:=hdA;obtain⟨pe,ce,hev⟩:=bU hm.res;obtain⟨n,hn⟩:=aq d.res.length
 have z1:wA.cell? (ae gD 1)=some (.slice pe n ce):=by
  have:=cr (v:=t.ev) 1 hm.blk rfl;rw[this,<-hn];exact congrArg some hev
 have hn12:n<=12:=by rw[<-hn];exact hok.rl
 have HN:=aD hn;have cR:=fun(e:Int) (W:World)=>fY e W;have HBA:=aD bA;have HEV:P3 (t.ev= .slice pe n ce):=by show _=_;rw[<-hn];exact hev
 have HM:=aD hm;have HX:=aD hx;have HOK:=aD hok;clear h hm hev hn hx hok hsA bA;unfold kK;by_cases h12:12<=n
 ·have h12':(12:Int)<=(n:Int):=by omega
  have HP:P3 (ru d x=(noA 5,d)):=(by show _=_;unfold ru;rw[ay (by rw[HN.o];exact h12)]);go_enter func48,ntmps48;go_wp2_with fail;refine(cR 5 wA).mono ?_;rintro e w1 ⟨rfl,b1⟩;have n1:=bt b1 nA;have hb:=au HBA.o b1;have HO:=aD (gC (HDA.o.below b1) (Kd.of (t:=t) (gD:=gD) hb) (aA _) (anC (noA 5) (af) (af)));have HR:=aD (aJ _ _ _ (anC (noA 5) (af) (af)) _ _ n1);clear cR z1 b1 hb nA;go_wp2_with(refine az rfl 28 _ _ rfl _ _ rfl rfl _ _ n1 (by kernel_rfl) rfl (by simp[anC,Value.oneCell']) ?_)
  refine aU (v:= .agg (anC (noA 5) (af) (af))) ?_ rfl ?_
  ·exact a8 rfl _ _ w.heap.size _ _ _ _ rfl HR.o anT rfl (by kernel_rfl)
  ·rw[HP.o];exact⟨t,_,_,rfl,HO.o.1,HO.o.2,gg _ _,eE _ _⟩
 ·have h12': ¬(12:Int)<=(n:Int):=by omega
  have cC:=xT x wA HDA.o;unfold kK at cC;obtain⟨k,hk⟩:=aq (atP5 d.rules x);rw[hk]at cC;have HK:=aD hk;clear hk;go_enter func48,ntmps48;go_wp2_with fail;refine cC.mono ?_;rintro e w1 ⟨rfl,b1⟩;have n1:=bt b1 nA;have HB1:=aD (au HBA.o b1);have HD1:=aD (HDA.o.below b1);have HM1:=aD (HM.o.below b1);have z1':=aj b1 z1;clear cC z1 b1 nA hA;by_cases hk0:k<0
  ·have HP:P3 (ru d x=(noA 7,d)):=(by show _=_;unfold ru;rw[aw (by rw[HN.o];exact h12),HK.o,ay hk0]);have cR7:=cR 7 w1;clear z1';go_wp2_with fail;refine cR7.mono ?_;rintro e w2 ⟨rfl,b2⟩;have n2:=bt b2 n1;have hb:=au HB1.o b2;have HO:=aD (gC (HD1.o.below b2) (Kd.of (t:=t) (gD:=gD) hb) (aA _) (anC (noA 7) (af) (af)));have HR:=aD (aJ _ _ _ (anC (noA 7) (af) (af)) _ _ n2);clear cR cR7 b2 hb n1;go_wp2_with(refine az rfl 28 _ _ rfl _ _ rfl rfl _ _ n2 (by kernel_rfl) rfl (by simp[anC,Value.oneCell']) ?_)
   refine aU (v:= .agg (anC (noA 7) (af) (af))) ?_ rfl ?_
   ·exact a8 rfl _ _ w.heap.size _ _ _ _ rfl HR.o anT rfl (by kernel_rfl)
   ·rw[HP.o];exact⟨t,_,_,rfl,HO.o.1,HO.o.2,gg _ _,eE _ _⟩
  ·have HP:P3 (ru d x=(jL n,{d with res:=d.res++[x]})):=(by show _=_;unfold ru;rw[aw (by rw[HN.o];exact h12),HK.o,aw hk0,HN.o]);obtain⟨wB,hB,bB,nB⟩:=nb w1 #[.string ⟨x.toArray⟩] 9;have hmB:=HM1.o.below bB
   have hres:wB.ownsRow B 9 1 (.slice pe n ce) n (d.res.map kK):=by
    have:=hmB.res;rw[HN.o]at this;rw[<-HEV.o];exact this
   have hbB:B<=wB.heap.size:=(by have:=hmB.lo;have:=aF hmB.blk;omega);have HMB:=aD hmB;have HBB:=aD (au HB1.o bB);have nB1:=bt bB n1;clear cR hmB bB n1 HM1 HB1 HD1;go_wp2_with(at_builtin;refine ik rfl _ _ 42 9 rfl Pk PP rfl (by decide) (by decide) rfl hres rfl nB rfl (by simp[Value.oneCell']) (by omega) hbB ?_)
   rintro v' w2 hown hgr hblk g4 c4 rfl;have hblkB:=HMB.o.blk;have hnx:=HMB.o.nx w.heap.size (bc ..)
   have hgr':wB.grownBy w2 (t.add w.heap.size).ev.ownBlock:=by
    show wB.grownBy w2 t.ev.ownBlock;rw[HEV.o];exact hgr
   have hkd:Kd gD (t.add w.heap.size) (({t with ev:= .slice (some (ae g4 0)) (n+1) c4}:Tr).add w.heap.size) wB (w2.setCell ⟨gD,1,none⟩ (.slice (some (ae g4 0)) (n+1) c4)):=Cc HMB.o (.inl rfl) hgr' (by show _=t.ev.ownBlock\/_;rw[HEV.o];exact hblk) (.inl ⟨rfl,rfl⟩);have blk2:=(hgr'.block gD (aF hblkB) (fun e=>iu HMB.o.res hblkB (by decide) e.symm)).trans hblkB;have blk3:=aX w2 gD 1 _ _ (.slice (some (ae g4 0)) (n+1) c4) blk2;have y1:=cr 1 blk2 rfl;have x1:=bl _ _ 1 _ _ blk2;have n3:=(hkd.blk w.heap.size hnx.2.2 (aF nB1)).trans nB1
   have hm3:DkM B gD {d with res:=d.res++[x]} (({t with ev:= .slice (some (ae g4 0)) (n+1) c4}:Tr).add w.heap.size) rv cv vv kv ss aa (w2.setCell ⟨gD,1,none⟩ (.slice (some (ae g4 0)) (n+1) c4)):=by
    refine HMB.o.turn hkd blk3 rfl rfl rfl ?_ (pO ⟨_,hblkB⟩ HMB.o.svs HMB.o.res (by decide) (by decide) hgr') (pO ⟨_,hblkB⟩ HMB.o.aps HMB.o.res (by decide) (by decide) hgr') HMB.o.sve HMB.o.ape (fun p hp=> .inl hp) (fun p hp=> .inl ⟨p.1,hp,rfl⟩);refine bp ?_ fun b hb=>aN w2 ⟨gD,1,none⟩ b _ (fun e=>iu hown blk2 (by decide) (by rw[<-show b=gD from e];exact hb));show w2.ownsRow B _ 1 (.slice (some (ae g4 0)) (n+1) c4) (d.res++[x]).length ((d.res++[x]).map kK);rw[aL,HN.o,dh];exact hown
   have hok:=HOK.o;have hl1:((d.res++[x]).length:Int)=(d.res.length:Int)+1:=(by simp)
   have hd3:dE B gD {d with res:=d.res++[x]} (({t with ev:= .slice (some (ae g4 0)) (n+1) c4}:Tr).add w.heap.size) (w2.setCell ⟨gD,1,none⟩ (.slice (some (ae g4 0)) (n+1) c4)):=⟨⟨hok.flt,hok.vl,hok.kl,by show(d.res++[x]).length<=12;rw[aL,HN.o];simp;omega,hok.sl,hok.al,hok.gv,fun y hy=>by
    rcases bJ.1 hy with hy|hy
    ·exact hok.nm y hy
    ·rw[bv.1 hy];exact HX.o,fun s hs=>Df (by show(d.res.length:Int)<=((d.res++[x]).length:Int);omega) (hok.sv s hs),fun a ha=>by
    obtain⟨q1,q2,q3,q4,q5,q6,q7⟩:=hok.ap a ha;exact⟨q1,q2,q3,q4,q5,q6,fun r hr=>⟨(q7 r hr).1,by have:=(q7 r hr).2;show r<((d.res++[x]).length:Int);omega⟩⟩⟩,_,_,_,_,_,_,hm3⟩
   have hkw:=Kd.opened HBB.o hkd;have HO:=aD (gC hd3 hkw (aA _) (anC (jL n) (af) (af)));have y3:=cr 1 blk3 rfl;generalize hw3:w2.setCell ⟨gD,1,none⟩ (.slice (some (ae g4 0)) (n+1) c4)=w3 at*;have HR:=aD (aJ _ _ _ (anC (jL n) (af) (af)) _ _ n3);have hw1:IntKind.i64.wrap ((n:Int)+1-1)=(n:Int):=(by rw[bG];omega);have y3':w3.cell? (ae gD 1)=some (.slice (some (ae g4 0)) (n+1) c4):=y3;clear hm3 hd3 hkw hkd hown hgr hgr' hblk blk2 blk3 hblkB hnx nB nB1 hres hok hl1 y3 z1' hB;go_wp2_with(refine az rfl 28 _ _ rfl _ _ rfl rfl _ _ n3 (by kernel_rfl) rfl (by simp[Value.oneCell']) ?_)
   refine aU (v:= .agg (anC (jL n) (af) (af))) ?_ rfl ?_
   ·exact a8 rfl _ _ w.heap.size _ _ _ _ rfl HR.o anT rfl (by kernel_rfl)
   ·rw[HP.o];exact⟨_,_,_,rfl,HO.o.1,HO.o.2,gg _ _,eE _ _⟩
end
end
section
def tS (c:Array Value):Nat->List Value->Array Value
 |_,[]=>c
 |o,v::vs=>tS (c.setIfInBounds o v) (o+1) vs
theorem Ak: ∀(vs:List Value) (c:Array Value) (o:Nat),(tS c o vs).size=c.size
 |[],_,_=>rfl
 |v::vs,c,o=>by rw[tS,Ak vs,gJ]
theorem DZ: ∀(vs:List Value) (c:Array Value) (o k:Nat),o+vs.length<=c.size->(tS c o vs)[k]? =if o<=k/\k<o+vs.length then vs[k-o]? else c[k]?
 |[],c,o,k,_=>by rw[aw (by rintro⟨h1,h2⟩;rw[fc]at h2;omega)];rfl
 |v::vs,c,o,k,h=>by
  rw[bz]at h;rw[tS,DZ vs _ (o+1) k (by rw[gJ];omega),bz];by_cases h1:o+1<=k/\k<o+1+vs.length
  ·rw[ay h1,ay (by omega),show k-o=(k-(o+1))+1 by omega,List.getElem?_cons_succ]
  ·rw[aw h1];by_cases h2:k=o
   ·subst h2;rw[ay (by omega),fQ (by omega),iB];rfl
   ·rw[aw (by omega),da (by omega)]
theorem tT {g:Nat}{T:TypeId}: ∀(vs:List Value) (o:Nat) (w:World) (c:Array Value),w.heap[g]? =ah c T->(w.setCells g o vs).heap[g]? =ah (tS c o vs) T
 |[],_,_,_,h=>h
 |v::vs,o,w,c,h=>by
  rw[World.setCells,tS];exact tT vs (o+1) _ _ (aX w g o _ _ v h)
theorem fV (g:Nat): ∀(vs:List Value) (o:Nat) (w:World),(w.setCells g o vs).os=w.os/\(w.setCells g o vs).tape=w.tape/\(w.setCells g o vs).output=w.output/\(w.setCells g o vs).heap.size=w.heap.size
 |[],_,_=>⟨rfl,rfl,rfl,rfl⟩
 |v::vs,o,w=>by
  rw[World.setCells];obtain⟨h1,h2,h3,h4⟩:=fV g vs (o+1) (w.setCell ⟨g,o,none⟩ v);exact⟨h1,h2,h3,h4.trans (by simp)⟩
theorem ol {α:Type}{m:Nat}{f:α->Array Value}(hf: ∀p,(f p).size=m): ∀l:List α,(l.flatMap fun p=>(f p).toList).length=l.length*m
 |[]=>by simp
 |x::l=>by rw[List.flatMap_cons,aL,ol hf l,bP,hf,bz,Nat.add_mul];omega
theorem MT {α:Type}{m base e:Nat}{f:α->Array Value}{w:World}{v:Value}{l:List α}(hm:0<m)(hf: ∀p,(f p).size=m)(h:w.ownsRow base e m v l.length (l.flatMap fun p=>(f p).toList)){j g:Nat}{p:α}(hj:j<l.length)(hg:v.ownBlock=some g):(w.setCells g (j*m) (f p).toList).ownsRow base e m v (l.set j p).length ((l.set j p).flatMap fun p=>(f p).toList):=by
 rcases h.2 with⟨e0,_⟩|⟨g',cap,cur,e0,hb,hh,hn,hc,hs,ht⟩
 ·rw[e0]at hg;cases hg
 ·rw[e0]at hg;have:g'=g:=aK hg;subst this
  have hjm:j*m+m<=l.length*m:=by
   have:(j+1)*m<=l.length*m:=Nat.mul_le_mul_right m hj;rw[Nat.add_mul,Nat.one_mul]at this;exact this
  have hcm:l.length*m<=cap*m:=Nat.mul_le_mul_right m hn;refine⟨ol hf _,.inr ⟨g',cap,tS cur (j*m) (f p).toList,by rw[jh];exact e0,hb,tT _ _ _ _ hh,by rw[jh];exact hn,hc,by rw[Ak];exact hs,?_⟩⟩;rw[jh];apply List.ext_getElem?;intro k;by_cases hk:k<l.length*m
  ·rw[dA hk,bo,DZ _ _ _ _ (by rw[bP,hf];omega),bP,hf];have hq:k=(k/m)*m+k%m:=(by rw[Nat.mul_comm];exact(Nat.div_add_mod k m).symm);have hr:k%m<m:=Nat.mod_lt _ hm;have hd:k/m<l.length:=(Nat.div_lt_iff_lt_mul hm).2 hk;by_cases hin:j*m<=k/\k<j*m+m
   ·rw[ay hin]
    have ej:k/m=j:=by
     apply Nat.div_eq_of_lt_le
     ·exact hin.1
     ·rw[Nat.succ_mul];exact hin.2
    have hset:(l.set j p)[j]? =some p:=(by rw[fg hj]);have:=oj hf hset (k-j*m) (by omega);rw[show j*m+(k-j*m)=k by omega]at this;rw[this,<-bo]
   ·rw[aw hin]
    have hne:k/m≠j:=fun ej=>by
     rw[ej]at hq;omega
    obtain⟨x,hx⟩: ∃x,l[k/m]? =some x:=⟨l[k/m],ax hd⟩
    have h1:=oj hf hx (k%m) hr;have h2:=oj hf (show(l.set j p)[k/m]? =some x by rw[fH (fun e=>hne e.symm)];exact hx) (k%m) hr;rw[<-hq]at h1 h2;rw[h2,<-h1,<-ht,dA hk,bo]
  ·rw[ep (by rw[d8];omega),ep (by rw[ol hf,jh];omega)]
section
variable {B gD:Nat} {d:Dk} {t:Tr} {w:World}
end
end
section
theorem It {m base e n:Nat}{w:World}{v:Value}{xs:List Value}(h:w.ownsRow base e m v n xs){j g c:Nat}(hj:j<n)(hv:v= .slice (some (ae g 0)) n c):w.there g (j*m) m:=fun k hk=>by
 rcases h.2 with⟨_,h2⟩|⟨g',cap,cur,e0,_,hh,hn,_,hs,_⟩
 ·omega
 ·rw[hv]at e0;injection e0 with e1 _ _;injection e1 with e1;injection e1 with e1;subst e1;have h1:(j+1)*m<=cap*m:=Nat.mul_le_mul_right m (by omega);rw[Nat.add_mul,Nat.one_mul]at h1;refine⟨?_,bl _ _ _ _ _ hh⟩;rw[aV _ _ _ _ _ _ hh,fk (by omega)];rfl
section
variable {B gD:Nat} {d:Dk} {t:Tr}
end
end
theorem Pl:(prog.info? 24).map (fun i=>(i.zero,i.size,i.bytes))=some (some (af),1,24):=by kernel_rfl
theorem svT:prog.underlying 35=some (.struct (prog.fieldsOf 35)):=by kernel_rfl
theorem uL (s:Sv)(p:Option Addr)(n c:Nat):(svC (s,.slice p n c)).all (·.oneCell')=true:=by simp[svC,Value.oneCell']
structure Fy (B:Nat)(v:Value)(ls:List (List Int))(vs:List Value)(w:World):Prop where
 o:w.ownsRow B 24 1 v ls.length vs
 each: ∀(i:Nat) (l:List Int) (u:Value),ls[i]? =some l->vs[i]? =some u->w.ownsRow B 3 1 u l.length (c8 l)
theorem mD {w:World}{B:Nat}{v:Value}{l:List Int}(h:w.ownsRow B 3 1 v l.length (c8 l))(hl:l.length<9223372036854775808):dQ w v l:=by
 obtain⟨p,c,hv⟩:=bU h;refine⟨p,c,hv,hl,fun j x hj=> ?_⟩;obtain⟨g,c',e,_,hc⟩:=rS h (by have:=(aE.1 hj).1;omega);rw[hv]at e;injection e with e1 _ _;refine⟨g,0,e1,?_⟩;rw[bK];exact hc j _ (by unfold c8;rw[bg,hj];rfl)
theorem Fy.rob {B:Nat}{v:Value}{ls:List (List Int)}{vs:List Value}{w:World}(h:Fy B v ls vs w)(hl:ls.length<9223372036854775808)(hp: ∀l∈ls,l.length<9223372036854775808):Rob (fun q=>B<=q) (fun u=>fo u v ls) w:=fun u _ ha=>by
 have hk: ∀{e n:Nat} {x:Value} {xs:List Value},w.ownsRow B e 1 x n xs->u.ownsRow B e 1 x n xs:=fun h=>bp h fun b hb=>ha b (h.lt b hb).1 (h.lt b hb).2;have h1:=hk h.o;have hlv:vs.length=ls.length:=by have:=h1.1;omega
 obtain⟨p,c,hv⟩:=bU h1;refine⟨p,c,hv,hl,fun j l hj=> ?_⟩;have hjl:=(aE.1 hj).1;obtain⟨x,hx⟩: ∃x,vs[j]? =some x:=⟨vs[j]'(by omega),ax _⟩
 obtain⟨g,c',e,_,hc⟩:=rS h1 (by omega);rw[hv]at e;injection e with e1 _ _;exact⟨g,0,x,e1,by rw[bK];exact hc j x hx,mD (hk (h.each j l x hj hx)) (hp l (aM hj))⟩
theorem Fz (s:Sv)(p:Option Addr)(c:Nat)(w:World)(h:fo w (.slice p s.roles.length c) s.roles)(hl:s.roles.length<=1000)(hp: ∀l∈s.roles,l.length<=1000):Calls prog 92 #[.agg (svC (s,.slice p s.roles.length c))] w fun e w'=> ∃p' c',e= .returned (.agg (svC (s,.slice p' s.roles.length c')))/\Rob (fun q=>w.heap.size<=q) (fun u=>fo u (.slice p' s.roles.length c') s.roles) w'/\ao w w':=by
 obtain⟨wA,hA,bA,nA⟩:=nb w (svC (s,.slice p s.roles.length c)) 35;obtain⟨wB,hB,bB,nB⟩:=nb wA #[ag 0,ag 0,ag 0,af] 35;have nA':=bt bB nA;have hb:=au bA bB;have hr:=h.below hb;obtain⟨n,hn⟩:=aq s.roles.length;have z3:wB.cell? (ae w.heap.size 3)=some (.slice p n c):=by rw[<-hn];exact cr 3 nA' rfl
 have HN:=aD hn;have HR:=aD hr;have HB:=aD hb;have HP:=aD hp;have hwB:w.heap.size<=wB.heap.size:=hb.size;rw[hn]at hl;have hn1:(n:Int)<=1000:=by omega
 clear h hn hr hp nA bA bB hb;go_enter func92,ntmps92;go_wp2_with fail;go_loopw [3,5,9] (fun v _ q wr=> ∃(j:Nat) (vs:List Value),q=ag (j:Int)/\j<=n/\ao wB wr/\Fy wB.heap.size v (s.roles.take j) vs wr) (fun _ _ q _=>n-(intOf q).toNat);case atStart=>exact⟨0,[],rfl,by omega,aG _ _,bV _ _ _ _,fun i l u hi=>by simp at hi⟩
 case round=>
  obtain⟨j,vs,rfl,hj,hbr,hro⟩:=hrel;have hj0:(0:Int)<=(j:Int):=(by omega);by_cases hjn:j<n
  ·have hjn':(j:Int)<(n:Int):=(by omega);obtain⟨l,hlj⟩: ∃l,s.roles[j]? =some l:=⟨s.roles[j]'(by have:=HN.o;omega),ax _⟩
   obtain⟨p0,c0,e0,hq1,hce⟩:=HR.o;injection e0 with e1 e3 e2;subst e1 e2;obtain⟨g,o,sv,e4,hc,hrow⟩:=hce j l hlj;subst e4;clear e3 hq1 hce;have hc':=aj hbr hc;have cC:=xU l sv wr (hrow.below hbr) (HP.o l (aM hlj));obtain⟨ps,cs,hsv,hq1,hq2⟩:=hrow;subst hsv;have HL:=aD hlj;have HRO:=aD hro;have HBR:=aD hbr;clear hq1 hq2 hlj hc hro hbr;go_wp2_with fail;refine cC.mono ?_;rintro e w1 ⟨v1,rfl,ho1,b1⟩;obtain⟨p1,c1,hv1⟩:=bU ho1;subst hv1;obtain⟨wC,hC,bC,nC⟩:=nb w1 #[.slice p1 l.length c1] 24;have hbC:=au b1 bC;have hoC:=bp HRO.o.o fun b hq=>hbC.block b (HRO.o.o.lt b hq).2;have hbw:=au HBR.o hbC;have hlt:(s.roles.take j).length=j:=(by rw[d8,HN.o];omega);rw[hlt]at hoC;have HO1:=aD (bp ho1 fun b hq=>bC.block b (ho1.lt b hq).2);have HBC:=aD hbC;clear cC ho1 b1 bC hc' hbC;go_wp2_with(at_builtin;refine ik rfl _ _ 33 24 rfl Ho Pl rfl (by decide) (by decide) rfl hoC rfl nC rfl (by simp[Value.oneCell']) (by omega) hbw.size ?_)
   rintro v2 w2 ho2 hgr _ g2 c2 rfl;have hb2:=hbw.grown hgr hbw.size (fun k hk=>(hoC.lt k hk).1)
   have HRO2:P3 (Fy wB.heap.size (.slice (some (ae g2 0)) (j+1) c2) (s.roles.take (j+1)) (vs++[.slice p1 l.length c1]) w2):=by
    have hkp: ∀{x:Value} {m:Nat} {xs:List Value} {B':Nat},wC.ownsRow B' 3 1 x m xs->w2.ownsRow B' 3 1 x m xs:=fun hx=>bp hx fun b hb=>hgr.block b (hx.lt b hb).2 (fun e=>tQ hx hoC (by decide) hb e.symm);have hvl:vs.length=j:=(by have:=hoC.1;omega);refine⟨?_,fun i l' u hi hu=> ?_⟩
    ·rw[d8,HN.o,fC (by omega)];exact ho2
    ·by_cases e:i=j
     ·subst e;rw[dA (by omega),HL.o]at hi;have:l=l':=aK hi;subst this;rw[dG (by omega),hvl,iB]at hu;have:Value.slice p1 l.length c1=u:=aK hu;subst this;refine hkp ⟨HO1.o.1,?_⟩;rcases HO1.o.2 with q|⟨gq,cq,cu,q1,q2,q3⟩
      ·exact .inl q
      ·exact .inr ⟨gq,cq,cu,q1,a6 HBR.o.size q2,q3⟩
     ·have hij:i<j:=by
       have:=(aE.1 hi).1;rw[d8]at this;omega
      rw[dA (by omega)]at hi;rw[d6 (by omega)]at hu;have hx:=HRO.o.each i l' u (by rw[dA hij];exact hi) hu;exact hkp (bp hx fun b hb=>HBC.o.block b (hx.lt b hb).2)
   clear hoC ho2 hgr hbw nC hC HO1 HBC;go_wp2_with fail;go_roundw;case rel=>exact⟨j+1,_,by go_num,by omega,hb2,HRO2.o⟩
   case measure=>simp[intOf];omega
  ·have hjn': ¬(j:Int)<(n:Int):=(by omega);obtain rfl:n=j:=(by omega);have htk:s.roles.take n=s.roles:=cj (by rw[HN.o];exact aA _);rw[htk]at hro;have ho:=hro.o;rw[HN.o]at ho;obtain⟨pv,cv,hv⟩:=bU ho;subst hv;have nAr:=bt hbr nA';have nBr:=bt hbr nB
   have hwlt:w.heap.size<wA.heap.size:=by
    have:=hA▸(aF (aC w (.cells (svC (s,.slice p s.roles.length c)) 35)));omega
   have hwAB:w.heap.size≠wA.heap.size:=(by omega);have x3:=bl _ _ 3 _ _ nAr;have y3:wr.cell? (ae w.heap.size 3)=some (.slice p n c):=aj hbr z3;have nC:(wr.setCell ⟨w.heap.size,3,none⟩ (.slice pv n cv)).heap[w.heap.size]? =ah (svC (s,.slice pv n cv)) 35:=aX wr w.heap.size 3 _ _ _ nAr;have nD:=(aN wr ⟨w.heap.size,3,none⟩ wA.heap.size (.slice pv n cv) (fun e=>hwAB e.symm)).trans nBr;have hb2:=(au HB.o hbr).setCell (p:=⟨w.heap.size,3,none⟩) (aA _) (.slice pv n cv);have hrob:=hro.rob (by rw[HN.o];omega) (fun l hl'=>by have:=HP.o l hl';omega);have hor: ∀q,q≠w.heap.size->(wr.setCell ⟨w.heap.size,3,none⟩ (.slice pv n cv)).heap[q]? =wr.heap[q]? :=fun q hq=>aN _ _ _ _ hq;have hsz:(wr.setCell ⟨w.heap.size,3,none⟩ (.slice pv n cv)).heap.size=wr.heap.size:=(by simp);generalize hwC:wr.setCell ⟨w.heap.size,3,none⟩ (.slice pv n cv)=wC at*;have hwl:=aF nB
   have HO:P3 (Rob (fun q=>w.heap.size<=q) (fun u=>fo u (.slice pv n cv) s.roles) (wC.setRow wA.heap.size (svC (s,.slice pv n cv)))/\ao w (wC.setRow wA.heap.size (svC (s,.slice pv n cv)))):=by
    refine⟨hrob.move (by simp;rw[hsz];exact aA _) (fun q hq _=> ?_) (fun q _ hq=>a6 hwB hq),below_setRow hb2 (by have:=aF nAr;have:=hA▸(am w (.cells (svC (s,.slice p s.roles.length c)) 35)).size;exact this) _⟩;exact(aT _ _ _ _ (by omega)).trans (hor q (by omega))
   have HRR:=aD (aJ _ _ _ (svC (s,.slice pv n cv)) _ _ nD);clear hro ho hrob hor hsz hb2 nAr nBr nA' hwAB htk z3;go_wp2_with(first|(refine aR rfl 35 _ rfl _ rfl _ _ _ _ nC svT rfl (by kernel_rfl) ?_)|(refine az rfl 35 _ _ rfl _ _ rfl rfl _ _ nD (by kernel_rfl) rfl (uL _ _ _ _) ?_))
   refine aU (v:= .agg (svC (s,.slice pv n cv))) ?_ rfl ⟨pv,cv,by rw[HN.o],by rw[HN.o];exact HO.o.1,HO.o.2⟩;exact a8 rfl _ _ wA.heap.size _ _ _ _ rfl HRR.o svT rfl (by kernel_rfl)
section
theorem MU {l:List Ru}{r x:Int}(h:x∈fK l r): ∃k:Nat,x=(k:Int)/\k<l.length:=by
 unfold fK at h;split at h
 ·cases h
 ·obtain⟨k,hk,rfl⟩:=dw.1 h;exact⟨k,rfl,gQ.1 (List.mem_filter.1 hk).1⟩
theorem Al (f:Int->Bool): ∀l:List Int,(jy (fun x (s:Unit)=>(f x,s)) l ()).1=l.any f
 |[]=>rfl
 |x::l=>by
  unfold jy;rw[List.any_cons];cases h:f x with
  |true=>simp
  |false=>simpa using Al f l
def tU (d:Dk)(l:List Ru)(i:Nat):Int:=if jr d.rules l (i:Int)=true\/(fK l (i:Int)).any (jr d.rules l)=true then d.given else d.vers.getD i 0
def ni (d:Dk)(l:List Ru):List Int:=(List.range l.length).map (tU d l)
theorem tV (d:Dk){l:List Ru}{j:Nat}(hj:j<l.length):(ni d l).take (j+1)=(ni d l).take j++[tU d l j]:=by
 unfold ni;rw[ft,bg,List.getElem?_range hj];rfl
section
variable {B gD:Nat} {d:Dk} {t:Tr}
theorem Ky {v2:Value}{us:List (Ru×Value)}(w:World)(h:dE B gD d t w)(hu:InR w v2 us)(hl:us.length<=1000):Calls prog 88 #[ab gD 0,v2] w fun e w'=> ∃v',e= .returned v'/\w'.ownsRow w.heap.size 3 1 v' us.length (c8 (ni d (us.map (fun p=>p.1))))/\ao w w':=by
 obtain⟨pn,cn,rfl⟩:=hu.form;obtain⟨wA,hA,bA,nA⟩:=nb w #[ab gD 0] 115;obtain⟨wB,hwB,bB,nB⟩:=nb wA #[.slice pn us.length cn] 45;have hbw:=au bA bB;have nA':=bt bB nA;obtain⟨ll,hll⟩:=aq (us.map (fun p=>p.1));have hlu:ll.length=us.length:=by rw[<-hll,aZ]
 have HD:=aD (h.below hbw);have HU:=aD (hu.below hbw);obtain⟨n,hn⟩:=aq us.length;have HL:=aD (hlu.trans hn);rw[hn]at hwB nB hl hlu;rw[hll,hn];have HX:=aD hll;have HN:=aD hn;have HB:=aD hbw;have hn1:(n:Int)<=1000:=by omega
 have z1:=cr 0 nA' rfl;have z2:=cr 0 nB rfl;obtain⟨hok,rv,cv,vv,kv,ss,aa,hm⟩:=HD.o;have z6:=cr 6 hm.blk rfl;have z5:=cr 5 hm.blk rfl;obtain⟨pv,cvv,rfl,hvl,hvc⟩:=hm.vers.here;obtain⟨nv,hnv⟩:=aq d.vers.length;rw[hnv]at z5;have HV:=aD hvc;have HNV:=aD (hnv.symm.trans hok.vl);have HNE:=aD hnv;have eF: ∀args w,(callFunc 124 args).run prog w= .ok (.enter 124 args) w:=fun _ _=>rfl;clear h hu hll hlu hn bA bB hbw nA hm hok hvc hvl hnv;go_enter func88,ntmps88;go_wp2_with fail;go_loopw [6,7,8,12] (fun v _ _ q wr=> ∃j:Nat,q=ag (j:Int)/\j<=n/\ao wB wr/\wr.ownsRow wB.heap.size 3 1 v j (c8 ((ni d ll).take j))) (fun _ _ _ q _=>n-(intOf q).toNat);case atStart=>exact⟨0,rfl,by omega,aG _ _,bV _ _ _ _⟩
 case round=>
  obtain⟨j,rfl,hj,hbr,hro⟩:=hrel;have hj0:(0:Int)<=(j:Int):=(by omega);by_cases hlt:j<n
  ·have hlt':(j:Int)<(n:Int):=(by omega);have y1:=cr 0 (bt hbr nA') rfl;have y2:=cr 0 (bt hbr nB) rfl;have y6:=aj hbr z6;have y5:=aj hbr z5
   have cN: ∀(k:Nat) (W:World),k<n->ao wB W->Calls prog 124 #[ag (k:Int),ab w.heap.size 0,ab wA.heap.size 0] W fun e w'=>e= .returned (.bool (jr d.rules ll (k:Int)))/\ao W w':=fun k W hk hW=>by
    rw[<-HX.o];have hU:=HU.o.below hW;exact Ip W (HD.o.below hW) hU (by rw[HN.o];exact hk) (bt hW nA') (by rw[HN.o];exact bt hW nB)
   have c1:=cN j wr hlt hbr;have HCN:=aD cN;obtain⟨b1,hb1⟩:=aq (jr d.rules ll (j:Int));rw[hb1]at c1;have HB1:=aD hb1;have HBR:=aD hbr;have HRO:=aD hro;clear cN hb1 hbr hro;go_wp2_with fail;refine c1.mono ?_;rintro e w1 ⟨rfl,hb1⟩;have hbw1:=au HBR.o hb1;cases b1 with
   |true=>
    have HS:=aD hb1;clear c1 hb1 HCN
    have HV1:P3 (tU d ll j=d.given):=by
     show _=_;unfold tU;rw[ay (.inl HB1.o)]
    obtain⟨wC,hC,bC,nC⟩:=nb w1 #[ag d.given] 3;have hbC:=au hbw1 bC;have hoC:=bp HRO.o fun b hq=>(show wC.heap[b]? =wr.heap[b]? from(bC.block b (aO (HRO.o.lt b hq).2 HS.o.size)).trans (HS.o.block b (HRO.o.lt b hq).2))
    clear bC HS y5;go_wp2_with(at_builtin;refine ik rfl _ _ 24 3 rfl sw oc rfl (by decide) (by decide) rfl hoC rfl nC rfl (by simp[Value.oneCell']) (by omega) hbC.size ?_)
    rintro v2 w2 ho2 hgr _ g2 c2 rfl;have hb2:=hbC.grown hgr hbC.size (fun k hk=>(hoC.lt k hk).1)
    have HO:P3 (w2.ownsRow wB.heap.size 3 1 (.slice (some (ae g2 0)) (j+1) c2) (j+1) (c8 ((ni d ll).take (j+1)))):=by
     show World.ownsRow _ _ _ _ _ _ _;rw[tV d (by rw[HL.o];exact hlt),HV1.o,kU];exact ho2
    clear hoC ho2 hgr hbC nC hC;go_wp2_with fail;go_roundw;case rel=>exact⟨j+1,by go_num,by omega,hb2,HO.o⟩
    case measure=>simp[intOf];omega
   |false=>
    have y2':=aj hb1 y2;have y6':=aj hb1 y6;have y5':=aj hb1 y5;have cU:=JL us (.slice pn n cn) (j:Int) w1 (by have:=HU.o.below hbw1;rw[HN.o]at this;exact this);rw[HX.o]at cU;have HS1:=aD hb1;clear c1 hb1 y1 y2 y5 y6;go_wp2_with fail;refine cU.mono ?_;rintro e w3 ⟨v3,rfl,hr3,hb3⟩;have hbw3:=au hbw1 hb3;have HS3:=aD (au HS1.o hb3)
    have cC:=o7 (fun x (s:Unit)=>(jr d.rules ll x,s)) (fun _ W=>ao w3 W) 124 #[ab w.heap.size 0,ab wA.heap.size 0] (fK ll (j:Int)) v3 () w3 eF (aG _ _) (fun _ W hW=>hr3.below hW) (fun x hx _ W hW=>by
     obtain⟨k,rfl,hk⟩:=MU hx;rw[HL.o]at hk;exact(HCN.o k W hk (au hbw3 hW)).mono fun e w' hh=>⟨hh.1,au hW hh.2⟩)
    rw[Al]at cC;obtain⟨p3,c3,rfl,hq1,hq2⟩:=hr3;obtain⟨b2,hb2⟩:=aq ((fK ll (j:Int)).any (jr d.rules ll));rw[hb2]at cC;have HB2:=aD hb2;have x5:=(hb3.cell (bT y5')).trans y5';have x1:=cr 0 (bt hbw3 nA') rfl;clear cU hq1 hq2 hb2 hb3 y2' y6' y5' HS1 HCN;go_wp2_with fail;refine cC.mono ?_;rintro e w4 ⟨rfl,hb4⟩;have hbw4:=au hbw3 hb4;have HS:=aD (au HS3.o hb4);have u5:=aj hb4 x5;have u1:=aj hb4 x1;clear cC hb4 HS3 x5 x1;cases b2 with
    |true=>
     have HV1:P3 (tU d ll j=d.given):=by
      show _=_;unfold tU;rw[ay (.inr HB2.o)]
     obtain⟨wC,hC,bC,nC⟩:=nb w4 #[ag d.given] 3;have hbC:=au hbw4 bC;have hoC:=bp HRO.o fun b hq=>(show wC.heap[b]? =wr.heap[b]? from(bC.block b (aO (HRO.o.lt b hq).2 HS.o.size)).trans (HS.o.block b (HRO.o.lt b hq).2))
     clear bC HS u5 u1;go_wp2_with(at_builtin;refine ik rfl _ _ 24 3 rfl sw oc rfl (by decide) (by decide) rfl hoC rfl nC rfl (by simp[Value.oneCell']) (by omega) hbC.size ?_)
     rintro v2 w2 ho2 hgr _ g2 c2 rfl;have hb2:=hbC.grown hgr hbC.size (fun k hk=>(hoC.lt k hk).1)
     have HO:P3 (w2.ownsRow wB.heap.size 3 1 (.slice (some (ae g2 0)) (j+1) c2) (j+1) (c8 ((ni d ll).take (j+1)))):=by
      show World.ownsRow _ _ _ _ _ _ _;rw[tV d (by rw[HL.o];exact hlt),HV1.o,kU];exact ho2
     clear hoC ho2 hgr hbC nC hC;go_wp2_with fail;go_roundw;case rel=>exact⟨j+1,by go_num,by omega,hb2,HO.o⟩
     case measure=>simp[intOf];omega
    |false=>
     have hjv:j<nv:=by
      apply d7;intro hc;have h1:=HB1.o;have h2:d.rules[j]? =none:=ep (by have:=HNV.o;omega);unfold jr at h1;rw[cg,h2]at h1;cases h1
     have hjv':(j:Int)<(nv:Int):=(by omega);obtain⟨x,hx⟩: ∃x,d.vers[j]? =some x:=⟨d.vers[j]'(by have:=HNE.o;omega),ax _⟩
     obtain⟨gv,ov,hpe,hcv⟩:=HV.o j x hx;subst hpe;have uv:=aj hbw4 hcv;have HXV:=aD hx;clear hcv hx hjv
     have HV1:P3 (tU d ll j=x):=by
      show _=_;unfold tU;rw[aw (by rw[HB1.o,HB2.o];simp)];simp[List.getD,HXV.o]
     obtain⟨wC,hC,bC,nC⟩:=nb w4 #[ag x] 3;have hbC:=au hbw4 bC;have hoC:=bp HRO.o fun b hq=>(show wC.heap[b]? =wr.heap[b]? from(bC.block b (aO (HRO.o.lt b hq).2 HS.o.size)).trans (HS.o.block b (HRO.o.lt b hq).2))
     clear bC HS;go_wp2_with(at_builtin;refine ik rfl _ _ 24 3 rfl sw oc rfl (by decide) (by decide) rfl hoC rfl nC rfl (by simp[Value.oneCell']) (by omega) hbC.size ?_)
     rintro v2 w2 ho2 hgr _ g2 c2 rfl;have hb2:=hbC.grown hgr hbC.size (fun k hk=>(hoC.lt k hk).1)
     have HO:P3 (w2.ownsRow wB.heap.size 3 1 (.slice (some (ae g2 0)) (j+1) c2) (j+1) (c8 ((ni d ll).take (j+1)))):=by
      show World.ownsRow _ _ _ _ _ _ _;rw[tV d (by rw[HL.o];exact hlt),HV1.o,kU];exact ho2
     clear hoC ho2 hgr hbC nC hC;go_wp2_with fail;go_roundw;case rel=>exact⟨j+1,by go_num,by omega,hb2,HO.o⟩
     case measure=>simp[intOf];omega
  ·have hlt': ¬(j:Int)<(n:Int):=(by omega);obtain rfl:n=j:=(by omega);have hbF:=au HB.o hbr
   have hro2:wr.ownsRow w.heap.size 3 1 u6 n (c8 (ni d ll)):=by
    rw[cj (by unfold ni;rw[aZ,List.length_range,HL.o];exact aA _)]at hro;exact⟨hro.1,hro.2.imp id fun⟨g,c,cu,q1,q2,q3⟩=>⟨g,c,cu,q1,a6 HB.o.size q2,q3⟩⟩
   have HR:=aD hro2;clear hro hro2;go_wp2_with fail;go_ret;exact⟨_,rfl,HR.o,hbF⟩
end
end
def NmK:Nat->List Ex->Prop
 |0,_=>True
 |d+1,ks=> ∀(j:Nat) (k:Ex),ks[j]? =some k->k.name.length<=9223372036854775807/\NmK d k.kids
theorem D0: ∀d,NmK d []
 |0=>trivial
 |d+1=>fun j k h=>by simp at h
theorem Ce {k:Ex}{ks:List Ex}(h1:k.name.length<=9223372036854775807)(h2: ∀d,NmK d k.kids)(h3: ∀d,NmK d ks): ∀d,NmK d (k::ks)
 |0=>trivial
 |d+1=>fun j q h=>by
  cases j with
  |zero=>
   simp at h;subst h;exact⟨h1,h2 d⟩
  |succ j=>exact h3 (d+1) j q (by simpa using h)
theorem vt {B:Nat->Prop}: ∀{d:Nat} {w:World} {sl:Value} {ks:List Ex},dn B d w sl ks->NmK d ks->fD (fun k=>k<w.heap.size) d w sl ks
 |0,_,_,_,h,_=>h
 |d+1,w,sl,ks,h,hn=>by
  rcases h with h|⟨g,o,c,hB,hs,hl,hk⟩
  ·exact .inl h
  ·by_cases h0:ks=[]
   ·subst h0;exact .inl ⟨rfl,_,c,hs⟩
   ·obtain⟨k0,hk0⟩: ∃k,ks[0]? =some k:=by
     cases ks with
     |nil=>exact absurd rfl h0
     |cons x l=>exact⟨x,rfl⟩
    obtain⟨_,q0,_⟩:=hk 0 k0 hk0;refine .inr ⟨g,o,c,bT q0,hs,hl,fun j k hj=> ?_⟩;obtain⟨sk,c0,c1,c2,c3,c4,r⟩:=hk j k hj;obtain⟨n1,n2⟩:=hn j k hj;exact⟨n1,sk,c0,c1,c2,c3,c4,vt r n2⟩
def NmR (L:List Ru):Prop:= ∀p∈L,p.1.length<=9223372036854775807/\p.2.name.length<=9223372036854775807/\ ∀d,NmK d p.2.kids
theorem Dg {w0 w:World}{v:Value}{us:List (Ru×Value)}(h:mf w0 w v us)(hl:us.length<=40)(hn:NmR (us.map (fun p=>p.1))):InR w v us:=by
 refine⟨Bt h.own (by omega),by omega,fun p hp=> ?_⟩;obtain⟨d,hd⟩:=h.kids p hp;obtain⟨n1,n2,n3⟩:=hn p.1 (dw.2 ⟨p,hp,rfl⟩);exact⟨n1,n2,d,vt hd (n3 d)⟩
theorem FA (l:List UInt8):(firstT l).text.length<=20:=by
 unfold firstT kO oq mc kB jP bad;repeat' split
 all_goals simp
 all_goals omega
def NmX (e:Ex):Prop:=e.name.length<=20/\ ∀d,NmK d e.kids
theorem uM (k a b:Int){x:List UInt8}(h:x.length<=20):NmX ⟨k,a,b,x,[]⟩:=⟨h,D0⟩
theorem yL (k a b:Int){t:Ex}(h:NmX t):NmX ⟨k,a,b,[],[t]⟩:=⟨by simp,Ce (by have:=h.1;omega) h.2 D0⟩
theorem yM (k a b:Int){s t:Ex}(h:NmX s)(h':NmX t):NmX ⟨k,a,b,[],[s,t]⟩:=⟨by simp,Ce (by have:=h.1;omega) h.2 (yL k a b h').2⟩
def Gd (r:List Tk):Prop:= ∀q∈r,q.1.text.length<=20
theorem Gd.tl {r:List Tk}(h:Gd r):Gd r.tail:=fun q hq=>h q (List.mem_of_mem_tail hq)
theorem Gd.text {r:List Tk}(h:Gd r):(textP r).length<=20:=by
 cases r with
 |nil=>exact df _
 |cons p r=>exact h p bc
theorem Gd.shift {r:List Tk}(h:Gd r):Gd (fb r):=by
 unfold fb;split
 ·exact h.tl.tl
 ·exact h.tl
theorem ifo {c:Prop}[Decidable c]{α:Type}{x y z:α}(h:(if c then x else y)=z):x=z\/y=z:=by
 by_cases hc:c
 ·rw[ay hc]at h;exact .inl h
 ·rw[aw hc]at h;exact .inr h
theorem Iu (E:Nat): ∀(f m d:Nat) (e:Ex) (r:List Tk) (n:Nat) (e':Ex) (r':List Tk) (n':Nat),m<=8->(m=1\/m=3\/m=5->NmX e)->Gd r->goP E f m d e r n= .ok (e',r',n')->NmX e'/\Gd r'
 |0,m,d,e,r,n,e',r',n',_,_,_,h=>(dx h).elim
 |f+1,m,d,e,r,n,e',r',n',hm,he,hr,h=>by
  have ih:=Iu E f;match m,hm with
  |0,_=>
   rw[uf]at h;obtain⟨e1,r1,n1,h1,h2⟩:=dp h;have a:=ih 2 _ _ _ _ _ _ _ (by omega) (by omega) hr h1;exact ih 1 _ _ _ _ _ _ _ (by omega) (fun _=>a.1) a.2 h2
  |1,_=>
   rw[ug]at h;have he':=he (by omega);rcases ifo h with h|h
   ·obtain⟨e1,r1,n1,h1,h2⟩:=dp h;obtain⟨e2,r2,n2,h3,h4⟩:=dp h2;have a:=ih 2 _ _ _ _ _ _ _ (by omega) (by omega) hr.tl h1;cases dD h3;exact ih 1 _ _ _ _ _ _ _ (by omega) (fun _=>yM _ _ _ he' a.1) a.2 h4
   ·rcases ifo h with h|h
    ·obtain⟨e1,r1,n1,h1,h2⟩:=dp h;obtain⟨e2,r2,n2,h3,h4⟩:=dp h2;have a:=ih 2 _ _ _ _ _ _ _ (by omega) (by omega) hr.tl h1;cases dD h3;exact ih 1 _ _ _ _ _ _ _ (by omega) (fun _=>yM _ _ _ he' a.1) a.2 h4
    ·cases h;exact⟨he',hr⟩
  |2,_=>
   rw[ui]at h;obtain⟨e1,r1,n1,h1,h2⟩:=dp h;have a:=ih 4 _ _ _ _ _ _ _ (by omega) (by omega) hr h1;exact ih 3 _ _ _ _ _ _ _ (by omega) (fun _=>a.1) a.2 h2
  |3,_=>
   rw[uj]at h;have he':=he (by omega);rcases ifo h with h|h
   ·obtain⟨e1,r1,n1,h1,h2⟩:=dp h;obtain⟨e2,r2,n2,h3,h4⟩:=dp h2;have a:=ih 4 _ _ _ _ _ _ _ (by omega) (by omega) hr.tl h1;cases dD h3;exact ih 3 _ _ _ _ _ _ _ (by omega) (fun _=>yM _ _ _ he' a.1) a.2 h4
   ·cases h;exact⟨he',hr⟩
  |4,_=>
   rw[uk]at h;obtain⟨e1,r1,n1,h1,h2⟩:=dp h;have a:=ih 6 _ _ _ _ _ _ _ (by omega) (by omega) hr h1;exact ih 5 _ _ _ _ _ _ _ (by omega) (fun _=>a.1) a.2 h2
  |5,_=>
   rw[um]at h;have he':=he (by omega);rcases ifo h with h|h
   ·rcases ifo h with h|h
    ·exact(dx h).elim
    ·rcases ifo h with h|h
     ·exact(dx h).elim
     ·obtain⟨e2,r2,n2,h3,h4⟩:=dp h;cases dD h3;exact ih 5 _ _ _ _ _ _ _ (by omega) (fun _=>yL _ _ _ he') hr.shift.tl h4
   ·cases h;exact⟨he',hr⟩
  |6,_=>
   rw[uo]at h;rcases ifo h with h|h
   ·exact(dx h).elim
   ·rcases ifo h with h|h
    ·obtain⟨e1,r1,n1,h1,h2⟩:=dp h;have a:=ih 0 _ _ _ _ _ _ _ (by omega) (by omega) hr.tl h1;rcases ifo h2 with h2|h2
     ·cases h2;exact⟨a.1,a.2.tl⟩
     ·exact(dx h2).elim
    ·rcases ifo h with h|h
     ·cases dD h;exact⟨uM _ _ _ (by simp),hr.tl⟩
     ·rcases ifo h with h|h
      ·cases dD h;exact⟨uM _ _ _ (by simp),hr.tl⟩
      ·rcases ifo h with h|h
       ·exact ih 7 _ _ _ _ _ _ _ (by omega) (by omega) hr.tl h
       ·rcases ifo h with h|h
        ·rcases ifo h with h|h
         ·exact(dx h).elim
         ·rcases ifo h with h|h
          ·rcases ifo h with h|h
           ·exact(dx h).elim
           ·rcases ifo h with h|h
            ·exact(dx h).elim
            ·exact ih 8 _ _ _ _ _ _ _ (by omega) (by omega) hr.tl.tl.tl.tl h
          ·exact ih 8 _ _ _ _ _ _ _ (by omega) (by omega) hr.tl.tl h
        ·rcases ifo h with h|h
         ·cases dD h;exact⟨uM _ _ _ hr.text,hr.tl⟩
         ·rcases ifo h with h|h
          ·exact(dx h).elim
          ·rcases ifo h with h|h
           ·rcases ifo h with h|h
            ·exact(dx h).elim
            ·rcases ifo h with h|h
             ·exact(dx h).elim
             ·cases dD h;exact⟨uM _ _ _ (by simp),hr.tl.tl.tl⟩
           ·exact(dx h).elim
  |7,_=>
   rw[uq]at h;rcases ifo h with h|h
   ·exact(dx h).elim
   ·rcases ifo h with h|h
    ·exact ih 7 _ _ _ _ _ _ _ (by omega) (by omega) hr.tl.tl h
    ·exact ih 8 _ _ _ _ _ _ _ (by omega) (by omega) hr.tl h
  |8,_=>
   rw[ut]at h;rcases ifo h with h|h
   ·obtain⟨e1,r1,n1,h1,h2⟩:=dp h;have a:=ih 4 _ _ _ _ _ _ _ (by omega) (by omega) hr.tl h1;cases dD h2;exact⟨yL _ _ _ a.1,a.2⟩
   ·exact(dx h).elim
theorem Am (E:Nat): ∀(f:Nat) (acc:List Ru) (r:List Tk) {L:List Ru},Gd r->(∀u∈acc,u.1.length<=20/\NmX u.2)->iE E f acc r= .ok L-> ∀u∈L,u.1.length<=20/\NmX u.2
 |0,acc,r,L,_,ha,h=>by cases h;exact ha
 |f+1,acc,r,L,hr,ha,h=>by
  unfold iE at h;split at h
  ·cases h;exact ha
  ·split at h
   ·split at h
    ·cases h
    ·unfold oB at h;split at h
     ·cases h
     ·rename_i hq;split at hq
      ·cases hq
      ·split at hq
       ·split at hq
        ·cases hq
        ·rename_i h3;split at hq
         ·cases hq
         ·split at hq
          ·cases hq;have a:=Iu E _ 0 _ _ _ _ _ _ _ (by omega) (by omega) hr.tl.tl.tl h3
           exact Am E f _ _ a.2.tl (fun u hu=>by
            rcases bJ.1 hu with hu|hu
            ·exact ha u hu
            ·rw[bv.1 hu];exact⟨hr.tl.text,a.1⟩) h
          ·cases hq
       ·cases hq
   ·cases h
theorem FB {l:List UInt8}{ts:List Tk}{k:Nat}(h:eY l ts k):Gd ts:=by
 obtain⟨n,hn⟩:=h;refine eY.ind (M:=fun ts _=>Gd ts) (fun p hp=>by cases hp) ?_ n hn;intro ts k _ _ _ ih p hp;rcases bJ.1 hp with h|h
 ·exact ih p h
 ·rw[show p=(firstT (l.drop k),k) by simpa using h];exact FA _
theorem mf.rob {w0 w:World}{v:Value}{us:List (Ru×Value)}(h:mf w0 w v us)(hl:us.length<=40)(hn:NmR (us.map (fun p=>p.1))):Rob (fun q=>w0.heap.size<=q) (fun u=>InR u v us) w:=fun u _ ha=>
 Dg (w0:=w0) ⟨bp h.own fun b hb=>ha b (h.own.lt b hb).1 (h.own.lt b hb).2,fun p hp=>by
  obtain⟨d,hd⟩:=h.kids p hp;exact⟨d,hd.kept fun g hg hl=>ha g hg hl⟩⟩ hl hn
end Go.Proofs.YtjkilacmkbmmbaaGreatDoor
