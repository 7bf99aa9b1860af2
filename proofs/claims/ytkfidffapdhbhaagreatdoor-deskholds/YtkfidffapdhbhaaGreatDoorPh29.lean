/- Texts of the proof. -/
import Derived.Test.YtkfidffapdhbhaaGreatDoorPh28
set_option maxRecDepth 100000
set_option maxHeartbeats 8000000
namespace Go.Proofs.YtkfidffapdhbhaaGreatDoor
open Go.Proofs.Tryz Go.RowKit Lx Vx Mx Msk
section
theorem Mq (n c:Nat)(w:World):(binOp .eql 34 (.slice none n c) (af)).run prog w= .ok (.bool true) w:=by rfl
theorem NV (q:Addr)(n c:Nat)(w:World):(binOp .eql 34 (.slice (some q) n c) (af)).run prog w= .ok (.bool false) w:=by rfl
attribute [local go_sem] Mq NV
theorem xV (ns:List Int)(v:Value)(w:World)(h:dS w v ns)(hl:ns.length<=1000):Calls prog 39 #[v] w fun e w'=> ∃v',e= .returned v'/\w'.ownsRow w.heap.size 3 1 v' ns.length (dp ns)/\aq w w':=by
 have HK:=aG h;obtain⟨p,c,rfl,hq,hc⟩:=h;cases p with
 |none=>
  have hn:ns=[]:=by
   cases ns with
   |nil=>rfl
   |cons x l=>
    obtain⟨g,o,e,_⟩:=hc 0 x rfl;cases e
  subst hn;go_enter func39,ntmps39;go_wp2_with fail;go_ret;exact⟨_,rfl,cY _ _ _ _,aI _ _⟩
 |some q=>
  obtain⟨wA,hA,bA,nA⟩:=nb w #[] 3;have ho:=Ii wA nA w.heap.size (aB _);have hr:=HK.o.below bA;go_enter func39,ntmps39;go_wp2_with(first|(refine sX rfl rfl ?_;rw[hA])|(at_builtin;refine tU rfl _ _ rfl w.heap.size [] ns _ _ rfl ho rfl hr (by simp;omega) bA.size ?_))
  intro v' w' h1 h2;have hb:=bA.grown h2 bA.size (fun k hk=>(ho.lt k hk).1);obtain⟨p',c',hv⟩:=di h1;subst hv;go_wp2_with fail;go_ret;exact⟨_,rfl,h1,hb⟩
theorem Ij {w:World}{p:Option Addr}{n c:Nat}{ns:List Int}(h:dS w (.slice p n c) ns){j:Nat}(hj:j<=ns.length):dS w (.slice p j c) (ns.take j):=by
 obtain⟨p',c',e,hl,hc⟩:=h;injection e with e1 e3 e2;subst e1 e2;have hlen:(ns.take j).length=j:=by rw[eD];omega
 refine⟨p,c,by rw[hlen],by omega,fun k x hk=>hc k x ?_⟩;have hlt:=(aF.1 hk).1;rw[hlen]at hlt;rw[dI hlt]at hk;exact hk
theorem Ik {who:List Int}{roles:List (List Int)}{n j:Nat}{x:Int}{l:List Int}(hj:j<n)(hx:who[j]? =some x)(hl:roles[j]? =some l):ry who roles (n-j) j=if decide (x∈l)=false then 6 else if decide (x∈who.take j)=true then 7 else ry who roles (n-(j+1)) (j+1):=by
 rw[show n-j=(n-(j+1))+1 by omega];simp only[ry,List.getD,hx,hl,Option.getD_some];by_cases h1:x∈l<;>simp[h1]
theorem B5 (who:List Int)(roles:List (List Int))(p:Option Addr)(c:Nat)(rv:Value)(w:World)(h:dS w (.slice p who.length c) who)(hcap:who.length<=c)(hr:fk w rv roles):Calls prog 33 #[.slice p who.length c,rv] w fun e w'=>e= .returned (ag (j6 who roles))/\aq w w':=by
 have HW:=aG h;have HR:=aG hr;obtain⟨p0,c0,e0,hl,hc⟩:=h;injection e0 with e1 e3 e2;subst e1 e2;clear e3;obtain⟨q,cq,rfl,hlr,hcr⟩:=hr;obtain⟨n,hn⟩:=au who.length;obtain⟨m,hm⟩:=au roles.length;have HN:=aG hn;have HM:=aG hm;have HC:=aG hc;have HCR:=aG hcr;rw[hn]at HW hl hcap⊢;rw[hm]at HR hlr⊢;have hn1:(n:Int)<9223372036854775808:=by omega
 have hm1:(m:Int)<9223372036854775808:=by omega
 by_cases hnm:n=m
 ·have HE:PH (j6 who roles=ry who roles n 0):=by
   show _=_;unfold j6;rw[hn,hm,ax (by simpa using hnm)]
  subst hnm;clear hc hcr hn hm;go_enter func33,ntmps33;go_wp2_with fail;go_loopw [5,6,14] (fun _ _ t wr=> ∃j:Nat,t=ag (j:Int)/\j<=n/\aq w wr/\j6 who roles=ry who roles (n-j) j) (fun _ _ t _=>n-(intOf t).toNat);case atStart=>exact⟨0,rfl,by omega,aI _ _,HE.o⟩
  case round=>
   obtain⟨j,rfl,hj,hb,hX⟩:=hrel;have hj0:(0:Int)<=(j:Int):=(by omega);by_cases hjn:j<n
   ·have hjn':(j:Int)<(n:Int):=(by omega);have hjc:j<=n:=hj;obtain⟨x,hx⟩: ∃x,who[j]? =some x:=⟨who[j]'(by have:=HN.o;omega),az _⟩
    obtain⟨l,hl0⟩: ∃l,roles[j]? =some l:=⟨roles[j]'(by have:=HM.o;omega),az _⟩
    rw[Ik hjn hx hl0]at hX;obtain⟨g,o,e1,c1⟩:=HC.o j x hx;obtain⟨g2,o2,sv,e2,c2,hrow⟩:=HCR.o j l hl0;subst e1 e2;have d1:=aj hb c1;have d2:=aj hb c2;have k1:=jG l sv x wr (hrow.below hb);obtain⟨ps,cs,hsv,hq1,hq2⟩:=hrow;subst hsv;clear hq1 hq2;have HT:=aG (Ij HW.o (j:=j) (by have:=HN.o;omega));obtain⟨b1,hb1⟩:=au (decide (x∈l));obtain⟨b2,hb2⟩:=au (decide (x∈who.take j));rw[hb1]at k1 hX;rw[hb2]at hX;have HB2:=aG hb2;have HX:=aG hX;clear hX hb1 hb2 hx hl0 c1 c2;go_wp2_with fail;refine k1.mono ?_;rintro e w1 ⟨rfl,b1'⟩;have hbw:=aw hb b1';clear k1 d1 d2 b1' hb;cases b1 with
    |false=>
     have HY:PH (j6 who roles=6):=HX.o;clear HX;go_wp2_with fail;go_ret;exact⟨by rw[HY.o];rfl,hbw⟩
    |true=>
     have k2:=jG (who.take j) _ x w1 (HT.o.below hbw);rw[HB2.o]at k2;have hcp:(j:Int)<=(c:Int):=(by omega);go_wp2_with fail;refine k2.mono ?_;rintro e w2 ⟨rfl,b2'⟩;have hbw2:=aw hbw b2';clear k2 b2' hbw;cases b2 with
     |true=>
      have HY:PH (j6 who roles=7):=HX.o;clear HX;go_wp2_with fail;go_ret;exact⟨by rw[HY.o];rfl,hbw2⟩
     |false=>
      have HY:PH (j6 who roles=ry who roles (n-(j+1)) (j+1)):=HX.o;clear HX;go_wp2_with fail;go_roundw;case rel=>exact⟨j+1,by go_num,by omega,hbw2,HY.o⟩
      case measure=>simp[intOf];omega
   ·have hjn': ¬(j:Int)<(n:Int):=(by omega)
    have HY:PH (j6 who roles=0):=by
     show _=_;rw[hX,show n-j=0 by omega];rfl
    clear hX;go_wp2_with fail;go_ret;exact⟨by rw[HY.o];rfl,hb⟩
 ·have HE:PH (j6 who roles=5):=by
   show _=_;unfold j6;rw[hn,hm,aD hnm]
  have hne:((n:Int) !=(m:Int))=true:=(by simpa using(by omega: ¬(n:Int)=(m:Int)));clear hc hcr hn hm hnm HC HCR;go_enter func33,ntmps33;go_wp2_with fail;go_ret;exact⟨by rw[HE.o];rfl,aI _ _⟩
end
section
section
variable {B gD:Nat} {d d':Dk} {t t':Tr} {rv cv vv kv:Value} {ss ss':List (Sv×Value)} {aa aa':List (Ap×Value)} {w w':World}
theorem DkM.turn (h:DkM B gD d t rv cv vv kv ss aa w)(hk:Kd gD t t' w w')(hb:w'.heap[gD]? =ah #[rv,t'.ev,t'.sv,t'.av,cv,vv,ag d'.given,kv,ag d'.runs] 55)(e1:d'.rules=d.rules)(e2:d'.vers=d.vers)(e3:d'.kept=d.kept)
  (r1:w'.ownsRow B 9 1 t'.ev d'.res.length (d'.res.map kN)) (r2:w'.ownsRow B 41 4 t'.sv ss'.length (svF ss')) (r3:w'.ownsRow B 38 11 t'.av aa'.length (apF aa')) (q2:ss'.map (fun p=>p.1)=d'.svs) (q3:aa'.map (fun p=>p.1)=d'.aps)
  (p2: ∀p∈ss',p∈ss\/Rob (Fx gD t') (fun u=>fk u p.2 p.1.roles) w') (p3: ∀p∈aa',(∃a,(a,p.2)∈aa/\a.who=p.1.who)\/Rob (Fx gD t') (fun u=>dS u p.2 p.1.who) w'):DkM B gD d' t' rv cv vv kv ss' aa' w':=by
 refine⟨hb,h.lo,by rw[e1];exact hk.rob h.rules,by rw[e1];exact hk.rob h.codes,by rw[e2];exact hk.rob h.vers,by rw[e3];exact hk.rob h.kept,r1,r2,q2,fun p hp=> ?_,r3,q3,fun p hp=> ?_,fun q hq=> ?_⟩
 ·rcases p2 p hp with hp|hp
  ·exact hk.rob (h.svr p hp)
  ·exact hp
 ·rcases p3 p hp with⟨a,hp,e⟩|hp
  ·rw[<-e];exact hk.rob (h.apr (a,p.2) hp)
  ·exact hp
 ·rw[hk.xs]at hq;have hn:=h.nx q hq;have hg:=hk.gx q hn.1 hn.2.2;exact⟨aT hn.1 hk.size,hn.2.1,hg⟩
theorem B6 {k:Nat}{v:Value}(_:DkM B gD d t rv cv vv kv ss aa w){w1:World}{old:Value}(ho:old=t.ev\/old=t.sv\/old=t.av)(hg:w.grownBy w1 old.ownBlock)(hv:v.ownBlock=old.ownBlock\/v.ownBlock=some w.heap.size)(ht:(t'={t with ev:=v}/\old=t.ev)\/(t'={t with sv:=v}/\old=t.sv)\/(t'={t with av:=v}/\old=t.av)):Kd gD t t' w (w1.setCell ⟨gD,k,none⟩ v):=by
 have hne: ∀q,Gx gD t q->some q≠old.ownBlock:=fun q hq=>by
  rcases ho with rfl|rfl|rfl
  ·exact hq.2.1
  ·exact hq.2.2.1
  ·exact hq.2.2.2
 have hnv: ∀q,q<w.heap.size->Gx gD t q->some q≠v.ownBlock:=fun q hl hq=>by
  rcases hv with e|e
  ·rw[e];exact hne q hq
  ·rw[e];intro e;have:=aN e;omega
 refine⟨hg.os,hg.tape,hg.output,by simpa using hg.size,fun q hq hl=>((aO _ _ _ _ hq.1).trans (hg.block q hl (hne q hq))),fun q hl hq=> ?_,?_⟩
 ·rcases ht with⟨rfl,_⟩|⟨rfl,_⟩|⟨rfl,_⟩
  ·exact⟨hq.1,hnv q hl hq,hq.2.2.1,hq.2.2.2⟩
  ·exact⟨hq.1,hq.2.1,hnv q hl hq,hq.2.2.2⟩
  ·exact⟨hq.1,hq.2.1,hq.2.2.1,hnv q hl hq⟩
 ·rcases ht with⟨rfl,_⟩|⟨rfl,_⟩|⟨rfl,_⟩<;>rfl
theorem pj {b1 b2 T1 T2 s1 s2 n1 n2:Nat}{v1 v2:Value}{x1 x2:List Value}(h1:w.ownsRow b1 T1 s1 v1 n1 x1)(h2:w.ownsRow b2 T2 s2 v2 n2 x2)(hT:T1≠T2){b:Nat}(hb:v1.ownBlock=some b):v2.ownBlock≠some b:=by
 rcases h1.2 with⟨e,_⟩|⟨g,cap,cur,e,_,hg,_⟩
 ·rw[e]at hb;cases hb
 ·rw[e]at hb;have:g=b:=aN hb;subst this;exact iq h2 hg hT
theorem pV {T1 T2 s1 s2 n1 n2:Nat}{v1 v2:Value}{x1 x2:List Value}{k:Nat}{u:Value}{w1:World}(hblk: ∃c,w.heap[gD]? =ah c 55)(h1:w.ownsRow B T1 s1 v1 n1 x1)(h2:w.ownsRow B T2 s2 v2 n2 x2)(hT:T1≠T2)(hD:(55:Nat)≠T1)(hg:w.grownBy w1 v2.ownBlock):(w1.setCell ⟨gD,k,none⟩ u).ownsRow B T1 s1 v1 n1 x1:=by
 obtain⟨c,hblk⟩:=hblk;refine br h1 fun b hb=> ?_;exact(aO _ _ _ _ (fun e=>iq h1 hblk hD (by rw[hb,e]))).trans (hg.block b (h1.lt b hb).2 (fun e=>pj h1 h2 hT hb e.symm))
theorem xW {p:List Int}{n n':Int}(hn:n<=n'): ∀(m i:Nat),ng p n m i=0->ng p n' m i=0
 |0,_,_=>rfl
 |m+1,i,h=>by
  unfold ng at h⊢;split at h
  ·cases h
  ·rename_i h1;rw[ax (by omega)];split at h
   ·cases h
   ·rename_i h2;rw[ax h2];exact xW hn m (i+1) h
theorem vo {n n':Int}(hn:n<=n'): ∀(l:List (List Int)),kI n l=0->kI n' l=0
 |[],_=>rfl
 |p::l,h=>by
  unfold kI at h⊢;by_cases h1:iL p n=0
  ·rw[ax (by simpa using h1)]at h
   have h2:iL p n'=0:=by
    unfold iL at h1⊢;split at h1
    ·cases h1
    ·rename_i h3;rw[ax h3];exact xW hn _ _ h1
   rw[ax (by simpa using h2)];exact vo hn l h
  ·rw[aD h1]at h;exact absurd h h1
theorem C6 {s:Sv}{n n':Int}(hn:n<=n')(h:fq s n=0):fq s n'=0:=by
 unfold fq at h⊢;split at h
 ·cases h
 ·rename_i h1;rw[ax h1];split at h
  ·cases h
  ·rename_i h2;rw[ax h2];exact vo hn _ h
def rC (B:Nat)(w:World)(v:Value)(l:List Int):Prop:=dS w v l/\(∀p n k,v= .slice p n k->n<=k)/\ ∀b,v.ownBlock=some b->B<=b
def qF (B gD:Nat)(p:An×Dk)(t:Tr)(w:World)(e:Ending)(w':World):Prop:= ∃(t':Tr) (wv lv:Value),e= .returned (.agg (anC p.1 wv lv))/\dt B gD p.2 t' w'/\Kd gD t t' w w'/\Rob (Fx gD t') (fun u=>rC B u wv p.1.who) w'/\Rob (Fx gD t') (fun u=>dS u lv p.1.list) w'
theorem et (P:Nat->Prop)(w:World):Rob P (fun u=>dS u (af) []) w:=fun u _ _=>⟨none,0,rfl,by simp,fun j n hj=>by simp at hj⟩
theorem fd {B:Nat}(P:Nat->Prop)(w:World):Rob P (fun u=>rC B u (af) []) w:=fun u _ _=>⟨⟨none,0,rfl,by simp,fun j n hj=>by simp at hj⟩,(fun p n k e=>by cases e;exact aB _),fun b e=>by cases e⟩
theorem fB {q:Nat}{W:World}(hd:dt B gD d (t'.add q) W)(hk:Kd gD t t' w W)(hq:w.heap.size<=q)(c:Array Value):dt B gD d t' (W.setRow q c)/\Kd gD t t' w (W.setRow q c):=
 ⟨hd.closed (by simp) fun k _ hne=>aV _ _ _ _ hne,hk.closed hq rfl rfl rfl (by simp) fun k _ hne=>aV _ _ _ _ hne⟩
theorem Pq:(prog.info? 9).map (fun i=>(i.zero,i.size,i.bytes))=some (some (.string ⟨#[]⟩),1,16):=by kernel_rfl
theorem OW:prog.underlying 25=some (.slice 9):=by kernel_rfl
theorem Fl (x:List UInt8)(w:World)(h:dt B gD d t w)(hx:x.length<=9223372036854775807):Calls prog 12 #[ab gD 0,kN x] w (qF B gD (rz d x) t w):=by
 obtain⟨wA,hA,bA,nA⟩:=nb w #[ag 0,ag 0,ag 0,ag 0,af,af] 47;have hsA:wA.heap.size=w.heap.size+1:=by rw[<-hA];simp
 have hdA:=h.opened (aB _) hsA bA;have HDA:=aG hdA;obtain⟨hok,rv,cv,vv,kv,ss,aa,hm⟩:=hdA;obtain⟨pe,ce,hev⟩:=di hm.res;obtain⟨n,hn⟩:=au d.res.length
 have z1:wA.cell? (ae gD 1)=some (.slice pe n ce):=by
  have:=cr (v:=t.ev) 1 hm.blk rfl;rw[this,<-hn];exact congrArg some hev
 have hn12:n<=12:=by rw[<-hn];exact hok.rl
 have HN:=aG hn;have cR:=fun(e:Int) (W:World)=>eZ e W;have HBA:=aG bA;have HEV:PH (t.ev= .slice pe n ce):=by show _=_;rw[<-hn];exact hev
 have HM:=aG hm;have HX:=aG hx;have HOK:=aG hok;unfold kN;by_cases h12:12<=n
 ·have h12':(12:Int)<=(n:Int):=by omega
  have HP:PH (rz d x=(noA 5,d)):=(by show _=_;unfold rz;rw[aD (by rw[HN.o];exact h12)]);go_enter func12,ntmps12;go_wp2_with fail;refine(cR 5 wA).mono ?_;rintro e w1 ⟨rfl,b1⟩;have n1:=bt b1 nA;have hb:=aw HBA.o b1;have HO:=aG (fB (HDA.o.below b1) (Kd.of (t:=t) (gD:=gD) hb) (aB _) (anC (noA 5) (af) (af)));have HR:=aG (aL _ _ _ (anC (noA 5) (af) (af)) _ _ n1);go_wp2_with(refine ay rfl 47 _ _ rfl _ _ rfl rfl _ _ n1 (by kernel_rfl) rfl (by simp[anC,Value.oneCell']) ?_)
  refine aW (v:= .agg (anC (noA 5) (af) (af))) ?_ rfl ?_
  ·exact bc rfl _ _ w.heap.size _ _ _ _ rfl HR.o anT rfl (by kernel_rfl)
  ·rw[HP.o];exact⟨t,_,_,rfl,HO.o.1,HO.o.2,fd _ _,et _ _⟩
 ·have h12': ¬(12:Int)<=(n:Int):=by omega
  have cC:=xT x wA HDA.o;unfold kN at cC;obtain⟨k,hk⟩:=au (atP5 d.rules x);rw[hk]at cC;have HK:=aG hk;go_enter func12,ntmps12;go_wp2_with fail;refine cC.mono ?_;rintro e w1 ⟨rfl,b1⟩;have n1:=bt b1 nA;have HB1:=aG (aw HBA.o b1);have HD1:=aG (HDA.o.below b1);have HM1:=aG (HM.o.below b1);have z1':=aj b1 z1;by_cases hk0:k<0
  ·have HP:PH (rz d x=(noA 7,d)):=(by show _=_;unfold rz;rw[ax (by rw[HN.o];exact h12),HK.o,aD hk0]);have cR7:=cR 7 w1;go_wp2_with fail;refine cR7.mono ?_;rintro e w2 ⟨rfl,b2⟩;have n2:=bt b2 n1;have hb:=aw HB1.o b2;have HO:=aG (fB (HD1.o.below b2) (Kd.of (t:=t) (gD:=gD) hb) (aB _) (anC (noA 7) (af) (af)));have HR:=aG (aL _ _ _ (anC (noA 7) (af) (af)) _ _ n2);go_wp2_with(refine ay rfl 47 _ _ rfl _ _ rfl rfl _ _ n2 (by kernel_rfl) rfl (by simp[anC,Value.oneCell']) ?_)
   refine aW (v:= .agg (anC (noA 7) (af) (af))) ?_ rfl ?_
   ·exact bc rfl _ _ w.heap.size _ _ _ _ rfl HR.o anT rfl (by kernel_rfl)
   ·rw[HP.o];exact⟨t,_,_,rfl,HO.o.1,HO.o.2,fd _ _,et _ _⟩
  ·have HP:PH (rz d x=(iV n,{d with res:=d.res++[x]})):=(by show _=_;unfold rz;rw[ax (by rw[HN.o];exact h12),HK.o,ax hk0,HN.o]);obtain⟨wB,hB,bB,nB⟩:=nb w1 #[.string ⟨x.toArray⟩] 9;have hmB:=HM1.o.below bB
   have hres:wB.ownsRow B 9 1 (.slice pe n ce) n (d.res.map kN):=by
    have:=hmB.res;rw[HN.o]at this;rw[<-HEV.o];exact this
   have hbB:B<=wB.heap.size:=(by have:=hmB.lo;have:=aH hmB.blk;omega);have HMB:=aG hmB;have HBB:=aG (aw HB1.o bB);have nB1:=bt bB n1;go_wp2_with(at_builtin;refine iA rfl _ _ 25 9 rfl OW Pq rfl (by decide) (by decide) rfl hres rfl nB rfl (by simp[Value.oneCell']) (by omega) hbB ?_)
   rintro v' w2 hown hgr hblk g4 c4 rfl;have hblkB:=HMB.o.blk;have hnx:=HMB.o.nx w.heap.size (bq ..)
   have hgr':wB.grownBy w2 (t.add w.heap.size).ev.ownBlock:=by
    show wB.grownBy w2 t.ev.ownBlock;rw[HEV.o];exact hgr
   have hkd:Kd gD (t.add w.heap.size) (({t with ev:= .slice (some (ae g4 0)) (n+1) c4}:Tr).add w.heap.size) wB (w2.setCell ⟨gD,1,none⟩ (.slice (some (ae g4 0)) (n+1) c4)):=B6 HMB.o (.inl rfl) hgr' (by show _=t.ev.ownBlock\/_;rw[HEV.o];exact hblk) (.inl ⟨rfl,rfl⟩);have blk2:=(hgr'.block gD (aH hblkB) (fun e=>iq HMB.o.res hblkB (by decide) e.symm)).trans hblkB;have blk3:=aY w2 gD 1 _ _ (.slice (some (ae g4 0)) (n+1) c4) blk2;have y1:=cr 1 blk2 rfl;have x1:=bl _ _ 1 _ _ blk2;have n3:=(hkd.blk w.heap.size hnx.2.2 (aH nB1)).trans nB1
   have hm3:DkM B gD {d with res:=d.res++[x]} (({t with ev:= .slice (some (ae g4 0)) (n+1) c4}:Tr).add w.heap.size) rv cv vv kv ss aa (w2.setCell ⟨gD,1,none⟩ (.slice (some (ae g4 0)) (n+1) c4)):=by
    refine HMB.o.turn hkd blk3 rfl rfl rfl ?_ (pV ⟨_,hblkB⟩ HMB.o.svs HMB.o.res (by decide) (by decide) hgr') (pV ⟨_,hblkB⟩ HMB.o.aps HMB.o.res (by decide) (by decide) hgr') HMB.o.sve HMB.o.ape (fun p hp=> .inl hp) (fun p hp=> .inl ⟨p.1,hp,rfl⟩);refine br ?_ fun b hb=>aO w2 ⟨gD,1,none⟩ b _ (fun e=>iq hown blk2 (by decide) (by rw[<-show b=gD from e];exact hb));show w2.ownsRow B _ 1 (.slice (some (ae g4 0)) (n+1) c4) (d.res++[x]).length ((d.res++[x]).map kN);rw[aP,HN.o,dT];exact hown
   have hok:=HOK.o;have hl1:((d.res++[x]).length:Int)=(d.res.length:Int)+1:=(by simp)
   have hd3:dt B gD {d with res:=d.res++[x]} (({t with ev:= .slice (some (ae g4 0)) (n+1) c4}:Tr).add w.heap.size) (w2.setCell ⟨gD,1,none⟩ (.slice (some (ae g4 0)) (n+1) c4)):=⟨⟨hok.flt,hok.vl,hok.kl,by show(d.res++[x]).length<=12;rw[aP,HN.o];simp;omega,hok.sl,hok.al,hok.gv,fun y hy=>by
    rcases bU.1 hy with hy|hy
    ·exact hok.nm y hy
    ·rw[bT.1 hy];exact HX.o,fun s hs=>C6 (by show(d.res.length:Int)<=((d.res++[x]).length:Int);omega) (hok.sv s hs),fun a ha=>by
    obtain⟨q1,q2,q3,q4,q5,q6,q7⟩:=hok.ap a ha;exact⟨q1,q2,q3,q4,q5,q6,fun r hr=>⟨(q7 r hr).1,by have:=(q7 r hr).2;show r<((d.res++[x]).length:Int);omega⟩⟩⟩,_,_,_,_,_,_,hm3⟩
   have hkw:=Kd.opened HBB.o hkd;have HO:=aG (fB hd3 hkw (aB _) (anC (iV n) (af) (af)));have y3:=cr 1 blk3 rfl;generalize hw3:w2.setCell ⟨gD,1,none⟩ (.slice (some (ae g4 0)) (n+1) c4)=w3 at*;have HR:=aG (aL _ _ _ (anC (iV n) (af) (af)) _ _ n3);have hw1:IntKind.i64.wrap ((n:Int)+1-1)=(n:Int):=(by rw[bG];omega);have y3':w3.cell? (ae gD 1)=some (.slice (some (ae g4 0)) (n+1) c4):=y3;go_wp2_with(refine ay rfl 47 _ _ rfl _ _ rfl rfl _ _ n3 (by kernel_rfl) rfl (by simp[Value.oneCell']) ?_)
   refine aW (v:= .agg (anC (iV n) (af) (af))) ?_ rfl ?_
   ·exact bc rfl _ _ w.heap.size _ _ _ _ rfl HR.o anT rfl (by kernel_rfl)
   ·rw[HP.o];exact⟨_,_,_,rfl,HO.o.1,HO.o.2,fd _ _,et _ _⟩
end
end
section
def tV (c:Array Value):Nat->List Value->Array Value
 |_,[]=>c
 |o,v::vs=>tV (c.setIfInBounds o v) (o+1) vs
theorem Ag: ∀(vs:List Value) (c:Array Value) (o:Nat),(tV c o vs).size=c.size
 |[],_,_=>rfl
 |v::vs,c,o=>by rw[tV,Ag vs,gS]
theorem DS: ∀(vs:List Value) (c:Array Value) (o k:Nat),o+vs.length<=c.size->(tV c o vs)[k]? =if o<=k/\k<o+vs.length then vs[k-o]? else c[k]?
 |[],c,o,k,_=>by rw[ax (by rintro⟨h1,h2⟩;rw[gJ]at h2;omega)];rfl
 |v::vs,c,o,k,h=>by
  rw[bJ]at h;rw[tV,DS vs _ (o+1) k (by rw[gS];omega),bJ];by_cases h1:o+1<=k/\k<o+1+vs.length
  ·rw[aD h1,aD (by omega),show k-o=(k-(o+1))+1 by omega,List.getElem?_cons_succ]
  ·rw[ax h1];by_cases h2:k=o
   ·subst h2;rw[aD (by omega),gy (by omega),iN];rfl
   ·rw[ax (by omega),dm (by omega)]
theorem tW {g:Nat}{T:TypeId}: ∀(vs:List Value) (o:Nat) (w:World) (c:Array Value),w.heap[g]? =ah c T->(w.setCells g o vs).heap[g]? =ah (tV c o vs) T
 |[],_,_,_,h=>h
 |v::vs,o,w,c,h=>by
  rw[World.setCells,tV];exact tW vs (o+1) _ _ (aY w g o _ _ v h)
theorem eO (g:Nat): ∀(vs:List Value) (o:Nat) (w:World),(w.setCells g o vs).os=w.os/\(w.setCells g o vs).tape=w.tape/\(w.setCells g o vs).output=w.output/\(w.setCells g o vs).heap.size=w.heap.size
 |[],_,_=>⟨rfl,rfl,rfl,rfl⟩
 |v::vs,o,w=>by
  rw[World.setCells];obtain⟨h1,h2,h3,h4⟩:=eO g vs (o+1) (w.setCell ⟨g,o,none⟩ v);exact⟨h1,h2,h3,h4.trans (by simp)⟩
theorem oF {α:Type}{m:Nat}{f:α->Array Value}(hf: ∀p,(f p).size=m): ∀l:List α,(l.flatMap fun p=>(f p).toList).length=l.length*m
 |[]=>by simp
 |x::l=>by rw[List.flatMap_cons,aP,oF hf l,bQ,hf,bJ,Nat.add_mul];omega
theorem DT {α:Type}{m base e:Nat}{f:α->Array Value}{w:World}{v:Value}{l:List α}(hm:0<m)(hf: ∀p,(f p).size=m)(h:w.ownsRow base e m v l.length (l.flatMap fun p=>(f p).toList)){j g:Nat}{p:α}(hj:j<l.length)(hg:v.ownBlock=some g):(w.setCells g (j*m) (f p).toList).ownsRow base e m v (l.set j p).length ((l.set j p).flatMap fun p=>(f p).toList):=by
 rcases h.2 with⟨e0,_⟩|⟨g',cap,cur,e0,hb,hh,hn,hc,hs,ht⟩
 ·rw[e0]at hg;cases hg
 ·rw[e0]at hg;have:g'=g:=aN hg;subst this
  have hjm:j*m+m<=l.length*m:=by
   have:(j+1)*m<=l.length*m:=Nat.mul_le_mul_right m hj;rw[Nat.add_mul,Nat.one_mul]at this;exact this
  have hcm:l.length*m<=cap*m:=Nat.mul_le_mul_right m hn;refine⟨oF hf _,.inr ⟨g',cap,tV cur (j*m) (f p).toList,by rw[jz];exact e0,hb,tW _ _ _ _ hh,by rw[jz];exact hn,hc,by rw[Ag];exact hs,?_⟩⟩;rw[jz];apply List.ext_getElem?;intro k;by_cases hk:k<l.length*m
  ·rw[dI hk,bp,DS _ _ _ _ (by rw[bQ,hf];omega),bQ,hf];have hq:k=(k/m)*m+k%m:=(by rw[Nat.mul_comm];exact(Nat.div_add_mod k m).symm);have hr:k%m<m:=Nat.mod_lt _ hm;have hd:k/m<l.length:=(Nat.div_lt_iff_lt_mul hm).2 hk;by_cases hin:j*m<=k/\k<j*m+m
   ·rw[aD hin]
    have ej:k/m=j:=by
     apply Nat.div_eq_of_lt_le
     ·exact hin.1
     ·rw[Nat.succ_mul];exact hin.2
    have hset:(l.set j p)[j]? =some p:=(by rw[fh hj]);have:=oD hf hset (k-j*m) (by omega);rw[show j*m+(k-j*m)=k by omega]at this;rw[this,<-bp]
   ·rw[ax hin]
    have hne:k/m≠j:=fun ej=>by
     rw[ej]at hq;omega
    obtain⟨x,hx⟩: ∃x,l[k/m]? =some x:=⟨l[k/m],az hd⟩
    have h1:=oD hf hx (k%m) hr;have h2:=oD hf (show(l.set j p)[k/m]? =some x by rw[fJ (fun e=>hne e.symm)];exact hx) (k%m) hr;rw[<-hq]at h1 h2;rw[h2,<-h1,<-ht,dI hk,bp]
  ·rw[eV (by rw[eD];omega),eV (by rw[oF hf,jz];omega)]
section
variable {B gD:Nat} {d:Dk} {t:Tr} {w:World}
theorem DkM.setAp {rv cv vv kv:Value}{ss:List (Sv×Value)}{aa:List (Ap×Value)}(h:DkM B gD d t rv cv vv kv ss aa w){j g:Nat}(hj:j<aa.length)(hg:t.av.ownBlock=some g)(p:Ap×Value)(hp:(∃a,(a,p.2)∈aa/\a.who=p.1.who)\/Rob (Fx gD t) (fun u=>dS u p.2 p.1.who) w):
  DkM B gD {d with aps:=d.aps.set j p.1} t rv cv vv kv ss (aa.set j p) (w.setCells g (j*11) (apC p).toList)/\Kd gD t t w (w.setCells g (j*11) (apC p).toList):=by
 have hput:=DT (p:=p) (by decide) sH h.aps hj hg;have ho: ∀q,q≠g->(w.setCells g (j*11) (apC p).toList).heap[q]? =w.heap[q]? :=fun q hq=>fz g _ _ w q hq;obtain⟨k1,k2,k3,hs⟩:=eO g (apC p).toList (j*11) w;have hk:Kd gD t t w (w.setCells g (j*11) (apC p).toList):=⟨k1,k2,k3,jV hs.symm,fun q hq _=>ho q (fun e=>hq.2.2.2 (by rw[e];exact hg.symm)),fun _ _ h=>h,rfl⟩
 generalize w.setCells g (j*11) (apC p).toList=w' at*;refine⟨h.turn hk ((ho gD (fun e=>iq h.aps h.blk (by decide) (by rw[hg,e]))).trans h.blk) rfl rfl rfl ?_ ?_ ?_ h.sve ?_ (fun p hp=> .inl hp) (fun q hq=> ?_),hk⟩
 ·exact br h.res fun b hb=>ho b (fun e=>pj h.res h.aps (by decide) hb (by rw[hg,e]))
 ·exact br h.svs fun b hb=>ho b (fun e=>pj h.svs h.aps (by decide) hb (by rw[hg,e]))
 ·exact hput
 ·show(aa.set j p).map (fun p=>p.1)=d.aps.set j p.1;rw[List.map_set,h.ape]
 ·rcases List.mem_or_eq_of_mem_set hq with hq|rfl
  ·exact .inl ⟨q.1,hq,rfl⟩
  ·rcases hp with hp|hp
   ·exact .inl hp
   ·exact .inr (hk.rob hp)
end
end
section
theorem C7 {w w':World}{g o n:Nat}(h:w.there g o n)(hb:aq w w'):w'.there g o n:=fun j hj=>by
 obtain⟨v,hv⟩:=Option.isSome_iff_exists.1 (h j hj).1;have hl:=bP hv;exact⟨Option.isSome_iff_exists.2 ⟨v,(hb.cell hl).trans hv⟩,(hb.frozen hl).trans (h j hj).2⟩
theorem Il (k:Int)(a:Ap):(fg k a).who=a.who:=by
 unfold fg eX;split
 ·rfl
 ·split<;>rfl
def lr (d:Dk)(k:Int)(j:Nat):Dk:={d with aps:=(d.aps.take j).map (fg k)++d.aps.drop j}
theorem v6 {d:Dk}{k:Int}{j:Nat}{a:Ap}(h:d.aps[j]? =some a):(lr d k j).aps[j]? =some a:=by
 have hj:=(aF.1 h).1;unfold lr;dsimp only;rw[dh (by simp;omega)];simp[fj (Nat.le_of_lt hj),h]
theorem xX {d:Dk}{k:Int}{j:Nat}{a:Ap}(h:d.aps[j]? =some a):({lr d k j with aps:=(lr d k j).aps.set j (fg k a)}:Dk)=lr d k (j+1):=by
 obtain⟨hj,e⟩:=aF.1 h;unfold lr;dsimp only;congr 1;rw[List.set_append_right _ _ (by simp;omega),bv hj,e];simp only[ba,eD,fj (Nat.le_of_lt hj),iN,aJ];rw[fD,h];simp
theorem Mr {d:Dk}{k:Int}{j:Nat}{a:Ap}(h:tR d)(hk:0<=k)(ha:d.aps[j]? =some a):tR {d with aps:=d.aps.set j (fg k a)}:=by
 refine⟨h.flt,h.vl,h.kl,h.rl,h.sl,by simpa using h.al,h.gv,h.nm,h.sv,fun b hb=> ?_⟩;rcases List.mem_or_eq_of_mem_set hb with hb|rfl
 ·exact h.ap b hb
 ·have:=h.ap a (aM ha);unfold fg eX;split
  ·exact this
  ·split
   ·exact⟨this.1,this.2.1,⟨gX _,by show(0:Int)<=10;omega⟩,this.2.2.2⟩
   ·exact⟨this.1,this.2.1,⟨by dsimp only;omega,by dsimp only;have:=this.2.2.1;omega⟩,this.2.2.2⟩
def B7 (wX:World)(g o:Nat)(c:Array Value)(i:Nat)(M:Nat->Bool)(_:Nat->Value)(W:World):Prop:=
 (M i=false->aq wX W)/\(M i=true-> ∃W0,aq wX W0/\Below W0.heap.size (W0.setCells g o c.toList) W)
theorem B7.on {wX:World}{g o i:Nat}{c:Array Value}(M:Nat->Bool)(φ:Nat->Value)(W W':World)(hb:aq W W')(h:B7 wX g o c i M φ W):B7 wX g o c i M φ W':=by
 refine⟨fun x=>(h.1 x).trans (hb.mono (h.1 x).size),fun x=> ?_⟩;obtain⟨W0,h1,h2⟩:=h.2 x;exact⟨W0,h1,h2.trans (hb.mono (by have:=h2.size;rw[(eO _ _ _ _).2.2.2]at this;exact this))⟩
theorem tX {m base e n:Nat}{w:World}{v:Value}{xs:List Value}(h:w.ownsRow base e m v n xs){j g c:Nat}(hj:j<n)(hv:v= .slice (some (ae g 0)) n c):w.there g (j*m) m:=fun k hk=>by
 rcases h.2 with⟨_,h2⟩|⟨g',cap,cur,e0,_,hh,hn,_,hs,_⟩
 ·omega
 ·rw[hv]at e0;injection e0 with e1 _ _;injection e1 with e1;injection e1 with e1;subst e1;have h1:(j+1)*m<=cap*m:=Nat.mul_le_mul_right m (by omega);rw[Nat.add_mul,Nat.one_mul]at h1;refine⟨?_,bl _ _ _ _ _ hh⟩;rw[aZ _ _ _ _ _ _ hh,fQ (by omega)];rfl
theorem Kj {α:Type}{l:List α}{j:Nat}{a:α}(h:l[j]? =some a):l.set j a=l:=by
 apply List.ext_getElem?;intro i;by_cases e:j=i
 ·subst e;rw[fh (aF.1 h).1,h]
 ·rw[fJ e]
section
variable {B gD:Nat} {d:Dk} {t:Tr}
theorem Kk (k:Int)(w:World)(h:dt B gD d t w):Calls prog 22 #[ab gD 0,ag k] w (qF B gD (qU d k) t w):=by
 obtain⟨wA,hA,bA,nA⟩:=nb w #[ag 0,ag 0,ag 0,ag 0,af,af] 47;have hsA:wA.heap.size=w.heap.size+1:=by rw[<-hA];simp
 have hdA:=h.opened (aB _) hsA bA;have HDA:=aG hdA;have HBA:=aG bA;have H0:=aG h;obtain⟨hok,rv,cv,vv,kv,ss,aa,hm⟩:=hdA;have hla:aa.length=d.aps.length:=by rw[<-hm.ape,ba]
 obtain⟨n,hn⟩:=au d.aps.length;obtain⟨pa,ca,hav⟩:=di hm.aps;rw[hla,hn]at hav;have hav':t.av= .slice pa n ca:=hav
 have z3:wA.cell? (ae gD 3)=some (.slice pa n ca):=by
  have:=cr (v:=t.av) 3 hm.blk rfl;rw[this,hav']
 have hn30:n<=30:=by rw[<-hn];exact hok.al
 have HN:=aG hn;have HAV0:=aG hav';have HOK:=aG hok;have hwA:w.heap.size<wA.heap.size:=by omega
 clear h hm hla hn hav hav' hok hsA bA;by_cases hk:k<0\/1000<k
 ·have HP:PH (qU d k=(noA 3,d)):=by show _=_;unfold qU;rw[aD hk]
  have cR:=eZ 3 wA;have hkk:k<0\/ ¬k<0/\1000<k:=(by omega);clear hk
  rcases hkk with hk1|⟨hk1,hk2⟩<;>
   (go_enter func22,ntmps22
    go_wp2_with fail
    refine cR.mono ?_
    rintro e w1 ⟨rfl,b1⟩
    have n1:=bt b1 nA
    have hb:=aw HBA.o b1
    have HO:=aG (fB (HDA.o.below b1) (Kd.of (t:=t) (gD:=gD) hb) (aB _) (anC (noA 3) (af) (af)))
    have HR:=aG (aL _ _ _ (anC (noA 3) (af) (af)) _ _ n1)
    clear cR z3 b1 hb nA
    go_wp2_with(refine ay rfl 47 _ _ rfl _ _ rfl rfl _ _ n1 (by kernel_rfl) rfl (by simp[anC,Value.oneCell']) ?_)
    refine aW (v:= .agg (anC (noA 3) (af) (af))) ?_ rfl ?_
    ·exact bc rfl _ _ w.heap.size _ _ _ _ rfl HR.o anT rfl (by kernel_rfl)
    ·rw[HP.o]
     exact⟨t,_,_,rfl,HO.o.1,HO.o.2,fd _ _,et _ _⟩)
 ·have hk1: ¬k<0:=fun e=>hk (.inl e);have hk2: ¬1000<k:=fun e=>hk (.inr e);have HKB:PH (0<=k):=(by show(0:Int)<=k;omega)
  have HP:PH (qU d k=(noA 0,lr d k n)):=by
   show _=_;unfold qU lr;rw[ax hk,cj (by rw[HN.o];exact aB _),df (by rw[HN.o];exact aB _),ik]
  clear hk;go_enter func22,ntmps22;go_wp2_with fail;clear hA z3;go_loopw [5,6,20] (fun _ _ q wr=> ∃j:Nat,q=ag (j:Int)/\j<=n/\dt B gD (lr d k j) (t.add w.heap.size) wr/\Kd gD (t.add w.heap.size) (t.add w.heap.size) wA wr) (fun _ _ q _=>n-(intOf q).toNat);case atStart=>exact⟨0,rfl,by omega,HDA.o,Kd.of (aI _ _)⟩
  case round=>
   obtain⟨j,rfl,hj,hd,hkd⟩:=hrel;have hj0:(0:Int)<=(j:Int):=(by omega);by_cases hjn:j<n
   ·have hjn':(j:Int)<(n:Int):=(by omega);obtain⟨a,ha⟩: ∃a,d.aps[j]? =some a:=⟨d.aps[j]'(by have:=HN.o;omega),az _⟩
    have hlj:(lr d k j).aps.length=n:=(by unfold lr;simp;have:=HN.o;omega);have hav:(lr d k j).aps[j]? =some a:=v6 ha;obtain⟨a',pw,cw,ga,ca',ha',hva,_,hrg,hrob⟩:=DkM.ap hd.2 (j:=j) (by omega);rw[hav]at ha';have:a=a':=aN ha';subst this;rw[hlj]at hva;have hva':t.av= .slice (some (ae ga 0)) n ca':=hva;have e0:=HAV0.o.symm.trans hva';injection e0 with e1 e3 e2;subst e1 e2;clear e3 ha' hva;obtain⟨wZ,wB,hZ,nZ,hB,bB,nB⟩:=nbs wr apZ (apC (a,.slice pw a.who.length cw)) 38;unfold apZ at hZ nZ;obtain⟨gx,hgx⟩:=au wr.heap.size;have hsB:wB.heap.size=gx+1:=(by rw[<-hB,<-hZ,<-hgx];simp);rw[hgx]at nZ hB;have hdB:=hd.opened (q:=gx) (by omega) hsB bB;have y0:wB.cell? (ae gx 0)=some (ag a.st):=(by rw[<-hgx];exact cr 0 nB rfl);have y1:wB.cell? (ae gx 1)=some (ag a.left):=(by rw[<-hgx];exact cr 1 nB rfl);have hap:=hd.1.ap a (aM hav);have hl0:=hap.2.2.1;have HA:=aG ha;have HLJ:=aG hlj;have HAV:=aG hva';have HGX:=aG hgx;have HBB:=aG bB;have HD:=aG hd;have HDB:=aG hdB;have HKD:=aG hkd;have HRB:=aG hrob;have HSB:=aG hsB;have hgxn:gx<wB.heap.size:=(by omega);clear hap hd hkd hrob hsB hdB bB ha hlj hva' hav;by_cases hst:a.st=1
    ·have hst':(a.st !=1)=false:=(by rw[hst];rfl);have HST:=aG hst;clear hst;have hwr:IntKind.i64.wrap (a.left-k)=a.left-k:=(by rw[bG];omega);have nB':wB.heap[gx]? =ah (apC (a,.slice pw a.who.length cw)) 38:=(by rw[<-HGX.o];exact nB);have x1:=bl _ _ 1 _ _ nB';have nC:(wB.setCell ⟨gx,1,none⟩ (ag (a.left-k))).heap[gx]? =ah (apC ({a with left:=a.left-k},.slice pw a.who.length cw)) 38:=aY wB gx 1 _ _ _ nB';have oC: ∀q,q≠gx->(wB.setCell ⟨gx,1,none⟩ (ag (a.left-k))).heap[q]? =wB.heap[q]? :=fun q hq=>aO _ _ _ _ hq;have sC:(wB.setCell ⟨gx,1,none⟩ (ag (a.left-k))).heap.size=wB.heap.size:=(by simp);have kC:(wB.setCell ⟨gx,1,none⟩ (ag (a.left-k))).os=wB.os/\(wB.setCell ⟨gx,1,none⟩ (ag (a.left-k))).tape=wB.tape/\(wB.setCell ⟨gx,1,none⟩ (ag (a.left-k))).output=wB.output:=⟨rfl,rfl,rfl⟩
     generalize hwC:wB.setCell ⟨gx,1,none⟩ (ag (a.left-k))=wC at*;have y1C:wC.cell? (ae gx 1)=some (ag (a.left-k)):=cr 1 nC rfl
     have HFIN:PH (∀wX:World,wB.heap.size<=wX.heap.size->(∀q,q<wB.heap.size->q≠gx->wX.heap[q]? =wB.heap[q]?)->wX.os=wB.os->wX.tape=wB.tape->wX.output=wB.output->dt B gD (lr d k j) (t.add w.heap.size) wX/\Kd gD (t.add w.heap.size) (t.add w.heap.size) wA wX/\Rob (Fx gD (t.add w.heap.size)) (fun u=>dS u (.slice pw a.who.length cw) a.who) wX):=fun wX h1 h2 h3 h4 h5=>by
      have hb:=HBB.o;refine⟨HDB.o.closed h1 h2,HKD.o.trans ((Kd.of hb).closed (q:=gx) (by rw[HGX.o];exact aB _) h3 h4 h5 h1 h2),HRB.o.move (bf hb.size h1) (fun q _ hl=> ?_) fun _ _ h=>h⟩;have:=HGX.o;exact(h2 q (aT hl hb.size) (by omega)).trans (hb.block q hl)
     by_cases hle:a.left-k<=0
     case' pos=>
      have HT:PH (fg k a=eX a 3):=(by show _=_;unfold fg;rw[ax (by simpa using HST.o),aD hle]);have cS:=rB {a with left:=a.left-k} 3 pw cw wC;dsimp only at cS;have nC0:=nC;go_wp2_with(first|(refine wpList_load_mid rfl 38 _ rfl ga (j*11) rfl (apC (a,.slice pw a.who.length cw)).toList _ hrg apT rfl (by kernel_rfl) ?_;clear hrg)|(refine ay rfl 38 _ _ rfl _ _ rfl rfl _ _ nZ (by kernel_rfl) rfl (iu _ _ _ _) ?_;rw[hB];clear nZ hB)|(refine aQ rfl 38 _ rfl _ rfl _ _ _ _ nC apT rfl (by kernel_rfl) ?_;clear nC))
      refine cS.mono ?_;rintro e w5 ⟨rfl,b5⟩;have n5:=bt b5 nC0
      have nX:(w5.setRow gx (apC (eX {a with left:=a.left-k} 3,.slice pw a.who.length cw))).heap[gx]? =ah (apC (fg k a,.slice pw a.who.length cw)) 38:=by
       rw[HT.o];exact aL _ _ _ _ _ _ n5
      have hfin:=HFIN.o (w5.setRow gx (apC (eX {a with left:=a.left-k} 3,.slice pw a.who.length cw))) (by simp;rw[<-sC];exact b5.size) (fun q hl hq=>((aV _ _ _ _ hq).trans (b5.block q (by omega))).trans (oC q hq)) (b5.os.trans kC.1) (b5.tape.trans kC.2.1) (b5.output.trans kC.2.2);generalize hwX:w5.setRow gx (apC (eX {a with left:=a.left-k} 3,.slice pw a.who.length cw))=wX at*;clear cS nC0 b5 y1C y0 y1 nB x1 hZ
     case' neg=>
      have HT:PH (fg k a={a with left:=a.left-k}):=(by show _=_;unfold fg;rw[ax (by simpa using HST.o),ax hle])
      have nX:wC.heap[gx]? =ah (apC (fg k a,.slice pw a.who.length cw)) 38:=by
       rw[HT.o];exact nC
      have hfin:=HFIN.o wC (by rw[sC];exact aB _) (fun q _ hq=>oC q hq) kC.1 kC.2.1 kC.2.2;obtain⟨wX,rfl⟩: ∃q,q=wC:=⟨_,rfl⟩
      clear nC
     all_goals
      obtain⟨⟨okX,rvX,cvX,vvX,kvX,ssX,aaX,hmX⟩,hkX,hpX⟩:=hfin
      have hlX:aaX.length=n:=by have:=congrArg List.length hmX.ape;rw[ba]at this;exact this.trans HLJ.o
      have zA:wX.cell? (ae gD 3)=some (.slice (some (ae ga 0)) n ca):=(cr (v:=t.av) 3 hmX.blk rfl).trans (congrArg some HAV.o)
      have HTH:PH (wX.there ga (j*11) 11):=tX hmX.aps (c:=ca) (by omega) (by rw[hlX];exact HAV.o)
      have HMX:=aG hmX
      have HOX:=aG okX
      have HKX:=aG hkX
      have HPX:=aG hpX
      obtain⟨cA,hcA⟩:=au (apC (fg k a,.slice pw a.who.length cw))
      have h1c:cA.all (·.oneCell')=true:=by rw[<-hcA];exact iu _ _ _ _
      have hc11:cA.size=11:=by rw[<-hcA];rfl
      rw[hcA]at nX
      clear hmX okX hkX hpX oC sC kC HFIN nB'
      go_upto_region 10 with(first|(refine wpList_load_mid rfl 38 _ rfl ga (j*11) rfl (apC (a,.slice pw a.who.length cw)).toList _ hrg apT rfl (by kernel_rfl) ?_;clear hrg)|(refine ay rfl 38 _ _ rfl _ _ rfl rfl _ _ nZ (by kernel_rfl) rfl (iu _ _ _ _) ?_;rw[hB];clear nZ hB)|(refine ay rfl 38 _ _ rfl _ _ rfl rfl _ _ n5 (by kernel_rfl) rfl (iu _ _ _ _) ?_;rw[hwX];clear n5 hwX))
      refine dn (B7 wX ga (j*11) cA 8) [kn 38 (ab gD 0),kn 39 (ab gD 0),kn 40 (ab gD 0),kn 41 (ab gD 3),kn 42 (.slice (some (ae ga 0)) n ca),kn 43 (ag (j:Int)),kn 44 (.agg cA),kn 45 (ab ga (j*11)),nk] (fun _=>⟨fun _=>(aI _ _).drew,(fun h=>by cases h)⟩) B7.on (by kernel_rfl) ?_ ?_
      ·rintro M φ W hJ hc F l hl hF
       have HJ:=aG hJ
       clear hc hJ
       simp only[kn,nk,dX,aR,aX,Act.put,aA,aK,aJ]at hl
       subst hl
       simp only[dc,Nat.reduceAdd]at hF
       dsimp only[kn,nk,dC,eJ,eg,Act.put]
       and_intros
       all_goals first|exact trivial|intro hw hn hm K hK
       all_goals try (go_simp;with_reducible exact hK _ _ ⟨rfl,aI _ _⟩)
       ·have y:=((HJ.o.1 (hn 8 _ rfl (by kernel_rfl))).cell (bP zA)).trans zA
        go_simp
        exact hK _ _ ⟨rfl,aI _ _⟩
       ·have nW:=bt (HJ.o.1 (hn 8 _ rfl (by kernel_rfl))) nX
        show Oper.wp _ _ _ _ _ _
        refine eo 38 _ rfl _ (by simp[Act.eval,hF]) _ _ _ _ nW apT rfl (by rw[hc11];kernel_rfl) ?_
        exact hK _ _ ⟨rfl,aI _ _⟩
       ·have hb:=HJ.o.1 hm
        show Oper.wp _ _ _ _ _ _
        refine wp_store_mid 38 _ _ rfl ga (j*11) cA (by simp[Act.eval,hF]) (by simp[Act.eval,hF]) (by rw[hc11];exact C7 HTH.o hb) (by rw[hc11];kernel_rfl) h1c ?_
        exact hK undef _ ⟨trivial,fun c=>by simp at c,fun _=>⟨W,hb,aI _ _⟩⟩
      ·rintro M φ W hM hJ
       obtain⟨W0,hb0,h2⟩:=hJ.2 (hM 8 (by decide) rfl)
       simp only[kn,nk,en,aR,aX,Act.put,aA,aK,aJ]
       obtain⟨hm2,hk2⟩:=(HMX.o.below hb0).setAp (j:=j) (g:=ga) (by omega) (by show t.av.ownBlock=_;rw[HAV.o];rfl) (fg k a,.slice pw a.who.length cw) (.inr (by
        show Rob _ (fun u=>dS u (.slice pw a.who.length cw) (fg k a).who) W0;rw[Il];exact HPX.o.below hb0))
       rw[hcA]at hm2 hk2
       have h2':=h2.mono (jV (eO ga cA.toList (j*11) W0).2.2.2)
       have HN:PH (dt B gD (lr d k (j+1)) (t.add w.heap.size) W/\Kd gD (t.add w.heap.size) (t.add w.heap.size) wA W):=by
        refine⟨dt.below ?_ h2',((HKX.o.trans (Kd.of hb0)).trans hk2).trans (Kd.of h2')⟩;rw[<-xX HA.o];exact⟨Mr HOX.o HKB.o (by rw[v6 HA.o]),_,_,_,_,_,_,hm2⟩
       clear hM hJ hm2 hk2 hb0 h2 h2' hlX nX zA hcA h1c hc11
       go_wp2_with fail
       go_roundw
       case rel=>exact⟨j+1,by go_num,by omega,HN.o⟩
       case measure=>simp[intOf];omega
    ·have hst':(a.st !=1)=true:=(by simpa using hst)
     have HN:PH (dt B gD (lr d k (j+1)) (t.add w.heap.size) wB/\Kd gD (t.add w.heap.size) (t.add w.heap.size) wA wB):=by
      refine⟨?_,HKD.o.trans (Kd.of HBB.o)⟩;rw[<-xX HA.o];have e:fg k a=a:=(by unfold fg;rw[aD hst]);rw[e,Kj (v6 HA.o)];exact HD.o.below HBB.o
     clear hst y1 nB;go_wp2_with(first|(refine wpList_load_mid rfl 38 _ rfl ga (j*11) rfl (apC (a,.slice pw a.who.length cw)).toList _ hrg apT rfl (by kernel_rfl) ?_;clear hrg)|(refine ay rfl 38 _ _ rfl _ _ rfl rfl _ _ nZ (by kernel_rfl) rfl (iu _ _ _ _) ?_;rw[hB];clear nZ hB))
     go_roundw;case rel=>exact⟨j+1,by go_num,by omega,HN.o⟩
     case measure=>simp[intOf];omega
   ·have hjn': ¬(j:Int)<(n:Int):=(by omega);obtain rfl:n=j:=(by omega)
    have nq:wr.heap[w.heap.size]? =ah #[ag 0,ag 0,ag 0,ag 0,af,af] 47:=by
     obtain⟨_,_,_,_,_,_,_,hm⟩:=HDA.o;exact(hkd.blk w.heap.size (hm.nx w.heap.size (bq ..)).2.2 (aH nA)).trans nA
    have HO:=aG (fB hd (Kd.opened HBA.o hkd) (aB _) (anC (noA 0) (af) (af)));have HR:=aG (aL _ _ _ (anC (noA 0) (af) (af)) _ _ nq);clear hd hkd nA;go_wp2_with(refine ay rfl 47 _ _ rfl _ _ rfl rfl _ _ nq (by kernel_rfl) rfl (by simp[Value.oneCell']) ?_)
    refine aW (v:= .agg (anC (noA 0) (af) (af))) ?_ rfl ?_
    ·exact bc rfl _ _ w.heap.size _ _ _ _ rfl HR.o anT rfl (by kernel_rfl)
    ·rw[HP.o];exact⟨_,_,_,rfl,HO.o.1,HO.o.2,fd _ _,et _ _⟩
end
end
theorem vq {fn:Func}(hf:fn.results= #[ResultVar.cell 2 38,ResultVar.tmp 3]){R:Ending->World->Prop}{a:Act}{w:World}(g:Nat)(c:Array Value)(er:Int)(hc:c.size=11)(hd:a.defers=[])(h2:a.tmps.getD 2 undef=ab g 0)(h3:a.tmps.getD 3 undef=ag er)
  (hg:w.heap[g]? =ah c 38) (hR:R (.returned (.tuple #[.agg c,ag er])) w):bodyPost prog fn R .ret a w:=by
 refine aW (v:= .tuple #[.agg c,ag er]) ?_ hd hR;have h2':a.tmps[2]?.getD undef=ab g 0:=by simpa using h2
 have h3':a.tmps[3]?.getD undef=ag er:=by simpa using h3
 have hv:=dV (P:=prog) w g 38 38 _ _ _ hg apT rfl (by rw[hc];kernel_rfl);simp[results,hf,h2',h3',asAddr,hv]
theorem C8 (a:Ap)(p:Option Addr)(c:Nat)(w:World):Calls prog 17 #[.agg (apC (a,.slice p a.who.length c))] w fun e w'=>e= .returned (.tuple #[.agg (apC (eX a 2,.slice p a.who.length c)),ag 0])/\aq w w':=by
 obtain⟨wA,hA,bA,nA⟩:=nb w (apC (a,.slice p a.who.length c)) 38;obtain⟨wB,hB,bB,nB⟩:=nb wA apZ 38;unfold apZ at hB nB;have nA':=bt bB nA;have hb:=aw bA bB;have cS:=rB a 2 p c wB;go_enter func17,ntmps17;go_wp2_with(refine aQ rfl 38 _ rfl _ rfl _ _ _ _ nA' apT rfl (by kernel_rfl) ?_)
 refine cS.mono ?_;rintro e w1 ⟨rfl,b1⟩;have n1:=bt b1 nB;have HB:=aG (below_setRow (aw hb b1) bA.size (apC (eX a 2,.slice p a.who.length c)));have HR:=aG (aL _ _ _ (apC (eX a 2,.slice p a.who.length c)) _ _ n1);clear cS b1 nB nA nA' hb;go_wp2_with(refine ay rfl 38 _ _ rfl _ _ rfl rfl _ _ n1 (by kernel_rfl) rfl (iu _ _ _ _) ?_)
 exact vq rfl wA.heap.size _ 0 rfl rfl rfl rfl HR.o ⟨rfl,HB.o⟩
theorem Fm (a:Ap)(p:Option Addr)(c:Nat)(w:World):Calls prog 19 #[.agg (apC (a,.slice p a.who.length c))] w fun e w'=>e= .returned (.tuple #[.agg (apC (eX a 3,.slice p a.who.length c)),ag 0])/\aq w w':=by
 obtain⟨wA,hA,bA,nA⟩:=nb w (apC (a,.slice p a.who.length c)) 38;obtain⟨wB,hB,bB,nB⟩:=nb wA apZ 38;unfold apZ at hB nB;have nA':=bt bB nA;have hb:=aw bA bB;have cS:=rB a 3 p c wB;go_enter func19,ntmps19;go_wp2_with(refine aQ rfl 38 _ rfl _ rfl _ _ _ _ nA' apT rfl (by kernel_rfl) ?_)
 refine cS.mono ?_;rintro e w1 ⟨rfl,b1⟩;have n1:=bt b1 nB;have HB:=aG (below_setRow (aw hb b1) bA.size (apC (eX a 3,.slice p a.who.length c)));have HR:=aG (aL _ _ _ (apC (eX a 3,.slice p a.who.length c)) _ _ n1);clear cS b1 nB nA nA' hb;go_wp2_with(refine ay rfl 38 _ _ rfl _ _ rfl rfl _ _ n1 (by kernel_rfl) rfl (iu _ _ _ _) ?_)
 exact vq rfl wA.heap.size _ 0 rfl rfl rfl rfl HR.o ⟨rfl,HB.o⟩
theorem OX:(prog.info? 34).map (fun i=>(i.zero,i.size,i.bytes))=some (some (af),1,24):=by kernel_rfl
theorem svT:prog.underlying 41=some (.struct (prog.fieldsOf 41)):=by kernel_rfl
theorem uQ (s:Sv)(p:Option Addr)(n c:Nat):(svC (s,.slice p n c)).all (·.oneCell')=true:=by simp[svC,Value.oneCell']
structure Fo (B:Nat)(v:Value)(ls:List (List Int))(vs:List Value)(w:World):Prop where
 o:w.ownsRow B 34 1 v ls.length vs
 each: ∀(i:Nat) (l:List Int) (u:Value),ls[i]? =some l->vs[i]? =some u->w.ownsRow B 3 1 u l.length (dp l)
theorem pm {w:World}{B:Nat}{v:Value}{l:List Int}(h:w.ownsRow B 3 1 v l.length (dp l))(hl:l.length<9223372036854775808):dS w v l:=by
 obtain⟨p,c,hv⟩:=di h;refine⟨p,c,hv,hl,fun j x hj=> ?_⟩;obtain⟨g,c',e,_,hc⟩:=rX h (by have:=(aF.1 hj).1;omega);rw[hv]at e;injection e with e1 _ _;refine⟨g,0,e1,?_⟩;rw[bN];exact hc j _ (by unfold dp;rw[bg,hj];rfl)
theorem Fo.rob {B:Nat}{v:Value}{ls:List (List Int)}{vs:List Value}{w:World}(h:Fo B v ls vs w)(hl:ls.length<9223372036854775808)(hp: ∀l∈ls,l.length<9223372036854775808):Rob (fun q=>B<=q) (fun u=>fk u v ls) w:=fun u _ ha=>by
 have hk: ∀{e n:Nat} {x:Value} {xs:List Value},w.ownsRow B e 1 x n xs->u.ownsRow B e 1 x n xs:=fun h=>br h fun b hb=>ha b (h.lt b hb).1 (h.lt b hb).2;have h1:=hk h.o;have hlv:vs.length=ls.length:=by have:=h1.1;omega
 obtain⟨p,c,hv⟩:=di h1;refine⟨p,c,hv,hl,fun j l hj=> ?_⟩;have hjl:=(aF.1 hj).1;obtain⟨x,hx⟩: ∃x,vs[j]? =some x:=⟨vs[j]'(by omega),az _⟩
 obtain⟨g,c',e,_,hc⟩:=rX h1 (by omega);rw[hv]at e;injection e with e1 _ _;exact⟨g,0,x,e1,by rw[bN];exact hc j x hx,pm (hk (h.each j l x hj hx)) (hp l (aM hj))⟩
theorem Fp (s:Sv)(p:Option Addr)(c:Nat)(w:World)(h:fk w (.slice p s.roles.length c) s.roles)(hl:s.roles.length<=1000)(hp: ∀l∈s.roles,l.length<=1000):Calls prog 29 #[.agg (svC (s,.slice p s.roles.length c))] w fun e w'=> ∃p' c',e= .returned (.agg (svC (s,.slice p' s.roles.length c')))/\Rob (fun q=>w.heap.size<=q) (fun u=>fk u (.slice p' s.roles.length c') s.roles) w'/\aq w w':=by
 obtain⟨wA,hA,bA,nA⟩:=nb w (svC (s,.slice p s.roles.length c)) 41;obtain⟨wB,hB,bB,nB⟩:=nb wA #[ag 0,ag 0,ag 0,af] 41;have nA':=bt bB nA;have hb:=aw bA bB;have hr:=h.below hb;obtain⟨n,hn⟩:=au s.roles.length;have z3:wB.cell? (ae w.heap.size 3)=some (.slice p n c):=by rw[<-hn];exact cr 3 nA' rfl
 have HN:=aG hn;have HR:=aG hr;have HB:=aG hb;have HP:=aG hp;have hwB:w.heap.size<=wB.heap.size:=hb.size;rw[hn]at hl;have hn1:(n:Int)<=1000:=by omega
 clear h hn hr hp nA bA bB hb;go_enter func29,ntmps29;go_wp2_with fail;go_loopw [3,5,9] (fun v _ q wr=> ∃(j:Nat) (vs:List Value),q=ag (j:Int)/\j<=n/\aq wB wr/\Fo wB.heap.size v (s.roles.take j) vs wr) (fun _ _ q _=>n-(intOf q).toNat);case atStart=>exact⟨0,[],rfl,by omega,aI _ _,cY _ _ _ _,fun i l u hi=>by simp at hi⟩
 case round=>
  obtain⟨j,vs,rfl,hj,hbr,hro⟩:=hrel;have hj0:(0:Int)<=(j:Int):=(by omega);by_cases hjn:j<n
  ·have hjn':(j:Int)<(n:Int):=(by omega);obtain⟨l,hlj⟩: ∃l,s.roles[j]? =some l:=⟨s.roles[j]'(by have:=HN.o;omega),az _⟩
   obtain⟨p0,c0,e0,hq1,hce⟩:=HR.o;injection e0 with e1 e3 e2;subst e1 e2;obtain⟨g,o,sv,e4,hc,hrow⟩:=hce j l hlj;subst e4;clear e3 hq1 hce;have hc':=aj hbr hc;have cC:=xV l sv wr (hrow.below hbr) (HP.o l (aM hlj));obtain⟨ps,cs,hsv,hq1,hq2⟩:=hrow;subst hsv;have HL:=aG hlj;have HRO:=aG hro;have HBR:=aG hbr;clear hq1 hq2 hlj hc hro hbr;go_wp2_with fail;refine cC.mono ?_;rintro e w1 ⟨v1,rfl,ho1,b1⟩;obtain⟨p1,c1,hv1⟩:=di ho1;subst hv1;obtain⟨wC,hC,bC,nC⟩:=nb w1 #[.slice p1 l.length c1] 34;have hbC:=aw b1 bC;have hoC:=br HRO.o.o fun b hq=>hbC.block b (HRO.o.o.lt b hq).2;have hbw:=aw HBR.o hbC;have hlt:(s.roles.take j).length=j:=(by rw[eD,HN.o];omega);rw[hlt]at hoC;have HO1:=aG (br ho1 fun b hq=>bC.block b (ho1.lt b hq).2);have HBC:=aG hbC;clear cC ho1 b1 bC hc' hbC;go_wp2_with(at_builtin;refine iA rfl _ _ 39 34 rfl BM OX rfl (by decide) (by decide) rfl hoC rfl nC rfl (by simp[Value.oneCell']) (by omega) hbw.size ?_)
   rintro v2 w2 ho2 hgr _ g2 c2 rfl;have hb2:=hbw.grown hgr hbw.size (fun k hk=>(hoC.lt k hk).1)
   have HRO2:PH (Fo wB.heap.size (.slice (some (ae g2 0)) (j+1) c2) (s.roles.take (j+1)) (vs++[.slice p1 l.length c1]) w2):=by
    have hkp: ∀{x:Value} {m:Nat} {xs:List Value} {B':Nat},wC.ownsRow B' 3 1 x m xs->w2.ownsRow B' 3 1 x m xs:=fun hx=>br hx fun b hb=>hgr.block b (hx.lt b hb).2 (fun e=>pj hx hoC (by decide) hb e.symm);have hvl:vs.length=j:=(by have:=hoC.1;omega);refine⟨?_,fun i l' u hi hu=> ?_⟩
    ·rw[eD,HN.o,fj (by omega)];exact ho2
    ·by_cases e:i=j
     ·subst e;rw[dI (by omega),HL.o]at hi;have:l=l':=aN hi;subst this;rw[dh (by omega),hvl,iN]at hu;have:Value.slice p1 l.length c1=u:=aN hu;subst this;refine hkp ⟨HO1.o.1,?_⟩;rcases HO1.o.2 with q|⟨gq,cq,cu,q1,q2,q3⟩
      ·exact .inl q
      ·exact .inr ⟨gq,cq,cu,q1,bf HBR.o.size q2,q3⟩
     ·have hij:i<j:=by
       have:=(aF.1 hi).1;rw[eD]at this;omega
      rw[dI (by omega)]at hi;rw[du (by omega)]at hu;have hx:=HRO.o.each i l' u (by rw[dI hij];exact hi) hu;exact hkp (br hx fun b hb=>HBC.o.block b (hx.lt b hb).2)
   clear hoC ho2 hgr hbw nC hC HO1 HBC;go_wp2_with fail;go_roundw;case rel=>exact⟨j+1,_,by go_num,by omega,hb2,HRO2.o⟩
   case measure=>simp[intOf];omega
  ·have hjn': ¬(j:Int)<(n:Int):=(by omega);obtain rfl:n=j:=(by omega);have htk:s.roles.take n=s.roles:=cj (by rw[HN.o];exact aB _);rw[htk]at hro;have ho:=hro.o;rw[HN.o]at ho;obtain⟨pv,cv,hv⟩:=di ho;subst hv;have nAr:=bt hbr nA';have nBr:=bt hbr nB
   have hwlt:w.heap.size<wA.heap.size:=by
    have:=hA▸(aH (aE w (.cells (svC (s,.slice p s.roles.length c)) 41)));omega
   have hwAB:w.heap.size≠wA.heap.size:=(by omega);have x3:=bl _ _ 3 _ _ nAr;have y3:wr.cell? (ae w.heap.size 3)=some (.slice p n c):=aj hbr z3;have nC:(wr.setCell ⟨w.heap.size,3,none⟩ (.slice pv n cv)).heap[w.heap.size]? =ah (svC (s,.slice pv n cv)) 41:=aY wr w.heap.size 3 _ _ _ nAr;have nD:=(aO wr ⟨w.heap.size,3,none⟩ wA.heap.size (.slice pv n cv) (fun e=>hwAB e.symm)).trans nBr;have hb2:=(aw HB.o hbr).setCell (p:=⟨w.heap.size,3,none⟩) (aB _) (.slice pv n cv);have hrob:=hro.rob (by rw[HN.o];omega) (fun l hl'=>by have:=HP.o l hl';omega);have hor: ∀q,q≠w.heap.size->(wr.setCell ⟨w.heap.size,3,none⟩ (.slice pv n cv)).heap[q]? =wr.heap[q]? :=fun q hq=>aO _ _ _ _ hq;have hsz:(wr.setCell ⟨w.heap.size,3,none⟩ (.slice pv n cv)).heap.size=wr.heap.size:=(by simp);generalize hwC:wr.setCell ⟨w.heap.size,3,none⟩ (.slice pv n cv)=wC at*;have hwl:=aH nB
   have HO:PH (Rob (fun q=>w.heap.size<=q) (fun u=>fk u (.slice pv n cv) s.roles) (wC.setRow wA.heap.size (svC (s,.slice pv n cv)))/\aq w (wC.setRow wA.heap.size (svC (s,.slice pv n cv)))):=by
    refine⟨hrob.move (by simp;rw[hsz];exact aB _) (fun q hq _=> ?_) (fun q _ hq=>bf hwB hq),below_setRow hb2 (by have:=aH nAr;have:=hA▸(am w (.cells (svC (s,.slice p s.roles.length c)) 41)).size;exact this) _⟩;exact(aV _ _ _ _ (by omega)).trans (hor q (by omega))
   have HRR:=aG (aL _ _ _ (svC (s,.slice pv n cv)) _ _ nD);clear hro ho hrob hor hsz hb2 nAr nBr nA' hwAB htk z3;go_wp2_with(first|(refine aQ rfl 41 _ rfl _ rfl _ _ _ _ nC svT rfl (by kernel_rfl) ?_)|(refine ay rfl 41 _ _ rfl _ _ rfl rfl _ _ nD (by kernel_rfl) rfl (uQ _ _ _ _) ?_))
   refine aW (v:= .agg (svC (s,.slice pv n cv))) ?_ rfl ⟨pv,cv,by rw[HN.o],by rw[HN.o];exact HO.o.1,HO.o.2⟩;exact bc rfl _ _ wA.heap.size _ _ _ _ rfl HRR.o svT rfl (by kernel_rfl)
end Go.Proofs.YtkfidffapdhbhaaGreatDoor
