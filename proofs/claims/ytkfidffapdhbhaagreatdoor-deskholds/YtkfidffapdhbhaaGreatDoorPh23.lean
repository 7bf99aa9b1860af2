/- Texts of the proof. -/
import Derived.Test.YtkfidffapdhbhaaGreatDoorPh22
set_option maxRecDepth 100000
set_option maxHeartbeats 8000000
namespace Go.Proofs.YtkfidffapdhbhaaGreatDoor
open Go.Proofs.Tryz Go.RowKit Lx Vx Mx Msk
section
theorem xG: ∀{l:List Ru} {i:Nat},(jK l i).1=0-> ∀u∈l,OKE u.2
 |[],_,_,u,hu=>by cases hu
 |v::l,i,h,u,hu=>by
  unfold jK at h;split at h
  ·rename_i h1;exact absurd h h1
  ·rename_i h1;rcases bz.1 hu with rfl|hu
   ·have h2:ruleP u=0:=(by simpa using h1);unfold ruleP at h2;split at h2
    ·cases h2
    ·exact⟨_,_,h2⟩
   ·exact xG h u hu
theorem sE {l:List Ru}(h:(fW l).1=0):l.length<=40/\ ∀u∈l,OKE u.2:=by
 unfold fW at h;split at h
 ·cases h
 ·exact⟨by omega,xG h⟩
def xH (D:MD)(i:Int)(f:Nat->Bool):Prop:= ∀(K:Nat->Bool) (W:World),MI D K W->Calls prog 148 #[ab D.g 0,ag i] W fun r W'=>r= .returned (.agg (mv f))/\MQ D (fun K'=>Les K K'/\K' i.toNat=true) W W'
section
variable {wk:Bool} {day a b:Int} {nm:Nat->Bool} {ks:List (Nat->Bool)}
theorem NL:mE wk day 1 a b nm ks=fun _=>false:=rfl
theorem NM:mE wk day 2 a b nm ks=fun i=>decide (i<1440):=rfl
theorem NN:mE wk day 3 a b nm ks=fun i:Nat=>(decide (a<=(i:Int))&&decide ((i:Int)<b))&&decide (i<1440):=rfl
theorem Ho:mE wk day 4 a b nm ks=if wk=true then ks.getD 0 nev else fun _=>false:=rfl
theorem Hp:mE wk day 5 a b nm ks=if a<=day/\day<=b then ks.getD 0 nev else fun _=>false:=rfl
theorem Hq:mE wk day 6 a b nm ks=fun i=>(ks.getD 0 nev i||ks.getD 1 nev i)&&decide (i<1440):=rfl
theorem Hr:mE wk day 7 a b nm ks=fun i=>(ks.getD 0 nev i&& !ks.getD 1 nev i)&&decide (i<1440):=rfl
theorem Ht:mE wk day 8 a b nm ks=fun i=>(ks.getD 0 nev i&&ks.getD 1 nev i)&&decide (i<1440):=rfl
theorem Hu:mE wk day 9 a b nm ks=shf (ks.getD 0 nev) a:=rfl
theorem DL:mE wk day 10 a b nm ks=nm:=rfl
end
theorem md {F:Ex->Nat->Bool}{ks:List Ex}{j:Nat}{k:Ex}(h:ks[j]? =some k):(ks.map F).getD j nev=F k:=by
 rw[dQ,bg,h];rfl
theorem xI {D:MD}{K0:Nat->Bool}{W:World}{env:List UInt8->Nat->Bool}{e:Ex}{pe:Option Addr}{ce:Nat}(h:MI D K0 W)(hok:OKE e)(d0:0<=D.day)(d1:D.day<146097)
  (hkids: ∀(j:Nat) (k:Ex),e.kids[j]? =some k->qB D e.kind e.a e.b e.name pe e.kids ce (j:Int) (ft (wkB D.day) D.day env k)) (hrule:e.kind=10->0<=atP5 D.l e.name/\xH D (atP5 D.l e.name) (env e.name)):
  Calls prog 182 #[ab D.g 0,exV e (.slice pe e.kids.length ce)] W fun r W'=>r= .returned (.agg (mv (ft (wkB D.day) D.day env e)))/\MQ D (Les K0) W W':=by
 have hv:=jB (wkB D.day) D.day env e;obtain⟨k1,k2,_,hr,_⟩:=hok.kinds;have h0:=fun hk=>hok.kid0 hk;have h1:=fun hk=>hok.kid1 hk;obtain⟨kd,a,b,nm,ks⟩:=e;unfold exV;dsimp only at*;have hc:kd=1\/kd=2\/kd=3\/kd=4\/kd=5\/kd=6\/kd=7\/kd=8\/kd=9\/kd=10:=by omega
 rw[hv];rcases hc with rfl|rfl|rfl|rfl|rfl|rfl|rfl|rfl|rfl|rfl
 ·rw[NL];exact NH h
 ·rw[NM];exact NI h
 ·rw[NN];exact NJ h
 ·obtain⟨k,hk,_⟩:=h0 (by decide);rw[Ho,md hk];cases hg:wkB D.day a with
  |true=>exact L7 h d0 d1 hg (hkids 0 k hk)
  |false=>exact L8 h d0 d1 hg
 ·obtain⟨k,hk,_⟩:=h0 (by decide);rw[Hp,md hk];by_cases hg:a<=D.day/\D.day<=b
  ·rw[aD hg];exact L9 h d0 d1 (by simp[hg.1,hg.2]) (hkids 0 k hk)
  ·rw[ax hg]
   exact Ma h d0 d1 (by
    by_cases h1:a<=D.day
    ·simp[h1,show¬D.day<=b from fun h2=>hg ⟨h1,h2⟩]
    ·simp[h1])
 ·obtain⟨k,hk,_⟩:=h0 (by decide);obtain⟨k',hk',_⟩:=h1 (by decide);rw[Hq,md hk,md hk'];exact NE h (hkids 0 k hk) (hkids 1 k' hk')
 ·obtain⟨k,hk,_⟩:=h0 (by decide);obtain⟨k',hk',_⟩:=h1 (by decide);rw[Hr,md hk,md hk'];exact NF h (hkids 0 k hk) (hkids 1 k' hk')
 ·obtain⟨k,hk,_⟩:=h0 (by decide);obtain⟨k',hk',_⟩:=h1 (by decide);rw[Ht,md hk,md hk'];exact NG h (hkids 0 k hk) (hkids 1 k' hk')
 ·obtain⟨k,hk,_⟩:=h0 (by decide);rw[Hu,md hk];have hb:a≠0/\ -1440<a/\a<1440:=(by simpa[rangeP] using hr);exact NK h (by omega) (by omega) (hkids 0 k hk)
 ·rw[DL];obtain⟨hx,hR⟩:=hrule rfl;exact Mc h hx hR
theorem Hv {D:MD}{env:List UInt8->Nat->Bool}(d0:0<=D.day)(d1:D.day<146097): ∀(d:Nat) (e:Ex) (sl:Value),gc (fun k=>k<D.w.heap.size) d D.w sl e.kids->OKE e->(∀x∈nms e,0<=atP5 D.l x/\xH D (atP5 D.l x) (env x))-> ∀(K:Nat->Bool) (W:World),MI D K W->
  Calls prog 182 #[ab D.g 0,exV e sl] W fun r W'=>r= .returned (.agg (mv (ft (wkB D.day) D.day env e)))/\MQ D (Les K) W W':=by
 have none: ∀(e:Ex) (p:Option Addr) (c:Nat),e.kids=[]->OKE e->(∀x∈nms e,0<=atP5 D.l x/\xH D (atP5 D.l x) (env x))-> ∀(K:Nat->Bool) (W:World),MI D K W->
   Calls prog 182 #[ab D.g 0,exV e (.slice p 0 c)] W fun r W'=>r= .returned (.agg (mv (ft (wkB D.day) D.day env e)))/\MQ D (Les K) W W':=fun e p c h0 hok hn K W hM=>by
  have:=xI (env:=env) (pe:=p) (ce:=c) hM hok d0 d1 (fun j k hj=>by rw[h0]at hj;simp at hj) fun hk=>hn e.name (by rw[lO,aD hk];simp);rw[h0]at this;exact this
 intro d;induction d with
 |zero=>
  intro e sl hk hok hn K W hM;obtain⟨h0,p,c,rfl⟩:=hk;exact none e p c h0 hok hn K W hM
 |succ d ih=>
  intro e sl hk hok hn K W hM;rcases hk with⟨h0,p,c,rfl⟩|⟨g,o,c,_,rfl,hl,hkk⟩
  ·exact none e p c h0 hok hn K W hM
  ·refine xI hM hok d0 d1 (fun j k hj=> ?_) fun hk=>hn e.name (by rw[lO,aD hk];simp);obtain⟨_,sk,c0,c1,c2,c3,c4,r⟩:=hkk j k hj;obtain⟨ps,cs,rfl⟩:=r.form;have hmem:k∈e.kids:=aM hj;intro bd be K' W' hM' hbd hbe n1 n2 n3 n4
   exact L6 hM' hj hl hbd hbe n1 n2 n3 n4 c0 c1 c2 c3 c4 fun K2 W2 hM2=>ih k _ r (hok.kid hmem) (fun x hx=>hn x (by
    rw[lO,bU];right;unfold jF;exact List.mem_flatten.2 ⟨nms k,dU.2 ⟨k,hmem,rfl⟩,hx⟩)) K2 W2 hM2
theorem zS {D:MD}{us:List (Ru×Value)}(hin:InR D.w D.lv us)(hl:us.map (fun p=>p.1)=D.l)(hn:us.length=D.n)(hc:(dq D.l).1=0)(d0:0<=D.day)(d1:D.day<146097)(hV: ∀i,D.V i=io D.l (wkB D.day) D.day i):
  ∀(m i:Nat),i<D.n->muR D.l i<m->xH D (i:Int) (D.V i)
 |0,_,_,h=>by omega
 |m+1,i,hi,hmu=>by
  intro K W hM;obtain⟨hw0,hno⟩:=lB hc;obtain⟨h40,hoke⟩:=sE hw0;have hll:D.l.length=D.n:=(by rw[<-hl,ba,hn]);cases hK:K i with
  |true=>
   obtain⟨M,h1,h2⟩:=id hM;refine(Fa h1 hi (by omega) hK).mono ?_;rintro r W' ⟨rfl,hb⟩;rw[h2 i hi hK];exact⟨rfl,⟨K,hM.later hb,Les.refl K,hK⟩,Kp.below hb⟩
  |false=>
   obtain⟨⟨u,sl⟩,hu⟩: ∃p,us[i]? =some p:=⟨us[i]'(by omega),az _⟩
   have hul:D.l[i]? =some u:=(by rw[<-hl,bg,hu];rfl);obtain⟨_,_,d,hkB⟩:=hin.all _ (aM hu);dsimp only at hkB;obtain⟨ps,cs,rfl⟩:=hkB.form;obtain⟨pv,cv,hlv⟩:=hin.form;have hin':=hin;rw[hlv]at hin';obtain⟨b,o,rfl,_⟩:=hin'.cells i _ hu;rw[hn]at hlv;refine J2 hin (by omega) hlv hn hu hM hK fun K2 W2 hM2=> ?_;have hE:=Hv (env:=fun x=>D.V (atP5 D.l x).toNat) d0 d1 d u.2 _ hkB (hoke u (aM hul)) (fun x hx=> ?_) K2 W2 hM2
   ·have e:ft (wkB D.day) D.day (fun x=>D.V (atP5 D.l x).toNat) u.2=D.V i:=by
     rw[hV i,oy hc hul];exact ni _ _ (aB _) fun x _=>hV _
    rw[e]at hE;exact hE
   ·have hj:=np hc hul hx;have hlt:=rS hc (by omega) hj;have hjl:=mC hno i _ hj;have hb:=(oh D.l x).1
    have hn1:atP5 D.l x≠ -1:=fun e=>hno u (aM hul) (by
     unfold fX;exact(pH _ _).2 (.inr ⟨x,hx,e⟩))
    refine⟨by omega,?_⟩;have:=zS hin hl hn hc d0 d1 hV m (atP5 D.l x).toNat (by omega) (by omega);rw[show(((atP5 D.l x).toNat:Nat):Int)=atP5 D.l x by omega]at this;exact this
end
def py (l:List Ru)(day:Int):Int×Nat:=if(dq l).1≠0 then dq l else if day<0\/146097<=day then(3,0) else(0,0)
def pK (l:List Ru)(day:Int):List (Nat->Bool):=if(py l day).1=0 then(List.range l.length).map (io l (wkB day) day) else []
def J4 (w:World)(v:Value)(fs:List (Nat->Bool)):Prop:= ∃p c,v= .slice p fs.length c/\(fs.length<=40/\fs.length<=c)/\ ∀(i:Nat) (f:Nat->Bool),fs[i]? =some f-> ∃g o:Nat,p=some ⟨g,o,none⟩/\w.rangeAt g (o+i*23) (mv f).toList
def xJ (l:List Ru)(day:Int)(w:World)(e:Ending)(w':World):Prop:= ∃v,e= .returned (.tuple #[v,.agg #[ag (py l day).1,ag ((py l day).2:Int)]])/\J4 w' v (pK l day)/\aq w w'
theorem BT (w:World)(p:Option Addr)(c:Nat):J4 w (.slice p 0 c) []:=⟨p,c,rfl,⟨by simp,by simp⟩,fun i f hi=>by simp at hi⟩
theorem Md {w:World}{gm n:Nat}{F:Nat->Nat->Bool}(hn:n<=40)(h: ∀i,i<n->w.rangeAt gm (i*23) (mv (F i)).toList):J4 w (.slice (some (ae gm 0)) n n) ((List.range n).map F):=by
 refine⟨some ⟨gm,0,none⟩,n,by simp,⟨by simpa using hn,by simp⟩,fun i f hi=>⟨gm,0,rfl,?_⟩⟩;rw[bg]at hi;cases hr:(List.range n)[i]? with
 |none=>rw[hr]at hi;cases hi
 |some k=>
  rw[hr]at hi;have hf:F k=f:=aN hi;obtain⟨h1,h2⟩:=aF.1 hr;have hk:k=i:=(by rw[<-h2];simp);have hin:i<n:=(by simpa using h1);rw[<-hf,hk,bN];exact h i hin
def kW (n:Nat):Array Value:=madeCells (mv fun _=>false) (n*23)
theorem zU {n i j:Nat}(hi:i<n)(hj:j<23):(kW n)[i*23+j]? =(mv fun _=>false)[j]? :=by
 have h1:i*23+j<n*23:=by
  have:(i+1)*23<=n*23:=Nat.mul_le_mul_right 23 hi;omega
 have h2:(i*23+j)%23=j:=by omega
 have h3:j<(mv fun _=>false).size:=by rw[bO];exact hj
 simp[kW,madeCells,h1,bO,h2];rw[Array.getElem!_eq_getD,Array.getD_eq_getD_getElem?,fQ h3];rfl
theorem BU {w:World}{g n:Nat}{t:TypeId}(h:w.heap[g]? =ah (kW n) t){i:Nat}(hi:i<n):w.rangeAt g (i*23) (mv fun _=>false).toList:=fun j v hv=>by
 have hj:j<23:=by
  have:=(aF.1 hv).1;rw[bQ,bO]at this;exact this
 rw[aZ _ _ _ _ _ _ h,zU hi hj,<-bp];exact hv
theorem Hy:(prog.info? 86).map (fun i=>(i.zero,i.size,i.bytes))=some (some (.agg #[.int .u64 0, .int .u64 0, .int .u64 0, .int .u64 0, .int .u64 0, .int .u64 0, .int .u64 0, .int .u64 0, .int .u64 0, .int .u64 0, .int .u64 0, .int .u64 0, .int .u64 0, .int .u64 0, .int .u64 0, .int .u64 0, .int .u64 0, .int .u64 0, .int .u64 0, .int .u64 0, .int .u64 0, .int .u64 0, .int .u64 0]),23,184):=by kernel_rfl
theorem Fb:prog.underlying 78=some (.slice 86):=by kernel_rfl
theorem xK (n:Nat)(hn:n<=1000)(w:World):(Instr.makeSlice 78 (ag (n:Int)) (ag (n:Int))).run prog w= .ok (.slice (some (ae w.heap.size 0)) n n) (w.alloc (.cells (kW n) 86)):=by
 obtain⟨i,hi,hzz⟩:=dL.1 Hy;simp only[Prod.mk.injEq]at hzz;obtain⟨hz,hs,hb⟩:=hzz;have hr:=run_make (P:=prog) w 78 86 i _ Fb hi hz .i64 .i64 n n (by omega) (gX _) (by rw[hb];omega) (by omega);rw[hs]at hr;have e:(Value.agg #[.int .u64 0, .int .u64 0, .int .u64 0, .int .u64 0, .int .u64 0, .int .u64 0, .int .u64 0, .int .u64 0, .int .u64 0, .int .u64 0, .int .u64 0, .int .u64 0, .int .u64 0, .int .u64 0, .int .u64 0, .int .u64 0, .int .u64 0, .int .u64 0, .int .u64 0, .int .u64 0, .int .u64 0, .int .u64 0, .int .u64 0]).cells=mv fun _=>false:=eG;rw[e]at hr;simpa[kW] using hr
structure AJ (B:World)(n:Nat)(day:Int)(sl:Value)(l:List Ru)(M:Nat->Bool)(φ:Nat->Value)(W:World):Prop where
 bel:aq B W
 m:M 3=true-> ∃mb,φ 25= .map (some mb)/\jl W mb l
 k:M 6=true-> ∃gk:Nat,φ 28= .slice (some (ae gk 0)) n n/\B.heap.size<=gk/\W.heap[gk]? =ah (fF n fun _=>false) 4
 g:M 9=true-> ∃gm:Nat,φ 31= .slice (some (ae gm 0)) n n/\B.heap.size<=gm/\W.heap[gm]? =ah (kW n) 86
 a:M 10=true->φ 32= .agg #[ag day,sl,φ 25,φ 28,φ 31]
 d:M 11=true-> ∃g:Nat,φ 7=ab g 0/\B.heap.size<=g/\W.heap[g]? =ah #[ag 0,af,.map none,af,af] 227
theorem AJ.below {B:World}{n:Nat}{day:Int}{sl:Value}{l:List Ru}{M:Nat->Bool}{φ:Nat->Value}{W W':World}(h:AJ B n day sl l M φ W)(hb:aq W W'):AJ B n day sl l M φ W':=by
 have bk: ∀{k:Nat} {o:Obj},W.heap[k]? =some o->W'.heap[k]? =some o:=fun h=>ai hb h;exact⟨aw h.bel hb,fun e=>(h.m e).imp fun _ q=>⟨q.1,q.2.later (hb.block _ (gV q.2))⟩,fun e=>(h.k e).imp fun _ q=>⟨q.1,q.2.1,bk q.2.2⟩,fun e=>(h.g e).imp fun _ q=>⟨q.1,q.2.1,bk q.2.2⟩,h.a,fun e=>(h.d e).imp fun _ q=>⟨q.1,q.2.1,bk q.2.2⟩⟩
theorem MD.begin {w W:World}{n g gk gm mb:Nat}{day:Int}{sl:Value}{l:List Ru}{V:Nat->Nat->Bool}{old:Array Value}(hJ:aq w W)(hM:jl W mb l)(b7:w.heap.size<=g)(k7:W.heap[g]? =ah old 227)
  (b28:w.heap.size<=gk) (k28:W.heap[gk]? =ah (fF n fun _=>false) 4) (b31:w.heap.size<=gm) (k31:W.heap[gm]? =ah (kW n) 86):
  MI ⟨w,n,g,gk,gm,mb,day,sl,l,V⟩ (fun _=>false) (W.setRow g #[ag day,sl,.map (some mb),.slice (some (ae gk 0)) n n,.slice (some (ae gm 0)) n n]):=by
 have n1:g≠gk:=fun e=>by subst e;rw[k7]at k28;cases k28
 have n2:g≠gm:=fun e=>by subst e;rw[k7]at k31;cases k31
 have n3:gk≠gm:=fun e=>by
  subst e;rw[k28]at k31;injection k31 with e1;injection e1 with _ e2;exact absurd e2 (by decide)
 obtain⟨es,c,hm,_⟩:=id hM;have n4:mb≠gk:=fun e=>by subst e;rw[hm]at k28;cases k28
 have n5:mb≠gm:=fun e=>by subst e;rw[hm]at k31;cases k31
 have n6:mb≠g:=fun e=>by subst e;rw[hm]at k7;cases k7
 have ho: ∀q,q≠g->(W.setRow g #[ag day,sl,.map (some mb),.slice (some (ae gk 0)) n n,.slice (some (ae gm 0)) n n]).heap[q]? =W.heap[q]? :=fun q hq=>aV _ _ _ _ hq;refine⟨fun _ _=>false,⟨below_setRow hJ b7 _,aL _ _ _ _ _ _ k7,(ho _ (fun e=>n1 e.symm)).trans k28,fun i hi=> ?_,⟨_,(ho _ (fun e=>n2 e.symm)).trans k31⟩,hM.later (ho _ n6),⟨b7,b28,b31⟩,n1,n2,n3,n4,n5⟩,fun _ _ h=>by cases h⟩;exact BU ((ho _ (fun e=>n2 e.symm)).trans k31) hi
theorem qR {R:Ending->World->Prop}{a:Act}{w:World}(g:Nat)(v:Value)(er at_:Int)(hd:a.defers=[])(h2:a.tmps.getD 4 undef=v)(h3:a.tmps.getD 5 undef=ab g 0)
  (hg:w.heap[g]? =ah #[ag er,ag at_] 95) (hR:R (.returned (.tuple #[v,.agg #[ag er,ag at_]])) w):bodyPost prog f128 R .ret a w:=by
 refine aW (v:= .tuple #[v,.agg #[ag er,ag at_]]) ?_ hd hR;have h2':a.tmps[4]?.getD undef=v:=by simpa using h2
 have h3':a.tmps[5]?.getD undef=ab g 0:=by simpa using h3
 have hv:=dV (P:=prog) w g 95 95 _ _ _ hg oV rfl (by kernel_rfl);simp[results,results128,h2',h3',asAddr,hv]
theorem J5 (us:List (Ru×Value))(v:Value)(day:Int)(w:World)(h:InR w v us):Calls prog 128 #[v,ag day] w (xJ (us.map (fun p=>p.1)) day w):=by
 obtain⟨l,hl⟩:=au (us.map (fun p=>p.1));obtain⟨n,hn⟩:=au us.length;have hll:l.length=n:=by rw[<-hl,ba,hn]
 obtain⟨pv,cv,rfl⟩:=h.form;have bA:=am w (.cells #[ag 0,ag 0] 95);have n1:=aE w (.cells #[ag 0,ag 0] 95);generalize hwA:w.alloc (.cells #[ag 0,ag 0] 95)=wA at*;have cW:=uC us _ wA (h.below bA);rw[hl]at cW;rw[hl,hn];have HL:=aG hl;have HLN:=aG hn;have HLL:=aG hll;have HI0:=aG h;rw[hn]at cW;go_enter func128,ntmps128;go_wp2_with fail;refine cW.mono ?_;rintro r w1 ⟨rfl,hb1⟩;have m2:=ai hb1 n1;have hb1w:=aw bA hb1;by_cases h0:(dq l).1=0
 ·obtain⟨hw0,_⟩:=lB h0;have h40:=(sE hw0).1;rw[HLL.o]at h40;have H0:=aG h0;rw[h0];generalize (((dq l).2:Nat):Int)=at0 at*;have bC:=am w1 (.cells #[ag 0,ag at0] 95);have HBw:=aG (aw hb1w bC);have HR:=aG (ai bC m2);have m3:=aE w1 (.cells #[ag 0,ag at0] 95);have Hn40:=aG h40;have hI40:(n:Int)<=40:=(by omega);generalize hw2:w1.alloc (.cells #[ag 0,ag at0] 95)=wB at*;have HI:=aG (HI0.o.below HBw.o);have z0:=ak 0 m3;by_cases hd:day<0\/146097<=day
  ·have HF:PH (py l day=(3,0)):=by
    show _=_;unfold py;rw[ax (by simpa using H0.o),aD hd]
   have HO:PH (∀cs,xJ l day w (.returned (.tuple #[af,.agg #[ag 3,ag 0]])) (wB.setRow w.heap.size cs)):=fun cs=>by
    have hML:pK l day=[]:=by
     unfold pK;rw[HF.o];rfl
    refine⟨_,by rw[HF.o];rfl,?_,below_setRow HBw.o (aB _) _⟩;rw[hML];exact BT _ _ _
   have n9:=HR.o;by_cases hd0:day<0
   ·go_wp2_with(refine ay rfl 95 _ _ rfl _ _ rfl rfl _ _ n9 (by kernel_rfl) (by simp) (by simp[Value.oneCell']) ?_)
    exact qR w.heap.size _ 3 0 rfl rfl rfl (aL _ _ _ _ _ _ n9) (HO.o _)
   ·have hd1:146097<=day:=(by omega);go_wp2_with(refine ay rfl 95 _ _ rfl _ _ rfl rfl _ _ n9 (by kernel_rfl) (by simp) (by simp[Value.oneCell']) ?_)
    exact qR w.heap.size _ 3 0 rfl rfl rfl (aL _ _ _ _ _ _ n9) (HO.o _)
  ·have HF:PH (py l day=(0,0)):=by
    show _=_;unfold py;rw[ax (by simpa using H0.o),ax hd]
   have HML:PH (pK l day=(List.range n).map (io l (wkB day) day)):=by
    show _=_;unfold pK;rw[HF.o,HLL.o];rfl
   have hd0: ¬day<0:=fun e=>hd (.inl e);have hd1: ¬146097<=day:=fun e=>hd (.inr e)
   have Hall:PH (∀(g gk gm mb i:Nat),i<n->xH ⟨wB,n,g,gk,gm,mb,day,.slice pv n cv,l,io l (wkB day) day⟩ (i:Int) (io l (wkB day) day i)):=fun g gk gm mb i hi=>by
    have hin:=HI.o;rw[HLN.o]at hin;exact zS (D:=⟨wB,n,g,gk,gm,mb,day,.slice pv n cv,l,io l (wkB day) day⟩) hin HL.o HLN.o H0.o (by show 0<=day;omega) (by show day<146097;omega) (fun _=>rfl) (muR l i+1) i hi (by show muR l i<muR l i+1;omega)
   have Hmb:=aG (run_make_row' (P:=prog) 134 4 (.bool false) 1 zg Bp rfl .i64 .i64 n (by omega) (by omega));rw[vd]at Hmb;have Hmm:=aG (xK n (by omega));go_wp2_with fail;refine oI 12 (AJ wB n day (.slice pv n cv) l) [kn 22 (ag day),kn 23 (.slice pv n cv),kn 24 (.slice pv n cv),td 25,kn 26 (.slice pv n cv),kn 27 (ag (n:Int)),td 28,kn 29 (.slice pv n cv),kn 30 (ag (n:Int)),td 31,td 32,td 7,nk] (fun _=>⟨(aI _ _).drew,(fun h=>by cases h),(fun h=>by cases h),(fun h=>by cases h),(fun h=>by cases h),(fun h=>by cases h)⟩) (fun _ _ _ _ hb h=>h.below hb) (by kernel_rfl) (by kernel_rfl) (fun M φ W2 q12 hJ F l' hl hF=> ?_);simp only[kn,td,nk,dX,aR,aX,Act.put,aA,aK,aJ]at hl;subst hl;simp only[dc,Nat.reduceAdd]at hF;dsimp only[kn,td,nk,dC,eJ,eg,Act.put];and_intros;all_goals first|exact trivial|intro hw hn hm K hK
   all_goals try (go_simp;with_reducible exact hK _ _ ⟨rfl,aI _ _⟩)
   ·have cN:=oQ us _ W2 (HI.o.below hJ.bel);rw[HLN.o]at cN;have q10:=hn 10 _ rfl (by kernel_rfl);go_simp;refine cN.mono ?_;rintro e' W' ⟨mb,rfl,_,hM,hb'⟩;rw[HL.o]at hM;have h':=hJ.below hb';exact hK _ _ ⟨trivial,fun _=>⟨h'.bel,fun _=>⟨mb,dD ..,hM⟩,fun e=>h'.k (by simpa using e),fun e=>h'.g (by simpa using e),(fun e=>by simp[q10]at e),fun e=>h'.d (by simpa using e)⟩,(fun e=>by simp[q12]at e)⟩
   ·have hmk:=Hmb.o W2;have hb:=am W2 (.cells (fF n fun _=>false) 4);have q10:=hn 10 _ rfl (by kernel_rfl);have h':=hJ.below hb;go_simp;exact hK _ _ ⟨trivial,fun _=>⟨h'.bel,fun e=>h'.m (by simpa using e),fun _=>⟨_,dD ..,hJ.bel.size,aE W2 _⟩,fun e=>h'.g (by simpa using e),(fun e=>by simp[q10]at e),fun e=>h'.d (by simpa using e)⟩,(fun e=>by simp[q12]at e)⟩
   ·have hmk:=Hmm.o W2;have hb:=am W2 (.cells (kW n) 86);have q10:=hn 10 _ rfl (by kernel_rfl);have h':=hJ.below hb;go_simp;exact hK _ _ ⟨trivial,fun _=>⟨h'.bel,fun e=>h'.m (by simpa using e),fun e=>h'.k (by simpa using e),fun _=>⟨_,dD ..,hJ.bel.size,aE W2 _⟩,(fun e=>by simp[q10]at e),fun e=>h'.d (by simpa using e)⟩,(fun e=>by simp[q12]at e)⟩
   ·obtain⟨mb,e25,_⟩:=hJ.m (hw ⟨3,.data⟩ (by simp) rfl rfl);obtain⟨gk,e28,_⟩:=hJ.k (hw ⟨6,.data⟩ (by simp) rfl rfl);obtain⟨gm,e31,_⟩:=hJ.g (hw ⟨9,.data⟩ (by simp) rfl rfl);rw[e25,e28,e31]at hF;go_simp;exact hK _ _ ⟨trivial,fun _=>⟨hJ.bel,fun e=>hJ.m (by simpa using e),fun e=>hJ.k (by simpa using e),fun e=>hJ.g (by simpa using e),fun _=>by simp[jj,e25,e28,e31],fun e=>hJ.d (by simpa using e)⟩,(fun e=>by simp[q12]at e)⟩
   ·have hb:=am W2 (.cells #[ag 0,af,.map none,af,af] 227);have h':=hJ.below hb;go_simp;exact hK _ _ ⟨trivial,fun _=>⟨h'.bel,fun e=>h'.m (by simpa using e),fun e=>h'.k (by simpa using e),fun e=>h'.g (by simpa using e),fun e=>h'.a (by simpa using e),fun _=>⟨_,dD ..,hJ.bel.size,aE W2 _⟩⟩,(fun e=>by simp[q12]at e)⟩
   ·obtain⟨mb1,e25,hM⟩:=hJ.m (hw ⟨3,.phase⟩ (by simp) rfl rfl);obtain⟨gk1,e28,b28,k28⟩:=hJ.k (hw ⟨6,.phase⟩ (by simp) rfl rfl);obtain⟨gm1,e31,b31,k31⟩:=hJ.g (hw ⟨9,.phase⟩ (by simp) rfl rfl);obtain⟨g,e7,b7,k7⟩:=hJ.d (hw ⟨11,.data⟩ (by simp) rfl rfl);have e32:=hJ.a (hw ⟨10,.data⟩ (by simp) rfl rfl);rw[e25,e28,e31]at e32;rw[e32,e7]at hF;have hst:=MD.begin (day:=day) (sl:= .slice pv n cv) (V:=io l (wkB day) day) hJ.bel hM b7 k7 b28 k28 b31 k31;refine eE 227 _ _ rfl _ #[ag day,.slice pv n cv,.map (some mb1),.slice (some (ae gk1 0)) n n,.slice (some (ae gm1 0)) n n] (by simp[Act.eval,hF]) (by simp[Act.eval,hF]) _ _ k7 (by kernel_rfl) (by simp) (by simp[Value.oneCell']) ?_;refine hK undef _ ⟨trivial,(fun c=>by simp at c),fun _=> ?_⟩;simp only[en,aR,aX,Act.put,aA,aK,aJ,e25,e28,e31,e32,e7];generalize W2.setRow g #[ag day,.slice pv n cv,.map (some mb1),.slice (some (ae gk1 0)) n n,.slice (some (ae gm1 0)) n n]=W5 at*;have cR:=Hall.o g gk1 gm1 mb1;have HC:=aG cR;go_wp2_with fail;go_loopw [8,35] (fun _ t wr=> ∃j:Nat,t=ag (j:Int)/\j<=n/\ ∃K,MI ⟨wB,n,g,gk1,gm1,mb1,day,.slice pv n cv,l,io l (wkB day) day⟩ K wr/\ ∀k,k<j->K k=true) (fun _ t _=>n-(intOf t).toNat);case atStart=>exact⟨0,rfl,by omega,_,hst,fun k hk=>by omega⟩
    case round=>
     obtain⟨j,rfl,hj,K,hM,hall⟩:=hrel;have hj0:(0:Int)<=(j:Int):=(by omega);have HA:=aG hall;by_cases hlt:j<n
     ·have hlt':(j:Int)<(n:Int):=(by omega);have cJ:=HC.o j hlt K wr hM;go_wp2_with fail;refine cJ.mono ?_;rintro r W6 ⟨rfl,⟨K',hM',hle,hKj⟩,_⟩
      have HN:PH (∃K,MI ⟨wB,n,g,gk1,gm1,mb1,day,.slice pv n cv,l,io l (wkB day) day⟩ K W6/\ ∀k,k<j+1->K k=true):=⟨K',hM',fun k hk=>by
       by_cases e:k=j
       ·subst e;simpa using hKj
       ·exact hle k (HA.o k (by omega))⟩
      go_wp2_with fail;go_roundw;case rel=>exact⟨j+1,by go_num,by omega,HN.o⟩
      case measure=>simp[intOf];omega
     ·have ej:j=n:=(by omega);have hlt': ¬(j:Int)<(n:Int):=(by omega);have k4:=ak 4 hM.blk;have hbw:=hM.bel;have n9:=ai hbw HR.o
      have HO:PH (∀cs,xJ l day w (.returned (.tuple #[.slice (some (ae gm1 0)) n n,.agg #[ag 0,ag 0]])) (wr.setRow w.heap.size cs)):=fun cs=>by
       obtain⟨M,h1,h2⟩:=hM;have hb9:=below_setRow (aw HBw.o hbw) (aB w.heap.size) cs;refine⟨_,by rw[HF.o];rfl,?_,hb9⟩;rw[HML.o];refine Md Hn40.o (fun i hi=> ?_);have h3:=h2 i hi (HA.o i (by omega));have h4:=MSt.meant h1 i hi;rw[h3]at h4;intro q v hv;rw[<-h4 q v hv];exact dY (aV _ _ _ _ (by have:=(MSt.lo h1).2.2;have:=HBw.o.size;have:=aH HR.o;dsimp only at*;omega))
      go_wp2_with(refine ay rfl 95 _ _ rfl _ _ rfl rfl _ _ n9 (by kernel_rfl) (by simp) (by simp[Value.oneCell']) ?_)
      exact qR w.heap.size _ 0 0 rfl rfl rfl (aL _ _ _ _ _ _ n9) (HO.o _)
 ·have H0:=aG h0
  have HF:PH (py l day=dq l):=by
   show _=_;unfold py;rw[aD h0]
  have hne:((dq l).1 !=0)=true:=(by simpa using h0);have bC:=am w1 (.cells #[ag (dq l).1,ag ((dq l).2:Int)] 95);have HBw:=aG (aw hb1w bC);have n9:=ai bC m2;have m3:=aE w1 (.cells #[ag (dq l).1,ag ((dq l).2:Int)] 95);generalize hw2:w1.alloc (.cells #[ag (dq l).1,ag ((dq l).2:Int)] 95)=wB at*
  have HO:PH (∀W,aq w W->xJ l day w (.returned (.tuple #[af,.agg #[ag (dq l).1,ag ((dq l).2:Int)]])) W):=fun W hW=>by
   have hML:pK l day=[]:=by
    unfold pK;rw[HF.o,ax H0.o]
   refine⟨_,by rw[HF.o],?_,hW⟩;rw[hML];exact BT _ _ _
  have z0:=ak 0 m3;have z1:=ak 1 m3;have y0:=ak 0 n9;have y1:=ak 1 n9;have x0:=bl _ _ 0 _ _ n9;have x1:=bl _ _ 1 _ _ n9;have hmm:=aY _ _ 1 _ _ (ag ((dq l).2:Int)) (aY _ _ 0 _ _ (ag (dq l).1) n9);have HBB:=aG ((HBw.o.setCell (p:=⟨w.heap.size,0,none⟩) (aB _) (ag (dq l).1)).setCell (p:=⟨w.heap.size,1,none⟩) (aB _) (ag ((dq l).2:Int)));have HMM:=aG hmm;generalize (dq l).1=er at*;generalize (((dq l).2:Nat):Int)=at0 at*;go_wp2_with fail;go_region;go_wp2_with fail;exact qR w.heap.size _ er at0 rfl rfl rfl HMM.o (HO.o _ (dB HBB.o 1))
end Go.Proofs.YtkfidffapdhbhaaGreatDoor
