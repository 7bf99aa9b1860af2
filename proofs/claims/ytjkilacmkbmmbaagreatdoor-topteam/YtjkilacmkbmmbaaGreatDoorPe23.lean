/- Texts of the proof. -/
import Derived.Test.YtjkilacmkbmmbaaGreatDoorPe22
set_option maxRecDepth 100000
set_option maxHeartbeats 8000000
namespace Go.Proofs.YtjkilacmkbmmbaaGreatDoor
open Go.Proofs.Tryz Go.RowKit Lx Vx Mx Msk
section
theorem xH: ∀{l:List Ru} {i:Nat},(ju l i).1=0-> ∀u∈l,OKE u.2
 |[],_,_,u,hu=>by cases hu
 |v::l,i,h,u,hu=>by
  unfold ju at h;split at h
  ·rename_i h1;exact absurd h h1
  ·rename_i h1;rcases bh.1 hu with rfl|hu
   ·have h2:ruleP u=0:=(by simpa using h1);unfold ruleP at h2;split at h2
    ·cases h2
    ·exact⟨_,_,h2⟩
   ·exact xH h u hu
theorem sB {l:List Ru}(h:(fy l).1=0):l.length<=40/\ ∀u∈l,OKE u.2:=by
 unfold fy at h;split at h
 ·cases h
 ·exact⟨by omega,xH h⟩
def xI (D:MD)(i:Int)(f:Nat->Bool):Prop:= ∀(K:Nat->Bool) (W:World),MI D K W->Calls prog 29 #[ab D.g 0,ag i] W fun r W'=>r= .returned (.agg (mv f))/\MQ D (fun K'=>Les K K'/\K' i.toNat=true) W W'
section
variable {wk:Bool} {day a b:Int} {nm:Nat->Bool} {ks:List (Nat->Bool)}
theorem Oa:mo wk day 1 a b nm ks=fun _=>false:=rfl
theorem Ob:mo wk day 2 a b nm ks=fun i=>decide (i<1440):=rfl
theorem Oc:mo wk day 3 a b nm ks=fun i:Nat=>(decide (a<=(i:Int))&&decide ((i:Int)<b))&&decide (i<1440):=rfl
theorem Hy:mo wk day 4 a b nm ks=if wk=true then ks.getD 0 nev else fun _=>false:=rfl
theorem Hz:mo wk day 5 a b nm ks=if a<=day/\day<=b then ks.getD 0 nev else fun _=>false:=rfl
theorem H2:mo wk day 6 a b nm ks=fun i=>(ks.getD 0 nev i||ks.getD 1 nev i)&&decide (i<1440):=rfl
theorem H3:mo wk day 7 a b nm ks=fun i=>(ks.getD 0 nev i&& !ks.getD 1 nev i)&&decide (i<1440):=rfl
theorem H4:mo wk day 8 a b nm ks=fun i=>(ks.getD 0 nev i&&ks.getD 1 nev i)&&decide (i<1440):=rfl
theorem H5:mo wk day 9 a b nm ks=shf (ks.getD 0 nev) a:=rfl
theorem DS:mo wk day 10 a b nm ks=nm:=rfl
end
theorem lR {F:Ex->Nat->Bool}{ks:List Ex}{j:Nat}{k:Ex}(h:ks[j]? =some k):(ks.map F).getD j nev=F k:=by
 rw[dJ,bg,h];rfl
theorem xJ {D:MD}{K0:Nat->Bool}{W:World}{env:List UInt8->Nat->Bool}{e:Ex}{pe:Option Addr}{ce:Nat}(h:MI D K0 W)(hok:OKE e)(d0:0<=D.day)(d1:D.day<146097)
  (hkids: ∀(j:Nat) (k:Ex),e.kids[j]? =some k->qv D e.kind e.a e.b e.name pe e.kids ce (j:Int) (eQ (wkB D.day) D.day env k)) (hrule:e.kind=10->0<=atP5 D.l e.name/\xI D (atP5 D.l e.name) (env e.name)):
  Calls prog 46 #[ab D.g 0,exV e (.slice pe e.kids.length ce)] W fun r W'=>r= .returned (.agg (mv (eQ (wkB D.day) D.day env e)))/\MQ D (Les K0) W W':=by
 have hv:=jk (wkB D.day) D.day env e;obtain⟨k1,k2,_,hr,_⟩:=hok.kinds;have h0:=fun hk=>hok.kid0 hk;have h1:=fun hk=>hok.kid1 hk;obtain⟨kd,a,b,nm,ks⟩:=e;unfold exV;dsimp only at*;have hc:kd=1\/kd=2\/kd=3\/kd=4\/kd=5\/kd=6\/kd=7\/kd=8\/kd=9\/kd=10:=by omega
 rw[hv];rcases hc with rfl|rfl|rfl|rfl|rfl|rfl|rfl|rfl|rfl|rfl
 ·rw[Oa];exact N6 h
 ·rw[Ob];exact N7 h
 ·rw[Oc];exact N8 h
 ·obtain⟨k,hk,_⟩:=h0 (by decide);rw[Hy,lR hk];cases hg:wkB D.day a with
  |true=>exact Mw h d0 d1 hg (hkids 0 k hk)
  |false=>exact My h d0 d1 hg
 ·obtain⟨k,hk,_⟩:=h0 (by decide);rw[Hz,lR hk];by_cases hg:a<=D.day/\D.day<=b
  ·rw[ay hg];exact Mz h d0 d1 (by simp[hg.1,hg.2]) (hkids 0 k hk)
  ·rw[aw hg]
   exact MA h d0 d1 (by
    by_cases h1:a<=D.day
    ·simp[h1,show¬D.day<=b from fun h2=>hg ⟨h1,h2⟩]
    ·simp[h1])
 ·obtain⟨k,hk,_⟩:=h0 (by decide);obtain⟨k',hk',_⟩:=h1 (by decide);rw[H2,lR hk,lR hk'];exact N3 h (hkids 0 k hk) (hkids 1 k' hk')
 ·obtain⟨k,hk,_⟩:=h0 (by decide);obtain⟨k',hk',_⟩:=h1 (by decide);rw[H3,lR hk,lR hk'];exact N4 h (hkids 0 k hk) (hkids 1 k' hk')
 ·obtain⟨k,hk,_⟩:=h0 (by decide);obtain⟨k',hk',_⟩:=h1 (by decide);rw[H4,lR hk,lR hk'];exact N5 h (hkids 0 k hk) (hkids 1 k' hk')
 ·obtain⟨k,hk,_⟩:=h0 (by decide);rw[H5,lR hk];have hb:a≠0/\ -1440<a/\a<1440:=(by simpa[rangeP] using hr);exact N9 h (by omega) (by omega) (hkids 0 k hk)
 ·rw[DS];obtain⟨hx,hR⟩:=hrule rfl;exact MC h hx hR
theorem H6 {D:MD}{env:List UInt8->Nat->Bool}(d0:0<=D.day)(d1:D.day<146097): ∀(d:Nat) (e:Ex) (sl:Value),fD (fun k=>k<D.w.heap.size) d D.w sl e.kids->OKE e->(∀x∈nms e,0<=atP5 D.l x/\xI D (atP5 D.l x) (env x))-> ∀(K:Nat->Bool) (W:World),MI D K W->
  Calls prog 46 #[ab D.g 0,exV e sl] W fun r W'=>r= .returned (.agg (mv (eQ (wkB D.day) D.day env e)))/\MQ D (Les K) W W':=by
 have none: ∀(e:Ex) (p:Option Addr) (c:Nat),e.kids=[]->OKE e->(∀x∈nms e,0<=atP5 D.l x/\xI D (atP5 D.l x) (env x))-> ∀(K:Nat->Bool) (W:World),MI D K W->
   Calls prog 46 #[ab D.g 0,exV e (.slice p 0 c)] W fun r W'=>r= .returned (.agg (mv (eQ (wkB D.day) D.day env e)))/\MQ D (Les K) W W':=fun e p c h0 hok hn K W hM=>by
  have:=xJ (env:=env) (pe:=p) (ce:=c) hM hok d0 d1 (fun j k hj=>by rw[h0]at hj;simp at hj) fun hk=>hn e.name (by rw[ly,ay hk];simp);rw[h0]at this;exact this
 intro d;induction d with
 |zero=>
  intro e sl hk hok hn K W hM;obtain⟨h0,p,c,rfl⟩:=hk;exact none e p c h0 hok hn K W hM
 |succ d ih=>
  intro e sl hk hok hn K W hM;rcases hk with⟨h0,p,c,rfl⟩|⟨g,o,c,_,rfl,hl,hkk⟩
  ·exact none e p c h0 hok hn K W hM
  ·refine xJ hM hok d0 d1 (fun j k hj=> ?_) fun hk=>hn e.name (by rw[ly,ay hk];simp);obtain⟨_,sk,c0,c1,c2,c3,c4,r⟩:=hkk j k hj;obtain⟨ps,cs,rfl⟩:=r.form;have hmem:k∈e.kids:=aM hj;intro bd be K' W' hM' hbd hbe n1 n2 n3 n4
   exact Mv hM' hj hl hbd hbe n1 n2 n3 n4 c0 c1 c2 c3 c4 fun K2 W2 hM2=>ih k _ r (hok.kid hmem) (fun x hx=>hn x (by
    rw[ly,bJ];right;unfold jn;exact List.mem_flatten.2 ⟨nms k,dw.2 ⟨k,hmem,rfl⟩,hx⟩)) K2 W2 hM2
theorem zX {D:MD}{us:List (Ru×Value)}(hin:InR D.w D.lv us)(hl:us.map (fun p=>p.1)=D.l)(hn:us.length=D.n)(hc:(di D.l).1=0)(d0:0<=D.day)(d1:D.day<146097)(hV: ∀i,D.V i=fW D.l (wkB D.day) D.day i):
  ∀(m i:Nat),i<D.n->muR D.l i<m->xI D (i:Int) (D.V i)
 |0,_,_,h=>by omega
 |m+1,i,hi,hmu=>by
  intro K W hM;obtain⟨hw0,hno⟩:=li hc;obtain⟨h40,hoke⟩:=sB hw0;have hll:D.l.length=D.n:=(by rw[<-hl,aZ,hn]);cases hK:K i with
  |true=>
   obtain⟨M,h1,h2⟩:=id hM;refine(Fh h1 hi (by omega) hK).mono ?_;rintro r W' ⟨rfl,hb⟩;rw[h2 i hi hK];exact⟨rfl,⟨K,hM.later hb,Les.refl K,hK⟩,Kp.below hb⟩
  |false=>
   obtain⟨⟨u,sl⟩,hu⟩: ∃p,us[i]? =some p:=⟨us[i]'(by omega),ax _⟩
   have hul:D.l[i]? =some u:=(by rw[<-hl,bg,hu];rfl);obtain⟨_,_,d,hkB⟩:=hin.all _ (aM hu);dsimp only at hkB;obtain⟨ps,cs,rfl⟩:=hkB.form;obtain⟨pv,cv,hlv⟩:=hin.form;have hin':=hin;rw[hlv]at hin';obtain⟨b,o,rfl,_⟩:=hin'.cells i _ hu;rw[hn]at hlv;refine Ki hin (by omega) hlv hn hu hM hK fun K2 W2 hM2=> ?_;have hE:=H6 (env:=fun x=>D.V (atP5 D.l x).toNat) d0 d1 d u.2 _ hkB (hoke u (aM hul)) (fun x hx=> ?_) K2 W2 hM2
   ·have e:eQ (wkB D.day) D.day (fun x=>D.V (atP5 D.l x).toNat) u.2=D.V i:=by
     rw[hV i,od hc hul];exact mR _ _ (aA _) fun x _=>hV _
    rw[e]at hE;exact hE
   ·have hj:=mT hc hul hx;have hlt:=rL hc (by omega) hj;have hjl:=ml hno i _ hj;have hb:=(nP D.l x).1
    have hn1:atP5 D.l x≠ -1:=fun e=>hno u (aM hul) (by
     unfold fz;exact(py _ _).2 (.inr ⟨x,hx,e⟩))
    refine⟨by omega,?_⟩;have:=zX hin hl hn hc d0 d1 hV m (atP5 D.l x).toNat (by omega) (by omega);rw[show(((atP5 D.l x).toNat:Nat):Int)=atP5 D.l x by omega]at this;exact this
end
def oZ (l:List Ru)(day:Int):Int×Nat:=if(di l).1≠0 then di l else if day<0\/146097<=day then(3,0) else(0,0)
def pC (l:List Ru)(day:Int):List (Nat->Bool):=if(oZ l day).1=0 then(List.range l.length).map (fW l (wkB day) day) else []
def Kk (w:World)(v:Value)(fs:List (Nat->Bool)):Prop:= ∃p c,v= .slice p fs.length c/\(fs.length<=40/\fs.length<=c)/\ ∀(i:Nat) (f:Nat->Bool),fs[i]? =some f-> ∃g o:Nat,p=some ⟨g,o,none⟩/\w.rangeAt g (o+i*23) (mv f).toList
def xK (l:List Ru)(day:Int)(w:World)(e:Ending)(w':World):Prop:= ∃v,e= .returned (.tuple #[v,.agg #[ag (oZ l day).1,ag ((oZ l day).2:Int)]])/\Kk w' v (pC l day)/\ao w w'
theorem BX (w:World)(p:Option Addr)(c:Nat):Kk w (.slice p 0 c) []:=⟨p,c,rfl,⟨by simp,by simp⟩,fun i f hi=>by simp at hi⟩
theorem ME {w:World}{gm n:Nat}{F:Nat->Nat->Bool}(hn:n<=40)(h: ∀i,i<n->w.rangeAt gm (i*23) (mv (F i)).toList):Kk w (.slice (some (ae gm 0)) n n) ((List.range n).map F):=by
 refine⟨some ⟨gm,0,none⟩,n,by simp,⟨by simpa using hn,by simp⟩,fun i f hi=>⟨gm,0,rfl,?_⟩⟩;rw[bg]at hi;cases hr:(List.range n)[i]? with
 |none=>rw[hr]at hi;cases hi
 |some k=>
  rw[hr]at hi;have hf:F k=f:=aK hi;obtain⟨h1,h2⟩:=aE.1 hr;have hk:k=i:=(by rw[<-h2];simp);have hin:i<n:=(by simpa using h1);rw[<-hf,hk,bK];exact h i hin
def kH (n:Nat):Array Value:=madeCells (mv fun _=>false) (n*23)
theorem zY {n i j:Nat}(hi:i<n)(hj:j<23):(kH n)[i*23+j]? =(mv fun _=>false)[j]? :=by
 have h1:i*23+j<n*23:=by
  have:(i+1)*23<=n*23:=Nat.mul_le_mul_right 23 hi;omega
 have h2:(i*23+j)%23=j:=by omega
 have h3:j<(mv fun _=>false).size:=by rw[bO];exact hj
 simp[kH,madeCells,h1,bO,h2];rw[Array.getElem!_eq_getD,Array.getD_eq_getD_getElem?,fk h3];rfl
theorem BY {w:World}{g n:Nat}{t:TypeId}(h:w.heap[g]? =ah (kH n) t){i:Nat}(hi:i<n):w.rangeAt g (i*23) (mv fun _=>false).toList:=fun j v hv=>by
 have hj:j<23:=by
  have:=(aE.1 hv).1;rw[bP,bO]at this;exact this
 rw[aV _ _ _ _ _ _ h,zY hi hj,<-bo];exact hv
theorem H7:(prog.info? 61).map (fun i=>(i.zero,i.size,i.bytes))=some (some (.agg #[.int .u64 0, .int .u64 0, .int .u64 0, .int .u64 0, .int .u64 0, .int .u64 0, .int .u64 0, .int .u64 0, .int .u64 0, .int .u64 0, .int .u64 0, .int .u64 0, .int .u64 0, .int .u64 0, .int .u64 0, .int .u64 0, .int .u64 0, .int .u64 0, .int .u64 0, .int .u64 0, .int .u64 0, .int .u64 0, .int .u64 0]),23,184):=by kernel_rfl
theorem Fi:prog.underlying 55=some (.slice 61):=by kernel_rfl
theorem xL (n:Nat)(hn:n<=1000)(w:World):(Instr.makeSlice 55 (ag (n:Int)) (ag (n:Int))).run prog w= .ok (.slice (some (ae w.heap.size 0)) n n) (w.alloc (.cells (kH n) 61)):=by
 obtain⟨i,hi,hzz⟩:=eI.1 H7;simp only[Prod.mk.injEq]at hzz;obtain⟨hz,hs,hb⟩:=hzz;have hr:=run_make (P:=prog) w 55 61 i _ Fi hi hz .i64 .i64 n n (by omega) (fi _) (by rw[hb];omega) (by omega);rw[hs]at hr;have e:(Value.agg #[.int .u64 0, .int .u64 0, .int .u64 0, .int .u64 0, .int .u64 0, .int .u64 0, .int .u64 0, .int .u64 0, .int .u64 0, .int .u64 0, .int .u64 0, .int .u64 0, .int .u64 0, .int .u64 0, .int .u64 0, .int .u64 0, .int .u64 0, .int .u64 0, .int .u64 0, .int .u64 0, .int .u64 0, .int .u64 0, .int .u64 0]).cells=mv fun _=>false:=dU;rw[e]at hr;simpa[kH] using hr
structure AJ (B:World)(n:Nat)(day:Int)(sl:Value)(l:List Ru)(M:Nat->Bool)(φ:Nat->Value)(W:World):Prop where
 bel:ao B W
 m:M 3=true-> ∃mb,φ 25= .map (some mb)/\iT W mb l
 k:M 6=true-> ∃gk:Nat,φ 28= .slice (some (ae gk 0)) n n/\B.heap.size<=gk/\W.heap[gk]? =ah (eX n fun _=>false) 4
 g:M 9=true-> ∃gm:Nat,φ 31= .slice (some (ae gm 0)) n n/\B.heap.size<=gm/\W.heap[gm]? =ah (kH n) 61
 a:M 10=true->φ 32= .agg #[ag day,sl,φ 25,φ 28,φ 31]
 d:M 11=true-> ∃g:Nat,φ 7=ab g 0/\B.heap.size<=g/\W.heap[g]? =ah #[ag 0,af,.map none,af,af] 86
theorem AJ.below {B:World}{n:Nat}{day:Int}{sl:Value}{l:List Ru}{M:Nat->Bool}{φ:Nat->Value}{W W':World}(h:AJ B n day sl l M φ W)(hb:ao W W'):AJ B n day sl l M φ W':=by
 have bk: ∀{k:Nat} {o:Obj},W.heap[k]? =some o->W'.heap[k]? =some o:=fun h=>ai hb h;exact⟨au h.bel hb,fun e=>(h.m e).imp fun _ q=>⟨q.1,q.2.later (hb.block _ (gN q.2))⟩,fun e=>(h.k e).imp fun _ q=>⟨q.1,q.2.1,bk q.2.2⟩,fun e=>(h.g e).imp fun _ q=>⟨q.1,q.2.1,bk q.2.2⟩,h.a,fun e=>(h.d e).imp fun _ q=>⟨q.1,q.2.1,bk q.2.2⟩⟩
theorem MD.begin {w W:World}{n g gk gm mb:Nat}{day:Int}{sl:Value}{l:List Ru}{V:Nat->Nat->Bool}{old:Array Value}(hJ:ao w W)(hM:iT W mb l)(b7:w.heap.size<=g)(k7:W.heap[g]? =ah old 86)
  (b28:w.heap.size<=gk) (k28:W.heap[gk]? =ah (eX n fun _=>false) 4) (b31:w.heap.size<=gm) (k31:W.heap[gm]? =ah (kH n) 61):
  MI ⟨w,n,g,gk,gm,mb,day,sl,l,V⟩ (fun _=>false) (W.setRow g #[ag day,sl,.map (some mb),.slice (some (ae gk 0)) n n,.slice (some (ae gm 0)) n n]):=by
 have n1:g≠gk:=fun e=>by subst e;rw[k7]at k28;cases k28
 have n2:g≠gm:=fun e=>by subst e;rw[k7]at k31;cases k31
 have n3:gk≠gm:=fun e=>by
  subst e;rw[k28]at k31;injection k31 with e1;injection e1 with _ e2;exact absurd e2 (by decide)
 obtain⟨es,c,hm,_⟩:=id hM;have n4:mb≠gk:=fun e=>by subst e;rw[hm]at k28;cases k28
 have n5:mb≠gm:=fun e=>by subst e;rw[hm]at k31;cases k31
 have n6:mb≠g:=fun e=>by subst e;rw[hm]at k7;cases k7
 have ho: ∀q,q≠g->(W.setRow g #[ag day,sl,.map (some mb),.slice (some (ae gk 0)) n n,.slice (some (ae gm 0)) n n]).heap[q]? =W.heap[q]? :=fun q hq=>aT _ _ _ _ hq;refine⟨fun _ _=>false,⟨below_setRow hJ b7 _,aJ _ _ _ _ _ _ k7,(ho _ (fun e=>n1 e.symm)).trans k28,fun i hi=> ?_,⟨_,(ho _ (fun e=>n2 e.symm)).trans k31⟩,hM.later (ho _ n6),⟨b7,b28,b31⟩,n1,n2,n3,n4,n5⟩,fun _ _ h=>by cases h⟩;exact BY ((ho _ (fun e=>n2 e.symm)).trans k31) hi
theorem qO {R:Ending->World->Prop}{a:Act}{w:World}(g:Nat)(v:Value)(er at_:Int)(hd:a.defers=[])(h2:a.tmps.getD 4 undef=v)(h3:a.tmps.getD 5 undef=ab g 0)
  (hg:w.heap[g]? =ah #[ag er,ag at_] 47) (hR:R (.returned (.tuple #[v,.agg #[ag er,ag at_]])) w):bodyPost prog f17 R .ret a w:=by
 refine aU (v:= .tuple #[v,.agg #[ag er,ag at_]]) ?_ hd hR;have h2':a.tmps[4]?.getD undef=v:=by simpa using h2
 have h3':a.tmps[5]?.getD undef=ab g 0:=by simpa using h3
 have hv:=dR (P:=prog) w g 47 47 _ _ _ hg oJ rfl (by kernel_rfl);simp[results,results17,h2',h3',asAddr,hv]
theorem Kl (us:List (Ru×Value))(v:Value)(day:Int)(w:World)(h:InR w v us):Calls prog 17 #[v,ag day] w (xK (us.map (fun p=>p.1)) day w):=by
 obtain⟨l,hl⟩:=aq (us.map (fun p=>p.1));obtain⟨n,hn⟩:=aq us.length;have hll:l.length=n:=by rw[<-hl,aZ,hn]
 obtain⟨pv,cv,rfl⟩:=h.form;have bA:=am w (.cells #[ag 0,ag 0] 47);have n1:=aC w (.cells #[ag 0,ag 0] 47);generalize hwA:w.alloc (.cells #[ag 0,ag 0] 47)=wA at*;have cW:=uw us _ wA (h.below bA);rw[hl]at cW;rw[hl,hn];have HL:=aD hl;have HLN:=aD hn;have HLL:=aD hll;have HI0:=aD h;rw[hn]at cW;clear hl hll h hn;go_enter func17,ntmps17;go_wp2_with fail;refine cW.mono ?_;rintro r w1 ⟨rfl,hb1⟩;have m2:=ai hb1 n1;have hb1w:=au bA hb1;clear cW n1 hb1 bA hwA;by_cases h0:(di l).1=0
 ·obtain⟨hw0,_⟩:=li h0;have h40:=(sB hw0).1;rw[HLL.o]at h40;have H0:=aD h0;rw[h0];generalize (((di l).2:Nat):Int)=at0 at*;have bC:=am w1 (.cells #[ag 0,ag at0] 47);have HBw:=aD (au hb1w bC);have HR:=aD (ai bC m2);have m3:=aC w1 (.cells #[ag 0,ag at0] 47);have Hn40:=aD h40;have hI40:(n:Int)<=40:=(by omega);clear bC hb1w m2 h0 h40 hw0;generalize hw2:w1.alloc (.cells #[ag 0,ag at0] 47)=wB at*;have HI:=aD (HI0.o.below HBw.o);have z0:=ak 0 m3;by_cases hd:day<0\/146097<=day
  ·have HF:P3 (oZ l day=(3,0)):=by
    show _=_;unfold oZ;rw[aw (by simpa using H0.o),ay hd]
   have HO:P3 (∀cs,xK l day w (.returned (.tuple #[af,.agg #[ag 3,ag 0]])) (wB.setRow w.heap.size cs)):=fun cs=>by
    have hML:pC l day=[]:=by
     unfold pC;rw[HF.o];rfl
    refine⟨_,by rw[HF.o];rfl,?_,below_setRow HBw.o (aA _) _⟩;rw[hML];exact BX _ _ _
   have n9:=HR.o;by_cases hd0:day<0
   ·clear hd;go_wp2_with(refine az rfl 47 _ _ rfl _ _ rfl rfl _ _ n9 (by kernel_rfl) (by simp) (by simp[Value.oneCell']) ?_)
    exact qO w.heap.size _ 3 0 rfl rfl rfl (aJ _ _ _ _ _ _ n9) (HO.o _)
   ·have hd1:146097<=day:=(by omega);clear hd;go_wp2_with(refine az rfl 47 _ _ rfl _ _ rfl rfl _ _ n9 (by kernel_rfl) (by simp) (by simp[Value.oneCell']) ?_)
    exact qO w.heap.size _ 3 0 rfl rfl rfl (aJ _ _ _ _ _ _ n9) (HO.o _)
  ·have HF:P3 (oZ l day=(0,0)):=by
    show _=_;unfold oZ;rw[aw (by simpa using H0.o),aw hd]
   have HML:P3 (pC l day=(List.range n).map (fW l (wkB day) day)):=by
    show _=_;unfold pC;rw[HF.o,HLL.o];rfl
   have hd0: ¬day<0:=fun e=>hd (.inl e);have hd1: ¬146097<=day:=fun e=>hd (.inr e)
   have Hall:P3 (∀(g gk gm mb i:Nat),i<n->xI ⟨wB,n,g,gk,gm,mb,day,.slice pv n cv,l,fW l (wkB day) day⟩ (i:Int) (fW l (wkB day) day i)):=fun g gk gm mb i hi=>by
    have hin:=HI.o;rw[HLN.o]at hin;exact zX (D:=⟨wB,n,g,gk,gm,mb,day,.slice pv n cv,l,fW l (wkB day) day⟩) hin HL.o HLN.o H0.o (by show 0<=day;omega) (by show day<146097;omega) (fun _=>rfl) (muR l i+1) i hi (by show muR l i<muR l i+1;omega)
   have Hmb:=aD (run_make_row' (P:=prog) 84 4 (.bool false) 1 zl Bx rfl .i64 .i64 n (by omega) (by omega));rw[vd]at Hmb;have Hmm:=aD (xL n (by omega));clear hd;go_wp2_with fail;clear z0 m3 hw2;refine qW 12 (AJ wB n day (.slice pv n cv) l) [kn 22 (ag day),kn 23 (.slice pv n cv),kn 24 (.slice pv n cv),td 25,kn 26 (.slice pv n cv),kn 27 (ag (n:Int)),td 28,kn 29 (.slice pv n cv),kn 30 (ag (n:Int)),td 31,td 32,td 7,nk] (fun _=>⟨(aG _ _).drew,(fun h=>by cases h),(fun h=>by cases h),(fun h=>by cases h),(fun h=>by cases h),(fun h=>by cases h)⟩) (fun _ _ _ _ hb h=>h.below hb) (by kernel_rfl) (by kernel_rfl) (fun M φ W2 q12 hJ F l' hl hF=> ?_);simp only[kn,td,nk,dN,aQ,aW,Act.put,aB,aI,aH]at hl;subst hl;simp only[dg,Nat.reduceAdd]at hF;dsimp only[kn,td,nk,dC,en,dS,Act.put];and_intros;all_goals first|exact trivial|intro hw hn hm K hK
   all_goals try (go_simp;with_reducible exact hK _ _ ⟨rfl,aG _ _⟩)
   ·have cN:=oD us _ W2 (HI.o.below hJ.bel);rw[HLN.o]at cN;have q10:=hn 10 _ rfl (by kernel_rfl);go_simp;refine cN.mono ?_;rintro e' W' ⟨mb,rfl,_,hM,hb'⟩;rw[HL.o]at hM;have h':=hJ.below hb';exact hK _ _ ⟨trivial,fun _=>⟨h'.bel,fun _=>⟨mb,dI ..,hM⟩,fun e=>h'.k (by simpa using e),fun e=>h'.g (by simpa using e),(fun e=>by simp[q10]at e),fun e=>h'.d (by simpa using e)⟩,(fun e=>by simp[q12]at e)⟩
   ·have hmk:=Hmb.o W2;have hb:=am W2 (.cells (eX n fun _=>false) 4);have q10:=hn 10 _ rfl (by kernel_rfl);have h':=hJ.below hb;go_simp;exact hK _ _ ⟨trivial,fun _=>⟨h'.bel,fun e=>h'.m (by simpa using e),fun _=>⟨_,dI ..,hJ.bel.size,aC W2 _⟩,fun e=>h'.g (by simpa using e),(fun e=>by simp[q10]at e),fun e=>h'.d (by simpa using e)⟩,(fun e=>by simp[q12]at e)⟩
   ·have hmk:=Hmm.o W2;have hb:=am W2 (.cells (kH n) 61);have q10:=hn 10 _ rfl (by kernel_rfl);have h':=hJ.below hb;go_simp;exact hK _ _ ⟨trivial,fun _=>⟨h'.bel,fun e=>h'.m (by simpa using e),fun e=>h'.k (by simpa using e),fun _=>⟨_,dI ..,hJ.bel.size,aC W2 _⟩,(fun e=>by simp[q10]at e),fun e=>h'.d (by simpa using e)⟩,(fun e=>by simp[q12]at e)⟩
   ·obtain⟨mb,e25,_⟩:=hJ.m (hw ⟨3,.data⟩ (by simp) rfl rfl);obtain⟨gk,e28,_⟩:=hJ.k (hw ⟨6,.data⟩ (by simp) rfl rfl);obtain⟨gm,e31,_⟩:=hJ.g (hw ⟨9,.data⟩ (by simp) rfl rfl);rw[e25,e28,e31]at hF;go_simp;exact hK _ _ ⟨trivial,fun _=>⟨hJ.bel,fun e=>hJ.m (by simpa using e),fun e=>hJ.k (by simpa using e),fun e=>hJ.g (by simpa using e),fun _=>by simp[pR,e25,e28,e31],fun e=>hJ.d (by simpa using e)⟩,(fun e=>by simp[q12]at e)⟩
   ·have hb:=am W2 (.cells #[ag 0,af,.map none,af,af] 86);have h':=hJ.below hb;go_simp;exact hK _ _ ⟨trivial,fun _=>⟨h'.bel,fun e=>h'.m (by simpa using e),fun e=>h'.k (by simpa using e),fun e=>h'.g (by simpa using e),fun e=>h'.a (by simpa using e),fun _=>⟨_,dI ..,hJ.bel.size,aC W2 _⟩⟩,(fun e=>by simp[q12]at e)⟩
   ·obtain⟨mb1,e25,hM⟩:=hJ.m (hw ⟨3,.phase⟩ (by simp) rfl rfl);obtain⟨gk1,e28,b28,k28⟩:=hJ.k (hw ⟨6,.phase⟩ (by simp) rfl rfl);obtain⟨gm1,e31,b31,k31⟩:=hJ.g (hw ⟨9,.phase⟩ (by simp) rfl rfl);obtain⟨g,e7,b7,k7⟩:=hJ.d (hw ⟨11,.data⟩ (by simp) rfl rfl);have e32:=hJ.a (hw ⟨10,.data⟩ (by simp) rfl rfl);rw[e25,e28,e31]at e32;rw[e32,e7]at hF;have hst:=MD.begin (day:=day) (sl:= .slice pv n cv) (V:=fW l (wkB day) day) hJ.bel hM b7 k7 b28 k28 b31 k31;refine dT 86 _ _ rfl _ #[ag day,.slice pv n cv,.map (some mb1),.slice (some (ae gk1 0)) n n,.slice (some (ae gm1 0)) n n] (by simp[Act.eval,hF]) (by simp[Act.eval,hF]) _ _ k7 (by kernel_rfl) (by simp) (by simp[Value.oneCell']) ?_;refine hK undef _ ⟨trivial,(fun c=>by simp at c),fun _=> ?_⟩;simp only[dP,aQ,aW,Act.put,aB,aI,aH,e25,e28,e31,e32,e7];clear hK hF hw hn hm hJ e25 e28 e31 e32 e7 k7 k28 k31 hM;generalize W2.setRow g #[ag day,.slice pv n cv,.map (some mb1),.slice (some (ae gk1 0)) n n,.slice (some (ae gm1 0)) n n]=W5 at*;have cR:=Hall.o g gk1 gm1 mb1;have HC:=aD cR;clear cR Hall;go_wp2_with fail;go_loopw [8,35] (fun _ t wr=> ∃j:Nat,t=ag (j:Int)/\j<=n/\ ∃K,MI ⟨wB,n,g,gk1,gm1,mb1,day,.slice pv n cv,l,fW l (wkB day) day⟩ K wr/\ ∀k,k<j->K k=true) (fun _ t _=>n-(intOf t).toNat);case atStart=>exact⟨0,rfl,by omega,_,hst,fun k hk=>by omega⟩
    case round=>
     obtain⟨j,rfl,hj,K,hM,hall⟩:=hrel;have hj0:(0:Int)<=(j:Int):=(by omega);have HA:=aD hall;clear hall hst;by_cases hlt:j<n
     ·have hlt':(j:Int)<(n:Int):=(by omega);have cJ:=HC.o j hlt K wr hM;go_wp2_with fail;refine cJ.mono ?_;rintro r W6 ⟨rfl,⟨K',hM',hle,hKj⟩,_⟩
      have HN:P3 (∃K,MI ⟨wB,n,g,gk1,gm1,mb1,day,.slice pv n cv,l,fW l (wkB day) day⟩ K W6/\ ∀k,k<j+1->K k=true):=⟨K',hM',fun k hk=>by
       by_cases e:k=j
       ·subst e;simpa using hKj
       ·exact hle k (HA.o k (by omega))⟩
      clear cJ hM hM' hle hKj HA;go_wp2_with fail;go_roundw;case rel=>exact⟨j+1,by go_num,by omega,HN.o⟩
      case measure=>simp[intOf];omega
     ·have ej:j=n:=(by omega);have hlt': ¬(j:Int)<(n:Int):=(by omega);have k4:=ak 4 hM.blk;have hbw:=hM.bel;have n9:=ai hbw HR.o
      have HO:P3 (∀cs,xK l day w (.returned (.tuple #[.slice (some (ae gm1 0)) n n,.agg #[ag 0,ag 0]])) (wr.setRow w.heap.size cs)):=fun cs=>by
       obtain⟨M,h1,h2⟩:=hM;have hb9:=below_setRow (au HBw.o hbw) (aA w.heap.size) cs;refine⟨_,by rw[HF.o];rfl,?_,hb9⟩;rw[HML.o];refine ME Hn40.o (fun i hi=> ?_);have h3:=h2 i hi (HA.o i (by omega));have h4:=MSt.meant h1 i hi;rw[h3]at h4;intro q v hv;rw[<-h4 q v hv];exact dL (aT _ _ _ _ (by have:=(MSt.lo h1).2.2;have:=HBw.o.size;have:=aF HR.o;dsimp only at*;omega))
      clear HA hM HC;go_wp2_with(refine az rfl 47 _ _ rfl _ _ rfl rfl _ _ n9 (by kernel_rfl) (by simp) (by simp[Value.oneCell']) ?_)
      exact qO w.heap.size _ 0 0 rfl rfl rfl (aJ _ _ _ _ _ _ n9) (HO.o _)
 ·have H0:=aD h0
  have HF:P3 (oZ l day=di l):=by
   show _=_;unfold oZ;rw[ay h0]
  have hne:((di l).1 !=0)=true:=(by simpa using h0);have bC:=am w1 (.cells #[ag (di l).1,ag ((di l).2:Int)] 47);have HBw:=aD (au hb1w bC);have n9:=ai bC m2;have m3:=aC w1 (.cells #[ag (di l).1,ag ((di l).2:Int)] 47);clear bC hb1w m2 h0;generalize hw2:w1.alloc (.cells #[ag (di l).1,ag ((di l).2:Int)] 47)=wB at*
  have HO:P3 (∀W,ao w W->xK l day w (.returned (.tuple #[af,.agg #[ag (di l).1,ag ((di l).2:Int)]])) W):=fun W hW=>by
   have hML:pC l day=[]:=by
    unfold pC;rw[HF.o,aw H0.o]
   refine⟨_,by rw[HF.o],?_,hW⟩;rw[hML];exact BX _ _ _
  have z0:=ak 0 m3;have z1:=ak 1 m3;have y0:=ak 0 n9;have y1:=ak 1 n9;have x0:=bl _ _ 0 _ _ n9;have x1:=bl _ _ 1 _ _ n9;have hmm:=aX _ _ 1 _ _ (ag ((di l).2:Int)) (aX _ _ 0 _ _ (ag (di l).1) n9);have HBB:=aD ((HBw.o.setCell (p:=⟨w.heap.size,0,none⟩) (aA _) (ag (di l).1)).setCell (p:=⟨w.heap.size,1,none⟩) (aA _) (ag ((di l).2:Int)));have HMM:=aD hmm;clear hmm n9 m3;clear HF H0;generalize (di l).1=er at*;generalize (((di l).2:Nat):Int)=at0 at*;go_wp2_with fail;go_region;go_wp2_with fail;exact qO w.heap.size _ er at0 rfl rfl rfl HMM.o (HO.o _ (dr HBB.o 1))
end Go.Proofs.YtjkilacmkbmmbaaGreatDoor
