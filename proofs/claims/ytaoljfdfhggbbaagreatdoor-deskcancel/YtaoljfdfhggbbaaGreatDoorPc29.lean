/- Texts of the proof. -/
import Derived.Test.YtaoljfdfhggbbaaGreatDoorPc28
set_option maxRecDepth 100000
set_option maxHeartbeats 8000000
namespace Go.Proofs.YtaoljfdfhggbbaaGreatDoor
open Go.Proofs.Tryz Go.RowKit Lx Vx Mx Msk
section
variable {D:MD} {K0:Nat->Bool} {W:World} {a b:Int} {nm:List UInt8} {pe:Option Addr} {ks:List Ex} {ce:Nat}
theorem Mj:mv (inl [((0:Int),(1440:Int))])=mv fun i=>decide (i<1440):=je fun i _=>by
 have:((i:Int)<1440)=(i<1440):=by apply propext;omega
 simp[inl,this]
theorem J8 (a b:Int):mv (inl [(a,b)])=mv fun i=>(decide (a<=(i:Int))&&decide ((i:Int)<b))&&decide (i<1440):=je fun i _=>by
 simp[inl]
theorem NN (h:MI D K0 W):ExC D K0 W 1 a b nm pe ks ce (fun _=>false):=by
 refine ku h fun k g b3 n p c q l j=> ?_;have m:=eI;have d:=j;have i:=d.own h (by omega) c;have e:=aF (lB h b3 d c (f:=fun _=>false));go_enter func179,ntmps179;go_wp2_with(refine ay rfl 84 _ _ rfl _ _ rfl rfl _ _ i (bh _) (by simp[bO]) (dQ _) ?_)
 exact e.o rfl rfl rfl
theorem NO (h:MI D K0 W):ExC D K0 W 2 a b nm pe ks ce (fun i=>decide (i<1440)):=by
 refine ku h fun c p b3 z g j A x u=> ?_;have y:=eI;have B:=ak 1 g;have C:=ak 2 g;have n:=am c (.cells #[ag 0,ag 1440] 87);have s:=aE c (.cells #[ag 0,ag 1440] 87);generalize q:c.alloc (.cells #[ag 0,ag 1440] 87)=m at*;have e:=tC _ _ m (DV s);rw[Mj]at e;have v:=u.low n;go_enter func179,ntmps179;go_wp2_with fail;refine e.mono ?_;rintro r w ⟨rfl,d⟩;have k:=v.low d;have t:=k.own h (by omega) j;have l:=aF (lB h b3 k j (f:=(fun i=>decide (i<1440))));go_wp2_with(refine ay rfl 84 _ _ rfl _ _ rfl rfl _ _ t (bh _) (by simp[bO]) (dQ _) ?_)
 exact l.o rfl rfl rfl
theorem NP (h:MI D K0 W):ExC D K0 W 3 a b nm pe ks ce (fun i=>(decide (a<=(i:Int))&&decide ((i:Int)<b))&&decide (i<1440)):=by
 refine ku h fun c p b3 z g j A x u=> ?_;have y:=eI;have B:=ak 1 g;have C:=ak 2 g;have n:=am c (.cells #[ag a,ag b] 87);have s:=aE c (.cells #[ag a,ag b] 87);generalize q:c.alloc (.cells #[ag a,ag b] 87)=m at*;have e:=tC _ _ m (DV s);rw[J8 a b]at e;have v:=u.low n;go_enter func179,ntmps179;go_wp2_with fail;refine e.mono ?_;rintro r w ⟨rfl,d⟩;have k:=v.low d;have t:=k.own h (by omega) j;have l:=aF (lB h b3 k j (f:=(fun i=>(decide (a<=(i:Int))&&decide ((i:Int)<b))&&decide (i<1440))));go_wp2_with(refine ay rfl 84 _ _ rfl _ _ rfl rfl _ _ t (bh _) (by simp[bO]) (dQ _) ?_)
 exact l.o rfl rfl rfl
theorem NQ {f0:Nat->Bool}(h:MI D K0 W)(B: -9223372036854775808<=a)(C:a<=9223372036854775807)(c0:qE D 9 a b nm pe ks ce 0 f0):ExC D K0 W 9 a b nm pe ks ce (shf f0 a):=by
 refine ku h fun u x b3 z p q L E A=> ?_;have J:=eI;have r:=aF c0;go_enter func179,ntmps179;go_wp2_with fail;refine mo 5 (MQ D (Les K0) u) [kn 54 (.func (.func 200) #[] #[ab W.heap.size 0,ab (W.heap.size+1) 0]),dk 55 (.agg (mv f0)),kn 56 (ab (W.heap.size+1) 1),kn 57 (ag a),dk 58 (.agg (mv (shf f0 a))),nk] A.drew (fun _ _ w h=>h.low w) (by kernel_rfl) (by kernel_rfl) fun M φ m g e F l n j=> ?_;have k:m.cell? (ae (W.heap.size+1) 1)=some (ag a):=(aZ _ _ 1 _ _ _ (e.own h (show W.heap.size<=W.heap.size+1 by omega) p)).trans rfl;simp only[kn,dk,nk,dW,aQ,aX,Act.put,aA,aK,aJ]at n;subst n;simp only[cZ,Nat.reduceAdd]at j;dsimp only[kn,dk,nk,dB,eN,eg,Act.put];and_intros;all_goals first|exact trivial|intro I H G K i
 all_goals try (go_simp;with_reducible exact i _ _ ⟨rfl,aI _ _⟩)
 all_goals clear k
 ·go_simp;refine(MQ.kid h e r.o z p (by omega) (by omega)).mono ?_;rintro v t ⟨rfl,d⟩;exact i _ _ ⟨rfl,fun _=>d,fun c=>by simp[g]at c⟩
 ·go_simp;refine(wG f0 a m (by omega) (by omega)).mono ?_;rintro v t ⟨rfl,d⟩;exact i _ _ ⟨rfl,fun _=>e.low d,fun c=>by simp[g]at c⟩
 have y:=e.own h (show W.heap.size<=W.heap.size+1+1 by omega) q;show Oper.wp _ _ _ _ _ _;refine eG 84 _ _ rfl (W.heap.size+1+1) (mv (shf f0 a)) (by simp[Act.eval,j]) (by simp[Act.eval,j]) _ _ y (bh _) (by simp[bO]) (dQ _) ?_;refine i undef _ ⟨trivial,fun c=>by simp at c,fun _=> ?_⟩;simp only[eh,aQ,aX,Act.put,aA,aK,aJ];have s:=aF (lB h b3 e q (f:=(shf f0 a)));go_wp2_with fail;exact s.o rfl rfl rfl
theorem Mk {f0:Nat->Bool}{R:(Nat->Bool)->Prop}(h:MI D K0 W)(I:0<=atP5 D.l nm)(c0: ∀(K:Nat->Bool) (W:World),MI D K W->Calls prog 145 #[ab D.g 0,ag (atP5 D.l nm)] W fun r x=>r= .returned (.agg (mv f0))/\MQ D (fun w=>Les K w/\R w) W x):ExC D K0 W 10 a b nm pe ks ce f0:=by
 refine ku h fun E H b3 L N z X Q O=> ?_;have V:=eI;have A:=aF c0;go_enter func179,ntmps179;go_wp2_with fail;refine mo 9 (MQ D (Les K0) E) [kn 61 (ab D.g 0),kn 62 (ab D.g 0),kn 63 (ab D.g 0),kn 64 (ab D.g 2),kn 65 (.map (some D.mb)),kn 66 (ab (W.heap.size+1) 3),kn 67 (.string ⟨nm.toArray⟩),kn 68 (ag (atP5 D.l nm)),dk 69 (.agg (mv f0)),nk] O.drew (fun _ _ G h=>h.low G) (by kernel_rfl) (by kernel_rfl) fun M φ j p d F l y k=> ?_;have s:j.cell? (ae W.heap.size 0)=some (ab D.g 0):=(aZ _ _ 0 _ _ _ (d.own h (show W.heap.size<=W.heap.size by omega) L)).trans rfl;have t:j.cell? (ae D.g 2)=some (.map (some D.mb)):=ak 2 d.blk;have u:j.cell? (ae (W.heap.size+1) 3)=some (.string ⟨nm.toArray⟩):=(aZ _ _ 3 _ _ _ (d.own h (show W.heap.size<=W.heap.size+1 by omega) N)).trans rfl;have v:=EP d.nums nm I;simp only[kn,dk,nk,dW,aQ,aX,Act.put,aA,aK,aJ]at y;subst y;simp only[cZ,Nat.reduceAdd]at k;dsimp only[kn,dk,nk,dB,eN,eg,Act.put];and_intros;all_goals first|exact trivial|intro U T S K m
 all_goals try (go_simp;with_reducible exact m _ _ ⟨rfl,aI _ _⟩)
 all_goals clear s t u v
 ·obtain⟨⟨C,n,i⟩,e⟩:=id d;go_simp;refine(A.o C j n).mono ?_;rintro P x ⟨rfl,q⟩;exact m _ _ ⟨rfl,fun _=>MQ.onP i e q,fun c=>by simp[p]at c⟩
 have J:=d.own h (show W.heap.size<=W.heap.size+1+1 by omega) z;show Oper.wp _ _ _ _ _ _;refine eG 84 _ _ rfl (W.heap.size+1+1) (mv f0) (by simp[Act.eval,k]) (by simp[Act.eval,k]) _ _ J (bh _) (by simp[bO]) (dQ _) ?_;refine m undef _ ⟨trivial,fun c=>by simp at c,fun _=> ?_⟩;simp only[eh,aQ,aX,Act.put,aA,aK,aJ];have B:=aF (lB h b3 d z (f:=f0));go_wp2_with fail;exact B.o rfl rfl rfl
end
namespace Lx
def OKE (e:Ex):Prop:= ∃a n,(shapeP e a n).1=0
theorem OKE.alone {e:Ex}(h:OKE e):aloneP e=0:=by
 obtain⟨b,n,h⟩:=h;rw[kF]at h;split at h
 ·cases h
 ·split at h
  ·rename_i a;exact absurd h a
  ·rename_i a;simpa using a
theorem xM {b:Nat}: ∀{f:List Ex} {a:Int×Nat},(gU f b a).1=0-> ∀k∈f,OKE k
 |[],_,_,k,c=>by cases c
 |g::f,a,h,k,c=>by
  rw[jP]at h;by_cases d:a.1≠0
  ·rw[aD d,kG d]at h;exact absurd h d
  rw[ax d]at h
  have e:(shapeP g b a.2).1=0:=by
   by_cases e:(shapeP g b a.2).1=0
   ·exact e
   ·rw[kG e]at h;exact h
  rcases bv.1 c with rfl|c
  ·exact⟨_,_,e⟩
  ·exact xM h k c
theorem OKE.kid {e k:Ex}(h:OKE e)(b:k∈e.kids):OKE k:=by
 have ha:=h.alone;obtain⟨a,n,h⟩:=h;rw[kF]at h;split at h
 ·cases h
 ·rw[ax (by simpa using ha)]at h;exact xM h k b
theorem OKE.kinds {e:Ex}(h:OKE e):1<=e.kind/\e.kind<=10/\e.kids.length=kidsP e.kind/\rangeP e.kind e.a e.b=true/\(e.kind=10->Go.Proofs.YtaoljfdfhggbbaaGreatDoor.namedL e.name=true):=by
 have ha:=h.alone;unfold aloneP at ha;split at ha
 ·cases ha
 ·split at ha
  ·cases ha
  ·split at ha
   ·cases ha
   ·split at ha
    ·cases ha
    ·rename_i i c d f;refine⟨by omega,by omega,by simpa using c,by simpa using d,fun g=> ?_⟩;cases hn:Go.Proofs.YtaoljfdfhggbbaaGreatDoor.namedL e.name with
     |true=>rfl
     |false=>exact absurd ⟨g,hn⟩ f
theorem OKE.kid0 {e:Ex}(h:OKE e)(a:1<=kidsP e.kind): ∃k,e.kids[0]? =some k/\OKE k:=by
 have b:=h.kinds.2.2.1;exact⟨e.kids[0]'(by omega),az _,h.kid (List.getElem_mem _)⟩
theorem OKE.kid1 {e:Ex}(h:OKE e)(a:2<=kidsP e.kind): ∃k,e.kids[1]? =some k/\OKE k:=by
 have b:=h.kinds.2.2.1;exact⟨e.kids[1]'(by omega),az _,h.kid (List.getElem_mem _)⟩
end Lx
section
theorem xN: ∀{l:List Ru} {i:Nat},(jJ l i).1=0-> ∀u∈l,OKE u.2
 |[],_,_,u,a=>by cases a
 |v::l,i,h,u,a=>by
  unfold jJ at h;split at h
  ·rename_i c;exact absurd h c
  ·rename_i c;rcases bv.1 a with rfl|a
   ·have b:ruleP u=0:=(by simpa using c);unfold ruleP at b;split at b
    ·cases b
    ·exact⟨_,_,b⟩
   ·exact xN h u a
theorem sJ {l:List Ru}(h:(fV l).1=0):l.length<=40/\ ∀u∈l,OKE u.2:=by
 unfold fV at h;split at h
 ·cases h
 ·exact⟨by omega,xN h⟩
def xP (D:MD)(i:Int)(f:Nat->Bool):Prop:= ∀(K:Nat->Bool) (W:World),MI D K W->Calls prog 145 #[ab D.g 0,ag i] W fun r b=>r= .returned (.agg (mv f))/\MQ D (fun a=>Les K a/\a i.toNat=true) W b
section
variable {wk:Bool} {day a b:Int} {nm:Nat->Bool} {ks:List (Nat->Bool)}
theorem NR:mG wk day 1 a b nm ks=fun _=>false:=rfl
theorem NS:mG wk day 2 a b nm ks=fun i=>decide (i<1440):=rfl
theorem NT:mG wk day 3 a b nm ks=fun i:Nat=>(decide (a<=(i:Int))&&decide ((i:Int)<b))&&decide (i<1440):=rfl
theorem Hz:mG wk day 4 a b nm ks=if wk=true then ks.getD 0 nev else fun _=>false:=rfl
theorem H2:mG wk day 5 a b nm ks=if a<=day/\day<=b then ks.getD 0 nev else fun _=>false:=rfl
theorem H3:mG wk day 6 a b nm ks=fun i=>(ks.getD 0 nev i||ks.getD 1 nev i)&&decide (i<1440):=rfl
theorem H4:mG wk day 7 a b nm ks=fun i=>(ks.getD 0 nev i&& !ks.getD 1 nev i)&&decide (i<1440):=rfl
theorem H5:mG wk day 8 a b nm ks=fun i=>(ks.getD 0 nev i&&ks.getD 1 nev i)&&decide (i<1440):=rfl
theorem H6:mG wk day 9 a b nm ks=shf (ks.getD 0 nev) a:=rfl
theorem DW:mG wk day 10 a b nm ks=nm:=rfl
end
theorem mf {F:Ex->Nat->Bool}{ks:List Ex}{j:Nat}{k:Ex}(h:ks[j]? =some k):(ks.map F).getD j nev=F k:=by
 rw[dJ,bg,h];rfl
theorem xQ {D:MD}{u:Nat->Bool}{W:World}{env:List UInt8->Nat->Bool}{e:Ex}{pe:Option Addr}{ce:Nat}(h:MI D u W)(n:OKE e)(s:0<=D.day)(t:D.day<146097)
  (c: ∀(j:Nat) (k:Ex),e.kids[j]? =some k->qE D e.kind e.a e.b e.name pe e.kids ce (j:Int) (ft (wkB D.day) D.day env k)) (o:e.kind=10->0<=atP5 D.l e.name/\xP D (atP5 D.l e.name) (env e.name)):
  Calls prog 179 #[ab D.g 0,exV e (.slice pe e.kids.length ce)] W fun r v=>r= .returned (.agg (mv (ft (wkB D.day) D.day env e)))/\MQ D (Les u) W v:=by
 have A:=jA (wkB D.day) D.day env e;obtain⟨E,F,_,z,_⟩:=n.kinds;have p:=fun d=>n.kid0 d;have m:=fun d=>n.kid1 d;obtain⟨kd,a,b,nm,ks⟩:=e;unfold exV;dsimp only at*;have y:kd=1\/kd=2\/kd=3\/kd=4\/kd=5\/kd=6\/kd=7\/kd=8\/kd=9\/kd=10:=by omega
 rw[A];rcases y with rfl|rfl|rfl|rfl|rfl|rfl|rfl|rfl|rfl|rfl
 ·rw[NR];exact NN h
 ·rw[NS];exact NO h
 ·rw[NT];exact NP h
 ·obtain⟨k,d,_⟩:=p (by decide);rw[Hz,mf d];cases i:wkB D.day a with
  |true=>exact Mf h s t i (c 0 k d)
  |false=>exact Mg h s t i
 ·obtain⟨k,d,_⟩:=p (by decide);rw[H2,mf d];by_cases i:a<=D.day/\D.day<=b
  ·rw[aD i];exact Mh h s t (by simp[i.1,i.2]) (c 0 k d)
  ·rw[ax i]
   exact Mi h s t (by
    by_cases m:a<=D.day
    ·simp[m,show¬D.day<=b from fun w=>i ⟨m,w⟩]
    ·simp[m])
 ·obtain⟨k,d,_⟩:=p (by decide);obtain⟨q,f,_⟩:=m (by decide);rw[H3,mf d,mf f];exact NK h (c 0 k d) (c 1 q f)
 ·obtain⟨k,d,_⟩:=p (by decide);obtain⟨q,f,_⟩:=m (by decide);rw[H4,mf d,mf f];exact NL h (c 0 k d) (c 1 q f)
 ·obtain⟨k,d,_⟩:=p (by decide);obtain⟨q,f,_⟩:=m (by decide);rw[H5,mf d,mf f];exact NM h (c 0 k d) (c 1 q f)
 ·obtain⟨k,d,_⟩:=p (by decide);rw[H6,mf d];have C:a≠0/\ -1440<a/\a<1440:=(by simpa[rangeP] using z);exact NQ h (by omega) (by omega) (c 0 k d)
 ·rw[DW];obtain⟨B,x⟩:=o rfl;exact Mk h B x
theorem H7 {D:MD}{env:List UInt8->Nat->Bool}(A:0<=D.day)(B:D.day<146097): ∀(d:Nat) (e:Ex) (sl:Value),fZ (fun k=>k<D.w.heap.size) d D.w sl e.kids->OKE e->(∀x∈nms e,0<=atP5 D.l x/\xP D (atP5 D.l x) (env x))-> ∀(K:Nat->Bool) (W:World),MI D K W->
  Calls prog 179 #[ab D.g 0,exV e sl] W fun r s=>r= .returned (.agg (mv (ft (wkB D.day) D.day env e)))/\MQ D (Les K) W s:=by
 have none: ∀(e:Ex) (p:Option Addr) (c:Nat),e.kids=[]->OKE e->(∀x∈nms e,0<=atP5 D.l x/\xP D (atP5 D.l x) (env x))-> ∀(K:Nat->Bool) (W:World),MI D K W->
   Calls prog 179 #[ab D.g 0,exV e (.slice p 0 c)] W fun r s=>r= .returned (.agg (mv (ft (wkB D.day) D.day env e)))/\MQ D (Les K) W s:=fun e p c m a i K W n=>by
  have:=xQ (env:=env) (pe:=p) (ce:=c) n a A B (fun j k q=>by rw[m]at q;simp at q) fun f=>i e.name (by rw[lP,aD f];simp);rw[m]at this;exact this
 intro d;induction d with
 |zero=>
  intro e sl f a i K W n;obtain⟨m,p,c,rfl⟩:=f;exact none e p c m a i K W n
 |succ d L=>
  intro e sl f a i K W n;rcases f with⟨m,p,c,rfl⟩|⟨g,o,c,_,rfl,I,z⟩
  ·exact none e p c m a i K W n
  ·refine xQ n a A B (fun j k q=> ?_) fun f=>i e.name (by rw[lP,aD f];simp);obtain⟨_,U,c0,c1,F,G,H,r⟩:=z j k q;obtain⟨T,S,rfl⟩:=r.form;have b:k∈e.kids:=aM q;intro bd R Q s t v y M N O P
   exact Md t q I v y M N O P c0 c1 F G H fun C E u=>L k _ r (a.kid b) (fun x J=>i x (by
    rw[lP,bU];right;unfold jE;exact List.mem_flatten.2 ⟨nms k,dV.2 ⟨k,b,rfl⟩,J⟩)) C E u
theorem Ac {D:MD}{t:List (Ru×Value)}(a:InR D.w D.lv t)(E:t.map (fun p=>p.1)=D.l)(v:t.length=D.n)(k:(dq D.l).1=0)(G:0<=D.day)(H:D.day<146097)(B: ∀i,D.V i=ip D.l (wkB D.day) D.day i):
  ∀(m i:Nat),i<D.n->muR D.l i<m->xP D (i:Int) (D.V i)
 |0,_,_,h=>by omega
 |m+1,i,hi,X=>by
  intro K W z;obtain⟨F,q⟩:=lD k;obtain⟨R,s⟩:=sJ F;have T:D.l.length=D.n:=(by rw[<-E,ba,v]);cases hK:K i with
  |true=>
   obtain⟨M,P,Q⟩:=id z;refine(Fk P hi (by omega) hK).mono ?_;rintro r Z ⟨rfl,C⟩;rw[Q i hi hK];exact⟨rfl,⟨K,z.later C,Les.refl K,hK⟩,Kp.below C⟩
  |false=>
   obtain⟨⟨u,sl⟩,y⟩: ∃p,t[i]? =some p:=⟨t[i]'(by omega),az _⟩
   have c:D.l[i]? =some u:=(by rw[<-E,bg,y];rfl);obtain⟨_,_,d,g⟩:=a.all _ (aM y);dsimp only at g;obtain⟨ps,cs,rfl⟩:=g.form;obtain⟨pv,cv,j⟩:=a.form;have f:=a;rw[j]at f;obtain⟨b,o,rfl,_⟩:=f.cells i _ y;rw[v]at j;refine J7 a (by omega) j v y z hK fun N O A=> ?_;have I:=H7 (env:=fun x=>D.V (atP5 D.l x).toNat) G H d u.2 _ g (s u (aM c)) (fun x L=> ?_) N O A
   ·have e:ft (wkB D.day) D.day (fun x=>D.V (atP5 D.l x).toNat) u.2=D.V i:=by
     rw[B i,oB k c];exact nt _ _ (aB _) fun x _=>B _
    rw[e]at I;exact I
   ·have J:=ny k c L;have U:=rW k (by omega) J;have S:=mE q i _ J;have C:=(ol D.l x).1
    have Y:atP5 D.l x≠ -1:=fun e=>q u (aM c) (by
     unfold fW;exact(pK _ _).2 (.inr ⟨x,L,e⟩))
    refine⟨by omega,?_⟩;have:=Ac a E v k G H B m (atP5 D.l x).toNat (by omega) (by omega);rw[show(((atP5 D.l x).toNat:Nat):Int)=atP5 D.l x by omega]at this;exact this
end
def pB (l:List Ru)(day:Int):Int×Nat:=if(dq l).1≠0 then dq l else if day<0\/146097<=day then(3,0) else(0,0)
def pN (l:List Ru)(day:Int):List (Nat->Bool):=if(pB l day).1=0 then(List.range l.length).map (ip l (wkB day) day) else []
def J9 (w:World)(v:Value)(a:List (Nat->Bool)):Prop:= ∃p c,v= .slice p a.length c/\(a.length<=40/\a.length<=c)/\ ∀(i:Nat) (f:Nat->Bool),a[i]? =some f-> ∃g o:Nat,p=some ⟨g,o,none⟩/\w.rangeAt g (o+i*23) (mv f).toList
def xR (l:List Ru)(day:Int)(w:World)(e:Ending)(w':World):Prop:= ∃v,e= .returned (.tuple #[v,.agg #[ag (pB l day).1,ag ((pB l day).2:Int)]])/\J9 w' v (pN l day)/\aq w w'
theorem B2 (w:World)(p:Option Addr)(c:Nat):J9 w (.slice p 0 c) []:=⟨p,c,rfl,⟨by simp,by simp⟩,fun i f hi=>by simp at hi⟩
theorem Ml {w:World}{gm n:Nat}{F:Nat->Nat->Bool}(g:n<=40)(h: ∀i,i<n->w.rangeAt gm (i*23) (mv (F i)).toList):J9 w (.slice (some (ae gm 0)) n n) ((List.range n).map F):=by
 refine⟨some ⟨gm,0,none⟩,n,by simp,⟨by simpa using g,by simp⟩,fun i f hi=>⟨gm,0,rfl,?_⟩⟩;rw[bg]at hi;cases hr:(List.range n)[i]? with
 |none=>rw[hr]at hi;cases hi
 |some k=>
  rw[hr]at hi;have d:F k=f:=aN hi;obtain⟨b,c⟩:=aG.1 hr;have e:k=i:=(by rw[<-c];simp);have a:i<n:=(by simpa using b);rw[<-d,e,bN];exact h i a
def kX (n:Nat):Array Value:=madeCells (mv fun _=>false) (n*23)
theorem Ae {n i j:Nat}(hi:i<n)(d:j<23):(kX n)[i*23+j]? =(mv fun _=>false)[j]? :=by
 have a:i*23+j<n*23:=by
  have:(i+1)*23<=n*23:=Nat.mul_le_mul_right 23 hi;omega
 have b:(i*23+j)%23=j:=by omega
 have c:j<(mv fun _=>false).size:=by rw[bO];exact d
 simp[kX,madeCells,a,bO,b];rw[Array.getElem!_eq_getD,Array.getD_eq_getD_getElem?,fP c];rfl
theorem B3 {w:World}{g n:Nat}{t:TypeId}(h:w.heap[g]? =ah (kX n) t){i:Nat}(hi:i<n):w.rangeAt g (i*23) (mv fun _=>false).toList:=fun j v a=>by
 have b:j<23:=by
  have:=(aG.1 a).1;rw[bQ,bO]at this;exact this
 rw[aZ _ _ _ _ _ _ h,Ae hi b,<-bp];exact a
theorem H8:(prog.info? 84).map (fun i=>(i.zero,i.size,i.bytes))=some (some (.agg #[.int .u64 0, .int .u64 0, .int .u64 0, .int .u64 0, .int .u64 0, .int .u64 0, .int .u64 0, .int .u64 0, .int .u64 0, .int .u64 0, .int .u64 0, .int .u64 0, .int .u64 0, .int .u64 0, .int .u64 0, .int .u64 0, .int .u64 0, .int .u64 0, .int .u64 0, .int .u64 0, .int .u64 0, .int .u64 0, .int .u64 0]),23,184):=by kernel_rfl
theorem Fl:prog.underlying 76=some (.slice 84):=by kernel_rfl
theorem xS (n:Nat)(g:n<=1000)(w:World):(Instr.makeSlice 76 (ag (n:Int)) (ag (n:Int))).run prog w= .ok (.slice (some (ae w.heap.size 0)) n n) (w.alloc (.cells (kX n) 84)):=by
 obtain⟨i,hi,a⟩:=dR.1 H8;simp only[Prod.mk.injEq]at a;obtain⟨f,d,c⟩:=a;have b:=run_make (P:=prog) w 76 84 i _ Fl hi f .i64 .i64 n n (by omega) (gY _) (by rw[c];omega) (by omega);rw[d]at b;have e:(Value.agg #[.int .u64 0, .int .u64 0, .int .u64 0, .int .u64 0, .int .u64 0, .int .u64 0, .int .u64 0, .int .u64 0, .int .u64 0, .int .u64 0, .int .u64 0, .int .u64 0, .int .u64 0, .int .u64 0, .int .u64 0, .int .u64 0, .int .u64 0, .int .u64 0, .int .u64 0, .int .u64 0, .int .u64 0, .int .u64 0, .int .u64 0]).cells=mv fun _=>false:=eI;rw[e]at b;simpa[kX] using b
structure AJ (B:World)(n:Nat)(day:Int)(sl:Value)(l:List Ru)(M:Nat->Bool)(φ:Nat->Value)(W:World):Prop where
 bel:aq B W
 m:M 3=true-> ∃mb,φ 25= .map (some mb)/\jk W mb l
 k:M 6=true-> ∃gk:Nat,φ 28= .slice (some (ae gk 0)) n n/\B.heap.size<=gk/\W.heap[gk]? =ah (fF n fun _=>false) 4
 g:M 9=true-> ∃gm:Nat,φ 31= .slice (some (ae gm 0)) n n/\B.heap.size<=gm/\W.heap[gm]? =ah (kX n) 84
 a:M 10=true->φ 32= .agg #[ag day,sl,φ 25,φ 28,φ 31]
 d:M 11=true-> ∃g:Nat,φ 7=ab g 0/\B.heap.size<=g/\W.heap[g]? =ah #[ag 0,af,.map none,af,af] 225
theorem AJ.below {B:World}{n:Nat}{day:Int}{sl:Value}{l:List Ru}{M:Nat->Bool}{φ:Nat->Value}{W b:World}(h:AJ B n day sl l M φ W)(f:aq W b):AJ B n day sl l M φ b:=by
 have c: ∀{k:Nat} {o:Obj},W.heap[k]? =some o->b.heap[k]? =some o:=fun h=>ai f h;exact⟨aw h.bel f,fun e=>(h.m e).imp fun _ q=>⟨q.1,q.2.later (f.block _ (gW q.2))⟩,fun e=>(h.k e).imp fun _ q=>⟨q.1,q.2.1,c q.2.2⟩,fun e=>(h.g e).imp fun _ q=>⟨q.1,q.2.1,c q.2.2⟩,h.a,fun e=>(h.d e).imp fun _ q=>⟨q.1,q.2.1,c q.2.2⟩⟩
theorem MD.begin {w W:World}{n g gk gm mb:Nat}{day:Int}{sl:Value}{l:List Ru}{V:Nat->Nat->Bool}{p:Array Value}(v:aq w W)(s:jk W mb l)(r:w.heap.size<=g)(d:W.heap[g]? =ah p 225)
  (j:w.heap.size<=gk) (b:W.heap[gk]? =ah (fF n fun _=>false) 4) (k:w.heap.size<=gm) (a:W.heap[gm]? =ah (kX n) 84):
  MI ⟨w,n,g,gk,gm,mb,day,sl,l,V⟩ (fun _=>false) (W.setRow g #[ag day,sl,.map (some mb),.slice (some (ae gk 0)) n n,.slice (some (ae gm 0)) n n]):=by
 have t:g≠gk:=fun e=>by subst e;rw[d]at b;cases b
 have o:g≠gm:=fun e=>by subst e;rw[d]at a;cases a
 have y:gk≠gm:=fun e=>by
  subst e;rw[b]at a;injection a with u;injection u with _ e2;exact absurd e2 (by decide)
 obtain⟨C,c,m,_⟩:=id s;have z:mb≠gk:=fun e=>by subst e;rw[m]at b;cases b
 have A:mb≠gm:=fun e=>by subst e;rw[m]at a;cases a
 have B:mb≠g:=fun e=>by subst e;rw[m]at d;cases d
 have f: ∀q,q≠g->(W.setRow g #[ag day,sl,.map (some mb),.slice (some (ae gk 0)) n n,.slice (some (ae gm 0)) n n]).heap[q]? =W.heap[q]? :=fun q x=>aV _ _ _ _ x;refine⟨fun _ _=>false,⟨below_setRow v r _,aL _ _ _ _ _ _ d,(f _ (fun e=>t e.symm)).trans b,fun i hi=> ?_,⟨_,(f _ (fun e=>o e.symm)).trans a⟩,s.later (f _ B),⟨r,j,k⟩,t,o,y,z,A⟩,fun _ _ h=>by cases h⟩;exact B3 ((f _ (fun e=>o e.symm)).trans a) hi
theorem qV {R:Ending->World->Prop}{a:Act}{w:World}(g:Nat)(v:Value)(er at_:Int)(i:a.defers=[])(d:a.tmps.getD 4 undef=v)(e:a.tmps.getD 5 undef=ab g 0)
  (j:w.heap[g]? =ah #[ag er,ag at_] 93) (f:R (.returned (.tuple #[v,.agg #[ag er,ag at_]])) w):bodyPost prog f125 R .ret a w:=by
 refine aW (v:= .tuple #[v,.agg #[ag er,ag at_]]) ?_ i f;have b:a.tmps[4]?.getD undef=v:=by simpa using d
 have c:a.tmps[5]?.getD undef=ab g 0:=by simpa using e
 have k:=dX (P:=prog) w g 93 93 _ _ _ j oX rfl (by kernel_rfl);simp[results,results125,b,c,asAddr,k]
theorem Ka (us:List (Ru×Value))(v:Value)(day:Int)(w:World)(h:InR w v us):Calls prog 125 #[v,ag day] w (xR (us.map (fun p=>p.1)) day w):=by
 obtain⟨l,hl⟩:=au (us.map (fun p=>p.1));obtain⟨n,R⟩:=au us.length;have a8:l.length=n:=by rw[<-hl,ba,R]
 obtain⟨z,y,rfl⟩:=h.form;have bA:=am w (.cells #[ag 0,ag 0] 93);have n1:=aE w (.cells #[ag 0,ag 0] 93);generalize aW:w.alloc (.cells #[ag 0,ag 0] 93)=wA at*;have cW:=uH us _ wA (h.below bA);rw[hl]at cW;rw[hl,R];have HL:=aF hl;have T:=aF R;have aa:=aF a8;have ap:=aF h;rw[R]at cW;go_enter func125,ntmps125;go_wp2_with fail;refine cW.mono ?_;rintro r w1 ⟨rfl,ah⟩;have m2:=ai ah n1;have Q:=aw bA ah;by_cases h0:(dq l).1=0
 ·obtain⟨aN,_⟩:=lD h0;have ac:=(sJ aN).1;rw[aa.o]at ac;have H0:=aF h0;rw[h0];generalize (((dq l).2:Nat):Int)=A at*;have bC:=am w1 (.cells #[ag 0,ag A] 93);have s:=aF (aw Q bC);have HR:=aF (ai bC m2);have m3:=aE w1 (.cells #[ag 0,ag A] 93);have ab:=aF ac;have aS:(n:Int)<=40:=(by omega);generalize aO:w1.alloc (.cells #[ag 0,ag A] 93)=wB at*;have HI:=aF (ap.o.below s.o);have z0:=ak 0 m3;by_cases hd:day<0\/146097<=day
  ·have O:PN (pB l day=(3,0)):=by
    show _=_;unfold pB;rw[ax (by simpa using H0.o),aD hd]
   have HO:PN (∀cs,xR l day w (.returned (.tuple #[af,.agg #[ag 3,ag 0]])) (wB.setRow w.heap.size cs)):=fun cs=>by
    have Y:pN l day=[]:=by
     unfold pN;rw[O.o];rfl
    refine⟨_,by rw[O.o];rfl,?_,below_setRow s.o (aB _) _⟩;rw[Y];exact B2 _ _ _
   have x:=HR.o;by_cases a5:day<0
   ·go_wp2_with(refine ay rfl 93 _ _ rfl _ _ rfl rfl _ _ x (by kernel_rfl) (by simp) (by simp[Value.oneCell']) ?_)
    exact qV w.heap.size _ 3 0 rfl rfl rfl (aL _ _ _ _ _ _ x) (HO.o _)
   ·have a6:146097<=day:=(by omega);go_wp2_with(refine ay rfl 93 _ _ rfl _ _ rfl rfl _ _ x (by kernel_rfl) (by simp) (by simp[Value.oneCell']) ?_)
    exact qV w.heap.size _ 3 0 rfl rfl rfl (aL _ _ _ _ _ _ x) (HO.o _)
  ·have O:PN (pB l day=(0,0)):=by
    show _=_;unfold pB;rw[ax (by simpa using H0.o),ax hd]
   have ar:PN (pN l day=(List.range n).map (ip l (wkB day) day)):=by
    show _=_;unfold pN;rw[O.o,aa.o];rfl
   have a5: ¬day<0:=fun e=>hd (.inl e);have a6: ¬146097<=day:=fun e=>hd (.inr e)
   have Hall:PN (∀(g gk gm mb i:Nat),i<n->xP ⟨wB,n,g,gk,gm,mb,day,.slice z n y,l,ip l (wkB day) day⟩ (i:Int) (ip l (wkB day) day i)):=fun g gk gm mb i hi=>by
    have al:=HI.o;rw[T.o]at al;exact Ac (D:=⟨wB,n,g,gk,gm,mb,day,.slice z n y,l,ip l (wkB day) day⟩) al HL.o T.o H0.o (by show 0<=day;omega) (by show day<146097;omega) (fun _=>rfl) (muR l i+1) i hi (by show muR l i<muR l i+1;omega)
   have Hmb:=aF (run_make_row' (P:=prog) 132 4 (.bool false) 1 zw By rfl .i64 .i64 n (by omega) (by omega));rw[vm]at Hmb;have Hmm:=aF (xS n (by omega));go_wp2_with fail;refine ro 12 (AJ wB n day (.slice z n y) l) [kn 22 (ag day),kn 23 (.slice z n y),kn 24 (.slice z n y),td 25,kn 26 (.slice z n y),kn 27 (ag (n:Int)),td 28,kn 29 (.slice z n y),kn 30 (ag (n:Int)),td 31,td 32,td 7,nk] (fun _=>⟨(aI _ _).drew,(fun h=>by cases h),(fun h=>by cases h),(fun h=>by cases h),(fun h=>by cases h),(fun h=>by cases h)⟩) (fun _ _ _ _ Z h=>h.below Z) (by kernel_rfl) (by kernel_rfl) (fun M φ L J b F l' hl hF=> ?_);simp only[kn,td,nk,dW,aQ,aX,Act.put,aA,aK,aJ]at hl;subst hl;simp only[cZ,Nat.reduceAdd]at hF;dsimp only[kn,td,nk,dB,eN,eg,Act.put];and_intros;all_goals first|exact trivial|intro S R hm K X
   all_goals try (go_simp;with_reducible exact X _ _ ⟨rfl,aI _ _⟩)
   ·have cN:=oR us _ L (HI.o.below b.bel);rw[T.o]at cN;have I:=R 10 _ rfl (by kernel_rfl);go_simp;refine cN.mono ?_;rintro e' W' ⟨mb,rfl,_,N,a3⟩;rw[HL.o]at N;have f:=b.below a3;exact X _ _ ⟨trivial,fun _=>⟨f.bel,fun _=>⟨mb,dF ..,N⟩,fun e=>f.k (by simpa using e),fun e=>f.g (by simpa using e),(fun e=>by simp[I]at e),fun e=>f.d (by simpa using e)⟩,(fun e=>by simp[J]at e)⟩
   ·have aC:=Hmb.o L;have Z:=am L (.cells (fF n fun _=>false) 4);have I:=R 10 _ rfl (by kernel_rfl);have f:=b.below Z;go_simp;exact X _ _ ⟨trivial,fun _=>⟨f.bel,fun e=>f.m (by simpa using e),fun _=>⟨_,dF ..,b.bel.size,aE L _⟩,fun e=>f.g (by simpa using e),(fun e=>by simp[I]at e),fun e=>f.d (by simpa using e)⟩,(fun e=>by simp[J]at e)⟩
   ·have aC:=Hmm.o L;have Z:=am L (.cells (kX n) 84);have I:=R 10 _ rfl (by kernel_rfl);have f:=b.below Z;go_simp;exact X _ _ ⟨trivial,fun _=>⟨f.bel,fun e=>f.m (by simpa using e),fun e=>f.k (by simpa using e),fun _=>⟨_,dF ..,b.bel.size,aE L _⟩,(fun e=>by simp[I]at e),fun e=>f.d (by simpa using e)⟩,(fun e=>by simp[J]at e)⟩
   ·obtain⟨mb,B,_⟩:=b.m (S ⟨3,.data⟩ (by simp) rfl rfl);obtain⟨gk,C,_⟩:=b.k (S ⟨6,.data⟩ (by simp) rfl rfl);obtain⟨gm,E,_⟩:=b.g (S ⟨9,.data⟩ (by simp) rfl rfl);rw[B,C,E]at hF;go_simp;exact X _ _ ⟨trivial,fun _=>⟨b.bel,fun e=>b.m (by simpa using e),fun e=>b.k (by simpa using e),fun e=>b.g (by simpa using e),fun _=>by simp[jh,B,C,E],fun e=>b.d (by simpa using e)⟩,(fun e=>by simp[J]at e)⟩
   ·have Z:=am L (.cells #[ag 0,af,.map none,af,af] 225);have f:=b.below Z;go_simp;exact X _ _ ⟨trivial,fun _=>⟨f.bel,fun e=>f.m (by simpa using e),fun e=>f.k (by simpa using e),fun e=>f.g (by simpa using e),fun e=>f.a (by simpa using e),fun _=>⟨_,dF ..,b.bel.size,aE L _⟩⟩,(fun e=>by simp[J]at e)⟩
   ·obtain⟨H,B,N⟩:=b.m (S ⟨3,.phase⟩ (by simp) rfl rfl);obtain⟨G,C,az,aP⟩:=b.k (S ⟨6,.phase⟩ (by simp) rfl rfl);obtain⟨u,E,a0,aR⟩:=b.g (S ⟨9,.phase⟩ (by simp) rfl rfl);obtain⟨g,e7,b7,k7⟩:=b.d (S ⟨11,.data⟩ (by simp) rfl rfl);have U:=b.a (S ⟨10,.data⟩ (by simp) rfl rfl);rw[B,C,E]at U;rw[U,e7]at hF;have aM:=MD.begin (day:=day) (sl:= .slice z n y) (V:=ip l (wkB day) day) b.bel N b7 k7 az aP a0 aR;refine eG 225 _ _ rfl _ #[ag day,.slice z n y,.map (some H),.slice (some (ae G 0)) n n,.slice (some (ae u 0)) n n] (by simp[Act.eval,hF]) (by simp[Act.eval,hF]) _ _ k7 (by kernel_rfl) (by simp) (by simp[Value.oneCell']) ?_;refine X undef _ ⟨trivial,(fun c=>by simp at c),fun _=> ?_⟩;simp only[eh,aQ,aX,Act.put,aA,aK,aJ,B,C,E,U,e7];generalize L.setRow g #[ag day,.slice z n y,.map (some H),.slice (some (ae G 0)) n n,.slice (some (ae u 0)) n n]=W5 at*;have cR:=Hall.o g G u H;have HC:=aF cR;go_wp2_with fail;go_loopw [8,35] (fun _ t wr=> ∃j:Nat,t=ag (j:Int)/\j<=n/\ ∃K,MI ⟨wB,n,g,G,u,H,day,.slice z n y,l,ip l (wkB day) day⟩ K wr/\ ∀k,k<j->K k=true) (fun _ t _=>n-(intOf t).toNat);case atStart=>exact⟨0,rfl,by omega,_,aM,fun k hk=>by omega⟩
    case round=>
     obtain⟨j,rfl,hj,K,N,ad⟩:=hrel;have aT:(0:Int)<=(j:Int):=(by omega);have HA:=aF ad;by_cases a9:j<n
     ·have an:(j:Int)<(n:Int):=(by omega);have cJ:=HC.o j a9 K wr N;go_wp2_with fail;refine cJ.mono ?_;rintro r W6 ⟨rfl,⟨K',a2,a7,a1⟩,_⟩
      have HN:PN (∃K,MI ⟨wB,n,g,G,u,H,day,.slice z n y,l,ip l (wkB day) day⟩ K W6/\ ∀k,k<j+1->K k=true):=⟨K',a2,fun k hk=>by
       by_cases e:k=j
       ·subst e;simpa using a1
       ·exact a7 k (HA.o k (by omega))⟩
      go_wp2_with fail;go_roundw;case rel=>exact⟨j+1,by go_num,by omega,HN.o⟩
      case measure=>simp[intOf];omega
     ·have ej:j=n:=(by omega);have an: ¬(j:Int)<(n:Int):=(by omega);have k4:=ak 4 N.blk;have aj:=N.bel;have x:=ai aj HR.o
      have HO:PN (∀cs,xR l day w (.returned (.tuple #[.slice (some (ae u 0)) n n,.agg #[ag 0,ag 0]])) (wr.setRow w.heap.size cs)):=fun cs=>by
       obtain⟨M,h1,h2⟩:=N;have a4:=below_setRow (aw s.o aj) (aB w.heap.size) cs;refine⟨_,by rw[O.o];rfl,?_,a4⟩;rw[ar.o];refine Ml ab.o (fun i hi=> ?_);have h3:=h2 i hi (HA.o i (by omega));have h4:=MSt.meant h1 i hi;rw[h3]at h4;intro q v hv;rw[<-h4 q v hv];exact ef (aV _ _ _ _ (by have:=(MSt.lo h1).2.2;have:=s.o.size;have:=aH HR.o;dsimp only at*;omega))
      go_wp2_with(refine ay rfl 93 _ _ rfl _ _ rfl rfl _ _ x (by kernel_rfl) (by simp) (by simp[Value.oneCell']) ?_)
      exact qV w.heap.size _ 0 0 rfl rfl rfl (aL _ _ _ _ _ _ x) (HO.o _)
 ·have H0:=aF h0
  have O:PN (pB l day=dq l):=by
   show _=_;unfold pB;rw[aD h0]
  have aU:((dq l).1 !=0)=true:=(by simpa using h0);have bC:=am w1 (.cells #[ag (dq l).1,ag ((dq l).2:Int)] 93);have s:=aF (aw Q bC);have x:=ai bC m2;have m3:=aE w1 (.cells #[ag (dq l).1,ag ((dq l).2:Int)] 93);generalize aO:w1.alloc (.cells #[ag (dq l).1,ag ((dq l).2:Int)] 93)=wB at*
  have HO:PN (∀W,aq w W->xR l day w (.returned (.tuple #[af,.agg #[ag (dq l).1,ag ((dq l).2:Int)]])) W):=fun W hW=>by
   have Y:pN l day=[]:=by
    unfold pN;rw[O.o,ax H0.o]
   refine⟨_,by rw[O.o],?_,hW⟩;rw[Y];exact B2 _ _ _
  have z0:=ak 0 m3;have z1:=ak 1 m3;have y0:=ak 0 x;have y1:=ak 1 x;have x0:=bl _ _ 0 _ _ x;have x1:=bl _ _ 1 _ _ x;have aG:=aY _ _ 1 _ _ (ag ((dq l).2:Int)) (aY _ _ 0 _ _ (ag (dq l).1) x);have ao:=aF ((s.o.setCell (p:=⟨w.heap.size,0,none⟩) (aB _) (ag (dq l).1)).setCell (p:=⟨w.heap.size,1,none⟩) (aB _) (ag ((dq l).2:Int)));have av:=aF aG;generalize (dq l).1=er at*;generalize (((dq l).2:Nat):Int)=A at*;go_wp2_with fail;go_region;go_wp2_with fail;exact qV w.heap.size _ er A rfl rfl rfl av.o (HO.o _ (dD ao.o 1))
end Go.Proofs.YtaoljfdfhggbbaaGreatDoor
