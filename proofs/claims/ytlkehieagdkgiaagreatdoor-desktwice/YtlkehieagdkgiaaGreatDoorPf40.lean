/- Texts of the proof. -/
import Derived.Test.YtlkehieagdkgiaaGreatDoorPf13
import Derived.Test.YtlkehieagdkgiaaGreatDoorPf38
set_option maxRecDepth 100000
set_option maxHeartbeats 8000000
namespace Go.Proofs.YtlkehieagdkgiaaGreatDoor
open Go.Proofs.Tryz Go.RowKit Lx Vx Mx Msk
theorem EF (a:An)(m lv i g:Value)(w:World)(t:dT w m a.who)(u:dT w i a.who)(v:dT w lv a.list)(x:dT w g a.list):Calls prog 17 #[.agg (anC a m lv),.agg (anC a i g)] w fun e w'=>e= .returned (.bool true)/\aq w w':=by
 obtain⟨D,P,s,z⟩:=nb w #[ag a.err,ag a.num,ag a.day,ag a.min,m,lv] 43;obtain⟨A,Q,p,j⟩:=nb D #[ag a.err,ag a.num,ag a.day,ag a.min,i,g] 43;have b:=aw s p;have c:=Bx a.day a.min a.day a.min m i a.who a.who A (t.below b) (u.below b);rw[show decide (a.day=a.day/\a.min=a.min/\a.who=a.who)=true by simp]at c;have l:=fun(W:World) (y:aq A W)=>LY a.list lv g W (v.below (aw b y)) (x.below (aw b y));have d:=bt p z;have E:=cr 0 d rfl;have F:=cr 1 d rfl;have G:=cr 2 d rfl;have H:=cr 3 d rfl;have I:=cr 4 d rfl;have q:=cr 5 d rfl;have J:=cr 0 j rfl;have K:=cr 1 j rfl;have L:=cr 2 j rfl;have M:=cr 3 j rfl;have N:=cr 4 j rfl;have r:=cr 5 j rfl;have B:=aF b;obtain⟨_,_,rfl,_,_⟩:=t;obtain⟨_,_,rfl,_,_⟩:=u;obtain⟨_,_,rfl,_,_⟩:=v;obtain⟨_,_,rfl,_,_⟩:=x;have O:(a.err==a.err)=true:=by simp
 have e2:(a.num==a.num)=true:=by simp
 unfold anC;clear s p z j d b;go_enter func17,ntmps17;go_wp2_with fail;refine c.mono ?_;rintro e C ⟨rfl,f⟩;have l:=l C f;replace q:=aj f q;replace r:=aj f r;have n:=aF (aw B.o f);clear c f E F G H I J K L M N;go_wp2_with fail;refine l.mono ?_;rintro e R ⟨rfl,k⟩;have b:=aw n.o k;clear l k q r;go_wp2_with fail;go_ret;exact⟨rfl,b⟩
theorem Kl {U A a:List (Int×Int)}{V:Int->Int}{l:List Vx.Kp}(h:Vx.bq U A V l)(g: ∀q∈a,q∈A):Vx.bq U a V l:=by
 obtain⟨b,p,s,e,c,d⟩:=h;exact⟨b,p,s,e,c,fun q f=>d q (g q f)⟩
def uX (c:Co)(r day:Int):List (Int×Int):=if atP5 c.rules (c.res.getD r.toNat [])<0 then [] else [(atP5 c.rules (c.res.getD r.toNat []),day)]
def uY (c:Co)(s:Sv)(day:Int):Nat->Nat->List (Int×Int)
 |0,_=>[]
 |m+1,r=>(if s.roles.any (fun p=>decide ((r:Int)∈p))=true then uX c r day else [])++uY c s day m (r+1)
def uZ (c:Co)(s:Sv)(day:Int):Nat->Nat->List (Int×Int)
 |0,_=>[]
 |m+1,i=>uY c s (day+i) c.res.length 0++uZ c s day m (i+1)
structure KD (U A:List (Int×Int))(d:Dk):Prop where
 di:DI d
 kept:Vx.bq U A (fun r=>d.vers.getD r.toNat 0) d.kept
theorem Fw {U A a:List (Int×Int)}{d:Dk}(h:KD U A d)(b: ∀q∈a,q∈A):KD U a d:=⟨h.di,Kl h.kept b⟩
theorem Mg {U A:List (Int×Int)}{d:Dk}(h:KD U A d)(w:U.length<=64)(r:Int){day:Int}(o:0<=day)(p:day<146097)(s: ∀q∈uX (coD d) r day,q∈U):
  KD U (uX (coD d) r day++A) (eQ d r day).2/\(eQ d r day).2.vers=d.vers/\coD (eQ d r day).2=coD d/\((∀q∈uX (coD d) r day,q∈A)->(eQ d r day).2.runs=d.runs):=by
 obtain⟨_,z,y⟩:=xC h.di r o p;have x:=mu d.rules (d.res.getD r.toNat []);by_cases g:atP5 d.rules (d.res.getD r.toNat [])<0
 ·have e:eQ d r day=(noM,d):=aB g;have ea:uX (coD d) r day=[]:=aB g;rw[e,ea];exact⟨h,rfl,rfl,fun _=>rfl⟩
 ·obtain⟨i,j⟩: ∃i:Nat,atP5 d.rules (d.res.getD r.toNat [])=(i:Int):=⟨(atP5 d.rules (d.res.getD r.toNat [])).toNat,by omega⟩
  have e:eQ d r day=((g6 (eW d.rules) d.kept d.runs (d.vers.getD i 0) (i:Int) day).m,{d with kept:=(g6 (eW d.rules) d.kept d.runs (d.vers.getD i 0) (i:Int) day).l,runs:=(g6 (eW d.rules) d.kept d.runs (d.vers.getD i 0) (i:Int) day).n}):=by
   unfold eQ;dsimp only;rw[ax g,j,cj]
  have ea:uX (coD d) r day=[((i:Int),day)]:=by
   unfold uX coD;dsimp only;rw[ax g,j]
  rw[j]at x;obtain⟨B,_⟩:=xB h.di.flt (show i<d.rules.length by omega) o p;rw[ea]at s⊢;have k:=s _ bf;have b:=h.kept.next w k (mF (eW d.rules) (i:Int) day);have t:d.vers.getD (i:Int).toNat 0=d.vers.getD i 0:=(by rw[cj]);rw[t]at b
  have u:(g6 (eW d.rules) d.kept d.runs (d.vers.getD i 0) (i:Int) day).l=Vx.ME d.kept (d.vers.getD i 0) (i:Int) day (mF (eW d.rules) (i:Int) day):=by
   unfold g6 Vx.ME;by_cases f:ku d.kept (d.vers.getD i 0) (i:Int) day=true
   ·rw[aB f,aB f]
   ·rw[ax f,ax f,ax (fun c=>c B)]
  refine⟨⟨z,?_⟩,?_,y,fun v=> ?_⟩
  ·rw[e,u];exact b
  ·rw[e]
  ·have a:=h.kept.hit (v _ bf);rw[t]at a;rw[e];show(g6 (eW d.rules) d.kept d.runs (d.vers.getD i 0) (i:Int) day).n=_;unfold g6;rw[aB a]
theorem DG {U:List (Int×Int)}(g:U.length<=64)(s:Sv){day:Int}(e:0<=day)(f:day<146097): ∀(m r:Nat) (d:Dk) (A:List (Int×Int)),KD U A d->(∀q∈uY (coD d) s day m r,q∈U)->
  KD U (uY (coD d) s day m r++A) (fD s day m r d).2/\(fD s day m r d).2.vers=d.vers/\coD (fD s day m r d).2=coD d/\((∀q∈uY (coD d) s day m r,q∈A)->(fD s day m r d).2.runs=d.runs)
 |0,_,d,A,h,_=>⟨h,rfl,rfl,fun _=>rfl⟩
 |m+1,r,d,A,h,c=>by
  unfold fD uY at*;dsimp only at*;by_cases b:s.roles.any (fun p=>decide ((r:Int)∈p))=true
  ·rw[aB b]at c;rw[aB b,aB b];obtain⟨l,n,i,o⟩:=Mg h g (r:Int) e f fun q a=>c q (dJ _ a);have t:(iB d (r:Int) day (-1)).2=(eQ d (r:Int) day).2:=rfl;obtain⟨b1,b2,b3,j⟩:=DG g s e f m (r+1) _ _ l fun q a=>c q (dm _ (by rw[i]at a;exact a));rw[t];rw[i]at b1 b3 j;refine⟨Fw b1 fun q a=> ?_,b2.trans n,b3,fun k=> ?_⟩
   ·simp only[bN]at a⊢;rcases a with(a|a)|a
    ·exact .inr (.inl a)
    ·exact .inl a
    ·exact .inr (.inr a)
   ·rw[j fun q a=>dm _ (k q (dm _ a)),o fun q a=>k q (dJ _ a)]
  ·rw[ax b]at c;rw[ax b,ax b];exact DG g s e f m (r+1) d A h c
theorem DH {U:List (Int×Int)}(f:U.length<=64)(s:Sv){day:Int}(n:0<=day): ∀(m i:Nat) (d:Dk) (A:List (Int×Int)),KD U A d->day+i+m<=146097->(∀q∈uZ (coD d) s day m i,q∈U)->
  KD U (uZ (coD d) s day m i++A) (gV s day m i d).2/\(gV s day m i d).2.vers=d.vers/\coD (gV s day m i d).2=coD d/\((∀q∈uZ (coD d) s day m i,q∈A)->(gV s day m i d).2.runs=d.runs)
 |0,_,d,A,h,_,_=>⟨h,rfl,rfl,fun _=>rfl⟩
 |m+1,i,d,A,h,a,g=>by
  unfold gV uZ at*;dsimp only at*;obtain⟨j,k,b,l⟩:=DG f s (day:=day+i) (by omega) (by omega) d.res.length 0 d A h fun q a=>g q (dJ _ a);obtain⟨b1,b2,b3,c⟩:=DH f s n m (i+1) _ _ j (by omega) fun q a=>g q (dm _ (by rw[b]at a;exact a));rw[b]at b1 b3 c;refine⟨Fw b1 fun q a=> ?_,b2.trans k,b3,fun e=> ?_⟩
  ·simp only[bN]at a⊢;rcases a with(a|a)|a
   ·exact .inr (.inl a)
   ·exact .inl a
   ·exact .inr (.inr a)
  ·rw[c fun q a=>dm _ (e q (dm _ a)),l fun q a=>e q (dJ _ a)]
def xK (n:Nat)(day:Int):Nat->Nat->List (Int×Int)
 |0,_=>[]
 |m+1,i=>((List.range n).map fun(k:Nat)=>((k:Int),day+(i:Int)))++xK n day m (i+1)
theorem DK (n:Nat)(day:Int): ∀m i:Nat,(xK n day m i).length=m*n
 |0,i=>by simp[xK]
 |m+1,i=>by
  rw[xK,aO,DK n day m (i+1),aX,List.length_range,Nat.succ_mul];omega
theorem DL (c:Co)(s:Sv)(day:Int)(q:Int×Int): ∀m r:Nat,q∈uY c s day m r->(0<=q.1/\q.1<c.rules.length)/\q.2=day
 |0,_,h=>by cases h
 |m+1,r,h=>by
  unfold uY at h;rcases bN.1 h with h|h
  ·split at h
   ·unfold uX at h;split at h
    ·cases h
    ·rename_i a;cases bL.1 h;have:=mu c.rules (c.res.getD ((r:Int)).toNat []);exact⟨⟨by show 0<=atP5 c.rules _;omega,by show atP5 c.rules _<_;omega⟩,rfl⟩
   ·cases h
  ·exact DL c s day q m (r+1) h
theorem DM (c:Co)(s:Sv)(day:Int)(q:Int×Int): ∀m i:Nat,q∈uZ c s day m i->q∈xK c.rules.length day m i
 |0,_,h=>by cases h
 |m+1,i,h=>by
  unfold uZ at h;unfold xK;rcases bN.1 h with h|h
  ·obtain⟨b,a⟩:=DL c s _ q _ _ h;refine dJ _ (dI.2 ⟨q.1.toNat,iS.2 (by omega),?_⟩);rw[<-a];exact Prod.ext (by show(q.1.toNat:Int)=q.1;omega) rfl
  ·exact dm _ (DM c s day q m (i+1) h)
theorem Hj {d:Dk}(h:DI d)(s:Vx.NK d.kept)(n day days:Int)(u:days.toNat*d.rules.length<=64):(fH (fH d n day days).2 n day days).2.runs=(fH d n day days).2.runs:=by
 have f: ∀a:Dk,coD a=coD d->(fH a n day days).2=if isN n d.svs.length=false then a else if isN day 146097=false\/days<1\/30<days\/146097<day+days then a else(gV (d.svs.getD n.toNat sv0) day days.toNat 0 a).2:=fun a e=>by
  have r:a.svs=d.svs:=congrArg Co.svs e;unfold fH;rw[r];split
  ·rfl
  split
  ·rfl
  dsimp only;split<;>rfl
 by_cases c:isN n d.svs.length=false
 ·have e:(fH d n day days).2=d:=by rw[f d rfl,aB c]
  rw[e,e]
 by_cases b:isN day 146097=false\/days<1\/30<days\/146097<day+days
 ·have e:(fH d n day days).2=d:=by rw[f d rfl,ax c,aB b]
  rw[e,e]
 have o:=rz (n:=day) (m:=146097) fun q=>b (.inl q);have t:=DK d.rules.length day days.toNat 0;have k: ∀q∈uZ (coD d) (d.svs.getD n.toNat sv0) day days.toNat 0,q∈xK d.rules.length day days.toNat 0:=fun q i=>DM (coD d) _ day q _ _ i
 have l:day+((0:Nat):Int)+(days.toNat:Int)<=146097:=by
  have: ¬146097<day+days:=fun q=>b (.inr (.inr (.inr q)));omega
 obtain⟨p,_,g,_⟩:=DH (by omega) (d.svs.getD n.toNat sv0) o.1 days.toNat 0 d [] ⟨h,Vx.bq.start s⟩ l k;obtain⟨_,_,_,j⟩:=DH (by omega) (d.svs.getD n.toNat sv0) o.1 days.toNat 0 _ _ p l (by rw[g];exact k);rw[g]at j;have e:(fH d n day days).2=(gV (d.svs.getD n.toNat sv0) day days.toNat 0 d).2:=by rw[f d rfl,ax c,ax b]
 rw[e,f _ g,ax c,ax b];exact j fun q i=>dJ _ i
theorem P0 (j:List Cd){l:List Vx.Kp}(h:Vx.NK l)(runs g f day:Int):Vx.NK (g6 j l runs g f day).l:=by
 unfold g6
 have k: ∀e:Vx.Kp,Vx.kK e=(f,day)->Vx.NK (fA l (fB f day l 0)++[e]):=fun e m=>by
  have:=Vx.On (e:=e) h;rw[m]at this;rw[Vx.Mf h];exact this
 by_cases i:ku l g f day=true
 ·rw[aB i];refine k _ ?_;unfold ku at i;rw[br,bz,bz]at i;rcases Vx.zD l 0 h (r:=f) (d:=day) with⟨a,_⟩|⟨n,x,a,b,c,_⟩
  ·rw[a]at i;exact absurd i.1 (by decide)
  ·rw[a,show(((0+n:Nat):Int)).toNat=n by omega,bT,b];exact c
 ·rw[ax i];split
  ·exact List.nodup_nil
  ·exact(k ⟨f,day,g,mF j f day⟩ rfl).sub (List.drop_sublist _ _)
theorem xL {d:Dk}(h:Vx.NK d.kept)(r day:Int):Vx.NK (eQ d r day).2.kept:=by
 unfold eQ;dsimp only;split
 ·exact h
 ·exact P0 _ h _ _ _ _
theorem DN {f:Int->Dk->Bool×Dk}(a: ∀x d,Vx.NK d.kept->Vx.NK (f x d).2.kept): ∀(l:List Int) (d:Dk),Vx.NK d.kept->Vx.NK (jf f l d).2.kept
 |[],_,h=>h
 |x::l,d,h=>by
  unfold jf;split
  ·exact a x d h
  ·exact DN a l _ (a x d h)
theorem DO {d:Dk}(h:Vx.NK d.kept)(n:Int)(a:Ap)(day min:Int)(who:List Int):Vx.NK (fd d n a day min who).2.kept:=by
 unfold fd;split
 ·exact h
 split
 ·exact h
 split
 ·exact h
 have b:=DN (f:=kY day n (min-a.bef) (min+a.len+a.aft)) (fun x d h=>xL h x day) who d h;dsimp only;split<;>exact b
theorem u9 {d:Dk}(h:Vx.NK d.kept)(n:Int){f:Ap->Dk->(Ap×Int)×Dk}(b: ∀a,Vx.NK (f a d).2.kept):Vx.NK (ig d n f).2.kept:=by
 unfold ig;split
 ·exact h
 dsimp only;split<;>exact b _
theorem DP (s:Sv)(day:Int): ∀(m r:Nat) (d:Dk),Vx.NK d.kept->Vx.NK (fD s day m r d).2.kept
 |0,_,_,h=>h
 |m+1,r,d,h=>by
  unfold fD;split
  ·exact DP s day m (r+1) _ (xL h r day)
  ·exact DP s day m (r+1) d h
theorem Km (s:Sv)(day:Int): ∀(m i:Nat) (d:Dk),Vx.NK d.kept->Vx.NK (gV s day m i d).2.kept
 |0,_,_,h=>h
 |m+1,i,d,h=>Km s day m (i+1) _ (DP s _ _ _ d h)
theorem xM: ∀(l:List Ap) (i:Nat) (d:Dk),Vx.NK d.kept->Vx.NK (ff l i d).2.kept
 |[],_,_,h=>h
 |a::l,i,d,h=>by
  unfold ff;split
  ·exact xM l (i+1) d h
  ·exact xM l (i+1) _ (DN (fun x d h=>xL h x a.day) a.who d h)
theorem QG {d:Dk}(h:Vx.NK d.kept)(c:Cm):Vx.NK (doP d c).2.kept:=by
 unfold doP;split
 ·unfold mL;split
  ·exact h
  ·exact xM _ _ _ h
 split
 ·unfold ro;split
  ·exact h
  split<;>exact h
 split
 ·unfold rq;split
  ·exact h
  split<;>exact h
 split
 ·unfold fH;split
  ·exact h
  split
  ·exact h
  dsimp only;split<;>exact Km _ _ _ _ _ h
 split
 ·unfold lJ;split
  ·exact h
  split
  ·exact h
  dsimp only;split<;>exact DO h ..
 split
 ·exact u9 h _ fun a=>h
 split
 ·exact u9 h _ fun a=>h
 split
 ·exact u9 h _ fun a=>DO h ..
 split
 ·unfold qq;split<;>exact h
 ·exact h
theorem Fy: ∀(l:List Cm) (d:Dk),Vx.NK d.kept->Vx.NK (playP d l).2.kept
 |[],_,h=>h
 |c::l,_,h=>Fy l _ (QG h c)
theorem P1:Vx.NK dk0.kept:=List.nodup_nil
theorem Hk (l:List Cm)(n day days:Int)(a:days.toNat*(playP dk0 l).2.rules.length<=64):(fH (fH (playP dk0 l).2 n day days).2 n day days).2.runs=(fH (playP dk0 l).2 n day days).2.runs:=
 Hj (rD l).2.2.1 (Fy l dk0 P1) n day days a
theorem Kn (l:List Cm)(n day days:Int):(fH (fH (playP dk0 l).2 n day days).2 n day days).1=(fH (playP dk0 l).2 n day days).1:=by
 have i:=(rD l).2.2;have a: ∀d:Dk,doP d (cF n day days)=fH d n day days:=fun d=>rfl;have g: ∀c:Co,doS c (cF n day days)=fQ c n day days:=fun c=>rfl;obtain⟨b,e,f⟩:=BO i (cF n day days);rw[a,g]at b e;rw[a]at f;obtain⟨b1,_,_⟩:=BO f (cF n day days);rw[a,g]at b1;rw[b1,b,e]
 have j:(fQ (coD (playP dk0 l).2) n day days).2=coD (playP dk0 l).2:=by
  unfold fQ;split
  ·rfl
  split
  ·rfl
  split<;>rfl
 rw[j]
theorem mE: ∀(l m:List Cm) (d:Dk),playP d (l++m)=((playP d l).1++(playP (playP d l).2 m).1,(playP (playP d l).2 m).2)
 |[],_,_=>rfl
 |c::l,m,d=>by
  show playP d (c::(l++m))=_;have:=mE l m (doP d c).2;show((doP d c).1::(playP (doP d c).2 (l++m)).1,(playP (doP d c).2 (l++m)).2)=_;rw[this];rfl
theorem Hl (l:List Cm)(n day days:Int): ∃a:An,(playP dk0 (l++[cF n day days])).1[l.length]? =some a/\(playP dk0 (l++[cF n day days,cF n day days])).1[l.length+1]? =some a/\(days.toNat*(playP dk0 (l++[cF n day days])).2.rules.length<=64->(playP dk0 (l++[cF n day days,cF n day days])).2.runs=(playP dk0 (l++[cF n day days])).2.runs):=by
 have ha:=Kn l n day days;have f:=Hk l n day days;have c:(playP dk0 l).1.length=l.length:=pQ l
 have e:coD (fH (playP dk0 l).2 n day days).2=coD (playP dk0 l).2:=by
  obtain⟨_,d,_⟩:=BO (rD l).2.2 (cF n day days);exact d.trans (uW (coD (playP dk0 l).2) n day days)
 refine⟨(fH (playP dk0 l).2 n day days).1,?_,?_,fun b=> ?_⟩
 ·rw[mE,df (by rw[c];exact aD _),c,iN];rfl
 ·rw[mE,df (by rw[c];omega),c,Nat.add_sub_cancel_left,<-ha];rfl
 ·rw[mE]at b;have er:(playP (playP dk0 l).2 [cF n day days]).2.rules=(playP dk0 l).2.rules:=congrArg Co.rules e;dsimp only at b;rw[er]at b;rw[mE,mE];exact f b
theorem Ko (l:List Cm):(playP dk0 l).2.rules.length<=40:=by
 have h:=(rD l).2.2.flt;refine(pN ?_).1;by_cases a:(dy (playP dk0 l).2.rules).1=0
 ·exact a
 ·unfold iE at h;rw[aB a]at h;exact congrArg Prod.fst h
theorem Mh {l:List Cm}{n day days:Int}{a:An}(h:(playP dk0 (l++[cF n day days])).1[l.length]? =some a)(ha:a.err=0\/a.err=11):1<=days/\days<=30:=by
 have e:=xJ l [cF n day days] (j:=0) (a:=(fQ (ib co0 l).2 n day days).1) rfl;rw[Nat.add_zero,h]at e;cases aM e;by_cases b:isN n (ib co0 l).2.svs.length=false
 ·unfold fQ at ha;rw[aB b]at ha;rcases ha with ha|ha<;>exact absurd (show(6:Int)=_ from ha) (by decide)
 by_cases c:isN day 146097=false\/days<1\/30<days\/146097<day+days
 ·unfold fQ at ha;rw[ax b,aB c]at ha;rcases ha with ha|ha<;>exact absurd (show(3:Int)=_ from ha) (by decide)
 omega
theorem EG (C:List (Cm×Value×Value))(v:Value)(n x y:Int)(w:World)(hs:k6 w v C)(t:C.length<=1000000000000)(hT:Tbs w.heap.size w):Calls prog 6 #[v,ag n,ag x,ag y] w fun e w'=>e= .returned (.bool true)/\aq w w':=by
 have c1:=wn w hT;have HT:=aF hT;obtain⟨p,k,rfl,_,_⟩:=id hs;obtain⟨m,N⟩:=au C.length;rw[N]at hs t⊢;have HS:=aF hs;have HM:=aF N;have aW:IntKind.i64.wrap ((m:Int)+2)=(m:Int)+2:=by rw[bx];omega
 clear hT hs N;go_enter func6,ntmps6;go_wp2_with fail;refine c1.mono ?_;rintro e w1 ⟨rfl,b1⟩;clear c1;have ay:=aF b1;clear b1;by_cases d:60<(m:Int)+2
 ·go_wp2_with fail;go_ret;exact⟨rfl,ay.o⟩
 ·obtain⟨wZ,wC,hZ,nZ,hC,bC,nH⟩:=nbs w1 #[ag 0,ag 0,ag 0,ag 0,.string ⟨#[]⟩,.string ⟨#[]⟩,ag 0,ag 0,ag 0,af,ag 0,ag 0,af] #[ag 4,ag n,ag x,ag y,.string ⟨#[]⟩,.string ⟨#[]⟩,ag 0,ag 0,ag 0,af,ag 0,ag 0,af] 41;have Y:=aw ay.o bC;have a1:Rg (∀W,DoB W.heap.size W [(cF n x y,af,af)]):=fun W=>DE fun u _=>uT _ rfl rfl (dL _) (dL _)
  have U:PyC wC C [(cF n x y,af,af)] (.slice p m k):=⟨HS.o.below Y,vT (zu HS.o) (fun q hq=>by
   simp only[bo,List.not_mem_nil,or_false]at hq;subst hq;exact a1.o w) Y,by rw[aO,HM.o];show m+1<=60;omega,Nat.zero_lt_succ _,fun W hW=>HT.o W (aw Y hW)⟩
  have HC:=aF U;have a0:=aF Y;clear U Y bC;go_upto_region 6 with(refine aA rfl 41 _ _ rfl _ _ rfl rfl _ _ nZ (by kernel_rfl) rfl (by simp[Value.oneCell']) ?_;rw[hC])
  clear nZ hZ hC;refine cZ (PyJ wC 4 29 10 C [(cF n x y,af,af)]) [td 30,kn 31 (.slice p m k),td 32,kn 33 (.agg #[ag 4,ag n,ag x,ag y,.string ⟨#[]⟩,.string ⟨#[]⟩,ag 0,ag 0,ag 0,af,ag 0,ag 0,af]),td 34,td 35,td 36,td 29,td 37,td 38,td 39,td 40,td 10,nk,td 11,td 12,td 13] (fun _=>PyJ.start (aH _ _).drew) (fun _ _ _ _ B h=>h.below B) (by kernel_rfl) ?_ ?_
  ·rintro M φ W V _ F l hl s;have b:=aF V;clear V;simp only[kn,td,nk,eh,aQ,aT,Act.put,az,aK,aJ]at hl;subst hl;simp only[dc,Nat.reduceAdd]at s;dsimp only[kn,td,nk,dz,eV,eo,Act.put];and_intros;all_goals first|exact trivial|intro f t N K r
   all_goals try (go_simp;with_reducible exact r _ _ ⟨rfl,aH _ _⟩)
   ·show Oper.wp _ _ _ _ _ _;exact lX rfl (r _ _ ⟨trivial,b.o.d0 (by decide) (t 2 _ rfl (by kernel_rfl))⟩)
   ·show Oper.wp _ _ _ _ _ _;exact b.o.op2 HC.o (by decide) (f ⟨0,.data⟩ (by simp) rfl rfl) N (t 5 _ rfl (by kernel_rfl)) rfl rfl (by simp[Act.eval,s]) (by simp[Act.eval,s]) fun u W' h=>r _ _ ⟨trivial,h⟩
   ·show Oper.wp _ _ _ _ _ _;refine dX 41 _ rfl _ (by simp[Act.eval,s]) _ _ _ _ (bt b.o.bel nH) doT rfl (by kernel_rfl) ?_;exact r _ _ ⟨rfl,aH _ _⟩
   ·have h8:=t 5 _ rfl (by kernel_rfl);clear f t;go_simp;exact r _ _ ⟨trivial,b.o.d7' (by decide) h8 (by kernel_rfl) (by kernel_rfl)⟩
   ·show Oper.wp _ _ _ _ _ _;exact b.o.op8 HC.o (by decide) (f ⟨2,.data⟩ (by simp) rfl rfl) (f ⟨4,.data⟩ (by simp) rfl rfl) N rfl rfl (by simp[Act.eval,s]) (by simp[Act.eval,s]) fun u W' h=>r _ _ ⟨trivial,h⟩
   ·have cP:=b.o.play HC.o (by decide) (f ⟨5,.data⟩ (by simp) rfl rfl) N;clear f t;go_simp;refine cP.mono ?_;rintro e W' ⟨u,rfl,h⟩;exact r _ _ ⟨trivial,h⟩
   ·have d:=f ⟨6,.data⟩ (by simp) rfl rfl;have i:=d;obtain⟨J,ev,sv,av,A,I,L,D,H,j⟩:=b.o.e9 i;rw[j.get 0 rfl d]at s;clear f t;go_simp;exact r _ _ ⟨trivial,b.o.val i j (by decide) (by decide) (p:=1) rfl⟩
   ·have d:=f ⟨7,.data⟩ (by simp) rfl rfl;have i:=b.o.cl 7 (by decide) (by decide) d;obtain⟨J,ev,sv,av,A,I,L,D,H,j⟩:=b.o.e9 i;rw[j.get 1 rfl d]at s;clear f t;go_simp;exact r _ _ ⟨trivial,b.o.val i j (by decide) (by decide) (p:=2) rfl⟩
   ·have d:=f ⟨7,.data⟩ (by simp) rfl rfl;have i:=b.o.cl 7 (by decide) (by decide) d;obtain⟨J,ev,sv,av,A,I,L,D,H,j⟩:=b.o.e9 i;rw[j.get 1 rfl d]at s;clear f t;go_simp;exact r _ _ ⟨trivial,b.o.val i j (by decide) (by decide) (p:=3) rfl⟩
   ·have d:=f ⟨7,.data⟩ (by simp) rfl rfl;have i:=b.o.cl 7 (by decide) (by decide) d;obtain⟨J,ev,sv,av,A,I,L,D,H,j⟩:=b.o.e9 i;rw[j.get 1 rfl d]at s;clear f t;go_simp;exact r _ _ ⟨trivial,b.o.val i j (by decide) (by decide) (p:=4) rfl⟩
   ·have d:=f ⟨7,.data⟩ (by simp) rfl rfl;have i:=b.o.cl 7 (by decide) (by decide) d;obtain⟨J,ev,sv,av,A,I,L,D,H,j⟩:=b.o.e9 i;rw[j.get 1 rfl d]at s;clear f t;go_simp;exact r _ _ ⟨trivial,b.o.val i j (by decide) (by decide) (p:=5) rfl⟩
   ·have ak:=t 13 _ rfl (by kernel_rfl);clear f t;go_simp;exact r _ _ ⟨trivial,b.o.da (by decide) ak⟩
   ·have h4:=f ⟨8,.data⟩ (by simp) rfl rfl;obtain⟨c,g,e1,e2,d,h3,hg,h⟩:=b.o.d16 (b.o.cl 8 (by decide) (by decide) h4) h4 (f ⟨12,.data⟩ (by simp) rfl rfl) N;show Oper.wp _ _ _ _ _ _;exact i7 (ops:= #[]) rfl (aA rfl 29 _ _ rfl g c (by simp[Act.eval,s,e1]) (by simp[Act.eval,s,e2]) _ _ hg (by rw[h3];kernel_rfl) (by rw[h3];rfl) d ⟨rfl,r undef _ ⟨trivial,h⟩⟩)
   ·have d:=f ⟨9,.data⟩ (by simp) rfl rfl;have i:=b.o.cl 9 (by decide) (by decide) d;obtain⟨J,ev,sv,av,A,I,L,D,H,j⟩:=b.o.e9 i;rw[j.get 3 rfl d]at s;clear f t;go_simp;exact r _ _ ⟨trivial,b.o.val i j (by decide) (by decide) (p:=6) rfl⟩
   ·have d:=f ⟨10,.data⟩ (by simp) rfl rfl;have i:=b.o.cl 10 (by decide) (by decide) d;obtain⟨J,ev,sv,av,A,I,L,D,H,j⟩:=b.o.e9 i;rw[j.get 4 rfl d]at s;clear f t;go_simp;exact r _ _ ⟨trivial,b.o.val i j (by decide) (by decide) (p:=7) rfl⟩
   ·have d:=f ⟨11,.data⟩ (by simp) rfl rfl;have i:=b.o.cl 11 (by decide) (by decide) d;obtain⟨J,ev,sv,av,A,I,L,D,H,j⟩:=b.o.e9 i;rw[j.get 5 rfl d]at s;clear f t;go_simp;exact r _ _ ⟨trivial,b.o.val i j (by decide) (by decide) (p:=8) rfl⟩
  ·rintro M φ W1 hM V
   obtain⟨bv,bn,sv1,bf,aZ,bz,aM,bs,g1,Q,R,S,_,an,a5,hR⟩:=V.fin fun k d h2=>by
    obtain rfl|rfl|rfl|rfl|rfl|rfl|rfl|rfl|rfl|rfl|rfl:k=6\/k=7\/k=8\/k=9\/k=10\/k=11\/k=12\/k=13\/k=14\/k=15\/k=16:=(by omega);all_goals exact hM _ (by decide) rfl
   simp only[kn,td,nk,eD,aQ,aT,Act.put,az,aK,aJ];rw[Q,R,S];have ac:=hR.here;rw[dO,show([(cF n x y,af,af)]:List (Cm×Value×Value)).map (fun q=>q.1)=[cF n x y] from rfl]at ac⊢;have E:=pQ ((C.map fun q=>q.1)++[cF n x y]);have T:=aw a0.o an;obtain⟨a,f1,f2,hr⟩:=Hl (C.map fun q=>q.1) n x y;have ad:=fun h=>Mh f1 h;have al:=Ko ((C.map fun q=>q.1)++[cF n x y]);rw[aX,HM.o]at f1 f2;obtain⟨px,cx,rfl,X⟩:=ac.at7;obtain⟨gx,wv,lv,rfl,O,k1,k3⟩:=X _ _ f1;replace k1:=k1.1;obtain⟨us,aE,aD⟩:=ac.rules;obtain⟨pr,kr,rfl⟩:=aE.form;have yr:=cr 0 a5 rfl;have ao:us.length=(playP dk0 ((C.map fun q=>q.1)++[cF n x y])).2.rules.length:=(by rw[<-aD,aX]);obtain⟨ar,ah⟩:=au ((playP dk0 ((C.map fun q=>q.1)++[cF n x y])).2.runs);obtain⟨n5,a8⟩:=au ((playP dk0 ((C.map fun q=>q.1)++[cF n x y])).1.length);obtain⟨n1,a7⟩:=au us.length;rw[a7]at yr ao;rw[<-ao]at hr al;rw[ah]at hr⊢;rw[a8]at E⊢;have aS:(n5:Int)=(m:Int)+1:=(by simp[HM.o]at E;omega);have nH:=bt an nH;have HR:=aF hr;have a2:=aF ad;have U:PyC W1 C [(cF n x y,af,af),(cF n x y,af,af)] (.slice p m k):=⟨HS.o.below T,vT (zu HS.o) (fun q hq=>by
   simp only[bo,List.not_mem_nil,or_false,or_self]at hq;subst hq;exact a1.o w) T,by rw[aO,HM.o];show m+2<=60;omega,Nat.zero_lt_succ _,fun W hW=>HT.o W (aw T hW)⟩
   have HC:=aF U;have aG:=aF T;have RA:=aF O;have K1:=aF k1;have K3:=aF k3;have YR:=aF yr;have F2:=aF f2;clear ac hR f1 f2 E hM V X a8 T U an a5 hr ad aE aD ao ah a7 O k1 k3 yr Q R S a0;go_upto_region 7 with fail;refine cZ (PyJ W1 5 41 14 C [(cF n x y,af,af),(cF n x y,af,af)]) [td 42,kn 43 (.slice p m k),td 44,kn 45 (.agg #[ag 4,ag n,ag x,ag y,.string ⟨#[]⟩,.string ⟨#[]⟩,ag 0,ag 0,ag 0,af,ag 0,ag 0,af]),kn 46 (.agg #[ag 4,ag n,ag x,ag y,.string ⟨#[]⟩,.string ⟨#[]⟩,ag 0,ag 0,ag 0,af,ag 0,ag 0,af]),td 47,td 48,td 49,td 41,td 50,td 51,td 52,td 53,td 14,nk,td 15,td 16,td 17] (fun _=>PyJ.start (aH _ _).drew) (fun _ _ _ _ B h=>h.below B) (by kernel_rfl) ?_ ?_
   ·rintro M φ W V _ F l hl s;have b:=aF V;clear V;simp only[kn,td,nk,eh,aQ,aT,Act.put,az,aK,aJ]at hl;subst hl;simp only[dc,Nat.reduceAdd]at s;dsimp only[kn,td,nk,dz,eV,eo,Act.put];and_intros;all_goals first|exact trivial|intro f t N K r
    all_goals try (go_simp;with_reducible exact r _ _ ⟨rfl,aH _ _⟩)
    ·show Oper.wp _ _ _ _ _ _;exact lX rfl (r _ _ ⟨trivial,b.o.d0 (by decide) (t 2 _ rfl (by kernel_rfl))⟩)
    ·show Oper.wp _ _ _ _ _ _;exact b.o.op2 HC.o (by decide) (f ⟨0,.data⟩ (by simp) rfl rfl) N (t 6 _ rfl (by kernel_rfl)) rfl rfl (by simp[Act.eval,s]) (by simp[Act.eval,s]) fun u W' h=>r _ _ ⟨trivial,h⟩
    ·show Oper.wp _ _ _ _ _ _;refine dX 41 _ rfl _ (by simp[Act.eval,s]) _ _ _ _ (bt b.o.bel nH) doT rfl (by kernel_rfl) ?_;exact r _ _ ⟨rfl,aH _ _⟩
    ·show Oper.wp _ _ _ _ _ _;refine dX 41 _ rfl _ (by simp[Act.eval,s]) _ _ _ _ (bt b.o.bel nH) doT rfl (by kernel_rfl) ?_;exact r _ _ ⟨rfl,aH _ _⟩
    ·have h8:=t 6 _ rfl (by kernel_rfl);clear f t;go_simp;exact r _ _ ⟨trivial,b.o.d7' (by decide) h8 (by kernel_rfl) (by kernel_rfl)⟩
    ·show Oper.wp _ _ _ _ _ _;exact b.o.op8 HC.o (by decide) (f ⟨2,.data⟩ (by simp) rfl rfl) (f ⟨5,.data⟩ (by simp) rfl rfl) N rfl rfl (by simp[Act.eval,s]) (by simp[Act.eval,s]) fun u W' h=>r _ _ ⟨trivial,h⟩
    ·have cP:=b.o.play HC.o (by decide) (f ⟨6,.data⟩ (by simp) rfl rfl) N;clear f t;go_simp;refine cP.mono ?_;rintro e W' ⟨u,rfl,h⟩;exact r _ _ ⟨trivial,h⟩
    ·have d:=f ⟨7,.data⟩ (by simp) rfl rfl;have i:=d;obtain⟨J,ev,sv,av,A,I,L,D,H,j⟩:=b.o.e9 i;rw[j.get 0 rfl d]at s;clear f t;go_simp;exact r _ _ ⟨trivial,b.o.val i j (by decide) (by decide) (p:=1) rfl⟩
    ·have d:=f ⟨8,.data⟩ (by simp) rfl rfl;have i:=b.o.cl 8 (by decide) (by decide) d;obtain⟨J,ev,sv,av,A,I,L,D,H,j⟩:=b.o.e9 i;rw[j.get 1 rfl d]at s;clear f t;go_simp;exact r _ _ ⟨trivial,b.o.val i j (by decide) (by decide) (p:=2) rfl⟩
    ·have d:=f ⟨8,.data⟩ (by simp) rfl rfl;have i:=b.o.cl 8 (by decide) (by decide) d;obtain⟨J,ev,sv,av,A,I,L,D,H,j⟩:=b.o.e9 i;rw[j.get 1 rfl d]at s;clear f t;go_simp;exact r _ _ ⟨trivial,b.o.val i j (by decide) (by decide) (p:=3) rfl⟩
    ·have d:=f ⟨8,.data⟩ (by simp) rfl rfl;have i:=b.o.cl 8 (by decide) (by decide) d;obtain⟨J,ev,sv,av,A,I,L,D,H,j⟩:=b.o.e9 i;rw[j.get 1 rfl d]at s;clear f t;go_simp;exact r _ _ ⟨trivial,b.o.val i j (by decide) (by decide) (p:=4) rfl⟩
    ·have d:=f ⟨8,.data⟩ (by simp) rfl rfl;have i:=b.o.cl 8 (by decide) (by decide) d;obtain⟨J,ev,sv,av,A,I,L,D,H,j⟩:=b.o.e9 i;rw[j.get 1 rfl d]at s;clear f t;go_simp;exact r _ _ ⟨trivial,b.o.val i j (by decide) (by decide) (p:=5) rfl⟩
    ·have ak:=t 14 _ rfl (by kernel_rfl);clear f t;go_simp;exact r _ _ ⟨trivial,b.o.da (by decide) ak⟩
    ·have h4:=f ⟨9,.data⟩ (by simp) rfl rfl;obtain⟨c,g,e1,e2,d,h3,hg,h⟩:=b.o.d16 (b.o.cl 9 (by decide) (by decide) h4) h4 (f ⟨13,.data⟩ (by simp) rfl rfl) N;show Oper.wp _ _ _ _ _ _;exact i7 (ops:= #[]) rfl (aA rfl 29 _ _ rfl g c (by simp[Act.eval,s,e1]) (by simp[Act.eval,s,e2]) _ _ hg (by rw[h3];kernel_rfl) (by rw[h3];rfl) d ⟨rfl,r undef _ ⟨trivial,h⟩⟩)
    ·have d:=f ⟨10,.data⟩ (by simp) rfl rfl;have i:=b.o.cl 10 (by decide) (by decide) d;obtain⟨J,ev,sv,av,A,I,L,D,H,j⟩:=b.o.e9 i;rw[j.get 3 rfl d]at s;clear f t;go_simp;exact r _ _ ⟨trivial,b.o.val i j (by decide) (by decide) (p:=6) rfl⟩
    ·have d:=f ⟨11,.data⟩ (by simp) rfl rfl;have i:=b.o.cl 11 (by decide) (by decide) d;obtain⟨J,ev,sv,av,A,I,L,D,H,j⟩:=b.o.e9 i;rw[j.get 4 rfl d]at s;clear f t;go_simp;exact r _ _ ⟨trivial,b.o.val i j (by decide) (by decide) (p:=7) rfl⟩
    ·have d:=f ⟨12,.data⟩ (by simp) rfl rfl;have i:=b.o.cl 12 (by decide) (by decide) d;obtain⟨J,ev,sv,av,A,I,L,D,H,j⟩:=b.o.e9 i;rw[j.get 5 rfl d]at s;clear f t;go_simp;exact r _ _ ⟨trivial,b.o.val i j (by decide) (by decide) (p:=8) rfl⟩
   ·rintro M φ W2 hM V
    obtain⟨bw,bp,b2,bg,ba,b0,aN,bu,g2,Q,R,S,_,P,aR,hR⟩:=V.fin fun k d h2=>by
     obtain rfl|rfl|rfl|rfl|rfl|rfl|rfl|rfl|rfl|rfl|rfl:k=7\/k=8\/k=9\/k=10\/k=11\/k=12\/k=13\/k=14\/k=15\/k=16\/k=17:=(by omega);all_goals exact hM _ (by decide) rfl
    simp only[kn,td,nk,eD,aQ,aT,Act.put,az,aK,aJ];rw[Q,R,S];have am:=hR.here;rw[dO,show([(cF n x y,af,af),(cF n x y,af,af)]:List (Cm×Value×Value)).map (fun q=>q.1)=[cF n x y,cF n x y] from rfl]at am⊢;have G:=pQ ((C.map fun q=>q.1)++[cF n x y,cF n x y]);have a3:=aw aG.o P;obtain⟨py,cy,rfl,X⟩:=am.at7;obtain⟨gy,ax,ap,rfl,Z,k2,k4⟩:=X _ _ F2.o;replace k2:=k2.1;have k1:=K1.o.below P;have k3:=K3.o.below P;have O:=fZ RA.o P;have yr:=aj P YR.o;obtain⟨aY,ai⟩:=au ((playP dk0 ((C.map fun q=>q.1)++[cF n x y,cF n x y])).2.runs);obtain⟨n6,a9⟩:=au ((playP dk0 ((C.map fun q=>q.1)++[cF n x y,cF n x y])).1.length);have hr:=HR.o;rw[ai]at hr⊢;rw[a9]at G⊢;have aU:(n6:Int)=(m:Int)+2:=(by simp[HM.o]at G;omega);obtain⟨m1,a6⟩:=au (m+1);obtain⟨m2,aV⟩:=au (m+2);rw[a6]at Z;have y1:W2.cell? (ae gx (m*6))=some (ag a.err):=O 0 _ rfl;have v1:IntKind.i64.wrap ((m:Int)+1)=(m1:Int):=(by rw[bx];omega);have v2:IntKind.i64.wrap ((m:Int)+2)=(m2:Int):=(by rw[bx];omega);have p0:(0:Int)<=(m:Int):=(by omega);have p1:(0:Int)<=(m1:Int):=(by omega);have s0:(m:Int)<(n5:Int):=(by omega);have s1:(m1:Int)<(n6:Int):=(by omega)
    have j1:((n5:Int) !=(m1:Int))=false:=by
     have:(n5:Int)=(m1:Int):=(by omega);rw[this];simp
    have j2:((n6:Int) !=(m2:Int))=false:=by
     have:(n6:Int)=(m2:Int):=(by omega);rw[this];simp
    have aI:=aF a3;have aL:=aF hr;clear aW am hR hM V P X a9 G aU aS a6 aV a3 nH Q R S hr aR ai HR;go_upto_region 9 with fail;refine cZ (fun _ _ W=>aq W2 W) [kn 56 (.slice (some (ae gx 0)) n5 cx),kn 57 (ag (n5:Int)),kn 58 (ag (m:Int)),kn 59 (ag (m1:Int)),kn 60 (.bool false),kn 61 (.bool false),kn 62 (.slice (some (ae gy 0)) n6 cy),kn 63 (ag (n6:Int)),kn 64 (ag (m:Int)),kn 65 (ag (m2:Int)),kn 66 (.bool false),kn 67 (.bool false),kn 68 (.bool false),kn 69 (.slice (some (ae gx 0)) n5 cx),kn 70 (ag (m:Int)),kn 71 (ab gx (m*6)),kn 72 (.agg #[ag a.err,ag a.num,ag a.day,ag a.min,wv,lv]),kn 73 (.slice (some (ae gy 0)) n6 cy),kn 74 (ag (m:Int)),kn 75 (ag (m1:Int)),kn 76 (ab gy (m1*6)),kn 77 (.agg #[ag a.err,ag a.num,ag a.day,ag a.min,ax,ap]),kn 78 (.bool true),kn 79 (.bool false),kn 80 (.bool false)] (fun _=>(aH _ _).drew) (fun _ _ _ _ B h=>aw h B) (by kernel_rfl) ?_ ?_
    ·rintro M φ W B _ F l hl s;have O:=fZ O B;have Z:=fZ Z B;have bb:W.cell? (ae gx (m*6))=some (ag a.err):=O 0 _ rfl;have aM:W.cell? (ae gx (m*6+1))=some (ag a.num):=O 1 _ rfl;have aN:W.cell? (ae gx (m*6+2))=some (ag a.day):=O 2 _ rfl;have bc:W.cell? (ae gx (m*6+3))=some (ag a.min):=O 3 _ rfl;have bd:W.cell? (ae gx (m*6+4))=some (wv):=O 4 _ rfl;have be:W.cell? (ae gx (m*6+5))=some (lv):=O 5 _ rfl;have bh:W.cell? (ae gy (m1*6))=some (ag a.err):=Z 0 _ rfl;have bi:W.cell? (ae gy (m1*6+1))=some (ag a.num):=Z 1 _ rfl;have bj:W.cell? (ae gy (m1*6+2))=some (ag a.day):=Z 2 _ rfl;have bk:W.cell? (ae gy (m1*6+3))=some (ag a.min):=Z 3 _ rfl;have bl:W.cell? (ae gy (m1*6+4))=some (ax):=Z 4 _ rfl;have bm:W.cell? (ae gy (m1*6+5))=some (ap):=Z 5 _ rfl;have cS:=EF a wv lv ax ap W (k1.below B) (k2.below B) (k3.below B) (k4.below B);dsimp only[anC]at cS;clear O Z;simp only[kn,eh,aQ,aT,Act.put,az,aK,aJ]at hl;subst hl;simp only[dc,Nat.reduceAdd]at s;dsimp only[kn,dz,eV,eo,Act.put];and_intros;all_goals first|exact trivial|intro f t N K r
     all_goals try (go_simp;with_reducible exact r _ _ ⟨rfl,aH _ _⟩)
     ·go_simp;refine cS.mono ?_;rintro r' W' ⟨rfl,aP⟩;exact r _ _ ⟨rfl,aP⟩
    ·rintro M φ W hM B;simp only[kn,eD,aQ,aT,Act.put,az,aK,aJ];have a4:=aw aI.o B;have z1:=aj B y1;have zr:=aj B yr
     have H3:((a.err !=0)=true/\(a.err !=11)=true)\/((a.err !=0)=false/\1<=y/\y<=30)\/((a.err !=0)=true/\(a.err !=11)=false/\1<=y/\y<=30):=by
      by_cases h:a.err=0
      ·exact .inr (.inl ⟨by simp[h],a2.o (.inl h)⟩)
      ·by_cases h':a.err=11
       ·exact .inr (.inr ⟨by simp[h],by simp[h'],a2.o (.inr h')⟩)
       ·exact .inl ⟨by simpa using h,by simpa using h'⟩
     have HB:=aF a4;clear hM B O Z k1 k2 k3 k4 y1 yr j1 j2 v1 v2 p1 s1 a4;rcases H3 with⟨h2,h3⟩|⟨h2,h4⟩|⟨h2,h3,h4⟩
     ·clear al;go_wp2_with fail;go_ret;exact⟨rfl,HB.o⟩
     all_goals
      obtain⟨q,hq⟩:=au (y*(n1:Int))
      obtain⟨z,rfl⟩: ∃z:Nat,y=(z:Int):=⟨y.toNat,by omega⟩
      have hz:z*n1<=30*40:=Nat.mul_le_mul (by omega) al
      have aB:q=((z*n1:Nat):Int):=by rw[<-hq,Int.natCast_mul]
      have br:IntKind.i64.wrap ((z:Int)*(n1:Int))=q:=by rw[hq,bx];omega
      by_cases h5:64<q
      ·clear hq hz aB h4
       go_wp2_with fail
       go_ret
       exact⟨rfl,HB.o⟩
      ·have aC:aY=ar:=aL.o (by rw[cj];omega)
       have bq:(ar==ar)=true:=by simp
       rw[aC]
       clear hq hz aB h4 aC
       go_wp2_with fail
       go_ret
       exact⟨rfl,HB.o⟩
end Go.Proofs.YtlkehieagdkgiaaGreatDoor
