/- Texts of the proof. -/
import Derived.Test.YtlkehieagdkgiaaGreatDoorPf09
set_option maxRecDepth 100000
set_option maxHeartbeats 8000000
namespace Go.Proofs.YtlkehieagdkgiaaGreatDoor
open Go.Proofs.Tryz Go.RowKit Lx Vx Mx Msk
namespace Vx
def kK (k:Kp):Int×Int:=(k.r,k.d)
def NK (l:List Kp):Prop:=(l.map kK).Nodup
def jv (q:Int×Int)(l:List Kp):List Kp:=l.filter fun k=>decide (kK k≠q)
theorem NK.sub {l m:List Kp}(h:NK l)(a:m.Sublist l):NK m:=List.Pairwise.sublist (a.map kK) h
theorem Av {q:Int×Int}{l:List Kp}{k:Kp}:k∈jv q l↔k∈l/\kK k≠q:=by
 unfold jv;rw[List.mem_filter,bz]
theorem Fv {q:Int×Int}{l:List Kp}(h: ∀k∈l,kK k≠q):jv q l=l:=List.filter_eq_self.2 fun k a=>bn (h k a)
theorem zD {r d:Int}: ∀(l:List Kp) (j:Nat),NK l->(fB r d l j= -1/\ ∀k∈l,kK k≠(r,d))\/ ∃(n:Nat) (k:Kp),fB r d l j=((j+n:Nat):Int)/\l[n]? =some k/\kK k=(r,d)/\l.take n++l.drop (n+1)=jv (r,d) l
 |[],_,_=> .inl ⟨rfl,fun k m=>by cases m⟩
 |k::l,j,h=>by
  have i:kK k∉l.map kK/\NK l:=List.nodup_cons.1 h;unfold fB;by_cases e:k.r=r/\k.d=d
  ·rw[aB e];have f:kK k=(r,d):=(by unfold kK;rw[e.1,e.2]);refine .inr ⟨0,k,rfl,rfl,f,?_⟩;have o: ∀x∈l,kK x≠(r,d):=fun x p c=>i.1 (dI.2 ⟨x,p,c.trans f.symm⟩);have e2:jv (r,d) (k::l)=jv (r,d) l:=List.filter_cons_of_neg (by simp[f]);rw[e2,Fv o];rfl
  ·rw[ax e];have f:kK k≠(r,d):=fun c=>e ⟨congrArg Prod.fst c,congrArg Prod.snd c⟩;rcases zD l (j+1) i.2 with⟨a,b⟩|⟨n,x,a,b,c,dd⟩
   ·refine .inl ⟨a,fun y g=> ?_⟩;rcases bo.1 g with rfl|g
    ·exact f
    ·exact b y g
   ·refine .inr ⟨n+1,x,by rw[a];congr 1;omega,b,c,?_⟩;have e2:jv (r,d) (k::l)=k::jv (r,d) l:=List.filter_cons_of_pos (by simp[f]);rw[e2,<-dd];rfl
theorem Mf {r d:Int}{l:List Kp}(h:NK l):fA l (fB r d l 0)=jv (r,d) l:=by
 unfold fA;rcases zD l 0 h (r:=r) (d:=d) with⟨a,b⟩|⟨n,x,a,_,_,dd⟩
 ·rw[a,ax (by decide),Fv b]
 ·rw[a,aB (by omega),<-dd,show(((0+n:Nat):Int)).toNat=n by omega]
theorem PZ {r d:Int}{l:List Kp}(h:NK l){k:Kp}(p:k∈l)(e:kK k=(r,d)):ku l k.v r d=true/\l.getD (fB r d l 0).toNat k0=k:=by
 rcases zD l 0 h (r:=r) (d:=d) with⟨_,b⟩|⟨n,x,a,b,c,_⟩
 ·exact absurd e (b k p)
 ·have w:x=k:=by
   obtain⟨i,hi⟩:=List.getElem?_of_mem p;have f:=(aE.1 hi)
   have g:=(aE.1 b)
   obtain⟨t,j⟩:=f;obtain⟨u,m⟩:=g;have s:=List.pairwise_iff_getElem.1 (show(l.map kK).Pairwise (· ≠ ·) from h);rcases Nat.lt_trichotomy i n with q|q|q
   ·exfalso;refine s i n (by rw[aX];exact t) (by rw[aX];exact u) q ?_;rw[List.getElem_map,List.getElem_map,j,m,e,c]
   ·subst q;exact m.symm.trans j
   ·exfalso;refine s n i (by rw[aX];exact u) (by rw[aX];exact t) q ?_;rw[List.getElem_map,List.getElem_map,j,m,e,c]
  subst w
  have o:l.getD (fB r d l 0).toNat k0=x:=by
   rw[a,show(((0+n:Nat):Int)).toNat=n by omega,bT,b];rfl
  refine⟨?_,o⟩;unfold ku;rw[o,a,br,bz,bz];exact⟨by omega,rfl⟩
def ME (l:List Kp)(v r d:Int)(m:M):List Kp:=if ku l v r d=true then fA l (fB r d l 0)++[l.getD (fB r d l 0).toNat k0] else qi (fA l (fB r d l 0)++[⟨r,d,v,m⟩])
structure bq (U A:List (Int×Int))(V:Int->Int)(l:List Kp):Prop where
 nk:NK l
 suf: ∃pre suf,l=pre++suf/\(∀k∈suf,kK k∈U/\k.v=V k.r)/\ ∀q∈A,∃k∈suf,kK k=q
theorem bq.start {U:List (Int×Int)}{V:Int->Int}{l:List Kp}(h:NK l):bq U [] V l:=⟨h,l,[],by simp,(fun k a=>by simp at a),(fun q b=>by simp at b)⟩
theorem bq.hit {U A:List (Int×Int)}{V:Int->Int}{l:List Kp}(h:bq U A V l){r d:Int}(g:(r,d)∈A):ku l (V r) r d=true:=by
 obtain⟨a,suf,rfl,c,f⟩:=h.suf;obtain⟨k,b,e⟩:=f _ g;have i:k.r=r:=congrArg Prod.fst e;have:=(PZ h.nk (dm a b) e).1;rw[(c k b).2,i]at this;exact this
theorem On {l:List Kp}{e:Kp}(h:NK l):NK (jv (kK e) l++[e]):=by
 unfold NK;rw[dO,List.nodup_append];refine⟨h.sub List.filter_sublist,by simp,fun x d y a c=> ?_⟩;obtain⟨k,b,rfl⟩:=dI.1 d;simp at a;exact(Av.1 b).2 (c.trans a)
theorem bq.next {U A:List (Int×Int)}{V:Int->Int}{l:List Kp}(h:bq U A V l)(O:U.length<=64){r d:Int}(L:(r,d)∈U)(m:M):bq U ((r,d)::A) V (ME l (V r) r d m):=by
 obtain⟨i,suf,K,I,J⟩:=h.suf
 have s: ∀e:Kp,kK e=(r,d)->e.v=V r->NK (jv (r,d) l++[e])/\jv (r,d) l++[e]=jv (r,d) i++(jv (r,d) suf++[e])/\(∀k∈jv (r,d) suf++[e],kK k∈U/\k.v=V k.r)/\(∀q∈(r,d)::A,∃k∈jv (r,d) suf++[e],kK k=q)/\(jv (r,d) suf++[e]).length<=64:=fun e t ev=>by
  have z:=On (e:=e) h.nk;rw[t]at z
  have F:jv (r,d) l++[e]=jv (r,d) i++(jv (r,d) suf++[e]):=by
   rw[K];unfold jv;rw[List.filter_append,dD]
  have G: ∀k∈jv (r,d) suf++[e],kK k∈U/\k.v=V k.r:=fun k g=>by
   rcases bN.1 g with g|g
   ·exact I k (Av.1 g).1
   ·cases bL.1 g;exact⟨by rw[t];exact L,by rw[ev,show e.r=r from congrArg Prod.fst t]⟩
  refine⟨z,F,G,fun q w=> ?_,?_⟩
  ·by_cases j:q=(r,d)
   ·exact⟨e,by simp,by rw[t,j]⟩
   ·rcases bo.1 w with c|w
    ·exact absurd c j
    ·obtain⟨k,g,o⟩:=J q w;exact⟨k,dJ _ (Av.2 ⟨g,by rw[o];exact j⟩),o⟩
  ·have B:NK (jv (r,d) suf++[e]):=z.sub (by rw[F];exact List.sublist_append_right _ _)
   have:=List.Nodup.length_le_of_subset B (l₂:=U) fun x N=>by
    obtain⟨k,g,rfl⟩:=dI.1 N;exact(G k g).1
   rw[aX]at this;omega
 unfold ME;rw[Mf h.nk];by_cases y:ku l (V r) r d=true
 ·rw[aB y];have f:=y;unfold ku at f;rw[br,bz,bz]at f;rcases zD l 0 h.nk (r:=r) (d:=d) with⟨a,_⟩|⟨n,x,a,b,c,_⟩
  ·rw[a]at f;exact absurd f.1 (by decide)
  ·have H:l.getD (fB r d l 0).toNat k0=x:=by
    rw[a,show(((0+n:Nat):Int)).toNat=n by omega,bT,b];rfl
   rw[H]at f⊢;obtain⟨C,u,D,E,_⟩:=s x c f.2;exact⟨C,_,_,u,D,E⟩
 ·rw[ax y];obtain⟨C,u,D,E,P⟩:=s ⟨r,d,V r,m⟩ rfl rfl;refine⟨C.sub (List.drop_sublist _ _),(jv (r,d) i).drop ((jv (r,d) l++[(⟨r,d,V r,m⟩:Kp)]).length-64),_,?_,D,E⟩;unfold qi
  have p:(jv (r,d) l++[(⟨r,d,V r,m⟩:Kp)]).length-64<=(jv (r,d) i).length:=by
   rw[u,aO];omega
  rw[<-List.drop_append_of_le_length p,<-u]
end Vx
end Go.Proofs.YtlkehieagdkgiaaGreatDoor
