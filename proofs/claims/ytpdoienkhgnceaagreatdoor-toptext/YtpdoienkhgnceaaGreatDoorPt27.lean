/- Texts of the proof. -/
import Derived.Great.BuildSlice
import Derived.Test.YtpdoienkhgnceaaGreatDoorPt26
set_option maxRecDepth 100000
set_option maxHeartbeats 8000000
namespace Go.Proofs.YtpdoienkhgnceaaGreatDoor
open Go.Proofs.Tryz Go.RowKit Lx Vx Mx Msk
theorem LL (f:Nat->Bool)(x y:Int):jt f x y=true↔0<=x/\y<=1440/\x<=y/\ ∀i:Nat,x<=(i:Int)->(i:Int)<y->f i=true:=by
 unfold jt;rw[bx,bx,bx,bL,bL,bL];constructor
 ·rintro⟨⟨⟨b,d⟩,e⟩,g⟩;refine⟨b,d,e,fun i hi j=> ?_⟩;have h:=M8 g i (by omega);have a:inl [(x,y)] i=true:=(by simp[inl];omega);have c:decide (i<1440)=true:=bc (by omega);rw[a,c]at h;simpa using h
 ·rintro⟨b,d,e,g⟩;refine⟨⟨⟨b,d⟩,e⟩,DN fun i _=> ?_⟩;cases a:inl [(x,y)] i with
  |false=>rfl
  |true=>
   simp[inl]at a;rw[g i (by omega) (by omega)];rfl
structure Fit (s:Sv)(fs:List (Nat->Bool))(m:Int)(who:List Int):Prop where
 len:who.length=s.roles.length
 mem: ∀(i:Nat) (r:Int) (p:List Int),who[i]? =some r->s.roles[i]? =some p->r∈p
 nd:who.Nodup
 ok: ∀r∈who,okP fs (m-s.bef) (m-s.bef+kR s) r=true
def rT:List Int->List Int->Bool
 |x::l,y::k=>if y≠x then decide (x<y) else rT l k
 |_,_=>true
theorem Ck: ∀l:List Int,rT l l=true
 |[]=>rfl
 |x::l=>by rw[rT,aw (by simp)];exact Ck l
theorem Es: ∀(t l k:List Int),rT (t++l) (t++k)=rT l k
 |[],_,_=>rfl
 |x::t,l,k=>by
  show rT (x::(t++l)) (x::(t++k))=_;rw[rT,aw (by simp)];exact Es t l k
theorem Qf {x y:Int}(h:x<y)(l k:List Int):rT (x::l) (y::k)=true:=by
 rw[rT,ax (by omega)];exact bc h
structure Val (pools:List (List Int))(t u:List Int):Prop where
 len:t.length+u.length=pools.length
 mem: ∀(i:Nat) (r:Int),u[i]? =some r->r∈pools.getD (t.length+i) []
 nd:(t++u).Nodup
theorem ug {c:List (List Int)}: ∀{k:Nat} {t who:List Int},t.length+k=c.length->t.Nodup->js c k t=some who-> ∃u,who=t++u/\Val c t u
 |0,t,who,l,g,h=>by
  cases ay h;exact⟨[],by simp,⟨by simpa using l,fun i r hi=>by simp at hi,by simpa using g⟩⟩
 |k+1,t,who,l,g,h=>by
  rw[js]at h;obtain⟨r,n,d⟩:=uB h;by_cases f:r∈t
  ·rw[ax f]at d;cases d
  ·rw[aw f]at d;obtain⟨u,e,j⟩:=ug (k:=k) (t:=t++[r]) (by simp;omega) (List.nodup_append.2 ⟨g,by simp,fun a ha b m=>by rw[bJ.1 m];rintro rfl;exact f ha⟩) d;refine⟨r::u,by rw[e,dw];rfl,⟨?_,fun i q hi=> ?_,?_⟩⟩
   ·have:=j.len;simp at this⊢;omega
   ·match i,hi with
    |0,hi=>cases ay hi;exact n
    |i+1,hi=>
     have:=j.mem i q (by simpa using hi);rw[aN]at this;rw[show t.length+(i+1)=t.length+[r].length+i by simp;omega];exact this
   ·have:=j.nd;rw[dw]at this;exact this
theorem mO {α β:Type}(f:α->Option β): ∀l:List α,(l.findSome? f=none/\ ∀x∈l,f x=none)\/ ∃b x a y,l=b++x::a/\(∀z∈b,f z=none)/\f x=some y/\l.findSome? f=some y
 |[]=> .inl ⟨rfl,fun x c=>by cases c⟩
 |x::l=>by
  cases c:f x with
  |some y=>exact .inr ⟨[],x,l,y,rfl,(fun z d=>by cases d),c,by rw[List.findSome?_cons,c]⟩
  |none=>
   rcases mO f l with⟨e,g⟩|⟨b,z,a,y,e,g,j,k⟩
   ·refine .inl ⟨by rw[List.findSome?_cons,c];exact e,fun z d=> ?_⟩;rcases bv.1 d with rfl|d
    ·exact c
    ·exact g z d
   ·refine .inr ⟨x::b,z,a,y,by rw[e];rfl,fun q i=> ?_,j,by rw[List.findSome?_cons,c];exact k⟩;rcases bv.1 i with rfl|i
    ·exact c
    ·exact g q i
theorem qR {c:List (List Int)}(l: ∀p∈c,p.Pairwise (· < ·)): ∀{k:Nat} {t:List Int},t.length+k=c.length-> ∀u,Val c t u-> ∃who,js c k t=some who/\rT who (t++u)=true
 |0,t,K,u,d=>by
  have L:u=[]:=fX (by have:=d.len;omega);subst L;exact⟨t,rfl,by rw[iE];exact Ck t⟩
 |k+1,t,K,u,d=>by
  match u,d with
  |[],d=>have:=d.len;simp at this;omega
  |r::u,d=>
   have A:r∈c.getD t.length []:=d.mem 0 r rfl
   have B:r∉t:=fun h=>by
    have:=(List.nodup_append.1 d.nd).2.2 r h r aV;exact this rfl
   have C:Val c (t++[r]) u:=by
    refine⟨?_,fun i q hi=> ?_,?_⟩
    ·have:=d.len;simp at this⊢;omega
    ·have:=d.mem (i+1) q (by simpa using hi);rw[show t.length+(i+1)=(t++[r]).length+i by simp;omega]at this;exact this
    ·rw[dw];exact d.nd
   obtain⟨o,G,E⟩:=qR l (k:=k) (t:=t++[r]) (by simp;omega) u C
   have v:(if r∈t then none else js c k (t++[r]))=some o:=by
    rw[aw B];exact G
   rcases mO (fun q=>if q∈t then none else js c k (t++[q])) (c.getD t.length []) with⟨_,s⟩|⟨N,x,F,y,D,s,f,I⟩
   ·have:=s r A;rw[v]at this;cases this
   ·refine⟨y,by rw[js];exact I,?_⟩;by_cases m:x=r
    ·subst m;rw[v]at f;cases ay f;rw[dw]at E;exact E
    ·have w:x<r:=by
      rw[D]at A;rcases cZ.1 A with g|g
      ·have:=s r g;rw[v]at this;cases this
      ·rcases bv.1 g with e|g
       ·exact absurd e.symm m
       ·have j:(c.getD t.length []).Pairwise (· < ·):=by
         cases hq:c[t.length]? with
         |none=>simp[List.getD,hq]
         |some p=>
          have:c.getD t.length []=p:=(by simp[List.getD,hq]);rw[this];exact l p (aL hq)
        rw[D,List.pairwise_append]at j;exact(List.pairwise_cons.1 j.2.1).1 r g
     have n:x∉t:=fun M=>by
      rw[ax M]at f;cases f
     rw[aw n]at f;have z:t.Nodup:=(List.nodup_append.1 d.nd).1;obtain⟨u2,H,_⟩:=ug (k:=k) (t:=t++[x]) (by simp;omega) (List.nodup_append.2 ⟨z,by simp,fun a ha b J=>by rw[bJ.1 J];rintro rfl;exact n ha⟩) f;rw[H,dw,Es];exact Qf w _ _
theorem Et {n:Int}: ∀{l:List (Int×Int)} {last:Int},good last n l-> ∀s∈l,∀t∈l,t.1<=s.2->s.2<t.2->False
 |[],_,_,s,e,_,_,_,_=>by cases e
 |q::l,last,h,s,e,t,f,i,j=>by
  obtain⟨k,m,o,d⟩:=h;rcases bv.1 e with g|b
  ·subst g;rcases bv.1 f with c|a
   ·subst c;omega
   ·have:=qY d t a;omega
  ·rcases bv.1 f with c|a
   ·subst c;have:=qY d s b;omega
   ·exact Et d s b t a i j
theorem Be (a:List (Nat->Bool))(x y r:Int):okP a x y r=true↔0<=x/\y<=1440/\x<=y/\ ∀i:Nat,x<=(i:Int)->(i:Int)<y->(a.getD r.toNat fun _=>false) i=true:=LL _ x y
theorem Af (ok:Int->Bool)(roles:List (List Int))(i:Nat):(gX ok roles).getD i []=(roles.getD i []).filter ok:=by
 unfold gX;rw[eE,eE,bf];cases roles[i]? <;>rfl
theorem wz {s:Sv}{c:List (Nat->Bool)}{x:Int}{who:List Int}:Fit s c (x+s.bef) who↔Val (gX (okP c x (x+kR s)) s.roles) [] who:=by
 have e:x+s.bef-s.bef=x:=by omega
 constructor
 ·rintro⟨a,d,f,g⟩;rw[e]at g;refine⟨by unfold gX;rw[bm];simpa using a,fun i r hi=> ?_,by simpa using f⟩;rw[Af,fN,bN,List.mem_filter];have k:=(aE.1 hi).1;have b:s.roles[i]? =some (s.roles[i]'(by omega)):=az _;refine⟨?_,g r (aL hi)⟩;rw[show s.roles.getD i []=s.roles[i]'(by omega) by simp[List.getD,b]];exact d i r _ hi b
 ·rintro⟨a,d,f⟩;have l:who.length=s.roles.length:=(by unfold gX at a;rw[bm]at a;simpa using a)
  have j: ∀(i:Nat) (r:Int),who[i]? =some r->r∈s.roles.getD i []/\okP c x (x+kR s) r=true:=fun i r hi=>by
   have:=d i r hi;rwa[Af,fN,bN,List.mem_filter]at this
  refine⟨l,fun i r p hi b=> ?_,by simpa using f,fun r m=> ?_⟩
  ·have:=(j i r hi).1;rwa[show s.roles.getD i []=p by simp[List.getD,b]]at this
  ·obtain⟨i,hi,rfl⟩:=List.getElem_of_mem m;rw[e];exact(j i _ (az hi)).2
theorem yw {ok:Int->Bool}{s:Sv}{n:Int}(h:A4 s n): ∀p∈gX ok s.roles,p.Pairwise (· < ·):=fun p a=>by
 unfold gX at a;rw[dB]at a;obtain⟨q,b,rfl⟩:=a;exact(h.pool q b).up.filter _
theorem Bf {x:Int}{a:List Int}(h:x∈a):x∈Go.Lib.compact a:=by
 have d: ∀n,n<=a.length-> ∀j,j<n->a.getD j 0∈Go.Lib.compactUpTo a.toArray n:=by
  intro n;induction n with
  |zero=>intro _ j b;omega
  |succ n f=>
   intro l j b;rw[Go.Lib.compactUpTo_succ];by_cases e:j=n
   ·subst e;cases hk:Go.Lib.keeps a.toArray j with
    |true=>
     rw[ax rfl,getElem!_pos _ j (by simpa using(by omega:j<a.length))];simp[List.getD,az (by omega:j<a.length)]
    |false=>
     have g:j≠0:=fun e=>(by subst e;simp[Go.Lib.keeps]at hk);have:=f (by omega) (j-1) (by omega)
     have c:a.getD j 0=a.getD (j-1) 0:=by
      have i:j<a.length:=(by omega);have k:j-1<a.length:=(by omega);simp[Go.Lib.keeps,g]at hk;simp only[List.getD];exact hk
     rw[c];exact fO _ this
   ·exact fO _ (f (by omega) j (by omega))
 obtain⟨j,b,rfl⟩:=List.getElem_of_mem h;have:=d a.length (aA _) j b;show _∈Go.Lib.compactUpTo _ _;simpa[List.getD,az b] using this
theorem FM (a:List Int):(Go.Lib.compact a).Sublist a:=by
 have e:a=(List.range a.length).map (a.toArray[·]!):=by
  apply List.ext_getElem (by simp);intro i b c;simp[b]
 unfold Go.Lib.compact Go.Lib.compactUpTo;conv=>rhs;rw[e]
 exact List.Sublist.map _ (List.filter_sublist)
theorem LM (W:Int)(d:List (Nat->Bool))(roles:List (List Int)):(g6 W d roles).Pairwise (· <= ·):=by
 have h:((pE W d roles).mergeSort fun x y=>decide (x<=y)).Pairwise (fun a b=>decide (a<=b)=true):=List.pairwise_mergeSort (fun a b c e f=>by simp at e f⊢;omega) (fun a b=>by simp;omega) _;exact(h.imp (fun h=>dM h)).sublist (FM _)
theorem I9 {W x:Int}{a:List (Nat->Bool)}{roles:List (List Int)}:x∈g6 W a roles↔ ∃p∈roles,∃r∈p,∃s∈rs (a.getD r.toNat fun _=>false) 1440,W<=s.2-s.1/\s.1=x:=by
 have g:x∈g6 W a roles↔x∈pE W a roles:=⟨fun h=>List.mem_mergeSort.1 (xn h),fun h=>Bf (List.mem_mergeSort.2 h)⟩
 rw[g];unfold pE zC vh;simp only[List.mem_flatMap,dB,List.mem_filter,bL];constructor
 ·rintro⟨p,b,r,c,s,⟨d,f⟩,e⟩;exact⟨p,b,r,c,s,d,f,e⟩
 ·rintro⟨p,b,r,c,s,d,f,e⟩;exact⟨p,b,r,c,s,⟨d,f⟩,e⟩
theorem Ja {f:Nat->Bool}{x y:Int}(r:0<=x)(q:x<y)(w:y<=1440)(h: ∀i:Nat,x<=(i:Int)->(i:Int)<y->f i=true): ∃s∈rs f 1440,s.1<=x/\y<=s.2/\(0<=s.1/\s.2<=1440/\ ∀i:Nat,s.1<=(i:Int)->(i:Int)<s.2->f i=true):=by
 have c:=A3 f 1440
 have has: ∀i:Nat,i<1440->(f i=true↔ ∃s∈rs f 1440,s.1<=(i:Int)/\(i:Int)<s.2):=fun i hi=>by
  rw[<-c.has i hi,List.any_eq_true];simp
 have j:=qY c.good
 have b: ∀s∈rs f 1440,0<=s.1/\s.2<=1440/\ ∀i:Nat,s.1<=(i:Int)->(i:Int)<s.2->f i=true:=fun s a=>by
  obtain⟨k,l,d⟩:=j s a;exact⟨by omega,d,fun i e g=>(has i (by omega)).2 ⟨s,a,e,g⟩⟩
 obtain⟨n,v⟩: ∃n:Nat,x=(n:Int):=⟨x.toNat,by omega⟩
 obtain⟨s,a,e,g⟩:=(has n (by omega)).1 (h n (by omega) (by omega));refine⟨s,a,by omega,?_,b s a⟩;refine Classical.byContradiction fun o=> ?_;obtain⟨k,l,d⟩:=j s a;obtain⟨m,u⟩: ∃m:Nat,s.2=(m:Int):=⟨s.2.toNat,by omega⟩
 obtain⟨t,p,t1,t2⟩:=(has m (by omega)).1 (h m (by omega) (by omega));exact Et c.good s a t p (by omega) (by omega)
theorem Cl {s:Sv}{n:Int}{b:List (Nat->Bool)}{x:Int}{who:List Int}(D:A4 s n)(h:Fit s b (x+s.bef) who): ∃p∈g6 (kR s) b s.roles,p<=x/\Fit s b (p+s.bef) who:=by
 have c:=D.meas;unfold jE at c;have c:=dM c;have N:1<=kR s:=by unfold kR;omega
 have ex: ∀(l:List Int),(∀r∈l,∃t∈rs (b.getD r.toNat fun _=>false) 1440,t.1<=x/\x+kR s<=t.2/\(0<=t.1/\t.2<=1440/\ ∀i:Nat,t.1<=(i:Int)->(i:Int)<t.2->(b.getD r.toNat fun _=>false) i=true))->l≠[]->
   ∃p,p<=x/\0<=p/\(∃r∈l,∃t∈rs (b.getD r.toNat fun _=>false) 1440,kR s<=t.2-t.1/\t.1=p)/\ ∀r∈l,∃t:Int×Int,t.1<=p/\x+kR s<=t.2/\t.2<=1440/\ ∀i:Nat,t.1<=(i:Int)->(i:Int)<t.2->(b.getD r.toNat fun _=>false) i=true:=by
  intro l;induction l with
  |nil=>intro _ h;exact absurd rfl h
  |cons r l J=>
   intro E _;obtain⟨t,j,t1,t2,H,m,g⟩:=E r aV;by_cases F:l=[]
   ·subst F;refine⟨t.1,t1,H,⟨r,aV,t,j,by omega,rfl⟩,fun q a=> ?_⟩;rw[bJ.1 a];exact⟨t,gy _,t2,m,g⟩
   ·obtain⟨p,A,B,⟨K,w,t0,y,C,o⟩,k⟩:=J (fun q a=>E q (bj _ a)) F;by_cases v:t.1<=p
    ·refine⟨p,A,B,⟨K,bj _ w,t0,y,C,o⟩,fun q a=> ?_⟩;rcases bv.1 a with rfl|a
     ·exact⟨t,v,t2,m,g⟩
     ·exact k q a
    ·refine⟨t.1,t1,H,⟨r,aV,t,j,by omega,rfl⟩,fun q a=> ?_⟩;rcases bv.1 a with rfl|a
     ·exact⟨t,gy _,t2,m,g⟩
     ·obtain⟨u,u1,u2,u4,u5⟩:=k q a;exact⟨u,by omega,u2,u4,u5⟩
 have f:=h.len;have I:=D.r1;have z:who≠[]:=fun e=>by rw[e]at f;simp at f;omega
 obtain⟨p,A,B,⟨r,d,t,j,C,o⟩,k⟩:=ex who (fun r d=>by
  have:=(Be _ _ _ _).1 (h.ok r d);rw[show x+s.bef-s.bef=x by omega]at this;exact Ja this.1 (by omega) this.2.1 this.2.2.2) z
 refine⟨p,?_,A,⟨h.len,h.mem,h.nd,fun r d=>by
  rw[show p+s.bef-s.bef=p by omega,Be];obtain⟨t,t1,t2,m,g⟩:=k r d;exact⟨B,by omega,by omega,fun i L M=>g i (by omega) (by omega)⟩⟩⟩
 obtain⟨i,hi,rfl⟩:=List.getElem_of_mem d;have G:s.roles[i]? =some (s.roles[i]'(by omega)):=az _;exact I9.2 ⟨_,aL G,_,h.mem i _ _ (az hi) G,t,j,C,o⟩
theorem Jb {s:Sv}{n:Int}{b:List (Nat->Bool)}(q:A4 s n){m:Int}{who:List Int}(h:i7 s.len s.bef s.aft s.roles b=some (m,who)):Fit s b m who/\ ∀e a,Fit s b e a->m<e\/m=e/\rT who a=true:=by
 unfold i7 at h;have r:s.bef+s.len+s.aft=kR s:=rfl;rcases mO (sR s.len s.bef s.aft s.roles b) (g6 (s.bef+s.len+s.aft) b s.roles) with⟨l,_⟩|⟨L,x,B,y,l,D,d,E⟩
 ·rw[l]at h;cases h
 ·rw[E]at h;cases ay h;unfold sR at d;rw[r]at d;cases hp:js (gX (okP b x (x+kR s)) s.roles) s.roles.length [] with
  |none=>rw[hp]at d;cases d
  |some M=>
   rw[hp]at d;have f:=ay d;have c:x+s.bef=m:=congrArg Prod.fst f;have C:M=who:=congrArg Prod.snd f;subst c C;have v:(gX (okP b x (x+kR s)) s.roles).length=s.roles.length:=(by unfold gX;rw[bm]);obtain⟨u,z,H⟩:=ug (by rw[v];simp) (by simp) hp;rw[List.nil_append]at z;subst z;refine⟨wz.2 H,fun e a A=> ?_⟩;obtain⟨o,rfl⟩: ∃o,e=o+s.bef:=⟨e-s.bef,by omega⟩
   obtain⟨p,g,G,w⟩:=Cl q A
   have J:x<=p:=by
    rw[<-r,l]at g;rcases cZ.1 g with i|i
    ·exfalso;have:=D p i;unfold sR at this;rw[r]at this;obtain⟨N,c,_⟩:=qR (yw q) (k:=s.roles.length) (t:=[]) (by unfold gX;rw[bm];simp) a (wz.1 w);rw[c]at this;cases this
    ·rcases bv.1 i with rfl|i
     ·exact gy _
     ·have j:=LM (s.bef+s.len+s.aft) b s.roles;rw[l,List.pairwise_append]at j;exact(List.pairwise_cons.1 j.2.1).1 p i
   by_cases F:x<o
   ·exact .inl (by omega)
   ·have I:x=o:=(by omega);subst I;refine .inr ⟨rfl,?_⟩;obtain⟨N,c,K⟩:=qR (yw q) (k:=s.roles.length) (t:=[]) (by unfold gX;rw[bm];simp) a (wz.1 A);rw[hp]at c;cases ay c;simpa using K
theorem Ag {s:Sv}{n:Int}{a:List (Nat->Bool)}(d:A4 s n)(h:i7 s.len s.bef s.aft s.roles a=none)(m:Int)(who:List Int): ¬Fit s a m who:=fun j=>by
 unfold i7 at h;obtain⟨x,rfl⟩: ∃x,m=x+s.bef:=⟨m-s.bef,by omega⟩
 obtain⟨p,c,l,b⟩:=Cl d j;have e:s.bef+s.len+s.aft=kR s:=rfl;rcases mO (sR s.len s.bef s.aft s.roles a) (g6 (s.bef+s.len+s.aft) a s.roles) with⟨_,g⟩|⟨_,_,_,_,_,_,_,i⟩
 ·have:=g p (by rw[e];exact c);unfold sR at this;rw[e]at this;obtain⟨o,f,_⟩:=qR (yw d) (k:=s.roles.length) (t:=[]) (by unfold gX;rw[bm];simp) who (wz.1 b);rw[f]at this;cases this
 ·rw[i]at h;cases h
def Eu (roles:List (List Int))(b:List (Nat->Bool))(x y:Int):List Int->Nat->List Int->Bool
 |[],_,_=>true
 |r::l,i,a=>if r∉roles.getD i []\/r∈a\/okP b x y r=false then false else Eu roles b x y l (i+1) (addN a r)
def pA (s:Sv)(a:List (List (Nat->Bool)))(day min:Int)(who:List Int):Bool:=if day<0\/(a.length:Int)<=day\/who.length≠s.roles.length then false else Eu s.roles (a.getD day.toNat []) (min-s.bef) (min+s.len+s.aft) who 0 []
theorem Ev {roles:List (List Int)}{d:List (Nat->Bool)}{x y:Int}: ∀{l:List Int} {i:Nat} {a:List Int},Eu roles d x y l i a=true↔(∀(k:Nat) (r:Int),l[k]? =some r->r∈roles.getD (i+k) [])/\(∀r∈l,r∉a)/\l.Nodup/\ ∀r∈l,okP d x y r=true
 |[],i,a=>by simp[Eu]
 |r::l,i,a=>by
  rw[Eu];by_cases h:r∉roles.getD i []\/r∈a\/okP d x y r=false
  ·rw[ax h];constructor
   ·intro h;cases h
   ·rintro⟨j,m,_,q⟩;exfalso;rcases h with h|h|h
    ·exact h (j 0 r rfl)
    ·exact m r aV h
    ·rw[q r aV]at h;cases h
  ·rw[aw h,Ev];have j:r∈roles.getD i []:=Classical.not_not.1 fun e=>h (.inl e);have m:r∉a:=fun e=>h (.inr (.inl e))
   have p:okP d x y r=true:=by
    cases c:okP d x y r with
    |true=>rfl
    |false=>exact absurd (.inr (.inr c)) h
   constructor
   ·rintro⟨n,f,g,o⟩;refine⟨fun k u c=> ?_,fun u b=> ?_,List.nodup_cons.2 ⟨fun s=> ?_,g⟩,fun u b=> ?_⟩
    ·match k,c with
     |0,c=>cases ay c;exact j
     |k+1,c=>
      have:=n k u (by simpa using c);rw[show i+(k+1)=i+1+k by omega];exact this
    ·rcases bv.1 b with rfl|b
     ·exact m
     ·exact fun e=>f u b ((rD _ _ _).2 (.inl e))
    ·exact f r s ((rD _ _ _).2 (.inr rfl))
    ·rcases bv.1 b with rfl|b
     ·exact p
     ·exact o u b
   ·rintro⟨n,f,g,o⟩;refine⟨fun k u c=> ?_,fun u b e=> ?_,(List.nodup_cons.1 g).2,fun u b=>o u (bj _ b)⟩
    ·have:=n (k+1) u (by simpa using c);rw[show i+1+k=i+(k+1) by omega];exact this
    ·rcases(rD _ _ _).1 e with e|rfl
     ·exact f u (bj _ b) e
     ·exact(List.nodup_cons.1 g).1 b
theorem nJ {s:Sv}{a:List (List (Nat->Bool))}{day min:Int}{who:List Int}:pA s a day min who=true↔ ∃(d:Nat) (k:List (Nat->Bool)),day=(d:Int)/\a[d]? =some k/\Fit s k min who:=by
 unfold pA;by_cases h:day<0\/(a.length:Int)<=day\/who.length≠s.roles.length
 ·rw[ax h];constructor
  ·intro h;cases h
  ·rintro⟨d,k,rfl,l,j⟩;exfalso;have f:=(aE.1 l).1;have m:=j.len;omega
 ·rw[aw h];obtain⟨d,l⟩: ∃d:Nat,day=(d:Int):=⟨day.toNat,by omega⟩
  subst l;have v:who.length=s.roles.length:=Classical.not_not.1 fun e=>h (.inr (.inr e));have b:d<a.length:=(by omega);have c:a[d]? =some (a[d]'b):=az b;have q:a.getD (Int.toNat (d:Int)) []=a[d]'b:=(by simp[List.getD,c]);have t:min+s.len+s.aft=min-s.bef+kR s:=(by unfold kR;omega);rw[q,t,Ev];constructor
  ·rintro⟨w,_,x,y⟩;refine⟨d,_,rfl,c,v,fun i r p f m=> ?_,x,y⟩;have:=w i r f;rwa[bN,show s.roles.getD i []=p by simp[List.getD,m]]at this
  ·rintro⟨o,k,e,g,j⟩;have:o=d:=(by omega);subst this;rw[c]at g;cases ay g;refine⟨fun i r f=> ?_,(fun r _ e=>by cases e),j.nd,j.ok⟩;have u:=(aE.1 f).1;have n:s.roles[i]? =some (s.roles[i]'(by omega)):=az _;rw[bN,show s.roles.getD i []=s.roles[i]'(by omega) by simp[List.getD,n]];exact j.mem i r _ f n
theorem Cn (p:List Int)(n:Int): ∀m i,lP p n m i=0\/lP p n m i=6\/lP p n m i=2
 |0,_=> .inl rfl
 |m+1,i=>by
  rw[lP];by_cases c1:p.getD i 0<0\/n<=p.getD i 0
  ·rw[ax c1];exact .inr (.inl rfl)
  ·rw[aw c1];by_cases a:0<i/\p.getD i 0<=p.getD (i-1) 0
   ·rw[ax a];exact .inr (.inr rfl)
   ·rw[aw a];exact Cn p n m (i+1)
theorem Ah (n:Int): ∀l:List (List Int),0<=jC n l/\jC n l<=6
 |[]=>⟨gy _,show(0:Int)<=6 by decide⟩
 |p::l=>by
  have a:0<=ia p n/\ia p n<=6:=by
   unfold ia;by_cases h:p.length<1\/8<p.length
   ·rw[ax h];decide
   ·rw[aw h];rcases Cn p n p.length 0 with h|h|h<;>rw[h]<;>decide
  rw[jC];by_cases h:ia p n≠0
  ·rw[ax h];exact a
  ·rw[aw h];exact Ah n l
theorem Jc (s:Sv)(n:Int):0<=ff s n/\ff s n<=6:=by
 unfold ff;by_cases a:jE s.len s.bef s.aft=false
 ·rw[ax a];decide
 ·rw[aw a];by_cases b:s.roles.length<1\/4<s.roles.length
  ·rw[ax b];decide
  ·rw[aw b];exact Ah n _
theorem Cp (s:Sv): ∀l:List (List (Nat->Bool)),0<=iR s l/\iR s l<=6
 |[]=>⟨gy _,show(0:Int)<=6 by decide⟩
 |d::l=>by
  rw[iR];by_cases h:ff s d.length≠0
  ·rw[ax h];exact Jc s _
  ·rw[aw h];exact Cp s l
theorem Ai {s:Sv}: ∀{l:List (List (Nat->Bool))} {n:Nat} {x:Nat×Int×List Int},kB s l n=some x-> ∃(k:Nat) (c:List (Nat->Bool)),x.1=n+k/\l[k]? =some c/\i7 s.len s.bef s.aft s.roles c=some (x.2.1,x.2.2)/\ ∀(j:Nat) (a:List (Nat->Bool)),j<k->l[j]? =some a->i7 s.len s.bef s.aft s.roles a=none
 |[],n,x,h=>by cases h
 |d::l,n,x,h=>by
  rw[kB]at h;cases hp:i7 s.len s.bef s.aft s.roles d with
  |some y=>
   rw[hp]at h;cases ay h;exact⟨0,d,rfl,rfl,hp,fun j a i _=>by omega⟩
  |none=>
   rw[hp]at h;obtain⟨k,c,m,e,f,g⟩:=Ai h;refine⟨k+1,c,by omega,by simpa using e,f,fun j a i b=> ?_⟩;match j,b with
   |0,b=>cases ay b;exact hp
   |j+1,b=>exact g j a (by omega) (by simpa using b)
theorem Aj {s:Sv}: ∀{l:List (List (Nat->Bool))} {n:Nat},kB s l n=none-> ∀b∈l,i7 s.len s.bef s.aft s.roles b=none
 |[],_,_,b,a=>by cases a
 |d::l,n,h,b,a=>by
  rw[kB]at h;cases hp:i7 s.len s.bef s.aft s.roles d with
  |some y=>rw[hp]at h;cases h
  |none=>
   rw[hp]at h;rcases bv.1 a with rfl|a
   ·exact hp
   ·exact Aj h b a
theorem LN {s:Sv}{a:List (List (Nat->Bool))}(h:(findP s a).err=0):a.length<=30/\iR s a=0/\ ∃(d:Nat) (b:List (Nat->Bool)),(findP s a).day=(d:Int)/\a[d]? =some b/\i7 s.len s.bef s.aft s.roles b=some ((findP s a).min,(findP s a).who)/\ ∀(j:Nat) (f:List (Nat->Bool)),j<d->a[j]? =some f->i7 s.len s.bef s.aft s.roles f=none:=by
 unfold findP at h⊢;by_cases g:30<a.length
 ·rw[ax g]at h;cases h
 ·rw[aw g]at h⊢;by_cases c:iR s a≠0
  ·rw[ax c]at h;exact absurd h c
  ·rw[aw c]at h⊢;have e:iR s a=0:=Classical.not_not.1 c;cases hd:kB s a 0 with
   |none=>rw[hd]at h;cases h
   |some x=>
    obtain⟨k,b,n,i,l,m⟩:=Ai hd;exact⟨by omega,e,k,b,by show((x.1:Nat):Int)=_;omega,i,l,m⟩
theorem LO {s:Sv}{a:List (List (Nat->Bool))}(h:(findP s a).err=11):a.length<=30/\iR s a=0/\ ∀e∈a,i7 s.len s.bef s.aft s.roles e=none:=by
 unfold findP at h;by_cases d:30<a.length
 ·rw[ax d]at h;cases h
 ·rw[aw d]at h;by_cases b:iR s a≠0
  ·rw[ax b]at h;have:=Cp s a;dsimp only at h;omega
  ·rw[aw b]at h;have c:iR s a=0:=Classical.not_not.1 b;cases hd:kB s a 0 with
   |none=>exact⟨by omega,c,Aj hd⟩
   |some x=>rw[hd]at h;cases h
def SP (f:Nat->Bool)(len m:Int):Prop:=0<=m/\m+len<=1440/\ ∀i:Nat,m<=(i:Int)->(i:Int)<m+len->f i=true
def sv1 (len:Int):Sv:=⟨len,0,0,[[0]]⟩
theorem wG {len m:Int}{who:List Int}{f:Nat->Bool}(n:1<=len):Fit (sv1 len) [f] m who↔who=[0]/\SP f len m:=by
 have g:kR (sv1 len)=len:=by show 0+len+0=len;omega
 have ok:okP [f] (m-(sv1 len).bef) (m-(sv1 len).bef+kR (sv1 len)) 0=true↔SP f len m:=by
  rw[Be,g,show m-(sv1 len).bef=m from Int.sub_zero m];exact⟨fun⟨a,b,_,d⟩=>⟨a,b,d⟩,fun⟨a,b,d⟩=>⟨a,b,by omega,d⟩⟩
 constructor
 ·rintro⟨j,k,_,l⟩;match who,j with
  |[r],_=>
   have e:r=0:=(by simpa using k 0 r [0] rfl rfl);subst e;exact⟨rfl,ok.1 (l 0 (by simp))⟩
 ·rintro⟨rfl,h⟩;refine⟨rfl,fun i r p hi c=> ?_,by simp,fun r e=> ?_⟩
  ·match i,hi,c with
   |0,hi,c=>cases hi;cases c;simp
  ·cases bJ.1 e;exact ok.2 h
theorem Ew {len:Int}(h:1<=len/\len<=1440): ∀{b:List (List (Nat->Bool))},(∀a∈b,∃f,a=[f])->iR (sv1 len) b=0
 |[],_=>rfl
 |a::b,c=>by
  obtain⟨f,rfl⟩:=c a aV
  have e:ff (sv1 len) (([f]:List (Nat->Bool)).length:Int)=0:=by
   have g:jE len 0 0=true:=bc (by omega);show(if jE len 0 0=false then 3 else _)=_;rw[g];rfl
  rw[iR,e,aw (by simp)];exact Ew h fun a d=>c a (bj _ d)
theorem NV {len:Int}(h:1<=len/\len<=1440){ds:List (List (Nat->Bool))}(x:ds.length<=30)(s: ∀c∈ds,∃f,c=[f]):
  (∃(d:Nat) (m:Int) (f:Nat->Bool),findP (sv1 len) ds=⟨0,d,m,[0]⟩/\ds[d]? =some [f]/\SP f len m/\(∀a,SP f len a->m<=a)/\ ∀(j:Nat) g,j<d->ds[j]? =some [g]-> ∀a,¬SP g len a)\/((findP (sv1 len) ds).err=11/\ ∀g,[g]∈ds-> ∀a,¬SP g len a):=by
 have u:=Ew h s;have i: ∀c∈ds,A4 (sv1 len) c.length:=fun c y=>D1 (xZ u c y);by_cases e:(findP (sv1 len) ds).err=0
 ·obtain⟨_,_,d,c,o,p,n,v⟩:=LN e;have t:=aL p;obtain⟨f,rfl⟩:=s c t;obtain⟨f1,f2⟩:=Jb (i _ t) n;obtain⟨r,w⟩:=(wG h.1).1 f1;refine .inl ⟨d,(findP (sv1 len) ds).min,f,?_,p,w,fun a b=> ?_,fun j g z l a b=> ?_⟩
  ·generalize findP (sv1 len) ds=q at*;cases q;dsimp only at e o r;rw[e,o,r]
  ·rcases f2 a [0] ((wG h.1).2 ⟨rfl,b⟩) with q|⟨q,_⟩<;>omega
  ·exact Ag (i _ (aL l)) (v j _ z l) a [0] ((wG h.1).2 ⟨rfl,b⟩)
 ·have k:(findP (sv1 len) ds).err=11:=by
   unfold findP at e⊢;rw[aw (by omega),aw (by rw[u];simp)]at e⊢;split at e
   ·exact absurd rfl e
   ·rfl
  obtain⟨_,_,n⟩:=LO k;exact .inr ⟨k,fun g l a b=>Ag (i _ l) (n _ l) a [0] ((wG h.1).2 ⟨rfl,b⟩)⟩
def c1 (L:List Ru)(len:Int)(aps:List Ap):Co:=⟨L,[[97]],[sv1 len],aps⟩
theorem GV (L:List Ru)(len:Int)(aps:List Ap)(day:Int): ∀n i:Nat,mE (c1 L len aps) (sv1 len) day n i=(List.range' i n).map fun(k:Nat)=>[fS (c1 L len aps) 0 (day+(k:Int)) (-1)]
 |0,_=>rfl
 |n+1,i=>by
  rw[List.range'_succ,cQ,<-GV L len aps day n (i+1)];rfl
theorem wH {f:Nat->Bool}{len m:Int}:SP (sC f (inl [])) len m↔SP f len m:=by
 have e: ∀i:Nat,i<1440->sC f (inl []) i=f i:=fun i hi=>by
  unfold sC;rw[bc hi];simp[inl]
 exact⟨fun⟨a,b,c⟩=>⟨a,b,fun i d g=>by rw[<-e i (by omega)];exact c i d g⟩,fun⟨a,b,c⟩=>⟨a,b,fun i d g=>by rw[e i (by omega)];exact c i d g⟩⟩
def cR (t:List UInt8):Cm:=⟨1,0,0,0,t,[],sv0,0,0,[]⟩
def cAd:Cm:=⟨2,0,0,0,[],[97],sv0,0,0,[]⟩
def cS (s:Sv):Cm:=⟨3,0,0,0,[],[],s,0,0,[]⟩
def cF (n day days:Int):Cm:=⟨4,n,day,days,[],[],sv0,0,0,[]⟩
theorem LP (L:List Ru){len:Int}(aps:List Ap)(h:1<=len/\len<=1440){day:Int}{days:Nat}(y:0<=day)(z:day+days<=146097)(A:1<=days/\days<=30):
  (sG (c1 L len aps) 0 day days).2=c1 L len aps/\((∃(d:Nat) (m:Int),d<days/\(sG (c1 L len aps) 0 day days).1=⟨0,0,d+day,m,[0],[]⟩/\SP (fS (c1 L len aps) 0 (day+d) (-1)) len m/\(∀a,SP (fS (c1 L len aps) 0 (day+d) (-1)) len a->m<=a)/\ ∀j:Nat,j<d-> ∀a,¬SP (fS (c1 L len aps) 0 (day+j) (-1)) len a)\/((sG (c1 L len aps) 0 day days).1=noA 11/\ ∀j:Nat,j<days-> ∀a,¬SP (fS (c1 L len aps) 0 (day+j) (-1)) len a)):=by
 have n:=GV L len aps day days 0
 have b: ∀j:Nat,j<days->(mE (c1 L len aps) (sv1 len) day days 0)[j]? =some [fS (c1 L len aps) 0 (day+(j:Int)) (-1)]:=fun j l=>by
  rw[n,bf,List.getElem?_range' l];simp
 have u:(mE (c1 L len aps) (sv1 len) day days 0).length=days:=by rw[n];simp
 have t:sG (c1 L len aps) 0 day days=if(findP (sv1 len) (mE (c1 L len aps) (sv1 len) day days 0)).err≠0 then(noA (findP (sv1 len) (mE (c1 L len aps) (sv1 len) day days 0)).err,c1 L len aps) else(⟨0,0,(findP (sv1 len) (mE (c1 L len aps) (sv1 len) day days 0)).day+day,(findP (sv1 len) (mE (c1 L len aps) (sv1 len) day days 0)).min,(findP (sv1 len) (mE (c1 L len aps) (sv1 len) day days 0)).who,[]⟩,c1 L len aps):=by
  have v: ¬isN 0 (c1 L len aps).svs.length=false:=(by show¬isN 0 1=false;decide)
  have w: ¬(isN day 146097=false\/(days:Int)<1\/30<(days:Int)\/146097<day+days):=by
   rintro(q|q|q|q)
   ·simp[isN]at q;omega
   all_goals omega
  unfold sG;rw[aw v,aw w];rfl
 rw[t]
 rcases NV h (ds:=mE (c1 L len aps) (sv1 len) day days 0) (by omega) (fun x o=>by
  rw[n]at o;obtain⟨k,_,rfl⟩:=dB.1 o;exact⟨_,rfl⟩) with⟨d,m,f,e,g,p,r,s⟩|⟨e,g⟩
 ·have i:d<days:=by rw[<-u];exact(aE.1 g).1
  rw[b d i]at g;cases ay g;rw[e,aw (fun c=>c rfl)];exact⟨rfl,.inl ⟨d,m,i,rfl,p,r,fun j l a=>s j _ l (b j (by omega)) a⟩⟩
 ·rw[e,ax (by decide)];exact⟨rfl,.inr ⟨rfl,fun j l a=>g _ (aL (b j l)) a⟩⟩
theorem NW {t:List UInt8}{L:List Ru}(h:ib t=(0,L))(ha:0<=atP5 L [97]){len:Int}(f:1<=len/\len<=1440):jY co0 [cR t,cAd,cS (sv1 len)]=([noA 0,me 0,me 0],c1 L len []):=by
 have a:doS co0 (cR t)=(noA 0,⟨L,[],[],[]⟩):=by
  show LH co0 (ib t)=_;rw[h];rfl
 have b:doS ⟨L,[],[],[]⟩ cAd=(me 0,⟨L,[[97]],[],[]⟩):=by
  show NS ⟨L,[],[],[]⟩ [97]=_;unfold NS;rw[aw (by show¬12<=0;decide),aw (by show¬atP5 L [97]<0;omega)];rfl
 have c:doS ⟨L,[[97]],[],[]⟩ (cS (sv1 len))=(me 0,c1 L len []):=by
  have d:jE len 0 0=true:=bc (by omega)
  have e:ff (sv1 len) (([[97]]:List (List UInt8)).length:Int)=0:=by
   show(if jE len 0 0=false then 3 else _)=_;rw[d];rfl
  show NT ⟨L,[[97]],[],[]⟩ (sv1 len)=_;unfold NT;rw[aw (by show¬8<=0;decide),aw (by rw[e];simp)];rfl
 simp only[jY,a,b,c]
theorem NX {L:List Ru}{k:Nat}(ha:atP5 L [97]=(k:Int))(len day:Int):fS (c1 L len []) 0 day (-1)=sC (gL L (wkB day) day k) (inl []):=by
 have:mS (c1 L len []) 0 day=gL L (wkB day) day k:=by
  show(if atP5 L [97]<0 then noM else gL L (wkB day) day (atP5 L [97]).toNat)=_;rw[ha,aw (by omega),di]
 unfold fS;rw[this];rfl
section
def oE (a b:Int):Ex:=⟨3,a,b,[],[]⟩
def fM (a b:Int):M:=fun i=>(decide (a<=(i:Int))&&decide ((i:Int)<b))&&decide (i<1440)
def oL (a b:Int):List Ru:=[([97],oE a b)]
theorem OH {a b:Int}:gj (oL a b) ([97],oE a b)=[]:=by
 have:nms (oE a b)=[]:=by simp[oE,mw,jM]
 unfold gj;dsimp only;rw[this];rfl
theorem R3 {a b:Int}:iP (oL a b)=fun _=>[]:=by
 funext i;match i with
 |0=>exact(rF rfl).trans (by rw[OH];rfl)
 |i+1=>rfl
section
variable {a b:Int} (h:0<=a/\a<b/\b<=1440)
 include h
theorem Qg:dQ7 (oL a b)=(0,0):=by
 have c:(shapeP (oE a b) 1 0).1=0:=by
  have:aloneP (oE a b)=0:=(by simp[aloneP,oE,kidsP,rangeP,h]);rw[jd,aw (by decide),aw (by simp[this])];rfl
 unfold dQ7 oL iA ruleP;rw[c];rfl
theorem Jd:dm (oL a b)=(0,0):=by
 refine If (by rw[Qg h]) ?_ ?_ ?_
 ·intro i hi;match i,hi with
  |0,_=>rfl
  |i+1,hi=>exact absurd hi (by show¬(i+1<1);omega)
 ·intro i hi;match i,hi with
  |0,_=>show decide (-1∈gj (oL a b) ([97],oE a b))=false;rw[OH];decide
  |i+1,hi=>exact absurd hi (by show¬(i+1<1);omega)
 ·intro i hi;unfold lk3;rw[R3];match i,hi with
  |0,_=>rfl
  |i+1,hi=>exact absurd hi (by show¬(i+1<1);omega)
theorem Ti:fU (oL a b)=(0,0):=by
 have c:stdE (oE a b)=true:=by rw[tu];rfl
 have c0:(fP (oL a b)).getD 0 []=[⟨1,0,0,0,rs (mnE (oE a b)) 1440⟩]:=by rw[nQ (u:=([97],oE a b)) rfl,pH c]
 have m0:gN (oL a b) 0=(1,1):=by
  rw[wt (by rw[Jd h]) (by show 0<1;decide)];unfold mR;rw[c0];rfl
 unfold fU;rw[Jd h,aw (by decide)]
 have:ko (gN (oL a b)) (oL a b).length 0= -1:=by
  show ko (gN (oL a b)) 1 0= -1;unfold ko;rw[m0,aw (by decide)];rfl
 rw[this,aw (by decide)]
theorem R4 (c:Int->Bool)(day:Int):gL (oL a b) c day 0=fM a b:=by
 rw[pG (by rw[Jd h]) (u:=([97],oE a b)) rfl,jF];rfl
end
end
theorem ui {a b len m:Int}(h:0<=a/\a<b/\b<=1440)(f:1<=len):SP (fM a b) len m↔a<=m/\m+len<=b:=by
 constructor
 ·rintro⟨p,q,c⟩;have d:=c m.toNat (by omega) (by omega);have e:=c (m+len-1).toNat (by omega) (by omega);unfold fM at d e;simp only[bx,bL]at d e;omega
 ·rintro⟨p,q⟩;refine⟨by omega,by omega,fun i d e=> ?_⟩;unfold fM;simp only[bx,bL];omega
theorem R5 {a b len day:Int}(h:0<=a/\a<b/\b<=1440)(c:1<=len/\len<=1440){days:Nat}(o:0<=day)(p:day+days<=146097)(q:1<=days/\days<=30):(sG (c1 (oL a b) len []) 0 day days).1=if b-a<len then noA 11 else⟨0,0,day,a,[0],[]⟩:=by
 have g: ∀j:Nat,fS (c1 (oL a b) len []) 0 (day+(j:Int)) (-1)=sC (fM a b) (inl []):=fun j=>by
  rw[NX (k:=0) (by rfl) len,R4 h]
 rcases(LP (oL a b) [] c (day:=day) (days:=days) o p q).2 with⟨d,m,_,e,f,n,i⟩|⟨e,f⟩
 ·rw[g,wH,ui h c.1]at f;have r:=n a (by rw[g,wH,ui h c.1];omega)
  have l:d=0:=by
   match d,i with
   |0,_=>rfl
   |d+1,i=>exact absurd (by rw[g,wH,ui h c.1];exact f) (i 0 (by omega) m)
  subst l;rw[aw (by omega),e];have:m=a:=(by omega);subst this;congr 1;omega
 ·have:=f 0 (by omega) a;rw[g,wH,ui h c.1]at this;rw[ax (by omega)];exact e
def aS:List UInt8:=[114,117,108,101,32,97,32,61,32,48,57,58,48,48,45,49,55,58,48,48,59]
theorem R6:ld aS=(0,oL 540 1020):=by kernel_rfl
theorem R7:ib aS=(0,oL 540 1020):=by
 unfold ib;rw[R6,aw (by decide),Ti (by decide)]
def anF (l:List (An×Value×Value)):List Value:=l.flatMap fun a=>(anC a.1 a.2.1 a.2.2).toList
structure Bg (B:Nat)(w:World)(p:List An×Dk)(rv ev sv av asv:Value)(ss:List (Sv×Value))(aa:List (Ap×Value))(ls:List (An×Value×Value)):Prop where
 rules: ∃us,InR w rv us/\us.map (fun p=>p.1)=p.2.rules
 res:w.ownsRow B 9 1 ev p.2.res.length (p.2.res.map ly)
 svs:w.ownsRow B 53 4 sv ss.length (svF ss)
 sve:ss.map (fun p=>p.1)=p.2.svs
 svr: ∀q∈ss,fZ w q.2 q.1.roles
 aps:w.ownsRow B 197 11 av aa.length (apF aa)
 ape:aa.map (fun p=>p.1)=p.2.aps
 apr: ∀q∈aa,fk w q.2 q.1.who
 ans:w.ownsRow B 47 6 asv ls.length (anF ls)
 ane:ls.map (fun p=>p.1)=p.1
 anr: ∀a∈ls,qz B w a.2.1 a.1.who/\fk w a.2.2 a.1.list
theorem Bg.below {B:Nat}{w g:World}{p:List An×Dk}{l ev sv av d:Value}{m:List (Sv×Value)}{i:List (Ap×Value)}{k:List (An×Value×Value)}(h:Bg B w p l ev sv av d m i k)(c:ao w g):Bg B g p l ev sv av d m i k:=by
 have rk: ∀{e s n:Nat} {u:Value} {xs:List Value},w.ownsRow B e s u n xs->g.ownsRow B e s u n xs:=fun j=>bH j fun b f=>c.block b (j.lt b f).2;obtain⟨t,o,r⟩:=h.rules;exact⟨⟨t,o.below c,r⟩,rk h.res,rk h.svs,h.sve,fun q f=>(h.svr q f).below c,rk h.aps,h.ape,fun q f=>(h.apr q f).below c,rk h.ans,h.ane,fun a ha=>⟨⟨(h.anr a ha).1.1.below c,(h.anr a ha).1.2⟩,(h.anr a ha).2.below c⟩⟩
def Tj (B:Nat)(ys:List Nat)(l:List Cm)(w:World)(e:Ending)(c:World):Prop:=ao w c/\((60<l.length/\e= .returned (.tuple #[.agg #[af,af,af,af],af,ag 0,ag 5]))\/(l.length<=60/\ ∃(b ev sv av a:Value) (g:List (Sv×Value)) (d:List (Ap×Value)) (f:List (An×Value×Value)),e= .returned (.tuple #[.agg #[b,ev,sv,av],a,ag (fW dk0 l).2.runs,ag 0])/\Rob (fun k=>k∉ys) (fun u=>Bg B u (fW dk0 l) b ev sv av a g d f) c))
theorem TN:(prog.info? 47).map (fun i=>(i.zero,i.size,i.bytes))=some (some (.agg #[ag 0,ag 0,ag 0,ag 0,af,af]),6,80):=by kernel_rfl
theorem Tl:prog.underlying 108=some (.slice 47):=by kernel_rfl
theorem dsT:prog.underlying 107=some (.struct (prog.fieldsOf 107)):=by kernel_rfl
theorem GW (c:Cm)(p q:Option Addr)(n m k j:Nat):(doC c (.slice p n k) (.slice q m j)).all (·.oneCell')=true:=by simp[doC,ly,Value.oneCell']
theorem Cq {R:Ending->World->Prop}{a:Act}{w:World}(g:Nat)(c:Array Value)(x:Value)(n er:Int)(o:c.size=4)(p:a.defers=[])(i:a.tmps.getD 2 undef=ab g 0)(j:a.tmps.getD 3 undef=x)(k:a.tmps.getD 4 undef=ag n)(l:a.tmps.getD 5 undef=ag er)
  (q:w.heap[g]? =ah c 107) (m:R (.returned (.tuple #[.agg c,x,ag n,ag er])) w):bodyPost prog f32 R .ret a w:=by
 refine aX (v:= .tuple #[.agg c,x,ag n,ag er]) ?_ p m;have s:f32.results= #[ResultVar.cell 2 107,ResultVar.tmp 3,ResultVar.tmp 4,ResultVar.tmp 5]:=rfl;have b:a.tmps[2]?.getD undef=ab g 0:=by simpa using i
 have d:a.tmps[3]?.getD undef=x:=by simpa using j
 have e:a.tmps[4]?.getD undef=ag n:=by simpa using k
 have f:a.tmps[5]?.getD undef=ag er:=by simpa using l
 have r:=dZ (P:=prog) w g 107 107 _ _ _ q dsT rfl (by rw[o];kernel_rfl);simp[results,b,d,e,f,asAddr,r]
theorem LQ {d:Nat}{t:Tr}{L c:List Nat}(h: ∀b∈c,b∈L){q:Nat}(e:Fx d (t.ad L) q):Fx d (t.ad c) q:=⟨e.1,fun a=>e.2 (by
 rcases cZ.1 a with a|a
 ·exact fO _ (h q a)
 ·exact fb _ a)⟩
theorem dS.sub {B c:Nat}{d:Dk}{t:Tr}{L e:List Nat}{w:World}(h:dS B c d (t.ad L) w)(g: ∀b∈e,b∈L):dS B c d (t.ad e) w:=by
 obtain⟨k,m,j,o,kv,n,i,h⟩:=h;have mv: ∀{Φ:World->Prop},Rob (Fx c (t.ad L)) Φ w->Rob (Fx c (t.ad e)) Φ w:=fun l=>l.move (aA _) (fun _ _ _=>rfl) fun q _ a=>LQ g a
 exact⟨k,m,j,o,kv,n,i,h.blk,h.lo,mv h.rules,mv h.codes,mv h.vers,mv h.kept,h.res,h.svs,h.sve,fun p f=>mv (h.svr p f),h.aps,h.ape,fun p f=>mv (h.apr p f),fun q a=>h.nx q (by
  rcases cZ.1 a with a|a
  ·exact fO _ (g q a)
  ·exact fb _ a)⟩
theorem NY (B:Nat)(ys:List Nat)(cs:List (Cm×Value×Value))(v:Value)(w:World)(bb:B<=w.heap.size)(h:qQ w v cs)(hT:Tbs B w)(bq: ∀q∈cs,NR q.1)(c1: ∀q∈cs,Rob (fun k=>k<B) (fun u=>fk u q.2.2 q.1.swho) w)(c3: ∀q∈ys,B<=q/\ ∃c T f,w.heap[q]? =some (.cells c T f)/\ ¬(T=93\/T=140\/T=171)):Calls prog 32 #[v] w (Tj B ys (cs.map fun q=>q.1) w):=by
 obtain⟨m,hA,bA,nA⟩:=nb w #[af,af,af,af] 107;have HR:=aG h;obtain⟨p,kc,rfl,bn,cF⟩:=h;obtain⟨n,hn⟩:=aq cs.length;have HN:=aG hn;have bO:=aG bq;have HT:=aG hT;have bU:=aG c1;have ax:=aG c3;have b5:=aG bA;rw[hn]at bn⊢;obtain⟨l,G⟩:=aq (cs.map (fun q=>q.1));have cq:l.length=n:=by rw[<-G,bm,hn]
 rw[G];have HL:=aG G;have ar:=aG cq;by_cases bX:60<n
 ·have ba:(60:Int)<(n:Int):=by omega
  have HO:=aG (below_setRow bA (aA _) #[af,af,af,af]);have bS:=aG (aK _ _ _ #[af,af,af,af] _ _ nA);go_enter func32,ntmps32;go_wp2_with(refine aC rfl 107 _ _ rfl _ _ rfl rfl _ _ nA (by kernel_rfl) rfl (by simp[Value.oneCell']) ?_)
  exact Cq w.heap.size _ _ 0 5 rfl rfl rfl rfl rfl rfl bS.o ⟨HO.o,.inl ⟨by rw[ar.o];exact bX,rfl⟩⟩
 ·have ba: ¬(60:Int)<(n:Int):=by omega
  obtain⟨wB,hB,bB,nB⟩:=nb m #[af,af,af,af,af,af,ag 0,af,ag 0] 157;have cB:w.heap.size<m.heap.size:=(by rw[<-hA];simp);have cC:m.heap.size<wB.heap.size:=(by rw[<-hB];simp)
  have ch:=RV (B:=B) (xs:=w.heap.size::ys) (by omega) (fun q d=>by
   rcases bv.1 d with rfl|d
   ·omega
   ·obtain⟨D,_,_,_,z,_⟩:=ax.o q d;have:=aH z;omega) nB
  have b8:=aG ch;have b6:=aG (jv (au b5.o bB) (bt bB nA));go_enter func32,ntmps32;go_wp2_with fail;go_loopw [7,9,16] (fun v _ q wr=> ∃(j:Nat) (E:Dk) (A:Tr) (L:List Nat) (H:List (An×Value×Value)),q=ag (j:Int)/\j<=n/\(A.xs=w.heap.size::ys/\ ∀q,q<w.heap.size->Gx m.heap.size A q)/\dS B m.heap.size E (A.ad L) wr/\(∀b,v.ownBlock=some b->b∈L)/\(∀b∈L,∃c,wr.heap[b]? =ah c 47)/\(ao w wr/\wr.heap[w.heap.size]? =ah #[af,af,af,af] 107)/\wr.ownsRow m.heap.size 47 6 v j (anF H)/\H.length=j/\E.given<=j/\(∀a∈H,Rob (Fx m.heap.size (A.ad L)) (fun u=>qz B u a.2.1 a.1.who) wr/\Rob (Fx m.heap.size (A.ad L)) (fun u=>fk u a.2.2 a.1.list) wr)/\fW dk0 l=(H.map (fun a=>a.1)++(fW E (l.drop j)).1,(fW E (l.drop j)).2)) (fun _ _ q _=>n-(intOf q).toNat);case atStart=>exact⟨0,dk0,⟨af,af,af,w.heap.size::ys⟩,[],[],rfl,by omega,⟨rfl,fun q d=>⟨by omega,nofun,nofun,nofun⟩⟩,b8.o,(fun b i=>by cases i),(fun b i=>by cases i),b6.o,df _ _ _ _,rfl,gy _,(fun a ha=>by cases ha),rfl⟩
  case round=>
   obtain⟨j,E,A,L,H,rfl,hj,⟨I,cn⟩,hd,bZ,ca,⟨V,b4⟩,C,a7,cm,ac,hX⟩:=hrel;have cA:(0:Int)<=(j:Int):=(by omega);by_cases co:j<n
   ·have bk:(j:Int)<(n:Int):=(by omega);obtain⟨⟨c,rv,wv⟩,X⟩: ∃q,cs[j]? =some q:=⟨cs[j]'(by rw[HN.o];exact co),az _⟩
    have cp:l[j]? =some c:=(by rw[<-HL.o,bf,X];rfl);rw[I7 E cp]at hX;obtain⟨p',k',e',_,a0⟩:=HR.o;injection e' with e1 e3 e2;subst e1 e2;obtain⟨Y,g,o,cx,br⟩:=a0 j _ X;subst cx;dsimp only at Y br;have bg:=bO.o _ (aL X);have bs:=gU br V;have bd:=Y.below V;obtain⟨O,N,rfl,_,_⟩:=Y.roles;obtain⟨pw,kw,rfl,_,_⟩:=Y.who;obtain⟨wZ,wC,hZ,nZ,hC,bC,nC⟩:=nbs wr #[ag 0,ag 0,ag 0,ag 0,.string ⟨#[]⟩,.string ⟨#[]⟩,ag 0,ag 0,ag 0,af,ag 0,ag 0,af] (doC c (.slice O c.sv.roles.length N) (.slice pw c.swho.length kw)) 55;have a5:=hd.below bC;have Q:=au V bC;have b3:=bt bC b4;have cb:Tbs B wC:=fun W hW=>HT.o W ((Q.mono bb).trans hW)
    have bc: ∀b∈L,∃c,wC.heap[b]? =ah c 47:=fun b i=>by
     obtain⟨x,hx⟩:=ca b i;exact⟨x,bt bC hx⟩
    have cD:=bg B m.heap.size E (A.ad L) wC O pw N kw a5 cb (bh bb Q.size) (by omega) (fun b i=>by
     rcases cZ.1 i with i|i
     ·obtain⟨x,hx⟩:=bc b i;exact⟨x,_,_,hx,by decide⟩
     ·rw[I]at i;rcases bv.1 i with rfl|i
      ·exact⟨_,_,_,b3,by decide⟩
      ·obtain⟨_,x,T,f,z,h3⟩:=ax.o b i;exact⟨x,T,f,bt Q z,h3⟩) (bd.below bC) ((bU.o _ (aL X)).below Q)
    have cw:=bH C fun b d=>bC.block b (C.lt b d).2
    have bi:(∀b∈L,Gx m.heap.size (A.ad L) b)/\Gx m.heap.size (A.ad L) w.heap.size:=by
     obtain⟨_,_,_,_,_,_,_,t⟩:=a5;exact⟨fun b i=>(t.nx b (fO _ i)).2.2,(t.nx _ (fb _ (by rw[I];exact aV))).2.2⟩
    have aY:=aG b3;obtain⟨P,hP⟩:=aq (doP E c);have bL:T4 (P.2.given<=E.given+1):=(by have:=LF E c;rw[hP]at this;exact this);rw[hP]at cD hX
    have HX:T4 (fW dk0 l=((H.map (fun a=>a.1)++[P.1])++(fW P.2 (l.drop (j+1))).1,(fW P.2 (l.drop (j+1))).2)):=by
     show _=_;rw[hX,dw];rfl
    have aW:T4 (∀a∈H,Rob (Fx m.heap.size (A.ad L)) (fun u=>qz B u a.2.1 a.1.who) wC/\Rob (Fx m.heap.size (A.ad L)) (fun u=>fk u a.2.2 a.1.list) wC):=fun a ha=>⟨(ac a ha).1.below bC,(ac a ha).2.below bC⟩
    have an:=aG Q;have c4:=aG a5;have aw:=aG cw;have ap:=aG bi;have aS:=aG bZ;have bM:=aG bc;have bN:=aG a7;have bT:=aG I;have ai:=aG cn;have bD:=aG cm;go_wp2_with(first|(refine wpList_load_mid rfl 55 _ rfl g (o+j*13) rfl (doC c (.slice O c.sv.roles.length N) (.slice pw c.swho.length kw)).toList _ bs doT rfl (by kernel_rfl) ?_)|(refine aC rfl 55 _ _ rfl _ _ rfl rfl _ _ nZ (by kernel_rfl) rfl (GW _ _ _ _ _ _ _) ?_;rw[hC])|(refine aO rfl 55 _ rfl _ rfl _ _ _ _ nC doT rfl (by kernel_rfl) ?_))
    refine cD.mono ?_;rintro e w4 ⟨t',aM,lv,rfl,ci,r,b2,bl⟩
    obtain⟨y,c0,rfl⟩: ∃y:Tr,y.xs=w.heap.size::ys/\t'=y.ad L:=⟨⟨t'.ev,t'.sv,t'.av,w.heap.size::ys⟩,rfl,by
     have e:=r.xs;obtain⟨a1,a2,a3,a4⟩:=t';dsimp only[Tr.ad]at e⊢;rw[e,bT.o]⟩
    obtain⟨p5,c5,b0,_,_⟩:=b2.here.1;obtain⟨p6,c6,b1,_,_⟩:=bl.here;obtain⟨wE,hE,U,nE⟩:=nb w4 #[ag P.1.err,ag P.1.num,ag P.1.day,ag P.1.min,aM,lv] 47;have cd:ao w w4:=an.o.trans ⟨r.os,r.tape,r.output,r.size,fun q d=>r.blk q (ai.o q d) (aT d an.o.size)⟩;have bK:T4 (∀q,q<w.heap.size->Gx m.heap.size y q):=fun q d=>r.gx q (aT d an.o.size) (ai.o q d);have cf:=au cd U;have Z:wE.ownsRow m.heap.size 47 6 u7 j (anF H):=bH aw.o fun b d=>(U.block b (aT (aw.o.lt b d).2 r.size)).trans (r.blk b (ap.o.1 b (aS.o b d)) (aw.o.lt b d).2);have be:=ci.below U;have aZ:=aG (bt U ((r.blk _ ap.o.2 (aH aY.o)).trans aY.o))
    have c8:T4 (∀b∈L,∃c,wE.heap[b]? =ah c 47):=fun b i=>by
     obtain⟨x,hx⟩:=bM.o b i;exact⟨x,bt U ((r.blk b (ap.o.1 b i) (aH hx)).trans hx)⟩
    have aX:T4 (∀a∈H++[(P.1,aM,lv)],Rob (Fx m.heap.size (y.ad L)) (fun u=>qz B u a.2.1 a.1.who) wE/\Rob (Fx m.heap.size (y.ad L)) (fun u=>fk u a.2.2 a.1.list) wE):=fun a ha=>by
     rcases cZ.1 ha with ha|ha
     ·exact⟨(r.rob (aW.o a ha).1).below U,(r.rob (aW.o a ha).2).below U⟩
     ·rw[bJ.1 ha];exact⟨b2.below U,bl.below U⟩
    have b9:=aG be
    have cy:m.heap.size<=wE.heap.size:=by
     obtain⟨_,_,_,_,_,_,_,t⟩:=be;exact Nat.le_of_lt (aH t.blk)
    have aP:=aG cf;have bW:(#[ag P.1.err,ag P.1.num,ag P.1.day,ag P.1.min,aM,lv]:Array Value).all (·.oneCell')=true:=(by rw[b0,b1];simp[Value.oneCell']);unfold anC;subst b0 b1;go_wp2_with(at_builtin;refine iT rfl _ _ 108 47 rfl Tl TN rfl (by decide) (by decide) rfl Z rfl nE rfl bW (by omega) cy ?_)
    rintro v2 S aB a6 cg g5 c7 rfl;obtain⟨L',cj,bY,c9,ct⟩:=b9.o.grown Z aS.o a6 aB cg;have ce:ao w S/\S.heap[w.heap.size]? =ah #[af,af,af,af] 107:=⟨aP.o.grown a6 aP.o.size (fun k hk=>by have:=(Z.lt k hk).1;omega),(a6.block _ (aH aZ.o) (fun e=>by have:=(Z.lt _ e.symm).1;omega)).trans aZ.o⟩
    have bQ:T4 (∃(L:List Nat) (J:List (An×Value×Value)),dS B m.heap.size P.2 (y.ad L) S/\(∀b,(Value.slice (some (ae g5 0)) (j+1) c7).ownBlock=some b->b∈L)/\(∀b∈L,∃c,S.heap[b]? =ah c 47)/\(ao w S/\S.heap[w.heap.size]? =ah #[af,af,af,af] 107)/\S.ownsRow m.heap.size 47 6 (.slice (some (ae g5 0)) (j+1) c7) (j+1) (anF J)/\J.length=j+1/\(∀a∈J,Rob (Fx m.heap.size (y.ad L)) (fun u=>qz B u a.2.1 a.1.who) S/\Rob (Fx m.heap.size (y.ad L)) (fun u=>fk u a.2.2 a.1.list) S)/\J.map (fun a=>a.1)=H.map (fun a=>a.1)++[P.1]):=by
     have bx: ∀b∈[g5],b∈L':=fun b i=>(by rw[bJ.1 i];exact bY g5 rfl);have bo: ∀{Φ:World->Prop},Rob (Fx m.heap.size (y.ad L)) Φ wE->Rob (Fx m.heap.size (y.ad [g5])) Φ S:=fun hR=>(ct _ hR).move (aA _) (fun _ _ _=>rfl) fun q _ d=>LQ bx d;refine⟨[g5],H++[_],cj.sub bx,fun b i=>by rw[bJ];exact(ay i).symm,fun b i=> ?_,ce,?_,by rw[aN,bN.o];rfl,fun a ha=>⟨bo (aX.o a ha).1,bo (aX.o a ha).2⟩,by rw[dV];rfl⟩
     ·rw[bJ.1 i];rcases aB.2 with⟨e,_⟩|⟨g',cap,bV,e,_,cl,_⟩
      ·cases e
      ·injection e with e1 _ _;injection e1 with e1;injection e1 with e1;subst e1;exact⟨bV,cl⟩
     ·unfold anF;rw[fC];exact aB
    go_wp2_with fail;go_roundw
    case rel=>
     obtain⟨L,J,q1,q2,q3,q4,q5,q6,q7,q8⟩:=bQ.o;exact⟨j+1,P.2,y,L,J,by go_num,by omega,⟨c0,bK.o⟩,q1,q2,q3,q4,q5,q6,by have:=bL.o;have:=bD.o;omega,q7,by rw[q8];exact HX.o⟩
    case measure=>simp[intOf];omega
   ·have bk: ¬(j:Int)<(n:Int):=(by omega);obtain rfl:n=j:=(by omega);rw[dn (by rw[ar.o];exact aA _)]at hX
    have HX:T4 (fW dk0 l=(H.map (fun a=>a.1),E)):=by
     show _=_;rw[hX];simp[fW]
    obtain⟨bq,rv,cv,vv,kv,ss,aa,t⟩:=hd
    obtain⟨O,N,bw⟩: ∃p c,rv= .slice p E.rules.length c:=by
     obtain⟨us,D,z⟩:=t.rules.here;obtain⟨p,c,e⟩:=D.form;exact⟨p,c,by rw[e,<-z,bm]⟩
    obtain⟨pe,ke,ck⟩:=dy t.res;obtain⟨ps,ks,cz⟩:=dy t.svs;obtain⟨pa,ka,cc⟩:=dy t.aps;obtain⟨px,kx,c2⟩:=dy C;have z0:=cr 0 t.blk rfl;have z1:=cr (v:=A.ev) 1 t.blk rfl;have z2:=cr (v:=A.sv) 2 t.blk rfl;have z3:=cr (v:=A.av) 3 t.blk rfl;have z8:=cr 8 t.blk rfl;obtain⟨n0,h0⟩:=aq E.rules.length;obtain⟨n1,D⟩:=aq E.res.length;obtain⟨n2,z⟩:=aq ss.length;obtain⟨n3,h3⟩:=aq aa.length;obtain⟨rn,bu⟩:=aq E.runs;have al:A.ev= .slice pe n1 ke:=(by rw[<-D];exact ck);have am:A.sv= .slice ps n2 ks:=(by rw[<-z];exact cz);have ak:A.av= .slice pa n3 ka:=(by rw[<-h3];exact cc);rw[bw,h0]at z0;rw[al]at z1;rw[am]at z2;rw[ak]at z3;rw[bu]at z8;subst c2;have aE:=b4
    have bP:T4 (∀W:World,wr.heap.size<=W.heap.size->(∀q,q<wr.heap.size->q≠w.heap.size->q∉ys->W.heap[q]? =wr.heap[q]?)->Bg B W (fW dk0 l) (.slice O n0 N) (.slice pe n1 ke) (.slice ps n2 ks) (.slice pa n3 ka) (.slice px n kx) ss aa H):=fun W hs hW=>by
     have mv: ∀{Φ:World->Prop},Rob (Fx m.heap.size (A.ad L)) Φ wr->Φ W:=fun hR=>hR W hs fun q d G=>hW q G (fun e=>d.2 (fb _ (by rw[I,e];exact aV))) fun e=>d.2 (fb _ (by rw[I];exact bj _ e));have a9:=fun q (d:q∈w.heap.size::ys)=>(t.nx q (fb _ (by rw[I];exact d))).2.2;have rk: ∀{B e s k:Nat} {u:Value} {xs:List Value},wr.ownsRow B e s u k xs->(∀q∈w.heap.size::ys,some q≠u.ownBlock)->W.ownsRow B e s u k xs:=fun hr hn=>bH hr fun b i=>hW b (hr.lt b i).2 (fun e=>hn b (by rw[e];exact aV) i.symm) fun e=>hn b (bj _ e) i.symm
     have bp:=rk C fun q d e=>by
      have D:=(C.lt _ e.symm).1;rcases bv.1 d with rfl|d
      ·omega
      ·obtain⟨_,_,_,_,z,_⟩:=ax.o q d;have:=aH z;omega
     rw[HX.o];refine⟨?_,?_,?_,t.sve,fun q d=>mv (t.svr q d),?_,t.ape,fun q d=>mv (t.apr q d),⟨bp.1.trans (by rw[a7]),?_⟩,rfl,fun a ha=>⟨mv (ac a ha).1,mv (ac a ha).2⟩⟩
     ·rw[<-h0,<-bw];exact mv t.rules
     ·rw[<-al];exact rk t.res fun q d=>(a9 q d).2.1
     ·rw[<-am];exact rk t.svs fun q d=>(a9 q d).2.2.1
     ·rw[<-ak];exact rk t.aps fun q d=>(a9 q d).2.2.2
     ·rw[a7];exact bp.2.imp id fun⟨g,c,cu,q1,q2,q3⟩=>⟨g,c,cu,q1,by omega,q3⟩
    have bR:T4 ((fW dk0 l).2.runs=rn):=(by show _=_;rw[HX.o];exact bu);have b7:=aG V;have cE:=aH aE;go_upto_region 10 with fail;refine dH (fun M _ W=>(M 6=false->ao wr W)/\(M 6=true-> ∃R,ao wr R/\Below R.heap.size (R.setRow w.heap.size #[.slice O n0 N,.slice pe n1 ke,.slice ps n2 ks,.slice pa n3 ka]) W)) [kn 26 (ab m.heap.size 0),kn 27 (.agg #[.slice O n0 N,.slice pe n1 ke,.slice ps n2 ks,.slice pa n3 ka]),kn 28 (.slice px n kx),kn 29 (ab m.heap.size 7),kn 30 (ab m.heap.size 8),kn 31 (ag rn),nk,kn 3 (.slice px n kx),kn 4 (ag rn),kn 5 (ag 0)] (fun _=>⟨fun _=>(aF _ _).drew,(fun h=>by cases h)⟩) (fun _ _ _ _ i h=>⟨fun c=>(h.1 c).trans (i.mono (h.1 c).size),fun c=> ?_⟩) (by kernel_rfl) ?_ ?_
    ·obtain⟨R,D,z⟩:=h.2 c;exact⟨R,D,z.trans (i.mono (by have:=z.size;simpa using this))⟩
    ·rintro M φ W hJ hc F l' G hF;have HJ:=aG hJ;simp only[kn,nk,d6,aR,a8,Act.put,aD,aJ,aI]at G;subst G;simp only[dz,Nat.reduceAdd]at hF;dsimp only[kn,nk,dK,fo,eD,Act.put];and_intros;all_goals first|exact trivial|intro hw hn t K hK
     all_goals try (go_simp;with_reducible exact hK _ _ ⟨rfl,aF _ _⟩)
     ·have i:=HJ.o.1 (hn 6 _ rfl (by kernel_rfl));have z0:=aj i z0;have z1:=aj i z1;have z2:=aj i z2;have z3:=aj i z3;go_simp;exact hK _ _ ⟨rfl,aF _ _⟩
     ·have z8:W.cell? (ae m.heap.size 8)=some (ag rn):=by
       cases d:M 6 with
       |false=>exact((HJ.o.1 d).cell (aU z8)).trans z8
       |true=>
        obtain⟨R,D,z⟩:=HJ.o.2 d;have hz:=aj D z8;exact(dP ((z.block _ (aU hz)).trans (aQ R w.heap.size m.heap.size _ (by omega)))).trans hz
      go_simp;exact hK _ _ ⟨rfl,aF _ _⟩
     ·have i:=HJ.o.1 t;have nW:=bt i aE;show Oper.wp _ _ _ _ _ _;refine oq (ops:= #[]) rfl (aC rfl 107 _ _ rfl _ #[.slice O n0 N,.slice pe n1 ke,.slice ps n2 ks,.slice pa n3 ka] (by simp[Act.eval,hF]) (by simp[Act.eval,hF]) _ _ nW (by kernel_rfl) rfl (by simp[Value.oneCell']) ?_);exact⟨rfl,hK undef _ ⟨trivial,fun c=>by simp at c,fun _=>⟨W,i,aF _ _⟩⟩⟩
    ·rintro M φ W hM hJ;obtain⟨R,D,z⟩:=hJ.2 (hM 6 (by decide) rfl);simp only[kn,nk,ep,aR,a8,Act.put,aD,aJ,aI];have m0:=bt D aE;have m2:=aK _ _ _ #[.slice O n0 N,.slice pe n1 ke,.slice ps n2 ks,.slice pa n3 ka] _ _ m0;have bz:R.heap.size<=W.heap.size:=(by have:=z.size;simpa using this);have hW: ∀q,q<wr.heap.size->q≠w.heap.size->W.heap[q]? =wr.heap[q]? :=fun q G d=>(z.block q (aT G D.size)).trans ((aQ R w.heap.size q _ d).trans (D.block q G));have bF:=aG ((z.block _ (aH m0)).trans m2);have bG:=aG ((below_setRow (au b7.o D) (aA _) #[.slice O n0 N,.slice pe n1 ke,.slice ps n2 ks,.slice pa n3 ka]).trans (z.mono (Nat.le_of_lt (aH m0))));have bI:T4 (Rob (fun k=>k∉ys) (fun u=>Bg B u (fW dk0 l) (.slice O n0 N) (.slice pe n1 ke) (.slice ps n2 ks) (.slice pa n3 ka) (.slice px n kx) ss aa H) W):=fun u hu ha=>bP.o u (bh D.size (bh bz hu)) fun q G d hy=>(ha q hy (aT G (bh D.size bz))).trans (hW q G d);go_wp2_with fail;exact Cq w.heap.size #[.slice O n0 N,.slice pe n1 ke,.slice ps n2 ks,.slice pa n3 ka] _ rn 0 rfl rfl rfl rfl rfl rfl bF.o ⟨bG.o,.inr ⟨by rw[ar.o];omega,_,_,_,_,_,_,_,_,by rw[bR.o];rfl,bI.o⟩⟩
section
section
variable {w w':World}
theorem LR:fk w (af) []:=⟨none,0,rfl,by decide,fun j n h=>by simp at h⟩
theorem Qh:fZ w (af) []:=⟨none,0,rfl,by decide,fun j n h=>by simp at h⟩
theorem Qi {g:Nat}{sv:Value}{l:List Int}{T:TypeId}(h:w.heap[g]? =ah #[sv] T)(b:fk w sv l):fZ w (.slice (some (ae g 0)) 1 1) [l]:=by
 refine⟨some ⟨g,0,none⟩,1,rfl,by simp,fun j m a=> ?_⟩;match j,a with
 |0,a=>cases a;exact⟨g,0,sv,rfl,aW _ _ _ _ _ _ h,b⟩
 |j+1,a=>simp at a
def qB (B:Nat)(w:World)(v:Value)(a:List (Cm×Value×Value)):Prop:=w.ownsRow B 55 13 v a.length (a.flatMap fun q=>(doC q.1 q.2.1 q.2.2).toList)/\ ∀q∈a,Rob (fun k=>some k≠v.ownBlock) (fun u=>pP u q.1 q.2.1 q.2.2) w
theorem GX {B:Nat}{v:Value}{a:List (Cm×Value×Value)}(h:w.ownsRow B 55 13 v a.length (a.flatMap fun q=>(doC q.1 q.2.1 q.2.2).toList))(i: ∀q∈a,pP w q.1 q.2.1 q.2.2)(l:a.length<9223372036854775808):qQ w v a:=by
 obtain⟨p,k,d⟩:=dy h;refine⟨p,k,d,l,fun j q b=>⟨i q (aL b),?_⟩⟩;obtain⟨g,c,e,_,m⟩:=qp (f:=fun q:Cm×Value×Value=>doC q.1 q.2.1 q.2.2) (fun q=>rfl) h rfl b;rw[d]at e;cases e;exact⟨g,0,rfl,by rw[bN];exact m⟩
theorem qB.row {B:Nat}{v:Value}{a:List (Cm×Value×Value)}(h:qB B w v a)(b:a.length<9223372036854775808):qQ w v a:=GX h.1 (fun q c=>(h.2 q c).here) b
theorem qB.below {B:Nat}{v:Value}{c:List (Cm×Value×Value)}(h:qB B w v c)(d:ao w w'):qB B w' v c:=
 ⟨bH h.1 fun b a=>d.block b (h.1.lt b a).2,fun q a=>(h.2 q a).below d⟩
theorem Qj {c:Cm}{a b:Value}(h:pP w c a b):(doC c a b).all (·.oneCell')=true:=by
 obtain⟨_,_,rfl,_⟩:=h.roles;obtain⟨_,_,rfl,_⟩:=h.who;exact GW ..
theorem Bh: ∀a:List (Cm×Value×Value),(a.flatMap fun q=>(doC q.1 q.2.1 q.2.2).toList).length=a.length*13
 |[]=>rfl
 |c::a=>by
  rw[List.flatMap_cons,aN,Bh a,bK];show 13+_=_;omega
theorem R8 {a:List (Cm×Value×Value)}{g o:Nat}(h: ∀(j:Nat) (q:Cm×Value×Value),a[j]? =some q->w.rangeAt g (o+j*13) (doC q.1 q.2.1 q.2.2).toList):w.rangeAt g o (a.flatMap fun q=>(doC q.1 q.2.1 q.2.2).toList):=by
 intro k u c
 have d:k<a.length*13:=by
  have:=(aE.1 c).1;rwa[Bh]at this
 obtain⟨q,b⟩: ∃q,a[k/13]? =some q:=⟨_,az (by omega)⟩
 have e:=pL (f:=fun q:Cm×Value×Value=>doC q.1 q.2.1 q.2.2) (m:=13) (fun q=>rfl) b (k%13) (Nat.mod_lt _ (by decide));rw[show k/13*13+k%13=k by omega,c]at e;have:=h _ q b (k%13) u (by rw[bq];exact e.symm);rwa[show o+k/13*13+k%13=o+k by omega]at this
theorem Ey {n:Array Oper}{d:List Oper}{o:Oper}{a:Act}{Q:Exit->Act->World->Prop}(E:o.guard=none)(s x:Operand)(X:o.op= .call {callee:= .builtin .append,args:= #[s,x],argTypes:= #[49,49]})
  {B:Nat} {v P:Value} {r c:List (Cm×Value×Value)} (Z:a.eval s=v) (D:qB B w v r) (hx:a.eval x=P) (U:qQ w P c) (R:0<c.length) (M: ∀q∈c,Rob (fun k=>some k≠v.ownBlock) (fun u=>pP u q.1 q.2.1 q.2.2) w) (W:r.length+c.length<=100000) (L:B<=w.heap.size)
  (h: ∀C w',qB B w' C (r++c)->Below B w w'->w.grownBy w' v.ownBlock->wpList prog n Q d (a.put o.dst C) w'):wpList prog n Q (o::d) a w:=by
 obtain⟨i,hi,I,J,K⟩:=qX (t:=55) (z:= .agg (doC ⟨0,0,0,0,[],[],sv0,0,0,[]⟩ (af) (af))) (a:=13) (b:=152) (by kernel_rfl);obtain⟨p,k,rfl,_,N⟩:=U;obtain⟨q0,G⟩: ∃q,c[0]? =some q:=⟨_,az R⟩
 obtain⟨_,g,A,rfl,_⟩:=N 0 q0 G
 have T:w.rangeAt g A (c.flatMap fun q=>(doC q.1 q.2.1 q.2.2).toList):=R8 fun j q V=>by
  obtain⟨_,g',o',e,Y⟩:=N j q V;cases e;exact Y
 refine wpList_append_own_at w E s x 49 X B 55 i _ 13 152 (by kernel_rfl) hi I J K rfl (by decide) v r.length _ Z D.1 ⟨g,A,none⟩ c.length k (c.flatMap fun q=>(doC q.1 q.2.1 q.2.2).toList) hx ?_ (fun j u m=> ?_) (fun u m=> ?_) (by unfold maxLen;omega) (bh (Nat.mul_le_mul_right _ W) (by decide)) L fun C w' S y _ f=> ?_
 ·exact Bh c
 ·rw[show(⟨g,A,none⟩:Addr).add j=⟨g,A+j,none⟩ by simp[Addr.add]];exact T j u m
 ·obtain⟨q,F,m⟩:=List.mem_flatMap.1 m;exact Array.all_eq_true'.1 (Qj (M q F).here) u (Array.mem_toList_iff.1 m)
 ·refine h C w' ⟨?_,fun q F=> ?_⟩ (io (aF _ _) y L fun k l=>(D.1.lt k l).1) y
  ·rw[aN,fC];exact S
  ·have H:Rob (fun k=>some k≠v.ownBlock) (fun u=>pP u q.1 q.2.1 q.2.2) w:=(cZ.1 F).elim (D.2 q) (M q);refine H.move y.size (fun k l O=>y.block k O l) fun k O l=> ?_;rcases f with f|f
   ·rw[f];exact l
   ·rw[f];intro e;cases e;omega
theorem Cr {B g n m:Nat}{a:Array Value}{T:TypeId}(h:w.heap[g]? =ah a T)(c:B<=g)(b:a.size=n*m)(d:n<=maxLen):w.ownsRow B T m (.slice (some (ae g 0)) n n) n a.toList:=
 ⟨by rw[cg];exact b,.inr ⟨g,n,a,rfl,c,h,aA _,d,b,by rw[da (by rw[cg,b];exact aA _)]⟩⟩
theorem Ez (c:Cm)(a:c.sv.roles=[])(b:c.swho=[])(d:c.text.length<=9223372036854775807)(f:c.name.length<=9223372036854775807):pP w c (af) (af):=
 ⟨by rw[a];exact Qh,by rw[b];exact LR,d,f,fun p n k e=>by cases e;exact aA _⟩
end
end
theorem Cs: ∀(l m:List Cm) (c:Co),jY c (l++m)=((jY c l).1++(jY (jY c l).2 m).1,(jY (jY c l).2 m).2)
 |[],_,_=>rfl
 |x::l,m,c=>by
  show((doS c x).1::(jY (doS c x).2 (l++m)).1,(jY (doS c x).2 (l++m)).2)=_;rw[Cs l m];rfl
theorem Ct: ∀(l:List Cm) (c:Co),(jY c l).1.length=l.length
 |[],_=>rfl
 |x::l,c=>congrArg (· +1) (Ct l (doS c x).2)
section
section
variable {B gD:Nat} {d:Dk} {t:Tr}
theorem Qk (c:Cm)(G pw:Option Addr)(l M:Nat)(w:World)(h:dS B gD d t w)(hx:c.text.length<=9223372036854775807)(hT:Tbs B w)(y:B<=w.heap.size)(hg:d.given+1<=1000000)(J:I4 w t.xs)(I:c.name.length<=9223372036854775807)(hr:fZ w (.slice G c.sv.roles.length l) c.sv.roles)(aa:1<=c.kind/\c.kind<=4):Calls prog 64 #[ab gD 0,.agg (doC c (.slice G c.sv.roles.length l) (.slice pw c.swho.length M))] w (A6 B gD (doP d c) t w):=by
 obtain⟨w1,h1,b1,Q⟩:=nb w #[ab gD 0] 190;obtain⟨x,h2,b2,R⟩:=nb w1 (doC c (.slice G c.sv.roles.length l) (.slice pw c.swho.length M)) 55;obtain⟨D,h3,b3,F⟩:=nb x #[ag 0,ag 0,ag 0,ag 0,af,af] 47;have i:=au b1 b2;have a:=au i b3;have b:=h.opened (q:=x.heap.size) i.size (by rw[<-h3];simp) a;have O:=bt b3 R;have N:=bt (au b2 b3) Q;have z1:=cr 0 N rfl;obtain⟨y0,y1,y2,y3,y4,y5,y6,y7,y8,y9,ac,ad,ae⟩:=NQ O;have HB:=aG a;have HQ:=aG i.size
 have H:T4 (Gx gD (t.add x.heap.size) x.heap.size):=by
  obtain⟨_,_,_,_,_,_,_,hm⟩:=b;exact(hm.nx _ aV).2.2
 have p:=hT.below (a.mono y);have m:=bh y a.size;rcases(show c.kind=1\/c.kind=2\/c.kind=3\/c.kind=4 by omega) with g|g|g|g
 case' inl=>
  have C:I4 D (t.add x.heap.size).xs:=fun k g=>by
   rcases bv.1 g with rfl|g
   ·exact⟨_,_,_,F,by decide⟩
   ·obtain⟨c,T,f,hc,I⟩:=J k g;exact⟨c,T,f,bt a hc,I⟩
  have j:=Lw c.text D b hx p m hg C;clear C;generalize z:rR d (ib c.text)=P at j
 case' inr.inl=>
  have j:=IX c.name D b I;generalize z:sU d c.name=P at j
 case' inr.inr.inl=>
  have j:=I5 c.sv G l D b (hr.below a);generalize z:sV d c.sv=P at j
 case' inr.inr.inr=>
  have j:=LD c.n c.day c.days D b (fun W hW=>(p W hW).2.2) m;generalize z:kF d c.n c.day c.days=P at j
 all_goals
  have HP:T4 (doP d c=P):=by
   show _=_;rw[<-z];unfold doP;repeat (first|rw[ax g]|rw[aw (by omega)])
  clear b1 b2 b3 i a b Q R z N O p m
  try rw[g]at y0
  try (have e1:(c.kind==1)=false:=by simp;omega
       have e2:(c.kind==2)=false:=by simp;omega
       have e3:(c.kind==3)=false:=by simp;omega
       have e4:(c.kind==4)=false:=by simp;omega
       have e5:(c.kind==5)=false:=by simp;omega
       have e6:(c.kind==6)=false:=by simp;omega
       have e7:(c.kind==7)=false:=by simp;omega
       have e8:(c.kind==8)=false:=by simp;omega
       have e9:(c.kind==9)=false:=by simp;omega)
  clear g
  go_enter func64,ntmps64
  go_wp2_with fail
  refine j.mono ?_
  rintro e w4 ⟨t',wv,lv,rfl,A,r,u,s⟩
  obtain⟨t0,U,V,X,Y⟩:=RU HB.o HQ.o A r u s (anC P.1 wv lv)
  obtain⟨Z,K,rfl,_,_⟩:=u.here.1
  obtain⟨p6,L,rfl,_,_⟩:=s.here
  have S:=(r.blk _ H.o (aH F)).trans F
  have E:=aG (jv U (jv V (jv X Y)))
  have HR:=aG (aK _ _ _ (anC P.1 (.slice Z P.1.who.length K) (.slice p6 P.1.list.length L)) _ _ S)
  clear j A r u s U V X Y F
  go_wp2_with(refine aC rfl 47 _ _ rfl _ _ rfl rfl _ _ S (by kernel_rfl) rfl (by simp[anC,Value.oneCell']) ?_)
  refine aX (v:= .agg (anC P.1 (.slice Z P.1.who.length K) (.slice p6 P.1.list.length L))) ?_ rfl ?_
  ·exact bn rfl _ _ x.heap.size _ _ _ _ rfl HR.o anT rfl (by kernel_rfl)
  ·rw[HP.o]
   exact⟨t0,_,_,rfl,E.o.1,E.o.2.1,E.o.2.2.1,E.o.2.2.2⟩
theorem R9 (c:Cm)(f:1<=c.kind/\c.kind<=4):NR c:=fun _ _ _ _ w k l i j h d b e g a _=>Qk c k l i j w h a.text d b e g a.name a.roles f
end
end
end Go.Proofs.YtpdoienkhgnceaaGreatDoor
