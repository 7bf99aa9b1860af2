/- Texts of the proof. -/
import Derived.Great.BuildSlice
import Derived.Test.YtlkehieagdkgiaaGreatDoorPf37
import Derived.Test.YtlkehieagdkgiaaGreatDoorCards
import Derived.Test.YtlkehieagdkgiaaGreatDoorTie
import Derived.LaidMore
import Derived.SevenTiedAt
set_option maxRecDepth 100000
set_option maxHeartbeats 8000000
namespace Go.Proofs.YtlkehieagdkgiaaGreatDoor
open Go.Proofs.Tryz Go.RowKit Lx Vx Mx Msk
theorem uV (f:Nat->Bool)(x y:Int):gW f x y=true↔0<=x/\y<=1440/\x<=y/\ ∀i:Nat,x<=(i:Int)->(i:Int)<y->f i=true:=by
 unfold gW;rw[br,br,br,bz,bz,bz];constructor
 ·rintro⟨⟨⟨b,d⟩,e⟩,g⟩;refine⟨b,d,e,fun i hi j=> ?_⟩;have h:=CG g i (by omega);have a:inl [(x,y)] i=true:=(by simp[inl];omega);have c:decide (i<1440)=true:=bn (by omega);rw[a,c]at h;simpa using h
 ·rintro⟨b,d,e,g⟩;refine⟨⟨⟨b,d⟩,e⟩,Lh fun i _=> ?_⟩;cases a:inl [(x,y)] i with
  |false=>rfl
  |true=>
   simp[inl]at a;rw[g i (by omega) (by omega)];rfl
structure Fit (s:Sv)(fs:List (Nat->Bool))(m:Int)(who:List Int):Prop where
 len:who.length=s.roles.length
 mem: ∀(i:Nat) (r:Int) (p:List Int),who[i]? =some r->s.roles[i]? =some p->r∈p
 nd:who.Nodup
 ok: ∀r∈who,okP fs (m-s.bef) (m-s.bef+jJ s) r=true
def rF:List Int->List Int->Bool
 |x::l,y::k=>if y≠x then decide (x<y) else rF l k
 |_,_=>true
theorem By: ∀l:List Int,rF l l=true
 |[]=>rfl
 |x::l=>by rw[rF,ax (by simp)];exact By l
theorem Dx: ∀(t l k:List Int),rF (t++l) (t++k)=rF l k
 |[],_,_=>rfl
 |x::t,l,k=>by
  show rF (x::(t++l)) (x::(t++k))=_;rw[rF,ax (by simp)];exact Dx t l k
theorem Ol {x y:Int}(h:x<y)(l k:List Int):rF (x::l) (y::k)=true:=by
 rw[rF,aB (by omega)];exact bn h
structure Val (pools:List (List Int))(t u:List Int):Prop where
 len:t.length+u.length=pools.length
 mem: ∀(i:Nat) (r:Int),u[i]? =some r->r∈pools.getD (t.length+i) []
 nd:(t++u).Nodup
theorem tE {c:List (List Int)}: ∀{k:Nat} {t who:List Int},t.length+k=c.length->t.Nodup->jy c k t=some who-> ∃u,who=t++u/\Val c t u
 |0,t,who,l,g,h=>by
  cases aM h;exact⟨[],by simp,⟨by simpa using l,fun i r hi=>by simp at hi,by simpa using g⟩⟩
 |k+1,t,who,l,g,h=>by
  rw[jy]at h;obtain⟨r,n,d⟩:=tO h;by_cases f:r∈t
  ·rw[aB f]at d;cases d
  ·rw[ax f]at d;obtain⟨u,e,j⟩:=tE (k:=k) (t:=t++[r]) (by simp;omega) (List.nodup_append.2 ⟨g,by simp,fun a ha b m=>by rw[bL.1 m];rintro rfl;exact f ha⟩) d;refine⟨r::u,by rw[e,dD];rfl,⟨?_,fun i q hi=> ?_,?_⟩⟩
   ·have:=j.len;simp at this⊢;omega
   ·match i,hi with
    |0,hi=>cases aM hi;exact n
    |i+1,hi=>
     have:=j.mem i q (by simpa using hi);rw[aO]at this;rw[show t.length+(i+1)=t.length+[r].length+i by simp;omega];exact this
   ·have:=j.nd;rw[dD]at this;exact this
theorem o6 {α β:Type}(f:α->Option β): ∀l:List α,(l.findSome? f=none/\ ∀x∈l,f x=none)\/ ∃b x a y,l=b++x::a/\(∀z∈b,f z=none)/\f x=some y/\l.findSome? f=some y
 |[]=> .inl ⟨rfl,fun x c=>by cases c⟩
 |x::l=>by
  cases c:f x with
  |some y=>exact .inr ⟨[],x,l,y,rfl,(fun z d=>by cases d),c,by rw[List.findSome?_cons,c]⟩
  |none=>
   rcases o6 f l with⟨e,g⟩|⟨b,z,a,y,e,g,j,k⟩
   ·refine .inl ⟨by rw[List.findSome?_cons,c];exact e,fun z d=> ?_⟩;rcases bo.1 d with rfl|d
    ·exact c
    ·exact g z d
   ·refine .inr ⟨x::b,z,a,y,by rw[e];rfl,fun q i=> ?_,j,by rw[List.findSome?_cons,c];exact k⟩;rcases bo.1 i with rfl|i
    ·exact c
    ·exact g q i
theorem tF {c:List (List Int)}(l: ∀p∈c,p.Pairwise (· < ·)): ∀{k:Nat} {t:List Int},t.length+k=c.length-> ∀u,Val c t u-> ∃who,jy c k t=some who/\rF who (t++u)=true
 |0,t,J,u,d=>by
  have K:u=[]:=gz (by have:=d.len;omega);subst K;exact⟨t,rfl,by rw[gJ];exact By t⟩
 |k+1,t,J,u,d=>by
  match u,d with
  |[],d=>have:=d.len;simp at this;omega
  |r::u,d=>
   have A:r∈c.getD t.length []:=d.mem 0 r rfl
   have B:r∉t:=fun h=>by
    have:=(List.nodup_append.1 d.nd).2.2 r h r bf;exact this rfl
   have C:Val c (t++[r]) u:=by
    refine⟨?_,fun i q hi=> ?_,?_⟩
    ·have:=d.len;simp at this⊢;omega
    ·have:=d.mem (i+1) q (by simpa using hi);rw[show t.length+(i+1)=(t++[r]).length+i by simp;omega]at this;exact this
    ·rw[dD];exact d.nd
   obtain⟨o,G,E⟩:=tF l (k:=k) (t:=t++[r]) (by simp;omega) u C
   have v:(if r∈t then none else jy c k (t++[r]))=some o:=by
    rw[ax B];exact G
   rcases o6 (fun q=>if q∈t then none else jy c k (t++[q])) (c.getD t.length []) with⟨_,s⟩|⟨M,x,F,y,D,s,f,H⟩
   ·have:=s r A;rw[v]at this;cases this
   ·refine⟨y,by rw[jy];exact H,?_⟩;by_cases m:x=r
    ·subst m;rw[v]at f;cases aM f;rw[dD]at E;exact E
    ·have w:x<r:=by
      rw[D]at A;rcases bN.1 A with g|g
      ·have:=s r g;rw[v]at this;cases this
      ·rcases bo.1 g with e|g
       ·exact absurd e.symm m
       ·have j:(c.getD t.length []).Pairwise (· < ·):=by
         cases hq:c[t.length]? with
         |none=>simp[List.getD,hq]
         |some p=>
          have:c.getD t.length []=p:=(by simp[List.getD,hq]);rw[this];exact l p (aN hq)
        rw[D,List.pairwise_append]at j;exact(List.pairwise_cons.1 j.2.1).1 r g
     have n:x∉t:=fun L=>by
      rw[aB L]at f;cases f
     rw[ax n]at f;have z:t.Nodup:=(List.nodup_append.1 d.nd).1;obtain⟨u2,e2,_⟩:=tE (k:=k) (t:=t++[x]) (by simp;omega) (List.nodup_append.2 ⟨z,by simp,fun a ha b I=>by rw[bL.1 I];rintro rfl;exact n ha⟩) f;rw[e2,dD,Dx];exact Ol w _ _
theorem Dy {n:Int}: ∀{l:List (Int×Int)} {last:Int},good last n l-> ∀s∈l,∀t∈l,t.1<=s.2->s.2<t.2->False
 |[],_,_,s,e,_,_,_,_=>by cases e
 |q::l,last,h,s,e,t,f,i,j=>by
  obtain⟨k,m,o,d⟩:=h;rcases bo.1 e with g|b
  ·subst g;rcases bo.1 f with c|a
   ·subst c;omega
   ·have:=qA d t a;omega
  ·rcases bo.1 f with c|a
   ·subst c;have:=qA d s b;omega
   ·exact Dy d s b t a i j
theorem Fs (a:List (Nat->Bool))(x y r:Int):okP a x y r=true↔0<=x/\y<=1440/\x<=y/\ ∀i:Nat,x<=(i:Int)->(i:Int)<y->(a.getD r.toNat fun _=>false) i=true:=uV _ x y
theorem zw (ok:Int->Bool)(roles:List (List Int))(i:Nat):(ij ok roles).getD i []=(roles.getD i []).filter ok:=by
 unfold ij;rw[bT,bT,bj];cases roles[i]? <;>rfl
theorem Ar {s:Sv}{c:List (Nat->Bool)}{x:Int}{who:List Int}:Fit s c (x+s.bef) who↔Val (ij (okP c x (x+jJ s)) s.roles) [] who:=by
 have e:x+s.bef-s.bef=x:=by omega
 constructor
 ·rintro⟨a,d,f,g⟩;rw[e]at g;refine⟨by unfold ij;rw[aX];simpa using a,fun i r hi=> ?_,by simpa using f⟩;rw[zw,fF,bQ,List.mem_filter];have k:=(aE.1 hi).1;have b:s.roles[i]? =some (s.roles[i]'(by omega)):=ay _;refine⟨?_,g r (aN hi)⟩;rw[show s.roles.getD i []=s.roles[i]'(by omega) by simp[List.getD,b]];exact d i r _ hi b
 ·rintro⟨a,d,f⟩;have l:who.length=s.roles.length:=(by unfold ij at a;rw[aX]at a;simpa using a)
  have j: ∀(i:Nat) (r:Int),who[i]? =some r->r∈s.roles.getD i []/\okP c x (x+jJ s) r=true:=fun i r hi=>by
   have:=d i r hi;rwa[zw,fF,bQ,List.mem_filter]at this
  refine⟨l,fun i r p hi b=> ?_,by simpa using f,fun r m=> ?_⟩
  ·have:=(j i r hi).1;rwa[show s.roles.getD i []=p by simp[List.getD,b]]at this
  ·obtain⟨i,hi,rfl⟩:=List.getElem_of_mem m;rw[e];exact(j i _ (ay hi)).2
theorem Dz {ok:Int->Bool}{s:Sv}{n:Int}(h:Af s n): ∀p∈ij ok s.roles,p.Pairwise (· < ·):=fun p a=>by
 unfold ij at a;rw[dI]at a;obtain⟨q,b,rfl⟩:=a;exact(h.pool q b).up.filter _
theorem As {x:Int}{a:List Int}(h:x∈a):x∈Go.Lib.compact a:=by
 have d: ∀n,n<=a.length-> ∀j,j<n->a.getD j 0∈Go.Lib.compactUpTo a.toArray n:=by
  intro n;induction n with
  |zero=>intro _ j b;omega
  |succ n f=>
   intro l j b;rw[Go.Lib.compactUpTo_succ];by_cases e:j=n
   ·subst e;cases hk:Go.Lib.keeps a.toArray j with
    |true=>
     rw[aB rfl,getElem!_pos _ j (by simpa using(by omega:j<a.length))];simp[List.getD,ay (by omega:j<a.length)]
    |false=>
     have g:j≠0:=fun e=>(by subst e;simp[Go.Lib.keeps]at hk);have:=f (by omega) (j-1) (by omega)
     have c:a.getD j 0=a.getD (j-1) 0:=by
      have i:j<a.length:=(by omega);have k:j-1<a.length:=(by omega);simp[Go.Lib.keeps,g]at hk;simp only[List.getD];exact hk
     rw[c];exact dJ _ this
   ·exact dJ _ (f (by omega) j (by omega))
 obtain⟨j,b,rfl⟩:=List.getElem_of_mem h;have:=d a.length (aD _) j b;show _∈Go.Lib.compactUpTo _ _;simpa[List.getD,ay b] using this
theorem Ey (a:List Int):(Go.Lib.compact a).Sublist a:=by
 have e:a=(List.range a.length).map (a.toArray[·]!):=by
  apply List.ext_getElem (by simp);intro i b c;simp[b]
 unfold Go.Lib.compact Go.Lib.compactUpTo;conv=>rhs;rw[e]
 exact List.Sublist.map _ (List.filter_sublist)
theorem Ke (W:Int)(d:List (Nat->Bool))(roles:List (List Int)):(gL W d roles).Pairwise (· <= ·):=by
 have h:((nz W d roles).mergeSort fun x y=>decide (x<=y)).Pairwise (fun a b=>decide (a<=b)=true):=List.pairwise_mergeSort (fun a b c e f=>by simp at e f⊢;omega) (fun a b=>by simp;omega) _;exact(h.imp (fun h=>fb h)).sublist (Ey _)
theorem Ha {W x:Int}{a:List (Nat->Bool)}{roles:List (List Int)}:x∈gL W a roles↔ ∃p∈roles,∃r∈p,∃s∈rs (a.getD r.toNat fun _=>false) 1440,W<=s.2-s.1/\s.1=x:=by
 have g:x∈gL W a roles↔x∈nz W a roles:=⟨fun h=>List.mem_mergeSort.1 (we h),fun h=>As (List.mem_mergeSort.2 h)⟩
 rw[g];unfold nz yK uu;simp only[List.mem_flatMap,dI,List.mem_filter,bz];constructor
 ·rintro⟨p,b,r,c,s,⟨d,f⟩,e⟩;exact⟨p,b,r,c,s,d,f,e⟩
 ·rintro⟨p,b,r,c,s,d,f,e⟩;exact⟨p,b,r,c,s,⟨d,f⟩,e⟩
theorem Hb {f:Nat->Bool}{x y:Int}(r:0<=x)(q:x<y)(w:y<=1440)(h: ∀i:Nat,x<=(i:Int)->(i:Int)<y->f i=true): ∃s∈rs f 1440,s.1<=x/\y<=s.2/\(0<=s.1/\s.2<=1440/\ ∀i:Nat,s.1<=(i:Int)->(i:Int)<s.2->f i=true):=by
 have c:=Ae f 1440
 have has: ∀i:Nat,i<1440->(f i=true↔ ∃s∈rs f 1440,s.1<=(i:Int)/\(i:Int)<s.2):=fun i hi=>by
  rw[<-c.has i hi,List.any_eq_true];simp
 have j:=qA c.good
 have b: ∀s∈rs f 1440,0<=s.1/\s.2<=1440/\ ∀i:Nat,s.1<=(i:Int)->(i:Int)<s.2->f i=true:=fun s a=>by
  obtain⟨k,l,d⟩:=j s a;exact⟨by omega,d,fun i e g=>(has i (by omega)).2 ⟨s,a,e,g⟩⟩
 obtain⟨n,v⟩: ∃n:Nat,x=(n:Int):=⟨x.toNat,by omega⟩
 obtain⟨s,a,e,g⟩:=(has n (by omega)).1 (h n (by omega) (by omega));refine⟨s,a,by omega,?_,b s a⟩;refine dM fun o=> ?_;obtain⟨k,l,d⟩:=j s a;obtain⟨m,u⟩: ∃m:Nat,s.2=(m:Int):=⟨s.2.toNat,by omega⟩
 obtain⟨t,p,t1,t2⟩:=(has m (by omega)).1 (h m (by omega) (by omega));exact Dy c.good s a t p (by omega) (by omega)
theorem Kf {s:Sv}{n:Int}{b:List (Nat->Bool)}{x:Int}{who:List Int}(C:Af s n)(h:Fit s b (x+s.bef) who): ∃p∈gL (jJ s) b s.roles,p<=x/\Fit s b (p+s.bef) who:=by
 have c:=C.meas;unfold kG at c;have c:=fb c;have M:1<=jJ s:=by unfold jJ;omega
 have ex: ∀(l:List Int),(∀r∈l,∃t∈rs (b.getD r.toNat fun _=>false) 1440,t.1<=x/\x+jJ s<=t.2/\(0<=t.1/\t.2<=1440/\ ∀i:Nat,t.1<=(i:Int)->(i:Int)<t.2->(b.getD r.toNat fun _=>false) i=true))->l≠[]->
   ∃p,p<=x/\0<=p/\(∃r∈l,∃t∈rs (b.getD r.toNat fun _=>false) 1440,jJ s<=t.2-t.1/\t.1=p)/\ ∀r∈l,∃t:Int×Int,t.1<=p/\x+jJ s<=t.2/\t.2<=1440/\ ∀i:Nat,t.1<=(i:Int)->(i:Int)<t.2->(b.getD r.toNat fun _=>false) i=true:=by
  intro l;induction l with
  |nil=>intro _ h;exact absurd rfl h
  |cons r l I=>
   intro D _;obtain⟨t,j,t1,t2,G,m,g⟩:=D r bf;by_cases E:l=[]
   ·subst E;refine⟨t.1,t1,G,⟨r,bf,t,j,by omega,rfl⟩,fun q a=> ?_⟩;rw[bL.1 a];exact⟨t,gh _,t2,m,g⟩
   ·obtain⟨p,z,A,⟨J,v,t0,w,B,e0⟩,k⟩:=I (fun q a=>D q (bG _ a)) E;by_cases o:t.1<=p
    ·refine⟨p,z,A,⟨J,bG _ v,t0,w,B,e0⟩,fun q a=> ?_⟩;rcases bo.1 a with rfl|a
     ·exact⟨t,o,t2,m,g⟩
     ·exact k q a
    ·refine⟨t.1,t1,G,⟨r,bf,t,j,by omega,rfl⟩,fun q a=> ?_⟩;rcases bo.1 a with rfl|a
     ·exact⟨t,gh _,t2,m,g⟩
     ·obtain⟨u,u1,u2,u4,u5⟩:=k q a;exact⟨u,by omega,u2,u4,u5⟩
 have f:=h.len;have H:=C.r1;have y:who≠[]:=fun e=>by rw[e]at f;simp at f;omega
 obtain⟨p,z,A,⟨r,d,t,j,B,e0⟩,k⟩:=ex who (fun r d=>by
  have:=(Fs _ _ _ _).1 (h.ok r d);rw[show x+s.bef-s.bef=x by omega]at this;exact Hb this.1 (by omega) this.2.1 this.2.2.2) y
 refine⟨p,?_,z,⟨h.len,h.mem,h.nd,fun r d=>by
  rw[show p+s.bef-s.bef=p by omega,Fs];obtain⟨t,t1,t2,m,g⟩:=k r d;exact⟨A,by omega,by omega,fun i K L=>g i (by omega) (by omega)⟩⟩⟩
 obtain⟨i,hi,rfl⟩:=List.getElem_of_mem d;have F:s.roles[i]? =some (s.roles[i]'(by omega)):=ay _;exact Ha.2 ⟨_,aN F,_,h.mem i _ _ (ay hi) F,t,j,B,e0⟩
theorem Hd {s:Sv}{n:Int}{b:List (Nat->Bool)}(q:Af s n){m:Int}{who:List Int}(h:jG s.len s.bef s.aft s.roles b=some (m,who)):Fit s b m who/\ ∀e a,Fit s b e a->m<e\/m=e/\rF who a=true:=by
 unfold jG at h;have r:s.bef+s.len+s.aft=jJ s:=rfl;rcases o6 (uB s.len s.bef s.aft s.roles b) (gL (s.bef+s.len+s.aft) b s.roles) with⟨l,_⟩|⟨K,x,B,y,l,C,d,D⟩
 ·rw[l]at h;cases h
 ·rw[D]at h;cases aM h;unfold uB at d;rw[r]at d;cases hp:jy (ij (okP b x (x+jJ s)) s.roles) s.roles.length [] with
  |none=>rw[hp]at d;cases d
  |some L=>
   rw[hp]at d;have f:=aM d;have c:x+s.bef=m:=congrArg Prod.fst f;have e2:L=who:=congrArg Prod.snd f;subst c e2;have v:(ij (okP b x (x+jJ s)) s.roles).length=s.roles.length:=(by unfold ij;rw[aX]);obtain⟨u,z,G⟩:=tE (by rw[v];simp) (by simp) hp;rw[List.nil_append]at z;subst z;refine⟨Ar.2 G,fun e a A=> ?_⟩;obtain⟨o,rfl⟩: ∃o,e=o+s.bef:=⟨e-s.bef,by omega⟩
   obtain⟨p,g,F,w⟩:=Kf q A
   have I:x<=p:=by
    rw[<-r,l]at g;rcases bN.1 g with i|i
    ·exfalso;have:=C p i;unfold uB at this;rw[r]at this;obtain⟨M,c,_⟩:=tF (Dz q) (k:=s.roles.length) (t:=[]) (by unfold ij;rw[aX];simp) a (Ar.1 w);rw[c]at this;cases this
    ·rcases bo.1 i with rfl|i
     ·exact gh _
     ·have j:=Ke (s.bef+s.len+s.aft) b s.roles;rw[l,List.pairwise_append]at j;exact(List.pairwise_cons.1 j.2.1).1 p i
   by_cases E:x<o
   ·exact .inl (by omega)
   ·have H:x=o:=(by omega);subst H;refine .inr ⟨rfl,?_⟩;obtain⟨M,c,J⟩:=tF (Dz q) (k:=s.roles.length) (t:=[]) (by unfold ij;rw[aX];simp) a (Ar.1 A);rw[hp]at c;cases aM c;simpa using J
def DA (roles:List (List Int))(b:List (Nat->Bool))(x y:Int):List Int->Nat->List Int->Bool
 |[],_,_=>true
 |r::l,i,a=>if r∉roles.getD i []\/r∈a\/okP b x y r=false then false else DA roles b x y l (i+1) (addN a r)
def oN (s:Sv)(a:List (List (Nat->Bool)))(day min:Int)(who:List Int):Bool:=if day<0\/(a.length:Int)<=day\/who.length≠s.roles.length then false else DA s.roles (a.getD day.toNat []) (min-s.bef) (min+s.len+s.aft) who 0 []
theorem DB {roles:List (List Int)}{d:List (Nat->Bool)}{x y:Int}: ∀{l:List Int} {i:Nat} {a:List Int},DA roles d x y l i a=true↔(∀(k:Nat) (r:Int),l[k]? =some r->r∈roles.getD (i+k) [])/\(∀r∈l,r∉a)/\l.Nodup/\ ∀r∈l,okP d x y r=true
 |[],i,a=>by simp[DA]
 |r::l,i,a=>by
  rw[DA];by_cases h:r∉roles.getD i []\/r∈a\/okP d x y r=false
  ·rw[aB h];constructor
   ·intro h;cases h
   ·rintro⟨j,m,_,q⟩;exfalso;rcases h with h|h|h
    ·exact h (j 0 r rfl)
    ·exact m r bf h
    ·rw[q r bf]at h;cases h
  ·rw[ax h,DB];have j:r∈roles.getD i []:=Classical.not_not.1 fun e=>h (.inl e);have m:r∉a:=fun e=>h (.inr (.inl e))
   have p:okP d x y r=true:=by
    cases c:okP d x y r with
    |true=>rfl
    |false=>exact absurd (.inr (.inr c)) h
   constructor
   ·rintro⟨n,f,g,o⟩;refine⟨fun k u c=> ?_,fun u b=> ?_,List.nodup_cons.2 ⟨fun s=> ?_,g⟩,fun u b=> ?_⟩
    ·match k,c with
     |0,c=>cases aM c;exact j
     |k+1,c=>
      have:=n k u (by simpa using c);rw[show i+(k+1)=i+1+k by omega];exact this
    ·rcases bo.1 b with rfl|b
     ·exact m
     ·exact fun e=>f u b ((qQ _ _ _).2 (.inl e))
    ·exact f r s ((qQ _ _ _).2 (.inr rfl))
    ·rcases bo.1 b with rfl|b
     ·exact p
     ·exact o u b
   ·rintro⟨n,f,g,o⟩;refine⟨fun k u c=> ?_,fun u b e=> ?_,(List.nodup_cons.1 g).2,fun u b=>o u (bG _ b)⟩
    ·have:=n (k+1) u (by simpa using c);rw[show i+1+k=i+(k+1) by omega];exact this
    ·rcases(qQ _ _ _).1 e with e|rfl
     ·exact f u (bG _ b) e
     ·exact(List.nodup_cons.1 g).1 b
theorem mU {s:Sv}{a:List (List (Nat->Bool))}{day min:Int}{who:List Int}:oN s a day min who=true↔ ∃(d:Nat) (k:List (Nat->Bool)),day=(d:Int)/\a[d]? =some k/\Fit s k min who:=by
 unfold oN;by_cases h:day<0\/(a.length:Int)<=day\/who.length≠s.roles.length
 ·rw[aB h];constructor
  ·intro h;cases h
  ·rintro⟨d,k,rfl,l,j⟩;exfalso;have f:=(aE.1 l).1;have m:=j.len;omega
 ·rw[ax h];obtain⟨d,l⟩: ∃d:Nat,day=(d:Int):=⟨day.toNat,by omega⟩
  subst l;have v:who.length=s.roles.length:=Classical.not_not.1 fun e=>h (.inr (.inr e));have b:d<a.length:=(by omega);have c:a[d]? =some (a[d]'b):=ay b;have q:a.getD (Int.toNat (d:Int)) []=a[d]'b:=(by simp[List.getD,c]);have t:min+s.len+s.aft=min-s.bef+jJ s:=(by unfold jJ;omega);rw[q,t,DB];constructor
  ·rintro⟨w,_,x,y⟩;refine⟨d,_,rfl,c,v,fun i r p f m=> ?_,x,y⟩;have:=w i r f;rwa[bQ,show s.roles.getD i []=p by simp[List.getD,m]]at this
  ·rintro⟨o,k,e,g,j⟩;have:o=d:=(by omega);subst this;rw[c]at g;cases aM g;refine⟨fun i r f=> ?_,(fun r _ e=>by cases e),j.nd,j.ok⟩;have u:=(aE.1 f).1;have n:s.roles[i]? =some (s.roles[i]'(by omega)):=ay _;rw[bQ,show s.roles.getD i []=s.roles[i]'(by omega) by simp[List.getD,n]];exact j.mem i r _ f n
theorem zy {s:Sv}: ∀{l:List (List (Nat->Bool))} {n:Nat} {x:Nat×Int×List Int},kW s l n=some x-> ∃(k:Nat) (c:List (Nat->Bool)),x.1=n+k/\l[k]? =some c/\jG s.len s.bef s.aft s.roles c=some (x.2.1,x.2.2)/\ ∀(j:Nat) (a:List (Nat->Bool)),j<k->l[j]? =some a->jG s.len s.bef s.aft s.roles a=none
 |[],n,x,h=>by cases h
 |d::l,n,x,h=>by
  rw[kW]at h;cases hp:jG s.len s.bef s.aft s.roles d with
  |some y=>
   rw[hp]at h;cases aM h;exact⟨0,d,rfl,rfl,hp,fun j a g _=>by omega⟩
  |none=>
   rw[hp]at h;obtain⟨k,c,i,e2,e,f⟩:=zy h;refine⟨k+1,c,by omega,by simpa using e2,e,fun j a g b=> ?_⟩;match j,b with
   |0,b=>cases aM b;exact hp
   |j+1,b=>exact f j a (by omega) (by simpa using b)
theorem Kg {s:Sv}{a:List (List (Nat->Bool))}(h:(fy s a).err=0):a.length<=30/\jW s a=0/\ ∃(d:Nat) (b:List (Nat->Bool)),(fy s a).day=(d:Int)/\a[d]? =some b/\jG s.len s.bef s.aft s.roles b=some ((fy s a).min,(fy s a).who)/\ ∀(j:Nat) (f:List (Nat->Bool)),j<d->a[j]? =some f->jG s.len s.bef s.aft s.roles f=none:=by
 unfold fy at h⊢;by_cases g:30<a.length
 ·rw[aB g]at h;cases h
 ·rw[ax g]at h⊢;by_cases c:jW s a≠0
  ·rw[aB c]at h;exact absurd h c
  ·rw[ax c]at h⊢;have e:jW s a=0:=Classical.not_not.1 c;cases hd:kW s a 0 with
   |none=>rw[hd]at h;cases h
   |some x=>
    obtain⟨k,b,m,e2,i,l⟩:=zy hd;exact⟨by omega,e,k,b,by show((x.1:Nat):Int)=_;omega,e2,i,l⟩
theorem Au (c:Co)(s:Sv)(day:Int): ∀m i:Nat,(ry c s day m i).length=m
 |0,_=>rfl
 |m+1,i=>by rw[ry,bO,Au c s day m (i+1)]
theorem Kh (c:Co)(s:Sv)(day:Int): ∀(m i j:Nat),j<m->(ry c s day m i)[j]? =some (if s.roles.any (fun p=>decide (((i+j:Nat):Int)∈p))=true then fS c ((i+j:Nat):Int) day (-1) else noM)
 |m+1,i,0,_=>rfl
 |m+1,i,j+1,h=>by
  have:=Kh c s day m (i+1) j (by omega);rw[show i+1+j=i+(j+1) by omega]at this;exact this
theorem DC (c:Co)(s:Sv)(day:Int): ∀(m i j:Nat) (d:List M),(lT c s day m i)[j]? =some d->j<m/\d=ry c s (day+((i+j:Nat):Int)) c.res.length 0
 |0,_,_,_,h=>by simp[lT]at h
 |m+1,i,0,d,h=>by cases h;exact⟨Nat.succ_pos _,rfl⟩
 |m+1,i,j+1,d,h=>by
  obtain⟨a,b⟩:=DC c s day m (i+1) j d h;rw[show i+1+j=i+(j+1) by omega]at b;exact⟨by omega,b⟩
theorem Ft (c:Co)(s:Sv)(day:Int): ∀m i:Nat,(lT c s day m i).length=m
 |0,_=>rfl
 |m+1,i=>by rw[lT,bO,Ft c s day m (i+1)]
theorem zC {s:Sv}: ∀{l:List (List (Nat->Bool))},(∀d∈l,fo s d.length=0)->jW s l=0
 |[],_=>rfl
 |d::l,h=>by
  rw[jW,h d bf,ax (by decide)];exact zC fun d a=>h d (bG _ a)
structure Fnd (c:Co)(n day days:Int)(a:An):Prop where
 nn:isN n c.svs.length=true
 dd:isN day 146097=true/\1<=days/\days<=30/\day+days<=146097
 ok:Af (c.svs.getD n.toNat sv0) c.res.length
 wr:fo (c.svs.getD n.toNat sv0) c.res.length=0
 at_:day<=a.day/\a.day<day+days
 fit:Fit (c.svs.getD n.toNat sv0) (ry c (c.svs.getD n.toNat sv0) a.day c.res.length 0) a.min a.who
theorem Fu {c:Co}{n day days:Int}(h:(fQ c n day days).1.err=0):Fnd c n day days (fQ c n day days).1:=by
 obtain⟨s,k⟩:=au (c.svs.getD n.toNat sv0);unfold fQ at h⊢;rw[k]at h⊢;by_cases b:isN n c.svs.length=false
 ·rw[aB b]at h;exact absurd h (by decide:(6:Int)≠0)
 rw[ax b]at h⊢;by_cases e:isN day 146097=false\/days<1\/30<days\/146097<day+days
 ·rw[aB e]at h;exact absurd h (by decide:(3:Int)≠0)
 rw[ax e]at h⊢;by_cases a:(fy s (lT c s day days.toNat 0)).err≠0
 ·rw[aB a]at h;exact absurd h a
 rw[ax a];obtain⟨_,l,d,j,e2,i,m,_⟩:=Kg (Classical.not_not.1 a);obtain⟨p,g⟩:=DC c s day _ _ _ _ i;have e0:=xj l j (aN i);have f:j.length=c.res.length:=by rw[g,Au]
 rw[f]at e0;have o:day+((0+d:Nat):Int)=(fy s (lT c s day days.toNat 0)).day+day:=by rw[e2];omega
 rw[o]at g;subst k;refine⟨by simpa using b,⟨dM fun q=>e (.inl (by simpa using q)),by omega,by omega,by omega⟩,qZ e0,e0,⟨by show day<=_+day;omega,by show _+day<_;omega⟩,?_⟩;show Fit _ (ry c _ ((fy _ _).day+day) c.res.length 0) _ _;rw[<-g];exact(Hd (qZ e0) m).1
theorem Mc {s:Sv}{m:Int}{b:List M}{who:List Int}(a:Fit s b m who){r:Int}(e:r∈who): ∃p∈s.roles,r∈p:=by
 obtain⟨i,hi⟩:=List.getElem?_of_mem e;have c:=(aE.1 hi).1;have f:=a.len;have d:s.roles[i]? =some (s.roles[i]'(by omega)):=ay _;exact⟨_,List.getElem_mem _,a.mem i r _ hi d⟩
theorem DD {c:Co}{s:Sv}{day m:Int}{who:List Int}(g:Af s c.res.length)(b:Fit s (ry c s day c.res.length 0) m who){r:Int}(f:r∈who):gW (fS c r day (-1)) (m-s.bef) (m-s.bef+jJ s)=true:=by
 obtain⟨p,d,a⟩:=Mc b f;have i:=(g.pool p d).bd r a;have h:=b.ok r f;unfold okP at h;have e:=Kh c s day c.res.length 0 r.toNat (by omega);have er:((0+r.toNat:Nat):Int)=r:=by omega
 have ha:(s.roles.any fun p=>decide (r∈p))=true:=List.any_eq_true.2 ⟨p,d,bn a⟩;rw[er,aB ha]at e;rw[bT,e]at h;exact h
theorem Bz {who:List Int}{roles:List (List Int)}: ∀m i:Nat,(∀k,i<=k->k<i+m->who.getD k 0∈roles.getD k []/\who.getD k 0∉who.take k)->pV who roles m i=0
 |0,_,_=>rfl
 |m+1,i,h=>by
  obtain⟨a,b⟩:=h i (aD _) (by omega);rw[pV,ax (fun q=>q a),ax b];exact Bz m (i+1) fun k c d=>h k (by omega) (by omega)
theorem Om {s:Sv}{m:Int}{i:List M}{who:List Int}(d:Fit s i m who):jQ who s.roles=0:=by
 unfold jQ;rw[ax (fun q=>q d.len)];refine Bz _ _ fun k _ l=> ?_;have c:k<who.length:=by omega
 have n:=d.len;have f:who[k]? =some (who[k]'c):=ay _;have e2:s.roles[k]? =some (s.roles[k]'(by omega)):=ay _;rw[bT,bT,f,e2];refine⟨d.mem k _ _ f e2,fun q=> ?_⟩;obtain⟨j,e⟩:=List.getElem?_of_mem q
 have b:j<k:=by
  have:=(aE.1 e).1;rw[eR]at this;omega
 rw[dH b]at e;have a:j<who.length:=by omega
 have g:who[j]? =some (who[j]'a):=ay _;exact List.pairwise_iff_getElem.1 d.nd j k a c b (aM (g.symm.trans (e.trans rfl)))
theorem Ez {c:Co}{n day days:Int}{a:An}(h:Fnd c n day days a):(ia c (-1) (jX c n) a.day a.min a.who).2=0:=by
 obtain⟨s,g⟩:=au (c.svs.getD n.toNat sv0);obtain⟨y,⟨o,z,A,B⟩,d,_,⟨C,p⟩,e⟩:=h;rw[g]at d e;have v:=fb d.meas;have b:=fun r (f:r∈a.who)=>DD d e f
 have j:0<=a.min-s.bef/\a.min-s.bef+jJ s<=1440:=by
  have u:=e.len;have w:=d.r1;match hw:a.who with
  |[]=>rw[hw,fF]at u;omega
  |r::l=>
   have:=(uV _ _ _).1 (b r (by rw[hw];exact bf));exact⟨this.1,this.2.1⟩
 have t:=rz (n:=day) (m:=146097) (by rw[o];decide)
 have x: ¬(isN a.day 146097=false\/isN a.min 1440=false):=by
  unfold jJ at j;rintro(q|q)<;>simp[isN]at q<;>omega
 have k:jX c n=⟨1,10,0,0,n,s.bef,s.aft,s.len,0,0,[]⟩:=by unfold jX;rw[g]
 have i:a.min-s.bef+jJ s=a.min+s.len+s.aft:=by unfold jJ;omega
 rw[i]at j;unfold ia;rw[k];rw[ax x,ax (by show¬(a.min-s.bef<0\/1440<a.min+s.len+s.aft);omega),ax (by rw[g];exact fun q=>q (Om e)),ax];simp only[List.any_eq_true,not_exists,not_and];intro r f q;have:=b r f;rw[i]at this;rw[this]at q;cases q
theorem He {c:Co}{n day days:Int}{a:An}(h:Fnd c n day days a)(b:c.aps.length<30):(la c n a.day a.min a.who).1.err=0:=by
 unfold la;rw[ax (by rw[h.nn];decide),ax (by omega),ax (fun q=>q (Ez h))];rfl
theorem Hf {c:Co}{n day days:Int}{a:An}(h:Fnd c n day days a){p:Ap}(k:PV c n a.day a.min a.who p):(fQ (la c n a.day a.min a.who).2 n day days).1.err=11\/((fQ (la c n a.day a.min a.who).2 n day days).1.err=0/\ ¬((fQ (la c n a.day a.min a.who).2 n day days).1.day=a.day/\(fQ (la c n a.day a.min a.who).2 n day days).1.min=a.min/\(fQ (la c n a.day a.min a.who).2 n day days).1.who=a.who)):=by
 rw[k.is];by_cases e:(fQ {c with aps:=c.aps++[p]} n day days).1.err=0
 ·refine .inr ⟨e,fun⟨z,e2,A⟩=> ?_⟩;obtain⟨f1,f2,f3,f4,f5,f6⟩:=Fu e;rw[z,e2,A]at f6
  obtain⟨r,x⟩: ∃r,r∈a.who:=by
   have q:=k.wl;match hq:a.who with
   |[]=>rw[hq]at q;simp at q
   |r::l=>exact⟨r,bf⟩
  have g:=DD (c:={c with aps:=c.aps++[p]}) f3 f6 x;obtain⟨C,D,v,w⟩:=k.at_;have m:=k.meas;obtain⟨s,o⟩:=au (c.svs.getD n.toNat sv0);have B:jX c n=⟨1,10,0,0,n,s.bef,s.aft,s.len,0,0,[]⟩:=(by unfold jX;rw[o]);rw[B]at m v w;dsimp only at m v w g;rw[o]at g;have P:jJ s=s.bef+s.len+s.aft:=rfl;have O:=(uV _ _ _).1 g;have t:=Dv g (i:=(a.min-s.bef).toNat) (by omega) (by omega);unfold fS rT at t;rw[br,br]at t;have gt:=xH r a.day (-1) (b:=p) (by rw[k.st.1];decide) C (by rw[D];exact x) (c.aps++[p]) 0 c.aps.length (by simp) (by omega)
  have E:inl (kX r a.day (-1) (c.aps++[p]) 0) (a.min-s.bef).toNat=true:=by
   unfold inl;refine List.any_eq_true.2 ⟨_,gt,?_⟩;simp only[br,bz];omega
  have u:=t.1.2;dsimp only at u;rw[E]at u;cases u
 ·refine .inl ?_;obtain⟨s,o⟩:=au (c.svs.getD n.toNat sv0)
  have q: ∀d∈lT {c with aps:=c.aps++[p]} s day days.toNat 0,fo s d.length=0:=fun d F=>by
   obtain⟨j,G⟩:=List.getElem?_of_mem F;rw[(DC _ _ _ _ _ _ _ G).2,Au,<-o];exact h.wr
  have I:=zC q;unfold fQ at e⊢;dsimp only at e⊢;rw[o]at e⊢;obtain⟨y,L,M,N⟩:=h.dd;have J: ¬isN n c.svs.length=false:=(by rw[h.nn];decide)
  have K: ¬(isN day 146097=false\/days<1\/30<days\/146097<day+days):=by
   rw[y];simp;omega
  rw[ax J,ax K]at e⊢;by_cases f:(fy s (lT {c with aps:=c.aps++[p]} s day days.toNat 0)).err≠0
  ·rw[aB f];show(fy s (lT {c with aps:=c.aps++[p]} s day days.toNat 0)).err=11;have H: ¬30<(lT {c with aps:=c.aps++[p]} s day days.toNat 0).length:=(by rw[Ft];omega);unfold fy at f⊢;rw[ax H,ax (by rw[I];simp)]at f⊢;split at f
   ·exact absurd rfl f
   ·rfl
  ·rw[ax f]at e;exact absurd rfl e
def cH (n x y:Int)(who:List Int):Cm:=⟨5,n,0,0,[],[],sv0,x,y,who⟩
def cT (t:Int):Cm:=⟨9,0,0,t,[],[],sv0,0,0,[]⟩
def cX (k n:Int):Cm:=⟨k,n,0,0,[],[],sv0,0,0,[]⟩
theorem pQ (l:List Cm):(playP dk0 l).1.length=l.length:=by rw[(rD l).1,rX]
theorem Ki (l:List Cm):(playP dk0 l).2.aps=(ib co0 l).2.aps:=congrArg Co.aps (rD l).2.1
theorem xJ (l b:List Cm){j:Nat}{a:An}(h:(ib (ib co0 l).2 b).1[j]? =some a):(playP dk0 (l++b)).1[l.length+j]? =some a:=by
 rw[(rD _).1,uU,df (by rw[rX];omega),rX,Nat.add_sub_cancel_left];exact h
theorem Md (l a:List Cm):(playP dk0 (l++a)).2.aps=(ib (ib co0 l).2 a).2.aps:=by rw[Ki,uU]
def sv1 (len:Int):Sv:=⟨len,0,0,[[0]]⟩
def c1 (L:List Ru)(len:Int)(aps:List Ap):Co:=⟨L,[[97]],[sv1 len],aps⟩
def cR (t:List UInt8):Cm:=⟨1,0,0,0,t,[],sv0,0,0,[]⟩
def cS (s:Sv):Cm:=⟨3,0,0,0,[],[],s,0,0,[]⟩
def cF (n day days:Int):Cm:=⟨4,n,day,days,[],[],sv0,0,0,[]⟩
theorem uW (c:Co)(n day days:Int):(fQ c n day days).2=c:=by
 unfold fQ;split
 ·rfl
 split
 ·rfl
 split<;>rfl
theorem Hh (l:List Cm)(n day days:Int): ∃a:An,(playP dk0 (l++[cF n day days])).1[l.length]? =some a/\((a.err=0/\(playP dk0 (l++[cF n day days])).2.aps.length<30)-> ∃h b:An,(playP dk0 (l++[cF n day days,cH n a.day a.min a.who,cF n day days])).1[l.length+1]? =some h/\(playP dk0 (l++[cF n day days,cH n a.day a.min a.who,cF n day days])).1[l.length+2]? =some b/\(playP dk0 (l++[cF n day days,cH n a.day a.min a.who,cF n day days])).1[l.length]? =some a/\h.err=0/\(b.err=11\/(b.err=0/\ ¬(b.day=a.day/\b.min=a.min/\b.who=a.who)))):=by
 refine⟨(fQ (ib co0 l).2 n day days).1,xJ l [cF n day days] (j:=0) rfl,fun⟨o,d⟩=> ?_⟩;have r:=Fq l co0 PU
 have m:(playP dk0 (l++[cF n day days])).2.aps=(ib co0 l).2.aps:=by
  rw[Md];show(fQ (ib co0 l).2 n day days).2.aps=_;rw[uW]
 rw[m]at d;have f:=fun(k:List Cm) (j:Nat) (a:An)=>xJ l k (j:=j) (a:=a);generalize (ib co0 l).2=c at*;have g:=Fu o;have i:=He g d;obtain⟨p,q⟩:=Ok r i
 have e:(ib c [cF n day days,cH n (fQ c n day days).1.day (fQ c n day days).1.min (fQ c n day days).1.who,cF n day days]).1=[(fQ c n day days).1,(la c n (fQ c n day days).1.day (fQ c n day days).1.min (fQ c n day days).1.who).1,(fQ (la c n (fQ c n day days).1.day (fQ c n day days).1.min (fQ c n day days).1.who).2 n day days).1]:=by
  show [(fQ c n day days).1,(la (fQ c n day days).2 n _ _ _).1,(fQ (la (fQ c n day days).2 n _ _ _).2 n day days).1]=_;rw[uW];rfl
 exact⟨_,_,f _ 1 _ (by rw[e];rfl),f _ 2 _ (by rw[e];rfl),f _ 0 _ (by rw[e];rfl),i,Hf g q⟩
theorem PW {w:World}{sl:Value}{who:List Int}(h:dT w sl who)(a: ∀p n k,sl= .slice p n k->n<=k)(n x y:Int):lL w (cH n x y who) (af) sl:=⟨Aq,h,dL _,dL _,a⟩
theorem vT {w b:World}{c d:List (Cm×Value×Value)}(f:DoB w.heap.size w c)(g: ∀q∈d,DoB w.heap.size w [q])(e:aq w b):DoB b.heap.size b (c++d):=fun q a=>by
 have h:Rob (fun k=>k<w.heap.size) (fun u=>lL u q.1 q.2.1 q.2.2) w:=(bN.1 a).elim (f q) fun a=>g q a q (bL.2 rfl);exact(h.below e).move (aD _) (fun _ _ _=>rfl) fun k _ i=>aU i e.size
theorem DE {w:World}{c:Cm}{b sl:Value}(h: ∀u,(∀k,k<w.heap.size->u.heap[k]? =w.heap[k]?)->lL u c b sl):DoB w.heap.size w [(c,b,sl)]:=fun q d u _ ha=>by
 cases bL.1 d;exact h u fun k a=>ha k a a
section
open Go.ChangeShapes Go.WideShapes Go.ChangeAt Go.WideMaps Go.WideElems Go.Joins
abbrev qv:List (String×DataW Unit):=Rows.deskFoundRow.laid
def MA:String:=(Rows.deskFoundRow.laid.headD default).1
def PX:String:=(Rows.deskFoundRow.laid.getD 1 default).1
def Rd:String:=(Rows.deskFoundRow.laid.getD 2 default).1
def tG:List Int:=Lib.deBruijn64tab.map fun(n:Nat)=>(n:Int)
theorem own3:ownKnob prog.godebug=none:=by kernel_rfl
theorem Kj:prog.globalNamed MA=some 3:=by kernel_rfl
theorem PY:(prog.globals[3]?).map (·.type)=some 283:=by kernel_rfl
theorem MB:prog.globalNamed PX=some 0:=by kernel_rfl
theorem QE:(prog.globals[0]?).map (·.type)=some 230:=by kernel_rfl
theorem MC:prog.globalNamed Rd=some 2:=by kernel_rfl
theorem QF:(prog.globals[2]?).map (·.type)=some 282:=by kernel_rfl
theorem cI3:prog.cellsOf 3=1:=by kernel_rfl
theorem cB3:prog.cellsOf 5=1:=by kernel_rfl
theorem cT3:prog.cellsOf 283=64:=by kernel_rfl
theorem cL3:prog.cellsOf 230=12:=by kernel_rfl
theorem cS3:prog.cellsOf 9=1:=by kernel_rfl
theorem cD3:prog.cellsOf 282=7:=by kernel_rfl
theorem BA (os:Os)(a:Array Value):laidMetH prog qv ((World.doorLaid prog 400 os).forCall (fun _ _=>0) ⟨#[],a,[]⟩).memory:=
 laidMetH_of_parts3 (fuel:=8) (laidMet_of_run' 8 (by kernel_rfl) (by kernel_rfl)) (by kernel_rfl) (by kernel_rfl)
theorem Kk {H:Type}{j:TypeId×Value->H}{P:Program}{w:World}{f:Nat}{sp:Nat->Bool}{held:Bool}{t e:TypeId}{n:Nat}{g:List Value}{zs:List (List UInt8)}{p:List MemPlace}(G:P.underlying t=some (.array n e))(D:P.underlying e=some .string)(k:P.cellsOf e=1)(m:P.cellsOf t=n):
  ∀c,DataW.trod j P w f sp held c t g=some (.agg (zs.map fun z=> .lit (.string z)),p)-> ∀(i:Nat) (z:List UInt8),zs[i]? =some z->g[i]? =some (.string ⟨z.toArray⟩)
 |0,h,_,_,_=>by simp[DataW.trod]at h
 |c+1,h,i,z,J=>by
  simp only[DataW.trod,G,k,m,Nat.mul_one]at h;split at h
  ·obtain⟨xs,u,I⟩:=eN.1 h;have v:xs.map (fun x=>x.1)=zs.map fun z=>(DataW.lit (.string z):DataW H):=(by simpa using congrArg Prod.fst I);have r:(xs.map fun x=>x.1)[i]? =some (DataW.lit (.string z):DataW H):=(by rw[v,bj,J];rfl);rw[bj]at r;obtain⟨x,d,q⟩:=eN.1 r
   have o:i<n:=by
    have a:=(aE.1 d).1;have b:=Lib.mapM_length u;simp at b;omega
   obtain⟨b,B,E⟩:=Lib.mapM_at u i i (by simp[o]);obtain⟨s,C,rfl,_⟩:=DataW.trod_string D E;rw[B]at d;obtain rfl:=aM d;have F:s.data.toList=z:=(by simpa using q);have y:=congrArg (fun l:List Value=>l[0]?) C;have A:g[i]? =some (.string s):=(by simpa[jA,List.getElem?_drop] using y);rw[A,<-F]
  ·cases h
theorem BF {W:World}(h:laidMetH prog qv W):Tab W/\gZ W/\qH W:=by
 rw[MakeChecks.laidMetH_plain _ _ _ (by kernel_rfl)]at h;obtain⟨H,⟨B,t1,s,b,E,I,g,m,p,d,⟨C,t2,u,c,F,J,k,n,q,e,⟨D,L,v,a,G,K,l,o,r,f,_,_⟩,_⟩,_⟩,_⟩:=h;obtain rfl:=aM (Kj.symm.trans g);obtain rfl:=aM (PY.symm.trans m);obtain rfl:=aM (MB.symm.trans k);obtain rfl:=aM (QE.symm.trans n);obtain rfl:=aM (MC.symm.trans l);obtain rfl:=aM (QF.symm.trans o);refine⟨?_,?_,?_⟩
 ·have w:=Lib.cells_of_tab (zs:=tG) underlying283 underlying5 cB3 cT3 d
  have t:Lib.TabIs prog W MA .u8 tG:=by
   unfold Lib.TabIs;rw[<-w];exact p
  intro i hi;have:=t.cell Kj i (by simpa[tG,Lib.deBruijn64tab] using hi);rw[this];have z:i<Lib.deBruijn64tab.length:=(by simpa[Lib.deBruijn64tab] using hi);simp[tG,List.getD,z]
 ·have e2:=Lib.cells_of_tab (zs:=tab) underlying230 underlying3 cI3 cL3 e
  have t:Lib.TabIs prog W PX .i64 tab:=by
   unfold Lib.TabIs;rw[<-e2];exact q
  intro i hi;exact t.cell MB i (by simpa[tab] using hi)
 ·intro j y
  have A:fO[j]? =some (fO.getD j []):=by
   rw[bT,ay (by exact y)];rfl
  have x:=Kk (zs:=fO) underlying282 underlying9 cS3 cD3 a f j _ A;have:=World.var?_cell MC r j;rw[this];simpa using x
end
section
open Go.ChangeShapes Go.WideShapes Go.ChangeAt Go.WideMaps Go.WideElems Go.Joins
theorem ws {W:World}(h:laidMetH prog qv W):Tbs W.heap.size W:=fun e d=>by
 obtain⟨a,b,c⟩:=BF h;exact⟨fun i hi=>(d.cell (cg (b i hi))).trans (b i hi),fun i hi=>(d.cell (cg (c i hi))).trans (c i hi),fun i hi=>(d.cell (cg (a i hi))).trans (a i hi)⟩
end
end Go.Proofs.YtlkehieagdkgiaaGreatDoor
