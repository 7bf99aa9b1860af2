/- Texts of the proof. -/
import Derived.Test.YtpdoienkhgnceaaGreatDoorPt03
import Derived.Lib.LaidTab
import Derived.Test.YtpdoienkhgnceaaGreatDoorPt02
set_option maxRecDepth 100000
set_option maxHeartbeats 8000000
namespace Go.Proofs.YtpdoienkhgnceaaGreatDoor
open Go.Proofs.Tryz Go.RowKit Lx Vx Mx Msk
def tab:List Int:=[31,28,31,30,31,30,31,31,30,31,30,31]
def fL (w:World):Prop:= ∀i:Nat,i<12->w.cell? (ae 1 i)=some (ag (tab.getD i 0))
theorem Df (y:Int)(w:World)(j:0<=y)(k:y<=9223372036854775807):
  Calls prog 199 #[ag y] w fun e i=>e= .returned (.bool (Cal.lpB y))/\i=w:=by
 by_cases c:y%4=0
 ·by_cases a:y%100=0
  ·by_cases b:y%400=0
   ·have e:Cal.lpB y=true:=(by unfold Cal.lpB;exact bc ⟨c,.inr b⟩);rw[e];have d:(y%4==0)=true:=(by simp[c]);have f:(y%100 !=0)=false:=(by simp[a]);have g:(y%400==0)=true:=(by simp[b]);go_enter func199,ntmps199;go_wp2;go_ret;exact⟨rfl,rfl⟩
   ·have e:Cal.lpB y=false:=(by unfold Cal.lpB;exact bo (fun h=>by omega));rw[e];have d:(y%4==0)=true:=(by simp[c]);have f:(y%100 !=0)=false:=(by simp[a]);have g:(y%400==0)=false:=(by simp[b]);go_enter func199,ntmps199;go_wp2;go_ret;exact⟨rfl,rfl⟩
  ·have e:Cal.lpB y=true:=(by unfold Cal.lpB;exact bc ⟨c,.inl a⟩);rw[e];have d:(y%4==0)=true:=(by simp[c]);have f:(y%100 !=0)=true:=(by simp[a]);go_enter func199,ntmps199;go_wp2;go_ret;exact⟨rfl,rfl⟩
 ·have e:Cal.lpB y=false:=by unfold Cal.lpB;exact bo (fun h=>c h.1)
  rw[e];have d:(y%4==0)=false:=(by simp[c]);go_enter func199,ntmps199;go_wp2;go_ret;exact⟨rfl,rfl⟩
theorem Ho (y m:Int)(w:World)(h:y<2000\/2399<y\/m<1\/12<m):
  Calls prog 166 #[ag y,ag m] w fun e f=>e= .returned (ag 0)/\f=w:=by
 by_cases a:y<2000
 ·go_enter func166,ntmps166;go_wp2;go_ret;exact⟨rfl,rfl⟩
 ·by_cases b:2399<y
  ·go_enter func166,ntmps166;go_wp2;go_ret;exact⟨rfl,rfl⟩
  ·by_cases c:m<1
   ·go_enter func166,ntmps166;go_wp2;go_ret;exact⟨rfl,rfl⟩
   ·have d:12<m:=(by omega);go_enter func166,ntmps166;go_wp2;go_ret;exact⟨rfl,rfl⟩
theorem Hp (y:Int)(w:World)(a:2000<=y)(b:y<=2399)(f:w.cell? (ae 1 1)=some (ag 28)):
  Calls prog 166 #[ag y,ag 2] w fun e d=>e= .returned (ag (28+Cal.lp y))/\d=w:=by
 have c:=Cal.TZ y;cases hb:Cal.lpB y
 ·rw[hb]at c;simp at c;rw[c];go_enter func166,ntmps166;go_wp2_with(go_at_call 199;refine(Df _ _ (by omega) (by omega)).mono ?_;rw[hb];rintro e d ⟨rfl,rfl⟩)
  go_ret;exact⟨rfl,rfl⟩
 ·rw[hb]at c;simp at c;rw[c];go_enter func166,ntmps166;go_wp2_with(go_at_call 199;refine(Df _ _ (by omega) (by omega)).mono ?_;rw[hb];rintro e d ⟨rfl,rfl⟩)
  go_ret;exact⟨rfl,rfl⟩
theorem JQ (y m:Int)(w:World)(g:fL w)(a:2000<=y)(b:y<=2399)(c:1<=m)(d:m<=12):
  Calls prog 166 #[ag y,ag m] w fun e i=>e= .returned (ag (Cal.dim y m))/\i=w:=by
 have h:m=1\/m=2\/m=3\/m=4\/m=5\/m=6\/m=7\/m=8\/m=9\/m=10\/m=11\/m=12:=by omega
 have e:Cal.dim y m=if m=2 then 28+Cal.lp y else if m=4\/m=6\/m=9\/m=11 then 30 else 31:=by unfold Cal.dim;rw[aw (by omega)]
 rw[e];rcases h with rfl|h
 ·have f:=g 0 (by decide);simp[tab]at f;rw[aw (by decide),aw (by decide)];go_enter func166,ntmps166;go_wp2;go_ret;exact⟨rfl,rfl⟩
 rcases h with rfl|h
 ·have f:=g 1 (by decide);simp[tab]at f;exact Hp y w a b f
 rcases h with rfl|h
 ·have f:=g 2 (by decide);simp[tab]at f;rw[aw (by decide),aw (by decide)];go_enter func166,ntmps166;go_wp2;go_ret;exact⟨rfl,rfl⟩
 rcases h with rfl|h
 ·have f:=g 3 (by decide);simp[tab]at f;rw[aw (by decide),ax (by decide)];go_enter func166,ntmps166;go_wp2;go_ret;exact⟨rfl,rfl⟩
 rcases h with rfl|h
 ·have f:=g 4 (by decide);simp[tab]at f;rw[aw (by decide),aw (by decide)];go_enter func166,ntmps166;go_wp2;go_ret;exact⟨rfl,rfl⟩
 rcases h with rfl|h
 ·have f:=g 5 (by decide);simp[tab]at f;rw[aw (by decide),ax (by decide)];go_enter func166,ntmps166;go_wp2;go_ret;exact⟨rfl,rfl⟩
 rcases h with rfl|h
 ·have f:=g 6 (by decide);simp[tab]at f;rw[aw (by decide),aw (by decide)];go_enter func166,ntmps166;go_wp2;go_ret;exact⟨rfl,rfl⟩
 rcases h with rfl|h
 ·have f:=g 7 (by decide);simp[tab]at f;rw[aw (by decide),aw (by decide)];go_enter func166,ntmps166;go_wp2;go_ret;exact⟨rfl,rfl⟩
 rcases h with rfl|h
 ·have f:=g 8 (by decide);simp[tab]at f;rw[aw (by decide),ax (by decide)];go_enter func166,ntmps166;go_wp2;go_ret;exact⟨rfl,rfl⟩
 rcases h with rfl|h
 ·have f:=g 9 (by decide);simp[tab]at f;rw[aw (by decide),aw (by decide)];go_enter func166,ntmps166;go_wp2;go_ret;exact⟨rfl,rfl⟩
 rcases h with rfl|h
 ·have f:=g 10 (by decide);simp[tab]at f;rw[aw (by decide),ax (by decide)];go_enter func166,ntmps166;go_wp2;go_ret;exact⟨rfl,rfl⟩
 subst h;have f:=g 11 (by decide);simp[tab]at f;rw[aw (by decide),aw (by decide)];go_enter func166,ntmps166;go_wp2;go_ret;exact⟨rfl,rfl⟩
theorem tI (y m:Int)(w:World)(a:fL w):
  Calls prog 166 #[ag y,ag m] w fun e b=>e= .returned (ag (Cal.dim y m))/\b=w:=by
 by_cases h:y<2000\/2399<y\/m<1\/12<m
 ·rw[Cal.OU y m h];exact Ho y m w h
 ·exact JQ y m w a (by omega) (by omega) (by omega) (by omega)
theorem yQ (y:Int)(w:World)(a:2000<=y)(b:y<=2400):
  Calls prog 167 #[ag y] w fun e c=>e= .returned (ag (Cal.ys y))/\c=w:=by
 unfold Cal.ys;go_enter func167,ntmps167;go_wp2;go_ret;exact⟨rfl,rfl⟩
theorem vX (y m:Int)(w:World)(l:fL w)(a:2000<=y)(b:y<=2399)(c:1<=m)(d:m<=13):
  Calls prog 168 #[ag y,ag m] w fun e g=>e= .returned (ag (Cal.cum y m))/\g=w:=by
 have H:T4 (fL w):=l;go_enter func168,ntmps168;go_wp2;go_loop [5,6] (fun t i=> ∃k:Int,1<=k/\k<=m/\i=ag k/\t=ag (Cal.cum y k)) (fun _ i=>(13-intOf i).toNat);case atStart=>exact⟨1,by omega,by omega,rfl,rfl⟩
 case round=>
  obtain⟨k,f,n,rfl,rfl⟩:=hrel;have q:=Cal.QW y k f (by omega);have r:=Cal.QU y k;by_cases p:k<m
  ·have j:T4 (Cal.cum y (k+1)=Cal.cum y k+Cal.dim y k):=Cal.De y k a b f (by omega);go_wp2_with(go_at_call 166;refine(tI _ _ _ H.o).mono ?_;rintro e g ⟨rfl,rfl⟩)
   go_round;case rel=>exact⟨k+1,by omega,by omega,rfl,by rw[j.o]⟩
   case measure=>simp[intOf];omega
  ·have e:k=m:=(by omega);subst e;go_wp2;go_ret;exact⟨rfl,rfl⟩
theorem fL.below {w a:World}(h:fL w)(b:ao w a):fL a:=fun i hi=>cell_later b (h i hi)
theorem fL.alloc {w:World}(h:fL w)(o:Obj):fL (w.alloc o):=h.below (am _ o)
theorem fL.drew {w:World}(h:fL w):fL w.drew:=fun i hi=>h i hi
theorem Hq (y m d:Int)(w:World)(g:fL w)(a:1<=d)(b:d<=Cal.dim y m):
  Calls prog 120 #[.agg #[ag y,ag m,ag d]] w fun e p=>e= .returned (.tuple #[ag (Cal.num y m d),ag 0])/\ao w p:=by
 have H:T4 (fL w):=g;clear g;obtain⟨r1,n,j,r4⟩:=Cal.AQ y m (by omega);have l:=Cal.QU y m;have u:=Cal.Ou y r1 (by omega);have r:=Cal.QW y m j (by omega);have s:decide (d<1)=false:=by simp;omega
 have t:decide (Cal.dim y m<d)=false:=by simp;omega
 go_enter func120,ntmps120;go_wp2;go_quiet ((go_at_call 166;exact fB (tI _ _ _ (H.o.alloc _))));go_wp2;generalize c:(w.alloc (.cells #[ag y,ag m,ag d] 208)).drewN nq=f;have c0:f.cell? (ae w.heap.size 0)=some (ag y):=by rw[<-c];simp
 have c1:f.cell? (ae w.heap.size 1)=some (ag m):=by rw[<-c];simp
 have q:f.cell? (ae w.heap.size 2)=some (ag d):=by rw[<-c];simp
 have i:ao w f:=by rw[<-c];exact du (am _ _) _
 have k:T4 (fL f):=H.o.below i;clear c H;go_quiet ((first|(go_at_call 167;exact fB (yQ y _ r1 (by omega)))|(go_at_call 168;exact fB (vX y m _ k.o r1 n j (by omega)))));go_wp2;go_ret2;exact⟨rfl,du i _⟩
theorem JR (y m d:Int)(w:World)(b:fL w)(a:d<1\/Cal.dim y m<d):
  Calls prog 120 #[.agg #[ag y,ag m,ag d]] w fun e f=>e= .returned (.tuple #[ag 0,ag 3])/\ao w f:=by
 have H:T4 (fL w):=b;clear b;by_cases g:d<1
 ·have c:decide (d<1)=true:=by simp;omega
  clear a;go_enter func120,ntmps120;go_wp2;go_quiet (fail);go_wp2;go_ret2;exact⟨rfl,du (am _ _) _⟩
 ·have c:decide (d<1)=false:=by simp;omega
  have i:decide (Cal.dim y m<d)=true:=(by simp;omega);clear a;go_enter func120,ntmps120;go_wp2;go_quiet ((go_at_call 166;exact fB (tI _ _ _ (H.o.alloc _))));go_wp2;go_ret2;exact⟨rfl,du (am _ _) _⟩
theorem JS (s:ByteArray)(l:List UInt8)(r:s.data.toList=l)(z:l.length<=9223372036854775806)(f:ir l kM=true)(w:World):
  Calls prog 68 #[.string s] w fun e c=>e= .returned (tH (ng l))/\ao w c:=by
 have A:s.size=l.length:=by rw[<-r,Lib.size_eq]
 obtain⟨a,_⟩:=rq f;have q:5<=l.length:=a;have v:(5:Int)<=(l.length:Int):=by omega
 have t:(2:Int)<=(l.length:Int):=by omega
 have u:(3:Int)<=(l.length:Int):=by omega
 obtain⟨x,j⟩:=lJ f 3 2 (by decide) (by decide);obtain⟨y,k⟩:=lJ f 0 2 (by decide) (by decide);have c1:=fun w=>oc (s.extract 3 5) ((l.drop 3).take 2) (by rw[Lib.extract_data,r]) (by omega) j w;have i:=fun w=>oc (s.extract 0 2) ((l.drop 0).take 2) (by rw[Lib.extract_data,r]) (by omega) k w;have b1:=qF _ j 2 (by omega) (by omega);have b2:=qF _ k 2 (by omega) (by omega);rw[da (by omega)]at b1 b2;have g:T4 (ng l=if 59<valL ((l.drop 3).take 2)\/1440<60*valL ((l.drop 0).take 2)+valL ((l.drop 3).take 2) then bad 3 else⟨4,60*valL ((l.drop 0).take 2)+valL ((l.drop 3).take 2),[],5,0⟩):=rfl;generalize valL ((l.drop 3).take 2)=m at*;generalize valL ((l.drop 0).take 2)=h at*;clear x j y k a f;have d:ao w (w.alloc (.cells #[ag 0,ag 0,ag 0,.string ⟨#[]⟩] 114)):=am _ _;have p:ao w (w.alloc (.cells #[ag 4,ag (60*h+m),ag 0,.string ⟨#[]⟩] 114)):=am _ _;by_cases n:59<m
 ·go_enter func68,ntmps68
  go_wp2_with(first
   |(go_at_call 121;have _t:=c1;refine(c1 _).mono ?_;rintro e c ⟨rfl,rfl⟩;clear _t c1)
   |(go_at_call 121;refine(i _).mono ?_;rintro e c ⟨rfl,rfl⟩))
  exact gg (by rw[results68,results70]) w.heap.size (bad 3) rfl rfl rfl rfl (aB w _) ⟨by rw[g.o,ax (.inl n)],d⟩
 ·by_cases b:1440<60*h+m
  ·go_enter func68,ntmps68
   go_wp2_with(first
    |(go_at_call 121;have _t:=c1;refine(c1 _).mono ?_;rintro e c ⟨rfl,rfl⟩;clear _t c1)
    |(go_at_call 121;refine(i _).mono ?_;rintro e c ⟨rfl,rfl⟩))
   exact gg (by rw[results68,results70]) w.heap.size (bad 3) rfl rfl rfl rfl (aB w _) ⟨by rw[g.o,ax (.inr b)],d⟩
  ·go_enter func68,ntmps68
   go_wp2_with(first
    |(go_at_call 121;have _t:=c1;refine(c1 _).mono ?_;rintro e c ⟨rfl,rfl⟩;clear _t c1)
    |(go_at_call 121;refine(i _).mono ?_;rintro e c ⟨rfl,rfl⟩))
   exact gg (by rw[results68,results70]) w.heap.size ⟨4,60*h+m,[],5,0⟩ rfl rfl rfl rfl (aB w _) ⟨by rw[g.o,aw (by omega)],p⟩
namespace Lx
theorem fy {e k:Ex}(h:k∈e.kids):SizeOf.sizeOf k<SizeOf.sizeOf e:=by
 have a:=List.sizeOf_lt_of_mem h;cases e;simp only[Ex.mk.sizeOf_spec]at*;omega
def hgt (e:Ex):Nat:=(e.kids.attach.map fun k=>hgt k.1).foldl max 0+1
 termination_by SizeOf.sizeOf e
 decreasing_by exact fy k.2
def hgtL (l:List Ex):Nat:=(l.map hgt).foldl max 0
theorem mr (e:Ex):hgt e=hgtL e.kids+1:=by
 rw[hgt,hgtL];show(List.map (hgt∘Subtype.val) e.kids.attach).foldl max 0+1=_;rw[<-iU,eY]
theorem J7 (l:List Nat): ∀a,l.foldl max a=max a (l.foldl max 0):=by
 induction l with
 |nil=>intro a;simp
 |cons b l c=>
  intro a;simp only[List.foldl_cons];rw[c (max a b),c (max 0 b)];omega
theorem xJ:hgtL []=0:=rfl
theorem mu (k:Ex)(l:List Ex):hgtL (k::l)=max (hgt k) (hgtL l):=by
 unfold hgtL;simp only[cQ,List.foldl_cons];rw[J7];omega
theorem J8 (l:List Ex)(k:Ex):hgtL (l++[k])=max (hgtL l) (hgt k):=by
 unfold hgtL;rw[dV,List.foldl_append];rfl
theorem lr {e k:Ex}(h:k∈e.kids):hgt k<hgt e:=by
 rw[mr e];generalize e.kids=l at*;induction l with
 |nil=>cases h
 |cons q l a=>
  rw[mu];rcases bv.1 h with rfl|h
  ·omega
  ·have:=a h;omega
theorem Gh (E:Nat): ∀(f m d:Nat) (e:Ex) (r:List Tk) (n:Nat) (y:Ex) (C:List Tk) (w:Nat),m<=8->(m=1\/m=3\/m=5->hgt e<=n)->goP E f m d e r n= .ok (y,C,w)->hgt y<=w/\n<=w
 |0,m,d,e,r,n,y,C,w,_,_,h=>(dc h).elim
 |f+1,m,d,e,r,n,y,C,w,L,A,h=>by
  have c:=Gh E f;have j: ∀(k a b:Int) (x:List UInt8),hgt ⟨k,a,b,x,[]⟩=1:=fun k a b x=>(by rw[mr];rfl)
  have one: ∀(k a b:Int) (x:List UInt8) (t:Ex),hgt ⟨k,a,b,x,[t]⟩=hgt t+1:=fun k a b x t=>by
   rw[mr];show hgtL [t]+1=_;rw[mu,xJ];omega
  have u: ∀(k a b:Int) (x:List UInt8) (s t:Ex),hgt ⟨k,a,b,x,[s,t]⟩=max (hgt s) (hgt t)+1:=fun k a b x s t=>by
   rw[mr];show hgtL [s,t]+1=_;rw[mu,mu,xJ];omega
  match m,L with
  |0,_=>
   rw[rX]at h;obtain⟨l,r1,q,i,g⟩:=bV h;have a:=c 2 _ _ _ _ _ _ _ (by omega) (by omega) i;have b:=c 1 _ _ _ _ _ _ _ (by omega) (fun _=>a.1) g;omega
  |1,_=>
   rw[rY]at h;have v:=A (by omega);split at h
   ·obtain⟨l,r1,q,i,g⟩:=bV h;obtain⟨z,D,B,o,p⟩:=bV g;have a:=c 2 _ _ _ _ _ _ _ (by omega) (by omega) i;cases dx o;have b:=c 1 _ _ _ _ _ _ _ (by omega) (fun _=>by rw[u];omega) p;omega
   ·split at h
    ·obtain⟨l,r1,q,i,g⟩:=bV h;obtain⟨z,D,B,o,p⟩:=bV g;have a:=c 2 _ _ _ _ _ _ _ (by omega) (by omega) i;cases dx o;have b:=c 1 _ _ _ _ _ _ _ (by omega) (fun _=>by rw[u];omega) p;omega
    ·cases h;omega
  |2,_=>
   rw[rZ]at h;obtain⟨l,r1,q,i,g⟩:=bV h;have a:=c 4 _ _ _ _ _ _ _ (by omega) (by omega) i;have b:=c 3 _ _ _ _ _ _ _ (by omega) (fun _=>a.1) g;omega
  |3,_=>
   rw[r6]at h;have v:=A (by omega);split at h
   ·obtain⟨l,r1,q,i,g⟩:=bV h;obtain⟨z,D,B,o,p⟩:=bV g;have a:=c 4 _ _ _ _ _ _ _ (by omega) (by omega) i;cases dx o;have b:=c 3 _ _ _ _ _ _ _ (by omega) (fun _=>by rw[u];omega) p;omega
   ·cases h;omega
  |4,_=>
   rw[r7]at h;obtain⟨l,r1,q,i,g⟩:=bV h;have a:=c 6 _ _ _ _ _ _ _ (by omega) (by omega) i;have b:=c 5 _ _ _ _ _ _ _ (by omega) (fun _=>a.1) g;omega
  |5,_=>
   rw[r8]at h;have v:=A (by omega);split at h
   ·split at h
    ·exact(dc h).elim
    ·split at h
     ·exact(dc h).elim
     ·obtain⟨z,D,B,o,p⟩:=bV h;cases dx o;have b:=c 5 _ _ _ _ _ _ _ (by omega) (fun _=>by rw[one];omega) p;omega
   ·cases h;omega
  |6,_=>
   rw[r9]at h;by_cases c0:40<d
   ·rw[ax c0]at h;exact(dc h).elim
   rw[aw c0]at h;by_cases c1:isT g7 r=true
   ·rw[ax c1]at h;obtain⟨l,r1,q,i,g⟩:=bV h;have a:=c 0 _ _ _ _ _ _ _ (by omega) (by omega) i;split at g
    ·cases g;omega
    ·exact(dc g).elim
   rw[aw c1]at h;by_cases F:isT fw r=true
   ·rw[ax F]at h;cases dx h;rw[j];omega
   rw[aw F]at h;by_cases G:isT eW r=true
   ·rw[ax G]at h;cases dx h;rw[j];omega
   rw[aw G]at h;by_cases H:isT eX r=true
   ·rw[ax H]at h;exact c 7 _ _ _ _ _ _ _ (by omega) (by omega) h
   rw[aw H]at h;by_cases I:isT fG r=true
   ·rw[ax I]at h;split at h
    ·exact(dc h).elim
    split at h
    ·split at h
     ·exact(dc h).elim
     split at h
     ·exact(dc h).elim
     exact c 8 _ _ _ _ _ _ _ (by omega) (by omega) h
    ·exact c 8 _ _ _ _ _ _ _ (by omega) (by omega) h
   rw[aw I]at h;by_cases J:kindP r=1
   ·rw[ax J]at h;cases dx h;rw[j];omega
   rw[aw J]at h;by_cases K:kindP r≠4
   ·rw[ax K]at h;exact(dc h).elim
   rw[aw K]at h;split at h
   ·split at h
    ·exact(dc h).elim
    split at h
    ·exact(dc h).elim
    cases dx h;rw[j];omega
   ·exact(dc h).elim
  |7,_=>
   rw[sa]at h;split at h
   ·exact(dc h).elim
   ·split at h
    ·exact c 7 _ _ _ _ _ _ _ (by omega) (by omega) h
    ·exact c 8 _ _ _ _ _ _ _ (by omega) (by omega) h
  |8,_=>
   rw[sb]at h;split at h
   ·obtain⟨l,r1,q,i,g⟩:=bV h;cases dx g;have a:=c 4 _ _ _ _ _ _ _ (by omega) (by omega) i;rw[one];omega
   ·exact(dc h).elim
theorem QZ {E d:Nat}{e:Ex}{r:List Tk}{n:Nat}{a:Ex}{c:List Tk}{b:Nat}(h:rd E 0 d e r n= .ok (a,c,b)):hgt a<=b:=(Gh E _ 0 d e r n a c b (by omega) (by omega) h).1
abbrev Ru:=List UInt8×Ex
def kA (E:Nat)(r:List Tk):Except (Int×Nat) (Ru×List Tk):=
 if kindP r≠1 then .error (2,atP E r)
 else if isT wIs r.tail then
  match rd E 0 1 ex0 r.tail.tail 0 with
  | .error q=> .error q
  | .ok (e,q,_)=>if 40<hgt e then .error (4,atP E q) else if isT rW q then .ok ((textP r,e),q.tail) else .error (2,atP E q)
 else .error (2,atP E r.tail)
def fH (E:Nat):Nat->List Ru->List Tk->Except (Int×Nat) (List Ru)
 |0,a,_=> .ok a
 |f+1,a,r=>
  if r.length=0 then .ok a
  else if isT la r then
   if a.length=40 then .error (5,atP E r.tail)
   else match kA E r.tail with
    | .error q=> .error q
    | .ok (u,q)=>fH E f (a++[u]) q
  else .error (2,atP E r)
abbrev Way (E:Nat->Nat->Bool)(i k:Nat):Prop:=Relation.TransGen (fun a b=>E a b=true) i k
def wars (E:Nat->Nat->Bool):Nat->Nat->Nat->Bool
 |0,i,k=>E i k
 |m+1,i,k=>wars E m i k||(wars E m i m&&wars E m m k)
theorem se {E:Nat->Nat->Bool}{m i k:Nat}(h:wars E m i k=true): ∀d,wars E (m+d) i k=true
 |0=>h
 |d+1=>by
  show wars E ((m+d)+1) i k=true;simp only[wars,se h d,Bool.true_or]
theorem Dw {E:Nat->Nat->Bool}{m i j k:Nat}(o:j<m)(d:wars E m i j=true)(c:wars E m j k=true):wars E m i k=true:=by
 induction m generalizing i j k with
 |zero=>omega
 |succ m n=>
  by_cases l:j=m
  ·subst l;simp only[wars,iD,bx]at d c⊢
   have a:wars E j i j=true:=by
    rcases d with h|⟨h,_⟩<;>exact h
   have b:wars E j j k=true:=by
    rcases c with h|⟨_,h⟩<;>exact h
   exact .inr ⟨a,b⟩
  ·have f:j<m:=(by omega);simp only[wars,iD,bx]at d c⊢;rcases d with d|⟨d,g⟩
   ·rcases c with c|⟨c,e⟩
    ·exact .inl (n f d c)
    ·exact .inr ⟨n f d c,e⟩
   ·rcases c with c|⟨c,e⟩
    ·exact .inr ⟨d,n f g c⟩
    ·exact .inr ⟨d,e⟩
def upd (m:Nat->Bool)(n:Nat):Nat->Bool:=fun k=>decide (k=n)||m k
def fol (S:Nat->List Nat):Nat->(Nat->Bool)->Nat->Nat->Bool
 |0,m,_=>m
 |f+1,m,r=>(S r).foldl (fun m n=>if m n=true then m else fol S f (upd m n) n) m
def unm (m:Nat->Bool):Nat->Nat
 |0=>0
 |n+1=>(if m n=true then 0 else 1)+unm m n
theorem yZ {m m':Nat->Bool}(h: ∀k,m k=true->m' k=true): ∀n,unm m' n<=unm m n
 |0=>by simp[unm]
 |n+1=>by
  have:=yZ h n;simp only[unm];by_cases c:m n=true
  ·rw[ax c,ax (h n c)];omega
  ·rw[aw c];split<;>omega
theorem AT {m:Nat->Bool}{k:Nat}(a:m k=false): ∀n,k<n->unm (upd m k) n+1<=unm m n
 |0,h=>by omega
 |n+1,h=>by
  have b:=yZ (m:=m) (m':=upd m k) (fun q d=>by simp[upd,d]) n;simp only[unm];by_cases c:k=n
  ·subst c;rw[ax (by simp[upd]),aw (by rw[a];decide)];omega
  ·have:=AT a n (by omega);have e:upd m k n=m n:=(by simp[upd,show n≠k from fun e=>c e.symm]);rw[e];omega
structure Fol (S:Nat->List Nat)(m m':Nat->Bool)(r:Nat):Prop where
 up: ∀k,m k=true->m' k=true
 next: ∀n∈S r,m' n=true
 new: ∀v,m' v=true->m v=false-> ∀n∈S v,m' n=true
 way: ∀v,m' v=true->m v=false->Way (fun a b=>(S a).contains b) r v
theorem Dx {S:Nat->List Nat}{n:Nat}(A: ∀r,∀k∈S r,k<n): ∀(f:Nat) (m:Nat->Bool) (r:Nat),unm m n+1<=f->Fol S m (fol S f m r) r
 |0,_,_,h=>by omega
 |f+1,m,r,H=>by
  have x: ∀(l:List Nat),(∀k∈l,k∈S r)-> ∀m1:Nat->Bool,(∀k,m k=true->m1 k=true)->
    (∀k,m1 k=true->(l.foldl (fun m n=>if m n=true then m else fol S f (upd m n) n) m1) k=true)/\(∀k∈l,(l.foldl (fun m n=>if m n=true then m else fol S f (upd m n) n) m1) k=true)/\
    (∀v,(l.foldl (fun m n=>if m n=true then m else fol S f (upd m n) n) m1) v=true->m1 v=false->(∀k∈S v,(l.foldl (fun m n=>if m n=true then m else fol S f (upd m n) n) m1) k=true)/\Way (fun a b=>(S a).contains b) r v):=by
   intro l;induction l with
   |nil=>
    intro _ m1 _;exact⟨fun k h=>h,fun k d=>(by cases d),fun v i j=>by rw[List.foldl_nil]at i;rw[i]at j;cases j⟩
   |cons q l D=>
    intro B m1 y;have C:=B q aV;have t: ∀k∈l,k∈S r:=fun k d=>B k (bj _ d);simp only[List.foldl_cons];by_cases c:m1 q=true
    ·rw[ax c];obtain⟨g,s,p⟩:=D t m1 y;refine⟨g,fun k d=> ?_,p⟩;rcases bv.1 d with rfl|d
     ·exact g _ c
     ·exact s k d
    ·rw[aw c];have E:m1 q=false:=(by simpa using c);have I:=AT E n (A r q C);have G:=yZ y n;have F:=Dx A f (upd m1 q) q (by omega);have u: ∀k,m1 k=true->fol S f (upd m1 q) q k=true:=fun k d=>F.up k (by simp[upd,d]);have z:fol S f (upd m1 q) q q=true:=F.up q (by simp[upd]);obtain⟨g,s,p⟩:=D t (fol S f (upd m1 q) q) (fun k d=>u k (y k d));have o:Way (fun a b=>(S a).contains b) r q:= .single (by simpa using C);refine⟨fun k d=>g k (u k d),fun k d=> ?_,fun v i j=> ?_⟩
     ·rcases bv.1 d with rfl|d
      ·exact g _ z
      ·exact s k d
     ·cases hv:fol S f (upd m1 q) q v with
      |false=>exact p v i hv
      |true=>
       by_cases e:v=q
       ·subst e;exact⟨fun k d=>g k (F.next k d),o⟩
       ·have w:upd m1 q v=false:=(by simp[upd,e,j]);exact⟨fun k d=>g k (F.new v hv w k d),o.trans (F.way v hv w)⟩
  obtain⟨g,s,p⟩:=x (S r) (fun k d=>d) m (fun k d=>d);exact⟨g,s,fun v i j=>(p v i j).1,fun v i j=>(p v i j).2⟩
theorem AU {S:Nat->List Nat}{n:Nat}(d: ∀r,∀k∈S r,k<n){f r v:Nat}(e:n+1<=f):fol S f (fun _=>false) r v=true↔Way (fun a b=>(S a).contains b) r v:=by
 have g:unm (fun _=>false) n<=n:=by
  have: ∀n,unm (fun _=>false) n=n:=by
   intro n;induction n with
   |zero=>rfl
   |succ n c=>simp[unm,c];omega
  rw[this];omega
 have F:=Dx d f (fun _=>false) r (by omega);constructor
 ·intro h;exact F.way v h rfl
 ·intro h;induction h with
  |single h=>exact F.next _ (by simpa using h)
  |tail _ h c=>exact F.new _ c rfl _ (by simpa using h)
def addN (a:List Int)(n:Int):List Int:=if n∈a then a else a++[n]
theorem rD (a:List Int)(n m:Int):m∈addN a n↔m∈a\/m=n:=by
 unfold addN;split
 ·rename_i h;constructor
  ·exact .inl
  ·rintro(b|rfl)
   ·exact b
   ·exact h
 ·simp
def atF:List Ru->Nat->List UInt8->Int
 |[],_,_=> -1
 |u::l,i,x=>if u.1=x then(i:Int) else atF l (i+1) x
theorem MN {l:List Ru}{j:Nat}{u:Ru}{x:List UInt8}(h:l[j]? =some u):atF (l.drop j) j x=if u.1=x then(j:Int) else atF (l.drop (j+1)) (j+1) x:=by
 obtain⟨a,b⟩:=aE.1 h;rw[bG a,b];rfl
theorem za: ∀(l:List Ru) (i:Nat) (x:List UInt8),-1<=atF l i x/\atF l i x<i+l.length/\(0<=atF l i x->(i:Int)<=atF l i x)
 |[],i,x=>by simp[atF];omega
 |u::l,i,x=>by
  have:=za l (i+1) x;simp only[atF,bK];split
  ·omega
  ·omega
theorem Kk: ∀(l:List Ru) (i k:Nat) (x:List UInt8),atF l i x=((i+k:Nat):Int)-> ∃u,l[k]? =some u/\u.1=x
 |[],i,k,x,h=>by simp[atF]at h;omega
 |u::l,i,k,x,h=>by
  simp only[atF]at h;split at h
  ·rename_i c;have:k=0:=(by omega);subst this;exact⟨u,rfl,c⟩
  ·cases k with
   |zero=>
    have:=za l (i+1) x;omega
   |succ k=>
    obtain⟨v,a,b⟩:=Kk l (i+1) k x (by rw[h];omega);exact⟨v,by simpa using a,b⟩
def atP5 (l:List Ru)(x:List UInt8):Int:=atF l 0 x
theorem Kl {l:List Ru}{x:List UInt8}{k:Nat}(h:atP5 l x=(k:Int)): ∃u,l[k]? =some u/\u.1=x:=Kk l 0 k x (by rw[bN];exact h)
theorem py (l:List Ru)(x:List UInt8): -1<=atP5 l x/\atP5 l x<l.length:=by
 have:=za l 0 x;unfold atP5;omega
def nms (e:Ex):List (List UInt8):=(if e.kind=10 then [e.name] else [])++(e.kids.attach.map fun k=>nms k.1).flatten
 termination_by SizeOf.sizeOf e
 decreasing_by exact fy k.2
def jM (a:List Ex):List (List UInt8):=(a.map nms).flatten
theorem mw (e:Ex):nms e=(if e.kind=10 then [e.name] else [])++jM e.kids:=by
 rw[nms];congr 2;show List.map (nms∘Subtype.val) e.kids.attach=_;rw[<-iU,eY]
def ii (l:List Ru)(a:List Int)(xs:List (List UInt8)):List Int:=xs.foldl (fun a x=>addN a (atP5 l x)) a
theorem qI {l:List Ru}{m:Int}: ∀(xs:List (List UInt8)) (a:List Int),m∈ii l a xs↔m∈a\/ ∃x∈xs,atP5 l x=m
 |[],a=>by simp[ii]
 |y::xs,a=>by
  have:=qI (l:=l) (m:=m) xs (addN a (atP5 l y));show m∈ii l (addN a (atP5 l y)) xs↔_;rw[this,rD];constructor
  ·rintro((h|h)|⟨x,b,c⟩)
   ·exact .inl h
   ·exact .inr ⟨y,aV,h.symm⟩
   ·exact .inr ⟨x,bj _ b,c⟩
  ·rintro(h|⟨x,b,c⟩)
   ·exact .inl (.inl h)
   ·rcases bv.1 b with rfl|b
    ·exact .inl (.inr c.symm)
    ·exact .inr ⟨x,b,c⟩
def gj (l:List Ru)(u:Ru):List Int:=ii l [] (nms u.2)
theorem tM {l:List Ru}: ∀(xs:List (List UInt8)) (c:List Int),c.Nodup->(∀m∈c,-1<=m/\m<l.length)->(ii l c xs).Nodup/\ ∀m∈ii l c xs,-1<=m/\m<l.length
 |[],c,d,f=>⟨d,f⟩
 |y::xs,c,d,f=>by
  refine tM xs (addN c (atP5 l y)) ?_ ?_
  ·unfold addN;split
   ·exact d
   ·rename_i h;rw[List.nodup_append];refine⟨d,by simp,fun a ha b i=> ?_⟩;simp at i;subst i;exact fun e=>h (e▸ha)
  ·intro m g;rcases(rD _ _ _).1 g with g|rfl
   ·exact f m g
   ·exact py l y
end Lx
def zb (w:World)(b:Nat)(o:Obj):World:={w with heap:=w.heap.setIfInBounds b o}
theorem Fg {r n:Nat}{a w:World}(h:Below n a w)(c:n<=r)(o:Obj):Below n a (zb w r o):=
 ⟨h.os,h.tape,h.output,by simpa[zb] using h.size,fun k b=>by
   rw[<-h.block k b];show(w.heap.setIfInBounds r o)[k]? =_;rw[dj (by omega)]⟩
theorem bO {p:Prop}(h:p):T4 p:=h
def fk (w:World)(v:Value)(a:List Int):Prop:= ∃p c,v= .slice p a.length c/\a.length<9223372036854775808/\ ∀(j:Nat) (n:Int),a[j]? =some n-> ∃g o:Nat,p=some ⟨g,o,none⟩/\w.cell? (ae g (o+j))=some (ag n)
theorem fk.below {w b:World}{v:Value}{a:List Int}(h:fk w v a)(k:ao w b):fk b v a:=by
 obtain⟨p,c,d,f,i⟩:=h;refine⟨p,c,d,f,fun j n m=> ?_⟩;obtain⟨g,o,e,l⟩:=i j n m;exact⟨g,o,e,aj k l⟩
def idxF:List Int->Nat->Int->Int
 |[],_,_=> -1
 |m::l,i,n=>if m=n then(i:Int) else idxF l (i+1) n
theorem Kn {l:List Int}{j:Nat}{m n:Int}(h:l[j]? =some m):idxF (l.drop j) j n=if m=n then(j:Int) else idxF (l.drop (j+1)) (j+1) n:=by
 obtain⟨a,b⟩:=aE.1 h;rw[bG a,b];rfl
theorem Dy: ∀(l:List Int) (i:Nat) (n:Int),(0<=idxF l i n)↔n∈l
 |[],i,n=>by simp[idxF]
 |m::l,i,n=>by
  have:=Dy l (i+1) n;simp only[idxF,bv];by_cases h:m=n
  ·rw[ax h];constructor
   ·intro _;exact .inl h.symm
   ·intro _;omega
  ·rw[aw h,this];constructor
   ·exact .inr
   ·rintro(e|e)
    ·exact absurd e.symm h
    ·exact e
theorem Ic (b:List Int)(v:Value)(n:Int)(w:World)(h:fk w v b):Calls prog 81 #[v,ag n] w fun r A=>r= .returned (ag (idxF b 0 n))/\ao w A:=by
 obtain⟨p,c,rfl,x,u⟩:=h;have l:=bO u;clear u;go_enter func81,ntmps81;go_wp2_with fail;go_loopw [5,8] (fun _ t wr=> ∃j:Nat,t=ag (j:Int)/\j<=b.length/\idxF b 0 n=idxF (b.drop j) j n/\wr=w) (fun _ t _=>b.length-(intOf t).toNat);case atStart=>exact⟨0,rfl,by omega,rfl,rfl⟩
 case round=>
  obtain⟨j,rfl,B,d,rfl⟩:=hrel;have z:(0:Int)<=(j:Int):=(by omega);by_cases q:j<b.length
  ·have k:(j:Int)<(b.length:Int):=(by omega);obtain⟨m,f⟩: ∃p,b[j]? =some p:=⟨b[j],az q⟩
   rw[Kn f]at d;obtain⟨g,o,s,c0⟩:=l.o j _ f;subst s;by_cases a:m=n
   ·rw[ax a]at d;have y:(n==m)=true:=(by rw[a];simp);have i:=bO d;clear d f l a;go_wp2_with fail;go_ret;exact⟨by(rw[i.o])<;>rfl,aF _ _⟩
   ·rw[aw a]at d;have y:(n==m)=false:=bl.2 (fun e=>a e.symm);have i:=bO d;clear d f a;go_wp2_with fail;go_roundw;case rel=>exact⟨j+1,by go_num,by omega,i.o,trivial⟩
    case measure=>simp[intOf];omega
  ·have k: ¬(j:Int)<(b.length:Int):=(by omega)
   have i:T4 (idxF b 0 n= -1):=by
    show _=_;rw[d,dn (by omega)];rfl
   clear d l;go_wp2_with fail;go_ret;exact⟨by(rw[i.o])<;>rfl,aF _ _⟩
theorem lV (a:List Int)(v:Value)(n:Int)(w:World)(h:fk w v a):Calls prog 42 #[v,ag n] w fun r i=>r= .returned (.bool (decide (n∈a)))/\ao w i:=by
 have c1:=Ic a v n w h;obtain⟨p,c,rfl,_,_⟩:=h
 have f:T4 (decide (n∈a)=decide (0<=idxF a 0 n)):=by
  show _=_;have d:=Dy a 0 n;by_cases b:n∈a
  ·rw[bc b,bc (d.2 b)]
  ·rw[bo b,bo (fun e=>b (d.1 e))]
 go_enter func42,ntmps42;go_wp2_with fail;refine c1.mono ?_;rintro r j ⟨rfl,g⟩;clear c1;generalize idxF a 0 n=q at*;go_wp2_with fail;go_ret;exact⟨by(rw[f.o])<;>rfl,g⟩
end Go.Proofs.YtpdoienkhgnceaaGreatDoor
