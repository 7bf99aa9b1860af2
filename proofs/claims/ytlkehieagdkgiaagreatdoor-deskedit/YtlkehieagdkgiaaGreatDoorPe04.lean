/- Texts of the proof. -/
import Derived.Test.YtlkehieagdkgiaaGreatDoorPe03
import Derived.Lib.LaidTab
import Derived.Test.YtlkehieagdkgiaaGreatDoorPe02
set_option maxRecDepth 100000
set_option maxHeartbeats 8000000
namespace Go.Proofs.YtlkehieagdkgiaaGreatDoor
open Go.Proofs.Tryz Go.RowKit Lx Vx Mx Msk
def lx:Array Value:=(jP.map fun l=>Value.string ⟨l.toArray⟩).toArray
theorem Ke (j:Nat)(a:j<13):lx[j]? =some (.string ⟨(jP.getD j []).toArray⟩):=by
 have h:j<jP.length:=a;unfold lx;simp only[List.getElem?_toArray,a8,dg,ay h];rfl
theorem Hi (w:World):Calls prog 151 #[] w fun e w'=>e= .returned (.slice (some (ae w.heap.size 0)) 13 13)/\w'=w.alloc (.cells lx 9):=by
 go_enter func151,ntmps151;go_wp2;go_ret;exact⟨rfl,rfl⟩
theorem Hj {x:List UInt8}(h: ∀j,j<13->jP.getD j []≠x):isWordL x=false:=by
 cases e:isWordL x with
 |false=>rfl
 |true=>
  unfold isWordL at e;rw[List.any_eq_true]at e;obtain⟨y,d,c⟩:=e;obtain⟨j,b,rfl⟩:=List.getElem_of_mem d;have a:j<13:=b;exact absurd (by simpa[List.getD,b] using c) (h j a)
theorem Ft {x:List UInt8}(j:Nat)(b:j<13)(h:jP.getD j []=x):isWordL x=true:=by
 unfold isWordL;rw[List.any_eq_true];have a:j<jP.length:=b;exact⟨jP.getD j [],by simp[List.getD,a],by rw[h];exact beq_self_eq_true x⟩
theorem Kf (x:ByteArray)(l:List UInt8)(u:x.data.toList=l)(g:Nat)(w:World)(r:w.heap[g]? =ah lx 9):
  Calls prog 173 #[.slice (some (ae g 0)) 13 13,.string x] w fun e w'=>(∃i:Int,e= .returned (ag i)/\decide (0<=i)=isWordL l)/\w'=w:=by
 have a: ∀j,j<13->w.cell? (ae g j)=some (.string ⟨(jP.getD j []).toArray⟩):=fun j s=>by rw[aZ _ _ _ _ _ _ r,Ke j s]
 have v:Rb (∀j,j<13->w.cell? (ae g j)=some (.string ⟨(jP.getD j []).toArray⟩)):=a;clear a r;go_enter func173,ntmps173;go_wp2;go_loop [8] (fun i=> ∃k:Nat,k<=13/\i=ag k/\ ∀j,j<k->jP.getD j []≠l) (fun i=>13-(intOf i).toNat);case atStart=>exact⟨0,by omega,rfl,fun i h=>by omega⟩
 case round=>
  obtain⟨k,D,rfl,c⟩:=hrel;have q:Rb (∀j,j<k->jP.getD j []≠l):=c;clear c;by_cases f:k<13
  ·have t:(k:Int)<13:=(by omega);have B:(0:Int)<=(k:Int):=(by omega);have A:=v.o k f;generalize p:(⟨(jP.getD k []).toArray⟩:ByteArray)=y at A;have b:y.data.toList=jP.getD k []:=(by rw[<-p]);by_cases d:jP.getD k []=l
   ·have C:(x.toList==y.toList)=true:=(by rw[Lib.toList_data,Lib.toList_data,b,u,d];simp);have m:Rb (isWordL l=true):=Ft k f d;clear d b p;go_wp2;go_ret;exact⟨⟨_,rfl,by rw[m.o];simp⟩,rfl⟩
   ·have C:(x.toList==y.toList)=false:=by
     rw[Lib.toList_data,Lib.toList_data,b,u];rw[bm];exact fun e=>d e.symm
    have z:Rb (jP.getD k []≠l):=d;clear d b p;go_wp2;go_round
    case rel=>
     refine⟨k+1,by omega,by go_num,fun j s=> ?_⟩;by_cases e:j=k
     ·subst e;exact z.o
     ·exact q.o j (by omega)
    case measure=>simp[intOf];omega
  ·have n:k=13:=(by omega);subst n;have m:Rb (isWordL l=false):=Hj q.o;go_wp2;go_ret;exact⟨⟨_,rfl,by rw[m.o];simp⟩,rfl⟩
theorem yd (x:ByteArray)(l:List UInt8)(f:x.data.toList=l)(w:World):
  Calls prog 127 #[.string x] w fun e w'=>e= .returned (.bool (isWordL l))/\aq w w':=by
 have d:(w.alloc (.cells lx 9)).heap[w.heap.size]? =ah lx 9:=aG w _;have c:aq w (w.alloc (.cells lx 9)):=am _ _;have a:=Kf x l f _ _ d;have b:=Hi w;generalize w.alloc (.cells lx 9)=g at*;go_enter func127,ntmps127
 go_wp2_with(first
  |(go_at_call 151;refine b.mono ?_;rintro e w' ⟨rfl,rfl⟩)
  |(go_at_call 150;go_in)
  |(go_at_call 173;refine a.mono ?_;rintro e w' ⟨⟨i,rfl,hi⟩,rfl⟩))
 go_ret;exact⟨by rw[<-hi];rfl,c⟩
namespace Cal
def lpB (y:Int):Bool:=decide (y%4=0/\(¬y%100=0\/y%400=0))
def lp (y:Int):Int:=if y%4=0/\(¬y%100=0\/y%400=0) then 1 else 0
def dim (y m:Int):Int:=
 if y<2000\/2399<y\/m<1\/12<m then 0
 else if m=2 then 28+lp y
 else if m=4\/m=6\/m=9\/m=11 then 30 else 31
def cum (y m:Int):Int:=
 if m<=1 then 0 else if m=2 then 31 else if m=3 then 59+lp y else if m=4 then 90+lp y
 else if m=5 then 120+lp y else if m=6 then 151+lp y else if m=7 then 181+lp y
 else if m=8 then 212+lp y else if m=9 then 243+lp y else if m=10 then 273+lp y
 else if m=11 then 304+lp y else if m=12 then 334+lp y else 365+lp y
def ys (y:Int):Int:=365*(y-2000)+((y-2000+3)/4-(y-2000+99)/100+(y-2000+399)/400)
theorem Fv (y:Int):0<=lp y/\lp y<=1:=by unfold lp;split<;>omega
theorem Q9 (y:Int):lp y=if lpB y=true then 1 else 0:=by unfold lp lpB;simp
theorem Oz (y m:Int):0<=dim y m/\dim y m<=31:=by
 have:=Fv y;unfold dim;split
 ·omega
 ·split
  ·omega
  ·split<;>omega
theorem Ms (y m:Int)(h:y<2000\/2399<y\/m<1\/12<m):dim y m=0:=by unfold dim;rw[aB h]
theorem Mt (y m:Int)(h:1<=dim y m):2000<=y/\y<=2399/\1<=m/\m<=12:=by
 by_cases g:y<2000\/2399<y\/m<1\/12<m
 ·rw[Ms y m g]at h;omega
 ·omega
theorem OA (y:Int):cum y 13=365+lp y:=rfl
theorem BZ (y m:Int)(a:2000<=y)(b:y<=2399)(c:1<=m)(d:m<=12):cum y (m+1)=cum y m+dim y m:=by
 have h:m=1\/m=2\/m=3\/m=4\/m=5\/m=6\/m=7\/m=8\/m=9\/m=10\/m=11\/m=12:=by omega
 unfold dim;rw[ax (by omega)];rcases h with rfl|rfl|rfl|rfl|rfl|rfl|rfl|rfl|rfl|rfl|rfl|rfl<;>simp[cum]<;>omega
theorem OB (y m:Int)(c:1<=m)(d:m<=13):0<=cum y m/\cum y m<=366:=by
 have:=Fv y;have h:m=1\/m=2\/m=3\/m=4\/m=5\/m=6\/m=7\/m=8\/m=9\/m=10\/m=11\/m=12\/m=13:=by omega
 rcases h with rfl|rfl|rfl|rfl|rfl|rfl|rfl|rfl|rfl|rfl|rfl|rfl|rfl<;>simp[cum]<;>omega
theorem Ki (y m k:Int)(c:1<=m)(d:m<k)(e:k<=13)(a:2000<=y)(b:y<=2399):cum y m+dim y m<=cum y k:=by
 rw[<-BZ y m a b c (by omega)];have:=Fv y;have h:m=1\/m=2\/m=3\/m=4\/m=5\/m=6\/m=7\/m=8\/m=9\/m=10\/m=11\/m=12:=by omega
 have g:k=2\/k=3\/k=4\/k=5\/k=6\/k=7\/k=8\/k=9\/k=10\/k=11\/k=12\/k=13:=by omega
 rcases h with rfl|rfl|rfl|rfl|rfl|rfl|rfl|rfl|rfl|rfl|rfl|rfl<;>
  rcases g with rfl|rfl|rfl|rfl|rfl|rfl|rfl|rfl|rfl|rfl|rfl|rfl<;>first|omega|(simp[cum]<;>omega)
theorem Mu:ys 2000=0:=by decide
theorem Mv:ys 2400=146097:=by decide
theorem Mw (y:Int):ys (y+1)=ys y+365+lp y:=by unfold ys lp;split<;>omega
theorem Eu (a b:Int)(h:a<=b):ys a<=ys b:=by unfold ys;omega
theorem LY (y:Int)(a:2000<=y)(b:y<=2400):0<=ys y/\ys y<=146097:=by
 have c:=Eu _ _ a;have d:=Eu _ _ b;rw[Mu]at c;rw[Mv]at d;exact⟨c,d⟩
def num (y m d:Int):Int:=ys y+cum y m+d-1
theorem ye (y m d:Int)(h:1<=d)(g:d<=dim y m):0<=num y m d/\num y m d<146097/\ys y<=num y m d/\num y m d<ys (y+1):=by
 obtain⟨a,b,c,e⟩:=Mt y m (by omega);have f:=LY y a (by omega);have i:=LY (y+1) (by omega) (by omega);have j:=Mw y;have k:=BZ y m a b c e;have l:=OB y m c (by omega)
 have n:cum y (m+1)<=365+lp y:=by
  by_cases h:m=12
  ·subst h;exact Int.le_of_eq rfl
  ·have:=Ki y (m+1) 13 (by omega) (by omega) (by omega) a b;rw[OA]at this;have:=Oz y (m+1);omega
 unfold num;omega
end Cal
def tab:List Int:=[31,28,31,30,31,30,31,31,30,31,30,31]
def gT (w:World):Prop:= ∀i:Nat,i<12->w.cell? (ae 0 i)=some (ag (tab.getD i 0))
theorem B0 (y:Int)(w:World)(i:0<=y)(j:y<=9223372036854775807):
  Calls prog 172 #[ag y] w fun e w'=>e= .returned (.bool (Cal.lpB y))/\w'=w:=by
 by_cases c:y%4=0
 ·by_cases a:y%100=0
  ·by_cases b:y%400=0
   ·have e:Cal.lpB y=true:=(by unfold Cal.lpB;exact bh ⟨c,.inr b⟩);rw[e];have d:(y%4==0)=true:=(by simp[c]);have f:(y%100 !=0)=false:=(by simp[a]);have g:(y%400==0)=true:=(by simp[b]);go_enter func172,ntmps172;go_wp2;go_ret;exact⟨rfl,rfl⟩
   ·have e:Cal.lpB y=false:=(by unfold Cal.lpB;exact bn (fun h=>by omega));rw[e];have d:(y%4==0)=true:=(by simp[c]);have f:(y%100 !=0)=false:=(by simp[a]);have g:(y%400==0)=false:=(by simp[b]);go_enter func172,ntmps172;go_wp2;go_ret;exact⟨rfl,rfl⟩
  ·have e:Cal.lpB y=true:=(by unfold Cal.lpB;exact bh ⟨c,.inl a⟩);rw[e];have d:(y%4==0)=true:=(by simp[c]);have f:(y%100 !=0)=true:=(by simp[a]);go_enter func172,ntmps172;go_wp2;go_ret;exact⟨rfl,rfl⟩
 ·have e:Cal.lpB y=false:=by unfold Cal.lpB;exact bn (fun h=>c h.1)
  rw[e];have d:(y%4==0)=false:=(by simp[c]);go_enter func172,ntmps172;go_wp2;go_ret;exact⟨rfl,rfl⟩
theorem Fw (y m:Int)(w:World)(h:y<2000\/2399<y\/m<1\/12<m):
  Calls prog 146 #[ag y,ag m] w fun e w'=>e= .returned (ag 0)/\w'=w:=by
 by_cases a:y<2000
 ·go_enter func146,ntmps146;go_wp2;go_ret;exact⟨rfl,rfl⟩
 ·by_cases b:2399<y
  ·go_enter func146,ntmps146;go_wp2;go_ret;exact⟨rfl,rfl⟩
  ·by_cases c:m<1
   ·go_enter func146,ntmps146;go_wp2;go_ret;exact⟨rfl,rfl⟩
   ·have d:12<m:=(by omega);go_enter func146,ntmps146;go_wp2;go_ret;exact⟨rfl,rfl⟩
theorem Fy (y:Int)(w:World)(a:2000<=y)(b:y<=2399)(d:w.cell? (ae 0 1)=some (ag 28)):
  Calls prog 146 #[ag y,ag 2] w fun e w'=>e= .returned (ag (28+Cal.lp y))/\w'=w:=by
 have c:=Cal.Q9 y;cases hb:Cal.lpB y
 ·rw[hb]at c;simp at c;rw[c];go_enter func146,ntmps146;go_wp2_with(go_at_call 172;refine(B0 _ _ (by omega) (by omega)).mono ?_;rw[hb];rintro e w' ⟨rfl,rfl⟩)
  go_ret;exact⟨rfl,rfl⟩
 ·rw[hb]at c;simp at c;rw[c];go_enter func146,ntmps146;go_wp2_with(go_at_call 172;refine(B0 _ _ (by omega) (by omega)).mono ?_;rw[hb];rintro e w' ⟨rfl,rfl⟩)
  go_ret;exact⟨rfl,rfl⟩
theorem Hm (y m:Int)(w:World)(g:gT w)(a:2000<=y)(b:y<=2399)(c:1<=m)(d:m<=12):
  Calls prog 146 #[ag y,ag m] w fun e w'=>e= .returned (ag (Cal.dim y m))/\w'=w:=by
 have h:m=1\/m=2\/m=3\/m=4\/m=5\/m=6\/m=7\/m=8\/m=9\/m=10\/m=11\/m=12:=by omega
 have e:Cal.dim y m=if m=2 then 28+Cal.lp y else if m=4\/m=6\/m=9\/m=11 then 30 else 31:=by unfold Cal.dim;rw[ax (by omega)]
 rw[e];rcases h with rfl|h
 ·have f:=g 0 (by decide);simp[tab]at f;rw[ax (by decide),ax (by decide)];go_enter func146,ntmps146;go_wp2;go_ret;exact⟨rfl,rfl⟩
 rcases h with rfl|h
 ·have f:=g 1 (by decide);simp[tab]at f;exact Fy y w a b f
 rcases h with rfl|h
 ·have f:=g 2 (by decide);simp[tab]at f;rw[ax (by decide),ax (by decide)];go_enter func146,ntmps146;go_wp2;go_ret;exact⟨rfl,rfl⟩
 rcases h with rfl|h
 ·have f:=g 3 (by decide);simp[tab]at f;rw[ax (by decide),aB (by decide)];go_enter func146,ntmps146;go_wp2;go_ret;exact⟨rfl,rfl⟩
 rcases h with rfl|h
 ·have f:=g 4 (by decide);simp[tab]at f;rw[ax (by decide),ax (by decide)];go_enter func146,ntmps146;go_wp2;go_ret;exact⟨rfl,rfl⟩
 rcases h with rfl|h
 ·have f:=g 5 (by decide);simp[tab]at f;rw[ax (by decide),aB (by decide)];go_enter func146,ntmps146;go_wp2;go_ret;exact⟨rfl,rfl⟩
 rcases h with rfl|h
 ·have f:=g 6 (by decide);simp[tab]at f;rw[ax (by decide),ax (by decide)];go_enter func146,ntmps146;go_wp2;go_ret;exact⟨rfl,rfl⟩
 rcases h with rfl|h
 ·have f:=g 7 (by decide);simp[tab]at f;rw[ax (by decide),ax (by decide)];go_enter func146,ntmps146;go_wp2;go_ret;exact⟨rfl,rfl⟩
 rcases h with rfl|h
 ·have f:=g 8 (by decide);simp[tab]at f;rw[ax (by decide),aB (by decide)];go_enter func146,ntmps146;go_wp2;go_ret;exact⟨rfl,rfl⟩
 rcases h with rfl|h
 ·have f:=g 9 (by decide);simp[tab]at f;rw[ax (by decide),ax (by decide)];go_enter func146,ntmps146;go_wp2;go_ret;exact⟨rfl,rfl⟩
 rcases h with rfl|h
 ·have f:=g 10 (by decide);simp[tab]at f;rw[ax (by decide),aB (by decide)];go_enter func146,ntmps146;go_wp2;go_ret;exact⟨rfl,rfl⟩
 subst h;have f:=g 11 (by decide);simp[tab]at f;rw[ax (by decide),ax (by decide)];go_enter func146,ntmps146;go_wp2;go_ret;exact⟨rfl,rfl⟩
theorem tf (y m:Int)(w:World)(a:gT w):
  Calls prog 146 #[ag y,ag m] w fun e w'=>e= .returned (ag (Cal.dim y m))/\w'=w:=by
 by_cases h:y<2000\/2399<y\/m<1\/12<m
 ·rw[Cal.Ms y m h];exact Fw y m w h
 ·exact Hm y m w a (by omega) (by omega) (by omega) (by omega)
theorem OC (y:Int)(w:World)(a:2000<=y)(b:y<=2400):
  Calls prog 147 #[ag y] w fun e w'=>e= .returned (ag (Cal.ys y))/\w'=w:=by
 unfold Cal.ys;go_enter func147,ntmps147;go_wp2;go_ret;exact⟨rfl,rfl⟩
theorem My (y m:Int)(w:World)(j:gT w)(a:2000<=y)(b:y<=2399)(c:1<=m)(d:m<=13):
  Calls prog 148 #[ag y,ag m] w fun e w'=>e= .returned (ag (Cal.cum y m))/\w'=w:=by
 have H:Rb (gT w):=j;go_enter func148,ntmps148;go_wp2;go_loop [5,6] (fun t i=> ∃k:Int,1<=k/\k<=m/\i=ag k/\t=ag (Cal.cum y k)) (fun _ i=>(13-intOf i).toNat);case atStart=>exact⟨1,by omega,by omega,rfl,rfl⟩
 case round=>
  obtain⟨k,f,l,rfl,rfl⟩:=hrel;have p:=Cal.OB y k f (by omega);have q:=Cal.Oz y k;by_cases n:k<m
  ·have g:Rb (Cal.cum y (k+1)=Cal.cum y k+Cal.dim y k):=Cal.BZ y k a b f (by omega);go_wp2_with(go_at_call 146;refine(tf _ _ _ H.o).mono ?_;rintro e w' ⟨rfl,rfl⟩)
   go_round;case rel=>exact⟨k+1,by omega,by omega,rfl,by rw[g.o]⟩
   case measure=>simp[intOf];omega
  ·have e:k=m:=(by omega);subst e;go_wp2;go_ret;exact⟨rfl,rfl⟩
theorem gT.below {w w':World}(h:gT w)(a:aq w w'):gT w':=fun i hi=>cell_later a (h i hi)
theorem gT.alloc {w:World}(h:gT w)(o:Obj):gT (w.alloc o):=h.below (am _ o)
theorem gT.drew {w:World}(h:gT w):gT w.drew:=fun i hi=>h i hi
theorem Fz (y m d:Int)(w:World)(g:gT w)(a:1<=d)(b:d<=Cal.dim y m):
  Calls prog 123 #[.agg #[ag y,ag m,ag d]] w fun e w'=>e= .returned (.tuple #[ag (Cal.num y m d),ag 0])/\aq w w':=by
 have H:Rb (gT w):=g;clear g;obtain⟨r1,n,j,r4⟩:=Cal.Mt y m (by omega);have l:=Cal.Oz y m;have t:=Cal.LY y r1 (by omega);have q:=Cal.OB y m j (by omega);have r:decide (d<1)=false:=by simp;omega
 have s:decide (Cal.dim y m<d)=false:=by simp;omega
 go_enter func123,ntmps123;go_wp2;go_quiet ((go_at_call 146;exact fF (tf _ _ _ (H.o.alloc _))));go_wp2;generalize c:(w.alloc (.cells #[ag y,ag m,ag d] 187)).drewN nq=f;have c0:f.cell? (ae w.heap.size 0)=some (ag y):=by rw[<-c];simp
 have c1:f.cell? (ae w.heap.size 1)=some (ag m):=by rw[<-c];simp
 have p:f.cell? (ae w.heap.size 2)=some (ag d):=by rw[<-c];simp
 have i:aq w f:=by rw[<-c];exact du (am _ _) _
 have k:Rb (gT f):=H.o.below i;clear c H;go_quiet ((first|(go_at_call 147;exact fF (OC y _ r1 (by omega)))|(go_at_call 148;exact fF (My y m _ k.o r1 n j (by omega)))));go_wp2;go_ret2;exact⟨rfl,du i _⟩
theorem Ho (y m d:Int)(w:World)(b:gT w)(a:d<1\/Cal.dim y m<d):
  Calls prog 123 #[.agg #[ag y,ag m,ag d]] w fun e w'=>e= .returned (.tuple #[ag 0,ag 3])/\aq w w':=by
 have H:Rb (gT w):=b;clear b;by_cases f:d<1
 ·have c:decide (d<1)=true:=by simp;omega
  clear a;go_enter func123,ntmps123;go_wp2;go_quiet (fail);go_wp2;go_ret2;exact⟨rfl,du (am _ _) _⟩
 ·have c:decide (d<1)=false:=by simp;omega
  have g:decide (Cal.dim y m<d)=true:=(by simp;omega);clear a;go_enter func123,ntmps123;go_wp2;go_quiet ((go_at_call 146;exact fF (tf _ _ _ (H.o.alloc _))));go_wp2;go_ret2;exact⟨rfl,du (am _ _) _⟩
theorem Hp (s:ByteArray)(l:List UInt8)(q:s.data.toList=l)(y:l.length<=9223372036854775806)(d:jx l ya=true)(w:World):
  Calls prog 90 #[.string s] w fun e w'=>e= .returned (tb (pE l))/\aq w w':=by
 have z:s.size=l.length:=by rw[<-q,Lib.size_eq]
 obtain⟨a,_⟩:=qO d;have p:5<=l.length:=a;have u:(5:Int)<=(l.length:Int):=by omega
 have r:(2:Int)<=(l.length:Int):=by omega
 have t:(3:Int)<=(l.length:Int):=by omega
 obtain⟨v,i⟩:=mP d 3 2 (by decide) (by decide);obtain⟨x,j⟩:=mP d 0 2 (by decide) (by decide);have c1:=fun w=>ni (s.extract 3 5) ((l.drop 3).take 2) (by rw[Lib.extract_data,q]) (by omega) i w;have g:=fun w=>ni (s.extract 0 2) ((l.drop 0).take 2) (by rw[Lib.extract_data,q]) (by omega) j w;have b1:=qp _ i 2 (by omega) (by omega);have b2:=qp _ j 2 (by omega) (by omega);rw[dh (by omega)]at b1 b2;have f:Rb (pE l=if 59<valL ((l.drop 3).take 2)\/1440<60*valL ((l.drop 0).take 2)+valL ((l.drop 3).take 2) then bad 3 else⟨4,60*valL ((l.drop 0).take 2)+valL ((l.drop 3).take 2),[],5,0⟩):=rfl;generalize valL ((l.drop 3).take 2)=m at*;generalize valL ((l.drop 0).take 2)=h at*;clear v i x j a d;have c:aq w (w.alloc (.cells #[ag 0,ag 0,ag 0,.string ⟨#[]⟩] 127)):=am _ _;have n:aq w (w.alloc (.cells #[ag 4,ag (60*h+m),ag 0,.string ⟨#[]⟩] 127)):=am _ _;by_cases k:59<m
 ·go_enter func90,ntmps90
  go_wp2_with(first
   |(go_at_call 124;have _t:=c1;refine(c1 _).mono ?_;rintro e w' ⟨rfl,rfl⟩;clear _t c1)
   |(go_at_call 124;refine(g _).mono ?_;rintro e w' ⟨rfl,rfl⟩))
  exact gy (by rw[results90,results92]) w.heap.size (bad 3) rfl rfl rfl rfl (aG w _) ⟨by rw[f.o,aB (.inl k)],c⟩
 ·by_cases b:1440<60*h+m
  ·go_enter func90,ntmps90
   go_wp2_with(first
    |(go_at_call 124;have _t:=c1;refine(c1 _).mono ?_;rintro e w' ⟨rfl,rfl⟩;clear _t c1)
    |(go_at_call 124;refine(g _).mono ?_;rintro e w' ⟨rfl,rfl⟩))
   exact gy (by rw[results90,results92]) w.heap.size (bad 3) rfl rfl rfl rfl (aG w _) ⟨by rw[f.o,aB (.inr b)],c⟩
  ·go_enter func90,ntmps90
   go_wp2_with(first
    |(go_at_call 124;have _t:=c1;refine(c1 _).mono ?_;rintro e w' ⟨rfl,rfl⟩;clear _t c1)
    |(go_at_call 124;refine(g _).mono ?_;rintro e w' ⟨rfl,rfl⟩))
   exact gy (by rw[results90,results92]) w.heap.size ⟨4,60*h+m,[],5,0⟩ rfl rfl rfl rfl (aG w _) ⟨by rw[f.o,ax (by omega)],n⟩
namespace Lx
theorem iZ {e k:Ex}(h:k∈e.kids):SizeOf.sizeOf k<SizeOf.sizeOf e:=by
 have a:=List.sizeOf_lt_of_mem h;cases e;simp only[Ex.mk.sizeOf_spec]at*;omega
def hgt (e:Ex):Nat:=(e.kids.attach.map fun k=>hgt k.1).foldl max 0+1
 termination_by SizeOf.sizeOf e
 decreasing_by exact iZ k.2
def hgtL (l:List Ex):Nat:=(l.map hgt).foldl max 0
theorem qU (e:Ex):hgt e=hgtL e.kids+1:=by
 rw[hgt,hgtL];show(List.map (hgt∘Subtype.val) e.kids.attach).foldl max 0+1=_;rw[<-j7,iD]
theorem H9 (l:List Nat): ∀a,l.foldl max a=max a (l.foldl max 0):=by
 induction l with
 |nil=>intro a;simp
 |cons b l c=>
  intro a;simp only[List.foldl_cons];rw[c (max a b),c (max 0 b)];omega
theorem B8:hgtL []=0:=rfl
theorem rH (k:Ex)(l:List Ex):hgtL (k::l)=max (hgt k) (hgtL l):=by
 unfold hgtL;simp only[dO,List.foldl_cons];rw[H9];omega
theorem Ia (l:List Ex)(k:Ex):hgtL (l++[k])=max (hgtL l) (hgt k):=by
 unfold hgtL;rw[dZ,List.foldl_append];rfl
theorem Ey {e k:Ex}(h:k∈e.kids):hgt k<hgt e:=by
 rw[qU e];generalize e.kids=l at*;induction l with
 |nil=>cases h
 |cons q l a=>
  rw[rH];rcases bO.1 h with rfl|h
  ·omega
  ·have:=a h;omega
theorem Ez (E:Nat): ∀(f m d:Nat) (e:Ex) (r:List Tk) (n:Nat) (y:Ex) (C:List Tk) (w:Nat),m<=8->(m=1\/m=3\/m=5->hgt e<=n)->goP E f m d e r n= .ok (y,C,w)->hgt y<=w/\n<=w
 |0,m,d,e,r,n,y,C,w,_,_,h=>(dL h).elim
 |f+1,m,d,e,r,n,y,C,w,L,A,h=>by
  have c:=Ez E f;have j: ∀(k a b:Int) (x:List UInt8),hgt ⟨k,a,b,x,[]⟩=1:=fun k a b x=>(by rw[qU];rfl)
  have one: ∀(k a b:Int) (x:List UInt8) (t:Ex),hgt ⟨k,a,b,x,[t]⟩=hgt t+1:=fun k a b x t=>by
   rw[qU];show hgtL [t]+1=_;rw[rH,B8];omega
  have u: ∀(k a b:Int) (x:List UInt8) (s t:Ex),hgt ⟨k,a,b,x,[s,t]⟩=max (hgt s) (hgt t)+1:=fun k a b x s t=>by
   rw[qU];show hgtL [s,t]+1=_;rw[rH,rH,B8];omega
  match m,L with
  |0,_=>
   rw[ve]at h;obtain⟨l,r1,q,i,g⟩:=dI h;have a:=c 2 _ _ _ _ _ _ _ (by omega) (by omega) i;have b:=c 1 _ _ _ _ _ _ _ (by omega) (fun _=>a.1) g;omega
  |1,_=>
   rw[vf]at h;have v:=A (by omega);split at h
   ·obtain⟨l,r1,q,i,g⟩:=dI h;obtain⟨z,D,B,o,p⟩:=dI g;have a:=c 2 _ _ _ _ _ _ _ (by omega) (by omega) i;cases dS o;have b:=c 1 _ _ _ _ _ _ _ (by omega) (fun _=>by rw[u];omega) p;omega
   ·split at h
    ·obtain⟨l,r1,q,i,g⟩:=dI h;obtain⟨z,D,B,o,p⟩:=dI g;have a:=c 2 _ _ _ _ _ _ _ (by omega) (by omega) i;cases dS o;have b:=c 1 _ _ _ _ _ _ _ (by omega) (fun _=>by rw[u];omega) p;omega
    ·cases h;omega
  |2,_=>
   rw[vh]at h;obtain⟨l,r1,q,i,g⟩:=dI h;have a:=c 4 _ _ _ _ _ _ _ (by omega) (by omega) i;have b:=c 3 _ _ _ _ _ _ _ (by omega) (fun _=>a.1) g;omega
  |3,_=>
   rw[vj]at h;have v:=A (by omega);split at h
   ·obtain⟨l,r1,q,i,g⟩:=dI h;obtain⟨z,D,B,o,p⟩:=dI g;have a:=c 4 _ _ _ _ _ _ _ (by omega) (by omega) i;cases dS o;have b:=c 3 _ _ _ _ _ _ _ (by omega) (fun _=>by rw[u];omega) p;omega
   ·cases h;omega
  |4,_=>
   rw[vk]at h;obtain⟨l,r1,q,i,g⟩:=dI h;have a:=c 6 _ _ _ _ _ _ _ (by omega) (by omega) i;have b:=c 5 _ _ _ _ _ _ _ (by omega) (fun _=>a.1) g;omega
  |5,_=>
   rw[vn]at h;have v:=A (by omega);split at h
   ·split at h
    ·exact(dL h).elim
    ·split at h
     ·exact(dL h).elim
     ·obtain⟨z,D,B,o,p⟩:=dI h;cases dS o;have b:=c 5 _ _ _ _ _ _ _ (by omega) (fun _=>by rw[one];omega) p;omega
   ·cases h;omega
  |6,_=>
   rw[vo]at h;by_cases c0:40<d
   ·rw[aB c0]at h;exact(dL h).elim
   rw[ax c0]at h;by_cases c1:isT kV r=true
   ·rw[aB c1]at h;obtain⟨l,r1,q,i,g⟩:=dI h;have a:=c 0 _ _ _ _ _ _ _ (by omega) (by omega) i;split at g
    ·cases g;omega
    ·exact(dL g).elim
   rw[ax c1]at h;by_cases F:isT kb r=true
   ·rw[aB F]at h;cases dS h;rw[j];omega
   rw[ax F]at h;by_cases G:isT jF r=true
   ·rw[aB G]at h;cases dS h;rw[j];omega
   rw[ax G]at h;by_cases H:isT j6 r=true
   ·rw[aB H]at h;exact c 7 _ _ _ _ _ _ _ (by omega) (by omega) h
   rw[ax H]at h;by_cases I:isT lK r=true
   ·rw[aB I]at h;split at h
    ·exact(dL h).elim
    split at h
    ·split at h
     ·exact(dL h).elim
     split at h
     ·exact(dL h).elim
     exact c 8 _ _ _ _ _ _ _ (by omega) (by omega) h
    ·exact c 8 _ _ _ _ _ _ _ (by omega) (by omega) h
   rw[ax I]at h;by_cases J:kindP r=1
   ·rw[aB J]at h;cases dS h;rw[j];omega
   rw[ax J]at h;by_cases K:kindP r≠4
   ·rw[aB K]at h;exact(dL h).elim
   rw[ax K]at h;split at h
   ·split at h
    ·exact(dL h).elim
    split at h
    ·exact(dL h).elim
    cases dS h;rw[j];omega
   ·exact(dL h).elim
  |7,_=>
   rw[vq]at h;split at h
   ·exact(dL h).elim
   ·split at h
    ·exact c 7 _ _ _ _ _ _ _ (by omega) (by omega) h
    ·exact c 8 _ _ _ _ _ _ _ (by omega) (by omega) h
  |8,_=>
   rw[vt]at h;split at h
   ·obtain⟨l,r1,q,i,g⟩:=dI h;cases dS g;have a:=c 4 _ _ _ _ _ _ _ (by omega) (by omega) i;rw[one];omega
   ·exact(dL h).elim
theorem OF {E d:Nat}{e:Ex}{r:List Tk}{n:Nat}{a:Ex}{c:List Tk}{b:Nat}(h:rd E 0 d e r n= .ok (a,c,b)):hgt a<=b:=(Ez E _ 0 d e r n a c b (by omega) (by omega) h).1
abbrev Ru:=List UInt8×Ex
def pI (E:Nat)(r:List Tk):Except (Int×Nat) (Ru×List Tk):=
 if kindP r≠1 then .error (2,atP E r)
 else if isT wIs r.tail then
  match rd E 0 1 ex0 r.tail.tail 0 with
  | .error q=> .error q
  | .ok (e,q,_)=>if 40<hgt e then .error (4,atP E q) else if isT s8 q then .ok ((textP r,e),q.tail) else .error (2,atP E q)
 else .error (2,atP E r.tail)
def ja (E:Nat):Nat->List Ru->List Tk->Except (Int×Nat) (List Ru)
 |0,a,_=> .ok a
 |f+1,a,r=>
  if r.length=0 then .ok a
  else if isT vd r then
   if a.length=40 then .error (5,atP E r.tail)
   else match pI E r.tail with
    | .error q=> .error q
    | .ok (u,q)=>ja E f (a++[u]) q
  else .error (2,atP E r)
abbrev Way (E:Nat->Nat->Bool)(i k:Nat):Prop:=Relation.TransGen (fun a b=>E a b=true) i k
def wars (E:Nat->Nat->Bool):Nat->Nat->Nat->Bool
 |0,i,k=>E i k
 |m+1,i,k=>wars E m i k||(wars E m i m&&wars E m m k)
theorem rI {E:Nat->Nat->Bool}{m i k:Nat}(h:wars E m i k=true): ∀d,wars E (m+d) i k=true
 |0=>h
 |d+1=>by
  show wars E ((m+d)+1) i k=true;simp only[wars,rI h d,Bool.true_or]
theorem Cj {E:Nat->Nat->Bool}{m i j k:Nat}(o:j<m)(d:wars E m i j=true)(c:wars E m j k=true):wars E m i k=true:=by
 induction m generalizing i j k with
 |zero=>omega
 |succ m n=>
  by_cases l:j=m
  ·subst l;simp only[wars,iC,bz]at d c⊢
   have a:wars E j i j=true:=by
    rcases d with h|⟨h,_⟩<;>exact h
   have b:wars E j j k=true:=by
    rcases c with h|⟨_,h⟩<;>exact h
   exact .inr ⟨a,b⟩
  ·have f:j<m:=(by omega);simp only[wars,iC,bz]at d c⊢;rcases d with d|⟨d,g⟩
   ·rcases c with c|⟨c,e⟩
    ·exact .inl (n f d c)
    ·exact .inr ⟨n f d c,e⟩
   ·rcases c with c|⟨c,e⟩
    ·exact .inr ⟨d,n f g c⟩
    ·exact .inr ⟨d,e⟩
def upd (m:Nat->Bool)(n:Nat):Nat->Bool:=fun k=>decide (k=n)||m k
def fol (S:Nat->List Nat):Nat->(Nat->Bool)->Nat->Nat->Bool
 |0,m,_=>m
 |f+1,m,r=>(S r).foldl (fun m n=>if m n=true then m else fol S f (upd m n) n) m
def unm (m:Nat->Bool):Nat->Nat
 |0=>0
 |n+1=>(if m n=true then 0 else 1)+unm m n
theorem yr {m m':Nat->Bool}(h: ∀k,m k=true->m' k=true): ∀n,unm m' n<=unm m n
 |0=>by simp[unm]
 |n+1=>by
  have:=yr h n;simp only[unm];by_cases c:m n=true
  ·rw[aB c,aB (h n c)];omega
  ·rw[ax c];split<;>omega
theorem zQ {m:Nat->Bool}{k:Nat}(a:m k=false): ∀n,k<n->unm (upd m k) n+1<=unm m n
 |0,h=>by omega
 |n+1,h=>by
  have b:=yr (m:=m) (m':=upd m k) (fun q d=>by simp[upd,d]) n;simp only[unm];by_cases c:k=n
  ·subst c;rw[aB (by simp[upd]),ax (by rw[a];decide)];omega
  ·have:=zQ a n (by omega);have e:upd m k n=m n:=(by simp[upd,show n≠k from fun e=>c e.symm]);rw[e];omega
structure Fol (S:Nat->List Nat)(m m':Nat->Bool)(r:Nat):Prop where
 up: ∀k,m k=true->m' k=true
 next: ∀n∈S r,m' n=true
 new: ∀v,m' v=true->m v=false-> ∀n∈S v,m' n=true
 way: ∀v,m' v=true->m v=false->Way (fun a b=>(S a).contains b) r v
theorem Ck {S:Nat->List Nat}{n:Nat}(A: ∀r,∀k∈S r,k<n): ∀(f:Nat) (m:Nat->Bool) (r:Nat),unm m n+1<=f->Fol S m (fol S f m r) r
 |0,_,_,h=>by omega
 |f+1,m,r,H=>by
  have x: ∀(l:List Nat),(∀k∈l,k∈S r)-> ∀m1:Nat->Bool,(∀k,m k=true->m1 k=true)->
    (∀k,m1 k=true->(l.foldl (fun m n=>if m n=true then m else fol S f (upd m n) n) m1) k=true)/\(∀k∈l,(l.foldl (fun m n=>if m n=true then m else fol S f (upd m n) n) m1) k=true)/\
    (∀v,(l.foldl (fun m n=>if m n=true then m else fol S f (upd m n) n) m1) v=true->m1 v=false->(∀k∈S v,(l.foldl (fun m n=>if m n=true then m else fol S f (upd m n) n) m1) k=true)/\Way (fun a b=>(S a).contains b) r v):=by
   intro l;induction l with
   |nil=>
    intro _ m1 _;exact⟨fun k h=>h,fun k d=>(by cases d),fun v i j=>by rw[List.foldl_nil]at i;rw[i]at j;cases j⟩
   |cons q l D=>
    intro B m1 y;have C:=B q bq;have t: ∀k∈l,k∈S r:=fun k d=>B k (bL _ d);simp only[List.foldl_cons];by_cases c:m1 q=true
    ·rw[aB c];obtain⟨g,s,p⟩:=D t m1 y;refine⟨g,fun k d=> ?_,p⟩;rcases bO.1 d with rfl|d
     ·exact g _ c
     ·exact s k d
    ·rw[ax c];have E:m1 q=false:=(by simpa using c);have I:=zQ E n (A r q C);have G:=yr y n;have F:=Ck A f (upd m1 q) q (by omega);have u: ∀k,m1 k=true->fol S f (upd m1 q) q k=true:=fun k d=>F.up k (by simp[upd,d]);have z:fol S f (upd m1 q) q q=true:=F.up q (by simp[upd]);obtain⟨g,s,p⟩:=D t (fol S f (upd m1 q) q) (fun k d=>u k (y k d));have o:Way (fun a b=>(S a).contains b) r q:= .single (by simpa using C);refine⟨fun k d=>g k (u k d),fun k d=> ?_,fun v i j=> ?_⟩
     ·rcases bO.1 d with rfl|d
      ·exact g _ z
      ·exact s k d
     ·cases hv:fol S f (upd m1 q) q v with
      |false=>exact p v i hv
      |true=>
       by_cases e:v=q
       ·subst e;exact⟨fun k d=>g k (F.next k d),o⟩
       ·have w:upd m1 q v=false:=(by simp[upd,e,j]);exact⟨fun k d=>g k (F.new v hv w k d),o.trans (F.way v hv w)⟩
  obtain⟨g,s,p⟩:=x (S r) (fun k d=>d) m (fun k d=>d);exact⟨g,s,fun v i j=>(p v i j).1,fun v i j=>(p v i j).2⟩
theorem zS {S:Nat->List Nat}{n:Nat}(d: ∀r,∀k∈S r,k<n){f r v:Nat}(e:n+1<=f):fol S f (fun _=>false) r v=true↔Way (fun a b=>(S a).contains b) r v:=by
 have g:unm (fun _=>false) n<=n:=by
  have: ∀n,unm (fun _=>false) n=n:=by
   intro n;induction n with
   |zero=>rfl
   |succ n c=>simp[unm,c];omega
  rw[this];omega
 have F:=Ck d f (fun _=>false) r (by omega);constructor
 ·intro h;exact F.way v h rfl
 ·intro h;induction h with
  |single h=>exact F.next _ (by simpa using h)
  |tail _ h c=>exact F.new _ c rfl _ (by simpa using h)
def addN (a:List Int)(n:Int):List Int:=if n∈a then a else a++[n]
theorem qY (a:List Int)(n m:Int):m∈addN a n↔m∈a\/m=n:=by
 unfold addN;split
 ·rename_i h;constructor
  ·exact .inl
  ·rintro(b|rfl)
   ·exact b
   ·exact h
 ·simp
def atF:List Ru->Nat->List UInt8->Int
 |[],_,_=> -1
 |u::l,i,x=>if u.1=x then(i:Int) else atF l (i+1) x
theorem Cl {l:List Ru}{j:Nat}{u:Ru}{x:List UInt8}(h:l[j]? =some u):atF (l.drop j) j x=if u.1=x then(j:Int) else atF (l.drop (j+1)) (j+1) x:=by
 obtain⟨a,b⟩:=aF.1 h;rw[bJ a,b];rfl
theorem yt: ∀(l:List Ru) (i:Nat) (x:List UInt8),-1<=atF l i x/\atF l i x<i+l.length/\(0<=atF l i x->(i:Int)<=atF l i x)
 |[],i,x=>by simp[atF];omega
 |u::l,i,x=>by
  have:=yt l (i+1) x;simp only[atF,bV];split
  ·omega
  ·omega
theorem Im: ∀(l:List Ru) (i k:Nat) (x:List UInt8),atF l i x=((i+k:Nat):Int)-> ∃u,l[k]? =some u/\u.1=x
 |[],i,k,x,h=>by simp[atF]at h;omega
 |u::l,i,k,x,h=>by
  simp only[atF]at h;split at h
  ·rename_i c;have:k=0:=(by omega);subst this;exact⟨u,rfl,c⟩
  ·cases k with
   |zero=>
    have:=yt l (i+1) x;omega
   |succ k=>
    obtain⟨v,a,b⟩:=Im l (i+1) k x (by rw[h];omega);exact⟨v,by simpa using a,b⟩
def atP5 (l:List Ru)(x:List UInt8):Int:=atF l 0 x
theorem Io {l:List Ru}{x:List UInt8}{k:Nat}(h:atP5 l x=(k:Int)): ∃u,l[k]? =some u/\u.1=x:=Im l 0 k x (by rw[cY];exact h)
theorem ny (l:List Ru)(x:List UInt8): -1<=atP5 l x/\atP5 l x<l.length:=by
 have:=yt l 0 x;unfold atP5;omega
def nms (e:Ex):List (List UInt8):=(if e.kind=10 then [e.name] else [])++(e.kids.attach.map fun k=>nms k.1).flatten
 termination_by SizeOf.sizeOf e
 decreasing_by exact iZ k.2
def jL (a:List Ex):List (List UInt8):=(a.map nms).flatten
theorem md (e:Ex):nms e=(if e.kind=10 then [e.name] else [])++jL e.kids:=by
 rw[nms];congr 2;show List.map (nms∘Subtype.val) e.kids.attach=_;rw[<-j7,iD]
def ij (l:List Ru)(a:List Int)(xs:List (List UInt8)):List Int:=xs.foldl (fun a x=>addN a (atP5 l x)) a
theorem qt {l:List Ru}{m:Int}: ∀(xs:List (List UInt8)) (a:List Int),m∈ij l a xs↔m∈a\/ ∃x∈xs,atP5 l x=m
 |[],a=>by simp[ij]
 |y::xs,a=>by
  have:=qt (l:=l) (m:=m) xs (addN a (atP5 l y));show m∈ij l (addN a (atP5 l y)) xs↔_;rw[this,qY];constructor
  ·rintro((h|h)|⟨x,b,c⟩)
   ·exact .inl h
   ·exact .inr ⟨y,bq,h.symm⟩
   ·exact .inr ⟨x,bL _ b,c⟩
  ·rintro(h|⟨x,b,c⟩)
   ·exact .inl (.inl h)
   ·rcases bO.1 b with rfl|b
    ·exact .inl (.inr c.symm)
    ·exact .inr ⟨x,b,c⟩
def gF (l:List Ru)(u:Ru):List Int:=ij l [] (nms u.2)
theorem tj {l:List Ru}: ∀(xs:List (List UInt8)) (c:List Int),c.Nodup->(∀m∈c,-1<=m/\m<l.length)->(ij l c xs).Nodup/\ ∀m∈ij l c xs,-1<=m/\m<l.length
 |[],c,d,f=>⟨d,f⟩
 |y::xs,c,d,f=>by
  refine tj xs (addN c (atP5 l y)) ?_ ?_
  ·unfold addN;split
   ·exact d
   ·rename_i h;rw[List.nodup_append];refine⟨d,by simp,fun a ha b i=> ?_⟩;simp at i;subst i;exact fun e=>h (e▸ha)
  ·intro m g;rcases(qY _ _ _).1 g with g|rfl
   ·exact f m g
   ·exact ny l y
end Lx
def yu (w:World)(b:Nat)(o:Obj):World:={w with heap:=w.heap.setIfInBounds b o}
theorem DM {r n:Nat}{a w:World}(h:Below n a w)(c:n<=r)(o:Obj):Below n a (yu w r o):=
 ⟨h.os,h.tape,h.output,by simpa[yu] using h.size,fun k b=>by
   rw[<-h.block k b];show(w.heap.setIfInBounds r o)[k]? =_;rw[dx (by omega)]⟩
theorem cj {p:Prop}(h:p):Rb p:=h
def dM (w:World)(v:Value)(a:List Int):Prop:= ∃p c,v= .slice p a.length c/\a.length<9223372036854775808/\ ∀(j:Nat) (n:Int),a[j]? =some n-> ∃g o:Nat,p=some ⟨g,o,none⟩/\w.cell? (ae g (o+j))=some (ag n)
theorem dM.below {w w':World}{v:Value}{a:List Int}(h:dM w v a)(i:aq w w'):dM w' v a:=by
 obtain⟨p,c,b,d,f⟩:=h;refine⟨p,c,b,d,fun j n l=> ?_⟩;obtain⟨g,o,e,k⟩:=f j n l;exact⟨g,o,e,aj i k⟩
def idxF:List Int->Nat->Int->Int
 |[],_,_=> -1
 |m::l,i,n=>if m=n then(i:Int) else idxF l (i+1) n
theorem Iq {l:List Int}{j:Nat}{m n:Int}(h:l[j]? =some m):idxF (l.drop j) j n=if m=n then(j:Int) else idxF (l.drop (j+1)) (j+1) n:=by
 obtain⟨a,b⟩:=aF.1 h;rw[bJ a,b];rfl
theorem Cn: ∀(l:List Int) (i:Nat) (n:Int),(0<=idxF l i n)↔n∈l
 |[],i,n=>by simp[idxF]
 |m::l,i,n=>by
  have:=Cn l (i+1) n;simp only[idxF,bO];by_cases h:m=n
  ·rw[aB h];constructor
   ·intro _;exact .inl h.symm
   ·intro _;omega
  ·rw[ax h,this];constructor
   ·exact .inr
   ·rintro(e|e)
    ·exact absurd e.symm h
    ·exact e
theorem FQ (b:List Int)(v:Value)(n:Int)(w:World)(h:dM w v b):Calls prog 77 #[v,ag n] w fun r w'=>r= .returned (ag (idxF b 0 n))/\aq w w':=by
 obtain⟨p,c,rfl,x,u⟩:=h;have l:=cj u;clear u;go_enter func77,ntmps77;go_wp2_with fail;go_loopw [5,8] (fun _ t wr=> ∃j:Nat,t=ag (j:Int)/\j<=b.length/\idxF b 0 n=idxF (b.drop j) j n/\wr=w) (fun _ t _=>b.length-(intOf t).toNat);case atStart=>exact⟨0,rfl,by omega,rfl,rfl⟩
 case round=>
  obtain⟨j,rfl,A,d,rfl⟩:=hrel;have z:(0:Int)<=(j:Int):=(by omega);by_cases q:j<b.length
  ·have k:(j:Int)<(b.length:Int):=(by omega);obtain⟨m,f⟩: ∃p,b[j]? =some p:=⟨b[j],ay q⟩
   rw[Iq f]at d;obtain⟨g,o,s,c0⟩:=l.o j _ f;subst s;by_cases a:m=n
   ·rw[aB a]at d;have y:(n==m)=true:=(by rw[a];simp);have i:=cj d;clear d f l a;go_wp2_with fail;go_ret;exact⟨by(rw[i.o])<;>rfl,aH _ _⟩
   ·rw[ax a]at d;have y:(n==m)=false:=bm.2 (fun e=>a e.symm);have i:=cj d;clear d f a;go_wp2_with fail;go_roundw;case rel=>exact⟨j+1,by go_num,by omega,i.o,trivial⟩
    case measure=>simp[intOf];omega
  ·have k: ¬(j:Int)<(b.length:Int):=(by omega)
   have i:Rb (idxF b 0 n= -1):=by
    show _=_;rw[d,dq (by omega)];rfl
   clear d l;go_wp2_with fail;go_ret;exact⟨by(rw[i.o])<;>rfl,aH _ _⟩
theorem jM (a:List Int)(v:Value)(n:Int)(w:World)(h:dM w v a):Calls prog 46 #[v,ag n] w fun r w'=>r= .returned (.bool (decide (n∈a)))/\aq w w':=by
 have c1:=FQ a v n w h;obtain⟨p,c,rfl,_,_⟩:=h
 have f:Rb (decide (n∈a)=decide (0<=idxF a 0 n)):=by
  show _=_;have d:=Cn a 0 n;by_cases b:n∈a
  ·rw[bh b,bh (d.2 b)]
  ·rw[bn b,bn (fun e=>b (d.1 e))]
 go_enter func46,ntmps46;go_wp2_with fail;refine c1.mono ?_;rintro r i ⟨rfl,g⟩;clear c1;generalize idxF a 0 n=q at*;go_wp2_with fail;go_ret;exact⟨by(rw[f.o])<;>rfl,g⟩
end Go.Proofs.YtlkehieagdkgiaaGreatDoor
