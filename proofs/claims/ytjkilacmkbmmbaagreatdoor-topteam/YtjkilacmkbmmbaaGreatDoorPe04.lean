/- Texts of the proof. -/
import Derived.Test.YtjkilacmkbmmbaaGreatDoorPe03
import Derived.Lib.LaidTab
import Derived.Test.YtjkilacmkbmmbaaGreatDoorPe02
set_option maxRecDepth 100000
set_option maxHeartbeats 8000000
namespace Go.Proofs.YtjkilacmkbmmbaaGreatDoor
open Go.Proofs.Tryz Go.RowKit Lx Vx Mx Msk
def kL:Array Value:=(js.map fun l=>Value.string ⟨l.toArray⟩).toArray
theorem Jh (j:Nat)(hj:j<13):kL[j]? =some (.string ⟨(js.getD j []).toArray⟩):=by
 have h:j<js.length:=hj;unfold kL;simp only[List.getElem?_toArray,bg,dJ,ax h];rfl
theorem Gc (w:World):Calls prog 147 #[] w fun e w'=>e= .returned (.slice (some (ae w.heap.size 0)) 13 13)/\w'=w.alloc (.cells kL 9):=by
 go_enter func147,ntmps147;go_wp2;go_ret;exact⟨rfl,rfl⟩
theorem Ge {x:List UInt8}(h: ∀j,j<13->js.getD j []≠x):isWordL x=false:=by
 cases e:isWordL x with
 |false=>rfl
 |true=>
  unfold isWordL at e;rw[List.any_eq_true]at e;obtain⟨y,hy,hx⟩:=e;obtain⟨j,hj,rfl⟩:=List.getElem_of_mem hy;have hj':j<13:=hj;exact absurd (by simpa[List.getD,hj] using hx) (h j hj')
theorem Eo {x:List UInt8}(j:Nat)(hj:j<13)(h:js.getD j []=x):isWordL x=true:=by
 unfold isWordL;rw[List.any_eq_true];have hj':j<js.length:=hj;exact⟨js.getD j [],by simp[List.getD,hj'],by rw[h];exact beq_self_eq_true x⟩
theorem Ji (x:ByteArray)(l:List UInt8)(hx:x.data.toList=l)(g:Nat)(w:World)(hg:w.heap[g]? =ah kL 9):
  Calls prog 172 #[.slice (some (ae g 0)) 13 13,.string x] w fun e w'=>(∃i:Int,e= .returned (ag i)/\decide (0<=i)=isWordL l)/\w'=w:=by
 have hcell: ∀j,j<13->w.cell? (ae g j)=some (.string ⟨(js.getD j []).toArray⟩):=fun j hj=>by rw[aV _ _ _ _ _ _ hg,Jh j hj]
 have HC:P3 (∀j,j<13->w.cell? (ae g j)=some (.string ⟨(js.getD j []).toArray⟩)):=hcell;clear hcell hg;go_enter func172,ntmps172;go_wp2;go_loop [8] (fun i=> ∃k:Nat,k<=13/\i=ag k/\ ∀j,j<k->js.getD j []≠l) (fun i=>13-(intOf i).toNat);case atStart=>exact⟨0,by omega,rfl,fun i h=>by omega⟩
 case round=>
  obtain⟨k,hk,rfl,hall⟩:=hrel;have HA:P3 (∀j,j<k->js.getD j []≠l):=hall;clear hall;by_cases hlt:k<13
  ·have hlt':(k:Int)<13:=(by omega);have hk0:(0:Int)<=(k:Int):=(by omega);have ck:=HC.o k hlt;generalize hy:(⟨(js.getD k []).toArray⟩:ByteArray)=y at ck;have hyl:y.data.toList=js.getD k []:=(by rw[<-hy]);by_cases he:js.getD k []=l
   ·have hq:(x.toList==y.toList)=true:=(by rw[Lib.toList_data,Lib.toList_data,hyl,hx,he];simp);have hW:P3 (isWordL l=true):=Eo k hlt he;clear he hyl hy;go_wp2;go_ret;exact⟨⟨_,rfl,by rw[hW.o];simp⟩,rfl⟩
   ·have hq:(x.toList==y.toList)=false:=by
     rw[Lib.toList_data,Lib.toList_data,hyl,hx];rw[bf];exact fun e=>he e.symm
    have HE:P3 (js.getD k []≠l):=he;clear he hyl hy;go_wp2;go_round
    case rel=>
     refine⟨k+1,by omega,by go_num,fun j hj=> ?_⟩;by_cases e:j=k
     ·subst e;exact HE.o
     ·exact HA.o j (by omega)
    case measure=>simp[intOf];omega
  ·have hkl:k=13:=(by omega);subst hkl;have hW:P3 (isWordL l=false):=Ge HA.o;go_wp2;go_ret;exact⟨⟨_,rfl,by rw[hW.o];simp⟩,rfl⟩
theorem wH (x:ByteArray)(l:List UInt8)(hx:x.data.toList=l)(w:World):
  Calls prog 109 #[.string x] w fun e w'=>e= .returned (.bool (isWordL l))/\ao w w':=by
 have hg:(w.alloc (.cells kL 9)).heap[w.heap.size]? =ah kL 9:=aC w _;have hb:ao w (w.alloc (.cells kL 9)):=am _ _;have cf:=Ji x l hx _ _ hg;have cw:=Gc w;generalize w.alloc (.cells kL 9)=w1 at*;go_enter func109,ntmps109
 go_wp2_with(first
  |(go_at_call 147;refine cw.mono ?_;rintro e w' ⟨rfl,rfl⟩)
  |(go_at_call 146;go_in)
  |(go_at_call 172;refine cf.mono ?_;rintro e w' ⟨⟨i,rfl,hi⟩,rfl⟩))
 go_ret;exact⟨by rw[<-hi];rfl,hb⟩
namespace Cal
def lpB (y:Int):Bool:=decide (y%4=0/\(¬y%100=0\/y%400=0))
def lp (y:Int):Int:=if y%4=0/\(¬y%100=0\/y%400=0) then 1 else 0
def dim (y m:Int):Int:=
 if y<2000\/2399<y\/m<1\/12<m then 0
 else if m=2 then 28+lp y
 else if m=4\/m=6\/m=9\/m=11 then 30 else 31
def cum (y m:Int):Int:=
 if m<=1 then 0 else if m=2 then 31 else if m=3 then 59+lp y else if m=4 then 90+lp y
 else if m=5 then 120+lp y else if m=6 then 151+lp y else if m=7 then 181+lp y
 else if m=8 then 212+lp y else if m=9 then 243+lp y else if m=10 then 273+lp y
 else if m=11 then 304+lp y else if m=12 then 334+lp y else 365+lp y
def ys (y:Int):Int:=365*(y-2000)+((y-2000+3)/4-(y-2000+99)/100+(y-2000+399)/400)
theorem Er (y:Int):0<=lp y/\lp y<=1:=by unfold lp;split<;>omega
theorem P1 (y:Int):lp y=if lpB y=true then 1 else 0:=by unfold lp lpB;simp
theorem Nu (y m:Int):0<=dim y m/\dim y m<=31:=by
 have:=Er y;unfold dim;split
 ·omega
 ·split
  ·omega
  ·split<;>omega
theorem LB (y m:Int)(h:y<2000\/2399<y\/m<1\/12<m):dim y m=0:=by unfold dim;rw[ay h]
theorem LC (y m:Int)(h:1<=dim y m):2000<=y/\y<=2399/\1<=m/\m<=12:=by
 by_cases g:y<2000\/2399<y\/m<1\/12<m
 ·rw[LB y m g]at h;omega
 ·omega
theorem Nv (y:Int):cum y 13=365+lp y:=rfl
theorem Ba (y m:Int)(a:2000<=y)(b:y<=2399)(c:1<=m)(d:m<=12):cum y (m+1)=cum y m+dim y m:=by
 have h:m=1\/m=2\/m=3\/m=4\/m=5\/m=6\/m=7\/m=8\/m=9\/m=10\/m=11\/m=12:=by omega
 unfold dim;rw[aw (by omega)];rcases h with rfl|rfl|rfl|rfl|rfl|rfl|rfl|rfl|rfl|rfl|rfl|rfl<;>simp[cum]<;>omega
theorem Nw (y m:Int)(c:1<=m)(d:m<=13):0<=cum y m/\cum y m<=366:=by
 have:=Er y;have h:m=1\/m=2\/m=3\/m=4\/m=5\/m=6\/m=7\/m=8\/m=9\/m=10\/m=11\/m=12\/m=13:=by omega
 rcases h with rfl|rfl|rfl|rfl|rfl|rfl|rfl|rfl|rfl|rfl|rfl|rfl|rfl<;>simp[cum]<;>omega
theorem Jl (y m k:Int)(c:1<=m)(d:m<k)(e:k<=13)(a:2000<=y)(b:y<=2399):cum y m+dim y m<=cum y k:=by
 rw[<-Ba y m a b c (by omega)];have:=Er y;have h:m=1\/m=2\/m=3\/m=4\/m=5\/m=6\/m=7\/m=8\/m=9\/m=10\/m=11\/m=12:=by omega
 have g:k=2\/k=3\/k=4\/k=5\/k=6\/k=7\/k=8\/k=9\/k=10\/k=11\/k=12\/k=13:=by omega
 rcases h with rfl|rfl|rfl|rfl|rfl|rfl|rfl|rfl|rfl|rfl|rfl|rfl<;>
  rcases g with rfl|rfl|rfl|rfl|rfl|rfl|rfl|rfl|rfl|rfl|rfl|rfl<;>first|omega|(simp[cum]<;>omega)
theorem LD:ys 2000=0:=by decide
theorem LE:ys 2400=146097:=by decide
theorem LF (y:Int):ys (y+1)=ys y+365+lp y:=by unfold ys lp;split<;>omega
theorem Dx (a b:Int)(h:a<=b):ys a<=ys b:=by unfold ys;omega
theorem K8 (y:Int)(a:2000<=y)(b:y<=2400):0<=ys y/\ys y<=146097:=by
 have h1:=Dx _ _ a;have h2:=Dx _ _ b;rw[LD]at h1;rw[LE]at h2;exact⟨h1,h2⟩
def num (y m d:Int):Int:=ys y+cum y m+d-1
theorem wJ (y m d:Int)(h:1<=d)(g:d<=dim y m):0<=num y m d/\num y m d<146097/\ys y<=num y m d/\num y m d<ys (y+1):=by
 obtain⟨a,b,c,e⟩:=LC y m (by omega);have h1:=K8 y a (by omega);have h2:=K8 (y+1) (by omega) (by omega);have h3:=LF y;have h4:=Ba y m a b c e;have h5:=Nw y m c (by omega)
 have h6:cum y (m+1)<=365+lp y:=by
  by_cases h:m=12
  ·subst h;exact Int.le_of_eq rfl
  ·have:=Jl y (m+1) 13 (by omega) (by omega) (by omega) a b;rw[Nv]at this;have:=Nu y (m+1);omega
 unfold num;omega
end Cal
def tab:List Int:=[31,28,31,30,31,30,31,31,30,31,30,31]
def gc (w:World):Prop:= ∀i:Nat,i<12->w.cell? (ae 1 i)=some (ag (tab.getD i 0))
theorem Bb (y:Int)(w:World)(h0:0<=y)(h1:y<=9223372036854775807):
  Calls prog 171 #[ag y] w fun e w'=>e= .returned (.bool (Cal.lpB y))/\w'=w:=by
 by_cases h4:y%4=0
 ·by_cases h100:y%100=0
  ·by_cases h400:y%400=0
   ·have e:Cal.lpB y=true:=(by unfold Cal.lpB;exact a7 ⟨h4,.inr h400⟩);rw[e];have a4:(y%4==0)=true:=(by simp[h4]);have a1:(y%100 !=0)=false:=(by simp[h100]);have a2:(y%400==0)=true:=(by simp[h400]);clear e h4 h100 h400;go_enter func171,ntmps171;go_wp2;go_ret;exact⟨rfl,rfl⟩
   ·have e:Cal.lpB y=false:=(by unfold Cal.lpB;exact bj (fun h=>by omega));rw[e];have a4:(y%4==0)=true:=(by simp[h4]);have a1:(y%100 !=0)=false:=(by simp[h100]);have a2:(y%400==0)=false:=(by simp[h400]);clear e h4 h100 h400;go_enter func171,ntmps171;go_wp2;go_ret;exact⟨rfl,rfl⟩
  ·have e:Cal.lpB y=true:=(by unfold Cal.lpB;exact a7 ⟨h4,.inl h100⟩);rw[e];have a4:(y%4==0)=true:=(by simp[h4]);have a1:(y%100 !=0)=true:=(by simp[h100]);clear e h4 h100;go_enter func171,ntmps171;go_wp2;go_ret;exact⟨rfl,rfl⟩
 ·have e:Cal.lpB y=false:=by unfold Cal.lpB;exact bj (fun h=>h4 h.1)
  rw[e];have a4:(y%4==0)=false:=(by simp[h4]);clear e h4;go_enter func171,ntmps171;go_wp2;go_ret;exact⟨rfl,rfl⟩
theorem Es (y m:Int)(w:World)(h:y<2000\/2399<y\/m<1\/12<m):
  Calls prog 142 #[ag y,ag m] w fun e w'=>e= .returned (ag 0)/\w'=w:=by
 by_cases a:y<2000
 ·go_enter func142,ntmps142;go_wp2;go_ret;exact⟨rfl,rfl⟩
 ·by_cases b:2399<y
  ·go_enter func142,ntmps142;go_wp2;go_ret;exact⟨rfl,rfl⟩
  ·by_cases c:m<1
   ·go_enter func142,ntmps142;go_wp2;go_ret;exact⟨rfl,rfl⟩
   ·have d:12<m:=(by omega);go_enter func142,ntmps142;go_wp2;go_ret;exact⟨rfl,rfl⟩
theorem Et (y:Int)(w:World)(a:2000<=y)(b:y<=2399)(hc:w.cell? (ae 1 1)=some (ag 28)):
  Calls prog 142 #[ag y,ag 2] w fun e w'=>e= .returned (ag (28+Cal.lp y))/\w'=w:=by
 have hl:=Cal.P1 y;cases hb:Cal.lpB y
 ·rw[hb]at hl;simp at hl;rw[hl];clear hl;go_enter func142,ntmps142;go_wp2_with(go_at_call 171;refine(Bb _ _ (by omega) (by omega)).mono ?_;rw[hb];rintro e w' ⟨rfl,rfl⟩)
  go_ret;exact⟨rfl,rfl⟩
 ·rw[hb]at hl;simp at hl;rw[hl];clear hl;go_enter func142,ntmps142;go_wp2_with(go_at_call 171;refine(Bb _ _ (by omega) (by omega)).mono ?_;rw[hb];rintro e w' ⟨rfl,rfl⟩)
  go_ret;exact⟨rfl,rfl⟩
theorem Gh (y m:Int)(w:World)(hT:gc w)(a:2000<=y)(b:y<=2399)(c:1<=m)(d:m<=12):
  Calls prog 142 #[ag y,ag m] w fun e w'=>e= .returned (ag (Cal.dim y m))/\w'=w:=by
 have h:m=1\/m=2\/m=3\/m=4\/m=5\/m=6\/m=7\/m=8\/m=9\/m=10\/m=11\/m=12:=by omega
 have e:Cal.dim y m=if m=2 then 28+Cal.lp y else if m=4\/m=6\/m=9\/m=11 then 30 else 31:=by unfold Cal.dim;rw[aw (by omega)]
 rw[e];clear e;rcases h with rfl|h
 ·have hc:=hT 0 (by decide);simp[tab]at hc;rw[aw (by decide),aw (by decide)];clear hT;go_enter func142,ntmps142;go_wp2;go_ret;exact⟨rfl,rfl⟩
 rcases h with rfl|h
 ·have hc:=hT 1 (by decide);simp[tab]at hc;exact Et y w a b hc
 rcases h with rfl|h
 ·have hc:=hT 2 (by decide);simp[tab]at hc;rw[aw (by decide),aw (by decide)];clear hT;go_enter func142,ntmps142;go_wp2;go_ret;exact⟨rfl,rfl⟩
 rcases h with rfl|h
 ·have hc:=hT 3 (by decide);simp[tab]at hc;rw[aw (by decide),ay (by decide)];clear hT;go_enter func142,ntmps142;go_wp2;go_ret;exact⟨rfl,rfl⟩
 rcases h with rfl|h
 ·have hc:=hT 4 (by decide);simp[tab]at hc;rw[aw (by decide),aw (by decide)];clear hT;go_enter func142,ntmps142;go_wp2;go_ret;exact⟨rfl,rfl⟩
 rcases h with rfl|h
 ·have hc:=hT 5 (by decide);simp[tab]at hc;rw[aw (by decide),ay (by decide)];clear hT;go_enter func142,ntmps142;go_wp2;go_ret;exact⟨rfl,rfl⟩
 rcases h with rfl|h
 ·have hc:=hT 6 (by decide);simp[tab]at hc;rw[aw (by decide),aw (by decide)];clear hT;go_enter func142,ntmps142;go_wp2;go_ret;exact⟨rfl,rfl⟩
 rcases h with rfl|h
 ·have hc:=hT 7 (by decide);simp[tab]at hc;rw[aw (by decide),aw (by decide)];clear hT;go_enter func142,ntmps142;go_wp2;go_ret;exact⟨rfl,rfl⟩
 rcases h with rfl|h
 ·have hc:=hT 8 (by decide);simp[tab]at hc;rw[aw (by decide),ay (by decide)];clear hT;go_enter func142,ntmps142;go_wp2;go_ret;exact⟨rfl,rfl⟩
 rcases h with rfl|h
 ·have hc:=hT 9 (by decide);simp[tab]at hc;rw[aw (by decide),aw (by decide)];clear hT;go_enter func142,ntmps142;go_wp2;go_ret;exact⟨rfl,rfl⟩
 rcases h with rfl|h
 ·have hc:=hT 10 (by decide);simp[tab]at hc;rw[aw (by decide),ay (by decide)];clear hT;go_enter func142,ntmps142;go_wp2;go_ret;exact⟨rfl,rfl⟩
 subst h;have hc:=hT 11 (by decide);simp[tab]at hc;rw[aw (by decide),aw (by decide)];clear hT;go_enter func142,ntmps142;go_wp2;go_ret;exact⟨rfl,rfl⟩
theorem rZ (y m:Int)(w:World)(hT:gc w):
  Calls prog 142 #[ag y,ag m] w fun e w'=>e= .returned (ag (Cal.dim y m))/\w'=w:=by
 by_cases h:y<2000\/2399<y\/m<1\/12<m
 ·rw[Cal.LB y m h];exact Es y m w h
 ·exact Gh y m w hT (by omega) (by omega) (by omega) (by omega)
theorem Nx (y:Int)(w:World)(a:2000<=y)(b:y<=2400):
  Calls prog 143 #[ag y] w fun e w'=>e= .returned (ag (Cal.ys y))/\w'=w:=by
 unfold Cal.ys;go_enter func143,ntmps143;go_wp2;go_ret;exact⟨rfl,rfl⟩
theorem LG (y m:Int)(w:World)(hT:gc w)(a:2000<=y)(b:y<=2399)(c:1<=m)(d:m<=13):
  Calls prog 144 #[ag y,ag m] w fun e w'=>e= .returned (ag (Cal.cum y m))/\w'=w:=by
 have H:P3 (gc w):=hT;clear hT;go_enter func144,ntmps144;go_wp2;go_loop [5,6] (fun t i=> ∃k:Int,1<=k/\k<=m/\i=ag k/\t=ag (Cal.cum y k)) (fun _ i=>(13-intOf i).toNat);case atStart=>exact⟨1,by omega,by omega,rfl,rfl⟩
 case round=>
  obtain⟨k,hk1,hk2,rfl,rfl⟩:=hrel;have cb:=Cal.Nw y k hk1 (by omega);have db:=Cal.Nu y k;by_cases hlt:k<m
  ·have cs:P3 (Cal.cum y (k+1)=Cal.cum y k+Cal.dim y k):=Cal.Ba y k a b hk1 (by omega);go_wp2_with(go_at_call 142;refine(rZ _ _ _ H.o).mono ?_;rintro e w' ⟨rfl,rfl⟩)
   go_round;case rel=>exact⟨k+1,by omega,by omega,rfl,by rw[cs.o]⟩
   case measure=>simp[intOf];omega
  ·have e:k=m:=(by omega);subst e;go_wp2;go_ret;exact⟨rfl,rfl⟩
theorem gc.below {w w':World}(h:gc w)(hb:ao w w'):gc w':=fun i hi=>cell_later hb (h i hi)
theorem gc.alloc {w:World}(h:gc w)(o:Obj):gc (w.alloc o):=h.below (am _ o)
theorem gc.drew {w:World}(h:gc w):gc w.drew:=fun i hi=>h i hi
theorem Eu (y m d:Int)(w:World)(hT:gc w)(a:1<=d)(b:d<=Cal.dim y m):
  Calls prog 105 #[.agg #[ag y,ag m,ag d]] w fun e w'=>e= .returned (.tuple #[ag (Cal.num y m d),ag 0])/\ao w w':=by
 have H:P3 (gc w):=hT;clear hT;obtain⟨r1,r2,r3,r4⟩:=Cal.LC y m (by omega);have d31:=Cal.Nu y m;have yb:=Cal.K8 y r1 (by omega);have cb:=Cal.Nw y m r3 (by omega);have n1:decide (d<1)=false:=by simp;omega
 have n2:decide (Cal.dim y m<d)=false:=by simp;omega
 go_enter func105,ntmps105;go_wp2;go_quiet ((go_at_call 142;exact eU (rZ _ _ _ (H.o.alloc _))));go_wp2;generalize hw:(w.alloc (.cells #[ag y,ag m,ag d] 169)).drewN nq=w1;have c0:w1.cell? (ae w.heap.size 0)=some (ag y):=by rw[<-hw];simp
 have c1:w1.cell? (ae w.heap.size 1)=some (ag m):=by rw[<-hw];simp
 have c2:w1.cell? (ae w.heap.size 2)=some (ag d):=by rw[<-hw];simp
 have hb:ao w w1:=by rw[<-hw];exact dr (am _ _) _
 have H1:P3 (gc w1):=H.o.below hb;clear hw H;go_quiet ((first|(go_at_call 143;exact eU (Nx y _ r1 (by omega)))|(go_at_call 144;exact eU (LG y m _ H1.o r1 r2 r3 (by omega)))));go_wp2;go_ret2;exact⟨rfl,dr hb _⟩
theorem Gi (y m d:Int)(w:World)(hT:gc w)(a:d<1\/Cal.dim y m<d):
  Calls prog 105 #[.agg #[ag y,ag m,ag d]] w fun e w'=>e= .returned (.tuple #[ag 0,ag 3])/\ao w w':=by
 have H:P3 (gc w):=hT;clear hT;by_cases a1:d<1
 ·have n1:decide (d<1)=true:=by simp;omega
  clear a;go_enter func105,ntmps105;go_wp2;go_quiet (fail);go_wp2;go_ret2;exact⟨rfl,dr (am _ _) _⟩
 ·have n1:decide (d<1)=false:=by simp;omega
  have n2:decide (Cal.dim y m<d)=true:=(by simp;omega);clear a;go_enter func105,ntmps105;go_wp2;go_quiet ((go_at_call 142;exact eU (rZ _ _ _ (H.o.alloc _))));go_wp2;go_ret2;exact⟨rfl,dr (am _ _) _⟩
theorem Gj (s:ByteArray)(l:List UInt8)(hs:s.data.toList=l)(hl:l.length<=9223372036854775806)(hf:iX l wF=true)(w:World):
  Calls prog 64 #[.string s] w fun e w'=>e= .returned (rY (oq l))/\ao w w':=by
 have hz:s.size=l.length:=by rw[<-hs,Lib.size_eq]
 obtain⟨hlen,_⟩:=pU hf;have hlen5:5<=l.length:=hlen;have hi5:(5:Int)<=(l.length:Int):=by omega
 have hi2:(2:Int)<=(l.length:Int):=by omega
 have hi3:(3:Int)<=(l.length:Int):=by omega
 obtain⟨n1,d1⟩:=md hf 3 2 (by decide) (by decide);obtain⟨n2,d2⟩:=md hf 0 2 (by decide) (by decide);have c1:=fun w=>mx (s.extract 3 5) ((l.drop 3).take 2) (by rw[Lib.extract_data,hs]) (by omega) d1 w;have c2:=fun w=>mx (s.extract 0 2) ((l.drop 0).take 2) (by rw[Lib.extract_data,hs]) (by omega) d2 w;have b1:=pj _ d1 2 (by omega) (by omega);have b2:=pj _ d2 2 (by omega) (by omega);rw[cj (by omega)]at b1 b2;have HT:P3 (oq l=if 59<valL ((l.drop 3).take 2)\/1440<60*valL ((l.drop 0).take 2)+valL ((l.drop 3).take 2) then bad 3 else⟨4,60*valL ((l.drop 0).take 2)+valL ((l.drop 3).take 2),[],5,0⟩):=rfl;generalize valL ((l.drop 3).take 2)=m at*;generalize valL ((l.drop 0).take 2)=h at*;clear n1 d1 n2 d2 hlen hf;have hb0:ao w (w.alloc (.cells #[ag 0,ag 0,ag 0,.string ⟨#[]⟩] 99)):=am _ _;have hbx:ao w (w.alloc (.cells #[ag 4,ag (60*h+m),ag 0,.string ⟨#[]⟩] 99)):=am _ _;by_cases h59:59<m
 ·go_enter func64,ntmps64
  go_wp2_with(first
   |(go_at_call 106;have _t:=c1;refine(c1 _).mono ?_;rintro e w' ⟨rfl,rfl⟩;clear _t c1)
   |(go_at_call 106;refine(c2 _).mono ?_;rintro e w' ⟨rfl,rfl⟩))
  exact fu (by rw[results64,results66]) w.heap.size (bad 3) rfl rfl rfl rfl (aC w _) ⟨by rw[HT.o,ay (.inl h59)],hb0⟩
 ·by_cases h1440:1440<60*h+m
  ·go_enter func64,ntmps64
   go_wp2_with(first
    |(go_at_call 106;have _t:=c1;refine(c1 _).mono ?_;rintro e w' ⟨rfl,rfl⟩;clear _t c1)
    |(go_at_call 106;refine(c2 _).mono ?_;rintro e w' ⟨rfl,rfl⟩))
   exact fu (by rw[results64,results66]) w.heap.size (bad 3) rfl rfl rfl rfl (aC w _) ⟨by rw[HT.o,ay (.inr h1440)],hb0⟩
  ·go_enter func64,ntmps64
   go_wp2_with(first
    |(go_at_call 106;have _t:=c1;refine(c1 _).mono ?_;rintro e w' ⟨rfl,rfl⟩;clear _t c1)
    |(go_at_call 106;refine(c2 _).mono ?_;rintro e w' ⟨rfl,rfl⟩))
   exact fu (by rw[results64,results66]) w.heap.size ⟨4,60*h+m,[],5,0⟩ rfl rfl rfl rfl (aC w _) ⟨by rw[HT.o,aw (by omega)],hbx⟩
namespace Lx
theorem gK {e k:Ex}(h:k∈e.kids):SizeOf.sizeOf k<SizeOf.sizeOf e:=by
 have h1:=List.sizeOf_lt_of_mem h;cases e;simp only[Ex.mk.sizeOf_spec]at*;omega
def hgt (e:Ex):Nat:=(e.kids.attach.map fun k=>hgt k.1).foldl max 0+1
 termination_by SizeOf.sizeOf e
 decreasing_by exact gK k.2
def hgtL (l:List Ex):Nat:=(l.map hgt).foldl max 0
theorem p8 (e:Ex):hgt e=hgtL e.kids+1:=by
 rw[hgt,hgtL];show(List.map (hgt∘Subtype.val) e.kids.attach).foldl max 0+1=_;rw[<-jE,fF]
theorem GA (l:List Nat): ∀a,l.foldl max a=max a (l.foldl max 0):=by
 induction l with
 |nil=>intro a;simp
 |cons b l ih=>
  intro a;simp only[List.foldl_cons];rw[ih (max a b),ih (max 0 b)];omega
theorem Bj:hgtL []=0:=rfl
theorem qF (k:Ex)(l:List Ex):hgtL (k::l)=max (hgt k) (hgtL l):=by
 unfold hgtL;simp only[dl,List.foldl_cons];rw[GA];omega
theorem GB (l:List Ex)(k:Ex):hgtL (l++[k])=max (hgtL l) (hgt k):=by
 unfold hgtL;rw[dh,List.foldl_append];rfl
theorem DA {e k:Ex}(h:k∈e.kids):hgt k<hgt e:=by
 rw[p8 e];generalize e.kids=l at*;induction l with
 |nil=>cases h
 |cons q l ih=>
  rw[qF];rcases bh.1 h with rfl|h
  ·omega
  ·have:=ih h;omega
theorem DB (E:Nat): ∀(f m d:Nat) (e:Ex) (r:List Tk) (n:Nat) (e':Ex) (r':List Tk) (n':Nat),m<=8->(m=1\/m=3\/m=5->hgt e<=n)->goP E f m d e r n= .ok (e',r',n')->hgt e'<=n'/\n<=n'
 |0,m,d,e,r,n,e',r',n',_,_,h=>(dx h).elim
 |f+1,m,d,e,r,n,e',r',n',hm,he,h=>by
  have ih:=DB E f;have leaf: ∀(k a b:Int) (x:List UInt8),hgt ⟨k,a,b,x,[]⟩=1:=fun k a b x=>(by rw[p8];rfl)
  have one: ∀(k a b:Int) (x:List UInt8) (t:Ex),hgt ⟨k,a,b,x,[t]⟩=hgt t+1:=fun k a b x t=>by
   rw[p8];show hgtL [t]+1=_;rw[qF,Bj];omega
  have two: ∀(k a b:Int) (x:List UInt8) (s t:Ex),hgt ⟨k,a,b,x,[s,t]⟩=max (hgt s) (hgt t)+1:=fun k a b x s t=>by
   rw[p8];show hgtL [s,t]+1=_;rw[qF,qF,Bj];omega
  match m,hm with
  |0,_=>
   rw[uf]at h;obtain⟨e1,r1,n1,h1,h2⟩:=dp h;have a:=ih 2 _ _ _ _ _ _ _ (by omega) (by omega) h1;have b:=ih 1 _ _ _ _ _ _ _ (by omega) (fun _=>a.1) h2;omega
  |1,_=>
   rw[ug]at h;have he':=he (by omega);split at h
   ·obtain⟨e1,r1,n1,h1,h2⟩:=dp h;obtain⟨e2,r2,n2,h3,h4⟩:=dp h2;have a:=ih 2 _ _ _ _ _ _ _ (by omega) (by omega) h1;cases dD h3;have b:=ih 1 _ _ _ _ _ _ _ (by omega) (fun _=>by rw[two];omega) h4;omega
   ·split at h
    ·obtain⟨e1,r1,n1,h1,h2⟩:=dp h;obtain⟨e2,r2,n2,h3,h4⟩:=dp h2;have a:=ih 2 _ _ _ _ _ _ _ (by omega) (by omega) h1;cases dD h3;have b:=ih 1 _ _ _ _ _ _ _ (by omega) (fun _=>by rw[two];omega) h4;omega
    ·cases h;omega
  |2,_=>
   rw[ui]at h;obtain⟨e1,r1,n1,h1,h2⟩:=dp h;have a:=ih 4 _ _ _ _ _ _ _ (by omega) (by omega) h1;have b:=ih 3 _ _ _ _ _ _ _ (by omega) (fun _=>a.1) h2;omega
  |3,_=>
   rw[uj]at h;have he':=he (by omega);split at h
   ·obtain⟨e1,r1,n1,h1,h2⟩:=dp h;obtain⟨e2,r2,n2,h3,h4⟩:=dp h2;have a:=ih 4 _ _ _ _ _ _ _ (by omega) (by omega) h1;cases dD h3;have b:=ih 3 _ _ _ _ _ _ _ (by omega) (fun _=>by rw[two];omega) h4;omega
   ·cases h;omega
  |4,_=>
   rw[uk]at h;obtain⟨e1,r1,n1,h1,h2⟩:=dp h;have a:=ih 6 _ _ _ _ _ _ _ (by omega) (by omega) h1;have b:=ih 5 _ _ _ _ _ _ _ (by omega) (fun _=>a.1) h2;omega
  |5,_=>
   rw[um]at h;have he':=he (by omega);split at h
   ·split at h
    ·exact(dx h).elim
    ·split at h
     ·exact(dx h).elim
     ·obtain⟨e2,r2,n2,h3,h4⟩:=dp h;cases dD h3;have b:=ih 5 _ _ _ _ _ _ _ (by omega) (fun _=>by rw[one];omega) h4;omega
   ·cases h;omega
  |6,_=>
   rw[uo]at h;by_cases c0:40<d
   ·rw[ay c0]at h;exact(dx h).elim
   rw[aw c0]at h;by_cases c1:isT kA r=true
   ·rw[ay c1]at h;obtain⟨e1,r1,n1,h1,h2⟩:=dp h;have a:=ih 0 _ _ _ _ _ _ _ (by omega) (by omega) h1;split at h2
    ·cases h2;omega
    ·exact(dx h2).elim
   rw[aw c1]at h;by_cases c2:isT jG r=true
   ·rw[ay c2]at h;cases dD h;rw[leaf];omega
   rw[aw c2]at h;by_cases c3:isT jj r=true
   ·rw[ay c3]at h;cases dD h;rw[leaf];omega
   rw[aw c3]at h;by_cases c4:isT jD r=true
   ·rw[ay c4]at h;exact ih 7 _ _ _ _ _ _ _ (by omega) (by omega) h
   rw[aw c4]at h;by_cases c5:isT la r=true
   ·rw[ay c5]at h;split at h
    ·exact(dx h).elim
    split at h
    ·split at h
     ·exact(dx h).elim
     split at h
     ·exact(dx h).elim
     exact ih 8 _ _ _ _ _ _ _ (by omega) (by omega) h
    ·exact ih 8 _ _ _ _ _ _ _ (by omega) (by omega) h
   rw[aw c5]at h;by_cases c6:kindP r=1
   ·rw[ay c6]at h;cases dD h;rw[leaf];omega
   rw[aw c6]at h;by_cases c7:kindP r≠4
   ·rw[ay c7]at h;exact(dx h).elim
   rw[aw c7]at h;split at h
   ·split at h
    ·exact(dx h).elim
    split at h
    ·exact(dx h).elim
    cases dD h;rw[leaf];omega
   ·exact(dx h).elim
  |7,_=>
   rw[uq]at h;split at h
   ·exact(dx h).elim
   ·split at h
    ·exact ih 7 _ _ _ _ _ _ _ (by omega) (by omega) h
    ·exact ih 8 _ _ _ _ _ _ _ (by omega) (by omega) h
  |8,_=>
   rw[ut]at h;split at h
   ·obtain⟨e1,r1,n1,h1,h2⟩:=dp h;cases dD h2;have a:=ih 4 _ _ _ _ _ _ _ (by omega) (by omega) h1;rw[one];omega
   ·exact(dx h).elim
theorem NB {E d:Nat}{e:Ex}{r:List Tk}{n:Nat}{e':Ex}{r':List Tk}{n':Nat}(h:rd E 0 d e r n= .ok (e',r',n')):hgt e'<=n':=(DB E _ 0 d e r n e' r' n' (by omega) (by omega) h).1
abbrev Ru:=List UInt8×Ex
def oB (E:Nat)(r:List Tk):Except (Int×Nat) (Ru×List Tk):=
 if kindP r≠1 then .error (2,atP E r)
 else if isT wIs r.tail then
  match rd E 0 1 ex0 r.tail.tail 0 with
  | .error q=> .error q
  | .ok (e,q,_)=>if 40<hgt e then .error (4,atP E q) else if isT rX q then .ok ((textP r,e),q.tail) else .error (2,atP E q)
 else .error (2,atP E r.tail)
def iE (E:Nat):Nat->List Ru->List Tk->Except (Int×Nat) (List Ru)
 |0,acc,_=> .ok acc
 |f+1,acc,r=>
  if r.length=0 then .ok acc
  else if isT ue r then
   if acc.length=40 then .error (5,atP E r.tail)
   else match oB E r.tail with
    | .error q=> .error q
    | .ok (u,q)=>iE E f (acc++[u]) q
  else .error (2,atP E r)
abbrev Way (E:Nat->Nat->Bool)(i k:Nat):Prop:=Relation.TransGen (fun a b=>E a b=true) i k
def wars (E:Nat->Nat->Bool):Nat->Nat->Nat->Bool
 |0,i,k=>E i k
 |m+1,i,k=>wars E m i k||(wars E m i m&&wars E m m k)
theorem qG {E:Nat->Nat->Bool}{m i k:Nat}(h:wars E m i k=true): ∀d,wars E (m+d) i k=true
 |0=>h
 |d+1=>by
  show wars E ((m+d)+1) i k=true;simp only[wars,qG h d,Bool.true_or]
theorem Bu {E:Nat->Nat->Bool}{m i j k:Nat}(hj:j<m)(h1:wars E m i j=true)(h2:wars E m j k=true):wars E m i k=true:=by
 induction m generalizing i j k with
 |zero=>omega
 |succ m ih=>
  by_cases hjm:j=m
  ·subst hjm;simp only[wars,gY,bq]at h1 h2⊢
   have a:wars E j i j=true:=by
    rcases h1 with h|⟨h,_⟩<;>exact h
   have b:wars E j j k=true:=by
    rcases h2 with h|⟨_,h⟩<;>exact h
   exact .inr ⟨a,b⟩
  ·have hj':j<m:=(by omega);simp only[wars,gY,bq]at h1 h2⊢;rcases h1 with h1|⟨h1,h1'⟩
   ·rcases h2 with h2|⟨h2,h2'⟩
    ·exact .inl (ih hj' h1 h2)
    ·exact .inr ⟨ih hj' h1 h2,h2'⟩
   ·rcases h2 with h2|⟨h2,h2'⟩
    ·exact .inr ⟨h1,ih hj' h1' h2⟩
    ·exact .inr ⟨h1,h2'⟩
def upd (m:Nat->Bool)(n:Nat):Nat->Bool:=fun k=>decide (k=n)||m k
def fol (S:Nat->List Nat):Nat->(Nat->Bool)->Nat->Nat->Bool
 |0,m,_=>m
 |f+1,m,r=>(S r).foldl (fun m n=>if m n=true then m else fol S f (upd m n) n) m
def unm (m:Nat->Bool):Nat->Nat
 |0=>0
 |n+1=>(if m n=true then 0 else 1)+unm m n
theorem wV {m m':Nat->Bool}(h: ∀k,m k=true->m' k=true): ∀n,unm m' n<=unm m n
 |0=>by simp[unm]
 |n+1=>by
  have:=wV h n;simp only[unm];by_cases c:m n=true
  ·rw[ay c,ay (h n c)];omega
  ·rw[aw c];split<;>omega
theorem yz {m:Nat->Bool}{k:Nat}(hk:m k=false): ∀n,k<n->unm (upd m k) n+1<=unm m n
 |0,h=>by omega
 |n+1,h=>by
  have hle:=wV (m:=m) (m':=upd m k) (fun q hq=>by simp[upd,hq]) n;simp only[unm];by_cases c:k=n
  ·subst c;rw[ay (by simp[upd]),aw (by rw[hk];decide)];omega
  ·have:=yz hk n (by omega);have e:upd m k n=m n:=(by simp[upd,show n≠k from fun e=>c e.symm]);rw[e];omega
structure Fol (S:Nat->List Nat)(m m':Nat->Bool)(r:Nat):Prop where
 up: ∀k,m k=true->m' k=true
 next: ∀n∈S r,m' n=true
 new: ∀v,m' v=true->m v=false-> ∀n∈S v,m' n=true
 way: ∀v,m' v=true->m v=false->Way (fun a b=>(S a).contains b) r v
theorem Bv {S:Nat->List Nat}{n:Nat}(hS: ∀r,∀k∈S r,k<n): ∀(f:Nat) (m:Nat->Bool) (r:Nat),unm m n+1<=f->Fol S m (fol S f m r) r
 |0,_,_,h=>by omega
 |f+1,m,r,hf=>by
  have aux: ∀(l:List Nat),(∀k∈l,k∈S r)-> ∀m1:Nat->Bool,(∀k,m k=true->m1 k=true)->
    (∀k,m1 k=true->(l.foldl (fun m n=>if m n=true then m else fol S f (upd m n) n) m1) k=true)/\(∀k∈l,(l.foldl (fun m n=>if m n=true then m else fol S f (upd m n) n) m1) k=true)/\
    (∀v,(l.foldl (fun m n=>if m n=true then m else fol S f (upd m n) n) m1) v=true->m1 v=false->(∀k∈S v,(l.foldl (fun m n=>if m n=true then m else fol S f (upd m n) n) m1) k=true)/\Way (fun a b=>(S a).contains b) r v):=by
   intro l;induction l with
   |nil=>
    intro _ m1 _;exact⟨fun k h=>h,fun k hk=>(by cases hk),fun v h1 h2=>by rw[List.foldl_nil]at h1;rw[h1]at h2;cases h2⟩
   |cons q l ih=>
    intro hl m1 hm;have hq:=hl q bc;have hl': ∀k∈l,k∈S r:=fun k hk=>hl k (bn _ hk);simp only[List.foldl_cons];by_cases c:m1 q=true
    ·rw[ay c];obtain⟨a1,a2,a3⟩:=ih hl' m1 hm;refine⟨a1,fun k hk=> ?_,a3⟩;rcases bh.1 hk with rfl|hk
     ·exact a1 _ c
     ·exact a2 k hk
    ·rw[aw c];have c':m1 q=false:=(by simpa using c);have hu:=yz c' n (hS r q hq);have hle:=wV hm n;have F:=Bv hS f (upd m1 q) q (by omega);have hup: ∀k,m1 k=true->fol S f (upd m1 q) q k=true:=fun k hk=>F.up k (by simp[upd,hk]);have hqm:fol S f (upd m1 q) q q=true:=F.up q (by simp[upd]);obtain⟨a1,a2,a3⟩:=ih hl' (fol S f (upd m1 q) q) (fun k hk=>hup k (hm k hk));have hone:Way (fun a b=>(S a).contains b) r q:= .single (by simpa using hq);refine⟨fun k hk=>a1 k (hup k hk),fun k hk=> ?_,fun v h1 h2=> ?_⟩
     ·rcases bh.1 hk with rfl|hk
      ·exact a1 _ hqm
      ·exact a2 k hk
     ·cases hv:fol S f (upd m1 q) q v with
      |false=>exact a3 v h1 hv
      |true=>
       by_cases e:v=q
       ·subst e;exact⟨fun k hk=>a1 k (F.next k hk),hone⟩
       ·have hvu:upd m1 q v=false:=(by simp[upd,e,h2]);exact⟨fun k hk=>a1 k (F.new v hv hvu k hk),hone.trans (F.way v hv hvu)⟩
  obtain⟨a1,a2,a3⟩:=aux (S r) (fun k hk=>hk) m (fun k hk=>hk);exact⟨a1,a2,fun v h1 h2=>(a3 v h1 h2).1,fun v h1 h2=>(a3 v h1 h2).2⟩
theorem yA {S:Nat->List Nat}{n:Nat}(hS: ∀r,∀k∈S r,k<n){f r v:Nat}(hf:n+1<=f):fol S f (fun _=>false) r v=true↔Way (fun a b=>(S a).contains b) r v:=by
 have hz:unm (fun _=>false) n<=n:=by
  have: ∀n,unm (fun _=>false) n=n:=by
   intro n;induction n with
   |zero=>rfl
   |succ n ih=>simp[unm,ih];omega
  rw[this];omega
 have F:=Bv hS f (fun _=>false) r (by omega);constructor
 ·intro h;exact F.way v h rfl
 ·intro h;induction h with
  |single h=>exact F.next _ (by simpa using h)
  |tail _ h ih=>exact F.new _ ih rfl _ (by simpa using h)
def addN (acc:List Int)(n:Int):List Int:=if n∈acc then acc else acc++[n]
theorem qg (acc:List Int)(n m:Int):m∈addN acc n↔m∈acc\/m=n:=by
 unfold addN;split
 ·rename_i h;constructor
  ·exact .inl
  ·rintro(h1|rfl)
   ·exact h1
   ·exact h
 ·simp
def atF:List Ru->Nat->List UInt8->Int
 |[],_,_=> -1
 |u::l,i,x=>if u.1=x then(i:Int) else atF l (i+1) x
theorem JA {l:List Ru}{j:Nat}{u:Ru}{x:List UInt8}(h:l[j]? =some u):atF (l.drop j) j x=if u.1=x then(j:Int) else atF (l.drop (j+1)) (j+1) x:=by
 obtain⟨h1,h2⟩:=aE.1 h;rw[bx h1,h2];rfl
theorem xc: ∀(l:List Ru) (i:Nat) (x:List UInt8),-1<=atF l i x/\atF l i x<i+l.length/\(0<=atF l i x->(i:Int)<=atF l i x)
 |[],i,x=>by simp[atF];omega
 |u::l,i,x=>by
  have:=xc l (i+1) x;simp only[atF,bz];split
  ·omega
  ·omega
theorem GO: ∀(l:List Ru) (i k:Nat) (x:List UInt8),atF l i x=((i+k:Nat):Int)-> ∃u,l[k]? =some u/\u.1=x
 |[],i,k,x,h=>by simp[atF]at h;omega
 |u::l,i,k,x,h=>by
  simp only[atF]at h;split at h
  ·rename_i hx;have:k=0:=(by omega);subst this;exact⟨u,rfl,hx⟩
  ·cases k with
   |zero=>
    have:=xc l (i+1) x;omega
   |succ k=>
    obtain⟨v,h1,h2⟩:=GO l (i+1) k x (by rw[h];omega);exact⟨v,by simpa using h1,h2⟩
def atP5 (l:List Ru)(x:List UInt8):Int:=atF l 0 x
theorem GP {l:List Ru}{x:List UInt8}{k:Nat}(h:atP5 l x=(k:Int)): ∃u,l[k]? =some u/\u.1=x:=GO l 0 k x (by rw[bK];exact h)
theorem nP (l:List Ru)(x:List UInt8): -1<=atP5 l x/\atP5 l x<l.length:=by
 have:=xc l 0 x;unfold atP5;omega
def nms (e:Ex):List (List UInt8):=(if e.kind=10 then [e.name] else [])++(e.kids.attach.map fun k=>nms k.1).flatten
 termination_by SizeOf.sizeOf e
 decreasing_by exact gK k.2
def jn (ks:List Ex):List (List UInt8):=(ks.map nms).flatten
theorem ly (e:Ex):nms e=(if e.kind=10 then [e.name] else [])++jn e.kids:=by
 rw[nms];congr 2;show List.map (nms∘Subtype.val) e.kids.attach=_;rw[<-jE,fF]
def gM (l:List Ru)(acc:List Int)(xs:List (List UInt8)):List Int:=xs.foldl (fun acc x=>addN acc (atP5 l x)) acc
theorem py {l:List Ru}{m:Int}: ∀(xs:List (List UInt8)) (acc:List Int),m∈gM l acc xs↔m∈acc\/ ∃x∈xs,atP5 l x=m
 |[],acc=>by simp[gM]
 |y::xs,acc=>by
  have:=py (l:=l) (m:=m) xs (addN acc (atP5 l y));show m∈gM l (addN acc (atP5 l y)) xs↔_;rw[this,qg];constructor
  ·rintro((h|h)|⟨x,h1,h2⟩)
   ·exact .inl h
   ·exact .inr ⟨y,bc,h.symm⟩
   ·exact .inr ⟨x,bn _ h1,h2⟩
  ·rintro(h|⟨x,h1,h2⟩)
   ·exact .inl (.inl h)
   ·rcases bh.1 h1 with rfl|h1
    ·exact .inl (.inr h2.symm)
    ·exact .inr ⟨x,h1,h2⟩
def fz (l:List Ru)(u:Ru):List Int:=gM l [] (nms u.2)
theorem r9 {l:List Ru}: ∀(xs:List (List UInt8)) (acc:List Int),acc.Nodup->(∀m∈acc,-1<=m/\m<l.length)->(gM l acc xs).Nodup/\ ∀m∈gM l acc xs,-1<=m/\m<l.length
 |[],acc,h1,h2=>⟨h1,h2⟩
 |y::xs,acc,h1,h2=>by
  refine r9 xs (addN acc (atP5 l y)) ?_ ?_
  ·unfold addN;split
   ·exact h1
   ·rename_i h;rw[List.nodup_append];refine⟨h1,by simp,fun a ha b hb=> ?_⟩;simp at hb;subst hb;exact fun e=>h (e▸ha)
  ·intro m hm;rcases(qg _ _ _).1 hm with hm|rfl
   ·exact h2 m hm
   ·exact nP l y
end Lx
def xd (w:World)(b:Nat)(o:Obj):World:={w with heap:=w.heap.setIfInBounds b o}
theorem CU {r n:Nat}{w0 w:World}(h:Below n w0 w)(hr:n<=r)(o:Obj):Below n w0 (xd w r o):=
 ⟨h.os,h.tape,h.output,by simpa[xd] using h.size,fun k hk=>by
   rw[<-h.block k hk];show(w.heap.setIfInBounds r o)[k]? =_;rw[da (by omega)]⟩
theorem bL {p:Prop}(h:p):P3 p:=h
def dQ (w:World)(v:Value)(ns:List Int):Prop:= ∃p c,v= .slice p ns.length c/\ns.length<9223372036854775808/\ ∀(j:Nat) (n:Int),ns[j]? =some n-> ∃g o:Nat,p=some ⟨g,o,none⟩/\w.cell? (ae g (o+j))=some (ag n)
theorem dQ.below {w w':World}{v:Value}{ns:List Int}(h:dQ w v ns)(hb:ao w w'):dQ w' v ns:=by
 obtain⟨p,c,h1,h2,h3⟩:=h;refine⟨p,c,h1,h2,fun j n hj=> ?_⟩;obtain⟨g,o,e,hc⟩:=h3 j n hj;exact⟨g,o,e,aj hb hc⟩
def idxF:List Int->Nat->Int->Int
 |[],_,_=> -1
 |m::l,i,n=>if m=n then(i:Int) else idxF l (i+1) n
theorem GR {l:List Int}{j:Nat}{m n:Int}(h:l[j]? =some m):idxF (l.drop j) j n=if m=n then(j:Int) else idxF (l.drop (j+1)) (j+1) n:=by
 obtain⟨h1,h2⟩:=aE.1 h;rw[bx h1,h2];rfl
theorem Bw: ∀(l:List Int) (i:Nat) (n:Int),(0<=idxF l i n)↔n∈l
 |[],i,n=>by simp[idxF]
 |m::l,i,n=>by
  have:=Bw l (i+1) n;simp only[idxF,bh];by_cases h:m=n
  ·rw[ay h];constructor
   ·intro _;exact .inl h.symm
   ·intro _;omega
  ·rw[aw h,this];constructor
   ·exact .inr
   ·rintro(e|e)
    ·exact absurd e.symm h
    ·exact e
theorem EO (ns:List Int)(v:Value)(n:Int)(w:World)(h:dQ w v ns):Calls prog 78 #[v,ag n] w fun r w'=>r= .returned (ag (idxF ns 0 n))/\ao w w':=by
 obtain⟨p,c,rfl,hlen,hc⟩:=h;have HC:=bL hc;clear hc;go_enter func78,ntmps78;go_wp2_with fail;go_loopw [5,8] (fun _ t wr=> ∃j:Nat,t=ag (j:Int)/\j<=ns.length/\idxF ns 0 n=idxF (ns.drop j) j n/\wr=w) (fun _ t _=>ns.length-(intOf t).toNat);case atStart=>exact⟨0,rfl,by omega,rfl,rfl⟩
 case round=>
  obtain⟨j,rfl,hj,hX,rfl⟩:=hrel;have hj0:(0:Int)<=(j:Int):=(by omega);by_cases hlt:j<ns.length
  ·have hlt':(j:Int)<(ns.length:Int):=(by omega);obtain⟨m,hjk⟩: ∃p,ns[j]? =some p:=⟨ns[j],ax hlt⟩
   rw[GR hjk]at hX;obtain⟨g,o,hpe,c0⟩:=HC.o j _ hjk;subst hpe;by_cases hmn:m=n
   ·rw[ay hmn]at hX;have hb:(n==m)=true:=(by rw[hmn];simp);have HX:=bL hX;clear hX hjk HC hmn;go_wp2_with fail;go_ret;exact⟨by(rw[HX.o])<;>rfl,aG _ _⟩
   ·rw[aw hmn]at hX;have hb:(n==m)=false:=bf.2 (fun e=>hmn e.symm);have HX:=bL hX;clear hX hjk hmn;go_wp2_with fail;go_roundw;case rel=>exact⟨j+1,by go_num,by omega,HX.o,trivial⟩
    case measure=>simp[intOf];omega
  ·have hlt': ¬(j:Int)<(ns.length:Int):=(by omega)
   have HX:P3 (idxF ns 0 n= -1):=by
    show _=_;rw[hX,dc (by omega)];rfl
   clear hX HC;go_wp2_with fail;go_ret;exact⟨by(rw[HX.o])<;>rfl,aG _ _⟩
theorem jo (ns:List Int)(v:Value)(n:Int)(w:World)(h:dQ w v ns):Calls prog 43 #[v,ag n] w fun r w'=>r= .returned (.bool (decide (n∈ns)))/\ao w w':=by
 have c1:=EO ns v n w h;obtain⟨p,c,rfl,_,_⟩:=h
 have HD:P3 (decide (n∈ns)=decide (0<=idxF ns 0 n)):=by
  show _=_;have hm:=Bw ns 0 n;by_cases hn:n∈ns
  ·rw[a7 hn,a7 (hm.2 hn)]
  ·rw[bj hn,bj (fun e=>hn (hm.1 e))]
 go_enter func43,ntmps43;go_wp2_with fail;refine c1.mono ?_;rintro r w1 ⟨rfl,hb⟩;clear c1;generalize idxF ns 0 n=q at*;go_wp2_with fail;go_ret;exact⟨by(rw[HD.o])<;>rfl,hb⟩
end Go.Proofs.YtjkilacmkbmmbaaGreatDoor
