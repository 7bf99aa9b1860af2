/- Texts of the proof. -/
import Derived.Test.YtkfidffapdhbhaaGreatDoorPh03
import Derived.Lib.LaidTab
import Derived.Test.YtkfidffapdhbhaaGreatDoorPh02
set_option maxRecDepth 100000
set_option maxHeartbeats 8000000
namespace Go.Proofs.YtkfidffapdhbhaaGreatDoor
open Go.Proofs.Tryz Go.RowKit Lx Vx Mx Msk
def k6:Array Value:=(jI.map fun l=>Value.string ⟨l.toArray⟩).toArray
theorem I4 (j:Nat)(hj:j<13):k6[j]? =some (.string ⟨(jI.getD j []).toArray⟩):=by
 have h:j<jI.length:=hj;unfold k6;simp only[List.getElem?_toArray,bg,dQ,az h];rfl
theorem F6 (w:World):Calls prog 175 #[] w fun e w'=>e= .returned (.slice (some (ae w.heap.size 0)) 13 13)/\w'=w.alloc (.cells k6 9):=by
 go_enter func175,ntmps175;go_wp2;go_ret;exact⟨rfl,rfl⟩
theorem F7 {x:List UInt8}(h: ∀j,j<13->jI.getD j []≠x):isWordL x=false:=by
 cases e:isWordL x with
 |false=>rfl
 |true=>
  unfold isWordL at e;rw[List.any_eq_true]at e;obtain⟨y,hy,hx⟩:=e;obtain⟨j,hj,rfl⟩:=List.getElem_of_mem hy;have hj':j<13:=hj;exact absurd (by simpa[List.getD,hj] using hx) (h j hj')
theorem Eg {x:List UInt8}(j:Nat)(hj:j<13)(h:jI.getD j []=x):isWordL x=true:=by
 unfold isWordL;rw[List.any_eq_true];have hj':j<jI.length:=hj;exact⟨jI.getD j [],by simp[List.getD,hj'],by rw[h];exact beq_self_eq_true x⟩
theorem I5 (x:ByteArray)(l:List UInt8)(hx:x.data.toList=l)(g:Nat)(w:World)(hg:w.heap[g]? =ah k6 9):
  Calls prog 200 #[.slice (some (ae g 0)) 13 13,.string x] w fun e w'=>(∃i:Int,e= .returned (ag i)/\decide (0<=i)=isWordL l)/\w'=w:=by
 have hcell: ∀j,j<13->w.cell? (ae g j)=some (.string ⟨(jI.getD j []).toArray⟩):=fun j hj=>by rw[aZ _ _ _ _ _ _ hg,I4 j hj]
 have HC:PH (∀j,j<13->w.cell? (ae g j)=some (.string ⟨(jI.getD j []).toArray⟩)):=hcell;clear hcell hg;go_enter func200,ntmps200;go_wp2;go_loop [8] (fun i=> ∃k:Nat,k<=13/\i=ag k/\ ∀j,j<k->jI.getD j []≠l) (fun i=>13-(intOf i).toNat);case atStart=>exact⟨0,by omega,rfl,fun i h=>by omega⟩
 case round=>
  obtain⟨k,hk,rfl,hall⟩:=hrel;have HA:PH (∀j,j<k->jI.getD j []≠l):=hall;clear hall;by_cases hlt:k<13
  ·have hlt':(k:Int)<13:=(by omega);have hk0:(0:Int)<=(k:Int):=(by omega);have ck:=HC.o k hlt;generalize hy:(⟨(jI.getD k []).toArray⟩:ByteArray)=y at ck;have hyl:y.data.toList=jI.getD k []:=(by rw[<-hy]);by_cases he:jI.getD k []=l
   ·have hq:(x.toList==y.toList)=true:=(by rw[Lib.toList_data,Lib.toList_data,hyl,hx,he];simp);have hW:PH (isWordL l=true):=Eg k hlt he;clear he hyl hy;go_wp2;go_ret;exact⟨⟨_,rfl,by rw[hW.o];simp⟩,rfl⟩
   ·have hq:(x.toList==y.toList)=false:=by
     rw[Lib.toList_data,Lib.toList_data,hyl,hx];rw[bj];exact fun e=>he e.symm
    have HE:PH (jI.getD k []≠l):=he;clear he hyl hy;go_wp2;go_round
    case rel=>
     refine⟨k+1,by omega,by go_num,fun j hj=> ?_⟩;by_cases e:j=k
     ·subst e;exact HE.o
     ·exact HA.o j (by omega)
    case measure=>simp[intOf];omega
  ·have hkl:k=13:=(by omega);subst hkl;have hW:PH (isWordL l=false):=F7 HA.o;go_wp2;go_ret;exact⟨⟨_,rfl,by rw[hW.o];simp⟩,rfl⟩
theorem wG (x:ByteArray)(l:List UInt8)(hx:x.data.toList=l)(w:World):
  Calls prog 141 #[.string x] w fun e w'=>e= .returned (.bool (isWordL l))/\aq w w':=by
 have hg:(w.alloc (.cells k6 9)).heap[w.heap.size]? =ah k6 9:=aE w _;have hb:aq w (w.alloc (.cells k6 9)):=am _ _;have cf:=I5 x l hx _ _ hg;have cw:=F6 w;generalize w.alloc (.cells k6 9)=w1 at*;go_enter func141,ntmps141
 go_wp2_with(first
  |(go_at_call 175;refine cw.mono ?_;rintro e w' ⟨rfl,rfl⟩)
  |(go_at_call 174;go_in)
  |(go_at_call 200;refine cf.mono ?_;rintro e w' ⟨⟨i,rfl,hi⟩,rfl⟩))
 go_ret;exact⟨by rw[<-hi];rfl,hb⟩
namespace Cal
def lpB (y:Int):Bool:=decide (y%4=0/\(¬y%100=0\/y%400=0))
def lp (y:Int):Int:=if y%4=0/\(¬y%100=0\/y%400=0) then 1 else 0
def dim (y m:Int):Int:=
 if y<2000\/2399<y\/m<1\/12<m then 0
 else if m=2 then 28+lp y
 else if m=4\/m=6\/m=9\/m=11 then 30 else 31
def cum (y m:Int):Int:=
 if m<=1 then 0 else if m=2 then 31 else if m=3 then 59+lp y else if m=4 then 90+lp y
 else if m=5 then 120+lp y else if m=6 then 151+lp y else if m=7 then 181+lp y
 else if m=8 then 212+lp y else if m=9 then 243+lp y else if m=10 then 273+lp y
 else if m=11 then 304+lp y else if m=12 then 334+lp y else 365+lp y
def ys (y:Int):Int:=365*(y-2000)+((y-2000+3)/4-(y-2000+99)/100+(y-2000+399)/400)
theorem Ei (y:Int):0<=lp y/\lp y<=1:=by unfold lp;split<;>omega
theorem PE (y:Int):lp y=if lpB y=true then 1 else 0:=by unfold lp lpB;simp
theorem M4 (y m:Int):0<=dim y m/\dim y m<=31:=by
 have:=Ei y;unfold dim;split
 ·omega
 ·split
  ·omega
  ·split<;>omega
theorem Lc (y m:Int)(h:y<2000\/2399<y\/m<1\/12<m):dim y m=0:=by unfold dim;rw[aD h]
theorem Ld (y m:Int)(h:1<=dim y m):2000<=y/\y<=2399/\1<=m/\m<=12:=by
 by_cases g:y<2000\/2399<y\/m<1\/12<m
 ·rw[Lc y m g]at h;omega
 ·omega
theorem M5 (y:Int):cum y 13=365+lp y:=rfl
theorem AZ (y m:Int)(a:2000<=y)(b:y<=2399)(c:1<=m)(d:m<=12):cum y (m+1)=cum y m+dim y m:=by
 have h:m=1\/m=2\/m=3\/m=4\/m=5\/m=6\/m=7\/m=8\/m=9\/m=10\/m=11\/m=12:=by omega
 unfold dim;rw[ax (by omega)];rcases h with rfl|rfl|rfl|rfl|rfl|rfl|rfl|rfl|rfl|rfl|rfl|rfl<;>simp[cum]<;>omega
theorem M6 (y m:Int)(c:1<=m)(d:m<=13):0<=cum y m/\cum y m<=366:=by
 have:=Ei y;have h:m=1\/m=2\/m=3\/m=4\/m=5\/m=6\/m=7\/m=8\/m=9\/m=10\/m=11\/m=12\/m=13:=by omega
 rcases h with rfl|rfl|rfl|rfl|rfl|rfl|rfl|rfl|rfl|rfl|rfl|rfl|rfl<;>simp[cum]<;>omega
theorem I8 (y m k:Int)(c:1<=m)(d:m<k)(e:k<=13)(a:2000<=y)(b:y<=2399):cum y m+dim y m<=cum y k:=by
 rw[<-AZ y m a b c (by omega)];have:=Ei y;have h:m=1\/m=2\/m=3\/m=4\/m=5\/m=6\/m=7\/m=8\/m=9\/m=10\/m=11\/m=12:=by omega
 have g:k=2\/k=3\/k=4\/k=5\/k=6\/k=7\/k=8\/k=9\/k=10\/k=11\/k=12\/k=13:=by omega
 rcases h with rfl|rfl|rfl|rfl|rfl|rfl|rfl|rfl|rfl|rfl|rfl|rfl<;>
  rcases g with rfl|rfl|rfl|rfl|rfl|rfl|rfl|rfl|rfl|rfl|rfl|rfl<;>first|omega|(simp[cum]<;>omega)
theorem Le:ys 2000=0:=by decide
theorem Lf:ys 2400=146097:=by decide
theorem Lg (y:Int):ys (y+1)=ys y+365+lp y:=by unfold ys lp;split<;>omega
theorem Dp (a b:Int)(h:a<=b):ys a<=ys b:=by unfold ys;omega
theorem KG (y:Int)(a:2000<=y)(b:y<=2400):0<=ys y/\ys y<=146097:=by
 have h1:=Dp _ _ a;have h2:=Dp _ _ b;rw[Le]at h1;rw[Lf]at h2;exact⟨h1,h2⟩
def num (y m d:Int):Int:=ys y+cum y m+d-1
theorem wH (y m d:Int)(h:1<=d)(g:d<=dim y m):0<=num y m d/\num y m d<146097/\ys y<=num y m d/\num y m d<ys (y+1):=by
 obtain⟨a,b,c,e⟩:=Ld y m (by omega);have h1:=KG y a (by omega);have h2:=KG (y+1) (by omega) (by omega);have h3:=Lg y;have h4:=AZ y m a b c e;have h5:=M6 y m c (by omega)
 have h6:cum y (m+1)<=365+lp y:=by
  by_cases h:m=12
  ·subst h;exact Int.le_of_eq rfl
  ·have:=I8 y (m+1) 13 (by omega) (by omega) (by omega) a b;rw[M5]at this;have:=M4 y (m+1);omega
 unfold num;omega
end Cal
def tab:List Int:=[31,28,31,30,31,30,31,31,30,31,30,31]
def gH (w:World):Prop:= ∀i:Nat,i<12->w.cell? (ae 0 i)=some (ag (tab.getD i 0))
theorem A1 (y:Int)(w:World)(h0:0<=y)(h1:y<=9223372036854775807):
  Calls prog 199 #[ag y] w fun e w'=>e= .returned (.bool (Cal.lpB y))/\w'=w:=by
 by_cases h4:y%4=0
 ·by_cases h100:y%100=0
  ·by_cases h400:y%400=0
   ·have e:Cal.lpB y=true:=(by unfold Cal.lpB;exact bm ⟨h4,.inr h400⟩);rw[e];have a4:(y%4==0)=true:=(by simp[h4]);have a1:(y%100 !=0)=false:=(by simp[h100]);have a2:(y%400==0)=true:=(by simp[h400]);go_enter func199,ntmps199;go_wp2;go_ret;exact⟨rfl,rfl⟩
   ·have e:Cal.lpB y=false:=(by unfold Cal.lpB;exact bn (fun h=>by omega));rw[e];have a4:(y%4==0)=true:=(by simp[h4]);have a1:(y%100 !=0)=false:=(by simp[h100]);have a2:(y%400==0)=false:=(by simp[h400]);go_enter func199,ntmps199;go_wp2;go_ret;exact⟨rfl,rfl⟩
  ·have e:Cal.lpB y=true:=(by unfold Cal.lpB;exact bm ⟨h4,.inl h100⟩);rw[e];have a4:(y%4==0)=true:=(by simp[h4]);have a1:(y%100 !=0)=true:=(by simp[h100]);go_enter func199,ntmps199;go_wp2;go_ret;exact⟨rfl,rfl⟩
 ·have e:Cal.lpB y=false:=by unfold Cal.lpB;exact bn (fun h=>h4 h.1)
  rw[e];have a4:(y%4==0)=false:=(by simp[h4]);go_enter func199,ntmps199;go_wp2;go_ret;exact⟨rfl,rfl⟩
theorem Ej (y m:Int)(w:World)(h:y<2000\/2399<y\/m<1\/12<m):
  Calls prog 170 #[ag y,ag m] w fun e w'=>e= .returned (ag 0)/\w'=w:=by
 by_cases a:y<2000
 ·go_enter func170,ntmps170;go_wp2;go_ret;exact⟨rfl,rfl⟩
 ·by_cases b:2399<y
  ·go_enter func170,ntmps170;go_wp2;go_ret;exact⟨rfl,rfl⟩
  ·by_cases c:m<1
   ·go_enter func170,ntmps170;go_wp2;go_ret;exact⟨rfl,rfl⟩
   ·have d:12<m:=(by omega);go_enter func170,ntmps170;go_wp2;go_ret;exact⟨rfl,rfl⟩
theorem Ek (y:Int)(w:World)(a:2000<=y)(b:y<=2399)(hc:w.cell? (ae 0 1)=some (ag 28)):
  Calls prog 170 #[ag y,ag 2] w fun e w'=>e= .returned (ag (28+Cal.lp y))/\w'=w:=by
 have hl:=Cal.PE y;cases hb:Cal.lpB y
 ·rw[hb]at hl;simp at hl;rw[hl];go_enter func170,ntmps170;go_wp2_with(go_at_call 199;refine(A1 _ _ (by omega) (by omega)).mono ?_;rw[hb];rintro e w' ⟨rfl,rfl⟩)
  go_ret;exact⟨rfl,rfl⟩
 ·rw[hb]at hl;simp at hl;rw[hl];go_enter func170,ntmps170;go_wp2_with(go_at_call 199;refine(A1 _ _ (by omega) (by omega)).mono ?_;rw[hb];rintro e w' ⟨rfl,rfl⟩)
  go_ret;exact⟨rfl,rfl⟩
theorem Ga (y m:Int)(w:World)(hT:gH w)(a:2000<=y)(b:y<=2399)(c:1<=m)(d:m<=12):
  Calls prog 170 #[ag y,ag m] w fun e w'=>e= .returned (ag (Cal.dim y m))/\w'=w:=by
 have h:m=1\/m=2\/m=3\/m=4\/m=5\/m=6\/m=7\/m=8\/m=9\/m=10\/m=11\/m=12:=by omega
 have e:Cal.dim y m=if m=2 then 28+Cal.lp y else if m=4\/m=6\/m=9\/m=11 then 30 else 31:=by unfold Cal.dim;rw[ax (by omega)]
 rw[e];rcases h with rfl|h
 ·have hc:=hT 0 (by decide);simp[tab]at hc;rw[ax (by decide),ax (by decide)];go_enter func170,ntmps170;go_wp2;go_ret;exact⟨rfl,rfl⟩
 rcases h with rfl|h
 ·have hc:=hT 1 (by decide);simp[tab]at hc;exact Ek y w a b hc
 rcases h with rfl|h
 ·have hc:=hT 2 (by decide);simp[tab]at hc;rw[ax (by decide),ax (by decide)];go_enter func170,ntmps170;go_wp2;go_ret;exact⟨rfl,rfl⟩
 rcases h with rfl|h
 ·have hc:=hT 3 (by decide);simp[tab]at hc;rw[ax (by decide),aD (by decide)];go_enter func170,ntmps170;go_wp2;go_ret;exact⟨rfl,rfl⟩
 rcases h with rfl|h
 ·have hc:=hT 4 (by decide);simp[tab]at hc;rw[ax (by decide),ax (by decide)];go_enter func170,ntmps170;go_wp2;go_ret;exact⟨rfl,rfl⟩
 rcases h with rfl|h
 ·have hc:=hT 5 (by decide);simp[tab]at hc;rw[ax (by decide),aD (by decide)];go_enter func170,ntmps170;go_wp2;go_ret;exact⟨rfl,rfl⟩
 rcases h with rfl|h
 ·have hc:=hT 6 (by decide);simp[tab]at hc;rw[ax (by decide),ax (by decide)];go_enter func170,ntmps170;go_wp2;go_ret;exact⟨rfl,rfl⟩
 rcases h with rfl|h
 ·have hc:=hT 7 (by decide);simp[tab]at hc;rw[ax (by decide),ax (by decide)];go_enter func170,ntmps170;go_wp2;go_ret;exact⟨rfl,rfl⟩
 rcases h with rfl|h
 ·have hc:=hT 8 (by decide);simp[tab]at hc;rw[ax (by decide),aD (by decide)];go_enter func170,ntmps170;go_wp2;go_ret;exact⟨rfl,rfl⟩
 rcases h with rfl|h
 ·have hc:=hT 9 (by decide);simp[tab]at hc;rw[ax (by decide),ax (by decide)];go_enter func170,ntmps170;go_wp2;go_ret;exact⟨rfl,rfl⟩
 rcases h with rfl|h
 ·have hc:=hT 10 (by decide);simp[tab]at hc;rw[ax (by decide),aD (by decide)];go_enter func170,ntmps170;go_wp2;go_ret;exact⟨rfl,rfl⟩
 subst h;have hc:=hT 11 (by decide);simp[tab]at hc;rw[ax (by decide),ax (by decide)];go_enter func170,ntmps170;go_wp2;go_ret;exact⟨rfl,rfl⟩
theorem r8 (y m:Int)(w:World)(hT:gH w):
  Calls prog 170 #[ag y,ag m] w fun e w'=>e= .returned (ag (Cal.dim y m))/\w'=w:=by
 by_cases h:y<2000\/2399<y\/m<1\/12<m
 ·rw[Cal.Lc y m h];exact Ej y m w h
 ·exact Ga y m w hT (by omega) (by omega) (by omega) (by omega)
theorem M7 (y:Int)(w:World)(a:2000<=y)(b:y<=2400):
  Calls prog 171 #[ag y] w fun e w'=>e= .returned (ag (Cal.ys y))/\w'=w:=by
 unfold Cal.ys;go_enter func171,ntmps171;go_wp2;go_ret;exact⟨rfl,rfl⟩
theorem Lh (y m:Int)(w:World)(hT:gH w)(a:2000<=y)(b:y<=2399)(c:1<=m)(d:m<=13):
  Calls prog 172 #[ag y,ag m] w fun e w'=>e= .returned (ag (Cal.cum y m))/\w'=w:=by
 have H:PH (gH w):=hT;go_enter func172,ntmps172;go_wp2;go_loop [5,6] (fun t i=> ∃k:Int,1<=k/\k<=m/\i=ag k/\t=ag (Cal.cum y k)) (fun _ i=>(13-intOf i).toNat);case atStart=>exact⟨1,by omega,by omega,rfl,rfl⟩
 case round=>
  obtain⟨k,hk1,hk2,rfl,rfl⟩:=hrel;have cb:=Cal.M6 y k hk1 (by omega);have db:=Cal.M4 y k;by_cases hlt:k<m
  ·have cs:PH (Cal.cum y (k+1)=Cal.cum y k+Cal.dim y k):=Cal.AZ y k a b hk1 (by omega);go_wp2_with(go_at_call 170;refine(r8 _ _ _ H.o).mono ?_;rintro e w' ⟨rfl,rfl⟩)
   go_round;case rel=>exact⟨k+1,by omega,by omega,rfl,by rw[cs.o]⟩
   case measure=>simp[intOf];omega
  ·have e:k=m:=(by omega);subst e;go_wp2;go_ret;exact⟨rfl,rfl⟩
theorem gH.below {w w':World}(h:gH w)(hb:aq w w'):gH w':=fun i hi=>cell_later hb (h i hi)
theorem gH.alloc {w:World}(h:gH w)(o:Obj):gH (w.alloc o):=h.below (am _ o)
theorem gH.drew {w:World}(h:gH w):gH w.drew:=fun i hi=>h i hi
theorem El (y m d:Int)(w:World)(hT:gH w)(a:1<=d)(b:d<=Cal.dim y m):
  Calls prog 137 #[.agg #[ag y,ag m,ag d]] w fun e w'=>e= .returned (.tuple #[ag (Cal.num y m d),ag 0])/\aq w w':=by
 have H:PH (gH w):=hT;clear hT;obtain⟨r1,r2,r3,r4⟩:=Cal.Ld y m (by omega);have d31:=Cal.M4 y m;have yb:=Cal.KG y r1 (by omega);have cb:=Cal.M6 y m r3 (by omega);have n1:decide (d<1)=false:=by simp;omega
 have n2:decide (Cal.dim y m<d)=false:=by simp;omega
 go_enter func137,ntmps137;go_wp2;go_quiet ((go_at_call 170;exact fu (r8 _ _ _ (H.o.alloc _))));go_wp2;generalize hw:(w.alloc (.cells #[ag y,ag m,ag d] 221)).drewN nq=w1;have c0:w1.cell? (ae w.heap.size 0)=some (ag y):=by rw[<-hw];simp
 have c1:w1.cell? (ae w.heap.size 1)=some (ag m):=by rw[<-hw];simp
 have c2:w1.cell? (ae w.heap.size 2)=some (ag d):=by rw[<-hw];simp
 have hb:aq w w1:=by rw[<-hw];exact dB (am _ _) _
 have H1:PH (gH w1):=H.o.below hb;clear hw H;go_quiet ((first|(go_at_call 171;exact fu (M7 y _ r1 (by omega)))|(go_at_call 172;exact fu (Lh y m _ H1.o r1 r2 r3 (by omega)))));go_wp2;go_ret2;exact⟨rfl,dB hb _⟩
theorem Gb (y m d:Int)(w:World)(hT:gH w)(a:d<1\/Cal.dim y m<d):
  Calls prog 137 #[.agg #[ag y,ag m,ag d]] w fun e w'=>e= .returned (.tuple #[ag 0,ag 3])/\aq w w':=by
 have H:PH (gH w):=hT;clear hT;by_cases a1:d<1
 ·have n1:decide (d<1)=true:=by simp;omega
  clear a;go_enter func137,ntmps137;go_wp2;go_quiet (fail);go_wp2;go_ret2;exact⟨rfl,dB (am _ _) _⟩
 ·have n1:decide (d<1)=false:=by simp;omega
  have n2:decide (Cal.dim y m<d)=true:=(by simp;omega);clear a;go_enter func137,ntmps137;go_wp2;go_quiet ((go_at_call 170;exact fu (r8 _ _ _ (H.o.alloc _))));go_wp2;go_ret2;exact⟨rfl,dB (am _ _) _⟩
theorem Gc (s:ByteArray)(l:List UInt8)(hs:s.data.toList=l)(hl:l.length<=9223372036854775806)(hf:jq l wz=true)(w:World):
  Calls prog 113 #[.string s] w fun e w'=>e= .returned (r7 (oJ l))/\aq w w':=by
 have hz:s.size=l.length:=by rw[<-hs,Lib.size_eq]
 obtain⟨hlen,_⟩:=pZ hf;have hlen5:5<=l.length:=hlen;have hi5:(5:Int)<=(l.length:Int):=by omega
 have hi2:(2:Int)<=(l.length:Int):=by omega
 have hi3:(3:Int)<=(l.length:Int):=by omega
 obtain⟨n1,d1⟩:=mw hf 3 2 (by decide) (by decide);obtain⟨n2,d2⟩:=mw hf 0 2 (by decide) (by decide);have c1:=fun w=>mI (s.extract 3 5) ((l.drop 3).take 2) (by rw[Lib.extract_data,hs]) (by omega) d1 w;have c2:=fun w=>mI (s.extract 0 2) ((l.drop 0).take 2) (by rw[Lib.extract_data,hs]) (by omega) d2 w;have b1:=pE _ d1 2 (by omega) (by omega);have b2:=pE _ d2 2 (by omega) (by omega);rw[cj (by omega)]at b1 b2;have HT:PH (oJ l=if 59<valL ((l.drop 3).take 2)\/1440<60*valL ((l.drop 0).take 2)+valL ((l.drop 3).take 2) then bad 3 else⟨4,60*valL ((l.drop 0).take 2)+valL ((l.drop 3).take 2),[],5,0⟩):=rfl;generalize valL ((l.drop 3).take 2)=m at*;generalize valL ((l.drop 0).take 2)=h at*;clear n1 d1 n2 d2 hlen hf;have hb0:aq w (w.alloc (.cells #[ag 0,ag 0,ag 0,.string ⟨#[]⟩] 162)):=am _ _;have hbx:aq w (w.alloc (.cells #[ag 4,ag (60*h+m),ag 0,.string ⟨#[]⟩] 162)):=am _ _;by_cases h59:59<m
 ·go_enter func113,ntmps113
  go_wp2_with(first
   |(go_at_call 138;have _t:=c1;refine(c1 _).mono ?_;rintro e w' ⟨rfl,rfl⟩;clear _t c1)
   |(go_at_call 138;refine(c2 _).mono ?_;rintro e w' ⟨rfl,rfl⟩))
  exact fU (by rw[results113,results115]) w.heap.size (bad 3) rfl rfl rfl rfl (aE w _) ⟨by rw[HT.o,aD (.inl h59)],hb0⟩
 ·by_cases h1440:1440<60*h+m
  ·go_enter func113,ntmps113
   go_wp2_with(first
    |(go_at_call 138;have _t:=c1;refine(c1 _).mono ?_;rintro e w' ⟨rfl,rfl⟩;clear _t c1)
    |(go_at_call 138;refine(c2 _).mono ?_;rintro e w' ⟨rfl,rfl⟩))
   exact fU (by rw[results113,results115]) w.heap.size (bad 3) rfl rfl rfl rfl (aE w _) ⟨by rw[HT.o,aD (.inr h1440)],hb0⟩
  ·go_enter func113,ntmps113
   go_wp2_with(first
    |(go_at_call 138;have _t:=c1;refine(c1 _).mono ?_;rintro e w' ⟨rfl,rfl⟩;clear _t c1)
    |(go_at_call 138;refine(c2 _).mono ?_;rintro e w' ⟨rfl,rfl⟩))
   exact fU (by rw[results113,results115]) w.heap.size ⟨4,60*h+m,[],5,0⟩ rfl rfl rfl rfl (aE w _) ⟨by rw[HT.o,ax (by omega)],hbx⟩
namespace Lx
theorem iR {e k:Ex}(h:k∈e.kids):SizeOf.sizeOf k<SizeOf.sizeOf e:=by
 have h1:=List.sizeOf_lt_of_mem h;cases e;simp only[Ex.mk.sizeOf_spec]at*;omega
def hgt (e:Ex):Nat:=(e.kids.attach.map fun k=>hgt k.1).foldl max 0+1
 termination_by SizeOf.sizeOf e
 decreasing_by exact iR k.2
def hgtL (l:List Ex):Nat:=(l.map hgt).foldl max 0
theorem qi (e:Ex):hgt e=hgtL e.kids+1:=by
 rw[hgt,hgtL];show(List.map (hgt∘Subtype.val) e.kids.attach).foldl max 0+1=_;rw[<-jT,ij]
theorem Gt (l:List Nat): ∀a,l.foldl max a=max a (l.foldl max 0):=by
 induction l with
 |nil=>intro a;simp
 |cons b l ih=>
  intro a;simp only[List.foldl_cons];rw[ih (max a b),ih (max 0 b)];omega
theorem Ba:hgtL []=0:=rfl
theorem qI (k:Ex)(l:List Ex):hgtL (k::l)=max (hgt k) (hgtL l):=by
 unfold hgtL;simp only[dH,List.foldl_cons];rw[Gt];omega
theorem Gu (l:List Ex)(k:Ex):hgtL (l++[k])=max (hgtL l) (hgt k):=by
 unfold hgtL;rw[dT,List.foldl_append];rfl
theorem Ds {e k:Ex}(h:k∈e.kids):hgt k<hgt e:=by
 rw[qi e];generalize e.kids=l at*;induction l with
 |nil=>cases h
 |cons q l ih=>
  rw[qI];rcases bz.1 h with rfl|h
  ·omega
  ·have:=ih h;omega
theorem Dt (E:Nat): ∀(f m d:Nat) (e:Ex) (r:List Tk) (n:Nat) (e':Ex) (r':List Tk) (n':Nat),m<=8->(m=1\/m=3\/m=5->hgt e<=n)->goP E f m d e r n= .ok (e',r',n')->hgt e'<=n'/\n<=n'
 |0,m,d,e,r,n,e',r',n',_,_,h=>(dF h).elim
 |f+1,m,d,e,r,n,e',r',n',hm,he,h=>by
  have ih:=Dt E f;have leaf: ∀(k a b:Int) (x:List UInt8),hgt ⟨k,a,b,x,[]⟩=1:=fun k a b x=>(by rw[qi];rfl)
  have one: ∀(k a b:Int) (x:List UInt8) (t:Ex),hgt ⟨k,a,b,x,[t]⟩=hgt t+1:=fun k a b x t=>by
   rw[qi];show hgtL [t]+1=_;rw[qI,Ba];omega
  have two: ∀(k a b:Int) (x:List UInt8) (s t:Ex),hgt ⟨k,a,b,x,[s,t]⟩=max (hgt s) (hgt t)+1:=fun k a b x s t=>by
   rw[qi];show hgtL [s,t]+1=_;rw[qI,qI,Ba];omega
  match m,hm with
  |0,_=>
   rw[uo]at h;obtain⟨e1,r1,n1,h1,h2⟩:=dy h;have a:=ih 2 _ _ _ _ _ _ _ (by omega) (by omega) h1;have b:=ih 1 _ _ _ _ _ _ _ (by omega) (fun _=>a.1) h2;omega
  |1,_=>
   rw[uq]at h;have he':=he (by omega);split at h
   ·obtain⟨e1,r1,n1,h1,h2⟩:=dy h;obtain⟨e2,r2,n2,h3,h4⟩:=dy h2;have a:=ih 2 _ _ _ _ _ _ _ (by omega) (by omega) h1;cases dK h3;have b:=ih 1 _ _ _ _ _ _ _ (by omega) (fun _=>by rw[two];omega) h4;omega
   ·split at h
    ·obtain⟨e1,r1,n1,h1,h2⟩:=dy h;obtain⟨e2,r2,n2,h3,h4⟩:=dy h2;have a:=ih 2 _ _ _ _ _ _ _ (by omega) (by omega) h1;cases dK h3;have b:=ih 1 _ _ _ _ _ _ _ (by omega) (fun _=>by rw[two];omega) h4;omega
    ·cases h;omega
  |2,_=>
   rw[ut]at h;obtain⟨e1,r1,n1,h1,h2⟩:=dy h;have a:=ih 4 _ _ _ _ _ _ _ (by omega) (by omega) h1;have b:=ih 3 _ _ _ _ _ _ _ (by omega) (fun _=>a.1) h2;omega
  |3,_=>
   rw[uu]at h;have he':=he (by omega);split at h
   ·obtain⟨e1,r1,n1,h1,h2⟩:=dy h;obtain⟨e2,r2,n2,h3,h4⟩:=dy h2;have a:=ih 4 _ _ _ _ _ _ _ (by omega) (by omega) h1;cases dK h3;have b:=ih 3 _ _ _ _ _ _ _ (by omega) (fun _=>by rw[two];omega) h4;omega
   ·cases h;omega
  |4,_=>
   rw[uw]at h;obtain⟨e1,r1,n1,h1,h2⟩:=dy h;have a:=ih 6 _ _ _ _ _ _ _ (by omega) (by omega) h1;have b:=ih 5 _ _ _ _ _ _ _ (by omega) (fun _=>a.1) h2;omega
  |5,_=>
   rw[ux]at h;have he':=he (by omega);split at h
   ·split at h
    ·exact(dF h).elim
    ·split at h
     ·exact(dF h).elim
     ·obtain⟨e2,r2,n2,h3,h4⟩:=dy h;cases dK h3;have b:=ih 5 _ _ _ _ _ _ _ (by omega) (fun _=>by rw[one];omega) h4;omega
   ·cases h;omega
  |6,_=>
   rw[uy]at h;by_cases c0:40<d
   ·rw[aD c0]at h;exact(dF h).elim
   rw[ax c0]at h;by_cases c1:isT kO r=true
   ·rw[aD c1]at h;obtain⟨e1,r1,n1,h1,h2⟩:=dy h;have a:=ih 0 _ _ _ _ _ _ _ (by omega) (by omega) h1;split at h2
    ·cases h2;omega
    ·exact(dF h2).elim
   rw[ax c1]at h;by_cases c2:isT jW r=true
   ·rw[aD c2]at h;cases dK h;rw[leaf];omega
   rw[ax c2]at h;by_cases c3:isT jA r=true
   ·rw[aD c3]at h;cases dK h;rw[leaf];omega
   rw[ax c3]at h;by_cases c4:isT jS r=true
   ·rw[aD c4]at h;exact ih 7 _ _ _ _ _ _ _ (by omega) (by omega) h
   rw[ax c4]at h;by_cases c5:isT lx r=true
   ·rw[aD c5]at h;split at h
    ·exact(dF h).elim
    split at h
    ·split at h
     ·exact(dF h).elim
     split at h
     ·exact(dF h).elim
     exact ih 8 _ _ _ _ _ _ _ (by omega) (by omega) h
    ·exact ih 8 _ _ _ _ _ _ _ (by omega) (by omega) h
   rw[ax c5]at h;by_cases c6:kindP r=1
   ·rw[aD c6]at h;cases dK h;rw[leaf];omega
   rw[ax c6]at h;by_cases c7:kindP r≠4
   ·rw[aD c7]at h;exact(dF h).elim
   rw[ax c7]at h;split at h
   ·split at h
    ·exact(dF h).elim
    split at h
    ·exact(dF h).elim
    cases dK h;rw[leaf];omega
   ·exact(dF h).elim
  |7,_=>
   rw[uz]at h;split at h
   ·exact(dF h).elim
   ·split at h
    ·exact ih 7 _ _ _ _ _ _ _ (by omega) (by omega) h
    ·exact ih 8 _ _ _ _ _ _ _ (by omega) (by omega) h
  |8,_=>
   rw[uA]at h;split at h
   ·obtain⟨e1,r1,n1,h1,h2⟩:=dy h;cases dK h2;have a:=ih 4 _ _ _ _ _ _ _ (by omega) (by omega) h1;rw[one];omega
   ·exact(dF h).elim
theorem Na {E d:Nat}{e:Ex}{r:List Tk}{n:Nat}{e':Ex}{r':List Tk}{n':Nat}(h:rd E 0 d e r n= .ok (e',r',n')):hgt e'<=n':=(Dt E _ 0 d e r n e' r' n' (by omega) (by omega) h).1
abbrev Ru:=List UInt8×Ex
def oO (E:Nat)(r:List Tk):Except (Int×Nat) (Ru×List Tk):=
 if kindP r≠1 then .error (2,atP E r)
 else if isT wIs r.tail then
  match rd E 0 1 ex0 r.tail.tail 0 with
  | .error q=> .error q
  | .ok (e,q,_)=>if 40<hgt e then .error (4,atP E q) else if isT r0 q then .ok ((textP r,e),q.tail) else .error (2,atP E q)
 else .error (2,atP E r.tail)
def iS (E:Nat):Nat->List Ru->List Tk->Except (Int×Nat) (List Ru)
 |0,acc,_=> .ok acc
 |f+1,acc,r=>
  if r.length=0 then .ok acc
  else if isT um r then
   if acc.length=40 then .error (5,atP E r.tail)
   else match oO E r.tail with
    | .error q=> .error q
    | .ok (u,q)=>iS E f (acc++[u]) q
  else .error (2,atP E r)
abbrev Way (E:Nat->Nat->Bool)(i k:Nat):Prop:=Relation.TransGen (fun a b=>E a b=true) i k
def wars (E:Nat->Nat->Bool):Nat->Nat->Nat->Bool
 |0,i,k=>E i k
 |m+1,i,k=>wars E m i k||(wars E m i m&&wars E m m k)
theorem qJ {E:Nat->Nat->Bool}{m i k:Nat}(h:wars E m i k=true): ∀d,wars E (m+d) i k=true
 |0=>h
 |d+1=>by
  show wars E ((m+d)+1) i k=true;simp only[wars,qJ h d,Bool.true_or]
theorem Bk {E:Nat->Nat->Bool}{m i j k:Nat}(hj:j<m)(h1:wars E m i j=true)(h2:wars E m j k=true):wars E m i k=true:=by
 induction m generalizing i j k with
 |zero=>omega
 |succ m ih=>
  by_cases hjm:j=m
  ·subst hjm;simp only[wars,ii,bx]at h1 h2⊢
   have a:wars E j i j=true:=by
    rcases h1 with h|⟨h,_⟩<;>exact h
   have b:wars E j j k=true:=by
    rcases h2 with h|⟨_,h⟩<;>exact h
   exact .inr ⟨a,b⟩
  ·have hj':j<m:=(by omega);simp only[wars,ii,bx]at h1 h2⊢;rcases h1 with h1|⟨h1,h1'⟩
   ·rcases h2 with h2|⟨h2,h2'⟩
    ·exact .inl (ih hj' h1 h2)
    ·exact .inr ⟨ih hj' h1 h2,h2'⟩
   ·rcases h2 with h2|⟨h2,h2'⟩
    ·exact .inr ⟨h1,ih hj' h1' h2⟩
    ·exact .inr ⟨h1,h2'⟩
def upd (m:Nat->Bool)(n:Nat):Nat->Bool:=fun k=>decide (k=n)||m k
def fol (S:Nat->List Nat):Nat->(Nat->Bool)->Nat->Nat->Bool
 |0,m,_=>m
 |f+1,m,r=>(S r).foldl (fun m n=>if m n=true then m else fol S f (upd m n) n) m
def unm (m:Nat->Bool):Nat->Nat
 |0=>0
 |n+1=>(if m n=true then 0 else 1)+unm m n
theorem wU {m m':Nat->Bool}(h: ∀k,m k=true->m' k=true): ∀n,unm m' n<=unm m n
 |0=>by simp[unm]
 |n+1=>by
  have:=wU h n;simp only[unm];by_cases c:m n=true
  ·rw[aD c,aD (h n c)];omega
  ·rw[ax c];split<;>omega
theorem yv {m:Nat->Bool}{k:Nat}(hk:m k=false): ∀n,k<n->unm (upd m k) n+1<=unm m n
 |0,h=>by omega
 |n+1,h=>by
  have hle:=wU (m:=m) (m':=upd m k) (fun q hq=>by simp[upd,hq]) n;simp only[unm];by_cases c:k=n
  ·subst c;rw[aD (by simp[upd]),ax (by rw[hk];decide)];omega
  ·have:=yv hk n (by omega);have e:upd m k n=m n:=(by simp[upd,show n≠k from fun e=>c e.symm]);rw[e];omega
structure Fol (S:Nat->List Nat)(m m':Nat->Bool)(r:Nat):Prop where
 up: ∀k,m k=true->m' k=true
 next: ∀n∈S r,m' n=true
 new: ∀v,m' v=true->m v=false-> ∀n∈S v,m' n=true
 way: ∀v,m' v=true->m v=false->Way (fun a b=>(S a).contains b) r v
theorem Bm {S:Nat->List Nat}{n:Nat}(hS: ∀r,∀k∈S r,k<n): ∀(f:Nat) (m:Nat->Bool) (r:Nat),unm m n+1<=f->Fol S m (fol S f m r) r
 |0,_,_,h=>by omega
 |f+1,m,r,hf=>by
  have aux: ∀(l:List Nat),(∀k∈l,k∈S r)-> ∀m1:Nat->Bool,(∀k,m k=true->m1 k=true)->
    (∀k,m1 k=true->(l.foldl (fun m n=>if m n=true then m else fol S f (upd m n) n) m1) k=true)/\(∀k∈l,(l.foldl (fun m n=>if m n=true then m else fol S f (upd m n) n) m1) k=true)/\
    (∀v,(l.foldl (fun m n=>if m n=true then m else fol S f (upd m n) n) m1) v=true->m1 v=false->(∀k∈S v,(l.foldl (fun m n=>if m n=true then m else fol S f (upd m n) n) m1) k=true)/\Way (fun a b=>(S a).contains b) r v):=by
   intro l;induction l with
   |nil=>
    intro _ m1 _;exact⟨fun k h=>h,fun k hk=>(by cases hk),fun v h1 h2=>by rw[List.foldl_nil]at h1;rw[h1]at h2;cases h2⟩
   |cons q l ih=>
    intro hl m1 hm;have hq:=hl q bq;have hl': ∀k∈l,k∈S r:=fun k hk=>hl k (bH _ hk);simp only[List.foldl_cons];by_cases c:m1 q=true
    ·rw[aD c];obtain⟨a1,a2,a3⟩:=ih hl' m1 hm;refine⟨a1,fun k hk=> ?_,a3⟩;rcases bz.1 hk with rfl|hk
     ·exact a1 _ c
     ·exact a2 k hk
    ·rw[ax c];have c':m1 q=false:=(by simpa using c);have hu:=yv c' n (hS r q hq);have hle:=wU hm n;have F:=Bm hS f (upd m1 q) q (by omega);have hup: ∀k,m1 k=true->fol S f (upd m1 q) q k=true:=fun k hk=>F.up k (by simp[upd,hk]);have hqm:fol S f (upd m1 q) q q=true:=F.up q (by simp[upd]);obtain⟨a1,a2,a3⟩:=ih hl' (fol S f (upd m1 q) q) (fun k hk=>hup k (hm k hk));have hone:Way (fun a b=>(S a).contains b) r q:= .single (by simpa using hq);refine⟨fun k hk=>a1 k (hup k hk),fun k hk=> ?_,fun v h1 h2=> ?_⟩
     ·rcases bz.1 hk with rfl|hk
      ·exact a1 _ hqm
      ·exact a2 k hk
     ·cases hv:fol S f (upd m1 q) q v with
      |false=>exact a3 v h1 hv
      |true=>
       by_cases e:v=q
       ·subst e;exact⟨fun k hk=>a1 k (F.next k hk),hone⟩
       ·have hvu:upd m1 q v=false:=(by simp[upd,e,h2]);exact⟨fun k hk=>a1 k (F.new v hv hvu k hk),hone.trans (F.way v hv hvu)⟩
  obtain⟨a1,a2,a3⟩:=aux (S r) (fun k hk=>hk) m (fun k hk=>hk);exact⟨a1,a2,fun v h1 h2=>(a3 v h1 h2).1,fun v h1 h2=>(a3 v h1 h2).2⟩
theorem yw {S:Nat->List Nat}{n:Nat}(hS: ∀r,∀k∈S r,k<n){f r v:Nat}(hf:n+1<=f):fol S f (fun _=>false) r v=true↔Way (fun a b=>(S a).contains b) r v:=by
 have hz:unm (fun _=>false) n<=n:=by
  have: ∀n,unm (fun _=>false) n=n:=by
   intro n;induction n with
   |zero=>rfl
   |succ n ih=>simp[unm,ih];omega
  rw[this];omega
 have F:=Bm hS f (fun _=>false) r (by omega);constructor
 ·intro h;exact F.way v h rfl
 ·intro h;induction h with
  |single h=>exact F.next _ (by simpa using h)
  |tail _ h ih=>exact F.new _ ih rfl _ (by simpa using h)
def addN (acc:List Int)(n:Int):List Int:=if n∈acc then acc else acc++[n]
theorem Bn (acc:List Int)(n m:Int):m∈addN acc n↔m∈acc\/m=n:=by
 unfold addN;split
 ·rename_i h;constructor
  ·exact .inl
  ·rintro(h1|rfl)
   ·exact h1
   ·exact h
 ·simp
def atF:List Ru->Nat->List UInt8->Int
 |[],_,_=> -1
 |u::l,i,x=>if u.1=x then(i:Int) else atF l (i+1) x
theorem Jn {l:List Ru}{j:Nat}{u:Ru}{x:List UInt8}(h:l[j]? =some u):atF (l.drop j) j x=if u.1=x then(j:Int) else atF (l.drop (j+1)) (j+1) x:=by
 obtain⟨h1,h2⟩:=aF.1 h;rw[bv h1,h2];rfl
theorem wV: ∀(l:List Ru) (i:Nat) (x:List UInt8),-1<=atF l i x/\atF l i x<i+l.length/\(0<=atF l i x->(i:Int)<=atF l i x)
 |[],i,x=>by simp[atF];omega
 |u::l,i,x=>by
  have:=wV l (i+1) x;simp only[atF,bJ];split
  ·omega
  ·omega
theorem GH: ∀(l:List Ru) (i k:Nat) (x:List UInt8),atF l i x=((i+k:Nat):Int)-> ∃u,l[k]? =some u/\u.1=x
 |[],i,k,x,h=>by simp[atF]at h;omega
 |u::l,i,k,x,h=>by
  simp only[atF]at h;split at h
  ·rename_i hx;have:k=0:=(by omega);subst this;exact⟨u,rfl,hx⟩
  ·cases k with
   |zero=>
    have:=wV l (i+1) x;omega
   |succ k=>
    obtain⟨v,h1,h2⟩:=GH l (i+1) k x (by rw[h];omega);exact⟨v,by simpa using h1,h2⟩
def atP5 (l:List Ru)(x:List UInt8):Int:=atF l 0 x
theorem GI {l:List Ru}{x:List UInt8}{k:Nat}(h:atP5 l x=(k:Int)): ∃u,l[k]? =some u/\u.1=x:=GH l 0 k x (by rw[bN];exact h)
theorem oh (l:List Ru)(x:List UInt8): -1<=atP5 l x/\atP5 l x<l.length:=by
 have:=wV l 0 x;unfold atP5;omega
def nms (e:Ex):List (List UInt8):=(if e.kind=10 then [e.name] else [])++(e.kids.attach.map fun k=>nms k.1).flatten
 termination_by SizeOf.sizeOf e
 decreasing_by exact iR k.2
def jF (ks:List Ex):List (List UInt8):=(ks.map nms).flatten
theorem lO (e:Ex):nms e=(if e.kind=10 then [e.name] else [])++jF e.kids:=by
 rw[nms];congr 2;show List.map (nms∘Subtype.val) e.kids.attach=_;rw[<-jT,ij]
def gU (l:List Ru)(acc:List Int)(xs:List (List UInt8)):List Int:=xs.foldl (fun acc x=>addN acc (atP5 l x)) acc
theorem pH {l:List Ru}{m:Int}: ∀(xs:List (List UInt8)) (acc:List Int),m∈gU l acc xs↔m∈acc\/ ∃x∈xs,atP5 l x=m
 |[],acc=>by simp[gU]
 |y::xs,acc=>by
  have:=pH (l:=l) (m:=m) xs (addN acc (atP5 l y));show m∈gU l (addN acc (atP5 l y)) xs↔_;rw[this,Bn];constructor
  ·rintro((h|h)|⟨x,h1,h2⟩)
   ·exact .inl h
   ·exact .inr ⟨y,bq,h.symm⟩
   ·exact .inr ⟨x,bH _ h1,h2⟩
  ·rintro(h|⟨x,h1,h2⟩)
   ·exact .inl (.inl h)
   ·rcases bz.1 h1 with rfl|h1
    ·exact .inl (.inr h2.symm)
    ·exact .inr ⟨x,h1,h2⟩
def fX (l:List Ru)(u:Ru):List Int:=gU l [] (nms u.2)
theorem sb {l:List Ru}: ∀(xs:List (List UInt8)) (acc:List Int),acc.Nodup->(∀m∈acc,-1<=m/\m<l.length)->(gU l acc xs).Nodup/\ ∀m∈gU l acc xs,-1<=m/\m<l.length
 |[],acc,h1,h2=>⟨h1,h2⟩
 |y::xs,acc,h1,h2=>by
  refine sb xs (addN acc (atP5 l y)) ?_ ?_
  ·unfold addN;split
   ·exact h1
   ·rename_i h;rw[List.nodup_append];refine⟨h1,by simp,fun a ha b hb=> ?_⟩;simp at hb;subst hb;exact fun e=>h (e▸ha)
  ·intro m hm;rcases(Bn _ _ _).1 hm with hm|rfl
   ·exact h2 m hm
   ·exact oh l y
end Lx
def xc (w:World)(b:Nat)(o:Obj):World:={w with heap:=w.heap.setIfInBounds b o}
theorem CK {r n:Nat}{w0 w:World}(h:Below n w0 w)(hr:n<=r)(o:Obj):Below n w0 (xc w r o):=
 ⟨h.os,h.tape,h.output,by simpa[xc] using h.size,fun k hk=>by
   rw[<-h.block k hk];show(w.heap.setIfInBounds r o)[k]? =_;rw[dm (by omega)]⟩
theorem bK {p:Prop}(h:p):PH p:=h
def dS (w:World)(v:Value)(ns:List Int):Prop:= ∃p c,v= .slice p ns.length c/\ns.length<9223372036854775808/\ ∀(j:Nat) (n:Int),ns[j]? =some n-> ∃g o:Nat,p=some ⟨g,o,none⟩/\w.cell? (ae g (o+j))=some (ag n)
theorem dS.below {w w':World}{v:Value}{ns:List Int}(h:dS w v ns)(hb:aq w w'):dS w' v ns:=by
 obtain⟨p,c,h1,h2,h3⟩:=h;refine⟨p,c,h1,h2,fun j n hj=> ?_⟩;obtain⟨g,o,e,hc⟩:=h3 j n hj;exact⟨g,o,e,aj hb hc⟩
def idxF:List Int->Nat->Int->Int
 |[],_,_=> -1
 |m::l,i,n=>if m=n then(i:Int) else idxF l (i+1) n
theorem GL {l:List Int}{j:Nat}{m n:Int}(h:l[j]? =some m):idxF (l.drop j) j n=if m=n then(j:Int) else idxF (l.drop (j+1)) (j+1) n:=by
 obtain⟨h1,h2⟩:=aF.1 h;rw[bv h1,h2];rfl
theorem Bo: ∀(l:List Int) (i:Nat) (n:Int),(0<=idxF l i n)↔n∈l
 |[],i,n=>by simp[idxF]
 |m::l,i,n=>by
  have:=Bo l (i+1) n;simp only[idxF,bz];by_cases h:m=n
  ·rw[aD h];constructor
   ·intro _;exact .inl h.symm
   ·intro _;omega
  ·rw[ax h,this];constructor
   ·exact .inr
   ·rintro(e|e)
    ·exact absurd e.symm h
    ·exact e
theorem EH (ns:List Int)(v:Value)(n:Int)(w:World)(h:dS w v ns):Calls prog 77 #[v,ag n] w fun r w'=>r= .returned (ag (idxF ns 0 n))/\aq w w':=by
 obtain⟨p,c,rfl,hlen,hc⟩:=h;have HC:=bK hc;clear hc;go_enter func77,ntmps77;go_wp2_with fail;go_loopw [5,8] (fun _ t wr=> ∃j:Nat,t=ag (j:Int)/\j<=ns.length/\idxF ns 0 n=idxF (ns.drop j) j n/\wr=w) (fun _ t _=>ns.length-(intOf t).toNat);case atStart=>exact⟨0,rfl,by omega,rfl,rfl⟩
 case round=>
  obtain⟨j,rfl,hj,hX,rfl⟩:=hrel;have hj0:(0:Int)<=(j:Int):=(by omega);by_cases hlt:j<ns.length
  ·have hlt':(j:Int)<(ns.length:Int):=(by omega);obtain⟨m,hjk⟩: ∃p,ns[j]? =some p:=⟨ns[j],az hlt⟩
   rw[GL hjk]at hX;obtain⟨g,o,hpe,c0⟩:=HC.o j _ hjk;subst hpe;by_cases hmn:m=n
   ·rw[aD hmn]at hX;have hb:(n==m)=true:=(by rw[hmn];simp);have HX:=bK hX;clear hX hjk HC hmn;go_wp2_with fail;go_ret;exact⟨by(rw[HX.o])<;>rfl,aI _ _⟩
   ·rw[ax hmn]at hX;have hb:(n==m)=false:=bj.2 (fun e=>hmn e.symm);have HX:=bK hX;clear hX hjk hmn;go_wp2_with fail;go_roundw;case rel=>exact⟨j+1,by go_num,by omega,HX.o,trivial⟩
    case measure=>simp[intOf];omega
  ·have hlt': ¬(j:Int)<(ns.length:Int):=(by omega)
   have HX:PH (idxF ns 0 n= -1):=by
    show _=_;rw[hX,df (by omega)];rfl
   clear hX HC;go_wp2_with fail;go_ret;exact⟨by(rw[HX.o])<;>rfl,aI _ _⟩
theorem jG (ns:List Int)(v:Value)(n:Int)(w:World)(h:dS w v ns):Calls prog 54 #[v,ag n] w fun r w'=>r= .returned (.bool (decide (n∈ns)))/\aq w w':=by
 have c1:=EH ns v n w h;obtain⟨p,c,rfl,_,_⟩:=h
 have HD:PH (decide (n∈ns)=decide (0<=idxF ns 0 n)):=by
  show _=_;have hm:=Bo ns 0 n;by_cases hn:n∈ns
  ·rw[bm hn,bm (hm.2 hn)]
  ·rw[bn hn,bn (fun e=>hn (hm.1 e))]
 go_enter func54,ntmps54;go_wp2_with fail;refine c1.mono ?_;rintro r w1 ⟨rfl,hb⟩;clear c1;generalize idxF ns 0 n=q at*;go_wp2_with fail;go_ret;exact⟨by(rw[HD.o])<;>rfl,hb⟩
end Go.Proofs.YtkfidffapdhbhaaGreatDoor
