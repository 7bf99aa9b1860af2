/- Texts of the proof. -/
import Derived.Test.YtaoljfdfhggbbaaGreatDoorPc04
import Derived.Lib.LaidTab
import Derived.Test.YtaoljfdfhggbbaaGreatDoorPc02
set_option maxRecDepth 100000
set_option maxHeartbeats 8000000
namespace Go.Proofs.YtaoljfdfhggbbaaGreatDoor
open Go.Proofs.Tryz Go.RowKit Lx Vx Mx Msk
def sc (t:T1):Value:= .tuple #[.agg #[ag t.kind,ag t.n,ag 0,.string ⟨t.text.toArray⟩],ag (t.len:Int),ag t.err]
theorem yz:prog.underlying 160=some (.struct (prog.fieldsOf 160)):=by kernel_rfl
theorem fT {e:Func}(h:e.results=f112.results){R:Ending->World->Prop}{a:Act}{w:World}(g:Nat)(t:T1)(l:a.defers=[])(f:a.tmps.getD 2 undef=ab g 0)
  (i:a.tmps.getD 3 undef=ag (t.len:Int)) (j:a.tmps.getD 4 undef=ag t.err) (m:w.heap[g]? =ah #[ag t.kind,ag t.n,ag 0,.string ⟨t.text.toArray⟩] 160)
  (k:R (.returned (sc t)) w):bodyPost prog e R .ret a w:=by
 refine aW (v:=sc t) ?_ l k;have b:a.tmps[2]?.getD undef=ab g 0:=by simpa using f
 have c:a.tmps[3]?.getD undef=ag (t.len:Int):=by simpa using i
 have d:a.tmps[4]?.getD undef=ag t.err:=by simpa using j
 have o:=dX (P:=prog) w g 160 160 _ _ _ m yz rfl (by kernel_rfl);simp[results,h,results112,b,c,d,asAddr,o,sc]
theorem vk (s:ByteArray)(l:List UInt8)(y:s.data.toList=l)(C:l.length<=9223372036854775806)(w:World):
  Calls prog 136 #[.string s] w fun e w'=>e= .returned (ag (wordLen l:Int))/\w'=w:=by
 have D:s.size=l.length:=by rw[<-y,Lib.size_eq]
 go_enter func136,ntmps136;go_wp2;go_loop [3] (fun i=> ∃k:Nat,k<=l.length/\i=ag k/\ ∀i,i<k->oc l i=true) (fun i=>l.length-(intOf i).toNat);case atStart=>exact⟨0,by omega,rfl,fun i h=>by omega⟩
 case round=>
  obtain⟨k,v,rfl,g⟩:=hrel;have f:PN (∀i,i<k->oc l i=true):=g;clear g;by_cases t:k<l.length
  ·have j:(k:Int)<(l.length:Int):=(by omega);have r:(0:Int)<=(k:Int):=(by omega);have A: ∀h:k<s.size,s[k]=l.getD k 0:=fun h=>lC y k h
   have b:oc l k=if k=0 then isL (l.getD k 0) else isC (l.getD k 0):=by
    unfold oc;split
    ·rename_i h;rw[h]
    ·rfl
   generalize B:l.getD k 0=c at*;have cl:=fun w=>wP c w;have m:=fun w=>lN c w;have a:oc l k=false->PN (wordLen l=k):=fun h=>wK l k v f.o fun _=>h
   have next:oc l k=true->PN (∀i,i<k+1->oc l i=true):=fun h i hi=>by
    by_cases e:i=k
    ·rw[e];exact h
    ·exact f.o i (by omega)
   cases hL:isL c with
   |true=>
    have p:=next (by rw[b];split<;>simp[hL,isC])
    rw[hL]at cl;clear b hL a next f
    go_wp2_with(first
     |(go_at_call 113;refine(cl _).mono ?_;rintro e w' ⟨rfl,rfl⟩)
     |(go_at_call 111;refine(m _).mono ?_;rintro e w' ⟨rfl,rfl⟩))
    go_round;case rel=>exact⟨k+1,by omega,by go_num,p.o⟩
    case measure=>simp[intOf];omega
   |false=>
    rw[hL]at cl;by_cases n:k=0
    ·have q:=a (by rw[b,aD n,hL]);clear b hL a next f r j
     subst n;have x:(0:Int)<(l.length:Int):=(by omega)
     go_wp2_with(first
      |(go_at_call 113;refine(cl _).mono ?_;rintro e w' ⟨rfl,rfl⟩)
      |(go_at_call 111;refine(m _).mono ?_;rintro e w' ⟨rfl,rfl⟩))
     go_ret;exact⟨by rw[q.o];rfl,rfl⟩
    ·have z:(0:Int)<(k:Int):=(by omega);cases hD:isD c with
     |true=>
      have p:=next (by rw[b,ax n];simp[hD,isC])
      rw[hD]at m;clear b hL hD a next f
      go_wp2_with(first
       |(go_at_call 113;refine(cl _).mono ?_;rintro e w' ⟨rfl,rfl⟩)
       |(go_at_call 111;refine(m _).mono ?_;rintro e w' ⟨rfl,rfl⟩))
      go_round;case rel=>exact⟨k+1,by omega,by go_num,p.o⟩
      case measure=>simp[intOf];omega
     |false=>
      rw[hD]at m;by_cases d:c.toNat=95
      ·have p:=next (by rw[b,ax n];simp[isC,d])
       have u:((c.toNat:Int)==95)=true:=(by simp;omega);clear b hL hD a next f d
       go_wp2_with(first
        |(go_at_call 113;refine(cl _).mono ?_;rintro e w' ⟨rfl,rfl⟩)
        |(go_at_call 111;refine(m _).mono ?_;rintro e w' ⟨rfl,rfl⟩))
       go_round;case rel=>exact⟨k+1,by omega,by go_num,p.o⟩
       case measure=>simp[intOf];omega
      ·have q:=a (by rw[b,ax n];simp[isC,d,hL,hD]);have u:((c.toNat:Int)==95)=false:=(by simp;omega);clear b hL hD a next f d
       go_wp2_with(first
        |(go_at_call 113;refine(cl _).mono ?_;rintro e w' ⟨rfl,rfl⟩)
        |(go_at_call 111;refine(m _).mono ?_;rintro e w' ⟨rfl,rfl⟩))
       go_ret;exact⟨by rw[q.o];rfl,rfl⟩
  ·have q:PN (wordLen l=k):=wK l k v f.o fun h=>absurd h t;have j: ¬(k:Int)<(l.length:Int):=(by omega);go_wp2;go_ret;exact⟨by rw[q.o];rfl,rfl⟩
theorem Ep (s:ByteArray)(l:List UInt8)(t:s.data.toList=l)(H:l.length<=9223372036854775806)(w:World):
  Calls prog 112 #[.string s] w fun e w'=>e= .returned (sc (mx l))/\aq w w':=by
 have I:s.size=l.length:=by rw[<-t,Lib.size_eq]
 have n:aq w (w.alloc (.cells #[ag 0,ag 0,ag 0,.string ⟨#[]⟩] 160)):=am _ _;go_enter func112,ntmps112;go_wp2;go_loop [5] (fun i=> ∃k:Nat,k<=l.length/\i=ag k/\ ∀i,i<k->isD (l.getD i 0)=true) (fun i=>l.length-(intOf i).toNat);case atStart=>exact⟨0,by omega,rfl,fun i h=>by omega⟩
 case round=>
  obtain⟨k,F,rfl,j⟩:=hrel;have u:PN (∀i,i<k->isD (l.getD i 0)=true):=j;clear j;by_cases a:k<l.length/\isD (l.getD k 0)=true
  ·obtain⟨f,d⟩:=a;have b:(k:Int)<(l.length:Int):=(by omega);have r:(0:Int)<=(k:Int):=(by omega);have B: ∀h:k<s.size,s[k]=l.getD k 0:=fun h=>lC t k h;have g:=fun w=>lN (l.getD k 0) w;rw[d]at g;have E:PN (isD (l.getD k 0)=true):=d;clear d;generalize y:l.getD k 0=c at*;go_wp2_with(go_at_call 111;refine(g _).mono ?_;rintro e w' ⟨rfl,rfl⟩)
   go_round
   case rel=>
    refine⟨k+1,by omega,by go_num,fun i hi=> ?_⟩;by_cases e:i=k
    ·rw[e,y];exact E.o
    ·exact u.o i (by omega)
   case measure=>simp[intOf];omega
  ·have D:gO isD l=k:=vG isD l k F u.o fun h=>by
    cases e:isD (l.getD k 0) with
    |false=>rfl
    |true=>exact absurd ⟨h,e⟩ a
   have z:PN (gO isD l=k):=D;clear D;by_cases C:6<k
   ·have x:(6:Int)<(k:Int):=(by omega)
    have m:PN (mx l=bad 3):=by
     have:=z.o;show mx l=bad 3;unfold mx;rw[this,aD C]
    by_cases f:k<l.length
    ·have b:(k:Int)<(l.length:Int):=(by omega);have r:(0:Int)<=(k:Int):=(by omega);have B: ∀h:k<s.size,s[k]=l.getD k 0:=fun h=>lC t k h
     have d:isD (l.getD k 0)=false:=by
      cases e:isD (l.getD k 0) with
      |false=>rfl
      |true=>exact absurd ⟨f,e⟩ a
     have g:=fun w=>lN (l.getD k 0) w;rw[d]at g;clear d a;generalize y:l.getD k 0=c at*;go_wp2_with(go_at_call 111;refine(g _).mono ?_;rintro e w' ⟨rfl,rfl⟩)
     exact fT rfl w.heap.size (bad 3) rfl rfl rfl rfl (aE w _) ⟨by rw[m.o],n⟩
    ·have b: ¬(k:Int)<(l.length:Int):=(by omega);clear a;go_wp2;exact fT rfl w.heap.size (bad 3) rfl rfl rfl rfl (aE w _) ⟨by rw[m.o],n⟩
   ·have x: ¬(6:Int)<(k:Int):=(by omega);have G:(k:Int)<=(l.length:Int):=(by omega);have r:(0:Int)<=(k:Int):=(by omega)
    have m:PN (mx l=⟨6,valL (l.take k),[],k,0⟩):=by
     have:=z.o;show mx l=_;unfold mx;rw[this,ax C]
    have A:=fun w=>mK (s.extract 0 k) (l.take k) (by rw[Lib.extract_data,t];simp) (by simp;omega) (fun i hi=>by
     have q:i<k:=(by simp at hi;omega);have:=u.o i q;rw[dJ]at this⊢;rw[js,aD q];exact this) w
    generalize valL (l.take k)=v at*;have p:aq w (w.alloc (.cells #[ag 6,ag v,ag 0,.string ⟨#[]⟩] 160)):=am _ _;by_cases f:k<l.length
    ·have b:(k:Int)<(l.length:Int):=(by omega);have B: ∀h:k<s.size,s[k]=l.getD k 0:=fun h=>lC t k h
     have d:isD (l.getD k 0)=false:=by
      cases e:isD (l.getD k 0) with
      |false=>rfl
      |true=>exact absurd ⟨f,e⟩ a
     have g:=fun w=>lN (l.getD k 0) w;rw[d]at g;clear d a;generalize y:l.getD k 0=c at*
     go_wp2_with(first
      |(go_at_call 111;refine(g _).mono ?_;rintro e w' ⟨rfl,rfl⟩)
      |(go_at_call 135;refine(A _).mono ?_;rintro e w' ⟨rfl,rfl⟩))
     exact fT rfl w.heap.size ⟨6,v,[],k,0⟩ rfl rfl rfl rfl (aE w _) ⟨by rw[m.o],p⟩
    ·have b: ¬(k:Int)<(l.length:Int):=(by omega);clear a;go_wp2_with(go_at_call 135;refine(A _).mono ?_;rintro e w' ⟨rfl,rfl⟩)
     exact fT rfl w.heap.size ⟨6,v,[],k,0⟩ rfl rfl rfl rfl (aE w _) ⟨by rw[m.o],p⟩
namespace Lx
def lO:List UInt8:=[61,59,58,43,45,38,40,41,44]
theorem A7: ∀(l:List UInt8) (c:UInt8),Go.Lib.indexByte l c<(l.length:Int)
 |[],c=>by simp[Go.Lib.indexByte]
 |b::l,c=>by
  have a:=A7 l c;unfold Go.Lib.indexByte;simp only[bJ];split
  ·omega
  ·split<;>omega
theorem A8: ∀(l:List UInt8) (c:UInt8) (i:Nat),Go.Lib.indexByte l c=(i:Int)->l.getD i 0=c
 |[],c,i,h=>by simp[Go.Lib.indexByte]at h
 |b::l,c,i,h=>by
  unfold Go.Lib.indexByte at h;split at h
  ·rename_i a;have:i=0:=(by omega);subst this;simpa using a
  ·split at h
   ·omega
   ·have k:=Go.Lib.indexByte_ge l c;rename_i f;have g:Go.Lib.indexByte l c≠ -1:=(by simpa using f);obtain⟨j,d⟩: ∃j:Nat,Go.Lib.indexByte l c=j:=⟨(Go.Lib.indexByte l c).toNat,by omega⟩
    have e:i=j+1:=(by omega);subst e;simpa using A8 l c j d
def j8 (l:List UInt8):T1:=if Go.Lib.hasPrefix l [46,46] then⟨3,0,[46,46],2,0⟩ else if Go.Lib.indexByte lO (l.getD 0 0)<0 then bad 2 else⟨3,0,[l.getD 0 0],1,0⟩
theorem KK {s:ByteArray}{l:List UInt8}(h:s.data.toList=l):s=⟨l.toArray⟩:=by
 obtain⟨d⟩:=s;simp only at h;subst h;simp
def jH:List (List UInt8):=[[97,108,119,97,121,115],[100,97,116,101,115],[102,114,105],[109,111,110],[110,101,118,101,114],[114,117,108,101],[115,97,116],[115,104,105,102,116],[115,117,110],[116,104,117],[116,117,101],[119,101,100],[119,101,101,107,108,121]]
def isWordL (t:List UInt8):Bool:=jH.any fun w=>w==t
def kQ (l:List UInt8):T1:=if 20<wordLen l then bad 7 else⟨if isWordL (l.take (wordLen l)) then 2 else 1,0,l.take (wordLen l),wordLen l,0⟩
end Lx
def lc:Array Value:=(jH.map fun l=>Value.string ⟨l.toArray⟩).toArray
theorem I9 (j:Nat)(a:j<13):lc[j]? =some (.string ⟨(jH.getD j []).toArray⟩):=by
 have h:j<jH.length:=a;unfold lc;simp only[List.getElem?_toArray,bg,dJ,az h];rfl
theorem Ge (w:World):Calls prog 172 #[] w fun e w'=>e= .returned (.slice (some (ae w.heap.size 0)) 13 13)/\w'=w.alloc (.cells lc 9):=by
 go_enter func172,ntmps172;go_wp2;go_ret;exact⟨rfl,rfl⟩
theorem Gf {x:List UInt8}(h: ∀j,j<13->jH.getD j []≠x):isWordL x=false:=by
 cases e:isWordL x with
 |false=>rfl
 |true=>
  unfold isWordL at e;rw[List.any_eq_true]at e;obtain⟨y,d,c⟩:=e;obtain⟨j,b,rfl⟩:=List.getElem_of_mem d;have a:j<13:=b;exact absurd (by simpa[List.getD,b] using c) (h j a)
theorem Er {x:List UInt8}(j:Nat)(b:j<13)(h:jH.getD j []=x):isWordL x=true:=by
 unfold isWordL;rw[List.any_eq_true];have a:j<jH.length:=b;exact⟨jH.getD j [],by simp[List.getD,a],by rw[h];exact beq_self_eq_true x⟩
theorem Ja (x:ByteArray)(l:List UInt8)(u:x.data.toList=l)(g:Nat)(w:World)(r:w.heap[g]? =ah lc 9):
  Calls prog 197 #[.slice (some (ae g 0)) 13 13,.string x] w fun e w'=>(∃i:Int,e= .returned (ag i)/\decide (0<=i)=isWordL l)/\w'=w:=by
 have a: ∀j,j<13->w.cell? (ae g j)=some (.string ⟨(jH.getD j []).toArray⟩):=fun j s=>by rw[aZ _ _ _ _ _ _ r,I9 j s]
 have v:PN (∀j,j<13->w.cell? (ae g j)=some (.string ⟨(jH.getD j []).toArray⟩)):=a;clear a r;go_enter func197,ntmps197;go_wp2;go_loop [8] (fun i=> ∃k:Nat,k<=13/\i=ag k/\ ∀j,j<k->jH.getD j []≠l) (fun i=>13-(intOf i).toNat);case atStart=>exact⟨0,by omega,rfl,fun i h=>by omega⟩
 case round=>
  obtain⟨k,D,rfl,c⟩:=hrel;have q:PN (∀j,j<k->jH.getD j []≠l):=c;clear c;by_cases f:k<13
  ·have t:(k:Int)<13:=(by omega);have B:(0:Int)<=(k:Int):=(by omega);have A:=v.o k f;generalize p:(⟨(jH.getD k []).toArray⟩:ByteArray)=y at A;have b:y.data.toList=jH.getD k []:=(by rw[<-p]);by_cases d:jH.getD k []=l
   ·have C:(x.toList==y.toList)=true:=(by rw[Lib.toList_data,Lib.toList_data,b,u,d];simp);have m:PN (isWordL l=true):=Er k f d;clear d b p;go_wp2;go_ret;exact⟨⟨_,rfl,by rw[m.o];simp⟩,rfl⟩
   ·have C:(x.toList==y.toList)=false:=by
     rw[Lib.toList_data,Lib.toList_data,b,u];rw[bj];exact fun e=>d e.symm
    have z:PN (jH.getD k []≠l):=d;clear d b p;go_wp2;go_round
    case rel=>
     refine⟨k+1,by omega,by go_num,fun j s=> ?_⟩;by_cases e:j=k
     ·subst e;exact z.o
     ·exact q.o j (by omega)
    case measure=>simp[intOf];omega
  ·have n:k=13:=(by omega);subst n;have m:PN (isWordL l=false):=Gf q.o;go_wp2;go_ret;exact⟨⟨_,rfl,by rw[m.o];simp⟩,rfl⟩
theorem wQ (x:ByteArray)(l:List UInt8)(f:x.data.toList=l)(w:World):
  Calls prog 138 #[.string x] w fun e w'=>e= .returned (.bool (isWordL l))/\aq w w':=by
 have d:(w.alloc (.cells lc 9)).heap[w.heap.size]? =ah lc 9:=aE w _;have c:aq w (w.alloc (.cells lc 9)):=am _ _;have a:=Ja x l f _ _ d;have b:=Ge w;generalize w.alloc (.cells lc 9)=g at*;go_enter func138,ntmps138
 go_wp2_with(first
  |(go_at_call 172;refine b.mono ?_;rintro e w' ⟨rfl,rfl⟩)
  |(go_at_call 171;go_in)
  |(go_at_call 197;refine a.mono ?_;rintro e w' ⟨⟨i,rfl,hi⟩,rfl⟩))
 go_ret;exact⟨by rw[<-hi];rfl,c⟩
namespace Cal
def lpB (y:Int):Bool:=decide (y%4=0/\(¬y%100=0\/y%400=0))
def lp (y:Int):Int:=if y%4=0/\(¬y%100=0\/y%400=0) then 1 else 0
def dim (y m:Int):Int:=
 if y<2000\/2399<y\/m<1\/12<m then 0
 else if m=2 then 28+lp y
 else if m=4\/m=6\/m=9\/m=11 then 30 else 31
def cum (y m:Int):Int:=
 if m<=1 then 0 else if m=2 then 31 else if m=3 then 59+lp y else if m=4 then 90+lp y
 else if m=5 then 120+lp y else if m=6 then 151+lp y else if m=7 then 181+lp y
 else if m=8 then 212+lp y else if m=9 then 243+lp y else if m=10 then 273+lp y
 else if m=11 then 304+lp y else if m=12 then 334+lp y else 365+lp y
def ys (y:Int):Int:=365*(y-2000)+((y-2000+3)/4-(y-2000+99)/100+(y-2000+399)/400)
theorem Et (y:Int):0<=lp y/\lp y<=1:=by unfold lp;split<;>omega
theorem PK (y:Int):lp y=if lpB y=true then 1 else 0:=by unfold lp lpB;simp
theorem Na (y m:Int):0<=dim y m/\dim y m<=31:=by
 have:=Et y;unfold dim;split
 ·omega
 ·split
  ·omega
  ·split<;>omega
theorem Lh (y m:Int)(h:y<2000\/2399<y\/m<1\/12<m):dim y m=0:=by unfold dim;rw[aD h]
theorem Li (y m:Int)(h:1<=dim y m):2000<=y/\y<=2399/\1<=m/\m<=12:=by
 by_cases g:y<2000\/2399<y\/m<1\/12<m
 ·rw[Lh y m g]at h;omega
 ·omega
theorem Nb (y:Int):cum y 13=365+lp y:=rfl
theorem Ba (y m:Int)(a:2000<=y)(b:y<=2399)(c:1<=m)(d:m<=12):cum y (m+1)=cum y m+dim y m:=by
 have h:m=1\/m=2\/m=3\/m=4\/m=5\/m=6\/m=7\/m=8\/m=9\/m=10\/m=11\/m=12:=by omega
 unfold dim;rw[ax (by omega)];rcases h with rfl|rfl|rfl|rfl|rfl|rfl|rfl|rfl|rfl|rfl|rfl|rfl<;>simp[cum]<;>omega
theorem Nc (y m:Int)(c:1<=m)(d:m<=13):0<=cum y m/\cum y m<=366:=by
 have:=Et y;have h:m=1\/m=2\/m=3\/m=4\/m=5\/m=6\/m=7\/m=8\/m=9\/m=10\/m=11\/m=12\/m=13:=by omega
 rcases h with rfl|rfl|rfl|rfl|rfl|rfl|rfl|rfl|rfl|rfl|rfl|rfl|rfl<;>simp[cum]<;>omega
theorem Jd (y m k:Int)(c:1<=m)(d:m<k)(e:k<=13)(a:2000<=y)(b:y<=2399):cum y m+dim y m<=cum y k:=by
 rw[<-Ba y m a b c (by omega)];have:=Et y;have h:m=1\/m=2\/m=3\/m=4\/m=5\/m=6\/m=7\/m=8\/m=9\/m=10\/m=11\/m=12:=by omega
 have g:k=2\/k=3\/k=4\/k=5\/k=6\/k=7\/k=8\/k=9\/k=10\/k=11\/k=12\/k=13:=by omega
 rcases h with rfl|rfl|rfl|rfl|rfl|rfl|rfl|rfl|rfl|rfl|rfl|rfl<;>
  rcases g with rfl|rfl|rfl|rfl|rfl|rfl|rfl|rfl|rfl|rfl|rfl|rfl<;>first|omega|(simp[cum]<;>omega)
theorem Lj:ys 2000=0:=by decide
theorem Lk:ys 2400=146097:=by decide
theorem Ll (y:Int):ys (y+1)=ys y+365+lp y:=by unfold ys lp;split<;>omega
theorem DA (a b:Int)(h:a<=b):ys a<=ys b:=by unfold ys;omega
theorem KL (y:Int)(a:2000<=y)(b:y<=2400):0<=ys y/\ys y<=146097:=by
 have c:=DA _ _ a;have d:=DA _ _ b;rw[Lj]at c;rw[Lk]at d;exact⟨c,d⟩
def num (y m d:Int):Int:=ys y+cum y m+d-1
theorem wT (y m d:Int)(h:1<=d)(g:d<=dim y m):0<=num y m d/\num y m d<146097/\ys y<=num y m d/\num y m d<ys (y+1):=by
 obtain⟨a,b,c,e⟩:=Li y m (by omega);have f:=KL y a (by omega);have i:=KL (y+1) (by omega) (by omega);have j:=Ll y;have k:=Ba y m a b c e;have l:=Nc y m c (by omega)
 have n:cum y (m+1)<=365+lp y:=by
  by_cases h:m=12
  ·subst h;exact Int.le_of_eq rfl
  ·have:=Jd y (m+1) 13 (by omega) (by omega) (by omega) a b;rw[Nb]at this;have:=Na y (m+1);omega
 unfold num;omega
end Cal
def tab:List Int:=[31,28,31,30,31,30,31,31,30,31,30,31]
def gI (w:World):Prop:= ∀i:Nat,i<12->w.cell? (ae 0 i)=some (ag (tab.getD i 0))
theorem Bb (y:Int)(w:World)(i:0<=y)(j:y<=9223372036854775807):
  Calls prog 196 #[ag y] w fun e w'=>e= .returned (.bool (Cal.lpB y))/\w'=w:=by
 by_cases c:y%4=0
 ·by_cases a:y%100=0
  ·by_cases b:y%400=0
   ·have e:Cal.lpB y=true:=(by unfold Cal.lpB;exact bm ⟨c,.inr b⟩);rw[e];have d:(y%4==0)=true:=(by simp[c]);have f:(y%100 !=0)=false:=(by simp[a]);have g:(y%400==0)=true:=(by simp[b]);go_enter func196,ntmps196;go_wp2;go_ret;exact⟨rfl,rfl⟩
   ·have e:Cal.lpB y=false:=(by unfold Cal.lpB;exact bn (fun h=>by omega));rw[e];have d:(y%4==0)=true:=(by simp[c]);have f:(y%100 !=0)=false:=(by simp[a]);have g:(y%400==0)=false:=(by simp[b]);go_enter func196,ntmps196;go_wp2;go_ret;exact⟨rfl,rfl⟩
  ·have e:Cal.lpB y=true:=(by unfold Cal.lpB;exact bm ⟨c,.inl a⟩);rw[e];have d:(y%4==0)=true:=(by simp[c]);have f:(y%100 !=0)=true:=(by simp[a]);go_enter func196,ntmps196;go_wp2;go_ret;exact⟨rfl,rfl⟩
 ·have e:Cal.lpB y=false:=by unfold Cal.lpB;exact bn (fun h=>c h.1)
  rw[e];have d:(y%4==0)=false:=(by simp[c]);go_enter func196,ntmps196;go_wp2;go_ret;exact⟨rfl,rfl⟩
theorem Eu (y m:Int)(w:World)(h:y<2000\/2399<y\/m<1\/12<m):
  Calls prog 167 #[ag y,ag m] w fun e w'=>e= .returned (ag 0)/\w'=w:=by
 by_cases a:y<2000
 ·go_enter func167,ntmps167;go_wp2;go_ret;exact⟨rfl,rfl⟩
 ·by_cases b:2399<y
  ·go_enter func167,ntmps167;go_wp2;go_ret;exact⟨rfl,rfl⟩
  ·by_cases c:m<1
   ·go_enter func167,ntmps167;go_wp2;go_ret;exact⟨rfl,rfl⟩
   ·have d:12<m:=(by omega);go_enter func167,ntmps167;go_wp2;go_ret;exact⟨rfl,rfl⟩
theorem Ev (y:Int)(w:World)(a:2000<=y)(b:y<=2399)(d:w.cell? (ae 0 1)=some (ag 28)):
  Calls prog 167 #[ag y,ag 2] w fun e w'=>e= .returned (ag (28+Cal.lp y))/\w'=w:=by
 have c:=Cal.PK y;cases hb:Cal.lpB y
 ·rw[hb]at c;simp at c;rw[c];go_enter func167,ntmps167;go_wp2_with(go_at_call 196;refine(Bb _ _ (by omega) (by omega)).mono ?_;rw[hb];rintro e w' ⟨rfl,rfl⟩)
  go_ret;exact⟨rfl,rfl⟩
 ·rw[hb]at c;simp at c;rw[c];go_enter func167,ntmps167;go_wp2_with(go_at_call 196;refine(Bb _ _ (by omega) (by omega)).mono ?_;rw[hb];rintro e w' ⟨rfl,rfl⟩)
  go_ret;exact⟨rfl,rfl⟩
theorem Gi (y m:Int)(w:World)(g:gI w)(a:2000<=y)(b:y<=2399)(c:1<=m)(d:m<=12):
  Calls prog 167 #[ag y,ag m] w fun e w'=>e= .returned (ag (Cal.dim y m))/\w'=w:=by
 have h:m=1\/m=2\/m=3\/m=4\/m=5\/m=6\/m=7\/m=8\/m=9\/m=10\/m=11\/m=12:=by omega
 have e:Cal.dim y m=if m=2 then 28+Cal.lp y else if m=4\/m=6\/m=9\/m=11 then 30 else 31:=by unfold Cal.dim;rw[ax (by omega)]
 rw[e];rcases h with rfl|h
 ·have f:=g 0 (by decide);simp[tab]at f;rw[ax (by decide),ax (by decide)];go_enter func167,ntmps167;go_wp2;go_ret;exact⟨rfl,rfl⟩
 rcases h with rfl|h
 ·have f:=g 1 (by decide);simp[tab]at f;exact Ev y w a b f
 rcases h with rfl|h
 ·have f:=g 2 (by decide);simp[tab]at f;rw[ax (by decide),ax (by decide)];go_enter func167,ntmps167;go_wp2;go_ret;exact⟨rfl,rfl⟩
 rcases h with rfl|h
 ·have f:=g 3 (by decide);simp[tab]at f;rw[ax (by decide),aD (by decide)];go_enter func167,ntmps167;go_wp2;go_ret;exact⟨rfl,rfl⟩
 rcases h with rfl|h
 ·have f:=g 4 (by decide);simp[tab]at f;rw[ax (by decide),ax (by decide)];go_enter func167,ntmps167;go_wp2;go_ret;exact⟨rfl,rfl⟩
 rcases h with rfl|h
 ·have f:=g 5 (by decide);simp[tab]at f;rw[ax (by decide),aD (by decide)];go_enter func167,ntmps167;go_wp2;go_ret;exact⟨rfl,rfl⟩
 rcases h with rfl|h
 ·have f:=g 6 (by decide);simp[tab]at f;rw[ax (by decide),ax (by decide)];go_enter func167,ntmps167;go_wp2;go_ret;exact⟨rfl,rfl⟩
 rcases h with rfl|h
 ·have f:=g 7 (by decide);simp[tab]at f;rw[ax (by decide),ax (by decide)];go_enter func167,ntmps167;go_wp2;go_ret;exact⟨rfl,rfl⟩
 rcases h with rfl|h
 ·have f:=g 8 (by decide);simp[tab]at f;rw[ax (by decide),aD (by decide)];go_enter func167,ntmps167;go_wp2;go_ret;exact⟨rfl,rfl⟩
 rcases h with rfl|h
 ·have f:=g 9 (by decide);simp[tab]at f;rw[ax (by decide),ax (by decide)];go_enter func167,ntmps167;go_wp2;go_ret;exact⟨rfl,rfl⟩
 rcases h with rfl|h
 ·have f:=g 10 (by decide);simp[tab]at f;rw[ax (by decide),aD (by decide)];go_enter func167,ntmps167;go_wp2;go_ret;exact⟨rfl,rfl⟩
 subst h;have f:=g 11 (by decide);simp[tab]at f;rw[ax (by decide),ax (by decide)];go_enter func167,ntmps167;go_wp2;go_ret;exact⟨rfl,rfl⟩
theorem sd (y m:Int)(w:World)(a:gI w):
  Calls prog 167 #[ag y,ag m] w fun e w'=>e= .returned (ag (Cal.dim y m))/\w'=w:=by
 by_cases h:y<2000\/2399<y\/m<1\/12<m
 ·rw[Cal.Lh y m h];exact Eu y m w h
 ·exact Gi y m w a (by omega) (by omega) (by omega) (by omega)
theorem Nd (y:Int)(w:World)(a:2000<=y)(b:y<=2400):
  Calls prog 168 #[ag y] w fun e w'=>e= .returned (ag (Cal.ys y))/\w'=w:=by
 unfold Cal.ys;go_enter func168,ntmps168;go_wp2;go_ret;exact⟨rfl,rfl⟩
theorem Lm (y m:Int)(w:World)(j:gI w)(a:2000<=y)(b:y<=2399)(c:1<=m)(d:m<=13):
  Calls prog 169 #[ag y,ag m] w fun e w'=>e= .returned (ag (Cal.cum y m))/\w'=w:=by
 have H:PN (gI w):=j;go_enter func169,ntmps169;go_wp2;go_loop [5,6] (fun t i=> ∃k:Int,1<=k/\k<=m/\i=ag k/\t=ag (Cal.cum y k)) (fun _ i=>(13-intOf i).toNat);case atStart=>exact⟨1,by omega,by omega,rfl,rfl⟩
 case round=>
  obtain⟨k,f,l,rfl,rfl⟩:=hrel;have p:=Cal.Nc y k f (by omega);have q:=Cal.Na y k;by_cases n:k<m
  ·have g:PN (Cal.cum y (k+1)=Cal.cum y k+Cal.dim y k):=Cal.Ba y k a b f (by omega);go_wp2_with(go_at_call 167;refine(sd _ _ _ H.o).mono ?_;rintro e w' ⟨rfl,rfl⟩)
   go_round;case rel=>exact⟨k+1,by omega,by omega,rfl,by rw[g.o]⟩
   case measure=>simp[intOf];omega
  ·have e:k=m:=(by omega);subst e;go_wp2;go_ret;exact⟨rfl,rfl⟩
theorem gI.below {w w':World}(h:gI w)(a:aq w w'):gI w':=fun i hi=>cell_later a (h i hi)
theorem gI.alloc {w:World}(h:gI w)(o:Obj):gI (w.alloc o):=h.below (am _ o)
theorem gI.drew {w:World}(h:gI w):gI w.drew:=fun i hi=>h i hi
theorem Ew (y m d:Int)(w:World)(g:gI w)(a:1<=d)(b:d<=Cal.dim y m):
  Calls prog 134 #[.agg #[ag y,ag m,ag d]] w fun e w'=>e= .returned (.tuple #[ag (Cal.num y m d),ag 0])/\aq w w':=by
 have H:PN (gI w):=g;clear g;obtain⟨r1,n,j,r4⟩:=Cal.Li y m (by omega);have l:=Cal.Na y m;have t:=Cal.KL y r1 (by omega);have q:=Cal.Nc y m j (by omega);have r:decide (d<1)=false:=by simp;omega
 have s:decide (Cal.dim y m<d)=false:=by simp;omega
 go_enter func134,ntmps134;go_wp2;go_quiet ((go_at_call 167;exact fu (sd _ _ _ (H.o.alloc _))));go_wp2;generalize c:(w.alloc (.cells #[ag y,ag m,ag d] 219)).drewN nq=f;have c0:f.cell? (ae w.heap.size 0)=some (ag y):=by rw[<-c];simp
 have c1:f.cell? (ae w.heap.size 1)=some (ag m):=by rw[<-c];simp
 have p:f.cell? (ae w.heap.size 2)=some (ag d):=by rw[<-c];simp
 have i:aq w f:=by rw[<-c];exact dD (am _ _) _
 have k:PN (gI f):=H.o.below i;clear c H;go_quiet ((first|(go_at_call 168;exact fu (Nd y _ r1 (by omega)))|(go_at_call 169;exact fu (Lm y m _ k.o r1 n j (by omega)))));go_wp2;go_ret2;exact⟨rfl,dD i _⟩
theorem Gj (y m d:Int)(w:World)(b:gI w)(a:d<1\/Cal.dim y m<d):
  Calls prog 134 #[.agg #[ag y,ag m,ag d]] w fun e w'=>e= .returned (.tuple #[ag 0,ag 3])/\aq w w':=by
 have H:PN (gI w):=b;clear b;by_cases f:d<1
 ·have c:decide (d<1)=true:=by simp;omega
  clear a;go_enter func134,ntmps134;go_wp2;go_quiet (fail);go_wp2;go_ret2;exact⟨rfl,dD (am _ _) _⟩
 ·have c:decide (d<1)=false:=by simp;omega
  have g:decide (Cal.dim y m<d)=true:=(by simp;omega);clear a;go_enter func134,ntmps134;go_wp2;go_quiet ((go_at_call 167;exact fu (sd _ _ _ (H.o.alloc _))));go_wp2;go_ret2;exact⟨rfl,dD (am _ _) _⟩
theorem Gk (s:ByteArray)(l:List UInt8)(q:s.data.toList=l)(y:l.length<=9223372036854775806)(d:jq l wO=true)(w:World):
  Calls prog 110 #[.string s] w fun e w'=>e= .returned (sc (oK l))/\aq w w':=by
 have z:s.size=l.length:=by rw[<-q,Lib.size_eq]
 obtain⟨a,_⟩:=qf d;have p:5<=l.length:=a;have u:(5:Int)<=(l.length:Int):=by omega
 have r:(2:Int)<=(l.length:Int):=by omega
 have t:(3:Int)<=(l.length:Int):=by omega
 obtain⟨v,i⟩:=my d 3 2 (by decide) (by decide);obtain⟨x,j⟩:=my d 0 2 (by decide) (by decide);have c1:=fun w=>mK (s.extract 3 5) ((l.drop 3).take 2) (by rw[Lib.extract_data,q]) (by omega) i w;have g:=fun w=>mK (s.extract 0 2) ((l.drop 0).take 2) (by rw[Lib.extract_data,q]) (by omega) j w;have b1:=pH _ i 2 (by omega) (by omega);have b2:=pH _ j 2 (by omega) (by omega);rw[cQ (by omega)]at b1 b2;have f:PN (oK l=if 59<valL ((l.drop 3).take 2)\/1440<60*valL ((l.drop 0).take 2)+valL ((l.drop 3).take 2) then bad 3 else⟨4,60*valL ((l.drop 0).take 2)+valL ((l.drop 3).take 2),[],5,0⟩):=rfl;generalize valL ((l.drop 3).take 2)=m at*;generalize valL ((l.drop 0).take 2)=h at*;clear v i x j a d;have c:aq w (w.alloc (.cells #[ag 0,ag 0,ag 0,.string ⟨#[]⟩] 160)):=am _ _;have n:aq w (w.alloc (.cells #[ag 4,ag (60*h+m),ag 0,.string ⟨#[]⟩] 160)):=am _ _;by_cases k:59<m
 ·go_enter func110,ntmps110
  go_wp2_with(first
   |(go_at_call 135;have _t:=c1;refine(c1 _).mono ?_;rintro e w' ⟨rfl,rfl⟩;clear _t c1)
   |(go_at_call 135;refine(g _).mono ?_;rintro e w' ⟨rfl,rfl⟩))
  exact fT (by rw[results110,results112]) w.heap.size (bad 3) rfl rfl rfl rfl (aE w _) ⟨by rw[f.o,aD (.inl k)],c⟩
 ·by_cases b:1440<60*h+m
  ·go_enter func110,ntmps110
   go_wp2_with(first
    |(go_at_call 135;have _t:=c1;refine(c1 _).mono ?_;rintro e w' ⟨rfl,rfl⟩;clear _t c1)
    |(go_at_call 135;refine(g _).mono ?_;rintro e w' ⟨rfl,rfl⟩))
   exact fT (by rw[results110,results112]) w.heap.size (bad 3) rfl rfl rfl rfl (aE w _) ⟨by rw[f.o,aD (.inr b)],c⟩
  ·go_enter func110,ntmps110
   go_wp2_with(first
    |(go_at_call 135;have _t:=c1;refine(c1 _).mono ?_;rintro e w' ⟨rfl,rfl⟩;clear _t c1)
    |(go_at_call 135;refine(g _).mono ?_;rintro e w' ⟨rfl,rfl⟩))
   exact fT (by rw[results110,results112]) w.heap.size ⟨4,60*h+m,[],5,0⟩ rfl rfl rfl rfl (aE w _) ⟨by rw[f.o,ax (by omega)],n⟩
namespace Lx
theorem iS {e k:Ex}(h:k∈e.kids):SizeOf.sizeOf k<SizeOf.sizeOf e:=by
 have a:=List.sizeOf_lt_of_mem h;cases e;simp only[Ex.mk.sizeOf_spec]at*;omega
def hgt (e:Ex):Nat:=(e.kids.attach.map fun k=>hgt k.1).foldl max 0+1
 termination_by SizeOf.sizeOf e
 decreasing_by exact iS k.2
def hgtL (l:List Ex):Nat:=(l.map hgt).foldl max 0
theorem qp (e:Ex):hgt e=hgtL e.kids+1:=by
 rw[hgt,hgtL];show(List.map (hgt∘Subtype.val) e.kids.attach).foldl max 0+1=_;rw[<-jU,ik]
theorem GB (l:List Nat): ∀a,l.foldl max a=max a (l.foldl max 0):=by
 induction l with
 |nil=>intro a;simp
 |cons b l c=>
  intro a;simp only[List.foldl_cons];rw[c (max a b),c (max 0 b)];omega
theorem Bj:hgtL []=0:=rfl
theorem qM (k:Ex)(l:List Ex):hgtL (k::l)=max (hgt k) (hgtL l):=by
 unfold hgtL;simp only[dI,List.foldl_cons];rw[GB];omega
theorem GC (l:List Ex)(k:Ex):hgtL (l++[k])=max (hgtL l) (hgt k):=by
 unfold hgtL;rw[dN,List.foldl_append];rfl
theorem DD {e k:Ex}(h:k∈e.kids):hgt k<hgt e:=by
 rw[qp e];generalize e.kids=l at*;induction l with
 |nil=>cases h
 |cons q l a=>
  rw[qM];rcases bv.1 h with rfl|h
  ·omega
  ·have:=a h;omega
theorem DE (E:Nat): ∀(f m d:Nat) (e:Ex) (r:List Tk) (n:Nat) (y:Ex) (B:List Tk) (w:Nat),m<=8->(m=1\/m=3\/m=5->hgt e<=n)->goP E f m d e r n= .ok (y,B,w)->hgt y<=w/\n<=w
 |0,m,d,e,r,n,y,B,w,_,_,h=>(dG h).elim
 |f+1,m,d,e,r,n,y,B,w,K,z,h=>by
  have c:=DE E f;have j: ∀(k a b:Int) (x:List UInt8),hgt ⟨k,a,b,x,[]⟩=1:=fun k a b x=>(by rw[qp];rfl)
  have one: ∀(k a b:Int) (x:List UInt8) (t:Ex),hgt ⟨k,a,b,x,[t]⟩=hgt t+1:=fun k a b x t=>by
   rw[qp];show hgtL [t]+1=_;rw[qM,Bj];omega
  have u: ∀(k a b:Int) (x:List UInt8) (s t:Ex),hgt ⟨k,a,b,x,[s,t]⟩=max (hgt s) (hgt t)+1:=fun k a b x s t=>by
   rw[qp];show hgtL [s,t]+1=_;rw[qM,qM,Bj];omega
  match m,K with
  |0,_=>
   rw[ux]at h;obtain⟨l,r1,q,i,g⟩:=dz h;have a:=c 2 _ _ _ _ _ _ _ (by omega) (by omega) i;have b:=c 1 _ _ _ _ _ _ _ (by omega) (fun _=>a.1) g;omega
  |1,_=>
   rw[uy]at h;have v:=z (by omega);split at h
   ·obtain⟨l,r1,q,i,g⟩:=dz h;obtain⟨e2,C,A,o,p⟩:=dz g;have a:=c 2 _ _ _ _ _ _ _ (by omega) (by omega) i;cases dM o;have b:=c 1 _ _ _ _ _ _ _ (by omega) (fun _=>by rw[u];omega) p;omega
   ·split at h
    ·obtain⟨l,r1,q,i,g⟩:=dz h;obtain⟨e2,C,A,o,p⟩:=dz g;have a:=c 2 _ _ _ _ _ _ _ (by omega) (by omega) i;cases dM o;have b:=c 1 _ _ _ _ _ _ _ (by omega) (fun _=>by rw[u];omega) p;omega
    ·cases h;omega
  |2,_=>
   rw[uz]at h;obtain⟨l,r1,q,i,g⟩:=dz h;have a:=c 4 _ _ _ _ _ _ _ (by omega) (by omega) i;have b:=c 3 _ _ _ _ _ _ _ (by omega) (fun _=>a.1) g;omega
  |3,_=>
   rw[uA]at h;have v:=z (by omega);split at h
   ·obtain⟨l,r1,q,i,g⟩:=dz h;obtain⟨e2,C,A,o,p⟩:=dz g;have a:=c 4 _ _ _ _ _ _ _ (by omega) (by omega) i;cases dM o;have b:=c 3 _ _ _ _ _ _ _ (by omega) (fun _=>by rw[u];omega) p;omega
   ·cases h;omega
  |4,_=>
   rw[uB]at h;obtain⟨l,r1,q,i,g⟩:=dz h;have a:=c 6 _ _ _ _ _ _ _ (by omega) (by omega) i;have b:=c 5 _ _ _ _ _ _ _ (by omega) (fun _=>a.1) g;omega
  |5,_=>
   rw[uC]at h;have v:=z (by omega);split at h
   ·split at h
    ·exact(dG h).elim
    ·split at h
     ·exact(dG h).elim
     ·obtain⟨e2,C,A,o,p⟩:=dz h;cases dM o;have b:=c 5 _ _ _ _ _ _ _ (by omega) (fun _=>by rw[one];omega) p;omega
   ·cases h;omega
  |6,_=>
   rw[uD]at h;by_cases c0:40<d
   ·rw[aD c0]at h;exact(dG h).elim
   rw[ax c0]at h;by_cases c1:isT kP r=true
   ·rw[aD c1]at h;obtain⟨l,r1,q,i,g⟩:=dz h;have a:=c 0 _ _ _ _ _ _ _ (by omega) (by omega) i;split at g
    ·cases g;omega
    ·exact(dG g).elim
   rw[ax c1]at h;by_cases D:isT jX r=true
   ·rw[aD D]at h;cases dM h;rw[j];omega
   rw[ax D]at h;by_cases F:isT jz r=true
   ·rw[aD F]at h;cases dM h;rw[j];omega
   rw[ax F]at h;by_cases G:isT jS r=true
   ·rw[aD G]at h;exact c 7 _ _ _ _ _ _ _ (by omega) (by omega) h
   rw[ax G]at h;by_cases H:isT lz r=true
   ·rw[aD H]at h;split at h
    ·exact(dG h).elim
    split at h
    ·split at h
     ·exact(dG h).elim
     split at h
     ·exact(dG h).elim
     exact c 8 _ _ _ _ _ _ _ (by omega) (by omega) h
    ·exact c 8 _ _ _ _ _ _ _ (by omega) (by omega) h
   rw[ax H]at h;by_cases I:kindP r=1
   ·rw[aD I]at h;cases dM h;rw[j];omega
   rw[ax I]at h;by_cases J:kindP r≠4
   ·rw[aD J]at h;exact(dG h).elim
   rw[ax J]at h;split at h
   ·split at h
    ·exact(dG h).elim
    split at h
    ·exact(dG h).elim
    cases dM h;rw[j];omega
   ·exact(dG h).elim
  |7,_=>
   rw[uE]at h;split at h
   ·exact(dG h).elim
   ·split at h
    ·exact c 7 _ _ _ _ _ _ _ (by omega) (by omega) h
    ·exact c 8 _ _ _ _ _ _ _ (by omega) (by omega) h
  |8,_=>
   rw[uF]at h;split at h
   ·obtain⟨l,r1,q,i,g⟩:=dz h;cases dM g;have a:=c 4 _ _ _ _ _ _ _ (by omega) (by omega) i;rw[one];omega
   ·exact(dG h).elim
theorem Nh {E d:Nat}{e:Ex}{r:List Tk}{n:Nat}{a:Ex}{c:List Tk}{b:Nat}(h:rd E 0 d e r n= .ok (a,c,b)):hgt a<=b:=(DE E _ 0 d e r n a c b (by omega) (by omega) h).1
abbrev Ru:=List UInt8×Ex
def oQ (E:Nat)(r:List Tk):Except (Int×Nat) (Ru×List Tk):=
 if kindP r≠1 then .error (2,atP E r)
 else if isT wIs r.tail then
  match rd E 0 1 ex0 r.tail.tail 0 with
  | .error q=> .error q
  | .ok (e,q,_)=>if 40<hgt e then .error (4,atP E q) else if isT sb q then .ok ((textP r,e),q.tail) else .error (2,atP E q)
 else .error (2,atP E r.tail)
def iT (E:Nat):Nat->List Ru->List Tk->Except (Int×Nat) (List Ru)
 |0,a,_=> .ok a
 |f+1,a,r=>
  if r.length=0 then .ok a
  else if isT uw r then
   if a.length=40 then .error (5,atP E r.tail)
   else match oQ E r.tail with
    | .error q=> .error q
    | .ok (u,q)=>iT E f (a++[u]) q
  else .error (2,atP E r)
abbrev Way (E:Nat->Nat->Bool)(i k:Nat):Prop:=Relation.TransGen (fun a b=>E a b=true) i k
def wars (E:Nat->Nat->Bool):Nat->Nat->Nat->Bool
 |0,i,k=>E i k
 |m+1,i,k=>wars E m i k||(wars E m i m&&wars E m m k)
theorem qN {E:Nat->Nat->Bool}{m i k:Nat}(h:wars E m i k=true): ∀d,wars E (m+d) i k=true
 |0=>h
 |d+1=>by
  show wars E ((m+d)+1) i k=true;simp only[wars,qN h d,Bool.true_or]
theorem Bu {E:Nat->Nat->Bool}{m i j k:Nat}(o:j<m)(d:wars E m i j=true)(c:wars E m j k=true):wars E m i k=true:=by
 induction m generalizing i j k with
 |zero=>omega
 |succ m n=>
  by_cases l:j=m
  ·subst l;simp only[wars,ij,bG]at d c⊢
   have a:wars E j i j=true:=by
    rcases d with h|⟨h,_⟩<;>exact h
   have b:wars E j j k=true:=by
    rcases c with h|⟨_,h⟩<;>exact h
   exact .inr ⟨a,b⟩
  ·have f:j<m:=(by omega);simp only[wars,ij,bG]at d c⊢;rcases d with d|⟨d,g⟩
   ·rcases c with c|⟨c,e⟩
    ·exact .inl (n f d c)
    ·exact .inr ⟨n f d c,e⟩
   ·rcases c with c|⟨c,e⟩
    ·exact .inr ⟨d,n f g c⟩
    ·exact .inr ⟨d,e⟩
def upd (m:Nat->Bool)(n:Nat):Nat->Bool:=fun k=>decide (k=n)||m k
def fol (S:Nat->List Nat):Nat->(Nat->Bool)->Nat->Nat->Bool
 |0,m,_=>m
 |f+1,m,r=>(S r).foldl (fun m n=>if m n=true then m else fol S f (upd m n) n) m
def unm (m:Nat->Bool):Nat->Nat
 |0=>0
 |n+1=>(if m n=true then 0 else 1)+unm m n
theorem xj {m m':Nat->Bool}(h: ∀k,m k=true->m' k=true): ∀n,unm m' n<=unm m n
 |0=>by simp[unm]
 |n+1=>by
  have:=xj h n;simp only[unm];by_cases c:m n=true
  ·rw[aD c,aD (h n c)];omega
  ·rw[ax c];split<;>omega
theorem yC {m:Nat->Bool}{k:Nat}(a:m k=false): ∀n,k<n->unm (upd m k) n+1<=unm m n
 |0,h=>by omega
 |n+1,h=>by
  have b:=xj (m:=m) (m':=upd m k) (fun q d=>by simp[upd,d]) n;simp only[unm];by_cases c:k=n
  ·subst c;rw[aD (by simp[upd]),ax (by rw[a];decide)];omega
  ·have:=yC a n (by omega);have e:upd m k n=m n:=(by simp[upd,show n≠k from fun e=>c e.symm]);rw[e];omega
structure Fol (S:Nat->List Nat)(m m':Nat->Bool)(r:Nat):Prop where
 up: ∀k,m k=true->m' k=true
 next: ∀n∈S r,m' n=true
 new: ∀v,m' v=true->m v=false-> ∀n∈S v,m' n=true
 way: ∀v,m' v=true->m v=false->Way (fun a b=>(S a).contains b) r v
theorem Bv {S:Nat->List Nat}{n:Nat}(A: ∀r,∀k∈S r,k<n): ∀(f:Nat) (m:Nat->Bool) (r:Nat),unm m n+1<=f->Fol S m (fol S f m r) r
 |0,_,_,h=>by omega
 |f+1,m,r,H=>by
  have x: ∀(l:List Nat),(∀k∈l,k∈S r)-> ∀m1:Nat->Bool,(∀k,m k=true->m1 k=true)->
    (∀k,m1 k=true->(l.foldl (fun m n=>if m n=true then m else fol S f (upd m n) n) m1) k=true)/\(∀k∈l,(l.foldl (fun m n=>if m n=true then m else fol S f (upd m n) n) m1) k=true)/\
    (∀v,(l.foldl (fun m n=>if m n=true then m else fol S f (upd m n) n) m1) v=true->m1 v=false->(∀k∈S v,(l.foldl (fun m n=>if m n=true then m else fol S f (upd m n) n) m1) k=true)/\Way (fun a b=>(S a).contains b) r v):=by
   intro l;induction l with
   |nil=>
    intro _ m1 _;exact⟨fun k h=>h,fun k d=>(by cases d),fun v i j=>by rw[List.foldl_nil]at i;rw[i]at j;cases j⟩
   |cons q l D=>
    intro B m1 y;have C:=B q bq;have t: ∀k∈l,k∈S r:=fun k d=>B k (bH _ d);simp only[List.foldl_cons];by_cases c:m1 q=true
    ·rw[aD c];obtain⟨g,s,p⟩:=D t m1 y;refine⟨g,fun k d=> ?_,p⟩;rcases bv.1 d with rfl|d
     ·exact g _ c
     ·exact s k d
    ·rw[ax c];have E:m1 q=false:=(by simpa using c);have I:=yC E n (A r q C);have G:=xj y n;have F:=Bv A f (upd m1 q) q (by omega);have u: ∀k,m1 k=true->fol S f (upd m1 q) q k=true:=fun k d=>F.up k (by simp[upd,d]);have z:fol S f (upd m1 q) q q=true:=F.up q (by simp[upd]);obtain⟨g,s,p⟩:=D t (fol S f (upd m1 q) q) (fun k d=>u k (y k d));have o:Way (fun a b=>(S a).contains b) r q:= .single (by simpa using C);refine⟨fun k d=>g k (u k d),fun k d=> ?_,fun v i j=> ?_⟩
     ·rcases bv.1 d with rfl|d
      ·exact g _ z
      ·exact s k d
     ·cases hv:fol S f (upd m1 q) q v with
      |false=>exact p v i hv
      |true=>
       by_cases e:v=q
       ·subst e;exact⟨fun k d=>g k (F.next k d),o⟩
       ·have w:upd m1 q v=false:=(by simp[upd,e,j]);exact⟨fun k d=>g k (F.new v hv w k d),o.trans (F.way v hv w)⟩
  obtain⟨g,s,p⟩:=x (S r) (fun k d=>d) m (fun k d=>d);exact⟨g,s,fun v i j=>(p v i j).1,fun v i j=>(p v i j).2⟩
theorem yD {S:Nat->List Nat}{n:Nat}(d: ∀r,∀k∈S r,k<n){f r v:Nat}(e:n+1<=f):fol S f (fun _=>false) r v=true↔Way (fun a b=>(S a).contains b) r v:=by
 have g:unm (fun _=>false) n<=n:=by
  have: ∀n,unm (fun _=>false) n=n:=by
   intro n;induction n with
   |zero=>rfl
   |succ n c=>simp[unm,c];omega
  rw[this];omega
 have F:=Bv d f (fun _=>false) r (by omega);constructor
 ·intro h;exact F.way v h rfl
 ·intro h;induction h with
  |single h=>exact F.next _ (by simpa using h)
  |tail _ h c=>exact F.new _ c rfl _ (by simpa using h)
def addN (a:List Int)(n:Int):List Int:=if n∈a then a else a++[n]
theorem Bw (a:List Int)(n m:Int):m∈addN a n↔m∈a\/m=n:=by
 unfold addN;split
 ·rename_i h;constructor
  ·exact .inl
  ·rintro(b|rfl)
   ·exact b
   ·exact h
 ·simp
end Lx
end Go.Proofs.YtaoljfdfhggbbaaGreatDoor
