/- Texts of the proof. -/
import Derived.Lib.ItoaNum
import Derived.Lib.Join
import Derived.Test.YtjkilacmkbmmbaaGreatDoorPt36
import Derived.Lib.ItoaWalk
import Derived.Test.YtjkilacmkbmmbaaGreatDoorCards
import Derived.Test.YtjkilacmkbmmbaaGreatDoorTie
import Derived.LaidMore
import Derived.SevenTiedAt
set_option maxRecDepth 100000
set_option maxHeartbeats 8000000
namespace Go.Proofs.YtjkilacmkbmmbaaGreatDoor
open Go.Proofs.Tryz Go.RowKit Lx Vx Mx Msk
namespace Lx
def pad2 (n:Nat):List UInt8:=[UInt8.ofNat (48+n/10),UInt8.ofNat (48+n%10)]
def clockL (n:Int):List UInt8:=pad2 (n.toNat/60)++58::pad2 (n.toNat%60)
def Mz (n:Int)(t:Int×Int×Int):Bool:=decide (1<=t.2.2/\t.2.2<=Cal.dim t.1 t.2.1/\Cal.num t.1 t.2.1 t.2.2=n)
def Ha (n:Int)(p:Nat×Nat):Int×Int×Int:=(2000+(p.1:Int),1+(p.2:Int),n-Cal.ys (2000+(p.1:Int))-Cal.cum (2000+(p.1:Int)) (1+(p.2:Int))+1)
def PR:List (Nat×Nat):=(List.range 400).flatMap fun i=>(List.range 12).map fun j=>(i,j)
def ymd (n:Int):Int×Int×Int:=match PR.find? (fun p=>Mz n (Ha n p)) with
 |some p=>Ha n p
 |none=>(0,0,0)
def yO (n:Int):List UInt8:=Lib.decDigits (ymd n).1.toNat++45::(pad2 (ymd n).2.1.toNat++45::pad2 (ymd n).2.2.toNat)
def yP (a b:Int):List UInt8:=if a=b then yO a else yO a++([46,46]++yO b)
def QZ (a:Int)(i:Nat):Bool:=decide ((a.toNat/2^i)%2=1)
def Dz (a:Int):Nat->List (List UInt8)
 |0=>[]
 |i+1=>if QZ a i then Dz a i++[wDays.getD i []] else Dz a i
def BN (a:Int):List UInt8:=Lib.join (Dz a 7) [44]
def yD (k:Int):Nat:=if k=6\/k=7 then 0 else if k=8 then 1 else if k=4\/k=5 then 2 else 3
def io (e:Ex)(t:Nat->Nat->List UInt8):List UInt8:=
 if e.kind=1 then [110,101,118,101,114] else if e.kind=2 then [97,108,119,97,121,115]
 else if e.kind=3 then clockL e.a++45::clockL e.b else if e.kind=10 then e.name
 else if e.kind=6 then t 0 0++([32,43,32]++t 1 1) else if e.kind=7 then t 0 0++([32,45,32]++t 1 1) else if e.kind=8 then t 0 1++([32,38,32]++t 1 2)
 else if e.kind=9 then t 0 3++([32,115,104,105,102,116,32]++Lib.itoa e.a)
 else if e.kind=4 then [119,101,101,107,108,121,32]++BN e.a++[58,32]++t 0 2
 else if e.kind=5 then [100,97,116,101,115,32]++yP e.a e.b++[58,32]++t 0 2 else []
theorem PS {e:Ex}{t:Nat->Nat->List UInt8}(h:e.kind=1):io e t=[110,101,118,101,114]:=by
 unfold io;rw[h];rfl
theorem PT {e:Ex}{t:Nat->Nat->List UInt8}(h:e.kind=2):io e t=[97,108,119,97,121,115]:=by
 unfold io;rw[h];rfl
theorem PU {e:Ex}{t:Nat->Nat->List UInt8}(h:e.kind=3):io e t=clockL e.a++45::clockL e.b:=by
 unfold io;rw[h];rfl
theorem On {e:Ex}{t:Nat->Nat->List UInt8}(h:e.kind=10):io e t=e.name:=by
 unfold io;rw[h];rfl
theorem PV {e:Ex}{t:Nat->Nat->List UInt8}(h:e.kind=6):io e t=t 0 0++([32,43,32]++t 1 1):=by
 unfold io;rw[h];rfl
theorem PW {e:Ex}{t:Nat->Nat->List UInt8}(h:e.kind=7):io e t=t 0 0++([32,45,32]++t 1 1):=by
 unfold io;rw[h];rfl
theorem PX {e:Ex}{t:Nat->Nat->List UInt8}(h:e.kind=8):io e t=t 0 1++([32,38,32]++t 1 2):=by
 unfold io;rw[h];rfl
theorem PY {e:Ex}{t:Nat->Nat->List UInt8}(h:e.kind=9):io e t=t 0 3++([32,115,104,105,102,116,32]++Lib.itoa e.a):=by
 unfold io;rw[h];rfl
theorem PZ {e:Ex}{t:Nat->Nat->List UInt8}(h:e.kind=4):io e t=[119,101,101,107,108,121,32]++BN e.a++[58,32]++t 0 2:=by
 unfold io;rw[h];rfl
theorem P0 {e:Ex}{t:Nat->Nat->List UInt8}(h:e.kind=5):io e t=[100,97,116,101,115,32]++yP e.a e.b++[58,32]++t 0 2:=by
 unfold io;rw[h];rfl
def brk (b:Bool)(s:List UInt8):List UInt8:=if b then [40]++s++[41] else s
def mB (e:Ex)(least:Nat):List UInt8:=
 brk (decide (yD e.kind<least)) (io e fun j l=>match e.kids.attach[j]? with|some k=>mB k.1 l|none=>[])
 termination_by SizeOf.sizeOf e
 decreasing_by exact gT k.2
def xm (ks:List Ex)(j l:Nat):List UInt8:=match ks[j]? with|some k=>mB k l|none=>[]
theorem L6 (e:Ex)(least:Nat):mB e least=brk (decide (yD e.kind<least)) (io e (xm e.kids)):=by
 rw[mB];congr 2;funext j l;unfold xm
 have h: ∀(o:Option {x//x∈e.kids}) (p:Option Ex),o.map Subtype.val=p->(match o with|some k=>mB k.1 l|none=>[])=(match p with|some k=>mB k l|none=>[]):=by
  intro o p h;subst h;cases o<;>rfl
 exact h _ _ (by rw[<-bc,fY])
theorem kB (n:Int):(clockL n).length=5:=by simp[clockL,pad2]
theorem zY {u:Nat}(h:u<10000):(Lib.decDigits u).length<=4:=by
 rw[Lib.decDigits_length];by_cases h1:u<10
 ·rw[Lib.nDigits_small h1];omega
 rw[Lib.nDigits_big h1];by_cases h2:u/10<10
 ·rw[Lib.nDigits_small h2];omega
 rw[Lib.nDigits_big h2];by_cases h3:u/10/10<10
 ·rw[Lib.nDigits_small h3];omega
 rw[Lib.nDigits_big h3,Lib.nDigits_small (by omega)];omega
theorem P1 (n:Int):0<=(ymd n).1/\(ymd n).1<=2399:=by
 unfold ymd;cases hf:PR.find? (fun p=>Mz n (Ha n p)) with
 |none=>exact⟨by simp,by simp⟩
 |some p=>
  have hp:=List.find?_some hf;dsimp only at hp⊢;obtain⟨a1,a2,_⟩:=eE hp;have:=Cal.MX _ _ (Int.le_trans a1 a2);omega
theorem DA (n:Int):(yO n).length<=10:=by
 have h:=P1 n;have:=zY (u:=(ymd n).1.toNat) (by omega);simp[yO,pad2];omega
theorem J8 (a b:Int):(yP a b).length<=22:=by
 have h1:=DA a;have h2:=DA b;unfold yP;split
 ·omega
 ·simp;omega
theorem L7: ∀n:Fin 128,(BN (n.1:Int)).length<=27:=by decide+kernel
theorem L8 {a:Int}(h0:0<=a)(h1:a<128):(BN a).length<=27:=by
 have:=L7 ⟨a.toNat,by omega⟩;rw[show(((⟨a.toNat,by omega⟩:Fin 128).1:Nat):Int)=a from by simp;omega]at this;exact this
theorem L9 {a:Int}(h0: -10000<a)(h1:a<10000):(Lib.itoa a).length<=5:=by
 unfold Lib.itoa;split
 ·have:=zY (u:=a.natAbs) (by omega);simp;omega
 ·have:=zY (u:=a.toNat) (by omega);omega
theorem Ma {l:List UInt8}(h:Go.Proofs.YtjkilacmkbmmbaaGreatDoor.namedL l=true):l.length<=20:=by
 unfold Go.Proofs.YtjkilacmkbmmbaaGreatDoor.namedL at h;rw[bj,bj]at h;exact eE h.2.1
theorem Oo (b:Bool)(s:List UInt8):(brk b s).length<=s.length+2:=by unfold brk;split<;>simp
theorem Mb {e:Ex}(h:OKE e)(t:Nat->Nat->List UInt8):
  (kidsP e.kind=0->(io e t).length<=40)/\(kidsP e.kind=1-> ∃l,(io e t).length<=40+(t 0 l).length)/\(kidsP e.kind=2-> ∃l l',(io e t).length<=40+(t 0 l).length+(t 1 l').length):=by
 obtain⟨k1,k2,_,hr,hn⟩:=h.kinds;have c1:=kB e.a;have c2:=kB e.b;have c3:=J8 e.a e.b;have hc:e.kind=1\/e.kind=2\/e.kind=3\/e.kind=10\/e.kind=6\/e.kind=7\/e.kind=8\/e.kind=9\/e.kind=4\/e.kind=5:=by omega
 rcases hc with hk|hk|hk|hk|hk|hk|hk|hk|hk|hk
 ·have kp':kidsP e.kind=0:=by rw[hk];rfl
  rw[PS hk,kp'];refine⟨fun _=> ?_,fun h=>(by omega),fun h=>(by omega)⟩;simp;try omega
 ·have kp':kidsP e.kind=0:=by rw[hk];rfl
  rw[PT hk,kp'];refine⟨fun _=> ?_,fun h=>(by omega),fun h=>(by omega)⟩;simp;try omega
 ·have kp':kidsP e.kind=0:=by rw[hk];rfl
  rw[PU hk,kp'];refine⟨fun _=> ?_,fun h=>(by omega),fun h=>(by omega)⟩;simp;try omega
 ·have:=Ma (hn hk);have kp':kidsP e.kind=0:=(by rw[hk];rfl);rw[On hk,kp'];refine⟨fun _=> ?_,fun h=>(by omega),fun h=>(by omega)⟩;omega
 ·have kp':kidsP e.kind=2:=by rw[hk];rfl
  rw[PV hk,kp'];refine⟨fun h=>(by omega),fun h=>(by omega),fun _=>⟨0,1,?_⟩⟩;simp;omega
 ·have kp':kidsP e.kind=2:=by rw[hk];rfl
  rw[PW hk,kp'];refine⟨fun h=>(by omega),fun h=>(by omega),fun _=>⟨0,1,?_⟩⟩;simp;omega
 ·have kp':kidsP e.kind=2:=by rw[hk];rfl
  rw[PX hk,kp'];refine⟨fun h=>(by omega),fun h=>(by omega),fun _=>⟨1,2,?_⟩⟩;simp;omega
 ·simp[rangeP,hk]at hr;have:=L9 (a:=e.a) (by omega) (by omega);have kp':kidsP e.kind=1:=(by rw[hk];rfl);rw[PY hk,kp'];refine⟨fun h=>(by omega),fun _=>⟨3,?_⟩,fun h=>(by omega)⟩;simp;omega
 ·simp[rangeP,hk]at hr;have:=L8 (a:=e.a) (by omega) (by omega);have kp':kidsP e.kind=1:=(by rw[hk];rfl);rw[PZ hk,kp'];refine⟨fun h=>(by omega),fun _=>⟨2,?_⟩,fun h=>(by omega)⟩;simp;omega
 ·have kp':kidsP e.kind=1:=by rw[hk];rfl
  rw[P0 hk,kp'];refine⟨fun h=>(by omega),fun _=>⟨2,?_⟩,fun h=>(by omega)⟩;simp;omega
theorem Mc (k:Int):kidsP k<=2:=by unfold kidsP;split;omega;split<;>omega
theorem vB: ∀(N:Nat) (e:Ex) (deep n:Nat),SizeOf.sizeOf e<=N->(shapeP e deep n).1=0->n+1<=(shapeP e deep n).2/\ ∀least,(mB e least).length+50*n<=50*(shapeP e deep n).2
 |0,e,_,_,hN,_=>by cases e;simp at hN
 |N+1,e,deep,n,hN,h=>by
  have hok:OKE e:=⟨deep,n,h⟩
  obtain⟨b0,b1,b2⟩:=Mb hok (xm e.kids);have hl:=hok.kinds.2.2.1;have hle:=Mc e.kind;have ha:=hok.alone;have hlt: ∀least,(mB e least).length<=(io e (xm e.kids)).length+2:=fun least=>(by rw[L6];exact Oo _ _);rw[gU]at h⊢;split at h
  ·cases h
  rename_i hc;rw[aw hc];rw[aw (by simpa using ha)]at h⊢;match hk:e.kids,hl with
  |[],hl=>
   have:=b0 (by simp at hl;omega);rw[hk]at this;rw[pV];refine⟨by simp,fun least=> ?_⟩;have:=hlt least;rw[hk]at this;simp;omega
  |[k],hl=>
   obtain⟨l,hb⟩:=b1 (by simp at hl;omega);rw[hk]at h hb;have hkl:=gT (e:=e) (k:=k) (by simp[hk]);rw[ir,aw (by simp),pV]at h⊢;dsimp only at h⊢;obtain⟨q1,q2⟩:=vB N k (deep+1) (n+1) (by omega) h;have q3:=q2 l;have e0:xm [k] 0 l=mB k l:=rfl;rw[e0]at hb;refine⟨by omega,fun least=> ?_⟩;have:=hlt least;rw[hk]at this;omega
  |[k,k'],hl=>
   obtain⟨l,l',hb⟩:=b2 (by simp at hl;omega);rw[hk]at h hb;have hkl:=gT (e:=e) (k:=k) (by simp[hk]);have hkl':=gT (e:=e) (k:=k') (by simp[hk]);rw[ir,aw (by simp),ir,pV]at h⊢;dsimp only at h⊢
   have hz:(shapeP k (deep+1) (n+1)).1=0:=by
    by_cases hz:(shapeP k (deep+1) (n+1)).1=0
    ·exact hz
    ·rw[ax hz]at h;exact h
   rw[aw (by simpa using hz)]at h⊢;obtain⟨q1,q2⟩:=vB N k (deep+1) (n+1) (by omega) hz;obtain⟨r1,r2⟩:=vB N k' (deep+1) _ (by omega) h;have q3:=q2 l;have r3:=r2 l';have e0:xm [k,k'] 0 l=mB k l:=rfl;have e1:xm [k,k'] 1 l'=mB k' l':=rfl;rw[e0,e1]at hb;refine⟨by omega,fun least=> ?_⟩;have:=hlt least;rw[hk]at this;omega
  |_::_::_::_,hl=>simp at hl;omega
theorem OKE.len {e:Ex}(h:OKE e)(least:Nat):(mB e least).length<=30000:=by
 obtain⟨deep,n,h⟩:=h;have h1:=(vB _ e deep n (aA _) h).2 least;have h2:=tM h;omega
end Lx
def skp (l:List UInt8):List UInt8:=l.drop (eG false l)
def kI:List T1->List UInt8->List UInt8->Prop
 |[],l,l'=>l=l'
 |t::ts,l,l'=>0<l.length/\firstT l=t/\t.err=0/\kI ts (skp (l.drop t.len)) l'
theorem kI.trans: ∀{ts us:List T1} {l m n:List UInt8},kI ts l m->kI us m n->kI (ts++us) l n
 |[],_,_,_,_,h,g=>by
  have e:_=_:=h;subst e;exact g
 |_::_,_,_,_,_,⟨a,b,c,d⟩,g=>⟨a,b,c,kI.trans d g⟩
theorem yQ {l:List UInt8}: ∀(ts:List T1) {pre:List (T1×Nat)} {k:Nat},fd l pre k->kI ts (l.drop k) []-> ∃us k',fd l (pre++us) k'/\us.map (fun p=>p.1)=ts/\ ¬k'<l.length
 |[],pre,k,h,g=>by
  have e:l.drop k=[]:=g;have:=congrArg List.length e;simp at this;exact⟨[],k,by simpa using h,rfl,by omega⟩
 |t::ts,pre,k,h,⟨g1,g2,g3,g4⟩=>by
  simp only[eY]at g1;have s:=h.step (by omega) (by rw[g2];exact g3);rw[g2]at s;unfold skp at g4;rw[List.drop_drop,List.drop_drop,List.drop_drop,<-Nat.add_assoc]at g4;obtain⟨us,k',h1,h2,h3⟩:=yQ ts s g4;exact⟨(t,k)::us,k',by simpa using h1,by simp[h2],h3⟩
theorem Md {l:List UInt8}{ts:List T1}(h:kI ts (skp l) []): ∃us k,fd l us k/\us.map (fun p=>p.1)=ts/\ ¬k<l.length:=by
 have s:=fd.start (l:=l);simp only[List.drop_zero,bG]at s;obtain⟨us,k,h1,h2,h3⟩:=yQ ts s h;exact⟨us,k,by simpa using h1,h2,h3⟩
def qV (l:List UInt8):Prop:= ∃c r,l=c::r/\c.toNat≠32/\c.toNat≠9/\c.toNat≠10/\c.toNat≠35
theorem qV.app {l:List UInt8}(h:qV l)(r:List UInt8):qV (l++r):=by
 obtain⟨c,q,rfl,h⟩:=h;exact⟨c,q++r,rfl,h⟩
theorem yR {l:List UInt8}(h:qV l):skp l=l:=by
 obtain⟨c,r,rfl,h1,h2,h3,h4⟩:=h;simp[skp,eG,h1,h2,h3,h4]
theorem uC (r:List UInt8):skp (32::r)=skp r:=by simp[skp,eG]
def sgT (c:UInt8):T1:=⟨3,0,[c],1,0⟩
def wdT (x:List UInt8):T1:=⟨2,0,x,x.length,0⟩
def nmT (x:List UInt8):T1:=⟨1,0,x,x.length,0⟩
def tmT (n:Int):T1:=⟨4,n,[],5,0⟩
theorem Bo {c:UInt8}{r m:List UInt8}(hm:0<m.length)(h48:(m.getD 0 0).toNat=48)(hc:isD c=false):iL (c::r) m=false:=sq 0 hm (by unfold Lx.okB;rw[ax h48];simpa using hc)
theorem xn {t:T1}{l r:List UInt8}(h0:0<l.length)(h1:firstT l=t)(h2:t.err=0)(h3:l.drop t.len=r):kI [t] l (skp r):=⟨h0,h1,h2,by rw[h3];rfl⟩
theorem vU {c:UInt8}{r:List UInt8}(hc:isD c=false):firstT (c::r)=if isL c then jU (c::r) else jv (c::r):=by
 unfold firstT;rw[Bo (by decide) (by decide) hc,Bo (by decide) (by decide) hc];simp[hc]
theorem pL {c:UInt8}(r:List UInt8)(hD:isD c=false)(hL:isL c=false)(h46:c≠46)(hi: ¬Lib.indexByte lq c<0):kI [sgT c] (c::r) (skp r):=by
 refine xn (by simp) ?_ rfl rfl;rw[vU hD,hL];unfold jv
 have hp:Lib.hasPrefix (c::r) [46,46]=false:=by
  unfold Lib.hasPrefix;simp[List.isPrefixOf,Ne.symm h46]
 rw[hp];simp only[List.getD_cons_zero];simp[hi,sgT]
theorem Bp {p:UInt8->Bool}{r:List UInt8}(hr: ∀c q,r=c::q->p c=false): ∀y:List UInt8,fQ p y=y.length->fQ p (y++r)=y.length
 |[],_=>by
  cases r with
  |nil=>rfl
  |cons c q=>simp[fQ,hr c q rfl]
 |c::y,h=>by
  simp only[fQ]at h;split at h
  ·rename_i hc;have:=Bp hr y (by simpa using h);simp[fQ,hc,this]
  ·simp at h
theorem DB {x r:List UInt8}(hx:wordLen x=x.length)(h0:x≠[])(hr: ∀c q,r=c::q->isC c=false):wordLen (x++r)=x.length/\isL (x.getD 0 0)=true:=by
 cases x with
 |nil=>exact absurd rfl h0
 |cons c y=>
  simp only[wordLen]at hx;split at hx
  ·rename_i hc;have:=Bp hr y (by simpa using hx);simp[wordLen,hc,this]
  ·simp at hx
theorem Oq {c:UInt8}(h:isL c=true):isD c=false:=by
 unfold isL isD at*;simp at h⊢;omega
theorem Bq {x r:List UInt8}(hx:wordLen x=x.length)(h0:x≠[])(h20:x.length<=20)(hr: ∀c q,r=c::q->isC c=false):kI [⟨if isWordL x then 2 else 1,0,x,x.length,0⟩] (x++r) (skp r):=by
 obtain⟨h1,h2⟩:=DB hx h0 hr;cases x with
 |nil=>exact absurd rfl h0
 |cons c y=>
  have hc:isL c=true:=(by simpa using h2);refine xn (by simp) ?_ rfl (by simp);rw[List.cons_append,vU (Oq hc),hc,ax rfl];unfold jU;rw[<-List.cons_append,h1,aw (by omega)];simp
theorem Hb {x:List UInt8}(h:namedL x=true):wordLen x=x.length/\x≠[]/\x.length<=20/\isWordL x=false:=by
 unfold namedL at h;simp at h;exact⟨h.2.2.1,fun e=>h.1 e,h.2.1,h.2.2.2⟩
theorem Br {x r:List UInt8}(h:namedL x=true)(hr: ∀c q,r=c::q->isC c=false):kI [nmT x] (x++r) (skp r):=by
 obtain⟨h1,h2,h3,h4⟩:=Hb h;have:=Bq h1 h2 h3 hr;rw[h4]at this;exact this
theorem Ot {x r:List UInt8}(h1:wordLen x=x.length)(h2:x≠[])(h3:x.length<=20)(h4:isWordL x=true)(hr: ∀c q,r=c::q->isC c=false):kI [wdT x] (x++r) (skp r):=by
 have:=Bq h1 h2 h3 hr;rw[h4]at this;exact this
theorem Bs (q:List UInt8): ∀c r,(32::q:List UInt8)=c::r->isC c=false:=by
 rintro c r h;cases h;decide
theorem qV.word {x:List UInt8}(hx:wordLen x=x.length)(h0:x≠[]):qV x:=by
 cases x with
 |nil=>exact absurd rfl h0
 |cons c y=>
  have h:=(DB (r:=[]) hx h0 (by rintro c q h;cases h)).2;have hc:isL c=true:=(by simpa using h);unfold isL at hc;simp at hc;exact⟨c,y,rfl,by omega,by omega,by omega,by omega⟩
theorem vC {k:Nat}(h:k<=9):(UInt8.ofNat (48+k)).toNat=48+k:=by
 rw[UInt8.toNat_ofNat'];omega
theorem vD {k:Nat}(h:k<=9):isD (UInt8.ofNat (48+k))=true:=by
 unfold isD;rw[vC h];simp;omega
theorem Fq {a b:Nat}(ha:a<=9)(hb:b<=9):valL [UInt8.ofNat (48+a),UInt8.ofNat (48+b)]=10*(a:Int)+b:=by
 simp only[valL,List.foldl_cons,List.foldl_nil,vC ha,vC hb];omega
theorem Q0 {a b c d e:UInt8}{r:List UInt8}(ha:isD a=true)(hb:isD b=true)(hc:c=58)(hd:isD d=true)(he:isD e=true):iL (a::b::c::d::e::r) mw=true:=by
 subst hc;refine Ai (by simp[mw]) fun i hi=> ?_;have hi:i<5:=hi;match i,hi with
 |0,_=>simpa[mw,Lx.okB] using ha
 |1,_=>simpa[mw,Lx.okB] using hb
 |2,_=>simp[mw,Lx.okB]
 |3,_=>simpa[mw,Lx.okB] using hd
 |4,_=>simpa[mw,Lx.okB] using he
theorem Bt {a:Int}(h0:0<=a)(h1:a<=1440)(r:List UInt8):kI [tmT a] (clockL a++r) (skp r):=by
 refine xn (by simp[clockL,pad2]) ?_ rfl (by simp[clockL,pad2,tmT]);have e:clockL a++r=UInt8.ofNat (48+a.toNat/60/10)::UInt8.ofNat (48+a.toNat/60%10)::58::UInt8.ofNat (48+a.toNat%60/10)::UInt8.ofNat (48+a.toNat%60%10)::r:=by simp[clockL,pad2]
 have hf:=Q0 (r:=r) (vD (k:=a.toNat/60/10) (by omega)) (vD (k:=a.toNat/60%10) (by omega)) rfl (vD (k:=a.toNat%60/10) (by omega)) (vD (k:=a.toNat%60%10) (by omega));rw[<-e]at hf;unfold firstT;have hn:iL (clockL a++r) uJ=false:=sq 2 (by decide) (by rw[e];simp only[List.getD_cons_succ,List.getD_cons_zero];decide);rw[hn,hf]
 have v1:valL (((clockL a++r).drop 0).take 2)=((a.toNat/60:Nat):Int):=by
  rw[e];show valL [_,_]=_;rw[Fq (by omega) (by omega)];omega
 have v2:valL (((clockL a++r).drop 3).take 2)=((a.toNat%60:Nat):Int):=by
  rw[e];show valL [_,_]=_;rw[Fq (by omega) (by omega)];omega
 unfold mZ;rw[v1,v2,aw (by simp),ax rfl,aw (by omega)];unfold tmT;congr 1;omega
theorem Fs {l:List UInt8}{ts:List T1}{L:List Ru}(h6:l.length<=6000)(hg:kI ts (skp l) [])(hr: ∀us:List Tk,us.map (fun p=>p.1)=ts->gu l.length (us.length+1) [] us= .ok L):jn l=(0,L):=by
 obtain⟨us,k,h1,h2,h3⟩:=Md hg;unfold jn;rw[aw (by omega),vt h1 (fun h=>h3 h.1)];dsimp only;rw[aw h3,hr us h2]
theorem J9 (r:List UInt8):kI [wdT gH] (gH++32::r) (skp r):=(uC r)▸Ot (by rfl) (by decide) (by decide) (by rfl) (Bs r)
theorem P2 {x:List UInt8}(hx:namedL x=true)(r:List UInt8):kI [nmT x] (x++32::r) (skp r):=(uC r)▸Br hx (Bs r)
theorem Ou (r:List UInt8):kI [sgT 61] (61::32::r) (skp r):=(uC r)▸pL (32::r) (by decide) (by decide) (by decide) (by decide)
theorem tg {a:Int}(h0:0<=a)(h1:a<=1440)(r:List UInt8):skp (clockL a++r)=clockL a++r:=by
 refine yR ⟨UInt8.ofNat (48+a.toNat/60/10),_,rfl,?_⟩;rw[vC (by omega)];omega
theorem ti {a b:Int}(h0:0<=a)(h1:a<=1440)(h2:0<=b)(h3:b<=1440)(r:List UInt8):kI [tmT a,sgT 45,tmT b] (clockL a++45::(clockL b++r)) (skp r):=by
 have g1:=Bt h0 h1 (45::(clockL b++r));rw[show skp (45::(clockL b++r))=45::(clockL b++r) from rfl]at g1;have g2:=pL (c:=45) (clockL b++r) (by decide) (by decide) (by decide) (by decide);rw[tg h2 h3]at g2;exact g1.trans (g2.trans (Bt h2 h3 r))
theorem uD {x:List UInt8}(hx:namedL x=true)(hs:qV (x++[]))(r:List UInt8):kI [wdT gH,nmT x,sgT 61] (gH++32::(x++32::61::32::r)) (skp r):=by
 have g:=J9 (x++32::61::32::r);rw[eV]at hs;rw[yR (hs.app _)]at g;have g2:=P2 hx (61::32::r);rw[show skp (61::32::r)=61::32::r from rfl]at g2;exact g.trans (g2.trans (Ou r))
theorem DC:kI [sgT 59] (59::[]) []:=pL (c:=59) [] (by decide) (by decide) (by decide) (by decide)
def hoT (a b:Int):List UInt8:=gH++32::([97]++32::61::32::(clockL a++45::(clockL b++[59])))
theorem xo (k a b:Int)(x:List UInt8):hgt ⟨k,a,b,x,[]⟩=1:=by rw[ng];rfl
theorem Ft (a b:Int):(hoT a b).length=21:=by simp[hoT,clockL,pad2,gH]
theorem P3 {a b:Int}(h:0<=a/\a<b/\b<=1440):jn (hoT a b)=(0,oL a b):=by
 have g:=(uD (x:=[97]) (by decide) ⟨97,[],rfl,by decide⟩ (clockL a++45::(clockL b++[59])))
 rw[tg h.1 (by omega)]at g;have g':=g.trans ((ti h.1 (by omega) (by omega) h.2.2 [59]).trans DC);refine Fs (ts:=[wdT gH,nmT [97],sgT 61,tmT a,sgT 45,tmT b,sgT 59]) (by rw[Ft];decide) g' fun us hu=> ?_;match us,hu with
 |[(_,p0),(_,p1),(_,p2),(_,p3),(_,p4),(_,p5),(_,p6)],hu=>
  simp only[bV,dU,List.cons.injEq,and_true]at hu;obtain⟨rfl,rfl,rfl,rfl,rfl,rfl,rfl⟩:=hu
  have e:rd (hoT a b).length 0 1 ex0 [(tmT a,p3),(sgT 45,p4),(tmT b,p5),(sgT 59,p6)] 0= .ok (oE a b,[(sgT 59,p6)],1):=by
   generalize (hoT a b).length=E;have hb: ¬b<a+1:=(by omega);simp[FE,FG,FH,B6,B5,B4,zb,c8,dp,isT,textP,kindP,numP,mx,fP,qA,jJ,jc,iG,iX,jQ,kO,tmT,sgT,hb,oE]
  have e2:kJ (hoT a b).length [(nmT [97],p1),(sgT 61,p2),(tmT a,p3),(sgT 45,p4),(tmT b,p5),(sgT 59,p6)]= .ok (([97],oE a b),[]):=by
   unfold kJ;refine(aw (fun c=>c rfl)).trans ((ax (by rfl)).trans ?_);simp only[List.tail_cons,e];refine(aw (by unfold oE;rw[xo];decide)).trans ((ax (by rfl)).trans ?_);rfl
  show gu _ 8 [] _=_;unfold gu;refine(aw (by simp)).trans ((ax (by rfl)).trans ((aw (by simp)).trans ?_));simp only[List.tail_cons,e2];rfl
theorem P4 {a b:Int}(h:0<=a/\a<b/\b<=1440):fN (hoT a b)=(0,oL a b):=by
 unfold fN;rw[P3 h];refine(aw fun c=>c rfl).trans ?_;dsimp only;rw[My h]
theorem DD (x:ByteArray)(l:List UInt8)(h:x.data.toList=l):x=⟨l.toArray⟩:=by
 cases x;simp at h;subst h;simp
theorem Ka (i:Nat)(h:i<100)(w:World):Calls prog 137 #[ag (i:Int)] w fun e w'=>e= .returned (.string ⟨(Lib.decDigits i).toArray⟩)/\w'=w:=by
 go_enter func137,ntmps137;go_name_bytes_deep 45 SM hSM;have eSM:SM=Lib.smalls:=by rw[<-hSM];decide+kernel
 subst eSM;clear hSM;go_name_bytes_deep 30 DG hDG;have eDG:DG=Lib.digits36:=by rw[<-hDG];decide+kernel
 subst eDG;clear hDG;by_cases h10:i<10
 ·have hsl: ∀w,(Instr.slice 9 (.string Lib.digits36) (some (ag (i:Int))) (some (ag ((i:Int)+1))) none).run prog w= .ok (.string (Lib.digits36.extract i (i+1))) w:=fun w=>by
   rw[run_slice_string w 9 Lib.digits36 .i64 .i64 _ _ underlying9 (by omega) (by omega) (by rw[Lib.digits36_size];omega),show((i:Int)).toNat=i by omega,show((i:Int)+1).toNat=i+1 by omega]
  go_wp2;go_ret;refine⟨?_,rfl⟩;show Ending.returned (Value.string (Lib.digits36.extract i (i+1)))=_;rw[DD (Lib.digits36.extract i (i+1)) (Lib.decDigits i) (by rw[Lib.extract_data];exact Lib.digits36_piece h10)]
 ·have hsl: ∀w,(Instr.slice 9 (.string Lib.smalls) (some (ag ((i:Int)*2))) (some (ag ((i:Int)*2+2))) none).run prog w= .ok (.string (Lib.smalls.extract (i*2) (i*2+2))) w:=fun w=>by
   rw[run_slice_string w 9 Lib.smalls .i64 .i64 _ _ underlying9 (by omega) (by omega) (by rw[Lib.smalls_size];omega),show((i:Int)*2).toNat=i*2 by omega,show((i:Int)*2+2).toNat=i*2+2 by omega]
  go_wp2;go_ret;refine⟨?_,rfl⟩;show Ending.returned (Value.string (Lib.smalls.extract (i*2) (i*2+2)))=_;rw[DD (Lib.smalls.extract (i*2) (i*2+2)) (Lib.decDigits i) (by rw[Lib.extract_data];exact Lib.smalls_piece h10 h)]
theorem Kb (i:Nat)(hi:i<100)(w:World):Calls prog 33 #[ag (i:Int)] w fun e w'=>e= .returned (.string ⟨(Lib.decDigits i).toArray⟩)/\w'=w:=by
 have c:=Ka i hi
 have cf: ∀w,Calls prog 103 #[ag (i:Int),ag 10] w fun e w'=>e= .returned (.string ⟨(Lib.decDigits i).toArray⟩)/\w'=w:=fun w=>by
  go_enter func103,ntmps103;go_wp2_with fail;refine(c w).mono ?_;rintro e w' ⟨rfl,rfl⟩;go_wp2_with fail;go_ret;exact⟨rfl,rfl⟩
 have ci: ∀w,Calls prog 60 #[ag (i:Int)] w fun e w'=>e= .returned (.string ⟨(Lib.decDigits i).toArray⟩)/\w'=w:=fun w=>by
  go_enter func60,ntmps60;go_wp2_with fail;refine(cf w).mono ?_;rintro e w' ⟨rfl,rfl⟩;go_wp2_with fail;go_ret;exact⟨rfl,rfl⟩
 go_enter func33,ntmps33;go_wp2_with fail;refine(ci w).mono ?_;rintro e w' ⟨rfl,rfl⟩;go_wp2_with fail;go_ret;exact⟨rfl,rfl⟩
theorem Bu (a:Int)(h0:0<=a)(h1:a<100)(w:World):Calls prog 22 #[ag a] w fun e w'=>e= .returned (.string ⟨(pad2 a.toNat).toArray⟩)/\w'=w:=by
 have c:=Kb a.toNat (by omega) w;rw[show((a.toNat:Nat):Int)=a by omega]at c;by_cases h:a<10
 ·have hn:a.toNat<10:=by omega
  rw[Lib.decDigits_one hn]at c
  have ep:pad2 a.toNat=[48,UInt8.ofNat (48+a.toNat)]:=by
   unfold pad2;rw[show a.toNat/10=0 by omega,show a.toNat%10=a.toNat by omega];rfl
  rw[ep];generalize UInt8.ofNat (48+a.toNat)=x at*;clear hn h0 h1 ep;go_enter func22,ntmps22;go_wp2_with fail;refine c.mono ?_;rintro e w' ⟨rfl,rfl⟩;clear c;go_wp2_with fail;go_ret;exact⟨congrArg Ending.returned (zW (by first|with_reducible rfl|simp)),rfl⟩
 ·rw[Lib.decDigits_two (by omega) (by omega)]at c;replace c:Calls prog 33 #[ag a] w fun e w'=>e= .returned (.string ⟨(pad2 a.toNat).toArray⟩)/\w'=w:=c;generalize pad2 a.toNat=P at*;clear h0 h1;go_enter func22,ntmps22;go_wp2_with fail;refine c.mono ?_;rintro e w' ⟨rfl,rfl⟩;clear c;go_wp2_with fail;go_ret;exact⟨rfl,rfl⟩
theorem lD (a:Int)(h0:0<=a)(h1:a<=1440)(w:World):Calls prog 13 #[ag a] w fun e w'=>e= .returned (.string ⟨(clockL a).toArray⟩)/\w'=w:=by
 have c1:=Bu (a/60) (by omega) (by omega) w;have c2:=Bu (a%60) (by omega) (by omega) w
 have e:clockL a=pad2 (a/60).toNat++58::pad2 (a%60).toNat:=by
  unfold clockL;rw[show(a/60).toNat=a.toNat/60 by omega,show(a%60).toNat=a.toNat%60 by omega]
 rw[e];have l1:(pad2 (a/60).toNat).length=2:=rfl;have l2:(pad2 (a%60).toNat).length=2:=rfl;clear e;generalize pad2 (a/60).toNat=P at*;generalize pad2 (a%60).toNat=R at*;go_enter func13,ntmps13;go_wp2_with fail;refine c1.mono ?_;rintro e w' ⟨rfl,rfl⟩;clear c1;go_wp2_with fail;refine c2.mono ?_;rintro e w' ⟨rfl,rfl⟩;clear c2;go_wp2_with fail;go_ret;exact⟨congrArg Ending.returned (zW (by simp)),rfl⟩
theorem kB (a:Int):(clockL a).length=5:=rfl
theorem Eu (a b len day:Int)(w:World)(hT:Tbs w.heap.size w):Calls prog 3 #[ag a,ag b,ag len,ag day] w fun e w'=>e= .returned (.bool true)/\ao w w':=by
 have c1:=rA w hT;have HT:=aF hT;clear hT;go_enter func3,ntmps3;go_wp2_with fail;refine c1.mono ?_;rintro e w1 ⟨rfl,b1⟩;clear c1;have HB1:=aF b1;clear b1;have H:(a<0)\/(¬a<0/\b<=a)\/(¬a<0/\ ¬b<=a/\1440<b)\/(¬a<0/\ ¬b<=a/\ ¬1440<b/\len<1)\/(¬a<0/\ ¬b<=a/\ ¬1440<b/\ ¬len<1/\1440<len)\/(¬a<0/\ ¬b<=a/\ ¬1440<b/\ ¬len<1/\ ¬1440<len/\day<0)\/(¬a<0/\ ¬b<=a/\ ¬1440<b/\ ¬len<1/\ ¬1440<len/\ ¬day<0/\146095<day)\/(¬a<0/\ ¬b<=a/\ ¬1440<b/\ ¬len<1/\ ¬1440<len/\ ¬day<0/\ ¬146095<day):=by omega
 rcases H with g0|⟨g0,g1⟩|⟨g0,g1,g2⟩|⟨g0,g1,g2,g3⟩|⟨g0,g1,g2,g3,g4⟩|⟨g0,g1,g2,g3,g4,g5⟩|⟨g0,g1,g2,g3,g4,g5,g6⟩|⟨g0,g1,g2,g3,g4,g5,g6⟩;rotate_left 7
 ·have cA:=lD a (by omega) (by omega) w1;have cB:=lD b (by omega) (by omega) w1;have cO:=zX (hoT a b) len w1 (by rw[Ft];decide)
  have hA:(fw dk0 [cR (hoT a b),cAd,cS (sv1 len),cF 0 day 2]).1[3]? =some (if b-a<len then noA 11 else⟨0,0,day,a,[0],[]⟩):=by
   rw[vA (P4 (by omega)) (by show(0:Int)<=0;decide) (by omega)];exact congrArg some (J5 (days:=2) (by omega) (by omega) (by omega) (by omega) (by decide))
  have hw:IntKind.i64.wrap (b-a)=b-a:=(by rw[bz];omega);have HA:=aF hA;have hTe:hoT a b=gH++32::([97]++32::61::32::(clockL a++45::(clockL b++[59]))):=rfl;have l1:=kB a;have l2:=kB b;clear hA;generalize clockL a=P at*;generalize clockL b=R at*;generalize hoT a b=X at*;go_wp2_with fail;refine cA.mono ?_;rintro e w' ⟨rfl,rfl⟩;clear cA;go_wp2_with fail;refine cB.mono ?_;rintro e w' ⟨rfl,rfl⟩;clear cB;go_wp2_with fail;refine(cO _ (by rw[hTe];simp[gH])).mono ?_;rintro e w2 ⟨v,rv,rfl,b2,ho⟩;clear cO hTe l1 l2;have HB2:=aF (au HB1.o b2);have HO:=aF ho;have HC2:=aF b2;obtain⟨p,k,hv⟩:=dl ho.1;subst hv;have c2:=rz 0 day 2 w2;clear ho b2;go_wp2_with fail;refine c2.mono ?_;rintro e w3 ⟨rfl,b3⟩;clear c2;obtain⟨w4,h4,b4,o4,x4,r4⟩:=tb HO.o HC2.o b3 0 day 2;have HB4:=aF b4;have HO4:=aF o4;have HX:=aF x4;have HR:=aF r4;clear b4 o4 x4 r4 b3 HO;dsimp only[doC,oC,List.length]at*;go_wp2_with(refine oh rfl _ _ rfl rfl HO4.o rfl HX.o (show 0<1 by decide) HR.o (show 4<=100000 by decide) HB4.o.size ?_;intro v' w5 hO5 b5 _)
  have hb5:=HB4.o.trans b5;have HB5:=aF (au HB1.o hb5);have c3:=tf hO5 hb5 (fun W hW=>HT.o W (au HB1.o hW)) HA.o;clear hO5 hb5 b5 HB4 HO4 HX HR HA;refine c3.mono ?_;clear c3;rintro e w6 ⟨p1,p2,k1,k2,rfl,b6⟩;have HB6:=aF (au HB5.o b6);clear b6 HB5;by_cases hlt:b-a<len
  ·rw[ax hlt];obtain⟨wZ,wC,hZ,nZ,hC,bC,nC⟩:=nbs w6 #[ag 0,ag 0,ag 0,ag 0,af,af] #[ag 11,ag 0,ag 0,ag 0,.slice p1 0 k1,.slice p2 0 k2] 28;have z0:=cr 0 nC rfl;have HB7:=aF (au HB6.o bC);clear bC;dsimp only[anC,noA,List.length];go_wp2_with(refine az rfl 28 _ _ rfl _ _ rfl rfl _ _ nZ (by kernel_rfl) rfl (by simp[Value.oneCell']) ?_;rw[hC])
   go_ret;exact⟨rfl,HB7.o⟩
  ·rw[aw hlt];obtain⟨wZ,wC,hZ,nZ,hC,bC,nC⟩:=nbs w6 #[ag 0,ag 0,ag 0,ag 0,af,af] #[ag 0,ag 0,ag day,ag a,.slice p1 1 k1,.slice p2 0 k2] 28;have z0:=cr 0 nC rfl;have z2:=cr 2 nC rfl;have z3:=cr 3 nC rfl;have HB7:=aF (au HB6.o bC);clear bC;dsimp only[anC,List.length];go_wp2_with(refine az rfl 28 _ _ rfl _ _ rfl rfl _ _ nZ (by kernel_rfl) rfl (by simp[Value.oneCell']) ?_;rw[hC])
   go_ret;exact⟨rfl,HB7.o⟩
 all_goals
  go_wp2_with fail
  go_ret
  exact⟨rfl,HB1.o⟩
section
open Go.ChangeShapes Go.WideShapes Go.ChangeAt Go.WideMaps Go.WideElems Go.Joins
abbrev qj:List (String×DataW Unit):=Rows.topHoursRow.laid
def MA:String:=(Rows.topHoursRow.laid.getD 1 default).1
def P5:String:=(Rows.topHoursRow.laid.getD 3 default).1
def RE:String:=(Rows.topHoursRow.laid.getD 4 default).1
def rB:List Int:=Lib.deBruijn64tab.map fun(n:Nat)=>(n:Int)
theorem P6:ownKnob prog.godebug=none:=by kernel_rfl
theorem Ke:prog.globalNamed MA=some 4:=by kernel_rfl
theorem P7:(prog.globals[4]?).map (·.type)=some 260:=by kernel_rfl
theorem MB:prog.globalNamed P5=some 1:=by kernel_rfl
theorem Q1:(prog.globals[1]?).map (·.type)=some 226:=by kernel_rfl
theorem MC:prog.globalNamed RE=some 5:=by kernel_rfl
theorem Q2:(prog.globals[5]?).map (·.type)=some 281:=by kernel_rfl
theorem cIK:prog.cellsOf 3=1:=by kernel_rfl
theorem cBK:prog.cellsOf 5=1:=by kernel_rfl
theorem cTK:prog.cellsOf 260=64:=by kernel_rfl
theorem cLK:prog.cellsOf 226=12:=by kernel_rfl
theorem cSK:prog.cellsOf 9=1:=by kernel_rfl
theorem cDK:prog.cellsOf 281=7:=by kernel_rfl
theorem Bv (os:Os)(args:Array Value):laidMetH prog qj ((World.doorLaid prog 400 os).forCall (fun _ _=>0) ⟨#[],args,[]⟩).memory:=
 laidMetH_of_parts3 (fuel:=8) (laidMet_of_run' 8 (by kernel_rfl) (by kernel_rfl)) (by kernel_rfl) (by kernel_rfl)
theorem Kf {H:Type}{enc:TypeId×Value->H}{P:Program}{w:World}{base:Nat}{sp:Nat->Bool}{held:Bool}{t e:TypeId}{n:Nat}{cs:List Value}{zs:List (List UInt8)}{p:List MemPlace}(ht:P.underlying t=some (.array n e))(he:P.underlying e=some .string)(hce:P.cellsOf e=1)(hct:P.cellsOf t=n):
  ∀fuel,DataW.trod enc P w base sp held fuel t cs=some (.agg (zs.map fun z=> .lit (.string z)),p)-> ∀(i:Nat) (z:List UInt8),zs[i]? =some z->cs[i]? =some (.string ⟨z.toArray⟩)
 |0,h,_,_,_=>by simp[DataW.trod]at h
 |fuel+1,h,i,z,hz=>by
  simp only[DataW.trod,ht,hce,hct,Nat.mul_one]at h;split at h
  ·obtain⟨xs,hm,hx⟩:=en.1 h;have h1:xs.map (fun x=>x.1)=zs.map fun z=>(DataW.lit (.string z):DataW H):=(by simpa using congrArg Prod.fst hx);have h2:(xs.map fun x=>x.1)[i]? =some (DataW.lit (.string z):DataW H):=(by rw[h1,bc,hz];rfl);rw[bc]at h2;obtain⟨x,hx1,hx2⟩:=en.1 h2
   have hin:i<n:=by
    have a:=(aD.1 hx1).1;have b:=Lib.mapM_length hm;simp at b;omega
   obtain⟨b,hb,hf⟩:=Lib.mapM_at hm i i (by simp[hin]);obtain⟨s,hc,rfl,_⟩:=DataW.trod_string he hf;rw[hb]at hx1;obtain rfl:=aI hx1;have hs:s.data.toList=z:=(by simpa using hx2);have h3:=congrArg (fun l:List Value=>l[0]?) hc;have h4:cs[i]? =some (.string s):=(by simpa[iD,List.getElem?_drop] using h3);rw[h4,<-hs]
  ·cases h
theorem BC {W:World}(h:laidMetH prog qj W):Tab W/\gj W/\pM W:=by
 rw[MakeChecks.laidMetH_plain _ _ _ (by kernel_rfl)]at h;obtain⟨ps,⟨_,_,_,_,_,_,_,_,_,_,⟨g1,t1,cs1,fuel1,p1,q1,hg1,ht1,hv1,hd1,⟨_,_,_,_,_,_,_,_,_,_,⟨g2,t2,cs2,fuel2,p2,q2,hg2,ht2,hv2,hd2,⟨g3,t3,cs3,fuel3,p3,q3,hg3,ht3,hv3,hd3,_,_⟩,_⟩,_⟩,_⟩,_⟩,_⟩:=h;obtain rfl:=aI (Ke.symm.trans hg1);obtain rfl:=aI (P7.symm.trans ht1);obtain rfl:=aI (MB.symm.trans hg2);obtain rfl:=aI (Q1.symm.trans ht2);obtain rfl:=aI (MC.symm.trans hg3);obtain rfl:=aI (Q2.symm.trans ht3);refine⟨?_,?_,?_⟩
 ·have e1:=Lib.cells_of_tab (zs:=rB) underlying260 underlying5 cBK cTK hd1
  have t:Lib.TabIs prog W MA .u8 rB:=by
   unfold Lib.TabIs;rw[<-e1];exact hv1
  intro i hi;have:=t.cell Ke i (by simpa[rB,Lib.deBruijn64tab] using hi);rw[this];have hl:i<Lib.deBruijn64tab.length:=(by simpa[Lib.deBruijn64tab] using hi);simp[rB,List.getD,hl]
 ·have e2:=Lib.cells_of_tab (zs:=tab) underlying226 underlying3 cIK cLK hd2
  have t:Lib.TabIs prog W P5 .i64 tab:=by
   unfold Lib.TabIs;rw[<-e2];exact hv2
  intro i hi;exact t.cell MB i (by simpa[tab] using hi)
 ·intro j hj
  have hz:wDays[j]? =some (wDays.getD j []):=by
   rw[dQ,ay (by exact hj)];rfl
  have hc:=Kf (zs:=wDays) underlying281 underlying9 cSK cDK fuel3 hd3 j _ hz;have:=World.var?_cell MC hv3 j;rw[this];simpa using hc
theorem uE {W:World}(h:laidMetH prog qj W):Tbs W.heap.size W:=fun W' hb=>by
 obtain⟨a,b,c⟩:=BC h;exact⟨fun i hi=>(hb.cell (bJ (b i hi))).trans (b i hi),fun i hi=>(hb.cell (bJ (c i hi))).trans (c i hi),fun i hi=>(hb.cell (bJ (a i hi))).trans (a i hi)⟩
end
end Go.Proofs.YtjkilacmkbmmbaaGreatDoor
