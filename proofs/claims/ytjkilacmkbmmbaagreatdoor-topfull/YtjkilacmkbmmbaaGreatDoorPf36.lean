/- Texts of the proof. -/
import Derived.Test.YtjkilacmkbmmbaaGreatDoorPf35
import Derived.Lib.ItoaWalk
import Derived.Test.YtjkilacmkbmmbaaGreatDoorCards
import Derived.Test.YtjkilacmkbmmbaaGreatDoorTie
import Derived.LaidMore
import Derived.SevenTiedAt
import Derived.Lib.SmallJoins
set_option maxRecDepth 100000
set_option maxHeartbeats 8000000
namespace Go.Proofs.YtjkilacmkbmmbaaGreatDoor
open Go.Proofs.Tryz Go.RowKit Lx Vx Mx Msk
theorem CH (x:ByteArray)(l:List UInt8)(h:x.data.toList=l):x=⟨l.toArray⟩:=by
 cases x;simp at h;subst h;simp
theorem I3 (i:Nat)(h:i<100)(w:World):Calls prog 137 #[ag (i:Int)] w fun e w'=>e= .returned (.string ⟨(Lib.decDigits i).toArray⟩)/\w'=w:=by
 go_enter func137,ntmps137;go_name_bytes_deep 45 SM hSM;have eSM:SM=Lib.smalls:=by rw[<-hSM];decide+kernel
 subst eSM;clear hSM;go_name_bytes_deep 30 DG hDG;have eDG:DG=Lib.digits36:=by rw[<-hDG];decide+kernel
 subst eDG;clear hDG;by_cases h10:i<10
 ·have hsl: ∀w,(Instr.slice 9 (.string Lib.digits36) (some (ag (i:Int))) (some (ag ((i:Int)+1))) none).run prog w= .ok (.string (Lib.digits36.extract i (i+1))) w:=fun w=>by
   rw[run_slice_string w 9 Lib.digits36 .i64 .i64 _ _ underlying9 (by omega) (by omega) (by rw[Lib.digits36_size];omega),show((i:Int)).toNat=i by omega,show((i:Int)+1).toNat=i+1 by omega]
  go_wp2;go_ret;refine⟨?_,rfl⟩;show Ending.returned (Value.string (Lib.digits36.extract i (i+1)))=_;rw[CH (Lib.digits36.extract i (i+1)) (Lib.decDigits i) (by rw[Lib.extract_data];exact Lib.digits36_piece h10)]
 ·have hsl: ∀w,(Instr.slice 9 (.string Lib.smalls) (some (ag ((i:Int)*2))) (some (ag ((i:Int)*2+2))) none).run prog w= .ok (.string (Lib.smalls.extract (i*2) (i*2+2))) w:=fun w=>by
   rw[run_slice_string w 9 Lib.smalls .i64 .i64 _ _ underlying9 (by omega) (by omega) (by rw[Lib.smalls_size];omega),show((i:Int)*2).toNat=i*2 by omega,show((i:Int)*2+2).toNat=i*2+2 by omega]
  go_wp2;go_ret;refine⟨?_,rfl⟩;show Ending.returned (Value.string (Lib.smalls.extract (i*2) (i*2+2)))=_;rw[CH (Lib.smalls.extract (i*2) (i*2+2)) (Lib.decDigits i) (by rw[Lib.extract_data];exact Lib.smalls_piece h10 h)]
theorem I4 (i:Nat)(hi:i<100)(w:World):Calls prog 33 #[ag (i:Int)] w fun e w'=>e= .returned (.string ⟨(Lib.decDigits i).toArray⟩)/\w'=w:=by
 have c:=I3 i hi
 have cf: ∀w,Calls prog 103 #[ag (i:Int),ag 10] w fun e w'=>e= .returned (.string ⟨(Lib.decDigits i).toArray⟩)/\w'=w:=fun w=>by
  go_enter func103,ntmps103;go_wp2_with fail;refine(c w).mono ?_;rintro e w' ⟨rfl,rfl⟩;go_wp2_with fail;go_ret;exact⟨rfl,rfl⟩
 have ci: ∀w,Calls prog 60 #[ag (i:Int)] w fun e w'=>e= .returned (.string ⟨(Lib.decDigits i).toArray⟩)/\w'=w:=fun w=>by
  go_enter func60,ntmps60;go_wp2_with fail;refine(cf w).mono ?_;rintro e w' ⟨rfl,rfl⟩;go_wp2_with fail;go_ret;exact⟨rfl,rfl⟩
 go_enter func33,ntmps33;go_wp2_with fail;refine(ci w).mono ?_;rintro e w' ⟨rfl,rfl⟩;go_wp2_with fail;go_ret;exact⟨rfl,rfl⟩
theorem AB (a:Int)(h0:0<=a)(h1:a<100)(w:World):Calls prog 22 #[ag a] w fun e w'=>e= .returned (.string ⟨(pad2 a.toNat).toArray⟩)/\w'=w:=by
 have c:=I4 a.toNat (by omega) w;rw[show((a.toNat:Nat):Int)=a by omega]at c;by_cases h:a<10
 ·have hn:a.toNat<10:=by omega
  rw[Lib.decDigits_one hn]at c
  have ep:pad2 a.toNat=[48,UInt8.ofNat (48+a.toNat)]:=by
   unfold pad2;rw[show a.toNat/10=0 by omega,show a.toNat%10=a.toNat by omega];rfl
  rw[ep];generalize UInt8.ofNat (48+a.toNat)=x at*;clear hn h0 h1 ep;go_enter func22,ntmps22;go_wp2_with fail;refine c.mono ?_;rintro e w' ⟨rfl,rfl⟩;clear c;go_wp2_with fail;go_ret;exact⟨congrArg Ending.returned (yU (by first|with_reducible rfl|simp)),rfl⟩
 ·rw[Lib.decDigits_two (by omega) (by omega)]at c;replace c:Calls prog 33 #[ag a] w fun e w'=>e= .returned (.string ⟨(pad2 a.toNat).toArray⟩)/\w'=w:=c;generalize pad2 a.toNat=P at*;clear h0 h1;go_enter func22,ntmps22;go_wp2_with fail;refine c.mono ?_;rintro e w' ⟨rfl,rfl⟩;clear c;go_wp2_with fail;go_ret;exact⟨rfl,rfl⟩
theorem vu (a:Int)(h0:0<=a)(h1:a<=1440)(w:World):Calls prog 13 #[ag a] w fun e w'=>e= .returned (.string ⟨(clockL a).toArray⟩)/\w'=w:=by
 have c1:=AB (a/60) (by omega) (by omega) w;have c2:=AB (a%60) (by omega) (by omega) w
 have e:clockL a=pad2 (a/60).toNat++58::pad2 (a%60).toNat:=by
  unfold clockL;rw[show(a/60).toNat=a.toNat/60 by omega,show(a%60).toNat=a.toNat%60 by omega]
 rw[e];have l1:(pad2 (a/60).toNat).length=2:=rfl;have l2:(pad2 (a%60).toNat).length=2:=rfl;clear e;generalize pad2 (a/60).toNat=P at*;generalize pad2 (a%60).toNat=R at*;go_enter func13,ntmps13;go_wp2_with fail;refine c1.mono ?_;rintro e w' ⟨rfl,rfl⟩;clear c1;go_wp2_with fail;refine c2.mono ?_;rintro e w' ⟨rfl,rfl⟩;clear c2;go_wp2_with fail;go_ret;exact⟨congrArg Ending.returned (yU (by simp)),rfl⟩
namespace Lx
theorem AC (n:Int):(clockL n).length=5:=by simp[clockL,pad2]
theorem yV {u:Nat}(h:u<10000):(Lib.decDigits u).length<=4:=by
 rw[Lib.decDigits_length];by_cases h1:u<10
 ·rw[Lib.nDigits_small h1];omega
 rw[Lib.nDigits_big h1];by_cases h2:u/10<10
 ·rw[Lib.nDigits_small h2];omega
 rw[Lib.nDigits_big h2];by_cases h3:u/10/10<10
 ·rw[Lib.nDigits_small h3];omega
 rw[Lib.nDigits_big h3,Lib.nDigits_small (by omega)];omega
theorem O2 (n:Int):0<=(ymd n).1/\(ymd n).1<=2399:=by
 unfold ymd;cases hf:OS.find? (fun p=>LB n (F1 n p)) with
 |none=>exact⟨by simp,by simp⟩
 |some p=>
  have hp:=List.find?_some hf;dsimp only at hp⊢;obtain⟨a1,a2,_⟩:=eJ hp;have:=Cal.LO _ _ (Int.le_trans a1 a2);omega
theorem CI (n:Int):(yc n).length<=10:=by
 have h:=O2 n;have:=yV (u:=(ymd n).1.toNat) (by omega);simp[yc,pad2];omega
theorem I5 (a b:Int):(yd a b).length<=22:=by
 have h1:=CI a;have h2:=CI b;unfold yd;split
 ·omega
 ·simp;omega
theorem K6: ∀n:Fin 128,(AX (n.1:Int)).length<=27:=by decide+kernel
theorem K7 {a:Int}(h0:0<=a)(h1:a<128):(AX a).length<=27:=by
 have:=K6 ⟨a.toNat,by omega⟩;rw[show(((⟨a.toNat,by omega⟩:Fin 128).1:Nat):Int)=a from by simp;omega]at this;exact this
theorem K8 {a:Int}(h0: -10000<a)(h1:a<10000):(Lib.itoa a).length<=5:=by
 unfold Lib.itoa;split
 ·have:=yV (u:=a.natAbs) (by omega);simp;omega
 ·have:=yV (u:=a.toNat) (by omega);omega
theorem K9 {l:List UInt8}(h:Go.Proofs.YtjkilacmkbmmbaaGreatDoor.namedL l=true):l.length<=20:=by
 unfold Go.Proofs.YtjkilacmkbmmbaaGreatDoor.namedL at h;rw[bn,bn]at h;exact eJ h.2.1
theorem No (b:Bool)(s:List UInt8):(brk b s).length<=s.length+2:=by unfold brk;split<;>simp
theorem La {e:Ex}(h:OKE e)(t:Nat->Nat->List UInt8):
  (kidsP e.kind=0->(g6 e t).length<=40)/\(kidsP e.kind=1-> ∃l,(g6 e t).length<=40+(t 0 l).length)/\(kidsP e.kind=2-> ∃l l',(g6 e t).length<=40+(t 0 l).length+(t 1 l').length):=by
 obtain⟨k1,k2,_,hr,hn⟩:=h.kinds;have c1:=AC e.a;have c2:=AC e.b;have c3:=I5 e.a e.b;have hc:e.kind=1\/e.kind=2\/e.kind=3\/e.kind=10\/e.kind=6\/e.kind=7\/e.kind=8\/e.kind=9\/e.kind=4\/e.kind=5:=by omega
 rcases hc with hk|hk|hk|hk|hk|hk|hk|hk|hk|hk
 ·have kp':kidsP e.kind=0:=by rw[hk];rfl
  rw[OT hk,kp'];refine⟨fun _=> ?_,fun h=>(by omega),fun h=>(by omega)⟩;simp;try omega
 ·have kp':kidsP e.kind=0:=by rw[hk];rfl
  rw[OU hk,kp'];refine⟨fun _=> ?_,fun h=>(by omega),fun h=>(by omega)⟩;simp;try omega
 ·have kp':kidsP e.kind=0:=by rw[hk];rfl
  rw[OV hk,kp'];refine⟨fun _=> ?_,fun h=>(by omega),fun h=>(by omega)⟩;simp;try omega
 ·have:=K9 (hn hk);have kp':kidsP e.kind=0:=(by rw[hk];rfl);rw[Nn hk,kp'];refine⟨fun _=> ?_,fun h=>(by omega),fun h=>(by omega)⟩;omega
 ·have kp':kidsP e.kind=2:=by rw[hk];rfl
  rw[OW hk,kp'];refine⟨fun h=>(by omega),fun h=>(by omega),fun _=>⟨0,1,?_⟩⟩;simp;omega
 ·have kp':kidsP e.kind=2:=by rw[hk];rfl
  rw[OX hk,kp'];refine⟨fun h=>(by omega),fun h=>(by omega),fun _=>⟨0,1,?_⟩⟩;simp;omega
 ·have kp':kidsP e.kind=2:=by rw[hk];rfl
  rw[OY hk,kp'];refine⟨fun h=>(by omega),fun h=>(by omega),fun _=>⟨1,2,?_⟩⟩;simp;omega
 ·simp[rangeP,hk]at hr;have:=K8 (a:=e.a) (by omega) (by omega);have kp':kidsP e.kind=1:=(by rw[hk];rfl);rw[OZ hk,kp'];refine⟨fun h=>(by omega),fun _=>⟨3,?_⟩,fun h=>(by omega)⟩;simp;omega
 ·simp[rangeP,hk]at hr;have:=K7 (a:=e.a) (by omega) (by omega);have kp':kidsP e.kind=1:=(by rw[hk];rfl);rw[O0 hk,kp'];refine⟨fun h=>(by omega),fun _=>⟨2,?_⟩,fun h=>(by omega)⟩;simp;omega
 ·have kp':kidsP e.kind=1:=by rw[hk];rfl
  rw[O1 hk,kp'];refine⟨fun h=>(by omega),fun _=>⟨2,?_⟩,fun h=>(by omega)⟩;simp;omega
theorem Lb (k:Int):kidsP k<=2:=by unfold kidsP;split;omega;split<;>omega
theorem uR: ∀(N:Nat) (e:Ex) (deep n:Nat),SizeOf.sizeOf e<=N->(shapeP e deep n).1=0->n+1<=(shapeP e deep n).2/\ ∀least,(lX e least).length+50*n<=50*(shapeP e deep n).2
 |0,e,_,_,hN,_=>by cases e;simp at hN
 |N+1,e,deep,n,hN,h=>by
  have hok:OKE e:=⟨deep,n,h⟩
  obtain⟨b0,b1,b2⟩:=La hok (wm e.kids);have hl:=hok.kinds.2.2.1;have hle:=Lb e.kind;have ha:=hok.alone;have hlt: ∀least,(lX e least).length<=(g6 e (wm e.kids)).length+2:=fun least=>(by rw[K5];exact No _ _);rw[jB]at h⊢;split at h
  ·cases h
  rename_i hc;rw[aw hc];rw[aw (by simpa using ha)]at h⊢;match hk:e.kids,hl with
  |[],hl=>
   have:=b0 (by simp at hl;omega);rw[hk]at this;rw[ph];refine⟨by simp,fun least=> ?_⟩;have:=hlt least;rw[hk]at this;simp;omega
  |[k],hl=>
   obtain⟨l,hb⟩:=b1 (by simp at hl;omega);rw[hk]at h hb;have hkl:=gJ (e:=e) (k:=k) (by simp[hk]);rw[g7,aw (by simp),ph]at h⊢;dsimp only at h⊢;obtain⟨q1,q2⟩:=uR N k (deep+1) (n+1) (by omega) h;have q3:=q2 l;have e0:wm [k] 0 l=lX k l:=rfl;rw[e0]at hb;refine⟨by omega,fun least=> ?_⟩;have:=hlt least;rw[hk]at this;omega
  |[k,k'],hl=>
   obtain⟨l,l',hb⟩:=b2 (by simp at hl;omega);rw[hk]at h hb;have hkl:=gJ (e:=e) (k:=k) (by simp[hk]);have hkl':=gJ (e:=e) (k:=k') (by simp[hk]);rw[g7,aw (by simp),g7,ph]at h⊢;dsimp only at h⊢
   have hz:(shapeP k (deep+1) (n+1)).1=0:=by
    by_cases hz:(shapeP k (deep+1) (n+1)).1=0
    ·exact hz
    ·rw[ay hz]at h;exact h
   rw[aw (by simpa using hz)]at h⊢;obtain⟨q1,q2⟩:=uR N k (deep+1) (n+1) (by omega) hz;obtain⟨r1,r2⟩:=uR N k' (deep+1) _ (by omega) h;have q3:=q2 l;have r3:=r2 l';have e0:wm [k,k'] 0 l=lX k l:=rfl;have e1:wm [k,k'] 1 l'=lX k' l':=rfl;rw[e0,e1]at hb;refine⟨by omega,fun least=> ?_⟩;have:=hlt least;rw[hk]at this;omega
  |_::_::_::_,hl=>simp at hl;omega
theorem OKE.len {e:Ex}(h:OKE e)(least:Nat):(lX e least).length<=30000:=by
 obtain⟨deep,n,h⟩:=h;have h1:=(uR _ e deep n (aA _) h).2 least;have h2:=sY h;omega
end Lx
def skp (l:List UInt8):List UInt8:=l.drop (dV false l)
def j8:List T1->List UInt8->List UInt8->Prop
 |[],l,l'=>l=l'
 |t::ts,l,l'=>0<l.length/\firstT l=t/\t.err=0/\j8 ts (skp (l.drop t.len)) l'
theorem j8.trans: ∀{ts us:List T1} {l m n:List UInt8},j8 ts l m->j8 us m n->j8 (ts++us) l n
 |[],_,_,_,_,h,g=>by
  have e:_=_:=h;subst e;exact g
 |_::_,_,_,_,_,⟨a,b,c,d⟩,g=>⟨a,b,c,j8.trans d g⟩
theorem ye {l:List UInt8}: ∀(ts:List T1) {pre:List (T1×Nat)} {k:Nat},eG l pre k->j8 ts (l.drop k) []-> ∃us k',eG l (pre++us) k'/\us.map (fun p=>p.1)=ts/\ ¬k'<l.length
 |[],pre,k,h,g=>by
  have e:l.drop k=[]:=g;have:=congrArg List.length e;simp at this;exact⟨[],k,by simpa using h,rfl,by omega⟩
 |t::ts,pre,k,h,⟨g1,g2,g3,g4⟩=>by
  simp only[eB]at g1;have s:=h.step (by omega) (by rw[g2];exact g3);rw[g2]at s;unfold skp at g4;rw[List.drop_drop,List.drop_drop,List.drop_drop,<-Nat.add_assoc]at g4;obtain⟨us,k',h1,h2,h3⟩:=ye ts s g4;exact⟨(t,k)::us,k',by simpa using h1,by simp[h2],h3⟩
theorem Lc {l:List UInt8}{ts:List T1}(h:j8 ts (skp l) []): ∃us k,eG l us k/\us.map (fun p=>p.1)=ts/\ ¬k<l.length:=by
 have s:=eG.start (l:=l);simp only[List.drop_zero,bH]at s;obtain⟨us,k,h1,h2,h3⟩:=ye ts s h;exact⟨us,k,by simpa using h1,h2,h3⟩
def qx (l:List UInt8):Prop:= ∃c r,l=c::r/\c.toNat≠32/\c.toNat≠9/\c.toNat≠10/\c.toNat≠35
theorem qx.app {l:List UInt8}(h:qx l)(r:List UInt8):qx (l++r):=by
 obtain⟨c,q,rfl,h⟩:=h;exact⟨c,q++r,rfl,h⟩
theorem yf {l:List UInt8}(h:qx l):skp l=l:=by
 obtain⟨c,r,rfl,h1,h2,h3,h4⟩:=h;simp[skp,dV,h1,h2,h3,h4]
theorem tU (r:List UInt8):skp (32::r)=skp r:=by simp[skp,dV]
def sgT (c:UInt8):T1:=⟨3,0,[c],1,0⟩
def wdT (x:List UInt8):T1:=⟨2,0,x,x.length,0⟩
def nmT (x:List UInt8):T1:=⟨1,0,x,x.length,0⟩
def tmT (n:Int):T1:=⟨4,n,[],5,0⟩
theorem AD {c:UInt8}{r m:List UInt8}(hm:0<m.length)(h48:(m.getD 0 0).toNat=48)(hc:isD c=false):ip (c::r) m=false:=rS 0 hm (by unfold Lx.okB;rw[ay h48];simpa using hc)
theorem wn {t:T1}{l r:List UInt8}(h0:0<l.length)(h1:firstT l=t)(h2:t.err=0)(h3:l.drop t.len=r):j8 [t] l (skp r):=⟨h0,h1,h2,by rw[h3];rfl⟩
theorem vw {c:UInt8}{r:List UInt8}(hc:isD c=false):firstT (c::r)=if isL c then jK (c::r) else jf (c::r):=by
 unfold firstT;rw[AD (by decide) (by decide) hc,AD (by decide) (by decide) hc];simp[hc]
theorem tV {c:UInt8}(r:List UInt8)(hD:isD c=false)(hL:isL c=false)(h46:c≠46)(hi: ¬Lib.indexByte kV c<0):j8 [sgT c] (c::r) (skp r):=by
 refine wn (by simp) ?_ rfl rfl;rw[vw hD,hL];unfold jf
 have hp:Lib.hasPrefix (c::r) [46,46]=false:=by
  unfold Lib.hasPrefix;simp[List.isPrefixOf,Ne.symm h46]
 rw[hp];simp only[List.getD_cons_zero];simp[hi,sgT]
theorem AE {p:UInt8->Bool}{r:List UInt8}(hr: ∀c q,r=c::q->p c=false): ∀y:List UInt8,fu p y=y.length->fu p (y++r)=y.length
 |[],_=>by
  cases r with
  |nil=>rfl
  |cons c q=>simp[fu,hr c q rfl]
 |c::y,h=>by
  simp only[fu]at h;split at h
  ·rename_i hc;have:=AE hr y (by simpa using h);simp[fu,hc,this]
  ·simp at h
theorem CJ {x r:List UInt8}(hx:wordLen x=x.length)(h0:x≠[])(hr: ∀c q,r=c::q->isC c=false):wordLen (x++r)=x.length/\isL (x.getD 0 0)=true:=by
 cases x with
 |nil=>exact absurd rfl h0
 |cons c y=>
  simp only[wordLen]at hx;split at hx
  ·rename_i hc;have:=AE hr y (by simpa using hx);simp[wordLen,hc,this]
  ·simp at hx
theorem Np {c:UInt8}(h:isL c=true):isD c=false:=by
 unfold isL isD at*;simp at h⊢;omega
theorem AF {x r:List UInt8}(hx:wordLen x=x.length)(h0:x≠[])(h20:x.length<=20)(hr: ∀c q,r=c::q->isC c=false):j8 [⟨if isWordL x then 2 else 1,0,x,x.length,0⟩] (x++r) (skp r):=by
 obtain⟨h1,h2⟩:=CJ hx h0 hr;cases x with
 |nil=>exact absurd rfl h0
 |cons c y=>
  have hc:isL c=true:=(by simpa using h2);refine wn (by simp) ?_ rfl (by simp);rw[List.cons_append,vw (Np hc),hc,ay rfl];unfold jK;rw[<-List.cons_append,h1,aw (by omega)];simp
theorem F2 {x:List UInt8}(h:namedL x=true):wordLen x=x.length/\x≠[]/\x.length<=20/\isWordL x=false:=by
 unfold namedL at h;simp at h;exact⟨h.2.2.1,fun e=>h.1 e,h.2.1,h.2.2.2⟩
theorem I6 {x r:List UInt8}(h:namedL x=true)(hr: ∀c q,r=c::q->isC c=false):j8 [nmT x] (x++r) (skp r):=by
 obtain⟨h1,h2,h3,h4⟩:=F2 h;have:=AF h1 h2 h3 hr;rw[h4]at this;exact this
theorem Nq {x r:List UInt8}(h1:wordLen x=x.length)(h2:x≠[])(h3:x.length<=20)(h4:isWordL x=true)(hr: ∀c q,r=c::q->isC c=false):j8 [wdT x] (x++r) (skp r):=by
 have:=AF h1 h2 h3 hr;rw[h4]at this;exact this
theorem AG (q:List UInt8): ∀c r,(32::q:List UInt8)=c::r->isC c=false:=by
 rintro c r h;cases h;decide
theorem qx.word {x:List UInt8}(hx:wordLen x=x.length)(h0:x≠[]):qx x:=by
 cases x with
 |nil=>exact absurd rfl h0
 |cons c y=>
  have h:=(CJ (r:=[]) hx h0 (by rintro c q h;cases h)).2;have hc:isL c=true:=(by simpa using h);unfold isL at hc;simp at hc;exact⟨c,y,rfl,by omega,by omega,by omega,by omega⟩
theorem uS {k:Nat}(h:k<=9):(UInt8.ofNat (48+k)).toNat=48+k:=by
 rw[UInt8.toNat_ofNat'];omega
theorem uT {k:Nat}(h:k<=9):isD (UInt8.ofNat (48+k))=true:=by
 unfold isD;rw[uS h];simp;omega
theorem Eh {a b:Nat}(ha:a<=9)(hb:b<=9):valL [UInt8.ofNat (48+a),UInt8.ofNat (48+b)]=10*(a:Int)+b:=by
 simp only[valL,List.foldl_cons,List.foldl_nil,uS ha,uS hb];omega
theorem PR {a b c d e:UInt8}{r:List UInt8}(ha:isD a=true)(hb:isD b=true)(hc:c=58)(hd:isD d=true)(he:isD e=true):ip (a::b::c::d::e::r) lT=true:=by
 subst hc;refine zd (by simp[lT]) fun i hi=> ?_;have hi:i<5:=hi;match i,hi with
 |0,_=>simpa[lT,Lx.okB] using ha
 |1,_=>simpa[lT,Lx.okB] using hb
 |2,_=>simp[lT,Lx.okB]
 |3,_=>simpa[lT,Lx.okB] using hd
 |4,_=>simpa[lT,Lx.okB] using he
theorem AH {a:Int}(h0:0<=a)(h1:a<=1440)(r:List UInt8):j8 [tmT a] (clockL a++r) (skp r):=by
 refine wn (by simp[clockL,pad2]) ?_ rfl (by simp[clockL,pad2,tmT]);have e:clockL a++r=UInt8.ofNat (48+a.toNat/60/10)::UInt8.ofNat (48+a.toNat/60%10)::58::UInt8.ofNat (48+a.toNat%60/10)::UInt8.ofNat (48+a.toNat%60%10)::r:=by simp[clockL,pad2]
 have hf:=PR (r:=r) (uT (k:=a.toNat/60/10) (by omega)) (uT (k:=a.toNat/60%10) (by omega)) rfl (uT (k:=a.toNat%60/10) (by omega)) (uT (k:=a.toNat%60%10) (by omega));rw[<-e]at hf;unfold firstT;have hn:ip (clockL a++r) ua=false:=rS 2 (by decide) (by rw[e];simp only[List.getD_cons_succ,List.getD_cons_zero];decide);rw[hn,hf]
 have v1:valL (((clockL a++r).drop 0).take 2)=((a.toNat/60:Nat):Int):=by
  rw[e];show valL [_,_]=_;rw[Eh (by omega) (by omega)];omega
 have v2:valL (((clockL a++r).drop 3).take 2)=((a.toNat%60:Nat):Int):=by
  rw[e];show valL [_,_]=_;rw[Eh (by omega) (by omega)];omega
 unfold mB;rw[v1,v2,aw (by simp),ay rfl,aw (by omega)];unfold tmT;congr 1;omega
theorem Nr {l:List UInt8}{ts:List T1}{L:List Ru}(h6:l.length<=6000)(hg:j8 ts (skp l) [])(hr: ∀us:List Tk,us.map (fun p=>p.1)=ts->gW l.length (us.length+1) [] us= .ok L):jy l=(0,L):=by
 obtain⟨us,k,h1,h2,h3⟩:=Lc hg;unfold jy;rw[aw (by omega),uK h1 (fun h=>h3 h.1)];dsimp only;rw[aw h3,hr us h2]
theorem I7 (r:List UInt8):j8 [wdT kH] (kH++32::r) (skp r):=(tU r)▸Nq (by rfl) (by decide) (by decide) (by rfl) (AG r)
theorem O3 {x:List UInt8}(hx:namedL x=true)(r:List UInt8):j8 [nmT x] (x++32::r) (skp r):=(tU r)▸I6 hx (AG r)
theorem Ns (r:List UInt8):j8 [sgT 61] (61::32::r) (skp r):=(tU r)▸tV (32::r) (by decide) (by decide) (by decide) (by decide)
theorem CK {a:Int}(h0:0<=a)(h1:a<=1440)(r:List UInt8):skp (clockL a++r)=clockL a++r:=by
 refine yf ⟨UInt8.ofNat (48+a.toNat/60/10),_,rfl,?_⟩;rw[uS (by omega)];omega
theorem F3 {a b:Int}(h0:0<=a)(h1:a<=1440)(h2:0<=b)(h3:b<=1440)(r:List UInt8):j8 [tmT a,sgT 45,tmT b] (clockL a++45::(clockL b++r)) (skp r):=by
 have g1:=AH h0 h1 (45::(clockL b++r));rw[show skp (45::(clockL b++r))=45::(clockL b++r) from rfl]at g1;have g2:=tV (c:=45) (clockL b++r) (by decide) (by decide) (by decide) (by decide);rw[CK h2 h3]at g2;exact g1.trans (g2.trans (AH h2 h3 r))
theorem I8 {x:List UInt8}(hx:namedL x=true)(hs:qx (x++[]))(r:List UInt8):j8 [wdT kH,nmT x,sgT 61] (kH++32::(x++32::61::32::r)) (skp r):=by
 have g:=I7 (x++32::61::32::r);rw[gg]at hs;rw[yf (hs.app _)]at g;have g2:=O3 hx (61::32::r);rw[show skp (61::32::r)=61::32::r from rfl]at g2;exact g.trans (g2.trans (Ns r))
theorem Ld:j8 [sgT 59] (59::[]) []:=tV (c:=59) [] (by decide) (by decide) (by decide) (by decide)
def hoT (a b:Int):List UInt8:=kH++32::([97]++32::61::32::(clockL a++45::(clockL b++[59])))
theorem Le (k a b:Int)(x:List UInt8):hgt ⟨k,a,b,x,[]⟩=1:=by rw[oF];rfl
theorem Ei (a b:Int):(hoT a b).length=21:=by simp[hoT,clockL,pad2,kH]
theorem O4 {a b:Int}(h:0<=a/\a<b/\b<=1440):jy (hoT a b)=(0,oL a b):=by
 have g:=(I8 (x:=[97]) (by decide) ⟨97,[],rfl,by decide⟩ (clockL a++45::(clockL b++[59])))
 rw[CK h.1 (by omega)]at g;have g':=g.trans ((F3 h.1 (by omega) (by omega) h.2.2 [59]).trans Ld);refine Nr (ts:=[wdT kH,nmT [97],sgT 61,tmT a,sgT 45,tmT b,sgT 59]) (by rw[Ei];decide) g' fun us hu=> ?_;match us,hu with
 |[(_,p0),(_,p1),(_,p2),(_,p3),(_,p4),(_,p5),(_,p6)],hu=>
  simp only[dm,eI,List.cons.injEq,and_true]at hu;obtain⟨rfl,rfl,rfl,rfl,rfl,rfl,rfl⟩:=hu
  have e:rd (hoT a b).length 0 1 ex0 [(tmT a,p3),(sgT 45,p4),(tmT b,p5),(sgT 59,p6)] 0= .ok (oE a b,[(sgT 59,p6)],1):=by
   generalize (hoT a b).length=E;have hb: ¬b<a+1:=(by omega);simp[NH,NI,NJ,Js,Jr,Jq,Eu,cY,dt,isT,textP,kindP,numP,og,fH,rT,jS,jq,iP,je,ko,li,tmT,sgT,hb,oE]
  have e2:lU (hoT a b).length [(nmT [97],p1),(sgT 61,p2),(tmT a,p3),(sgT 45,p4),(tmT b,p5),(sgT 59,p6)]= .ok (([97],oE a b),[]):=by
   unfold lU;refine(aw (fun c=>c rfl)).trans ((ay (by rfl)).trans ?_);simp only[List.tail_cons,e];refine(aw (by unfold oE;rw[Le];decide)).trans ((ay (by rfl)).trans ?_);rfl
  show gW _ 8 [] _=_;unfold gW;refine(aw (by simp)).trans ((ay (by rfl)).trans ((aw (by simp)).trans ?_));simp only[List.tail_cons,e2];rfl
theorem O5 {a b:Int}(h:0<=a/\a<b/\b<=1440):fE (hoT a b)=(0,oL a b):=by
 unfold fE;rw[O4 h];refine(aw fun c=>c rfl).trans ?_;dsimp only;rw[Lz h]
def apX (len day m:Int):Ap:=⟨1,10,m,m+len,0,0,0,len,day,m,[0]⟩
def cHd (day m:Int)(who:List Int):Cm:=⟨5,0,0,0,[],[],sv0,day,m,who⟩
theorem O6 {L:List Ru}{len:Int}{aps:List Ap}{n day m x0 x1 x3 x4:Int}{w0:List Int}{st left:Int}(_:0<=len)(hd:0<=day/\day<146097)(hm:0<=m/\m<1440/\m+len<=1440):kE (c1 L len aps) n ⟨st,left,x0,x1,0,0,0,len,x3,x4,w0⟩ day m [0]=if gu (fS (c1 L len aps) 0 day n) m (m+len)=true then(⟨st,left,m,m+len,0,0,0,len,day,m,[0]⟩,0) else(ap0,10):=by
 have i1: ¬(isN day 146097=false\/isN m 1440=false):=by
  rintro(q|q)<;>simp[isN]at q<;>omega
 have i2: ¬(m-0<0\/1440<m+len+0):=by omega
 have i3: ¬jJ [0] ((c1 L len aps).svs.getD (Int.toNat 0) sv0).roles≠0:=by
  have:jJ [0] [[0]]=0:=(by decide);exact fun c=>c this
 unfold kE;refine(aw i1).trans ((aw i2).trans ((aw i3).trans ?_));rw[show m-0=m by omega,show m+len+0=m+len by omega];by_cases q:gu (fS (c1 L len aps) 0 day n) m (m+len)=true
 ·rw[ay q,aw (by simp[q])]
 ·rw[aw q,ay (by simpa using q)]
theorem PS {L:List Ru}{len:Int}{aps:List Ap}{day m:Int}(hl:0<=len)(hd:0<=day/\day<146097)(hm:0<=m/\m<1440/\m+len<=1440)(h30:aps.length<30):doS (c1 L len aps) (cHd day m [0])=if gu (fS (c1 L len aps) 0 day (-1)) m (m+len)=true then(jw aps.length,c1 L len (aps++[apX len day m])) else(noA 10,c1 L len aps):=by
 have hp:=O6 (L:=L) (aps:=aps) (n:= -1) (st:=1) (left:=10) (x0:=0) (x1:=0)  (x3:=0) (x4:=0) (w0:=[]) hl hd hm;show FQ (c1 L len aps) 0 day m [0]=_;unfold FQ;refine(aw (by show¬isN 0 1=false;decide)).trans ((aw (by show¬30<=aps.length;omega)).trans ?_);show(if(kE (c1 L len aps) (-1) ⟨1,10,0,0,0,0,0,len,0,0,[]⟩ day m [0]).2≠0 then _ else _)=_;rw[show tR (c1 L len aps) 0=⟨1,10,0,0,0,0,0,len,0,0,[]⟩ from rfl,hp];by_cases q:gu (fS (c1 L len aps) 0 day (-1)) m (m+len)=true
 ·rw[ay q,ay q];exact aw (fun c=>c rfl)
 ·rw[aw q,aw q];exact ay (by decide)
theorem Qj:prog.underlying 26=some (.struct (prog.fieldsOf 26)):=by kernel_rfl
theorem Nt {w0 w1 w2:World}{v:Value}{cs:List (Cm×Value×Value)}(hO:kT w0.heap.size w1 v cs)(b1:ao w0 w1)(b2:ao w1 w2)(ds:List (Cm×Value×Value))(arr:Array Value)(ha:arr.toList=ds.flatMap fun q=>(doC q.1 q.2.1 q.2.2).toList)(hl:ds.length<=60)(hR: ∀q∈ds,Rob (fun k=>w1.heap.size<=k) (fun u=>la u q.1 q.2.1 q.2.2) w2): ∃w3,w2.alloc (.cells arr 37)=w3/\ao w0 w3/\kT w0.heap.size w3 v cs/\mY w3 (.slice (some (ae w2.heap.size 0)) ds.length ds.length) ds/\ ∀q∈ds,Rob (fun k=>some k≠v.ownBlock) (fun u=>la u q.1 q.2.1 q.2.2) w3:=by
 obtain⟨w3,h3,b3,n3⟩:=nb w2 arr 37;have b13:=au b2 b3
 have hR': ∀q∈ds,Rob (fun k=>some k≠v.ownBlock) (fun u=>la u q.1 q.2.1 q.2.2) w3:=fun q hq=>((hR q hq).below b3).move (aA _) (fun _ _ _=>rfl) fun k _ hk e=>by
  have:=(hO.1.lt k e.symm).2;omega
 have hsz:arr.size=ds.length*13:=by rw[<-bP,ha,uQ]
 exact⟨w3,h3,au b1 b13,hO.below b13,yS (B:=0) (by
  have:=qO (B:=0) (n:=ds.length) (m:=13) n3 (dF _) hsz (by unfold maxLen;omega);rwa[ha]at this) (fun q hq=>(hR' q hq).here) (by omega),hR'⟩
theorem CL {day:Int}: ∀(l:List Ap) (i:Nat),(∀x∈l,x.st≠3/\x.day=day/\0∈x.who)->ld 0 day (-1) l i=l.map fun x=>(x.fr,x.to)
 |[],_,_=>rfl
 |x::l,i,h=>by
  obtain⟨h1,h2,h3⟩:=h x bf;unfold ld;rw[ay ⟨by omega,h1,h2,h3⟩,CL l (i+1) fun y hy=>h y (bp _ hy)];rfl
def kU (a len:Int)(k:Nat):List Ap:=(List.range k).map fun(j:Nat)=>apX len 9 (a+(j:Int)*len)
theorem Lf (a len:Int)(k:Nat):(kU a len k).length=k:=by simp[kU]
theorem AI (a len:Int)(k:Nat):kU a len (k+1)=kU a len k++[apX len 9 (a+(k:Int)*len)]:=by
 unfold kU;rw[List.range_succ,dr];rfl
theorem tW (k:Nat)(len:Int):((k+1:Nat):Int)*len=(k:Int)*len+len:=by
 rw[Int.natCast_succ,Int.add_mul,Int.one_mul]
theorem qy (k:Nat){len:Int}(h:0<=len):0<=(k:Int)*len:=Int.mul_nonneg (by omega) h
theorem qQ {j k:Nat}(hj:j<=k){len:Int}(h:0<=len):(j:Int)*len<=(k:Int)*len:=Int.mul_le_mul_of_nonneg_right (by omega) h
theorem CM {a len:Int}(hl:1<=len): ∀(k i:Nat),i<1440->inl ((kU a len k).map fun x=>(x.fr,x.to)) i=decide (a<=(i:Int)/\(i:Int)<a+(k:Int)*len)
 |0,i,_=>by
  have: ¬(a<=(i:Int)/\(i:Int)<a+((0:Nat):Int)*len):=(by omega);rw[bh this];rfl
 |k+1,i,hi=>by
  have ih:=CM (a:=a) hl k i hi;have hp:=qy k (by omega:0<=len);unfold inl at ih⊢;rw[AI,dr,List.any_append,ih,tW];generalize (k:Int)*len=t at*;show(decide (a<=(i:Int)/\(i:Int)<a+t)||((decide (a+t<=(i:Int))&&decide ((i:Int)<a+t+len)&&decide (i<1440))||false))=_;rw[Bool.eq_iff_iff];simp only[gc,bn,bz,Bool.or_false];omega
theorem I9 {a b len:Int}(hab:0<=a/\a<b/\b<=1440)(k:Nat):fS (c1 (oL a b) len (kU a len k)) 0 9 (-1)=mV (fM a b) (inl ((kU a len k).map fun x=>(x.fr,x.to))):=by
 have hM:mS (c1 (oL a b) len (kU a len k)) 0 9=fM a b:=by
  show(if atP5 (oL a b) [97]<0 then noM else fT (oL a b) (wkB 9) 9 (atP5 (oL a b) [97]).toNat)=_;rw[show atP5 (oL a b) [97]=0 from rfl];exact(aw (by decide)).trans (IX hab _ _)
 unfold fS;rw[hM];congr 2;refine CL _ 0 fun x hx=> ?_;unfold kU at hx;obtain⟨j,_,rfl⟩:=du.1 hx;exact⟨by show(1:Int)≠3;decide,rfl,by show(0:Int)∈[0];simp⟩
theorem uU {a b len m:Int}(hab:0<=a/\a<b/\b<=1440)(hl:1<=len)(k:Nat):SP (fS (c1 (oL a b) len (kU a len k)) 0 9 (-1)) len m↔a+(k:Int)*len<=m/\m+len<=b:=by
 have hp:=qy k (by omega:0<=len)
 have hv: ∀i:Nat,i<1440->(mV (fM a b) (inl ((kU a len k).map fun x=>(x.fr,x.to))) i=true↔a+(k:Int)*len<=(i:Int)/\(i:Int)<b):=fun i hi=>by
  unfold mV fM;rw[CM hl k i hi];simp only[bn,bz,Bool.not_eq_true',decide_eq_false_iff_not];omega
 rw[I9 hab];generalize (k:Int)*len=t at*;constructor
 ·rintro⟨p,q,r⟩;have h1:=(hv _ (by omega)).1 (r m.toNat (by omega) (by omega));have h2:=(hv _ (by omega)).1 (r (m+len-1).toNat (by omega) (by omega));omega
 ·rintro⟨p,q⟩;exact⟨by omega,by omega,fun i h1 h2=>(hv i (by omega)).2 (by omega)⟩
theorem Ja {a b len:Int}(hab:0<=a/\a<b/\b<=1440)(hl:1<=len/\len<=1440)(k:Nat):(oz (c1 (oL a b) len (kU a len k)) 0 9 1).1=if a+(k:Int)*len+len<=b then⟨0,0,9,a+(k:Int)*len,[0],[]⟩ else noA 11:=by
 have e9:(9:Int)+((0:Nat):Int)=9:=rfl;rcases(Az (oL a b) (kU a len k) hl (day:=9) (days:=1) (by decide) (by decide) (by decide)).2 with⟨d,m,hd,e,e1,e2,_⟩|⟨e,e1⟩
 ·have:d=0:=by omega
  subst this;rw[e9]at e1 e2;rw[uU hab hl.1]at e1;have e3:=e2 (a+(k:Int)*len);rw[uU hab hl.1]at e3;refine e.trans ?_;rw[ay (by omega)];have:m=a+(k:Int)*len:=(by have:=e3 (by omega);omega);rw[this];rfl
 ·have e2:=e1 0 (by omega) (a+(k:Int)*len);rw[e9,uU hab hl.1]at e2;rw[aw (by omega)];exact e
def o6 (a len:Int)(k:Nat):List Cm:=(List.range k).map fun(j:Nat)=>cHd 9 (a+(j:Int)*len) [0]
theorem AK (a len:Int)(k:Nat):o6 a len (k+1)=o6 a len k++[cHd 9 (a+(k:Int)*len) [0]]:=by
 unfold o6;rw[List.range_succ,dr];rfl
theorem wo (a len:Int)(k:Nat):(o6 a len k).length=k:=by simp[o6]
theorem AL {a b len:Int}(hab:0<=a/\a<b/\b<=1440)(hl:1<=len): ∀k:Nat,k<=30->a+(k:Int)*len<=b->(jj (c1 (oL a b) len []) (o6 a len k)).2=c1 (oL a b) len (kU a len k)
 |0,_,_=>rfl
 |k+1,hk,hb=>by
  rw[tW]at hb;have hp:=qy k (by omega:0<=len);have ih:=AL hab hl k (by omega) (by omega);rw[AK,oR,ih];have hsp:=(uU (m:=a+(k:Int)*len) hab hl k).2 (by omega);have hh:gu (fS (c1 (oL a b) len (kU a len k)) 0 9 (-1)) (a+(k:Int)*len) (a+(k:Int)*len+len)=true:=Au _ _ _|>.2 ⟨hsp.1,hsp.2.1,by omega,hsp.2.2⟩;have e:=PS (L:=oL a b) (len:=len) (aps:=kU a len k) (day:=9) (m:=a+(k:Int)*len) (by omega) (by decide) (by omega) (by rw[Lf];omega);rw[ay hh,<-AI]at e;show(doS (c1 (oL a b) len (kU a len k)) (cHd 9 (a+(k:Int)*len) [0])).2=_;rw[e]
theorem Dt (W:World):(Instr.buildSlice 30 0 #[]).run prog W= .ok (.slice (some (ae W.heap.size 0)) 0 0) (W.alloc (.cells #[] 37)):=by kernel_rfl
theorem Ej {w0 w4:World}{v:Value}{cs:List (Cm×Value×Value)}(hO:kT w0.heap.size w4 v cs)(hb:ao w0 w4)(hT:Tbs w0.heap.size w0)(h0:0<cs.length)(h60:cs.length<=60)(hok: ∀q∈cs,wf q.1){A:An}(hA:(eZ dk0 (cs.map fun q=>q.1)).1[cs.length-1]? =some A):Calls prog 11 #[v] w4 fun e w'=> ∃(wv:Value) (q:Option Addr) (m:Nat),e= .returned (.agg (anC A wv (.slice q A.list.length m)))/\mn w4.heap.size w' wv A.who/\ao w4 w':=by
 refine(CF _ v w4 (hO.row (by omega)) h0 h60 (fun W hW=>hT W (au hb hW)) hok).mono ?_;rintro e w' ⟨a,wv,lv,h1,rfl,h2,⟨q,m,rfl,_⟩,h4⟩;rw[a8,hA]at h1;cases aK h1;exact⟨wv,q,m,rfl,h2,h4⟩
theorem Lg {w w1:World}(h:w.alloc (.cells #[] 37)=w1):kT w.heap.size w1 (.slice (some (ae w.heap.size 0)) 0 0) []/\ao w w1:=by
 subst h;exact⟨⟨qO (n:=0) (aC _ _) (aA _) rfl (by decide),fun q hq=>by cases hq⟩,am _ _⟩
theorem Lh {B:Nat}{w w1:World}{v:Value}{cs:List (Cm×Value×Value)}(h:kT B w v cs)(hb:ao w w1): ∀q∈cs,Rob (fun k=>some k≠(Value.slice (some (ae w.heap.size 0)) 0 0).ownBlock) (fun u=>la u q.1 q.2.1 q.2.2) w1:=fun q hq=>(h.2 q hq).move hb.size (fun k _ hl=>hb.block k hl) fun k hl _ e=>by
 have:k=w.heap.size:=aK e;omega
theorem Jb {w5 wC:World}{wv:Value}{who:List Int}(kd n x y:Int)(h:mn w5.heap.size wC wv who):Rob (fun k=>w5.heap.size<=k) (fun u=>la u ⟨kd,n,0,0,[],[],sv0,x,y,who⟩ (af) wv) wC:=fun u _ ha=>by
 obtain⟨⟨p,c,e,hl,hc⟩,h2,h3⟩:=h;refine⟨Ef,⟨p,c,e,hl,fun j m hj=> ?_⟩,dF _,dF _,h2⟩;obtain⟨g,o,hp,hcc⟩:=hc j m hj;have hg:w5.heap.size<=g:=h3 g (by rw[e,hp];rfl);exact⟨g,o,hp,(dK (ha g hg (bT hcc))).trans hcc⟩
theorem Li {t:List UInt8}{a b len:Int}(hab:0<=a/\a<b/\b<=1440)(ht:fE t=(0,oL a b))(hl:1<=len/\len<=1440)(k:Nat)(hk:k<=30)(hb:a+(k:Int)*len<=b):(eZ dk0 ([cR t,cAd,cS (sv1 len)]++o6 a len k++[cF 0 9 1])).1[3+k]? =some (if a+(k:Int)*len+len<=b then⟨0,0,9,a+(k:Int)*len,[0],[]⟩ else noA 11):=by
 rw[(Cw _).1,oR,oR,CC ht (by show(0:Int)<=0;decide) hl,dG (by
  show _<=_;rw[aN,qP,wo];show 3+k<=3+k;omega)]
 dsimp only;rw[AL hab hl.1 k hk hb,aN,qP,wo];show([(oz (c1 (oL a b) len (kU a len k)) 0 9 1).1]:List An)[3+k-(3+k)]? =_;rw[iu,Ja hab hl];rfl
theorem Ek {t:List UInt8}{a len x y z:Int}{k:Nat}{rv:Value}{cs:List (Cm×Value×Value)}(hcs:cs.map (fun q=>q.1)=o6 a len k): ∀q∈oC t len rv++cs++[((cF x y z,af,af):Cm×Value×Value)],wf q.1:=fun q hq=>OR _ (by
 rw[bO,bO]at hq;rcases hq with(hq|hq)|hq
 ·simp only[oC,bo,List.not_mem_nil,or_false]at hq;rcases hq with rfl|rfl|rfl
  ·exact .inl rfl
  ·exact .inr (.inl rfl)
  ·exact .inr (.inr (.inl rfl))
 ·have:q.1∈o6 a len k:=by rw[<-hcs];exact du.2 ⟨q,hq,rfl⟩
  unfold o6 at this;obtain⟨j,_,e⟩:=du.1 this;rw[<-e];exact .inr (.inr (.inr (.inr rfl)))
 ·cases bK.1 hq;exact .inr (.inr (.inr (.inl rfl))))
theorem Jc (wv lv:Value)(W:World):(Instr.field 28 (.agg #[ag 11,ag 0,ag 0,ag 0,wv,lv]) 0).run prog W= .ok (ag 11) W:=by kernel_rfl
theorem F4 (a n len:Int)(w:World)(hT:Tbs w.heap.size w):Calls prog 4 #[ag a,ag n,ag len] w fun e w'=>e= .returned (.bool true)/\ao w w':=by
 have c1:=I2 w hT;have HT:=aD hT;clear hT;go_enter func4,ntmps4;go_wp2_with fail;refine c1.mono ?_;rintro e w1 ⟨rfl,b1⟩;clear c1;have HB1:=aD b1;clear b1;have H:(a<0)\/(¬a<0/\n<1)\/(¬a<0/\ ¬n<1/\15<n)\/(¬a<0/\ ¬n<1/\ ¬15<n/\len<1)\/(¬a<0/\ ¬n<1/\ ¬15<n/\ ¬len<1/\60<len)\/(¬a<0/\ ¬n<1/\ ¬15<n/\ ¬len<1/\ ¬60<len/\400<a)\/(¬a<0/\ ¬n<1/\ ¬15<n/\ ¬len<1/\ ¬60<len/\ ¬400<a):=by omega
 rcases H with g0|⟨g0,g1⟩|⟨g0,g1,g2⟩|⟨g0,g1,g2,g3⟩|⟨g0,g1,g2,g3,g4⟩|⟨g0,g1,g2,g3,g4,g5⟩|⟨g0,g1,g2,g3,g4,g5⟩;rotate_left 6
 ·obtain⟨N,hN⟩: ∃N:Nat,n=(N:Int):=⟨n.toNat,by omega⟩
  subst hN;have hNl:=qQ (show N<=15 by omega) (show 0<=len by omega);have hN0:=qy N (show 0<=len by omega);obtain⟨tN,htN⟩:=aq ((N:Int)*len);have hN1:=qQ (show 1<=N by omega) (show 0<=len by omega);rw[htN]at hNl hN0 hN1;have hw1:IntKind.i64.wrap tN=tN:=(by rw[bq];omega);have hw2:IntKind.i64.wrap (a+tN)=a+tN:=(by rw[bq];omega);obtain⟨b,hbb⟩:=aq (a+tN+len/2);have hw3:IntKind.i64.wrap (a+tN+len/2)=b:=(by rw[bq];omega);have hab:0<=a/\a<b/\b<=1440:=(by omega);have cA:=vu a (by omega) (by omega) w1;have cB:=vu b (by omega) (by omega) w1;have cO:=Nm (hoT a b) len w1 (by rw[Ei];decide);have hTe:hoT a b=kH++32::([97]++32::61::32::(clockL a++45::(clockL b++[59]))):=rfl;have l1:(clockL a).length=5:=rfl;have l2:(clockL b).length=5:=rfl;generalize clockL a=PA at*;generalize clockL b=PB at*;have hcX:fE (hoT a b)=(0,oL a b):=O5 hab;generalize hoT a b=X at*;have HCX:=aD hcX;clear hcX;go_wp2_with fail;refine cA.mono ?_;rintro e w' ⟨rfl,hw'⟩;replace hw':=hw'.symm;subst hw';clear cA;go_wp2_with fail;refine cB.mono ?_;rintro e w' ⟨rfl,hw'⟩;replace hw':=hw'.symm;subst hw';clear cB;go_wp2_with fail;refine(cO _ (by rw[hTe];simp[kH])).mono ?_;rintro e w2 ⟨v,rv,rfl,b2,ho⟩;clear cO hTe l1 l2;have HO:=aD ho;have HB2:=aD b2;have HAB:=aD hab;have HTN:=aD htN;have HNL:=aD hNl;have HBB:=aD hbb;obtain⟨p,k,hv⟩:=c8 ho.1;rw[show(oC X len rv).length=3 from rfl]at hv;subst hv;clear ho b2 hab htN hNl hN0 hN1 hbb hw1 hw2 hw3;go_wp2_with fail;go_loopw [6,8,9,10,54] (fun _ v _ _ q wr=> ∃(j:Nat) (cs:List (Cm×Value×Value)),q=ag (j:Int)/\j<=N/\kT w1.heap.size wr v (oC X len rv++cs)/\cs.map (fun q=>q.1)=o6 a len j/\ao w1 wr) (fun _ _ _ _ q _=>N-(intOf q).toNat);case atStart=>exact⟨0,[],rfl,dF _,by rw[gg];exact HO.o,rfl,HB2.o⟩
  case round=>
   obtain⟨j,cs,rfl,hj,ho,hcs,hbr⟩:=hrel;have hj0:(0:Int)<=(j:Int):=(by omega)
   have hcl:cs.length=j:=by
    have:=congrArg List.length hcs;rw[a8,wo]at this;exact this
   have hll:(oC X len rv++cs).length=3+j:=(by rw[aN,hcl];rfl);have hN15:N<=15:=(by omega);have hjl:=qQ hj (show 0<=len by omega);have hjp:=qy j (show 0<=len by omega);have hTN:=HTN.o;have hNL:=HNL.o;have hBB:=HBB.o;have hAns:=Li HAB.o (t:=X) (a:=a) (b:=b) (len:=len) HCX.o (by omega) j (by omega) (by rw[hTN]at hjl;omega)
   have hmap:(oC X len rv++cs++[((cF 0 9 1,af,af):Cm×Value×Value)]).map (fun q=>q.1)=[cR X,cAd,cS (sv1 len)]++o6 a len j++[cF 0 9 1]:=by
    rw[dr,dr,hcs];rfl
   rw[<-hmap]at hAns
   have hidx:3+j=(oC X len rv++cs++[((cF 0 9 1,af,af):Cm×Value×Value)]).length-1:=by
    rw[aN,hll];rfl
   rw[hidx]at hAns;obtain⟨p,k,hv⟩:=c8 ho.1;rw[hll]at hv;subst hv;have HOr:=aD ho;have HBR:=aD hbr;have HCS:=aD hcs;have HLL:=aD hll;have HMAP:=aD hmap;by_cases hlt:j<N
   ·have hlt':(j:Int)<(N:Int):=(by omega);have hjs:=qQ (show j+1<=N from hlt) (show 0<=len by omega);rw[tW,hTN]at hjs;obtain⟨tj,htj⟩:=aq ((j:Int)*len);rw[htj]at hjs hjp hAns;have hw1:IntKind.i64.wrap ((j:Int)*len)=tj:=(by rw[htj,bq];omega);have hw2:IntKind.i64.wrap (a+tj)=a+tj:=(by rw[bq];omega);rw[ay (by omega)]at hAns;have HANS:=aD hAns;have HTJ:=aD htj;obtain⟨wE,hE⟩:=aq (wr.alloc (.cells #[] 37));have hbn:=fun W=>Dt W;obtain⟨oE,bE⟩:=Lg hE;have HOE:=aD oE;have HBE:=aD bE;have HRE:=aD (Lh HOr.o bE);have HXE:=aD ((HOr.o.below bE).row (by omega));clear ho hcs hbr hll hmap hAns hidx oE bE hTN hNL hBB htj hjl;go_wp2_with(refine lF rfl _ _ rfl rfl HOE.o rfl HXE.o (by rw[HLL.o];omega) HRE.o (by rw[HLL.o];show 0+(3+j)<=100000;omega) HBE.o.size ?_;intro v' w3 hO3 b3 _)
    rw[List.nil_append]at hO3;have HO3:=aD hO3;have HB3:=aD (HBE.o.trans (b3.mono (aA _)));clear hO3 b3 HOE HBE HRE HXE hE;obtain⟨p3,k3,hv3⟩:=c8 HO3.o.1;rw[HLL.o]at hv3;subst hv3;have c2:=tT 0 9 1 w3;go_wp2_with fail;refine c2.mono ?_;rintro e w4 ⟨rfl,b4⟩;clear c2;obtain⟨w5,h5,b5,o5,x5,r5⟩:=wl HO3.o HB3.o b4 0 9 1;have HB5:=aD b5;have HO5:=aD o5;have HX:=aD x5;have HR:=aD r5;clear b5 o5 x5 r5 b4 HO3 HB3;dsimp only[doC]at h5⊢;have hp5:0<[((cF 0 9 1,af,af):Cm×Value×Value)].length:=Nat.one_pos
    have hn5:(oC X len rv++cs).length+[((cF 0 9 1,af,af):Cm×Value×Value)].length<=100000:=by
     rw[HLL.o];show 3+j+1<=100000;omega
    go_wp2_with(refine lF rfl _ _ rfl rfl HO5.o rfl HX.o hp5 HR.o hn5 HB5.o.size ?_;intro v6 w6 hO6 b6 _)
    clear hp5 hn5;have hb6:=HB5.o.trans b6;have hTr:Tbs wr.heap.size wr:=fun W hW=>HT.o W (HB1.o.trans ((au HBR.o hW).mono HB1.o.size));have c3:=Ej hO6 hb6 hTr (by rw[aN,HLL.o];omega) (by rw[aN,HLL.o];show 3+j+1<=60;omega) (Ek HCS.o) HANS.o;have HB6:=aD hb6;clear hO6 hb6 b6 HB5 HO5 HX HR hTr HANS;refine c3.mono ?_;clear c3;rintro e w7 ⟨wv,q7,k7,rfl,hwv,b7⟩;obtain⟨wZ,wC,hZ,nZ,hC,bC,nC⟩:=nbs w7 #[ag 0,ag 0,ag 0,ag 0,af,af] #[ag 0,ag 0,ag 9,ag (a+tj),wv,.slice q7 0 k7] 28;have z0:=cr 0 nC rfl;have z3:=cr 3 nC rfl;have b67:=au b7 bC;have hwC:mn w6.heap.size wC wv [0]:=⟨hwv.1.below bC,hwv.2⟩
    obtain⟨⟨pw,kw,ew,_,_⟩,_⟩:=id hwC;replace ew:wv= .slice pw 1 kw:=ew;subst ew
    have rC:wC.rangeAt w7.heap.size 2 [ag 9,ag (a+tj),.slice pw 1 kw]:=fun i u hi=>by
     match i,hi with
     |0,hi=>cases hi;exact cr 2 nC rfl
     |1,hi=>cases hi;exact cr 3 nC rfl
     |2,hi=>cases hi;exact cr 4 nC rfl
     |i+3,hi=>simp at hi
    obtain⟨w8,h8,b8,o8,x8,r8⟩:=Nt (HOr.o.below HB6.o) (au HBR.o HB6.o) b67 [(cHd 9 (a+tj) [0],af,.slice pw 1 kw)] #[ag 5,ag 0,ag 0,ag 0,.string ⟨#[]⟩,.string ⟨#[]⟩,ag 0,ag 0,ag 0,af,ag 9,ag (a+tj),.slice pw 1 kw] rfl (show 1<=60 by decide) (fun q hq=>by
     cases bK.1 hq;exact Jb 5 0 9 (a+tj) hwC)
    have HB8:=aD b8;have HO8:=aD o8;have HX8:Qo (mY w8 (.slice (some (ae wC.heap.size 0)) 1 1) [((cHd 9 (a+tj) [0],af,.slice pw 1 kw):Cm×Value×Value)]):=aD x8;have HR8:=aD r8;have hp8:0<[((cHd 9 (a+tj) [0],af,.slice pw 1 kw):Cm×Value×Value)].length:=Nat.one_pos
    have hn8:(oC X len rv++cs).length+[((cHd 9 (a+tj) [0],af,.slice pw 1 kw):Cm×Value×Value)].length<=100000:=by
     rw[HLL.o];show 3+j+1<=100000;omega
    clear b8 o8 x8 r8 b67 b7 bC hwC hwv nC HB6 HOr;dsimp only[anC,List.length];go_wp2_with(first|(refine az rfl 28 _ _ rfl _ _ rfl rfl _ _ nZ (by kernel_rfl) rfl (by simp[Value.oneCell']) ?_;rw[hC])|(refine wpList_load_mid rfl 26 _ rfl w7.heap.size 2 rfl [ag 9,ag (a+tj),.slice pw 1 kw] _ rC Qj rfl (by kernel_rfl) ?_)|(refine lF rfl _ _ rfl rfl HO8.o rfl HX8.o hp8 HR8.o hn8 HB8.o.size ?_;intro v9 w9 hO9 b9 _))
    have HB9:=aD (HB8.o.trans b9);clear b9;go_roundw;case rel=>exact⟨j+1,cs++[((cHd 9 (a+tj) [0],af,.slice pw 1 kw):Cm×Value×Value)],by go_num,by omega,by rw[<-di];exact hO9,by rw[dr,HCS.o,AK,HTJ.o];rfl,HB9.o⟩
    case measure=>simp[intOf];omega
   ·have hlt': ¬(j:Int)<(N:Int):=(by omega);have hjN:j=N:=(by omega);subst hjN;rw[hTN,aw (by omega)]at hAns;have HANS:=aD hAns;have c2:=tT 0 9 1 wr;clear ho hcs hbr hll hmap hAns hidx hTN hNL hBB hjl hjp;go_wp2_with fail;refine c2.mono ?_;rintro e w4 ⟨rfl,b4⟩;clear c2;obtain⟨w5,h5,b5,o5,x5,r5⟩:=wl HOr.o HBR.o b4 0 9 1;have HB5:=aD b5;have HO5:=aD o5;have HX:=aD x5;have HR:=aD r5;clear b5 o5 x5 r5 b4;have hp5:0<[((cF 0 9 1,af,af):Cm×Value×Value)].length:=Nat.one_pos
    have hn5:(oC X len rv++cs).length+[((cF 0 9 1,af,af):Cm×Value×Value)].length<=100000:=by
     rw[HLL.o];show 3+j+1<=100000;omega
    dsimp only[doC]at h5⊢;go_wp2_with(refine lF rfl _ _ rfl rfl HO5.o rfl HX.o hp5 HR.o hn5 HB5.o.size ?_;intro v6 w6 hO6 b6 _)
    have hb6:=HB5.o.trans b6;have hTr:Tbs w1.heap.size w1:=fun W hW=>HT.o W (au HB1.o hW);have c3:=Ej hO6 hb6 hTr (by rw[aN,HLL.o];omega) (by rw[aN,HLL.o];show 3+j+1<=60;omega) (Ek HCS.o) HANS.o;have HB6:=aD (au HB1.o hb6);clear hO6 hb6 b6 HB5 HO5 HX HR hTr HANS hp5 hn5;refine c3.mono ?_;clear c3;rintro e w7 ⟨wv,q7,k7,rfl,_,b7⟩;have HB7:=aD (au HB6.o b7);clear b7;have hF:=fun W=>Jc wv (.slice q7 0 k7) W;dsimp only[anC,noA,List.length];go_wp2_with fail;go_ret;exact⟨rfl,HB7.o⟩
 all_goals
  go_wp2_with fail
  go_ret
  exact⟨rfl,HB1.o⟩
section
open Go.ChangeShapes Go.WideShapes Go.ChangeAt Go.WideMaps Go.WideElems Go.Joins
abbrev uV:List (String×DataW Unit):=Rows.topHoursRow.laid
def LC:String:=(Rows.topHoursRow.laid.getD 1 default).1
def O7:String:=(Rows.topHoursRow.laid.getD 3 default).1
def Qk:String:=(Rows.topHoursRow.laid.getD 4 default).1
def qR:List Int:=Lib.deBruijn64tab.map fun(n:Nat)=>(n:Int)
theorem Ql:ownKnob prog.godebug=none:=by kernel_rfl
theorem Jd:prog.globalNamed LC=some 4:=by kernel_rfl
theorem O8:(prog.globals[4]?).map (·.type)=some 260:=by kernel_rfl
theorem LD:prog.globalNamed O7=some 1:=by kernel_rfl
theorem PT:(prog.globals[1]?).map (·.type)=some 226:=by kernel_rfl
theorem LE:prog.globalNamed Qk=some 5:=by kernel_rfl
theorem PU:(prog.globals[5]?).map (·.type)=some 281:=by kernel_rfl
theorem cIK:prog.cellsOf 3=1:=by kernel_rfl
theorem cBK:prog.cellsOf 5=1:=by kernel_rfl
theorem cTK:prog.cellsOf 260=64:=by kernel_rfl
theorem cLK:prog.cellsOf 226=12:=by kernel_rfl
theorem cSK:prog.cellsOf 9=1:=by kernel_rfl
theorem cDK:prog.cellsOf 281=7:=by kernel_rfl
theorem Je (os:Os)(args:Array Value):laidMetH prog uV ((World.doorLaid prog 400 os).forCall (fun _ _=>0) ⟨#[],args,[]⟩).memory:=
 laidMetH_of_parts3 (fuel:=8) (laidMet_of_run' 8 (by kernel_rfl) (by kernel_rfl)) (by kernel_rfl) (by kernel_rfl)
theorem Jf {H:Type}{enc:TypeId×Value->H}{P:Program}{w:World}{base:Nat}{sp:Nat->Bool}{held:Bool}{t e:TypeId}{n:Nat}{cs:List Value}{zs:List (List UInt8)}{p:List MemPlace}(ht:P.underlying t=some (.array n e))(he:P.underlying e=some .string)(hce:P.cellsOf e=1)(hct:P.cellsOf t=n):
  ∀fuel,DataW.trod enc P w base sp held fuel t cs=some (.agg (zs.map fun z=> .lit (.string z)),p)-> ∀(i:Nat) (z:List UInt8),zs[i]? =some z->cs[i]? =some (.string ⟨z.toArray⟩)
 |0,h,_,_,_=>by simp[DataW.trod]at h
 |fuel+1,h,i,z,hz=>by
  simp only[DataW.trod,ht,hce,hct,Nat.mul_one]at h;split at h
  ·obtain⟨xs,hm,hx⟩:=eN.1 h;have h1:xs.map (fun x=>x.1)=zs.map fun z=>(DataW.lit (.string z):DataW H):=(by simpa using congrArg Prod.fst hx);have h2:(xs.map fun x=>x.1)[i]? =some (DataW.lit (.string z):DataW H):=(by rw[h1,bg,hz];rfl);rw[bg]at h2;obtain⟨x,hx1,hx2⟩:=eN.1 h2
   have hin:i<n:=by
    have a:=(aE.1 hx1).1;have b:=Lib.mapM_length hm;simp at b;omega
   obtain⟨b,hb,hf⟩:=Lib.mapM_at hm i i (by simp[hin]);obtain⟨s,hc,rfl,_⟩:=DataW.trod_string he hf;rw[hb]at hx1;obtain rfl:=aK hx1;have hs:s.data.toList=z:=(by simpa using hx2);have h3:=congrArg (fun l:List Value=>l[0]?) hc;have h4:cs[i]? =some (.string s):=(by simpa[iZ,List.getElem?_drop] using h3);rw[h4,<-hs]
  ·cases h
theorem AQ {W:World}(h:laidMetH prog uV W):Tab W/\fX W/\pQ W:=by
 rw[MakeChecks.laidMetH_plain _ _ _ (by kernel_rfl)]at h;obtain⟨ps,⟨_,_,_,_,_,_,_,_,_,_,⟨g1,t1,cs1,fuel1,p1,q1,hg1,ht1,hv1,hd1,⟨_,_,_,_,_,_,_,_,_,_,⟨g2,t2,cs2,fuel2,p2,q2,hg2,ht2,hv2,hd2,⟨g3,t3,cs3,fuel3,p3,q3,hg3,ht3,hv3,hd3,_,_⟩,_⟩,_⟩,_⟩,_⟩,_⟩:=h;obtain rfl:=aK (Jd.symm.trans hg1);obtain rfl:=aK (O8.symm.trans ht1);obtain rfl:=aK (LD.symm.trans hg2);obtain rfl:=aK (PT.symm.trans ht2);obtain rfl:=aK (LE.symm.trans hg3);obtain rfl:=aK (PU.symm.trans ht3);refine⟨?_,?_,?_⟩
 ·have e1:=Lib.cells_of_tab (zs:=qR) underlying260 underlying5 cBK cTK hd1
  have t:Lib.TabIs prog W LC .u8 qR:=by
   unfold Lib.TabIs;rw[<-e1];exact hv1
  intro i hi;have:=t.cell Jd i (by simpa[qR,Lib.deBruijn64tab] using hi);rw[this];have hl:i<Lib.deBruijn64tab.length:=(by simpa[Lib.deBruijn64tab] using hi);simp[qR,List.getD,hl]
 ·have e2:=Lib.cells_of_tab (zs:=tab) underlying226 underlying3 cIK cLK hd2
  have t:Lib.TabIs prog W O7 .i64 tab:=by
   unfold Lib.TabIs;rw[<-e2];exact hv2
  intro i hi;exact t.cell LD i (by simpa[tab] using hi)
 ·intro j hj
  have hz:eO[j]? =some (eO.getD j []):=by
   rw[dW,ax (by exact hj)];rfl
  have hc:=Jf (zs:=eO) underlying281 underlying9 cSK cDK fuel3 hd3 j _ hz;have:=World.var?_cell LE hv3 j;rw[this];simpa using hc
theorem CN {W:World}(h:laidMetH prog uV W):Tbs W.heap.size W:=fun W' hb=>by
 obtain⟨a,b,c⟩:=AQ h;exact⟨fun i hi=>(hb.cell (bT (b i hi))).trans (b i hi),fun i hi=>(hb.cell (bT (c i hi))).trans (c i hi),fun i hi=>(hb.cell (bT (a i hi))).trans (a i hi)⟩
end
end Go.Proofs.YtjkilacmkbmmbaaGreatDoor
