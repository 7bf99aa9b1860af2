/- Texts of the proof. -/
import Derived.Test.YtkfidffapdhbhaaGreatDoorPh02
set_option maxRecDepth 100000
set_option maxHeartbeats 8000000
namespace Go.Proofs.YtkfidffapdhbhaaGreatDoor
open Go.Proofs.Tryz Go.RowKit Lx Vx Mx Msk
section
theorem GR (f:Nat->Bool)(x y:Nat)(h1:x<=y):
  bits .or .u64 (wd f (x/64):Int) (IntKind.u64.wrap (((2^(y-x)-1:Nat):Int)*2^(x%64)))=((wd (fun i=>f i||(decide (x<=i)&&decide (i<y))) (x/64):Nat):Int):=by
 have e:IntKind.u64.wrap (((2^(y-x)-1:Nat):Int)*2^(x%64))=((wd (fun i=>decide (x<=i)&&decide (i<y)) (x/64):Nat):Int):=by
  have e1:wd (fun i=>decide (x<=i)&&decide (i<y)) (x/64)=(2^(y-x)-1)*2^(x%64)%18446744073709551616:=by
   symm;refine mO _ _ _ (Nat.mod_lt _ (by omega)) fun j hj=> ?_;rw[yh _ _ j hj,AL];have q1:(x%64<=j)=(x<=64*(x/64)+j):=(by apply propext;omega);by_cases hr:x%64<=j
   ·have q2:(j-x%64<y-x)=(64*(x/64)+j<y):=(by apply propext;omega);simp only[q1,q2]
   ·have q3: ¬x<=64*(x/64)+j:=(by omega);simp[hr,q3]
  rw[gQ,e1];have:((2:Int)^(x%64))=((2^(x%64):Nat):Int):=(by simp);rw[this];omega
 rw[e,bits_or_u64_nat _ _ (gZ _ _) (gZ _ _),AB]
theorem Lw (f:Nat->Bool)(x y:Nat)(h1:x<=y)(h2:y<=64*(x/64)+64)(hx:x<1472):
  (mv f).setIfInBounds (x/64) (.int .u64 (bits .or .u64 (wd f (x/64):Int) (IntKind.u64.wrap (((2^(y-x)-1:Nat):Int)*2^(x%64)))))=mv fun i=>f i||(decide (x<=i)&&decide (i<y)):=by
 rw[GR f x y h1,AM _ _ _ (by omega)];refine jf fun i hi=> ?_;by_cases h:i/64=x/64
 ·rw[aD h]
 ·rw[ax h];by_cases q:x<=i
  ·have: ¬i<y:=(by omega);simp[this]
  ·simp[q]
theorem EL (f:Nat->Bool)(x v:Int)(h:v=max x 0):mv f=mv fun i=>f i||(decide (x<=(i:Int))&&decide ((i:Int)<v)):=jf fun i _=>by
 have: ¬(x<=(i:Int)/\(i:Int)<v):=by omega
 by_cases h1:x<=(i:Int)
 ·have: ¬(i:Int)<v:=by omega
  simp[this]
 ·simp[h1]
theorem GS (f:Nat->Bool)(x:Int)(k n:Nat)(h0:x<=k)(hk:k<=n):(mv fun i=>(f i||(decide (x<=(i:Int))&&decide ((i:Int)<(k:Int))))||(decide (k<=i)&&decide (i<n)))=mv fun i=>f i||(decide (x<=(i:Int))&&decide ((i:Int)<(n:Int))):=jf fun i _=>by
 by_cases h1:i<k
 ·have h2: ¬k<=i:=by omega
  have h3:(i:Int)<k:=(by omega);have h4:(i:Int)<n:=(by omega);simp[h2,h3,h4]
 ·have h2:k<=i:=by omega
  have h3: ¬(i:Int)<k:=(by omega);have h4:((i:Int)<n)=(i<n):=(by apply propext;omega);have h5:x<=(i:Int):=(by omega);simp[h2,h3,h5]
theorem vG (f:Nat->Bool)(x:Int)(k n q r:Nat)(h0:x<=k)(h1:k<=n)(h2:n<=64*(k/64)+64)(hx:k<1472)(hq:q=k/64)(hr:r=k%64)(d:Nat)(hd:d=n-k)
  (F:Nat->Bool) (hF:F=fun i=>f i||(decide (x<=(i:Int))&&decide ((i:Int)<(k:Int)))):
  (mv F).setIfInBounds q (.int .u64 (bits .or .u64 (wd F q:Int) (IntKind.u64.wrap (((2^d-1:Nat):Int)*2^r))))=mv fun i=>f i||(decide (x<=(i:Int))&&decide ((i:Int)<(n:Int))):=by
 subst hq hr hd;rw[Lw F k n h1 h2 hx,hF];exact GS f x k n h0 h1
theorem Jz (f:Nat->Bool)(x y v:Int)(h1:v=max x 0\/(v<=y/\v<=1440))(h2:y<=v\/1440<=v):(mv fun i=>f i||(decide (x<=(i:Int))&&decide ((i:Int)<v)))=mv fun i=>f i||(decide (x<=(i:Int))&&decide ((i:Int)<y)&&decide (i<1440)):=jf fun i _=>by
 congr 1;rw[Bool.eq_iff_iff];simp only[bx,cg];omega
attribute [local go_sem↓] Go.wp_at_zero Go.wp_at_succ
theorem JA (f:Nat->Bool)(g:Nat)(x y:Int)(w:World)(hg:w.heap[g]? =ah (mv f) 86):
  Calls prog 83 #[ab g 0,.agg #[ag x,ag y]] w fun e w'=>e= .returned (.tuple #[])/\
   w'.heap[g]? =ah (mv fun i=>f i||(decide (x<=(i:Int))&&decide ((i:Int)<y)&&decide (i<1440))) 86/\Below g w w':=by
 have hgl:=aH hg;go_enter func83,ntmps83;go_wp2;go_region;all_goals go_wp2
 all_goals
  go_loopw [4] (fun i wr=> ∃v:Int,i=ag v/\0<=v/\x<=v/\(v=max x 0\/(v<=y/\v<=1440))/\wr.heap[g]? =ah (mv fun i=>f i||(decide (x<=(i:Int))&&decide ((i:Int)<v))) 86/\Below g w wr) (fun i _=>(1440-intOf i).toNat)
  case atStart=>
   refine⟨_,rfl,by omega,by omega,.inl (by omega),?_,?_⟩
   ·exact iQ (dj _ _ _ hgl hg) (EL f x _ (by omega))
   ·exact((aI _ _).alloc (Nat.le_of_lt hgl) _).drew
  case round=>
   obtain⟨v,rfl,hv0,hvx,hv,hm,hbel⟩:=hrel
   by_cases hlt:v<y/\v<1440
   ·obtain⟨hl1,hl2⟩:=hlt
    obtain⟨k,rfl⟩: ∃k:Nat,v=k:=⟨v.toNat,by omega⟩
    obtain⟨yn,rfl⟩: ∃yn:Nat,y=yn:=⟨y.toNat,by omega⟩
    generalize hF:(fun i:Nat=>f i||(decide (x<=(i:Int))&&decide ((i:Int)<(k:Int))))=F at hm
    have HF:PH (F=fun i:Nat=>f i||(decide (x<=(i:Int))&&decide ((i:Int)<(k:Int)))):=hF.symm
    obtain⟨m,hm1⟩: ∃m:Nat,m=64*(k/64)+64:=⟨_,rfl⟩
    have hmk:m<=k+64/\k<m/\m<=1472:=by omega
    have HM:PH (m=64*(k/64)+64):=hm1
    have cw:=fun w=>uZ k (by omega) w
    rw[<-hm1]at cw
    have HV:PH ((k:Int)=max x 0\/((k:Int)<=yn/\(k:Int)<=1440)):=hv
    obtain⟨q,hq⟩: ∃q:Nat,q=k/64:=⟨_,rfl⟩
    obtain⟨r,hr⟩: ∃r:Nat,r=k%64:=⟨_,rfl⟩
    have HQ:PH (q=k/64):=hq
    have HR:PH (r=k%64):=hr
    have t1:(k:Int)/64=(q:Int):=by omega
    have t2:(k:Int)%64=(r:Int):=by omega
    have t3:(k:Int).tdiv 64=(q:Int):=by rw[Int.tdiv_eq_ediv_of_nonneg (by omega)];exact t1
    have t4:(k:Int).tmod 64=(r:Int):=by rw[Int.tmod_eq_emod_of_nonneg (by omega)];exact t2
    have cm:=kV hm q (by omega)
    have fm:=bl _ _ q _ _ hm
    have hi0:(0:Int)<=(q:Int):=by omega
    have hi1:(q:Int)<23:=by omega
    have hr0:(0:Int)<=(r:Int):=by omega
    have hr1:(r:Int)<64:=by omega
    have t5:IntKind.i64.wrap (q:Int)=(q:Int):=by rw[bG];omega
    have t6:IntKind.i64.wrap (r:Int)=(r:Int):=by rw[bG];omega
    have t7:IntKind.i64.wrap ((m:Int)-(k:Int))=(m:Int)-(k:Int):=by rw[bG];omega
    have t8:IntKind.i64.wrap (1440-(k:Int))=1440-(k:Int):=by rw[bG];omega
    clear hv hm1 hq hr hF
    rcases(show(m<=yn/\m<=1440)\/(yn<m/\yn<=1440)\/(1440<m/\1440<yn) from by omega) with hA|hA|hA
    ·first
     |(exfalso;omega)
     |(have t9:IntKind.i64.wrap ((m:Int)-(k:Int))=(m:Int)-(k:Int):=by rw[bG];omega
       go_wp2_with(go_at_call 108;refine(cw _).mono ?_;rintro e w' ⟨rfl,rfl⟩)
       go_region_with ((go_at_call 109;refine(yl _ ?_ ?_ _).mono ?_;omega;omega;rintro e w2 ⟨rfl,rfl⟩))
       all_goals
        go_wp2
        go_roundw
        case rel=>
         have hM:=HM.o
         refine⟨m,rfl,by omega,by omega,.inr ⟨by omega,by omega⟩,?_,(hbel.setCell (aB _) _).drew⟩
         refine iQ (aY _ _ _ _ _ _ hm) ?_
         exact vG f x k m q r hvx (by omega) (by omega) (by omega) HQ.o HR.o _ (by omega) F HF.o
        case measure=>simp[intOf];omega)
    ·first
     |(exfalso;omega)
     |(have t9:IntKind.i64.wrap ((yn:Int)-(k:Int))=(yn:Int)-(k:Int):=by rw[bG];omega
       go_wp2_with(go_at_call 108;refine(cw _).mono ?_;rintro e w' ⟨rfl,rfl⟩)
       go_region_with ((go_at_call 109;refine(yl _ ?_ ?_ _).mono ?_;omega;omega;rintro e w2 ⟨rfl,rfl⟩))
       all_goals
        go_wp2
        go_roundw
        case rel=>
         have hM:=HM.o
         refine⟨yn,rfl,by omega,by omega,.inr ⟨by omega,by omega⟩,?_,(hbel.setCell (aB _) _).drew⟩
         refine iQ (aY _ _ _ _ _ _ hm) ?_
         exact vG f x k yn q r hvx (by omega) (by omega) (by omega) HQ.o HR.o _ (by omega) F HF.o
        case measure=>simp[intOf];omega)
    ·first
     |(exfalso;omega)
     |(have t9:IntKind.i64.wrap ((1440:Int)-(k:Int))=(1440:Int)-(k:Int):=by rw[bG];omega
       go_wp2_with(go_at_call 108;refine(cw _).mono ?_;rintro e w' ⟨rfl,rfl⟩)
       go_region_with ((go_at_call 109;refine(yl _ ?_ ?_ _).mono ?_;omega;omega;rintro e w2 ⟨rfl,rfl⟩))
       all_goals
        go_wp2
        go_roundw
        case rel=>
         have hM:=HM.o
         refine⟨1440,rfl,by omega,by omega,.inr ⟨by omega,by omega⟩,?_,(hbel.setCell (aB _) _).drew⟩
         refine iQ (aY _ _ _ _ _ _ hm) ?_
         exact vG f x k 1440 q r hvx (by omega) (by omega) (by omega) HQ.o HR.o _ (by omega) F HF.o
        case measure=>simp[intOf];omega)
   ·go_wp2
    go_end0
    exact⟨rfl,iQ hm (Jz f x y v hv (by omega)),hbel⟩
end
def Row (w:World)(v:Value)(l:List (Int×Int)):Prop:=
 (∃c,v= .slice none 0 c/\l=[])\/ ∃g o c:Nat,v= .slice (some (ae g o)) l.length c/\l.length<9223372036854775808/\ ∀j,j<l.length->w.cell? (ae g (o+j*2))=some (ag (l.getD j (0,0)).1)/\w.cell? (ae g (o+j*2+1))=some (ag (l.getD j (0,0)).2)
theorem Row.later {w w':World}{v:Value}{l:List (Int×Int)}(h:Row w v l)(hb:aq w w'):Row w' v l:=by
 rcases h with h|⟨g,o,c,hv,hl,hc⟩
 ·exact .inl h
 ·refine .inr ⟨g,o,c,hv,hl,fun j hj=> ?_⟩;obtain⟨c1,c2⟩:=hc j hj;exact⟨aj hb c1,aj hb c2⟩
def inl (l:List (Int×Int))(i:Nat):Bool:=l.any fun s=>decide (s.1<=(i:Int))&&decide ((i:Int)<s.2)&&decide (i<1440)
theorem JB (l:List (Int×Int))(k:Nat)(hk:k<l.length):(mv fun i=>inl (l.take k) i||(decide ((l.getD k (0,0)).1<=(i:Int))&&decide ((i:Int)<(l.getD k (0,0)).2)&&decide (i<1440)))=mv (inl (l.take (k+1))):=by
 have e:l.take (k+1)=l.take k++[l.getD k (0,0)]:=by
  rw[List.take_succ_eq_append_getElem hk];simp[List.getD,hk]
 refine jf fun i _=> ?_;rw[e];simp[inl]
theorem tw (v:Value)(l:List (Int×Int))(w:World)(hl:Row w v l):
  Calls prog 57 #[v] w fun e w'=>e= .returned (.agg (mv (inl l)))/\aq w w':=by
 have hz:=eG;have h1:((w.alloc (.cells (mv fun _=>false) 86)).alloc (.cells (mv fun _=>false) 86)).heap[w.heap.size]? =ah (mv fun _=>false) 86:=by(repeat (first|refine dj _ _ _ (by simp only[aU];omega) ?_|exact dz _ _ _ (by first|rfl|simp only[aU])))
 have h2:((w.alloc (.cells (mv fun _=>false) 86)).alloc (.cells (mv fun _=>false) 86)).heap[w.heap.size+1]? =ah (mv fun _=>false) 86:=by(repeat (first|refine dj _ _ _ (by simp only[aU];omega) ?_|exact dz _ _ _ (by first|rfl|simp only[aU])))
 have hb0:aq w ((w.alloc (.cells (mv fun _=>false) 86)).alloc (.cells (mv fun _=>false) 86)):=(am _ _).alloc (by simp) _;rcases hl with⟨c,rfl,rfl⟩|⟨g,o,c,rfl,hlen,hcell⟩
 ·go_enter func57,ntmps57;go_wp2;refine wp_loop_rounds 1 ?_;rw[rounds_succ]
  go_wp2_with(first
   |(refine aQ rfl 86 _ rfl _ rfl _ _ _ _ h2 bV rfl (bh _) ?_)
   |(refine ay rfl 86 _ _ rfl _ _ rfl rfl _ _ h1 (bh _) (by simp[bO]) (dR _) ?_))
  refine aW (v:= .agg (mv (inl []))) ?_ rfl ⟨rfl,below_setRow hb0 (aB _) _⟩;exact bc rfl _ _ w.heap.size _ _ _ _ rfl (aL _ _ _ _ _ _ h1) bV rfl (bh _)
 ·have HC:PH (∀j,j<l.length->w.cell? (ae g (o+j*2))=some (ag (l.getD j (0,0)).1)/\w.cell? (ae g (o+j*2+1))=some (ag (l.getD j (0,0)).2)):=hcell;clear hcell;go_enter func57,ntmps57;go_wp2;go_loopw [8] (fun i wr=> ∃k:Nat,k<=l.length/\i=ag k/\wr.heap[w.heap.size]? =ah (mv fun _=>false) 86/\wr.heap[w.heap.size+1]? =ah (mv (inl (l.take k))) 86/\aq w wr) (fun i _=>l.length-(intOf i).toNat);case atStart=>exact⟨0,dM _,rfl,h1,iQ h2 (jf fun i _=>by simp[inl]),hb0⟩
  case round=>
   obtain⟨k,hk,rfl,ho,hm,hbel⟩:=hrel;by_cases hlt:k<l.length
   ·obtain⟨c1,c2⟩:=HC.o k hlt;have d1:=aj hbel c1;have d2:=aj hbel c2;have hsn:=JB l k hlt;generalize hs:l.getD k (0,0)=s at d1 d2 hsn;obtain⟨x,y⟩:=s;dsimp only at d1 d2 hsn;have HS:PH ((mv fun i=>inl (l.take k) i||(decide (x<=(i:Int))&&decide ((i:Int)<y)&&decide (i<1440)))=mv (inl (l.take (k+1)))):=hsn;have hm2:=dj _ (.cells #[ag x,ag y] 89) _ (aH hm) hm;have ho2:=dj _ (.cells #[ag x,ag y] 89) _ (aH ho) ho;have hb2:=hbel.alloc hbel.size (.cells #[ag x,ag y] 89);clear c1 c2 hsn hs;go_wp2_with(go_at_call 83;refine(JA _ _ _ _ _ hm2).mono ?_;rintro e w' ⟨rfl,hm',hb'⟩)
    go_roundw;case rel=>exact⟨k+1,by omega,by go_num,(hb'.block _ (by omega)).trans ho2,iQ hm' HS.o,hb2.trans (hb'.mono (by omega))⟩
    case measure=>simp[intOf];omega
   ·have hkl:k=l.length:=(by omega);subst hkl;have hm2:=iQ hm (by rw[gd]);clear hm
    go_wp2_with(first
     |(refine aQ rfl 86 _ rfl _ rfl _ _ _ _ hm2 bV rfl (bh _) ?_)
     |(refine ay rfl 86 _ _ rfl _ _ rfl rfl _ _ ho (bh _) (by simp[bO]) (dR _) ?_))
    refine aW (v:= .agg (mv (inl l))) ?_ rfl ⟨rfl,below_setRow hbel (aB _) _⟩;exact bc rfl _ _ w.heap.size _ _ _ _ rfl (aL _ _ _ _ _ _ ho) bV rfl (bh _)
namespace Vx
abbrev Way (E:Nat->Nat->Bool)(i k:Nat):Prop:=Relation.TransGen (fun a b=>E a b=true) i k
def wars (E:Nat->Nat->Bool):Nat->Nat->Nat->Bool
 |0,i,k=>E i k
 |m+1,i,k=>wars E m i k||(wars E m i m&&wars E m m k)
theorem qJ {E:Nat->Nat->Bool}{m i k:Nat}(h:wars E m i k=true): ∀d,wars E (m+d) i k=true
 |0=>h
 |d+1=>by
  show wars E ((m+d)+1) i k=true;simp only[wars,qJ h d,Bool.true_or]
theorem Bk {E:Nat->Nat->Bool}{m i j k:Nat}(hj:j<m)(h1:wars E m i j=true)(h2:wars E m j k=true):wars E m i k=true:=by
 induction m generalizing i j k with
 |zero=>omega
 |succ m ih=>
  by_cases hjm:j=m
  ·subst hjm;simp only[wars,ii,bx]at h1 h2⊢
   have a:wars E j i j=true:=by
    rcases h1 with h|⟨h,_⟩<;>exact h
   have b:wars E j j k=true:=by
    rcases h2 with h|⟨_,h⟩<;>exact h
   exact .inr ⟨a,b⟩
  ·have hj':j<m:=(by omega);simp only[wars,ii,bx]at h1 h2⊢;rcases h1 with h1|⟨h1,h1'⟩
   ·rcases h2 with h2|⟨h2,h2'⟩
    ·exact .inl (ih hj' h1 h2)
    ·exact .inr ⟨ih hj' h1 h2,h2'⟩
   ·rcases h2 with h2|⟨h2,h2'⟩
    ·exact .inr ⟨h1,ih hj' h1' h2⟩
    ·exact .inr ⟨h1,h2'⟩
def rk (E:Nat->Nat->Bool)(n i:Nat):Nat:=Msk.cnt (fun k=>wars E n i k) n
theorem Bu {f g:Nat->Bool}: ∀{n:Nat},(∀k,k<n->f k=true->g k=true)->Msk.cnt f n<=Msk.cnt g n
 |0,_=>aB _
 |n+1,h=>by
  have ih:=Bu (f:=f) (g:=g) (n:=n) (fun k hk=>h k (by omega));simp only[Msk.cnt];have:=h n (by omega);cases hf:f n with
  |false=>cases g n<;>simp<;>omega
  |true=>rw[this hf];simp;omega
theorem Bv {f g:Nat->Bool}: ∀{n s:Nat},s<n->(∀k,k<n->f k=true->g k=true)->f s=false->g s=true->Msk.cnt f n<Msk.cnt g n
 |0,_,hs,_,_,_=>by omega
 |n+1,s,hs,h,h1,h2=>by
  simp only[Msk.cnt];by_cases e:s=n
  ·subst e;have:=Bu (f:=f) (g:=g) (n:=s) (fun k hk=>h k (by omega));rw[h1,h2];simp;omega
  ·have ih:=Bv (f:=f) (g:=g) (n:=n) (s:=s) (by omega) (fun k hk=>h k (by omega)) h1 h2;have:=h n (by omega);cases hf:f n with
   |false=>cases g n<;>simp<;>omega
   |true=>rw[this hf];simp;omega
theorem Ly {E:Nat->Nat->Bool}{n i s:Nat}(hs:s<n)(hE:E i s=true)(hc:wars E n s s=false):rk E n s<rk E n i:=by
 have h0:wars E n i s=true:=by have:=qJ (E:=E) (m:=0) hE n;simpa using this
 exact Bv hs (fun k _ hk=>Bk hs h0 hk) hc h0
theorem Oz (E:Nat->Nat->Bool)(n i:Nat):rk E n i<=n:=Msk.MR _ _
structure In where
 op:Int
 a:Int
 b:Int
 to:Int
 sp:List (Int×Int)
structure Cd where
 ins:List In
 high:Int
 steps:Int
def in0:In:=⟨0,0,0,0,[]⟩
def cd0:Cd:=⟨[],0,0⟩
def risL:List (Int×Int)->Int->Bool
 |[],_=>true
 |s::l,e=>if s.1<=e\/s.2<=s.1\/1440<s.2 then false else risL l s.2
theorem GU {l:List (Int×Int)}{j:Nat}{s:Int×Int}{e:Int}(h:l[j]? =some s):risL (l.drop j) e=if s.1<=e\/s.2<=s.1\/1440<s.2 then false else risL (l.drop (j+1)) s.2:=by
 obtain⟨h1,h2⟩:=aF.1 h;rw[bv h1,h2];rfl
def fP (x:In)(k n rules:Nat):Int:=
 if x.op=2\/x.op=3\/x.op=4 then 0
 else if x.op=1 then(if risL x.sp (-1)=true then 0 else 2)
 else if x.op=5 then(if x.a≠0/\ -1439<=x.a/\x.a<=1439 then 0 else 3)
 else if x.op=6 then(if(k:Int)+2<=x.to/\x.to<=n then(if 1<=x.a/\x.a<=127 then 0 else 3) else 8)
 else if x.op=7 then(if(k:Int)+2<=x.to/\x.to<=n then(if 0<=x.a/\x.a<=x.b/\x.b<146097 then 0 else 3) else 8)
 else if x.op=8 then(if 0<=x.a/\x.a<rules then 0 else 6)
 else 1
def po:List In->Nat->Nat->Nat->Int
 |[],_,_,_=>0
 |x::l,k,n,r=>if fP x k n r≠0 then fP x k n r else po l (k+1) n r
theorem GV {l:List In}{j n r:Nat}{x:In}(h:l[j]? =some x):po (l.drop j) j n r=if fP x j n r≠0 then fP x j n r else po (l.drop (j+1)) (j+1) n r:=by
 obtain⟨h1,h2⟩:=aF.1 h;rw[bv h1,h2];rfl
theorem Dw {n r:Nat}: ∀{l:List In} {k:Nat},po l k n r=0-> ∀j x,l[j]? =some x->fP x (k+j) n r=0
 |[],_,_,j,x,hj=>by simp at hj
 |y::l,k,h,j,x,hj=>by
  by_cases hy:fP y k n r=0
  ·have h':po l (k+1) n r=0:=(by simpa[po,hy] using h);cases j with
   |zero=>simp at hj;subst hj;simpa using hy
   |succ j=>
    have:=Dw h' j x (by simpa using hj);rw[show k+(j+1)=k+1+j by omega];exact this
  ·exfalso;simp[po,hy]at h
def aloneE (c:Cd)(rules:Nat):Int:=
 if¬(1<=c.ins.length/\c.ins.length<=2000) then 5
 else if¬((1<=c.high/\c.high<=100)/\(1<=c.steps/\c.steps<=20000)) then 4
 else po c.ins 0 c.ins.length rules
def gK (E:Nat->Int):Nat->Nat->Int×Nat
 |0,_=>(0,0)
 |m+1,i=>if E i≠0 then(E i,i) else gK E m (i+1)
theorem oZ {E:Nat->Int}: ∀(m i:Nat),(gK E m i).1=0->gK E m i=(0,0)/\ ∀j,i<=j->j<i+m->E j=0
 |0,_,_=>⟨rfl,fun j h1 h2=>by omega⟩
 |m+1,i,h=>by
  by_cases he:E i=0
  ·have e1:gK E (m+1) i=gK E m (i+1):=(by simp[gK,he]);rw[e1]at h⊢;obtain⟨h1,h2⟩:=oZ m (i+1) h;refine⟨h1,fun j hj hl=> ?_⟩;by_cases e:j=i
   ·rw[e];exact he
   ·exact h2 j (by omega) (by omega)
  ·exfalso;simp[gK,he]at h
def eff (x:In):Int:=if x.op=1\/x.op=8 then 1 else if x.op=2\/x.op=3\/x.op=4 then-1 else 0
def tk (x:In):Int:=if x.op=5 then 1 else if x.op=2\/x.op=3\/x.op=4 then 2 else 0
def isG (x:In):Prop:=x.op=6\/x.op=7
def hAt (l:List In):Nat->Int
 |0=>0
 |j+1=>hAt l j+eff (l.getD j in0)
def mxH (cs:List Cd)(l:List In):Nat->Int
 |0=>0
 |j+1=>max (if(l.getD j in0).op=8 then max (mxH cs l j) (hAt l j+(cs.getD (l.getD j in0).a.toNat cd0).high) else mxH cs l j) (hAt l (j+1))
def stS (cs:List Cd)(l:List In):Nat->Int
 |0=>0
 |j+1=>stS cs l j+1+(if(l.getD j in0).op=8 then(cs.getD (l.getD j in0).a.toNat cd0).steps else 0)
theorem pS {l:List In}{j:Nat}{x:In}(h:l[j]? =some x):l.getD j in0=x:=by simp[List.getD,h]
theorem jH {l:List In}{j:Nat}{x:In}(h:l[j]? =some x):hAt l (j+1)=hAt l j+eff x:=by rw[hAt,pS h]
theorem kM {cs:List Cd}{l:List In}{j:Nat}{x:In}(h:l[j]? =some x):mxH cs l (j+1)=max (if x.op=8 then max (mxH cs l j) (hAt l j+(cs.getD x.a.toNat cd0).high) else mxH cs l j) (hAt l (j+1)):=by rw[mxH,pS h]
theorem jX {cs:List Cd}{l:List In}{j:Nat}{x:In}(h:l[j]? =some x):stS cs l (j+1)=stS cs l j+1+(if x.op=8 then(cs.getD x.a.toNat cd0).steps else 0):=by rw[stS,pS h]
theorem Nd (cs:List Cd)(l:List In)(j:Nat):mxH cs l j<=mxH cs l (j+1):=by
 simp only[mxH];split<;>omega
theorem Bw (cs:List Cd)(l:List In){j k:Nat}(h:j<=k):mxH cs l j<=mxH cs l k:=by
 obtain⟨d,rfl⟩:=Nat.exists_eq_add_of_le h;clear h;induction d with
 |zero=>exact gX _
 |succ d ih=>exact Int.le_trans ih (Nd cs l (j+d))
theorem GW (cs:List Cd)(l:List In): ∀j,hAt l j<=mxH cs l j
 |0=>gX _
 |j+1=>by
  simp only[mxH];omega
theorem Lz {cs:List Cd}{l:List In}{j n:Nat}(h:j<=n):hAt l j<=mxH cs l n:=Int.le_trans (GW cs l j) (Bw cs l h)
theorem JC {cs:List Cd}{l:List In}{j n:Nat}{x:In}(hj:l[j]? =some x)(h:j<n)(ho:x.op=8):hAt l j+(cs.getD x.a.toNat cd0).high<=mxH cs l n:=by
 refine Int.le_trans ?_ (Bw cs l (show j+1<=n by omega));rw[kM hj,aD ho];omega
structure lZ (l:List In):Prop where
 tk: ∀j x,l[j]? =some x->tk x<=hAt l j
 to: ∀j x,l[j]? =some x->isG x->hAt l x.to.toNat=hAt l j+1
 fin:hAt l l.length=1
structure Nf (cs:List Cd)(c:Cd):Prop where
 well:lZ c.ins
 high:mxH cs c.ins c.ins.length=c.high
 steps:stS cs c.ins c.ins.length=c.steps
def EM (l:List In):Bool:=((List.range l.length).all fun j=>decide (tk (l.getD j in0)<=hAt l j)&&(!(decide ((l.getD j in0).op=6)||decide ((l.getD j in0).op=7))||decide (hAt l (l.getD j in0).to.toNat=hAt l j+1)))&&decide (hAt l l.length=1)
theorem GX {l:List In}:EM l=true↔lZ l:=by
 unfold EM;rw[bx,dr,cg];constructor
 ·rintro⟨h1,h2⟩;refine⟨fun j x hx=> ?_,fun j x hx hg=> ?_,h2⟩
  ·have h3:=h1 j (jg.2 (aF.1 hx).1);rw[pS hx,bx,cg]at h3;exact h3.1
  ·have h3:=h1 j (jg.2 (aF.1 hx).1);rw[pS hx,bx,ii]at h3;rcases h3.2 with h4|h4
   ·unfold isG at hg;rcases hg with e|e<;>simp[e]at h4
   ·exact fE h4
 ·intro h;refine⟨fun j hj=> ?_,h.fin⟩;have hj':=jg.1 hj;have hx:l[j]? =some l[j]:=az hj';rw[pS hx,bx,ii];refine⟨bm (h.tk j _ hx),?_⟩;by_cases hg:isG l[j]
  ·exact .inr (bm (h.to j _ hx hg))
  ·left;unfold isG at hg;have h6: ¬(l[j]).op=6:=fun e=>hg (.inl e);have h7: ¬(l[j]).op=7:=fun e=>hg (.inr e);simp[h6,h7]
def rt (cs:List Cd)(c:Cd):Bool:=EM c.ins&&(decide (mxH cs c.ins c.ins.length=c.high)&&decide (stS cs c.ins c.ins.length=c.steps))
theorem oi {cs:List Cd}{c:Cd}:rt cs c=true↔Nf cs c:=by
 unfold rt;rw[bx,bx,cg,cg,GX];exact⟨fun h=>⟨h.1,h.2.1,h.2.2⟩,fun h=>⟨h.well,h.high,h.steps⟩⟩
def gj (cs:List Cd)(i k:Nat):Bool:=(cs.getD i cd0).ins.any fun x=>decide (x.op=8)&&decide (x.a=(k:Int))
def pI (cs:List Cd)(i:Nat):Int:=if wars (gj cs) cs.length i i=true then 9 else if rt cs (cs.getD i cd0)=true then 0 else 8
def jM (cs:List Cd):Int×Nat:=
 if 40<cs.length then(5,0)
 else if(gK (fun i=>aloneE (cs.getD i cd0) cs.length) cs.length 0).1≠0 then gK (fun i=>aloneE (cs.getD i cd0) cs.length) cs.length 0
 else gK (pI cs) cs.length 0
structure mq (cs:List Cd):Prop where
 len:cs.length<=40
 alone: ∀(i:Nat) (c:Cd),cs[i]? =some c->aloneE c cs.length=0
 cyc: ∀i,i<cs.length->wars (gj cs) cs.length i i=false
 fit: ∀(i:Nat) (c:Cd),cs[i]? =some c->Nf cs c
theorem je {cs:List Cd}{i:Nat}{c:Cd}(h:cs[i]? =some c):cs.getD i cd0=c:=by simp[List.getD,h]
theorem CN {cs:List Cd}(h:(jM cs).1=0):mq cs:=by
 unfold jM at h;by_cases h1:40<cs.length
 ·rw[aD h1]at h;simp at h
 ·rw[ax h1]at h;by_cases h2:(gK (fun i=>aloneE (cs.getD i cd0) cs.length) cs.length 0).1≠0
  ·rw[aD h2]at h;exact absurd h h2
  ·rw[ax h2]at h;have a:=(oZ _ _ (Decidable.not_not.1 h2)).2;have b:=(oZ _ _ h).2;refine⟨by omega,fun i c hi=> ?_,fun i hi=> ?_,fun i c hi=> ?_⟩
   ·have:=a i (by omega) (by have:=(aF.1 hi).1;omega);rw[je hi]at this;exact this
   ·have:=b i (by omega) (by omega);unfold pI at this;cases hw:wars (gj cs) cs.length i i with
    |false=>rfl
    |true=>rw[aD hw]at this;simp at this
   ·have:=b i (by omega) (by have:=(aF.1 hi).1;omega);unfold pI at this;rw[je hi]at this;by_cases hw:wars (gj cs) cs.length i i=true
    ·rw[aD hw]at this;simp at this
    ·rw[ax hw]at this;by_cases hf:rt cs c=true
     ·exact oi.1 hf
     ·rw[ax hf]at this;simp at this
theorem jx {c:Cd}{r:Nat}(h:aloneE c r=0):(1<=c.ins.length/\c.ins.length<=2000)/\((1<=c.high/\c.high<=100)/\(1<=c.steps/\c.steps<=20000))/\ ∀j x,c.ins[j]? =some x->fP x j c.ins.length r=0:=by
 unfold aloneE at h;by_cases h1:1<=c.ins.length/\c.ins.length<=2000
 ·rw[ax (fun e=>e h1)]at h;by_cases h2:(1<=c.high/\c.high<=100)/\(1<=c.steps/\c.steps<=20000)
  ·rw[ax (fun e=>e h2)]at h;refine⟨h1,h2,fun j x hj=> ?_⟩;have:=Dw h j x hj;simpa using this
  ·rw[aD h2]at h;simp at h
 ·rw[aD h1]at h;simp at h
theorem vH {x:In}{k n r:Nat}(h:fP x k n r=0)(ho:x.op=8):0<=x.a/\x.a<r:=by
 simp only[fP,ho]at h;simp only[show¬((8:Int)=2\/(8:Int)=3\/(8:Int)=4) by omega,show¬(8:Int)=1 by omega,show¬(8:Int)=5 by omega,show¬(8:Int)=6 by omega,show¬(8:Int)=7 by omega,if_false,if_true]at h;by_cases hh:0<=x.a/\x.a<r
 ·exact hh
 ·rw[ax hh]at h;simp at h
theorem rI {x:In}{k n r:Nat}(h:fP x k n r=0)(ho:isG x):(k:Int)+2<=x.to/\x.to<=n:=by
 rcases ho with ho|ho
 ·simp only[fP,ho]at h;simp only[show¬((6:Int)=2\/(6:Int)=3\/(6:Int)=4) by omega,show¬(6:Int)=1 by omega,show¬(6:Int)=5 by omega,if_false,if_true]at h;by_cases hh:(k:Int)+2<=x.to/\x.to<=n
  ·exact hh
  ·rw[ax hh]at h;simp at h
 ·simp only[fP,ho]at h;simp only[show¬((7:Int)=2\/(7:Int)=3\/(7:Int)=4) by omega,show¬(7:Int)=1 by omega,show¬(7:Int)=5 by omega,show¬(7:Int)=6 by omega,if_false,if_true]at h;by_cases hh:(k:Int)+2<=x.to/\x.to<=n
  ·exact hh
  ·rw[ax hh]at h;simp at h
def lk:List (Int×Int)->Int->Option Int
 |[],_=>none
 |e::L,k=>if k=e.1 then some e.2 else lk L k
def upL:List (Int×Int)->Int->Int->List (Int×Int)
 |[],k,v=>[(k,v)]
 |e::L,k,v=>if k=e.1 then(k,v)::L else e::upL L k v
theorem AD: ∀(L:List (Int×Int)) (k v q:Int),lk (upL L k v) q=if q=k then some v else lk L q
 |[],k,v,q=>by simp[upL,lk]
 |e::L,k,v,q=>by
  unfold upL;by_cases h:k=e.1
  ·rw[aD h];simp only[lk];by_cases hq:q=k
   ·rw[aD hq,aD hq]
   ·rw[ax hq,ax hq,ax (fun e'=>hq (e'.trans h.symm))]
  ·rw[ax h];simp only[lk];rw[AD L k v q];by_cases hq:q=e.1
   ·rw[aD hq,ax (fun e'=>h (e'.symm.trans hq)),aD hq]
   ·rw[ax hq,ax hq]
structure lP (l:List In)(k:Nat)(L:List (Int×Int)):Prop where
 set: ∀(j:Nat) (x:In),j<k->l[j]? =some x->isG x->lk L x.to=some (hAt l j+1)
 got: ∀p v,lk L p=some v-> ∃(j:Nat) (x:In),j<k/\l[j]? =some x/\isG x/\x.to=p/\v=hAt l j+1
 tk: ∀(j:Nat) (x:In),j<k->l[j]? =some x->tk x<=hAt l j
 met: ∀p:Nat,p<k-> ∀v,lk L (p:Int)=some v->v=hAt l p
def Tos (l:List In):Prop:= ∀(j:Nat) (x:In),l[j]? =some x->isG x->(j:Int)+2<=x.to/\x.to<=l.length
theorem lP.nil (l:List In):lP l 0 []:=⟨fun j x h=>by omega,fun p v h=>by simp[lk]at h,fun j x h=>by omega,fun p h=>by omega⟩
theorem lP.step {l:List In}{k:Nat}{L:List (Int×Int)}{x:In}(h:lP l k L)(hT:Tos l)(hx:l[k]? =some x)(ht:Vx.tk x<=hAt l k)(hm: ∀v,lk L (k:Int)=some v->v=hAt l k)(hg: ¬isG x):lP l (k+1) L:=by
 have _:=hT;refine⟨fun j y hj hy hgy=> ?_,fun p v hp=> ?_,fun j y hj hy=> ?_,fun p hp v hv=> ?_⟩
 ·by_cases e:j=k
  ·subst e;rw[hx]at hy;cases hy;exact absurd hgy hg
  ·exact h.set j y (by omega) hy hgy
 ·obtain⟨j,y,h1,h2⟩:=h.got p v hp;exact⟨j,y,by omega,h2⟩
 ·by_cases e:j=k
  ·subst e;rw[hx]at hy;cases hy;exact ht
  ·exact h.tk j y (by omega) hy
 ·by_cases e:p=k
  ·subst e;exact hm v hv
  ·exact h.met p (by omega) v hv
theorem lP.stepG {l:List In}{k:Nat}{L:List (Int×Int)}{x:In}(h:lP l k L)(hT:Tos l)(hx:l[k]? =some x)(ht:Vx.tk x<=hAt l k)(hm: ∀v,lk L (k:Int)=some v->v=hAt l k)(hg:isG x)(ha: ∀v,lk L x.to=some v->v=hAt l k+1):lP l (k+1) (upL L x.to (hAt l k+1)):=by
 have t:=hT k x hx hg;refine⟨fun j y hj hy hgy=> ?_,fun p v hp=> ?_,fun j y hj hy=> ?_,fun p hp v hv=> ?_⟩
 ·rw[AD];by_cases e:j=k
  ·subst e;rw[hx]at hy;cases hy;rw[aD rfl]
  ·have:=h.set j y (by omega) hy hgy;by_cases e2:y.to=x.to
   ·rw[aD e2];rw[e2]at this;rw[ha _ this]
   ·rw[ax e2];exact this
 ·rw[AD]at hp;by_cases e:p=x.to
  ·rw[aD e]at hp;exact⟨k,x,by omega,hx,hg,e.symm,(aN hp).symm⟩
  ·rw[ax e]at hp;obtain⟨j,y,h1,h2⟩:=h.got p v hp;exact⟨j,y,by omega,h2⟩
 ·by_cases e:j=k
  ·subst e;rw[hx]at hy;cases hy;exact ht
  ·exact h.tk j y (by omega) hy
 ·rw[AD,ax (by omega)]at hv;by_cases e:p=k
  ·subst e;exact hm v hv
  ·exact h.met p (by omega) v hv
theorem Ng {l:List In}{k:Nat}{x:In}(hx:l[k]? =some x)(h:hAt l k<tk x): ¬lZ l:=fun hw=>by
 have:=hw.tk k x hx;omega
theorem lP.not_met {l:List In}{k:Nat}{L:List (Int×Int)}(h:lP l k L){p:Nat}{v:Int}(hp:lk L (p:Int)=some v)(hv:v≠hAt l p): ¬lZ l:=fun hw=>by
 obtain⟨j,x,_,hj,hg,ht,rfl⟩:=h.got _ _ hp;have:=hw.to j x hj hg;rw[ht]at this;simp at this;exact hv this.symm
theorem lP.not_two {l:List In}{k:Nat}{L:List (Int×Int)}{x:In}(h:lP l k L)(hx:l[k]? =some x)(hg:isG x){v:Int}(hp:lk L x.to=some v)(hv:v≠hAt l k+1): ¬lZ l:=fun hw=>by
 obtain⟨j,y,_,hj,hgy,ht,rfl⟩:=h.got _ _ hp;have h1:=hw.to j y hj hgy;have h2:=hw.to k x hx hg;rw[ht]at h1;exact hv (h1.symm.trans h2)
theorem lP.fin {l:List In}{L:List (Int×Int)}(h:lP l l.length L)(hT:Tos l):(hAt l l.length=1/\ ∀v,lk L (l.length:Int)=some v->v=hAt l l.length)↔lZ l:=by
 constructor
 ·rintro⟨h1,h2⟩;refine⟨fun j x hj=>h.tk j x (aF.1 hj).1 hj,fun j x hj hg=> ?_,h1⟩;have t:=hT j x hj hg;have hs:=h.set j x (aF.1 hj).1 hj hg;have e:x.to=(x.to.toNat:Int):=(by omega);rw[e]at hs;by_cases hl:x.to.toNat<l.length
  ·exact(h.met _ hl _ hs).symm
  ·have e2:x.to.toNat=l.length:=(by omega);rw[e2]at hs⊢;exact(h2 _ hs).symm
 ·intro hw;refine⟨hw.fin,fun v hv=> ?_⟩;exact dN fun hne=>h.not_met hv hne hw
section
abbrev M:=Nat->Bool
def spM (l:List (Int×Int)):M:=fun i=>l.any fun s=>decide (s.1<=(i:Int))&&decide ((i:Int)<s.2)&&decide (i<1440)
def unM (f g:M):M:=fun i=>(f i||g i)&&decide (i<1440)
def dfM (f g:M):M:=fun i=>(f i&& !g i)&&decide (i<1440)
def boM (f g:M):M:=fun i=>(f i&&g i)&&decide (i<1440)
def shM (f:M)(x:Int):M:=fun t=>decide (t<1440)&&(decide (x<=(t:Int))&&(decide ((t:Int)-x<1440)&&f ((t:Int)-x).toNat))
def noM:M:=fun _=>false
def yz (F:M->M)(S:List M):List M:=match S.reverse with
 |g::T=>T.reverse++[F g]
 |[]=>[]
def mT (F:M->M->M)(S:List M):List M:=match S.reverse with
 |g::f::T=>T.reverse++[F f g]
 |_=>[]
theorem yA (F:M->M)(T:List M)(g:M):yz F (T++[g])=T++[F g]:=by simp[yz]
theorem l3 (F:M->M->M)(T:List M)(f g:M):mT F (T++[f,g])=T++[F f g]:=by simp[mT]
theorem xk {S:List M}(h:1<=S.length): ∃T g,S=T++[g]:=by
 rcases List.eq_nil_or_concat S with rfl|⟨T,g,rfl⟩
 ·simp at h
 ·exact⟨T,g,by simp⟩
theorem uD {S:List M}(h:2<=S.length): ∃T f g,S=T++[f,g]:=by
 obtain⟨T,g,rfl⟩:=xk (S:=S) (by omega);obtain⟨U,f,rfl⟩:=xk (S:=T) (by simp at h;omega);exact⟨U,f,g,by simp⟩
structure St where
 k:Nat
 S:List M
 n:Nat
section
variable (wk:Int->Bool) (day:Int)
def onD (x:In):Bool:=if x.op=6 then wk x.a else decide (x.a<=day)&&decide (day<=x.b)
def dG (ev:Nat->M×Nat)(x:In)(s:St):St:=
 if x.op=1 then⟨s.k+1,s.S++[spM x.sp],s.n+1⟩
 else if x.op=2 then⟨s.k+1,mT unM s.S,s.n+1⟩
 else if x.op=3 then⟨s.k+1,mT dfM s.S,s.n+1⟩
 else if x.op=4 then⟨s.k+1,mT boM s.S,s.n+1⟩
 else if x.op=5 then⟨s.k+1,yz (fun f=>shM f x.a) s.S,s.n+1⟩
 else if x.op=8 then⟨s.k+1,s.S++[(ev x.a.toNat).1],s.n+1+(ev x.a.toNat).2⟩
 else if onD wk day x=true then⟨s.k+1,s.S,s.n+1⟩
 else⟨x.to.toNat,s.S++[noM],s.n+1⟩
def goV (ev:Nat->M×Nat)(l:List In):Nat->St->St
 |0,s=>s
 |f+1,s=>match l[s.k]? with
  |none=>s
  |some x=>goV ev l f (dG wk day ev x s)
def runV (ev:Nat->M×Nat)(l:List In)(s:St):St:=goV wk day ev l (l.length-s.k) s
def evV (cs:List Cd):Nat->Nat->M×Nat
 |0,_=>(noM,0)
 |d+1,r=>((runV wk day (evV cs d) (cs.getD r cd0).ins ⟨0,[],0⟩).S.getD 0 noM,(runV wk day (evV cs d) (cs.getD r cd0).ins ⟨0,[],0⟩).n)
end
structure mU (cs:List Cd)(l:List In)(s:St):Prop where
 le:s.k<=l.length
 hi:(s.S.length:Int)=hAt l s.k
 st:(s.n:Int)<=stS cs l s.k
 on:s.k=0\/1<=s.n
variable {wk:Int->Bool} {day:Int} {ev:Nat->M×Nat} {cs:List Cd} {l:List In}
theorem mU.nil:mU cs l ⟨0,[],0⟩:=⟨dM _,by simp[hAt],by simp[stS],.inl rfl⟩
theorem vI (h0: ∀i,0<=(cs.getD i cd0).steps){j k:Nat}(h:j<=k):stS cs l j<=stS cs l k:=by
 obtain⟨d,rfl⟩:=Nat.exists_eq_add_of_le h;clear h;induction d with
 |zero=>exact gX _
 |succ d ih=>
  refine Int.le_trans ih ?_;show stS cs l (j+d)<=stS cs l ((j+d)+1);simp only[stS];have:=h0 (l.getD (j+d) in0).a.toNat;split<;>omega
theorem tz {x:In}{k n r:Nat}(h:fP x k n r=0):x.op=1\/x.op=2\/x.op=3\/x.op=4\/x.op=5\/x.op=8\/isG x:=by
 unfold fP at h;unfold isG;split at h
 ·omega
 split at h
 ·omega
 split at h
 ·omega
 split at h
 ·omega
 split at h
 ·omega
 split at h
 ·omega
 ·simp at h
theorem mU.step {s:St}{x:In}{r:Nat}(hs:mU cs l s)(hw:lZ l)(hx:l[s.k]? =some x)(hi:fP x s.k l.length r=0)(h0: ∀i,0<=(cs.getD i cd0).steps)
  (hev:x.op=8->((ev x.a.toNat).2:Int)<=(cs.getD x.a.toNat cd0).steps):mU cs l (dG wk day ev x s)/\s.k<(dG wk day ev x s).k:=by
 have hk:=(aF.1 hx).1;have htk:=hw.tk _ _ hx;have hst:=jX (cs:=cs) hx;have hht:=jH hx;have a1:=hs.hi;have a2:=hs.st;rcases tz hi with ho|ho|ho|ho|ho|ho|ho
 ·have e:dG wk day ev x s=⟨s.k+1,s.S++[spM x.sp],s.n+1⟩:=by simp[dG,ho]
  rw[e];have:eff x=1:=(by simp[eff,ho]);rw[ax (by omega)]at hst;refine⟨⟨by dsimp only;omega,?_,?_,.inr (by dsimp only;omega)⟩,by dsimp only;omega⟩
  ·dsimp only;rw[aP];simp;omega
  ·dsimp only;omega
 ·have e:dG wk day ev x s=⟨s.k+1,mT unM s.S,s.n+1⟩:=by simp[dG,ho]
  rw[e];have h1:eff x= -1:=(by simp[eff,ho]);have h2:tk x=2:=(by simp[tk,ho]);obtain⟨T,f,g,hS⟩:=uD (S:=s.S) (by omega);rw[ax (by omega)]at hst;rw[hS]at a1;simp at a1;refine⟨⟨by dsimp only;omega,?_,?_,.inr (by dsimp only;omega)⟩,by dsimp only;omega⟩
  ·dsimp only;rw[hS,l3];simp;omega
  ·dsimp only;omega
 ·have e:dG wk day ev x s=⟨s.k+1,mT dfM s.S,s.n+1⟩:=by simp[dG,ho]
  rw[e];have h1:eff x= -1:=(by simp[eff,ho]);have h2:tk x=2:=(by simp[tk,ho]);obtain⟨T,f,g,hS⟩:=uD (S:=s.S) (by omega);rw[ax (by omega)]at hst;rw[hS]at a1;simp at a1;refine⟨⟨by dsimp only;omega,?_,?_,.inr (by dsimp only;omega)⟩,by dsimp only;omega⟩
  ·dsimp only;rw[hS,l3];simp;omega
  ·dsimp only;omega
 ·have e:dG wk day ev x s=⟨s.k+1,mT boM s.S,s.n+1⟩:=by simp[dG,ho]
  rw[e];have h1:eff x= -1:=(by simp[eff,ho]);have h2:tk x=2:=(by simp[tk,ho]);obtain⟨T,f,g,hS⟩:=uD (S:=s.S) (by omega);rw[ax (by omega)]at hst;rw[hS]at a1;simp at a1;refine⟨⟨by dsimp only;omega,?_,?_,.inr (by dsimp only;omega)⟩,by dsimp only;omega⟩
  ·dsimp only;rw[hS,l3];simp;omega
  ·dsimp only;omega
 ·have e:dG wk day ev x s=⟨s.k+1,yz (fun f=>shM f x.a) s.S,s.n+1⟩:=by simp[dG,ho]
  rw[e];have h1:eff x=0:=(by simp[eff,ho]);have h2:tk x=1:=(by simp[tk,ho]);obtain⟨T,g,hS⟩:=xk (S:=s.S) (by omega);rw[ax (by omega)]at hst;rw[hS]at a1;simp at a1;refine⟨⟨by dsimp only;omega,?_,?_,.inr (by dsimp only;omega)⟩,by dsimp only;omega⟩
  ·dsimp only;rw[hS,yA];simp;omega
  ·dsimp only;omega
 ·have e:dG wk day ev x s=⟨s.k+1,s.S++[(ev x.a.toNat).1],s.n+1+(ev x.a.toNat).2⟩:=by simp[dG,ho]
  rw[e];have h1:eff x=1:=(by simp[eff,ho]);have h3:=hev ho;rw[aD ho]at hst;refine⟨⟨by dsimp only;omega,?_,?_,.inr (by dsimp only;omega)⟩,by dsimp only;omega⟩
  ·dsimp only;rw[aP];simp;omega
  ·dsimp only;omega
 ·have hto:=rI hi ho;have hgt:=hw.to _ _ hx ho;have hs8: ¬x.op=8:=(by unfold isG at ho;omega);rw[ax hs8]at hst
  have he:eff x=0:=by
   unfold eff;unfold isG at ho;rw[ax (by omega),ax (by omega)]
  by_cases hd:onD wk day x=true
  ·have e:dG wk day ev x s=⟨s.k+1,s.S,s.n+1⟩:=by
    unfold isG at ho;unfold dG;rw[ax (by omega),ax (by omega),ax (by omega),ax (by omega),ax (by omega),ax (by omega),aD hd]
   rw[e];refine⟨⟨by dsimp only;omega,?_,?_,.inr (by dsimp only;omega)⟩,by dsimp only;omega⟩
   ·dsimp only;omega
   ·dsimp only;omega
  ·have e:dG wk day ev x s=⟨x.to.toNat,s.S++[noM],s.n+1⟩:=by
    unfold isG at ho;unfold dG;rw[ax (by omega),ax (by omega),ax (by omega),ax (by omega),ax (by omega),ax (by omega),ax hd]
   rw[e];have:=vI (l:=l) h0 (show s.k+1<=x.to.toNat by omega);refine⟨⟨by dsimp only;omega,?_,?_,.inr (by dsimp only;omega)⟩,by dsimp only;omega⟩
   ·dsimp only;rw[aP];simp;omega
   ·dsimp only;omega
theorem vJ {s:St}(h:s.k=l.length):runV wk day ev l s=s:=by
 unfold runV;rw[show l.length-s.k=0 by omega];rfl
def Up (wk:Int->Bool)(day:Int)(ev:Nat->M×Nat)(l:List In):Prop:= ∀s x,l[s.k]? =some x->s.k<(dG wk day ev x s).k
theorem vK (hu:Up wk day ev l): ∀(f:Nat) (s:St),l.length-s.k<=f->goV wk day ev l f s=goV wk day ev l (l.length-s.k) s
 |0,s,h=>by rw[show l.length-s.k=0 by omega]
 |f+1,s,h=>by
  cases hx:l[s.k]? with
  |none=>
   have:l.length<=s.k:=List.getElem?_eq_none_iff.1 hx;rw[show l.length-s.k=0 by omega];simp[goV,hx]
  |some x=>
   have hk:=(aF.1 hx).1;obtain⟨m,hm⟩: ∃m,l.length-s.k=m+1:=⟨l.length-s.k-1,by omega⟩
   have hu1:=hu s x hx;rw[hm];simp only[goV,hx];rw[vK hu f _ (by omega),vK hu m _ (by omega)]
theorem lQ (hu:Up wk day ev l){s:St}{x:In}(hx:l[s.k]? =some x):runV wk day ev l s=runV wk day ev l (dG wk day ev x s):=by
 have hk:=(aF.1 hx).1;obtain⟨m,hm⟩: ∃m,l.length-s.k=m+1:=⟨l.length-s.k-1,by omega⟩
 have hu1:=hu s x hx;unfold runV;rw[hm];simp only[goV,hx];rw[vK hu m _ (by omega)]
theorem EN {r:Nat}(hi: ∀(j:Nat) (x:In),l[j]? =some x->fP x j l.length r=0):Up wk day ev l:=fun s x hx=>by
 rcases tz (hi _ _ hx) with ho|ho|ho|ho|ho|ho|ho
 ·simp[dG,ho]
 ·simp[dG,ho]
 ·simp[dG,ho]
 ·simp[dG,ho]
 ·simp[dG,ho]
 ·simp[dG,ho]
 ·have hto:=rI (hi _ _ hx) ho;unfold isG at ho;unfold dG;rw[ax (by omega),ax (by omega),ax (by omega),ax (by omega),ax (by omega),ax (by omega)];split
  ·dsimp only;omega
  ·dsimp only;omega
theorem mU.run {r:Nat}(hw:lZ l)(hi: ∀(j:Nat) (x:In),l[j]? =some x->fP x j l.length r=0)(h0: ∀i,0<=(cs.getD i cd0).steps)
  (hev: ∀(j:Nat) (x:In),l[j]? =some x->x.op=8->((ev x.a.toNat).2:Int)<=(cs.getD x.a.toNat cd0).steps): ∀(f:Nat) (s:St),l.length-s.k<=f->mU cs l s->mU cs l (runV wk day ev l s)/\(runV wk day ev l s).k=l.length
 |f,s,hf,hs=>by
  have hu:Up wk day ev l:=EN hi;cases hx:l[s.k]? with
  |none=>
   have h1:l.length<=s.k:=List.getElem?_eq_none_iff.1 hx;have h2:=hs.le;rw[vJ (by omega)];exact⟨hs,by omega⟩
  |some x=>
   have hk:=(aF.1 hx).1;obtain⟨h1,h2⟩:=hs.step (wk:=wk) (day:=day) (ev:=ev) hw hx (hi _ _ hx) h0 (hev _ _ hx);rw[lQ hu hx];cases f with
   |zero=>omega
   |succ f=>exact mU.run hw hi h0 hev f _ (by omega) h1
theorem mq.steps0 (h:mq cs)(i:Nat):0<=(cs.getD i cd0).steps:=by
 cases hi:cs[i]? with
 |none=>simp[List.getD,hi,cd0]
 |some c=>
  rw[je hi];have:=(jx (h.alone i c hi)).2.1;omega
theorem mq.call (h:mq cs){i:Nat}{c:Cd}(hc:cs[i]? =some c){j:Nat}{x:In}(hx:c.ins[j]? =some x)(ho:x.op=8):x.a.toNat<cs.length/\(x.a.toNat:Int)=x.a/\rk (gj cs) cs.length x.a.toNat<rk (gj cs) cs.length i:=by
 have h1:=vH ((jx (h.alone i c hc)).2.2 j x hx) ho;have h2:x.a.toNat<cs.length:=by omega
 refine⟨h2,by omega,Ly h2 ?_ (h.cyc _ h2)⟩;unfold gj;rw[je hc,List.any_eq_true];exact⟨x,aM hx,by simp[ho];omega⟩
theorem mq.run (h:mq cs): ∀(d i:Nat) (c:Cd),cs[i]? =some c->rk (gj cs) cs.length i<d->
  1<=(evV wk day cs d i).2/\((evV wk day cs d i).2:Int)<=c.steps/\mU cs c.ins (runV wk day (evV wk day cs (d-1)) c.ins ⟨0,[],0⟩)/\(runV wk day (evV wk day cs (d-1)) c.ins ⟨0,[],0⟩).k=c.ins.length/\(runV wk day (evV wk day cs (d-1)) c.ins ⟨0,[],0⟩).S=[(evV wk day cs d i).1]/\(runV wk day (evV wk day cs (d-1)) c.ins ⟨0,[],0⟩).n=(evV wk day cs d i).2
 |0,_,_,_,hd=>by omega
 |d+1,i,c,hc,hd=>by
  have ha:=jx (h.alone i c hc);have hf:=h.fit i c hc
  have hrun:=mU.run (wk:=wk) (day:=day) (ev:=evV wk day cs d) (cs:=cs) hf.well ha.2.2 h.steps0 (fun j x hx ho=>by
   obtain⟨h1,_,h3⟩:=h.call hc hx ho;have hg:cs[x.a.toNat]? =some cs[x.a.toNat]:=az h1;rw[je hg];exact(h.run d _ _ hg (by omega)).2.1) c.ins.length ⟨0,[],0⟩ (by simp) mU.nil
  rw[Nat.add_sub_cancel]
  have e2:evV wk day cs (d+1) i=((runV wk day (evV wk day cs d) c.ins ⟨0,[],0⟩).S.getD 0 noM,(runV wk day (evV wk day cs d) c.ins ⟨0,[],0⟩).n):=by
   rw[evV,je hc]
  rw[e2];dsimp only;generalize runV wk day (evV wk day cs d) c.ins ⟨0,[],0⟩=R at*;obtain⟨hI,hk⟩:=hrun;have h1:=hI.hi;have h2:=hI.st;rw[hk]at h1 h2;rw[hf.well.fin]at h1;rw[hf.steps]at h2;have h3:=hI.on;refine⟨by omega,h2,hI,hk,?_,rfl⟩;obtain⟨T,g,hS⟩:=xk (S:=R.S) (by omega);rw[hS]at h1⊢
  have hT:T=[]:=by
   apply gM;simp at h1;omega
  subst hT;simp
end
end Vx
theorem a8 {p:Prop}(h:p):PH p:=h
theorem qt (n m:Int)(w:World):Calls prog 131 #[ag n,ag m] w fun e w'=>e= .returned (.bool (decide (0<=n/\n<m)))/\w'=w:=by
 by_cases h1:0<=n
 ·by_cases h2:n<m
  ·rw[bm (⟨h1,h2⟩:0<=n/\n<m)];go_enter func131,ntmps131;go_wp2;go_ret;exact⟨rfl,rfl⟩
  ·rw[bn (fun e:0<=n/\n<m=>h2 e.2)];go_enter func131,ntmps131;go_wp2;go_ret;exact⟨rfl,rfl⟩
 ·rw[bn (fun e:0<=n/\n<m=>h1 e.1)];go_enter func131,ntmps131;go_wp2;go_ret;exact⟨rfl,rfl⟩
theorem li (n lo hi:Int)(w:World):Calls prog 183 #[ag n,ag lo,ag hi] w fun e w'=>e= .returned (.bool (decide (lo<=n/\n<=hi)))/\w'=w:=by
 by_cases h1:lo<=n
 ·by_cases h2:n<=hi
  ·rw[bm (⟨h1,h2⟩:lo<=n/\n<=hi)];go_enter func183,ntmps183;go_wp2;go_ret;exact⟨rfl,rfl⟩
  ·rw[bn (fun e:lo<=n/\n<=hi=>h2 e.2)];go_enter func183,ntmps183;go_wp2;go_ret;exact⟨rfl,rfl⟩
 ·rw[bn (fun e:lo<=n/\n<=hi=>h1 e.1)];go_enter func183,ntmps183;go_wp2;go_ret;exact⟨rfl,rfl⟩
theorem ma (b:Bool)(e:Int)(w:World):Calls prog 205 #[.bool b,ag e] w fun r w'=>r= .returned (ag (if b=true then 0 else e))/\w'=w:=by
 cases b
 ·go_enter func205,ntmps205;go_wp2;go_ret;exact⟨rfl,rfl⟩
 ·go_enter func205,ntmps205;go_wp2;go_ret;exact⟨rfl,rfl⟩
def mV (w:World)(v:Value)(l:List (Int×Int)):Prop:=(l=[]/\ ∃p c,v= .slice p 0 c)\/Row w v l
theorem mV.later {w w':World}{v:Value}{l:List (Int×Int)}(h:mV w v l)(hb:aq w w'):mV w' v l:=by
 rcases h with h|h
 ·exact .inl h
 ·exact .inr (h.later hb)
theorem mV.form {w:World}{v:Value}{l:List (Int×Int)}(h:mV w v l): ∃p c,v= .slice p l.length c/\l.length<9223372036854775808/\ ∀(j:Nat) (s:Int×Int),l[j]? =some s-> ∃g o:Nat,p=some ⟨g,o,none⟩/\w.cell? (ae g (o+j*2))=some (ag s.1)/\w.cell? (ae g (o+j*2+1))=some (ag s.2):=by
 rcases h with⟨rfl,p,c,rfl⟩|⟨c,rfl,rfl⟩|⟨g,o,c,rfl,hl,hc⟩
 ·exact⟨p,c,rfl,by decide,fun j s hj=>by simp at hj⟩
 ·exact⟨none,c,rfl,by decide,fun j s hj=>by simp at hj⟩
 ·refine⟨_,c,rfl,hl,fun j s hj=>⟨g,o,rfl,?_⟩⟩;have h1:=(aF.1 hj).1;have:=hc j h1;have e:l.getD j (0,0)=s:=(by simp[List.getD,hj]);rw[e]at this;exact this
theorem Nh (p:Option Addr)(c:Nat)(w:World):
  Calls prog 57 #[.slice p 0 c] w fun e w'=>e= .returned (.agg (mv (inl [])))/\aq w w':=by
 have hz:=eG;have h1:((w.alloc (.cells (mv fun _=>false) 86)).alloc (.cells (mv fun _=>false) 86)).heap[w.heap.size]? =ah (mv fun _=>false) 86:=by(repeat (first|refine dj _ _ _ (by simp only[aU];omega) ?_|exact dz _ _ _ (by first|rfl|simp only[aU])))
 have h2:((w.alloc (.cells (mv fun _=>false) 86)).alloc (.cells (mv fun _=>false) 86)).heap[w.heap.size+1]? =ah (mv fun _=>false) 86:=by(repeat (first|refine dj _ _ _ (by simp only[aU];omega) ?_|exact dz _ _ _ (by first|rfl|simp only[aU])))
 have hb0:aq w ((w.alloc (.cells (mv fun _=>false) 86)).alloc (.cells (mv fun _=>false) 86)):=(am _ _).alloc (by simp) _
 ·go_enter func57,ntmps57;go_wp2;refine wp_loop_rounds 1 ?_;rw[rounds_succ]
  go_wp2_with(first
   |(refine aQ rfl 86 _ rfl _ rfl _ _ _ _ h2 bV rfl (bh _) ?_)
   |(refine ay rfl 86 _ _ rfl _ _ rfl rfl _ _ h1 (bh _) (by simp[bO]) (dR _) ?_))
  refine aW (v:= .agg (mv (inl []))) ?_ rfl ⟨rfl,below_setRow hb0 (aB _) _⟩;exact bc rfl _ _ w.heap.size _ _ _ _ rfl (aL _ _ _ _ _ _ h1) bV rfl (bh _)
theorem Dx (v:Value)(l:List (Int×Int))(w:World)(hl:mV w v l):
  Calls prog 57 #[v] w fun e w'=>e= .returned (.agg (mv (inl l)))/\aq w w':=by
 rcases hl with⟨rfl,p,c,rfl⟩|hl
 ·exact Nh p c w
 ·exact tw v l w hl
theorem EO (l:List (Int×Int))(v:Value)(w:World)(h:mV w v l):Calls prog 206 #[v] w fun r w'=>r= .returned (.bool (risL l (-1)))/\aq w w':=by
 obtain⟨p,c,rfl,hlen,hc⟩:=h.form;have HC:=a8 hc;clear hc h;go_enter func206,ntmps206;go_wp2_with fail;go_loopw [3,8] (fun x t wr=> ∃(j:Nat) (e:Int),x=ag e/\t=ag (j:Int)/\j<=l.length/\risL l (-1)=risL (l.drop j) e/\aq w wr) (fun _ t _=>l.length-(intOf t).toNat);case atStart=>exact⟨0,-1,rfl,rfl,by omega,rfl,aI _ _⟩
 case round=>
  obtain⟨j,e,rfl,rfl,hj,hX,hb⟩:=hrel;have hj0:(0:Int)<=(j:Int):=(by omega);by_cases hlt:j<l.length
  ·have hlt':(j:Int)<(l.length:Int):=(by omega);obtain⟨s,hjk⟩: ∃p,l[j]? =some p:=⟨l[j],az hlt⟩
   rw[GU hjk]at hX;obtain⟨g,o,hpe,c0,c1⟩:=HC.o j _ hjk;subst hpe;obtain⟨x,y⟩:=s;dsimp only at c0 c1 hX;have d0:=aj hb c0;have d1:=aj hb c1;have hb2:=hb.alloc hb.size (.cells #[ag x,ag y] 89);by_cases h1:x<=e
   ·rw[aD (.inl h1)]at hX;have HX:=a8 hX;clear hX hjk HC c0 c1;go_wp2_with fail;go_ret;exact⟨by(rw[HX.o])<;>rfl,hb2⟩
   ·by_cases h2:y<=x
    ·rw[aD (.inr (.inl h2))]at hX;have HX:=a8 hX;clear hX hjk HC c0 c1;go_wp2_with fail;go_ret;exact⟨by(rw[HX.o])<;>rfl,hb2⟩
    ·by_cases h3:1440<y
     ·rw[aD (.inr (.inr h3))]at hX;have HX:=a8 hX;clear hX hjk HC c0 c1;go_wp2_with fail;go_ret;exact⟨by(rw[HX.o])<;>rfl,hb2⟩
     ·rw[ax (by omega)]at hX;have HX:=a8 hX;clear hX hjk c0 c1;go_wp2_with fail;go_roundw;case rel=>exact⟨j+1,y,rfl,by go_num,by omega,HX.o,hb2⟩
      case measure=>simp[intOf];omega
  ·have hlt': ¬(j:Int)<(l.length:Int):=(by omega)
   have HX:PH (risL l (-1)=true):=by
    show _=_;rw[hX,df (by omega)];rfl
   clear hX HC;go_wp2_with fail;go_ret;exact⟨by(rw[HX.o])<;>rfl,hb⟩
end Go.Proofs.YtkfidffapdhbhaaGreatDoor
