/- Texts of the proof. -/
import Derived.Test.YtjkilacmkbmmbaaGreatDoorPe02
set_option maxRecDepth 100000
set_option maxHeartbeats 8000000
namespace Go.Proofs.YtjkilacmkbmmbaaGreatDoor
open Go.Proofs.Tryz Go.RowKit Lx Vx Mx Msk
section
theorem GY (f:Nat->Bool)(x y:Nat)(h1:x<=y):
  bits .or .u64 (wd f (x/64):Int) (IntKind.u64.wrap (((2^(y-x)-1:Nat):Int)*2^(x%64)))=((wd (fun i=>f i||(decide (x<=i)&&decide (i<y))) (x/64):Nat):Int):=by
 have e:IntKind.u64.wrap (((2^(y-x)-1:Nat):Int)*2^(x%64))=((wd (fun i=>decide (x<=i)&&decide (i<y)) (x/64):Nat):Int):=by
  have e1:wd (fun i=>decide (x<=i)&&decide (i<y)) (x/64)=(2^(y-x)-1)*2^(x%64)%18446744073709551616:=by
   symm;refine mG _ _ _ (Nat.mod_lt _ (by omega)) fun j hj=> ?_;rw[yl _ _ j hj,AV];have q1:(x%64<=j)=(x<=64*(x/64)+j):=(by apply propext;omega);by_cases hr:x%64<=j
   ·have q2:(j-x%64<y-x)=(64*(x/64)+j<y):=(by apply propext;omega);simp only[q1,q2]
   ·have q3: ¬x<=64*(x/64)+j:=(by omega);simp[hr,q3]
  rw[gI,e1];have:((2:Int)^(x%64))=((2^(x%64):Nat):Int):=(by simp);rw[this];omega
 rw[e,bits_or_u64_nat _ _ (gS _ _) (gS _ _),AM]
theorem LV (f:Nat->Bool)(x y:Nat)(h1:x<=y)(h2:y<=64*(x/64)+64)(hx:x<1472):
  (mv f).setIfInBounds (x/64) (.int .u64 (bits .or .u64 (wd f (x/64):Int) (IntKind.u64.wrap (((2^(y-x)-1:Nat):Int)*2^(x%64)))))=mv fun i=>f i||(decide (x<=i)&&decide (i<y)):=by
 rw[GY f x y h1,AW _ _ _ (by omega)];refine iP fun i hi=> ?_;by_cases h:i/64=x/64
 ·rw[ay h]
 ·rw[aw h];by_cases q:x<=i
  ·have: ¬i<y:=(by omega);simp[this]
  ·simp[q]
theorem ES (f:Nat->Bool)(x v:Int)(h:v=max x 0):mv f=mv fun i=>f i||(decide (x<=(i:Int))&&decide ((i:Int)<v)):=iP fun i _=>by
 have: ¬(x<=(i:Int)/\(i:Int)<v):=by omega
 by_cases h1:x<=(i:Int)
 ·have: ¬(i:Int)<v:=by omega
  simp[this]
 ·simp[h1]
theorem GZ (f:Nat->Bool)(x:Int)(k n:Nat)(h0:x<=k)(hk:k<=n):(mv fun i=>(f i||(decide (x<=(i:Int))&&decide ((i:Int)<(k:Int))))||(decide (k<=i)&&decide (i<n)))=mv fun i=>f i||(decide (x<=(i:Int))&&decide ((i:Int)<(n:Int))):=iP fun i _=>by
 by_cases h1:i<k
 ·have h2: ¬k<=i:=by omega
  have h3:(i:Int)<k:=(by omega);have h4:(i:Int)<n:=(by omega);simp[h2,h3,h4]
 ·have h2:k<=i:=by omega
  have h3: ¬(i:Int)<k:=(by omega);have h4:((i:Int)<n)=(i<n):=(by apply propext;omega);have h5:x<=(i:Int):=(by omega);simp[h2,h3,h5]
theorem vF (f:Nat->Bool)(x:Int)(k n q r:Nat)(h0:x<=k)(h1:k<=n)(h2:n<=64*(k/64)+64)(hx:k<1472)(hq:q=k/64)(hr:r=k%64)(d:Nat)(hd:d=n-k)
  (F:Nat->Bool) (hF:F=fun i=>f i||(decide (x<=(i:Int))&&decide ((i:Int)<(k:Int)))):
  (mv F).setIfInBounds q (.int .u64 (bits .or .u64 (wd F q:Int) (IntKind.u64.wrap (((2^d-1:Nat):Int)*2^r))))=mv fun i=>f i||(decide (x<=(i:Int))&&decide ((i:Int)<(n:Int))):=by
 subst hq hr hd;rw[LV F k n h1 h2 hx,hF];exact GZ f x k n h0 h1
theorem JM (f:Nat->Bool)(x y v:Int)(h1:v=max x 0\/(v<=y/\v<=1440))(h2:y<=v\/1440<=v):(mv fun i=>f i||(decide (x<=(i:Int))&&decide ((i:Int)<v)))=mv fun i=>f i||(decide (x<=(i:Int))&&decide ((i:Int)<y)&&decide (i<1440)):=iP fun i _=>by
 congr 1;rw[Bool.eq_iff_iff];simp only[bq,bH];omega
attribute [local go_sem↓] Go.wp_at_zero Go.wp_at_succ
theorem JN (f:Nat->Bool)(g:Nat)(x y:Int)(w:World)(hg:w.heap[g]? =ah (mv f) 61):
  Calls prog 116 #[ab g 0,.agg #[ag x,ag y]] w fun e w'=>e= .returned (.tuple #[])/\
   w'.heap[g]? =ah (mv fun i=>f i||(decide (x<=(i:Int))&&decide ((i:Int)<y)&&decide (i<1440))) 61/\Below g w w':=by
 have hgl:=aF hg;go_enter func116,ntmps116;go_wp2;go_region;all_goals go_wp2
 all_goals
  go_loopw [4] (fun i wr=> ∃v:Int,i=ag v/\0<=v/\x<=v/\(v=max x 0\/(v<=y/\v<=1440))/\wr.heap[g]? =ah (mv fun i=>f i||(decide (x<=(i:Int))&&decide ((i:Int)<v))) 61/\Below g w wr) (fun i _=>(1440-intOf i).toNat)
  case atStart=>
   refine⟨_,rfl,by omega,by omega,.inl (by omega),?_,?_⟩
   ·exact iD (cY _ _ _ hgl hg) (ES f x _ (by omega))
   ·exact((aG _ _).alloc (Nat.le_of_lt hgl) _).drew
  case round=>
   obtain⟨v,rfl,hv0,hvx,hv,hm,hbel⟩:=hrel
   by_cases hlt:v<y/\v<1440
   ·obtain⟨hl1,hl2⟩:=hlt
    obtain⟨k,rfl⟩: ∃k:Nat,v=k:=⟨v.toNat,by omega⟩
    obtain⟨yn,rfl⟩: ∃yn:Nat,y=yn:=⟨y.toNat,by omega⟩
    generalize hF:(fun i:Nat=>f i||(decide (x<=(i:Int))&&decide ((i:Int)<(k:Int))))=F at hm
    have HF:P3 (F=fun i:Nat=>f i||(decide (x<=(i:Int))&&decide ((i:Int)<(k:Int)))):=hF.symm
    obtain⟨m,hm1⟩: ∃m:Nat,m=64*(k/64)+64:=⟨_,rfl⟩
    have hmk:m<=k+64/\k<m/\m<=1472:=by omega
    have HM:P3 (m=64*(k/64)+64):=hm1
    have cw:=fun w=>uZ k (by omega) w
    rw[<-hm1]at cw
    have HV:P3 ((k:Int)=max x 0\/((k:Int)<=yn/\(k:Int)<=1440)):=hv
    obtain⟨q,hq⟩: ∃q:Nat,q=k/64:=⟨_,rfl⟩
    obtain⟨r,hr⟩: ∃r:Nat,r=k%64:=⟨_,rfl⟩
    have HQ:P3 (q=k/64):=hq
    have HR:P3 (r=k%64):=hr
    have t1:(k:Int)/64=(q:Int):=by omega
    have t2:(k:Int)%64=(r:Int):=by omega
    have t3:(k:Int).tdiv 64=(q:Int):=by rw[Int.tdiv_eq_ediv_of_nonneg (by omega)];exact t1
    have t4:(k:Int).tmod 64=(r:Int):=by rw[Int.tmod_eq_emod_of_nonneg (by omega)];exact t2
    have cm:=kG hm q (by omega)
    have fm:=bl _ _ q _ _ hm
    have hi0:(0:Int)<=(q:Int):=by omega
    have hi1:(q:Int)<23:=by omega
    have hr0:(0:Int)<=(r:Int):=by omega
    have hr1:(r:Int)<64:=by omega
    have t5:IntKind.i64.wrap (q:Int)=(q:Int):=by rw[bG];omega
    have t6:IntKind.i64.wrap (r:Int)=(r:Int):=by rw[bG];omega
    have t7:IntKind.i64.wrap ((m:Int)-(k:Int))=(m:Int)-(k:Int):=by rw[bG];omega
    have t8:IntKind.i64.wrap (1440-(k:Int))=1440-(k:Int):=by rw[bG];omega
    clear hv hm1 hq hr hF
    rcases(show(m<=yn/\m<=1440)\/(yn<m/\yn<=1440)\/(1440<m/\1440<yn) from by omega) with hA|hA|hA
    ·first
     |(exfalso;omega)
     |(have t9:IntKind.i64.wrap ((m:Int)-(k:Int))=(m:Int)-(k:Int):=by rw[bG];omega
       go_wp2_with(go_at_call 152;refine(cw _).mono ?_;rintro e w' ⟨rfl,rfl⟩)
       go_region_with ((go_at_call 153;refine(yr _ ?_ ?_ _).mono ?_;omega;omega;rintro e w2 ⟨rfl,rfl⟩))
       all_goals
        go_wp2
        go_roundw
        case rel=>
         have hM:=HM.o
         refine⟨m,rfl,by omega,by omega,.inr ⟨by omega,by omega⟩,?_,(hbel.setCell (aA _) _).drew⟩
         refine iD (aX _ _ _ _ _ _ hm) ?_
         exact vF f x k m q r hvx (by omega) (by omega) (by omega) HQ.o HR.o _ (by omega) F HF.o
        case measure=>simp[intOf];omega)
    ·first
     |(exfalso;omega)
     |(have t9:IntKind.i64.wrap ((yn:Int)-(k:Int))=(yn:Int)-(k:Int):=by rw[bG];omega
       go_wp2_with(go_at_call 152;refine(cw _).mono ?_;rintro e w' ⟨rfl,rfl⟩)
       go_region_with ((go_at_call 153;refine(yr _ ?_ ?_ _).mono ?_;omega;omega;rintro e w2 ⟨rfl,rfl⟩))
       all_goals
        go_wp2
        go_roundw
        case rel=>
         have hM:=HM.o
         refine⟨yn,rfl,by omega,by omega,.inr ⟨by omega,by omega⟩,?_,(hbel.setCell (aA _) _).drew⟩
         refine iD (aX _ _ _ _ _ _ hm) ?_
         exact vF f x k yn q r hvx (by omega) (by omega) (by omega) HQ.o HR.o _ (by omega) F HF.o
        case measure=>simp[intOf];omega)
    ·first
     |(exfalso;omega)
     |(have t9:IntKind.i64.wrap ((1440:Int)-(k:Int))=(1440:Int)-(k:Int):=by rw[bG];omega
       go_wp2_with(go_at_call 152;refine(cw _).mono ?_;rintro e w' ⟨rfl,rfl⟩)
       go_region_with ((go_at_call 153;refine(yr _ ?_ ?_ _).mono ?_;omega;omega;rintro e w2 ⟨rfl,rfl⟩))
       all_goals
        go_wp2
        go_roundw
        case rel=>
         have hM:=HM.o
         refine⟨1440,rfl,by omega,by omega,.inr ⟨by omega,by omega⟩,?_,(hbel.setCell (aA _) _).drew⟩
         refine iD (aX _ _ _ _ _ _ hm) ?_
         exact vF f x k 1440 q r hvx (by omega) (by omega) (by omega) HQ.o HR.o _ (by omega) F HF.o
        case measure=>simp[intOf];omega)
   ·go_wp2
    go_end0
    exact⟨rfl,iD hm (JM f x y v hv (by omega)),hbel⟩
end
def Row (w:World)(v:Value)(l:List (Int×Int)):Prop:=
 (∃c,v= .slice none 0 c/\l=[])\/ ∃g o c:Nat,v= .slice (some (ae g o)) l.length c/\l.length<9223372036854775808/\ ∀j,j<l.length->w.cell? (ae g (o+j*2))=some (ag (l.getD j (0,0)).1)/\w.cell? (ae g (o+j*2+1))=some (ag (l.getD j (0,0)).2)
theorem Row.later {w w':World}{v:Value}{l:List (Int×Int)}(h:Row w v l)(hb:ao w w'):Row w' v l:=by
 rcases h with h|⟨g,o,c,hv,hl,hc⟩
 ·exact .inl h
 ·refine .inr ⟨g,o,c,hv,hl,fun j hj=> ?_⟩;obtain⟨c1,c2⟩:=hc j hj;exact⟨aj hb c1,aj hb c2⟩
def inl (l:List (Int×Int))(i:Nat):Bool:=l.any fun s=>decide (s.1<=(i:Int))&&decide ((i:Int)<s.2)&&decide (i<1440)
theorem JO (l:List (Int×Int))(k:Nat)(hk:k<l.length):(mv fun i=>inl (l.take k) i||(decide ((l.getD k (0,0)).1<=(i:Int))&&decide ((i:Int)<(l.getD k (0,0)).2)&&decide (i<1440)))=mv (inl (l.take (k+1))):=by
 have e:l.take (k+1)=l.take k++[l.getD k (0,0)]:=by
  rw[List.take_succ_eq_append_getElem hk];simp[List.getD,hk]
 refine iP fun i _=> ?_;rw[e];simp[inl]
theorem tn (v:Value)(l:List (Int×Int))(w:World)(hl:Row w v l):
  Calls prog 81 #[v] w fun e w'=>e= .returned (.agg (mv (inl l)))/\ao w w':=by
 have hz:=dU;have h1:((w.alloc (.cells (mv fun _=>false) 61)).alloc (.cells (mv fun _=>false) 61)).heap[w.heap.size]? =ah (mv fun _=>false) 61:=by(repeat (first|refine cY _ _ _ (by simp only[aP];omega) ?_|exact dq _ _ _ (by first|rfl|simp only[aP])))
 have h2:((w.alloc (.cells (mv fun _=>false) 61)).alloc (.cells (mv fun _=>false) 61)).heap[w.heap.size+1]? =ah (mv fun _=>false) 61:=by(repeat (first|refine cY _ _ _ (by simp only[aP];omega) ?_|exact dq _ _ _ (by first|rfl|simp only[aP])))
 have hb0:ao w ((w.alloc (.cells (mv fun _=>false) 61)).alloc (.cells (mv fun _=>false) 61)):=(am _ _).alloc (by simp) _;rcases hl with⟨c,rfl,rfl⟩|⟨g,o,c,rfl,hlen,hcell⟩
 ·go_enter func81,ntmps81;go_wp2;refine wp_loop_rounds 1 ?_;rw[rounds_succ]
  go_wp2_with(first
   |(refine aR rfl 61 _ rfl _ rfl _ _ _ _ h2 bQ rfl (ba _) ?_)
   |(refine az rfl 61 _ _ rfl _ _ rfl rfl _ _ h1 (ba _) (by simp[bO]) (dH _) ?_))
  refine aU (v:= .agg (mv (inl []))) ?_ rfl ⟨rfl,below_setRow hb0 (aA _) _⟩;exact a8 rfl _ _ w.heap.size _ _ _ _ rfl (aJ _ _ _ _ _ _ h1) bQ rfl (ba _)
 ·have HC:P3 (∀j,j<l.length->w.cell? (ae g (o+j*2))=some (ag (l.getD j (0,0)).1)/\w.cell? (ae g (o+j*2+1))=some (ag (l.getD j (0,0)).2)):=hcell;clear hcell;go_enter func81,ntmps81;go_wp2;go_loopw [8] (fun i wr=> ∃k:Nat,k<=l.length/\i=ag k/\wr.heap[w.heap.size]? =ah (mv fun _=>false) 61/\wr.heap[w.heap.size+1]? =ah (mv (inl (l.take k))) 61/\ao w wr) (fun i _=>l.length-(intOf i).toNat);case atStart=>exact⟨0,df _,rfl,h1,iD h2 (iP fun i _=>by simp[inl]),hb0⟩
  case round=>
   obtain⟨k,hk,rfl,ho,hm,hbel⟩:=hrel;by_cases hlt:k<l.length
   ·obtain⟨c1,c2⟩:=HC.o k hlt;have d1:=aj hbel c1;have d2:=aj hbel c2;have hsn:=JO l k hlt;generalize hs:l.getD k (0,0)=s at d1 d2 hsn;obtain⟨x,y⟩:=s;dsimp only at d1 d2 hsn;have HS:P3 ((mv fun i=>inl (l.take k) i||(decide (x<=(i:Int))&&decide ((i:Int)<y)&&decide (i<1440)))=mv (inl (l.take (k+1)))):=hsn;have hm2:=cY _ (.cells #[ag x,ag y] 143) _ (aF hm) hm;have ho2:=cY _ (.cells #[ag x,ag y] 143) _ (aF ho) ho;have hb2:=hbel.alloc hbel.size (.cells #[ag x,ag y] 143);clear c1 c2 hsn hs;go_wp2_with(go_at_call 116;refine(JN _ _ _ _ _ hm2).mono ?_;rintro e w' ⟨rfl,hm',hb'⟩)
    go_roundw;case rel=>exact⟨k+1,by omega,by go_num,(hb'.block _ (by omega)).trans ho2,iD hm' HS.o,hb2.trans (hb'.mono (by omega))⟩
    case measure=>simp[intOf];omega
   ·have hkl:k=l.length:=(by omega);subst hkl;have hm2:=iD hm (by rw[fI]);clear hm
    go_wp2_with(first
     |(refine aR rfl 61 _ rfl _ rfl _ _ _ _ hm2 bQ rfl (ba _) ?_)
     |(refine az rfl 61 _ _ rfl _ _ rfl rfl _ _ ho (ba _) (by simp[bO]) (dH _) ?_))
    refine aU (v:= .agg (mv (inl l))) ?_ rfl ⟨rfl,below_setRow hbel (aA _) _⟩;exact a8 rfl _ _ w.heap.size _ _ _ _ rfl (aJ _ _ _ _ _ _ ho) bQ rfl (ba _)
namespace Vx
abbrev Way (E:Nat->Nat->Bool)(i k:Nat):Prop:=Relation.TransGen (fun a b=>E a b=true) i k
def wars (E:Nat->Nat->Bool):Nat->Nat->Nat->Bool
 |0,i,k=>E i k
 |m+1,i,k=>wars E m i k||(wars E m i m&&wars E m m k)
theorem qG {E:Nat->Nat->Bool}{m i k:Nat}(h:wars E m i k=true): ∀d,wars E (m+d) i k=true
 |0=>h
 |d+1=>by
  show wars E ((m+d)+1) i k=true;simp only[wars,qG h d,Bool.true_or]
theorem Bu {E:Nat->Nat->Bool}{m i j k:Nat}(hj:j<m)(h1:wars E m i j=true)(h2:wars E m j k=true):wars E m i k=true:=by
 induction m generalizing i j k with
 |zero=>omega
 |succ m ih=>
  by_cases hjm:j=m
  ·subst hjm;simp only[wars,gY,bq]at h1 h2⊢
   have a:wars E j i j=true:=by
    rcases h1 with h|⟨h,_⟩<;>exact h
   have b:wars E j j k=true:=by
    rcases h2 with h|⟨_,h⟩<;>exact h
   exact .inr ⟨a,b⟩
  ·have hj':j<m:=(by omega);simp only[wars,gY,bq]at h1 h2⊢;rcases h1 with h1|⟨h1,h1'⟩
   ·rcases h2 with h2|⟨h2,h2'⟩
    ·exact .inl (ih hj' h1 h2)
    ·exact .inr ⟨ih hj' h1 h2,h2'⟩
   ·rcases h2 with h2|⟨h2,h2'⟩
    ·exact .inr ⟨h1,ih hj' h1' h2⟩
    ·exact .inr ⟨h1,h2'⟩
def rk (E:Nat->Nat->Bool)(n i:Nat):Nat:=Msk.cnt (fun k=>wars E n i k) n
theorem BC {f g:Nat->Bool}: ∀{n:Nat},(∀k,k<n->f k=true->g k=true)->Msk.cnt f n<=Msk.cnt g n
 |0,_=>aA _
 |n+1,h=>by
  have ih:=BC (f:=f) (g:=g) (n:=n) (fun k hk=>h k (by omega));simp only[Msk.cnt];have:=h n (by omega);cases hf:f n with
  |false=>cases g n<;>simp<;>omega
  |true=>rw[this hf];simp;omega
theorem BD {f g:Nat->Bool}: ∀{n s:Nat},s<n->(∀k,k<n->f k=true->g k=true)->f s=false->g s=true->Msk.cnt f n<Msk.cnt g n
 |0,_,hs,_,_,_=>by omega
 |n+1,s,hs,h,h1,h2=>by
  simp only[Msk.cnt];by_cases e:s=n
  ·subst e;have:=BC (f:=f) (g:=g) (n:=s) (fun k hk=>h k (by omega));rw[h1,h2];simp;omega
  ·have ih:=BD (f:=f) (g:=g) (n:=n) (s:=s) (by omega) (fun k hk=>h k (by omega)) h1 h2;have:=h n (by omega);cases hf:f n with
   |false=>cases g n<;>simp<;>omega
   |true=>rw[this hf];simp;omega
theorem LW {E:Nat->Nat->Bool}{n i s:Nat}(hs:s<n)(hE:E i s=true)(hc:wars E n s s=false):rk E n s<rk E n i:=by
 have h0:wars E n i s=true:=by have:=qG (E:=E) (m:=0) hE n;simpa using this
 exact BD hs (fun k _ hk=>Bu hs h0 hk) hc h0
theorem OX (E:Nat->Nat->Bool)(n i:Nat):rk E n i<=n:=Msk.Nj _ _
structure In where
 op:Int
 a:Int
 b:Int
 to:Int
 sp:List (Int×Int)
structure Cd where
 ins:List In
 high:Int
 steps:Int
def in0:In:=⟨0,0,0,0,[]⟩
def cd0:Cd:=⟨[],0,0⟩
def risL:List (Int×Int)->Int->Bool
 |[],_=>true
 |s::l,e=>if s.1<=e\/s.2<=s.1\/1440<s.2 then false else risL l s.2
theorem G0 {l:List (Int×Int)}{j:Nat}{s:Int×Int}{e:Int}(h:l[j]? =some s):risL (l.drop j) e=if s.1<=e\/s.2<=s.1\/1440<s.2 then false else risL (l.drop (j+1)) s.2:=by
 obtain⟨h1,h2⟩:=aE.1 h;rw[bx h1,h2];rfl
def fj (x:In)(k n rules:Nat):Int:=
 if x.op=2\/x.op=3\/x.op=4 then 0
 else if x.op=1 then(if risL x.sp (-1)=true then 0 else 2)
 else if x.op=5 then(if x.a≠0/\ -1439<=x.a/\x.a<=1439 then 0 else 3)
 else if x.op=6 then(if(k:Int)+2<=x.to/\x.to<=n then(if 1<=x.a/\x.a<=127 then 0 else 3) else 8)
 else if x.op=7 then(if(k:Int)+2<=x.to/\x.to<=n then(if 0<=x.a/\x.a<=x.b/\x.b<146097 then 0 else 3) else 8)
 else if x.op=8 then(if 0<=x.a/\x.a<rules then 0 else 6)
 else 1
def oW:List In->Nat->Nat->Nat->Int
 |[],_,_,_=>0
 |x::l,k,n,r=>if fj x k n r≠0 then fj x k n r else oW l (k+1) n r
theorem G2 {l:List In}{j n r:Nat}{x:In}(h:l[j]? =some x):oW (l.drop j) j n r=if fj x j n r≠0 then fj x j n r else oW (l.drop (j+1)) (j+1) n r:=by
 obtain⟨h1,h2⟩:=aE.1 h;rw[bx h1,h2];rfl
theorem DE {n r:Nat}: ∀{l:List In} {k:Nat},oW l k n r=0-> ∀j x,l[j]? =some x->fj x (k+j) n r=0
 |[],_,_,j,x,hj=>by simp at hj
 |y::l,k,h,j,x,hj=>by
  by_cases hy:fj y k n r=0
  ·have h':oW l (k+1) n r=0:=(by simpa[oW,hy] using h);cases j with
   |zero=>simp at hj;subst hj;simpa using hy
   |succ j=>
    have:=DE h' j x (by simpa using hj);rw[show k+(j+1)=k+1+j by omega];exact this
  ·exfalso;simp[oW,hy]at h
def aloneE (c:Cd)(rules:Nat):Int:=
 if¬(1<=c.ins.length/\c.ins.length<=2000) then 5
 else if¬((1<=c.high/\c.high<=100)/\(1<=c.steps/\c.steps<=20000)) then 4
 else oW c.ins 0 c.ins.length rules
def gh (E:Nat->Int):Nat->Nat->Int×Nat
 |0,_=>(0,0)
 |m+1,i=>if E i≠0 then(E i,i) else gh E m (i+1)
theorem oO {E:Nat->Int}: ∀(m i:Nat),(gh E m i).1=0->gh E m i=(0,0)/\ ∀j,i<=j->j<i+m->E j=0
 |0,_,_=>⟨rfl,fun j h1 h2=>by omega⟩
 |m+1,i,h=>by
  by_cases he:E i=0
  ·have e1:gh E (m+1) i=gh E m (i+1):=(by simp[gh,he]);rw[e1]at h⊢;obtain⟨h1,h2⟩:=oO m (i+1) h;refine⟨h1,fun j hj hl=> ?_⟩;by_cases e:j=i
   ·rw[e];exact he
   ·exact h2 j (by omega) (by omega)
  ·exfalso;simp[gh,he]at h
def eff (x:In):Int:=if x.op=1\/x.op=8 then 1 else if x.op=2\/x.op=3\/x.op=4 then-1 else 0
def tk (x:In):Int:=if x.op=5 then 1 else if x.op=2\/x.op=3\/x.op=4 then 2 else 0
def isG (x:In):Prop:=x.op=6\/x.op=7
def hAt (l:List In):Nat->Int
 |0=>0
 |j+1=>hAt l j+eff (l.getD j in0)
def mxH (cs:List Cd)(l:List In):Nat->Int
 |0=>0
 |j+1=>max (if(l.getD j in0).op=8 then max (mxH cs l j) (hAt l j+(cs.getD (l.getD j in0).a.toNat cd0).high) else mxH cs l j) (hAt l (j+1))
def stS (cs:List Cd)(l:List In):Nat->Int
 |0=>0
 |j+1=>stS cs l j+1+(if(l.getD j in0).op=8 then(cs.getD (l.getD j in0).a.toNat cd0).steps else 0)
theorem pJ {l:List In}{j:Nat}{x:In}(h:l[j]? =some x):l.getD j in0=x:=by simp[List.getD,h]
theorem jp {l:List In}{j:Nat}{x:In}(h:l[j]? =some x):hAt l (j+1)=hAt l j+eff x:=by rw[hAt,pJ h]
theorem ku {cs:List Cd}{l:List In}{j:Nat}{x:In}(h:l[j]? =some x):mxH cs l (j+1)=max (if x.op=8 then max (mxH cs l j) (hAt l j+(cs.getD x.a.toNat cd0).high) else mxH cs l j) (hAt l (j+1)):=by rw[mxH,pJ h]
theorem jH {cs:List Cd}{l:List In}{j:Nat}{x:In}(h:l[j]? =some x):stS cs l (j+1)=stS cs l j+1+(if x.op=8 then(cs.getD x.a.toNat cd0).steps else 0):=by rw[stS,pJ h]
theorem NE (cs:List Cd)(l:List In)(j:Nat):mxH cs l j<=mxH cs l (j+1):=by
 simp only[mxH];split<;>omega
theorem BE (cs:List Cd)(l:List In){j k:Nat}(h:j<=k):mxH cs l j<=mxH cs l k:=by
 obtain⟨d,rfl⟩:=Nat.exists_eq_add_of_le h;clear h;induction d with
 |zero=>exact fi _
 |succ d ih=>exact Int.le_trans ih (NE cs l (j+d))
theorem G3 (cs:List Cd)(l:List In): ∀j,hAt l j<=mxH cs l j
 |0=>fi _
 |j+1=>by
  simp only[mxH];omega
theorem LX {cs:List Cd}{l:List In}{j n:Nat}(h:j<=n):hAt l j<=mxH cs l n:=Int.le_trans (G3 cs l j) (BE cs l h)
theorem JP {cs:List Cd}{l:List In}{j n:Nat}{x:In}(hj:l[j]? =some x)(h:j<n)(ho:x.op=8):hAt l j+(cs.getD x.a.toNat cd0).high<=mxH cs l n:=by
 refine Int.le_trans ?_ (BE cs l (show j+1<=n by omega));rw[ku hj,ay ho];omega
structure lN (l:List In):Prop where
 tk: ∀j x,l[j]? =some x->tk x<=hAt l j
 to: ∀j x,l[j]? =some x->isG x->hAt l x.to.toNat=hAt l j+1
 fin:hAt l l.length=1
structure NF (cs:List Cd)(c:Cd):Prop where
 well:lN c.ins
 high:mxH cs c.ins c.ins.length=c.high
 steps:stS cs c.ins c.ins.length=c.steps
def ET (l:List In):Bool:=((List.range l.length).all fun j=>decide (tk (l.getD j in0)<=hAt l j)&&(!(decide ((l.getD j in0).op=6)||decide ((l.getD j in0).op=7))||decide (hAt l (l.getD j in0).to.toNat=hAt l j+1)))&&decide (hAt l l.length=1)
theorem G4 {l:List In}:ET l=true↔lN l:=by
 unfold ET;rw[bq,dj,bH];constructor
 ·rintro⟨h1,h2⟩;refine⟨fun j x hx=> ?_,fun j x hx hg=> ?_,h2⟩
  ·have h3:=h1 j (gQ.2 (aE.1 hx).1);rw[pJ hx,bq,bH]at h3;exact h3.1
  ·have h3:=h1 j (gQ.2 (aE.1 hx).1);rw[pJ hx,bq,gY]at h3;rcases h3.2 with h4|h4
   ·unfold isG at hg;rcases hg with e|e<;>simp[e]at h4
   ·exact eG h4
 ·intro h;refine⟨fun j hj=> ?_,h.fin⟩;have hj':=gQ.1 hj;have hx:l[j]? =some l[j]:=ax hj';rw[pJ hx,bq,gY];refine⟨a7 (h.tk j _ hx),?_⟩;by_cases hg:isG l[j]
  ·exact .inr (a7 (h.to j _ hx hg))
  ·left;unfold isG at hg;have h6: ¬(l[j]).op=6:=fun e=>hg (.inl e);have h7: ¬(l[j]).op=7:=fun e=>hg (.inr e);simp[h6,h7]
def nQ (cs:List Cd)(c:Cd):Bool:=ET c.ins&&(decide (mxH cs c.ins c.ins.length=c.high)&&decide (stS cs c.ins c.ins.length=c.steps))
theorem mi {cs:List Cd}{c:Cd}:nQ cs c=true↔NF cs c:=by
 unfold nQ;rw[bq,bq,bH,bH,G4];exact⟨fun h=>⟨h.1,h.2.1,h.2.2⟩,fun h=>⟨h.well,h.high,h.steps⟩⟩
def fL (cs:List Cd)(i k:Nat):Bool:=(cs.getD i cd0).ins.any fun x=>decide (x.op=8)&&decide (x.a=(k:Int))
def pA (cs:List Cd)(i:Nat):Int:=if wars (fL cs) cs.length i i=true then 9 else if nQ cs (cs.getD i cd0)=true then 0 else 8
def jw (cs:List Cd):Int×Nat:=
 if 40<cs.length then(5,0)
 else if(gh (fun i=>aloneE (cs.getD i cd0) cs.length) cs.length 0).1≠0 then gh (fun i=>aloneE (cs.getD i cd0) cs.length) cs.length 0
 else gh (pA cs) cs.length 0
structure l3 (cs:List Cd):Prop where
 len:cs.length<=40
 alone: ∀(i:Nat) (c:Cd),cs[i]? =some c->aloneE c cs.length=0
 cyc: ∀i,i<cs.length->wars (fL cs) cs.length i i=false
 fit: ∀(i:Nat) (c:Cd),cs[i]? =some c->NF cs c
theorem iO {cs:List Cd}{i:Nat}{c:Cd}(h:cs[i]? =some c):cs.getD i cd0=c:=by simp[List.getD,h]
theorem CX {cs:List Cd}(h:(jw cs).1=0):l3 cs:=by
 unfold jw at h;by_cases h1:40<cs.length
 ·rw[ay h1]at h;simp at h
 ·rw[aw h1]at h;by_cases h2:(gh (fun i=>aloneE (cs.getD i cd0) cs.length) cs.length 0).1≠0
  ·rw[ay h2]at h;exact absurd h h2
  ·rw[aw h2]at h;have a:=(oO _ _ (Decidable.not_not.1 h2)).2;have b:=(oO _ _ h).2;refine⟨by omega,fun i c hi=> ?_,fun i hi=> ?_,fun i c hi=> ?_⟩
   ·have:=a i (by omega) (by have:=(aE.1 hi).1;omega);rw[iO hi]at this;exact this
   ·have:=b i (by omega) (by omega);unfold pA at this;cases hw:wars (fL cs) cs.length i i with
    |false=>rfl
    |true=>rw[ay hw]at this;simp at this
   ·have:=b i (by omega) (by have:=(aE.1 hi).1;omega);unfold pA at this;rw[iO hi]at this;by_cases hw:wars (fL cs) cs.length i i=true
    ·rw[ay hw]at this;simp at this
    ·rw[aw hw]at this;by_cases hf:nQ cs c=true
     ·exact mi.1 hf
     ·rw[aw hf]at this;simp at this
theorem je {c:Cd}{r:Nat}(h:aloneE c r=0):(1<=c.ins.length/\c.ins.length<=2000)/\((1<=c.high/\c.high<=100)/\(1<=c.steps/\c.steps<=20000))/\ ∀j x,c.ins[j]? =some x->fj x j c.ins.length r=0:=by
 unfold aloneE at h;by_cases h1:1<=c.ins.length/\c.ins.length<=2000
 ·rw[aw (fun e=>e h1)]at h;by_cases h2:(1<=c.high/\c.high<=100)/\(1<=c.steps/\c.steps<=20000)
  ·rw[aw (fun e=>e h2)]at h;refine⟨h1,h2,fun j x hj=> ?_⟩;have:=DE h j x hj;simpa using this
  ·rw[ay h2]at h;simp at h
 ·rw[ay h1]at h;simp at h
theorem vG {x:In}{k n r:Nat}(h:fj x k n r=0)(ho:x.op=8):0<=x.a/\x.a<r:=by
 simp only[fj,ho]at h;simp only[show¬((8:Int)=2\/(8:Int)=3\/(8:Int)=4) by omega,show¬(8:Int)=1 by omega,show¬(8:Int)=5 by omega,show¬(8:Int)=6 by omega,show¬(8:Int)=7 by omega,if_false,if_true]at h;by_cases hh:0<=x.a/\x.a<r
 ·exact hh
 ·rw[aw hh]at h;simp at h
theorem rD {x:In}{k n r:Nat}(h:fj x k n r=0)(ho:isG x):(k:Int)+2<=x.to/\x.to<=n:=by
 rcases ho with ho|ho
 ·simp only[fj,ho]at h;simp only[show¬((6:Int)=2\/(6:Int)=3\/(6:Int)=4) by omega,show¬(6:Int)=1 by omega,show¬(6:Int)=5 by omega,if_false,if_true]at h;by_cases hh:(k:Int)+2<=x.to/\x.to<=n
  ·exact hh
  ·rw[aw hh]at h;simp at h
 ·simp only[fj,ho]at h;simp only[show¬((7:Int)=2\/(7:Int)=3\/(7:Int)=4) by omega,show¬(7:Int)=1 by omega,show¬(7:Int)=5 by omega,show¬(7:Int)=6 by omega,if_false,if_true]at h;by_cases hh:(k:Int)+2<=x.to/\x.to<=n
  ·exact hh
  ·rw[aw hh]at h;simp at h
def lk:List (Int×Int)->Int->Option Int
 |[],_=>none
 |e::L,k=>if k=e.1 then some e.2 else lk L k
def upL:List (Int×Int)->Int->Int->List (Int×Int)
 |[],k,v=>[(k,v)]
 |e::L,k,v=>if k=e.1 then(k,v)::L else e::upL L k v
theorem AO: ∀(L:List (Int×Int)) (k v q:Int),lk (upL L k v) q=if q=k then some v else lk L q
 |[],k,v,q=>by simp[upL,lk]
 |e::L,k,v,q=>by
  unfold upL;by_cases h:k=e.1
  ·rw[ay h];simp only[lk];by_cases hq:q=k
   ·rw[ay hq,ay hq]
   ·rw[aw hq,aw hq,aw (fun e'=>hq (e'.trans h.symm))]
  ·rw[aw h];simp only[lk];rw[AO L k v q];by_cases hq:q=e.1
   ·rw[ay hq,aw (fun e'=>h (e'.symm.trans hq)),ay hq]
   ·rw[aw hq,aw hq]
structure lz (l:List In)(k:Nat)(L:List (Int×Int)):Prop where
 set: ∀(j:Nat) (x:In),j<k->l[j]? =some x->isG x->lk L x.to=some (hAt l j+1)
 got: ∀p v,lk L p=some v-> ∃(j:Nat) (x:In),j<k/\l[j]? =some x/\isG x/\x.to=p/\v=hAt l j+1
 tk: ∀(j:Nat) (x:In),j<k->l[j]? =some x->tk x<=hAt l j
 met: ∀p:Nat,p<k-> ∀v,lk L (p:Int)=some v->v=hAt l p
def Tos (l:List In):Prop:= ∀(j:Nat) (x:In),l[j]? =some x->isG x->(j:Int)+2<=x.to/\x.to<=l.length
theorem lz.nil (l:List In):lz l 0 []:=⟨fun j x h=>by omega,fun p v h=>by simp[lk]at h,fun j x h=>by omega,fun p h=>by omega⟩
theorem lz.step {l:List In}{k:Nat}{L:List (Int×Int)}{x:In}(h:lz l k L)(hT:Tos l)(hx:l[k]? =some x)(ht:Vx.tk x<=hAt l k)(hm: ∀v,lk L (k:Int)=some v->v=hAt l k)(hg: ¬isG x):lz l (k+1) L:=by
 have _:=hT;refine⟨fun j y hj hy hgy=> ?_,fun p v hp=> ?_,fun j y hj hy=> ?_,fun p hp v hv=> ?_⟩
 ·by_cases e:j=k
  ·subst e;rw[hx]at hy;cases hy;exact absurd hgy hg
  ·exact h.set j y (by omega) hy hgy
 ·obtain⟨j,y,h1,h2⟩:=h.got p v hp;exact⟨j,y,by omega,h2⟩
 ·by_cases e:j=k
  ·subst e;rw[hx]at hy;cases hy;exact ht
  ·exact h.tk j y (by omega) hy
 ·by_cases e:p=k
  ·subst e;exact hm v hv
  ·exact h.met p (by omega) v hv
theorem lz.stepG {l:List In}{k:Nat}{L:List (Int×Int)}{x:In}(h:lz l k L)(hT:Tos l)(hx:l[k]? =some x)(ht:Vx.tk x<=hAt l k)(hm: ∀v,lk L (k:Int)=some v->v=hAt l k)(hg:isG x)(ha: ∀v,lk L x.to=some v->v=hAt l k+1):lz l (k+1) (upL L x.to (hAt l k+1)):=by
 have t:=hT k x hx hg;refine⟨fun j y hj hy hgy=> ?_,fun p v hp=> ?_,fun j y hj hy=> ?_,fun p hp v hv=> ?_⟩
 ·rw[AO];by_cases e:j=k
  ·subst e;rw[hx]at hy;cases hy;rw[ay rfl]
  ·have:=h.set j y (by omega) hy hgy;by_cases e2:y.to=x.to
   ·rw[ay e2];rw[e2]at this;rw[ha _ this]
   ·rw[aw e2];exact this
 ·rw[AO]at hp;by_cases e:p=x.to
  ·rw[ay e]at hp;exact⟨k,x,by omega,hx,hg,e.symm,(aK hp).symm⟩
  ·rw[aw e]at hp;obtain⟨j,y,h1,h2⟩:=h.got p v hp;exact⟨j,y,by omega,h2⟩
 ·by_cases e:j=k
  ·subst e;rw[hx]at hy;cases hy;exact ht
  ·exact h.tk j y (by omega) hy
 ·rw[AO,aw (by omega)]at hv;by_cases e:p=k
  ·subst e;exact hm v hv
  ·exact h.met p (by omega) v hv
theorem NG {l:List In}{k:Nat}{x:In}(hx:l[k]? =some x)(h:hAt l k<tk x): ¬lN l:=fun hw=>by
 have:=hw.tk k x hx;omega
theorem lz.not_met {l:List In}{k:Nat}{L:List (Int×Int)}(h:lz l k L){p:Nat}{v:Int}(hp:lk L (p:Int)=some v)(hv:v≠hAt l p): ¬lN l:=fun hw=>by
 obtain⟨j,x,_,hj,hg,ht,rfl⟩:=h.got _ _ hp;have:=hw.to j x hj hg;rw[ht]at this;simp at this;exact hv this.symm
theorem lz.not_two {l:List In}{k:Nat}{L:List (Int×Int)}{x:In}(h:lz l k L)(hx:l[k]? =some x)(hg:isG x){v:Int}(hp:lk L x.to=some v)(hv:v≠hAt l k+1): ¬lN l:=fun hw=>by
 obtain⟨j,y,_,hj,hgy,ht,rfl⟩:=h.got _ _ hp;have h1:=hw.to j y hj hgy;have h2:=hw.to k x hx hg;rw[ht]at h1;exact hv (h1.symm.trans h2)
theorem lz.fin {l:List In}{L:List (Int×Int)}(h:lz l l.length L)(hT:Tos l):(hAt l l.length=1/\ ∀v,lk L (l.length:Int)=some v->v=hAt l l.length)↔lN l:=by
 constructor
 ·rintro⟨h1,h2⟩;refine⟨fun j x hj=>h.tk j x (aE.1 hj).1 hj,fun j x hj hg=> ?_,h1⟩;have t:=hT j x hj hg;have hs:=h.set j x (aE.1 hj).1 hj hg;have e:x.to=(x.to.toNat:Int):=(by omega);rw[e]at hs;by_cases hl:x.to.toNat<l.length
  ·exact(h.met _ hl _ hs).symm
  ·have e2:x.to.toNat=l.length:=(by omega);rw[e2]at hs⊢;exact(h2 _ hs).symm
 ·intro hw;refine⟨hw.fin,fun v hv=> ?_⟩;exact d7 fun hne=>h.not_met hv hne hw
section
abbrev M:=Nat->Bool
def spM (l:List (Int×Int)):M:=fun i=>l.any fun s=>decide (s.1<=(i:Int))&&decide ((i:Int)<s.2)&&decide (i<1440)
def unM (f g:M):M:=fun i=>(f i||g i)&&decide (i<1440)
def dfM (f g:M):M:=fun i=>(f i&& !g i)&&decide (i<1440)
def boM (f g:M):M:=fun i=>(f i&&g i)&&decide (i<1440)
def shM (f:M)(x:Int):M:=fun t=>decide (t<1440)&&(decide (x<=(t:Int))&&(decide ((t:Int)-x<1440)&&f ((t:Int)-x).toNat))
def noM:M:=fun _=>false
def yC (F:M->M)(S:List M):List M:=match S.reverse with
 |g::T=>T.reverse++[F g]
 |[]=>[]
def mK (F:M->M->M)(S:List M):List M:=match S.reverse with
 |g::f::T=>T.reverse++[F f g]
 |_=>[]
theorem yD (F:M->M)(T:List M)(g:M):yC F (T++[g])=T++[F g]:=by simp[yC]
theorem lO (F:M->M->M)(T:List M)(f g:M):mK F (T++[f,g])=T++[F f g]:=by simp[mK]
theorem xl {S:List M}(h:1<=S.length): ∃T g,S=T++[g]:=by
 rcases List.eq_nil_or_concat S with rfl|⟨T,g,rfl⟩
 ·simp at h
 ·exact⟨T,g,by simp⟩
theorem ux {S:List M}(h:2<=S.length): ∃T f g,S=T++[f,g]:=by
 obtain⟨T,g,rfl⟩:=xl (S:=S) (by omega);obtain⟨U,f,rfl⟩:=xl (S:=T) (by simp at h;omega);exact⟨U,f,g,by simp⟩
structure St where
 k:Nat
 S:List M
 n:Nat
section
variable (wk:Int->Bool) (day:Int)
def onD (x:In):Bool:=if x.op=6 then wk x.a else decide (x.a<=day)&&decide (day<=x.b)
def dz (ev:Nat->M×Nat)(x:In)(s:St):St:=
 if x.op=1 then⟨s.k+1,s.S++[spM x.sp],s.n+1⟩
 else if x.op=2 then⟨s.k+1,mK unM s.S,s.n+1⟩
 else if x.op=3 then⟨s.k+1,mK dfM s.S,s.n+1⟩
 else if x.op=4 then⟨s.k+1,mK boM s.S,s.n+1⟩
 else if x.op=5 then⟨s.k+1,yC (fun f=>shM f x.a) s.S,s.n+1⟩
 else if x.op=8 then⟨s.k+1,s.S++[(ev x.a.toNat).1],s.n+1+(ev x.a.toNat).2⟩
 else if onD wk day x=true then⟨s.k+1,s.S,s.n+1⟩
 else⟨x.to.toNat,s.S++[noM],s.n+1⟩
def goV (ev:Nat->M×Nat)(l:List In):Nat->St->St
 |0,s=>s
 |f+1,s=>match l[s.k]? with
  |none=>s
  |some x=>goV ev l f (dz wk day ev x s)
def runV (ev:Nat->M×Nat)(l:List In)(s:St):St:=goV wk day ev l (l.length-s.k) s
def evV (cs:List Cd):Nat->Nat->M×Nat
 |0,_=>(noM,0)
 |d+1,r=>((runV wk day (evV cs d) (cs.getD r cd0).ins ⟨0,[],0⟩).S.getD 0 noM,(runV wk day (evV cs d) (cs.getD r cd0).ins ⟨0,[],0⟩).n)
end
structure mL (cs:List Cd)(l:List In)(s:St):Prop where
 le:s.k<=l.length
 hi:(s.S.length:Int)=hAt l s.k
 st:(s.n:Int)<=stS cs l s.k
 on:s.k=0\/1<=s.n
variable {wk:Int->Bool} {day:Int} {ev:Nat->M×Nat} {cs:List Cd} {l:List In}
theorem mL.nil:mL cs l ⟨0,[],0⟩:=⟨df _,by simp[hAt],by simp[stS],.inl rfl⟩
theorem vH (h0: ∀i,0<=(cs.getD i cd0).steps){j k:Nat}(h:j<=k):stS cs l j<=stS cs l k:=by
 obtain⟨d,rfl⟩:=Nat.exists_eq_add_of_le h;clear h;induction d with
 |zero=>exact fi _
 |succ d ih=>
  refine Int.le_trans ih ?_;show stS cs l (j+d)<=stS cs l ((j+d)+1);simp only[stS];have:=h0 (l.getD (j+d) in0).a.toNat;split<;>omega
theorem tp {x:In}{k n r:Nat}(h:fj x k n r=0):x.op=1\/x.op=2\/x.op=3\/x.op=4\/x.op=5\/x.op=8\/isG x:=by
 unfold fj at h;unfold isG;split at h
 ·omega
 split at h
 ·omega
 split at h
 ·omega
 split at h
 ·omega
 split at h
 ·omega
 split at h
 ·omega
 ·simp at h
theorem mL.step {s:St}{x:In}{r:Nat}(hs:mL cs l s)(hw:lN l)(hx:l[s.k]? =some x)(hi:fj x s.k l.length r=0)(h0: ∀i,0<=(cs.getD i cd0).steps)
  (hev:x.op=8->((ev x.a.toNat).2:Int)<=(cs.getD x.a.toNat cd0).steps):mL cs l (dz wk day ev x s)/\s.k<(dz wk day ev x s).k:=by
 have hk:=(aE.1 hx).1;have htk:=hw.tk _ _ hx;have hst:=jH (cs:=cs) hx;have hht:=jp hx;have a1:=hs.hi;have a2:=hs.st;rcases tp hi with ho|ho|ho|ho|ho|ho|ho
 ·have e:dz wk day ev x s=⟨s.k+1,s.S++[spM x.sp],s.n+1⟩:=by simp[dz,ho]
  rw[e];have:eff x=1:=(by simp[eff,ho]);rw[aw (by omega)]at hst;refine⟨⟨by dsimp only;omega,?_,?_,.inr (by dsimp only;omega)⟩,by dsimp only;omega⟩
  ·dsimp only;rw[aL];simp;omega
  ·dsimp only;omega
 ·have e:dz wk day ev x s=⟨s.k+1,mK unM s.S,s.n+1⟩:=by simp[dz,ho]
  rw[e];have h1:eff x= -1:=(by simp[eff,ho]);have h2:tk x=2:=(by simp[tk,ho]);obtain⟨T,f,g,hS⟩:=ux (S:=s.S) (by omega);rw[aw (by omega)]at hst;rw[hS]at a1;simp at a1;refine⟨⟨by dsimp only;omega,?_,?_,.inr (by dsimp only;omega)⟩,by dsimp only;omega⟩
  ·dsimp only;rw[hS,lO];simp;omega
  ·dsimp only;omega
 ·have e:dz wk day ev x s=⟨s.k+1,mK dfM s.S,s.n+1⟩:=by simp[dz,ho]
  rw[e];have h1:eff x= -1:=(by simp[eff,ho]);have h2:tk x=2:=(by simp[tk,ho]);obtain⟨T,f,g,hS⟩:=ux (S:=s.S) (by omega);rw[aw (by omega)]at hst;rw[hS]at a1;simp at a1;refine⟨⟨by dsimp only;omega,?_,?_,.inr (by dsimp only;omega)⟩,by dsimp only;omega⟩
  ·dsimp only;rw[hS,lO];simp;omega
  ·dsimp only;omega
 ·have e:dz wk day ev x s=⟨s.k+1,mK boM s.S,s.n+1⟩:=by simp[dz,ho]
  rw[e];have h1:eff x= -1:=(by simp[eff,ho]);have h2:tk x=2:=(by simp[tk,ho]);obtain⟨T,f,g,hS⟩:=ux (S:=s.S) (by omega);rw[aw (by omega)]at hst;rw[hS]at a1;simp at a1;refine⟨⟨by dsimp only;omega,?_,?_,.inr (by dsimp only;omega)⟩,by dsimp only;omega⟩
  ·dsimp only;rw[hS,lO];simp;omega
  ·dsimp only;omega
 ·have e:dz wk day ev x s=⟨s.k+1,yC (fun f=>shM f x.a) s.S,s.n+1⟩:=by simp[dz,ho]
  rw[e];have h1:eff x=0:=(by simp[eff,ho]);have h2:tk x=1:=(by simp[tk,ho]);obtain⟨T,g,hS⟩:=xl (S:=s.S) (by omega);rw[aw (by omega)]at hst;rw[hS]at a1;simp at a1;refine⟨⟨by dsimp only;omega,?_,?_,.inr (by dsimp only;omega)⟩,by dsimp only;omega⟩
  ·dsimp only;rw[hS,yD];simp;omega
  ·dsimp only;omega
 ·have e:dz wk day ev x s=⟨s.k+1,s.S++[(ev x.a.toNat).1],s.n+1+(ev x.a.toNat).2⟩:=by simp[dz,ho]
  rw[e];have h1:eff x=1:=(by simp[eff,ho]);have h3:=hev ho;rw[ay ho]at hst;refine⟨⟨by dsimp only;omega,?_,?_,.inr (by dsimp only;omega)⟩,by dsimp only;omega⟩
  ·dsimp only;rw[aL];simp;omega
  ·dsimp only;omega
 ·have hto:=rD hi ho;have hgt:=hw.to _ _ hx ho;have hs8: ¬x.op=8:=(by unfold isG at ho;omega);rw[aw hs8]at hst
  have he:eff x=0:=by
   unfold eff;unfold isG at ho;rw[aw (by omega),aw (by omega)]
  by_cases hd:onD wk day x=true
  ·have e:dz wk day ev x s=⟨s.k+1,s.S,s.n+1⟩:=by
    unfold isG at ho;unfold dz;rw[aw (by omega),aw (by omega),aw (by omega),aw (by omega),aw (by omega),aw (by omega),ay hd]
   rw[e];refine⟨⟨by dsimp only;omega,?_,?_,.inr (by dsimp only;omega)⟩,by dsimp only;omega⟩
   ·dsimp only;omega
   ·dsimp only;omega
  ·have e:dz wk day ev x s=⟨x.to.toNat,s.S++[noM],s.n+1⟩:=by
    unfold isG at ho;unfold dz;rw[aw (by omega),aw (by omega),aw (by omega),aw (by omega),aw (by omega),aw (by omega),aw hd]
   rw[e];have:=vH (l:=l) h0 (show s.k+1<=x.to.toNat by omega);refine⟨⟨by dsimp only;omega,?_,?_,.inr (by dsimp only;omega)⟩,by dsimp only;omega⟩
   ·dsimp only;rw[aL];simp;omega
   ·dsimp only;omega
theorem vI {s:St}(h:s.k=l.length):runV wk day ev l s=s:=by
 unfold runV;rw[show l.length-s.k=0 by omega];rfl
def Up (wk:Int->Bool)(day:Int)(ev:Nat->M×Nat)(l:List In):Prop:= ∀s x,l[s.k]? =some x->s.k<(dz wk day ev x s).k
theorem vJ (hu:Up wk day ev l): ∀(f:Nat) (s:St),l.length-s.k<=f->goV wk day ev l f s=goV wk day ev l (l.length-s.k) s
 |0,s,h=>by rw[show l.length-s.k=0 by omega]
 |f+1,s,h=>by
  cases hx:l[s.k]? with
  |none=>
   have:l.length<=s.k:=List.getElem?_eq_none_iff.1 hx;rw[show l.length-s.k=0 by omega];simp[goV,hx]
  |some x=>
   have hk:=(aE.1 hx).1;obtain⟨m,hm⟩: ∃m,l.length-s.k=m+1:=⟨l.length-s.k-1,by omega⟩
   have hu1:=hu s x hx;rw[hm];simp only[goV,hx];rw[vJ hu f _ (by omega),vJ hu m _ (by omega)]
theorem lA (hu:Up wk day ev l){s:St}{x:In}(hx:l[s.k]? =some x):runV wk day ev l s=runV wk day ev l (dz wk day ev x s):=by
 have hk:=(aE.1 hx).1;obtain⟨m,hm⟩: ∃m,l.length-s.k=m+1:=⟨l.length-s.k-1,by omega⟩
 have hu1:=hu s x hx;unfold runV;rw[hm];simp only[goV,hx];rw[vJ hu m _ (by omega)]
theorem EU {r:Nat}(hi: ∀(j:Nat) (x:In),l[j]? =some x->fj x j l.length r=0):Up wk day ev l:=fun s x hx=>by
 rcases tp (hi _ _ hx) with ho|ho|ho|ho|ho|ho|ho
 ·simp[dz,ho]
 ·simp[dz,ho]
 ·simp[dz,ho]
 ·simp[dz,ho]
 ·simp[dz,ho]
 ·simp[dz,ho]
 ·have hto:=rD (hi _ _ hx) ho;unfold isG at ho;unfold dz;rw[aw (by omega),aw (by omega),aw (by omega),aw (by omega),aw (by omega),aw (by omega)];split
  ·dsimp only;omega
  ·dsimp only;omega
theorem mL.run {r:Nat}(hw:lN l)(hi: ∀(j:Nat) (x:In),l[j]? =some x->fj x j l.length r=0)(h0: ∀i,0<=(cs.getD i cd0).steps)
  (hev: ∀(j:Nat) (x:In),l[j]? =some x->x.op=8->((ev x.a.toNat).2:Int)<=(cs.getD x.a.toNat cd0).steps): ∀(f:Nat) (s:St),l.length-s.k<=f->mL cs l s->mL cs l (runV wk day ev l s)/\(runV wk day ev l s).k=l.length
 |f,s,hf,hs=>by
  have hu:Up wk day ev l:=EU hi;cases hx:l[s.k]? with
  |none=>
   have h1:l.length<=s.k:=List.getElem?_eq_none_iff.1 hx;have h2:=hs.le;rw[vI (by omega)];exact⟨hs,by omega⟩
  |some x=>
   have hk:=(aE.1 hx).1;obtain⟨h1,h2⟩:=hs.step (wk:=wk) (day:=day) (ev:=ev) hw hx (hi _ _ hx) h0 (hev _ _ hx);rw[lA hu hx];cases f with
   |zero=>omega
   |succ f=>exact mL.run hw hi h0 hev f _ (by omega) h1
theorem l3.steps0 (h:l3 cs)(i:Nat):0<=(cs.getD i cd0).steps:=by
 cases hi:cs[i]? with
 |none=>simp[List.getD,hi,cd0]
 |some c=>
  rw[iO hi];have:=(je (h.alone i c hi)).2.1;omega
theorem l3.call (h:l3 cs){i:Nat}{c:Cd}(hc:cs[i]? =some c){j:Nat}{x:In}(hx:c.ins[j]? =some x)(ho:x.op=8):x.a.toNat<cs.length/\(x.a.toNat:Int)=x.a/\rk (fL cs) cs.length x.a.toNat<rk (fL cs) cs.length i:=by
 have h1:=vG ((je (h.alone i c hc)).2.2 j x hx) ho;have h2:x.a.toNat<cs.length:=by omega
 refine⟨h2,by omega,LW h2 ?_ (h.cyc _ h2)⟩;unfold fL;rw[iO hc,List.any_eq_true];exact⟨x,aM hx,by simp[ho];omega⟩
theorem l3.run (h:l3 cs): ∀(d i:Nat) (c:Cd),cs[i]? =some c->rk (fL cs) cs.length i<d->
  1<=(evV wk day cs d i).2/\((evV wk day cs d i).2:Int)<=c.steps/\mL cs c.ins (runV wk day (evV wk day cs (d-1)) c.ins ⟨0,[],0⟩)/\(runV wk day (evV wk day cs (d-1)) c.ins ⟨0,[],0⟩).k=c.ins.length/\(runV wk day (evV wk day cs (d-1)) c.ins ⟨0,[],0⟩).S=[(evV wk day cs d i).1]/\(runV wk day (evV wk day cs (d-1)) c.ins ⟨0,[],0⟩).n=(evV wk day cs d i).2
 |0,_,_,_,hd=>by omega
 |d+1,i,c,hc,hd=>by
  have ha:=je (h.alone i c hc);have hf:=h.fit i c hc
  have hrun:=mL.run (wk:=wk) (day:=day) (ev:=evV wk day cs d) (cs:=cs) hf.well ha.2.2 h.steps0 (fun j x hx ho=>by
   obtain⟨h1,_,h3⟩:=h.call hc hx ho;have hg:cs[x.a.toNat]? =some cs[x.a.toNat]:=ax h1;rw[iO hg];exact(h.run d _ _ hg (by omega)).2.1) c.ins.length ⟨0,[],0⟩ (by simp) mL.nil
  rw[Nat.add_sub_cancel]
  have e2:evV wk day cs (d+1) i=((runV wk day (evV wk day cs d) c.ins ⟨0,[],0⟩).S.getD 0 noM,(runV wk day (evV wk day cs d) c.ins ⟨0,[],0⟩).n):=by
   rw[evV,iO hc]
  rw[e2];dsimp only;generalize runV wk day (evV wk day cs d) c.ins ⟨0,[],0⟩=R at*;obtain⟨hI,hk⟩:=hrun;have h1:=hI.hi;have h2:=hI.st;rw[hk]at h1 h2;rw[hf.well.fin]at h1;rw[hf.steps]at h2;have h3:=hI.on;refine⟨by omega,h2,hI,hk,?_,rfl⟩;obtain⟨T,g,hS⟩:=xl (S:=R.S) (by omega);rw[hS]at h1⊢
  have hT:T=[]:=by
   apply fp;simp at h1;omega
  subst hT;simp
end
end Vx
theorem aY {p:Prop}(h:p):P3 p:=h
theorem qj (n m:Int)(w:World):Calls prog 201 #[ag n,ag m] w fun e w'=>e= .returned (.bool (decide (0<=n/\n<m)))/\w'=w:=by
 by_cases h1:0<=n
 ·by_cases h2:n<m
  ·rw[a7 (⟨h1,h2⟩:0<=n/\n<m)];go_enter func201,ntmps201;go_wp2;go_ret;exact⟨rfl,rfl⟩
  ·rw[bj (fun e:0<=n/\n<m=>h2 e.2)];go_enter func201,ntmps201;go_wp2;go_ret;exact⟨rfl,rfl⟩
 ·rw[bj (fun e:0<=n/\n<m=>h1 e.1)];go_enter func201,ntmps201;go_wp2;go_ret;exact⟨rfl,rfl⟩
theorem kS (n lo hi:Int)(w:World):Calls prog 228 #[ag n,ag lo,ag hi] w fun e w'=>e= .returned (.bool (decide (lo<=n/\n<=hi)))/\w'=w:=by
 by_cases h1:lo<=n
 ·by_cases h2:n<=hi
  ·rw[a7 (⟨h1,h2⟩:lo<=n/\n<=hi)];go_enter func228,ntmps228;go_wp2;go_ret;exact⟨rfl,rfl⟩
  ·rw[bj (fun e:lo<=n/\n<=hi=>h2 e.2)];go_enter func228,ntmps228;go_wp2;go_ret;exact⟨rfl,rfl⟩
 ·rw[bj (fun e:lo<=n/\n<=hi=>h1 e.1)];go_enter func228,ntmps228;go_wp2;go_ret;exact⟨rfl,rfl⟩
theorem lP (b:Bool)(e:Int)(w:World):Calls prog 240 #[.bool b,ag e] w fun r w'=>r= .returned (ag (if b=true then 0 else e))/\w'=w:=by
 cases b
 ·go_enter func240,ntmps240;go_wp2;go_ret;exact⟨rfl,rfl⟩
 ·go_enter func240,ntmps240;go_wp2;go_ret;exact⟨rfl,rfl⟩
def mM (w:World)(v:Value)(l:List (Int×Int)):Prop:=(l=[]/\ ∃p c,v= .slice p 0 c)\/Row w v l
theorem mM.later {w w':World}{v:Value}{l:List (Int×Int)}(h:mM w v l)(hb:ao w w'):mM w' v l:=by
 rcases h with h|h
 ·exact .inl h
 ·exact .inr (h.later hb)
theorem mM.form {w:World}{v:Value}{l:List (Int×Int)}(h:mM w v l): ∃p c,v= .slice p l.length c/\l.length<9223372036854775808/\ ∀(j:Nat) (s:Int×Int),l[j]? =some s-> ∃g o:Nat,p=some ⟨g,o,none⟩/\w.cell? (ae g (o+j*2))=some (ag s.1)/\w.cell? (ae g (o+j*2+1))=some (ag s.2):=by
 rcases h with⟨rfl,p,c,rfl⟩|⟨c,rfl,rfl⟩|⟨g,o,c,rfl,hl,hc⟩
 ·exact⟨p,c,rfl,by decide,fun j s hj=>by simp at hj⟩
 ·exact⟨none,c,rfl,by decide,fun j s hj=>by simp at hj⟩
 ·refine⟨_,c,rfl,hl,fun j s hj=>⟨g,o,rfl,?_⟩⟩;have h1:=(aE.1 hj).1;have:=hc j h1;have e:l.getD j (0,0)=s:=(by simp[List.getD,hj]);rw[e]at this;exact this
theorem NH (p:Option Addr)(c:Nat)(w:World):
  Calls prog 81 #[.slice p 0 c] w fun e w'=>e= .returned (.agg (mv (inl [])))/\ao w w':=by
 have hz:=dU;have h1:((w.alloc (.cells (mv fun _=>false) 61)).alloc (.cells (mv fun _=>false) 61)).heap[w.heap.size]? =ah (mv fun _=>false) 61:=by(repeat (first|refine cY _ _ _ (by simp only[aP];omega) ?_|exact dq _ _ _ (by first|rfl|simp only[aP])))
 have h2:((w.alloc (.cells (mv fun _=>false) 61)).alloc (.cells (mv fun _=>false) 61)).heap[w.heap.size+1]? =ah (mv fun _=>false) 61:=by(repeat (first|refine cY _ _ _ (by simp only[aP];omega) ?_|exact dq _ _ _ (by first|rfl|simp only[aP])))
 have hb0:ao w ((w.alloc (.cells (mv fun _=>false) 61)).alloc (.cells (mv fun _=>false) 61)):=(am _ _).alloc (by simp) _
 ·go_enter func81,ntmps81;go_wp2;refine wp_loop_rounds 1 ?_;rw[rounds_succ]
  go_wp2_with(first
   |(refine aR rfl 61 _ rfl _ rfl _ _ _ _ h2 bQ rfl (ba _) ?_)
   |(refine az rfl 61 _ _ rfl _ _ rfl rfl _ _ h1 (ba _) (by simp[bO]) (dH _) ?_))
  refine aU (v:= .agg (mv (inl []))) ?_ rfl ⟨rfl,below_setRow hb0 (aA _) _⟩;exact a8 rfl _ _ w.heap.size _ _ _ _ rfl (aJ _ _ _ _ _ _ h1) bQ rfl (ba _)
theorem DF (v:Value)(l:List (Int×Int))(w:World)(hl:mM w v l):
  Calls prog 81 #[v] w fun e w'=>e= .returned (.agg (mv (inl l)))/\ao w w':=by
 rcases hl with⟨rfl,p,c,rfl⟩|hl
 ·exact NH p c w
 ·exact tn v l w hl
theorem EV (l:List (Int×Int))(v:Value)(w:World)(h:mM w v l):Calls prog 241 #[v] w fun r w'=>r= .returned (.bool (risL l (-1)))/\ao w w':=by
 obtain⟨p,c,rfl,hlen,hc⟩:=h.form;have HC:=aY hc;clear hc h;go_enter func241,ntmps241;go_wp2_with fail;go_loopw [3,8] (fun x t wr=> ∃(j:Nat) (e:Int),x=ag e/\t=ag (j:Int)/\j<=l.length/\risL l (-1)=risL (l.drop j) e/\ao w wr) (fun _ t _=>l.length-(intOf t).toNat);case atStart=>exact⟨0,-1,rfl,rfl,by omega,rfl,aG _ _⟩
 case round=>
  obtain⟨j,e,rfl,rfl,hj,hX,hb⟩:=hrel;have hj0:(0:Int)<=(j:Int):=(by omega);by_cases hlt:j<l.length
  ·have hlt':(j:Int)<(l.length:Int):=(by omega);obtain⟨s,hjk⟩: ∃p,l[j]? =some p:=⟨l[j],ax hlt⟩
   rw[G0 hjk]at hX;obtain⟨g,o,hpe,c0,c1⟩:=HC.o j _ hjk;subst hpe;obtain⟨x,y⟩:=s;dsimp only at c0 c1 hX;have d0:=aj hb c0;have d1:=aj hb c1;have hb2:=hb.alloc hb.size (.cells #[ag x,ag y] 143);by_cases h1:x<=e
   ·rw[ay (.inl h1)]at hX;have HX:=aY hX;clear hX hjk HC c0 c1;go_wp2_with fail;go_ret;exact⟨by(rw[HX.o])<;>rfl,hb2⟩
   ·by_cases h2:y<=x
    ·rw[ay (.inr (.inl h2))]at hX;have HX:=aY hX;clear hX hjk HC c0 c1;go_wp2_with fail;go_ret;exact⟨by(rw[HX.o])<;>rfl,hb2⟩
    ·by_cases h3:1440<y
     ·rw[ay (.inr (.inr h3))]at hX;have HX:=aY hX;clear hX hjk HC c0 c1;go_wp2_with fail;go_ret;exact⟨by(rw[HX.o])<;>rfl,hb2⟩
     ·rw[aw (by omega)]at hX;have HX:=aY hX;clear hX hjk c0 c1;go_wp2_with fail;go_roundw;case rel=>exact⟨j+1,y,rfl,by go_num,by omega,HX.o,hb2⟩
      case measure=>simp[intOf];omega
  ·have hlt': ¬(j:Int)<(l.length:Int):=(by omega)
   have HX:P3 (risL l (-1)=true):=by
    show _=_;rw[hX,dc (by omega)];rfl
   clear hX HC;go_wp2_with fail;go_ret;exact⟨by(rw[HX.o])<;>rfl,hb⟩
end Go.Proofs.YtjkilacmkbmmbaaGreatDoor
