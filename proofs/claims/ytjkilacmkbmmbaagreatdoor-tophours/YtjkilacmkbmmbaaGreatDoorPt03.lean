/- Texts of the proof. -/
import Derived.Test.YtjkilacmkbmmbaaGreatDoorPt02
set_option maxRecDepth 100000
set_option maxHeartbeats 8000000
namespace Go.Proofs.YtjkilacmkbmmbaaGreatDoor
open Go.Proofs.Tryz Go.RowKit Lx Vx Mx Msk
theorem H2 (f:Nat->Bool)(b q d:Nat)(hq:q=b/64)(hd:23=q+d):(mv fun t=>decide (t<64*d)&&(decide (t+b<1472)&&f (t+b)))=mv fun t=>decide (t+b<1472)&&f (t+b):=jb fun t ht=>by
 by_cases h:t<64*d
 ·simp[h]
 ·have: ¬t+b<1472:=by omega
  simp[this]
theorem FC (f:Nat->Bool)(b i q r d:Nat)(hq:q=b/64)(hr:r=b%64)(hd:i=q+d)(h22:i=22):
  (wd f i:Int)/2^r=((wd (fun t=>decide (t+b<1472)&&f (t+b)) d:Nat):Int):=by
 rw[Af f b i q r d hq hr hd]
 rw[mY (f:=fun t=>decide (t+b<64*(i+1))&&f (t+b)) (g:=fun t=>decide (t+b<1472)&&f (t+b)) fun j _=>by
  have:(64*d+j+b<64*(i+1))=(64*d+j+b<1472):=(by apply propext;omega);simp only[this]]
theorem DP (f:Nat->Bool)(b:Nat)(hb:b<1440)(w:World):
  Calls prog 121 #[.agg (mv f),ag b] w fun e w'=>e= .returned (.agg (mv fun t=>decide (t+b<1472)&&f (t+b)))/\ao w w':=by
 have hz:=eC;obtain⟨q,hq⟩: ∃q:Nat,q=b/64:=⟨_,rfl⟩
 obtain⟨r,hr⟩: ∃r:Nat,r=b%64:=⟨_,rfl⟩
 have HQ:RJ (q=b/64):=hq;have HR:RJ (r=b%64):=hr;have t1:(b:Int)/64=(q:Int):=by omega
 have t2:(b:Int)%64=(r:Int):=by omega
 have hq23:q<23:=by omega
 have hr64:r<64:=by omega
 clear hq hr;go_enter func121,ntmps121;go_wp2
 go_loopw [8] (fun i wr=> ∃k d:Nat,k<=23/\k=q+d/\i=ag k/\wr.heap[w.heap.size]? =ah (mv f) 61/\wr.heap[w.heap.size+1]? =ah (mv fun _=>false) 61/\
  wr.heap[w.heap.size+1+1]? =ah (mv fun t=>decide (t<64*d)&&(decide (t+b<1472)&&f (t+b))) 61/\ao w wr) (fun i _=>23-(intOf i).toNat)
 case atStart=>
  refine⟨q,0,by omega,rfl,rfl,?_,?_,?_,?_⟩
  ·(repeat (first|refine dc _ _ _ (by simp only[aP];omega) ?_|exact dr _ _ _ (by first|rfl|simp only[aP])))
  ·(repeat (first|refine dc _ _ _ (by simp only[aP];omega) ?_|exact dr _ _ _ (by first|rfl|simp only[aP])))
  ·refine iS ?_ (BY _);(repeat (first|refine dc _ _ _ (by simp only[aP];omega) ?_|exact dr _ _ _ (by first|rfl|simp only[aP])))
  ·exact((am _ _).alloc (by simp) _).alloc (by simp only[aP];omega) _
 case round=>
  obtain⟨k,d,hk,hkd,rfl,ha,ho,hm,hbel⟩:=hrel;have HD:RJ (k=q+d):=hkd;by_cases hlt:k<23
  ·have ca:=kM ha k (by omega);have hd23:d<23:=(by omega);have cm:=kM hm d hd23;have fm:=bl _ _ d _ _ hm;have e1:(k:Int)-(q:Int)=(d:Int):=(by omega);have hi0:(0:Int)<=(d:Int):=(by omega);have hi1:(d:Int)<23:=(by omega);have p1:=Af f b k q r d HQ.o HR.o hkd;by_cases hd0:k=22
   ·have hlast:(22:Int)<=(k:Int):=(by omega);have p3:=FC f b k q r d HQ.o HR.o hkd hd0;have HK:RJ (k=22):=hd0;clear p1 hkd hd0;go_wp2;go_roundw
    case rel=>
     have hD:=HD.o;have hK:=HK.o;refine⟨k+1,d+1,by omega,by omega,by go_num,?_,?_,?_,hbel.setCell (by dsimp only;omega) _⟩
     ·exact(aM _ _ _ _ (by dsimp only;omega)).trans ha
     ·exact(aM _ _ _ _ (by dsimp only;omega)).trans ho
     ·exact iS (aW _ _ _ _ _ _ hm) (uI d hd23 fun t=>decide (t+b<1472)&&f (t+b))
    case measure=>
     have hK:=HK.o;simp[intOf];omega
   ·have p2:=Hy f b k q r d HQ.o HR.o hkd (by omega);generalize (fun t=>decide (t+b<64*(k+1))&&f (t+b))=G1 at p1 p2;obtain⟨c,hc⟩: ∃c,c=k+1:=⟨_,rfl⟩
    rw[<-hc]at p2;have e2:(k:Int)+1=(c:Int):=(by omega);have e3:IntKind.i64.wrap ((k:Int)-(q:Int))=(d:Int):=(by rw[bz];omega);have e4:IntKind.i64.wrap ((k:Int)+1)=(c:Int):=(by rw[bz];omega);have e5:IntKind.i64.wrap (64-(r:Int))=64-(r:Int):=(by rw[bz];omega);have e6:(64-(r:Int)).toNat=64-r:=(by omega);have e7:(0:Int)<=64-(r:Int):=(by omega);have j0:(0:Int)<=(c:Int):=(by omega);have j1:(c:Int)<23:=(by omega);have cc:=kM ha c (by omega);have c1:(wr.setCell ⟨w.heap.size+1+1,d,none⟩ (.int .u64 (wd G1 d:Int))).cell? (ae w.heap.size c)=some (.int .u64 (wd f c:Int)):=(tF _ _ _ _ (by dsimp only;omega)).trans cc;have hm2:=aW _ _ d _ _ (.int .u64 (wd G1 d:Int)) hm
    have c2:(wr.setCell ⟨w.heap.size+1+1,d,none⟩ (.int .u64 (wd G1 d:Int))).cell? (ae (w.heap.size+1+1) d)=some (.int .u64 (wd G1 d:Int)):=by
     rw[aX _ _ d _ _ _ hm2];simp[bP,hd23]
    have f2:=bl _ _ d _ _ hm2;have HM2:RJ ((wr.setCell ⟨w.heap.size+1+1,d,none⟩ (.int .u64 (wd G1 d:Int))).heap[w.heap.size+1+1]? =ah ((mv fun t=>decide (t<64*d)&&(decide (t+b<1472)&&f (t+b))).setIfInBounds d (.int .u64 (wd G1 d:Int))) 61):=hm2;have HC:RJ (c=k+1):=hc;clear hm2 hkd hc;go_wp2;go_region;go_wp2;go_roundw
    case rel=>
     have hD:=HD.o;have hC:=HC.o;refine⟨c,d+1,by omega,by omega,by go_num,?_,?_,?_,((hbel.setCell (by dsimp only;omega) _).setCell (by dsimp only;omega) _).drew⟩
     ·exact((aM _ _ _ _ (by dsimp only;omega)).trans (aM _ _ _ _ (by dsimp only;omega))).trans ha
     ·exact((aM _ _ _ _ (by dsimp only;omega)).trans (aM _ _ _ _ (by dsimp only;omega))).trans ho
     ·refine iS (aW _ _ _ _ _ _ HM2.o) ?_;exact B0 d hd23 (fun t=>decide (t+b<1472)&&f (t+b)) _
    case measure=>
     have hC:=HC.o;simp[intOf];omega
  ·have hk23:k=23:=(by omega);subst hk23;have hm':=iS hm (H2 f b q d HQ.o HD.o);clear hm HD hkd
   go_wp2_with(first
    |(refine aR rfl 61 _ rfl _ rfl _ _ _ _ hm' bQ rfl (a7 _) ?_)
    |(refine az rfl 61 _ _ rfl _ _ rfl rfl _ _ ho (a7 _) (by simp[bP]) (dN _) ?_))
   refine aV (v:= .agg (mv fun t=>decide (t+b<1472)&&f (t+b))) ?_ rfl ⟨rfl,?_⟩
   ·exact a8 rfl _ _ (w.heap.size+1) _ _ _ _ rfl (aL _ _ _ _ _ _ ho) bQ rfl (a7 _)
   ·exact below_setRow hbel (by omega) _
def shf (f:Nat->Bool)(x:Int)(t:Nat):Bool:=decide (t<1440)&&(decide (x<=(t:Int))&&(decide ((t:Int)-x<1440)&&f ((t:Int)-x).toNat))
theorem B1 (f:Nat->Bool)(x:Int)(h:x<= -1440\/1440<=x):(mv fun _=>false)=mv (shf f x):=jb fun t _=>by
 unfold shf;by_cases h1:t<1440
 ·by_cases h2:x<=(t:Int)
  ·have: ¬(t:Int)-x<1440:=(by omega);simp[this]
  ·simp[h2]
 ·simp[h1]
theorem OL (f:Nat->Bool)(b:Nat):(mv fun t=>(decide (b<=t)&&f (t-b))&&decide (t<1440))=mv (shf f (b:Int)):=jb fun t _=>by
 unfold shf;by_cases h1:t<1440
 ·by_cases h2:b<=t
  ·have e1:((t:Int)-(b:Int)).toNat=t-b:=(by omega);have e2:(b:Int)<=(t:Int):=(by omega);have e3:(t:Int)-(b:Int)<1440:=(by omega);simp[h1,h2,e1,e3]
  ·have e2: ¬(b:Int)<=(t:Int):=(by omega);simp[h2]
 ·simp[h1]
theorem Kw (f:Nat->Bool)(b:Nat):(mv fun t=>decide (t+b<1472)&&(f (t+b)&&decide (t+b<1440)))=mv (shf f (-(b:Int))):=jb fun t _=>by
 unfold shf;by_cases h1:t+b<1440
 ·have e1:((t:Int)- -(b:Int)).toNat=t+b:=by omega
  have e2: -(b:Int)<=(t:Int):=(by omega);have e3:(t:Int)- -(b:Int)<1440:=(by omega);have e4:t+b<1472:=(by omega);have e5:t<1440:=(by omega);rw[e1];simp only[h1,e2,e3,e4,e5,decide_true,iu,Bool.and_true]
 ·have e3: ¬(t:Int)- -(b:Int)<1440:=by omega
  simp only[h1,e3,decide_false,iE,Bool.false_and]
theorem xu (f:Nat->Bool)(x:Int)(w:World)(hx0: -9223372036854775808<=x)(hx1:x<=9223372036854775807):
  Calls prog 86 #[.agg (mv f),ag x] w fun e w'=>e= .returned (.agg (mv (shf f x)))/\ao w w':=by
 have hz:=eC;have h1:((w.alloc (.cells (mv f) 61)).alloc (.cells (mv fun _=>false) 61)).heap[w.heap.size]? =ah (mv f) 61:=by(repeat (first|refine dc _ _ _ (by simp only[aP];omega) ?_|exact dr _ _ _ (by first|rfl|simp only[aP])))
 have h3:((w.alloc (.cells (mv f) 61)).alloc (.cells (mv fun _=>false) 61)).heap[w.heap.size+1]? =ah (mv fun _=>false) 61:=by(repeat (first|refine dc _ _ _ (by simp only[aP];omega) ?_|exact dr _ _ _ (by first|rfl|simp only[aP])))
 have hb0:ao w ((w.alloc (.cells (mv f) 61)).alloc (.cells (mv fun _=>false) 61)):=(am _ _).alloc (by simp) _;rcases(show(x<= -1440)\/(1440<=x)\/(-1440<x/\x<0)\/(0<=x/\x<1440) from by omega) with h|h|⟨h,h'⟩|⟨h,h'⟩
 ·rw[<-B1 f x (.inl h)];go_enter func86,ntmps86;go_wp2_with(refine az rfl 61 _ _ rfl _ _ rfl rfl _ _ h3 (a7 _) (by simp[bP]) (dN _) ?_)
  refine aV (v:= .agg (mv fun _=>false)) ?_ rfl ⟨rfl,below_setRow hb0 (by omega) _⟩;exact a8 rfl _ _ (w.heap.size+1) _ _ _ _ rfl (aL _ _ _ _ _ _ h3) bQ rfl (a7 _)
 ·rw[<-B1 f x (.inr h)];have hno: ¬x<= -1440:=(by omega);go_enter func86,ntmps86;go_wp2_with(refine az rfl 61 _ _ rfl _ _ rfl rfl _ _ h3 (a7 _) (by simp[bP]) (dN _) ?_)
  refine aV (v:= .agg (mv fun _=>false)) ?_ rfl ⟨rfl,below_setRow hb0 (by omega) _⟩;exact a8 rfl _ _ (w.heap.size+1) _ _ _ _ rfl (aL _ _ _ _ _ _ h3) bQ rfl (a7 _)
 ·obtain⟨b,hb⟩: ∃b:Nat,-x=b:=⟨(-x).toNat,by omega⟩
  have hb2:b<1440:=(by omega);have hx:x= -(b:Int):=(by omega);have hshf:=Kw f b;rw[<-hx]at hshf;rw[<-hshf];clear hshf hx;go_enter func86,ntmps86
  go_wp2_with(first
   |(refine aR rfl 61 _ rfl _ rfl _ _ _ _ h1 bQ rfl (a7 _) ?_)
   |(go_at_call 30;refine(sm _ _).mono ?_;rintro e w' ⟨rfl,hb'⟩;have ho':=ai hb' h3)
   |(go_at_call 121;refine(DP _ _ hb2 _).mono ?_;rintro e w'' ⟨rfl,hb''⟩;have ho'':=(hb''.block _ (aG ho')).trans ho')
   |(refine az rfl 61 _ _ rfl _ _ rfl rfl _ _ ho'' (a7 _) (by simp[bP]) (dN _) ?_))
  refine aV (v:= .agg (mv fun t=>decide (t+b<1472)&&(f (t+b)&&decide (t+b<1440)))) ?_ rfl ⟨rfl,?_⟩
  ·exact a8 rfl _ _ (w.heap.size+1) _ _ _ _ rfl (aL _ _ _ _ _ _ ho'') bQ rfl (a7 _)
  ·have hb1:=au hb0 hb';exact below_setRow (au hb1 hb'') (by omega) _
 ·obtain⟨b,rfl⟩: ∃b:Nat,x=b:=⟨x.toNat,by omega⟩
  rw[<-OL f b];have hb2:b<1440:=(by omega);go_enter func86,ntmps86
  go_wp2_with(first
   |(refine aR rfl 61 _ rfl _ rfl _ _ _ _ h1 bQ rfl (a7 _) ?_)
   |(go_at_call 122;refine(Hz _ _ hb2 _).mono ?_;rintro e w' ⟨rfl,hb'⟩;have ho':=ai hb' h3)
   |(go_at_call 30;refine(sm _ _).mono ?_;rintro e w'' ⟨rfl,hb''⟩;have ho'':=(hb''.block _ (aG ho')).trans ho')
   |(refine az rfl 61 _ _ rfl _ _ rfl rfl _ _ ho'' (a7 _) (by simp[bP]) (dN _) ?_))
  refine aV (v:= .agg (mv fun t=>(decide (b<=t)&&f (t-b))&&decide (t<1440))) ?_ rfl ⟨rfl,?_⟩
  ·exact a8 rfl _ _ (w.heap.size+1) _ _ _ _ rfl (aL _ _ _ _ _ _ ho'') bQ rfl (a7 _)
  ·have hb1:=au hb0 hb';exact below_setRow (au hb1 hb'') (by omega) _
end Go.Proofs.YtjkilacmkbmmbaaGreatDoor
