/- Texts of the proof. -/
import Derived.Test.YtjkilacmkbmmbaaGreatDoorPe15
set_option maxRecDepth 100000
set_option maxHeartbeats 8000000
namespace Go.Proofs.YtjkilacmkbmmbaaGreatDoor
open Go.Proofs.Tryz Go.RowKit Lx Vx Mx Msk
section
variable {all:List Tk} {E g:Nat} {v:Value} {w:World} {i n:Nat}
theorem EF (h0:PS0 all E g v)(hS: ∀j,i<j->RC all E g v 73 0 j)(hF: ∀j,i<j->RC all E g v 149 4 j):RC all E g v 173 6 i:=by
 intro w n d h hn6 hd41;have hgl:=aF h.blk;have hb0:ao w (w.alloc (.cells #[ag 0,ag 0,ag 0,.string ⟨#[]⟩,af] 52)):=am _ _;have hz:=me w;have hS0:=h.below hb0 h0;have hkA:=bm.of_below (g:=g) hb0;generalize hwA:w.alloc (.cells #[ag 0,ag 0,ag 0,.string ⟨#[]⟩,af] 52)=w0 at*;have hq0:=bm.refl g w0;by_cases h40:40<d
 ·have h40':(40:Int)<(d:Int):=by omega
  rw[Ns,ay h40];go_enter func173,ntmps173;go_wp2_with fail;refine(kP h0 hS0 4).mono ?_;rintro e w1 ⟨rfl,hb1⟩;exact⟨rfl,rfl,hkA.trans (bm.of_below hb1)⟩
 have hd:d<=40:=by omega
 have hd': ¬(40:Int)<(d:Int):=by omega
 have hdi:(d:Int)<=40:=by omega
 have hdz:(0:Int)<=(d:Int):=by omega
 generalize hXd:rd E 6 d ex0 (all.drop i) n=X;have hX:_:=hXd;rw[Ns,aw h40]at hX;simp only[eV]at hX;clear h40 hb0 hXd;by_cases t0:isT kA (all.drop i)=true
 ·rw[ay t0]at hX;have HX:P3 (cZ (rd E 0 (d+1) ex0 (all.drop (i+1)) n) (fun e r n=>if isT oy r then .ok (e,r.tail,n) else dK E 2 r)=X):=hX;clear hX;go_enter func173,ntmps173;go_wp2_with fail;refine(fw h0 hS0 kA (by decide) t0).mono ?_;rintro e w9 ⟨rfl,hS9,kq⟩;have hq9:=hq0.trans kq;have hz9:=hq9.at hz (by omega);have hk9:=hkA.trans hq9;have hl9:=aF hz9;clear kq hS0;have c9:Calls prog 73 #[ab g 0,ag ((d:Int)+1)] w9 (jd all E g v w9 (fun k=>w9.heap.size<=k) (rd E 0 (d+1) ex0 (all.drop (i+1)) n)):=hS (i+1) (by omega) w9 n (d+1) hS9 hn6 (by omega);have hXX:=HX.o;go_wp2_with fail;refine c9.mono ?_;intro e w2 ho;clear c9;cases hx:rd E 0 (d+1) ex0 (all.drop (i+1)) n with
  |error q=>
   obtain⟨er,at_⟩:=q;rw[hx]at ho hXX;obtain⟨rfl,hk5⟩:=ho;refine⟨rfl,?_⟩;rw[<-hXX];exact⟨rfl,hk9.trans hk5⟩
  |ok q=>
   obtain⟨ex,rr,nn⟩:=q;rw[hx]at ho hXX;obtain⟨i',sl,dd,hr',rfl,hkd,h2,hn2,hk2⟩:=ho;subst hr';obtain⟨p5,c5,rfl⟩:=hkd.form;have hz2:=hk2.at hz9 (by omega);have hs2:=hk2.size;have hb3:ao w2 (w2.alloc (.cells #[ag ex.kind,ag ex.a,ag ex.b,.string ⟨ex.name.toArray⟩,.slice p5 ex.kids.length c5] 52)):=am _ _;have h3:=h2.below hb3 h0;have hk3:=hk2.trans (bm.of_below hb3);have he3:=aC w2 (.cells #[ag ex.kind,ag ex.a,ag ex.b,.string ⟨ex.name.toArray⟩,.slice p5 ex.kids.length c5] 52);have hkd3:dn (fun k=>w.heap.size+1<=k) dd (w2.alloc (.cells #[ag ex.kind,ag ex.a,ag ex.b,.string ⟨ex.name.toArray⟩,.slice p5 ex.kids.length c5] 52)) (.slice p5 ex.kids.length c5) ex.kids:=(bm.of_below (g:=g) hb3).kids (fun k hk=>by omega) (hkd.mono fun k hk=>by omega);unfold exV;clear hkd h2 hk2 hb3 hx;generalize hw3:w2.alloc (.cells #[ag ex.kind,ag ex.a,ag ex.b,.string ⟨ex.name.toArray⟩,.slice p5 ex.kids.length c5] 52)=w3 at*;by_cases hm:isT oy (all.drop i')=true
   ·have c5':=nL h0 h3 oy (by decide) hm
    have HX2:P3 (X= .ok (ex,all.drop (i'+1),nn)):=by
     show _=_;rw[<-hXX,<-eV];show(if isT oy (all.drop i') then _ else _)=_;rw[ay hm]
    clear hXX hm;go_wp2_with fail;refine c5'.mono ?_;rintro e w4 ⟨rfl,h4,hk4⟩;have he4:=hk4.at he3 (by omega);have hz4:=(hk3.trans hk4).at hz9 (by omega);have hkw:=(hk9.trans hk3).trans hk4;have hkd4:=hk4.kids (fun k hk=>by omega) hkd3
    have HO:P3 (∀cs,jd all E g v w (fun k=>w.heap.size<=k) X (.returned (exV ex (.slice p5 ex.kids.length c5))) (w4.setRow w.heap.size cs)):=fun cs=>by
     rw[HX2.o];exact⟨i'+1,_,dd,rfl,rfl,(hkd4.kept fun k hk _=>aT _ _ _ _ (by omega)).mono fun k hk=>by omega,h.of_kept h0 (hkw.setRow (aA _) cs) ((aT _ _ _ _ (by omega)).trans h4.blk) h4.le,hn2,hkw.setRow (aA _) cs⟩
    unfold exV at HO;clear c5' h3 h4 hk3 hk4 hkw hkd3 hkd4 he3 hz2 hw3 HX2
    go_wp2_with(first
     |(refine aR rfl 52 _ rfl _ rfl _ _ _ _ he4 eD rfl (by kernel_rfl) ?_)
     |(refine az rfl 52 _ _ rfl _ _ rfl rfl _ _ hz4 (by kernel_rfl) (by rfl) (by simp[Value.oneCell']) ?_))
    exact jt 4 (by kernel_rfl) w.heap.size _ _ _ _ _ rfl rfl (aJ _ _ _ _ _ _ hz4) (HO.o _)
   ·have hm':isT oy (all.drop i')=false:=(by simpa using hm);have c5':=pI h0 h3 oy hm'
    have HX2:P3 (X=dK E 2 (all.drop i')):=by
     show _=_;rw[<-hXX];show(if isT oy (all.drop i') then _ else _)=_;rw[aw hm]
    clear hXX hm hm';go_wp2_with fail;refine c5'.mono ?_;rintro e w4 ⟨rfl,hk4⟩;refine⟨rfl,?_⟩;rw[HX2.o];exact⟨rfl,(hk9.trans hk3).trans hk4⟩
 have f0:isT kA (all.drop i)=false:=by simpa using t0
 rw[aw t0]at hX;clear t0;by_cases t1:isT jG (all.drop i)=true
 ·rw[ay t1]at hX;have HX:P3 (du E ⟨1,0,0,[],[]⟩ (all.drop (i+1)) n=X):=hX;clear hX;go_enter func173,ntmps173;go_wp2_with fail;refine(dO h0 hS0 kA f0).mono ?_;rintro e w1 ⟨rfl,hS1,kq⟩;have hq1:=hq0.trans kq;clear kq hS0;go_wp2_with fail;refine(fw h0 hS1 jG (by decide) t1).mono ?_;rintro e w9 ⟨rfl,hS9,kq⟩;have hq9:=hq1.trans kq;have hz9:=hq9.at hz (by omega);have hk9:=hkA.trans hq9;have hl9:=aF hz9;clear kq hS1;have c9:=j7 h0 hS9 hn6 (fun k=>w.heap.size+1<=k) (fun k hk=>by omega) ⟨1,0,0,[],[]⟩ (af) 0 (dn.nil _ _ _ _ _);unfold exV at c9;rw[show du E ⟨1,0,0,[],[]⟩ (all.drop (i+1)) n=X from HX.o]at c9;go_wp2_with fail;refine c9.mono ?_;intro e w5 ho;rcases jA h h0 hk9 hz9 ho with⟨ch,rfl,hO⟩|⟨a',b',c',x',p',q',r',rfl,hz6,hO⟩
  ·exact⟨rfl,hO⟩
  ·clear ho;go_wp2_with(refine az rfl 52 _ _ rfl _ _ rfl rfl _ _ hz6 (by kernel_rfl) (by rfl) (by simp[Value.oneCell']) ?_)
   exact jt 4 (by kernel_rfl) w.heap.size _ _ _ _ _ rfl rfl (aJ _ _ _ _ _ _ hz6) (hO _)
 have f1:isT jG (all.drop i)=false:=by simpa using t1
 rw[aw t1]at hX;clear t1;by_cases t2:isT jj (all.drop i)=true
 ·rw[ay t2]at hX;have HX:P3 (du E ⟨2,0,0,[],[]⟩ (all.drop (i+1)) n=X):=hX;clear hX;go_enter func173,ntmps173;go_wp2_with fail;refine(dO h0 hS0 kA f0).mono ?_;rintro e w1 ⟨rfl,hS1,kq⟩;have hq1:=hq0.trans kq;clear kq hS0;go_wp2_with fail;refine(dO h0 hS1 jG f1).mono ?_;rintro e w2 ⟨rfl,hS2,kq⟩;have hq2:=hq1.trans kq;clear kq hS1;go_wp2_with fail;refine(fw h0 hS2 jj (by decide) t2).mono ?_;rintro e w9 ⟨rfl,hS9,kq⟩;have hq9:=hq2.trans kq;have hz9:=hq9.at hz (by omega);have hk9:=hkA.trans hq9;have hl9:=aF hz9;clear kq hS2;have c9:=j7 h0 hS9 hn6 (fun k=>w.heap.size+1<=k) (fun k hk=>by omega) ⟨2,0,0,[],[]⟩ (af) 0 (dn.nil _ _ _ _ _);unfold exV at c9;rw[show du E ⟨2,0,0,[],[]⟩ (all.drop (i+1)) n=X from HX.o]at c9;go_wp2_with fail;refine c9.mono ?_;intro e w5 ho;rcases jA h h0 hk9 hz9 ho with⟨ch,rfl,hO⟩|⟨a',b',c',x',p',q',r',rfl,hz6,hO⟩
  ·exact⟨rfl,hO⟩
  ·clear ho;go_wp2_with(refine az rfl 52 _ _ rfl _ _ rfl rfl _ _ hz6 (by kernel_rfl) (by rfl) (by simp[Value.oneCell']) ?_)
   exact jt 4 (by kernel_rfl) w.heap.size _ _ _ _ _ rfl rfl (aJ _ _ _ _ _ _ hz6) (hO _)
 have f2:isT jj (all.drop i)=false:=by simpa using t2
 rw[aw t2]at hX;clear t2;by_cases t3:isT jD (all.drop i)=true
 ·rw[ay t3]at hX;have HX:P3 (rd E 7 d ex0 (all.drop (i+1)) n=X):=hX;clear hX;go_enter func173,ntmps173;go_wp2_with fail;refine(dO h0 hS0 kA f0).mono ?_;rintro e w1 ⟨rfl,hS1,kq⟩;have hq1:=hq0.trans kq;clear kq hS0;go_wp2_with fail;refine(dO h0 hS1 jG f1).mono ?_;rintro e w2 ⟨rfl,hS2,kq⟩;have hq2:=hq1.trans kq;clear kq hS1;go_wp2_with fail;refine(dO h0 hS2 jj f2).mono ?_;rintro e w3 ⟨rfl,hS3,kq⟩;have hq3:=hq2.trans kq;clear kq hS2;go_wp2_with fail;refine(fw h0 hS3 jD (by decide) t3).mono ?_;rintro e w9 ⟨rfl,hS9,kq⟩;have hq9:=hq3.trans kq;have hz9:=hq9.at hz (by omega);have hk9:=hkA.trans hq9;have hl9:=aF hz9;clear kq hS3;have c9:=EE h0 hS9 hn6 d hd (fun j hj=>hF j (by omega));rw[show rd E 7 d ex0 (all.drop (i+1)) n=X from HX.o]at c9;go_wp2_with fail;refine c9.mono ?_;intro e w4 ho';have ho:=jd.weak (B':=fun k=>w.heap.size+1<=k) (bm.refl g w9) (fun k hk=>by omega) ho';clear ho';rcases jA h h0 hk9 hz9 ho with⟨ch,rfl,hO⟩|⟨a',b',c',x',p',q',r',rfl,hz6,hO⟩
  ·exact⟨rfl,hO⟩
  ·clear ho;go_wp2_with(refine az rfl 52 _ _ rfl _ _ rfl rfl _ _ hz6 (by kernel_rfl) (by rfl) (by simp[Value.oneCell']) ?_)
   exact jt 4 (by kernel_rfl) w.heap.size _ _ _ _ _ rfl rfl (aJ _ _ _ _ _ _ hz6) (hO _)
 have f3:isT jD (all.drop i)=false:=by simpa using t3
 rw[aw t3]at hX;clear t3;by_cases t4:isT la (all.drop i)=true
 ·rw[ay t4]at hX
  have HX:P3 (tb E d (all.drop (i+1)) n=X):=by
   show _=_;rw[<-hX];unfold tb;simp only[eV]
  clear hX;go_enter func173,ntmps173;go_wp2_with fail;refine(dO h0 hS0 kA f0).mono ?_;rintro e w1 ⟨rfl,hS1,kq⟩;have hq1:=hq0.trans kq;clear kq hS0;go_wp2_with fail;refine(dO h0 hS1 jG f1).mono ?_;rintro e w2 ⟨rfl,hS2,kq⟩;have hq2:=hq1.trans kq;clear kq hS1;go_wp2_with fail;refine(dO h0 hS2 jj f2).mono ?_;rintro e w3 ⟨rfl,hS3,kq⟩;have hq3:=hq2.trans kq;clear kq hS2;go_wp2_with fail;refine(dO h0 hS3 jD f3).mono ?_;rintro e w4 ⟨rfl,hS4,kq⟩;have hq4:=hq3.trans kq;clear kq hS3;go_wp2_with fail;refine(fw h0 hS4 la (by decide) t4).mono ?_;rintro e w9 ⟨rfl,hS9,kq⟩;have hq9:=hq4.trans kq;have hz9:=hq9.at hz (by omega);have hk9:=hkA.trans hq9;have hl9:=aF hz9;clear kq hS4;have c9:=Gu h0 hS9 hn6 d hd (fun j hj=>hF j (by omega));rw[show tb E d (all.drop (i+1)) n=X from HX.o]at c9;go_wp2_with fail;refine c9.mono ?_;intro e w4 ho';have ho:=jd.weak (B':=fun k=>w.heap.size+1<=k) (bm.refl g w9) (fun k hk=>by omega) ho';clear ho';rcases jA h h0 hk9 hz9 ho with⟨ch,rfl,hO⟩|⟨a',b',c',x',p',q',r',rfl,hz6,hO⟩
  ·exact⟨rfl,hO⟩
  ·clear ho;go_wp2_with(refine az rfl 52 _ _ rfl _ _ rfl rfl _ _ hz6 (by kernel_rfl) (by rfl) (by simp[Value.oneCell']) ?_)
   exact jt 4 (by kernel_rfl) w.heap.size _ _ _ _ _ rfl rfl (aJ _ _ _ _ _ _ hz6) (hO _)
 have f4:isT la (all.drop i)=false:=by simpa using t4
 rw[aw t4]at hX;clear t4;by_cases t5:kindP (all.drop i)=1
 ·rw[ay t5]at hX;have HX:P3 (du E ⟨10,0,0,textP (all.drop i),[]⟩ (all.drop (i+1)) n=X):=hX;clear hX;go_enter func173,ntmps173;go_wp2_with fail;refine(dO h0 hS0 kA f0).mono ?_;rintro e w1 ⟨rfl,hS1,kq⟩;have hq1:=hq0.trans kq;clear kq hS0;go_wp2_with fail;refine(dO h0 hS1 jG f1).mono ?_;rintro e w2 ⟨rfl,hS2,kq⟩;have hq2:=hq1.trans kq;clear kq hS1;go_wp2_with fail;refine(dO h0 hS2 jj f2).mono ?_;rintro e w3 ⟨rfl,hS3,kq⟩;have hq3:=hq2.trans kq;clear kq hS2;go_wp2_with fail;refine(dO h0 hS3 jD f3).mono ?_;rintro e w4 ⟨rfl,hS4,kq⟩;have hq4:=hq3.trans kq;clear kq hS3;go_wp2_with fail;refine(dO h0 hS4 la f4).mono ?_;rintro e w5 ⟨rfl,hS5,kq⟩;have hq5:=hq4.trans kq;clear kq hS4;have cm:=my h0 hS5;unfold jT at cm;rw[t5]at cm;go_wp2_with fail;refine cm.mono ?_;rintro e w6 ⟨rfl,hb6⟩;have hS6:=hS5.below hb6 h0;have hq6:=hq5.trans (bm.of_below hb6);clear cm hS5 hb6;have ct:=pW h0 hS6 1 (by decide) t5;unfold jT at ct;go_wp2_with fail;refine ct.mono ?_;rintro e w9 ⟨rfl,hS9,kq⟩;have hq9:=hq6.trans kq;have hz9:=hq9.at hz (by omega);have hk9:=hkA.trans hq9;have c9:=j7 h0 hS9 hn6 (fun k=>w.heap.size+1<=k) (fun k hk=>by omega) ⟨10,0,0,textP (all.drop i),[]⟩ (af) 0 (dn.nil _ _ _ _ _);unfold exV at c9;rw[show du E ⟨10,0,0,textP (all.drop i),[]⟩ (all.drop (i+1)) n=X from HX.o]at c9;clear kq hS6 ct;go_wp2_with fail;refine c9.mono ?_;intro e w5 ho;rcases jA h h0 hk9 hz9 ho with⟨ch,rfl,hO⟩|⟨a',b',c',x',p',q',r',rfl,hz6,hO⟩
  ·exact⟨rfl,hO⟩
  ·clear ho;go_wp2_with(refine az rfl 52 _ _ rfl _ _ rfl rfl _ _ hz6 (by kernel_rfl) (by rfl) (by simp[Value.oneCell']) ?_)
   exact jt 4 (by kernel_rfl) w.heap.size _ _ _ _ _ rfl rfl (aJ _ _ _ _ _ _ hz6) (hO _)
 ·rw[aw t5]at hX
  have HX:P3 (wP E (all.drop i) n=X):=by
   show _=_;rw[<-hX];unfold wP;simp only[eV]
  clear hX;go_enter func173,ntmps173;go_wp2_with fail;refine(dO h0 hS0 kA f0).mono ?_;rintro e w1 ⟨rfl,hS1,kq⟩;have hq1:=hq0.trans kq;clear kq hS0;go_wp2_with fail;refine(dO h0 hS1 jG f1).mono ?_;rintro e w2 ⟨rfl,hS2,kq⟩;have hq2:=hq1.trans kq;clear kq hS1;go_wp2_with fail;refine(dO h0 hS2 jj f2).mono ?_;rintro e w3 ⟨rfl,hS3,kq⟩;have hq3:=hq2.trans kq;clear kq hS2;go_wp2_with fail;refine(dO h0 hS3 jD f3).mono ?_;rintro e w4 ⟨rfl,hS4,kq⟩;have hq4:=hq3.trans kq;clear kq hS3;go_wp2_with fail;refine(dO h0 hS4 la f4).mono ?_;rintro e w5 ⟨rfl,hS5,kq⟩;have hq5:=hq4.trans kq;clear kq hS4;have cm:=my h0 hS5;unfold jT at cm;have hne:(kindP (all.drop i)==1)=false:=(by simpa using t5);generalize kindP (all.drop i)=kq0 at*;go_wp2_with fail;refine cm.mono ?_;rintro e w6 ⟨rfl,hb6⟩;have hS6:=hS5.below hb6 h0;have hq9:=hq5.trans (bm.of_below hb6);have hz9:=hq9.at hz (by omega);have hk9:=hkA.trans hq9;have hl9:=aF hz9;have c9:=Jt h0 hS6 hn6;rw[show wP E (all.drop i) n=X from HX.o]at c9;clear cm hS5 hb6;go_wp2_with fail;refine c9.mono ?_;intro e w4 ho';have ho:=jd.weak (B':=fun k=>w.heap.size+1<=k) (bm.refl g w6) (fun k hk=>by omega) ho';clear ho';rcases jA h h0 hk9 hz9 ho with⟨ch,rfl,hO⟩|⟨a',b',c',x',p',q',r',rfl,hz6,hO⟩
  ·exact⟨rfl,hO⟩
  ·clear ho;go_wp2_with(refine az rfl 52 _ _ rfl _ _ rfl rfl _ _ hz6 (by kernel_rfl) (by rfl) (by simp[Value.oneCell']) ?_)
   exact jt 4 (by kernel_rfl) w.heap.size _ _ _ _ _ rfl rfl (aJ _ _ _ _ _ _ hz6) (hO _)
end
section
variable {all:List Tk} {E g:Nat} {v:Value} {w:World} {i n:Nat}
def oA (g:Nat)(w:World):Nat:=match w.heap[g]? with
 |some (.cells cs _ _)=>(intOf (cs.getD 1 undef)).toNat
 |_=>0
theorem PSt.pos (h:PSt all E g v w i n):oA g w=i:=by
 unfold oA;rw[h.blk];simp[intOf]
theorem Bi (j:Nat):fb (all.drop j)=all.drop (nO all (j+1)):=by
 unfold fb nO;rw[eV];split
 ·rw[eV]
 ·rfl
def r7 (E d:Nat)(all:List Tk)(e:Ex)(n:Nat):Except (Int×Nat) (Int×Nat)->Res
 | .error q=> .error q
 | .ok (m,j)=>cZ (du E ⟨9,m,0,[],[e]⟩ (all.drop j) n) fun e r n=>rd E 5 d e r n
theorem Gy (d:Nat)(e:Ex)(j n:Nat)(h:isT l0 (all.drop j)=true):rd E 5 d e (all.drop j) n=r7 E d all e n (oK all E (j+1)):=by
 rw[Nr,ay h,Bi,eV];unfold oK;split
 ·rfl
 split
 ·rfl
 ·unfold r7;rw[eV]
theorem Nz (d:Nat)(e:Ex)(j n:Nat)(h:isT l0 (all.drop j)=false):rd E 5 d e (all.drop j) n= .ok (e,all.drop j,n):=by
 rw[Nr,aw (by simp[h])]
structure re (w0 w:World)(b:Nat)(e:Ex):Prop where
 ex: ∃(p:Option Addr) (c d:Nat),w.heap[b]? =ah #[ag e.kind,ag e.a,ag e.b,.string ⟨e.name.toArray⟩,.slice p e.kids.length c] 52/\dn (fun k=>w0.heap.size+1<=k/\k≠b) d w (.slice p e.kids.length c) e.kids
theorem re.kept {w0 w w':World}{b:Nat}{e:Ex}(h:re w0 w b e)(hk:bm g w w')(hb:b≠g)(hg:g<w0.heap.size):re w0 w' b e:=by
 obtain⟨p,c,d,h1,h2⟩:=h.ex;exact⟨p,c,d,hk.at h1 hb,hk.kids (fun k hk=>by omega) h2⟩
theorem CO (h0:PS0 all E g v)(hT:RC all E g v 173 6 i):RC all E g v 149 4 i:=by
 intro w n d h hn6 hd41;have hgl:=aF h.blk;have hb0:ao w (w.alloc (.cells #[ag 0,ag 0,ag 0,.string ⟨#[]⟩,af] 52)):=am _ _;have hz:=me w;have hS0:=h.below hb0 h0;have hkA:=bm.of_below (g:=g) hb0;have hszA:(w.alloc (.cells #[ag 0,ag 0,ag 0,.string ⟨#[]⟩,af] 52)).heap.size=w.heap.size+1:=by simp
 generalize hwA:w.alloc (.cells #[ag 0,ag 0,ag 0,.string ⟨#[]⟩,af] 52)=w0 at*;have c1:=hT w0 n d hS0 hn6 hd41;generalize hXd:rd E 4 d ex0 (all.drop i) n=X;rw[Pz]at hXd;go_enter func149,ntmps149;go_wp2_with fail;refine c1.mono ?_;intro e w1 ho;cases hx:rd E 6 d ex0 (all.drop i) n with
 |error q=>
  obtain⟨er,at_⟩:=q;rw[hx]at ho hXd;obtain⟨rfl,hk1⟩:=ho;refine⟨rfl,?_⟩;rw[<-hXd];exact⟨rfl,hkA.trans hk1⟩
 |ok q=>
  obtain⟨e0,rr,n0⟩:=q;rw[hx]at ho hXd;obtain⟨i1,sl,dd,hr',rfl,hkd,h1,hn1,hk1⟩:=ho;subst hr';obtain⟨p1,q1,rfl⟩:=hkd.form;have hX1:rd E 5 d e0 (all.drop i1) n0=X:=hXd;have hs1:=hk1.size;have hz1:=hk1.at hz (by omega);have hb2:ao w1 (w1.alloc (.cells #[ag e0.kind,ag e0.a,ag e0.b,.string ⟨e0.name.toArray⟩,.slice p1 e0.kids.length q1] 52)):=am _ _;have h2:=h1.below hb2 h0;have hz2:=ai hb2 hz1;have hkw2:=(hkA.trans hk1).trans (bm.of_below hb2)
  have hv2:re w (w1.alloc (.cells #[ag e0.kind,ag e0.a,ag e0.b,.string ⟨e0.name.toArray⟩,.slice p1 e0.kids.length q1] 52)) w1.heap.size e0:=
   ⟨p1,q1,dd,aC w1 _,(bm.of_below (g:=g) hb2).kids (fun k hk=>by omega) (hkd.lt.mono fun k hk=>by omega)⟩
  unfold exV;have HX1:P3 (rd E 5 d e0 (all.drop i1) n0=X):=hX1;clear hkd h1 hk1 hb2 hx hXd hX1 c1 hz1 hS0 hwA hz hkA hb0;generalize hw2:w1.alloc (.cells #[ag e0.kind,ag e0.a,ag e0.b,.string ⟨e0.name.toArray⟩,.slice p1 e0.kids.length q1] 52)=w2 at*;go_wp2_with fail;clear hw2;go_loopw [6] (fun _ wr=> ∃(e:Ex) (j m:Nat),rd E 5 d e (all.drop j) m=X/\re w wr w1.heap.size e/\PSt all E g v wr j m/\m<=600/\bm g w wr/\wr.heap[w.heap.size]? =ah r6 52) (fun _ wr=>all.length-oA g wr);case atStart=>exact⟨e0,i1,n0,HX1.o,hv2,h2,hn1,hkw2,hz2⟩
  case round=>
   obtain⟨e,j,m,hXr,hv,hst,hm6,hkp,hzr⟩:=hrel;clear HX1 hv2 h2 hkw2 hz2;have hp:=hst.pos;by_cases hs:isT l0 (all.drop j)=true
   ·have hj1:=nK (by decide) hs;have c2:=fw h0 hst l0 (by decide) hs;rw[Gy d e j m hs]at hXr;have c3:=fun(w1:World) (h1:PSt all E g v w1 (j+1) m)=>Gt h0 h1;have HXr:P3 (r7 E d all e m (oK all E (j+1))=X):=hXr;clear hs hXr;go_wp2_with fail;refine c2.mono ?_;rintro e' w3 ⟨rfl,h3,hk3⟩;go_wp2_with fail;refine(c3 _ h3).mono ?_;intro e' w4 ho;cases hx:oK all E (j+1) with
    |error q=>
     obtain⟨er,at_⟩:=q;have hXX:=HXr.o;rw[hx]at ho hXX;obtain⟨rfl,hk4⟩:=ho;refine⟨rfl,?_⟩;rw[<-hXX];exact⟨rfl,(hkp.trans hk3).trans hk4⟩
    |ok q=>
     obtain⟨by_,j2⟩:=q;have hXX:=HXr.o;rw[hx]at ho hXX;obtain⟨rfl,h4,hk4⟩:=ho
     have hj2:j+1<j2:=by
      unfold oK at hx;split at hx
      ·cases hx
      split at hx
      ·cases hx
      ·cases hx;unfold nO;split<;>omega
     have hk34:=hk3.trans hk4;have hs34:=hk34.size;have hv4:=hv.kept hk34 (by omega) hgl;obtain⟨pv,cv,dv,he4,hkv⟩:=hv4.ex;have hz4:=hk34.at hzr (by omega);have hlz:=aF hz4;have hle:=aF he4;have hb5:ao w4 (w4.alloc (.cells #[ag e.kind,ag e.a,ag e.b,.string ⟨e.name.toArray⟩,.slice pv e.kids.length cv] 52)):=am _ _;have kk:=Bg (B:=fun k=>w.heap.size+1<=k/\k≠w1.heap.size) (by constructor<;>omega) (aC w4 (.cells #[ag e.kind,ag e.a,ag e.b,.string ⟨e.name.toArray⟩,.slice pv e.kids.length cv] 52)) ((bm.of_below (g:=g) hb5).kids (fun k hk=>by omega) hkv);have h5:=h4.below hb5 h0;have he5:=(hb5.block _ hle).trans he4;have hz5:=(hb5.block _ hlz).trans hz4;have hk5:=((hkp.trans hk3).trans hk4).trans (bm.of_below hb5);have c6:=j7 h0 h5 hm6 (fun k=>w.heap.size+1<=k/\k≠w1.heap.size) (fun k hk=>by omega) ⟨9,by_,0,[],[e]⟩ _ _ kk;unfold exV at c6;have HXX:P3 (cZ (du E ⟨9,by_,0,[],[e]⟩ (all.drop j2) m) (fun e r n=>rd E 5 d e r n)=X):=hXX;clear hv hv4 hkv hb5 h3 h4 hst hk3 hk4 hk34 hkp hzr hx hXX c2 c3 HXr kk hz4;generalize hw5:w4.alloc (.cells #[ag e.kind,ag e.a,ag e.b,.string ⟨e.name.toArray⟩,.slice pv e.kids.length cv] 52)=w5 at*;go_wp2_with(refine aR rfl 52 _ rfl _ rfl _ _ _ _ he4 eD rfl (by kernel_rfl) ?_)
     refine c6.mono ?_;intro e' w6 ho;cases hx:du E ⟨9,by_,0,[],[e]⟩ (all.drop j2) m with
     |error q=>
      obtain⟨er,at_⟩:=q;have hXX:=HXX.o;rw[hx]at ho hXX;obtain⟨rfl,hk6⟩:=ho;refine⟨rfl,?_⟩;rw[<-hXX];exact⟨rfl,hk5.trans hk6⟩
     |ok q=>
      obtain⟨e6,rr,n6⟩:=q;have hXX:=HXX.o;rw[hx]at ho hXX;obtain⟨i6,sl,dd,hr',rfl,hkd,h6,hn6',hk6⟩:=ho;have er:=dD hx;cases er;obtain⟨p6,q6,rfl⟩:=hkd.form;have he6:=hk6.at he5 (by omega);have hz6:=hk6.at hz5 (by omega);have hs6:=hk6.size;have hk56:=hk5.trans hk6;have hsw:=hk5.size;have i6e:all.drop j2=all.drop i6:=hr'
      have HR:P3 (∀cs,PSt all E g v (w6.setRow w1.heap.size cs) i6 (m+1)/\bm g w (w6.setRow w1.heap.size cs)/\(w6.setRow w1.heap.size cs).heap[w.heap.size]? =ah r6 52/\dn (fun k=>w.heap.size+1<=k/\k≠w1.heap.size) dd (w6.setRow w1.heap.size cs) (.slice p6 1 q6) [e]):=fun cs=>
       ⟨h.of_kept h0 (hk56.setRow (by omega) cs) ((aT _ _ _ _ (by omega)).trans h6.blk) h6.le,hk56.setRow (by omega) cs,(aT _ _ _ _ (by omega)).trans hz6,hkd.kept fun k hk _=>aT _ _ _ _ hk.2⟩
      have HN:P3 (rd E 5 d ⟨9,by_,0,[],[e]⟩ (all.drop i6) (m+1)=X):=by
       show _=_;rw[<-i6e];exact hXX
      have hi6:j<i6:=by
       have l1:=congrArg List.length i6e;simp only[eN]at l1;have:=h6.le;have:=h5.le;omega
      unfold exV;clear hkd h5 h6 hk6 hx hXX c6 he5 hz5 hz6 hk56 i6e HXX hr' hw5;go_wp2_with(refine az rfl 52 _ _ rfl _ _ rfl rfl _ _ he6 (by kernel_rfl) (by simp) (by simp[Value.oneCell']) ?_)
      obtain⟨r1,r2,r3,r4⟩:=HR.o #[ag 9,ag by_,ag 0,.string ⟨#[]⟩,.slice p6 1 q6];go_roundw
      case rel=>
       (repeat apply iC);exact⟨⟨⟨9,by_,0,[],[e]⟩,i6,m+1,HN.o,⟨p6,q6,dd,aJ _ _ _ _ _ _ he6,r4⟩,r1,hn6',r2,r3⟩,rfl⟩
      case measure=>
       rw[hp];have:=r1.pos;have:=r1.le;show all.length-oA g _<_;omega
   ·have hs':isT l0 (all.drop j)=false:=(by simpa using hs);have c2:=dO h0 hst l0 hs';rw[Nz d e j m hs']at hXr;have HXr:P3 (.ok (e,all.drop j,m)=X):=hXr;clear hs hs' hXr hp;go_wp2_with fail;refine c2.mono ?_;rintro e' w3 ⟨rfl,h3,hk3⟩;have hv3:=hv.kept hk3 (by omega) hgl;obtain⟨pv,cv,dv,he3,hkv⟩:=hv3.ex;have hz3:=hk3.at hzr (by omega);have hkw:=hkp.trans hk3
    have HO:P3 (∀cs,jd all E g v w (fun k=>w.heap.size<=k) X (.returned (exV e (.slice pv e.kids.length cv))) (w3.setRow w.heap.size cs)):=fun cs=>by
     rw[<-HXr.o];exact⟨j,_,dv,rfl,rfl,(hkv.kept fun k hk _=>aT _ _ _ _ (by omega)).mono fun k hk=>by omega,h.of_kept h0 (hkw.setRow (aA _) cs) ((aT _ _ _ _ (by omega)).trans h3.blk) h3.le,hm6,hkw.setRow (aA _) cs⟩
    unfold exV at HO;clear c2 hst h3 hk3 hkp hkw hkv hv hv3 hzr HXr
    go_wp2_with(first
     |(refine aR rfl 52 _ rfl _ rfl _ _ _ _ he3 eD rfl (by kernel_rfl) ?_)
     |(refine az rfl 52 _ _ rfl _ _ rfl rfl _ _ hz3 (by kernel_rfl) (by rfl) (by simp[Value.oneCell']) ?_))
    exact jt 4 (by kernel_rfl) w.heap.size _ _ _ _ _ rfl rfl (aJ _ _ _ _ _ _ hz3) (HO.o _)
end
section
variable {all:List Tk} {E g:Nat} {v:Value} {w:World} {i n:Nat}
def yx (all:List Tk)(E g:Nat)(v:Value)(B:Nat->Prop)(W:World)(y:Res)(x:Value):Prop:= ∃(ex:Ex) (i n:Nat) (p:Option Addr) (c d:Nat),y= .ok (ex,all.drop i,n)/\x=exV ex (.slice p ex.kids.length c)/\dn B d W (.slice p ex.kids.length c) ex.kids/\PSt all E g v W i n/\n<=600
theorem jd.two {B:Nat->Prop}{y:Res}{e:Ending}{w':World}(h:jd all E g v w B y e w'):bm g w w'/\((∃er at_,y= .error (er,at_)/\e= .panicked (iS er at_))\/ ∃x,e= .returned x/\yx all E g v B w' y x):=by
 cases y with
 |error q=>exact⟨h.2,.inl ⟨_,_,rfl,h.1⟩⟩
 |ok q=>
  obtain⟨i,sl,d,e1,e2,h1,h2,h3,h4⟩:=h;obtain⟨p,c,rfl⟩:=h1.form;exact⟨h4,.inr ⟨_,e2,q.1,i,q.2.2,p,c,d,by rw[<-e1],rfl,h1,h2,h3⟩⟩
theorem Jv {p:Prop}(h:p):P3 p:=h
theorem rg (y:Res)(f k:Ex->List Tk->Nat->Res):cZ y (fun t r n=>cZ (f t r n) k)=cZ (cZ y f) k:=by cases y<;>rfl
theorem Jw {y:Res}{kd:Int}{e ex:Ex}{r:List Tk}(h:cZ y (fun t r n=>du E ⟨kd,0,0,[],[e,t]⟩ r n)= .ok (ex,r,n)): ∃tx n1,y= .ok (tx,r,n1):=by
 cases y with
 |error q=>cases h
 |ok q=>
  unfold cZ du at h;dsimp only at h;split at h<;>cases h;exact⟨_,_,rfl⟩
theorem rh {y z X:Res}{kd:Int}{e:Ex}{k:Ex->List Tk->Nat->Res}(hz:cZ y (fun t r n=>du E ⟨kd,0,0,[],[e,t]⟩ r n)=z)(hX:cZ z k=X):(∀q,y= .error q->X= .error q)/\(∀t r n,y= .ok (t,r,n)->du E ⟨kd,0,0,[],[e,t]⟩ r n=z)/\ ∀ex r n,z= .ok (ex,r,n)-> ∃tx n1,y= .ok (tx,r,n1):=
 ⟨fun q h=>by rw[<-hX,<-hz,h];rfl,fun t r n h=>by rw[<-hz,h];rfl,fun ex r n h=>Jw (hz.trans h)⟩
structure PJ (all:List Tk)(E g:Nat)(v:Value)(w w3:World)(b j m:Nat)(y z:Res)(s t:Nat)(M:Nat->Bool)(φ:Nat->Value)(W:World):Prop where
 kp:M 6=false->bm g w3 W
 a:M 4=false->PSt all E g v W (j+1) m
 f:M 4=true->M 5=false->yx all E g v (fun k=>w.heap.size+1<=k/\k≠b) W y (φ s)
 c:M 5=true->M 6=false->yx all E g v (fun k=>w.heap.size+1<=k/\k≠b) W z (φ t)
 d:M 6=true-> ∃ex i n,z= .ok (ex,all.drop i,n)/\re w W b ex/\PSt all E g v W i n/\n<=600/\bm g w W/\W.heap[w.heap.size]? =ah r6 52
theorem yx.below {B:Nat->Prop}{W W':World}{y:Res}{x:Value}(h:yx all E g v B W y x)(h0:PS0 all E g v)(hB: ∀k,B k->k≠g)(hb:ao W W'):yx all E g v B W' y x:=by
 obtain⟨ex,i,n,p,c,d,h1,h2,h3,h4,h5⟩:=h;exact⟨ex,i,n,p,c,d,h1,h2,(bm.of_below (g:=g) hb).kids hB h3,h4.below hb h0,h5⟩
theorem PJ.below {w3 W W':World}{b j m s t:Nat}{y z:Res}{M:Nat->Bool}{φ:Nat->Value}(h:PJ all E g v w w3 b j m y z s t M φ W)(h0:PS0 all E g v)(hg:g<w.heap.size)(hbg:b≠g)(hb:ao W W'):PJ all E g v w w3 b j m y z s t M φ W':=by
 have hk:=bm.of_below (g:=g) hb;refine⟨fun c=>(h.kp c).trans hk,fun c=>(h.a c).below hb h0,fun c c'=>(h.f c c').below h0 (fun k hk=>by omega) hb,fun c c'=>(h.c c c').below h0 (fun k hk=>by omega) hb,fun c=> ?_⟩;obtain⟨ex,i,n,h1,h2,h3,h4,h5,h6⟩:=h.d c;exact⟨ex,i,n,h1,h2.kept hk hbg hg,h3.below hb h0,h4,h5.trans hk,hk.at h6 (by omega)⟩
theorem Gz (h0:PS0 all E g v)(hF0:RC all E g v 149 4 i)(hF: ∀j,i<j->RC all E g v 149 4 j):RC all E g v 112 2 i:=by
 intro w n d h hn6 hd41;have hgl:=aF h.blk;have hb0:ao w (w.alloc (.cells #[ag 0,ag 0,ag 0,.string ⟨#[]⟩,af] 52)):=am _ _;have hz:=me w;have hS0:=h.below hb0 h0;have hkA:=bm.of_below (g:=g) hb0;have hszA:(w.alloc (.cells #[ag 0,ag 0,ag 0,.string ⟨#[]⟩,af] 52)).heap.size=w.heap.size+1:=by simp
 generalize hwA:w.alloc (.cells #[ag 0,ag 0,ag 0,.string ⟨#[]⟩,af] 52)=w0 at*;have c1:=hF0 w0 n d hS0 hn6 hd41;generalize hXd:rd E 2 d ex0 (all.drop i) n=X;rw[Py]at hXd;go_enter func112,ntmps112;go_wp2_with fail;refine c1.mono ?_;intro e w1 ho;cases hx:rd E 4 d ex0 (all.drop i) n with
 |error q=>
  obtain⟨er,at_⟩:=q;rw[hx]at ho hXd;obtain⟨rfl,hk1⟩:=ho;refine⟨rfl,?_⟩;rw[<-hXd];exact⟨rfl,hkA.trans hk1⟩
 |ok q=>
  obtain⟨e0,rr0,n0⟩:=q;have hlen0:=lu (by omega) hx;rw[hx]at ho hXd;obtain⟨i1,sl,dd,hr',rfl,hkd,h1,hn1,hk1⟩:=ho;subst hr';obtain⟨p1,q1,rfl⟩:=hkd.form;have hX1:rd E 3 d e0 (all.drop i1) n0=X:=hXd
  have hii1:i<i1:=by
   have e1:fJ 4=1:=rfl;simp only[eN]at hlen0;have:=h1.le;omega
  have hs1:=hk1.size;have hz1:=hk1.at hz (by omega);have hb2:ao w1 (w1.alloc (.cells #[ag e0.kind,ag e0.a,ag e0.b,.string ⟨e0.name.toArray⟩,.slice p1 e0.kids.length q1] 52)):=am _ _;have h2:=h1.below hb2 h0;have hz2:=ai hb2 hz1;have hkw2:=(hkA.trans hk1).trans (bm.of_below hb2)
  have hv2:re w (w1.alloc (.cells #[ag e0.kind,ag e0.a,ag e0.b,.string ⟨e0.name.toArray⟩,.slice p1 e0.kids.length q1] 52)) w1.heap.size e0:=
   ⟨p1,q1,dd,aC w1 _,(bm.of_below (g:=g) hb2).kids (fun k hk=>by omega) (hkd.lt.mono fun k hk=>by omega)⟩
  unfold exV;have HX1:P3 (rd E 3 d e0 (all.drop i1) n0=X):=hX1;clear hkd h1 hk1 hb2 hx hXd hX1 c1 hz1 hS0 hwA hz hkA hb0;generalize hw2:w1.alloc (.cells #[ag e0.kind,ag e0.a,ag e0.b,.string ⟨e0.name.toArray⟩,.slice p1 e0.kids.length q1] 52)=w2 at*;go_wp2_with fail;clear hw2;obtain⟨b5,hb5⟩:=aq w1.heap.size;rw[hb5]at hv2;simp only[hb5];have hb5w:w.heap.size+1<=b5:=(by omega);clear hb5;go_loopw [9] (fun _ wr=> ∃(e:Ex) (j m:Nat),rd E 3 d e (all.drop j) m=X/\re w wr b5 e/\PSt all E g v wr j m/\m<=600/\bm g w wr/\wr.heap[w.heap.size]? =ah r6 52/\i<j) (fun _ wr=>all.length-oA g wr);case atStart=>exact⟨e0,i1,n0,HX1.o,hv2,h2,hn1,hkw2,hz2,hii1⟩
  case round=>
   obtain⟨e,j,m,hXr,hv,hst,hm6,hkp,hzr,hij⟩:=hrel;clear HX1 hv2 h2 hkw2 hz2;have hp:=hst.pos;by_cases hs:isT sY (all.drop j)=true
   ·have hj1:=nK (by decide) hs;have c2:=fun(W:World) (hW:PSt all E g v W j m)=>fw h0 hW sY (by decide) hs;obtain⟨y,HY⟩: ∃y,P3 (rd E 4 d ex0 (all.drop (j+1)) m=y):=⟨_,rfl⟩
    obtain⟨z,HZ⟩: ∃z,P3 (cZ y (fun t r n=>du E ⟨8,0,0,[],[e,t]⟩ r n)=z):=⟨_,rfl⟩
    have HXX:P3 (cZ z (fun e r n=>rd E 3 d e r n)=X):=by
     show _=_;rw[<-hXr,Nq,ay hs,eV,HY.o,rg,HZ.o]
    clear hs hXr;go_wp2_with fail;refine(c2 _ hst).mono ?_;rintro e' w3 ⟨rfl,h3,hk3⟩;have hv3:=hv.kept hk3 (by omega) hgl;obtain⟨pv,cv,dv,he3,hkv3⟩:=hv3.ex;have hz3:=hk3.at hzr (by omega);have hkw3:=hkp.trans hk3;have hlb:=aF he3;have hlz:=aF hz3;clear c2 hst hk3 hkp hzr hv;go_wp2_with fail;have cF:=fun(W:World) (hW:PSt all E g v W (j+1) m)=>hF (j+1) (by omega) W m d hW hm6 hd41;simp only[HY.o]at cF;have hBg: ∀k,(w.heap.size+1<=k/\k≠b5)->k≠g:=fun k hk=>(by omega);have HB:=Jv (rh HZ.o HXX.o);clear HZ;refine lY (fun ex W=> ∃er at_,ex= .panic (iS er at_)/\X= .error (er,at_)/\bm g w W) (fun ex a W hd ⟨er,at_,h1,h2,h3⟩=>by subst h1;refine⟨hd,?_⟩;rw[h2];exact⟨rfl,h3⟩) (PJ all E g v w w3 b5 j m y z 15 16) [kn 11 (ab g 0),kn 12 (exV e (.slice pv e.kids.length cv)),kn 13 (ab g 0),kn 14 (ag (d:Int)),td 15,td 16,nk] (fun _=>⟨fun _=>bm.of_below (aG _ _).drew,fun _=>h3.below (aG _ _).drew h0,(fun h=>by cases h),(fun h=>by cases h),(fun h=>by cases h)⟩) (fun _ M φ W W' _ hb hJ=>hJ.below h0 hgl (by omega) hb) (by kernel_rfl) (fun _ M φ W _ hJ hcl F l hl hF=> ?_) (fun M φ W hM hJ=> ?_)
    ·simp only[kn,td,nk,dN,aQ,aW,Act.put,aB,aI,aH]at hl;subst hl;simp only[dg,Nat.reduceAdd]at hF
     have h65:M 5=false->M 6=false:=fun h5=>by
      cases h:M 6 with
      |false=>rfl
      |true=>rw[hcl 6 _ rfl h ⟨5,.data⟩ (by simp) rfl rfl]at h5;cases h5
     dsimp only[kn,td,nk,dC,en,dS,Act.put];and_intros;all_goals first|exact trivial|intro hw hn hm K hK
     all_goals try (go_simp;with_reducible exact hK _ _ ⟨rfl,aG _ _⟩)
     ·have heW:=(hJ.kp (h65 (hn 5 _ rfl (by kernel_rfl)))).at he3 (by omega);refine d9 52 _ rfl _ (by simp[Act.eval,hF]) _ _ _ _ heW eD rfl (by kernel_rfl) ?_;exact hK _ _ ⟨rfl,aG _ _⟩
     ·have l5:=hn 5 _ rfl (by kernel_rfl);have l6:=h65 l5;have hK3:=hJ.kp l6;have hW:=hJ.a hm;have hsW:=hK3.size;go_simp;refine(cF W hW).mono ?_;intro e' W' ho';obtain⟨hk4,⟨er,at_,hy,rfl⟩|⟨x,rfl,hx⟩⟩:=ho'.two
      ·exact⟨er,at_,rfl,HB.o.1 _ hy,(hkw3.trans hK3).trans hk4⟩
      ·obtain⟨ex,i4,n4,p4,c4,d4,r1,r2,r3,r4⟩:=hx;refine hK _ _ ⟨trivial,fun _=>hK3.trans hk4,(fun h=>by simp at h),fun _ _=>⟨ex,i4,n4,p4,c4,d4,r1,(dI ..).trans r2,r3.mono fun k hk=>by omega,r4⟩,(fun h=>by simp[l5]at h),(fun h=>by simp[l6]at h)⟩
     ·have l6:=h65 hm;have hK3:=hJ.kp l6;have l4:=hw ⟨4,.data⟩ (by simp) rfl rfl;obtain⟨tx,i4,n4,p4,c4,d4,r1,r2,r3,r4,r5⟩:=hJ.f l4 hm;rw[r2]at hF;have hkvW:=hK3.kids hBg hkv3;have hsW:=hK3.size;go_simp;refine(Bh h0 r4 r5 (fun k=>w.heap.size+1<=k/\k≠b5) hBg (fun k hk=>by constructor<;>omega) _ e tx _ _ dv d4 hkvW r3).mono ?_;intro e' W' ho';rw[HB.o.2.1 _ _ _ r1]at ho';obtain⟨hk4,⟨er,at_,hy,rfl⟩|⟨x,rfl,hx⟩⟩:=ho'.two
      ·exact⟨er,at_,rfl,by rw[<-HXX.o,hy];rfl,(hkw3.trans hK3).trans hk4⟩
      ·obtain⟨ex,i5,n5,p5,c5,d5,q1,q2,q3,q4⟩:=hx;refine hK _ _ ⟨trivial,fun _=>hK3.trans hk4,(fun h=>by simp[l4]at h),(fun _ h=>by simp at h),fun _ _=>⟨ex,i5,n5,p5,c5,d5,q1,(dI ..).trans q2,q3,q4⟩,(fun h=>by simp[l6]at h)⟩
     ·have l5:=hw ⟨5,.data⟩ (by simp) rfl rfl;have l4:M 4=true:=hcl 5 _ rfl l5 ⟨4,.data⟩ (by simp) rfl rfl;have hK3:=hJ.kp hm;obtain⟨ex,i5,n5,p5,c5,d5,q1,q2,q3,q4,q5⟩:=hJ.c l5 hm;have heW:=hK3.at he3 (by omega);have hzW:=hK3.at hz3 (by omega);have hkW:=hkw3.trans hK3;rw[q2]at hF;unfold exV at hF;refine dT 52 _ _ rfl _ #[ag ex.kind,ag ex.a,ag ex.b,.string ⟨ex.name.toArray⟩,.slice p5 ex.kids.length c5] (by simp[Act.eval,hF]) (by simp[Act.eval,hF]) _ _ heW (by kernel_rfl) (by rfl) (by simp[Value.oneCell']) ?_;have hset:=fun c=>hkW.setRow (k:=b5) (by omega) c;exact hK undef _ ⟨trivial,(fun h=>by simp at h),(fun h=>by simp[l4]at h),(fun _ h=>by simp[l5]at h),(fun _ h=>by simp at h),fun _=>⟨ex,i5,n5,q1,⟨p5,c5,d5,aJ _ _ _ _ _ _ heW,q3.kept fun k hB _=>aT _ _ _ _ hB.2⟩,h.of_kept h0 (hset _) ((aT _ _ _ _ (by omega)).trans q4.blk) q4.le,q5,hset _,(aT _ _ _ _ (by omega)).trans hzW⟩⟩
    ·obtain⟨ex,i5,n5,q1,hvW,h5,hn5,hkW,hzW⟩:=hJ.d (hM 6 (by decide) rfl);have HN:P3 (rd E 3 d ex (all.drop i5) n5=X):=(by show _=_;rw[<-HXX.o,q1];rfl)
     have hi5:j<i5:=by
      obtain⟨tx,n1,hy⟩:=HB.o.2.2 _ _ _ q1;have hl:=lu (by omega) (HY.o.trans hy);have e1:fJ 4=1:=rfl;simp only[eN]at hl;have:=h5.le;omega
     simp only[kn,td,nk,dP,aQ,aW,Act.put,aB,aI,aH];clear hJ hM q1 HXX HB HY hv3 hkv3 he3 hz3 h3 cF;go_wp2_with fail;go_roundw
     case rel=>
      refine⟨ex,i5,n5,HN.o,hvW,h5,hn5,hkW,hzW,by omega⟩
     case measure=>
      try rw[hp]
      have:=h5.pos;have:=h5.le;show all.length-oA g _<_;omega
   ·have hs':isT sY (all.drop j)=false:=(by simpa using hs);have c2:=fun(W:World) (hW:PSt all E g v W j m)=>dO h0 hW sY hs';rw[Nq,aw hs]at hXr;clear hs hs';have HXr:P3 (.ok (e,all.drop j,m)=X):=hXr;clear hXr hp;go_wp2_with fail;refine(c2 _ hst).mono ?_;rintro e' w3 ⟨rfl,h3,hk3⟩;have hv3:=hv.kept hk3 (by omega) hgl;obtain⟨pv,cv,dv,he3,hkv⟩:=hv3.ex;have hz3:=hk3.at hzr (by omega);have hkw:=hkp.trans hk3
    have HO:P3 (∀cs,jd all E g v w (fun k=>w.heap.size<=k) X (.returned (exV e (.slice pv e.kids.length cv))) (w3.setRow w.heap.size cs)):=fun cs=>by
     rw[<-HXr.o];exact⟨j,_,dv,rfl,rfl,(hkv.kept fun k hk _=>aT _ _ _ _ (by omega)).mono fun k hk=>by omega,h.of_kept h0 (hkw.setRow (aA _) cs) ((aT _ _ _ _ (by omega)).trans h3.blk) h3.le,hm6,hkw.setRow (aA _) cs⟩
    unfold exV at HO;clear c2 hst h3 hk3 hkp hkw hkv hv hv3 hzr HXr
    go_wp2_with(first
     |(refine aR rfl 52 _ rfl _ rfl _ _ _ _ he3 eD rfl (by kernel_rfl) ?_)
     |(refine az rfl 52 _ _ rfl _ _ rfl rfl _ _ hz3 (by kernel_rfl) (by rfl) (by simp[Value.oneCell']) ?_))
    exact jt 4 (by kernel_rfl) w.heap.size _ _ _ _ _ rfl rfl (aJ _ _ _ _ _ _ hz3) (HO.o _)
end
section
variable {all:List Tk} {E g:Nat} {v:Value} {w:World} {i n:Nat}
theorem Jx (h0:PS0 all E g v)(hF0:RC all E g v 112 2 i)(hF: ∀j,i<j->RC all E g v 112 2 j):RC all E g v 73 0 i:=by
 intro w n d h hn6 hd41;have hgl:=aF h.blk;have hb0:ao w (w.alloc (.cells #[ag 0,ag 0,ag 0,.string ⟨#[]⟩,af] 52)):=am _ _;have hz:=me w;have hS0:=h.below hb0 h0;have hkA:=bm.of_below (g:=g) hb0;have hszA:(w.alloc (.cells #[ag 0,ag 0,ag 0,.string ⟨#[]⟩,af] 52)).heap.size=w.heap.size+1:=by simp
 generalize hwA:w.alloc (.cells #[ag 0,ag 0,ag 0,.string ⟨#[]⟩,af] 52)=w0 at*;have c1:=hF0 w0 n d hS0 hn6 hd41;generalize hXd:rd E 0 d ex0 (all.drop i) n=X;rw[Px]at hXd;go_enter func73,ntmps73;go_wp2_with fail;refine c1.mono ?_;intro e w1 ho;cases hx:rd E 2 d ex0 (all.drop i) n with
 |error q=>
  obtain⟨er,at_⟩:=q;rw[hx]at ho hXd;obtain⟨rfl,hk1⟩:=ho;refine⟨rfl,?_⟩;rw[<-hXd];exact⟨rfl,hkA.trans hk1⟩
 |ok q=>
  obtain⟨e0,rr0,n0⟩:=q;have hlen0:=lu (by omega) hx;rw[hx]at ho hXd;obtain⟨i1,sl,dd,hr',rfl,hkd,h1,hn1,hk1⟩:=ho;subst hr';obtain⟨p1,q1,rfl⟩:=hkd.form;have hX1:rd E 1 d e0 (all.drop i1) n0=X:=hXd
  have hii1:i<i1:=by
   have e1:fJ 2=1:=rfl;simp only[eN]at hlen0;have:=h1.le;omega
  have hs1:=hk1.size;have hz1:=hk1.at hz (by omega);have hb2:ao w1 (w1.alloc (.cells #[ag e0.kind,ag e0.a,ag e0.b,.string ⟨e0.name.toArray⟩,.slice p1 e0.kids.length q1] 52)):=am _ _;have h2:=h1.below hb2 h0;have hz2:=ai hb2 hz1;have hkw2:=(hkA.trans hk1).trans (bm.of_below hb2)
  have hv2:re w (w1.alloc (.cells #[ag e0.kind,ag e0.a,ag e0.b,.string ⟨e0.name.toArray⟩,.slice p1 e0.kids.length q1] 52)) w1.heap.size e0:=
   ⟨p1,q1,dd,aC w1 _,(bm.of_below (g:=g) hb2).kids (fun k hk=>by omega) (hkd.lt.mono fun k hk=>by omega)⟩
  unfold exV;have HX1:P3 (rd E 1 d e0 (all.drop i1) n0=X):=hX1;clear hkd h1 hk1 hb2 hx hXd hX1 c1 hz1 hS0 hwA hz hkA hb0;generalize hw2:w1.alloc (.cells #[ag e0.kind,ag e0.a,ag e0.b,.string ⟨e0.name.toArray⟩,.slice p1 e0.kids.length q1] 52)=w2 at*;go_wp2_with fail;clear hw2;obtain⟨b5,hb5⟩:=aq w1.heap.size;rw[hb5]at hv2;simp only[hb5];have hb5w:w.heap.size+1<=b5:=(by omega);clear hb5;go_loopw [10] (fun _ wr=> ∃(e:Ex) (j m:Nat),rd E 1 d e (all.drop j) m=X/\re w wr b5 e/\PSt all E g v wr j m/\m<=600/\bm g w wr/\wr.heap[w.heap.size]? =ah r6 52/\i<j) (fun _ wr=>all.length-oA g wr);case atStart=>exact⟨e0,i1,n0,HX1.o,hv2,h2,hn1,hkw2,hz2,hii1⟩
  case round=>
   obtain⟨e,j,m,hXr,hv,hst,hm6,hkp,hzr,hij⟩:=hrel;clear HX1 hv2 h2 hkw2 hz2;have hp:=hst.pos;by_cases hs:isT pm (all.drop j)=true
   case' neg=>
    have hsP:isT pm (all.drop j)=false:=(by simpa using hs);have hsP2:=hs;clear hs;by_cases hs:isT fR (all.drop j)=true
    case neg=>
     have hs':isT fR (all.drop j)=false:=(by simpa using hs);have c2:=fun(W:World) (hW:PSt all E g v W j m)=>dO h0 hW fR hs';rw[Jg,aw hsP2,aw hs]at hXr;go_wp2_with fail;refine(dO h0 hst pm hsP).mono ?_;rintro e' w2' ⟨rfl,hst',hkP⟩;have hv':=hv.kept hkP (by omega) hgl;have hzr':=hkP.at hzr (by omega);have hkp':=hkp.trans hkP;clear hv hst hkP hkp hzr;have hv:=hv';have hst:=hst';have hzr:=hzr';have hkp:=hkp';clear hv' hst' hzr' hkp';clear hs hs' hsP hsP2;have HXr:P3 (.ok (e,all.drop j,m)=X):=hXr;clear hXr hp;go_wp2_with fail;refine(c2 _ hst).mono ?_;rintro e' w3 ⟨rfl,h3,hk3⟩;have hv3:=hv.kept hk3 (by omega) hgl;obtain⟨pv,cv,dv,he3,hkv⟩:=hv3.ex;have hz3:=hk3.at hzr (by omega);have hkw:=hkp.trans hk3
     have HO:P3 (∀cs,jd all E g v w (fun k=>w.heap.size<=k) X (.returned (exV e (.slice pv e.kids.length cv))) (w3.setRow w.heap.size cs)):=fun cs=>by
      rw[<-HXr.o];exact⟨j,_,dv,rfl,rfl,(hkv.kept fun k hk _=>aT _ _ _ _ (by omega)).mono fun k hk=>by omega,h.of_kept h0 (hkw.setRow (aA _) cs) ((aT _ _ _ _ (by omega)).trans h3.blk) h3.le,hm6,hkw.setRow (aA _) cs⟩
     unfold exV at HO;clear c2 hst h3 hk3 hkp hkw hkv hv hv3 hzr HXr
     go_wp2_with(first
      |(refine aR rfl 52 _ rfl _ rfl _ _ _ _ he3 eD rfl (by kernel_rfl) ?_)
      |(refine az rfl 52 _ _ rfl _ _ rfl rfl _ _ hz3 (by kernel_rfl) (by rfl) (by simp[Value.oneCell']) ?_))
     exact jt 4 (by kernel_rfl) w.heap.size _ _ _ _ _ rfl rfl (aJ _ _ _ _ _ _ hz3) (HO.o _)
    have hj1:=nK (by decide) hs;have c2:=fun(W:World) (hW:PSt all E g v W j m)=>fw h0 hW fR (by decide) hs;obtain⟨y,HY⟩: ∃y,P3 (rd E 2 d ex0 (all.drop (j+1)) m=y):=⟨_,rfl⟩
    obtain⟨z,HZ⟩: ∃z,P3 (cZ y (fun t r n=>du E ⟨7,0,0,[],[e,t]⟩ r n)=z):=⟨_,rfl⟩
    have HXX:P3 (cZ z (fun e r n=>rd E 1 d e r n)=X):=by
     show _=_;rw[<-hXr,Jg,aw hsP2,ay hs,eV,HY.o,rg,HZ.o]
    have HB:=Jv (rh HZ.o HXX.o);clear hs hXr HZ;go_wp2_with fail;refine(dO h0 hst pm hsP).mono ?_;rintro e' w2' ⟨rfl,hst',hkP⟩;have hv':=hv.kept hkP (by omega) hgl;have hzr':=hkP.at hzr (by omega);have hkp':=hkp.trans hkP;clear hv hst hkP hkp hzr;have hv:=hv';have hst:=hst';have hzr:=hzr';have hkp:=hkp';clear hv' hst' hzr' hkp';go_wp2_with fail
   case' pos=>
    have hj1:=nK (by decide) hs;have c2:=fun(W:World) (hW:PSt all E g v W j m)=>fw h0 hW pm (by decide) hs;obtain⟨y,HY⟩: ∃y,P3 (rd E 2 d ex0 (all.drop (j+1)) m=y):=⟨_,rfl⟩
    obtain⟨z,HZ⟩: ∃z,P3 (cZ y (fun t r n=>du E ⟨6,0,0,[],[e,t]⟩ r n)=z):=⟨_,rfl⟩
    have HXX:P3 (cZ z (fun e r n=>rd E 1 d e r n)=X):=by
     show _=_;rw[<-hXr,Jg,ay hs,eV,HY.o,rg,HZ.o]
    have HB:=Jv (rh HZ.o HXX.o);clear hs hXr HZ;go_wp2_with fail
   all_goals
    refine(c2 _ hst).mono ?_
    rintro e' w3 ⟨rfl,h3,hk3⟩
    have hv3:=hv.kept hk3 (by omega) hgl
    obtain⟨pv,cv,dv,he3,hkv3⟩:=hv3.ex
    have hz3:=hk3.at hzr (by omega)
    have hkw3:=hkp.trans hk3
    have hlb:=aF he3
    have hlz:=aF hz3
    clear c2 hst hk3 hkp hzr hv
    go_wp2_with fail
    have cF:=fun(W:World) (hW:PSt all E g v W (j+1) m)=>hF (j+1) (by omega) W m d hW hm6 hd41
    simp only[HY.o]at cF
    have hBg: ∀k,(w.heap.size+1<=k/\k≠b5)->k≠g:=fun k hk=>by omega
   refine lY (fun ex W=> ∃er at_,ex= .panic (iS er at_)/\X= .error (er,at_)/\bm g w W) (fun ex a W hd ⟨er,at_,h1,h2,h3⟩=>by subst h1;refine⟨hd,?_⟩;rw[h2];exact⟨rfl,h3⟩) (PJ all E g v w w3 b5 j m y z 17 18) [kn 13 (ab g 0),kn 14 (exV e (.slice pv e.kids.length cv)),kn 15 (ab g 0),kn 16 (ag (d:Int)),td 17,td 18,nk] (fun _=>⟨fun _=>bm.of_below (aG _ _).drew,fun _=>h3.below (aG _ _).drew h0,(fun h=>by cases h),(fun h=>by cases h),(fun h=>by cases h)⟩) (fun _ M φ W W' _ hb hJ=>hJ.below h0 hgl (by omega) hb) (by kernel_rfl) (fun _ M φ W _ hJ hcl F l hl hF=> ?_) (fun M φ W hM hJ=> ?_);rotate_left 2;refine lY (fun ex W=> ∃er at_,ex= .panic (iS er at_)/\X= .error (er,at_)/\bm g w W) (fun ex a W hd ⟨er,at_,h1,h2,h3⟩=>by subst h1;refine⟨hd,?_⟩;rw[h2];exact⟨rfl,h3⟩) (PJ all E g v w w3 b5 j m y z 26 27) [kn 22 (ab g 0),kn 23 (exV e (.slice pv e.kids.length cv)),kn 24 (ab g 0),kn 25 (ag (d:Int)),td 26,td 27,nk] (fun _=>⟨fun _=>bm.of_below (aG _ _).drew,fun _=>h3.below (aG _ _).drew h0,(fun h=>by cases h),(fun h=>by cases h),(fun h=>by cases h)⟩) (fun _ M φ W W' _ hb hJ=>hJ.below h0 hgl (by omega) hb) (by kernel_rfl) (fun _ M φ W _ hJ hcl F l hl hF=> ?_) (fun M φ W hM hJ=> ?_)
   all_goals first
    |(simp only[kn,td,nk,dN,aQ,aW,Act.put,aB,aI,aH]at hl
      subst hl
      simp only[dg,Nat.reduceAdd]at hF
      have h65:M 5=false->M 6=false:=fun h5=>by
       cases h:M 6 with
       |false=>rfl
       |true=>rw[hcl 6 _ rfl h ⟨5,.data⟩ (by simp) rfl rfl]at h5;cases h5
      dsimp only[kn,td,nk,dC,en,dS,Act.put]
      and_intros
      all_goals first|exact trivial|intro hw hn hm K hK
      all_goals try (go_simp;with_reducible exact hK _ _ ⟨rfl,aG _ _⟩)
      ·have heW:=(hJ.kp (h65 (hn 5 _ rfl (by kernel_rfl)))).at he3 (by omega)
       refine d9 52 _ rfl _ (by simp[Act.eval,hF]) _ _ _ _ heW eD rfl (by kernel_rfl) ?_
       exact hK _ _ ⟨rfl,aG _ _⟩
      ·have l5:=hn 5 _ rfl (by kernel_rfl)
       have l6:=h65 l5
       have hK3:=hJ.kp l6
       have hW:=hJ.a hm
       have hsW:=hK3.size
       go_simp
       refine(cF W hW).mono ?_
       intro e' W' ho'
       obtain⟨hk4,⟨er,at_,hy,rfl⟩|⟨x,rfl,hx⟩⟩:=ho'.two
       ·exact⟨er,at_,rfl,HB.o.1 _ hy,(hkw3.trans hK3).trans hk4⟩
       ·obtain⟨ex,i4,n4,p4,c4,d4,r1,r2,r3,r4⟩:=hx
        refine hK _ _ ⟨trivial,fun _=>hK3.trans hk4,(fun h=>by simp at h),fun _ _=>⟨ex,i4,n4,p4,c4,d4,r1,(dI ..).trans r2,r3.mono fun k hk=>by omega,r4⟩,(fun h=>by simp[l5]at h),(fun h=>by simp[l6]at h)⟩
      ·have l6:=h65 hm
       have hK3:=hJ.kp l6
       have l4:=hw ⟨4,.data⟩ (by simp) rfl rfl
       obtain⟨tx,i4,n4,p4,c4,d4,r1,r2,r3,r4,r5⟩:=hJ.f l4 hm
       rw[r2]at hF
       have hkvW:=hK3.kids hBg hkv3
       have hsW:=hK3.size
       go_simp
       refine(Bh h0 r4 r5 (fun k=>w.heap.size+1<=k/\k≠b5) hBg (fun k hk=>by constructor<;>omega) _ e tx _ _ dv d4 hkvW r3).mono ?_
       intro e' W' ho'
       rw[HB.o.2.1 _ _ _ r1]at ho'
       obtain⟨hk4,⟨er,at_,hy,rfl⟩|⟨x,rfl,hx⟩⟩:=ho'.two
       ·exact⟨er,at_,rfl,by rw[<-HXX.o,hy];rfl,(hkw3.trans hK3).trans hk4⟩
       ·obtain⟨ex,i5,n5,p5,c5,d5,q1,q2,q3,q4⟩:=hx
        refine hK _ _ ⟨trivial,fun _=>hK3.trans hk4,(fun h=>by simp[l4]at h),(fun _ h=>by simp at h),fun _ _=>⟨ex,i5,n5,p5,c5,d5,q1,(dI ..).trans q2,q3,q4⟩,(fun h=>by simp[l6]at h)⟩
      ·have l5:=hw ⟨5,.data⟩ (by simp) rfl rfl
       have l4:M 4=true:=hcl 5 _ rfl l5 ⟨4,.data⟩ (by simp) rfl rfl
       have hK3:=hJ.kp hm
       obtain⟨ex,i5,n5,p5,c5,d5,q1,q2,q3,q4,q5⟩:=hJ.c l5 hm
       have heW:=hK3.at he3 (by omega)
       have hzW:=hK3.at hz3 (by omega)
       have hkW:=hkw3.trans hK3
       rw[q2]at hF
       unfold exV at hF
       refine dT 52 _ _ rfl _ #[ag ex.kind,ag ex.a,ag ex.b,.string ⟨ex.name.toArray⟩,.slice p5 ex.kids.length c5] (by simp[Act.eval,hF]) (by simp[Act.eval,hF]) _ _ heW (by kernel_rfl) (by rfl) (by simp[Value.oneCell']) ?_
       have hset:=fun c=>hkW.setRow (k:=b5) (by omega) c
       exact hK undef _ ⟨trivial,(fun h=>by simp at h),(fun h=>by simp[l4]at h),(fun _ h=>by simp[l5]at h),(fun _ h=>by simp at h),fun _=>⟨ex,i5,n5,q1,⟨p5,c5,d5,aJ _ _ _ _ _ _ heW,q3.kept fun k hB _=>aT _ _ _ _ hB.2⟩,h.of_kept h0 (hset _) ((aT _ _ _ _ (by omega)).trans q4.blk) q4.le,q5,hset _,(aT _ _ _ _ (by omega)).trans hzW⟩⟩)
    |(obtain⟨ex,i5,n5,q1,hvW,h5,hn5,hkW,hzW⟩:=hJ.d (hM 6 (by decide) rfl)
      have HN:P3 (rd E 1 d ex (all.drop i5) n5=X):=by show _=_;rw[<-HXX.o,q1];rfl
      have hi5:j<i5:=by
       obtain⟨tx,n1,hy⟩:=HB.o.2.2 _ _ _ q1;have hl:=lu (by omega) (HY.o.trans hy);have e1:fJ 2=1:=rfl;simp only[eN]at hl;have:=h5.le;omega
      simp only[kn,td,nk,dP,aQ,aW,Act.put,aB,aI,aH]
      clear hJ hM q1 HXX HB HY hv3 hkv3 he3 hz3 h3 cF
      go_wp2_with fail
      go_roundw
      case rel=>
       refine⟨ex,i5,n5,HN.o,hvW,h5,hn5,hkW,hzW,by omega⟩
      case measure=>
       try rw[hp]
       have:=h5.pos
       have:=h5.le
       show all.length-oA g _<_
       omega)
end
section
variable {all:List Tk} {E g:Nat} {v:Value} {w:World} {i n:Nat}
theorem wQ (h0:PS0 all E g v): ∀(k i:Nat),all.length+1-i<=k->
  RC all E g v 173 6 i/\RC all E g v 149 4 i/\RC all E g v 112 2 i/\RC all E g v 73 0 i
 |0,i,hk=>⟨fun _ _ _ h _ _=>absurd h.le (by omega),fun _ _ _ h _ _=>absurd h.le (by omega),fun _ _ _ h _ _=>absurd h.le (by omega),fun _ _ _ h _ _=>absurd h.le (by omega)⟩
 |k+1,i,hk=>by
  have ih:=fun j (hj:i<j)=>wQ h0 k j (by omega);have t:=EF h0 (fun j hj=>(ih j hj).2.2.2) (fun j hj=>(ih j hj).2.1);have f:=CO h0 t;have m:=Gz h0 f (fun j hj=>(ih j hj).2.1);exact⟨t,f,m,Jx h0 m (fun j hj=>(ih j hj).2.2.1)⟩
theorem LS (h0:PS0 all E g v)(i:Nat):RC all E g v 73 0 i:=(wQ h0 _ i (aA _)).2.2.2
end
end Go.Proofs.YtjkilacmkbmmbaaGreatDoor
