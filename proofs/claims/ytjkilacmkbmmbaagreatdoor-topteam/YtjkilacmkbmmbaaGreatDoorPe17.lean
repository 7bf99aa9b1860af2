/- Texts of the proof. -/
import Derived.Test.YtjkilacmkbmmbaaGreatDoorPe16
set_option maxRecDepth 100000
set_option maxHeartbeats 8000000
namespace Go.Proofs.YtjkilacmkbmmbaaGreatDoor
open Go.Proofs.Tryz Go.RowKit Lx Vx Mx Msk
theorem EG (B:Nat->Prop): ∀(d:Nat) (e:Ex) (sl:Value) (w:World),dn B d w sl e.kids->hgt e<=1000000->
  Calls prog 74 #[exV e sl] w fun r w'=>r= .returned (ag (hgt e:Int))/\ao w w':=by
 intro d;induction d with
 |zero=>
  intro e sl w hk hh;obtain⟨hks,p,c,rfl⟩:=hk;have he:hgt e=1:=(by rw[p8,hks];rfl);rw[he];unfold exV;go_enter func74,ntmps74;go_wp2_with fail;refine wp_loop_rounds 1 ?_;rw[rounds_succ];go_wp2_with fail;go_ret;exact⟨rfl,am _ _⟩
 |succ d ih=>
  intro e sl w hk hh;rcases hk with⟨hks,p,c,rfl⟩|⟨g,o,c,hB,rfl,hlen,hkid⟩
  ·have he:hgt e=1:=(by rw[p8,hks];rfl);rw[he];unfold exV;go_enter func74,ntmps74;go_wp2_with fail;refine wp_loop_rounds 1 ?_;rw[rounds_succ];go_wp2_with fail;go_ret;exact⟨rfl,am _ _⟩
  ·have HK:P3 (∀(j:Nat) (k:Ex),e.kids[j]? =some k-> ∃sk:Value,
    w.cell? (ae g (o+j*5))=some (ag k.kind)/\w.cell? (ae g (o+j*5+1))=some (ag k.a)/\w.cell? (ae g (o+j*5+2))=some (ag k.b)/\
    w.cell? (ae g (o+j*5+3))=some (.string ⟨k.name.toArray⟩)/\w.cell? (ae g (o+j*5+4))=some sk/\dn B d w sk k.kids):=hkid
   have HE:P3 (hgt e=hgtL e.kids+1):=p8 e;have HM:P3 (∀k∈e.kids,hgt k<hgt e):=fun k h=>DA h;have hb0:ao w (w.alloc (.cells #[ag e.kind,ag e.a,ag e.b,.string ⟨e.name.toArray⟩,.slice (some (ae g o)) e.kids.length c] 52)):=am _ _;unfold exV;clear hkid;go_enter func74,ntmps74;go_wp2_with fail;go_loopw [3,9] (fun q t wr=> ∃j:Nat,t=ag (j:Int)/\j<=e.kids.length/\q=ag (hgtL (e.kids.take j):Int)/\hgtL (e.kids.take j)<=1000000/\ao w wr) (fun _ t _=>e.kids.length-(intOf t).toNat);case atStart=>exact⟨0,rfl,by omega,rfl,by simp[hgtL],hb0⟩
   case round=>
    obtain⟨j,rfl,hj,rfl,hm,hbel⟩:=hrel;have hj0:(0:Int)<=(j:Int):=(by omega);by_cases hlt:j<e.kids.length
    ·have hlt':(j:Int)<(e.kids.length:Int):=(by omega);obtain⟨k,hjk⟩: ∃k,e.kids[j]? =some k:=⟨e.kids[j],ax hlt⟩
     obtain⟨sk,c0,c1,c2,c3,c4,hkk⟩:=HK.o j k hjk;have hkm:=HM.o k (aM hjk)
     have ht:e.kids.take (j+1)=e.kids.take j++[k]:=by
      obtain⟨h1,h2⟩:=aE.1 hjk;rw[List.take_succ_eq_append_getElem h1,h2]
     have hn:hgtL (e.kids.take (j+1))=max (hgtL (e.kids.take j)) (hgt k):=(by rw[ht,GB]);obtain⟨ps,cs,rfl⟩:=hkk.form;have d0:=aj hbel c0;have d1:=aj hbel c1;have d2:=aj hbel c2;have d3:=aj hbel c3;have d4:=aj hbel c4;have hbA:=hbel.alloc hbel.size (.cells #[ag k.kind,ag k.a,ag k.b,.string ⟨k.name.toArray⟩,.slice ps k.kids.length cs] 52);have cR:=ih k (.slice ps k.kids.length cs) (wr.alloc (.cells #[ag k.kind,ag k.a,ag k.b,.string ⟨k.name.toArray⟩,.slice ps k.kids.length cs] 52)) (hkk.kept fun q _ hq=>hbA.block q hq) (by omega);have hxB:=aC wr (.cells #[ag k.kind,ag k.a,ag k.b,.string ⟨k.name.toArray⟩,.slice ps k.kids.length cs] 52);unfold exV at cR;have HN:P3 (hgtL (e.kids.take (j+1))=max (hgtL (e.kids.take j)) (hgt k)):=hn;have hk6:(hgt k:Int)<=1000000:=(by omega);have hm6:(hgtL (e.kids.take j):Int)<=1000000:=(by omega);generalize hgt k=H at*;generalize hgtL (e.kids.take j)=M at*;clear hn ht hkk c0 c1 c2 c3 c4 hjk hkm;generalize hwB:wr.alloc (.cells #[ag k.kind,ag k.a,ag k.b,.string ⟨k.name.toArray⟩,.slice ps k.kids.length cs] 52)=wB at*;go_wp2_with(refine aR rfl 52 _ rfl _ rfl _ _ _ _ hxB eD rfl (by kernel_rfl) ?_)
     refine cR.mono ?_;rintro e' w2 ⟨rfl,hb2⟩;have hbw2:=au hbA hb2;clear cR hb2 hbA hwB hxB;go_wp2_with fail;go_roundw;case rel=>exact⟨j+1,by go_num,by omega,by rw[HN.o];exact Gb (by omega),by rw[HN.o];omega,hbw2⟩
     case measure=>simp[intOf];omega
    ·have ej:j=e.kids.length:=(by omega);have hlt': ¬(j:Int)<(e.kids.length:Int):=(by omega)
     have HR:P3 (hgt e=hgtL (e.kids.take j)+1):=by
      show _=_;rw[HE.o,ej,fI]
     have hm6:(hgtL (e.kids.take j):Int)<=1000000:=(by omega);generalize hgtL (e.kids.take j)=M at*;clear HE HK HM ej;go_wp2_with fail;go_ret;exact⟨by rw[HR.o];rfl,hbel⟩
section
variable {all:List Tk} {E g:Nat} {v:Value} {w:World} {i n:Nat}
def ruV (u:Ru)(sl:Value):Value:= .agg #[.string ⟨u.1.toArray⟩,ag u.2.kind,ag u.2.a,ag u.2.b,.string ⟨u.2.name.toArray⟩,sl]
def NC (all:List Tk)(E g:Nat)(v:Value)(w:World)(B:Nat->Prop)(x:Except (Int×Nat) (Ru×List Tk))(e:Ending)(w':World):Prop:=
 match x with
 | .error (er,at_)=>e= .panicked (iS er at_)/\bm g w w'
 | .ok (u,r)=> ∃(i m:Nat) (sl:Value) (d:Nat),r=all.drop i/\e= .returned (ruV u sl)/\dn B d w' sl u.2.kids/\PSt all E g v w' i m/\m<=600/\bm g w w'
def PD:Array Value:= #[.string ⟨#[]⟩,ag 0,ag 0,ag 0,.string ⟨#[]⟩,af]
theorem Bk:prog.underlying 54=some (.struct (prog.fieldsOf 54)):=by kernel_rfl
theorem ND {fn:Func}(s:Nat)(h:fn.results= #[ResultVar.cell s 54]){R:Ending->World->Prop}{a:Act}{w:World}(g:Nat)(c0 c1 c2 c3 c4 c5:Value)(hd:a.defers=[])(h2:a.tmps.getD s undef=ab g 0)
  (hg:w.heap[g]? =ah #[c0,c1,c2,c3,c4,c5] 54) (hR:R (.returned (.agg #[c0,c1,c2,c3,c4,c5])) w):bodyPost prog fn R .ret a w:=by
 refine aU (v:= .agg #[c0,c1,c2,c3,c4,c5]) ?_ hd hR;have h2':a.tmps[s]?.getD undef=ab g 0:=by simpa using h2
 have hv:=dR (P:=prog) w g 54 54 _ _ _ hg Bk rfl (by kernel_rfl);simp[results,h,h2',asAddr,hv]
theorem Jy (h0:PS0 all E g v)(h:PSt all E g v w i n):
  Calls prog 38 #[ab g 0] w (NC all E g v w (fun k=>w.heap.size<=k) (oB E (all.drop i))):=by
 have hgl:=aF h.blk;have hb0:ao w (w.alloc (.cells #[.string ⟨#[]⟩,ag 0,ag 0,ag 0,.string ⟨#[]⟩,af] 54)):=am _ _;have hz:(w.alloc (.cells #[.string ⟨#[]⟩,ag 0,ag 0,ag 0,.string ⟨#[]⟩,af] 54)).heap[w.heap.size]? =ah PD 54:=aC w _;have hA:=h.below hb0 h0;have hkA:=bm.of_below (g:=g) hb0;generalize hX:oB E (all.drop i)=X;unfold oB at hX;simp only[eV]at hX;generalize hwA:w.alloc (.cells #[.string ⟨#[]⟩,ag 0,ag 0,ag 0,.string ⟨#[]⟩,af] 54)=wA at*;by_cases h1k:kindP (all.drop i)=1
 ·rw[aw (by simp[h1k])]at hX;have c1:=pW h0 hA 1 (by decide) h1k;unfold jT at c1;by_cases hm:isT wIs (all.drop (i+1))=true
  ·rw[ay hm]at hX;have c2:=fun(w1:World) (h1:PSt all E g v w1 (i+1) n)=>nL h0 h1 wIs (by decide) hm;have c3: ∀(w1:World),PSt all E g v w1 (i+1+1) 0->Calls prog 73 #[ab g 0,ag 1] w1 (jd all E g v w1 (fun k=>w1.heap.size<=k) (rd E 0 1 ex0 (all.drop (i+1+1)) 0)):=fun w1 h1=>LS h0 (i+1+1) w1 0 1 h1 (by omega) (by omega)
   have HX:P3 ((match rd E 0 1 ex0 (all.drop (i+1+1)) 0 with
    | .error q=>Except.error q
    | .ok (e,q,_)=>if 40<hgt e then .error (4,atP E q) else if isT rX q then .ok ((textP (all.drop i),e),q.tail) else .error (2,atP E q))=X):=hX
   generalize kindP (all.drop i)=t0 at*;generalize numP (all.drop i)=t1 at*;generalize (atP E (all.drop i):Int)=t2 at*;generalize textP (all.drop i)=nm at*;clear hm h1k hX;go_enter func38,ntmps38;go_wp2_with fail;refine c1.mono ?_;rintro e w1 ⟨rfl,h1,hk1⟩;go_wp2_with fail;refine(c2 _ h1).mono ?_;rintro e w2 ⟨rfl,h2,hk2⟩;have k3:=ak 3 h2.blk;have y3:=bl _ _ 3 _ _ h2.blk;have h3:PSt all E g v (w2.setCell ⟨g,3,none⟩ (ag 0)) (i+1+1) 0:=h2.setN h0 0;have hk3:=(hk1.trans hk2).trans (bm.set w2 g 3 (ag 0));have hz3:=hk3.at hz (by omega);have hkw3:=hkA.trans hk3;have hl3:=aF hz3;clear c1 c2 h1 hk1 hk2 hk3 hA hkA hb0 hwA hz;go_wp2_with fail;refine(c3 _ h3).mono ?_;intro e w4 ho;clear c3 k3 y3;cases hx:rd E 0 1 ex0 (all.drop (i+1+1)) 0 with
   |error q=>
    obtain⟨er,at_⟩:=q;have hXX:=HX.o;rw[hx]at ho hXX;obtain⟨rfl,hk4⟩:=ho;refine⟨rfl,?_⟩;rw[<-hXX];exact⟨rfl,hkw3.trans hk4⟩
   |ok q=>
    obtain⟨ex,rr,nn⟩:=q;have hh:=NB hx;have hXX:=HX.o;rw[hx]at ho hXX;obtain⟨i4,sl,dd,hr4,rfl,hkd,h4,hn4,hk4⟩:=ho;subst hr4;obtain⟨p5,c5,rfl⟩:=hkd.form;dsimp only at hXX;have hs4:=hk4.size;have hz4:=hk4.at hz3 (by omega);have hb5:ao w4 (w4.alloc (.cells #[ag ex.kind,ag ex.a,ag ex.b,.string ⟨ex.name.toArray⟩,.slice p5 ex.kids.length c5] 52)):=am _ _;have h5:=h4.below hb5 h0;have he5:=aC w4 (.cells #[ag ex.kind,ag ex.a,ag ex.b,.string ⟨ex.name.toArray⟩,.slice p5 ex.kids.length c5] 52);have hz5:=ai hb5 hz4;have hkw5:=(hkw3.trans hk4).trans (bm.of_below hb5);have hkd5:dn (fun k=>w.heap.size+1<=k) dd (w4.alloc (.cells #[ag ex.kind,ag ex.a,ag ex.b,.string ⟨ex.name.toArray⟩,.slice p5 ex.kids.length c5] 52)) (.slice p5 ex.kids.length c5) ex.kids:=(bm.of_below (g:=g) hb5).kids (fun k hk=>by omega) (hkd.mono fun k hk=>by omega);have c6:=EG _ dd ex _ _ hkd5 (by omega);unfold exV at c6⊢;have HXX:P3 ((if 40<hgt ex then Except.error (4,atP E (all.drop i4)) else if isT rX (all.drop i4) then .ok ((nm,ex),(all.drop i4).tail) else .error (2,atP E (all.drop i4)))=X):=hXX;clear hkd h3 h4 hk4 hb5 hx hXX HX hz3 hz4 hkw3;generalize hw5:w4.alloc (.cells #[ag ex.kind,ag ex.a,ag ex.b,.string ⟨ex.name.toArray⟩,.slice p5 ex.kids.length c5] 52)=w5 at*;go_wp2_with(refine aR rfl 52 _ rfl _ rfl _ _ _ _ he5 eD rfl (by kernel_rfl) ?_)
    refine c6.mono ?_;rintro e w6 ⟨rfl,hb6⟩;have h6:=h5.below hb6 h0;have he6:=ai hb6 he5;have hz6:=ai hb6 hz5;have hkw6:=hkw5.trans (bm.of_below hb6);have hkd6:=(bm.of_below (g:=g) hb6).kids (fun k hk=>by omega) hkd5;clear c6 hb6 h5 he5 hz5 hkw5 hkd5 hw5;by_cases h40:40<hgt ex
    ·have h40':(40:Int)<(hgt ex:Int):=(by omega);have hXX:=HXX.o;rw[ay h40]at hXX;have HE:P3 (X= .error (4,atP E (all.drop i4))):=hXX.symm;generalize hgt ex=H at*;clear hXX HXX;go_wp2_with fail;refine(kP h0 h6 4).mono ?_;rintro e w7 ⟨rfl,hb7⟩;refine⟨rfl,?_⟩;rw[HE.o];exact⟨rfl,hkw6.trans (bm.of_below hb7)⟩
    ·have h40': ¬(40:Int)<(hgt ex:Int):=(by omega);have hXX:=HXX.o;rw[aw h40]at hXX;generalize hgt ex=H at*;clear HXX;by_cases hs:isT rX (all.drop i4)=true
     ·rw[ay hs,eV]at hXX;have c7:=nL h0 h6 rX (by decide) hs;have HE:P3 (X= .ok ((nm,ex),all.drop (i4+1))):=hXX.symm;clear hXX hs;go_wp2_with fail;refine c7.mono ?_;rintro e w7 ⟨rfl,h7,hk7⟩;have he7:=hk7.at he6 (by omega);have hz7:=hk7.at hz6 (by omega);have hkw7:=hkw6.trans hk7;have hkd7:=hk7.kids (fun k hk=>by omega) hkd6
      have HO:P3 (∀cs,NC all E g v w (fun k=>w.heap.size<=k) X (.returned (ruV (nm,ex) (.slice p5 ex.kids.length c5))) (w7.setRow w.heap.size cs)):=fun cs=>by
       rw[HE.o];exact⟨i4+1,nn,_,dd,rfl,rfl,(hkd7.kept fun k hk _=>aT _ _ _ _ (by omega)).mono fun k hk=>by omega,h.of_kept h0 (hkw7.setRow (aA _) cs) ((aT _ _ _ _ (by omega)).trans h7.blk) h7.le,hn4,hkw7.setRow (aA _) cs⟩
      unfold ruV at HO;clear c7 h6 h7 hk7 hkw6 hkw7 hkd6 hkd7 he6 hz6 HE
      go_wp2_with(first
       |(refine aR rfl 52 _ rfl _ rfl _ _ _ _ he7 eD rfl (by kernel_rfl) ?_)
       |(refine az rfl 54 _ _ rfl _ _ rfl rfl _ _ hz7 (by kernel_rfl) (by rfl) (by simp[Value.oneCell']) ?_))
      exact ND 2 (by kernel_rfl) w.heap.size _ _ _ _ _ _ rfl rfl (aJ _ _ _ _ _ _ hz7) (HO.o _)
     ·have hs':isT rX (all.drop i4)=false:=(by simpa using hs);rw[aw hs]at hXX;have c7:=pI h0 h6 rX hs';have HE:P3 (X= .error (2,atP E (all.drop i4))):=hXX.symm;clear hXX hs hs';go_wp2_with fail;refine c7.mono ?_;rintro e w7 ⟨rfl,hk7⟩;refine⟨rfl,?_⟩;rw[HE.o];exact⟨rfl,hkw6.trans hk7⟩
  ·have hm':isT wIs (all.drop (i+1))=false:=(by simpa using hm);rw[aw hm]at hX;have c2:=fun(w1:World) (h1:PSt all E g v w1 (i+1) n)=>pI h0 h1 wIs hm';subst hX;clear hm hm' h1k;go_enter func38,ntmps38;go_wp2_with fail;refine c1.mono ?_;rintro e w1 ⟨rfl,h1,hk1⟩;go_wp2_with fail;refine(c2 _ h1).mono ?_;rintro e w2 ⟨rfl,hk2⟩;exact⟨rfl,rfl,(hkA.trans hk1).trans hk2⟩
 ·rw[ay h1k]at hX;have c1:=yw h0 hA 1 h1k;subst hX;go_enter func38,ntmps38;go_wp2_with fail;refine c1.mono ?_;rintro e w1 ⟨rfl,hk1⟩;exact⟨rfl,rfl,hkA.trans hk1⟩
end
section
variable {all:List Tk} {E g:Nat} {v:Value} {w:World} {i n:Nat}
def kR:List (Ru×Value)->List Value
 |[]=>[]
 |p::l=> .string ⟨p.1.1.toArray⟩::ag p.1.2.kind::ag p.1.2.a::ag p.1.2.b:: .string ⟨p.1.2.name.toArray⟩::p.2::kR l
theorem wT (p:Ru×Value): ∀l:List (Ru×Value),kR (l++[p])=kR l++[.string ⟨p.1.1.toArray⟩,ag p.1.2.kind,ag p.1.2.a,ag p.1.2.b,.string ⟨p.1.2.name.toArray⟩,p.2]
 |[]=>rfl
 |q::l=>by simp[kR,wT p l]
theorem Jz:(prog.info? 54).map (fun i=>(i.zero,i.size,i.bytes))=some (some (.agg #[.string ⟨#[]⟩,ag 0,ag 0,ag 0,.string ⟨#[]⟩,af]),6,80):=by kernel_rfl
theorem GC:prog.underlying 45=some (.slice 54):=by kernel_rfl
structure mf (w0 w:World)(v:Value)(us:List (Ru×Value)):Prop where
 own:w.ownsRow w0.heap.size 54 6 v us.length (kR us)
 kids: ∀p∈us,∃d,dn (fun k=>w0.heap.size<=k) d w p.2 p.1.2.kids
def PE (g:Nat)(w:World)(x:Except (Int×Nat) (List Ru))(e:Ending)(w':World):Prop:=
 match x with
 | .error (er,at_)=>e= .panicked (iS er at_)/\bm g w w'
 | .ok rs=> ∃(vr:Value) (us:List (Ru×Value)),e= .returned vr/\us.map (·.1)=rs/\mf w w' vr us/\us.length<=40/\bm g w w'
theorem GD {E:Nat}{r q:List Tk}{u:Ru}(h:oB E r= .ok (u,q)):q.length<r.length:=by
 unfold oB at h;split at h
 ·cases h
 ·rename_i h1;have h1':=po (r:=r) (by omega);split at h
  ·split at h
   ·cases h
   ·rename_i e q' n' hx;have hl:=lu (by omega) hx;split at h
    ·cases h
    ·split at h
     ·cases h;simp only[List.length_tail]at hl⊢;omega
     ·cases h
  ·cases h
theorem mf.kept {w0 w w':World}{vr:Value}{us:List (Ru×Value)}(h:mf w0 w vr us)(hk:bm g w w')(hg:g<w0.heap.size):mf w0 w' vr us:=by
 refine⟨h.own.kept hk (.inr fun e=> ?_),fun p hp=> ?_⟩
 ·have:=(h.own.lt g e).1;omega
 ·obtain⟨d,hd⟩:=h.kids p hp;exact⟨d,hk.kids (fun k hk=>by omega) hd⟩
theorem wU {w0 w w':World}{vr:Value}{xs:List Value}{m:Nat}{ks:List Ex}{sl:Value}{d:Nat}(ho:w.ownsRow w0.heap.size 54 6 vr m xs)(hg:w.grownBy w' vr.ownBlock)(h:dn (fun k=>w0.heap.size<=k) d w sl ks):dn (fun k=>w0.heap.size<=k) d w' sl ks:=by
 obtain⟨_,h2⟩:=ho;rcases h2 with⟨rfl,_⟩|⟨b,cap,cur,rfl,_,hh,_⟩
 ·exact h.kept fun k _ hl=>hg.block k hl (fun e=>by cases e)
 ·refine((h.other hh (by decide)).kept fun k hk hl=>hg.block k hl (fun e=>hk.2 (aK e))).mono fun k hk=>hk.1
theorem CP {E f:Nat}{acc:List Ru}{r:List Tk}(h:r.length≠0):iE E (f+1) acc r=if isT ue r then(if acc.length=40 then .error (5,atP E r.tail) else match oB E r.tail with| .error q=> .error q| .ok (u,q)=>iE E f (acc++[u]) q) else .error (2,atP E r):=by
 rw[iE,aw h];rfl
theorem EH {E f:Nat}{acc:List Ru}{r:List Tk}(h:r.length=0):iE E f acc r= .ok acc:=by
 cases f with
 |zero=>rfl
 |succ f=>rw[iE,ay h]
theorem GE (h0:PS0 all E g v)(h:PSt all E g v w i n):
  Calls prog 26 #[ab g 0] w (PE g w (iE E ((all.drop i).length+1) [] (all.drop i))):=by
 have hgl:=aF h.blk;obtain⟨i0,hi,hz0,hz1,hz2⟩:=iW Jz;have hlen:=h0.len;generalize hX:iE E ((all.drop i).length+1) [] (all.drop i)=X;have HX:P3 (iE E ((all.drop i).length+1) [] (all.drop i)=X):=hX;clear hX;go_enter func26,ntmps26;go_wp2_with fail;go_loopw [3] (fun q wr=> ∃(us:List (Ru×Value)) (f j m:Nat),iE E f (us.map (·.1)) (all.drop j)=X/\(all.drop j).length<f/\us.length<=40/\mf w wr q us/\PSt all E g v wr j m/\bm g w wr) (fun _ wr=>all.length-oA g wr);case atStart=>exact⟨[],_,i,n,HX.o,by omega,by simp,⟨bV _ _ _ _,fun p hp=>by cases hp⟩,h,bm.refl _ _⟩
 case round=>
  obtain⟨us,f,j,m,hXr,hf,h40,hrow,hst,hkp⟩:=hrel;clear HX;have hp:=hst.pos;have k0:=ak 0 hst.blk;have k1:=ak 1 hst.blk;obtain⟨pv,cv,ev⟩:=qZ.form hst.row;have hjl:=hst.le;have HXr:P3 (iE E f (us.map (·.1)) (all.drop j)=X):=hXr;have HV:P3 (v= .slice pv all.length cv):=ev;rw[ev]at k0;clear hXr ev;by_cases hlt:j<all.length
  ·have hlt':(j:Int)<(all.length:Int):=(by omega);go_wp2_with fail;go_quiet (fail);have hbq:ao wr (wr.drewN nq):=dr (aG _ _) nq;have hst1:=hst.below hbq h0;have hkp1:=hkp.trans (bm.of_below hbq);have hrow1:=hrow.kept (bm.of_below (g:=g) hbq) hgl;clear hst hkp hrow hbq k0 k1;generalize wr.drewN nq=w1 at*;obtain⟨f,rfl⟩: ∃f',f=f'+1:=⟨f-1,by omega⟩
   have hXX:=HXr.o;rw[CP (by simp;omega),eV]at hXX;clear HXr;by_cases hR:isT ue (all.drop j)=true
   ·rw[ay hR]at hXX;have c2:=nL h0 hst1 ue (by decide) hR;by_cases hm:us.length=40
    ·rw[ay (by simpa using hm)]at hXX;have HE:P3 (X= .error (5,atP E (all.drop (j+1)))):=hXX.symm;obtain⟨pq,cq,rfl⟩:=bU hrow1.own;have hm':((us.length:Int)==40)=true:=(by rw[hm];rfl);clear hXX hR hm;go_wp2_with fail;refine c2.mono ?_;rintro e w2 ⟨rfl,h2,hk2⟩;go_wp2_with fail;refine(kP h0 h2 5).mono ?_;rintro e w3 ⟨rfl,hb3⟩;refine⟨rfl,?_⟩;rw[HE.o];exact⟨rfl,(hkp1.trans hk2).trans (bm.of_below hb3)⟩
    ·rw[aw (by simpa using hm)]at hXX;have hm':((us.length:Int)==40)=false:=bf.2 (by omega);have hj1:=nK (by decide) hR;have HXX:P3 ((match oB E (all.drop (j+1)) with| .error q=> .error q| .ok (u,q)=>iE E f (us.map (·.1)++[u]) q)=X):=hXX;have cR:=fun(W:World) (hW:PSt all E g v W (j+1) m)=>Jy h0 hW;have hown1:=hrow1.own;obtain⟨pq,cq,eq⟩:=bU hown1;have HQ:P3 (u3= .slice pq us.length cq):=eq;subst eq;clear hXX hR hown1;go_wp2_with fail;refine c2.mono ?_;rintro e w2 ⟨rfl,h2,hk2⟩;have hkp2:=hkp1.trans hk2;have hrow2:=hrow1.kept hk2 hgl;clear hrow1 hst1 hkp1 c2;go_wp2_with fail;refine(cR _ h2).mono ?_;intro e w3 ho;clear cR;cases hx:oB E (all.drop (j+1)) with
     |error q=>
      obtain⟨er,at_⟩:=q;have hXX:=HXX.o;rw[hx]at ho hXX;obtain⟨rfl,hk3⟩:=ho;refine⟨rfl,?_⟩;rw[<-hXX];exact⟨rfl,hkp2.trans hk3⟩
     |ok q=>
      obtain⟨u,rr⟩:=q;have hql:=GD hx;have hXX:=HXX.o;rw[hx]at ho hXX;obtain⟨i3,m3,sl,d3,hr3,rfl,hkd,h3,hm3,hk3⟩:=ho;subst hr3;obtain⟨p3,c3,rfl⟩:=hkd.form;have hrow3:=hrow2.kept hk3 hgl;have hkp3:=hkp2.trans hk3;have hs2:=hkp2.size;have hs3:=hkp3.size
      have HN:P3 (iE E f ((us++[(u,Value.slice p3 u.2.kids.length c3)]).map (fun p=>p.1)) (all.drop i3)=X):=by
       show _=_;rw[dh];exact hXX
      have hb4:ao w3 (w3.alloc (.cells #[.string ⟨u.1.toArray⟩,ag u.2.kind,ag u.2.a,ag u.2.b,.string ⟨u.2.name.toArray⟩,.slice p3 u.2.kids.length c3] 54)):=am _ _;have hrow4:=hrow3.kept (bm.of_below (g:=g) hb4) hgl;have h4:=h3.below hb4 h0;have hkp4:=hkp3.trans (bm.of_below hb4);have hkd4:dn (fun k=>w.heap.size<=k) d3 (w3.alloc (.cells #[.string ⟨u.1.toArray⟩,ag u.2.kind,ag u.2.a,ag u.2.b,.string ⟨u.2.name.toArray⟩,.slice p3 u.2.kids.length c3] 54)) (.slice p3 u.2.kids.length c3) u.2.kids:=(bm.of_below (g:=g) hb4).kids (fun k hk=>by omega) (hkd.mono fun k hk=>by omega);have hx4:=aC w3 (.cells #[.string ⟨u.1.toArray⟩,ag u.2.kind,ag u.2.a,ag u.2.b,.string ⟨u.2.name.toArray⟩,.slice p3 u.2.kids.length c3] 54);have hs4:=hkp4.size;unfold ruV;clear hrow2 hrow3 h2 h3 hk2 hk3 hkd hkp2 hkp3 hb4 hx hXX HXX;generalize hw4:w3.alloc (.cells #[.string ⟨u.1.toArray⟩,ag u.2.kind,ag u.2.a,ag u.2.b,.string ⟨u.2.name.toArray⟩,.slice p3 u.2.kids.length c3] 54)=w4 at*;go_wp2_with(at_builtin;refine iK _ rfl _ _ 45 rfl w.heap.size 54 i0 (.agg #[.string ⟨#[]⟩,ag 0,ag 0,ag 0,.string ⟨#[]⟩,af]) 6 80 GC hi hz0 hz1 hz2 rfl (by decide) (.slice pq us.length cq) us.length (kR us) rfl hrow4.own ⟨w3.heap.size,0,none⟩ 1 1 [.string ⟨u.1.toArray⟩,ag u.2.kind,ag u.2.a,ag u.2.b,.string ⟨u.2.name.toArray⟩,.slice p3 u.2.kids.length c3] rfl rfl ?c1 ?c2 ?c3 ?c4 ?c5 ?_)
      case c1=>
       intro j u' hj;match j,hj with
       |0,hj=>simp at hj;subst hj;exact(aV _ _ _ _ _ _ hx4).trans rfl
       |1,hj=>simp at hj;subst hj;exact(aV _ _ _ _ _ _ hx4).trans rfl
       |2,hj=>simp at hj;subst hj;exact(aV _ _ _ _ _ _ hx4).trans rfl
       |3,hj=>simp at hj;subst hj;exact(aV _ _ _ _ _ _ hx4).trans rfl
       |4,hj=>simp at hj;subst hj;exact(aV _ _ _ _ _ _ hx4).trans rfl
       |5,hj=>simp at hj;subst hj;exact(aV _ _ _ _ _ _ hx4).trans rfl
      case c2=>intro u hu;simp at hu;rcases hu with rfl|rfl|rfl|rfl|rfl|rfl<;>rfl
      case c3=>unfold maxLen;omega
      case c4=>omega
      case c5=>exact hs4
      intro v' w5 hown' hgrow _;have hlo:=hrow4.own.lt;have hgne: ∀b,(Value.slice pq us.length cq).ownBlock=some b->b≠g:=fun b hb=>(by have:=(hlo b hb).1;omega);have hkp5:bm g w w5:=⟨hgrow.os.trans hkp4.os,hgrow.tape.trans hkp4.tape,hgrow.output.trans hkp4.output,a6 hkp4.size hgrow.size,fun k hk hne=>(hgrow.block k (by omega) (fun e=>by have:=(hlo k e.symm).1;omega)).trans (hkp4.block k hk hne)⟩
      have h5:PSt all E g v w5 i3 m3:=h.of_kept h0 hkp5 ((hgrow.block g (aF h4.blk) (fun e=>hgne g e.symm rfl)).trans h4.blk) h4.le
      have hrow5:mf w w5 v' (us++[(u,.slice p3 u.2.kids.length c3)]):=by
       refine⟨?_,fun p hp=> ?_⟩
       ·rw[wT];simp only[aL,bz,fc,bK];exact hown'
       ·rcases bJ.1 hp with hp|hp
        ·obtain⟨d,hd⟩:=hrow4.kids p hp;exact⟨d,wU hrow4.own hgrow hd⟩
        ·have e:p=(u,.slice p3 u.2.kids.length c3):=(by simpa using hp);subst e;exact⟨d3,wU hrow4.own hgrow hkd4⟩
      have hn5:(us++[(u,Value.slice p3 u.2.kids.length c3)]).length<=40:=(by simp;omega)
      have hfl:(all.drop i3).length<f:=by
       simp only[eN]at hql hf⊢;omega
      clear hown' hgrow hrow4 h4 hkp4 hkd4 hx4 hw4;go_wp2_with fail;go_roundw;case rel=>exact⟨_,f,i3,m3,HN.o,hfl,hn5,hrow5,h5,hkp5⟩
      case measure=>
       rw[hp];have:=h5.pos;have:=h5.le;show all.length-oA g _<_;simp only[eN]at hql;omega
   ·have hR':isT ue (all.drop j)=false:=(by simpa using hR);rw[aw hR]at hXX;have HE:P3 (X= .error (2,atP E (all.drop j))):=hXX.symm;have c2:=pI h0 hst1 ue hR';clear hXX hR hR';go_wp2_with fail;refine c2.mono ?_;rintro e w2 ⟨rfl,hk2⟩;refine⟨rfl,?_⟩;rw[HE.o];exact⟨rfl,hkp1.trans hk2⟩
  ·have hlt': ¬(j:Int)<(all.length:Int):=(by omega);have hXX:=HXr.o;rw[EH (by simp;omega)]at hXX;have HE:P3 (X= .ok (us.map (·.1))):=hXX.symm;clear hXX HXr;go_wp2_with fail;go_quiet (fail);have hbq:ao wr (wr.drewN nq):=dr (aG _ _) nq;have hkp1:=hkp.trans (bm.of_below hbq);have hrow1:=hrow.kept (bm.of_below (g:=g) hbq) hgl;go_wp2_with fail;go_ret;rw[HE.o];exact⟨_,us,rfl,rfl,hrow1,h40,hkp1⟩
end
section
theorem EI (p q:Option Addr)(w:World):
  CallsD prog 25 #[.pointer p,.pointer q] .returning w fun e u' w'=>e= .returned (.tuple #[])/\u'= .returning/\w'=w:=by
 refine callsD_of_wpS func25 rfl fun c₀ cs hu=> ?_;apply wpS_seq;apply wpS_region;simp[wpOpsS,go_sem,recoverD,hu,ntmps25,Exit.thenS];refine wpS_of_wp ?_;change Code.wp _ _ _ {tmps:= #[.pointer p,.pointer q,.nilIface,.nilIface,undef,undef,undef,undef,undef],defers:=[]} w;go_wp2_with fail;cases c₀;simp_all [bodyPostS,results,results25]
theorem Bm (c0 c1:Value)(w:World):(Instr.typeAssert (.iface 77 (.agg #[c0,c1])) 20 77 false).run prog w= .ok (.agg #[c0,c1]) w:=by
 unfold Instr.typeAssert;simp[go_sem]
theorem CQ (c0 c1:Value)(w:World):(Instr.field 77 (.agg #[c0,c1]) 0).run prog w= .ok (.agg #[c0,c1]) w:=by
 unfold Instr.field;simp[go_sem,asAgg]
attribute [local go_sem] Bm CQ
def qd (p q:Nat)(er at_:Int)(w:World):World:=((w.setCell ⟨p,0,none⟩ (af)).setCell ⟨q,0,none⟩ (ag er)).setCell ⟨q,1,none⟩ (ag at_)
theorem Bn (p q:Nat)(hpq:p≠q)(c0 c1 c2:Value)(er at_:Int)(w:World)(hp:w.heap[p]? =ah #[c0] 45)(hq:w.heap[q]? =ah #[c1,c2] 47):
  CallsD prog 25 #[ab p 0,ab q 0] (.panicking [{v:= .iface 77 (.agg #[ag er,ag at_]),recovered:=false}]) w fun e u' w'=>
   e= .returned (.tuple #[])/\u'= .panicking [{v:= .iface 77 (.agg #[ag er,ag at_]),recovered:=true}]/\ ∃k,w'=(qd p q er at_ w).drewN k:=by
 have kp:=ak 0 hp;have kq0:=ak 0 hq;have kq1:=ak 1 hq;have yp:=bl _ _ 0 _ _ hp;have yq0:=bl _ _ 0 _ _ hq;have yq1:=bl _ _ 1 _ _ hq;refine callsD_of_wpS func25 rfl fun c₀ cs hu=> ?_;apply wpS_seq;apply wpS_region;simp[wpOpsS,go_sem,recoverD,hu,ntmps25,Exit.thenS];refine wpS_of_wp ?_;change Code.wp _ _ _ {tmps:= #[ab p 0,ab q 0,.iface 77 (.agg #[ag er,ag at_]),.iface 77 (.agg #[ag er,ag at_]),undef,undef,undef,undef,undef],defers:=[]} w;go_wp2_with fail;go_region;show bodyPostS _ _ _ _ _ _ _ _ _;simp[bodyPostS,results,results25];exact⟨1,rfl⟩
end
theorem vD (l:List UInt8)(h: ∀i,i<l.length->isD (l.getD i 0)=true)(h6:l.length<=6):0<=valL l/\valL l<=999999:=by
 have b:=pj l h l.length (aA _) h6;rw[fI]at b;omega
theorem EJ (l:List UInt8): ∀i,i<(l.take (gF isD l)).length->isD ((l.take (gF isD l)).getD i 0)=true:=by
 intro i hi;have hle:=lr isD l;rw[d8,fC hle]at hi;have:=zb isD l i hi;rw[dJ]at this⊢;rw[ja,ay hi];exact this
theorem GF (l:List UInt8)(he:(firstT l).err=0):0<=(firstT l).n/\(firstT l).n<=999999:=by
 unfold firstT at he⊢;split at he
 ·rename_i hf;rw[ay hf];unfold kO at he⊢;split at he
  ·rename_i h;rw[ay h];unfold nJ at h⊢;split at h
   ·rename_i hv;rw[ay hv];have:=Cal.wJ _ _ _ hv.1 hv.2;show 0<=Cal.num _ _ _/\Cal.num _ _ _<=999999;omega
   ·simp at h
  ·simp[bad]at he
 ·rename_i hf;rw[aw hf];split at he
  ·rename_i hf2;rw[ay hf2];have p1:=md hf2 0 2 (by decide) (fun i hi=>by match i,hi with|0,_=>rfl|1,_=>rfl);have p2:=md hf2 3 2 (by decide) (fun i hi=>by match i,hi with|0,_=>rfl|1,_=>rfl);have q1:=vD _ p1.2 (by omega);have q2:=vD _ p2.2 (by omega);unfold oq at he⊢;split at he
   ·simp[bad]at he
   ·rename_i h;rw[aw h];simp only;omega
  ·rename_i hf2;rw[aw hf2];split at he
   ·rename_i hd;rw[ay hd];unfold mc at he⊢;split at he
    ·simp[bad]at he
    ·rename_i h;rw[aw h];have hle:=lr isD l;exact vD _ (EJ l) (by rw[d8,fC hle];omega)
   ·rename_i hd;rw[aw hd];split at he
    ·rename_i hL;rw[ay hL];unfold kB at he⊢;split at he
     ·simp[bad]at he
     ·rename_i h;rw[aw h];simp
    ·rename_i hL;rw[aw hL];unfold jP at he⊢;split at he
     ·rename_i hp;rw[ay hp];simp
     ·rename_i hp;rw[aw hp];split at he
      ·simp[bad]at he
      ·rename_i h;rw[aw h];simp
theorem GG {l:List UInt8}{ts:List Tk}{k:Nat}(h:eY l ts k): ∀p∈ts,0<=p.1.n/\p.1.n<=999999:=by
 obtain⟨n,hn⟩:=h;refine eY.ind (M:=fun ts _=> ∀p∈ts,0<=p.1.n/\p.1.n<=999999) (fun p hp=>by cases hp) ?_ n hn;intro ts k _ _ he ih p hp;rcases bJ.1 hp with h|h
 ·exact ih p h
 ·have e:p=(firstT (l.drop k),k):=by simpa using h
  rw[e];exact GF _ he
theorem mf.later {w0 w1 w w':World}{vr:Value}{us:List (Ru×Value)}(h:mf w0 w vr us)(hk: ∀k,w0.heap.size<=k->w'.heap[k]? =w.heap[k]?)(hb:w1.heap.size<=w0.heap.size):mf w1 w' vr us:=by
 refine⟨?_,fun p hp=> ?_⟩
 ·obtain⟨h1,h2⟩:=h.own;refine⟨h1,?_⟩;rcases h2 with h2|⟨g,cap,cur,hv,hg,hh,r⟩
  ·exact .inl h2
  ·exact .inr ⟨g,cap,cur,hv,by omega,(hk g hg).trans hh,r⟩
 ·obtain⟨d,hd⟩:=h.kids p hp;exact⟨d,(hd.kept fun k hB _=>hk k hB).mono fun k hB=>by omega⟩
theorem Bo (p q:Nat)(er at_:Int)(w:World)(k:Nat)(h1:k≠p)(h2:k≠q):(qd p q er at_ w).heap[k]? =w.heap[k]? :=by
 unfold qd;rw[aN _ _ _ _ h2,aN _ _ _ _ h2,aN _ _ _ _ h1]
def tf (l:List UInt8)(w0 w:World)(v:Value)(er at_:Int):Prop:=
 (6000<l.length/\v=af/\er=4/\at_=0)\/
 (∃(ts:List Tk) (k:Nat),l.length<=6000/\eY l ts k/\k<l.length/\(firstT (l.drop k)).err≠0/\v=af/\er=(firstT (l.drop k)).err/\at_=(k:Int))\/
 (∃(ts:List Tk) (k:Nat) (er':Int) (at':Nat),l.length<=6000/\eY l ts k/\ ¬k<l.length/\iE l.length (ts.length+1) [] ts= .error (er',at')/\v=af/\er=er'/\at_=(at':Int))\/
 (∃(ts:List Tk) (k:Nat) (us:List (Ru×Value)),l.length<=6000/\eY l ts k/\ ¬k<l.length/\iE l.length (ts.length+1) [] ts= .ok (us.map (fun p=>p.1))/\us.length<=40/\mf w0 w v us/\er=0/\at_=0)
theorem qe {tmps:Array Value}{R:Ending->World->Prop}{w:World}(p q:Nat)(a:Option Addr)(b c:Nat)(er at_:Int)(h2:tmps.getD 2 undef=ab p 0)(h3:tmps.getD 3 undef=ab q 0)
  (hp:w.heap[p]? =ah #[.slice a b c] 45) (hq:w.heap[q]? =ah #[ag er,ag at_] 47) (hR:R (.returned (.tuple #[.slice a b c,.agg #[ag er,ag at_]])) w):Leaves prog f16 tmps R [] .returning w:=by
 refine⟨.tuple #[.slice a b c,.agg #[ag er,ag at_]],?_,hR⟩;have h2':tmps[2]?.getD undef=ab p 0:=by simpa using h2
 have h3':tmps[3]?.getD undef=ab q 0:=by simpa using h3
 have kp:w.cell? (ae p 0)=some (.slice a b c):=ak 0 hp;have kq0:w.cell? (ae q 0)=some (ag er):=ak 0 hq;have kq1:w.cell? (ae q 1)=some (ag at_):=ak 1 hq;simp[results,results16,h2',h3',asAddr,kp,kq0,kq1,go_sem]
theorem GH (s:ByteArray)(l:List UInt8)(hs:s.data.toList=l)(hl:l.length<=9223372036854775807)(w:World)(hT:gc w)(hD:pV w):
  Calls prog 16 #[.string s] w fun e w'=>(∃v er at_,e= .returned (.tuple #[v,.agg #[ag er,ag at_]])/\tf l w w' v er at_)/\ao w w':=by
 have hz:s.size=l.length:=by rw[<-hs,Lib.size_eq]
 have hmf: ∀(fn:Fn) (first cap:Array Value) (w:World),(Instr.makeFunc fn first cap).run prog w= .ok (.func fn first cap) w:=fun _ _ _ _=>rfl;have hbA:=am w (.cells #[af] 45);have hbB:=hbA.alloc hbA.size (.cells #[ag 0,ag 0] 47);have hp2:=(dB _ (.cells #[ag 0,ag 0] 47) _ (aF (aC w (.cells #[af] 45)))).trans (aC w (.cells #[af] 45));have hp3:=aC (w.alloc (.cells #[af] 45)) (.cells #[ag 0,ag 0] 47);rw[show(w.alloc (.cells #[af] 45)).heap.size=w.heap.size+1 by simp]at hp3;have hszB:((w.alloc (.cells #[af] 45)).alloc (.cells #[ag 0,ag 0] 47)).heap.size=w.heap.size+2:=by simp
 generalize hwB:(w.alloc (.cells #[af] 45)).alloc (.cells #[ag 0,ag 0] 47)=wB at*;have cX:=LK s l hs hl wB (hT.below hbB);go_enter_defers func16,ntmps16;go_wp2_with fail;refine cX.mono ?_;rintro e w1 ⟨⟨v,er,at_,rfl,hx⟩,hb1⟩;have hq2:=ai hb1 hp2;have hq3:=ai hb1 hp3;have hb1w:=au hbB hb1;have hsz1:=hb1.size;clear hp2 hp3 cX hwB;have hr3:=aJ w1 (w.heap.size+1) _ #[ag er,ag at_] _ _ hq3;have hr2:=(aT w1 (w.heap.size+1) w.heap.size #[ag er,ag at_] (by omega)).trans hq2;have hbr:ao w (w1.setRow (w.heap.size+1) #[ag er,ag at_]):=below_setRow hb1w (by omega) _;have d0:(w1.setRow (w.heap.size+1) #[ag er,ag at_]).cell? (ae (w.heap.size+1) 0)=some (ag er):=ak 0 hr3;by_cases he:er=0
 ·subst he
  obtain⟨ts,k,h6,hL,hk,ho⟩: ∃(ts:List Tk) (k:Nat),l.length<=6000/\eY l ts k/\ ¬k<l.length/\w1.ownsRow wB.heap.size 99 4 v ts.length (j6 ts):=by
   rcases hx with⟨_,_,h,_⟩|⟨ts,k,_,_,_,he,_,h,_⟩|⟨ts,k,h1,h2,h3,h4,_⟩
   ·cases h
   ·exact absurd h.symm he
   ·exact⟨ts,k,h1,h2,h3,h4⟩
  have hle:=hL.le;have hnum:=GG hL;have hown: ∀b,v.ownBlock=some b->b<w1.heap.size/\wB.heap.size<=b:=fun b hb=>⟨(ho.lt b hb).2,(ho.lt b hb).1⟩
  have hrow1:qZ w1 v ts:=Be ho (by omega);have hsr:(w1.setRow (w.heap.size+1) #[ag 0,ag at_]).heap.size=w1.heap.size:=(by simp[World.setRow])
  have hrow2:qZ (w1.setRow (w.heap.size+1) #[ag 0,ag at_]) v ts:=by
   rcases hrow1 with h|⟨gt,o,c,hv,hl',hc⟩
   ·exact .inl h
   ·refine .inr ⟨gt,o,c,hv,hl',fun j t k hj=> ?_⟩;obtain⟨c1,c2,c3,c4⟩:=hc j t k hj
    have hne:gt≠w.heap.size+1:=by
     have:=(hown gt (by rw[hv];rfl)).2;omega
    have e:(w1.setRow (w.heap.size+1) #[ag 0,ag at_]).heap[gt]? =w1.heap[gt]? :=aT _ _ _ _ hne;have ce: ∀i,(w1.setRow (w.heap.size+1) #[ag 0,ag at_]).cell? (ae gt i)=w1.cell? (ae gt i):=fun i=>dL e;exact⟨(ce _).trans c1,(ce _).trans c2,(ce _).trans c3,(ce _).trans c4⟩
  have hDr:pV (w1.setRow (w.heap.size+1) #[ag 0,ag at_]):=fun j hj=>(hbr.cell (bT (hD j hj))).trans (hD j hj);have hgd:=bT (hD 0 (by omega));obtain⟨pv,cv,rfl⟩:=hrow1.form;clear hx ho hrow1 hT;generalize hWr:w1.setRow (w.heap.size+1) #[ag 0,ag at_]=Wr at*;have hb4:ao Wr (Wr.alloc (.cells #[.slice pv ts.length cv,ag 0,ag (l.length:Int),ag 0] 79)):=am _ _;have h0:PS0 ts l.length Wr.heap.size (.slice pv ts.length cv):=⟨by omega,h6,fun e=>by have:=(hown _ e).1;omega,hnum,by show 5≠Wr.heap.size;have:5<w.heap.size:=hgd;omega⟩
  have hst:PSt ts l.length Wr.heap.size (.slice pv ts.length cv) (Wr.alloc (.cells #[.slice pv ts.length cv,ag 0,ag (l.length:Int),ag 0] 79)) 0 0:=
   ⟨aC Wr _,(bm.of_below (g:=Wr.heap.size+1) hb4).row (fun e=>by have:=(hown _ e).1;omega) hrow2,by omega,(bm.of_below (g:=Wr.heap.size+1) hb4).days (by show 5≠Wr.heap.size+1;have:5<w.heap.size:=hgd;omega) hDr⟩
  have c4:=GE h0 hst;rw[List.drop_zero]at c4;have hp4:=ai hb4 hr2;have hq4:=ai hb4 hr3;have hbw4:=au hbr hb4;have hs4:(Wr.alloc (.cells #[.slice pv ts.length cv,ag 0,ag (l.length:Int),ag 0] 79)).heap.size=Wr.heap.size+1:=(by simp);have hlz:w.heap.size+1<Wr.heap.size:=aF hr3;clear hb4 hst hDr hrow2 hown hnum;have hsr':=hsr.symm;clear hsr;go_wp2_with(refine az rfl 47 _ _ rfl _ _ rfl rfl _ _ hq3 (by kernel_rfl) (by simp) (by simp[Value.oneCell']) ?_)
  refine c4.mono ?_;intro e w5 ho;cases hx:iE l.length (ts.length+1) [] ts with
  |error q=>
   obtain⟨er,at'⟩:=q;rw[hx]at ho;obtain⟨rfl,hk5⟩:=ho;have hp5:=hk5.at hp4 (by omega);have hq5:=hk5.at hq4 (by omega)
   have hq0:(qd w.heap.size (w.heap.size+1) er (at':Int) w5).heap[w.heap.size]? =ah #[af] 45:=
    (aN _ _ _ _ (by show w.heap.size≠w.heap.size+1;omega)).trans ((aN _ _ _ _ (by show w.heap.size≠w.heap.size+1;omega)).trans (aX _ _ 0 _ _ _ hp5))
   have hq1:(qd w.heap.size (w.heap.size+1) er (at':Int) w5).heap[w.heap.size+1]? =ah #[ag er,ag (at':Int)] 47:=
    aX _ _ 1 _ _ _ (aX _ _ 0 _ _ _ ((aN _ _ _ _ (by show w.heap.size+1≠w.heap.size;omega)).trans hq5))
   have hbf:ao w (qd w.heap.size (w.heap.size+1) er (at':Int) w5):=by
    have hs5:=hk5.size;refine⟨hk5.os.trans hbw4.os,hk5.tape.trans hbw4.tape,hk5.output.trans hbw4.output,?_,fun k hk=> ?_⟩
    ·have:=hbw4.size;simp[qd];omega
    ·rw[Bo _ _ _ _ _ _ (by omega) (by omega),hk5.block k (by omega) (fun e=>by have:=aK e;omega)];exact hbw4.block k hk
   show bodyPostD _ _ _ (Exit.panic _) _ _;simp only[bodyPostD];refine leaves_cons (f:=25) (args:= #[ab w.heap.size 0,ab (w.heap.size+1) 0]) (by simp) (by simp[go_sem]) ?_;refine(Bn w.heap.size (w.heap.size+1) (by omega) _ _ _ er (at':Int) w5 hp5 hq5).mono ?_;rintro e u' w6 ⟨rfl,rfl,k,rfl⟩;show Leaves _ _ _ _ [] (settle _) _;simp only[settle,List.dropWhile_nil];exact qe w.heap.size (w.heap.size+1) none 0 0 er (at':Int) rfl rfl hq0 hq1 ⟨⟨_,_,_,rfl,.inr (.inr (.inl ⟨ts,_,er,at',h6,hL,hk,hx,rfl,rfl,rfl⟩))⟩,dr hbf k⟩
  |ok rs=>
   rw[hx]at ho;obtain⟨vr,us,rfl,hus,hrow,hu40,hk5⟩:=ho;have hp5:=hk5.at hp4 (by omega);have hq5:=hk5.at hq4 (by omega);obtain⟨pr,cr,rfl⟩:=bU hrow.own;have kp:=ak 0 hp5;have yp:=bl _ _ 0 _ _ hp5;have hp6:(w5.setCell ⟨w.heap.size,0,none⟩ (.slice pr us.length cr)).heap[w.heap.size]? =ah #[.slice pr us.length cr] 45:=aX _ _ 0 _ _ _ hp5;have hq6:=(aN w5 ⟨w.heap.size,0,none⟩ (w.heap.size+1) (.slice pr us.length cr) (by show w.heap.size+1≠w.heap.size;omega)).trans hq5;have hp7:=(aT (w5.setCell ⟨w.heap.size,0,none⟩ (.slice pr us.length cr)) (w.heap.size+1) w.heap.size #[ag 0,ag 0] (by omega)).trans hp6;have hq7:=aJ (w5.setCell ⟨w.heap.size,0,none⟩ (.slice pr us.length cr)) (w.heap.size+1) _ #[ag 0,ag 0] _ _ hq6;have hoth: ∀k,k≠w.heap.size->k≠w.heap.size+1->((w5.setCell ⟨w.heap.size,0,none⟩ (.slice pr us.length cr)).setRow (w.heap.size+1) #[ag 0,ag 0]).heap[k]? =w5.heap[k]? :=fun k h1 h2=>(aT _ _ _ _ h2).trans (aN _ _ _ _ h1)
   have hbf:ao w ((w5.setCell ⟨w.heap.size,0,none⟩ (.slice pr us.length cr)).setRow (w.heap.size+1) #[ag 0,ag 0]):=by
    have hs5:=hk5.size;refine⟨hk5.os.trans hbw4.os,hk5.tape.trans hbw4.tape,hk5.output.trans hbw4.output,?_,fun k hk=> ?_⟩
    ·have:=hbw4.size;simp[World.setRow];omega
    ·rw[hoth _ (by omega) (by omega),hk5.block k (by omega) (fun e=>by have:=aK e;omega)];exact hbw4.block k hk
   have hrowF:=hrow.later (w1:=w) (w':=(w5.setCell ⟨w.heap.size,0,none⟩ (.slice pr us.length cr)).setRow (w.heap.size+1) #[ag 0,ag 0]) (fun k hk=>hoth k (by omega) (by omega)) hbw4.size;have HP:P3 (tf l w ((w5.setCell ⟨w.heap.size,0,none⟩ (.slice pr us.length cr)).setRow (w.heap.size+1) #[ag 0,ag 0]) (.slice pr us.length cr) 0 0):= .inr (.inr (.inr ⟨ts,k,us,h6,hL,hk,by rw[hx,hus],hu40,hrowF,rfl,rfl⟩));clear hrow hrowF c4 hx hus hoth hk5 hL hp4 hq4 hr2 hr3;go_wp2_with(refine az rfl 47 _ _ rfl _ _ rfl rfl _ _ hq6 (by kernel_rfl) (by simp) (by simp[Value.oneCell']) ?_)
   simp only[bodyPostD];refine leaves_cons (f:=25) (args:= #[ab w.heap.size 0,ab (w.heap.size+1) 0]) (by simp) (by simp[go_sem]) ?_;refine(EI _ _ _).mono ?_;rintro e u' w6 ⟨rfl,rfl,rfl⟩;show Leaves _ _ _ _ [] (settle _) _;simp only[settle];exact qe w.heap.size (w.heap.size+1) pr us.length cr 0 0 rfl rfl hp7 hq7 ⟨⟨_,_,_,rfl,HP.o⟩,hbf⟩
 ·have hne:(er !=0)=true:=by simpa using he
  have d1:(w1.setRow (w.heap.size+1) #[ag er,ag at_]).cell? (ae (w.heap.size+1) 1)=some (ag at_):=ak 1 hr3;have k0:(w1.setRow (w.heap.size+1) #[ag er,ag at_]).cell? (ae w.heap.size 0)=some (af):=ak 0 hr2;have y0:=bl _ _ 0 _ _ hr2;have y1:=bl _ _ 0 _ _ hr3;have y2:=bl _ _ 1 _ _ hr3
  have HP:P3 (∀W,tf l w W (af) er at_):=fun W=>by
   rcases hx with⟨h,_,h1,h2⟩|⟨ts,k,h6,hL,hk,he',_,h1,h2⟩|⟨ts,k,_,_,_,_,h1,_⟩
   ·exact .inl ⟨h,rfl,h1,h2⟩
   ·exact .inr (.inl ⟨ts,k,h6,hL,hk,he',rfl,h1,h2⟩)
   ·exact absurd h1 he
  clear hx he;generalize hWr:w1.setRow (w.heap.size+1) #[ag er,ag at_]=Wr at*;go_wp2_with(refine az rfl 47 _ _ rfl _ _ rfl rfl _ _ hq3 (by kernel_rfl) (by simp) (by simp[Value.oneCell']) ?_)
  go_region;go_wp2_with fail
  have hf2:(((Wr.setCell ⟨w.heap.size,0,none⟩ (af)).setCell ⟨w.heap.size+1,0,none⟩ (ag er)).setCell ⟨w.heap.size+1,1,none⟩ (ag at_)).heap[w.heap.size]? =ah #[af] 45:=
   (aN _ _ _ _ (by show w.heap.size≠w.heap.size+1;omega)).trans ((aN _ _ _ _ (by show w.heap.size≠w.heap.size+1;omega)).trans (aX _ _ 0 _ _ _ hr2))
  have hf3:(((Wr.setCell ⟨w.heap.size,0,none⟩ (af)).setCell ⟨w.heap.size+1,0,none⟩ (ag er)).setCell ⟨w.heap.size+1,1,none⟩ (ag at_)).heap[w.heap.size+1]? =ah #[ag er,ag at_] 47:=
   aX _ _ 1 _ _ _ (aX _ _ 0 _ _ _ ((aN _ _ _ _ (by show w.heap.size+1≠w.heap.size;omega)).trans hr3))
  have hbf:=((hbr.setCell (p:=⟨w.heap.size,0,none⟩) (aA _) (af)).setCell (p:=⟨w.heap.size+1,0,none⟩) (by show w.heap.size<=w.heap.size+1;omega) (ag er)).setCell (p:=⟨w.heap.size+1,1,none⟩) (by show w.heap.size<=w.heap.size+1;omega) (ag at_);simp only[bodyPostD];exact qe w.heap.size (w.heap.size+1) none 0 0 er at_ rfl rfl hf2 hf3 ⟨⟨_,_,_,rfl,HP.o _⟩,dr hbf 1⟩
end Go.Proofs.YtjkilacmkbmmbaaGreatDoor
