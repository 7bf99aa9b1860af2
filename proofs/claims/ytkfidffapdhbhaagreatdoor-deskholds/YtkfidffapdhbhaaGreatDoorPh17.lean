/- Texts of the proof. -/
import Derived.Test.YtkfidffapdhbhaaGreatDoorPh16
set_option maxRecDepth 100000
set_option maxHeartbeats 8000000
namespace Go.Proofs.YtkfidffapdhbhaaGreatDoor
open Go.Proofs.Tryz Go.RowKit Lx Vx Mx Msk
section
variable {all:List Tk} {E g:Nat} {v:Value} {w:World} {i n:Nat}
def ruV (u:Ru)(sl:Value):Value:= .agg #[.string ⟨u.1.toArray⟩,ag u.2.kind,ag u.2.a,ag u.2.b,.string ⟨u.2.name.toArray⟩,sl]
def Nb (all:List Tk)(E g:Nat)(v:Value)(w:World)(B:Nat->Prop)(x:Except (Int×Nat) (Ru×List Tk))(e:Ending)(w':World):Prop:=
 match x with
 | .error (er,at_)=>e= .panicked (jk er at_)/\bo g w w'
 | .ok (u,r)=> ∃(i m:Nat) (sl:Value) (d:Nat),r=all.drop i/\e= .returned (ruV u sl)/\dw B d w' sl u.2.kids/\PSt all E g v w' i m/\m<=600/\bo g w w'
def Pe:Array Value:= #[.string ⟨#[]⟩,ag 0,ag 0,ag 0,.string ⟨#[]⟩,af]
theorem Bb:prog.underlying 106=some (.struct (prog.fieldsOf 106)):=by kernel_rfl
theorem Nc {fn:Func}(s:Nat)(h:fn.results= #[ResultVar.cell s 106]){R:Ending->World->Prop}{a:Act}{w:World}(g:Nat)(c0 c1 c2 c3 c4 c5:Value)(hd:a.defers=[])(h2:a.tmps.getD s undef=ab g 0)
  (hg:w.heap[g]? =ah #[c0,c1,c2,c3,c4,c5] 106) (hR:R (.returned (.agg #[c0,c1,c2,c3,c4,c5])) w):bodyPost prog fn R .ret a w:=by
 refine aW (v:= .agg #[c0,c1,c2,c3,c4,c5]) ?_ hd hR;have h2':a.tmps[s]?.getD undef=ab g 0:=by simpa using h2
 have hv:=dV (P:=prog) w g 106 106 _ _ _ hg Bb rfl (by kernel_rfl);simp[results,h,h2',asAddr,hv]
theorem Jl (h0:PS0 all E g v)(h:PSt all E g v w i n):
  Calls prog 88 #[ab g 0] w (Nb all E g v w (fun k=>w.heap.size<=k) (oO E (all.drop i))):=by
 have hgl:=aH h.blk;have hb0:aq w (w.alloc (.cells #[.string ⟨#[]⟩,ag 0,ag 0,ag 0,.string ⟨#[]⟩,af] 106)):=am _ _;have hz:(w.alloc (.cells #[.string ⟨#[]⟩,ag 0,ag 0,ag 0,.string ⟨#[]⟩,af] 106)).heap[w.heap.size]? =ah Pe 106:=aE w _;have hA:=h.below hb0 h0;have hkA:=bo.of_below (g:=g) hb0;generalize hX:oO E (all.drop i)=X;unfold oO at hX;simp only[fA]at hX;generalize hwA:w.alloc (.cells #[.string ⟨#[]⟩,ag 0,ag 0,ag 0,.string ⟨#[]⟩,af] 106)=wA at*;by_cases h1k:kindP (all.drop i)=1
 ·rw[ax (by simp[h1k])]at hX;have c1:=qe h0 hA 1 (by decide) h1k;unfold j9 at c1;by_cases hm:isT wIs (all.drop (i+1))=true
  ·rw[aD hm]at hX;have c2:=fun(w1:World) (h1:PSt all E g v w1 (i+1) n)=>od h0 h1 wIs (by decide) hm;have c3: ∀(w1:World),PSt all E g v w1 (i+1+1) 0->Calls prog 122 #[ab g 0,ag 1] w1 (jw all E g v w1 (fun k=>w1.heap.size<=k) (rd E 0 1 ex0 (all.drop (i+1+1)) 0)):=fun w1 h1=>Lt h0 (i+1+1) w1 0 1 h1 (by omega) (by omega)
   have HX:PH ((match rd E 0 1 ex0 (all.drop (i+1+1)) 0 with
    | .error q=>Except.error q
    | .ok (e,q,_)=>if 40<hgt e then .error (4,atP E q) else if isT r0 q then .ok ((textP (all.drop i),e),q.tail) else .error (2,atP E q))=X):=hX
   generalize kindP (all.drop i)=t0 at*;generalize numP (all.drop i)=t1 at*;generalize (atP E (all.drop i):Int)=t2 at*;generalize textP (all.drop i)=nm at*;clear hm h1k hX;go_enter func88,ntmps88;go_wp2_with fail;refine c1.mono ?_;rintro e w1 ⟨rfl,h1,hk1⟩;go_wp2_with fail;refine(c2 _ h1).mono ?_;rintro e w2 ⟨rfl,h2,hk2⟩;have k3:=ak 3 h2.blk;have y3:=bl _ _ 3 _ _ h2.blk;have h3:PSt all E g v (w2.setCell ⟨g,3,none⟩ (ag 0)) (i+1+1) 0:=h2.setN h0 0;have hk3:=(hk1.trans hk2).trans (bo.set w2 g 3 (ag 0));have hz3:=hk3.at hz (by omega);have hkw3:=hkA.trans hk3;have hl3:=aH hz3;clear c1 c2 h1 hk1 hk2 hk3 hA hkA hb0 hwA hz;go_wp2_with fail;refine(c3 _ h3).mono ?_;intro e w4 ho;clear c3 k3 y3;cases hx:rd E 0 1 ex0 (all.drop (i+1+1)) 0 with
   |error q=>
    obtain⟨er,at_⟩:=q;have hXX:=HX.o;rw[hx]at ho hXX;obtain⟨rfl,hk4⟩:=ho;refine⟨rfl,?_⟩;rw[<-hXX];exact⟨rfl,hkw3.trans hk4⟩
   |ok q=>
    obtain⟨ex,rr,nn⟩:=q;have hh:=Na hx;have hXX:=HX.o;rw[hx]at ho hXX;obtain⟨i4,sl,dd,hr4,rfl,hkd,h4,hn4,hk4⟩:=ho;subst hr4;obtain⟨p5,c5,rfl⟩:=hkd.form;dsimp only at hXX;have hs4:=hk4.size;have hz4:=hk4.at hz3 (by omega);have hb5:aq w4 (w4.alloc (.cells #[ag ex.kind,ag ex.a,ag ex.b,.string ⟨ex.name.toArray⟩,.slice p5 ex.kids.length c5] 104)):=am _ _;have h5:=h4.below hb5 h0;have he5:=aE w4 (.cells #[ag ex.kind,ag ex.a,ag ex.b,.string ⟨ex.name.toArray⟩,.slice p5 ex.kids.length c5] 104);have hz5:=ai hb5 hz4;have hkw5:=(hkw3.trans hk4).trans (bo.of_below hb5);have hkd5:dw (fun k=>w.heap.size+1<=k) dd (w4.alloc (.cells #[ag ex.kind,ag ex.a,ag ex.b,.string ⟨ex.name.toArray⟩,.slice p5 ex.kids.length c5] 104)) (.slice p5 ex.kids.length c5) ex.kids:=(bo.of_below (g:=g) hb5).kids (fun k hk=>by omega) (hkd.mono fun k hk=>by omega);have c6:=Et _ dd ex _ _ hkd5 (by omega);unfold exV at c6⊢;have HXX:PH ((if 40<hgt ex then Except.error (4,atP E (all.drop i4)) else if isT r0 (all.drop i4) then .ok ((nm,ex),(all.drop i4).tail) else .error (2,atP E (all.drop i4)))=X):=hXX;clear hkd h3 h4 hk4 hb5 hx hXX HX hz3 hz4 hkw3;generalize hw5:w4.alloc (.cells #[ag ex.kind,ag ex.a,ag ex.b,.string ⟨ex.name.toArray⟩,.slice p5 ex.kids.length c5] 104)=w5 at*;go_wp2_with(refine aQ rfl 104 _ rfl _ rfl _ _ _ _ he5 fc rfl (by kernel_rfl) ?_)
    refine c6.mono ?_;rintro e w6 ⟨rfl,hb6⟩;have h6:=h5.below hb6 h0;have he6:=ai hb6 he5;have hz6:=ai hb6 hz5;have hkw6:=hkw5.trans (bo.of_below hb6);have hkd6:=(bo.of_below (g:=g) hb6).kids (fun k hk=>by omega) hkd5;clear c6 hb6 h5 he5 hz5 hkw5 hkd5 hw5;by_cases h40:40<hgt ex
    ·have h40':(40:Int)<(hgt ex:Int):=(by omega);have hXX:=HXX.o;rw[aD h40]at hXX;have HE:PH (X= .error (4,atP E (all.drop i4))):=hXX.symm;generalize hgt ex=H at*;clear hXX HXX;go_wp2_with fail;refine(ld h0 h6 4).mono ?_;rintro e w7 ⟨rfl,hb7⟩;refine⟨rfl,?_⟩;rw[HE.o];exact⟨rfl,hkw6.trans (bo.of_below hb7)⟩
    ·have h40': ¬(40:Int)<(hgt ex:Int):=(by omega);have hXX:=HXX.o;rw[ax h40]at hXX;generalize hgt ex=H at*;clear HXX;by_cases hs:isT r0 (all.drop i4)=true
     ·rw[aD hs,fA]at hXX;have c7:=od h0 h6 r0 (by decide) hs;have HE:PH (X= .ok ((nm,ex),all.drop (i4+1))):=hXX.symm;clear hXX hs;go_wp2_with fail;refine c7.mono ?_;rintro e w7 ⟨rfl,h7,hk7⟩;have he7:=hk7.at he6 (by omega);have hz7:=hk7.at hz6 (by omega);have hkw7:=hkw6.trans hk7;have hkd7:=hk7.kids (fun k hk=>by omega) hkd6
      have HO:PH (∀cs,Nb all E g v w (fun k=>w.heap.size<=k) X (.returned (ruV (nm,ex) (.slice p5 ex.kids.length c5))) (w7.setRow w.heap.size cs)):=fun cs=>by
       rw[HE.o];exact⟨i4+1,nn,_,dd,rfl,rfl,(hkd7.kept fun k hk _=>aV _ _ _ _ (by omega)).mono fun k hk=>by omega,h.of_kept h0 (hkw7.setRow (aB _) cs) ((aV _ _ _ _ (by omega)).trans h7.blk) h7.le,hn4,hkw7.setRow (aB _) cs⟩
      unfold ruV at HO;clear c7 h6 h7 hk7 hkw6 hkw7 hkd6 hkd7 he6 hz6 HE
      go_wp2_with(first
       |(refine aQ rfl 104 _ rfl _ rfl _ _ _ _ he7 fc rfl (by kernel_rfl) ?_)
       |(refine ay rfl 106 _ _ rfl _ _ rfl rfl _ _ hz7 (by kernel_rfl) (by rfl) (by simp[Value.oneCell']) ?_))
      exact Nc 2 (by kernel_rfl) w.heap.size _ _ _ _ _ _ rfl rfl (aL _ _ _ _ _ _ hz7) (HO.o _)
     ·have hs':isT r0 (all.drop i4)=false:=(by simpa using hs);rw[ax hs]at hXX;have c7:=pR h0 h6 r0 hs';have HE:PH (X= .error (2,atP E (all.drop i4))):=hXX.symm;clear hXX hs hs';go_wp2_with fail;refine c7.mono ?_;rintro e w7 ⟨rfl,hk7⟩;refine⟨rfl,?_⟩;rw[HE.o];exact⟨rfl,hkw6.trans hk7⟩
  ·have hm':isT wIs (all.drop (i+1))=false:=(by simpa using hm);rw[ax hm]at hX;have c2:=fun(w1:World) (h1:PSt all E g v w1 (i+1) n)=>pR h0 h1 wIs hm';subst hX;clear hm hm' h1k;go_enter func88,ntmps88;go_wp2_with fail;refine c1.mono ?_;rintro e w1 ⟨rfl,h1,hk1⟩;go_wp2_with fail;refine(c2 _ h1).mono ?_;rintro e w2 ⟨rfl,hk2⟩;exact⟨rfl,rfl,(hkA.trans hk1).trans hk2⟩
 ·rw[aD h1k]at hX;have c1:=yt h0 hA 1 h1k;subst hX;go_enter func88,ntmps88;go_wp2_with fail;refine c1.mono ?_;rintro e w1 ⟨rfl,hk1⟩;exact⟨rfl,rfl,hkA.trans hk1⟩
end
section
variable {all:List Tk} {E g:Nat} {v:Value} {w:World} {i n:Nat}
def lh:List (Ru×Value)->List Value
 |[]=>[]
 |p::l=> .string ⟨p.1.1.toArray⟩::ag p.1.2.kind::ag p.1.2.a::ag p.1.2.b:: .string ⟨p.1.2.name.toArray⟩::p.2::lh l
theorem wQ (p:Ru×Value): ∀l:List (Ru×Value),lh (l++[p])=lh l++[.string ⟨p.1.1.toArray⟩,ag p.1.2.kind,ag p.1.2.a,ag p.1.2.b,.string ⟨p.1.2.name.toArray⟩,p.2]
 |[]=>rfl
 |q::l=>by simp[lh,wQ p l]
theorem Jm:(prog.info? 106).map (fun i=>(i.zero,i.size,i.bytes))=some (some (.agg #[.string ⟨#[]⟩,ag 0,ag 0,ag 0,.string ⟨#[]⟩,af]),6,80):=by kernel_rfl
theorem Gv:prog.underlying 24=some (.slice 106):=by kernel_rfl
structure my (w0 w:World)(v:Value)(us:List (Ru×Value)):Prop where
 own:w.ownsRow w0.heap.size 106 6 v us.length (lh us)
 kids: ∀p∈us,∃d,dw (fun k=>w0.heap.size<=k) d w p.2 p.1.2.kids
def Pf (g:Nat)(w:World)(x:Except (Int×Nat) (List Ru))(e:Ending)(w':World):Prop:=
 match x with
 | .error (er,at_)=>e= .panicked (jk er at_)/\bo g w w'
 | .ok rs=> ∃(vr:Value) (us:List (Ru×Value)),e= .returned vr/\us.map (·.1)=rs/\my w w' vr us/\us.length<=40/\bo g w w'
theorem Gw {E:Nat}{r q:List Tk}{u:Ru}(h:oO E r= .ok (u,q)):q.length<r.length:=by
 unfold oO at h;split at h
 ·cases h
 ·rename_i h1;have h1':=pG (r:=r) (by omega);split at h
  ·split at h
   ·cases h
   ·rename_i e q' n' hx;have hl:=lL (by omega) hx;split at h
    ·cases h
    ·split at h
     ·cases h;simp only[List.length_tail]at hl⊢;omega
     ·cases h
  ·cases h
theorem my.kept {w0 w w':World}{vr:Value}{us:List (Ru×Value)}(h:my w0 w vr us)(hk:bo g w w')(hg:g<w0.heap.size):my w0 w' vr us:=by
 refine⟨h.own.kept hk (.inr fun e=> ?_),fun p hp=> ?_⟩
 ·have:=(h.own.lt g e).1;omega
 ·obtain⟨d,hd⟩:=h.kids p hp;exact⟨d,hk.kids (fun k hk=>by omega) hd⟩
theorem wT {w0 w w':World}{vr:Value}{xs:List Value}{m:Nat}{ks:List Ex}{sl:Value}{d:Nat}(ho:w.ownsRow w0.heap.size 106 6 vr m xs)(hg:w.grownBy w' vr.ownBlock)(h:dw (fun k=>w0.heap.size<=k) d w sl ks):dw (fun k=>w0.heap.size<=k) d w' sl ks:=by
 obtain⟨_,h2⟩:=ho;rcases h2 with⟨rfl,_⟩|⟨b,cap,cur,rfl,_,hh,_⟩
 ·exact h.kept fun k _ hl=>hg.block k hl (fun e=>by cases e)
 ·refine((h.other hh (by decide)).kept fun k hk hl=>hg.block k hl (fun e=>hk.2 (aN e))).mono fun k hk=>hk.1
theorem CE {E f:Nat}{acc:List Ru}{r:List Tk}(h:r.length≠0):iS E (f+1) acc r=if isT um r then(if acc.length=40 then .error (5,atP E r.tail) else match oO E r.tail with| .error q=> .error q| .ok (u,q)=>iS E f (acc++[u]) q) else .error (2,atP E r):=by
 rw[iS,ax h];rfl
theorem Eu {E f:Nat}{acc:List Ru}{r:List Tk}(h:r.length=0):iS E f acc r= .ok acc:=by
 cases f with
 |zero=>rfl
 |succ f=>rw[iS,aD h]
theorem Gy (h0:PS0 all E g v)(h:PSt all E g v w i n):
  Calls prog 61 #[ab g 0] w (Pf g w (iS E ((all.drop i).length+1) [] (all.drop i))):=by
 have hgl:=aH h.blk;obtain⟨i0,hi,hz0,hz1,hz2⟩:=jp Jm;have hlen:=h0.len;generalize hX:iS E ((all.drop i).length+1) [] (all.drop i)=X;have HX:PH (iS E ((all.drop i).length+1) [] (all.drop i)=X):=hX;go_enter func61,ntmps61;go_wp2_with fail;go_loopw [3] (fun q wr=> ∃(us:List (Ru×Value)) (f j m:Nat),iS E f (us.map (·.1)) (all.drop j)=X/\(all.drop j).length<f/\us.length<=40/\my w wr q us/\PSt all E g v wr j m/\bo g w wr) (fun _ wr=>all.length-oN g wr);case atStart=>exact⟨[],_,i,n,HX.o,by omega,by simp,⟨cY _ _ _ _,fun p hp=>by cases hp⟩,h,bo.refl _ _⟩
 case round=>
  obtain⟨us,f,j,m,hXr,hf,h40,hrow,hst,hkp⟩:=hrel;have hp:=hst.pos;have k0:=ak 0 hst.blk;have k1:=ak 1 hst.blk;obtain⟨pv,cv,ev⟩:=rh.form hst.row;have hjl:=hst.le;have HXr:PH (iS E f (us.map (·.1)) (all.drop j)=X):=hXr;have HV:PH (v= .slice pv all.length cv):=ev;rw[ev]at k0;by_cases hlt:j<all.length
  ·have hlt':(j:Int)<(all.length:Int):=(by omega);go_wp2_with fail;go_quiet (fail);have hbq:aq wr (wr.drewN nq):=dB (aI _ _) nq;have hst1:=hst.below hbq h0;have hkp1:=hkp.trans (bo.of_below hbq);have hrow1:=hrow.kept (bo.of_below (g:=g) hbq) hgl;generalize wr.drewN nq=w1 at*;obtain⟨f,rfl⟩: ∃f',f=f'+1:=⟨f-1,by omega⟩
   have hXX:=HXr.o;rw[CE (by simp;omega),fA]at hXX;by_cases hR:isT um (all.drop j)=true
   ·rw[aD hR]at hXX;have c2:=od h0 hst1 um (by decide) hR;by_cases hm:us.length=40
    ·rw[aD (by simpa using hm)]at hXX;have HE:PH (X= .error (5,atP E (all.drop (j+1)))):=hXX.symm;obtain⟨pq,cq,rfl⟩:=di hrow1.own;have hm':((us.length:Int)==40)=true:=(by rw[hm];rfl);go_wp2_with fail;refine c2.mono ?_;rintro e w2 ⟨rfl,h2,hk2⟩;go_wp2_with fail;refine(ld h0 h2 5).mono ?_;rintro e w3 ⟨rfl,hb3⟩;refine⟨rfl,?_⟩;rw[HE.o];exact⟨rfl,(hkp1.trans hk2).trans (bo.of_below hb3)⟩
    ·rw[ax (by simpa using hm)]at hXX;have hm':((us.length:Int)==40)=false:=bj.2 (by omega);have hj1:=oc (by decide) hR;have HXX:PH ((match oO E (all.drop (j+1)) with| .error q=> .error q| .ok (u,q)=>iS E f (us.map (·.1)++[u]) q)=X):=hXX;have cR:=fun(W:World) (hW:PSt all E g v W (j+1) m)=>Jl h0 hW;have hown1:=hrow1.own;obtain⟨pq,cq,eq⟩:=di hown1;have HQ:PH (u3= .slice pq us.length cq):=eq;subst eq;go_wp2_with fail;refine c2.mono ?_;rintro e w2 ⟨rfl,h2,hk2⟩;have hkp2:=hkp1.trans hk2;have hrow2:=hrow1.kept hk2 hgl;go_wp2_with fail;refine(cR _ h2).mono ?_;intro e w3 ho;cases hx:oO E (all.drop (j+1)) with
     |error q=>
      obtain⟨er,at_⟩:=q;have hXX:=HXX.o;rw[hx]at ho hXX;obtain⟨rfl,hk3⟩:=ho;refine⟨rfl,?_⟩;rw[<-hXX];exact⟨rfl,hkp2.trans hk3⟩
     |ok q=>
      obtain⟨u,rr⟩:=q;have hql:=Gw hx;have hXX:=HXX.o;rw[hx]at ho hXX;obtain⟨i3,m3,sl,d3,hr3,rfl,hkd,h3,hm3,hk3⟩:=ho;subst hr3;obtain⟨p3,c3,rfl⟩:=hkd.form;have hrow3:=hrow2.kept hk3 hgl;have hkp3:=hkp2.trans hk3;have hs2:=hkp2.size;have hs3:=hkp3.size
      have HN:PH (iS E f ((us++[(u,Value.slice p3 u.2.kids.length c3)]).map (fun p=>p.1)) (all.drop i3)=X):=by
       show _=_;rw[dT];exact hXX
      have hb4:aq w3 (w3.alloc (.cells #[.string ⟨u.1.toArray⟩,ag u.2.kind,ag u.2.a,ag u.2.b,.string ⟨u.2.name.toArray⟩,.slice p3 u.2.kids.length c3] 106)):=am _ _;have hrow4:=hrow3.kept (bo.of_below (g:=g) hb4) hgl;have h4:=h3.below hb4 h0;have hkp4:=hkp3.trans (bo.of_below hb4);have hkd4:dw (fun k=>w.heap.size<=k) d3 (w3.alloc (.cells #[.string ⟨u.1.toArray⟩,ag u.2.kind,ag u.2.a,ag u.2.b,.string ⟨u.2.name.toArray⟩,.slice p3 u.2.kids.length c3] 106)) (.slice p3 u.2.kids.length c3) u.2.kids:=(bo.of_below (g:=g) hb4).kids (fun k hk=>by omega) (hkd.mono fun k hk=>by omega);have hx4:=aE w3 (.cells #[.string ⟨u.1.toArray⟩,ag u.2.kind,ag u.2.a,ag u.2.b,.string ⟨u.2.name.toArray⟩,.slice p3 u.2.kids.length c3] 106);have hs4:=hkp4.size;unfold ruV;generalize hw4:w3.alloc (.cells #[.string ⟨u.1.toArray⟩,ag u.2.kind,ag u.2.a,ag u.2.b,.string ⟨u.2.name.toArray⟩,.slice p3 u.2.kids.length c3] 106)=w4 at*;go_wp2_with(at_builtin;refine iZ _ rfl _ _ 24 rfl w.heap.size 106 i0 (.agg #[.string ⟨#[]⟩,ag 0,ag 0,ag 0,.string ⟨#[]⟩,af]) 6 80 Gv hi hz0 hz1 hz2 rfl (by decide) (.slice pq us.length cq) us.length (lh us) rfl hrow4.own ⟨w3.heap.size,0,none⟩ 1 1 [.string ⟨u.1.toArray⟩,ag u.2.kind,ag u.2.a,ag u.2.b,.string ⟨u.2.name.toArray⟩,.slice p3 u.2.kids.length c3] rfl rfl ?c1 ?c2 ?c3 ?c4 ?c5 ?_)
      case c1=>
       intro j u' hj;match j,hj with
       |0,hj=>simp at hj;subst hj;exact(aZ _ _ _ _ _ _ hx4).trans rfl
       |1,hj=>simp at hj;subst hj;exact(aZ _ _ _ _ _ _ hx4).trans rfl
       |2,hj=>simp at hj;subst hj;exact(aZ _ _ _ _ _ _ hx4).trans rfl
       |3,hj=>simp at hj;subst hj;exact(aZ _ _ _ _ _ _ hx4).trans rfl
       |4,hj=>simp at hj;subst hj;exact(aZ _ _ _ _ _ _ hx4).trans rfl
       |5,hj=>simp at hj;subst hj;exact(aZ _ _ _ _ _ _ hx4).trans rfl
      case c2=>intro u hu;simp at hu;rcases hu with rfl|rfl|rfl|rfl|rfl|rfl<;>rfl
      case c3=>unfold maxLen;omega
      case c4=>omega
      case c5=>exact hs4
      intro v' w5 hown' hgrow _;have hlo:=hrow4.own.lt;have hgne: ∀b,(Value.slice pq us.length cq).ownBlock=some b->b≠g:=fun b hb=>(by have:=(hlo b hb).1;omega);have hkp5:bo g w w5:=⟨hgrow.os.trans hkp4.os,hgrow.tape.trans hkp4.tape,hgrow.output.trans hkp4.output,bf hkp4.size hgrow.size,fun k hk hne=>(hgrow.block k (by omega) (fun e=>by have:=(hlo k e.symm).1;omega)).trans (hkp4.block k hk hne)⟩
      have h5:PSt all E g v w5 i3 m3:=h.of_kept h0 hkp5 ((hgrow.block g (aH h4.blk) (fun e=>hgne g e.symm rfl)).trans h4.blk) h4.le
      have hrow5:my w w5 v' (us++[(u,.slice p3 u.2.kids.length c3)]):=by
       refine⟨?_,fun p hp=> ?_⟩
       ·rw[wQ];simp only[aP,bJ,gJ,bN];exact hown'
       ·rcases bU.1 hp with hp|hp
        ·obtain⟨d,hd⟩:=hrow4.kids p hp;exact⟨d,wT hrow4.own hgrow hd⟩
        ·have e:p=(u,.slice p3 u.2.kids.length c3):=(by simpa using hp);subst e;exact⟨d3,wT hrow4.own hgrow hkd4⟩
      have hn5:(us++[(u,Value.slice p3 u.2.kids.length c3)]).length<=40:=(by simp;omega)
      have hfl:(all.drop i3).length<f:=by
       simp only[fo]at hql hf⊢;omega
      go_wp2_with fail;go_roundw;case rel=>exact⟨_,f,i3,m3,HN.o,hfl,hn5,hrow5,h5,hkp5⟩
      case measure=>
       rw[hp];have:=h5.pos;have:=h5.le;show all.length-oN g _<_;simp only[fo]at hql;omega
   ·have hR':isT um (all.drop j)=false:=(by simpa using hR);rw[ax hR]at hXX;have HE:PH (X= .error (2,atP E (all.drop j))):=hXX.symm;have c2:=pR h0 hst1 um hR';go_wp2_with fail;refine c2.mono ?_;rintro e w2 ⟨rfl,hk2⟩;refine⟨rfl,?_⟩;rw[HE.o];exact⟨rfl,hkp1.trans hk2⟩
  ·have hlt': ¬(j:Int)<(all.length:Int):=(by omega);have hXX:=HXr.o;rw[Eu (by simp;omega)]at hXX;have HE:PH (X= .ok (us.map (·.1))):=hXX.symm;go_wp2_with fail;go_quiet (fail);have hbq:aq wr (wr.drewN nq):=dB (aI _ _) nq;have hkp1:=hkp.trans (bo.of_below hbq);have hrow1:=hrow.kept (bo.of_below (g:=g) hbq) hgl;go_wp2_with fail;go_ret;rw[HE.o];exact⟨_,us,rfl,rfl,hrow1,h40,hkp1⟩
end
section
theorem Ev (p q:Option Addr)(w:World):
  CallsD prog 60 #[.pointer p,.pointer q] .returning w fun e u' w'=>e= .returned (.tuple #[])/\u'= .returning/\w'=w:=by
 refine callsD_of_wpS func60 rfl fun c₀ cs hu=> ?_;apply wpS_seq;apply wpS_region;simp[wpOpsS,go_sem,recoverD,hu,ntmps60,Exit.thenS];refine wpS_of_wp ?_;change Code.wp _ _ _ {tmps:= #[.pointer p,.pointer q,.nilIface,.nilIface,undef,undef,undef,undef,undef],defers:=[]} w;go_wp2_with fail;cases c₀;simp_all [bodyPostS,results,results60]
theorem Bc (c0 c1:Value)(w:World):(Instr.typeAssert (.iface 126 (.agg #[c0,c1])) 20 126 false).run prog w= .ok (.agg #[c0,c1]) w:=by
 unfold Instr.typeAssert;simp[go_sem]
theorem CF (c0 c1:Value)(w:World):(Instr.field 126 (.agg #[c0,c1]) 0).run prog w= .ok (.agg #[c0,c1]) w:=by
 unfold Instr.field;simp[go_sem,asAgg]
attribute [local go_sem] Bc CF
def qj (p q:Nat)(er at_:Int)(w:World):World:=((w.setCell ⟨p,0,none⟩ (af)).setCell ⟨q,0,none⟩ (ag er)).setCell ⟨q,1,none⟩ (ag at_)
theorem Bd (p q:Nat)(hpq:p≠q)(c0 c1 c2:Value)(er at_:Int)(w:World)(hp:w.heap[p]? =ah #[c0] 24)(hq:w.heap[q]? =ah #[c1,c2] 95):
  CallsD prog 60 #[ab p 0,ab q 0] (.panicking [{v:= .iface 126 (.agg #[ag er,ag at_]),recovered:=false}]) w fun e u' w'=>
   e= .returned (.tuple #[])/\u'= .panicking [{v:= .iface 126 (.agg #[ag er,ag at_]),recovered:=true}]/\ ∃k,w'=(qj p q er at_ w).drewN k:=by
 have kp:=ak 0 hp;have kq0:=ak 0 hq;have kq1:=ak 1 hq;have yp:=bl _ _ 0 _ _ hp;have yq0:=bl _ _ 0 _ _ hq;have yq1:=bl _ _ 1 _ _ hq;refine callsD_of_wpS func60 rfl fun c₀ cs hu=> ?_;apply wpS_seq;apply wpS_region;simp[wpOpsS,go_sem,recoverD,hu,ntmps60,Exit.thenS];refine wpS_of_wp ?_;change Code.wp _ _ _ {tmps:= #[ab p 0,ab q 0,.iface 126 (.agg #[ag er,ag at_]),.iface 126 (.agg #[ag er,ag at_]),undef,undef,undef,undef,undef],defers:=[]} w;go_wp2_with fail;go_region;show bodyPostS _ _ _ _ _ _ _ _ _;simp[bodyPostS,results,results60];exact⟨1,rfl⟩
end
theorem vE (l:List UInt8)(h: ∀i,i<l.length->isD (l.getD i 0)=true)(h6:l.length<=6):0<=valL l/\valL l<=999999:=by
 have b:=pE l h l.length (aB _) h6;rw[gd]at b;omega
theorem Ew (l:List UInt8): ∀i,i<(l.take (gN isD l)).length->isD ((l.take (gN isD l)).getD i 0)=true:=by
 intro i hi;have hle:=lK isD l;rw[eD,fj hle]at hi;have:=yV isD l i hi;rw[dQ]at this⊢;rw[js,aD hi];exact this
theorem Gz (l:List UInt8)(he:(firstT l).err=0):0<=(firstT l).n/\(firstT l).n<=999999:=by
 unfold firstT at he⊢;split at he
 ·rename_i hf;rw[aD hf];unfold lc at he⊢;split at he
  ·rename_i h;rw[aD h];unfold nV at h⊢;split at h
   ·rename_i hv;rw[aD hv];have:=Cal.wH _ _ _ hv.1 hv.2;show 0<=Cal.num _ _ _/\Cal.num _ _ _<=999999;omega
   ·simp at h
  ·simp[bad]at he
 ·rename_i hf;rw[ax hf];split at he
  ·rename_i hf2;rw[aD hf2];have p1:=mw hf2 0 2 (by decide) (fun i hi=>by match i,hi with|0,_=>rfl|1,_=>rfl);have p2:=mw hf2 3 2 (by decide) (fun i hi=>by match i,hi with|0,_=>rfl|1,_=>rfl);have q1:=vE _ p1.2 (by omega);have q2:=vE _ p2.2 (by omega);unfold oJ at he⊢;split at he
   ·simp[bad]at he
   ·rename_i h;rw[ax h];simp only;omega
  ·rename_i hf2;rw[ax hf2];split at he
   ·rename_i hd;rw[aD hd];unfold mu at he⊢;split at he
    ·simp[bad]at he
    ·rename_i h;rw[ax h];have hle:=lK isD l;exact vE _ (Ew l) (by rw[eD,fj hle];omega)
   ·rename_i hd;rw[ax hd];split at he
    ·rename_i hL;rw[aD hL];unfold kP at he⊢;split at he
     ·simp[bad]at he
     ·rename_i h;rw[ax h];simp
    ·rename_i hL;rw[ax hL];unfold j7 at he⊢;split at he
     ·rename_i hp;rw[aD hp];simp
     ·rename_i hp;rw[ax hp];split at he
      ·simp[bad]at he
      ·rename_i h;rw[ax h];simp
theorem GA {l:List UInt8}{ts:List Tk}{k:Nat}(h:fG l ts k): ∀p∈ts,0<=p.1.n/\p.1.n<=999999:=by
 obtain⟨n,hn⟩:=h;refine fG.ind (M:=fun ts _=> ∀p∈ts,0<=p.1.n/\p.1.n<=999999) (fun p hp=>by cases hp) ?_ n hn;intro ts k _ _ he ih p hp;rcases bU.1 hp with h|h
 ·exact ih p h
 ·have e:p=(firstT (l.drop k),k):=by simpa using h
  rw[e];exact Gz _ he
theorem my.later {w0 w1 w w':World}{vr:Value}{us:List (Ru×Value)}(h:my w0 w vr us)(hk: ∀k,w0.heap.size<=k->w'.heap[k]? =w.heap[k]?)(hb:w1.heap.size<=w0.heap.size):my w1 w' vr us:=by
 refine⟨?_,fun p hp=> ?_⟩
 ·obtain⟨h1,h2⟩:=h.own;refine⟨h1,?_⟩;rcases h2 with h2|⟨g,cap,cur,hv,hg,hh,r⟩
  ·exact .inl h2
  ·exact .inr ⟨g,cap,cur,hv,by omega,(hk g hg).trans hh,r⟩
 ·obtain⟨d,hd⟩:=h.kids p hp;exact⟨d,(hd.kept fun k hB _=>hk k hB).mono fun k hB=>by omega⟩
theorem Be (p q:Nat)(er at_:Int)(w:World)(k:Nat)(h1:k≠p)(h2:k≠q):(qj p q er at_ w).heap[k]? =w.heap[k]? :=by
 unfold qj;rw[aO _ _ _ _ h2,aO _ _ _ _ h2,aO _ _ _ _ h1]
def tp (l:List UInt8)(w0 w:World)(v:Value)(er at_:Int):Prop:=
 (6000<l.length/\v=af/\er=4/\at_=0)\/
 (∃(ts:List Tk) (k:Nat),l.length<=6000/\fG l ts k/\k<l.length/\(firstT (l.drop k)).err≠0/\v=af/\er=(firstT (l.drop k)).err/\at_=(k:Int))\/
 (∃(ts:List Tk) (k:Nat) (er':Int) (at':Nat),l.length<=6000/\fG l ts k/\ ¬k<l.length/\iS l.length (ts.length+1) [] ts= .error (er',at')/\v=af/\er=er'/\at_=(at':Int))\/
 (∃(ts:List Tk) (k:Nat) (us:List (Ru×Value)),l.length<=6000/\fG l ts k/\ ¬k<l.length/\iS l.length (ts.length+1) [] ts= .ok (us.map (fun p=>p.1))/\us.length<=40/\my w0 w v us/\er=0/\at_=0)
theorem ql {tmps:Array Value}{R:Ending->World->Prop}{w:World}(p q:Nat)(a:Option Addr)(b c:Nat)(er at_:Int)(h2:tmps.getD 2 undef=ab p 0)(h3:tmps.getD 3 undef=ab q 0)
  (hp:w.heap[p]? =ah #[.slice a b c] 24) (hq:w.heap[q]? =ah #[ag er,ag at_] 95) (hR:R (.returned (.tuple #[.slice a b c,.agg #[ag er,ag at_]])) w):Leaves prog f40 tmps R [] .returning w:=by
 refine⟨.tuple #[.slice a b c,.agg #[ag er,ag at_]],?_,hR⟩;have h2':tmps[2]?.getD undef=ab p 0:=by simpa using h2
 have h3':tmps[3]?.getD undef=ab q 0:=by simpa using h3
 have kp:w.cell? (ae p 0)=some (.slice a b c):=ak 0 hp;have kq0:w.cell? (ae q 0)=some (ag er):=ak 0 hq;have kq1:w.cell? (ae q 1)=some (ag at_):=ak 1 hq;simp[results,results40,h2',h3',asAddr,kp,kq0,kq1,go_sem]
theorem GB (s:ByteArray)(l:List UInt8)(hs:s.data.toList=l)(hl:l.length<=9223372036854775807)(w:World)(hT:gH w)(hD:qd w):
  Calls prog 40 #[.string s] w fun e w'=>(∃v er at_,e= .returned (.tuple #[v,.agg #[ag er,ag at_]])/\tp l w w' v er at_)/\aq w w':=by
 have hz:s.size=l.length:=by rw[<-hs,Lib.size_eq]
 have hmf: ∀(fn:Fn) (first cap:Array Value) (w:World),(Instr.makeFunc fn first cap).run prog w= .ok (.func fn first cap) w:=fun _ _ _ _=>rfl;have hbA:=am w (.cells #[af] 24);have hbB:=hbA.alloc hbA.size (.cells #[ag 0,ag 0] 95);have hp2:=(dJ _ (.cells #[ag 0,ag 0] 95) _ (aH (aE w (.cells #[af] 24)))).trans (aE w (.cells #[af] 24));have hp3:=aE (w.alloc (.cells #[af] 24)) (.cells #[ag 0,ag 0] 95);rw[show(w.alloc (.cells #[af] 24)).heap.size=w.heap.size+1 by simp]at hp3;have hszB:((w.alloc (.cells #[af] 24)).alloc (.cells #[ag 0,ag 0] 95)).heap.size=w.heap.size+2:=by simp
 generalize hwB:(w.alloc (.cells #[af] 24)).alloc (.cells #[ag 0,ag 0] 95)=wB at*;have cX:=Ll s l hs hl wB (hT.below hbB);go_enter_defers func40,ntmps40;go_wp2_with fail;refine cX.mono ?_;rintro e w1 ⟨⟨v,er,at_,rfl,hx⟩,hb1⟩;have hq2:=ai hb1 hp2;have hq3:=ai hb1 hp3;have hb1w:=aw hbB hb1;have hsz1:=hb1.size;clear hp2 hp3 cX hwB;have hr3:=aL w1 (w.heap.size+1) _ #[ag er,ag at_] _ _ hq3;have hr2:=(aV w1 (w.heap.size+1) w.heap.size #[ag er,ag at_] (by omega)).trans hq2;have hbr:aq w (w1.setRow (w.heap.size+1) #[ag er,ag at_]):=below_setRow hb1w (by omega) _;have d0:(w1.setRow (w.heap.size+1) #[ag er,ag at_]).cell? (ae (w.heap.size+1) 0)=some (ag er):=ak 0 hr3;by_cases he:er=0
 ·subst he
  obtain⟨ts,k,h6,hL,hk,ho⟩: ∃(ts:List Tk) (k:Nat),l.length<=6000/\fG l ts k/\ ¬k<l.length/\w1.ownsRow wB.heap.size 162 4 v ts.length (ku ts):=by
   rcases hx with⟨_,_,h,_⟩|⟨ts,k,_,_,_,he,_,h,_⟩|⟨ts,k,h1,h2,h3,h4,_⟩
   ·cases h
   ·exact absurd h.symm he
   ·exact⟨ts,k,h1,h2,h3,h4⟩
  have hle:=hL.le;have hnum:=GA hL;have hown: ∀b,v.ownBlock=some b->b<w1.heap.size/\wB.heap.size<=b:=fun b hb=>⟨(ho.lt b hb).2,(ho.lt b hb).1⟩
  have hrow1:rh w1 v ts:=A5 ho (by omega);have hsr:(w1.setRow (w.heap.size+1) #[ag 0,ag at_]).heap.size=w1.heap.size:=(by simp[World.setRow])
  have hrow2:rh (w1.setRow (w.heap.size+1) #[ag 0,ag at_]) v ts:=by
   rcases hrow1 with h|⟨gt,o,c,hv,hl',hc⟩
   ·exact .inl h
   ·refine .inr ⟨gt,o,c,hv,hl',fun j t k hj=> ?_⟩;obtain⟨c1,c2,c3,c4⟩:=hc j t k hj
    have hne:gt≠w.heap.size+1:=by
     have:=(hown gt (by rw[hv];rfl)).2;omega
    have e:(w1.setRow (w.heap.size+1) #[ag 0,ag at_]).heap[gt]? =w1.heap[gt]? :=aV _ _ _ _ hne;have ce: ∀i,(w1.setRow (w.heap.size+1) #[ag 0,ag at_]).cell? (ae gt i)=w1.cell? (ae gt i):=fun i=>dY e;exact⟨(ce _).trans c1,(ce _).trans c2,(ce _).trans c3,(ce _).trans c4⟩
  have hDr:qd (w1.setRow (w.heap.size+1) #[ag 0,ag at_]):=fun j hj=>(hbr.cell (bP (hD j hj))).trans (hD j hj);have hgd:=bP (hD 0 (by omega));obtain⟨pv,cv,rfl⟩:=hrow1.form;clear hx ho hrow1 hT;generalize hWr:w1.setRow (w.heap.size+1) #[ag 0,ag at_]=Wr at*;have hb4:aq Wr (Wr.alloc (.cells #[.slice pv ts.length cv,ag 0,ag (l.length:Int),ag 0] 128)):=am _ _;have h0:PS0 ts l.length Wr.heap.size (.slice pv ts.length cv):=⟨by omega,h6,fun e=>by have:=(hown _ e).1;omega,hnum,by show 3≠Wr.heap.size;have:3<w.heap.size:=hgd;omega⟩
  have hst:PSt ts l.length Wr.heap.size (.slice pv ts.length cv) (Wr.alloc (.cells #[.slice pv ts.length cv,ag 0,ag (l.length:Int),ag 0] 128)) 0 0:=
   ⟨aE Wr _,(bo.of_below (g:=Wr.heap.size+1) hb4).row (fun e=>by have:=(hown _ e).1;omega) hrow2,by omega,(bo.of_below (g:=Wr.heap.size+1) hb4).days (by show 3≠Wr.heap.size+1;have:3<w.heap.size:=hgd;omega) hDr⟩
  have c4:=Gy h0 hst;rw[List.drop_zero]at c4;have hp4:=ai hb4 hr2;have hq4:=ai hb4 hr3;have hbw4:=aw hbr hb4;have hs4:(Wr.alloc (.cells #[.slice pv ts.length cv,ag 0,ag (l.length:Int),ag 0] 128)).heap.size=Wr.heap.size+1:=(by simp);have hlz:w.heap.size+1<Wr.heap.size:=aH hr3;clear hb4 hst hDr hrow2 hown hnum;have hsr':=hsr.symm;clear hsr;go_wp2_with(refine ay rfl 95 _ _ rfl _ _ rfl rfl _ _ hq3 (by kernel_rfl) (by simp) (by simp[Value.oneCell']) ?_)
  refine c4.mono ?_;intro e w5 ho;cases hx:iS l.length (ts.length+1) [] ts with
  |error q=>
   obtain⟨er,at'⟩:=q;rw[hx]at ho;obtain⟨rfl,hk5⟩:=ho;have hp5:=hk5.at hp4 (by omega);have hq5:=hk5.at hq4 (by omega)
   have hq0:(qj w.heap.size (w.heap.size+1) er (at':Int) w5).heap[w.heap.size]? =ah #[af] 24:=
    (aO _ _ _ _ (by show w.heap.size≠w.heap.size+1;omega)).trans ((aO _ _ _ _ (by show w.heap.size≠w.heap.size+1;omega)).trans (aY _ _ 0 _ _ _ hp5))
   have hq1:(qj w.heap.size (w.heap.size+1) er (at':Int) w5).heap[w.heap.size+1]? =ah #[ag er,ag (at':Int)] 95:=
    aY _ _ 1 _ _ _ (aY _ _ 0 _ _ _ ((aO _ _ _ _ (by show w.heap.size+1≠w.heap.size;omega)).trans hq5))
   have hbf:aq w (qj w.heap.size (w.heap.size+1) er (at':Int) w5):=by
    have hs5:=hk5.size;refine⟨hk5.os.trans hbw4.os,hk5.tape.trans hbw4.tape,hk5.output.trans hbw4.output,?_,fun k hk=> ?_⟩
    ·have:=hbw4.size;simp[qj];omega
    ·rw[Be _ _ _ _ _ _ (by omega) (by omega),hk5.block k (by omega) (fun e=>by have:=aN e;omega)];exact hbw4.block k hk
   show bodyPostD _ _ _ (Exit.panic _) _ _;simp only[bodyPostD];refine leaves_cons (f:=60) (args:= #[ab w.heap.size 0,ab (w.heap.size+1) 0]) (by simp) (by simp[go_sem]) ?_;refine(Bd w.heap.size (w.heap.size+1) (by omega) _ _ _ er (at':Int) w5 hp5 hq5).mono ?_;rintro e u' w6 ⟨rfl,rfl,k,rfl⟩;show Leaves _ _ _ _ [] (settle _) _;simp only[settle,List.dropWhile_nil];exact ql w.heap.size (w.heap.size+1) none 0 0 er (at':Int) rfl rfl hq0 hq1 ⟨⟨_,_,_,rfl,.inr (.inr (.inl ⟨ts,_,er,at',h6,hL,hk,hx,rfl,rfl,rfl⟩))⟩,dB hbf k⟩
  |ok rs=>
   rw[hx]at ho;obtain⟨vr,us,rfl,hus,hrow,hu40,hk5⟩:=ho;have hp5:=hk5.at hp4 (by omega);have hq5:=hk5.at hq4 (by omega);obtain⟨pr,cr,rfl⟩:=di hrow.own;have kp:=ak 0 hp5;have yp:=bl _ _ 0 _ _ hp5;have hp6:(w5.setCell ⟨w.heap.size,0,none⟩ (.slice pr us.length cr)).heap[w.heap.size]? =ah #[.slice pr us.length cr] 24:=aY _ _ 0 _ _ _ hp5;have hq6:=(aO w5 ⟨w.heap.size,0,none⟩ (w.heap.size+1) (.slice pr us.length cr) (by show w.heap.size+1≠w.heap.size;omega)).trans hq5;have hp7:=(aV (w5.setCell ⟨w.heap.size,0,none⟩ (.slice pr us.length cr)) (w.heap.size+1) w.heap.size #[ag 0,ag 0] (by omega)).trans hp6;have hq7:=aL (w5.setCell ⟨w.heap.size,0,none⟩ (.slice pr us.length cr)) (w.heap.size+1) _ #[ag 0,ag 0] _ _ hq6;have hoth: ∀k,k≠w.heap.size->k≠w.heap.size+1->((w5.setCell ⟨w.heap.size,0,none⟩ (.slice pr us.length cr)).setRow (w.heap.size+1) #[ag 0,ag 0]).heap[k]? =w5.heap[k]? :=fun k h1 h2=>(aV _ _ _ _ h2).trans (aO _ _ _ _ h1)
   have hbf:aq w ((w5.setCell ⟨w.heap.size,0,none⟩ (.slice pr us.length cr)).setRow (w.heap.size+1) #[ag 0,ag 0]):=by
    have hs5:=hk5.size;refine⟨hk5.os.trans hbw4.os,hk5.tape.trans hbw4.tape,hk5.output.trans hbw4.output,?_,fun k hk=> ?_⟩
    ·have:=hbw4.size;simp[World.setRow];omega
    ·rw[hoth _ (by omega) (by omega),hk5.block k (by omega) (fun e=>by have:=aN e;omega)];exact hbw4.block k hk
   have hrowF:=hrow.later (w1:=w) (w':=(w5.setCell ⟨w.heap.size,0,none⟩ (.slice pr us.length cr)).setRow (w.heap.size+1) #[ag 0,ag 0]) (fun k hk=>hoth k (by omega) (by omega)) hbw4.size;have HP:PH (tp l w ((w5.setCell ⟨w.heap.size,0,none⟩ (.slice pr us.length cr)).setRow (w.heap.size+1) #[ag 0,ag 0]) (.slice pr us.length cr) 0 0):= .inr (.inr (.inr ⟨ts,k,us,h6,hL,hk,by rw[hx,hus],hu40,hrowF,rfl,rfl⟩));clear hrow hrowF c4 hx hus hoth hk5 hL hp4 hq4 hr2 hr3;go_wp2_with(refine ay rfl 95 _ _ rfl _ _ rfl rfl _ _ hq6 (by kernel_rfl) (by simp) (by simp[Value.oneCell']) ?_)
   simp only[bodyPostD];refine leaves_cons (f:=60) (args:= #[ab w.heap.size 0,ab (w.heap.size+1) 0]) (by simp) (by simp[go_sem]) ?_;refine(Ev _ _ _).mono ?_;rintro e u' w6 ⟨rfl,rfl,rfl⟩;show Leaves _ _ _ _ [] (settle _) _;simp only[settle];exact ql w.heap.size (w.heap.size+1) pr us.length cr 0 0 rfl rfl hp7 hq7 ⟨⟨_,_,_,rfl,HP.o⟩,hbf⟩
 ·have hne:(er !=0)=true:=by simpa using he
  have d1:(w1.setRow (w.heap.size+1) #[ag er,ag at_]).cell? (ae (w.heap.size+1) 1)=some (ag at_):=ak 1 hr3;have k0:(w1.setRow (w.heap.size+1) #[ag er,ag at_]).cell? (ae w.heap.size 0)=some (af):=ak 0 hr2;have y0:=bl _ _ 0 _ _ hr2;have y1:=bl _ _ 0 _ _ hr3;have y2:=bl _ _ 1 _ _ hr3
  have HP:PH (∀W,tp l w W (af) er at_):=fun W=>by
   rcases hx with⟨h,_,h1,h2⟩|⟨ts,k,h6,hL,hk,he',_,h1,h2⟩|⟨ts,k,_,_,_,_,h1,_⟩
   ·exact .inl ⟨h,rfl,h1,h2⟩
   ·exact .inr (.inl ⟨ts,k,h6,hL,hk,he',rfl,h1,h2⟩)
   ·exact absurd h1 he
  clear hx he;generalize hWr:w1.setRow (w.heap.size+1) #[ag er,ag at_]=Wr at*;go_wp2_with(refine ay rfl 95 _ _ rfl _ _ rfl rfl _ _ hq3 (by kernel_rfl) (by simp) (by simp[Value.oneCell']) ?_)
  go_region;go_wp2_with fail
  have hf2:(((Wr.setCell ⟨w.heap.size,0,none⟩ (af)).setCell ⟨w.heap.size+1,0,none⟩ (ag er)).setCell ⟨w.heap.size+1,1,none⟩ (ag at_)).heap[w.heap.size]? =ah #[af] 24:=
   (aO _ _ _ _ (by show w.heap.size≠w.heap.size+1;omega)).trans ((aO _ _ _ _ (by show w.heap.size≠w.heap.size+1;omega)).trans (aY _ _ 0 _ _ _ hr2))
  have hf3:(((Wr.setCell ⟨w.heap.size,0,none⟩ (af)).setCell ⟨w.heap.size+1,0,none⟩ (ag er)).setCell ⟨w.heap.size+1,1,none⟩ (ag at_)).heap[w.heap.size+1]? =ah #[ag er,ag at_] 95:=
   aY _ _ 1 _ _ _ (aY _ _ 0 _ _ _ ((aO _ _ _ _ (by show w.heap.size+1≠w.heap.size;omega)).trans hr3))
  have hbf:=((hbr.setCell (p:=⟨w.heap.size,0,none⟩) (aB _) (af)).setCell (p:=⟨w.heap.size+1,0,none⟩) (by show w.heap.size<=w.heap.size+1;omega) (ag er)).setCell (p:=⟨w.heap.size+1,1,none⟩) (by show w.heap.size<=w.heap.size+1;omega) (ag at_);simp only[bodyPostD];exact ql w.heap.size (w.heap.size+1) none 0 0 er at_ rfl rfl hf2 hf3 ⟨⟨_,_,_,rfl,HP.o _⟩,dB hbf 1⟩
end Go.Proofs.YtkfidffapdhbhaaGreatDoor
