/- Texts of the proof. -/
import Derived.Test.YtjkilacmkbmmbaaGreatDoorPe06
import Derived.Test.YtjkilacmkbmmbaaGreatDoorPe03
set_option maxRecDepth 100000
set_option maxHeartbeats 8000000
namespace Go.Proofs.YtjkilacmkbmmbaaGreatDoor
open Go.Proofs.Tryz Go.RowKit Lx Vx Mx Msk
theorem AP:prog.underlying 295=some (.map 3 3):=by kernel_rfl
theorem uy:prog.underlying 3=some (.int .i64):=by kernel_rfl
def kv9 (e:MapEntry):Value×Value:=(e.key,e.val)
def tq (L:List (Int×Int)):List (Value×Value):=L.map fun n=>(ag n.1,ag n.2)
def tr (w:World)(b:Nat)(L:List (Int×Int)):Prop:= ∃es c,w.heap[b]? =some (.map es c)/\es.toList.map kv9=tq L
theorem tr.later {w w':World}{b:Nat}{L:List (Int×Int)}(h:tr w b L)(hk:w'.heap[b]? =w.heap[b]?):tr w' b L:=by
 obtain⟨es,c,h1,h2⟩:=h;exact⟨es,c,hk.trans h1,h2⟩
theorem E0 {w:World}{b:Nat}{L:List (Int×Int)}(h:tr w b L):b<w.heap.size:=by
 obtain⟨es,c,h1,_⟩:=h;exact(cQ.1 h1).1
theorem E1 (k:Int): ∀(es:List MapEntry) (L:List (Int×Int)) (i:Nat),es.map kv9=tq L->(∃v j,lk L k=some v/\Instr.findNow (.int .i64) (ag k) es i=some (some (i+j,ag v))/\(es[j]?).map kv9=some (ag k,ag v)/\ ∀v',tq (upL L k v')=(es.map kv9).set j (ag k,ag v'))\/(lk L k=none/\Instr.findNow (.int .i64) (ag k) es i=some none/\ ∀v',upL L k v'=L++[(k,v')])
 |[],[],i,_=> .inr ⟨rfl,rfl,fun _=>rfl⟩
 |[],_::_,i,h=>by simp[tq]at h
 |_::_,[],i,h=>by simp[tq]at h
 |e::es,n::L,i,h=>by
  simp only[tq,dl,List.cons.injEq]at h;obtain⟨h1,h2⟩:=h;have hk:e.key=ag n.1:=congrArg Prod.fst h1;have hv:e.val=ag n.2:=congrArg Prod.snd h1;have hs:Instr.sameNow (.int .i64) (ag k) e.key=some (k==n.1):=(by rw[hk];simp[Instr.sameNow]);simp only[Instr.findNow,hs];by_cases e1:k=n.1
  ·left;refine⟨n.2,0,by simp[lk,e1],?_,?_,fun v'=> ?_⟩
   ·simp[e1,hv]
   ·simp only[List.getElem?_cons_zero,Option.map_some,h1,e1]
   ·have hq:es.map kv9=tq L:=h2;simp only[upL,ay e1,dl,aH,hq];rfl
  ·have e2:(k==n.1)=false:=(by simpa using e1);rw[e2];rcases E1 k es L (i+1) h2 with⟨v,j,m,f,g,q⟩|⟨m,f,q⟩
   ·left;refine⟨v,j+1,by simp[lk,e1,m],by rw[show i+(j+1)=i+1+j by omega];exact f,by simpa using g,fun v'=> ?_⟩;simp only[upL,aw e1,dl,aI,<-q v',h1];rfl
   ·right;refine⟨by simp[lk,e1,m],f,fun v'=> ?_⟩;simp only[upL,aw e1,q v',List.cons_append]
theorem O2 {w:World}{b:Nat}{L:List (Int×Int)}(h:tr w b L)(k:Int):(Instr.lookup 295 (.map (some b)) (ag k) true).run prog w= .ok (.tuple #[ag ((lk L k).getD 0),.bool (lk L k).isSome]) w:=by
 obtain⟨es,c,hb,hE⟩:=h;have hc: ∀z,(Instr.checkKey z 10000 3 (ag k)).run prog w= .ok () w:=fun z=>MapKept.run_checkKey (k:=ag k) uy (by simp[MapKept.IsKey]) z 9999;have hz:(zeroValue 3).run prog w= .ok (ag 0) w:=by kernel_rfl
 rcases E1 k es.toList L 0 hE with⟨v,j,h1,h2,_,_⟩|⟨h1,h2,_⟩
 ·simp[Instr.lookup,fX AP,fh hb,hc,fZ uy h2,Result.andThen,h1]
 ·simp[Instr.lookup,fX AP,fh hb,hc,fZ uy h2,hz,Result.andThen,h1]
def sf (w:World)(b:Nat)(o:Obj):World:={w with heap:=w.heap.setIfInBounds b o}
theorem xo {r n:Nat}{w0 w:World}(h:Below n w0 w)(hr:n<=r)(o:Obj):Below n w0 (sf w r o):=
 ⟨h.os,h.tape,h.output,by simpa[sf] using h.size,fun k hk=>by
   rw[<-h.block k hk];show(w.heap.setIfInBounds r o)[k]? =_;rw[da (by omega)]⟩
theorem xp {r k:Nat}{w:World}(o:Obj)(h:k≠r):(sf w r o).heap[k]? =w.heap[k]? :=by
 show(w.heap.setIfInBounds r o)[k]? =_;rw[da (by omega)]
theorem NM {w:World}{b:Nat}{L:List (Int×Int)}(h:tr w b L)(k v:Int): ∃o,(Instr.mapUpdate 295 (.map (some b)) (ag k) (ag v)).run prog w= .ok () (sf w b o)/\tr (sf w b o) b (upL L k v):=by
 obtain⟨es,c,hb,hE⟩:=h;have hc:(Instr.checkKey false 10000 3 (ag k)).run prog w= .ok () w:=MapKept.run_checkKey (k:=ag k) uy (by simp[MapKept.IsKey]) false 9999;rcases E1 k es.toList L 0 hE with⟨v0,j,h1,h2,h3,h4⟩|⟨h1,h2,h4⟩
 ·have hks:(Instr.keyThatStays (ag k) (ag k)).run prog w= .ok (ag k) w:=MapKept.run_keyThatStays (d:= .int .i64) (by simp[MapKept.IsKey])
  have hold:(Option.map (fun x=>x.key) es[j]?).getD (ag k)=ag k:=by
   rw[bo]at h3;cases he:es[j]? with
   |none=>rfl
   |some e=>
    rw[he]at h3;simp[kv9]at h3;simp[h3.1]
  refine⟨.map (es.modify j fun e=>{e with key:=ag k,val:=ag v}) c,?_,_,c,(MapKept.heap_set hb).1,?_⟩
  ·rw[bK]at h2;simp[Instr.mapUpdate,fX AP,fh hb,hc,fZ uy h2,hold,hks,MapKept.run_setObj_map _ hb,Result.andThen,sf]
  ·rw[h4 v];rw[bo]at h3;apply List.ext_getElem?;intro q;simp only[bg,bo,Array.getElem?_modify,List.getElem?_set];by_cases eq:j=q
   ·subst eq;rw[ay rfl,ay rfl];cases he:es[j]? with
    |none=>rw[he]at h3;simp at h3
    |some e=>
     have hj:j<es.size:=(cQ.1 he).1;simp[kv9,hj]
   ·rw[aw eq,aw eq]
 ·refine⟨.map (es.push ⟨ag k,ag v,c⟩) (c+1),?_,_,c+1,(MapKept.heap_set hb).1,?_⟩
  ·simp[Instr.mapUpdate,fX AP,fh hb,hc,fZ uy h2,MapKept.run_setObj_map _ hb,Result.andThen,sf]
  ·rw[h4 v,Array.toList_push,dh,hE];simp[tq,kv9]
theorem O3 (w:World):(Instr.makeMap 295 none).run prog w= .ok (.map (some w.heap.size)) (w.alloc (.map #[] 0)):=by
 unfold Instr.makeMap;simp[go_sem]
structure MmI (w:World)(L:List (Int×Int))(W:World):Prop where
 bel:ao w W
 map:tr W w.heap.size L
 var:W.heap[w.heap.size+1]? =ah #[.map (some w.heap.size)] 295
theorem MmI.below {w W W':World}{L:List (Int×Int)}(h:MmI w L W)(hb:ao W W'):MmI w L W':=
 ⟨au h.bel hb,h.map.later (hb.block _ (E0 h.map)),ai hb h.var⟩
theorem pB (L:List (Int×Int))(p h:Int)(w W:World)(hm:MmI w L W):Calls prog 243 #[ag p,ag h,ab (w.heap.size+1) 0] W fun e w'=>e= .returned (.bool (agB L p h))/\w'=W:=by
 have hlk:=O2 hm.map p;have z:=ak 0 hm.var;generalize hX:agB L p h=X;unfold agB at hX;clear hm;cases hl:lk L p with
 |none=>
  rw[hl]at hlk hX;have hlk':(Instr.lookup 295 (.map (some w.heap.size)) (ag p) true).run prog W= .ok (.tuple #[ag 0,.bool false]) W:=hlk;dsimp only at hX;subst hX;clear hlk hl;go_enter func243,ntmps243;go_wp2_with fail;go_ret;exact⟨rfl,rfl⟩
 |some v=>
  rw[hl]at hlk hX;have hlk':(Instr.lookup 295 (.map (some w.heap.size)) (ag p) true).run prog W= .ok (.tuple #[ag v,.bool true]) W:=hlk;dsimp only at hX;have hX':(v==h)=X:=(by rw[<-hX];rfl);clear hlk hl hX;go_enter func243,ntmps243;go_wp2_with fail;go_ret;exact⟨rfl,rfl⟩
def E2 (cs:List Cd)(l:List In)(h s:Int)(ok:Bool):Prop:=(ok=true↔lN l)/\(ok=true->h=mxH cs l l.length/\s=stS cs l l.length)
def O4 (cs:List Cd)(l:List In)(w:World)(e:Ending)(w':World):Prop:= ∃(h s:Int) (ok:Bool),e= .returned (.tuple #[ag h,ag s,.bool ok])/\E2 cs l h s ok/\ao w w'
theorem uz {cs:List Cd}{l:List In}(h: ¬lN l):E2 cs l 0 0 false:=⟨⟨fun e=>(by cases e),fun e=>absurd e h⟩,fun e=>(by cases e)⟩
def E3 (cs:List Cd)(l:List In)(w:World)(t4 t5 t7 t20:Value)(wr:World):Prop:= ∃(j:Nat) (L:List (Int×Int)),t20=ag (j:Int)/\j<=l.length/\t7=ag (hAt l j)/\t4=ag (mxH cs l j)/\t5=ag ((l.length:Int)+(stS cs l j-j))/\lz l j L/\MmI w L wr
theorem uA {cs:List Cd}{l:List In}{w W:World}{a b c d a' b' c' d':Int}(h:E3 cs l w (ag a) (ag b) (ag c) (ag d) W)(e1:a'=a)(e2:b'=b)(e3:c'=c)(e4:d'=d):E3 cs l w (ag a') (ag b') (ag c') (ag d') W:=by
 subst e1 e2 e3 e4;exact h
theorem BI (cs:List Cd)(l:List In)(lv sv:Value)(w:World)(h:InV w lv cs)(hs:oF w sv l)(hok: ∀(i:Nat) (c:Cd),cs[i]? =some c->aloneE c cs.length=0)(hln:l.length<=2000)(hie: ∀(j:Nat) (x:In),l[j]? =some x->fj x j l.length cs.length=0):
  Calls prog 230 #[lv,sv] w (O4 cs l w):=by
 obtain⟨p,cp,rfl,hlen,hc⟩:=h.form;obtain⟨pu,cu,rfl,hlu,hcu⟩:=hs.form;have HC:=aY hc;have HCU:=aY hcu;have HIE:=aY hie;have HHI:=aY (Mc hok);have HOK:=aY hok;have HST:=aY (JR hok);have HTO:P3 (Tos l):=fun j x hx hg=>rD (hie j x hx) hg;have b1:=am w (.map #[] 0);have b2:=b1.alloc b1.size (.cells #[.map (some w.heap.size)] 295);have hmk:=O3 w;have s1:(w.alloc (.map #[] 0)).heap.size=w.heap.size+1:=by simp
 have hst:MmI w [] ((w.alloc (.map #[] 0)).alloc (.cells #[.map (some w.heap.size)] 295)):=by
  refine⟨b2,⟨#[],0,(dB _ _ _ (by rw[s1];omega)).trans (aC w _),rfl⟩,?_⟩;have:=aC (w.alloc (.map #[] 0)) (.cells #[.map (some w.heap.size)] 295);rw[s1]at this;exact this
 have hl0:(0:Int)<=(l.length:Int):=by omega
 have hl1:(l.length:Int)<=2000:=by omega
 have HSZ:=aY hst;have hmf: ∀(fn:Fn) (first cap:Array Value) (w:World),(Instr.makeFunc fn first cap).run prog w= .ok (.func fn first cap) w:=fun _ _ _ _=>rfl;generalize hwB:(w.alloc (.map #[] 0)).alloc (.cells #[.map (some w.heap.size)] 295)=wB at*;clear h hs hc hcu hok hie b1 b2 hst s1;go_enter func230,ntmps230;go_wp2_with fail;clear hmk hwB;have hst:=HSZ.o;clear HSZ;go_loopw [4,5,7,20] (fun t4 t5 t7 t20 wr=>E3 cs l w t4 t5 t7 t20 wr) (fun _ _ _ t _=>l.length-(intOf t).toNat);case atStart=>exact⟨0,[],rfl,by omega,rfl,rfl,by simp[stS],lz.nil l,hst⟩
 case round=>
  obtain⟨j,L,rfl,hj,rfl,rfl,rfl,hI,hm⟩:=hrel;clear hst;have hj0:(0:Int)<=(j:Int):=(by omega);have hb1:=mN (l:=l) j;have hb2:=rG (l:=l) HHI.o j;have hb3:=rH (l:=l) HST.o j;obtain⟨hb1a,hb1b⟩:=hb1;obtain⟨hb2a,hb2b⟩:=hb2;obtain⟨hb3a,hb3b⟩:=hb3;have hjn:(j:Int)<=2000:=(by omega);have hb3c:stS cs l j<=50000000:=(by omega);by_cases hlt:j<l.length
  ·have hlt':(j:Int)<(l.length:Int):=(by omega);obtain⟨x,hjx⟩: ∃x,l[j]? =some x:=⟨l[j],ax hlt⟩
   obtain⟨sk,hrow,g2,o2,hpe,e0,e1,e2,e3,e4⟩:=HCU.o j _ hjx;subst hpe;have d0:=aj hm.bel e0;have d1:=aj hm.bel e1;have d2:=aj hm.bel e2;have d3:=aj hm.bel e3;have d4:=aj hm.bel e4;have hE:=HIE.o j _ hjx;have hh1:=jp hjx;have hm1:=ku (cs:=cs) hjx;have hs1:=jH (cs:=cs) hjx;have ht0:=O1 x;have hf0:=xn x;have cX:=BF x;obtain⟨ps,ck,rfl,_,_⟩:=hrow.form;have bI:=am wr (.cells #[ag x.op,ag x.a,ag x.b,ag x.to,.slice ps x.sp.length ck] 234);have hxI:=aC wr (.cells #[ag x.op,ag x.a,ag x.b,ag x.to,.slice ps x.sp.length ck] 234);have z0:=ak 0 hxI;have z1:=ak 1 hxI;have z3:=ak 3 hxI;have hmI:=hm.below bI;generalize hwI:wr.alloc (.cells #[ag x.op,ag x.a,ag x.b,ag x.to,.slice ps x.sp.length ck] 234)=wI at*;have cA:=pB L (j:Int) (hAt l j) w wI hmI;have cX':=cX wI;obtain⟨ht0a,ht0b⟩:=ht0;obtain⟨hf0a,hf0b⟩:=hf0;clear cX hrow e0 e1 e2 e3 e4 bI hxI hm;by_cases htk:hAt l j<tk x
   ·have HNW:=aY (uz (cs:=cs) (NG hjx htk));have HB:=aY hmI.bel;clear cA hE hh1 hm1 hs1 hI hmI HC HCU HIE HHI HST HTO HOK hjx;generalize hAt l j=hh at*;generalize tk x=tt at*;generalize mxH cs l j=mm at*;generalize stS cs l j=ss at*;go_wp2_with fail;refine cX'.mono ?_;rintro e w1 ⟨rfl,rfl⟩;clear cX';go_wp2_with fail;exact aU (v:= .tuple #[ag 0,ag 0,.bool false]) (by simp[results,results230,go_sem]) rfl ⟨0,0,false,rfl,HNW.o,HB.o⟩
   ·have htk': ¬hAt l j<tk x:=htk;cases hag:agB L (j:Int) (hAt l j) with
    |false=>
     obtain⟨v,hv1,hv2⟩:=qH hag;have HNW:=aY (uz (cs:=cs) (hI.not_met hv1 hv2));have HB:=aY hmI.bel;rw[hag]at cA;clear hag hE hh1 hm1 hs1 hI hmI HC HCU HIE HHI HST HTO HOK hjx hv1 hv2 htk;generalize hAt l j=hh at*;generalize tk x=tt at*;generalize mxH cs l j=mm at*;generalize stS cs l j=ss at*;go_wp2_with fail;refine cX'.mono ?_;rintro e w1 ⟨rfl,rfl⟩;clear cX';go_wp2_with fail;refine cA.mono ?_;rintro e w1 ⟨rfl,rfl⟩;clear cA;go_wp2_with fail;exact aU (v:= .tuple #[ag 0,ag 0,.bool false]) (by simp[results,results230,go_sem]) rfl ⟨0,0,false,rfl,HNW.o,HB.o⟩
    |true=>
     rw[hag]at cA;have hag':=se hag;clear hag;have hle:tk x<=hAt l j:=(by omega);have HNX:P3 (∀(W:World) (L':List (Int×Int)),lz l (j+1) L'->MmI w L' W->E3 cs l w (ag (mxH cs l (j+1))) (ag ((l.length:Int)+(stS cs l (j+1)-((j+1:Nat):Int)))) (ag (hAt l (j+1))) (ag ((j+1:Nat):Int)) W):=fun W L' h1 h2=>⟨j+1,L',rfl,by omega,rfl,rfl,rfl,h1,h2⟩
     by_cases hop:x.op=6
     ·have hg:isG x:= .inl hop;have hto:=rD hE hg;have cB:=pB L x.to (hAt l j+1) w wI hmI;have he0:eff x=0:=(by unfold eff;rw[aw (by omega),aw (by omega)]);have hm8: ¬x.op=8:=(by omega);rw[aw hm8]at hm1 hs1;have hob6:(x.op==6)=true:=(by rw[hop];rfl);cases hag2:agB L x.to (hAt l j+1) with
      |false=>
       obtain⟨v,hv1,hv2⟩:=qH hag2;have HNW:=aY (uz (cs:=cs) (hI.not_two hjx hg hv1 hv2));have HB:=aY hmI.bel;rw[hag2]at cB;clear hag2 hE hh1 hm1 hs1 hI hmI HC HCU HIE HHI HST HTO HOK hjx hv1 hv2 htk HNX hag' hg he0 hm8 hop;generalize hAt l j=hh at*;generalize tk x=tt at*;generalize mxH cs l j=mm at*;generalize stS cs l j=ss at*;go_wp2_with fail;refine cX'.mono ?_;rintro e w1 ⟨rfl,rfl⟩;clear cX';go_wp2_with fail;refine cA.mono ?_;rintro e w1 ⟨rfl,rfl⟩;clear cA;go_wp2_with fail;refine cB.mono ?_;rintro e w1 ⟨rfl,rfl⟩;clear cB;go_wp2_with fail;exact aU (v:= .tuple #[ag 0,ag 0,.bool false]) (by simp[results,results230,go_sem]) rfl ⟨0,0,false,rfl,HNW.o,HB.o⟩
      |true=>
       rw[hag2]at cB;have hI2:=hI.stepG HTO.o hjx hle hag' hg (se hag2);obtain⟨ob,hup,hM⟩:=NM hmI.map x.to (hAt l j+1);have hmN:MmI w (upL L x.to (hAt l j+1)) (sf wI w.heap.size ob):=⟨xo hmI.bel (aA _) ob,hM,(xp ob (by omega)).trans hmI.var⟩
       have HN:=aY (HNX.o _ _ hI2 hmN);have zv:=ak 0 hmI.var;clear hag2 hE hI hmI HC HCU HIE HHI HST HTO HOK hjx htk HNX hag' hg hm8 hop hI2 hM hmN;rw[he0]at hh1 cX';generalize hAt l (j+1)=h1 at*;generalize mxH cs l (j+1)=m1 at*;generalize stS cs l (j+1)=s1 at*;generalize hAt l j=hh at*;generalize mxH cs l j=mm at*;generalize stS cs l j=ss at*;generalize tk x=tt at*;go_wp2_with fail;refine cX'.mono ?_;rintro e w1 ⟨rfl,rfl⟩;clear cX';go_wp2_with fail;refine cA.mono ?_;rintro e w1 ⟨rfl,rfl⟩;clear cA;go_wp2_with fail;refine cB.mono ?_;rintro e w1 ⟨rfl,rfl⟩;clear cB;go_wp2_with fail;have e1:hh+(tt+0-tt)=h1:=(by omega);have e2:max mm (hh+(tt+0-tt))=m1:=(by omega);go_roundw;case rel=>exact uA HN.o (by split<;>omega) (by omega) (by omega) (by omega)
       case measure=>simp[intOf];omega
     by_cases hop7:x.op=7
     ·have hop:=hop7;clear hop7;have hg:isG x:= .inr hop;have hto:=rD hE hg;have cB:=pB L x.to (hAt l j+1) w wI hmI;have he0:eff x=0:=(by unfold eff;rw[aw (by omega),aw (by omega)]);have hm8: ¬x.op=8:=(by omega);rw[aw hm8]at hm1 hs1;have hob6:(x.op==6)=false:=(by rw[hop];rfl);have hob7:(x.op==7)=true:=(by rw[hop];rfl);cases hag2:agB L x.to (hAt l j+1) with
      |false=>
       obtain⟨v,hv1,hv2⟩:=qH hag2;have HNW:=aY (uz (cs:=cs) (hI.not_two hjx hg hv1 hv2));have HB:=aY hmI.bel;rw[hag2]at cB;clear hag2 hE hh1 hm1 hs1 hI hmI HC HCU HIE HHI HST HTO HOK hjx hv1 hv2 htk HNX hag' hg he0 hm8 hop;generalize hAt l j=hh at*;generalize tk x=tt at*;generalize mxH cs l j=mm at*;generalize stS cs l j=ss at*;go_wp2_with fail;refine cX'.mono ?_;rintro e w1 ⟨rfl,rfl⟩;clear cX';go_wp2_with fail;refine cA.mono ?_;rintro e w1 ⟨rfl,rfl⟩;clear cA;go_wp2_with fail;refine cB.mono ?_;rintro e w1 ⟨rfl,rfl⟩;clear cB;go_wp2_with fail;exact aU (v:= .tuple #[ag 0,ag 0,.bool false]) (by simp[results,results230,go_sem]) rfl ⟨0,0,false,rfl,HNW.o,HB.o⟩
      |true=>
       rw[hag2]at cB;have hI2:=hI.stepG HTO.o hjx hle hag' hg (se hag2);obtain⟨ob,hup,hM⟩:=NM hmI.map x.to (hAt l j+1);have hmN:MmI w (upL L x.to (hAt l j+1)) (sf wI w.heap.size ob):=⟨xo hmI.bel (aA _) ob,hM,(xp ob (by omega)).trans hmI.var⟩
       have HN:=aY (HNX.o _ _ hI2 hmN);have zv:=ak 0 hmI.var;clear hag2 hE hI hmI HC HCU HIE HHI HST HTO HOK hjx htk HNX hag' hg hm8 hop hI2 hM hmN;rw[he0]at hh1 cX';generalize hAt l (j+1)=h1 at*;generalize mxH cs l (j+1)=m1 at*;generalize stS cs l (j+1)=s1 at*;generalize hAt l j=hh at*;generalize mxH cs l j=mm at*;generalize stS cs l j=ss at*;generalize tk x=tt at*;go_wp2_with fail;refine cX'.mono ?_;rintro e w1 ⟨rfl,rfl⟩;clear cX';go_wp2_with fail;refine cA.mono ?_;rintro e w1 ⟨rfl,rfl⟩;clear cA;go_wp2_with fail;refine cB.mono ?_;rintro e w1 ⟨rfl,rfl⟩;clear cB;go_wp2_with fail;have e1:hh+(tt+0-tt)=h1:=(by omega);have e2:max mm (hh+(tt+0-tt))=m1:=(by omega);go_roundw;case rel=>exact uA HN.o (by split<;>omega) (by omega) (by omega) (by omega)
       case measure=>simp[intOf];omega
     by_cases hop8:x.op=8
     ·have hop:=hop8;clear hop8 hop7;have hca:=vG hE hop;obtain⟨an,han⟩: ∃an:Nat,x.a=(an:Int):=⟨x.a.toNat,by omega⟩
      have hanl:an<cs.length:=(by omega);have ha0:(0:Int)<=(an:Int):=(by omega);have ha1:(an:Int)<(cs.length:Int):=(by omega);obtain⟨u,hu⟩: ∃u,cs[an]? =some u:=⟨cs[an],ax hanl⟩
      obtain⟨su,_,g3,o3,hpe,k0,k1,k2⟩:=HC.o an _ hu;subst hpe;have q1:=aj hmI.bel k1;have q2:=aj hmI.bel k2;have v1:=HHI.o an;have v2:=HST.o an;have v3:=(je (HOK.o an _ hu)).2.1.1.1;rw[ay hop,show x.a.toNat=an by omega]at hm1 hs1;rw[iO hu]at hm1 hs1 v1 v2;obtain⟨v2a,v2b⟩:=v2;have he0:eff x=1:=(by unfold eff;rw[ay (.inr hop)]);have hob6:(x.op==6)=false:=(by rw[hop];rfl);have hob7:(x.op==7)=false:=(by rw[hop];rfl);have hob8:(x.op==8)=true:=(by rw[hop];rfl);have hng: ¬isG x:=(by unfold isG;omega);have hI2:=hI.step HTO.o hjx hle hag' hng;have HN:=aY (HNX.o _ _ hI2 hmI);rw[han]at z1;clear han hca;clear hE hI hmI HC HCU HIE HHI HST HTO HOK hjx htk HNX hag' hop hI2 hng k0 k1 k2 hu;rw[he0]at hh1 cX';clear he0;generalize u.high=uh at*;generalize u.steps=us at*;generalize hAt l (j+1)=h1 at*;generalize mxH cs l (j+1)=m1 at*;generalize stS cs l (j+1)=s1 at*;generalize hAt l j=hh at*;generalize mxH cs l j=mm at*;generalize stS cs l j=ss at*;generalize tk x=tt at*;go_wp2_with fail;refine cX'.mono ?_;rintro e w1 ⟨rfl,rfl⟩;clear cX';go_wp2_with fail;refine cA.mono ?_;rintro e w1 ⟨rfl,rfl⟩;clear cA;go_wp2_with fail;go_roundw;case rel=>exact uA HN.o (by repeat (first|omega|split)) (by omega) (by omega) (by omega)
      case measure=>simp[intOf];omega
     ·have hob6:(x.op==6)=false:=bf.2 hop;have hob7:(x.op==7)=false:=bf.2 hop7;have hob8:(x.op==8)=false:=bf.2 hop8;rw[aw hop8]at hm1 hs1;have hng: ¬isG x:=(by unfold isG;omega);have hI2:=hI.step HTO.o hjx hle hag' hng;have HN:=aY (HNX.o _ _ hI2 hmI);clear hE hI hmI HC HCU HIE HHI HST HTO HOK hjx htk HNX hag' hop hop7 hop8 hI2 hng;generalize hAt l (j+1)=h1 at*;generalize mxH cs l (j+1)=m1 at*;generalize stS cs l (j+1)=s1 at*;generalize hAt l j=hh at*;generalize mxH cs l j=mm at*;generalize stS cs l j=ss at*;generalize tk x=tt at*;generalize eff x=ee at*;go_wp2_with fail;refine cX'.mono ?_;rintro e w1 ⟨rfl,rfl⟩;clear cX';go_wp2_with fail;refine cA.mono ?_;rintro e w1 ⟨rfl,rfl⟩;clear cA;go_wp2_with fail;go_roundw;case rel=>exact uA HN.o (by repeat (first|omega|split)) (by omega) (by omega) (by omega)
      case measure=>simp[intOf];omega
  ·have hlt': ¬(j:Int)<(l.length:Int):=(by omega);have ej:j=l.length:=(by omega);subst ej;have cA:=pB L (l.length:Int) (hAt l l.length) w wr hm;by_cases hfin:hAt l l.length=1
   ·have HU:P3 (E2 cs l (mxH cs l l.length) ((l.length:Int)+(stS cs l l.length-(l.length:Int))) (agB L (l.length:Int) (hAt l l.length))):=by
     refine⟨?_,fun _=>⟨rfl,by omega⟩⟩;rw[Md,<-hI.fin HTO.o];exact⟨fun e=>⟨hfin,e⟩,fun e=>e.2⟩
    have HB:=aY hm.bel;clear hI hm HC HCU HIE HHI HST HTO HOK;rw[hfin]at cA HU⊢;generalize mxH cs l l.length=mm at*;generalize stS cs l l.length=ss at*;generalize agB L (l.length:Int) 1=ok at*;go_wp2_with fail;refine cA.mono ?_;rintro e w1 ⟨rfl,rfl⟩;clear cA;go_wp2_with fail;exact aU (v:= .tuple #[ag mm,ag ((l.length:Int)+(ss-(l.length:Int))),.bool ok]) (by simp[results,results230,go_sem]) rfl ⟨_,_,_,rfl,HU.o,HB.o⟩
   ·have hfb:(hAt l l.length==1)=false:=bf.2 hfin;have HU:P3 (E2 cs l (mxH cs l l.length) ((l.length:Int)+(stS cs l l.length-(l.length:Int))) false):=⟨⟨fun e=>(by cases e),fun e=>absurd e.fin hfin⟩,fun e=>(by cases e)⟩
    have HB:=aY hm.bel;clear hI hm HC HCU HIE HHI HST HTO HOK cA;generalize mxH cs l l.length=mm at*;generalize stS cs l l.length=ss at*;generalize hAt l l.length=hh at*;go_wp2_with fail;exact aU (v:= .tuple #[ag mm,ag ((l.length:Int)+(ss-(l.length:Int))),.bool false]) (by simp[results,results230,go_sem]) rfl ⟨_,_,_,rfl,HU.o,HB.o⟩
theorem G7 (cs:List Cd)(lv:Value)(ri:Nat)(w:World)(h:InV w lv cs)(hok: ∀(i:Nat) (c:Cd),cs[i]? =some c->aloneE c cs.length=0)(hri:ri<cs.length):
  Calls prog 216 #[lv,ag (ri:Int)] w fun e w'=>e= .returned (.bool (nQ cs (cs.getD ri cd0)))/\ao w w':=by
 obtain⟨p,cp,elv,hlen,hc⟩:=h.form;obtain⟨u,hu⟩: ∃u,cs[ri]? =some u:=⟨cs[ri],ax hri⟩
 obtain⟨sv,hin,g,o,rfl,e0,e1,e2⟩:=hc ri u hu;have hal:=je (hok ri u hu);rw[iO hu];generalize hX:nQ cs u=X;have hi0:(0:Int)<=(ri:Int):=by omega
 have hi1:(ri:Int)<(cs.length:Int):=by omega
 obtain⟨ul,hi,st⟩:=u;dsimp only at hin e1 e2 hal;obtain⟨pu,cu,rfl,_,_⟩:=hin.form;have bC:=am w (.cells #[.slice pu ul.length cu,ag hi,ag st] 208);have hxC:=aC w (.cells #[.slice pu ul.length cu,ag hi,ag st] 208);generalize hwC:w.alloc (.cells #[.slice pu ul.length cu,ag hi,ag st] 208)=wC at*;have cM:=BI cs ul lv (.slice pu ul.length cu) wC (h.below bC) (hin.below bC) hok hal.1.2 hal.2.2;subst elv;have z0:=ak 0 hxC;clear h hc hok hin hu hal;go_enter func216,ntmps216;go_wp2_with fail;refine cM.mono ?_;rintro e w1 ⟨hh,ss,ok,rfl,hU,b1⟩;have hxC1:=ai b1 hxC;have z1:=ak 1 hxC1;have z2:=ak 2 hxC1;have hb:=au bC b1;clear cM b1 bC hxC hxC1 z0 hwC e0 e1 e2
 have hX2:X=(ok&&(decide (hh=hi)&&decide (ss=st))):=by
  obtain⟨u1,u2⟩:=hU;subst hX;cases ok with
  |false=>
   cases hf:nQ cs ⟨ul,hi,st⟩ with
   |false=>rfl
   |true=>exact absurd (u1.2 (mi.1 hf).well) (by simp)
  |true=>
   obtain⟨rfl,rfl⟩:=u2 rfl;by_cases h1:mxH cs ul ul.length=hi
   ·by_cases h2:stS cs ul ul.length=st
    ·rw[a7 h1,a7 h2];exact mi.2 ⟨u1.1 rfl,h1,h2⟩
    ·rw[bj h2];simp only[iQ];cases hf:nQ cs ⟨ul,hi,st⟩ with
     |false=>rfl
     |true=>exact absurd (mi.1 hf).steps h2
   ·rw[bj h1];simp only[Bool.false_and,iQ];cases hf:nQ cs ⟨ul,hi,st⟩ with
    |false=>rfl
    |true=>exact absurd (mi.1 hf).high h1
 clear hX hU;cases ok with
 |false=>
  have hX3:X=false:=hX2;subst hX3;clear hX2;go_wp2_with fail;go_ret;exact⟨rfl,hb⟩
 |true=>
  by_cases h1:hh=hi
  ·by_cases h2:ss=st
   ·rw[a7 h1,a7 h2]at hX2;have hX3:X=true:=hX2;subst hX3 h1 h2;clear hX2;go_wp2_with fail;go_ret;exact⟨rfl,hb⟩
   ·rw[a7 h1,bj h2]at hX2;have hX3:X=false:=hX2;subst hX3 h1;have hb2:(ss==st)=false:=bf.2 h2;clear hX2 h2;go_wp2_with fail;go_ret;exact⟨rfl,hb⟩
  ·rw[bj h1]at hX2;have hX3:X=false:=(by rw[hX2];simp);subst hX3;have hb1:(hh==hi)=false:=bf.2 h1;clear hX2 h1;go_wp2_with fail;go_ret;exact⟨rfl,hb⟩
theorem E4 (cs:List Cd)(lv:Value)(gr gR gl ri:Nat)(w:World)(h:InV w lv cs)(hr:w.cell? (ae gr 0)=some (.slice (some (ae gR 0)) cs.length cs.length))(hR:w.heap[gR]? =ah (ir cs.length (wars (fL cs) cs.length)) 59)
  (hl:w.cell? (ae gl 0)=some lv) (h40:cs.length<=40) (hok: ∀(i:Nat) (c:Cd),cs[i]? =some c->aloneE c cs.length=0) (hri:ri<cs.length):
  Calls prog 214 #[ag (ri:Int),ab gr 0,ab gl 0] w fun e w'=>e= .returned (ag (pA cs ri))/\ao w w':=by
 have rc:=(aV _ _ ri _ _ _ hR).trans (zw hri);have cH:=DG (wars (fL cs) cs.length ri) ri (by omega) w;have cF:=G7 cs lv ri w h hok hri;obtain⟨p,cp,rfl,hlen,hc⟩:=h.form;have hi0:(0:Int)<=(ri:Int):=by omega
 have hi1:(ri:Int)<(cs.length:Int):=by omega
 generalize hX:pA cs ri=X;unfold pA at hX;clear h hc hok hR;generalize hb:wars (fL cs) cs.length ri ri=b at*;generalize hf:nQ cs (cs.getD ri cd0)=f at*;cases b with
 |true=>
  rw[ay rfl]at hX;subst hX;clear cF hb hf;generalize wars (fL cs) cs.length ri=W at*;go_enter func214,ntmps214;go_wp2_with fail;refine cH.mono ?_;rintro e w1 ⟨rfl,rfl⟩;clear cH;go_wp2_with fail;go_ret;exact⟨rfl,aG _ _⟩
 |false=>
  rw[aw (by simp)]at hX;clear hb hf;generalize wars (fL cs) cs.length ri=W at*;cases f with
  |true=>
   rw[ay rfl]at hX;subst hX;go_enter func214,ntmps214;go_wp2_with fail;refine cH.mono ?_;rintro e w1 ⟨rfl,rfl⟩;clear cH;go_wp2_with fail;refine cF.mono ?_;rintro e w2 ⟨rfl,hb2⟩;clear cF;go_wp2_with fail;go_ret;exact⟨rfl,hb2⟩
  |false=>
   rw[aw (by simp)]at hX;subst hX;go_enter func214,ntmps214;go_wp2_with fail;refine cH.mono ?_;rintro e w1 ⟨rfl,rfl⟩;clear cH;go_wp2_with fail;refine cF.mono ?_;rintro e w2 ⟨rfl,hb2⟩;clear cF;go_wp2_with fail;go_ret;exact⟨rfl,hb2⟩
theorem E5 (cs:List Cd)(lv:Value)(w:World)(h:InV w lv cs):
  Calls prog 200 #[lv] w fun e w'=>e= .returned (.agg #[ag (jw cs).1,ag ((jw cs).2:Int)])/\ao w w':=by
 obtain⟨p,cp,elv,hlen,hc⟩:=h.form;generalize hX:jw cs=X;unfold jw at hX;have bA:ao w ((w.alloc (.cells #[lv] 90)).alloc (.cells #[ag 0,ag 0] 47)):=(am _ _).alloc (by simp) _;have hl0:((w.alloc (.cells #[lv] 90)).alloc (.cells #[ag 0,ag 0] 47)).heap[w.heap.size]? =ah #[lv] 90:=by(repeat (first|refine cY _ _ _ (by simp only[aP];omega) ?_|exact dq _ _ _ (by first|rfl|simp only[aP])))
 have hr0:((w.alloc (.cells #[lv] 90)).alloc (.cells #[ag 0,ag 0] 47)).heap[w.heap.size+1]? =ah #[ag 0,ag 0] 47:=by(repeat (first|refine cY _ _ _ (by simp only[aP];omega) ?_|exact dq _ _ _ (by first|rfl|simp only[aP])))
 generalize hwA:(w.alloc (.cells #[lv] 90)).alloc (.cells #[ag 0,ag 0] 47)=wA at*;have z0:=ak 0 hl0;have hn0:(0:Int)<=(cs.length:Int):=by omega
 have hmf: ∀(fn:Fn) (first cap:Array Value) (w:World),(Instr.makeFunc fn first cap).run prog w= .ok (.func fn first cap) w:=fun _ _ _ _=>rfl;by_cases hm:40<cs.length
 ·have hm':(40:Int)<(cs.length:Int):=by omega
  rw[ay hm]at hX;subst hX elv;clear h hc;go_enter func200,ntmps200;go_wp2_with(refine az rfl 47 _ _ rfl _ _ rfl rfl _ _ hr0 (by kernel_rfl) (by simp) (by simp[Value.oneCell']) ?_)
  exact ql 2 (by kernel_rfl) (w.heap.size+1) 5 0 rfl rfl (aJ _ _ _ _ _ _ hr0) ⟨rfl,below_setRow bA (by omega) _⟩
 ·have hm': ¬(40:Int)<(cs.length:Int):=by omega
  rw[aw hm]at hX
  have c1:=rF (fun i=>aloneE (cs.getD i cd0) cs.length) cs.length 211 #[ab w.heap.size 0] p cp wA hlen (fun _ _=>by simp[go_sem]) fun i wr hi hb=>by
   exact EX cs lv w.heap.size i wr ((h.below bA).below hb) (aj hb z0) hi
  rw[<-elv]at c1;by_cases he:(gh (fun i=>aloneE (cs.getD i cd0) cs.length) cs.length 0).1=0
  ·rw[aw (fun e=>e he)]at hX;obtain⟨hf0,hf1⟩:=oO _ _ he;rw[hf0]at c1
   have hok: ∀(i:Nat) (c:Cd),cs[i]? =some c->aloneE c cs.length=0:=fun i c hi=>by
    have:=hf1 i (by omega) (by have:=(aE.1 hi).1;omega);rw[iO hi]at this;exact this
   have HOK:=aY hok;have HIN:=aY h;have HX:=aY hX;have HELV:=aY elv;have sv1: ∃p c,lv= .slice p cs.length c:=⟨p,cp,elv⟩
   clear he hf0 hf1 hok h hc hX;subst elv;go_enter func200,ntmps200;go_wp2_with fail;refine c1.mono ?_;rintro e w1 ⟨rfl,hb1⟩;dsimp only;have b1:=au bA hb1;have hl1:=ai hb1 hl0;have hr1:=ai hb1 hr0;have bF0:=am w1 (.cells #[ag 0,ag 0] 47);have nF0:=aC w1 (.cells #[ag 0,ag 0] 47);generalize hw1:w1.alloc (.cells #[ag 0,ag 0] 47)=w1a at*;have bF:=below_setRow bF0 (aA _) #[ag 0,ag 0];have nF:=aJ _ _ _ #[ag 0,ag 0] _ _ nF0;have hl2:=ai bF hl1;have hr2:=ai bF hr1;have b2:=au b1 bF;generalize hw2:w1a.setRow w1.heap.size #[ag 0,ag 0]=w2 at*;have z2:=ak 0 hl2;have zF:=ak 0 nF;have c2:=BH cs _ w2 (HIN.o.below b2) (by omega) HOK.o;clear c1 hb1 hl1 hr1 bF hl0 hr0 z0 hwA bA b1 bF0;go_wp2_with(refine az rfl 47 _ _ rfl _ _ rfl rfl _ _ nF0 (by kernel_rfl) (by simp) (by simp[Value.oneCell']) ?_)
   refine c2.mono ?_;rintro e w3 ⟨rfl,hU⟩;have hl3:=ai hU.bel hl2;have hr3:=ai hU.bel hr2;have b3:=au b2 hU.bel;have bR:=am w3 (.cells #[.slice (some (ae w2.heap.size 0)) cs.length cs.length] 268);have nR:=aC w3 (.cells #[.slice (some (ae w2.heap.size 0)) cs.length cs.length] 268);have hl4:=ai bR hl3;have hr4:=ai bR hr3;have hU4:=ai bR hU.row;have b4:=au b3 bR;generalize hw4:w3.alloc (.cells #[.slice (some (ae w2.heap.size 0)) cs.length cs.length] 268)=w4 at*;have z4:=ak 0 hl4;have zR:=ak 0 nR
   have c3:=rF (pA cs) cs.length 214 #[ab w3.heap.size 0,ab w.heap.size 0] p cp w4 hlen (fun _ _=>by simp[go_sem]) fun i wr hi hb=>by
    exact E4 cs _ w3.heap.size w2.heap.size w.heap.size i wr ((HIN.o.below b4).below hb) (aj hb zR) (ai hb hU4) (aj hb z4) (by omega) HOK.o hi
   rw[HX.o]at c3;clear c2 hU hl2 hr2 z2 zF nF nF0 hw1 b2 b3 bR hl3 hr3 hw2 hl4 hU4 nR HX;go_wp2_with fail;refine c3.mono ?_;rintro e w5 ⟨rfl,hb5⟩;have hr5:=ai hb5 hr4;have b5:=au b4 hb5;clear c3 hb5 hr4 b4 z4 zR hw4;go_wp2_with(refine az rfl 47 _ _ rfl _ _ rfl rfl _ _ hr5 (by kernel_rfl) (by simp) (by simp[Value.oneCell']) ?_)
   exact ql 2 (by kernel_rfl) (w.heap.size+1) X.1 (X.2:Int) rfl rfl (aJ _ _ _ _ _ _ hr5) ⟨rfl,below_setRow b5 (by omega) _⟩
  ·rw[ay he]at hX;rw[hX]at he c1;obtain⟨xe,xa⟩:=X;dsimp only at he c1⊢;have hb0:(xe==0)=false:=bf.2 he;have hbn:(xe !=0)=true:=(by simpa using he);clear he h hc hX;subst elv;go_enter func200,ntmps200;go_wp2_with fail;refine c1.mono ?_;rintro e w1 ⟨rfl,hb1⟩;have b1:=au bA hb1;have hr1:=ai hb1 hr0;have bF:=am w1 (.cells #[ag xe,ag (xa:Int)] 47);have nF:=aC w1 (.cells #[ag xe,ag (xa:Int)] 47);have hr2:=ai bF hr1;have b2:=au b1 bF;generalize hw2:w1.alloc (.cells #[ag xe,ag (xa:Int)] 47)=w2 at*;have zF:=ak 0 nF;clear c1 hb1 hr1 bF hl0 hr0 z0 hwA bA b1
   go_wp2_with(first
    |(refine aR rfl 47 _ rfl _ rfl _ _ _ _ nF lQ rfl (by kernel_rfl) ?_)
    |(refine az rfl 47 _ _ rfl _ _ rfl rfl _ _ hr2 (by kernel_rfl) (by simp) (by simp[Value.oneCell']) ?_))
   exact ql 2 (by kernel_rfl) (w.heap.size+1) xe (xa:Int) rfl rfl (aJ _ _ _ _ _ _ hr2) ⟨rfl,below_setRow b2 (by omega) _⟩
def eqm (f g:Nat->Bool):Bool:=(List.range 23).all fun k=>wd f k==wd g k
theorem JS {f g:Nat->Bool}(h: ∀i,i<1472->f i=g i):eqm f g=true:=by
 unfold eqm;rw[dj];intro k hk;have hk':k<23:=by simpa using hk
 rw[mH (f:=f) (g:=g) fun j hj=>h _ (by omega)];simp
theorem JT {f g:Nat->Bool}(h:eqm f g=true)(i:Nat)(hi:i<1472):f i=g i:=by
 unfold eqm at h;rw[dj]at h;have h1:=h (i/64) (by simp;omega);have h2:=Ni (by simpa using h1) (i%64) (by omega);have e:64*(i/64)+i%64=i:=by omega
 rw[e]at h2;exact h2
theorem Mf: ∃i,prog.info? 59=some i/\prog.cellsOf 59=1:=⟨_,rfl,by kernel_rfl⟩
theorem DH:prog.underlying 59=some (.int .u64):=by kernel_rfl
theorem DK (f:Nat->Bool)(k:Nat)(hk:k<23)(w:World):(Go.part 59 (mv f) (k*1)).run prog w= .ok (.int .u64 (wd f k:Int)) w:=by
 simp[Go.part,isAgg,fX DH,pS f k hk]
theorem xq (f g:Nat->Bool)(w:World)(d:Nat): ∀l:List Nat,(∀k∈l,k<23)->(Op.eqItems (d+1) 59 1 (mv f) (mv g) l).run prog w= .ok (l.all fun k=>wd f k==wd g k) w
 |[],_=>by simp[Op.eqItems]
 |k::l,h=>by
  have ih:=xq f g w d l fun j hj=>h j (by simp[hj]);have hk:=h k (by simp);simp only[Op.eqItems,jF,DK f k hk,DK g k hk,gW,run_equalIn_int w d 59 .u64 .u64 _ _ DH,List.all_cons]
  have e:(((wd f k:Nat):Int)==((wd g k:Nat):Int))=(wd f k==wd g k):=by
   rw[Bool.eq_iff_iff];simp only[beq_iff_eq];omega
  rw[e];cases(wd f k==wd g k)
  ·simp
  ·simpa using ih
theorem Mg (f g:Nat->Bool)(w:World):(Op.equalIn 10000 61 (.agg (mv f)) (.agg (mv g))).run prog w= .ok (eqm f g) w:=by
 obtain⟨i,hi,hc⟩:=Mf;rw[run_equalIn_array w 9999 (mv f) (mv g) bQ hi,hc];exact xq f g w 9998 _ fun k hk=>by simpa using hk
theorem NN (f:Nat->Bool)(W:World):(Instr.buildSlice 55 1 #[(0,.agg (mv f))]).run prog W= .ok (.slice (some (ae W.heap.size 0)) 1 1) (W.alloc (.cells (mv f) 61)):=by
 kernel_rfl
theorem G8 {o:Oper}{a:Act}{w:World}{K:Act->World->Prop}{Q:Exit->Act->World->Prop}(x:Operand)(ho:o.op= .buildSlice 55 1 #[(0,x)])(f:Nat->Bool)(hx:a.eval x= .agg (mv f))
  (h:K (a.put o.dst (.slice (some (ae w.heap.size 0)) 1 1)) (w.alloc (.cells (mv f) 61))):o.wp prog a w K Q:=by
 unfold Oper.wp execOp;have hb:=NN f w;simp only[ho,hx,iR,dl,eO,jF,kE,gW,hb];exact h
def j9 (S:List M):List Value:=S.flatMap fun f=>(mv f).toList
theorem zy: ∀S:List M,(j9 S).length=S.length*23
 |[]=>rfl
 |f::S=>by
  have:=zy S;unfold j9 at this⊢;rw[List.flatMap_cons,aL,this];have h:(mv f).toList.length=23:=(by rw[bP];exact bO f);rw[h,bz];omega
theorem sh (S:List M)(f:M):j9 (S++[f])=j9 S++(mv f).toList:=by
 unfold j9;rw[dZ];simp
theorem rI (f:M):(mv f).toList.length=23:=by rw[bP];exact bO f
theorem g6 {w w':World}{base:Nat}{e:TypeId}{size n:Nat}{v:Value}{xs:List Value}(h:w.ownsRow base e size v n xs)(hb:ao w w'):w'.ownsRow base e size v n xs:=by
 refine h.kept (row:=none) ⟨hb.os,hb.tape,hb.output,hb.size,fun k hk _=>hb.block k hk⟩ ?_;cases hv:v.ownBlock with
 |none=>exact .inl rfl
 |some g=>exact .inr (by simp)
structure VSt (w0:World)(gm:Nat)(lv:Value)(day:Int)(S:List M)(k:Int)(W:World):Prop where
 bel:ao w0 W
 gt:w0.heap.size<=gm
 row: ∃sv,W.heap[gm]? =ah #[lv,ag day,sv,ag k] 256/\W.ownsRow w0.heap.size 61 23 sv S.length (j9 S)
theorem VSt.below {w0 W W':World}{gm:Nat}{lv:Value}{day k:Int}{S:List M}(h:VSt w0 gm lv day S k W)(hb:ao W W'):VSt w0 gm lv day S k W':=by
 obtain⟨h1,h2,sv,h3,h4⟩:=h;exact⟨au h1 hb,h2,sv,ai hb h3,g6 h4 hb⟩
theorem G9:(prog.info? 61).map (fun i=>(i.zero,i.size,i.bytes))=some (some (.agg #[.int .u64 0, .int .u64 0, .int .u64 0, .int .u64 0, .int .u64 0, .int .u64 0, .int .u64 0, .int .u64 0, .int .u64 0, .int .u64 0, .int .u64 0, .int .u64 0, .int .u64 0, .int .u64 0, .int .u64 0, .int .u64 0, .int .u64 0, .int .u64 0, .int .u64 0, .int .u64 0, .int .u64 0, .int .u64 0, .int .u64 0]),23,184):=by kernel_rfl
theorem Ha:prog.underlying 55=some (.slice 61):=by kernel_rfl
structure NO (base:Nat)(sv:Value)(n:Nat)(xs:List Value)(f:M)(W1:World)(R:World->Prop)(D:Nat->Bool)(φ:Nat->Value)(W:World):Prop where
 grown:D 10=false->W1.grownBy W sv.ownBlock
 own:D 7=false->W.ownsRow base 61 23 sv n xs
 one:D 6=true->D 7=false-> ∃g,φ 10= .slice (some (ae g 0)) 1 1/\W.heap[g]? =ah (mv f) 61
 app:D 7=true->D 10=false->W.ownsRow base 61 23 (φ 11) (n+1) (xs++(mv f).toList)
 fin:D 10=true->R W
theorem oG {W1 W W':World}{row:Option Nat}(h:W1.grownBy W row)(hb:ao W W'):W1.grownBy W' row:=
 ⟨hb.os.trans h.os,hb.tape.trans h.tape,hb.output.trans h.output,a6 h.size hb.size,fun k hk hr=>(hb.block k (aO hk h.size)).trans (h.block k hk hr)⟩
theorem vf {W1 W W':World}{row:Option Nat}(h:W1.grownBy W row)(hb:W.grownBy W' row):W1.grownBy W' row:=
 ⟨hb.os.trans h.os,hb.tape.trans h.tape,hb.output.trans h.output,a6 h.size hb.size,fun k hk hr=>(hb.block k (aO hk h.size) hr).trans (h.block k hk hr)⟩
theorem uB (g o n:Nat):(⟨g,o,none⟩:Addr).add n=⟨g,o+n,none⟩:=by
 by_cases h:n=0
 ·subst h;simp[Addr.add]
 ·simp[Addr.add,h]
theorem uC (w0:World)(gm:Nat)(lv:Value)(day k:Int)(S:List M)(f:M)(W:World)(h:VSt w0 gm lv day S k W)(hS:S.length<=1000):
  Calls prog 231 #[ab gm 0,.agg (mv f)] W fun e W'=>e= .returned (.tuple #[])/\VSt w0 gm lv day (S++[f]) k W'/\ ∀(q:Nat) (c:Array Value) (T:TypeId),W.heap[q]? =ah c T->T≠61->q≠gm->W'.heap[q]? =ah c T:=by
 obtain⟨hbel,hgt,sv,nM0,own0⟩:=h;obtain⟨i0,hi,hz0,hz1,hz2⟩:=iW G9;have HZ:=aY hz0;have bB:=am W (.cells (mv f) 61);have nB0:=aC W (.cells (mv f) 61);have nM:=ai bB nM0;have own1:=g6 own0 bB;have hneM:=jY own1 nM (by decide)
 have hneB:some W.heap.size≠sv.ownBlock:=fun e=>by
  have:=(own0.lt _ e.symm).2;omega
 have hb1:=au hbel bB;have hb0:=hb1.size;obtain⟨p0,c0,hsv⟩:=bU own0;subst hsv;have HFR:P3 (∀(q:Nat) (c:Array Value) (T:TypeId),W.heap[q]? =ah c T->(W.alloc (.cells (mv f) 61)).heap[q]? =ah c T):=fun q c T hq=>ai bB hq;obtain⟨gb,hgb⟩:=aq W.heap.size;generalize hwB:W.alloc (.cells (mv f) 61)=wB at*;rw[hgb]at hneB;have nB:wB.heap[gb]? =ah (mv f) 61:=by rw[<-hgb];exact nB0
 clear hz0 nB0 nM0 own0 bB hbel;go_enter func231,ntmps231;go_wp2_with fail;clear hwB;refine dt (NO w0.heap.size (.slice p0 S.length c0) S.length (j9 S) f wB fun W'=>VSt w0 gm lv day (S++[f]) k W'/\ ∀(q:Nat) (c:Array Value) (T:TypeId),W.heap[q]? =ah c T->T≠61->q≠gm->W'.heap[q]? =ah c T) [kn 4 (ab gm 0),kn 5 (ab gm 0),kn 6 (ab gm 0),kn 7 (ab gm 2),kn 8 (.slice p0 S.length c0),kn 9 (.agg (mv f)),td 10,td 11,kn 12 (ab gm 0),kn 13 (ab gm 2),nk] (fun _=>⟨fun _=>⟨rfl,rfl,rfl,aA _,fun _ _ _=>rfl⟩,fun _=>own1,(fun h=>by cases h),(fun h=>by cases h),(fun h=>by cases h)⟩) (fun _ _ _ _ hb h=>⟨fun e=>oG (h.grown e) hb,fun e=>g6 (h.own e) hb,fun e e'=>(h.one e e').imp fun _ q=>⟨q.1,ai hb q.2⟩,fun e e'=>g6 (h.app e e') hb,fun e=>⟨(h.fin e).1.below hb,fun q c T h1 h2 h3=>by have:=(h.fin e).2 q c T h1 h2 h3;exact ai hb this⟩⟩) (by kernel_rfl) (fun D φ W2 hJ hcl F l hl hF=> ?_) (fun D φ W2 hM hJ=> ?_)
 ·simp only[kn,td,nk,dN,aQ,aW,Act.put,aB,aI,aH]at hl;subst hl;simp only[dg,Nat.reduceAdd]at hF
  have h10:D 7=false->D 10=false:=fun h7=>by
   cases h:D 10 with
   |false=>rfl
   |true=>rw[hcl 10 _ rfl h ⟨7,.data⟩ (by simp) rfl rfl]at h7;cases h7
  dsimp only[kn,td,nk,dC,en,dS,Act.put];and_intros;all_goals first|exact trivial|intro hw hn hm K hK
  all_goals try (go_simp;with_reducible exact hK _ _ ⟨rfl,aG _ _⟩)
  ·have nM2:=((hJ.grown (h10 (hn 7 _ rfl (by kernel_rfl)))).block _ (aF nM) hneM).trans nM;have z2:=ak 2 nM2;go_simp;exact hK _ _ ⟨rfl,aG _ _⟩
  ·have no7:D 7=false:=by
    cases h:D 7 with
    |false=>rfl
    |true=>
     have:=hn 6 _ rfl (by kernel_rfl);rw[hcl 7 _ rfl h ⟨6,.data⟩ (by simp) rfl rfl]at this;cases this
   have nB2:=((hJ.grown (h10 no7)).block _ (aF nB) hneB).trans nB;refine d9 61 _ rfl _ (by simp[Act.eval,hF]) _ _ _ _ nB2 bQ rfl (ba _) ?_;exact hK _ _ ⟨rfl,aG _ _⟩
  ·have hb:=am W2 (.cells (mv f) 61);have no7:=hn 7 _ rfl (by kernel_rfl);refine G8 _ rfl f (by simp[Act.eval,hF]) ?_;exact hK _ _ ⟨trivial,fun _=>oG (hJ.grown (h10 no7)) hb,fun _=>g6 (hJ.own no7) hb,fun _ _=>⟨_,dI ..,aC W2 _⟩,(fun h=>by simp[no7]at h),(fun h=>by simp[h10 no7]at h)⟩
  ·obtain⟨g,e10,hh⟩:=hJ.one (hw ⟨6,.data⟩ (by simp) rfl rfl) hm;have hG:=hJ.grown (h10 hm);rw[e10]at hF;refine wp_append_own W2 _ _ 55 rfl w0.heap.size 61 i0 _ 23 184 Ha hi HZ.o hz1 hz2 rfl (by decide) (.slice p0 S.length c0) S.length (j9 S) (by simp[Act.eval,hF]) (hJ.own hm) ⟨g,0,none⟩ 1 1 (mv f).toList (by simp[Act.eval,hF]) (rI f) ?c1 ?c2 ?c3 ?c4 ?c5 ?_
   case c1=>
    intro q u hq;rw[uB];exact(aV _ _ _ _ _ _ hh).trans (by rw[bK,<-bo];exact hq)
   case c2=>
    intro u hu;have:=dH f;rw[Array.all_eq_true_iff_forall_mem]at this;exact this u (Array.mem_def.2 hu)
   case c3=>unfold maxLen;omega
   case c4=>omega
   case c5=>exact a6 hb0 hG.size
   intro v' W' hown hgrow _;exact hK _ _ ⟨trivial,fun _=>vf hG hgrow,(fun e=>by simp at e),(fun _ e=>by simp at e),fun _ _=>by rw[dI];exact hown,(fun e=>by simp[h10 hm]at e)⟩
  ·have own7:=hJ.app (hw ⟨7,.data⟩ (by simp) rfl rfl) hm;have hG:=hJ.grown hm;have q7:=hw ⟨7,.data⟩ (by simp) rfl rfl;obtain⟨p7,c7,hv7⟩:=bU own7;rw[hv7]at hF own7;have nM2:=(hG.block _ (aF nM) hneM).trans nM;have z2:=ak 2 nM2;have y2:=bl _ _ 2 _ _ nM2;have hne7:=jY own7 nM2 (by decide);have nS:(W2.setCell ⟨gm,2,none⟩ (.slice p7 (S.length+1) c7)).heap[gm]? =ah #[lv,ag day,.slice p7 (S.length+1) c7,ag k] 256:=aX W2 gm 2 _ _ _ nM2
   have bS:ao w0 (W2.setCell ⟨gm,2,none⟩ (.slice p7 (S.length+1) c7)):=by
    refine Below.setCell (p:=⟨gm,2,none⟩) ⟨hG.os.trans hb1.os,hG.tape.trans hb1.tape,hG.output.trans hb1.output,a6 hb1.size hG.size,fun q hq=> ?_⟩ hgt _;refine(hG.block q (aO hq hb1.size) fun e=> ?_).trans (hb1.block q hq);have:=(own1.lt _ e.symm).1;omega
   have own8:(W2.setCell ⟨gm,2,none⟩ (.slice p7 (S.length+1) c7)).ownsRow w0.heap.size 61 23 (.slice p7 (S.length+1) c7) (S++[f]).length (j9 (S++[f])):=by
    rw[sh,aL,dX];refine own7.kept (row:=some gm) ⟨rfl,rfl,rfl,by simp,fun q hq hr=>aN W2 ⟨gm,2,none⟩ q _ fun e=>hr (congrArg some e)⟩ (.inr fun e=>hne7 e.symm)
   have HJ:P3 (∀φ',NO w0.heap.size (.slice p0 S.length c0) S.length (j9 S) f wB (fun W'=>VSt w0 gm lv day (S++[f]) k W'/\ ∀(q:Nat) (c:Array Value) (T:TypeId),W.heap[q]? =ah c T->T≠61->q≠gm->W'.heap[q]? =ah c T) (fun k=>decide (10=k)||D k) φ' (W2.setCell ⟨gm,2,none⟩ (.slice p7 (S.length+1) c7))):=fun _=>⟨(fun h=>by simp at h),(fun h=>by simp[q7]at h),(fun _ h=>by simp[q7]at h),(fun _ h=>by simp at h),fun _=>⟨⟨bS,hgt,_,nS,own8⟩,fun q c T hq hT hne=>by
    have h1:=HFR.o q c T hq;exact(aN W2 ⟨gm,2,none⟩ q _ hne).trans ((hG.block _ (aF h1) (jY own1 h1 hT)).trans h1)⟩⟩
   clear own7 own8 nS bS hJ;go_simp;exact hK undef _ ⟨trivial,HJ.o _⟩
 ·have HN:=aY (hJ.fin (hM 10 (by decide) rfl));simp only[kn,td,nk,dP,aQ,aW,Act.put,aB,aI,aH];clear hM hJ;go_wp2_with fail;exact⟨rfl,_,dY rfl _ _ _,rfl,HN.o⟩
theorem tu {ops:Array Oper}{rest:List Oper}{op:Oper}{a:Act}{w:World}{Q:Exit->Act->World->Prop}(hgd:op.guard=none)(x:Operand)(ho:op.op= .load 61 x)(b o:Nat)(hx:a.eval x=ab b o)(f:Nat->Bool)(hc:w.rangeAt b o (mv f).toList)
  (h:wpList prog ops Q rest (a.put op.dst (.agg (mv f))) w):wpList prog ops Q (op::rest) a w:=by
 refine wpList_load_mid hgd 61 x ho b o hx (mv f).toList _ hc bQ rfl (by rw[rI];kernel_rfl) ?_;simpa using h
theorem JU {w:World}{base:Nat}{v:Value}{S:List M}{f:M}(h:w.ownsRow base 61 23 v (S++[f]).length (j9 (S++[f]))):
  ∃g cap,v= .slice (some (ae g 0)) (S.length+1) cap/\S.length+1<=cap/\cap<=maxLen/\base<=g/\w.ownsRow base 61 23 (.slice (some (ae g 0)) S.length cap) S.length (j9 S)/\w.rangeAt g (S.length*23) (mv f).toList:=by
 obtain⟨h1,h2⟩:=h;rw[aL,dX]at h2;rcases h2 with⟨_,e⟩|⟨g,cap,cur,e,hb,hg,hn,hc,hs,hx⟩
 ·omega
 ·have hfl:=zy S
  have e1:cur.toList.take (S.length*23)=j9 S:=by
   have h3:(cur.toList.take ((S.length+1)*23)).take (S.length*23)=(j9 (S++[f])).take (S.length*23):=(by rw[hx]);rw[List.take_take,fC (by omega),sh,List.take_left' hfl]at h3;exact h3
  refine⟨g,cap,e,hn,hc,hb,⟨hfl,.inr ⟨g,cap,cur,rfl,hb,hg,by omega,hc,hs,e1⟩⟩,fun j u hj=> ?_⟩
  have hjl:j<23:=by
   have:=(aE.1 hj).1;rwa[rI]at this
  refine(aV _ _ _ _ _ _ hg).trans ?_;have h4:(cur.toList.take ((S.length+1)*23))[S.length*23+j]? =(j9 (S++[f]))[S.length*23+j]? :=(by rw[hx]);rw[dA (by omega),sh,dG (by omega),hfl,Nat.add_sub_cancel_left,hj]at h4;simpa using h4
theorem si (w0:World)(gm:Nat)(lv:Value)(day k:Int)(S:List M)(f:M)(W:World)(h:VSt w0 gm lv day (S++[f]) k W)(hS:S.length<=1000):
  Calls prog 203 #[ab gm 0] W fun e W'=>e= .returned (.agg (mv f))/\VSt w0 gm lv day S k W'/\ ∀q,q<W.heap.size->q≠gm->W'.heap[q]? =W.heap[q]? :=by
 obtain⟨hbel,hgt,sv,nM0,own0⟩:=h;obtain⟨g,cap,rfl,hcap,hcm,hgb,own1,hrg⟩:=JU own0;have hz:=dU;have hcm':cap<=9223372036854775807:=by unfold maxLen at hcm;omega
 have hlg:g<W.heap.size:=(own0.lt g rfl).2;have hneM:gm≠g:=fun e=>jY own0 nM0 (by decide) (congrArg some e);have bA:=am W (.cells (mv fun _=>false) 61);have nA:=aC W (.cells (mv fun _=>false) 61);have nM1:=ai bA nM0;have hbA:=au hbel bA;have own2:=g6 own1 bA;have hrg1:(W.alloc (.cells (mv fun _=>false) 61)).rangeAt g (S.length*23) (mv f).toList:=World.rangeAt_alloc hrg _;have hlm:=aF nM0;generalize hwA:W.alloc (.cells (mv fun _=>false) 61)=wA at*;have bB:=am wA (.cells (mv fun _=>false) 61);have nB:=aC wA (.cells (mv fun _=>false) 61);generalize hwB:wA.alloc (.cells (mv fun _=>false) 61)=wB at*;have bC:=below_setRow bB (aA _) (mv f);have nC:=aJ _ _ _ (mv f) _ _ nB;have nA2:=ai bC nA;have nM2:=ai bC nM1;have own3:=g6 own2 bC;have hbC:=au hbA bC;generalize hwC:wB.setRow wA.heap.size (mv f)=wC at*;have hlA:=aF nA;have z2:=ak 2 nM1;have z2c:=ak 2 nM2;have y2c:=bl _ _ 2 _ _ nM2;have nD:(wC.setCell ⟨gm,2,none⟩ (.slice (some (ae g 0)) S.length cap)).heap[gm]? =ah #[lv,ag day,.slice (some (ae g 0)) S.length cap,ag k] 256:=aX wC gm 2 _ _ _ nM2;have hoD: ∀q,q≠gm->(wC.setCell ⟨gm,2,none⟩ (.slice (some (ae g 0)) S.length cap)).heap[q]? =wC.heap[q]? :=fun q hq=>aN wC ⟨gm,2,none⟩ q _ hq;have nCD:=(hoD wA.heap.size (by have:=aF nM1;omega)).trans nC;have nAD:=(hoD W.heap.size (by omega)).trans nA2;have hbD:ao w0 (wC.setCell ⟨gm,2,none⟩ (.slice (some (ae g 0)) S.length cap)):=hbC.setCell (p:=⟨gm,2,none⟩) hgt _
 have own4:(wC.setCell ⟨gm,2,none⟩ (.slice (some (ae g 0)) S.length cap)).ownsRow w0.heap.size 61 23 (.slice (some (ae g 0)) S.length cap) S.length (j9 S):=
  own3.kept (row:=some gm) ⟨rfl,rfl,rfl,by simp,fun q hq hr=>hoD q fun e=>hr (congrArg some e)⟩ (.inr fun e=>hneM (aK e).symm)
 generalize hwD:wC.setCell ⟨gm,2,none⟩ (.slice (some (ae g 0)) S.length cap)=wD at*;have nE:=aJ _ _ _ (mv f) _ _ nAD;have nME:=(aT wD W.heap.size gm (mv f) (by omega)).trans nD;have hlow:w0.heap.size<=W.heap.size:=hbel.size;have hbE:=below_setRow hbD hlow (mv f)
 have own5:(wD.setRow W.heap.size (mv f)).ownsRow w0.heap.size 61 23 (.slice (some (ae g 0)) S.length cap) S.length (j9 S):=
  own4.kept (row:=some W.heap.size) ⟨rfl,rfl,rfl,by simp,fun q hq hr=>aT wD W.heap.size q (mv f) fun e=>hr (congrArg some e)⟩ (.inr fun e=>by have e2:g=W.heap.size:=aK e;omega)
 have HN:P3 (VSt w0 gm lv day S k (wD.setRow W.heap.size (mv f))):=⟨hbE,hgt,_,nME,own5⟩
 have HF:P3 (∀q,q<W.heap.size->q≠gm->(wD.setRow W.heap.size (mv f)).heap[q]? =W.heap[q]?):=fun q hq hne=>(aT wD W.heap.size q (mv f) (by omega)).trans ((hoD q hne).trans ((bC.block q (by omega)).trans (bA.block q hq)));have hn0:(0:Int)<=(S.length:Int):=by omega
 have hnc:(S.length:Int)<(cap:Int):=by omega
 have hnc1:S.length<=cap:=by omega
 have hn1:(S.length:Int)<=1000:=by omega
 clear own0 own1 own2 own3 own4 own5 hbel hbA hbC hbD hbE bA bB bC nME nD hoD nM0 nM1 nM2 nA nA2 hrg hgb hcm;generalize S.length=n at*;go_enter func203,ntmps203
 go_wp2_with(first
  |(refine tu rfl _ rfl g (n*23) ?r f hrg1 ?_;(case r=>rfl))
  |(refine az rfl 61 _ _ rfl _ _ rfl rfl _ _ nB (ba _) (by simp[bO]) (dH _) ?_)
  |(refine aR rfl 61 _ rfl _ rfl _ _ _ _ nCD bQ rfl (ba _) ?_)
  |(refine az rfl 61 _ _ rfl _ _ rfl rfl _ _ nAD (ba _) (by simp[bO]) (dH _) ?_))
 refine aU (v:= .agg (mv f)) ?_ rfl ⟨rfl,HN.o,HF.o⟩;exact a8 rfl _ _ W.heap.size _ _ _ _ rfl nE bQ rfl (ba _)
end Go.Proofs.YtjkilacmkbmmbaaGreatDoor
