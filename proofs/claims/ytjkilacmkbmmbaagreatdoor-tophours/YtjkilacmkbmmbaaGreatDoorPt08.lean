/- Texts of the proof. -/
import Derived.Test.YtjkilacmkbmmbaaGreatDoorPt07
set_option maxRecDepth 100000
set_option maxHeartbeats 8000000
namespace Go.Proofs.YtjkilacmkbmmbaaGreatDoor
open Go.Proofs.Tryz Go.RowKit Lx Vx Mx Msk
theorem BK:prog.underlying 295=some (.map 3 3):=by kernel_rfl
theorem uW:prog.underlying 3=some (.int .i64):=by kernel_rfl
def kv9 (e:MapEntry):Value×Value:=(e.key,e.val)
def tT (L:List (Int×Int)):List (Value×Value):=L.map fun n=>(ag n.1,ag n.2)
def tU (w:World)(b:Nat)(L:List (Int×Int)):Prop:= ∃es c,w.heap[b]? =some (.map es c)/\es.toList.map kv9=tT L
theorem tU.later {w w':World}{b:Nat}{L:List (Int×Int)}(h:tU w b L)(hk:w'.heap[b]? =w.heap[b]?):tU w' b L:=by
 obtain⟨es,c,h1,h2⟩:=h;exact⟨es,c,hk.trans h1,h2⟩
theorem Gg {w:World}{b:Nat}{L:List (Int×Int)}(h:tU w b L):b<w.heap.size:=by
 obtain⟨es,c,h1,_⟩:=h;exact(dh.1 h1).1
theorem Gh (k:Int): ∀(es:List MapEntry) (L:List (Int×Int)) (i:Nat),es.map kv9=tT L->(∃v j,lk L k=some v/\Instr.findNow (.int .i64) (ag k) es i=some (some (i+j,ag v))/\(es[j]?).map kv9=some (ag k,ag v)/\ ∀v',tT (upL L k v')=(es.map kv9).set j (ag k,ag v'))\/(lk L k=none/\Instr.findNow (.int .i64) (ag k) es i=some none/\ ∀v',upL L k v'=L++[(k,v')])
 |[],[],i,_=> .inr ⟨rfl,rfl,fun _=>rfl⟩
 |[],_::_,i,h=>by simp[tT]at h
 |_::_,[],i,h=>by simp[tT]at h
 |e::es,n::L,i,h=>by
  simp only[tT,bV,List.cons.injEq]at h;obtain⟨h1,h2⟩:=h;have hk:e.key=ag n.1:=congrArg Prod.fst h1;have hv:e.val=ag n.2:=congrArg Prod.snd h1;have hs:Instr.sameNow (.int .i64) (ag k) e.key=some (k==n.1):=(by rw[hk];simp[Instr.sameNow]);simp only[Instr.findNow,hs];by_cases e1:k=n.1
  ·left;refine⟨n.2,0,by simp[lk,e1],?_,?_,fun v'=> ?_⟩
   ·simp[e1,hv]
   ·simp only[List.getElem?_cons_zero,Option.map_some,h1,e1]
   ·have hq:es.map kv9=tT L:=h2;simp only[upL,ax e1,bV,aJ,hq];rfl
  ·have e2:(k==n.1)=false:=(by simpa using e1);rw[e2];rcases Gh k es L (i+1) h2 with⟨v,j,m,f,g,q⟩|⟨m,f,q⟩
   ·left;refine⟨v,j+1,by simp[lk,e1,m],by rw[show i+(j+1)=i+1+j by omega];exact f,by simpa using g,fun v'=> ?_⟩;simp only[upL,aw e1,bV,aK,<-q v',h1];rfl
   ·right;refine⟨by simp[lk,e1,m],f,fun v'=> ?_⟩;simp only[upL,aw e1,q v',List.cons_append]
theorem Qz {w:World}{b:Nat}{L:List (Int×Int)}(h:tU w b L)(k:Int):(Instr.lookup 295 (.map (some b)) (ag k) true).run prog w= .ok (.tuple #[ag ((lk L k).getD 0),.bool (lk L k).isSome]) w:=by
 obtain⟨es,c,hb,hE⟩:=h;have hc: ∀z,(Instr.checkKey z 10000 3 (ag k)).run prog w= .ok () w:=fun z=>MapKept.run_checkKey (k:=ag k) uW (by simp[MapKept.IsKey]) z 9999;have hz:(zeroValue 3).run prog w= .ok (ag 0) w:=by kernel_rfl
 rcases Gh k es.toList L 0 hE with⟨v,j,h1,h2,_,_⟩|⟨h1,h2,_⟩
 ·simp[Instr.lookup,fU BK,fI hb,hc,gC uW h2,Result.andThen,h1]
 ·simp[Instr.lookup,fU BK,fI hb,hc,gC uW h2,hz,Result.andThen,h1]
def sK (w:World)(b:Nat)(o:Obj):World:={w with heap:=w.heap.setIfInBounds b o}
theorem xV {r n:Nat}{w0 w:World}(h:Below n w0 w)(hr:n<=r)(o:Obj):Below n w0 (sK w r o):=
 ⟨h.os,h.tape,h.output,by simpa[sK] using h.size,fun k hk=>by
   rw[<-h.block k hk];show(w.heap.setIfInBounds r o)[k]? =_;rw[dj (by omega)]⟩
theorem xW {r k:Nat}{w:World}(o:Obj)(h:k≠r):(sK w r o).heap[k]? =w.heap[k]? :=by
 show(w.heap.setIfInBounds r o)[k]? =_;rw[dj (by omega)]
theorem O4 {w:World}{b:Nat}{L:List (Int×Int)}(h:tU w b L)(k v:Int): ∃o,(Instr.mapUpdate 295 (.map (some b)) (ag k) (ag v)).run prog w= .ok () (sK w b o)/\tU (sK w b o) b (upL L k v):=by
 obtain⟨es,c,hb,hE⟩:=h;have hc:(Instr.checkKey false 10000 3 (ag k)).run prog w= .ok () w:=MapKept.run_checkKey (k:=ag k) uW (by simp[MapKept.IsKey]) false 9999;rcases Gh k es.toList L 0 hE with⟨v0,j,h1,h2,h3,h4⟩|⟨h1,h2,h4⟩
 ·have hks:(Instr.keyThatStays (ag k) (ag k)).run prog w= .ok (ag k) w:=MapKept.run_keyThatStays (d:= .int .i64) (by simp[MapKept.IsKey])
  have hold:(Option.map (fun x=>x.key) es[j]?).getD (ag k)=ag k:=by
   rw[bn]at h3;cases he:es[j]? with
   |none=>rfl
   |some e=>
    rw[he]at h3;simp[kv9]at h3;simp[h3.1]
  refine⟨.map (es.modify j fun e=>{e with key:=ag k,val:=ag v}) c,?_,_,c,(MapKept.heap_set hb).1,?_⟩
  ·rw[bG]at h2;simp[Instr.mapUpdate,fU BK,fI hb,hc,gC uW h2,hold,hks,MapKept.run_setObj_map _ hb,Result.andThen,sK]
  ·rw[h4 v];rw[bn]at h3;apply List.ext_getElem?;intro q;simp only[bc,bn,Array.getElem?_modify,List.getElem?_set];by_cases eq:j=q
   ·subst eq;rw[ax rfl,ax rfl];cases he:es[j]? with
    |none=>rw[he]at h3;simp at h3
    |some e=>
     have hj:j<es.size:=(dh.1 he).1;simp[kv9,hj]
   ·rw[aw eq,aw eq]
 ·refine⟨.map (es.push ⟨ag k,ag v,c⟩) (c+1),?_,_,c+1,(MapKept.heap_set hb).1,?_⟩
  ·simp[Instr.mapUpdate,fU BK,fI hb,hc,gC uW h2,MapKept.run_setObj_map _ hb,Result.andThen,sK]
  ·rw[h4 v,Array.toList_push,dR,hE];simp[tT,kv9]
theorem QA (w:World):(Instr.makeMap 295 none).run prog w= .ok (.map (some w.heap.size)) (w.alloc (.map #[] 0)):=by
 unfold Instr.makeMap;simp[go_sem]
structure MmI (w:World)(L:List (Int×Int))(W:World):Prop where
 bel:ao w W
 map:tU W w.heap.size L
 var:W.heap[w.heap.size+1]? =ah #[.map (some w.heap.size)] 295
theorem MmI.below {w W W':World}{L:List (Int×Int)}(h:MmI w L W)(hb:ao W W'):MmI w L W':=
 ⟨au h.bel hb,h.map.later (hb.block _ (Gg h.map)),ai hb h.var⟩
theorem pY (L:List (Int×Int))(p h:Int)(w W:World)(hm:MmI w L W):Calls prog 243 #[ag p,ag h,ab (w.heap.size+1) 0] W fun e w'=>e= .returned (.bool (agB L p h))/\w'=W:=by
 have hlk:=Qz hm.map p;have z:=ak 0 hm.var;generalize hX:agB L p h=X;unfold agB at hX;clear hm;cases hl:lk L p with
 |none=>
  rw[hl]at hlk hX;have hlk':(Instr.lookup 295 (.map (some w.heap.size)) (ag p) true).run prog W= .ok (.tuple #[ag 0,.bool false]) W:=hlk;dsimp only at hX;subst hX;clear hlk hl;go_enter func243,ntmps243;go_wp2_with fail;go_ret;exact⟨rfl,rfl⟩
 |some v=>
  rw[hl]at hlk hX;have hlk':(Instr.lookup 295 (.map (some w.heap.size)) (ag p) true).run prog W= .ok (.tuple #[ag v,.bool true]) W:=hlk;dsimp only at hX;have hX':(v==h)=X:=(by rw[<-hX];rfl);clear hlk hl hX;go_enter func243,ntmps243;go_wp2_with fail;go_ret;exact⟨rfl,rfl⟩
def Gi (cs:List Cd)(l:List In)(h s:Int)(ok:Bool):Prop:=(ok=true↔ma l)/\(ok=true->h=mxH cs l l.length/\s=stS cs l l.length)
def QB (cs:List Cd)(l:List In)(w:World)(e:Ending)(w':World):Prop:= ∃(h s:Int) (ok:Bool),e= .returned (.tuple #[ag h,ag s,.bool ok])/\Gi cs l h s ok/\ao w w'
theorem uX {cs:List Cd}{l:List In}(h: ¬ma l):Gi cs l 0 0 false:=⟨⟨fun e=>(by cases e),fun e=>absurd e h⟩,fun e=>(by cases e)⟩
def Gj (cs:List Cd)(l:List In)(w:World)(t4 t5 t7 t20:Value)(wr:World):Prop:= ∃(j:Nat) (L:List (Int×Int)),t20=ag (j:Int)/\j<=l.length/\t7=ag (hAt l j)/\t4=ag (mxH cs l j)/\t5=ag ((l.length:Int)+(stS cs l j-j))/\lP l j L/\MmI w L wr
theorem uY {cs:List Cd}{l:List In}{w W:World}{a b c d a' b' c' d':Int}(h:Gj cs l w (ag a) (ag b) (ag c) (ag d) W)(e1:a'=a)(e2:b'=b)(e3:c'=c)(e4:d'=d):Gj cs l w (ag a') (ag b') (ag c') (ag d') W:=by
 subst e1 e2 e3 e4;exact h
theorem CK (cs:List Cd)(l:List In)(lv sv:Value)(w:World)(h:InV w lv cs)(hs:o5 w sv l)(hok: ∀(i:Nat) (c:Cd),cs[i]? =some c->aloneE c cs.length=0)(hln:l.length<=2000)(hie: ∀(j:Nat) (x:In),l[j]? =some x->fK x j l.length cs.length=0):
  Calls prog 230 #[lv,sv] w (QB cs l w):=by
 obtain⟨p,cp,rfl,hlen,hc⟩:=h.form;obtain⟨pu,cu,rfl,hlu,hcu⟩:=hs.form;have HC:=aY hc;have HCU:=aY hcu;have HIE:=aY hie;have HHI:=aY (NB hok);have HOK:=aY hok;have HST:=aY (Lc hok);have HTO:RJ (Tos l):=fun j x hx hg=>rW (hie j x hx) hg;have b1:=am w (.map #[] 0);have b2:=b1.alloc b1.size (.cells #[.map (some w.heap.size)] 295);have hmk:=QA w;have s1:(w.alloc (.map #[] 0)).heap.size=w.heap.size+1:=by simp
 have hst:MmI w [] ((w.alloc (.map #[] 0)).alloc (.cells #[.map (some w.heap.size)] 295)):=by
  refine⟨b2,⟨#[],0,(dF _ _ _ (by rw[s1];omega)).trans (aB w _),rfl⟩,?_⟩;have:=aB (w.alloc (.map #[] 0)) (.cells #[.map (some w.heap.size)] 295);rw[s1]at this;exact this
 have hl0:(0:Int)<=(l.length:Int):=by omega
 have hl1:(l.length:Int)<=2000:=by omega
 have HSZ:=aY hst;have hmf: ∀(fn:Fn) (first cap:Array Value) (w:World),(Instr.makeFunc fn first cap).run prog w= .ok (.func fn first cap) w:=fun _ _ _ _=>rfl;generalize hwB:(w.alloc (.map #[] 0)).alloc (.cells #[.map (some w.heap.size)] 295)=wB at*;clear h hs hc hcu hok hie b1 b2 hst s1;go_enter func230,ntmps230;go_wp2_with fail;clear hmk hwB;have hst:=HSZ.o;clear HSZ;go_loopw [4,5,7,20] (fun t4 t5 t7 t20 wr=>Gj cs l w t4 t5 t7 t20 wr) (fun _ _ _ t _=>l.length-(intOf t).toNat);case atStart=>exact⟨0,[],rfl,by omega,rfl,rfl,by simp[stS],lP.nil l,hst⟩
 case round=>
  obtain⟨j,L,rfl,hj,rfl,rfl,rfl,hI,hm⟩:=hrel;clear hst;have hj0:(0:Int)<=(j:Int):=(by omega);have hb1:=nz (l:=l) j;have hb2:=rZ (l:=l) HHI.o j;have hb3:=r6 (l:=l) HST.o j;obtain⟨hb1a,hb1b⟩:=hb1;obtain⟨hb2a,hb2b⟩:=hb2;obtain⟨hb3a,hb3b⟩:=hb3;have hjn:(j:Int)<=2000:=(by omega);have hb3c:stS cs l j<=50000000:=(by omega);by_cases hlt:j<l.length
  ·have hlt':(j:Int)<(l.length:Int):=(by omega);obtain⟨x,hjx⟩: ∃x,l[j]? =some x:=⟨l[j],ay hlt⟩
   obtain⟨sk,hrow,g2,o2,hpe,e0,e1,e2,e3,e4⟩:=HCU.o j _ hjx;subst hpe;have d0:=aj hm.bel e0;have d1:=aj hm.bel e1;have d2:=aj hm.bel e2;have d3:=aj hm.bel e3;have d4:=aj hm.bel e4;have hE:=HIE.o j _ hjx;have hh1:=jB hjx;have hm1:=kF (cs:=cs) hjx;have hs1:=jR (cs:=cs) hjx;have ht0:=Qy x;have hf0:=xU x;have cX:=CH x;obtain⟨ps,ck,rfl,_,_⟩:=hrow.form;have bI:=am wr (.cells #[ag x.op,ag x.a,ag x.b,ag x.to,.slice ps x.sp.length ck] 234);have hxI:=aB wr (.cells #[ag x.op,ag x.a,ag x.b,ag x.to,.slice ps x.sp.length ck] 234);have z0:=ak 0 hxI;have z1:=ak 1 hxI;have z3:=ak 3 hxI;have hmI:=hm.below bI;generalize hwI:wr.alloc (.cells #[ag x.op,ag x.a,ag x.b,ag x.to,.slice ps x.sp.length ck] 234)=wI at*;have cA:=pY L (j:Int) (hAt l j) w wI hmI;have cX':=cX wI;obtain⟨ht0a,ht0b⟩:=ht0;obtain⟨hf0a,hf0b⟩:=hf0;clear cX hrow e0 e1 e2 e3 e4 bI hxI hm;by_cases htk:hAt l j<tk x
   ·have HNW:=aY (uX (cs:=cs) (OY hjx htk));have HB:=aY hmI.bel;clear cA hE hh1 hm1 hs1 hI hmI HC HCU HIE HHI HST HTO HOK hjx;generalize hAt l j=hh at*;generalize tk x=tt at*;generalize mxH cs l j=mm at*;generalize stS cs l j=ss at*;go_wp2_with fail;refine cX'.mono ?_;rintro e w1 ⟨rfl,rfl⟩;clear cX';go_wp2_with fail;exact aV (v:= .tuple #[ag 0,ag 0,.bool false]) (by simp[results,results230,go_sem]) rfl ⟨0,0,false,rfl,HNW.o,HB.o⟩
   ·have htk': ¬hAt l j<tk x:=htk;cases hag:agB L (j:Int) (hAt l j) with
    |false=>
     obtain⟨v,hv1,hv2⟩:=qY hag;have HNW:=aY (uX (cs:=cs) (hI.not_met hv1 hv2));have HB:=aY hmI.bel;rw[hag]at cA;clear hag hE hh1 hm1 hs1 hI hmI HC HCU HIE HHI HST HTO HOK hjx hv1 hv2 htk;generalize hAt l j=hh at*;generalize tk x=tt at*;generalize mxH cs l j=mm at*;generalize stS cs l j=ss at*;go_wp2_with fail;refine cX'.mono ?_;rintro e w1 ⟨rfl,rfl⟩;clear cX';go_wp2_with fail;refine cA.mono ?_;rintro e w1 ⟨rfl,rfl⟩;clear cA;go_wp2_with fail;exact aV (v:= .tuple #[ag 0,ag 0,.bool false]) (by simp[results,results230,go_sem]) rfl ⟨0,0,false,rfl,HNW.o,HB.o⟩
    |true=>
     rw[hag]at cA;have hag':=sJ hag;clear hag;have hle:tk x<=hAt l j:=(by omega);have HNX:RJ (∀(W:World) (L':List (Int×Int)),lP l (j+1) L'->MmI w L' W->Gj cs l w (ag (mxH cs l (j+1))) (ag ((l.length:Int)+(stS cs l (j+1)-((j+1:Nat):Int)))) (ag (hAt l (j+1))) (ag ((j+1:Nat):Int)) W):=fun W L' h1 h2=>⟨j+1,L',rfl,by omega,rfl,rfl,rfl,h1,h2⟩
     by_cases hop:x.op=6
     ·have hg:isG x:= .inl hop;have hto:=rW hE hg;have cB:=pY L x.to (hAt l j+1) w wI hmI;have he0:eff x=0:=(by unfold eff;rw[aw (by omega),aw (by omega)]);have hm8: ¬x.op=8:=(by omega);rw[aw hm8]at hm1 hs1;have hob6:(x.op==6)=true:=(by rw[hop];rfl);cases hag2:agB L x.to (hAt l j+1) with
      |false=>
       obtain⟨v,hv1,hv2⟩:=qY hag2;have HNW:=aY (uX (cs:=cs) (hI.not_two hjx hg hv1 hv2));have HB:=aY hmI.bel;rw[hag2]at cB;clear hag2 hE hh1 hm1 hs1 hI hmI HC HCU HIE HHI HST HTO HOK hjx hv1 hv2 htk HNX hag' hg he0 hm8 hop;generalize hAt l j=hh at*;generalize tk x=tt at*;generalize mxH cs l j=mm at*;generalize stS cs l j=ss at*;go_wp2_with fail;refine cX'.mono ?_;rintro e w1 ⟨rfl,rfl⟩;clear cX';go_wp2_with fail;refine cA.mono ?_;rintro e w1 ⟨rfl,rfl⟩;clear cA;go_wp2_with fail;refine cB.mono ?_;rintro e w1 ⟨rfl,rfl⟩;clear cB;go_wp2_with fail;exact aV (v:= .tuple #[ag 0,ag 0,.bool false]) (by simp[results,results230,go_sem]) rfl ⟨0,0,false,rfl,HNW.o,HB.o⟩
      |true=>
       rw[hag2]at cB;have hI2:=hI.stepG HTO.o hjx hle hag' hg (sJ hag2);obtain⟨ob,hup,hM⟩:=O4 hmI.map x.to (hAt l j+1);have hmN:MmI w (upL L x.to (hAt l j+1)) (sK wI w.heap.size ob):=⟨xV hmI.bel (aA _) ob,hM,(xW ob (by omega)).trans hmI.var⟩
       have HN:=aY (HNX.o _ _ hI2 hmN);have zv:=ak 0 hmI.var;clear hag2 hE hI hmI HC HCU HIE HHI HST HTO HOK hjx htk HNX hag' hg hm8 hop hI2 hM hmN;rw[he0]at hh1 cX';generalize hAt l (j+1)=h1 at*;generalize mxH cs l (j+1)=m1 at*;generalize stS cs l (j+1)=s1 at*;generalize hAt l j=hh at*;generalize mxH cs l j=mm at*;generalize stS cs l j=ss at*;generalize tk x=tt at*;go_wp2_with fail;refine cX'.mono ?_;rintro e w1 ⟨rfl,rfl⟩;clear cX';go_wp2_with fail;refine cA.mono ?_;rintro e w1 ⟨rfl,rfl⟩;clear cA;go_wp2_with fail;refine cB.mono ?_;rintro e w1 ⟨rfl,rfl⟩;clear cB;go_wp2_with fail;have e1:hh+(tt+0-tt)=h1:=(by omega);have e2:max mm (hh+(tt+0-tt))=m1:=(by omega);go_roundw;case rel=>exact uY HN.o (by split<;>omega) (by omega) (by omega) (by omega)
       case measure=>simp[intOf];omega
     by_cases hop7:x.op=7
     ·have hop:=hop7;clear hop7;have hg:isG x:= .inr hop;have hto:=rW hE hg;have cB:=pY L x.to (hAt l j+1) w wI hmI;have he0:eff x=0:=(by unfold eff;rw[aw (by omega),aw (by omega)]);have hm8: ¬x.op=8:=(by omega);rw[aw hm8]at hm1 hs1;have hob6:(x.op==6)=false:=(by rw[hop];rfl);have hob7:(x.op==7)=true:=(by rw[hop];rfl);cases hag2:agB L x.to (hAt l j+1) with
      |false=>
       obtain⟨v,hv1,hv2⟩:=qY hag2;have HNW:=aY (uX (cs:=cs) (hI.not_two hjx hg hv1 hv2));have HB:=aY hmI.bel;rw[hag2]at cB;clear hag2 hE hh1 hm1 hs1 hI hmI HC HCU HIE HHI HST HTO HOK hjx hv1 hv2 htk HNX hag' hg he0 hm8 hop;generalize hAt l j=hh at*;generalize tk x=tt at*;generalize mxH cs l j=mm at*;generalize stS cs l j=ss at*;go_wp2_with fail;refine cX'.mono ?_;rintro e w1 ⟨rfl,rfl⟩;clear cX';go_wp2_with fail;refine cA.mono ?_;rintro e w1 ⟨rfl,rfl⟩;clear cA;go_wp2_with fail;refine cB.mono ?_;rintro e w1 ⟨rfl,rfl⟩;clear cB;go_wp2_with fail;exact aV (v:= .tuple #[ag 0,ag 0,.bool false]) (by simp[results,results230,go_sem]) rfl ⟨0,0,false,rfl,HNW.o,HB.o⟩
      |true=>
       rw[hag2]at cB;have hI2:=hI.stepG HTO.o hjx hle hag' hg (sJ hag2);obtain⟨ob,hup,hM⟩:=O4 hmI.map x.to (hAt l j+1);have hmN:MmI w (upL L x.to (hAt l j+1)) (sK wI w.heap.size ob):=⟨xV hmI.bel (aA _) ob,hM,(xW ob (by omega)).trans hmI.var⟩
       have HN:=aY (HNX.o _ _ hI2 hmN);have zv:=ak 0 hmI.var;clear hag2 hE hI hmI HC HCU HIE HHI HST HTO HOK hjx htk HNX hag' hg hm8 hop hI2 hM hmN;rw[he0]at hh1 cX';generalize hAt l (j+1)=h1 at*;generalize mxH cs l (j+1)=m1 at*;generalize stS cs l (j+1)=s1 at*;generalize hAt l j=hh at*;generalize mxH cs l j=mm at*;generalize stS cs l j=ss at*;generalize tk x=tt at*;go_wp2_with fail;refine cX'.mono ?_;rintro e w1 ⟨rfl,rfl⟩;clear cX';go_wp2_with fail;refine cA.mono ?_;rintro e w1 ⟨rfl,rfl⟩;clear cA;go_wp2_with fail;refine cB.mono ?_;rintro e w1 ⟨rfl,rfl⟩;clear cB;go_wp2_with fail;have e1:hh+(tt+0-tt)=h1:=(by omega);have e2:max mm (hh+(tt+0-tt))=m1:=(by omega);go_roundw;case rel=>exact uY HN.o (by split<;>omega) (by omega) (by omega) (by omega)
       case measure=>simp[intOf];omega
     by_cases hop8:x.op=8
     ·have hop:=hop8;clear hop8 hop7;have hca:=wi hE hop;obtain⟨an,han⟩: ∃an:Nat,x.a=(an:Int):=⟨x.a.toNat,by omega⟩
      have hanl:an<cs.length:=(by omega);have ha0:(0:Int)<=(an:Int):=(by omega);have ha1:(an:Int)<(cs.length:Int):=(by omega);obtain⟨u,hu⟩: ∃u,cs[an]? =some u:=⟨cs[an],ay hanl⟩
      obtain⟨su,_,g3,o3,hpe,k0,k1,k2⟩:=HC.o an _ hu;subst hpe;have q1:=aj hmI.bel k1;have q2:=aj hmI.bel k2;have v1:=HHI.o an;have v2:=HST.o an;have v3:=(jr (HOK.o an _ hu)).2.1.1.1;rw[ax hop,show x.a.toNat=an by omega]at hm1 hs1;rw[i8 hu]at hm1 hs1 v1 v2;obtain⟨v2a,v2b⟩:=v2;have he0:eff x=1:=(by unfold eff;rw[ax (.inr hop)]);have hob6:(x.op==6)=false:=(by rw[hop];rfl);have hob7:(x.op==7)=false:=(by rw[hop];rfl);have hob8:(x.op==8)=true:=(by rw[hop];rfl);have hng: ¬isG x:=(by unfold isG;omega);have hI2:=hI.step HTO.o hjx hle hag' hng;have HN:=aY (HNX.o _ _ hI2 hmI);rw[han]at z1;clear han hca;clear hE hI hmI HC HCU HIE HHI HST HTO HOK hjx htk HNX hag' hop hI2 hng k0 k1 k2 hu;rw[he0]at hh1 cX';clear he0;generalize u.high=uh at*;generalize u.steps=us at*;generalize hAt l (j+1)=h1 at*;generalize mxH cs l (j+1)=m1 at*;generalize stS cs l (j+1)=s1 at*;generalize hAt l j=hh at*;generalize mxH cs l j=mm at*;generalize stS cs l j=ss at*;generalize tk x=tt at*;go_wp2_with fail;refine cX'.mono ?_;rintro e w1 ⟨rfl,rfl⟩;clear cX';go_wp2_with fail;refine cA.mono ?_;rintro e w1 ⟨rfl,rfl⟩;clear cA;go_wp2_with fail;go_roundw;case rel=>exact uY HN.o (by repeat (first|omega|split)) (by omega) (by omega) (by omega)
      case measure=>simp[intOf];omega
     ·have hob6:(x.op==6)=false:=ba.2 hop;have hob7:(x.op==7)=false:=ba.2 hop7;have hob8:(x.op==8)=false:=ba.2 hop8;rw[aw hop8]at hm1 hs1;have hng: ¬isG x:=(by unfold isG;omega);have hI2:=hI.step HTO.o hjx hle hag' hng;have HN:=aY (HNX.o _ _ hI2 hmI);clear hE hI hmI HC HCU HIE HHI HST HTO HOK hjx htk HNX hag' hop hop7 hop8 hI2 hng;generalize hAt l (j+1)=h1 at*;generalize mxH cs l (j+1)=m1 at*;generalize stS cs l (j+1)=s1 at*;generalize hAt l j=hh at*;generalize mxH cs l j=mm at*;generalize stS cs l j=ss at*;generalize tk x=tt at*;generalize eff x=ee at*;go_wp2_with fail;refine cX'.mono ?_;rintro e w1 ⟨rfl,rfl⟩;clear cX';go_wp2_with fail;refine cA.mono ?_;rintro e w1 ⟨rfl,rfl⟩;clear cA;go_wp2_with fail;go_roundw;case rel=>exact uY HN.o (by repeat (first|omega|split)) (by omega) (by omega) (by omega)
      case measure=>simp[intOf];omega
  ·have hlt': ¬(j:Int)<(l.length:Int):=(by omega);have ej:j=l.length:=(by omega);subst ej;have cA:=pY L (l.length:Int) (hAt l l.length) w wr hm;by_cases hfin:hAt l l.length=1
   ·have HU:RJ (Gi cs l (mxH cs l l.length) ((l.length:Int)+(stS cs l l.length-(l.length:Int))) (agB L (l.length:Int) (hAt l l.length))):=by
     refine⟨?_,fun _=>⟨rfl,by omega⟩⟩;rw[NC,<-hI.fin HTO.o];exact⟨fun e=>⟨hfin,e⟩,fun e=>e.2⟩
    have HB:=aY hm.bel;clear hI hm HC HCU HIE HHI HST HTO HOK;rw[hfin]at cA HU⊢;generalize mxH cs l l.length=mm at*;generalize stS cs l l.length=ss at*;generalize agB L (l.length:Int) 1=ok at*;go_wp2_with fail;refine cA.mono ?_;rintro e w1 ⟨rfl,rfl⟩;clear cA;go_wp2_with fail;exact aV (v:= .tuple #[ag mm,ag ((l.length:Int)+(ss-(l.length:Int))),.bool ok]) (by simp[results,results230,go_sem]) rfl ⟨_,_,_,rfl,HU.o,HB.o⟩
   ·have hfb:(hAt l l.length==1)=false:=ba.2 hfin;have HU:RJ (Gi cs l (mxH cs l l.length) ((l.length:Int)+(stS cs l l.length-(l.length:Int))) false):=⟨⟨fun e=>(by cases e),fun e=>absurd e.fin hfin⟩,fun e=>(by cases e)⟩
    have HB:=aY hm.bel;clear hI hm HC HCU HIE HHI HST HTO HOK cA;generalize mxH cs l l.length=mm at*;generalize stS cs l l.length=ss at*;generalize hAt l l.length=hh at*;go_wp2_with fail;exact aV (v:= .tuple #[ag mm,ag ((l.length:Int)+(ss-(l.length:Int))),.bool false]) (by simp[results,results230,go_sem]) rfl ⟨_,_,_,rfl,HU.o,HB.o⟩
theorem IY (cs:List Cd)(lv:Value)(ri:Nat)(w:World)(h:InV w lv cs)(hok: ∀(i:Nat) (c:Cd),cs[i]? =some c->aloneE c cs.length=0)(hri:ri<cs.length):
  Calls prog 216 #[lv,ag (ri:Int)] w fun e w'=>e= .returned (.bool (oF cs (cs.getD ri cd0)))/\ao w w':=by
 obtain⟨p,cp,elv,hlen,hc⟩:=h.form;obtain⟨u,hu⟩: ∃u,cs[ri]? =some u:=⟨cs[ri],ay hri⟩
 obtain⟨sv,hin,g,o,rfl,e0,e1,e2⟩:=hc ri u hu;have hal:=jr (hok ri u hu);rw[i8 hu];generalize hX:oF cs u=X;have hi0:(0:Int)<=(ri:Int):=by omega
 have hi1:(ri:Int)<(cs.length:Int):=by omega
 obtain⟨ul,hi,st⟩:=u;dsimp only at hin e1 e2 hal;obtain⟨pu,cu,rfl,_,_⟩:=hin.form;have bC:=am w (.cells #[.slice pu ul.length cu,ag hi,ag st] 208);have hxC:=aB w (.cells #[.slice pu ul.length cu,ag hi,ag st] 208);generalize hwC:w.alloc (.cells #[.slice pu ul.length cu,ag hi,ag st] 208)=wC at*;have cM:=CK cs ul lv (.slice pu ul.length cu) wC (h.below bC) (hin.below bC) hok hal.1.2 hal.2.2;subst elv;have z0:=ak 0 hxC;clear h hc hok hin hu hal;go_enter func216,ntmps216;go_wp2_with fail;refine cM.mono ?_;rintro e w1 ⟨hh,ss,ok,rfl,hU,b1⟩;have hxC1:=ai b1 hxC;have z1:=ak 1 hxC1;have z2:=ak 2 hxC1;have hb:=au bC b1;clear cM b1 bC hxC hxC1 z0 hwC e0 e1 e2
 have hX2:X=(ok&&(decide (hh=hi)&&decide (ss=st))):=by
  obtain⟨u1,u2⟩:=hU;subst hX;cases ok with
  |false=>
   cases hf:oF cs ⟨ul,hi,st⟩ with
   |false=>rfl
   |true=>exact absurd (u1.2 (mI.1 hf).well) (by simp)
  |true=>
   obtain⟨rfl,rfl⟩:=u2 rfl;by_cases h1:mxH cs ul ul.length=hi
   ·by_cases h2:stS cs ul ul.length=st
    ·rw[a6 h1,a6 h2];exact mI.2 ⟨u1.1 rfl,h1,h2⟩
    ·rw[bh h2];simp only[iE];cases hf:oF cs ⟨ul,hi,st⟩ with
     |false=>rfl
     |true=>exact absurd (mI.1 hf).steps h2
   ·rw[bh h1];simp only[Bool.false_and,iE];cases hf:oF cs ⟨ul,hi,st⟩ with
    |false=>rfl
    |true=>exact absurd (mI.1 hf).high h1
 clear hX hU;cases ok with
 |false=>
  have hX3:X=false:=hX2;subst hX3;clear hX2;go_wp2_with fail;go_ret;exact⟨rfl,hb⟩
 |true=>
  by_cases h1:hh=hi
  ·by_cases h2:ss=st
   ·rw[a6 h1,a6 h2]at hX2;have hX3:X=true:=hX2;subst hX3 h1 h2;clear hX2;go_wp2_with fail;go_ret;exact⟨rfl,hb⟩
   ·rw[a6 h1,bh h2]at hX2;have hX3:X=false:=hX2;subst hX3 h1;have hb2:(ss==st)=false:=ba.2 h2;clear hX2 h2;go_wp2_with fail;go_ret;exact⟨rfl,hb⟩
  ·rw[bh h1]at hX2;have hX3:X=false:=(by rw[hX2];simp);subst hX3;have hb1:(hh==hi)=false:=ba.2 h1;clear hX2 h1;go_wp2_with fail;go_ret;exact⟨rfl,hb⟩
theorem Gk (cs:List Cd)(lv:Value)(gr gR gl ri:Nat)(w:World)(h:InV w lv cs)(hr:w.cell? (ae gr 0)=some (.slice (some (ae gR 0)) cs.length cs.length))(hR:w.heap[gR]? =ah (iJ cs.length (wars (gg cs) cs.length)) 59)
  (hl:w.cell? (ae gl 0)=some lv) (h40:cs.length<=40) (hok: ∀(i:Nat) (c:Cd),cs[i]? =some c->aloneE c cs.length=0) (hri:ri<cs.length):
  Calls prog 214 #[ag (ri:Int),ab gr 0,ab gl 0] w fun e w'=>e= .returned (ag (pX cs ri))/\ao w w':=by
 have rc:=(aX _ _ ri _ _ _ hR).trans (Ay hri);have cH:=ES (wars (gg cs) cs.length ri) ri (by omega) w;have cF:=IY cs lv ri w h hok hri;obtain⟨p,cp,rfl,hlen,hc⟩:=h.form;have hi0:(0:Int)<=(ri:Int):=by omega
 have hi1:(ri:Int)<(cs.length:Int):=by omega
 generalize hX:pX cs ri=X;unfold pX at hX;clear h hc hok hR;generalize hb:wars (gg cs) cs.length ri ri=b at*;generalize hf:oF cs (cs.getD ri cd0)=f at*;cases b with
 |true=>
  rw[ax rfl]at hX;subst hX;clear cF hb hf;generalize wars (gg cs) cs.length ri=W at*;go_enter func214,ntmps214;go_wp2_with fail;refine cH.mono ?_;rintro e w1 ⟨rfl,rfl⟩;clear cH;go_wp2_with fail;go_ret;exact⟨rfl,aH _ _⟩
 |false=>
  rw[aw (by simp)]at hX;clear hb hf;generalize wars (gg cs) cs.length ri=W at*;cases f with
  |true=>
   rw[ax rfl]at hX;subst hX;go_enter func214,ntmps214;go_wp2_with fail;refine cH.mono ?_;rintro e w1 ⟨rfl,rfl⟩;clear cH;go_wp2_with fail;refine cF.mono ?_;rintro e w2 ⟨rfl,hb2⟩;clear cF;go_wp2_with fail;go_ret;exact⟨rfl,hb2⟩
  |false=>
   rw[aw (by simp)]at hX;subst hX;go_enter func214,ntmps214;go_wp2_with fail;refine cH.mono ?_;rintro e w1 ⟨rfl,rfl⟩;clear cH;go_wp2_with fail;refine cF.mono ?_;rintro e w2 ⟨rfl,hb2⟩;clear cF;go_wp2_with fail;go_ret;exact⟨rfl,hb2⟩
theorem Gl (cs:List Cd)(lv:Value)(w:World)(h:InV w lv cs):
  Calls prog 200 #[lv] w fun e w'=>e= .returned (.agg #[ag (jH cs).1,ag ((jH cs).2:Int)])/\ao w w':=by
 obtain⟨p,cp,elv,hlen,hc⟩:=h.form;generalize hX:jH cs=X;unfold jH at hX;have bA:ao w ((w.alloc (.cells #[lv] 90)).alloc (.cells #[ag 0,ag 0] 47)):=(am _ _).alloc (by simp) _;have hl0:((w.alloc (.cells #[lv] 90)).alloc (.cells #[ag 0,ag 0] 47)).heap[w.heap.size]? =ah #[lv] 90:=by(repeat (first|refine dc _ _ _ (by simp only[aP];omega) ?_|exact dr _ _ _ (by first|rfl|simp only[aP])))
 have hr0:((w.alloc (.cells #[lv] 90)).alloc (.cells #[ag 0,ag 0] 47)).heap[w.heap.size+1]? =ah #[ag 0,ag 0] 47:=by(repeat (first|refine dc _ _ _ (by simp only[aP];omega) ?_|exact dr _ _ _ (by first|rfl|simp only[aP])))
 generalize hwA:(w.alloc (.cells #[lv] 90)).alloc (.cells #[ag 0,ag 0] 47)=wA at*;have z0:=ak 0 hl0;have hn0:(0:Int)<=(cs.length:Int):=by omega
 have hmf: ∀(fn:Fn) (first cap:Array Value) (w:World),(Instr.makeFunc fn first cap).run prog w= .ok (.func fn first cap) w:=fun _ _ _ _=>rfl;by_cases hm:40<cs.length
 ·have hm':(40:Int)<(cs.length:Int):=by omega
  rw[ax hm]at hX;subst hX elv;clear h hc;go_enter func200,ntmps200;go_wp2_with(refine az rfl 47 _ _ rfl _ _ rfl rfl _ _ hr0 (by kernel_rfl) (by simp) (by simp[Value.oneCell']) ?_)
  exact qK 2 (by kernel_rfl) (w.heap.size+1) 5 0 rfl rfl (aL _ _ _ _ _ _ hr0) ⟨rfl,below_setRow bA (by omega) _⟩
 ·have hm': ¬(40:Int)<(cs.length:Int):=by omega
  rw[aw hm]at hX
  have c1:=rY (fun i=>aloneE (cs.getD i cd0) cs.length) cs.length 211 #[ab w.heap.size 0] p cp wA hlen (fun _ _=>by simp[go_sem]) fun i wr hi hb=>by
   exact Gc cs lv w.heap.size i wr ((h.below bA).below hb) (aj hb z0) hi
  rw[<-elv]at c1;by_cases he:(gI (fun i=>aloneE (cs.getD i cd0) cs.length) cs.length 0).1=0
  ·rw[aw (fun e=>e he)]at hX;obtain⟨hf0,hf1⟩:=pD _ _ he;rw[hf0]at c1
   have hok: ∀(i:Nat) (c:Cd),cs[i]? =some c->aloneE c cs.length=0:=fun i c hi=>by
    have:=hf1 i (by omega) (by have:=(aD.1 hi).1;omega);rw[i8 hi]at this;exact this
   have HOK:=aY hok;have HIN:=aY h;have HX:=aY hX;have HELV:=aY elv;have sv1: ∃p c,lv= .slice p cs.length c:=⟨p,cp,elv⟩
   clear he hf0 hf1 hok h hc hX;subst elv;go_enter func200,ntmps200;go_wp2_with fail;refine c1.mono ?_;rintro e w1 ⟨rfl,hb1⟩;dsimp only;have b1:=au bA hb1;have hl1:=ai hb1 hl0;have hr1:=ai hb1 hr0;have bF0:=am w1 (.cells #[ag 0,ag 0] 47);have nF0:=aB w1 (.cells #[ag 0,ag 0] 47);generalize hw1:w1.alloc (.cells #[ag 0,ag 0] 47)=w1a at*;have bF:=below_setRow bF0 (aA _) #[ag 0,ag 0];have nF:=aL _ _ _ #[ag 0,ag 0] _ _ nF0;have hl2:=ai bF hl1;have hr2:=ai bF hr1;have b2:=au b1 bF;generalize hw2:w1a.setRow w1.heap.size #[ag 0,ag 0]=w2 at*;have z2:=ak 0 hl2;have zF:=ak 0 nF;have c2:=CJ cs _ w2 (HIN.o.below b2) (by omega) HOK.o;clear c1 hb1 hl1 hr1 bF hl0 hr0 z0 hwA bA b1 bF0;go_wp2_with(refine az rfl 47 _ _ rfl _ _ rfl rfl _ _ nF0 (by kernel_rfl) (by simp) (by simp[Value.oneCell']) ?_)
   refine c2.mono ?_;rintro e w3 ⟨rfl,hU⟩;have hl3:=ai hU.bel hl2;have hr3:=ai hU.bel hr2;have b3:=au b2 hU.bel;have bR:=am w3 (.cells #[.slice (some (ae w2.heap.size 0)) cs.length cs.length] 268);have nR:=aB w3 (.cells #[.slice (some (ae w2.heap.size 0)) cs.length cs.length] 268);have hl4:=ai bR hl3;have hr4:=ai bR hr3;have hU4:=ai bR hU.row;have b4:=au b3 bR;generalize hw4:w3.alloc (.cells #[.slice (some (ae w2.heap.size 0)) cs.length cs.length] 268)=w4 at*;have z4:=ak 0 hl4;have zR:=ak 0 nR
   have c3:=rY (pX cs) cs.length 214 #[ab w3.heap.size 0,ab w.heap.size 0] p cp w4 hlen (fun _ _=>by simp[go_sem]) fun i wr hi hb=>by
    exact Gk cs _ w3.heap.size w2.heap.size w.heap.size i wr ((HIN.o.below b4).below hb) (aj hb zR) (ai hb hU4) (aj hb z4) (by omega) HOK.o hi
   rw[HX.o]at c3;clear c2 hU hl2 hr2 z2 zF nF nF0 hw1 b2 b3 bR hl3 hr3 hw2 hl4 hU4 nR HX;go_wp2_with fail;refine c3.mono ?_;rintro e w5 ⟨rfl,hb5⟩;have hr5:=ai hb5 hr4;have b5:=au b4 hb5;clear c3 hb5 hr4 b4 z4 zR hw4;go_wp2_with(refine az rfl 47 _ _ rfl _ _ rfl rfl _ _ hr5 (by kernel_rfl) (by simp) (by simp[Value.oneCell']) ?_)
   exact qK 2 (by kernel_rfl) (w.heap.size+1) X.1 (X.2:Int) rfl rfl (aL _ _ _ _ _ _ hr5) ⟨rfl,below_setRow b5 (by omega) _⟩
  ·rw[ax he]at hX;rw[hX]at he c1;obtain⟨xe,xa⟩:=X;dsimp only at he c1⊢;have hb0:(xe==0)=false:=ba.2 he;have hbn:(xe !=0)=true:=(by simpa using he);clear he h hc hX;subst elv;go_enter func200,ntmps200;go_wp2_with fail;refine c1.mono ?_;rintro e w1 ⟨rfl,hb1⟩;have b1:=au bA hb1;have hr1:=ai hb1 hr0;have bF:=am w1 (.cells #[ag xe,ag (xa:Int)] 47);have nF:=aB w1 (.cells #[ag xe,ag (xa:Int)] 47);have hr2:=ai bF hr1;have b2:=au b1 bF;generalize hw2:w1.alloc (.cells #[ag xe,ag (xa:Int)] 47)=w2 at*;have zF:=ak 0 nF;clear c1 hb1 hr1 bF hl0 hr0 z0 hwA bA b1
   go_wp2_with(first
    |(refine aR rfl 47 _ rfl _ rfl _ _ _ _ nF me rfl (by kernel_rfl) ?_)
    |(refine az rfl 47 _ _ rfl _ _ rfl rfl _ _ hr2 (by kernel_rfl) (by simp) (by simp[Value.oneCell']) ?_))
   exact qK 2 (by kernel_rfl) (w.heap.size+1) xe (xa:Int) rfl rfl (aL _ _ _ _ _ _ hr2) ⟨rfl,below_setRow b2 (by omega) _⟩
def eqm (f g:Nat->Bool):Bool:=(List.range 23).all fun k=>wd f k==wd g k
theorem CL {f g:Nat->Bool}(h: ∀i,i<1472->f i=g i):eqm f g=true:=by
 unfold eqm;rw[cZ];intro k hk;have hk':k<23:=by simpa using hk
 rw[mY (f:=f) (g:=g) fun j hj=>h _ (by omega)];simp
theorem Ld {f g:Nat->Bool}(h:eqm f g=true)(i:Nat)(hi:i<1472):f i=g i:=by
 unfold eqm at h;rw[cZ]at h;have h1:=h (i/64) (by simp;omega);have h2:=OB (by simpa using h1) (i%64) (by omega);have e:64*(i/64)+i%64=i:=by omega
 rw[e]at h2;exact h2
theorem ET: ∃i,prog.info? 59=some i/\prog.cellsOf 59=1:=⟨_,rfl,by kernel_rfl⟩
theorem EU:prog.underlying 59=some (.int .u64):=by kernel_rfl
theorem zn (f:Nat->Bool)(k:Nat)(hk:k<23)(w:World):(Go.part 59 (mv f) (k*1)).run prog w= .ok (.int .u64 (wd f k:Int)) w:=by
 simp[Go.part,isAgg,fU EU,pj f k hk]
theorem xX (f g:Nat->Bool)(w:World)(d:Nat): ∀l:List Nat,(∀k∈l,k<23)->(Op.eqItems (d+1) 59 1 (mv f) (mv g) l).run prog w= .ok (l.all fun k=>wd f k==wd g k) w
 |[],_=>by simp[Op.eqItems]
 |k::l,h=>by
  have ih:=xX f g w d l fun j hj=>h j (by simp[hj]);have hk:=h k (by simp);simp only[Op.eqItems,iq,zn f k hk,zn g k hk,fB,run_equalIn_int w d 59 .u64 .u64 _ _ EU,List.all_cons]
  have e:(((wd f k:Nat):Int)==((wd g k:Nat):Int))=(wd f k==wd g k):=by
   rw[Bool.eq_iff_iff];simp only[beq_iff_eq];omega
  rw[e];cases(wd f k==wd g k)
  ·simp
  ·simpa using ih
theorem zo (f g:Nat->Bool)(w:World):(Op.equalIn 10000 61 (.agg (mv f)) (.agg (mv g))).run prog w= .ok (eqm f g) w:=by
 obtain⟨i,hi,hc⟩:=ET;rw[run_equalIn_array w 9999 (mv f) (mv g) bQ hi,hc];exact xX f g w 9998 _ fun k hk=>by simpa using hk
theorem Le (f g:Nat->Bool)(w:World):(binOp .eql 61 (.agg (mv f)) (.agg (mv g))).run prog w= .ok (.bool (eqm f g)) w:=by
 rw[run_eql_struct,zo];rfl
theorem Gm (f:Nat->Bool)(k:Nat)(hk:k<23)(w:World):(Instr.index 61 (.agg (mv f)) (ag (k:Int))).run prog w= .ok (.int .u64 (wd f k:Int)) w:=by
 obtain⟨i,hi,hc⟩:=ET;have hs:(sizeOf 59).run prog w= .ok 1 w:=by rw[run_sizeOf w hi,hc]
 have h0:(0:Int)<=(k:Int)/\(k:Int)<(23:Nat):=by omega
 have hp:=zn f k hk w;simp only[Instr.index,asIntOf,iq,jp,fB,fU bQ];rw[ax h0];simp only[iq,hs,fB,cj];exact hp
theorem IZ (f:Nat->Bool)(w:World):
  Calls prog 18 #[.agg (mv f)] w fun e w'=>e= .returned (ag ((cnt f 1440:Nat):Int))/\ao w w':=by
 have h1:(w.alloc (.cells (mv f) 61)).heap[w.heap.size]? =ah (mv f) 61:=by(repeat (first|refine dc _ _ _ (by simp only[aP];omega) ?_|exact dr _ _ _ (by first|rfl|simp only[aP])))
 have hb0:ao w (w.alloc (.cells (mv f) 61)):=am _ _;go_enter func18,ntmps18
 go_wp2_with(first
  |(refine aR rfl 61 _ rfl _ rfl _ _ _ _ h1 bQ rfl (a7 _) ?_)
  |(go_at_call 30;refine(sm _ _).mono ?_;rintro e w' ⟨rfl,hb'⟩))
 go_loop [3,8] (fun n i=> ∃k:Nat,k<=23/\i=ag k/\n=ag ((cnt (fun i=>f i&&decide (i<1440)) (64*k):Nat):Int)) (fun _ i=>23-(intOf i).toNat);case atStart=>exact⟨0,by omega,rfl,rfl⟩
 case round=>
  obtain⟨k,hk,rfl,rfl⟩:=hrel;have hn:=BU (fun i=>f i&&decide (i<1440)) (64*k);by_cases hlt:k<23
  ·have hx:=Gm (fun i=>f i&&decide (i<1440)) k hlt;have hs:=rS (fun i=>f i&&decide (i<1440)) (64*k) 64;have hw:=Kn (fun i=>f i&&decide (i<1440)) k;have hl:=gO (fun i=>f i&&decide (i<1440)) k;have hc:=BU (fun j=>(wd (fun i=>f i&&decide (i<1440)) k).testBit j) 64
   have HS:RJ (cnt (fun i=>f i&&decide (i<1440)) (64*(k+1))=cnt (fun i=>f i&&decide (i<1440)) (64*k)+cnt (fun j=>(wd (fun i=>f i&&decide (i<1440)) k).testBit j) 64):=by
    rw[hw,<-hs];rfl
   clear hs hw;go_wp2_with(go_at_call 31;refine(MS _ hl _).mono ?_;rintro e w' ⟨rfl,rfl⟩)
   go_round;case rel=>exact⟨k+1,by omega,by go_num,by rw[HS.o];go_num⟩
   case measure=>simp[intOf];omega
  ·have:k=23:=(by omega);subst this
   have e:cnt (fun i=>f i&&decide (i<1440)) (64*23)=cnt f 1440:=by
    have h1:=rS (fun i=>f i&&decide (i<1440)) 1440 32
    have h2:cnt (fun j=>f (1440+j)&&decide (1440+j<1440)) 32=0:=tE fun j _=>by
     have: ¬1440+j<1440:=(by omega);simp[this]
    rw[h2]at h1;have h3:cnt (fun i=>f i&&decide (i<1440)) 1440=cnt f 1440:=rR fun i hi=>(by simp[hi]);rw[h3]at h1;have h4:64*23=1440+32:=rfl;rw[h4,h1,Nat.add_zero]
   have HE:RJ (cnt (fun i=>f i&&decide (i<1440)) (64*23)=cnt f 1440):=e;clear e;go_wp2;go_ret;exact⟨qp (rT (by rw[<-HE.o])),au hb0 hb'⟩
theorem O5 (f:Nat->Bool)(W:World):(Instr.buildSlice 55 1 #[(0,.agg (mv f))]).run prog W= .ok (.slice (some (ae W.heap.size 0)) 1 1) (W.alloc (.cells (mv f) 61)):=by
 kernel_rfl
theorem I0 {o:Oper}{a:Act}{w:World}{K:Act->World->Prop}{Q:Exit->Act->World->Prop}(x:Operand)(ho:o.op= .buildSlice 55 1 #[(0,x)])(f:Nat->Bool)(hx:a.eval x= .agg (mv f))
  (h:K (a.put o.dst (.slice (some (ae w.heap.size 0)) 1 1)) (w.alloc (.cells (mv f) 61))):o.wp prog a w K Q:=by
 unfold Oper.wp execOp;have hb:=O5 f w;simp only[ho,hx,iA,bV,dU,iq,jp,fB,hb];exact h
end Go.Proofs.YtjkilacmkbmmbaaGreatDoor
