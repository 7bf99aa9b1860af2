/- Texts of the proof. -/
import Derived.Test.YtkfidffapdhbhaaGreatDoorPh06
import Derived.Test.YtkfidffapdhbhaaGreatDoorPh03
set_option maxRecDepth 100000
set_option maxHeartbeats 8000000
namespace Go.Proofs.YtkfidffapdhbhaaGreatDoor
open Go.Proofs.Tryz Go.RowKit Lx Vx Mx Msk
theorem AE:prog.underlying 276=some (.map 3 3):=by kernel_rfl
theorem uE:prog.underlying 3=some (.int .i64):=by kernel_rfl
def kv9 (e:MapEntry):Value×Value:=(e.key,e.val)
def tA (L:List (Int×Int)):List (Value×Value):=L.map fun n=>(ag n.1,ag n.2)
def tB (w:World)(b:Nat)(L:List (Int×Int)):Prop:= ∃es c,w.heap[b]? =some (.map es c)/\es.toList.map kv9=tA L
theorem tB.later {w w':World}{b:Nat}{L:List (Int×Int)}(h:tB w b L)(hk:w'.heap[b]? =w.heap[b]?):tB w' b L:=by
 obtain⟨es,c,h1,h2⟩:=h;exact⟨es,c,hk.trans h1,h2⟩
theorem ET {w:World}{b:Nat}{L:List (Int×Int)}(h:tB w b L):b<w.heap.size:=by
 obtain⟨es,c,h1,_⟩:=h;exact(dg.1 h1).1
theorem EU (k:Int): ∀(es:List MapEntry) (L:List (Int×Int)) (i:Nat),es.map kv9=tA L->(∃v j,lk L k=some v/\Instr.findNow (.int .i64) (ag k) es i=some (some (i+j,ag v))/\(es[j]?).map kv9=some (ag k,ag v)/\ ∀v',tA (upL L k v')=(es.map kv9).set j (ag k,ag v'))\/(lk L k=none/\Instr.findNow (.int .i64) (ag k) es i=some none/\ ∀v',upL L k v'=L++[(k,v')])
 |[],[],i,_=> .inr ⟨rfl,rfl,fun _=>rfl⟩
 |[],_::_,i,h=>by simp[tA]at h
 |_::_,[],i,h=>by simp[tA]at h
 |e::es,n::L,i,h=>by
  simp only[tA,dH,List.cons.injEq]at h;obtain⟨h1,h2⟩:=h;have hk:e.key=ag n.1:=congrArg Prod.fst h1;have hv:e.val=ag n.2:=congrArg Prod.snd h1;have hs:Instr.sameNow (.int .i64) (ag k) e.key=some (k==n.1):=(by rw[hk];simp[Instr.sameNow]);simp only[Instr.findNow,hs];by_cases e1:k=n.1
  ·left;refine⟨n.2,0,by simp[lk,e1],?_,?_,fun v'=> ?_⟩
   ·simp[e1,hv]
   ·simp only[List.getElem?_cons_zero,Option.map_some,h1,e1]
   ·have hq:es.map kv9=tA L:=h2;simp only[upL,aD e1,dH,aJ,hq];rfl
  ·have e2:(k==n.1)=false:=(by simpa using e1);rw[e2];rcases EU k es L (i+1) h2 with⟨v,j,m,f,g,q⟩|⟨m,f,q⟩
   ·left;refine⟨v,j+1,by simp[lk,e1,m],by rw[show i+(j+1)=i+1+j by omega];exact f,by simpa using g,fun v'=> ?_⟩;simp only[upL,ax e1,dH,aK,<-q v',h1];rfl
   ·right;refine⟨by simp[lk,e1,m],f,fun v'=> ?_⟩;simp only[upL,ax e1,q v',List.cons_append]
theorem OE {w:World}{b:Nat}{L:List (Int×Int)}(h:tB w b L)(k:Int):(Instr.lookup 276 (.map (some b)) (ag k) true).run prog w= .ok (.tuple #[ag ((lk L k).getD 0),.bool (lk L k).isSome]) w:=by
 obtain⟨es,c,hb,hE⟩:=h;have hc: ∀z,(Instr.checkKey z 10000 3 (ag k)).run prog w= .ok () w:=fun z=>MapKept.run_checkKey (k:=ag k) uE (by simp[MapKept.IsKey]) z 9999;have hz:(zeroValue 3).run prog w= .ok (ag 0) w:=by kernel_rfl
 rcases EU k es.toList L 0 hE with⟨v,j,h1,h2,_,_⟩|⟨h1,h2,_⟩
 ·simp[Instr.lookup,fT AE,fO hb,hc,gG uE h2,Result.andThen,h1]
 ·simp[Instr.lookup,fT AE,fO hb,hc,gG uE h2,hz,Result.andThen,h1]
def si (w:World)(b:Nat)(o:Obj):World:={w with heap:=w.heap.setIfInBounds b o}
theorem xn {r n:Nat}{w0 w:World}(h:Below n w0 w)(hr:n<=r)(o:Obj):Below n w0 (si w r o):=
 ⟨h.os,h.tape,h.output,by simpa[si] using h.size,fun k hk=>by
   rw[<-h.block k hk];show(w.heap.setIfInBounds r o)[k]? =_;rw[dm (by omega)]⟩
theorem xo {r k:Nat}{w:World}(o:Obj)(h:k≠r):(si w r o).heap[k]? =w.heap[k]? :=by
 show(w.heap.setIfInBounds r o)[k]? =_;rw[dm (by omega)]
theorem Nm {w:World}{b:Nat}{L:List (Int×Int)}(h:tB w b L)(k v:Int): ∃o,(Instr.mapUpdate 276 (.map (some b)) (ag k) (ag v)).run prog w= .ok () (si w b o)/\tB (si w b o) b (upL L k v):=by
 obtain⟨es,c,hb,hE⟩:=h;have hc:(Instr.checkKey false 10000 3 (ag k)).run prog w= .ok () w:=MapKept.run_checkKey (k:=ag k) uE (by simp[MapKept.IsKey]) false 9999;rcases EU k es.toList L 0 hE with⟨v0,j,h1,h2,h3,h4⟩|⟨h1,h2,h4⟩
 ·have hks:(Instr.keyThatStays (ag k) (ag k)).run prog w= .ok (ag k) w:=MapKept.run_keyThatStays (d:= .int .i64) (by simp[MapKept.IsKey])
  have hold:(Option.map (fun x=>x.key) es[j]?).getD (ag k)=ag k:=by
   rw[bp]at h3;cases he:es[j]? with
   |none=>rfl
   |some e=>
    rw[he]at h3;simp[kv9]at h3;simp[h3.1]
  refine⟨.map (es.modify j fun e=>{e with key:=ag k,val:=ag v}) c,?_,_,c,(MapKept.heap_set hb).1,?_⟩
  ·rw[bN]at h2;simp[Instr.mapUpdate,fT AE,fO hb,hc,gG uE h2,hold,hks,MapKept.run_setObj_map _ hb,Result.andThen,si]
  ·rw[h4 v];rw[bp]at h3;apply List.ext_getElem?;intro q;simp only[bg,bp,Array.getElem?_modify,List.getElem?_set];by_cases eq:j=q
   ·subst eq;rw[aD rfl,aD rfl];cases he:es[j]? with
    |none=>rw[he]at h3;simp at h3
    |some e=>
     have hj:j<es.size:=(dg.1 he).1;simp[kv9,hj]
   ·rw[ax eq,ax eq]
 ·refine⟨.map (es.push ⟨ag k,ag v,c⟩) (c+1),?_,_,c+1,(MapKept.heap_set hb).1,?_⟩
  ·simp[Instr.mapUpdate,fT AE,fO hb,hc,gG uE h2,MapKept.run_setObj_map _ hb,Result.andThen,si]
  ·rw[h4 v,Array.toList_push,dT,hE];simp[tA,kv9]
theorem OF (w:World):(Instr.makeMap 276 none).run prog w= .ok (.map (some w.heap.size)) (w.alloc (.map #[] 0)):=by
 unfold Instr.makeMap;simp[go_sem]
structure MmI (w:World)(L:List (Int×Int))(W:World):Prop where
 bel:aq w W
 map:tB W w.heap.size L
 var:W.heap[w.heap.size+1]? =ah #[.map (some w.heap.size)] 276
theorem MmI.below {w W W':World}{L:List (Int×Int)}(h:MmI w L W)(hb:aq W W'):MmI w L W':=
 ⟨aw h.bel hb,h.map.later (hb.block _ (ET h.map)),ai hb h.var⟩
theorem pJ (L:List (Int×Int))(p h:Int)(w W:World)(hm:MmI w L W):Calls prog 208 #[ag p,ag h,ab (w.heap.size+1) 0] W fun e w'=>e= .returned (.bool (agB L p h))/\w'=W:=by
 have hlk:=OE hm.map p;have z:=ak 0 hm.var;generalize hX:agB L p h=X;unfold agB at hX;clear hm;cases hl:lk L p with
 |none=>
  rw[hl]at hlk hX;have hlk':(Instr.lookup 276 (.map (some w.heap.size)) (ag p) true).run prog W= .ok (.tuple #[ag 0,.bool false]) W:=hlk;dsimp only at hX;subst hX;clear hlk hl;go_enter func208,ntmps208;go_wp2_with fail;go_ret;exact⟨rfl,rfl⟩
 |some v=>
  rw[hl]at hlk hX;have hlk':(Instr.lookup 276 (.map (some w.heap.size)) (ag p) true).run prog W= .ok (.tuple #[ag v,.bool true]) W:=hlk;dsimp only at hX;have hX':(v==h)=X:=(by rw[<-hX];rfl);clear hlk hl hX;go_enter func208,ntmps208;go_wp2_with fail;go_ret;exact⟨rfl,rfl⟩
def EV (cs:List Cd)(l:List In)(h s:Int)(ok:Bool):Prop:=(ok=true↔lZ l)/\(ok=true->h=mxH cs l l.length/\s=stS cs l l.length)
def OG (cs:List Cd)(l:List In)(w:World)(e:Ending)(w':World):Prop:= ∃(h s:Int) (ok:Bool),e= .returned (.tuple #[ag h,ag s,.bool ok])/\EV cs l h s ok/\aq w w'
theorem uF {cs:List Cd}{l:List In}(h: ¬lZ l):EV cs l 0 0 false:=⟨⟨fun e=>(by cases e),fun e=>absurd e h⟩,fun e=>(by cases e)⟩
def EW (cs:List Cd)(l:List In)(w:World)(t4 t5 t7 t20:Value)(wr:World):Prop:= ∃(j:Nat) (L:List (Int×Int)),t20=ag (j:Int)/\j<=l.length/\t7=ag (hAt l j)/\t4=ag (mxH cs l j)/\t5=ag ((l.length:Int)+(stS cs l j-j))/\lP l j L/\MmI w L wr
theorem uG {cs:List Cd}{l:List In}{w W:World}{a b c d a' b' c' d':Int}(h:EW cs l w (ag a) (ag b) (ag c) (ag d) W)(e1:a'=a)(e2:b'=b)(e3:c'=c)(e4:d'=d):EW cs l w (ag a') (ag b') (ag c') (ag d') W:=by
 subst e1 e2 e3 e4;exact h
theorem BA (cs:List Cd)(l:List In)(lv sv:Value)(w:World)(h:InV w lv cs)(hs:oR w sv l)(hok: ∀(i:Nat) (c:Cd),cs[i]? =some c->aloneE c cs.length=0)(hln:l.length<=2000)(hie: ∀(j:Nat) (x:In),l[j]? =some x->fP x j l.length cs.length=0):
  Calls prog 185 #[lv,sv] w (OG cs l w):=by
 obtain⟨p,cp,rfl,hlen,hc⟩:=h.form;obtain⟨pu,cu,rfl,hlu,hcu⟩:=hs.form;have HC:=a8 hc;have HCU:=a8 hcu;have HIE:=a8 hie;have HHI:=a8 (LO hok);have HOK:=a8 hok;have HST:=a8 (JE hok);have HTO:PH (Tos l):=fun j x hx hg=>rI (hie j x hx) hg;have b1:=am w (.map #[] 0);have b2:=b1.alloc b1.size (.cells #[.map (some w.heap.size)] 276);have hmk:=OF w;have s1:(w.alloc (.map #[] 0)).heap.size=w.heap.size+1:=by simp
 have hst:MmI w [] ((w.alloc (.map #[] 0)).alloc (.cells #[.map (some w.heap.size)] 276)):=by
  refine⟨b2,⟨#[],0,(dJ _ _ _ (by rw[s1];omega)).trans (aE w _),rfl⟩,?_⟩;have:=aE (w.alloc (.map #[] 0)) (.cells #[.map (some w.heap.size)] 276);rw[s1]at this;exact this
 have hl0:(0:Int)<=(l.length:Int):=by omega
 have hl1:(l.length:Int)<=2000:=by omega
 have HSZ:=a8 hst;have hmf: ∀(fn:Fn) (first cap:Array Value) (w:World),(Instr.makeFunc fn first cap).run prog w= .ok (.func fn first cap) w:=fun _ _ _ _=>rfl;generalize hwB:(w.alloc (.map #[] 0)).alloc (.cells #[.map (some w.heap.size)] 276)=wB at*;clear h hs hc hcu hok hie b1 b2 hst s1;go_enter func185,ntmps185;go_wp2_with fail;clear hmk hwB;have hst:=HSZ.o;clear HSZ;go_loopw [4,5,7,20] (fun t4 t5 t7 t20 wr=>EW cs l w t4 t5 t7 t20 wr) (fun _ _ _ t _=>l.length-(intOf t).toNat);case atStart=>exact⟨0,[],rfl,by omega,rfl,rfl,by simp[stS],lP.nil l,hst⟩
 case round=>
  obtain⟨j,L,rfl,hj,rfl,rfl,rfl,hI,hm⟩:=hrel;clear hst;have hj0:(0:Int)<=(j:Int):=(by omega);have hb1:=mW (l:=l) j;have hb2:=rL (l:=l) HHI.o j;have hb3:=rN (l:=l) HST.o j;obtain⟨hb1a,hb1b⟩:=hb1;obtain⟨hb2a,hb2b⟩:=hb2;obtain⟨hb3a,hb3b⟩:=hb3;have hjn:(j:Int)<=2000:=(by omega);have hb3c:stS cs l j<=50000000:=(by omega);by_cases hlt:j<l.length
  ·have hlt':(j:Int)<(l.length:Int):=(by omega);obtain⟨x,hjx⟩: ∃x,l[j]? =some x:=⟨l[j],az hlt⟩
   obtain⟨sk,hrow,g2,o2,hpe,e0,e1,e2,e3,e4⟩:=HCU.o j _ hjx;subst hpe;have d0:=aj hm.bel e0;have d1:=aj hm.bel e1;have d2:=aj hm.bel e2;have d3:=aj hm.bel e3;have d4:=aj hm.bel e4;have hE:=HIE.o j _ hjx;have hh1:=jH hjx;have hm1:=kM (cs:=cs) hjx;have hs1:=jX (cs:=cs) hjx;have ht0:=OD x;have hf0:=xm x;have cX:=Bx x;obtain⟨ps,ck,rfl,_,_⟩:=hrow.form;have bI:=am wr (.cells #[ag x.op,ag x.a,ag x.b,ag x.to,.slice ps x.sp.length ck] 179);have hxI:=aE wr (.cells #[ag x.op,ag x.a,ag x.b,ag x.to,.slice ps x.sp.length ck] 179);have z0:=ak 0 hxI;have z1:=ak 1 hxI;have z3:=ak 3 hxI;have hmI:=hm.below bI;generalize hwI:wr.alloc (.cells #[ag x.op,ag x.a,ag x.b,ag x.to,.slice ps x.sp.length ck] 179)=wI at*;have cA:=pJ L (j:Int) (hAt l j) w wI hmI;have cX':=cX wI;obtain⟨ht0a,ht0b⟩:=ht0;obtain⟨hf0a,hf0b⟩:=hf0;clear cX hrow e0 e1 e2 e3 e4 bI hxI hm;by_cases htk:hAt l j<tk x
   ·have HNW:=a8 (uF (cs:=cs) (Ng hjx htk));have HB:=a8 hmI.bel;clear cA hE hh1 hm1 hs1 hI hmI HC HCU HIE HHI HST HTO HOK hjx;generalize hAt l j=hh at*;generalize tk x=tt at*;generalize mxH cs l j=mm at*;generalize stS cs l j=ss at*;go_wp2_with fail;refine cX'.mono ?_;rintro e w1 ⟨rfl,rfl⟩;clear cX';go_wp2_with fail;exact aW (v:= .tuple #[ag 0,ag 0,.bool false]) (by simp[results,results185,go_sem]) rfl ⟨0,0,false,rfl,HNW.o,HB.o⟩
   ·have htk': ¬hAt l j<tk x:=htk;cases hag:agB L (j:Int) (hAt l j) with
    |false=>
     obtain⟨v,hv1,hv2⟩:=qK hag;have HNW:=a8 (uF (cs:=cs) (hI.not_met hv1 hv2));have HB:=a8 hmI.bel;rw[hag]at cA;clear hag hE hh1 hm1 hs1 hI hmI HC HCU HIE HHI HST HTO HOK hjx hv1 hv2 htk;generalize hAt l j=hh at*;generalize tk x=tt at*;generalize mxH cs l j=mm at*;generalize stS cs l j=ss at*;go_wp2_with fail;refine cX'.mono ?_;rintro e w1 ⟨rfl,rfl⟩;clear cX';go_wp2_with fail;refine cA.mono ?_;rintro e w1 ⟨rfl,rfl⟩;clear cA;go_wp2_with fail;exact aW (v:= .tuple #[ag 0,ag 0,.bool false]) (by simp[results,results185,go_sem]) rfl ⟨0,0,false,rfl,HNW.o,HB.o⟩
    |true=>
     rw[hag]at cA;have hag':=sh hag;clear hag;have hle:tk x<=hAt l j:=(by omega);have HNX:PH (∀(W:World) (L':List (Int×Int)),lP l (j+1) L'->MmI w L' W->EW cs l w (ag (mxH cs l (j+1))) (ag ((l.length:Int)+(stS cs l (j+1)-((j+1:Nat):Int)))) (ag (hAt l (j+1))) (ag ((j+1:Nat):Int)) W):=fun W L' h1 h2=>⟨j+1,L',rfl,by omega,rfl,rfl,rfl,h1,h2⟩
     by_cases hop:x.op=6
     ·have hg:isG x:= .inl hop;have hto:=rI hE hg;have cB:=pJ L x.to (hAt l j+1) w wI hmI;have he0:eff x=0:=(by unfold eff;rw[ax (by omega),ax (by omega)]);have hm8: ¬x.op=8:=(by omega);rw[ax hm8]at hm1 hs1;have hob6:(x.op==6)=true:=(by rw[hop];rfl);cases hag2:agB L x.to (hAt l j+1) with
      |false=>
       obtain⟨v,hv1,hv2⟩:=qK hag2;have HNW:=a8 (uF (cs:=cs) (hI.not_two hjx hg hv1 hv2));have HB:=a8 hmI.bel;rw[hag2]at cB;clear hag2 hE hh1 hm1 hs1 hI hmI HC HCU HIE HHI HST HTO HOK hjx hv1 hv2 htk HNX hag' hg he0 hm8 hop;generalize hAt l j=hh at*;generalize tk x=tt at*;generalize mxH cs l j=mm at*;generalize stS cs l j=ss at*;go_wp2_with fail;refine cX'.mono ?_;rintro e w1 ⟨rfl,rfl⟩;clear cX';go_wp2_with fail;refine cA.mono ?_;rintro e w1 ⟨rfl,rfl⟩;clear cA;go_wp2_with fail;refine cB.mono ?_;rintro e w1 ⟨rfl,rfl⟩;clear cB;go_wp2_with fail;exact aW (v:= .tuple #[ag 0,ag 0,.bool false]) (by simp[results,results185,go_sem]) rfl ⟨0,0,false,rfl,HNW.o,HB.o⟩
      |true=>
       rw[hag2]at cB;have hI2:=hI.stepG HTO.o hjx hle hag' hg (sh hag2);obtain⟨ob,hup,hM⟩:=Nm hmI.map x.to (hAt l j+1);have hmN:MmI w (upL L x.to (hAt l j+1)) (si wI w.heap.size ob):=⟨xn hmI.bel (aB _) ob,hM,(xo ob (by omega)).trans hmI.var⟩
       have HN:=a8 (HNX.o _ _ hI2 hmN);have zv:=ak 0 hmI.var;clear hag2 hE hI hmI HC HCU HIE HHI HST HTO HOK hjx htk HNX hag' hg hm8 hop hI2 hM hmN;rw[he0]at hh1 cX';generalize hAt l (j+1)=h1 at*;generalize mxH cs l (j+1)=m1 at*;generalize stS cs l (j+1)=s1 at*;generalize hAt l j=hh at*;generalize mxH cs l j=mm at*;generalize stS cs l j=ss at*;generalize tk x=tt at*;go_wp2_with fail;refine cX'.mono ?_;rintro e w1 ⟨rfl,rfl⟩;clear cX';go_wp2_with fail;refine cA.mono ?_;rintro e w1 ⟨rfl,rfl⟩;clear cA;go_wp2_with fail;refine cB.mono ?_;rintro e w1 ⟨rfl,rfl⟩;clear cB;go_wp2_with fail;have e1:hh+(tt+0-tt)=h1:=(by omega);have e2:max mm (hh+(tt+0-tt))=m1:=(by omega);go_roundw;case rel=>exact uG HN.o (by split<;>omega) (by omega) (by omega) (by omega)
       case measure=>simp[intOf];omega
     by_cases hop7:x.op=7
     ·have hop:=hop7;clear hop7;have hg:isG x:= .inr hop;have hto:=rI hE hg;have cB:=pJ L x.to (hAt l j+1) w wI hmI;have he0:eff x=0:=(by unfold eff;rw[ax (by omega),ax (by omega)]);have hm8: ¬x.op=8:=(by omega);rw[ax hm8]at hm1 hs1;have hob6:(x.op==6)=false:=(by rw[hop];rfl);have hob7:(x.op==7)=true:=(by rw[hop];rfl);cases hag2:agB L x.to (hAt l j+1) with
      |false=>
       obtain⟨v,hv1,hv2⟩:=qK hag2;have HNW:=a8 (uF (cs:=cs) (hI.not_two hjx hg hv1 hv2));have HB:=a8 hmI.bel;rw[hag2]at cB;clear hag2 hE hh1 hm1 hs1 hI hmI HC HCU HIE HHI HST HTO HOK hjx hv1 hv2 htk HNX hag' hg he0 hm8 hop;generalize hAt l j=hh at*;generalize tk x=tt at*;generalize mxH cs l j=mm at*;generalize stS cs l j=ss at*;go_wp2_with fail;refine cX'.mono ?_;rintro e w1 ⟨rfl,rfl⟩;clear cX';go_wp2_with fail;refine cA.mono ?_;rintro e w1 ⟨rfl,rfl⟩;clear cA;go_wp2_with fail;refine cB.mono ?_;rintro e w1 ⟨rfl,rfl⟩;clear cB;go_wp2_with fail;exact aW (v:= .tuple #[ag 0,ag 0,.bool false]) (by simp[results,results185,go_sem]) rfl ⟨0,0,false,rfl,HNW.o,HB.o⟩
      |true=>
       rw[hag2]at cB;have hI2:=hI.stepG HTO.o hjx hle hag' hg (sh hag2);obtain⟨ob,hup,hM⟩:=Nm hmI.map x.to (hAt l j+1);have hmN:MmI w (upL L x.to (hAt l j+1)) (si wI w.heap.size ob):=⟨xn hmI.bel (aB _) ob,hM,(xo ob (by omega)).trans hmI.var⟩
       have HN:=a8 (HNX.o _ _ hI2 hmN);have zv:=ak 0 hmI.var;clear hag2 hE hI hmI HC HCU HIE HHI HST HTO HOK hjx htk HNX hag' hg hm8 hop hI2 hM hmN;rw[he0]at hh1 cX';generalize hAt l (j+1)=h1 at*;generalize mxH cs l (j+1)=m1 at*;generalize stS cs l (j+1)=s1 at*;generalize hAt l j=hh at*;generalize mxH cs l j=mm at*;generalize stS cs l j=ss at*;generalize tk x=tt at*;go_wp2_with fail;refine cX'.mono ?_;rintro e w1 ⟨rfl,rfl⟩;clear cX';go_wp2_with fail;refine cA.mono ?_;rintro e w1 ⟨rfl,rfl⟩;clear cA;go_wp2_with fail;refine cB.mono ?_;rintro e w1 ⟨rfl,rfl⟩;clear cB;go_wp2_with fail;have e1:hh+(tt+0-tt)=h1:=(by omega);have e2:max mm (hh+(tt+0-tt))=m1:=(by omega);go_roundw;case rel=>exact uG HN.o (by split<;>omega) (by omega) (by omega) (by omega)
       case measure=>simp[intOf];omega
     by_cases hop8:x.op=8
     ·have hop:=hop8;clear hop8 hop7;have hca:=vH hE hop;obtain⟨an,han⟩: ∃an:Nat,x.a=(an:Int):=⟨x.a.toNat,by omega⟩
      have hanl:an<cs.length:=(by omega);have ha0:(0:Int)<=(an:Int):=(by omega);have ha1:(an:Int)<(cs.length:Int):=(by omega);obtain⟨u,hu⟩: ∃u,cs[an]? =some u:=⟨cs[an],az hanl⟩
      obtain⟨su,_,g3,o3,hpe,k0,k1,k2⟩:=HC.o an _ hu;subst hpe;have q1:=aj hmI.bel k1;have q2:=aj hmI.bel k2;have v1:=HHI.o an;have v2:=HST.o an;have v3:=(jx (HOK.o an _ hu)).2.1.1.1;rw[aD hop,show x.a.toNat=an by omega]at hm1 hs1;rw[je hu]at hm1 hs1 v1 v2;obtain⟨v2a,v2b⟩:=v2;have he0:eff x=1:=(by unfold eff;rw[aD (.inr hop)]);have hob6:(x.op==6)=false:=(by rw[hop];rfl);have hob7:(x.op==7)=false:=(by rw[hop];rfl);have hob8:(x.op==8)=true:=(by rw[hop];rfl);have hng: ¬isG x:=(by unfold isG;omega);have hI2:=hI.step HTO.o hjx hle hag' hng;have HN:=a8 (HNX.o _ _ hI2 hmI);rw[han]at z1;clear han hca;clear hE hI hmI HC HCU HIE HHI HST HTO HOK hjx htk HNX hag' hop hI2 hng k0 k1 k2 hu;rw[he0]at hh1 cX';clear he0;generalize u.high=uh at*;generalize u.steps=us at*;generalize hAt l (j+1)=h1 at*;generalize mxH cs l (j+1)=m1 at*;generalize stS cs l (j+1)=s1 at*;generalize hAt l j=hh at*;generalize mxH cs l j=mm at*;generalize stS cs l j=ss at*;generalize tk x=tt at*;go_wp2_with fail;refine cX'.mono ?_;rintro e w1 ⟨rfl,rfl⟩;clear cX';go_wp2_with fail;refine cA.mono ?_;rintro e w1 ⟨rfl,rfl⟩;clear cA;go_wp2_with fail;go_roundw;case rel=>exact uG HN.o (by repeat (first|omega|split)) (by omega) (by omega) (by omega)
      case measure=>simp[intOf];omega
     ·have hob6:(x.op==6)=false:=bj.2 hop;have hob7:(x.op==7)=false:=bj.2 hop7;have hob8:(x.op==8)=false:=bj.2 hop8;rw[ax hop8]at hm1 hs1;have hng: ¬isG x:=(by unfold isG;omega);have hI2:=hI.step HTO.o hjx hle hag' hng;have HN:=a8 (HNX.o _ _ hI2 hmI);clear hE hI hmI HC HCU HIE HHI HST HTO HOK hjx htk HNX hag' hop hop7 hop8 hI2 hng;generalize hAt l (j+1)=h1 at*;generalize mxH cs l (j+1)=m1 at*;generalize stS cs l (j+1)=s1 at*;generalize hAt l j=hh at*;generalize mxH cs l j=mm at*;generalize stS cs l j=ss at*;generalize tk x=tt at*;generalize eff x=ee at*;go_wp2_with fail;refine cX'.mono ?_;rintro e w1 ⟨rfl,rfl⟩;clear cX';go_wp2_with fail;refine cA.mono ?_;rintro e w1 ⟨rfl,rfl⟩;clear cA;go_wp2_with fail;go_roundw;case rel=>exact uG HN.o (by repeat (first|omega|split)) (by omega) (by omega) (by omega)
      case measure=>simp[intOf];omega
  ·have hlt': ¬(j:Int)<(l.length:Int):=(by omega);have ej:j=l.length:=(by omega);subst ej;have cA:=pJ L (l.length:Int) (hAt l l.length) w wr hm;by_cases hfin:hAt l l.length=1
   ·have HU:PH (EV cs l (mxH cs l l.length) ((l.length:Int)+(stS cs l l.length-(l.length:Int))) (agB L (l.length:Int) (hAt l l.length))):=by
     refine⟨?_,fun _=>⟨rfl,by omega⟩⟩;rw[LP,<-hI.fin HTO.o];exact⟨fun e=>⟨hfin,e⟩,fun e=>e.2⟩
    have HB:=a8 hm.bel;clear hI hm HC HCU HIE HHI HST HTO HOK;rw[hfin]at cA HU⊢;generalize mxH cs l l.length=mm at*;generalize stS cs l l.length=ss at*;generalize agB L (l.length:Int) 1=ok at*;go_wp2_with fail;refine cA.mono ?_;rintro e w1 ⟨rfl,rfl⟩;clear cA;go_wp2_with fail;exact aW (v:= .tuple #[ag mm,ag ((l.length:Int)+(ss-(l.length:Int))),.bool ok]) (by simp[results,results185,go_sem]) rfl ⟨_,_,_,rfl,HU.o,HB.o⟩
   ·have hfb:(hAt l l.length==1)=false:=bj.2 hfin;have HU:PH (EV cs l (mxH cs l l.length) ((l.length:Int)+(stS cs l l.length-(l.length:Int))) false):=⟨⟨fun e=>(by cases e),fun e=>absurd e.fin hfin⟩,fun e=>(by cases e)⟩
    have HB:=a8 hm.bel;clear hI hm HC HCU HIE HHI HST HTO HOK cA;generalize mxH cs l l.length=mm at*;generalize stS cs l l.length=ss at*;generalize hAt l l.length=hh at*;go_wp2_with fail;exact aW (v:= .tuple #[ag mm,ag ((l.length:Int)+(ss-(l.length:Int))),.bool false]) (by simp[results,results185,go_sem]) rfl ⟨_,_,_,rfl,HU.o,HB.o⟩
theorem G0 (cs:List Cd)(lv:Value)(ri:Nat)(w:World)(h:InV w lv cs)(hok: ∀(i:Nat) (c:Cd),cs[i]? =some c->aloneE c cs.length=0)(hri:ri<cs.length):
  Calls prog 156 #[lv,ag (ri:Int)] w fun e w'=>e= .returned (.bool (rt cs (cs.getD ri cd0)))/\aq w w':=by
 obtain⟨p,cp,elv,hlen,hc⟩:=h.form;obtain⟨u,hu⟩: ∃u,cs[ri]? =some u:=⟨cs[ri],az hri⟩
 obtain⟨sv,hin,g,o,rfl,e0,e1,e2⟩:=hc ri u hu;have hal:=jx (hok ri u hu);rw[je hu];generalize hX:rt cs u=X;have hi0:(0:Int)<=(ri:Int):=by omega
 have hi1:(ri:Int)<(cs.length:Int):=by omega
 obtain⟨ul,hi,st⟩:=u;dsimp only at hin e1 e2 hal;obtain⟨pu,cu,rfl,_,_⟩:=hin.form;have bC:=am w (.cells #[.slice pu ul.length cu,ag hi,ag st] 142);have hxC:=aE w (.cells #[.slice pu ul.length cu,ag hi,ag st] 142);generalize hwC:w.alloc (.cells #[.slice pu ul.length cu,ag hi,ag st] 142)=wC at*;have cM:=BA cs ul lv (.slice pu ul.length cu) wC (h.below bC) (hin.below bC) hok hal.1.2 hal.2.2;subst elv;have z0:=ak 0 hxC;clear h hc hok hin hu hal;go_enter func156,ntmps156;go_wp2_with fail;refine cM.mono ?_;rintro e w1 ⟨hh,ss,ok,rfl,hU,b1⟩;have hxC1:=ai b1 hxC;have z1:=ak 1 hxC1;have z2:=ak 2 hxC1;have hb:=aw bC b1;clear cM b1 bC hxC hxC1 z0 hwC e0 e1 e2
 have hX2:X=(ok&&(decide (hh=hi)&&decide (ss=st))):=by
  obtain⟨u1,u2⟩:=hU;subst hX;cases ok with
  |false=>
   cases hf:rt cs ⟨ul,hi,st⟩ with
   |false=>rfl
   |true=>exact absurd (u1.2 (oi.1 hf).well) (by simp)
  |true=>
   obtain⟨rfl,rfl⟩:=u2 rfl;by_cases h1:mxH cs ul ul.length=hi
   ·by_cases h2:stS cs ul ul.length=st
    ·rw[bm h1,bm h2];exact oi.2 ⟨u1.1 rfl,h1,h2⟩
    ·rw[bn h2];simp only[jh];cases hf:rt cs ⟨ul,hi,st⟩ with
     |false=>rfl
     |true=>exact absurd (oi.1 hf).steps h2
   ·rw[bn h1];simp only[Bool.false_and,jh];cases hf:rt cs ⟨ul,hi,st⟩ with
    |false=>rfl
    |true=>exact absurd (oi.1 hf).high h1
 clear hX hU;cases ok with
 |false=>
  have hX3:X=false:=hX2;subst hX3;clear hX2;go_wp2_with fail;go_ret;exact⟨rfl,hb⟩
 |true=>
  by_cases h1:hh=hi
  ·by_cases h2:ss=st
   ·rw[bm h1,bm h2]at hX2;have hX3:X=true:=hX2;subst hX3 h1 h2;clear hX2;go_wp2_with fail;go_ret;exact⟨rfl,hb⟩
   ·rw[bm h1,bn h2]at hX2;have hX3:X=false:=hX2;subst hX3 h1;have hb2:(ss==st)=false:=bj.2 h2;clear hX2 h2;go_wp2_with fail;go_ret;exact⟨rfl,hb⟩
  ·rw[bn h1]at hX2;have hX3:X=false:=(by rw[hX2];simp);subst hX3;have hb1:(hh==hi)=false:=bj.2 h1;clear hX2 h1;go_wp2_with fail;go_ret;exact⟨rfl,hb⟩
theorem EX (cs:List Cd)(lv:Value)(gr gR gl ri:Nat)(w:World)(h:InV w lv cs)(hr:w.cell? (ae gr 0)=some (.slice (some (ae gR 0)) cs.length cs.length))(hR:w.heap[gR]? =ah (iG cs.length (wars (gj cs) cs.length)) 84)
  (hl:w.cell? (ae gl 0)=some lv) (h40:cs.length<=40) (hok: ∀(i:Nat) (c:Cd),cs[i]? =some c->aloneE c cs.length=0) (hri:ri<cs.length):
  Calls prog 154 #[ag (ri:Int),ab gr 0,ab gl 0] w fun e w'=>e= .returned (ag (pI cs ri))/\aq w w':=by
 have rc:=(aZ _ _ ri _ _ _ hR).trans (zn hri);have cH:=Dy (wars (gj cs) cs.length ri) ri (by omega) w;have cF:=G0 cs lv ri w h hok hri;obtain⟨p,cp,rfl,hlen,hc⟩:=h.form;have hi0:(0:Int)<=(ri:Int):=by omega
 have hi1:(ri:Int)<(cs.length:Int):=by omega
 generalize hX:pI cs ri=X;unfold pI at hX;generalize hb:wars (gj cs) cs.length ri ri=b at*;generalize hf:rt cs (cs.getD ri cd0)=f at*;cases b with
 |true=>
  rw[aD rfl]at hX;subst hX;generalize wars (gj cs) cs.length ri=W at*;go_enter func154,ntmps154;go_wp2_with fail;refine cH.mono ?_;rintro e w1 ⟨rfl,rfl⟩;go_wp2_with fail;go_ret;exact⟨rfl,aI _ _⟩
 |false=>
  rw[ax (by simp)]at hX;generalize wars (gj cs) cs.length ri=W at*;cases f with
  |true=>
   rw[aD rfl]at hX;subst hX;go_enter func154,ntmps154;go_wp2_with fail;refine cH.mono ?_;rintro e w1 ⟨rfl,rfl⟩;go_wp2_with fail;refine cF.mono ?_;rintro e w2 ⟨rfl,hb2⟩;go_wp2_with fail;go_ret;exact⟨rfl,hb2⟩
  |false=>
   rw[ax (by simp)]at hX;subst hX;go_enter func154,ntmps154;go_wp2_with fail;refine cH.mono ?_;rintro e w1 ⟨rfl,rfl⟩;go_wp2_with fail;refine cF.mono ?_;rintro e w2 ⟨rfl,hb2⟩;go_wp2_with fail;go_ret;exact⟨rfl,hb2⟩
theorem EY (cs:List Cd)(lv:Value)(w:World)(h:InV w lv cs):
  Calls prog 130 #[lv] w fun e w'=>e= .returned (.agg #[ag (jM cs).1,ag ((jM cs).2:Int)])/\aq w w':=by
 obtain⟨p,cp,elv,hlen,hc⟩:=h.form;generalize hX:jM cs=X;unfold jM at hX;have bA:aq w ((w.alloc (.cells #[lv] 50)).alloc (.cells #[ag 0,ag 0] 95)):=(am _ _).alloc (by simp) _;have hl0:((w.alloc (.cells #[lv] 50)).alloc (.cells #[ag 0,ag 0] 95)).heap[w.heap.size]? =ah #[lv] 50:=by(repeat (first|refine dj _ _ _ (by simp only[aU];omega) ?_|exact dz _ _ _ (by first|rfl|simp only[aU])))
 have hr0:((w.alloc (.cells #[lv] 50)).alloc (.cells #[ag 0,ag 0] 95)).heap[w.heap.size+1]? =ah #[ag 0,ag 0] 95:=by(repeat (first|refine dj _ _ _ (by simp only[aU];omega) ?_|exact dz _ _ _ (by first|rfl|simp only[aU])))
 generalize hwA:(w.alloc (.cells #[lv] 50)).alloc (.cells #[ag 0,ag 0] 95)=wA at*;have z0:=ak 0 hl0;have hn0:(0:Int)<=(cs.length:Int):=by omega
 have hmf: ∀(fn:Fn) (first cap:Array Value) (w:World),(Instr.makeFunc fn first cap).run prog w= .ok (.func fn first cap) w:=fun _ _ _ _=>rfl;by_cases hm:40<cs.length
 ·have hm':(40:Int)<(cs.length:Int):=by omega
  rw[aD hm]at hX;subst hX elv;go_enter func130,ntmps130;go_wp2_with(refine ay rfl 95 _ _ rfl _ _ rfl rfl _ _ hr0 (by kernel_rfl) (by simp) (by simp[Value.oneCell']) ?_)
  exact qu 2 (by kernel_rfl) (w.heap.size+1) 5 0 rfl rfl (aL _ _ _ _ _ _ hr0) ⟨rfl,below_setRow bA (by omega) _⟩
 ·have hm': ¬(40:Int)<(cs.length:Int):=by omega
  rw[ax hm]at hX
  have c1:=rK (fun i=>aloneE (cs.getD i cd0) cs.length) cs.length 151 #[ab w.heap.size 0] p cp wA hlen (fun _ _=>by simp[go_sem]) fun i wr hi hb=>by
   exact EQ cs lv w.heap.size i wr ((h.below bA).below hb) (aj hb z0) hi
  rw[<-elv]at c1;by_cases he:(gK (fun i=>aloneE (cs.getD i cd0) cs.length) cs.length 0).1=0
  ·rw[ax (fun e=>e he)]at hX;obtain⟨hf0,hf1⟩:=oZ _ _ he;rw[hf0]at c1
   have hok: ∀(i:Nat) (c:Cd),cs[i]? =some c->aloneE c cs.length=0:=fun i c hi=>by
    have:=hf1 i (by omega) (by have:=(aF.1 hi).1;omega);rw[je hi]at this;exact this
   have HOK:=a8 hok;have HIN:=a8 h;have HX:=a8 hX;have HELV:=a8 elv;have sv1: ∃p c,lv= .slice p cs.length c:=⟨p,cp,elv⟩
   subst elv;go_enter func130,ntmps130;go_wp2_with fail;refine c1.mono ?_;rintro e w1 ⟨rfl,hb1⟩;dsimp only;have b1:=aw bA hb1;have hl1:=ai hb1 hl0;have hr1:=ai hb1 hr0;have bF0:=am w1 (.cells #[ag 0,ag 0] 95);have nF0:=aE w1 (.cells #[ag 0,ag 0] 95);generalize hw1:w1.alloc (.cells #[ag 0,ag 0] 95)=w1a at*;have bF:=below_setRow bF0 (aB _) #[ag 0,ag 0];have nF:=aL _ _ _ #[ag 0,ag 0] _ _ nF0;have hl2:=ai bF hl1;have hr2:=ai bF hr1;have b2:=aw b1 bF;generalize hw2:w1a.setRow w1.heap.size #[ag 0,ag 0]=w2 at*;have z2:=ak 0 hl2;have zF:=ak 0 nF;have c2:=Bz cs _ w2 (HIN.o.below b2) (by omega) HOK.o;go_wp2_with(refine ay rfl 95 _ _ rfl _ _ rfl rfl _ _ nF0 (by kernel_rfl) (by simp) (by simp[Value.oneCell']) ?_)
   refine c2.mono ?_;rintro e w3 ⟨rfl,hU⟩;have hl3:=ai hU.bel hl2;have hr3:=ai hU.bel hr2;have b3:=aw b2 hU.bel;have bR:=am w3 (.cells #[.slice (some (ae w2.heap.size 0)) cs.length cs.length] 234);have nR:=aE w3 (.cells #[.slice (some (ae w2.heap.size 0)) cs.length cs.length] 234);have hl4:=ai bR hl3;have hr4:=ai bR hr3;have hU4:=ai bR hU.row;have b4:=aw b3 bR;generalize hw4:w3.alloc (.cells #[.slice (some (ae w2.heap.size 0)) cs.length cs.length] 234)=w4 at*;have z4:=ak 0 hl4;have zR:=ak 0 nR
   have c3:=rK (pI cs) cs.length 154 #[ab w3.heap.size 0,ab w.heap.size 0] p cp w4 hlen (fun _ _=>by simp[go_sem]) fun i wr hi hb=>by
    exact EX cs _ w3.heap.size w2.heap.size w.heap.size i wr ((HIN.o.below b4).below hb) (aj hb zR) (ai hb hU4) (aj hb z4) (by omega) HOK.o hi
   rw[HX.o]at c3;go_wp2_with fail;refine c3.mono ?_;rintro e w5 ⟨rfl,hb5⟩;have hr5:=ai hb5 hr4;have b5:=aw b4 hb5;go_wp2_with(refine ay rfl 95 _ _ rfl _ _ rfl rfl _ _ hr5 (by kernel_rfl) (by simp) (by simp[Value.oneCell']) ?_)
   exact qu 2 (by kernel_rfl) (w.heap.size+1) X.1 (X.2:Int) rfl rfl (aL _ _ _ _ _ _ hr5) ⟨rfl,below_setRow b5 (by omega) _⟩
  ·rw[aD he]at hX;rw[hX]at he c1;obtain⟨xe,xa⟩:=X;dsimp only at he c1⊢;have hb0:(xe==0)=false:=bj.2 he;have hbn:(xe !=0)=true:=(by simpa using he);subst elv;go_enter func130,ntmps130;go_wp2_with fail;refine c1.mono ?_;rintro e w1 ⟨rfl,hb1⟩;have b1:=aw bA hb1;have hr1:=ai hb1 hr0;have bF:=am w1 (.cells #[ag xe,ag (xa:Int)] 95);have nF:=aE w1 (.cells #[ag xe,ag (xa:Int)] 95);have hr2:=ai bF hr1;have b2:=aw b1 bF;generalize hw2:w1.alloc (.cells #[ag xe,ag (xa:Int)] 95)=w2 at*;have zF:=ak 0 nF
   go_wp2_with(first
    |(refine aQ rfl 95 _ rfl _ rfl _ _ _ _ nF mc rfl (by kernel_rfl) ?_)
    |(refine ay rfl 95 _ _ rfl _ _ rfl rfl _ _ hr2 (by kernel_rfl) (by simp) (by simp[Value.oneCell']) ?_))
   exact qu 2 (by kernel_rfl) (w.heap.size+1) xe (xa:Int) rfl rfl (aL _ _ _ _ _ _ hr2) ⟨rfl,below_setRow b2 (by omega) _⟩
def eqm (f g:Nat->Bool):Bool:=(List.range 23).all fun k=>wd f k==wd g k
theorem JF {f g:Nat->Bool}(h: ∀i,i<1472->f i=g i):eqm f g=true:=by
 unfold eqm;rw[dr];intro k hk;have hk':k<23:=by simpa using hk
 rw[mP (f:=f) (g:=g) fun j hj=>h _ (by omega)];simp
theorem BB {f g:Nat->Bool}(h:eqm f g=true)(i:Nat)(hi:i<1472):f i=g i:=by
 unfold eqm at h;rw[dr]at h;have h1:=h (i/64) (by simp;omega);have h2:=MP (by simpa using h1) (i%64) (by omega);have e:64*(i/64)+i%64=i:=by omega
 rw[e]at h2;exact h2
theorem LQ: ∃i,prog.info? 84=some i/\prog.cellsOf 84=1:=⟨_,rfl,by kernel_rfl⟩
theorem Dz:prog.underlying 84=some (.int .u64):=by kernel_rfl
theorem DA (f:Nat->Bool)(k:Nat)(hk:k<23)(w:World):(Go.part 84 (mv f) (k*1)).run prog w= .ok (.int .u64 (wd f k:Int)) w:=by
 simp[Go.part,isAgg,fT Dz,pX f k hk]
theorem xp (f g:Nat->Bool)(w:World)(d:Nat): ∀l:List Nat,(∀k∈l,k<23)->(Op.eqItems (d+1) 84 1 (mv f) (mv g) l).run prog w= .ok (l.all fun k=>wd f k==wd g k) w
 |[],_=>by simp[Op.eqItems]
 |k::l,h=>by
  have ih:=xp f g w d l fun j hj=>h j (by simp[hj]);have hk:=h k (by simp);simp only[Op.eqItems,ju,DA f k hk,DA g k hk,gF,run_equalIn_int w d 84 .u64 .u64 _ _ Dz,List.all_cons]
  have e:(((wd f k:Nat):Int)==((wd g k:Nat):Int))=(wd f k==wd g k):=by
   rw[Bool.eq_iff_iff];simp only[beq_iff_eq];omega
  rw[e];cases(wd f k==wd g k)
  ·simp
  ·simpa using ih
theorem LR (f g:Nat->Bool)(w:World):(Op.equalIn 10000 86 (.agg (mv f)) (.agg (mv g))).run prog w= .ok (eqm f g) w:=by
 obtain⟨i,hi,hc⟩:=LQ;rw[run_equalIn_array w 9999 (mv f) (mv g) bV hi,hc];exact xp f g w 9998 _ fun k hk=>by simpa using hk
theorem Nn (f:Nat->Bool)(W:World):(Instr.buildSlice 78 1 #[(0,.agg (mv f))]).run prog W= .ok (.slice (some (ae W.heap.size 0)) 1 1) (W.alloc (.cells (mv f) 86)):=by
 kernel_rfl
theorem G2 {o:Oper}{a:Act}{w:World}{K:Act->World->Prop}{Q:Exit->Act->World->Prop}(x:Operand)(ho:o.op= .buildSlice 78 1 #[(0,x)])(f:Nat->Bool)(hx:a.eval x= .agg (mv f))
  (h:K (a.put o.dst (.slice (some (ae w.heap.size 0)) 1 1)) (w.alloc (.cells (mv f) 86))):o.wp prog a w K Q:=by
 unfold Oper.wp execOp;have hb:=Nn f w;simp only[ho,hx,iB,dH,ff,ju,jU,gF,hb];exact h
def kG (S:List M):List Value:=S.flatMap fun f=>(mv f).toList
theorem zo: ∀S:List M,(kG S).length=S.length*23
 |[]=>rfl
 |f::S=>by
  have:=zo S;unfold kG at this⊢;rw[List.flatMap_cons,aP,this];have h:(mv f).toList.length=23:=(by rw[bQ];exact bO f);rw[h,bJ];omega
theorem sm (S:List M)(f:M):kG (S++[f])=kG S++(mv f).toList:=by
 unfold kG;rw[fw];simp
theorem rO (f:M):(mv f).toList.length=23:=by rw[bQ];exact bO f
theorem il {w w':World}{base:Nat}{e:TypeId}{size n:Nat}{v:Value}{xs:List Value}(h:w.ownsRow base e size v n xs)(hb:aq w w'):w'.ownsRow base e size v n xs:=by
 refine h.kept (row:=none) ⟨hb.os,hb.tape,hb.output,hb.size,fun k hk _=>hb.block k hk⟩ ?_;cases hv:v.ownBlock with
 |none=>exact .inl rfl
 |some g=>exact .inr (by simp)
structure VSt (w0:World)(gm:Nat)(lv:Value)(day:Int)(S:List M)(k:Int)(W:World):Prop where
 bel:aq w0 W
 gt:w0.heap.size<=gm
 row: ∃sv,W.heap[gm]? =ah #[lv,ag day,sv,ag k] 212/\W.ownsRow w0.heap.size 86 23 sv S.length (kG S)
theorem VSt.below {w0 W W':World}{gm:Nat}{lv:Value}{day k:Int}{S:List M}(h:VSt w0 gm lv day S k W)(hb:aq W W'):VSt w0 gm lv day S k W':=by
 obtain⟨h1,h2,sv,h3,h4⟩:=h;exact⟨aw h1 hb,h2,sv,ai hb h3,il h4 hb⟩
theorem G3:(prog.info? 86).map (fun i=>(i.zero,i.size,i.bytes))=some (some (.agg #[.int .u64 0, .int .u64 0, .int .u64 0, .int .u64 0, .int .u64 0, .int .u64 0, .int .u64 0, .int .u64 0, .int .u64 0, .int .u64 0, .int .u64 0, .int .u64 0, .int .u64 0, .int .u64 0, .int .u64 0, .int .u64 0, .int .u64 0, .int .u64 0, .int .u64 0, .int .u64 0, .int .u64 0, .int .u64 0, .int .u64 0]),23,184):=by kernel_rfl
theorem G4:prog.underlying 78=some (.slice 86):=by kernel_rfl
structure No (base:Nat)(sv:Value)(n:Nat)(xs:List Value)(f:M)(W1:World)(R:World->Prop)(D:Nat->Bool)(φ:Nat->Value)(W:World):Prop where
 grown:D 10=false->W1.grownBy W sv.ownBlock
 own:D 7=false->W.ownsRow base 86 23 sv n xs
 one:D 6=true->D 7=false-> ∃g,φ 10= .slice (some (ae g 0)) 1 1/\W.heap[g]? =ah (mv f) 86
 app:D 7=true->D 10=false->W.ownsRow base 86 23 (φ 11) (n+1) (xs++(mv f).toList)
 fin:D 10=true->R W
theorem oS {W1 W W':World}{row:Option Nat}(h:W1.grownBy W row)(hb:aq W W'):W1.grownBy W' row:=
 ⟨hb.os.trans h.os,hb.tape.trans h.tape,hb.output.trans h.output,bf h.size hb.size,fun k hk hr=>(hb.block k (aT hk h.size)).trans (h.block k hk hr)⟩
theorem vf {W1 W W':World}{row:Option Nat}(h:W1.grownBy W row)(hb:W.grownBy W' row):W1.grownBy W' row:=
 ⟨hb.os.trans h.os,hb.tape.trans h.tape,hb.output.trans h.output,bf h.size hb.size,fun k hk hr=>(hb.block k (aT hk h.size) hr).trans (h.block k hk hr)⟩
theorem uH (g o n:Nat):(⟨g,o,none⟩:Addr).add n=⟨g,o+n,none⟩:=by
 by_cases h:n=0
 ·subst h;simp[Addr.add]
 ·simp[Addr.add,h]
theorem uI (w0:World)(gm:Nat)(lv:Value)(day k:Int)(S:List M)(f:M)(W:World)(h:VSt w0 gm lv day S k W)(hS:S.length<=1000):
  Calls prog 186 #[ab gm 0,.agg (mv f)] W fun e W'=>e= .returned (.tuple #[])/\VSt w0 gm lv day (S++[f]) k W'/\ ∀(q:Nat) (c:Array Value) (T:TypeId),W.heap[q]? =ah c T->T≠86->q≠gm->W'.heap[q]? =ah c T:=by
 obtain⟨hbel,hgt,sv,nM0,own0⟩:=h;obtain⟨i0,hi,hz0,hz1,hz2⟩:=jp G3;have HZ:=a8 hz0;have bB:=am W (.cells (mv f) 86);have nB0:=aE W (.cells (mv f) 86);have nM:=ai bB nM0;have own1:=il own0 bB;have hneM:=kj own1 nM (by decide)
 have hneB:some W.heap.size≠sv.ownBlock:=fun e=>by
  have:=(own0.lt _ e.symm).2;omega
 have hb1:=aw hbel bB;have hb0:=hb1.size;obtain⟨p0,c0,hsv⟩:=di own0;subst hsv;have HFR:PH (∀(q:Nat) (c:Array Value) (T:TypeId),W.heap[q]? =ah c T->(W.alloc (.cells (mv f) 86)).heap[q]? =ah c T):=fun q c T hq=>ai bB hq;obtain⟨gb,hgb⟩:=au W.heap.size;generalize hwB:W.alloc (.cells (mv f) 86)=wB at*;rw[hgb]at hneB;have nB:wB.heap[gb]? =ah (mv f) 86:=by rw[<-hgb];exact nB0
 clear hz0 nB0 nM0 own0 bB hbel;go_enter func186,ntmps186;go_wp2_with fail;clear hwB;refine dn (No w0.heap.size (.slice p0 S.length c0) S.length (kG S) f wB fun W'=>VSt w0 gm lv day (S++[f]) k W'/\ ∀(q:Nat) (c:Array Value) (T:TypeId),W.heap[q]? =ah c T->T≠86->q≠gm->W'.heap[q]? =ah c T) [kn 4 (ab gm 0),kn 5 (ab gm 0),kn 6 (ab gm 0),kn 7 (ab gm 2),kn 8 (.slice p0 S.length c0),kn 9 (.agg (mv f)),td 10,td 11,kn 12 (ab gm 0),kn 13 (ab gm 2),nk] (fun _=>⟨fun _=>⟨rfl,rfl,rfl,aB _,fun _ _ _=>rfl⟩,fun _=>own1,(fun h=>by cases h),(fun h=>by cases h),(fun h=>by cases h)⟩) (fun _ _ _ _ hb h=>⟨fun e=>oS (h.grown e) hb,fun e=>il (h.own e) hb,fun e e'=>(h.one e e').imp fun _ q=>⟨q.1,ai hb q.2⟩,fun e e'=>il (h.app e e') hb,fun e=>⟨(h.fin e).1.below hb,fun q c T h1 h2 h3=>by have:=(h.fin e).2 q c T h1 h2 h3;exact ai hb this⟩⟩) (by kernel_rfl) (fun D φ W2 hJ hcl F l hl hF=> ?_) (fun D φ W2 hM hJ=> ?_)
 ·simp only[kn,td,nk,dX,aR,aX,Act.put,aA,aK,aJ]at hl;subst hl;simp only[dc,Nat.reduceAdd]at hF
  have h10:D 7=false->D 10=false:=fun h7=>by
   cases h:D 10 with
   |false=>rfl
   |true=>rw[hcl 10 _ rfl h ⟨7,.data⟩ (by simp) rfl rfl]at h7;cases h7
  dsimp only[kn,td,nk,dC,eJ,eg,Act.put];and_intros;all_goals first|exact trivial|intro hw hn hm K hK
  all_goals try (go_simp;with_reducible exact hK _ _ ⟨rfl,aI _ _⟩)
  ·have nM2:=((hJ.grown (h10 (hn 7 _ rfl (by kernel_rfl)))).block _ (aH nM) hneM).trans nM;have z2:=ak 2 nM2;go_simp;exact hK _ _ ⟨rfl,aI _ _⟩
  ·have no7:D 7=false:=by
    cases h:D 7 with
    |false=>rfl
    |true=>
     have:=hn 6 _ rfl (by kernel_rfl);rw[hcl 7 _ rfl h ⟨6,.data⟩ (by simp) rfl rfl]at this;cases this
   have nB2:=((hJ.grown (h10 no7)).block _ (aH nB) hneB).trans nB;refine eo 86 _ rfl _ (by simp[Act.eval,hF]) _ _ _ _ nB2 bV rfl (bh _) ?_;exact hK _ _ ⟨rfl,aI _ _⟩
  ·have hb:=am W2 (.cells (mv f) 86);have no7:=hn 7 _ rfl (by kernel_rfl);refine G2 _ rfl f (by simp[Act.eval,hF]) ?_;exact hK _ _ ⟨trivial,fun _=>oS (hJ.grown (h10 no7)) hb,fun _=>il (hJ.own no7) hb,fun _ _=>⟨_,dD ..,aE W2 _⟩,(fun h=>by simp[no7]at h),(fun h=>by simp[h10 no7]at h)⟩
  ·obtain⟨g,e10,hh⟩:=hJ.one (hw ⟨6,.data⟩ (by simp) rfl rfl) hm;have hG:=hJ.grown (h10 hm);rw[e10]at hF;refine wp_append_own W2 _ _ 78 rfl w0.heap.size 86 i0 _ 23 184 G4 hi HZ.o hz1 hz2 rfl (by decide) (.slice p0 S.length c0) S.length (kG S) (by simp[Act.eval,hF]) (hJ.own hm) ⟨g,0,none⟩ 1 1 (mv f).toList (by simp[Act.eval,hF]) (rO f) ?c1 ?c2 ?c3 ?c4 ?c5 ?_
   case c1=>
    intro q u hq;rw[uH];exact(aZ _ _ _ _ _ _ hh).trans (by rw[bN,<-bp];exact hq)
   case c2=>
    intro u hu;have:=dR f;rw[Array.all_eq_true_iff_forall_mem]at this;exact this u (Array.mem_def.2 hu)
   case c3=>unfold maxLen;omega
   case c4=>omega
   case c5=>exact bf hb0 hG.size
   intro v' W' hown hgrow _;exact hK _ _ ⟨trivial,fun _=>vf hG hgrow,(fun e=>by simp at e),(fun _ e=>by simp at e),fun _ _=>by rw[dD];exact hown,(fun e=>by simp[h10 hm]at e)⟩
  ·have own7:=hJ.app (hw ⟨7,.data⟩ (by simp) rfl rfl) hm;have hG:=hJ.grown hm;have q7:=hw ⟨7,.data⟩ (by simp) rfl rfl;obtain⟨p7,c7,hv7⟩:=di own7;rw[hv7]at hF own7;have nM2:=(hG.block _ (aH nM) hneM).trans nM;have z2:=ak 2 nM2;have y2:=bl _ _ 2 _ _ nM2;have hne7:=kj own7 nM2 (by decide);have nS:(W2.setCell ⟨gm,2,none⟩ (.slice p7 (S.length+1) c7)).heap[gm]? =ah #[lv,ag day,.slice p7 (S.length+1) c7,ag k] 212:=aY W2 gm 2 _ _ _ nM2
   have bS:aq w0 (W2.setCell ⟨gm,2,none⟩ (.slice p7 (S.length+1) c7)):=by
    refine Below.setCell (p:=⟨gm,2,none⟩) ⟨hG.os.trans hb1.os,hG.tape.trans hb1.tape,hG.output.trans hb1.output,bf hb1.size hG.size,fun q hq=> ?_⟩ hgt _;refine(hG.block q (aT hq hb1.size) fun e=> ?_).trans (hb1.block q hq);have:=(own1.lt _ e.symm).1;omega
   have own8:(W2.setCell ⟨gm,2,none⟩ (.slice p7 (S.length+1) c7)).ownsRow w0.heap.size 86 23 (.slice p7 (S.length+1) c7) (S++[f]).length (kG (S++[f])):=by
    rw[sm,aP,dP];refine own7.kept (row:=some gm) ⟨rfl,rfl,rfl,by simp,fun q hq hr=>aO W2 ⟨gm,2,none⟩ q _ fun e=>hr (congrArg some e)⟩ (.inr fun e=>hne7 e.symm)
   have HJ:PH (∀φ',No w0.heap.size (.slice p0 S.length c0) S.length (kG S) f wB (fun W'=>VSt w0 gm lv day (S++[f]) k W'/\ ∀(q:Nat) (c:Array Value) (T:TypeId),W.heap[q]? =ah c T->T≠86->q≠gm->W'.heap[q]? =ah c T) (fun k=>decide (10=k)||D k) φ' (W2.setCell ⟨gm,2,none⟩ (.slice p7 (S.length+1) c7))):=fun _=>⟨(fun h=>by simp at h),(fun h=>by simp[q7]at h),(fun _ h=>by simp[q7]at h),(fun _ h=>by simp at h),fun _=>⟨⟨bS,hgt,_,nS,own8⟩,fun q c T hq hT hne=>by
    have h1:=HFR.o q c T hq;exact(aO W2 ⟨gm,2,none⟩ q _ hne).trans ((hG.block _ (aH h1) (kj own1 h1 hT)).trans h1)⟩⟩
   clear own7 own8 nS bS hJ;go_simp;exact hK undef _ ⟨trivial,HJ.o _⟩
 ·have HN:=a8 (hJ.fin (hM 10 (by decide) rfl));simp only[kn,td,nk,en,aR,aX,Act.put,aA,aK,aJ];clear hM hJ;go_wp2_with fail;exact⟨rfl,_,eN rfl _ _ _,rfl,HN.o⟩
theorem tC {ops:Array Oper}{rest:List Oper}{op:Oper}{a:Act}{w:World}{Q:Exit->Act->World->Prop}(hgd:op.guard=none)(x:Operand)(ho:op.op= .load 86 x)(b o:Nat)(hx:a.eval x=ab b o)(f:Nat->Bool)(hc:w.rangeAt b o (mv f).toList)
  (h:wpList prog ops Q rest (a.put op.dst (.agg (mv f))) w):wpList prog ops Q (op::rest) a w:=by
 refine wpList_load_mid hgd 86 x ho b o hx (mv f).toList _ hc bV rfl (by rw[rO];kernel_rfl) ?_;simpa using h
theorem JG {w:World}{base:Nat}{v:Value}{S:List M}{f:M}(h:w.ownsRow base 86 23 v (S++[f]).length (kG (S++[f]))):
  ∃g cap,v= .slice (some (ae g 0)) (S.length+1) cap/\S.length+1<=cap/\cap<=maxLen/\base<=g/\w.ownsRow base 86 23 (.slice (some (ae g 0)) S.length cap) S.length (kG S)/\w.rangeAt g (S.length*23) (mv f).toList:=by
 obtain⟨h1,h2⟩:=h;rw[aP,dP]at h2;rcases h2 with⟨_,e⟩|⟨g,cap,cur,e,hb,hg,hn,hc,hs,hx⟩
 ·omega
 ·have hfl:=zo S
  have e1:cur.toList.take (S.length*23)=kG S:=by
   have h3:(cur.toList.take ((S.length+1)*23)).take (S.length*23)=(kG (S++[f])).take (S.length*23):=(by rw[hx]);rw[List.take_take,fj (by omega),sm,List.take_left' hfl]at h3;exact h3
  refine⟨g,cap,e,hn,hc,hb,⟨hfl,.inr ⟨g,cap,cur,rfl,hb,hg,by omega,hc,hs,e1⟩⟩,fun j u hj=> ?_⟩
  have hjl:j<23:=by
   have:=(aF.1 hj).1;rwa[rO]at this
  refine(aZ _ _ _ _ _ _ hg).trans ?_;have h4:(cur.toList.take ((S.length+1)*23))[S.length*23+j]? =(kG (S++[f]))[S.length*23+j]? :=(by rw[hx]);rw[dI (by omega),sm,dh (by omega),hfl,Nat.add_sub_cancel_left,hj]at h4;simpa using h4
theorem sq (w0:World)(gm:Nat)(lv:Value)(day k:Int)(S:List M)(f:M)(W:World)(h:VSt w0 gm lv day (S++[f]) k W)(hS:S.length<=1000):
  Calls prog 133 #[ab gm 0] W fun e W'=>e= .returned (.agg (mv f))/\VSt w0 gm lv day S k W'/\ ∀q,q<W.heap.size->q≠gm->W'.heap[q]? =W.heap[q]? :=by
 obtain⟨hbel,hgt,sv,nM0,own0⟩:=h;obtain⟨g,cap,rfl,hcap,hcm,hgb,own1,hrg⟩:=JG own0;have hz:=eG;have hcm':cap<=9223372036854775807:=by unfold maxLen at hcm;omega
 have hlg:g<W.heap.size:=(own0.lt g rfl).2;have hneM:gm≠g:=fun e=>kj own0 nM0 (by decide) (congrArg some e);have bA:=am W (.cells (mv fun _=>false) 86);have nA:=aE W (.cells (mv fun _=>false) 86);have nM1:=ai bA nM0;have hbA:=aw hbel bA;have own2:=il own1 bA;have hrg1:(W.alloc (.cells (mv fun _=>false) 86)).rangeAt g (S.length*23) (mv f).toList:=World.rangeAt_alloc hrg _;have hlm:=aH nM0;generalize hwA:W.alloc (.cells (mv fun _=>false) 86)=wA at*;have bB:=am wA (.cells (mv fun _=>false) 86);have nB:=aE wA (.cells (mv fun _=>false) 86);generalize hwB:wA.alloc (.cells (mv fun _=>false) 86)=wB at*;have bC:=below_setRow bB (aB _) (mv f);have nC:=aL _ _ _ (mv f) _ _ nB;have nA2:=ai bC nA;have nM2:=ai bC nM1;have own3:=il own2 bC;have hbC:=aw hbA bC;generalize hwC:wB.setRow wA.heap.size (mv f)=wC at*;have hlA:=aH nA;have z2:=ak 2 nM1;have z2c:=ak 2 nM2;have y2c:=bl _ _ 2 _ _ nM2;have nD:(wC.setCell ⟨gm,2,none⟩ (.slice (some (ae g 0)) S.length cap)).heap[gm]? =ah #[lv,ag day,.slice (some (ae g 0)) S.length cap,ag k] 212:=aY wC gm 2 _ _ _ nM2;have hoD: ∀q,q≠gm->(wC.setCell ⟨gm,2,none⟩ (.slice (some (ae g 0)) S.length cap)).heap[q]? =wC.heap[q]? :=fun q hq=>aO wC ⟨gm,2,none⟩ q _ hq;have nCD:=(hoD wA.heap.size (by have:=aH nM1;omega)).trans nC;have nAD:=(hoD W.heap.size (by omega)).trans nA2;have hbD:aq w0 (wC.setCell ⟨gm,2,none⟩ (.slice (some (ae g 0)) S.length cap)):=hbC.setCell (p:=⟨gm,2,none⟩) hgt _
 have own4:(wC.setCell ⟨gm,2,none⟩ (.slice (some (ae g 0)) S.length cap)).ownsRow w0.heap.size 86 23 (.slice (some (ae g 0)) S.length cap) S.length (kG S):=
  own3.kept (row:=some gm) ⟨rfl,rfl,rfl,by simp,fun q hq hr=>hoD q fun e=>hr (congrArg some e)⟩ (.inr fun e=>hneM (aN e).symm)
 generalize hwD:wC.setCell ⟨gm,2,none⟩ (.slice (some (ae g 0)) S.length cap)=wD at*;have nE:=aL _ _ _ (mv f) _ _ nAD;have nME:=(aV wD W.heap.size gm (mv f) (by omega)).trans nD;have hlow:w0.heap.size<=W.heap.size:=hbel.size;have hbE:=below_setRow hbD hlow (mv f)
 have own5:(wD.setRow W.heap.size (mv f)).ownsRow w0.heap.size 86 23 (.slice (some (ae g 0)) S.length cap) S.length (kG S):=
  own4.kept (row:=some W.heap.size) ⟨rfl,rfl,rfl,by simp,fun q hq hr=>aV wD W.heap.size q (mv f) fun e=>hr (congrArg some e)⟩ (.inr fun e=>by have e2:g=W.heap.size:=aN e;omega)
 have HN:PH (VSt w0 gm lv day S k (wD.setRow W.heap.size (mv f))):=⟨hbE,hgt,_,nME,own5⟩
 have HF:PH (∀q,q<W.heap.size->q≠gm->(wD.setRow W.heap.size (mv f)).heap[q]? =W.heap[q]?):=fun q hq hne=>(aV wD W.heap.size q (mv f) (by omega)).trans ((hoD q hne).trans ((bC.block q (by omega)).trans (bA.block q hq)));have hn0:(0:Int)<=(S.length:Int):=by omega
 have hnc:(S.length:Int)<(cap:Int):=by omega
 have hnc1:S.length<=cap:=by omega
 have hn1:(S.length:Int)<=1000:=by omega
 clear own0 own1 own2 own3 own4 own5 hbel hbA hbC hbD hbE bA bB bC nME nD hoD nM0 nM1 nM2 nA nA2 hrg hgb hcm;generalize S.length=n at*;go_enter func133,ntmps133
 go_wp2_with(first
  |(refine tC rfl _ rfl g (n*23) ?r f hrg1 ?_;(case r=>rfl))
  |(refine ay rfl 86 _ _ rfl _ _ rfl rfl _ _ nB (bh _) (by simp[bO]) (dR _) ?_)
  |(refine aQ rfl 86 _ rfl _ rfl _ _ _ _ nCD bV rfl (bh _) ?_)
  |(refine ay rfl 86 _ _ rfl _ _ rfl rfl _ _ nAD (bh _) (by simp[bO]) (dR _) ?_))
 refine aW (v:= .agg (mv f)) ?_ rfl ⟨rfl,HN.o,HF.o⟩;exact bc rfl _ _ W.heap.size _ _ _ _ rfl nE bV rfl (bh _)
end Go.Proofs.YtkfidffapdhbhaaGreatDoor
