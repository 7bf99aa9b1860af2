/- Texts of the proof. -/
import Derived.Test.YtlkehieagdkgiaaGreatDoorPe06
import Derived.Test.YtlkehieagdkgiaaGreatDoorPe03
set_option maxRecDepth 100000
set_option maxHeartbeats 8000000
namespace Go.Proofs.YtlkehieagdkgiaaGreatDoor
open Go.Proofs.Tryz Go.RowKit Lx Vx Mx Msk
theorem BG:prog.underlying 286=some (.map 3 3):=by kernel_rfl
theorem vz:prog.underlying 3=some (.int .i64):=by kernel_rfl
def kv9 (e:MapEntry):Value×Value:=(e.key,e.val)
def uq (L:List (Int×Int)):List (Value×Value):=L.map fun n=>(ag n.1,ag n.2)
def ut (w:World)(b:Nat)(L:List (Int×Int)):Prop:= ∃a c,w.heap[b]? =some (.map a c)/\a.toList.map kv9=uq L
theorem ut.later {w w':World}{b:Nat}{L:List (Int×Int)}(h:ut w b L)(f:w'.heap[b]? =w.heap[b]?):ut w' b L:=by
 obtain⟨a,c,d,e⟩:=h;exact⟨a,c,f.trans d,e⟩
theorem F3 {w:World}{b:Nat}{L:List (Int×Int)}(h:ut w b L):b<w.heap.size:=by
 obtain⟨d,c,a,_⟩:=h;exact(dr.1 a).1
theorem F4 (k:Int): ∀(c:List MapEntry) (L:List (Int×Int)) (i:Nat),c.map kv9=uq L->(∃v j,lk L k=some v/\Instr.findNow (.int .i64) (ag k) c i=some (some (i+j,ag v))/\(c[j]?).map kv9=some (ag k,ag v)/\ ∀a,uq (upL L k a)=(c.map kv9).set j (ag k,ag a))\/(lk L k=none/\Instr.findNow (.int .i64) (ag k) c i=some none/\ ∀a,upL L k a=L++[(k,a)])
 |[],[],i,_=> .inr ⟨rfl,rfl,fun _=>rfl⟩
 |[],_::_,i,h=>by simp[uq]at h
 |_::_,[],i,h=>by simp[uq]at h
 |e::c,n::L,i,h=>by
  simp only[uq,dO,List.cons.injEq]at h;obtain⟨d,l⟩:=h;have p:e.key=ag n.1:=congrArg Prod.fst d;have t:e.val=ag n.2:=congrArg Prod.snd d;have s:Instr.sameNow (.int .i64) (ag k) e.key=some (k==n.1):=(by rw[p];simp[Instr.sameNow]);simp only[Instr.findNow,s];by_cases b:k=n.1
  ·left;refine⟨n.2,0,by simp[lk,b],?_,?_,fun a=> ?_⟩
   ·simp[b,t]
   ·simp only[List.getElem?_cons_zero,Option.map_some,d,b]
   ·have r:c.map kv9=uq L:=l;simp only[upL,aB b,dO,aJ,r];rfl
  ·have o:(k==n.1)=false:=(by simpa using b);rw[o];rcases F4 k c L (i+1) l with⟨v,j,m,f,g,q⟩|⟨m,f,q⟩
   ·left;refine⟨v,j+1,by simp[lk,b,m],by rw[show i+(j+1)=i+1+j by omega];exact f,by simpa using g,fun a=> ?_⟩;simp only[upL,ax b,dO,aK,<-q a,d];rfl
   ·right;refine⟨by simp[lk,b,m],f,fun a=> ?_⟩;simp only[upL,ax b,q a,List.cons_append]
theorem P7 {w:World}{b:Nat}{L:List (Int×Int)}(h:ut w b L)(k:Int):(Instr.lookup 286 (.map (some b)) (ag k) true).run prog w= .ok (.tuple #[ag ((lk L k).getD 0),.bool (lk L k).isSome]) w:=by
 obtain⟨g,c,e,i⟩:=h;have f: ∀z,(Instr.checkKey z 10000 3 (ag k)).run prog w= .ok () w:=fun z=>MapKept.run_checkKey (k:=ag k) vz (by simp[MapKept.IsKey]) z 9999;have l:(zeroValue 3).run prog w= .ok (ag 0) w:=by kernel_rfl
 rcases F4 k g.toList L 0 i with⟨v,j,a,d,_,_⟩|⟨a,d,_⟩
 ·simp[Instr.lookup,gu BG,fZ e,f,gS vz d,Result.andThen,a]
 ·simp[Instr.lookup,gu BG,fZ e,f,gS vz d,l,Result.andThen,a]
def tu (w:World)(b:Nat)(o:Obj):World:={w with heap:=w.heap.setIfInBounds b o}
theorem yE {r n:Nat}{a w:World}(h:Below n a w)(c:n<=r)(o:Obj):Below n a (tu w r o):=
 ⟨h.os,h.tape,h.output,by simpa[tu] using h.size,fun k b=>by
   rw[<-h.block k b];show(w.heap.setIfInBounds r o)[k]? =_;rw[dx (by omega)]⟩
theorem yF {r k:Nat}{w:World}(o:Obj)(h:k≠r):(tu w r o).heap[k]? =w.heap[k]? :=by
 show(w.heap.setIfInBounds r o)[k]? =_;rw[dx (by omega)]
theorem OR {w:World}{b:Nat}{L:List (Int×Int)}(h:ut w b L)(k v:Int): ∃o,(Instr.mapUpdate 286 (.map (some b)) (ag k) (ag v)).run prog w= .ok () (tu w b o)/\ut (tu w b o) b (upL L k v):=by
 obtain⟨a,c,g,r⟩:=h;have s:(Instr.checkKey false 10000 3 (ag k)).run prog w= .ok () w:=MapKept.run_checkKey (k:=ag k) vz (by simp[MapKept.IsKey]) false 9999;rcases F4 k a.toList L 0 r with⟨A,j,t,l,f,n⟩|⟨t,l,n⟩
 ·have p:(Instr.keyThatStays (ag k) (ag k)).run prog w= .ok (ag k) w:=MapKept.run_keyThatStays (d:= .int .i64) (by simp[MapKept.IsKey])
  have i:(Option.map (fun x=>x.key) a[j]?).getD (ag k)=ag k:=by
   rw[bx]at f;cases he:a[j]? with
   |none=>rfl
   |some e=>
    rw[he]at f;simp[kv9]at f;simp[f.1]
  refine⟨.map (a.modify j fun e=>{e with key:=ag k,val:=ag v}) c,?_,_,c,(MapKept.heap_set g).1,?_⟩
  ·rw[cY]at l;simp[Instr.mapUpdate,gu BG,fZ g,s,gS vz l,i,p,MapKept.run_setObj_map _ g,Result.andThen,tu]
  ·rw[n v];rw[bx]at f;apply List.ext_getElem?;intro q;simp only[a8,bx,Array.getElem?_modify,List.getElem?_set];by_cases m:j=q
   ·subst m;rw[aB rfl,aB rfl];cases he:a[j]? with
    |none=>rw[he]at f;simp at f
    |some e=>
     have u:j<a.size:=(dr.1 he).1;simp[kv9,u]
   ·rw[ax m,ax m]
 ·refine⟨.map (a.push ⟨ag k,ag v,c⟩) (c+1),?_,_,c+1,(MapKept.heap_set g).1,?_⟩
  ·simp[Instr.mapUpdate,gu BG,fZ g,s,gS vz l,MapKept.run_setObj_map _ g,Result.andThen,tu]
  ·rw[n v,Array.toList_push,dZ,r];simp[uq,kv9]
theorem P8 (w:World):(Instr.makeMap 286 none).run prog w= .ok (.map (some w.heap.size)) (w.alloc (.map #[] 0)):=by
 unfold Instr.makeMap;simp[go_sem]
structure MmI (w:World)(L:List (Int×Int))(W:World):Prop where
 bel:aq w W
 map:ut W w.heap.size L
 var:W.heap[w.heap.size+1]? =ah #[.map (some w.heap.size)] 286
theorem MmI.below {w W b:World}{L:List (Int×Int)}(h:MmI w L W)(a:aq W b):MmI w L b:=
 ⟨aw h.bel a,h.map.later (a.block _ (F3 h.map)),ai a h.var⟩
theorem qv (L:List (Int×Int))(p h:Int)(w W:World)(d:MmI w L W):Calls prog 228 #[ag p,ag h,ab (w.heap.size+1) 0] W fun e w'=>e= .returned (.bool (agB L p h))/\w'=W:=by
 have a:=P7 d.map p;have z:=ak 0 d.var;generalize b:agB L p h=X;unfold agB at b;clear d;cases hl:lk L p with
 |none=>
  rw[hl]at a b;have c:(Instr.lookup 286 (.map (some w.heap.size)) (ag p) true).run prog W= .ok (.tuple #[ag 0,.bool false]) W:=a;dsimp only at b;subst b;clear a hl;go_enter func228,ntmps228;go_wp2_with fail;go_ret;exact⟨rfl,rfl⟩
 |some v=>
  rw[hl]at a b;have c:(Instr.lookup 286 (.map (some w.heap.size)) (ag p) true).run prog W= .ok (.tuple #[ag v,.bool true]) W:=a;dsimp only at b;have f:(v==h)=X:=(by rw[<-b];rfl);clear a hl b;go_enter func228,ntmps228;go_wp2_with fail;go_ret;exact⟨rfl,rfl⟩
def F5 (a:List Cd)(l:List In)(h s:Int)(ok:Bool):Prop:=(ok=true↔mw l)/\(ok=true->h=mxH a l l.length/\s=stS a l l.length)
def P9 (a:List Cd)(l:List In)(w:World)(e:Ending)(w':World):Prop:= ∃(h s:Int) (ok:Bool),e= .returned (.tuple #[ag h,ag s,.bool ok])/\F5 a l h s ok/\aq w w'
theorem vA {cs:List Cd}{l:List In}(h: ¬mw l):F5 cs l 0 0 false:=⟨⟨fun e=>(by cases e),fun e=>absurd e h⟩,fun e=>(by cases e)⟩
def F6 (b:List Cd)(l:List In)(w:World)(c d e a:Value)(wr:World):Prop:= ∃(j:Nat) (L:List (Int×Int)),a=ag (j:Int)/\j<=l.length/\e=ag (hAt l j)/\c=ag (mxH b l j)/\d=ag ((l.length:Int)+(stS b l j-j))/\me l j L/\MmI w L wr
theorem vB {i:List Cd}{l:List In}{w W:World}{a b c d e f g j:Int}(h:F6 i l w (ag a) (ag b) (ag c) (ag d) W)(k:e=a)(m:f=b)(n:g=c)(o:j=d):F6 i l w (ag e) (ag f) (ag g) (ag j) W:=by
 subst k m n o;exact h
theorem CA (d:List Cd)(l:List In)(lv sv:Value)(w:World)(h:InV w lv d)(hs:pK w sv l)(af: ∀(i:Nat) (c:Cd),d[i]? =some c->aloneE c d.length=0)(bb:l.length<=2000)(ao: ∀(j:Nat) (x:In),l[j]? =some x->gg x j l.length d.length=0):
  Calls prog 215 #[lv,sv] w (P9 d l w):=by
 obtain⟨p,cp,rfl,aO,hc⟩:=h.form;obtain⟨pu,cu,rfl,bc,av⟩:=hs.form;have HC:=ba hc;have y:=ba av;have z:=ba ao;have r:=ba (M9 af);have A:=ba af;have s:=ba (KO af);have q:Rb (Tos l):=fun j x hx V=>sK (ao j x hx) V;have b1:=am w (.map #[] 0);have b2:=b1.alloc b1.size (.cells #[.map (some w.heap.size)] 286);have a6:=P8 w;have s1:(w.alloc (.map #[] 0)).heap.size=w.heap.size+1:=by simp
 have ad:MmI w [] ((w.alloc (.map #[] 0)).alloc (.cells #[.map (some w.heap.size)] 286)):=by
  refine⟨b2,⟨#[],0,(dQ _ _ _ (by rw[s1];omega)).trans (aG w _),rfl⟩,?_⟩;have:=aG (w.alloc (.map #[] 0)) (.cells #[.map (some w.heap.size)] 286);rw[s1]at this;exact this
 have aY:(0:Int)<=(l.length:Int):=by omega
 have aZ:(l.length:Int)<=2000:=by omega
 have aq:=ba ad;have bd: ∀(fn:Fn) (first cap:Array Value) (w:World),(Instr.makeFunc fn first cap).run prog w= .ok (.func fn first cap) w:=fun _ _ _ _=>rfl;generalize aA:(w.alloc (.map #[] 0)).alloc (.cells #[.map (some w.heap.size)] 286)=wB at*;clear h hs hc av af ao b1 b2 ad s1;go_enter func215,ntmps215;go_wp2_with fail;clear a6 aA;have ad:=aq.o;clear aq;go_loopw [4,5,7,20] (fun t4 t5 t7 aC wr=>F6 d l w t4 t5 t7 aC wr) (fun _ _ _ t _=>l.length-(intOf t).toNat);case atStart=>exact⟨0,[],rfl,by omega,rfl,rfl,by simp[stS],me.nil l,ad⟩
 case round=>
  obtain⟨j,L,rfl,hj,rfl,rfl,rfl,I,hm⟩:=hrel;clear ad;have aV:(0:Int)<=(j:Int):=(by omega);have a0:=oj (l:=l) j;have a1:=sN (l:=l) r.o j;have a2:=sP (l:=l) s.o j;obtain⟨aE,aF⟩:=a0;obtain⟨aH,aI⟩:=a1;obtain⟨aJ,aK⟩:=a2;have aW:(j:Int)<=2000:=(by omega);have aL:stS d l j<=50000000:=(by omega);by_cases a5:j<l.length
  ·have aw:(j:Int)<(l.length:Int):=(by omega);obtain⟨x,g⟩: ∃x,l[j]? =some x:=⟨l[j],ay a5⟩
   obtain⟨sk,al,g2,o2,ap,e0,e1,e2,e3,e4⟩:=y.o j _ g;subst ap;have d0:=aj hm.bel e0;have d1:=aj hm.bel e1;have d2:=aj hm.bel e2;have d3:=aj hm.bel e3;have d4:=aj hm.bel e4;have hE:=z.o j _ g;have Q:=jN g;have E:=kT (cs:=d) g;have F:=kh (cs:=d) g;have a7:=P6 x;have a4:=yD x;have cX:=Cx x;obtain⟨ps,ck,rfl,_,_⟩:=al.form;have bI:=am wr (.cells #[ag x.op,ag x.a,ag x.b,ag x.to,.slice ps x.sp.length ck] 216);have ah:=aG wr (.cells #[ag x.op,ag x.a,ag x.b,ag x.to,.slice ps x.sp.length ck] 216);have z0:=ak 0 ah;have z1:=ak 1 ah;have z3:=ak 3 ah;have f:=hm.below bI;generalize be:wr.alloc (.cells #[ag x.op,ag x.a,ag x.b,ag x.to,.slice ps x.sp.length ck] 216)=wI at*;have C:=qv L (j:Int) (hAt l j) w wI f;have m:=cX wI;obtain⟨aP,aQ⟩:=a7;obtain⟨aM,aN⟩:=a4;clear cX al e0 e1 e2 e3 e4 bI ah hm;by_cases G:hAt l j<tk x
   ·have P:=ba (vA (cs:=d) (OL g G));have HB:=ba f.bel;clear C hE Q E F I f HC y z r s q A g;generalize hAt l j=Z at*;generalize tk x=S at*;generalize mxH d l j=X at*;generalize stS d l j=ss at*;go_wp2_with fail;refine m.mono ?_;rintro e H ⟨rfl,rfl⟩;clear m;go_wp2_with fail;exact aX (v:= .tuple #[ag 0,ag 0,.bool false]) (by simp[results,results215,go_sem]) rfl ⟨0,0,false,rfl,P.o,HB.o⟩
   ·have aR: ¬hAt l j<tk x:=G;cases hag:agB L (j:Int) (hAt l j) with
    |false=>
     obtain⟨v,N,O⟩:=rK hag;have P:=ba (vA (cs:=d) (I.not_met N O));have HB:=ba f.bel;rw[hag]at C;clear hag hE Q E F I f HC y z r s q A g N O G;generalize hAt l j=Z at*;generalize tk x=S at*;generalize mxH d l j=X at*;generalize stS d l j=ss at*;go_wp2_with fail;refine m.mono ?_;rintro e H ⟨rfl,rfl⟩;clear m;go_wp2_with fail;refine C.mono ?_;rintro e H ⟨rfl,rfl⟩;clear C;go_wp2_with fail;exact aX (v:= .tuple #[ag 0,ag 0,.bool false]) (by simp[results,results215,go_sem]) rfl ⟨0,0,false,rfl,P.o,HB.o⟩
    |true=>
     rw[hag]at C;have n:=tr hag;clear hag;have ae:tk x<=hAt l j:=(by omega);have D:Rb (∀(W:World) (L':List (Int×Int)),me l (j+1) L'->MmI w L' W->F6 d l w (ag (mxH d l (j+1))) (ag ((l.length:Int)+(stS d l (j+1)-((j+1:Nat):Int)))) (ag (hAt l (j+1))) (ag ((j+1:Nat):Int)) W):=fun W L' h1 h2=>⟨j+1,L',rfl,by omega,rfl,rfl,rfl,h1,h2⟩
     by_cases k:x.op=6
     ·have V:isG x:= .inl k;have a8:=sK hE V;have U:=qv L x.to (hAt l j+1) w wI f;have J:eff x=0:=(by unfold eff;rw[ax (by omega),ax (by omega)]);have R: ¬x.op=8:=(by omega);rw[ax R]at E F;have ac:(x.op==6)=true:=(by rw[k];rfl);cases hag2:agB L x.to (hAt l j+1) with
      |false=>
       obtain⟨v,N,O⟩:=rK hag2;have P:=ba (vA (cs:=d) (I.not_two g V N O));have HB:=ba f.bel;rw[hag2]at U;clear hag2 hE Q E F I f HC y z r s q A g N O G D n V J R k;generalize hAt l j=Z at*;generalize tk x=S at*;generalize mxH d l j=X at*;generalize stS d l j=ss at*;go_wp2_with fail;refine m.mono ?_;rintro e H ⟨rfl,rfl⟩;clear m;go_wp2_with fail;refine C.mono ?_;rintro e H ⟨rfl,rfl⟩;clear C;go_wp2_with fail;refine U.mono ?_;rintro e H ⟨rfl,rfl⟩;clear U;go_wp2_with fail;exact aX (v:= .tuple #[ag 0,ag 0,.bool false]) (by simp[results,results215,go_sem]) rfl ⟨0,0,false,rfl,P.o,HB.o⟩
      |true=>
       rw[hag2]at U;have B:=I.stepG q.o g ae n V (tr hag2);obtain⟨ob,a9,hM⟩:=OR f.map x.to (hAt l j+1);have aa:MmI w (upL L x.to (hAt l j+1)) (tu wI w.heap.size ob):=⟨yE f.bel (aD _) ob,hM,(yF ob (by omega)).trans f.var⟩
       have HN:=ba (D.o _ _ B aa);have zv:=ak 0 f.var;clear hag2 hE I f HC y z r s q A g G D n V R k B hM aa;rw[J]at Q m;generalize hAt l (j+1)=h1 at*;generalize mxH d l (j+1)=m1 at*;generalize stS d l (j+1)=s1 at*;generalize hAt l j=Z at*;generalize mxH d l j=X at*;generalize stS d l j=ss at*;generalize tk x=S at*;go_wp2_with fail;refine m.mono ?_;rintro e H ⟨rfl,rfl⟩;clear m;go_wp2_with fail;refine C.mono ?_;rintro e H ⟨rfl,rfl⟩;clear C;go_wp2_with fail;refine U.mono ?_;rintro e H ⟨rfl,rfl⟩;clear U;go_wp2_with fail;have e1:Z+(S+0-S)=h1:=(by omega);have e2:max X (Z+(S+0-S))=m1:=(by omega);go_roundw;case rel=>exact vB HN.o (by split<;>omega) (by omega) (by omega) (by omega)
       case measure=>simp[intOf];omega
     by_cases K:x.op=7
     ·have k:=K;clear K;have V:isG x:= .inr k;have a8:=sK hE V;have U:=qv L x.to (hAt l j+1) w wI f;have J:eff x=0:=(by unfold eff;rw[ax (by omega),ax (by omega)]);have R: ¬x.op=8:=(by omega);rw[ax R]at E F;have ac:(x.op==6)=false:=(by rw[k];rfl);have ai:(x.op==7)=true:=(by rw[k];rfl);cases hag2:agB L x.to (hAt l j+1) with
      |false=>
       obtain⟨v,N,O⟩:=rK hag2;have P:=ba (vA (cs:=d) (I.not_two g V N O));have HB:=ba f.bel;rw[hag2]at U;clear hag2 hE Q E F I f HC y z r s q A g N O G D n V J R k;generalize hAt l j=Z at*;generalize tk x=S at*;generalize mxH d l j=X at*;generalize stS d l j=ss at*;go_wp2_with fail;refine m.mono ?_;rintro e H ⟨rfl,rfl⟩;clear m;go_wp2_with fail;refine C.mono ?_;rintro e H ⟨rfl,rfl⟩;clear C;go_wp2_with fail;refine U.mono ?_;rintro e H ⟨rfl,rfl⟩;clear U;go_wp2_with fail;exact aX (v:= .tuple #[ag 0,ag 0,.bool false]) (by simp[results,results215,go_sem]) rfl ⟨0,0,false,rfl,P.o,HB.o⟩
      |true=>
       rw[hag2]at U;have B:=I.stepG q.o g ae n V (tr hag2);obtain⟨ob,a9,hM⟩:=OR f.map x.to (hAt l j+1);have aa:MmI w (upL L x.to (hAt l j+1)) (tu wI w.heap.size ob):=⟨yE f.bel (aD _) ob,hM,(yF ob (by omega)).trans f.var⟩
       have HN:=ba (D.o _ _ B aa);have zv:=ak 0 f.var;clear hag2 hE I f HC y z r s q A g G D n V R k B hM aa;rw[J]at Q m;generalize hAt l (j+1)=h1 at*;generalize mxH d l (j+1)=m1 at*;generalize stS d l (j+1)=s1 at*;generalize hAt l j=Z at*;generalize mxH d l j=X at*;generalize stS d l j=ss at*;generalize tk x=S at*;go_wp2_with fail;refine m.mono ?_;rintro e H ⟨rfl,rfl⟩;clear m;go_wp2_with fail;refine C.mono ?_;rintro e H ⟨rfl,rfl⟩;clear C;go_wp2_with fail;refine U.mono ?_;rintro e H ⟨rfl,rfl⟩;clear U;go_wp2_with fail;have e1:Z+(S+0-S)=h1:=(by omega);have e2:max X (Z+(S+0-S))=m1:=(by omega);go_roundw;case rel=>exact vB HN.o (by split<;>omega) (by omega) (by omega) (by omega)
       case measure=>simp[intOf];omega
     by_cases M:x.op=8
     ·have k:=M;clear M K;have a3:=wO hE k;obtain⟨Y,ar⟩: ∃Y:Nat,x.a=(Y:Int):=⟨x.a.toNat,by omega⟩
      have au:Y<d.length:=(by omega);have aS:(0:Int)<=(Y:Int):=(by omega);have aT:(Y:Int)<(d.length:Int):=(by omega);obtain⟨u,hu⟩: ∃u,d[Y]? =some u:=⟨d[Y],ay au⟩
      obtain⟨su,_,g3,o3,ap,k0,k1,k2⟩:=HC.o Y _ hu;subst ap;have q1:=aj f.bel k1;have q2:=aj f.bel k2;have v1:=r.o Y;have v2:=s.o Y;have v3:=(jD (A.o Y _ hu)).2.1.1.1;rw[aB k,show x.a.toNat=Y by omega]at E F;rw[jl hu]at E F v1 v2;obtain⟨bf,bg⟩:=v2;have J:eff x=1:=(by unfold eff;rw[aB (.inr k)]);have ac:(x.op==6)=false:=(by rw[k];rfl);have ai:(x.op==7)=false:=(by rw[k];rfl);have az:(x.op==8)=true:=(by rw[k];rfl);have ab: ¬isG x:=(by unfold isG;omega);have B:=I.step q.o g ae n ab;have HN:=ba (D.o _ _ B f);rw[ar]at z1;clear ar a3;clear hE I f HC y z r s q A g G D n k B ab k0 k1 k2 hu;rw[J]at Q m;clear J;generalize u.high=uh at*;generalize u.steps=us at*;generalize hAt l (j+1)=h1 at*;generalize mxH d l (j+1)=m1 at*;generalize stS d l (j+1)=s1 at*;generalize hAt l j=Z at*;generalize mxH d l j=X at*;generalize stS d l j=ss at*;generalize tk x=S at*;go_wp2_with fail;refine m.mono ?_;rintro e H ⟨rfl,rfl⟩;clear m;go_wp2_with fail;refine C.mono ?_;rintro e H ⟨rfl,rfl⟩;clear C;go_wp2_with fail;go_roundw;case rel=>exact vB HN.o (by repeat (first|omega|split)) (by omega) (by omega) (by omega)
      case measure=>simp[intOf];omega
     ·have ac:(x.op==6)=false:=bm.2 k;have ai:(x.op==7)=false:=bm.2 K;have az:(x.op==8)=false:=bm.2 M;rw[ax M]at E F;have ab: ¬isG x:=(by unfold isG;omega);have B:=I.step q.o g ae n ab;have HN:=ba (D.o _ _ B f);clear hE I f HC y z r s q A g G D n k K M B ab;generalize hAt l (j+1)=h1 at*;generalize mxH d l (j+1)=m1 at*;generalize stS d l (j+1)=s1 at*;generalize hAt l j=Z at*;generalize mxH d l j=X at*;generalize stS d l j=ss at*;generalize tk x=S at*;generalize eff x=ee at*;go_wp2_with fail;refine m.mono ?_;rintro e H ⟨rfl,rfl⟩;clear m;go_wp2_with fail;refine C.mono ?_;rintro e H ⟨rfl,rfl⟩;clear C;go_wp2_with fail;go_roundw;case rel=>exact vB HN.o (by repeat (first|omega|split)) (by omega) (by omega) (by omega)
      case measure=>simp[intOf];omega
  ·have aw: ¬(j:Int)<(l.length:Int):=(by omega);have ej:j=l.length:=(by omega);subst ej;have C:=qv L (l.length:Int) (hAt l l.length) w wr hm;by_cases T:hAt l l.length=1
   ·have HU:Rb (F5 d l (mxH d l l.length) ((l.length:Int)+(stS d l l.length-(l.length:Int))) (agB L (l.length:Int) (hAt l l.length))):=by
     refine⟨?_,fun _=>⟨rfl,by omega⟩⟩;rw[Na,<-I.fin q.o];exact⟨fun e=>⟨T,e⟩,fun e=>e.2⟩
    have HB:=ba hm.bel;clear I hm HC y z r s q A;rw[T]at C HU⊢;generalize mxH d l l.length=X at*;generalize stS d l l.length=ss at*;generalize agB L (l.length:Int) 1=ok at*;go_wp2_with fail;refine C.mono ?_;rintro e H ⟨rfl,rfl⟩;clear C;go_wp2_with fail;exact aX (v:= .tuple #[ag X,ag ((l.length:Int)+(ss-(l.length:Int))),.bool ok]) (by simp[results,results215,go_sem]) rfl ⟨_,_,_,rfl,HU.o,HB.o⟩
   ·have aU:(hAt l l.length==1)=false:=bm.2 T;have HU:Rb (F5 d l (mxH d l l.length) ((l.length:Int)+(stS d l l.length-(l.length:Int))) false):=⟨⟨fun e=>(by cases e),fun e=>absurd e.fin T⟩,fun e=>(by cases e)⟩
    have HB:=ba hm.bel;clear I hm HC y z r s q A C;generalize mxH d l l.length=X at*;generalize stS d l l.length=ss at*;generalize hAt l l.length=Z at*;go_wp2_with fail;exact aX (v:= .tuple #[ag X,ag ((l.length:Int)+(ss-(l.length:Int))),.bool false]) (by simp[results,results215,go_sem]) rfl ⟨_,_,_,rfl,HU.o,HB.o⟩
theorem IE (b:List Cd)(lv:Value)(q:Nat)(w:World)(h:InV w lv b)(r: ∀(i:Nat) (c:Cd),b[i]? =some c->aloneE c b.length=0)(C:q<b.length):
  Calls prog 197 #[lv,ag (q:Int)] w fun e w'=>e= .returned (.bool (oY b (b.getD q cd0)))/\aq w w':=by
 obtain⟨p,T,A,L,K⟩:=h.form;obtain⟨u,y⟩: ∃u,b[q]? =some u:=⟨b[q],ay C⟩
 obtain⟨sv,n,g,o,rfl,M,G,H⟩:=K q u y;have m:=jD (r q u y);rw[jl y];generalize J:oY b u=X;have P:(0:Int)<=(q:Int):=by omega
 have Q:(q:Int)<(b.length:Int):=by omega
 obtain⟨j,hi,st⟩:=u;dsimp only at n G H m;obtain⟨z,v,rfl,_,_⟩:=n.form;have t:=am w (.cells #[.slice z j.length v,ag hi,ag st] 195);have s:=aG w (.cells #[.slice z j.length v,ag hi,ag st] 195);generalize D:w.alloc (.cells #[.slice z j.length v,ag hi,ag st] 195)=R at*;have F:=CA b j lv (.slice z j.length v) R (h.below t) (n.below t) r m.1.2 m.2.2;subst A;have S:=ak 0 s;clear h K r n y m;go_enter func197,ntmps197;go_wp2_with fail;refine F.mono ?_;rintro e U ⟨B,E,ok,rfl,I,b1⟩;have k:=ai b1 s;have V:=ak 1 k;have W:=ak 2 k;have x:=aw t b1;clear F b1 t s k S D M G H
 have a:X=(ok&&(decide (B=hi)&&decide (E=st))):=by
  obtain⟨u1,u2⟩:=I;subst J;cases ok with
  |false=>
   cases hf:oY b ⟨j,hi,st⟩ with
   |false=>rfl
   |true=>exact absurd (u1.2 (mU.1 hf).well) (by simp)
  |true=>
   obtain⟨rfl,rfl⟩:=u2 rfl;by_cases f:mxH b j j.length=hi
   ·by_cases l:stS b j j.length=st
    ·rw[bh f,bh l];exact mU.2 ⟨u1.1 rfl,f,l⟩
    ·rw[bn l];simp only[jo];cases hf:oY b ⟨j,hi,st⟩ with
     |false=>rfl
     |true=>exact absurd (mU.1 hf).steps l
   ·rw[bn f];simp only[Bool.false_and,jo];cases hf:oY b ⟨j,hi,st⟩ with
    |false=>rfl
    |true=>exact absurd (mU.1 hf).high f
 clear J I;cases ok with
 |false=>
  have d:X=false:=a;subst d;clear a;go_wp2_with fail;go_ret;exact⟨rfl,x⟩
 |true=>
  by_cases f:B=hi
  ·by_cases l:E=st
   ·rw[bh f,bh l]at a;have d:X=true:=a;subst d f l;clear a;go_wp2_with fail;go_ret;exact⟨rfl,x⟩
   ·rw[bh f,bn l]at a;have d:X=false:=a;subst d f;have O:(E==st)=false:=bm.2 l;clear a l;go_wp2_with fail;go_ret;exact⟨rfl,x⟩
  ·rw[bn f]at a;have d:X=false:=(by rw[a];simp);subst d;have N:(B==hi)=false:=bm.2 f;clear a f;go_wp2_with fail;go_ret;exact⟨rfl,x⟩
theorem F7 (a:List Cd)(lv:Value)(o m n d:Nat)(w:World)(h:InV w lv a)(D:w.cell? (ae o 0)=some (.slice (some (ae m 0)) a.length a.length))(t:w.heap[m]? =ah (iR a.length (wars (gL a) a.length)) 53)
  (C:w.cell? (ae n 0)=some lv) (s:a.length<=40) (l: ∀(i:Nat) (c:Cd),a[i]? =some c->aloneE c a.length=0) (k:d<a.length):
  Calls prog 195 #[ag (d:Int),ab o 0,ab n 0] w fun e w'=>e= .returned (ag (qu a d))/\aq w w':=by
 have E:=(aZ _ _ d _ _ _ t).trans (AM k);have cH:=EI (wars (gL a) a.length d) d (by omega) w;have cF:=IE a lv d w h l k;obtain⟨p,y,rfl,q,A⟩:=h.form;have u:(0:Int)<=(d:Int):=by omega
 have v:(d:Int)<(a.length:Int):=by omega
 generalize g:qu a d=X;unfold qu at g;generalize z:wars (gL a) a.length d d=b at*;generalize B:oY a (a.getD d cd0)=f at*;cases b with
 |true=>
  rw[aB rfl]at g;subst g;generalize wars (gL a) a.length d=W at*;go_enter func195,ntmps195;go_wp2_with fail;refine cH.mono ?_;rintro e r ⟨rfl,rfl⟩;go_wp2_with fail;go_ret;exact⟨rfl,aH _ _⟩
 |false=>
  rw[ax (by simp)]at g;generalize wars (gL a) a.length d=W at*;cases f with
  |true=>
   rw[aB rfl]at g;subst g;go_enter func195,ntmps195;go_wp2_with fail;refine cH.mono ?_;rintro e r ⟨rfl,rfl⟩;go_wp2_with fail;refine cF.mono ?_;rintro e x ⟨rfl,j⟩;go_wp2_with fail;go_ret;exact⟨rfl,j⟩
  |false=>
   rw[ax (by simp)]at g;subst g;go_enter func195,ntmps195;go_wp2_with fail;refine cH.mono ?_;rintro e r ⟨rfl,rfl⟩;go_wp2_with fail;refine cF.mono ?_;rintro e x ⟨rfl,j⟩;go_wp2_with fail;go_ret;exact⟨rfl,j⟩
theorem F8 (a:List Cd)(lv:Value)(w:World)(h:InV w lv a):
  Calls prog 179 #[lv] w fun e w'=>e= .returned (.agg #[ag (jT a).1,ag ((jT a).2:Int)])/\aq w w':=by
 obtain⟨p,J,b,k,hc⟩:=h.form;generalize j:jT a=X;unfold jT at j;have D:aq w ((w.alloc (.cells #[lv] 68)).alloc (.cells #[ag 0,ag 0] 48)):=(am _ _).alloc (by simp) _;have y:((w.alloc (.cells #[lv] 68)).alloc (.cells #[ag 0,ag 0] 48)).heap[w.heap.size]? =ah #[lv] 68:=by(repeat (first|refine dt _ _ _ (by simp only[aV];omega) ?_|exact dJ _ _ _ (by first|rfl|simp only[aV])))
 have f:((w.alloc (.cells #[lv] 68)).alloc (.cells #[ag 0,ag 0] 48)).heap[w.heap.size+1]? =ah #[ag 0,ag 0] 48:=by(repeat (first|refine dt _ _ _ (by simp only[aV];omega) ?_|exact dJ _ _ _ (by first|rfl|simp only[aV])))
 generalize ao:(w.alloc (.cells #[lv] 68)).alloc (.cells #[ag 0,ag 0] 48)=wA at*;have z0:=ak 0 y;have af:(0:Int)<=(a.length:Int):=by omega
 have ad: ∀(fn:Fn) (first cap:Array Value) (w:World),(Instr.makeFunc fn first cap).run prog w= .ok (.func fn first cap) w:=fun _ _ _ _=>rfl;by_cases hm:40<a.length
 ·have Q:(40:Int)<(a.length:Int):=by omega
  rw[aB hm]at j;subst j b;go_enter func179,ntmps179;go_wp2_with(refine az rfl 48 _ _ rfl _ _ rfl rfl _ _ f (by kernel_rfl) (by simp) (by simp[Value.oneCell']) ?_)
  exact rh 2 (by kernel_rfl) (w.heap.size+1) 5 0 rfl rfl (aL _ _ _ _ _ _ f) ⟨rfl,below_setRow D (by omega) _⟩
 ·have Q: ¬(40:Int)<(a.length:Int):=by omega
  rw[ax hm]at j
  have c1:=sM (fun i=>aloneE (a.getD i cd0) a.length) a.length 192 #[ab w.heap.size 0] p J wA k (fun _ _=>by simp[go_sem]) fun i wr hi m=>by
   exact F0 a lv w.heap.size i wr ((h.below D).below m) (aj m z0) hi
  rw[<-b]at c1;by_cases n:(gW (fun i=>aloneE (a.getD i cd0) a.length) a.length 0).1=0
  ·rw[ax (fun e=>e n)]at j;obtain⟨L,M⟩:=pR _ _ n;rw[L]at c1
   have R: ∀(i:Nat) (c:Cd),a[i]? =some c->aloneE c a.length=0:=fun i c hi=>by
    have:=M i (by omega) (by have:=(aF.1 hi).1;omega);rw[jl hi]at this;exact this
   have v:=ba R;have u:=ba h;have HX:=ba j;have W:=ba b;have sv1: ∃p c,lv= .slice p a.length c:=⟨p,J,b⟩
   subst b;go_enter func179,ntmps179;go_wp2_with fail;refine c1.mono ?_;rintro e l ⟨rfl,d⟩;dsimp only;have b1:=aw D d;have N:=ai d y;have q:=ai d f;have I:=am l (.cells #[ag 0,ag 0] 48);have B:=aG l (.cells #[ag 0,ag 0] 48);generalize al:l.alloc (.cells #[ag 0,ag 0] 48)=V at*;have r:=below_setRow I (aD _) #[ag 0,ag 0];have G:=aL _ _ _ #[ag 0,ag 0] _ _ B;have z:=ai r N;have g:=ai r q;have b2:=aw b1 r;generalize U:V.setRow l.heap.size #[ag 0,ag 0]=s at*;have z2:=ak 0 z;have zF:=ak 0 G;have c2:=Cz a _ s (u.o.below b2) (by omega) v.o;go_wp2_with(refine az rfl 48 _ _ rfl _ _ rfl rfl _ _ B (by kernel_rfl) (by simp) (by simp[Value.oneCell']) ?_)
   refine c2.mono ?_;rintro e C ⟨rfl,F⟩;have O:=ai F.bel z;have S:=ai F.bel g;have b3:=aw b2 F.bel;have E:=am C (.cells #[.slice (some (ae s.heap.size 0)) a.length a.length] 253);have nR:=aG C (.cells #[.slice (some (ae s.heap.size 0)) a.length a.length] 253);have P:=ai E O;have T:=ai E S;have K:=ai E F.row;have Y:=aw b3 E;generalize an:C.alloc (.cells #[.slice (some (ae s.heap.size 0)) a.length a.length] 253)=w4 at*;have z4:=ak 0 P;have zR:=ak 0 nR
   have Z:=sM (qu a) a.length 195 #[ab C.heap.size 0,ab w.heap.size 0] p J w4 k (fun _ _=>by simp[go_sem]) fun i wr hi m=>by
    exact F7 a _ C.heap.size s.heap.size w.heap.size i wr ((u.o.below Y).below m) (aj m zR) (ai m K) (aj m z4) (by omega) v.o hi
   rw[HX.o]at Z;go_wp2_with fail;refine Z.mono ?_;rintro e w5 ⟨rfl,x⟩;have A:=ai x T;have b5:=aw Y x;go_wp2_with(refine az rfl 48 _ _ rfl _ _ rfl rfl _ _ A (by kernel_rfl) (by simp) (by simp[Value.oneCell']) ?_)
   exact rh 2 (by kernel_rfl) (w.heap.size+1) X.1 (X.2:Int) rfl rfl (aL _ _ _ _ _ _ A) ⟨rfl,below_setRow b5 (by omega) _⟩
  ·rw[aB n]at j;rw[j]at n c1;obtain⟨t,H⟩:=X;dsimp only at n c1⊢;have aa:(t==0)=false:=bm.2 n;have ac:(t !=0)=true:=(by simpa using n);subst b;go_enter func179,ntmps179;go_wp2_with fail;refine c1.mono ?_;rintro e l ⟨rfl,d⟩;have b1:=aw D d;have q:=ai d f;have r:=am l (.cells #[ag t,ag (H:Int)] 48);have G:=aG l (.cells #[ag t,ag (H:Int)] 48);have g:=ai r q;have b2:=aw b1 r;generalize U:l.alloc (.cells #[ag t,ag (H:Int)] 48)=s at*;have zF:=ak 0 G
   go_wp2_with(first
    |(refine aR rfl 48 _ rfl _ rfl _ _ _ _ G mz rfl (by kernel_rfl) ?_)
    |(refine az rfl 48 _ _ rfl _ _ rfl rfl _ _ g (by kernel_rfl) (by simp) (by simp[Value.oneCell']) ?_))
   exact rh 2 (by kernel_rfl) (w.heap.size+1) t (H:Int) rfl rfl (aL _ _ _ _ _ _ g) ⟨rfl,below_setRow b2 (by omega) _⟩
def eqm (f g:Nat->Bool):Bool:=(List.range 23).all fun k=>wd f k==wd g k
theorem CB {f g:Nat->Bool}(h: ∀i,i<1472->f i=g i):eqm f g=true:=by
 unfold eqm;rw[dD];intro k a;have b:k<23:=by simpa using a
 rw[nO (f:=f) (g:=g) fun j c=>h _ (by omega)];simp
theorem xi {f g:Nat->Bool}(h:eqm f g=true)(i:Nat)(hi:i<1472):f i=g i:=by
 unfold eqm at h;rw[dD]at h;have b:=h (i/64) (by simp;omega);have a:=Ok (by simpa using b) (i%64) (by omega);have e:64*(i/64)+i%64=i:=by omega
 rw[e]at a;exact a
theorem Nb: ∃i,prog.info? 53=some i/\prog.cellsOf 53=1:=⟨_,rfl,by kernel_rfl⟩
theorem EJ:prog.underlying 53=some (.int .u64):=by kernel_rfl
theorem EK (f:Nat->Bool)(k:Nat)(a:k<23)(w:World):(Go.part 53 (mv f) (k*1)).run prog w= .ok (.int .u64 (wd f k:Int)) w:=by
 simp[Go.part,isAgg,gu EJ,qM f k a]
theorem yG (f g:Nat->Bool)(w:World)(d:Nat): ∀l:List Nat,(∀k∈l,k<23)->(Op.eqItems (d+1) 53 1 (mv f) (mv g) l).run prog w= .ok (l.all fun k=>wd f k==wd g k) w
 |[],_=>by simp[Op.eqItems]
 |k::l,h=>by
  have c:=yG f g w d l fun j b=>h j (by simp[b]);have a:=h k (by simp);simp only[Op.eqItems,j8,EK f k a,EK g k a,iA,run_equalIn_int w d 53 .u64 .u64 _ _ EJ,List.all_cons]
  have e:(((wd f k:Nat):Int)==((wd g k:Nat):Int))=(wd f k==wd g k):=by
   rw[Bool.eq_iff_iff];simp only[beq_iff_eq];omega
  rw[e];cases(wd f k==wd g k)
  ·simp
  ·simpa using c
theorem Nc (f g:Nat->Bool)(w:World):(Op.equalIn 10000 55 (.agg (mv f)) (.agg (mv g))).run prog w= .ok (eqm f g) w:=by
 obtain⟨i,hi,a⟩:=Nb;rw[run_equalIn_array w 9999 (mv f) (mv g) dm hi,a];exact yG f g w 9998 _ fun k b=>by simpa using b
theorem OS (f:Nat->Bool)(W:World):(Instr.buildSlice 46 1 #[(0,.agg (mv f))]).run prog W= .ok (.slice (some (ae W.heap.size 0)) 1 1) (W.alloc (.cells (mv f) 55)):=by
 kernel_rfl
theorem IF {o:Oper}{a:Act}{w:World}{K:Act->World->Prop}{Q:Exit->Act->World->Prop}(x:Operand)(c:o.op= .buildSlice 46 1 #[(0,x)])(f:Nat->Bool)(d:a.eval x= .agg (mv f))
  (h:K (a.put o.dst (.slice (some (ae w.heap.size 0)) 1 1)) (w.alloc (.cells (mv f) 55))):o.wp prog a w K Q:=by
 unfold Oper.wp execOp;have b:=OS f w;simp only[c,d,jp,dO,fA,j8,lg,iA,b];exact h
def kN (S:List M):List Value:=S.flatMap fun f=>(mv f).toList
theorem AN: ∀S:List M,(kN S).length=S.length*23
 |[]=>rfl
 |f::S=>by
  have:=AN S;unfold kN at this⊢;rw[List.flatMap_cons,aP,this];have h:(mv f).toList.length=23:=(by rw[df];exact di f);rw[h,bV];omega
theorem tw (S:List M)(f:M):kN (S++[f])=kN S++(mv f).toList:=by
 unfold kN;rw[fG];simp
theorem sQ (f:M):(mv f).toList.length=23:=by rw[df];exact di f
theorem iG {w w':World}{a:Nat}{e:TypeId}{size n:Nat}{v:Value}{xs:List Value}(h:w.ownsRow a e size v n xs)(b:aq w w'):w'.ownsRow a e size v n xs:=by
 refine h.kept (row:=none) ⟨b.os,b.tape,b.output,b.size,fun k c _=>b.block k c⟩ ?_;cases hv:v.ownBlock with
 |none=>exact .inl rfl
 |some g=>exact .inr (by simp)
structure VSt (w0:World)(gm:Nat)(lv:Value)(day:Int)(S:List M)(k:Int)(W:World):Prop where
 bel:aq w0 W
 gt:w0.heap.size<=gm
 row: ∃sv,W.heap[gm]? =ah #[lv,ag day,sv,ag k] 240/\W.ownsRow w0.heap.size 55 23 sv S.length (kN S)
theorem VSt.below {c W b:World}{gm:Nat}{lv:Value}{day k:Int}{S:List M}(h:VSt c gm lv day S k W)(a:aq W b):VSt c gm lv day S k b:=by
 obtain⟨d,e,sv,f,g⟩:=h;exact⟨aw d a,e,sv,ai a f,iG g a⟩
theorem IG:(prog.info? 55).map (fun i=>(i.zero,i.size,i.bytes))=some (some (.agg #[.int .u64 0, .int .u64 0, .int .u64 0, .int .u64 0, .int .u64 0, .int .u64 0, .int .u64 0, .int .u64 0, .int .u64 0, .int .u64 0, .int .u64 0, .int .u64 0, .int .u64 0, .int .u64 0, .int .u64 0, .int .u64 0, .int .u64 0, .int .u64 0, .int .u64 0, .int .u64 0, .int .u64 0, .int .u64 0, .int .u64 0]),23,184):=by kernel_rfl
theorem II:prog.underlying 46=some (.slice 55):=by kernel_rfl
structure OT (base:Nat)(sv:Value)(n:Nat)(xs:List Value)(f:M)(W1:World)(R:World->Prop)(D:Nat->Bool)(φ:Nat->Value)(W:World):Prop where
 grown:D 10=false->W1.grownBy W sv.ownBlock
 own:D 7=false->W.ownsRow base 55 23 sv n xs
 one:D 6=true->D 7=false-> ∃g,φ 10= .slice (some (ae g 0)) 1 1/\W.heap[g]? =ah (mv f) 55
 app:D 7=true->D 10=false->W.ownsRow base 55 23 (φ 11) (n+1) (xs++(mv f).toList)
 fin:D 10=true->R W
theorem pL {c W b:World}{row:Option Nat}(h:c.grownBy W row)(a:aq W b):c.grownBy b row:=
 ⟨a.os.trans h.os,a.tape.trans h.tape,a.output.trans h.output,bg h.size a.size,fun k d e=>(a.block k (aU d h.size)).trans (h.block k d e)⟩
theorem vZ {c W b:World}{row:Option Nat}(h:c.grownBy W row)(a:W.grownBy b row):c.grownBy b row:=
 ⟨a.os.trans h.os,a.tape.trans h.tape,a.output.trans h.output,bg h.size a.size,fun k d e=>(a.block k (aU d h.size) e).trans (h.block k d e)⟩
theorem vC (g o n:Nat):(⟨g,o,none⟩:Addr).add n=⟨g,o+n,none⟩:=by
 by_cases h:n=0
 ·subst h;simp[Addr.add]
 ·simp[Addr.add,h]
theorem vD (y:World)(gm:Nat)(lv:Value)(day k:Int)(S:List M)(f:M)(W:World)(h:VSt y gm lv day S k W)(hS:S.length<=1000):
  Calls prog 216 #[ab gm 0,.agg (mv f)] W fun e v=>e= .returned (.tuple #[])/\VSt y gm lv day (S++[f]) k v/\ ∀(q:Nat) (c:Array Value) (T:TypeId),W.heap[q]? =ah c T->T≠55->q≠gm->v.heap[q]? =ah c T:=by
 obtain⟨z,hgt,sv,Z,d⟩:=h;obtain⟨i0,hi,V,an,ao⟩:=jw IG;have HZ:=ba V;have N:=am W (.cells (mv f) 55);have X:=aG W (.cells (mv f) 55);have Y:=ai N Z;have i:=iG d N;have B:=lj i Y (by decide)
 have A:some W.heap.size≠sv.ownBlock:=fun e=>by
  have:=(d.lt _ e.symm).2;omega
 have b:=aw z N;have ad:=b.size;obtain⟨p0,c0,af⟩:=cg d;subst af;have aa:Rb (∀(q:Nat) (c:Array Value) (T:TypeId),W.heap[q]? =ah c T->(W.alloc (.cells (mv f) 55)).heap[q]? =ah c T):=fun q c T x=>ai N x;obtain⟨gb,Q⟩:=au W.heap.size;generalize al:W.alloc (.cells (mv f) 55)=wB at*;rw[Q]at A;have nB:wB.heap[gb]? =ah (mv f) 55:=by rw[<-Q];exact X
 clear V X Z d N z;go_enter func216,ntmps216;go_wp2_with fail;clear al;refine dl (OT y.heap.size (.slice p0 S.length c0) S.length (kN S) f wB fun v=>VSt y gm lv day (S++[f]) k v/\ ∀(q:Nat) (c:Array Value) (T:TypeId),W.heap[q]? =ah c T->T≠55->q≠gm->v.heap[q]? =ah c T) [kn 4 (ab gm 0),kn 5 (ab gm 0),kn 6 (ab gm 0),kn 7 (ab gm 2),kn 8 (.slice p0 S.length c0),kn 9 (.agg (mv f)),td 10,td 11,kn 12 (ab gm 0),kn 13 (ab gm 2),nk] (fun _=>⟨fun _=>⟨rfl,rfl,rfl,aD _,fun _ _ _=>rfl⟩,fun _=>i,(fun h=>by cases h),(fun h=>by cases h),(fun h=>by cases h)⟩) (fun _ _ _ _ w h=>⟨fun e=>pL (h.grown e) w,fun e=>iG (h.own e) w,fun e e'=>(h.one e e').imp fun _ q=>⟨q.1,ai w q.2⟩,fun e e'=>iG (h.app e e') w,fun e=>⟨(h.fin e).1.below w,fun q c T O h2 h3=>by have:=(h.fin e).2 q c T O h2 h3;exact ai w this⟩⟩) (by kernel_rfl) (fun D φ s m P F l hl E=> ?_) (fun D φ s hM m=> ?_)
 ·simp only[kn,td,nk,dX,aQ,aT,Act.put,aA,aK,aJ]at hl;subst hl;simp only[dn,Nat.reduceAdd]at E
  have j:D 7=false->D 10=false:=fun h7=>by
   cases h:D 10 with
   |false=>rfl
   |true=>rw[P 10 _ rfl h ⟨7,.data⟩ (by simp) rfl rfl]at h7;cases h7
  dsimp only[kn,td,nk,dy,eJ,dY,Act.put];and_intros;all_goals first|exact trivial|intro hw hn J K I
  all_goals try (go_simp;with_reducible exact I _ _ ⟨rfl,aH _ _⟩)
  ·have n:=((m.grown (j (hn 7 _ rfl (by kernel_rfl)))).block _ (aI Y) B).trans Y;have z2:=ak 2 n;go_simp;exact I _ _ ⟨rfl,aH _ _⟩
  ·have r:D 7=false:=by
    cases h:D 7 with
    |false=>rfl
    |true=>
     have:=hn 6 _ rfl (by kernel_rfl);rw[P 7 _ rfl h ⟨6,.data⟩ (by simp) rfl rfl]at this;cases this
   have ap:=((m.grown (j r)).block _ (aI nB) A).trans nB;refine eN 55 _ rfl _ (by simp[Act.eval,E]) _ _ _ _ ap dm rfl (bl _) ?_;exact I _ _ ⟨rfl,aH _ _⟩
  ·have w:=am s (.cells (mv f) 55);have r:=hn 7 _ rfl (by kernel_rfl);refine IF _ rfl f (by simp[Act.eval,E]) ?_;exact I _ _ ⟨trivial,fun _=>pL (m.grown (j r)) w,fun _=>iG (m.own r) w,fun _ _=>⟨_,dV ..,aG s _⟩,(fun h=>by simp[r]at h),(fun h=>by simp[j r]at h)⟩
  ·obtain⟨g,ac,hh⟩:=m.one (hw ⟨6,.data⟩ (by simp) rfl rfl) J;have t:=m.grown (j J);rw[ac]at E;refine wp_append_own s _ _ 46 rfl y.heap.size 55 i0 _ 23 184 II hi HZ.o an ao rfl (by decide) (.slice p0 S.length c0) S.length (kN S) (by simp[Act.eval,E]) (m.own J) ⟨g,0,none⟩ 1 1 (mv f).toList (by simp[Act.eval,E]) (sQ f) ?c1 ?c2 ?c3 ?c4 ?c5 ?_
   case c1=>
    intro q u x;rw[vC];exact(aZ _ _ _ _ _ _ hh).trans (by rw[cY,<-bx];exact x)
   case c2=>
    intro u hu;have:=dW f;rw[Array.all_eq_true_iff_forall_mem]at this;exact this u (Array.mem_def.2 hu)
   case c3=>unfold maxLen;omega
   case c4=>omega
   case c5=>exact bg ad t.size
   intro v' v U G _;exact I _ _ ⟨trivial,fun _=>vZ t G,(fun e=>by simp at e),(fun _ e=>by simp at e),fun _ _=>by rw[dV];exact U,(fun e=>by simp[j J]at e)⟩
  ·have a:=m.app (hw ⟨7,.data⟩ (by simp) rfl rfl) J;have t:=m.grown J;have q7:=hw ⟨7,.data⟩ (by simp) rfl rfl;obtain⟨L,H,aj⟩:=cg a;rw[aj]at E a;have n:=(t.block _ (aI Y) B).trans Y;have z2:=ak 2 n;have y2:=bo _ _ 2 _ _ n;have R:=lj a n (by decide);have nS:(s.setCell ⟨gm,2,none⟩ (.slice L (S.length+1) H)).heap[gm]? =ah #[lv,ag day,.slice L (S.length+1) H,ag k] 240:=aY s gm 2 _ _ _ n
   have bS:aq y (s.setCell ⟨gm,2,none⟩ (.slice L (S.length+1) H)):=by
    refine Below.setCell (p:=⟨gm,2,none⟩) ⟨t.os.trans b.os,t.tape.trans b.tape,t.output.trans b.output,bg b.size t.size,fun q x=> ?_⟩ hgt _;refine(t.block q (aU x b.size) fun e=> ?_).trans (b.block q x);have:=(i.lt _ e.symm).1;omega
   have C:(s.setCell ⟨gm,2,none⟩ (.slice L (S.length+1) H)).ownsRow y.heap.size 55 23 (.slice L (S.length+1) H) (S++[f]).length (kN (S++[f])):=by
    rw[tw,aP,d9];refine a.kept (row:=some gm) ⟨rfl,rfl,rfl,by simp,fun q x hr=>aO s ⟨gm,2,none⟩ q _ fun e=>hr (congrArg some e)⟩ (.inr fun e=>R e.symm)
   have HJ:Rb (∀φ',OT y.heap.size (.slice p0 S.length c0) S.length (kN S) f wB (fun v=>VSt y gm lv day (S++[f]) k v/\ ∀(q:Nat) (c:Array Value) (T:TypeId),W.heap[q]? =ah c T->T≠55->q≠gm->v.heap[q]? =ah c T) (fun k=>decide (10=k)||D k) φ' (s.setCell ⟨gm,2,none⟩ (.slice L (S.length+1) H))):=fun _=>⟨(fun h=>by simp at h),(fun h=>by simp[q7]at h),(fun _ h=>by simp[q7]at h),(fun _ h=>by simp at h),fun _=>⟨⟨bS,hgt,_,nS,C⟩,fun q c T x hT ae=>by
    have O:=aa.o q c T x;exact(aO s ⟨gm,2,none⟩ q _ ae).trans ((t.block _ (aI O) (lj i O hT)).trans O)⟩⟩
   clear a C nS bS m;go_simp;exact I undef _ ⟨trivial,HJ.o _⟩
 ·have HN:=ba (m.fin (hM 10 (by decide) rfl));simp only[kn,td,nk,d8,aQ,aT,Act.put,aA,aK,aJ];clear hM m;go_wp2_with fail;exact⟨rfl,_,eW rfl _ _ _,rfl,HN.o⟩
theorem uu {d:Array Oper}{c:List Oper}{op:Oper}{a:Act}{w:World}{Q:Exit->Act->World->Prop}(e:op.guard=none)(x:Operand)(i:op.op= .load 55 x)(b o:Nat)(j:a.eval x=ab b o)(f:Nat->Bool)(g:w.rangeAt b o (mv f).toList)
  (h:wpList prog d Q c (a.put op.dst (.agg (mv f))) w):wpList prog d Q (op::c) a w:=by
 refine wpList_load_mid e 55 x i b o j (mv f).toList _ g dm rfl (by rw[sQ];kernel_rfl) ?_;simpa using h
theorem KP {w:World}{a:Nat}{v:Value}{S:List M}{f:M}(h:w.ownsRow a 55 23 v (S++[f]).length (kN (S++[f]))):
  ∃g cap,v= .slice (some (ae g 0)) (S.length+1) cap/\S.length+1<=cap/\cap<=maxLen/\a<=g/\w.ownsRow a 55 23 (.slice (some (ae g 0)) S.length cap) S.length (kN S)/\w.rangeAt g (S.length*23) (mv f).toList:=by
 obtain⟨x,d⟩:=h;rw[aP,d9]at d;rcases d with⟨_,e⟩|⟨g,cap,b,e,l,n,s,m,t,p⟩
 ·omega
 ·have c:=AN S
  have q:b.toList.take (S.length*23)=kN S:=by
   have i:(b.toList.take ((S.length+1)*23)).take (S.length*23)=(kN (S++[f])).take (S.length*23):=(by rw[p]);rw[List.take_take,fg (by omega),tw,List.take_left' c]at i;exact i
  refine⟨g,cap,e,s,m,l,⟨c,.inr ⟨g,cap,b,rfl,l,n,by omega,m,t,q⟩⟩,fun j u o=> ?_⟩
  have r:j<23:=by
   have:=(aF.1 o).1;rwa[sQ]at this
  refine(aZ _ _ _ _ _ _ n).trans ?_;have k:(b.toList.take ((S.length+1)*23))[S.length*23+j]? =(kN (S++[f]))[S.length*23+j]? :=(by rw[p]);rw[dP (by omega),tw,dB (by omega),c,Nat.add_sub_cancel_left,o]at k;simpa using k
theorem tz (w:World)(gm:Nat)(lv:Value)(day k:Int)(S:List M)(f:M)(W:World)(h:VSt w gm lv day (S++[f]) k W)(hS:S.length<=1000):
  Calls prog 182 #[ab gm 0] W fun e V=>e= .returned (.agg (mv f))/\VSt w gm lv day S k V/\ ∀q,q<W.heap.size->q≠gm->V.heap[q]? =W.heap[q]? :=by
 obtain⟨b,hgt,sv,d,a⟩:=h;obtain⟨g,cap,rfl,Y,E,P,l,I⟩:=KP a;have hz:=eR;have Z:cap<=9223372036854775807:=by unfold maxLen at E;omega
 have ad:g<W.heap.size:=(a.lt g rfl).2;have G:gm≠g:=fun e=>lj a d (by decide) (congrArg some e);have z:=am W (.cells (mv fun _=>false) 55);have T:=aG W (.cells (mv fun _=>false) 55);have i:=ai z d;have A:=aw b z;have m:=iG l z;have J:(W.alloc (.cells (mv fun _=>false) 55)).rangeAt g (S.length*23) (mv f).toList:=World.rangeAt_alloc I _;have af:=aI d;generalize ao:W.alloc (.cells (mv fun _=>false) 55)=O at*;have X:=am O (.cells (mv fun _=>false) 55);have nB:=aG O (.cells (mv fun _=>false) 55);generalize ap:O.alloc (.cells (mv fun _=>false) 55)=wB at*;have x:=below_setRow X (aD _) (mv f);have nC:=aL _ _ _ (mv f) _ _ nB;have K:=ai x T;have j:=ai x i;have own3:=iG m x;have B:=aw A x;generalize ar:wB.setRow O.heap.size (mv f)=u at*;have ac:=aI T;have z2:=ak 2 i;have ax:=ak 2 j;have av:=bo _ _ 2 _ _ j;have nD:(u.setCell ⟨gm,2,none⟩ (.slice (some (ae g 0)) S.length cap)).heap[gm]? =ah #[lv,ag day,.slice (some (ae g 0)) S.length cap,ag k] 240:=aY u gm 2 _ _ _ j;have c: ∀q,q≠gm->(u.setCell ⟨gm,2,none⟩ (.slice (some (ae g 0)) S.length cap)).heap[q]? =u.heap[q]? :=fun q H=>aO u ⟨gm,2,none⟩ q _ H;have U:=(c O.heap.size (by have:=aI i;omega)).trans nC;have L:=(c W.heap.size (by omega)).trans K;have C:aq w (u.setCell ⟨gm,2,none⟩ (.slice (some (ae g 0)) S.length cap)):=B.setCell (p:=⟨gm,2,none⟩) hgt _
 have s:(u.setCell ⟨gm,2,none⟩ (.slice (some (ae g 0)) S.length cap)).ownsRow w.heap.size 55 23 (.slice (some (ae g 0)) S.length cap) S.length (kN S):=
  own3.kept (row:=some gm) ⟨rfl,rfl,rfl,by simp,fun q H R=>c q fun e=>R (congrArg some e)⟩ (.inr fun e=>G (aN e).symm)
 generalize au:u.setCell ⟨gm,2,none⟩ (.slice (some (ae g 0)) S.length cap)=y at*;have nE:=aL _ _ _ (mv f) _ _ L;have N:=(aW y W.heap.size gm (mv f) (by omega)).trans nD;have F:w.heap.size<=W.heap.size:=b.size;have D:=below_setRow C F (mv f)
 have t:(y.setRow W.heap.size (mv f)).ownsRow w.heap.size 55 23 (.slice (some (ae g 0)) S.length cap) S.length (kN S):=
  s.kept (row:=some W.heap.size) ⟨rfl,rfl,rfl,by simp,fun q H R=>aW y W.heap.size q (mv f) fun e=>R (congrArg some e)⟩ (.inr fun e=>by have e2:g=W.heap.size:=aN e;omega)
 have HN:Rb (VSt w gm lv day S k (y.setRow W.heap.size (mv f))):=⟨D,hgt,_,N,t⟩
 have HF:Rb (∀q,q<W.heap.size->q≠gm->(y.setRow W.heap.size (mv f)).heap[q]? =W.heap[q]?):=fun q H Q=>(aW y W.heap.size q (mv f) (by omega)).trans ((c q Q).trans ((x.block q (by omega)).trans (z.block q H)));have aj:(0:Int)<=(S.length:Int):=by omega
 have an:(S.length:Int)<(cap:Int):=by omega
 have aa:S.length<=cap:=by omega
 have al:(S.length:Int)<=1000:=by omega
 clear a l m own3 s t b A B C D z X x N nD c d i j T K I P E;generalize S.length=n at*;go_enter func182,ntmps182
 go_wp2_with(first
  |(refine uu rfl _ rfl g (n*23) ?r f J ?_;(case r=>rfl))
  |(refine az rfl 55 _ _ rfl _ _ rfl rfl _ _ nB (bl _) (by simp[di]) (dW _) ?_)
  |(refine aR rfl 55 _ rfl _ rfl _ _ _ _ U dm rfl (bl _) ?_)
  |(refine az rfl 55 _ _ rfl _ _ rfl rfl _ _ L (bl _) (by simp[di]) (dW _) ?_))
 refine aX (v:= .agg (mv f)) ?_ rfl ⟨rfl,HN.o,HF.o⟩;exact bf rfl _ _ W.heap.size _ _ _ _ rfl nE dm rfl (bl _)
end Go.Proofs.YtlkehieagdkgiaaGreatDoor
