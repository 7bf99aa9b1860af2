/- What the document tells of who refers to whom is what the program tells: plain. -/
import Derived.Test.YtpmobjgnmidolaaDoorDt10
import Derived.Test.YtpmobjgnmidolaaDoorDt02
import Derived.Test.YtpmobjgnmidolaaDoorDt07
import Derived.Test.YtpmobjgnmidolaaDoorDt03
namespace Lx
theorem shape_kids {e:Ex}{deep n:Nat}(h:(shapeP e deep n).1=0):aloneP e=0∧ ∀k∈e.kids,∃deep n,(shapeP k deep n).1=0:=by
 rw[shapeP_eq]at h;split at h
 ·cases h
 ·split at h
  ·rename_i h2;exact absurd h h2
  ·rename_i h2;refine⟨by simpa using h2,?_⟩
   have aux: ∀(ks:List Ex) (m:Int×Nat),(shapeL ks (deep+1) m).1=0→m.1=0→ ∀k∈ks,∃deep n,(shapeP k deep n).1=0:=by
    intro ks;induction ks with
    |nil=>intro _ _ _ k hk;cases hk
    |cons q ks ih=>
     intro m h0 hm k hk;rw[shapeL_cons,if_neg (by simpa using hm)]at h0
     have hz:(shapeP q (deep+1) m.2).1=0:=by
      by_cases hz:(shapeP q (deep+1) m.2).1=0
      ·exact hz
      ·rw[shapeL_bad hz]at h0;exact h0
     rcases List.mem_cons.1 hk with rfl|hk
     ·exact⟨_,_,hz⟩
     ·exact ih _ h0 hz k hk
   exact aux e.kids (0,n+1) h rfl
theorem name_kids {e:Ex}(h:aloneP e=0)(hk:e.kind=10):e.kids=[]:=by
 unfold aloneP at h;split at h
 ·cases h
 ·split at h
  ·cases h
  ·rename_i h2;have:e.kids.length=kidsP e.kind:=(by simpa using h2);rw[hk]at this;exact List.length_eq_zero_iff.1 this
theorem spk_iff: ∀(N:Nat) (e:Ex) (x:List UInt8),sizeOf e≤N→(∃deep n,(shapeP e deep n).1=0)→(spk e x=true↔x∈nms e)
 |0,e,_,hN,_=>by cases e;simp at hN
 |N+1,e,x,hN,⟨deep,n,h⟩=>by
  obtain⟨h1,h2⟩:=shape_kids h;rw[spk_eq,nms_eq];by_cases hk:e.kind=10
  ·rw[if_pos hk,if_pos hk,name_kids h1 hk];simp[nmsL,eq_comm]
  ·rw[if_neg hk,if_neg hk,List.nil_append];unfold spkL nmsL;rw[List.any_eq_true,List.mem_flatten];constructor
   ·rintro⟨k,hk,hs⟩;exact⟨nms k,List.mem_map.2 ⟨k,hk,rfl⟩,(spk_iff N k x (by have:=kid_lt hk;omega) (h2 k hk)).1 hs⟩
   ·rintro⟨ns,hns,hx⟩;obtain⟨k,hk,rfl⟩:=List.mem_map.1 hns;exact⟨k,hk,(spk_iff N k x (by have:=kid_lt hk;omega) (h2 k hk)).2 hx⟩
theorem unk_iff {l:List Ru}: ∀(N:Nat) (e:Ex),sizeOf e≤N→(∃deep n,(shapeP e deep n).1=0)→(unk e l=true↔ ∃x∈nms e,atP5 l x= -1)
 |0,e,hN,_=>by cases e;simp at hN
 |N+1,e,hN,⟨deep,n,h⟩=>by
  obtain⟨h1,h2⟩:=shape_kids h;rw[unk_eq,nms_eq];by_cases hk:e.kind=10
  ·rw[if_pos hk,if_pos hk,name_kids h1 hk];have hb:=(atP5_bd l e.name).1;simp[nmsL];omega
  ·rw[if_neg hk,if_neg hk,List.nil_append];unfold unkL nmsL;rw[List.any_eq_true];constructor
   ·rintro⟨k,hk,hs⟩;obtain⟨x,hx,hx2⟩:=(unk_iff N k (by have:=kid_lt hk;omega) (h2 k hk)).1 hs;exact⟨x,List.mem_flatten.2 ⟨nms k,List.mem_map.2 ⟨k,hk,rfl⟩,hx⟩,hx2⟩
   ·rintro⟨x,hx,hx2⟩;obtain⟨ns,hns,hx⟩:=List.mem_flatten.1 hx;obtain⟨k,hk,rfl⟩:=List.mem_map.1 hns;exact⟨k,hk,(unk_iff N k (by have:=kid_lt hk;omega) (h2 k hk)).2 ⟨x,hx,hx2⟩⟩
def edgE (l:List Ru)(i k:Nat):Bool:=match l[i]?,l[k]? with|some u,some v=>decide (atP5 l v.1=(k:Int))&&spk u.2 v.1|_,_=>false
theorem wars_same {E E':Nat→Nat→Bool}{n:Nat}(h: ∀i k,i<n→k<n→E i k=E' i k): ∀(m i k:Nat),m≤n→i<n→k<n→wars E m i k=wars E' m i k
 |0,i,k,_,hi,hk=>h i k hi hk
 |m+1,i,k,hm,hi,hk=>by
  simp only[wars];rw[wars_same h m i k (by omega) hi hk,wars_same h m i m (by omega) hi (by omega),wars_same h m m k (by omega) (by omega) hk]
end Lx
namespace Go.Proofs.YtpmobjgnmidolaaDoor
open Go.RowKit Lx
theorem right_all {l:List Ru}(h:(wrongR l).1=0): ∀u∈l,∃deep n,(shapeP u.2 deep n).1=0:=by
 unfold wrongR at h;split at h
 ·cases h
 ·have aux: ∀(l:List Ru) (i:Nat),(wrongL l i).1=0→ ∀u∈l,ruleP u=0:=by
   intro l;induction l with
   |nil=>intro _ _ u hu;cases hu
   |cons x l ih=>
    intro i h u hu;rw[wrongL]at h;split at h
    ·rename_i hx;exact absurd h hx
    ·rename_i hx;rcases List.mem_cons.1 hu with rfl|hu
     ·simpa using hx
     ·exact ih _ h u hu
  intro u hu;have hr:=aux l 0 h u hu;unfold ruleP at hr;split at hr
  ·cases hr
  ·exact⟨1,0,hr⟩
def rk2 (l:List Ru)(i:Nat):Bool:=match l[i]? with|some u=>unk u.2 l|none=>false
def rk3 (l:List Ru)(i:Nat):Bool:=wars (edgE l) l.length i i
theorem rk2_same {l:List Ru}(h:(wrongR l).1=0)(i:Nat):rk2 l i=lk2 l i:=by
 unfold rk2 lk2;cases hu:l[i]? with
 |none=>rfl
 |some u=>
  dsimp only;have hr:=right_all h u (List.mem_of_getElem? hu);have h1:=unk_iff (l:=l) _ u.2 (Nat.le_refl _) hr;have h2:=spoken_mem (l:=l) (m:= -1) (nms u.2) []
  have h3:(-1∈spkR l u)↔unk u.2 l=true:=by
   rw[h1];unfold spkR;rw[h2];simp
  by_cases hm: -1∈spkR l u
  ·rw[decide_eq_true hm,h3.1 hm]
  ·rw[decide_eq_false hm];cases hb:unk u.2 l with
   |false=>rfl
   |true=>exact absurd (h3.2 hb) hm
theorem edge_same {l:List Ru}(h:(wrongR l).1=0)(hno: ∀u∈l,-1∉spkR l u){i k:Nat}(hi:i<l.length)(hk:k<l.length):edgE l i k=(leadS l i).contains k:=by
 obtain⟨u,hu⟩: ∃u,l[i]? =some u:=⟨l[i],List.getElem?_eq_getElem hi⟩
 obtain⟨v,hv⟩: ∃v,l[k]? =some v:=⟨l[k],List.getElem?_eq_getElem hk⟩
 have hr:=right_all h u (List.mem_of_getElem? hu);have h1:=spk_iff _ u.2 v.1 (Nat.le_refl _) hr
 have hc:(leadS l i).contains k=true↔(k:Int)∈spkR l u:=by
  rw[leadS_at hu,List.contains_iff_mem];unfold natsOf;rw[List.mem_map];constructor
  ·rintro⟨m,hm,e⟩;have hb:=(spoken_len (l:=l) (nms u.2) [] List.nodup_nil (fun m hm=>by cases hm)).2 m hm;have hne:m≠ -1:=fun e=>hno u (List.mem_of_getElem? hu) (e▸hm);have:m=(k:Int):=(by omega);rw[←this];exact hm
  ·intro hm;exact⟨(k:Int),hm,by omega⟩
 have h2:(k:Int)∈spkR l u↔edgE l i k=true:=by
  unfold spkR edgE;rw[spoken_mem,hu,hv];dsimp only;rw[Bool.and_eq_true,decide_eq_true_eq,h1];constructor
  ·rintro(hx|⟨x,hx,hx2⟩)
   ·cases hx
   ·obtain⟨v',hv',e⟩:=atP5_name hx2;rw[hv]at hv';cases hv';rw[e];exact⟨hx2,hx⟩
  ·rintro⟨ha,hb⟩;exact .inr ⟨v.1,hb,ha⟩
 cases hb:edgE l i k with
 |true=>exact(hc.2 (h2.2 hb)).symm
 |false=>
  cases hd:(leadS l i).contains k with
  |false=>rfl
  |true=>rw[h2.1 (hc.1 hd)]at hb;cases hb
theorem leadS_lt {l:List Ru}(hno: ∀u∈l,-1∉spkR l u): ∀r,∀k∈leadS l r,k<l.length:=fun i k hk'=>by
 unfold leadS at hk';split at hk'
 ·rename_i u hu;unfold natsOf at hk';obtain⟨m,hm,rfl⟩:=List.mem_map.1 hk';have hb:=(spoken_len (l:=l) (nms u.2) [] List.nodup_nil (fun m hm=>by cases hm)).2 m hm;have hne:m≠ -1:=fun e=>hno u (List.mem_of_getElem? hu) (e▸hm);omega
 ·cases hk'
theorem reach_same {l:List Ru}(h:(wrongR l).1=0)(hno: ∀u∈l,-1∉spkR l u){i k:Nat}(hi:i<l.length)(hk:k<l.length):wars (edgE l) l.length i k=fol (leadS l) (l.length+1) (fun _=>false) i k:=by
 rw[fol_wars (leadS_lt hno) (Nat.le_refl _)];exact wars_same (fun i k hi hk=>edge_same h hno hi hk) l.length i k (Nat.le_refl _) hi hk
def refW (l:List Ru):Int×Nat:=if(wrongR l).1≠0 then wrongR l else match frF (lk1 l) 0 l.length with
 |some i=>(7,i)
 |none=>match frF (rk2 l) 0 l.length with
  |some i=>(6,i)
  |none=>match frF (rk3 l) 0 l.length with
   |some i=>(9,i)
   |none=>(0,0)
theorem frF_same {p q:Nat→Bool}: ∀(k i:Nat),(∀j,i≤j→j<i+k→p j=q j)→frF p i k=frF q i k
 |0,_,_=>rfl
 |k+1,i,h=>by
  rw[frF,frF,h i (Nat.le_refl _) (by omega),frF_same k (i+1) fun j a b=>h j (by omega) (by omega)]
theorem frF_all {p:Nat→Bool}: ∀(k i:Nat),frF p i k=none→ ∀j,i≤j→j<i+k→p j=false
 |0,i,_,j,a,b=>by omega
 |k+1,i,h,j,a,b=>by
  rw[frF]at h;split at h
  ·cases h
  ·rename_i hn;by_cases e:j=i
   ·rw[e];simpa using hn
   ·exact frF_all k (i+1) h j (by omega) (by omega)
theorem lk2_no {l:List Ru}(h:frF (lk2 l) 0 l.length=none): ∀u∈l,-1∉spkR l u:=fun u hu hm=>by
 obtain⟨j,hj⟩:=List.getElem?_of_mem hu;have hj':j<l.length:=(List.getElem?_eq_some_iff.1 hj).1;have:=frF_all l.length 0 h j (by omega) (by omega);unfold lk2 at this;rw[hj]at this;dsimp only at this;rw[decide_eq_true hm]at this;cases this
theorem refW_same (l:List Ru):refW l=chkW l:=by
 unfold refW chkW;by_cases h0:(wrongR l).1≠0
 ·rw[if_pos h0,if_pos h0]
 rw[if_neg h0,if_neg h0];have h0':(wrongR l).1=0:=by simpa using h0
 rw[frF_same (p:=rk2 l) (q:=lk2 l) l.length 0 fun j _ _=>rk2_same h0' j];cases frF (lk1 l) 0 l.length with
 |some i=>rfl
 |none=>
  dsimp only;cases h2:frF (lk2 l) 0 l.length with
  |some i=>rfl
  |none=>
   dsimp only;have hno:=lk2_no h2;rw[frF_same (p:=rk3 l) (q:=lk3 l) l.length 0 fun j _ hj=>reach_same h0' hno (by omega) (by omega)];try (cases frF (lk3 l) 0 l.length<;>rfl)
end Go.Proofs.YtpmobjgnmidolaaDoor
/- Who refers to whom: to all that it speaks of, and to all that those refer to: plain. -/
namespace Go.Proofs.YtpmobjgnmidolaaDoor
open Go.RowKit Lx
theorem chk_all {l:List Ru}(h:(chkW l).1=0):(∀i,i<l.length→lk1 l i=false)∧ ∀i,i<l.length→lk3 l i=false:=by
 unfold chkW at h;split at h
 ·rename_i h0;exact absurd h h0
 ·split at h
  ·cases h
  ·rename_i h1;split at h
   ·cases h
   ·split at h
    ·cases h
    ·rename_i h3;exact⟨fun i hi=>frF_all l.length 0 h1 i (by omega) (by omega),fun i hi=>frF_all l.length 0 h3 i (by omega) (by omega)⟩
theorem mem_mkL {m:Nat→Bool}{n:Nat}{x:Int}:x∈mkL m n↔ ∃k:Nat,x=(k:Int)∧k<n∧m k=true:=by
 unfold mkL;rw[List.mem_map];constructor
 ·rintro⟨k,hk,rfl⟩;rw[List.mem_filter,List.mem_range]at hk;exact⟨k,rfl,hk.1,hk.2⟩
 ·rintro⟨k,rfl,h1,h2⟩;exact⟨k,by rw[List.mem_filter,List.mem_range];exact⟨h1,h2⟩,rfl⟩
theorem way_step {E:Nat→Nat→Bool}{i k:Nat}:Lx.Way E i k↔E i k=true∨ ∃j,E i j=true∧Lx.Way E j k:=by
 constructor
 ·intro h;induction h with
  |single h=>exact .inl h
  |tail _ h2 ih=>
   rcases ih with ih|⟨j,h1,ih⟩
   ·exact .inr ⟨_,ih,.single h2⟩
   ·exact .inr ⟨j,h1,.tail ih h2⟩
 ·rintro(h|⟨j,h1,h2⟩)
  ·exact .single h
  ·exact(Relation.TransGen.single (r:=fun a b=>E a b=true) h1).trans h2
theorem uses_mem {l:List Ru}(h:(chkW l).1=0){i:Nat}(hi:i<l.length){x:Int}:x∈usesL l (i:Int)↔ ∃k:Nat,x=(k:Int)∧k<l.length∧Lx.Way (fun a b=>(leadS l a).contains b) i k:=by
 obtain⟨h0,hno⟩:=chk_lk2 h
 have e:usesL l (i:Int)=mkL (fol (leadS l) (l.length+1) (fun _=>false) i) l.length:=by
  unfold usesL;rw[if_neg (by omega)];rfl
 rw[e,mem_mkL];constructor
 ·rintro⟨k,a,b,c⟩;exact⟨k,a,b,(fol_way (leadS_lt hno) (Nat.le_refl _)).1 c⟩
 ·rintro⟨k,a,b,c⟩;exact⟨k,a,b,(fol_way (leadS_lt hno) (Nat.le_refl _)).2 c⟩
theorem uses_ok {l:List Ru}(h:(chkW l).1=0){i:Nat}(hi:i<l.length){x:Int}(hx:x∈usesL l (i:Int)):0≤x∧x<l.length∧x≠(i:Int):=by
 obtain⟨h0,hno⟩:=chk_lk2 h;obtain⟨k,rfl,hk,hw⟩:=(uses_mem h hi).1 hx;refine⟨by omega,by omega,fun e=> ?_⟩;have e':k=i:=by omega
 subst e';have h3:=(chk_all h).2 k hk;unfold lk3 at h3;rw[(fol_way (leadS_lt hno) (Nat.le_refl _)).2 hw]at h3;cases h3
end Go.Proofs.YtpmobjgnmidolaaDoor
/- What rules mean on a day: plain. -/
namespace Go.Proofs.YtpmobjgnmidolaaDoor
open Go.RowKit Lx
def nev:Nat→Bool:=fun _=>false
def valK (week:Bool)(day:Int)(kind a b:Int)(nm:Nat→Bool)(ks:List (Nat→Bool)):Nat→Bool:=
 if kind=2 then fun i=>decide (i<1440)
 else if kind=3 then fun i=>(decide (a≤(i:Int))&&decide ((i:Int)<b))&&decide (i<1440)
 else if kind=4 then(if week=true then ks.getD 0 nev else nev)
 else if kind=5 then(if a≤day∧day≤b then ks.getD 0 nev else nev)
 else if kind=6 then fun i=>(ks.getD 0 nev i||ks.getD 1 nev i)&&decide (i<1440)
 else if kind=7 then fun i=>(ks.getD 0 nev i&& !ks.getD 1 nev i)&&decide (i<1440)
 else if kind=8 then fun i=>(ks.getD 0 nev i&&ks.getD 1 nev i)&&decide (i<1440)
 else if kind=9 then shf (ks.getD 0 nev) a
 else if kind=10 then nm
 else nev
def valE (wk:Int→Bool)(day:Int)(env:List UInt8→Nat→Bool)(e:Ex):Nat→Bool:=valK (wk e.a) day e.kind e.a e.b (env e.name) (e.kids.attach.map fun k=>valE wk day env k.1)
 termination_by SizeOf.sizeOf e
 decreasing_by exact kid_lt k.2
theorem valE_eq (wk:Int→Bool)(day:Int)(env:List UInt8→Nat→Bool)(e:Ex):valE wk day env e=valK (wk e.a) day e.kind e.a e.b (env e.name) (e.kids.map (valE wk day env)):=by
 rw[valE];congr 1;have h:=congrArg (List.map (valE wk day env)) (List.attach_map_subtype_val e.kids);rw[List.map_map]at h;exact h
theorem valE_congr {wk:Int→Bool}{day:Int}{env env':List UInt8→Nat→Bool}: ∀(N:Nat) (e:Ex),SizeOf.sizeOf e≤N→(∀x∈nms e,env x=env' x)→valE wk day env e=valE wk day env' e
 |0,e,hN,_=>by cases e;simp at hN
 |N+1,e,hN,h=>by
  rw[valE_eq,valE_eq]
  have hk:e.kids.map (valE wk day env)=e.kids.map (valE wk day env'):=List.map_congr_left fun k hk=>valE_congr N k (by have:=kid_lt hk;omega) fun x hx=>h x (by
   rw[nms_eq,List.mem_append];right;unfold nmsL;exact List.mem_flatten.2 ⟨nms k,List.mem_map.2 ⟨k,hk,rfl⟩,hx⟩)
  rw[hk];by_cases h10:e.kind=10
  ·rw[h e.name (by rw[nms_eq,if_pos h10];simp)]
  ·unfold valK;simp only[if_neg h10]
def meanF (l:List Ru)(wk:Int→Bool)(day:Int):Nat→Nat→Nat→Bool
 |0,_=>nev
 |f+1,i=>match l[i]? with
  |some u=>valE wk day (fun x=>meanF l wk day f (atP5 l x).toNat) u.2
  |none=>nev
def muR (l:List Ru)(i:Nat):Nat:=(usesL l (i:Int)).length
theorem mkL_nodup (m:Nat→Bool)(n:Nat):(mkL m n).Nodup:=by
 unfold mkL;have h:((List.range n).filter m).Nodup:=List.nodup_range.filter m;rw[List.nodup_iff_pairwise_ne,List.pairwise_map];exact(List.nodup_iff_pairwise_ne.1 h).imp fun hab e=>hab (by omega)
theorem uses_nodup (l:List Ru)(r:Int):(usesL l r).Nodup:=by
 unfold usesL;split
 ·exact List.nodup_nil
 ·exact mkL_nodup _ _
theorem nd_len: ∀(l m:List Int),l.Nodup→(∀x∈l,x∈m)→l.length≤m.length
 |[],_,_,_=>Nat.zero_le _
 |x::l,m,hnd,hs=>by
  have h1:=List.nodup_cons.1 hnd
  have ih:=nd_len l (m.erase x) h1.2 fun y hy=>by
   have hne:y≠x:=fun e=>by
    subst e;exact h1.1 hy
   exact(List.mem_erase_of_ne hne).2 (hs y (List.mem_cons_of_mem _ hy))
  have hx:=hs x List.mem_cons_self;rw[List.length_erase_of_mem hx]at ih;have:=List.length_pos_of_mem hx;simp only[List.length_cons];omega
theorem muR_lt {l:List Ru}(h:(chkW l).1=0){i j:Nat}(hi:i<l.length)(hj:j∈leadS l i):muR l j<muR l i:=by
 obtain⟨_,hno⟩:=chk_lk2 h;have hjl:=leadS_lt hno i j hj;have hE:(leadS l i).contains j=true:=by simpa using hj
 have hsub: ∀x∈(j:Int)::usesL l (j:Int),x∈usesL l (i:Int):=fun x hx=>by
  rcases List.mem_cons.1 hx with rfl|hx
  ·exact(uses_mem h hi).2 ⟨j,rfl,hjl,way_step.2 (.inl hE)⟩
  ·obtain⟨k,rfl,hk,hw⟩:=(uses_mem h hjl).1 hx;exact(uses_mem h hi).2 ⟨k,rfl,hk,way_step.2 (.inr ⟨j,hE,hw⟩)⟩
 have hnd:((j:Int)::usesL l (j:Int)).Nodup:=List.nodup_cons.2 ⟨fun hm=>(uses_ok h hjl hm).2.2 rfl,uses_nodup l _⟩;have:=nd_len _ _ hnd hsub;simp only[List.length_cons]at this;unfold muR;omega
theorem lead_of_name {l:List Ru}(_:(chkW l).1=0){i:Nat}{u:Ru}(hu:l[i]? =some u){x:List UInt8}(hx:x∈nms u.2):(atP5 l x).toNat∈leadS l i:=by
 rw[leadS_at hu];unfold natsOf spkR;exact List.mem_map.2 ⟨atP5 l x,(spoken_mem _ _).2 (.inr ⟨x,hx,rfl⟩),rfl⟩
theorem meanF_same {l:List Ru}{wk:Int→Bool}{day:Int}(h:(chkW l).1=0): ∀(f f' i:Nat),i<l.length→muR l i<f→muR l i<f'→meanF l wk day f i=meanF l wk day f' i
 |0,_,_,_,a,_=>by omega
 |_+1,0,_,_,_,b=>by omega
 |f+1,f'+1,i,hi,a,b=>by
  obtain⟨u,hu⟩: ∃u,l[i]? =some u:=⟨l[i],List.getElem?_eq_getElem hi⟩
  obtain⟨_,hno⟩:=chk_lk2 h;rw[meanF,meanF,hu];dsimp only;refine valE_congr _ u.2 (Nat.le_refl _) fun x hx=> ?_;have hj:=lead_of_name h hu hx;have hlt:=muR_lt h hi hj;exact meanF_same h f f' _ (leadS_lt hno i _ hj) (by omega) (by omega)
theorem uses_len' (l:List Ru)(r:Int):(usesL l r).length≤l.length:=by
 unfold usesL;split
 ·exact Nat.zero_le _
 ·exact mkL_len _ _
def meanP (l:List Ru)(wk:Int→Bool)(day:Int)(i:Nat):Nat→Bool:=meanF l wk day (l.length+1) i
theorem meanP_eq {l:List Ru}{wk:Int→Bool}{day:Int}(h:(chkW l).1=0){i:Nat}{u:Ru}(hu:l[i]? =some u):meanP l wk day i=valE wk day (fun x=>meanP l wk day (atP5 l x).toNat) u.2:=by
 have hi:i<l.length:=(List.getElem?_eq_some_iff.1 hu).1;obtain⟨_,hno⟩:=chk_lk2 h;have hmu: ∀j,muR l j≤l.length:=fun j=>uses_len' l (j:Int)
 have e:meanP l wk day i=valE wk day (fun x=>meanF l wk day l.length (atP5 l x).toNat) u.2:=by
  unfold meanP;rw[meanF,hu]
 rw[e];refine valE_congr _ u.2 (Nat.le_refl _) fun x hx=> ?_;have hj:=lead_of_name h hu hx;have hlt:=muR_lt h hi hj;have:=hmu i;have:=hmu (atP5 l x).toNat;exact meanF_same h _ _ _ (leadS_lt hno i _ hj) (by omega) (by omega)
end Go.Proofs.YtpmobjgnmidolaaDoor
/- An expression with which nothing is wrong: plain. -/
namespace Lx
def OKE (e:Ex):Prop:= ∃deep n,(shapeP e deep n).1=0
theorem OKE.alone {e:Ex}(h:OKE e):aloneP e=0:=by
 obtain⟨deep,n,h⟩:=h;rw[shapeP_eq]at h;split at h
 ·cases h
 ·split at h
  ·rename_i h2;exact absurd h h2
  ·rename_i h2;simpa using h2
theorem shapeL_all {deep:Nat}: ∀{ks:List Ex} {acc:Int×Nat},(shapeL ks deep acc).1=0→ ∀k∈ks,OKE k
 |[],_,_,k,hk=>by cases hk
 |k'::ks,acc,h,k,hk=>by
  rw[shapeL_cons]at h;by_cases hb:acc.1≠0
  ·rw[if_pos hb,shapeL_bad hb]at h;exact absurd h hb
  rw[if_neg hb]at h
  have hz:(shapeP k' deep acc.2).1=0:=by
   by_cases hz:(shapeP k' deep acc.2).1=0
   ·exact hz
   ·rw[shapeL_bad hz]at h;exact h
  rcases List.mem_cons.1 hk with rfl|hk
  ·exact⟨_,_,hz⟩
  ·exact shapeL_all h k hk
theorem OKE.kid {e k:Ex}(h:OKE e)(hk:k∈e.kids):OKE k:=by
 have ha:=h.alone;obtain⟨deep,n,h⟩:=h;rw[shapeP_eq]at h;split at h
 ·cases h
 ·rw[if_neg (by simpa using ha)]at h;exact shapeL_all h k hk
theorem OKE.kinds {e:Ex}(h:OKE e):1≤e.kind∧e.kind≤10∧e.kids.length=kidsP e.kind∧rangeP e.kind e.a e.b=true∧(e.kind=10→Go.Proofs.YtpmobjgnmidolaaDoor.namedL e.name=true):=by
 have ha:=h.alone;unfold aloneP at ha;split at ha
 ·cases ha
 ·split at ha
  ·cases ha
  ·split at ha
   ·cases ha
   ·split at ha
    ·cases ha
    ·rename_i h1 h2 h3 h4;refine⟨by omega,by omega,by simpa using h2,by simpa using h3,fun hk=> ?_⟩;cases hn:Go.Proofs.YtpmobjgnmidolaaDoor.namedL e.name with
     |true=>rfl
     |false=>exact absurd ⟨hk,hn⟩ h4
theorem OKE.kid0 {e:Ex}(h:OKE e)(hk:1≤kidsP e.kind): ∃k,e.kids[0]? =some k∧OKE k:=by
 have hl:=h.kinds.2.2.1;exact⟨e.kids[0]'(by omega),List.getElem?_eq_getElem _,h.kid (List.getElem_mem _)⟩
theorem OKE.kid1 {e:Ex}(h:OKE e)(hk:2≤kidsP e.kind): ∃k,e.kids[1]? =some k∧OKE k:=by
 have hl:=h.kinds.2.2.1;exact⟨e.kids[1]'(by omega),List.getElem?_eq_getElem _,h.kid (List.getElem_mem _)⟩
end Lx
/- The code of an expression, plainly: what it is, how long it is. -/
namespace Go.Proofs.YtpmobjgnmidolaaDoor
open Go.RowKit Lx Vx Msk
def stdE (e:Ex):Bool:= !(decide (e.kind=4)||decide (e.kind=5)||decide (e.kind=10))&&e.kids.attach.all fun k=>stdE k.1
 termination_by SizeOf.sizeOf e
 decreasing_by exact kid_lt k.2
theorem stdE_eq (e:Ex):stdE e=(!(decide (e.kind=4)||decide (e.kind=5)||decide (e.kind=10))&&e.kids.all stdE):=by
 rw[stdE];congr 1;rw[Bool.eq_iff_iff,List.all_eq_true,List.all_eq_true];exact⟨fun h k hk=>h ⟨k,hk⟩ (List.mem_attach _ _),fun h k _=>h k.1 k.2⟩
theorem stdE_kind {e:Ex}(h:stdE e=true):e.kind≠4∧e.kind≠5∧e.kind≠10:=by
 rw[stdE_eq,Bool.and_eq_true]at h;have h1:=h.1;refine⟨fun e=> ?_,fun e=> ?_,fun e=> ?_⟩<;>simp[e]at h1
theorem stdE_kid {e k:Ex}(h:stdE e=true)(hk:k∈e.kids):stdE k=true:=by
 rw[stdE_eq,Bool.and_eq_true,List.all_eq_true]at h;exact h.2 k hk
theorem stdE_leaf {e:Ex}(h:e.kids=[])(h4:e.kind≠4)(h5:e.kind≠5)(h10:e.kind≠10):stdE e=true:=by
 rw[stdE_eq,h];simp[h4,h5,h10]
def mnE (e:Ex):Nat→Bool:=valE (fun _=>false) 0 (fun _=>nev) e
theorem mnE_any (wk:Int→Bool)(day:Int)(env:List UInt8→Nat→Bool): ∀(N:Nat) (e:Ex),SizeOf.sizeOf e≤N→stdE e=true→valE wk day env e=mnE e
 |0,e,hN,_=>by cases e;simp at hN
 |N+1,e,hN,h=>by
  unfold mnE;rw[valE_eq,valE_eq];have hk:e.kids.map (valE wk day env)=e.kids.map (valE (fun _=>false) 0 (fun _=>nev)):=List.map_congr_left fun k hk=>mnE_any wk day env N k (by have:=kid_lt hk;omega) (stdE_kid h hk);rw[hk];obtain⟨h4,h5,h10⟩:=stdE_kind h;unfold valK;simp only[if_neg h4,if_neg h5,if_neg h10]
theorem stdE_val {e:Ex}(h:stdE e=true)(wk:Int→Bool)(day:Int)(env:List UInt8→Nat→Bool):valE wk day env e=mnE e:=mnE_any wk day env _ e (Nat.le_refl _) h
def catF:List (Nat→List In)→Nat→List In
 |[],_=>[]
 |f::fs,b=>f b++catF fs (b+(f b).length)
def noC:Nat→List In:=fun _=>[]
def opK (k:Int):Int:=if k=9 then 5 else if k=6 then 2 else if k=7 then 3 else 4
def codeK (num:List UInt8→Int)(e:Ex)(kc:List (Nat→List In))(b:Nat):List In:=
 if stdE e=true then [⟨1,0,0,0,rs (mnE e) 1440⟩]
 else if e.kind=10 then [⟨8,num e.name,0,0,[]⟩]
 else if e.kind=4 then⟨6,e.a,0,((b+1+((kc.getD 0 noC) (b+1)).length:Nat):Int),[]⟩::(kc.getD 0 noC) (b+1)
 else if e.kind=5 then⟨7,e.a,e.b,((b+1+((kc.getD 0 noC) (b+1)).length:Nat):Int),[]⟩::(kc.getD 0 noC) (b+1)
 else catF kc b++[⟨opK e.kind,if e.kind=9 then e.a else 0,0,0,[]⟩]
def codeE (num:List UInt8→Int)(e:Ex)(b:Nat):List In:=codeK num e (e.kids.attach.map fun k=>fun b'=>codeE num k.1 b') b
 termination_by SizeOf.sizeOf e
 decreasing_by exact kid_lt k.2
theorem codeE_eq (num:List UInt8→Int)(e:Ex)(b:Nat):codeE num e b=codeK num e (e.kids.map (codeE num)) b:=by
 rw[codeE];congr 1;have h:=congrArg (List.map (codeE num)) (List.attach_map_subtype_val e.kids);rw[List.map_map]at h;exact h
theorem code_std {num:List UInt8→Int}{e:Ex}(h:stdE e=true)(b:Nat):codeE num e b=[⟨1,0,0,0,rs (mnE e) 1440⟩]:=by
 rw[codeE_eq];unfold codeK;rw[if_pos h]
theorem code_name {num:List UInt8→Int}{e:Ex}(hk:e.kind=10)(b:Nat):codeE num e b=[⟨8,num e.name,0,0,[]⟩]:=by
 rw[codeE_eq];unfold codeK;rw[if_neg (fun h=>(stdE_kind h).2.2 hk),if_pos hk]
theorem code_week {num:List UInt8→Int}{e k:Ex}(hk:e.kind=4)(h0:e.kids[0]? =some k)(b:Nat):codeE num e b=⟨6,e.a,0,((b+1+(codeE num k (b+1)).length:Nat):Int),[]⟩::codeE num k (b+1):=by
 rw[codeE_eq];have e0:(e.kids.map (codeE num)).getD 0 noC=codeE num k:=by simp[List.getD,List.getElem?_map,h0]
 unfold codeK;rw[if_neg (fun h=>(stdE_kind h).1 hk),if_neg (by omega),if_pos hk,e0]
theorem code_dates {num:List UInt8→Int}{e k:Ex}(hk:e.kind=5)(h0:e.kids[0]? =some k)(b:Nat):codeE num e b=⟨7,e.a,e.b,((b+1+(codeE num k (b+1)).length:Nat):Int),[]⟩::codeE num k (b+1):=by
 rw[codeE_eq];have e0:(e.kids.map (codeE num)).getD 0 noC=codeE num k:=by simp[List.getD,List.getElem?_map,h0]
 unfold codeK;rw[if_neg (fun h=>(stdE_kind h).2.1 hk),if_neg (by omega),if_neg (by omega),if_pos hk,e0]
theorem code_cat {num:List UInt8→Int}{e:Ex}(h:stdE e=false)(h4:e.kind≠4)(h5:e.kind≠5)(h10:e.kind≠10)(b:Nat):codeE num e b=catF (e.kids.map (codeE num)) b++[⟨opK e.kind,if e.kind=9 then e.a else 0,0,0,[]⟩]:=by
 rw[codeE_eq];unfold codeK;rw[if_neg (by rw[h];simp),if_neg h10,if_neg h4,if_neg h5]
theorem two_kids {e:Ex}(h:e.kids.length=2): ∃k m,e.kids=[k,m]:=by
 match hk:e.kids with
 |[]=>rw[hk]at h;cases h
 |[_]=>rw[hk]at h;cases h
 |[k,m]=>exact⟨k,m,rfl⟩
 |_::_::_::_=>rw[hk]at h;simp at h
theorem one_kid {e:Ex}(h:e.kids.length=1): ∃k,e.kids=[k]:=by
 match hk:e.kids with
 |[]=>rw[hk]at h;cases h
 |[k]=>exact⟨k,rfl⟩
 |_::_::_=>rw[hk]at h;simp at h
theorem code_shift {num:List UInt8→Int}{e k:Ex}(h:stdE e=false)(hk:e.kind=9)(h0:e.kids=[k])(b:Nat):codeE num e b=codeE num k b++[⟨5,e.a,0,0,[]⟩]:=by
 rw[code_cat h (by omega) (by omega) (by omega),h0];simp only[List.map_cons,List.map_nil,catF,List.append_nil];unfold opK;rw[if_pos hk,if_pos hk]
theorem code_pair {num:List UInt8→Int}{e k m:Ex}(h:stdE e=false)(hk:e.kind=6∨e.kind=7∨e.kind=8)(h0:e.kids=[k,m])(b:Nat):codeE num e b=(codeE num k b++codeE num m (b+(codeE num k b).length))++[⟨opK e.kind,0,0,0,[]⟩]:=by
 rw[code_cat h (by omega) (by omega) (by omega),h0];simp only[List.map_cons,List.map_nil,catF,List.append_nil];rw[if_neg (by omega)]
theorem code_kinds {e:Ex}(h:OKE e)(hs:stdE e=false):(e.kind=4∧ ∃k,e.kids=[k])∨(e.kind=5∧ ∃k,e.kids=[k])∨(e.kind=9∧ ∃k,e.kids=[k])∨e.kind=10∨((e.kind=6∨e.kind=7∨e.kind=8)∧ ∃k m,e.kids=[k,m]):=by
 obtain⟨h1,h2,h3,_,_⟩:=h.kinds;unfold kidsP at h3;by_cases q:e.kind=4∨e.kind=5∨e.kind=9
 ·rw[if_pos q]at h3;obtain⟨k,hk⟩:=one_kid h3;rcases q with q|q|q
  ·exact .inl ⟨q,k,hk⟩
  ·exact .inr (.inl ⟨q,k,hk⟩)
  ·exact .inr (.inr (.inl ⟨q,k,hk⟩))
 ·rw[if_neg q]at h3;by_cases q2:e.kind=6∨e.kind=7∨e.kind=8
  ·rw[if_pos q2]at h3;obtain⟨k,m,hk⟩:=two_kids h3;exact .inr (.inr (.inr (.inr ⟨q2,k,m,hk⟩)))
  ·rw[if_neg q2]at h3;by_cases q3:e.kind=10
   ·exact .inr (.inr (.inr (.inl q3)))
   ·have:=stdE_leaf (List.length_eq_zero_iff.1 h3) (by omega) (by omega) q3;rw[hs]at this;cases this
theorem risL_good: ∀(l:List (Int×Int)) (last:Int),good last 1440 l→risL l last=true
 |[],_,_=>rfl
 |s::l,last,⟨h1,h2,h3,h4⟩=>by
  unfold risL;rw[if_neg (by omega)];exact risL_good l s.2 h4
theorem risL_rs (f:Nat→Bool):risL (rs f 1440) (-1)=true:=risL_good _ _ (runs_of f 1440).good
def nodE (e:Ex):Nat:=1+(e.kids.attach.map fun k=>nodE k.1).sum
 termination_by SizeOf.sizeOf e
 decreasing_by exact kid_lt k.2
theorem nodE_eq (e:Ex):nodE e=1+(e.kids.map nodE).sum:=by
 rw[nodE];congr 2;have h:=congrArg (List.map nodE) (List.attach_map_subtype_val e.kids);rw[List.map_map]at h;exact h
theorem nodE_pos (e:Ex):1≤nodE e:=by rw[nodE_eq];omega
theorem code_len (num:List UInt8→Int): ∀(N:Nat) (e:Ex),SizeOf.sizeOf e≤N→OKE e→ ∀b,1≤(codeE num e b).length∧(codeE num e b).length≤nodE e
 |0,e,hN,_,_=>by cases e;simp at hN
 |N+1,e,hN,h,b=>by
  have hn:=nodE_eq e;cases hs:stdE e with
  |true=>
   rw[code_std hs];exact⟨by simp,by simpa using nodE_pos e⟩
  |false=>
   have ih: ∀k∈e.kids,∀b,1≤(codeE num k b).length∧(codeE num k b).length≤nodE k:=fun k hk b=>code_len num N k (by have:=kid_lt hk;omega) (h.kid hk) b;rcases code_kinds h hs with⟨q,k,hk⟩|⟨q,k,hk⟩|⟨q,k,hk⟩|q|⟨q,k,m,hk⟩
   ·rw[code_week q (by rw[hk];rfl)];have:=ih k (by rw[hk];simp) (b+1);rw[hk]at hn;simp only[List.map_cons,List.map_nil,List.sum_cons,List.sum_nil]at hn;rw[List.length_cons];omega
   ·rw[code_dates q (by rw[hk];rfl)];have:=ih k (by rw[hk];simp) (b+1);rw[hk]at hn;simp only[List.map_cons,List.map_nil,List.sum_cons,List.sum_nil]at hn;rw[List.length_cons];omega
   ·rw[code_shift hs q hk];have:=ih k (by rw[hk];simp) b;rw[hk]at hn;simp only[List.map_cons,List.map_nil,List.sum_cons,List.sum_nil]at hn;rw[List.length_append,List.length_singleton];omega
   ·rw[code_name q];exact⟨by simp,by simpa using nodE_pos e⟩
   ·rw[code_pair hs q hk];have h1:=ih k (by rw[hk];simp) b;have h2:=ih m (by rw[hk];simp) (b+(codeE num k b).length);rw[hk]at hn;simp only[List.map_cons,List.map_nil,List.sum_cons,List.sum_nil]at hn;rw[List.length_append,List.length_append,List.length_singleton];omega
theorem shape_nod: ∀(N:Nat) (e:Ex) (deep n:Nat),SizeOf.sizeOf e≤N→(shapeP e deep n).1=0→(shapeP e deep n).2=n+nodE e∧n+nodE e≤600
 |0,e,_,_,hN,_=>by cases e;simp at hN
 |N+1,e,deep,n,hN,h=>by
  rw[shapeP_eq]at h⊢;by_cases h1:600<n+1∨40<deep
  ·rw[if_pos h1]at h;cases h
  ·rw[if_neg h1]at h⊢;by_cases h2:aloneP e≠0
   ·rw[if_pos h2]at h;exact absurd h h2
   ·rw[if_neg h2]at h⊢
    have key: ∀(ks:List Ex) (m:Nat),(∀k∈ks,SizeOf.sizeOf k≤N)→m≤600→(shapeL ks (deep+1) (0,m)).1=0→(shapeL ks (deep+1) (0,m)).2=m+(ks.map nodE).sum∧m+(ks.map nodE).sum≤600:=by
     intro ks;induction ks with
     |nil=>intro m _ hm _;exact⟨by simp[shapeL],by simpa using hm⟩
     |cons k ks ih=>
      intro m hks hm hz;rw[shapeL_cons]at hz⊢;rw[if_neg (by simp)]at hz⊢
      have hz1:(shapeP k (deep+1) m).1=0:=by
       by_cases hq:(shapeP k (deep+1) m).1=0
       ·exact hq
       ·rw[shapeL_bad hq]at hz;exact absurd hz hq
      obtain⟨a1,a2⟩:=shape_nod N k (deep+1) m (hks k List.mem_cons_self) hz1;have e1:shapeP k (deep+1) m=(0,m+nodE k):=Prod.ext hz1 a1;rw[e1]at hz⊢;obtain⟨b1,b2⟩:=ih (m+nodE k) (fun k' hk'=>hks k' (List.mem_cons_of_mem _ hk')) a2 hz;rw[List.map_cons,List.sum_cons];exact⟨by rw[b1];omega,by omega⟩
    obtain⟨a,b⟩:=key e.kids (n+1) (fun k hk=>by have:=kid_lt hk;omega) (by omega) h;rw[nodE_eq];exact⟨by rw[a];omega,by omega⟩
end Go.Proofs.YtpmobjgnmidolaaDoor
/- The code of an expression uses its stack well. -/
namespace Go.Proofs.YtpmobjgnmidolaaDoor
open Go.RowKit Lx Vx Msk
def SegAt (l:List In)(b:Nat)(c:List In):Prop:= ∀j,j<c.length→l[b+j]? =c[j]?
theorem SegAt.left {l:List In}{b:Nat}{c d:List In}(h:SegAt l b (c++d)):SegAt l b c:=fun j hj=>by
 rw[h j (by rw[List.length_append];omega),List.getElem?_append_left hj]
theorem SegAt.right {l:List In}{b:Nat}{c d:List In}(h:SegAt l b (c++d)):SegAt l (b+c.length) d:=fun j hj=>by
 have:=h (c.length+j) (by rw[List.length_append];omega);rw[List.getElem?_append_right (by omega),Nat.add_sub_cancel_left,←Nat.add_assoc]at this;exact this
theorem SegAt.one {l:List In}{b:Nat}{x:In}{d:List In}(h:SegAt l b (x::d)):l[b]? =some x:=by
 have:=h 0 (by simp);simpa using this
theorem SegAt.tail {l:List In}{b:Nat}{x:In}{d:List In}(h:SegAt l b (x::d)):SegAt l (b+1) d:=SegAt.right (c:=[x]) h
structure SegOK (l:List In)(b n R N:Nat):Prop where
 fin:hAt l (b+n)=hAt l b+1
 tk: ∀j x,b≤j→j<b+n→l[j]? =some x→Vx.tk x+hAt l b≤hAt l j
 to: ∀j x,b≤j→j<b+n→l[j]? =some x→isG x→hAt l x.to.toNat=hAt l j+1
 ins: ∀j x,b≤j→j<b+n→l[j]? =some x→insE x j N R=0
theorem ins_1 {x:In}(ho:x.op=1)(h:risL x.sp (-1)=true)(j N R:Nat):insE x j N R=0:=by
 unfold insE;rw[if_neg (by omega),if_pos ho,if_pos h]
theorem ins_234 {x:In}(ho:x.op=2∨x.op=3∨x.op=4)(j N R:Nat):insE x j N R=0:=by
 unfold insE;rw[if_pos ho]
theorem ins_5 {x:In}(ho:x.op=5)(h:x.a≠0∧ -1439≤x.a∧x.a≤1439)(j N R:Nat):insE x j N R=0:=by
 unfold insE;rw[if_neg (by omega),if_neg (by omega),if_pos ho,if_pos h]
theorem ins_6 {x:In}{j N:Nat}(ho:x.op=6)(ht:(j:Int)+2≤x.to∧x.to≤N)(h:1≤x.a∧x.a≤127)(R:Nat):insE x j N R=0:=by
 unfold insE;rw[if_neg (by omega),if_neg (by omega),if_neg (by omega),if_pos ho,if_pos ht,if_pos h]
theorem ins_7 {x:In}{j N:Nat}(ho:x.op=7)(ht:(j:Int)+2≤x.to∧x.to≤N)(h:0≤x.a∧x.a≤x.b∧x.b<146097)(R:Nat):insE x j N R=0:=by
 unfold insE;rw[if_neg (by omega),if_neg (by omega),if_neg (by omega),if_neg (by omega),if_pos ho,if_pos ht,if_pos h]
theorem ins_8 {x:In}{R:Nat}(ho:x.op=8)(h:0≤x.a∧x.a<R)(j N:Nat):insE x j N R=0:=by
 unfold insE;rw[if_neg (by omega),if_neg (by omega),if_neg (by omega),if_neg (by omega),if_neg (by omega),if_pos ho,if_pos h]
theorem eff_1 {x:In}(ho:x.op=1∨x.op=8):eff x=1:=by unfold eff;rw[if_pos ho]
theorem eff_2 {x:In}(ho:x.op=2∨x.op=3∨x.op=4):eff x= -1:=by unfold eff;rw[if_neg (by omega),if_pos ho]
theorem eff_0 {x:In}(ho:x.op=5∨x.op=6∨x.op=7):eff x=0:=by unfold eff;rw[if_neg (by omega),if_neg (by omega)]
theorem tk_0 {x:In}(ho:x.op=1∨x.op=6∨x.op=7∨x.op=8):Vx.tk x=0:=by unfold Vx.tk;rw[if_neg (by omega),if_neg (by omega)]
theorem tk_1 {x:In}(ho:x.op=5):Vx.tk x=1:=by unfold Vx.tk;rw[if_pos ho]
theorem tk_2 {x:In}(ho:x.op=2∨x.op=3∨x.op=4):Vx.tk x=2:=by unfold Vx.tk;rw[if_neg (by omega),if_pos ho]
theorem SegOK.one {l:List In}{b R N:Nat}{x:In}(hx:l[b]? =some x)(ho:x.op=1∨x.op=8)(hi:insE x b N R=0):SegOK l b 1 R N:=by
 refine⟨by rw[hAt_step hx,eff_1 ho],fun j y h1 h2 hy=> ?_,fun j y h1 h2 hy hg=> ?_,fun j y h1 h2 hy=> ?_⟩<;>
  (obtain rfl:j=b:=by omega)<;>(rw[hx]at hy;cases Option.some.inj hy)
 ·rw[tk_0 (by omega)];omega
 ·rcases hg with hg|hg<;>omega
 ·exact hi
theorem SegOK.guard {l:List In}{b n R N:Nat}{x:In}(hx:l[b]? =some x)(ho:x.op=6∨x.op=7)(hto:x.to=((b+1+n:Nat):Int))(hi:insE x b N R=0)(h:SegOK l (b+1) n R N):SegOK l b (n+1) R N:=by
 have e1:hAt l (b+1)=hAt l b:=by rw[hAt_step hx,eff_0 (by omega)];omega
 have e2:b+(n+1)=b+1+n:=by omega
 refine⟨by rw[e2,h.fin,e1],fun j y h1 h2 hy=> ?_,fun j y h1 h2 hy hg=> ?_,fun j y h1 h2 hy=> ?_⟩<;>by_cases hj:j=b
 ·subst hj;rw[hx]at hy;cases Option.some.inj hy;rw[tk_0 (by omega)];omega
 ·have:=h.tk j y (by omega) (by omega) hy;rw[e1]at this;exact this
 ·subst hj;rw[hx]at hy;cases Option.some.inj hy;rw[hto,Int.toNat_natCast,h.fin,e1]
 ·exact h.to j y (by omega) (by omega) hy hg
 ·subst hj;rw[hx]at hy;cases Option.some.inj hy;exact hi
 ·exact h.ins j y (by omega) (by omega) hy
theorem SegOK.shift {l:List In}{b n R N:Nat}{x:In}(h:SegOK l b n R N)(hx:l[b+n]? =some x)(ho:x.op=5)(hi:insE x (b+n) N R=0):SegOK l b (n+1) R N:=by
 refine⟨by rw[←Nat.add_assoc,hAt_step hx,eff_0 (by omega),h.fin];omega,fun j y h1 h2 hy=> ?_,fun j y h1 h2 hy hg=> ?_,fun j y h1 h2 hy=> ?_⟩<;>by_cases hj:j=b+n
 ·subst hj;rw[hx]at hy;cases Option.some.inj hy;rw[tk_1 ho,h.fin];omega
 ·exact h.tk j y h1 (by omega) hy
 ·subst hj;rw[hx]at hy;cases Option.some.inj hy;rcases hg with hg|hg<;>omega
 ·exact h.to j y h1 (by omega) hy hg
 ·subst hj;rw[hx]at hy;cases Option.some.inj hy;exact hi
 ·exact h.ins j y h1 (by omega) hy
theorem SegOK.pair {l:List In}{b n m R N:Nat}{x:In}(h:SegOK l b n R N)(h':SegOK l (b+n) m R N)(hx:l[b+n+m]? =some x)(ho:x.op=2∨x.op=3∨x.op=4):SegOK l b (n+m+1) R N:=by
 have e1:=h.fin;have e2:=h'.fin;refine⟨by rw[show b+(n+m+1)=b+n+m+1 by omega,hAt_step hx,eff_2 ho];omega,fun j y h1 h2 hy=> ?_,fun j y h1 h2 hy hg=> ?_,fun j y h1 h2 hy=> ?_⟩<;>by_cases hj:j=b+n+m
 ·subst hj;rw[hx]at hy;cases Option.some.inj hy;rw[tk_2 ho];omega
 ·by_cases hj2:j<b+n
  ·exact h.tk j y h1 hj2 hy
  ·have:=h'.tk j y (by omega) (by omega) hy;omega
 ·subst hj;rw[hx]at hy;cases Option.some.inj hy;rcases hg with hg|hg<;>omega
 ·by_cases hj2:j<b+n
  ·exact h.to j y h1 hj2 hy hg
  ·exact h'.to j y (by omega) (by omega) hy hg
 ·subst hj;rw[hx]at hy;cases Option.some.inj hy;exact ins_234 ho _ _ _
 ·by_cases hj2:j<b+n
  ·exact h.ins j y h1 hj2 hy
  ·exact h'.ins j y (by omega) (by omega) hy
theorem opK_234 {k:Int}(h:k=6∨k=7∨k=8):opK k=2∨opK k=3∨opK k=4:=by
 unfold opK;rcases h with rfl|rfl|rfl<;>simp
theorem nms_kid {e k:Ex}(hk:k∈e.kids){x:List UInt8}(hx:x∈nms k):x∈nms e:=by
 rw[nms_eq,List.mem_append];right;unfold nmsL;exact List.mem_flatten.2 ⟨nms k,List.mem_map.2 ⟨k,hk,rfl⟩,hx⟩
theorem nms_own {e:Ex}(h:e.kind=10):e.name∈nms e:=by rw[nms_eq,if_pos h];simp
theorem seg_ok {num:List UInt8→Int}{R N:Nat}{l:List In}: ∀(M:Nat) (e:Ex),SizeOf.sizeOf e≤M→OKE e→(∀x∈nms e,0≤num x∧num x<R)→ ∀b,SegAt l b (codeE num e b)→b+(codeE num e b).length≤N→SegOK l b (codeE num e b).length R N
 |0,e,hM,_,_,_,_,_=>by cases e;simp at hM
 |M+1,e,hM,h,hn,b,hs,hN=>by
  have ih: ∀k∈e.kids,∀b',SegAt l b' (codeE num k b')→b'+(codeE num k b').length≤N→SegOK l b' (codeE num k b').length R N:=fun k hk b'=>seg_ok M k (by have:=kid_lt hk;omega) (h.kid hk) (fun x hx=>hn x (nms_kid hk hx)) b';have hr:=h.kinds.2.2.2.1;cases hstd:stdE e with
  |true=>
   rw[code_std hstd]at hs⊢;exact SegOK.one hs.one (.inl rfl) (ins_1 rfl (risL_rs _) _ _ _)
  |false=>
   rcases code_kinds h hstd with⟨q,k,hk⟩|⟨q,k,hk⟩|⟨q,k,hk⟩|q|⟨q,k,m,hk⟩
   ·have hm:k∈e.kids:=(by rw[hk];simp);have h1:=(code_len num _ k (Nat.le_refl _) (h.kid hm) (b+1)).1;unfold rangeP at hr;rw[if_neg (by omega),if_pos q]at hr;have hr':=of_decide_eq_true hr;rw[code_week q (by rw[hk];rfl)]at hs hN⊢;rw[List.length_cons]at hN⊢;refine SegOK.guard hs.one (.inl rfl) rfl (ins_6 rfl ⟨?_,?_⟩ ⟨hr'.1,?_⟩ _) (ih k hm (b+1) hs.tail (by omega))
    ·show(b:Int)+2≤((b+1+_:Nat):Int);omega
    ·show((b+1+_:Nat):Int)≤_;omega
    ·show e.a≤127;omega
   ·have hm:k∈e.kids:=(by rw[hk];simp);have h1:=(code_len num _ k (Nat.le_refl _) (h.kid hm) (b+1)).1;unfold rangeP at hr;rw[if_neg (by omega),if_neg (by omega),if_pos q]at hr;have hr':=of_decide_eq_true hr;rw[code_dates q (by rw[hk];rfl)]at hs hN⊢;rw[List.length_cons]at hN⊢;refine SegOK.guard hs.one (.inr rfl) rfl (ins_7 rfl ⟨?_,?_⟩ hr' _) (ih k hm (b+1) hs.tail (by omega))
    ·show(b:Int)+2≤((b+1+_:Nat):Int);omega
    ·show((b+1+_:Nat):Int)≤_;omega
   ·have hm:k∈e.kids:=(by rw[hk];simp);unfold rangeP at hr;rw[if_neg (by omega),if_neg (by omega),if_neg (by omega),if_pos q]at hr;have hr':=of_decide_eq_true hr;rw[code_shift hstd q hk]at hs hN⊢;rw[List.length_append,List.length_singleton]at hN⊢;exact SegOK.shift (ih k hm b hs.left (by omega)) hs.right.one rfl (ins_5 rfl ⟨hr'.1,by show-1439≤e.a;omega,by show e.a≤1439;omega⟩ _ _ _)
   ·rw[code_name q]at hs⊢;exact SegOK.one hs.one (.inr rfl) (ins_8 rfl (hn _ (nms_own q)) _ _)
   ·have hm:k∈e.kids:=(by rw[hk];simp);have hm':m∈e.kids:=(by rw[hk];simp);rw[code_pair hstd q hk]at hs hN⊢;rw[List.length_append,List.length_append,List.length_singleton]at hN⊢;have hs1:=hs.right.one;rw[List.length_append,←Nat.add_assoc]at hs1;exact SegOK.pair (ih k hm b hs.left.left (by omega)) (ih m hm' _ hs.left.right (by omega)) hs1 (opK_234 q)
theorem code_well {num:List UInt8→Int}{R:Nat}{e:Ex}(h:OKE e)(hn: ∀x∈nms e,0≤num x∧num x<R):WellV (codeE num e 0)∧ ∀j x,(codeE num e 0)[j]? =some x→insE x j (codeE num e 0).length R=0:=by
 have hs:SegAt (codeE num e 0) 0 (codeE num e 0):=fun j _=>by rw[Nat.zero_add]
 have q:=seg_ok (N:=(codeE num e 0).length) (R:=R) _ e (Nat.le_refl _) h hn 0 hs (by omega)
 have lt: ∀{j:Nat} {x:In},(codeE num e 0)[j]? =some x→j<0+(codeE num e 0).length:=fun hj=>by
  have:=(List.getElem?_eq_some_iff.1 hj).1;omega
 refine⟨⟨fun j x hx=> ?_,fun j x hx hg=>q.to j x (Nat.zero_le _) (lt hx) hx hg,?_⟩,fun j x hx=>q.ins j x (Nat.zero_le _) (lt hx) hx⟩
 ·have:=q.tk j x (Nat.zero_le _) (lt hx) hx;simpa[hAt] using this
 ·have:=q.fin;simpa[hAt] using this
end Go.Proofs.YtpmobjgnmidolaaDoor
/- How high code grows and how many steps it takes, plainly: as measure reckons it. -/
namespace Go.Proofs.YtpmobjgnmidolaaDoor
open Go.RowKit Lx Vx Msk
theorem mxH_congr {cs cs':List Cd}{l:List In}: ∀(j:Nat),(∀j' x,j'<j→l[j']? =some x→x.op=8→(cs.getD x.a.toNat cd0).high=(cs'.getD x.a.toNat cd0).high)→j≤l.length→mxH cs l j=mxH cs' l j
 |0,_,_=>rfl
 |j+1,h,hj=>by
  have ih:=mxH_congr (cs:=cs) (cs':=cs') (l:=l) j (fun j' x h1=>h j' x (by omega)) (by omega);have hx:l[j]? =some l[j]:=List.getElem?_eq_getElem (by omega);rw[mxH_step hx,mxH_step hx,ih];by_cases ho:(l[j]).op=8
  ·rw[if_pos ho,if_pos ho,h j _ (by omega) hx ho]
  ·rw[if_neg ho,if_neg ho]
theorem stS_congr {cs cs':List Cd}{l:List In}: ∀(j:Nat),(∀j' x,j'<j→l[j']? =some x→x.op=8→(cs.getD x.a.toNat cd0).steps=(cs'.getD x.a.toNat cd0).steps)→j≤l.length→stS cs l j=stS cs' l j
 |0,_,_=>rfl
 |j+1,h,hj=>by
  have ih:=stS_congr (cs:=cs) (cs':=cs') (l:=l) j (fun j' x h1=>h j' x (by omega)) (by omega);have hx:l[j]? =some l[j]:=List.getElem?_eq_getElem (by omega);rw[stS_step hx,stS_step hx,ih];by_cases ho:(l[j]).op=8
  ·rw[if_pos ho,if_pos ho,h j _ (by omega) hx ho]
  ·rw[if_neg ho,if_neg ho]
def withM (C:List (List In))(m:Nat→Int×Int):List Cd:=(List.range C.length).map fun k=>⟨C.getD k [],(m k).1,(m k).2⟩
theorem withM_len (C:List (List In))(m:Nat→Int×Int):(withM C m).length=C.length:=by simp[withM]
theorem withM_at {C:List (List In)}{m:Nat→Int×Int}{k:Nat}(h:k<C.length):(withM C m).getD k cd0=⟨C.getD k [],(m k).1,(m k).2⟩:=by
 have:(withM C m)[k]? =some ⟨C.getD k [],(m k).1,(m k).2⟩:=by
  unfold withM;rw[List.getElem?_map,List.getElem?_range h];rfl
 simp[List.getD,this]
def reck (C:List (List In))(m:Nat→Int×Int)(i:Nat):Int×Int:=(min (mxH (withM C m) (C.getD i []) (C.getD i []).length) 101,min (stS (withM C m) (C.getD i []) (C.getD i []).length) 20001)
def meaF (C:List (List In)):Nat→Nat→Int×Int
 |0,_=>(0,0)
 |f+1,i=>reck C (meaF C f) i
structure Ranked (C:List (List In))(ρ:Nat→Nat):Prop where
 lt: ∀(i j:Nat) (x:In),i<C.length→(C.getD i [])[j]? =some x→x.op=8→0≤x.a∧x.a.toNat<C.length∧ρ x.a.toNat<ρ i
theorem reck_congr {C:List (List In)}{ρ:Nat→Nat}(h:Ranked C ρ){m m':Nat→Int×Int}{i:Nat}(hi:i<C.length)(hm: ∀k,k<C.length→ρ k<ρ i→m k=m' k):reck C m i=reck C m' i:=by
 have key: ∀j' x,j'<(C.getD i []).length→(C.getD i [])[j']? =some x→x.op=8→(withM C m).getD x.a.toNat cd0=(withM C m').getD x.a.toNat cd0:=fun j' x _ hx ho=>by
  obtain⟨_,h2,h3⟩:=h.lt i j' x hi hx ho;rw[withM_at h2,withM_at h2,hm _ h2 h3]
 have e1:mxH (withM C m) (C.getD i []) (C.getD i []).length=mxH (withM C m') (C.getD i []) (C.getD i []).length:=mxH_congr _ (fun j' x h1 h2 h3=>by rw[key j' x h1 h2 h3]) (Nat.le_refl _);have e2:stS (withM C m) (C.getD i []) (C.getD i []).length=stS (withM C m') (C.getD i []) (C.getD i []).length:=stS_congr _ (fun j' x h1 h2 h3=>by rw[key j' x h1 h2 h3]) (Nat.le_refl _);unfold reck;rw[e1,e2]
theorem meaF_fuel {C:List (List In)}{ρ:Nat→Nat}(h:Ranked C ρ): ∀(f f' i:Nat),i<C.length→ρ i<f→ρ i<f'→meaF C f i=meaF C f' i
 |0,_,_,_,h1,_=>by omega
 |_+1,0,_,_,_,h2=>by omega
 |f+1,f'+1,i,hi,h1,h2=>by
  unfold meaF;exact reck_congr h hi fun k hk hr=>meaF_fuel h f f' k hk (by omega) (by omega)
theorem meaF_eq {C:List (List In)}{ρ:Nat→Nat}(h:Ranked C ρ){N:Nat}(hN: ∀i,i<C.length→ρ i≤N){i:Nat}(hi:i<C.length):meaF C (N+1) i=reck C (meaF C (N+1)) i:=by
 conv=>lhs;unfold meaF
 have h1:=hN i hi;exact reck_congr h hi fun k hk hr=>meaF_fuel h N (N+1) k hk (by omega) (by have:=hN k hk;omega)
theorem eff_bd (x:In): -1≤eff x∧eff x≤1:=by
 unfold eff;split
 ·omega
 ·split<;>omega
theorem hAt_bd (l:List In): ∀j:Nat,-(j:Int)≤hAt l j∧hAt l j≤(j:Int)
 |0=>by simp[hAt]
 |j+1=>by
  have ih:=hAt_bd l j;have e:=eff_bd (l.getD j in0);simp only[hAt];omega
structure Small (cs:List Cd):Prop where
 hi: ∀k,0≤(cs.getD k cd0).high∧(cs.getD k cd0).high≤101
 st: ∀k,0≤(cs.getD k cd0).steps∧(cs.getD k cd0).steps≤20001
theorem mxH_bd {cs:List Cd}(h:Small cs)(l:List In): ∀j:Nat,0≤mxH cs l j∧mxH cs l j≤(j:Int)+101
 |0=>by simp[mxH]
 |j+1=>by
  have ih:=mxH_bd h l j;have e:=hAt_bd l j;have e':=hAt_bd l (j+1);have q:=h.hi (l.getD j in0).a.toNat;simp only[mxH];split<;>omega
theorem stS_bd {cs:List Cd}(h:Small cs)(l:List In): ∀j:Nat,(j:Int)≤stS cs l j∧stS cs l j≤(j:Int)*20002
 |0=>by simp[stS]
 |j+1=>by
  have ih:=stS_bd h l j;have q:=h.st (l.getD j in0).a.toNat;simp only[stS];split<;>omega
theorem withM_small {C:List (List In)}{m:Nat→Int×Int}(h: ∀k,k<C.length→(0≤(m k).1∧(m k).1≤101)∧(0≤(m k).2∧(m k).2≤20001)):Small (withM C m):=by
 constructor<;>intro k<;>by_cases hk:k<C.length
 ·rw[withM_at hk];exact(h k hk).1
 ·have:(withM C m).getD k cd0=cd0:=by
   have:(withM C m)[k]? =none:=List.getElem?_eq_none (by rw[withM_len];omega);simp[List.getD,this]
  rw[this];simp[cd0]
 ·rw[withM_at hk];exact(h k hk).2
 ·have:(withM C m).getD k cd0=cd0:=by
   have:(withM C m)[k]? =none:=List.getElem?_eq_none (by rw[withM_len];omega);simp[List.getD,this]
  rw[this];simp[cd0]
theorem reck_bd {C:List (List In)}{m:Nat→Int×Int}(h:Small (withM C m))(i:Nat):(0≤(reck C m i).1∧(reck C m i).1≤101)∧(0≤(reck C m i).2∧(reck C m i).2≤20001)∧(1≤(C.getD i []).length→1≤(reck C m i).2):=by
 have a:=mxH_bd h (C.getD i []) (C.getD i []).length;have b:=stS_bd h (C.getD i []) (C.getD i []).length;refine⟨⟨?_,?_⟩,⟨?_,?_⟩,fun hl=> ?_⟩<;>simp only[reck]<;>omega
theorem meaF_bd (C:List (List In)): ∀(f i:Nat),(0≤(meaF C f i).1∧(meaF C f i).1≤101)∧(0≤(meaF C f i).2∧(meaF C f i).2≤20001)
 |0,i=>by simp[meaF]
 |f+1,i=>by
  have h:=reck_bd (C:=C) (withM_small (C:=C) fun k _=>meaF_bd C f k) i;exact⟨h.1,h.2.1⟩
theorem meaF_small (C:List (List In))(f:Nat):Small (withM C (meaF C f)):=withM_small fun k _=>meaF_bd C f k
end Go.Proofs.YtpmobjgnmidolaaDoor
/- What code.steady comes to. -/
namespace Go.Proofs.YtpmobjgnmidolaaDoor
open Go.RowKit Lx Vx Msk
variable {B:Nat→Prop}
def OutS7 (e:Ex)(w:World)(r:Ending)(w':World):Prop:=r= .returned (.bool (stdE e))∧Below w.heap.size w w'
def KidsS (w:World)(sl:Value)(ks:List Ex):Prop:=
 ∃g o c:Nat,sl= .slice (some ⟨g,o,none⟩) ks.length c∧ks.length<9223372036854775808∧ ∀(j:Nat) (k:Ex),ks[j]? =some k→ ∃(p:Option Addr) (q:Nat),
  w.cell? ⟨g,o+j*5,none⟩=some (.int .i64 k.kind)∧w.cell? ⟨g,o+j*5+1,none⟩=some (.int .i64 k.a)∧w.cell? ⟨g,o+j*5+2,none⟩=some (.int .i64 k.b)∧
  w.cell? ⟨g,o+j*5+3,none⟩=some (.string ⟨k.name.toArray⟩)∧w.cell? ⟨g,o+j*5+4,none⟩=some (.slice p k.kids.length q)∧
  ∀W:World,Below w.heap.size w W→Calls Tryd.prog 43 #[.agg #[.int .i64 k.kind,.int .i64 k.a,.int .i64 k.b,.string ⟨k.name.toArray⟩,.slice p k.kids.length q]] W (OutS7 k W)
theorem all_step {ks:List Ex}{j:Nat}{k:Ex}(h:ks[j]? =some k):(ks.drop j).all stdE=(stdE k&&(ks.drop (j+1)).all stdE):=by
 obtain⟨h1,h2⟩:=List.getElem?_eq_some_iff.1 h;rw[List.drop_eq_getElem_cons h1,h2];rfl
set_option maxRecDepth 100000 in
set_option maxHeartbeats 2000000 in
theorem steady_step (e:Ex)(p:Option Addr)(c:Nat)(w:World)(hk:e.kids=[]∨KidsS w (.slice p e.kids.length c) e.kids)(hlen:e.kids.length<9223372036854775808):
  Calls Tryd.prog 43 #[.agg #[.int .i64 e.kind,.int .i64 e.a,.int .i64 e.b,.string ⟨e.name.toArray⟩,.slice p e.kids.length c]] w (OutS7 e w):=by
 have hbA:=(Below.refl w.heap.size w).alloc (Nat.le_refl _) (.cells #[.int .i64 e.kind,.int .i64 e.a,.int .i64 e.b,.string ⟨e.name.toArray⟩,.slice p e.kids.length c] 50);have hxA:=heap_alloc_new w (.cells #[.int .i64 e.kind,.int .i64 e.a,.int .i64 e.b,.string ⟨e.name.toArray⟩,.slice p e.kids.length c] 50);generalize hwA:w.alloc (.cells #[.int .i64 e.kind,.int .i64 e.a,.int .i64 e.b,.string ⟨e.name.toArray⟩,.slice p e.kids.length c] 50)=wA at*;have z0:=(cell_of_row _ _ 0 _ _ _ hxA).trans rfl;have z4:=(cell_of_row _ _ 4 _ _ _ hxA).trans rfl;generalize hX:stdE e=X;have HX:Hid (stdE e=X):=hX;unfold OutS7;rw[hX];clear hX;by_cases k4:e.kind=4
 ·have HE:Hid (X=false):=by
   show _=_;rw[←HX.out];cases hs:stdE e with
   |false=>rfl
   |true=>exact absurd k4 (stdE_kind hs).1
  have e4:(e.kind==4)=true:=(by simp[k4]);clear hk HX k4;go_enter Tryd.func43,Tryd.ntmps43;go_wp2_with fail;go_ret;rw[HE.out];exact⟨rfl,hbA⟩
 have e4:(e.kind==4)=false:=by simpa using k4
 by_cases k5:e.kind=5
 ·have HE:Hid (X=false):=by
   show _=_;rw[←HX.out];cases hs:stdE e with
   |false=>rfl
   |true=>exact absurd k5 (stdE_kind hs).2.1
  have e5:(e.kind==5)=true:=(by simp[k5]);clear hk HX k4 k5;go_enter Tryd.func43,Tryd.ntmps43;go_wp2_with fail;go_ret;rw[HE.out];exact⟨rfl,hbA⟩
 have e5:(e.kind==5)=false:=by simpa using k5
 by_cases k10:e.kind=10
 ·have HE:Hid (X=false):=by
   show _=_;rw[←HX.out];cases hs:stdE e with
   |false=>rfl
   |true=>exact absurd k10 (stdE_kind hs).2.2
  have e10:(e.kind==10)=true:=(by simp[k10]);clear hk HX k4 k5 k10;go_enter Tryd.func43,Tryd.ntmps43;go_wp2_with fail;go_ret;rw[HE.out];exact⟨rfl,hbA⟩
 have e10:(e.kind==10)=false:=by simpa using k10
 have HS:Hid ((e.kids.drop 0).all stdE=X):=by
  show _=_;rw[←HX.out,stdE_eq,List.drop_zero];simp[k4,k5,k10]
 clear HX k4 k5 k10;go_enter Tryd.func43,Tryd.ntmps43;go_wp2_with fail;go_loopw [4,14] (fun _ t wr=> ∃j:Nat,t= .int .i64 (j:Int)∧j≤e.kids.length∧(e.kids.drop j).all stdE=X∧Below w.heap.size w wr) (fun _ t _=>e.kids.length-(intOf t).toNat);case atStart=>exact⟨0,rfl,by omega,HS.out,hbA⟩
 case round=>
  obtain⟨j,rfl,hj,hXr,hb⟩:=hrel;clear HS z0 z4 hxA hbA hwA e4 e5 e10;have hj0:(0:Int)≤(j:Int):=(by omega);by_cases hlt:j<e.kids.length
  ·have hlt':(j:Int)<(e.kids.length:Int):=(by omega);obtain⟨k,hjk⟩: ∃k,e.kids[j]? =some k:=⟨e.kids[j],List.getElem?_eq_getElem hlt⟩
   rw[all_step hjk]at hXr;have hks:e.kids≠[]:=fun h=>(by rw[h]at hlt;simp at hlt);obtain⟨g,o,c',hsl,_,hkid⟩:=hk.resolve_left hks;obtain⟨pk,ck,d0,d1,d2,d3,d4,ihk⟩:=hkid j k hjk;have f0:=(hb.cell (block_lt_of_cell d0)).trans d0;have f1:=(hb.cell (block_lt_of_cell d1)).trans d1;have f2:=(hb.cell (block_lt_of_cell d2)).trans d2;have f3:=(hb.cell (block_lt_of_cell d3)).trans d3;have f4:=(hb.cell (block_lt_of_cell d4)).trans d4;have hbB:=(Below.refl wr.heap.size wr).alloc (Nat.le_refl _) (.cells #[.int .i64 k.kind,.int .i64 k.a,.int .i64 k.b,.string ⟨k.name.toArray⟩,.slice pk k.kids.length ck] 50);have hxB:=heap_alloc_new wr (.cells #[.int .i64 k.kind,.int .i64 k.a,.int .i64 k.b,.string ⟨k.name.toArray⟩,.slice pk k.kids.length ck] 50);have hb2:=hb.trans (hbB.mono hb.size);have cR:=ihk _ hb2;injection hsl with e1 e2 e3;subst e1;subst e3;clear d0 d1 d2 d3 d4 ihk hkid hks hjk hbB;have HXr:Hid ((stdE k&&(e.kids.drop (j+1)).all stdE)=X):=hXr;unfold OutS7 at cR;clear hXr;generalize stdE k=y at*;generalize hwB:wr.alloc (.cells #[.int .i64 k.kind,.int .i64 k.a,.int .i64 k.b,.string ⟨k.name.toArray⟩,.slice pk k.kids.length ck] 50)=wB at*;go_wp2_with(refine wpList_load_row rfl 50 _ rfl _ rfl _ _ _ _ hxB exprType rfl (by kernel_rfl) ?_)
   refine cR.mono ?_;rintro r w3 ⟨rfl,b3⟩;have hb3:=hb2.trans (b3.mono hb2.size);clear cR hxB hwB f0 f1 f2 f3 f4 b3 hb2;cases y with
   |false=>
    have HE:Hid (X=false):=(by show _=_;rw[←HXr.out];rfl);clear HXr;go_wp2_with fail;go_ret;rw[HE.out];exact⟨rfl,hb3⟩
   |true=>
    go_wp2_with fail;go_roundw;case rel=>exact⟨j+1,by go_num,by omega,by rw[←HXr.out];rfl,hb3⟩
    case measure=>simp[intOf];omega
  ·have hlt': ¬(j:Int)<(e.kids.length:Int):=(by omega);have HE:Hid (X=true):=(by show _=_;rw[←hXr,List.drop_eq_nil_of_le (by omega)];rfl);clear hXr;go_wp2_with fail;go_ret;rw[HE.out];exact⟨rfl,hb⟩
theorem steady_any: ∀(d:Nat) (e:Ex) (sl:Value) (w:World),KidsB B d w sl e.kids→Calls Tryd.prog 43 #[exV e sl] w (OutS7 e w):=by
 intro d;induction d with
 |zero=>
  intro e sl w hk;obtain⟨p,c,rfl⟩:=hk.form;exact steady_step e p c w (.inl hk.1) (by rw[hk.1];decide)
 |succ d ih=>
  intro e sl w hk;obtain⟨p,c,hsl⟩:=hk.form;subst hsl;rcases hk with⟨h,_⟩|⟨g,o,c',hg,hs,hl,hkid⟩
  ·exact steady_step e p c w (.inl h) (by rw[h];decide)
  ·refine steady_step e p c w (.inr ⟨g,o,c',hs,hl,fun j k hj=> ?_⟩) hl;obtain⟨hn',sk,c0,c1,c2,c3,c4,r⟩:=hkid j k hj;obtain⟨p',q',rfl⟩:=r.form;exact⟨p',q',c0,c1,c2,c3,c4,fun W hb=>ih k _ W (r.kept fun g' _ hl'=>hb.block g' hl')⟩
end Go.Proofs.YtpmobjgnmidolaaDoor
