/- Texts of the proof. -/
import Derived.Laws.AppendOwnNone
import Derived.Test.YtjkilacmkbmmbaaGreatDoorPt36
set_option maxRecDepth 100000
set_option maxHeartbeats 8000000
namespace Go.Proofs.YtjkilacmkbmmbaaGreatDoor
open Go.Proofs.Tryz Go.RowKit Lx Vx Mx Msk
theorem Bx: ∀us:List (Ru×Value),(fR us).length=us.length*6
 |[]=>rfl
 |p::us=>by simp[fR,Bx us];omega
theorem Hj (us:List (Ru×Value))(hf: ∀p∈us,∃q n c,p.2= .slice q n c): ∀u∈fR us,u.oneCell'=true:=by
 induction us with
 |nil=>intro u hu;simp[fR]at hu
 |cons p us ih=>
  intro u hu;obtain⟨q,n,c,e⟩:=hf p bo;simp only[fR,e,bp]at hu;rcases hu with rfl|rfl|rfl|rfl|rfl|rfl|hu
  ·rfl
  ·rfl
  ·rfl
  ·rfl
  ·rfl
  ·rfl
  ·exact ih (fun p hp=>hf p (bx _ hp)) u hu
theorem vW {w:World}{g:Nat}: ∀(us:List (Ru×Value)) (o:Nat),(∀(j:Nat) (p:Ru×Value),us[j]? =some p->w.cell? (ae g (o+j*6))=some (.string ⟨p.1.1.toArray⟩)/\w.cell? (ae g (o+j*6+1))=some (ag p.1.2.kind)/\w.cell? (ae g (o+j*6+2))=some (ag p.1.2.a)/\w.cell? (ae g (o+j*6+3))=some (ag p.1.2.b)/\
   w.cell? (ae g (o+j*6+4))=some (.string ⟨p.1.2.name.toArray⟩)/\w.cell? (ae g (o+j*6+5))=some p.2)-> ∀(j:Nat) (u:Value),(fR us)[j]? =some u->w.cell? (ae g (o+j))=some u
 |[],_,_,j,u,h=>by simp[fR]at h
 |p::us,o,hc,j,u,h=>by
  obtain⟨h0,h1,h2,h3,h4,h5⟩:=hc 0 p rfl;simp only[Nat.zero_mul,Nat.add_zero]at h0 h1 h2 h3 h4 h5;match j,h with
  |0,h=>cases h;exact h0
  |1,h=>cases h;exact h1
  |2,h=>cases h;exact h2
  |3,h=>cases h;exact h3
  |4,h=>cases h;exact h4
  |5,h=>cases h;exact h5
  |j+6,h=>
   have:=vW us (o+6) (fun q p' hq=>by
    have:=hc (q+1) p' (by simpa using hq);rw[show o+(q+1)*6=o+6+q*6 by omega]at this;exact this) j u (by simpa[fR] using h)
   rw[show o+(j+6)=o+6+j by omega];exact this
theorem DL {w:World}{o:Oper}{a:Act}{K:Act->World->Prop}{Q:Exit->Act->World->Prop}(s x:Operand)
  (ho:o.op= .call {callee:= .builtin .append,args:= #[s,x],argTypes:= #[45,45]}) (base:Nat) (i:TypeInfo) (hi:prog.info? 54=some i) (hz:i.zero=some (.agg #[.string ⟨#[]⟩,ag 0,ag 0,ag 0,.string ⟨#[]⟩,af])) (hsize:i.size=6) (hby:i.bytes=80)
  (v:Value) (n:Nat) (xs:List Value) (hs:a.eval s=v) (hown:w.ownsRow base 54 6 v n xs) (us:List (Ru×Value)) (pv:Option Addr) (cv:Nat) (hx:a.eval x= .slice pv us.length cv) (hin:InR w (.slice pv us.length cv) us) (hp:pv=none->cv=0)
  (h63:n+us.length<=maxLen) (hbytes:(n+us.length)*80<=140737488355328) (hbase:base<=w.heap.size)
  (h: ∀v' w',w'.ownsRow base 54 6 v' (n+us.length) (xs++fR us)->w.grownBy w' v.ownBlock->K (a.put o.dst v') w'):o.wp prog a w K Q:=by
 have hf:=Hj us fun p hp=>by
  obtain⟨_,_,d,hd⟩:=hin.all p hp;obtain⟨q,c,e⟩:=hd.form;exact⟨q,_,c,e⟩
 have hc:=hin.cells;cases pv with
 |none=>
  have e0:us=[]:=by
   cases us with
   |nil=>rfl
   |cons p us=>
    obtain⟨_,_,e,_⟩:=hc 0 p rfl;cases e
  subst e0;rw[hp rfl]at hx;have hx':a.eval x=af:=hx;have hrun:=run_append_owned_none (P:=prog) (w:=w) base 45 o.type 54 i 6 qW hi v n xs hown;unfold Oper.wp;simp[execOp,ho,resolve,invoke,builtin,hs,hx',hrun,Result.andThen];exact h v w (by rw[fR,eV];exact hown) ⟨rfl,rfl,rfl,aA _,fun _ _ _=>rfl⟩
 |some ad=>
  refine wp_append_own w s x 45 ho base 54 i _ 6 80 qW hi hz hsize hby rfl (by decide) v n xs hs hown ad us.length cv (fR us) hx (Bx us) (fun j u hj=> ?_) hf h63 hbytes hbase fun v' w' h2 h3 _=>h v' w' h2 h3;cases us with
  |nil=>simp[fR]at hj
  |cons p0 us=>
   obtain⟨g,o',e,_⟩:=hc 0 p0 rfl;obtain rfl:=aI e
   have t:=vW (p0::us) o' (fun q p hq=>by
    obtain⟨g',o'',e',hh⟩:=hc q p hq;cases e';exact hh) j u hj
   by_cases hj0:j=0
   ·subst hj0;simpa[Addr.add] using t
   ·simpa[Addr.add,hj0] using t
section
section
variable {B:Nat} {us us2:List (Ru×Value)} {LV:Value} {day:Int} {nm:List UInt8} {exr rowu:Array Value} {er at0:Int} {fs:List (Nat->Bool)} {L L':Nat->Bool} {W W':World}
theorem oK.later {w w':World}{v:Value}{fs:List (Nat->Bool)}(h:oK w v fs)(hb:ao w w'):oK w' v fs:=by
 obtain⟨p,c,h1,h2,h3⟩:=h;refine⟨p,c,h1,h2,fun i f hi=> ?_⟩;obtain⟨g,o,e,hr⟩:=h3 i f hi;exact⟨g,o,e,mr hr hb⟩
end
theorem Mg {w W:World}{B:Nat}{us us2:List (Ru×Value)}{p:Ru×Value}{lv v:Value}(hus:us++[p]=us2)(h:InR w lv us)(hp:nh w p)(hb:ao w W)(ho:W.ownsRow B 54 6 v us2.length (fR us2))(hl:us2.length<9223372036854775808):InR W v us2:=by
 refine⟨tN ho hl,hl,fun q hq=> ?_⟩;rw[<-hus,cY,cg]at hq;rcases hq with hq|rfl
 ·exact(h.below hb).all q hq
 ·exact hp.below hb
end
def g6:Nat->Bool:=fun i=>(decide ((540:Int)<=(i:Int))&&decide ((i:Int)<600))&&decide (i<1440)
theorem oK.below {w w':World}{v:Value}{fs:List (Nat->Bool)}(h:oK w v fs)(hb:ao w w'):oK w' v fs:=by
 obtain⟨p,c,h1,h2,h3⟩:=h;refine⟨p,c,h1,h2,fun i f hi=> ?_⟩;obtain⟨g,o,e,hr⟩:=h3 i f hi;exact⟨g,o,e,mr hr hb⟩
theorem oK.apart {w:World}{v:Value}{fs:List (Nat->Bool)}{g:Nat}{a b:Int}{cs:Array Value}(h:oK w v fs)(hg:w.heap[g]? =ah #[ag a,ag b] 47):oK (w.setRow g cs) v fs:=by
 obtain⟨p,c,h1,h2,h3⟩:=h;refine⟨p,c,h1,h2,fun i f hi=> ?_⟩;obtain⟨q,o,e,hr⟩:=h3 i f hi;refine⟨q,o,e,fun j u hu=> ?_⟩
 have hne:q≠g:=fun e=>by
  subst e;have h0:=hr 0 (.int .u64 (wd f 0:Int)) (by rw[bn];exact pj f 0 (by decide));rw[aX _ _ _ _ _ _ hg]at h0
  have hlt:o+i*23+0<2:=by
   by_cases hx:o+i*23+0<2
   ·exact hx
   ·rw[Array.getElem?_eq_none (by simp;omega)]at h0;cases h0
  match hk:o+i*23+0,hlt,h0 with
  |0,_,h0=>cases h0
  |1,_,h0=>cases h0
 rw[<-hr j u hu];exact dT (aU _ _ _ _ hne)
theorem Mh {l:List Ru}{day:Int}(h:(jZ l day).1=0):(di l).1=0:=by
 unfold jZ at h;split at h
 ·rename_i h1;exact absurd h h1
 ·rename_i h1;simpa using h1
theorem Kj {l:List Ru}{day:Int}(h:(jZ l day).1=0):(lJ l day).length=l.length:=by
 unfold lJ;rw[ax h];simp
theorem DM {l:List Ru}{day:Int}(h:(jZ l day).1=0){i:Nat}(hi:i<l.length):(lJ l day)[i]? =some (meanP l (wkB day) day i):=by
 unfold lJ;rw[ax h,bc,List.getElem?_range hi];rfl
section
def zzN:List UInt8:=[122,122,95,110,101,119]
def aE:Ex:=⟨2,0,0,[],[]⟩
def Ql (x:List UInt8):Ex:=⟨10,0,0,x,[]⟩
def dE5 (off:Int):Ex:=⟨5,off,off,[],[aE]⟩
def hoE (x:List UInt8)(off:Int):Ex:=⟨7,0,0,[],[Ql x,dE5 off]⟩
theorem DN {l:List Ru}{wk:Int->Bool}{day:Int}: ∀(f i:Nat) (k:Nat),1440<=k->o7 l wk day f i k=false
 |0,_,_,_=>rfl
 |f+1,i,k,hk=>by
  unfold o7;cases l[i]? with
  |none=>rfl
  |some u=>exact zO (fun x j hj=>DN f _ j hj) _ u.2 (aA _) k hk
section
variable {l:List Ru} {u:Ru} {day off:Int} (h:(jZ (l++[(zzN,hoE u.1 off)]) day).1=0) (hu:l[0]? =some u)
theorem Fu (h:(jZ (l++[(zzN,hoE u.1 off)]) day).1=0)(hu:l[0]? =some u):meanP (l++[(zzN,hoE u.1 off)]) (wkB day) day l.length=fun i=>(meanP (l++[(zzN,hoE u.1 off)]) (wkB day) day 0 i&& !(if off<=day/\day<=off then fun i=>decide (i<1440) else nev) i)&&decide (i<1440):=by
 have hc:=Mh h;have h0:=(aD.1 hu).1;have e0:atP5 (l++[(zzN,hoE u.1 off)]) u.1=0:=Fi hc (k:=0) (by rw[d9 h0];exact hu);rw[kG hc (i:=l.length) (u:=(zzN,hoE u.1 off)) (by simp),fL];show lG _ _ 7 0 0 _ ([Ql u.1,dE5 off].map _)=_;rw[bV,bV,dU,fL,fL];generalize l++[(zzN,hoE u.1 off)]=L at*;funext i;show((meanP L (wkB day) day (atP5 L u.1).toNat i&& !(if off<=day/\day<=off then([aE].map (fi (wkB day) day fun x=>meanP L (wkB day) day (atP5 L x).toNat)).getD 0 nev else nev) i)&&decide (i<1440))=_;rw[e0,bV,dU,fL];rfl
theorem Qm (h:(jZ (l++[(zzN,hoE u.1 off)]) day).1=0)(hu:l[0]? =some u)(e:day=off):cnt (meanP (l++[(zzN,hoE u.1 off)]) (wkB day) day l.length) 1440=0:=by
 rw[Fu h hu];refine tE fun j hj=> ?_;rw[ax (by omega),a6 hj];simp
theorem Rb (h:(jZ (l++[(zzN,hoE u.1 off)]) day).1=0)(hu:l[0]? =some u)(e:day≠off):eqm (meanP (l++[(zzN,hoE u.1 off)]) (wkB day) day l.length) (meanP (l++[(zzN,hoE u.1 off)]) (wkB day) day 0)=true:=by
 refine CL fun i _=> ?_;rw[Fu h hu];dsimp only;rw[aw (by omega)];by_cases hi:i<1440
 ·rw[a6 hi];simp[nev]
 ·rw[bh hi,iE];exact(DN _ _ i (by omega)).symm
end
theorem Rc {W:World}{x:List UInt8}{off:Int}{g1 g2:Nat}(hx:x.length<=9223372036854775807)(h1:W.heap[g1]? =ah #[ag 2,ag 0,ag 0,.string ⟨#[]⟩,af] 52)
  (h2:W.heap[g2]? =ah #[ag 10,ag 0,ag 0,.string ⟨x.toArray⟩,af,ag 5,ag off,ag off,.string ⟨#[]⟩,.slice (some (ae g1 0)) 1 1] 52):nh W ((zzN,hoE x off),.slice (some (ae g2 0)) 2 2):=by
 refine⟨by show 6<=_;decide,by show 0<=_;decide,2,.inr ⟨g2,0,2,aG h2,rfl,by show 2<_;decide,fun j k hj=> ?_⟩⟩;match j,hj with
 |0,hj=>
  cases hj;exact⟨hx,_,ak 0 h2,ak 1 h2,ak 2 h2,ak 3 h2,ak 4 h2,.inl ⟨rfl,_,_,rfl⟩⟩
 |1,hj=>
  cases hj;refine⟨by show 0<=_;decide,_,ak 5 h2,ak 6 h2,ak 7 h2,ak 8 h2,ak 9 h2,.inr ⟨g1,0,1,aG h1,rfl,by show 1<_;decide,fun j k hj=> ?_⟩⟩;match j,hj with
  |0,hj=>
   cases hj;exact⟨by show 0<=_;decide,_,ak 0 h1,ak 1 h1,ak 2 h1,ak 3 h1,ak 4 h1,rfl,_,_,rfl⟩
  |j+1,hj=>simp[dE5]at hj
 |j+2,hj=>simp[hoE]at hj
end
section
structure HoJ (w0:World)(us us2:List (Ru×Value))(row:Array Value)(M:Nat->Bool)(φ:Nat->Value)(W:World):Prop where
 bel:ao w0 W
 c6:M 6=true->M 2=true
 e0:M 0=true->M 2=false-> ∃g,φ 52= .slice (some (ae g 0)) 0 0/\w0.heap.size<=g/\W.heap[g]? =ah #[] 54
 e2:M 2=true->M 6=false->W.ownsRow w0.heap.size 54 6 (φ 54) us.length (fR us)
 e5:M 5=true->M 6=false-> ∃g,φ 57= .slice (some (ae g 0)) 1 1/\W.heap[g]? =ah row 54
 e6:M 6=true->W.ownsRow w0.heap.size 54 6 (φ 58) us2.length (fR us2)
 e7:M 7=true->φ 10=φ 58
section
variable {w0 W W':World} {us us2:List (Ru×Value)} {row:Array Value} {M:Nat->Bool} {φ:Nat->Value}
theorem vX {b n s:Nat}{T:TypeId}{v:Value}{xs:List Value}(h:W.ownsRow b T s v n xs)(hb:ao W W'):W'.ownsRow b T s v n xs:=by
 obtain⟨h1,h2⟩:=h;refine⟨h1,?_⟩;rcases h2 with h2|⟨g,cap,cur,hv,hg,hh,r⟩
 ·exact .inl h2
 ·exact .inr ⟨g,cap,cur,hv,hg,(hb.block g (aG hh)).trans hh,r⟩
theorem HoJ.below (h:HoJ w0 us us2 row M φ W)(hb:ao W W'):HoJ w0 us us2 row M φ W' where
 bel:=au h.bel hb
 c6:=h.c6
 e0 c d:=by obtain⟨g,e,h1,h2⟩:=h.e0 c d;exact⟨g,e,h1,ai hb h2⟩
 e2 c d:=vX (h.e2 c d) hb
 e5 c d:=by obtain⟨g,e,h2⟩:=h.e5 c d;exact⟨g,e,ai hb h2⟩
 e6 c:=vX (h.e6 c) hb
 e7:=h.e7
theorem HoJ.start (h:ao w0 W):HoJ w0 us us2 row (fun _=>false) φ W:=⟨h,fun h=>h,(fun h=>by cases h),(fun h=>by cases h),(fun h=>by cases h),(fun h=>by cases h),(fun h=>by cases h)⟩
theorem HoJ.d0 (h:HoJ w0 us us2 row M φ W):HoJ w0 us us2 row (fun x=>decide (0=x)||M x) (ml φ (some 52) (.slice (some (ae W.heap.size 0)) 0 0)) (W.alloc (.cells #[] 54)):=by
 have k:=h.below (am W (.cells #[] 54));exact⟨k.bel,k.c6,fun _ _=>⟨_,rfl,h.bel.size,aB _ _⟩,k.e2,k.e5,k.e6,k.e7⟩
theorem HoJ.d5 (h:HoJ w0 us us2 row M φ W):HoJ w0 us us2 row (fun x=>decide (5=x)||M x) (ml φ (some 57) (.slice (some (ae W.heap.size 0)) 1 1)) (W.alloc (.cells row 54)):=by
 have k:=h.below (am W (.cells row 54));exact⟨k.bel,k.c6,k.e0,k.e2,fun _ _=>⟨_,rfl,aB _ _⟩,k.e6,k.e7⟩
theorem HoJ.d7 (h:HoJ w0 us us2 row M φ W):HoJ w0 us us2 row (fun x=>decide (7=x)||M x) (ml φ (some 10) (φ 58)) W:=⟨h.bel,h.c6,h.e0,h.e2,h.e5,h.e6,fun _=>rfl⟩
theorem HoJ.d2 (h:HoJ w0 us us2 row M φ W)(hr:row.size=6){g:Nat}(e:W.heap[g]? =ah #[] 54)(hg:w0.heap.size<=g){v:Value}(ho:W'.ownsRow w0.heap.size 54 6 v us.length (fR us))(hw:W.grownBy W' (some g))(hm:M 2=false):HoJ w0 us us2 row (fun x=>decide (2=x)||M x) (ml φ (some 54) v) W':=by
 have hb:ao w0 W':=h.bel.grown hw h.bel.size fun q hq=>by cases aI hq;exact hg
 have m6:M 6=false:=by
  cases c:M 6 with
  |false=>rfl
  |true=>rw[h.c6 c]at hm;cases hm
 refine⟨hb,fun _=>rfl,(fun _ d=>by cases d),fun _ _=>ho,fun c d=> ?_,fun c=> ?_,h.e7⟩
 ·obtain⟨q,e1,e2⟩:=h.e5 c d;refine⟨q,e1,(hw.block q (aG e2) fun x=> ?_).trans e2⟩;have:g=q:=aI x.symm;subst this;rw[e]at e2;injection e2 with e2;injection e2 with e2;have:=congrArg Array.size e2;rw[hr]at this;cases this
 ·replace c:M 6=true:=c;rw[m6]at c;cases c
theorem HoJ.d6 (_:HoJ w0 us us2 row M φ W)(m2:M 2=true){v:Value}(ho:W'.ownsRow w0.heap.size 54 6 v us2.length (fR us2))(hb:ao w0 W')(m7:M 7=false):HoJ w0 us us2 row (fun x=>decide (6=x)||M x) (ml φ (some 58) v) W':=
 ⟨hb,fun _=>m2,(fun _ d=>by replace d:M 2=false:=d;rw[m2]at d;cases d),(fun _ d=>by cases d),(fun _ d=>by cases d),fun _=>ho,fun c=>by replace c:M 7=true:=c;rw[m7]at c;cases c⟩
end
end
theorem RG:prog.underlying 52=some (.struct (prog.fieldsOf 52)):=by kernel_rfl
theorem yS {o:Oper}{a:Act}{w:World}{K:Act->World->Prop}{Q:Exit->Act->World->Prop}(ho:o.op= .buildSlice 45 0 #[])(h:K (a.put o.dst (.slice (some (ae w.heap.size 0)) 0 0)) (w.alloc (.cells #[] 54))):Oper.wp prog o a w K Q:=by
 unfold Oper.wp execOp;have hb:(Instr.buildSlice 45 0 #[]).run prog w= .ok (.slice (some (ae w.heap.size 0)) 0 0) (w.alloc (.cells #[] 54)):=by kernel_rfl
 simp only[ho,iA,dU,iq,jp,fB,hb];exact h
theorem Hk (s:ByteArray)(off day:Int)(w:World)(hs:s.data.toList.length<=9223372036854775807)(hT:Tbs w.heap.size w):Calls prog 7 #[.string s,ag off,ag day] w fun e w'=>e= .returned (.bool true)/\ao w w':=by
 have c1:=rA w hT;have HT:=aF hT;clear hT;go_enter func7,ntmps7;go_wp2_with fail;refine c1.mono ?_;rintro e w1 ⟨rfl,b1⟩;clear c1;have hT1:=HT.o w1 b1;have cP:=Ao s _ rfl hs w1 hT1.1 hT1.2.1;have HB1:=aF b1;clear hT1 b1 HT;go_wp2_with fail;refine cP.mono ?_;rintro e w2 ⟨⟨v,er,at_,rfl,hp⟩,b2⟩;clear cP;obtain⟨he,hok⟩:=Ba hp;clear he
 have hvv: ∃(us:List (Ru×Value)) (pv:Option Addr) (cv:Nat),v= .slice pv us.length cv/\(er=0->InR w2 v us/\us.length<=40/\(0<us.length-> ∃a,pv=some a)):=by
  by_cases h0:er=0
  ·obtain⟨us,hrow,h40,_,hnm⟩:=hok h0;obtain⟨p,c,e⟩:=dl hrow.own;refine⟨us,p,c,e,fun _=>⟨(hrow.rob h40 hnm).here,h40,fun hu=> ?_⟩⟩;obtain⟨h1,h2⟩:=hrow.own;rcases h2 with⟨_,h3⟩|⟨g,cap,cur,h3,_⟩
   ·omega
   ·rw[e]at h3;cases h3;exact⟨_,rfl⟩
  ·exact⟨[],none,0,Dj hp h0,fun c=>absurd c h0⟩
 obtain⟨us,pv,cv,rfl,hin⟩:=hvv;obtain⟨n,hn⟩:=aq us.length;rw[hn]at hin⊢;obtain⟨wZ,wF,hZ,nZ,hF,bF,nF⟩:=nbs w2 #[ag 0,ag 0] #[ag er,ag at_] 47;have z0:=cr 0 nF rfl;have HBF:=aF (HB1.o.trans ((au b2 bF).mono HB1.o.size));have HIN:RJ (er=0->InR wF (.slice pv n cv) us/\n<=40/\(0<n-> ∃a,pv=some a)):=fun c=>⟨(hin c).1.below bF,(hin c).2⟩
 have HB2:=aF (bg HB1.o.size b2.size);have HN:=aF hn;clear hin hn b2 bF hok hp;go_upto_region 4 with(refine az rfl 47 _ _ rfl _ _ rfl rfl _ _ nZ (by kernel_rfl) rfl (by simp[Value.oneCell']) ?_;rw[hF])
 clear nZ hZ hF;have H:(er≠0)\/(¬er≠0/\n=0)\/(¬er≠0/\ ¬n=0/\40<=(n:Int))\/(¬er≠0/\ ¬n=0/\ ¬40<=(n:Int)/\off<0)\/(¬er≠0/\ ¬n=0/\ ¬40<=(n:Int)/\ ¬off<0/\146097<=off)\/(¬er≠0/\ ¬n=0/\ ¬40<=(n:Int)/\ ¬off<0/\ ¬146097<=off):=by omega
 rcases H with g0|⟨g0,g1⟩|⟨g0,g1,g2⟩|⟨g0,g1,g2,g3⟩|⟨g0,g1,g2,g3,g4⟩|⟨g0,g1,g2,g3,g4⟩;rotate_left 5
 ·have g0':er=0:=Classical.not_not.1 g0;subst g0';obtain⟨hin,h40,hpp⟩:=HIN.o rfl;obtain⟨⟨⟨x,ex⟩,kx⟩,hu0⟩: ∃p,us[0]? =some p:=⟨_,ay (by rw[HN.o];omega)⟩
  have hin':=hin;rw[<-HN.o]at hin';obtain⟨gq,oq,hpq,y0,_⟩:=hin'.cells 0 _ hu0;subst hpq;have hx20:=(hin.all _ (aN hu0)).1;dsimp only at y0 hx20;rw[Nat.zero_mul,Nat.add_zero]at y0;obtain⟨wK,hK,bK,nK⟩:=nb wF #[ag 2,ag 0,ag 0,.string ⟨#[]⟩,af] 52;obtain⟨wL,hL,bL,nL⟩:=nb wK #[ag 10,ag 0,ag 0,.string ⟨x.toArray⟩,af,ag 5,ag off,ag off,.string ⟨#[]⟩,.slice (some (ae wF.heap.size 0)) 1 1] 52;obtain⟨wY,wE,hY,nY,hE,bE,nE⟩:=nbs wL #[ag 0,ag 0,ag 0,.string ⟨#[]⟩,af] #[ag 7,ag 0,ag 0,.string ⟨#[]⟩,.slice (some (ae wK.heap.size 0)) 2 2] 52;have hru:=Rc (off:=off) hx20 (bt bE (bt bL nK)) (bt bE nL);have bFE:=(au bK bL).trans (bE.mono (bg bK.size bL.size));have nFE:=bt bFE nF;have hinE:=hin'.below bFE;have lF:=aG nF;have HBE:=aF (au HBF.o bFE);have HRU:=aF hru;have HINE:=aF hinE;have HFE:=aF (aQ lF bFE.size);have HU0:=aF hu0;clear hru hinE hin hin' bFE bK bL bE nK nL HIN HBF hpp lF hu0;have hn0:0<n:=(by omega);go_upto_region 7 with(refine az rfl 52 _ _ rfl _ _ rfl rfl _ _ nY (by kernel_rfl) rfl (by simp[Value.oneCell']) ?_;rw[hE])
  clear nY hY hE hK hL y0 z0;obtain⟨i0,hi,hz0,hz1,hz2⟩:=iP Cn;have HZ0:=aF hz0;have HZ1:=aF hz1;have HZ2:=aF hz2;obtain⟨us2,hus2⟩:=aq (us++[(((zzN,hoE x off):Ru),Value.slice (some (ae wK.heap.size 0)) 2 2)]);have hl2:us2.length=n+1:=(by rw[<-hus2,aO,HN.o];rfl);have HUS:=aF hus2;have HL2:=aF hl2;clear hz0 hz1 hz2 hus2 hl2;refine dz (HoJ wE us us2 #[.string ⟨zzN.toArray⟩,ag 7,ag 0,ag 0,.string ⟨#[]⟩,.slice (some (ae wK.heap.size 0)) 2 2]) [td 52,kn 53 (.slice (some (ae gq oq)) n cv),td 54,kn 55 (.agg #[ag 7,ag 0,ag 0,.string ⟨#[]⟩,.slice (some (ae wK.heap.size 0)) 2 2]),kn 56 (.agg #[.string ⟨zzN.toArray⟩,ag 7,ag 0,ag 0,.string ⟨#[]⟩,.slice (some (ae wK.heap.size 0)) 2 2]),td 57,td 58,td 10] (fun _=>HoJ.start (aH _ _).drew) (fun _ _ _ _ hb h=>h.below hb) (by kernel_rfl) ?_ ?_
  ·rintro M φ W hJ _ F l hl hF;have HJ:=aF hJ;clear hJ;simp only[kn,td,dX,aT,aZ,Act.put,aC,aK,aJ]at hl;subst hl;simp only[dm,Nat.reduceAdd]at hF;dsimp only[kn,td,dJ,eZ,eh,Act.put];and_intros;all_goals first|exact trivial|intro hw hn hm K hK
   all_goals try (go_simp;with_reducible exact hK _ _ ⟨rfl,aH _ _⟩)
   ·show Oper.wp _ _ _ _ _ _;exact yS rfl (hK _ _ ⟨trivial,HJ.o.d0⟩)
   ·obtain⟨g,e,hg,hh⟩:=HJ.o.e0 (hw ⟨0,.data⟩ (by simp) rfl rfl) hm;have own0:W.ownsRow wE.heap.size 54 6 (.slice (some (ae g 0)) 0 0) 0 []:=⟨by simp,.inr ⟨g,0,#[],rfl,hg,hh,aA _,by unfold maxLen;omega,by simp,by simp⟩⟩
    show Oper.wp _ _ _ _ _ _;refine DL _ _ rfl wE.heap.size i0 hi HZ0.o HZ1.o HZ2.o (.slice (some (ae g 0)) 0 0) 0 [] (by simp[Act.eval,hF,e]) own0 us (some ⟨gq,oq,none⟩) cv (by simp[Act.eval,hF,HN.o]) (HINE.o.below HJ.o.bel) (fun h=>by cases h) (by have:=HN.o;unfold maxLen;omega) (by have:=HN.o;omega) HJ.o.bel.size ?_;intro v' W' hown hgrow;rw[bG,List.nil_append]at hown;exact hK _ _ ⟨trivial,HJ.o.d2 rfl hh hg hown hgrow hm⟩
   ·show Oper.wp _ _ _ _ _ _;refine eP 52 _ rfl _ (by simp[Act.eval,hF]) _ _ _ _ (bt HJ.o.bel nE) RG rfl (by kernel_rfl) ?_;exact hK _ _ ⟨rfl,aH _ _⟩
   ·clear hw hn;go_simp;exact hK _ _ ⟨trivial,HJ.o.d5⟩
   ·have m2:=hw ⟨2,.data⟩ (by simp) rfl rfl;have own2:=HJ.o.e2 m2 hm;obtain⟨g,e,hh⟩:=HJ.o.e5 (hw ⟨5,.data⟩ (by simp) rfl rfl) hm;show Oper.wp _ _ _ _ _ _;refine wp_append_own W _ _ 45 rfl wE.heap.size 54 i0 _ 6 80 qW hi HZ0.o HZ1.o HZ2.o rfl (by decide) (φ 54) us.length (fR us) (by simp[Act.eval,hF]) own2 ⟨g,0,none⟩ 1 1 #[.string ⟨zzN.toArray⟩,ag 7,ag 0,ag 0,.string ⟨#[]⟩,.slice (some (ae wK.heap.size 0)) 2 2].toList (by simp[Act.eval,hF,e]) rfl ?c1 ?c2 ?c3 ?c4 ?c5 ?_
    case c1=>
     intro k u' hk';match k,hk' with
     |0,hk'=>cases hk';exact cr 0 hh rfl
     |1,hk'=>cases hk';exact cr 1 hh rfl
     |2,hk'=>cases hk';exact cr 2 hh rfl
     |3,hk'=>cases hk';exact cr 3 hh rfl
     |4,hk'=>cases hk';exact cr 4 hh rfl
     |5,hk'=>cases hk';exact cr 5 hh rfl
     |k+6,hk'=>simp at hk'
    case c2=>
     intro u hu;simp only[bp,List.not_mem_nil,or_false]at hu;rcases hu with rfl|rfl|rfl|rfl|rfl|rfl<;>rfl
    case c3=>have:=HN.o;unfold maxLen;omega
    case c4=>have:=HN.o;omega
    case c5=>exact HJ.o.bel.size
    intro v' W' hown hgrow _;refine hK _ _ ⟨trivial,HJ.o.d6 m2 ?_ (HJ.o.bel.grown hgrow HJ.o.bel.size fun q hq=>(own2.lt q hq).1) (hn 7 _ rfl (by kernel_rfl))⟩;rw[HL2.o,<-HN.o,<-HUS.o,sD];exact hown
   ·clear hw hn;go_simp;exact hK _ _ ⟨trivial,HJ.o.d7⟩
  ·rintro M φ W hM hJ;have own2:=hJ.e6 (hM _ (by decide) rfl);have e7:=hJ.e7 (hM _ (by decide) rfl);obtain⟨pm,cm,em⟩:=dl own2;rw[em]at own2 e7;have hin2:=Mg HUS.o HINE.o HRU.o hJ.bel own2 (by have:=HL2.o;omega);rw[HL2.o]at hin2 e7 own2;simp only[kn,td,ef,aT,aZ,Act.put,aC,aK,aJ];rw[e7];have cM:=C5 us2 (.slice pm (n+1) cm) day W hin2
   have hm2:us2.map (fun p=>p.1)=us.map (fun p=>p.1)++[(zzN,hoE x off)]:=by
    rw[<-HUS.o,dR];rfl
   rw[hm2]at cM;obtain⟨lr,hlr⟩:=aq (us.map (fun p=>p.1));have hu1:lr[0]? =some (x,ex):=(by rw[<-hlr,bc,HU0.o];rfl);have hln:lr.length=n:=(by rw[<-hlr,bf,HN.o]);rw[hlr]at cM;unfold vf at cM;obtain⟨er2,her2⟩:=aq ((jZ (lr++[(zzN,hoE x off)]) day).1);obtain⟨at2,hat2⟩: ∃y:Int,((jZ (lr++[(zzN,hoE x off)]) day).2:Int)=y:=⟨_,rfl⟩
   rw[her2,hat2]at cM;have HER:=aF her2;have HBW:=aF (au HBE.o hJ.bel);have HFW:=aF (aQ HFE.o hJ.bel.size);have n9:=bt hJ.bel nFE;have HU1:=aF hu1;have HLN:=aF hln;clear hM hJ own2 e7 em hin2 hm2 hlr her2 hat2 hu1 hln nE nFE HUS HRU HINE HZ0 HZ1 HZ2 HL2;go_wp2_with fail;refine cM.mono ?_;clear cM;rintro e w3 ⟨vm,rfl,hrow,b3⟩;have n3:=bt b3 n9;have HN4:=aF (aL _ _ _ #[ag er2,ag at2] _ _ n3);have HB4:=aF (below_setRow (au HBW.o b3) HB2.o #[ag er2,ag at2]);have hrow4:oK (w3.setRow w2.heap.size #[ag er2,ag at2]) vm _:=hrow.apart n3;obtain⟨pb,cb,rfl,hb40,hrb⟩:=hrow4;have HRB:=aF hrb;generalize hw4:w3.setRow w2.heap.size #[ag er2,ag at2]=w4 at*;have z4:=cr 0 HN4.o rfl;clear hrow hrb b3;by_cases h2:er2=0
   ·subst h2;have hlb:=Kj HER.o;rw[aO,HLN.o]at hlb;replace hlb:(lJ (lr++[(zzN,hoE x off)]) day).length=n+1:=hlb;rw[hlb];obtain⟨g1,o1,e1,r1⟩:=HRB.o n _ (by rw[<-HLN.o];exact DM HER.o (by simp));obtain⟨g2,o2,e2,r2⟩:=HRB.o 0 _ (DM HER.o (by simp));rw[e1]at e2;cases e2;subst e1;have hOn:=fun q=>Rb HER.o HU1.o (day:=day) (off:=off) q;have hOf:=fun q=>Qm HER.o HU1.o (day:=day) (off:=off) q;rw[HLN.o]at hOn hOf r1;have HR1:=aF r1;have HR2:=aF r2;have HON:=aF hOn;have HOF:=aF hOf;clear hOn hOf r1 r2 hlb HRB HER;generalize meanP (lr++[(zzN,hoE x off)]) (wkB day) day n=G at*;generalize meanP (lr++[(zzN,hoE x off)]) (wkB day) day 0=G0 at*;have i1:(0:Int)<=(n:Int):=(by omega);have i2:(n:Int)<(n:Int)+1:=(by omega);have cC:=fun W=>IZ G W;by_cases q:day=off
    ·have h0:=HOF.o q;rw[h0]at cC;clear h0 HON HOF;go_wp2_with(first|(refine az rfl 47 _ _ rfl _ _ rfl rfl _ _ n3 (by kernel_rfl) rfl (by simp[Value.oneCell']) ?_;rw[hw4])|(refine mM rfl _ rfl g1 (o1+n*23) rfl G ?r ?_;(case r=>exact HR1.o)))
     refine(cC _).mono ?_;rintro e w5 ⟨rfl,b5⟩;have HB5:=aF (au HB4.o b5);go_wp2_with fail;go_ret;exact⟨rfl,HB5.o⟩
    ·have h0:=HON.o q;clear HON HOF cC;go_upto_region 13 with(first|(refine az rfl 47 _ _ rfl _ _ rfl rfl _ _ n3 (by kernel_rfl) rfl (by simp[Value.oneCell']) ?_;rw[hw4]))
     refine dz (fun _ _ W=>ao w4 W) [kn 78 (.slice (some (ae g1 o1)) (n+1) cb),kn 79 (.slice (some (ae gq oq)) n cv),kn 80 (ag (n:Int)),kn 81 (ab g1 (o1+n*23)),kn 82 (.agg (mv G)),kn 83 (.slice (some (ae g1 o1)) (n+1) cb),kn 84 (ab g1 (o1+0*23)),kn 85 (.agg (mv G0)),kn 86 (.bool true),lkN 6 (.bool true)] (fun _=>(aH _ _).drew) (fun _ _ _ _ hb h=>au h hb) (by kernel_rfl) ?_ ?_
     ·rintro M φ W hJ _ F l hl hF;have r1:=mr HR1.o hJ;have r2:=mr HR2.o hJ;simp only[kn,lkN,dX,aT,aZ,Act.put,aC,aK,aJ]at hl;subst hl;simp only[dm,Nat.reduceAdd]at hF;dsimp only[kn,lkN,dJ,eZ,eh,Act.put];and_intros;all_goals first|exact trivial|intro hw hn hm K hK
      all_goals try (go_simp;with_reducible exact hK _ _ ⟨rfl,aH _ _⟩)
      ·show Oper.wp _ _ _ _ _ _;exact ug _ rfl g1 (o1+n*23) (by simp[Act.eval,hF]) G r1 (hK _ _ ⟨rfl,aH _ _⟩)
      ·show Oper.wp _ _ _ _ _ _;exact ug _ rfl g1 (o1+0*23) (by simp[Act.eval,hF]) G0 r2 (hK _ _ ⟨rfl,aH _ _⟩)
      ·have hE: ∀W,(Op.equalIn 10000 61 (.agg (mv G)) (.agg (mv G0))).run prog W= .ok true W:=fun W=>(by rw[zo,h0]);have hE2: ∀W,(binOp .eql 61 (.agg (mv G)) (.agg (mv G0))).run prog W= .ok (.bool true) W:=fun W=>(by rw[Le,h0]);clear hw hn;go_simp;exact hK _ _ ⟨rfl,aH _ _⟩
     ·rintro M φ W hM hb;simp only[kn,lkN,ef,aT,aZ,Act.put,aC,aK,aJ];have HB5:=aF (au HB4.o hb);clear hM;go_wp2_with fail;go_ret;exact⟨rfl,HB5.o⟩
   ·have h2':(er2 !=0)=true:=(by simpa using h2);clear HER HRB;go_wp2_with(refine az rfl 47 _ _ rfl _ _ rfl rfl _ _ n3 (by kernel_rfl) rfl (by simp[Value.oneCell']) ?_;rw[hw4])
    go_ret;exact⟨rfl,HB4.o⟩
 all_goals
  go_wp2_with fail
  go_ret
  exact⟨rfl,HBF.o⟩
end Go.Proofs.YtjkilacmkbmmbaaGreatDoor
