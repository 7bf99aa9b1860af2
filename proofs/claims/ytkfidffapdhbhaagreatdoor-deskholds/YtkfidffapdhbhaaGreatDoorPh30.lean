/- Texts of the proof. -/
import Derived.Test.YtkfidffapdhbhaaGreatDoorPh29
set_option maxRecDepth 100000
set_option maxHeartbeats 8000000
namespace Go.Proofs.YtkfidffapdhbhaaGreatDoor
open Go.Proofs.Tryz Go.RowKit Lx Vx Mx Msk
section
theorem Ms {l:List Ru}{r x:Int}(h:x∈gh l r): ∃k:Nat,x=(k:Int)/\k<l.length:=by
 unfold gh at h;split at h
 ·cases h
 ·obtain⟨k,hk,rfl⟩:=dU.1 h;exact⟨k,rfl,jg.1 (List.mem_filter.1 hk).1⟩
theorem Ah (f:Int->Bool): ∀l:List Int,(jn (fun x (s:Unit)=>(f x,s)) l ()).1=l.any f
 |[]=>rfl
 |x::l=>by
  unfold jn;rw[List.any_cons];cases h:f x with
  |true=>simp
  |false=>simpa using Ah f l
def tY (d:Dk)(l:List Ru)(i:Nat):Int:=if jo d.rules l (i:Int)=true\/(gh l (i:Int)).any (jo d.rules l)=true then d.given else d.vers.getD i 0
def nP (d:Dk)(l:List Ru):List Int:=(List.range l.length).map (tY d l)
theorem tZ (d:Dk){l:List Ru}{j:Nat}(hj:j<l.length):(nP d l).take (j+1)=(nP d l).take j++[tY d l j]:=by
 unfold nP;rw[fD,bg,List.getElem?_range hj];rfl
section
variable {B gD:Nat} {d:Dk} {t:Tr}
theorem Kl {v2:Value}{us:List (Ru×Value)}(w:World)(h:dt B gD d t w)(hu:InR w v2 us)(hl:us.length<=1000):Calls prog 25 #[ab gD 0,v2] w fun e w'=> ∃v',e= .returned v'/\w'.ownsRow w.heap.size 3 1 v' us.length (dp (nP d (us.map (fun p=>p.1))))/\aq w w':=by
 obtain⟨pn,cn,rfl⟩:=hu.form;obtain⟨wA,hA,bA,nA⟩:=nb w #[ab gD 0] 57;obtain⟨wB,hwB,bB,nB⟩:=nb wA #[.slice pn us.length cn] 24;have hbw:=aw bA bB;have nA':=bt bB nA;obtain⟨ll,hll⟩:=au (us.map (fun p=>p.1));have hlu:ll.length=us.length:=by rw[<-hll,ba]
 have HD:=aG (h.below hbw);have HU:=aG (hu.below hbw);obtain⟨n,hn⟩:=au us.length;have HL:=aG (hlu.trans hn);rw[hn]at hwB nB hl hlu;rw[hll,hn];have HX:=aG hll;have HN:=aG hn;have HB:=aG hbw;have hn1:(n:Int)<=1000:=by omega
 have z1:=cr 0 nA' rfl;have z2:=cr 0 nB rfl;obtain⟨hok,rv,cv,vv,kv,ss,aa,hm⟩:=HD.o;have z6:=cr 6 hm.blk rfl;have z5:=cr 5 hm.blk rfl;obtain⟨pv,cvv,rfl,hvl,hvc⟩:=hm.vers.here;obtain⟨nv,hnv⟩:=au d.vers.length;rw[hnv]at z5;have HV:=aG hvc;have HNV:=aG (hnv.symm.trans hok.vl);have HNE:=aG hnv;have eF: ∀args w,(callFunc 43 args).run prog w= .ok (.enter 43 args) w:=fun _ _=>rfl;clear h hu hll hlu hn bA bB hbw nA hm hok hvc hvl hnv;go_enter func25,ntmps25;go_wp2_with fail;go_loopw [6,7,8,12] (fun v _ _ q wr=> ∃j:Nat,q=ag (j:Int)/\j<=n/\aq wB wr/\wr.ownsRow wB.heap.size 3 1 v j (dp ((nP d ll).take j))) (fun _ _ _ q _=>n-(intOf q).toNat);case atStart=>exact⟨0,rfl,by omega,aI _ _,cY _ _ _ _⟩
 case round=>
  obtain⟨j,rfl,hj,hbr,hro⟩:=hrel;have hj0:(0:Int)<=(j:Int):=(by omega);by_cases hlt:j<n
  ·have hlt':(j:Int)<(n:Int):=(by omega);have y1:=cr 0 (bt hbr nA') rfl;have y2:=cr 0 (bt hbr nB) rfl;have y6:=aj hbr z6;have y5:=aj hbr z5
   have cN: ∀(k:Nat) (W:World),k<n->aq wB W->Calls prog 43 #[ag (k:Int),ab w.heap.size 0,ab wA.heap.size 0] W fun e w'=>e= .returned (.bool (jo d.rules ll (k:Int)))/\aq W w':=fun k W hk hW=>by
    rw[<-HX.o];have hU:=HU.o.below hW;exact Ih W (HD.o.below hW) hU (by rw[HN.o];exact hk) (bt hW nA') (by rw[HN.o];exact bt hW nB)
   have c1:=cN j wr hlt hbr;have HCN:=aG cN;obtain⟨b1,hb1⟩:=au (jo d.rules ll (j:Int));rw[hb1]at c1;have HB1:=aG hb1;have HBR:=aG hbr;have HRO:=aG hro;clear cN hb1 hbr hro;go_wp2_with fail;refine c1.mono ?_;rintro e w1 ⟨rfl,hb1⟩;have hbw1:=aw HBR.o hb1;cases b1 with
   |true=>
    have HS:=aG hb1;clear c1 hb1 HCN
    have HV1:PH (tY d ll j=d.given):=by
     show _=_;unfold tY;rw[aD (.inl HB1.o)]
    obtain⟨wC,hC,bC,nC⟩:=nb w1 #[ag d.given] 3;have hbC:=aw hbw1 bC;have hoC:=br HRO.o fun b hq=>(show wC.heap[b]? =wr.heap[b]? from(bC.block b (aT (HRO.o.lt b hq).2 HS.o.size)).trans (HS.o.block b (HRO.o.lt b hq).2))
    clear bC HS y5;go_wp2_with(at_builtin;refine iA rfl _ _ 34 3 rfl qx om rfl (by decide) (by decide) rfl hoC rfl nC rfl (by simp[Value.oneCell']) (by omega) hbC.size ?_)
    rintro v2 w2 ho2 hgr _ g2 c2 rfl;have hb2:=hbC.grown hgr hbC.size (fun k hk=>(hoC.lt k hk).1)
    have HO:PH (w2.ownsRow wB.heap.size 3 1 (.slice (some (ae g2 0)) (j+1) c2) (j+1) (dp ((nP d ll).take (j+1)))):=by
     show World.ownsRow _ _ _ _ _ _ _;rw[tZ d (by rw[HL.o];exact hlt),HV1.o,lj];exact ho2
    clear hoC ho2 hgr hbC nC hC;go_wp2_with fail;go_roundw;case rel=>exact⟨j+1,by go_num,by omega,hb2,HO.o⟩
    case measure=>simp[intOf];omega
   |false=>
    have y2':=aj hb1 y2;have y6':=aj hb1 y6;have y5':=aj hb1 y5;have cU:=Jy us (.slice pn n cn) (j:Int) w1 (by have:=HU.o.below hbw1;rw[HN.o]at this;exact this);rw[HX.o]at cU;have HS1:=aG hb1;clear c1 hb1 y1 y2 y5 y6;go_wp2_with fail;refine cU.mono ?_;rintro e w3 ⟨v3,rfl,hr3,hb3⟩;have hbw3:=aw hbw1 hb3;have HS3:=aG (aw HS1.o hb3)
    have cC:=pB (fun x (s:Unit)=>(jo d.rules ll x,s)) (fun _ W=>aq w3 W) 43 #[ab w.heap.size 0,ab wA.heap.size 0] (gh ll (j:Int)) v3 () w3 eF (aI _ _) (fun _ W hW=>hr3.below hW) (fun x hx _ W hW=>by
     obtain⟨k,rfl,hk⟩:=Ms hx;rw[HL.o]at hk;exact(HCN.o k W hk (aw hbw3 hW)).mono fun e w' hh=>⟨hh.1,aw hW hh.2⟩)
    rw[Ah]at cC;obtain⟨p3,c3,rfl,hq1,hq2⟩:=hr3;obtain⟨b2,hb2⟩:=au ((gh ll (j:Int)).any (jo d.rules ll));rw[hb2]at cC;have HB2:=aG hb2;have x5:=(hb3.cell (bP y5')).trans y5';have x1:=cr 0 (bt hbw3 nA') rfl;clear cU hq1 hq2 hb2 hb3 y2' y6' y5' HS1 HCN;go_wp2_with fail;refine cC.mono ?_;rintro e w4 ⟨rfl,hb4⟩;have hbw4:=aw hbw3 hb4;have HS:=aG (aw HS3.o hb4);have u5:=aj hb4 x5;have u1:=aj hb4 x1;clear cC hb4 HS3 x5 x1;cases b2 with
    |true=>
     have HV1:PH (tY d ll j=d.given):=by
      show _=_;unfold tY;rw[aD (.inr HB2.o)]
     obtain⟨wC,hC,bC,nC⟩:=nb w4 #[ag d.given] 3;have hbC:=aw hbw4 bC;have hoC:=br HRO.o fun b hq=>(show wC.heap[b]? =wr.heap[b]? from(bC.block b (aT (HRO.o.lt b hq).2 HS.o.size)).trans (HS.o.block b (HRO.o.lt b hq).2))
     clear bC HS u5 u1;go_wp2_with(at_builtin;refine iA rfl _ _ 34 3 rfl qx om rfl (by decide) (by decide) rfl hoC rfl nC rfl (by simp[Value.oneCell']) (by omega) hbC.size ?_)
     rintro v2 w2 ho2 hgr _ g2 c2 rfl;have hb2:=hbC.grown hgr hbC.size (fun k hk=>(hoC.lt k hk).1)
     have HO:PH (w2.ownsRow wB.heap.size 3 1 (.slice (some (ae g2 0)) (j+1) c2) (j+1) (dp ((nP d ll).take (j+1)))):=by
      show World.ownsRow _ _ _ _ _ _ _;rw[tZ d (by rw[HL.o];exact hlt),HV1.o,lj];exact ho2
     clear hoC ho2 hgr hbC nC hC;go_wp2_with fail;go_roundw;case rel=>exact⟨j+1,by go_num,by omega,hb2,HO.o⟩
     case measure=>simp[intOf];omega
    |false=>
     have hjv:j<nv:=by
      apply dN;intro hc;have h1:=HB1.o;have h2:d.rules[j]? =none:=eV (by have:=HNV.o;omega);unfold jo at h1;rw[cZ,h2]at h1;cases h1
     have hjv':(j:Int)<(nv:Int):=(by omega);obtain⟨x,hx⟩: ∃x,d.vers[j]? =some x:=⟨d.vers[j]'(by have:=HNE.o;omega),az _⟩
     obtain⟨gv,ov,hpe,hcv⟩:=HV.o j x hx;subst hpe;have uv:=aj hbw4 hcv;have HXV:=aG hx;clear hcv hx hjv
     have HV1:PH (tY d ll j=x):=by
      show _=_;unfold tY;rw[ax (by rw[HB1.o,HB2.o];simp)];simp[List.getD,HXV.o]
     obtain⟨wC,hC,bC,nC⟩:=nb w4 #[ag x] 3;have hbC:=aw hbw4 bC;have hoC:=br HRO.o fun b hq=>(show wC.heap[b]? =wr.heap[b]? from(bC.block b (aT (HRO.o.lt b hq).2 HS.o.size)).trans (HS.o.block b (HRO.o.lt b hq).2))
     clear bC HS;go_wp2_with(at_builtin;refine iA rfl _ _ 34 3 rfl qx om rfl (by decide) (by decide) rfl hoC rfl nC rfl (by simp[Value.oneCell']) (by omega) hbC.size ?_)
     rintro v2 w2 ho2 hgr _ g2 c2 rfl;have hb2:=hbC.grown hgr hbC.size (fun k hk=>(hoC.lt k hk).1)
     have HO:PH (w2.ownsRow wB.heap.size 3 1 (.slice (some (ae g2 0)) (j+1) c2) (j+1) (dp ((nP d ll).take (j+1)))):=by
      show World.ownsRow _ _ _ _ _ _ _;rw[tZ d (by rw[HL.o];exact hlt),HV1.o,lj];exact ho2
     clear hoC ho2 hgr hbC nC hC;go_wp2_with fail;go_roundw;case rel=>exact⟨j+1,by go_num,by omega,hb2,HO.o⟩
     case measure=>simp[intOf];omega
  ·have hlt': ¬(j:Int)<(n:Int):=(by omega);obtain rfl:n=j:=(by omega);have hbF:=aw HB.o hbr
   have hro2:wr.ownsRow w.heap.size 3 1 u6 n (dp (nP d ll)):=by
    rw[cj (by unfold nP;rw[ba,List.length_range,HL.o];exact aB _)]at hro;exact⟨hro.1,hro.2.imp id fun⟨g,c,cu,q1,q2,q3⟩=>⟨g,c,cu,q1,bf HB.o.size q2,q3⟩⟩
   have HR:=aG hro2;clear hro hro2;go_wp2_with fail;go_ret;exact⟨_,rfl,HR.o,hbF⟩
end
end
def NmK:Nat->List Ex->Prop
 |0,_=>True
 |d+1,ks=> ∀(j:Nat) (k:Ex),ks[j]? =some k->k.name.length<=9223372036854775807/\NmK d k.kids
theorem DU: ∀d,NmK d []
 |0=>trivial
 |d+1=>fun j k h=>by simp at h
theorem B8 {k:Ex}{ks:List Ex}(h1:k.name.length<=9223372036854775807)(h2: ∀d,NmK d k.kids)(h3: ∀d,NmK d ks): ∀d,NmK d (k::ks)
 |0=>trivial
 |d+1=>fun j q h=>by
  cases j with
  |zero=>
   simp at h;subst h;exact⟨h1,h2 d⟩
  |succ j=>exact h3 (d+1) j q (by simpa using h)
theorem vt {B:Nat->Prop}: ∀{d:Nat} {w:World} {sl:Value} {ks:List Ex},dw B d w sl ks->NmK d ks->gc (fun k=>k<w.heap.size) d w sl ks
 |0,_,_,_,h,_=>h
 |d+1,w,sl,ks,h,hn=>by
  rcases h with h|⟨g,o,c,hB,hs,hl,hk⟩
  ·exact .inl h
  ·by_cases h0:ks=[]
   ·subst h0;exact .inl ⟨rfl,_,c,hs⟩
   ·obtain⟨k0,hk0⟩: ∃k,ks[0]? =some k:=by
     cases ks with
     |nil=>exact absurd rfl h0
     |cons x l=>exact⟨x,rfl⟩
    obtain⟨_,q0,_⟩:=hk 0 k0 hk0;refine .inr ⟨g,o,c,bP q0,hs,hl,fun j k hj=> ?_⟩;obtain⟨sk,c0,c1,c2,c3,c4,r⟩:=hk j k hj;obtain⟨n1,n2⟩:=hn j k hj;exact⟨n1,sk,c0,c1,c2,c3,c4,vt r n2⟩
def NmR (L:List Ru):Prop:= ∀p∈L,p.1.length<=9223372036854775807/\p.2.name.length<=9223372036854775807/\ ∀d,NmK d p.2.kids
theorem C9 {w0 w:World}{v:Value}{us:List (Ru×Value)}(h:my w0 w v us)(hl:us.length<=40)(hn:NmR (us.map (fun p=>p.1))):InR w v us:=by
 refine⟨Bj h.own (by omega),by omega,fun p hp=> ?_⟩;obtain⟨d,hd⟩:=h.kids p hp;obtain⟨n1,n2,n3⟩:=hn p.1 (dU.2 ⟨p,hp,rfl⟩);exact⟨n1,n2,d,vt hd (n3 d)⟩
theorem Fq (l:List UInt8):(firstT l).text.length<=20:=by
 unfold firstT lc oJ mu kP j7 bad;repeat' split
 all_goals simp
 all_goals omega
def NmX (e:Ex):Prop:=e.name.length<=20/\ ∀d,NmK d e.kids
theorem uR (k a b:Int){x:List UInt8}(h:x.length<=20):NmX ⟨k,a,b,x,[]⟩:=⟨h,DU⟩
theorem yI (k a b:Int){t:Ex}(h:NmX t):NmX ⟨k,a,b,[],[t]⟩:=⟨by simp,B8 (by have:=h.1;omega) h.2 DU⟩
theorem yJ (k a b:Int){s t:Ex}(h:NmX s)(h':NmX t):NmX ⟨k,a,b,[],[s,t]⟩:=⟨by simp,B8 (by have:=h.1;omega) h.2 (yI k a b h').2⟩
def Gd (r:List Tk):Prop:= ∀q∈r,q.1.text.length<=20
theorem Gd.tl {r:List Tk}(h:Gd r):Gd r.tail:=fun q hq=>h q (List.mem_of_mem_tail hq)
theorem Gd.text {r:List Tk}(h:Gd r):(textP r).length<=20:=by
 cases r with
 |nil=>exact dM _
 |cons p r=>exact h p bq
theorem Gd.shift {r:List Tk}(h:Gd r):Gd (fH r):=by
 unfold fH;split
 ·exact h.tl.tl
 ·exact h.tl
theorem ifo {c:Prop}[Decidable c]{α:Type}{x y z:α}(h:(if c then x else y)=z):x=z\/y=z:=by
 by_cases hc:c
 ·rw[aD hc]at h;exact .inl h
 ·rw[ax hc]at h;exact .inr h
theorem Im (E:Nat): ∀(f m d:Nat) (e:Ex) (r:List Tk) (n:Nat) (e':Ex) (r':List Tk) (n':Nat),m<=8->(m=1\/m=3\/m=5->NmX e)->Gd r->goP E f m d e r n= .ok (e',r',n')->NmX e'/\Gd r'
 |0,m,d,e,r,n,e',r',n',_,_,_,h=>(dF h).elim
 |f+1,m,d,e,r,n,e',r',n',hm,he,hr,h=>by
  have ih:=Im E f;match m,hm with
  |0,_=>
   rw[uo]at h;obtain⟨e1,r1,n1,h1,h2⟩:=dy h;have a:=ih 2 _ _ _ _ _ _ _ (by omega) (by omega) hr h1;exact ih 1 _ _ _ _ _ _ _ (by omega) (fun _=>a.1) a.2 h2
  |1,_=>
   rw[uq]at h;have he':=he (by omega);rcases ifo h with h|h
   ·obtain⟨e1,r1,n1,h1,h2⟩:=dy h;obtain⟨e2,r2,n2,h3,h4⟩:=dy h2;have a:=ih 2 _ _ _ _ _ _ _ (by omega) (by omega) hr.tl h1;cases dK h3;exact ih 1 _ _ _ _ _ _ _ (by omega) (fun _=>yJ _ _ _ he' a.1) a.2 h4
   ·rcases ifo h with h|h
    ·obtain⟨e1,r1,n1,h1,h2⟩:=dy h;obtain⟨e2,r2,n2,h3,h4⟩:=dy h2;have a:=ih 2 _ _ _ _ _ _ _ (by omega) (by omega) hr.tl h1;cases dK h3;exact ih 1 _ _ _ _ _ _ _ (by omega) (fun _=>yJ _ _ _ he' a.1) a.2 h4
    ·cases h;exact⟨he',hr⟩
  |2,_=>
   rw[ut]at h;obtain⟨e1,r1,n1,h1,h2⟩:=dy h;have a:=ih 4 _ _ _ _ _ _ _ (by omega) (by omega) hr h1;exact ih 3 _ _ _ _ _ _ _ (by omega) (fun _=>a.1) a.2 h2
  |3,_=>
   rw[uu]at h;have he':=he (by omega);rcases ifo h with h|h
   ·obtain⟨e1,r1,n1,h1,h2⟩:=dy h;obtain⟨e2,r2,n2,h3,h4⟩:=dy h2;have a:=ih 4 _ _ _ _ _ _ _ (by omega) (by omega) hr.tl h1;cases dK h3;exact ih 3 _ _ _ _ _ _ _ (by omega) (fun _=>yJ _ _ _ he' a.1) a.2 h4
   ·cases h;exact⟨he',hr⟩
  |4,_=>
   rw[uw]at h;obtain⟨e1,r1,n1,h1,h2⟩:=dy h;have a:=ih 6 _ _ _ _ _ _ _ (by omega) (by omega) hr h1;exact ih 5 _ _ _ _ _ _ _ (by omega) (fun _=>a.1) a.2 h2
  |5,_=>
   rw[ux]at h;have he':=he (by omega);rcases ifo h with h|h
   ·rcases ifo h with h|h
    ·exact(dF h).elim
    ·rcases ifo h with h|h
     ·exact(dF h).elim
     ·obtain⟨e2,r2,n2,h3,h4⟩:=dy h;cases dK h3;exact ih 5 _ _ _ _ _ _ _ (by omega) (fun _=>yI _ _ _ he') hr.shift.tl h4
   ·cases h;exact⟨he',hr⟩
  |6,_=>
   rw[uy]at h;rcases ifo h with h|h
   ·exact(dF h).elim
   ·rcases ifo h with h|h
    ·obtain⟨e1,r1,n1,h1,h2⟩:=dy h;have a:=ih 0 _ _ _ _ _ _ _ (by omega) (by omega) hr.tl h1;rcases ifo h2 with h2|h2
     ·cases h2;exact⟨a.1,a.2.tl⟩
     ·exact(dF h2).elim
    ·rcases ifo h with h|h
     ·cases dK h;exact⟨uR _ _ _ (by simp),hr.tl⟩
     ·rcases ifo h with h|h
      ·cases dK h;exact⟨uR _ _ _ (by simp),hr.tl⟩
      ·rcases ifo h with h|h
       ·exact ih 7 _ _ _ _ _ _ _ (by omega) (by omega) hr.tl h
       ·rcases ifo h with h|h
        ·rcases ifo h with h|h
         ·exact(dF h).elim
         ·rcases ifo h with h|h
          ·rcases ifo h with h|h
           ·exact(dF h).elim
           ·rcases ifo h with h|h
            ·exact(dF h).elim
            ·exact ih 8 _ _ _ _ _ _ _ (by omega) (by omega) hr.tl.tl.tl.tl h
          ·exact ih 8 _ _ _ _ _ _ _ (by omega) (by omega) hr.tl.tl h
        ·rcases ifo h with h|h
         ·cases dK h;exact⟨uR _ _ _ hr.text,hr.tl⟩
         ·rcases ifo h with h|h
          ·exact(dF h).elim
          ·rcases ifo h with h|h
           ·rcases ifo h with h|h
            ·exact(dF h).elim
            ·rcases ifo h with h|h
             ·exact(dF h).elim
             ·cases dK h;exact⟨uR _ _ _ (by simp),hr.tl.tl.tl⟩
           ·exact(dF h).elim
  |7,_=>
   rw[uz]at h;rcases ifo h with h|h
   ·exact(dF h).elim
   ·rcases ifo h with h|h
    ·exact ih 7 _ _ _ _ _ _ _ (by omega) (by omega) hr.tl.tl h
    ·exact ih 8 _ _ _ _ _ _ _ (by omega) (by omega) hr.tl h
  |8,_=>
   rw[uA]at h;rcases ifo h with h|h
   ·obtain⟨e1,r1,n1,h1,h2⟩:=dy h;have a:=ih 4 _ _ _ _ _ _ _ (by omega) (by omega) hr.tl h1;cases dK h2;exact⟨yI _ _ _ a.1,a.2⟩
   ·exact(dF h).elim
theorem Ai (E:Nat): ∀(f:Nat) (acc:List Ru) (r:List Tk) {L:List Ru},Gd r->(∀u∈acc,u.1.length<=20/\NmX u.2)->iS E f acc r= .ok L-> ∀u∈L,u.1.length<=20/\NmX u.2
 |0,acc,r,L,_,ha,h=>by cases h;exact ha
 |f+1,acc,r,L,hr,ha,h=>by
  unfold iS at h;split at h
  ·cases h;exact ha
  ·split at h
   ·split at h
    ·cases h
    ·unfold oO at h;split at h
     ·cases h
     ·rename_i hq;split at hq
      ·cases hq
      ·split at hq
       ·split at hq
        ·cases hq
        ·rename_i h3;split at hq
         ·cases hq
         ·split at hq
          ·cases hq;have a:=Im E _ 0 _ _ _ _ _ _ _ (by omega) (by omega) hr.tl.tl.tl h3
           exact Ai E f _ _ a.2.tl (fun u hu=>by
            rcases bU.1 hu with hu|hu
            ·exact ha u hu
            ·rw[bT.1 hu];exact⟨hr.tl.text,a.1⟩) h
          ·cases hq
       ·cases hq
   ·cases h
theorem Fs {l:List UInt8}{ts:List Tk}{k:Nat}(h:fG l ts k):Gd ts:=by
 obtain⟨n,hn⟩:=h;refine fG.ind (M:=fun ts _=>Gd ts) (fun p hp=>by cases hp) ?_ n hn;intro ts k _ _ _ ih p hp;rcases bU.1 hp with h|h
 ·exact ih p h
 ·rw[show p=(firstT (l.drop k),k) by simpa using h];exact Fq _
theorem my.rob {w0 w:World}{v:Value}{us:List (Ru×Value)}(h:my w0 w v us)(hl:us.length<=40)(hn:NmR (us.map (fun p=>p.1))):Rob (fun q=>w0.heap.size<=q) (fun u=>InR u v us) w:=fun u _ ha=>
 C9 (w0:=w0) ⟨br h.own fun b hb=>ha b (h.own.lt b hb).1 (h.own.lt b hb).2,fun p hp=>by
  obtain⟨d,hd⟩:=h.kids p hp;exact⟨d,hd.kept fun g hg hl=>ha g hg hl⟩⟩ hl hn
def v7 (l:List UInt8):Nat->List Tk->Nat->List Tk×Nat
 |0,ts,k=>(ts,k)
 |f+1,ts,k=>if k<l.length/\(firstT (l.drop k)).err=0 then v7 l f (ts++[(firstT (l.drop k),k)]) (k+(firstT (l.drop k)).len+eP false (l.drop (k+(firstT (l.drop k)).len))) else(ts,k)
def B9 (l:List UInt8):List Tk×Nat:=v7 l (l.length+1) [] (0+eP false (l.drop 0))
theorem Ca {l:List UInt8}: ∀(f:Nat) (ts:List Tk) (k:Nat),fG l ts k->l.length<f+ts.length->fG l (v7 l f ts k).1 (v7 l f ts k).2/\ ¬((v7 l f ts k).2<l.length/\(firstT (l.drop (v7 l f ts k).2)).err=0)
 |0,ts,k,h,hf=>by have:=h.le;omega
 |f+1,ts,k,h,hf=>by
  unfold v7;by_cases hc:k<l.length/\(firstT (l.drop k)).err=0
  ·rw[aD hc];exact Ca f _ _ (h.step hc.1 hc.2) (by rw[aP];simp;omega)
  ·rw[ax hc];exact⟨h,hc⟩
theorem yK {l:List UInt8}{ts:List Tk}{k:Nat}(h:fG l ts k)(hk: ¬(k<l.length/\(firstT (l.drop k)).err=0)):B9 l=(ts,k):=by
 obtain⟨h1,h2⟩:=Ca (l:=l) (l.length+1) [] _ fG.start (by simp);obtain⟨e1,e2⟩:=Gf h1 h h2 hk;exact Prod.ext e1 e2
def kS (l:List UInt8):Int×List Ru:=
 if 6000<l.length then(4,[]) else
 if(B9 l).2<l.length then((firstT (l.drop (B9 l).2)).err,[]) else
 match iS l.length ((B9 l).1.length+1) [] (B9 l).1 with
 | .error q=>(q.1,[])
 | .ok rs=>(0,rs)
theorem Io {l:List UInt8}{w0 w:World}{v:Value}{er at_:Int}(h:tp l w0 w v er at_):er=(kS l).1/\(er=0-> ∃us,my w0 w v us/\us.length<=40/\us.map (fun p=>p.1)=(kS l).2/\NmR (us.map (fun p=>p.1))):=by
 have nil: ∀(L:List Ru),L=[]->v=af-> ∃us:List (Ru×Value),my w0 w v us/\us.length<=40/\us.map (fun p=>p.1)=L/\NmR (us.map (fun p=>p.1)):=fun L hL hv=>by
  subst hL hv;exact⟨[],⟨cY _ _ _ _,fun p hp=>by cases hp⟩,by simp,rfl,fun p hp=>by cases hp⟩
 rcases h with⟨h1,h2,h3,_⟩|⟨ts,k,h1,h2,h3,h4,h5,h6,_⟩|⟨ts,k,er',at',h1,h2,h3,h4,h5,h6,_⟩|⟨ts,k,us,h1,h2,h3,h4,h5,h6,h7,_⟩
 ·have e:kS l=(4,[]):=by unfold kS;rw[aD h1]
  rw[e];exact⟨h3,fun _=>nil _ rfl h2⟩
 ·have e:kS l=((firstT (l.drop k)).err,[]):=by
   unfold kS;rw[ax (by omega),yK h2 (fun h=>h4 h.2),aD h3]
  rw[e];exact⟨h6,fun _=>nil _ rfl h5⟩
 ·have e:kS l=(er',[]):=by
   unfold kS;rw[ax (by omega),yK h2 (fun h=>h3 h.1),ax h3,h4]
  rw[e];exact⟨h6,fun _=>nil _ rfl h5⟩
 ·have e:kS l=(0,us.map (fun p=>p.1)):=by
   unfold kS;rw[ax (by omega),yK h2 (fun h=>h3 h.1),ax h3,h4]
  rw[e];refine⟨h7,fun _=>⟨us,h6,h5,rfl,fun u hu=> ?_⟩⟩;obtain⟨n1,n2,n3⟩:=Ai _ _ _ _ (Fs h2) (fun u hu=>by cases hu) h4 u hu;exact⟨by omega,by omega,n3⟩
def ir (l:List UInt8):Int×List Ru:=if(kS l).1≠0 then((kS l).1,[]) else((iy (kS l).2).1,(kS l).2)
def KR (l:List UInt8)(w:World)(e:Ending)(w':World):Prop:= ∃rv cv:Value,e= .returned (.tuple #[rv,cv,ag (ir l).1])/\aq w w'/\((ir l).1=0->(ir l).2.length<=40/\iy (ir l).2=(0,0)/\Rob (fun q=>w.heap.size<=q) (fun u=> ∃us,InR u rv us/\us.map (fun p=>p.1)=(ir l).2) w'/\ ∀u,nL w' u->InV u cv (eU (ir l).2))
theorem Aj {l:List Ru}(h:(iy l).1=0):iy l=(0,0):=by
 unfold iy at h⊢;split
 ·rename_i h1;rw[aD h1]at h;exact absurd h h1
 ·rename_i h1;rw[ax h1]at h;split
  ·rename_i h2;rw[aD h2]at h;cases h
  ·rfl
theorem Km {l:List Ru}(h:(dq l).1≠0):(iy l).1=(dq l).1:=by unfold iy;rw[aD h]
theorem qd.below {w w':World}(h:qd w)(hb:aq w w'):qd w':=fun i hi=>(hb.cell (bP (h i hi))).trans (h i hi)
theorem Kn {l:List UInt8}{w0 w:World}{v:Value}{er at_:Int}(h:tp l w0 w v er at_)(he:er≠0):v=af:=by
 rcases h with⟨_,h,_⟩|⟨_,_,_,_,_,_,h,_⟩|⟨_,_,_,_,_,_,_,_,h,_⟩|⟨_,_,_,_,_,_,_,_,_,h,_⟩
 ·exact h
 ·exact h
 ·exact h
 ·exact absurd h he
theorem Ft {w w':World}(h:Tab w)(hb:aq w w'):Tab w':=h.later hb
theorem Cb (l:List UInt8)(hl:l.length<=9223372036854775807)(w:World)(hT:gH w)(hD:qd w)(hB:Tab w):Calls prog 24 #[.string ⟨l.toArray⟩] w (KR l w):=by
 have cP:=GB ⟨l.toArray⟩ l (by simp) hl w hT hD;have HB:=aG hB;clear hT hD hB;go_enter func24,ntmps24;go_wp2_with fail;refine cP.mono ?_;rintro e w1 ⟨⟨v,er,at_,rfl,hp⟩,b1⟩;obtain⟨he,hok⟩:=Io hp;obtain⟨w2,hw2,b2,n2⟩:=nb w1 #[ag er,ag at_] 95;have z2:w2.cell? (ae w1.heap.size 0)=some (ag er):=cr 0 n2 rfl;have HE:=aG he;have HOK:=aG hok;have HW1:=aG b1.size;have HB2:=aG (aw b1 b2);have HBB:=aG b2
 have hvv: ∃p n c,v= .slice p n c:=by
  by_cases h0:er=0
  ·obtain⟨us,hrow,_⟩:=hok h0;obtain⟨p,c,e⟩:=di hrow.own;exact⟨p,_,c,e⟩
  ·exact⟨none,0,0,Kn hp h0⟩
 obtain⟨pv,nu,cv,rfl⟩:=hvv;clear cP hp he hok b1 b2;by_cases h0:er=0
 ·subst h0;obtain⟨us,hrow,h40,hus,hnm⟩:=HOK.o rfl;have hin2:Rob (fun q=>w.heap.size<=q/\q<w1.heap.size) (fun u=>InR u (.slice pv nu cv) us) w2:=Rob.below (fun u hu ha=>hrow.rob h40 hnm u hu fun q hq hl=>ha q ⟨hq,hl⟩ hl) HBB.o;have cK:=uC us (.slice pv nu cv) w2 hin2.here;rw[hus]at cK;obtain⟨R,hR⟩:=au ((kS l).2)
  have HC:PH (ir l=((iy R).1,R)):=by
   show _=_;unfold ir;rw[ax (by rw[<-HE.o];simp),hR]
  rw[hR]at cK hus;have HIN:=aG hin2;have HUS:=aG hus;have HR40:PH (R.length<=40):=(by show _<=_;rw[<-hus,ba];exact h40);obtain⟨ce,hce⟩:=au ((dq R).1);obtain⟨ca,hca⟩:=au ((dq R).2:Int);rw[hce,hca]at cK;have HCE:=aG hce;clear hrow hnm hin2 hus hR hce hca HOK HE HBB h40;go_wp2_with fail;refine cK.mono ?_;rintro e w3 ⟨rfl,b3⟩;have n3:=bt b3 n2;have n4:=aL _ _ _ #[ag ce,ag ca] _ _ n3;have HB4:=aG (below_setRow (aw HB2.o b3) HW1.o #[ag ce,ag ca]);have HI4:PH (Rob (fun q=>w.heap.size<=q/\q<w1.heap.size) (fun u=>InR u (.slice pv nu cv) us) (w3.setRow w1.heap.size #[ag ce,ag ca])):=(HIN.o.below b3).move (by simp) (fun q hq _=>aV _ _ _ _ (by omega)) fun _ _ h=>h;generalize hw4:w3.setRow w1.heap.size #[ag ce,ag ca]=w4 at*;have z4:w4.cell? (ae w1.heap.size 0)=some (ag ce):=cr 0 n4 rfl;clear cK b3 HIN HB2 z2 n2;by_cases h1:ce=0
  ·subst h1;have cC:=C3 us (.slice pv nu cv) w4 HI4.o.here (Ft HB.o HB4.o);rw[HUS.o]at cC;unfold xR at cC;obtain⟨fe,hfe⟩:=au ((iy R).1);obtain⟨fa,hfa⟩:=au ((iy R).2);rw[hfe,hfa]at cC;have HFE:=aG hfe;clear hfe hfa hw2;go_wp2_with(first|(refine ay rfl 95 _ _ rfl _ _ rfl rfl _ _ n3 (by kernel_rfl) rfl (by simp[Value.oneCell']) ?_)|fail)
   refine cC.mono ?_;rintro e w5 ⟨vc,rfl,hi5,hv5,b5⟩;have m3:=bt b5 n4;have n6:=aL _ _ _ #[ag fe,ag fa] _ _ m3;have HB6:=aG (below_setRow (aw HB4.o b5) HW1.o #[ag fe,ag fa]);have HI6:PH (Rob (fun q=>w.heap.size<=q) (fun u=> ∃us,InR u (.slice pv nu cv) us/\us.map (fun p=>p.1)=R) (w5.setRow w1.heap.size #[ag fe,ag fa])):=Rob.imp (((HI4.o.below b5).move (by simp) (fun q hq _=>aV _ _ _ _ (by omega)) fun _ _ h=>h.1):Rob (fun q=>w.heap.size<=q) (fun u=>InR u (.slice pv nu cv) us) _) fun u hu=>⟨us,hu,HUS.o⟩
   have HT6:PH (∀u,nL (w5.setRow w1.heap.size #[ag fe,ag fa]) u->nL w5 u):=fun u hu q c T f hq hT=>by
    by_cases e:q=w1.heap.size
    ·subst e;rw[m3]at hq;injection hq with hq;injection hq with _ hq _;subst hq;exact absurd hT (by decide)
    ·have:=aV w5 w1.heap.size q #[ag fe,ag fa] e;rw[<-this];exact hu q c T f (this.trans hq) hT
   have HV5:=aG hv5;have HI5:=aG hi5;generalize hw6:w5.setRow w1.heap.size #[ag fe,ag fa]=w6 at*;have z6:w6.cell? (ae w1.heap.size 0)=some (ag fe):=cr 0 n6 rfl;have n3:=m3;clear cC hi5 hv5 b5 z4 n4 m3 hw4;by_cases h2:fe=0
   ·subst h2;go_wp2_with(refine ay rfl 95 _ _ rfl _ _ rfl rfl _ _ n3 (by kernel_rfl) rfl (by simp[Value.oneCell']) ?_)
    go_ret3;refine⟨_,_,by rw[HC.o,HFE.o];rfl,HB6.o,fun _=> ?_⟩;rw[HC.o];exact⟨HR40.o,Aj HFE.o,HI6.o,fun u hu=>HI5.o trivial u (HT6.o u hu)⟩
   ·have h2':(fe !=0)=true:=(by simpa using h2);have HH:=aG h2;have hvc:=HV5.o h2;subst hvc;clear h2;go_wp2_with(refine ay rfl 95 _ _ rfl _ _ rfl rfl _ _ n3 (by kernel_rfl) rfl (by simp[Value.oneCell']) ?_)
    refine dn (fun _ _ W=>aq w6 W) [kn 33 (ab w1.heap.size 0),kn 34 (ag fe),kn 2 (af),kn 3 (af),kn 4 (ag fe)] (fun _=>(aI _ _).drew) (fun _ _ _ _ hb h=>aw h hb) (by kernel_rfl) ?_ ?_
    ·rintro M φ W hb _ F l hl hF;have z:W.cell? (ae w1.heap.size 0)=some (ag fe):=aj hb z6;simp only[kn,dX,aR,aX,Act.put,aA,aK,aJ]at hl;subst hl;simp only[dc,Nat.reduceAdd]at hF;dsimp only[kn,dC,eJ,eg,Act.put];and_intros;all_goals first|exact trivial|intro hw hn hm K hK
     all_goals (go_simp;with_reducible exact hK _ _ ⟨rfl,aI _ _⟩)
    ·rintro M φ W hM hb;simp only[kn,en,aR,aX,Act.put,aA,aK,aJ];clear hM z6;go_wp2_with fail;go_ret3;exact⟨_,_,by rw[HC.o,HFE.o];rfl,aw HB6.o hb,fun e=>absurd (by rw[HC.o,HFE.o]at e;exact e) HH.o⟩
  ·have h1':(ce !=0)=true:=(by simpa using h1)
   have HC1:PH ((ir l).1=ce):=by
    show _=_;rw[HC.o];show(iy R).1=ce;rw[Km (by rw[HCE.o];exact h1),HCE.o]
   have HH:=aG h1;clear h1 hw2;go_wp2_with(refine ay rfl 95 _ _ rfl _ _ rfl rfl _ _ n3 (by kernel_rfl) rfl (by simp[Value.oneCell']) ?_)
   refine dn (fun _ _ W=>aq w4 W) [kn 23 (ab w1.heap.size 0),kn 24 (ag ce),kn 2 (af),kn 3 (af),kn 4 (ag ce)] (fun _=>(aI _ _).drew) (fun _ _ _ _ hb h=>aw h hb) (by kernel_rfl) ?_ ?_
   ·rintro M φ W hb _ F l hl hF;have z:W.cell? (ae w1.heap.size 0)=some (ag ce):=aj hb z4;simp only[kn,dX,aR,aX,Act.put,aA,aK,aJ]at hl;subst hl;simp only[dc,Nat.reduceAdd]at hF;dsimp only[kn,dC,eJ,eg,Act.put];and_intros;all_goals first|exact trivial|intro hw hn hm K hK
    all_goals (go_simp;with_reducible exact hK _ _ ⟨rfl,aI _ _⟩)
   ·rintro M φ W hM hb;simp only[kn,en,aR,aX,Act.put,aA,aK,aJ];clear hM z4;go_wp2_with fail;go_ret3;exact⟨_,_,by rw[HC1.o];rfl,aw HB4.o hb,fun e=>absurd (by rw[HC1.o]at e;exact e) HH.o⟩
 ·have h0':(er !=0)=true:=by simpa using h0
  have HC:PH (ir l=(er,[])):=by
   show _=_;unfold ir;rw[aD (by rw[<-HE.o];exact h0),HE.o]
  have HH:=aG h0;clear h0 HOK HBB n2;go_upto_region 3 with fail;refine dn (fun _ _ W=>aq w2 W) [kn 16 (ab w1.heap.size 0),kn 17 (ag er),kn 2 (af),kn 3 (af),kn 4 (ag er)] (fun _=>(aI _ _).drew) (fun _ _ _ _ hb h=>aw h hb) (by kernel_rfl) ?_ ?_
  ·rintro M φ W hb _ F l hl hF;have z:W.cell? (ae w1.heap.size 0)=some (ag er):=aj hb z2;simp only[kn,dX,aR,aX,Act.put,aA,aK,aJ]at hl;subst hl;simp only[dc,Nat.reduceAdd]at hF;dsimp only[kn,dC,eJ,eg,Act.put];and_intros;all_goals first|exact trivial|intro hw hn hm K hK
   all_goals (go_simp;with_reducible exact hK _ _ ⟨rfl,aI _ _⟩)
  ·rintro M φ W hM hb;simp only[kn,en,aR,aX,Act.put,aA,aK,aJ];clear hM z2;go_wp2_with fail;go_ret3;exact⟨_,_,by rw[HC.o];rfl,aw HB2.o hb,fun e=>absurd (by rw[HC.o]at e;exact e) HH.o⟩
section
def Cor (d d':Dk):Prop:= ∃k r,d'={d with kept:=k,runs:=r}
theorem Cor.refl (d:Dk):Cor d d:=⟨d.kept,d.runs,rfl⟩
theorem Cor.trans {a b c:Dk}(h:Cor a b)(h':Cor b c):Cor a c:=by
 obtain⟨k,r,rfl⟩:=h;obtain⟨k',r',rfl⟩:=h';exact⟨k',r',rfl⟩
theorem sI (d:Dk)(r day:Int):Cor d (fi d r day).2:=by
 unfold fi;dsimp only;split
 ·exact Cor.refl d
 ·exact⟨_,_,rfl⟩
theorem v8 {f:Int->Dk->Bool×Dk}(hf: ∀x d,Cor d (f x d).2): ∀(l:List Int) (d:Dk),Cor d (jn f l d).2
 |[],d=>Cor.refl d
 |x::l,d=>by
  unfold jn;split
  ·exact hf x d
  ·exact(hf x d).trans (v8 hf l _)
def Tr.ad (t:Tr)(L:List Nat):Tr:={t with xs:=L++t.xs}
section
variable {B gD:Nat} {d:Dk} {t:Tr} {w w':World}
theorem Kd.ad {L:List Nat}(h:Kd gD t t w w'):Kd gD (t.ad L) (t.ad L) w w':=⟨h.os,h.tape,h.output,h.size,h.blk,fun _ _ h=>h,rfl⟩
theorem Kd.un {L:List Nat}(h:Kd gD (t.ad L) (t.ad L) w w'):Kd gD t t w w':=⟨h.os,h.tape,h.output,h.size,h.blk,fun _ _ h=>h,rfl⟩
theorem dt.drop {L:List Nat}(h:dt B gD d (t.ad L) w):dt B gD d t w:=by
 obtain⟨h0,rv,cv,vv,kv,ss,aa,h⟩:=h;have mv: ∀{Φ:World->Prop},Rob (Fx gD (t.ad L)) Φ w->Rob (Fx gD t) Φ w:=fun hR=>hR.move (aB _) (fun _ _ _=>rfl) fun q _ hq=>⟨hq.1,fun hx=>hq.2 (eB _ hx)⟩
 exact⟨h0,rv,cv,vv,kv,ss,aa,h.blk,h.lo,mv h.rules,mv h.codes,mv h.vers,mv h.kept,h.res,h.svs,h.sve,fun p hp=>mv (h.svr p hp),h.aps,h.ape,fun p hp=>mv (h.apr p hp),fun q hq=>h.nx q (eB _ hq)⟩
theorem dt.grown {L:List Nat}(h:dt B gD d (t.ad L) w){v v':Value}{base e size n m:Nat}{xs ys:List Value}(_:w.ownsRow base e size v n xs)(hL: ∀b,v.ownBlock=some b->b∈L)(hg:w.grownBy w' v.ownBlock)(ho':w'.ownsRow base e size v' m ys)(hv:v'.ownBlock=v.ownBlock\/v'.ownBlock=some w.heap.size): ∃L',dt B gD d (t.ad L') w'/\(∀b,v'.ownBlock=some b->b∈L')/\(∀b∈L',b∈L\/(b=w.heap.size/\v'.ownBlock=some b))/\ ∀Φ:World->Prop,Rob (Fx gD (t.ad L)) Φ w->Rob (Fx gD (t.ad L')) Φ w':=by
 obtain⟨h0,rv,cv,vv,kv,ss,aa,h⟩:=h;have hlt:=aH h.blk;have ne: ∀q,q<w.heap.size->q∉L->w'.heap[q]? =w.heap[q]? :=fun q hl hq=>hg.block q hl fun e=>hq (hL q e.symm)
 have mv: ∀L':List Nat,(∀q,q∈L'↔q∈L\/(v'.ownBlock=some q/\q=w.heap.size))-> ∀Φ:World->Prop,Rob (Fx gD (t.ad L)) Φ w->Rob (Fx gD (t.ad L')) Φ w':=fun L' hL' Φ hR=>hR.move hg.size (fun q hq hl=>ne q hl fun hx=>hq.2 (fK _ hx)) fun q hl hq=>⟨hq.1,fun hx=>by
  rcases bU.1 hx with hx|hx
  ·rcases(hL' q).1 hx with hx|⟨_,hx⟩
   ·exact hq.2 (fK _ hx)
   ·omega
  ·exact hq.2 (eB _ hx)⟩
 have key: ∀L':List Nat,(∀q,q∈L'↔q∈L\/(v'.ownBlock=some q/\q=w.heap.size))->dt B gD d (t.ad L') w':=fun L' hL'=>by
  have mv:= @mv L' hL';have nl: ∀q∈L,q<w.heap.size/\B<=q/\q≠gD/\some q≠t.ev.ownBlock/\some q≠t.sv.ownBlock/\some q≠t.av.ownBlock:=fun q hq=>h.nx q (fK _ hq);have rk: ∀{e s n:Nat} {u:Value} {xs:List Value},w.ownsRow B e s u n xs->(∀q∈L,some q≠u.ownBlock)->w'.ownsRow B e s u n xs:=fun hr hn=>br hr fun b hb=>ne b (hr.lt b hb).2 fun hx=>hn b hx hb.symm;refine⟨h0,rv,cv,vv,kv,ss,aa,(ne gD hlt fun hx=>(nl gD hx).2.2.1 rfl).trans h.blk,h.lo,mv _ h.rules,mv _ h.codes,mv _ h.vers,mv _ h.kept,rk h.res fun q hq=>(nl q hq).2.2.2.1,rk h.svs fun q hq=>(nl q hq).2.2.2.2.1,h.sve,fun p hp=>mv _ (h.svr p hp),rk h.aps fun q hq=>(nl q hq).2.2.2.2.2,h.ape,fun p hp=>mv _ (h.apr p hp),fun q hq=> ?_⟩;rcases bU.1 hq with hq|hq
  ·rcases(hL' q).1 hq with hq|⟨h1,h2⟩
   ·have:=nl q hq;exact⟨aT this.1 hg.size,this.2⟩
   ·have:=h.lo;exact⟨(ho'.lt q h1).2,by omega,by omega,lX h.res (.inr (by omega)),lX h.svs (.inr (by omega)),lX h.aps (.inr (by omega))⟩
  ·have:=h.nx q (eB _ hq);exact⟨aT this.1 hg.size,this.2⟩
 by_cases hm:v'.ownBlock=some w.heap.size
 ·have hiff: ∀q,q∈w.heap.size::L↔q∈L\/(v'.ownBlock=some q/\q=w.heap.size):=fun q=>by
   rw[bz,hm];constructor
   ·rintro(rfl|h)
    ·exact .inr ⟨rfl,rfl⟩
    ·exact .inl h
   ·rintro(h|⟨_,h⟩)
    ·exact .inr h
    ·exact .inl h
  refine⟨w.heap.size::L,key _ hiff,fun b hb=> ?_,fun b hb=> ?_,mv _ hiff⟩
  ·rw[hm]at hb;rw[<-aN hb];exact bq
  ·rcases bz.1 hb with h|h
   ·exact .inr ⟨h,by rw[h];exact hm⟩
   ·exact .inl h
 ·have e:=hv.resolve_right hm;have hiff: ∀q,q∈L↔q∈L\/(v'.ownBlock=some q/\q=w.heap.size):=fun q=>⟨.inl,fun h=>h.elim id fun⟨h1,h2⟩=>absurd (by rw[h1,h2]) hm⟩
  exact⟨L,key L hiff,fun b hb=>hL b (by rw[<-e];exact hb),fun b hb=> .inl hb,mv L hiff⟩
end
theorem Da {l:List Ap}{j:Nat}{a:Ap}(d:Dk)(h:l[j]? =some a):eY (l.drop j) j d=if a.st=3 then eY (l.drop (j+1)) (j+1) d else(if(jn (kY a.day a.fr a.to) a.who d).1=true then(j:Int)::(eY (l.drop (j+1)) (j+1) (jn (kY a.day a.fr a.to) a.who d).2).1 else(eY (l.drop (j+1)) (j+1) (jn (kY a.day a.fr a.to) a.who d).2).1,(eY (l.drop (j+1)) (j+1) (jn (kY a.day a.fr a.to) a.who d).2).2):=by
 obtain⟨h1,h2⟩:=aF.1 h;rw[bv h1,h2];rfl
section
variable {B gD:Nat} {d:Dk} {t:Tr}
theorem Fu (w:World)(h:dt B gD d t w):Calls prog 26 #[ab gD 0] w fun e w'=> ∃lv,e= .returned lv/\dt B gD (eY d.aps 0 d).2 t w'/\Kd gD t t w w'/\w'.ownsRow w.heap.size 3 1 lv (eY d.aps 0 d).1.length (dp (eY d.aps 0 d).1):=by
 obtain⟨wA,hA,bA,nA⟩:=nb w #[ab gD 0] 57;have hdA:=h.below bA;have H0:=aG h;have HDA:=aG hdA;obtain⟨hok,hdm⟩:=hdA;obtain⟨rv,cv,vv,kv,ss,aa,hm⟩:=hdm;have hla:aa.length=d.aps.length:=by rw[<-hm.ape,ba]
 obtain⟨n,hn⟩:=au d.aps.length;have HN:=aG hn;obtain⟨pa,ca,hav⟩:=di hm.aps;rw[hla,hn]at hav;have z3:wA.cell? (ae gD 3)=some t.av:=cr 3 hm.blk rfl;rw[hav]at z3;have hn30:n<=30:=by rw[<-hn];exact hok.al
 have HAV:=aG hav;have HBA:=aG bA;have HOK:=aG hok;have z1:=cr 0 nA rfl;have hwA:w.heap.size<=wA.heap.size:=bA.size;have HG:PH (∀q,w.heap.size<=q->Gx gD t q):=fun q hq=>(H0.o.fx (.inr hq)).1;have eF: ∀args w,(callFunc 46 args).run prog w= .ok (.enter 46 args) w:=fun _ _=>rfl;clear h hm hla hn hav hok bA;go_enter func26,ntmps26;go_wp2_with fail;clear z3 hA z1;go_loopw [3,4,5,6,13] (fun v _ _ _ q wr=> ∃(j:Nat) (dd:Dk) (l:List Int) (L:List Nat),q=ag (j:Int)/\j<=n/\Cor d dd/\dt B gD dd (t.ad L) wr/\(∀b,v.ownBlock=some b->b∈L)/\Kd gD t t wA wr/\wr.ownsRow wA.heap.size 3 1 v l.length (dp l)/\l.length<=j/\eY d.aps 0 d=(l++(eY (d.aps.drop j) j dd).1,(eY (d.aps.drop j) j dd).2)) (fun _ _ _ _ q _=>n-(intOf q).toNat);case atStart=>exact⟨0,d,[],[],rfl,by omega,Cor.refl d,HDA.o,(fun b hb=>by cases hb),Kd.of (aI _ _),cY _ _ _ _,aB _,rfl⟩
 case round=>
  obtain⟨j,dd,l,L,rfl,hj,hco,hd,hLb,hk,hown,hlj,hX⟩:=hrel;have hj0:(0:Int)<=(j:Int):=(by omega);have hca:dd.aps=d.aps:=(by obtain⟨_,_,rfl⟩:=hco;rfl);have hcr:dd.res=d.res:=(by obtain⟨_,_,rfl⟩:=hco;rfl);by_cases hjn:j<n
  ·have hjn':(j:Int)<(n:Int):=(by omega);obtain⟨a,pw,cw,ga,ca',ha,hva,_,hrg,hrob⟩:=DkM.ap hd.2 (j:=j) (by rw[hca,HN.o];exact hjn);rw[hca]at ha;have e0:Value.slice pa n ca= .slice (some (ae ga 0)) n ca':=(by rw[<-HAV.o,<-HN.o,<-hca];exact hva);injection e0 with e1 e3 e2;subst e1 e2;rw[Da dd ha]at hX;have hwho:=(HOK.o.ap a (aM ha)).2.2.2.2.2.2;obtain⟨wZ,wB,hZ,nZ,hB,bB,nB⟩:=nbs wr apZ (apC (a,.slice pw a.who.length cw)) 38;unfold apZ at hZ nZ;have y0:wB.cell? (ae wr.heap.size 0)=some (ag a.st):=cr 0 nB rfl;have y10:wB.cell? (ae wr.heap.size 10)=some (.slice pw a.who.length cw):=cr 10 nB rfl;have hdB:=hd.below bB;have hkB:=hk.trans (Kd.of bB);have hownB:=br hown fun b hq=>bB.block b (hown.lt b hq).2;have hwr:w.heap.size<=wr.heap.size:=bf hwA hk.size
   have cC:=pB (kY a.day a.fr a.to) (fun s W=>dt B gD s (t.ad L) W/\Kd gD t t wB W/\Cor d s) 46 #[ab w.heap.size 0,ab wr.heap.size 0] a.who (.slice pw a.who.length cw) dd wB eF ⟨hdB,Kd.of (aI _ _),hco⟩ (fun s W hW=>(hW.2.1.ad.rob (hrob.below bB)).here) (fun x hx s W hW=>by
    have h1:=hW.2.1.blk w.heap.size (HG.o _ (aB _));have h2:=hW.2.1.blk wr.heap.size (HG.o _ hwr);have nA':=(hkB.blk w.heap.size (HG.o _ (aB _)) (aH nA)).trans nA;have hsr:s.res=d.res:=(by obtain⟨_,_,rfl⟩:=hW.2.2;rfl);refine(If W hW.1 (hwho x hx).1 (by rw[hsr];exact(hwho x hx).2) ((h1 (aH nA')).trans nA') ((h2 (aH nB)).trans nB) (HG.o _ hwr) (HG.o _ (aB _))).mono fun e w' hh=>⟨hh.1,hh.2.1,hW.2.1.trans hh.2.2.un,hW.2.2.trans (sI s x a.day)⟩)
   have HX:=aG hX;have HOW:=aG hownB;have HKB:=aG hkB;have HDB:=aG hdB;have HCO:=aG hco;have HLB:=aG hLb;obtain⟨st,hst⟩:=au a.st;rw[hst]at y0 HX;obtain⟨nw,hnw⟩:=au a.who.length;rw[hnw]at y10 cC;have HNW:=aG hnw;have HRG:=aG hrg;clear hLb hX hst e3 hva hrob hown hd hdB hk hkB hco hca hcr hownB ha hwho hwr hnw;by_cases h3:st=3
   ·subst h3;have HY:=aG (HX.o.trans (by rw[aD rfl]));clear HX cC;have hrg:=HRG.o;go_wp2_with(first|(refine wpList_load_mid rfl 38 _ rfl ga (j*11) rfl (apC (a,.slice pw a.who.length cw)).toList _ hrg apT rfl (by kernel_rfl) ?_)|(refine ay rfl 38 _ _ rfl _ _ rfl rfl _ _ nZ (by kernel_rfl) rfl (iu _ _ _ _) ?_;rw[hB]))
    go_roundw;case rel=>exact⟨j+1,dd,l,L,by go_num,by omega,HCO.o,HDB.o,HLB.o,HKB.o,HOW.o,by omega,HY.o⟩
    case measure=>simp[intOf];omega
   ·have h3':(st !=3)=true:=(by simpa using h3);obtain⟨bb,hbb⟩:=au ((jn (kY a.day a.fr a.to) a.who dd).1);obtain⟨de,hde⟩:=au ((jn (kY a.day a.fr a.to) a.who dd).2);rw[hbb,hde]at cC
    have HY:PH (eY d.aps 0 d=(l++(if bb=true then(j:Int)::(eY (d.aps.drop (j+1)) (j+1) de).1 else(eY (d.aps.drop (j+1)) (j+1) de).1),(eY (d.aps.drop (j+1)) (j+1) de).2)):=by
     show _=_;have:=HX.o;rw[ax h3,hbb,hde]at this;exact this
    have hrg:=HRG.o;clear HX hbb hde h3;go_wp2_with(first|(refine wpList_load_mid rfl 38 _ rfl ga (j*11) rfl (apC (a,.slice pw a.who.length cw)).toList _ hrg apT rfl (by kernel_rfl) ?_)|(refine ay rfl 38 _ _ rfl _ _ rfl rfl _ _ nZ (by kernel_rfl) rfl (iu _ _ _ _) ?_;rw[hB]))
    refine cC.mono ?_;rintro e w1 ⟨rfl,hd1,hk1,hco1⟩;have hkw1:=HKB.o.trans hk1;have how1:=br HOW.o fun b hq=>hk1.blk b (HG.o b (bf hwA (HOW.o.lt b hq).1)) (HOW.o.lt b hq).2;clear cC y0 y10 nB nZ hB hZ hrg HRG hk1 HOW HKB;cases bb with
    |false=>
     have HD1:=aG hd1;have HK1:=aG hkw1;have HO1:=aG how1;have HC1:=aG hco1;have HZ:PH (eY d.aps 0 d=(l++(eY (d.aps.drop (j+1)) (j+1) de).1,(eY (d.aps.drop (j+1)) (j+1) de).2)):=HY.o;clear hd1 hkw1 how1 hco1 HY;go_wp2_with fail;go_roundw;case rel=>exact⟨j+1,de,l,L,by go_num,by omega,HC1.o,HD1.o,HLB.o,HK1.o,HO1.o,by omega,HZ.o⟩
     case measure=>simp[intOf];omega
    |true=>
     obtain⟨wC,hC,bC,nC⟩:=nb w1 #[ag (j:Int)] 3;have hoC:=br how1 fun b hq=>bC.block b (how1.lt b hq).2;have HKC:=aG (hkw1.trans (Kd.of bC));have HDC:=aG (hd1.below bC);have HC1:=aG hco1;have hbz:wA.heap.size<=wC.heap.size:=HKC.o.size
     have HZ:PH (eY d.aps 0 d=((l++[(j:Int)])++(eY (d.aps.drop (j+1)) (j+1) de).1,(eY (d.aps.drop (j+1)) (j+1) de).2)):=by
      show _=_;rw[HY.o,eh];rfl
     clear hd1 hkw1 how1 hco1 HY bC;go_wp2_with(at_builtin;refine iA rfl _ _ 34 3 rfl qx om rfl (by decide) (by decide) rfl hoC rfl nC rfl (by simp[Value.oneCell']) (by omega) hbz ?_)
     rintro v2 w2 ho2 hgr hbl g2 c2 rfl;obtain⟨L',hd2,hL2,_,_⟩:=HDC.o.grown hoC HLB.o hgr ho2 hbl;have hk2:Kd gD t t wA w2:=⟨hgr.os.trans HKC.o.os,hgr.tape.trans HKC.o.tape,hgr.output.trans HKC.o.output,bf HKC.o.size hgr.size,fun q hq hl=>(hgr.block q (aT hl HKC.o.size) (fun e=>by have:=(hoC.lt q e.symm).1;omega)).trans (HKC.o.blk q hq hl),fun _ _ h=>h,rfl⟩
     have HD2:=aG hd2;have HL2:=aG hL2;have HK2:=aG hk2
     have HO2:PH (w2.ownsRow wA.heap.size 3 1 (.slice (some (ae g2 0)) (l.length+1) c2) (l++[(j:Int)]).length (dp (l++[(j:Int)]))):=by
      show World.ownsRow _ _ _ _ _ _ _;rw[lj,aP];exact ho2
     clear hoC ho2 hgr hbl nC hC hd2 hL2 hk2 HDC HKC;go_wp2_with fail;go_roundw;case rel=>exact⟨j+1,de,l++[(j:Int)],L',by go_num,by omega,HC1.o,HD2.o,HL2.o,HK2.o,HO2.o,by rw[aP];simp;omega,HZ.o⟩
     case measure=>simp[intOf];omega
  ·have hjn': ¬(j:Int)<(n:Int):=(by omega);obtain rfl:n=j:=(by omega);rw[df (by rw[HN.o];exact aB _)]at hX
   have HX:PH (eY d.aps 0 d=(l,dd)):=by
    show _=_;rw[hX];simp[eY]
   have HD:=aG hd.drop;have HK:=aG ((Kd.of HBA.o).trans hk);have HO:PH (wr.ownsRow w.heap.size 3 1 u3 l.length (dp l)):=⟨hown.1,hown.2.imp id fun⟨g,c,cu,q1,q2,q3⟩=>⟨g,c,cu,q1,bf hwA q2,q3⟩⟩
   clear hX hd hk hown hco hca hcr hLb;go_wp2_with fail;go_ret;exact⟨_,rfl,by rw[HX.o];exact HD.o,HK.o,by rw[HX.o];exact HO.o⟩
end
end
end Go.Proofs.YtkfidffapdhbhaaGreatDoor
