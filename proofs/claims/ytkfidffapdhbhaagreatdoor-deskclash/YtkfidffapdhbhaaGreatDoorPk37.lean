/- Texts of the proof. -/
import Derived.Test.YtkfidffapdhbhaaGreatDoorPk36
import Derived.Test.YtkfidffapdhbhaaGreatDoorPk13
import Derived.Test.YtkfidffapdhbhaaGreatDoorCards
import Derived.Test.YtkfidffapdhbhaaGreatDoorTie
import Derived.LaidMore
import Derived.SevenTiedAt
open Go.Proofs.Tryz
set_option maxRecDepth 100000
set_option maxHeartbeats 8000000
namespace Go.Proofs.YtkfidffapdhbhaaGreatDoor
section
open Go.RowKit Lx Vx Mx Msk
theorem CF (cs:List (Cm×Value×Value))(v:Value)(w:World)(hs:mW w v cs)(hT:Tbs w.heap.size w):Calls prog 3 #[v] w fun e w'=>e= .returned (.bool true)/\Below w.heap.size w w':=by
 have c1:=CE w hT;have HS:=aB hs;have HT:=aB hT;obtain⟨p,k,rfl,_,_⟩:=hs;clear hT;go_enter func3,ntmps3;go_wp2_with fail;refine c1.mono ?_;rintro e w1 ⟨rfl,b1⟩;clear c1;have c2:=BQ cs _ w1 (HS.o.below b1) (fun W hW=>HT.o W (aq b1 hW)) (fun q _=>BS q.1);have HB1:=aB b1;clear b1;go_wp2_with fail;refine c2.mono ?_;clear c2;rintro e w5 ⟨b5,h5⟩;have HB5:=aB (aq HB1.o b5);clear b5;rcases h5 with⟨_,rfl⟩|⟨_,rw',ev,sv,av,asv,ss,aa,ls,rfl,hP⟩
 ·obtain⟨wZ,wC,hZ,nZ,hC,bC,nC⟩:=nbs w5 #[af,af,af,af] #[af,af,af,af] 29;have y:=cr 3 nC rfl;have HB6:=aB (aq HB5.o bC);clear bC nC;go_wp2_with(refine aw rfl 29 _ _ rfl _ _ rfl rfl _ _ nZ (by kernel_rfl) rfl (by simp[Value.oneCell']) ?_;rw[hC])
  go_ret;exact⟨rfl,HB6.o⟩
 ·replace hP:=hP.here;generalize (cs.map fun q=>q.1)=l at hP⊢;obtain⟨dd,hdd⟩: ∃q,(fV dk0 l).2=q:=⟨_,rfl⟩
  have hCI:CI (coD dd):=(by rw[<-hdd,(M9 l).2.1];exact Dq l co0 Na);have hps:=hP.aps;have hpr:=hP.apr;have hss:=hP.svs;have hsr:=hP.svr;have he:=hP.ape;have hf:=hP.sve;rw[hdd]at he hf;have hres:=hP.res;obtain⟨us,hus,_⟩:=hP.rules;obtain⟨p1,k1,rfl⟩:=hus.form;obtain⟨p2,k2,rfl⟩:=cZ hres;obtain⟨p3,k3,hv3⟩:=cZ hss;obtain⟨pa,ka,hva⟩:=cZ hps;have hmx:=BP hps;have hAW: ∀q∈aa,AW (coD dd).svs q.1:=fun q hq=>hCI.aps _ (by show q.1∈dd.aps;rw[<-he];exact List.mem_map_of_mem hq);have hNC: ∀(i j:Nat) (p q:Ap×Value),i≠j->aa[i]? =some p->aa[j]? =some q->NC p.1 q.1:=fun i j p q hij hp hq=>hCI.nc i j _ _ hij (by show dd.aps[i]? =_;rw[<-he,a8,hp];rfl) (by show dd.aps[j]? =_;rw[<-he,a8,hq];rfl);have hsv:(coD dd).svs=ss.map fun p=>p.1:=hf.symm;rw[hsv]at hAW;clear hP hus hCI he hf hdd hsv hres;generalize (fV dk0 l).2.res.length=n2;generalize us.length=n1;generalize (fV dk0 l).2.runs=rn;obtain⟨n3,hn3⟩: ∃q,ss.length=q:=⟨_,rfl⟩
  obtain⟨n4,hn4⟩: ∃q,aa.length=q:=⟨_,rfl⟩
  have HCL:=fun W (hb:Below w5.heap.size w5 W) (rv ev sv:Value)=>Hq rv ev sv av aa W (bp hps fun b hq=>hb.block b (hps.lt b hq).2) (fun q hq=>(hpr q hq).below hb) hNC;have HAP:OK (∀j,j<aa.length-> ∃(a:Ap) (p:Option Addr) (c g ca:Nat),aa[j]? =some (a,.slice p a.who.length c)/\av= .slice (some (ae g 0)) aa.length ca/\w5.rangeAt g (j*11) (apC (a,.slice p a.who.length c)).toList/\dy w5 (.slice p a.who.length c) a.who):=fun j hj=>J1 hps hpr hj
  have HSV:OK (∀a:Ap,AW (ss.map fun p=>p.1) a-> ∃(i g c:Nat) (q:Option Addr) (c2:Nat),a.sv=(i:Int)/\i<ss.length/\sv= .slice (some (ae g 0)) ss.length c/\w5.cell? (ae g (i*4+3))=some (.slice q a.who.length c2)):=fun a hA=>by
   obtain⟨i,hi⟩: ∃i:Nat,a.sv=(i:Int):=⟨a.sv.toNat,by have:=hA.sv;omega⟩
   have hl:i<ss.length:=(by have:=hA.sv.2;rw[bf]at this;omega);obtain⟨⟨s,u⟩,hq⟩: ∃q,ss[i]? =some q:=⟨_,ax hl⟩
   obtain⟨g,c,e1,_,hr⟩:=jx r8 hss rfl hq;obtain⟨q,c2,e2,_⟩:=hsr _ (aK hq);have hw:=hA.who;rw[hi,bV,dE,a8,hq]at hw;exact⟨i,g,c,q,c2,hi,hl,e1,hr 3 _ (by rw[hw];exact congrArg some e2)⟩
  have HAW:=aB hAW;clear hss hsr hpr hNC hps hAW;rw[hn3]at hv3 HSV;rw[hn4]at hva hmx HAP;subst hv3 hva;have HN4:=aB hn4;clear hn3 hn4;obtain⟨wZ,wC,hZ,nZ,hC,bC,nC⟩:=nbs w5 #[af,af,af,af] #[.slice p1 n1 k1,.slice p2 n2 k2,.slice p3 n3 k3,.slice pa n4 ka] 29;have y2:=cr 2 nC rfl;have y3:=cr 3 nC rfl;have HBC:=aB bC;have HNC:=aB nC;have HCL:=aB HCL;clear bC nC;go_wp2_with(refine aw rfl 29 _ _ rfl _ _ rfl rfl _ _ nZ (by kernel_rfl) rfl (by simp[Value.oneCell']) ?_;rw[hC])
  clear hZ nZ hC;go_loopw [8,27] (fun _ q wr=> ∃j:Nat,q=ag (j:Int)/\j<=n4/\Below wC.heap.size wC wr) (fun _ q _=>n4-(intOf q).toNat);case atStart=>exact⟨0,rfl,by omega,aG _ _⟩
  case round=>
   obtain⟨j,rfl,hj,hbr⟩:=hrel;have hj0:(0:Int)<=(j:Int):=(by omega);by_cases hjn:j<n4
   ·have hjn':(j:Int)<(n4:Int):=(by omega);obtain⟨a,pw,cw,g,ca',ha,e,hrg,hw⟩:=HAP.o j hjn;injection e with e1 e3 e2;subst e1 e2;clear e3;have hA:AW (ss.map fun p=>p.1) a:=HAW.o _ (aK ha);obtain⟨i,gs,c,q,c2,hi,hil,e,hsc⟩:=HSV.o a hA;injection e with e1 e3 e2;subst e1 e2;clear e3;have hbr5:=aq HBC.o hbr;have hrg2:=fX hrg hbr5;obtain⟨wZ,wB,hZ,nZ,hB,bB,nB⟩:=nbs wr apZ (apC (a,.slice pw a.who.length cw)) 38;unfold apZ at hZ nZ;have hs3:=((aq hbr5 bB).cell (bJ hsc)).trans hsc;have hbB:=aq hbr bB;have z2:=aj hbB y2;have x2:wB.cell? (ae wr.heap.size 2)=some (ag a.fr):=cr 2 nB rfl;have x3:wB.cell? (ae wr.heap.size 3)=some (ag a.to):=cr 3 nB rfl;have x4:wB.cell? (ae wr.heap.size 4)=some (ag (i:Int)):=cr 4 nB (congrArg (fun x:Int=>some (ag x)) hi);have x5:wB.cell? (ae wr.heap.size 5)=some (ag a.bef):=cr 5 nB rfl;have x6:wB.cell? (ae wr.heap.size 6)=some (ag a.aft):=cr 6 nB rfl;have x7:wB.cell? (ae wr.heap.size 7)=some (ag a.len):=cr 7 nB rfl;have x9:wB.cell? (ae wr.heap.size 9)=some (ag a.min):=cr 9 nB rfl;have x10:wB.cell? (ae wr.heap.size 10)=some (.slice pw a.who.length cw):=cr 10 nB rfl;have f1: ¬a.fr<0:=(by have:=hA.lo;omega);have f2: ¬1440<a.to:=(by have:=hA.hi;omega);have f3:IntKind.i64.wrap (a.min-a.bef)=a.fr:=(by have:=hA.fr;have:=hA.lo;have:=hA.hi;have:=hA.to;have:=hA.meas;rw[br];omega);have f4:IntKind.i64.wrap (a.min+a.len)=a.min+a.len:=(by have:=hA.fr;have:=hA.lo;have:=hA.hi;have:=hA.to;have:=hA.meas;rw[br];omega);have f5:IntKind.i64.wrap (a.min+a.len+a.aft)=a.to:=(by have:=hA.fr;have:=hA.lo;have:=hA.hi;have:=hA.to;have:=hA.meas;rw[br];omega);have f6: ¬(i:Int)<0:=(by omega);have f7: ¬(n3:Int)<=(i:Int):=(by omega);have f8:(i:Int)<(n3:Int):=(by omega);have f9:(0:Int)<=(i:Int):=(by omega);have HBB:=aB hbB;clear ha hrg hw hA hsc hbr5 bB hbr hbB nB y2 y3 hi hil;go_upto_region 9 with(first|(refine wpList_load_mid rfl 38 _ rfl g (j*11) rfl (apC (a,.slice pw a.who.length cw)).toList _ hrg2 apT rfl (by kernel_rfl) ?_)|(refine aw rfl 38 _ _ rfl _ _ rfl rfl _ _ nZ (by kernel_rfl) rfl (fL _ _ _ _) ?_;rw[hB]))
    clear hrg2 nZ hZ hB;go_quiet (fail);go_wp2_with fail;go_roundw;case rel=>exact⟨j+1,by go_num,by omega,HBB.o.trans ((dn (aG _ _) _).mono HBB.o.size)⟩
    case measure=>simp[intOf];omega
   ·have hjn': ¬(j:Int)<(n4:Int):=(by omega);have nr:=bt hbr HNC.o;have cC:=HCL.o wr (aq HBC.o hbr) (.slice p1 n1 k1) (.slice p2 n2 k2) (.slice p3 n3 k3);have HBR:=aB (HB5.o.trans ((aq HBC.o hbr).mono HB5.o.size));clear hbr y2 y3;go_wp2_with(refine aO rfl 29 _ rfl _ rfl _ _ _ _ nr dsT rfl (by kernel_rfl) ?_)
    refine cC.mono ?_;rintro e w9 ⟨rfl,b9⟩;clear cC;go_wp2_with fail;go_ret;exact⟨rfl,aq HBR.o b9⟩
end
section
open Go.ChangeShapes Go.WideShapes Go.ChangeAt Go.WideMaps Go.WideElems Go.RowKit Go.Joins Msk Mx
variable {H:Type} {enc:TypeId×Value->H} {W:World}
theorem Nl:prog.cellsOf 34=1:=by kernel_rfl
theorem N6:prog.cellsOf 39=1:=by kernel_rfl
theorem Nm:prog.cellsOf 41=4:=by kernel_rfl
theorem JF (fuel:Nat)(cs:List Value)(y:DataW H×List MemPlace)(h:DataW.trod enc prog W 0 (fun _=>true) true fuel 3 cs=some y): ∃u:Int,cs.length=1/\(fun k:Nat=>cs[k]?) 0=some (ag u):=by
 obtain⟨x,e,_⟩:=DataW.trod_int underlying3 h;subst e;exact⟨x,rfl,rfl⟩
theorem xq {fuel:Nat}{cs:List Value}{x:DataW H×List MemPlace}(h:DataW.trod enc prog W 0 (fun _=>true) true fuel 34 cs=some x): ∃(sl:Value) (l:List Int),cs=[sl]/\dy W sl l:=by
 obtain⟨p,len,cap,us,e,hl,hn,hall⟩:=vE (0:Int) (Q:=fun c u=>c 0=some (ag u)) pV cN9 (by decide) JF h;refine⟨_,us,e,p,cap,by rw[hl],by rw[hl];exact hn,fun j u hj=> ?_⟩;obtain⟨g,o,hp,c,hcl,hcc,q0⟩:=hall j u hj;exact⟨g,o,hp,by simpa using hcc 0 _ q0⟩
theorem E2 (fuel:Nat)(cs:List Value)(y:DataW H×List MemPlace)(h:DataW.trod enc prog W 0 (fun _=>true) true fuel 34 cs=some y): ∃u:List Int×Value,cs.length=1/\((fun k:Nat=>cs[k]?) 0=some u.2/\dy W u.2 u.1):=by
 obtain⟨sl,l,rfl,hr⟩:=xq h;exact⟨(l,sl),rfl,rfl,hr⟩
theorem CG {fuel:Nat}{cs:List Value}{x:DataW H×List MemPlace}(h:DataW.trod enc prog W 0 (fun _=>true) true fuel 39 cs=some x): ∃(sl:Value) (l:List (List Int)),cs=[sl]/\ft W sl l:=by
 obtain⟨p,len,cap,us,e,hl,hn,hall⟩:=vE (([],af):List Int×Value) (Q:=fun c u=>c 0=some u.2/\dy W u.2 u.1) Bd Nl (by decide) E2 h;refine⟨_,us.map (fun u=>u.1),e,p,cap,by rw[bf,hl],by rw[bf,hl];exact hn,fun j l hj=> ?_⟩;rw[a8]at hj;cases hu:us[j]? with
 |none=>rw[hu]at hj;cases hj
 |some u=>
  rw[hu]at hj;cases aL hj;obtain⟨g,o,hp,c,hcl,hcc,q0,q1⟩:=hall j u hu;exact⟨g,o,u.2,hp,by simpa using hcc 0 _ q0,q1⟩
end
section
open Go.ChangeShapes Go.WideShapes Go.ChangeAt Go.WideMaps Go.WideElems Go.RowKit Go.Joins Msk Mx Lx
variable {H:Type} {enc:TypeId×Value->H} {W:World}
theorem Nn:prog.cellsOf 36=3:=by kernel_rfl
theorem OF:prog.cellsOf 9=1:=by kernel_rfl
theorem No:prog.cellsOf 45=13:=by kernel_rfl
theorem E3 {fuel:Nat}{cs:List Value}{x:DataW H×List MemPlace}(h:DataW.trod enc prog W 0 (fun _=>true) true fuel 34 cs=some x): ∃(sl:Value) (l:List Int),cs=[sl]/\dy W sl l/\ ∀p n k,sl= .slice p n k->n<=k:=by
 obtain⟨sl,l,e,hr⟩:=xq h;refine⟨sl,l,e,hr,fun p n k e2=> ?_⟩;rw[e,e2]at h;rcases DataW.trod_slice pV h with⟨e1,_⟩|⟨a,len',cap',elems,rest,m,_,e1,_,_,hlc,hm,_⟩
 ·cases e1;exact az _
 ·cases e1;exact hlc
theorem E4 {fuel:Nat}{cs:List Value}{y:DataW H×List MemPlace}(h:DataW.trod enc prog W 0 (fun _=>true) true fuel 36 cs=some y): ∃(a b:Int) (sl:Value) (l:List Int),cs=[ag a,ag b,sl]/\dy W sl l/\ ∀p n k,sl= .slice p n k->n<=k:=by
 obtain⟨xs,m,_,_,hl,hx,hall⟩:=DataW.trod_struct underlying36 h;rw[Nn]at hl;obtain⟨c0,c1,c2,rfl⟩:=Hy hl;obtain⟨x0,x1,x2,rfl⟩:=Hy (show xs.length=3 from hx);have h0:DataW.trod enc prog W 0 (fun _=>true) true m 3 (([c0,c1,c2].drop 0).take (prog.cellsOf 3))=some x0:=hall 0 _ rfl;have h1:DataW.trod enc prog W 0 (fun _=>true) true m 3 (([c0,c1,c2].drop 1).take (prog.cellsOf 3))=some x1:=hall 1 _ rfl;have h2:DataW.trod enc prog W 0 (fun _=>true) true m 34 (([c0,c1,c2].drop 2).take (prog.cellsOf 34))=some x2:=hall 2 _ rfl;rw[cN9]at h0 h1;rw[Nl]at h2;obtain⟨a,e0,_⟩:=DataW.trod_int underlying3 h0;obtain⟨b,e1,_⟩:=DataW.trod_int underlying3 h1;obtain⟨sl,l,e2,hr⟩:=E3 h2;simp at e0 e1 e2;subst e0 e1 e2;exact⟨a,b,c2,l,rfl,hr⟩
theorem JG {fuel:Nat}{cs:List Value}{y:DataW H×List MemPlace}(h:DataW.trod enc prog W 0 (fun _=>true) true fuel 41 cs=some y): ∃(a b c:Int) (sl:Value) (l:List (List Int)),cs=[ag a,ag b,ag c,sl]/\ft W sl l:=by
 obtain⟨xs,m,_,_,hl,hx,hall⟩:=DataW.trod_struct underlying41 h;rw[Nm]at hl;obtain⟨c0,c1,c2,c3,rfl⟩:=J5 hl;obtain⟨x0,x1,x2,x3,rfl⟩:=J5 (show xs.length=4 from hx);have h0:DataW.trod enc prog W 0 (fun _=>true) true m 3 (([c0,c1,c2,c3].drop 0).take (prog.cellsOf 3))=some x0:=hall 0 _ rfl;have h1:DataW.trod enc prog W 0 (fun _=>true) true m 3 (([c0,c1,c2,c3].drop 1).take (prog.cellsOf 3))=some x1:=hall 1 _ rfl;have h2:DataW.trod enc prog W 0 (fun _=>true) true m 3 (([c0,c1,c2,c3].drop 2).take (prog.cellsOf 3))=some x2:=hall 2 _ rfl;have h3:DataW.trod enc prog W 0 (fun _=>true) true m 39 (([c0,c1,c2,c3].drop 3).take (prog.cellsOf 39))=some x3:=hall 3 _ rfl;rw[cN9]at h0 h1 h2;rw[N6]at h3;obtain⟨a,e0,_⟩:=DataW.trod_int underlying3 h0;obtain⟨b,e1,_⟩:=DataW.trod_int underlying3 h1;obtain⟨c,e2,_⟩:=DataW.trod_int underlying3 h2;obtain⟨sl,l,e3,hr⟩:=CG h3;simp at e0 e1 e2 e3;subst e0 e1 e2 e3;exact⟨a,b,c,c3,l,rfl,hr⟩
theorem zC {fuel:Nat}{cs:List Value}{y:DataW H×List MemPlace}(h:DataW.trod enc prog W 0 (fun _=>true) true fuel 9 cs=some y): ∃s:List UInt8,cs=[j6 s]/\s.length<=9223372036854775807:=by
 obtain⟨s,e,_,hs⟩:=DataW.trod_string underlying9 h;refine⟨s.data.toList,by rw[e];rfl,?_⟩;unfold maxLen at hs;have:s.data.toList.length=s.size:=bO;omega
theorem JH (fuel:Nat)(cs:List Value)(y:DataW H×List MemPlace)(h:DataW.trod enc prog W 0 (fun _=>true) true fuel 45 cs=some y): ∃u:Cm×Value×Value,cs.length=13/\((∀k,(fun k:Nat=>cs[k]?) k=(doC u.1 u.2.1 u.2.2).toList[k]?)/\mV W u.1 u.2.1 u.2.2):=by
 obtain⟨xs,m,_,_,hl,hx,hall⟩:=DataW.trod_struct underlying45 h;rw[No]at hl
 obtain⟨x0,x1,x2,x3,x4,x5,x6,x7,rfl⟩: ∃x0 x1 x2 x3 x4 x5 x6 x7,xs=[x0,x1,x2,x3,x4,x5,x6,x7]:=by
  match xs,(show xs.length=8 from hx) with
  |[a,b,c,d,e,f,g,h],_=>exact⟨a,b,c,d,e,f,g,h,rfl⟩
 obtain⟨c0,c1,c2,c3,c4,c5,c6,c7,c8,c9,ca,cb,cc,rfl⟩: ∃c0 c1 c2 c3 c4 c5 c6 c7 c8 c9 ca cb cc,cs=[c0,c1,c2,c3,c4,c5,c6,c7,c8,c9,ca,cb,cc]:=by
  match cs,hl with
  |[a,b,c,d,e,f,g,h,i,j,k,l,m],_=>exact⟨a,b,c,d,e,f,g,h,i,j,k,l,m,rfl⟩
 generalize hL:[c0,c1,c2,c3,c4,c5,c6,c7,c8,c9,ca,cb,cc]=L at hall;have h0:DataW.trod enc prog W 0 (fun _=>true) true m 3 ((L.drop 0).take (prog.cellsOf 3))=some x0:=hall 0 _ rfl;have h1:DataW.trod enc prog W 0 (fun _=>true) true m 3 ((L.drop 1).take (prog.cellsOf 3))=some x1:=hall 1 _ rfl;have h2:DataW.trod enc prog W 0 (fun _=>true) true m 3 ((L.drop 2).take (prog.cellsOf 3))=some x2:=hall 2 _ rfl;have h3:DataW.trod enc prog W 0 (fun _=>true) true m 3 ((L.drop 3).take (prog.cellsOf 3))=some x3:=hall 3 _ rfl;have h4:DataW.trod enc prog W 0 (fun _=>true) true m 9 ((L.drop 4).take (prog.cellsOf 9))=some x4:=hall 4 _ rfl;have h5:DataW.trod enc prog W 0 (fun _=>true) true m 9 ((L.drop 5).take (prog.cellsOf 9))=some x5:=hall 5 _ rfl;have h6:DataW.trod enc prog W 0 (fun _=>true) true m 41 ((L.drop 6).take (prog.cellsOf 41))=some x6:=hall 6 _ rfl;have h7:DataW.trod enc prog W 0 (fun _=>true) true m 36 ((L.drop 10).take (prog.cellsOf 36))=some x7:=hall 7 _ rfl;rw[cN9]at h0 h1 h2 h3;rw[OF]at h4 h5;rw[Nm]at h6;rw[Nn]at h7;subst hL;obtain⟨z0,e0,_⟩:=DataW.trod_int underlying3 h0;obtain⟨z1,e1,_⟩:=DataW.trod_int underlying3 h1;obtain⟨z2,e2,_⟩:=DataW.trod_int underlying3 h2;obtain⟨z3,e3,_⟩:=DataW.trod_int underlying3 h3;obtain⟨s4,e4,l4⟩:=zC h4;obtain⟨s5,e5,l5⟩:=zC h5;obtain⟨a6,b6,d6,r6,l6,e6,q6⟩:=JG h6;obtain⟨a7,b7,w7,l7,e7,q7,k7⟩:=E4 h7;simp at e0 e1 e2 e3 e4 e5 e6 e7;refine⟨(⟨z0,z1,z2,z3,s4,s5,⟨a6,b6,d6,l6⟩,a7,b7,l7⟩,r6,w7),rfl,fun k=> ?_,q6,q7,l4,l5,k7⟩;simp only[e0,e1,e2,e3,e4,e5,e6,e7];rfl
theorem JI {r:Reach}{b0:Nat}{v:Value}{d:DataW H}{q:List MemPlace}(hv:Value.okWide prog W r b0 22 v)(h:DataW.Trod enc prog W 0 (fun _=>true) true 22 v d q): ∃cs,mW W v cs:=by
 obtain⟨ao,k0,c0,rfl⟩:=okWide_slice underlying22 hv;obtain⟨fuel,hf⟩:=h;obtain⟨p,len,cap,us,e,hl,hn,hall⟩:=vE ((⟨0,0,0,0,[],[],sv0,0,0,[]⟩,af,af):Cm×Value×Value) (Q:=fun c u=>(∀k,c k=(doC u.1 u.2.1 u.2.2).toList[k]?)/\mV W u.1 u.2.1 u.2.2) underlying22 No (by decide) JH hf;have e':Value.slice ao k0 c0= .slice p len cap:=by simpa[Value.cells] using e
 refine⟨us,p,cap,by rw[e',hl],by rw[hl];exact hn,fun j u hj=> ?_⟩;obtain⟨g,o,hp,c,hcl,hcc,q0,q1⟩:=hall j u hj;exact⟨q1,g,o,hp,fun k x hk=>hcc k x ((q0 k).trans hk)⟩
theorem JJ {W':World}{v:Value}{d:DataW H}{p:List MemPlace}(h:DataW.Trod enc prog W 0 (fun _=>true) true 22 v d p)(hb:Below W.heap.size W W')(hlt: ∀x∈p,x.block<W.heap.size):DataW.Trod enc prog W' 0 (fun b=>decide (b<W.heap.size)) true 22 v d p:=
 Below.trod (by kernel_rfl) (by kernel_rfl) (fD (by kernel_rfl)) h hb hlt
end
section
open Go.ChangeShapes Go.WideShapes Go.ChangeAt Go.WideMaps Go.WideElems Go.RowKit Go.Joins Lx Msk
abbrev ut:List (String×DataW Unit):=Rows.deskClashRow.laid
def J6:String:=(Rows.deskClashRow.laid.headD default).1
def Np:String:=(Rows.deskClashRow.laid.getD 1 default).1
def OG:String:=(Rows.deskClashRow.laid.getD 2 default).1
def sd:List Int:=Lib.deBruijn64tab.map fun(n:Nat)=>(n:Int)
theorem own3:ownKnob prog.godebug=none:=by kernel_rfl
theorem Hz:prog.globalNamed J6=some 1:=by kernel_rfl
theorem Nq:(prog.globals[1]?).map (·.type)=some 273:=by kernel_rfl
theorem J7:prog.globalNamed Np=some 0:=by kernel_rfl
theorem N7:(prog.globals[0]?).map (·.type)=some 268:=by kernel_rfl
theorem J8:prog.globalNamed OG=some 3:=by kernel_rfl
theorem N8:(prog.globals[3]?).map (·.type)=some 284:=by kernel_rfl
theorem cI3:prog.cellsOf 3=1:=by kernel_rfl
theorem cB3:prog.cellsOf 5=1:=by kernel_rfl
theorem cT3:prog.cellsOf 273=64:=by kernel_rfl
theorem cL3:prog.cellsOf 268=12:=by kernel_rfl
theorem cS3:prog.cellsOf 9=1:=by kernel_rfl
theorem cD3:prog.cellsOf 284=7:=by kernel_rfl
theorem H2 (os:Os)(args:Array Value):laidMetH prog ut ((World.doorLaid prog 400 os).forCall (fun _ _=>0) ⟨#[],args,[]⟩).memory:=
 laidMetH_of_parts3 (fuel:=8) (laidMet_of_run' 8 (by kernel_rfl) (by kernel_rfl)) (by kernel_rfl) (by kernel_rfl)
theorem H3 {H:Type}{enc:TypeId×Value->H}{P:Program}{w:World}{base:Nat}{sp:Nat->Bool}{held:Bool}{t e:TypeId}{n:Nat}{cs:List Value}{zs:List (List UInt8)}{p:List MemPlace}(ht:P.underlying t=some (.array n e))(he:P.underlying e=some .string)(hce:P.cellsOf e=1)(hct:P.cellsOf t=n):
  ∀fuel,DataW.trod enc P w base sp held fuel t cs=some (.agg (zs.map fun z=> .lit (.string z)),p)-> ∀(i:Nat) (z:List UInt8),zs[i]? =some z->cs[i]? =some (.string ⟨z.toArray⟩)
 |0,h,_,_,_=>by simp[DataW.trod]at h
 |fuel+1,h,i,z,hz=>by
  simp only[DataW.trod,ht,hce,hct,Nat.mul_one]at h;split at h
  ·obtain⟨xs,hm,hx⟩:=d8.1 h;have h1:xs.map (fun x=>x.1)=zs.map fun z=>(DataW.lit (.string z):DataW H):=(by simpa using congrArg Prod.fst hx);have h2:(xs.map fun x=>x.1)[i]? =some (DataW.lit (.string z):DataW H):=(by rw[h1,a8,hz];rfl);rw[a8]at h2;obtain⟨x,hx1,hx2⟩:=d8.1 h2
   have hin:i<n:=by
    have a:=(aE.1 hx1).1;have b:=Lib.mapM_length hm;simp at b;omega
   obtain⟨b,hb,hf⟩:=Lib.mapM_at hm i i (by simp[hin]);obtain⟨s,hc,rfl,_⟩:=DataW.trod_string he hf;rw[hb]at hx1;obtain rfl:=aL hx1;have hs:s.data.toList=z:=(by simpa using hx2);have h3:=congrArg (fun l:List Value=>l[0]?) hc;have h4:cs[i]? =some (.string s):=(by simpa[ja,List.getElem?_drop] using h3);rw[h4,<-hs]
  ·cases h
theorem zK {W:World}(h:laidMetH prog ut W):Tab W/\fZ W/\pH W:=by
 rw[MakeChecks.laidMetH_plain _ _ _ (by kernel_rfl)]at h;obtain⟨ps,⟨g1,t1,cs1,fuel1,p1,q1,hg1,ht1,hv1,hd1,⟨g2,t2,cs2,fuel2,p2,q2,hg2,ht2,hv2,hd2,⟨g3,t3,cs3,fuel3,p3,q3,hg3,ht3,hv3,hd3,_,_⟩,_⟩,_⟩,_⟩:=h;obtain rfl:=aL (Hz.symm.trans hg1);obtain rfl:=aL (Nq.symm.trans ht1);obtain rfl:=aL (J7.symm.trans hg2);obtain rfl:=aL (N7.symm.trans ht2);obtain rfl:=aL (J8.symm.trans hg3);obtain rfl:=aL (N8.symm.trans ht3);refine⟨?_,?_,?_⟩
 ·have e1:=Lib.cells_of_tab (zs:=sd) underlying273 underlying5 cB3 cT3 hd1
  have t:Lib.TabIs prog W J6 .u8 sd:=by
   unfold Lib.TabIs;rw[<-e1];exact hv1
  intro i hi;have:=t.cell Hz i (by simpa[sd,Lib.deBruijn64tab] using hi);rw[this];have hl:i<Lib.deBruijn64tab.length:=(by simpa[Lib.deBruijn64tab] using hi);simp[sd,List.getD,hl]
 ·have e2:=Lib.cells_of_tab (zs:=tab) underlying268 underlying3 cI3 cL3 hd2
  have t:Lib.TabIs prog W Np .i64 tab:=by
   unfold Lib.TabIs;rw[<-e2];exact hv2
  intro i hi;exact t.cell J7 i (by simpa[tab] using hi)
 ·intro j hj
  have hz:fg[j]? =some (fg.getD j []):=by
   rw[dE,ax (by exact hj)];rfl
  have hc:=H3 (zs:=fg) underlying284 underlying9 cS3 cD3 fuel3 hd3 j _ hz;have:=World.var?_cell J8 hv3 j;rw[this];simpa using hc
end
section
open Go.ChangeShapes Go.WideShapes Go.ChangeAt Go.WideMaps Go.WideElems Go.RowKit Go.Joins Lx Msk
theorem CH {W:World}(h:laidMetH prog ut W):Tbs W.heap.size W:=fun W' hb=>by
 obtain⟨a,b,c⟩:=zK h;exact⟨fun i hi=>(hb.cell (bJ (b i hi))).trans (b i hi),fun i hi=>(hb.cell (bJ (c i hi))).trans (c i hi),fun i hi=>(hb.cell (bJ (a i hi))).trans (a i hi)⟩
end
end Go.Proofs.YtkfidffapdhbhaaGreatDoor
