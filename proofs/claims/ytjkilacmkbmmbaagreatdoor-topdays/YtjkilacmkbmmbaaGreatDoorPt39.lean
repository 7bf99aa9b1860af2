/- Texts of the proof. -/
import Derived.Test.YtjkilacmkbmmbaaGreatDoorPt36
set_option maxRecDepth 100000
set_option maxHeartbeats 8000000
namespace Go.Proofs.YtjkilacmkbmmbaaGreatDoor
open Go.Proofs.Tryz Go.RowKit Lx Vx Mx Msk
def wkE (k:Nat):Ex:=⟨4,2^k,0,[],[oE 600 660]⟩
def wkL (k:Nat):List Ru:=[([97],wkE k)]
def wkT (k:Nat):List UInt8:=[114,117,108,101,32,97,32,61,32,119,101,101,107,108,121,32]++(wDays.getD k []++[58,32,49,48,58,48,48,45,49,49,58,48,48,59])
theorem Qd: ∀k:Nat,k<7->jn (wkT k)=(0,wkL k)
 |0,_=>by kernel_rfl
 |1,_=>by kernel_rfl
 |2,_=>by kernel_rfl
 |3,_=>by kernel_rfl
 |4,_=>by kernel_rfl
 |5,_=>by kernel_rfl
 |6,_=>by kernel_rfl
 |k+7,h=>by omega
theorem MF (k:Nat):fg (wkL k) ([97],wkE k)=[]:=by
 have:nms (wkE k)=[]:=by simp[wkE,kh,iZ,oE]
 unfold fg;dsimp only;rw[this];rfl
theorem Qe (k:Nat):ik (wkL k)=fun _=>[]:=by
 funext i;match i with
 |0=>exact(lO rfl).trans (by rw[MF];rfl)
 |i+1=>rfl
theorem Q7: ∀k:Nat,k<7->(1:Int)<=2^k/\(2:Int)^k<128
 |0,_=>by decide
 |1,_=>by decide
 |2,_=>by decide
 |3,_=>by decide
 |4,_=>by decide
 |5,_=>by decide
 |6,_=>by decide
 |k+7,h=>by omega
theorem Hh {k:Nat}(hk:k<7):di (wkL k)=(0,0):=by
 have hp:=Q7 k hk
 have s0:shapeP (oE 600 660) 2 1=(0,2):=by
  rw[gU,aw (by decide),aw (by decide)];rfl
 have s1:(shapeP (wkE k) 1 0).1=0:=by
  have:aloneP (wkE k)=0:=(by simp[aloneP,wkE,kidsP,rangeP,hp]);rw[gU,aw (by decide),aw (by simp[this])];unfold gy wkE;simp only[List.foldl_cons,List.foldl_nil];rw[aw (by decide),s0]
 have l0: ∀i,i<(wkL k).length->i=0:=fun i hi=>by
  have:i<1:=hi;omega
 refine xR ?_ ?_ ?_ ?_
 ·unfold fH wkL iI ruleP;dsimp only;rw[s1];rfl
 ·intro i hi;cases l0 i hi;rfl
 ·intro i hi;cases l0 i hi;show decide (-1∈fg (wkL k) ([97],wkE k))=false;rw[MF];decide
 ·intro i hi;unfold lk3;rw[Qe];cases l0 i hi;rfl
theorem Q8 {k:Nat}(hk:k<7):gL (wkL k)=(0,0):=by
 have hs:stdE (oE 600 660)=true:=by rw[mg];rfl
 have c0:(ff (wkL k)).getD 0 []=[⟨6,2^k,0,2,[]⟩,⟨1,0,0,0,rs (mnE (oE 600 660)) 1440⟩]:=by
  rw[kH (u:=([97],wkE k)) rfl,mU (k:=oE 600 660) rfl rfl,lh hs];rfl
 have m0:fo (wkL k) 0=(1,2):=by
  rw[oO (by rw[Hh hk]) (by show 0<1;decide)];unfold li;rw[c0];rfl
 unfold gL;rw[Hh hk,aw (by decide)]
 have:iC (fo (wkL k)) (wkL k).length 0= -1:=by
  show iC (fo (wkL k)) 1 0= -1;unfold iC;rw[m0,aw (by decide)];rfl
 rw[this,aw (by decide)]
theorem Qf {k:Nat}(hk:k<7):fN (wkT k)=(0,wkL k):=by
 unfold fN;rw[Qd k hk];refine(aw fun c=>c rfl).trans ?_;dsimp only;rw[Q8 hk]
theorem Qg {k:Nat}(hk:k<7)(day:Int)(h0:0<=day):meanP (wkL k) (wkB day) day 0=if wkd day=k then fM 600 660 else nev:=by
 have hc:(di (wkL k)).1=0:=by rw[Hh hk]
 have hw:(wkB day (2^k)=true)↔wkd day=k:=by
  have hb:=yl day h0;obtain⟨j,hj⟩: ∃j:Nat,wkd day=(j:Int):=⟨(wkd day).toNat,by omega⟩
  unfold wkB;rw[hj,cj];have key: ∀(k j:Fin 7),(bits BinOp.and IntKind.i64 ((2:Int)^k.1/2^j.1) 1==1)=decide (j.1=k.1):=(by decide+kernel);rw[key ⟨k,hk⟩ ⟨j,by omega⟩,bq];show j=k↔(j:Int)=(k:Int)
  omega
 rw[kG hc (u:=([97],wkE k)) rfl,fL];show lG (wkB day (2^k)) _ 4 _ _ _ ([oE 600 660].map _)=_;rw[bV,dU,fL];by_cases h:wkd day=k
 ·rw[ax h,hw.2 h];rfl
 ·rw[aw h,show wkB day (2^k)=false by simpa using fun c=>h (hw.1 c)];rfl
theorem Qh {k:Nat}(hk:k<7){day:Int}(h0:0<=day)(h1:day+7<=146097): ∃d:Int,0<=d/\d<7/\wkd (day+d)=k/\(ph (c1 (wkL k) 60 []) 0 day 7).1=⟨0,0,d+day,600,[0],[]⟩:=by
 have hF: ∀j:Nat,fS (c1 (wkL k) 60 []) 0 (day+(j:Int)) (-1)=pg (if wkd (day+j)=k then fM 600 660 else nev) (inl []):=fun j=>by
  rw[xl (k:=0) (by rfl) 60,Qg hk _ (by omega)]
 have hS: ∀m,SP (fM 600 660) 60 m↔m=600:=fun m=>by
  constructor
  ·rintro⟨a,b,c⟩;have h1:=c m.toNat (by omega) (by omega);have h2:=c (m+59).toNat (by omega) (by omega);unfold fM at h1 h2;simp only[bj,bq]at h1 h2;omega
  ·rintro rfl;refine⟨by decide,by decide,fun i h1 h2=> ?_⟩;unfold fM;simp only[bj,bq];omega
 have hN: ∀m,¬SP nev 60 m:=fun m ⟨a,b,c⟩=>by
  have h1:=c m.toNat (by omega) (by omega);cases h1
 have hw:=C2 day h0;have hb:=yl day h0;rcases(uB (wkL k) [] (len:=60) (by decide) (day:=day) (days:=7) h0 (by omega) (by decide)).2 with⟨d,m,hd,e,e1,_,_⟩|⟨_,e1⟩
 ·rw[hF,lC]at e1;by_cases q:wkd (day+d)=k
  ·rw[ax q,hS]at e1;subst e1;exact⟨d,by omega,by omega,q,e⟩
  ·rw[aw q]at e1;exact absurd e1 (hN m)
 ·exfalso;obtain⟨j,hj⟩: ∃j:Nat,(j:Int)=(k-wkd day)%7:=⟨((k-wkd day)%7).toNat,by omega⟩
  have hj7:j<7:=(by omega);have hwj:=C2 (day+j) (by omega);have:=e1 j hj7 600;rw[hF,lC,ax (by omega)]at this;exact this ((hS 600).2 rfl)
theorem Ow: ∀k:Nat,k<7->(wkT k).length=33
 |0,_=>rfl
 |1,_=>rfl
 |2,_=>rfl
 |3,_=>rfl
 |4,_=>rfl
 |5,_=>rfl
 |6,_=>rfl
 |k+7,h=>by omega
theorem Mf: ∀k:Nat,k<7->(wDays.getD k []).length=3
 |0,_=>rfl
 |1,_=>rfl
 |2,_=>rfl
 |3,_=>rfl
 |4,_=>rfl
 |5,_=>rfl
 |6,_=>rfl
 |k+7,h=>by omega
def wC7:Array Value:= #[.string ⟨#[109,111,110]⟩,.string ⟨#[116,117,101]⟩,.string ⟨#[119,101,100]⟩,.string ⟨#[116,104,117]⟩,.string ⟨#[102,114,105]⟩,.string ⟨#[115,97,116]⟩,.string ⟨#[115,117,110]⟩]
theorem Qi: ∀k:Nat,k<7->wC7[k]? =some (.string ⟨(wDays.getD k []).toArray⟩)
 |0,_=>rfl
 |1,_=>rfl
 |2,_=>rfl
 |3,_=>rfl
 |4,_=>rfl
 |5,_=>rfl
 |6,_=>rfl
 |k+7,h=>by omega
theorem Hi (which day:Int)(w:World)(hT:Tbs w.heap.size w):Calls prog 6 #[ag which,ag day] w fun e w'=>e= .returned (.bool true)/\ao w w':=by
 have c1:=rA w hT;have HT:=aF hT;clear hT;go_enter func6,ntmps6;go_wp2_with fail;refine c1.mono ?_;rintro e w0 ⟨rfl,b0⟩;clear c1;have HB0:=aF b0;clear b0;have H:(which<0)\/(¬which<0/\6<which)\/(¬which<0/\ ¬6<which/\day<0)\/(¬which<0/\ ¬6<which/\ ¬day<0/\146090<day)\/(¬which<0/\ ¬6<which/\ ¬day<0/\ ¬146090<day):=by omega
 rcases H with g0|⟨g0,g1⟩|⟨g0,g1,g2⟩|⟨g0,g1,g2,g3⟩|⟨g0,g1,g2,g3⟩;rotate_left 4
 ·obtain⟨n,hn⟩: ∃n:Nat,which=(n:Int):=⟨which.toNat,by omega⟩
  subst hn;have hn7:n<7:=(by omega);obtain⟨w1,h1,b1,n1⟩:=nb w0 wC7 9;have y1:=cr n n1 (Qi n hn7);have HB1:=aF (au HB0.o b1);have cO:=zX (wkT n) 60 w1 (by rw[Ow n hn7];decide);obtain⟨dd,d0,d7,dw,df⟩:=Qh hn7 (day:=day) (by omega) (by omega)
  have hA:(fw dk0 [cR (wkT n),cAd,cS (sv1 60),cF 0 day 7]).1[3]? =some ⟨0,0,dd+day,600,[0],[]⟩:=by
   rw[vA (Qf hn7) (by show 0<=(0:Int);decide) (by decide),df]
  have cW:=fun W=>Mp (dd+day) W (by omega) (by omega);rw[show dd+day=day+dd by omega,dw]at cW;rw[show dd+day=day+dd by omega]at hA;have hw:IntKind.i64.wrap (day+7)=day+7:=(by rw[bz];omega);have HA:=aF hA;have HW:=aF cW;have hTe:wkT n=[114,117,108,101,32,97,32,61,32,119,101,101,107,108,121,32]++(wDays.getD n []++[58,32,49,48,58,48,48,45,49,49,58,48,48,59]):=rfl;have l1:=Mf n hn7;have e3:day<=day+dd:=(by omega);have e4:day+dd<day+7:=(by omega);clear hA df dw cW b1;generalize wDays.getD n []=P at*;generalize wkT n=X at*;generalize day+dd=D at*;unfold wC7 at h1 n1;go_wp2_with fail;refine(cO _ (by rw[hTe];simp)).mono ?_;rintro e w2 ⟨v,rv,rfl,b2,ho⟩;clear cO hTe;have HB2:=aF (au HB1.o b2);have HO:=aF ho;have HC2:=aF b2;obtain⟨p,k,hv⟩:=dl ho.1;subst hv;have c2:=rz 0 day 7 w2;clear ho b2;go_wp2_with fail;refine c2.mono ?_;rintro e w3 ⟨rfl,b3⟩;clear c2;obtain⟨w4,h4,b4,o4,x4,r4⟩:=tb HO.o HC2.o b3 0 day 7;have HB4:=aF b4;have HO4:=aF o4;have HX:=aF x4;have HR:=aF r4;clear b4 o4 x4 r4 b3 HO;dsimp only[doC,oC,List.length]at*;go_wp2_with(refine oh rfl _ _ rfl rfl HO4.o rfl HX.o (show 0<1 by decide) HR.o (show 4<=100000 by decide) HB4.o.size ?_;intro v' w5 hO5 b5 _)
  have hb5:=HB4.o.trans b5;have HB5:=aF (au HB1.o hb5);have c3:=tf hO5 hb5 (fun W hW=>HT.o W (au HB1.o hW)) HA.o;clear hO5 hb5 b5 HB4 HO4 HX HR HA;refine c3.mono ?_;clear c3;rintro e w6 ⟨p1,p2,k1,k2,rfl,b6⟩;have HB6:=aF (au HB5.o b6);clear b6 HB5;clear l1;obtain⟨wZ,wC,hZ,nZ,hC,bC,nC⟩:=nbs w6 #[ag 0,ag 0,ag 0,ag 0,af,af] #[ag 0,ag 0,ag D,ag 600,.slice p1 1 k1,.slice p2 0 k2] 28;have z0:=cr 0 nC rfl;have z2:=cr 2 nC rfl;have z3:=cr 3 nC rfl;have HB7:=aF (au HB6.o bC);clear bC;dsimp only[anC,noA,List.length];go_wp2_with(refine az rfl 28 _ _ rfl _ _ rfl rfl _ _ nZ (by kernel_rfl) rfl (by simp[Value.oneCell']) ?_;rw[hC])
  refine(HW.o _).mono ?_;rintro e w' ⟨rfl,rfl⟩;go_wp2_with fail;go_ret;exact⟨rfl,HB7.o⟩
 all_goals
  go_wp2_with fail
  go_ret
  exact⟨rfl,HB0.o⟩
end Go.Proofs.YtjkilacmkbmmbaaGreatDoor
