/- Texts of the proof. -/
import Derived.Test.YtjkilacmkbmmbaaGreatDoorPt37
set_option maxRecDepth 100000
set_option maxHeartbeats 8000000
namespace Go.Proofs.YtjkilacmkbmmbaaGreatDoor
open Go.Proofs.Tryz Go.RowKit Lx Vx Mx Msk
section
def pz:List UInt8:=[112,97,117,115,101]
def bE (a d:Int):Ex:=⟨7,0,0,[],[oE a d,⟨10,0,0,pz,[]⟩]⟩
def bL (a b c d:Int):List Ru:=[([97],bE a d),(pz,oE b c)]
def bT (a b c d:Int):List UInt8:=gH++32::([97]++32::61::32::(clockL a++45::(clockL d++32::45::32::(pz++59::32::(gH++32::(pz++32::61::32::(clockL b++45::(clockL c++[59]))))))))
theorem ME (a b c d:Int):(bT a b c d).length=55:=by simp[bT,clockL,pad2,gH,pz]
section
variable {a b c d:Int} (h:0<=a/\a<b/\b<c/\c<d/\d<=1440)
theorem P8 (h:0<=a/\a<b/\b<c/\c<d/\d<=1440):jn (bT a b c d)=(0,bL a b c d):=by
 have g1:=uD (x:=[97]) (by decide) ⟨97,[],rfl,by decide⟩ (clockL a++45::(clockL d++32::45::32::(pz++59::32::(gH++32::(pz++32::61::32::(clockL b++45::(clockL c++[59])))))));rw[tg h.1 (by omega)]at g1;have g2:=ti h.1 (by omega:a<=1440) (by omega:0<=d) h.2.2.2.2 (32::45::32::(pz++59::32::(gH++32::(pz++32::61::32::(clockL b++45::(clockL c++[59]))))));have g3:=pL (c:=45) (32::(pz++59::32::(gH++32::(pz++32::61::32::(clockL b++45::(clockL c++[59])))))) (by decide) (by decide) (by decide) (by decide);have g4:=Br (x:=pz) (by decide) (r:=59::32::(gH++32::(pz++32::61::32::(clockL b++45::(clockL c++[59]))))) (by rintro c q h;cases h;decide);have g5:=pL (c:=59) (32::(gH++32::(pz++32::61::32::(clockL b++45::(clockL c++[59]))))) (by decide) (by decide) (by decide) (by decide);have g6:=uD (x:=pz) (by decide) ⟨112,_,rfl,by decide⟩ (clockL b++45::(clockL c++[59]));rw[tg (by omega:0<=b) (by omega)]at g6;have g7:=ti (by omega:0<=b) (by omega) (by omega:0<=c) (by omega) [59];have g:=g1.trans (g2.trans (g3.trans (g4.trans (g5.trans (g6.trans (g7.trans DC))))));refine Fs (ts:=[wdT gH,nmT [97],sgT 61,tmT a,sgT 45,tmT d,sgT 45,nmT pz,sgT 59,wdT gH,nmT pz,sgT 61,tmT b,sgT 45,tmT c,sgT 59]) (by rw[ME];decide) g fun us hu=> ?_;match us,hu with
 |[(_,p0),(_,p1),(_,p2),(_,p3),(_,p4),(_,p5),(_,p6),(_,p7),(_,p8),(_,p9),(_,q0),(_,q1),(_,q2),(_,q3),(_,q4),(_,q5)],hu=>
  simp only[bV,dU,List.cons.injEq,and_true]at hu;obtain⟨rfl,rfl,rfl,rfl,rfl,rfl,rfl,rfl,rfl,rfl,rfl,rfl,rfl,rfl,rfl,rfl⟩:=hu;show gu _ 17 [] _=_;generalize hE:(bT a b c d).length=E;generalize hR:[(wdT gH,p9),(nmT pz,q0),(sgT 61,q1),(tmT b,q2),(sgT 45,q3),(tmT c,q4),(sgT 59,q5)]=R
  have e:rd E 0 1 ex0 ((tmT a,p3)::(sgT 45,p4)::(tmT d,p5)::(sgT 45,p6)::(nmT pz,p7)::(sgT 59,p8)::R) 0= .ok (bE a d,(sgT 59,p8)::R,3):=by
   have hb: ¬d<a+1:=(by omega);simp[FE,FG,FH,B6,B5,B4,zb,c8,dp,isT,textP,kindP,numP,mx,fP,qA,jJ,jc,iG,iX,jQ,kO,tmT,sgT,nmT,pz,hb,oE,bE]
  have e2:kJ E ((nmT [97],p1)::(sgT 61,p2)::(tmT a,p3)::(sgT 45,p4)::(tmT d,p5)::(sgT 45,p6)::(nmT pz,p7)::(sgT 59,p8)::R)= .ok (([97],bE a d),R):=by
   unfold kJ;refine(aw (fun c=>c rfl)).trans ((ax (by rfl)).trans ?_);simp only[List.tail_cons,e];refine(aw (by rw[ng];unfold bE oE;simp only[pA,we,xo];decide)).trans ((ax (by rfl)).trans ?_);rfl
  have f:rd E 0 1 ex0 [(tmT b,q2),(sgT 45,q3),(tmT c,q4),(sgT 59,q5)] 0= .ok (oE b c,[(sgT 59,q5)],1):=by
   have hb: ¬c<b+1:=(by omega);simp[FE,FG,FH,B6,B5,B4,zb,c8,dp,isT,textP,kindP,numP,mx,fP,qA,jJ,jc,iG,iX,jQ,kO,tmT,sgT,hb,oE]
  have f2:kJ E [(nmT pz,q0),(sgT 61,q1),(tmT b,q2),(sgT 45,q3),(tmT c,q4),(sgT 59,q5)]= .ok ((pz,oE b c),[]):=by
   unfold kJ;refine(aw (fun c=>c rfl)).trans ((ax (by rfl)).trans ?_);simp only[List.tail_cons,f];refine(aw (by unfold oE;rw[xo];decide)).trans ((ax (by rfl)).trans ?_);rfl
  unfold gu;refine(aw (by simp)).trans ((ax (by rfl)).trans ((aw (by simp)).trans ?_));simp only[List.tail_cons,e2];rw[<-hR];unfold gu;refine(aw (by simp)).trans ((ax (by rfl)).trans ((aw (by simp)).trans ?_));simp only[List.tail_cons,f2];rfl
end
theorem Ov {a b:Int}(h:0<=a/\a<b/\b<=1440):aloneP (oE a b)=0:=by simp[aloneP,oE,kidsP,rangeP,h]
theorem Q5 (a b:Int):nms (oE a b)=[]:=by simp[oE,kh,iZ]
theorem BO (a b c d:Int):fg (bL a b c d) ([97],bE a d)=[1]/\fg (bL a b c d) (pz,oE b c)=[]:=by
 have e:nms (bE a d)=[pz]:=by simp[bE,kh,iZ,oE]
 unfold fg;dsimp only;rw[e,Q5];exact⟨rfl,rfl⟩
theorem P9 (a b c d:Int):ik (bL a b c d)=fun i=>if i=0 then [1] else []:=by
 funext i;match i with
 |0=>exact(lO rfl).trans (by rw[(BO a b c d).1];rfl)
 |1=>exact(lO rfl).trans (by rw[(BO a b c d).2];rfl)
 |i+2=>rfl
theorem He {a b c d:Int}(h:0<=a/\a<b/\b<c/\c<d/\d<=1440):di (bL a b c d)=(0,0):=by
 have lt2: ∀i,i<(bL a b c d).length->i=0\/i=1:=fun i hi=>by
  have:i<2:=hi;omega
 have sO: ∀{x y:Int} (n:Nat),0<=x/\x<y/\y<=1440->n<600-> ∀deep,deep<=40->shapeP (oE x y) deep n=(0,n+1):=fun n hx hn deep hd=>by
  rw[gU,aw (by omega),aw (by simp[Ov hx])];rfl
 have sN:shapeP ⟨10,0,0,pz,[]⟩ 2 2=(0,3):=by
  have:aloneP ⟨10,0,0,pz,[]⟩=0:=(by decide);rw[gU,aw (by decide),aw (by simp[this])];rfl
 have s1:(shapeP (bE a d) 1 0).1=0:=by
  have:aloneP (bE a d)=0:=(by simp[aloneP,bE,kidsP,rangeP]);rw[gU,aw (by decide),aw (by simp[this])];unfold gy bE;simp only[List.foldl_cons,List.foldl_nil];simp[sO 1 (by omega:0<=a/\a<d/\d<=1440) (by decide) 2 (by decide),sN]
 have s2:(shapeP (oE b c) 1 0).1=0:=by rw[sO 0 (by omega) (by decide) 1 (by decide)]
 refine xR ?_ ?_ ?_ ?_
 ·unfold fH bL iI iI iI ruleP;dsimp only;rw[s1,s2];rfl
 ·intro i hi;rcases lt2 i hi with rfl|rfl<;>rfl
 ·intro i hi;rcases lt2 i hi with rfl|rfl
  ·show decide (-1∈fg (bL a b c d) ([97],bE a d))=false;rw[(BO a b c d).1];decide
  ·show decide (-1∈fg (bL a b c d) (pz,oE b c))=false;rw[(BO a b c d).2];decide
 ·intro i hi;unfold lk3;rw[P9];rcases lt2 i hi with rfl|rfl<;>rfl
theorem Q6 {a b c d:Int}(h:0<=a/\a<b/\b<c/\c<d/\d<=1440):gL (bL a b c d)=(0,0):=by
 have hs: ∀x y,stdE (oE x y)=true:=fun x y=>by rw[mg];rfl
 have hn:stdE (bE a d)=false:=by
  rw[mg];have:stdE ⟨10,0,0,pz,[]⟩=false:=(by rw[mg];rfl);simp[bE,this]
 have k0:(ff (bL a b c d)).getD 0 []=[⟨1,0,0,0,rs (mnE (oE a d)) 1440⟩,⟨8,1,0,0,[]⟩,⟨3,0,0,0,[]⟩]:=by
  rw[kH (u:=([97],bE a d)) rfl,pF hn (.inr (.inl rfl)) rfl,lh (hs a d),mT rfl];rfl
 have k1:(ff (bL a b c d)).getD 1 []=[⟨1,0,0,0,rs (mnE (oE b c)) 1440⟩]:=by rw[kH (u:=(pz,oE b c)) rfl,lh (hs b c)]
 have hc:(di (bL a b c d)).1=0:=by rw[He h]
 have m1:fo (bL a b c d) 1=(1,1):=by
  rw[oO hc (by show 1<2;decide)];unfold li;rw[k1];rfl
 have m0:fo (bL a b c d) 0=(2,4):=by
  rw[oO hc (by show 0<2;decide)];unfold li;rw[k0];have hw:(eN (ff (bL a b c d)) (fo (bL a b c d))).getD 1 cd0=⟨(ff (bL a b c d)).getD 1 [],1,1⟩:=(by rw[lV (by rw[lX];show 1<2;decide),m1]);rw[dQ]at hw;simp[mxH,stS,hAt,eff,hw];decide
 unfold gL;rw[He h,aw (by decide)]
 have:iC (fo (bL a b c d)) (bL a b c d).length 0= -1:=by
  show iC (fo (bL a b c d)) 2 0= -1;unfold iC iC iC;rw[m0,aw (by decide),m1,aw (by decide)]
 rw[this,aw (by decide)]
theorem Qa {a b c d:Int}(h:0<=a/\a<b/\b<c/\c<d/\d<=1440):fN (bT a b c d)=(0,bL a b c d):=by
 unfold fN;rw[P8 h];refine(aw fun c=>c rfl).trans ?_;dsimp only;rw[Q6 h]
theorem Qb {a b c d:Int}(h:0<=a/\a<b/\b<c/\c<d/\d<=1440)(wk:Int->Bool)(day:Int):meanP (bL a b c d) wk day 0=fun i=>(fM a d i&& !fM b c i)&&decide (i<1440):=by
 have hc:(di (bL a b c d)).1=0:=by rw[He h]
 have e1:meanP (bL a b c d) wk day 1=fM b c:=by
  rw[kG hc (u:=(pz,oE b c)) rfl,fL];rfl
 rw[kG hc (u:=([97],bE a d)) rfl,fL];show lG _ _ 7 0 0 _ ([oE a d,⟨10,0,0,pz,[]⟩].map _)=_;rw[bV,bV,dU,fL,fL];funext i;show((fM a d i&& !(meanP (bL a b c d) wk day 1) i)&&decide (i<1440))=_;rw[e1]
end
theorem Qc {a b c d len day:Int}(h:0<=a/\a<b/\b<c/\c<d/\d<=1440)(hl:1<=len/\len<=1440)(h0:0<=day)(h1:day+1<=146097):(ph (c1 (bL a b c d) len []) 0 day 1).1=if len<=b-a then⟨0,0,day,a,[0],[]⟩ else if len<=d-c then⟨0,0,day,c,[0],[]⟩ else noA 11:=by
 have hF:fS (c1 (bL a b c d) len []) 0 (day+((0:Nat):Int)) (-1)=pg (fun i=>(fM a d i&& !fM b c i)&&decide (i<1440)) (inl []):=by
  rw[xl (k:=0) (by rfl) len,Qb h]
 have hS: ∀m,SP (fun i=>(fM a d i&& !fM b c i)&&decide (i<1440)) len m↔(a<=m/\m+len<=b)\/(c<=m/\m+len<=d):=fun m=>by
  constructor
  ·rintro⟨p,q,r⟩;have h1:=r m.toNat (by omega) (by omega);have h2:=r (m+len-1).toNat (by omega) (by omega);unfold fM at h1 h2;simp only[bj,bq,Bool.not_eq_true',Bool.and_eq_false_iff,decide_eq_false_iff_not]at h1 h2;by_cases hm:m<b
   ·have h3:m+len<=b:=by
     refine jI fun hc=> ?_;have h4:=r b.toNat (by omega) (by omega);unfold fM at h4;simp only[bj,bq,Bool.not_eq_true',Bool.and_eq_false_iff,decide_eq_false_iff_not]at h4;omega
    omega
   ·omega
  ·intro hm;refine⟨by omega,by omega,fun i h1 h2=> ?_⟩;unfold fM;simp only[bj,bq,Bool.not_eq_true',Bool.and_eq_false_iff,decide_eq_false_iff_not];omega
 rcases(uB (bL a b c d) [] hl (day:=day) (days:=1) h0 h1 (by decide)).2 with⟨k,m,hk,e,e1,e2,_⟩|⟨e,e1⟩
 ·have:k=0:=by omega
  subst this;rw[hF,lC,hS]at e1;have ea:len<=b-a->m<=a:=fun q=>e2 a (by rw[hF,lC,hS];omega);have ec:len<=d-c->m<=c:=fun q=>e2 c (by rw[hF,lC,hS];omega);have ed:((0:Nat):Int)+day=day:=(by omega);refine e.trans ?_;rw[ed];by_cases q:len<=b-a
  ·rw[ax q];have:m=a:=(by have:=ea q;omega);rw[this]
  ·rw[aw q];by_cases q2:len<=d-c
   ·rw[ax q2];have:m=c:=(by have:=ec q2;omega);rw[this]
   ·omega
 ·have ha:=e1 0 (by omega) a;have hc:=e1 0 (by omega) c;rw[hF,lC,hS]at ha hc;rw[aw (by omega),aw (by omega)];exact e
theorem Ew (a b c d len:Int)(w:World)(hT:Tbs w.heap.size w):Calls prog 5 #[ag a,ag b,ag c,ag d,ag len] w fun e w'=>e= .returned (.bool true)/\ao w w':=by
 have c1:=rA w hT;have HT:=aF hT;clear hT;go_enter func5,ntmps5;go_wp2_with fail;refine c1.mono ?_;rintro e w1 ⟨rfl,b1⟩;clear c1;have HB1:=aF b1;clear b1;have H:(a<0)\/(¬a<0/\b<=a)\/(¬a<0/\ ¬b<=a/\c<=b)\/(¬a<0/\ ¬b<=a/\ ¬c<=b/\d<=c)\/(¬a<0/\ ¬b<=a/\ ¬c<=b/\ ¬d<=c/\1440<d)\/(¬a<0/\ ¬b<=a/\ ¬c<=b/\ ¬d<=c/\ ¬1440<d/\len<1)\/(¬a<0/\ ¬b<=a/\ ¬c<=b/\ ¬d<=c/\ ¬1440<d/\ ¬len<1/\1440<len)\/(¬a<0/\ ¬b<=a/\ ¬c<=b/\ ¬d<=c/\ ¬1440<d/\ ¬len<1/\ ¬1440<len):=by omega
 rcases H with g0|⟨g0,g1⟩|⟨g0,g1,g2⟩|⟨g0,g1,g2,g3⟩|⟨g0,g1,g2,g3,g4⟩|⟨g0,g1,g2,g3,g4,g5⟩|⟨g0,g1,g2,g3,g4,g5,g6⟩|⟨g0,g1,g2,g3,g4,g5,g6⟩;rotate_left 7
 ·have dA:=lD a (by omega) (by omega) w1;have dB:=lD b (by omega) (by omega) w1;have dC:=lD c (by omega) (by omega) w1;have dD:=lD d (by omega) (by omega) w1;have cO:=zX (bT a b c d) len w1 (by rw[ME];decide)
  have hA:(fw dk0 [cR (bT a b c d),cAd,cS (sv1 len),cF 0 3 1]).1[3]? =some (if len<=b-a then⟨0,0,3,a,[0],[]⟩ else if len<=d-c then⟨0,0,3,c,[0],[]⟩ else noA 11):=by
   rw[vA (Qa (by omega)) (by show(0:Int)<=0;decide) (by omega)];exact congrArg some (Qc (by omega) (by omega) (by decide) (by decide))
  have hw:IntKind.i64.wrap (b-a)=b-a:=(by rw[bz];omega);have hw2:IntKind.i64.wrap (d-c)=d-c:=(by rw[bz];omega);have HA:=aF hA;have hTe:bT a b c d=gH++32::([97]++32::61::32::(clockL a++45::(clockL d++32::45::32::(pz++59::32::(gH++32::(pz++32::61::32::(clockL b++45::(clockL c++[59])))))))):=rfl;have l1:=kB a;have l2:=kB b;have l3:=kB c;have l4:=kB d;clear hA;generalize clockL a=P at*;generalize clockL b=R at*;generalize clockL c=S at*;generalize clockL d=U at*;generalize bT a b c d=X at*;go_wp2_with fail;refine dA.mono ?_;rintro e w' ⟨rfl,rfl⟩;clear dA;go_wp2_with fail;refine dD.mono ?_;rintro e w' ⟨rfl,rfl⟩;clear dD;go_wp2_with fail;refine dB.mono ?_;rintro e w' ⟨rfl,rfl⟩;clear dB;go_wp2_with fail;refine dC.mono ?_;rintro e w' ⟨rfl,rfl⟩;clear dC;go_wp2_with fail;refine(cO _ (by rw[hTe];simp[gH,pz])).mono ?_;rintro e w2 ⟨v,rv,rfl,b2,ho⟩;clear cO hTe;have HB2:=aF (au HB1.o b2);have HO:=aF ho;have HC2:=aF b2;obtain⟨p,k,hv⟩:=dl ho.1;subst hv;have c2:=rz 0 3 1 w2;clear ho b2;go_wp2_with fail;refine c2.mono ?_;rintro e w3 ⟨rfl,b3⟩;clear c2;obtain⟨w4,h4,b4,o4,x4,r4⟩:=tb HO.o HC2.o b3 0 3 1;have HB4:=aF b4;have HO4:=aF o4;have HX:=aF x4;have HR:=aF r4;clear b4 o4 x4 r4 b3 HO;dsimp only[doC,oC,List.length]at*;go_wp2_with(refine oh rfl _ _ rfl rfl HO4.o rfl HX.o (show 0<1 by decide) HR.o (show 4<=100000 by decide) HB4.o.size ?_;intro v' w5 hO5 b5 _)
  have hb5:=HB4.o.trans b5;have HB5:=aF (au HB1.o hb5);have c3:=tf hO5 hb5 (fun W hW=>HT.o W (au HB1.o hW)) HA.o;clear hO5 hb5 b5 HB4 HO4 HX HR HA;refine c3.mono ?_;clear c3;rintro e w6 ⟨p1,p2,k1,k2,rfl,b6⟩;have HB6:=aF (au HB5.o b6);clear b6 HB5;clear l1 l2 l3 l4;by_cases q1:len<=b-a
  ·rw[ax q1];obtain⟨wZ,wC,hZ,nZ,hC,bC,nC⟩:=nbs w6 #[ag 0,ag 0,ag 0,ag 0,af,af] #[ag 0,ag 0,ag 3,ag a,.slice p1 1 k1,.slice p2 0 k2] 28;have z0:=cr 0 nC rfl;have z3:=cr 3 nC rfl;have HB7:=aF (au HB6.o bC);clear bC;dsimp only[anC,noA,List.length];go_wp2_with(refine az rfl 28 _ _ rfl _ _ rfl rfl _ _ nZ (by kernel_rfl) rfl (by simp[Value.oneCell']) ?_;rw[hC])
   go_ret;exact⟨rfl,HB7.o⟩
  ·rw[aw q1];by_cases q2:len<=d-c
   ·rw[ax q2];obtain⟨wZ,wC,hZ,nZ,hC,bC,nC⟩:=nbs w6 #[ag 0,ag 0,ag 0,ag 0,af,af] #[ag 0,ag 0,ag 3,ag c,.slice p1 1 k1,.slice p2 0 k2] 28;have z0:=cr 0 nC rfl;have z3:=cr 3 nC rfl;have HB7:=aF (au HB6.o bC);clear bC;dsimp only[anC,noA,List.length];go_wp2_with(refine az rfl 28 _ _ rfl _ _ rfl rfl _ _ nZ (by kernel_rfl) rfl (by simp[Value.oneCell']) ?_;rw[hC])
    go_ret;exact⟨rfl,HB7.o⟩
   ·rw[aw q2];obtain⟨wZ,wC,hZ,nZ,hC,bC,nC⟩:=nbs w6 #[ag 0,ag 0,ag 0,ag 0,af,af] #[ag 11,ag 0,ag 0,ag 0,.slice p1 0 k1,.slice p2 0 k2] 28;have z0:=cr 0 nC rfl;have HB7:=aF (au HB6.o bC);clear bC;dsimp only[anC,noA,List.length];go_wp2_with(refine az rfl 28 _ _ rfl _ _ rfl rfl _ _ nZ (by kernel_rfl) rfl (by simp[Value.oneCell']) ?_;rw[hC])
    go_ret;exact⟨rfl,HB7.o⟩
 all_goals
  go_wp2_with fail
  go_ret
  exact⟨rfl,HB1.o⟩
end Go.Proofs.YtjkilacmkbmmbaaGreatDoor
