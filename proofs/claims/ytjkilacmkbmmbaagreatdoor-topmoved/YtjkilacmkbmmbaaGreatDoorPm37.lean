/- Texts of the proof. -/
import Derived.Test.YtjkilacmkbmmbaaGreatDoorPm36
import Derived.Test.YtjkilacmkbmmbaaGreatDoorCards
import Derived.Test.YtjkilacmkbmmbaaGreatDoorTie
import Derived.LaidMore
import Derived.SevenTiedAt
import Derived.Lib.SmallJoins
set_option maxRecDepth 100000
set_option maxHeartbeats 8000000
namespace Go.Proofs.YtjkilacmkbmmbaaGreatDoor
open Go.Proofs.Tryz Go.RowKit Lx Vx Mx Msk
def apX (len day m:Int):Ap:=⟨1,10,m,m+len,0,0,0,len,day,m,[0]⟩
def cHd (day m:Int)(who:List Int):Cm:=⟨5,0,0,0,[],[],sv0,day,m,who⟩
def cMv (day m:Int)(who:List Int):Cm:=⟨8,0,0,0,[],[],sv0,day,m,who⟩
theorem zY {M:M}{T:List (Int×Int)}{x y:Int}:fI (kZ M (inl T)) x y=true↔0<=x/\y<=1440/\x<=y/\ ∀i:Nat,x<=(i:Int)->(i:Int)<y->M i=true/\inl T i=false:=by
 rw[zO];refine and_congr_right fun h0=>and_congr_right fun h1=>and_congr_right fun h2=>forall_congr' fun i=>imp_congr_right fun a=>imp_congr_right fun b=> ?_;unfold kZ;rw[ba (by omega:i<1440)];simp
theorem Ij {L:List Ru}{len:Int}{aps:List Ap}{n day m x0 x1 x3 x4:Int}{w0:List Int}{st left:Int}(_:0<=len)(hd:0<=day/\day<146097)(hm:0<=m/\m<1440/\m+len<=1440):js (c1 L len aps) n ⟨st,left,x0,x1,0,0,0,len,x3,x4,w0⟩ day m [0]=if fI (fS (c1 L len aps) 0 day n) m (m+len)=true then(⟨st,left,m,m+len,0,0,0,len,day,m,[0]⟩,0) else(ap0,10):=by
 have i1: ¬(isN day 146097=false\/isN m 1440=false):=by
  rintro(q|q)<;>simp[isN]at q<;>omega
 have i2: ¬(m-0<0\/1440<m+len+0):=by omega
 have i3: ¬jG [0] ((c1 L len aps).svs.getD (Int.toNat 0) sv0).roles≠0:=by
  have:jG [0] [[0]]=0:=(by decide);exact fun c=>c this
 unfold js;refine(aw i1).trans ((aw i2).trans ((aw i3).trans ?_));rw[show m-0=m by omega,show m+len+0=m+len by omega];by_cases q:fI (fS (c1 L len aps) 0 day n) m (m+len)=true
 ·rw[az q,aw (by simp[q])]
 ·rw[aw q,az (by simpa using q)]
theorem Km {L:List Ru}{len:Int}{aps:List Ap}{day m:Int}(hl:0<=len)(hd:0<=day/\day<146097)(hm:0<=m/\m<1440/\m+len<=1440)(h30:aps.length<30):doS (c1 L len aps) (cHd day m [0])=if fI (fS (c1 L len aps) 0 day (-1)) m (m+len)=true then(gT aps.length,c1 L len (aps++[apX len day m])) else(noA 10,c1 L len aps):=by
 have hp:=Ij (L:=L) (aps:=aps) (n:= -1) (st:=1) (left:=10) (x0:=0) (x1:=0)  (x3:=0) (x4:=0) (w0:=[]) hl hd hm;show E3 (c1 L len aps) 0 day m [0]=_;unfold E3;refine(aw (by show¬isN 0 1=false;decide)).trans ((aw (by show¬30<=aps.length;omega)).trans ?_);show(if(js (c1 L len aps) (-1) ⟨1,10,0,0,0,0,0,len,0,0,[]⟩ day m [0]).2≠0 then _ else _)=_;rw[show tA (c1 L len aps) 0=⟨1,10,0,0,0,0,0,len,0,0,[]⟩ from rfl,hp];by_cases q:fI (fS (c1 L len aps) 0 day (-1)) m (m+len)=true
 ·rw[az q,az q];exact aw (fun c=>c rfl)
 ·rw[aw q,aw q];exact az (by decide)
theorem Fe {a b:Int}(ha:540<=a/\a<=960)(hb:540<=b/\b<=960):(il (c1 (oL 540 1020) 60 []) [cHd 4 a [0],cMv 4 b [0],cHd 4 a [0]]).1=[gT 0,noA 0,if b>=a+60\/a>=b+60 then gT 1 else noA 10]:=by
 have hM:mS (c1 (oL 540 1020) 60 []) 0 4=fM 540 1020:=by
  show(if atP5 (oL 540 1020) [97]<0 then noM else fU (oL 540 1020) (wkB 4) 4 (atP5 (oL 540 1020) [97]).toNat)=_;rw[show atP5 (oL 540 1020) [97]=0 from rfl];exact(aw (by decide)).trans (Ia (by decide) _ _)
 have hF: ∀(aps:List Ap) (but:Int),fS (c1 (oL 540 1020) 60 aps) 0 4 but=kZ (fM 540 1020) (inl (kP 0 4 but aps 0)):=fun aps but=>by
  unfold fS;rw[show mS (c1 (oL 540 1020) 60 aps) 0 4=fM 540 1020 from hM];rfl
 have inM: ∀{x:Int} {i:Nat},540<=x/\x<=960->x<=(i:Int)->(i:Int)<x+60->fM 540 1020 i=true:=fun {x i} h h1 h2=>by
  unfold fM;simp only[bq,bz];omega
 have free: ∀x:Int,540<=x/\x<=960->fI (kZ (fM 540 1020) (inl [])) x (x+60)=true:=fun x hx=>zY.2 ⟨by omega,by omega,by omega,fun i h1 h2=>⟨inM hx h1 h2,rfl⟩⟩
 have e1:doS (c1 (oL 540 1020) 60 []) (cHd 4 a [0])=(gT 0,c1 (oL 540 1020) 60 [apX 60 4 a]):=by
  refine(Km (by decide) (by decide) (by omega) (by decide)).trans (az ?_);rw[hF];exact free a ha
 have e2:doS (c1 (oL 540 1020) 60 [apX 60 4 a]) (cMv 4 b [0])=(noA 0,c1 (oL 540 1020) 60 [apX 60 4 b]):=by
  have hp:=Ij (L:=oL 540 1020) (len:=60) (aps:=[apX 60 4 a]) (n:=0) (day:=4) (m:=b) (st:=1) (left:=10) (x0:=a) (x1:=a+60)  (x3:=4) (x4:=a) (w0:=[0]) (by decide) (by decide) (by omega)
  have ht:fI (fS (c1 (oL 540 1020) 60 [apX 60 4 a]) 0 4 0) b (b+60)=true:=by
   rw[hF];exact free b hb
  rw[az ht]at hp;show nO (c1 (oL 540 1020) 60 [apX 60 4 a]) 0 (fun x=>js (c1 (oL 540 1020) 60 [apX 60 4 a]) 0 x 4 b [0])=_;unfold nO;refine(aw (by rintro(q|q)<;>cases q)).trans ?_;show(if(js (c1 (oL 540 1020) 60 [apX 60 4 a]) 0 ⟨1,10,a,a+60,0,0,0,60,4,a,[0]⟩ 4 b [0]).2≠0 then _ else(noA 0,({c1 (oL 540 1020) 60 [apX 60 4 a] with aps:=[apX 60 4 a].set 0 (js (c1 (oL 540 1020) 60 [apX 60 4 a]) 0 ⟨1,10,a,a+60,0,0,0,60,4,a,[0]⟩ 4 b [0]).1}:Co)))=_;rw[hp];exact aw fun c=>c rfl
 have e3:(doS (c1 (oL 540 1020) 60 [apX 60 4 b]) (cHd 4 a [0])).1=if b>=a+60\/a>=b+60 then gT 1 else noA 10:=by
  rw[Km (L:=oL 540 1020) (len:=60) (aps:=[apX 60 4 b]) (day:=4) (m:=a) (by decide) (by decide) (by omega) (show 1<30 by decide),hF]
  have hq:fI (kZ (fM 540 1020) (inl (kP 0 4 (-1) [apX 60 4 b] 0))) a (a+60)=true↔(b>=a+60\/a>=b+60):=by
   rw[show kP 0 4 (-1) [apX 60 4 b] 0=[(b,b+60)] from rfl,zY];constructor
   ·rintro⟨_,_,_,h⟩;refine fu fun hc=> ?_;have h1:=(h (max a b).toNat (by omega) (by omega)).2;unfold inl at h1;simp only[List.any_cons,List.any_nil,Bool.or_false,Bool.and_eq_false_iff,decide_eq_false_iff_not]at h1;omega
   ·intro hc;refine⟨by omega,by omega,by omega,fun i h1 h2=>⟨inM ha h1 h2,?_⟩⟩;unfold inl;simp only[List.any_cons,List.any_nil,Bool.or_false,Bool.and_eq_false_iff,decide_eq_false_iff_not];omega
  by_cases q:b>=a+60\/a>=b+60
  ·rw[az (hq.2 q),az q];rfl
  ·rw[aw fun c=>q (hq.1 c),aw q]
 unfold il;rw[e1];unfold il;rw[e2];unfold il;rw[e3];rfl
theorem OL:prog.underlying 26=some (.struct (prog.fieldsOf 26)):=by kernel_rfl
theorem tF (m:Int)(w:World):Calls prog 20 #[ag m] w fun e w'=> ∃g,e= .returned (.agg #[ag 4,ag m,.slice (some (ae g 0)) 1 1])/\w.heap.size<=g/\w'.heap[g]? =ah #[ag 0] 3/\ao w w':=by
 obtain⟨wA,hA,bA,nA⟩:=nb w #[ag 0,ag 0,af] 26;obtain⟨wB,hB,bB,nB⟩:=nb wA #[ag 0] 3;have nA':=bt bB nA;have hne:wA.heap.size≠w.heap.size:=by have:=aF nA;omega
 have HF:=aD (aJ _ _ _ #[ag 4,ag m,.slice (some (ae wA.heap.size 0)) 1 1] _ _ nA');have HN:=aD ((aR wB w.heap.size wA.heap.size #[ag 4,ag m,.slice (some (ae wA.heap.size 0)) 1 1] hne).trans nB);have HB:=aD (below_setRow (au bA bB) (aA _) #[ag 4,ag m,.slice (some (ae wA.heap.size 0)) 1 1]);have HS:=aD bA.size;clear bA bB nA nB hne;go_enter func20,ntmps20;go_wp2_with(refine ay rfl 26 _ _ rfl _ _ rfl rfl _ _ nA' (by kernel_rfl) rfl (by simp[Value.oneCell']) ?_)
 refine aU (v:= .agg #[ag 4,ag m,.slice (some (ae wA.heap.size 0)) 1 1]) ?_ rfl ⟨_,rfl,HS.o,HN.o,HB.o⟩;exact aZ rfl _ _ w.heap.size _ _ _ _ rfl HF.o OL rfl (by kernel_rfl)
theorem Dz {w0 w1 w2:World}{v:Value}{cs:List (Cm×Value×Value)}(hO:mP w0.heap.size w1 v cs)(b1:ao w0 w1)(b2:ao w1 w2)(ds:List (Cm×Value×Value))(arr:Array Value)(ha:arr.toList=ds.flatMap fun q=>(doC q.1 q.2.1 q.2.2).toList)(hl:ds.length<=60)(hR: ∀q∈ds,Rob (fun k=>w1.heap.size<=k) (fun u=>lz u q.1 q.2.1 q.2.2) w2): ∃w3,w2.alloc (.cells arr 37)=w3/\ao w0 w3/\mP w0.heap.size w3 v cs/\mO w3 (.slice (some (ae w2.heap.size 0)) ds.length ds.length) ds/\ ∀q∈ds,Rob (fun k=>some k≠v.ownBlock) (fun u=>lz u q.1 q.2.1 q.2.2) w3:=by
 obtain⟨w3,h3,b3,n3⟩:=nb w2 arr 37;have b13:=au b2 b3
 have hR': ∀q∈ds,Rob (fun k=>some k≠v.ownBlock) (fun u=>lz u q.1 q.2.1 q.2.2) w3:=fun q hq=>((hR q hq).below b3).move (aA _) (fun _ _ _=>rfl) fun k _ hk e=>by
  have:=(hO.1.lt k e.symm).2;omega
 have hsz:arr.size=ds.length*13:=by rw[<-bO,ha,uz]
 exact⟨w3,h3,au b1 b13,hO.below b13,yo (B:=0) (by
  have:=tD (B:=0) (n:=ds.length) (m:=13) n3 (dF _) hsz (by unfold maxLen;omega);rwa[ha]at this) (fun q hq=>(hR' q hq).here) (by omega),hR'⟩
theorem vP {u:World}{g:Nat}(kd n x y:Int)(h:u.heap[g]? =ah #[ag 0] 3):lz u ⟨kd,n,0,0,[],[],sv0,x,y,[0]⟩ (af) (.slice (some (ae g 0)) 1 1):=⟨Dx,BH h,dF _,dF _,fun p n k e=>by cases e;exact aA _⟩
theorem tC.at6 {B:Nat}{W:World}{P:List An×Dk}{rv ev sv av asv:Value}{ss:List (Sv×Value)}{aa:List (Ap×Value)}{ls:List (An×Value×Value)}(h:tC B W P rv ev sv av asv ss aa ls): ∃px cx,asv= .slice px P.1.length cx/\ ∀(j:Nat) (a:An),P.1[j]? =some a-> ∃g,px=some ⟨g,0,none⟩/\W.cell? (ae g (j*6))=some (ag a.err):=by
 obtain⟨px,cx,e⟩:=bU h.ans;have hl:ls.length=P.1.length:=by rw[<-h.ane,a7]
 refine⟨px,cx,by rw[e,hl],fun j a ha=> ?_⟩;rw[<-h.ane,bg]at ha;obtain⟨q,hq,rfl⟩:=d8.1 ha;obtain⟨g,c,e1,_,r⟩:=kF (f:=fun p:An×Value×Value=>anC p.1 p.2.1 p.2.2) (fun _=>rfl) h.ans rfl hq;rw[e]at e1;injection e1 with e1;exact⟨g,e1,r 0 _ rfl⟩
theorem CM (a b:Int)(w:World)(hT:Tbs w.heap.size w):Calls prog 9 #[ag a,ag b] w fun e w'=>e= .returned (.bool true)/\ao w w':=by
 have c1:=Ii w hT;have HT:=aD hT;clear hT;go_enter func9,ntmps9;go_wp2_with fail;refine c1.mono ?_;rintro e w1 ⟨rfl,b1⟩;clear c1;have HB1:=aD b1;clear b1;have H:(a<540)\/(¬a<540/\b<540)\/(¬a<540/\ ¬b<540/\960<a)\/(¬a<540/\ ¬b<540/\ ¬960<a/\960<b)\/(¬a<540/\ ¬b<540/\ ¬960<a/\ ¬960<b):=by omega
 rcases H with g0|⟨g0,g1⟩|⟨g0,g1,g2⟩|⟨g0,g1,g2,g3⟩|⟨g0,g1,g2,g3⟩;rotate_left 4
 ·have cO:=Dy aS 60 w1 (by decide);go_wp2_with fail;refine cO.mono ?_;rintro e w2 ⟨v,rv,rfl,b2,ho⟩;clear cO;have HO:=aD ho;have HB2:=aD b2;obtain⟨p,k,hv⟩:=bU ho.1;subst hv;clear ho b2;go_wp2_with fail;refine(tF a w2).mono ?_;rintro e w3 ⟨g1,rfl,hg1,n1,b3⟩
  obtain⟨w4,h4,b4,o4,x4,r4⟩:=Dz HO.o HB2.o b3 [(cHd 4 a [0],af,.slice (some (ae g1 0)) 1 1)] #[ag 5,ag 0,ag 0,ag 0,.string ⟨#[]⟩,.string ⟨#[]⟩,ag 0,ag 0,ag 0,af,ag 4,ag a,.slice (some (ae g1 0)) 1 1] rfl (show 1<=60 by decide) (fun q hq u hu ha=>by
   cases bK.1 hq;exact vP 5 0 4 a ((ha g1 hg1 (aF n1)).trans n1))
  have HB4:=aD b4;have HO4:=aD o4;have HX:=aD x4;have HR:=aD r4;clear b4 o4 x4 r4 b3 HO HB2 n1 hg1;dsimp only[oC,List.length]at*;go_wp2_with(refine qj rfl _ _ rfl rfl HO4.o rfl HX.o (show 0<1 by decide) HR.o (show 4<=100000 by decide) HB4.o.size ?_;intro v' w5 hO5 b5 _)
  have HB5:=aD (HB4.o.trans b5);have HO5:=aD hO5;obtain⟨p5,k5,hv5⟩:=bU hO5.1;subst hv5;clear hO5 b5 HB4 HO4 HX HR;dsimp only[List.length,List.cons_append,List.nil_append];go_wp2_with fail;refine(tF b w5).mono ?_;rintro e w6 ⟨g2,rfl,hg2,n2,b6⟩;go_wp2_with fail;refine(tF a w6).mono ?_;rintro e w7 ⟨g3,rfl,hg3,n3,b7⟩;have n2':=bt b7 n2
  obtain⟨w8,h8,b8,o8,x8,r8⟩:=Dz HO5.o HB5.o (au b6 b7) [(cMv 4 b [0],af,.slice (some (ae g2 0)) 1 1),(cHd 4 a [0],af,.slice (some (ae g3 0)) 1 1)] #[ag 8,ag 0,ag 0,ag 0,.string ⟨#[]⟩,.string ⟨#[]⟩,ag 0,ag 0,ag 0,af,ag 4,ag b,.slice (some (ae g2 0)) 1 1,ag 5,ag 0,ag 0,ag 0,.string ⟨#[]⟩,.string ⟨#[]⟩,ag 0,ag 0,ag 0,af,ag 4,ag a,.slice (some (ae g3 0)) 1 1] rfl (show 2<=60 by decide) (fun q hq u hu ha=>by
   rcases bl.1 hq with rfl|hq
   ·exact vP 8 0 4 b ((ha g2 hg2 (aF n2')).trans n2')
   ·cases bK.1 hq;exact vP 5 0 4 a ((ha g3 (a6 b6.size hg3) (aF n3)).trans n3))
  have HB8:=aD b8;have HO8:=aD o8;have HX:=aD x8;have HR:=aD r8;clear b8 o8 x8 r8 b6 b7 HO5 HB5 n2 n3 n2' hg2 hg3;dsimp only[List.length,List.cons_append,List.nil_append]at*;go_wp2_with(refine qj rfl _ _ rfl rfl HO8.o rfl HX.o (show 0<2 by decide) HR.o (show 6<=100000 by decide) HB8.o.size ?_;intro v'' w9 hO9 b9 _)
  have hb9:=HB1.o.trans ((HB8.o.trans b9).mono HB1.o.size);have HB9:=aD hb9
  have c2:=JX _ v'' w9 (hO9.row (show 6<9223372036854775808 by decide)) (fun W hW=>HT.o W (au hb9 hW)) (fun q hq=>Nx q.1 (by
   simp only[List.cons_append,List.nil_append,bl,List.not_mem_nil,or_false]at hq;rcases hq with rfl|rfl|rfl|rfl|rfl|rfl
   ·exact .inl rfl
   ·exact .inr (.inl rfl)
   ·exact .inr (.inr (.inl rfl))
   ·exact .inr (.inr (.inr (.inr (.inl rfl))))
   ·exact .inr (.inr (.inr (.inr (.inr rfl))))
   ·exact .inr (.inr (.inr (.inr (.inl rfl))))))
  replace c2:Calls prog 21 #[v''] w9 (Fa w9.heap.size [] [cR aS,cAd,cS (sv1 60),cHd 4 a [0],cMv 4 b [0],cHd 4 a [0]] w9):=c2
  have hA:(playP dk0 [cR aS,cAd,cS (sv1 60),cHd 4 a [0],cMv 4 b [0],cHd 4 a [0]]).1=[noA 0,gT 0,gT 0,gT 0,noA 0,if b>=a+60\/a>=b+60 then gT 1 else noA 10]:=by
   rw[(BW _).1];show(il co0 ([cR aS,cAd,cS (sv1 60)]++[cHd 4 a [0],cMv 4 b [0],cHd 4 a [0]])).1=_;rw[tE,B2 Ib (by decide) (by decide),Fe (by omega) (by omega)];rfl
  have HA:=aD hA;obtain⟨p9,k9,hv9⟩:=bU hO9.1;subst hv9;clear hA hO9 b9 hb9 HB8 HO8 HX HR;dsimp only[List.length,List.cons_append,List.nil_append]at*;go_wp2_with fail;refine c2.mono ?_;clear c2;rintro e w10 ⟨b10,h10⟩;rcases h10 with⟨hl,_⟩|⟨hl,rw',ev,sv,av,asv,ss,aa,ls,rfl,hP⟩
  ·exact absurd hl (by show¬60<6;decide)
  clear hl;replace hP:=hP.here;generalize playP dk0 [cR aS,cAd,cS (sv1 60),cHd 4 a [0],cMv 4 b [0],cHd 4 a [0]]=P at hP HA⊢;have hA:=HA.o;have f4:P.1[4]? =some (noA 0):=(by rw[hA];rfl);have f5:P.1[5]? =some (if b>=a+60\/a>=b+60 then gT 1 else noA 10):=(by rw[hA];rfl);have hlen:P.1.length=6:=(by rw[hA];rfl);obtain⟨us,hus,hx3⟩:=hP.rules;obtain⟨p1,k1,rfl⟩:=hus.form;obtain⟨p2,k2,rfl⟩:=bU hP.res;obtain⟨p3,k3,rfl⟩:=bU hP.svs;obtain⟨pa,ka,rfl⟩:=bU hP.aps;obtain⟨px,cx,hasv,hat⟩:=hP.at6;subst hasv;obtain⟨gx,rfl,y4⟩:=hat 4 _ f4;obtain⟨gy,hgy,y5⟩:=hat 5 _ f5;cases hgy;rw[hlen];clear hP hus hx3 hat f4 f5 hlen hA HA;generalize us.length=n1;generalize ss.length=n3;generalize aa.length=n4;generalize P.2.res.length=n2;generalize P.2.runs=rn;obtain⟨wZ,wC,hZ,nZ,hC,bC,nC⟩:=nbs w10 #[af,af,af,af] #[.slice p1 n1 k1,.slice p2 n2 k2,.slice p3 n3 k3,.slice pa n4 ka] 69;have z4:=aj bC y4;have z5:=aj bC y5;have HBC:=aD (HB9.o.trans ((au b10 bC).mono HB9.o.size));have hwa:IntKind.i64.wrap (a+60)=a+60:=(by rw[bx];omega);have hwb:IntKind.i64.wrap (b+60)=b+60:=(by rw[bx];omega);clear y4 y5 b10 bC nC;have H3:(a+60<=b)\/(¬a+60<=b/\b+60<=a)\/(¬a+60<=b/\ ¬b+60<=a):=(by omega);rcases H3 with q1|⟨q1,q2⟩|⟨q1,q2⟩
  ·rw[az (by omega)]at z5;go_wp2_with(refine ay rfl 69 _ _ rfl _ _ rfl rfl _ _ nZ (by kernel_rfl) rfl (by simp[Value.oneCell']) ?_;rw[hC])
   go_ret;exact⟨rfl,HBC.o⟩
  ·rw[az (by omega)]at z5;go_wp2_with(refine ay rfl 69 _ _ rfl _ _ rfl rfl _ _ nZ (by kernel_rfl) rfl (by simp[Value.oneCell']) ?_;rw[hC])
   go_ret;exact⟨rfl,HBC.o⟩
  ·rw[aw (by omega)]at z5;replace z5:wC.cell? (ae gx 30)=some (ag 10):=z5;go_wp2_with(refine ay rfl 69 _ _ rfl _ _ rfl rfl _ _ nZ (by kernel_rfl) rfl (by simp[Value.oneCell']) ?_;rw[hC])
   go_ret;refine⟨?_,HBC.o⟩;simp;omega
 all_goals
  go_wp2_with fail
  go_ret
  exact⟨rfl,HB1.o⟩
section
open Go.ChangeShapes Go.WideShapes Go.ChangeAt Go.WideMaps Go.WideElems Go.Joins
abbrev uA:List (String×DataW Unit):=Rows.topDaysRow.laid
def Kn:String:=(Rows.topDaysRow.laid.headD default).1
def Ny:String:=(Rows.topDaysRow.laid.getD 1 default).1
def OM:String:=(Rows.topDaysRow.laid.getD 2 default).1
def sc:List Int:=Lib.deBruijn64tab.map fun(n:Nat)=>(n:Int)
theorem own3:ownKnob prog.godebug=none:=by kernel_rfl
theorem Ik:prog.globalNamed Kn=some 4:=by kernel_rfl
theorem Nz:(prog.globals[4]?).map (·.type)=some 260:=by kernel_rfl
theorem Ko:prog.globalNamed Ny=some 1:=by kernel_rfl
theorem Of:(prog.globals[1]?).map (·.type)=some 226:=by kernel_rfl
theorem Kq:prog.globalNamed OM=some 5:=by kernel_rfl
theorem Og:(prog.globals[5]?).map (·.type)=some 281:=by kernel_rfl
theorem cI3:prog.cellsOf 3=1:=by kernel_rfl
theorem cB3:prog.cellsOf 5=1:=by kernel_rfl
theorem cT3:prog.cellsOf 260=64:=by kernel_rfl
theorem cL3:prog.cellsOf 226=12:=by kernel_rfl
theorem cS3:prog.cellsOf 9=1:=by kernel_rfl
theorem cD3:prog.cellsOf 281=7:=by kernel_rfl
theorem Il (os:Os)(args:Array Value):laidMetH prog uA ((World.doorLaid prog 400 os).forCall (fun _ _=>0) ⟨#[],args,[]⟩).memory:=
 laidMetH_of_parts3 (fuel:=8) (laidMet_of_run' 8 (by kernel_rfl) (by kernel_rfl)) (by kernel_rfl) (by kernel_rfl)
theorem Im {H:Type}{enc:TypeId×Value->H}{P:Program}{w:World}{base:Nat}{sp:Nat->Bool}{held:Bool}{t e:TypeId}{n:Nat}{cs:List Value}{zs:List (List UInt8)}{p:List MemPlace}(ht:P.underlying t=some (.array n e))(he:P.underlying e=some .string)(hce:P.cellsOf e=1)(hct:P.cellsOf t=n):
  ∀fuel,DataW.trod enc P w base sp held fuel t cs=some (.agg (zs.map fun z=> .lit (.string z)),p)-> ∀(i:Nat) (z:List UInt8),zs[i]? =some z->cs[i]? =some (.string ⟨z.toArray⟩)
 |0,h,_,_,_=>by simp[DataW.trod]at h
 |fuel+1,h,i,z,hz=>by
  simp only[DataW.trod,ht,hce,hct,Nat.mul_one]at h;split at h
  ·obtain⟨xs,hm,hx⟩:=d8.1 h;have h1:xs.map (fun x=>x.1)=zs.map fun z=>(DataW.lit (.string z):DataW H):=(by simpa using congrArg Prod.fst hx);have h2:(xs.map fun x=>x.1)[i]? =some (DataW.lit (.string z):DataW H):=(by rw[h1,bg,hz];rfl);rw[bg]at h2;obtain⟨x,hx1,hx2⟩:=d8.1 h2
   have hin:i<n:=by
    have a:=(aE.1 hx1).1;have b:=Lib.mapM_length hm;simp at b;omega
   obtain⟨b,hb,hf⟩:=Lib.mapM_at hm i i (by simp[hin]);obtain⟨s,hc,rfl,_⟩:=DataW.trod_string he hf;rw[hb]at hx1;obtain rfl:=aK hx1;have hs:s.data.toList=z:=(by simpa using hx2);have h3:=congrArg (fun l:List Value=>l[0]?) hc;have h4:cs[i]? =some (.string s):=(by simpa[iX,List.getElem?_drop] using h3);rw[h4,<-hs]
  ·cases h
theorem Ae {W:World}(h:laidMetH prog uA W):Tab W/\fX W/\pH W:=by
 rw[MakeChecks.laidMetH_plain _ _ _ (by kernel_rfl)]at h;obtain⟨ps,⟨g1,t1,cs1,fuel1,p1,q1,hg1,ht1,hv1,hd1,⟨g2,t2,cs2,fuel2,p2,q2,hg2,ht2,hv2,hd2,⟨g3,t3,cs3,fuel3,p3,q3,hg3,ht3,hv3,hd3,_,_⟩,_⟩,_⟩,_⟩:=h;obtain rfl:=aK (Ik.symm.trans hg1);obtain rfl:=aK (Nz.symm.trans ht1);obtain rfl:=aK (Ko.symm.trans hg2);obtain rfl:=aK (Of.symm.trans ht2);obtain rfl:=aK (Kq.symm.trans hg3);obtain rfl:=aK (Og.symm.trans ht3);refine⟨?_,?_,?_⟩
 ·have e1:=Lib.cells_of_tab (zs:=sc) underlying260 underlying5 cB3 cT3 hd1
  have t:Lib.TabIs prog W Kn .u8 sc:=by
   unfold Lib.TabIs;rw[<-e1];exact hv1
  intro i hi;have:=t.cell Ik i (by simpa[sc,Lib.deBruijn64tab] using hi);rw[this];have hl:i<Lib.deBruijn64tab.length:=(by simpa[Lib.deBruijn64tab] using hi);simp[sc,List.getD,hl]
 ·have e2:=Lib.cells_of_tab (zs:=tab) underlying226 underlying3 cI3 cL3 hd2
  have t:Lib.TabIs prog W Ny .i64 tab:=by
   unfold Lib.TabIs;rw[<-e2];exact hv2
  intro i hi;exact t.cell Ko i (by simpa[tab] using hi)
 ·intro j hj
  have hz:eV[j]? =some (eV.getD j []):=by
   rw[dW,ax (by exact hj)];rfl
  have hc:=Im (zs:=eV) underlying281 underlying9 cS3 cD3 fuel3 hd3 j _ hz;have:=World.var?_cell Kq hv3 j;rw[this];simpa using hc
end
section
open Go.ChangeShapes Go.WideShapes Go.ChangeAt Go.WideMaps Go.WideElems Go.Joins
theorem CN {W:World}(h:laidMetH prog uA W):Tbs W.heap.size W:=fun W' hb=>by
 obtain⟨a,b,c⟩:=Ae h;exact⟨fun i hi=>(hb.cell (bV (b i hi))).trans (b i hi),fun i hi=>(hb.cell (bV (c i hi))).trans (c i hi),fun i hi=>(hb.cell (bV (a i hi))).trans (a i hi)⟩
end
end Go.Proofs.YtjkilacmkbmmbaaGreatDoor
