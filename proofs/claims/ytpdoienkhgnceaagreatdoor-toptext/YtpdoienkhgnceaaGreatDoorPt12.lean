/- Texts of the proof. -/
import Derived.Test.YtpdoienkhgnceaaGreatDoorPt11
set_option maxRecDepth 100000
set_option maxHeartbeats 8000000
namespace Go.Proofs.YtpdoienkhgnceaaGreatDoor
open Go.Proofs.Tryz Go.RowKit Lx Vx Mx Msk
section
variable {all:List Tk} {E g:Nat} {v:Value} {w:World} {i n:Nat}
theorem dY (d:PS0 all E g v)(h:PSt all E g v w i n)(x:List UInt8)(f:isT x (all.drop i)=false):
  Calls prog 74 #[.pointer (some ⟨g,0,none⟩),.string ⟨x.toArray⟩] w fun e j=>e= .returned (.bool false)/\PSt all E g v j i n/\bp g w j:=by
 have c:=oe d h;have l:((⟨(textP (all.drop i)).toArray⟩:ByteArray).toList==(⟨x.toArray⟩:ByteArray).toList)=false:=by rw[JZ];exact f
 unfold kG at c;generalize (⟨(textP (all.drop i)).toArray⟩:ByteArray)=m at*;generalize (⟨x.toArray⟩:ByteArray)=p at*;clear f;go_enter func74,ntmps74;go_wp2_with fail;refine c.mono ?_;rintro e o ⟨rfl,a⟩;have k:=h.below a d;have b:=bp.of_below (g:=g) a;clear c h a;go_wp2_with fail;go_ret;exact⟨rfl,k,b⟩
theorem pm (f:PS0 all E g v)(h:PSt all E g v w i n)(x:List UInt8)(k:x≠[])(b:isT x (all.drop i)=true):
  Calls prog 36 #[.pointer (some ⟨g,0,none⟩),.string ⟨x.toArray⟩] w fun e d=>e= .returned (.tuple #[])/\PSt all E g v d (i+1) n/\bp g w d:=by
 have c:=gh f h x k b;clear b h;go_enter func36,ntmps36;go_wp2_with fail;refine c.mono ?_;rintro e l ⟨rfl,j,a⟩;go_wp2_with fail;go_end0;exact⟨rfl,j,a⟩
theorem qU (d:PS0 all E g v)(h:PSt all E g v w i n)(x:List UInt8)(f:isT x (all.drop i)=false):
  Calls prog 36 #[.pointer (some ⟨g,0,none⟩),.string ⟨x.toArray⟩] w fun e k=>e= .panicked (jm 2 (atP E (all.drop i)))/\bp g w k:=by
 have c:=dY d h x f;clear f h;go_enter func36,ntmps36;go_wp2_with fail;refine c.mono ?_;rintro e l ⟨rfl,j,b⟩;go_wp2_with fail;refine(lK d j 2).mono ?_;rintro e m ⟨rfl,a⟩;exact⟨rfl,rfl,b.trans (bp.of_below a)⟩
theorem vY (j:PS0 all E g v)(h:PSt all E g v w i n)(kd:Int)(s:kindP (all.drop i)=kd):
  Calls prog 126 #[.pointer (some ⟨g,0,none⟩),.int .i64 kd] w fun e x=>e= .returned (kG E (all.drop i))/\PSt all E g v x i n/\ao w x:=by
 have f:ao w (w.alloc (.cells #[.int .i64 0,.int .i64 0,.int .i64 0,.string ⟨#[]⟩] 114)):=am _ _;have t:=aB w (.cells #[.int .i64 0,.int .i64 0,.int .i64 0,.string ⟨#[]⟩] 114);have q:=h.below f j;have c:=oe j q;have p:=fun(y:World) (k:PSt all E g v y i n)=>oe j k;unfold kG at c p⊢;rw[s]at c;generalize r:w.alloc (.cells #[.int .i64 0,.int .i64 0,.int .i64 0,.string ⟨#[]⟩] 114)=C at*;go_enter func126,ntmps126;go_wp2_with fail;refine c.mono ?_;rintro e y ⟨rfl,a⟩;have k:=q.below a j;have m:=ai a t;have d:=au f a;have z:(kd !=kd)=false:=by simp
 clear c q a r t f s;go_wp2_with fail;refine(p _ k).mono ?_;rintro e A ⟨rfl,b⟩;have B:=k.below b j;have o:=ai b m;have l:=au d b;clear p k b m d;have u:ao w (A.setRow w.heap.size #[.int .i64 (kindP (all.drop i)),.int .i64 (numP (all.drop i)),.int .i64 (atP E (all.drop i):Int),.string ⟨(textP (all.drop i)).toArray⟩]):=below_setRow l (aA _) _;go_wp2_with(refine aC rfl 114 _ _ rfl _ _ rfl rfl _ _ o (by kernel_rfl) (by simp) (by simp[Value.oneCell']) ?_)
 exact s7 4 (by kernel_rfl) w.heap.size _ _ _ _ rfl rfl (aK _ _ _ _ _ _ o) ⟨rfl,h.below u j,u⟩
theorem Dj (f:PS0 all E g v)(h:PSt all E g v w i n)(kd:Int)(o:kindP (all.drop i)≠kd):
  Calls prog 126 #[.pointer (some ⟨g,0,none⟩),.int .i64 kd] w fun e s=>e= .panicked (jm 2 (atP E (all.drop i)))/\ao w s:=by
 have a:ao w (w.alloc (.cells #[.int .i64 0,.int .i64 0,.int .i64 0,.string ⟨#[]⟩] 114)):=am _ _;have k:=h.below a f;have c:=oe f k;unfold kG at c;have r:(kindP (all.drop i) !=kd)=true:=by simpa using o
 have q:=fun(p:World) (j:PSt all E g v p i n)=>lK f j 2;generalize kindP (all.drop i)=t at*;generalize m:w.alloc (.cells #[.int .i64 0,.int .i64 0,.int .i64 0,.string ⟨#[]⟩] 114)=x at*;clear o;go_enter func126,ntmps126;go_wp2_with fail;refine c.mono ?_;rintro e p ⟨rfl,b⟩;have j:=k.below b f;have d:=au a b;clear c k b m a;go_wp2_with fail;refine(q _ j).mono ?_;rintro e u ⟨rfl,l⟩;exact⟨rfl,rfl,au d l⟩
end
section
variable {all:List Tk} {E g:Nat} {v:Value} {w:World} {i n:Nat}
theorem bp.setRow {b:World}{k:Nat}(h:bp g w b)(e:w.heap.size<=k)(c:Array Value):bp g w (b.setRow k c):=
 ⟨h.os,h.tape,h.output,by simpa[World.setRow] using h.size,fun j d a=>(aQ b k j c (by omega)).trans (h.block j d a)⟩
theorem bp.alloc {a:World}(h:bp g w a)(o:Obj):bp g w (a.alloc o):=h.trans (bp.of_below (am _ o))
theorem MB {all:List Tk}{i:Nat}(h:kindP (all.drop i)≠0):i+1<=all.length:=by
 have:=qG h;simp at this;omega
theorem ru (m:PS0 all E g v)(h:PSt all E g v w i n)(kd:Int)(r:kd≠0)(B:kindP (all.drop i)=kd):
  Calls prog 76 #[ab g 0,ag kd] w fun e K=>e= .returned (kG E (all.drop i))/\PSt all E g v K (i+1) n/\bp g w K:=by
 have M:=aH h.blk;have I:=m.len;have hi:i+1<=all.length:=MB (by rw[B];exact r);have b:ao w (w.alloc (.cells #[ag 0,ag 0,ag 0,.string ⟨#[]⟩] 114)):=am _ _;have J:=aB w (.cells #[ag 0,ag 0,ag 0,.string ⟨#[]⟩] 114);have H:=h.below b m;have c:=vY m H kd B;unfold kG at c⊢;clear B r;generalize kindP (all.drop i)=t0 at*;generalize numP (all.drop i)=t1 at*;generalize (atP E (all.drop i):Int)=t2 at*;generalize (⟨(textP (all.drop i)).toArray⟩:ByteArray)=y at*;generalize D:w.alloc (.cells #[ag 0,ag 0,ag 0,.string ⟨#[]⟩] 114)=T at*;go_enter func76,ntmps76;go_wp2_with fail;refine c.mono ?_;rintro e l ⟨rfl,G,d⟩;have k:=ai d J;have a:=au b d;have P:=aH k;have f:ao l (l.alloc (.cells #[ag t0,ag t1,ag t2,.string y] 114)):=am _ _;have x:=G.below f m;have u:=aB l (.cells #[ag t0,ag t1,ag t2,.string y] 114);have s:=ai f k;have q:bp g w (l.alloc (.cells #[ag t0,ag t1,ag t2,.string y] 114)):=(bp.of_below a).alloc _;clear c H d D J b a k G f;generalize O:l.alloc (.cells #[ag t0,ag t1,ag t2,.string y] 114)=z at*;have R:=ak 1 x.blk;have U:=bu _ _ 1 _ _ x.blk;have A:=x.set m hi;have j:=q.trans (bp.set z g 1 (ag ((i+1:Nat):Int)));have F:=(aM z ⟨g,1,none⟩ l.heap.size (ag ((i+1:Nat):Int)) (by show l.heap.size≠g;omega)).trans u;have t:=(aM z ⟨g,1,none⟩ w.heap.size (ag ((i+1:Nat):Int)) (by show w.heap.size≠g;omega)).trans s;have Q:(i:Int)+1=((i+1:Nat):Int):=by omega
 have N:(i:Int)<=6000:=by omega
 have L:T4 (∀p,PSt all E g v ((z.setCell ⟨g,1,none⟩ (ag ((i+1:Nat):Int))).setRow w.heap.size p) (i+1) n):=fun p=>
  h.of_kept m (j.setRow (aA _) p) ((aQ _ _ _ _ (by omega)).trans A.blk) A.le
 have C:=fun p=>j.setRow (aA _) p;generalize ((i+1:Nat):Int)=S at*;clear h x A q j u s
 go_wp2_with(first
  |(refine aO rfl 114 _ rfl _ rfl _ _ _ _ F AP rfl (by kernel_rfl) ?_)
  |(refine aC rfl 114 _ _ rfl _ _ rfl rfl _ _ t (by kernel_rfl) (by simp) (by simp[Value.oneCell']) ?_))
 exact s7 4 (by kernel_rfl) w.heap.size _ _ _ _ rfl rfl (aK _ _ _ _ _ _ t) ⟨rfl,L.o _,C _⟩
theorem AR (d:PS0 all E g v)(h:PSt all E g v w i n)(kd:Int)(j:kindP (all.drop i)≠kd):
  Calls prog 76 #[ab g 0,ag kd] w fun e l=>e= .panicked (jm 2 (atP E (all.drop i)))/\bp g w l:=by
 have a:ao w (w.alloc (.cells #[ag 0,ag 0,ag 0,.string ⟨#[]⟩] 114)):=am _ _;have f:=h.below a d;have c:=Dj d f kd j;generalize k:w.alloc (.cells #[ag 0,ag 0,ag 0,.string ⟨#[]⟩] 114)=o at*;go_enter func76,ntmps76;go_wp2_with fail;refine c.mono ?_;rintro e m ⟨rfl,b⟩;exact⟨rfl,rfl,bp.of_below (au a b)⟩
theorem uu (d:PS0 all E g v)(h:PSt all E g v w i n)(kd m:Int)(j:kindP (all.drop i)≠kd):
  Calls prog 221 #[ab g 0,ag kd,ag m] w fun e l=>e= .panicked (jm 2 (atP E (all.drop i)))/\bp g w l:=by
 have a:ao w (w.alloc (.cells #[ag 0,ag 0,ag 0,.string ⟨#[]⟩] 114)):=am _ _;have f:=h.below a d;have c:=Dj d f kd j;generalize k:w.alloc (.cells #[ag 0,ag 0,ag 0,.string ⟨#[]⟩] 114)=p at*;go_enter func221,ntmps221;go_wp2_with fail;refine c.mono ?_;rintro e o ⟨rfl,b⟩;exact⟨rfl,rfl,bp.of_below (au a b)⟩
theorem po (f:PS0 all E g v)(h:PSt all E g v w i n)(kd m:Int)(p:kindP (all.drop i)=kd)(t:numP (all.drop i)<m):
  Calls prog 221 #[ab g 0,ag kd,ag m] w fun e s=>e= .panicked (jm 3 (atP E (all.drop i)))/\bp g w s:=by
 have a:ao w (w.alloc (.cells #[ag 0,ag 0,ag 0,.string ⟨#[]⟩] 114)):=am _ _;have o:=h.below a f;have c:=vY f o kd p;have r:=fun(q:World) (j:PSt all E g v q i n)=>lK f j 3;unfold kG at c;clear p;generalize kindP (all.drop i)=t0 at*;generalize numP (all.drop i)=t1 at*;generalize l:w.alloc (.cells #[ag 0,ag 0,ag 0,.string ⟨#[]⟩] 114)=x at*;go_enter func221,ntmps221;go_wp2_with fail;refine c.mono ?_;rintro e q ⟨rfl,j,b⟩;have d:=au a b;clear c o b l a;go_wp2_with fail;refine(r _ j).mono ?_;rintro e u ⟨rfl,k⟩;exact⟨rfl,rfl,bp.of_below (au d k)⟩
theorem rx (r:PS0 all E g v)(h:PSt all E g v w i n)(kd m:Int)(p:kd≠0)(x:kindP (all.drop i)=kd)(I: ¬numP (all.drop i)<m):
  Calls prog 221 #[ab g 0,ag kd,ag m] w fun e C=>e= .returned (kG E (all.drop i))/\PSt all E g v C (i+1) n/\bp g w C:=by
 have G:=aH h.blk;have d:ao w (w.alloc (.cells #[ag 0,ag 0,ag 0,.string ⟨#[]⟩] 114)):=am _ _;have B:=aB w (.cells #[ag 0,ag 0,ag 0,.string ⟨#[]⟩] 114);have A:=h.below d r;have c:=vY r A kd x;have t:=fun(D:World) (s:PSt all E g v D i n)=>ru r s kd p x;unfold kG at c t⊢;clear x p;generalize kindP (all.drop i)=t0 at*;generalize numP (all.drop i)=t1 at*;generalize (atP E (all.drop i):Int)=t2 at*;generalize (⟨(textP (all.drop i)).toArray⟩:ByteArray)=J at*;generalize z:w.alloc (.cells #[ag 0,ag 0,ag 0,.string ⟨#[]⟩] 114)=K at*;go_enter func221,ntmps221;go_wp2_with fail;refine c.mono ?_;rintro e D ⟨rfl,s,f⟩;have k:=ai f B;have b:=au d f;clear c A f z B d;go_wp2_with fail;refine(t _ s).mono ?_;rintro e H ⟨rfl,u,j⟩;have q:=(j.block _ (aH k) (fun e=>by have:w.heap.size=g:=ay e;omega)).trans k;have a:=(bp.of_below (g:=g) b).trans j
 have F:T4 (∀l,PSt all E g v (H.setRow w.heap.size l) (i+1) n):=fun l=>
  h.of_kept r (a.setRow (aA _) l) ((aQ _ _ _ _ (by omega)).trans u.blk) u.le
 have y:=fun l=>a.setRow (aA _) l;clear h s u j a k b t;go_wp2_with(refine aC rfl 114 _ _ rfl _ _ rfl rfl _ _ q (by kernel_rfl) (by simp) (by simp[Value.oneCell']) ?_)
 exact s7 6 (by kernel_rfl) w.heap.size _ _ _ _ rfl rfl (aK _ _ _ _ _ _ q) ⟨rfl,F.o _,y _⟩
end
section
variable {all:List Tk} {E g:Nat} {v:Value} {w:World} {i n:Nat}
def jA (all:List Tk)(E g:Nat)(v:Value)(w:World)(B:Nat->Prop)(x:Res)(e:Ending)(a:World):Prop:=
 match x with
 | .error (er,at_)=>e= .panicked (jm er at_)/\bp g w a
 | .ok (ex,r,n)=> ∃(i:Nat) (sl:Value) (d:Nat),r=all.drop i/\e= .returned (exV ex sl)/\dr B d a sl ex.kids/\PSt all E g v a i n/\n<=600/\bp g w a
theorem jA.weak {B B':Nat->Prop}{x:Res}{e:Ending}{m l:World}(j:bp g m w)(p: ∀k,B k->B' k)(h:jA all E g v w B x e l):jA all E g v m B' x e l:=by
 unfold jA at h⊢;match x,h with
 | .error (er,at_),h=>exact⟨h.1,j.trans h.2⟩
 | .ok (ex,r,n),h=>
  obtain⟨i,sl,d,a,b,c,o,f,k⟩:=h;exact⟨i,sl,d,a,b,c.mono p,o,f,j.trans k⟩
theorem kP (F:PS0 all E g v)(h:PSt all E g v w i n)(S:n<=600)(B:Nat->Prop)(P: ∀k,B k->k≠g)(ex:Ex)(sl:Value)(d:Nat)(G:dr B d w sl ex.kids):
  Calls prog 174 #[ab g 0,exV ex sl] w (jA all E g v w B (dp E ex (all.drop i) n)):=by
 obtain⟨u,f,rfl⟩:=G.form;have Q:=aH h.blk;have p:ao w (w.alloc (.cells #[ag ex.kind,ag ex.a,ag ex.b,.string ⟨ex.name.toArray⟩,.slice u ex.kids.length f] 78)):=am _ _;have j:ao w ((w.alloc (.cells #[ag ex.kind,ag ex.a,ag ex.b,.string ⟨ex.name.toArray⟩,.slice u ex.kids.length f] 78)).alloc (.cells #[ag 0,ag 0,ag 0,.string ⟨#[]⟩,af] 78)):=p.alloc p.size _;have s:=aB w (.cells #[ag ex.kind,ag ex.a,ag ex.b,.string ⟨ex.name.toArray⟩,.slice u ex.kids.length f] 78);have t:=(dD _ (.cells #[ag 0,ag 0,ag 0,.string ⟨#[]⟩,af] 78) _ (aH s)).trans s;have m:=aB (w.alloc (.cells #[ag ex.kind,ag ex.a,ag ex.b,.string ⟨ex.name.toArray⟩,.slice u ex.kids.length f] 78)) (.cells #[ag 0,ag 0,ag 0,.string ⟨#[]⟩,af] 78);have C:(w.alloc (.cells #[ag ex.kind,ag ex.a,ag ex.b,.string ⟨ex.name.toArray⟩,.slice u ex.kids.length f] 78)).heap.size=w.heap.size+1:=by simp
 rw[C]at m;have z:=h.below j F;have q:=bp.of_below (g:=g) j;unfold exV;clear s p C;generalize T:((w.alloc (.cells #[ag ex.kind,ag ex.a,ag ex.b,.string ⟨ex.name.toArray⟩,.slice u ex.kids.length f] 78)).alloc (.cells #[ag 0,ag 0,ag 0,.string ⟨#[]⟩,af] 78))=H at*;have W:=ak 3 z.blk;have Z:=bu _ _ 3 _ _ z.blk;have x:=z.setN F (n+1);have l:=q.trans (bp.set H g 3 (ag ((n+1:Nat):Int)));have D:=(aM H ⟨g,3,none⟩ w.heap.size (ag ((n+1:Nat):Int)) (by show w.heap.size≠g;omega)).trans t;have r:=(aM H ⟨g,3,none⟩ (w.heap.size+1) (ag ((n+1:Nat):Int)) (by show w.heap.size+1≠g;omega)).trans m;have X:=ak 3 x.blk;have V:(n:Int)+1=((n+1:Nat):Int):=by omega
 have R:(n:Int)<=600:=by omega
 by_cases J:600<n+1
 ·have K:(600:Int)<((n+1:Nat):Int):=by omega
  have c:=lK F x 4;rw[show dp E ex (all.drop i) n= .error (4,atP E (all.drop i)) by unfold dp;rw[ax J]];clear h z x q t m D r j G;generalize ((n+1:Nat):Int)=U at*;go_enter func174,ntmps174;go_wp2_with fail;refine c.mono ?_;rintro e Y ⟨rfl,I⟩;exact⟨rfl,rfl,l.trans (bp.of_below I)⟩
 ·have K: ¬(600:Int)<((n+1:Nat):Int):=by omega
  rw[show dp E ex (all.drop i) n= .ok (ex,all.drop i,n+1) by unfold dp;rw[aw J]]
  have M:T4 (∀y,PSt all E g v ((H.setCell ⟨g,3,none⟩ (ag ((n+1:Nat):Int))).setRow (w.heap.size+1) y) i (n+1)):=fun y=>
   h.of_kept F (l.setRow (by omega) y) ((aQ _ _ _ _ (by omega)).trans x.blk) x.le
  have A:=fun y=>l.setRow (k:=w.heap.size+1) (by omega) y;have O:T4 (n+1<=600):=(by show n+1<=600;omega);have N:T4 (dr B d w (.slice u ex.kids.length f) ex.kids):=G;have L:T4 (∀k,B k->k≠g):=P;clear h z x q t m j G l J;generalize ((n+1:Nat):Int)=U at*;go_enter func174,ntmps174
  go_wp2_with(first
   |(refine aO rfl 78 _ rfl _ rfl _ _ _ _ D d9 rfl (by kernel_rfl) ?_)
   |(refine aC rfl 78 _ _ rfl _ _ rfl rfl _ _ r (by kernel_rfl) (by simp) (by simp[Value.oneCell']) ?_))
  exact jT 4 (by kernel_rfl) (w.heap.size+1) _ _ _ _ _ rfl rfl (aK _ _ _ _ _ _ r) ⟨i,_,d,rfl,rfl,(A _).kids L.o N.o,M.o _,O.o,A _⟩
theorem Dl {B:Nat->Prop}{w:World}{b d:Nat}{k:Ex}{s:Value}(g:B b)(c:w.heap[b]? =ah #[ag k.kind,ag k.a,ag k.b,.string ⟨k.name.toArray⟩,s] 78)(i:dr B d w s k.kids):
  dr B (d+1) w (.slice (some (ae b 0)) 1 1) [k]:=by
 refine .inr ⟨b,0,1,⟨g,_,_,c⟩,rfl,by simp,fun j l f=> ?_⟩;match j,f with
 |0,f=>
  have e:k=l:=(by simpa using f);subst e;exact⟨s,(aW _ _ _ _ _ _ c).trans rfl,(aW _ _ _ _ _ _ c).trans rfl,(aW _ _ _ _ _ _ c).trans rfl,(aW _ _ _ _ _ _ c).trans rfl,(aW _ _ _ _ _ _ c).trans rfl,i⟩
theorem MC {B:Nat->Prop}{w:World}{b d m:Nat}{k f:Ex}{s l:Value}(n:B b)
  (c:w.heap[b]? =ah #[ag k.kind,ag k.a,ag k.b,.string ⟨k.name.toArray⟩,s,ag f.kind,ag f.a,ag f.b,.string ⟨f.name.toArray⟩,l] 78) (o:dr B d w s k.kids) (i:dr B m w l f.kids):
  dr B (max d m+1) w (.slice (some (ae b 0)) 2 2) [k,f]:=by
 refine .inr ⟨b,0,2,⟨n,_,_,c⟩,rfl,by simp,fun j q g=> ?_⟩;match j,g with
 |0,g=>
  have e:k=q:=(by simpa using g);subst e;exact⟨s,(aW _ _ _ _ _ _ c).trans rfl,(aW _ _ _ _ _ _ c).trans rfl,(aW _ _ _ _ _ _ c).trans rfl,(aW _ _ _ _ _ _ c).trans rfl,(aW _ _ _ _ _ _ c).trans rfl,o.le (by omega)⟩
 |1,g=>
  have e:f=q:=(by simpa using g);subst e;exact⟨l,(aW _ _ _ _ _ _ c).trans rfl,(aW _ _ _ _ _ _ c).trans rfl,(aW _ _ _ _ _ _ c).trans rfl,(aW _ _ _ _ _ _ c).trans rfl,(aW _ _ _ _ _ _ c).trans rfl,i.le (by omega)⟩
theorem Dm (N:PS0 all E g v)(h:PSt all E g v w i n)(R:n<=600)(B:Nat->Prop)(hB: ∀k,B k->k≠g)(hf: ∀k,w.heap.size<=k->B k)(kd:Int)(l r:Ex)(sl Z:Value)(d W:Nat)(P:dr B d w sl l.kids)(S:dr B W w Z r.kids):
  Calls prog 128 #[ab g 0,ag kd,exV l sl,exV r Z] w (jA all E g v w B (dp E ⟨kd,0,0,[],[l,r]⟩ (all.drop i) n)):=by
 obtain⟨s,f,rfl⟩:=P.form;obtain⟨t,cr,rfl⟩:=S.form;have aa:=aH h.blk;unfold exV;have C:=am w (.cells #[ag l.kind,ag l.a,ag l.b,.string ⟨l.name.toArray⟩,.slice s l.kids.length f] 78);have D:=C.alloc C.size (.cells #[ag r.kind,ag r.a,ag r.b,.string ⟨r.name.toArray⟩,.slice t r.kids.length cr] 78);have F:=D.alloc D.size (.cells #[ag 0,ag 0,ag 0,.string ⟨#[]⟩,af] 78);have G:=F.alloc F.size (.cells #[ag l.kind,ag l.a,ag l.b,.string ⟨l.name.toArray⟩,.slice s l.kids.length f,ag r.kind,ag r.a,ag r.b,.string ⟨r.name.toArray⟩,.slice t r.kids.length cr] 78);have U:=aB ((w.alloc (.cells #[ag l.kind,ag l.a,ag l.b,.string ⟨l.name.toArray⟩,.slice s l.kids.length f] 78)).alloc (.cells #[ag r.kind,ag r.a,ag r.b,.string ⟨r.name.toArray⟩,.slice t r.kids.length cr] 78)) (.cells #[ag 0,ag 0,ag 0,.string ⟨#[]⟩,af] 78);have x:=(dD _ (.cells #[ag l.kind,ag l.a,ag l.b,.string ⟨l.name.toArray⟩,.slice s l.kids.length f,ag r.kind,ag r.a,ag r.b,.string ⟨r.name.toArray⟩,.slice t r.kids.length cr] 78) _ (aH U)).trans U;have J:=aB (((w.alloc (.cells #[ag l.kind,ag l.a,ag l.b,.string ⟨l.name.toArray⟩,.slice s l.kids.length f] 78)).alloc (.cells #[ag r.kind,ag r.a,ag r.b,.string ⟨r.name.toArray⟩,.slice t r.kids.length cr] 78)).alloc (.cells #[ag 0,ag 0,ag 0,.string ⟨#[]⟩,af] 78)) (.cells #[ag l.kind,ag l.a,ag l.b,.string ⟨l.name.toArray⟩,.slice s l.kids.length f,ag r.kind,ag r.a,ag r.b,.string ⟨r.name.toArray⟩,.slice t r.kids.length cr] 78);rw[show((w.alloc (.cells #[ag l.kind,ag l.a,ag l.b,.string ⟨l.name.toArray⟩,.slice s l.kids.length f] 78)).alloc (.cells #[ag r.kind,ag r.a,ag r.b,.string ⟨r.name.toArray⟩,.slice t r.kids.length cr] 78)).heap.size=w.heap.size+2 by simp]at x;rw[show(((w.alloc (.cells #[ag l.kind,ag l.a,ag l.b,.string ⟨l.name.toArray⟩,.slice s l.kids.length f] 78)).alloc (.cells #[ag r.kind,ag r.a,ag r.b,.string ⟨r.name.toArray⟩,.slice t r.kids.length cr] 78)).alloc (.cells #[ag 0,ag 0,ag 0,.string ⟨#[]⟩,af] 78)).heap.size=w.heap.size+3 by simp]at J;have X:=h.below G N;have m:=bp.of_below (g:=g) G;have A: ∀k,(B k/\k≠w.heap.size+2)->k≠g:=fun k j=>hB k j.1;have K:dr (fun k=>B k/\k≠w.heap.size+2) d w (.slice s l.kids.length f) l.kids:=P.lt.mono fun k j=>⟨j.1,by have:=j.2;omega⟩
 have u:dr (fun k=>B k/\k≠w.heap.size+2) W w (.slice t r.kids.length cr) r.kids:=S.lt.mono fun k j=>⟨j.1,by have:=j.2;omega⟩
 have Y:=MC (B:=fun k=>B k/\k≠w.heap.size+2) ⟨hf _ (by omega),by omega⟩ J (m.kids A K) (m.kids A u);clear C D F G U J P S K u;generalize T:((((w.alloc (.cells #[ag l.kind,ag l.a,ag l.b,.string ⟨l.name.toArray⟩,.slice s l.kids.length f] 78)).alloc (.cells #[ag r.kind,ag r.a,ag r.b,.string ⟨r.name.toArray⟩,.slice t r.kids.length cr] 78)).alloc (.cells #[ag 0,ag 0,ag 0,.string ⟨#[]⟩,af] 78)).alloc (.cells #[ag l.kind,ag l.a,ag l.b,.string ⟨l.name.toArray⟩,.slice s l.kids.length f,ag r.kind,ag r.a,ag r.b,.string ⟨r.name.toArray⟩,.slice t r.kids.length cr] 78))=w4 at*;have c:=kP N X R _ A ⟨kd,0,0,[],[l,r]⟩ _ _ Y;unfold exV at c;clear Y;go_enter func128,ntmps128;go_wp2_with fail;refine c.mono ?_;intro e w5 M;clear c T;cases hx:dp E ⟨kd,0,0,[],[l,r]⟩ (all.drop i) n with
 |error q=>
  obtain⟨er,at_⟩:=q;rw[hx]at M;obtain⟨rfl,p⟩:=M;exact⟨rfl,rfl,m.trans p⟩
 |ok q=>
  obtain⟨ex,rr,nn⟩:=q;rw[hx]at M;obtain⟨i',sl,dd,u,rfl,H,O,Q,p⟩:=M;have L:=(p.block _ (aH x) (fun e=>by have:w.heap.size+2=g:=ay e;omega)).trans x;have I:=m.trans p;obtain⟨p5,c5,rfl⟩:=H.form;have y:=fun z=>H.kept (w':=w5.setRow (w.heap.size+2) z) fun k j _=>aQ _ _ _ _ j.2
  have V:T4 (∀z,jA all E g v w B (dp E ⟨kd,0,0,[],[l,r]⟩ (all.drop i) n) (.returned (exV ex (.slice p5 ex.kids.length c5))) (w5.setRow (w.heap.size+2) z)):=fun z=>by
   rw[hx];exact⟨i',_,dd,u,rfl,(y z).mono fun k j=>j.1,h.of_kept N (I.setRow (by omega) z) ((aQ _ _ _ _ (by omega)).trans O.blk) O.le,Q,I.setRow (by omega) z⟩
  unfold exV at V⊢;clear h X m p H y O I hx x;go_wp2_with(refine aC rfl 78 _ _ rfl _ _ rfl rfl _ _ L (by kernel_rfl) (by simp) (by simp[Value.oneCell']) ?_)
  exact jT 8 (by kernel_rfl) (w.heap.size+2) _ _ _ _ _ rfl rfl (aK _ _ _ _ _ _ L) (V.o _)
end
section
variable {all:List Tk} {E g:Nat} {v:Value} {w:World} {i n:Nat}
theorem s6 (a:PS0 all E g v)(i:Nat):0<=numP (all.drop i)/\numP (all.drop i)<=999999:=by
 cases h:all.drop i with
 |nil=>simp[numP]
 |cons p r=>
  have b:p∈all:=List.mem_of_mem_drop (h▸aV);exact a.num p b
def pt (all:List Tk)(i:Nat):Nat:=if isT ft (all.drop i) then i+1 else i
def xI (all:List Tk)(E g:Nat)(v:Value)(w:World)(n:Nat)(x:Except (Int×Nat) (Int×Nat))(e:Ending)(a:World):Prop:=
 match x with
 | .error (er,at_)=>e= .panicked (jm er at_)/\bp g w a
 | .ok (m,j)=>e= .returned (ag m)/\PSt all E g v a j n/\bp g w a
def pZ (all:List Tk)(E i:Nat):Except (Int×Nat) (Int×Nat):=
 if kindP (all.drop (pt all i))≠6 then .error (2,atP E (all.drop (pt all i)))
 else if 1440<=numP (all.drop (pt all i))\/numP (all.drop (pt all i))<1 then .error (3,atP E (all.drop (pt all i)))
 else .ok (if isT ft (all.drop i) then-numP (all.drop (pt all i)) else numP (all.drop (pt all i)),pt all i+1)
theorem xI.weak {x:Except (Int×Nat) (Int×Nat)}{e:Ending}{c b:World}(a:bp g c w)(h:xI all E g v w n x e b):xI all E g v c n x e b:=by
 unfold xI at h⊢;match x,h with
 | .error (er,at_),h=>exact⟨h.1,a.trans h.2⟩
 | .ok (m,j),h=>exact⟨h.1,h.2.1,a.trans h.2.2⟩
theorem yU (t:PS0 all E g v)(C:Int)(j:Nat)(o:C=1\/C= -1)(x:Except (Int×Nat) (Int×Nat))
  (p:x=if kindP (all.drop j)≠6 then .error (2,atP E (all.drop j)) else if 1440<=numP (all.drop j)\/numP (all.drop j)<1 then .error (3,atP E (all.drop j)) else .ok (C*numP (all.drop j),j+1))
  (c1:Calls prog 74 #[ab g 0,.string ⟨#[45]⟩] w fun e L=>e= .returned (.bool (decide (C= -1)))/\PSt all E g v L j n/\bp g w L):
  Calls prog 202 #[ab g 0] w (xI all E g v w n x):=by
 have P:=s6 t j;have J:=fun(d:World) (a:PSt all E g v d j n)=>vY t a 6;have M:=fun(d:World) (a:PSt all E g v d j n)=>Dj t a 6;have I:=fun(d:World) (a:PSt all E g v d j n)=>lK t a 3;have K:=fun(d:World) (a:PSt all E g v d j n)=>rx t a 6 1 (by decide);have cr:=fun(d:World) (a:PSt all E g v d j n)=>po t a 6 1;unfold kG at J K;generalize O:atP E (all.drop j)=at_ at*;by_cases u:kindP (all.drop j)=6
 ·have k:=fun d a=>J d a u;have F:=fun d a=>K d a u;have D:=fun d a=>cr d a u;rw[aw (by simp[u])]at p;by_cases q:1440<=numP (all.drop j)
  ·rw[ax (.inl q)]at p;subst p;generalize numP (all.drop j)=N at*;rcases o with rfl|rfl
   ·have f:decide ((1:Int)= -1)=false:=(by decide);rw[f]at c1;go_enter func202,ntmps202;go_wp2_with fail;refine c1.mono ?_;rintro e d ⟨rfl,a,c⟩;go_wp2_with fail;refine(k _ a).mono ?_;rintro e s ⟨rfl,l,b⟩;go_wp2_with fail;refine(I _ l).mono ?_;rintro e B ⟨rfl,r⟩;exact⟨rfl,rfl,(c.trans (bp.of_below b)).trans (bp.of_below r)⟩
   ·have f:decide ((-1:Int)= -1)=true:=(by decide);rw[f]at c1;go_enter func202,ntmps202;go_wp2_with fail;refine c1.mono ?_;rintro e d ⟨rfl,a,c⟩;go_wp2_with fail;refine(k _ a).mono ?_;rintro e s ⟨rfl,l,b⟩;go_wp2_with fail;refine(I _ l).mono ?_;rintro e B ⟨rfl,r⟩;exact⟨rfl,rfl,(c.trans (bp.of_below b)).trans (bp.of_below r)⟩
  ·have H: ¬(1440:Int)<=numP (all.drop j):=q;by_cases m:numP (all.drop j)<1
   ·rw[ax (.inr m)]at p;have z:=fun d a=>D d a m;subst p;generalize numP (all.drop j)=N at*;rcases o with rfl|rfl
    ·have f:decide ((1:Int)= -1)=false:=(by decide);rw[f]at c1;go_enter func202,ntmps202;go_wp2_with fail;refine c1.mono ?_;rintro e d ⟨rfl,a,c⟩;go_wp2_with fail;refine(k _ a).mono ?_;rintro e s ⟨rfl,l,b⟩;go_wp2_with fail;refine(z _ l).mono ?_;rintro e B ⟨rfl,i⟩;exact⟨rfl,rfl,(c.trans (bp.of_below b)).trans i⟩
    ·have f:decide ((-1:Int)= -1)=true:=(by decide);rw[f]at c1;go_enter func202,ntmps202;go_wp2_with fail;refine c1.mono ?_;rintro e d ⟨rfl,a,c⟩;go_wp2_with fail;refine(k _ a).mono ?_;rintro e s ⟨rfl,l,b⟩;go_wp2_with fail;refine(z _ l).mono ?_;rintro e B ⟨rfl,i⟩;exact⟨rfl,rfl,(c.trans (bp.of_below b)).trans i⟩
   ·rw[aw (by omega)]at p;have A:=fun d a=>F d a m;subst p;generalize numP (all.drop j)=N at*;rcases o with rfl|rfl
    ·have f:decide ((1:Int)= -1)=false:=(by decide);rw[f]at c1;go_enter func202,ntmps202;go_wp2_with fail;refine c1.mono ?_;rintro e d ⟨rfl,a,c⟩;go_wp2_with fail;refine(k _ a).mono ?_;rintro e s ⟨rfl,l,b⟩;go_wp2_with fail;refine(A _ l).mono ?_;rintro e B ⟨rfl,G,i⟩;go_wp2_with fail;go_ret;refine⟨?_,G,(c.trans (bp.of_below b)).trans i⟩;show Ending.returned (ag N)= .returned (ag (1*N));rw[Int.one_mul]
    ·have f:decide ((-1:Int)= -1)=true:=(by decide);rw[f]at c1;go_enter func202,ntmps202;go_wp2_with fail;refine c1.mono ?_;rintro e d ⟨rfl,a,c⟩;go_wp2_with fail;refine(k _ a).mono ?_;rintro e s ⟨rfl,l,b⟩;go_wp2_with fail;refine(A _ l).mono ?_;rintro e B ⟨rfl,G,i⟩;go_wp2_with fail;go_ret;refine⟨?_,G,(c.trans (bp.of_below b)).trans i⟩;show Ending.returned (ag (-N))= .returned (ag (-1*N));rw[Int.neg_mul,Int.one_mul]
 ·rw[ax u]at p;have y:=fun d a=>M d a u;subst p;rcases o with rfl|rfl
  ·have f:decide ((1:Int)= -1)=false:=(by decide);rw[f]at c1;go_enter func202,ntmps202;go_wp2_with fail;refine c1.mono ?_;rintro e d ⟨rfl,a,c⟩;go_wp2_with fail;refine(y _ a).mono ?_;rintro e s ⟨rfl,b⟩;exact⟨rfl,rfl,c.trans (bp.of_below b)⟩
  ·have f:decide ((-1:Int)= -1)=true:=(by decide);rw[f]at c1;go_enter func202,ntmps202;go_wp2_with fail;refine c1.mono ?_;rintro e d ⟨rfl,a,c⟩;go_wp2_with fail;refine(y _ a).mono ?_;rintro e s ⟨rfl,b⟩;exact⟨rfl,rfl,c.trans (bp.of_below b)⟩
theorem J1 (a:PS0 all E g v)(h:PSt all E g v w i n):Calls prog 202 #[ab g 0] w (xI all E g v w n (pZ all E i)):=by
 cases hm:isT ft (all.drop i) with
 |true=>
  refine yU a (-1) (i+1) (.inr rfl) _ ?_ (gh a h ft (by decide) hm);unfold pZ pt;rw[hm];simp only[if_true,Int.neg_mul,Int.one_mul]
 |false=>
  refine yU a 1 i (.inl rfl) _ ?_ (dY a h ft hm);unfold pZ pt;rw[hm];simp only[Bool.false_eq_true,if_false,Int.one_mul]
theorem ry (x:List UInt8)(j:Nat)(a:j<7)(h:x=dO.getD j []):dayBit x=2^j:=by
 subst h;match j,a with
 |0,_=>rfl
 |1,_=>rfl
 |2,_=>rfl
 |3,_=>rfl
 |4,_=>rfl
 |5,_=>rfl
 |6,_=>rfl
theorem ME (x:List UInt8)(h: ∀j,j<7->x≠dO.getD j []):dayBit x=0:=by
 unfold dayBit;rw[aw (h 0 (by omega)),aw (h 1 (by omega)),aw (h 2 (by omega)),aw (h 3 (by omega)),aw (h 4 (by omega)),aw (h 5 (by omega)),aw (h 6 (by omega))]
def lL (all:List Tk)(E i:Nat):Except (Int×Nat) (Int×Nat):=if dayBit (textP (all.drop i))=0 then .error (2,atP E (all.drop i)) else .ok ((dayBit (textP (all.drop i)):Int),i+1)
theorem O2 (w:World):(Instr.index 217 (.agg #[.string ⟨#[109,111,110]⟩,.string ⟨#[116,117,101]⟩,.string ⟨#[119,101,100]⟩,.string ⟨#[116,104,117]⟩,.string ⟨#[102,114,105]⟩,.string ⟨#[115,97,116]⟩,.string ⟨#[115,117,110]⟩]) (ag 0)).run prog w= .ok (.string ⟨#[109,111,110]⟩) w:=by
 unfold Instr.index;simp[go_sem]
theorem O3 (w:World):(Instr.index 217 (.agg #[.string ⟨#[109,111,110]⟩,.string ⟨#[116,117,101]⟩,.string ⟨#[119,101,100]⟩,.string ⟨#[116,104,117]⟩,.string ⟨#[102,114,105]⟩,.string ⟨#[115,97,116]⟩,.string ⟨#[115,117,110]⟩]) (ag 1)).run prog w= .ok (.string ⟨#[116,117,101]⟩) w:=by
 unfold Instr.index;simp[go_sem]
theorem O4 (w:World):(Instr.index 217 (.agg #[.string ⟨#[109,111,110]⟩,.string ⟨#[116,117,101]⟩,.string ⟨#[119,101,100]⟩,.string ⟨#[116,104,117]⟩,.string ⟨#[102,114,105]⟩,.string ⟨#[115,97,116]⟩,.string ⟨#[115,117,110]⟩]) (ag 2)).run prog w= .ok (.string ⟨#[119,101,100]⟩) w:=by
 unfold Instr.index;simp[go_sem]
theorem O5 (w:World):(Instr.index 217 (.agg #[.string ⟨#[109,111,110]⟩,.string ⟨#[116,117,101]⟩,.string ⟨#[119,101,100]⟩,.string ⟨#[116,104,117]⟩,.string ⟨#[102,114,105]⟩,.string ⟨#[115,97,116]⟩,.string ⟨#[115,117,110]⟩]) (ag 3)).run prog w= .ok (.string ⟨#[116,104,117]⟩) w:=by
 unfold Instr.index;simp[go_sem]
theorem O6 (w:World):(Instr.index 217 (.agg #[.string ⟨#[109,111,110]⟩,.string ⟨#[116,117,101]⟩,.string ⟨#[119,101,100]⟩,.string ⟨#[116,104,117]⟩,.string ⟨#[102,114,105]⟩,.string ⟨#[115,97,116]⟩,.string ⟨#[115,117,110]⟩]) (ag 4)).run prog w= .ok (.string ⟨#[102,114,105]⟩) w:=by
 unfold Instr.index;simp[go_sem]
theorem O7 (w:World):(Instr.index 217 (.agg #[.string ⟨#[109,111,110]⟩,.string ⟨#[116,117,101]⟩,.string ⟨#[119,101,100]⟩,.string ⟨#[116,104,117]⟩,.string ⟨#[102,114,105]⟩,.string ⟨#[115,97,116]⟩,.string ⟨#[115,117,110]⟩]) (ag 5)).run prog w= .ok (.string ⟨#[115,97,116]⟩) w:=by
 unfold Instr.index;simp[go_sem]
theorem O8 (w:World):(Instr.index 217 (.agg #[.string ⟨#[109,111,110]⟩,.string ⟨#[116,117,101]⟩,.string ⟨#[119,101,100]⟩,.string ⟨#[116,104,117]⟩,.string ⟨#[102,114,105]⟩,.string ⟨#[115,97,116]⟩,.string ⟨#[115,117,110]⟩]) (ag 6)).run prog w= .ok (.string ⟨#[115,117,110]⟩) w:=by
 unfold Instr.index;simp[go_sem]
attribute [local go_sem] O2 O3 O4 O5 O6 O7 O8
theorem Gf (p:PS0 all E g v)(h:PSt all E g v w i n):Calls prog 237 #[ab g 0] w (xI all E g v w n (lL all E i)):=by
 have t0:=h.tab 0 (by omega);have t1:=h.tab 1 (by omega);have t2:=h.tab 2 (by omega);have D:=h.tab 3 (by omega);have F:=h.tab 4 (by omega);have G:=h.tab 5 (by omega);have H:=h.tab 6 (by omega);simp only[dO,List.getD_cons_zero,List.getD_cons_succ]at t0 t1 t2 D F G H;go_enter func237,ntmps237;go_wp2_with fail;go_loopw [3,4,6] (fun _ _ q wr=> ∃j:Nat,q=ag (j:Int)/\j<=7/\PSt all E g v wr i n/\bp g w wr/\ ∀k,k<j->textP (all.drop i)≠dO.getD k []) (fun _ _ q _=>7-(intOf q).toNat);case atStart=>exact⟨0,rfl,by omega,h,bp.refl _ _,fun k x=>by omega⟩
 case round=>
  obtain⟨j,rfl,I,d,c,y⟩:=hrel;have u:T4 (∀k,k<j->textP (all.drop i)≠dO.getD k []):=y;by_cases C:j<7
  ·have A:j=0\/j=1\/j=2\/j=3\/j=4\/j=5\/j=6:=(by omega);rcases A with rfl|rfl|rfl|rfl|rfl|rfl|rfl
   ·by_cases b:isT (dO.getD 0 []) (all.drop i)=true
    ·have m:T4 (lL all E i= .ok (((1:Nat):Int),i+1)):=by
      have t:=ry (textP (all.drop i)) 0 (by omega) (by simpa[isT] using b);show _=_;unfold lL;rw[t];rfl
     go_wp2_with fail;refine(gh p d _ (by decide) b).mono ?_;rintro e r ⟨rfl,f,a⟩;go_wp2_with fail;go_ret;rw[m.o];exact⟨rfl,f,c.trans a⟩
    ·have l:isT (dO.getD 0 []) (all.drop i)=false:=(by simpa using b)
     have s:T4 (∀k,k<1->textP (all.drop i)≠dO.getD k []):=fun k x=>by
      by_cases q:k=0
      ·subst q;simpa[isT] using b
      ·exact u.o k (by omega)
     go_wp2_with fail;refine(dY p d _ l).mono ?_;rintro e r ⟨rfl,f,a⟩;go_wp2_with fail;go_roundw;case rel=>exact⟨1,rfl,by omega,f,c.trans a,s.o⟩
     case measure=>simp[intOf]
   ·by_cases b:isT (dO.getD 1 []) (all.drop i)=true
    ·have m:T4 (lL all E i= .ok (((2:Nat):Int),i+1)):=by
      have t:=ry (textP (all.drop i)) 1 (by omega) (by simpa[isT] using b);show _=_;unfold lL;rw[t];rfl
     go_wp2_with fail;refine(gh p d _ (by decide) b).mono ?_;rintro e r ⟨rfl,f,a⟩;go_wp2_with fail;go_ret;rw[m.o];exact⟨rfl,f,c.trans a⟩
    ·have l:isT (dO.getD 1 []) (all.drop i)=false:=(by simpa using b)
     have s:T4 (∀k,k<2->textP (all.drop i)≠dO.getD k []):=fun k x=>by
      by_cases q:k=1
      ·subst q;simpa[isT] using b
      ·exact u.o k (by omega)
     go_wp2_with fail;refine(dY p d _ l).mono ?_;rintro e r ⟨rfl,f,a⟩;go_wp2_with fail;go_roundw;case rel=>exact⟨2,rfl,by omega,f,c.trans a,s.o⟩
     case measure=>simp[intOf]
   ·by_cases b:isT (dO.getD 2 []) (all.drop i)=true
    ·have m:T4 (lL all E i= .ok (((4:Nat):Int),i+1)):=by
      have t:=ry (textP (all.drop i)) 2 (by omega) (by simpa[isT] using b);show _=_;unfold lL;rw[t];rfl
     go_wp2_with fail;refine(gh p d _ (by decide) b).mono ?_;rintro e r ⟨rfl,f,a⟩;go_wp2_with fail;go_ret;rw[m.o];exact⟨rfl,f,c.trans a⟩
    ·have l:isT (dO.getD 2 []) (all.drop i)=false:=(by simpa using b)
     have s:T4 (∀k,k<3->textP (all.drop i)≠dO.getD k []):=fun k x=>by
      by_cases q:k=2
      ·subst q;simpa[isT] using b
      ·exact u.o k (by omega)
     go_wp2_with fail;refine(dY p d _ l).mono ?_;rintro e r ⟨rfl,f,a⟩;go_wp2_with fail;go_roundw;case rel=>exact⟨3,rfl,by omega,f,c.trans a,s.o⟩
     case measure=>simp[intOf]
   ·by_cases b:isT (dO.getD 3 []) (all.drop i)=true
    ·have m:T4 (lL all E i= .ok (((8:Nat):Int),i+1)):=by
      have t:=ry (textP (all.drop i)) 3 (by omega) (by simpa[isT] using b);show _=_;unfold lL;rw[t];rfl
     go_wp2_with fail;refine(gh p d _ (by decide) b).mono ?_;rintro e r ⟨rfl,f,a⟩;go_wp2_with fail;go_ret;rw[m.o];exact⟨rfl,f,c.trans a⟩
    ·have l:isT (dO.getD 3 []) (all.drop i)=false:=(by simpa using b)
     have s:T4 (∀k,k<4->textP (all.drop i)≠dO.getD k []):=fun k x=>by
      by_cases q:k=3
      ·subst q;simpa[isT] using b
      ·exact u.o k (by omega)
     go_wp2_with fail;refine(dY p d _ l).mono ?_;rintro e r ⟨rfl,f,a⟩;go_wp2_with fail;go_roundw;case rel=>exact⟨4,rfl,by omega,f,c.trans a,s.o⟩
     case measure=>simp[intOf]
   ·by_cases b:isT (dO.getD 4 []) (all.drop i)=true
    ·have m:T4 (lL all E i= .ok (((16:Nat):Int),i+1)):=by
      have t:=ry (textP (all.drop i)) 4 (by omega) (by simpa[isT] using b);show _=_;unfold lL;rw[t];rfl
     go_wp2_with fail;refine(gh p d _ (by decide) b).mono ?_;rintro e r ⟨rfl,f,a⟩;go_wp2_with fail;go_ret;rw[m.o];exact⟨rfl,f,c.trans a⟩
    ·have l:isT (dO.getD 4 []) (all.drop i)=false:=(by simpa using b)
     have s:T4 (∀k,k<5->textP (all.drop i)≠dO.getD k []):=fun k x=>by
      by_cases q:k=4
      ·subst q;simpa[isT] using b
      ·exact u.o k (by omega)
     go_wp2_with fail;refine(dY p d _ l).mono ?_;rintro e r ⟨rfl,f,a⟩;go_wp2_with fail;go_roundw;case rel=>exact⟨5,rfl,by omega,f,c.trans a,s.o⟩
     case measure=>simp[intOf]
   ·by_cases b:isT (dO.getD 5 []) (all.drop i)=true
    ·have m:T4 (lL all E i= .ok (((32:Nat):Int),i+1)):=by
      have t:=ry (textP (all.drop i)) 5 (by omega) (by simpa[isT] using b);show _=_;unfold lL;rw[t];rfl
     go_wp2_with fail;refine(gh p d _ (by decide) b).mono ?_;rintro e r ⟨rfl,f,a⟩;go_wp2_with fail;go_ret;rw[m.o];exact⟨rfl,f,c.trans a⟩
    ·have l:isT (dO.getD 5 []) (all.drop i)=false:=(by simpa using b)
     have s:T4 (∀k,k<6->textP (all.drop i)≠dO.getD k []):=fun k x=>by
      by_cases q:k=5
      ·subst q;simpa[isT] using b
      ·exact u.o k (by omega)
     go_wp2_with fail;refine(dY p d _ l).mono ?_;rintro e r ⟨rfl,f,a⟩;go_wp2_with fail;go_roundw;case rel=>exact⟨6,rfl,by omega,f,c.trans a,s.o⟩
     case measure=>simp[intOf]
   ·by_cases b:isT (dO.getD 6 []) (all.drop i)=true
    ·have m:T4 (lL all E i= .ok (((64:Nat):Int),i+1)):=by
      have t:=ry (textP (all.drop i)) 6 (by omega) (by simpa[isT] using b);show _=_;unfold lL;rw[t];rfl
     go_wp2_with fail;refine(gh p d _ (by decide) b).mono ?_;rintro e r ⟨rfl,f,a⟩;go_wp2_with fail;go_ret;rw[m.o];exact⟨rfl,f,c.trans a⟩
    ·have l:isT (dO.getD 6 []) (all.drop i)=false:=(by simpa using b)
     have s:T4 (∀k,k<7->textP (all.drop i)≠dO.getD k []):=fun k x=>by
      by_cases q:k=6
      ·subst q;simpa[isT] using b
      ·exact u.o k (by omega)
     go_wp2_with fail;refine(dY p d _ l).mono ?_;rintro e r ⟨rfl,f,a⟩;go_wp2_with fail;go_roundw;case rel=>exact⟨7,rfl,by omega,f,c.trans a,s.o⟩
     case measure=>simp[intOf]
  ·have B:j=7:=(by omega);subst B
   have m:T4 (lL all E i= .error (2,atP E (all.drop i))):=by
    show _=_;unfold lL;rw[ax (ME _ u.o)]
   go_wp2_with fail;refine(lK p d 2).mono ?_;rintro e r ⟨rfl,z⟩;refine⟨rfl,?_⟩;rw[m.o];exact⟨rfl,c.trans (bp.of_below z)⟩
end
section
variable {all:List Tk} {E g:Nat} {v:Value} {w:World} {i n:Nat}
def tK:Array Value:= #[ag 0,ag 0,ag 0,.string ⟨#[]⟩,af]
theorem bp.at {c:World}{k:Nat}{o:Obj}(h:bp g w c)(b:w.heap[k]? =some o)(a:k≠g):c.heap[k]? =some o:=(h.block k (aH b) (fun e=>a (ay e))).trans b
theorem j4 {z s:World}{X:Res}{e:Ending}(h:PSt all E g v w i n)(F:PS0 all E g v)(f:bp g w z)(y:z.heap[w.heap.size]? =ah tK 78)
  (o:jA all E g v z (fun k=>w.heap.size+1<=k) X e s):
  (∃C,e= .panicked C/\jA all E g v w (fun k=>w.heap.size<=k) X e s)\/
  (∃(a b c:Int) (x:ByteArray) (p:Option Addr) (q r:Nat),e= .returned (.agg #[ag a,ag b,ag c,.string x,.slice p q r])/\s.heap[w.heap.size]? =ah tK 78/\ ∀m,jA all E g v w (fun k=>w.heap.size<=k) X e (s.setRow w.heap.size m)):=by
 have G:=aH h.blk;cases hx:X with
 |error q=>
  obtain⟨er,at_⟩:=q;rw[hx]at o;obtain⟨rfl,d⟩:=o;exact .inl ⟨_,rfl,rfl,f.trans d⟩
 |ok q=>
  obtain⟨ex,L,K⟩:=q;rw[hx]at o;obtain⟨I,sl,D,u,rfl,j,A,t,d⟩:=o;obtain⟨J,B,rfl⟩:=j.form;have l:=f.trans d;refine .inr ⟨_,_,_,_,J,ex.kids.length,B,rfl,d.at y (by omega),fun m=> ?_⟩;refine⟨I,_,D,u,rfl,?_,h.of_kept F (l.setRow (aA _) m) ((aQ _ _ _ _ (by omega)).trans A.blk) A.le,t,l.setRow (aA _) m⟩;exact(j.kept fun k H _=>aQ _ _ _ _ (by omega)).mono fun k H=>(by omega)
theorem fD (i:Nat):(all.drop i).tail=all.drop (i+1):=by rw[List.tail_drop]
theorem nz (w:World):(w.alloc (.cells #[ag 0,ag 0,ag 0,.string ⟨#[]⟩,af] 78)).heap[w.heap.size]? =ah tK 78:=aB w _
def yV (E:Nat)(r:List Tk)(n:Nat):Res:=
 if kindP r≠4 then dN E 2 r
 else if isT ft r.tail then
  if kindP r.tail.tail≠4 then dN E 2 r.tail.tail
  else if numP r.tail.tail<numP r+1 then dN E 3 r.tail.tail
  else dp E ⟨3,numP r,numP r.tail.tail,[],[]⟩ r.tail.tail.tail n
 else dN E 2 r.tail
theorem MF (o:PS0 all E g v)(h:PSt all E g v w i n)(I:n<=600):
  Calls prog 220 #[ab g 0] w (jA all E g v w (fun k=>w.heap.size<=k) (yV E (all.drop i) n)):=by
 have R:=aH h.blk;have B:ao w (w.alloc (.cells #[ag 0,ag 0,ag 0,.string ⟨#[]⟩,af] 78)):=am _ _;have V:=nz w;have O:=h.below B o;have s:=bp.of_below (g:=g) B;have T:(w.alloc (.cells #[ag 0,ag 0,ag 0,.string ⟨#[]⟩,af] 78)).heap.size=w.heap.size+1:=by simp
 have Y:=s6 o i;unfold yV dN;simp only[fD];generalize U:w.alloc (.cells #[ag 0,ag 0,ag 0,.string ⟨#[]⟩,af] 78)=wA at*;by_cases t:kindP (all.drop i)=4
 ·have c1:=ru o O 4 (by decide) t;rw[aw (by simp[t])];unfold kG at c1;generalize numP (all.drop i)=N at*;generalize kindP (all.drop i)=t0 at*;by_cases D:isT ft (all.drop (i+1))=true
  ·rw[ax D];have z:=fun(l:World) (f:PSt all E g v l (i+1) n)=>pm o f ft (by decide) D;by_cases t:kindP (all.drop (i+1+1))=4
   ·rw[aw (by simp[t])];by_cases u:numP (all.drop (i+1+1))<N+1
    ·rw[ax u];have y:=fun(l:World) (f:PSt all E g v l (i+1+1) n)=>po o f 4 (N+1) t u;go_enter func220,ntmps220;go_wp2_with fail;refine c1.mono ?_;rintro e l ⟨rfl,f,d⟩;go_wp2_with fail;refine(z _ f).mono ?_;rintro e K ⟨rfl,A,j⟩;go_wp2_with fail;refine(y _ A).mono ?_;rintro e P ⟨rfl,m⟩;exact⟨rfl,rfl,((s.trans d).trans j).trans m⟩
    ·rw[aw u];have y:=fun(l:World) (f:PSt all E g v l (i+1+1) n)=>rx o f 4 (N+1) (by decide) t u;unfold kG at y;have Z:=s6 o (i+1+1);generalize numP (all.drop (i+1+1))=M at*;have L:=fun(l:World) (f:PSt all E g v l (i+1+1+1) n)=>kP o f I (fun k=>w.heap.size+1<=k) (fun k X=>by omega) ⟨3,N,M,[],[]⟩ (af) 0 (dr.nil _ _ _ _ _);unfold exV at L;go_enter func220,ntmps220;go_wp2_with fail;refine c1.mono ?_;rintro e l ⟨rfl,f,d⟩;go_wp2_with fail;refine(z _ f).mono ?_;rintro e K ⟨rfl,A,j⟩;go_wp2_with fail;refine(y _ A).mono ?_;rintro e P ⟨rfl,Q,m⟩;have G:=((s.trans d).trans j).trans m;have J:=((d.trans j).trans m).at V (by omega);go_wp2_with fail;refine(L _ Q).mono ?_;intro e w5 S;rcases j4 h o G J S with⟨W,rfl,F⟩|⟨a,b,c,x,p,q,r,rfl,C,F⟩
     ·exact⟨rfl,F⟩
     ·go_wp2_with(refine aC rfl 78 _ _ rfl _ _ rfl rfl _ _ C (by kernel_rfl) (by rfl) (by simp[Value.oneCell']) ?_)
      exact jT 2 (by kernel_rfl) w.heap.size _ _ _ _ _ rfl rfl (aK _ _ _ _ _ _ C) (F _)
   ·rw[ax t];have y:=fun(l:World) (f:PSt all E g v l (i+1+1) n)=>uu o f 4 (N+1) t;go_enter func220,ntmps220;go_wp2_with fail;refine c1.mono ?_;rintro e l ⟨rfl,f,d⟩;go_wp2_with fail;refine(z _ f).mono ?_;rintro e K ⟨rfl,A,j⟩;go_wp2_with fail;refine(y _ A).mono ?_;rintro e P ⟨rfl,m⟩;exact⟨rfl,rfl,((s.trans d).trans j).trans m⟩
  ·have H:isT ft (all.drop (i+1))=false:=(by simpa using D);rw[aw D];have z:=fun(l:World) (f:PSt all E g v l (i+1) n)=>qU o f ft H;go_enter func220,ntmps220;go_wp2_with fail;refine c1.mono ?_;rintro e l ⟨rfl,f,d⟩;go_wp2_with fail;refine(z _ f).mono ?_;rintro e K ⟨rfl,j⟩;exact⟨rfl,rfl,(s.trans d).trans j⟩
 ·have c1:=AR o O 4 t;rw[ax t];go_enter func220,ntmps220;go_wp2_with fail;refine c1.mono ?_;rintro e l ⟨rfl,d⟩;exact⟨rfl,rfl,s.trans d⟩
def RC (all:List Tk)(E g:Nat)(v:Value)(f:FuncId)(m i:Nat):Prop:= ∀(w:World) (n d:Nat),PSt all E g v w i n->n<=600->d<=41->
 Calls prog f #[ab g 0,ag (d:Int)] w (jA all E g v w (fun k=>w.heap.size<=k) (rd E m d ex0 (all.drop i) n))
def MG (all:List Tk)(E g:Nat)(v:Value)(w:World)(B:Nat->Prop)(x:Res)(e:Ending)(a:World):Prop:=
 match x with
 | .error (er,at_)=>e= .panicked (jm er at_)/\bp g w a
 | .ok (k,r,n)=> ∃(i b d:Nat),r=all.drop i/\e= .returned (.slice (some (ae b 0)) 1 1)/\dr B d a (.slice (some (ae b 0)) 1 1) [k]/\PSt all E g v a i n/\n<=600/\bp g w a
def rz (E d:Nat)(r:List Tk)(n:Nat):Res:=if isT ml r then rd E 4 (d+1) ex0 r.tail n else dN E 2 r
theorem uL (y:PS0 all E g v)(h:PSt all E g v w i n)(F:n<=600)(d:Nat)(V:d<=40)(L:RC all E g v 173 4 (i+1)):
  Calls prog 238 #[ab g 0,ag (d:Int)] w (MG all E g v w (fun k=>w.heap.size<=k) (rz E d (all.drop i) n)):=by
 have O:=aH h.blk;unfold rz;rw[fD];by_cases t:isT ml (all.drop i)=true
 ·rw[ax t];have c1:=pm y h ml (by decide) t;have I: ∀(j:World),PSt all E g v j (i+1) n->Calls prog 173 #[ab g 0,ag ((d:Int)+1)] j (jA all E g v j (fun k=>j.heap.size<=k) (rd E 4 (d+1) ex0 (all.drop (i+1)) n)):=fun j z=>L j n (d+1) z F (by omega);have M:(d:Int)<=40:=(by omega);have N:(0:Int)<=(d:Int):=(by omega);go_enter func238,ntmps238;go_wp2_with fail;refine c1.mono ?_;rintro e j ⟨rfl,z,c⟩;go_wp2_with fail;refine(I _ z).mono ?_;intro e l u;cases hx:rd E 4 (d+1) ex0 (all.drop (i+1)) n with
  |error q=>
   obtain⟨er,at_⟩:=q;rw[hx]at u;obtain⟨rfl,f⟩:=u;refine⟨rfl,?_⟩;rw[hx];exact⟨rfl,c.trans f⟩
  |ok q=>
   obtain⟨ex,X,W⟩:=q;rw[hx]at u;obtain⟨S,sl,U,G,rfl,p,J,D,f⟩:=u;obtain⟨x,s,rfl⟩:=p.form;have Q:=c.size;have R:=f.size;have A:=(c.trans f).alloc (.cells #[ag ex.kind,ag ex.a,ag ex.b,.string ⟨ex.name.toArray⟩,.slice x ex.kids.length s] 78);have m:ao l (l.alloc (.cells #[ag ex.kind,ag ex.a,ag ex.b,.string ⟨ex.name.toArray⟩,.slice x ex.kids.length s] 78)):=am _ _;have r:=(bp.of_below (g:=g) m).kids (B:=fun k=>w.heap.size<=k) (fun k P=>by omega) (p.mono fun k P=>by omega);have T:=Dl (B:=fun k=>w.heap.size<=k) (by show w.heap.size<=l.heap.size;omega) (aB l (.cells #[ag ex.kind,ag ex.a,ag ex.b,.string ⟨ex.name.toArray⟩,.slice x ex.kids.length s] 78)) r;have K:=J.below m y
   have H:T4 (MG all E g v w (fun k=>w.heap.size<=k) (rd E 4 (d+1) ex0 (all.drop (i+1)) n) (.returned (.slice (some (ae l.heap.size 0)) 1 1)) (l.alloc (.cells #[ag ex.kind,ag ex.a,ag ex.b,.string ⟨ex.name.toArray⟩,.slice x ex.kids.length s] 78))):=by
    show MG _ _ _ _ _ _ _ _ _;rw[hx];exact⟨S,_,_,G,rfl,T,K,D,A⟩
   unfold exV;go_wp2_with fail;go_ret;exact H.o
 ·have C:isT ml (all.drop i)=false:=by simpa using t
  rw[aw t];have c1:=qU y h ml C;go_enter func238,ntmps238;go_wp2_with fail;refine c1.mono ?_;rintro e j ⟨rfl,c⟩;exact⟨rfl,rfl,c⟩
theorem uM (E d:Nat)(e:Ex)(r:List Tk)(n:Nat):rd E 8 d e r n=dg (rz E d r n) fun k r n=>dp E ⟨e.kind,e.a,e.b,[],[k]⟩ r n:=by
 rw[QT];unfold rz;split
 ·rfl
 ·rfl
end
section
variable {all:List Tk} {E g:Nat} {v:Value} {w:World} {i n:Nat}
def uN (E d:Nat)(r:List Tk)(n:Nat):Res:=
 if kindP r≠5 then dN E 2 r
 else if isT wTo r.tail then
  if kindP r.tail.tail≠5 then dN E 2 r.tail.tail
  else if numP r.tail.tail<numP r then dN E 3 r.tail.tail
  else rd E 8 d ⟨5,numP r,numP r.tail.tail,[],[]⟩ r.tail.tail.tail n
 else rd E 8 d ⟨5,numP r,numP r,[],[]⟩ r.tail n
theorem J2 (p:PS0 all E g v)(h:PSt all E g v w i n)(P:n<=600)(d:Nat)(hd:d<=40)(hF: ∀j,i<j->RC all E g v 173 4 j):
  Calls prog 219 #[ab g 0,ag (d:Int)] w (jA all E g v w (fun k=>w.heap.size<=k) (uN E d (all.drop i) n)):=by
 have ad:=aH h.blk;have O:ao w (w.alloc (.cells #[ag 0,ag 0,ag 0,.string ⟨#[]⟩,af] 78)):=am _ _;have hz:=nz w;have hA:=h.below O p;have x:=bp.of_below (g:=g) O;unfold uN dN;simp only[fD];generalize ah:w.alloc (.cells #[ag 0,ag 0,ag 0,.string ⟨#[]⟩,af] 78)=wA at*;by_cases r:kindP (all.drop i)=5
 ·have c1:=ru p hA 5 (by decide) r;rw[aw (by simp[r])];unfold kG at c1;generalize numP (all.drop i)=N at*;generalize kindP (all.drop i)=t0 at*;by_cases R:isT wTo (all.drop (i+1))=true
  ·rw[ax R];have K:=fun(s:World) (m:PSt all E g v s (i+1) n)=>gh p m wTo (by decide) R;by_cases r:kindP (all.drop (i+1+1))=5
   ·rw[aw (by simp[r])];by_cases A:numP (all.drop (i+1+1))<N
    ·rw[ax A];have J:=fun(s:World) (m:PSt all E g v s (i+1+1) n)=>po p m 5 N r A;go_enter func219,ntmps219;go_wp2_with fail;refine c1.mono ?_;rintro e s ⟨rfl,m,b⟩;go_wp2_with fail;refine(K _ m).mono ?_;rintro e w2 ⟨rfl,L,f⟩;go_wp2_with fail;refine(J _ L).mono ?_;rintro e w3 ⟨rfl,c⟩;exact⟨rfl,rfl,((x.trans b).trans f).trans c⟩
    ·rw[aw A];have J:=fun(s:World) (m:PSt all E g v s (i+1+1) n)=>rx p m 5 N (by decide) r A;unfold kG at J;generalize numP (all.drop (i+1+1))=M at*;generalize W:rd E 8 d ⟨5,N,M,[],[]⟩ (all.drop (i+1+1+1)) n=X;have S:T4 (rd E 8 d ⟨5,N,M,[],[]⟩ (all.drop (i+1+1+1)) n=X):=W;go_enter func219,ntmps219;go_wp2_with fail;refine c1.mono ?_;rintro e s ⟨rfl,m,b⟩;go_wp2_with fail;refine(K _ m).mono ?_;rintro e w2 ⟨rfl,L,f⟩;go_wp2_with fail;refine(J _ L).mono ?_;rintro e w3 ⟨rfl,V,B⟩;have c:=((x.trans b).trans f).trans B;have y:=((b.trans f).trans B).at hz (by omega);have a:=S.o;rw[uM]at a;go_wp2_with fail;refine(uL p V P d hd (hF (i+1+1+1+1) (by omega))).mono ?_;intro e w5 t;cases hx:rz E d (all.drop (i+1+1+1)) n with
     |error q=>
      obtain⟨er,at_⟩:=q;rw[hx]at t;obtain⟨rfl,l⟩:=t;rw[hx]at a;refine⟨rfl,?_⟩;rw[<-a];exact⟨rfl,c.trans l⟩
     |ok q=>
      obtain⟨Q,rr,nn⟩:=q;rw[hx]at t;obtain⟨i',T,U,H,rfl,F,r,G,l⟩:=t;subst H;have ac:=c.size;have I:=l.at y (by omega);have Z:=aH y;have C:=kP p r G (fun k=>w.heap.size+1<=k) (fun k Y=>by omega) ⟨5,N,M,[],[Q]⟩ (.slice (some (ae T 0)) 1 1) U (F.mono fun k Y=>by omega);unfold exV at C;have u:=c.trans l;rw[hx]at a;rw[show dp E ⟨5,N,M,[],[Q]⟩ (all.drop i') nn=X from a]at C;go_wp2_with fail;refine C.mono ?_;intro e w6 t;rcases j4 h p u I t with⟨ch,rfl,D⟩|⟨a',b',c',x',p',q',r',rfl,z,D⟩
      ·exact⟨rfl,D⟩
      ·go_wp2_with(refine aC rfl 78 _ _ rfl _ _ rfl rfl _ _ z (by kernel_rfl) (by rfl) (by simp[Value.oneCell']) ?_)
       exact jT 4 (by kernel_rfl) w.heap.size _ _ _ _ _ rfl rfl (aK _ _ _ _ _ _ z) (D _)
   ·rw[ax r];have J:=fun(s:World) (m:PSt all E g v s (i+1+1) n)=>uu p m 5 N r;go_enter func219,ntmps219;go_wp2_with fail;refine c1.mono ?_;rintro e s ⟨rfl,m,b⟩;go_wp2_with fail;refine(K _ m).mono ?_;rintro e w2 ⟨rfl,L,f⟩;go_wp2_with fail;refine(J _ L).mono ?_;rintro e w3 ⟨rfl,c⟩;exact⟨rfl,rfl,((x.trans b).trans f).trans c⟩
  ·have aa:isT wTo (all.drop (i+1))=false:=(by simpa using R);rw[aw R];have K:=fun(s:World) (m:PSt all E g v s (i+1) n)=>dY p m wTo aa;generalize W:rd E 8 d ⟨5,N,N,[],[]⟩ (all.drop (i+1)) n=X;have S:T4 (rd E 8 d ⟨5,N,N,[],[]⟩ (all.drop (i+1)) n=X):=W;go_enter func219,ntmps219;go_wp2_with fail;refine c1.mono ?_;rintro e s ⟨rfl,m,b⟩;go_wp2_with fail;refine(K _ m).mono ?_;rintro e w3 ⟨rfl,V,f⟩;have c:=(x.trans b).trans f;have y:=(b.trans f).at hz (by omega);have a:=S.o;rw[uM]at a;go_wp2_with fail;refine(uL p V P d hd (hF (i+1+1) (by omega))).mono ?_;intro e w5 t;cases hx:rz E d (all.drop (i+1)) n with
   |error q=>
    obtain⟨er,at_⟩:=q;rw[hx]at t;obtain⟨rfl,l⟩:=t;rw[hx]at a;refine⟨rfl,?_⟩;rw[<-a];exact⟨rfl,c.trans l⟩
   |ok q=>
    obtain⟨Q,rr,nn⟩:=q;rw[hx]at t;obtain⟨i',T,U,H,rfl,F,r,G,l⟩:=t;subst H;have ac:=c.size;have I:=l.at y (by omega);have Z:=aH y;have C:=kP p r G (fun k=>w.heap.size+1<=k) (fun k Y=>by omega) ⟨5,N,N,[],[Q]⟩ (.slice (some (ae T 0)) 1 1) U (F.mono fun k Y=>by omega);unfold exV at C;have u:=c.trans l;rw[hx]at a;rw[show dp E ⟨5,N,N,[],[Q]⟩ (all.drop i') nn=X from a]at C;go_wp2_with fail;refine C.mono ?_;intro e w6 t;rcases j4 h p u I t with⟨ch,rfl,D⟩|⟨a',b',c',x',p',q',r',rfl,z,D⟩
    ·exact⟨rfl,D⟩
    ·go_wp2_with(refine aC rfl 78 _ _ rfl _ _ rfl rfl _ _ z (by kernel_rfl) (by rfl) (by simp[Value.oneCell']) ?_)
     exact jT 4 (by kernel_rfl) w.heap.size _ _ _ _ _ rfl rfl (aK _ _ _ _ _ _ z) (D _)
 ·have c1:=AR p hA 5 r;rw[ax r];go_enter func219,ntmps219;go_wp2_with fail;refine c1.mono ?_;rintro e s ⟨rfl,b⟩;exact⟨rfl,rfl,x.trans b⟩
def s8 (E d:Nat)(a:Nat)(r:List Tk)(n:Nat):Res:=if isT mW r then rd E 7 d ⟨0,(a:Int),0,[],[]⟩ r.tail n else rd E 8 d ⟨4,(a:Int),0,[],[]⟩ r n
theorem J3 (E d:Nat)(e:Ex)(r:List Tk)(n:Nat)(h:dayBit (textP r)=0):rd E 7 d e r n=dN E 2 r:=by rw[Hi,ax h]
theorem Gg (E d:Nat)(e:Ex)(r:List Tk)(n:Nat)(h:dayBit (textP r)≠0):rd E 7 d e r n=s8 E d (e.a.toNat|||dayBit (textP r)) r.tail n:=by rw[Hi,aw h];rfl
theorem J4 (x:List UInt8):dayBit x<128:=by
 unfold dayBit;repeat (split; ·omega)
 omega
theorem SD: ∀a:Fin 128,∀b:Fin 128,bits BinOp.or IntKind.i64 ((a.val:Nat):Int) ((b.val:Nat):Int)=((a.val|||b.val:Nat):Int):=by decide+kernel
theorem SE {a b:Nat}(ha:a<128)(c:b<128):bits BinOp.or IntKind.i64 (a:Int) (b:Int)=((a|||b:Nat):Int):=SD ⟨a,ha⟩ ⟨b,c⟩
theorem Hy {a b:Nat}(ha:a<128)(c:b<128):a|||b<128:=Nat.or_lt_two_pow (n:=7) ha c
theorem Hz (s:PS0 all E g v)(h:PSt all E g v w i n)(W:n<=600)(d:Nat)(hd:d<=40)(hF: ∀j,i<j->RC all E g v 173 4 j):
  Calls prog 218 #[ab g 0,ag (d:Int)] w (jA all E g v w (fun k=>w.heap.size<=k) (rd E 7 d ex0 (all.drop i) n)):=by
 have aj:=aH h.blk;have C:ao w (w.alloc (.cells #[ag 0,ag 0,ag 0,.string ⟨#[]⟩,af] 78)):=am _ _;have hz:=nz w;have hA:=h.below C s;have I:=bp.of_below (g:=g) C;have ai:=s.len;generalize ar:w.alloc (.cells #[ag 0,ag 0,ag 0,.string ⟨#[]⟩,af] 78)=wA at*;have c1:=Gf s hA;unfold lL at c1;by_cases f:dayBit (textP (all.drop i))=0
 ·rw[ax f]at c1;rw[J3 _ _ _ _ _ f];go_enter func218,ntmps218;go_wp2_with fail;refine c1.mono ?_;rintro e w1 ⟨rfl,t⟩;exact⟨rfl,rfl,I.trans t⟩
 ·rw[aw f]at c1;rw[Gg _ _ _ _ _ f,fD];have ha:=J4 (textP (all.drop i));have ez:(ex0.a.toNat|||dayBit (textP (all.drop i)))=dayBit (textP (all.drop i)):=(by show(0|||_)=_;exact Nat.zero_or _);rw[ez];generalize dayBit (textP (all.drop i))=a0 at*;generalize hX:s8 E d a0 (all.drop (i+1)) n=X;go_enter func218,ntmps218;go_wp2_with fail;refine c1.mono ?_;rintro e w1 ⟨rfl,N,t⟩;have G:=I.trans t;have ac:=t.at hz (by omega);go_wp2_with fail;go_loopw [5] (fun q wr=> ∃(a j:Nat),q=ag (a:Int)/\a<128/\i<j/\PSt all E g v wr j n/\bp g w wr/\wr.heap[w.heap.size]? =ah tK 78/\s8 E d a (all.drop j) n=X/\wr.heap[g]? =ah #[v,ag (j:Int),ag (E:Int),ag (n:Int)] 63) (fun _ wr=>all.length-(match wr.heap[g]? with|some (.cells cs _ _)=>(intOf (cs.getD 1 undef)).toNat|_=>0));case atStart=>exact⟨a0,i+1,rfl,ha,by omega,N,G,ac,hX,N.blk⟩
  case round=>
   obtain⟨a,j,rfl,ha,ak,J,y,L,c,D⟩:=hrel;by_cases F:isT mW (all.drop j)=true
   ·have al:=pj (by decide) F;have M:=gh s J mW (by decide) F;unfold s8 at c;rw[ax F,fD]at c;have P:=fun(w1:World) (N:PSt all E g v w1 (j+1) n)=>Gf s N;unfold lL at P;by_cases f:dayBit (textP (all.drop (j+1)))=0
    ·rw[J3 _ _ _ _ _ f]at c;have p:=P;simp only[ax f]at p;have A:T4 (X=dN E 2 (all.drop (j+1))):=c.symm;go_wp2_with fail;refine M.mono ?_;rintro e w2 ⟨rfl,Q,m⟩;go_wp2_with fail;refine(p _ Q).mono ?_;rintro e w3 ⟨rfl,l⟩;refine⟨rfl,?_⟩;rw[A.o];exact⟨rfl,(y.trans m).trans l⟩
    ·rw[Gg _ _ _ _ _ f,fD]at c;have p:=P;simp only[aw f]at p;have hb:=J4 (textP (all.drop (j+1)));have Y:=Hy ha hb
     have an:j+1+1<=all.length:=by
      have:=mX f;simp at this;omega
     have aa:((a:Int)).toNat=a:=(by omega);dsimp only at c;rw[aa]at c;have A:T4 (s8 E d (a|||dayBit (textP (all.drop (j+1)))) (all.drop (j+1+1)) n=X):=c;generalize dayBit (textP (all.drop (j+1)))=b at*;go_wp2_with fail;refine M.mono ?_;rintro e w2 ⟨rfl,Q,m⟩;go_wp2_with fail;refine(p _ Q).mono ?_;rintro e w3 ⟨rfl,B,l⟩;have x:=(m.trans l).at L (by omega);have T:=(y.trans m).trans l;go_wp2_with fail;go_roundw;case rel=>exact⟨a|||b,j+1+1,by rw[SE ha hb],Y,by omega,B,T,x,A.o,B.blk⟩
     case measure=>
      rw[B.blk,D];simp[intOf];omega
   ·have S:isT mW (all.drop j)=false:=(by simpa using F);have M:=dY s J mW S;unfold s8 at c;rw[aw F]at c;have A:T4 (rd E 8 d ⟨4,(a:Int),0,[],[]⟩ (all.drop j) n=X):=c;go_wp2_with fail;refine M.mono ?_;rintro e w3 ⟨rfl,B,m⟩;have l:=y.trans m;have x:=m.at L (by omega);have r:=A.o;rw[uM]at r;go_wp2_with fail;refine(uL s B W d hd (hF (j+1) (by omega))).mono ?_;intro e w5 z;cases hx:rz E d (all.drop (j)) n with
    |error q=>
     obtain⟨er,at_⟩:=q;rw[hx]at z;obtain⟨rfl,u⟩:=z;rw[hx]at r;refine⟨rfl,?_⟩;rw[<-r];exact⟨rfl,l.trans u⟩
    |ok q=>
     obtain⟨kx,rr,nn⟩:=q;rw[hx]at z;obtain⟨i',bk,dd,Z,rfl,U,h5,V,u⟩:=z;subst Z;have aq:=l.size;have ad:=u.at x (by omega);have ap:=aH x;have O:=kP s h5 V (fun k=>w.heap.size+1<=k) (fun k hk=>by omega) ⟨4,(a:Int),0,[],[kx]⟩ (.slice (some (ae bk 0)) 1 1) dd (U.mono fun k hk=>by omega);unfold exV at O;have H:=l.trans u;rw[hx]at r;rw[show dp E ⟨4,(a:Int),0,[],[kx]⟩ (all.drop i') nn=X from r]at O;go_wp2_with fail;refine O.mono ?_;intro e w6 z;rcases j4 h s H ad z with⟨ch,rfl,R⟩|⟨a',b',c',x',p',q',r',rfl,K,R⟩
     ·exact⟨rfl,R⟩
     ·go_wp2_with(refine aC rfl 78 _ _ rfl _ _ rfl rfl _ _ K (by kernel_rfl) (by rfl) (by simp[Value.oneCell']) ?_)
      exact jT 4 (by kernel_rfl) w.heap.size _ _ _ _ _ rfl rfl (aK _ _ _ _ _ _ K) (R _)
end
end Go.Proofs.YtpdoienkhgnceaaGreatDoor
