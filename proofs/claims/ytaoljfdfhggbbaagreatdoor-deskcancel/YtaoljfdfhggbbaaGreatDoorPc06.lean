/- Texts of the proof. -/
import Derived.Test.YtaoljfdfhggbbaaGreatDoorPc05
set_option maxRecDepth 100000
set_option maxHeartbeats 8000000
namespace Go.Proofs.YtaoljfdfhggbbaaGreatDoor
open Go.Proofs.Tryz Go.RowKit Lx Vx Mx Msk
namespace Lx
def atF:List Ru->Nat->List UInt8->Int
 |[],_,_=> -1
 |u::l,i,x=>if u.1=x then(i:Int) else atF l (i+1) x
theorem Js {l:List Ru}{j:Nat}{u:Ru}{x:List UInt8}(h:l[j]? =some u):atF (l.drop j) j x=if u.1=x then(j:Int) else atF (l.drop (j+1)) (j+1) x:=by
 obtain⟨a,b⟩:=aG.1 h;rw[bx a,b];rfl
theorem xk: ∀(l:List Ru) (i:Nat) (x:List UInt8),-1<=atF l i x/\atF l i x<i+l.length/\(0<=atF l i x->(i:Int)<=atF l i x)
 |[],i,x=>by simp[atF];omega
 |u::l,i,x=>by
  have:=xk l (i+1) x;simp only[atF,bJ];split
  ·omega
  ·omega
theorem GQ: ∀(l:List Ru) (i k:Nat) (x:List UInt8),atF l i x=((i+k:Nat):Int)-> ∃u,l[k]? =some u/\u.1=x
 |[],i,k,x,h=>by simp[atF]at h;omega
 |u::l,i,k,x,h=>by
  simp only[atF]at h;split at h
  ·rename_i c;have:k=0:=(by omega);subst this;exact⟨u,rfl,c⟩
  ·cases k with
   |zero=>
    have:=xk l (i+1) x;omega
   |succ k=>
    obtain⟨v,a,b⟩:=GQ l (i+1) k x (by rw[h];omega);exact⟨v,by simpa using a,b⟩
def atP5 (l:List Ru)(x:List UInt8):Int:=atF l 0 x
theorem GR {l:List Ru}{x:List UInt8}{k:Nat}(h:atP5 l x=(k:Int)): ∃u,l[k]? =some u/\u.1=x:=GQ l 0 k x (by rw[bN];exact h)
theorem ol (l:List Ru)(x:List UInt8): -1<=atP5 l x/\atP5 l x<l.length:=by
 have:=xk l 0 x;unfold atP5;omega
def nms (e:Ex):List (List UInt8):=(if e.kind=10 then [e.name] else [])++(e.kids.attach.map fun k=>nms k.1).flatten
 termination_by SizeOf.sizeOf e
 decreasing_by exact iS k.2
def jE (a:List Ex):List (List UInt8):=(a.map nms).flatten
theorem lP (e:Ex):nms e=(if e.kind=10 then [e.name] else [])++jE e.kids:=by
 rw[nms];congr 2;show List.map (nms∘Subtype.val) e.kids.attach=_;rw[<-jU,ik]
def gV (l:List Ru)(a:List Int)(xs:List (List UInt8)):List Int:=xs.foldl (fun a x=>addN a (atP5 l x)) a
theorem pK {l:List Ru}{m:Int}: ∀(xs:List (List UInt8)) (a:List Int),m∈gV l a xs↔m∈a\/ ∃x∈xs,atP5 l x=m
 |[],a=>by simp[gV]
 |y::xs,a=>by
  have:=pK (l:=l) (m:=m) xs (addN a (atP5 l y));show m∈gV l (addN a (atP5 l y)) xs↔_;rw[this,Bw];constructor
  ·rintro((h|h)|⟨x,b,c⟩)
   ·exact .inl h
   ·exact .inr ⟨y,bq,h.symm⟩
   ·exact .inr ⟨x,bH _ b,c⟩
  ·rintro(h|⟨x,b,c⟩)
   ·exact .inl (.inl h)
   ·rcases bv.1 b with rfl|b
    ·exact .inl (.inr c.symm)
    ·exact .inr ⟨x,b,c⟩
def fW (l:List Ru)(u:Ru):List Int:=gV l [] (nms u.2)
theorem sh {l:List Ru}: ∀(xs:List (List UInt8)) (c:List Int),c.Nodup->(∀m∈c,-1<=m/\m<l.length)->(gV l c xs).Nodup/\ ∀m∈gV l c xs,-1<=m/\m<l.length
 |[],c,d,f=>⟨d,f⟩
 |y::xs,c,d,f=>by
  refine sh xs (addN c (atP5 l y)) ?_ ?_
  ·unfold addN;split
   ·exact d
   ·rename_i h;rw[List.nodup_append];refine⟨d,by simp,fun a ha b i=> ?_⟩;simp at i;subst i;exact fun e=>h (e▸ha)
  ·intro m g;rcases(Bw _ _ _).1 g with g|rfl
   ·exact f m g
   ·exact ol l y
end Lx
def xl (w:World)(b:Nat)(o:Obj):World:={w with heap:=w.heap.setIfInBounds b o}
theorem CT {r n:Nat}{a w:World}(h:Below n a w)(c:n<=r)(o:Obj):Below n a (xl w r o):=
 ⟨h.os,h.tape,h.output,by simpa[xl] using h.size,fun k b=>by
   rw[<-h.block k b];show(w.heap.setIfInBounds r o)[k]? =_;rw[dn (by omega)]⟩
theorem bK {p:Prop}(h:p):PN p:=h
def dS (w:World)(v:Value)(a:List Int):Prop:= ∃p c,v= .slice p a.length c/\a.length<9223372036854775808/\ ∀(j:Nat) (n:Int),a[j]? =some n-> ∃g o:Nat,p=some ⟨g,o,none⟩/\w.cell? (ae g (o+j))=some (ag n)
theorem dS.below {w w':World}{v:Value}{a:List Int}(h:dS w v a)(i:aq w w'):dS w' v a:=by
 obtain⟨p,c,b,d,f⟩:=h;refine⟨p,c,b,d,fun j n l=> ?_⟩;obtain⟨g,o,e,k⟩:=f j n l;exact⟨g,o,e,aj i k⟩
def idxF:List Int->Nat->Int->Int
 |[],_,_=> -1
 |m::l,i,n=>if m=n then(i:Int) else idxF l (i+1) n
theorem GU {l:List Int}{j:Nat}{m n:Int}(h:l[j]? =some m):idxF (l.drop j) j n=if m=n then(j:Int) else idxF (l.drop (j+1)) (j+1) n:=by
 obtain⟨a,b⟩:=aG.1 h;rw[bx a,b];rfl
theorem Bx: ∀(l:List Int) (i:Nat) (n:Int),(0<=idxF l i n)↔n∈l
 |[],i,n=>by simp[idxF]
 |m::l,i,n=>by
  have:=Bx l (i+1) n;simp only[idxF,bv];by_cases h:m=n
  ·rw[aD h];constructor
   ·intro _;exact .inl h.symm
   ·intro _;omega
  ·rw[ax h,this];constructor
   ·exact .inr
   ·rintro(e|e)
    ·exact absurd e.symm h
    ·exact e
theorem ER (b:List Int)(v:Value)(n:Int)(w:World)(h:dS w v b):Calls prog 74 #[v,ag n] w fun r w'=>r= .returned (ag (idxF b 0 n))/\aq w w':=by
 obtain⟨p,c,rfl,x,u⟩:=h;have l:=bK u;clear u;go_enter func74,ntmps74;go_wp2_with fail;go_loopw [5,8] (fun _ t wr=> ∃j:Nat,t=ag (j:Int)/\j<=b.length/\idxF b 0 n=idxF (b.drop j) j n/\wr=w) (fun _ t _=>b.length-(intOf t).toNat);case atStart=>exact⟨0,rfl,by omega,rfl,rfl⟩
 case round=>
  obtain⟨j,rfl,A,d,rfl⟩:=hrel;have z:(0:Int)<=(j:Int):=(by omega);by_cases q:j<b.length
  ·have k:(j:Int)<(b.length:Int):=(by omega);obtain⟨m,f⟩: ∃p,b[j]? =some p:=⟨b[j],az q⟩
   rw[GU f]at d;obtain⟨g,o,s,c0⟩:=l.o j _ f;subst s;by_cases a:m=n
   ·rw[aD a]at d;have y:(n==m)=true:=(by rw[a];simp);have i:=bK d;clear d f l a;go_wp2_with fail;go_ret;exact⟨by(rw[i.o])<;>rfl,aI _ _⟩
   ·rw[ax a]at d;have y:(n==m)=false:=bj.2 (fun e=>a e.symm);have i:=bK d;clear d f a;go_wp2_with fail;go_roundw;case rel=>exact⟨j+1,by go_num,by omega,i.o,trivial⟩
    case measure=>simp[intOf];omega
  ·have k: ¬(j:Int)<(b.length:Int):=(by omega)
   have i:PN (idxF b 0 n= -1):=by
    show _=_;rw[d,dg (by omega)];rfl
   clear d l;go_wp2_with fail;go_ret;exact⟨by(rw[i.o])<;>rfl,aI _ _⟩
theorem jF (a:List Int)(v:Value)(n:Int)(w:World)(h:dS w v a):Calls prog 51 #[v,ag n] w fun r w'=>r= .returned (.bool (decide (n∈a)))/\aq w w':=by
 have c1:=ER a v n w h;obtain⟨p,c,rfl,_,_⟩:=h
 have f:PN (decide (n∈a)=decide (0<=idxF a 0 n)):=by
  show _=_;have d:=Bx a 0 n;by_cases b:n∈a
  ·rw[bm b,bm (d.2 b)]
  ·rw[bn b,bn (fun e=>b (d.1 e))]
 go_enter func51,ntmps51;go_wp2_with fail;refine c1.mono ?_;rintro r i ⟨rfl,g⟩;clear c1;generalize idxF a 0 n=q at*;go_wp2_with fail;go_ret;exact⟨by(rw[f.o])<;>rfl,g⟩
end Go.Proofs.YtaoljfdfhggbbaaGreatDoor
