/- Texts of the proof. -/
import Derived.Test.YtlkehieagdkgiaaGreatDoorPe26
import Derived.Test.YtlkehieagdkgiaaGreatDoorPe21
set_option maxRecDepth 100000
set_option maxHeartbeats 8000000
namespace Go.Proofs.YtlkehieagdkgiaaGreatDoor
open Go.Proofs.Tryz Go.RowKit Lx Vx Mx Msk
structure Ap where
 st:Int
 left:Int
 fr:Int
 to:Int
 sv:Int
 bef:Int
 aft:Int
 len:Int
 day:Int
 min:Int
 who:List Int
structure Dk where
 rules:List Ru
 res:List (List UInt8)
 svs:List Sv
 aps:List Ap
 vers:List Int
 given:Int
 kept:List Vx.Kp
 runs:Int
structure An where
 err:Int
 num:Int
 day:Int
 min:Int
 who:List Int
 list:List Int
structure Cm where
 kind:Int
 n:Int
 day:Int
 days:Int
 text:List UInt8
 name:List UInt8
 sv:Sv
 sday:Int
 smin:Int
 swho:List Int
def noA (e:Int):An:=⟨e,0,0,0,[],[]⟩
def jd (n:Int):An:=⟨0,n,0,0,[],[]⟩
def isN (n m:Int):Bool:=decide (0<=n)&&decide (n<m)
def sv0:Sv:=⟨0,0,0,[]⟩
def ap0:Ap:=⟨0,0,0,0,0,0,0,0,0,0,[]⟩
def fw (d:Dk)(r day:Int):M×Dk:=
 let k:=atP5 d.rules (d.res.getD r.toNat [])
 if k<0 then(noM,d) else
  let g:=jk (fd d.rules) d.kept d.runs (d.vers.getD k.toNat 0) k day
  (g.m,{d with kept:=g.l,runs:=g.n})
def kZ (r day b:Int):List Ap->Nat->List (Int×Int)
 |[],_=>[]
 |a::l,i=>if(i:Int)≠b/\a.st≠3/\a.day=day/\r∈a.who then(a.fr,a.to)::kZ r day b l (i+1) else kZ r day b l (i+1)
def rW (a b:M):M:=fun i=>(a i&& !b i)&&decide (i<1440)
def iH (d:Dk)(r day a:Int):M×Dk:=(rW (fw d r day).1 (inl (kZ r day a d.aps 0)),(fw d r day).2)
def jt {S:Type}(f:Int->S->Bool×S):List Int->S->Bool×S
 |[],d=>(false,d)
 |x::l,d=>if(f x d).1=true then(true,(f x d).2) else jt f l (f x d).2
def lc (day a fr to r:Int)(d:Dk):Bool×Dk:=(!ff (iH d r day a).1 fr to,(iH d r day a).2)
def lr (day fr to r:Int)(d:Dk):Bool×Dk:=(!ff (fw d r day).1 fr to,(fw d r day).2)
def qh (who:List Int)(roles:List (List Int)):Nat->Nat->Int
 |0,_=>0
 |m+1,i=>if who.getD i 0∉roles.getD i [] then 6 else if who.getD i 0∈who.take i then 7 else qh who roles m (i+1)
def jO (who:List Int)(roles:List (List Int)):Int:=if who.length≠roles.length then 5 else qh who roles who.length 0
def fh (d:Dk)(n:Int)(a:Ap)(day min:Int)(who:List Int):(Ap×Int)×Dk:=
 if isN day 146097=false\/isN min 1440=false then((ap0,3),d) else
 if min-a.bef<0\/1440<min+a.len+a.aft then((ap0,3),d) else
 if jO who (d.svs.getD a.sv.toNat sv0).roles≠0 then((ap0,jO who (d.svs.getD a.sv.toNat sv0).roles),d) else
 let b:=jt (lc day n (min-a.bef) (min+a.len+a.aft)) who d
 if b.1=true then((ap0,10),b.2) else(({a with fr:=min-a.bef,to:=min+a.len+a.aft,day:=day,min:=min,who:=who},0),b.2)
def lV (d:Dk)(n day min:Int)(who:List Int):An×Dk:=
 if isN n d.svs.length=false then(noA 6,d) else
 if 30<=d.aps.length then(noA 5,d) else
 let s:=d.svs.getD n.toNat sv0
 let p:=fh d (-1) ⟨1,10,0,0,n,s.bef,s.aft,s.len,0,0,[]⟩ day min who
 if p.1.2≠0 then(noA p.1.2,p.2) else(jd p.2.aps.length,{p.2 with aps:=p.2.aps++[p.1.1]})
def fy (a:Ap)(s:Int):Ap:={a with st:=s,left:=0}
def iL (d:Dk)(n:Int)(f:Ap->Dk->(Ap×Int)×Dk):An×Dk:=
 if isN n d.aps.length=false\/(d.aps.getD n.toNat ap0).st=3 then(noA 6,d) else
 let p:=f (d.aps.getD n.toNat ap0) d
 if p.1.2≠0 then(noA p.1.2,p.2) else(noA 0,{p.2 with aps:=p.2.aps.set n.toNat p.1.1})
def ib (t:Int)(a:Ap):Ap:=if a.st≠1 then a else if a.left-t<=0 then fy a 3 else {a with left:=a.left-t}
def rX (d:Dk)(t:Int):An×Dk:=if t<0\/1000<t then(noA 3,d) else(noA 0,{d with aps:=d.aps.map (ib t)})
def sA (d:Dk)(name:List UInt8):An×Dk:=
 if 12<=d.res.length then(noA 5,d) else if atP5 d.rules name<0 then(noA 7,d) else(jd d.res.length,{d with res:=d.res++[name]})
def sD (d:Dk)(s:Sv):An×Dk:=
 if 8<=d.svs.length then(noA 5,d) else if fD s d.res.length≠0 then(noA (fD s d.res.length),d) else(jd d.svs.length,{d with svs:=d.svs++[s]})
def gG (s:Sv)(day:Int):Nat->Nat->Dk->List M×Dk
 |0,_,d=>([],d)
 |m+1,r,d=>
  if s.roles.any (fun p=>decide ((r:Int)∈p))=true then
   let p:=iH d (r:Int) day (-1)
   let q:=gG s day m (r+1) p.2
   (p.1::q.1,q.2)
  else
   let q:=gG s day m (r+1) d
   (noM::q.1,q.2)
def iW (s:Sv)(day:Int):Nat->Nat->Dk->List (List M)×Dk
 |0,_,d=>([],d)
 |m+1,i,d=>
  let p:=gG s (day+i) d.res.length 0 d
  let q:=iW s day m (i+1) p.2
  (p.1::q.1,q.2)
def jI (d:Dk)(n day days:Int):An×Dk:=
 if isN n d.svs.length=false then(noA 6,d) else
 if isN day 146097=false\/days<1\/30<days\/146097<day+days then(noA 3,d) else
 let s:=d.svs.getD n.toNat sv0
 let q:=iW s day days.toNat 0 d
 let f:=ia s q.1
 if f.err≠0 then(noA f.err,q.2) else(⟨0,0,f.day+day,f.min,f.who,[]⟩,q.2)
def lX:Nat->Ex->Ex->Bool
 |0,_,_=>false
 |N+1,a,b=>decide (a.kind=b.kind)&&decide (a.a=b.a)&&decide (a.b=b.b)&&decide (a.name=b.name)&&(decide (a.kids.length=b.kids.length)&&(a.kids.zip b.kids).all fun p=>lX N p.1 p.2)
def qA (a b:Ru):Bool:=decide (a.1=b.1)&&lX (hgt a.2+1) a.2 b.2
def ju (c new:List Ru)(k:Int):Bool:=match c[k.toNat]?,new[k.toNat]? with
 |some a,some b=>decide ((c.length:Int)<=k)|| !qA a b
 |_,_=>true
def qB (d:Dk)(l:List Ru):List Int:=(List.range l.length).map fun(i:Nat)=>if ju d.rules l (i:Int)=true\/(gK l (i:Int)).any (ju d.rules l)=true then d.given+1 else d.vers.getD i 0
def fi:List Ap->Nat->Dk->List Int×Dk
 |[],_,d=>([],d)
 |a::l,i,d=>
  if a.st=3 then fi l (i+1) d else
  let p:=jt (lr a.day a.fr a.to) a.who d
  let q:=fi l (i+1) p.2
  (if p.1=true then(i:Int)::q.1 else q.1,q.2)
def oM (d:Dk)(r:Int×List Ru):An×Dk:=
 if r.1≠0 then(noA r.1,d) else
 let a:Dk:={d with rules:=r.2,vers:=qB d r.2,given:=d.given+1}
 let q:=fi a.aps 0 a
 (⟨0,0,0,0,[],q.1⟩,q.2)
section
def Rob (P:Nat->Prop)(Φ:World->Prop)(w:World):Prop:= ∀u:World,w.heap.size<=u.heap.size->(∀q,P q->q<w.heap.size->u.heap[q]? =w.heap[q]?)->Φ u
section
variable {P P':Nat->Prop} {Φ Ψ:World->Prop} {w w':World}
theorem Rob.here (h:Rob P Φ w):Φ w:=h w (aD _) fun _ _ _=>rfl
theorem Rob.move (h:Rob P Φ w)(c:w.heap.size<=w'.heap.size)(e: ∀q,P q->q<w.heap.size->w'.heap[q]? =w.heap[q]?)(d: ∀q,q<w.heap.size->P q->P' q):Rob P' Φ w':=
 fun u f ha=>h u (bg c f) fun q b a=>(ha q (d q a b) (aU a c)).trans (e q b a)
theorem Rob.below (h:Rob P Φ w)(a:aq w w'):Rob P Φ w':=h.move a.size (fun q _ b=>a.block q b) fun _ _ h=>h
theorem Rob.imp (h:Rob P Φ w)(hi: ∀u,Φ u->Ψ u):Rob P Ψ w:=fun u a ha=>hi u (h u a ha)
end
structure Tr where
 ev:Value
 sv:Value
 av:Value
 xs:List Nat
def Gx (gD:Nat)(t:Tr)(q:Nat):Prop:=q≠gD/\some q≠t.ev.ownBlock/\some q≠t.sv.ownBlock/\some q≠t.av.ownBlock
def Fx (gD:Nat)(t:Tr)(q:Nat):Prop:=Gx gD t q/\q∉t.xs
def Tr.add (t:Tr)(q:Nat):Tr:={t with xs:=q::t.xs}
def jU (n:List UInt8):Value:= .string ⟨n.toArray⟩
def svC (p:Sv×Value):Array Value:= #[ag p.1.len,ag p.1.bef,ag p.1.aft,p.2]
def apC (p:Ap×Value):Array Value:= #[ag p.1.st,ag p.1.left,ag p.1.fr,ag p.1.to,ag p.1.sv,ag p.1.bef,ag p.1.aft,ag p.1.len,ag p.1.day,ag p.1.min,p.2]
def svF (l:List (Sv×Value)):List Value:=l.flatMap fun p=>(svC p).toList
def apF (l:List (Ap×Value)):List Value:=l.flatMap fun p=>(apC p).toList
structure DkM (B gD:Nat)(d:Dk)(t:Tr)(rv cv vv kv:Value)(ss:List (Sv×Value))(aa:List (Ap×Value))(w:World):Prop where
 blk:w.heap[gD]? =ah #[rv,t.ev,t.sv,t.av,cv,vv,ag d.given,kv,ag d.runs] 73
 lo:B<=gD
 rules:Rob (Fx gD t) (fun u=> ∃us,InR u rv us/\us.map (fun p=>p.1)=d.rules) w
 codes:Rob (Fx gD t) (fun u=>InV u cv (fd d.rules)) w
 vers:Rob (Fx gD t) (fun u=>dM u vv d.vers) w
 kept:Rob (Fx gD t) (fun u=>eD 0 u kv d.kept) w
 res:w.ownsRow B 9 1 t.ev d.res.length (d.res.map jU)
 svs:w.ownsRow B 36 4 t.sv ss.length (svF ss)
 sve:ss.map (fun p=>p.1)=d.svs
 svr: ∀p∈ss,Rob (Fx gD t) (fun u=>fu u p.2 p.1.roles) w
 aps:w.ownsRow B 45 11 t.av aa.length (apF aa)
 ape:aa.map (fun p=>p.1)=d.aps
 apr: ∀p∈aa,Rob (Fx gD t) (fun u=>dM u p.2 p.1.who) w
 nx: ∀q∈t.xs,q<w.heap.size/\B<=q/\q≠gD/\some q≠t.ev.ownBlock/\some q≠t.sv.ownBlock/\some q≠t.av.ownBlock
structure uK (d:Dk):Prop where
 flt:iB d.rules=(0,0)
 vl:d.vers.length=d.rules.length
 kl:d.kept.length<=64
 rl:d.res.length<=12
 sl:d.svs.length<=8
 al:d.aps.length<=30
 gv:0<=d.given/\d.given<=1000000
 nm: ∀x∈d.res,x.length<=9223372036854775807
 sv: ∀s∈d.svs,fD s d.res.length=0
 ap: ∀a∈d.aps,(0<=a.sv/\a.sv<d.svs.length)/\(0<=a.fr/\a.fr<=a.to/\a.to<=1440)/\(0<=a.left/\a.left<=10)/\(0<=a.bef/\a.bef<=1440/\0<=a.aft/\a.aft<=1440/\0<=a.len/\a.len<=1440)/\(0<=a.day/\a.day<146097)/\a.who.length<=4/\ ∀r∈a.who,0<=r/\r<d.res.length
def dE (B gD:Nat)(d:Dk)(t:Tr)(w:World):Prop:=uK d/\ ∃rv cv vv kv ss aa,DkM B gD d t rv cv vv kv ss aa w
structure Kd (gD:Nat)(t t':Tr)(w w':World):Prop where
 os:w'.os=w.os
 tape:w'.tape=w.tape
 output:w'.output=w.output
 size:w.heap.size<=w'.heap.size
 blk: ∀q,Gx gD t q->q<w.heap.size->w'.heap[q]? =w.heap[q]?
 gx: ∀q,q<w.heap.size->Gx gD t q->Gx gD t' q
 xs:t'.xs=t.xs
section
variable {gD:Nat} {t t' t'':Tr} {w w' w'':World}
theorem Kd.of (h:aq w w'):Kd gD t t w w':=⟨h.os,h.tape,h.output,h.size,fun q _ a=>h.block q a,fun _ _ h=>h,rfl⟩
theorem Kd.trans (h:Kd gD t t' w w')(a:Kd gD t' t'' w' w''):Kd gD t t'' w w'':=
 ⟨a.os.trans h.os,a.tape.trans h.tape,a.output.trans h.output,bg h.size a.size,fun q c b=>(a.blk q (h.gx q b c) (aU b h.size)).trans (h.blk q c b),fun q b c=>a.gx q (aU b h.size) (h.gx q b c),a.xs.trans h.xs⟩
theorem Kd.rob {Φ:World->Prop}(h:Kd gD t t' w w')(c:Rob (Fx gD t) Φ w):Rob (Fx gD t') Φ w':=c.move h.size (fun q a=>h.blk q a.1) fun q b a=>⟨h.gx q b a.1,by rw[h.xs];exact a.2⟩
end
section
variable {B gD:Nat} {d:Dk} {t:Tr} {rv cv vv kv:Value} {ss:List (Sv×Value)} {aa:List (Ap×Value)} {w w':World}
theorem iI {a e size n:Nat}{v:Value}{xs:List Value}{g:Nat}{d:Array Value}{T:TypeId}(h:w.ownsRow a e size v n xs)(c:w.heap[g]? =ah d T)(l:T≠e):v.ownBlock≠some g:=fun q=>by
 rcases h.2 with⟨b,_⟩|⟨i,cap,f,b,_,j,_⟩
 ·rw[b]at q;cases q
 ·rw[b]at q;have:i=g:=aN q;subst this;rw[j]at c;injection c with m;injection m with _ k _;exact l k.symm
theorem DkM.below (h:DkM B gD d t rv cv vv kv ss aa w)(a:aq w w'):DkM B gD d t rv cv vv kv ss aa w':=
 ⟨ai a h.blk,h.lo,h.rules.below a,h.codes.below a,h.vers.below a,h.kept.below a,br h.res fun b c=>a.block b (h.res.lt b c).2,br h.svs fun b c=>a.block b (h.svs.lt b c).2,h.sve,fun p e=>(h.svr p e).below a,br h.aps fun b c=>a.block b (h.aps.lt b c).2,h.ape,fun p e=>(h.apr p e).below a,fun q c=>⟨aU (h.nx q c).1 a.size,(h.nx q c).2⟩⟩
theorem dE.below (h:dE B gD d t w)(b:aq w w'):dE B gD d t w':=by
 obtain⟨a,rv,cv,vv,kv,ss,aa,h⟩:=h;exact⟨a,_,_,_,_,_,_,h.below b⟩
theorem mq {a e size n:Nat}{v:Value}{xs:List Value}(h:w.ownsRow a e size v n xs){q:Nat}(b:q<a\/w.heap.size<=q):some q≠v.ownBlock:=fun e=>by
 have:=h.lt q e.symm;omega
theorem dE.fx (h:dE B gD d t w){q:Nat}(a:q<B\/w.heap.size<=q):Fx gD t q:=by
 obtain⟨_,rv,cv,vv,kv,ss,aa,h⟩:=h;have:=h.lo;have:=aI h.blk;exact⟨⟨by omega,mq h.res a,mq h.svs a,mq h.aps a⟩,fun b=>by have:=h.nx q b;omega⟩
theorem Kd.below {t':Tr}(h:dE B gD d t w)(a:Kd gD t t' w w')(c:B<=w.heap.size):Below B w w':=⟨a.os,a.tape,a.output,a.size,fun q b=>a.blk q (h.fx (.inl b)).1 (aU b c)⟩
theorem Kd.at {t':Tr}{b:World}{g:Nat}{c:Array Value}{T:TypeId}{f:Nat×Nat}(h:dE B gD d t b)(e:b.heap.size<=g)(i:Kd gD t t' w w')(a:w.heap[g]? =some (.cells c T f)):w'.heap[g]? =some (.cells c T f):=(i.blk g (h.fx (.inr e)).1 (aI a)).trans a
theorem DkM.put {c:Dk}{i f j g:Value}(h:DkM B gD d t rv cv vv kv ss aa w)(n:w.heap.size<=w'.heap.size)(k: ∀q,q<w.heap.size->q≠gD->w'.heap[q]? =w.heap[q]?)
  (y:w'.heap[gD]? =ah #[i,t.ev,t.sv,t.av,f,j,ag c.given,g,ag c.runs] 73) (r:c.res=d.res) (s:c.svs=d.svs) (v:c.aps=d.aps)
  (C:Rob (Fx gD t) (fun u=> ∃o,InR u i o/\o.map (fun p=>p.1)=c.rules) w') (z:Rob (Fx gD t) (fun u=>InV u f (fd c.rules)) w') (D:Rob (Fx gD t) (fun u=>dM u j c.vers) w') (l:Rob (Fx gD t) (fun u=>eD 0 u g c.kept) w'):DkM B gD c t i f j g ss aa w':=by
 have mv: ∀{Φ:World->Prop},Rob (Fx gD t) Φ w->Rob (Fx gD t) Φ w':=fun x=>x.move n (fun q a A=>k q A a.1.1) fun _ _ h=>h;refine⟨y,h.lo,C,z,D,l,?_,br h.svs fun b a=>k b (h.svs.lt b a).2 fun e=>iI h.svs h.blk (by decide) (by rw[a,e]),by rw[s];exact h.sve,fun p m=>mv (h.svr p m),br h.aps fun b a=>k b (h.aps.lt b a).2 fun e=>iI h.aps h.blk (by decide) (by rw[a,e]),by rw[v];exact h.ape,fun p m=>mv (h.apr p m),fun q a=>⟨aU (h.nx q a).1 n,(h.nx q a).2⟩⟩;rw[r];exact br h.res fun b a=>k b (h.res.lt b a).2 fun e=>iI h.res h.blk (by decide) (by rw[a,e])
theorem DkM.opened (h:DkM B gD d t rv cv vv kv ss aa w){q:Nat}(g:w.heap.size<=q)(n:w'.heap.size=q+1)(c:aq w w'):DkM B gD d (t.add q) rv cv vv kv ss aa w':=by
 have mv: ∀{Φ:World->Prop},Rob (Fx gD t) Φ w->Rob (Fx gD (t.add q)) Φ w':=fun l=>l.move c.size (fun q _ m=>c.block q m) fun k b j=>⟨j.1,fun i=>by
  rcases bO.1 i with e|i
  ·omega
  ·exact j.2 i⟩
 have a:=h.below c;refine⟨a.blk,a.lo,mv h.rules,mv h.codes,mv h.vers,mv h.kept,a.res,a.svs,a.sve,fun p f=>mv (h.svr p f),a.aps,a.ape,fun p f=>mv (h.apr p f),fun k b=> ?_⟩;rcases bO.1 b with rfl|b
 ·have:=aI h.blk;have:=h.lo;exact⟨by omega,by omega,by omega,mq h.res (.inr g),mq h.svs (.inr g),mq h.aps (.inr g)⟩
 ·exact a.nx k b
theorem dE.opened (h:dE B gD d t w){q:Nat}(c:w.heap.size<=q)(e:w'.heap.size=q+1)(b:aq w w'):dE B gD d (t.add q) w':=by
 obtain⟨a,rv,cv,vv,kv,ss,aa,h⟩:=h;exact⟨a,_,_,_,_,_,_,h.opened c e b⟩
theorem dE.closed {q:Nat}(h:dE B gD d (t.add q) w)(o:w.heap.size<=w'.heap.size)(c: ∀k,k<w.heap.size->k≠q->w'.heap[k]? =w.heap[k]?):dE B gD d t w':=by
 obtain⟨l,rv,cv,vv,kv,ss,aa,h⟩:=h;have g:=h.nx q (bq ..);have mv: ∀{Φ:World->Prop},Rob (Fx gD (t.add q)) Φ w->Rob (Fx gD t) Φ w':=fun m=>m.move o (fun k f n=>c k n fun e=>f.2 (by rw[e];exact bq ..)) fun k _ f=>⟨f.1,fun r=>f.2 (bL _ r)⟩
 refine⟨l,rv,cv,vv,kv,ss,aa,(c _ (aI h.blk) (fun e=>g.2.2.1 e.symm)).trans h.blk,h.lo,mv h.rules,mv h.codes,mv h.vers,mv h.kept,br h.res fun b a=>c b (h.res.lt b a).2 (fun e=>g.2.2.2.1 (by rw[<-e];exact a.symm)),br h.svs fun b a=>c b (h.svs.lt b a).2 (fun e=>g.2.2.2.2.1 (by rw[<-e];exact a.symm)),h.sve,fun p j=>mv (h.svr p j),br h.aps fun b a=>c b (h.aps.lt b a).2 (fun e=>g.2.2.2.2.2 (by rw[<-e];exact a.symm)),h.ape,fun p j=>mv (h.apr p j),fun k i=> ?_⟩;have:=h.nx k (bL _ i);exact⟨by omega,this.2⟩
theorem Kd.opened {q:Nat}{t':Tr}{d:World}(a:aq w d)(h:Kd gD (t.add q) (t'.add q) d w'):Kd gD t t' w w':=
 ⟨h.os.trans a.os,h.tape.trans a.tape,h.output.trans a.output,bg a.size h.size,fun k c b=>(h.blk k c (aU b a.size)).trans (a.block k b),fun k b c=>h.gx k (aU b a.size) c,(List.cons.inj h.xs).2⟩
theorem Kd.closed {q:Nat}{t':Tr}{a:World}(h:Kd gD t t' w a)(j:w.heap.size<=q)(e:w'.os=a.os)(g:w'.tape=a.tape)(i:w'.output=a.output)(f:a.heap.size<=w'.heap.size)(d: ∀k,k<a.heap.size->k≠q->w'.heap[k]? =a.heap[k]?):Kd gD t t' w w':=
 ⟨e.trans h.os,g.trans h.tape,i.trans h.output,bg h.size f,fun k c b=>(d k (aU b h.size) (by omega)).trans (h.blk k c b),h.gx,h.xs⟩
end
end
theorem bt {w w':World}{k:Nat}{c:Array Value}{T:TypeId}{f:Nat×Nat}(a:aq w w')(h:w.heap[k]? =some (.cells c T f)):w'.heap[k]? =some (.cells c T f):=ai a h
theorem cr {w:World}{g:Nat}{c:Array Value}{T:TypeId}{f:Nat×Nat}(k:Nat)(h:w.heap[g]? =some (.cells c T f)){v:Value}(e:c[k]? =some v):w.cell? (ae g k)=some v:=(aZ _ _ k _ _ _ h).trans e
theorem nb (w:World)(c:Array Value)(T:TypeId): ∃W,w.alloc (.cells c T)=W/\aq w W/\W.heap[w.heap.size]? =ah c T:=⟨_,rfl,am _ _,aG _ _⟩
def anC (a:An)(b lv:Value):Array Value:= #[ag a.err,ag a.num,ag a.day,ag a.min,b,lv]
theorem anT:prog.underlying 43=some (.struct (prog.fieldsOf 43)):=by kernel_rfl
theorem apT:prog.underlying 45=some (.struct (prog.fieldsOf 45)):=by kernel_rfl
theorem spT:prog.underlying 57=some (.struct (prog.fieldsOf 57)):=by kernel_rfl
theorem fj (e:Int)(w:World):Calls prog 41 #[ag e] w fun r w'=>r= .returned (.agg (anC (noA e) (af) (af)))/\aq w w':=by
 obtain⟨g,f,a,b⟩:=nb w #[ag 0,ag 0,ag 0,ag 0,af,af] 43;have d:=aE (aL _ _ _ #[ag e,ag 0,ag 0,ag 0,af,af] _ _ b);have c:=aE (below_setRow a (aD _) #[ag e,ag 0,ag 0,ag 0,af,af]);clear a;go_enter func41,ntmps41;go_wp2_with(refine az rfl 43 _ _ rfl _ _ rfl rfl _ _ b (by kernel_rfl) (by simp) (by simp[Value.oneCell']) ?_)
 refine aX (v:= .agg #[ag e,ag 0,ag 0,ag 0,af,af]) ?_ rfl ⟨rfl,c.o⟩;exact bf rfl _ _ w.heap.size _ _ _ _ rfl d.o anT rfl (by kernel_rfl)
theorem qH (n m:Int)(w:World):Calls prog 65 #[ag n,ag m] w fun r w'=>r= .returned (.bool (isN n m))/\w'=w:=by
 unfold isN;by_cases h:0<=n
 ·have a:decide (0<=n)=true:=bh h;go_enter func65,ntmps65;go_wp2_with fail;go_ret;exact⟨by rw[a];rfl,rfl⟩
 ·have a:decide (0<=n)=false:=bn h;go_enter func65,ntmps65;go_wp2_with fail;go_ret;exact⟨rfl,rfl⟩
theorem uL (a:Ap)(p:Option Addr)(c:Nat)(w:World):Calls prog 71 #[.agg (apC (a,.slice p a.who.length c))] w fun r w'=>r= .returned (.agg #[ag a.fr,ag a.to])/\aq w w':=by
 unfold apC;dsimp only;obtain⟨g,k,d,e⟩:=nb w #[ag a.st,ag a.left,ag a.fr,ag a.to,ag a.sv,ag a.bef,ag a.aft,ag a.len,ag a.day,ag a.min,.slice p a.who.length c] 45;obtain⟨m,l,b,f⟩:=nb g #[ag 0,ag 0] 57;have n:=cr 2 (bt b e) rfl;have q:=cr 3 (bt b e) rfl;have j:=aE (aL _ _ _ #[ag a.fr,ag a.to] _ _ f);have i:=aE (d.trans ((below_setRow b (aD _) #[ag a.fr,ag a.to]).mono d.size));clear d b e;go_enter func71,ntmps71;go_wp2_with(refine az rfl 57 _ _ rfl _ _ rfl rfl _ _ f (by kernel_rfl) (by simp) (by simp[Value.oneCell']) ?_)
 refine aX (v:= .agg #[ag a.fr,ag a.to]) ?_ rfl ⟨rfl,i.o⟩;exact bf rfl _ _ g.heap.size _ _ _ _ rfl j.o spT rfl (by kernel_rfl)
theorem sE (a:Ap)(s:Int)(p:Option Addr)(c:Nat)(w:World):Calls prog 36 #[.agg (apC (a,.slice p a.who.length c)),ag s] w fun r w'=>r= .returned (.agg (apC (fy a s,.slice p a.who.length c)))/\aq w w':=by
 unfold apC fy;dsimp only;obtain⟨g,A,j,m⟩:=nb w #[ag a.st,ag a.left,ag a.fr,ag a.to,ag a.sv,ag a.bef,ag a.aft,ag a.len,ag a.day,ag a.min,.slice p a.who.length c] 45;obtain⟨i,B,k,t⟩:=nb g #[ag 0,ag 0,ag 0,ag 0,ag 0,ag 0,ag 0,ag 0,ag 0,ag 0,af] 45;have b:=bt k m;have d:w.heap.size≠g.heap.size:=by have:=aI m;omega
 have E:=cr 0 b rfl;have F:=cr 1 b rfl;have C:=bo _ _ 0 _ _ b;have D:=bo _ _ 1 _ _ b;have l:=aY _ _ 1 _ _ (ag 0) (aY i w.heap.size 0 _ _ (ag s) b);have q:((i.setCell ⟨w.heap.size,0,none⟩ (ag s)).setCell ⟨w.heap.size,1,none⟩ (ag 0)).heap[g.heap.size]? =i.heap[g.heap.size]? :=(aO _ _ _ _ (fun e=>d e.symm)).trans (aO _ _ _ _ (fun e=>d e.symm));have f:=q.trans t;have n:=((aw j k).setCell (p:=⟨w.heap.size,0,none⟩) (aD _) (ag s)).setCell (p:=⟨w.heap.size,1,none⟩) (aD _) (ag 0);generalize y:(i.setCell ⟨w.heap.size,0,none⟩ (ag s)).setCell ⟨w.heap.size,1,none⟩ (ag 0)=z at*;replace l:z.heap[w.heap.size]? =ah #[ag s,ag 0,ag a.fr,ag a.to,ag a.sv,ag a.bef,ag a.aft,ag a.len,ag a.day,ag a.min,.slice p a.who.length c] 45:=l;have x:=aE (aL _ _ _ #[ag s,ag 0,ag a.fr,ag a.to,ag a.sv,ag a.bef,ag a.aft,ag a.len,ag a.day,ag a.min,.slice p a.who.length c] _ _ f);have u:=aE (below_setRow n j.size #[ag s,ag 0,ag a.fr,ag a.to,ag a.sv,ag a.bef,ag a.aft,ag a.len,ag a.day,ag a.min,.slice p a.who.length c]);clear j k n m b q t;go_enter func36,ntmps36;go_wp2_with(first|(refine aR rfl 45 _ rfl _ rfl _ _ _ _ l apT rfl (by kernel_rfl) ?_)|(refine az rfl 45 _ _ rfl _ _ rfl rfl _ _ f (by kernel_rfl) (by simp) (by simp[Value.oneCell']) ?_))
 refine aX (v:= .agg #[ag s,ag 0,ag a.fr,ag a.to,ag a.sv,ag a.bef,ag a.aft,ag a.len,ag a.day,ag a.min,.slice p a.who.length c]) ?_ rfl ⟨rfl,u.o⟩;exact bf rfl _ _ g.heap.size _ _ _ _ rfl x.o apT rfl (by kernel_rfl)
section
section
variable {B B':Nat->Prop}
theorem fP.at {d:Nat}{w:World}{sl:Value}{f:List Ex}(h:fP B d w sl f){j:Nat}{k:Ex}(e:f[j]? =some k): ∃(i g o c:Nat) (p:Option Addr) (q:Nat),d=i+1/\sl= .slice (some (ae g o)) f.length c/\w.cell? (ae g (o+j*5))=some (ag k.kind)/\w.cell? (ae g (o+j*5+1))=some (ag k.a)/\w.cell? (ae g (o+j*5+2))=some (ag k.b)/\
   w.cell? (ae g (o+j*5+3))=some (.string ⟨k.name.toArray⟩)/\w.cell? (ae g (o+j*5+4))=some (.slice p k.kids.length q)/\fP B i w (.slice p k.kids.length q) k.kids:=by
 cases d with
 |zero=>rw[h.1]at e;simp at e
 |succ d=>
  rcases h with⟨h,_⟩|⟨g,o,c,_,t,_,s⟩
  ·rw[h]at e;simp at e
  ·obtain⟨_,u,c0,c1,l,m,n,r⟩:=s j k e;obtain⟨p,q,rfl⟩:=r.form;exact⟨d,g,o,c,p,q,rfl,t,c0,c1,l,m,n,r⟩
def uM (f:Ex->Ex->Bool)(a b:List Ex):Bool:=(a.zip b).all fun p=>f p.1 p.2
theorem Ji (f:Ex->Ex->Bool){a b:List Ex}{j:Nat}{x y:Ex}(i:a[j]? =some x)(k:b[j]? =some y):uM f (a.drop j) (b.drop j)=(f x y&&uM f (a.drop (j+1)) (b.drop (j+1))):=by
 obtain⟨c,d⟩:=aF.1 i;obtain⟨e,g⟩:=aF.1 k;rw[bJ c,d,bJ e,g];rfl
def BI (d:Nat):Prop:= ∀(B B':Nat->Prop) (N j:Nat) (a b:Ex) (g i:Option Addr) (c f:Nat) (w:World),(∀k,B k->k<w.heap.size)->(∀k,B' k->k<w.heap.size)->hgt a<N->fP B d w (.slice g a.kids.length c) a.kids->fP B' j w (.slice i b.kids.length f) b.kids->
 Calls prog 136 #[.agg #[ag a.kind,ag a.a,ag a.b,.string ⟨a.name.toArray⟩,.slice g a.kids.length c],.agg #[ag b.kind,ag b.a,ag b.b,.string ⟨b.name.toArray⟩,.slice i b.kids.length f]] w fun e w'=>e= .returned (.bool (lX N a b))/\aq w w'
theorem NO {d:Nat}(ih: ∀F,F<d->BI F)(N F:Nat)(xs ys:List Ex)(pa pb:Option Addr)(ca cb:Nat)(w:World)(P: ∀k,B k->k<w.heap.size)(u: ∀k,B' k->k<w.heap.size)(hN: ∀a∈xs,hgt a<N)(ha:fP B d w (.slice pa xs.length ca) xs)(hb:fP B' F w (.slice pb ys.length cb) ys):
  Calls prog 161 #[.slice pa xs.length ca,.slice pb ys.length cb,.func (.func 136) #[] #[]] w fun e w'=>e= .returned (.bool (decide (xs.length=ys.length)&&uM (lX N) xs ys))/\aq w w':=by
 obtain⟨n,S⟩:=au xs.length;obtain⟨m,R⟩:=au ys.length;have Y:=aE ha;have HB:=aE hb;rw[S,R];have r:=aE S;have HM:=aE R;have HI:=aE ih;have HL:=aE hN;have HK:=aE P;have J:=aE u;clear ha hb S R ih hN P u;by_cases l:n=m
 ·have E:((n:Int) !=(m:Int))=false:=by simp[l]
  have I:=aE l
  have ac:(n:Int)<9223372036854775808:=by
   by_cases h0:0<n
   ·have O:=Y.o;rw[r.o]at O;cases d with
    |zero=>have:=O.1;have:=r.o;simp_all
    |succ d=>
     rcases O with⟨h,_⟩|⟨_,_,_,_,_,G,_⟩
     ·have:=r.o;rw[h]at this;simp at this;omega
     ·have:=r.o;omega
   ·omega
  clear l;go_enter func161,ntmps161;go_wp2_with fail;go_loopw [7,8,9,17] (fun _ _ _ q wr=> ∃j:Nat,q=ag (j:Int)/\j<=n/\uM (lX N) xs ys=uM (lX N) (xs.drop j) (ys.drop j)/\aq w wr) (fun _ _ _ q _=>n-(intOf q).toNat);case atStart=>exact⟨0,rfl,by omega,rfl,aH _ _⟩
  case round=>
   obtain⟨j,rfl,hj,s,c⟩:=hrel;have ab:(0:Int)<=(j:Int):=(by omega);by_cases ad:j<n
   ·have D:(j:Int)<(n:Int):=(by omega);have aa:(j:Int)<(m:Int):=(by have:=I.o;omega);obtain⟨x,H⟩: ∃x,xs[j]? =some x:=⟨xs[j]'(by have:=r.o;omega),ay _⟩
    obtain⟨y,T⟩: ∃y,ys[j]? =some y:=⟨ys[j]'(by have:=HM.o;have:=I.o;omega),ay _⟩
    rw[Ji _ H T]at s;obtain⟨d1,g1,o1,c1,p1,q1,e1,V,Z,a1,a2,a3,a4,r1⟩:=Y.o.at H;obtain⟨d2,g2,o2,c2,p2,q2,e2,W,b0,b1,b2,b3,b4,r2⟩:=HB.o.at T;injection V with V _ s3;injection W with W _ s4;subst V W s3 s4;replace Z:=aj c Z;replace a1:=aj c a1;replace a2:=aj c a2;replace a3:=aj c a3;replace a4:=aj c a4;obtain⟨wA,hA,bA,nA⟩:=nb wr #[ag x.kind,ag x.a,ag x.b,.string ⟨x.name.toArray⟩,.slice p1 x.kids.length q1] 84;have f:=aw c bA;replace b0:=aj f b0;replace b1:=aj f b1;replace b2:=aj f b2;replace b3:=aj f b3;replace b4:=aj f b4;obtain⟨X,P,M,nB⟩:=nb wA #[ag y.kind,ag y.a,ag y.b,.string ⟨y.name.toArray⟩,.slice p2 y.kids.length q2] 84;have i:=aw f M;have U:=bt M nA;have v: ∀k,B k->k<X.heap.size:=fun k Q=>aU (HK.o k Q) i.size;have p: ∀k,B' k->k<X.heap.size:=fun k Q=>aU (J.o k Q) i.size;have cS:=HI.o d1 (by omega) B B' N d2 x y p1 p2 q1 q2 X v p (HL.o x (aM H)) (r1.kept fun g hg G=>i.block g G) (r2.kept fun g hg G=>i.block g G);obtain⟨bb,A⟩:=au (lX N x y);rw[A]at cS s;have K:=aE s;have t:=aE i;clear s A r1 r2 v p bA M f i c H T e1 e2 nA;go_wp2_with(first|(refine aR rfl 84 _ rfl _ rfl _ _ _ _ U fo rfl (by kernel_rfl) ?_)|(refine aR rfl 84 _ rfl _ rfl _ _ _ _ nB fo rfl (by kernel_rfl) ?_))
    refine cS.mono ?_;rintro e w1 ⟨rfl,z⟩;have C:=aw t.o z;clear cS z t;cases bb with
    |true=>
     go_wp2_with fail;go_roundw;case rel=>exact⟨j+1,by go_num,by omega,K.o,C⟩
     case measure=>simp[intOf];omega
    |false=>
     have L:Rb (uM (lX N) xs ys=false):=K.o;clear K;go_wp2_with fail;go_ret;exact⟨by rw[L.o,jo];rfl,C⟩
   ·have D: ¬(j:Int)<(n:Int):=(by omega)
    have L:Rb (uM (lX N) xs ys=true):=by
     show _=_;rw[s,dq (by have:=r.o;omega)];rfl
    clear s;go_wp2_with fail;go_ret;exact⟨by rw[L.o];simp[I.o],c⟩
 ·have E:((n:Int) !=(m:Int))=true:=by
   simp only[bne_iff_ne,ne_eq];omega
  have hd:decide (n=m)=false:=bn l;go_enter func161,ntmps161;go_wp2_with fail;go_ret;exact⟨by rw[hd];rfl,aH _ _⟩
theorem Jj (d:Nat)(O: ∀C,C<d->BI C):BI d:=by
 intro B B' N C a b Q R J K w L x W ha M;obtain⟨N,rfl⟩: ∃q,N=q+1:=⟨N-1,by omega⟩
 obtain⟨X,V,I,P⟩:=nb w #[ag a.kind,ag a.a,ag a.b,.string ⟨a.name.toArray⟩,.slice Q a.kids.length J] 84;obtain⟨Y,H,D,u⟩:=nb X #[ag b.kind,ag b.a,ag b.b,.string ⟨b.name.toArray⟩,.slice R b.kids.length K] 84;have f:=aw I D;have i:=bt D P;have c:=NO O N C a.kids b.kids Q R J K Y (fun k z=>aU (L k z) f.size) (fun k z=>aU (x k z) f.size) (fun k z=>by have:=Ey z;omega) (ha.kept fun g _ E=>f.block g E) (M.kept fun g _ E=>f.block g E);have t:Rb (lX (N+1) a b=(decide (a.kind=b.kind)&&decide (a.a=b.a)&&decide (a.b=b.b)&&decide (a.name=b.name)&&(decide (a.kids.length=b.kids.length)&&uM (lX N) a.kids b.kids))):=rfl;have x0:=cr 0 i rfl;have x1:=cr 1 i rfl;have x2:=cr 2 i rfl;have x3:=cr 3 i rfl;have Z:=cr 4 i rfl;have y0:=cr 0 u rfl;have y1:=cr 1 u rfl;have y2:=cr 2 u rfl;have y3:=cr 3 u rfl;have y4:=cr 4 u rfl;have v:=aE f;obtain⟨n,G⟩:=au a.kids.length;obtain⟨m,F⟩:=au b.kids.length;rw[G,F]at c t;rw[G]at Z V⊢;rw[F]at y4 H⊢;clear O L x W ha M I D P u i f G F;by_cases j:a.kind=b.kind
 ·have S:(a.kind==b.kind)=true:=by simp[j]
  by_cases l:a.a=b.a
  ·have T:(a.a==b.a)=true:=(by simp[l]);by_cases r:a.b=b.b
   ·have U:(a.b==b.b)=true:=(by simp[r]);have A:=rJ a.name b.name;by_cases s:a.name=b.name
    ·rw[bh s]at A;have p:=aE (fV j (fV l (fV r s)));clear j l r s;go_enter func136,ntmps136;go_wp2_with fail;refine c.mono ?_;rintro e w1 ⟨rfl,y⟩;have f:=aw v.o y;clear c y;go_wp2_with fail;go_ret;obtain⟨j,l,r,s⟩:=p.o;exact⟨by rw[t.o];simp[j,l,r,s],f⟩
    ·rw[bn s]at A;have p:=aE s;clear c j l r s;go_enter func136,ntmps136;go_wp2_with fail;go_ret;exact⟨by rw[t.o];simp[p.o],v.o⟩
   ·have U:(a.b==b.b)=false:=(by simp[r]);have p:=aE r;clear c j l r;go_enter func136,ntmps136;go_wp2_with fail;go_ret;exact⟨by rw[t.o];simp[p.o],v.o⟩
  ·have T:(a.a==b.a)=false:=(by simp[l]);have p:=aE l;clear c j l;go_enter func136,ntmps136;go_wp2_with fail;go_ret;exact⟨by rw[t.o];simp[p.o],v.o⟩
 ·have S:(a.kind==b.kind)=false:=by simp[j]
  have p:=aE j;clear c j;go_enter func136,ntmps136;go_wp2_with fail;go_ret;exact⟨by rw[t.o];simp[p.o],v.o⟩
theorem Lo (d:Nat):BI d:=by
 induction d using Nat.strongRecOn with
 |ind d a=>exact Jj d a
end
end
def nh {S:Type}(f:Int->S->Bool×S):List Int->Nat->S->Int×S
 |[],_,s=>(-1,s)
 |x::l,j,s=>if(f x s).1=true then((j:Int),(f x s).2) else nh f l (j+1) (f x s).2
theorem C2 {S:Type}(f:Int->S->Bool×S): ∀(l:List Int) (j:Nat) (s:S),decide (0<=(nh f l j s).1)=(jt f l s).1/\(nh f l j s).2=(jt f l s).2
 |[],j,s=>⟨rfl,rfl⟩
 |x::l,j,s=>by
  unfold nh jt;by_cases h:(f x s).1=true
  ·rw[aB h,aB h];exact⟨bh (by show(0:Int)<=(j:Int);omega),rfl⟩
  ·rw[ax h,ax h];exact C2 f l (j+1) _
theorem Jk {S:Type}(f:Int->S->Bool×S){l:List Int}{j:Nat}{x:Int}(s:S)(h:l[j]? =some x):nh f (l.drop j) j s=if(f x s).1=true then((j:Int),(f x s).2) else nh f (l.drop (j+1)) (j+1) (f x s).2:=by
 obtain⟨a,b⟩:=aF.1 h;rw[bJ a,b];rfl
theorem Gy {S:Type}(f:Int->S->Bool×S)(Φ:S->World->Prop)(F:Nat)(m:Array Value)(a:List Int)(v:Value)(s:S)(w:World)(Z: ∀l w,(callFunc F l).run prog w= .ok (.enter F l) w)(E:Φ s w)(i: ∀s w,Φ s w->dM w v a)
  (N: ∀x∈a,∀s w,Φ s w->Calls prog F (#[ag x]++m) w fun e w'=>e= .returned (.bool (f x s).1)/\Φ (f x s).2 w'):
  Calls prog 114 #[v,.func (.func F) #[] m] w fun e w'=>e= .returned (ag (nh f a 0 s).1)/\Φ (nh f a 0 s).2 w':=by
 obtain⟨p,c,rfl,u,J⟩:=i s w E;clear J;have L:=aE i;have P:=aE N;have O:=aE E;obtain⟨n,B⟩:=au a.length;have K:=aE B;rw[B]at u L;have X:(n:Int)<9223372036854775808:=by omega
 rw[B];clear i N E B;go_enter func114,ntmps114;go_wp2_with fail;go_loopw [5,8] (fun _ t wr=> ∃(j:Nat) (k:S),t=ag (j:Int)/\j<=n/\Φ k wr/\nh f a 0 s=nh f (a.drop j) j k) (fun _ t _=>n-(intOf t).toNat);case atStart=>exact⟨0,s,rfl,by omega,O.o,rfl⟩
 case round=>
  obtain⟨j,k,rfl,hj,C,r⟩:=hrel;have V:(0:Int)<=(j:Int):=(by omega);by_cases W:j<n
  ·have y:(j:Int)<(n:Int):=(by omega);obtain⟨x,D⟩: ∃x,a[j]? =some x:=⟨a[j]'(by have:=K.o;omega),ay _⟩
   rw[Jk f k D]at r;obtain⟨p',Y,Q,H,d⟩:=L.o k wr C;injection Q with R U T;subst R T;clear U H;obtain⟨g,o,I,G⟩:=d j x D;subst I;have c1:=P.o x (aM D) k wr C;obtain⟨b,M⟩:=au ((f x k).1);rw[M]at c1 r;have A:=aE r;clear r M D d C;go_wp2_with fail;refine c1.mono ?_;rintro e w1 ⟨rfl,z⟩;clear c1 G;cases b with
   |true=>
    have q:Rb (nh f a 0 s=((j:Int),(f x k).2)):=A.o;clear A;go_wp2_with fail;go_ret;exact⟨by rw[q.o];rfl,by rw[q.o];exact z⟩
   |false=>
    have q:Rb (nh f a 0 s=nh f (a.drop (j+1)) (j+1) (f x k).2):=A.o;clear A;go_wp2_with fail;go_roundw;case rel=>exact⟨j+1,_,by go_num,by omega,z,q.o⟩
    case measure=>simp[intOf];omega
  ·have y: ¬(j:Int)<(n:Int):=(by omega)
   have q:Rb (nh f a 0 s=(-1,k)):=by
    show _=_;rw[r,dq (by have:=K.o;omega)];rfl
   clear r;go_wp2_with fail;go_ret;exact⟨by rw[q.o];rfl,by rw[q.o];exact C⟩
theorem qi {S:Type}(f:Int->S->Bool×S)(Φ:S->World->Prop)(F:Nat)(a:Array Value)(i:List Int)(v:Value)(s:S)(w:World)(r: ∀d w,(callFunc F d).run prog w= .ok (.enter F d) w)(k:Φ s w)(g: ∀s w,Φ s w->dM w v i)
  (t: ∀x∈i,∀s w,Φ s w->Calls prog F (#[ag x]++a) w fun e w'=>e= .returned (.bool (f x s).1)/\Φ (f x s).2 w'):
  Calls prog 72 #[v,.func (.func F) #[] a] w fun e w'=>e= .returned (.bool (jt f i s).1)/\Φ (jt f i s).2 w':=by
 have c0:=Gy f Φ F a i v s w r k g t;obtain⟨p,c,rfl,y,u⟩:=g s w k;have j:=aE (C2 f i 0 s);go_enter func72,ntmps72;go_wp2_with fail;refine c0.mono ?_;rintro e A ⟨rfl,l⟩;have q:=j.o.1;rw[j.o.2]at l;generalize (nh f i 0 s).1=z at*;obtain⟨b,m⟩:=au ((jt f i s).1);rw[m]at q;have n:=aE m;go_wp2_with fail;go_ret;exact⟨by rw[n.o];rfl,l⟩
theorem D6 (u:Ru)(i:Option Addr)(g e f:Nat)(x:List UInt8)(w:World)(j:w.heap[f]? =ah #[jU x] 9):
  Calls prog 108 #[.agg #[.string ⟨u.1.toArray⟩,ag u.2.kind,ag u.2.a,ag u.2.b,.string ⟨u.2.name.toArray⟩,.slice i g e],ab f 0] w fun r w'=>r= .returned (.bool (decide (u.1=x)))/\aq w w':=by
 obtain⟨n,m,d,k⟩:=nb w #[.string ⟨u.1.toArray⟩,ag u.2.kind,ag u.2.a,ag u.2.b,.string ⟨u.2.name.toArray⟩,.slice i g e] 86;have o:=cr 0 k rfl;have l:=cr 0 (bt d j) rfl;unfold jU at l;have c:=rJ u.1 x;go_enter func108,ntmps108;go_wp2_with fail;go_ret;exact⟨by rw[<-c];rfl,d⟩
theorem Gz (f:List (Ru×Value))(v:Value)(x:List UInt8)(H:Nat)(w:World)(h:InR w v f)(N:w.heap[H]? =ah #[jU x] 9):
  Calls prog 107 #[v,.func (.func 108) #[] #[ab H 0]] w fun r w'=>r= .returned (ag (atP5 (f.map (fun p=>p.1)) x))/\aq w w':=by
 obtain⟨pv,cv,rfl⟩:=h.form;have L:=aE h.cells;have M:=h.len
 have K:Rb (∀p∈f,∃q n c,p.2= .slice q n c):=fun p X=>by
  obtain⟨_,_,d,V⟩:=h.all p X;obtain⟨q,c,e⟩:=V.form;exact⟨q,_,c,e⟩
 have B:=aE N;clear h N;go_enter func107,ntmps107;go_wp2_with fail;go_loopw [5,8] (fun _ t wr=> ∃j:Nat,t=ag (j:Int)/\j<=f.length/\atP5 (f.map (fun p=>p.1)) x=atF ((f.map (fun p=>p.1)).drop j) j x/\aq w wr) (fun _ t _=>f.length-(intOf t).toNat);case atStart=>exact⟨0,rfl,by omega,rfl,aH _ _⟩
 case round=>
  obtain⟨j,rfl,hj,i,a⟩:=hrel;have W:(0:Int)<=(j:Int):=(by omega);by_cases I:j<f.length
  ·have y:(j:Int)<(f.length:Int):=(by omega);obtain⟨⟨u,sk⟩,k⟩: ∃p,f[j]? =some p:=⟨f[j],ay I⟩
   have A:(f.map (fun p=>p.1))[j]? =some u:=(by rw[a8,k];rfl);rw[Cl A]at i;obtain⟨g,o,J,c0,c1,C,D,E,F⟩:=L.o j _ k;obtain⟨Z,Y,O,z⟩:=K.o _ (aM k);dsimp only at c0 c1 C D E F z;subst z J;have P:=aj a c0;have Q:=aj a c1;have R:=aj a C;have S:=aj a D;have T:=aj a E;have U:=aj a F;have G:=D6 u Z Y O H x wr (bt a B.o);clear A k c0 c1 C D E F;obtain⟨b,m⟩:=au (decide (u.1=x));rw[m]at G;go_wp2_with fail;refine G.mono ?_;rintro e w1 ⟨rfl,b1⟩;have s:=aw a b1;clear G P Q R S T U;cases b with
   |true=>
    rw[aB (gj m)]at i;have l:=aE i;clear i m;go_wp2_with fail;go_ret;exact⟨by(rw[l.o])<;>rfl,s⟩
   |false=>
    rw[ax (of_decide_eq_false m)]at i;have l:=aE i;clear i m;go_wp2_with fail;go_roundw;case rel=>exact⟨j+1,by go_num,by omega,l.o,s⟩
    case measure=>simp[intOf];omega
  ·have y: ¬(j:Int)<(f.length:Int):=(by omega)
   have l:Rb (atP5 (f.map (fun p=>p.1)) x= -1):=by
    show _=_;rw[i,dq (by simp;omega)];rfl
   clear i L K;go_wp2_with fail;go_ret;exact⟨by(rw[l.o])<;>rfl,a⟩
end Go.Proofs.YtlkehieagdkgiaaGreatDoor
