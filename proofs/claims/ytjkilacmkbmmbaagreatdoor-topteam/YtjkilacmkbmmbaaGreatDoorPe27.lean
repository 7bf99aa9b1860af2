/- Texts of the proof. -/
import Derived.Test.YtjkilacmkbmmbaaGreatDoorPe26
import Derived.Test.YtjkilacmkbmmbaaGreatDoorPe21
set_option maxRecDepth 100000
set_option maxHeartbeats 8000000
namespace Go.Proofs.YtjkilacmkbmmbaaGreatDoor
open Go.Proofs.Tryz Go.RowKit Lx Vx Mx Msk
structure Ap where
 st:Int
 left:Int
 fr:Int
 to:Int
 sv:Int
 bef:Int
 aft:Int
 len:Int
 day:Int
 min:Int
 who:List Int
structure Dk where
 rules:List Ru
 res:List (List UInt8)
 svs:List Sv
 aps:List Ap
 vers:List Int
 given:Int
 kept:List Vx.Kp
 runs:Int
structure An where
 err:Int
 num:Int
 day:Int
 min:Int
 who:List Int
 list:List Int
structure Cm where
 kind:Int
 n:Int
 day:Int
 days:Int
 text:List UInt8
 name:List UInt8
 sv:Sv
 sday:Int
 smin:Int
 swho:List Int
def noA (e:Int):An:=⟨e,0,0,0,[],[]⟩
def jL (n:Int):An:=⟨0,n,0,0,[],[]⟩
def isN (n m:Int):Bool:=decide (0<=n)&&decide (n<m)
def sv0:Sv:=⟨0,0,0,[]⟩
def ap0:Ap:=⟨0,0,0,0,0,0,0,0,0,0,[]⟩
def gu (d:Dk)(r day:Int):M×Dk:=
 let k:=atP5 d.rules (d.res.getD r.toNat [])
 if k<0 then(noM,d) else
  let g:=jK (eR d.rules) d.kept d.runs (d.vers.getD k.toNat 0) k day
  (g.m,{d with kept:=g.l,runs:=g.n})
def kC (r day but:Int):List Ap->Nat->List (Int×Int)
 |[],_=>[]
 |a::l,i=>if(i:Int)≠but/\a.st≠3/\a.day=day/\r∈a.who then(a.fr,a.to)::kC r day but l (i+1) else kC r day but l (i+1)
def nh (a b:M):M:=fun i=>(a i&& !b i)&&decide (i<1440)
def i8 (d:Dk)(r day but:Int):M×Dk:=(nh (gu d r day).1 (inl (kC r day but d.aps 0)),(gu d r day).2)
def jy {S:Type}(f:Int->S->Bool×S):List Int->S->Bool×S
 |[],d=>(false,d)
 |x::l,d=>if(f x d).1=true then(true,(f x d).2) else jy f l (f x d).2
def oH (day but fr to r:Int)(d:Dk):Bool×Dk:=(!gH (i8 d r day but).1 fr to,(i8 d r day but).2)
def kJ (day fr to r:Int)(d:Dk):Bool×Dk:=(!gH (gu d r day).1 fr to,(gu d r day).2)
def rt (who:List Int)(roles:List (List Int)):Nat->Nat->Int
 |0,_=>0
 |m+1,i=>if who.getD i 0∉roles.getD i [] then 6 else if who.getD i 0∈who.take i then 7 else rt who roles m (i+1)
def jV (who:List Int)(roles:List (List Int)):Int:=if who.length≠roles.length then 5 else rt who roles who.length 0
def fA (d:Dk)(n:Int)(a:Ap)(day min:Int)(who:List Int):(Ap×Int)×Dk:=
 if isN day 146097=false\/isN min 1440=false then((ap0,3),d) else
 if min-a.bef<0\/1440<min+a.len+a.aft then((ap0,3),d) else
 if jV who (d.svs.getD a.sv.toNat sv0).roles≠0 then((ap0,jV who (d.svs.getD a.sv.toNat sv0).roles),d) else
 let b:=jy (oH day n (min-a.bef) (min+a.len+a.aft)) who d
 if b.1=true then((ap0,10),b.2) else(({a with fr:=min-a.bef,to:=min+a.len+a.aft,day:=day,min:=min,who:=who},0),b.2)
def kX (d:Dk)(n day min:Int)(who:List Int):An×Dk:=
 if isN n d.svs.length=false then(noA 6,d) else
 if 30<=d.aps.length then(noA 5,d) else
 let s:=d.svs.getD n.toNat sv0
 let p:=fA d (-1) ⟨1,10,0,0,n,s.bef,s.aft,s.len,0,0,[]⟩ day min who
 if p.1.2≠0 then(noA p.1.2,p.2) else(jL p.2.aps.length,{p.2 with aps:=p.2.aps++[p.1.1]})
def pN (a:Ap)(s:Int):Ap:={a with st:=s,left:=0}
def oi (d:Dk)(n:Int)(f:Ap->Dk->(Ap×Int)×Dk):An×Dk:=
 if isN n d.aps.length=false\/(d.aps.getD n.toNat ap0).st=3 then(noA 6,d) else
 let p:=f (d.aps.getD n.toNat ap0) d
 if p.1.2≠0 then(noA p.1.2,p.2) else(noA 0,{p.2 with aps:=p.2.aps.set n.toNat p.1.1})
def Fq (t:Int)(a:Ap):Ap:=if a.st≠1 then a else if a.left-t<=0 then pN a 3 else {a with left:=a.left-t}
def Lj (d:Dk)(t:Int):An×Dk:=if t<0\/1000<t then(noA 3,d) else(noA 0,{d with aps:=d.aps.map (Fq t)})
def ru (d:Dk)(name:List UInt8):An×Dk:=
 if 12<=d.res.length then(noA 5,d) else if atP5 d.rules name<0 then(noA 7,d) else(jL d.res.length,{d with res:=d.res++[name]})
def rx (d:Dk)(s:Sv):An×Dk:=
 if 8<=d.svs.length then(noA 5,d) else if dW s d.res.length≠0 then(noA (dW s d.res.length),d) else(jL d.svs.length,{d with svs:=d.svs++[s]})
def ij (s:Sv)(day:Int):Nat->Nat->Dk->List M×Dk
 |0,_,d=>([],d)
 |m+1,r,d=>
  if s.roles.any (fun p=>decide ((r:Int)∈p))=true then
   let p:=i8 d (r:Int) day (-1)
   let q:=ij s day m (r+1) p.2
   (p.1::q.1,q.2)
  else
   let q:=ij s day m (r+1) d
   (noM::q.1,q.2)
def jq (s:Sv)(day:Int):Nat->Nat->Dk->List (List M)×Dk
 |0,_,d=>([],d)
 |m+1,i,d=>
  let p:=ij s (day+i) d.res.length 0 d
  let q:=jq s day m (i+1) p.2
  (p.1::q.1,q.2)
def jS (d:Dk)(n day days:Int):An×Dk:=
 if isN n d.svs.length=false then(noA 6,d) else
 if isN day 146097=false\/days<1\/30<days\/146097<day+days then(noA 3,d) else
 let s:=d.svs.getD n.toNat sv0
 let q:=jq s day days.toNat 0 d
 let f:=findP s q.1
 if f.err≠0 then(noA f.err,q.2) else(⟨0,0,f.day+day,f.min,f.who,[]⟩,q.2)
def lq:Nat->Ex->Ex->Bool
 |0,_,_=>false
 |N+1,a,b=>decide (a.kind=b.kind)&&decide (a.a=b.a)&&decide (a.b=b.b)&&decide (a.name=b.name)&&(decide (a.kids.length=b.kids.length)&&(a.kids.zip b.kids).all fun p=>lq N p.1 p.2)
def pF (a b:Ru):Bool:=decide (a.1=b.1)&&lq (hgt a.2+1) a.2 b.2
def jr (old new:List Ru)(k:Int):Bool:=match old[k.toNat]?,new[k.toNat]? with
 |some a,some b=>decide ((old.length:Int)<=k)|| !pF a b
 |_,_=>true
def qR (d:Dk)(l:List Ru):List Int:=(List.range l.length).map fun(i:Nat)=>if jr d.rules l (i:Int)=true\/(fK l (i:Int)).any (jr d.rules l)=true then d.given+1 else d.vers.getD i 0
def eB:List Ap->Nat->Dk->List Int×Dk
 |[],_,d=>([],d)
 |a::l,i,d=>
  if a.st=3 then eB l (i+1) d else
  let p:=jy (kJ a.day a.fr a.to) a.who d
  let q:=eB l (i+1) p.2
  (if p.1=true then(i:Int)::q.1 else q.1,q.2)
def qA (d:Dk)(r:Int×List Ru):An×Dk:=
 if r.1≠0 then(noA r.1,d) else
 let d1:Dk:={d with rules:=r.2,vers:=qR d r.2,given:=d.given+1}
 let q:=eB d1.aps 0 d1
 (⟨0,0,0,0,[],q.1⟩,q.2)
section
def Rob (P:Nat->Prop)(Φ:World->Prop)(w:World):Prop:= ∀u:World,w.heap.size<=u.heap.size->(∀q,P q->q<w.heap.size->u.heap[q]? =w.heap[q]?)->Φ u
section
variable {P P':Nat->Prop} {Φ Ψ:World->Prop} {w w':World}
theorem Rob.here (h:Rob P Φ w):Φ w:=h w (aA _) fun _ _ _=>rfl
theorem Rob.move (h:Rob P Φ w)(hs:w.heap.size<=w'.heap.size)(hk: ∀q,P q->q<w.heap.size->w'.heap[q]? =w.heap[q]?)(hP: ∀q,q<w.heap.size->P q->P' q):Rob P' Φ w':=
 fun u hu ha=>h u (a6 hs hu) fun q hq hl=>(ha q (hP q hl hq) (aO hl hs)).trans (hk q hq hl)
theorem Rob.below (h:Rob P Φ w)(hb:ao w w'):Rob P Φ w':=h.move hb.size (fun q _ hl=>hb.block q hl) fun _ _ h=>h
theorem Rob.imp (h:Rob P Φ w)(hi: ∀u,Φ u->Ψ u):Rob P Ψ w:=fun u hu ha=>hi u (h u hu ha)
end
structure Tr where
 ev:Value
 sv:Value
 av:Value
 xs:List Nat
def Gx (gD:Nat)(t:Tr)(q:Nat):Prop:=q≠gD/\some q≠t.ev.ownBlock/\some q≠t.sv.ownBlock/\some q≠t.av.ownBlock
def Fx (gD:Nat)(t:Tr)(q:Nat):Prop:=Gx gD t q/\q∉t.xs
def Tr.add (t:Tr)(q:Nat):Tr:={t with xs:=q::t.xs}
def kK (n:List UInt8):Value:= .string ⟨n.toArray⟩
def svC (p:Sv×Value):Array Value:= #[ag p.1.len,ag p.1.bef,ag p.1.aft,p.2]
def apC (p:Ap×Value):Array Value:= #[ag p.1.st,ag p.1.left,ag p.1.fr,ag p.1.to,ag p.1.sv,ag p.1.bef,ag p.1.aft,ag p.1.len,ag p.1.day,ag p.1.min,p.2]
def svF (l:List (Sv×Value)):List Value:=l.flatMap fun p=>(svC p).toList
def apF (l:List (Ap×Value)):List Value:=l.flatMap fun p=>(apC p).toList
structure DkM (B gD:Nat)(d:Dk)(t:Tr)(rv cv vv kv:Value)(ss:List (Sv×Value))(aa:List (Ap×Value))(w:World):Prop where
 blk:w.heap[gD]? =ah #[rv,t.ev,t.sv,t.av,cv,vv,ag d.given,kv,ag d.runs] 95
 lo:B<=gD
 rules:Rob (Fx gD t) (fun u=> ∃us,InR u rv us/\us.map (fun p=>p.1)=d.rules) w
 codes:Rob (Fx gD t) (fun u=>InV u cv (eR d.rules)) w
 vers:Rob (Fx gD t) (fun u=>dQ u vv d.vers) w
 kept:Rob (Fx gD t) (fun u=>dM 0 u kv d.kept) w
 res:w.ownsRow B 9 1 t.ev d.res.length (d.res.map kK)
 svs:w.ownsRow B 35 4 t.sv ss.length (svF ss)
 sve:ss.map (fun p=>p.1)=d.svs
 svr: ∀p∈ss,Rob (Fx gD t) (fun u=>fo u p.2 p.1.roles) w
 aps:w.ownsRow B 122 11 t.av aa.length (apF aa)
 ape:aa.map (fun p=>p.1)=d.aps
 apr: ∀p∈aa,Rob (Fx gD t) (fun u=>dQ u p.2 p.1.who) w
 nx: ∀q∈t.xs,q<w.heap.size/\B<=q/\q≠gD/\some q≠t.ev.ownBlock/\some q≠t.sv.ownBlock/\some q≠t.av.ownBlock
structure B4 (d:Dk):Prop where
 flt:ii d.rules=(0,0)
 vl:d.vers.length=d.rules.length
 kl:d.kept.length<=64
 rl:d.res.length<=12
 sl:d.svs.length<=8
 al:d.aps.length<=30
 gv:0<=d.given/\d.given<=1000000
 nm: ∀x∈d.res,x.length<=9223372036854775807
 sv: ∀s∈d.svs,dW s d.res.length=0
 ap: ∀a∈d.aps,(0<=a.sv/\a.sv<d.svs.length)/\(0<=a.fr/\a.fr<=a.to/\a.to<=1440)/\(0<=a.left/\a.left<=10)/\(0<=a.bef/\a.bef<=1440/\0<=a.aft/\a.aft<=1440/\0<=a.len/\a.len<=1440)/\(0<=a.day/\a.day<146097)/\a.who.length<=4/\ ∀r∈a.who,0<=r/\r<d.res.length
def dE (B gD:Nat)(d:Dk)(t:Tr)(w:World):Prop:=B4 d/\ ∃rv cv vv kv ss aa,DkM B gD d t rv cv vv kv ss aa w
structure Kd (gD:Nat)(t t':Tr)(w w':World):Prop where
 os:w'.os=w.os
 tape:w'.tape=w.tape
 output:w'.output=w.output
 size:w.heap.size<=w'.heap.size
 blk: ∀q,Gx gD t q->q<w.heap.size->w'.heap[q]? =w.heap[q]?
 gx: ∀q,q<w.heap.size->Gx gD t q->Gx gD t' q
 xs:t'.xs=t.xs
section
variable {gD:Nat} {t t' t'':Tr} {w w' w'':World}
theorem Kd.of (h:ao w w'):Kd gD t t w w':=⟨h.os,h.tape,h.output,h.size,fun q _ hl=>h.block q hl,fun _ _ h=>h,rfl⟩
theorem Kd.trans (h:Kd gD t t' w w')(h':Kd gD t' t'' w' w''):Kd gD t t'' w w'':=
 ⟨h'.os.trans h.os,h'.tape.trans h.tape,h'.output.trans h.output,a6 h.size h'.size,fun q hq hl=>(h'.blk q (h.gx q hl hq) (aO hl h.size)).trans (h.blk q hq hl),fun q hl hq=>h'.gx q (aO hl h.size) (h.gx q hl hq),h'.xs.trans h.xs⟩
theorem Kd.rob {Φ:World->Prop}(h:Kd gD t t' w w')(hr:Rob (Fx gD t) Φ w):Rob (Fx gD t') Φ w':=hr.move h.size (fun q hq=>h.blk q hq.1) fun q hl hq=>⟨h.gx q hl hq.1,by rw[h.xs];exact hq.2⟩
end
section
variable {B gD:Nat} {d:Dk} {t:Tr} {rv cv vv kv:Value} {ss:List (Sv×Value)} {aa:List (Ap×Value)} {w w':World}
theorem iu {base e size n:Nat}{v:Value}{xs:List Value}{g:Nat}{cs:Array Value}{T:TypeId}(h:w.ownsRow base e size v n xs)(hg:w.heap[g]? =ah cs T)(hT:T≠e):v.ownBlock≠some g:=fun q=>by
 rcases h.2 with⟨h1,_⟩|⟨g',cap,cur,h1,_,h2,_⟩
 ·rw[h1]at q;cases q
 ·rw[h1]at q;have:g'=g:=aK q;subst this;rw[h2]at hg;injection hg with hb;injection hb with _ h3 _;exact hT h3.symm
theorem DkM.below (h:DkM B gD d t rv cv vv kv ss aa w)(hb:ao w w'):DkM B gD d t rv cv vv kv ss aa w':=
 ⟨ai hb h.blk,h.lo,h.rules.below hb,h.codes.below hb,h.vers.below hb,h.kept.below hb,bp h.res fun b hq=>hb.block b (h.res.lt b hq).2,bp h.svs fun b hq=>hb.block b (h.svs.lt b hq).2,h.sve,fun p hp=>(h.svr p hp).below hb,bp h.aps fun b hq=>hb.block b (h.aps.lt b hq).2,h.ape,fun p hp=>(h.apr p hp).below hb,fun q hq=>⟨aO (h.nx q hq).1 hb.size,(h.nx q hq).2⟩⟩
theorem dE.below (h:dE B gD d t w)(hb:ao w w'):dE B gD d t w':=by
 obtain⟨h0,rv,cv,vv,kv,ss,aa,h⟩:=h;exact⟨h0,_,_,_,_,_,_,h.below hb⟩
theorem lG {base e size n:Nat}{v:Value}{xs:List Value}(h:w.ownsRow base e size v n xs){q:Nat}(hq:q<base\/w.heap.size<=q):some q≠v.ownBlock:=fun e=>by
 have:=h.lt q e.symm;omega
theorem dE.fx (h:dE B gD d t w){q:Nat}(hq:q<B\/w.heap.size<=q):Fx gD t q:=by
 obtain⟨_,rv,cv,vv,kv,ss,aa,h⟩:=h;have:=h.lo;have:=aF h.blk;exact⟨⟨by omega,lG h.res hq,lG h.svs hq,lG h.aps hq⟩,fun hx=>by have:=h.nx q hx;omega⟩
theorem Kd.below {t':Tr}(h:dE B gD d t w)(hk:Kd gD t t' w w')(hB:B<=w.heap.size):Below B w w':=⟨hk.os,hk.tape,hk.output,hk.size,fun q hq=>hk.blk q (h.fx (.inl hq)).1 (aO hq hB)⟩
theorem Kd.at {t':Tr}{w0:World}{g:Nat}{c:Array Value}{T:TypeId}{f:Nat×Nat}(h:dE B gD d t w0)(h0:w0.heap.size<=g)(hk:Kd gD t t' w w')(hg:w.heap[g]? =some (.cells c T f)):w'.heap[g]? =some (.cells c T f):=(hk.blk g (h.fx (.inr h0)).1 (aF hg)).trans hg
theorem DkM.put {d':Dk}{rv' cv' vv' kv':Value}(h:DkM B gD d t rv cv vv kv ss aa w)(hs:w.heap.size<=w'.heap.size)(hk: ∀q,q<w.heap.size->q≠gD->w'.heap[q]? =w.heap[q]?)
  (hb:w'.heap[gD]? =ah #[rv',t.ev,t.sv,t.av,cv',vv',ag d'.given,kv',ag d'.runs] 95) (e1:d'.res=d.res) (e2:d'.svs=d.svs) (e3:d'.aps=d.aps)
  (hr:Rob (Fx gD t) (fun u=> ∃us,InR u rv' us/\us.map (fun p=>p.1)=d'.rules) w') (hc:Rob (Fx gD t) (fun u=>InV u cv' (eR d'.rules)) w') (hv:Rob (Fx gD t) (fun u=>dQ u vv' d'.vers) w') (hkp:Rob (Fx gD t) (fun u=>dM 0 u kv' d'.kept) w'):DkM B gD d' t rv' cv' vv' kv' ss aa w':=by
 have mv: ∀{Φ:World->Prop},Rob (Fx gD t) Φ w->Rob (Fx gD t) Φ w':=fun hR=>hR.move hs (fun q hq hl=>hk q hl hq.1.1) fun _ _ h=>h;refine⟨hb,h.lo,hr,hc,hv,hkp,?_,bp h.svs fun b hq=>hk b (h.svs.lt b hq).2 fun e=>iu h.svs h.blk (by decide) (by rw[hq,e]),by rw[e2];exact h.sve,fun p hp=>mv (h.svr p hp),bp h.aps fun b hq=>hk b (h.aps.lt b hq).2 fun e=>iu h.aps h.blk (by decide) (by rw[hq,e]),by rw[e3];exact h.ape,fun p hp=>mv (h.apr p hp),fun q hq=>⟨aO (h.nx q hq).1 hs,(h.nx q hq).2⟩⟩;rw[e1];exact bp h.res fun b hq=>hk b (h.res.lt b hq).2 fun e=>iu h.res h.blk (by decide) (by rw[hq,e])
theorem DkM.opened (h:DkM B gD d t rv cv vv kv ss aa w){q:Nat}(hq:w.heap.size<=q)(hs:w'.heap.size=q+1)(hb:ao w w'):DkM B gD d (t.add q) rv cv vv kv ss aa w':=by
 have mv: ∀{Φ:World->Prop},Rob (Fx gD t) Φ w->Rob (Fx gD (t.add q)) Φ w':=fun hR=>hR.move hb.size (fun q _ hl=>hb.block q hl) fun k hk hf=>⟨hf.1,fun hx=>by
  rcases bh.1 hx with e|hx
  ·omega
  ·exact hf.2 hx⟩
 have h':=h.below hb;refine⟨h'.blk,h'.lo,mv h.rules,mv h.codes,mv h.vers,mv h.kept,h'.res,h'.svs,h'.sve,fun p hp=>mv (h.svr p hp),h'.aps,h'.ape,fun p hp=>mv (h.apr p hp),fun k hk=> ?_⟩;rcases bh.1 hk with rfl|hk
 ·have:=aF h.blk;have:=h.lo;exact⟨by omega,by omega,by omega,lG h.res (.inr hq),lG h.svs (.inr hq),lG h.aps (.inr hq)⟩
 ·exact h'.nx k hk
theorem dE.opened (h:dE B gD d t w){q:Nat}(hq:w.heap.size<=q)(hs:w'.heap.size=q+1)(hb:ao w w'):dE B gD d (t.add q) w':=by
 obtain⟨h0,rv,cv,vv,kv,ss,aa,h⟩:=h;exact⟨h0,_,_,_,_,_,_,h.opened hq hs hb⟩
theorem dE.closed {q:Nat}(h:dE B gD d (t.add q) w)(hs:w.heap.size<=w'.heap.size)(hk: ∀k,k<w.heap.size->k≠q->w'.heap[k]? =w.heap[k]?):dE B gD d t w':=by
 obtain⟨h0,rv,cv,vv,kv,ss,aa,h⟩:=h;have hn:=h.nx q (bc ..);have mv: ∀{Φ:World->Prop},Rob (Fx gD (t.add q)) Φ w->Rob (Fx gD t) Φ w':=fun hR=>hR.move hs (fun k hf hl=>hk k hl fun e=>hf.2 (by rw[e];exact bc ..)) fun k _ hf=>⟨hf.1,fun hx=>hf.2 (bn _ hx)⟩
 refine⟨h0,rv,cv,vv,kv,ss,aa,(hk _ (aF h.blk) (fun e=>hn.2.2.1 e.symm)).trans h.blk,h.lo,mv h.rules,mv h.codes,mv h.vers,mv h.kept,bp h.res fun b hb=>hk b (h.res.lt b hb).2 (fun e=>hn.2.2.2.1 (by rw[<-e];exact hb.symm)),bp h.svs fun b hb=>hk b (h.svs.lt b hb).2 (fun e=>hn.2.2.2.2.1 (by rw[<-e];exact hb.symm)),h.sve,fun p hp=>mv (h.svr p hp),bp h.aps fun b hb=>hk b (h.aps.lt b hb).2 (fun e=>hn.2.2.2.2.2 (by rw[<-e];exact hb.symm)),h.ape,fun p hp=>mv (h.apr p hp),fun k hk'=> ?_⟩;have:=h.nx k (bn _ hk');exact⟨by omega,this.2⟩
theorem Kd.opened {q:Nat}{t':Tr}{w1:World}(hb:ao w w1)(h:Kd gD (t.add q) (t'.add q) w1 w'):Kd gD t t' w w':=
 ⟨h.os.trans hb.os,h.tape.trans hb.tape,h.output.trans hb.output,a6 hb.size h.size,fun k hk hl=>(h.blk k hk (aO hl hb.size)).trans (hb.block k hl),fun k hl hk=>h.gx k (aO hl hb.size) hk,(List.cons.inj h.xs).2⟩
theorem Kd.closed {q:Nat}{t':Tr}{w1:World}(h:Kd gD t t' w w1)(hq:w.heap.size<=q)(ho:w'.os=w1.os)(ht:w'.tape=w1.tape)(hu:w'.output=w1.output)(hs:w1.heap.size<=w'.heap.size)(hk: ∀k,k<w1.heap.size->k≠q->w'.heap[k]? =w1.heap[k]?):Kd gD t t' w w':=
 ⟨ho.trans h.os,ht.trans h.tape,hu.trans h.output,a6 h.size hs,fun k hf hl=>(hk k (aO hl h.size) (by omega)).trans (h.blk k hf hl),h.gx,h.xs⟩
end
end
theorem bt {w w':World}{k:Nat}{c:Array Value}{T:TypeId}{f:Nat×Nat}(hb:ao w w')(h:w.heap[k]? =some (.cells c T f)):w'.heap[k]? =some (.cells c T f):=ai hb h
theorem cr {w:World}{g:Nat}{c:Array Value}{T:TypeId}{f:Nat×Nat}(k:Nat)(h:w.heap[g]? =some (.cells c T f)){v:Value}(e:c[k]? =some v):w.cell? (ae g k)=some v:=(aV _ _ k _ _ _ h).trans e
theorem nb (w:World)(c:Array Value)(T:TypeId): ∃W,w.alloc (.cells c T)=W/\ao w W/\W.heap[w.heap.size]? =ah c T:=⟨_,rfl,am _ _,aC _ _⟩
def anC (a:An)(wv lv:Value):Array Value:= #[ag a.err,ag a.num,ag a.day,ag a.min,wv,lv]
theorem anT:prog.underlying 28=some (.struct (prog.fieldsOf 28)):=by kernel_rfl
theorem apT:prog.underlying 122=some (.struct (prog.fieldsOf 122)):=by kernel_rfl
theorem spT:prog.underlying 143=some (.struct (prog.fieldsOf 143)):=by kernel_rfl
theorem fY (e:Int)(w:World):Calls prog 59 #[ag e] w fun r w'=>r= .returned (.agg (anC (noA e) (af) (af)))/\ao w w':=by
 obtain⟨wA,hA,bA,nA⟩:=nb w #[ag 0,ag 0,ag 0,ag 0,af,af] 28;have HF:=aD (aJ _ _ _ #[ag e,ag 0,ag 0,ag 0,af,af] _ _ nA);have HB:=aD (below_setRow bA (aA _) #[ag e,ag 0,ag 0,ag 0,af,af]);clear bA;go_enter func59,ntmps59;go_wp2_with(refine az rfl 28 _ _ rfl _ _ rfl rfl _ _ nA (by kernel_rfl) (by simp) (by simp[Value.oneCell']) ?_)
 refine aU (v:= .agg #[ag e,ag 0,ag 0,ag 0,af,af]) ?_ rfl ⟨rfl,HB.o⟩;exact a8 rfl _ _ w.heap.size _ _ _ _ rfl HF.o anT rfl (by kernel_rfl)
theorem rR (n m:Int)(w:World):Calls prog 93 #[ag n,ag m] w fun r w'=>r= .returned (.bool (isN n m))/\w'=w:=by
 unfold isN;by_cases h:0<=n
 ·have h':decide (0<=n)=true:=a7 h;go_enter func93,ntmps93;go_wp2_with fail;go_ret;exact⟨by rw[h'];rfl,rfl⟩
 ·have h':decide (0<=n)=false:=bj h;go_enter func93,ntmps93;go_wp2_with fail;go_ret;exact⟨rfl,rfl⟩
theorem tO (a:Ap)(p:Option Addr)(c:Nat)(w:World):Calls prog 100 #[.agg (apC (a,.slice p a.who.length c))] w fun r w'=>r= .returned (.agg #[ag a.fr,ag a.to])/\ao w w':=by
 unfold apC;dsimp only;obtain⟨wA,hA,bA,nA⟩:=nb w #[ag a.st,ag a.left,ag a.fr,ag a.to,ag a.sv,ag a.bef,ag a.aft,ag a.len,ag a.day,ag a.min,.slice p a.who.length c] 122;obtain⟨wB,hB,bB,nB⟩:=nb wA #[ag 0,ag 0] 143;have z2:=cr 2 (bt bB nA) rfl;have z3:=cr 3 (bt bB nA) rfl;have HF:=aD (aJ _ _ _ #[ag a.fr,ag a.to] _ _ nB);have HB:=aD (bA.trans ((below_setRow bB (aA _) #[ag a.fr,ag a.to]).mono bA.size));clear bA bB nA;go_enter func100,ntmps100;go_wp2_with(refine az rfl 143 _ _ rfl _ _ rfl rfl _ _ nB (by kernel_rfl) (by simp) (by simp[Value.oneCell']) ?_)
 refine aU (v:= .agg #[ag a.fr,ag a.to]) ?_ rfl ⟨rfl,HB.o⟩;exact a8 rfl _ _ wA.heap.size _ _ _ _ rfl HF.o spT rfl (by kernel_rfl)
section
section
variable {B B':Nat->Prop}
theorem fD.at {d:Nat}{w:World}{sl:Value}{ks:List Ex}(h:fD B d w sl ks){j:Nat}{k:Ex}(hj:ks[j]? =some k): ∃(d' g o c:Nat) (p:Option Addr) (q:Nat),d=d'+1/\sl= .slice (some (ae g o)) ks.length c/\w.cell? (ae g (o+j*5))=some (ag k.kind)/\w.cell? (ae g (o+j*5+1))=some (ag k.a)/\w.cell? (ae g (o+j*5+2))=some (ag k.b)/\
   w.cell? (ae g (o+j*5+3))=some (.string ⟨k.name.toArray⟩)/\w.cell? (ae g (o+j*5+4))=some (.slice p k.kids.length q)/\fD B d' w (.slice p k.kids.length q) k.kids:=by
 cases d with
 |zero=>rw[h.1]at hj;simp at hj
 |succ d=>
  rcases h with⟨h,_⟩|⟨g,o,c,_,hs,_,hk⟩
  ·rw[h]at hj;simp at hj
  ·obtain⟨_,sk,c0,c1,c2,c3,c4,r⟩:=hk j k hj;obtain⟨p,q,rfl⟩:=r.form;exact⟨d,g,o,c,p,q,rfl,hs,c0,c1,c2,c3,c4,r⟩
def tP (f:Ex->Ex->Bool)(a b:List Ex):Bool:=(a.zip b).all fun p=>f p.1 p.2
theorem Ij (f:Ex->Ex->Bool){a b:List Ex}{j:Nat}{x y:Ex}(hx:a[j]? =some x)(hy:b[j]? =some y):tP f (a.drop j) (b.drop j)=(f x y&&tP f (a.drop (j+1)) (b.drop (j+1))):=by
 obtain⟨h1,h2⟩:=aE.1 hx;obtain⟨h3,h4⟩:=aE.1 hy;rw[bx h1,h2,bx h3,h4];rfl
def AQ (d:Nat):Prop:= ∀(B B':Nat->Prop) (N d':Nat) (a b:Ex) (pa pb:Option Addr) (ca cb:Nat) (w:World),(∀k,B k->k<w.heap.size)->(∀k,B' k->k<w.heap.size)->hgt a<N->fD B d w (.slice pa a.kids.length ca) a.kids->fD B' d' w (.slice pb b.kids.length cb) b.kids->
 Calls prog 158 #[.agg #[ag a.kind,ag a.a,ag a.b,.string ⟨a.name.toArray⟩,.slice pa a.kids.length ca],.agg #[ag b.kind,ag b.a,ag b.b,.string ⟨b.name.toArray⟩,.slice pb b.kids.length cb]] w fun e w'=>e= .returned (.bool (lq N a b))/\ao w w'
theorem MP {d:Nat}(ih: ∀d',d'<d->AQ d')(N d':Nat)(xs ys:List Ex)(pa pb:Option Addr)(ca cb:Nat)(w:World)(hB: ∀k,B k->k<w.heap.size)(hB': ∀k,B' k->k<w.heap.size)(hN: ∀a∈xs,hgt a<N)(ha:fD B d w (.slice pa xs.length ca) xs)(hb:fD B' d' w (.slice pb ys.length cb) ys):
  Calls prog 183 #[.slice pa xs.length ca,.slice pb ys.length cb,.func (.func 158) #[] #[]] w fun e w'=>e= .returned (.bool (decide (xs.length=ys.length)&&tP (lq N) xs ys))/\ao w w':=by
 obtain⟨n,hn⟩:=aq xs.length;obtain⟨m,hm⟩:=aq ys.length;have HA:=aD ha;have HB:=aD hb;rw[hn,hm];have HN:=aD hn;have HM:=aD hm;have HI:=aD ih;have HL:=aD hN;have HK:=aD hB;have HK':=aD hB';clear ha hb hn hm ih hN hB hB';by_cases hnm:n=m
 ·have hnm':((n:Int) !=(m:Int))=false:=by simp[hnm]
  have HE:=aD hnm
  have hle:(n:Int)<9223372036854775808:=by
   by_cases h0:0<n
   ·have h1:=HA.o;rw[HN.o]at h1;cases d with
    |zero=>have:=h1.1;have:=HN.o;simp_all
    |succ d=>
     rcases h1 with⟨h,_⟩|⟨_,_,_,_,_,hl,_⟩
     ·have:=HN.o;rw[h]at this;simp at this;omega
     ·have:=HN.o;omega
   ·omega
  clear hnm;go_enter func183,ntmps183;go_wp2_with fail;go_loopw [7,8,9,17] (fun _ _ _ q wr=> ∃j:Nat,q=ag (j:Int)/\j<=n/\tP (lq N) xs ys=tP (lq N) (xs.drop j) (ys.drop j)/\ao w wr) (fun _ _ _ q _=>n-(intOf q).toNat);case atStart=>exact⟨0,rfl,by omega,rfl,aG _ _⟩
  case round=>
   obtain⟨j,rfl,hj,hX,hbr⟩:=hrel;have hj0:(0:Int)<=(j:Int):=(by omega);by_cases hlt:j<n
   ·have hlt':(j:Int)<(n:Int):=(by omega);have hltm:(j:Int)<(m:Int):=(by have:=HE.o;omega);obtain⟨x,hx⟩: ∃x,xs[j]? =some x:=⟨xs[j]'(by have:=HN.o;omega),ax _⟩
    obtain⟨y,hy⟩: ∃y,ys[j]? =some y:=⟨ys[j]'(by have:=HM.o;have:=HE.o;omega),ax _⟩
    rw[Ij _ hx hy]at hX;obtain⟨d1,g1,o1,c1,p1,q1,e1,s1,a0,a1,a2,a3,a4,r1⟩:=HA.o.at hx;obtain⟨d2,g2,o2,c2,p2,q2,e2,s2,b0,b1,b2,b3,b4,r2⟩:=HB.o.at hy;injection s1 with s1 _ s3;injection s2 with s2 _ s4;subst s1 s2 s3 s4;replace a0:=aj hbr a0;replace a1:=aj hbr a1;replace a2:=aj hbr a2;replace a3:=aj hbr a3;replace a4:=aj hbr a4;obtain⟨wA,hA,bA,nA⟩:=nb wr #[ag x.kind,ag x.a,ag x.b,.string ⟨x.name.toArray⟩,.slice p1 x.kids.length q1] 52;have hbA:=au hbr bA;replace b0:=aj hbA b0;replace b1:=aj hbA b1;replace b2:=aj hbA b2;replace b3:=aj hbA b3;replace b4:=aj hbA b4;obtain⟨wB,hB,bB,nB⟩:=nb wA #[ag y.kind,ag y.a,ag y.b,.string ⟨y.name.toArray⟩,.slice p2 y.kids.length q2] 52;have hbB:=au hbA bB;have nA':=bt bB nA;have hKw: ∀k,B k->k<wB.heap.size:=fun k hk=>aO (HK.o k hk) hbB.size;have hKw': ∀k,B' k->k<wB.heap.size:=fun k hk=>aO (HK'.o k hk) hbB.size;have cS:=HI.o d1 (by omega) B B' N d2 x y p1 p2 q1 q2 wB hKw hKw' (HL.o x (aM hx)) (r1.kept fun g hg hl=>hbB.block g hl) (r2.kept fun g hg hl=>hbB.block g hl);obtain⟨bb,hbb⟩:=aq (lq N x y);rw[hbb]at cS hX;have HX:=aD hX;have HBB:=aD hbB;clear hX hbb r1 r2 hKw hKw' bA bB hbA hbB hbr hx hy e1 e2 nA;go_wp2_with(first|(refine aR rfl 52 _ rfl _ rfl _ _ _ _ nA' eD rfl (by kernel_rfl) ?_)|(refine aR rfl 52 _ rfl _ rfl _ _ _ _ nB eD rfl (by kernel_rfl) ?_))
    refine cS.mono ?_;rintro e w1 ⟨rfl,hb1⟩;have hbw:=au HBB.o hb1;clear cS hb1 HBB;cases bb with
    |true=>
     go_wp2_with fail;go_roundw;case rel=>exact⟨j+1,by go_num,by omega,HX.o,hbw⟩
     case measure=>simp[intOf];omega
    |false=>
     have HY:P3 (tP (lq N) xs ys=false):=HX.o;clear HX;go_wp2_with fail;go_ret;exact⟨by rw[HY.o,iQ];rfl,hbw⟩
   ·have hlt': ¬(j:Int)<(n:Int):=(by omega)
    have HY:P3 (tP (lq N) xs ys=true):=by
     show _=_;rw[hX,dc (by have:=HN.o;omega)];rfl
    clear hX;go_wp2_with fail;go_ret;exact⟨by rw[HY.o];simp[HE.o],hbr⟩
 ·have hnm':((n:Int) !=(m:Int))=true:=by
   simp only[bne_iff_ne,ne_eq];omega
  have hd:decide (n=m)=false:=bj hnm;go_enter func183,ntmps183;go_wp2_with fail;go_ret;exact⟨by rw[hd];rfl,aG _ _⟩
theorem Ik (d:Nat)(ih: ∀d',d'<d->AQ d'):AQ d:=by
 intro B B' N d' a b pa pb ca cb w hB hB' hN ha hb;obtain⟨N,rfl⟩: ∃q,N=q+1:=⟨N-1,by omega⟩
 obtain⟨wA,hA,bA,nA⟩:=nb w #[ag a.kind,ag a.a,ag a.b,.string ⟨a.name.toArray⟩,.slice pa a.kids.length ca] 52;obtain⟨wB,hwB,bB,nB⟩:=nb wA #[ag b.kind,ag b.a,ag b.b,.string ⟨b.name.toArray⟩,.slice pb b.kids.length cb] 52;have hbw:=au bA bB;have nA':=bt bB nA;have c:=MP ih N d' a.kids b.kids pa pb ca cb wB (fun k hk=>aO (hB k hk) hbw.size) (fun k hk=>aO (hB' k hk) hbw.size) (fun k hk=>by have:=DA hk;omega) (ha.kept fun g _ hl=>hbw.block g hl) (hb.kept fun g _ hl=>hbw.block g hl);have HS:P3 (lq (N+1) a b=(decide (a.kind=b.kind)&&decide (a.a=b.a)&&decide (a.b=b.b)&&decide (a.name=b.name)&&(decide (a.kids.length=b.kids.length)&&tP (lq N) a.kids b.kids))):=rfl;have x0:=cr 0 nA' rfl;have x1:=cr 1 nA' rfl;have x2:=cr 2 nA' rfl;have x3:=cr 3 nA' rfl;have x4:=cr 4 nA' rfl;have y0:=cr 0 nB rfl;have y1:=cr 1 nB rfl;have y2:=cr 2 nB rfl;have y3:=cr 3 nB rfl;have y4:=cr 4 nB rfl;have HB:=aD hbw;obtain⟨n,hn⟩:=aq a.kids.length;obtain⟨m,hm⟩:=aq b.kids.length;rw[hn,hm]at c HS;rw[hn]at x4 hA⊢;rw[hm]at y4 hwB⊢;clear ih hB hB' hN ha hb bA bB nA nB nA' hbw hn hm;by_cases q0:a.kind=b.kind
 ·have e0:(a.kind==b.kind)=true:=by simp[q0]
  by_cases q1:a.a=b.a
  ·have e1:(a.a==b.a)=true:=(by simp[q1]);by_cases q2:a.b=b.b
   ·have e2:(a.b==b.b)=true:=(by simp[q2]);have hns:=ti a.name b.name;by_cases q3:a.name=b.name
    ·rw[a7 q3]at hns;have HQ:=aD (fE q0 (fE q1 (fE q2 q3)));clear q0 q1 q2 q3;go_enter func158,ntmps158;go_wp2_with fail;refine c.mono ?_;rintro e w1 ⟨rfl,hb1⟩;have hbw:=au HB.o hb1;clear c hb1;go_wp2_with fail;go_ret;obtain⟨q0,q1,q2,q3⟩:=HQ.o;exact⟨by rw[HS.o];simp[q0,q1,q2,q3],hbw⟩
    ·rw[bj q3]at hns;have HQ:=aD q3;clear c q0 q1 q2 q3;go_enter func158,ntmps158;go_wp2_with fail;go_ret;exact⟨by rw[HS.o];simp[HQ.o],HB.o⟩
   ·have e2:(a.b==b.b)=false:=(by simp[q2]);have HQ:=aD q2;clear c q0 q1 q2;go_enter func158,ntmps158;go_wp2_with fail;go_ret;exact⟨by rw[HS.o];simp[HQ.o],HB.o⟩
  ·have e1:(a.a==b.a)=false:=(by simp[q1]);have HQ:=aD q1;clear c q0 q1;go_enter func158,ntmps158;go_wp2_with fail;go_ret;exact⟨by rw[HS.o];simp[HQ.o],HB.o⟩
 ·have e0:(a.kind==b.kind)=false:=by simp[q0]
  have HQ:=aD q0;clear c q0;go_enter func158,ntmps158;go_wp2_with fail;go_ret;exact⟨by rw[HS.o];simp[HQ.o],HB.o⟩
theorem Ku (d:Nat):AQ d:=by
 induction d using Nat.strongRecOn with
 |ind d ih=>exact Ik d ih
end
end
def mu {S:Type}(f:Int->S->Bool×S):List Int->Nat->S->Int×S
 |[],_,s=>(-1,s)
 |x::l,j,s=>if(f x s).1=true then((j:Int),(f x s).2) else mu f l (j+1) (f x s).2
theorem B5 {S:Type}(f:Int->S->Bool×S): ∀(l:List Int) (j:Nat) (s:S),decide (0<=(mu f l j s).1)=(jy f l s).1/\(mu f l j s).2=(jy f l s).2
 |[],j,s=>⟨rfl,rfl⟩
 |x::l,j,s=>by
  unfold mu jy;by_cases h:(f x s).1=true
  ·rw[ay h,ay h];exact⟨a7 (by show(0:Int)<=(j:Int);omega),rfl⟩
  ·rw[aw h,aw h];exact B5 f l (j+1) _
theorem Il {S:Type}(f:Int->S->Bool×S){l:List Int}{j:Nat}{x:Int}(s:S)(h:l[j]? =some x):mu f (l.drop j) j s=if(f x s).1=true then((j:Int),(f x s).2) else mu f (l.drop (j+1)) (j+1) (f x s).2:=by
 obtain⟨h1,h2⟩:=aE.1 h;rw[bx h1,h2];rfl
theorem Fs {S:Type}(f:Int->S->Bool×S)(Φ:S->World->Prop)(F:Nat)(caps:Array Value)(ns:List Int)(v:Value)(s:S)(w:World)(eF: ∀args w,(callFunc F args).run prog w= .ok (.enter F args) w)(h0:Φ s w)(hrow: ∀s w,Φ s w->dQ w v ns)
  (hc: ∀x∈ns,∀s w,Φ s w->Calls prog F (#[ag x]++caps) w fun e w'=>e= .returned (.bool (f x s).1)/\Φ (f x s).2 w'):
  Calls prog 136 #[v,.func (.func F) #[] caps] w fun e w'=>e= .returned (ag (mu f ns 0 s).1)/\Φ (mu f ns 0 s).2 w':=by
 obtain⟨p,c,rfl,hlen,hx0⟩:=hrow s w h0;clear hx0;have HR:=aD hrow;have HC:=aD hc;have H0:=aD h0;obtain⟨n,hn⟩:=aq ns.length;have HN:=aD hn;rw[hn]at hlen HR;have hn1:(n:Int)<9223372036854775808:=by omega
 rw[hn];clear hrow hc h0 hn;go_enter func136,ntmps136;go_wp2_with fail;go_loopw [5,8] (fun _ t wr=> ∃(j:Nat) (s':S),t=ag (j:Int)/\j<=n/\Φ s' wr/\mu f ns 0 s=mu f (ns.drop j) j s') (fun _ t _=>n-(intOf t).toNat);case atStart=>exact⟨0,s,rfl,by omega,H0.o,rfl⟩
 case round=>
  obtain⟨j,s',rfl,hj,hs,hX⟩:=hrel;have hj0:(0:Int)<=(j:Int):=(by omega);by_cases hlt:j<n
  ·have hlt':(j:Int)<(n:Int):=(by omega);obtain⟨x,hx⟩: ∃x,ns[j]? =some x:=⟨ns[j]'(by have:=HN.o;omega),ax _⟩
   rw[Il f s' hx]at hX;obtain⟨p',c',e',hl',hcell⟩:=HR.o s' wr hs;injection e' with e1 e3 e2;subst e1 e2;clear e3 hl';obtain⟨g,o,hpe,hce⟩:=hcell j x hx;subst hpe;have c1:=HC.o x (aM hx) s' wr hs;obtain⟨b,hb⟩:=aq ((f x s').1);rw[hb]at c1 hX;have HX:=aD hX;clear hX hb hx hcell hs;go_wp2_with fail;refine c1.mono ?_;rintro e w1 ⟨rfl,hs1⟩;clear c1 hce;cases b with
   |true=>
    have HY:P3 (mu f ns 0 s=((j:Int),(f x s').2)):=HX.o;clear HX;go_wp2_with fail;go_ret;exact⟨by rw[HY.o];rfl,by rw[HY.o];exact hs1⟩
   |false=>
    have HY:P3 (mu f ns 0 s=mu f (ns.drop (j+1)) (j+1) (f x s').2):=HX.o;clear HX;go_wp2_with fail;go_roundw;case rel=>exact⟨j+1,_,by go_num,by omega,hs1,HY.o⟩
    case measure=>simp[intOf];omega
  ·have hlt': ¬(j:Int)<(n:Int):=(by omega)
   have HY:P3 (mu f ns 0 s=(-1,s')):=by
    show _=_;rw[hX,dc (by have:=HN.o;omega)];rfl
   clear hX;go_wp2_with fail;go_ret;exact⟨by rw[HY.o];rfl,by rw[HY.o];exact hs⟩
theorem o7 {S:Type}(f:Int->S->Bool×S)(Φ:S->World->Prop)(F:Nat)(caps:Array Value)(ns:List Int)(v:Value)(s:S)(w:World)(eF: ∀args w,(callFunc F args).run prog w= .ok (.enter F args) w)(h0:Φ s w)(hrow: ∀s w,Φ s w->dQ w v ns)
  (hc: ∀x∈ns,∀s w,Φ s w->Calls prog F (#[ag x]++caps) w fun e w'=>e= .returned (.bool (f x s).1)/\Φ (f x s).2 w'):
  Calls prog 101 #[v,.func (.func F) #[] caps] w fun e w'=>e= .returned (.bool (jy f ns s).1)/\Φ (jy f ns s).2 w':=by
 have c0:=Fs f Φ F caps ns v s w eF h0 hrow hc;obtain⟨p,c,rfl,hx1,hx0⟩:=hrow s w h0;clear hx0 hx1;have HI:=aD (B5 f ns 0 s);clear h0 hrow hc;go_enter func101,ntmps101;go_wp2_with fail;refine c0.mono ?_;rintro e w1 ⟨rfl,h1⟩;have e1:=HI.o.1;rw[HI.o.2]at h1;clear c0;generalize (mu f ns 0 s).1=ix at*;obtain⟨b,hb⟩:=aq ((jy f ns s).1);rw[hb]at e1;have HE:=aD hb;clear hb;go_wp2_with fail;go_ret;exact⟨by rw[HE.o];rfl,h1⟩
theorem Dd (u:Ru)(qs:Option Addr)(ns cs gb:Nat)(x:List UInt8)(w:World)(hn:w.heap[gb]? =ah #[kK x] 9):
  Calls prog 130 #[.agg #[.string ⟨u.1.toArray⟩,ag u.2.kind,ag u.2.a,ag u.2.b,.string ⟨u.2.name.toArray⟩,.slice qs ns cs],ab gb 0] w fun r w'=>r= .returned (.bool (decide (u.1=x)))/\ao w w':=by
 obtain⟨wA,hA,bA,nA⟩:=nb w #[.string ⟨u.1.toArray⟩,ag u.2.kind,ag u.2.a,ag u.2.b,.string ⟨u.2.name.toArray⟩,.slice qs ns cs] 54;have z0:=cr 0 nA rfl;have y0:=cr 0 (bt bA hn) rfl;unfold kK at y0;have hns:=ti u.1 x;clear nA hn;go_enter func130,ntmps130;go_wp2_with fail;go_ret;exact⟨by rw[<-hns];rfl,bA⟩
theorem Ft (us:List (Ru×Value))(v:Value)(x:List UInt8)(gb:Nat)(w:World)(h:InR w v us)(hn:w.heap[gb]? =ah #[kK x] 9):
  Calls prog 129 #[v,.func (.func 130) #[] #[ab gb 0]] w fun r w'=>r= .returned (ag (atP5 (us.map (fun p=>p.1)) x))/\ao w w':=by
 obtain⟨pv,cv,rfl⟩:=h.form;have HK:=aD h.cells;have hlen:=h.len
 have HA:P3 (∀p∈us,∃q n c,p.2= .slice q n c):=fun p hp=>by
  obtain⟨_,_,d,hd⟩:=h.all p hp;obtain⟨q,c,e⟩:=hd.form;exact⟨q,_,c,e⟩
 have HNN:=aD hn;clear h hn;go_enter func129,ntmps129;go_wp2_with fail;go_loopw [5,8] (fun _ t wr=> ∃j:Nat,t=ag (j:Int)/\j<=us.length/\atP5 (us.map (fun p=>p.1)) x=atF ((us.map (fun p=>p.1)).drop j) j x/\ao w wr) (fun _ t _=>us.length-(intOf t).toNat);case atStart=>exact⟨0,rfl,by omega,rfl,aG _ _⟩
 case round=>
  obtain⟨j,rfl,hj,hX,hbr⟩:=hrel;have hj0:(0:Int)<=(j:Int):=(by omega);by_cases hlt:j<us.length
  ·have hlt':(j:Int)<(us.length:Int):=(by omega);obtain⟨⟨u,sk⟩,hjk⟩: ∃p,us[j]? =some p:=⟨us[j],ax hlt⟩
   have hum:(us.map (fun p=>p.1))[j]? =some u:=(by rw[bg,hjk];rfl);rw[JA hum]at hX;obtain⟨g,o,hpe,c0,c1,c2,c3,c4,c5⟩:=HK.o j _ hjk;obtain⟨qs,ns,cs,hsk⟩:=HA.o _ (aM hjk);dsimp only at c0 c1 c2 c3 c4 c5 hsk;subst hsk hpe;have d0:=aj hbr c0;have d1:=aj hbr c1;have d2:=aj hbr c2;have d3:=aj hbr c3;have d4:=aj hbr c4;have d5:=aj hbr c5;have cc:=Dd u qs ns cs gb x wr (bt hbr HNN.o);clear hum hjk c0 c1 c2 c3 c4 c5;obtain⟨b,hb⟩:=aq (decide (u.1=x));rw[hb]at cc;go_wp2_with fail;refine cc.mono ?_;rintro e w1 ⟨rfl,b1⟩;have hb1:=au hbr b1;clear cc d0 d1 d2 d3 d4 d5;cases b with
   |true=>
    rw[ay (eG hb)]at hX;have HX:=aD hX;clear hX hb;go_wp2_with fail;go_ret;exact⟨by(rw[HX.o])<;>rfl,hb1⟩
   |false=>
    rw[aw (of_decide_eq_false hb)]at hX;have HX:=aD hX;clear hX hb;go_wp2_with fail;go_roundw;case rel=>exact⟨j+1,by go_num,by omega,HX.o,hb1⟩
    case measure=>simp[intOf];omega
  ·have hlt': ¬(j:Int)<(us.length:Int):=(by omega)
   have HX:P3 (atP5 (us.map (fun p=>p.1)) x= -1):=by
    show _=_;rw[hX,dc (by simp;omega)];rfl
   clear hX HK HA;go_wp2_with fail;go_ret;exact⟨by(rw[HX.o])<;>rfl,hbr⟩
end Go.Proofs.YtjkilacmkbmmbaaGreatDoor
