import Derived.Laws.AppendOwn
import Derived.Laws.IdiomCopy
import Derived.Deep.RegionLaw
import Derived.Deep.CutRange
import Derived.Deep.RegionHeld3
import Derived.Test.YthmdjhlhodpbhaaGreatDoorM01
set_option maxHeartbeats 16000000
set_option maxRecDepth 8000
set_option linter.all false
namespace Go.Proofs.YthmdjhlhodpbhaaGreatDoor
open Go.RowKit
open Go.Builtin renaming zeroCells → bj, append_ → bB, copy_ → bD, clear_ → bE
open _root_.List renaming replicate → aT, ext_getElem? → bm, getElem?_eq_some_iff → bo, getElem?_take_of_lt → bp, append_assoc → bq, map_toArray → br, map_cons → bz, map_nil → bA
open Go.Region renaming wanted → bk
open _root_.Nat renaming lt_or_ge → ay, le_refl → ar
open _root_.Array renaming getElem?_eq_some_iff → bn
open Go.Result renaming andThen_ok → bt, andThen → au
open Go.Sem renaming run_bind → aG, run_pure → bu
open Go.Callee renaming builtin → bC
open Go.Oper renaming wp → bF
open Go.World renaming cell? → aD
open _root_.Go renaming Value → aM, World → aK, TypeId → bG, Operand → bH, resolve → bI, builtin → bJ, yielded → bK
open _root_.Go.Proofs.Tryz
open _root_.Go.Proofs.Tryz renaming prog → ab
open Go.Value renaming slice → ai
attribute [local simp] CV CI Bw mc lq io
variable {b w:World}{a d n f i:Nat}{o y w0:List Value}{e v:Value}{z y8:TypeId}{y1:Act}{F:Nat->Prop}{v9:Act->World->Prop}{w7:Prop}{D:Array Value}{m:List Nat}
structure jJ where
 type:Int
 id:Int
 iP:Int
 code:Int
 bytes:List Int
def iE(b:List Int):Nat->Option (List Int×Nat)
 |0=>some ([],1)
 |k+1=>match iE b k with
  |none=>none
  |some (ns,a)=>if jk (b.drop a)=0 then none else some (ns++[jL (b.drop a)],a+(jk (b.drop a)).toNat)
def ju(t:Int):Option Nat:=if t=0\/t=1 then some 0 else if t=3\/t=4 then some 3 else if t=5 then some 2 else if t=6\/t=7 then some 1 else none
def gW(b:List Int):Option (jJ×Nat):=
 match ju (b.getD 0 0) with
 |none=>none
 |some c=>match c,iE b c with
  |_,none=>none
  |0,some (_,a)=>some (⟨b.getD 0 0,0,0,0,[]⟩,a)
  |1,some (ns,a)=>some (⟨b.getD 0 0,0,0,ns.getD 0 0,[]⟩,a)
  |2,some (ns,a)=>some (⟨b.getD 0 0,ns.getD 0 0,ns.getD 1 0,0,[]⟩,a)
  |_,some (ns,a)=>if(b.length:Int)<a+ns.getD 2 0 then none else some (⟨b.getD 0 0,ns.getD 0 0,ns.getD 1 0,0,(b.drop a).take (ns.getD 2 0).toNat⟩,a+(ns.getD 2 0).toNat)
structure gs where
 bytes:List Int
 read:Int
 fW:Int
 fS:Int
 final:Int
 reset:Bool
 done:Bool
structure fV where
 fZ:Int
 addr:Int
 fY:Bool
 gR:Int
 gS:Int
 heard:Int
 mark:Int
 runs:List (Int×Int)
 fS:Int
 fM:List gs
 waits:Int
structure gg where
 c:g_
 now:Int
 fN:List fV
 last:Int
def ja(l:List fV)(fZ:Int):Option Nat:=l.findIdx? fun c=>c.fZ==fZ
def iT(c:g_):Int:=64+c.c1+32*c.c3
def ls(s:gg):Int:=s.fN.length*iT s.c
def oX(l:List fV):Int:=(l.countP fun c=>!c.fY:Nat)
def im(l:List gs):Int:=(l.map (·.fW)).sum
def iX(l:List Int):Nat:=(l.takeWhile fun x=>decide (0<=x)).length
def wX(s:gs):Bool:=decide (0<=s.final)&&decide (s.final<=s.read+iX s.bytes)
def jl(l:List Int)(p:Nat):List Int:=l++aT (p+1-l.length) (-1)
def qp(l:List Int)(p:Nat)(x:Int):Option (List Int):=
 if decide (0<=(jl l p).getD p (-1))&&decide ((jl l p).getD p (-1)≠x) then none else some ((jl l p).set p x)
def jT(l:List Int)(d:Int)(b:List Int):Nat->Option (List Int)
 |0=>some l
 |k+1=>(jT l d b k).bind fun m=>if d+k<0 then some m else qp m (d+k).toNat (b.getD k 0)
def mV(l:List Int)(k:Nat):Bool:=decide (0<=l.getD k (-1))&&(decide (k=0) || decide (l.getD (k-1) (-1)<0))
def jP(l:List Int):Nat->Int
 |0=>0
 |k+1=>jP l k+if mV l k then 1 else 0
def ij(qb:Int)(s:gs)(iP:Int)(b:List Int):Int×gs:=
 match jT s.bytes (iP-s.read) b b.length with
 |none=>(9,s)
 |some l=>if qb<jP l l.length then(8,s) else(0,{s with bytes:=l})
def rQ(t:List Int):Int:=t.getD 1 0+256*t.getD 2 0+65536*t.getD 3 0+16777216*t.getD 4 0
def nF(c:g_)(now addr:Int)(t:List Int):Bool:=decide (t.length=9)&&decide (jg c.c9 addr (rQ t)=t)&&decide (now<=rQ t)
structure pE where
 all:List (Int×Int)
 lo:Int
 hi:Int
 qc:Bool
def iI(n:Int)(st:pE)(r:Int×Int):Option pE:=
 if r.1<=n/\n<=r.2 then none
 else if r.2=n-1 then some {st with lo:=r.1}
 else if r.1=n+1 then some {st with hi:=r.2}
 else if n<r.1/\st.qc=false then some {st with all:=st.all++[(st.lo,st.hi)]++[r],qc:=true}
 else some {st with all:=st.all++[r]}
def oN(n:Int)(rs:List (Int×Int)):Nat->Option pE
 |0=>some ⟨[],n,n,false⟩
 |k+1=>(oN n rs k).bind fun st=>iI n st (rs.getD k (0,0))
def jj(st:pE):List (Int×Int):=if st.qc then st.all else st.all++[(st.lo,st.hi)]
def hD(n lo hi:Int)(r:Int×Int):Int×Int:=if r.1<=n/\n<=r.2 then(lo,hi) else r
def nA(mark:Int)(rs:List (Int×Int))(n:Int):Option (Int×List (Int×Int)):=
 if n<mark then none else
 (oN n rs rs.length).map fun st=>
  let l:=(jj st).map (hD n st.lo st.hi)
  if 4<l.length then((l.getD 0 (0,0)).2+1,l.drop 1) else(mark,l)
def qe(f:Int×Int->Int×Int)(L:List (Int×Int))(j:Nat):List (Int×Int):=(L.take j).map f++L.drop j
def km(l:List fV)(k:Nat):Int:=((l[k]?).map fV.waits).getD 0
def kF(l:List fV):Nat->Option Nat
 |0=>none
 |k+1=>match kF l k with
  |none=>if 0<km l k then some k else none
  |some j=>if 0<km l k/\km l k<km l j then some k else some j
def gP(nH:Int):gs:=⟨[],0,0,nH,-1,false,false⟩
def jH(nH:Int)(l:List gs)(n:Nat):List gs:=l++aT (n-l.length) (gP nH)
def jn(fZ:Int)(f:List Int):List Int:=[4]++gE fZ++f
def l'(c:fV)(n:Int):Bool:=c.fY || decide (c.gS+n<=3*c.gR)
structure sk(x:gs):Prop where
 bytes:x.bytes.length<=1073741823
 read:0<=x.read/\x.read<=1073741823
 fW:0<=x.fW/\x.fW<=1073741823
 fS:0<=x.fS/\x.fS<=1073741823
 final:-1<=x.final/\x.final<=1073741823
structure hS(M:Int)(c:fV):Prop where
 fZ:0<=c.fZ/\c.fZ<=1073741823
 addr:0<=c.addr/\c.addr<256
 gR:0<=c.gR/\c.gR<=M
 gS:0<=c.gS/\c.gS<=M
 heard:0<=c.heard/\c.heard<=1000000000
 runs:c.runs.length<=4/\∀r∈c.runs,0<=r.1/\r.1<=r.2/\r.2<=1073741823
 fS:0<=c.fS/\c.fS<=1073741823
 lu:0<c.fM.length/\c.fM.length<=1073741823
 str:∀x∈c.fM,sk x
def hE(c:fV)(f:List Int):fV:=if l' c (jn c.fZ f).length then {c with gS:=c.gS+(jn c.fZ f).length} else c
def ig(c:fV)(f:List Int)(ii:List (Int×List Int)):List (Int×List Int):=if l' c (jn c.fZ f).length then ii++[(c.addr,jn c.fZ f)] else ii
def gu(g:g_)(c:fV):List Int:=[20]++gE (i_ g.c9 c.addr c.fZ)++gE g.c1++gE g.c2++gE g.c3
structure jF(g:g_):Prop where
 c0:1<=g.c0/\g.c0<=8
 c1:8<=g.c1/\g.c1<=4096
 c2:8<=g.c2/\g.c2<=g.c1
 c3:1<=g.c3/\g.c3<=8
 c4:1<=g.c4/\g.c4<=8
 c5:0<=g.c5/\g.c5<=8
 c6:1<=g.c6/\g.c6<=1000
 c7:1<=g.c7/\g.c7<=1000
 c8:0<=g.c8/\g.c8<=100000
 c9:0<=g.c9/\g.c9<4294967296
def mI(s:gg)(i:Nat)(c:fV)(p:Int):Int×gg:=
 if p≠i_ s.c.c9 c.addr c.fZ then(10,s) else if c.fY then(0,s) else(0,{s with last:=s.last+1,fN:=s.fN.set i {c with fY:=true,waits:=s.last+1}})
def rS(x:gs)(e:Int)(O8:Bool):Bool:=decide (0<=x.final)&&(decide (x.final<e) || O8&&decide (e≠x.final)) || !x.done&&O8&&decide (e<x.fW)
def jD(x:gs)(e:Int):Int:=if x.fW<e then e-x.fW else 0
def kz(x:gs)(e fS high:Int):Bool:=decide (x.fS<e) || decide (fS<high+jD x e)
def jw(f:jJ)(x r:gs):gs:=
 let e:=f.iP+f.bytes.length
 let y:gs:={r with fW:=x.fW+jD x e,final:=if f.type≠3 then e else r.final}
 if f.type=5/\wX y=false then {y with reset:=true,bytes:=[]} else y
def gt(qb fS high:Int)(f:jJ)(x:gs):Int×gs:=
 let e:=f.iP+f.bytes.length
 if rS x e (decide (f.type≠3)) then(6,x) else if x.done then(0,x) else if kz x e fS high then(3,x) else
 if f.type≠5/\x.reset=false then
  if(ij qb x f.iP f.bytes).1≠0 then((ij qb x f.iP f.bytes).1,x) else(0,jw f x (ij qb x f.iP f.bytes).2)
 else(0,jw f x x)
def gO(qb:Int)(f:jJ)(c:fV):Int×fV:=
 match c.fM[f.id.toNat]? with
 |none=>(4,c)
 |some x=>((gt qb c.fS (im c.fM) f x).1,{c with fM:=c.fM.set f.id.toNat (gt qb c.fS (im c.fM) f x).2})
structure ut(f:jJ):Prop where
 type:f.type=0\/f.type=1\/f.type=3\/f.type=4\/f.type=5\/f.type=6\/f.type=7
 id:0<=f.id/\f.id<=1073741823
 iP:0<=f.iP/\f.iP<=1073741823
structure ON where
 code:Int
 iN:gg
 gone:Bool
def iU(s:gg)(i:Nat)(c:fV)(f:jJ):ON:=
 if f.type=0\/f.type=1 then⟨0,s,false⟩
 else if f.type=6 then⟨0,{s with fN:=s.fN.eraseIdx i},true⟩
 else if f.type=7 then⟨(mI s i c f.code).1,(mI s i c f.code).2,false⟩
 else⟨(gO s.c.c4 f c).1,{s with fN:=s.fN.set i (gO s.c.c4 f c).2},false⟩
def hY(s:gg)(i:Nat)(b:List Int)(ii:List (Int×List Int)):Nat->gg×List (Int×List Int)
 |0=>(s,ii)
 |n+1=>if b=[] then(s,ii) else
  match s.fN[i]? with
  |none=>(s,ii)
  |some c=>match gW b with
   |none=>({s with fN:=s.fN.eraseIdx i},ig c ([19]++gE 7) ii)
   |some (f,size)=>
    if(iU s i c f).code≠0 then({s with fN:=s.fN.eraseIdx i},ig c ([19]++gE (iU s i c f).code) ii)
    else if(iU s i c f).gone then((iU s i c f).iN,ii)
    else hY (iU s i c f).iN i (b.drop size) ii n
structure se(M:Int)(s:gg)(c:fV)(i:Nat)(s':gg)(c':fV):Prop where
 at_:s'.fN[i]? =some c'
 cfg:s'.c=s.c
 now:s'.now=s.now
 KC:s'.fN.map (·.fZ)=s.fN.map (·.fZ)
 fZ:c'.fZ=c.fZ
 ok:hS M c'
 last:s.last<=s'.last/\s'.last<=s.last+1
 Ol:c'.fY=false->s'.last=s.last/\c.fY=false
 stay:c.fY=true->s'.last=s.last/\c'.fY=true
def kh(s:gg)(i:Nat)(c:fV)(addr size:Int)(ii:List (Int×List Int)):gg×List (Int×List Int):=
 if c.addr≠addr then(s,ii) else
 let c1:fV:={c with gR:=c.gR+size,heard:=s.now}
 if c.fY then({s with fN:=s.fN.set i c1},ii) else({s with fN:=s.fN.set i (hE c1 (gu s.c c1))},ig c1 (gu s.c c1) ii)
def qh(s:gg)(addr fZ:Int):List Int:=[3]++gE fZ++gE 9++jg s.c.c9 addr (s.now+s.c.c7)
def nI(s:gg)(addr fZ size:Int)(ii:List (Int×List Int)):List (Int×List Int):=if((qh s addr fZ).length:Int)<=3*size then ii++[(addr,qh s addr fZ)] else ii
def mq(g:g_):gg:=⟨g,0,[],0⟩
def g_.right(g:g_):Bool:=kB g.c0 g.c1 g.c2 g.c3 g.c4 g.c5 g.c6 g.c7 g.c8 g.c9
def jV(s:gg):Int×Int×gg:=
 match kF s.fN s.fN.length with
 |none=>(0,4,s)
 |some j=>match s.fN[j]? with
  |none=>(0,4,s)
  |some c=>(c.fZ,0,{s with fN:=s.fN.set j {c with waits:=0}})
def vy(s:gg)(now:Int):gg:={s with now:=now,fN:=s.fN.filter fun c=>decide (now-c.heard<s.c.c6)}
def ly(s:gg):Bool:=decide (s.c.c0<=(s.fN.length:Int)) || decide (s.c.c8<ls s+iT s.c)
def ki(fZ addr:Int)(ok:Bool)(size now Ox:Int):fV:=⟨fZ,addr,ok,size,0,now,0,[],Ox,[],0⟩
def iz(s:gg)(fZ addr size:Int)(ok:Bool):fV:={ki fZ addr ok size s.now s.c.c1 with fM:=jH s.c.c2 [] s.c.c3.toNat}
def qN(s:gg)(fZ addr size:Int)(b:List Int)(N:Nat)(ii:List (Int×List Int)):gg×List (Int×List Int):=
 let c:=iz s fZ addr size false
 hY {s with fN:=(s.fN++[c]).set s.fN.length (hE c (gu s.c c))} s.fN.length b (ig c (gu s.c c) ii) N
def yr(n:Int)(c:fV):fV:={c with fY:=true,waits:=n}
def sF(s:gg)(i:Nat)(c:fV):gg:={s with last:=s.last+1,fN:=s.fN.set i (yr (s.last+1) c)}
def qM(s:gg)(fZ addr size:Int)(b:List Int)(N:Nat)(ii:List (Int×List Int)):gg×List (Int×List Int):=
 let c:=iz s fZ addr size true
 hY (sF {s with fN:=(s.fN++[c]).set s.fN.length (hE c (gu s.c c))} s.fN.length (hE c (gu s.c c))) s.fN.length b (ig c (gu s.c c) ii) N
def kI(c:fV)(n:Int):Option fV:=(nA c.mark c.runs n).map fun r=>{c with mark:=r.1,runs:=r.2}
def lW(s:gg)(addr fZ size:Int)(tok b:List Int)(N:Nat)(ii:List (Int×List Int)):gg×List (Int×List Int):=
 match ja s.fN fZ with
 |some k=>match s.fN[k]? with
  |some c=>kh s k c addr size ii
  |none=>(s,ii)
 |none=>
  if 0<tok.length then
   if nF s.c s.now addr tok then if ly s then(s,ii) else qM s fZ addr size b N ii else(s,ii)
  else if s.c.c5<=oX s.fN then(s,nI s addr fZ size ii)
  else if ly s then(s,ii) else qN s fZ addr size b N ii
abbrev Qx:=fun(a0:aK) (a1:aK) (a2:fV)=>a0.setCell (gf a1 0) (.bool a2.fY)
abbrev R_:=fun a0 (a1:aK) (a2:fV)=>(((Qx a0 a1 a2).setCell (gf a1 1) (II a2.gR)).setCell (gf a1 2) (II a2.gS)).setCell (gf a1 3) (II a2.fS)
abbrev Sa:=fun a0 (a1:aK) (a2:fV)=>((Qx a0 a1 a2).drew.setCell (gf a1 1) (II a2.gR)).setCell (gf a1 2) (II a2.gS)
abbrev Mh:=fun a0 a1 a2 (a3:gg)=>Obj.cells #[II a0,II a1,.bool false,II a2,II 0,II a3.now,II 0,ai none 0 0,II a3.c.c1,ai none 0 0,II 0] 249
abbrev Mi:=fun a0 a1 a2 (a3:gg)=>Obj.cells #[II a0,II a1,.bool true,II a2,II 0,II a3.now,II 0,ai none 0 0,II a3.c.c1,ai none 0 0,II 0] 249
abbrev Da:=fun(a0:gs)=>(#[II a0.final,.bool a0.reset]:Array aM)
abbrev Se:=fun a0 (a1:aK) (a2:fV)=>(Qx a0 a1 a2).setCell (gf a1 1) (II a2.gR)
def f_(l:List aM)(o:Nat)(cs:List aM):List aM:=l.take o++cs++l.drop (o+cs.length)
theorem gA(b:a+y.length<=o.length):(f_ o a y).length=o.length:=by unfold f_;grind
theorem ku(b:a+y.length<=o.length)(i:Nat):(f_ o a y)[i]? =if a<=i/\i<a+y.length then y[i-a]? else o[i]?:=by unfold f_;rw[bq];grind
section
variable {P:Program}
theorem iK(b:aK)(m C D k:bG)(f g e s:Nat)(j:Addr)(c p:Nat)(d:Array aM)(q:bG)(a:List aM)(l:Nat)
  (B:P.underlying m=some (.slice k)) (y:(P.info? k).map (·.size)=some l)
  (w:b.heap[f]? =some (.cells d q (0,0))) (x:a.length=Nat.min c e*l)
  (z:∀o h,a[o]? =some h->b.cell? (j.add o)=some h) (v:g+a.length<=d.size) (t:∀h∈a,h.oneCell'=true):
  (bD #[m,C] D #[ai (some (Ad f g)) e s,ai (some j) c p]).run P b =
   .ok (goInt (Nat.min c e)) (b.setRow f (f_ d.toList g a).toArray):=by
 have A:=run_storeCells_at P f g q a 0 d b w (by simpa using v) t;cases n:P.info? k with
 |none=>simp[n]at y
 |some i=>
  have hi:i.size=l:=by grind
  have u:=run_firstCells_some (P:=P) b i.size (Nat.min c e) j c p a (by rw[hi];exact x) z;simp[bD,run_underlying B,Builtin.lenOf,sizeOf,typeInfo,n,u,A,f_]
theorem z'(a:Array aM)(b:Nat):(bj a b).toList=(aT b a.toList).flatten:=by
 induction b with
 |zero=>simp[bj]
 |succ b f=>
  apply bm;intro i;have g:(bj a (b+1)).toList.length=(b+1)*a.size:=by simp[bj]
  have h:(aT (b+1) a.toList).flatten.length=(b+1)*a.size:=by simp
  rcases ay i ((b+1)*a.size) with hi|hi
  ·have j:0<a.size:=by grind
   have d:(bj a (b+1)).toList[i]? =some a[i%a.size]!:=by simp[bj,List.getElem?_map,List.getElem?_range hi]
   rw[d,List.replicate_succ,List.flatten_cons];rcases ay i a.size with c|c
   ·rw[List.getElem?_append_left (by simpa using c),Nat.mod_eq_of_lt c];simp[c]
   ·rw[List.getElem?_append_right (by simpa using c),<-f];have e:(bj a b).toList[i-a.toList.length]? =some a[(i-a.size)%a.size]!:=by
     have:i-a.size<b*a.size:=by rw[Nat.add_mul]at hi;omega
     simp[bj,List.getElem?_map,List.getElem?_range this]
    rw[e,Nat.mod_eq_sub_mod c]
  grind
theorem pw(c:aK)(l g s:bG)(b:aM)(o:P.underlying l=some (.slice g))(p:(zeroValue g).run P c=.ok b c)(e f a m:Nat)(x:0<a)(d:Array aM)(h:bG)(n:c.heap[e]? =some (.cells d h (0,0)))
  (v:f+a*b.cells.size<=d.size) (u:∀t∈b.cells.toList,t.oneCell'=true):
  (bE #[l] s #[ai (some (Ad e f)) a m]).run P c=.ok (.tuple #[]) (c.setRow e (f_ d.toList f (aT a b.cells.toList).flatten).toArray):=by
 have q:=z' b.cells a;have w:(aT a b.cells.toList).flatten.length=a*b.cells.size:=by simp
 have j:=run_storeCells_at P e f h (aT a b.cells.toList).flatten 0 d c n (by omega) (by simp_all);obtain⟨k,rfl⟩:∃k,a=k+1:=⟨a-1,by omega⟩;simp only[Nat.add_zero]at j;simp[bE,run_underlying o,p,q,j,f_]
theorem kS{b:aK}{x8:Array Oper}{rest:List Oper}{y2:Oper}{y1:Act}{z1:Exit->Act->aK->Prop}(m:y2.guard=none)(a c:bH)(d f:bG)
  (n:y2.op=.call {callee:=.builtin .copy,args:=#[a,c],argTypes:=#[d,f]}) (h g:aM) (l:y1.eval a=h) (p:y1.eval c=g) {e:aM} {w:aK}
  (o:(bD #[d,f] y2.type #[h,g]).run P b=.ok e w) (j:wpList P x8 z1 rest (y1.put y2.dst e) w):wpList P x8 z1 (y2::rest) y1 b:=by
 refine wpList_plain m fun q k=>?_;unfold bF execOp;simp only[n,bI,invoke,bJ,aG,bu,bt,br,bz,bA,l,p,o];exact k _ _ j
theorem jd{b:aK}{x8:Array Oper}{rest:List Oper}{y2:Oper}{y1:Act}{z1:Exit->Act->aK->Prop}(j:y2.guard=none)(a:bH)(c:bG)
  (k:y2.op=.call {callee:=.builtin .clear,args:=#[a],argTypes:=#[c]}) (d:aM) (h:y1.eval a=d) {e:aM} {w:aK}
  (l:(bE #[c] y2.type #[d]).run P b=.ok e w) (f:wpList P x8 z1 rest (y1.put y2.dst e) w):wpList P x8 z1 (y2::rest) y1 b:=by
 refine wpList_plain j fun m g=>?_;unfold bF execOp;simp only[k,bI,invoke,bJ,aG,bu,bt,br,bz,bA,h,l];exact g _ _ f
theorem gJ{b:aK}{x8:Array Oper}{rest:List Oper}{y2:Oper}{y1:Act}{z1:Exit->Act->aK->Prop}(l:y2.guard=none)(a h:bH)(c d:bG)
  (m:y2.op=.call {callee:=.builtin .append,args:=#[a,h],argTypes:=#[c,d]}) (f g:aM) (o:y1.eval a=f) (p:y1.eval h=g)
  {e:aM} {w:aK} (n:(bB #[c,d] y2.type #[f,g]).run P b=.ok e w) (j:wpList P x8 z1 rest (y1.put y2.dst e) w):wpList P x8 z1 (y2::rest) y1 b:=by
 refine wpList_plain l fun q k=>?_;unfold bF execOp;simp only[m,bI,invoke,bJ,aG,bu,bt,br,bz,bA,o,p,n];exact k _ _ j
theorem jy{x8:Array Oper}{y2:Oper}{y1:Act}{b:aK}{v9:Act->aK->Prop}{z1:Exit->Act->aK->Prop}{w7:Prop}
  (l:y2.guard=none) (a h:bH) (c d:bG) (m:y2.op=Op.call {callee:=bC Builtin.copy,args:=#[a,h],argTypes:=#[c,d]})
  (g f:aM) (k:y1.eval a=g) (p:y1.eval h=f) {e:aM} {w:aK} (n:(bD #[c,d] y2.type #[g,f]).run P b=.ok e w) (j:v9 (y1.put y2.dst e) w):
  if bk y2 (bK x8 y1.tmps)=true then bF P y2 y1 b v9 z1 else w7:=by
 have o:bk y2 (bK x8 y1.tmps)=true:=by simp[bk,l]
 rw[if_pos o];unfold bF;simp[execOp,m,bI,invoke,bJ,k,p,n,au];exact j
theorem mX{x8:Array Oper}{y2:Oper}{y1:Act}{b:aK}{v9:Act->aK->Prop}{z1:Exit->Act->aK->Prop}{w7:Prop}
  (l:y2.guard=none) (a h:bH) (c d:bG) (m:y2.op=Op.call {callee:=bC Builtin.append,args:=#[a,h],argTypes:=#[c,d]})
  (g f:aM) (k:y1.eval a=g) (p:y1.eval h=f) {e:aM} {w:aK} (n:(bB #[c,d] y2.type #[g,f]).run P b=.ok e w) (j:v9 (y1.put y2.dst e) w):
  if bk y2 (bK x8 y1.tmps)=true then bF P y2 y1 b v9 z1 else w7:=by
 have o:bk y2 (bK x8 y1.tmps)=true:=by simp[bk,l]
 rw[if_pos o];unfold bF;simp[execOp,m,bI,invoke,bJ,k,p,n,au];exact j
end
theorem sN(c:b.heap=w.heap)(a:Nat)(r:Array aM):(b.setRow a r).heap=(w.setRow a r).heap:=by simp[World.setRow,c]
abbrev iw:=Int×aM
def gy(l:List iw):List aM:=l.flatMap fun r=>[II r.1,r.2]
theorem ic(a:List iw):(gy a).length=a.length*2:=by
 induction a with
 |nil=>rfl
 |cons c r b=>simp only[gy,List.flatMap_cons,List.length_append]at b⊢;grind
theorem lQ(a b:List iw):gy (a++b)=gy a++gy b:=by simp[gy]
theorem ko(a:iw)(b:List iw):gy (a::b)=[II a.1,a.2]++gy b:=by simp[gy]
theorem pN(a:List iw):∀i,gy (a.take i)=(gy a).take (i*2):=by
 induction a with
 |nil=>intro i;simp[gy]
 |cons c r b=>
  intro i;cases i with
  |zero=>simp[gy]
  |succ i=>rw[List.take_succ_cons,ko,ko,b,show(i+1)*2=i*2+2 from by omega];rfl
theorem pM(a:List iw):∀i,gy (a.drop i)=(gy a).drop (i*2):=by
 induction a with
 |nil=>intro i;simp[gy]
 |cons c r b=>
  intro i;cases i with
  |zero=>simp
  |succ i=>rw[List.drop_succ_cons,ko,b,show(i+1)*2=i*2+2 from by omega];rfl
theorem lR{K:List iw}:∀{a:Nat} {r:iw},K[a]? =some r->(gy K)[a*2]? =some (II r.1)/\(gy K)[a*2+1]? =some r.2:=by
 induction K with
 |nil=>grind
 |cons b e d=>
  intro a r c;rw[ko];cases a with
  |zero=>grind
  |succ a=>grind
theorem mg{K:List iw}(c:∀r∈K,r.2.oneCell'=true):∀b∈gy K,b.oneCell'=true:=by
 intro b a;obtain⟨r,d,a⟩:=List.mem_flatMap.1 a;simp only[List.mem_cons,List.not_mem_nil,or_false]at a;rcases a with rfl|rfl
 ·rfl
 ·exact c r d
theorem DN{b:List aM}(e:b.take y.length=y)(f:a<=y.length)(h:y.length+w0.length<=b.length):
  (f_ (f_ b (a+w0.length) (y.drop a)) a w0).take (y.length+w0.length)=y.take a++w0++y.drop a:=by
 have c:(y.drop a).length=y.length-a:=List.length_drop;have d:=gA (o:=b) (a:=a+w0.length) (y:=y.drop a) (by rw[c];omega);have g:∀i,i<y.length->b[i]? =y[i]?:=fun i hi=>by grind
 apply bm;intro i;rcases ay i (y.length+w0.length) with hi|hi
 ·rw[bp hi,ku (by rw[d];omega),ku (by rw[c];omega),bq];grind
 grind
theorem Es{b t4:List aM}(f:b.take y.length=y)(g:a+w0.length<=d)(h:d<=y.length)(m:y.length<=b.length)(n:t4.length=d-a-w0.length):
  (f_ (f_ (f_ b a w0) (a+w0.length) (y.drop d)) (a+w0.length+(y.length-d)) t4).take (a+w0.length+(y.length-d))=y.take a++w0++y.drop d:=by
 have k:(y.drop d).length=y.length-d:=List.length_drop;have c:=gA (o:=b) (a:=a) (y:=w0) (by omega);have e:=gA (o:=f_ b a w0) (a:=a+w0.length) (y:=y.drop d) (by omega);have j:∀i,i<y.length->b[i]? =y[i]?:=fun i hi=>by grind
 apply bm;intro i;rcases ay i (a+w0.length+(y.length-d)) with hi|hi
 ·rw[bp hi,ku (by omega),if_neg (by omega),ku (by omega),ku (by omega),bq];grind
 grind
theorem hK{y3:Addr}(c:b.cell? y3=some e):y3.block<b.heap.size:=by
 rcases ay y3.block b.heap.size with a|a
 ·exact a
 ·simp[aD,Array.getElem?_eq_none a]at c
structure gm(F:Nat->Prop)(w w':aK):Prop where
 os:w'.os=w.os
 tape:w'.tape=w.tape
 output:w'.output=w.output
 size:w.heap.size<=w'.heap.size
 block:∀k,k<w.heap.size->¬F k->w'.heap[k]? =w.heap[k]?
theorem gm.refl(F:Nat->Prop)(w:aK):gm F w w:=⟨rfl,rfl,rfl,ar _,fun _ _ _=>rfl⟩
theorem gm.trans{a:aK}(h:gm F a b)(k:gm F b w):gm F a w:=
 ⟨k.os.trans h.os,k.tape.trans h.tape,k.output.trans h.output,Nat.le_trans h.size k.size,fun i hi c=>(k.block i (Nat.lt_of_lt_of_le hi h.size) c).trans (h.block i hi c)⟩
theorem gm.fU(h:Bw w b):gm F w b:=⟨h.os,h.tape,h.output,h.size,fun c a _=>h.block c a⟩
theorem gm.mono{L:Nat->Prop}(h:gm F w b)(e:∀a,a<w.heap.size->F a->L a):gm L w b:=⟨h.os,h.tape,h.output,h.size,fun a c f=>h.block a c (fun d=>f (e a c d))⟩
def Ro(w:aK)(e:bG)(v:aM)(n:Nat)(cs:List aM):Prop:=
 ∃ao cap,v=.slice ao n cap/\(0<n->∃b off cur fr,ao=some (Ad b off)/\w.heap[b]? =some (.cells cur e fr)/\∀j,j<cs.length->cur[off+j]? =cs[j]?)/\(ao=none->cap=0)/\n<=cap
theorem Ro.nil(w:aK)(e:bG):Ro w e (ai none 0 0) 0 []:=⟨none,0,rfl,fun a=>absurd a (by decide),fun _=>rfl,ar _⟩
theorem Ro.gx{e:bG}(h:Ro w e v n o)(l:gm F w b)(k:∀g a c,w.heap[g]? =some (.cells a e c)->¬F g):Ro b e v n o:=by obtain⟨j,cap,rfl,q,s⟩:=h;refine⟨j,cap,rfl,fun p=>?_,s⟩;obtain⟨d,t,a,c,rfl,f,m⟩:=q p;exact⟨d,t,a,c,rfl,by rw[l.block d (bn.1 f).1 (k d a c f)];exact f,m⟩
theorem Ro.below{e:bG}(h:Ro w e v n o)(a:Bw w b):Ro b e v n o:=h.gx (F:=fun _=>False) (gm.fU a) (fun _ _ _ _ h=>h)
theorem Ro.qf{base:Nat}{e:bG}{size:Nat}{xs:List aM}(h:w.ownsRow base e size v n xs):Ro w e v n xs:=by
 obtain⟨g,⟨rfl,rfl⟩|⟨b,cap,a,rfl,_,c,d,j,k,l⟩⟩:=h
 ·exact⟨none,0,rfl,fun h=>absurd h (by decide),fun _=>rfl,ar _⟩
 ·refine⟨_,cap,rfl,fun _=>⟨b,0,a,_,rfl,c,fun m f=>?_⟩,fun h=>by simp at h,d⟩;grind
theorem fT(d:b.heap[a]? =some (.cells D z (0,0)))(i:Nat)(c:aM):(b.setCell (Ad a i) c).heap[a]? =some (.cells (D.setIfInBounds i c) z (0,0)):=heap_setCell_same b a i D z c d
theorem go{cb:Nat}(a:Bw b w)(f:Nat)(g:aM):gm (· = cb) b (w.setCell (Ad cb f) g):=
 ⟨a.os,a.tape,a.output,by rw[World.size_setCell];exact a.size,fun e c d=>by rw[Below.heap_setCell _ _ _ _ d];exact a.block e c⟩
theorem fQ(c:Below a b w)(d:Nat):Below a b (w.drewN d):=⟨c.os,c.tape,c.output,c.size,c.block⟩
theorem jR{P:Program}(c:aK)(v:Nat)(k q h:bG)(i:TypeInfo)(u:aM)(g o:Nat)(A:P.underlying k=some (.slice h))(hi:P.info? h=some i)(L:i.zero=some u)
  (z:i.size=g) (D:i.bytes=o) (M:u.cells.size=g) (J:0<g) (s:aM) (e:Nat) (n:List aM) (R:c.ownsRow v h g s e n)
  (l:Addr) (d p:Nat) (news:List aM) (w:news.length=d*g) (x:∀a j,news[a]? =some j->c.cell? (l.add a)=some j) (B:∀j∈news,j.oneCell'=true)
  (C:e+d<=maxLen) (E:(e+d)*o<=140737488355328) (U:v<=c.heap.size):
  ∃m t,(bB #[k,k] q #[s,ai (some l) d p]).run P c=.ok m t/\t.ownsRow v h g m (e+d) (n++news)/\c.grownBy t s.ownBlock/\(m.ownBlock=s.ownBlock\/∀f,m.ownBlock=some f->c.heap.size<=f):=by
 obtain⟨m,t,y,Y,Z,_⟩:=run_append_own (P:=P) c v k q h i u g o A hi L z D M J s e n R l d p news w x B C E U;refine⟨m,t,y,Y,Z,?_⟩;obtain⟨Q,⟨rfl,rfl⟩|⟨f,cap,T,rfl,a3,G,a2,a5,W,X⟩⟩:=R
 ·obtain rfl:n=[]:=List.length_eq_zero_iff.1 (by simpa using Q);obtain⟨a0,a1,b,O,_⟩:=run_append_own (P:=P) c c.heap.size k q h i u g o A hi L z D M J (ai none 0 0) 0 [] (World.ownsRow_nil _ _ _ _) l d p news w x B C E (ar _);rw[y]at b;simp only[Result.ok.injEq]at b;obtain⟨rfl,rfl⟩:=b;exact Or.inr fun N I=>(O.lt N I).1
 ·by_cases S:e+d<=cap
  ·subst z;have a4:∀a,a<news.length->e*i.size+a<T.size:=by intro a H;rw[W];have b:(e+d)*i.size<=cap*i.size:=Nat.mul_le_mul_right _ S;rw[Nat.add_mul]at b;omega
   have b:=run_append_room_cells (P:=P) c k q h i A hi f 0 e cap l d p news w x B S (fun a H=>by rw[Nat.zero_add];simp only[aD,G];grind) (fun a H=>frozen_of_row c f _ _ _ G);rw[y]at b;simp only[Result.ok.injEq]at b;obtain⟨rfl,rfl⟩:=b;exact Or.inl rfl
  ·have V:∀a j,n[a]? =some j->c.cell? (((Ad f 0):Addr).add a)=some j:=by intro a j K;have H:=(bo.1 K).1;rw[show((Ad f 0):Addr).add a=(Ad f a) from by simp[Addr.add];omega];rw[<-X,List.getElem?_take,if_pos (by omega)]at K;simp only[aD,G];simpa using K
   obtain⟨a0,a1,b,O,_⟩:=run_append_arg_grows (P:=P) c k q h i u g o A hi L z D M J (Ad f 0) e cap n Q V l d p news w x (by omega) C E;rw[y]at b;simp only[Result.ok.injEq]at b;obtain⟨rfl,rfl⟩:=b;exact Or.inr fun N I=>(O.lt N I).1
theorem mW{y5:Program}{x8:Array Oper}{y2:Oper}{z1:Exit->Act->aK->Prop}
  (H:y2.guard=none) (m p:bH) {z:bG} (J:y2.op=Op.call {callee:=bC Builtin.append,args:=#[m,p],argTypes:=#[z,z]})
  {a:Nat} {y8:bG} (i:TypeInfo) {e:aM} {d f:Nat} (t:y5.underlying z=some (.slice y8)) (v:y5.info? y8=some i) (w:i.zero=some e) (x:i.size=d) (y:i.bytes=f) (B:e.cells.size=d) (C:0<d)
  {h:aM} {n:Nat} {o:List aM} (M:y1.eval m=h) (K:b.ownsRow a y8 d h n o)
  {y3:Addr} {A z7:Nat} {news:List aM} (O:y1.eval p=ai (some y3) A z7) (I:news.length=A*d) (G:∀l j,news[l]? =some j->b.cell? (y3.add l)=some j) (u:∀j∈news,j.oneCell'=true)
  (q:n+A<=maxLen) (s:(n+A)*f<=140737488355328) (E:a<=b.heap.size)
  (D:∀c g,g.ownsRow a y8 d c (n+A) (o++news)->b.grownBy g h.ownBlock->(c.ownBlock=h.ownBlock\/∀k,c.ownBlock=some k->b.heap.size<=k)->v9 (y1.put y2.dst c) g):
  if bk y2 (bK x8 y1.tmps)=true then bF y5 y2 y1 b v9 z1 else w7:=by
 have N:bk y2 (bK x8 y1.tmps)=true:=by simp[bk,H]
 rw[if_pos N];obtain⟨c,g,L,P,Q,R⟩:=jR (P:=y5) b a z y2.type y8 i e d f t v w x y B C h n o K y3 A z7 news I G u q s E;unfold bF;simp[execOp,J,bI,invoke,bJ,M,O,L,au];exact D c g P Q R
theorem fX(h:b.ownsRow a z d e f o)(c:e.ownBlock=some n):∃g,b.heap[n]? =some (.cells g z (0,0)):=by
 obtain⟨_,⟨rfl,_⟩|⟨k,cap,j,rfl,_,l,_⟩⟩:=h
 ·simp[Value.ownBlock]at c
 ·simp only[Value.ownBlock,Option.some.injEq]at c;grind
theorem fR{x3:Nat×Nat}(c:b.ownsRow a z d e f o)(k:b.heap[n]? =some (.cells D y8 x3))(j:z≠y8):e.ownBlock≠some n:=by intro g;obtain⟨c1,h⟩:=fX c g;grind
theorem gr(g:b.ownsRow a z d e f o):∃c cap,e=.slice c f cap:=by
 obtain⟨_,⟨rfl,rfl⟩|⟨j,cap,h,rfl,_⟩⟩:=g
 ·grind
 grind
theorem pq{h:aM}{A z7:Nat}(j:b.ownsRow a z f e A o)(k:b.ownsRow d y8 n h z7 y)(m:z≠y8):e.ownBlock=none\/e.ownBlock≠h.ownBlock:=by
 cases g:e.ownBlock with
 |none=>exact Or.inl rfl
 |some q=>refine Or.inr fun c=>?_;obtain⟨p,l⟩:=fX k c.symm;exact fR j l m g
theorem gM(g:b.ownsRow a z d e f o)(m:gm F b w)(k:∀c,e.ownBlock=some c->¬F c):w.ownsRow a z d e f o:=by
 refine⟨g.1,?_⟩;rcases g.2 with n|⟨c,cap,j,rfl,l,h,rest⟩
 ·exact .inl n
 ·exact .inr ⟨c,cap,j,rfl,l,by rw[m.block c (bn.1 h).1 (k c rfl)];exact h,rest⟩
theorem gI(c:b.ownsRow a z d e f o)(k:gm F b w)(p:∀g h j,b.heap[g]? =some (.cells h z j)->¬F g):w.ownsRow a z d e f o:=
 gM c k fun n l=>by obtain⟨m,q⟩:=fX c l;grind
theorem Jb(b:m.Nodup)(c:a∉m):∀i,(m.set i a).Nodup:=by
 induction m with
 |nil=>intro i;simp
 |cons e r d=>
  intro i;simp only[List.nodup_cons]at b;simp only[List.mem_cons,not_or]at c;cases i with
  |zero=>grind
  |succ i=>grind
theorem DX(a:m.Nodup)(hi:m[i]? =some f)(c:m[d]? =some n)(e:i≠d):f≠n:=by rintro rfl;have b:=(bo.1 hi).1;exact e ((List.getElem?_inj b a).1 (by rw[hi,c]))
theorem getElem?_set_other{α:Type}{x2:List α}{x0:α}(a:d≠i):(x2.set i x0)[d]? =x2[d]?:=by grind
theorem getElem?_set_at{α:Type}{x2:List α}{x0 a:α}(b:x2[i]? =some a):(x2.set i x0)[i]? =some x0:=by grind
theorem ia{α:Type}{x2:List α}{x0:α}(a:x2[i]? =some x0):x2.set i x0=x2:=by apply bm;grind
theorem gc(a:Below b.drew.heap.size b.drew w):Bw b w:=⟨a.os,a.tape,a.output,a.size,a.block⟩
end Go.Proofs.YthmdjhlhodpbhaaGreatDoor
