/- Comes, part 1 -/
import Derived.Laws.AppendOwn
import Derived.Laws.IdiomCopy
import Derived.Deep.RegionLaw
import Derived.Deep.CutRange
import Derived.Deep.RegionHeld3
import Derived.Test.YthmdjhlhodpbhaaGreatDoorM00
set_option maxHeartbeats 16000000
set_option maxRecDepth 8000
namespace Go.Proofs.YthmdjhlhodpbhaaGreatDoor
open Go.RowKit
open _root_.List renaming getElem?_append_right → aF, getElem?_append_left → aw, getElem?_take_of_lt → bi, getElem?_eq_none → bj, replicate → ak, getElem?_eq_some_iff → bm, ext_getElem? → bp, length_take → bq, append_assoc → br, length_drop → bt, map_toArray → bz, nodup_cons → bB, map_cons → bD, map_nil → bE
open _root_.Nat renaming lt_or_ge → aD, min_eq_left → bu
open Go.Builtin renaming zeroCells → bk, append_ → bF, copy_ → bH, clear_ → bI
open Go.Region renaming wanted → bn
open _root_.Array renaming getElem?_eq_some_iff → aO
open Go.Result renaming andThen_ok → bA, andThen → aG
open Go.Sem renaming run_bind → be, run_pure → bC
open Go.Callee renaming builtin → bG
open Go.Oper renaming wp → bJ
open Go.World renaming cell? → aX
open _root_.Go.Proofs.Tryz
open _root_.Go.Proofs.Tryz renaming prog → ae
open Go.Value renaming int → af, slice → aj
open Go.IntKind renaming i64 → ag
variable {w w' b wr:World}{v v1:Value}{e e1 e2:TypeId}{n base sz i g o b1 n1 j:Nat}{cs xs l cur xc x1:List Value}{a:Act}{F:Nat->Prop}{K:Act->World->Prop}{E:Prop}{P:Program}
structure lL where
 type:Int
 id:Int
 iC:Int
 code:Int
 bytes:List Int
def jF(b:List Int):Nat->Option (List Int×Nat)
 |0=>some ([],1)
 |k+1=>match jF b k with
  |none=>none
  |some (ns,a)=>if kz (b.drop a)=0 then none else some (ns++[ly (b.drop a)],a+(kz (b.drop a)).toNat)
def kO(t:Int):Option Nat:=if t=0\/t=1 then some 0 else if t=3\/t=4 then some 3 else if t=5 then some 2 else if t=6\/t=7 then some 1 else none
def iV(b:List Int):Option (lL×Nat):=
 match kO (b.getD 0 0) with
 |none=>none
 |some c=>match c,jF b c with
  |_,none=>none
  |0,some (_,a)=>some (⟨b.getD 0 0,0,0,0,[]⟩,a)
  |1,some (ns,a)=>some (⟨b.getD 0 0,0,0,ns.getD 0 0,[]⟩,a)
  |2,some (ns,a)=>some (⟨b.getD 0 0,ns.getD 0 0,ns.getD 1 0,0,[]⟩,a)
  |_,some (ns,a)=>if(b.length:Int)<a+ns.getD 2 0 then none else some (⟨b.getD 0 0,ns.getD 0 0,ns.getD 1 0,0,(b.drop a).take (ns.getD 2 0).toNat⟩,a+(ns.getD 2 0).toNat)
structure jf where
 bytes:List Int
 read:Int
 gR:Int
 gM:Int
 final:Int
 reset:Bool
 done:Bool
structure gZ where
 gL:Int
 addr:Int
 gT:Bool
 jc:Int
 jb:Int
 heard:Int
 mark:Int
 runs:List (Int×Int)
 gM:Int
 gJ:List jf
 waits:Int
structure ik where
 c:jG
 now:Int
 gG:List gZ
 last:Int
def kR(l:List gZ)(gL:Int):Option Nat:=l.findIdx? fun c=>c.gL==gL
def jZ(c:jG):Int:=64+c.c1+32*c.c3
def nP(s:ik):Int:=s.gG.length*jZ s.c
def r_(l:List gZ):Int:=(l.countP fun c=>!c.gT:Nat)
def jO(l:List jf):Int:=(l.map (·.gR)).sum
def pB(l:List Int):Nat:=(l.takeWhile fun x=>decide (0<=x)).length
def Bv(s:jf):Bool:=decide (0<=s.final)&&decide (s.final<=s.read+pB s.bytes)
def kD(l:List Int)(p:Nat):List Int:=l++ak (p+1-l.length) (-1)
def ub(l:List Int)(p:Nat)(x:Int):Option (List Int):=
 if decide (0<=(kD l p).getD p (-1))&&decide ((kD l p).getD p (-1)≠x) then none else some ((kD l p).set p x)
def lN(l:List Int)(d:Int)(b:List Int):Nat->Option (List Int)
 |0=>some l
 |k+1=>(lN l d b k).bind fun m=>if d+k<0 then some m else ub m (d+k).toNat (b.getD k 0)
def pG(l:List Int)(k:Nat):Bool:=decide (0<=l.getD k (-1))&&(decide (k=0) || decide (l.getD (k-1) (-1)<0))
def l_(l:List Int):Nat->Int
 |0=>0
 |k+1=>l_ l k+if pG l k then 1 else 0
def jD(iI:Int)(s:jf)(iC:Int)(b:List Int):Int×jf:=
 match lN s.bytes (iC-s.read) b b.length with
 |none=>(9,s)
 |some l=>if iI<l_ l l.length then(8,s) else(0,{s with bytes:=l})
def vV(t:List Int):Int:=t.getD 1 0+256*t.getD 2 0+65536*t.getD 3 0+16777216*t.getD 4 0
def qi(c:jG)(now addr:Int)(t:List Int):Bool:=decide (t.length=9)&&decide (kr c.c9 addr (vV t)=t)&&decide (now<=vV t)
structure sX where
 all:List (Int×Int)
 lo:Int
 hi:Int
 xH:Bool
def jU(n:Int)(st:sX)(r:Int×Int):Option sX:=
 if r.1<=n/\n<=r.2 then none
 else if r.2=n-1 then some {st with lo:=r.1}
 else if r.1=n+1 then some {st with hi:=r.2}
 else if n<r.1/\st.xH=false then some {st with all:=st.all++[(st.lo,st.hi)]++[r],xH:=true}
 else some {st with all:=st.all++[r]}
def rO(n:Int)(rs:List (Int×Int)):Nat->Option sX
 |0=>some ⟨[],n,n,false⟩
 |k+1=>(rO n rs k).bind fun st=>jU n st (rs.getD k (0,0))
def ky(st:sX):List (Int×Int):=if st.xH then st.all else st.all++[(st.lo,st.hi)]
def ja(n lo hi:Int)(r:Int×Int):Int×Int:=if r.1<=n/\n<=r.2 then(lo,hi) else r
def qf(mark:Int)(rs:List (Int×Int))(n:Int):Option (Int×List (Int×Int)):=
 if n<mark then none else
 (rO n rs rs.length).map fun st=>
  let l:=(ky st).map (ja n st.lo st.hi)
  if 4<l.length then((l.getD 0 (0,0)).2+1,l.drop 1) else(mark,l)
def tT(f:Int×Int->Int×Int)(L:List (Int×Int))(j:Nat):List (Int×Int):=(L.take j).map f++L.drop j
def mj(l:List gZ)(k:Nat):Int:=((l[k]?).map gZ.waits).getD 0
def mG(l:List gZ):Nat->Option Nat
 |0=>none
 |k+1=>match mG l k with
  |none=>if 0<mj l k then some k else none
  |some j=>if 0<mj l k/\mj l k<mj l j then some k else some j
def jI(jm:Int):jf:=⟨[],0,0,jm,-1,false,false⟩
def rk(jm:Int)(l:List jf)(n:Nat):List jf:=l++ak (n-l.length) (jI jm)
def kK(gL:Int)(f:List Int):List Int:=[4]++jn gL++f
def oA(c:gZ)(n:Int):Bool:=c.gT || decide (c.jb+n<=3*c.jc)
structure xN(x:jf):Prop where
 bytes:x.bytes.length<=1073741823
 read:0<=x.read/\x.read<=1073741823
 gR:0<=x.gR/\x.gR<=1073741823
 gM:0<=x.gM/\x.gM<=1073741823
 final:-1<=x.final/\x.final<=1073741823
structure ke(M:Int)(c:gZ):Prop where
 gL:0<=c.gL/\c.gL<=1073741823
 addr:0<=c.addr/\c.addr<256
 jc:0<=c.jc/\c.jc<=M
 jb:0<=c.jb/\c.jb<=M
 heard:0<=c.heard/\c.heard<=1000000000
 runs:c.runs.length<=4/\∀r∈c.runs,0<=r.1/\r.1<=r.2/\r.2<=1073741823
 gM:0<=c.gM/\c.gM<=1073741823
 p_:0<c.gJ.length/\c.gJ.length<=1073741823
 str:∀x∈c.gJ,xN x
def jK(c:gZ)(f:List Int):gZ:=if oA c (kK c.gL f).length then {c with jb:=c.jb+(kK c.gL f).length} else c
def kB(c:gZ)(f:List Int)(gN:List (Int×List Int)):List (Int×List Int):=if oA c (kK c.gL f).length then gN++[(c.addr,kK c.gL f)] else gN
def ir(g:jG)(c:gZ):List Int:=[20]++jn (kc g.c9 c.addr c.gL)++jn g.c1++jn g.c2++jn g.c3
structure nx(g:jG):Prop where
 c0:1<=g.c0/\g.c0<=8
 c1:8<=g.c1/\g.c1<=4096
 c2:8<=g.c2/\g.c2<=g.c1
 c3:1<=g.c3/\g.c3<=8
 c4:1<=g.c4/\g.c4<=8
 c5:0<=g.c5/\g.c5<=8
 c6:1<=g.c6/\g.c6<=1000
 c7:1<=g.c7/\g.c7<=1000
 c8:0<=g.c8/\g.c8<=100000
 c9:0<=g.c9/\g.c9<4294967296
def pi(s:ik)(i:Nat)(c:gZ)(p:Int):Int×ik:=
 if p≠kc s.c.c9 c.addr c.gL then(10,s) else if c.gT then(0,s) else(0,{s with last:=s.last+1,gG:=s.gG.set i {c with gT:=true,waits:=s.last+1}})
def vY(x:jf)(e:Int)(aaD:Bool):Bool:=decide (0<=x.final)&&(decide (x.final<e) || aaD&&decide (e≠x.final)) || !x.done&&aaD&&decide (e<x.gR)
def kT(x:jf)(e:Int):Int:=if x.gR<e then e-x.gR else 0
def mC(x:jf)(e gM high:Int):Bool:=decide (x.gM<e) || decide (gM<high+kT x e)
def lp(f:lL)(x r:jf):jf:=
 let e:=f.iC+f.bytes.length
 let y:jf:={r with gR:=x.gR+kT x e,final:=if f.type≠3 then e else r.final}
 if f.type=5/\Bv y=false then {y with reset:=true,bytes:=[]} else y
def iw(iI gM high:Int)(f:lL)(x:jf):Int×jf:=
 let e:=f.iC+f.bytes.length
 if vY x e (decide (f.type≠3)) then(6,x) else if x.done then(0,x) else if mC x e gM high then(3,x) else
 if f.type≠5/\x.reset=false then
  if(jD iI x f.iC f.bytes).1≠0 then((jD iI x f.iC f.bytes).1,x) else(0,lp f x (jD iI x f.iC f.bytes).2)
 else(0,lp f x x)
def iN(iI:Int)(f:lL)(c:gZ):Int×gZ:=
 match c.gJ[f.id.toNat]? with
 |none=>(4,c)
 |some x=>((iw iI c.gM (jO c.gJ) f x).1,{c with gJ:=c.gJ.set f.id.toNat (iw iI c.gM (jO c.gJ) f x).2})
structure y9(f:lL):Prop where
 type:f.type=0\/f.type=1\/f.type=3\/f.type=4\/f.type=5\/f.type=6\/f.type=7
 id:0<=f.id/\f.id<=1073741823
 iC:0<=f.iC/\f.iC<=1073741823
structure aaa where
 code:Int
 lf:ik
 gone:Bool
def j6(s:ik)(i:Nat)(c:gZ)(f:lL):aaa:=
 if f.type=0\/f.type=1 then⟨0,s,false⟩
 else if f.type=6 then⟨0,{s with gG:=s.gG.eraseIdx i},true⟩
 else if f.type=7 then⟨(pi s i c f.code).1,(pi s i c f.code).2,false⟩
 else⟨(iN s.c.c4 f c).1,{s with gG:=s.gG.set i (iN s.c.c4 f c).2},false⟩
def ji(s:ik)(i:Nat)(b:List Int)(gN:List (Int×List Int)):Nat->ik×List (Int×List Int)
 |0=>(s,gN)
 |n+1=>if b=[] then(s,gN) else
  match s.gG[i]? with
  |none=>(s,gN)
  |some c=>match iV b with
   |none=>({s with gG:=s.gG.eraseIdx i},kB c ([19]++jn 7) gN)
   |some (f,size)=>
    if(j6 s i c f).code≠0 then({s with gG:=s.gG.eraseIdx i},kB c ([19]++jn (j6 s i c f).code) gN)
    else if(j6 s i c f).gone then((j6 s i c f).lf,gN)
    else ji (j6 s i c f).lf i (b.drop size) gN n
structure wk(M:Int)(s:ik)(c:gZ)(i:Nat)(s':ik)(c':gZ):Prop where
 at_:s'.gG[i]? =some c'
 cfg:s'.c=s.c
 now:s'.now=s.now
 RD:s'.gG.map (·.gL)=s.gG.map (·.gL)
 gL:c'.gL=c.gL
 ok:ke M c'
 last:s.last<=s'.last/\s'.last<=s.last+1
 Zb:c'.gT=false->s'.last=s.last/\c.gT=false
 stay:c.gT=true->s'.last=s.last/\c'.gT=true
def mh(s:ik)(i:Nat)(c:gZ)(addr size:Int)(gN:List (Int×List Int)):ik×List (Int×List Int):=
 if c.addr≠addr then(s,gN) else
 let c1:gZ:={c with jc:=c.jc+size,heard:=s.now}
 if c.gT then({s with gG:=s.gG.set i c1},gN) else({s with gG:=s.gG.set i (jK c1 (ir s.c c1))},kB c1 (ir s.c c1) gN)
def tU(s:ik)(addr gL:Int):List Int:=[3]++jn gL++jn 9++kr s.c.c9 addr (s.now+s.c.c7)
def ql(s:ik)(addr gL size:Int)(gN:List (Int×List Int)):List (Int×List Int):=if((tU s addr gL).length:Int)<=3*size then gN++[(addr,tU s addr gL)] else gN
def oU(g:jG):ik:=⟨g,0,[],0⟩
def jG.right(g:jG):Bool:=mD g.c0 g.c1 g.c2 g.c3 g.c4 g.c5 g.c6 g.c7 g.c8 g.c9
def lR(s:ik):Int×Int×ik:=
 match mG s.gG s.gG.length with
 |none=>(0,4,s)
 |some j=>match s.gG[j]? with
  |none=>(0,4,s)
  |some c=>(c.gL,0,{s with gG:=s.gG.set j {c with waits:=0}})
def Ao(s:ik)(now:Int):ik:={s with now:=now,gG:=s.gG.filter fun c=>decide (now-c.heard<s.c.c6)}
def nR(s:ik):Bool:=decide (s.c.c0<=(s.gG.length:Int)) || decide (s.c.c8<nP s+jZ s.c)
def my(gL addr:Int)(ok:Bool)(size now Zn:Int):gZ:=⟨gL,addr,ok,size,0,now,0,[],Zn,[],0⟩
def jL(s:ik)(gL addr size:Int)(ok:Bool):gZ:={my gL addr ok size s.now s.c.c1 with gJ:=rk s.c.c2 [] s.c.c3.toNat}
def uK(s:ik)(gL addr size:Int)(b:List Int)(N:Nat)(gN:List (Int×List Int)):ik×List (Int×List Int):=
 let c:=jL s gL addr size false
 ji {s with gG:=(s.gG++[c]).set s.gG.length (jK c (ir s.c c))} s.gG.length b (kB c (ir s.c c) gN) N
def Bi(n:Int)(c:gZ):gZ:={c with gT:=true,waits:=n}
def wV(s:ik)(i:Nat)(c:gZ):ik:={s with last:=s.last+1,gG:=s.gG.set i (Bi (s.last+1) c)}
def uJ(s:ik)(gL addr size:Int)(b:List Int)(N:Nat)(gN:List (Int×List Int)):ik×List (Int×List Int):=
 let c:=jL s gL addr size true
 ji (wV {s with gG:=(s.gG++[c]).set s.gG.length (jK c (ir s.c c))} s.gG.length (jK c (ir s.c c))) s.gG.length b (kB c (ir s.c c) gN) N
def mL(c:gZ)(n:Int):Option gZ:=(qf c.mark c.runs n).map fun r=>{c with mark:=r.1,runs:=r.2}
def ox(s:ik)(addr gL size:Int)(tok b:List Int)(N:Nat)(gN:List (Int×List Int)):ik×List (Int×List Int):=
 match kR s.gG gL with
 |some k=>match s.gG[k]? with
  |some c=>mh s k c addr size gN
  |none=>(s,gN)
 |none=>
  if 0<tok.length then
   if qi s.c s.now addr tok then if nR s then(s,gN) else uJ s gL addr size b N gN else(s,gN)
  else if s.c.c5<=r_ s.gG then(s,ql s addr gL size gN)
  else if nR s then(s,gN) else uK s gL addr size b N gN
def gW(l:List Value)(o:Nat)(cs:List Value):List Value:=l.take o++cs++l.drop (o+cs.length)
theorem iD(h:o+cs.length<=l.length):(gW l o cs).length=l.length:=by
 unfold gW;simp only[List.length_append,bq,bt];omega
theorem ms(h:o+cs.length<=l.length)(i:Nat):(gW l o cs)[i]? =if o<=i/\i<o+cs.length then cs[i-o]? else l[i]?:=by
 unfold gW;rw[br];rcases aD i o with h1|h1
 ·rw[if_neg (by omega),aw (by simp;omega),bi h1]
 ·rw[aF (by simp;omega),bq,bu (by omega)];rcases aD (i-o) cs.length with h2|h2
  ·rw[if_pos (by omega),aw h2]
  ·rw[if_neg (by omega),aF h2,List.getElem?_drop]
   congr 1
   omega
section
variable {P:Program}
theorem jV(w:World)(dT sT ty elem:TypeId)(g o UM ace:Nat)(a:Addr)(Ts abW:Nat)(cur:Array Value)(t:TypeId)(cs:List Value)(sz:Nat)
  (hu:P.underlying dT=some (.slice elem)) (hs:(P.info? elem).map (·.size)=some sz)
  (hg:w.heap[g]? =some (.cells cur t (0,0))) (hn:cs.length=Nat.min Ts UM*sz)
  (Ej:∀j v,cs[j]? =some v->w.cell? (a.add j)=some v) (xD:o+cs.length<=cur.size) (h1:∀v∈cs,v.oneCell'=true):
  (bH #[dT,sT] ty #[aj (some ⟨g,o,none⟩) UM ace,aj (some a) Ts abW]).run P w =
   .ok (goInt (Nat.min Ts UM)) (w.setRow g (gW cur.toList o cs).toArray):=by
 have xG:=run_storeCells_at P g o t cs 0 cur w hg (by simpa using xD) h1
 cases hq:P.info? elem with
 |none=>simp[hq]at hs
 |some i=>
  have hi:i.size=sz:=by simpa[hq] using hs
  have hf:=run_firstCells_some (P:=P) w i.size (Nat.min Ts UM) a Ts abW cs (by rw[hi];exact hn) Ej;simp[bH,run_underlying hu,Builtin.lenOf,sizeOf,typeInfo,hq,hf,xG,gW]
theorem ET(z:Array Value)(n:Nat):(bk z n).toList=(ak n z.toList).flatten:=by
 induction n with
 |zero=>simp[bk]
 |succ n ih=>
  apply bp
  intro i;have hl:(bk z (n+1)).toList.length=(n+1)*z.size:=by simp[bk]
  have rC:(ak (n+1) z.toList).flatten.length=(n+1)*z.size:=by simp
  rcases aD i ((n+1)*z.size) with hi|hi
  ·have hz:0<z.size:=by
    rcases Nat.eq_zero_or_pos z.size with h|h
    ·rw[h]at hi;simp at hi
    ·exact h
   have e1:(bk z (n+1)).toList[i]? =some z[i%z.size]!:=by
    simp[bk,List.getElem?_map,List.getElem?_range hi]
   rw[e1,List.replicate_succ,List.flatten_cons];rcases aD i z.size with h1|h1
   ·rw[aw (by simpa using h1),Nat.mod_eq_of_lt h1];simp[h1]
   ·rw[aF (by simpa using h1),<-ih]
    have e2:(bk z n).toList[i-z.toList.length]? =some z[(i-z.size)%z.size]!:=by
     have:i-z.size<n*z.size:=by rw[Nat.add_mul]at hi;omega
     simp[bk,List.getElem?_map,List.getElem?_range this]
    rw[e2,Nat.mod_eq_sub_mod h1]
  ·rw[bj (by omega),bj (by omega)]
theorem sQ(w:World)(t e ty:TypeId)(z:Value)(ht:P.underlying t=some (.slice e))(hv:(zeroValue e).run P w=.ok z w)(g o n c:Nat)(hn:0<n)(cur:Array Value)(et:TypeId)(hg:w.heap[g]? =some (.cells cur et (0,0)))
  (xD:o+n*z.cells.size<=cur.size) (h1:∀v∈z.cells.toList,v.oneCell'=true):
  (bI #[t] ty #[aj (some ⟨g,o,none⟩) n c]).run P w=.ok (.tuple #[]) (w.setRow g (gW cur.toList o (ak n z.cells.toList).flatten).toArray):=by
 have hzc:=ET z.cells n;have i8:(ak n z.cells.toList).flatten.length=n*z.cells.size:=by simp
 have xG:=run_storeCells_at P g o et (ak n z.cells.toList).flatten 0 cur w hg (by rw[i8];simpa using xD) (by
  intro v YP;obtain⟨l,hl,Ft⟩:=List.mem_flatten.1 YP;rw[List.eq_of_mem_replicate hl]at Ft;exact h1 v Ft)
 obtain⟨m,rfl⟩:∃m,n=m+1:=⟨n-1,by omega⟩;simp only[Nat.add_zero]at xG;simp[bI,run_underlying ht,hv,hzc,xG,gW]
theorem mT{w:World}{lZ:Array Oper}{rest:List Oper}{o:Oper}{a:Act}{Q:Exit->Act->World->Prop}(sJ:o.guard=none)(d s:Operand)(t t':TypeId)
  (ho:o.op=.call {callee:=.builtin .copy,args:=#[d,s],argTypes:=#[t,t']}) (v u:Value) (hd:a.eval d=v) (hs:a.eval s=u) {v':Value} {w':World}
  (hr:(bH #[t,t'] o.type #[v,u]).run P w=.ok v' w') (h:wpList P lZ Q rest (a.put o.dst v') w'):wpList P lZ Q (o::rest) a w:=by
 refine wpList_plain sJ fun K hK=>?_
 unfold bJ execOp;simp only[ho,resolve,invoke,builtin,be,bC,bA,bz,bD,bE,hd,hs,hr];exact hK _ _ h
theorem lC{w:World}{lZ:Array Oper}{rest:List Oper}{o:Oper}{a:Act}{Q:Exit->Act->World->Prop}(sJ:o.guard=none)(d:Operand)(t:TypeId)
  (ho:o.op=.call {callee:=.builtin .clear,args:=#[d],argTypes:=#[t]}) (v:Value) (hd:a.eval d=v) {v':Value} {w':World}
  (hr:(bI #[t] o.type #[v]).run P w=.ok v' w') (h:wpList P lZ Q rest (a.put o.dst v') w'):wpList P lZ Q (o::rest) a w:=by
 refine wpList_plain sJ fun K hK=>?_
 unfold bJ execOp;simp only[ho,resolve,invoke,builtin,be,bC,bA,bz,bD,bE,hd,hr];exact hK _ _ h
theorem iY{w:World}{lZ:Array Oper}{rest:List Oper}{o:Oper}{a:Act}{Q:Exit->Act->World->Prop}(sJ:o.guard=none)(s x:Operand)(t tn:TypeId)
  (ho:o.op=.call {callee:=.builtin .append,args:=#[s,x],argTypes:=#[t,tn]}) (vs vx:Value) (hs:a.eval s=vs) (hx:a.eval x=vx)
  {v':Value} {w':World} (hr:(bF #[t,tn] o.type #[vs,vx]).run P w=.ok v' w') (h:wpList P lZ Q rest (a.put o.dst v') w'):wpList P lZ Q (o::rest) a w:=by
 refine wpList_plain sJ fun K hK=>?_
 unfold bJ execOp;simp only[ho,resolve,invoke,builtin,be,bC,bA,bz,bD,bE,hs,hx,hr];exact hK _ _ h
theorem kW{lZ:Array Oper}{o:Oper}{a:Act}{w:World}{K:Act->World->Prop}{Q:Exit->Act->World->Prop}{E:Prop}
  (hg:o.guard=none) (d x:Operand) (dT sT:TypeId) (AB:o.op=Op.call {callee:=bG Builtin.copy,args:=#[d,x],argTypes:=#[dT,sT]})
  (v u:Value) (hd:a.eval d=v) (hx:a.eval x=u) {v':Value} {w':World} (hr:(bH #[dT,sT] o.type #[v,u]).run P w=.ok v' w') (hK:K (a.put o.dst v') w'):
  if bn o (yielded lZ a.tmps)=true then bJ P o a w K Q else E:=by
 have hw:bn o (yielded lZ a.tmps)=true:=by simp[bn,hg]
 rw[if_pos hw];unfold bJ;simp[execOp,AB,resolve,invoke,builtin,hd,hx,hr,aG];exact hK
theorem vT{lZ:Array Oper}{o:Oper}{a:Act}{w:World}{K:Act->World->Prop}{Q:Exit->Act->World->Prop}{E:Prop}
  (hg:o.guard=none) (d x:Operand) (dT sT:TypeId) (AB:o.op=Op.call {callee:=bG Builtin.append,args:=#[d,x],argTypes:=#[dT,sT]})
  (v u:Value) (hd:a.eval d=v) (hx:a.eval x=u) {v':Value} {w':World} (hr:(bF #[dT,sT] o.type #[v,u]).run P w=.ok v' w') (hK:K (a.put o.dst v') w'):
  if bn o (yielded lZ a.tmps)=true then bJ P o a w K Q else E:=by
 have hw:bn o (yielded lZ a.tmps)=true:=by simp[bn,hg]
 rw[if_pos hw];unfold bJ;simp[execOp,AB,resolve,invoke,builtin,hd,hx,hr,aG];exact hK
end
theorem xe{a:World}(h:a.heap=b.heap)(g:Nat)(r:Array Value):(a.setRow g r).heap=(b.setRow g r).heap:=by simp[World.setRow,h]
abbrev jT:=Int×Value
def iz(l:List jT):List Value:=l.flatMap fun r=>[af ag r.1,r.2]
theorem iy(l:List jT):(iz l).length=l.length*2:=by
 induction l with
 |nil=>rfl
 |cons a r ih=>simp only[iz,List.flatMap_cons,List.length_append]at ih⊢;rw[ih];simp;omega
theorem oi(a b:List jT):iz (a++b)=iz a++iz b:=by simp[iz]
theorem mW(a:jT)(b:List jT):iz (a::b)=[af ag a.1,a.2]++iz b:=by simp[iz]
theorem tq(l:List jT):∀i,iz (l.take i)=(iz l).take (i*2):=by
 induction l with
 |nil=>intro i;simp[iz]
 |cons a r ih=>
  intro i
  cases i with
  |zero=>simp[iz]
  |succ i=>rw[List.take_succ_cons,mW,mW,ih,show(i+1)*2=i*2+2 from by omega];rfl
theorem tp(l:List jT):∀i,iz (l.drop i)=(iz l).drop (i*2):=by
 induction l with
 |nil=>intro i;simp[iz]
 |cons a r ih=>
  intro i
  cases i with
  |zero=>simp
  |succ i=>rw[List.drop_succ_cons,mW,ih,show(i+1)*2=i*2+2 from by omega];rfl
theorem o0{l:List jT}:∀{k:Nat} {r:jT},l[k]? =some r->(iz l)[k*2]? =some (af ag r.1)/\(iz l)[k*2+1]? =some r.2:=by
 induction l with
 |nil=>intro k r h;simp at h
 |cons a t ih=>
  intro k r h;rw[mW]
  cases k with
  |zero=>simp at h;subst h;simp
  |succ k=>
   rw[List.getElem?_cons_succ]at h;obtain⟨h1,h2⟩:=ih h;refine⟨?_,?_⟩
   ·rw[aF (by simp;omega)];rw[show(k+1)*2-[Value.int .i64 a.1,a.2].length=k*2 from by simp;omega];exact h1
   ·rw[aF (by simp;omega)];rw[show(k+1)*2+1-[Value.int .i64 a.1,a.2].length=k*2+1 from by simp;omega];exact h2
theorem pH{l:List jT}(h:∀r∈l,r.2.oneCell'=true):∀u∈iz l,u.oneCell'=true:=by
 intro u hu;obtain⟨r,hr,hu⟩:=List.mem_flatMap.1 hu;simp only[List.mem_cons,List.not_mem_nil,or_false]at hu;rcases hu with rfl|rfl
 ·rfl
 ·exact h r hr
theorem JL{a:Nat}(h:cur.take cs.length=cs)(ha:a<=cs.length)(hl:cs.length+xc.length<=cur.length):
  (gW (gW cur (a+xc.length) (cs.drop a)) a xc).take (cs.length+xc.length)=cs.take a++xc++cs.drop a:=by
 have hd:(cs.drop a).length=cs.length-a:=bt;have e1:=iD (l:=cur) (o:=a+xc.length) (cs:=cs.drop a) (by rw[hd];omega);have hc:∀i,i<cs.length->cur[i]? =cs[i]?:=fun i hi=>by rw[<-h,bi hi]
 apply bp
 intro i;rcases aD i (cs.length+xc.length) with hi|hi
 ·rw[bi hi,ms (by rw[e1];omega),ms (by rw[hd];omega),br];rcases aD i a with h1|h1
  ·rw[if_neg (by omega),if_neg (by omega),aw (by simp;omega),bi h1];exact hc i (by omega)
  ·rw[aF (by simp;omega),bq,bu ha];rcases aD i (a+xc.length) with h2|h2
   ·rw[if_pos ⟨h1,h2⟩,aw (by omega)]
   ·rw[if_neg (by omega),if_pos (by rw[hd];omega),aF (by omega)]
    congr 1
    omega
 ·rw[bj (by simp;omega),bj (by simp;omega)]
theorem Kh{zs:List Value}{a b:Nat}(h:cur.take cs.length=cs)(hab:a+xc.length<=b)(hb:b<=cs.length)(hl:cs.length<=cur.length)(hz:zs.length=b-a-xc.length):
  (gW (gW (gW cur a xc) (a+xc.length) (cs.drop b)) (a+xc.length+(cs.length-b)) zs).take (a+xc.length+(cs.length-b))=cs.take a++xc++cs.drop b:=by
 have hd:(cs.drop b).length=cs.length-b:=bt;have e0:=iD (l:=cur) (o:=a) (cs:=xc) (by omega);have e1:=iD (l:=gW cur a xc) (o:=a+xc.length) (cs:=cs.drop b) (by rw[hd,e0];omega);have hc:∀i,i<cs.length->cur[i]? =cs[i]?:=fun i hi=>by rw[<-h,bi hi]
 apply bp
 intro i;rcases aD i (a+xc.length+(cs.length-b)) with hi|hi
 ·rw[bi hi,ms (by rw[e1,e0,hz];omega),if_neg (by omega),ms (by rw[hd,e0];omega),ms (by omega),br];rcases aD i a with h1|h1
  ·rw[if_neg (by omega),if_neg (by omega),aw (by simp;omega),bi h1];exact hc i (by omega)
  ·rw[aF (by simp;omega),bq,bu (by omega)];rcases aD i (a+xc.length) with h2|h2
   ·rw[if_neg (by omega),if_pos ⟨h1,h2⟩,aw (by omega)]
   ·rw[if_pos (by rw[hd];omega),aF (by omega)]
    congr 1
    omega
 ·rw[bj (by simp;omega),bj (by simp;omega)]
theorem jh{a:Addr}(h:w.cell? a=some v):a.block<w.heap.size:=by
 rcases aD a.block w.heap.size with h1|h1
 ·exact h1
 ·simp[aX,Array.getElem?_eq_none h1]at h
structure ip(F:Nat->Prop)(w w':World):Prop where
 os:w'.os=w.os
 tape:w'.tape=w.tape
 output:w'.output=w.output
 size:w.heap.size<=w'.heap.size
 block:∀k,k<w.heap.size->¬F k->w'.heap[k]? =w.heap[k]?
theorem ip.refl(F:Nat->Prop)(w:World):ip F w w:=⟨rfl,rfl,rfl,Nat.le_refl _,fun _ _ _=>rfl⟩
theorem ip.trans{a c:World}(h:ip F a b)(k:ip F b c):ip F a c:=
 ⟨k.os.trans h.os,k.tape.trans h.tape,k.output.trans h.output,Nat.le_trans h.size k.size,fun i hi hn=>(k.block i (Nat.lt_of_lt_of_le hi h.size) hn).trans (h.block i hi hn)⟩
theorem ip.gS(h:Below w.heap.size w w'):ip F w w':=⟨h.os,h.tape,h.output,h.size,fun k hk _=>h.block k hk⟩
theorem ip.mono{G:Nat->Prop}(h:ip F w w')(hfg:∀k,k<w.heap.size->F k->G k):ip G w w':=⟨h.os,h.tape,h.output,h.size,fun k hk hn=>h.block k hk (fun hf=>hn (hfg k hk hf))⟩
def Ro(w:World)(e:TypeId)(v:Value)(n:Nat)(cs:List Value):Prop:=
 ∃ao cap,v=.slice ao n cap/\(0<n->∃b off cur fr,ao=some ⟨b,off,none⟩/\w.heap[b]? =some (.cells cur e fr)/\∀j,j<cs.length->cur[off+j]? =cs[j]?)/\(ao=none->cap=0)
theorem Ro.nil(w:World)(e:TypeId):Ro w e (aj none 0 0) 0 []:=⟨none,0,rfl,fun h=>absurd h (by decide),fun _=>rfl⟩
theorem Ro.iO(h:Ro w e v n cs)(hc:ip F w w')(hF:∀k cur fr,w.heap[k]? =some (.cells cur e fr)->¬F k):Ro w' e v n cs:=by
 obtain⟨ao,cap,rfl,hp,hz⟩:=h;refine⟨ao,cap,rfl,fun hn=>?_,hz⟩;obtain⟨b,off,cur,fr,rfl,hb,lF⟩:=hp hn;exact⟨b,off,cur,fr,rfl,by rw[hc.block b (aO.1 hb).1 (hF b cur fr hb)];exact hb,lF⟩
theorem Ro.below(h:Ro w e v n cs)(hb:Below w.heap.size w w'):Ro w' e v n cs:=h.iO (F:=fun _=>False) (ip.gS hb) (fun _ _ _ _ h=>h)
theorem Ro.vw{size:Nat}(h:w.ownsRow base e size v n xs):Ro w e v n xs:=by
 obtain⟨hl,⟨rfl,rfl⟩|⟨g,cap,cur,rfl,_,hg,_,_,_,ht⟩⟩:=h
 ·exact⟨none,0,rfl,fun h=>absurd h (by decide),fun _=>rfl⟩
 ·refine⟨_,cap,rfl,fun _=>⟨g,0,cur,_,rfl,hg,fun j hj=>?_⟩,fun h=>by simp at h⟩;rw[Nat.zero_add,<-ht,List.getElem?_take,if_pos (by omega)];simp
theorem gQ{cs:Array Value}{t:TypeId}(h:w.heap[g]? =some (.cells cs t (0,0)))(i:Nat)(v:Value):(w.setCell ⟨g,i,none⟩ v).heap[g]? =some (.cells (cs.setIfInBounds i v) t (0,0)):=heap_setCell_same w g i cs t v h
theorem iu{cb:Nat}(h:Below w.heap.size w wr)(o:Nat)(v:Value):ip (· = cb) w (wr.setCell ⟨cb,o,none⟩ v):=
 ⟨h.os,h.tape,h.output,by rw[World.size_setCell];exact h.size,fun k hk js=>by rw[Below.heap_setCell _ _ _ _ js];exact h.block k hk⟩
theorem gK{B:Nat}(h:Below B w wr)(n:Nat):Below B w (wr.drewN n):=⟨h.os,h.tape,h.output,h.size,h.block⟩
theorem lJ(w:World)(base:Nat)(t ty e:TypeId)(i:TypeInfo)(z:Value)(size bytes:Nat)(ht:P.underlying t=some (.slice e))(hi:P.info? e=some i)(hz:i.zero=some z)
  (nI:i.size=size) (rm:i.bytes=bytes) (Fv:z.cells.size=size) (ku:0<size) (v:Value) (n:Nat) (xs:List Value) (gY:w.ownsRow base e size v n xs)
  (a:Addr) (m c:Nat) (news:List Value) (hl:news.length=m*size) (pz:∀j u,news[j]? =some u->w.cell? (a.add j)=some u) (h1:∀u∈news,u.oneCell'=true)
  (Fj:n+m<=maxLen) (nG:(n+m)*bytes<=140737488355328) (lE:base<=w.heap.size):
  ∃v' w',(bF #[t,t] ty #[v,aj (some a) m c]).run P w=.ok v' w'/\w'.ownsRow base e size v' (n+m) (xs++news)/\w.grownBy w' v.ownBlock/\(v'.ownBlock=v.ownBlock\/∀g,v'.ownBlock=some g->w.heap.size<=g):=by
 obtain⟨v',w',kk,r1,r2,_⟩:=run_append_own (P:=P) w base t ty e i z size bytes ht hi hz nI rm Fv ku v n xs gY a m c news hl pz h1 Fj nG lE;refine⟨v',w',kk,r1,r2,?_⟩;obtain⟨i8,⟨rfl,rfl⟩|⟨g,cap,cur,rfl,hg,Se,nH,Vj,adn,pd⟩⟩:=gY
 ·obtain rfl:xs=[]:=List.length_eq_zero_iff.1 (by simpa using i8);obtain⟨v2,w2,h2,q1,_⟩:=run_append_own (P:=P) w w.heap.size t ty e i z size bytes ht hi hz nI rm Fv ku (aj none 0 0) 0 [] (World.ownsRow_nil _ _ _ _) a m c news hl pz h1 Fj nG (Nat.le_refl _);rw[kk]at h2;simp only[Result.ok.injEq]at h2;obtain⟨rfl,rfl⟩:=h2;exact Or.inr fun k hk=>(q1.lt k hk).1
 ·by_cases mJ:n+m<=cap
  ·subst nI
   have nz:∀j,j<news.length->n*i.size+j<cur.size:=by
    intro j hj;rw[adn];have h2:(n+m)*i.size<=cap*i.size:=Nat.mul_le_mul_right _ mJ;rw[Nat.add_mul]at h2;omega
   have h2:=run_append_room_cells (P:=P) w t ty e i ht hi g 0 n cap a m c news hl pz h1 mJ (fun j hj=>by
    rw[Nat.zero_add];simp only[aX,Se];have:=nz j hj;simp[this]) (fun j hj=>frozen_of_row w g _ _ _ Se)
   rw[kk]at h2;simp only[Result.ok.injEq]at h2;obtain⟨rfl,rfl⟩:=h2;exact Or.inl rfl
  ·have hold:∀j u,xs[j]? =some u->w.cell? ((⟨g,0,none⟩:Addr).add j)=some u:=by
    intro j u hu;have hj:=(bm.1 hu).1;rw[show(⟨g,0,none⟩:Addr).add j =⟨g,j,none⟩ from by simp[Addr.add];intro h;exact h.symm];rw[<-pd,List.getElem?_take,if_pos (by omega)]at hu;simp only[aX,Se];simpa using hu
   obtain⟨v2,w2,h2,q1,_⟩:=run_append_arg_grows (P:=P) w t ty e i z size bytes ht hi hz nI rm Fv ku ⟨g,0,none⟩ n cap xs i8 hold a m c news hl pz (by omega) Fj nG;rw[kk]at h2;simp only[Result.ok.injEq]at h2;obtain⟨rfl,rfl⟩:=h2;exact Or.inr fun k hk=>(q1.lt k hk).1
theorem rI{lZ:Array Oper}{o:Oper}{Q:Exit->Act->World->Prop}
  (hg:o.guard=none) (s x:Operand) (t:TypeId) (AB:o.op=Op.call {callee:=bG Builtin.append,args:=#[s,x],argTypes:=#[t,t]})
  (base:Nat) (e:TypeId) (i:TypeInfo) (z:Value) (size bytes:Nat) (h1:P.underlying t=some (.slice e)) (h2:P.info? e=some i) (h3:i.zero=some z) (h4:i.size=size) (h5:i.bytes=bytes) (h6:z.cells.size=size) (h7:0<size)
  (v:Value) (n:Nat) (xs:List Value) (hs:a.eval s=v) (gY:w.ownsRow base e size v n xs)
  (ad:Addr) (m c:Nat) (news:List Value) (hx:a.eval x=aj (some ad) m c) (hn:news.length=m*size) (hc:∀j u,news[j]? =some u->w.cell? (ad.add j)=some u) (h1c:∀u∈news,u.oneCell'=true)
  (b1:n+m<=maxLen) (b2:(n+m)*bytes<=140737488355328) (lE:base<=w.heap.size)
  (hK:∀v' w',w'.ownsRow base e size v' (n+m) (xs++news)->w.grownBy w' v.ownBlock->(v'.ownBlock=v.ownBlock\/∀g,v'.ownBlock=some g->w.heap.size<=g)->K (a.put o.dst v') w'):
  if bn o (yielded lZ a.tmps)=true then bJ P o a w K Q else E:=by
 have hw:bn o (yielded lZ a.tmps)=true:=by simp[bn,hg]
 rw[if_pos hw];obtain⟨v',w',kk,r1,r2,r3⟩:=lJ (P:=P) w base t o.type e i z size bytes h1 h2 h3 h4 h5 h6 h7 v n xs gY ad m c news hn hc h1c b1 b2 lE;unfold bJ;simp[execOp,AB,resolve,invoke,builtin,hs,hx,kk,aG];exact hK v' w' r1 r2 r3
theorem ii(h:w.ownsRow base e sz v n xs)(hv:v.ownBlock=some g):∃cs,w.heap[g]? =some (.cells cs e (0,0)):=by
 obtain⟨_,⟨rfl,_⟩|⟨g',cap,cur,rfl,_,hg,_⟩⟩:=h
 ·simp[Value.ownBlock]at hv
 ·simp only[Value.ownBlock,Option.some.injEq]at hv;subst hv;exact⟨cur,hg⟩
theorem gO{cs:Array Value}{fr:Nat×Nat}(h1:w.ownsRow b1 e1 sz v1 n1 x1)(hg:w.heap[g]? =some (.cells cs e2 fr))(he:e1≠e2):v1.ownBlock≠some g:=by
 intro hv;obtain⟨c1,UP⟩:=ii h1 hv;rw[hg]at UP;simp only[Option.some.injEq,Obj.cells.injEq]at UP;exact he UP.2.1.symm
theorem iA(h:w.ownsRow base e sz v n xs):∃ao cap,v=.slice ao n cap:=by
 obtain⟨_,⟨rfl,rfl⟩|⟨g,cap,cur,rfl,_⟩⟩:=h
 ·exact⟨none,0,rfl⟩
 ·exact⟨_,cap,rfl⟩
theorem yC{b2:Nat}{s1 s2:Nat}{v2:Value}{n2:Nat}{x2:List Value}(h1:w.ownsRow b1 e1 s1 v1 n1 x1)(h2:w.ownsRow b2 e2 s2 v2 n2 x2)(he:e1≠e2):v1.ownBlock=none\/v1.ownBlock≠v2.ownBlock:=by
 cases h:v1.ownBlock with
 |none=>exact Or.inl rfl
 |some g=>
  refine Or.inr fun e=>?_
  obtain⟨cs,hc⟩:=ii h2 e.symm;exact gO h1 hc he h
theorem jg(h:w.ownsRow base e sz v n xs)(hc:ip F w w')(hF:∀g,v.ownBlock=some g->¬F g):w'.ownsRow base e sz v n xs:=by
 refine⟨h.1,?_⟩;rcases h.2 with hn|⟨g,cap,cur,rfl,hb,Il,rest⟩
 ·exact .inl hn
 ·exact .inr ⟨g,cap,cur,rfl,hb,by rw[hc.block g (aO.1 Il).1 (hF g rfl)];exact Il,rest⟩
theorem jy(h:w.ownsRow base e sz v n xs)(hc:ip F w w')(hF:∀k cur fr,w.heap[k]? =some (.cells cur e fr)->¬F k):w'.ownsRow base e sz v n xs:=
 jg h hc fun g hg=>by
  obtain⟨cs,lF⟩:=ii h hg;exact hF g cs _ lF
theorem PT{l:List Nat}(h:l.Nodup){a:Nat}(ha:a∉l):∀i,(l.set i a).Nodup:=by
 induction l with
 |nil=>intro i;simp
 |cons x r ih=>
  intro i;simp only[bB]at h;simp only[List.mem_cons,not_or]at ha
  cases i with
  |zero=>simp only[List.set_cons_zero,bB];exact⟨ha.2,h.2⟩
  |succ i=>
   simp only[List.set_cons_succ,bB];refine⟨fun hm=>?_,ih h.2 ha.2 i⟩;rcases List.mem_or_eq_of_mem_set hm with h1|h1
   ·exact h.1 h1
   ·exact ha.1 h1.symm
theorem JW{l:List Nat}(h:l.Nodup){a b:Nat}(hi:l[i]? =some a)(hj:l[j]? =some b)(js:i≠j):a≠b:=by
 rintro rfl;have h1:=(bm.1 hi).1;exact js ((List.getElem?_inj h1 h).1 (by rw[hi,hj]))
theorem getElem?_set_other{α:Type}{l:List α}{a:α}(h:j≠i):(l.set i a)[j]? =l[j]?:=by
 rw[List.getElem?_set];simp[Ne.symm h]
theorem getElem?_set_at{α:Type}{l:List α}{a b:α}(h:l[i]? =some b):(l.set i a)[i]? =some a:=by
 have:=(bm.1 h).1;simp[this]
theorem jw{α:Type}{l:List α}{a:α}(h:l[i]? =some a):l.set i a=l:=by
 apply bp
 intro j;by_cases hj:j=i
 ·subst hj;rw[getElem?_set_at h,h]
 ·rw[getElem?_set_other hj]
theorem ib(h:Below w.drew.heap.size w.drew w'):Below w.heap.size w w':=⟨h.os,h.tape,h.output,h.size,h.block⟩
end Go.Proofs.YthmdjhlhodpbhaaGreatDoor
