/- Apart, 6 -/
import Derived.Test.YthmdjhlhodpbhaaGreatDoorA02
import Derived.Test.YthmdjhlhodpbhaaGreatDoorA05
set_option maxHeartbeats 16000000
set_option maxRecDepth 8000
namespace Go.Proofs.YthmdjhlhodpbhaaGreatDoor
def dC(ty:Int):Bool:=(ty==4) ||(ty==5)
def ft(ty en fi:Int):Int:=if fi<en\/(dC ty=true/\en≠fi) then 6 else 0
def iR(hi cr en room:Int):Int:=if cr<en\/room<en-hi then 3 else 0
def uI(kn:Bool)(ty en hi fi:Int):Int:=if kn=true then ft ty en fi else if dC ty=true/\en<hi then 6 else 0
def lU(rs:Bool)(rl:List aO)(first:Int)(fresh:List Int)(gaps:Int):Int×List aO:=
 if rs=true then(0,rl) else if eb rl first fresh=false then(9,rl) else(if gaps<(dI rl first fresh).length then 8 else 0,dI rl first fresh)
theorem um(rl:List aO)(first:Int):eb rl first []=true:=by
 unfold eb
 rw[List.all_eq_true]
 intro r _
 rw[jL]
 intro p h1 h2
 simp at h2
 omega
theorem rG(rl:List aO)(first:Int):dI rl first []=rl:=by
 unfold dI
 rw[if_pos rfl]
theorem runsOf_to(l:List Int):∀(base:Int),∀q∈aX base l,au q<=base+l.length:=by
 induction l with
 |nil=>intro base q hq;simp[aX]at hq
 |cons x l ih=>
  intro base q hq
  have hl:((x::l).length:Int)=l.length+1:=by simp
  unfold aX at hq
  split at hq
  ·unfold eO at hq
   split at hq
   ·simp at hq;subst hq;simp[au];omega
   ·rename_i r t he
    have h1:∀q∈r::t,au q<=base+1+l.length:=fun q hq=>ih (base+1) q (by rw[he];exact hq)
    split at hq
    ·rename_i e
     rcases List.mem_cons.1 hq with rfl|hq
     ·have:=h1 r (by simp)
      simp only[au,List.length_cons]at this⊢
      omega
     ·have:=h1 q (by simp[hq]);omega
    ·rcases List.mem_cons.1 hq with rfl|hq
     ·simp[au];omega
     ·have:=h1 q hq;omega
  ·have:=ih (base+1) q hq;omega
theorem l8{ty:Int}(h:ty=3\/ty=4\/ty=5):dC ty=decide (ty≠3):=by
 rcases h with rfl|rfl|rfl<;>decide
theorem endN_bad{gaps:Int}{x:aR}(hx:StrInv gaps x)(hd:x.done=false){ty e:Int}(hty:ty=3\/ty=4\/ty=5):
  (lI x e (decide (ty≠3))=true/\uI (decide (0<=x.final)) ty e x.highest (max x.final 0)=6)\/(lI x e (decide (ty≠3))=false/\uI (decide (0<=x.final)) ty e x.highest (max x.final 0)=0):=by
 unfold lI uI ft
 rw[l8 hty,hd]
 by_cases h0:0<=x.final
 ·have hf:=hx.fin h0
  have hm:max x.final 0=x.final:=by omega
  rw[hm,hf]
  by_cases a:x.final<e
  ·left;simp[h0,a]
  ·by_cases b:ty=3
   ·right;simp[h0,a,b]
   ·by_cases c:e=x.final
    ·right;simp[h0,b,c]
    ·left
     simp[h0,b,c]
 ·by_cases b:ty=3
  ·right;simp[h0,b]
  ·by_cases c:e<x.highest
   ·left;simp[h0,b,c]
   ·right;simp[h0,b,c]
theorem sS{x:aR}{e credit high:Int}(hch:high<=credit):
  (gY x e credit high=true/\iR x.highest x.credit e (credit-high)=3)\/(gY x e credit high=false/\iR x.highest x.credit e (credit-high)=0):=by
 unfold gY iR fW
 by_cases a:x.credit<e
 ·left;simp[a]
 ·by_cases b:x.highest<e
  ·by_cases c:credit<high+(e-x.highest)
   ·left;simp[a,b,c];omega
   ·right;simp[a,b,c];omega
  ·right;simp[a,b];omega
theorem recN_is{gaps:Int}{x:aR}(hx:StrInv gaps x){f:dx}(hb:Bytes f.bytes)(h5:f.type=5->f.bytes=[]):
  let po:=if f.type=5 then 0 else f.ofs
  let k:=fe x.read po f.bytes
  let r:=lU x.reset (aX x.read x.bytes) (po+k) (f.bytes.drop k) gaps
  (f.type≠5/\x.reset=false->r.1=(dt gaps x f.ofs f.bytes).1/\(r.1=0->r.2=aX x.read (dt gaps x f.ofs f.bytes).2.bytes))/\(¬(f.type≠5/\x.reset=false)->r=(0,aX x.read x.bytes)):=by
 intro po k r
 have hcnt:((aX x.read x.bytes).length:Int)<=gaps:=by rw[df];exact hx.gaps
 constructor
 ·rintro⟨h1,h2⟩
  have hpo:po=f.ofs:=if_neg h1
  have hr:r=lU x.reset (aX x.read x.bytes) (f.ofs+fe x.read f.ofs f.bytes) (f.bytes.drop (fe x.read f.ofs f.bytes)) gaps:=by
   show lU x.reset (aX x.read x.bytes) (po+fe x.read po f.bytes) (f.bytes.drop (fe x.read po f.bytes)) gaps=_
   rw[hpo]
  rw[hr]
  unfold lU dt
  rw[if_neg (by rw[h2];decide)]
  rcases recv_runs x.read x.bytes f.ofs hb with⟨e1,e2⟩|⟨e1,m,e2,e3⟩
  ·rw[if_pos e1,e2]
   exact⟨rfl,fun h=>absurd (show(9:Int)=0 from h) (by decide)⟩
  ·rw[if_neg (by rw[e1];decide),e2,e3]
   simp only
   rw[df]
   split
   ·rename_i h
    exact⟨rfl,fun h=>absurd (show(8:Int)=0 from h) (by decide)⟩
   ·exact⟨rfl,fun _=>rfl⟩
 ·intro h
  show lU _ _ _ _ _=_
  unfold lU
  by_cases h2:x.reset=true
  ·rw[if_pos h2]
  ·have h3:f.type=5:=Classical.byContradiction fun h3=>h ⟨h3,by simpa using h2⟩
   have hbn:=h5 h3
   rw[if_neg h2]
   have hd:f.bytes.drop k=[]:=by rw[hbn];simp
   rw[hd,um,rG,if_neg (by decide),if_neg (by omega)]
theorem tH{gaps credit high:Int}{f:dx}{x:aR}(hb:Bytes f.bytes)(hx:StrInv gaps x)(hd:x.done=false)(hch:high<=credit)(hty:f.type=3\/f.type=4\/f.type=5)(h5:f.type=5->f.bytes=[])(ho:0<=f.ofs):
  let e:=f.ofs+f.bytes.length
  let po:=if f.type=5 then 0 else f.ofs
  let c1:=uI (decide (0<=x.final)) f.type e x.highest (max x.final 0)
  let c2:=iR x.highest x.credit e (credit-high)
  let k:=fe x.read po f.bytes
  let r:=lU x.reset (aX x.read x.bytes) (po+k) (f.bytes.drop k) gaps
  (bf gaps credit high f x).1=(if c1≠0 then c1 else if c2≠0 then c2 else r.1)/\
  (c1=0->c2=0->r.1=0->∀x',(bf gaps credit high f x).2=x'->x'.read=x.read/\x'.highest=max x.highest e/\x'.credit=x.credit/\x'.final=(if dC f.type=true then e else x.final)/\x'.done=false/\
   (f.type=5->bu r.2 x.read e=false->x'.reset=true/\x'.bytes=[])/\(¬(f.type=5/\bu r.2 x.read e=false)->x'.reset=x.reset/\aX x.read x'.bytes=r.2)):=by
 intro e po c1 c2 k r
 have hrec:=recN_is hx hb h5
 have he0:0<=e:=by show 0<=f.ofs+f.bytes.length;omega
 have ht:=l8 hty
 rcases endN_bad hx hd (ty:=f.type) (e:=e) hty with⟨b1,d1⟩|⟨b1,d1⟩
 ·have hs:bf gaps credit high f x=(6,x):=by unfold bf;rw[if_pos b1]
  have hc:c1=6:=d1
  rw[hs,hc]
  exact⟨rfl,fun h=>absurd h (by decide)⟩
 ·have hc:c1=0:=d1
  rw[hc]
  rcases sS (x:=x) (e:=e) hch with⟨b2,d2⟩|⟨b2,d2⟩
  ·have hs:bf gaps credit high f x=(3,x):=by
    unfold bf
    rw[if_neg (by rw[b1];decide),if_neg (by rw[hd];decide),if_pos b2]
   have hc2:c2=3:=d2
   rw[hs,hc2]
   exact⟨rfl,fun _ h=>absurd h (by decide)⟩
  ·have hc2:c2=0:=d2
   rw[hc2]
   have hhi:x.highest+fW x e=max x.highest e:=by unfold fW;split<;>omega
   have hpass:∀y:aR,y.read=x.read->y.credit=x.credit->y.done=false->y.final=x.final->y.reset=x.reset->aX x.read y.bytes=r.2->∀x',fB f x y=x'->x'.read=x.read/\x'.highest=max x.highest e/\x'.credit=x.credit/\x'.final=(if dC f.type=true then e else x.final)/\x'.done=false/\
     (f.type=5->bu r.2 x.read e=false->x'.reset=true/\x'.bytes=[])/\(¬(f.type=5/\bu r.2 x.read e=false)->x'.reset=x.reset/\aX x.read x'.bytes=r.2):=by
    intro y y1 y2 y3 y4 y5 y6 x' hx'
    have hcov:∀z:aR,z.read=x.read->z.bytes=y.bytes->z.final=e->(wC z=false↔bu r.2 x.read e=false):=by
     intro z z1 z2 z3
     rw[<-y6,nW]
     unfold wC
     rw[z1,z2,z3]
     simp[he0]
    have hfin:(if f.type≠3 then e else y.final)=(if dC f.type=true then e else x.final):=by
     rw[ht,y4]
     by_cases h3:f.type=3<;>simp[h3]
    rw[<-hx']
    unfold fB
    simp only
    by_cases h5':f.type=5
    ·have hn3:f.type≠3:=by omega
     have hf5:(if f.type≠3 then f.ofs+(f.bytes.length:Int) else y.final)=e:=if_pos hn3
     by_cases hc5:bu r.2 x.read e=false
     ·rw[if_pos ⟨h5',(hcov {y with highest:=x.highest+fW x e,final:=if f.type≠3 then e else y.final} y1 rfl hf5).2 hc5⟩]
      refine⟨y1,hhi,y2,hfin,y3,fun _ _=>⟨rfl,rfl⟩,fun h=>absurd ⟨h5',hc5⟩ h⟩
     ·rw[if_neg (fun h=>hc5 ((hcov {y with highest:=x.highest+fW x e,final:=if f.type≠3 then e else y.final} y1 rfl hf5).1 h.2))]
      exact⟨y1,hhi,y2,hfin,y3,fun _ h=>absurd h hc5,fun _=>⟨y5,y6⟩⟩
    ·rw[if_neg (fun h=>h5' h.1)]
     exact⟨y1,hhi,y2,hfin,y3,fun h=>absurd h h5',fun _=>⟨y5,y6⟩⟩
   by_cases hr:f.type≠5/\x.reset=false
   ·obtain⟨hr1,hr2⟩:=hrec.1 hr
    have hs:bf gaps credit high f x=if(dt gaps x f.ofs f.bytes).1≠0 then((dt gaps x f.ofs f.bytes).1,x) else(0,fB f x (dt gaps x f.ofs f.bytes).2):=by
     conv=>lhs;unfold bf
     rw[if_neg (by rw[b1];decide),if_neg (by rw[hd];decide),if_neg (by rw[b2];decide),if_pos hr]
    have hr1':r.1=(dt gaps x f.ofs f.bytes).1:=hr1
    have hr2':r.1=0->r.2=aX x.read (dt gaps x f.ofs f.bytes).2.bytes:=hr2
    by_cases hz:(dt gaps x f.ofs f.bytes).1≠0
    ·rw[hs,if_pos hz]
     refine⟨by rw[hr1'];rfl,fun _ _ h=>absurd (hr1'.symm.trans h) hz⟩
    ·rw[hs,if_neg hz]
     have hz':(dt gaps x f.ofs f.bytes).1=0:=Classical.byContradiction hz
     refine⟨by rw[hr1',hz'];rfl,fun _ _ h x' hx'=>?_⟩
     have hrs:∃l,(dt gaps x f.ofs f.bytes).2 = {x with bytes:=l}:=by
      unfold dt
      split
      ·exact⟨x.bytes,rfl⟩
      ·split
       ·exact⟨x.bytes,rfl⟩
       ·exact⟨_,rfl⟩
     obtain⟨l,hl⟩:=hrs
     have h6:=hr2' h
     refine hpass _ ?_ ?_ ?_ ?_ ?_ h6.symm x' hx'<;>rw[hl]
     exact hd
   ·have hr0:r=(0,aX x.read x.bytes):=hrec.2 hr
    have hs:bf gaps credit high f x=(0,fB f x x):=by
     conv=>lhs;unfold bf
     rw[if_neg (by rw[b1];decide),if_neg (by rw[hd];decide),if_neg (by rw[b2];decide),if_neg hr]
    rw[hs]
    refine⟨by rw[hr0];rfl,fun _ _ _ x' hx'=>hpass x rfl rfl hd rfl rfl (by rw[hr0]) x' hx'⟩
def eZ(x:aR):Int:=if x.done&&x.reset then x.final else x.read
def readAll(l:List aR):Int:=(l.map eZ).sum
def Fol(g:Cfg)(c:aw):Prop:=readAll c.streams+g.c1/2<=c.credit\/1073741823<=c.credit
structure ConInv(g:Cfg)(c:aw):Prop where
 str:∀x∈c.streams,StrInv g.c4 x
 high:cV c.streams<=c.credit
 runs:PWf c.runs
 fol:Fol g c
theorem vr{l:List aR}:∀{i:Nat} {x y:aR},l[i]? =some x->readAll (l.set i y)=readAll l-eZ x+eZ y:=by
 induction l with
 |nil=>intro i x y h;simp at h
 |cons a t ih=>
  intro i x y h
  cases i with
  |zero=>
   simp only[List.getElem?_cons_zero,Option.some.injEq]at h
   subst h
   simp[readAll]
   omega
  |succ i=>
   have:=ih (i:=i) (x:=x) (y:=y) (by simpa using h)
   simp[readAll]at this⊢
   omega
theorem oi(piece:Int):∀n,readAll (List.replicate n (aU piece))=0
 |0=>rfl
 |n+1=>by
  have:=oi piece n
  simp[readAll,List.replicate_succ,eZ,aU]at this⊢
theorem mP{f:dx}{x r:aR}(h:r.done=false):eZ (fB f x r)=r.read:=by
 have hp:(fB f x r).done=false/\(fB f x r).read=r.read:=by
  unfold fB
  simp only
  split<;>split<;>exact⟨h,rfl⟩
 simp[eZ,hp.1,hp.2]
theorem qc{gaps credit high:Int}{f:dx}{x:aR}:eZ (bf gaps credit high f x).2=eZ x:=by
 cases hd:x.done with
 |true=>
  unfold bf
  simp only[hd,if_true]
  split<;>rfl
 |false=>
  have hx:eZ x=x.read:=by simp[eZ,hd]
  have hr:(dt gaps x f.ofs f.bytes).2.done=false/\(dt gaps x f.ofs f.bytes).2.read=x.read:=by
   unfold dt
   split
   ·exact⟨hd,rfl⟩
   ·split<;>exact⟨hd,rfl⟩
  unfold bf
  simp only[hd,Bool.false_eq_true,if_false]
  split
  ·rfl
  ·split
   ·rfl
   ·split
    ·split
     ·rfl
     ·rw[mP hr.1,hr.2,hx]
    ·rw[mP hd,hx]
theorem rM{l:List aR}:∀{i:Nat} {x y:aR},l[i]? =some x->cV (l.set i y)=cV l-x.highest+y.highest:=by
 induction l with
 |nil=>intro i x y h;simp at h
 |cons a t ih=>
  intro i x y h
  cases i with
  |zero=>
   simp only[List.getElem?_cons_zero,Option.some.injEq]at h
   subst h
   simp[cV]
   omega
  |succ i=>
   have:=ih (i:=i) (x:=x) (y:=y) (by simpa using h)
   simp[cV]at this⊢
   omega
theorem passS_high(f:dx)(x r:aR):(fB f x r).highest=x.highest+fW x (f.ofs+f.bytes.length):=by
 unfold fB
 simp only
 split<;>split<;>rfl
theorem tG{gaps credit high:Int}{f:dx}{x:aR}(hch:high<=credit):high-x.highest+(bf gaps credit high f x).2.highest<=credit:=by
 unfold bf
 simp only
 have hm:∀r:aR,¬gY x (f.ofs+f.bytes.length) credit high=true->high-x.highest+(fB f x r).highest<=credit:=by
  intro r h
  rw[passS_high]
  unfold gY at h
  simp at h
  omega
 split
 ·simp only;omega
 ·split
  ·simp only;omega
  ·split
   ·simp only;omega
   ·next ho=>
    split
    ·split
     ·simp only;omega
     ·exact hm _ ho
    ·exact hm _ ho
theorem uz{g:Cfg}{f:dx}{c:aw}(hc:ConInv g c)(hb:Bytes f.bytes)(ho:0<=f.ofs)(hg:0<=g.c4):ConInv g (bG g.c4 f c).2:=by
 unfold bG
 split
 ·exact hc
 ·next x hx=>
  refine⟨fun y hy=>?_,?_,hc.runs,?_⟩
  ·rcases List.mem_or_eq_of_mem_set hy with hy|rfl
   ·exact hc.str y hy
   ·exact vP hb ho hg (hc.str x (lMm hx))
  ·simp only
   rw[rM hx]
   exact tG hc.high
  ·unfold Fol
   simp only
   rw[vr hx,qc]
   rcases hc.fol with h|h
   ·exact Or.inl (by omega)
   ·exact Or.inr h
def be(g:Cfg)(lw:Int)(c:aw)(f:dx):Int×aw:=
 if f.type=0\/f.type=1 then(0,c)
 else if f.type=7 then(if f.code≠ef g.c9 c.addr c.cid then(10,c) else if c.proven then(0,c) else(0,{c with proven:=true,waits:=lw}))
 else bG g.c4 f c
structure sE where
 con:aw
 closed:Option Int
 gone:Bool
def aL(g:Cfg)(lw:Int)(c:aw)(b:List Int):Nat->sE
 |0=>⟨c,none,false⟩
 |n+1=>if b=[] then⟨c,none,false⟩ else
  match bR b with
  |none=>⟨c,some 7,true⟩
  |some (f,size)=>
   if f.type=6 then⟨c,none,true⟩
   else if(be g lw c f).1≠0 then⟨c,some (be g lw c f).1,true⟩
   else aL g lw (be g lw c f).2 (b.drop size) n
def dG(r:sE)(outs:List (Int×List Int)):List (Int×List Int):=match r.closed with
 |none=>outs
 |some k=>ca r.con ([19]++az k) outs
def gu(s:ay)(i:Nat)(c:aw)(r:sE):ay:=
 {s with conns:=if r.gone then s.conns.eraseIdx i else s.conns.set i r.con,last:=if r.con.proven=true/\c.proven=false then s.last+1 else s.last}
theorem iz{g:Cfg}{lw:Int}{c:aw}{f:dx}(h:c.proven=true):(be g lw c f).2.proven=true:=by
 unfold be
 split
 ·exact h
 ·split
  ·split
   ·exact h
   ·first|exact h |(rw[if_pos h];exact h)
  ·unfold bG
   split<;>exact h
theorem wR{g:Cfg}{lw lw':Int}{c:aw}{f:dx}(h:c.proven=true):be g lw c f=be g lw' c f:=by
 unfold be
 simp[h]
theorem js{g:Cfg}{lw:Int}:∀(n:Nat) {c:aw} {b:List Int},c.proven=true->(aL g lw c b n).con.proven=true
 |0,c,b,h=>h
 |n+1,c,b,h=>by
  unfold aL
  split
  ·exact h
  ·split
   ·exact h
   ·split
    ·exact h
    ·split
     ·exact h
     ·exact js n (iz h)
theorem mu{g:Cfg}{lw lw':Int}:∀(n:Nat) {c:aw} {b:List Int},c.proven=true->aL g lw c b n=aL g lw' c b n
 |0,c,b,h=>rfl
 |n+1,c,b,h=>by
  unfold aL
  split
  ·rfl
  ·split
   ·rfl
   ·next f size hf=>
    rw[wR (lw:=lw) (lw':=lw') h,mu (lw:=lw) (lw':=lw') n (iz h)]
theorem eraseIdx_set{α:Type}(a:α):∀(l:List α) (i:Nat),(l.set i a).eraseIdx i=l.eraseIdx i
 |[],i=>by simp
 |b::t,0=>by simp
 |b::t,i+1=>by simp[eraseIdx_set a t i]
theorem wW{s:ay}{i:Nat}{c:aw}{f:dx}(h6:f.type≠6)(hi:s.conns[i]? =some c):
  (dH s i c f).code=(be s.c (s.last+1) c f).1/\(dH s i c f).gone=false/\((dH s i c f).code=0->(dH s i c f).srv=gu s i c ⟨(be s.c (s.last+1) c f).2,none,false⟩):=by
 unfold dH be gu
 by_cases h0:f.type=0\/f.type=1
 ·rw[if_pos h0,if_pos h0]
  refine⟨rfl,rfl,fun _=>?_⟩
  simp[e7 hi]
 ·rw[if_neg h0,if_neg h0,if_neg h6]
  by_cases h7:f.type=7
  ·rw[if_pos h7,if_pos h7]
   unfold tr
   by_cases hp:f.code≠ef s.c.c9 c.addr c.cid
   ·rw[if_pos hp,if_pos hp]
    exact⟨rfl,rfl,fun h=>absurd (show(10:Int)=0 from h) (by decide)⟩
   ·rw[if_neg hp,if_neg hp]
    cases hpr:c.proven with
    |true=>simp[e7 hi,hpr]
    |false=>simp
  ·rw[if_neg h7,if_neg h7]
   refine⟨rfl,rfl,fun _=>?_⟩
   have hp:(bG s.c.c4 f c).2.proven=c.proven:=by unfold bG;split<;>rfl
   simp only[hp]
   cases c.proven<;>simp
theorem fL:∀(n:Nat) {s:ay} {i:Nat} {c:aw} (b:List Int) (outs:List (Int×List Int)),s.conns[i]? =some c->
  cG s i b outs n=(gu s i c (aL s.c (s.last+1) c b n),dG (aL s.c (s.last+1) c b n) outs)
 |0,s,i,c,b,outs,hi=>by
  simp[cG,aL,gu,dG,e7 hi]
 |n+1,s,i,c,b,outs,hi=>by
  have hsame:gu s i c ⟨c,none,false⟩= s:=by simp[gu,e7 hi]
  have hgone:∀k,gu s i c ⟨c,k,true⟩= {s with conns:=s.conns.eraseIdx i}:=by intro k;simp[gu]
  unfold cG aL
  by_cases hb:b=[]
  ·rw[if_pos hb,if_pos hb,hsame]
   rfl
  ·rw[if_neg hb,if_neg hb,hi]
   simp only
   cases hf:bR b with
   |none=>simp only;rw[hgone];rfl
   |some x=>
    obtain⟨f,size⟩:=x
    simp only
    by_cases h6:f.type=6
    ·have hd:dH s i c f =⟨0,{s with conns:=s.conns.eraseIdx i},true⟩:=by
      unfold dH
      rw[if_neg (by omega),if_pos h6]
     rw[hd,if_pos h6,hgone]
     rfl
    ·obtain⟨e1,e2,e3⟩:=wW (f:=f) h6 hi
     rw[if_neg h6,e1,e2]
     by_cases hz:(be s.c (s.last+1) c f).1≠0
     ·rw[if_pos hz,if_pos hz,hgone]
      rfl
     ·rw[if_neg hz,if_neg hz]
      have hz':(be s.c (s.last+1) c f).1=0:=Classical.byContradiction hz
      have e4:=e3 (e1.trans hz')
      simp only[Bool.false_eq_true,if_false]
      have hi':(dH s i c f).srv.conns[i]? =some (be s.c (s.last+1) c f).2:=by
       rw[e4]
       simp[gu,aK hi]
      rw[fL n _ _ hi']
      generalize hc':(be s.c (s.last+1) c f).2=c' at *
      have hcfg:(dH s i c f).srv.c=s.c:=by rw[e4];rfl
      have hconns:(dH s i c f).srv.conns=s.conns.set i c':=by rw[e4];simp[gu]
      have hnow:(dH s i c f).srv.now=s.now:=by rw[e4];rfl
      have hlast:(dH s i c f).srv.last=if c'.proven=true/\c.proven=false then s.last+1 else s.last:=by rw[e4];rfl
      have hfr:aL (dH s i c f).srv.c ((dH s i c f).srv.last+1) c' (b.drop size) n=aL s.c (s.last+1) c' (b.drop size) n:=by
       rw[hcfg]
       by_cases hp:c'.proven=true/\c.proven=false
       ·exact mu n hp.1
       ·rw[hlast,if_neg hp]
      rw[hfr]
      generalize hr:aL s.c (s.last+1) c' (b.drop size) n=r
      refine Prod.ext ?_ rfl
      simp only
      have hl2:(if r.con.proven=true/\c'.proven=false then(dH s i c f).srv.last+1 else(dH s i c f).srv.last)=if r.con.proven=true/\c.proven=false then s.last+1 else s.last:=by
       rw[hlast]
       cases hp:c.proven with
       |true=>
        have h1:c'.proven=true:=by rw[<-hc'];exact iz hp
        simp[h1]
       |false=>
        cases hp':c'.proven with
        |true=>
         have h2:r.con.proven=true:=by rw[<-hr];exact js n hp'
         simp[h2]
        |false=>simp
      unfold gu
      rw[hl2,hconns]
      have h3:(if r.gone=true then(s.conns.set i c').eraseIdx i else(s.conns.set i c').set i r.con)=if r.gone=true then s.conns.eraseIdx i else s.conns.set i r.con:=by
       rw[eraseIdx_set,List.set_set]
      rw[h3]
      generalize hd:(dH s i c f).srv=sd at *
      cases sd
      cases s
      simp only at hcfg hnow⊢
      subst hcfg hnow
      rfl
def cd(l:List aw):List (Int×Int):=(l.filter fun c=>decide (0<c.waits)).map fun c=>(c.waits,c.cid)
def WaitIs(l:List aw)(cs:List Int):Prop:=∃ks:List (Int×Int),ks.Perm (cd l)/\ks.Pairwise (fun a b=>a.1<b.1)/\cs=ks.map (·.2)
theorem cP(a b:List aw):cd (a++b)=cd a++cd b:=by simp[cd]
theorem fQ(c:aw)(l:List aw):cd (c::l)=cd [c]++cd l:=by rw[<-cP];rfl
theorem fY(c:aw):cd [c]=if 0<c.waits then [(c.waits,c.cid)] else []:=by
 unfold cd
 by_cases h:0<c.waits<;>simp[h]
theorem mW{α:Type}{l:List α}{i:Nat}{a:α}(h:l[i]? =some a):l=l.take i++a::l.drop (i+1):=by
 obtain⟨hi,rfl⟩:=List.getElem?_eq_some_iff.1 h
 rw[List.getElem_cons_drop,List.take_append_drop]
theorem nN{α:Type}{l:List α}{i:Nat}{a b:α}(h:l[i]? =some a):l.set i b=l.take i++b::l.drop (i+1):=by
 obtain⟨hi,_⟩:=List.getElem?_eq_some_iff.1 h
 rw[List.set_eq_take_append_cons_drop,if_pos hi]
theorem uK{α:Type}{l:List α}{i:Nat}{a:α}(_h:l[i]? =some a):l.eraseIdx i=l.take i++l.drop (i+1):=List.eraseIdx_eq_take_drop_succ l i
theorem waitK_set{l:List aw}{i:Nat}{c c':aw}(h:l[i]? =some c)(hw:c'.waits=c.waits)(hc:c'.cid=c.cid):cd (l.set i c')=cd l:=by
 conv=>rhs;rw[mW h]
 rw[nN h,cP,cP,fQ c',fQ c,fY,fY,hw,hc]
theorem WaitIs.same{l l':List aw}{cs:List Int}(h:WaitIs l cs)(e:cd l'=cd l):WaitIs l' cs:=by
 obtain⟨ks,h1,h2,h3⟩:=h
 exact⟨ks,by rw[e];exact h1,h2,h3⟩
theorem WaitIs.nil:WaitIs [] []:=⟨[],by simp[cd],List.Pairwise.nil,rfl⟩
theorem waitK_le{l:List aw}{last:Int}(h:∀c∈l,c.waits<=last):∀k∈cd l,k.1<=last:=by
 intro k hk
 simp only[cd,List.mem_map,List.mem_filter]at hk
 obtain⟨c,⟨hc,_⟩,rfl⟩:=hk
 exact h c hc
theorem WaitIs.more{l l':List aw}{cs:List Int}{lw cid:Int}(h:WaitIs l cs)(hp:(cd l').Perm (cd l++[(lw,cid)]))(hl:∀c∈l,c.waits<lw):WaitIs l' (cs++[cid]):=by
 obtain⟨ks,h1,h2,h3⟩:=h
 refine⟨ks++[(lw,cid)],(List.Perm.append_right _ h1).trans hp.symm,?_,by simp[h3]⟩
 rw[List.pairwise_append]
 refine⟨h2,List.pairwise_singleton _ _,fun a ha b hb=>?_⟩
 rw[List.mem_singleton.1 hb]
 have hk:=waitK_le (last:=lw-1) (fun c hc=>by have:=hl c hc;omega) a (h1.mem_iff.1 ha)
 simp only
 omega
theorem qm{l:List aw}{i:Nat}{c c':aw}{lw:Int}(h:l[i]? =some c)(h0:c.waits<=0)(hw:c'.waits=lw)(hl:0<lw):(cd (l.set i c')).Perm (cd l++[(lw,c'.cid)]):=by
 have e2:cd l=cd (l.take i)++cd (l.drop (i+1)):=by
  conv=>lhs;rw[mW h]
  rw[cP,fQ c,fY,if_neg (by omega)]
  rfl
 rw[nN h,cP,fQ c',fY,hw,if_pos hl,e2,List.append_assoc]
 exact List.Perm.append_left _ (List.perm_append_comm)
theorem sA{l:List aw}{k:Int×Int}(h:k∈cd l):∃c∈l,c.cid=k.2/\c.waits=k.1/\0<c.waits:=by
 simp only[cd,List.mem_map,List.mem_filter]at h
 obtain⟨c,⟨hc,h0⟩,rfl⟩:=h
 exact⟨c,hc,rfl,rfl,by simpa using h0⟩
theorem WaitIs.filter{l l':List aw}{cs:List Int}(h:WaitIs l cs)(p:Int->Bool)(e:cd l'=(cd l).filter fun k=>p k.2):WaitIs l' (cs.filter p):=by
 obtain⟨ks,h1,h2,h3⟩:=h
 refine⟨ks.filter fun k=>p k.2,by rw[e];exact h1.filter _,h2.filter _,?_⟩
 rw[h3,List.filter_map]
 rfl
theorem vY{l:List aw}{i:Nat}{c:aw}(hn:(l.map (·.cid)).Nodup)(h:l[i]? =some c):cd (l.eraseIdx i)=(cd l).filter fun k=>k.2 != c.cid:=by
 have hs:=mW h
 rw[hs]at hn
 simp only[List.map_append,List.map_cons]at hn
 rw[List.nodup_append]at hn
 obtain⟨_,hn2,hn3⟩:=hn
 rw[List.nodup_cons]at hn2
 have hkeep:∀m:List aw,(∀d∈m,d.cid≠c.cid)->(cd m).filter (fun k=>k.2 != c.cid)=cd m:=by
  intro m hm
  refine List.filter_eq_self.2 fun k hk=>?_
  obtain⟨d,hd,e1,_⟩:=sA hk
  simp[<-e1,hm d hd]
 have hA:∀d∈l.take i,d.cid≠c.cid:=fun d hd=>hn3 d.cid (List.mem_map.2 ⟨d,hd,rfl⟩) c.cid (by simp)
 have hB:∀d∈l.drop (i+1),d.cid≠c.cid:=fun d hd e=>hn2.1 (e▸List.mem_map.2 ⟨d,hd,rfl⟩)
 rw[uK h,cP]
 conv=>rhs;rw[hs]
 rw[cP,fQ c,List.filter_append,List.filter_append,hkeep _ hA,hkeep _ hB,fY]
 split<;>simp
theorem WaitIs.erase{l:List aw}{i:Nat}{c:aw}{cs:List Int}(h:WaitIs l cs)(hn:(l.map (·.cid)).Nodup)(hi:l[i]? =some c):WaitIs (l.eraseIdx i) (cs.filter fun x=>x != c.cid):=
 h.filter _ (vY hn hi)
theorem WaitIs.nodup{l:List aw}{cs:List Int}(h:WaitIs l cs)(hn:(l.map (·.cid)).Nodup):cs.Nodup:=by
 obtain⟨ks,h1,_,rfl⟩:=h
 refine((h1.map _).nodup_iff).2 ?_
 unfold cd
 rw[List.map_map]
 exact((List.filter_sublist (p:=fun c:aw=>decide (0<c.waits)) (l:=l)).map (·.cid)).nodup hn
theorem lN(l:List aw):∀k,(lp l k=none/\∀j,j<k->¬0<eh l j)\/∃j,lp l k=some j/\j<k/\0<eh l j/\∀i,i<k->0<eh l i->eh l j<=eh l i
 |0=>Or.inl ⟨rfl,fun j h=>absurd h (by omega)⟩
 |k+1=>by
  unfold lp
  rcases lN l k with⟨e,h⟩|⟨j,e,h1,h2,h3⟩
  ·rw[e]
   simp only
   by_cases hk:0<eh l k
   ·right
    rw[if_pos hk]
    refine⟨k,rfl,by omega,hk,fun i hi hw=>?_⟩
    rcases Nat.lt_or_ge i k with h4|h4
    ·exact absurd hw (h i h4)
    ·obtain rfl:i=k:=by omega
     omega
   ·left
    rw[if_neg hk]
    refine⟨rfl,fun i hi=>?_⟩
    rcases Nat.lt_or_ge i k with h4|h4
    ·exact h i h4
    ·obtain rfl:i=k:=by omega
     exact hk
  ·right
   rw[e]
   simp only
   by_cases hk:0<eh l k/\eh l k<eh l j
   ·rw[if_pos hk]
    refine⟨k,rfl,by omega,hk.1,fun i hi hw=>?_⟩
    rcases Nat.lt_or_ge i k with h4|h4
    ·have:=h3 i h4 hw;omega
    ·obtain rfl:i=k:=by omega
     omega
   ·rw[if_neg hk]
    refine⟨j,rfl,by omega,h2,fun i hi hw=>?_⟩
    rcases Nat.lt_or_ge i k with h4|h4
    ·exact h3 i h4 hw
    ·obtain rfl:i=k:=by omega
     omega
theorem gE{l:List aw}{j:Nat}{c:aw}(h:l[j]? =some c):eh l j=c.waits:=by simp[eh,h]
theorem ui{s:ay}(h:WaitIs s.conns []):bW s=(0,4,s):=by
 obtain⟨ks,h1,_,h3⟩:=h
 have hk:ks=[]:=by simpa using h3.symm
 subst hk
 have hK:cd s.conns=[]:=h1.symm.eq_nil
 have hf:lp s.conns s.conns.length=none:=by
  rcases lN s.conns s.conns.length with⟨e,_⟩|⟨j,_,h5,h6,_⟩
  ·exact e
  ·have hj:s.conns[j]? =some s.conns[j]:=lGe h5
   rw[gE hj]at h6
   have:(s.conns[j].waits,s.conns[j].cid)∈cd s.conns:=by
    simp only[cd,List.mem_map,List.mem_filter]
    exact⟨_,⟨List.getElem_mem h5,by simpa using h6⟩,rfl⟩
   rw[hK]at this
   cases this
 unfold bW
 rw[hf]
theorem uj{s:ay}{x:Int}{cs:List Int}(h:WaitIs s.conns (x::cs)):∃j c,s.conns[j]? =some c/\c.cid=x/\0<c.waits/\bW s=(x,0,{s with conns:=s.conns.set j {c with waits:=0}})/\WaitIs (s.conns.set j {c with waits:=0}) cs:=by
 obtain⟨ks,h1,h2,h3⟩:=h
 cases ks with
 |nil=>simp at h3
 |cons k kt=>
  simp only[List.map_cons,List.cons.injEq]at h3
  obtain⟨rfl,rfl⟩:=h3
  rw[List.pairwise_cons]at h2
  obtain⟨h2,h2'⟩:=h2
  have hmin:∀c∈s.conns,0<c.waits->k.1<c.waits\/(c.waits,c.cid)=k:=by
   intro c hc h0
   have hm:(c.waits,c.cid)∈cd s.conns:=by
    simp only[cd,List.mem_map,List.mem_filter]
    exact⟨_,⟨hc,by simpa using h0⟩,rfl⟩
   rcases List.mem_cons.1 (h1.mem_iff.2 hm) with e|e
   ·exact Or.inr e
   ·exact Or.inl (h2 _ e)
  obtain⟨c0,hc0,e1,e2,e3⟩:=sA (h1.mem_iff.1 (List.mem_cons_self (a:=k) (l:=kt)))
  rcases lN s.conns s.conns.length with⟨e,hno⟩|⟨j,e,h5,h6,h7⟩
  ·obtain⟨i,hi,rfl⟩:=List.getElem_of_mem hc0
   have:=hno i hi
   rw[gE (lGe hi)]at this
   omega
  ·have hj:s.conns[j]? =some s.conns[j]:=lGe h5
   rw[gE hj]at h6
   have hjk:(s.conns[j].waits,s.conns[j].cid)=k:=by
    rcases hmin _ (List.getElem_mem h5) h6 with h8|h8
    ·obtain⟨i,hi,rfl⟩:=List.getElem_of_mem hc0
     have h9:=h7 i hi (by rw[gE (lGe hi)];exact e3)
     rw[gE (lGe hi),gE hj]at h9
     omega
    ·exact h8
   generalize hcj:s.conns[j]=c at *
   refine⟨j,c,hj,by rw[<-hjk],h6,?_,kt,?_,h2',rfl⟩
   ·unfold bW
    rw[e]
    simp only
    rw[hj]
    simp only
    rw[<-hjk]
   ·have hK:(cd s.conns).Perm (k::cd (s.conns.set j {c with waits:=0})):=by
     conv=>lhs;rw[mW hj]
     rw[nN hj,cP,cP,fQ c (s.conns.drop (j+1)),fQ {c with waits:=0} (s.conns.drop (j+1)),fY c,fY {c with waits:=0},if_pos h6,hjk]
     simp only[Int.lt_irrefl,if_false,List.nil_append]
     exact List.perm_middle
    exact List.Perm.cons_inv (h1.trans hK)
structure ConKeep(M:Int)(g:Cfg)(lw:Int)(c c':aw):Prop where
 cid:c'.cid=c.cid
 addr:c'.addr=c.addr
 got:c'.got=c.got
 sent:c'.sent=c.sent
 heard:c'.heard=c.heard
 mark:c'.mark=c.mark
 runs:c'.runs=c.runs
 credit:c'.credit=c.credit
 slen:c'.streams.length=c.streams.length
 ok:ConOk M c'
 inv:ConInv g c'
 same:c'.proven=c.proven->c'.waits=c.waits
 stay:c.proven=true->c'.proven=true
 new:c.proven=false->c'.proven=true->c'.waits=lw
theorem ConKeep.refl{M:Int}{g:Cfg}{lw:Int}{c:aw}(h1:ConOk M c)(h2:ConInv g c):ConKeep M g lw c c:=
 ⟨rfl,rfl,rfl,rfl,rfl,rfl,rfl,rfl,rfl,h1,h2,fun _=>rfl,id,fun a b=>by rw[a]at b;cases b⟩
theorem ConKeep.trans{M:Int}{g:Cfg}{lw:Int}{a b c:aw}(h:ConKeep M g lw a b)(k:ConKeep M g lw b c):ConKeep M g lw a c where
 cid:=k.cid.trans h.cid
 addr:=k.addr.trans h.addr
 got:=k.got.trans h.got
 sent:=k.sent.trans h.sent
 heard:=k.heard.trans h.heard
 mark:=k.mark.trans h.mark
 runs:=k.runs.trans h.runs
 credit:=k.credit.trans h.credit
 slen:=k.slen.trans h.slen
 ok:=k.ok
 inv:=k.inv
 same:=fun e=>by
  cases ha:a.proven with
  |true=>
   have hb:=h.stay ha
   have hc:=k.stay hb
   rw[k.same (by rw[hb,hc]),h.same (by rw[ha,hb])]
  |false=>
   have hc:c.proven=false:=by rw[e,ha]
   have hb:b.proven=false:=by
    cases hb:b.proven with
    |true=>have:=k.stay hb;rw[hc]at this;cases this
    |false=>rfl
   rw[k.same (by rw[hb,hc]),h.same (by rw[ha,hb])]
 stay:=fun e=>k.stay (h.stay e)
 new:=fun e1 e2=>by
  cases hb:b.proven with
  |true=>rw[k.same (by rw[hb,e2]),h.new e1 hb]
  |false=>exact k.new hb e2
theorem kD{gaps:Int}{f:dx}{c:aw}:(bG gaps f c).2 = {c with streams:=(bG gaps f c).2.streams}/\(bG gaps f c).2.streams.length=c.streams.length:=by
 unfold bG
 split
 ·exact⟨rfl,rfl⟩
 ·exact⟨rfl,by simp⟩
theorem mv{M:Int}{g:Cfg}{lw:Int}{c:aw}{f:dx}(h1:ConOk M c)(h2:ConInv g c)(hf:oT f)(hb:Bytes f.bytes)(hg:0<=g.c4):ConKeep M g lw c (be g lw c f).2:=by
 unfold be
 split
 ·exact ConKeep.refl h1 h2
 ·split
  ·by_cases hp:f.code≠ef g.c9 c.addr c.cid
   ·rw[if_pos hp];exact ConKeep.refl h1 h2
   ·rw[if_neg hp]
    cases hpr:c.proven with
    |true=>simp only[if_true];exact ConKeep.refl h1 h2
    |false=>
     simp only[Bool.false_eq_true,if_false]
     exact⟨rfl,rfl,rfl,rfl,rfl,rfl,rfl,rfl,rfl,⟨h1.cid,h1.addr,h1.got,h1.sent,h1.heard,h1.runs,h1.credit,h1.slen,h1.str⟩,⟨h2.str,h2.high,h2.runs,h2.fol⟩,fun h=>(by rw[hpr]at h;cases h),fun _=>rfl,fun _ _=>rfl⟩
  ·have e:=kD (gaps:=g.c4) (f:=f) (c:=c)
   have e1:=e.1
   have k1:=(wQ (gaps:=g.c4) hf h1).1
   have k2:=uz h2 hb hf.ofs.1 hg
   exact⟨by rw[e1],by rw[e1],by rw[e1],by rw[e1],by rw[e1],by rw[e1],by rw[e1],by rw[e1],e.2,k1,k2,fun _=>by rw[e1],fun h=>by rw[e1];exact h,fun a b=>by rw[e1]at b;rw[a]at b;cases b⟩
theorem mw{b:List Int}(hb:Bytes b){f:dx}{size:Nat}(h:bR b=some (f,size)):Bytes f.bytes:=by
 have hn:Bytes []:=fun x hx=>by cases hx
 unfold bR at h
 split at h
 ·cases h
 ·split at h
  ·cases h
  ·simp only[Option.some.injEq,Prod.mk.injEq]at h;rw[<-h.1];exact hn
  ·simp only[Option.some.injEq,Prod.mk.injEq]at h;rw[<-h.1];exact hn
  ·simp only[Option.some.injEq,Prod.mk.injEq]at h;rw[<-h.1];exact hn
  ·split at h
   ·cases h
   ·simp only[Option.some.injEq,Prod.mk.injEq]at h
    rw[<-h.1]
    exact(hb.drop _).take _
theorem iy{M:Int}{g:Cfg}{lw:Int}(hg:0<=g.c4):∀(n:Nat) {c:aw} {b:List Int},ConOk M c->ConInv g c->Bytes b->ConKeep M g lw c (aL g lw c b n).con
 |0,c,b,h1,h2,hb=>ConKeep.refl h1 h2
 |n+1,c,b,h1,h2,hb=>by
  unfold aL
  split
  ·exact ConKeep.refl h1 h2
  ·next hne=>
   split
   ·exact ConKeep.refl h1 h2
   ·next f size hf=>
    split
    ·exact ConKeep.refl h1 h2
    ·split
     ·exact ConKeep.refl h1 h2
     ·have k:=mv (lw:=lw) h1 h2 (rJ hb (List.length_pos_iff.2 hne) hf).1 (mw hb hf) hg
      exact k.trans (iy hg n k.ok k.inv (hb.drop size))
def gi(s:ay)(addr cid num size:Int)(b:List Int)(N:Nat)(outs:List (Int×List Int)):ay×List (Int×List Int):=
 match ei s.conns cid with
 |none=>(s,outs)
 |some k=>match s.conns[k]? with
  |none=>(s,outs)
  |some c=>
   if c.addr≠addr then(s,outs) else
   match dy {c with got:=c.got+size} num with
   |none=>({s with conns:=s.conns.set k {c with got:=c.got+size}},outs)
   |some c2=>cG {s with conns:=s.conns.set k {c2 with heard:=s.now}} k b outs N
def bg(s:ay)(addr:Int)(b:List Int):ay×List (Int×List Int):=
 if ¬(0<=addr/\addr<=255) then(s,[]) else
 match fK b with
 |none=>(s,[])
 |some d=>if d.kind=1 then fM s addr d.cid b.length d.tok d.frames b.length [] else gi s addr d.cid d.num b.length d.frames b.length []
end Go.Proofs.YthmdjhlhodpbhaaGreatDoor
