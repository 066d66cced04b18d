/- InOrder, 6 -/
import Derived.Test.YthmdjhlhodpbhaaGreatDoorI02
import Derived.Test.YthmdjhlhodpbhaaGreatDoorI05
set_option maxHeartbeats 16000000
set_option maxRecDepth 8000
namespace Go.Proofs.YthmdjhlhodpbhaaGreatDoor
def dw(ty:Int):Bool:=(ty==4) ||(ty==5)
def fk(ty en fi:Int):Int:=if fi<en\/(dw ty=true/\en≠fi) then 6 else 0
def creditN(hi cr en room:Int):Int:=if cr<en\/room<en-hi then 3 else 0
def endN(kn:Bool)(ty en hi fi:Int):Int:=if kn=true then fk ty en fi else if dw ty=true/\en<hi then 6 else 0
def recN(rs:Bool)(rl:List aL)(first:Int)(fresh:List Int)(gaps:Int):Int×List aL:=
 if rs=true then(0,rl) else if dZ rl first fresh=false then(9,rl) else(if gaps<(dI rl first fresh).length then 8 else 0,dI rl first fresh)
theorem agreesR_nil(rl:List aL)(first:Int):dZ rl first []=true:=by
 unfold dZ
 rw[List.all_eq_true]
 intro r _
 rw[agreeOne_iff]
 intro p h1 h2
 simp at h2
 omega
theorem fillR_nil(rl:List aL)(first:Int):dI rl first []=rl:=by
 unfold dI
 rw[if_pos rfl]
theorem runsOf_to(l:List Int):∀(base:Int),∀q∈aU base l,aq q<=base+l.length:=by
 induction l with
 |nil=>intro base q hq;simp[aU]at hq
 |cons x l ih=>
  intro base q hq
  have hl:((x::l).length:Int)=l.length+1:=by simp
  unfold aU at hq
  split at hq
  ·unfold eJ at hq
   split at hq
   ·simp at hq;subst hq;simp[aq];omega
   ·rename_i r t he
    have h1:∀q∈r::t,aq q<=base+1+l.length:=fun q hq=>ih (base+1) q (by rw[he];exact hq)
    split at hq
    ·rename_i e
     rcases List.mem_cons.1 hq with rfl|hq
     ·have:=h1 r (by simp)
      simp only[aq,List.length_cons]at this⊢
      omega
     ·have:=h1 q (by simp[hq]);omega
    ·rcases List.mem_cons.1 hq with rfl|hq
     ·simp[aq];omega
     ·have:=h1 q hq;omega
  ·have:=ih (base+1) q hq;omega
theorem tells_not3{ty:Int}(h:ty=3\/ty=4\/ty=5):dw ty=decide (ty≠3):=by
 rcases h with rfl|rfl|rfl<;>decide
theorem endN_bad{gaps:Int}{x:aQ}(hx:StrInv gaps x)(hd:x.done=false){ty e:Int}(hty:ty=3\/ty=4\/ty=5):
  (badF x e (decide (ty≠3))=true/\endN (decide (0<=x.final)) ty e x.highest (max x.final 0)=6)\/(badF x e (decide (ty≠3))=false/\endN (decide (0<=x.final)) ty e x.highest (max x.final 0)=0):=by
 unfold badF endN fk
 rw[tells_not3 hty,hd]
 by_cases h0:0<=x.final
 ·have hf:=hx.fin h0
  have hm:max x.final 0=x.final:=by omega
  rw[hm,hf]
  by_cases a:x.final<e
  ·left;simp[h0,a]
  ·by_cases b:ty=3
   ·right;simp[h0,a,b]
   ·by_cases c:e=x.final
    ·right;simp[h0,b,c]
    ·left
     simp[h0,b,c]
 ·by_cases b:ty=3
  ·right;simp[h0,b]
  ·by_cases c:e<x.highest
   ·left;simp[h0,b,c]
   ·right;simp[h0,b,c]
theorem creditN_over{x:aQ}{e credit high:Int}(hch:high<=credit):
  (overS x e credit high=true/\creditN x.highest x.credit e (credit-high)=3)\/(overS x e credit high=false/\creditN x.highest x.credit e (credit-high)=0):=by
 unfold overS creditN fR
 by_cases a:x.credit<e
 ·left;simp[a]
 ·by_cases b:x.highest<e
  ·by_cases c:credit<high+(e-x.highest)
   ·left;simp[a,b,c];omega
   ·right;simp[a,b,c];omega
  ·right;simp[a,b];omega
theorem recN_is{gaps:Int}{x:aQ}(hx:StrInv gaps x){f:dM}(hb:Bytes f.bytes)(h5:f.type=5->f.bytes=[]):
  let po:=if f.type=5 then 0 else f.ofs
  let k:=eN x.read po f.bytes
  let r:=recN x.reset (aU x.read x.bytes) (po+k) (f.bytes.drop k) gaps
  (f.type≠5/\x.reset=false->r.1=(dk gaps x f.ofs f.bytes).1/\(r.1=0->r.2=aU x.read (dk gaps x f.ofs f.bytes).2.bytes))/\(¬(f.type≠5/\x.reset=false)->r=(0,aU x.read x.bytes)):=by
 intro po k r
 have hcnt:((aU x.read x.bytes).length:Int)<=gaps:=by rw[de];exact hx.gaps
 constructor
 ·rintro⟨h1,h2⟩
  have hpo:po=f.ofs:=if_neg h1
  have hr:r=recN x.reset (aU x.read x.bytes) (f.ofs+eN x.read f.ofs f.bytes) (f.bytes.drop (eN x.read f.ofs f.bytes)) gaps:=by
   show recN x.reset (aU x.read x.bytes) (po+eN x.read po f.bytes) (f.bytes.drop (eN x.read po f.bytes)) gaps=_
   rw[hpo]
  rw[hr]
  unfold recN dk
  rw[if_neg (by rw[h2];decide)]
  rcases recv_runs x.read x.bytes f.ofs hb with⟨e1,e2⟩|⟨e1,m,e2,e3⟩
  ·rw[if_pos e1,e2]
   exact⟨rfl,fun h=>absurd (show(9:Int)=0 from h) (by decide)⟩
  ·rw[if_neg (by rw[e1];decide),e2,e3]
   simp only
   rw[de]
   split
   ·rename_i h
    exact⟨rfl,fun h=>absurd (show(8:Int)=0 from h) (by decide)⟩
   ·exact⟨rfl,fun _=>rfl⟩
 ·intro h
  show recN _ _ _ _ _=_
  unfold recN
  by_cases h2:x.reset=true
  ·rw[if_pos h2]
  ·have h3:f.type=5:=Classical.byContradiction fun h3=>h ⟨h3,by simpa using h2⟩
   have hbn:=h5 h3
   rw[if_neg h2]
   have hd:f.bytes.drop k=[]:=by rw[hbn];simp
   rw[hd,agreesR_nil,fillR_nil,if_neg (by decide),if_neg (by omega)]
theorem strDeal_prog{gaps credit high:Int}{f:dM}{x:aQ}(hb:Bytes f.bytes)(hx:StrInv gaps x)(hd:x.done=false)(hch:high<=credit)(hty:f.type=3\/f.type=4\/f.type=5)(h5:f.type=5->f.bytes=[])(ho:0<=f.ofs):
  let e:=f.ofs+f.bytes.length
  let po:=if f.type=5 then 0 else f.ofs
  let c1:=endN (decide (0<=x.final)) f.type e x.highest (max x.final 0)
  let c2:=creditN x.highest x.credit e (credit-high)
  let k:=eN x.read po f.bytes
  let r:=recN x.reset (aU x.read x.bytes) (po+k) (f.bytes.drop k) gaps
  (be gaps credit high f x).1=(if c1≠0 then c1 else if c2≠0 then c2 else r.1)/\
  (c1=0->c2=0->r.1=0->∀x',(be gaps credit high f x).2=x'->x'.read=x.read/\x'.highest=max x.highest e/\x'.credit=x.credit/\x'.final=(if dw f.type=true then e else x.final)/\x'.done=false/\
   (f.type=5->bq r.2 x.read e=false->x'.reset=true/\x'.bytes=[])/\(¬(f.type=5/\bq r.2 x.read e=false)->x'.reset=x.reset/\aU x.read x'.bytes=r.2)):=by
 intro e po c1 c2 k r
 have hrec:=recN_is hx hb h5
 have he0:0<=e:=by show 0<=f.ofs+f.bytes.length;omega
 have ht:=tells_not3 hty
 rcases endN_bad hx hd (ty:=f.type) (e:=e) hty with⟨b1,d1⟩|⟨b1,d1⟩
 ·have hs:be gaps credit high f x=(6,x):=by unfold be;rw[if_pos b1]
  have hc:c1=6:=d1
  rw[hs,hc]
  exact⟨rfl,fun h=>absurd h (by decide)⟩
 ·have hc:c1=0:=d1
  rw[hc]
  rcases creditN_over (x:=x) (e:=e) hch with⟨b2,d2⟩|⟨b2,d2⟩
  ·have hs:be gaps credit high f x=(3,x):=by
    unfold be
    rw[if_neg (by rw[b1];decide),if_neg (by rw[hd];decide),if_pos b2]
   have hc2:c2=3:=d2
   rw[hs,hc2]
   exact⟨rfl,fun _ h=>absurd h (by decide)⟩
  ·have hc2:c2=0:=d2
   rw[hc2]
   have hhi:x.highest+fR x e=max x.highest e:=by unfold fR;split<;>omega
   have hpass:∀y:aQ,y.read=x.read->y.credit=x.credit->y.done=false->y.final=x.final->y.reset=x.reset->aU x.read y.bytes=r.2->∀x',ft f x y=x'->x'.read=x.read/\x'.highest=max x.highest e/\x'.credit=x.credit/\x'.final=(if dw f.type=true then e else x.final)/\x'.done=false/\
     (f.type=5->bq r.2 x.read e=false->x'.reset=true/\x'.bytes=[])/\(¬(f.type=5/\bq r.2 x.read e=false)->x'.reset=x.reset/\aU x.read x'.bytes=r.2):=by
    intro y y1 y2 y3 y4 y5 y6 x' hx'
    have hcov:∀z:aQ,z.read=x.read->z.bytes=y.bytes->z.final=e->(allS z=false↔bq r.2 x.read e=false):=by
     intro z z1 z2 z3
     rw[<-y6,covers_lead]
     unfold allS
     rw[z1,z2,z3]
     simp[he0]
    have hfin:(if f.type≠3 then e else y.final)=(if dw f.type=true then e else x.final):=by
     rw[ht,y4]
     by_cases h3:f.type=3<;>simp[h3]
    rw[<-hx']
    unfold ft
    simp only
    by_cases h5':f.type=5
    ·have hn3:f.type≠3:=by omega
     have hf5:(if f.type≠3 then f.ofs+(f.bytes.length:Int) else y.final)=e:=if_pos hn3
     by_cases hc5:bq r.2 x.read e=false
     ·rw[if_pos ⟨h5',(hcov {y with highest:=x.highest+fR x e,final:=if f.type≠3 then e else y.final} y1 rfl hf5).2 hc5⟩]
      refine⟨y1,hhi,y2,hfin,y3,fun _ _=>⟨rfl,rfl⟩,fun h=>absurd ⟨h5',hc5⟩ h⟩
     ·rw[if_neg (fun h=>hc5 ((hcov {y with highest:=x.highest+fR x e,final:=if f.type≠3 then e else y.final} y1 rfl hf5).1 h.2))]
      exact⟨y1,hhi,y2,hfin,y3,fun _ h=>absurd h hc5,fun _=>⟨y5,y6⟩⟩
    ·rw[if_neg (fun h=>h5' h.1)]
     exact⟨y1,hhi,y2,hfin,y3,fun h=>absurd h h5',fun _=>⟨y5,y6⟩⟩
   by_cases hr:f.type≠5/\x.reset=false
   ·obtain⟨hr1,hr2⟩:=hrec.1 hr
    have hs:be gaps credit high f x=if(dk gaps x f.ofs f.bytes).1≠0 then((dk gaps x f.ofs f.bytes).1,x) else(0,ft f x (dk gaps x f.ofs f.bytes).2):=by
     conv=>lhs;unfold be
     rw[if_neg (by rw[b1];decide),if_neg (by rw[hd];decide),if_neg (by rw[b2];decide),if_pos hr]
    have hr1':r.1=(dk gaps x f.ofs f.bytes).1:=hr1
    have hr2':r.1=0->r.2=aU x.read (dk gaps x f.ofs f.bytes).2.bytes:=hr2
    by_cases hz:(dk gaps x f.ofs f.bytes).1≠0
    ·rw[hs,if_pos hz]
     refine⟨by rw[hr1'];rfl,fun _ _ h=>absurd (hr1'.symm.trans h) hz⟩
    ·rw[hs,if_neg hz]
     have hz':(dk gaps x f.ofs f.bytes).1=0:=Classical.byContradiction hz
     refine⟨by rw[hr1',hz'];rfl,fun _ _ h x' hx'=>?_⟩
     have hrs:∃l,(dk gaps x f.ofs f.bytes).2 = {x with bytes:=l}:=by
      unfold dk
      split
      ·exact⟨x.bytes,rfl⟩
      ·split
       ·exact⟨x.bytes,rfl⟩
       ·exact⟨_,rfl⟩
     obtain⟨l,hl⟩:=hrs
     have h6:=hr2' h
     refine hpass _ ?_ ?_ ?_ ?_ ?_ h6.symm x' hx'<;>rw[hl]
     exact hd
   ·have hr0:r=(0,aU x.read x.bytes):=hrec.2 hr
    have hs:be gaps credit high f x=(0,ft f x x):=by
     conv=>lhs;unfold be
     rw[if_neg (by rw[b1];decide),if_neg (by rw[hd];decide),if_neg (by rw[b2];decide),if_neg hr]
    rw[hs]
    refine⟨by rw[hr0];rfl,fun _ _ _ x' hx'=>hpass x rfl rfl hd rfl rfl (by rw[hr0]) x' hx'⟩
def eP(x:aQ):Int:=if x.done&&x.reset then x.final else x.read
def readAll(l:List aQ):Int:=(l.map eP).sum
def Fol(g:Cfg)(c:au):Prop:=readAll c.streams+g.c1/2<=c.credit\/1073741823<=c.credit
structure ConInv(g:Cfg)(c:au):Prop where
 str:∀x∈c.streams,StrInv g.c4 x
 high:cR c.streams<=c.credit
 runs:PWf c.runs
 fol:Fol g c
theorem readAll_set{l:List aQ}:∀{i:Nat} {x y:aQ},l[i]? =some x->readAll (l.set i y)=readAll l-eP x+eP y:=by
 induction l with
 |nil=>intro i x y h;simp at h
 |cons a t ih=>
  intro i x y h
  cases i with
  |zero=>
   simp only[List.getElem?_cons_zero,Option.some.injEq]at h
   subst h
   simp[readAll]
   omega
  |succ i=>
   have:=ih (i:=i) (x:=x) (y:=y) (by simpa using h)
   simp[readAll]at this⊢
   omega
theorem readAll_new(piece:Int):∀n,readAll (List.replicate n (aX piece))=0
 |0=>rfl
 |n+1=>by
  have:=readAll_new piece n
  simp[readAll,List.replicate_succ,eP,aX]at this⊢
theorem passS_readOf{f:dM}{x r:aQ}(h:r.done=false):eP (ft f x r)=r.read:=by
 have hp:(ft f x r).done=false/\(ft f x r).read=r.read:=by
  unfold ft
  simp only
  split<;>split<;>exact⟨h,rfl⟩
 simp[eP,hp.1,hp.2]
theorem strDeal_readOf{gaps credit high:Int}{f:dM}{x:aQ}:eP (be gaps credit high f x).2=eP x:=by
 cases hd:x.done with
 |true=>
  unfold be
  simp only[hd,if_true]
  split<;>rfl
 |false=>
  have hx:eP x=x.read:=by simp[eP,hd]
  have hr:(dk gaps x f.ofs f.bytes).2.done=false/\(dk gaps x f.ofs f.bytes).2.read=x.read:=by
   unfold dk
   split
   ·exact⟨hd,rfl⟩
   ·split<;>exact⟨hd,rfl⟩
  unfold be
  simp only[hd,Bool.false_eq_true,if_false]
  split
  ·rfl
  ·split
   ·rfl
   ·split
    ·split
     ·rfl
     ·rw[passS_readOf hr.1,hr.2,hx]
    ·rw[passS_readOf hd,hx]
theorem highS_set{l:List aQ}:∀{i:Nat} {x y:aQ},l[i]? =some x->cR (l.set i y)=cR l-x.highest+y.highest:=by
 induction l with
 |nil=>intro i x y h;simp at h
 |cons a t ih=>
  intro i x y h
  cases i with
  |zero=>
   simp only[List.getElem?_cons_zero,Option.some.injEq]at h
   subst h
   simp[cR]
   omega
  |succ i=>
   have:=ih (i:=i) (x:=x) (y:=y) (by simpa using h)
   simp[cR]at this⊢
   omega
theorem passS_high(f:dM)(x r:aQ):(ft f x r).highest=x.highest+fR x (f.ofs+f.bytes.length):=by
 unfold ft
 simp only
 split<;>split<;>rfl
theorem strDeal_high{gaps credit high:Int}{f:dM}{x:aQ}(hch:high<=credit):high-x.highest+(be gaps credit high f x).2.highest<=credit:=by
 unfold be
 simp only
 have hm:∀r:aQ,¬overS x (f.ofs+f.bytes.length) credit high=true->high-x.highest+(ft f x r).highest<=credit:=by
  intro r h
  rw[passS_high]
  unfold overS at h
  simp at h
  omega
 split
 ·simp only;omega
 ·split
  ·simp only;omega
  ·split
   ·simp only;omega
   ·next ho=>
    split
    ·split
     ·simp only;omega
     ·exact hm _ ho
    ·exact hm _ ho
theorem conDeal_inv{g:Cfg}{f:dM}{c:au}(hc:ConInv g c)(hb:Bytes f.bytes)(ho:0<=f.ofs)(hg:0<=g.c4):ConInv g (bG g.c4 f c).2:=by
 unfold bG
 split
 ·exact hc
 ·next x hx=>
  refine⟨fun y hy=>?_,?_,hc.runs,?_⟩
  ·rcases List.mem_or_eq_of_mem_set hy with hy|rfl
   ·exact hc.str y hy
   ·exact strDeal_inv hb ho hg (hc.str x (List.mem_of_getElem? hx))
  ·simp only
   rw[highS_set hx]
   exact strDeal_high hc.high
  ·unfold Fol
   simp only
   rw[readAll_set hx,strDeal_readOf]
   rcases hc.fol with h|h
   ·exact Or.inl (by omega)
   ·exact Or.inr h
def aZ(g:Cfg)(lw:Int)(c:au)(f:dM):Int×au:=
 if f.type=0\/f.type=1 then(0,c)
 else if f.type=7 then(if f.code≠dX g.c9 c.addr c.cid then(10,c) else if c.proven then(0,c) else(0,{c with proven:=true,waits:=lw}))
 else bG g.c4 f c
structure ConR where
 con:au
 closed:Option Int
 gone:Bool
def aJ(g:Cfg)(lw:Int)(c:au)(b:List Int):Nat->ConR
 |0=>⟨c,none,false⟩
 |n+1=>if b=[] then⟨c,none,false⟩ else
  match bS b with
  |none=>⟨c,some 7,true⟩
  |some (f,size)=>
   if f.type=6 then⟨c,none,true⟩
   else if(aZ g lw c f).1≠0 then⟨c,some (aZ g lw c f).1,true⟩
   else aJ g lw (aZ g lw c f).2 (b.drop size) n
def dC(r:ConR)(outs:List (Int×List Int)):List (Int×List Int):=match r.closed with
 |none=>outs
 |some k=>cf r.con ([19]++aw k) outs
def conS(s:ax)(i:Nat)(c:au)(r:ConR):ax:=
 {s with conns:=if r.gone then s.conns.eraseIdx i else s.conns.set i r.con,last:=if r.con.proven=true/\c.proven=false then s.last+1 else s.last}
theorem conStep_proven{g:Cfg}{lw:Int}{c:au}{f:dM}(h:c.proven=true):(aZ g lw c f).2.proven=true:=by
 unfold aZ
 split
 ·exact h
 ·split
  ·split
   ·exact h
   ·first|exact h |(rw[if_pos h];exact h)
  ·unfold bG
   split<;>exact h
theorem conStep_lw{g:Cfg}{lw lw':Int}{c:au}{f:dM}(h:c.proven=true):aZ g lw c f=aZ g lw' c f:=by
 unfold aZ
 simp[h]
theorem conFrames_proven{g:Cfg}{lw:Int}:∀(n:Nat) {c:au} {b:List Int},c.proven=true->(aJ g lw c b n).con.proven=true
 |0,c,b,h=>h
 |n+1,c,b,h=>by
  unfold aJ
  split
  ·exact h
  ·split
   ·exact h
   ·split
    ·exact h
    ·split
     ·exact h
     ·exact conFrames_proven n (conStep_proven h)
theorem conFrames_lw{g:Cfg}{lw lw':Int}:∀(n:Nat) {c:au} {b:List Int},c.proven=true->aJ g lw c b n=aJ g lw' c b n
 |0,c,b,h=>rfl
 |n+1,c,b,h=>by
  unfold aJ
  split
  ·rfl
  ·split
   ·rfl
   ·next f size hf=>
    rw[conStep_lw (lw:=lw) (lw':=lw') h,conFrames_lw (lw:=lw) (lw':=lw') n (conStep_proven h)]
theorem eraseIdx_set{α:Type}(a:α):∀(l:List α) (i:Nat),(l.set i a).eraseIdx i=l.eraseIdx i
 |[],i=>by simp
 |b::t,0=>by simp
 |b::t,i+1=>by simp[eraseIdx_set a t i]
theorem dealR_step{s:ax}{i:Nat}{c:au}{f:dM}(h6:f.type≠6)(hi:s.conns[i]? =some c):
  (fe s i c f).code=(aZ s.c (s.last+1) c f).1/\(fe s i c f).gone=false/\((fe s i c f).code=0->(fe s i c f).srv=conS s i c ⟨(aZ s.c (s.last+1) c f).2,none,false⟩):=by
 unfold fe aZ conS
 by_cases h0:f.type=0\/f.type=1
 ·rw[if_pos h0,if_pos h0]
  refine⟨rfl,rfl,fun _=>?_⟩
  simp[eL hi]
 ·rw[if_neg h0,if_neg h0,if_neg h6]
  by_cases h7:f.type=7
  ·rw[if_pos h7,if_pos h7]
   unfold proveS
   by_cases hp:f.code≠dX s.c.c9 c.addr c.cid
   ·rw[if_pos hp,if_pos hp]
    exact⟨rfl,rfl,fun h=>absurd (show(10:Int)=0 from h) (by decide)⟩
   ·rw[if_neg hp,if_neg hp]
    cases hpr:c.proven with
    |true=>simp[eL hi,hpr]
    |false=>simp
  ·rw[if_neg h7,if_neg h7]
   refine⟨rfl,rfl,fun _=>?_⟩
   have hp:(bG s.c.c4 f c).2.proven=c.proven:=by unfold bG;split<;>rfl
   simp only[hp]
   cases c.proven<;>simp
theorem fH:∀(n:Nat) {s:ax} {i:Nat} {c:au} (b:List Int) (outs:List (Int×List Int)),s.conns[i]? =some c->
  cU s i b outs n=(conS s i c (aJ s.c (s.last+1) c b n),dC (aJ s.c (s.last+1) c b n) outs)
 |0,s,i,c,b,outs,hi=>by
  simp[cU,aJ,conS,dC,eL hi]
 |n+1,s,i,c,b,outs,hi=>by
  have hsame:conS s i c ⟨c,none,false⟩= s:=by simp[conS,eL hi]
  have hgone:∀k,conS s i c ⟨c,k,true⟩= {s with conns:=s.conns.eraseIdx i}:=by intro k;simp[conS]
  unfold cU aJ
  by_cases hb:b=[]
  ·rw[if_pos hb,if_pos hb,hsame]
   rfl
  ·rw[if_neg hb,if_neg hb,hi]
   simp only
   cases hf:bS b with
   |none=>simp only;rw[hgone];rfl
   |some x=>
    obtain⟨f,size⟩:=x
    simp only
    by_cases h6:f.type=6
    ·have hd:fe s i c f =⟨0,{s with conns:=s.conns.eraseIdx i},true⟩:=by
      unfold fe
      rw[if_neg (by omega),if_pos h6]
     rw[hd,if_pos h6,hgone]
     rfl
    ·obtain⟨e1,e2,e3⟩:=dealR_step (f:=f) h6 hi
     rw[if_neg h6,e1,e2]
     by_cases hz:(aZ s.c (s.last+1) c f).1≠0
     ·rw[if_pos hz,if_pos hz,hgone]
      rfl
     ·rw[if_neg hz,if_neg hz]
      have hz':(aZ s.c (s.last+1) c f).1=0:=Classical.byContradiction hz
      have e4:=e3 (e1.trans hz')
      simp only[Bool.false_eq_true,if_false]
      have hi':(fe s i c f).srv.conns[i]? =some (aZ s.c (s.last+1) c f).2:=by
       rw[e4]
       simp[conS,aI hi]
      rw[fH n _ _ hi']
      generalize hc':(aZ s.c (s.last+1) c f).2=c' at *
      have hcfg:(fe s i c f).srv.c=s.c:=by rw[e4];rfl
      have hconns:(fe s i c f).srv.conns=s.conns.set i c':=by rw[e4];simp[conS]
      have hnow:(fe s i c f).srv.now=s.now:=by rw[e4];rfl
      have hlast:(fe s i c f).srv.last=if c'.proven=true/\c.proven=false then s.last+1 else s.last:=by rw[e4];rfl
      have hfr:aJ (fe s i c f).srv.c ((fe s i c f).srv.last+1) c' (b.drop size) n=aJ s.c (s.last+1) c' (b.drop size) n:=by
       rw[hcfg]
       by_cases hp:c'.proven=true/\c.proven=false
       ·exact conFrames_lw n hp.1
       ·rw[hlast,if_neg hp]
      rw[hfr]
      generalize hr:aJ s.c (s.last+1) c' (b.drop size) n=r
      refine Prod.ext ?_ rfl
      simp only
      have hl2:(if r.con.proven=true/\c'.proven=false then(fe s i c f).srv.last+1 else(fe s i c f).srv.last)=if r.con.proven=true/\c.proven=false then s.last+1 else s.last:=by
       rw[hlast]
       cases hp:c.proven with
       |true=>
        have h1:c'.proven=true:=by rw[<-hc'];exact conStep_proven hp
        simp[h1]
       |false=>
        cases hp':c'.proven with
        |true=>
         have h2:r.con.proven=true:=by rw[<-hr];exact conFrames_proven n hp'
         simp[h2]
        |false=>simp
      unfold conS
      rw[hl2,hconns]
      have h3:(if r.gone=true then(s.conns.set i c').eraseIdx i else(s.conns.set i c').set i r.con)=if r.gone=true then s.conns.eraseIdx i else s.conns.set i r.con:=by
       rw[eraseIdx_set,List.set_set]
      rw[h3]
      generalize hd:(fe s i c f).srv=sd at *
      cases sd
      cases s
      simp only at hcfg hnow⊢
      subst hcfg hnow
      rfl
def bY(l:List au):List (Int×Int):=(l.filter fun c=>decide (0<c.waits)).map fun c=>(c.waits,c.cid)
def WaitIs(l:List au)(cs:List Int):Prop:=∃ks:List (Int×Int),ks.Perm (bY l)/\ks.Pairwise (fun a b=>a.1<b.1)/\cs=ks.map (·.2)
theorem cJ(a b:List au):bY (a++b)=bY a++bY b:=by simp[bY]
theorem fG(c:au)(l:List au):bY (c::l)=bY [c]++bY l:=by rw[<-cJ];rfl
theorem fP(c:au):bY [c]=if 0<c.waits then [(c.waits,c.cid)] else []:=by
 unfold bY
 by_cases h:0<c.waits<;>simp[h]
theorem split_at{α:Type}{l:List α}{i:Nat}{a:α}(h:l[i]? =some a):l=l.take i++a::l.drop (i+1):=by
 obtain⟨hi,rfl⟩:=List.getElem?_eq_some_iff.1 h
 rw[List.getElem_cons_drop,List.take_append_drop]
theorem set_split{α:Type}{l:List α}{i:Nat}{a b:α}(h:l[i]? =some a):l.set i b=l.take i++b::l.drop (i+1):=by
 obtain⟨hi,_⟩:=List.getElem?_eq_some_iff.1 h
 rw[List.set_eq_take_append_cons_drop,if_pos hi]
theorem erase_split{α:Type}{l:List α}{i:Nat}{a:α}(_h:l[i]? =some a):l.eraseIdx i=l.take i++l.drop (i+1):=List.eraseIdx_eq_take_drop_succ l i
theorem waitK_set{l:List au}{i:Nat}{c c':au}(h:l[i]? =some c)(hw:c'.waits=c.waits)(hc:c'.cid=c.cid):bY (l.set i c')=bY l:=by
 conv=>rhs;rw[split_at h]
 rw[set_split h,cJ,cJ,fG c',fG c,fP,fP,hw,hc]
theorem WaitIs.same{l l':List au}{cs:List Int}(h:WaitIs l cs)(e:bY l'=bY l):WaitIs l' cs:=by
 obtain⟨ks,h1,h2,h3⟩:=h
 exact⟨ks,by rw[e];exact h1,h2,h3⟩
theorem WaitIs.nil:WaitIs [] []:=⟨[],by simp[bY],List.Pairwise.nil,rfl⟩
theorem waitK_le{l:List au}{last:Int}(h:∀c∈l,c.waits<=last):∀k∈bY l,k.1<=last:=by
 intro k hk
 simp only[bY,List.mem_map,List.mem_filter]at hk
 obtain⟨c,⟨hc,_⟩,rfl⟩:=hk
 exact h c hc
theorem WaitIs.more{l l':List au}{cs:List Int}{lw cid:Int}(h:WaitIs l cs)(hp:(bY l').Perm (bY l++[(lw,cid)]))(hl:∀c∈l,c.waits<lw):WaitIs l' (cs++[cid]):=by
 obtain⟨ks,h1,h2,h3⟩:=h
 refine⟨ks++[(lw,cid)],(List.Perm.append_right _ h1).trans hp.symm,?_,by simp[h3]⟩
 rw[List.pairwise_append]
 refine⟨h2,List.pairwise_singleton _ _,fun a ha b hb=>?_⟩
 rw[List.mem_singleton.1 hb]
 have hk:=waitK_le (last:=lw-1) (fun c hc=>by have:=hl c hc;omega) a (h1.mem_iff.1 ha)
 simp only
 omega
theorem waitK_set_more{l:List au}{i:Nat}{c c':au}{lw:Int}(h:l[i]? =some c)(h0:c.waits<=0)(hw:c'.waits=lw)(hl:0<lw):(bY (l.set i c')).Perm (bY l++[(lw,c'.cid)]):=by
 have e2:bY l=bY (l.take i)++bY (l.drop (i+1)):=by
  conv=>lhs;rw[split_at h]
  rw[cJ,fG c,fP,if_neg (by omega)]
  rfl
 rw[set_split h,cJ,fG c',fP,hw,if_pos hl,e2,List.append_assoc]
 exact List.Perm.append_left _ (List.perm_append_comm)
theorem waitK_cid{l:List au}{k:Int×Int}(h:k∈bY l):∃c∈l,c.cid=k.2/\c.waits=k.1/\0<c.waits:=by
 simp only[bY,List.mem_map,List.mem_filter]at h
 obtain⟨c,⟨hc,h0⟩,rfl⟩:=h
 exact⟨c,hc,rfl,rfl,by simpa using h0⟩
theorem WaitIs.filter{l l':List au}{cs:List Int}(h:WaitIs l cs)(p:Int->Bool)(e:bY l'=(bY l).filter fun k=>p k.2):WaitIs l' (cs.filter p):=by
 obtain⟨ks,h1,h2,h3⟩:=h
 refine⟨ks.filter fun k=>p k.2,by rw[e];exact h1.filter _,h2.filter _,?_⟩
 rw[h3,List.filter_map]
 rfl
theorem waitK_erase{l:List au}{i:Nat}{c:au}(hn:(l.map (·.cid)).Nodup)(h:l[i]? =some c):bY (l.eraseIdx i)=(bY l).filter fun k=>k.2 != c.cid:=by
 have hs:=split_at h
 rw[hs]at hn
 simp only[List.map_append,List.map_cons]at hn
 rw[List.nodup_append]at hn
 obtain⟨_,hn2,hn3⟩:=hn
 rw[List.nodup_cons]at hn2
 have hkeep:∀m:List au,(∀d∈m,d.cid≠c.cid)->(bY m).filter (fun k=>k.2 != c.cid)=bY m:=by
  intro m hm
  refine List.filter_eq_self.2 fun k hk=>?_
  obtain⟨d,hd,e1,_⟩:=waitK_cid hk
  simp[<-e1,hm d hd]
 have hA:∀d∈l.take i,d.cid≠c.cid:=fun d hd=>hn3 d.cid (List.mem_map.2 ⟨d,hd,rfl⟩) c.cid (by simp)
 have hB:∀d∈l.drop (i+1),d.cid≠c.cid:=fun d hd e=>hn2.1 (e▸List.mem_map.2 ⟨d,hd,rfl⟩)
 rw[erase_split h,cJ]
 conv=>rhs;rw[hs]
 rw[cJ,fG c,List.filter_append,List.filter_append,hkeep _ hA,hkeep _ hB,fP]
 split<;>simp
theorem WaitIs.erase{l:List au}{i:Nat}{c:au}{cs:List Int}(h:WaitIs l cs)(hn:(l.map (·.cid)).Nodup)(hi:l[i]? =some c):WaitIs (l.eraseIdx i) (cs.filter fun x=>x != c.cid):=
 h.filter _ (waitK_erase hn hi)
theorem WaitIs.nodup{l:List au}{cs:List Int}(h:WaitIs l cs)(hn:(l.map (·.cid)).Nodup):cs.Nodup:=by
 obtain⟨ks,h1,_,rfl⟩:=h
 refine((h1.map _).nodup_iff).2 ?_
 unfold bY
 rw[List.map_map]
 exact((List.filter_sublist (p:=fun c:au=>decide (0<c.waits)) (l:=l)).map (·.cid)).nodup hn
theorem firstTo_is(l:List au):∀k,(firstTo l k=none/\∀j,j<k->¬0<ec l j)\/∃j,firstTo l k=some j/\j<k/\0<ec l j/\∀i,i<k->0<ec l i->ec l j<=ec l i
 |0=>Or.inl ⟨rfl,fun j h=>absurd h (by omega)⟩
 |k+1=>by
  unfold firstTo
  rcases firstTo_is l k with⟨e,h⟩|⟨j,e,h1,h2,h3⟩
  ·rw[e]
   simp only
   by_cases hk:0<ec l k
   ·right
    rw[if_pos hk]
    refine⟨k,rfl,by omega,hk,fun i hi hw=>?_⟩
    rcases Nat.lt_or_ge i k with h4|h4
    ·exact absurd hw (h i h4)
    ·obtain rfl:i=k:=by omega
     omega
   ·left
    rw[if_neg hk]
    refine⟨rfl,fun i hi=>?_⟩
    rcases Nat.lt_or_ge i k with h4|h4
    ·exact h i h4
    ·obtain rfl:i=k:=by omega
     exact hk
  ·right
   rw[e]
   simp only
   by_cases hk:0<ec l k/\ec l k<ec l j
   ·rw[if_pos hk]
    refine⟨k,rfl,by omega,hk.1,fun i hi hw=>?_⟩
    rcases Nat.lt_or_ge i k with h4|h4
    ·have:=h3 i h4 hw;omega
    ·obtain rfl:i=k:=by omega
     omega
   ·rw[if_neg hk]
    refine⟨j,rfl,by omega,h2,fun i hi hw=>?_⟩
    rcases Nat.lt_or_ge i k with h4|h4
    ·exact h3 i h4 hw
    ·obtain rfl:i=k:=by omega
     omega
theorem waitsAt_eq{l:List au}{j:Nat}{c:au}(h:l[j]? =some c):ec l j=c.waits:=by simp[ec,h]
theorem accept_none{s:ax}(h:WaitIs s.conns []):dG s=(0,4,s):=by
 obtain⟨ks,h1,_,h3⟩:=h
 have hk:ks=[]:=by simpa using h3.symm
 subst hk
 have hK:bY s.conns=[]:=h1.symm.eq_nil
 have hf:firstTo s.conns s.conns.length=none:=by
  rcases firstTo_is s.conns s.conns.length with⟨e,_⟩|⟨j,_,h5,h6,_⟩
  ·exact e
  ·have hj:s.conns[j]? =some s.conns[j]:=List.getElem?_eq_getElem h5
   rw[waitsAt_eq hj]at h6
   have:(s.conns[j].waits,s.conns[j].cid)∈bY s.conns:=by
    simp only[bY,List.mem_map,List.mem_filter]
    exact⟨_,⟨List.getElem_mem h5,by simpa using h6⟩,rfl⟩
   rw[hK]at this
   cases this
 unfold dG
 rw[hf]
theorem accept_some{s:ax}{x:Int}{cs:List Int}(h:WaitIs s.conns (x::cs)):∃j c,s.conns[j]? =some c/\c.cid=x/\0<c.waits/\dG s=(x,0,{s with conns:=s.conns.set j {c with waits:=0}})/\WaitIs (s.conns.set j {c with waits:=0}) cs:=by
 obtain⟨ks,h1,h2,h3⟩:=h
 cases ks with
 |nil=>simp at h3
 |cons k kt=>
  simp only[List.map_cons,List.cons.injEq]at h3
  obtain⟨rfl,rfl⟩:=h3
  rw[List.pairwise_cons]at h2
  obtain⟨h2,h2'⟩:=h2
  have hmin:∀c∈s.conns,0<c.waits->k.1<c.waits\/(c.waits,c.cid)=k:=by
   intro c hc h0
   have hm:(c.waits,c.cid)∈bY s.conns:=by
    simp only[bY,List.mem_map,List.mem_filter]
    exact⟨_,⟨hc,by simpa using h0⟩,rfl⟩
   rcases List.mem_cons.1 (h1.mem_iff.2 hm) with e|e
   ·exact Or.inr e
   ·exact Or.inl (h2 _ e)
  obtain⟨c0,hc0,e1,e2,e3⟩:=waitK_cid (h1.mem_iff.1 (List.mem_cons_self (a:=k) (l:=kt)))
  rcases firstTo_is s.conns s.conns.length with⟨e,hno⟩|⟨j,e,h5,h6,h7⟩
  ·obtain⟨i,hi,rfl⟩:=List.getElem_of_mem hc0
   have:=hno i hi
   rw[waitsAt_eq (List.getElem?_eq_getElem hi)]at this
   omega
  ·have hj:s.conns[j]? =some s.conns[j]:=List.getElem?_eq_getElem h5
   rw[waitsAt_eq hj]at h6
   have hjk:(s.conns[j].waits,s.conns[j].cid)=k:=by
    rcases hmin _ (List.getElem_mem h5) h6 with h8|h8
    ·obtain⟨i,hi,rfl⟩:=List.getElem_of_mem hc0
     have h9:=h7 i hi (by rw[waitsAt_eq (List.getElem?_eq_getElem hi)];exact e3)
     rw[waitsAt_eq (List.getElem?_eq_getElem hi),waitsAt_eq hj]at h9
     omega
    ·exact h8
   generalize hcj:s.conns[j]=c at *
   refine⟨j,c,hj,by rw[<-hjk],h6,?_,kt,?_,h2',rfl⟩
   ·unfold dG
    rw[e]
    simp only
    rw[hj]
    simp only
    rw[<-hjk]
   ·have hK:(bY s.conns).Perm (k::bY (s.conns.set j {c with waits:=0})):=by
     conv=>lhs;rw[split_at hj]
     rw[set_split hj,cJ,cJ,fG c (s.conns.drop (j+1)),fG {c with waits:=0} (s.conns.drop (j+1)),fP c,fP {c with waits:=0},if_pos h6,hjk]
     simp only[Int.lt_irrefl,if_false,List.nil_append]
     exact List.perm_middle
    exact List.Perm.cons_inv (h1.trans hK)
structure ConKeep(M:Int)(g:Cfg)(lw:Int)(c c':au):Prop where
 cid:c'.cid=c.cid
 addr:c'.addr=c.addr
 got:c'.got=c.got
 sent:c'.sent=c.sent
 heard:c'.heard=c.heard
 mark:c'.mark=c.mark
 runs:c'.runs=c.runs
 credit:c'.credit=c.credit
 slen:c'.streams.length=c.streams.length
 ok:ConOk M c'
 inv:ConInv g c'
 same:c'.proven=c.proven->c'.waits=c.waits
 stay:c.proven=true->c'.proven=true
 new:c.proven=false->c'.proven=true->c'.waits=lw
theorem ConKeep.refl{M:Int}{g:Cfg}{lw:Int}{c:au}(h1:ConOk M c)(h2:ConInv g c):ConKeep M g lw c c:=
 ⟨rfl,rfl,rfl,rfl,rfl,rfl,rfl,rfl,rfl,h1,h2,fun _=>rfl,id,fun a b=>by rw[a]at b;cases b⟩
theorem ConKeep.trans{M:Int}{g:Cfg}{lw:Int}{a b c:au}(h:ConKeep M g lw a b)(k:ConKeep M g lw b c):ConKeep M g lw a c where
 cid:=k.cid.trans h.cid
 addr:=k.addr.trans h.addr
 got:=k.got.trans h.got
 sent:=k.sent.trans h.sent
 heard:=k.heard.trans h.heard
 mark:=k.mark.trans h.mark
 runs:=k.runs.trans h.runs
 credit:=k.credit.trans h.credit
 slen:=k.slen.trans h.slen
 ok:=k.ok
 inv:=k.inv
 same:=fun e=>by
  cases ha:a.proven with
  |true=>
   have hb:=h.stay ha
   have hc:=k.stay hb
   rw[k.same (by rw[hb,hc]),h.same (by rw[ha,hb])]
  |false=>
   have hc:c.proven=false:=by rw[e,ha]
   have hb:b.proven=false:=by
    cases hb:b.proven with
    |true=>have:=k.stay hb;rw[hc]at this;cases this
    |false=>rfl
   rw[k.same (by rw[hb,hc]),h.same (by rw[ha,hb])]
 stay:=fun e=>k.stay (h.stay e)
 new:=fun e1 e2=>by
  cases hb:b.proven with
  |true=>rw[k.same (by rw[hb,e2]),h.new e1 hb]
  |false=>exact k.new hb e2
theorem conDeal_fields{gaps:Int}{f:dM}{c:au}:(bG gaps f c).2 = {c with streams:=(bG gaps f c).2.streams}/\(bG gaps f c).2.streams.length=c.streams.length:=by
 unfold bG
 split
 ·exact⟨rfl,rfl⟩
 ·exact⟨rfl,by simp⟩
theorem conStep_keep{M:Int}{g:Cfg}{lw:Int}{c:au}{f:dM}(h1:ConOk M c)(h2:ConInv g c)(hf:FrmOk f)(hb:Bytes f.bytes)(hg:0<=g.c4):ConKeep M g lw c (aZ g lw c f).2:=by
 unfold aZ
 split
 ·exact ConKeep.refl h1 h2
 ·split
  ·by_cases hp:f.code≠dX g.c9 c.addr c.cid
   ·rw[if_pos hp];exact ConKeep.refl h1 h2
   ·rw[if_neg hp]
    cases hpr:c.proven with
    |true=>simp only[if_true];exact ConKeep.refl h1 h2
    |false=>
     simp only[Bool.false_eq_true,if_false]
     exact⟨rfl,rfl,rfl,rfl,rfl,rfl,rfl,rfl,rfl,⟨h1.cid,h1.addr,h1.got,h1.sent,h1.heard,h1.runs,h1.credit,h1.slen,h1.str⟩,⟨h2.str,h2.high,h2.runs,h2.fol⟩,fun h=>(by rw[hpr]at h;cases h),fun _=>rfl,fun _ _=>rfl⟩
  ·have e:=conDeal_fields (gaps:=g.c4) (f:=f) (c:=c)
   have e1:=e.1
   have k1:=(conDeal_ok (gaps:=g.c4) hf h1).1
   have k2:=conDeal_inv h2 hb hf.ofs.1 hg
   exact⟨by rw[e1],by rw[e1],by rw[e1],by rw[e1],by rw[e1],by rw[e1],by rw[e1],by rw[e1],e.2,k1,k2,fun _=>by rw[e1],fun h=>by rw[e1];exact h,fun a b=>by rw[e1]at b;rw[a]at b;cases b⟩
theorem frameS_bytes{b:List Int}(hb:Bytes b){f:dM}{size:Nat}(h:bS b=some (f,size)):Bytes f.bytes:=by
 have hn:Bytes []:=fun x hx=>by cases hx
 unfold bS at h
 split at h
 ·cases h
 ·split at h
  ·cases h
  ·simp only[Option.some.injEq,Prod.mk.injEq]at h;rw[<-h.1];exact hn
  ·simp only[Option.some.injEq,Prod.mk.injEq]at h;rw[<-h.1];exact hn
  ·simp only[Option.some.injEq,Prod.mk.injEq]at h;rw[<-h.1];exact hn
  ·split at h
   ·cases h
   ·simp only[Option.some.injEq,Prod.mk.injEq]at h
    rw[<-h.1]
    exact(hb.drop _).take _
theorem conFrames_keep{M:Int}{g:Cfg}{lw:Int}(hg:0<=g.c4):∀(n:Nat) {c:au} {b:List Int},ConOk M c->ConInv g c->Bytes b->ConKeep M g lw c (aJ g lw c b n).con
 |0,c,b,h1,h2,hb=>ConKeep.refl h1 h2
 |n+1,c,b,h1,h2,hb=>by
  unfold aJ
  split
  ·exact ConKeep.refl h1 h2
  ·next hne=>
   split
   ·exact ConKeep.refl h1 h2
   ·next f size hf=>
    split
    ·exact ConKeep.refl h1 h2
    ·split
     ·exact ConKeep.refl h1 h2
     ·have k:=conStep_keep (lw:=lw) h1 h2 (frameS_ok hb (List.length_pos_iff.2 hne) hf).1 (frameS_bytes hb hf) hg
      exact k.trans (conFrames_keep hg n k.ok k.inv (hb.drop size))
def gh(s:ax)(addr cid num size:Int)(b:List Int)(N:Nat)(outs:List (Int×List Int)):ax×List (Int×List Int):=
 match eI s.conns cid with
 |none=>(s,outs)
 |some k=>match s.conns[k]? with
  |none=>(s,outs)
  |some c=>
   if c.addr≠addr then(s,outs) else
   match dK {c with got:=c.got+size} num with
   |none=>({s with conns:=s.conns.set k {c with got:=c.got+size}},outs)
   |some c2=>cU {s with conns:=s.conns.set k {c2 with heard:=s.now}} k b outs N
def bj(s:ax)(addr:Int)(b:List Int):ax×List (Int×List Int):=
 if ¬(0<=addr/\addr<=255) then(s,[]) else
 match fJ b with
 |none=>(s,[])
 |some d=>if d.kind=1 then fZ s addr d.cid b.length d.tok d.frames b.length [] else gh s addr d.cid d.num b.length d.frames b.length []
end Go.Proofs.YthmdjhlhodpbhaaGreatDoor
