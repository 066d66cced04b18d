/- Apart, 35 -/
import Derived.BigRegion
import Derived.Deep.RegionHeld3
import Derived.Deep.CutRange
import Derived.Test.YthmdjhlhodpbhaaGreatDoorA33
import Derived.Test.YthmdjhlhodpbhaaGreatDoorA34
set_option maxHeartbeats 16000000
set_option maxRecDepth 8000
namespace Go.Proofs.YthmdjhlhodpbhaaGreatDoor
structure AtK(s:ay)(j:Nat)(c:aw):Prop where
 find:ei s.conns 300=some j
 at_:s.conns[j]? =some c
 now:s.now=0
theorem findI_set{l:List aw}{j:Nat}{c c':aw}{cid:Int}(h:ei l cid=some j)(hj:l[j]? =some c)(hc:c'.cid=c.cid):ei (l.set j c') cid=some j:=by
 unfold ei at h⊢
 rw[List.findIdx?_eq_some_iff_getElem]at h⊢
 obtain⟨hlt,h1,h2⟩:=h
 have e:l[j]=c:=by rw[lGe hlt]at hj;simpa using hj
 refine⟨by rw[List.length_set];exact hlt,?_,fun k hk=>?_⟩
 ·rw[List.getElem_set_self,hc,<-e]
  exact h1
 ·rw[List.getElem_set_ne (by omega)]
  exact h2 k hk
theorem AtK.set{s:ay}{j:Nat}{c c':aw}(h:AtK s j c)(hc:c'.cid=c.cid):AtK {s with conns:=s.conns.set j c'} j c':=
 ⟨findI_set h.find h.at_ hc,List.getElem?_set_self (lLt h.at_),h.now⟩
theorem wP(p:Nat):jT 0 (rU p) p=some (0,rU (p+1)):=by
 unfold rU
 by_cases h0:p=0
 ·subst h0
  rfl
 ·rw[if_neg h0,if_neg (by omega)]
  unfold jT
  rw[if_neg (by omega)]
  have e:iw (p:Int) [(0,(p:Int)-1)] ([(0,(p:Int)-1)]:List (Int×Int)).length=some ⟨[],0,p,false⟩:=by
   show iw (p:Int) [(0,(p:Int)-1)] 1=_
   rw[iw,iw]
   simp only[Option.bind_some]
   rw[show([(0,(p:Int)-1)]:List (Int×Int)).getD 0 (0,0)=(0,(p:Int)-1) from rfl]
   unfold cT
   simp only
   rw[if_neg (by omega),if_pos trivial]
  rw[e]
  have hf:(kz ⟨[],0,p,false⟩).map (jS (p:Int) 0 p)=[(0,(p:Int))]:=by
   unfold kz jS
   simp only[Bool.false_eq_true,if_false,List.nil_append,List.map_cons,List.map_nil]
   rw[if_pos (by omega)]
  simp only[Option.map_some,hf]
  rw[if_neg (by simp),show((p+1:Nat):Int)-1=p by omega]
theorem comes_old(p q:Nat)(h:q<p):jT 0 (rU p) q=none:=by
 unfold rU
 rw[if_neg (by omega)]
 unfold jT
 rw[if_neg (by omega)]
 have e:iw (q:Int) [(0,(p:Int)-1)] ([(0,(p:Int)-1)]:List (Int×Int)).length=none:=by
  show iw (q:Int) [(0,(p:Int)-1)] 1=_
  rw[iw,iw]
  simp only[Option.bind_some]
  rw[show([(0,(p:Int)-1)]:List (Int×Int)).getD 0 (0,0)=(0,(p:Int)-1) from rfl]
  unfold cT
  simp only
  rw[if_pos (by omega)]
 rw[e]
 rfl
theorem lY{s:ay}{j:Nat}{c:aY}{got sent waits:Int}(h:AtK s j (bq c got sent waits)){fr:List Int}{f:dx}(hfr:bR fr=some (f,fr.length))(hne:fr≠[])(ht:f.type=3\/f.type=4\/f.type=5){i:Nat}{k k':KS}(hi:f.id=i)(hk:c.strs[i]? =some k)
  (hd:bf s.c.c4 c.credit (bN c.strs) f (cn i k)=(0,cn i k')) (hp:c.old.length<=1073741823):
  ∃got',got'=got+((bK 300 c.old.length fr).length:Int)/\bg s 1 (bK 300 c.old.length fr)=({s with conns:=s.conns.set j (bq {c with strs:=c.strs.set i k',old:=c.old++[fr]} got' sent waits)},[]):=by
 obtain⟨m,hm⟩:∃m:Nat,(bK 300 c.old.length fr).length=m+1:=⟨(bK 300 c.old.length fr).length-1,by simp[bK]⟩
 refine⟨got+((m+1:Nat):Int),by rw[hm],?_⟩
 have hc2:dy {bq c got sent waits with got:=got+((m+1:Nat):Int)} c.old.length=some (bq {c with old:=c.old++[fr]} (got+((m+1:Nat):Int)) sent waits):=by
  unfold dy
  simp only[bq]
  rw[wP,List.length_append]
  rfl
 have hx:(bq {c with old:=c.old++[fr]} (got+((m+1:Nat):Int)) sent waits).streams[f.id.toNat]? =some (cn i k):=by
  show(cX c.strs)[f.id.toNat]? =_
  rw[hi,Int.toNat_natCast,jJ,hk]
  rfl
 have hstep:be s.c (s.last+1) (bq {c with old:=c.old++[fr]} (got+((m+1:Nat):Int)) sent waits) f=(0,bq {c with strs:=c.strs.set i k',old:=c.old++[fr]} (got+((m+1:Nat):Int)) sent waits):=by
  unfold be
  rw[if_neg (by omega),if_neg (by omega),jV hx]
  simp only[bq,highS_K]
  rw[hd,hi,Int.toNat_natCast,nO]
 have hfrm:aL s.c (s.last+1) (bq {c with old:=c.old++[fr]} (got+((m+1:Nat):Int)) sent waits) fr (m+1) =⟨bq {c with strs:=c.strs.set i k',old:=c.old++[fr]} (got+((m+1:Nat):Int)) sent waits,none,false⟩:=by
  rw[pd hne hfr (by omega),hstep]
  simp only[ne_eq,not_true_eq_false,if_false,List.drop_length]
  cases m<;>simp[aL]
 unfold bg
 rw[if_neg (by decide),pj (by decide) (by omega)]
 simp only[hm]
 rw[if_neg (by decide)]
 unfold gi
 rw[h.find]
 simp only[h.at_]
 rw[if_neg (by simp[bq]),show(bq c got sent waits).got=got from rfl,hc2]
 simp only[h.now]
 have key:=fL (m+1) (s:=⟨s.c,0,s.conns.set j (bq {c with old:=c.old++[fr]} (got+((m+1:Nat):Int)) sent waits),s.last⟩) (i:=j) (c:=bq {c with old:=c.old++[fr]} (got+((m+1:Nat):Int)) sent waits) fr [] (List.getElem?_set_self (lLt h.at_))
 simp only at key
 rw[hfrm]at key
 refine Eq.trans key (Prod.ext ?_ rfl)
 simp[gu,bq]
theorem send_old{s:ay}{j:Nat}{c:aY}{got sent waits:Int}(h:AtK s j (bq c got sent waits)){q:Nat}(hq:q<c.old.length)(fr:List Int)(hp:c.old.length<=1073741823):
  ∃got',got'=got+((bK 300 q fr).length:Int)/\bg s 1 (bK 300 q fr)=({s with conns:=s.conns.set j (bq c got' sent waits)},[]):=by
 refine⟨got+((bK 300 q fr).length:Int),rfl,?_⟩
 have hc2:dy {bq c got sent waits with got:=got+((bK 300 q fr).length:Int)} q=none:=by
  unfold dy
  simp only[bq]
  rw[comes_old _ _ hq]
  rfl
 unfold bg
 rw[if_neg (by decide),pj (by decide) (by omega)]
 simp only
 rw[if_neg (by decide)]
 unfold gi
 rw[h.find]
 simp only[h.at_]
 rw[if_neg (by simp[bq]),show(bq c got sent waits).got=got from rfl,hc2]
 rfl
abbrev Ev:=(Nat×Int) ⊕ (Int ⊕ Int)
theorem evCas{motive:Ev->Prop}(piece:∀i m,motive (Sum.inl (i,m)))(data:∀m,motive (Sum.inr (Sum.inl m)))(streams:∀m,motive (Sum.inr (Sum.inr m)))(e:Ev):motive e:=by
 rcases e with⟨i,m⟩|m|m
 ·exact piece i m
 ·exact data m
 ·exact streams m
def evL:Ev->List Int
 |Sum.inl (i,m)=>[17]++az i++az m
 |Sum.inr (Sum.inl m)=>[16]++az m
 |Sum.inr (Sum.inr m)=>[18]++az m
def bk(g:Cfg)(c:aY):Ev->aY
 |Sum.inl (i,m)=>{c with strs:=match c.strs[i]? with|some k=>c.strs.set i {k with piece:=m}|none=>c.strs}
 |Sum.inr (Sum.inl m)=>{c with credit:=m}
 |Sum.inr (Sum.inr _)=>{c with strs:=c.strs++[dk g.c2]}
def okE(g:Cfg)(c:aY):Ev->Prop
 |Sum.inl (i,m)=>∃k,c.strs[i]? =some k/\k.piece<m/\m<=k.read+g.c2/\m<=1073741823/\0<=k.piece
 |Sum.inr (Sum.inl m)=>c.credit<m/\m<=readK c.strs+g.c1/\m<=1073741823/\0<=c.credit
 |Sum.inr (Sum.inr m)=>m=(c.strs.length:Int)+1/\m<=1073741823
def oB(g:Cfg):aY->List Ev->Prop
 |_,[]=>True
 |c,e::r=>okE g c e/\oB g (bk g c e) r
def dU(k:KS)(most:Int):Int:=min most (k.high-k.read)
def bT(k:KS)(most:Int):KS:={k with read:=k.read+dU k most,done:=decide (k.read+dU k most=k.fin)}
def ev1(g:Cfg)(i:Nat)(k:KS):List Ev:=if k.fin<0/\k.piece<k.read+g.c2/2 then [Sum.inl (i,(k.read+g.c2))] else []
def ev2(g:Cfg)(c:aY):List Ev:=if c.credit<readK c.strs+g.c1/2 then [Sum.inr (Sum.inl (readK c.strs+g.c1))] else []
def ev3(on:Bool)(c:aY):List Ev:=if on then [Sum.inr (Sum.inr ((c.strs.length:Int)+1))] else []
def iB(g:Cfg)(c:aY)(i:Nat)(k:KS)(most:Int):List Ev:=
 ev1 g i (bT k most)++ev2 g {c with strs:=c.strs.set i (bT k most)}++ev3 (!k.done&&(bT k most).done) c
def kj(g:Cfg)(c:aY)(i:Nat)(k:KS)(most:Int):aY:=(iB g c i k most).foldl (bk g) {c with strs:=c.strs.set i (bT k most)}
def fs(l:List Ev):Int:=(l.map fun e=>((cg 300 (evL e)).length:Int)).sum
def ey(l:List Ev):List (Int×List Int):=l.map fun e=>(1,cg 300 (evL e))
theorem oc{g:Cfg}{a b:List Ev}:∀{c:aY},oB g c a->oB g (a.foldl (bk g) c) b->oB g c (a++b):=by
 induction a with
 |nil=>intro c _ h;exact h
 |cons e r ih=>intro c h1 h2;exact⟨h1.1,ih h1.2 h2⟩
theorem jX{g:Cfg}{c:aY}{i:Nat}{k:KS}{m:Int}(h:c.strs[i]? =some k):bk g c (Sum.inl (i,m)) = {c with strs:=c.strs.set i {k with piece:=m}}:=by
 simp only[bk,h]
theorem j6{α:Type}{l:List α}{i:Nat}{x y:α}(h:y∈l.set i x):y∈l\/y=x:=List.mem_or_eq_of_mem_set h
theorem hear_inv{g:Cfg}(hg:bM g){Z:Int}{c:aY}(h:KInv g Z c){e:Ev}(he:okE g c e):KInv g Z (bk g c e):=by
 cases e using evCas with
 |piece i m=>
  obtain⟨k,hk,h1,h2,_⟩:=he
  rw[jX hk]
  have hko:=h.str k (lMm hk)
  have e1:bN (c.strs.set i {k with piece:=m})=bN c.strs:=by
   unfold bN
   rw[ie _ hk]
   simp
  have e2:readK (c.strs.set i {k with piece:=m})=readK c.strs:=by
   unfold readK
   rw[ie _ hk]
   simp
  refine⟨fun k' hk'=>?_,?_,?_,h.low,?_⟩
  ·rcases j6 hk' with hk'|rfl
   ·exact h.str k' hk'
   ·exact⟨hko.read,by have:=hko.piece;simp only;omega,hko.fin,hko.done⟩
  ·simp only[e1];exact h.sum
  ·simp only[e2];exact h.fol
  ·simp only[e1];exact h.high
 |data m=>
  obtain⟨h1,h2,_⟩:=he
  have:=h.sum
  have:=h.low
  exact⟨h.str,by simp only[bk];omega,by simp only[bk];omega,by simp only[bk];omega,h.high⟩
 |streams m=>
  have h2:=hg.c2
  have e1:bN (c.strs++[dk g.c2])=bN c.strs:=by simp[bN,dk,List.sum_append]
  have e2:readK (c.strs++[dk g.c2])=readK c.strs:=by simp[readK,dk,List.sum_append]
  refine⟨fun k' hk'=>?_,by simp only[bk,e1];exact h.sum,by simp only[bk,e2];exact h.fol,h.low,by simp only[bk,e1];exact h.high⟩
  rcases List.mem_append.1 hk' with hk'|hk'
  ·exact h.str k' hk'
  ·obtain rfl:=List.mem_singleton.1 hk'
   exact⟨by simp[dk],by simp[dk];omega,Or.inl rfl,fun e=>by simp[dk]at e⟩
theorem jy{g:Cfg}(hg:bM g){Z:Int}:∀(l:List Ev) {c:aY},KInv g Z c->oB g c l->KInv g Z (l.foldl (bk g) c)
 |[],_,h,_=>h
 |_::r,_,h,he=>jy hg r (hear_inv hg h he.1) he.2
theorem jb{g:Cfg}{k:KS}(h:oW g k){most:Int}(hm:0<=most):0<=dU k most/\dU k most<=most/\k.read+dU k most<=k.high:=by
 have:=h.read
 unfold dU
 omega
theorem readKs_ok{g:Cfg}{k:KS}(h:oW g k){most:Int}(hm:0<=most):oW g (bT k most):=by
 have hr:=h.read
 have hp:=h.piece
 have ht:=jb h hm
 refine⟨by simp only[bT];omega,by simp only[bT];omega,h.fin,fun e=>?_⟩
 simp only[bT,decide_eq_true_eq]at e
 rcases h.fin with e2|e2
 ·simp only[bT];omega
 ·simp only[bT];omega
def dr(c:aY)(i:Nat)(k:KS)(most:Int):aY:={c with strs:=c.strs.set i (bT k most)}
theorem se{g:Cfg}{Z:Int}{c:aY}(h:KInv g Z c){i:Nat}{k:KS}(hk:c.strs[i]? =some k){most:Int}(hm:0<=most):KInv g Z (dr c i k most):=by
 have hko:=h.str k (lMm hk)
 have ht:=jb hko hm
 have e1:bN (c.strs.set i (bT k most))=bN c.strs:=by
  unfold bN
  rw[ie _ hk]
  simp[bT]
 have e2:readK (c.strs.set i (bT k most))=readK c.strs+dU k most:=by
  unfold readK
  rw[ie _ hk]
  simp only[bT]
  omega
 have hf:=h.fol
 refine⟨fun k' hk'=>?_,?_,?_,h.low,?_⟩
 ·rcases j6 hk' with hk'|rfl
  ·exact h.str k' hk'
  ·exact readKs_ok hko hm
 ·simp only[dr,e1];exact h.sum
 ·simp only[dr,e2];omega
 ·simp only[dr,e1];exact h.high
theorem ev1_ok{g:Cfg}(hg:bM g){Z:Int}{c:aY}(h:KInv g Z c)(hZ:Z<=500000000){i:Nat}{k:KS}(hk:c.strs[i]? =some k):oB g c (ev1 g i k):=by
 have h2:=hg.c2
 have h1:=hg.c1
 have hko:=h.str k (lMm hk)
 have hs:k.high<=(c.strs.map fun k:KS=>k.high).sum:=iY (fun k:KS=>k.high) (l:=c.strs) (fun x hx=>by have:=(h.str x hx).read;omega) (lMm hk)
 have hh:=h.high
 unfold bN at hh
 have hr:=hko.read
 have hp:=hko.piece
 unfold ev1
 split
 ·rename_i hc
  exact⟨⟨k,hk,by omega,by omega,by omega,by omega⟩,trivial⟩
 ·trivial
theorem vw{g:Cfg}{l:List KS}(h:∀k∈l,oW g k):readK l<=bN l:=by
 induction l with
 |nil=>simp[readK,bN]
 |cons a t ih=>
  have h0:=(h a (List.mem_cons_self ..)).read
  have:=ih (fun x hx=>h x (List.mem_cons_of_mem _ hx))
  unfold readK bN at this⊢
  simp only[List.map_cons,List.sum_cons]
  omega
theorem ev2_ok{g:Cfg}(hg:bM g){Z:Int}{c:aY}(h:KInv g Z c)(hZ:Z<=500000000):oB g c (ev2 g c):=by
 have h1:=hg.c1
 have hr:readK c.strs<=bN c.strs:=vw h.str
 have hh:=h.high
 unfold ev2
 split
 ·exact⟨⟨by omega,by omega,by omega,by have:=h.low;omega⟩,trivial⟩
 ·trivial
theorem uL{g:Cfg}{c:aY}{i:Nat}{k:KS}(hk:c.strs[i]? =some k):readK ((ev1 g i k).foldl (bk g) c).strs=readK c.strs/\((ev1 g i k).foldl (bk g) c).credit=c.credit/\((ev1 g i k).foldl (bk g) c).strs.length=c.strs.length/\((ev1 g i k).foldl (bk g) c).old=c.old:=by
 unfold ev1
 split
 ·simp only[List.foldl_cons,List.foldl_nil]
  rw[jX hk]
  refine⟨?_,rfl,by simp,rfl⟩
  unfold readK
  rw[ie _ hk]
  simp
 ·exact⟨rfl,rfl,rfl,rfl⟩
theorem sU{g:Cfg}{c c':aY}:((ev2 g c').foldl (bk g) c).strs=c.strs/\((ev2 g c').foldl (bk g) c).old=c.old:=by
 unfold ev2
 split
 ·exact⟨rfl,rfl⟩
 ·exact⟨rfl,rfl⟩
theorem uM{g:Cfg}{c c':aY}(h1:c'.credit=c.credit)(h2:readK c'.strs=readK c.strs):ev2 g c'=ev2 g c:=by
 unfold ev2
 rw[h1,h2]
theorem evsK_ok{g:Cfg}(hg:bM g){Z:Int}{c:aY}(h:KInv g Z c)(hZ:Z<=500000000)(hl:c.strs.length<=500000000){i:Nat}{k:KS}(hk:c.strs[i]? =some k){most:Int}(hm:0<=most):
  oB g (dr c i k most) (iB g c i k most)/\KInv g Z (kj g c i k most)/\(kj g c i k most).strs.length<=c.strs.length+1/\(kj g c i k most).old=c.old:=by
 have hT:=se h hk hm
 have hk':(dr c i k most).strs[i]? =some (bT k most):=List.getElem?_set_self (lLt hk)
 have o1:=ev1_ok hg hT hZ hk'
 have i1:=jy hg _ hT o1
 obtain⟨r1,r2,r3,r4⟩:=uL (g:=g) hk'
 have o2:=ev2_ok hg i1 hZ
 rw[uM r2 r1]at o2
 have i2:=jy hg _ i1 o2
 have hlen:((ev2 g (dr c i k most)).foldl (bk g) ((ev1 g i (bT k most)).foldl (bk g) (dr c i k most))).strs.length=c.strs.length:=by
  rw[sU.1,r3]
  simp[dr]
 have o3:oB g ((ev2 g (dr c i k most)).foldl (bk g) ((ev1 g i (bT k most)).foldl (bk g) (dr c i k most))) (ev3 (!k.done&&(bT k most).done) c):=by
  unfold ev3
  split
  ·exact⟨⟨by rw[hlen],by omega⟩,trivial⟩
  ·trivial
 have hall:oB g (dr c i k most) (iB g c i k most):=by
  unfold iB
  refine oc (oc o1 o2) ?_
  rw[List.foldl_append]
  exact o3
 refine⟨hall,jy hg _ hT hall,?_,?_⟩
 ·show((iB g c i k most).foldl (bk g) (dr c i k most)).strs.length<=_
  unfold iB
  rw[List.foldl_append,List.foldl_append]
  unfold ev3
  split
  ·simp only[List.foldl_cons,List.foldl_nil,bk,List.length_append,List.length_singleton]
   exact Nat.le_of_eq (congrArg (· + 1) hlen)
  ·simp only[List.foldl_nil]
   exact Nat.le_trans (Nat.le_of_eq hlen) (Nat.le_succ _)
 ·show((iB g c i k most).foldl (bk g) (dr c i k most)).old=_
  unfold iB
  rw[List.foldl_append,List.foldl_append]
  have e:((ev2 g (dr c i k most)).foldl (bk g) ((ev1 g i (bT k most)).foldl (bk g) (dr c i k most))).old=c.old:=by rw[sU.2,r4];rfl
  unfold ev3
  split
  ·simp only[List.foldl_cons,List.foldl_nil,bk]
   exact e
  ·exact e
theorem nG(c:aY)(got sent waits:Int)(f:List Int)(o:List (Int×List Int)):bt (bq c got sent waits) f=bq c got (sent+(cg 300 f).length) waits/\ca (bq c got sent waits) f o=o++[(1,cg 300 f)]:=by
 have h:fH (bq c got sent waits) (cg (bq c got sent waits).cid f).length=true:=by simp[fH,bq]
 unfold bt ca
 rw[if_pos h,if_pos h]
 exact⟨rfl,rfl⟩
theorem ti(st fr:Int){n m:Nat}(h:m<=n):(aV st fr n).take m=aV st fr m:=by
 apply List.ext_getElem?
 intro i
 rw[List.getElem?_take,fV,fV]
 by_cases hi:i<m
 ·rw[if_pos hi,if_pos (by omega),if_pos hi]
 ·rw[if_neg hi,if_neg hi]
theorem th(st fr:Int){n m:Nat}:(aV st fr n).drop m=aV st (fr+m) (n-m):=by
 apply List.ext_getElem?
 intro i
 rw[List.getElem?_drop,fV,fV]
 by_cases hi:i<n-m
 ·rw[if_pos (by omega),if_pos hi,show fr+((m+i:Nat):Int)=fr+(m:Int)+(i:Int) by omega]
 ·rw[if_neg (by omega),if_neg hi]
theorem take_K{g:Cfg}{i:Nat}{k:KS}(h:oW g k){most:Int}(hm:0<=most):du (cn i k) most=(dU k most).toNat:=by
 have:=h.read
 unfold du dU
 simp only[cn]
 rw[nD (iE _ _ _),cz]
 omega
theorem readX_K{g:Cfg}{i:Nat}{k:KS}(h:oW g k){most:Int}(hm:0<=most):aM (cn i k) most=(⟨aV i k.read (dU k most).toNat,decide (k.read+dU k most=k.fin),false⟩,cn i (bT k most)):=by
 have hr:=h.read
 have ht:=jb h hm
 have e:(((dU k most).toNat:Nat):Int)=dU k most:=by omega
 unfold aM
 rw[take_K h hm]
 simp only[cn,Bool.not_false,Bool.true_and,Bool.or_false,e]
 rw[ti i k.read (by omega),th,e]
 unfold bT
 simp only
 rw[show(k.high-(k.read+dU k most)).toNat=(k.high-k.read).toNat-(dU k most).toNat by omega]
theorem piece_K{g:Cfg}(hg:bM g){Z:Int}{c:aY}(hI:KInv g Z c)(hZ:Z<=500000000){i:Nat}{k:KS}(hk:c.strs[i]? =some k)(c0:aY)(h0:c = {c0 with strs:=c0.strs.set i k})(got sent waits:Int):
  ∃sent',sent'=sent+fs (ev1 g i k)/\fu g (bq c0 got sent waits) i (cn i k)=(bq ((ev1 g i k).foldl (bk g) c) got sent' waits,ey (ev1 g i k)):=by
 have h2:=hg.c2
 have h1:=hg.c1
 have hko:=hI.str k (lMm hk)
 have hs:k.high<=(c.strs.map fun k:KS=>k.high).sum:=iY (fun k:KS=>k.high) (l:=c.strs) (fun x hx=>by have:=(hI.str x hx).read;omega) (lMm hk)
 have hh:=hI.high
 unfold bN at hh
 have hr:=hko.read
 have hp:=hko.piece
 have hc0:{bq c0 got sent waits with streams:=(bq c0 got sent waits).streams.set i (cn i k)}=bq c got sent waits:=by
  rw[h0]
  simp only[bq,nO]
 unfold fu ev1
 have em:fX g (cn i k)=decide (k.fin<0/\k.piece<k.read+g.c2/2):=by
  unfold fX
  rw[decide_eq_true (p:=(cn i k).credit<1073741823) (show k.piece<1073741823 by omega),Bool.and_true]
  show(decide (k.fin<0)&&decide (k.piece<k.read+g.c2/2))=_
  rw[Bool.eq_iff_iff]
  simp only[Bool.and_eq_true,decide_eq_true_eq]
 rw[em]
 by_cases hc:k.fin<0/\k.piece<k.read+g.c2/2
 ·rw[decide_eq_true hc,if_pos rfl,if_pos hc]
  have er:bS (cn i k).read g.c2=k.read+g.c2:=by
   show bS k.read g.c2=_
   unfold bS
   rw[if_neg (by omega)]
  have e1:{bq c0 got sent waits with streams:=(bq c0 got sent waits).streams.set i {cn i k with credit:=k.read+g.c2}}=bq (bk g c (Sum.inl (i,(k.read+g.c2)))) got sent waits:=by
   rw[jX hk,h0]
   simp only[bq,nO,List.set_set]
   rfl
  simp only[er,e1,(nG _ _ _ _ _ []).1,(nG _ _ _ _ _ []).2]
  exact⟨_,by simp[fs,evL],rfl⟩
 ·rw[decide_eq_false hc,if_neg hc,if_neg (by decide)]
  rw[hc0]
  exact⟨sent,by simp[fs],rfl⟩
theorem data_K{g:Cfg}(hg:bM g){Z:Int}{c:aY}(hI:KInv g Z c)(hZ:Z<=500000000)(got sent waits:Int)(o:List (Int×List Int)):
  ∃sent',sent'=sent+fs (ev2 g c)/\iA g (bq c got sent waits,o)=(bq ((ev2 g c).foldl (bk g) c) got sent' waits,o++ey (ev2 g c)):=by
 have h1:=hg.c1
 have o2:=ev2_ok hg hI hZ
 have hlow:=hI.low
 have hfol:=hI.fol
 unfold iA
 simp only
 rw[show(bq c got sent waits).credit=c.credit from rfl,show(bq c got sent waits).streams=cX c.strs from rfl,readAll_K]
 unfold ev2 at o2⊢
 by_cases hc:c.credit<readK c.strs+g.c1/2
 ·rw[if_pos hc]at o2⊢
  have hm:=o2.1.2.2.1
  have hlt:=o2.1.1
  rw[decide_eq_true hc,decide_eq_true (show c.credit<1073741823 by omega),if_pos (by decide)]
  have er:bS (readK c.strs) g.c1=readK c.strs+g.c1:=by
   unfold bS
   rw[if_neg (by omega)]
  rw[er]
  show ∃sent',sent'=sent+fs [Sum.inr (Sum.inl (readK c.strs+g.c1))]/\(bt (bq (bk g c (Sum.inr (Sum.inl (readK c.strs+g.c1)))) got sent waits) ([16]++az (readK c.strs+g.c1)),ca (bq (bk g c (Sum.inr (Sum.inl (readK c.strs+g.c1)))) got sent waits) ([16]++az (readK c.strs+g.c1)) o)=_
  rw[(nG _ _ _ _ _ o).1,(nG _ _ _ _ _ o).2]
  exact⟨_,by simp[fs,evL],rfl⟩
 ·rw[if_neg hc,decide_eq_false hc,Bool.false_and,if_neg (by decide)]
  exact⟨sent,by simp[fs],by simp[ey]⟩
theorem limit_K{g:Cfg}{c:aY}(hl:c.strs.length<=500000000)(on:Bool)(got sent waits:Int)(o:List (Int×List Int)):
  ∃sent',sent'=sent+fs (ev3 on c)/\eW g on (bq c got sent waits,o)=(bq ((ev3 on c).foldl (bk g) c) got sent' waits,o++ey (ev3 on c)):=by
 unfold eW
 simp only
 rw[show(bq c got sent waits).streams=cX c.strs from rfl,gD,decide_eq_true (show c.strs.length<1073741823 by omega),Bool.and_true]
 unfold ev3
 cases on with
 |false=>exact⟨sent,by simp[fs],by simp[ey]⟩
 |true=>
  simp only[if_true]
  have e1:{bq c got sent waits with streams:=lD g.c2 (cX c.strs) (c.strs.length+1)}=bq (bk g c (Sum.inr (Sum.inr ((c.strs.length:Int)+1)))) got sent waits:=by
   have e:=lq g.c2 (cX c.strs)
   rw[gD]at e
   rw[e]
   simp only[bq,bk,strsK_snoc,vQ]
  have e2:((lD g.c2 (cX c.strs) (c.strs.length+1)).length:Int)=(c.strs.length:Int)+1:=by
   have e:=lq g.c2 (cX c.strs)
   rw[gD]at e
   rw[e]
   simp[gD]
  simp only[e1,e2,(nG _ _ _ _ _ o).1,(nG _ _ _ _ _ o).2]
  exact⟨_,by simp[fs,evL],rfl⟩
theorem vy{s:ay}{j:Nat}{c:aY}{got sent waits:Int}(hg:bM s.c)(h:AtK s j (bq c got sent waits)){Z:Int}(hI:KInv s.c Z c)(hZ:Z<=500000000)(hl:c.strs.length<=500000000){i:Nat}{k:KS}(hk:c.strs[i]? =some k){most:Int}(hm:0<=most):
  ∃sent',sent'=sent+fs (iB s.c c i k most)/\cR s 300 i most=(0,⟨aV i k.read (dU k most).toNat,decide (k.read+dU k most=k.fin),false⟩,{s with conns:=s.conns.set j (bq (kj s.c c i k most) got sent' waits)},ey (iB s.c c i k most)):=by
 have hko:=hI.str k (lMm hk)
 have hi:=(lLt hk)
 have hx:(bq c got sent waits).streams[(i:Int).toNat]? =some (cn i k):=by
  show(cX c.strs)[(i:Int).toNat]? =_
  rw[Int.toNat_natCast,jJ,hk]
  rfl
 have hT:=se hI hk hm
 have hk':(dr c i k most).strs[i]? =some (bT k most):=List.getElem?_set_self hi
 have o1:=ev1_ok hg hT hZ hk'
 have i1:=jy hg _ hT o1
 obtain⟨r1,r2,r3,r4⟩:=uL (g:=s.c) hk'
 obtain⟨s1,n1,e1⟩:=piece_K hg hT hZ hk' c rfl got sent waits
 obtain⟨s2,n2,e2⟩:=data_K hg i1 hZ got s1 waits (ey (ev1 s.c i (bT k most)))
 rw[uM r2 r1]at e2 n2
 have hlen:((ev2 s.c (dr c i k most)).foldl (bk s.c) ((ev1 s.c i (bT k most)).foldl (bk s.c) (dr c i k most))).strs.length=c.strs.length:=by
  rw[sU.1,r3]
  simp[dr]
 obtain⟨s3,n3,e3⟩:=limit_K (g:=s.c) (c:=(ev2 s.c (dr c i k most)).foldl (bk s.c) ((ev1 s.c i (bT k most)).foldl (bk s.c) (dr c i k most))) (by omega) (!k.done&&(bT k most).done) got s2 waits (ey (ev1 s.c i (bT k most))++ey (ev2 s.c (dr c i k most)))
 have hev3:ev3 (!k.done&&(bT k most).done) ((ev2 s.c (dr c i k most)).foldl (bk s.c) ((ev1 s.c i (bT k most)).foldl (bk s.c) (dr c i k most)))=ev3 (!k.done&&(bT k most).done) c:=by
  unfold ev3
  rw[hlen]
 rw[hev3]at e3 n3
 have hsum:s3=sent+fs (iB s.c c i k most):=by
  rw[n3,n2,n1]
  unfold fs iB
  simp only[List.map_append,List.sum_append]
  unfold dr
  omega
 refine⟨s3,hsum,?_⟩
 unfold cR
 rw[h.find]
 simp only[h.at_]
 rw[if_neg (by simp[bq]),if_neg (by rw[show(bq c got sent waits).streams=cX c.strs from rfl,gD];omega),hx]
 have hC:fD s.c (bq c got sent waits) i (cn i k) most=(bq (kj s.c c i k most) got s3 waits,ey (iB s.c c i k most)):=by
  unfold fD
  rw[readX_K hko hm]
  simp only[Bool.or_false]
  rw[e1,e2,show(cn i k).done=k.done from rfl,show decide (k.read+dU k most=k.fin)=(bT k most).done from rfl,e3]
  unfold kj iB
  rw[List.foldl_append,List.foldl_append]
  simp only[ey,List.map_append]
  rfl
 simp only[Int.toNat_natCast]
 rw[hC,readX_K hko hm]
end Go.Proofs.YthmdjhlhodpbhaaGreatDoor
namespace Go.Proofs.YthmdjhlhodpbhaaGreatDoor
open Go.RowKit
structure RowsAt(B:Nat)(w:World)(vs:List Value)(ts:List (TypeId×List Value)):Prop where
 len:vs.length=ts.length
 own:∀(i:Nat) (v:Value) (t:TypeId×List Value),vs[i]? =some v->ts[i]? =some t->w.ownsRow B t.1 1 v t.2.length t.2
 ap:∀(i j:Nat) (v u:Value) (g:Nat),i≠j->vs[i]? =some v->vs[j]? =some u->v.ownBlock=some g->u.ownBlock≠some g
theorem RowsAt.chg{F:Nat->Prop}{B:Nat}{w w':World}{vs:List Value}{ts:List (TypeId×List Value)}(h:RowsAt B w vs ts)(hc:Chg F w w')(hF:∀(i:Nat) (v:Value) (g:Nat),vs[i]? =some v->v.ownBlock=some g->¬F g):RowsAt B w' vs ts:=
 ⟨h.len,fun i v t hv ht=>bX (h.own i v t hv ht) hc fun g hg=>hF i v g hv hg,h.ap⟩
theorem RowsAt.below{B:Nat}{w w':World}{vs:List Value}{ts:List (TypeId×List Value)}(h:RowsAt B w vs ts)(hb:Below w.heap.size w w'):RowsAt B w' vs ts:=h.chg (F:=fun _=>False) (Chg.of_below hb) (fun _ _ _ _ _ h=>h)
theorem RowsAt.row{B:Nat}{w:World}{vs:List Value}{ts:List (TypeId×List Value)}(h:RowsAt B w vs ts)(i:Nat){v:Value}(hv:vs[i]? =some v):∃t,ts[i]? =some t/\w.ownsRow B t.1 1 v t.2.length t.2:=by
 have hi:i<ts.length:=by rw[<-h.len];exact(lLt hv)
 exact⟨_,lGe hi,h.own i v _ hv (lGe hi)⟩
theorem RowsAt.lies{B:Nat}{w:World}{vs:List Value}{ts:List (TypeId×List Value)}(h:RowsAt B w vs ts){i:Nat}{v:Value}{g:Nat}(hv:vs[i]? =some v)(hg:v.ownBlock=some g):B<=g/\g<w.heap.size/\∃t cur,ts[i]? =some t/\w.heap[g]? =some (.cells cur t.1 (0,0)):=by
 obtain⟨t,ht,ho⟩:=h.row i hv
 obtain⟨c,e⟩:=im ho hg
 exact⟨(own_ltS ho hg).2,(own_ltS ho hg).1,t,c,ht,e⟩
theorem RowsAt.push{B:Nat}{w w1 w2:World}{vs:List Value}{ts:List (TypeId×List Value)}(h:RowsAt B w vs ts){i:Nat}{v v':Value}{t:TypeId}{l:List Value}{u:Value}(hv:vs[i]? =some v)(hb:Below w.heap.size w w1)(hg:w1.grownBy w2 v.ownBlock)(hn:Nigh w1 v v')(ho:w2.ownsRow B t 1 v' (l.length+1) (l++[u])):RowsAt B w2 (vs.set i v') (ts.set i (t,l++[u])):=by
 have h1:=h.below hb
 have hi:=(lLt hv)
 have hfar:∀(j:Nat) (x:Value) (g:Nat),i≠j->vs[j]? =some x->x.ownBlock=some g->v'.ownBlock≠some g:=by
  intro j x g hij hx hxg e
  rcases hn with hn|hn
  ·exact h1.ap i j v x g hij hv hx (by rw[<-hn];exact e) hxg
  ·have:=hn g e
   have:=(h.lies hx hxg).2.1
   have:=hb.size
   omega
 refine⟨by simp[h.len],fun j x t' hx ht'=>?_,fun j k x y g hjk hx hy hxg e=>?_⟩
 ·by_cases hij:i=j
  ·subst hij
   rw[List.getElem?_set_self hi]at hx
   rw[List.getElem?_set_self (by rw[<-h.len];exact hi)]at ht'
   obtain rfl:=Option.some.inj hx
   obtain rfl:=Option.some.inj ht'
   simp only[List.length_append,List.length_singleton]
   exact ho
  ·rw[List.getElem?_set_ne hij]at hx ht'
   exact bX (h1.own j x t' hx ht') (grown_chg hg) fun g hxg e=>h1.ap i j v x g hij hv hx e hxg
 ·by_cases e1:i=j
  ·subst e1
   rw[List.getElem?_set_self hi]at hx
   rw[List.getElem?_set_ne hjk]at hy
   obtain rfl:=Option.some.inj hx
   exact hfar k y g hjk hy e hxg
  ·rw[List.getElem?_set_ne e1]at hx
   by_cases e2:i=k
   ·subst e2
    rw[List.getElem?_set_self hi]at hy
    obtain rfl:=Option.some.inj hy
    exact hfar j x g e1 hx hxg e
   ·rw[List.getElem?_set_ne e2]at hy
    exact h1.ap j k x y g hjk hx hy hxg e
theorem RowsAt.put{B:Nat}{w:World}{vs:List Value}{ts:List (TypeId×List Value)}(h:RowsAt B w vs ts){i:Nat}{gb n cap:Nat}{t:TypeId×List Value}(hv:vs[i]? =some (.slice (some ⟨gb,0,none⟩) n cap))(ht:ts[i]? =some t)(q:Nat)(u:Value):RowsAt B (w.setCell ⟨gb,q,none⟩ u) vs (ts.set i (t.1,t.2.set q u)):=by
 have hi:=(lLt hv)
 refine⟨by simp[h.len],fun j x t' hx ht'=>?_,h.ap⟩
 by_cases hij:i=j
 ·subst hij
  rw[List.getElem?_set_self (by rw[<-h.len];exact hi)]at ht'
  obtain rfl:=Option.some.inj ht'
  rw[hv]at hx
  obtain rfl:=Option.some.inj hx
  have ho:=h.own i _ t hv ht
  obtain⟨ao,cap',e⟩:=aH ho
  simp only[Value.slice.injEq]at e
  obtain⟨_,rfl,_⟩:=e
  simp only[List.length_set]
  exact own_set ho q u
 ·rw[List.getElem?_set_ne hij]at ht'
  exact bX (h.own j x t' hx ht') (eS w gb q u) fun g hg e=>h.ap i j _ x g hij hv hx (by rw[e];rfl) hg
def qx(sb:Nat)(g:Cfg)(ok:Bool)(credit lim packet:Int)(v0 v1 v2 v3 v4 v5 v6:Value):Array Value:=#[.pointer (some ⟨sb,0,none⟩),.int .i64 g.c0,.int .i64 g.c1,.int .i64 g.c2,.int .i64 g.c3,.int .i64 g.c4,.int .i64 g.c5,.int .i64 g.c6,.int .i64 g.c7,.int .i64 g.c8,.int .i64 g.c9,.bool ok,.int .i64 credit,v0,.int .i64 lim,v1,v2,v3,v4,v5,.int .i64 packet,v6]
def je(e:TypeId):Prop:=e=3\/e=4\/e=44
structure ClB(B:Nat)(w:World)(xb sb:Nat)(g:Cfg)(ok:Bool)(credit lim packet:Int)(v0 v1 v2 v3 v4 v5 v6:Value)(ts:List (TypeId×List Value)):Prop where
 blk:w.heap[xb]? =some (.cells (qx sb g ok credit lim packet v0 v1 v2 v3 v4 v5 v6) 42 (0,0))
 rows:RowsAt B w [v0,v1,v2,v3,v4,v5,v6] ts
 ty:∀t∈ts,je t.1
 low:B<=xb
def bO(xb:Nat)(v0 v1 v2 v3 v4 v5 v6:Value)(k:Nat):Prop:=k=xb\/∃v∈[v0,v1,v2,v3,v4,v5,v6],v.ownBlock=some k
theorem ClB.chg{F:Nat->Prop}{B:Nat}{w w':World}{xb sb:Nat}{g:Cfg}{ok:Bool}{credit lim packet:Int}{v0 v1 v2 v3 v4 v5 v6:Value}{ts:List (TypeId×List Value)}(h:ClB B w xb sb g ok credit lim packet v0 v1 v2 v3 v4 v5 v6 ts)(hc:Chg F w w')(hF:∀k,bO xb v0 v1 v2 v3 v4 v5 v6 k->¬F k):ClB B w' xb sb g ok credit lim packet v0 v1 v2 v3 v4 v5 v6 ts:=
 ⟨by rw[hc.block xb (aLt h.blk) (hF xb (Or.inl rfl))];exact h.blk,h.rows.chg hc (fun i v gg hv hg=>hF gg (Or.inr ⟨v,lMm hv,hg⟩)),h.ty,h.low⟩
theorem ClB.below{B:Nat}{w w':World}{xb sb:Nat}{g:Cfg}{ok:Bool}{credit lim packet:Int}{v0 v1 v2 v3 v4 v5 v6:Value}{ts:List (TypeId×List Value)}(h:ClB B w xb sb g ok credit lim packet v0 v1 v2 v3 v4 v5 v6 ts)(hb:Below w.heap.size w w'):ClB B w' xb sb g ok credit lim packet v0 v1 v2 v3 v4 v5 v6 ts:=h.chg (F:=fun _=>False) (Chg.of_below hb) (fun _ _ h=>h)
theorem ClB.types{B:Nat}{w:World}{xb sb:Nat}{g:Cfg}{ok:Bool}{credit lim packet:Int}{v0 v1 v2 v3 v4 v5 v6:Value}{ts:List (TypeId×List Value)}(h:ClB B w xb sb g ok credit lim packet v0 v1 v2 v3 v4 v5 v6 ts){k:Nat}(hk:bO xb v0 v1 v2 v3 v4 v5 v6 k):B<=k/\k<w.heap.size/\∃cur e,w.heap[k]? =some (.cells cur e (0,0))/\(e=42\/je e):=by
 rcases hk with rfl|⟨v,hv,hg⟩
 ·exact⟨h.low,(aLt h.blk),_,_,h.blk,Or.inl rfl⟩
 ·obtain⟨i,hi,hvi⟩:=List.getElem_of_mem hv
  obtain⟨h1,h2,t,cur,ht,e⟩:=h.rows.lies (i:=i) (by rw[lGe hi,hvi]) hg
  exact⟨h1,h2,cur,t.1,e,Or.inr (h.ty t (lMm ht))⟩
theorem ClB.xb_not{B:Nat}{w:World}{xb sb:Nat}{g:Cfg}{ok:Bool}{credit lim packet:Int}{v0 v1 v2 v3 v4 v5 v6:Value}{ts:List (TypeId×List Value)}(h:ClB B w xb sb g ok credit lim packet v0 v1 v2 v3 v4 v5 v6 ts){v:Value}(hv:v∈[v0,v1,v2,v3,v4,v5,v6]):v.ownBlock≠some xb:=by
 intro hg
 obtain⟨i,hi,hvi⟩:=List.getElem_of_mem hv
 obtain⟨_,_,t,cur,ht,e⟩:=h.rows.lies (i:=i) (by rw[lGe hi,hvi]) hg
 have hb:=h.blk
 rw[e]at hb
 simp only[Option.some.injEq,Obj.cells.injEq]at hb
 have:=h.ty t (lMm ht)
 unfold je at this
 rw[hb.2.1]at this
 simp at this
theorem ClB.scal{B:Nat}{w:World}{xb sb:Nat}{g:Cfg}{ok ok':Bool}{credit lim packet credit' lim' packet':Int}{v0 v1 v2 v3 v4 v5 v6:Value}{ts:List (TypeId×List Value)}(h:ClB B w xb sb g ok credit lim packet v0 v1 v2 v3 v4 v5 v6 ts)(q:Nat)(u:Value)(he:(qx sb g ok credit lim packet v0 v1 v2 v3 v4 v5 v6).setIfInBounds q u=qx sb g ok' credit' lim' packet' v0 v1 v2 v3 v4 v5 v6):ClB B (w.setCell ⟨xb,q,none⟩ u) xb sb g ok' credit' lim' packet' v0 v1 v2 v3 v4 v5 v6 ts:=by
 refine⟨by rw[<-he];exact al h.blk q u,h.rows.chg (eS w xb q u) (fun i v gg hv hg e=>h.xb_not (lMm hv) (by rw[hg,e])),h.ty,h.low⟩
theorem eU{B:Nat}{w:World}{xb sb:Nat}{g:Cfg}{ok:Bool}{credit lim packet:Int}{v0 v1 v2 v3 v4 v5 v6:Value}{ts:List (TypeId×List Value)}(h:ClB B w xb sb g ok credit lim packet v0 v1 v2 v3 v4 v5 v6 ts)(q:Nat):w.frozen? ⟨xb,q,none⟩= false:=frozen_of_row w xb q _ _ h.blk
def KI(l:List Int):TypeId×List Value:=(3,fJ l)
def KB(l:List Bool):TypeId×List Value:=(4,l.map fun b=>.bool b)
def bJ(l:List KS)(os:List Value):List (TypeId×List Value):=[KI (l.map (·.piece)),KI (l.map (·.high)),KI (l.map (·.fin)),KB (l.map fun _=>false),KI (l.map (·.read)),KB (l.map (·.done)),(44,os)]
theorem rowsK_ty(l:List KS)(os:List Value):∀t∈bJ l os,je t.1:=by
 intro t ht
 simp only[bJ,List.mem_cons,List.not_mem_nil,or_false]at ht
 rcases ht with rfl|rfl|rfl|rfl|rfl|rfl|rfl<;>simp[KI,KB,je]
structure ClAt(B:Nat)(w:World)(xb sb:Nat)(g:Cfg)(c:aY)(v0 v1 v2 v3 v4 v5 v6:Value):Prop where
 ex:∃os,ClB B w xb sb g true c.credit c.strs.length c.old.length v0 v1 v2 v3 v4 v5 v6 (bJ c.strs os)/\os.length=c.old.length/\∀(q:Nat) (v:Value) (fr:List Int),os[q]? =some v->c.old[q]? =some fr->RdT w v (bK 300 q fr)/\fr.length<=1000
theorem ClAt.below{B:Nat}{w w':World}{xb sb:Nat}{g:Cfg}{c:aY}{v0 v1 v2 v3 v4 v5 v6:Value}(h:ClAt B w xb sb g c v0 v1 v2 v3 v4 v5 v6)(hb:Below w.heap.size w w'):ClAt B w' xb sb g c v0 v1 v2 v3 v4 v5 v6:=by
 obtain⟨os,h1,h2,h3⟩:=h.ex
 exact⟨os,h1.below hb,h2,fun q v fr hv hf=>⟨(h3 q v fr hv hf).1.below hb,(h3 q v fr hv hf).2⟩⟩
theorem sum_take{l:List Int}(h:∀x∈l,0<=x)(k:Nat):0<=(l.take k).sum/\(l.take k).sum<=l.sum:=by
 induction l generalizing k with
 |nil=>simp
 |cons a t ih=>
  have h0:=h a (List.mem_cons_self ..)
  have ht:=ih (fun x hx=>h x (List.mem_cons_of_mem _ hx))
  cases k with
  |zero=>
   have:=ht t.length
   rw[List.take_length]at this
   simp only[List.take_zero,List.sum_nil,List.sum_cons]
   omega
  |succ k=>
   have:=ht k
   simp only[List.take_succ_cons,List.sum_cons]
   omega
theorem qP(l:List Int)(k:Nat)(h:k<l.length):(l.take (k+1)).sum=(l.take k).sum+l.getD k 0:=by
 rw[List.take_succ_eq_append_getElem h,List.sum_append]
 simp[List.getD_eq_getElem?_getD,lGe h]
theorem getD_mem{l:List Int}{k:Nat}(h:k<l.length):l.getD k 0∈l:=by
 rw[List.getD_eq_getElem?_getD,lGe h]
 exact List.getElem_mem h
theorem ClB.int{B:Nat}{w:World}{xb sb:Nat}{g:Cfg}{ok:Bool}{credit lim packet:Int}{v0 v1 v2 v3 v4 v5 v6:Value}{ts:List (TypeId×List Value)}(h:ClB B w xb sb g ok credit lim packet v0 v1 v2 v3 v4 v5 v6 ts)(i:Nat){v:Value}{l:List Int}(hv:[v0,v1,v2,v3,v4,v5,v6][i]? =some v)(ht:ts[i]? =some (KI l)):(∃ao cap,v=.slice ao l.length cap)/\∀k,k<l.length->∃b cap,v=.slice (some ⟨b,0,none⟩) l.length cap/\w.cell? ⟨b,k,none⟩= some (.int .i64 (l.getD k 0))/\∀q,w.frozen? ⟨b,q,none⟩= false:=by
 have ho:=h.rows.own i v (KI l) hv ht
 simp only[KI,I64L_len]at ho
 refine⟨aH ho,fun k hk=>?_⟩
 obtain⟨b,cap,rfl,_,_,_⟩:=dp ho (by omega)
 exact⟨b,cap,rfl,own_int ho k hk,pL ho⟩
theorem ksent_any{B:Nat}{w:World}{xb sb:Nat}{g:Cfg}{ok:Bool}{credit lim packet:Int}{v0 v1 v2 v3 v4 v5 v6:Value}{ts:List (TypeId×List Value)}(h:ClB B w xb sb g ok credit lim packet v0 v1 v2 v3 v4 v5 v6 ts){l:List Int}(ht:ts[1]? =some (KI l))(hp:∀x∈l,0<=x)(hs:l.sum<=1000000000000)(hl:l.length<=1000000000):
  Calls Tryz.prog 68 #[.pointer (some ⟨xb,0,none⟩)] w fun e w'=>e=.returned (.int .i64 l.sum)/\w=w':=by
 have x15:w.cell? ⟨xb,15,none⟩= some v1:=aj h.blk 15
 obtain⟨⟨ao,cap,rfl⟩,hc⟩:=h.int 1 (v:=v1) rfl ht
 have HC:=ab hc
 have HP:=ab hp
 have HS:=ab (fun k=>sum_take hp k)
 have HU:=ab (qP l)
 clear hc hp h ht
 generalize hn:l.length=n at *
 have HN:=ab hn
 clear hn
 go_enter Tryz.func68,Tryz.ntmps68
 go_wp2_with fail
 go_loop [3,4] (fun s i=>∃k:Nat,k<=n/\i=.int .i64 k/\s=.int .i64 (l.take k).sum) (fun _ i=>n-(intOf i).toNat)
 case atStart=>exact⟨0,Nat.zero_le _,rfl,by simp⟩
 case round=>
  obtain⟨k,hk,rfl,rfl⟩:=hrel
  have hr:=HS.out k
  by_cases hlt:k<n
  ·have hlt':(k:Int)<(n:Int):=by omega
   obtain⟨b,cap',e,hcell,_⟩:=HC.out k hlt
   simp only[Value.slice.injEq,true_and]at e
   obtain⟨rfl,rfl⟩:=e
   have hx:=HP.out _ (getD_mem (l:=l) (k:=k) (by rw[HN.out];exact hlt))
   have hsu:=HU.out k hlt
   have hr2:=HS.out (k+1)
   rw[hsu]at hr2
   have HSu:=ab hsu
   clear hsu
   generalize l.getD k 0=x at *
   generalize (l.take k).sum=s at *
   generalize l.sum=S at *
   go_wp2_with fail
   go_round
   case rel=>exact⟨k+1,by omega,by go_num,by rw[HSu.out]⟩
   case measure=>simp[intOf];omega
  ·obtain rfl:k=n:=by omega
   have hlt':¬(k:Int)<(k:Int):=by omega
   have he:(l.take k).sum=l.sum:=by rw[<-HN.out,List.take_length]
   rw[he]
   go_wp2_with fail
   go_ret
   exact⟨rfl,rfl⟩
end Go.Proofs.YthmdjhlhodpbhaaGreatDoor
