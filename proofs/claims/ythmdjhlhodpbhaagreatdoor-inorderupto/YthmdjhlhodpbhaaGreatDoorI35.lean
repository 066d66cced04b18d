/- InOrder, 35 -/
import Derived.BigRegion
import Derived.Deep.RegionHeld3
import Derived.Deep.CutRange
import Derived.Test.YthmdjhlhodpbhaaGreatDoorI33
import Derived.Test.YthmdjhlhodpbhaaGreatDoorI34
set_option maxHeartbeats 16000000
set_option maxRecDepth 8000
namespace Go.Proofs.YthmdjhlhodpbhaaGreatDoor
structure AtK(s:ax)(j:Nat)(c:au):Prop where
 find:eI s.conns 300=some j
 at_:s.conns[j]? =some c
 now:s.now=0
theorem findI_set{l:List au}{j:Nat}{c c':au}{cid:Int}(h:eI l cid=some j)(hj:l[j]? =some c)(hc:c'.cid=c.cid):eI (l.set j c') cid=some j:=by
 unfold eI at h⊢
 rw[List.findIdx?_eq_some_iff_getElem]at h⊢
 obtain⟨hlt,h1,h2⟩:=h
 have e:l[j]=c:=by rw[List.getElem?_eq_getElem hlt]at hj;simpa using hj
 refine⟨by rw[List.length_set];exact hlt,?_,fun k hk=>?_⟩
 ·rw[List.getElem_set_self,hc,<-e]
  exact h1
 ·rw[List.getElem_set_ne (by omega)]
  exact h2 k hk
theorem AtK.set{s:ax}{j:Nat}{c c':au}(h:AtK s j c)(hc:c'.cid=c.cid):AtK {s with conns:=s.conns.set j c'} j c':=
 ⟨findI_set h.find h.at_ hc,List.getElem?_set_self (List.getElem?_eq_some_iff.1 h.at_).1,h.now⟩
theorem comes_next(p:Nat):comesS 0 (numsK p) p=some (0,numsK (p+1)):=by
 unfold numsK
 by_cases h0:p=0
 ·subst h0
  rfl
 ·rw[if_neg h0,if_neg (by omega)]
  unfold comesS
  rw[if_neg (by omega)]
  have e:comTo (p:Int) [(0,(p:Int)-1)] ([(0,(p:Int)-1)]:List (Int×Int)).length=some ⟨[],0,p,false⟩:=by
   show comTo (p:Int) [(0,(p:Int)-1)] 1=_
   rw[comTo,comTo]
   simp only[Option.bind_some]
   rw[show([(0,(p:Int)-1)]:List (Int×Int)).getD 0 (0,0)=(0,(p:Int)-1) from rfl]
   unfold cP
   simp only
   rw[if_neg (by omega),if_pos trivial]
  rw[e]
  have hf:(comAll ⟨[],0,p,false⟩).map (comFix (p:Int) 0 p)=[(0,(p:Int))]:=by
   unfold comAll comFix
   simp only[Bool.false_eq_true,if_false,List.nil_append,List.map_cons,List.map_nil]
   rw[if_pos (by omega)]
  simp only[Option.map_some,hf]
  rw[if_neg (by simp),show((p+1:Nat):Int)-1=p by omega]
theorem comes_old(p q:Nat)(h:q<p):comesS 0 (numsK p) q=none:=by
 unfold numsK
 rw[if_neg (by omega)]
 unfold comesS
 rw[if_neg (by omega)]
 have e:comTo (q:Int) [(0,(p:Int)-1)] ([(0,(p:Int)-1)]:List (Int×Int)).length=none:=by
  show comTo (q:Int) [(0,(p:Int)-1)] 1=_
  rw[comTo,comTo]
  simp only[Option.bind_some]
  rw[show([(0,(p:Int)-1)]:List (Int×Int)).getD 0 (0,0)=(0,(p:Int)-1) from rfl]
  unfold cP
  simp only
  rw[if_pos (by omega)]
 rw[e]
 rfl
theorem send_frame{s:ax}{j:Nat}{c:aT}{got sent waits:Int}(h:AtK s j (bp c got sent waits)){fr:List Int}{f:dM}(hfr:bS fr=some (f,fr.length))(hne:fr≠[])(ht:f.type=3\/f.type=4\/f.type=5){i:Nat}{k k':KS}(hi:f.id=i)(hk:c.strs[i]? =some k)
  (hd:be s.c.c4 c.credit (bE c.strs) f (bZ i k)=(0,bZ i k')) (hp:c.old.length<=1073741823):
  ∃got',got'=got+((bL 300 c.old.length fr).length:Int)/\bj s 1 (bL 300 c.old.length fr)=({s with conns:=s.conns.set j (bp {c with strs:=c.strs.set i k',old:=c.old++[fr]} got' sent waits)},[]):=by
 obtain⟨m,hm⟩:∃m:Nat,(bL 300 c.old.length fr).length=m+1:=⟨(bL 300 c.old.length fr).length-1,by simp[bL]⟩
 refine⟨got+((m+1:Nat):Int),by rw[hm],?_⟩
 have hc2:dK {bp c got sent waits with got:=got+((m+1:Nat):Int)} c.old.length=some (bp {c with old:=c.old++[fr]} (got+((m+1:Nat):Int)) sent waits):=by
  unfold dK
  simp only[bp]
  rw[comes_next,List.length_append]
  rfl
 have hx:(bp {c with old:=c.old++[fr]} (got+((m+1:Nat):Int)) sent waits).streams[f.id.toNat]? =some (bZ i k):=by
  show(du c.strs)[f.id.toNat]? =_
  rw[hi,Int.toNat_natCast,strsK_get,hk]
  rfl
 have hstep:aZ s.c (s.last+1) (bp {c with old:=c.old++[fr]} (got+((m+1:Nat):Int)) sent waits) f=(0,bp {c with strs:=c.strs.set i k',old:=c.old++[fr]} (got+((m+1:Nat):Int)) sent waits):=by
  unfold aZ
  rw[if_neg (by omega),if_neg (by omega),conDeal_some hx]
  simp only[bp,highS_K]
  rw[hd,hi,Int.toNat_natCast,strsK_set]
 have hfrm:aJ s.c (s.last+1) (bp {c with old:=c.old++[fr]} (got+((m+1:Nat):Int)) sent waits) fr (m+1) =⟨bp {c with strs:=c.strs.set i k',old:=c.old++[fr]} (got+((m+1:Nat):Int)) sent waits,none,false⟩:=by
  rw[conFrames_step hne hfr (by omega),hstep]
  simp only[ne_eq,not_true_eq_false,if_false,List.drop_length]
  cases m<;>simp[aJ]
 unfold bj
 rw[if_neg (by decide),dgram_data (by decide) (by omega)]
 simp only[hm]
 rw[if_neg (by decide)]
 unfold gh
 rw[h.find]
 simp only[h.at_]
 rw[if_neg (by simp[bp]),show(bp c got sent waits).got=got from rfl,hc2]
 simp only[h.now]
 have key:=fH (m+1) (s:=⟨s.c,0,s.conns.set j (bp {c with old:=c.old++[fr]} (got+((m+1:Nat):Int)) sent waits),s.last⟩) (i:=j) (c:=bp {c with old:=c.old++[fr]} (got+((m+1:Nat):Int)) sent waits) fr [] (List.getElem?_set_self (List.getElem?_eq_some_iff.1 h.at_).1)
 simp only at key
 rw[hfrm]at key
 refine Eq.trans key (Prod.ext ?_ rfl)
 simp[conS,bp]
theorem send_old{s:ax}{j:Nat}{c:aT}{got sent waits:Int}(h:AtK s j (bp c got sent waits)){q:Nat}(hq:q<c.old.length)(fr:List Int)(hp:c.old.length<=1073741823):
  ∃got',got'=got+((bL 300 q fr).length:Int)/\bj s 1 (bL 300 q fr)=({s with conns:=s.conns.set j (bp c got' sent waits)},[]):=by
 refine⟨got+((bL 300 q fr).length:Int),rfl,?_⟩
 have hc2:dK {bp c got sent waits with got:=got+((bL 300 q fr).length:Int)} q=none:=by
  unfold dK
  simp only[bp]
  rw[comes_old _ _ hq]
  rfl
 unfold bj
 rw[if_neg (by decide),dgram_data (by decide) (by omega)]
 simp only
 rw[if_neg (by decide)]
 unfold gh
 rw[h.find]
 simp only[h.at_]
 rw[if_neg (by simp[bp]),show(bp c got sent waits).got=got from rfl,hc2]
 rfl
abbrev Ev:=(Nat×Int)⊕(Int⊕Int)
theorem evCas{motive:Ev->Prop}(piece:∀i m,motive (Sum.inl (i,m)))(data:∀m,motive (Sum.inr (Sum.inl m)))(streams:∀m,motive (Sum.inr (Sum.inr m)))(e:Ev):motive e:=by
 rcases e with ⟨i,m⟩|m|m
 ·exact piece i m
 ·exact data m
 ·exact streams m
def evL:Ev->List Int
 |Sum.inl (i,m)=>[17]++aw i++aw m
 |Sum.inr (Sum.inl m)=>[16]++aw m
 |Sum.inr (Sum.inr m)=>[18]++aw m
def bd(g:Cfg)(c:aT):Ev->aT
 |Sum.inl (i,m)=>{c with strs:=match c.strs[i]? with|some k=>c.strs.set i {k with piece:=m}|none=>c.strs}
 |Sum.inr (Sum.inl m)=>{c with credit:=m}
 |Sum.inr (Sum.inr _)=>{c with strs:=c.strs++[di g.c2]}
def okE(g:Cfg)(c:aT):Ev->Prop
 |Sum.inl (i,m)=>∃k,c.strs[i]? =some k/\k.piece<m/\m<=k.read+g.c2/\m<=1073741823/\0<=k.piece
 |Sum.inr (Sum.inl m)=>c.credit<m/\m<=readK c.strs+g.c1/\m<=1073741823/\0<=c.credit
 |Sum.inr (Sum.inr m)=>m=(c.strs.length:Int)+1/\m<=1073741823
def okEs(g:Cfg):aT->List Ev->Prop
 |_,[]=>True
 |c,e::r=>okE g c e/\okEs g (bd g c e) r
def dt(k:KS)(most:Int):Int:=min most (k.high-k.read)
def bO(k:KS)(most:Int):KS:={k with read:=k.read+dt k most,done:=decide (k.read+dt k most=k.fin)}
def ev1(g:Cfg)(i:Nat)(k:KS):List Ev:=if k.fin<0/\k.piece<k.read+g.c2/2 then [Sum.inl (i,(k.read+g.c2))] else []
def ev2(g:Cfg)(c:aT):List Ev:=if c.credit<readK c.strs+g.c1/2 then [Sum.inr (Sum.inl (readK c.strs+g.c1))] else []
def ev3(on:Bool)(c:aT):List Ev:=if on then [Sum.inr (Sum.inr ((c.strs.length:Int)+1))] else []
def evsK(g:Cfg)(c:aT)(i:Nat)(k:KS)(most:Int):List Ev:=
 ev1 g i (bO k most)++ev2 g {c with strs:=c.strs.set i (bO k most)}++ev3 (!k.done&&(bO k most).done) c
def gotsK(g:Cfg)(c:aT)(i:Nat)(k:KS)(most:Int):aT:=(evsK g c i k most).foldl (bd g) {c with strs:=c.strs.set i (bO k most)}
def fm(l:List Ev):Int:=(l.map fun e=>((cd 300 (evL e)).length:Int)).sum
def ef(l:List Ev):List (Int×List Int):=l.map fun e=>(1,cd 300 (evL e))
theorem okEs_append{g:Cfg}{a b:List Ev}:∀{c:aT},okEs g c a->okEs g (a.foldl (bd g) c) b->okEs g c (a++b):=by
 induction a with
 |nil=>intro c _ h;exact h
 |cons e r ih=>intro c h1 h2;exact⟨h1.1,ih h1.2 h2⟩
theorem hear_piece{g:Cfg}{c:aT}{i:Nat}{k:KS}{m:Int}(h:c.strs[i]? =some k):bd g c (Sum.inl (i,m)) = {c with strs:=c.strs.set i {k with piece:=m}}:=by
 simp only[bd,h]
theorem mem_set_or{α:Type}{l:List α}{i:Nat}{x y:α}(h:y∈l.set i x):y∈l\/y=x:=List.mem_or_eq_of_mem_set h
theorem hear_inv{g:Cfg}(hg:bN g){Z:Int}{c:aT}(h:KInv g Z c){e:Ev}(he:okE g c e):KInv g Z (bd g c e):=by
 cases e using evCas with
 |piece i m=>
  obtain⟨k,hk,h1,h2,_⟩:=he
  rw[hear_piece hk]
  have hko:=h.str k (List.mem_of_getElem? hk)
  have e1:bE (c.strs.set i {k with piece:=m})=bE c.strs:=by
   unfold bE
   rw[sum_set _ hk]
   simp
  have e2:readK (c.strs.set i {k with piece:=m})=readK c.strs:=by
   unfold readK
   rw[sum_set _ hk]
   simp
  refine⟨fun k' hk'=>?_,?_,?_,h.low,?_⟩
  ·rcases mem_set_or hk' with hk'|rfl
   ·exact h.str k' hk'
   ·exact⟨hko.read,by have:=hko.piece;simp only;omega,hko.fin,hko.done⟩
  ·simp only[e1];exact h.sum
  ·simp only[e2];exact h.fol
  ·simp only[e1];exact h.high
 |data m=>
  obtain⟨h1,h2,_⟩:=he
  have:=h.sum
  have:=h.low
  exact⟨h.str,by simp only[bd];omega,by simp only[bd];omega,by simp only[bd];omega,h.high⟩
 |streams m=>
  have h2:=hg.c2
  have e1:bE (c.strs++[di g.c2])=bE c.strs:=by simp[bE,di,List.sum_append]
  have e2:readK (c.strs++[di g.c2])=readK c.strs:=by simp[readK,di,List.sum_append]
  refine⟨fun k' hk'=>?_,by simp only[bd,e1];exact h.sum,by simp only[bd,e2];exact h.fol,h.low,by simp only[bd,e1];exact h.high⟩
  rcases List.mem_append.1 hk' with hk'|hk'
  ·exact h.str k' hk'
  ·obtain rfl:=List.mem_singleton.1 hk'
   exact⟨by simp[di],by simp[di];omega,Or.inl rfl,fun e=>by simp[di]at e⟩
theorem hears_inv{g:Cfg}(hg:bN g){Z:Int}:∀(l:List Ev) {c:aT},KInv g Z c->okEs g c l->KInv g Z (l.foldl (bd g) c)
 |[],_,h,_=>h
 |_::r,_,h,he=>hears_inv hg r (hear_inv hg h he.1) he.2
theorem tookK_range{g:Cfg}{k:KS}(h:KsOk g k){most:Int}(hm:0<=most):0<=dt k most/\dt k most<=most/\k.read+dt k most<=k.high:=by
 have:=h.read
 unfold dt
 omega
theorem readKs_ok{g:Cfg}{k:KS}(h:KsOk g k){most:Int}(hm:0<=most):KsOk g (bO k most):=by
 have hr:=h.read
 have hp:=h.piece
 have ht:=tookK_range h hm
 refine⟨by simp only[bO];omega,by simp only[bO];omega,h.fin,fun e=>?_⟩
 simp only[bO,decide_eq_true_eq]at e
 rcases h.fin with e2|e2
 ·simp only[bO];omega
 ·simp only[bO];omega
def dj(c:aT)(i:Nat)(k:KS)(most:Int):aT:={c with strs:=c.strs.set i (bO k most)}
theorem readT_inv{g:Cfg}{Z:Int}{c:aT}(h:KInv g Z c){i:Nat}{k:KS}(hk:c.strs[i]? =some k){most:Int}(hm:0<=most):KInv g Z (dj c i k most):=by
 have hko:=h.str k (List.mem_of_getElem? hk)
 have ht:=tookK_range hko hm
 have e1:bE (c.strs.set i (bO k most))=bE c.strs:=by
  unfold bE
  rw[sum_set _ hk]
  simp[bO]
 have e2:readK (c.strs.set i (bO k most))=readK c.strs+dt k most:=by
  unfold readK
  rw[sum_set _ hk]
  simp only[bO]
  omega
 have hf:=h.fol
 refine⟨fun k' hk'=>?_,?_,?_,h.low,?_⟩
 ·rcases mem_set_or hk' with hk'|rfl
  ·exact h.str k' hk'
  ·exact readKs_ok hko hm
 ·simp only[dj,e1];exact h.sum
 ·simp only[dj,e2];omega
 ·simp only[dj,e1];exact h.high
theorem ev1_ok{g:Cfg}(hg:bN g){Z:Int}{c:aT}(h:KInv g Z c)(hZ:Z<=500000000){i:Nat}{k:KS}(hk:c.strs[i]? =some k):okEs g c (ev1 g i k):=by
 have h2:=hg.c2
 have h1:=hg.c1
 have hko:=h.str k (List.mem_of_getElem? hk)
 have hs:k.high<=(c.strs.map fun k:KS=>k.high).sum:=sum_mem (fun k:KS=>k.high) (l:=c.strs) (fun x hx=>by have:=(h.str x hx).read;omega) (List.mem_of_getElem? hk)
 have hh:=h.high
 unfold bE at hh
 have hr:=hko.read
 have hp:=hko.piece
 unfold ev1
 split
 ·rename_i hc
  exact⟨⟨k,hk,by omega,by omega,by omega,by omega⟩,trivial⟩
 ·trivial
theorem readK_le{g:Cfg}{l:List KS}(h:∀k∈l,KsOk g k):readK l<=bE l:=by
 induction l with
 |nil=>simp[readK,bE]
 |cons a t ih=>
  have h0:=(h a (List.mem_cons_self ..)).read
  have:=ih (fun x hx=>h x (List.mem_cons_of_mem _ hx))
  unfold readK bE at this⊢
  simp only[List.map_cons,List.sum_cons]
  omega
theorem ev2_ok{g:Cfg}(hg:bN g){Z:Int}{c:aT}(h:KInv g Z c)(hZ:Z<=500000000):okEs g c (ev2 g c):=by
 have h1:=hg.c1
 have hr:readK c.strs<=bE c.strs:=readK_le h.str
 have hh:=h.high
 unfold ev2
 split
 ·exact⟨⟨by omega,by omega,by omega,by have:=h.low;omega⟩,trivial⟩
 ·trivial
theorem ev1_read{g:Cfg}{c:aT}{i:Nat}{k:KS}(hk:c.strs[i]? =some k):readK ((ev1 g i k).foldl (bd g) c).strs=readK c.strs/\((ev1 g i k).foldl (bd g) c).credit=c.credit/\((ev1 g i k).foldl (bd g) c).strs.length=c.strs.length/\((ev1 g i k).foldl (bd g) c).old=c.old:=by
 unfold ev1
 split
 ·simp only[List.foldl_cons,List.foldl_nil]
  rw[hear_piece hk]
  refine⟨?_,rfl,by simp,rfl⟩
  unfold readK
  rw[sum_set _ hk]
  simp
 ·exact⟨rfl,rfl,rfl,rfl⟩
theorem ev2_len{g:Cfg}{c c':aT}:((ev2 g c').foldl (bd g) c).strs=c.strs/\((ev2 g c').foldl (bd g) c).old=c.old:=by
 unfold ev2
 split
 ·exact⟨rfl,rfl⟩
 ·exact⟨rfl,rfl⟩
theorem ev2_same{g:Cfg}{c c':aT}(h1:c'.credit=c.credit)(h2:readK c'.strs=readK c.strs):ev2 g c'=ev2 g c:=by
 unfold ev2
 rw[h1,h2]
theorem evsK_ok{g:Cfg}(hg:bN g){Z:Int}{c:aT}(h:KInv g Z c)(hZ:Z<=500000000)(hl:c.strs.length<=500000000){i:Nat}{k:KS}(hk:c.strs[i]? =some k){most:Int}(hm:0<=most):
  okEs g (dj c i k most) (evsK g c i k most)/\KInv g Z (gotsK g c i k most)/\(gotsK g c i k most).strs.length<=c.strs.length+1/\(gotsK g c i k most).old=c.old:=by
 have hT:=readT_inv h hk hm
 have hk':(dj c i k most).strs[i]? =some (bO k most):=List.getElem?_set_self (List.getElem?_eq_some_iff.1 hk).1
 have o1:=ev1_ok hg hT hZ hk'
 have i1:=hears_inv hg _ hT o1
 obtain⟨r1,r2,r3,r4⟩:=ev1_read (g:=g) hk'
 have o2:=ev2_ok hg i1 hZ
 rw[ev2_same r2 r1]at o2
 have i2:=hears_inv hg _ i1 o2
 have hlen:((ev2 g (dj c i k most)).foldl (bd g) ((ev1 g i (bO k most)).foldl (bd g) (dj c i k most))).strs.length=c.strs.length:=by
  rw[ev2_len.1,r3]
  simp[dj]
 have o3:okEs g ((ev2 g (dj c i k most)).foldl (bd g) ((ev1 g i (bO k most)).foldl (bd g) (dj c i k most))) (ev3 (!k.done&&(bO k most).done) c):=by
  unfold ev3
  split
  ·exact⟨⟨by rw[hlen],by omega⟩,trivial⟩
  ·trivial
 have hall:okEs g (dj c i k most) (evsK g c i k most):=by
  unfold evsK
  refine okEs_append (okEs_append o1 o2) ?_
  rw[List.foldl_append]
  exact o3
 refine⟨hall,hears_inv hg _ hT hall,?_,?_⟩
 ·show((evsK g c i k most).foldl (bd g) (dj c i k most)).strs.length<=_
  unfold evsK
  rw[List.foldl_append,List.foldl_append]
  unfold ev3
  split
  ·simp only[List.foldl_cons,List.foldl_nil,bd,List.length_append,List.length_singleton]
   exact Nat.le_of_eq (congrArg (· + 1) hlen)
  ·simp only[List.foldl_nil]
   exact Nat.le_trans (Nat.le_of_eq hlen) (Nat.le_succ _)
 ·show((evsK g c i k most).foldl (bd g) (dj c i k most)).old=_
  unfold evsK
  rw[List.foldl_append,List.foldl_append]
  have e:((ev2 g (dj c i k most)).foldl (bd g) ((ev1 g i (bO k most)).foldl (bd g) (dj c i k most))).old=c.old:=by rw[ev2_len.2,r4];rfl
  unfold ev3
  split
  ·simp only[List.foldl_cons,List.foldl_nil,bd]
   exact e
  ·exact e
theorem news_K(c:aT)(got sent waits:Int)(f:List Int)(o:List (Int×List Int)):bu (bp c got sent waits) f=bp c got (sent+(cd 300 f).length) waits/\cf (bp c got sent waits) f o=o++[(1,cd 300 f)]:=by
 have h:fD (bp c got sent waits) (cd (bp c got sent waits).cid f).length=true:=by simp[fD,bp]
 unfold bu cf
 rw[if_pos h,if_pos h]
 exact⟨rfl,rfl⟩
theorem letters_take(st fr:Int){n m:Nat}(h:m<=n):(aP st fr n).take m=aP st fr m:=by
 apply List.ext_getElem?
 intro i
 rw[List.getElem?_take,fO,fO]
 by_cases hi:i<m
 ·rw[if_pos hi,if_pos (by omega),if_pos hi]
 ·rw[if_neg hi,if_neg hi]
theorem letters_drop(st fr:Int){n m:Nat}:(aP st fr n).drop m=aP st (fr+m) (n-m):=by
 apply List.ext_getElem?
 intro i
 rw[List.getElem?_drop,fO,fO]
 by_cases hi:i<n-m
 ·rw[if_pos (by omega),if_pos hi,show fr+((m+i:Nat):Int)=fr+(m:Int)+(i:Int) by omega]
 ·rw[if_neg (by omega),if_neg hi]
theorem take_K{g:Cfg}{i:Nat}{k:KS}(h:KsOk g k){most:Int}(hm:0<=most):dp (bZ i k) most=(dt k most).toNat:=by
 have:=h.read
 unfold dp dt
 simp only[bZ]
 rw[leadS_all (fX _ _ _),bH]
 omega
theorem readX_K{g:Cfg}{i:Nat}{k:KS}(h:KsOk g k){most:Int}(hm:0<=most):aK (bZ i k) most=(⟨aP i k.read (dt k most).toNat,decide (k.read+dt k most=k.fin),false⟩,bZ i (bO k most)):=by
 have hr:=h.read
 have ht:=tookK_range h hm
 have e:(((dt k most).toNat:Nat):Int)=dt k most:=by omega
 unfold aK
 rw[take_K h hm]
 simp only[bZ,Bool.not_false,Bool.true_and,Bool.or_false,e]
 rw[letters_take i k.read (by omega),letters_drop,e]
 unfold bO
 simp only
 rw[show(k.high-(k.read+dt k most)).toNat=(k.high-k.read).toNat-(dt k most).toNat by omega]
theorem piece_K{g:Cfg}(hg:bN g){Z:Int}{c:aT}(hI:KInv g Z c)(hZ:Z<=500000000){i:Nat}{k:KS}(hk:c.strs[i]? =some k)(c0:aT)(h0:c = {c0 with strs:=c0.strs.set i k})(got sent waits:Int):
  ∃sent',sent'=sent+fm (ev1 g i k)/\fj g (bp c0 got sent waits) i (bZ i k)=(bp ((ev1 g i k).foldl (bd g) c) got sent' waits,ef (ev1 g i k)):=by
 have h2:=hg.c2
 have h1:=hg.c1
 have hko:=hI.str k (List.mem_of_getElem? hk)
 have hs:k.high<=(c.strs.map fun k:KS=>k.high).sum:=sum_mem (fun k:KS=>k.high) (l:=c.strs) (fun x hx=>by have:=(hI.str x hx).read;omega) (List.mem_of_getElem? hk)
 have hh:=hI.high
 unfold bE at hh
 have hr:=hko.read
 have hp:=hko.piece
 have hc0:{bp c0 got sent waits with streams:=(bp c0 got sent waits).streams.set i (bZ i k)}=bp c got sent waits:=by
  rw[h0]
  simp only[bp,strsK_set]
 unfold fj ev1
 have em:fS g (bZ i k)=decide (k.fin<0/\k.piece<k.read+g.c2/2):=by
  unfold fS
  rw[decide_eq_true (p:=(bZ i k).credit<1073741823) (show k.piece<1073741823 by omega),Bool.and_true]
  show(decide (k.fin<0)&&decide (k.piece<k.read+g.c2/2))=_
  rw[Bool.eq_iff_iff]
  simp only[Bool.and_eq_true,decide_eq_true_eq]
 rw[em]
 by_cases hc:k.fin<0/\k.piece<k.read+g.c2/2
 ·rw[decide_eq_true hc,if_pos rfl,if_pos hc]
  have er:bT (bZ i k).read g.c2=k.read+g.c2:=by
   show bT k.read g.c2=_
   unfold bT
   rw[if_neg (by omega)]
  have e1:{bp c0 got sent waits with streams:=(bp c0 got sent waits).streams.set i {bZ i k with credit:=k.read+g.c2}}=bp (bd g c (Sum.inl (i,(k.read+g.c2)))) got sent waits:=by
   rw[hear_piece hk,h0]
   simp only[bp,strsK_set,List.set_set]
   rfl
  simp only[er,e1,(news_K _ _ _ _ _ []).1,(news_K _ _ _ _ _ []).2]
  exact⟨_,by simp[fm,evL],rfl⟩
 ·rw[decide_eq_false hc,if_neg hc,if_neg (by decide)]
  rw[hc0]
  exact⟨sent,by simp[fm],rfl⟩
theorem data_K{g:Cfg}(hg:bN g){Z:Int}{c:aT}(hI:KInv g Z c)(hZ:Z<=500000000)(got sent waits:Int)(o:List (Int×List Int)):
  ∃sent',sent'=sent+fm (ev2 g c)/\dataC g (bp c got sent waits,o)=(bp ((ev2 g c).foldl (bd g) c) got sent' waits,o++ef (ev2 g c)):=by
 have h1:=hg.c1
 have o2:=ev2_ok hg hI hZ
 have hlow:=hI.low
 have hfol:=hI.fol
 unfold dataC
 simp only
 rw[show(bp c got sent waits).credit=c.credit from rfl,show(bp c got sent waits).streams=du c.strs from rfl,readAll_K]
 unfold ev2 at o2⊢
 by_cases hc:c.credit<readK c.strs+g.c1/2
 ·rw[if_pos hc]at o2⊢
  have hm:=o2.1.2.2.1
  have hlt:=o2.1.1
  rw[decide_eq_true hc,decide_eq_true (show c.credit<1073741823 by omega),if_pos (by decide)]
  have er:bT (readK c.strs) g.c1=readK c.strs+g.c1:=by
   unfold bT
   rw[if_neg (by omega)]
  rw[er]
  show ∃sent',sent'=sent+fm [Sum.inr (Sum.inl (readK c.strs+g.c1))]/\(bu (bp (bd g c (Sum.inr (Sum.inl (readK c.strs+g.c1)))) got sent waits) ([16]++aw (readK c.strs+g.c1)),cf (bp (bd g c (Sum.inr (Sum.inl (readK c.strs+g.c1)))) got sent waits) ([16]++aw (readK c.strs+g.c1)) o)=_
  rw[(news_K _ _ _ _ _ o).1,(news_K _ _ _ _ _ o).2]
  exact⟨_,by simp[fm,evL],rfl⟩
 ·rw[if_neg hc,decide_eq_false hc,Bool.false_and,if_neg (by decide)]
  exact⟨sent,by simp[fm],by simp[ef]⟩
theorem limit_K{g:Cfg}{c:aT}(hl:c.strs.length<=500000000)(on:Bool)(got sent waits:Int)(o:List (Int×List Int)):
  ∃sent',sent'=sent+fm (ev3 on c)/\eU g on (bp c got sent waits,o)=(bp ((ev3 on c).foldl (bd g) c) got sent' waits,o++ef (ev3 on c)):=by
 unfold eU
 simp only
 rw[show(bp c got sent waits).streams=du c.strs from rfl,strsK_len,decide_eq_true (show c.strs.length<1073741823 by omega),Bool.and_true]
 unfold ev3
 cases on with
 |false=>exact⟨sent,by simp[fm],by simp[ef]⟩
 |true=>
  simp only[if_true]
  have e1:{bp c got sent waits with streams:=growS g.c2 (du c.strs) (c.strs.length+1)}=bp (bd g c (Sum.inr (Sum.inr ((c.strs.length:Int)+1)))) got sent waits:=by
   have e:=growS_one g.c2 (du c.strs)
   rw[strsK_len]at e
   rw[e]
   simp only[bp,bd,strsK_snoc,strK_new]
  have e2:((growS g.c2 (du c.strs) (c.strs.length+1)).length:Int)=(c.strs.length:Int)+1:=by
   have e:=growS_one g.c2 (du c.strs)
   rw[strsK_len]at e
   rw[e]
   simp[strsK_len]
  simp only[e1,e2,(news_K _ _ _ _ _ o).1,(news_K _ _ _ _ _ o).2]
  exact⟨_,by simp[fm,evL],rfl⟩
theorem read_client{s:ax}{j:Nat}{c:aT}{got sent waits:Int}(hg:bN s.c)(h:AtK s j (bp c got sent waits)){Z:Int}(hI:KInv s.c Z c)(hZ:Z<=500000000)(hl:c.strs.length<=500000000){i:Nat}{k:KS}(hk:c.strs[i]? =some k){most:Int}(hm:0<=most):
  ∃sent',sent'=sent+fm (evsK s.c c i k most)/\cL s 300 i most=(0,⟨aP i k.read (dt k most).toNat,decide (k.read+dt k most=k.fin),false⟩,{s with conns:=s.conns.set j (bp (gotsK s.c c i k most) got sent' waits)},ef (evsK s.c c i k most)):=by
 have hko:=hI.str k (List.mem_of_getElem? hk)
 have hi:=(List.getElem?_eq_some_iff.1 hk).1
 have hx:(bp c got sent waits).streams[(i:Int).toNat]? =some (bZ i k):=by
  show(du c.strs)[(i:Int).toNat]? =_
  rw[Int.toNat_natCast,strsK_get,hk]
  rfl
 have hT:=readT_inv hI hk hm
 have hk':(dj c i k most).strs[i]? =some (bO k most):=List.getElem?_set_self hi
 have o1:=ev1_ok hg hT hZ hk'
 have i1:=hears_inv hg _ hT o1
 obtain⟨r1,r2,r3,r4⟩:=ev1_read (g:=s.c) hk'
 obtain⟨s1,n1,e1⟩:=piece_K hg hT hZ hk' c rfl got sent waits
 obtain⟨s2,n2,e2⟩:=data_K hg i1 hZ got s1 waits (ef (ev1 s.c i (bO k most)))
 rw[ev2_same r2 r1]at e2 n2
 have hlen:((ev2 s.c (dj c i k most)).foldl (bd s.c) ((ev1 s.c i (bO k most)).foldl (bd s.c) (dj c i k most))).strs.length=c.strs.length:=by
  rw[ev2_len.1,r3]
  simp[dj]
 obtain⟨s3,n3,e3⟩:=limit_K (g:=s.c) (c:=(ev2 s.c (dj c i k most)).foldl (bd s.c) ((ev1 s.c i (bO k most)).foldl (bd s.c) (dj c i k most))) (by omega) (!k.done&&(bO k most).done) got s2 waits (ef (ev1 s.c i (bO k most))++ef (ev2 s.c (dj c i k most)))
 have hev3:ev3 (!k.done&&(bO k most).done) ((ev2 s.c (dj c i k most)).foldl (bd s.c) ((ev1 s.c i (bO k most)).foldl (bd s.c) (dj c i k most)))=ev3 (!k.done&&(bO k most).done) c:=by
  unfold ev3
  rw[hlen]
 rw[hev3]at e3 n3
 have hsum:s3=sent+fm (evsK s.c c i k most):=by
  rw[n3,n2,n1]
  unfold fm evsK
  simp only[List.map_append,List.sum_append]
  unfold dj
  omega
 refine⟨s3,hsum,?_⟩
 unfold cL
 rw[h.find]
 simp only[h.at_]
 rw[if_neg (by simp[bp]),if_neg (by rw[show(bp c got sent waits).streams=du c.strs from rfl,strsK_len];omega),hx]
 have hC:fC s.c (bp c got sent waits) i (bZ i k) most=(bp (gotsK s.c c i k most) got s3 waits,ef (evsK s.c c i k most)):=by
  unfold fC
  rw[readX_K hko hm]
  simp only[Bool.or_false]
  rw[e1,e2,show(bZ i k).done=k.done from rfl,show decide (k.read+dt k most=k.fin)=(bO k most).done from rfl,e3]
  unfold gotsK evsK
  rw[List.foldl_append,List.foldl_append]
  simp only[ef,List.map_append]
  rfl
 simp only[Int.toNat_natCast]
 rw[hC,readX_K hko hm]
end Go.Proofs.YthmdjhlhodpbhaaGreatDoor
namespace Go.Proofs.YthmdjhlhodpbhaaGreatDoor
open Go.RowKit
structure RowsAt(B:Nat)(w:World)(vs:List Value)(ts:List (TypeId×List Value)):Prop where
 len:vs.length=ts.length
 own:∀(i:Nat) (v:Value) (t:TypeId×List Value),vs[i]? =some v->ts[i]? =some t->w.ownsRow B t.1 1 v t.2.length t.2
 ap:∀(i j:Nat) (v u:Value) (g:Nat),i≠j->vs[i]? =some v->vs[j]? =some u->v.ownBlock=some g->u.ownBlock≠some g
theorem RowsAt.chg{F:Nat->Prop}{B:Nat}{w w':World}{vs:List Value}{ts:List (TypeId×List Value)}(h:RowsAt B w vs ts)(hc:Chg F w w')(hF:∀(i:Nat) (v:Value) (g:Nat),vs[i]? =some v->v.ownBlock=some g->¬F g):RowsAt B w' vs ts:=
 ⟨h.len,fun i v t hv ht=>bW (h.own i v t hv ht) hc fun g hg=>hF i v g hv hg,h.ap⟩
theorem RowsAt.below{B:Nat}{w w':World}{vs:List Value}{ts:List (TypeId×List Value)}(h:RowsAt B w vs ts)(hb:Below w.heap.size w w'):RowsAt B w' vs ts:=h.chg (F:=fun _=>False) (Chg.of_below hb) (fun _ _ _ _ _ h=>h)
theorem RowsAt.row{B:Nat}{w:World}{vs:List Value}{ts:List (TypeId×List Value)}(h:RowsAt B w vs ts)(i:Nat){v:Value}(hv:vs[i]? =some v):∃t,ts[i]? =some t/\w.ownsRow B t.1 1 v t.2.length t.2:=by
 have hi:i<ts.length:=by rw[<-h.len];exact(List.getElem?_eq_some_iff.1 hv).1
 exact⟨_,List.getElem?_eq_getElem hi,h.own i v _ hv (List.getElem?_eq_getElem hi)⟩
theorem RowsAt.lies{B:Nat}{w:World}{vs:List Value}{ts:List (TypeId×List Value)}(h:RowsAt B w vs ts){i:Nat}{v:Value}{g:Nat}(hv:vs[i]? =some v)(hg:v.ownBlock=some g):B<=g/\g<w.heap.size/\∃t cur,ts[i]? =some t/\w.heap[g]? =some (.cells cur t.1 (0,0)):=by
 obtain⟨t,ht,ho⟩:=h.row i hv
 obtain⟨c,e⟩:=own_block ho hg
 exact⟨(own_ltS ho hg).2,(own_ltS ho hg).1,t,c,ht,e⟩
theorem RowsAt.push{B:Nat}{w w1 w2:World}{vs:List Value}{ts:List (TypeId×List Value)}(h:RowsAt B w vs ts){i:Nat}{v v':Value}{t:TypeId}{l:List Value}{u:Value}(hv:vs[i]? =some v)(hb:Below w.heap.size w w1)(hg:w1.grownBy w2 v.ownBlock)(hn:Nigh w1 v v')(ho:w2.ownsRow B t 1 v' (l.length+1) (l++[u])):RowsAt B w2 (vs.set i v') (ts.set i (t,l++[u])):=by
 have h1:=h.below hb
 have hi:=(List.getElem?_eq_some_iff.1 hv).1
 have hfar:∀(j:Nat) (x:Value) (g:Nat),i≠j->vs[j]? =some x->x.ownBlock=some g->v'.ownBlock≠some g:=by
  intro j x g hij hx hxg e
  rcases hn with hn|hn
  ·exact h1.ap i j v x g hij hv hx (by rw[<-hn];exact e) hxg
  ·have:=hn g e
   have:=(h.lies hx hxg).2.1
   have:=hb.size
   omega
 refine⟨by simp[h.len],fun j x t' hx ht'=>?_,fun j k x y g hjk hx hy hxg e=>?_⟩
 ·by_cases hij:i=j
  ·subst hij
   rw[List.getElem?_set_self hi]at hx
   rw[List.getElem?_set_self (by rw[<-h.len];exact hi)]at ht'
   obtain rfl:=Option.some.inj hx
   obtain rfl:=Option.some.inj ht'
   simp only[List.length_append,List.length_singleton]
   exact ho
  ·rw[List.getElem?_set_ne hij]at hx ht'
   exact bW (h1.own j x t' hx ht') (grown_chg hg) fun g hxg e=>h1.ap i j v x g hij hv hx e hxg
 ·by_cases e1:i=j
  ·subst e1
   rw[List.getElem?_set_self hi]at hx
   rw[List.getElem?_set_ne hjk]at hy
   obtain rfl:=Option.some.inj hx
   exact hfar k y g hjk hy e hxg
  ·rw[List.getElem?_set_ne e1]at hx
   by_cases e2:i=k
   ·subst e2
    rw[List.getElem?_set_self hi]at hy
    obtain rfl:=Option.some.inj hy
    exact hfar j x g e1 hx hxg e
   ·rw[List.getElem?_set_ne e2]at hy
    exact h1.ap j k x y g hjk hx hy hxg e
theorem RowsAt.put{B:Nat}{w:World}{vs:List Value}{ts:List (TypeId×List Value)}(h:RowsAt B w vs ts){i:Nat}{gb n cap:Nat}{t:TypeId×List Value}(hv:vs[i]? =some (.slice (some ⟨gb,0,none⟩) n cap))(ht:ts[i]? =some t)(q:Nat)(u:Value):RowsAt B (w.setCell ⟨gb,q,none⟩ u) vs (ts.set i (t.1,t.2.set q u)):=by
 have hi:=(List.getElem?_eq_some_iff.1 hv).1
 refine⟨by simp[h.len],fun j x t' hx ht'=>?_,h.ap⟩
 by_cases hij:i=j
 ·subst hij
  rw[List.getElem?_set_self (by rw[<-h.len];exact hi)]at ht'
  obtain rfl:=Option.some.inj ht'
  rw[hv]at hx
  obtain rfl:=Option.some.inj hx
  have ho:=h.own i _ t hv ht
  obtain⟨ao,cap',e⟩:=aF ho
  simp only[Value.slice.injEq]at e
  obtain⟨_,rfl,_⟩:=e
  simp only[List.length_set]
  exact own_set ho q u
 ·rw[List.getElem?_set_ne hij]at ht'
  exact bW (h.own j x t' hx ht') (eR w gb q u) fun g hg e=>h.ap i j _ x g hij hv hx (by rw[e];rfl) hg
def cliC(sb:Nat)(g:Cfg)(ok:Bool)(credit lim packet:Int)(v0 v1 v2 v3 v4 v5 v6:Value):Array Value:=#[.pointer (some ⟨sb,0,none⟩),.int .i64 g.c0,.int .i64 g.c1,.int .i64 g.c2,.int .i64 g.c3,.int .i64 g.c4,.int .i64 g.c5,.int .i64 g.c6,.int .i64 g.c7,.int .i64 g.c8,.int .i64 g.c9,.bool ok,.int .i64 credit,v0,.int .i64 lim,v1,v2,v3,v4,v5,.int .i64 packet,v6]
def cliT(e:TypeId):Prop:=e=3\/e=4\/e=44
structure ClB(B:Nat)(w:World)(xb sb:Nat)(g:Cfg)(ok:Bool)(credit lim packet:Int)(v0 v1 v2 v3 v4 v5 v6:Value)(ts:List (TypeId×List Value)):Prop where
 blk:w.heap[xb]? =some (.cells (cliC sb g ok credit lim packet v0 v1 v2 v3 v4 v5 v6) 42 (0,0))
 rows:RowsAt B w [v0,v1,v2,v3,v4,v5,v6] ts
 ty:∀t∈ts,cliT t.1
 low:B<=xb
def cg(xb:Nat)(v0 v1 v2 v3 v4 v5 v6:Value)(k:Nat):Prop:=k=xb\/∃v∈[v0,v1,v2,v3,v4,v5,v6],v.ownBlock=some k
theorem ClB.chg{F:Nat->Prop}{B:Nat}{w w':World}{xb sb:Nat}{g:Cfg}{ok:Bool}{credit lim packet:Int}{v0 v1 v2 v3 v4 v5 v6:Value}{ts:List (TypeId×List Value)}(h:ClB B w xb sb g ok credit lim packet v0 v1 v2 v3 v4 v5 v6 ts)(hc:Chg F w w')(hF:∀k,cg xb v0 v1 v2 v3 v4 v5 v6 k->¬F k):ClB B w' xb sb g ok credit lim packet v0 v1 v2 v3 v4 v5 v6 ts:=
 ⟨by rw[hc.block xb (Array.getElem?_eq_some_iff.1 h.blk).1 (hF xb (Or.inl rfl))];exact h.blk,h.rows.chg hc (fun i v gg hv hg=>hF gg (Or.inr ⟨v,List.mem_of_getElem? hv,hg⟩)),h.ty,h.low⟩
theorem ClB.below{B:Nat}{w w':World}{xb sb:Nat}{g:Cfg}{ok:Bool}{credit lim packet:Int}{v0 v1 v2 v3 v4 v5 v6:Value}{ts:List (TypeId×List Value)}(h:ClB B w xb sb g ok credit lim packet v0 v1 v2 v3 v4 v5 v6 ts)(hb:Below w.heap.size w w'):ClB B w' xb sb g ok credit lim packet v0 v1 v2 v3 v4 v5 v6 ts:=h.chg (F:=fun _=>False) (Chg.of_below hb) (fun _ _ h=>h)
theorem ClB.types{B:Nat}{w:World}{xb sb:Nat}{g:Cfg}{ok:Bool}{credit lim packet:Int}{v0 v1 v2 v3 v4 v5 v6:Value}{ts:List (TypeId×List Value)}(h:ClB B w xb sb g ok credit lim packet v0 v1 v2 v3 v4 v5 v6 ts){k:Nat}(hk:cg xb v0 v1 v2 v3 v4 v5 v6 k):B<=k/\k<w.heap.size/\∃cur e,w.heap[k]? =some (.cells cur e (0,0))/\(e=42\/cliT e):=by
 rcases hk with rfl|⟨v,hv,hg⟩
 ·exact⟨h.low,(Array.getElem?_eq_some_iff.1 h.blk).1,_,_,h.blk,Or.inl rfl⟩
 ·obtain⟨i,hi,hvi⟩:=List.getElem_of_mem hv
  obtain⟨h1,h2,t,cur,ht,e⟩:=h.rows.lies (i:=i) (by rw[List.getElem?_eq_getElem hi,hvi]) hg
  exact⟨h1,h2,cur,t.1,e,Or.inr (h.ty t (List.mem_of_getElem? ht))⟩
theorem ClB.xb_not{B:Nat}{w:World}{xb sb:Nat}{g:Cfg}{ok:Bool}{credit lim packet:Int}{v0 v1 v2 v3 v4 v5 v6:Value}{ts:List (TypeId×List Value)}(h:ClB B w xb sb g ok credit lim packet v0 v1 v2 v3 v4 v5 v6 ts){v:Value}(hv:v∈[v0,v1,v2,v3,v4,v5,v6]):v.ownBlock≠some xb:=by
 intro hg
 obtain⟨i,hi,hvi⟩:=List.getElem_of_mem hv
 obtain⟨_,_,t,cur,ht,e⟩:=h.rows.lies (i:=i) (by rw[List.getElem?_eq_getElem hi,hvi]) hg
 have hb:=h.blk
 rw[e]at hb
 simp only[Option.some.injEq,Obj.cells.injEq]at hb
 have:=h.ty t (List.mem_of_getElem? ht)
 unfold cliT at this
 rw[hb.2.1]at this
 simp at this
theorem ClB.scal{B:Nat}{w:World}{xb sb:Nat}{g:Cfg}{ok ok':Bool}{credit lim packet credit' lim' packet':Int}{v0 v1 v2 v3 v4 v5 v6:Value}{ts:List (TypeId×List Value)}(h:ClB B w xb sb g ok credit lim packet v0 v1 v2 v3 v4 v5 v6 ts)(q:Nat)(u:Value)(he:(cliC sb g ok credit lim packet v0 v1 v2 v3 v4 v5 v6).setIfInBounds q u=cliC sb g ok' credit' lim' packet' v0 v1 v2 v3 v4 v5 v6):ClB B (w.setCell ⟨xb,q,none⟩ u) xb sb g ok' credit' lim' packet' v0 v1 v2 v3 v4 v5 v6 ts:=by
 refine⟨by rw[<-he];exact ak h.blk q u,h.rows.chg (eR w xb q u) (fun i v gg hv hg e=>h.xb_not (List.mem_of_getElem? hv) (by rw[hg,e])),h.ty,h.low⟩
theorem eS{B:Nat}{w:World}{xb sb:Nat}{g:Cfg}{ok:Bool}{credit lim packet:Int}{v0 v1 v2 v3 v4 v5 v6:Value}{ts:List (TypeId×List Value)}(h:ClB B w xb sb g ok credit lim packet v0 v1 v2 v3 v4 v5 v6 ts)(q:Nat):w.frozen? ⟨xb,q,none⟩= false:=frozen_of_row w xb q _ _ h.blk
def KI(l:List Int):TypeId×List Value:=(3,fL l)
def KB(l:List Bool):TypeId×List Value:=(4,l.map fun b=>.bool b)
def bK(l:List KS)(os:List Value):List (TypeId×List Value):=[KI (l.map (·.piece)),KI (l.map (·.high)),KI (l.map (·.fin)),KB (l.map fun _=>false),KI (l.map (·.read)),KB (l.map (·.done)),(44,os)]
theorem rowsK_ty(l:List KS)(os:List Value):∀t∈bK l os,cliT t.1:=by
 intro t ht
 simp only[bK,List.mem_cons,List.not_mem_nil,or_false]at ht
 rcases ht with rfl|rfl|rfl|rfl|rfl|rfl|rfl<;>simp[KI,KB,cliT]
structure ClAt(B:Nat)(w:World)(xb sb:Nat)(g:Cfg)(c:aT)(v0 v1 v2 v3 v4 v5 v6:Value):Prop where
 ex:∃os,ClB B w xb sb g true c.credit c.strs.length c.old.length v0 v1 v2 v3 v4 v5 v6 (bK c.strs os)/\os.length=c.old.length/\∀(q:Nat) (v:Value) (fr:List Int),os[q]? =some v->c.old[q]? =some fr->RdB w v (bL 300 q fr)/\fr.length<=1000
theorem ClAt.below{B:Nat}{w w':World}{xb sb:Nat}{g:Cfg}{c:aT}{v0 v1 v2 v3 v4 v5 v6:Value}(h:ClAt B w xb sb g c v0 v1 v2 v3 v4 v5 v6)(hb:Below w.heap.size w w'):ClAt B w' xb sb g c v0 v1 v2 v3 v4 v5 v6:=by
 obtain⟨os,h1,h2,h3⟩:=h.ex
 exact⟨os,h1.below hb,h2,fun q v fr hv hf=>⟨(h3 q v fr hv hf).1.below hb,(h3 q v fr hv hf).2⟩⟩
theorem sum_take{l:List Int}(h:∀x∈l,0<=x)(k:Nat):0<=(l.take k).sum/\(l.take k).sum<=l.sum:=by
 induction l generalizing k with
 |nil=>simp
 |cons a t ih=>
  have h0:=h a (List.mem_cons_self ..)
  have ht:=ih (fun x hx=>h x (List.mem_cons_of_mem _ hx))
  cases k with
  |zero=>
   have:=ht t.length
   rw[List.take_length]at this
   simp only[List.take_zero,List.sum_nil,List.sum_cons]
   omega
  |succ k=>
   have:=ht k
   simp only[List.take_succ_cons,List.sum_cons]
   omega
theorem sum_take_succ(l:List Int)(k:Nat)(h:k<l.length):(l.take (k+1)).sum=(l.take k).sum+l.getD k 0:=by
 rw[List.take_succ_eq_append_getElem h,List.sum_append]
 simp[List.getD_eq_getElem?_getD,List.getElem?_eq_getElem h]
theorem getD_mem{l:List Int}{k:Nat}(h:k<l.length):l.getD k 0∈l:=by
 rw[List.getD_eq_getElem?_getD,List.getElem?_eq_getElem h]
 exact List.getElem_mem h
theorem ClB.int{B:Nat}{w:World}{xb sb:Nat}{g:Cfg}{ok:Bool}{credit lim packet:Int}{v0 v1 v2 v3 v4 v5 v6:Value}{ts:List (TypeId×List Value)}(h:ClB B w xb sb g ok credit lim packet v0 v1 v2 v3 v4 v5 v6 ts)(i:Nat){v:Value}{l:List Int}(hv:[v0,v1,v2,v3,v4,v5,v6][i]? =some v)(ht:ts[i]? =some (KI l)):(∃ao cap,v=.slice ao l.length cap)/\∀k,k<l.length->∃b cap,v=.slice (some ⟨b,0,none⟩) l.length cap/\w.cell? ⟨b,k,none⟩= some (.int .i64 (l.getD k 0))/\∀q,w.frozen? ⟨b,q,none⟩= false:=by
 have ho:=h.rows.own i v (KI l) hv ht
 simp only[KI,I64L_len]at ho
 refine⟨aF ho,fun k hk=>?_⟩
 obtain⟨b,cap,rfl,_,_,_⟩:=cV ho (by omega)
 exact⟨b,cap,rfl,own_int ho k hk,own_frozen ho⟩
theorem ksent_any{B:Nat}{w:World}{xb sb:Nat}{g:Cfg}{ok:Bool}{credit lim packet:Int}{v0 v1 v2 v3 v4 v5 v6:Value}{ts:List (TypeId×List Value)}(h:ClB B w xb sb g ok credit lim packet v0 v1 v2 v3 v4 v5 v6 ts){l:List Int}(ht:ts[1]? =some (KI l))(hp:∀x∈l,0<=x)(hs:l.sum<=1000000000000)(hl:l.length<=1000000000):
  Calls Tryz.prog 68 #[.pointer (some ⟨xb,0,none⟩)] w fun e w'=>e=.returned (.int .i64 l.sum)/\w=w':=by
 have x15:w.cell? ⟨xb,15,none⟩= some v1:=ai h.blk 15
 obtain⟨⟨ao,cap,rfl⟩,hc⟩:=h.int 1 (v:=v1) rfl ht
 have HC:=ab hc
 have HP:=ab hp
 have HS:=ab (fun k=>sum_take hp k)
 have HU:=ab (sum_take_succ l)
 clear hc hp h ht
 generalize hn:l.length=n at *
 have HN:=ab hn
 clear hn
 go_enter Tryz.func68,Tryz.ntmps68
 go_wp2_with fail
 go_loop [3,4] (fun s i=>∃k:Nat,k<=n/\i=.int .i64 k/\s=.int .i64 (l.take k).sum) (fun _ i=>n-(intOf i).toNat)
 case atStart=>exact⟨0,Nat.zero_le _,rfl,by simp⟩
 case round=>
  obtain⟨k,hk,rfl,rfl⟩:=hrel
  have hr:=HS.out k
  by_cases hlt:k<n
  ·have hlt':(k:Int)<(n:Int):=by omega
   obtain⟨b,cap',e,hcell,_⟩:=HC.out k hlt
   simp only[Value.slice.injEq,true_and]at e
   obtain⟨rfl,rfl⟩:=e
   have hx:=HP.out _ (getD_mem (l:=l) (k:=k) (by rw[HN.out];exact hlt))
   have hsu:=HU.out k hlt
   have hr2:=HS.out (k+1)
   rw[hsu]at hr2
   have HSu:=ab hsu
   clear hsu
   generalize l.getD k 0=x at *
   generalize (l.take k).sum=s at *
   generalize l.sum=S at *
   go_wp2_with fail
   go_round
   case rel=>exact⟨k+1,by omega,by go_num,by rw[HSu.out]⟩
   case measure=>simp[intOf];omega
  ·obtain rfl:k=n:=by omega
   have hlt':¬(k:Int)<(k:Int):=by omega
   have he:(l.take k).sum=l.sum:=by rw[<-HN.out,List.take_length]
   rw[he]
   go_wp2_with fail
   go_ret
   exact⟨rfl,rfl⟩
end Go.Proofs.YthmdjhlhodpbhaaGreatDoor
