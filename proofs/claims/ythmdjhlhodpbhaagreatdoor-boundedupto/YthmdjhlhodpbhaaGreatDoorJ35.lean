/- Bounded, 35 -/
import Derived.Test.YthmdjhlhodpbhaaGreatDoorJ34
set_option maxHeartbeats 16000000
set_option maxRecDepth 8000
namespace Go.Proofs.YthmdjhlhodpbhaaGreatDoor
open Go.RowKit
theorem comesC_is{c c':aq}{n:Int}(h:dB c n=some c'):c' = {c with mark:=c'.mark,runs:=c'.runs}:=by
 unfold dB at h
 obtain⟨r,_,rfl⟩:=Option.map_eq_some_iff.1 h
 rfl
theorem Moved.pre{s s':ay}{a:Int}{x:List (Int×List Int)}{n:Int}{P Q:Prop}(h:Moved s s' a x n P)(hq:P->Q):Moved s s' a x n Q:=⟨h.fair,h.cfg,h.dst,h.oth,fun hn=>h.own fun p=>hn (hq p)⟩
theorem data_moved{M L size:Int}{s:ay}{cid addr num:Int}{b:List Int}{N:Nat}(h:SrvInv M L s)(hF:FairS s)(hnum:0<=num/\num<=1073741823)(hs:0<=size)(hb:Bytes b):
  Moved s (eR s addr cid num size b N []).1 addr (eR s addr cid num size b N []).2 size (NumIn b (bA s.c.c9 addr cid)):=by
 unfold eR
 rcases ea (l:=s.conns) (cid:=cid) with⟨e,_⟩|⟨k,c,e,hk,hcid⟩
 ·rw[e];exact Moved.stay hF hs
 ·rw[e]
  simp only
  rw[hk]
  simp only
  have hc:=List.mem_of_getElem? hk
  have hok:=h.ok c hc
  have hwa:=h.waits c hc
  have hg:=hok.got
  have hse:=hok.sent
  have hla:=h.last
  have hfc:=hF.con c hc
  have h1:ConOk (M+size+100) {c with got:=c.got+size}:=⟨hok.cid,hok.addr,by simp only;omega,by simp only;omega,hok.heard,hok.runs,hok.credit,hok.slen,hok.str⟩
  have h2:ConInv s.c {c with got:=c.got+size}:=⟨(h.inv c hc).str,(h.inv c hc).high,(h.inv c hc).runs,(h.inv c hc).fol⟩
  split
  ·exact Moved.stay hF hs
  ·next ha=>
   have ha':c.addr=addr:=Classical.not_not.1 ha
   split
   ·refine Moved.set (c':={c with got:=c.got+size}) hF hk ha' ha' ⟨fun hp=>?_,hfc.lim,hfc.cre,hfc.crx⟩ rfl rfl (fun o ho=>(by cases ho)) fun _ hp _=>⟨hp,?_⟩
    ·have:=hfc.few hp
     simp only
     omega
    ·simp only[lens,List.map_nil,List.sum_nil,gy]
     omega
   ·next c2 hc2=>
    obtain⟨q1,q2,q3,q4,q5,q6,q7⟩:=jO h1 h2 hnum hc2
    have q8:=comesC_is hc2
    have hs1:SrvInv (M+size+100) (L+1) {s with conns:=s.conns.set k {c2 with heard:=s.now}}:=by
     refine SrvInv.set (h.mono (by omega) (by omega)) hk ?_ ?_ q3 ?_ (Int.le_refl _) (by omega)
     ·exact⟨q1.cid,q1.addr,q1.got,q1.sent,h.now,q1.runs,q1.credit,q1.slen,q1.str⟩
     ·exact⟨q2.str,q2.high,q2.runs,q2.fol⟩
     ·simp only;rw[q4,q5];exact hwa
    have hm1:Moved s {s with conns:=s.conns.set k {c2 with heard:=s.now}} addr [] size False:=by
     refine Moved.set (c':={c2 with heard:=s.now}) hF hk ha' (q6.trans ha') ⟨fun hp=>?_,?_,?_,?_⟩ rfl rfl (fun o ho=>(by cases ho)) fun _ hp _=>⟨q5.trans hp,?_⟩
     ·have:=hfc.few (q5.symm.trans hp)
      simp only
      rw[q8]
      simp only
      omega
     ·simp only;rw[q8];exact hfc.lim
     ·simp only;rw[q8];exact hfc.cre
     ·simp only;rw[q8];exact hfc.crx
     ·simp only[lens,List.map_nil,List.sum_nil,gy]
      rw[q8]
      simp only
      omega
    obtain⟨x,hx,hm2⟩:=jl N [] hs1 hm1.fair (aC hk) (q6.trans ha') hb
    rw[hx]
    have:=hm1.then hm2 (R:=NumIn b (bA s.c.c9 addr cid)) (fun hr=>by
     rcases hr with hr|hr
     ·exact hr.elim
     ·rw[show({c2 with heard:=s.now}:aq).cid=cid from q3.trans hcid]at hr
      exact hr)
    rw[Int.add_zero]at this
    exact this
theorem again_moved{M L size:Int}{s:ay}{k:Nat}{c:aq}{addr:Int}{P:Prop}(_h:SrvInv M L s)(hF:FairS s)(hk:s.conns[k]? =some c)(hs:0<=size):Moved s (dN s k c addr size []).1 addr (dN s k c addr size []).2 size P:=by
 have hc:=List.mem_of_getElem? hk
 have hfc:=hF.con c hc
 unfold dN
 split
 ·exact Moved.stay hF hs
 ·next ha=>
  have ha':c.addr=addr:=Classical.not_not.1 ha
  have hf1:Fair s.c {c with got:=c.got+size,heard:=s.now}:=⟨fun hp=>by have:=hfc.few hp;simp only;omega,hfc.lim,hfc.cre,hfc.crx⟩
  simp only
  split
  ·next hpr=>
   refine Moved.set (c':={c with got:=c.got+size,heard:=s.now}) hF hk ha' ha' hf1 rfl rfl (fun o ho=>(by cases ho)) fun _ hp _=>?_
   rw[hp]at hpr
   cases hpr
  ·obtain⟨x,hx,hto⟩:=news_to (c:={c with got:=c.got+size,heard:=s.now}) (aI s.c {c with got:=c.got+size,heard:=s.now}) []
   have hn:=dr {c with got:=c.got+size,heard:=s.now} (aI s.c {c with got:=c.got+size,heard:=s.now})
   have hfn:=hf1.news (aI s.c {c with got:=c.got+size,heard:=s.now})
   refine Moved.set hF hk ha' (hn.2.2.2.trans ha') hfn rfl rfl (fun o ho=>?_) fun _ hp h3=>⟨hn.2.2.1.trans hp,?_⟩
   ·rw[hx]at ho
    exact⟨(hto o ho).1.trans ha',(hto o ho).2⟩
   ·obtain⟨y,hy,_,hl,h0⟩:=news_owe (c:={c with got:=c.got+size,heard:=s.now}) (aI s.c {c with got:=c.got+size,heard:=s.now}) hp (by simp only;omega) []
    rw[hy,List.nil_append]
    simp only
    have e:gy {c with got:=c.got+size,heard:=s.now}=gy c+3*size:=by simp only[gy];omega
    omega
theorem open_fair{s:ay}{cid addr size:Int}{ok:Bool}(h:cO s.c)(hs:0<=size):Fair s.c (aM s cid addr size ok):=by
 have h1:=h.c1
 have h3:=h.c3
 have hst:(aM s cid addr size ok).streams=List.replicate s.c.c3.toNat (aV s.c.c2):=by simp[aM,growS]
 refine⟨fun _=>?_,?_,?_,?_⟩
 ·simp only[aM,dZ];omega
 ·rw[hst,List.length_replicate];omega
 ·simp[aM,dZ]
 ·rw[hst,ke]
  simp[aM,dZ]
theorem hello_moved{M L size:Int}{s:ay}{cid addr:Int}{tok b:List Int}{N:Nat}{P:Prop}(h:SrvInv M L s)(hF:FairS s)(hc:0<=cid/\cid<=1073741823)(ha:0<=addr/\addr<256)(hs:0<=size)(hM:0<=M)(hb:Bytes b)
  (hP1:jC s.c s.now addr tok=true->P) (hP2:NumIn b (bA s.c.c9 addr cid)->P):
  Moved s (dO s addr cid size tok b N []).1 addr (dO s addr cid size tok b N []).2 size P:=by
 have hla:=h.last
 unfold dO
 rcases ea (l:=s.conns) (cid:=cid) with⟨e,hno⟩|⟨k,c,e,hk,hcid⟩
 ·rw[e]
  simp only
  have hfull:¬eG s=true->(s.conns.length:Int)<s.c.c0:=by
   intro hf
   unfold eG at hf
   simp at hf
   omega
  split
  ·split
   ·next hgood=>
    split
    ·exact Moved.stay hF hs
    ·next hf=>
     obtain⟨k1,k2⟩:=iV true h hc ha hs hM
     have hn:=dr (aM s cid addr size true) (aI s.c (aM s cid addr size true))
     have hfn:=(open_fair (ok:=true) (cid:=cid) (addr:=addr) h.cfg hs).news (aI s.c (aM s cid addr size true))
     obtain⟨x,hx,hto⟩:=news_to (c:=aM s cid addr size true) (aI s.c (aM s cid addr size true)) []
     unfold j9
     simp only
     generalize hcn:aZ (aM s cid addr size true) (aI s.c (aM s cid addr size true))=cn at *
     have hs1:SrvInv (M+size+100) (L+1) (jE {s with conns:=(s.conns++[aM s cid addr size true]).set s.conns.length cn} s.conns.length cn):=by
      unfold jE
      simp only
      rw[bm,bm]
      refine SrvInv.snoc (h.mono (by omega) (by omega)) ?_ ?_ (by rw[show(iY (s.last+1) cn).cid=cid from hn.1];exact hno) ⟨by simp only[iY];omega,by simp[iY],fun h=>by cases h⟩ (by omega) (by omega) (hfull hf)
      ·exact⟨k1.cid,k1.addr,k1.got,k1.sent,k1.heard,k1.runs,k1.credit,k1.slen,k1.str⟩
      ·exact⟨k2.str,k2.high,k2.runs,k2.fol⟩
     have hm1:Moved s (jE {s with conns:=(s.conns++[aM s cid addr size true]).set s.conns.length cn} s.conns.length cn) addr x size P:=by
      refine Moved.snoc (c:=iY (s.last+1) cn) hF hn.2.2.2 ⟨fun hp=>(by cases hp),hfn.lim,hfn.cre,hfn.crx⟩ (Bool.eq_false_iff.2 hf) rfl ?_ hto fun hp=>absurd (hP1 hgood) hp
      unfold jE
      simp only
      rw[bm,bm]
     have hat:(jE {s with conns:=(s.conns++[aM s cid addr size true]).set s.conns.length cn} s.conns.length cn).conns[s.conns.length]? =some (iY (s.last+1) cn):=by
      unfold jE
      simp only
      rw[bm,bm,cB]
     obtain⟨y,hy,hm2⟩:=jl N (bI (aM s cid addr size true) (aI s.c (aM s cid addr size true)) []) hs1 hm1.fair hat (a:=addr) hn.2.2.2 hb
     rw[hy]
     have:=hm1.then hm2 (R:=P) (fun hr=>hr.elim id fun _=>hP1 hgood)
     rw[Int.add_zero,<-List.nil_append x,<-hx]at this
     exact this
   ·exact Moved.stay hF hs
  ·split
   ·unfold ju
    split
    ·next hle=>exact Moved.send hF hle (by simp[iD])
    ·exact Moved.stay hF hs
   ·split
    ·exact Moved.stay hF hs
    ·next hf=>
     obtain⟨k1,k2⟩:=iV false h hc ha hs hM
     have hn:=dr (aM s cid addr size false) (aI s.c (aM s cid addr size false))
     have hfn:=(open_fair (ok:=false) (cid:=cid) (addr:=addr) h.cfg hs).news (aI s.c (aM s cid addr size false))
     obtain⟨x,hx,hto,hl,h0⟩:=news_owe (c:=aM s cid addr size false) (aI s.c (aM s cid addr size false)) rfl (by simp only[aM,dZ];omega) []
     have ho:gy (aM s cid addr size false)=3*size:=by simp[gy,aM,dZ]
     have hw:(aZ (aM s cid addr size false) (aI s.c (aM s cid addr size false))).waits=0:=by rw[hn.2.1];rfl
     unfold ka
     simp only
     generalize hcn:aZ (aM s cid addr size false) (aI s.c (aM s cid addr size false))=cn at *
     have hs1:SrvInv (M+size+100) (L+1) {s with conns:=(s.conns++[aM s cid addr size false]).set s.conns.length cn}:=by
      rw[bm]
      exact SrvInv.snoc (last:=s.last) (h.mono (by omega) (by omega)) k1 k2 (by rw[hn.1];exact hno) ⟨by omega,by omega,fun _=>hw⟩ (Int.le_refl _) (by omega) (hfull hf)
     have hm1:Moved s {s with conns:=(s.conns++[aM s cid addr size false]).set s.conns.length cn} addr x size False:=
      Moved.snoc hF hn.2.2.2 hfn (Bool.eq_false_iff.2 hf) rfl (by rw[bm]) hto fun _=>⟨hn.2.2.1,by omega⟩
     have hat:({s with conns:=(s.conns++[aM s cid addr size false]).set s.conns.length cn}:ay).conns[s.conns.length]? =some cn:=by
      simp only
      rw[bm,cB]
     obtain⟨y,hy,hm2⟩:=jl N (bI (aM s cid addr size false) (aI s.c (aM s cid addr size false)) []) hs1 hm1.fair hat (a:=addr) hn.2.2.2 hb
     rw[hy]
     have:=hm1.then hm2 (R:=P) (fun hr=>hr.elim False.elim fun hr=>hP2 (by rw[<-show cn.cid=cid from hn.1];exact hr))
     rw[Int.add_zero,<-List.nil_append x,<-hx]at this
     exact this
 ·rw[e]
  simp only
  rw[hk]
  simp only
  exact again_moved h hF hk hs
theorem take_nine{l:List Int}{n:Nat}(h:(l.take n).length=9):l.take n=l.take 9/\9<=l.length:=by
 rw[List.length_take]at h
 refine⟨?_,by omega⟩
 rcases Nat.lt_or_ge n l.length with h1|h1
 ·rw[show n=9 by omega]
 ·rw[List.take_of_length_le h1,List.take_of_length_le (by omega)]
theorem timeL_take(l:List Int):fs (l.take 9)=fs l:=by
 unfold fs
 simp[List.getD]
theorem dgram_shows{b:List Int}{d:DgS}(h:fJ b=some d){g:Cfg}{now a:Int}:(d.kind=1->jC g now a d.tok=true->kC g a b)/\(NumIn d.frames (bA g.c9 a d.cid)->kC g a b):=by
 unfold fJ at h
 simp only at h
 split at h
 ·cases h
 ·split at h
  ·cases h
  ·next g1=>
   have hl1:1<b.length:=by
    rcases Nat.lt_or_ge 1 b.length with hl|hl
    ·exact hl
    ·exact absurd (by rw[List.drop_eq_nil_of_le hl];rfl) g1
   split at h
   ·cases h
   ·have e3:((b.drop 1).drop (gsz (b.drop 1)).toNat).drop (gsz ((b.drop 1).drop (gsz (b.drop 1)).toNat)).toNat=b.drop (1+(gsz (b.drop 1)).toNat+(gsz ((b.drop 1).drop (gsz (b.drop 1)).toNat)).toNat):=by
     rw[List.drop_drop,List.drop_drop,Nat.add_assoc]
    rw[e3]at h
    generalize 1+(gsz (b.drop 1)).toNat+(gsz ((b.drop 1).drop (gsz (b.drop 1)).toNat)).toNat=j at h
    generalize cg ((b.drop 1).drop (gsz (b.drop 1)).toNat)=m at h
    have hP:∀(fr:List Int) (k:Nat),fr=b.drop k->NumIn fr (bA g.c9 a (cg (b.drop 1)))->kC g a b:=by
     intro fr k hfr hn
     subst hfr
     obtain⟨i,h1,h2,h3⟩:=hn.drop
     exact Or.inr ⟨hl1,g1,i,h1,h2,h3⟩
    split at h
    ·split at h
     ·cases h
     ·simp only[Option.some.injEq]at h
      subst h
      refine⟨fun _ hg=>?_,hP _ (j+m.toNat) (by rw[List.drop_drop])⟩
      unfold jC at hg
      simp only[Bool.and_eq_true,decide_eq_true_eq]at hg
      obtain⟨t1,t2⟩:=take_nine hg.1.1
      have t3:=hg.1.2
      rw[t1,timeL_take]at t3
      rw[List.length_drop]at t2
      exact Or.inl ⟨j,by omega,t3⟩
    ·split at h
     ·simp only[Option.some.injEq]at h
      subst h
      exact⟨fun h=>(by cases h),hP _ j rfl⟩
     ·cases h
theorem receive_moved{M L:Int}{s:ay}{a:Int}{b:List Int}(h:SrvInv M L s)(hF:FairS s)(hM:0<=M)(hb:Bytes b):Moved s (bt s a b).1 a (bt s a b).2 b.length (kC s.c a b):=by
 unfold bt
 split
 ·exact Moved.stay hF (by omega)
 ·next ha=>
  split
  ·exact Moved.stay hF (by omega)
  ·next d hd=>
   obtain⟨_,k2,k3,_,k5,_,_⟩:=dgramS_ok hb hd
   obtain⟨h1,h2⟩:=dgram_shows hd (g:=s.c) (now:=s.now) (a:=a)
   split
   ·next hk=>exact hello_moved h hF k2 (by omega) (by omega) hM k5 (h1 hk) h2
   ·exact(data_moved h hF k3 (by omega) k5).pre h2
theorem fullL_le(l:List Int):fp l<=l.length:=List.countP_le_length
theorem leadS_full:∀l:List Int,bq l<=fp l
 |[]=>Nat.le_refl _
 |x::l=>by
  have h:=leadS_full l
  unfold bq fp at *
  rw[List.takeWhile_cons,List.countP_cons]
  split
  ·rw[List.length_cons];omega
  ·simp
def bufP(l:List aO):Int:=(l.map fun x=>(fp x.bytes:Int)).sum
theorem buf_left{gaps:Int}:∀{l:List aO},(∀x∈l,StrInv gaps x)->0<=bufP l/\bufP l<=cC l-readAll l
 |[],_=>by simp[bufP,cC,readAll]
 |x::l,h=>by
  obtain⟨h1,h2⟩:=buf_left (l:=l) fun y hy=>h y (List.mem_cons_of_mem _ hy)
  have hx:=h x List.mem_cons_self
  have h3:(fp x.bytes:Int)<=x.highest-cN x:=by
   have h4:=fullL_le x.bytes
   have h5:=hx.len
   unfold cN
   split
   ·next hd=>
    simp only[Bool.and_eq_true]at hd
    have h6:=hx.rst hd.2
    have h7:=hx.fin h6.2
    have h8:x.bytes.length=0:=by rw[h6.1];rfl
    omega
   ·omega
  simp only[bufP,cC,readAll,List.map_cons,List.sum_cons]at *
  omega
theorem buf_mem{l:List aO}{x:aO}(h:x∈l):(fp x.bytes:Int)<=bufP l:=by
 induction l with
 |nil=>cases h
 |cons y l ih=>
  have hn:0<=bufP l:=by
   clear ih h
   induction l with
   |nil=>simp[bufP]
   |cons z l ih=>simp only[bufP,List.map_cons,List.sum_cons]at *;omega
  have e:bufP (y::l)=(fp y.bytes:Int)+bufP l:=by simp[bufP]
  rcases List.mem_cons.1 h with rfl|h
  ·omega
  ·have:=ih h
   omega
theorem Fair.buf{g:Cfg}{c:aq}(h:Fair g c)(hi:ConInv g c):0<=bufP c.streams/\bufP c.streams<=g.c1:=by
 obtain⟨h1,h2⟩:=buf_left hi.str
 have h3:=hi.high
 have h4:=h.crx
 omega
theorem readX_more{gaps:Int}{x:aO}(h:StrInv gaps x)(most:Int):cN x<=cN (aH x most).2:=by
 have h1:=h.len
 unfold aH cN
 simp only
 cases hr:x.reset with
 |true=>
  have h2:=h.fin (h.rst hr).2
  simp only[Bool.or_true,Bool.and_true,if_true]
  split<;>omega
 |false=>
  simp only[Bool.and_false,Bool.false_eq_true,if_false]
  omega
def ToAll(a:Int)(l:List (Int×List Int)):Prop:=∀o∈l,o.1=a/\o.2≠[]
theorem ToAll.news{a:Int}{l:List (Int×List Int)}(h:ToAll a l){c:aq}(hc:c.addr=a)(f:List Int):ToAll a (bI c f l):=by
 obtain⟨x,hx,hto⟩:=news_to (c:=c) f l
 rw[hx]
 intro o ho
 rcases List.mem_append.1 ho with ho|ho
 ·exact h o ho
 ·exact⟨(hto o ho).1.trans hc,(hto o ho).2⟩
theorem readC_fair{g:Cfg}{c:aq}{M:Int}{id:Nat}{x:aO}(most:Int)(hF:Fair g c)(hp:c.proven=true)(h:ConInv g c)(hok:ConOk M c)(hx:c.streams[id]? =some x)(hg:cO g):
  Fair g (ej g c id x most).1/\ToAll c.addr (ej g c id x most).2:=by
 have h1:=hg.c1
 have h2:=hg.c2
 obtain⟨a1,a2,a3,_,a5,a6⟩:=kQ h.i hok hx (readX_inv (h.str x (List.mem_of_getElem? hx)) most) (iC x most) (by omega)
 obtain⟨b1,b2,b3,_,b5⟩:=data_keep a1 a2 (by omega)
 have hmore:=readX_more (h.str x (List.mem_of_getElem? hx)) most
 have hread:readAll c.streams<=readAll (cU g c id (aH x most).2).1.streams:=by
  unfold cU
  split
  ·simp only
   rw[dD]
   simp only
   rw[ir hx]
   show readAll c.streams<=readAll c.streams-cN x+cN (aH x most).2
   omega
  ·simp only
   rw[ir hx]
   omega
 have hto1:ToAll c.addr (cU g c id (aH x most).2).2:=by
  unfold cU
  split
  ·simp only
   refine ToAll.news (fun o ho=>(by cases ho)) ?_ _
   rfl
  ·exact fun o ho=>(by cases ho)
 unfold ej
 generalize cU g c id (aH x most).2=r1 at *
 have hr0:=a1.read a2
 have hto2:ToAll c.addr (dS g r1).2:=by
  unfold dS
  split
  ·simp only
   exact hto1.news a3.addr _
  ·exact hto1
 have hcr:g.c1<=(dS g r1).1.credit/\(dS g r1).1.credit<=readAll (dS g r1).1.streams+g.c1:=by
  rw[b5]
  have k1:=hF.cre
  have k2:=hF.crx
  unfold dS
  split
  ·simp only
   rw[gi]
   simp only
   unfold bN
   split<;>omega
  ·rw[a6]
   omega
 have hlen:(dS g r1).1.streams.length=c.streams.length:=by rw[b5,a5]
 generalize dS g r1=r2 at *
 have hs:=a3.trans b3
 have hlim:=hF.lim
 have hpr:r2.1.proven=true:=hs.proven.trans hp
 unfold ef
 split
 ·simp only
  rw[growS_one]
  refine⟨⟨fun hn=>?_,?_,?_,?_⟩,hto2.news hs.addr _⟩
  ·rw[(dr _ _).2.2.1]at hn
   rw[hpr]at hn
   cases hn
  ·rw[dD]
   simp only[List.length_append,List.length_singleton]
   omega
  ·rw[gi]
   exact hcr.1
  ·rw[dD,gi]
   simp only
   rw[readAll_snoc]
   have:cN (aV g.c2)=0:=rfl
   omega
 ·exact⟨⟨fun hn=>(by rw[hpr]at hn;cases hn),by omega,hcr.1,hcr.2⟩,hto2⟩
structure ReadB(s s':ay)(got:gr)(x:List (Int×List Int)):Prop where
 fair:FairS s'
 cfg:s'.c=s.c
 few:(got.bytes.length:Int)<=s.c.c1
 same:s'=s/\x=[]\/∃i c c',s.conns[i]? =some c/\c.proven=true/\c'.addr=c.addr/\c'.proven=true/\s'.conns=s.conns.set i c'/\ToAll c.addr x
theorem read_moved{M L:Int}{s:ay}{cid id most:Int}(h:SrvInv M L s)(hF:FairS s):ReadB s (cI s cid id most).2.2.1 (cI s cid id most).2.1 (cI s cid id most).2.2.2:=by
 have hg:=h.cfg.c1
 have h0:ReadB s s gw []:=⟨hF,rfl,by simp[gw];omega,Or.inl ⟨rfl,rfl⟩⟩
 unfold cI
 split
 ·exact h0
 ·split
  ·exact h0
  ·next i _ _ c hc=>
   split
   ·exact h0
   ·next hp=>
    split
    ·exact h0
    ·split
     ·exact h0
     ·next x hx=>
      have hm:=List.mem_of_getElem? hc
      have hp':c.proven=true:=by cases hq:c.proven<;>simp_all
      obtain⟨k1,k2⟩:=readC_fair most (hF.con c hm) hp' (h.inv c hm) (h.ok c hm) hx h.cfg
      obtain⟨_,_,k3,_⟩:=kS most (h.inv c hm) (h.ok c hm) hx h.cfg
      refine⟨⟨fun d hd=>?_,?_⟩,rfl,?_,Or.inr ⟨i,c,_,hc,hp',k3.addr,k3.proven.trans hp',rfl,k2⟩⟩
      ·rcases List.mem_or_eq_of_mem_set hd with hd|rfl
       ·exact hF.con d hd
       ·exact k1
      ·have:=hF.mem
       unfold iB at this⊢
       simp only[List.length_set]
       exact this
      ·have h1:=buf_mem (List.mem_of_getElem? hx)
       have h2:=(hF.con c hm).buf (h.inv c hm)
       have h3:=leadS_full x.bytes
       simp only[aH,cT,List.length_take]
       omega
def bG(k:Nat)(l:List (Int×List Int)):Int:=(l.map fun o=>if o.1=(k:Int) then(o.2.length:Int) else 0).sum
theorem iH(k:Nat)(l r:List (Int×List Int)):bG k (l++r)=bG k l+bG k r:=by simp[bG]
theorem ki(k:Nat)(o:Int×List Int)(l:List (Int×List Int)):bG k (o::l)=(if o.1=(k:Int) then(o.2.length:Int) else 0)+bG k l:=by simp[bG]
theorem sentTo_all{a:Nat}:∀{l:List (Int×List Int)},ToAll a l->bG a l=lens l/\∀k:Nat,k≠a->bG k l=0
 |[],_=>⟨rfl,fun _ _=>rfl⟩
 |o::l,h=>by
  obtain⟨h1,h2⟩:=sentTo_all (l:=l) fun x hx=>h x (List.mem_cons_of_mem _ hx)
  have h3:=(h o List.mem_cons_self).1
  refine⟨?_,fun k hk=>?_⟩
  ·rw[ki,if_pos h3,h1]
   simp[lens]
  ·rw[ki,if_neg (by omega),h2 k hk]
   omega
theorem lens_nn:∀l:List (Int×List Int),0<=lens l
 |[]=>Int.le_refl _
 |o::l=>by
  have:=lens_nn l
  simp only[lens,List.map_cons,List.sum_cons]at *
  omega
theorem jb(k:Nat):∀l:List (Int×List Int),0<=bG k l/\bG k l<=lens l
 |[]=>⟨Int.le_refl _,Int.le_refl _⟩
 |o::l=>by
  have:=jb k l
  rw[ki]
  simp only[lens,List.map_cons,List.sum_cons]at *
  split<;>omega
structure Acc(s:ay)(came went:Nat->Int)(pv:Nat->Bool):Prop where
 all:∀k:Nat,k<256->pv k=false->(∀c∈s.conns,c.addr=(k:Int)->c.proven=false)/\went k+gj k s.conns<=3*came k
theorem Acc.new(g:Cfg):Acc (dk g) (fun _=>0) (fun _=>0) (fun _=>false):=⟨fun k _ _=>⟨fun c hc=>(by cases hc),by simp[dk,gj]⟩⟩
theorem FairS.new{g:Cfg}(h:cO g):FairS (dk g):=⟨fun c hc=>(by cases hc),by have:=h.c8;simp[dk,iB];omega⟩
theorem Acc.right{s:ay}{came went:Nat->Int}{pv:Nat->Bool}(h:Acc s came went pv)(hF:FairS s){k:Nat}(hk:k<256)(hp:pv k=false):went k<=3*came k:=by
 obtain⟨h1,h2⟩:=h.all k hk hp
 have:=owed_nn (a:=(k:Int)) hF.con h1
 omega
theorem clock_fair{s:ay}{now:Int}(hg:cO s.c)(hF:FairS s):FairS (jM s now):=hF.sub hg rfl rfl List.filter_sublist
theorem Acc.clock{s:ay}{came went:Nat->Int}{pv:Nat->Bool}(h:Acc s came went pv)(hF:FairS s)(now:Int):Acc (jM s now) came went pv:=⟨fun k hk hp=>by
 obtain⟨h1,h2⟩:=h.all k hk hp
 have h3:=owed_filter (a:=(k:Int)) (fun c=>decide (now-c.heard<s.c.c6)) hF.con h1
 refine⟨fun c hc=>h1 c (List.mem_filter.1 hc).1,?_⟩
 simp only[jM]
 omega⟩
theorem Acc.recv{s s':ay}{came went came' went':Nat->Int}{pv pv':Nat->Bool}{a:Nat}{x:List (Int×List Int)}{n:Int}{P:Prop}(h:Acc s came went pv)(hm:Moved s s' a x n P)(hc:∀k,came' k=came k+if k=a then n else 0)(hw:∀k,went' k=went k+bG k x)
  (hp:∀k,k≠a->pv' k=pv k) (hpa:pv' a=false->pv a=false/\¬P):Acc s' came' went' pv':=⟨fun k hk hkp=>by
 obtain⟨e1,e2⟩:=sentTo_all hm.dst
 rw[hc,hw]
 by_cases hka:k=a
 ·subst hka
  obtain⟨q1,q2⟩:=hpa hkp
  obtain⟨h1,h2⟩:=h.all k hk q1
  obtain⟨h3,h4⟩:=hm.own q2 h1
  refine⟨h3,?_⟩
  rw[e1,if_pos rfl]
  omega
 ·rw[hp k hka]at hkp
  obtain⟨h1,h2⟩:=h.all k hk hkp
  obtain⟨h3,h4⟩:=hm.oth k (by omega)
  refine⟨fun c hc hck=>h1 c (h3 c hc hck) hck,?_⟩
  rw[e2 k hka,if_neg hka,h4]
  omega⟩
theorem Acc.read{s s':ay}{came went went':Nat->Int}{pv:Nat->Bool}{got:gr}{x:List (Int×List Int)}(h:Acc s came went pv)(hr:ReadB s s' got x)(ha:∀c∈s.conns,0<=c.addr)(hw:∀k,went' k=went k+bG k x):Acc s' came went' pv:=⟨fun k hk hp=>by
 obtain⟨h1,h2⟩:=h.all k hk hp
 rw[hw]
 rcases hr.same with⟨rfl,rfl⟩|⟨i,c,c',hc,hpr,e1,e2,e3,ht⟩
 ·refine⟨h1,?_⟩
  simp only[bG,List.map_nil,List.sum_nil]
  omega
 ·have hm:=List.mem_of_getElem? hc
  have hne:c.addr≠(k:Int):=fun e=>by
   have:=h1 c hm e
   rw[hpr]at this
   cases this
  have ht':ToAll (c.addr.toNat:Int) x:=by rw[Int.toNat_of_nonneg (ha c hm)];exact ht
  have hsz:=(sentTo_all ht').2 k (by have:=ha c hm;omega)
  refine⟨fun d hd hdk=>?_,?_⟩
  ·rw[e3]at hd
   rcases List.mem_or_eq_of_mem_set hd with hd|rfl
   ·exact h1 d hd hdk
   ·exact absurd (e1.symm.trans hdk) hne
  ·rw[e3,owed_set hc,hsz]
   unfold kP
   rw[if_neg hne,if_neg (by rw[e1];exact hne)]
   omega⟩
theorem accept_is{M L:Int}{s:ay}(h:SrvInv M L s)(hF:FairS s):FairS (bg s).2.2/\(∀{came went:Nat->Int} {pv:Nat->Bool},Acc s came went pv->Acc (bg s).2.2 came went pv)/\(0<=(bg s).1/\(bg s).1<=1073741823)/\((bg s).2.1=0\/(bg s).2.1=4)/\(bg s).2.2.c=s.c/\
  ((bg s).2.1=0->∃k c,fC (bg s).2.2.conns (bg s).1=some k/\(bg s).2.2.conns[k]? =some c/\c.proven=true):=by
 unfold bg
 rcases jk s.conns s.conns.length with⟨e,_⟩|⟨j,e,hj,hw,_⟩
 ·rw[e]
  exact⟨hF,fun h=>h,⟨Int.le_refl _,by simp⟩,Or.inr rfl,rfl,fun h=>absurd h (by simp)⟩
 ·rw[e]
  obtain⟨c,hc⟩:∃c,s.conns[j]? =some c:=⟨_,List.getElem?_eq_getElem hj⟩
  simp only
  rw[hc]
  simp only
  have hm:=List.mem_of_getElem? hc
  have hcid:=(h.ok c hm).cid
  have hpr:c.proven=true:=by
   cases hp:c.proven with
   |true=>rfl
   |false=>
    have:=(h.waits c hm).2.2 hp
    rw[fl hc]at hw
    omega
  refine⟨⟨fun d hd=>?_,?_⟩,fun ha=>⟨fun k hk hp=>?_⟩,hcid,by simp,by simp,fun _=>?_⟩
  ·rcases List.mem_or_eq_of_mem_set hd with hd|rfl
   ·exact hF.con d hd
   ·have:=hF.con c hm
    exact⟨this.few,this.lim,this.cre,this.crx⟩
  ·have:=hF.mem
   unfold iB at this⊢
   simp only[List.length_set]
   exact this
  ·obtain⟨h1,h2⟩:=ha.all k hk hp
   refine⟨fun d hd hdk=>?_,?_⟩
   ·rcases List.mem_or_eq_of_mem_set hd with hd|rfl
    ·exact h1 d hd hdk
    ·exact h1 c hm hdk
   ·simp only
    rw[owed_set hc]
    have:kP k {c with waits:=0}=kP k c:=rfl
    omega
  ·have hat:(s.conns.set j {c with waits:=0})[j]? =some {c with waits:=0}:=aC hc
   rcases ea (l:=s.conns.set j {c with waits:=0}) (cid:=c.cid) with⟨e1,hno⟩|⟨k,d,e1,hk,hd⟩
   ·exact absurd (List.mem_map.2 ⟨_,List.mem_of_getElem? hat,rfl⟩) hno
   ·refine⟨k,d,e1,hk,?_⟩
    have hnd:((s.conns.set j {c with waits:=0}).map (·.cid)).Nodup:=by
     rw[gh (c':={c with waits:=0}) hc rfl]
     exact h.nd
    have hkj:k=j:=by
     have q1:((s.conns.set j {c with waits:=0}).map (·.cid))[k]? =some c.cid:=by rw[List.getElem?_map,hk];simp[hd]
     have q2:((s.conns.set j {c with waits:=0}).map (·.cid))[j]? =some c.cid:=by rw[List.getElem?_map,hat];rfl
     exact(List.getElem?_inj (by simpa using(List.getElem?_eq_some_iff.1 q1).1) hnd).1 (q1.trans q2.symm)
    subst hkj
    rw[hat]at hk
    have:=Option.some.inj hk
    subst this
    exact hpr
def gf(s:ay):Nat->Nat
 |0=>0
 |n+1=>gf s n+if(fC s.conns (n:Int)).isSome then 1 else 0
theorem cntTo_le(s:ay):∀n:Nat,gf s n<=s.conns.countP fun c=>decide (0<=c.cid/\c.cid<(n:Int))
 |0=>Nat.zero_le _
 |n+1=>by
  have h:=cntTo_le s n
  have hs:(s.conns.countP fun c=>decide (0<=c.cid/\c.cid<((n+1:Nat):Int)))=(s.conns.countP fun c=>decide (0<=c.cid/\c.cid<(n:Int)))+s.conns.countP fun c=>decide (c.cid=(n:Int)):=by
   generalize s.conns=l
   induction l with
   |nil=>rfl
   |cons c l ih=>
    rw[List.countP_cons,List.countP_cons,List.countP_cons,ih]
    by_cases h1:c.cid=(n:Int)
    ·rw[decide_eq_true h1,decide_eq_true (show 0<=c.cid/\c.cid<((n+1:Nat):Int) by omega),decide_eq_false (show ¬(0<=c.cid/\c.cid<(n:Int)) by omega)]
     simp
     omega
    ·by_cases h2:0<=c.cid/\c.cid<(n:Int)
     ·rw[decide_eq_false h1,decide_eq_true h2,decide_eq_true (show 0<=c.cid/\c.cid<((n+1:Nat):Int) by omega)]
      simp
      omega
     ·rw[decide_eq_false h1,decide_eq_false h2,decide_eq_false (show ¬(0<=c.cid/\c.cid<((n+1:Nat):Int)) by omega)]
      simp
  rw[hs]
  unfold gf
  split
  ·next hf=>
   have:0<s.conns.countP fun c=>decide (c.cid=(n:Int)):=by
    rw[List.countP_pos_iff]
    rcases ea (l:=s.conns) (cid:=(n:Int)) with⟨e,_⟩|⟨k,c,_,hk,hc⟩
    ·rw[e]at hf;cases hf
    ·exact⟨c,List.mem_of_getElem? hk,decide_eq_true hc⟩
   omega
  ·omega
theorem cntTo_len(s:ay)(n:Nat):gf s n<=s.conns.length:=Nat.le_trans (cntTo_le s n) List.countP_le_length
theorem newsL_len(cid:Int)(f:List Int):((cG cid f).length:Int)<=5+f.length:=by
 have:=bL cid
 simp only[cG,List.length_append,List.length_cons,List.length_nil]
 omega
theorem fe(c:aq)(f:List Int)(outs:List (Int×List Int)):lens (bI c f outs)<=lens outs+5+f.length:=by
 have:=newsL_len c.cid f
 unfold bI
 split
 ·rw[j6,lens_one]
  omega
 ·omega
theorem jW(n:Nat){s:ay}{i:Nat}{c:aq}(b:List Int)(outs:List (Int×List Int))(hi:s.conns[i]? =some c):lens (bU s i b outs n).2<=lens outs+10:=by
 rw[dC n b outs hi]
 simp only[cE]
 split
 ·omega
 ·next k _=>
  have h1:=fe (aG s.c (s.last+1) c b n).con ([19]++aT k) outs
  have h2:=bL k
  simp only[List.length_append,List.length_cons,List.length_nil]at h1
  omega
theorem tok9(key a t:Int):(bM key a t).length=9:=by simp[bM,gu,bO]
theorem receive_lens(s:ay)(a:Int)(b:List Int):lens (bt s a b).2<=100:=by
 have h0:lens ([]:List (Int×List Int))=0:=rfl
 unfold bt
 split
 ·simp only[h0];omega
 ·split
  ·simp only[h0];omega
  ·next d hd=>
   split
   ·unfold dO
    split
    ·split
     ·next c _=>
      unfold dN
      split
      ·simp only[h0];omega
      ·simp only
       split
       ·simp only[h0];omega
       ·have h1:=fe {c with got:=c.got+b.length,heard:=s.now} (aI s.c {c with got:=c.got+b.length,heard:=s.now}) []
        have h2:=gq s.c {c with got:=c.got+b.length,heard:=s.now}
        simp only
        omega
     ·simp only[h0];omega
    ·split
     ·split
      ·split
       ·simp only[h0];omega
       ·unfold j9
        simp only
        refine Int.le_trans (jW _ _ _ (c:=iY (s.last+1) (aZ (aM s d.cid a b.length true) (aI s.c (aM s d.cid a b.length true)))) (by unfold jE;simp only;rw[bm,bm,cB])) ?_
        have h1:=fe (aM s d.cid a b.length true) (aI s.c (aM s d.cid a b.length true)) []
        have h2:=gq s.c (aM s d.cid a b.length true)
        omega
      ·simp only[h0];omega
     ·split
      ·unfold ju
       split
       ·simp only[List.nil_append]
        rw[lens_one]
        have h1:=bL d.cid
        have h2:=bL 9
        simp only[iD,List.length_append,List.length_cons,List.length_nil,tok9]
        omega
       ·simp only[h0];omega
      ·split
       ·simp only[h0];omega
       ·unfold ka
        simp only
        refine Int.le_trans (jW _ _ _ (c:=aZ (aM s d.cid a b.length false) (aI s.c (aM s d.cid a b.length false))) (by simp only;rw[bm,cB])) ?_
        have h1:=fe (aM s d.cid a b.length false) (aI s.c (aM s d.cid a b.length false)) []
        have h2:=gq s.c (aM s d.cid a b.length false)
        omega
   ·unfold eR
    split
    ·simp only[h0];omega
    ·split
     ·simp only[h0];omega
     ·next c hc=>
      split
      ·simp only[h0];omega
      ·split
       ·simp only[h0];omega
       ·refine Int.le_trans (jW _ _ _ (aC hc)) ?_
        rw[h0];omega
theorem read_lens(s:ay)(cid id most:Int):lens (cI s cid id most).2.2.2<=100:=by
 have h0:lens ([]:List (Int×List Int))=0:=rfl
 unfold cI
 split
 ·simp only[h0];omega
 ·split
  ·simp only[h0];omega
  ·next c _=>
   split
   ·simp only[h0];omega
   ·split
    ·simp only[h0];omega
    ·split
     ·simp only[h0];omega
     ·next x _=>
      have hp:lens (cU s.c c id.toNat (aH x most).2).2<=20:=by
       unfold cU
       split
       ·simp only
        refine Int.le_trans (fe _ _ _) ?_
        have h1:=bL (id.toNat:Int)
        have h2:=bL (bN (aH x most).2.read s.c.c2)
        simp only[h0,List.length_append,List.length_cons,List.length_nil]
        omega
       ·simp only[h0];omega
      simp only[ej]
      generalize cU s.c c id.toNat (aH x most).2=r1 at hp
      have hd:lens (dS s.c r1).2<=40:=by
       unfold dS
       split
       ·simp only
        refine Int.le_trans (fe _ _ _) ?_
        have h1:=bL (bN (readAll r1.1.streams) s.c.c1)
        simp only[List.length_append,List.length_cons,List.length_nil]
        omega
       ·omega
      generalize dS s.c r1=r2 at hd
      unfold ef
      split
      ·simp only
       refine Int.le_trans (fe _ _ _) ?_
       have h1:=bL ((growS s.c.c2 r2.1.streams (r2.1.streams.length+1)).length:Int)
       simp only[List.length_append,List.length_cons,List.length_nil]
       omega
      ·omega
end Go.Proofs.YthmdjhlhodpbhaaGreatDoor
