/- Apart, 7 -/
import Derived.Test.YthmdjhlhodpbhaaGreatDoorA01
import Derived.Test.YthmdjhlhodpbhaaGreatDoorA06
set_option maxHeartbeats 16000000
set_option maxRecDepth 8000
namespace Go.Proofs.YthmdjhlhodpbhaaGreatDoor
structure SrvInv(M L:Int)(s:ay):Prop where
 cfg:bM s.c
 now:0<=s.now/\s.now<=1000000000
 few:(s.conns.length:Int)<=s.c.c0
 nd:(s.conns.map (·.cid)).Nodup
 ok:∀c∈s.conns,ConOk M c
 inv:∀c∈s.conns,ConInv s.c c
 waits:∀c∈s.conns,0<=c.waits/\c.waits<=s.last/\(c.proven=false->c.waits=0)
 last:0<=s.last/\s.last<=L
theorem ConOk.mono{M M':Int}{c:aw}(h:ConOk M c)(hm:M<=M'):ConOk M' c:=⟨h.cid,h.addr,by have:=h.got;omega,by have:=h.sent;omega,h.heard,h.runs,h.credit,h.slen,h.str⟩
theorem SrvInv.mono{M M' L L':Int}{s:ay}(h:SrvInv M L s)(hm:M<=M')(hl:L<=L'):SrvInv M' L' s:=
 ⟨h.cfg,h.now,h.few,h.nd,fun c hc=>(h.ok c hc).mono hm,h.inv,h.waits,by have:=h.last;omega⟩
theorem SrvInv.set{M L:Int}{s:ay}{i:Nat}{c c':aw}{last:Int}(h:SrvInv M L s)(hi:s.conns[i]? =some c)(hok:ConOk M c')(hinv:ConInv s.c c')(hcid:c'.cid=c.cid)(hw:0<=c'.waits/\c'.waits<=last/\(c'.proven=false->c'.waits=0))(hl:s.last<=last)(hL:last<=L):
  SrvInv M L {s with conns:=s.conns.set i c',last:=last}:=by
 have hm:∀d∈s.conns.set i c',d∈s.conns\/d=c':=fun d hd=>List.mem_or_eq_of_mem_set hd
 refine⟨h.cfg,h.now,by simp only[List.length_set];exact h.few,by simp only;rw[iU hi hcid];exact h.nd,fun d hd=>?_,fun d hd=>?_,fun d hd=>?_,by have:=h.last;simp only;omega⟩
 ·rcases hm d hd with hd|rfl
  ·exact h.ok d hd
  ·exact hok
 ·rcases hm d hd with hd|rfl
  ·exact h.inv d hd
  ·exact hinv
 ·rcases hm d hd with hd|rfl
  ·have:=h.waits d hd
   exact⟨this.1,by simp only;omega,this.2.2⟩
  ·exact hw
theorem SrvInv.sub{M L:Int}{s:ay}{l:List aw}{last now:Int}(h:SrvInv M L s)(hs:l.Sublist s.conns)(hl:s.last<=last)(hL:last<=L)(hn:0<=now/\now<=1000000000):SrvInv M L {s with conns:=l,last:=last,now:=now}:=by
 refine⟨h.cfg,hn,?_,(hs.map _).nodup h.nd,fun d hd=>h.ok d (hs.subset hd),fun d hd=>h.inv d (hs.subset hd),fun d hd=>?_,by have:=h.last;simp only;omega⟩
 ·have:=hs.length_le
  have:=h.few
  simp only
  omega
 ·have:=h.waits d (hs.subset hd)
  exact⟨this.1,by simp only;omega,this.2.2⟩
theorem jw{l:List aw}{cid:Int}:(ei l cid=none/\cid∉l.map (·.cid))\/∃k c,ei l cid=some k/\l[k]? =some c/\c.cid=cid:=by
 unfold ei
 cases h:l.findIdx? fun c=>c.cid==cid with
 |none=>
  left
  refine⟨rfl,fun hm=>?_⟩
  rw[List.findIdx?_eq_none_iff]at h
  obtain⟨c,hc,e⟩:=List.mem_map.1 hm
  have:=h c hc
  simp[e]at this
 |some k=>
  right
  obtain⟨hk,h1,_⟩:=List.findIdx?_eq_some_iff_getElem.1 h
  exact⟨k,l[k],rfl,lGe hk,by simpa using h1⟩
theorem conS_inv{M L:Int}{s:ay}{i:Nat}{c:aw}{b:List Int}(n:Nat)(h:SrvInv M L s)(hi:s.conns[i]? =some c)(hb:Bytes b):SrvInv M (L+1) (gu s i c (aL s.c (s.last+1) c b n)):=by
 have hc:=lMm hi
 have k:=iy (M:=M) (lw:=s.last+1) (by have:=h.cfg.c4;omega) n (h.ok c hc) (h.inv c hc) hb
 have hla:=h.last
 have hw:=h.waits c hc
 generalize hr:aL s.c (s.last+1) c b n=r at k⊢
 have hl:s.last<=(if r.con.proven=true/\c.proven=false then s.last+1 else s.last)/\(if r.con.proven=true/\c.proven=false then s.last+1 else s.last)<=L+1:=by split<;>omega
 unfold gu
 cases hg:r.gone with
 |true=>
  simp only[if_true]
  exact SrvInv.sub (now:=s.now) (h.mono (Int.le_refl _) (by omega)) (List.eraseIdx_sublist _ _) hl.1 hl.2 h.now
 |false=>
  simp only[Bool.false_eq_true,if_false]
  refine SrvInv.set (h.mono (Int.le_refl _) (by omega)) hi k.ok k.inv k.cid ?_ hl.1 hl.2
  cases hp:c.proven with
  |true=>
   have h1:=k.stay hp
   rw[k.same (by rw[h1,hp])]
   exact⟨hw.1,by simp;omega,fun h=>by rw[h1]at h;cases h⟩
  |false=>
   cases hp':r.con.proven with
   |true=>
    rw[k.new hp hp']
    exact⟨by omega,by simp,fun h=>by cases h⟩
   |false=>
    rw[k.same (by rw[hp',hp])]
    exact⟨hw.1,by simp;omega,fun _=>hw.2.2 hp⟩
theorem lP{M L:Int}{s:ay}{i:Nat}{c:aw}{b:List Int}{outs:List (Int×List Int)}(n:Nat)(h:SrvInv M L s)(hi:s.conns[i]? =some c)(hb:Bytes b):SrvInv M (L+1) (cG s i b outs n).1:=by
 rw[fL n b outs hi]
 exact conS_inv n h hi hb
theorem dR(n:Int):(az n).length<=4:=by
 unfold az
 repeat' split
 all_goals simp
theorem mN{M K:Int}{c:aw}{f:List Int}(h:ConOk M c)(hf:(f.length:Int)+5<=K):ConOk (M+K) (bt c f):=by
 have h1:=dR c.cid
 have hl:((cg c.cid f).length:Int)<=f.length+5:=by simp[cg];omega
 unfold bt
 split
 ·have:=h.got
  have:=h.sent
  exact⟨h.cid,h.addr,by simp only;omega,by simp only;omega,h.heard,h.runs,h.credit,h.slen,h.str⟩
 ·exact h.mono (by omega)
theorem pG{g:Cfg}{c:aw}{f:List Int}(h:ConInv g c):ConInv g (bt c f):=by
 unfold bt
 split
 ·exact⟨h.str,h.high,h.runs,h.fol⟩
 ·exact h
theorem gA(c:aw)(f:List Int):(bt c f).cid=c.cid/\(bt c f).waits=c.waits/\(bt c f).proven=c.proven/\(bt c f).addr=c.addr:=by
 unfold bt
 split<;>exact⟨rfl,rfl,rfl,rfl⟩
theorem ox(g:Cfg)(c:aw):((bj g c).length:Int)<=17:=by
 have h1:=dR (ef g.c9 c.addr c.cid)
 have h2:=dR g.c1
 have h3:=dR g.c2
 have h4:=dR g.c3
 simp only[bj,List.length_append,List.length_cons,List.length_nil]
 omega
theorem again_inv{M L size:Int}{s:ay}{k:Nat}{c:aw}{addr:Int}{outs:List (Int×List Int)}(h:SrvInv M L s)(hk:s.conns[k]? =some c)(hs:0<=size):SrvInv (M+size+100) L (gh s k c addr size outs).1:=by
 have hc:=lMm hk
 have hok:=h.ok c hc
 have hwa:=h.waits c hc
 have hla:=h.last
 have hg:=hok.got
 have hse:=hok.sent
 have h1:ConOk (M+size) {c with got:=c.got+size,heard:=s.now}:=⟨hok.cid,hok.addr,by simp only;omega,by simp only;omega,h.now,hok.runs,hok.credit,hok.slen,hok.str⟩
 have h2:ConInv s.c {c with got:=c.got+size,heard:=s.now}:=⟨(h.inv c hc).str,(h.inv c hc).high,(h.inv c hc).runs,(h.inv c hc).fol⟩
 unfold gh
 split
 ·exact h.mono (by omega) (Int.le_refl _)
 ·simp only
  split
  ·exact SrvInv.set (h.mono (by omega) (Int.le_refl _)) hk (h1.mono (by omega)) h2 rfl hwa (Int.le_refl _) hla.2
  ·have hn:=gA {c with got:=c.got+size,heard:=s.now} (bj s.c {c with got:=c.got+size,heard:=s.now})
   refine SrvInv.set (h.mono (by omega) (Int.le_refl _)) hk (mN (K:=100) h1 (by have:=ox s.c {c with got:=c.got+size,heard:=s.now};omega)) (pG h2) hn.1 ?_ (Int.le_refl _) hla.2
   rw[hn.2.1,hn.2.2.1]
   exact hwa
theorem qe{gaps piece:Int}(hg:0<=gaps)(hp:0<=piece/\piece<=1073741823):StrInv gaps (aU piece):=
 ⟨by simp[aU],fun b hb=>by simp[aU]at hb,by simp[aU],fun h=>by simp[aU]at h,by simp[aU],fun h=>by simp[aU]at h,fun h=>by simp[aU]at h,by simp[aU,dS];exact hg,by simp[aU];exact hp⟩
theorem sr{piece:Int}(hp:0<=piece/\piece<=1073741823):ku (aU piece):=
 ⟨by simp[aU],by simp[aU],by simp[aU],by simp[aU];exact hp,by simp[aU]⟩
theorem rL(piece:Int):∀n,cV (List.replicate n (aU piece))=0
 |0=>rfl
 |n+1=>by
  have:=rL piece n
  simp[cV,List.replicate_succ,aU]at this⊢
theorem open_ok{M size:Int}{s:ay}{cid addr:Int}{ok:Bool}(h:bM s.c)(hn:0<=s.now/\s.now<=1000000000)(hc:0<=cid/\cid<=1073741823)(ha:0<=addr/\addr<256)(hs:0<=size/\size<=M):ConOk M (bA s cid addr size ok)/\ConInv s.c (bA s cid addr size ok):=by
 have h1:=h.c1
 have h2:=h.c2
 have h3:=h.c3
 have h4:=h.c4
 have hst:(bA s cid addr size ok).streams=List.replicate s.c.c3.toNat (aU s.c.c2):=by simp[bA,lD]
 have hm:∀x∈(bA s cid addr size ok).streams,x=aU s.c.c2:=by
  intro x hx
  rw[hst]at hx
  exact(List.mem_replicate.1 hx).2
 have hl:(bA s cid addr size ok).streams.length=s.c.c3.toNat:=by rw[hst];simp
 refine⟨⟨hc,ha,hs,by simp[bA,fo];omega,hn,by simp[bA,fo],by simp[bA,fo];omega,by rw[hl];omega,fun x hx=>?_⟩,⟨fun x hx=>?_,?_,trivial,Or.inl ?_⟩⟩
 ·rw[hm x hx];exact sr (by omega)
 ·rw[hm x hx];exact qe (by omega) (by omega)
 ·rw[hst,rL]
  simp[bA,fo]
  omega
 ·rw[hst,oi]
  simp[bA,fo]
  omega
theorem SrvInv.snoc{M L:Int}{s:ay}{c:aw}{last:Int}(h:SrvInv M L s)(hok:ConOk M c)(hinv:ConInv s.c c)(hcid:c.cid∉s.conns.map (·.cid))(hw:0<=c.waits/\c.waits<=last/\(c.proven=false->c.waits=0))(hl:s.last<=last)(hL:last<=L)(hf:(s.conns.length:Int)<s.c.c0):
  SrvInv M L {s with conns:=s.conns++[c],last:=last}:=by
 have hm:∀d∈s.conns++[c],d∈s.conns\/d=c:=fun d hd=>by simpa using hd
 refine⟨h.cfg,h.now,by simp;omega,?_,fun d hd=>?_,fun d hd=>?_,fun d hd=>?_,by have:=h.last;simp only;omega⟩
 ·simp only[List.map_append,List.map_cons,List.map_nil]
  rw[List.nodup_append]
  refine⟨h.nd,by simp,fun a ha b hb e=>hcid ?_⟩
  rw[<-List.mem_singleton.1 hb,<-e]
  exact ha
 ·rcases hm d hd with hd|rfl
  ·exact h.ok d hd
  ·exact hok
 ·rcases hm d hd with hd|rfl
  ·exact h.inv d hd
  ·exact hinv
 ·rcases hm d hd with hd|rfl
  ·have:=h.waits d hd
   exact⟨this.1,by simp only;omega,this.2.2⟩
  ·exact hw
theorem eC{α:Type}(l:List α)(a b:α):(l++[a]).set l.length b=l++[b]:=by simp
theorem eV{α:Type}(l:List α)(a:α):(l++[a])[l.length]? =some a:=by simp
theorem nH{M L size:Int}{s:ay}{cid addr:Int}(ok:Bool)(h:SrvInv M L s)(hc:0<=cid/\cid<=1073741823)(ha:0<=addr/\addr<256)(hs:0<=size)(hM:0<=M):
  ConOk (M+size+100) (bt (bA s cid addr size ok) (bj s.c (bA s cid addr size ok)))/\ConInv s.c (bt (bA s cid addr size ok) (bj s.c (bA s cid addr size ok))):=by
 have hop:=open_ok (M:=M+size) (ok:=ok) h.cfg h.now hc ha ⟨hs,by omega⟩
 refine⟨mN (K:=100) hop.1 ?_,pG hop.2⟩
 have:=ox s.c (bA s cid addr size ok)
 omega
theorem hello_inv{M L size:Int}{s:ay}{cid addr:Int}{tok b:List Int}{N:Nat}{outs:List (Int×List Int)}(h:SrvInv M L s)(hc:0<=cid/\cid<=1073741823)(ha:0<=addr/\addr<256)(hs:0<=size)(hM:0<=M)(hb:Bytes b):SrvInv (M+size+100) (L+2) (fM s addr cid size tok b N outs).1:=by
 have h0:SrvInv (M+size+100) (L+2) s:=h.mono (by omega) (by omega)
 have hla:=h.last
 unfold fM
 rcases jw (l:=s.conns) (cid:=cid) with⟨e,hno⟩|⟨k,c,e,hk,hcid⟩
 ·rw[e]
  simp only
  have hfull:¬fz s=true->(s.conns.length:Int)<s.c.c0:=by
   intro hf
   unfold fz at hf
   simp at hf
   omega
  split
  ·split
   ·split
    ·exact h0
    ·next hf=>
     obtain⟨k1,k2⟩:=nH true h hc ha hs hM
     have hn:=gA (bA s cid addr size true) (bj s.c (bA s cid addr size true))
     unfold kQ
     simp only
     refine SrvInv.mono (M:=M+size+100) (L:=L+1+1) (lP (c:=oe (s.last+1) (bt (bA s cid addr size true) (bj s.c (bA s cid addr size true)))) N ?_ ?_ hb) (Int.le_refl _) (by omega)
     ·unfold pO
      simp only
      rw[eC,eC]
      refine SrvInv.snoc (h.mono (by omega) (by omega)) ?_ ?_ (by rw[show(oe (s.last+1) (bt (bA s cid addr size true) (bj s.c (bA s cid addr size true)))).cid=cid from hn.1];exact hno) ⟨by simp only[oe];omega,by simp[oe],fun h=>by cases h⟩ (by omega) (by omega) (hfull hf)
      ·exact⟨k1.cid,k1.addr,k1.got,k1.sent,k1.heard,k1.runs,k1.credit,k1.slen,k1.str⟩
      ·exact⟨k2.str,k2.high,k2.runs,k2.fol⟩
     ·unfold pO
      simp only
      rw[eC,eC,eV]
   ·exact h0
  ·split
   ·exact h0
   ·split
    ·exact h0
    ·next hf=>
     obtain⟨k1,k2⟩:=nH false h hc ha hs hM
     have hn:=gA (bA s cid addr size false) (bj s.c (bA s cid addr size false))
     unfold lF
     simp only
     refine SrvInv.mono (M:=M+size+100) (L:=L+1+1) (lP (c:=bt (bA s cid addr size false) (bj s.c (bA s cid addr size false))) N ?_ ?_ hb) (Int.le_refl _) (by omega)
     ·rw[eC]
      refine SrvInv.snoc (last:=s.last) (h.mono (by omega) (by omega)) k1 k2 (by rw[hn.1];exact hno) ?_ (Int.le_refl _) (by omega) (hfull hf)
      rw[hn.2.1,hn.2.2.1]
      exact⟨by simp[bA,fo],by simp[bA,fo];omega,fun _=>rfl⟩
     ·simp only
      rw[eC,eV]
 ·rw[e]
  simp only
  rw[hk]
  simp only
  exact(again_inv h hk hs).mono (by omega) (by omega)
theorem nV{M:Int}{g:Cfg}{c c':aw}{n:Int}(h:ConOk M c)(hi:ConInv g c)(hn:0<=n/\n<=1073741823)(hc:dy c n=some c'):ConOk M c'/\ConInv g c'/\c'.cid=c.cid/\c'.waits=c.waits/\c'.proven=c.proven/\c'.addr=c.addr/\c'.got=c.got:=by
 unfold dy jT at hc
 split at hc
 ·simp at hc
 ·simp only[Option.map_map,Option.map_eq_some_iff]at hc
  obtain⟨st,e1,e2⟩:=hc
  have hnot:¬InR c.runs n:=fun hin=>by
   rw[(jU hi.runs n).1 hin]at e1
   cases e1
  obtain⟨st',rs',e3,e4,hpw,_,hpos,hlen,hin⟩:=(jU hi.runs n).2 hnot
  rw[e1]at e3
  cases e3
  have hrl:=h.runs
  have hrg:∀r∈rs',0<=r.1/\r.1<=r.2/\r.2<=1073741823:=by
   intro r hr
   have hr0:=ka hpw hr
   have hb:∀p,InR rs' p->0<=p/\p<=1073741823:=by
    intro p hp
    rcases(hin p).1 hp with rfl|⟨q,hq,h1,h2⟩
    ·exact hn
    ·have:=hrl.2 q hq;omega
   have h1:=hb r.1 ⟨r,hr,Int.le_refl _,hr0⟩
   have h2:=hb r.2 ⟨r,hr,hr0,Int.le_refl _⟩
   omega
  simp only[Function.comp]at e2
  rw[e4]at e2
  split at e2
  ·subst e2
   refine⟨⟨h.cid,h.addr,h.got,h.sent,h.heard,⟨?_,fun r hr=>hrg r (List.mem_of_mem_drop hr)⟩,h.credit,h.slen,h.str⟩,⟨hi.str,hi.high,?_,hi.fol⟩,rfl,rfl,rfl,rfl,rfl⟩
   ·simp;omega
   ·have hp:=hpw
    rw[<-List.take_append_drop 1 rs',gC]at hp
    exact hp.2.1
  ·next hle=>
   subst e2
   exact⟨⟨h.cid,h.addr,h.got,h.sent,h.heard,⟨by simp only;omega,hrg⟩,h.credit,h.slen,h.str⟩,⟨hi.str,hi.high,hpw,hi.fol⟩,rfl,rfl,rfl,rfl,rfl⟩
theorem data_inv{M L size:Int}{s:ay}{cid addr num:Int}{b:List Int}{N:Nat}{outs:List (Int×List Int)}(h:SrvInv M L s)(hnum:0<=num/\num<=1073741823)(hs:0<=size)(hb:Bytes b):SrvInv (M+size+100) (L+2) (gi s addr cid num size b N outs).1:=by
 have h0:SrvInv (M+size+100) (L+2) s:=h.mono (by omega) (by omega)
 have hla:=h.last
 unfold gi
 rcases jw (l:=s.conns) (cid:=cid) with⟨e,_⟩|⟨k,c,e,hk,_⟩
 ·rw[e];exact h0
 ·rw[e]
  simp only
  rw[hk]
  simp only
  have hc:=lMm hk
  have hok:=h.ok c hc
  have hwa:=h.waits c hc
  have hg:=hok.got
  have hse:=hok.sent
  have h1:ConOk (M+size+100) {c with got:=c.got+size}:=⟨hok.cid,hok.addr,by simp only;omega,by simp only;omega,hok.heard,hok.runs,hok.credit,hok.slen,hok.str⟩
  have h2:ConInv s.c {c with got:=c.got+size}:=⟨(h.inv c hc).str,(h.inv c hc).high,(h.inv c hc).runs,(h.inv c hc).fol⟩
  split
  ·exact h0
  ·split
   ·exact SrvInv.set h0 hk h1 h2 rfl hwa (Int.le_refl _) (by omega)
   ·next c2 hc2=>
    obtain⟨q1,q2,q3,q4,q5,_,_⟩:=nV h1 h2 hnum hc2
    refine(lP (L:=L+1) N ?_ (aK hk) hb).mono (Int.le_refl _) (by omega)
    refine SrvInv.set (h.mono (by omega) (by omega)) hk ?_ ?_ q3 ?_ (Int.le_refl _) (by omega)
    ·exact⟨q1.cid,q1.addr,q1.got,q1.sent,h.now,q1.runs,q1.credit,q1.slen,q1.str⟩
    ·exact⟨q2.str,q2.high,q2.runs,q2.fol⟩
    ·simp only;rw[q4,q5];exact hwa
theorem rE{b:List Int}(hb:Bytes b){d:DgS}(h:fK b=some d):(d.kind=1\/d.kind=2)/\(0<=d.cid/\d.cid<=1073741823)/\(0<=d.num/\d.num<=1073741823)/\Bytes d.tok/\Bytes d.frames/\d.tok.length<=b.length/\d.frames.length<=b.length:=by
 have hv:∀l,Bytes l->0<=ec l/\ec l<=1073741823:=fun l hl=>by have:=jW hl;omega
 unfold fK at h
 simp only at h
 split at h
 ·cases h
 ·split at h
  ·cases h
  ·split at h
   ·cases h
   ·have v1:=hv _ (hb.drop 1)
    have v2:=hv _ ((hb.drop 1).drop (gsz (b.drop 1)).toNat)
    have b3:=((hb.drop 1).drop (gsz (b.drop 1)).toNat).drop (gsz ((b.drop 1).drop (gsz (b.drop 1)).toNat)).toNat
    have l3:(((b.drop 1).drop (gsz (b.drop 1)).toNat).drop (gsz ((b.drop 1).drop (gsz (b.drop 1)).toNat)).toNat).length<=b.length:=by simp only[List.length_drop];omega
    generalize ((b.drop 1).drop (gsz (b.drop 1)).toNat).drop (gsz ((b.drop 1).drop (gsz (b.drop 1)).toNat)).toNat=r3 at *
    split at h
    ·split at h
     ·cases h
     ·simp only[Option.some.injEq]at h
      subst h
      exact⟨Or.inl rfl,v1,by simp,b3.take _,b3.drop _,by simp only[List.length_take];omega,by simp only[List.length_drop];omega⟩
    ·split at h
     ·simp only[Option.some.injEq]at h
      subst h
      exact⟨Or.inr rfl,v1,v2,fun x hx=>(by cases hx),b3,by simp,l3⟩
     ·cases h
theorem oj{M L:Int}{s:ay}{addr:Int}{b:List Int}(h:SrvInv M L s)(hM:0<=M)(hb:Bytes b):SrvInv (M+b.length+100) (L+2) (bg s addr b).1:=by
 have h0:SrvInv (M+b.length+100) (L+2) s:=h.mono (by omega) (by omega)
 unfold bg
 split
 ·exact h0
 ·next ha=>
  split
  ·exact h0
  ·next d hd=>
   obtain⟨_,k2,k3,_,k5,_,_⟩:=rE hb hd
   split
   ·exact hello_inv h k2 (by omega) (by omega) hM k5
   ·exact data_inv h k3 (by omega) k5
theorem oY{M L:Int}{s:ay}(h:SrvInv M L s):SrvInv M L (bW s).2.2:=by
 unfold bW
 split
 ·exact h
 ·split
  ·exact h
  ·next j _ c hc=>
   have hm:=lMm hc
   have hok:=h.ok c hm
   have hi:=h.inv c hm
   exact SrvInv.set h hc ⟨hok.cid,hok.addr,hok.got,hok.sent,hok.heard,hok.runs,hok.credit,hok.slen,hok.str⟩ ⟨hi.str,hi.high,hi.runs,hi.fol⟩ rfl ⟨Int.le_refl _,h.last.1,fun _=>rfl⟩ (Int.le_refl _) h.last.2
theorem new_inv{g:Cfg}(h:bM g):SrvInv 0 0 (cK g):=
 ⟨h,by simp[cK],by simp[cK];have:=h.c0;omega,by simp[cK],fun c hc=>(by simp[cK]at hc),fun c hc=>(by simp[cK]at hc),fun c hc=>(by simp[cK]at hc),by simp[cK]⟩
def bm(l:List aR):Int:=((l.filter fun x=>x.done).map fun x=>x.final).sum
def bE{α:Type}(f:Int->Int)(l:List (Int×α)):Int:=(l.map fun p=>f p.1).sum
def atS(h:aR->Int)(l:List aR)(id:Int):Int:=((l[id.toNat]?).map h).getD 0
theorem l6{α:Type}(p:α->Bool)(f:α->Int)(l:List α):((l.filter p).map f).sum=(l.map fun i=>if p i then f i else 0).sum:=by
 induction l with
 |nil=>rfl
 |cons a t ih=>
  by_cases h:p a=true
  ·simp[h,ih]
  ·simp[h,ih]
theorem sum_add{α:Type}(f g:α->Int)(l:List α):(l.map fun i=>f i+g i).sum=(l.map f).sum+(l.map g).sum:=by
 induction l with
 |nil=>rfl
 |cons a t ih=>simp[ih];omega
theorem nF{α:Type}(h:α->Int)(l:List α):l.map h=(List.range l.length).map fun i=>((l[i]?).map h).getD 0:=by
 apply List.ext_getElem
 ·simp
 ·intro i h1 h2
  simp at h1
  simp[lGe h1]
theorem perm_sum{a b:List Int}(h:a.Perm b):a.sum=b.sum:=by
 induction h with
 |nil=>rfl
 |cons x _ ih=>simp[ih]
 |swap x y l=>simp;omega
 |trans _ _ h1 h2=>exact h1.trans h2
theorem vR{ks:List Nat}{n:Nat}(f:Nat->Int)(hn:ks.Nodup)(hk:∀k∈ks,k<n):(ks.map f).sum=((List.range n).map fun i=>if i∈ks then f i else 0).sum:=by
 have hp:((List.range n).filter fun i=>decide (i∈ks)).Perm ks:=by
  rw[List.perm_ext_iff_of_nodup (List.nodup_range.filter _) hn]
  intro a
  simp only[List.mem_filter,List.mem_range,decide_eq_true_eq]
  exact⟨fun h=>h.2,fun h=>⟨hk a h,h⟩⟩
 have h1:=perm_sum (hp.map f)
 rw[<-h1,l6]
 congr 1
 refine List.map_congr_left fun i _=>?_
 by_cases h:i∈ks<;>simp[h]
structure MapS{α:Type}(piece:Int)(l:List aR)(sl:List (Int×α)):Prop where
 nd:(sl.map (·.1)).Nodup
 str:∀p∈sl,0<=p.1/\∃x,l[p.1.toNat]? =some x/\x.done=false
 non:∀(i:Nat) x,l[i]? =some x->x.done=false->(i:Int)∉sl.map (·.1)->x=aU piece
theorem xg{α:Type}{gaps piece:Int}{l:List aR}{sl:List (Int×α)}(hi:∀x∈l,StrInv gaps x)(h:MapS piece l sl):cV l=bm l+bE (atS (·.highest) l) sl:=by
 have hks:(sl.map fun p=>p.1.toNat).Nodup:=by
  have:(sl.map fun p=>p.1.toNat)=(sl.map (·.1)).map Int.toNat:=by rw[List.map_map];rfl
  rw[this]
  have hn:=h.nd
  have hpos:∀x∈sl.map (·.1),0<=x:=by
   intro x hx
   obtain⟨p,hp,rfl⟩:=List.mem_map.1 hx
   exact(h.str p hp).1
  generalize sl.map (·.1)=ids at hn hpos
  induction ids with
  |nil=>simp
  |cons a t ih=>
   rw[List.nodup_cons]at hn
   simp only[List.map_cons,List.nodup_cons]
   refine⟨fun hm=>?_,ih hn.2 (fun x hx=>hpos x (by simp[hx]))⟩
   obtain⟨b,hb,e⟩:=List.mem_map.1 hm
   have h1:=hpos a (by simp)
   have h2:=hpos b (by simp[hb])
   have:a=b:=by omega
   subst this
   exact hn.1 hb
 have hlt:∀k∈(sl.map fun p=>p.1.toNat),k<l.length:=by
  intro k hk
  obtain⟨p,hp,rfl⟩:=List.mem_map.1 hk
  obtain⟨_,x,hx,_⟩:=h.str p hp
  exact(lLt hx)
 have e1:bE (atS (·.highest) l) sl=((sl.map fun p=>p.1.toNat).map fun i=>((l[i]?).map (·.highest)).getD 0).sum:=by
  unfold bE atS
  rw[List.map_map]
  rfl
 have e2:bm l=((List.range l.length).map fun i=>((l[i]?).map fun x=>if x.done then x.final else 0).getD 0).sum:=by
  unfold bm
  rw[l6,nF]
 have e3:cV l=((List.range l.length).map fun i=>((l[i]?).map (·.highest)).getD 0).sum:=by
  unfold cV
  rw[nF]
 rw[e1,e2,e3,vR _ hks hlt,<-sum_add]
 congr 1
 refine List.map_congr_left fun i hir=>?_
 have hil:i<l.length:=List.mem_range.1 hir
 have hx:l[i]? =some l[i]:=lGe hil
 have hin:=hi _ (List.getElem_mem hil)
 generalize l[i]=x at hx hin
 rw[hx]
 simp only[Option.map_some,Option.getD_some]
 have hmem:i∈(sl.map fun p=>p.1.toNat)↔(i:Int)∈sl.map (·.1):=by
  constructor
  ·intro hm
   obtain⟨p,hp,e⟩:=List.mem_map.1 hm
   have:=(h.str p hp).1
   exact List.mem_map.2 ⟨p,hp,by omega⟩
  ·intro hm
   obtain⟨p,hp,e⟩:=List.mem_map.1 hm
   exact List.mem_map.2 ⟨p,hp,by omega⟩
 cases hd:x.done with
 |true=>
  have hd2:=hin.dn hd
  have hfin:=hin.fin hd2.2.1
  have hnk:i∉(sl.map fun p=>p.1.toNat):=by
   intro hm
   obtain⟨p,hp,e⟩:=List.mem_map.1 hm
   obtain⟨_,y,hy,hyd⟩:=h.str p hp
   rw[e,hx]at hy
   simp only[Option.some.injEq]at hy
   subst hy
   rw[hd]at hyd
   cases hyd
  simp[hnk,hfin]
 |false=>
  by_cases hk:i∈(sl.map fun p=>p.1.toNat)
  ·simp[hk]
  ·have:=h.non i x hx hd (fun hm=>hk (hmem.2 hm))
   subst this
   simp[hk,aU]
structure ir where
 bytes:List Int
 fin:Bool
 rst:Bool
def bS(r n:Int):Int:=if 1073741823<r+n then 1073741823 else r+n
def du(x:aR)(most:Int):Nat:=min most.toNat (bC x.bytes)
def aM(x:aR)(most:Int):ir×aR:=
 (⟨x.bytes.take (du x most),!x.reset&&decide (x.read+du x most=x.final),x.reset⟩,
  {x with bytes:=x.bytes.drop (du x most),read:=x.read+du x most,done:=(!x.reset&&decide (x.read+du x most=x.final)) || x.reset})
def fX(g:Cfg)(x:aR):Bool:=decide (x.final<0)&&decide (x.credit<x.read+g.c2/2)&&decide (x.credit<1073741823)
def fu(g:Cfg)(c:aw)(id:Nat)(x:aR):aw×List (Int×List Int):=
 if fX g x then
  let c1:={c with streams:=c.streams.set id {x with credit:=bS x.read g.c2}}
  let f:=[17]++az id++az (bS x.read g.c2)
  (bt c1 f,ca c1 f [])
 else({c with streams:=c.streams.set id x},[])
def iA(g:Cfg)(r:aw×List (Int×List Int)):aw×List (Int×List Int):=
 if decide (r.1.credit<readAll r.1.streams+g.c1/2)&&decide (r.1.credit<1073741823) then
  let c1:={r.1 with credit:=bS (readAll r.1.streams) g.c1}
  let f:=[16]++az c1.credit
  (bt c1 f,ca c1 f r.2)
 else r
def eW(g:Cfg)(on:Bool)(r:aw×List (Int×List Int)):aw×List (Int×List Int):=
 if on&&decide (r.1.streams.length<1073741823) then
  let c1:={r.1 with streams:=lD g.c2 r.1.streams (r.1.streams.length+1)}
  let f:=[18]++az c1.streams.length
  (bt c1 f,ca c1 f r.2)
 else r
def fD(g:Cfg)(c:aw)(id:Nat)(x:aR)(most:Int):aw×List (Int×List Int):=
 eW g (!x.done&&((aM x most).1.fin ||(aM x most).1.rst)) (iA g (fu g c id (aM x most).2))
def jg:ir:=⟨[],false,false⟩
def cR(s:ay)(cid id most:Int):Int×ir×ay×List (Int×List Int):=
 match ei s.conns cid with
 |none=>(3,jg,s,[])
 |some i=>match s.conns[i]? with
  |none=>(3,jg,s,[])
  |some c=>if c.proven=false then(3,jg,s,[])
   else if id<0\/(c.streams.length:Int)<=id\/most<0 then(2,jg,s,[])
   else match c.streams[id.toNat]? with
    |none=>(2,jg,s,[])
    |some x=>(0,(aM x most).1,{s with conns:=s.conns.set i (fD s.c c id.toNat x most).1},(fD s.c c id.toNat x most).2)
theorem tw(l:List aR)(x:aR):readAll (l++[x])=readAll l+eZ x:=by
 simp[readAll,List.sum_append]
theorem sk(base:Int)(l:List Int)(m:Nat):
  (if(l.take (bC l)).drop m=[] then aX (base+bC l) (l.drop (bC l)) else(base+min (m:Int) (l.take (bC l)).length,(l.take (bC l)).drop m)::aX (base+bC l) (l.drop (bC l)))=aX (base+(min m (bC l):Nat)) (l.drop (min m (bC l))):=by
 have hll:=kO l
 have htl:(l.take (bC l)).length=bC l:=by rw[List.length_take];omega
 rcases Nat.lt_or_ge m (bC l) with h|h
 ·have hne:¬(l.take (bC l)).drop m=[]:=fun e=>by
   have:=congrArg List.length e
   rw[List.length_drop,htl]at this
   simp at this
   omega
  have hmin:min m (bC l)=m:=by omega
  have hld:=leadS_drop l m (by omega)
  rw[if_neg hne,hmin,gP (l.drop m) (base+m) (by omega),hld,htl,List.drop_drop,List.drop_take]
  have e1:min (m:Int) (bC l)=m:=by omega
  have e2:base+(m:Int)+((bC l-m:Nat):Int)=base+bC l:=by omega
  have e3:m+(bC l-m)=bC l:=by omega
  rw[e1,e2,e3]
 ·have hn:(l.take (bC l)).drop m=[]:=List.drop_eq_nil_of_le (by omega)
  have hmin:min m (bC l)=bC l:=by omega
  rw[if_pos hn,hmin]
theorem vU(x:aR)(most:Int):(x.bytes.take (bC x.bytes)).take most.toNat=x.bytes.take (du x most):=by
 rw[List.take_take]
 rfl
end Go.Proofs.YthmdjhlhodpbhaaGreatDoor
namespace Go.Proofs.YthmdjhlhodpbhaaGreatDoor
open Go.RowKit
def dw(bytes ahead read:Int):Int:=if bytes<read+ahead/2 then min (read+ahead) 1073741823 else bytes
theorem iC(bytes ahead:Int)(w:World):
  Calls Tryz.prog 69 #[.agg #[.int .i64 bytes,.int .i64 ahead]] w fun e w'=>e=.returned (.int .i64 bytes)/\Below w.heap.size w w':=by
 go_enter Tryz.func69,Tryz.ntmps69
 go_wp2_with fail
 go_ret
 exact⟨rfl,ag _ _⟩
theorem n6(bytes ahead read:Int)(b o:Nat)(cs:Array Value)(t:TypeId)(w:World)(hblk:w.heap[b]? =some (.cells cs t (0,0)))(h0:cs[o]? =some (.int .i64 bytes))(h1:cs[o+1]? =some (.int .i64 ahead))
  (ha:0<=ahead/\ahead<=1073741823) (hr:0<=read/\read<=1099511627776):
  Calls Tryz.prog 80 #[.pointer (some ⟨b,o,none⟩),.int .i64 read] w fun e w'=>e=.returned (.bool (decide (bytes<dw bytes ahead read)))/\w'=(if bytes<read+ahead/2 then w.setCell ⟨b,o,none⟩ (.int .i64 (dw bytes ahead read)) else w):=by
 have c0:w.cell? ⟨b,o,none⟩= some (.int .i64 bytes):=by simp only[World.cell?,hblk];exact h0
 have c1:w.cell? ⟨b,o+1,none⟩= some (.int .i64 ahead):=by simp only[World.cell?,hblk];exact h1
 have z0:w.frozen? ⟨b,o,none⟩= false:=frozen_of_row w b o _ _ hblk
 have hq:Int.tdiv ahead 2=ahead/2:=Int.tdiv_eq_ediv_of_nonneg ha.1
 have w1:IntKind.i64.wrap (ahead/2)=ahead/2:=by rw[IntKind.wrap_i64];omega
 have w2:IntKind.i64.wrap (read+ahead/2)=read+ahead/2:=by rw[IntKind.wrap_i64];omega
 have w3:IntKind.i64.wrap (read+ahead)=read+ahead:=by rw[IntKind.wrap_i64];omega
 unfold dw
 clear hblk h0 h1
 by_cases hl:bytes<read+ahead/2
 ·rw[if_pos hl,if_pos hl]
  go_enter Tryz.func80,Tryz.ntmps80
  go_wp2_with fail
  all_goals
   go_ret
   first
   |exact⟨rfl,rfl⟩
   |(rw[Int.min_eq_right (by omega)];exact⟨rfl,rfl⟩)
   |(rw[Int.min_eq_left (by omega)];exact⟨rfl,rfl⟩)
 ·rw[if_neg hl,if_neg hl]
  go_enter Tryz.func80,Tryz.ntmps80
  go_wp2_with fail
  go_ret
  exact⟨by simp,rfl⟩
theorem u7(ahead:Int)(w:World):
  Calls Tryz.prog 165 #[.int .i64 ahead] w fun e w'=>e=.returned (.agg #[.int .i64 ahead,.int .i64 ahead])/\Below w.heap.size w w':=by
 go_enter Tryz.func165,Tryz.ntmps165
 go_wp2_with fail
 refine bodyPost_ret (results_cell_row (P:=Tryz.prog) Tryz.results165 _ _ w.heap.size 133 #[.int .i64 ahead,.int .i64 ahead] (0,0) _ rfl (heap_alloc_new _ _) Tryz.underlying133 rfl (by kernel_rfl)) rfl ?_
 exact⟨rfl,ag _ _⟩
def gN(ty id ofs:Int)(bv:Value)(en pf:Int):Value:=.agg #[.int .i64 ty,.int .i64 id,.int .i64 ofs,bv,.int .i64 en,.int .i64 pf]
theorem gX(ty id ofs:Int)(bv:Value)(en pf:Int)(w:World):
  Calls Tryz.prog 230 #[gN ty id ofs bv en pf] w fun e w'=>e=.returned (.bool (dC ty))/\Below w.heap.size w w':=by
 unfold gN dC
 by_cases h4:ty=4
 ·subst h4
  go_enter Tryz.func230,Tryz.ntmps230
  go_wp2_with fail
  go_ret
  exact⟨rfl,ag _ _⟩
 ·have hd2:(ty==4)=false:=by simpa using h4
  rw[hd2]
  go_enter Tryz.func230,Tryz.ntmps230
  go_wp2_with fail
  go_ret
  exact⟨by simp,ag _ _⟩
theorem qg(b:Nat)(rd:Int)(w:World)(hc:w.cell? ⟨b,1,none⟩= some (.int .i64 rd)):
  Calls Tryz.prog 134 #[.pointer (some ⟨b,0,none⟩)] w fun e w'=>e=.returned (.int .i64 rd)/\w'=w:=by
 go_enter Tryz.func134,Tryz.ntmps134
 go_wp2_with fail
 go_ret
 exact⟨rfl,rfl⟩
theorem tI(b:Nat)(hi:Int)(w:World)(hc:w.cell? ⟨b,2,none⟩= some (.int .i64 hi)):
  Calls Tryz.prog 225 #[.pointer (some ⟨b,0,none⟩)] w fun e w'=>e=.returned (.int .i64 hi)/\w'=w:=by
 go_enter Tryz.func225,Tryz.ntmps225
 go_wp2_with fail
 go_ret
 exact⟨rfl,rfl⟩
theorem vS(b:Nat)(cr ah:Int)(w:World)(hc:w.cell? ⟨b,3,none⟩= some (.int .i64 cr))(hd:w.cell? ⟨b,4,none⟩= some (.int .i64 ah)):
  Calls Tryz.prog 79 #[.pointer (some ⟨b,0,none⟩)] w fun e w'=>e=.returned (.int .i64 cr)/\Below w.heap.size w w':=by
 have HX:=ab (iC cr ah w)
 go_enter Tryz.func79,Tryz.ntmps79
 go_wp2_with fail
 refine HX.out.mono ?_
 rintro e w1 ⟨rfl,hb1⟩
 go_wp2_with fail
 go_ret
 exact⟨rfl,hb1⟩
theorem ko(ty id ofs:Int)(bv:Value)(en pf fi:Int)(w:World):
  Calls Tryz.prog 224 #[gN ty id ofs bv en pf,.int .i64 fi] w fun e w'=>e=.returned (.int .i64 (ft ty en fi))/\Below w.heap.size w w':=by
 have HX:Hid (∀W,Calls Tryz.prog 230 #[.agg #[.int .i64 ty,.int .i64 id,.int .i64 ofs,bv,.int .i64 en,.int .i64 pf]] W fun e w'=>e=.returned (.bool (dC ty))/\Below W.heap.size W w'):=fun W=>gX ty id ofs bv en pf W
 unfold gN ft
 by_cases h1:fi<en
 ·rw[if_pos (Or.inl h1)]
  have hd:decide (fi<en)=true:=by simpa using h1
  go_enter Tryz.func224,Tryz.ntmps224
  go_wp2_with fail
  go_ret
  exact⟨rfl,ag _ _⟩
 ·have hd:decide (fi<en)=false:=by simpa using h1
  have hcode:∀t:Bool,dC ty=t->(if fi<en\/(dC ty=true/\en≠fi) then(6:Int) else 0)=if(t&&(en != fi))=true then 6 else 0:=by
   intro t ht
   rw[ht]
   cases t<;>simp[h1,bne]
  replace hcode:=ab hcode
  have HC:Hid (∀W:World,Below (w.alloc (.cells #[.int .i64 ty,.int .i64 id,.int .i64 ofs,bv,.int .i64 en,.int .i64 pf] 286)).heap.size (w.alloc (.cells #[.int .i64 ty,.int .i64 id,.int .i64 ofs,bv,.int .i64 en,.int .i64 pf] 286)) W->W.cell? ⟨w.heap.size,4,none⟩= some (.int .i64 en)/\Below w.heap.size w W):=by
   intro W hW
   refine⟨ae ?_ hW,ai (ag _ _) hW⟩
   simp only[World.cell?,heap_alloc_new]
   rfl
  cases ht:dC ty with
  |false=>
   have hc:=ab (hcode.out _ ht)
   rw[ht]at HX hc
   rw[hc.out]
   go_enter Tryz.func224,Tryz.ntmps224
   go_wp2_with fail
   refine(HX.out _).mono ?_
   rintro e w1 ⟨rfl,hb1⟩
   obtain⟨c4,hbw⟩:=HC.out w1 hb1
   clear hb1 HC HX hc hcode
   go_wp2_with fail
   go_ret
   exact⟨rfl,hbw⟩
  |true=>
   have hc:=ab (hcode.out _ ht)
   rw[ht]at HX hc
   rw[hc.out]
   by_cases hn:en=fi
   ·subst hn
    rw[if_neg (by simp)]
    have hne:(en != en)=false:=by simp
    go_enter Tryz.func224,Tryz.ntmps224
    go_wp2_with fail
    refine(HX.out _).mono ?_
    rintro e w1 ⟨rfl,hb1⟩
    obtain⟨c4,hbw⟩:=HC.out w1 hb1
    clear hb1 HC HX hc hcode
    go_wp2_with fail
    go_ret
    exact⟨rfl,hbw⟩
   ·have hne:(en != fi)=true:=by simpa using hn
    have hne2:(en==fi)=false:=by simpa using hn
    rw[hne,if_pos (by decide)]
    go_enter Tryz.func224,Tryz.ntmps224
    go_wp2_with fail
    refine(HX.out _).mono ?_
    rintro e w1 ⟨rfl,hb1⟩
    obtain⟨c4,hbw⟩:=HC.out w1 hb1
    clear hb1 HC HX hc hcode
    go_wp2_with fail
    go_ret
    exact⟨rfl,hbw⟩
theorem nP(b:Nat)(hi cr ah en room:Int)(w:World)(h2:w.cell? ⟨b,2,none⟩= some (.int .i64 hi))(h3:w.cell? ⟨b,3,none⟩= some (.int .i64 cr))(h4:w.cell? ⟨b,4,none⟩= some (.int .i64 ah))
  (hh:0<=hi/\hi<=1073741823) (he:0<=en/\en<=1099511627776):
  Calls Tryz.prog 228 #[.pointer (some ⟨b,0,none⟩),.int .i64 en,.int .i64 room] w fun e w'=>e=.returned (.int .i64 (iR hi cr en room))/\Below w.heap.size w w':=by
 have HX:=ab (iC cr ah w)
 have hw:IntKind.i64.wrap (en-hi)=en-hi:=by rw[IntKind.wrap_i64];omega
 unfold iR
 by_cases h1:cr<en
 ·rw[if_pos (Or.inl h1)]
  have hd:decide (cr<en)=true:=by simpa using h1
  go_enter Tryz.func228,Tryz.ntmps228
  go_wp2_with fail
  refine HX.out.mono ?_
  rintro e w1 ⟨rfl,hb1⟩
  have c2:=ae h2 hb1
  clear HX
  go_wp2_with fail
  go_ret
  exact⟨rfl,hb1⟩
 ·have hd:decide (cr<en)=false:=by simpa using h1
  by_cases h5:room<en-hi
  ·rw[if_pos (Or.inr h5)]
   go_enter Tryz.func228,Tryz.ntmps228
   go_wp2_with fail
   refine HX.out.mono ?_
   rintro e w1 ⟨rfl,hb1⟩
   have c2:=ae h2 hb1
   clear HX
   go_wp2_with fail
   go_ret
   exact⟨rfl,hb1⟩
  ·rw[if_neg (by omega)]
   go_enter Tryz.func228,Tryz.ntmps228
   go_wp2_with fail
   refine HX.out.mono ?_
   rintro e w1 ⟨rfl,hb1⟩
   have c2:=ae h2 hb1
   clear HX
   go_wp2_with fail
   go_ret
   exact⟨rfl,hb1⟩
theorem qS(b:Nat)(hi fi:Int)(kn:Bool)(ty id ofs:Int)(bv:Value)(en pf:Int)(w:World)(h2:w.cell? ⟨b,2,none⟩= some (.int .i64 hi))(h5:w.cell? ⟨b,5,none⟩= some (.int .i64 fi))(h6:w.cell? ⟨b,6,none⟩= some (.bool kn)):
  Calls Tryz.prog 227 #[.pointer (some ⟨b,0,none⟩),gN ty id ofs bv en pf] w fun e w'=>e=.returned (.int .i64 (uI kn ty en hi fi))/\Below w.heap.size w w':=by
 have HX:Hid (∀W,Calls Tryz.prog 230 #[.agg #[.int .i64 ty,.int .i64 id,.int .i64 ofs,bv,.int .i64 en,.int .i64 pf]] W fun e w'=>e=.returned (.bool (dC ty))/\Below W.heap.size W w'):=fun W=>gX ty id ofs bv en pf W
 have HF:Hid (∀W,Calls Tryz.prog 224 #[.agg #[.int .i64 ty,.int .i64 id,.int .i64 ofs,bv,.int .i64 en,.int .i64 pf],.int .i64 fi] W fun e w'=>e=.returned (.int .i64 (ft ty en fi))/\Below W.heap.size W w'):=fun W=>ko ty id ofs bv en pf fi W
 have hne:b≠w.heap.size:=Nat.ne_of_lt (cS h2)
 have HC:Hid (∀W:World,Below (w.alloc (.cells #[.int .i64 ty,.int .i64 id,.int .i64 ofs,bv,.int .i64 en,.int .i64 pf] 286)).heap.size (w.alloc (.cells #[.int .i64 ty,.int .i64 id,.int .i64 ofs,bv,.int .i64 en,.int .i64 pf] 286)) W->W.cell? ⟨w.heap.size,4,none⟩= some (.int .i64 en)/\W.cell? ⟨b,2,none⟩= some (.int .i64 hi)/\Below w.heap.size w W):=by
  intro W hW
  refine⟨ae ?_ hW,ae h2 (ai (ag _ _) hW),ai (ag _ _) hW⟩
  simp only[World.cell?,heap_alloc_new]
  rfl
 have q2:=ae h2 (ag w (.cells #[.int .i64 ty,.int .i64 id,.int .i64 ofs,bv,.int .i64 en,.int .i64 pf] 286))
 have q5:=ae h5 (ag w (.cells #[.int .i64 ty,.int .i64 id,.int .i64 ofs,bv,.int .i64 en,.int .i64 pf] 286))
 have q6:=ae h6 (ag w (.cells #[.int .i64 ty,.int .i64 id,.int .i64 ofs,bv,.int .i64 en,.int .i64 pf] 286))
 have HA:Hid (∀W w':World,Below W.heap.size W w'->(W.cell? ⟨b,2,none⟩= some (.int .i64 hi)/\W.cell? ⟨w.heap.size,0,none⟩= some (.int .i64 ty)/\W.cell? ⟨w.heap.size,1,none⟩= some (.int .i64 id)/\W.cell? ⟨w.heap.size,2,none⟩= some (.int .i64 ofs)/\W.cell? ⟨w.heap.size,3,none⟩= some (bv)/\W.cell? ⟨w.heap.size,4,none⟩= some (.int .i64 en)/\W.cell? ⟨w.heap.size,5,none⟩= some (.int .i64 pf))->(w'.cell? ⟨b,2,none⟩= some (.int .i64 hi)/\w'.cell? ⟨w.heap.size,0,none⟩= some (.int .i64 ty)/\w'.cell? ⟨w.heap.size,1,none⟩= some (.int .i64 id)/\w'.cell? ⟨w.heap.size,2,none⟩= some (.int .i64 ofs)/\w'.cell? ⟨w.heap.size,3,none⟩= some (bv)/\w'.cell? ⟨w.heap.size,4,none⟩= some (.int .i64 en)/\w'.cell? ⟨w.heap.size,5,none⟩= some (.int .i64 pf))):=
  fun W w' hb h=>⟨ae h.1 hb,ae h.2.1 hb,ae h.2.2.1 hb,ae h.2.2.2.1 hb,ae h.2.2.2.2.1 hb,ae h.2.2.2.2.2.1 hb,ae h.2.2.2.2.2.2 hb⟩
 unfold gN uI
 cases kn with
 |true=>
  rw[if_pos rfl]
  go_enter Tryz.func227,Tryz.ntmps227
  go_wp2_with fail
  go_region_with (first
   |(go_at_call 224;refine(HF.out _).mono ?_;rintro e w1 ⟨rfl,hb1⟩))
  all_goals (
   have hbw:=(HC.out w1 (aq hb1)).2.2
   clear hb1 HC HX HF q2 q5 q6
   go_wp2_with fail
   go_ret
   exact⟨rfl,hbw⟩)
 |false=>
  rw[if_neg (by decide)]
  cases ht:dC ty with
  |false=>
   rw[ht]at HX
   rw[if_neg (by simp)]
   go_enter Tryz.func227,Tryz.ntmps227
   go_wp2_with fail
   first
    |(go_region_with (first
      |(go_at_call 230;refine(HX.out _).mono ?_;rintro e w1 ⟨rfl,hb1⟩)))
    |fail
   all_goals (
    have hbw:=ai (ag w _) (aq hb1)
    clear hb1 HC HX HF q2 q5 q6 HA
    go_wp2_with fail
    go_ret
    exact⟨rfl,hbw⟩)
  |true=>
   rw[ht]at HX
   by_cases hl:en<hi
   ·rw[if_pos ⟨rfl,hl⟩]
    go_enter Tryz.func227,Tryz.ntmps227
    go_wp2_with fail
    go_region_held3 (fun w'=>w'.cell? ⟨b,2,none⟩= some (.int .i64 hi)/\w'.cell? ⟨w.heap.size,0,none⟩= some (.int .i64 ty)/\w'.cell? ⟨w.heap.size,1,none⟩= some (.int .i64 id)/\w'.cell? ⟨w.heap.size,2,none⟩= some (.int .i64 ofs)/\w'.cell? ⟨w.heap.size,3,none⟩= some (bv)/\w'.cell? ⟨w.heap.size,4,none⟩= some (.int .i64 en)/\w'.cell? ⟨w.heap.size,5,none⟩= some (.int .i64 pf)) (first|assumption|go_keep) (first
     |(go_at_call 230;refine(HX.out _).mono ?_;rintro e w1 ⟨rfl,hb1⟩;have hSq:=HA.out _ _ hb1 (by assumption)))
    all_goals (
     have hbw:=ai (ag w _) (aq hb1)
     clear hb1 HC HX HF q2 q5 q6 HA
     go_wp2_with fail
     go_ret
     exact⟨rfl,hbw⟩)
   ·rw[if_neg (fun h=>hl h.2)]
    go_enter Tryz.func227,Tryz.ntmps227
    go_wp2_with fail
    go_region_held3 (fun w'=>w'.cell? ⟨b,2,none⟩= some (.int .i64 hi)/\w'.cell? ⟨w.heap.size,0,none⟩= some (.int .i64 ty)/\w'.cell? ⟨w.heap.size,1,none⟩= some (.int .i64 id)/\w'.cell? ⟨w.heap.size,2,none⟩= some (.int .i64 ofs)/\w'.cell? ⟨w.heap.size,3,none⟩= some (bv)/\w'.cell? ⟨w.heap.size,4,none⟩= some (.int .i64 en)/\w'.cell? ⟨w.heap.size,5,none⟩= some (.int .i64 pf)) (first|assumption|go_keep) (first
     |(go_at_call 230;refine(HX.out _).mono ?_;rintro e w1 ⟨rfl,hb1⟩;have hSq:=HA.out _ _ hb1 (by assumption)))
    all_goals (
     have hbw:=ai (ag w _) (aq hb1)
     clear hb1 HC HX HF q2 q5 q6 HA
     go_wp2_with fail
     go_ret
     exact⟨rfl,hbw⟩)
end Go.Proofs.YthmdjhlhodpbhaaGreatDoor
