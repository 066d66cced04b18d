/- Bounded, 31 -/
import Derived.Test.YthmdjhlhodpbhaaGreatDoorJ07
import Derived.Test.YthmdjhlhodpbhaaGreatDoorJ21
import Derived.Test.YthmdjhlhodpbhaaGreatDoorJ26
import Derived.Test.YthmdjhlhodpbhaaGreatDoorJ30
set_option maxHeartbeats 16000000
set_option maxRecDepth 8000
namespace Go.Proofs.YthmdjhlhodpbhaaGreatDoor
open Go.RowKit
theorem ConAt.took2{N:Nat}{w w':World}{cb:Nat}{g:Cfg}{c:aq}{a:aD}{sid:Int}{b:Nat}{x y:aO}{lv':Value}(h:ConAt N w cb g c a)(hm:(sid,b)∈a.sl)(hx:c.streams[sid.toNat]? =some x)(hd:x.done=false)(hyd:y.done=false)
  (hc:Chg (fun k=>k=b\/(a.lv sid).ownBlock=some k) w w') {U:Nat->Prop} (hUa:∀k,a.u k->U k) (hUb:∀k,U k->k<w'.heap.size) (hy:StrAt U w' b lv' g.c2 y) (hat:lv'.ownBlock=(a.lv sid).ownBlock\/∀k,lv'.ownBlock=some k->w.heap.size<=k):
  ConAt N w' cb g {c with streams:=c.streams.set sid.toNat y} {a with lv:=fun k=>if k=sid then lv' else a.lv k,u:=U}/\∀k,aU cb {a with lv:=fun k=>if k=sid then lv' else a.lv k,u:=U} k->aU cb a k\/w.heap.size<=k:=by
 have hsx:=h.str (sid,b) hm x hx
 have hblk:=hsx.blk
 obtain⟨vs0,ho0⟩:=hsx.own
 have hF:∀k cur e fr,w.heap[k]? =some (.cells cur e fr)->e≠204->e≠259->¬(k=b\/(a.lv sid).ownBlock=some k):=by
  rintro k cur e fr hk h1 h2 (e1|e1)
  ·subst e1
   simp only at hblk
   rw[hblk]at hk
   simp only[Option.some.injEq,Obj.cells.injEq]at hk
   exact h1 hk.2.1.symm
  ·exact au ho0 hk (fun e=>h2 e.symm) e1
 have hFm:∀k es ck,w.heap[k]? =some (.map es ck)->¬(k=b\/(a.lv sid).ownBlock=some k):=by
  rintro k es ck hk (e1|e1)
  ·subst e1
   simp only at hblk
   rw[hblk]at hk
   cases hk
  ·obtain⟨c1,e2⟩:=aJ ho0 e1
   rw[hk]at e2
   cases e2
 obtain⟨n1,hn1,hm1⟩:=h.smap
 obtain⟨n2,hn2,hm2⟩:=h.dmap
 obtain⟨es1,ck1,hb1⟩:=hm1.is_map
 obtain⟨es2,ck2,hb2⟩:=hm2.is_map
 obtain⟨vs,hvs⟩:=h.pk
 have h0:=(h.mp.str (sid,b) hm).1
 have hsame:∀p∈a.sl,p.1=sid->p.2=b:=by
  intro p hp e
  have h1:=fQ h.mp.nd (show(p.1,p.2)∈a.sl from hp)
  have h2:=fQ h.mp.nd hm
  rw[e,h2]at h1
  simp only[Option.some.injEq]at h1
  exact h1.symm
 constructor
 ·refine⟨?_,⟨vs,bX hvs.own hc (fun k hk e=>?_),hvs.sh⟩,⟨n1,hn1,hm1.same (hc.block _ hm1.lt (hFm _ _ _ hb1))⟩,⟨n2,hn2,hm2.same (hc.block _ hm2.lt (hFm _ _ _ hb2))⟩,?_,?_,?_,h.ne,?_,hUb⟩
  ·have h1:=(h.blk.chg hc (hF _ _ _ _ h.blk (by decide) (by decide))).streams (c.streams.set sid.toNat y) (by simp)
   simp only[pastS_set hx hd hyd]
   exact h1
  ·obtain⟨c1,e1⟩:=aJ hvs.own hk
   exact hF _ _ _ _ e1 (by decide) (by decide) e
  ·refine⟨h.mp.nd,fun p hp=>?_,fun i z hz hzd hk=>?_⟩
   ·obtain⟨p0,z,hz,hzd⟩:=h.mp.str p hp
    refine⟨p0,?_⟩
    by_cases e:p.1.toNat=sid.toNat
    ·rw[e]
     exact⟨y,aC hx,hyd⟩
    ·exact⟨z,by simp only;rw[aA e];exact hz,hzd⟩
   ·have hi:i≠sid.toNat:=by
     intro e
     refine hk (List.mem_map.2 ⟨(sid,b),hm,?_⟩)
     simp only
     rw[e]
     omega
    simp only at hz
    rw[aA hi]at hz
    exact h.mp.non i z hz hzd hk
  ·intro p hp z hz
   by_cases e:p.1=sid
   ·simp only[if_pos e]
    rw[hsame p hp e]
    simp only at hz
    rw[e,aC hx]at hz
    simp only[Option.some.injEq]at hz
    subst hz
    exact hy
   ·simp only[if_neg e]
    have hp0:=(h.mp.str p hp).1
    have e2:p.1.toNat≠sid.toNat:=by omega
    simp only at hz
    rw[aA e2]at hz
    have hap:=h.apart p hp (sid,b) hm e
    refine((h.str p hp z hz).chg hc ?_ ?_ (fun k cur fr hk=>hF k cur _ fr hk (by decide) (by decide))).mono (fun k hk=>hUa k hk)
    ·rintro(e3|e3)
     ·exact hap.1 e3
     ·have hbp:=(h.str p hp z hz).blk
      exact au ho0 hbp (by decide) e3
    ·rintro k hk (e3|e3)
     ·obtain⟨vs1,ho1⟩:=(h.str p hp z hz).own
      subst e3
      exact au ho1 hblk (by decide) hk
     ·exact hap.2 k hk e3
  ·intro id
   rw[h.don id]
   exact(doneAt_set hx hd hyd id).symm
  ·intro p hp q hq hpq
   by_cases e1:p.1=sid
   ·have e2:q.1≠sid:=fun e=>hpq (e1.trans e.symm)
    have hap:=h.apart p hp q hq hpq
    refine⟨hap.1,fun k hk=>?_⟩
    simp only[if_pos e1]at hk
    simp only[if_neg e2]
    rcases hat with e3|e3
    ·rw[e3,<-e1]at hk
     exact hap.2 k hk
    ·intro hk2
     obtain⟨q0,z,hz,_⟩:=h.mp.str q hq
     obtain⟨vs1,ho1⟩:=(h.str q hq z hz).own
     have h1:=(ho1.lt k hk2).2
     have h2:=e3 k hk
     omega
   ·by_cases e2:q.1=sid
    ·have hap:=h.apart p hp q hq hpq
     refine⟨hap.1,fun k hk=>?_⟩
     simp only[if_neg e1]at hk
     simp only[if_pos e2]
     rcases hat with e3|e3
     ·rw[e3,<-e2]
      exact hap.2 k hk
     ·intro hk2
      obtain⟨p0,z,hz,_⟩:=h.mp.str p hp
      obtain⟨vs1,ho1⟩:=(h.str p hp z hz).own
      have h1:=(ho1.lt k hk).2
      have h2:=e3 k hk2
      omega
    ·simp only[if_neg e1,if_neg e2]
     exact h.apart p hp q hq hpq
 ·rintro k (e|e|e|e|⟨p,hp,e⟩)
  ·exact Or.inl (Or.inl e)
  ·exact Or.inl (Or.inr (Or.inl e))
  ·exact Or.inl (Or.inr (Or.inr (Or.inl e)))
  ·exact Or.inl (Or.inr (Or.inr (Or.inr (Or.inl e))))
  ·by_cases e1:p.1=sid
   ·simp only[if_pos e1]at e
    rcases e with e|e
    ·exact Or.inl (Or.inr (Or.inr (Or.inr (Or.inr ⟨p,hp,Or.inl e⟩))))
    ·rcases hat with e3|e3
     ·rw[e3,<-e1]at e
      exact Or.inl (Or.inr (Or.inr (Or.inr (Or.inr ⟨p,hp,Or.inr e⟩))))
     ·exact Or.inr (e3 k e)
   ·simp only[if_neg e1]at e
    exact Or.inl (Or.inr (Or.inr (Or.inr (Or.inr ⟨p,hp,e⟩))))
theorem pastS_done{l:List aO}:∀{i:Nat} {x y:aO},l[i]? =some x->x.done=false->y.done=true->bf (l.set i y)=bf l+y.final:=by
 induction l with
 |nil=>intro i x y h;simp at h
 |cons a t ih=>
  intro i x y h h1 h2
  cases i with
  |zero=>
   simp only[List.getElem?_cons_zero,Option.some.injEq]at h
   subst h
   simp[bf,h1,h2]
   omega
  |succ i=>
   have:=ih (i:=i) (x:=x) (y:=y) (by simpa using h) h1 h2
   simp only[bf,List.set_cons_succ,List.filter_cons]at this⊢
   split
   ·simp only[List.map_cons,List.sum_cons,this]
    omega
   ·exact this
theorem ConAt.finished{N:Nat}{w w':World}{cb:Nat}{g:Cfg}{c:aq}{a:aD}{sid:Int}{b n1 n2:Nat}{x:aO}{e:Ending}(h:ConAt N w cb g c a)(hm:(sid,b)∈a.sl)(hx:c.streams[sid.toNat]? =some x)(hd:x.done=false)(h1:n1<=N)(h2:n2<=N)
  (ho:ko w cb g c a.plv a.sm a.dm (bf c.streams+x.final) n1 (n2+1) (fA a.sl sid) (a.dl++[(sid,(x.final,x.reset))]) e w'):
  ConAt (N+1) w' cb g {c with streams:=c.streams.set sid.toNat {x with done:=true}} {a with sl:=fA a.sl sid,dl:=a.dl++[(sid,(x.final,x.reset))]}/\∀k,aU cb {a with sl:=fA a.sl sid,dl:=a.dl++[(sid,(x.final,x.reset))]} k->aU cb a k:=by
 have hs0:=(h.mp.str (sid,b) hm).1
 have hdel:∀p,p∈fA a.sl sid->p∈a.sl/\p.1≠sid:=fun p hp=>by
  unfold fA at hp
  rw[List.mem_filter]at hp
  refine⟨hp.1,fun e=>?_⟩
  have:=hp.2
  simp[e]at this
 have hblk:w.heap[cb]? =some (.cells (jG g c a.plv a.sm a.dm (bf c.streams)) 137 (0,0)):=h.blk
 obtain⟨m1,_,hm1⟩:=h.smap
 obtain⟨m2,_,hm2⟩:=h.dmap
 obtain⟨es1,ck1,hb1⟩:=hm1.is_map
 obtain⟨es2,ck2,hb2⟩:=hm2.is_map
 have hF:∀k cur t fr,w.heap[k]? =some (.cells cur t fr)->t≠137->¬(k=cb\/k=a.sm\/k=a.dm):=by
  rintro k cur t fr hk ht (e|e|e)
  ·rw[e,hblk]at hk
   simp only[Option.some.injEq,Obj.cells.injEq]at hk
   exact ht hk.2.1.symm
  ·rw[e,hb1]at hk
   cases hk
  ·rw[e,hb2]at hk
   cases hk
 obtain⟨vs,hvs⟩:=h.pk
 have hdn:atK a.dl sid=none:=by
  rw[h.don sid]
  unfold eL
  rw[if_pos hs0,hx]
  simp[hd]
 constructor
 ·refine⟨?_,⟨vs,bX hvs.own ho.chg (fun k hk e=>?_),hvs.sh⟩,⟨n1,by omega,ho.smap⟩,⟨n2+1,by omega,ho.dmap⟩,?_,?_,?_,h.ne,?_,fun k hk=>Nat.lt_of_lt_of_le (h.ul k hk) ho.chg.size⟩
  ·have q:=ho.blk.streams (c.streams.set sid.toNat {x with done:=true}) (by simp)
   simp only[pastS_done (y:={x with done:=true}) hx hd rfl]
   exact q
  ·obtain⟨c1,e1⟩:=aJ hvs.own hk
   exact hF _ _ _ _ e1 (by decide) e
  ·refine⟨delK_nodup h.mp.nd sid,fun p hp=>?_,fun i z hz hzd hk=>?_⟩
   ·obtain⟨q1,q2⟩:=hdel p hp
    obtain⟨p0,z,hz,hzd⟩:=h.mp.str p q1
    have hne:p.1.toNat≠sid.toNat:=by omega
    exact⟨p0,z,by simp only;rw[aA hne];exact hz,hzd⟩
   ·by_cases hi:i=sid.toNat
    ·subst hi
     simp only at hz
     rw[aC hx]at hz
     simp only[Option.some.injEq]at hz
     subst hz
     cases hzd
    ·simp only at hz
     rw[aA hi]at hz
     refine h.mp.non i z hz hzd fun hmem=>hk ?_
     obtain⟨p,hp,e⟩:=List.mem_map.1 hmem
     refine List.mem_map.2 ⟨p,?_,e⟩
     unfold fA
     rw[List.mem_filter]
     refine⟨hp,?_⟩
     have:p.1≠sid:=by omega
     simp[this]
  ·intro p hp z hz
   obtain⟨q1,q2⟩:=hdel p hp
   have hne:p.1.toNat≠sid.toNat:=by
    have:=(h.mp.str p q1).1
    omega
   simp only at hz
   rw[aA hne]at hz
   have hs:=h.str p q1 z hz
   refine hs.chg ho.chg (hF _ _ _ _ hs.blk (by decide)) (fun k hk e=>?_) (fun k cur fr hk=>hF _ _ _ _ hk (by decide))
   obtain⟨vs1,ho1⟩:=hs.own
   obtain⟨c1,e1⟩:=aJ ho1 hk
   exact hF _ _ _ _ e1 (by decide) e
  ·intro id
   simp only
   rw[atK_snoc _ _ _ hdn,h.don id]
   by_cases e:id=sid
   ·subst e
    rw[if_pos rfl]
    unfold eL
    rw[if_pos hs0,aC hx]
    simp
   ·rw[if_neg e]
    unfold eL
    split
    ·have hne:id.toNat≠sid.toNat:=by omega
     rw[aA hne]
    ·rfl
  ·intro p hp q hq hpq
   exact h.apart p (hdel p hp).1 q (hdel q hq).1 hpq
 ·rintro k (e|e|e|e|⟨p,hp,e⟩)
  ·exact Or.inl e
  ·exact Or.inr (Or.inl e)
  ·exact Or.inr (Or.inr (Or.inl e))
  ·exact Or.inr (Or.inr (Or.inr (Or.inl e)))
  ·exact Or.inr (Or.inr (Or.inr (Or.inr ⟨p,(hdel p hp).1,e⟩)))
theorem pastS_snoc{l:List aO}{y:aO}(h:y.done=false):bf (l++[y])=bf l:=by
 simp[bf,List.filter_append,h]
theorem ConAt.grown{N:Nat}{w:World}{cb:Nat}{g:Cfg}{c:aq}{a:aD}(h:ConAt N w cb g c a):
  ConAt N (w.setCell ⟨cb,20,none⟩ (.int .i64 ((c.streams.length+1:Nat):Int))) cb g {c with streams:=c.streams++[aV g.c2]} a:=by
 have hC:Chg (· = cb) w (w.setCell ⟨cb,20,none⟩ (.int .i64 ((c.streams.length+1:Nat):Int))):=aF (Below.refl _ _) 20 _
 have hblk:w.heap[cb]? =some (.cells (jG g c a.plv a.sm a.dm (bf c.streams)) 137 (0,0)):=h.blk
 have hF:∀k cur t fr,w.heap[k]? =some (.cells cur t fr)->t≠137->¬k=cb:=by
  intro k cur t fr hk ht e
  rw[e,hblk]at hk
  simp only[Option.some.injEq,Obj.cells.injEq]at hk
  exact ht hk.2.1.symm
 obtain⟨m1,hn1,hm1⟩:=h.smap
 obtain⟨m2,hn2,hm2⟩:=h.dmap
 obtain⟨es1,ck1,hb1⟩:=hm1.is_map
 obtain⟨es2,ck2,hb2⟩:=hm2.is_map
 obtain⟨vs,hvs⟩:=h.pk
 have hlt:∀p∈a.sl,p.1.toNat<c.streams.length:=fun p hp=>by
  obtain⟨_,z,hz,_⟩:=h.mp.str p hp
  exact(List.getElem?_eq_some_iff.1 hz).1
 refine⟨?_,⟨vs,bX hvs.own hC (fun k hk e=>?_),hvs.sh⟩,⟨m1,hn1,hm1.same (hC.block _ hm1.lt (fun e=>by rw[e,hblk]at hb1;cases hb1))⟩,⟨m2,hn2,hm2.same (hC.block _ hm2.lt (fun e=>by rw[e,hblk]at hb2;cases hb2))⟩,?_,?_,?_,h.ne,h.apart,fun k hk=>Nat.lt_of_lt_of_le (h.ul k hk) hC.size⟩
 ·show _=_
  rw[pastS_snoc rfl]
  refine(ak hblk 20 _).trans ?_
  simp[jG]
 ·obtain⟨c1,e1⟩:=aJ hvs.own hk
  exact hF _ _ _ _ e1 (by decide) e
 ·refine⟨h.mp.nd,fun p hp=>?_,fun i z hz hzd hk=>?_⟩
  ·obtain⟨p0,z,hz,hzd⟩:=h.mp.str p hp
   exact⟨p0,z,by simp only;rw[List.getElem?_append_left (hlt p hp)];exact hz,hzd⟩
  ·simp only at hz
   rcases Nat.lt_or_ge i c.streams.length with hi|hi
   ·rw[List.getElem?_append_left hi]at hz
    exact h.mp.non i z hz hzd hk
   ·rw[List.getElem?_append_right hi]at hz
    cases hj:i-c.streams.length with
    |zero=>
     rw[hj]at hz
     simp only[List.getElem?_cons_zero,Option.some.injEq]at hz
     exact hz.symm
    |succ j=>
     rw[hj]at hz
     simp at hz
 ·intro p hp z hz
  simp only at hz
  rw[List.getElem?_append_left (hlt p hp)]at hz
  have hs:=h.str p hp z hz
  refine hs.chg hC (hF _ _ _ _ hs.blk (by decide)) (fun k hk e=>?_) (fun k cur fr hk=>hF _ _ _ _ hk (by decide))
  obtain⟨vs1,ho1⟩:=hs.own
  obtain⟨c1,e1⟩:=aJ ho1 hk
  exact hF _ _ _ _ e1 (by decide) e
 ·intro id
  rw[h.don id]
  unfold eL
  split
  ·rcases Nat.lt_or_ge id.toNat c.streams.length with hi|hi
   ·rw[List.getElem?_append_left hi]
   ·rw[List.getElem?_append_right hi,List.getElem?_eq_none hi]
    cases hj:id.toNat-c.streams.length with
    |zero=>simp[aV]
    |succ j=>simp
  ·rfl
end Go.Proofs.YthmdjhlhodpbhaaGreatDoor
namespace Go.Proofs.YthmdjhlhodpbhaaGreatDoor
theorem takeK_le(x:aO)(most:Int):cT x most<=x.bytes.length:=by
 have:=jZ x.bytes
 unfold cT
 omega
theorem runsTo_drop(x:aO)(most:Int):dQ (x.bytes.drop (cT x most)) (x.bytes.drop (cT x most)).length<=dQ x.bytes x.bytes.length:=by
 have h:=runs_take x.read x.bytes most.toNat
 rw[<-dj _ (x.read+cT x most),<-dj _ x.read]
 unfold cT
 rw[<-h]
 rcases Nat.eq_zero_or_pos (bq x.bytes) with h0|h0
 ·rw[h0]
  simp
 ·rw[iw x.bytes x.read h0]
  split
  ·simp only[List.length_cons];omega
  ·simp only[List.length_cons];omega
theorem readX_inv{gaps:Int}{x:aO}(h:StrInv gaps x)(most:Int):StrInv gaps (aH x most).2:=by
 have hk:=takeK_le x most
 have h1:=h.read
 have h2:=h.len
 have hl:(x.bytes.drop (cT x most)).length=x.bytes.length-cT x most:=List.length_drop
 refine⟨?_,fun b hb=>h.ent b (List.mem_of_mem_drop hb),?_,h.fin,h.fin0,fun hr=>⟨?_,(h.rst hr).2⟩,fun hd=>?_,Int.le_trans (runsTo_drop x most) h.gaps,h.cred⟩
 ·simp only[aH];omega
 ·simp only[aH];rw[hl];omega
 ·simp only[aH]at hr⊢
  rw[(h.rst hr).1]
  simp
 ·simp only[aH]at hd⊢
  cases hr:x.reset with
  |true=>exact⟨by rw[(h.rst hr).1];simp,(h.rst hr).2,fun h=>by cases h⟩
  |false=>
   rw[hr]at hd
   simp at hd
   have h3:=h.fin (by omega)
   exact⟨List.drop_eq_nil_of_le (by omega),by omega,fun _=>hd⟩
theorem readX_done{gaps:Int}{x:aO}(h:StrInv gaps x)(hd:x.done=true)(most:Int):aH x most=(⟨[],!x.reset,x.reset⟩,x):=by
 obtain⟨h1,h2,h3⟩:=h.dn hd
 have hk:cT x most=0:=by have:=takeK_le x most;rw[h1]at this;simpa using this
 unfold aH
 rw[hk]
 have hf:(!x.reset&&decide (x.read+((0:Nat):Int)=x.final)) = !x.reset:=by
  cases hr:x.reset with
  |true=>rfl
  |false=>simp[h3 hr]
 rw[hf]
 cases x
 simp only at hd h1
 subst hd h1
 simp
theorem iC(x:aO)(most:Int):(aH x most).2.highest=x.highest:=rfl
theorem StrInv.ok{gaps:Int}{x:aO}(h:StrInv gaps x):jJ x:=by
 have h1:=h.read
 have h2:=h.len
 have h3:=h.cred
 have h4:=h.fin0
 refine⟨by omega,by omega,by omega,by omega,h4,?_⟩
 rcases Int.lt_or_le x.final 0 with h5|h5
 ·omega
 ·have:=h.fin h5;omega
theorem readOf_le{gaps:Int}{x:aO}(h:StrInv gaps x):0<=cN x/\cN x<=x.highest:=by
 have h1:=h.read
 have h2:=h.len
 unfold cN
 split
 ·next hd=>
  simp at hd
  have h3:=(h.rst hd.2).2
  have:=h.fin h3
  omega
 ·omega
theorem readAll_high{gaps:Int}{l:List aO}(h:∀x∈l,StrInv gaps x):0<=readAll l/\readAll l<=cC l:=by
 induction l with
 |nil=>simp[readAll,cC]
 |cons a t ih=>
  have h1:=readOf_le (h a (List.mem_cons_self ..))
  have h2:=ih fun x hx=>h x (List.mem_cons_of_mem _ hx)
  simp only[readAll,cC,List.map_cons,List.sum_cons]at h2⊢
  omega
structure ConI(g:Cfg)(c:aq):Prop where
 str:∀x∈c.streams,StrInv g.c4 x
 high:cC c.streams<=c.credit
 runs:PWf c.runs
theorem ConInv.i{g:Cfg}{c:aq}(h:ConInv g c):ConI g c:=⟨h.str,h.high,h.runs⟩
theorem ConI.read{g:Cfg}{c:aq}{M:Int}(h:ConI g c)(hok:ConOk M c):0<=readAll c.streams/\readAll c.streams<=1073741823:=by
 have h1:=readAll_high h.str
 have h2:=h.high
 have h3:=hok.credit
 omega
structure Same(c c':aq):Prop where
 cid:c'.cid=c.cid
 addr:c'.addr=c.addr
 proven:c'.proven=c.proven
 waits:c'.waits=c.waits
 runs:c'.runs=c.runs
 got:c'.got=c.got
theorem Same.refl(c:aq):Same c c:=⟨rfl,rfl,rfl,rfl,rfl,rfl⟩
theorem Same.trans{a b c:aq}(h:Same a b)(k:Same b c):Same a c:=⟨k.cid.trans h.cid,k.addr.trans h.addr,k.proven.trans h.proven,k.waits.trans h.waits,k.runs.trans h.runs,k.got.trans h.got⟩
theorem Same.pre{a b c:aq}(k:Same b c)(h:Same a b):Same a c:=h.trans k
theorem news_is(c:aq)(f:List Int):aZ c f = {c with sent:=(aZ c f).sent}:=by
 unfold aZ
 split<;>rfl
theorem Same.news(c:aq)(f:List Int):Same c (aZ c f):=by
 rw[news_is]
 exact⟨rfl,rfl,rfl,rfl,rfl,rfl⟩
theorem ConI.news{g:Cfg}{c:aq}(h:ConI g c)(f:List Int):ConI g (aZ c f):=by
 rw[news_is]
 exact⟨h.str,h.high,h.runs⟩
theorem dD(c:aq)(f:List Int):(aZ c f).streams=c.streams:=by rw[news_is]
theorem gi(c:aq)(f:List Int):(aZ c f).credit=c.credit:=by rw[news_is]
theorem ConI.set{g:Cfg}{c:aq}{i:Nat}{x y:aO}(h:ConI g c)(hx:c.streams[i]? =some x)(hy:StrInv g.c4 y)(hh:y.highest=x.highest):ConI g {c with streams:=c.streams.set i y}:=by
 refine⟨fun z hz=>?_,?_,h.runs⟩
 ·rcases List.mem_or_eq_of_mem_set hz with hz|rfl
  ·exact h.str z hz
  ·exact hy
 ·have:=h.high
  simp only
  rw[highS_set hx]
  omega
theorem ConOk.set{gaps M:Int}{c:aq}{i:Nat}{y:aO}(h:ConOk M c)(hy:StrInv gaps y):ConOk M {c with streams:=c.streams.set i y}:=by
 refine⟨h.cid,h.addr,h.got,h.sent,h.heard,h.runs,h.credit,by simp only[List.length_set];exact h.slen,fun z hz=>?_⟩
 rcases List.mem_or_eq_of_mem_set hz with hz|rfl
 ·exact h.str z hz
 ·exact hy.ok
theorem kR{r n:Int}(hr:0<=r)(hn:0<=n):0<=bN r n/\bN r n<=1073741823:=by
 unfold bN
 split<;>omega
theorem raise_inv{gaps piece:Int}{x:aO}(h:StrInv gaps x)(hp:0<=piece)(hc:x.credit<x.read+piece/2):StrInv gaps {x with credit:=bN x.read piece}:=by
 have h1:=h.cred
 have h2:=h.read
 refine⟨h.read,h.ent,h.len,h.fin,h.fin0,h.rst,h.dn,h.gaps,?_⟩
 unfold bN
 simp only
 split<;>omega
theorem kQ{g:Cfg}{c:aq}{M:Int}{id:Nat}{x y:aO}(h:ConI g c)(hok:ConOk M c)(hx:c.streams[id]? =some x)(hy:StrInv g.c4 y)(hh:y.highest=x.highest)(hp:0<=g.c2):
  ConI g (cU g c id y).1/\ConOk (M+20) (cU g c id y).1/\Same c (cU g c id y).1/\(cU g c id y).2.length<=1/\(cU g c id y).1.streams.length=c.streams.length/\(cU g c id y).1.credit=c.credit:=by
 have hid:id<c.streams.length:=(List.getElem?_eq_some_iff.1 hx).1
 unfold cU
 split
 ·next hm=>
  have hc:y.credit<y.read+g.c2/2:=by unfold fE at hm;simp at hm;exact hm.1.2
  have hy2:=raise_inv hy hp hc
  have hI:=h.set hx hy2 hh
  have hO:=hok.set (i:=id) hy2
  simp only
  have hl1:=bL (id:Int)
  have hl2:=bL (bN y.read g.c2)
  refine⟨hI.news _,news_ok hO ?_,?_,?_,?_,?_⟩
  ·simp only[List.length_append,List.length_cons,List.length_nil];omega
  ·exact Same.pre (Same.news _ _) ⟨rfl,rfl,rfl,rfl,rfl,rfl⟩
  ·unfold bI
   split<;>simp
  ·rw[dD];simp
  ·rw[gi]
 ·exact⟨h.set hx hy hh,(hok.set hy).mono (by omega),⟨rfl,rfl,rfl,rfl,rfl,rfl⟩,by simp,by simp,rfl⟩
theorem newsO_len(c:aq)(f:List Int)(o:List (Int×List Int)):(bI c f o).length<=o.length+1:=by
 unfold bI
 split<;>simp
theorem data_keep{g:Cfg}{r:aq×List (Int×List Int)}{M:Int}(h:ConI g r.1)(hok:ConOk M r.1)(hp:0<=g.c1):
  ConInv g (dS g r).1/\ConOk (M+20) (dS g r).1/\Same r.1 (dS g r).1/\(dS g r).2.length<=r.2.length+1/\(dS g r).1.streams=r.1.streams:=by
 have hr:=h.read hok
 have hcr:=hok.credit
 have hh:=h.high
 unfold dS
 split
 ·next hm=>
  simp at hm
  have hrz:=kR hr.1 hp
  have hge:r.1.credit<=bN (readAll r.1.streams) g.c1:=by unfold bN;split<;>omega
  have hI:ConI g {r.1 with credit:=bN (readAll r.1.streams) g.c1}:=⟨h.str,by simp only;omega,h.runs⟩
  have hO:ConOk M {r.1 with credit:=bN (readAll r.1.streams) g.c1}:=⟨hok.cid,hok.addr,hok.got,hok.sent,hok.heard,hok.runs,hrz,hok.slen,hok.str⟩
  simp only
  have hl:=bL (bN (readAll r.1.streams) g.c1)
  have hN:=hI.news ([16]++aT (bN (readAll r.1.streams) g.c1))
  refine⟨⟨hN.str,hN.high,hN.runs,?_⟩,news_ok hO ?_,?_,newsO_len _ _ _,?_⟩
  ·unfold Fol
   rw[dD,gi]
   simp only
   unfold bN
   split
   ·exact Or.inr (Int.le_refl _)
   ·exact Or.inl (by omega)
  ·simp only[List.length_append,List.length_cons,List.length_nil];omega
  ·exact Same.pre (Same.news _ _) ⟨rfl,rfl,rfl,rfl,rfl,rfl⟩
  ·rw[dD]
 ·next hm=>
  simp at hm
  refine⟨⟨h.str,h.high,h.runs,?_⟩,hok.mono (by omega),Same.refl _,by omega,rfl⟩
  unfold Fol
  rcases Int.lt_or_le r.1.credit (readAll r.1.streams+g.c1/2) with h1|h1
  ·exact Or.inr (hm h1)
  ·exact Or.inl h1
theorem growS_one(piece:Int)(l:List aO):growS piece l (l.length+1)=l++[aV piece]:=by
 unfold growS
 rw[show l.length+1-l.length=1 by omega]
 rfl
theorem highS_snocLL(l:List aO)(x:aO):cC (l++[x])=cC l+x.highest:=by
 simp[cC,List.sum_append]
theorem limit_keep{g:Cfg}{on:Bool}{r:aq×List (Int×List Int)}{M:Int}(h:ConInv g r.1)(hok:ConOk M r.1)(hg:cO g):
  ConInv g (ef g on r).1/\ConOk (M+20) (ef g on r).1/\Same r.1 (ef g on r).1/\(ef g on r).2.length<=r.2.length+1:=by
 have h1:=hg.c1
 have h2:=hg.c2
 have h4:=hg.c4
 unfold ef
 split
 ·next hm=>
  simp at hm
  simp only
  rw[growS_one]
  have hnew:StrInv g.c4 (aV g.c2):=strNew_inv (by omega) (by omega)
  have hI:ConInv g {r.1 with streams:=r.1.streams++[aV g.c2]}:=by
   refine⟨fun x hx=>?_,?_,h.runs,?_⟩
   ·rcases List.mem_append.1 hx with hx|hx
    ·exact h.str x hx
    ·rw[List.mem_singleton.1 hx];exact hnew
   ·simp only
    rw[highS_snocLL]
    simpa[aV] using h.high
   ·unfold Fol
    simp only
    rw[readAll_snoc]
    simpa[cN,aV,Fol] using h.fol
  have hO:ConOk M {r.1 with streams:=r.1.streams++[aV g.c2]}:=by
   refine⟨hok.cid,hok.addr,hok.got,hok.sent,hok.heard,hok.runs,hok.credit,?_,fun x hx=>?_⟩
   ·simp only[List.length_append,List.length_cons,List.length_nil];omega
   ·rcases List.mem_append.1 hx with hx|hx
    ·exact hok.str x hx
    ·rw[List.mem_singleton.1 hx];exact hnew.ok
  have hl:=bL (((r.1.streams++[aV g.c2]).length:Nat):Int)
  refine⟨news_inv hI,news_ok hO ?_,?_,newsO_len _ _ _⟩
  ·simp only[List.length_append,List.length_cons,List.length_nil]at hl⊢;omega
  ·exact Same.pre (Same.news _ _) ⟨rfl,rfl,rfl,rfl,rfl,rfl⟩
 ·exact⟨h,hok.mono (by omega),Same.refl _,by omega⟩
theorem kS{g:Cfg}{c:aq}{M:Int}{id:Nat}{x:aO}(most:Int)(h:ConInv g c)(hok:ConOk M c)(hx:c.streams[id]? =some x)(hg:cO g):
  ConInv g (ej g c id x most).1/\ConOk (M+60) (ej g c id x most).1/\Same c (ej g c id x most).1/\(ej g c id x most).2.length<=3:=by
 have h1:=hg.c1
 have h2:=hg.c2
 obtain⟨a1,a2,a3,a4,_,_⟩:=kQ h.i hok hx (readX_inv (h.str x (List.mem_of_getElem? hx)) most) (iC x most) (by omega)
 obtain⟨b1,b2,b3,b4,_⟩:=data_keep a1 a2 (by omega)
 obtain⟨d1,d2,d3,d4⟩:=limit_keep (on:=!x.done&&((aH x most).1.fin ||(aH x most).1.rst)) b1 b2 hg
 unfold ej
 exact⟨d1,d2.mono (by omega),(a3.trans b3).trans d3,by omega⟩
theorem readC_done{g:Cfg}{c:aq}{id:Nat}{x:aO}(most:Int)(h:ConInv g c)(hx:c.streams[id]? =some x)(hd:x.done=true):ej g c id x most=(c,[]):=by
 have hi:=h.str x (List.mem_of_getElem? hx)
 have h1:=(hi.dn hd).2.1
 have hm:fE g x=false:=by unfold fE;simp;intro h2;omega
 have hp:cU g c id x=(c,[]):=by
  unfold cU
  rw[hm]
  simp[gp hx]
 have hda:dS g (c,[])=(c,[]):=by
  unfold dS
  rw[if_neg]
  simp only[Bool.and_eq_true,decide_eq_true_eq]
  rintro⟨h2,h3⟩
  rcases h.fol with h4|h4<;>omega
 unfold ej
 rw[readX_done hi hd,hd]
 simp only[hp,hda]
 simp[ef]
theorem read_inv{M L:Int}{s:ay}{cid id most:Int}(h:SrvInv M L s):SrvInv (M+60) L (cI s cid id most).2.2.1:=by
 have h0:SrvInv (M+60) L s:=h.mono (by omega) (Int.le_refl _)
 unfold cI
 split
 ·exact h0
 ·split
  ·exact h0
  ·next i _ c hc=>
   split
   ·exact h0
   ·split
    ·exact h0
    ·split
     ·exact h0
     ·next x hx=>
      have hm:=List.mem_of_getElem? hc
      obtain⟨a1,a2,a3,_⟩:=kS most (h.inv c hm) (h.ok c hm) hx h.cfg
      have hw:=h.waits c hm
      exact SrvInv.set (last:=s.last) h0 hc a2 a1 a3.cid (by rw[a3.waits,a3.proven];exact hw) (Int.le_refl _) h.last.2
end Go.Proofs.YthmdjhlhodpbhaaGreatDoor
namespace Go.Proofs.YthmdjhlhodpbhaaGreatDoor
open Go.RowKit
theorem OutsU.chg{A F:Nat->Prop}{w w':World}{base:Nat}{v:Value}{outs:List (Int×List Int)}(h:OutsU A w base v outs)(hc:Chg F w w')(h1:∀k cur fr,w.heap[k]? =some (.cells cur 60 fr)->¬F k)(h2:∀k cur fr,w.heap[k]? =some (.cells cur 5 fr)->¬F k):OutsU A w' base v outs:=by
 obtain⟨out,a,b,c⟩:=h
 exact⟨out,dM a hc h1,b.chg hc h2,c⟩
structure RdC(N:Nat)(w0:World)(cb:Nat)(g:Cfg)(a0:aD)(gb:Nat)(tv:Value)(x:gr)(a:aD)(r:aq×List (Int×List Int))(v:Value)(w:World):Prop where
 con:ConAt N w cb g r.1 a
 inn:∀k,aU cb a k->aU cb a0 k\/w0.heap.size<=k
 u:UIn w0.heap.size a0 a
 chg:Chg (aU cb a0) w0 w
 box:w.heap[gb]? =some (.cells #[tv,.bool x.fin,.bool x.rst] 46 (0,0))
 res:w.heap[w0.heap.size]? =some (.cells #[.slice none 0 0,.bool false,.bool false] 46 (0,0))
 byt:w.ownsRow w0.heap.size 5 1 tv x.bytes.length (U8 x.bytes)
 out:OutsU (fun k=>a.u k\/tv.ownBlock=some k) w w0.heap.size v r.2
 sep:∀k,tv.ownBlock=some k->¬a.u k
theorem RdC.chgF{F:Nat->Prop}{N:Nat}{w0:World}{cb:Nat}{g:Cfg}{a0:aD}{gb:Nat}{tv:Value}{x:gr}{a:aD}{r:aq×List (Int×List Int)}{v:Value}{w W:World}(h:RdC N w0 cb g a0 gb tv x a r v w)(hc:Chg F w W){N':Nat}{a':aD}{c':aq}(hA:ConAt N' W cb g c' a')(hin:∀k,aU cb a' k->aU cb a k\/w.heap.size<=k)(hu:a'.u=a.u)(hF:∀k,F k->aU cb a k):
  RdC N' w0 cb g a0 gb tv x a' (c',r.2) v W:=by
 have hT:∀k cur e fr,w.heap[k]? =some (.cells cur e fr)->e≠137->e≠279->e≠204->e≠259->¬F k:=fun k cur e fr hk h1 h2 h3 h4 hf=>cf h.con hk h1 h2 h3 h4 (hF k hf)
 have hsz:=h.chg.size
 refine⟨hA,fun k hk=>?_,fun k hk=>h.u k (by rw[<-hu];exact hk),dG h.chg hc fun q hq hf=>?_,?_,?_,?_,?_,fun k hk=>by rw[hu];exact h.sep k hk⟩
 ·rcases hin k hk with e|e
  ·exact h.inn k e
  ·exact Or.inr (Nat.le_trans hsz e)
 ·rcases h.inn q (hF q hf) with e|e
  ·exact e
  ·omega
 ·rw[hc.block _ (Array.getElem?_eq_some_iff.1 h.box).1 (hT _ _ _ _ h.box (by decide) (by decide) (by decide) (by decide))]
  exact h.box
 ·rw[hc.block _ (Array.getElem?_eq_some_iff.1 h.res).1 (hT _ _ _ _ h.res (by decide) (by decide) (by decide) (by decide))]
  exact h.res
 ·exact dM h.byt hc fun k cur fr hk=>hT _ _ _ _ hk (by decide) (by decide) (by decide) (by decide)
 ·simp only[hu]
  exact h.out.chg hc (fun k cur fr hk=>hT _ _ _ _ hk (by decide) (by decide) (by decide) (by decide)) (fun k cur fr hk=>hT _ _ _ _ hk (by decide) (by decide) (by decide) (by decide))
theorem RdC.below{N:Nat}{w0:World}{cb:Nat}{g:Cfg}{a0:aD}{gb:Nat}{tv:Value}{x:gr}{a:aD}{r:aq×List (Int×List Int)}{v:Value}{w W:World}(h:RdC N w0 cb g a0 gb tv x a r v w)(hW:Below w.heap.size w W):RdC N w0 cb g a0 gb tv x a r v W:=
 h.chgF (F:=fun _=>False) (Chg.of_below hW) (h.con.below hW) (fun _ hk=>Or.inl hk) rfl (fun _ hk=>hk.elim)
def AppOut(N:Nat)(w0:World)(cb:Nat)(g:Cfg)(a0:aD)(gb:Nat)(tv:Value)(x:gr)(a:aD)(r':aq×List (Int×List Int))(v:Value)(e:Ending)(w2:World):Prop:=
 ∃v2,e=.returned v2/\(∃ao l c,v2=.slice ao l c)/\∀ty,∃v' w9,(Builtin.append_ #[47,47] ty #[v,v2]).run Tryz.prog w2=.ok v' w9/\(∃ao l c,v'=.slice ao l c)/\RdC N w0 cb g a0 gb tv x a r' v' w9
theorem RdC.tell{N:Nat}{w0:World}{cb:Nat}{g:Cfg}{a0:aD}{gb:Nat}{tv:Value}{x:gr}{a:aD}{r:aq×List (Int×List Int)}{v:Value}{w:World}(h:RdC N w0 cb g a0 gb tv x a r v w)(kind:Int)(ns:List Int)(nb nc:Nat){M:Int}(hok:ConOk M r.1)(hM:M<=1125899906842624)(hn:∀n∈ns,0<=n/\n<=1073741823)(hl:ns.length<=8)(hcell:∀j n,ns[j]? =some n->w.cell? ⟨nb,j,none⟩= some (.int .i64 n))(ho:r.2.length<=100):
  Calls Tryz.prog 78 #[.pointer (some ⟨cb,0,none⟩),.int .u8 kind,.slice (some ⟨nb,0,none⟩) ns.length nc] w fun e w2=>AppOut N w0 cb g a0 gb tv x a (aZ r.1 ([kind]++bJ ns),bI r.1 ([kind]++bJ ns) r.2) v e w2:=by
 have hgo:=hok.got
 have hse:=hok.sent
 refine(ctell_any cb g r.1 a.plv a.sm a.dm (bf r.1.streams) kind ns nb nc w h.con.blk hok.cid (by omega) (by omega) hn hl hcell).mono ?_
 intro e w2 ht
 obtain⟨v2,rfl,ho2⟩:=ht.ret
 refine⟨v2,rfl,?_,fun ty=>?_⟩
 ·obtain⟨ao,cap,e⟩:=ho2.form
  exact⟨_,_,_,e⟩
 have hblk:w.heap[cb]? =some (.cells (jG g r.1 a.plv a.sm a.dm (bf r.1.streams)) 137 (0,0)):=h.con.blk
 have hne:∀k cur e fr,w.heap[k]? =some (.cells cur e fr)->e≠137->¬k=cb:=by
  intro k cur e fr hk h1 e1
  rw[e1,hblk]at hk
  simp only[Option.some.injEq,Obj.cells.injEq]at hk
  exact h1 hk.2.1.symm
 have hU:OutsU (fun k=>a.u k\/tv.ownBlock=some k) w2 w.heap.size v2 (bI r.1 ([kind]++bJ ns) []):=OutsU.of ho2 fun k hk hA=>by
  rcases hA with e|e
  ·have:=h.con.ul k e;omega
  ·have:=(h.byt.lt k e).2;omega
 have hfew:=newsO_few r.1 ([kind]++bJ ns)
 obtain⟨v',w9,hrun,ho9,hg9⟩:=outs_append2 w w2 w0.heap.size v v2 r.2 _ h.out ht.chg (fun k cur fr hk=>hne _ _ _ _ hk (by decide)) (fun k cur fr hk=>hne _ _ _ _ hk (by decide)) hU (by omega) h.chg.size ty
 have hc9:Chg (fun k=>v.ownBlock=some k) w2 w9:=⟨hg9.os,hg9.tape,hg9.output,hg9.size,fun k hk hn=>hg9.block k hk (fun e=>hn e.symm)⟩
 obtain⟨out,how,_⟩:=id h.out
 have how2:=dM how ht.chg (fun k cur fr hk=>hne _ _ _ _ hk (by decide))
 have hnv:∀k cur e fr,w2.heap[k]? =some (.cells cur e fr)->e≠60->¬v.ownBlock=some k:=fun k cur e fr hk he=>au how2 hk (fun e=>he e.symm)
 have hS:=Same.news r.1 ([kind]++bJ ns)
 have hcon2:=h.con.reblk ht.chg ht.blk (dD _ _) hS.runs
 have hcon9:=hcon2.chg hc9 (fun k hk e=>by
  obtain⟨c1,e1⟩:=aJ how2 e
  exact cf hcon2 e1 (by decide) (by decide) (by decide) (by decide) hk) (fun k cur fr hk=>hnv k cur _ fr hk (by decide))
 have hbx:∀{k:Nat} {cur:Array Value} {e:TypeId} {fr:Nat×Nat},w.heap[k]? =some (.cells cur e fr)->e≠137->e≠60->w9.heap[k]? =some (.cells cur e fr):=by
  intro k cur e fr hk h1 h2
  have q1:w2.heap[k]? =some (.cells cur e fr):=(ht.chg.block k (Array.getElem?_eq_some_iff.1 hk).1 (hne _ _ _ _ hk h1)).trans hk
  exact(hc9.block k (Array.getElem?_eq_some_iff.1 q1).1 (hnv _ _ _ _ q1 h2)).trans q1
 refine⟨v',w9,hrun,?_,hcon9,h.inn,h.u,?_,hbx h.box (by decide) (by decide),hbx h.res (by decide) (by decide),?_,?_,h.sep⟩
 ·obtain⟨ao,cap,e⟩:=ho9.at.form
  exact⟨_,_,_,e⟩
 ·refine dG (dG h.chg ht.chg fun q _ e=>Or.inl e) hc9 fun q hq e=>?_
  have:=(how.lt q e).1
  omega
 ·exact dM (dM h.byt ht.chg fun k cur fr hk=>hne _ _ _ _ hk (by decide)) hc9 fun k cur fr hk=>hnv _ _ _ _ hk (by decide)
 ·simp only
  rw[newsO_append]
  exact ho9
theorem RdC.tell1{N:Nat}{w0:World}{cb:Nat}{g:Cfg}{a0:aD}{gb:Nat}{tv:Value}{x:gr}{a:aD}{r:aq×List (Int×List Int)}{v:Value}{w:World}(h:RdC N w0 cb g a0 gb tv x a r v w)(kind n:Int){M:Int}(hok:ConOk M r.1)(hM:M<=1125899906842624)(hn:0<=n/\n<=1073741823)(ho:r.2.length<=100):
  Calls Tryz.prog 78 #[.pointer (some ⟨cb,0,none⟩),.int .u8 kind,.slice (some ⟨w.heap.size,0,none⟩) 1 1] (w.alloc (.cells #[.int .i64 n] 3)) fun e w2=>AppOut N w0 cb g a0 gb tv x a (aZ r.1 ([kind]++aT n),bI r.1 ([kind]++aT n) r.2) v e w2:=by
 have h9:=(h.below (ag w (.cells #[.int .i64 n] 3))).tell kind [n] w.heap.size 1 hok hM (fun m hm=>by rw[List.mem_singleton.1 hm];exact hn) (by simp) (fun j m hj=>by
  cases j with
  |zero=>simp only[List.getElem?_cons_zero,Option.some.injEq]at hj;subst hj;simp
  |succ j=>simp at hj) ho
 rw[show([n]:List Int).length=1 from rfl,show bJ [n]=aT n by simp[bJ]]at h9
 exact h9
theorem RdC.tell2{N:Nat}{w0:World}{cb:Nat}{g:Cfg}{a0:aD}{gb:Nat}{tv:Value}{x:gr}{a:aD}{r:aq×List (Int×List Int)}{v:Value}{w:World}(h:RdC N w0 cb g a0 gb tv x a r v w)(kind n1 n2:Int){M:Int}(hok:ConOk M r.1)(hM:M<=1125899906842624)(h1:0<=n1/\n1<=1073741823)(h2:0<=n2/\n2<=1073741823)(ho:r.2.length<=100):
  Calls Tryz.prog 78 #[.pointer (some ⟨cb,0,none⟩),.int .u8 kind,.slice (some ⟨w.heap.size,0,none⟩) 2 2] (w.alloc (.cells #[.int .i64 n1,.int .i64 n2] 3)) fun e w2=>AppOut N w0 cb g a0 gb tv x a (aZ r.1 ([kind]++aT n1++aT n2),bI r.1 ([kind]++aT n1++aT n2) r.2) v e w2:=by
 have h9:=(h.below (ag w (.cells #[.int .i64 n1,.int .i64 n2] 3))).tell kind [n1,n2] w.heap.size 2 hok hM (fun m hm=>by
  simp only[List.mem_cons,List.not_mem_nil,or_false]at hm
  rcases hm with rfl|rfl
  ·exact h1
  ·exact h2) (by simp) (fun j m hj=>by
  match j with
  |0=>simp only[List.getElem?_cons_zero,Option.some.injEq]at hj;subst hj;simp
  |1=>simp only[List.getElem?_cons_succ,List.getElem?_cons_zero,Option.some.injEq]at hj;subst hj;simp
  |j+2=>simp at hj) ho
 rw[show([n1,n2]:List Int).length=2 from rfl,show [kind]++bJ [n1,n2]=[kind]++aT n1++aT n2 by simp[bJ]]at h9
 exact h9
def eI(x:aO)(most:Int):aO:={(aH x most).2 with done:=false}
theorem RdC.start{N:Nat}{w0 W0 W4 W5:World}{cb:Nat}{g:Cfg}{c:aq}{a0 a1:aD}{id most:Int}{x:aO}{b:Nat}{e4 e5:Ending}(hW0:Below w0.heap.size w0 W0)(hres:W0.heap[w0.heap.size]? =some (.cells #[.slice none 0 0,.bool false,.bool false] 46 (0,0)))(hsm:a0.sm<w0.heap.size)
  (hx:c.streams[id.toNat]? =some x) (hd:x.done=false) (hso:fH N W0 cb g c a0 id e4 W4 b a1) (htr:iL a1.u W4 b (a1.lv id) g.c2 x most e5 W5):
  ∃tv a2,e5=.returned (.agg #[tv,.bool (aH x most).1.fin,.bool (aH x most).1.rst])/\(∃ao l c,tv=.slice ao l c)/\(id,b)∈a2.sl/\a2.lv id=a2.lv id/\
   RdC (N+1) w0 cb g a0 W5.heap.size tv (aH x most).1 a2 ({c with streams:=c.streams.set id.toNat (eI x most)},[]) (.slice none 0 0) (W5.alloc (.cells #[tv,.bool (aH x most).1.fin,.bool (aH x most).1.rst] 46)):=by
 obtain⟨tv,lv',rfl,hown,hst,hat⟩:=htr.ex
 have s1:=hW0.size
 have s2:=hso.chg.size
 have s3:=htr.chg.size
 have hsx:=hso.con.str (id,b) hso.mem x hx
 obtain⟨vs0,ho0⟩:=hsx.own
 obtain⟨vs,hr,hcap⟩:=hst.runs
 have hold:=hr.old (iZ _ _)
 have hst':StrAt (fun k=>(a1.u k\/(W4.heap.size<=k/\k<W5.heap.size))/\tv.ownBlock≠some k) W5 b lv' g.c2 (eI x most):=by
  refine⟨hst.blk,vs,hr,fun v hv=>⟨(hcap v hv).1,fun k hk=>?_⟩⟩
  obtain⟨q1,q2⟩:=(hcap v hv).2 k hk
  exact⟨q1.imp (fun h=>h) (fun h=>⟨h,hold v hv k hk⟩),q2⟩
 obtain⟨q1,q2⟩:=hso.con.took2 hso.mem hx hd (y:=eI x most) rfl htr.chg (U:=fun k=>(a1.u k\/(W4.heap.size<=k/\k<W5.heap.size))/\tv.ownBlock≠some k) (fun k hk=>⟨Or.inl hk,fun e=>by
  have h1:=(hown.lt k e).1
  have h2:=hso.con.ul k hk
  omega⟩) (fun k hk=>by
  rcases hk.1 with h1|h1
  ·have:=hso.con.ul k h1;omega
  ·exact h1.2) hst' hat
 have hb6:Below W5.heap.size W5 (W5.alloc (.cells #[tv,.bool (aH x most).1.fin,.bool (aH x most).1.rst] 46)):=ag W5 _
 obtain⟨ao,cp,hform⟩:=aS hown
 refine⟨tv,{a1 with lv:=fun k=>if k=id then lv' else a1.lv k,u:=fun k=>(a1.u k\/(W4.heap.size<=k/\k<W5.heap.size))/\tv.ownBlock≠some k},rfl,⟨_,_,_,hform⟩,hso.mem,rfl,q1.below hb6,fun k hk=>?_,fun k hk=>?_,?_,heap_alloc_new W5 _,?_,bY (aP hown hb6) (by omega),OutsU.none (OutsAt.nil _ _) rfl,fun k hk h=>h.2 hk⟩
 ·rcases q2 k hk with h1|h1
  ·rcases hso.inn k h1 with h2|h2
   ·exact Or.inl h2
   ·exact Or.inr (by omega)
  ·exact Or.inr (by omega)
 ·rcases hk.1 with h1|h1
  ·exact Or.inl (by rw[<-hso.u];exact h1)
  ·exact Or.inr (by omega)
 ·refine dG (dG (dG (Chg.of_below hW0) hso.chg fun q _ e=>Or.inr (Or.inr (Or.inl e))) htr.chg fun q hq e=>?_) (Chg.of_below (F:=fun _=>False) hb6) fun q _ e=>e.elim
  rcases hso.inn q (Or.inr (Or.inr (Or.inr (Or.inr ⟨(id,b),hso.mem,e⟩)))) with h1|h1
  ·exact h1
  ·omega
 ·have r4:W4.heap[w0.heap.size]? =some (.cells #[.slice none 0 0,.bool false,.bool false] 46 (0,0)):=(hso.chg.block _ (Array.getElem?_eq_some_iff.1 hres).1 (fun e=>by omega)).trans hres
  have r5:W5.heap[w0.heap.size]? =some (.cells #[.slice none 0 0,.bool false,.bool false] 46 (0,0)):=by
   refine(htr.chg.block _ (Array.getElem?_eq_some_iff.1 r4).1 ?_).trans r4
   rintro(e|e)
   ·have h1:=hsx.blk
    simp only at h1
    rw[<-e,r4]at h1
    simp only[Option.some.injEq,Obj.cells.injEq]at h1
    exact absurd h1.2.1 (by decide)
   ·exact au ho0 r4 (by decide) e
  exact(hb6.block _ (Array.getElem?_eq_some_iff.1 r5).1).trans r5
theorem RdC.finish{N n1 n2:Nat}{w0:World}{cb:Nat}{g:Cfg}{a0:aD}{gb:Nat}{tv:Value}{x:gr}{a:aD}{c:aq}{o:List (Int×List Int)}{v:Value}{w w':World}{id:Int}{b:Nat}{y:aO}{e:Ending}(h:RdC N w0 cb g a0 gb tv x a (c,o) v w)(hm:(id,b)∈a.sl)(hy:c.streams[id.toNat]? =some y)(hd:y.done=false)(h1:n1<=N)(h2:n2<=N)
  (hf:ko w cb g c a.plv a.sm a.dm (bf c.streams+y.final) n1 (n2+1) (fA a.sl id) (a.dl++[(id,(y.final,y.reset))]) e w'):
  ∃a',RdC (N+1) w0 cb g a0 gb tv x a' ({c with streams:=c.streams.set id.toNat {y with done:=true}},o) v w'/\a'.u=a.u/\StrAt a.u w' b (a.lv id) g.c2 y:=by
 obtain⟨q1,q2⟩:=h.con.finished hm hy hd h1 h2 hf
 have hF:∀k,(k=cb\/k=a.sm\/k=a.dm)->aU cb a k:=by
  rintro k (e|e|e)
  ·exact Or.inl e
  ·exact Or.inr (Or.inr (Or.inl e))
  ·exact Or.inr (Or.inr (Or.inr (Or.inl e)))
 refine⟨{a with sl:=fA a.sl id,dl:=a.dl++[(id,(y.final,y.reset))]},h.chgF hf.chg q1 (fun k hk=>Or.inl (q2 k hk)) rfl hF,rfl,?_⟩
 have hs:=h.con.str (id,b) hm y hy
 have hblk:w.heap[cb]? =some (.cells (jG g c a.plv a.sm a.dm (bf c.streams)) 137 (0,0)):=h.con.blk
 obtain⟨m1,_,hm1⟩:=h.con.smap
 obtain⟨m2,_,hm2⟩:=h.con.dmap
 obtain⟨es1,ck1,hb1⟩:=hm1.is_map
 obtain⟨es2,ck2,hb2⟩:=hm2.is_map
 have hT:∀k cur t fr,w.heap[k]? =some (.cells cur t fr)->t≠137->¬(k=cb\/k=a.sm\/k=a.dm):=by
  rintro k cur t fr hk ht (e|e|e)
  ·rw[e,hblk]at hk
   simp only[Option.some.injEq,Obj.cells.injEq]at hk
   exact ht hk.2.1.symm
  ·rw[e,hb1]at hk
   cases hk
  ·rw[e,hb2]at hk
   cases hk
 refine hs.chg hf.chg (hT _ _ _ _ hs.blk (by decide)) (fun k hk e=>?_) (fun k cur fr hk=>hT _ _ _ _ hk (by decide))
 obtain⟨vs1,ho1⟩:=hs.own
 obtain⟨c1,e1⟩:=aJ ho1 hk
 exact hT _ _ _ _ e1 (by decide) e
theorem RdC.raised{N:Nat}{w0:World}{cb:Nat}{g:Cfg}{a0:aD}{gb:Nat}{tv:Value}{x:gr}{a:aD}{c:aq}{o:List (Int×List Int)}{v:Value}{w w':World}{id:Int}{b:Nat}{y y':aO}(h:RdC N w0 cb g a0 gb tv x a (c,o) v w)(hm:(id,b)∈a.sl)(hy:c.streams[id.toNat]? =some y)(hd:y.done=false)(hd':y'.done=false)
  (hs:StrAt a.u w' b (a.lv id) g.c2 y') (hc:Chg (· = b) w w'):
  ∃a',RdC N w0 cb g a0 gb tv x a' ({c with streams:=c.streams.set id.toNat y'},o) v w'/\a'.u=a.u/\(id,b)∈a'.sl:=by
 have hc2:Chg (fun k=>k=b\/(a.lv id).ownBlock=some k) w w':=hc.mono fun k _ e=>Or.inl e
 obtain⟨q1,q2⟩:=h.con.took2 hm hy hd hd' hc2 (U:=a.u) (fun k hk=>hk) (fun k hk=>Nat.lt_of_lt_of_le (h.con.ul k hk) hc.size) hs (Or.inl rfl)
 exact⟨{a with lv:=fun k=>if k=id then a.lv id else a.lv k,u:=a.u},h.chgF hc q1 q2 rfl fun k hk=>Or.inr (Or.inr (Or.inr (Or.inr ⟨(id,b),hm,Or.inl hk⟩))),rfl,hm⟩
theorem RdC.blk{N:Nat}{w0:World}{cb:Nat}{g:Cfg}{a0:aD}{gb:Nat}{tv:Value}{x:gr}{a:aD}{c c':aq}{o:List (Int×List Int)}{v:Value}{w w':World}(h:RdC N w0 cb g a0 gb tv x a (c,o) v w)(hc:Chg (· = cb) w w')(hA:ConAt N w' cb g c' a):RdC N w0 cb g a0 gb tv x a (c',o) v w':=
 h.chgF hc hA (fun _ hk=>Or.inl hk) rfl fun _ hk=>Or.inl hk
end Go.Proofs.YthmdjhlhodpbhaaGreatDoor
