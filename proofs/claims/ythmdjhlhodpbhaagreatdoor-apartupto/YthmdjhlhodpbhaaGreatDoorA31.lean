/- Apart, 31 -/
import Derived.BigRegion
import Derived.Deep.CutRange
import Derived.Test.YthmdjhlhodpbhaaGreatDoorA26
import Derived.Test.YthmdjhlhodpbhaaGreatDoorA30
set_option maxHeartbeats 16000000
set_option maxRecDepth 8000
namespace Go.Proofs.YthmdjhlhodpbhaaGreatDoor
open Go.RowKit
theorem OutsU.chg{A F:Nat->Prop}{w w':World}{base:Nat}{v:Value}{outs:List (Int×List Int)}(h:OutsU A w base v outs)(hc:Chg F w w')(h1:∀k cur fr,w.heap[k]? =some (.cells cur 60 fr)->¬F k)(h2:∀k cur fr,w.heap[k]? =some (.cells cur 5 fr)->¬F k):OutsU A w' base v outs:=by
 obtain⟨out,a,b,c⟩:=h
 exact⟨out,eI a hc h1,b.chg hc h2,c⟩
structure RdC(N:Nat)(w0:World)(cb:Nat)(g:Cfg)(a0:aJ)(gb:Nat)(tv:Value)(x:ir)(a:aJ)(r:aw×List (Int×List Int))(v:Value)(w:World):Prop where
 con:ConAt N w cb g r.1 a
 inn:∀k,bh cb a k->bh cb a0 k\/w0.heap.size<=k
 u:UIn w0.heap.size a0 a
 chg:Chg (bh cb a0) w0 w
 box:w.heap[gb]? =some (.cells #[tv,.bool x.fin,.bool x.rst] 46 (0,0))
 res:w.heap[w0.heap.size]? =some (.cells #[.slice none 0 0,.bool false,.bool false] 46 (0,0))
 byt:w.ownsRow w0.heap.size 5 1 tv x.bytes.length (U8 x.bytes)
 out:OutsU (fun k=>a.u k\/tv.ownBlock=some k) w w0.heap.size v r.2
 sep:∀k,tv.ownBlock=some k->¬a.u k
theorem RdC.chgF{F:Nat->Prop}{N:Nat}{w0:World}{cb:Nat}{g:Cfg}{a0:aJ}{gb:Nat}{tv:Value}{x:ir}{a:aJ}{r:aw×List (Int×List Int)}{v:Value}{w W:World}(h:RdC N w0 cb g a0 gb tv x a r v w)(hc:Chg F w W){N':Nat}{a':aJ}{c':aw}(hA:ConAt N' W cb g c' a')(hin:∀k,bh cb a' k->bh cb a k\/w.heap.size<=k)(hu:a'.u=a.u)(hF:∀k,F k->bh cb a k):
  RdC N' w0 cb g a0 gb tv x a' (c',r.2) v W:=by
 have hT:∀k cur e fr,w.heap[k]? =some (.cells cur e fr)->e≠137->e≠279->e≠204->e≠259->¬F k:=fun k cur e fr hk h1 h2 h3 h4 hf=>cF h.con hk h1 h2 h3 h4 (hF k hf)
 have hsz:=h.chg.size
 refine⟨hA,fun k hk=>?_,fun k hk=>h.u k (by rw[<-hu];exact hk),eT h.chg hc fun q hq hf=>?_,?_,?_,?_,?_,fun k hk=>by rw[hu];exact h.sep k hk⟩
 ·rcases hin k hk with e|e
  ·exact h.inn k e
  ·exact Or.inr (Nat.le_trans hsz e)
 ·rcases h.inn q (hF q hf) with e|e
  ·exact e
  ·omega
 ·rw[hc.block _ (aLt h.box) (hT _ _ _ _ h.box (by decide) (by decide) (by decide) (by decide))]
  exact h.box
 ·rw[hc.block _ (aLt h.res) (hT _ _ _ _ h.res (by decide) (by decide) (by decide) (by decide))]
  exact h.res
 ·exact eI h.byt hc fun k cur fr hk=>hT _ _ _ _ hk (by decide) (by decide) (by decide) (by decide)
 ·simp only[hu]
  exact h.out.chg hc (fun k cur fr hk=>hT _ _ _ _ hk (by decide) (by decide) (by decide) (by decide)) (fun k cur fr hk=>hT _ _ _ _ hk (by decide) (by decide) (by decide) (by decide))
theorem RdC.below{N:Nat}{w0:World}{cb:Nat}{g:Cfg}{a0:aJ}{gb:Nat}{tv:Value}{x:ir}{a:aJ}{r:aw×List (Int×List Int)}{v:Value}{w W:World}(h:RdC N w0 cb g a0 gb tv x a r v w)(hW:Below w.heap.size w W):RdC N w0 cb g a0 gb tv x a r v W:=
 h.chgF (F:=fun _=>False) (Chg.of_below hW) (h.con.below hW) (fun _ hk=>Or.inl hk) rfl (fun _ hk=>hk.elim)
def nk(N:Nat)(w0:World)(cb:Nat)(g:Cfg)(a0:aJ)(gb:Nat)(tv:Value)(x:ir)(a:aJ)(r':aw×List (Int×List Int))(v:Value)(e:Ending)(w2:World):Prop:=
 ∃v2,e=.returned v2/\(∃ao l c,v2=.slice ao l c)/\∀ty,∃v' w9,(Builtin.append_ #[47,47] ty #[v,v2]).run Tryz.prog w2=.ok v' w9/\(∃ao l c,v'=.slice ao l c)/\RdC N w0 cb g a0 gb tv x a r' v' w9
theorem RdC.tell{N:Nat}{w0:World}{cb:Nat}{g:Cfg}{a0:aJ}{gb:Nat}{tv:Value}{x:ir}{a:aJ}{r:aw×List (Int×List Int)}{v:Value}{w:World}(h:RdC N w0 cb g a0 gb tv x a r v w)(kind:Int)(ns:List Int)(nb nc:Nat){M:Int}(hok:ConOk M r.1)(hM:M<=1125899906842624)(hn:∀n∈ns,0<=n/\n<=1073741823)(hl:ns.length<=8)(hcell:∀j n,ns[j]? =some n->w.cell? ⟨nb,j,none⟩= some (.int .i64 n))(ho:r.2.length<=100):
  Calls Tryz.prog 78 #[.pointer (some ⟨cb,0,none⟩),.int .u8 kind,.slice (some ⟨nb,0,none⟩) ns.length nc] w fun e w2=>nk N w0 cb g a0 gb tv x a (bt r.1 ([kind]++bY ns),ca r.1 ([kind]++bY ns) r.2) v e w2:=by
 have hgo:=hok.got
 have hse:=hok.sent
 refine(nv cb g r.1 a.plv a.sm a.dm (bm r.1.streams) kind ns nb nc w h.con.blk hok.cid (by omega) (by omega) hn hl hcell).mono ?_
 intro e w2 ht
 obtain⟨v2,rfl,ho2⟩:=ht.ret
 refine⟨v2,rfl,?_,fun ty=>?_⟩
 ·obtain⟨ao,cap,e⟩:=ho2.form
  exact⟨_,_,_,e⟩
 have hblk:w.heap[cb]? =some (.cells (kp g r.1 a.plv a.sm a.dm (bm r.1.streams)) 137 (0,0)):=h.con.blk
 have hne:∀k cur e fr,w.heap[k]? =some (.cells cur e fr)->e≠137->¬k=cb:=by
  intro k cur e fr hk h1 e1
  rw[e1,hblk]at hk
  simp only[Option.some.injEq,Obj.cells.injEq]at hk
  exact h1 hk.2.1.symm
 have hU:OutsU (fun k=>a.u k\/tv.ownBlock=some k) w2 w.heap.size v2 (ca r.1 ([kind]++bY ns) []):=OutsU.of ho2 fun k hk hA=>by
  rcases hA with e|e
  ·have:=h.con.ul k e;omega
  ·have:=(h.byt.lt k e).2;omega
 have hfew:=rR r.1 ([kind]++bY ns)
 obtain⟨v',w9,hrun,ho9,hg9⟩:=mO w w2 w0.heap.size v v2 r.2 _ h.out ht.chg (fun k cur fr hk=>hne _ _ _ _ hk (by decide)) (fun k cur fr hk=>hne _ _ _ _ hk (by decide)) hU (by omega) h.chg.size ty
 have hc9:Chg (fun k=>v.ownBlock=some k) w2 w9:=⟨hg9.os,hg9.tape,hg9.output,hg9.size,fun k hk hn=>hg9.block k hk (fun e=>hn e.symm)⟩
 obtain⟨out,how,_⟩:=id h.out
 have how2:=eI how ht.chg (fun k cur fr hk=>hne _ _ _ _ hk (by decide))
 have hnv:∀k cur e fr,w2.heap[k]? =some (.cells cur e fr)->e≠60->¬v.ownBlock=some k:=fun k cur e fr hk he=>ax how2 hk (fun e=>he e.symm)
 have hS:=Same.news r.1 ([kind]++bY ns)
 have hcon2:=h.con.reblk ht.chg ht.blk (ib _ _) hS.runs
 have hcon9:=hcon2.chg hc9 (fun k hk e=>by
  obtain⟨c1,e1⟩:=aQ how2 e
  exact cF hcon2 e1 (by decide) (by decide) (by decide) (by decide) hk) (fun k cur fr hk=>hnv k cur _ fr hk (by decide))
 have hbx:∀{k:Nat} {cur:Array Value} {e:TypeId} {fr:Nat×Nat},w.heap[k]? =some (.cells cur e fr)->e≠137->e≠60->w9.heap[k]? =some (.cells cur e fr):=by
  intro k cur e fr hk h1 h2
  have q1:w2.heap[k]? =some (.cells cur e fr):=(ht.chg.block k (aLt hk) (hne _ _ _ _ hk h1)).trans hk
  exact(hc9.block k (aLt q1) (hnv _ _ _ _ q1 h2)).trans q1
 refine⟨v',w9,hrun,?_,hcon9,h.inn,h.u,?_,hbx h.box (by decide) (by decide),hbx h.res (by decide) (by decide),?_,?_,h.sep⟩
 ·obtain⟨ao,cap,e⟩:=ho9.at.form
  exact⟨_,_,_,e⟩
 ·refine eT (eT h.chg ht.chg fun q _ e=>Or.inl e) hc9 fun q hq e=>?_
  have:=(how.lt q e).1
  omega
 ·exact eI (eI h.byt ht.chg fun k cur fr hk=>hne _ _ _ _ hk (by decide)) hc9 fun k cur fr hk=>hnv _ _ _ _ hk (by decide)
 ·simp only
  rw[mM]
  exact ho9
theorem RdC.tell1{N:Nat}{w0:World}{cb:Nat}{g:Cfg}{a0:aJ}{gb:Nat}{tv:Value}{x:ir}{a:aJ}{r:aw×List (Int×List Int)}{v:Value}{w:World}(h:RdC N w0 cb g a0 gb tv x a r v w)(kind n:Int){M:Int}(hok:ConOk M r.1)(hM:M<=1125899906842624)(hn:0<=n/\n<=1073741823)(ho:r.2.length<=100):
  Calls Tryz.prog 78 #[.pointer (some ⟨cb,0,none⟩),.int .u8 kind,.slice (some ⟨w.heap.size,0,none⟩) 1 1] (w.alloc (.cells #[.int .i64 n] 3)) fun e w2=>nk N w0 cb g a0 gb tv x a (bt r.1 ([kind]++az n),ca r.1 ([kind]++az n) r.2) v e w2:=by
 have h9:=(h.below (ag w (.cells #[.int .i64 n] 3))).tell kind [n] w.heap.size 1 hok hM (fun m hm=>by rw[List.mem_singleton.1 hm];exact hn) (by simp) (fun j m hj=>by
  cases j with
  |zero=>simp only[List.getElem?_cons_zero,Option.some.injEq]at hj;subst hj;simp
  |succ j=>simp at hj) ho
 rw[show([n]:List Int).length=1 from rfl,show bY [n]=az n by simp[bY]]at h9
 exact h9
theorem RdC.tell2{N:Nat}{w0:World}{cb:Nat}{g:Cfg}{a0:aJ}{gb:Nat}{tv:Value}{x:ir}{a:aJ}{r:aw×List (Int×List Int)}{v:Value}{w:World}(h:RdC N w0 cb g a0 gb tv x a r v w)(kind n1 n2:Int){M:Int}(hok:ConOk M r.1)(hM:M<=1125899906842624)(h1:0<=n1/\n1<=1073741823)(h2:0<=n2/\n2<=1073741823)(ho:r.2.length<=100):
  Calls Tryz.prog 78 #[.pointer (some ⟨cb,0,none⟩),.int .u8 kind,.slice (some ⟨w.heap.size,0,none⟩) 2 2] (w.alloc (.cells #[.int .i64 n1,.int .i64 n2] 3)) fun e w2=>nk N w0 cb g a0 gb tv x a (bt r.1 ([kind]++az n1++az n2),ca r.1 ([kind]++az n1++az n2) r.2) v e w2:=by
 have h9:=(h.below (ag w (.cells #[.int .i64 n1,.int .i64 n2] 3))).tell kind [n1,n2] w.heap.size 2 hok hM (fun m hm=>by
  simp only[List.mem_cons,List.not_mem_nil,or_false]at hm
  rcases hm with rfl|rfl
  ·exact h1
  ·exact h2) (by simp) (fun j m hj=>by
  match j with
  |0=>simp only[List.getElem?_cons_zero,Option.some.injEq]at hj;subst hj;simp
  |1=>simp only[List.getElem?_cons_succ,List.getElem?_cons_zero,Option.some.injEq]at hj;subst hj;simp
  |j+2=>simp at hj) ho
 rw[show([n1,n2]:List Int).length=2 from rfl,show [kind]++bY [n1,n2]=[kind]++az n1++az n2 by simp[bY]]at h9
 exact h9
def fm(x:aR)(most:Int):aR:={(aM x most).2 with done:=false}
theorem RdC.start{N:Nat}{w0 W0 W4 W5:World}{cb:Nat}{g:Cfg}{c:aw}{a0 a1:aJ}{id most:Int}{x:aR}{b:Nat}{e4 e5:Ending}(hW0:Below w0.heap.size w0 W0)(hres:W0.heap[w0.heap.size]? =some (.cells #[.slice none 0 0,.bool false,.bool false] 46 (0,0)))(hsm:a0.sm<w0.heap.size)
  (hx:c.streams[id.toNat]? =some x) (hd:x.done=false) (hso:gq N W0 cb g c a0 id e4 W4 b a1) (htr:jo a1.u W4 b (a1.lv id) g.c2 x most e5 W5):
  ∃tv a2,e5=.returned (.agg #[tv,.bool (aM x most).1.fin,.bool (aM x most).1.rst])/\(∃ao l c,tv=.slice ao l c)/\(id,b)∈a2.sl/\a2.lv id=a2.lv id/\
   RdC (N+1) w0 cb g a0 W5.heap.size tv (aM x most).1 a2 ({c with streams:=c.streams.set id.toNat (fm x most)},[]) (.slice none 0 0) (W5.alloc (.cells #[tv,.bool (aM x most).1.fin,.bool (aM x most).1.rst] 46)):=by
 obtain⟨tv,lv',rfl,hown,hst,hat⟩:=htr.ex
 have s1:=hW0.size
 have s2:=hso.chg.size
 have s3:=htr.chg.size
 have hsx:=hso.con.str (id,b) hso.mem x hx
 obtain⟨vs0,ho0⟩:=hsx.own
 obtain⟨vs,hr,hcap⟩:=hst.runs
 have hold:=hr.old (jG _ _)
 have hst':StrAt (fun k=>(a1.u k\/(W4.heap.size<=k/\k<W5.heap.size))/\tv.ownBlock≠some k) W5 b lv' g.c2 (fm x most):=by
  refine⟨hst.blk,vs,hr,fun v hv=>⟨(hcap v hv).1,fun k hk=>?_⟩⟩
  obtain⟨q1,q2⟩:=(hcap v hv).2 k hk
  exact⟨q1.imp (fun h=>h) (fun h=>⟨h,hold v hv k hk⟩),q2⟩
 obtain⟨q1,q2⟩:=hso.con.took2 hso.mem hx hd (y:=fm x most) rfl htr.chg (U:=fun k=>(a1.u k\/(W4.heap.size<=k/\k<W5.heap.size))/\tv.ownBlock≠some k) (fun k hk=>⟨Or.inl hk,fun e=>by
  have h1:=(hown.lt k e).1
  have h2:=hso.con.ul k hk
  omega⟩) (fun k hk=>by
  rcases hk.1 with h1|h1
  ·have:=hso.con.ul k h1;omega
  ·exact h1.2) hst' hat
 have hb6:Below W5.heap.size W5 (W5.alloc (.cells #[tv,.bool (aM x most).1.fin,.bool (aM x most).1.rst] 46)):=ag W5 _
 obtain⟨ao,cp,hform⟩:=bd hown
 refine⟨tv,{a1 with lv:=fun k=>if k=id then lv' else a1.lv k,u:=fun k=>(a1.u k\/(W4.heap.size<=k/\k<W5.heap.size))/\tv.ownBlock≠some k},rfl,⟨_,_,_,hform⟩,hso.mem,rfl,q1.below hb6,fun k hk=>?_,fun k hk=>?_,?_,heap_alloc_new W5 _,?_,ch (aF hown hb6) (by omega),OutsU.none (OutsAt.nil _ _) rfl,fun k hk h=>h.2 hk⟩
 ·rcases q2 k hk with h1|h1
  ·rcases hso.inn k h1 with h2|h2
   ·exact Or.inl h2
   ·exact Or.inr (by omega)
  ·exact Or.inr (by omega)
 ·rcases hk.1 with h1|h1
  ·exact Or.inl (by rw[<-hso.u];exact h1)
  ·exact Or.inr (by omega)
 ·refine eT (eT (eT (Chg.of_below hW0) hso.chg fun q _ e=>Or.inr (Or.inr (Or.inl e))) htr.chg fun q hq e=>?_) (Chg.of_below (F:=fun _=>False) hb6) fun q _ e=>e.elim
  rcases hso.inn q (Or.inr (Or.inr (Or.inr (Or.inr ⟨(id,b),hso.mem,e⟩)))) with h1|h1
  ·exact h1
  ·omega
 ·have r4:W4.heap[w0.heap.size]? =some (.cells #[.slice none 0 0,.bool false,.bool false] 46 (0,0)):=(hso.chg.block _ (aLt hres) (fun e=>by omega)).trans hres
  have r5:W5.heap[w0.heap.size]? =some (.cells #[.slice none 0 0,.bool false,.bool false] 46 (0,0)):=by
   refine(htr.chg.block _ (aLt r4) ?_).trans r4
   rintro(e|e)
   ·have h1:=hsx.blk
    simp only at h1
    rw[<-e,r4]at h1
    simp only[Option.some.injEq,Obj.cells.injEq]at h1
    exact absurd h1.2.1 (by decide)
   ·exact ax ho0 r4 (by decide) e
  exact(hb6.block _ (aLt r5)).trans r5
theorem RdC.finish{N n1 n2:Nat}{w0:World}{cb:Nat}{g:Cfg}{a0:aJ}{gb:Nat}{tv:Value}{x:ir}{a:aJ}{c:aw}{o:List (Int×List Int)}{v:Value}{w w':World}{id:Int}{b:Nat}{y:aR}{e:Ending}(h:RdC N w0 cb g a0 gb tv x a (c,o) v w)(hm:(id,b)∈a.sl)(hy:c.streams[id.toNat]? =some y)(hd:y.done=false)(h1:n1<=N)(h2:n2<=N)
  (hf:ld w cb g c a.plv a.sm a.dm (bm c.streams+y.final) n1 (n2+1) (gS a.sl id) (a.dl++[(id,(y.final,y.reset))]) e w'):
  ∃a',RdC (N+1) w0 cb g a0 gb tv x a' ({c with streams:=c.streams.set id.toNat {y with done:=true}},o) v w'/\a'.u=a.u/\StrAt a.u w' b (a.lv id) g.c2 y:=by
 obtain⟨q1,q2⟩:=h.con.finished hm hy hd h1 h2 hf
 have hF:∀k,(k=cb\/k=a.sm\/k=a.dm)->bh cb a k:=by
  rintro k (e|e|e)
  ·exact Or.inl e
  ·exact Or.inr (Or.inr (Or.inl e))
  ·exact Or.inr (Or.inr (Or.inr (Or.inl e)))
 refine⟨{a with sl:=gS a.sl id,dl:=a.dl++[(id,(y.final,y.reset))]},h.chgF hf.chg q1 (fun k hk=>Or.inl (q2 k hk)) rfl hF,rfl,?_⟩
 have hs:=h.con.str (id,b) hm y hy
 have hblk:w.heap[cb]? =some (.cells (kp g c a.plv a.sm a.dm (bm c.streams)) 137 (0,0)):=h.con.blk
 obtain⟨m1,_,hm1⟩:=h.con.smap
 obtain⟨m2,_,hm2⟩:=h.con.dmap
 obtain⟨es1,ck1,hb1⟩:=hm1.is_map
 obtain⟨es2,ck2,hb2⟩:=hm2.is_map
 have hT:∀k cur t fr,w.heap[k]? =some (.cells cur t fr)->t≠137->¬(k=cb\/k=a.sm\/k=a.dm):=by
  rintro k cur t fr hk ht (e|e|e)
  ·rw[e,hblk]at hk
   simp only[Option.some.injEq,Obj.cells.injEq]at hk
   exact ht hk.2.1.symm
  ·rw[e,hb1]at hk
   cases hk
  ·rw[e,hb2]at hk
   cases hk
 refine hs.chg hf.chg (hT _ _ _ _ hs.blk (by decide)) (fun k hk e=>?_) (fun k cur fr hk=>hT _ _ _ _ hk (by decide))
 obtain⟨vs1,ho1⟩:=hs.own
 obtain⟨c1,e1⟩:=aQ ho1 hk
 exact hT _ _ _ _ e1 (by decide) e
theorem RdC.raised{N:Nat}{w0:World}{cb:Nat}{g:Cfg}{a0:aJ}{gb:Nat}{tv:Value}{x:ir}{a:aJ}{c:aw}{o:List (Int×List Int)}{v:Value}{w w':World}{id:Int}{b:Nat}{y y':aR}(h:RdC N w0 cb g a0 gb tv x a (c,o) v w)(hm:(id,b)∈a.sl)(hy:c.streams[id.toNat]? =some y)(hd:y.done=false)(hd':y'.done=false)
  (hs:StrAt a.u w' b (a.lv id) g.c2 y') (hc:Chg (· = b) w w'):
  ∃a',RdC N w0 cb g a0 gb tv x a' ({c with streams:=c.streams.set id.toNat y'},o) v w'/\a'.u=a.u/\(id,b)∈a'.sl:=by
 have hc2:Chg (fun k=>k=b\/(a.lv id).ownBlock=some k) w w':=hc.mono fun k _ e=>Or.inl e
 obtain⟨q1,q2⟩:=h.con.took2 hm hy hd hd' hc2 (U:=a.u) (fun k hk=>hk) (fun k hk=>Nat.lt_of_lt_of_le (h.con.ul k hk) hc.size) hs (Or.inl rfl)
 exact⟨{a with lv:=fun k=>if k=id then a.lv id else a.lv k,u:=a.u},h.chgF hc q1 q2 rfl fun k hk=>Or.inr (Or.inr (Or.inr (Or.inr ⟨(id,b),hm,Or.inl hk⟩))),rfl,hm⟩
theorem RdC.blk{N:Nat}{w0:World}{cb:Nat}{g:Cfg}{a0:aJ}{gb:Nat}{tv:Value}{x:ir}{a:aJ}{c c':aw}{o:List (Int×List Int)}{v:Value}{w w':World}(h:RdC N w0 cb g a0 gb tv x a (c,o) v w)(hc:Chg (· = cb) w w')(hA:ConAt N w' cb g c' a):RdC N w0 cb g a0 gb tv x a (c',o) v w':=
 h.chgF hc hA (fun _ hk=>Or.inl hk) rfl fun _ hk=>Or.inl hk
structure fZ(N:Nat)(w:World)(cb:Nat)(g:Cfg)(a:aJ)(x:ir)(r:aw×List (Int×List Int))(e:Ending)(w':World):Prop where
 ex:∃tv v a',e=.returned (.tuple #[.agg #[tv,.bool x.fin,.bool x.rst],v])/\(∃ao l c,v=.slice ao l c)/\w'.ownsRow w.heap.size 5 1 tv x.bytes.length (U8 x.bytes)/\OutsU (fun k=>a'.u k\/tv.ownBlock=some k) w' w.heap.size v r.2/\(∀k,tv.ownBlock=some k->¬a'.u k)/\ConAt (N+2) w' cb g r.1 a'/\(∀k,bh cb a' k->bh cb a k\/w.heap.size<=k)/\UIn w.heap.size a a'
 chg:Chg (bh cb a) w w'
theorem RdC.fin{N:Nat}{w0:World}{cb:Nat}{g:Cfg}{a0:aJ}{gb:Nat}{tv:Value}{x:ir}{a:aJ}{r:aw×List (Int×List Int)}{v:Value}{w w':World}(h:RdC (N+2) w0 cb g a0 gb tv x a r v w)(hc:Chg (· = w0.heap.size) w w'):fZ N w0 cb g a0 x r (.returned (.tuple #[.agg #[tv,.bool x.fin,.bool x.rst],v])) w':=by
 have hne:∀k cur e fr,w.heap[k]? =some (.cells cur e fr)->e≠46->¬k=w0.heap.size:=by
  intro k cur e fr hk h1 e1
  rw[e1,h.res]at hk
  simp only[Option.some.injEq,Obj.cells.injEq]at hk
  exact h1 hk.2.1.symm
 refine⟨⟨tv,v,a,rfl,?_,eI h.byt hc fun k cur fr hk=>hne _ _ _ _ hk (by decide),h.out.chg hc (fun k cur fr hk=>hne _ _ _ _ hk (by decide)) (fun k cur fr hk=>hne _ _ _ _ hk (by decide)),h.sep,?_,h.inn,h.u⟩,eT h.chg hc fun q hq e=>by omega⟩
 ·obtain⟨ao,cap,e⟩:=h.out.at.form
  exact⟨_,_,_,e⟩
 ·refine h.con.chg hc (fun k hk e=>?_) (fun k cur fr hk=>hne _ _ _ _ hk (by decide))
  subst e
  exact cF h.con h.res (by decide) (by decide) (by decide) (by decide) hk
theorem RdC.mono{N N':Nat}{w0:World}{cb:Nat}{g:Cfg}{a0:aJ}{gb:Nat}{tv:Value}{x:ir}{a:aJ}{r:aw×List (Int×List Int)}{v:Value}{w:World}(h:RdC N w0 cb g a0 gb tv x a r v w)(hn:N<=N'):RdC N' w0 cb g a0 gb tv x a r v w:=
 ⟨h.con.mono hn,h.inn,h.u,h.chg,h.box,h.res,h.byt,h.out,h.sep⟩
theorem StrAt.undone{U:Nat->Prop}{w:World}{b:Nat}{lv:Value}{piece:Int}{y z:aR}(h:StrAt U w b lv piece y)(h1:z.bytes=y.bytes)(h2:z.read=y.read)(h3:z.highest=y.highest)(h4:z.credit=y.credit)(h5:z.final=y.final)(h6:z.reset=y.reset):StrAt U w b lv piece z:=by
 obtain⟨q1,q2⟩:=h
 rw[<-h2,<-h3,<-h4,<-h5,<-h6]at q1
 rw[<-h1,<-h2]at q2
 exact⟨q1,q2⟩
def PA(N:Nat)(w0:World)(cb:Nat)(g:Cfg)(a0:aJ)(gb:Nat)(tv:Value)(x:ir)(c:aw)(id:Int)(b:Nat)(y:aR)(w:World):Prop:=
 ∃a lvb,RdC (N+2) w0 cb g a0 gb tv x a ({c with streams:=c.streams.set id.toNat y},[]) (.slice none 0 0) w/\StrAt a.u w b lvb g.c2 y/\(y.done=false->(id,b)∈a.sl/\a.lv id=lvb)
def eP(g:Cfg)(y:aR):aR:=if fX g y then {y with credit:=bS y.read g.c2} else y
theorem PA.raise{N:Nat}{w0:World}{cb:Nat}{g:Cfg}{a0:aJ}{gb:Nat}{tv:Value}{x:ir}{c:aw}{id:Int}{b:Nat}{y:aR}{w:World}(h:PA N w0 cb g a0 gb tv x c id b y w)(hI:StrInv g.c4 y)(hg:bM g)(hid:id.toNat<c.streams.length):
  Calls Tryz.prog 77 #[.pointer (some ⟨b,0,none⟩)] w fun e w'=>e=.returned (.bool (fX g y))/\(∃a,RdC (N+2) w0 cb g a0 gb tv x a ({c with streams:=c.streams.set id.toNat (eP g y)},[]) (.slice none 0 0) w')/\w'.cell? ⟨b,3,none⟩= some (.int .i64 (eP g y).credit)/\w'.cell? ⟨b,4,none⟩= some (.int .i64 g.c2):=by
 obtain⟨a,lvb,hR,hS,hm⟩:=h
 have h2:=hg.c2
 have h1:=hg.c1
 refine(tRaise_at a.u b lvb g y g.c4 w hS hI (by omega)).mono ?_
 rintro e w' ⟨rfl,hs,hc,hbl⟩
 refine⟨rfl,?_,hs.cell 3,hs.cell 4⟩
 have hy:({c with streams:=c.streams.set id.toNat y}:aw).streams[id.toNat]? =some y:=by
  simp only
  rw[List.getElem?_set_self hid]
 have hdd:(eP g y).done=y.done:=by unfold eP;split<;>rfl
 cases hd:y.done with
 |false=>
  obtain⟨hmem,rfl⟩:=hm hd
  obtain⟨a',q,_⟩:=hR.raised hmem hy hd (hdd.trans hd) hs hc
  simp only[List.set_set]at q
  exact⟨a',q⟩
 |true=>
  have h0:=(hI.dn hd).2.1
  have hmx:fX g y=false:=by
   unfold fX
   rw[decide_eq_false (by omega:¬y.final<0)]
   rfl
  have e:eP g y=y:=by
   unfold eP
   rw[hmx]
   rfl
  rw[e]
  exact⟨a,hR.below (hbl h0)⟩
def PB(N:Nat)(w0:World)(cb:Nat)(g:Cfg)(a0:aJ)(gb:Nat)(tv:Value)(x:ir)(r:aw×List (Int×List Int))(v:Value)(w:World):Prop:=
 (∃ao l c,v=.slice ao l c)/\∃a,RdC (N+2) w0 cb g a0 gb tv x a r v w
theorem PB.below{N:Nat}{w0:World}{cb:Nat}{g:Cfg}{a0:aJ}{gb:Nat}{tv:Value}{x:ir}{r:aw×List (Int×List Int)}{v:Value}{w W:World}(h:PB N w0 cb g a0 gb tv x r v w)(hW:Below w.heap.size w W):PB N w0 cb g a0 gb tv x r v W:=by
 obtain⟨hf,a,hR⟩:=h
 exact⟨hf,a,hR.below hW⟩
theorem pieceC_eq(g:Cfg)(c:aw)(id:Nat)(y:aR):fu g c id y=if fX g y then(bt {c with streams:=c.streams.set id (eP g y)} ([17]++az id++az (eP g y).credit),ca {c with streams:=c.streams.set id (eP g y)} ([17]++az id++az (eP g y).credit) []) else({c with streams:=c.streams.set id (eP g y)},[]):=by
 unfold fu eP
 split<;>rfl
def lC(g:Cfg)(r:aw×List (Int×List Int)):Bool:=decide (r.1.credit<readAll r.1.streams+g.c1/2)&&decide (r.1.credit<1073741823)
def fy(g:Cfg)(c:aw):aw:=if lC g (c,[]) then {c with credit:=bS (readAll c.streams) g.c1} else c
theorem dataC_eq(g:Cfg)(r:aw×List (Int×List Int)):iA g r=if lC g r then(bt (fy g r.1) ([16]++az (fy g r.1).credit),ca (fy g r.1) ([16]++az (fy g r.1).credit) r.2) else(fy g r.1,r.2):=by
 unfold iA fy
 have e:lC g (r.1,[])=lC g r:=rfl
 rw[e]
 unfold lC
 split<;>rfl
theorem PB.follow{N:Nat}{w0:World}{cb:Nat}{g:Cfg}{a0:aJ}{gb:Nat}{tv:Value}{x:ir}{r:aw×List (Int×List Int)}{v:Value}{w:World}(h:PB N w0 cb g a0 gb tv x r v w)(hg:bM g){M:Int}(hi:ConI g r.1)(hok:ConOk M r.1):
  Calls Tryz.prog 80 #[.pointer (some ⟨cb,18,none⟩),.int .i64 (readAll r.1.streams)] w fun e w'=>e=.returned (.bool (lC g r))/\PB N w0 cb g a0 gb tv x (fy g r.1,r.2) v w':=by
 obtain⟨hf,a,hR⟩:=h
 have h1:=hg.c1
 have hr:=hi.read hok
 have hcr:=hok.credit
 refine(n6 r.1.credit g.c1 (readAll r.1.streams) cb 18 _ 137 w hR.con.blk rfl rfl (by omega) (by omega)).mono ?_
 rintro e w' ⟨rfl,hw'⟩
 refine⟨by rw[kG _ _ _ (by omega)];rfl,hf,a,?_⟩
 have hcr':fy g r.1 = {r.1 with credit:=dw r.1.credit g.c1 (readAll r.1.streams)}:=by
  unfold fy lC
  simp only
  rw[rI _ _ _ hcr.2 (by omega)]
  split<;>rfl
 rw[hcr']
 by_cases hl:r.1.credit<readAll r.1.streams+g.c1/2
 ·rw[if_pos hl]at hw'
  subst hw'
  have hC:Chg (· = cb) w (w.setCell ⟨cb,18,none⟩ (.int .i64 (dw r.1.credit g.c1 (readAll r.1.streams)))):=aI (Below.refl _ _) 18 _
  refine hR.blk hC (hR.con.reblk hC ?_ rfl rfl)
  show _=_
  refine(al hR.con.blk 18 _).trans ?_
  simp[kp]
 ·rw[if_neg hl]at hw'
  subst hw'
  have e:dw r.1.credit g.c1 (readAll r.1.streams)=r.1.credit:=by unfold dw;rw[if_neg hl]
  rw[e]
  exact hR
end Go.Proofs.YthmdjhlhodpbhaaGreatDoor
