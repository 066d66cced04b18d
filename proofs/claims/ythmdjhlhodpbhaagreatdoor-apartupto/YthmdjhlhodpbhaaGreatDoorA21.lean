/- Apart, 21 -/
import Derived.Test.YthmdjhlhodpbhaaGreatDoorA20
set_option maxHeartbeats 16000000
set_option maxRecDepth 8000
namespace Go.Proofs.YthmdjhlhodpbhaaGreatDoor
open Go.RowKit
theorem rV{l:List aR}:∀{i:Nat} {x y:aR},l[i]? =some x->x.done=false->y.done=false->bm (l.set i y)=bm l:=by
 induction l with
 |nil=>intro i x y h;simp at h
 |cons a t ih=>
  intro i x y h h1 h2
  cases i with
  |zero=>
   simp only[List.getElem?_cons_zero,Option.some.injEq]at h
   subst h
   simp[bm,h1,h2]
  |succ i=>
   have:=ih (i:=i) (x:=x) (y:=y) (by simpa using h) h1 h2
   simp only[bm,List.set_cons_succ,List.filter_cons]at this⊢
   split<;>simp[this]
theorem pn{l:List aR}{i:Nat}{x y:aR}(h:l[i]? =some x)(h1:x.done=false)(h2:y.done=false)(id:Int):fp (l.set i y) id=fp l id:=by
 unfold fp
 split
 ·by_cases e:id.toNat=i
  ·subst e
   rw[aK h,h]
   simp[h1,h2]
  ·rw[aD e]
 ·rfl
theorem ConBlk.streams{w:World}{cb:Nat}{g:Cfg}{c:aw}{plv:Value}{sm dm:Nat}{past:Int}(h:ConBlk w cb g c plv sm dm past)(l:List aR)(hl:l.length=c.streams.length):ConBlk w cb g {c with streams:=l} plv sm dm past:=by
 unfold ConBlk kp at h⊢
 simp only
 rw[hl]
 exact h
theorem ConAt.took{N:Nat}{w w':World}{cb:Nat}{g:Cfg}{c:aw}{a:aJ}{sid:Int}{b:Nat}{x y:aR}{lv':Value}(h:ConAt N w cb g c a)(hm:(sid,b)∈a.sl)(hx:c.streams[sid.toNat]? =some x)(hd:x.done=false)(hyd:y.done=false)
  (hc:Chg (fun k=>k=b\/(a.lv sid).ownBlock=some k) w w') (hy:StrAt (fun k=>a.u k\/(w.heap.size<=k/\k<w'.heap.size)) w' b lv' g.c2 y) (hat:lv'.ownBlock=(a.lv sid).ownBlock\/∀k,lv'.ownBlock=some k->w.heap.size<=k):
  ConAt N w' cb g {c with streams:=c.streams.set sid.toNat y} {a with lv:=fun k=>if k=sid then lv' else a.lv k,u:=fun k=>a.u k\/(w.heap.size<=k/\k<w'.heap.size)}/\∀k,bh cb {a with lv:=fun k=>if k=sid then lv' else a.lv k,u:=fun k=>a.u k\/(w.heap.size<=k/\k<w'.heap.size)} k->bh cb a k\/w.heap.size<=k:=by
 have hsx:=h.str (sid,b) hm x hx
 have hblk:=hsx.blk
 obtain⟨vs0,ho0⟩:=hsx.own
 have hF:∀k cur e fr,w.heap[k]? =some (.cells cur e fr)->e≠204->e≠259->¬(k=b\/(a.lv sid).ownBlock=some k):=by
  rintro k cur e fr hk h1 h2 (e1|e1)
  ·subst e1
   simp only at hblk
   rw[hblk]at hk
   simp only[Option.some.injEq,Obj.cells.injEq]at hk
   exact h1 hk.2.1.symm
  ·exact ax ho0 hk (fun e=>h2 e.symm) e1
 have hFm:∀k es ck,w.heap[k]? =some (.map es ck)->¬(k=b\/(a.lv sid).ownBlock=some k):=by
  rintro k es ck hk (e1|e1)
  ·subst e1
   simp only at hblk
   rw[hblk]at hk
   cases hk
  ·obtain⟨c1,e2⟩:=aQ ho0 e1
   rw[hk]at e2
   cases e2
 obtain⟨n1,hn1,hm1⟩:=h.smap
 obtain⟨n2,hn2,hm2⟩:=h.dmap
 obtain⟨es1,ck1,hb1⟩:=hm1.is_map
 obtain⟨es2,ck2,hb2⟩:=hm2.is_map
 obtain⟨vs,hvs⟩:=h.pk
 have h0:=(h.mp.str (sid,b) hm).1
 have hsame:∀p∈a.sl,p.1=sid->p.2=b:=by
  intro p hp e
  have h1:=iL h.mp.nd (show(p.1,p.2)∈a.sl from hp)
  have h2:=iL h.mp.nd hm
  rw[e,h2]at h1
  simp only[Option.some.injEq]at h1
  exact h1.symm
 constructor
 ·refine⟨?_,⟨vs,bX hvs.own hc (fun k hk e=>?_),hvs.sh⟩,⟨n1,hn1,hm1.same (hc.block _ hm1.lt (hFm _ _ _ hb1))⟩,⟨n2,hn2,hm2.same (hc.block _ hm2.lt (hFm _ _ _ hb2))⟩,?_,?_,?_,h.ne,?_,fun k hk=>hk.elim (fun h1=>Nat.lt_of_lt_of_le (h.ul k h1) hc.size) (fun h1=>h1.2)⟩
  ·have h1:=(h.blk.chg hc (hF _ _ _ _ h.blk (by decide) (by decide))).streams (c.streams.set sid.toNat y) (by simp)
   simp only[rV hx hd hyd]
   exact h1
  ·obtain⟨c1,e1⟩:=aQ hvs.own hk
   exact hF _ _ _ _ e1 (by decide) (by decide) e
  ·refine⟨h.mp.nd,fun p hp=>?_,fun i z hz hzd hk=>?_⟩
   ·obtain⟨p0,z,hz,hzd⟩:=h.mp.str p hp
    refine⟨p0,?_⟩
    by_cases e:p.1.toNat=sid.toNat
    ·rw[e]
     exact⟨y,aK hx,hyd⟩
    ·exact⟨z,by simp only;rw[aD e];exact hz,hzd⟩
   ·have hi:i≠sid.toNat:=by
     intro e
     refine hk (List.mem_map.2 ⟨(sid,b),hm,?_⟩)
     simp only
     rw[e]
     omega
    simp only at hz
    rw[aD hi]at hz
    exact h.mp.non i z hz hzd hk
  ·intro p hp z hz
   by_cases e:p.1=sid
   ·simp only[if_pos e]
    rw[hsame p hp e]
    simp only at hz
    rw[e,aK hx]at hz
    simp only[Option.some.injEq]at hz
    subst hz
    exact hy
   ·simp only[if_neg e]
    have hp0:=(h.mp.str p hp).1
    have e2:p.1.toNat≠sid.toNat:=by omega
    simp only at hz
    rw[aD e2]at hz
    have hap:=h.apart p hp (sid,b) hm e
    refine((h.str p hp z hz).chg hc ?_ ?_ (fun k cur fr hk=>hF k cur _ fr hk (by decide) (by decide))).mono (fun k hk=>Or.inl hk)
    ·rintro(e3|e3)
     ·exact hap.1 e3
     ·have hbp:=(h.str p hp z hz).blk
      exact ax ho0 hbp (by decide) e3
    ·rintro k hk (e3|e3)
     ·obtain⟨vs1,ho1⟩:=(h.str p hp z hz).own
      subst e3
      exact ax ho1 hblk (by decide) hk
     ·exact hap.2 k hk e3
  ·intro id
   rw[h.don id]
   exact(pn hx hd hyd id).symm
  ·intro p hp q hq hpq
   by_cases e1:p.1=sid
   ·have e2:q.1≠sid:=fun e=>hpq (e1.trans e.symm)
    have hap:=h.apart p hp q hq hpq
    refine⟨hap.1,fun k hk=>?_⟩
    simp only[if_pos e1]at hk
    simp only[if_neg e2]
    rcases hat with e3|e3
    ·rw[e3,<-e1]at hk
     exact hap.2 k hk
    ·intro hk2
     obtain⟨q0,z,hz,_⟩:=h.mp.str q hq
     obtain⟨vs1,ho1⟩:=(h.str q hq z hz).own
     have h1:=(ho1.lt k hk2).2
     have h2:=e3 k hk
     omega
   ·by_cases e2:q.1=sid
    ·have hap:=h.apart p hp q hq hpq
     refine⟨hap.1,fun k hk=>?_⟩
     simp only[if_neg e1]at hk
     simp only[if_pos e2]
     rcases hat with e3|e3
     ·rw[e3,<-e2]
      exact hap.2 k hk
     ·intro hk2
      obtain⟨p0,z,hz,_⟩:=h.mp.str p hp
      obtain⟨vs1,ho1⟩:=(h.str p hp z hz).own
      have h1:=(ho1.lt k hk).2
      have h2:=e3 k hk2
      omega
    ·simp only[if_neg e1,if_neg e2]
     exact h.apart p hp q hq hpq
 ·rintro k (e|e|e|e|⟨p,hp,e⟩)
  ·exact Or.inl (Or.inl e)
  ·exact Or.inl (Or.inr (Or.inl e))
  ·exact Or.inl (Or.inr (Or.inr (Or.inl e)))
  ·exact Or.inl (Or.inr (Or.inr (Or.inr (Or.inl e))))
  ·by_cases e1:p.1=sid
   ·simp only[if_pos e1]at e
    rcases e with e|e
    ·exact Or.inl (Or.inr (Or.inr (Or.inr (Or.inr ⟨p,hp,Or.inl e⟩))))
    ·rcases hat with e3|e3
     ·rw[e3,<-e1]at e
      exact Or.inl (Or.inr (Or.inr (Or.inr (Or.inr ⟨p,hp,Or.inr e⟩))))
     ·exact Or.inr (e3 k e)
   ·simp only[if_neg e1]at e
    exact Or.inl (Or.inr (Or.inr (Or.inr (Or.inr ⟨p,hp,e⟩))))
structure TakeC(N:Nat)(w:World)(cb:Nat)(g:Cfg)(c:aw)(a:aJ)(r:Int×aw)(e:Ending)(w':World):Prop where
 ret:e=.returned (.int .i64 r.1)
 chg:Chg (bh cb a) w w'
 blk:ConBlk w' cb g c a.plv a.sm a.dm (bm c.streams)
 con:r.1=0->∃a',ConAt (N+1) w' cb g r.2 a'/\(∀k,bh cb a' k->bh cb a k\/w.heap.size<=k)/\UIn w.heap.size a a'
theorem sQ{gaps:Int}{f:dx}{c:aw}(h:c.streams[f.id.toNat]? =none):bG gaps f c=(4,c):=by
 unfold bG
 rw[h]
theorem jV{gaps:Int}{f:dx}{c:aw}{x:aR}(h:c.streams[f.id.toNat]? =some x):bG gaps f c=((bf gaps c.credit (cV c.streams) f x).1,{c with streams:=c.streams.set f.id.toNat (bf gaps c.credit (cV c.streams) f x).2}):=by
 unfold bG
 rw[h]
theorem tF{gaps credit high:Int}{f:dx}{x:aR}(hx:StrInv gaps x)(hd:x.done=true)(hty:f.type=3\/f.type=4\/f.type=5):bf gaps credit high f x=(ft f.type (f.ofs+f.bytes.length) x.final,x):=by
 have h0:=(hx.dn hd).2.1
 unfold bf
 simp only
 have hb:lI x (f.ofs+f.bytes.length) (decide (f.type≠3))=decide (ft f.type (f.ofs+f.bytes.length) x.final=6):=by
  unfold lI ft
  rw[hd,l8 hty]
  by_cases h1:x.final<f.ofs+f.bytes.length
  ·simp[h0,h1]
  ·by_cases h2:f.type=3
   ·simp[h1,h2]
   ·by_cases h3:f.ofs+(f.bytes.length:Int)=x.final
    ·simp[h3]
    ·simp[h0,h1,h2,h3]
 rw[hb]
 by_cases h6:ft f.type (f.ofs+f.bytes.length) x.final=6
 ·rw[if_pos (by simp[h6]),h6]
 ·have:ft f.type (f.ofs+f.bytes.length) x.final=0:=by
   unfold ft at h6⊢
   split
   ·next h=>rw[if_pos h]at h6;exact absurd rfl h6
   ·rfl
  rw[if_neg (by simp[h6]),if_pos hd,this]
theorem oF{gaps credit high:Int}{f:dx}{x:aR}(hd:x.done=false):(bf gaps credit high f x).2.done=false:=by
 have hp:∀r:aR,r.done=false->(fB f x r).done=false:=by
  intro r hr
  unfold fB
  simp only
  split<;>split<;>exact hr
 have hr:(dt gaps x f.ofs f.bytes).2.done=false:=by
  unfold dt
  split
  ·exact hd
  ·split<;>exact hd
 unfold bf
 simp only
 repeat' split
 all_goals first|exact hd|exact hp _ hr|exact hp _ hd
theorem MapS.len{α:Type}{piece:Int}{l:List aR}{sl:List (Int×α)}(h:MapS piece l sl):sl.length<=l.length:=by
 have hks:∀m:List (Int×α),(m.map (·.1)).Nodup->(∀p∈m,0<=p.1)->(m.map fun p=>p.1.toNat).Nodup:=by
  intro m
  induction m with
  |nil=>intro _ _;simp
  |cons b t ih=>
   intro hn h0
   simp only[List.map_cons,List.nodup_cons]at hn⊢
   refine⟨fun hm=>?_,ih hn.2 (fun p hp=>h0 p (by simp[hp]))⟩
   obtain⟨q,hq,e⟩:=List.mem_map.1 hm
   have h1:=h0 b (by simp)
   have h2:=h0 q (by simp[hq])
   exact hn.1 (List.mem_map.2 ⟨q,hq,by omega⟩)
 have hn:=hks sl h.nd (fun p hp=>(h.str p hp).1)
 have hp:((List.range l.length).filter fun i=>decide (i∈sl.map fun p=>p.1.toNat)).Perm (sl.map fun p=>p.1.toNat):=by
  rw[List.perm_ext_iff_of_nodup (List.nodup_range.filter _) hn]
  intro b
  simp only[List.mem_filter,List.mem_range,decide_eq_true_eq]
  refine⟨fun h=>h.2,fun hb=>⟨?_,hb⟩⟩
  obtain⟨p,hp,rfl⟩:=List.mem_map.1 hb
  obtain⟨_,x,hx,_⟩:=h.str p hp
  exact(lLt hx)
 have h1:=hp.length_eq
 have h2:=List.length_filter_le (fun i=>decide (i∈sl.map fun p=>p.1.toNat)) (List.range l.length)
 simp only[List.length_map,List.length_range]at h1 h2
 omega
theorem j9{gaps:Int}{l:List aR}(h:∀x∈l,StrInv gaps x):0<=bm l:=by
 unfold bm
 have:∀m:List aR,(∀x∈m,StrInv gaps x/\x.done=true)->0<=(m.map fun x=>x.final).sum:=by
  intro m
  induction m with
  |nil=>intro _;simp
  |cons b t ih=>
   intro hm
   have h1:=(hm b (by simp)).1.dn (hm b (by simp)).2
   have h2:=ih fun x hx=>hm x (by simp[hx])
   simp only[List.map_cons,List.sum_cons]
   omega
 refine this _ fun x hx=>?_
 rw[List.mem_filter]at hx
 exact⟨h x hx.1,hx.2⟩
theorem ctake_any [LoM] (N cb:Nat)(g:Cfg)(c:aw)(a:aJ)(f:dx)(bv:Value)(pf:Int)(w:World)(h:ConAt N w cb g c a)(hi:ConInv g c)(hg:bM g){M:Int}(hok:ConOk M c)(hN:N<1125899906842624)(hty:f.type=3\/f.type=4\/f.type=5)(h5:f.type=5->f.bytes=[])(hfo:oT f)(hl:f.bytes.length<=1073741823)(hbv:RdB w bv f.bytes):
  Calls Tryz.prog 205 #[.pointer (some ⟨cb,0,none⟩),gN f.type f.id (if f.type=5 then 0 else f.ofs) bv (f.ofs+f.bytes.length) pf] w fun e w'=>TakeC N w cb g c a (bG g.c4 f c) e w':=by
 obtain⟨po,hpo⟩:∃po,(if f.type=5 then 0 else f.ofs)=po:=⟨_,rfl⟩
 obtain⟨en,hen⟩:∃en,f.ofs+(f.bytes.length:Int)=en:=⟨_,rfl⟩
 obtain⟨_,_,ba,bc,rfl,_⟩:=id hbv
 obtain⟨bl,hbl⟩:∃bl,f.bytes.length=bl:=⟨_,rfl⟩
 have HPo:=ab hpo
 have HEn:=ab hen
 have HBl:=ab hbl
 rw[hpo,hen,hbl]
 rw[hbl]at hbv
 have hid:=hfo.id
 have hba:Below w.heap.size w (w.alloc (.cells #[.int .i64 f.type,.int .i64 f.id,.int .i64 po,.slice ba bl bc,.int .i64 en,.int .i64 pf] 286)):=ag w _
 have HBX:Hid ((w.alloc (.cells #[.int .i64 f.type,.int .i64 f.id,.int .i64 po,.slice ba bl bc,.int .i64 en,.int .i64 pf] 286)).heap[w.heap.size]? =some (.cells #[.int .i64 f.type,.int .i64 f.id,.int .i64 po,.slice ba bl bc,.int .i64 en,.int .i64 pf] 286 (0,0))):=heap_alloc_new w _
 have HHas:=ab (uw cb g c a.plv a.sm a.dm (bm c.streams) f.id (w.alloc (.cells #[.int .i64 f.type,.int .i64 f.id,.int .i64 po,.slice ba bl bc,.int .i64 en,.int .i64 pf] 286)) (h.blk.below hba))
 have hd0:decide (0<=f.id)=true:=decide_eq_true hid.1
 rw[hd0,Bool.true_and]at HHas
 have HH:=ab h
 cases hx:c.streams[f.id.toNat]? with
 |none=>
  have hlen:¬(f.id<(c.streams.length:Int)):=by
   have:=List.getElem?_eq_none_iff.1 hx
   omega
  rw[decide_eq_false hlen]at HHas
  rw[sQ hx]
  have HE:Hid (TakeC N w cb g c a (4,c) (.returned (.int .i64 4)) (w.alloc (.cells #[.int .i64 f.type,.int .i64 f.id,.int .i64 po,.slice ba bl bc,.int .i64 en,.int .i64 pf] 286))):=⟨rfl,Chg.of_below hba,h.blk.below hba,fun h=>absurd (show(4:Int)=0 from h) (by decide)⟩
  clear h hi hg hok hfo hbv hba HBX HH hx
  unfold gN
  go_enter Tryz.func205,Tryz.ntmps205
  go_wp2_with fail
  refine HHas.out.mono ?_
  rintro e w1 ⟨rfl,rfl⟩
  clear HHas
  go_wp2_with fail
  go_ret
  exact HE.out
 |some x=>
  have hlen:f.id<(c.streams.length:Int):=by
   have:=(lLt hx)
   omega
  rw[decide_eq_true hlen]at HHas
  have hxm:=lMm hx
  have hxi:=hi.str x hxm
  have hwf:(Lit.int .i64 f.id).wf=true:=jk (by omega)
  obtain⟨n2,hn2,hm2⟩:=h.dmap
  have hlk:∀W:World,Below w.heap.size w W->(Instr.lookup 135 (.map (some a.dm)) (.int .i64 f.id) true).run Tryz.prog W=.ok (.tuple #[fk iS a.dl f.id,.bool (atK a.dl f.id).isSome]) W:=fun W hW=>kW (C:=iS) (e:=142) Tryz.underlying3 Tryz.underlying135 (fun W=>by kernel_rfl) (hm2.same (hW.block a.dm hm2.lt)) hwf
  have hdon:=h.don f.id
  have hda:fp c.streams f.id=if x.done then some (x.final,x.reset) else none:=by
   unfold fp
   rw[if_pos hid.1,hx]
   rfl
  rw[hda]at hdon
  have d22:(w.alloc (.cells #[.int .i64 f.type,.int .i64 f.id,.int .i64 po,.slice ba bl bc,.int .i64 en,.int .i64 pf] 286)).cell? ⟨cb,22,none⟩= some (.map (some a.dm)):=(h.blk.below hba).cell 22
  have Z1:Below w.heap.size w ((w.alloc (.cells #[.int .i64 f.type,.int .i64 f.id,.int .i64 po,.slice ba bl bc,.int .i64 en,.int .i64 pf] 286)).alloc (.cells #[.int .i64 0,.bool false] 142)):=ai hba (ag _ _)
  have e22:=ae d22 (ag (w.alloc (.cells #[.int .i64 f.type,.int .i64 f.id,.int .i64 po,.slice ba bl bc,.int .i64 en,.int .i64 pf] 286)) (.cells #[.int .i64 0,.bool false] 142))
  cases hd:x.done with
  |true=>
   rw[hd]at hdon
   simp only[if_true]at hdon
   have hv:fk iS a.dl f.id=.agg #[.int .i64 x.final,.bool x.reset]:=by unfold fk;rw[hdon];rfl
   simp only[hv,hdon,Option.isSome_some]at hlk
   have hl1:(Instr.lookup 135 (.map (some a.dm)) (.int .i64 f.id) true).run Tryz.prog (w.alloc (.cells #[.int .i64 f.type,.int .i64 f.id,.int .i64 po,.slice ba bl bc,.int .i64 en,.int .i64 pf] 286)).drew=.ok (.tuple #[.agg #[.int .i64 x.final,.bool x.reset],.bool true]) (w.alloc (.cells #[.int .i64 f.type,.int .i64 f.id,.int .i64 po,.slice ba bl bc,.int .i64 en,.int .i64 pf] 286)).drew:=hlk _ (ak hba 1)
   have hl2:(Instr.lookup 135 (.map (some a.dm)) (.int .i64 f.id) true).run Tryz.prog ((w.alloc (.cells #[.int .i64 f.type,.int .i64 f.id,.int .i64 po,.slice ba bl bc,.int .i64 en,.int .i64 pf] 286)).alloc (.cells #[.int .i64 0,.bool false] 142)).drew=.ok (.tuple #[.agg #[.int .i64 x.final,.bool x.reset],.bool true]) ((w.alloc (.cells #[.int .i64 f.type,.int .i64 f.id,.int .i64 po,.slice ba bl bc,.int .i64 en,.int .i64 pf] 286)).alloc (.cells #[.int .i64 0,.bool false] 142)).drew:=hlk _ (ak Z1 1)
   have HDT:=ab (fun W=>dTake_any x.final x.reset f.type f.id po (.slice ba bl bc) en pf W)
   have hsd:=tF (gaps:=g.c4) (credit:=c.credit) (high:=cV c.streams) (f:=f) hxi hd hty
   rw[hen]at hsd
   have HCd:Hid (bG g.c4 f c=(ft f.type en x.final,c)):=by
    show _=_
    rw[jV hx,hsd]
    simp only
    rw[e7 hx]
   have HE:Hid (∀W:World,Below w.heap.size w W->TakeC N w cb g c a (ft f.type en x.final,c) (.returned (.int .i64 (ft f.type en x.final))) W):=fun W hW=>⟨rfl,Chg.of_below hW,h.blk.below hW,fun _=>⟨a,(h.below hW).mono (Nat.le_succ _),fun k hk=>Or.inl hk,fun k hk=>Or.inl hk⟩⟩
   clear h hi hg hok hfo hbv HH hx hlk hm2 hxi hdon hda hsd
   rw[HCd.out]
   unfold gN at HDT⊢
   go_enter Tryz.func205,Tryz.ntmps205
   go_wp2_with fail
   refine HHas.out.mono ?_
   rintro e w1 ⟨rfl,rfl⟩
   clear HHas
   go_wp2_with fail
   go_region
   all_goals
    have HB2:=ab (ak (ai hba (ag (w.alloc (.cells #[.int .i64 f.type,.int .i64 f.id,.int .i64 po,.slice ba bl bc,.int .i64 en,.int .i64 pf] 286)) (.cells #[.int .i64 x.final,.bool x.reset] 142))) 1)
    go_wp2_with fail
    refine(HDT.out _).mono ?_
    rintro e w2 ⟨rfl,hb2⟩
    have HB3:=ab (ai HB2.out hb2)
    clear hb2 HB2
    go_wp2_with fail
    go_ret
    exact HE.out _ HB3.out
  |false=>
   rw[hd]at hdon
   simp only[Bool.false_eq_true,if_false]at hdon
   have hv:fk iS a.dl f.id=.agg #[.int .i64 0,.bool false]:=by unfold fk;rw[hdon];rfl
   simp only[hv,hdon,Option.isSome_none]at hlk
   have hl1:(Instr.lookup 135 (.map (some a.dm)) (.int .i64 f.id) true).run Tryz.prog (w.alloc (.cells #[.int .i64 f.type,.int .i64 f.id,.int .i64 po,.slice ba bl bc,.int .i64 en,.int .i64 pf] 286)).drew=.ok (.tuple #[.agg #[.int .i64 0,.bool false],.bool false]) (w.alloc (.cells #[.int .i64 f.type,.int .i64 f.id,.int .i64 po,.slice ba bl bc,.int .i64 en,.int .i64 pf] 286)).drew:=hlk _ (ak hba 1)
   have hl2:(Instr.lookup 135 (.map (some a.dm)) (.int .i64 f.id) true).run Tryz.prog ((w.alloc (.cells #[.int .i64 f.type,.int .i64 f.id,.int .i64 po,.slice ba bl bc,.int .i64 en,.int .i64 pf] 286)).alloc (.cells #[.int .i64 0,.bool false] 142)).drew=.ok (.tuple #[.agg #[.int .i64 0,.bool false],.bool false]) ((w.alloc (.cells #[.int .i64 f.type,.int .i64 f.id,.int .i64 po,.slice ba bl bc,.int .i64 en,.int .i64 pf] 286)).alloc (.cells #[.int .i64 0,.bool false] 142)).drew:=hlk _ (ak Z1 1)
   have hch:=hi.high
   have hcr:=hok.credit
   have hc4:=hg.c4
   have hsplit:=xg (gaps:=g.c4) hi.str h.mp
   have hpn:=j9 hi.str
   obtain⟨n1,hn1,hm1⟩:=h.smap
   have hat:∀p∈a.sl,∃y,c.streams[p.1.toNat]? =some y/\atS (·.highest) c.streams p.1=y.highest/\StrInv g.c4 y:=by
    intro p hp
    obtain⟨_,y,hy,_⟩:=h.mp.str p hp
    exact⟨y,hy,by unfold atS;rw[hy];rfl,hi.str y (lMm hy)⟩
   have hrng:∀p∈a.sl,0<=atS (·.highest) c.streams p.1/\atS (·.highest) c.streams p.1<=1073741823:=by
    intro p hp
    obtain⟨y,hy,e,hyi⟩:=hat p hp
    rw[e]
    have:=hyi.cred
    have:=hyi.len
    have:=hyi.read
    omega
   have hsn:=dZ (f:=atS (·.highest) c.streams) (l:=a.sl) fun p hp=>(hrng p hp).1
   have hslen:=h.mp.len
   have hsl:=hok.slen
   have HHi:Hid (∀W:World,Below w.heap.size w W->Calls Tryz.prog 216 #[.pointer (some ⟨cb,0,none⟩)] W fun e w'=>e=.returned (.int .i64 (cV c.streams))/\Below W.heap.size W w'):=by
    intro W hW
    rw[hsplit]
    refine sP cb a.sm n1 a.sl (atS (·.highest) c.streams) (bm c.streams) W ((h.blk.below hW).cell 21) ((h.blk.below hW).cell 23) (hm1.same (hW.block a.sm hm1.lt)) (fun p hp=>?_) hrng (by omega) (by omega)
    obtain⟨y,hy,e,_⟩:=hat p hp
    rw[e]
    exact((h.str p hp y hy).below hW).cell 2
   have HCs:Hid (∀W:World,Below w.heap.size w W->Calls Tryz.prog 73 #[.pointer (some ⟨cb,0,none⟩),.int .i64 f.id] W fun e w'=>∃b a',gq N W cb g c a f.id e w' b a'):=
    fun W hW=>nX N cb g c a f.id x W (h.below hW) hN (by omega) hx hd
   have HTk:Hid (∀(W:World) (b:Nat) (a':aJ),ConAt (N+1) W cb g c a'->(f.id,b)∈a'.sl->RdB W (.slice ba bl bc) f.bytes->Calls Tryz.prog 217 #[.pointer (some ⟨b,0,none⟩),.agg #[.int .i64 f.type,.int .i64 f.id,.int .i64 po,.slice ba bl bc,.int .i64 en,.int .i64 pf],.int .i64 (c.credit-cV c.streams),.int .i64 g.c4] W fun e w'=>sF a'.u (fun k=>k=b\/(a'.lv f.id).ownBlock=some k) W b (a'.lv f.id) g.c2 (bf g.c4 c.credit (cV c.streams) f x) e w'):=by
    intro W b a' hA hmem hR
    have h9:=tTake_at b (a'.lv f.id) g.c2 g.c4 c.credit (cV c.streams) f x (.slice ba bl bc) pf W (hA.str (f.id,b) hmem x hx) hxi hd hch (by omega) hty h5 hfo.ofs hl hR
    rw[hpo,hen]at h9
    exact h9
   have hbsm:w.heap.size≠a.sm:=by have:=hm1.lt;omega
   have H8:Hid (∀W W':World,Chg (fun k=>k=a.sm) W W'->W.heap[a.sm]? =w.heap[a.sm]?->RdB W (.slice ba bl bc) f.bytes->RdB W' (.slice ba bl bc) f.bytes):=by
    intro W W' hc hs hR
    refine hR.chgM hc fun cur e fr hk=>?_
    obtain⟨es,ck,hsb⟩:=hm1.is_map
    rw[hs,hsb]at hk
    cases hk
   have HFin:Hid (∀(W3 W4 W5:World) (b:Nat) (a':aJ) (e:Ending) (e4:Ending),Below w.heap.size w W3->gq N W3 cb g c a f.id e4 W4 b a'->sF a'.u (fun k=>k=b\/(a'.lv f.id).ownBlock=some k) W4 b (a'.lv f.id) g.c2 (bf g.c4 c.credit (cV c.streams) f x) e W5->TakeC N w cb g c a (bG g.c4 f c) (.returned (.int .i64 (bf g.c4 c.credit (cV c.streams) f x).1)) W5):=by
    intro W3 W4 W5 b a' e e4 hW3 hso hdo
    have hsx:=hso.con.str (f.id,b) hso.mem x hx
    have hF':∀k,(k=b\/(a'.lv f.id).ownBlock=some k)->bh cb a' k:=fun k hk=>Or.inr (Or.inr (Or.inr (Or.inr ⟨(f.id,b),hso.mem,hk⟩)))
    have hFF:∀k,k<w.heap.size->bh cb a' k->bh cb a k:=by
     intro k hk hF
     rcases hso.inn k hF with h1|h1
     ·exact h1
     ·have:=hW3.size;omega
    have hchg:Chg (bh cb a) w W5:=by
     have c1:Chg (bh cb a) w W3:=Chg.of_below hW3
     refine⟨hdo.chg.os.trans (hso.chg.os.trans c1.os),hdo.chg.tape.trans (hso.chg.tape.trans c1.tape),hdo.chg.output.trans (hso.chg.output.trans c1.output),Nat.le_trans (Nat.le_trans c1.size hso.chg.size) hdo.chg.size,fun k hk hn=>?_⟩
     have h1:k<W3.heap.size:=Nat.lt_of_lt_of_le hk c1.size
     rw[hdo.chg.block k (Nat.lt_of_lt_of_le h1 hso.chg.size) (fun h2=>hn (hFF k hk (hF' k h2))),hso.chg.block k h1 (fun h2=>hn (Or.inr (Or.inr (Or.inl h2)))),c1.block k hk hn]
    have hblk5:∀{cc:aw} {p1:Value} {s1 d1:Nat} {q1:Int},ConBlk W4 cb g cc p1 s1 d1 q1->ConBlk W5 cb g cc p1 s1 d1 q1:=by
     intro cc p1 s1 d1 q1 hb
     refine hb.chg hdo.chg ?_
     rintro(e1|e1)
     ·have h1:=hsx.blk
      simp only at h1
      rw[<-e1]at h1
      unfold ConBlk at hb
      rw[hb]at h1
      simp only[Option.some.injEq,Obj.cells.injEq]at h1
      exact absurd h1.2.1 (by decide)
     ·obtain⟨vs1,ho1⟩:=hsx.own
      exact ax ho1 hb (by decide) e1
    rw[jV hx]
    refine⟨rfl,hchg,?_,fun h0=>?_⟩
    ·have hb3:=h.blk.below hW3
     refine hblk5 (hb3.chg hso.chg fun e1=>?_)
     have hm3:=hm1.same (hW3.block a.sm hm1.lt)
     obtain⟨es,ck,hsb⟩:=hm3.is_map
     unfold ConBlk at hb3
     rw[e1,hsb]at hb3
     cases hb3
    ·obtain⟨lv',hs',hat'⟩:=hdo.str h0
     have hdn:(bf g.c4 c.credit (cV c.streams) f x).2.done=false:=oF hd
     obtain⟨q1,q2⟩:=hso.con.took hso.mem hx hd hdn hdo.chg hs' hat'
     refine⟨_,q1,fun k hk=>?_,fun k hk=>hk.elim (fun h1=>Or.inl (by rw[<-hso.u];exact h1)) (fun h1=>Or.inr (Nat.le_trans (Nat.le_trans hW3.size hso.chg.size) h1.1))⟩
     rcases q2 k hk with h1|h1
     ·rcases hso.inn k h1 with h2|h2
      ·exact Or.inl h2
      ·exact Or.inr (Nat.le_trans hW3.size h2)
     ·exact Or.inr (Nat.le_trans (Nat.le_trans hW3.size hso.chg.size) h1)
   have HS5:Hid (∀(W W':World) (b:Nat) (a':aJ),ConAt (N+1) W cb g c a'->(f.id,b)∈a'.sl->Chg (fun k=>k=b\/(a'.lv f.id).ownBlock=some k) W W'->W.heap[w.heap.size]? =some (.cells #[.int .i64 f.type,.int .i64 f.id,.int .i64 po,.slice ba bl bc,.int .i64 en,.int .i64 pf] 286 (0,0))->W'.heap[w.heap.size]? =some (.cells #[.int .i64 f.type,.int .i64 f.id,.int .i64 po,.slice ba bl bc,.int .i64 en,.int .i64 pf] 286 (0,0))/\W'.cell? ⟨cb,4,none⟩= some (.int .i64 g.c4)):=by
    intro W W' b a' hA hmem hc hW
    have hsx:=hA.str (f.id,b) hmem x hx
    obtain⟨vs1,ho1⟩:=hsx.own
    have hne:∀k cur e fr,W.heap[k]? =some (.cells cur e fr)->e≠204->e≠259->¬(k=b\/(a'.lv f.id).ownBlock=some k):=by
     rintro k cur e fr hk h1 h2 (e1|e1)
     ·have h3:=hsx.blk
      simp only at h3
      rw[<-e1,hk]at h3
      simp only[Option.some.injEq,Obj.cells.injEq]at h3
      exact h1 h3.2.1
     ·exact ax ho1 hk (fun e=>h2 e.symm) e1
    refine⟨?_,(hA.blk.chg hc (hne _ _ _ _ hA.blk (by decide) (by decide))).cell 4⟩
    rw[hc.block _ (aLt hW) (hne _ _ _ _ hW (by decide) (by decide))]
    exact hW
   have HBv:=ab hbv
   have HBk:=ab h.blk
   have hw1:IntKind.i64.wrap (c.credit-cV c.streams)=c.credit-cV c.streams:=by rw[IntKind.wrap_i64];omega
   have HK1:=ab (fun W=>iC c.credit g.c1 W)
   have HBX':=HBX
   have hblt:=h.blk.lt
   have hsmW:Hid (∀W:World,Below w.heap.size w W->W.heap[a.sm]? =w.heap[a.sm]?):=fun W hW=>hW.block a.sm hm1.lt
   have HHb:=ab hba
   clear h hi hg hok hfo hbv hx hlk hm2 hm1 hat hrng hsn hslen hsl hsplit hpn hxi hch hcr hc4 hdon hda hpo hen hbl hxm hv HH
   unfold gN
   go_enter Tryz.func205,Tryz.ntmps205
   go_wp2_with fail
   refine HHas.out.mono ?_
   rintro e w1 ⟨rfl,rfl⟩
   clear HHas
   go_upto_region 3 with fail
   go_cut [5,6] from 13 to 22 (fun s5 s6 wx=>s5=.pointer (some ⟨w.heap.size+1,0,none⟩)/\s6=.bool false/\Below w.heap.size w wx/\wx.heap[w.heap.size]? =some (.cells #[.int .i64 f.type,.int .i64 f.id,.int .i64 po,.slice ba bl bc,.int .i64 en,.int .i64 pf] 286 (0,0)))
   case first=>
    go_region
    all_goals
     go_wp2_with fail
     go_meet
     refine⟨rfl,rfl,ak (ai HHb.out (ag (w.alloc (.cells #[.int .i64 f.type,.int .i64 f.id,.int .i64 po,.slice ba bl bc,.int .i64 en,.int .i64 pf] 286)) (.cells #[.int .i64 0,.bool false] 142))) 1,?_⟩
     rw[heap_drew,Below.heap_alloc _ _ _ (by simp)]
     exact HBX.out
   case rest=>
    obtain⟨rfl,rfl,hbw,hbx⟩:=hcut
    have HB0:=ab hbw
    have HX0:=ab hbx
    have e18:wc.cell? ⟨cb,18,none⟩= some (.int .i64 c.credit):=(HBk.out.below hbw).cell 18
    have e19:wc.cell? ⟨cb,19,none⟩= some (.int .i64 g.c1):=(HBk.out.below hbw).cell 19
    clear hbw hbx d22 e22 hl1 hl2 Z1 hba
    go_wp2_with fail
    refine(HK1.out _).mono ?_
    rintro e w2 ⟨rfl,hb2⟩
    have HB2:=ab (ai HB0.out hb2)
    have HX2:Hid (w2.heap[w.heap.size]? =some (.cells #[.int .i64 f.type,.int .i64 f.id,.int .i64 po,.slice ba bl bc,.int .i64 en,.int .i64 pf] 286 (0,0))):=by
     show _=_
     rw[hb2.block _ (aLt HX0.out)]
     exact HX0.out
    clear hb2 e18 e19 HX0 HB0
    go_wp2_with fail
    refine(HHi.out w2 HB2.out).mono ?_
    rintro e w3 ⟨rfl,hb3⟩
    have HB3:=ab (ai HB2.out hb3)
    have HX3:Hid (w3.heap[w.heap.size]? =some (.cells #[.int .i64 f.type,.int .i64 f.id,.int .i64 po,.slice ba bl bc,.int .i64 en,.int .i64 pf] 286 (0,0))):=by
     show _=_
     rw[hb3.block _ (aLt HX2.out)]
     exact HX2.out
    clear hb3 HX2 HB2 HHi
    have HB3d:Hid (Below w.heap.size w w3.drew):=ak HB3.out 1
    have HX3d:Hid (w3.drew.heap[w.heap.size]? =some (.cells #[.int .i64 f.type,.int .i64 f.id,.int .i64 po,.slice ba bl bc,.int .i64 en,.int .i64 pf] 286 (0,0))):=HX3.out
    have HSx:Hid (∀W:World,W.heap[w.heap.size]? =some (.cells #[.int .i64 f.type,.int .i64 f.id,.int .i64 po,.slice ba bl bc,.int .i64 en,.int .i64 pf] 286 (0,0))->W.cell? ⟨cb,4,none⟩= some (.int .i64 g.c4)->(W.cell? ⟨w.heap.size,0,none⟩= some (.int .i64 f.type)/\W.cell? ⟨w.heap.size,1,none⟩= some (.int .i64 f.id)/\W.cell? ⟨w.heap.size,2,none⟩= some (.int .i64 po)/\W.cell? ⟨w.heap.size,3,none⟩= some (.slice ba bl bc)/\W.cell? ⟨w.heap.size,4,none⟩= some (.int .i64 en)/\W.cell? ⟨w.heap.size,5,none⟩= some (.int .i64 pf)/\W.cell? ⟨cb,4,none⟩= some (.int .i64 g.c4))):=by
     intro W hW h4
     refine⟨?_,?_,?_,?_,?_,?_,h4⟩<;>simp only[World.cell?,hW]<;>rfl
    have S0:=HSx.out w3.drew HX3d.out ((HBk.out.below HB3d.out).cell 4)
    obtain⟨s0,s1,s2,s3,s4,s5,s6⟩:=id S0
    go_wp2_with fail
    go_region_held3 (fun w'=>w'.cell? ⟨w.heap.size,0,none⟩= some (.int .i64 f.type)/\w'.cell? ⟨w.heap.size,1,none⟩= some (.int .i64 f.id)/\w'.cell? ⟨w.heap.size,2,none⟩= some (.int .i64 po)/\w'.cell? ⟨w.heap.size,3,none⟩= some (.slice ba bl bc)/\w'.cell? ⟨w.heap.size,4,none⟩= some (.int .i64 en)/\w'.cell? ⟨w.heap.size,5,none⟩= some (.int .i64 pf)/\w'.cell? ⟨cb,4,none⟩= some (.int .i64 g.c4)) (first|assumption|go_keep) (first
     |(go_at_call 73;refine(HCs.out _ HB3d.out).mono ?_;rintro e w4 ⟨b,a',hso⟩;have hret:=hso.ret;subst hret;have hx4:w4.heap[w.heap.size]? =some (.cells #[.int .i64 f.type,.int .i64 f.id,.int .i64 po,.slice ba bl bc,.int .i64 en,.int .i64 pf] 286 (0,0)):=((hso.chg.block _ (aLt HX3d.out) hbsm).trans HX3d.out);have hS4:=HSx.out w4 hx4 (hso.con.blk.cell 4))
     |(go_at_call 217;refine(HTk.out w4 b a' hso.con hso.mem (H8.out _ _ hso.chg (hsmW.out _ HB3d.out) (HBv.out.below HB3d.out))).mono ?_;intro e w5 hdo;have hret5:=hdo.ret;subst hret5;have hx5:=HS5.out w4 w5 b a' hso.con hso.mem hdo.chg hx4;have hS5:=HSx.out w5 hx5.1 hx5.2))
    have HE:=ab (HFin.out w3.drew w4 w5 b a' (.returned (.int .i64 (bf g.c4 c.credit (cV c.streams) f x).1)) _ HB3d.out hso hdo)
    clear hso hdo hS4 hS5 hx4 hx5 HTk HCs HS5 HFin H8
    go_wp2_with fail
    go_ret
    exact HE.out
theorem ConAt.reblk{N:Nat}{w w':World}{cb:Nat}{g:Cfg}{c c':aw}{a:aJ}(h:ConAt N w cb g c a)(hc:Chg (· = cb) w w')(hb:ConBlk w' cb g c' a.plv a.sm a.dm (bm c.streams))(hs:c'.streams=c.streams)(hr:c'.runs=c.runs):ConAt N w' cb g c' a:=by
 have hne:∀k cur e fr,w.heap[k]? =some (.cells cur e fr)->e≠137->¬k=cb:=by
  intro k cur e fr hk h1 e1
  have h2:=h.blk
  unfold ConBlk at h2
  rw[<-e1,hk]at h2
  simp only[Option.some.injEq,Obj.cells.injEq]at h2
  exact h1 h2.2.1
 have hnm:∀k es ck,w.heap[k]? =some (.map es ck)->¬k=cb:=by
  intro k es ck hk e1
  have h2:=h.blk
  unfold ConBlk at h2
  rw[<-e1,hk]at h2
  cases h2
 obtain⟨n1,hn1,hm1⟩:=h.smap
 obtain⟨n2,hn2,hm2⟩:=h.dmap
 obtain⟨es1,ck1,hb1⟩:=hm1.is_map
 obtain⟨es2,ck2,hb2⟩:=hm2.is_map
 obtain⟨vs,hvs⟩:=h.pk
 refine⟨by rw[hs];exact hb,⟨vs,bX hvs.own hc (fun k hk e=>?_),by rw[hr];exact hvs.sh⟩,⟨n1,hn1,hm1.same (hc.block _ hm1.lt (hnm _ _ _ hb1))⟩,⟨n2,hn2,hm2.same (hc.block _ hm2.lt (hnm _ _ _ hb2))⟩,by rw[hs];exact h.mp,fun p hp x hx=>?_,fun id=>by rw[hs];exact h.don id,h.ne,h.apart,fun k hk=>Nat.lt_of_lt_of_le (h.ul k hk) hc.size⟩
 ·obtain⟨c1,e1⟩:=aQ hvs.own hk
  exact hne _ _ _ _ e1 (by decide) e
 ·rw[hs]at hx
  have hsx:=h.str p hp x hx
  obtain⟨vs1,ho1⟩:=hsx.own
  refine hsx.chg hc (hne _ _ _ _ hsx.blk (by decide)) (fun k hk e=>?_) (fun k cur fr hk=>hne k cur _ fr hk (by decide))
  obtain⟨c1,e1⟩:=aQ ho1 hk
  exact hne _ _ _ _ e1 (by decide) e
structure OneC(N:Nat)(w:World)(cb:Nat)(g:Cfg)(c:aw)(a:aJ)(r:Int×aw)(e:Ending)(w':World):Prop where
 ret:e=.returned (.int .i64 r.1)
 chg:Chg (bh cb a) w w'
 blk:r.1≠0->ConBlk w' cb g c a.plv a.sm a.dm (bm c.streams)
 con:r.1=0->∃a',ConAt (N+1) w' cb g r.2 a'/\(∀k,bh cb a' k->bh cb a k\/w.heap.size<=k)/\UIn w.heap.size a a'
theorem OneC.pre{N:Nat}{w W:World}{cb:Nat}{g:Cfg}{c:aw}{a:aJ}{r:Int×aw}{e:Ending}{w':World}(hW:Below w.heap.size w W)(h:OneC N W cb g c a r e w'):OneC N w cb g c a r e w' where
 ret:=h.ret
 chg:=(Chg.of_below hW).trans h.chg
 blk:=h.blk
 con:=fun h0=>by
  obtain⟨a',h1,h2,h4⟩:=h.con h0
  exact⟨a',h1,fun k hk=>(h2 k hk).elim Or.inl (fun h3=>Or.inr (Nat.le_trans hW.size h3)),fun k hk=>(h4 k hk).elim Or.inl (fun h3=>Or.inr (Nat.le_trans hW.size h3))⟩
theorem sO [LoM] (N cb:Nat)(g:Cfg)(c:aw)(a:aJ)(f:dx)(lw:Int)(bv:Value)(w:World)(h:ConAt N w cb g c a)(hi:ConInv g c)(hg:bM g){M:Int}(hok:ConOk M c)(hN:N<1125899906842624)(hfo:oT f)(h6:f.type≠6)(h5:f.type=5->f.bytes=[])(hl:f.bytes.length<=1073741823)(hbv:RdB w bv (ly f).bytes):
  Calls Tryz.prog 182 #[.pointer (some ⟨cb,0,none⟩),.agg (nx (ly f) bv)] w fun e w'=>OneC N w cb g c a (be g lw c f) e w':=by
 by_cases h01:f.type=0\/f.type=1
 ·have hcs:be g lw c f=(0,c):=by unfold be;rw[if_pos h01]
  have hp:ly f =⟨f.type,0,0,[],0,0⟩:=by unfold ly;rw[if_neg (by omega),if_neg (by omega),if_neg (by omega),if_neg (by omega)]
  rw[hcs,hp]
  rw[hp]at hbv
  obtain⟨_,_,ba,bc,rfl,_⟩:=id hbv
  have HE:Hid (∀W:World,Below w.heap.size w W->OneC N w cb g c a (0,c) (.returned (.int .i64 0)) W):=fun W hW=>⟨rfl,Chg.of_below hW,fun h=>absurd rfl h,fun _=>⟨a,(h.below hW).mono (Nat.le_succ _),fun k hk=>Or.inl hk,fun k hk=>Or.inl hk⟩⟩
  clear h hi hg hok hfo hbv hcs hp
  have b7:(f.type==7)=false:=beq_eq_false_iff_ne.2 (by omega)
  have b3:(f.type==3)=false:=beq_eq_false_iff_ne.2 (by omega)
  have b4:(f.type==4)=false:=beq_eq_false_iff_ne.2 (by omega)
  have b5:(f.type==5)=false:=beq_eq_false_iff_ne.2 (by omega)
  clear h01 h6
  unfold nx
  go_enter Tryz.func182,Tryz.ntmps182
  go_wp2_with fail
  go_ret
  exact HE.out _ (ag _ _)
 ·by_cases h7:f.type=7
  ·have hp:ly f =⟨7,0,0,[],0,f.code⟩:=by unfold ly;rw[if_pos h7]
   have hcs:be g lw c f=if f.code≠ef g.c9 c.addr c.cid then(10,c) else if c.proven then(0,c) else(0,{c with proven:=true,waits:=lw}):=by unfold be;rw[if_neg h01,if_pos h7]
   rw[hp]
   rw[hp]at hbv
   obtain⟨_,_,ba,bc,rfl,_⟩:=id hbv
   have hba:Below w.heap.size w (w.alloc (.cells #[.int .i64 7,.int .i64 0,.int .i64 0,.slice ba 0 bc,.int .i64 0,.int .i64 f.code] 286)):=ag w _
   have HP:=ab (wS cb g c a.plv a.sm a.dm (bm c.streams) f.code _ (h.blk.below hba) hg.c9 hok.addr hok.cid)
   have HE:Hid (∀(e:Ending) (W:World),uf (w.alloc (.cells #[.int .i64 7,.int .i64 0,.int .i64 0,.slice ba 0 bc,.int .i64 0,.int .i64 f.code] 286)) cb g c a.plv a.sm a.dm (bm c.streams) f.code (ef g.c9 c.addr c.cid) e W->OneC N w cb g c a (be g lw c f) e W):=by
    rw[hcs]
    rintro e W ⟨hc,⟨hne,rfl,hb⟩|⟨heq,rfl,hb⟩⟩
    ·rw[if_pos hne]
     exact⟨rfl,(Chg.of_below hba).trans (hc.mono fun k _ e=>Or.inl e),fun _=>hb,fun h0=>absurd (show(10:Int)=0 from h0) (by decide)⟩
    ·rw[if_neg (fun hn=>hn heq)]
     have hA:=h.below hba
     have h1:∀c2:aw,ConBlk W cb g c2 a.plv a.sm a.dm (bm c.streams)->c2.streams=c.streams->c2.runs=c.runs->OneC N w cb g c a (0,c2) (.returned (.int .i64 0)) W:=by
      intro c2 hb2 hs2 hr2
      exact⟨rfl,(Chg.of_below hba).trans (hc.mono fun k _ e=>Or.inl e),fun h=>absurd rfl h,fun _=>⟨a,(hA.reblk hc hb2 hs2 hr2).mono (Nat.le_succ _),fun k hk=>Or.inl hk,fun k hk=>Or.inl hk⟩⟩
     cases hpr:c.proven with
     |true=>
      simp only[if_true]
      refine h1 c ?_ rfl rfl
      have:({c with proven:=true}:aw)=c:=by cases c;simp only at hpr⊢;rw[hpr]
      rw[this]at hb
      exact hb
     |false=>
      simp only[Bool.false_eq_true,if_false]
      exact h1 {c with proven:=true,waits:=lw} hb rfl rfl
   clear h hi hg hok hfo hbv hcs hp
   generalize be g lw c f=R at HE⊢
   clear h01 h6 h7
   unfold nx
   go_enter Tryz.func182,Tryz.ntmps182
   go_wp2_with fail
   refine HP.out.mono ?_
   intro e w2 ho
   have HO:=ab (HE.out e w2 ho)
   have hret:=HO.out.ret
   subst hret
   clear ho HP HE
   go_wp2_with fail
   go_ret
   exact HO.out
  ·have hty:f.type=3\/f.type=4\/f.type=5:=by
    have:=hfo.type
    omega
   have hp:ly f =⟨f.type,f.id,if f.type=5 then 0 else f.ofs,f.bytes,f.ofs+f.bytes.length,0⟩:=by
    unfold ly
    rw[if_neg h7,if_neg h6]
    by_cases h5':f.type=5
    ·rw[if_pos h5',h5',h5 h5']
     simp
    ·rw[if_neg h5',if_pos (by omega),if_neg h5']
   have hcs:be g lw c f=bG g.c4 f c:=by unfold be;rw[if_neg h01,if_neg h7]
   rw[hcs,hp]
   rw[hp]at hbv
   simp only at hbv
   obtain⟨_,_,ba,bc,rfl,_⟩:=id hbv
   obtain⟨po,hpo⟩:∃po,(if f.type=5 then 0 else f.ofs)=po:=⟨_,rfl⟩
   obtain⟨en,hen⟩:∃en,f.ofs+(f.bytes.length:Int)=en:=⟨_,rfl⟩
   have HT:Hid (∀W:World,Below w.heap.size w W->Calls Tryz.prog 205 #[.pointer (some ⟨cb,0,none⟩),.agg #[.int .i64 f.type,.int .i64 f.id,.int .i64 po,.slice ba f.bytes.length bc,.int .i64 en,.int .i64 0]] W fun e w'=>OneC N w cb g c a (bG g.c4 f c) e w'):=by
    intro W hW
    have h9:=ctake_any N cb g c a f (.slice ba f.bytes.length bc) 0 W (h.below hW) hi hg hok hN hty h5 hfo hl (hbv.below hW)
    rw[hpo,hen]at h9
    refine h9.mono ?_
    intro e w' ho
    exact OneC.pre hW ⟨ho.ret,ho.chg,fun _=>ho.blk,ho.con⟩
   rw[hpo,hen]
   obtain⟨bl,hbl⟩:∃bl,f.bytes.length=bl:=⟨_,rfl⟩
   rw[hbl]at HT⊢
   obtain⟨R,hR⟩:∃R,bG g.c4 f c=R:=⟨_,rfl⟩
   rw[hR]at HT⊢
   have b7:(f.type==7)=false:=beq_eq_false_iff_ne.2 h7
   have HTy:=ab hty
   clear h hi hg hok hfo hbv hcs hp h01 h6 h7 h5 hR hbl hpo hen hl
   obtain⟨t,ht⟩:∃t,f.type=t:=⟨_,rfl⟩
   rw[ht]at HT HTy b7 hty
   unfold nx
   simp only[ht]
   clear ht
   rcases hty with rfl|rfl|rfl
   all_goals
    go_enter Tryz.func182,Tryz.ntmps182
    go_wp2_with fail
    refine(HT.out _ (ag _ _)).mono ?_
    intro e w2 ho
    have HO:=ab ho
    have hret:=ho.ret
    subst hret
    clear ho HT
    go_wp2_with fail
    go_ret
    exact HO.out
end Go.Proofs.YthmdjhlhodpbhaaGreatDoor
