/- InOrder, 36 -/
import Derived.BigQuiet
import Derived.Deep.LoopGhost
import Derived.Test.YthmdjhlhodpbhaaGreatDoorI34
import Derived.Test.YthmdjhlhodpbhaaGreatDoorI35
set_option maxHeartbeats 16000000
set_option maxRecDepth 8000
namespace Go.Proofs.YthmdjhlhodpbhaaGreatDoor
open Go.RowKit
def mayN(high piece fin credit sum:Int):Int:=
 if 0<=fin/\fin<(if piece<high+credit-sum then piece else high+credit-sum) then fin else(if piece<high+credit-sum then piece else high+credit-sum)
def mayK(c:aT)(k:KS):Int:=mayN k.high k.piece k.fin c.credit (bE c.strs)
theorem mapD{f:KS->Int}{l:List KS}{i:Nat}{k:KS}(h:l[i]? =some k):(l.map f).getD i 0=f k:=by
 rw[List.getD_eq_getElem?_getD,List.getElem?_map,h]
 rfl
theorem ClB.at{B:Nat}{w:World}{xb sb:Nat}{g:Cfg}{ok:Bool}{credit lim packet:Int}{v0 v1 v2 v3 v4 v5 v6:Value}{l:List KS}{os:List Value}(h:ClB B w xb sb g ok credit lim packet v0 v1 v2 v3 v4 v5 v6 (bK l os)){i:Nat}{k:KS}(hk:l[i]? =some k)(j:Nat){v:Value}{f:KS->Int}(hv:[v0,v1,v2,v3,v4,v5,v6][j]? =some v)(ht:(bK l os)[j]? =some (KI (l.map f))):∃b cap,v=.slice (some ⟨b,0,none⟩) l.length cap/\w.cell? ⟨b,i,none⟩= some (.int .i64 (f k))/\∀q,w.frozen? ⟨b,q,none⟩= false:=by
 obtain⟨b,cap,e,h1,h2⟩:=(h.int j hv ht).2 i (by simpa using(List.getElem?_eq_some_iff.1 hk).1)
 rw[mapD hk]at h1
 exact⟨b,cap,by simpa using e,h1,h2⟩
theorem kmay_any{B:Nat}{w:World}{xb sb:Nat}{g:Cfg}{c:aT}{v0 v1 v2 v3 v4 v5 v6:Value}{Z:Int}(hI:KInv g Z c)(hg:bN g)(hZ:Z<=500000000)(hl:c.strs.length<=500000000)(h:ClAt B w xb sb g c v0 v1 v2 v3 v4 v5 v6){i:Nat}{k:KS}(hk:c.strs[i]? =some k):
  Calls Tryz.prog 38 #[.pointer (some ⟨xb,0,none⟩),.int .i64 i] w fun e w'=>e=.returned (.int .i64 (mayK c k))/\Below w.heap.size w w':=by
 obtain⟨os,hC,_,_⟩:=h.ex
 have hko:=hI.str k (List.mem_of_getElem? hk)
 have hr:=hko.read
 have hpp:=hko.piece
 have hfin:=hko.fin
 have g1:=hg.c1
 have g2:=hg.c2
 have hs:=hI.sum
 have hlo:=hI.low
 have hfo:=hI.fol
 have hhi:=hI.high
 have hread:readK c.strs<=bE c.strs:=readK_le hI.str
 have hkh:k.high<=bE c.strs:=sum_mem (fun k:KS=>k.high) (l:=c.strs) (fun x hx=>by have:=(hI.str x hx).read;omega) (List.mem_of_getElem? hk)
 have hh0:0<=bE c.strs:=by omega
 have HSt:Hid (∀V,Below w.heap.size w V->Calls Tryz.prog 68 #[.pointer (some ⟨xb,0,none⟩)] V fun e w'=>e=.returned (.int .i64 (bE c.strs))/\w'=V):=by
  intro V hV
  refine(ksent_any (hC.below hV) (l:=c.strs.map (·.high)) rfl (fun x hx=>?_) ?_ (by simp;omega)).mono ?_
  ·obtain⟨k',hk',rfl⟩:=List.mem_map.1 hx
   have:=(hI.str k' hk').read
   omega
  ·show bE c.strs<=_
   omega
  ·rintro e w' ⟨rfl,rfl⟩
   exact⟨rfl,rfl⟩
 obtain⟨b0,c0,rfl,p0,_⟩:=hC.at hk 0 (v:=v0) (f:=(·.piece)) rfl rfl
 obtain⟨b1,c1,rfl,p1,_⟩:=hC.at hk 1 (v:=v1) (f:=(·.high)) rfl rfl
 obtain⟨b2,c2,rfl,p2,_⟩:=hC.at hk 2 (v:=v2) (f:=(·.fin)) rfl rfl
 have x12:w.cell? ⟨xb,12,none⟩= some (.int .i64 c.credit):=ai hC.blk 12
 have x13:w.cell? ⟨xb,13,none⟩= some (.slice (some ⟨b0,0,none⟩) c.strs.length c0):=ai hC.blk 13
 have x15:w.cell? ⟨xb,15,none⟩= some (.slice (some ⟨b1,0,none⟩) c.strs.length c1):=ai hC.blk 15
 have x16:w.cell? ⟨xb,16,none⟩= some (.slice (some ⟨b2,0,none⟩) c.strs.length c2):=ai hC.blk 16
 have hik:(i:Int)<(c.strs.length:Int):=by
  have:=(List.getElem?_eq_some_iff.1 hk).1
  omega
 have HM:Hid (mayK c k=mayN k.high k.piece k.fin c.credit (bE c.strs)):=rfl
 have HB:Hid (∀q,Below w.heap.size w (w.drewN q)):=fun q=>aj (Below.refl _ w) q
 clear hC h hko hI hk
 generalize mayK c k=MM at *
 generalize k.high=H at *
 generalize k.piece=P at *
 generalize k.fin=F at *
 generalize c.credit=C at *
 generalize bE c.strs=S at *
 generalize readK c.strs=R at *
 generalize hn:c.strs.length=n at *
 clear hn
 go_enter Tryz.func38,Tryz.ntmps38
 go_wp2_with fail
 go_quiet ((go_at_call 68;exact Calls.quiet_of_same (HSt.out _ (aj (Below.refl _ w) _))))
 clear HSt
 rcases Int.lt_or_le P (H+C-S) with h0|h0
 ·rcases Int.lt_or_le F 0 with h1|h1
  ·have hf0:¬0<=F:=by omega
   have hMM:MM=P:=by rw[HM.out];unfold mayN;rw[if_pos h0,if_neg (by omega)]
   have HMM:=ab hMM
   clear hMM
   go_wp2_with fail
   go_ret
   rw[HMM.out]
   exact⟨rfl,HB.out _⟩
  ·rcases Int.lt_or_le F (P) with h2|h2
   ·have hMM:MM=F:=by rw[HM.out];unfold mayN;rw[if_pos h0,if_pos ⟨h1,h2⟩]
    have HMM:=ab hMM
    clear hMM
    go_wp2_with fail
    go_ret
    rw[HMM.out]
    exact⟨rfl,HB.out _⟩
   ·have hMM:MM=P:=by rw[HM.out];unfold mayN;rw[if_pos h0,if_neg (by omega)]
    have HMM:=ab hMM
    clear hMM
    go_wp2_with fail
    go_ret
    rw[HMM.out]
    exact⟨rfl,HB.out _⟩
 ·rcases Int.lt_or_le F 0 with h1|h1
  ·have hf0:¬0<=F:=by omega
   have hMM:MM=H+C-S:=by rw[HM.out];unfold mayN;rw[if_neg (show ¬P<H+C-S by omega),if_neg (by omega)]
   have HMM:=ab hMM
   clear hMM
   go_wp2_with fail
   go_ret
   rw[HMM.out]
   exact⟨rfl,HB.out _⟩
  ·rcases Int.lt_or_le F (H+C-S) with h2|h2
   ·have hMM:MM=F:=by rw[HM.out];unfold mayN;rw[if_neg (show ¬P<H+C-S by omega),if_pos ⟨h1,h2⟩]
    have HMM:=ab hMM
    clear hMM
    go_wp2_with fail
    go_ret
    rw[HMM.out]
    exact⟨rfl,HB.out _⟩
   ·have hMM:MM=H+C-S:=by rw[HM.out];unfold mayN;rw[if_neg (show ¬P<H+C-S by omega),if_neg (by omega)]
    have HMM:=ab hMM
    clear hMM
    go_wp2_with fail
    go_ret
    rw[HMM.out]
    exact⟨rfl,HB.out _⟩
theorem info_bool:(Tryz.prog.info? 4).map (fun i=>(i.zero,i.size,i.bytes))=some (some (.bool false),1,1):=by kernel_rfl
theorem ClB.grew{B:Nat}{w w1 w2:World}{xb sb:Nat}{g:Cfg}{ok:Bool}{credit lim packet:Int}{v0 v1 v2 v3 v4 v5 v6:Value}{ts:List (TypeId×List Value)}(h:ClB B w xb sb g ok credit lim packet v0 v1 v2 v3 v4 v5 v6 ts){v:Value}(hv:v∈[v0,v1,v2,v3,v4,v5,v6])(hb:Below w.heap.size w w1)(hg:w1.grownBy w2 v.ownBlock):w2.heap[xb]? =some (.cells (cliC sb g ok credit lim packet v0 v1 v2 v3 v4 v5 v6) 42 (0,0)):=by
 have h1:=(h.below hb).blk
 rw[hg.block xb (Array.getElem?_eq_some_iff.1 h1).1 (fun e=>h.xb_not hv e.symm)]
 exact h1
theorem ClB.push{B:Nat}{w w1 w2:World}{xb sb:Nat}{g:Cfg}{ok:Bool}{credit lim packet packet':Int}{v0 v1 v2 v3 v4 v5 v6 u0 u1 u2 u3 u4 u5 u6:Value}{ts:List (TypeId×List Value)}(h:ClB B w xb sb g ok credit lim packet v0 v1 v2 v3 v4 v5 v6 ts)(i q:Nat){v v' u:Value}{t:TypeId}{l:List Value}(hv:[v0,v1,v2,v3,v4,v5,v6][i]? =some v)(hb:Below w.heap.size w w1)(hg:w1.grownBy w2 v.ownBlock)(hn:Nigh w1 v v')(ho:w2.ownsRow B t 1 v' (l.length+1) (l++[u]))(ht:cliT t)
  (hs:[v0,v1,v2,v3,v4,v5,v6].set i v'=[u0,u1,u2,u3,u4,u5,u6]) (hc:(cliC sb g ok credit lim packet v0 v1 v2 v3 v4 v5 v6).setIfInBounds q v'=cliC sb g ok credit lim packet' u0 u1 u2 u3 u4 u5 u6):
  ClB B (w2.setCell ⟨xb,q,none⟩ v') xb sb g ok credit lim packet' u0 u1 u2 u3 u4 u5 u6 (ts.set i (t,l++[u])):=by
 have hR:=h.rows.push hv hb hg hn ho
 rw[hs]at hR
 have hblk:=h.grew (List.mem_of_getElem? hv) hb hg
 have hx1:xb<w.heap.size:=(Array.getElem?_eq_some_iff.1 h.blk).1
 refine⟨by rw[<-hc];exact ak hblk q v',hR.chg (eR w2 xb q v') (fun j x gg hx hxg e=>?_),fun t' ht'=>?_,h.low⟩
 ·subst e
  rw[<-hs]at hx
  by_cases hij:i=j
  ·subst hij
   rw[List.getElem?_set_self (List.getElem?_eq_some_iff.1 hv).1]at hx
   obtain rfl:=Option.some.inj hx
   rcases hn with hn|hn
   ·exact h.xb_not (List.mem_of_getElem? hv) (by rw[<-hn];exact hxg)
   ·have:=hn _ hxg
    have:=hb.size
    omega
  ·rw[List.getElem?_set_ne hij]at hx
   exact h.xb_not (List.mem_of_getElem? hx) hxg
 ·rcases List.mem_or_eq_of_mem_set ht' with h1|rfl
  ·exact h.ty t' h1
  ·exact ht
structure ClG(B:Nat)(w:World)(F:Nat->Prop)(W:World)(xb sb:Nat)(g:Cfg)(ok:Bool)(credit lim packet:Int)(v0 v1 v2 v3 v4 v5 v6:Value)(ts:List (TypeId×List Value)):Prop where
 cl:ClB B W xb sb g ok credit lim packet v0 v1 v2 v3 v4 v5 v6 ts
 chg:Chg F w W
 inn:∀k,cg xb v0 v1 v2 v3 v4 v5 v6 k->F k\/w.heap.size<=k
theorem ClB.g{B:Nat}{w:World}{xb sb:Nat}{g:Cfg}{ok:Bool}{credit lim packet:Int}{v0 v1 v2 v3 v4 v5 v6:Value}{ts:List (TypeId×List Value)}(h:ClB B w xb sb g ok credit lim packet v0 v1 v2 v3 v4 v5 v6 ts):ClG B w (cg xb v0 v1 v2 v3 v4 v5 v6) w xb sb g ok credit lim packet v0 v1 v2 v3 v4 v5 v6 ts:=⟨h,Chg.refl _ _,fun _ hk=>Or.inl hk⟩
theorem ClG.below{B:Nat}{w:World}{F:Nat->Prop}{W W':World}{xb sb:Nat}{g:Cfg}{ok:Bool}{credit lim packet:Int}{v0 v1 v2 v3 v4 v5 v6:Value}{ts:List (TypeId×List Value)}(h:ClG B w F W xb sb g ok credit lim packet v0 v1 v2 v3 v4 v5 v6 ts)(hb:Below W.heap.size W W'):ClG B w F W' xb sb g ok credit lim packet v0 v1 v2 v3 v4 v5 v6 ts:=
 ⟨h.cl.below hb,h.chg.trans (Chg.of_below hb),h.inn⟩
theorem ClG.own{B:Nat}{w:World}{F:Nat->Prop}{W:World}{xb sb:Nat}{g:Cfg}{ok:Bool}{credit lim packet:Int}{v0 v1 v2 v3 v4 v5 v6:Value}{ts:List (TypeId×List Value)}(h:ClG B w F W xb sb g ok credit lim packet v0 v1 v2 v3 v4 v5 v6 ts)(i:Nat){v:Value}{t:TypeId}{l:List Value}{n:Nat}(hv:[v0,v1,v2,v3,v4,v5,v6][i]? =some v)(ht:ts[i]? =some (t,l))(hn:l.length=n):W.ownsRow B t 1 v n l:=by
 subst hn
 exact h.cl.rows.own i v (t,l) hv ht
theorem ClG.push{B:Nat}{w:World}{F:Nat->Prop}{W w1 w2:World}{xb sb:Nat}{g:Cfg}{ok:Bool}{credit lim packet packet':Int}{v0 v1 v2 v3 v4 v5 v6 u0 u1 u2 u3 u4 u5 u6:Value}{ts:List (TypeId×List Value)}(h:ClG B w F W xb sb g ok credit lim packet v0 v1 v2 v3 v4 v5 v6 ts)(i q:Nat){v v' u:Value}{t:TypeId}{l:List Value}(hv:[v0,v1,v2,v3,v4,v5,v6][i]? =some v)(hb:Below W.heap.size W w1)(hg:w1.grownBy w2 v.ownBlock)(hn:Nigh w1 v v'){n:Nat}(ho:w2.ownsRow B t 1 v' (n+1) (l++[u]))(hl:l.length=n)(ht:cliT t)
  (hs:[v0,v1,v2,v3,v4,v5,v6].set i v'=[u0,u1,u2,u3,u4,u5,u6]) (hc:(cliC sb g ok credit lim packet v0 v1 v2 v3 v4 v5 v6).setIfInBounds q v'=cliC sb g ok credit lim packet' u0 u1 u2 u3 u4 u5 u6):
  ClG B w F (w2.setCell ⟨xb,q,none⟩ v') xb sb g ok credit lim packet' u0 u1 u2 u3 u4 u5 u6 (ts.set i (t,l++[u])):=by
 subst hl
 have hsz:=h.chg.size
 have hsz1:=hb.size
 refine⟨h.cl.push i q hv hb hg hn ho ht hs hc,⟨hg.os.trans (hb.os.trans h.chg.os),hg.tape.trans (hb.tape.trans h.chg.tape),hg.output.trans (hb.output.trans h.chg.output),by rw[World.size_setCell];have:=hg.size;omega,fun k hk hF=>?_⟩,fun k hk=>?_⟩
 ·have n1:k≠xb:=fun e=>(h.inn xb (Or.inl rfl)).elim (fun h1=>hF (by rw[e];exact h1)) (fun h1=>by omega)
  have n2:v.ownBlock≠some k:=fun e=>(h.inn k (Or.inr ⟨v,List.mem_of_getElem? hv,e⟩)).elim hF (fun h1=>by omega)
  rw[Below.heap_setCell _ _ _ _ n1,hg.block k (by omega) (Ne.symm n2),hb.block k (by omega),h.chg.block k hk hF]
 ·rcases hk with rfl|⟨x,hx,hxg⟩
  ·exact h.inn _ (Or.inl rfl)
  ·rw[<-hs]at hx
   rcases List.mem_or_eq_of_mem_set hx with hx|rfl
   ·exact h.inn k (Or.inr ⟨x,hx,hxg⟩)
   ·rcases hn with hn|hn
    ·exact h.inn k (Or.inr ⟨v,List.mem_of_getElem? hv,by rw[<-hn];exact hxg⟩)
    ·have:=hn k hxg
     exact Or.inr (by omega)
theorem rowsK_snoc(l:List KS)(piece:Int)(os:List Value):((((((bK l os).set 0 (3,fL (l.map (·.piece))++[.int .i64 piece])).set 1 (3,fL (l.map (·.high))++[.int .i64 0])).set 2 (3,fL (l.map (·.fin))++[.int .i64 (-1)])).set 3 (4,(l.map fun _=>false).map (fun b=>Value.bool b)++[.bool false])).set 4 (3,fL (l.map (·.read))++[.int .i64 0])).set 5 (4,(l.map (·.done)).map (fun b=>Value.bool b)++[.bool false])=bK (l++[di piece]) os:=by
 simp[bK,KI,KB,fL,di]
theorem kstreams_any{B:Nat}{w:World}{xb sb:Nat}{g:Cfg}{ok:Bool}{credit packet:Int}{lim:Nat}{v0 v1 v2 v3 v4 v5 v6:Value}{l:List KS}{os:List Value}(h:ClB B w xb sb g ok credit lim packet v0 v1 v2 v3 v4 v5 v6 (bK l os))(hl:l.length<=lim)(hlim:lim<=1000000000)(hB:B<=w.heap.size):
  Calls Tryz.prog 14 #[.pointer (some ⟨xb,0,none⟩)] w fun e w'=>e=.returned (.tuple #[])/\∃u0 u1 u2 u3 u4 u5,ClB B w' xb sb g ok credit lim packet u0 u1 u2 u3 u4 u5 v6 (bK (l++List.replicate (lim-l.length) (di g.c2)) os)/\Chg (cg xb v0 v1 v2 v3 v4 v5 v6) w w'/\∀k,cg xb u0 u1 u2 u3 u4 u5 v6 k->cg xb v0 v1 v2 v3 v4 v5 v6 k\/w.heap.size<=k:=by
 obtain⟨i0,hi,hz0,hz1,hz2⟩:=info_parts info_int
 obtain⟨j0,hj,hy0,hy1,hy2⟩:=info_parts info_bool
 have HH:=ab h.g
 clear h
 go_enter Tryz.func14,Tryz.ntmps14
 go_wp2_with fail
 go_loopg [2] (lim-l.length) (fun gk _ wr=>∃m:Nat,l.length+m<=lim/\gk=lim-l.length-m/\Hid (∃u0 u1 u2 u3 u4 u5,ClG B w (cg xb v0 v1 v2 v3 v4 v5 v6) wr xb sb g ok credit lim packet u0 u1 u2 u3 u4 u5 v6 (bK (l++List.replicate m (di g.c2)) os)))
 case atStart=>exact⟨0,by omega,by omega,⟨v0,v1,v2,v3,v4,v5,by simpa using HH.out⟩⟩
 case round=>
  obtain⟨m,hm,rfl,HU⟩:=hrel
  obtain⟨u0,u1,u2,u3,u4,u5,hC⟩:=HU.out
  have HSn:=ab (rowsK_snoc (l++List.replicate m (di g.c2)) g.c2 os)
  have HRe:Hid (l++List.replicate m (di g.c2)++[di g.c2]=l++List.replicate (m+1) (di g.c2)):=by
   show _=_
   rw[List.replicate_succ',<-List.append_assoc]
  have hn:(l++List.replicate m (di g.c2)).length=l.length+m:=by simp
  clear HH HU
  generalize hl2:l++List.replicate m (di g.c2)=l2 at *
  have HL2:=ab hl2
  clear hl2
  have HRk:Hid (bK l2 os=[(3,fL (l2.map (·.piece))),(3,fL (l2.map (·.high))),(3,fL (l2.map (·.fin))),(4,(l2.map fun _=>false).map (fun b=>Value.bool b)),(3,fL (l2.map (·.read))),(4,(l2.map (·.done)).map (fun b=>Value.bool b)),(44,os)]):=rfl
  rw[HRk.out]at hC HSn
  have HP0:Hid ((fL (l2.map (·.piece))).length=l.length+m):=ab (by simpa[fL] using hn)
  have HP1:Hid ((fL (l2.map (·.high))).length=l.length+m):=ab (by simpa[fL] using hn)
  have HP2:Hid ((fL (l2.map (·.fin))).length=l.length+m):=ab (by simpa[fL] using hn)
  have HP3:Hid (((l2.map fun _=>false).map (fun b=>Value.bool b)).length=l.length+m):=ab (by simpa using hn)
  have HP4:Hid ((fL (l2.map (·.read))).length=l.length+m):=ab (by simpa[fL] using hn)
  have HP5:Hid (((l2.map (·.done)).map (fun b=>Value.bool b)).length=l.length+m):=ab (by simpa using hn)
  generalize fL (l2.map (·.piece))=P0 at hC HSn HRk HP0
  generalize fL (l2.map (·.high))=P1 at hC HSn HRk HP1
  generalize fL (l2.map (·.fin))=P2 at hC HSn HRk HP2
  generalize (l2.map fun _=>false).map (fun b=>Value.bool b)=P3 at hC HSn HRk HP3
  generalize fL (l2.map (·.read))=P4 at hC HSn HRk HP4
  generalize (l2.map (·.done)).map (fun b=>Value.bool b)=P5 at hC HSn HRk HP5
  clear hn
  obtain⟨n,hN⟩:∃n,l.length+m=n:=⟨_,rfl⟩
  rw[hN]at hm HP0 HP1 HP2 HP3 HP4 HP5
  have HN:=ab hN
  clear hN
  obtain⟨a0,c0,rfl⟩:∃a c,u0=.slice a n c:=by rw[<-HP0.out];exact aF (hC.cl.rows.own 0 _ (3,P0) rfl rfl)
  obtain⟨a1,c1,rfl⟩:∃a c,u1=.slice a n c:=by rw[<-HP1.out];exact aF (hC.cl.rows.own 1 _ (3,P1) rfl rfl)
  obtain⟨a2,c2,rfl⟩:∃a c,u2=.slice a n c:=by rw[<-HP2.out];exact aF (hC.cl.rows.own 2 _ (3,P2) rfl rfl)
  obtain⟨a3,c3,rfl⟩:∃a c,u3=.slice a n c:=by rw[<-HP3.out];exact aF (hC.cl.rows.own 3 _ (4,P3) rfl rfl)
  obtain⟨a4,c4,rfl⟩:∃a c,u4=.slice a n c:=by rw[<-HP4.out];exact aF (hC.cl.rows.own 4 _ (3,P4) rfl rfl)
  obtain⟨a5,c5,rfl⟩:∃a c,u5=.slice a n c:=by rw[<-HP5.out];exact aF (hC.cl.rows.own 5 _ (4,P5) rfl rfl)
  have x15:wr.cell? ⟨xb,15,none⟩= some (.slice a1 n c1):=ai hC.cl.blk 15
  have x14:wr.cell? ⟨xb,14,none⟩= some (.int .i64 (lim:Int)):=ai hC.cl.blk 14
  have HC0:Hid (ClG B w (cg xb v0 v1 v2 v3 v4 v5 v6) wr.drew xb sb g ok credit lim packet (.slice a0 n c0) (.slice a1 n c1) (.slice a2 n c2) (.slice a3 n c3) (.slice a4 n c4) (.slice a5 n c5) v6 [(3,P0),(3,P1),(3,P2),(4,P3),(3,P4),(4,P5),(44,os)]):=hC.below (aj (Below.refl _ wr) 1)
  have HCe:=ab hC
  clear hC
  by_cases hlt:n<lim
  ·have hlt':(n:Int)<(lim:Int):=by omega
   go_wp2_with fail
   go_region
   go_upto_region 1 with fail
   generalize wr.drew=W0 at HC0⊢
   clear x14 x15 HCe
   have hx0:W0.cell? ⟨xb,13,none⟩= some (.slice a0 n c0):=ai HC0.out.cl.blk 13
   have hx3:W0.cell? ⟨xb,3,none⟩= some (.int .i64 g.c2):=ai HC0.out.cl.blk 3
   have hx0a:(W0.alloc (.cells #[.int .i64 g.c2] 3)).cell? ⟨xb,13,none⟩= some (.slice a0 n c0):=ae hx0 (af W0 _)
   have HL0:=ab (cF W0 3 [.int .i64 g.c2] (by simp[maxLen]))
   have HO0:=ab (aD (HC0.out.own 0 (v:=.slice a0 n c0) (l:=P0) rfl rfl HP0.out) (af W0 (.cells #[.int .i64 g.c2] 3)))
   have hs0:B<=(W0.alloc (.cells #[.int .i64 g.c2] 3)).heap.size:=by have:=HC0.out.chg.size;simp;omega
   go_cut [12] from 13 to 25 (fun _ wx=>∃d0 e0,Hid (ClG B w (cg xb v0 v1 v2 v3 v4 v5 v6) wx xb sb g ok credit lim packet (.slice d0 (n+1) e0) (.slice a1 n c1) (.slice a2 n c2) (.slice a3 n c3) (.slice a4 n c4) (.slice a5 n c5) v6 ([(3,P0),(3,P1),(3,P2),(4,P3),(3,P4),(4,P5),(44,os)].set 0 (3,P0++[.int .i64 g.c2]))))
   case first=>
    go_region_law (refine step_append_own rfl (.tmp 16) (.tmp 22) 38 rfl B 3 i0 _ 1 8 Tryz.underlying38 hi hz0 hz1 hz2 rfl (by decide) (.slice a0 n c0) n P0 (by kernel_rfl) HO0.out ⟨W0.heap.size,0,none⟩ 1 1 [.int .i64 g.c2] (by kernel_rfl) rfl HL0.out (by simp[Value.oneCell']) (by unfold maxLen;omega) (by omega) hs0 ?_;intro y0 V0 hown hgrow hnear;obtain⟨d0,e0,rfl⟩:=aF hown;have hgrow2:(W0.alloc (.cells #[.int .i64 g.c2] 3)).grownBy V0 (Value.slice a0 n c0).ownBlock:=(World.grownBy.mk hgrow.os hgrow.tape hgrow.output hgrow.size hgrow.block);have hblk:=HC0.out.cl.grew (v:=.slice a0 n c0) (List.mem_of_getElem? (i:=0) rfl) (af W0 _) hgrow2;have xq:V0.cell? ⟨xb,13,none⟩= some (.slice a0 n c0):=ai hblk 13;have zq:V0.frozen? ⟨xb,13,none⟩= false:=frozen_of_row V0 xb 13 _ _ hblk;replace hown:=ab hown;replace hgrow:=ab hgrow2;replace hnear:=ab hnear;clear hblk hgrow2;refine Hid.out ?_;refine ab ?_)
    all_goals
     go_wp2_with fail
     go_meet
     exact⟨d0,e0,HC0.out.push 0 13 (u:=.int .i64 g.c2) (l:=P0) rfl (af W0 _) hgrow.out hnear.out hown.out HP0.out (by simp[cliT]) rfl rfl⟩
   case rest=>
    obtain⟨d0,e0,HC1⟩:=hcut
    clear hx0 hx0a hx3 HL0 HO0 hs0 HC0
    obtain⟨X0,hX0⟩:∃X0,X0=wc:=⟨_,rfl⟩
    subst hX0
    have hx1:X0.cell? ⟨xb,15,none⟩= some (.slice a1 n c1):=ai HC1.out.cl.blk 15
    have HL1:=ab (cF X0 3 [.int .i64 0] (by simp[maxLen]))
    have HO1:=ab (aD (HC1.out.own 1 (v:=.slice a1 n c1) (l:=P1) rfl rfl HP1.out) (af X0 (.cells #[.int .i64 0] 3)))
    have hs1:B<=(X0.alloc (.cells #[.int .i64 0] 3)).heap.size:=by have:=HC1.out.chg.size;simp;omega
    go_upto_region 3 with(first
     |(at_builtin;refine cD rfl _ _ 38 rfl B 3 i0 (.int .i64 0) 1 8 Tryz.underlying38 hi hz0 hz1 hz2 rfl (by decide) (.slice a1 n c1) n P1 rfl HO1.out ⟨X0.heap.size,0,none⟩ 1 1 [.int .i64 0] rfl rfl HL1.out (by simp[Value.oneCell']) (by unfold maxLen;omega) (by omega) hs1 ?_;intro y1 W1 hown hgrow hnear;obtain⟨d1,e1,rfl⟩:=aF hown;have hblk:=HC1.out.cl.grew (List.mem_of_getElem? (i:=1) rfl) (af X0 _) hgrow;have xq:W1.cell? ⟨xb,15,none⟩= some (.slice a1 n c1):=ai hblk 15;have zq:W1.frozen? ⟨xb,15,none⟩= false:=frozen_of_row W1 xb 15 _ _ hblk))
    have HC2:=ab (HC1.out.push 1 15 (u:=.int .i64 0) (l:=P1) rfl (af X0 _) hgrow hnear hown HP1.out (by simp[cliT]) rfl rfl)
    clear hown hgrow hnear hblk xq zq hx1 HL1 HO1 hs1 HC1
    generalize W1.setCell ⟨xb,15,none⟩ (.slice d1 (n+1) e1)=X1 at HC2⊢
    have hx2:X1.cell? ⟨xb,16,none⟩= some (.slice a2 n c2):=ai HC2.out.cl.blk 16
    have HL2:=ab (cF X1 3 [.int .i64 (-1)] (by simp[maxLen]))
    have HO2:=ab (aD (HC2.out.own 2 (v:=.slice a2 n c2) (l:=P2) rfl rfl HP2.out) (af X1 (.cells #[.int .i64 (-1)] 3)))
    have hs2:B<=(X1.alloc (.cells #[.int .i64 (-1)] 3)).heap.size:=by have:=HC2.out.chg.size;simp;omega
    go_upto_region 4 with(first
     |(at_builtin;refine cD rfl _ _ 38 rfl B 3 i0 (.int .i64 0) 1 8 Tryz.underlying38 hi hz0 hz1 hz2 rfl (by decide) (.slice a2 n c2) n P2 rfl HO2.out ⟨X1.heap.size,0,none⟩ 1 1 [.int .i64 (-1)] rfl rfl HL2.out (by simp[Value.oneCell']) (by unfold maxLen;omega) (by omega) hs2 ?_;intro y2 W2 hown hgrow hnear;obtain⟨d2,e2,rfl⟩:=aF hown;have hblk:=HC2.out.cl.grew (List.mem_of_getElem? (i:=2) rfl) (af X1 _) hgrow;have xq:W2.cell? ⟨xb,16,none⟩= some (.slice a2 n c2):=ai hblk 16;have zq:W2.frozen? ⟨xb,16,none⟩= false:=frozen_of_row W2 xb 16 _ _ hblk))
    have HC3:=ab (HC2.out.push 2 16 (u:=.int .i64 (-1)) (l:=P2) rfl (af X1 _) hgrow hnear hown HP2.out (by simp[cliT]) rfl rfl)
    clear hown hgrow hnear hblk xq zq hx2 HL2 HO2 hs2 HC2
    generalize W2.setCell ⟨xb,16,none⟩ (.slice d2 (n+1) e2)=X2 at HC3⊢
    have hx3:X2.cell? ⟨xb,17,none⟩= some (.slice a3 n c3):=ai HC3.out.cl.blk 17
    have HL3:=ab (cF X2 4 [.bool false] (by simp[maxLen]))
    have HO3:=ab (aD (HC3.out.own 3 (v:=.slice a3 n c3) (l:=P3) rfl rfl HP3.out) (af X2 (.cells #[.bool false] 4)))
    have hs3:B<=(X2.alloc (.cells #[.bool false] 4)).heap.size:=by have:=HC3.out.chg.size;simp;omega
    go_upto_region 5 with(first
     |(at_builtin;refine cD rfl _ _ 39 rfl B 4 j0 (.bool false) 1 1 Tryz.underlying39 hj hy0 hy1 hy2 rfl (by decide) (.slice a3 n c3) n P3 rfl HO3.out ⟨X2.heap.size,0,none⟩ 1 1 [.bool false] rfl rfl HL3.out (by simp[Value.oneCell']) (by unfold maxLen;omega) (by omega) hs3 ?_;intro y3 W3 hown hgrow hnear;obtain⟨d3,e3,rfl⟩:=aF hown;have hblk:=HC3.out.cl.grew (List.mem_of_getElem? (i:=3) rfl) (af X2 _) hgrow;have xq:W3.cell? ⟨xb,17,none⟩= some (.slice a3 n c3):=ai hblk 17;have zq:W3.frozen? ⟨xb,17,none⟩= false:=frozen_of_row W3 xb 17 _ _ hblk))
    have HC4:=ab (HC3.out.push 3 17 (u:=.bool false) (l:=P3) rfl (af X2 _) hgrow hnear hown HP3.out (by simp[cliT]) rfl rfl)
    clear hown hgrow hnear hblk xq zq hx3 HL3 HO3 hs3 HC3
    generalize W3.setCell ⟨xb,17,none⟩ (.slice d3 (n+1) e3)=X3 at HC4⊢
    have hx4:X3.cell? ⟨xb,18,none⟩= some (.slice a4 n c4):=ai HC4.out.cl.blk 18
    have HL4:=ab (cF X3 3 [.int .i64 0] (by simp[maxLen]))
    have HO4:=ab (aD (HC4.out.own 4 (v:=.slice a4 n c4) (l:=P4) rfl rfl HP4.out) (af X3 (.cells #[.int .i64 0] 3)))
    have hs4:B<=(X3.alloc (.cells #[.int .i64 0] 3)).heap.size:=by have:=HC4.out.chg.size;simp;omega
    go_upto_region 6 with(first
     |(at_builtin;refine cD rfl _ _ 38 rfl B 3 i0 (.int .i64 0) 1 8 Tryz.underlying38 hi hz0 hz1 hz2 rfl (by decide) (.slice a4 n c4) n P4 rfl HO4.out ⟨X3.heap.size,0,none⟩ 1 1 [.int .i64 0] rfl rfl HL4.out (by simp[Value.oneCell']) (by unfold maxLen;omega) (by omega) hs4 ?_;intro y4 W4 hown hgrow hnear;obtain⟨d4,e4,rfl⟩:=aF hown;have hblk:=HC4.out.cl.grew (List.mem_of_getElem? (i:=4) rfl) (af X3 _) hgrow;have xq:W4.cell? ⟨xb,18,none⟩= some (.slice a4 n c4):=ai hblk 18;have zq:W4.frozen? ⟨xb,18,none⟩= false:=frozen_of_row W4 xb 18 _ _ hblk))
    have HC5:=ab (HC4.out.push 4 18 (u:=.int .i64 0) (l:=P4) rfl (af X3 _) hgrow hnear hown HP4.out (by simp[cliT]) rfl rfl)
    clear hown hgrow hnear hblk xq zq hx4 HL4 HO4 hs4 HC4
    generalize W4.setCell ⟨xb,18,none⟩ (.slice d4 (n+1) e4)=X4 at HC5⊢
    have hx5:X4.cell? ⟨xb,19,none⟩= some (.slice a5 n c5):=ai HC5.out.cl.blk 19
    have HL5:=ab (cF X4 4 [.bool false] (by simp[maxLen]))
    have HO5:=ab (aD (HC5.out.own 5 (v:=.slice a5 n c5) (l:=P5) rfl rfl HP5.out) (af X4 (.cells #[.bool false] 4)))
    have hs5:B<=(X4.alloc (.cells #[.bool false] 4)).heap.size:=by have:=HC5.out.chg.size;simp;omega
    go_wp2_with (first
     |(at_builtin;refine cD rfl _ _ 39 rfl B 4 j0 (.bool false) 1 1 Tryz.underlying39 hj hy0 hy1 hy2 rfl (by decide) (.slice a5 n c5) n P5 rfl HO5.out ⟨X4.heap.size,0,none⟩ 1 1 [.bool false] rfl rfl HL5.out (by simp[Value.oneCell']) (by unfold maxLen;omega) (by omega) hs5 ?_;intro y5 W5 hown hgrow hnear;obtain⟨d5,e5,rfl⟩:=aF hown;have hblk:=HC5.out.cl.grew (List.mem_of_getElem? (i:=5) rfl) (af X4 _) hgrow;have xq:W5.cell? ⟨xb,19,none⟩= some (.slice a5 n c5):=ai hblk 19;have zq:W5.frozen? ⟨xb,19,none⟩= false:=frozen_of_row W5 xb 19 _ _ hblk))
    have HC6:=ab (HC5.out.push 5 19 (u:=.bool false) (l:=P5) rfl (af X4 _) hgrow hnear hown HP5.out (by simp[cliT]) rfl rfl)
    clear hown hgrow hnear hblk xq zq hx5 HL5 HO5 hs5 HC5
    go_roundg (lim-l.length-(m+1))
    case measure=>have:=HN.out;omega
    case rel=>
     refine⟨m+1,by have:=HN.out;omega,rfl,⟨.slice d0 (n+1) e0,.slice d1 (n+1) e1,.slice d2 (n+1) e2,.slice d3 (n+1) e3,.slice d4 (n+1) e4,.slice d5 (n+1) e5,?_⟩⟩
     rw[<-HRe.out,<-HSn.out]
     exact HC6.out
  ·obtain rfl:n=lim:=by omega
   have hlt':¬(n:Int)<(n:Int):=by omega
   have HB:Hid (ClG B w (cg xb v0 v1 v2 v3 v4 v5 v6) wr.drew xb sb g ok credit n packet (.slice a0 n c0) (.slice a1 n c1) (.slice a2 n c2) (.slice a3 n c3) (.slice a4 n c4) (.slice a5 n c5) v6 (bK l2 os)):=HRk.out▸HCe.out.below (aj (Below.refl _ wr) 1)
   go_wp2_with fail
   go_region
   go_wp2_with fail
   go_end0
   have e:l++List.replicate (n-l.length) (di g.c2)=l2:=by
    have:=HN.out
    rw[<-HL2.out,show n-l.length=m by omega]
   rw[e]
   exact⟨rfl,_,_,_,_,_,_,HB.out.cl,HB.out.chg,HB.out.inn⟩
def SFT(w:World)(k:Nat):Prop:=(∃es ck,w.heap[k]? =some (.map es ck))\/∃cur e fr,w.heap[k]? =some (.cells cur e fr)/\SrvT e
theorem SFT.not{w:World}{k:Nat}{cur:Array Value}{e:TypeId}{fr:Nat×Nat}(h:SFT w k)(hk:w.heap[k]? =some (.cells cur e fr))(he:¬SrvT e):False:=by
 rcases h with⟨es,ck,h⟩|⟨cur',e',fr',h,h2⟩
 ·rw[hk]at h
  cases h
 ·rw[hk]at h
  simp only[Option.some.injEq,Obj.cells.injEq]at h
  exact he (by rw[h.2.1];exact h2)
structure LiveF(w0:World)(F:Nat->Prop)(N:Nat)(M L:Int)(w:World)(sb:Nat)(s:ax):Prop where
 bel:Below w0.heap.size w0 w
 srv:∃cm wv cbs xs ws,PSrv N w sb s cm wv cbs xs ws/\∀k,cq sb cm wv cbs xs k->F k
 up:∀k,F k->w0.heap.size<=k/\k<w.heap.size
 ty:∀k,F k->SFT w k
 inv:SrvInv M L s
theorem SrvF_in{N:Nat}{w:World}{sb:Nat}{s:ax}{cm:Nat}{wv:Value}{cbs:List Nat}{xs:List aH}{ws:List Nat}(h:PSrv N w sb s cm wv cbs xs ws){k:Nat}(hk:cq sb cm wv cbs xs k):k<w.heap.size:=by
 rcases SrvF_SF h hk with⟨es,ck,e⟩|⟨cur,e,fr,e1,_⟩
 ·exact(Array.getElem?_eq_some_iff.1 e).1
 ·exact(Array.getElem?_eq_some_iff.1 e1).1
theorem Live.f{w0:World}{N:Nat}{M L:Int}{w:World}{sb:Nat}{s:ax}(h:Live w0 N M L w sb s):∃F,LiveF w0 F N M L w sb s:=by
 obtain⟨cm,wv,cbs,xs,ws,hP,hF⟩:=h.srv
 exact⟨cq sb cm wv cbs xs,h.bel,⟨cm,wv,cbs,xs,ws,hP,fun _ hk=>hk⟩,fun k hk=>⟨hF k hk,SrvF_in hP hk⟩,fun k hk=>SrvF_SF hP hk,h.inv⟩
theorem LiveF.live{w0:World}{F:Nat->Prop}{N:Nat}{M L:Int}{w:World}{sb:Nat}{s:ax}(h:LiveF w0 F N M L w sb s):Live w0 N M L w sb s:=by
 obtain⟨cm,wv,cbs,xs,ws,hP,hF⟩:=h.srv
 exact⟨h.bel,⟨cm,wv,cbs,xs,ws,hP,fun k hk=>(h.up k (hF k hk)).1⟩,h.inv⟩
theorem LiveF.mono{w0:World}{F:Nat->Prop}{N N':Nat}{M M' L L':Int}{w:World}{sb:Nat}{s:ax}(h:LiveF w0 F N M L w sb s)(hN:N<=N')(hM:M<=M')(hL:L<=L'):LiveF w0 F N' M' L' w sb s:=by
 obtain⟨cm,wv,cbs,xs,ws,hP,hF⟩:=h.srv
 exact⟨h.bel,⟨cm,wv,cbs,xs,ws,hP.mono hN,hF⟩,h.up,h.ty,h.inv.mono hM hL⟩
theorem LiveF.chg{w0:World}{F G:Nat->Prop}{N:Nat}{M L:Int}{w w':World}{sb:Nat}{s:ax}(h:LiveF w0 F N M L w sb s)(hc:Chg G w w')(hF:∀k,F k->¬G k)(h8:∀k cur fr,w.heap[k]? =some (.cells cur 5 fr)->¬G k)(h0:∀k,G k->w0.heap.size<=k):LiveF w0 F N M L w' sb s:=by
 obtain⟨cm,wv,cbs,xs,ws,hP,hi⟩:=h.srv
 refine⟨⟨hc.os.trans h.bel.os,hc.tape.trans h.bel.tape,hc.output.trans h.bel.output,Nat.le_trans h.bel.size hc.size,fun k hk=>?_⟩,⟨cm,wv,cbs,xs,ws,hP.chg hc (fun k hk=>hF k (hi k hk)) h8,hi⟩,fun k hk=>⟨(h.up k hk).1,Nat.lt_of_lt_of_le (h.up k hk).2 hc.size⟩,fun k hk=>?_,h.inv⟩
 ·rw[hc.block k (Nat.lt_of_lt_of_le hk h.bel.size) (fun e=>by have:=h0 k e;omega),h.bel.block k hk]
 ·unfold SFT
  rw[hc.block k (h.up k hk).2 (hF k hk)]
  exact h.ty k hk
theorem LiveF.below{w0:World}{F:Nat->Prop}{N:Nat}{M L:Int}{w w':World}{sb:Nat}{s:ax}(h:LiveF w0 F N M L w sb s)(hb:Below w.heap.size w w'):LiveF w0 F N M L w' sb s:=
 h.chg (G:=fun _=>False) (Chg.of_below hb) (fun _ _ h=>h) (fun _ _ _ _ h=>h) (fun _ h=>h.elim)
theorem liveF_chg{w0:World}{F:Nat->Prop}{w w':World}{sb:Nat}{cm:Nat}{wv:Value}{cbs:List Nat}{xs:List aH}(hb:Below w0.heap.size w0 w)(hF:∀k,cq sb cm wv cbs xs k->F k)(hup:∀k,F k->w0.heap.size<=k/\k<w.heap.size)(hc:Chg (cq sb cm wv cbs xs) w w'):Chg F w w'/\Below w0.heap.size w0 w':=by
 refine⟨hc.mono fun k _ e=>hF k e,⟨hc.os.trans hb.os,hc.tape.trans hb.tape,hc.output.trans hb.output,Nat.le_trans hb.size hc.size,fun k hk=>?_⟩⟩
 rw[hc.block k (Nat.lt_of_lt_of_le hk hb.size) (fun e=>by have:=(hup k (hF k e)).1;omega),hb.block k hk]
structure MoreF(w0:World)(F:Nat->Prop)(N:Nat)(M L:Int)(w w':World)(sb:Nat)(s:ax):Prop where
 ex:∃F',LiveF w0 F' N M L w' sb s/\∀k,F' k->F k\/w.heap.size<=k
 chg:Chg F w w'
theorem LiveF.receive{w0:World}{F:Nat->Prop}{N:Nat}{M L:Int}{w:World}{sb:Nat}{s:ax}(h:LiveF w0 F N M L w sb s)(hE:Env w0)(addr:Int){b:List Int}{bv:Value}(hbv:RdB w bv b)(hl:b.length<=1073741823)(hM0:0<=M)(hM:M+b.length+100<=1125899906842624)(hN:N+1+b.length<1125899906842624):
  Calls Tryz.prog 20 #[.pointer (some ⟨sb,0,none⟩),.int .i64 addr,bv] w fun e w'=>(∃v,e=.returned v/\OutsAt w' w.heap.size v (bj s addr b).2)/\MoreF w0 F (N+1+b.length) (M+b.length+100) (L+2) w w' sb (bj s addr b).1:=by
 obtain⟨cm,wv,cbs,xs,ws,hP,hF⟩:=h.srv
 refine(sReceive_any N sb s cm wv cbs xs ws addr b bv w hP h.inv hbv hl hM0 hM hN (fun W hW=>hE.below (liveF_chg h.bel hF h.up hW).2)).mono ?_
 intro e w' ho
 obtain⟨q1,q2⟩:=liveF_chg h.bel hF h.up ho.chg
 obtain⟨v,wv',cbs',xs',ws',rfl,hO,hP',hin,_⟩:=ho.ex
 have hs:=h.bel.size
 have hin':∀k,cq sb cm wv' cbs' xs' k->F k\/w.heap.size<=k:=fun k hk=>(hin k hk).imp (hF k) (fun h=>by omega)
 refine⟨⟨v,rfl,hO.at⟩,⟨cq sb cm wv' cbs' xs',⟨q2,⟨cm,wv',cbs',xs',ws',hP',fun _ hk=>hk⟩,fun k hk=>⟨?_,SrvF_in hP' hk⟩,fun k hk=>SrvF_SF hP' hk,receive_inv h.inv hM0 hbv.1⟩,hin'⟩,q1⟩
 rcases hin' k hk with e|e
 ·exact(h.up k e).1
 ·omega
theorem LiveF.read{w0:World}{F:Nat->Prop}{N:Nat}{M L:Int}{w:World}{sb:Nat}{s:ax}(h:LiveF w0 F N M L w sb s)(cid id most:Int)(hM:M<=1125899906842000)(hN:N+2<1125899906842624)(hc:-9223372036854775808<=cid/\cid<=9223372036854775807)(hm:-9223372036854775808<=most/\most<=9223372036854775807):
  Calls Tryz.prog 17 #[.pointer (some ⟨sb,0,none⟩),.int .i64 cid,.int .i64 id,.int .i64 most] w fun e w'=>(∃tv v,e=.returned (.tuple #[.agg #[tv,.bool (cL s cid id most).2.1.fin,.bool (cL s cid id most).2.1.rst],v,.int .i64 (cL s cid id most).1])/\w'.ownsRow w.heap.size 5 1 tv (cL s cid id most).2.1.bytes.length (U8 (cL s cid id most).2.1.bytes)/\OutsAt w' w.heap.size v (cL s cid id most).2.2.2)/\MoreF w0 F (N+2) (M+60) L w w' sb (cL s cid id most).2.2.1:=by
 obtain⟨cm,wv,cbs,xs,ws,hP,hF⟩:=h.srv
 refine(sRead_any N sb s cm wv cbs xs ws cid id most w hP h.inv hM hN hc hm).mono ?_
 intro e w' ho
 obtain⟨q1,q2⟩:=liveF_chg h.bel hF h.up ho.chg
 obtain⟨tv,v,xs',ws',rfl,_,hby,hO,_,hP',hin,_⟩:=ho.ex
 have hs:=h.bel.size
 have hin':∀k,cq sb cm wv cbs xs' k->F k\/w.heap.size<=k:=fun k hk=>(hin k hk).imp (hF k) (fun h=>by omega)
 refine⟨⟨tv,v,rfl,hby,hO.at⟩,⟨cq sb cm wv cbs xs',⟨q2,⟨cm,wv,cbs,xs',ws',hP',fun _ hk=>hk⟩,fun k hk=>⟨?_,SrvF_in hP' hk⟩,fun k hk=>SrvF_SF hP' hk,read_inv h.inv⟩,hin'⟩,q1⟩
 rcases hin' k hk with e|e
 ·exact(h.up k e).1
 ·omega
end Go.Proofs.YthmdjhlhodpbhaaGreatDoor
