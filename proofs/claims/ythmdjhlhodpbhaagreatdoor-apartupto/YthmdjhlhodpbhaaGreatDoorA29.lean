/- Apart, 29 -/
import Derived.BigRegion
import Derived.Deep.RegionHeld3
import Derived.Test.YthmdjhlhodpbhaaGreatDoorA13
import Derived.Test.YthmdjhlhodpbhaaGreatDoorA28
set_option maxHeartbeats 16000000
set_option maxRecDepth 8000
namespace Go.Proofs.YthmdjhlhodpbhaaGreatDoor
open Go.RowKit
structure SAns(N:Nat)(w:World)(sb cm:Nat)(wv:Value)(cbs:List Nat)(xs:List aJ)(s':ay)(v:Value)(e:Ending)(w':World):Prop where
 ret:e=.returned v
 ex:∃wv' cbs' xs' ws',PSrv N w' sb s' cm wv' cbs' xs' ws'/\(∀k,cj sb cm wv' cbs' xs' k->cj sb cm wv cbs xs k\/w.heap.size<=k)/\∀k,gR xs' k->gR xs k
 chg:Chg (cj sb cm wv cbs xs) w w'
theorem PSrv.chg{F:Nat->Prop}{N:Nat}{w w':World}{sb:Nat}{s:ay}{cm:Nat}{wv:Value}{cbs:List Nat}{xs:List aJ}{ws:List Nat}(h:PSrv N w sb s cm wv cbs xs ws)(hc:Chg F w w')(hF:∀k,cj sb cm wv cbs xs k->¬F k)(h8:∀k cur fr,w.heap[k]? =some (.cells cur 5 fr)->¬F k):PSrv N w' sb s cm wv cbs xs ws:=by
 obtain⟨n,hn,hm⟩:=h.map
 exact⟨h.blk.chg hc (hF sb (Or.inl rfl)),⟨n,hn,hm.same (hc.block cm hm.lt (hF cm (Or.inr (Or.inl rfl))))⟩,h.len1,h.len2,fun i c cb a h1 h2 h3=>(h.con i c cb a h1 h2 h3).chg hc (fun k hk=>hF k (fx h2 h3 hk)) h8,bX h.row hc (fun k hk e=>hF k (Or.inr (Or.inr (Or.inl hk))) e),h.wait,h.apart,h.mne⟩
theorem sV{b:Nat}:∀{l:List Nat},b∉l->(b::l).filter (fun x=>x != b)=l:=by
 intro l h
 rw[List.filter_cons,if_neg (by simp),List.filter_eq_self]
 intro x hx
 simp only[bne_iff_ne,ne_eq]
 exact fun e=>h (e▸hx)
theorem PSrv.first{N:Nat}{w:World}{sb:Nat}{s:ay}{cm:Nat}{wv:Value}{cbs:List Nat}{xs:List aJ}{b:Nat}{wt:List Nat}(h:PSrv N w sb s cm wv cbs xs (b::wt))(hnd:(s.conns.map (·.cid)).Nodup):
  ∃(j:Nat) (c:aw) (a:aJ),s.conns[j]? =some c/\cbs[j]? =some b/\xs[j]? =some a/\bW s=(c.cid,0,{s with conns:=s.conns.set j {c with waits:=0}})/\b∉wt/\
   ∃ct,WaitIs (s.conns.set j {c with waits:=0}) ct/\wt.length=ct.length/\∀(l:Nat) b',wt[l]? =some b'->∃(i:Nat) (c':aw),(s.conns.set j {c with waits:=0})[i]? =some c'/\cbs[i]? =some b'/\ct[l]? =some c'.cid:=by
 obtain⟨cs,hw1,hw2,hw3⟩:=h.wait
 cases cs with
 |nil=>simp at hw2
 |cons x ct=>
  obtain⟨j,c,hj,hcx,_,hac,hwt⟩:=uj hw1
  have hinj:∀(j l:Nat) b,cbs[j]? =some b->cbs[l]? =some b->j=l:=by
   intro j l b e1 e2
   by_cases hjl:j=l
   ·exact hjl
   ·have h1:j<xs.length:=by rw[h.len2,<-h.len1];exact(lLt e1)
    have h2:l<xs.length:=by rw[h.len2,<-h.len1];exact(lLt e2)
    exact absurd (Or.inl rfl) (h.apart j l b _ b _ hjl e1 (lGe h1) e2 (lGe h2) b (Or.inl rfl))
  obtain⟨i0,c0,e1,e2,e3⟩:=hw3 0 b rfl
  simp only[List.getElem?_cons_zero,Option.some.injEq]at e3
  have hc0:c0=c:=nodup_cid hnd (lMm e1) (lMm hj) (by rw[hcx,e3])
  subst hc0
  have hij:i0=j:=by
   have q1:(s.conns.map (·.cid))[i0]? =some c0.cid:=by simp[e1]
   have q2:(s.conns.map (·.cid))[j]? =some c0.cid:=by simp[hj]
   exact(List.getElem?_inj (lLt q1) hnd).1 (q1.trans q2.symm)
  subst hij
  have hcn:=hw1.nodup hnd
  rw[List.nodup_cons]at hcn
  have hnot:b∉wt:=by
   intro hb
   obtain⟨l,hl,e⟩:=List.getElem_of_mem hb
   obtain⟨i1,c1,f1,f2,f3⟩:=hw3 (l+1) b (by simp[lGe hl,e])
   have:=hinj i1 i0 b f2 e2
   subst this
   rw[e1]at f1
   cases f1
   simp only[List.getElem?_cons_succ]at f3
   exact hcn.1 (by rw[e3];exact lMm f3)
  obtain⟨a,ha⟩:∃a,xs[i0]? =some a:=⟨_,lGe (by rw[h.len2];exact(lLt e1))⟩
  refine⟨i0,c0,a,hj,e2,ha,hac.trans (by rw[hcx]),hnot,ct,hwt,by simpa using hw2,fun l b' hl=>?_⟩
  obtain⟨i1,c1,f1,f2,f3⟩:=hw3 (l+1) b' (by simpa using hl)
  have hne:i1≠i0:=by
   intro e
   subst e
   rw[e2]at f2
   cases f2
   exact hnot (lMm hl)
  refine⟨i1,c1,by rw[aD hne];exact f1,f2,by simpa using f3⟩
theorem PSrv.taken{N:Nat}{w w':World}{sb:Nat}{s:ay}{cm:Nat}{wv wv':Value}{cbs:List Nat}{xs:List aJ}{b:Nat}{wt:List Nat}(h:PSrv N w sb s cm wv cbs xs (b::wt)){j:Nat}{c:aw}(hj:s.conns[j]? =some c)
  (hw:∃ct,WaitIs (s.conns.set j {c with waits:=0}) ct/\wt.length=ct.length/\∀(l:Nat) b',wt[l]? =some b'->∃(i:Nat) (c':aw),(s.conns.set j {c with waits:=0})[i]? =some c'/\cbs[i]? =some b'/\ct[l]? =some c'.cid)
  (hS:SBlk w' sb s.c s.now cm wv') (ho:w'.ownsRow 0 97 1 wv' wt.length (fC wt)) (hc:Chg (fun k=>k=sb\/wv.ownBlock=some k) w w'):PSrv N w' sb {s with conns:=s.conns.set j {c with waits:=0}} cm wv' cbs xs wt:=by
 obtain⟨n,hn,hm⟩:=h.map
 have hcO:Chg (sI sb cm wv) w w':=hc.mono fun k _ e=>e.elim Or.inl (fun e=>Or.inr (Or.inr e))
 have hmb:w'.heap[cm]? =w.heap[cm]?:=by
  refine hc.block cm hm.lt ?_
  obtain⟨es,ck,hb⟩:=hm.is_map
  rintro(e|e)
  ·have h2:w.heap[sb]? =some (.cells (jE s.c s.now cm wv) 101 (0,0)):=h.blk
   rw[<-e,hb]at h2
   cases h2
  ·obtain⟨c1,e1⟩:=aQ h.row e
   rw[hb]at e1
   cases e1
 refine⟨hS,⟨n,hn,?_⟩,by simp[h.len1],by simp[h.len2],fun i d db x h1 h2 h3=>?_,ho,hw,h.apart,h.mne⟩
 ·have e:({s with conns:=s.conns.set j {c with waits:=0}}:ay).conns.map (·.cid)=s.conns.map (·.cid):=iU hj rfl
  rw[e]
  exact hm.same hmb
 ·by_cases hij:i=j
  ·subst hij
   rw[aK hj]at h1
   cases h1
   exact(h.cons hcO hj h2 h3).waits 0
  ·rw[aD hij]at h1
   exact h.cons hcO h1 h2 h3
theorem oq(N:Nat)(sb:Nat)(s:ay)(cm:Nat)(wv:Value)(cbs:List Nat)(xs:List aJ)(ws:List Nat)(w:World)(h:PSrv N w sb s cm wv cbs xs ws){M L:Int}(hI:SrvInv M L s):
  Calls Tryz.prog 21 #[.pointer (some ⟨sb,0,none⟩)] w fun e w'=>SAns N w sb cm wv cbs xs (bW s).2.2 (.tuple #[.int .i64 (bW s).1,.int .i64 (bW s).2.1]) e w':=by
 have d12:w.cell? ⟨sb,12,none⟩= some wv:=h.blk.cell 12
 cases ws with
 |nil=>
  have hac:bW s=(0,4,s):=by
   obtain⟨cs,hw1,hw2,_⟩:=h.wait
   cases cs with
   |nil=>exact ui hw1
   |cons x ct=>simp at hw2
  rw[hac]
  obtain⟨va,vc,rfl⟩:=bd h.row
  have HE:Hid (SAns N w sb cm (.slice va 0 vc) cbs xs s (.tuple #[.int .i64 0,.int .i64 4]) (.returned (.tuple #[.int .i64 0,.int .i64 4])) w):=⟨rfl,⟨_,cbs,xs,[],h,fun k hk=>Or.inl hk,fun k hk=>hk⟩,Chg.refl _ _⟩
  simp only[List.length_nil]at d12⊢
  clear h hI hac
  go_enter Tryz.func21,Tryz.ntmps21
  go_wp2_with fail
  go_ret2
  exact HE.out
 |cons b wt=>
  obtain⟨j,c,a,hj,hcb,ha,hac,hnot,hw⟩:=h.first hI.nd
  rw[hac]
  have hwl:(b::wt).length<=1000:=by
   have e1:=h.wlen
   have e2:=hI.few
   have e3:=hI.cfg.c0
   omega
  have hC:=h.con j c b a hj hcb ha
  have hisb:=(h.but (Nat.le_refl N) hj hcb ha (Chg.refl _ _) ⟨c,_,_,_,_,hC.blk,rfl⟩).isb
  have hrow:=h.row
  obtain⟨g,cap,e1,_,_,_⟩:=dp hrow (by simp)
  subst e1
  have c0:w.cell? ⟨g,0,none⟩= some (.pointer (some ⟨b,0,none⟩)):=by
   rw[hrow.cellAt 0 (by simp)]
   simp[fC,ptrV]
  have HWn:=ab (km sb s.c s.now cm _ (b::wt) b w h.blk hrow hwl hisb.2 hisb.1)
  rw[sV hnot]at HWn
  have HEnd:Hid (∀w1 e,mn w sb s.c s.now cm (.slice (some ⟨g,0,none⟩) (b::wt).length cap) wt e w1->(Calls Tryz.prog 51 #[.pointer (some ⟨b,0,none⟩)] w1 fun e w'=>e=.returned (.int .i64 c.cid)/\w1=w')/\SAns N w sb cm (.slice (some ⟨g,0,none⟩) (b::wt).length cap) cbs xs {s with conns:=s.conns.set j {c with waits:=0}} (.tuple #[.int .i64 c.cid,.int .i64 0]) (.returned (.tuple #[.int .i64 c.cid,.int .i64 0])) w1):=by
   rintro w1 e ⟨rfl,⟨wv',hS,ho,hat⟩,hc⟩
   have hP:=h.taken hj hw hS ho hc
   have hcO:Chg (sI sb cm (.slice (some ⟨g,0,none⟩) (b::wt).length cap)) w w1:=hc.mono fun k _ e=>e.elim Or.inl (fun e=>Or.inr (Or.inr e))
   exact⟨ur b s.c c _ _ _ _ w1 (h.cons hcO hj hcb ha).blk,rfl,⟨wv',cbs,xs,wt,hP,SrvF_wv hat,fun k hk=>hk⟩,hcO.mono fun k _ hk=>ml hk⟩
  have hpos:((b::wt).length:Int)≠0:=by simp;omega
  have hgt:0<(b::wt).length:=by simp
  have hnb:(((b::wt).length:Int)==0)=false:=beq_eq_false_iff_ne.2 hpos
  generalize (b::wt).length=wl at *
  clear h hI hj hcb ha hac hnot hw hwl hC hisb hrow
  go_enter Tryz.func21,Tryz.ntmps21
  go_wp2_with fail
  refine HWn.out.mono ?_
  intro e w1 ho
  obtain⟨h1,h2⟩:=HEnd.out w1 e ho
  have hr:=ho.ret
  subst hr
  have H1:=ab h1
  have H2:=ab h2
  clear h1 h2 ho HEnd HWn c0 d12
  go_wp2_with fail
  refine H1.out.mono ?_
  rintro e w2 ⟨rfl,rfl⟩
  clear H1
  go_wp2_with fail
  go_ret2
  exact H2.out
def oK(w:World)(g:Cfg)(e:Ending)(w':World):Prop:=
 if g.right then ∃sb cm,e=.returned (.tuple #[.pointer (some ⟨sb,0,none⟩),.int .i64 0])/\PSrv 0 w' sb (cK g) cm (.slice none 0 0) [] [] []/\w.heap.size<=sb/\w.heap.size<=cm/\Below w.heap.size w w'
 else e=.returned (.tuple #[.pointer none,.int .i64 1])/\Below w.heap.size w w'
theorem snew_close{w W:World}{g:Cfg}{cm:Nat}(hW:Below w.heap.size w W)(h1:W.heap[cm]? =some (.map #[] 0)):PSrv 0 (W.alloc (.cells #[.int .i64 g.c0,.int .i64 g.c1,.int .i64 g.c2,.int .i64 g.c3,.int .i64 g.c4,.int .i64 g.c5,.int .i64 g.c6,.int .i64 g.c7,.int .i64 g.c8,.int .i64 g.c9,.int .i64 0,.map (some cm),.slice none 0 0] 101)) W.heap.size (cK g) cm (.slice none 0 0) [] [] []/\Below w.heap.size w (W.alloc (.cells #[.int .i64 g.c0,.int .i64 g.c1,.int .i64 g.c2,.int .i64 g.c3,.int .i64 g.c4,.int .i64 g.c5,.int .i64 g.c6,.int .i64 g.c7,.int .i64 g.c8,.int .i64 g.c9,.int .i64 0,.map (some cm),.slice none 0 0] 101)):=by
 have hb:=ag W (.cells #[.int .i64 g.c0,.int .i64 g.c1,.int .i64 g.c2,.int .i64 g.c3,.int .i64 g.c4,.int .i64 g.c5,.int .i64 g.c6,.int .i64 g.c7,.int .i64 g.c8,.int .i64 g.c9,.int .i64 0,.map (some cm),.slice none 0 0] 101)
 refine⟨⟨heap_alloc_new W _,⟨0,Nat.le_refl _,?_⟩,rfl,rfl,fun i c cb a h1=>(by simp[cK]at h1),World.ownsRow_nil _ _ _ _,⟨[],WaitIs.nil,rfl,fun j b hb=>(by simp at hb)⟩,fun i j cb a cb' a' _ h1=>(by simp at h1),fun i cb a h1=>(by simp at h1)⟩,ai hW hb⟩
 refine(MapIs.same (w:=W) ?_ (hb.block cm (aLt h1)))
 exact⟨.map [],⟨#[],0,h1,by
  obtain⟨es,ck,q1,q2⟩:=World.ownsMap_made W Tryz.prog 3 ez.R
  rw[heap_alloc_new]at q1
  cases q1
  exact q2⟩,⟨fun k=>rfl,fun k a h=>(by simp[atK]at h),rfl,List.nodup_nil⟩⟩
theorem sNew_any(g:Cfg)(w:World):
  Calls Tryz.prog 26 #[.agg #[.int .i64 g.c0,.int .i64 g.c1,.int .i64 g.c2,.int .i64 g.c3,.int .i64 g.c4,.int .i64 g.c5,.int .i64 g.c6,.int .i64 g.c7,.int .i64 g.c8,.int .i64 g.c9]] w fun e w'=>oK w g e w':=by
 have HB:Hid (∀W:World,W=w.alloc (.cells #[.int .i64 g.c0,.int .i64 g.c1,.int .i64 g.c2,.int .i64 g.c3,.int .i64 g.c4,.int .i64 g.c5,.int .i64 g.c6,.int .i64 g.c7,.int .i64 g.c8,.int .i64 g.c9] 26)->Below w.heap.size w W/\W.heap[w.heap.size]? =some (.cells #[.int .i64 g.c0,.int .i64 g.c1,.int .i64 g.c2,.int .i64 g.c3,.int .i64 g.c4,.int .i64 g.c5,.int .i64 g.c6,.int .i64 g.c7,.int .i64 g.c8,.int .i64 g.c9] 26 (0,0))):=by
  rintro W rfl
  exact⟨ag w _,heap_alloc_new w _⟩
 obtain⟨r,hr⟩:∃r,gT g.c0 g.c1 g.c2 g.c3 g.c4 g.c5 g.c6 g.c7 g.c8 g.c9=r:=⟨_,rfl⟩
 have HR:Hid (∀W,Calls Tryz.prog 52 #[.agg #[.int .i64 g.c0,.int .i64 g.c1,.int .i64 g.c2,.int .i64 g.c3,.int .i64 g.c4,.int .i64 g.c5,.int .i64 g.c6,.int .i64 g.c7,.int .i64 g.c8,.int .i64 g.c9]] W fun e w'=>e=.returned (.int .i64 (if r then 0 else 1))/\Below W.heap.size W w'):=by
  intro W
  have:=ky g.c0 g.c1 g.c2 g.c3 g.c4 g.c5 g.c6 g.c7 g.c8 g.c9 W
  unfold nt at this
  rw[hr]at this
  exact this
 have HE:Hid (g.right=r):=hr
 have HCl:Hid (∀W:World,Below w.heap.size w W->PSrv 0 ((W.alloc (.map #[] 0)).alloc (.cells #[.int .i64 g.c0,.int .i64 g.c1,.int .i64 g.c2,.int .i64 g.c3,.int .i64 g.c4,.int .i64 g.c5,.int .i64 g.c6,.int .i64 g.c7,.int .i64 g.c8,.int .i64 g.c9,.int .i64 0,.map (some W.heap.size),.slice none 0 0] 101)) (W.alloc (.map #[] 0)).heap.size (cK g) W.heap.size (.slice none 0 0) [] [] []/\Below w.heap.size w ((W.alloc (.map #[] 0)).alloc (.cells #[.int .i64 g.c0,.int .i64 g.c1,.int .i64 g.c2,.int .i64 g.c3,.int .i64 g.c4,.int .i64 g.c5,.int .i64 g.c6,.int .i64 g.c7,.int .i64 g.c8,.int .i64 g.c9,.int .i64 0,.map (some W.heap.size),.slice none 0 0] 101))):=fun W hW=>snew_close (ai hW (ag W _)) (heap_alloc_new W _)
 clear hr
 go_enter Tryz.func26,Tryz.ntmps26
 go_wp2_with fail
 obtain⟨hb0,hc0⟩:=HB.out _ rfl
 clear HB
 generalize w.alloc (.cells #[.int .i64 g.c0,.int .i64 g.c1,.int .i64 g.c2,.int .i64 g.c3,.int .i64 g.c4,.int .i64 g.c5,.int .i64 g.c6,.int .i64 g.c7,.int .i64 g.c8,.int .i64 g.c9] 26)=w0 at hb0 hc0⊢
 refine(HR.out w0).mono ?_
 rintro e w1 ⟨rfl,hb1⟩
 clear HR
 have hc1:=(hb1.block _ (aLt hc0)).trans hc0
 have hB1:=ai hb0 hb1
 clear hb0 hb1 hc0
 have m0:w1.cell? ⟨w.heap.size,0,none⟩= some (.int .i64 g.c0):=by simp[World.cell?,hc1]
 have m1:w1.cell? ⟨w.heap.size,1,none⟩= some (.int .i64 g.c1):=by simp[World.cell?,hc1]
 have m2:w1.cell? ⟨w.heap.size,2,none⟩= some (.int .i64 g.c2):=by simp[World.cell?,hc1]
 have m3:w1.cell? ⟨w.heap.size,3,none⟩= some (.int .i64 g.c3):=by simp[World.cell?,hc1]
 have m4:w1.cell? ⟨w.heap.size,4,none⟩= some (.int .i64 g.c4):=by simp[World.cell?,hc1]
 have m5:w1.cell? ⟨w.heap.size,5,none⟩= some (.int .i64 g.c5):=by simp[World.cell?,hc1]
 have m6:w1.cell? ⟨w.heap.size,6,none⟩= some (.int .i64 g.c6):=by simp[World.cell?,hc1]
 have m7:w1.cell? ⟨w.heap.size,7,none⟩= some (.int .i64 g.c7):=by simp[World.cell?,hc1]
 have m8:w1.cell? ⟨w.heap.size,8,none⟩= some (.int .i64 g.c8):=by simp[World.cell?,hc1]
 have m9:w1.cell? ⟨w.heap.size,9,none⟩= some (.int .i64 g.c9):=by simp[World.cell?,hc1]
 have HB1:=ab hB1
 have hsz:=hB1.size
 clear hc1 hB1
 cases r
 ·simp only[Bool.false_eq_true,if_false]
  go_wp2_with fail
  go_ret2
  unfold oK
  rw[HE.out,if_neg (by decide)]
  exact⟨rfl,HB1.out⟩
 ·simp only[if_true]
  have HF:=ab (HCl.out w1 HB1.out)
  have hsz1:(w1.alloc (.map #[] 0)).heap.size=w1.heap.size+1:=by simp
  rw[hsz1]at HF
  clear HCl hsz1
  have hmk:∀W:World,(Instr.makeMap 98 none).run Tryz.prog W=.ok (.map (some W.heap.size)) (W.alloc (.map #[] 0)):=fun W=>by simp[Instr.makeMap]
  go_wp2_with fail
  go_ret2
  unfold oK
  rw[HE.out,if_pos rfl]
  exact⟨_,_,rfl,HF.out.1,by omega,hsz,HF.out.2⟩
def lx(l:List aR):Int:=(l.map fun x=>(jx x.bytes:Int)).sum
theorem su{α:Type}{piece:Int}{l:List aR}{sl:List (Int×α)}(hS:aR->Int)(hdz:∀x∈l,x.done=true->hS x=0)(hz:hS (aU piece)=0)(h:MapS piece l sl):(l.map hS).sum=bE (atS hS l) sl:=by
 have hks:(sl.map fun p=>p.1.toNat).Nodup:=by
  have:(sl.map fun p=>p.1.toNat)=(sl.map (·.1)).map Int.toNat:=by rw[List.map_map];rfl
  rw[this]
  have hn:=h.nd
  have hpos:∀x∈sl.map (·.1),0<=x:=by
   intro x hx
   obtain⟨p,hp,rfl⟩:=List.mem_map.1 hx
   exact(h.str p hp).1
  generalize sl.map (·.1)=ids at hn hpos
  induction ids with
  |nil=>simp
  |cons a t ih=>
   rw[List.nodup_cons]at hn
   simp only[List.map_cons,List.nodup_cons]
   refine⟨fun hm=>?_,ih hn.2 (fun x hx=>hpos x (by simp[hx]))⟩
   obtain⟨b,hb,e⟩:=List.mem_map.1 hm
   have h1:=hpos a (by simp)
   have h2:=hpos b (by simp[hb])
   have:a=b:=by omega
   subst this
   exact hn.1 hb
 have hlt:∀k∈(sl.map fun p=>p.1.toNat),k<l.length:=by
  intro k hk
  obtain⟨p,hp,rfl⟩:=List.mem_map.1 hk
  obtain⟨_,x,hx,_⟩:=h.str p hp
  exact(lLt hx)
 have e1:bE (atS hS l) sl=((sl.map fun p=>p.1.toNat).map fun i=>((l[i]?).map hS).getD 0).sum:=by
  unfold bE atS
  rw[List.map_map]
  rfl
 rw[e1,nF,vR _ hks hlt]
 congr 1
 refine List.map_congr_left fun i hir=>?_
 have hil:i<l.length:=List.mem_range.1 hir
 have hx:l[i]? =some l[i]:=lGe hil
 have hin:=hdz _ (List.getElem_mem hil)
 generalize l[i]=x at hx hin
 rw[hx]
 simp only[Option.map_some,Option.getD_some]
 have hmem:i∈(sl.map fun p=>p.1.toNat)↔(i:Int)∈sl.map (·.1):=by
  constructor
  ·intro hm
   obtain⟨p,hp,e⟩:=List.mem_map.1 hm
   have:=(h.str p hp).1
   exact List.mem_map.2 ⟨p,hp,by omega⟩
  ·intro hm
   obtain⟨p,hp,e⟩:=List.mem_map.1 hm
   exact List.mem_map.2 ⟨p,hp,by omega⟩
 by_cases hk:i∈(sl.map fun p=>p.1.toNat)
 ·simp[hk]
 ·cases hd:x.done with
  |true=>simp[hk,hin hd]
  |false=>
   have:=h.non i x hx hd (fun hm=>hk (hmem.2 hm))
   subst this
   simp[hk,hz]
theorem buf_split{α:Type}{gaps piece:Int}{l:List aR}{sl:List (Int×α)}(hi:∀x∈l,StrInv gaps x)(h:MapS piece l sl):lx l=bE (atS (fun x=>(jx x.bytes:Int)) l) sl:=by
 refine su (fun x=>(jx x.bytes:Int)) (fun x hx hd=>?_) (by simp[aU,jx]) h
 have:=((hi x hx).dn hd).1
 simp[this,jx]
theorem qR{U:Nat->Prop}(sb:Nat)(lv:Value)(piece:Int)(x:aR)(w:World)(h:StrAt U w sb lv piece x){gaps:Int}(hi:StrInv gaps x)(hg:gaps<=8):
  Calls Tryz.prog 71 #[.pointer (some ⟨sb,0,none⟩)] w fun e w'=>e=.returned (.int .i64 (jx x.bytes:Nat))/\Below w.heap.size w w':=by
 obtain⟨vs,hr,_⟩:=h.runs
 have c0:w.cell? ⟨sb,0,none⟩= some lv:=h.cell 0
 have HS:=ab (x_Size_any vs _ lv sb 0 w c0 hr.own hr.sh (hi.fit hg))
 rw[tE]at HS
 clear h hr
 go_enter Tryz.func71,Tryz.ntmps71
 go_wp2_with fail
 refine HS.out.mono ?_
 rintro e w1 ⟨rfl,hb1⟩
 have HB:=ab hb1
 clear hb1 HS
 go_wp2_with fail
 go_ret
 exact⟨rfl,HB.out⟩
theorem csumB_any(cb sm n:Nat)(sl:List (Int×Nat))(hi:Int->Int)(w:World)(hc:w.cell? ⟨cb,21,none⟩= some (.map (some sm)))(hm:MapIs ez Tryz.prog 3 w sm n sl)(hs:∀p∈sl,∀W,Below w.heap.size w W->Calls Tryz.prog 71 #[.pointer (some ⟨p.2,0,none⟩)] W fun e w'=>e=.returned (.int .i64 (hi p.1))/\Below W.heap.size W w')(hr:∀p∈sl,0<=hi p.1/\hi p.1<=1073741823)(hl:sl.length<=1073741823):
  Calls Tryz.prog 70 #[.pointer (some ⟨cb,0,none⟩),.func (.func 71) #[] #[]] w fun e w'=>e=.returned (.int .i64 (bE hi sl))/\Below w.heap.size w w':=by
 have hS:bE hi sl<=1152921504606846976:=by
  have:=na (B:=1073741823) fun p hp=>(hr p hp).2
  omega
 have HM:=ab hm
 have HS:=ab hs
 have HR:=ab hr
 clear hm hs hr
 go_enter Tryz.func70,Tryz.ntmps70
 go_wp2_with (first
  |(at_range;refine gK _ rfl _ 134 rfl 140 Tryz.underlying3 Tryz.underlying134 sm n sl rfl HM.out ?_;intro w0 hrg0 hg0 hs0))
 have hb0:Below w.heap.size w w0:=fU hg0
 have H0:=ab (And.intro hrg0 hb0)
 clear hrg0 hg0 hs0 hb0 hc
 go_frame
 go_loopw [5] (fun s wr=>∃(rest:List (Int×Nat)) (cnt:Nat),RangeIs ez Tryz.prog 3 wr sm w.heap.size n sl rest cnt/\s=.int .i64 (bE hi sl-bE hi rest)/\Hid (∀p∈rest,p∈sl)/\Hid (bE hi rest<=bE hi sl)/\Below w.heap.size w wr) (fun _ wr=>wr.rangeLeft sm w.heap.size)
 case atStart=>exact⟨sl,_,H0.out.1,by rw[Int.sub_self],fun p hp=>hp,ab (Int.le_refl _),H0.out.2⟩
 case round=>
  obtain⟨rest,cnt,hrg,rfl,hsub,hsm,hbw⟩:=hrel
  have HBw:=ab hbw
  have HRg:=ab hrg
  clear hbw
  go_wp2_with (first
   |(at_next;refine ik _ rfl _ rfl Tryz.underlying3 sm w.heap.size n sl rest cnt rfl hrg ?_ ?_))
  ·intro hnil
   subst hnil
   go_wp2_with fail
   go_ret
   exact⟨by simp[bE],HBw.out⟩
  ·intro k y r1 r2 w1 cnt1 hre hwk hat hrg1 hlt hg1 hs1 hen
   have hky:(k,y)∈sl:=hsub.out _ (by rw[hre];simp)
   have hb1:Below w.heap.size w w1:=HBw.out.grown hg1 HBw.out.size (fun g hg=>by cases hg;exact Nat.le_refl _)
   have hmid:=qf (f:=hi) r1 r2 k y
   rw[<-hre]at hmid
   have hn1:0<=bE hi (r1++r2):=dZ fun p hp=>(HR.out p (hsub.out p (by rw[hre];simp at hp⊢;rcases hp with h|h<;>simp[h]))).1
   have hsb:Hid (∀p∈r1++r2,p∈sl):=fun p hp=>hsub.out p (by rw[hre];simp at hp⊢;rcases hp with h|h<;>simp[h])
   have hk:0<=hi k/\hi k<=1073741823:=HR.out (k,y) hky
   obtain⟨hk0,hk1⟩:=hk
   have hn2:=hsm.out
   have hw:IntKind.i64.wrap (bE hi sl-bE hi rest+hi k)=bE hi sl-bE hi (r1++r2):=by
    rw[IntKind.wrap_i64]
    omega
   have HM2:=ab hmid
   have HE:=ab (HS.out (k,y) hky w1 hb1)
   have H1:=ab (And.intro hrg1 (And.intro hb1 (And.intro hlt hsb)))
   have HN:=ab (show bE hi (r1++r2)<=bE hi sl from by omega)
   generalize bE hi rest=Sr at hw HM2⊢
   clear hmid hn1 hb1 hky hrg1 hlt hsb hn2 hg1 hs1 hat
   go_wp2_with fail
   refine HE.out.mono ?_
   rintro e w2 ⟨rfl,hb2⟩
   have H2:Hid (RangeIs ez Tryz.prog 3 w2 sm w.heap.size n sl (r1++r2) cnt1/\Below w.heap.size w w2):=⟨H1.out.1.kept (hb2.block _ H1.out.1.map.lt) (hb2.block _ H1.out.1.iter.1),ai H1.out.2.1 hb2⟩
   clear HE hb2
   go_wp2_with fail
   go_roundw
   case rel=>exact⟨r1++r2,cnt1,H2.out.1,rfl,H1.out.2.2.2,HN,H2.out.2⟩
   case measure=>
    have h1:=H2.out.1.left_eq
    have h2:=HRg.out.left_eq
    have h3:=H1.out.2.2.1
    rw[h1,h2]
    exact h3
theorem cbuf_any(N cb:Nat)(g:Cfg)(c:aw)(a:aJ)(w:World)(h:ConAt N w cb g c a)(hi:ConInv g c){M:Int}(hok:ConOk M c)(hg:bM g):
  Calls Tryz.prog 70 #[.pointer (some ⟨cb,0,none⟩),.func (.func 71) #[] #[]] w fun e w'=>e=.returned (.int .i64 (lx c.streams))/\Below w.heap.size w w':=by
 obtain⟨n,hn,hm⟩:=h.smap
 have c21:w.cell? ⟨cb,21,none⟩= some (.map (some a.sm)):=h.blk.cell 21
 rw[buf_split hi.str h.mp]
 have hg4:=hg.c4
 refine csumB_any cb a.sm n a.sl _ w c21 hm (fun p hp W hW=>?_) (fun p hp=>?_) ?_
 ·obtain⟨_,x,hx,_⟩:=h.mp.str p hp
  have hsx:=(h.str p hp x hx).below hW
  have e:atS (fun x=>(jx x.bytes:Int)) c.streams p.1=(jx x.bytes:Int):=by simp[atS,hx]
  rw[e]
  exact qR p.2 _ g.c2 x W hsx (hi.str x (lMm hx)) (by omega)
 ·obtain⟨_,x,hx,_⟩:=h.mp.str p hp
  have e:atS (fun x=>(jx x.bytes:Int)) c.streams p.1=(jx x.bytes:Int):=by simp[atS,hx]
  rw[e]
  have h1:=hi.str x (lMm hx)
  have h2:jx x.bytes<=x.bytes.length:=List.countP_le_length
  have h3:=h1.len
  have h4:=h1.cred
  have h5:=h1.read
  omega
 ·have h2:=hok.slen
  have h3:=h.mp.len
  omega
def pF(c:aw):Array Value:=#[.bool c.proven,.int .i64 c.got,.int .i64 c.sent,.int .i64 c.credit,.int .i64 (c.streams.length:Int),.int .i64 (lx c.streams)]
def nj:Array Value:=#[.bool false,.int .i64 0,.int .i64 0,.int .i64 0,.int .i64 0,.int .i64 0]
def lookS(s:ay)(cid:Int):Array Value×Int:=
 match ei s.conns cid with
 |none=>(nj,3)
 |some k=>match s.conns[k]? with
  |none=>(nj,3)
  |some c=>(pF c,0)
theorem upon_skip{P:Program}{o:Oper}{a:Act}{K:Act->World->Prop}{Q:Exit->Act->World->Prop}{w:World}(h:K (a.put o.dst undef) w):Oper.upon P o a K Q (.ok .skip w):=h
theorem upon_id{P:Program}{o:Oper}{a:Act}{K:Act->World->Prop}{Q:Exit->Act->World->Prop}{r:Result Next}(h:Oper.upon P o a K Q r):Oper.upon P o a K Q r:=h
theorem cLook_any(N cb:Nat)(g:Cfg)(c:aw)(a:aJ)(w:World)(h:ConAt N w cb g c a)(hi:ConInv g c){M:Int}(hok:ConOk M c)(hg:bM g):
  Calls Tryz.prog 41 #[.pointer (some ⟨cb,0,none⟩)] w fun e w'=>e=.returned (.agg (pF c))/\Below w.heap.size w w':=by
 have hcl:cb<w.heap.size:=h.blk.lt
 have HBu:Hid (∀W,Below w.heap.size w W->Calls Tryz.prog 70 #[.pointer (some ⟨cb,0,none⟩),.func (.func 71) #[] #[]] W fun e w'=>e=.returned (.int .i64 (lx c.streams))/\Below W.heap.size W w'):=fun W hW=>cbuf_any N cb g c a W (h.below hW) hi hok hg
 have HK:=ab (fun W=>iC c.credit g.c1 W)
 have HI0:Hid (∀W,Below w.heap.size w W->W.heap[w.heap.size]? =some (.cells #[.bool false,.int .i64 0,.int .i64 0,.int .i64 0,.int .i64 0,.int .i64 0] 34 (0,0))->W.cell? ⟨cb,12,none⟩= some (.bool c.proven)/\W.cell? ⟨cb,13,none⟩= some (.int .i64 c.got)/\W.cell? ⟨cb,14,none⟩= some (.int .i64 c.sent)/\W.cell? ⟨cb,18,none⟩= some (.int .i64 c.credit)/\W.cell? ⟨cb,19,none⟩= some (.int .i64 g.c1)/\W.cell? ⟨cb,20,none⟩= some (.int .i64 (c.streams.length:Int))/\W.heap[w.heap.size]? =some (.cells #[.bool false,.int .i64 0,.int .i64 0,.int .i64 0,.int .i64 0,.int .i64 0] 34 (0,0))):=fun W hW hx=>⟨(h.blk.below hW).cell 12,(h.blk.below hW).cell 13,(h.blk.below hW).cell 14,(h.blk.below hW).cell 18,(h.blk.below hW).cell 19,(h.blk.below hW).cell 20,hx⟩
 have hb0:Below w.heap.size w (w.alloc (.cells #[.bool false,.int .i64 0,.int .i64 0,.int .i64 0,.int .i64 0,.int .i64 0] 34)):=ag w _
 have hS0:=HI0.out _ hb0 (heap_alloc_new w _)
 have HB0:=ab hb0
 have HZ0:Hid (w.heap.size<(w.alloc (.cells #[.bool false,.int .i64 0,.int .i64 0,.int .i64 0,.int .i64 0,.int .i64 0] 34)).heap.size):=by show _<_;simp
 unfold pF
 generalize lx c.streams=B at HBu⊢
 generalize hW0:(w.alloc (.cells #[.bool false,.int .i64 0,.int .i64 0,.int .i64 0,.int .i64 0,.int .i64 0] 34))=w0 at *
 have HW0:=ab hW0
 clear h hi hok hg hb0 hW0
 go_enter Tryz.func41,Tryz.ntmps41
 go_wp2_with fail
 rw[HW0.out]
 obtain⟨i12,i13,i14,i18,i19,i20,ix⟩:=id hS0
 have HRs:Hid (∀W:World,Below w0.heap.size w0 W->(W.cell? ⟨w.heap.size,0,none⟩= some (.bool false)/\W.frozen? ⟨w.heap.size,0,none⟩= false/\(W.setCell ⟨w.heap.size,0,none⟩ (.bool c.proven)).cell? ⟨w.heap.size,1,none⟩= some (.int .i64 0)/\(W.setCell ⟨w.heap.size,0,none⟩ (.bool c.proven)).frozen? ⟨w.heap.size,1,none⟩= false/\((W.setCell ⟨w.heap.size,0,none⟩ (.bool c.proven)).setCell ⟨w.heap.size,1,none⟩ (.int .i64 c.got)).cell? ⟨w.heap.size,2,none⟩= some (.int .i64 0)/\((W.setCell ⟨w.heap.size,0,none⟩ (.bool c.proven)).setCell ⟨w.heap.size,1,none⟩ (.int .i64 c.got)).frozen? ⟨w.heap.size,2,none⟩= false/\(((W.setCell ⟨w.heap.size,0,none⟩ (.bool c.proven)).setCell ⟨w.heap.size,1,none⟩ (.int .i64 c.got)).setCell ⟨w.heap.size,2,none⟩ (.int .i64 c.sent)).cell? ⟨w.heap.size,3,none⟩= some (.int .i64 0)/\(((W.setCell ⟨w.heap.size,0,none⟩ (.bool c.proven)).setCell ⟨w.heap.size,1,none⟩ (.int .i64 c.got)).setCell ⟨w.heap.size,2,none⟩ (.int .i64 c.sent)).frozen? ⟨w.heap.size,3,none⟩= false/\((((W.setCell ⟨w.heap.size,0,none⟩ (.bool c.proven)).setCell ⟨w.heap.size,1,none⟩ (.int .i64 c.got)).setCell ⟨w.heap.size,2,none⟩ (.int .i64 c.sent)).setCell ⟨w.heap.size,3,none⟩ (.int .i64 c.credit)).cell? ⟨w.heap.size,4,none⟩= some (.int .i64 0)/\((((W.setCell ⟨w.heap.size,0,none⟩ (.bool c.proven)).setCell ⟨w.heap.size,1,none⟩ (.int .i64 c.got)).setCell ⟨w.heap.size,2,none⟩ (.int .i64 c.sent)).setCell ⟨w.heap.size,3,none⟩ (.int .i64 c.credit)).frozen? ⟨w.heap.size,4,none⟩= false/\(((((W.setCell ⟨w.heap.size,0,none⟩ (.bool c.proven)).setCell ⟨w.heap.size,1,none⟩ (.int .i64 c.got)).setCell ⟨w.heap.size,2,none⟩ (.int .i64 c.sent)).setCell ⟨w.heap.size,3,none⟩ (.int .i64 c.credit)).setCell ⟨w.heap.size,4,none⟩ (.int .i64 (c.streams.length:Int))).cell? ⟨w.heap.size,5,none⟩= some (.int .i64 0)/\(((((W.setCell ⟨w.heap.size,0,none⟩ (.bool c.proven)).setCell ⟨w.heap.size,1,none⟩ (.int .i64 c.got)).setCell ⟨w.heap.size,2,none⟩ (.int .i64 c.sent)).setCell ⟨w.heap.size,3,none⟩ (.int .i64 c.credit)).setCell ⟨w.heap.size,4,none⟩ (.int .i64 (c.streams.length:Int))).frozen? ⟨w.heap.size,5,none⟩= false/\((((((W.setCell ⟨w.heap.size,0,none⟩ (.bool c.proven)).setCell ⟨w.heap.size,1,none⟩ (.int .i64 c.got)).setCell ⟨w.heap.size,2,none⟩ (.int .i64 c.sent)).setCell ⟨w.heap.size,3,none⟩ (.int .i64 c.credit)).setCell ⟨w.heap.size,4,none⟩ (.int .i64 (c.streams.length:Int))).setCell ⟨w.heap.size,5,none⟩ (.int .i64 B)).heap[w.heap.size]? =some (.cells #[.bool c.proven,.int .i64 c.got,.int .i64 c.sent,.int .i64 c.credit,.int .i64 (c.streams.length:Int),.int .i64 B] 34 (0,0)))):=by
  intro W hb
  have x0:=(hb.block w.heap.size HZ0.out).trans ix
  have x1:=al x0 0 (.bool c.proven)
  have x2:=al x1 1 (.int .i64 c.got)
  have x3:=al x2 2 (.int .i64 c.sent)
  have x4:=al x3 3 (.int .i64 c.credit)
  have x5:=al x4 4 (.int .i64 (c.streams.length:Int))
  have x6:=al x5 5 (.int .i64 B)
  refine⟨by simp only[World.cell?,x0];rfl,frozen_of_row _ _ _ _ _ x0,by simp only[World.cell?,x1];rfl,frozen_of_row _ _ _ _ _ x1,by simp only[World.cell?,x2];rfl,frozen_of_row _ _ _ _ _ x2,by simp only[World.cell?,x3];rfl,frozen_of_row _ _ _ _ _ x3,by simp only[World.cell?,x4];rfl,frozen_of_row _ _ _ _ _ x4,by simp only[World.cell?,x5];rfl,frozen_of_row _ _ _ _ _ x5,x6⟩
 have hne:cb≠w.heap.size:=by omega
 have hc6:∀(W:World) (u0 u1 u2 u3 u4 u5:Value) (q:Nat),((((((W.setCell ⟨w.heap.size,0,none⟩ u0).setCell ⟨w.heap.size,1,none⟩ u1).setCell ⟨w.heap.size,2,none⟩ u2).setCell ⟨w.heap.size,3,none⟩ u3).setCell ⟨w.heap.size,4,none⟩ u4).setCell ⟨w.heap.size,5,none⟩ u5).cell? ⟨cb,q,none⟩= W.cell? ⟨cb,q,none⟩:=by
  intro W u0 u1 u2 u3 u4 u5 q
  simp only[World.cell?]
  rw[heap_setCell_other _ _ _ _ hne,heap_setCell_other _ _ _ _ hne,heap_setCell_other _ _ _ _ hne,heap_setCell_other _ _ _ _ hne,heap_setCell_other _ _ _ _ hne,heap_setCell_other _ _ _ _ hne]
 have HKs:Hid (∀(W:World) (u0 u1 u2 u3 u4 u5:Value),(W.cell? ⟨cb,12,none⟩= some (.bool c.proven)/\W.cell? ⟨cb,13,none⟩= some (.int .i64 c.got)/\W.cell? ⟨cb,14,none⟩= some (.int .i64 c.sent)/\W.cell? ⟨cb,18,none⟩= some (.int .i64 c.credit)/\W.cell? ⟨cb,19,none⟩= some (.int .i64 g.c1)/\W.cell? ⟨cb,20,none⟩= some (.int .i64 (c.streams.length:Int)))->(((((((W.setCell ⟨w.heap.size,0,none⟩ u0).setCell ⟨w.heap.size,1,none⟩ u1).setCell ⟨w.heap.size,2,none⟩ u2).setCell ⟨w.heap.size,3,none⟩ u3).setCell ⟨w.heap.size,4,none⟩ u4).setCell ⟨w.heap.size,5,none⟩ u5).cell? ⟨cb,12,none⟩= some (.bool c.proven)/\((((((W.setCell ⟨w.heap.size,0,none⟩ u0).setCell ⟨w.heap.size,1,none⟩ u1).setCell ⟨w.heap.size,2,none⟩ u2).setCell ⟨w.heap.size,3,none⟩ u3).setCell ⟨w.heap.size,4,none⟩ u4).setCell ⟨w.heap.size,5,none⟩ u5).cell? ⟨cb,13,none⟩= some (.int .i64 c.got)/\((((((W.setCell ⟨w.heap.size,0,none⟩ u0).setCell ⟨w.heap.size,1,none⟩ u1).setCell ⟨w.heap.size,2,none⟩ u2).setCell ⟨w.heap.size,3,none⟩ u3).setCell ⟨w.heap.size,4,none⟩ u4).setCell ⟨w.heap.size,5,none⟩ u5).cell? ⟨cb,14,none⟩= some (.int .i64 c.sent)/\((((((W.setCell ⟨w.heap.size,0,none⟩ u0).setCell ⟨w.heap.size,1,none⟩ u1).setCell ⟨w.heap.size,2,none⟩ u2).setCell ⟨w.heap.size,3,none⟩ u3).setCell ⟨w.heap.size,4,none⟩ u4).setCell ⟨w.heap.size,5,none⟩ u5).cell? ⟨cb,18,none⟩= some (.int .i64 c.credit)/\((((((W.setCell ⟨w.heap.size,0,none⟩ u0).setCell ⟨w.heap.size,1,none⟩ u1).setCell ⟨w.heap.size,2,none⟩ u2).setCell ⟨w.heap.size,3,none⟩ u3).setCell ⟨w.heap.size,4,none⟩ u4).setCell ⟨w.heap.size,5,none⟩ u5).cell? ⟨cb,19,none⟩= some (.int .i64 g.c1)/\((((((W.setCell ⟨w.heap.size,0,none⟩ u0).setCell ⟨w.heap.size,1,none⟩ u1).setCell ⟨w.heap.size,2,none⟩ u2).setCell ⟨w.heap.size,3,none⟩ u3).setCell ⟨w.heap.size,4,none⟩ u4).setCell ⟨w.heap.size,5,none⟩ u5).cell? ⟨cb,20,none⟩= some (.int .i64 (c.streams.length:Int)))):=by
  intro W u0 u1 u2 u3 u4 u5 h
  simp only[hc6]
  exact h
 clear hc6
 have HK1:Hid (∀W W':World,Below W.heap.size W W'->(W.cell? ⟨cb,12,none⟩= some (.bool c.proven)/\W.cell? ⟨cb,13,none⟩= some (.int .i64 c.got)/\W.cell? ⟨cb,14,none⟩= some (.int .i64 c.sent)/\W.cell? ⟨cb,18,none⟩= some (.int .i64 c.credit)/\W.cell? ⟨cb,19,none⟩= some (.int .i64 g.c1)/\W.cell? ⟨cb,20,none⟩= some (.int .i64 (c.streams.length:Int)))->(W'.cell? ⟨cb,12,none⟩= some (.bool c.proven)/\W'.cell? ⟨cb,13,none⟩= some (.int .i64 c.got)/\W'.cell? ⟨cb,14,none⟩= some (.int .i64 c.sent)/\W'.cell? ⟨cb,18,none⟩= some (.int .i64 c.credit)/\W'.cell? ⟨cb,19,none⟩= some (.int .i64 g.c1)/\W'.cell? ⟨cb,20,none⟩= some (.int .i64 (c.streams.length:Int)))):=fun W W' hb h=>⟨ae h.1 hb,ae h.2.1 hb,ae h.2.2.1 hb,ae h.2.2.2.1 hb,ae h.2.2.2.2.1 hb,ae h.2.2.2.2.2 hb⟩
 have hSd:w0.drew.cell? ⟨cb,12,none⟩= some (.bool c.proven)/\w0.drew.cell? ⟨cb,13,none⟩= some (.int .i64 c.got)/\w0.drew.cell? ⟨cb,14,none⟩= some (.int .i64 c.sent)/\w0.drew.cell? ⟨cb,18,none⟩= some (.int .i64 c.credit)/\w0.drew.cell? ⟨cb,19,none⟩= some (.int .i64 g.c1)/\w0.drew.cell? ⟨cb,20,none⟩= some (.int .i64 (c.streams.length:Int)):=⟨i12,i13,i14,i18,i19,i20⟩
 go_region_held3 (fun w'=>w'.cell? ⟨cb,12,none⟩= some (.bool c.proven)/\w'.cell? ⟨cb,13,none⟩= some (.int .i64 c.got)/\w'.cell? ⟨cb,14,none⟩= some (.int .i64 c.sent)/\w'.cell? ⟨cb,18,none⟩= some (.int .i64 c.credit)/\w'.cell? ⟨cb,19,none⟩= some (.int .i64 g.c1)/\w'.cell? ⟨cb,20,none⟩= some (.int .i64 (c.streams.length:Int))) (first|with_reducible assumption|with_reducible exact HKs.out _ _ _ _ _ _ _ (by with_reducible assumption)) (first
  |(go_at_call 69;refine(HK.out _).mono ?_;rintro e w1 ⟨rfl,hb1⟩;have hS1:=HK1.out _ _ hb1 (by first|assumption|exact⟨i12,i13,i14,i18,i19,i20⟩))
  |(go_at_call 70;refine(HBu.out w1 (ai (ak HB0.out 1) hb1)).mono ?_;rintro e w2 ⟨rfl,hb2⟩;have hS2:=HK1.out _ _ hb2 (by first|assumption|exact⟨i12,i13,i14,i18,i19,i20⟩))
  |(refine upon_id ?_;obtain⟨e0,f0,e1,f1,e2,f2,e3,f3,e4,f4,e5,f5,hfin⟩:=HRs.out w2 (ai (aq hb1) hb2);simp only[e0,f0,e1,f1,e2,f2,e3,f3,e4,f4,e5,f5,Result.andThen_ok,Bool.false_eq_true,if_false];refine upon_skip ?_))
 have HB2:=ab (ai (ai HB0.out (aq hb1)) hb2)
 have HFn:=ab hfin
 clear hfin e0 f0 e1 f1 e2 f2 e3 f3 e4 f4 e5 f5 hS1 hS2 hb1 hb2 HKs HRs HK1 HBu HK hSd hS0 i12 i13 i14 i18 i19 i20
 go_wp2_with fail
 refine bodyPost_ret (results_cell_row (P:=Tryz.prog) Tryz.results41 _ _ w.heap.size 34 #[.bool c.proven,.int .i64 c.got,.int .i64 c.sent,.int .i64 c.credit,.int .i64 (c.streams.length:Int),.int .i64 B] (0,0) _ rfl HFn.out Tryz.underlying34 rfl (by kernel_rfl)) rfl ?_
 exact⟨rfl,((((((HB2.out.setCell (Nat.le_refl _) _).setCell (Nat.le_refl _) _).setCell (Nat.le_refl _) _).setCell (Nat.le_refl _) _).setCell (Nat.le_refl _) _).setCell (Nat.le_refl _) _)⟩
theorem lT{α:Type}{gaps piece:Int}{l:List aR}{sl:List (Int×α)}(hi:∀x∈l,StrInv gaps x)(h:MapS piece l sl):readAll l=bm l+bE (atS (·.read) l) sl:=by
 have h1:=su (fun x=>if x.done then 0 else x.read) (fun x _ hd=>by simp[hd]) (by simp[aU]) h
 have h2:bE (atS (fun x=>if x.done then 0 else x.read) l) sl=bE (atS (·.read) l) sl:=by
  unfold bE
  congr 1
  refine List.map_congr_left fun p hp=>?_
  obtain⟨_,x,hx,hd⟩:=h.str p hp
  simp[atS,hx,hd]
 rw[<-h2,<-h1]
 unfold readAll bm
 rw[l6,<-sum_add]
 congr 1
 refine List.map_congr_left fun x hx=>?_
 have hx1:=hi x hx
 unfold eZ
 cases hd:x.done with
 |false=>simp
 |true=>
  cases hr:x.reset with
  |true=>simp
  |false=>
   have:=(hx1.dn hd).2.2 hr
   simp[this]
theorem csumR_any(cb sm n:Nat)(sl:List (Int×Nat))(hi:Int->Int)(w:World)(hc:w.cell? ⟨cb,21,none⟩= some (.map (some sm)))(hm:MapIs ez Tryz.prog 3 w sm n sl)(hs:∀p∈sl,w.cell? ⟨p.2,1,none⟩= some (.int .i64 (hi p.1)))(hr:∀p∈sl,0<=hi p.1/\hi p.1<=1073741823)(hl:sl.length<=1073741823):
  Calls Tryz.prog 70 #[.pointer (some ⟨cb,0,none⟩),.func (.func 134) #[] #[]] w fun e w'=>e=.returned (.int .i64 (bE hi sl))/\Below w.heap.size w w':=by
 have hS:bE hi sl<=1152921504606846976:=by
  have:=na (B:=1073741823) fun p hp=>(hr p hp).2
  omega
 have HM:=ab hm
 have HS:=ab hs
 have HR:=ab hr
 clear hm hs hr
 go_enter Tryz.func70,Tryz.ntmps70
 go_wp2_with (first
  |(at_range;refine gK _ rfl _ 134 rfl 140 Tryz.underlying3 Tryz.underlying134 sm n sl rfl HM.out ?_;intro w0 hrg0 hg0 hs0))
 have hb0:Below w.heap.size w w0:=fU hg0
 have H0:=ab (And.intro hrg0 hb0)
 clear hrg0 hg0 hs0 hb0 hc
 go_frame
 go_loopw [5] (fun s wr=>∃(rest:List (Int×Nat)) (cnt:Nat),RangeIs ez Tryz.prog 3 wr sm w.heap.size n sl rest cnt/\s=.int .i64 (bE hi sl-bE hi rest)/\Hid (∀p∈rest,p∈sl)/\Hid (bE hi rest<=bE hi sl)/\Below w.heap.size w wr) (fun _ wr=>wr.rangeLeft sm w.heap.size)
 case atStart=>exact⟨sl,_,H0.out.1,by rw[Int.sub_self],fun p hp=>hp,ab (Int.le_refl _),H0.out.2⟩
 case round=>
  obtain⟨rest,cnt,hrg,rfl,hsub,hsm,hbw⟩:=hrel
  have HBw:=ab hbw
  have HRg:=ab hrg
  clear hbw
  go_wp2_with (first
   |(at_next;refine ik _ rfl _ rfl Tryz.underlying3 sm w.heap.size n sl rest cnt rfl hrg ?_ ?_))
  ·intro hnil
   subst hnil
   go_wp2_with fail
   go_ret
   exact⟨by simp[bE],HBw.out⟩
  ·intro k y r1 r2 w1 cnt1 hre hwk hat hrg1 hlt hg1 hs1 hen
   have hky:(k,y)∈sl:=hsub.out _ (by rw[hre];simp)
   have hb1:Below w.heap.size w w1:=HBw.out.grown hg1 HBw.out.size (fun g hg=>by cases hg;exact Nat.le_refl _)
   have hcell:w1.cell? ⟨y,1,none⟩= some (.int .i64 (hi k)):=ae (HS.out (k,y) hky) hb1
   have hmid:=qf (f:=hi) r1 r2 k y
   rw[<-hre]at hmid
   have hn1:0<=bE hi (r1++r2):=dZ fun p hp=>(HR.out p (hsub.out p (by rw[hre];simp at hp⊢;rcases hp with h|h<;>simp[h]))).1
   have hsb:Hid (∀p∈r1++r2,p∈sl):=fun p hp=>hsub.out p (by rw[hre];simp at hp⊢;rcases hp with h|h<;>simp[h])
   have hk:0<=hi k/\hi k<=1073741823:=HR.out (k,y) hky
   obtain⟨hk0,hk1⟩:=hk
   have hn2:=hsm.out
   have hw:IntKind.i64.wrap (bE hi sl-bE hi rest+hi k)=bE hi sl-bE hi (r1++r2):=by
    rw[IntKind.wrap_i64]
    omega
   have HM2:=ab hmid
   have HE:=ab (qg y (hi k) w1 hcell)
   have H1:=ab (And.intro hrg1 (And.intro hb1 (And.intro hlt hsb)))
   have HN:=ab (show bE hi (r1++r2)<=bE hi sl from by omega)
   generalize bE hi rest=Sr at hw HM2⊢
   clear hmid hn1 hb1 hcell hky hrg1 hlt hsb hn2 hg1 hs1 hat
   go_wp2_with fail
   refine HE.out.mono ?_
   rintro e w2 ⟨rfl,rfl⟩
   clear HE
   go_wp2_with fail
   go_roundw
   case rel=>exact⟨r1++r2,cnt1,H1.out.1,rfl,H1.out.2.2.2,HN,H1.out.2.1⟩
   case measure=>
    have h1:=H1.out.1.left_eq
    have h2:=HRg.out.left_eq
    have h3:=H1.out.2.2.1
    rw[h1,h2]
    exact h3
theorem o6(cb sm n:Nat)(sl:List (Int×Nat))(hi:Int->Int)(past:Int)(w:World)(hc:w.cell? ⟨cb,21,none⟩= some (.map (some sm)))(hp:w.cell? ⟨cb,23,none⟩= some (.int .i64 past))(hm:MapIs ez Tryz.prog 3 w sm n sl)(hs:∀p∈sl,w.cell? ⟨p.2,1,none⟩= some (.int .i64 (hi p.1)))(hr:∀p∈sl,0<=hi p.1/\hi p.1<=1073741823)(hl:sl.length<=1073741823)(hpr:0<=past/\past<=1152921504606846976):
  Calls Tryz.prog 81 #[.pointer (some ⟨cb,0,none⟩)] w fun e w'=>e=.returned (.int .i64 (past+bE hi sl))/\Below w.heap.size w w':=by
 have h1:0<=bE hi sl:=dZ fun p hp=>(hr p hp).1
 have h2:bE hi sl<=1152921504606846976:=by
  have:=na (B:=1073741823) fun p hp=>(hr p hp).2
  omega
 have HS:=ab (fun W (hW:Below w.heap.size w W)=>csumR_any cb sm n sl hi W (ae hc hW) (hm.same (hW.block sm hm.lt)) (fun p hp=>ae (hs p hp) hW) hr hl)
 have hw:IntKind.i64.wrap (past+bE hi sl)=past+bE hi sl:=by rw[IntKind.wrap_i64];omega
 generalize bE hi sl=S at HS hw⊢
 clear hc hm hs hr hl hpr h1 h2
 go_enter Tryz.func81,Tryz.ntmps81
 go_wp2_with fail
 go_region_held3 (fun w'=>w'.cell? ⟨cb,23,none⟩= some (.int .i64 past)) (first|assumption|go_keep) (first
  |(go_at_call 70;refine(HS.out _ (ak (Below.refl _ w) 1)).mono ?_;rintro e w1 ⟨rfl,hb1⟩;have k23:=ae hp (aq hb1)))
 have HB:=ab (aq hb1)
 clear hb1 HS k23
 go_wp2_with fail
 go_ret
 exact⟨rfl,HB.out⟩
end Go.Proofs.YthmdjhlhodpbhaaGreatDoor
