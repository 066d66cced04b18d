/- InOrder, 27 -/
import Derived.BigQuiet
import Derived.Test.YthmdjhlhodpbhaaGreatDoorI26
set_option maxHeartbeats 16000000
set_option maxRecDepth 8000
namespace Go.Proofs.YthmdjhlhodpbhaaGreatDoor
open Go.RowKit
theorem fresh_opened(s:ax)(cid addr size:Int)(ok:Bool):{bn s.c cid addr ok with got:=(bn s.c cid addr ok).got+size,heard:=s.now}=bA s cid addr size ok:=by
 simp[bn,bA,fo]
theorem run_mput{α:Type}{C:MCode α}{P:Program}{K t e:TypeId}(hK:P.underlying K=some (.int .i64))(ht:P.underlying t=some (.map K e)){w:World}{b n:Nat}{l:List (Int×α)}(h:MapIs C P K w b n l)(hn:n<maxLen){k:Int}(hk:(Lit.int .i64 k).wf=true){y:α}(hno:atK l k=none):
  ∃w',(Instr.mapUpdate t (.map (some b)) (.int .i64 k) (C.V y)).run P w=.ok () w'/\MapIs C P K w' b (n+1) (l++[(k,y)])/\w.grownBy w' (some b):=by
 obtain⟨D,hown,ok⟩:=h
 obtain⟨w',hr,h1,h2⟩:=hown.store (Maps.int_keyed hK) ht hn (Maps.keyOf_int_mk hK hk) (C.val y)
 exact⟨w',hr,⟨_,h1,ok.put (hown.tidy (Maps.int_keyed hK)) y hno⟩,h2.grown⟩
theorem freshX_new{cb sm dm B:Nat}(h1:B<=cb)(h2:B<=sm)(h3:B<=dm):∀k,bg cb (bQ sm dm) k->B<=k:=by
 rintro k (e|e|e|e|⟨p,hp,_⟩)
 ·omega
 ·simp[bQ,Value.ownBlock]at e
 ·simp only[bQ]at e;omega
 ·simp only[bQ]at e;omega
 ·simp[bQ]at hp
theorem sopen_free(N:Nat)(sb:Nat)(s:ax)(cm:Nat)(wv:Value)(cbs:List Nat)(xs:List aH)(ws:List Nat)(addr size:Int)(d:DgS)(tv fv:Value)(ok:Bool)(b:List Int)(nn:Nat)(w:World)(h:PSrv N w sb s cm wv cbs xs ws){M L:Int}(hI:SrvInv M L s)(hov:∃ta tl tc,tv=.slice ta tl tc)(hfull:fz s=false)(hno:d.cid∉s.conns.map (·.cid))(hcid:0<=d.cid/\d.cid<=1073741823)(hadr:0<=addr/\addr<256)(hsz:0<=size/\size<=1125899906842624)(hM0:0<=M)(hM:M+size+100<=1125899906842624)
  (hbv:RdB w fv b) (hby:Bytes b) (hl:b.length<=1073741823) (hn:b.length<=nn) (hN:N+1+b.length<1125899906842624) (hE:∀W,Chg (cq sb cm wv cbs xs) w W->Env W):
  Calls Tryz.prog 91 #[.pointer (some ⟨sb,0,none⟩),.int .i64 addr,.agg (dgC d size tv fv),.bool ok] w fun e w'=>SOut (N+1+b.length) w sb cm wv cbs xs (cU (dY s d.cid addr size ok) s.conns.length b (openO s d.cid addr size ok) nn) e w':=by
 obtain⟨t1,t2,t3,rfl⟩:=hov
 obtain⟨_,_,f1,f3,rfl,_⟩:=id hbv
 generalize hf2:b.length=f2 at *
 have hcf:=hI.cfg
 have h0:=hcf.c0
 have h1:=hcf.c1
 have h3:=hcf.c3
 have h8:=hcf.c8
 have hfew:=hI.few
 obtain⟨n,hnN,hm⟩:=h.map
 have hL:((s.conns.map (·.cid)).zip cbs).length=s.conns.length:=by simp[h.len1]
 have hmL:=hm.le
 rw[hL]at hmL
 have HMe:Hid (∀W,Below w.heap.size w W->Calls Tryz.prog 28 #[.pointer (some ⟨sb,0,none⟩)] W fun e w'=>e=.returned (.int .i64 (memS s))/\∃n,w'=W.drewN n):=by
  intro W hb
  have h2:=sMemory_any sb s.c s.now cm wv n _ W (h.blk.below hb) (hm.same (hb.block cm hm.lt)) (by omega) (by omega) (by omega)
  rw[hL]at h2
  exact h2
 have HCo:Hid (∀W,Below w.heap.size w W->Calls Tryz.prog 55 #[.pointer (some ⟨sb,0,none⟩)] W fun e w'=>e=.returned (.int .i64 (dS s.c))/\∃n,w'=W.drewN n):=by
  intro W hb
  exact scost_any sb s.c s.now cm wv W (h.blk.below hb) (by omega) (by omega)
 have hcr:0<=dS s.c/\dS s.c<=5000:=by unfold dS;omega
 have hmr:0<=memS s/\memS s<=5000000:=by
  unfold memS
  have hl:(s.conns.length:Int)<=1000:=by omega
  constructor
  ·exact Int.mul_nonneg (by omega) hcr.1
  ·exact Int.le_trans (Int.mul_le_mul hl hcr.2 hcr.1 (by omega)) (by decide)
 have hba:Below w.heap.size w (w.alloc (.cells #[.int .i64 d.kind,.int .i64 size,.int .i64 d.cid,.slice t1 t2 t3,.int .i64 d.num,.slice f1 f2 f3] 107)):=af w _
 have hS0:=h.blk.below hba
 have klen:∀(q:Nat) (ty:TypeId),(Builtin.len_ #[98] ty #[.map (some cm)]).run Tryz.prog ((w.alloc (.cells #[.int .i64 d.kind,.int .i64 size,.int .i64 d.cid,.slice t1 t2 t3,.int .i64 d.num,.slice f1 f2 f3] 107)).drewN q)=.ok (.int .i64 s.conns.length) ((w.alloc (.cells #[.int .i64 d.kind,.int .i64 size,.int .i64 d.cid,.slice t1 t2 t3,.int .i64 d.num,.slice f1 f2 f3] 107)).drewN q):=by
  intro q ty
  have h2:=run_mlen (e:=97) Tryz.underlying98 (hm.same ((aj hba q).block cm hm.lt)) ty
  rw[hL]at h2
  exact h2
 have hd:decide (s.c.c0<=(s.conns.length:Int))=false:=by
  unfold fz at hfull
  simp at hfull
  exact decide_eq_false (by omega)
 have hmm:¬s.c.c8<memS s+dS s.c:=by
  unfold fz at hfull
  simp at hfull
  omega
 have HBx:Hid ((w.alloc (.cells #[.int .i64 d.kind,.int .i64 size,.int .i64 d.cid,.slice t1 t2 t3,.int .i64 d.num,.slice f1 f2 f3] 107)).heap[w.heap.size]? =some (.cells #[.int .i64 d.kind,.int .i64 size,.int .i64 d.cid,.slice t1 t2 t3,.int .i64 d.num,.slice f1 f2 f3] 107 (0,0))):=heap_alloc_new w _
 have HZ:Hid (w.heap.size<(w.alloc (.cells #[.int .i64 d.kind,.int .i64 size,.int .i64 d.cid,.slice t1 t2 t3,.int .i64 d.num,.slice f1 f2 f3] 107)).heap.size):=by show _<_;simp
 have k0:(w.alloc (.cells #[.int .i64 d.kind,.int .i64 size,.int .i64 d.cid,.slice t1 t2 t3,.int .i64 d.num,.slice f1 f2 f3] 107)).cell? ⟨sb,0,none⟩= some (.int .i64 s.c.c0):=hS0.cell 0
 have k1:(w.alloc (.cells #[.int .i64 d.kind,.int .i64 size,.int .i64 d.cid,.slice t1 t2 t3,.int .i64 d.num,.slice f1 f2 f3] 107)).cell? ⟨sb,1,none⟩= some (.int .i64 s.c.c1):=hS0.cell 1
 have k2:(w.alloc (.cells #[.int .i64 d.kind,.int .i64 size,.int .i64 d.cid,.slice t1 t2 t3,.int .i64 d.num,.slice f1 f2 f3] 107)).cell? ⟨sb,2,none⟩= some (.int .i64 s.c.c2):=hS0.cell 2
 have k3:(w.alloc (.cells #[.int .i64 d.kind,.int .i64 size,.int .i64 d.cid,.slice t1 t2 t3,.int .i64 d.num,.slice f1 f2 f3] 107)).cell? ⟨sb,3,none⟩= some (.int .i64 s.c.c3):=hS0.cell 3
 have k4:(w.alloc (.cells #[.int .i64 d.kind,.int .i64 size,.int .i64 d.cid,.slice t1 t2 t3,.int .i64 d.num,.slice f1 f2 f3] 107)).cell? ⟨sb,4,none⟩= some (.int .i64 s.c.c4):=hS0.cell 4
 have k5:(w.alloc (.cells #[.int .i64 d.kind,.int .i64 size,.int .i64 d.cid,.slice t1 t2 t3,.int .i64 d.num,.slice f1 f2 f3] 107)).cell? ⟨sb,5,none⟩= some (.int .i64 s.c.c5):=hS0.cell 5
 have k6:(w.alloc (.cells #[.int .i64 d.kind,.int .i64 size,.int .i64 d.cid,.slice t1 t2 t3,.int .i64 d.num,.slice f1 f2 f3] 107)).cell? ⟨sb,6,none⟩= some (.int .i64 s.c.c6):=hS0.cell 6
 have k7:(w.alloc (.cells #[.int .i64 d.kind,.int .i64 size,.int .i64 d.cid,.slice t1 t2 t3,.int .i64 d.num,.slice f1 f2 f3] 107)).cell? ⟨sb,7,none⟩= some (.int .i64 s.c.c7):=hS0.cell 7
 have k8:(w.alloc (.cells #[.int .i64 d.kind,.int .i64 size,.int .i64 d.cid,.slice t1 t2 t3,.int .i64 d.num,.slice f1 f2 f3] 107)).cell? ⟨sb,8,none⟩= some (.int .i64 s.c.c8):=hS0.cell 8
 have k9:(w.alloc (.cells #[.int .i64 d.kind,.int .i64 size,.int .i64 d.cid,.slice t1 t2 t3,.int .i64 d.num,.slice f1 f2 f3] 107)).cell? ⟨sb,9,none⟩= some (.int .i64 s.c.c9):=hS0.cell 9
 have k10:(w.alloc (.cells #[.int .i64 d.kind,.int .i64 size,.int .i64 d.cid,.slice t1 t2 t3,.int .i64 d.num,.slice f1 f2 f3] 107)).cell? ⟨sb,10,none⟩= some (.int .i64 s.now):=hS0.cell 10
 have k11:(w.alloc (.cells #[.int .i64 d.kind,.int .i64 size,.int .i64 d.cid,.slice t1 t2 t3,.int .i64 d.num,.slice f1 f2 f3] 107)).cell? ⟨sb,11,none⟩= some (.map (some cm)):=hS0.cell 11
 have b2:(w.alloc (.cells #[.int .i64 d.kind,.int .i64 size,.int .i64 d.cid,.slice t1 t2 t3,.int .i64 d.num,.slice f1 f2 f3] 107)).cell? ⟨w.heap.size,2,none⟩= some (.int .i64 d.cid):=by simp
 have HA:Hid (∀W W':World,Below W.heap.size W W'->(W.cell? ⟨sb,0,none⟩= some (.int .i64 s.c.c0)/\W.cell? ⟨sb,1,none⟩= some (.int .i64 s.c.c1)/\W.cell? ⟨sb,2,none⟩= some (.int .i64 s.c.c2)/\W.cell? ⟨sb,3,none⟩= some (.int .i64 s.c.c3)/\W.cell? ⟨sb,4,none⟩= some (.int .i64 s.c.c4)/\W.cell? ⟨sb,5,none⟩= some (.int .i64 s.c.c5)/\W.cell? ⟨sb,6,none⟩= some (.int .i64 s.c.c6)/\W.cell? ⟨sb,7,none⟩= some (.int .i64 s.c.c7)/\W.cell? ⟨sb,8,none⟩= some (.int .i64 s.c.c8)/\W.cell? ⟨sb,9,none⟩= some (.int .i64 s.c.c9)/\W.cell? ⟨w.heap.size,2,none⟩= some (.int .i64 d.cid))->(W'.cell? ⟨sb,0,none⟩= some (.int .i64 s.c.c0)/\W'.cell? ⟨sb,1,none⟩= some (.int .i64 s.c.c1)/\W'.cell? ⟨sb,2,none⟩= some (.int .i64 s.c.c2)/\W'.cell? ⟨sb,3,none⟩= some (.int .i64 s.c.c3)/\W'.cell? ⟨sb,4,none⟩= some (.int .i64 s.c.c4)/\W'.cell? ⟨sb,5,none⟩= some (.int .i64 s.c.c5)/\W'.cell? ⟨sb,6,none⟩= some (.int .i64 s.c.c6)/\W'.cell? ⟨sb,7,none⟩= some (.int .i64 s.c.c7)/\W'.cell? ⟨sb,8,none⟩= some (.int .i64 s.c.c8)/\W'.cell? ⟨sb,9,none⟩= some (.int .i64 s.c.c9)/\W'.cell? ⟨w.heap.size,2,none⟩= some (.int .i64 d.cid))):=fun W W' hb h=>⟨ae h.1 hb,ae h.2.1 hb,ae h.2.2.1 hb,ae h.2.2.2.1 hb,ae h.2.2.2.2.1 hb,ae h.2.2.2.2.2.1 hb,ae h.2.2.2.2.2.2.1 hb,ae h.2.2.2.2.2.2.2.1 hb,ae h.2.2.2.2.2.2.2.2.1 hb,ae h.2.2.2.2.2.2.2.2.2.1 hb,ae h.2.2.2.2.2.2.2.2.2.2 hb⟩
 have HNw:=ab (fun W=>cNew_any s.c d.cid addr ok W (by omega))
 have HWf:=ab (wf_key (k:=d.cid) (by omega))
 have HNo:Hid (atK ((s.conns.map (·.cid)).zip cbs) d.cid=none):=by
  refine atK_none.2 ?_
  rw[List.map_fst_zip (by simp[h.len1])]
  exact hno
 have HH:=ab h
 have HI:=ab hI
 have HMp:=ab hm
 have hMa:n<maxLen:=by unfold maxLen;omega
 obtain⟨cst,hcst⟩:∃x,dS s.c=x:=⟨_,rfl⟩
 obtain⟨mem,hmem⟩:∃x,memS s=x:=⟨_,rfl⟩
 rw[hcst]at HCo hcr hmm
 rw[hmem]at HMe hmr hmm
 obtain⟨hcr1,hcr2⟩:=hcr
 obtain⟨hmr1,hmr2⟩:=hmr
 have HBa:=ab hba
 have HBv:=ab hbv
 have HBy:=ab hby
 have HEv:=ab hE
 have HN:=ab hno
 have HF:=ab hfull
 unfold dgC cfgVal at *
 clear h hI hcf hS0 hba hcst hmem hfull hm hL hbv hby hE hno
 generalize hW0:(w.alloc (.cells #[.int .i64 d.kind,.int .i64 size,.int .i64 d.cid,.slice t1 t2 t3,.int .i64 d.num,.slice f1 f2 f3] 107))=w0 at *
 have HW0:=ab hW0
 clear hW0
 go_enter Tryz.func91,Tryz.ntmps91
 go_wp2_with fail
 rw[HW0.out]
 go_quiet (first
  |(go_at_call 28;exact Calls.quiet_of (HMe.out _ (aj HBa.out _)))
  |(go_at_call 55;exact Calls.quiet_of (HCo.out _ (aj HBa.out _))))
 have hB1:=aj HBa.out nq
 have hB01:Below w0.heap.size w0 (w0.drewN nq):=aj (Below.refl _ _) _
 generalize w0.drewN nq=w1 at hB1 hB01⊢
 replace k0:=ae k0 hB01
 replace k1:=ae k1 hB01
 replace k2:=ae k2 hB01
 replace k3:=ae k3 hB01
 replace k4:=ae k4 hB01
 replace k5:=ae k5 hB01
 replace k6:=ae k6 hB01
 replace k7:=ae k7 hB01
 replace k8:=ae k8 hB01
 replace k9:=ae k9 hB01
 replace k10:=ae k10 hB01
 replace k11:=ae k11 hB01
 replace b2:=ae b2 hB01
 replace HBx:=ab ((hB01.block w.heap.size HZ.out).trans HBx.out)
 replace HZ:=ab (Nat.lt_of_lt_of_le HZ.out hB01.size)
 have HB1:=ab hB1
 clear hB1 hB01 HMe HCo klen HW0 HBa
 go_wp2_with fail
 go_region_held3 (fun w'=>w'.cell? ⟨sb,0,none⟩= some (.int .i64 s.c.c0)/\w'.cell? ⟨sb,1,none⟩= some (.int .i64 s.c.c1)/\w'.cell? ⟨sb,2,none⟩= some (.int .i64 s.c.c2)/\w'.cell? ⟨sb,3,none⟩= some (.int .i64 s.c.c3)/\w'.cell? ⟨sb,4,none⟩= some (.int .i64 s.c.c4)/\w'.cell? ⟨sb,5,none⟩= some (.int .i64 s.c.c5)/\w'.cell? ⟨sb,6,none⟩= some (.int .i64 s.c.c6)/\w'.cell? ⟨sb,7,none⟩= some (.int .i64 s.c.c7)/\w'.cell? ⟨sb,8,none⟩= some (.int .i64 s.c.c8)/\w'.cell? ⟨sb,9,none⟩= some (.int .i64 s.c.c9)/\w'.cell? ⟨w.heap.size,2,none⟩= some (.int .i64 d.cid)) (first|assumption|exact HA.out _ _ (af _ _) (by assumption)|go_keep) (first
  |(go_at_call 145;refine(HNw.out _).mono ?_;rintro e w2 ⟨⟨cb,sm,dm,rfl,hA2,hz1,hz2,hz3⟩,hb2⟩;have hSq:=HA.out _ _ hb2 (by assumption)))
 have hB2:=ag HB1.out (al hb2)
 have hB12:=al hb2
 have e11:=ae k11 hB12
 have e2:=ae b2 hB12
 have HBx2:=ab ((hB12.block w.heap.size HZ.out).trans HBx.out)
 have hlt0:w.heap.size<w1.heap.size:=HZ.out
 have hz:w.heap.size<cb/\w.heap.size<sm/\w.heap.size<dm:=by
  have e:w1.drew.heap.size=w1.heap.size:=rfl
  omega
 have HStA:Hid (∀w3:World,MapIs ej Tryz.prog 3 w3 cm (n+1) ((s.conns.map (·.cid)).zip cbs++[(d.cid,cb)])->w2.drew.grownBy w3 (some cm)->PSrv (N+1) w3 sb {s with conns:=s.conns++[bn s.c d.cid addr ok]} cm wv (cbs++[cb]) (xs++[bQ sm dm]) ws/\Chg (cq sb cm wv cbs xs) w w3/\w3.heap[w.heap.size]? =w2.heap[w.heap.size]?/\w2.heap.size<=w3.heap.size):=by
  intro w3 hm3 hg3
  have hg3':w2.grownBy w3 (some cm):=⟨hg3.os,hg3.tape,hg3.output,hg3.size,fun k hk hne=>hg3.block k hk hne⟩
  have hlt:=HMp.out.lt
  refine⟨HH.out.snoc hB2 hA2 (fun k hk=>freshX_new (Nat.le_of_lt hz.1) (Nat.le_of_lt hz.2.1) (Nat.le_of_lt hz.2.2) k hk) (Int.le_refl _) (by omega) hm3 hg3',?_,?_,hg3'.size⟩
  ·exact fU (Chg.of_below hB2) (⟨hg3'.os,hg3'.tape,hg3'.output,hg3'.size,fun k hk hne=>hg3'.block k hk (fun e=>hne (Option.some.inj e))⟩:Chg (fun k=>k=cm) w2 w3) (fun k hk=>Or.inl (Or.inr (Or.inl hk)))
  ·exact hg3'.block _ (Nat.lt_of_lt_of_le hlt0 hB12.size) (fun e=>by have:=Option.some.inj e;omega)
 have HM2:Hid (MapIs ej Tryz.prog 3 w2.drew cm n ((s.conns.map (·.cid)).zip cbs)):=HMp.out.same (hB2.block cm HMp.out.lt)
 have hw2z:w.heap.size<w2.heap.size:=Nat.lt_of_lt_of_le hlt0 hB12.size
 have HZ2:=ab hw2z
 have HZc:=ab hz
 clear hSq hb2 hA2 hz1 hz2 hz3 hB2 hB12 hz hlt0 hw2z k0 k1 k2 k3 k4 k5 k6 k7 k8 k9 k10 k11 b2 HA HNw HBx HZ HB1 HMp hd hmm hcr1 hcr2 hmr1 hmr2 h0 h1 h3 h8 hmL hfew hnN
 go_wp2_with fail
 obtain⟨w3,hput,hm3,hg3⟩:=run_mput (C:=ej) (e:=97) Tryz.underlying3 Tryz.underlying98 HM2.out hMa HWf.out (y:=cb) HNo.out
 replace hput:(Instr.mapUpdate 98 (.map (some cm)) (.int .i64 d.cid) (.pointer (some ⟨cb,0,none⟩))).run Tryz.prog w2.drew=.ok () w3:=hput
 go_region
 obtain⟨hP3,hc3,hx3,hz3⟩:=HStA.out w3 hm3 hg3
 have hl1:=HH.out.len1
 have hl2:=HH.out.len2
 have g0:(s.conns++[bn s.c d.cid addr ok])[s.conns.length]? =some (bn s.c d.cid addr ok):=eW _ _
 have g1:(cbs++[cb])[s.conns.length]? =some cb:=by rw[<-hl1];exact eW _ _
 have g2:(xs++[bQ sm dm])[s.conns.length]? =some (bQ sm dm):=by rw[<-hl2];exact eW _ _
 have hblk3:ConBlk w3 cb s.c (bn s.c d.cid addr ok) (.slice none 0 0) sm dm (bk (bn s.c d.cid addr ok).streams):=(hP3.con s.conns.length _ cb _ g0 g1 g2).blk
 have hnewX:=freshX_new (B:=w.heap.size) (Nat.le_of_lt HZc.out.1) (Nat.le_of_lt HZc.out.2.1) (Nat.le_of_lt HZc.out.2.2)
 have hsbc:sb≠cb:=by
  have h1:=HH.out.blk.lt
  have h2:=HZc.out.1
  omega
 have hbx3:=hx3.trans HBx2.out
 have hw3z:w.heap.size<w3.heap.size:=Nat.lt_of_lt_of_le HZ2.out hz3
 have HDeal:Hid (∀(w7:World) (wv7:Value) (ws7:List Nat) (v1:Value) (b1:Nat),PSrv (N+1) w7 sb (dY s d.cid addr size ok) cm wv7 (cbs++[cb]) (xs++[bQ sm dm]) ws7->Chg (cq sb cm wv cbs xs) w w7->(wv7.ownBlock=wv.ownBlock\/∀k,wv7.ownBlock=some k->w.heap.size<=k)->OutsAt w7 b1 v1 (openO s d.cid addr size ok)->w.heap.size<=b1->b1<=w7.heap.size->
   Calls Tryz.prog 98 #[.pointer (some ⟨sb,0,none⟩),.pointer (some ⟨cb,0,none⟩),.slice f1 f2 f3] w7 fun e w8=>∃v2,e=.returned v2/\(∃ao l c,v2=.slice ao l c)/\∀ty,∃v' w9,(Builtin.append_ #[47,47] ty #[v1,v2]).run Tryz.prog w8=.ok v' w9/\(∃ao l c,v'=.slice ao l c)/\SOut (N+1+f2) w sb cm wv cbs xs (cU (dY s d.cid addr size ok) s.conns.length b (openO s d.cid addr size ok) nn) (.returned v') w9):=by
  intro w7 wv7 ws7 v1 b1 hP7 hc7 hat7 ho7 hb1 hb2
  obtain⟨c7,hc7i⟩:=openMid_at s d.cid addr size ok
  have hI7:=openMid_inv (ok:=ok) HI.out hcid hadr hsz.1 hM0 HN.out (by rw[HF.out];simp)
  subst hf2
  have hu7:∀k,SrvU (xs++[bQ sm dm]) k->SrvU xs k:=by
   rintro k ⟨a,ha,hk⟩
   rcases List.mem_append.1 ha with h1|h1
   ·exact⟨a,h1,hk⟩
   ·rw[List.mem_singleton.1 h1]at hk
    exact hk.elim
  refine open_D HH.out hu7 hP7 hc7i g1 g2 hI7 hM (HBv.out.chg hc7 (fun k cur fr hk=>SrvF_not HH.out hk (Or.inr rfl))) HBy.out hl hn hN (fun W hW=>HEv.out W (fU hc7 hW (fun x hx=>Or.inr (hnewX x hx)))) hc7 (fun k hk=>?_) ho7 hb1 hb2 (newsO_few _ _)
  rcases hk with e|e|e|⟨j,db,bb,e1,e2,e3⟩
  ·exact Or.inl (Or.inl e)
  ·exact Or.inl (Or.inr (Or.inl e))
  ·rcases hat7 with h|h
   ·rw[h]at e
    exact Or.inl (Or.inr (Or.inr (Or.inl e)))
   ·exact Or.inr (h k e)
  ·rcases Nat.lt_or_ge j s.conns.length with hj|hj
   ·rw[List.getElem?_append_left (by omega)]at e1 e2
    exact Or.inl (fw e1 e2 e3)
   ·have hj2:j=s.conns.length:=by
     have:=(List.getElem?_eq_some_iff.1 e1).1
     simp at this
     omega
    subst hj2
    rw[g1]at e1
    rw[g2]at e2
    cases e1
    cases e2
    exact Or.inr (hnewX k e3)
 have HGe:=ab (cGet_any cb s.c (bn s.c d.cid addr ok) (.slice none 0 0) sm dm _ size w3 hblk3 (by simp[bn,fo]) hsz)
 have HP3:=ab hP3
 have HC3:=ab hc3
 have HNX:=ab hnewX
 have HL1:=ab hl1
 have HL2:=ab hl2
 have HG1:=ab g1
 have q1:w3.cell? ⟨w.heap.size,1,none⟩= some (.int .i64 size):=by simp only[World.cell?,hbx3];rfl
 have HBx3:=ab hbx3
 have HZ3:=ab hw3z
 clear hP3 hc3 hx3 hz3 g0 g2 hblk3 hnewX hbx3 hw3z hm3 hg3 hput HStA HM2 HBx2 e11 e2 HNo HWf hMa hl1 hl2 g1 HBv HBy HEv
 go_wp2_with fail
 refine HGe.out.mono ?_
 rintro e w4 ⟨rfl,hb4,hc4⟩
 have hS4:=HP3.out.blk.chg hc4 hsbc
 have q10:w4.cell? ⟨sb,10,none⟩= some (.int .i64 s.now):=hS4.cell 10
 have HHr:=ab (cHear_any cb s.c _ (.slice none 0 0) sm dm _ s.now w4 hb4)
 have HC4:=ab hc4
 clear hb4 hc4 hS4 HGe q1
 go_wp2_with fail
 refine HHr.out.mono ?_
 rintro e w5 ⟨rfl,hb5,hc5⟩
 have hb5':ConBlk w5 cb s.c (bA s d.cid addr size ok) (.slice none 0 0) sm dm (bk (bn s.c d.cid addr ok).streams):=by
  rw[<-fresh_opened]
  exact hb5
 have HWl:=ab (cWelcome_any cb s.c (bA s d.cid addr size ok) (.slice none 0 0) sm dm _ w5 hb5' HI.out.cfg hadr hcid hsz (by simp[bA,fo]))
 have HC5:=ab (HC4.out.trans hc5)
 clear hb5 hb5' hc5 HHr q10 HC4
 go_wp2_with fail
 refine HWl.out.mono ?_
 rintro e w6 ⟨⟨v1,rfl,ho6⟩,hb6,hc6⟩
 obtain⟨va,vc,rfl⟩:=ho6.form
 obtain⟨hP6,hcw6,hA6⟩:=open_B HL1.out HL2.out HP3.out HC3.out HNX.out hb6 (HC5.out.trans hc6)
 have hz6:=(HC5.out.trans hc6).size
 have hbx6:w6.heap[w.heap.size]? =_:=((HC5.out.trans hc6).block w.heap.size HZ3.out (fun e=>by have:=HZc.out.1;omega)).trans HBx3.out
 have hz5:=HC5.out.size
 have hz3:=HZ3.out
 have hz65:=hc6.size
 have HO6:Hid (OutsAt w6 w5.heap.size (.slice va (openO s d.cid addr size ok).length vc) (openO s d.cid addr size ok)):=ho6
 have HP6:=ab hP6
 have HCw6:=ab hcw6
 have HBx6:=ab hbx6
 have hb1:w.heap.size<=w5.heap.size:=by omega
 have HB1':=ab hb1
 have HZ65:=ab hz65
 have HZ6:Hid (w.heap.size<w6.heap.size):=by show _<_;omega
 replace ho6:OutsAt w6 w5.heap.size (.slice va (openO s d.cid addr size ok).length vc) (openO s d.cid addr size ok):=ho6
 clear ho6 hP6 hcw6 hA6 hbx6 hb6 hc6 hz6 hz5 hz3 hz65 hb1 HWl HP3 HC3 HC5 HNX HBx3 HZ3 HZ2
 obtain⟨ol,hol⟩:∃l,(openO s d.cid addr size ok).length=l:=⟨_,rfl⟩
 have hol':(cf (bA s d.cid addr size ok) (bh s.c (bA s d.cid addr size ok)) []).length=ol:=hol
 rw[hol']
 rw[hol]at HO6
 clear hol hol'
 cases ok with
 |false=>
  have hP7:PSrv (N+1) w6 sb (dY s d.cid addr size false) cm wv (cbs++[cb]) (xs++[bQ sm dm]) ws:=by
   have h:=HP6.out
   unfold dY
   rw[if_neg (by simp)]
   exact h
  have HD:=ab (HDeal.out w6 wv ws _ _ hP7 HCw6.out (Or.inl rfl) HO6.out HB1'.out HZ65.out)
  have q5:w6.cell? ⟨w.heap.size,5,none⟩= some (.slice f1 f2 f3):=by simp only[World.cell?,HBx6.out];rfl
  clear hP7 HDeal HP6 HCw6 HO6 HBx6 HB1'
  go_wp2_with fail
  refine HD.out.mono ?_
  rintro e w8 ⟨v2,rfl,⟨a2,l2,c2,rfl⟩,happ⟩
  obtain⟨v',w9,hrun,⟨a9,l9,c9,rfl⟩,hS⟩:=happ 47
  have HS:=ab hS
  have HRun:=ab hrun
  clear hS hrun happ HD q5
  go_wp2_with (first
   |(at_builtin;refine aR rfl _ _ 47 47 rfl _ _ rfl rfl HRun.out ?_;refine Hid.out ?_))
  refine ab ?_
  go_wp2_with fail
  go_ret
  exact HS.out
 |true=>
  have hwl:ws.length<=1000:=by
   have h1:=HH.out.wlen
   have h2:=HI.out.few
   have h3:=HI.out.cfg.c0
   omega
  have HWa:=ab (swait_any sb s.c s.now cm wv ws cb w6 HP6.out.blk HP6.out.row hwl)
  clear hwl
  go_wp2_with fail
  refine HWa.out.mono ?_
  rintro e w7 ⟨rfl,⟨wv7,hS7,ho7,hat7⟩,hc7⟩
  have hn0:=openedC_same s d.cid addr size true
  have hla:=HI.out.last
  have hP7:PSrv (N+1) w7 sb (dY s d.cid addr size true) cm wv7 (cbs++[cb]) (xs++[bQ sm dm]) (ws++[cb]):=by
   have h:=(HP6.out.more (i:=s.conns.length) (lw:=s.last+1) (eW _ _) HG1.out (by rw[hn0.2.1];omega) (fun e he=>by
    rcases List.mem_append.1 he with h1|h1
    ·have:=HI.out.waits e h1;omega
    ·rw[List.mem_singleton.1 h1,hn0.2.1];omega) (by omega) hS7 ho7 hc7).last (s.last+1)
   unfold dY
   rw[if_pos rfl]
   simp only[ee]at h
   exact h
  have hcO:Chg (OwnF sb cm wv) w6 w7:=hc7.mono fun k _ e=>e.elim Or.inl (fun e=>Or.inr (Or.inr e))
  have hc07:=fU HCw6.out hcO (fun k hk=>Or.inl (SrvF_own hk))
  have hO7:=HO6.out.chg hcO (fun k cur fr hk=>OwnF_not HP6.out hk (by decide) (by decide)) (fun k cur fr hk=>OwnF_not HP6.out hk (by decide) (by decide))
  have HD:=ab (HDeal.out w7 wv7 _ _ _ hP7 hc07 (hat7.imp id fun h k hk=>by have:=h k hk;have:=HZ6.out;omega) hO7 HB1'.out (Nat.le_trans HZ65.out hc7.size))
  have hbx7:w7.heap[w.heap.size]? =_:=(hc7.block w.heap.size HZ6.out (fun e=>by
   rcases e with e|e
   ·have:=HH.out.blk.lt;omega
   ·have:=(HH.out.row.lt _ e).2;omega)).trans HBx6.out
  have q5:w7.cell? ⟨w.heap.size,5,none⟩= some (.slice f1 f2 f3):=by simp only[World.cell?,hbx7];rfl
  clear hP7 HDeal HP6 HCw6 HO6 HBx6 HB1' hS7 ho7 hat7 hc7 hcO hc07 hO7 hbx7 hn0 hla HWa
  go_wp2_with fail
  refine HD.out.mono ?_
  rintro e w8 ⟨v2,rfl,⟨a2,l2,c2,rfl⟩,happ⟩
  obtain⟨v',w9,hrun,⟨a9,l9,c9,rfl⟩,hS⟩:=happ 47
  have HS:=ab hS
  have HRun:=ab hrun
  clear hS hrun happ HD q5
  go_wp2_with (first
   |(at_builtin;refine aR rfl _ _ 47 47 rfl _ _ rfl rfl HRun.out ?_;refine Hid.out ?_))
  refine ab ?_
  go_wp2_with fail
  go_ret
  exact HS.out
theorem PSrv.found{N:Nat}{w:World}{sb:Nat}{s:ax}{cm:Nat}{wv:Value}{cbs:List Nat}{xs:List aH}{ws:List Nat}(h:PSrv N w sb s cm wv cbs xs ws)(hnd:(s.conns.map (·.cid)).Nodup){k:Nat}{c:au}(hk:s.conns[k]? =some c):∃cb a,cbs[k]? =some cb/\xs[k]? =some a/\atK ((s.conns.map (·.cid)).zip cbs) c.cid=some cb:=by
 have hkl:=(List.getElem?_eq_some_iff.1 hk).1
 have h1:k<cbs.length:=by rw[h.len1];exact hkl
 have h2:k<xs.length:=by rw[h.len2];exact hkl
 refine⟨cbs[k],xs[k],List.getElem?_eq_getElem h1,List.getElem?_eq_getElem h2,?_⟩
 refine atK_mem (by rw[List.map_fst_zip (by simp[h.len1])];exact hnd) (List.mem_of_getElem? (i:=k) ?_)
 rw[List.getElem?_zip_eq_some]
 exact⟨by simp[hk],List.getElem?_eq_getElem h1⟩
theorem PSrv.lookN{N:Nat}{w:World}{sb:Nat}{s:ax}{cm:Nat}{wv:Value}{cbs:List Nat}{xs:List aH}{ws:List Nat}(h:PSrv N w sb s cm wv cbs xs ws){cid:Int}(hc:0<=cid/\cid<=1073741823)(hno:cid∉s.conns.map (·.cid)):(Instr.lookup 98 (.map (some cm)) (.int .i64 cid) false).run Tryz.prog w=.ok (.pointer none) w:=by
 obtain⟨n,_,hm⟩:=h.map
 have h1:=run_look (C:=ej) (e:=97) Tryz.underlying3 Tryz.underlying98 (fun W=>by kernel_rfl) hm (wf_key (k:=cid) (by omega))
 have h2:atK ((s.conns.map (·.cid)).zip cbs) cid=none:=by
  refine atK_none.2 ?_
  rw[List.map_fst_zip (by simp[h.len1])]
  exact hno
 unfold fg at h1
 rw[h2]at h1
 exact h1
theorem PSrv.lookS{N:Nat}{w:World}{sb:Nat}{s:ax}{cm:Nat}{wv:Value}{cbs:List Nat}{xs:List aH}{ws:List Nat}(h:PSrv N w sb s cm wv cbs xs ws){cid:Int}(hc:0<=cid/\cid<=1073741823){cb:Nat}(ha:atK ((s.conns.map (·.cid)).zip cbs) cid=some cb):(Instr.lookup 98 (.map (some cm)) (.int .i64 cid) false).run Tryz.prog w=.ok (.pointer (some ⟨cb,0,none⟩)) w:=by
 obtain⟨n,_,hm⟩:=h.map
 have h1:=run_look (C:=ej) (e:=97) Tryz.underlying3 Tryz.underlying98 (fun W=>by kernel_rfl) hm (wf_key (k:=cid) (by omega))
 unfold fg at h1
 rw[ha]at h1
 exact h1
theorem data_none{s:ax}{addr cid num size:Int}{b:List Int}{N:Nat}{outs:List (Int×List Int)}(hf:eI s.conns cid=none):gh s addr cid num size b N outs=(s,outs):=by
 unfold gh;rw[hf]
theorem data_other{s:ax}{addr cid num size:Int}{b:List Int}{N:Nat}{outs:List (Int×List Int)}{k:Nat}{c:au}(hf:eI s.conns cid=some k)(hk:s.conns[k]? =some c)(ha:c.addr≠addr):gh s addr cid num size b N outs=(s,outs):=by
 unfold gh;rw[hf];simp only;rw[hk];simp only;rw[if_pos ha]
theorem data_old{s:ax}{addr cid num size:Int}{b:List Int}{N:Nat}{outs:List (Int×List Int)}{k:Nat}{c:au}(hf:eI s.conns cid=some k)(hk:s.conns[k]? =some c)(ha:c.addr=addr)(hc:dK {c with got:=c.got+size} num=none):gh s addr cid num size b N outs=({s with conns:=s.conns.set k {c with got:=c.got+size}},outs):=by
 unfold gh;rw[hf];simp only;rw[hk];simp only;rw[if_neg (by simp[ha]),hc]
theorem data_new{s:ax}{addr cid num size:Int}{b:List Int}{N:Nat}{outs:List (Int×List Int)}{k:Nat}{c c2:au}(hf:eI s.conns cid=some k)(hk:s.conns[k]? =some c)(ha:c.addr=addr)(hc:dK {c with got:=c.got+size} num=some c2):gh s addr cid num size b N outs=cU {s with conns:=s.conns.set k {c2 with heard:=s.now}} k b outs N:=by
 unfold gh;rw[hf];simp only;rw[hk];simp only;rw[if_neg (by simp[ha]),hc]
theorem SOut.pre{N:Nat}{w w4 w':World}{sb cm:Nat}{wv wv4:Value}{cbs cbs4:List Nat}{xs xs4:List aH}{r:ax×List (Int×List Int)}{e:Ending}(h:SOut N w4 sb cm wv4 cbs4 xs4 r e w')(hc:Chg (cq sb cm wv cbs xs) w w4)(hin:∀k,cq sb cm wv4 cbs4 xs4 k->cq sb cm wv cbs xs k\/w.heap.size<=k)(hu:∀k,SrvU xs4 k->SrvU xs k\/w.heap.size<=k):SOut N w sb cm wv cbs xs r e w':=by
 obtain⟨⟨v,wv',cbs',xs',ws',e1,ho,hP,hF,hU⟩,hc'⟩:=h
 refine⟨⟨v,wv',cbs',xs',ws',e1,ho.mono hc.size,hP,fun k hk=>?_,fun k hk=>?_⟩,fU hc hc' hin⟩
 ·rcases hF k hk with h1|h1
  ·exact hin k h1
  ·exact Or.inr (Nat.le_trans hc.size h1)
 ·rcases hU k hk with h1|h1
  ·exact hu k h1
  ·exact Or.inr (Nat.le_trans hc.size h1)
theorem sdata_any(N:Nat)(sb:Nat)(s:ax)(cm:Nat)(wv:Value)(cbs:List Nat)(xs:List aH)(ws:List Nat)(addr size:Int)(d:DgS)(tv fv:Value)(b:List Int)(nn:Nat)(w:World)(h:PSrv N w sb s cm wv cbs xs ws){M L:Int}(hI:SrvInv M L s)(hov:∃ta tl tc,tv=.slice ta tl tc)(hcid:0<=d.cid/\d.cid<=1073741823)(hnum:0<=d.num/\d.num<=1073741823)(hsz:0<=size/\size<=1125899906842624)(hM0:0<=M)(hM:M+size+100<=1125899906842624)
  (hbv:RdB w fv b) (hby:Bytes b) (hl:b.length<=1073741823) (hn:b.length<=nn) (hN:N+b.length<1125899906842624) (hE:∀W,Chg (cq sb cm wv cbs xs) w W->Env W):
  Calls Tryz.prog 49 #[.pointer (some ⟨sb,0,none⟩),.int .i64 addr,.agg (dgC d size tv fv)] w fun e w'=>SOut (N+b.length) w sb cm wv cbs xs (gh s addr d.cid d.num size b nn []) e w':=by
 obtain⟨t1,t2,t3,rfl⟩:=hov
 obtain⟨_,_,f1,f3,rfl,_⟩:=id hbv
 generalize hf2:b.length=f2 at *
 have hba:Below w.heap.size w (w.alloc (.cells #[.int .i64 d.kind,.int .i64 size,.int .i64 d.cid,.slice t1 t2 t3,.int .i64 d.num,.slice f1 f2 f3] 107)):=af w _
 have hS0:=h.blk.below hba
 have k11:(w.alloc (.cells #[.int .i64 d.kind,.int .i64 size,.int .i64 d.cid,.slice t1 t2 t3,.int .i64 d.num,.slice f1 f2 f3] 107)).cell? ⟨sb,11,none⟩= some (.map (some cm)):=hS0.cell 11
 have b2:(w.alloc (.cells #[.int .i64 d.kind,.int .i64 size,.int .i64 d.cid,.slice t1 t2 t3,.int .i64 d.num,.slice f1 f2 f3] 107)).cell? ⟨w.heap.size,2,none⟩= some (.int .i64 d.cid):=by simp
 have HBx:Hid ((w.alloc (.cells #[.int .i64 d.kind,.int .i64 size,.int .i64 d.cid,.slice t1 t2 t3,.int .i64 d.num,.slice f1 f2 f3] 107)).heap[w.heap.size]? =some (.cells #[.int .i64 d.kind,.int .i64 size,.int .i64 d.cid,.slice t1 t2 t3,.int .i64 d.num,.slice f1 f2 f3] 107 (0,0))):=heap_alloc_new w _
 have HZ:Hid (w.heap.size<(w.alloc (.cells #[.int .i64 d.kind,.int .i64 size,.int .i64 d.cid,.slice t1 t2 t3,.int .i64 d.num,.slice f1 f2 f3] 107)).heap.size):=by show _<_;simp
 have HE0:Hid (∀(W:World),Below w.heap.size w W->SOut (N+f2) w sb cm wv cbs xs (s,[]) (.returned (.slice none 0 0)) W):=fun W hW=>SOut.mk1 h (OutsAt.nil _ _) ((h.below hW).mono (Nat.le_add_right _ _)) (fun k hk=>Or.inl hk) (fun k hk=>hk) (Chg.of_below hW)
 rcases findI_is (l:=s.conns) (cid:=d.cid) with⟨hf,hno⟩|⟨k,c,hf,hk,hkc⟩
 ·have klook:∀q,(Instr.lookup 98 (.map (some cm)) (.int .i64 d.cid) false).run Tryz.prog ((w.alloc (.cells #[.int .i64 d.kind,.int .i64 size,.int .i64 d.cid,.slice t1 t2 t3,.int .i64 d.num,.slice f1 f2 f3] 107)).drewN q)=.ok (.pointer none) ((w.alloc (.cells #[.int .i64 d.kind,.int .i64 size,.int .i64 d.cid,.slice t1 t2 t3,.int .i64 d.num,.slice f1 f2 f3] 107)).drewN q):=fun q=>(h.below (aj hba q)).lookN hcid hno
  rw[data_none hf]
  unfold dgC
  have HBa:=ab hba
  clear h hI hS0 hba hbv hby hE hf hno hM hN hn hl HBx HZ
  generalize hW0:(w.alloc (.cells #[.int .i64 d.kind,.int .i64 size,.int .i64 d.cid,.slice t1 t2 t3,.int .i64 d.num,.slice f1 f2 f3] 107))=w0 at *
  have HW0:=ab hW0
  clear hW0
  go_enter Tryz.func49,Tryz.ntmps49
  go_wp2_with fail
  rw[HW0.out]
  go_quiet (fail)
  go_wp2_with fail
  go_ret
  exact HE0.out _ (aj HBa.out _)
 ·obtain⟨cb,a,hcb,ha,hat⟩:=h.found hI.nd hk
  rw[hkc]at hat
  have klook:∀q,(Instr.lookup 98 (.map (some cm)) (.int .i64 d.cid) false).run Tryz.prog ((w.alloc (.cells #[.int .i64 d.kind,.int .i64 size,.int .i64 d.cid,.slice t1 t2 t3,.int .i64 d.num,.slice f1 f2 f3] 107)).drewN q)=.ok (.pointer (some ⟨cb,0,none⟩)) ((w.alloc (.cells #[.int .i64 d.kind,.int .i64 size,.int .i64 d.cid,.slice t1 t2 t3,.int .i64 d.num,.slice f1 f2 f3] 107)).drewN q):=fun q=>(h.below (aj hba q)).lookS hcid hat
  have hC:=h.con k c cb a hk hcb ha
  have hmem:=List.mem_of_getElem? hk
  have hok:=hI.ok c hmem
  have hinv:=hI.inv c hmem
  have hgot:=hok.got
  have hcl:cb<w.heap.size:=hC.blk.lt
  have HAd:Hid (∀W,Below w.heap.size w W->Calls Tryz.prog 94 #[.pointer (some ⟨cb,0,none⟩)] W fun e w'=>e=.returned (.int .i64 c.addr)/\W=w'):=fun W hW=>cAddress_any cb s.c c _ _ _ _ W (hC.blk.below hW)
  by_cases hne:c.addr=addr
  ·have hOk1:ConOk (M+size+100) {c with got:=c.got+size}:=⟨hok.cid,hok.addr,by simp only;omega,by have:=hok.sent;simp only;omega,hok.heard,hok.runs,hok.credit,hok.slen,hok.str⟩
   have hIv1:ConInv s.c {c with got:=c.got+size}:=⟨hinv.str,hinv.high,hinv.runs,hinv.fol⟩
   have hsr:∀w1,Chg (bg cb a) w w1->Chg (cq sb cm wv cbs xs) w w1:=fun w1 hc=>hc.mono fun j _ hj=>fw hcb ha hj
   have HGt:Hid (∀W,Below w.heap.size w W->Calls Tryz.prog 95 #[.pointer (some ⟨cb,0,none⟩),.int .i64 size] W fun e w'=>e=.returned (.tuple #[])/\ConAt N w' cb s.c {c with got:=c.got+size} a/\Chg (· = cb) W w'):=by
    intro W hW
    refine(cGet_any cb s.c c _ _ _ _ size W (hC.blk.below hW) ⟨hgot.1,by omega⟩ hsz).mono ?_
    rintro e w' ⟨e1,e2,e3⟩
    exact⟨e1,(hC.below hW).reblk e3 e2 rfl rfl,e3⟩
   have HNu:Hid (∀W,ConAt N W cb s.c {c with got:=c.got+size} a->Calls Tryz.prog 96 #[.pointer (some ⟨cb,0,none⟩),.int .i64 d.num] W fun e w'=>NumOut N W cb s.c {c with got:=c.got+size} a (dK {c with got:=c.got+size} d.num) e w'):=fun W hA=>cNumber_any N cb s.c _ a d.num W hA hIv1 hOk1 hnum
   have HOld:Hid (dK {c with got:=c.got+size} d.num=none->∀(w3:World) (a':aH),Chg (bg cb a) w w3->ConAt N w3 cb s.c {c with got:=c.got+size} a'->(∀j,bg cb a' j->bg cb a j\/w.heap.size<=j)->UIn w.heap.size a a'->SOut (N+f2) w sb cm wv cbs xs (gh s addr d.cid d.num size b nn []) (.returned (.slice none 0 0)) w3):=by
    intro hcm w3 a' hc3 hA3 hin hun
    rw[data_old hf hk hne hcm]
    exact SOut.mk0 (OutsAt.nil _ _) rfl ((h.step (Nat.le_refl _) hk hcb ha hc3 hA3 hin rfl rfl).mono (Nat.le_add_right _ _)) (SrvF_set hcb ha hin) (SrvU_set ha hun) (hsr _ hc3)
   have HDl:Hid (∀c2,dK {c with got:=c.got+size} d.num=some c2->∀(w4:World) (a':aH),Chg (bg cb a) w w4->ConAt N w4 cb s.c {c2 with heard:=s.now} a'->(∀j,bg cb a' j->bg cb a j\/w.heap.size<=j)->UIn w.heap.size a a'->Calls Tryz.prog 98 #[.pointer (some ⟨sb,0,none⟩),.pointer (some ⟨cb,0,none⟩),.slice f1 f2 f3] w4 fun e w'=>SOut (N+f2) w sb cm wv cbs xs (gh s addr d.cid d.num size b nn []) e w'):=by
    intro c2 hcm w4 a' hc4 hA4 hin hun
    rw[data_new hf hk hne hcm]
    obtain⟨q1,q2,q3,q4,q5,q6,q7⟩:=comesC_keep hOk1 hIv1 hnum hcm
    have hP4:=h.step (c':={c2 with heard:=s.now}) (Nat.le_refl _) hk hcb ha hc4 hA4 hin q3 q4
    have hw:=hI.waits c hmem
    have hla:=hI.last
    have hI4:SrvInv (M+size+100) L {s with conns:=s.conns.set k {c2 with heard:=s.now}}:=(hI.mono (by omega) (Int.le_refl _)).set (last:=s.last) hk ⟨q1.cid,q1.addr,q1.got,q1.sent,hI.now,q1.runs,q1.credit,q1.slen,q1.str⟩ ⟨q2.str,q2.high,q2.runs,q2.fol⟩ q3 (by show 0<=c2.waits/\c2.waits<=_/\(c2.proven=false->c2.waits=0);rw[q4,q5];exact hw) (Int.le_refl _) hla.2
    have hSF:=SrvF_set (sb:=sb) (cm:=cm) (wv:=wv) hcb ha hin
    subst hf2
    refine(sdeal_any N sb _ cm wv cbs (xs.set k a') ws k cb {c2 with heard:=s.now} a' b nn _ w4 hP4 (aI hk) hcb (aI ha) hI4 hM (hbv.chg (hsr _ hc4) (fun j cur fr hj=>SrvF_not h hj (Or.inr rfl))) hby hl hn hN (fun W hW=>hE W (fU (hsr _ hc4) hW (fun j hj=>hSF j (fw hcb (aI ha) hj))))).mono ?_
    intro e w' hS
    exact hS.pre (hsr _ hc4) hSF (SrvU_set ha hun)
   have HNow:Hid (∀w3,Chg (bg cb a) w w3->w3.cell? ⟨sb,10,none⟩= some (.int .i64 s.now)):=fun w3 hc3=>(h.blk.chg hc3 (cC hC h.blk (by decide) (by decide) (by decide) (by decide))).cell 10
   have HLt:Hid (∀j,bg cb a j->j<w.heap.size):=fun j hj=>ConF_lt hC hj
   generalize gh s addr d.cid d.num size b nn []=R at HOld HDl⊢
   unfold dgC
   have HBa:=ab hba
   have HCl:=ab hcl
   clear h hI hS0 hba hbv hby hE hf hk hcb ha hat hC hmem hok hinv hgot hOk1 hIv1 hsr hM hN hn hl hcl hkc HE0
   generalize hW0:(w.alloc (.cells #[.int .i64 d.kind,.int .i64 size,.int .i64 d.cid,.slice t1 t2 t3,.int .i64 d.num,.slice f1 f2 f3] 107))=w0 at *
   have HW0:=ab hW0
   clear hW0
   go_enter Tryz.func49,Tryz.ntmps49
   go_wp2_with fail
   rw[HW0.out]
   go_quiet (fail)
   have hB1:=aj HBa.out nq
   have hB01:Below w0.heap.size w0 (w0.drewN nq):=aj (Below.refl _ _) _
   generalize w0.drewN nq=w1 at hB1 hB01⊢
   replace HBx:=ab ((hB01.block w.heap.size HZ.out).trans HBx.out)
   replace HZ:=ab (Nat.lt_of_lt_of_le HZ.out hB01.size)
   have HB1:=ab hB1
   clear hB1 hB01 klook HW0 HBa k11 b2
   go_wp2_with fail
   refine(HAd.out w1 HB1.out).mono ?_
   rintro e w1' ⟨rfl,rfl⟩
   have q1:w1.cell? ⟨w.heap.size,1,none⟩= some (.int .i64 size):=by simp only[World.cell?,HBx.out];rfl
   clear HAd
   go_wp2_with fail
   refine(HGt.out w1 HB1.out).mono ?_
   rintro e w2 ⟨rfl,hA2,hc2⟩
   have hbx2:w2.heap[w.heap.size]? =_:=(hc2.block w.heap.size HZ.out (fun e=>by have:=HCl.out;omega)).trans HBx.out
   have hz2:=Nat.lt_of_lt_of_le HZ.out hc2.size
   have q4:w2.cell? ⟨w.heap.size,4,none⟩= some (.int .i64 d.num):=by simp only[World.cell?,hbx2];rfl
   have HC2:Hid (Chg (bg cb a) w w2):=(Chg.of_below HB1.out).trans (hc2.mono fun j _ e=>Or.inl e)
   have HNu2:=ab (HNu.out w2 hA2)
   have HBx2:=ab hbx2
   have HZ2:=ab hz2
   clear hA2 hc2 hbx2 hz2 q1 HGt HNu HBx HZ HB1
   go_wp2_with fail
   refine HNu2.out.mono ?_
   rintro e w3 ⟨rfl,hc3,a',hA3,hin,hun⟩
   have hbx3:w3.heap[w.heap.size]? =_:=(hc3.block w.heap.size HZ2.out (fun e=>by have:=HLt.out _ e;omega)).trans HBx2.out
   have hz3:=Nat.lt_of_lt_of_le HZ2.out hc3.size
   have hin3:∀j,bg cb a' j->bg cb a j\/w.heap.size<=j:=fun j hj=>(hin j hj).imp id (fun h=>by have:=HZ2.out;omega)
   have HC3:=ab (HC2.out.trans hc3)
   have HBx3:=ab hbx3
   have HZ3:=ab hz3
   have HIn3:=ab hin3
   have HUn3:Hid (UIn w.heap.size a a'):=fun j hj=>(hun j hj).imp id (fun h=>by have:=HZ2.out;omega)
   have HA3:=ab hA3
   clear hc3 hA3 hin hun hbx3 hz3 hin3 HNu2 HC2 HBx2 HZ2
   cases hcm:dK {c with got:=c.got+size} d.num with
   |none=>
    rw[hcm]at HA3
    have HF:=ab (HOld.out hcm w3 a' HC3.out HA3.out HIn3.out HUn3.out)
    clear HOld HDl HA3 HIn3 HC3 HNow HLt hcm
    go_wp2_with fail
    go_ret
    exact HF.out
   |some c2=>
    rw[hcm]at HA3
    have q10:=HNow.out w3 HC3.out
    have HA3':Hid (ConAt N w3 cb s.c c2 a'):=HA3.out
    have HHr:=ab (cHear_any cb s.c c2 _ _ _ _ s.now w3 HA3'.out.blk)
    have HDl2:=ab (HDl.out c2 hcm)
    clear HOld HDl HNow HA3 hcm
    go_wp2_with fail
    refine HHr.out.mono ?_
    rintro e w4 ⟨rfl,hb4,hc4⟩
    have hA4:ConAt N w4 cb s.c {c2 with heard:=s.now} a':=HA3'.out.reblk hc4 hb4 rfl rfl
    have hbx4:w4.heap[w.heap.size]? =_:=(hc4.block w.heap.size HZ3.out (fun e=>by have:=HCl.out;omega)).trans HBx3.out
    have q5:w4.cell? ⟨w.heap.size,5,none⟩= some (.slice f1 f2 f3):=by simp only[World.cell?,hbx4];rfl
    have HD4:=ab (HDl2.out w4 a' (HC3.out.trans (hc4.mono fun j _ e=>Or.inl e)) hA4 HIn3.out HUn3.out)
    clear hb4 hc4 hA4 hbx4 q10 HHr HDl2 HA3' HC3 HBx3 HZ3 HIn3 HLt
    go_wp2_with fail
    refine HD4.out.mono ?_
    intro e w5 hS
    obtain⟨v,rfl,ho⟩:=hS.ret
    obtain⟨va,vc,rfl⟩:=ho.form
    have HS:=ab hS
    clear hS ho HD4 q5
    go_wp2_with fail
    go_ret
    exact HS.out
  ·have hnb:(c.addr==addr)=false:=beq_eq_false_iff_ne.2 hne
   rw[data_other hf hk hne]
   unfold dgC
   have HBa:=ab hba
   clear h hI hS0 hba hbv hby hE hf hk hcb ha hat hC hmem hok hinv hgot hM hN hn hl HBx HZ hcl hkc
   generalize hW0:(w.alloc (.cells #[.int .i64 d.kind,.int .i64 size,.int .i64 d.cid,.slice t1 t2 t3,.int .i64 d.num,.slice f1 f2 f3] 107))=w0 at *
   have HW0:=ab hW0
   clear hW0
   go_enter Tryz.func49,Tryz.ntmps49
   go_wp2_with fail
   rw[HW0.out]
   go_quiet (fail)
   have hB1:=ab (aj HBa.out nq)
   generalize w0.drewN nq=w1 at hB1⊢
   clear klook HW0 HBa k11 b2
   go_wp2_with fail
   refine(HAd.out w1 hB1.out).mono ?_
   rintro e w1' ⟨rfl,rfl⟩
   clear HAd
   go_wp2_with fail
   go_ret
   exact HE0.out _ hB1.out
end Go.Proofs.YthmdjhlhodpbhaaGreatDoor
