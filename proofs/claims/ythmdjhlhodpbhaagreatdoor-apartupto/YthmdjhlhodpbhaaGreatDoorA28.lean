/- Apart, 28 -/
import Derived.BigQuiet
import Derived.Test.YthmdjhlhodpbhaaGreatDoorA23
import Derived.Test.YthmdjhlhodpbhaaGreatDoorA27
set_option maxHeartbeats 16000000
set_option maxRecDepth 8000
namespace Go.Proofs.YthmdjhlhodpbhaaGreatDoor
open Go.RowKit
theorem SrvF_lt{N:Nat}{w:World}{sb:Nat}{s:ay}{cm:Nat}{wv:Value}{cbs:List Nat}{xs:List aJ}{ws:List Nat}(h:PSrv N w sb s cm wv cbs xs ws){k:Nat}(hk:cj sb cm wv cbs xs k):k<w.heap.size:=by
 rcases hk with rfl|rfl|e|⟨j,db,b,e1,e2,e3⟩
 ·exact h.blk.lt
 ·obtain⟨n,_,hm⟩:=h.map
  exact hm.lt
 ·exact(h.row.lt _ e).2
 ·obtain⟨c,hc⟩:∃c,s.conns[j]? =some c:=⟨_,lGe (by rw[<-h.len1];exact(lLt e1))⟩
  exact mi (h.con j c db b hc e1 e2) e3
theorem SOut.mono{N N':Nat}{w:World}{sb cm:Nat}{wv:Value}{cbs:List Nat}{xs:List aJ}{r:ay×List (Int×List Int)}{e:Ending}{w':World}(h:SOut N w sb cm wv cbs xs r e w')(hN:N<=N'):SOut N' w sb cm wv cbs xs r e w':=by
 obtain⟨⟨v,wv',cbs',xs',ws',e1,ho,hP,hF,hU⟩,h3⟩:=h
 exact⟨⟨v,wv',cbs',xs',ws',e1,ho,hP.mono hN,hF,hU⟩,h3⟩
theorem SOut.after{N:Nat}{w W:World}{sb cm:Nat}{wv:Value}{cbs:List Nat}{xs:List aJ}{r:ay×List (Int×List Int)}{e:Ending}{w':World}(hW:Below w.heap.size w W)(h:SOut N W sb cm wv cbs xs r e w'):SOut N w sb cm wv cbs xs r e w':=h.pre (Chg.of_below hW) (fun _ hk=>Or.inl hk) (fun _ hk=>Or.inl hk)
theorem SOut.box{N:Nat}{w W:World}{sb cm:Nat}{s:ay}{wv:Value}{cbs:List Nat}{xs:List aJ}{ws:List Nat}{r:ay×List (Int×List Int)}{e:Ending}{w':World}(hP:PSrv N w sb s cm wv cbs xs ws){N':Nat}(h:SOut N' W sb cm wv cbs xs r e w')(hz:w.heap.size<W.heap.size):w'.heap[w.heap.size]? =W.heap[w.heap.size]?:=by
 refine h.chg.block _ hz fun hF=>?_
 have:=SrvF_lt hP hF
 omega
theorem SOut.sblk{N:Nat}{w:World}{sb cm:Nat}{wv:Value}{cbs:List Nat}{xs:List aJ}{r:ay×List (Int×List Int)}{e:Ending}{w':World}(h:SOut N w sb cm wv cbs xs r e w'):w'.cell? ⟨sb,11,none⟩= some (.map (some cm)):=by
 obtain⟨v,wv',cbs',xs',ws',_,_,hP,_⟩:=h.ex
 exact hP.blk.cell 11
theorem unp_is(pv:Nat->Bool):∀(l:List aw) (bs:List Nat),bs.length=l.length->(∀(i:Nat) c b,l[i]? =some c->bs[i]? =some b->pv b=c.proven)->(lJ pv ((l.map (·.cid)).zip bs):Int)=unpS l
 |[],[],_,_=>rfl
 |[],_::_,h,_=>by simp at h
 |_::_,[],h,_=>by simp at h
 |c::l,b::bs,hl,h=>by
  have ih:=unp_is pv l bs (by simpa using hl) (fun i c' b' e1 e2=>h (i+1) c' b' (by simpa using e1) (by simpa using e2))
  have h0:=h 0 c b rfl rfl
  unfold lJ unpS at ih⊢
  simp only[List.map_cons,List.zip_cons_cons,List.countP_cons,h0]
  split<;>omega
theorem sq [LoM] (N:Nat)(sb:Nat)(s:ay)(cm:Nat)(wv:Value)(cbs:List Nat)(xs:List aJ)(ws:List Nat)(addr size:Int)(d:DgS)(tv fv:Value)(ok:Bool)(b:List Int)(nn:Nat)(w:World)(h:PSrv N w sb s cm wv cbs xs ws){M L:Int}(hI:SrvInv M L s)(hov:∃ta tl tc,tv=.slice ta tl tc)(hno:d.cid∉s.conns.map (·.cid))(hcid:0<=d.cid/\d.cid<=1073741823)(hadr:0<=addr/\addr<256)(hsz:0<=size/\size<=1125899906842624)(hM0:0<=M)(hM:M+size+100<=1125899906842624)
  (hbv:RdB w fv b) (hby:Bytes b) (hl:b.length<=1073741823) (hn:b.length<=nn) (hN:N+1+b.length<1125899906842624) (hE:∀W,Chg (cj sb cm wv cbs xs) w W->Env W):
  Calls Tryz.prog 91 #[.pointer (some ⟨sb,0,none⟩),.int .i64 addr,.agg (dgC d size tv fv),.bool ok] w fun e w'=>SOut (N+1+b.length) w sb cm wv cbs xs (if fz s then(s,[]) else if ok then kQ s d.cid addr size b nn [] else lF s d.cid addr size b nn []) e w':=by
 cases hf:fz s with
 |true=>
  rw[if_pos rfl]
  obtain⟨_,_,f1,f3,rfl,_⟩:=id hbv
  exact(sopen_full N sb s cm wv cbs xs ws addr size d tv _ ok w h hI hov ⟨_,_,_,rfl⟩ hf).mono fun e w' hS=>hS.mono (by omega)
 |false=>
  rw[if_neg (by simp)]
  have h1:=sopen_free N sb s cm wv cbs xs ws addr size d tv fv ok b nn w h hI hov hf hno hcid hadr hsz hM0 hM hbv hby hl hn hN hE
  cases ok with
  |true=>rw[if_pos rfl,openP_is];exact h1
  |false=>rw[if_neg (by simp),openS_is];exact h1
theorem tD(N:Nat)(sb:Nat)(s:ay)(cm:Nat)(wv:Value)(cbs:List Nat)(xs:List aJ)(ws:List Nat)(addr size:Int)(d:DgS)(tv fv:Value)(w:World)(h:PSrv N w sb s cm wv cbs xs ws){M L:Int}(hI:SrvInv M L s)(hov:∃ta tl tc,tv=.slice ta tl tc)(hof:∃ta tl tc,fv=.slice ta tl tc){k:Nat}{c:aw}(hk:s.conns[k]? =some c)(hkc:c.cid=d.cid)(hcid:0<=d.cid/\d.cid<=1073741823)(hsz:0<=size)(hM:M+size<=1125899906842624):
  Calls Tryz.prog 48 #[.pointer (some ⟨sb,0,none⟩),.int .i64 addr,.agg (dgC d size tv fv)] w fun e w'=>SOut N w sb cm wv cbs xs (gh s k c addr size []) e w':=by
 obtain⟨t1,t2,t3,rfl⟩:=hov
 obtain⟨f1,f2,f3,rfl⟩:=hof
 have hba:Below w.heap.size w (w.alloc (.cells #[.int .i64 d.kind,.int .i64 size,.int .i64 d.cid,.slice t1 t2 t3,.int .i64 d.num,.slice f1 f2 f3] 107)):=ag w _
 obtain⟨cb,a,hcb,ha,hat⟩:=h.found hI.nd hk
 rw[hkc]at hat
 have klook:∀q,(Instr.lookup 98 (.map (some cm)) (.int .i64 d.cid) false).run Tryz.prog ((w.alloc (.cells #[.int .i64 d.kind,.int .i64 size,.int .i64 d.cid,.slice t1 t2 t3,.int .i64 d.num,.slice f1 f2 f3] 107)).drewN q)=.ok (.pointer (some ⟨cb,0,none⟩)) ((w.alloc (.cells #[.int .i64 d.kind,.int .i64 size,.int .i64 d.cid,.slice t1 t2 t3,.int .i64 d.num,.slice f1 f2 f3] 107)).drewN q):=fun q=>(h.below (ak hba q)).lookS hcid hat
 have HLk:Hid (∀W,Below w.heap.size w W->(Instr.lookup 98 (.map (some cm)) (.int .i64 d.cid) false).run Tryz.prog W=.ok (.pointer (some ⟨cb,0,none⟩)) W):=fun W hW=>(h.below hW).lookS hcid hat
 have hok:=hI.ok c (lMm hk)
 have HAg:Hid (∀W,Below w.heap.size w W->w.heap.size<W.heap.size->(W.cell? ⟨w.heap.size,0,none⟩= some (.int .i64 d.kind)/\W.cell? ⟨w.heap.size,1,none⟩= some (.int .i64 size)/\W.cell? ⟨w.heap.size,2,none⟩= some (.int .i64 d.cid)/\W.cell? ⟨w.heap.size,3,none⟩= some (.slice t1 t2 t3)/\W.cell? ⟨w.heap.size,4,none⟩= some (.int .i64 d.num)/\W.cell? ⟨w.heap.size,5,none⟩= some (.slice f1 f2 f3))->Calls Tryz.prog 89 #[.pointer (some ⟨sb,0,none⟩),.pointer (some ⟨cb,0,none⟩),.int .i64 addr,.agg #[.int .i64 d.kind,.int .i64 size,.int .i64 d.cid,.slice t1 t2 t3,.int .i64 d.num,.slice f1 f2 f3]] W fun e w'=>SOut N w sb cm wv cbs xs (gh s k c addr size []) e w'/\(w'.cell? ⟨sb,11,none⟩= some (.map (some cm))/\w'.cell? ⟨w.heap.size,0,none⟩= some (.int .i64 d.kind)/\w'.cell? ⟨w.heap.size,1,none⟩= some (.int .i64 size)/\w'.cell? ⟨w.heap.size,2,none⟩= some (.int .i64 d.cid)/\w'.cell? ⟨w.heap.size,3,none⟩= some (.slice t1 t2 t3)/\w'.cell? ⟨w.heap.size,4,none⟩= some (.int .i64 d.num)/\w'.cell? ⟨w.heap.size,5,none⟩= some (.slice f1 f2 f3))):=by
  intro W hW hz hcl
  refine(oD N sb s cm wv cbs xs ws k cb c a addr size d (.slice t1 t2 t3) (.slice f1 f2 f3) W (h.below hW) hk hcb ha hI.cfg hok hM hsz ⟨_,_,_,rfl⟩ ⟨_,_,_,rfl⟩).mono ?_
  intro e w' hS
  have hb:=SOut.box h hS hz
  have hc:∀i,w'.cell? ⟨w.heap.size,i,none⟩= W.cell? ⟨w.heap.size,i,none⟩:=fun i=>by simp only[World.cell?,hb]
  exact⟨hS.after hW,hS.sblk,by rw[hc];exact hcl.1,by rw[hc];exact hcl.2.1,by rw[hc];exact hcl.2.2.1,by rw[hc];exact hcl.2.2.2.1,by rw[hc];exact hcl.2.2.2.2.1,by rw[hc];exact hcl.2.2.2.2.2⟩
 have HZ:Hid (w.heap.size<(w.alloc (.cells #[.int .i64 d.kind,.int .i64 size,.int .i64 d.cid,.slice t1 t2 t3,.int .i64 d.num,.slice f1 f2 f3] 107)).heap.size):=by show _<_;simp
 have hS0:=h.blk.below hba
 have k11:(w.alloc (.cells #[.int .i64 d.kind,.int .i64 size,.int .i64 d.cid,.slice t1 t2 t3,.int .i64 d.num,.slice f1 f2 f3] 107)).cell? ⟨sb,11,none⟩= some (.map (some cm)):=hS0.cell 11
 have b0:(w.alloc (.cells #[.int .i64 d.kind,.int .i64 size,.int .i64 d.cid,.slice t1 t2 t3,.int .i64 d.num,.slice f1 f2 f3] 107)).cell? ⟨w.heap.size,0,none⟩= some (.int .i64 d.kind):=by simp
 have b1:(w.alloc (.cells #[.int .i64 d.kind,.int .i64 size,.int .i64 d.cid,.slice t1 t2 t3,.int .i64 d.num,.slice f1 f2 f3] 107)).cell? ⟨w.heap.size,1,none⟩= some (.int .i64 size):=by simp
 have b2:(w.alloc (.cells #[.int .i64 d.kind,.int .i64 size,.int .i64 d.cid,.slice t1 t2 t3,.int .i64 d.num,.slice f1 f2 f3] 107)).cell? ⟨w.heap.size,2,none⟩= some (.int .i64 d.cid):=by simp
 have b3:(w.alloc (.cells #[.int .i64 d.kind,.int .i64 size,.int .i64 d.cid,.slice t1 t2 t3,.int .i64 d.num,.slice f1 f2 f3] 107)).cell? ⟨w.heap.size,3,none⟩= some (.slice t1 t2 t3):=by simp
 have b4:(w.alloc (.cells #[.int .i64 d.kind,.int .i64 size,.int .i64 d.cid,.slice t1 t2 t3,.int .i64 d.num,.slice f1 f2 f3] 107)).cell? ⟨w.heap.size,4,none⟩= some (.int .i64 d.num):=by simp
 have b5:(w.alloc (.cells #[.int .i64 d.kind,.int .i64 size,.int .i64 d.cid,.slice t1 t2 t3,.int .i64 d.num,.slice f1 f2 f3] 107)).cell? ⟨w.heap.size,5,none⟩= some (.slice f1 f2 f3):=by simp
 generalize gh s k c addr size []=R at HAg⊢
 unfold dgC
 have HBa:=ab hba
 clear h hI hba hk hcb ha hat hkc hok hS0 hM
 generalize hW0:(w.alloc (.cells #[.int .i64 d.kind,.int .i64 size,.int .i64 d.cid,.slice t1 t2 t3,.int .i64 d.num,.slice f1 f2 f3] 107))=w0 at *
 have HW0:=ab hW0
 clear hW0
 go_enter Tryz.func48,Tryz.ntmps48
 go_wp2_with fail
 rw[HW0.out]
 go_quiet (fail)
 have hB1:=ak HBa.out nq
 have hB01:Below w0.heap.size w0 (w0.drewN nq):=ak (Below.refl _ _) _
 generalize w0.drewN nq=w1 at hB1 hB01⊢
 replace k11:=ae k11 hB01
 replace b0:=ae b0 hB01
 replace b1:=ae b1 hB01
 replace b2:=ae b2 hB01
 replace b3:=ae b3 hB01
 replace b4:=ae b4 hB01
 replace b5:=ae b5 hB01
 replace HZ:=ab (Nat.lt_of_lt_of_le HZ.out hB01.size)
 have HB1:=ab hB1
 have hlook:(Instr.lookup 98 (.map (some cm)) (.int .i64 d.cid) false).run Tryz.prog w1.drew=.ok (.pointer (some ⟨cb,0,none⟩)) w1.drew:=HLk.out _ (ak hB1 1)
 clear hB1 hB01 klook HW0 HBa HLk
 go_wp2_with fail
 go_region_held3 (fun w'=>w'.cell? ⟨sb,11,none⟩= some (.map (some cm))/\w'.cell? ⟨w.heap.size,0,none⟩= some (.int .i64 d.kind)/\w'.cell? ⟨w.heap.size,1,none⟩= some (.int .i64 size)/\w'.cell? ⟨w.heap.size,2,none⟩= some (.int .i64 d.cid)/\w'.cell? ⟨w.heap.size,3,none⟩= some (.slice t1 t2 t3)/\w'.cell? ⟨w.heap.size,4,none⟩= some (.int .i64 d.num)/\w'.cell? ⟨w.heap.size,5,none⟩= some (.slice f1 f2 f3)) (first|assumption|go_keep) (first
  |(go_at_call 89;refine(HAg.out _ (ak HB1.out 1) HZ.out (by first|assumption|exact⟨b0,b1,b2,b3,b4,b5⟩)).mono ?_;rintro e w2 ⟨hS,hSq⟩;obtain⟨v,rfl,ho⟩:=hS.ret;obtain⟨va,vc,rfl⟩:=ho.form))
 have HS:=ab hS
 clear hS ho hSq HAg
 go_wp2_with fail
 go_ret
 exact HS.out
theorem hello_tok{s:ay}{addr cid size:Int}{tok b:List Int}{N:Nat}{outs:List (Int×List Int)}(hf:ei s.conns cid=none)(hp:0<tok.length):fM s addr cid size tok b N outs=if kK s.c s.now addr tok then if fz s then(s,outs) else kQ s cid addr size b N outs else(s,outs):=by
 unfold fM;rw[hf];simp only;rw[if_pos hp]
theorem xf{s:ay}{addr cid size:Int}{tok b:List Int}{N:Nat}{outs:List (Int×List Int)}(hf:ei s.conns cid=none)(hp:¬0<tok.length):fM s addr cid size tok b N outs=if s.c.c5<=unpS s.conns then(s,kU s addr cid size outs) else if fz s then(s,outs) else lF s cid addr size b N outs:=by
 unfold fM;rw[hf];simp only;rw[if_neg hp]
theorem uW{s:ay}{addr cid size:Int}{tok b:List Int}{N:Nat}{outs:List (Int×List Int)}{k:Nat}{c:aw}(hf:ei s.conns cid=some k)(hk:s.conns[k]? =some c):fM s addr cid size tok b N outs=gh s k c addr size outs:=by
 unfold fM;rw[hf];simp only;rw[hk]
theorem dE [LoM] {w:World}{tv:Value}{l:List Int}(h:RdB w tv l):∃a c,tv=.slice a l.length c:=by
 obtain⟨_,_,a,c,e,_⟩:=h
 exact⟨a,c,e⟩
theorem shello_tok [LoM] (N:Nat)(sb:Nat)(s:ay)(cm:Nat)(wv:Value)(cbs:List Nat)(xs:List aJ)(ws:List Nat)(addr size:Int)(d:DgS)(tv fv:Value)(b:List Int)(nn:Nat)(w:World)(h:PSrv N w sb s cm wv cbs xs ws){M L:Int}(hI:SrvInv M L s)(htv:RdB w tv d.tok)(hp:0<d.tok.length)(hf:ei s.conns d.cid=none)(hno:d.cid∉s.conns.map (·.cid))(hcid:0<=d.cid/\d.cid<=1073741823)(hadr:0<=addr/\addr<256)(hsz:0<=size/\size<=1125899906842624)(hM0:0<=M)(hM:M+size+100<=1125899906842624)
  (hbv:RdB w fv b) (hby:Bytes b) (hl:b.length<=1073741823) (hn:b.length<=nn) (hN:N+1+b.length<1125899906842624) (hE:∀W,Chg (cj sb cm wv cbs xs) w W->Env W):
  Calls Tryz.prog 48 #[.pointer (some ⟨sb,0,none⟩),.int .i64 addr,.agg (dgC d size tv fv)] w fun e w'=>SOut (N+1+b.length) w sb cm wv cbs xs (fM s addr d.cid size d.tok b nn []) e w':=by
 obtain⟨t1,t3,rfl⟩:=dE htv
 obtain⟨f1,f3,rfl⟩:=dE hbv
 rw[hello_tok hf hp]
 have hba:Below w.heap.size w (w.alloc (.cells #[.int .i64 d.kind,.int .i64 size,.int .i64 d.cid,.slice t1 d.tok.length t3,.int .i64 d.num,.slice f1 b.length f3] 107)):=ag w _
 have klook:∀q,(Instr.lookup 98 (.map (some cm)) (.int .i64 d.cid) false).run Tryz.prog ((w.alloc (.cells #[.int .i64 d.kind,.int .i64 size,.int .i64 d.cid,.slice t1 d.tok.length t3,.int .i64 d.num,.slice f1 b.length f3] 107)).drewN q)=.ok (.pointer none) ((w.alloc (.cells #[.int .i64 d.kind,.int .i64 size,.int .i64 d.cid,.slice t1 d.tok.length t3,.int .i64 d.num,.slice f1 b.length f3] 107)).drewN q):=fun q=>(h.below (ak hba q)).lookN hcid hno
 have HTh:Hid (∀W,Below w.heap.size w W->Calls Tryz.prog 90 #[.int .i64 s.c.c9,.int .i64 addr,.int .i64 s.now,.slice t1 d.tok.length t3] W fun e w'=>e=.returned (.bool (kK s.c s.now addr d.tok))/\Below W.heap.size W w'):=fun W hW=>oI s.c s.now addr d.tok _ W (htv.below hW) hadr (by have:=hI.cfg.c9;omega)
 have HOp:Hid (∀W,Below w.heap.size w W->Calls Tryz.prog 91 #[.pointer (some ⟨sb,0,none⟩),.int .i64 addr,.agg #[.int .i64 d.kind,.int .i64 size,.int .i64 d.cid,.slice t1 d.tok.length t3,.int .i64 d.num,.slice f1 b.length f3],.bool true] W fun e w'=>SOut (N+1+b.length) w sb cm wv cbs xs (if fz s then(s,[]) else kQ s d.cid addr size b nn []) e w'):=by
  intro W hW
  refine(sq N sb s cm wv cbs xs ws addr size d (.slice t1 d.tok.length t3) (.slice f1 b.length f3) true b nn W (h.below hW) hI ⟨_,_,_,rfl⟩ hno hcid hadr hsz hM0 hM (hbv.below hW) hby hl hn hN (fun W' hW'=>hE W' ((Chg.of_below hW).trans hW'))).mono ?_
  intro e w' hS
  rw[if_pos rfl]at hS
  exact hS.after hW
 have HE0:Hid (∀(W:World),Below w.heap.size w W->SOut (N+1+b.length) w sb cm wv cbs xs (s,[]) (.returned (.slice none 0 0)) W):=fun W hW=>SOut.mk1 h (OutsAt.nil _ _) ((h.below hW).mono (by omega)) (fun k hk=>Or.inl hk) (fun k hk=>hk) (Chg.of_below hW)
 generalize (if fz s then((s,[]):ay×List (Int×List Int)) else kQ s d.cid addr size b nn [])=R at HOp⊢
 have hS0:=h.blk.below hba
 have k11:(w.alloc (.cells #[.int .i64 d.kind,.int .i64 size,.int .i64 d.cid,.slice t1 d.tok.length t3,.int .i64 d.num,.slice f1 b.length f3] 107)).cell? ⟨sb,11,none⟩= some (.map (some cm)):=hS0.cell 11
 have k9:(w.alloc (.cells #[.int .i64 d.kind,.int .i64 size,.int .i64 d.cid,.slice t1 d.tok.length t3,.int .i64 d.num,.slice f1 b.length f3] 107)).cell? ⟨sb,9,none⟩= some (.int .i64 s.c.c9):=hS0.cell 9
 have k10:(w.alloc (.cells #[.int .i64 d.kind,.int .i64 size,.int .i64 d.cid,.slice t1 d.tok.length t3,.int .i64 d.num,.slice f1 b.length f3] 107)).cell? ⟨sb,10,none⟩= some (.int .i64 s.now):=hS0.cell 10
 have b0:(w.alloc (.cells #[.int .i64 d.kind,.int .i64 size,.int .i64 d.cid,.slice t1 d.tok.length t3,.int .i64 d.num,.slice f1 b.length f3] 107)).cell? ⟨w.heap.size,0,none⟩= some (.int .i64 d.kind):=by simp
 have b1:(w.alloc (.cells #[.int .i64 d.kind,.int .i64 size,.int .i64 d.cid,.slice t1 d.tok.length t3,.int .i64 d.num,.slice f1 b.length f3] 107)).cell? ⟨w.heap.size,1,none⟩= some (.int .i64 size):=by simp
 have b2:(w.alloc (.cells #[.int .i64 d.kind,.int .i64 size,.int .i64 d.cid,.slice t1 d.tok.length t3,.int .i64 d.num,.slice f1 b.length f3] 107)).cell? ⟨w.heap.size,2,none⟩= some (.int .i64 d.cid):=by simp
 have b3:(w.alloc (.cells #[.int .i64 d.kind,.int .i64 size,.int .i64 d.cid,.slice t1 d.tok.length t3,.int .i64 d.num,.slice f1 b.length f3] 107)).cell? ⟨w.heap.size,3,none⟩= some (.slice t1 d.tok.length t3):=by simp
 have b4:(w.alloc (.cells #[.int .i64 d.kind,.int .i64 size,.int .i64 d.cid,.slice t1 d.tok.length t3,.int .i64 d.num,.slice f1 b.length f3] 107)).cell? ⟨w.heap.size,4,none⟩= some (.int .i64 d.num):=by simp
 have b5:(w.alloc (.cells #[.int .i64 d.kind,.int .i64 size,.int .i64 d.cid,.slice t1 d.tok.length t3,.int .i64 d.num,.slice f1 b.length f3] 107)).cell? ⟨w.heap.size,5,none⟩= some (.slice f1 b.length f3):=by simp
 generalize kK s.c s.now addr d.tok=G at HTh⊢
 obtain⟨F,hF⟩:∃F:ay×List (Int×List Int),(if G=true then R else(s,[]))=F:=⟨_,rfl⟩
 rw[hF]
 have HF:=ab hF
 clear hF
 generalize N+1+b.length=NN at HOp HE0⊢
 generalize b.length=f2 at *
 generalize d.tok.length=t2 at *
 unfold dgC
 have hpz:(0:Int)<(t2:Int):=by omega
 have HBa:=ab hba
 clear h hI hba hf hno hbv htv hby hS0 hM hE hN hn hl
 generalize hW0:(w.alloc (.cells #[.int .i64 d.kind,.int .i64 size,.int .i64 d.cid,.slice t1 t2 t3,.int .i64 d.num,.slice f1 f2 f3] 107))=w0 at *
 have HW0:=ab hW0
 clear hW0
 go_enter Tryz.func48,Tryz.ntmps48
 go_wp2_with fail
 rw[HW0.out]
 go_quiet (fail)
 have hB1:=ak HBa.out nq
 have hB01:Below w0.heap.size w0 (w0.drewN nq):=ak (Below.refl _ _) _
 generalize w0.drewN nq=w1 at hB1 hB01⊢
 replace k9:=ae k9 hB01
 replace k10:=ae k10 hB01
 replace b0:=ae b0 hB01
 replace b1:=ae b1 hB01
 replace b2:=ae b2 hB01
 replace b3:=ae b3 hB01
 replace b4:=ae b4 hB01
 replace b5:=ae b5 hB01
 have HB1:=ab hB1
 clear hB1 hB01 klook HW0 HBa k11
 have HA:Hid (∀W W':World,Below W.heap.size W W'->(W.cell? ⟨sb,9,none⟩= some (.int .i64 s.c.c9)/\W.cell? ⟨sb,10,none⟩= some (.int .i64 s.now)/\W.cell? ⟨w.heap.size,0,none⟩= some (.int .i64 d.kind)/\W.cell? ⟨w.heap.size,1,none⟩= some (.int .i64 size)/\W.cell? ⟨w.heap.size,2,none⟩= some (.int .i64 d.cid)/\W.cell? ⟨w.heap.size,3,none⟩= some (.slice t1 t2 t3)/\W.cell? ⟨w.heap.size,4,none⟩= some (.int .i64 d.num)/\W.cell? ⟨w.heap.size,5,none⟩= some (.slice f1 f2 f3))->(W'.cell? ⟨sb,9,none⟩= some (.int .i64 s.c.c9)/\W'.cell? ⟨sb,10,none⟩= some (.int .i64 s.now)/\W'.cell? ⟨w.heap.size,0,none⟩= some (.int .i64 d.kind)/\W'.cell? ⟨w.heap.size,1,none⟩= some (.int .i64 size)/\W'.cell? ⟨w.heap.size,2,none⟩= some (.int .i64 d.cid)/\W'.cell? ⟨w.heap.size,3,none⟩= some (.slice t1 t2 t3)/\W'.cell? ⟨w.heap.size,4,none⟩= some (.int .i64 d.num)/\W'.cell? ⟨w.heap.size,5,none⟩= some (.slice f1 f2 f3))):=fun W W' hb h=>⟨ae h.1 hb,ae h.2.1 hb,ae h.2.2.1 hb,ae h.2.2.2.1 hb,ae h.2.2.2.2.1 hb,ae h.2.2.2.2.2.1 hb,ae h.2.2.2.2.2.2.1 hb,ae h.2.2.2.2.2.2.2 hb⟩
 go_wp2_with fail
 go_region_held3 (fun w'=>w'.cell? ⟨sb,9,none⟩= some (.int .i64 s.c.c9)/\w'.cell? ⟨sb,10,none⟩= some (.int .i64 s.now)/\w'.cell? ⟨w.heap.size,0,none⟩= some (.int .i64 d.kind)/\w'.cell? ⟨w.heap.size,1,none⟩= some (.int .i64 size)/\w'.cell? ⟨w.heap.size,2,none⟩= some (.int .i64 d.cid)/\w'.cell? ⟨w.heap.size,3,none⟩= some (.slice t1 t2 t3)/\w'.cell? ⟨w.heap.size,4,none⟩= some (.int .i64 d.num)/\w'.cell? ⟨w.heap.size,5,none⟩= some (.slice f1 f2 f3)) (first|assumption|go_keep) (first
  |(go_at_call 90;refine(HTh.out _ (ak HB1.out 1)).mono ?_;rintro e w2 ⟨rfl,hb2⟩;have hSq:=HA.out _ _ hb2 (by first|assumption|exact⟨k9,k10,b0,b1,b2,b3,b4,b5⟩)))
 obtain⟨-,-,c0,c1,c2,c3,c4,c5⟩:=hSq
 have HB2:=ab (ai HB1.out (aq hb2))
 clear hb2 HTh k9 k10 b0 b1 b2 b3 b4 b5 HA HB1
 cases G with
 |false=>
  have HF0:Hid (F=(s,[])):=by
   show _=_
   rw[<-HF.out]
   rfl
  clear HF HOp
  go_wp2_with fail
  go_ret
  rw[HF0.out]
  exact HE0.out _ HB2.out
 |true=>
  have HF0:Hid (F=R):=by
   show _=_
   rw[<-HF.out]
   rfl
  have HO2:=ab (HOp.out w2 HB2.out)
  rw[<-HF0.out]at HO2
  clear HOp HE0 HF HF0
  go_wp2_with fail
  refine HO2.out.mono ?_
  intro e w3 hS
  obtain⟨v,rfl,ho⟩:=hS.ret
  obtain⟨va,vc,rfl⟩:=ho.form
  have HS:=ab hS
  clear hS ho HO2
  go_wp2_with fail
  go_ret
  exact HS.out
theorem vK [LoM] (N:Nat)(sb:Nat)(s:ay)(cm:Nat)(wv:Value)(cbs:List Nat)(xs:List aJ)(ws:List Nat)(addr size:Int)(d:DgS)(tv fv:Value)(b:List Int)(nn:Nat)(w:World)(h:PSrv N w sb s cm wv cbs xs ws){M L:Int}(hI:SrvInv M L s)(htv:RdB w tv d.tok)(hp:d.tok.length=0)(hf:ei s.conns d.cid=none)(hno:d.cid∉s.conns.map (·.cid))(hcid:0<=d.cid/\d.cid<=1073741823)(hadr:0<=addr/\addr<256)(hsz:0<=size/\size<=1125899906842624)(hM0:0<=M)(hM:M+size+100<=1125899906842624)
  (hbv:RdB w fv b) (hby:Bytes b) (hl:b.length<=1073741823) (hn:b.length<=nn) (hN:N+1+b.length<1125899906842624) (hE:∀W,Chg (cj sb cm wv cbs xs) w W->Env W):
  Calls Tryz.prog 48 #[.pointer (some ⟨sb,0,none⟩),.int .i64 addr,.agg (dgC d size tv fv)] w fun e w'=>SOut (N+1+b.length) w sb cm wv cbs xs (fM s addr d.cid size d.tok b nn []) e w':=by
 obtain⟨t1,t3,rfl⟩:=dE htv
 obtain⟨f1,f3,rfl⟩:=dE hbv
 rw[xf hf (by omega)]
 rw[hp]
 have hba:Below w.heap.size w (w.alloc (.cells #[.int .i64 d.kind,.int .i64 size,.int .i64 d.cid,.slice t1 0 t3,.int .i64 d.num,.slice f1 b.length f3] 107)):=ag w _
 have klook:∀q,(Instr.lookup 98 (.map (some cm)) (.int .i64 d.cid) false).run Tryz.prog ((w.alloc (.cells #[.int .i64 d.kind,.int .i64 size,.int .i64 d.cid,.slice t1 0 t3,.int .i64 d.num,.slice f1 b.length f3] 107)).drewN q)=.ok (.pointer none) ((w.alloc (.cells #[.int .i64 d.kind,.int .i64 size,.int .i64 d.cid,.slice t1 0 t3,.int .i64 d.num,.slice f1 b.length f3] 107)).drewN q):=fun q=>(h.below (ak hba q)).lookN hcid hno
 have HUn:Hid (∀W,Below w.heap.size w W->Calls Tryz.prog 92 #[.pointer (some ⟨sb,0,none⟩)] W fun e w'=>e=.returned (.int .i64 (unpS s.conns))/\Below W.heap.size W w'):=by
  intro W hW
  have hPW:=h.below hW
  obtain⟨n,hnN,hm⟩:=hPW.map
  classical
  have hpv:∀(i:Nat) c bb,s.conns[i]? =some c->cbs[i]? =some bb->(decide (W.cell? ⟨bb,12,none⟩= some (.bool true)))=c.proven:=by
   intro i c bb e1 e2
   obtain⟨a,ha⟩:∃a,xs[i]? =some a:=⟨_,lGe (by rw[h.len2];exact(lLt e1))⟩
   have hc:W.cell? ⟨bb,12,none⟩= some (.bool c.proven):=(hPW.con i c bb a e1 e2 ha).blk.cell 12
   rw[hc]
   cases c.proven<;>simp
  have hun:=unp_is (fun bb=>decide (W.cell? ⟨bb,12,none⟩= some (.bool true))) s.conns cbs h.len1 hpv
  have h1:=qQ sb s.c s.now cm wv n _ (fun bb=>decide (W.cell? ⟨bb,12,none⟩= some (.bool true))) W hPW.blk hm (by
   rintro⟨q1,q2⟩ hq
   obtain⟨i,hi⟩:=List.getElem?_of_mem hq
   rw[List.getElem?_zip_eq_some]at hi
   obtain⟨e1,e2⟩:=hi
   simp only[List.getElem?_map,Option.map_eq_some_iff]at e1
   obtain⟨c,e1,_⟩:=e1
   obtain⟨a,ha⟩:∃a,xs[i]? =some a:=⟨_,lGe (by rw[h.len2];exact(lLt e1))⟩
   have hc:W.cell? ⟨q2,12,none⟩= some (.bool c.proven):=(hPW.con i c q2 a e1 e2 ha).blk.cell 12
   show W.cell? ⟨q2,12,none⟩= some (.bool (decide (W.cell? ⟨q2,12,none⟩= some (.bool true))))
   rw[hpv i c q2 e1 e2,hc]) (by simp[h.len1];have:=hI.few;have:=hI.cfg.c0;omega)
  rw[hun]at h1
  exact h1
 have HRt:Hid (∀W,Below w.heap.size w W->Calls Tryz.prog 93 #[.pointer (some ⟨sb,0,none⟩),.int .i64 addr,.agg #[.int .i64 d.kind,.int .i64 size,.int .i64 d.cid,.slice t1 0 t3,.int .i64 d.num,.slice f1 b.length f3]] W fun e w'=>SOut (N+1+b.length) w sb cm wv cbs xs (s,kU s addr d.cid size []) e w'):=fun W hW=>(sretry_any N sb s cm wv cbs xs ws addr size d (.slice t1 0 t3) (.slice f1 b.length f3) W (h.below hW) hI.cfg hI.now hadr hcid hsz ⟨_,_,_,rfl⟩ ⟨_,_,_,rfl⟩).mono fun e w' hS=>(hS.after hW).mono (by omega)
 have HOp:Hid (∀W,Below w.heap.size w W->Calls Tryz.prog 91 #[.pointer (some ⟨sb,0,none⟩),.int .i64 addr,.agg #[.int .i64 d.kind,.int .i64 size,.int .i64 d.cid,.slice t1 0 t3,.int .i64 d.num,.slice f1 b.length f3],.bool false] W fun e w'=>SOut (N+1+b.length) w sb cm wv cbs xs (if fz s then(s,[]) else lF s d.cid addr size b nn []) e w'):=by
  intro W hW
  refine(sq N sb s cm wv cbs xs ws addr size d (.slice t1 0 t3) (.slice f1 b.length f3) false b nn W (h.below hW) hI ⟨_,_,_,rfl⟩ hno hcid hadr hsz hM0 hM (hbv.below hW) hby hl hn hN (fun W' hW'=>hE W' ((Chg.of_below hW).trans hW'))).mono ?_
  intro e w' hS
  simp only[Bool.false_eq_true,if_false]at hS
  exact hS.after hW
 generalize (if fz s then((s,[]):ay×List (Int×List Int)) else lF s d.cid addr size b nn [])=R at HOp⊢
 generalize ((s,kU s addr d.cid size []):ay×List (Int×List Int))=R2 at HRt⊢
 have hS0:=h.blk.below hba
 have k11:(w.alloc (.cells #[.int .i64 d.kind,.int .i64 size,.int .i64 d.cid,.slice t1 0 t3,.int .i64 d.num,.slice f1 b.length f3] 107)).cell? ⟨sb,11,none⟩= some (.map (some cm)):=hS0.cell 11
 have k5:(w.alloc (.cells #[.int .i64 d.kind,.int .i64 size,.int .i64 d.cid,.slice t1 0 t3,.int .i64 d.num,.slice f1 b.length f3] 107)).cell? ⟨sb,5,none⟩= some (.int .i64 s.c.c5):=hS0.cell 5
 have b0:(w.alloc (.cells #[.int .i64 d.kind,.int .i64 size,.int .i64 d.cid,.slice t1 0 t3,.int .i64 d.num,.slice f1 b.length f3] 107)).cell? ⟨w.heap.size,0,none⟩= some (.int .i64 d.kind):=by simp
 have b1:(w.alloc (.cells #[.int .i64 d.kind,.int .i64 size,.int .i64 d.cid,.slice t1 0 t3,.int .i64 d.num,.slice f1 b.length f3] 107)).cell? ⟨w.heap.size,1,none⟩= some (.int .i64 size):=by simp
 have b2:(w.alloc (.cells #[.int .i64 d.kind,.int .i64 size,.int .i64 d.cid,.slice t1 0 t3,.int .i64 d.num,.slice f1 b.length f3] 107)).cell? ⟨w.heap.size,2,none⟩= some (.int .i64 d.cid):=by simp
 have b3:(w.alloc (.cells #[.int .i64 d.kind,.int .i64 size,.int .i64 d.cid,.slice t1 0 t3,.int .i64 d.num,.slice f1 b.length f3] 107)).cell? ⟨w.heap.size,3,none⟩= some (.slice t1 0 t3):=by simp
 have b4:(w.alloc (.cells #[.int .i64 d.kind,.int .i64 size,.int .i64 d.cid,.slice t1 0 t3,.int .i64 d.num,.slice f1 b.length f3] 107)).cell? ⟨w.heap.size,4,none⟩= some (.int .i64 d.num):=by simp
 have b5:(w.alloc (.cells #[.int .i64 d.kind,.int .i64 size,.int .i64 d.cid,.slice t1 0 t3,.int .i64 d.num,.slice f1 b.length f3] 107)).cell? ⟨w.heap.size,5,none⟩= some (.slice f1 b.length f3):=by simp
 generalize unpS s.conns=U at HUn⊢
 obtain⟨F,hF⟩:∃F:ay×List (Int×List Int),(if s.c.c5<=U then R2 else R)=F:=⟨_,rfl⟩
 rw[hF]
 have HF:=ab hF
 clear hF
 generalize N+1+b.length=NN at HOp HRt⊢
 generalize b.length=f2 at *
 unfold dgC
 have HBa:=ab hba
 clear h hI hba hf hno hbv htv hby hS0 hM hE hN hn hl hp
 generalize hW0:(w.alloc (.cells #[.int .i64 d.kind,.int .i64 size,.int .i64 d.cid,.slice t1 0 t3,.int .i64 d.num,.slice f1 f2 f3] 107))=w0 at *
 have HW0:=ab hW0
 clear hW0
 go_enter Tryz.func48,Tryz.ntmps48
 go_wp2_with fail
 rw[HW0.out]
 go_quiet (fail)
 have hB1:=ak HBa.out nq
 have hB01:Below w0.heap.size w0 (w0.drewN nq):=ak (Below.refl _ _) _
 generalize w0.drewN nq=w1 at hB1 hB01⊢
 replace k5:=ae k5 hB01
 replace b0:=ae b0 hB01
 replace b1:=ae b1 hB01
 replace b2:=ae b2 hB01
 replace b3:=ae b3 hB01
 replace b4:=ae b4 hB01
 replace b5:=ae b5 hB01
 have HB1:=ab hB1
 clear hB1 hB01 klook HW0 HBa k11
 have HA:Hid (∀W W':World,Below W.heap.size W W'->(W.cell? ⟨sb,5,none⟩= some (.int .i64 s.c.c5)/\W.cell? ⟨w.heap.size,0,none⟩= some (.int .i64 d.kind)/\W.cell? ⟨w.heap.size,1,none⟩= some (.int .i64 size)/\W.cell? ⟨w.heap.size,2,none⟩= some (.int .i64 d.cid)/\W.cell? ⟨w.heap.size,3,none⟩= some (.slice t1 0 t3)/\W.cell? ⟨w.heap.size,4,none⟩= some (.int .i64 d.num)/\W.cell? ⟨w.heap.size,5,none⟩= some (.slice f1 f2 f3))->(W'.cell? ⟨sb,5,none⟩= some (.int .i64 s.c.c5)/\W'.cell? ⟨w.heap.size,0,none⟩= some (.int .i64 d.kind)/\W'.cell? ⟨w.heap.size,1,none⟩= some (.int .i64 size)/\W'.cell? ⟨w.heap.size,2,none⟩= some (.int .i64 d.cid)/\W'.cell? ⟨w.heap.size,3,none⟩= some (.slice t1 0 t3)/\W'.cell? ⟨w.heap.size,4,none⟩= some (.int .i64 d.num)/\W'.cell? ⟨w.heap.size,5,none⟩= some (.slice f1 f2 f3))):=fun W W' hb h=>⟨ae h.1 hb,ae h.2.1 hb,ae h.2.2.1 hb,ae h.2.2.2.1 hb,ae h.2.2.2.2.1 hb,ae h.2.2.2.2.2.1 hb,ae h.2.2.2.2.2.2 hb⟩
 go_wp2_with fail
 go_region_held3 (fun w'=>w'.cell? ⟨sb,5,none⟩= some (.int .i64 s.c.c5)/\w'.cell? ⟨w.heap.size,0,none⟩= some (.int .i64 d.kind)/\w'.cell? ⟨w.heap.size,1,none⟩= some (.int .i64 size)/\w'.cell? ⟨w.heap.size,2,none⟩= some (.int .i64 d.cid)/\w'.cell? ⟨w.heap.size,3,none⟩= some (.slice t1 0 t3)/\w'.cell? ⟨w.heap.size,4,none⟩= some (.int .i64 d.num)/\w'.cell? ⟨w.heap.size,5,none⟩= some (.slice f1 f2 f3)) (first|assumption|go_keep) (first
  |(go_at_call 92;refine(HUn.out _ (ak HB1.out 1)).mono ?_;rintro e w2 ⟨rfl,hb2⟩;have hSq:=HA.out _ _ hb2 (by first|assumption|exact⟨k5,b0,b1,b2,b3,b4,b5⟩);have k5':=hSq.1))
 obtain⟨-,c0,c1,c2,c3,c4,c5⟩:=hSq
 have HB2:=ab (ai HB1.out (aq hb2))
 clear hb2 HUn k5 k5' b0 b1 b2 b3 b4 b5 HA HB1
 by_cases hle:s.c.c5<=U
 ·have HF0:Hid (F=R2):=by
   show _=_
   rw[<-HF.out,if_pos hle]
  have HO2:=ab (HRt.out w2 HB2.out)
  rw[<-HF0.out]at HO2
  clear HOp HRt HF HF0
  go_wp2_with fail
  refine HO2.out.mono ?_
  intro e w3 hS
  obtain⟨v,rfl,ho⟩:=hS.ret
  obtain⟨va,vc,rfl⟩:=ho.form
  have HS:=ab hS
  clear hS ho HO2
  go_wp2_with fail
  go_ret
  exact HS.out
 ·have HF0:Hid (F=R):=by
   show _=_
   rw[<-HF.out,if_neg hle]
  have HO2:=ab (HOp.out w2 HB2.out)
  rw[<-HF0.out]at HO2
  clear HOp HRt HF HF0
  go_wp2_with fail
  refine HO2.out.mono ?_
  intro e w3 hS
  obtain⟨v,rfl,ho⟩:=hS.ret
  obtain⟨va,vc,rfl⟩:=ho.form
  have HS:=ab hS
  clear hS ho HO2
  go_wp2_with fail
  go_ret
  exact HS.out
theorem shello_any [LoM] (N:Nat)(sb:Nat)(s:ay)(cm:Nat)(wv:Value)(cbs:List Nat)(xs:List aJ)(ws:List Nat)(addr size:Int)(d:DgS)(tv fv:Value)(b:List Int)(nn:Nat)(w:World)(h:PSrv N w sb s cm wv cbs xs ws){M L:Int}(hI:SrvInv M L s)(htv:RdB w tv d.tok)(hcid:0<=d.cid/\d.cid<=1073741823)(hadr:0<=addr/\addr<256)(hsz:0<=size/\size<=1125899906842624)(hM0:0<=M)(hM:M+size+100<=1125899906842624)
  (hbv:RdB w fv b) (hby:Bytes b) (hl:b.length<=1073741823) (hn:b.length<=nn) (hN:N+1+b.length<1125899906842624) (hE:∀W,Chg (cj sb cm wv cbs xs) w W->Env W):
  Calls Tryz.prog 48 #[.pointer (some ⟨sb,0,none⟩),.int .i64 addr,.agg (dgC d size tv fv)] w fun e w'=>SOut (N+1+b.length) w sb cm wv cbs xs (fM s addr d.cid size d.tok b nn []) e w':=by
 rcases jw (l:=s.conns) (cid:=d.cid) with⟨hf,hno⟩|⟨k,c,hf,hk,hkc⟩
 ·by_cases hp:0<d.tok.length
  ·exact shello_tok N sb s cm wv cbs xs ws addr size d tv fv b nn w h hI htv hp hf hno hcid hadr hsz hM0 hM hbv hby hl hn hN hE
  ·exact vK N sb s cm wv cbs xs ws addr size d tv fv b nn w h hI htv (by omega) hf hno hcid hadr hsz hM0 hM hbv hby hl hn hN hE
 ·obtain⟨t1,t3,e1⟩:=dE htv
  obtain⟨f1,f3,e2⟩:=dE hbv
  rw[uW hf hk]
  exact(tD N sb s cm wv cbs xs ws addr size d tv fv w h hI ⟨_,_,_,e1⟩ ⟨_,_,_,e2⟩ hk hkc hcid hsz.1 (by omega)).mono fun e w' hS=>hS.mono (by omega)
theorem tA{s:ay}{addr:Int}{b:List Int}(h:fK b=none\/¬(0<=addr/\addr<=255)):bg s addr b=(s,[]):=by
 unfold bg
 by_cases ha:0<=addr/\addr<=255
 ·rw[if_neg (by simp[ha])]
  rcases h with h|h
  ·rw[h]
  ·exact absurd ha h
 ·rw[if_pos ha]
theorem qH{s:ay}{addr:Int}{b:List Int}{d:DgS}(h:fK b=some d)(ha:0<=addr/\addr<=255)(hk:d.kind=1):bg s addr b=fM s addr d.cid b.length d.tok d.frames b.length []:=by
 unfold bg
 rw[if_neg (by simp[ha]),h]
 simp only
 rw[if_pos hk]
theorem tx{s:ay}{addr:Int}{b:List Int}{d:DgS}(h:fK b=some d)(ha:0<=addr/\addr<=255)(hk:d.kind≠1):bg s addr b=gi s addr d.cid d.num b.length d.frames b.length []:=by
 unfold bg
 rw[if_neg (by simp[ha]),h]
 simp only
 rw[if_neg hk]
theorem argE_of{n hi:Int}:jd n hi=if 0<=n/\n<=hi then 0 else 2:=by
 unfold jd eL
 by_cases h:0<=n/\n<=hi
 ·rw[if_pos h,if_pos (decide_eq_true h)]
 ·rw[if_neg h,if_neg (by simp only[decide_eq_true_eq];exact h)]
theorem mV [LoM] (N:Nat)(sb:Nat)(s:ay)(cm:Nat)(wv:Value)(cbs:List Nat)(xs:List aJ)(ws:List Nat)(addr:Int)(b:List Int)(bv:Value)(w:World)(h:PSrv N w sb s cm wv cbs xs ws){M L:Int}(hI:SrvInv M L s)(hbv:RdB w bv b)(hl:b.length<=1073741823)(hM0:0<=M)(hM:M+b.length+100<=1125899906842624)(hN:N+1+b.length<1125899906842624)(hE:∀W,Chg (cj sb cm wv cbs xs) w W->Env W):
  Calls Tryz.prog 20 #[.pointer (some ⟨sb,0,none⟩),.int .i64 addr,bv] w fun e w'=>SOut (N+1+b.length) w sb cm wv cbs xs (bg s addr b) e w':=by
 obtain⟨a1,a3,rfl⟩:=dE hbv
 have HRd:=ab (nh b _ w (hE w (Chg.refl _ _)) hbv)
 have hEb:∀W,Below w.heap.size w W->Env W:=fun W hW=>hE W (Chg.of_below hW)
 have HE0:Hid (∀(W:World),Below w.heap.size w W->(fK b=none\/¬(0<=addr/\addr<=255))->SOut (N+1+b.length) w sb cm wv cbs xs (bg s addr b) (.returned (.slice none 0 0)) W):=by
  intro W hW hno
  rw[tA hno]
  exact SOut.mk1 h (OutsAt.nil _ _) ((h.below hW).mono (by omega)) (fun k hk=>Or.inl hk) (fun k hk=>hk) (Chg.of_below hW)
 have hby:Bytes b:=hbv.1
 rcases dgramR_is (b:=b) with⟨hd,hbad⟩|⟨d,hd,hdr,hbad⟩
 ·have HF:=ab (fun W hW=>HE0.out W hW (Or.inl hd))
  have HEn:=ab hEb
  clear h hI hbv hE hEb HE0 hN hM hl
  generalize bg s addr b=R at HF⊢
  go_enter Tryz.func20,Tryz.ntmps20
  go_wp2_with fail
  refine HRd.out.mono ?_
  intro e w1 ho
  obtain⟨k,cv,rfl,hk,hne⟩:=ho.bad hbad
  obtain⟨tt,aa,rfl⟩:=hne.form01
  have hb1:=ai ho.bel (ag w1 (.cells dD 107))
  have HIs:=ab (oV k _ (w1.alloc (.cells dD 107)) (HEn.out _ hb1) (by omega) (hne.below (ag _ _)))
  have HB1:=ab hb1
  unfold dD at HIs HB1
  clear ho hb1 HRd hne
  unfold dD
  go_wp2_with fail
  refine HIs.out.mono ?_
  rintro e w2 ⟨rfl,hb2⟩
  have HB2:=ab (ai HB1.out hb2)
  clear hb2 HB1 HIs
  go_wp2_with fail
  go_ret
  exact HF.out _ HB2.out
 ·obtain⟨hkd,hcid,hnum,hbt,hbf,hlt,hlf⟩:=rE hby hd
  have HHe:Hid (d.kind=1->(0<=addr/\addr<=255)->∀(W:World) (tv fv:Value),Below w.heap.size w W->RdB W tv d.tok->RdB W fv d.frames->Calls Tryz.prog 48 #[.pointer (some ⟨sb,0,none⟩),.int .i64 addr,.agg (dgC d b.length tv fv)] W fun e w'=>SOut (N+1+b.length) w sb cm wv cbs xs (bg s addr b) e w'):=by
   intro hk1 ha W tv fv hW htv hfv
   rw[qH hd ha hk1]
   refine(shello_any N sb s cm wv cbs xs ws addr b.length d tv fv d.frames b.length W (h.below hW) hI htv hcid ⟨ha.1,by omega⟩ ⟨by omega,by omega⟩ hM0 hM hfv hbf (by omega) hlf (by omega) (fun W' hW'=>hE W' ((Chg.of_below hW).trans hW'))).mono ?_
   intro e w' hS
   exact(hS.after hW).mono (by omega)
  have HDa:Hid (d.kind≠1->(0<=addr/\addr<=255)->∀(W:World) (tv fv:Value),Below w.heap.size w W->RdB W tv d.tok->RdB W fv d.frames->Calls Tryz.prog 49 #[.pointer (some ⟨sb,0,none⟩),.int .i64 addr,.agg (dgC d b.length tv fv)] W fun e w'=>SOut (N+1+b.length) w sb cm wv cbs xs (bg s addr b) e w'):=by
   intro hk1 ha W tv fv hW htv hfv
   rw[tx hd ha hk1]
   obtain⟨u1,u3,eu⟩:=dE htv
   refine(sdata_any N sb s cm wv cbs xs ws addr b.length d tv fv d.frames b.length W (h.below hW) hI ⟨_,_,_,eu⟩ hcid hnum ⟨by omega,by omega⟩ hM0 hM hfv hbf (by omega) hlf (by omega) (fun W' hW'=>hE W' ((Chg.of_below hW).trans hW'))).mono ?_
   intro e w' hS
   exact(hS.after hW).mono (by omega)
  have HAdr:=ab (fun W=>jN addr W)
  rw[argE_of]at HAdr
  have HEn:=ab hEb
  clear h hI hbv hE hEb hN hM hl hbt hbf hby
  generalize bg s addr b=R at HE0 HHe HDa⊢
  generalize N+1+b.length=NN at HE0 HHe HDa⊢
  by_cases ha:0<=addr/\addr<=255
  ·rw[if_pos ha]at HAdr
   go_enter Tryz.func20,Tryz.ntmps20
   go_wp2_with fail
   refine HRd.out.mono ?_
   intro e w1 ho
   obtain⟨tv,fv,rfl,htv,hfv⟩:=ho.ok hbad
   rw[hdr]at htv hfv
   rw[hdr]
   have hbel:=ho.bel
   obtain⟨u1,u3,eu⟩:=dE htv
   obtain⟨v1,v3,ev⟩:=dE hfv
   subst eu
   subst ev
   have hb1:=ai hbel (ag w1 (.cells (dgC d b.length (.slice u1 d.tok.length u3) (.slice v1 d.frames.length v3)) 107))
   have HTv:=ab (htv.below (ag w1 (.cells (dgC d b.length (.slice u1 d.tok.length u3) (.slice v1 d.frames.length v3)) 107)))
   have HFv:=ab (hfv.below (ag w1 (.cells (dgC d b.length (.slice u1 d.tok.length u3) (.slice v1 d.frames.length v3)) 107)))
   have HB1:=ab hb1
   have HBx:Hid ((w1.alloc (.cells (dgC d b.length (.slice u1 d.tok.length u3) (.slice v1 d.frames.length v3)) 107)).heap[w1.heap.size]? =some (.cells (dgC d b.length (.slice u1 d.tok.length u3) (.slice v1 d.frames.length v3)) 107 (0,0))):=heap_alloc_new w1 _
   have HZ:Hid (w1.heap.size<(w1.alloc (.cells (dgC d b.length (.slice u1 d.tok.length u3) (.slice v1 d.frames.length v3)) 107)).heap.size):=by show _<_;simp
   clear ho hb1 HRd htv hfv hbel
   unfold dgC at HTv HFv HB1 HBx HZ HHe HDa⊢
   go_wp2_with fail
   generalize hW0:(w1.alloc (.cells #[.int .i64 d.kind,.int .i64 (b.length:Int),.int .i64 d.cid,.slice u1 d.tok.length u3,.int .i64 d.num,.slice v1 d.frames.length v3] 107))=w0 at *
   refine(jK w0).mono ?_
   rintro e w2 ⟨rfl,hb2⟩
   have HTv2:=ab (HTv.out.below hb2)
   have HFv2:=ab (HFv.out.below hb2)
   have HB2:=ab (ai HB1.out hb2)
   have hbx2:=(hb2.block _ HZ.out).trans HBx.out
   have c0:w2.cell? ⟨w1.heap.size,0,none⟩= some (.int .i64 d.kind):=by simp only[World.cell?,hbx2];rfl
   have c1:w2.cell? ⟨w1.heap.size,1,none⟩= some (.int .i64 (b.length:Int)):=by simp only[World.cell?,hbx2];rfl
   have c2:w2.cell? ⟨w1.heap.size,2,none⟩= some (.int .i64 d.cid):=by simp only[World.cell?,hbx2];rfl
   have c3:w2.cell? ⟨w1.heap.size,3,none⟩= some (.slice u1 d.tok.length u3):=by simp only[World.cell?,hbx2];rfl
   have c4:w2.cell? ⟨w1.heap.size,4,none⟩= some (.int .i64 d.num):=by simp only[World.cell?,hbx2];rfl
   have c5:w2.cell? ⟨w1.heap.size,5,none⟩= some (.slice v1 d.frames.length v3):=by simp only[World.cell?,hbx2];rfl
   clear hb2 hbx2 HTv HFv HB1 HBx HZ hW0
   go_wp2_with fail
   refine(HAdr.out w2).mono ?_
   rintro e w3 ⟨rfl,rfl⟩
   clear HAdr
   rcases Classical.em (d.kind=1) with hk1|hk1
   ·have HC:=ab (HHe.out hk1 ha w2 _ _ HB2.out HTv2.out HFv2.out)
    have hkb:(d.kind==1)=true:=beq_iff_eq.2 hk1
    clear HHe HDa HE0 HTv2 HFv2 hk1 hkd
    go_wp2_with fail
    refine HC.out.mono ?_
    intro e w4 hS
    obtain⟨v,rfl,ho⟩:=hS.ret
    obtain⟨va,vc,rfl⟩:=ho.form
    have HS:=ab hS
    clear hS ho HC
    go_wp2_with fail
    go_ret
    exact HS.out
   ·have HC:=ab (HDa.out hk1 ha w2 _ _ HB2.out HTv2.out HFv2.out)
    have hkb:(d.kind==1)=false:=beq_eq_false_iff_ne.2 hk1
    clear HHe HDa HE0 HTv2 HFv2 hk1 hkd
    go_wp2_with fail
    refine HC.out.mono ?_
    intro e w4 hS
    obtain⟨v,rfl,ho⟩:=hS.ret
    obtain⟨va,vc,rfl⟩:=ho.form
    have HS:=ab hS
    clear hS ho HC
    go_wp2_with fail
    go_ret
    exact HS.out
  ·rw[if_neg ha]at HAdr
   have HF:=ab (fun W hW=>HE0.out W hW (Or.inr ha))
   clear HHe HDa HE0
   go_enter Tryz.func20,Tryz.ntmps20
   go_wp2_with fail
   refine HRd.out.mono ?_
   intro e w1 ho
   obtain⟨tv,fv,rfl,htv,hfv⟩:=ho.ok hbad
   have hbel:=ho.bel
   obtain⟨u1,u3,rfl⟩:=dE htv
   obtain⟨v1,v3,rfl⟩:=dE hfv
   have HB0:=ab hbel
   clear ho HRd htv hfv hbel
   unfold dgC
   go_wp2_with fail
   refine(jK _).mono ?_
   rintro e w2 ⟨rfl,hb2⟩
   have HB2:=ab (ai (ai HB0.out (ag _ _)) hb2)
   clear hb2
   go_wp2_with fail
   refine(HAdr.out w2).mono ?_
   rintro e w3 ⟨rfl,rfl⟩
   clear HAdr
   go_wp2_with fail
   go_ret
   exact HF.out _ HB2.out
section
variable {α : Type} {C : kh α} {P : Program} {K : TypeId}
end
theorem nodup_cid{l:List aw}(h:(l.map (·.cid)).Nodup){c d:aw}(hc:c∈l)(hd:d∈l)(e:c.cid=d.cid):c=d:=by
 induction l with
 |nil=>cases hc
 |cons x l ih=>
  simp only[List.map_cons,List.nodup_cons]at h
  rcases List.mem_cons.1 hc with h1|h1
  ·rcases List.mem_cons.1 hd with h2|h2
   ·rw[h1,h2]
   ·exact(h.1 (List.mem_map.2 ⟨d,h2,by rw[<-e,h1]⟩)).elim
  ·rcases List.mem_cons.1 hd with h2|h2
   ·exact(h.1 (List.mem_map.2 ⟨c,h1,by rw[e,h2]⟩)).elim
   ·exact ih h.2 h1 h2
end Go.Proofs.YthmdjhlhodpbhaaGreatDoor
