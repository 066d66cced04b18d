/- Apart, 30 -/
import Derived.BigQuiet
import Derived.Test.YthmdjhlhodpbhaaGreatDoorA07
import Derived.Test.YthmdjhlhodpbhaaGreatDoorA21
import Derived.Test.YthmdjhlhodpbhaaGreatDoorA29
set_option maxHeartbeats 16000000
set_option maxRecDepth 8000
namespace Go.Proofs.YthmdjhlhodpbhaaGreatDoor
open Go.RowKit
theorem kG(bytes ahead read:Int)(ha:0<=ahead):decide (bytes<dw bytes ahead read)=(decide (bytes<read+ahead/2)&&decide (bytes<1073741823)):=by
 unfold dw
 by_cases h:bytes<read+ahead/2
 ·rw[if_pos h]
  simp only[h,decide_true,Bool.true_and]
  congr 1
  apply propext
  omega
 ·rw[if_neg h]
  simp[h]
theorem rI(bytes ahead read:Int)(hb:bytes<=1073741823)(ha:0<=ahead):dw bytes ahead read=if decide (bytes<read+ahead/2)&&decide (bytes<1073741823) then bS read ahead else bytes:=by
 unfold dw bS
 by_cases h:bytes<read+ahead/2
 ·rw[if_pos h]
  by_cases h2:bytes<1073741823
  ·rw[if_pos (by simp[h,h2])]
   split<;>omega
  ·rw[if_neg (by simp[h,h2])]
   omega
 ·rw[if_neg h,if_neg (by simp[h])]
theorem tRaise_at(U:Nat->Prop)(b:Nat)(lv:Value)(g:Cfg)(x:aR)(gaps:Int)(w:World)(h:StrAt U w b lv g.c2 x)(hI:StrInv gaps x)(hp:0<=g.c2/\g.c2<=4096):
  Calls Tryz.prog 77 #[.pointer (some ⟨b,0,none⟩)] w fun e w'=>e=.returned (.bool (fX g x))/\StrAt U w' b lv g.c2 (if fX g x then {x with credit:=bS x.read g.c2} else x)/\Chg (· = b) w w'/\(0<=x.final->Below w.heap.size w w'):=by
 have h1:=hI.len
 have h2:=hI.cred
 have h3:=hI.read
 have c6:w.cell? ⟨b,6,none⟩= some (.bool (decide (0<=x.final))):=h.cell 6
 have c1:w.cell? ⟨b,1,none⟩= some (.int .i64 x.read):=h.cell 1
 by_cases hk:0<=x.final
 ·have hm:fX g x=false:=by
   unfold fX
   rw[decide_eq_false (by omega:¬x.final<0)]
   rfl
  rw[hm]
  simp only[Bool.false_eq_true,if_false]
  rw[show decide (0<=x.final)=true from decide_eq_true hk]at c6
  have HE:Hid (∀n,StrAt U (w.drewN n) b lv g.c2 x/\Chg (· = b) w (w.drewN n)):=fun n=>⟨h.below (ak (Below.refl _ w) n),Chg.of_below (ak (Below.refl _ w) n)⟩
  clear h hI
  go_enter Tryz.func77,Tryz.ntmps77
  go_wp2_with fail
  go_quiet (fail)
  go_wp2_with fail
  go_ret
  exact⟨rfl,(HE.out _).1,(HE.out _).2,fun _=>ak (Below.refl _ w) _⟩
 ·have hm:fX g x=decide (x.credit<dw x.credit g.c2 x.read):=by
   rw[kG _ _ _ hp.1]
   unfold fX
   rw[decide_eq_true (by omega:x.final<0)]
   rfl
  have hcr:(if fX g x then {x with credit:=bS x.read g.c2} else x) = {x with credit:=dw x.credit g.c2 x.read}:=by
   rw[hm,kG _ _ _ hp.1,rI _ _ _ h2.2 hp.1]
   split<;>rfl
  rw[hcr,hm]
  rw[show decide (0<=x.final)=false from decide_eq_false hk]at c6
  have HF:Hid (∀W:World,Below w.heap.size w W->Calls Tryz.prog 80 #[.pointer (some ⟨b,3,none⟩),.int .i64 x.read] W fun e w'=>e=.returned (.bool (decide (x.credit<dw x.credit g.c2 x.read)))/\StrAt U w' b lv g.c2 {x with credit:=dw x.credit g.c2 x.read}/\Chg (· = b) w w'):=by
   intro W hW
   have hw:=h.below hW
   refine(n6 x.credit g.c2 x.read b 3 _ 204 W hw.blk rfl rfl (by omega) (by omega)).mono ?_
   rintro e w' ⟨rfl,hw'⟩
   refine⟨rfl,?_⟩
   by_cases hl:x.credit<x.read+g.c2/2
   ·rw[if_pos hl]at hw'
    subst hw'
    obtain⟨vs,hr,hc⟩:=hw.runs
    refine⟨⟨(al hw.blk 3 _).trans (by simp),vs,hr.setB hw.blk 3 _,hc⟩,(Chg.of_below hW).trans (aI (Below.refl _ _) 3 _)⟩
   ·rw[if_neg hl]at hw'
    subst hw'
    have e:dw x.credit g.c2 x.read=x.credit:=by unfold dw;rw[if_neg hl]
    rw[e]
    exact⟨hw,Chg.of_below hW⟩
  generalize decide (x.credit<dw x.credit g.c2 x.read)=more at HF⊢
  clear h hI hcr hm
  go_enter Tryz.func77,Tryz.ntmps77
  go_wp2_with fail
  go_region_with (first
   |(go_at_call 80;refine(HF.out _ (ak (Below.refl _ w) 1)).mono ?_;rintro e w1 ⟨rfl,hS,hC⟩))
  have HS:=ab (And.intro hS hC)
  clear HF hS hC
  go_wp2_with fail
  go_ret
  exact⟨rfl,HS.out.1,HS.out.2,fun h=>by omega⟩
theorem dRead_any(fi:Int)(rs:Bool)(w:World):
  Calls Tryz.prog 72 #[.agg #[.int .i64 fi,.bool rs]] w fun e w'=>e=.returned (.agg #[.slice none 0 0,.bool (!rs),.bool rs])/\Below w.heap.size w w':=by
 have hb:=ai (ag w (.cells #[.int .i64 fi,.bool rs] 142)) (ag (w.alloc (.cells #[.int .i64 fi,.bool rs] 142)) (.cells #[.slice none 0 0,.bool (!rs),.bool rs] 46))
 have HX:=ab (heap_alloc_new (w.alloc (.cells #[.int .i64 fi,.bool rs] 142)) (.cells #[.slice none 0 0,.bool (!rs),.bool rs] 46))
 go_enter Tryz.func72,Tryz.ntmps72
 go_wp2_with fail
 refine bodyPost_ret (results_cell_row (P:=Tryz.prog) Tryz.results72 _ _ (w.alloc (.cells #[.int .i64 fi,.bool rs] 142)).heap.size 46 #[.slice none 0 0,.bool (!rs),.bool rs] (0,0) _ (by simp) (by simpa using HX.out) Tryz.underlying46 rfl (by kernel_rfl)) rfl ?_
 exact⟨rfl,hb⟩
theorem tDone_any{U:Nat->Prop}(b:Nat)(lv:Value)(piece:Int)(x:aR)(w:World)(h:StrAt U w b lv piece x):
  Calls Tryz.prog 76 #[.pointer (some ⟨b,0,none⟩)] w fun e w'=>e=.returned (.agg #[.int .i64 (max x.final 0),.bool x.reset])/\Below w.heap.size w w':=by
 have hb0:=ag w (.cells #[.int .i64 0,.bool false] 142)
 have hbl:=h.lt
 have h0:=h.below hb0
 have c5:(w.alloc (.cells #[.int .i64 0,.bool false] 142)).cell? ⟨b,5,none⟩= some (.int .i64 (max x.final 0)):=h0.cell 5
 have c7:(w.alloc (.cells #[.int .i64 0,.bool false] 142)).cell? ⟨b,7,none⟩= some (.bool x.reset):=h0.cell 7
 have x0:(w.alloc (.cells #[.int .i64 0,.bool false] 142)).heap[w.heap.size]? =some (.cells #[.int .i64 0,.bool false] 142 (0,0)):=heap_alloc_new w _
 have q0:(w.alloc (.cells #[.int .i64 0,.bool false] 142)).cell? ⟨w.heap.size,0,none⟩= some (.int .i64 0):=by simp
 have q1:(w.alloc (.cells #[.int .i64 0,.bool false] 142)).cell? ⟨w.heap.size,1,none⟩= some (.bool false):=by simp
 have z0:(w.alloc (.cells #[.int .i64 0,.bool false] 142)).frozen? ⟨w.heap.size,0,none⟩= false:=frozen_of_row _ _ 0 _ _ x0
 have z1:(w.alloc (.cells #[.int .i64 0,.bool false] 142)).frozen? ⟨w.heap.size,1,none⟩= false:=frozen_of_row _ _ 1 _ _ x0
 clear h h0 x0 hb0
 go_enter Tryz.func76,Tryz.ntmps76
 go_wp2_with fail
 go_region
 go_wp2_with fail
 refine bodyPost_ret (results_cell_row (P:=Tryz.prog) Tryz.results76 _ _ w.heap.size 142 #[.int .i64 (max x.final 0),.bool x.reset] (0,0) _ rfl (heap_alloc_new w _) Tryz.underlying142 rfl (by kernel_rfl)) rfl ?_
 exact⟨rfl,ak (ag w _) 1⟩
theorem wT(cb:Nat)(g:Cfg)(c:aw)(plv:Value)(sm dm:Nat)(past:Int)(w:World)(h:ConBlk w cb g c plv sm dm past)(hl:c.streams.length<=1073741823):
  Calls Tryz.prog 82 #[.pointer (some ⟨cb,0,none⟩)] w fun e w'=>e=.returned (.bool (decide (c.streams.length<1073741823)))/\w'=(if c.streams.length<1073741823 then w.setCell ⟨cb,20,none⟩ (.int .i64 ((c.streams.length+1:Nat):Int)) else w):=by
 have c20:w.cell? ⟨cb,20,none⟩= some (.int .i64 c.streams.length):=h.cell 20
 have z20:=h.free 20
 clear h
 by_cases hm:c.streams.length<1073741823
 ·rw[decide_eq_true hm,if_pos hm]
  have hb:((c.streams.length:Int)==1073741823)=false:=beq_eq_false_iff_ne.2 (by omega)
  have hw:IntKind.i64.wrap ((c.streams.length:Int)+1)=((c.streams.length+1:Nat):Int):=by rw[IntKind.wrap_i64];omega
  generalize c.streams.length=n at *
  go_enter Tryz.func82,Tryz.ntmps82
  go_wp2_with fail
  go_ret
  exact⟨rfl,by simp⟩
 ·rw[decide_eq_false hm,if_neg hm]
  have hb:((c.streams.length:Int)==1073741823)=true:=beq_iff_eq.2 (by omega)
  generalize c.streams.length=n at *
  go_enter Tryz.func82,Tryz.ntmps82
  go_wp2_with fail
  go_ret
  exact⟨rfl,rfl⟩
theorem cread_any(N cb:Nat)(g:Cfg)(c:aw)(a:aJ)(w:World)(h:ConAt N w cb g c a)(hi:∀x∈c.streams,StrInv g.c4 x){M:Int}(hok:ConOk M c)(hpr:0<=bm c.streams/\bm c.streams<=1152921504606846976):
  Calls Tryz.prog 81 #[.pointer (some ⟨cb,0,none⟩)] w fun e w'=>e=.returned (.int .i64 (readAll c.streams))/\Below w.heap.size w w':=by
 obtain⟨n,hn,hm⟩:=h.smap
 rw[lT hi h.mp]
 refine o6 cb a.sm n a.sl _ (bm c.streams) w (h.blk.cell 21) (h.blk.cell 23) hm (fun p hp=>?_) (fun p hp=>?_) ?_ hpr
 ·obtain⟨_,x,hx,_⟩:=h.mp.str p hp
  have e:atS (·.read) c.streams p.1=x.read:=by simp[atS,hx]
  rw[e]
  exact(h.str p hp x hx).cell 1
 ·obtain⟨_,x,hx,_⟩:=h.mp.str p hp
  have e:atS (·.read) c.streams p.1=x.read:=by simp[atS,hx]
  rw[e]
  have h1:=hi x (lMm hx)
  have h3:=h1.len
  have h4:=h1.cred
  have h5:=h1.read
  omega
 ·have h2:=hok.slen
  have h3:=h.mp.len
  omega
theorem wU(fi:Int)(rs:Bool)(w:World):
  Calls Tryz.prog 132 #[.agg #[.int .i64 fi,.bool rs]] w fun e w'=>e=.returned (.int .i64 fi)/\Below w.heap.size w w':=by
 have hb:=ag w (.cells #[.int .i64 fi,.bool rs] 142)
 go_enter Tryz.func132,Tryz.ntmps132
 go_wp2_with fail
 go_ret
 exact⟨rfl,hb⟩
structure ld(w:World)(cb:Nat)(g:Cfg)(c:aw)(plv:Value)(sm dm:Nat)(past:Int)(n1 n2:Nat)(sl:List (Int×Nat))(dl:List (Int×(Int×Bool)))(e:Ending)(w':World):Prop where
 ret:e=.returned (.tuple #[])
 blk:ConBlk w' cb g c plv sm dm past
 smap:MapIs ez Tryz.prog 3 w' sm n1 sl
 dmap:MapIs iS Tryz.prog 3 w' dm n2 dl
 chg:Chg (fun k=>k=cb\/k=sm\/k=dm) w w'
theorem uy(cb:Nat)(g:Cfg)(c:aw)(plv:Value)(sm dm:Nat)(past id fi:Int)(rs:Bool)(n1 n2 b:Nat)(sl:List (Int×Nat))(dl:List (Int×(Int×Bool)))(w:World)(h:ConBlk w cb g c plv sm dm past)(hm:MapIs ez Tryz.prog 3 w sm n1 sl)(hd:MapIs iS Tryz.prog 3 w dm n2 dl)(hne:sm≠dm)(hid:0<=id/\id<=1073741823)(hy:atK sl id=some b)(hno:atK dl id=none)(hp:0<=past/\past<=1152921504606846976)(hf:0<=fi/\fi<=1073741823)(hn2:n2<=1125899906842624):
  Calls Tryz.prog 75 #[.pointer (some ⟨cb,0,none⟩),.int .i64 id,.agg #[.int .i64 fi,.bool rs]] w fun e w'=>ld w cb g c plv sm dm (past+fi) n1 (n2+1) (gS sl id) (dl++[(id,(fi,rs))]) e w':=by
 have hb0:=ag w (.cells #[.int .i64 fi,.bool rs] 142)
 have hx0:(w.alloc (.cells #[.int .i64 fi,.bool rs] 142)).heap[w.heap.size]? =some (.cells #[.int .i64 fi,.bool rs] 142 (0,0)):=heap_alloc_new w _
 have h0:=h.below hb0
 have hsl:sm<w.heap.size:=hm.lt
 have hdl:dm<w.heap.size:=hd.lt
 have hcl:cb<w.heap.size:=h.lt
 have hm0:=hm.same (hb0.block sm hsl)
 have hd0:=hd.same (hb0.block dm hdl)
 have c21:(w.alloc (.cells #[.int .i64 fi,.bool rs] 142)).cell? ⟨cb,21,none⟩= some (.map (some sm)):=h0.cell 21
 have hwf:(Lit.int .i64 id).wf=true:=jk (k:=id) (by omega)
 have hcs:cb≠sm:=fun e=>by
  obtain⟨es,ck,q⟩:=hm.is_map
  rw[<-e,h]at q
  cases q
 have hcd:cb≠dm:=fun e=>by
  obtain⟨es,ck,q⟩:=hd.is_map
  rw[<-e,h]at q
  cases q
 have HM:=ab hm0
 have HD:=ab hd0
 have H0:=ab h0
 have HB:=ab hb0
 have HX:=ab hx0
 have HWf:=ab hwf
 have HNo:=ab hno
 clear h hm hd h0 hm0 hd0 hb0 hx0
 go_enter Tryz.func75,Tryz.ntmps75
 go_wp2_with (first
  |(at_delete;refine vZ (C:=ez) (K:=3) _ rfl (.tmp 9) (.tmp 10) 134 rfl 140 Tryz.underlying3 Tryz.underlying134 sm n1 sl (by kernel_rfl) HM.out id b (by kernel_rfl) HWf.out hy ?_;intro w1 hm1 hg1 hs1))
 have k1:w1.heap[w.heap.size]? =some (.cells #[.int .i64 fi,.bool rs] 142 (0,0)):=(hg1.block w.heap.size (by simp) (fun e=>by injection e with e;omega)).trans HX.out
 have hc1:ConBlk w1 cb g c plv sm dm past:=(hg1.block cb (by simp;omega) (fun e=>by injection e with e;exact hcs e)).trans H0.out
 have hd1:MapIs iS Tryz.prog 3 w1 dm n2 dl:=HD.out.same (hg1.block dm (by simp;omega) (fun e=>by injection e with e;exact hne e.symm))
 have hC1:Chg (· = sm) (w.alloc (.cells #[.int .i64 fi,.bool rs] 142)) w1:=⟨hg1.os,hg1.tape,hg1.output,hg1.size,fun q hq hn=>hg1.block q hq (fun e=>by injection e with e;exact hn e)⟩
 have c22:w1.cell? ⟨cb,22,none⟩= some (.map (some dm)):=hc1.cell 22
 have b0:w1.cell? ⟨w.heap.size,0,none⟩= some (.int .i64 fi):=by simp only[World.cell?,k1];rfl
 have b1:w1.cell? ⟨w.heap.size,1,none⟩= some (.bool rs):=by simp only[World.cell?,k1];rfl
 have hdd:MapIs iS Tryz.prog 3 w1.drew dm n2 dl:=hd1
 obtain⟨w2,hput,hm2,hg2⟩:=vH (C:=iS) (e:=142) Tryz.underlying3 Tryz.underlying135 hdd (by unfold maxLen;omega) HWf.out (y:=(fi,rs)) HNo.out
 replace hput:(Instr.mapUpdate 135 (.map (some dm)) (.int .i64 id) (.agg #[.int .i64 fi,.bool rs])).run Tryz.prog w1.drew=.ok () w2:=hput
 have k2:w2.heap[w.heap.size]? =some (.cells #[.int .i64 fi,.bool rs] 142 (0,0)):=(hg2.block w.heap.size ((aLt k1)) (fun e=>by injection e with e;omega)).trans k1
 have hc2:ConBlk w2 cb g c plv sm dm past:=(hg2.block cb hc1.lt (fun e=>by injection e with e;exact hcd e)).trans hc1
 have hm2':MapIs ez Tryz.prog 3 w2 sm n1 (gS sl id):=hm1.same (hg2.block sm hm1.lt (fun e=>by injection e with e;exact hne e))
 have hC2:Chg (· = dm) w1 w2:=⟨hg2.os,hg2.tape,hg2.output,hg2.size,fun q hq hn=>hg2.block q hq (fun e=>by injection e with e;exact hn e)⟩
 have c23:w2.cell? ⟨cb,23,none⟩= some (.int .i64 past):=hc2.cell 23
 have d0:w2.cell? ⟨w.heap.size,0,none⟩= some (.int .i64 fi):=by simp only[World.cell?,k2];rfl
 have d1:w2.cell? ⟨w.heap.size,1,none⟩= some (.bool rs):=by simp only[World.cell?,k2];rfl
 have hwp:IntKind.i64.wrap (past+fi)=past+fi:=by rw[IntKind.wrap_i64];omega
 have HEnd:Hid (∀W,Below w2.heap.size w2 W->W.cell? ⟨cb,23,none⟩= some (.int .i64 past)/\W.frozen? ⟨cb,23,none⟩= false/\ld w cb g c plv sm dm (past+fi) n1 (n2+1) (gS sl id) (dl++[(id,(fi,rs))]) (.returned (.tuple #[])) (W.setCell ⟨cb,23,none⟩ (.int .i64 (past+fi)))):=by
  intro W hW
  have hcW:=hc2.below hW
  refine⟨hcW.cell 23,hcW.free 23,rfl,(al hcW 23 _).trans (by simp[kp]),?_,?_,?_⟩
  ·exact(hm2'.same (hW.block sm hm2'.lt)).same (heap_setCell_other _ _ _ _ (Ne.symm hcs))
  ·exact(hm2.same (hW.block dm hm2.lt)).same (heap_setCell_other _ _ _ _ (Ne.symm hcd))
  ·refine(((Chg.of_below HB.out).trans (hC1.mono fun q _ e=>Or.inr (Or.inl e))).trans (hC2.mono fun q _ e=>Or.inr (Or.inr e))).trans ((Chg.of_below hW).trans ((aI (Below.refl _ _) 23 _).mono fun q _ e=>Or.inl e))
 have HPut:=ab hput
 have HDf:Hid (∀W,Calls Tryz.prog 132 #[.agg #[.int .i64 fi,.bool rs]] W fun e w'=>e=.returned (.int .i64 fi)/\Below W.heap.size W w'):=fun W=>wU fi rs W
 clear hm1 hg1 hs1 k1 hc1 hd1 hC1 hdd hm2 hg2 k2 hc2 hm2' hC2 HM HD H0 HB HX HPut
 go_wp2_with fail
 go_region
 all_goals (
  go_wp2_with fail
  go_region_with (first
   |(go_at_call 132;refine(HDf.out _).mono ?_;rintro e w3 ⟨rfl,hb3⟩;obtain⟨y1,y2,hfo⟩:=HEnd.out w3 (ai (ak (Below.refl _ w2) 1) hb3)))
  all_goals (
   have HFo:=ab hfo
   clear hfo y1 y2 hb3
   go_wp2_with fail
   go_end0
   exact HFo.out))
theorem ConAt.took2{N:Nat}{w w':World}{cb:Nat}{g:Cfg}{c:aw}{a:aJ}{sid:Int}{b:Nat}{x y:aR}{lv':Value}(h:ConAt N w cb g c a)(hm:(sid,b)∈a.sl)(hx:c.streams[sid.toNat]? =some x)(hd:x.done=false)(hyd:y.done=false)
  (hc:Chg (fun k=>k=b\/(a.lv sid).ownBlock=some k) w w') {U:Nat->Prop} (hUa:∀k,a.u k->U k) (hUb:∀k,U k->k<w'.heap.size) (hy:StrAt U w' b lv' g.c2 y) (hat:lv'.ownBlock=(a.lv sid).ownBlock\/∀k,lv'.ownBlock=some k->w.heap.size<=k):
  ConAt N w' cb g {c with streams:=c.streams.set sid.toNat y} {a with lv:=fun k=>if k=sid then lv' else a.lv k,u:=U}/\∀k,bh cb {a with lv:=fun k=>if k=sid then lv' else a.lv k,u:=U} k->bh cb a k\/w.heap.size<=k:=by
 have hsx:=h.str (sid,b) hm x hx
 have hblk:=hsx.blk
 obtain⟨vs0,ho0⟩:=hsx.own
 have hF:∀k cur e fr,w.heap[k]? =some (.cells cur e fr)->e≠204->e≠259->¬(k=b\/(a.lv sid).ownBlock=some k):=by
  rintro k cur e fr hk h1 h2 (e1|e1)
  ·subst e1
   simp only at hblk
   rw[hblk]at hk
   simp only[Option.some.injEq,Obj.cells.injEq]at hk
   exact h1 hk.2.1.symm
  ·exact ax ho0 hk (fun e=>h2 e.symm) e1
 have hFm:∀k es ck,w.heap[k]? =some (.map es ck)->¬(k=b\/(a.lv sid).ownBlock=some k):=by
  rintro k es ck hk (e1|e1)
  ·subst e1
   simp only at hblk
   rw[hblk]at hk
   cases hk
  ·obtain⟨c1,e2⟩:=aQ ho0 e1
   rw[hk]at e2
   cases e2
 obtain⟨n1,hn1,hm1⟩:=h.smap
 obtain⟨n2,hn2,hm2⟩:=h.dmap
 obtain⟨es1,ck1,hb1⟩:=hm1.is_map
 obtain⟨es2,ck2,hb2⟩:=hm2.is_map
 obtain⟨vs,hvs⟩:=h.pk
 have h0:=(h.mp.str (sid,b) hm).1
 have hsame:∀p∈a.sl,p.1=sid->p.2=b:=by
  intro p hp e
  have h1:=iL h.mp.nd (show(p.1,p.2)∈a.sl from hp)
  have h2:=iL h.mp.nd hm
  rw[e,h2]at h1
  simp only[Option.some.injEq]at h1
  exact h1.symm
 constructor
 ·refine⟨?_,⟨vs,bX hvs.own hc (fun k hk e=>?_),hvs.sh⟩,⟨n1,hn1,hm1.same (hc.block _ hm1.lt (hFm _ _ _ hb1))⟩,⟨n2,hn2,hm2.same (hc.block _ hm2.lt (hFm _ _ _ hb2))⟩,?_,?_,?_,h.ne,?_,hUb⟩
  ·have h1:=(h.blk.chg hc (hF _ _ _ _ h.blk (by decide) (by decide))).streams (c.streams.set sid.toNat y) (by simp)
   simp only[rV hx hd hyd]
   exact h1
  ·obtain⟨c1,e1⟩:=aQ hvs.own hk
   exact hF _ _ _ _ e1 (by decide) (by decide) e
  ·refine⟨h.mp.nd,fun p hp=>?_,fun i z hz hzd hk=>?_⟩
   ·obtain⟨p0,z,hz,hzd⟩:=h.mp.str p hp
    refine⟨p0,?_⟩
    by_cases e:p.1.toNat=sid.toNat
    ·rw[e]
     exact⟨y,aK hx,hyd⟩
    ·exact⟨z,by simp only;rw[aD e];exact hz,hzd⟩
   ·have hi:i≠sid.toNat:=by
     intro e
     refine hk (List.mem_map.2 ⟨(sid,b),hm,?_⟩)
     simp only
     rw[e]
     omega
    simp only at hz
    rw[aD hi]at hz
    exact h.mp.non i z hz hzd hk
  ·intro p hp z hz
   by_cases e:p.1=sid
   ·simp only[if_pos e]
    rw[hsame p hp e]
    simp only at hz
    rw[e,aK hx]at hz
    simp only[Option.some.injEq]at hz
    subst hz
    exact hy
   ·simp only[if_neg e]
    have hp0:=(h.mp.str p hp).1
    have e2:p.1.toNat≠sid.toNat:=by omega
    simp only at hz
    rw[aD e2]at hz
    have hap:=h.apart p hp (sid,b) hm e
    refine((h.str p hp z hz).chg hc ?_ ?_ (fun k cur fr hk=>hF k cur _ fr hk (by decide) (by decide))).mono (fun k hk=>hUa k hk)
    ·rintro(e3|e3)
     ·exact hap.1 e3
     ·have hbp:=(h.str p hp z hz).blk
      exact ax ho0 hbp (by decide) e3
    ·rintro k hk (e3|e3)
     ·obtain⟨vs1,ho1⟩:=(h.str p hp z hz).own
      subst e3
      exact ax ho1 hblk (by decide) hk
     ·exact hap.2 k hk e3
  ·intro id
   rw[h.don id]
   exact(pn hx hd hyd id).symm
  ·intro p hp q hq hpq
   by_cases e1:p.1=sid
   ·have e2:q.1≠sid:=fun e=>hpq (e1.trans e.symm)
    have hap:=h.apart p hp q hq hpq
    refine⟨hap.1,fun k hk=>?_⟩
    simp only[if_pos e1]at hk
    simp only[if_neg e2]
    rcases hat with e3|e3
    ·rw[e3,<-e1]at hk
     exact hap.2 k hk
    ·intro hk2
     obtain⟨q0,z,hz,_⟩:=h.mp.str q hq
     obtain⟨vs1,ho1⟩:=(h.str q hq z hz).own
     have h1:=(ho1.lt k hk2).2
     have h2:=e3 k hk
     omega
   ·by_cases e2:q.1=sid
    ·have hap:=h.apart p hp q hq hpq
     refine⟨hap.1,fun k hk=>?_⟩
     simp only[if_neg e1]at hk
     simp only[if_pos e2]
     rcases hat with e3|e3
     ·rw[e3,<-e2]
      exact hap.2 k hk
     ·intro hk2
      obtain⟨p0,z,hz,_⟩:=h.mp.str p hp
      obtain⟨vs1,ho1⟩:=(h.str p hp z hz).own
      have h1:=(ho1.lt k hk).2
      have h2:=e3 k hk2
      omega
    ·simp only[if_neg e1,if_neg e2]
     exact h.apart p hp q hq hpq
 ·rintro k (e|e|e|e|⟨p,hp,e⟩)
  ·exact Or.inl (Or.inl e)
  ·exact Or.inl (Or.inr (Or.inl e))
  ·exact Or.inl (Or.inr (Or.inr (Or.inl e)))
  ·exact Or.inl (Or.inr (Or.inr (Or.inr (Or.inl e))))
  ·by_cases e1:p.1=sid
   ·simp only[if_pos e1]at e
    rcases e with e|e
    ·exact Or.inl (Or.inr (Or.inr (Or.inr (Or.inr ⟨p,hp,Or.inl e⟩))))
    ·rcases hat with e3|e3
     ·rw[e3,<-e1]at e
      exact Or.inl (Or.inr (Or.inr (Or.inr (Or.inr ⟨p,hp,Or.inr e⟩))))
     ·exact Or.inr (e3 k e)
   ·simp only[if_neg e1]at e
    exact Or.inl (Or.inr (Or.inr (Or.inr (Or.inr ⟨p,hp,e⟩))))
theorem pastS_done{l:List aR}:∀{i:Nat} {x y:aR},l[i]? =some x->x.done=false->y.done=true->bm (l.set i y)=bm l+y.final:=by
 induction l with
 |nil=>intro i x y h;simp at h
 |cons a t ih=>
  intro i x y h h1 h2
  cases i with
  |zero=>
   simp only[List.getElem?_cons_zero,Option.some.injEq]at h
   subst h
   simp[bm,h1,h2]
   omega
  |succ i=>
   have:=ih (i:=i) (x:=x) (y:=y) (by simpa using h) h1 h2
   simp only[bm,List.set_cons_succ,List.filter_cons]at this⊢
   split
   ·simp only[List.map_cons,List.sum_cons,this]
    omega
   ·exact this
theorem ConAt.finished{N:Nat}{w w':World}{cb:Nat}{g:Cfg}{c:aw}{a:aJ}{sid:Int}{b n1 n2:Nat}{x:aR}{e:Ending}(h:ConAt N w cb g c a)(hm:(sid,b)∈a.sl)(hx:c.streams[sid.toNat]? =some x)(hd:x.done=false)(h1:n1<=N)(h2:n2<=N)
  (ho:ld w cb g c a.plv a.sm a.dm (bm c.streams+x.final) n1 (n2+1) (gS a.sl sid) (a.dl++[(sid,(x.final,x.reset))]) e w'):
  ConAt (N+1) w' cb g {c with streams:=c.streams.set sid.toNat {x with done:=true}} {a with sl:=gS a.sl sid,dl:=a.dl++[(sid,(x.final,x.reset))]}/\∀k,bh cb {a with sl:=gS a.sl sid,dl:=a.dl++[(sid,(x.final,x.reset))]} k->bh cb a k:=by
 have hs0:=(h.mp.str (sid,b) hm).1
 have hdel:∀p,p∈gS a.sl sid->p∈a.sl/\p.1≠sid:=fun p hp=>by
  unfold gS at hp
  rw[List.mem_filter]at hp
  refine⟨hp.1,fun e=>?_⟩
  have:=hp.2
  simp[e]at this
 have hblk:w.heap[cb]? =some (.cells (kp g c a.plv a.sm a.dm (bm c.streams)) 137 (0,0)):=h.blk
 obtain⟨m1,_,hm1⟩:=h.smap
 obtain⟨m2,_,hm2⟩:=h.dmap
 obtain⟨es1,ck1,hb1⟩:=hm1.is_map
 obtain⟨es2,ck2,hb2⟩:=hm2.is_map
 have hF:∀k cur t fr,w.heap[k]? =some (.cells cur t fr)->t≠137->¬(k=cb\/k=a.sm\/k=a.dm):=by
  rintro k cur t fr hk ht (e|e|e)
  ·rw[e,hblk]at hk
   simp only[Option.some.injEq,Obj.cells.injEq]at hk
   exact ht hk.2.1.symm
  ·rw[e,hb1]at hk
   cases hk
  ·rw[e,hb2]at hk
   cases hk
 obtain⟨vs,hvs⟩:=h.pk
 have hdn:atK a.dl sid=none:=by
  rw[h.don sid]
  unfold fp
  rw[if_pos hs0,hx]
  simp[hd]
 constructor
 ·refine⟨?_,⟨vs,bX hvs.own ho.chg (fun k hk e=>?_),hvs.sh⟩,⟨n1,by omega,ho.smap⟩,⟨n2+1,by omega,ho.dmap⟩,?_,?_,?_,h.ne,?_,fun k hk=>Nat.lt_of_lt_of_le (h.ul k hk) ho.chg.size⟩
  ·have q:=ho.blk.streams (c.streams.set sid.toNat {x with done:=true}) (by simp)
   simp only[pastS_done (y:={x with done:=true}) hx hd rfl]
   exact q
  ·obtain⟨c1,e1⟩:=aQ hvs.own hk
   exact hF _ _ _ _ e1 (by decide) e
  ·refine⟨ph h.mp.nd sid,fun p hp=>?_,fun i z hz hzd hk=>?_⟩
   ·obtain⟨q1,q2⟩:=hdel p hp
    obtain⟨p0,z,hz,hzd⟩:=h.mp.str p q1
    have hne:p.1.toNat≠sid.toNat:=by omega
    exact⟨p0,z,by simp only;rw[aD hne];exact hz,hzd⟩
   ·by_cases hi:i=sid.toNat
    ·subst hi
     simp only at hz
     rw[aK hx]at hz
     simp only[Option.some.injEq]at hz
     subst hz
     cases hzd
    ·simp only at hz
     rw[aD hi]at hz
     refine h.mp.non i z hz hzd fun hmem=>hk ?_
     obtain⟨p,hp,e⟩:=List.mem_map.1 hmem
     refine List.mem_map.2 ⟨p,?_,e⟩
     unfold gS
     rw[List.mem_filter]
     refine⟨hp,?_⟩
     have:p.1≠sid:=by omega
     simp[this]
  ·intro p hp z hz
   obtain⟨q1,q2⟩:=hdel p hp
   have hne:p.1.toNat≠sid.toNat:=by
    have:=(h.mp.str p q1).1
    omega
   simp only at hz
   rw[aD hne]at hz
   have hs:=h.str p q1 z hz
   refine hs.chg ho.chg (hF _ _ _ _ hs.blk (by decide)) (fun k hk e=>?_) (fun k cur fr hk=>hF _ _ _ _ hk (by decide))
   obtain⟨vs1,ho1⟩:=hs.own
   obtain⟨c1,e1⟩:=aQ ho1 hk
   exact hF _ _ _ _ e1 (by decide) e
  ·intro id
   simp only
   rw[oZ _ _ _ hdn,h.don id]
   by_cases e:id=sid
   ·subst e
    rw[if_pos rfl]
    unfold fp
    rw[if_pos hs0,aK hx]
    simp
   ·rw[if_neg e]
    unfold fp
    split
    ·have hne:id.toNat≠sid.toNat:=by omega
     rw[aD hne]
    ·rfl
  ·intro p hp q hq hpq
   exact h.apart p (hdel p hp).1 q (hdel q hq).1 hpq
 ·rintro k (e|e|e|e|⟨p,hp,e⟩)
  ·exact Or.inl e
  ·exact Or.inr (Or.inl e)
  ·exact Or.inr (Or.inr (Or.inl e))
  ·exact Or.inr (Or.inr (Or.inr (Or.inl e)))
  ·exact Or.inr (Or.inr (Or.inr (Or.inr ⟨p,(hdel p hp).1,e⟩)))
theorem pastS_snoc{l:List aR}{y:aR}(h:y.done=false):bm (l++[y])=bm l:=by
 simp[bm,List.filter_append,h]
theorem ConAt.grown{N:Nat}{w:World}{cb:Nat}{g:Cfg}{c:aw}{a:aJ}(h:ConAt N w cb g c a):
  ConAt N (w.setCell ⟨cb,20,none⟩ (.int .i64 ((c.streams.length+1:Nat):Int))) cb g {c with streams:=c.streams++[aU g.c2]} a:=by
 have hC:Chg (· = cb) w (w.setCell ⟨cb,20,none⟩ (.int .i64 ((c.streams.length+1:Nat):Int))):=aI (Below.refl _ _) 20 _
 have hblk:w.heap[cb]? =some (.cells (kp g c a.plv a.sm a.dm (bm c.streams)) 137 (0,0)):=h.blk
 have hF:∀k cur t fr,w.heap[k]? =some (.cells cur t fr)->t≠137->¬k=cb:=by
  intro k cur t fr hk ht e
  rw[e,hblk]at hk
  simp only[Option.some.injEq,Obj.cells.injEq]at hk
  exact ht hk.2.1.symm
 obtain⟨m1,hn1,hm1⟩:=h.smap
 obtain⟨m2,hn2,hm2⟩:=h.dmap
 obtain⟨es1,ck1,hb1⟩:=hm1.is_map
 obtain⟨es2,ck2,hb2⟩:=hm2.is_map
 obtain⟨vs,hvs⟩:=h.pk
 have hlt:∀p∈a.sl,p.1.toNat<c.streams.length:=fun p hp=>by
  obtain⟨_,z,hz,_⟩:=h.mp.str p hp
  exact(lLt hz)
 refine⟨?_,⟨vs,bX hvs.own hC (fun k hk e=>?_),hvs.sh⟩,⟨m1,hn1,hm1.same (hC.block _ hm1.lt (fun e=>by rw[e,hblk]at hb1;cases hb1))⟩,⟨m2,hn2,hm2.same (hC.block _ hm2.lt (fun e=>by rw[e,hblk]at hb2;cases hb2))⟩,?_,?_,?_,h.ne,h.apart,fun k hk=>Nat.lt_of_lt_of_le (h.ul k hk) hC.size⟩
 ·show _=_
  rw[pastS_snoc rfl]
  refine(al hblk 20 _).trans ?_
  simp[kp]
 ·obtain⟨c1,e1⟩:=aQ hvs.own hk
  exact hF _ _ _ _ e1 (by decide) e
 ·refine⟨h.mp.nd,fun p hp=>?_,fun i z hz hzd hk=>?_⟩
  ·obtain⟨p0,z,hz,hzd⟩:=h.mp.str p hp
   exact⟨p0,z,by simp only;rw[List.getElem?_append_left (hlt p hp)];exact hz,hzd⟩
  ·simp only at hz
   rcases Nat.lt_or_ge i c.streams.length with hi|hi
   ·rw[List.getElem?_append_left hi]at hz
    exact h.mp.non i z hz hzd hk
   ·rw[List.getElem?_append_right hi]at hz
    cases hj:i-c.streams.length with
    |zero=>
     rw[hj]at hz
     simp only[List.getElem?_cons_zero,Option.some.injEq]at hz
     exact hz.symm
    |succ j=>
     rw[hj]at hz
     simp at hz
 ·intro p hp z hz
  simp only at hz
  rw[List.getElem?_append_left (hlt p hp)]at hz
  have hs:=h.str p hp z hz
  refine hs.chg hC (hF _ _ _ _ hs.blk (by decide)) (fun k hk e=>?_) (fun k cur fr hk=>hF _ _ _ _ hk (by decide))
  obtain⟨vs1,ho1⟩:=hs.own
  obtain⟨c1,e1⟩:=aQ ho1 hk
  exact hF _ _ _ _ e1 (by decide) e
 ·intro id
  rw[h.don id]
  unfold fp
  split
  ·rcases Nat.lt_or_ge id.toNat c.streams.length with hi|hi
   ·rw[List.getElem?_append_left hi]
   ·rw[List.getElem?_append_right hi,List.getElem?_eq_none hi]
    cases hj:id.toNat-c.streams.length with
    |zero=>simp[aU]
    |succ j=>simp
  ·rfl
end Go.Proofs.YthmdjhlhodpbhaaGreatDoor
namespace Go.Proofs.YthmdjhlhodpbhaaGreatDoor
theorem vT(x:aR)(most:Int):du x most<=x.bytes.length:=by
 have:=kO x.bytes
 unfold du
 omega
theorem vI(x:aR)(most:Int):dS (x.bytes.drop (du x most)) (x.bytes.drop (du x most)).length<=dS x.bytes x.bytes.length:=by
 have h:=sk x.read x.bytes most.toNat
 rw[<-df _ (x.read+du x most),<-df _ x.read]
 unfold du
 rw[<-h]
 rcases Nat.eq_zero_or_pos (bC x.bytes) with h0|h0
 ·rw[h0]
  simp
 ·rw[gP x.bytes x.read h0]
  split
  ·simp only[List.length_cons];omega
  ·simp only[List.length_cons];omega
theorem sg{gaps:Int}{x:aR}(h:StrInv gaps x)(most:Int):StrInv gaps (aM x most).2:=by
 have hk:=vT x most
 have h1:=h.read
 have h2:=h.len
 have hl:(x.bytes.drop (du x most)).length=x.bytes.length-du x most:=List.length_drop
 refine⟨?_,fun b hb=>h.ent b (List.mem_of_mem_drop hb),?_,h.fin,h.fin0,fun hr=>⟨?_,(h.rst hr).2⟩,fun hd=>?_,Int.le_trans (vI x most) h.gaps,h.cred⟩
 ·simp only[aM];omega
 ·simp only[aM];rw[hl];omega
 ·simp only[aM]at hr⊢
  rw[(h.rst hr).1]
  simp
 ·simp only[aM]at hd⊢
  cases hr:x.reset with
  |true=>exact⟨by rw[(h.rst hr).1];simp,(h.rst hr).2,fun h=>by cases h⟩
  |false=>
   rw[hr]at hd
   simp at hd
   have h3:=h.fin (by omega)
   exact⟨List.drop_eq_nil_of_le (by omega),by omega,fun _=>hd⟩
theorem pR{gaps:Int}{x:aR}(h:StrInv gaps x)(hd:x.done=true)(most:Int):aM x most=(⟨[],!x.reset,x.reset⟩,x):=by
 obtain⟨h1,h2,h3⟩:=h.dn hd
 have hk:du x most=0:=by have:=vT x most;rw[h1]at this;simpa using this
 unfold aM
 rw[hk]
 have hf:(!x.reset&&decide (x.read+((0:Nat):Int)=x.final)) = !x.reset:=by
  cases hr:x.reset with
  |true=>rfl
  |false=>simp[h3 hr]
 rw[hf]
 cases x
 simp only at hd h1
 subst hd h1
 simp
theorem lG(x:aR)(most:Int):(aM x most).2.highest=x.highest:=rfl
theorem StrInv.ok{gaps:Int}{x:aR}(h:StrInv gaps x):ku x:=by
 have h1:=h.read
 have h2:=h.len
 have h3:=h.cred
 have h4:=h.fin0
 refine⟨by omega,by omega,by omega,by omega,h4,?_⟩
 rcases Int.lt_or_le x.final 0 with h5|h5
 ·omega
 ·have:=h.fin h5;omega
theorem readOf_le{gaps:Int}{x:aR}(h:StrInv gaps x):0<=eZ x/\eZ x<=x.highest:=by
 have h1:=h.read
 have h2:=h.len
 unfold eZ
 split
 ·next hd=>
  simp at hd
  have h3:=(h.rst hd.2).2
  have:=h.fin h3
  omega
 ·omega
theorem mR{gaps:Int}{l:List aR}(h:∀x∈l,StrInv gaps x):0<=readAll l/\readAll l<=cV l:=by
 induction l with
 |nil=>simp[readAll,cV]
 |cons a t ih=>
  have h1:=readOf_le (h a (List.mem_cons_self ..))
  have h2:=ih fun x hx=>h x (List.mem_cons_of_mem _ hx)
  simp only[readAll,cV,List.map_cons,List.sum_cons]at h2⊢
  omega
structure ConI(g:Cfg)(c:aw):Prop where
 str:∀x∈c.streams,StrInv g.c4 x
 high:cV c.streams<=c.credit
 runs:PWf c.runs
theorem ConInv.i{g:Cfg}{c:aw}(h:ConInv g c):ConI g c:=⟨h.str,h.high,h.runs⟩
theorem ConI.read{g:Cfg}{c:aw}{M:Int}(h:ConI g c)(hok:ConOk M c):0<=readAll c.streams/\readAll c.streams<=1073741823:=by
 have h1:=mR h.str
 have h2:=h.high
 have h3:=hok.credit
 omega
structure Same(c c':aw):Prop where
 cid:c'.cid=c.cid
 addr:c'.addr=c.addr
 proven:c'.proven=c.proven
 waits:c'.waits=c.waits
 runs:c'.runs=c.runs
 got:c'.got=c.got
theorem Same.refl(c:aw):Same c c:=⟨rfl,rfl,rfl,rfl,rfl,rfl⟩
theorem Same.trans{a b c:aw}(h:Same a b)(k:Same b c):Same a c:=⟨k.cid.trans h.cid,k.addr.trans h.addr,k.proven.trans h.proven,k.waits.trans h.waits,k.runs.trans h.runs,k.got.trans h.got⟩
theorem Same.pre{a b c:aw}(k:Same b c)(h:Same a b):Same a c:=h.trans k
theorem oO(c:aw)(f:List Int):bt c f = {c with sent:=(bt c f).sent}:=by
 unfold bt
 split<;>rfl
theorem Same.news(c:aw)(f:List Int):Same c (bt c f):=by
 rw[oO]
 exact⟨rfl,rfl,rfl,rfl,rfl,rfl⟩
theorem ConI.news{g:Cfg}{c:aw}(h:ConI g c)(f:List Int):ConI g (bt c f):=by
 rw[oO]
 exact⟨h.str,h.high,h.runs⟩
theorem ib(c:aw)(f:List Int):(bt c f).streams=c.streams:=by rw[oO]
theorem n9(c:aw)(f:List Int):(bt c f).credit=c.credit:=by rw[oO]
theorem ConI.set{g:Cfg}{c:aw}{i:Nat}{x y:aR}(h:ConI g c)(hx:c.streams[i]? =some x)(hy:StrInv g.c4 y)(hh:y.highest=x.highest):ConI g {c with streams:=c.streams.set i y}:=by
 refine⟨fun z hz=>?_,?_,h.runs⟩
 ·rcases List.mem_or_eq_of_mem_set hz with hz|rfl
  ·exact h.str z hz
  ·exact hy
 ·have:=h.high
  simp only
  rw[rM hx]
  omega
theorem ConOk.set{gaps M:Int}{c:aw}{i:Nat}{y:aR}(h:ConOk M c)(hy:StrInv gaps y):ConOk M {c with streams:=c.streams.set i y}:=by
 refine⟨h.cid,h.addr,h.got,h.sent,h.heard,h.runs,h.credit,by simp only[List.length_set];exact h.slen,fun z hz=>?_⟩
 rcases List.mem_or_eq_of_mem_set hz with hz|rfl
 ·exact h.str z hz
 ·exact hy.ok
theorem lS{r n:Int}(hr:0<=r)(hn:0<=n):0<=bS r n/\bS r n<=1073741823:=by
 unfold bS
 split<;>omega
theorem rZ{gaps piece:Int}{x:aR}(h:StrInv gaps x)(hp:0<=piece)(hc:x.credit<x.read+piece/2):StrInv gaps {x with credit:=bS x.read piece}:=by
 have h1:=h.cred
 have h2:=h.read
 refine⟨h.read,h.ent,h.len,h.fin,h.fin0,h.rst,h.dn,h.gaps,?_⟩
 unfold bS
 simp only
 split<;>omega
theorem pN{g:Cfg}{c:aw}{M:Int}{id:Nat}{x y:aR}(h:ConI g c)(hok:ConOk M c)(hx:c.streams[id]? =some x)(hy:StrInv g.c4 y)(hh:y.highest=x.highest)(hp:0<=g.c2):
  ConI g (fu g c id y).1/\ConOk (M+20) (fu g c id y).1/\Same c (fu g c id y).1/\(fu g c id y).2.length<=1/\(fu g c id y).1.streams.length=c.streams.length/\(fu g c id y).1.credit=c.credit:=by
 have hid:id<c.streams.length:=(lLt hx)
 unfold fu
 split
 ·next hm=>
  have hc:y.credit<y.read+g.c2/2:=by unfold fX at hm;simp at hm;exact hm.1.2
  have hy2:=rZ hy hp hc
  have hI:=h.set hx hy2 hh
  have hO:=hok.set (i:=id) hy2
  simp only
  have hl1:=dR (id:Int)
  have hl2:=dR (bS y.read g.c2)
  refine⟨hI.news _,mN hO ?_,?_,?_,?_,?_⟩
  ·simp only[List.length_append,List.length_cons,List.length_nil];omega
  ·exact Same.pre (Same.news _ _) ⟨rfl,rfl,rfl,rfl,rfl,rfl⟩
  ·unfold ca
   split<;>simp
  ·rw[ib];simp
  ·rw[n9]
 ·exact⟨h.set hx hy hh,(hok.set hy).mono (by omega),⟨rfl,rfl,rfl,rfl,rfl,rfl⟩,by simp,by simp,rfl⟩
theorem rS(c:aw)(f:List Int)(o:List (Int×List Int)):(ca c f o).length<=o.length+1:=by
 unfold ca
 split<;>simp
theorem rD{g:Cfg}{r:aw×List (Int×List Int)}{M:Int}(h:ConI g r.1)(hok:ConOk M r.1)(hp:0<=g.c1):
  ConInv g (iA g r).1/\ConOk (M+20) (iA g r).1/\Same r.1 (iA g r).1/\(iA g r).2.length<=r.2.length+1/\(iA g r).1.streams=r.1.streams:=by
 have hr:=h.read hok
 have hcr:=hok.credit
 have hh:=h.high
 unfold iA
 split
 ·next hm=>
  simp at hm
  have hrz:=lS hr.1 hp
  have hge:r.1.credit<=bS (readAll r.1.streams) g.c1:=by unfold bS;split<;>omega
  have hI:ConI g {r.1 with credit:=bS (readAll r.1.streams) g.c1}:=⟨h.str,by simp only;omega,h.runs⟩
  have hO:ConOk M {r.1 with credit:=bS (readAll r.1.streams) g.c1}:=⟨hok.cid,hok.addr,hok.got,hok.sent,hok.heard,hok.runs,hrz,hok.slen,hok.str⟩
  simp only
  have hl:=dR (bS (readAll r.1.streams) g.c1)
  have hN:=hI.news ([16]++az (bS (readAll r.1.streams) g.c1))
  refine⟨⟨hN.str,hN.high,hN.runs,?_⟩,mN hO ?_,?_,rS _ _ _,?_⟩
  ·unfold Fol
   rw[ib,n9]
   simp only
   unfold bS
   split
   ·exact Or.inr (Int.le_refl _)
   ·exact Or.inl (by omega)
  ·simp only[List.length_append,List.length_cons,List.length_nil];omega
  ·exact Same.pre (Same.news _ _) ⟨rfl,rfl,rfl,rfl,rfl,rfl⟩
  ·rw[ib]
 ·next hm=>
  simp at hm
  refine⟨⟨h.str,h.high,h.runs,?_⟩,hok.mono (by omega),Same.refl _,by omega,rfl⟩
  unfold Fol
  rcases Int.lt_or_le r.1.credit (readAll r.1.streams+g.c1/2) with h1|h1
  ·exact Or.inr (hm h1)
  ·exact Or.inl h1
theorem lq(piece:Int)(l:List aR):lD piece l (l.length+1)=l++[aU piece]:=by
 unfold lD
 rw[show l.length+1-l.length=1 by omega]
 rfl
theorem td(l:List aR)(x:aR):cV (l++[x])=cV l+x.highest:=by
 simp[cV,List.sum_append]
theorem limit_keep{g:Cfg}{on:Bool}{r:aw×List (Int×List Int)}{M:Int}(h:ConInv g r.1)(hok:ConOk M r.1)(hg:bM g):
  ConInv g (eW g on r).1/\ConOk (M+20) (eW g on r).1/\Same r.1 (eW g on r).1/\(eW g on r).2.length<=r.2.length+1:=by
 have h1:=hg.c1
 have h2:=hg.c2
 have h4:=hg.c4
 unfold eW
 split
 ·next hm=>
  simp at hm
  simp only
  rw[lq]
  have hnew:StrInv g.c4 (aU g.c2):=qe (by omega) (by omega)
  have hI:ConInv g {r.1 with streams:=r.1.streams++[aU g.c2]}:=by
   refine⟨fun x hx=>?_,?_,h.runs,?_⟩
   ·rcases List.mem_append.1 hx with hx|hx
    ·exact h.str x hx
    ·rw[List.mem_singleton.1 hx];exact hnew
   ·simp only
    rw[td]
    simpa[aU] using h.high
   ·unfold Fol
    simp only
    rw[tw]
    simpa[eZ,aU,Fol] using h.fol
  have hO:ConOk M {r.1 with streams:=r.1.streams++[aU g.c2]}:=by
   refine⟨hok.cid,hok.addr,hok.got,hok.sent,hok.heard,hok.runs,hok.credit,?_,fun x hx=>?_⟩
   ·simp only[List.length_append,List.length_cons,List.length_nil];omega
   ·rcases List.mem_append.1 hx with hx|hx
    ·exact hok.str x hx
    ·rw[List.mem_singleton.1 hx];exact hnew.ok
  have hl:=dR (((r.1.streams++[aU g.c2]).length:Nat):Int)
  refine⟨pG hI,mN hO ?_,?_,rS _ _ _⟩
  ·simp only[List.length_append,List.length_cons,List.length_nil]at hl⊢;omega
  ·exact Same.pre (Same.news _ _) ⟨rfl,rfl,rfl,rfl,rfl,rfl⟩
 ·exact⟨h,hok.mono (by omega),Same.refl _,by omega⟩
theorem pQ{g:Cfg}{c:aw}{M:Int}{id:Nat}{x:aR}(most:Int)(h:ConInv g c)(hok:ConOk M c)(hx:c.streams[id]? =some x)(hg:bM g):
  ConInv g (fD g c id x most).1/\ConOk (M+60) (fD g c id x most).1/\Same c (fD g c id x most).1/\(fD g c id x most).2.length<=3:=by
 have h1:=hg.c1
 have h2:=hg.c2
 obtain⟨a1,a2,a3,a4,_,_⟩:=pN h.i hok hx (sg (h.str x (lMm hx)) most) (lG x most) (by omega)
 obtain⟨b1,b2,b3,b4,_⟩:=rD a1 a2 (by omega)
 obtain⟨d1,d2,d3,d4⟩:=limit_keep (on:=!x.done&&((aM x most).1.fin ||(aM x most).1.rst)) b1 b2 hg
 unfold fD
 exact⟨d1,d2.mono (by omega),(a3.trans b3).trans d3,by omega⟩
theorem readC_done{g:Cfg}{c:aw}{id:Nat}{x:aR}(most:Int)(h:ConInv g c)(hx:c.streams[id]? =some x)(hd:x.done=true):fD g c id x most=(c,[]):=by
 have hi:=h.str x (lMm hx)
 have h1:=(hi.dn hd).2.1
 have hm:fX g x=false:=by unfold fX;simp;intro h2;omega
 have hp:fu g c id x=(c,[]):=by
  unfold fu
  rw[hm]
  simp[e7 hx]
 have hda:iA g (c,[])=(c,[]):=by
  unfold iA
  rw[if_neg]
  simp only[Bool.and_eq_true,decide_eq_true_eq]
  rintro⟨h2,h3⟩
  rcases h.fol with h4|h4<;>omega
 unfold fD
 rw[pR hi hd,hd]
 simp only[hp,hda]
 simp[eW]
theorem vz{M L:Int}{s:ay}{cid id most:Int}(h:SrvInv M L s):SrvInv (M+60) L (cR s cid id most).2.2.1:=by
 have h0:SrvInv (M+60) L s:=h.mono (by omega) (Int.le_refl _)
 unfold cR
 split
 ·exact h0
 ·split
  ·exact h0
  ·next i _ c hc=>
   split
   ·exact h0
   ·split
    ·exact h0
    ·split
     ·exact h0
     ·next x hx=>
      have hm:=lMm hc
      obtain⟨a1,a2,a3,_⟩:=pQ most (h.inv c hm) (h.ok c hm) hx h.cfg
      have hw:=h.waits c hm
      exact SrvInv.set (last:=s.last) h0 hc a2 a1 a3.cid (by rw[a3.waits,a3.proven];exact hw) (Int.le_refl _) h.last.2
end Go.Proofs.YthmdjhlhodpbhaaGreatDoor
