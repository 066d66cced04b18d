/- Apart, 13 -/
import Derived.BigRegion
import Derived.Deep.RegionHeld3
import Derived.Test.YthmdjhlhodpbhaaGreatDoorA03
import Derived.Test.YthmdjhlhodpbhaaGreatDoorA07
import Derived.Test.YthmdjhlhodpbhaaGreatDoorA12
set_option maxHeartbeats 16000000
set_option maxRecDepth 8000
namespace Go.Proofs.YthmdjhlhodpbhaaGreatDoor
open Go.RowKit
def TakeOut(U:Nat->Prop)(w:World)(b:Nat)(lv:Value)(fc:Array Value)(rd hi cr ah fi:Int)(kn rs:Bool)(ty en c1 c2:Int)(r:Int×List aO)(e:Ending)(w':World):Prop:=
 e=.returned (.int .i64 (if c1≠0 then c1 else if c2≠0 then c2 else r.1))/\Chg (fun k=>k=b\/lv.ownBlock=some k) w w'/\
   (c1=0->c2=0->r.1=0->∃lv' vs',TkS U w b lv w.heap.size fc #[lv',.int .i64 rd,.int .i64 (max hi en),.int .i64 cr,.int .i64 ah,.int .i64 (if dC ty=true then en else fi),.bool (if dC ty=true then true else kn),.bool (if ty=5/\bu r.2 rd en=false then true else rs)] lv' vs' (if ty=5/\bu r.2 rd en=false then [] else r.2) w')
theorem tTake_any{U:Nat->Prop}(b:Nat)(lv:Value)(vs:List bn)(rl:List aO)(rd hi cr ah fi:Int)(kn rs:Bool)(ty sid ofs:Int)(bv:Value)(en pf room gaps:Int)(items:List Int)(c1 c2:Int)(r:Int×List aO)(w:World)
  (hblk:w.heap[b]? =some (.cells #[lv,.int .i64 rd,.int .i64 hi,.int .i64 cr,.int .i64 ah,.int .i64 fi,.bool kn,.bool rs] 204 (0,0))) (h:x_RunsAt w lv vs rl) (hf:RunsFit rl) (hcap:∀v∈vs,kg v.2/\∀g,v.2.ownBlock=some g->U g)
  (hbv:Rx w bv items.length (U8 items)) (hbc:∀ao cap,bv=.slice ao items.length cap->items.length<=cap/\cap<=9223372036854775807) (hrd:0<=rd/\rd<=1073741823) (ho:0<=ofs/\ofs<=1073741823) (hl:items.length<=1073741823) (hh:0<=hi/\hi<=1073741823) (hen:0<=en/\en<=1099511627776)
  (hc1:c1=uI kn ty en hi fi) (hc2:c2=iR hi cr en room) (hr:r=lU rs rl (ofs+fe rd ofs items) (items.drop (fe rd ofs items)) gaps) (hfr:r.1=0->RunsFit r.2):
  Calls Tryz.prog 217 #[.pointer (some ⟨b,0,none⟩),gN ty sid ofs bv en pf,.int .i64 room,.int .i64 gaps] w fun e w'=>TakeOut U w b lv #[.int .i64 ty,.int .i64 sid,.int .i64 ofs,bv,.int .i64 en,.int .i64 pf] rd hi cr ah fi kn rs ty en c1 c2 r e w':=by
 have hblt:b<w.heap.size:=(aLt hblk)
 have cc:∀(W:World),Below w.heap.size w W->∀i v,(#[lv,.int .i64 rd,.int .i64 hi,.int .i64 cr,.int .i64 ah,.int .i64 fi,.bool kn,.bool rs]:Array Value)[i]? =some v->W.cell? ⟨b,i,none⟩= some v:=by
  intro W hW i v hv
  refine ae ?_ hW
  simp only[World.cell?,hblk]
  exact hv
 have HCE:Hid (∀W:World,(Below w.heap.size w W/\W.cell? ⟨w.heap.size,0,none⟩= some (.int .i64 ty)/\W.cell? ⟨w.heap.size,1,none⟩= some (.int .i64 sid)/\W.cell? ⟨w.heap.size,2,none⟩= some (.int .i64 ofs)/\W.cell? ⟨w.heap.size,3,none⟩= some (bv)/\W.cell? ⟨w.heap.size,4,none⟩= some (.int .i64 en)/\W.cell? ⟨w.heap.size,5,none⟩= some (.int .i64 pf))->Calls Tryz.prog 227 #[.pointer (some ⟨b,0,none⟩),.agg #[.int .i64 ty,.int .i64 sid,.int .i64 ofs,bv,.int .i64 en,.int .i64 pf]] W fun e w'=>e=.returned (.int .i64 c1)/\Below W.heap.size W w'):=by
  intro W hW'
  have hW:=hW'.1
  rw[hc1]
  exact qS b hi fi kn ty sid ofs bv en pf W (cc W hW 2 _ rfl) (cc W hW 5 _ rfl) (cc W hW 6 _ rfl)
 have HCC:Hid (∀W:World,(Below w.heap.size w W/\W.cell? ⟨w.heap.size,0,none⟩= some (.int .i64 ty)/\W.cell? ⟨w.heap.size,1,none⟩= some (.int .i64 sid)/\W.cell? ⟨w.heap.size,2,none⟩= some (.int .i64 ofs)/\W.cell? ⟨w.heap.size,3,none⟩= some (bv)/\W.cell? ⟨w.heap.size,4,none⟩= some (.int .i64 en)/\W.cell? ⟨w.heap.size,5,none⟩= some (.int .i64 pf))->Calls Tryz.prog 228 #[.pointer (some ⟨b,0,none⟩),.int .i64 en,.int .i64 room] W fun e w'=>e=.returned (.int .i64 c2)/\Below W.heap.size W w'):=by
  intro W hW'
  have hW:=hW'.1
  rw[hc2]
  exact nP b hi cr ah en room W (cc W hW 2 _ rfl) (cc W hW 3 _ rfl) (cc W hW 4 _ rfl) hh hen
 have HRc:Hid (∀W:World,Below w.heap.size w W->W.heap[w.heap.size]? =some (.cells #[.int .i64 ty,.int .i64 sid,.int .i64 ofs,bv,.int .i64 en,.int .i64 pf] 286 (0,0))->Calls Tryz.prog 229 #[.pointer (some ⟨b,0,none⟩),.agg #[.int .i64 ty,.int .i64 sid,.int .i64 ofs,bv,.int .i64 en,.int .i64 pf],.int .i64 gaps] W fun e w'=>e=.returned (.int .i64 r.1)/\∃lv' vs',TkS U w b lv w.heap.size #[.int .i64 ty,.int .i64 sid,.int .i64 ofs,bv,.int .i64 en,.int .i64 pf] #[lv',.int .i64 rd,.int .i64 hi,.int .i64 cr,.int .i64 ah,.int .i64 fi,.bool kn,.bool rs] lv' vs' r.2 w'):=by
  intro W hW hbx
  refine(tJ b _ lv vs rl rd rs ty sid ofs bv en pf gaps items W (by rw[hW.block b hblt];exact hblk) rfl rfl rfl (h.below hW) hf (fun v hv=>(hcap v hv).1) (hbv.below hW) hbc hrd ho hl).mono ?_
  rintro e w' ⟨r',hr',rfl,lv',vs',hfo⟩
  rw[<-hr]at hr'
  subst hr'
  have hp:=hfo.pre hW
  refine⟨rfl,lv',vs',hp.blk,?_,hp.runs,fun v hv=>?_,hp.chg,hp.at_⟩
  ·rw[hfo.chg.block _ (aLt hbx) (fun hF=>?_)]
   ·exact hbx
   ·rcases hF with e|e
    ·omega
    ·have:=(h.own.lt _ e).2
     omega
  ·rcases hp.items v hv with e|e
   ·exact⟨(hcap v e).1,fun g hg=>Or.inl ((hcap v e).2 g hg)⟩
   ·exact⟨e.1,fun g hg=>Or.inr (e.2 g hg)⟩
 have HGu:Hid (∀(W:World) (lv':Value) (vs':List bn) (fi':Int) (kn':Bool),r.1=0->TkS U w b lv w.heap.size #[.int .i64 ty,.int .i64 sid,.int .i64 ofs,bv,.int .i64 en,.int .i64 pf] #[lv',.int .i64 rd,.int .i64 (max hi en),.int .i64 cr,.int .i64 ah,.int .i64 fi',.bool kn',.bool rs] lv' vs' r.2 W->Calls Tryz.prog 231 #[.pointer (some ⟨b,0,none⟩)] W fun e w'=>e=.returned (.tuple #[])/\∃lv' vs',TkS U w b lv w.heap.size #[.int .i64 ty,.int .i64 sid,.int .i64 ofs,bv,.int .i64 en,.int .i64 pf] #[lv',.int .i64 rd,.int .i64 (max hi en),.int .i64 cr,.int .i64 ah,.int .i64 fi',.bool kn',.bool (if bu r.2 rd fi' then rs else true)] lv' vs' (if bu r.2 rd fi' then r.2 else []) w'):=
  fun W lv' vs' fi' kn' h0 hT=>vV b lv _ _ rd (max hi en) cr ah fi' kn' rs lv' vs' r.2 w W hT (hfr h0)
 have HX:Hid (∀W,Calls Tryz.prog 230 #[.agg #[.int .i64 ty,.int .i64 sid,.int .i64 ofs,bv,.int .i64 en,.int .i64 pf]] W fun e w'=>e=.returned (.bool (dC ty))/\Below W.heap.size W w'):=fun W=>gX ty sid ofs bv en pf W
 have HK:Hid (∀W W':World,Below W.heap.size W W'->(Below w.heap.size w W/\W.cell? ⟨w.heap.size,0,none⟩= some (.int .i64 ty)/\W.cell? ⟨w.heap.size,1,none⟩= some (.int .i64 sid)/\W.cell? ⟨w.heap.size,2,none⟩= some (.int .i64 ofs)/\W.cell? ⟨w.heap.size,3,none⟩= some (bv)/\W.cell? ⟨w.heap.size,4,none⟩= some (.int .i64 en)/\W.cell? ⟨w.heap.size,5,none⟩= some (.int .i64 pf))->(Below w.heap.size w W'/\W'.cell? ⟨w.heap.size,0,none⟩= some (.int .i64 ty)/\W'.cell? ⟨w.heap.size,1,none⟩= some (.int .i64 sid)/\W'.cell? ⟨w.heap.size,2,none⟩= some (.int .i64 ofs)/\W'.cell? ⟨w.heap.size,3,none⟩= some (bv)/\W'.cell? ⟨w.heap.size,4,none⟩= some (.int .i64 en)/\W'.cell? ⟨w.heap.size,5,none⟩= some (.int .i64 pf))):=
  fun W W' hb h=>⟨ai h.1 hb,ae h.2.1 hb,ae h.2.2.1 hb,ae h.2.2.2.1 hb,ae h.2.2.2.2.1 hb,ae h.2.2.2.2.2.1 hb,ae h.2.2.2.2.2.2 hb⟩
 have hba:Below w.heap.size w (w.alloc (.cells #[.int .i64 ty,.int .i64 sid,.int .i64 ofs,bv,.int .i64 en,.int .i64 pf] 286)):=ag w _
 have HBX:Hid ((w.alloc (.cells #[.int .i64 ty,.int .i64 sid,.int .i64 ofs,bv,.int .i64 en,.int .i64 pf] 286)).heap[w.heap.size]? =some (.cells #[.int .i64 ty,.int .i64 sid,.int .i64 ofs,bv,.int .i64 en,.int .i64 pf] 286 (0,0))):=heap_alloc_new w _
 have HSB:Hid (∀W:World,Below (w.alloc (.cells #[.int .i64 ty,.int .i64 sid,.int .i64 ofs,bv,.int .i64 en,.int .i64 pf] 286)).heap.size (w.alloc (.cells #[.int .i64 ty,.int .i64 sid,.int .i64 ofs,bv,.int .i64 en,.int .i64 pf] 286)) W->Below w.heap.size w W/\W.heap[w.heap.size]? =some (.cells #[.int .i64 ty,.int .i64 sid,.int .i64 ofs,bv,.int .i64 en,.int .i64 pf] 286 (0,0))):=fun W hW=>⟨ai hba hW,by rw[hW.block _ (by simp)];exact HBX.out⟩
 have S0:Below w.heap.size w (w.alloc (.cells #[.int .i64 ty,.int .i64 sid,.int .i64 ofs,bv,.int .i64 en,.int .i64 pf] 286)).drew/\(w.alloc (.cells #[.int .i64 ty,.int .i64 sid,.int .i64 ofs,bv,.int .i64 en,.int .i64 pf] 286)).drew.cell? ⟨w.heap.size,0,none⟩= some (.int .i64 ty)/\(w.alloc (.cells #[.int .i64 ty,.int .i64 sid,.int .i64 ofs,bv,.int .i64 en,.int .i64 pf] 286)).drew.cell? ⟨w.heap.size,1,none⟩= some (.int .i64 sid)/\(w.alloc (.cells #[.int .i64 ty,.int .i64 sid,.int .i64 ofs,bv,.int .i64 en,.int .i64 pf] 286)).drew.cell? ⟨w.heap.size,2,none⟩= some (.int .i64 ofs)/\(w.alloc (.cells #[.int .i64 ty,.int .i64 sid,.int .i64 ofs,bv,.int .i64 en,.int .i64 pf] 286)).drew.cell? ⟨w.heap.size,3,none⟩= some (bv)/\(w.alloc (.cells #[.int .i64 ty,.int .i64 sid,.int .i64 ofs,bv,.int .i64 en,.int .i64 pf] 286)).drew.cell? ⟨w.heap.size,4,none⟩= some (.int .i64 en)/\(w.alloc (.cells #[.int .i64 ty,.int .i64 sid,.int .i64 ofs,bv,.int .i64 en,.int .i64 pf] 286)).drew.cell? ⟨w.heap.size,5,none⟩= some (.int .i64 pf):=⟨ak hba 1,by simp,by simp,by simp,by simp,by simp,by simp⟩
 obtain⟨ba,bc,rfl,_,_⟩:=id hbv
 clear hblk h hf hcap hbv hbc cc hc1 hc2 hr hfr
 unfold gN
 have HS0:=ab S0
 clear S0
 go_enter Tryz.func217,Tryz.ntmps217
 go_upto_region 1 with fail
 go_cut [9] from 11 to 20 (fun s9 wx=>s9=.int .i64 (orI c1 c2)/\Below w.heap.size w wx/\wx.heap[w.heap.size]? =some (.cells #[.int .i64 ty,.int .i64 sid,.int .i64 ofs,.slice ba items.length bc,.int .i64 en,.int .i64 pf] 286 (0,0)))
 case first=>
  have S1:=HS0.out
  go_region_held3 (fun w'=>Below w.heap.size w w'/\w'.cell? ⟨w.heap.size,0,none⟩= some (.int .i64 ty)/\w'.cell? ⟨w.heap.size,1,none⟩= some (.int .i64 sid)/\w'.cell? ⟨w.heap.size,2,none⟩= some (.int .i64 ofs)/\w'.cell? ⟨w.heap.size,3,none⟩= some (.slice ba items.length bc)/\w'.cell? ⟨w.heap.size,4,none⟩= some (.int .i64 en)/\w'.cell? ⟨w.heap.size,5,none⟩= some (.int .i64 pf)) (first|assumption|exact HK.out _ _ (ag _ _) (by assumption)|go_keep) (first
   |(go_at_call 227;refine(HCE.out _ (by assumption)).mono ?_;rintro e w1 ⟨rfl,hb1⟩;have hS1:=HK.out _ _ hb1 (by assumption))
   |(go_at_call 228;refine(HCC.out _ (by assumption)).mono ?_;rintro e w2 ⟨rfl,hb2⟩;have hS2:=HK.out _ _ hb2 (by assumption))
   |(go_at_call 226;refine(wL c1 c2 _ _ (by simp) (by simp)).mono ?_;rintro e w3 ⟨rfl,rfl⟩))
  all_goals
   go_wp2_with fail
   go_meet
   refine⟨rfl,HSB.out _ ?_⟩
   first
    |exact ai (ai (aq hb1) hb2) (ag _ _)
    |exact ai (ai (aq hb2) hb1) (ag _ _)
 case rest=>
  obtain⟨rfl,hbw,hbx⟩:=hcut
  by_cases hor:orI c1 c2=0
  ·have h12:c1=0/\c2=0:=by
    unfold orI at hor
    split at hor
    ·contradiction
    ·next h=>exact⟨Classical.byContradiction h,hor⟩
   obtain⟨rfl,rfl⟩:=h12
   have hor2:orI 0 0=0:=rfl
   rw[hor2]
   clear hor hor2 HCE HCC HK HSB HS0 HBX hba
   have HR1:=ab (HRc.out wc hbw hbx)
   have e0:wc.cell? ⟨w.heap.size,0,none⟩= some (.int .i64 ty):=by simp only[World.cell?,hbx];rfl
   have e1:wc.cell? ⟨w.heap.size,1,none⟩= some (.int .i64 sid):=by simp only[World.cell?,hbx];rfl
   have e2:wc.cell? ⟨w.heap.size,2,none⟩= some (.int .i64 ofs):=by simp only[World.cell?,hbx];rfl
   have e3:wc.cell? ⟨w.heap.size,3,none⟩= some (.slice ba items.length bc):=by simp only[World.cell?,hbx];rfl
   have e4:wc.cell? ⟨w.heap.size,4,none⟩= some (.int .i64 en):=by simp only[World.cell?,hbx];rfl
   have e5:wc.cell? ⟨w.heap.size,5,none⟩= some (.int .i64 pf):=by simp only[World.cell?,hbx];rfl
   clear HRc hbw hbx
   go_wp2_with fail
   refine HR1.out.mono ?_
   rintro e w2 ⟨rfl,lv',vs',hT⟩
   have HT:=ab hT
   clear HR1 e0 e1 e2 e3 e4 e5 hT
   by_cases hr0:r.1=0
   ·have hi2:w2.cell? ⟨b,2,none⟩= some (.int .i64 hi):=HT.out.cell 2
    have z2:=HT.out.free 2
    have f4:w2.cell? ⟨w.heap.size,4,none⟩= some (.int .i64 en):=HT.out.bcell 4
    go_upto_region 7 with fail
    go_cut [10] from 31 to 40 (fun s10 wx=>s10=.int .i64 0/\TkS U w b lv w.heap.size #[.int .i64 ty,.int .i64 sid,.int .i64 ofs,.slice ba items.length bc,.int .i64 en,.int .i64 pf] #[lv',.int .i64 rd,.int .i64 (max hi en),.int .i64 cr,.int .i64 ah,.int .i64 fi,.bool kn,.bool rs] lv' vs' r.2 wx)
    case first=>
     have HM:=ab (HT.out.setB 2 (.int .i64 (max hi en)))
     rcases Int.lt_or_le hi en with hlt|hle
     ·have hmx:max hi en=en:=by omega
      rw[hmx]at HM
      go_region
      go_wp2_with fail
      go_meet
      rw[hmx]
      exact⟨rfl,HM.out.below (ak (Below.refl _ _) 1)⟩
     ·have hmx:max hi en=hi:=by omega
      rw[hmx]at HM
      go_region
      go_wp2_with fail
      go_meet
      rw[hmx]
      exact⟨rfl,HM.out.below (ak (Below.refl _ _) 1)⟩
    case rest=>
     obtain⟨rfl,hT1⟩:=hcut
     have HT1:=ab hT1
     clear hi2 z2 f4 HT
     have g0:wc.cell? ⟨w.heap.size,0,none⟩= some (.int .i64 ty):=hT1.bcell 0
     have g1:wc.cell? ⟨w.heap.size,1,none⟩= some (.int .i64 sid):=hT1.bcell 1
     have g2:wc.cell? ⟨w.heap.size,2,none⟩= some (.int .i64 ofs):=hT1.bcell 2
     have g3:wc.cell? ⟨w.heap.size,3,none⟩= some (.slice ba items.length bc):=hT1.bcell 3
     have g4:wc.cell? ⟨w.heap.size,4,none⟩= some (.int .i64 en):=hT1.bcell 4
     have g5:wc.cell? ⟨w.heap.size,5,none⟩= some (.int .i64 pf):=hT1.bcell 5
     clear hT1
     go_wp2_with fail
     refine(HX.out _).mono ?_
     rintro e w3 ⟨rfl,hb3⟩
     have H3:=ab (HT1.out.below hb3)
     have HR0:=ab hr0
     clear g0 g1 g2 g3 g4 g5 hb3 HT1 HX hr0
     cases ht:dC ty with
     |false=>
      have hn5:ty≠5:=fun e=>by rw[e]at ht;exact absurd ht (by decide)
      have hb5:(ty==5)=false:=beq_eq_false_iff_ne.2 hn5
      have k0:w3.cell? ⟨w.heap.size,0,none⟩= some (.int .i64 ty):=H3.out.bcell 0
      go_wp2_with fail
      go_ret
      refine⟨by rw[HR0.out];rfl,H3.out.chg,fun _ _ _=>⟨lv',vs',?_⟩⟩
      rw[if_neg (by rw[ht];decide),if_neg (by rw[ht];decide),if_neg (fun h=>hn5 h.1),if_neg (fun h=>hn5 h.1)]
      exact H3.out
     |true=>
      have d4:w3.cell? ⟨w.heap.size,4,none⟩= some (.int .i64 en):=H3.out.bcell 4
      have d5:w3.cell? ⟨b,5,none⟩= some (.int .i64 fi):=H3.out.cell 5
      have z5:=H3.out.free 5
      have H4:=ab (H3.out.setB 5 (.int .i64 en))
      have d6:(w3.setCell ⟨b,5,none⟩ (.int .i64 en)).cell? ⟨b,6,none⟩= some (.bool kn):=H4.out.cell 6
      have z6:=H4.out.free 6
      have H5:=ab (H4.out.setB 6 (.bool true))
      have k0:((w3.setCell ⟨b,5,none⟩ (.int .i64 en)).setCell ⟨b,6,none⟩ (.bool true)).cell? ⟨w.heap.size,0,none⟩= some (.int .i64 ty):=H5.out.bcell 0
      by_cases h5:ty=5
      ·have HG:=ab (HGu.out _ lv' vs' en true HR0.out H5.out)
       have HT5:=ab ht
       clear H3 H4 H5 HGu ht
       have hb5:(ty==5)=true:=by rw[h5];rfl
       replace h5:=ab h5
       go_wp2_with fail
       refine HG.out.mono ?_
       rintro e w6 ⟨rfl,lv2,vs2,hT6⟩
       have H6:=ab hT6
       clear hT6 HG d4 d5 z5 d6 z6 k0
       go_wp2_with fail
       go_ret
       refine⟨by rw[HR0.out];rfl,H6.out.chg,fun _ _ _=>⟨lv2,vs2,?_⟩⟩
       have h6:=H6.out
       rw[if_pos HT5.out,if_pos HT5.out]
       cases hcv:bu r.2 rd en with
       |true=>
        rw[hcv]at h6
        rw[if_neg (fun h=>by simp at h),if_neg (fun h=>by simp at h)]
        exact h6
       |false=>
        rw[hcv]at h6
        rw[if_pos ⟨h5.out,rfl⟩,if_pos ⟨h5.out,rfl⟩]
        exact h6
      ·have hb5:(ty==5)=false:=beq_eq_false_iff_ne.2 h5
       go_wp2_with fail
       go_ret
       refine⟨by rw[HR0.out];rfl,H5.out.chg,fun _ _ _=>⟨lv',vs',?_⟩⟩
       rw[if_pos ht,if_pos ht,if_neg (fun h=>h5 h.1),if_neg (fun h=>h5 h.1)]
       exact H5.out
   ·have hrb:(r.1==0)=false:=beq_eq_false_iff_ne.2 hr0
    go_wp2_with fail
    go_ret
    exact⟨by rfl,HT.out.chg,fun _ _ h=>absurd h hr0⟩
  ·have hob:(orI c1 c2==0)=false:=beq_eq_false_iff_ne.2 hor
   go_wp2_with fail
   go_ret
   refine⟨?_,Chg.of_below hbw,fun h1 h2=>absurd (by rw[h1,h2];rfl) hor⟩
   have hcd:orI c1 c2=if c1≠0 then c1 else if c2≠0 then c2 else r.1:=by
    unfold orI at hor⊢
    by_cases h1:c1≠0
    ·rw[if_pos h1,if_pos h1]
    ·rw[if_neg h1]at hor
     rw[if_neg h1,if_neg h1,if_pos hor]
   rw[<-hcd]
   rfl
structure StrAt(U:Nat->Prop)(w:World)(b:Nat)(lv:Value)(piece:Int)(x:aR):Prop where
 blk:w.heap[b]? =some (.cells #[lv,.int .i64 x.read,.int .i64 x.highest,.int .i64 x.credit,.int .i64 piece,.int .i64 (max x.final 0),.bool (decide (0<=x.final)),.bool x.reset] 204 (0,0))
 runs:∃vs,x_RunsAt w lv vs (aX x.read x.bytes)/\∀v∈vs,kg v.2/\∀g,v.2.ownBlock=some g->U g
theorem StrAt.lt{U:Nat->Prop}{w:World}{b:Nat}{lv:Value}{piece:Int}{x:aR}(h:StrAt U w b lv piece x):b<w.heap.size:=(aLt h.blk)
theorem StrAt.own{U:Nat->Prop}{w:World}{b:Nat}{lv:Value}{piece:Int}{x:aR}(h:StrAt U w b lv piece x):∃vs,w.ownsRow 0 259 2 lv vs.length (aC vs):=by
 obtain⟨vs,h1,_⟩:=h.runs
 exact⟨vs,h1.own⟩
theorem StrAt.cell{U:Nat->Prop}{w:World}{b:Nat}{lv:Value}{piece:Int}{x:aR}(h:StrAt U w b lv piece x)(i:Nat):w.cell? ⟨b,i,none⟩=(#[lv,.int .i64 x.read,.int .i64 x.highest,.int .i64 x.credit,.int .i64 piece,.int .i64 (max x.final 0),.bool (decide (0<=x.final)),.bool x.reset]:Array Value)[i]?:=by
 simp only[World.cell?,h.blk]
 rfl
theorem StrAt.chg{U F:Nat->Prop}{w w':World}{b:Nat}{lv:Value}{piece:Int}{x:aR}(h:StrAt U w b lv piece x)(hc:Chg F w w')(h1:¬F b)(h2:∀g,lv.ownBlock=some g->¬F g)(h3:∀k cur fr,w.heap[k]? =some (.cells cur 5 fr)->¬F k):StrAt U w' b lv piece x:=by
 obtain⟨vs,hr,hk⟩:=h.runs
 refine⟨by rw[hc.block b h.lt h1];exact h.blk,vs,⟨bX hr.own hc h2,hr.sh,fun i v r hv hw=>(hr.ro i v r hv hw).chg hc h3⟩,hk⟩
theorem StrAt.below{U:Nat->Prop}{w w':World}{b:Nat}{lv:Value}{piece:Int}{x:aR}(h:StrAt U w b lv piece x)(hb:Below w.heap.size w w'):StrAt U w' b lv piece x:=h.chg (F:=fun _=>False) (Chg.of_below hb) (fun h=>h) (fun _ _ h=>h) (fun _ _ _ _ h=>h)
theorem StrAt.mono{U U':Nat->Prop}{w:World}{b:Nat}{lv:Value}{piece:Int}{x:aR}(h:StrAt U w b lv piece x)(hU:∀k,U k->U' k):StrAt U' w b lv piece x:=by
 obtain⟨vs,hr,hk⟩:=h.runs
 exact⟨h.blk,vs,hr,fun v hv=>⟨(hk v hv).1,fun g hg=>hU g ((hk v hv).2 g hg)⟩⟩
theorem lO{base:Int}{l:List Int}(h0:0<=base)(hl:base+l.length<=1099511627776)(hc:(aX base l).length<=100):RunsFit (aX base l) where
 wf:=jG l base
 few:=hc
 far:=fun r hr=>by
  have h1:=gO l base r hr
  have h2:=runsOf_to l base r hr
  omega
theorem StrInv.fit{gaps:Int}{x:aR}(h:StrInv gaps x)(hg:gaps<=8):RunsFit (aX x.read x.bytes):=by
 refine lO h.read ?_ ?_
 ·have:=h.len;have:=h.cred;omega
 ·have h1:=df x.bytes x.read
  have:=h.gaps
  omega
theorem RdB.cap [LoM] {w:World}{v:Value}{l:List Int}(h:RdB w v l):∀ao cap,v=.slice ao l.length cap->l.length<=cap/\cap<=9223372036854775807:=by
 obtain⟨_,_,ao,cap,rfl,h3,h4,_⟩:=h
 intro ao' cap' e
 simp only[Value.slice.injEq]at e
 omega
structure sF(U F:Nat->Prop)(w:World)(b:Nat)(lv:Value)(piece:Int)(r:Int×aR)(e:Ending)(w':World):Prop where
 ret:e=.returned (.int .i64 r.1)
 chg:Chg F w w'
 str:r.1=0->∃lv',StrAt (fun k=>U k\/(w.heap.size<=k/\k<w'.heap.size)) w' b lv' piece r.2/\(lv'.ownBlock=lv.ownBlock\/∀g,lv'.ownBlock=some g->w.heap.size<=g)
theorem tTake_at [LoM] {U:Nat->Prop}(b:Nat)(lv:Value)(piece gaps credit high:Int)(f:dx)(x:aR)(bv:Value)(pf:Int)(w:World)(h:StrAt U w b lv piece x)(hx:StrInv gaps x)(hd:x.done=false)(hch:high<=credit)(hg:0<=gaps/\gaps<=8)(hty:f.type=3\/f.type=4\/f.type=5)(h5:f.type=5->f.bytes=[])(ho:0<=f.ofs/\f.ofs<=1073741823)(hl:f.bytes.length<=1073741823)(hbv:RdB w bv f.bytes):
  Calls Tryz.prog 217 #[.pointer (some ⟨b,0,none⟩),gN f.type f.id (if f.type=5 then 0 else f.ofs) bv (f.ofs+f.bytes.length) pf,.int .i64 (credit-high),.int .i64 gaps] w fun e w'=>sF U (fun k=>k=b\/lv.ownBlock=some k) w b lv piece (bf gaps credit high f x) e w':=by
 obtain⟨vs,hr,hk⟩:=h.runs
 have hP:=tH (gaps:=gaps) (credit:=credit) (high:=high) (f:=f) hbv.1 hx hd hch hty h5 ho.1
 have hR:=recN_is hx (f:=f) hbv.1 h5
 simp only at hP hR
 have hpo:0<=(if f.type=5 then 0 else f.ofs)/\(if f.type=5 then 0 else f.ofs)<=1073741823:=by split<;>omega
 obtain⟨po,hpo'⟩:∃po,(if f.type=5 then 0 else f.ofs)=po:=⟨_,rfl⟩
 rw[hpo']at hP hR hpo⊢
 have hlen:=hx.len
 have hcr:=hx.cred
 have hrd:=hx.read
 have hcnt:=df x.bytes x.read
 have hgp:=hx.gaps
 obtain⟨r,hr'⟩:∃r,lU x.reset (aX x.read x.bytes) (po+fe x.read po f.bytes) (f.bytes.drop (fe x.read po f.bytes)) gaps=r:=⟨_,rfl⟩
 rw[hr']at hP hR
 have hfit:r.1=0->RunsFit r.2:=by
  intro h0
  have hlen2:(r.2.length:Int)<=gaps:=by
   rw[<-hr']at h0⊢
   unfold lU at h0⊢
   split
   ·simp only;omega
   ·next h1=>
    rw[if_neg h1]at h0
    split
    ·next h2=>rw[if_pos h2]at h0;exact absurd (show(9:Int)=0 from h0) (by decide)
    ·next h2=>
     rw[if_neg h2]at h0
     simp only at h0⊢
     split at h0
     ·exact absurd h0 (by decide)
     ·omega
  by_cases hc:f.type≠5/\x.reset=false
  ·obtain⟨e1,e2⟩:=hR.1 hc
   have e3:=e2 h0
   rw[e3]at hlen2⊢
   refine lO hrd ?_ (by omega)
   have hb2:((dt gaps x f.ofs f.bytes).2.bytes.length:Int)<=2147483647:=by
    unfold dt
    split
    ·simp only;omega
    ·next m hm=>
     have:=kb hm
     split<;>simp only<;>omega
   omega
  ·rw[hR.2 hc]
   exact hx.fit hg.2
 refine(tTake_any b lv vs (aX x.read x.bytes) x.read x.highest x.credit piece (max x.final 0) (decide (0<=x.final)) x.reset f.type f.id po bv (f.ofs+f.bytes.length) pf (credit-high) gaps f.bytes _ _ r w h.blk hr (hx.fit hg.2) hk hbv.rx hbv.cap (by omega) hpo hl (by omega) (by omega) rfl rfl hr'.symm hfit).mono ?_
 rintro e w' ⟨rfl,hch',hst⟩
 refine⟨by rw[hP.1],hch',fun h0=>?_⟩
 rw[hP.1]at h0
 have hc1:uI (decide (0<=x.final)) f.type (f.ofs+f.bytes.length) x.highest (max x.final 0)=0:=by
  refine Classical.byContradiction fun hne=>?_
  rw[if_pos hne]at h0
  exact hne h0
 rw[if_neg (by rw[hc1];decide)]at h0
 have hc2:iR x.highest x.credit (f.ofs+f.bytes.length) (credit-high)=0:=by
  refine Classical.byContradiction fun hne=>?_
  rw[if_pos hne]at h0
  exact hne h0
 rw[if_neg (by rw[hc2];decide)]at h0
 obtain⟨lv',vs',hT⟩:=hst hc1 hc2 h0
 obtain⟨q1,q2,q3,q4,q5,q6,q7⟩:=hP.2 hc1 hc2 h0 _ rfl
 generalize (bf gaps credit high f x).2=x' at *
 have hblk:=hT.blk
 have hruns:=hT.runs
 have hwf2:cY (if f.type=5/\bu r.2 x.read (f.ofs+f.bytes.length)=false then [] else r.2):=by
  split
  ·exact trivial
  ·exact(hfit h0).wf
 have hcaps:∀v∈vs',kg v.2/\∀g,v.2.ownBlock=some g->U g\/(w.heap.size<=g/\g<w'.heap.size):=by
  intro v hv
  have h1:=hT.caps v hv
  have h2:=hruns.old hwf2 v hv
  exact⟨h1.1,fun g hg=>(h1.2 g hg).imp id fun h3=>⟨h3,h2 g hg⟩⟩
 have htell:dC f.type=true->(if dC f.type=true then f.ofs+(f.bytes.length:Int) else x.final)=f.ofs+f.bytes.length:=fun h=>if_pos h
 have hfin:(if dC f.type=true then f.ofs+(f.bytes.length:Int) else max x.final 0)=max x'.final 0:=by
  rw[q4]
  split<;>omega
 have hkn:(if dC f.type=true then true else decide (0<=x.final))=decide (0<=x'.final):=by
  rw[q4]
  split
  ·simp;omega
  ·rfl
 rw[hfin,hkn,<-q2]at hblk
 by_cases hcv:f.type=5/\bu r.2 x.read (f.ofs+f.bytes.length)=false
 ·obtain⟨e1,e2⟩:=q6 hcv.1 hcv.2
  rw[if_pos hcv]at hblk hruns
  refine⟨lv',⟨?_,vs',?_,hcaps⟩,hT.at_⟩
  ·rw[q1,q3,e1];exact hblk
  ·rw[e2];exact hruns
 ·obtain⟨e1,e2⟩:=q7 hcv
  rw[if_neg hcv]at hblk hruns
  refine⟨lv',⟨?_,vs',?_,hcaps⟩,hT.at_⟩
  ·rw[q1,q3,e1];exact hblk
  ·rw[q1,e2];exact hruns
theorem x_RunsAt.chg{F:Nat->Prop}{w w':World}{lv:Value}{vs:List bn}{rl:List aO}(h:x_RunsAt w lv vs rl)(hc:Chg F w w')(h2:∀g,lv.ownBlock=some g->¬F g)(h3:∀k cur fr,w.heap[k]? =some (.cells cur 5 fr)->¬F k):x_RunsAt w' lv vs rl:=⟨bX h.own hc h2,h.sh,fun i v r hv hw=>(h.ro i v r hv hw).chg hc h3⟩
theorem eT{F G:Nat->Prop}{a b c:World}(h:Chg F a b)(k:Chg G b c)(hg:∀q,q<a.heap.size->G q->F q):Chg F a c:=
 ⟨k.os.trans h.os,k.tape.trans h.tape,k.output.trans h.output,Nat.le_trans h.size k.size,fun i hi hn=>(k.block i (Nat.lt_of_lt_of_le hi h.size) (fun e=>hn (hg i hi e))).trans (h.block i hi hn)⟩
theorem xTake_at(U:Nat->Prop)(b:Nat)(lv:Value)(piece:Int)(x:aR)(most gaps:Int)(w:World)(h:StrAt U w b lv piece x)(hI:StrInv gaps x)(hg:gaps<=8)(hm:0<=most/\most<=9223372036854775807):
  Calls Tryz.prog 131 #[.pointer (some ⟨b,0,none⟩),.int .i64 x.read,.int .i64 most] w fun e w'=>∃tv,e=.returned tv/\w'.ownsRow w.heap.size 5 1 tv (du x most) (U8 (x.bytes.take (du x most)))/\
   ∃lv' vs',x_RunsAt w' lv' vs' (aX (x.read+du x most) (x.bytes.drop (du x most)))/\(∀v∈vs',kg v.2/\∀g,v.2.ownBlock=some g->(U g\/w.heap.size<=g)/\tv.ownBlock≠some g)/\(lv'.ownBlock=lv.ownBlock\/∀g,lv'.ownBlock=some g->w.heap.size<=g)/\Chg (fun q=>q=b\/lv.ownBlock=some q) w w'/\
    w'.heap[b]? =some (.cells #[lv',.int .i64 x.read,.int .i64 x.highest,.int .i64 x.credit,.int .i64 piece,.int .i64 (max x.final 0),.bool (decide (0<=x.final)),.bool x.reset] 204 (0,0)):=by
 obtain⟨vs,hr,hcap⟩:=h.runs
 have h1:=hI.len
 have h2:=hI.cred
 have h3:=hI.read
 have hgp:=hI.gaps
 have hrl:=df x.bytes x.read
 have hfit:RunsFit (aX x.read x.bytes):=lO h3 (by omega) (by omega)
 have hitems:∀{vs':List bn} {tv:Value},(∀v∈vs',v∈vs\/(kg v.2/\∀g,v.2.ownBlock=some g->w.heap.size<=g))->(∀v∈vs',v.2.ownBlock=none\/v.2.ownBlock≠tv.ownBlock)->∀v∈vs',kg v.2/\∀g,v.2.ownBlock=some g->(U g\/w.heap.size<=g)/\tv.ownBlock≠some g:=by
  intro vs' tv ha hb v hv
  have hx:∀g,v.2.ownBlock=some g->tv.ownBlock≠some g:=fun g hg e=>by
   rcases hb v hv with q|q
   ·rw[q]at hg;cases hg
   ·exact q (by rw[hg,e])
  rcases ha v hv with q|q
  ·exact⟨(hcap v q).1,fun g hg=>⟨Or.inl ((hcap v q).2 g hg),hx g hg⟩⟩
  ·exact⟨q.1,fun g hg=>⟨Or.inr (q.2 g hg),hx g hg⟩⟩
 by_cases hno:most=0\/bC x.bytes=0
 ·have hk:du x most=0:=by unfold du;rcases hno with e|e<;>omega
  have hcov:most=0\/bu (aX x.read x.bytes) x.read (x.read+1)=false:=hno.imp id fun e=>by
   rw[nW,e]
   exact decide_eq_false (by omega)
  refine(wh x.read most lv vs _ b 0 _ 204 w h.blk rfl hr hfit (by omega) hcov).mono ?_
  rintro e w' ⟨rfl,ho⟩
  refine⟨_,rfl,?_,lv,vs,?_,hitems ho.items (fun v hv=>?_),ho.at_,ho.chg,ho.blk⟩
  ·rw[hk]
   exact World.ownsRow_nil _ _ _ _
  ·rw[hk]
   simpa using ho.runs
  ·cases hq:v.2.ownBlock with
   |none=>exact Or.inl rfl
   |some q=>exact Or.inr (by simp[Value.ownBlock])
 ·have hl0:0<bC x.bytes:=by omega
  have hm0:0<most:=by omega
  have hrl2:=gP x.bytes x.read hl0
  have hr2:=hr
  have hfit2:=hfit
  rw[hrl2]at hr2 hfit2
  refine(wi x.read most _ _ lv vs b 0 _ 204 w h.blk rfl (by decide) (by decide) hr2 hfit2 hm0 hm.2).mono ?_
  rintro e w' ⟨tv,lv',vs',rfl,how,ho,hne⟩
  have hrt:=sk x.read x.bytes most.toNat
  have hmn:((most.toNat:Nat):Int)=most:=by omega
  rw[hmn]at hrt
  have hru:=ho.runs
  rw[hrt]at hru
  rw[vU]at how
  have hkl:(x.bytes.take (du x most)).length=du x most:=by
   have:=kO x.bytes
   rw[List.length_take]
   unfold du
   omega
  rw[hkl]at how
  exact⟨tv,rfl,how,lv',vs',hru,hitems ho.items hne,ho.at_,ho.chg,ho.blk⟩
structure jo(U:Nat->Prop)(w:World)(b:Nat)(lv:Value)(piece:Int)(x:aR)(most:Int)(e:Ending)(w':World):Prop where
 ex:∃tv lv',e=.returned (.agg #[tv,.bool (aM x most).1.fin,.bool (aM x most).1.rst])/\w'.ownsRow w.heap.size 5 1 tv (aM x most).1.bytes.length (U8 (aM x most).1.bytes)/\
  StrAt (fun g=>(U g\/w.heap.size<=g)/\tv.ownBlock≠some g) w' b lv' piece (aM x most).2/\(lv'.ownBlock=lv.ownBlock\/∀g,lv'.ownBlock=some g->w.heap.size<=g)
 chg:Chg (fun q=>q=b\/lv.ownBlock=some q) w w'
theorem tRead_at(U:Nat->Prop)(b:Nat)(lv:Value)(piece:Int)(x:aR)(most gaps:Int)(w:World)(h:StrAt U w b lv piece x)(hI:StrInv gaps x)(hg:gaps<=8)(hm:0<=most/\most<=9223372036854775807):
  Calls Tryz.prog 74 #[.pointer (some ⟨b,0,none⟩),.int .i64 most] w fun e w'=>jo U w b lv piece x most e w':=by
 have hb0:=ag w (.cells #[.slice none 0 0,.bool false,.bool false] 46)
 have h0:=h.below hb0
 have hxg:(w.alloc (.cells #[.slice none 0 0,.bool false,.bool false] 46)).heap[w.heap.size]? =some (.cells #[.slice none 0 0,.bool false,.bool false] 46 (0,0)):=heap_alloc_new w _
 have hbl:b<w.heap.size:=h.lt
 cases hrs:x.reset with
 |true=>
  have c7:(w.alloc (.cells #[.slice none 0 0,.bool false,.bool false] 46)).cell? ⟨b,7,none⟩= some (.bool true):=by rw[<-hrs];exact h0.cell 7
  have hbn:=(hI.rst hrs).1
  have hk:du x most=0:=by unfold du;rw[hbn];simp[bC]
  have hX:aM x most=(⟨[],false,true⟩,{x with done:=true}):=by
   unfold aM
   rw[hk,hbn,hrs]
   simp
  have HE:Hid (∀W:World,Below w.heap.size w W->jo U w b lv piece x most (.returned (.agg #[.slice none 0 0,.bool false,.bool true])) W):=fun W hW=>by
   refine⟨⟨.slice none 0 0,lv,by rw[hX],by rw[hX];exact World.ownsRow_nil _ _ _ _,?_,Or.inl rfl⟩,Chg.of_below hW⟩
   rw[hX]
   have h1:=h.below hW
   obtain⟨vs,hr,hc⟩:=h1.runs
   refine⟨h1.blk,vs,hr,fun v hv=>⟨(hc v hv).1,fun g hg=>⟨Or.inl ((hc v hv).2 g hg),by simp[Value.ownBlock]⟩⟩⟩
  have HX:=ab hxg
  have HB:=ab hb0
  clear h h0 hI hxg hb0 hX hbn
  go_enter Tryz.func74,Tryz.ntmps74
  go_wp2_with fail
  refine bodyPost_ret (results_cell_row (P:=Tryz.prog) Tryz.results74 _ _ w.heap.size 46 #[.slice none 0 0,.bool false,.bool true] (0,0) _ rfl (heap_alloc_new w _) Tryz.underlying46 rfl (by kernel_rfl)) rfl ?_
  exact HE.out _ (ag w _)
 |false=>
  have hkle:du x most<=x.bytes.length:=by
   have:=kO x.bytes
   unfold du
   omega
  have hlen:=hI.len
  have hcr:=hI.cred
  have hrd:=hI.read
  have hf0:=hI.fin0
  obtain⟨k,hk⟩:∃k,du x most=k:=⟨_,rfl⟩
  have HT:Hid (∀W:World,Below w.heap.size w W->Calls Tryz.prog 131 #[.pointer (some ⟨b,0,none⟩),.int .i64 x.read,.int .i64 most] W fun e w1=>∃ta tc lv',e=.returned (.slice ta k tc)/\w1.ownsRow w.heap.size 5 1 (.slice ta k tc) k (U8 (x.bytes.take k))/\
    (∃vs',x_RunsAt w1 lv' vs' (aX (x.read+k) (x.bytes.drop k))/\(∀v∈vs',kg v.2/\∀g,v.2.ownBlock=some g->(U g\/w.heap.size<=g)/\(Value.slice ta k tc).ownBlock≠some g))/\(lv'.ownBlock=lv.ownBlock\/∀g,lv'.ownBlock=some g->w.heap.size<=g)/\Chg (fun q=>q=b\/lv.ownBlock=some q) w w1/\
    w1.heap[b]? =some (.cells #[lv',.int .i64 x.read,.int .i64 x.highest,.int .i64 x.credit,.int .i64 piece,.int .i64 (max x.final 0),.bool (decide (0<=x.final)),.bool x.reset] 204 (0,0))/\∀q,w.heap.size<=q->q<W.heap.size->w1.heap[q]? =W.heap[q]?):=by
   intro W hW
   refine(xTake_at U b lv piece x most gaps W (h.below hW) hI hg hm).mono ?_
   rintro e w1 ⟨tv,rfl,how,lv',vs',hr,hc,hat,hch,hbk⟩
   rw[hk]at how hr
   obtain⟨ta,tc,rfl⟩:=aH how
   have hs:=hW.size
   refine⟨ta,tc,lv',rfl,ch how hs,⟨vs',hr,fun v hv=>⟨(hc v hv).1,fun g hg=>⟨((hc v hv).2 g hg).1.imp id fun e=>by omega,((hc v hv).2 g hg).2⟩⟩⟩,hat.imp id fun e g hg=>Nat.le_trans hs (e g hg),(Chg.of_below hW).trans hch,hbk,fun q h1 h2=>hch.block q h2 fun e=>?_⟩
   rcases e with e|e
   ·omega
   ·obtain⟨vs0,h5⟩:=h.own
    have:=(h5.lt q e).2
    omega
  have c7:(w.alloc (.cells #[.slice none 0 0,.bool false,.bool false] 46)).cell? ⟨b,7,none⟩= some (.bool x.reset):=h0.cell 7
  rw[hrs]at c7
  have c1:∀W:World,Below w.heap.size w W->W.cell? ⟨b,1,none⟩= some (.int .i64 x.read):=fun W hW=>(h.below hW).cell 1
  have c1a:=c1 _ hb0
  have HX:=ab hxg
  have HB:=ab hb0
  clear h h0 hI hxg c1
  go_enter Tryz.func74,Tryz.ntmps74
  go_wp2_with fail
  go_region_with (first
   |(go_at_call 131;refine(HT.out _ (ak HB.out 1)).mono ?_;rintro e w1 ⟨ta,tc,lv',rfl,how,hru,hat,hch,hbk,hkp⟩))
  have d1:w1.cell? ⟨b,1,none⟩= some (.int .i64 x.read):=by simp[World.cell?,hbk]
  have z1:w1.frozen? ⟨b,1,none⟩= false:=frozen_of_row _ _ _ _ _ hbk
  have hgb:w1.heap[w.heap.size]? =some (.cells #[.slice none 0 0,.bool false,.bool false] 46 (0,0)):=(hkp w.heap.size (Nat.le_refl _) (by show w.heap.size<(w.alloc _).heap.size;simp)).trans HX.out
  have hwk:IntKind.i64.wrap (x.read+(k:Int))=x.read+k:=by rw[IntKind.wrap_i64];omega
  have hb2:=al hbk 1 (.int .i64 (x.read+(k:Int)))
  have hg2:(w1.setCell ⟨b,1,none⟩ (.int .i64 (x.read+(k:Int)))).heap[w.heap.size]? =some (.cells #[.slice none 0 0,.bool false,.bool false] 46 (0,0)):=by
   rw[heap_setCell_other _ _ _ _ (show w.heap.size≠b by omega)]
   exact hgb
  have e1:(w1.setCell ⟨b,1,none⟩ (.int .i64 (x.read+(k:Int)))).cell? ⟨b,1,none⟩= some (.int .i64 (x.read+k)):=by simp only[World.cell?,hb2];rfl
  have e5:(w1.setCell ⟨b,1,none⟩ (.int .i64 (x.read+(k:Int)))).cell? ⟨b,5,none⟩= some (.int .i64 (max x.final 0)):=by simp only[World.cell?,hb2];rfl
  have e6:(w1.setCell ⟨b,1,none⟩ (.int .i64 (x.read+(k:Int)))).cell? ⟨b,6,none⟩= some (.bool (decide (0<=x.final))):=by simp only[World.cell?,hb2];rfl
  have q0:(w1.setCell ⟨b,1,none⟩ (.int .i64 (x.read+(k:Int)))).cell? ⟨w.heap.size,0,none⟩= some (.slice none 0 0):=by simp only[World.cell?,hg2];rfl
  have q1:(w1.setCell ⟨b,1,none⟩ (.int .i64 (x.read+(k:Int)))).cell? ⟨w.heap.size,1,none⟩= some (.bool false):=by simp only[World.cell?,hg2];rfl
  have q2:(w1.setCell ⟨b,1,none⟩ (.int .i64 (x.read+(k:Int)))).cell? ⟨w.heap.size,2,none⟩= some (.bool false):=by simp only[World.cell?,hg2];rfl
  have y0:∀j,(w1.setCell ⟨b,1,none⟩ (.int .i64 (x.read+(k:Int)))).frozen? ⟨w.heap.size,j,none⟩= false:=fun j=>frozen_of_row _ _ j _ _ hg2
  have y00:=y0 0
  have y01:=y0 1
  have y02:=y0 2
  have HOw:=ab how
  have HRu:=ab hru
  have HAt:=ab hat
  have HCh:=ab hch
  have HBk:=ab hbk
  clear how hru hat hch hbk hkp hgb c7 c1a HT
  have hX1:(aM x most).1 =⟨x.bytes.take k,decide (x.read+k=x.final),false⟩:=by
   unfold aM
   rw[hk,hrs]
   simp
  have hX2:(aM x most).2 = {x with bytes:=x.bytes.drop k,read:=x.read+k,done:=(aM x most).2.done}:=by
   unfold aM
   rw[hk]
  have hlk:(x.bytes.take k).length=k:=by rw[List.length_take];omega
  have HEnd:Hid (∀fin:Bool,fin=decide (x.read+k=x.final)->((((w1.setCell ⟨b,1,none⟩ (.int .i64 (x.read+(k:Int)))).setCell ⟨w.heap.size,0,none⟩ (.slice ta k tc)).setCell ⟨w.heap.size,1,none⟩ (.bool fin)).setCell ⟨w.heap.size,2,none⟩ (.bool false)).drew.heap[w.heap.size]? =some (.cells #[.slice ta k tc,.bool fin,.bool false] 46 (0,0))/\
    jo U w b lv piece x most (.returned (.agg #[.slice ta k tc,.bool fin,.bool false])) ((((w1.setCell ⟨b,1,none⟩ (.int .i64 (x.read+(k:Int)))).setCell ⟨w.heap.size,0,none⟩ (.slice ta k tc)).setCell ⟨w.heap.size,1,none⟩ (.bool fin)).setCell ⟨w.heap.size,2,none⟩ (.bool false)).drew):=by
   intro fin hfin
   have b1:=al hg2 0 (.slice ta k tc)
   have b2:=al b1 1 (.bool fin)
   have b3:=al b2 2 (.bool false)
   have hw1:w.heap.size<w1.heap.size:=(aLt hg2) |> fun h=>by simpa using h
   have hC:Chg (fun q=>q=b\/w.heap.size=q) w1 ((((w1.setCell ⟨b,1,none⟩ (.int .i64 (x.read+(k:Int)))).setCell ⟨w.heap.size,0,none⟩ (.slice ta k tc)).setCell ⟨w.heap.size,1,none⟩ (.bool fin)).setCell ⟨w.heap.size,2,none⟩ (.bool false)).drew:=by
    refine⟨rfl,rfl,rfl,by show w1.heap.size<=_;simp,fun q hq hn=>?_⟩
    have n1:q≠b:=fun e=>hn (Or.inl e)
    have n2:q≠w.heap.size:=fun e=>hn (Or.inr e.symm)
    show(((w1.setCell _ _).setCell _ _).setCell _ _ |>.setCell _ _).heap[q]? =_
    rw[heap_setCell_other _ _ _ _ n2,heap_setCell_other _ _ _ _ n2,heap_setCell_other _ _ _ _ n2,heap_setCell_other _ _ _ _ n1]
   refine⟨b3,⟨.slice ta k tc,lv',by rw[hX1,hfin],?_,?_,HAt.out⟩,?_⟩
   ·rw[hX1]
    simp only[hlk]
    refine bX HOw.out hC (fun g hg e=>?_)
    obtain⟨cc,hcc⟩:=aQ HOw.out hg
    rcases e with e|e
    ·rw[e,HBk.out]at hcc
     simp only[Option.some.injEq,Obj.cells.injEq]at hcc
     exact absurd hcc.2.1 (by decide)
    ·rw[<-e]at hcc
     have h9:w1.heap[w.heap.size]? =some (.cells #[.slice none 0 0,.bool false,.bool false] 46 (0,0)):=by
      rw[heap_setCell_other _ _ _ _ (show w.heap.size≠b by omega)]at hg2
      exact hg2
     rw[h9]at hcc
     simp only[Option.some.injEq,Obj.cells.injEq]at hcc
     exact absurd hcc.2.1 (by decide)
   ·rw[hX2]
    obtain⟨vs',hru,hcv⟩:=HRu.out
    refine⟨?_,vs',?_,hcv⟩
    ·show(((w1.setCell _ _).setCell _ _).setCell _ _ |>.setCell _ _).heap[b]? =_
     have n3:b≠w.heap.size:=by omega
     rw[heap_setCell_other _ _ _ _ n3,heap_setCell_other _ _ _ _ n3,heap_setCell_other _ _ _ _ n3]
     exact hb2
    ·refine hru.chg hC (fun g hg e=>?_) (fun q cur fr hq e=>?_)
     ·obtain⟨cc,hcc⟩:=aQ hru.own hg
      rcases e with e|e
      ·rw[e,HBk.out]at hcc
       simp only[Option.some.injEq,Obj.cells.injEq]at hcc
       exact absurd hcc.2.1 (by decide)
      ·rw[<-e]at hcc
       have h9:w1.heap[w.heap.size]? =some (.cells #[.slice none 0 0,.bool false,.bool false] 46 (0,0)):=by
        rw[heap_setCell_other _ _ _ _ (show w.heap.size≠b by omega)]at hg2
        exact hg2
       rw[h9]at hcc
       simp only[Option.some.injEq,Obj.cells.injEq]at hcc
       exact absurd hcc.2.1 (by decide)
     ·rcases e with e|e
      ·rw[e,HBk.out]at hq
       simp only[Option.some.injEq,Obj.cells.injEq]at hq
       exact absurd hq.2.1 (by decide)
      ·have h9:w1.heap[w.heap.size]? =some (.cells #[.slice none 0 0,.bool false,.bool false] 46 (0,0)):=by
        rw[heap_setCell_other _ _ _ _ (show w.heap.size≠b by omega)]at hg2
        exact hg2
       rw[<-e,h9]at hq
       simp only[Option.some.injEq,Obj.cells.injEq]at hq
       exact absurd hq.2.1 (by decide)
   ·refine eT HCh.out hC (fun q hq e=>?_)
    rcases e with e|e
    ·exact Or.inl e
    ·omega
  clear hb2 hg2 HOw HRu HAt HCh HBk hX1 hX2
  by_cases hkn:0<=x.final
  ·rw[show decide (0<=x.final)=true from decide_eq_true hkn]at e6
   have hmx:max x.final 0=x.final:=by omega
   rw[hmx]at e5
   obtain⟨hg3,hfin⟩:=HEnd.out (x.read+(k:Int)==x.final) rfl
   have HG3:=ab hg3
   have HFn:=ab hfin
   clear HEnd hg3 hfin
   go_wp2_with fail
   go_region
   go_wp2_with fail
   refine bodyPost_ret (results_cell_row (P:=Tryz.prog) Tryz.results74 _ _ w.heap.size 46 #[.slice ta k tc,.bool (x.read+(k:Int)==x.final),.bool false] (0,0) _ rfl HG3.out Tryz.underlying46 rfl (by kernel_rfl)) rfl ?_
   exact HFn.out
  ·rw[show decide (0<=x.final)=false from decide_eq_false hkn]at e6
   obtain⟨hg3,hfin⟩:=HEnd.out false (decide_eq_false (by omega)).symm
   have HG3:=ab hg3
   have HFn:=ab hfin
   clear HEnd hg3 hfin
   go_wp2_with fail
   go_region
   go_wp2_with fail
   refine bodyPost_ret (results_cell_row (P:=Tryz.prog) Tryz.results74 _ _ w.heap.size 46 #[.slice ta k tc,.bool false,.bool false] (0,0) _ rfl HG3.out Tryz.underlying46 rfl (by kernel_rfl)) rfl ?_
   exact HFn.out
end Go.Proofs.YthmdjhlhodpbhaaGreatDoor
