/- InOrder, 11 -/
import Derived.Lib.SliceRun
import Derived.Test.YthmdjhlhodpbhaaGreatDoorI10
set_option maxHeartbeats 16000000
set_option maxRecDepth 8000
namespace Go.Proofs.YthmdjhlhodpbhaaGreatDoor
open Go.RowKit
theorem x_Agrees_any(first:Int)(items:List Int)(iv lv:Value)(vs:List bm)(rl:List aL)(rb off:Nat)(w:World)(hc:w.cell? ⟨rb,off,none⟩= some lv)(h:x_RunsAt w lv vs rl)(hf:RunsFit rl)(hiv:Ro w 5 iv items.length (U8 items))(hic:∀ao cap,iv=.slice ao items.length cap->items.length<=cap/\cap<=9223372036854775807)(hro:∀v∈vs,∀ao n cap,v.2=.slice ao n cap->cap<=9223372036854775807)(hfar:0<=first/\first+items.length<=1099511627776):
  Calls Tryz.prog 234 #[.pointer (some ⟨rb,off,none⟩),.int .i64 first,iv] w fun e w'=>e=.returned (.bool (dZ rl first items))/\Below w.heap.size w w':=by
 obtain⟨ia,ic,rfl,_,_⟩:=id hiv
 obtain⟨hic1,hic2⟩:=hic ia ic rfl
 obtain⟨ao,cap,rfl⟩:=aY h.own
 have hn:vs.length<=100:=by rw[h.sh.1];exact hf.few
 have HK:Hid (∀(k:Nat) (wr:World),k<vs.length->Below w.heap.size w wr->∃g r rv rc,ao=some ⟨g,0,none⟩/\rl[k]? =some r/\wr.cell? ⟨g,k*2,none⟩= some (.int .i64 r.1)/\wr.cell? ⟨g,k*2+1,none⟩= some (.slice rv r.2.length rc)/\Ro wr 5 (.slice rv r.2.length rc) r.2.length (U8 r.2)/\0<=r.1/\r.1+r.2.length<=1099511627776/\0<r.2.length/\r.2.length<=rc/\rc<=9223372036854775807):=by
  intro k wr hk hbr
  obtain⟨v,hv⟩:∃v,vs[k]? =some v:=⟨_,List.getElem?_eq_getElem hk⟩
  obtain⟨r,hr⟩:∃r,rl[k]? =some r:=⟨_,List.getElem?_eq_getElem (by rw[<-h.sh.1];exact hk)⟩
  obtain⟨e1,ao2,cap2,e2,hcap2⟩:=h.sh.2 k v r hv hr
  have h4:=(h.ro k v r hv hr).below hbr
  have h5:=hf.far r (List.mem_of_getElem? hr)
  have h6:=hro v (List.mem_of_getElem? hv) _ _ _ e2
  obtain⟨v1,v2⟩:=v
  simp only at e1 e2 h4
  subst e1 e2
  have hown2:=aD h.own hbr
  rcases hown2.2 with⟨_,h0⟩|⟨g,cap',cur,e3,_,hg,hnc,hcm,hcs,htk⟩
  ·omega
  simp only[Value.slice.injEq]at e3
  obtain⟨rfl,_,rfl⟩:=e3
  obtain⟨q1,q2⟩:=eC hv
  exact⟨g,r,ao2,cap2,rfl,hr,by rw[hown2.cellAt (k*2) (by omega)];exact q1,by rw[hown2.cellAt (k*2+1) (by omega)];exact q2,h4,h5.1,h5.2,runsWf_mem hf.wf (List.mem_of_getElem? hr),hcap2,h6⟩
 obtain⟨hfa,hfb⟩:=hfar
 have hwf:IntKind.i64.wrap (first+(items.length:Int))=first+(items.length:Int):=by rw[IntKind.wrap_i64];omega
 have HI:=ab hiv
 have HLen:=ab h.sh.1
 clear h hiv hro hic hf
 go_enter Tryz.func234,Tryz.ntmps234
 go_wp2_with fail
 go_loopw [16] (fun i wr=>∃k:Nat,k<=vs.length/\i=.int .i64 k/\Below w.heap.size w wr/\Hid (∀(j:Nat) r,j<k->rl[j]? =some r->agreeOne first items r=true)) (fun i _=>vs.length-(intOf i).toNat)
 case atStart=>exact⟨0,Nat.zero_le _,rfl,Below.refl _ _,fun j r hj=>by omega⟩
 case round=>
  obtain⟨k,hk,rfl,hbr,hno⟩:=hrel
  by_cases hkl:k<vs.length
  ·obtain⟨g,r,rv,rc,rfl,hr,c1,c2,hRo,hr0,hr1,hr2,hrc,hrm⟩:=HK.out k wr hkl hbr
   have HX:Hid (∀W,Calls Tryz.prog 197 #[.agg #[.int .i64 r.1,.slice rv r.2.length rc]] W fun e w'=>e=.returned (.int .i64 (r.1+r.2.length))/\Below W.heap.size W w'):=fun W=>e7 r.1 r.2.length rc rv W (by omega) (by omega)
   have HA:Hid (∀W w':World,Below W.heap.size W w'->(W.cell? ⟨wr.heap.size,0,none⟩= some (.int .i64 r.1)/\W.cell? ⟨wr.heap.size,1,none⟩= some (.slice rv r.2.length rc))->(w'.cell? ⟨wr.heap.size,0,none⟩= some (.int .i64 r.1)/\w'.cell? ⟨wr.heap.size,1,none⟩= some (.slice rv r.2.length rc))):=
    fun W w' hb h=>⟨ae h.1 hb,ae h.2 hb⟩
   have HR:=ab hr
   have HRo:=ab hRo
   have HBR:=ab hbr
   have HN:=ab hno
   clear hr hRo hbr hno
   go_upto_region 4 with fail
   go_cut [9,10] from 20 to 30 (fun s9 s10 wx=>s9=.int .i64 (max first r.1)/\s10=.int .i64 (min (first+items.length) (r.1+r.2.length))/\Below wr.heap.size wr wx/\wx.cell? ⟨wr.heap.size,0,none⟩= some (.int .i64 r.1)/\wx.cell? ⟨wr.heap.size,1,none⟩= some (.slice rv r.2.length rc))
   case first=>
    rcases Int.lt_or_le first r.1 with hm1|hm1<;>rcases Int.lt_or_le (r.1+(r.2.length:Int)) (first+(items.length:Int)) with hm2|hm2
    all_goals
     go_region_held3 (fun w'=>w'.cell? ⟨wr.heap.size,0,none⟩= some (.int .i64 r.1)/\w'.cell? ⟨wr.heap.size,1,none⟩= some (.slice rv r.2.length rc)) (first|assumption|go_keep) (first
      |(go_at_call 197;refine(HX.out _).mono ?_;rintro e wz ⟨rfl,hbz⟩;have hSz:=HA.out _ _ hbz (by assumption)))
     all_goals
      go_wp2_with fail
      go_meet
      exact⟨congrArg (Value.int .i64) (by omega),congrArg (Value.int .i64) (by omega),ag (af wr _) (al hbz),hSz.1,hSz.2⟩
   case rest=>
    obtain⟨rfl,rfl,hbx,d0,d1⟩:=hcut
    have HBx:=ab (ag HBR.out hbx)
    have HRx:=ab (HRo.out.below hbx)
    have HIx:=ab (HI.out.below HBx.out)
    have HAg:Hid (agreeOne first items r=if max first r.1<min (first+items.length) (r.1+r.2.length) then
      decide ((r.2.drop (max first r.1-r.1).toNat).take (min (first+items.length) (r.1+r.2.length)-max first r.1).toNat=(items.drop (max first r.1-first).toNat).take (min (first+items.length) (r.1+r.2.length)-max first r.1).toNat) else true):=rfl
    clear hbx HBR HRo HX HA c1 c2
    have hmx:first<=max first r.1/\r.1<=max first r.1:=by omega
    have hmn:min (first+(items.length:Int)) (r.1+(r.2.length:Int))<=first+items.length/\min (first+(items.length:Int)) (r.1+(r.2.length:Int))<=r.1+r.2.length:=by omega
    generalize max first r.1=f at hmx HAg
    generalize min (first+(items.length:Int)) (r.1+(r.2.length:Int))=t at hmn HAg
    obtain⟨m1,m2⟩:=hmx
    obtain⟨m3,m4⟩:=hmn
    by_cases hft:f<t
    ·obtain⟨p1,hp1⟩:∃p:Nat,f-r.1=p:=⟨(f-r.1).toNat,by omega⟩
     obtain⟨p2,hp2⟩:∃p:Nat,t-r.1=p:=⟨(t-r.1).toNat,by omega⟩
     obtain⟨q1,hq1⟩:∃p:Nat,f-first=p:=⟨(f-first).toNat,by omega⟩
     obtain⟨q2,hq2⟩:∃p:Nat,t-first=p:=⟨(t-first).toNat,by omega⟩
     have hd:decide (f<t)=true:=by simpa using hft
     have w1:IntKind.i64.wrap (f-r.1)=(p1:Int):=by rw[IntKind.wrap_i64];omega
     have w2:IntKind.i64.wrap (t-r.1)=(p2:Int):=by rw[IntKind.wrap_i64];omega
     have w3:IntKind.i64.wrap (f-first)=(q1:Int):=by rw[IntKind.wrap_i64];omega
     have w4:IntKind.i64.wrap (t-first)=(q2:Int):=by rw[IntKind.wrap_i64];omega
     have w5:IntKind.i64.wrap (p1:Int)=(p1:Int):=by rw[IntKind.wrap_i64];omega
     have w6:IntKind.i64.wrap (p2:Int)=(p2:Int):=by rw[IntKind.wrap_i64];omega
     have w7:IntKind.i64.wrap (q1:Int)=(q1:Int):=by rw[IntKind.wrap_i64];omega
     have w8:IntKind.i64.wrap (q2:Int)=(q2:Int):=by rw[IntKind.wrap_i64];omega
     have b1:(p1:Int)<=(p2:Int):=by omega
     have b2:(p2:Int)<=(rc:Int):=by omega
     have b3:(q1:Int)<=(q2:Int):=by omega
     have b4:(q2:Int)<=(ic:Int):=by omega
     have b5:¬(rc=p1):=by omega
     have b6:¬(ic=q1):=by omega
     obtain⟨rg,ro,e1,hrc1⟩:=ro_cells HRx.out hr2
     subst e1
     obtain⟨ig,io,e2,hic1⟩:=ro_cells HIx.out (by omega)
     subst e2
     obtain⟨n,hn2⟩:∃n,n=p2-p1:=⟨_,rfl⟩
     have HE:Hid (∀W,(∃q,W=wc.drewN q)->Calls Tryz.prog 237 #[.slice (some ⟨rg,ro+p1,none⟩) (p2-p1) (rc-p1),.slice (some ⟨ig,io+q1,none⟩) (q2-q1) (ic-q1)] W fun e w'=>e=.returned (.bool (agreeOne first items r))/\∃q,w'=W.drewN q):=by
      rintro W ⟨q,rfl⟩
      have l1:((r.2.drop p1).take n).length=n:=by simp;omega
      have l2:((items.drop q1).take n).length=n:=by simp;omega
      have h9:=EqualB_any ((r.2.drop p1).take n) ((items.drop q1).take n) rg (ro+p1) (rc-p1) ig (io+q1) (ic-q1) (wc.drewN q) (by rw[l1,l2]) (by omega) (fun j u hj=>by
       show wc.cell? _=_
       rw[Nat.add_assoc]
       refine hrc1 (p1+j) u ?_
       simp only[U8,List.getElem?_map]at hj⊢
       have hj':j<n:=by
        rcases Nat.lt_or_ge j n with h|h
        ·exact h
        ·rw[List.getElem?_eq_none (by omega)]at hj;cases hj
       rwa [List.getElem?_take_of_lt hj',List.getElem?_drop]at hj) (fun j u hj=>by
       show wc.cell? _=_
       rw[Nat.add_assoc]
       refine hic1 (q1+j) u ?_
       simp only[U8,List.getElem?_map]at hj⊢
       have hj':j<n:=by
        rcases Nat.lt_or_ge j n with h|h
        ·exact h
        ·rw[List.getElem?_eq_none (by omega)]at hj;cases hj
       rwa [List.getElem?_take_of_lt hj',List.getElem?_drop]at hj)
      rw[l1]at h9
      have e3:q2-q1=n:=by omega
      rw[e3,<-hn2,HAg.out,if_pos hft,show(f-r.1).toNat=p1 from by omega,show(f-first).toNat=q1 from by omega,show(t-f).toNat=n from by omega]
      exact h9
     clear hrc1 hic1 HAg hn2
     cases hag:agreeOne first items r
     ·rw[hag]at HE
      have hres:dZ rl first items=false:=by
       unfold dZ
       rw[List.all_eq_false]
       exact⟨r,List.mem_of_getElem? HR.out,by rw[hag];decide⟩
      replace hres:=ab hres
      go_wp2_with fail
      go_quiet ((go_at_call 237;exact Calls.quiet_of (HE.out _ ⟨_,rfl⟩)))
      go_wp2_with fail
      go_ret
      exact⟨by rw[hres.out];rfl,aj HBx.out _⟩
     ·rw[hag]at HE
      go_wp2_with fail
      go_quiet ((go_at_call 237;exact Calls.quiet_of (HE.out _ ⟨_,rfl⟩)))
      go_wp2_with fail
      go_roundw
      case rel=>
       refine⟨k+1,by omega,by go_num,aj HBx.out _,fun j r' hj hr'=>?_⟩
       rcases Nat.lt_or_ge j k with h3|h3
       ·exact HN.out j r' h3 hr'
       ·obtain rfl:j=k:=by omega
        obtain rfl:=Option.some.inj (HR.out.symm.trans hr')
        exact hag
      case measure=>simp[intOf];omega
    ·have hd:decide (f<t)=false:=by simpa using hft
     have hag:agreeOne first items r=true:=by rw[HAg.out,if_neg hft]
     go_wp2_with fail
     go_quiet (fail)
     go_wp2_with fail
     go_roundw
     case rel=>
      refine⟨k+1,by omega,by go_num,aj HBx.out _,fun j r' hj hr'=>?_⟩
      rcases Nat.lt_or_ge j k with h3|h3
      ·exact HN.out j r' h3 hr'
      ·obtain rfl:j=k:=by omega
       obtain rfl:=Option.some.inj (HR.out.symm.trans hr')
       exact hag
     case measure=>simp[intOf];omega
  ·obtain rfl:k=vs.length:=by omega
   have HN:=ab hno
   have HBR:=ab hbr
   clear hno hbr
   have hag:dZ rl first items=true:=by
    unfold dZ
    rw[List.all_eq_true]
    intro r hr
    obtain⟨j,hj,rfl⟩:=List.getElem_of_mem hr
    exact HN.out j _ (by rw[HLen.out];exact hj) (List.getElem?_eq_getElem hj)
   replace hag:=ab hag
   go_wp2_with fail
   go_ret
   exact⟨by rw[hag.out];rfl,HBR.out⟩
def CapOk(v:Value):Prop:=∀ao n cap,v=.slice ao n cap->cap<=9223372036854775807
theorem capOk_own{w:World}{base:Nat}{e:TypeId}{v:Value}{n k:Nat}{cs:List Value}(h:w.ownsRow base e k v n cs):CapOk v:=by
 intro ao m cap e1
 rcases h.2 with⟨e2,_⟩|⟨g,c,cur,e2,_,_,_,h2,_⟩
 ·rw[e2]at e1;simp only[Value.slice.injEq]at e1;omega
 ·rw[e2]at e1;simp only[Value.slice.injEq]at e1;unfold maxLen at h2;omega
structure x_FillOut(w:World)(rb off:Nat)(cs:Array Value)(t:TypeId)(lv:Value)(vs:List bm)(rl':List aL)(w':World)(lv':Value)(vs':List bm):Prop where
 blk:w'.heap[rb]? =some (.cells (cs.setIfInBounds off lv') t (0,0))
 runs:x_RunsAt w' lv' vs' rl'
 chg:Chg (fun k=>k=rb\/lv.ownBlock=some k) w w'
 at_:lv'.ownBlock=lv.ownBlock\/∀g,lv'.ownBlock=some g->w.heap.size<=g
 items:∀v∈vs',v∈vs\/(CapOk v.2/\∀g,v.2.ownBlock=some g->w.heap.size<=g)
theorem run_slice_two{P:Program}(W:World){t e:TypeId}{size:Nat}{ao:Option Addr}{len cap i j:Nat}(ht:P.underlying t=some (.slice e))(hs:(Go.sizeOf e).run P W=.ok size W)(hij:i<=j)(hj:j<=cap):
  (Instr.slice t (.slice ao len cap) (some (.int .i64 (i:Int))) (some (.int .i64 (j:Int))) none).run P W=.ok (.slice (if cap=i then ao else ao.map (·.add (i*size))) (j-i) (cap-i)) W:=by
 simp[Instr.slice,Instr.sliceBounds,Instr.sliceBound,asIntOf,run_underlying ht,hs,hij,hj]
theorem x_RunsAt.below{w w':World}{lv:Value}{vs:List bm}{rl:List aL}(h:x_RunsAt w lv vs rl)(hb:Below w.heap.size w w'):x_RunsAt w' lv vs rl:=⟨aD h.own hb,h.sh,fun i v r hv hr=>(h.ro i v r hv hr).below hb⟩
theorem x_fill_close{w w2 w3:World}{rb off:Nat}{cs:Array Value}{t:TypeId}{lv lv':Value}{vs:List bm}{rl:List aL}{i j:Nat}{x:bm}{r:aL}{X:Obj}(h:x_RunsAt w lv vs rl)(hblk:w.heap[rb]? =some (.cells cs t (0,0)))(ht1:t≠259)(ht2:t≠5)
  (hb2:Below w.heap.size w w2) (hx:x.1=r.1/\∃g n,x.2=.slice (some ⟨g,0,none⟩) r.2.length n/\r.2.length<=n/\w.heap.size<=g/\n<=9223372036854775807) (hro:Ro w2 5 x.2 r.2.length (U8 r.2))
  (hown:w3.ownsRow 0 259 2 lv' (vs.take i++x::vs.drop j).length (ay (vs.take i++x::vs.drop j))) (hg:(w2.alloc X).grownBy w3 lv.ownBlock) (hat:lv'.ownBlock=lv.ownBlock\/∀g,lv'.ownBlock=some g->(w2.alloc X).heap.size<=g):
  w3.heap[rb]? =some (.cells cs t (0,0))/\x_FillOut w rb off cs t lv vs (rl.take i++r::rl.drop j) (w3.setCell ⟨rb,off,none⟩ lv') lv' (vs.take i++x::vs.drop j):=by
 have hrl:rb<w.heap.size:=(Array.getElem?_eq_some_iff.1 hblk).1
 have hnb:lv.ownBlock≠some rb:=ar h.own hblk (fun e=>ht1 e.symm)
 have hg2:w2.grownBy w3 lv.ownBlock:=bt hg
 have hrb3:w3.heap[rb]? =some (.cells cs t (0,0)):=by rw[hg2.block rb (Nat.lt_of_lt_of_le hrl hb2.size) (Ne.symm hnb),hb2.block rb hrl];exact hblk
 refine⟨hrb3,?_⟩
 have hch:Chg (fun k=>k=rb\/lv.ownBlock=some k) w (w3.setCell ⟨rb,off,none⟩ lv'):=by
  refine⟨hg2.os.trans hb2.os,hg2.tape.trans hb2.tape,hg2.output.trans hb2.output,by rw[World.size_setCell];exact Nat.le_trans hb2.size hg2.size,fun k hk hn=>?_⟩
  rw[heap_setCell_other _ _ _ _ (show k≠rb from fun e=>hn (Or.inl e)),hg2.block k (Nat.lt_of_lt_of_le hk hb2.size) (fun e=>hn (Or.inr e.symm)),hb2.block k hk]
 have hro3:∀v n l,Ro w2 5 v n l->Ro (w3.setCell ⟨rb,off,none⟩ lv') 5 v n l:=by
  intro v n l hv
  have hc:Chg (fun k=>k=rb\/lv.ownBlock=some k) w2 (w3.setCell ⟨rb,off,none⟩ lv'):=by
   refine⟨hg2.os,hg2.tape,hg2.output,by rw[World.size_setCell];exact hg2.size,fun k hk hn=>?_⟩
   rw[heap_setCell_other _ _ _ _ (show k≠rb from fun e=>hn (Or.inl e)),hg2.block k hk (fun e=>hn (Or.inr e.symm))]
  refine hv.chg hc fun k cur fr hk hF=>?_
  rcases hF with rfl|hF
  ·rw[hb2.block k hrl,hblk]at hk
   simp only[Option.some.injEq,Obj.cells.injEq]at hk
   exact ht2 hk.2.1
  ·exact ar (aD h.own hb2) hk (by decide) hF
 obtain⟨hx1,g,n,hx2,hx3,hx4,hx5⟩:=hx
 refine⟨(ak hrb3 off lv').trans rfl,⟨?_,h.sh.put i j ⟨hx1,_,n,hx2,hx3⟩,?_⟩,hch,?_,?_⟩
 ·exact ownsRow_setCell_other hown (ar hown hrb3 (fun e=>ht1 e.symm)) _
 ·exact x_put_ro h.sh.1 (fun k v q hv hq=>hro3 _ _ _ ((h.ro k v q hv hq).below hb2)) i j (hro3 _ _ _ hro)
 ·rcases hat with h1|h1
  ·exact Or.inl h1
  ·refine Or.inr fun k hk=>?_
   have:=h1 k hk
   simp at this
   have:=hb2.size
   omega
 ·intro v hv
  rcases List.mem_append.1 hv with hv|hv
  ·exact Or.inl (List.mem_of_mem_take hv)
  ·rcases List.mem_cons.1 hv with rfl|hv
   ·refine Or.inr ⟨fun ao m cap e=>by rw[hx2]at e;simp only[Value.slice.injEq]at e;omega,fun k hk=>?_⟩
    rw[hx2]at hk
    simp only[Value.ownBlock,Option.some.injEq]at hk
    omega
   ·exact Or.inl (List.mem_of_mem_drop hv)
theorem x_Fill_any(first:Int)(items:List Int)(iv lv:Value)(vs:List bm)(rl:List aL)(rb off:Nat)(cs:Array Value)(t:TypeId)(w:World)(hblk:w.heap[rb]? =some (.cells cs t (0,0)))(hcell:cs[off]? =some lv)(ht1:t≠259)(ht2:t≠5)(h:x_RunsAt w lv vs rl)(hf:RunsFit rl)
  (hiv:Ro w 5 iv items.length (U8 items)) (hi0:items≠[]) (hfar:0<=first/\first+items.length<=1099511627776):
  Calls Tryz.prog 235 #[.pointer (some ⟨rb,off,none⟩),.int .i64 first,iv] w fun e w'=>e=.returned (.tuple #[])/\∃lv' vs',x_FillOut w rb off cs t lv vs (dI rl first items) w' lv' vs':=by
 have hil:0<items.length:=List.length_pos_iff.2 hi0
 obtain⟨ia,ic,rfl,_,_⟩:=id hiv
 have hc0:w.cell? ⟨rb,off,none⟩= some lv:=by simp only[World.cell?,hblk];exact hcell
 have hlen:vs.length=rl.length:=h.sh.1
 have hfew:=hf.few
 have hrlt:=cS hc0
 have hneb:((items.length:Int)==0)=false:=beq_eq_false_iff_ne.2 (by omega)
 have hbx:Below w.heap.size w (w.alloc (.cells #[.int .i64 first,.slice ia items.length ic] 259)):=af w _
 have HT:=ab (x_touching_any vs rl lv (first,items) ia ic rb off (w.alloc (.cells #[.int .i64 first,.slice ia items.length ic] 259)) (ae hc0 hbx) (aD h.own hbx) h.sh hf.wide (by omega) (by simp only;omega))
 have hft:=from_le rl (first,items)
 have HF:Hid (dI rl first items=rl.take (dV rl (first,items))++eh (first,items) ((rl.drop (dV rl (first,items))).take (toR rl (first,items)-dV rl (first,items)))::rl.drop (toR rl (first,items))):=by
  show _=_
  unfold dI
  rw[if_neg hi0]
 generalize dV rl (first,items)=i at HT HF hft
 generalize toR rl (first,items)=j at HT HF hft
 obtain⟨hij,hjl⟩:=hft
 have hjv:j<=vs.length:=by omega
 have hvn:vs.length<=100:=by omega
 replace hlen:=ab hlen
 have HH:=ab h
 have HB:=ab hblk
 clear hblk h
 go_enter Tryz.func235,Tryz.ntmps235
 go_wp2_with fail
 refine HT.out.mono ?_
 rintro e w1 ⟨rfl,hb1⟩
 have hb1':=hb1
 replace hb1:=ag hbx hb1
 have hc1:w1.cell? ⟨rb,off,none⟩= some lv:=ae hc0 hb1
 have q0:w1.cell? ⟨w.heap.size,0,none⟩= some (.int .i64 first):=ae (by simp) hb1'
 have q1:w1.cell? ⟨w.heap.size,1,none⟩= some (.slice ia items.length ic):=ae (by simp) hb1'
 obtain⟨ao,cap,rfl⟩:=aY HH.out.own
 have HJ:Hid (∀(W:World) (tv:Value),Below w.heap.size w W->((i=j/\∃ta tc,tv=.slice ta 0 tc)\/∃g,ao=some ⟨g,0,none⟩/\tv=.slice (some ⟨g,i*2,none⟩) (j-i) (cap-i))->Calls Tryz.prog 240 #[.agg #[.int .i64 first,.slice ia items.length ic],tv] W fun e w'=>∃J n,e=.returned (.agg #[.int .i64 (eh (first,items) ((rl.drop i).take (j-i))).1,.slice (some ⟨J,0,none⟩) n n])/\w'.ownsRow W.heap.size 5 1 (.slice (some ⟨J,0,none⟩) n n) n (U8 (eh (first,items) ((rl.drop i).take (j-i))).2)/\Below W.heap.size W w'):=by
  intro W tv hW htv
  have hR:=HH.out.below hW
  refine x_join_any (first,items) (.slice ia items.length ic) tv ((vs.drop i).take (j-i)) ((rl.drop i).take (j-i)) W (hiv.below hW) hil (hR.part hij (by omega) tv htv) (hR.sh.sub i (j-i)) (hR.sub_ro i (j-i)) ?_ ?_ ?_
  ·intro r hr
   exact runsWf_mem hf.wf (List.mem_of_mem_drop (List.mem_of_mem_take hr))
  ·intro r hr
   rcases List.mem_cons.1 hr with rfl|hr
   ·exact hfar
   ·exact hf.far r (List.mem_of_mem_drop (List.mem_of_mem_take hr))
  ·simp;omega
 generalize hjo:eh (first,items) ((rl.drop i).take (j-i))=jr at HJ HF
 have HR:Hid (∀(w2:World) (J n:Nat),Below w.heap.size w w2->Calls Tryz.prog 239 #[.slice ao vs.length cap,.int .i64 i,.int .i64 j,.slice (some ⟨w2.heap.size,0,none⟩) 1 1] (w2.alloc (.cells #[.int .i64 jr.1,.slice (some ⟨J,0,none⟩) n n] 259)) fun e w'=>∃lv' m,e=.returned lv'/\Hid (m=(vs.take i++(jr.1,.slice (some ⟨J,0,none⟩) n n)::vs.drop j).length)/\w'.ownsRow 0 259 2 lv' m (ay (vs.take i++(jr.1,.slice (some ⟨J,0,none⟩) n n)::vs.drop j))/\
   (w2.alloc (.cells #[.int .i64 jr.1,.slice (some ⟨J,0,none⟩) n n] 259)).grownBy w' (Value.slice ao vs.length cap).ownBlock/\(lv'.ownBlock=(Value.slice ao vs.length cap).ownBlock\/∀g,lv'.ownBlock=some g->(w2.alloc (.cells #[.int .i64 jr.1,.slice (some ⟨J,0,none⟩) n n] 259)).heap.size<=g)):=by
  intro w2 J n hw2
  refine(x_Replace_any vs (jr.1,.slice (some ⟨J,0,none⟩) n n) i j w2.heap.size 1 _ _ ((aD HH.out.own hw2).alloc _) (heap_alloc_new w2 _) (fun e=>?_) hij (by omega) (by omega) HH.out.sh.one rfl).mono (fun e w' ⟨lv',h1,h2,h3,h4⟩=>⟨lv',_,h1,rfl,h2,h3,h4⟩)
  have:=((aD HH.out.own hw2).lt _ e).2
  omega
 have HS:Hid (∀W X:World,Below W.heap.size W X->(W.cell? ⟨rb,off,none⟩= some (.slice ao vs.length cap)/\W.cell? ⟨w.heap.size,0,none⟩= some (.int .i64 first)/\W.cell? ⟨w.heap.size,1,none⟩= some (.slice ia items.length ic))->(X.cell? ⟨rb,off,none⟩= some (.slice ao vs.length cap)/\X.cell? ⟨w.heap.size,0,none⟩= some (.int .i64 first)/\X.cell? ⟨w.heap.size,1,none⟩= some (.slice ia items.length ic))):=fun W X hb h=>⟨ae h.1 hb,ae h.2.1 hb,ae h.2.2 hb⟩
 have HS3:Hid (∀(w2 w3:World) (O:Obj),Below w.heap.size w w2->(w2.alloc O).grownBy w3 (Value.slice ao vs.length cap).ownBlock->(w2.cell? ⟨rb,off,none⟩= some (.slice ao vs.length cap)/\w2.cell? ⟨w.heap.size,0,none⟩= some (.int .i64 first)/\w2.cell? ⟨w.heap.size,1,none⟩= some (.slice ia items.length ic))->(w3.cell? ⟨rb,off,none⟩= some (.slice ao vs.length cap)/\w3.cell? ⟨w.heap.size,0,none⟩= some (.int .i64 first)/\w3.cell? ⟨w.heap.size,1,none⟩= some (.slice ia items.length ic))/\w3.frozen? ⟨rb,off,none⟩= false):=by
  intro w2 w3 O hw2 hg h
  have hg2:=bt hg
  have hnb:(Value.slice ao vs.length cap).ownBlock≠some rb:=ar HH.out.own HB.out (fun e=>ht1 e.symm)
  have hnw:(Value.slice ao vs.length cap).ownBlock≠some w.heap.size:=fun e=>by
   have:=(HH.out.own.lt _ e).2
   omega
  have e1:w3.heap[rb]? =w2.heap[rb]?:=hg2.block rb (Nat.lt_of_lt_of_le hrlt hw2.size) (Ne.symm hnb)
  have e2:w3.heap[w.heap.size]? =w2.heap[w.heap.size]?:=hg2.block _ (cS h.2.1) (Ne.symm hnw)
  refine⟨⟨?_,?_,?_⟩,?_⟩
  ·rw[World.cell?_of_block (a:=⟨rb,off,none⟩) e1];exact h.1
  ·rw[World.cell?_of_block (a:=⟨w.heap.size,0,none⟩) e2];exact h.2.1
  ·rw[World.cell?_of_block (a:=⟨w.heap.size,1,none⟩) e2];exact h.2.2
  ·exact frozen_of_row w3 rb off _ _ (e1.trans ((hw2.block rb hrlt).trans HB.out))
 have HBw:Hid (Below w.heap.size w w1.drew):=aj hb1 1
 have HE:Hid (∀(w2 w3:World) (J n m:Nat) (lv':Value),Below w.heap.size w w2->w2.ownsRow w.heap.size 5 1 (.slice (some ⟨J,0,none⟩) n n) n (U8 jr.2)->w3.ownsRow 0 259 2 lv' m (ay (vs.take i++(jr.1,.slice (some ⟨J,0,none⟩) n n)::vs.drop j))->Hid (m=(vs.take i++(jr.1,.slice (some ⟨J,0,none⟩) n n)::vs.drop j).length)->
   (w2.alloc (.cells #[.int .i64 jr.1,.slice (some ⟨J,0,none⟩) n n] 259)).grownBy w3 (Value.slice ao vs.length cap).ownBlock->(lv'.ownBlock=(Value.slice ao vs.length cap).ownBlock\/∀g,lv'.ownBlock=some g->(w2.alloc (.cells #[.int .i64 jr.1,.slice (some ⟨J,0,none⟩) n n] 259)).heap.size<=g)->
   ∃vs',x_FillOut w rb off cs t (.slice ao vs.length cap) vs (dI rl first items) (w3.setCell ⟨rb,off,none⟩ lv') lv' vs'):=by
  intro w2 w3 J n m lv' hw2 hoJ ho hm hg ha
  rw[hm.out]at ho
  have hn:n=jr.2.length:=by have:=hoJ.1;rw[bP]at this;omega
  subst hn
  have hJ:=(hoJ.lt J rfl).1
  rw[HF.out]
  exact⟨_,(x_fill_close (x:=(jr.1,.slice (some ⟨J,0,none⟩) jr.2.length jr.2.length)) (r:=jr) HH.out HB.out ht1 ht2 hw2 ⟨rfl,J,_,rfl,Nat.le_refl _,hJ,capOk_own hoJ _ _ _ rfl⟩ (Ro.of_own hoJ) ho hg ha).2⟩
 have hcl:ao≠none->vs.length<=cap:=by
  intro hne
  rcases HH.out.own.2 with⟨e,_⟩|⟨g,c,cur,e,_,_,h1,_⟩
  ·simp only[Value.slice.injEq]at e;exact absurd e.1 hne
  ·simp only[Value.slice.injEq]at e;omega
 have hnz:ao=none->vs.length=0/\cap=0:=by
  intro hne
  rcases HH.out.own.2 with⟨e,h0⟩|⟨g,c,cur,e,_,_,h1,_⟩
  ·simp only[Value.slice.injEq]at e;omega
  ·simp only[Value.slice.injEq]at e;rw[hne]at e;cases e.1
 have hg0:∀A,ao=some A->∃g,A =⟨g,0,none⟩:=by
  intro A hA
  rcases HH.out.own.2 with⟨e,h0⟩|⟨g,c,cur,e,_,_,h1,_⟩
  ·simp only[Value.slice.injEq]at e;rw[hA]at e;cases e.1
  ·simp only[Value.slice.injEq]at e;rw[hA]at e;exact⟨g,Option.some.inj e.1⟩
 have u1:=run_underlying Tryz.underlying200
 have z1:=fy
 have hbij:(i:Int)<=(j:Int):=by omega
 have hmax:cap<=maxLen:=by
  rcases HH.out.own.2 with⟨e,h0⟩|⟨g,c,cur,e,_,_,h1,h2,_⟩
  ·simp only[Value.slice.injEq]at e;unfold maxLen;omega
  ·simp only[Value.slice.injEq]at e;omega
 unfold maxLen at hmax
 clear hbx hc0 hb1' HT hjo hiv
 obtain⟨tv,htv,htc,hsl⟩:∃tv,((i=j/\∃ta tc,tv=.slice ta 0 tc)\/∃g,ao=some ⟨g,0,none⟩/\tv=.slice (some ⟨g,i*2,none⟩) (j-i) (cap-i))/\True/\∀W:World,(Instr.slice 200 (.slice ao vs.length cap) (some (.int .i64 i)) (some (.int .i64 j)) none).run Tryz.prog W=.ok tv W:=by
  cases ao with
  |none=>
   obtain⟨h0,rfl⟩:=hnz rfl
   obtain rfl:j=0:=by omega
   obtain rfl:i=0:=by omega
   refine⟨.slice none 0 0,Or.inl ⟨rfl,none,0,rfl⟩,trivial,fun W=>?_⟩
   rw[h0]
   kernel_rfl
  |some A=>
   obtain⟨g,rfl⟩:=hg0 A rfl
   have hvc:=hcl (by simp)
   have hbj:(j:Int)<=(cap:Int):=by omega
   by_cases hci:cap=i
   ·obtain rfl:j=i:=by omega
    refine⟨.slice (some ⟨g,0,none⟩) 0 0,Or.inl ⟨rfl,_,0,rfl⟩,trivial,fun W=>?_⟩
    rw[run_slice_two W Tryz.underlying200 (fy W) (Nat.le_refl _) (by omega),if_pos hci,Nat.sub_self,hci,Nat.sub_self]
   ·refine⟨.slice (some ⟨g,i*2,none⟩) (j-i) (cap-i),Or.inr ⟨g,rfl,rfl⟩,trivial,fun W=>?_⟩
    rw[run_slice_two W Tryz.underlying200 (fy W) hij (by omega),if_neg hci]
    simp[Addr.add_lit]
 clear hcl hnz hg0 htc
 have HTV:=ab htv
 clear htv
 go_wp2_with fail
 go_region_with (first
  |(go_at_call 240;refine(HJ.out _ tv HBw.out HTV.out).mono ?_;rintro e w2 ⟨J,n,rfl,hoJ,hb2⟩;have hS2:=HS.out _ _ hb2 ⟨hc1,q0,q1⟩;obtain⟨hc2,p0,p1⟩:=id hS2;have hc2a:=fun(o:Obj)=>Lib.cell?_alloc_some o hc2)
  |(go_at_call 239;refine(HR.out w2 J n (ag HBw.out hb2)).mono ?_;rintro e w3 ⟨lv',m3,rfl,hm3,ho3,hg3,ha3⟩;obtain⟨la3,lc3,rfl⟩:=aY ho3;have hS3:=HS3.out w2 w3 _ (ag HBw.out hb2) hg3 hS2;obtain⟨⟨hc3,hS3⟩,z3⟩:=hS3;replace ho3:=ab ho3;replace hg3:=ab hg3;replace ha3:=ab ha3))
 all_goals
  have HB2:=ab (HE.out w2 w3 J n m3 _ (ag HBw.out hb2) (ca hoJ HBw.out.size) ho3.out hm3 hg3.out ha3.out)
  clear HE HJ HR HS HS3
  go_wp2_with fail
  go_end0
  exact⟨rfl,_,HB2.out⟩
end Go.Proofs.YthmdjhlhodpbhaaGreatDoor
