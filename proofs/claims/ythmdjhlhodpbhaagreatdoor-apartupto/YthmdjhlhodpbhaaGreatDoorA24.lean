/- Apart, 24 -/
import Derived.Test.YthmdjhlhodpbhaaGreatDoorA23
set_option maxHeartbeats 16000000
set_option maxRecDepth 8000
namespace Go.Proofs.YthmdjhlhodpbhaaGreatDoor
open Go.RowKit
def cI(ws:List Nat)(q j:Nat):List Nat:=(ws.take j).filter fun b=>b != q
theorem kM{ws:List Nat}{q j p:Nat}(h:ws[j]? =some p):cI ws q (j+1)=cI ws q j++if p=q then [] else [p]:=by
 unfold cI
 rw[List.take_add_one,h,List.filter_append]
 by_cases e:p=q
 ·simp[e]
 ·simp[e]
theorem keepTo_len(ws:List Nat)(q j:Nat):(cI ws q j).length<=j:=by
 unfold cI
 have:=List.length_filter_le (fun b=>b != q) (ws.take j)
 simp at this
 omega
theorem rO{ws:List Nat}{q k j:Nat}(h:ws[k]? =some q)(hk:k<j)(hj:j<=ws.length):(cI ws q j).length<j:=by
 induction j with
 |zero=>omega
 |succ j ih=>
  obtain⟨p,hp⟩:∃p,ws[j]? =some p:=⟨_,lGe (by omega)⟩
  rw[kM hp]
  rcases Nat.lt_or_ge k j with h1|h1
  ·have:=ih h1 (by omega)
   split<;>simp<;>omega
  ·obtain rfl:k=j:=by omega
   rw[h]at hp
   simp only[Option.some.injEq]at hp
   subst hp
   simp
   have:=keepTo_len ws q k
   omega
theorem keepTo_all(ws:List Nat)(q:Nat):cI ws q ws.length=ws.filter fun b=>b != q:=by unfold cI;rw[List.take_length]
theorem idxP_none{ws:List Nat}{q:Nat}(h:q∉ws):idxP ws q = -1/\(ws.filter fun b=>b != q)=ws:=by
 constructor
 ·unfold idxP
  rw[List.findIdx?_eq_none_iff.2 (fun b hb=>by simp;intro e;exact h (e▸hb))]
 ·rw[List.filter_eq_self]
  intro b hb
  simp
  intro e
  exact h (e▸hb)
theorem idxP_some{ws:List Nat}{q:Nat}(h:q∈ws):∃k,idxP ws q=(k:Nat)/\ws[k]? =some q/\cI ws q (k+1)=ws.take k:=by
 cases hf:ws.findIdx? (fun b=>b==q) with
 |none=>
  rw[List.findIdx?_eq_none_iff]at hf
  have:=hf q h
  simp at this
 |some k=>
  obtain⟨hk,h1,h2⟩:=List.findIdx?_eq_some_iff_getElem.1 hf
  have hq:ws[k]? =some q:=by rw[lGe hk];simpa using h1
  refine⟨k,by unfold idxP;rw[hf],hq,?_⟩
  rw[kM hq,if_pos rfl,List.append_nil]
  unfold cI
  rw[List.filter_eq_self]
  intro b hb
  obtain⟨j,hj,rfl⟩:=List.getElem_of_mem hb
  have hj2:j<k:=by simp at hj;omega
  have:=h2 j hj2
  simp at this⊢
  exact this
def IsConB(w:World)(b:Nat):Prop:=∃cs,w.heap[b]? =some (.cells cs 137 (0,0))
theorem IsConB.blk{w:World}{b:Nat}(h:IsConB w b):oU w b:=by obtain⟨cs,h⟩:=h;exact⟨cs,_,h⟩
theorem IsConB.kept{w w':World}{b g:Nat}{cur:Array Value}(h:IsConB w b)(hg:w.heap[g]? =some (.cells cur 97 (0,0)))(hw:w.grownBy w' (some g)):IsConB w' b:=by
 obtain⟨cs,h⟩:=h
 refine⟨cs,?_⟩
 rw[hw.block b (aLt h) (fun e=>?_)]
 ·exact h
 ·injection e with e
  subst e
  rw[h]at hg
  simp only[Option.some.injEq,Obj.cells.injEq]at hg
  exact absurd hg.2.1 (by decide)
theorem info_conp:(Tryz.prog.info? 97).map (fun i=>(i.zero,i.size,i.bytes))=some (some (.pointer none),1,8):=by kernel_rfl
theorem ou(w:World):(Go.sizeOf 97).run Tryz.prog w=.ok 1 w:=by kernel_rfl
theorem zero_conp(w:World):(zeroValue 97).run Tryz.prog w=.ok (.pointer none) w:=by kernel_rfl
theorem sG(ws:List Nat)(lv:Value)(q pb:Nat)(w:World)(hown:w.ownsRow 0 97 1 lv ws.length (fC ws))(hn:ws.length<=1000)(hb:∀b∈ws,IsConB w b)(hq:IsConB w q)(hc:w.cell? ⟨pb,0,none⟩= some (.pointer (some ⟨q,0,none⟩)))(hpb:lv.ownBlock≠some pb):
  Calls Tryz.prog 99 #[lv,.func (.func 100) #[] #[.pointer (some ⟨pb,0,none⟩)]] w fun e w'=>∃lv',e=.returned lv'/\w'.ownsRow 0 97 1 lv' (ws.filter fun b=>b != q).length (fC (ws.filter fun b=>b != q))/\w.grownBy w' lv.ownBlock/\lv'.ownBlock=lv.ownBlock:=by
 have HI:=ab (sH ws lv q pb w hown hn (fun b h=>(hb b h).blk) hq.blk hc)
 by_cases hm:q∈ws
 ·obtain⟨k,hk1,hk2,hk3⟩:=idxP_some hm
  rw[hk1]at HI
  have hkl:=(lLt hk2)
  rcases hown.2 with⟨_,h0⟩|⟨g,cap,cur,rfl,_,hg,hnc,hcm,hcs,htk⟩
  ·omega
  have HClo:Hid (∀(wr:World) (p:Nat),w.grownBy wr (some g)->p∈ws->Calls Tryz.prog 100 #[.pointer (some ⟨p,0,none⟩),.pointer (some ⟨pb,0,none⟩)] wr fun e w'=>e=.returned (.bool (decide (p=q)))/\wr=w'):=by
   intro wr p hw hp
   refine sx p q pb wr ((hb p hp).kept hg hw).blk (hq.kept hg hw).blk ?_
   rw[World.cell?_of_block (a:=⟨pb,0,none⟩) (w:=w) (hw.block pb (cS hc) (fun e=>hpb e.symm))]
   exact hc
  obtain⟨n,hnn⟩:∃n,ws.length=n:=⟨_,rfl⟩
  have HNn:=ab hnn
  have H0:Hid (w.ownsRow 0 97 1 (.slice (some ⟨g,0,none⟩) n cap) n (fC ws)):=by rw[hnn]at hown;exact hown
  rw[hnn]at HI hn hnc hkl⊢
  have hcm':cap<=9223372036854775807:=by unfold maxLen at hcm;omega
  have HCm:=ab hcm
  have HK2:=ab hk2
  have HK3:=ab hk3
  have u1:=run_underlying Tryz.underlying99
  clear hown hb hq hc hpb hm hk1 hk2 hk3 htk hcs hcm hnn
  go_enter Tryz.func99,Tryz.ntmps99
  go_wp2_with fail
  refine HI.out.mono ?_
  rintro e w1 ⟨rfl,rfl⟩
  clear HI
  have hkb:((k:Int) == -1)=false:=beq_eq_false_iff_ne.2 (by omega)
  go_wp2_with fail
  go_loopw [5,6] (fun iv jv wr=>∃(j:Nat) (L:List Nat),k+1<=j/\j<=n/\jv=.int .i64 j/\iv=.int .i64 ((cI ws q j).length:Nat)/\Hid (wr.ownsRow 0 97 1 (.slice (some ⟨g,0,none⟩) n cap) n (fC L)/\L.length=n/\L.take (cI ws q j).length=cI ws q j/\L.drop j=ws.drop j/\w.grownBy wr (some g))) (fun _ jv _=>n-(intOf jv).toNat)
  case atStart=>
   refine⟨k+1,ws,Nat.le_refl _,hkl,by go_num,?_,H0.out,HNn.out,?_,rfl,?_⟩
   ·rw[HK3.out]
    have:=HNn.out
    congr 1
    simp
    omega
   ·rw[HK3.out]
    simp
   ·exact⟨rfl,rfl,rfl,Nat.le_refl _,fun _ _ _=>rfl⟩
  case round=>
   obtain⟨j,L,hj1,hj2,rfl,rfl,HR⟩:=hrel
   by_cases hlt:j<n
   ·obtain⟨p,hp⟩:∃p,ws[j]? =some p:=⟨_,lGe (by rw[HNn.out];exact hlt)⟩
    have hLp:L[j]? =some p:=by
     have h1:(L.drop j)[0]? =(ws.drop j)[0]?:=by rw[HR.out.2.2.2.1]
     rw[List.getElem?_drop,List.getElem?_drop,Nat.add_zero]at h1
     rw[h1,hp]
    have c1:wr.cell? ⟨g,j,none⟩= some (.pointer (some ⟨p,0,none⟩)):=by
     rw[HR.out.1.cellAt j (by omega)]
     simp[fC,hLp,ptrV]
    have HC:=ab (HClo.out wr p HR.out.2.2.2.2 (lMm hp))
    have hmj:(cI ws q j).length<j:=rO HK2.out (by omega) (by rw[HNn.out];omega)
    have HS:=ab (kM (q:=q) hp)
    have HLp:=ab hLp
    clear hLp hp
    by_cases hpq:p=q
    ·rw[decide_eq_true hpq]at HC
     have HS1:Hid (cI ws q (j+1)=cI ws q j):=by
      show _=_
      rw[HS.out,if_pos hpq,List.append_nil]
     clear HS
     have HPQ:=ab hpq
     clear hpq
     have HM:=ab hmj
     generalize hgm:(cI ws q j).length=m at *
     have HGm:=ab hgm
     clear hgm hmj
     go_wp2_with fail
     refine HC.out.mono ?_
     rintro e w2 ⟨rfl,rfl⟩
     clear HC
     go_wp2_with fail
     go_roundw
     case rel=>
      obtain⟨r1,r2,r3,r4,r5⟩:=HR.out
      refine⟨j+1,L,by omega,by omega,by go_num,by rw[HS1.out,HGm.out],r1,r2,by rw[HS1.out,HGm.out];exact r3,?_,r5⟩
      rw[<-List.drop_drop,<-List.drop_drop,r4]
     case measure=>simp[intOf];omega
    ·rw[decide_eq_false hpq]at HC
     have HS1:Hid (cI ws q (j+1)=cI ws q j++[p]):=by
      show _=_
      rw[HS.out,if_neg hpq]
     obtain⟨r1,r2,r3,r4,r5⟩:=HR.out
     have hml:(cI ws q j).length<L.length:=by omega
     have d1:∃old,wr.cell? ⟨g,(cI ws q j).length,none⟩= some old:=by
      rw[r1.cellAt _ (by omega)]
      exact⟨_,lGe (by rw[og];exact hml)⟩
     obtain⟨old,d1⟩:=d1
     obtain⟨cur1,hg1⟩:=aQ r1 rfl
     have z1:wr.frozen? ⟨g,(cI ws q j).length,none⟩= false:=frozen_of_row wr g _ _ _ hg1
     have HSt:=ab (r1.stored (cI ws q j).length (.pointer (some ⟨p,0,none⟩)))
     have HT3:=ab (And.intro r2 (And.intro r3 (And.intro r4 r5)))
     clear r1 r2 r3 r4 r5 HS hg1 hpq HR
     have HMl:=ab hml
     have HMj:=ab hmj
     generalize hgm:(cI ws q j).length=m at d1 z1 HSt HT3 HMl HMj⊢
     have HGm:=ab hgm
     have hmn:(m:Int)<(n:Int):=by have:=HMj.out;omega
     clear hgm hmj hml
     go_wp2_with fail
     refine HC.out.mono ?_
     rintro e w2 ⟨rfl,rfl⟩
     clear HC
     go_wp2_with fail
     go_roundw
     case rel=>
      obtain⟨r2,r3,r4,r5⟩:=HT3.out
      refine⟨j+1,L.set m p,by omega,by omega,by go_num,?_,?_,by simp[r2],?_,?_,?_⟩
      ·rw[HS1.out,List.length_append,HGm.out]
       go_num
      ·have h1:=HSt.out.1
       have h2:(fC L).set m (.pointer (some ⟨p,0,none⟩))=fC (L.set m p):=by simp[fC,ptrV,List.map_set]
       rw[h2]at h1
       exact h1
      ·rw[HS1.out,List.length_append,HGm.out]
       simp only[List.length_cons,List.length_nil,Nat.zero_add]
       rw[List.take_add_one,List.take_set_of_le (Nat.le_refl _),r3,List.getElem?_set_self (by have:=HMl.out;omega)]
       rfl
      ·rw[List.drop_set_of_lt (by have:=HMj.out;omega),<-List.drop_drop,<-List.drop_drop,r4]
      ·refine nY r5 HSt.out.2 (Or.inl rfl)
     case measure=>simp[intOf];omega
   ·obtain rfl:j=n:=by omega
    obtain⟨r1,r2,r3,r4,r5⟩:=HR.out
    have hmj:(cI ws q j).length<j:=rO HK2.out (by omega) (by rw[HNn.out];omega)
    rcases r1.2 with⟨e,_⟩|⟨g',cap',cur1,e,_,hg1,hnc1,hcm1,hcs1,htk1⟩
    ·cases e
    simp only[Value.slice.injEq,Option.some.injEq,Addr.mk.injEq,and_true,true_and]at e
    obtain⟨rfl,rfl⟩:=e
    have HAll:Hid (cI ws q j=ws.filter fun b=>b != q):=by
     show _=_
     rw[<-keepTo_all,HNn.out]
    obtain⟨m,hgm⟩:∃m,(cI ws q j).length=m:=⟨_,rfl⟩
    rw[hgm]at r3 hmj⊢
    have hsl1:∀W:World,(Instr.slice 99 (.slice (some ⟨g,0,none⟩) j cap) (some (.int .i64 (m:Int))) none none).run Tryz.prog W=.ok (.slice (some ⟨g,m,none⟩) (j-m) (cap-m)) W:=fun W=>by
     rw[qn W Tryz.underlying99 (ou W) (by omega),if_neg (by omega)]
     simp[Addr.add_lit]
    have hsl2:∀W:World,(Instr.slice 99 (.slice (some ⟨g,0,none⟩) j cap) none (some (.int .i64 (m:Int))) none).run Tryz.prog W=.ok (.slice (some ⟨g,0,none⟩) m cap) W:=fun W=>by
     have h1:m<=cap:=by omega
     simp[Instr.slice,Instr.sliceBounds,Instr.sliceBound,asIntOf,run_underlying Tryz.underlying99,ou W,h1,Addr.add]
    have HClr:=ab (fun ty=>iI (P:=Tryz.prog) wr 99 97 ty (.pointer none) Tryz.underlying99 (zero_conp wr) g m (j-m) (cap-m) (by omega) cur1 97 hg1 (by simp[Value.cells];omega) (by simp[Value.cells,Value.oneCell']))
    have hR0:(List.replicate (j-m) (Value.pointer none).cells.toList).flatten.length=j-m:=by simp[Value.cells]
    obtain⟨ZS,hZS⟩:∃ZS,(List.replicate (j-m) (Value.pointer none).cells.toList).flatten=ZS:=⟨_,rfl⟩
    rw[hZS]at HClr hR0
    have HFin:Hid ((wr.setRow g (ar cur1.toList m ZS).toArray).ownsRow 0 97 1 (.slice (some ⟨g,0,none⟩) m cap) (ws.filter fun b=>b != q).length (fC (ws.filter fun b=>b != q))/\w.grownBy (wr.setRow g (ar cur1.toList m ZS).toArray) (some g)):=by
     have hlen:(ws.filter fun b=>b != q).length=m:=by rw[<-HAll.out,hgm]
     rw[hlen]
     have hol:(ar cur1.toList m ZS).length=cur1.toList.length:=aG (by rw[hR0];simp;omega)
     refine⟨⟨by rw[og,hlen];omega,.inr ⟨g,cap,_,rfl,Nat.zero_le _,setRow_heap wr g cur1 _ _ _ hg1,by omega,HCm.out,by rw[List.size_toArray,hol];simpa using hcs1,?_⟩⟩,?_⟩
     ·rw[Nat.mul_one]
      have h1:(ar cur1.toList m ZS).take m=cur1.toList.take m:=by
       unfold ar
       rw[List.append_assoc,List.take_append_of_le_length (by simp;omega),List.take_take,Nat.min_self]
      have h2:cur1.toList.take m=(fC L).take m:=by
       rw[<-htk1,List.take_take,Nat.mul_one,Nat.min_eq_left (by omega)]
      have h3:(fC L).take m=fC (L.take m):=by simp[fC]
      show(ar cur1.toList m ZS).toArray.toList.take m=_
      rw[List.toList_toArray,h1,h2,h3,r3,HAll.out]
     ·refine nY r5 (w2:=wr.setRow g (ar cur1.toList m ZS).toArray) (row2:=some g) ⟨rfl,rfl,rfl,by simp[World.setRow],fun k _ hk=>setRow_other wr g k _ (fun e=>hk (by rw[e]))⟩ (Or.inl rfl)
    clear r1 r2 r3 r4 r5 hg1 hcs1 htk1 hcm1 hR0 hZS HR HAll
    go_wp2_with (refine bV rfl _ 99 rfl _ rfl (HClr.out _) ?_;refine Hid.out ?_)
    refine ab ?_
    go_wp2_with fail
    go_ret
    exact⟨_,rfl,HFin.out.1,HFin.out.2,rfl⟩
 ·obtain⟨e1,e2⟩:=idxP_none hm
  rw[e1]at HI
  rw[e2]
  obtain⟨ao,cap,rfl⟩:=bd hown
  have HO:=ab hown
  clear hown hb hq hc hpb hm e1 e2
  go_enter Tryz.func99,Tryz.ntmps99
  go_wp2_with fail
  refine HI.out.mono ?_
  rintro e w1 ⟨rfl,rfl⟩
  clear HI
  go_wp2_with fail
  go_ret
  exact⟨_,rfl,HO.out,⟨rfl,rfl,rfl,Nat.le_refl _,fun _ _ _=>rfl⟩,rfl⟩
def jE(g:Cfg)(now:Int)(cm:Nat)(wv:Value):Array Value:=
 #[.int .i64 g.c0,.int .i64 g.c1,.int .i64 g.c2,.int .i64 g.c3,.int .i64 g.c4,.int .i64 g.c5,.int .i64 g.c6,.int .i64 g.c7,.int .i64 g.c8,.int .i64 g.c9,.int .i64 now,.map (some cm),wv]
def SBlk(w:World)(sb:Nat)(g:Cfg)(now:Int)(cm:Nat)(wv:Value):Prop:=w.heap[sb]? =some (.cells (jE g now cm wv) 101 (0,0))
theorem SBlk.cell{w:World}{sb:Nat}{g:Cfg}{now:Int}{cm:Nat}{wv:Value}(h:SBlk w sb g now cm wv)(i:Nat):w.cell? ⟨sb,i,none⟩=(jE g now cm wv)[i]?:=by
 unfold SBlk at h
 simp only[World.cell?,h]
 rfl
theorem SBlk.free{w:World}{sb:Nat}{g:Cfg}{now:Int}{cm:Nat}{wv:Value}(h:SBlk w sb g now cm wv)(i:Nat):w.frozen? ⟨sb,i,none⟩= false:=frozen_of_row w sb i _ _ h
theorem SBlk.lt{w:World}{sb:Nat}{g:Cfg}{now:Int}{cm:Nat}{wv:Value}(h:SBlk w sb g now cm wv):sb<w.heap.size:=(aLt h)
theorem SBlk.chg{F:Nat->Prop}{w w':World}{sb:Nat}{g:Cfg}{now:Int}{cm:Nat}{wv:Value}(h:SBlk w sb g now cm wv)(hc:Chg F w w')(hF:¬F sb):SBlk w' sb g now cm wv:=by
 unfold SBlk
 rw[hc.block sb h.lt hF]
 exact h
theorem SBlk.below{w w':World}{sb:Nat}{g:Cfg}{now:Int}{cm:Nat}{wv:Value}(h:SBlk w sb g now cm wv)(hb:Below w.heap.size w w'):SBlk w' sb g now cm wv:=h.chg (F:=fun _=>False) (Chg.of_below hb) (fun h=>h)
theorem nL(sb:Nat)(g:Cfg)(now:Int)(cm:Nat)(wv:Value)(w:World)(h:SBlk w sb g now cm wv)(h1:0<=g.c1/\g.c1<=1073741823)(h3:0<=g.c3/\g.c3<=1073741823):
  Calls Tryz.prog 55 #[.pointer (some ⟨sb,0,none⟩)] w fun e w'=>e=.returned (.int .i64 (dW g))/\∃q,w'=w.drewN q:=by
 have d1:w.cell? ⟨sb,1,none⟩= some (.int .i64 g.c1):=h.cell 1
 have d3:w.cell? ⟨sb,3,none⟩= some (.int .i64 g.c3):=h.cell 3
 have w1:IntKind.i64.wrap (64+g.c1)=64+g.c1:=by rw[IntKind.wrap_i64];omega
 have w2:IntKind.i64.wrap (32*g.c3)=32*g.c3:=by rw[IntKind.wrap_i64];omega
 have w3:IntKind.i64.wrap (64+g.c1+32*g.c3)=64+g.c1+32*g.c3:=by rw[IntKind.wrap_i64];omega
 clear h
 unfold dW
 go_enter Tryz.func55,Tryz.ntmps55
 go_wp2_with fail
 go_quiet (fail)
 go_wp2_with fail
 go_ret
 exact⟨rfl,_,rfl⟩
theorem ot(sb:Nat)(g:Cfg)(now:Int)(cm:Nat)(wv:Value)(n:Nat)(l:List (Int×Nat))(w:World)(h:SBlk w sb g now cm wv)(hm:MapIs ez Tryz.prog 3 w cm n l)(hl:l.length<=1000)(h1:0<=g.c1/\g.c1<=4096)(h3:0<=g.c3/\g.c3<=8):
  Calls Tryz.prog 28 #[.pointer (some ⟨sb,0,none⟩)] w fun e w'=>e=.returned (.int .i64 (l.length*dW g))/\∃q,w'=w.drewN q:=by
 have d11:w.cell? ⟨sb,11,none⟩= some (.map (some cm)):=h.cell 11
 have HC:=ab (nL sb g now cm wv w h (by omega) (by omega))
 have hcr:0<=dW g/\dW g<=5000:=by unfold dW;omega
 have hw:IntKind.i64.wrap ((l.length:Int)*dW g)=l.length*dW g:=by
  have h4:0<=(l.length:Int)*dW g:=Int.mul_nonneg (by omega) hcr.1
  have h5:(l.length:Int)*dW g<=1000*5000:=Int.mul_le_mul (by omega) hcr.2 hcr.1 (by omega)
  rw[IntKind.wrap_i64]
  omega
 have HM:=ab hm
 generalize dW g=C at HC hw⊢
 clear h hm hcr
 go_enter Tryz.func28,Tryz.ntmps28
 go_wp2_with (first
  |(at_len;refine wb _ rfl _ 98 rfl 97 Tryz.underlying98 cm n l rfl HM.out ?_))
 refine HC.out.mono ?_
 rintro e w1 ⟨rfl,q,rfl⟩
 clear HC
 go_wp2_with fail
 go_ret
 exact⟨rfl,q,rfl⟩
structure mn(w:World)(sb:Nat)(g:Cfg)(now:Int)(cm:Nat)(wv:Value)(ws':List Nat)(e:Ending)(w':World):Prop where
 ret:e=.returned (.tuple #[])
 ex:∃wv',SBlk w' sb g now cm wv'/\w'.ownsRow 0 97 1 wv' ws'.length (fC ws')/\(wv'.ownBlock=wv.ownBlock\/∀k,wv'.ownBlock=some k->w.heap.size<=k)
 chg:Chg (fun k=>k=sb\/wv.ownBlock=some k) w w'
theorem sw(sb:Nat)(g:Cfg)(now:Int)(cm:Nat)(wv:Value)(ws:List Nat)(cb:Nat)(w:World)(h:SBlk w sb g now cm wv)(hown:w.ownsRow 0 97 1 wv ws.length (fC ws))(hn:ws.length<=1000):
  Calls Tryz.prog 146 #[.pointer (some ⟨sb,0,none⟩),.pointer (some ⟨cb,0,none⟩)] w fun e w'=>mn w sb g now cm wv (ws++[cb]) e w':=by
 obtain⟨i0,hi,hz0,hz1,hz2⟩:=info_parts info_conp
 obtain⟨ao,cap,rfl⟩:=bd hown
 have d12:w.cell? ⟨sb,12,none⟩= some (.slice ao ws.length cap):=h.cell 12
 have hba:Below w.heap.size w (w.alloc (.cells #[.pointer (some ⟨cb,0,none⟩)] 97)):=ag w _
 have HAp:Hid (∀ty,∃v' w',(Builtin.append_ #[99,99] ty #[.slice ao ws.length cap,.slice (some ⟨w.heap.size,0,none⟩) 1 1]).run Tryz.prog (w.alloc (.cells #[.pointer (some ⟨cb,0,none⟩)] 97))=.ok v' w'/\w'.ownsRow 0 97 1 v' (ws.length+1) (fC ws++[.pointer (some ⟨cb,0,none⟩)])/\(w.alloc (.cells #[.pointer (some ⟨cb,0,none⟩)] 97)).grownBy w' (Value.slice ao ws.length cap).ownBlock/\(v'.ownBlock=(Value.slice ao ws.length cap).ownBlock\/∀g,v'.ownBlock=some g->(w.alloc (.cells #[.pointer (some ⟨cb,0,none⟩)] 97)).heap.size<=g)):=
  fun ty=>eJ (P:=Tryz.prog) _ 0 99 ty 97 i0 (.pointer none) 1 8 Tryz.underlying99 hi hz0 hz1 hz2 rfl (by decide) _ ws.length (fC ws) (aF hown hba) ⟨w.heap.size,0,none⟩ 1 1 [.pointer (some ⟨cb,0,none⟩)] rfl (cJ w 97 [.pointer (some ⟨cb,0,none⟩)] (by simp[maxLen])) (by simp[Value.oneCell']) (by unfold maxLen;omega) (by omega) (Nat.zero_le _)
 have HH:=ab h
 have HO:=ab hown
 obtain⟨n,hnn⟩:∃n,ws.length=n:=⟨_,rfl⟩
 have HNn:=ab hnn
 rw[hnn]at d12 HAp HH HO⊢
 have hns:(Value.slice ao n cap).ownBlock≠some sb:=ax HO.out HH.out (by decide)
 clear h hown hnn
 obtain⟨v',w1,hrun,ho1,hg1,hat1⟩:=HAp.out 99
 obtain⟨va,vc,rfl⟩:=bd ho1
 have hg2:=bz hg1
 have hS1:SBlk w1 sb g now cm (.slice ao n cap):=by
  unfold SBlk
  rw[hg2.block sb HH.out.lt (fun e=>hns e.symm)]
  exact HH.out
 have e12:w1.cell? ⟨sb,12,none⟩= some (.slice ao n cap):=hS1.cell 12
 have z12:=hS1.free 12
 have HE:Hid (mn w sb g now cm (.slice ao n cap) (ws++[cb]) (.returned (.tuple #[])) (w1.setCell ⟨sb,12,none⟩ (.slice va (n+1) vc))):=by
  have hw1:SBlk (w1.setCell ⟨sb,12,none⟩ (.slice va (n+1) vc)) sb g now cm (.slice va (n+1) vc):=al hS1 12 _
  refine⟨rfl,⟨_,hw1,?_,?_⟩,?_⟩
  ·have h2:fC ws++[.pointer (some ⟨cb,0,none⟩)]=fC (ws++[cb]):=by simp[fC,ptrV]
   rw[h2]at ho1
   have h3:(ws++[cb]).length=n+1:=by simp[HNn.out]
   rw[h3]
   have hh:w1.heap[sb]? =some (.cells (jE g now cm (.slice ao n cap)) 101 (0,0)):=hS1
   exact ownsRow_setCell_other ho1 (ax ho1 hh (by decide)) _
  ·rcases hat1 with h1|h1
   ·exact Or.inl h1
   ·exact Or.inr fun k hk=>by have:=h1 k hk;simp at this;omega
  ·have hc1:Chg (fun k=>k=sb\/(Value.slice ao n cap).ownBlock=some k) w w1:=⟨hg2.os,hg2.tape,hg2.output,hg2.size,fun k hk hne=>hg2.block k hk (fun e=>hne (Or.inr e.symm))⟩
   exact hc1.trans ((aI (Below.refl _ _) 12 _).mono fun k _ e=>Or.inl e)
 have HRun:=ab hrun
 clear hrun ho1 hg1 hat1 hg2 hS1 HAp HO HH hba hns
 go_enter Tryz.func146,Tryz.ntmps146
 go_wp2_with (first
  |(at_builtin;refine aS rfl _ _ 99 99 rfl _ _ rfl rfl HRun.out ?_;refine Hid.out ?_))
 refine ab ?_
 go_wp2_with fail
 go_end0
 exact HE.out
theorem km(sb:Nat)(g:Cfg)(now:Int)(cm:Nat)(wv:Value)(ws:List Nat)(cb:Nat)(w:World)(h:SBlk w sb g now cm wv)(hown:w.ownsRow 0 97 1 wv ws.length (fC ws))(hn:ws.length<=1000)(hb:∀b∈ws,IsConB w b)(hq:IsConB w cb):
  Calls Tryz.prog 50 #[.pointer (some ⟨sb,0,none⟩),.pointer (some ⟨cb,0,none⟩)] w fun e w'=>mn w sb g now cm wv (ws.filter fun b=>b != cb) e w':=by
 have hba:Below w.heap.size w (w.alloc (.cells #[.pointer (some ⟨cb,0,none⟩)] 97)):=ag w _
 have hbel:∀b,IsConB w b->IsConB (w.alloc (.cells #[.pointer (some ⟨cb,0,none⟩)] 97)) b:=by
  rintro b ⟨cs,hc⟩
  exact⟨cs,by rw[hba.block b (aLt hc)];exact hc⟩
 have hpb:wv.ownBlock≠some w.heap.size:=fun e=>by have:=(hown.lt _ e).2;omega
 have HD:=ab (sG ws wv cb w.heap.size _ (aF hown hba) hn (fun b hb'=>hbel b (hb b hb')) (hbel cb hq) (by simp) hpb)
 obtain⟨ao,cap,rfl⟩:=bd hown
 have hS0:=h.below hba
 have d12:(w.alloc (.cells #[.pointer (some ⟨cb,0,none⟩)] 97)).cell? ⟨sb,12,none⟩= some (.slice ao ws.length cap):=hS0.cell 12
 have hns:(Value.slice ao ws.length cap).ownBlock≠some sb:=ax hown h (by decide)
 have HEnd:Hid (∀(w1:World) (wv':Value),w1.ownsRow 0 97 1 wv' (ws.filter fun b=>b != cb).length (fC (ws.filter fun b=>b != cb))->(w.alloc (.cells #[.pointer (some ⟨cb,0,none⟩)] 97)).grownBy w1 (Value.slice ao ws.length cap).ownBlock->wv'.ownBlock=(Value.slice ao ws.length cap).ownBlock->SBlk w1 sb g now cm (.slice ao ws.length cap)/\mn w sb g now cm (.slice ao ws.length cap) (ws.filter fun b=>b != cb) (.returned (.tuple #[])) (w1.setCell ⟨sb,12,none⟩ wv')):=by
  intro w1 wv' ho hg hat
  have hg2:=bz hg
  have hS1:SBlk w1 sb g now cm (.slice ao ws.length cap):=by
   unfold SBlk
   rw[hg2.block sb h.lt (fun e=>hns e.symm)]
   exact h
  have hh:w1.heap[sb]? =some (.cells (jE g now cm (.slice ao ws.length cap)) 101 (0,0)):=hS1
  refine⟨hS1,rfl,⟨_,al hS1 12 _,ownsRow_setCell_other ho (ax ho hh (by decide)) _,Or.inl hat⟩,?_⟩
  have hc1:Chg (fun k=>k=sb\/(Value.slice ao ws.length cap).ownBlock=some k) w w1:=⟨hg2.os,hg2.tape,hg2.output,hg2.size,fun k hk hne=>hg2.block k hk (fun e=>hne (Or.inr e.symm))⟩
  exact hc1.trans ((aI (Below.refl _ _) 12 _).mono fun k _ e=>Or.inl e)
 generalize ws.filter (fun b=>b != cb)=ws' at HD HEnd⊢
 obtain⟨n,hnn⟩:∃n,ws.length=n:=⟨_,rfl⟩
 rw[hnn]at d12 HD HEnd⊢
 clear h hown hnn hb hq hbel hpb hS0 hns hba hn
 go_enter Tryz.func50,Tryz.ntmps50
 go_wp2_with fail
 refine HD.out.mono ?_
 rintro e w1 ⟨wv',rfl,ho,hg,hat⟩
 obtain⟨hS1,hwo⟩:=HEnd.out w1 wv' ho hg hat
 obtain⟨va,vc,rfl⟩:=bd ho
 have e12:w1.cell? ⟨sb,12,none⟩= some (.slice ao n cap):=hS1.cell 12
 have z12:=hS1.free 12
 have HE:=ab hwo
 clear ho hg hat hS1 hwo HD HEnd
 go_wp2_with fail
 go_end0
 exact HE.out
theorem sM(cb:Nat)(b:Bool)(w:World)(d:w.cell? ⟨cb,12,none⟩= some (.bool b)):
  Calls Tryz.prog 42 #[.pointer (some ⟨cb,0,none⟩)] w fun e w'=>e=.returned (.bool b)/\w=w':=by
 go_enter Tryz.func42,Tryz.ntmps42
 go_wp2_with fail
 go_ret
 exact⟨rfl,rfl⟩
def lJ(pv:Nat->Bool)(l:List (Int×Nat)):Nat:=l.countP fun p=>!pv p.2
theorem cntU_mid(pv:Nat->Bool)(r1 r2:List (Int×Nat))(k:Int)(y:Nat):lJ pv (r1++(k,y)::r2)=lJ pv (r1++r2)+if pv y then 0 else 1:=by
 unfold lJ
 rw[List.countP_append,List.countP_cons,List.countP_append]
 cases pv y<;>simp<;>omega
theorem cntU_le(pv:Nat->Bool)(l:List (Int×Nat)):lJ pv l<=l.length:=List.countP_le_length
theorem qQ(sb:Nat)(g:Cfg)(now:Int)(cm:Nat)(wv:Value)(n:Nat)(l:List (Int×Nat))(pv:Nat->Bool)(w:World)(h:SBlk w sb g now cm wv)(hm:MapIs ez Tryz.prog 3 w cm n l)(hs:∀p∈l,w.cell? ⟨p.2,12,none⟩= some (.bool (pv p.2)))(hl:l.length<=1000):
  Calls Tryz.prog 92 #[.pointer (some ⟨sb,0,none⟩)] w fun e w'=>e=.returned (.int .i64 (lJ pv l:Nat))/\Below w.heap.size w w':=by
 have d11:w.cell? ⟨sb,11,none⟩= some (.map (some cm)):=h.cell 11
 have hcl:=cntU_le pv l
 have HM:=ab hm
 have HS:=ab hs
 clear h hm hs
 go_enter Tryz.func92,Tryz.ntmps92
 go_wp2_with (first
  |(at_range;refine gK _ rfl _ 98 rfl 97 Tryz.underlying3 Tryz.underlying98 cm n l rfl HM.out ?_;intro w0 hrg0 hg0 hs0))
 have hb0:Below w.heap.size w w0:=fU hg0
 have H0:=ab (And.intro hrg0 hb0)
 clear hrg0 hg0 hs0 hb0 d11
 go_frame
 go_loopw [3] (fun s wr=>∃(rest:List (Int×Nat)) (cnt c:Nat),RangeIs ez Tryz.prog 3 wr cm w.heap.size n l rest cnt/\s=.int .i64 (c:Nat)/\Hid (c+lJ pv rest=lJ pv l)/\Hid (∀p∈rest,p∈l)/\Below w.heap.size w wr) (fun _ wr=>wr.rangeLeft cm w.heap.size)
 case atStart=>exact⟨l,_,0,H0.out.1,rfl,ab (Nat.zero_add _),fun p hp=>hp,H0.out.2⟩
 case round=>
  obtain⟨rest,cnt,c,hrg,rfl,hsm,hsub,hbw⟩:=hrel
  have HBw:=ab hbw
  have HRg:=ab hrg
  clear hbw
  go_wp2_with (first
   |(at_next;refine ik _ rfl _ rfl Tryz.underlying3 cm w.heap.size n l rest cnt rfl hrg ?_ ?_))
  ·intro hnil
   subst hnil
   have hc:c=lJ pv l:=by have:=hsm.out;simpa[lJ] using this
   go_wp2_with fail
   go_ret
   exact⟨by rw[hc];rfl,HBw.out⟩
  ·intro k y r1 r2 w1 cnt1 hre hwk hat hrg1 hlt hg1 hs1 hen
   have hky:(k,y)∈l:=hsub.out _ (by rw[hre];simp)
   have hb1:Below w.heap.size w w1:=HBw.out.grown hg1 HBw.out.size (fun g hg=>by cases hg;exact Nat.le_refl _)
   have hcell:w1.cell? ⟨y,12,none⟩= some (.bool (pv y)):=ae (HS.out (k,y) hky) hb1
   have hmid:=cntU_mid pv r1 r2 k y
   rw[<-hre]at hmid
   have hsb:Hid (∀p∈r1++r2,p∈l):=fun p hp=>hsub.out p (by rw[hre];simp at hp⊢;rcases hp with h|h<;>simp[h])
   have hcs:=hsm.out
   have HE:=ab (sM y (pv y) w1 hcell)
   have H1:=ab (And.intro hrg1 (And.intro hb1 (And.intro hlt hsb)))
   cases hp:pv y with
   |true=>
    rw[hp]at HE
    have HN:Hid (c+lJ pv (r1++r2)=lJ pv l):=by
     show _=_
     rw[hp]at hmid
     simp at hmid
     omega
    clear hmid hb1 hcell hky hrg1 hlt hsb hg1 hs1 hat hcs hp
    go_wp2_with fail
    refine HE.out.mono ?_
    rintro e w2 ⟨rfl,rfl⟩
    clear HE
    go_wp2_with fail
    go_roundw
    case rel=>exact⟨r1++r2,cnt1,c,H1.out.1,rfl,HN,H1.out.2.2.2,H1.out.2.1⟩
    case measure=>
     have h1:=H1.out.1.left_eq
     have h2:=HRg.out.left_eq
     have h3:=H1.out.2.2.1
     rw[h1,h2]
     exact h3
   |false=>
    rw[hp]at HE
    have HN:Hid (c+1+lJ pv (r1++r2)=lJ pv l):=by
     show _=_
     rw[hp]at hmid
     simp at hmid
     omega
    have hcb:(c:Int)<=1000:=by omega
    clear hmid hb1 hcell hky hrg1 hlt hsb hg1 hs1 hat hcs hp
    go_wp2_with fail
    refine HE.out.mono ?_
    rintro e w2 ⟨rfl,rfl⟩
    clear HE
    go_wp2_with fail
    go_roundw
    case rel=>exact⟨r1++r2,cnt1,c+1,H1.out.1,by go_num,HN,H1.out.2.2.2,H1.out.2.1⟩
    case measure=>
     have h1:=H1.out.1.left_eq
     have h2:=HRg.out.left_eq
     have h3:=H1.out.2.2.1
     rw[h1,h2]
     exact h3
structure PSrv(N:Nat)(w:World)(sb:Nat)(s:ay)(cm:Nat)(wv:Value)(cbs:List Nat)(xs:List aJ)(ws:List Nat):Prop where
 blk:SBlk w sb s.c s.now cm wv
 map:∃n,n<=N/\MapIs ez Tryz.prog 3 w cm n ((s.conns.map (·.cid)).zip cbs)
 len1:cbs.length=s.conns.length
 len2:xs.length=s.conns.length
 con:∀(i:Nat) c cb a,s.conns[i]? =some c->cbs[i]? =some cb->xs[i]? =some a->ConAt N w cb s.c c a
 row:w.ownsRow 0 97 1 wv ws.length (fC ws)
 wait:∃cs,WaitIs s.conns cs/\ws.length=cs.length/\∀(j:Nat) b,ws[j]? =some b->∃(i:Nat) (c:aw),s.conns[i]? =some c/\cbs[i]? =some b/\cs[j]? =some c.cid
 apart:∀(i j:Nat) cb a cb' a',i≠j->cbs[i]? =some cb->xs[i]? =some a->cbs[j]? =some cb'->xs[j]? =some a'->∀k,bh cb a k->¬bh cb' a' k
 mne:∀(i:Nat) cb a,cbs[i]? =some cb->xs[i]? =some a->¬bh cb a cm
def cj(sb cm:Nat)(wv:Value)(cbs:List Nat)(xs:List aJ)(k:Nat):Prop:=k=sb\/k=cm\/wv.ownBlock=some k\/∃(i:Nat) (cb:Nat) (a:aJ),cbs[i]? =some cb/\xs[i]? =some a/\bh cb a k
theorem mi{N:Nat}{w:World}{cb:Nat}{g:Cfg}{c:aw}{a:aJ}(h:ConAt N w cb g c a){k:Nat}(hk:bh cb a k):k<w.heap.size:=by
 obtain⟨vs,hvs⟩:=h.pk
 obtain⟨n1,_,hm1⟩:=h.smap
 obtain⟨n2,_,hm2⟩:=h.dmap
 rcases hk with rfl|e|rfl|rfl|⟨p,hp,e⟩
 ·exact h.blk.lt
 ·exact(hvs.own.lt _ e).2
 ·exact hm1.lt
 ·exact hm2.lt
 ·obtain⟨_,x,hx,_⟩:=h.mp.str p hp
  have hs:=h.str p hp x hx
  rcases e with rfl|e
  ·exact hs.lt
  ·obtain⟨vs1,ho1⟩:=hs.own
   exact(ho1.lt _ e).2
theorem cF{N:Nat}{w:World}{cb:Nat}{g:Cfg}{c:aw}{a:aJ}(h:ConAt N w cb g c a){k:Nat}{cur:Array Value}{e:TypeId}{fr:Nat×Nat}(hk:w.heap[k]? =some (.cells cur e fr))(h1:e≠137)(h2:e≠279)(h3:e≠204)(h4:e≠259):¬bh cb a k:=by
 obtain⟨vs,hvs⟩:=h.pk
 obtain⟨n1,_,hm1⟩:=h.smap
 obtain⟨n2,_,hm2⟩:=h.dmap
 rintro(rfl|e'|rfl|rfl|⟨p,hp,e'⟩)
 ·have h5:=h.blk
  unfold ConBlk at h5
  rw[h5]at hk
  simp only[Option.some.injEq,Obj.cells.injEq]at hk
  exact h1 hk.2.1.symm
 ·exact ax hvs.own hk (fun e=>h2 e.symm) e'
 ·obtain⟨es,ck,hb⟩:=hm1.is_map
  rw[hb]at hk
  cases hk
 ·obtain⟨es,ck,hb⟩:=hm2.is_map
  rw[hb]at hk
  cases hk
 ·obtain⟨_,x,hx,_⟩:=h.mp.str p hp
  have hs:=h.str p hp x hx
  rcases e' with rfl|e'
  ·rw[hs.blk]at hk
   simp only[Option.some.injEq,Obj.cells.injEq]at hk
   exact h3 hk.2.1.symm
  ·obtain⟨vs1,ho1⟩:=hs.own
   exact ax ho1 hk (fun e=>h4 e.symm) e'
theorem PSrv.step{N N':Nat}{w w':World}{sb:Nat}{s:ay}{cm:Nat}{wv:Value}{cbs:List Nat}{xs:List aJ}{ws:List Nat}{i:Nat}{c c':aw}{cb:Nat}{a a':aJ}(h:PSrv N w sb s cm wv cbs xs ws)(hN:N<=N')(hi:s.conns[i]? =some c)(hcb:cbs[i]? =some cb)(ha:xs[i]? =some a)
  (hc:Chg (bh cb a) w w') (hA:ConAt N' w' cb s.c c' a') (hin:∀k,bh cb a' k->bh cb a k\/w.heap.size<=k) (hcid:c'.cid=c.cid) (hw:c'.waits=c.waits):
  PSrv N' w' sb {s with conns:=s.conns.set i c'} cm wv cbs (xs.set i a') ws:=by
 have hC:=h.con i c cb a hi hcb ha
 obtain⟨n,hn,hm⟩:=h.map
 have hsb:¬bh cb a sb:=cF hC h.blk (by decide) (by decide) (by decide) (by decide)
 have hids:({s with conns:=s.conns.set i c'}:ay).conns.map (·.cid)=s.conns.map (·.cid):=iU hi hcid
 obtain⟨cs,hw1,hw2,hw3⟩:=h.wait
 refine⟨h.blk.chg hc hsb,⟨n,Nat.le_trans hn hN,?_⟩,by simp[h.len1],by simp[h.len2],fun j d db b hj hdb hb=>?_,bX h.row hc (fun k hk hF=>?_),⟨cs,hw1.same (waitK_set hi hw hcid),hw2,fun j b hb=>?_⟩,fun j l cb1 a1 cb2 a2 hjl e1 e2 e3 e4 k hk1 hk2=>?_,fun j db b hdb hb hF=>?_⟩
 ·rw[hids]
  exact hm.same (hc.block cm hm.lt (h.mne i cb a hcb ha))
 ·by_cases hji:j=i
  ·subst hji
   simp only at hj
   rw[aK hi]at hj
   rw[aK ha]at hb
   rw[hcb]at hdb
   simp only[Option.some.injEq]at hj hb hdb
   subst hj hb hdb
   exact hA
  ·simp only at hj
   rw[aD hji]at hj
   rw[aD hji]at hb
   have hD:=h.con j d db b hj hdb hb
   exact(hD.chg hc (fun k hk=>h.apart j i db b cb a hji hdb hb hcb ha k hk) (fun k cur fr hk=>nm hC hk)).mono hN
 ·obtain⟨c1,e1⟩:=aQ h.row hk
  exact cF hC e1 (by decide) (by decide) (by decide) (by decide) hF
 ·obtain⟨l,d,h1,h2,h3⟩:=hw3 j b hb
  by_cases hli:l=i
  ·subst hli
   rw[hi]at h1
   simp only[Option.some.injEq]at h1
   subst h1
   exact⟨l,c',aK hi,h2,by rw[hcid];exact h3⟩
  ·exact⟨l,d,by simp only;rw[aD hli];exact h1,h2,h3⟩
 ·by_cases hji:j=i
  ·subst hji
   rw[aK ha]at e2
   simp only[Option.some.injEq]at e2
   subst e2
   have hlj:l≠j:=fun e=>hjl e.symm
   rw[aD hlj]at e4
   rw[hcb]at e1
   simp only[Option.some.injEq]at e1
   subst e1
   rcases hin k hk1 with h1|h1
   ·exact h.apart j l cb a cb2 a2 hjl hcb ha e3 e4 k h1 hk2
   ·obtain⟨d,hd⟩:∃d,s.conns[l]? =some d:=⟨_,lGe (by rw[<-h.len1];exact(lLt e3))⟩
    have:=mi (h.con l d cb2 a2 hd e3 e4) hk2
    omega
  ·rw[aD hji]at e2
   by_cases hli:l=i
   ·subst hli
    rw[aK ha]at e4
    simp only[Option.some.injEq]at e4
    subst e4
    rw[hcb]at e3
    simp only[Option.some.injEq]at e3
    subst e3
    rcases hin k hk2 with h1|h1
    ·exact h.apart j l cb1 a1 cb a hjl e1 e2 hcb ha k hk1 h1
    ·obtain⟨d,hd⟩:∃d,s.conns[j]? =some d:=⟨_,lGe (by rw[<-h.len1];exact(lLt e1))⟩
     have:=mi (h.con j d cb1 a1 hd e1 e2) hk1
     omega
   ·rw[aD hli]at e4
    exact h.apart j l cb1 a1 cb2 a2 hjl e1 e2 e3 e4 k hk1 hk2
 ·by_cases hji:j=i
  ·subst hji
   rw[aK ha]at hb
   simp only[Option.some.injEq]at hb
   subst hb
   rw[hcb]at hdb
   simp only[Option.some.injEq]at hdb
   subst hdb
   rcases hin cm hF with h1|h1
   ·exact h.mne j cb a hcb ha h1
   ·have:=hm.lt
    omega
  ·rw[aD hji]at hb
   exact h.mne j db b hdb hb hF
theorem PSrv.below{N:Nat}{w w':World}{sb:Nat}{s:ay}{cm:Nat}{wv:Value}{cbs:List Nat}{xs:List aJ}{ws:List Nat}(h:PSrv N w sb s cm wv cbs xs ws)(hb:Below w.heap.size w w'):PSrv N w' sb s cm wv cbs xs ws:=by
 obtain⟨n,hn,hm⟩:=h.map
 exact⟨h.blk.below hb,⟨n,hn,hm.same (hb.block cm hm.lt)⟩,h.len1,h.len2,fun i c cb a h1 h2 h3=>(h.con i c cb a h1 h2 h3).below hb,aF h.row hb,h.wait,h.apart,h.mne⟩
end Go.Proofs.YthmdjhlhodpbhaaGreatDoor
