/- InOrder, 9 -/
import Derived.Test.YthmdjhlhodpbhaaGreatDoorI08
set_option maxHeartbeats 16000000
set_option maxRecDepth 8000
namespace Go.Proofs.YthmdjhlhodpbhaaGreatDoor
open Go.RowKit
theorem x_Delete_row(g n c:Nat)(cur:Array Value)(cs:List Value)(w:World)(hg:w.heap[g]? =some (.cells cur 259 (0,0)))(hcl:cs.length=n*2)(htk:cur.toList.take (n*2)=cs)(hn0:0<n)(hnc:n<=c)(hcs:cur.size=c*2)(hn:n<=1000)(hm:c<=maxLen)(h1:∀v∈cs,v.oneCell'=true):
  Calls Tryz.prog 168 #[.slice (some ⟨g,0,none⟩) n c,.int .i64 0,.int .i64 1] w fun e w'=>
   e=.returned (.slice (some ⟨g,0,none⟩) (n-1) c)/\∃q,w'=(w.drewN q).setRow g (an (an cur.toList 0 (cs.drop 2)) ((n-1)*2) (zs2 1)).toArray:=by
 obtain⟨i0,hi0,hz0,hz1,hz2⟩:=info_parts x_info
 have hdl:(cs.drop 2).length=(n-1)*2:=by rw[List.length_drop,hcl];omega
 have e1:=aE (l:=cur.toList) (o:=0) (cs:=cs.drop 2) (by rw[hdl];simp;omega)
 have HA:Hid (∀(W:World) (ty:TypeId) (o dc:Nat),W.heap=w.heap->(o=2\/n=1)->(Builtin.append_ #[200,200] ty #[.slice (some ⟨g,0,none⟩) 0 c,.slice (some ⟨g,o,none⟩) (n-1) dc]).run Tryz.prog W=.ok (.slice (some ⟨g,0,none⟩) (n-1) c) (W.setRow g (an cur.toList 0 (cs.drop 2)).toArray)):=by
  intro W ty o dc hW ho
  have hgW:W.heap[g]? =some (.cells cur 259 (0,0)):=by rw[hW];exact hg
  have h:=run_append_room (P:=Tryz.prog) W 200 ty 259 i0 Tryz.underlying200 hi0 g 0 c cur hgW ⟨g,o,none⟩ (n-1) dc (cs.drop 2) (by rw[hz1,hdl]) (fun j u hj=>by
   have hj':=(List.getElem?_eq_some_iff.1 hj).1
   have ho':o=2:=by omega
   subst ho'
   rw[List.getElem?_drop,<-htk,List.getElem?_take_of_lt (by omega)]at hj
   rw[Addr.add_lit]
   simp only[World.cell?,hgW]
   simpa using hj) (fun v hv=>h1 v (List.mem_of_mem_drop hv)) (by omega) (by rw[hdl,hcs];omega)
  rw[Nat.zero_mul,Nat.zero_add]at h
  exact h
 have HC3:Hid (∀(W:World) (ty:TypeId) (dc:Nat),W.heap=(w.setRow g (an cur.toList 0 (cs.drop 2)).toArray).heap->(Builtin.clear_ #[200] ty #[.slice (some ⟨g,(n-1)*2,none⟩) (n-(n-1)) dc]).run Tryz.prog W
   = .ok (.tuple #[]) (W.setRow g (an (an cur.toList 0 (cs.drop 2)) ((n-1)*2) (zs2 1)).toArray)):=by
  intro W ty dc hW
  have e:n-(n-1)=1:=by omega
  rw[e]
  obtain⟨W',h1,rfl⟩:=x_clear g ((n-1)*2) 1 dc _ W (by rw[hW];exact setRow_heap _ _ cur _ _ _ hg) (by rw[List.size_toArray,e1];simp;omega) ty
  exact h1
 unfold maxLen at hm
 have hb1:(1:Int)<=(n:Int):=by omega
 have hb2:(1:Int)<=(c:Int):=by omega
 have hb3:(n:Int)<=(c:Int):=by omega
 have hb4:¬(c=n-1):=by omega
 have hb5:((n-1:Nat):Int)<=(n:Int):=by omega
 have hb6:¬(c=0):=by omega
 have u1:=run_underlying Tryz.underlying200
 have z1:=fy
 clear e1
 by_cases hc1:c=1
 ·obtain rfl:n=1:=by omega
  subst hc1
  go_enter Tryz.func168,Tryz.ntmps168
  go_wp2_with fail
  go_region_law (refine fE rfl (.tmp 22) (.tmp 25) 200 200 rfl (.slice (some ⟨g,0,none⟩) 0 1) (.slice (some ⟨g,0,none⟩) 0 0) (by kernel_rfl) (by kernel_rfl) (HA.out _ _ 0 0 rfl (by simp)) ?_;generalize hW1:World.setRow _ g _=W1;replace hW1:=ab hW1;refine Hid.out ?_;refine ab ?_)
  have HQ1:Hid (∀m:World,m.heap=W1.heap->m.heap=(w.setRow g (an cur.toList 0 (cs.drop 2)).toArray).heap):=by
   intro m hm
   rw[hm,<-hW1.out]
   rfl
  go_wp2_with (refine bR rfl _ 200 rfl _ rfl (HC3.out W1 _ _ (HQ1.out _ rfl)) ?_;refine Hid.out ?_)
  refine ab ?_
  go_wp2_with fail
  go_ret
  refine⟨rfl,1,?_⟩
  rw[<-hW1.out]
  exact setRow_setRow (w.drewN 1) g (an cur.toList 0 (cs.drop 2)).toArray _
 ·go_enter Tryz.func168,Tryz.ntmps168
  go_wp2_with fail
  go_region_law (refine fE rfl (.tmp 22) (.tmp 25) 200 200 rfl (.slice (some ⟨g,0,none⟩) 0 c) (.slice (some ⟨g,2,none⟩) (n-1) (c-1)) (by kernel_rfl) (by kernel_rfl) (HA.out _ _ 2 (c-1) rfl (Or.inl rfl)) ?_;generalize hW1:World.setRow _ g _=W1;replace hW1:=ab hW1;refine Hid.out ?_;refine ab ?_)
  have HQ1:Hid (∀m:World,m.heap=W1.heap->m.heap=(w.setRow g (an cur.toList 0 (cs.drop 2)).toArray).heap):=by
   intro m hm
   rw[hm,<-hW1.out]
   rfl
  go_wp2_with (refine bR rfl _ 200 rfl _ rfl (HC3.out W1 _ _ (HQ1.out _ rfl)) ?_;refine Hid.out ?_)
  refine ab ?_
  go_wp2_with fail
  go_ret
  refine⟨rfl,1,?_⟩
  rw[<-hW1.out]
  exact setRow_setRow (w.drewN 1) g (an cur.toList 0 (cs.drop 2)).toArray _
theorem x_Delete_any(r:bm)(l:List bm)(lv:Value)(w:World)(hown:w.ownsRow 0 259 2 lv (r::l).length (ay (r::l)))(hn:(r::l).length<=1000)(h1:∀q∈r::l,q.2.oneCell'=true):
  Calls Tryz.prog 168 #[lv,.int .i64 0,.int .i64 1] w fun e w'=>
   ∃lv',e=.returned lv'/\w'.ownsRow 0 259 2 lv' l.length (ay l)/\w.grownBy w' lv.ownBlock/\lv'.ownBlock=lv.ownBlock:=by
 rcases hown.2 with⟨_,h0⟩|⟨g,cap,cur,rfl,_,hg,hnc,hcm,hcs,htk⟩
 ·simp at h0
 ·have hl:=aC (r::l)
  refine(x_Delete_row g (r::l).length cap cur (ay (r::l)) w hg hl htk (by simp) hnc hcs hn hcm (eV h1)).mono ?_
  rintro e w' ⟨rfl,q,rfl⟩
  have hd:(ay (r::l)).drop 2=ay l:=by rw[dd];rfl
  have h3:=del_room (cur:=cur.toList) (cs:=ay (r::l)) (zs:=zs2 1) (by rw[hl];simp at hnc⊢;omega) (by rw[hl];simp;omega) (by rw[dL])
  have hlen:(r::l).length-1=l.length:=by simp
  rw[hl,show(r::l).length*2-2=l.length*2 from by simp;omega,hd]at h3
  rw[hlen,hd]
  have hcl:=aC l
  have hnc':l.length+1<=cap:=by simpa using hnc
  have e1:=aE (l:=cur.toList) (o:=0) (cs:=ay l) (by rw[hcl];simp;omega)
  have h4:=own_row2 (w:=w) (n:=(r::l).length) (m:=l.length) (c:=cap) (q:=q) (R:=an (an cur.toList 0 (ay l)) (l.length*2) (zs2 1)) hg (by rw[aE (by rw[e1,dL];simp;omega),e1];simpa using hcs) (by omega) hcm rfl h3
  exact⟨_,rfl,h4.1,h4.2,rfl⟩
theorem e7(f:Int)(n cap:Nat)(ao:Option Addr)(w:World)(hf:-4611686018427387904<=f/\f<=4611686018427387904)(hn:n<=4611686018427387):
  Calls Tryz.prog 197 #[.agg #[.int .i64 f,.slice ao n cap]] w fun e w'=>e=.returned (.int .i64 (f+n))/\Below w.heap.size w w':=by
 obtain⟨h0,h1⟩:=hf
 go_enter Tryz.func197,Tryz.ntmps197
 go_wp2
 go_ret
 exact⟨rfl,af w _⟩
theorem x_Covers1_any(f first behind:Int)(n cap p1 p2:Nat)(ao:Option Addr)(w:World)(hf:-4611686018427387904<=f/\f<=4611686018427387904)(hn:n<=4611686018427387)(h1:w.cell? ⟨p1,0,none⟩= some (.int .i64 first))(h2:w.cell? ⟨p2,0,none⟩= some (.int .i64 behind)):
  Calls Tryz.prog 196 #[.agg #[.int .i64 f,.slice ao n cap],.pointer (some ⟨p1,0,none⟩),.pointer (some ⟨p2,0,none⟩)] w fun e w'=>e=.returned (.bool (decide (f<=first)&&decide (behind<=f+n)))/\Below w.heap.size w w':=by
 have hl1:=cS h1
 have hl2:=cS h2
 have HB:Hid (∀W,Calls Tryz.prog 197 #[.agg #[.int .i64 f,.slice ao n cap]] W fun e w'=>e=.returned (.int .i64 (f+n))/\Below W.heap.size W w'):=fun W=>e7 f n cap ao W hf hn
 have HA:Hid (∀W w':World,Below W.heap.size W w'->(W.cell? ⟨p1,0,none⟩= some (.int .i64 first)/\W.cell? ⟨p2,0,none⟩= some (.int .i64 behind)/\W.cell? ⟨w.heap.size,0,none⟩= some (.int .i64 f)/\W.cell? ⟨w.heap.size,1,none⟩= some (.slice ao n cap))->
   (w'.cell? ⟨p1,0,none⟩= some (.int .i64 first)/\w'.cell? ⟨p2,0,none⟩= some (.int .i64 behind)/\w'.cell? ⟨w.heap.size,0,none⟩= some (.int .i64 f)/\w'.cell? ⟨w.heap.size,1,none⟩= some (.slice ao n cap))):=
  fun W w' hb h=>⟨ae h.1 hb,ae h.2.1 hb,ae h.2.2.1 hb,ae h.2.2.2 hb⟩
 by_cases hle:f<=first
 ·have hd:decide (f<=first)=true:=by simpa using hle
  go_enter Tryz.func196,Tryz.ntmps196
  go_wp2_with fail
  go_region_held3 (fun w'=>w'.cell? ⟨p1,0,none⟩= some (.int .i64 first)/\w'.cell? ⟨p2,0,none⟩= some (.int .i64 behind)/\w'.cell? ⟨w.heap.size,0,none⟩= some (.int .i64 f)/\w'.cell? ⟨w.heap.size,1,none⟩= some (.slice ao n cap)) (first|assumption|go_keep) (first
   |(go_at_call 197;refine(HB.out _).mono ?_;rintro e wq ⟨rfl,hbq⟩;have hSq:=HA.out _ _ hbq (by assumption)))
  go_wp2_with fail
  go_ret
  exact⟨by rw[hd];rfl,ag (af w _) (al hbq)⟩
 ·have hd:decide (f<=first)=false:=by simpa using hle
  go_enter Tryz.func196,Tryz.ntmps196
  go_wp2_with fail
  go_quiet (fail)
  go_wp2_with fail
  go_ret
  refine⟨by rw[hd];rfl,?_⟩
  exact aj (af w _) _
theorem x_IndexFunc_any(vs:List bm)(rl:List aL)(lv:Value)(first behind:Int)(p1 p2:Nat)(w:World)(hown:w.ownsRow 0 259 2 lv vs.length (ay vs))(hsh:Shape vs rl)(hb:∀r∈rl,-4611686018427387904<=r.1/\r.1<=4611686018427387904/\r.2.length<=4611686018427387)(hn:vs.length<=1000)
  (h1:w.cell? ⟨p1,0,none⟩= some (.int .i64 first)) (h2:w.cell? ⟨p2,0,none⟩= some (.int .i64 behind)):
  Calls Tryz.prog 209 #[lv,.func (.func 196) #[] #[.pointer (some ⟨p1,0,none⟩),.pointer (some ⟨p2,0,none⟩)]] w fun e w'=>
   (∃k:Int,e=.returned (.int .i64 k)/\(0<=k↔(rl.any fun r=>decide (r.1<=first)&&decide (behind<=aq r))=true))/\Below w.heap.size w w':=by
 obtain⟨ao,cap,rfl⟩:=aY hown
 have HO:=ab hown
 have HS:=ab hsh
 have HB:=ab hb
 clear hown hsh hb
 go_enter Tryz.func209,Tryz.ntmps209
 go_wp2_with fail
 go_loopw [8] (fun i wr=>∃k:Nat,k<=vs.length/\i=.int .i64 k/\Below w.heap.size w wr/\Hid (∀(j:Nat) r,j<k->rl[j]? =some r->(decide (r.1<=first)&&decide (behind<=aq r))=false)) (fun i _=>vs.length-(intOf i).toNat)
 case atStart=>exact⟨0,Nat.zero_le _,rfl,Below.refl _ _,fun j r hj=>by omega⟩
 case round=>
  obtain⟨k,hk,rfl,hbr,hno⟩:=hrel
  by_cases hlt:k<vs.length
  ·obtain⟨v,hv⟩:∃v,vs[k]? =some v:=⟨_,List.getElem?_eq_getElem hlt⟩
   obtain⟨r,hr⟩:∃r,rl[k]? =some r:=⟨_,List.getElem?_eq_getElem (by rw[<-HS.out.1];exact hlt)⟩
   obtain⟨e1,ao2,cap2,e2,hcap2⟩:=HS.out.2 k v r hv hr
   obtain⟨v1,v2⟩:=v
   simp only at e1 e2
   subst e1 e2
   have hown:=aD HO.out hbr
   rcases hown.2 with⟨_,h0⟩|⟨g,cap',cur,e3,_,hg,hnc,hcm,hcs,htk⟩
   ·omega
   simp only[Value.slice.injEq]at e3
   obtain⟨rfl,_,rfl⟩:=e3
   obtain⟨q1,q2⟩:=eC hv
   have c1:wr.cell? ⟨g,k*2,none⟩= some (.int .i64 r.1):=by rw[hown.cellAt (k*2) (by omega)];exact q1
   have c2:wr.cell? ⟨g,k*2+1,none⟩= some (.slice ao2 r.2.length cap2):=by rw[hown.cellAt (k*2+1) (by omega)];exact q2
   have hbd:=HB.out r (List.mem_of_getElem? hr)
   have HC:=ab (x_Covers1_any r.1 first behind r.2.length cap2 p1 p2 ao2 wr ⟨hbd.1,hbd.2.1⟩ hbd.2.2 (ae h1 hbr) (ae h2 hbr))
   have HR:=ab hr
   have HBR:=ab hbr
   have HN:=ab hno
   clear hown hg htk hcs hcm q1 q2 hbd hr hv hno
   go_wp2_with fail
   refine HC.out.mono ?_
   rintro e w1 ⟨rfl,hb1⟩
   have hbb:=ab (ag HBR.out hb1)
   clear hb1 HC HBR hbr c1 c2
   cases hc:(decide (r.1<=first)&&decide (behind<=r.1+(r.2.length:Int)))
   ·go_wp2_with fail
    go_roundw
    case rel=>
     refine⟨k+1,by omega,by go_num,hbb.out,fun j r' hj hr'=>?_⟩
     rcases Nat.lt_or_ge j k with h3|h3
     ·exact HN.out j r' h3 hr'
     ·obtain rfl:j=k:=by omega
      obtain rfl:=Option.some.inj (HR.out.symm.trans hr')
      exact hc
    case measure=>simp[intOf];omega
   ·go_wp2_with fail
    go_ret
    refine⟨⟨k,rfl,?_⟩,hbb.out⟩
    refine⟨fun _=>?_,fun _=>by omega⟩
    rw[List.any_eq_true]
    exact⟨r,List.mem_of_getElem? HR.out,hc⟩
  ·obtain rfl:k=vs.length:=by omega
   have HN:=ab hno
   have HBR:=ab hbr
   clear hno hbr
   go_wp2_with fail
   go_ret
   refine⟨⟨-1,rfl,?_⟩,HBR.out⟩
   refine⟨fun h=>by omega,fun h=>?_⟩
   rw[List.any_eq_true]at h
   obtain⟨r,hr,h3⟩:=h
   obtain⟨j,hj,rfl⟩:=List.getElem_of_mem hr
   have:=HN.out j rl[j] (by rw[HS.out.1];exact hj) (List.getElem?_eq_getElem hj)
   rw[this]at h3
   cases h3
theorem x_Contains_any(vs:List bm)(rl:List aL)(lv:Value)(first behind:Int)(p1 p2:Nat)(w:World)(hown:w.ownsRow 0 259 2 lv vs.length (ay vs))(hsh:Shape vs rl)(hb:∀r∈rl,-4611686018427387904<=r.1/\r.1<=4611686018427387904/\r.2.length<=4611686018427387)(hn:vs.length<=1000)
  (h1:w.cell? ⟨p1,0,none⟩= some (.int .i64 first)) (h2:w.cell? ⟨p2,0,none⟩= some (.int .i64 behind)):
  Calls Tryz.prog 195 #[lv,.func (.func 196) #[] #[.pointer (some ⟨p1,0,none⟩),.pointer (some ⟨p2,0,none⟩)]] w fun e w'=>
   e=.returned (.bool (rl.any fun r=>decide (r.1<=first)&&decide (behind<=aq r)))/\Below w.heap.size w w':=by
 have HI:=ab (x_IndexFunc_any vs rl lv first behind p1 p2 w hown hsh hb hn h1 h2)
 clear hown hsh hb hn h1 h2
 go_enter Tryz.func195,Tryz.ntmps195
 go_wp2_with fail
 refine HI.out.mono ?_
 rintro e w1 ⟨⟨k,rfl,hk⟩,hb1⟩
 have HK:=ab hk
 clear hk HI
 have hkb:decide (0<=k)=(rl.any fun r=>decide (r.1<=first)&&decide (behind<=aq r)):=by
  rw[Bool.eq_iff_iff,decide_eq_true_iff]
  exact HK.out
 replace hkb:=ab hkb
 go_wp2_with fail
 go_ret
 refine⟨?_,hb1⟩
 rw[<-hkb.out]
 rfl
theorem x_Covers_any(vs:List bm)(rl:List aL)(lv:Value)(first behind:Int)(rb off:Nat)(w:World)(hc:w.cell? ⟨rb,off,none⟩= some lv)(hown:w.ownsRow 0 259 2 lv vs.length (ay vs))(hsh:Shape vs rl)(hb:∀r∈rl,-4611686018427387904<=r.1/\r.1<=4611686018427387904/\r.2.length<=4611686018427387)(hn:vs.length<=1000):
  Calls Tryz.prog 166 #[.pointer (some ⟨rb,off,none⟩),.int .i64 first,.int .i64 behind] w fun e w'=>e=.returned (.bool (bq rl first behind))/\Below w.heap.size w w':=by
 have hlt:=cS hc
 obtain⟨ao,cap,rfl⟩:=aY hown
 have hbb:Below w.heap.size w ((w.alloc (.cells #[.int .i64 first] 3)).alloc (.cells #[.int .i64 behind] 3)):=(af w _).alloc (by simp) _
 have HI:=ab (x_Contains_any vs rl _ first behind w.heap.size (w.heap.size+1) _ (aD hown hbb) hsh hb hn (by simp) (by simp))
 have HB:=ab hbb
 clear hown hsh hb hn hbb
 by_cases hle:behind<=first
 ·have hd:decide (behind<=first)=true:=by simpa using hle
  go_enter Tryz.func166,Tryz.ntmps166
  go_wp2_with fail
  go_ret
  exact⟨by unfold bq;rw[hd];rfl,HB.out⟩
 ·have hd:decide (behind<=first)=false:=by simpa using hle
  go_enter Tryz.func166,Tryz.ntmps166
  go_wp2_with fail
  refine HI.out.mono ?_
  rintro e w1 ⟨rfl,hb1⟩
  have hbb:=ab (ag HB.out hb1)
  clear hb1 HI HB
  go_wp2_with fail
  go_ret
  exact⟨by unfold bq;rw[hd,Bool.false_or];rfl,hbb.out⟩
abbrev x_TouchS(rb off g b0 k:Nat)(lv:Value)(f:Int)(iv:Value)(a:Int)(av:Value)(w:World):Prop:=
 w.cell? ⟨rb,off,none⟩= some lv/\w.cell? ⟨g,k*2,none⟩= some (.int .i64 f)/\w.cell? ⟨g,k*2+1,none⟩= some iv/\w.cell? ⟨b0,0,none⟩= some (.int .i64 a)/\w.cell? ⟨b0,1,none⟩= some av
theorem x_TouchS.below{rb off g b0 k:Nat}{lv:Value}{f:Int}{iv:Value}{a:Int}{av:Value}{w w':World}(h:x_TouchS rb off g b0 k lv f iv a av w)(hb:Below w.heap.size w w'):x_TouchS rb off g b0 k lv f iv a av w':=
 ⟨ae h.1 hb,ae h.2.1 hb,ae h.2.2.1 hb,ae h.2.2.2.1 hb,ae h.2.2.2.2 hb⟩
theorem x_touching_any(vs:List bm)(rl:List aL)(lv:Value)(a:aL)(aa:Option Addr)(ac:Nat)(rb off:Nat)(w:World)(hc:w.cell? ⟨rb,off,none⟩= some lv)(hown:w.ownsRow 0 259 2 lv vs.length (ay vs))(hsh:Shape vs rl)(hb:∀r∈rl,-4611686018427387904<=r.1/\r.1<=4611686018427387904/\r.2.length<=4611686018427387)(hn:vs.length<=1000)
  (ha:-4611686018427387904<=a.1/\a.1<=4611686018427387904/\a.2.length<=4611686018427387):
  Calls Tryz.prog 238 #[.pointer (some ⟨rb,off,none⟩),.agg #[.int .i64 a.1,.slice aa a.2.length ac]] w fun e w'=>e=.returned (.tuple #[.int .i64 (dV rl a),.int .i64 (toR rl a)])/\Below w.heap.size w w':=by
 obtain⟨ao,cap,rfl⟩:=aY hown
 have hlt:=cS hc
 have hbb:Below w.heap.size w (w.alloc (.cells #[.int .i64 a.1,.slice aa a.2.length ac] 259)):=af w _
 have hlen:=hsh.1
 have HK:Hid (∀(k:Nat) (wr:World),k<vs.length->Below (w.heap.size+1) (w.alloc (.cells #[.int .i64 a.1,.slice aa a.2.length ac] 259)) wr->∃g r ri rc,ao=some ⟨g,0,none⟩/\rl[k]? =some r/\x_TouchS rb off g w.heap.size k (.slice ao vs.length cap) r.1 (.slice ri r.2.length rc) a.1 (.slice aa a.2.length ac) wr/\-4611686018427387904<=r.1/\r.1<=4611686018427387904/\r.2.length<=4611686018427387):=by
  intro k wr hk hbr
  have hbw:Below w.heap.size w wr:=ag hbb (by simpa using hbr)
  obtain⟨v,hv⟩:∃v,vs[k]? =some v:=⟨_,List.getElem?_eq_getElem hk⟩
  obtain⟨r,hr⟩:∃r,rl[k]? =some r:=⟨_,List.getElem?_eq_getElem (by rw[<-hlen];exact hk)⟩
  obtain⟨e1,ao2,cap2,e2,_⟩:=hsh.2 k v r hv hr
  obtain⟨v1,v2⟩:=v
  simp only at e1 e2
  subst e1 e2
  have hown2:=aD hown hbw
  rcases hown2.2 with⟨_,h0⟩|⟨g,cap',cur,e3,_,hg,hnc,hcm,hcs,htk⟩
  ·omega
  simp only[Value.slice.injEq]at e3
  obtain⟨rfl,_,rfl⟩:=e3
  obtain⟨q1,q2⟩:=eC hv
  have hbd:=hb r (List.mem_of_getElem? hr)
  refine⟨g,r,ao2,cap2,rfl,hr,⟨ae hc hbw,?_,?_,?_,?_⟩,hbd⟩
  ·rw[hown2.cellAt (k*2) (by omega)];exact q1
  ·rw[hown2.cellAt (k*2+1) (by omega)];exact q2
  ·rw[hbr.cell (by simp)];simp
  ·rw[hbr.cell (by simp)];simp
 have HL:Hid (∀wr,Below (w.heap.size+1) (w.alloc (.cells #[.int .i64 a.1,.slice aa a.2.length ac] 259)) wr->wr.cell? ⟨rb,off,none⟩= some (.slice ao vs.length cap)):=by
  intro wr hbr
  exact ae hc (ag hbb (by simpa using hbr))
 have HBd:=ab ha
 have HLen:=ab hlen
 have HBB:=ab hbb
 clear hown hsh hb hc hlen hbb ha
 go_enter Tryz.func238,Tryz.ntmps238
 go_wp2_with fail
 go_loopw [6] (fun i wr=>∃k:Nat,k<=vs.length/\i=.int .i64 k/\Below (w.heap.size+1) (w.alloc (.cells #[.int .i64 a.1,.slice aa a.2.length ac] 259)) wr/\Hid (∀(j:Nat) r,j<k->rl[j]? =some r->decide (aq r<a.1)=true)) (fun i _=>vs.length-(intOf i).toNat)
 case atStart=>exact⟨0,Nat.zero_le _,rfl,Below.refl _ _,fun j r hj=>by omega⟩
 case round=>
  obtain⟨k,hk,rfl,hbr,hno⟩:=hrel
  by_cases hkl:k<vs.length
  ·obtain⟨g,r,ri,rc,rfl,hr,hT,hr0,hr1,hr2⟩:=HK.out k wr hkl hbr
   have hd:decide ((k:Int)<(vs.length:Int))=true:=by simp;omega
   have HX:Hid (∀W,Calls Tryz.prog 197 #[.agg #[.int .i64 r.1,.slice ri r.2.length rc]] W fun e w'=>e=.returned (.int .i64 (r.1+r.2.length))/\Below W.heap.size W w'):=fun W=>e7 r.1 r.2.length rc ri W ⟨hr0,hr1⟩ hr2
   obtain⟨t1,t2,t3,t4,t5⟩:=id hT
   have HBR:=ab hbr
   have HN:=ab hno
   have HR:=ab hr
   clear hbr hno hr
   go_wp2_with fail
   go_region_held3 (fun w'=>w'.cell? ⟨rb,off,none⟩= some (.slice (some ⟨g,0,none⟩) vs.length cap)/\w'.cell? ⟨g,k*2,none⟩= some (.int .i64 r.1)/\w'.cell? ⟨g,k*2+1,none⟩= some (.slice ri r.2.length rc)/\w'.cell? ⟨w.heap.size,0,none⟩= some (.int .i64 a.1)/\w'.cell? ⟨w.heap.size,1,none⟩= some (.slice aa a.2.length ac)) (first|assumption|go_keep) (first
    |(go_at_call 197;refine(HX.out _).mono ?_;rintro e wq ⟨rfl,hbq⟩;have hSq:=x_TouchS.below (by assumption) hbq))
   have HBx:=ab (below_more HBR.out hbq)
   clear hbq hSq hT t1 t2 t3 t4 t5 HX HBR
   by_cases hc1:r.1+(r.2.length:Int)<a.1
   ·go_wp2_with fail
    go_roundw
    case rel=>
     refine⟨k+1,by omega,by go_num,HBx.out,fun j r' hj hr'=>?_⟩
     rcases Nat.lt_or_ge j k with h3|h3
     ·exact HN.out j r' h3 hr'
     ·obtain rfl:j=k:=by omega
      obtain rfl:=Option.some.inj (HR.out.symm.trans hr')
      exact decide_eq_true hc1
    case measure=>simp[intOf];omega
   ·have HF:Hid (dV rl a=k):=tw_length (by rw[<-HLen.out];exact hk) HN.out (fun r' hr'=>by
     obtain rfl:=Option.some.inj (HR.out.symm.trans hr')
     exact decide_eq_false (by unfold aq;exact hc1))
    clear HN HR
    go_wp2_with fail
    go_loopw [7] (fun i wr=>∃m:Nat,k<=m/\m<=vs.length/\i=.int .i64 m/\Below (w.heap.size+1) (w.alloc (.cells #[.int .i64 a.1,.slice aa a.2.length ac] 259)) wr/\Hid (∀(j:Nat) r,k<=j->j<m->rl[j]? =some r->decide (r.1<=aq a)=true)) (fun i _=>vs.length-(intOf i).toNat)
    case atStart=>exact⟨k,Nat.le_refl _,hk,rfl,HBx.out,fun j r h1 h2=>by omega⟩
    case round=>
     obtain⟨m,hkm,hm,rfl,hbr2,hno2⟩:=hrel
     by_cases hml:m<vs.length
     ·obtain⟨g2,r2,ri2,rc2,e2,hr2',hT2,hs0,hs1,hs2⟩:=HK.out m wr hml hbr2
      first|subst e2 |(obtain rfl:=Addr.mk.inj (Option.some.inj e2) |>.1)
      have hd2:decide ((m:Int)<(vs.length:Int))=true:=(by simp;omega)
      have HX2:Hid (∀W,Calls Tryz.prog 197 #[.agg #[.int .i64 a.1,.slice aa a.2.length ac]] W fun e w'=>e=.returned (.int .i64 (a.1+a.2.length))/\Below W.heap.size W w'):=fun W=>e7 a.1 a.2.length ac aa W ⟨HBd.out.1,HBd.out.2.1⟩ HBd.out.2.2
      obtain⟨u1,u2,u3,u4,u5⟩:=id hT2
      have HBR2:=ab hbr2
      have HN2:=ab hno2
      have HR2:=ab hr2'
      clear hbr2 hno2 hr2'
      go_wp2_with fail
      go_region_held3 (fun w'=>w'.cell? ⟨rb,off,none⟩= some (.slice (some ⟨g,0,none⟩) vs.length cap)/\w'.cell? ⟨g,m*2,none⟩= some (.int .i64 r2.1)/\w'.cell? ⟨g,m*2+1,none⟩= some (.slice ri2 r2.2.length rc2)/\w'.cell? ⟨w.heap.size,0,none⟩= some (.int .i64 a.1)/\w'.cell? ⟨w.heap.size,1,none⟩= some (.slice aa a.2.length ac)) (first|assumption|go_keep) (first
       |(go_at_call 197;refine(HX2.out _).mono ?_;rintro e wq2 ⟨rfl,hbq2⟩;have hSq2:=x_TouchS.below (by assumption) hbq2))
      have HBQ2:=ab (below_more HBR2.out hbq2)
      clear hbq2 hSq2 hT2 u1 u2 u3 u4 u5 HX2
      by_cases hc2:r2.1<=a.1+(a.2.length:Int)
      ·go_wp2_with fail
       go_roundw
       case rel=>
        refine⟨m+1,by omega,by omega,by go_num,HBQ2.out,fun j r' h1 h2 hr'=>?_⟩
        rcases Nat.lt_or_ge j m with h3|h3
        ·exact HN2.out j r' h1 h3 hr'
        ·obtain rfl:j=m:=by omega
         obtain rfl:=Option.some.inj (HR2.out.symm.trans hr')
         exact decide_eq_true hc2
       case measure=>simp[intOf];omega
      ·have HT:Hid (toR rl a=m):=to_is HF.out hkm (by rw[<-HLen.out];exact hm) HN2.out (fun r' hr'=>by
        obtain rfl:=Option.some.inj (HR2.out.symm.trans hr')
        exact decide_eq_false (by unfold aq;exact hc2))
       go_wp2_with fail
       go_ret2
       exact⟨by rw[HF.out,HT.out];rfl,ag HBB.out (by simpa using HBQ2.out)⟩
     ·obtain rfl:m=vs.length:=by omega
      have hd2:decide (((vs.length:Nat):Int)<(vs.length:Int))=false:=by simp
      have hl2:=HL.out wr hbr2
      have HBR2:=ab hbr2
      have HT:Hid (toR rl a=vs.length):=to_is HF.out hkm (by rw[<-HLen.out];exact hm) hno2 (fun r' hr'=>by
       have:=(List.getElem?_eq_some_iff.1 hr').1
       have:=HLen.out
       omega)
      clear hbr2 hno2
      go_wp2_with fail
      go_quiet (fail)
      go_wp2_with fail
      go_ret2
      exact⟨by rw[HF.out,HT.out];rfl,ag HBB.out (by simpa using aj HBR2.out _)⟩
  ·obtain rfl:k=vs.length:=by omega
   have hd:decide (((vs.length:Nat):Int)<(vs.length:Int))=false:=by simp
   have hl1:=HL.out wr hbr
   have HF:Hid (dV rl a=vs.length):=tw_length (by rw[<-HLen.out];exact hk) hno (fun r' hr'=>by
    have:=(List.getElem?_eq_some_iff.1 hr').1
    have:=HLen.out
    omega)
   have HBr:=ab hbr
   clear hbr hno
   go_wp2_with fail
   go_quiet (fail)
   have HBx:=ab (aj HBr.out nq)
   clear HBr
   go_wp2_with fail
   go_loopw [7] (fun i wr=>∃m:Nat,vs.length<=m/\m<=vs.length/\i=.int .i64 m/\Below (w.heap.size+1) (w.alloc (.cells #[.int .i64 a.1,.slice aa a.2.length ac] 259)) wr/\Hid (∀(j:Nat) r,vs.length<=j->j<m->rl[j]? =some r->decide (r.1<=aq a)=true)) (fun i _=>vs.length-(intOf i).toNat)
   case atStart=>exact⟨vs.length,Nat.le_refl _,hk,rfl,HBx.out,fun j r h1 h2=>by omega⟩
   case round=>
    obtain⟨m,hkm,hm,rfl,hbr2,hno2⟩:=hrel
    obtain rfl:m=vs.length:=by omega
    have hd2:decide (((vs.length:Nat):Int)<(vs.length:Int))=false:=by simp
    have hl2:=HL.out wr hbr2
    have HBR2:=ab hbr2
    have HT:Hid (toR rl a=vs.length):=to_is HF.out hkm (by rw[<-HLen.out];exact hm) hno2 (fun r' hr'=>by
     have:=(List.getElem?_eq_some_iff.1 hr').1
     have:=HLen.out
     omega)
    clear hbr2 hno2
    go_wp2_with fail
    go_quiet (fail)
    go_wp2_with fail
    go_ret2
    exact⟨by rw[HF.out,HT.out];rfl,ag HBB.out (by simpa using aj HBR2.out _)⟩
def Part(w:World)(tv:Value)(vs:List bm):Prop:=
 ∃ao cap,tv=.slice ao vs.length cap/\∀(k:Nat) v,vs[k]? =some v->∃g o,ao=some ⟨g,o,none⟩/\w.cell? ⟨g,o+k*2,none⟩= some (.int .i64 v.1)/\w.cell? ⟨g,o+k*2+1,none⟩= some v.2
theorem fM{α:Type}{l:List α}{k:Nat}{c:α}(h:l[k]? =some c):l.take (k+1)=l.take k++[c]:=by rw[List.take_add_one,h];rfl
theorem loR_snoc(a:aL)(M:List aL)(r:aL):loR a (M++[r])=min (loR a M) r.1:=by simp[loR,List.foldl_append]
theorem hiR_snoc(a:aL)(M:List aL)(r:aL):hiR a (M++[r])=max (hiR a M) (aq r):=by simp[hiR,List.foldl_append]
theorem layR_snoc(lo:Int)(L:List Int)(M:List aL)(r:aL):layR lo L (M++[r])=cz (layR lo L M) (r.1-lo).toNat r.2:=by simp[layR,List.foldl_append]
end Go.Proofs.YthmdjhlhodpbhaaGreatDoor
