/- Bounded, 30 -/
import Derived.BigRegion
import Derived.Deep.RegionHeld3
import Derived.BigQuiet
import Derived.Test.YthmdjhlhodpbhaaGreatDoorJ13
import Derived.Test.YthmdjhlhodpbhaaGreatDoorJ28
import Derived.Test.YthmdjhlhodpbhaaGreatDoorJ29
set_option maxHeartbeats 16000000
set_option maxRecDepth 8000
namespace Go.Proofs.YthmdjhlhodpbhaaGreatDoor
open Go.RowKit
def bufS(l:List aO):Int:=(l.map fun x=>(fp x.bytes:Int)).sum
theorem sum_split{α:Type}{piece:Int}{l:List aO}{sl:List (Int×α)}(hS:aO->Int)(hdz:∀x∈l,x.done=true->hS x=0)(hz:hS (aV piece)=0)(h:MapS piece l sl):(l.map hS).sum=bw (atS hS l) sl:=by
 have hks:(sl.map fun p=>p.1.toNat).Nodup:=by
  have:(sl.map fun p=>p.1.toNat)=(sl.map (·.1)).map Int.toNat:=by rw[List.map_map];rfl
  rw[this]
  have hn:=h.nd
  have hpos:∀x∈sl.map (·.1),0<=x:=by
   intro x hx
   obtain⟨p,hp,rfl⟩:=List.mem_map.1 hx
   exact(h.str p hp).1
  generalize sl.map (·.1)=ids at hn hpos
  induction ids with
  |nil=>simp
  |cons a t ih=>
   rw[List.nodup_cons]at hn
   simp only[List.map_cons,List.nodup_cons]
   refine⟨fun hm=>?_,ih hn.2 (fun x hx=>hpos x (by simp[hx]))⟩
   obtain⟨b,hb,e⟩:=List.mem_map.1 hm
   have h1:=hpos a (by simp)
   have h2:=hpos b (by simp[hb])
   have:a=b:=by omega
   subst this
   exact hn.1 hb
 have hlt:∀k∈(sl.map fun p=>p.1.toNat),k<l.length:=by
  intro k hk
  obtain⟨p,hp,rfl⟩:=List.mem_map.1 hk
  obtain⟨_,x,hx,_⟩:=h.str p hp
  exact(List.getElem?_eq_some_iff.1 hx).1
 have e1:bw (atS hS l) sl=((sl.map fun p=>p.1.toNat).map fun i=>((l[i]?).map hS).getD 0).sum:=by
  unfold bw atS
  rw[List.map_map]
  rfl
 rw[e1,map_range,sum_keys _ hks hlt]
 congr 1
 refine List.map_congr_left fun i hir=>?_
 have hil:i<l.length:=List.mem_range.1 hir
 have hx:l[i]? =some l[i]:=List.getElem?_eq_getElem hil
 have hin:=hdz _ (List.getElem_mem hil)
 generalize l[i]=x at hx hin
 rw[hx]
 simp only[Option.map_some,Option.getD_some]
 have hmem:i∈(sl.map fun p=>p.1.toNat)↔(i:Int)∈sl.map (·.1):=by
  constructor
  ·intro hm
   obtain⟨p,hp,e⟩:=List.mem_map.1 hm
   have:=(h.str p hp).1
   exact List.mem_map.2 ⟨p,hp,by omega⟩
  ·intro hm
   obtain⟨p,hp,e⟩:=List.mem_map.1 hm
   exact List.mem_map.2 ⟨p,hp,by omega⟩
 by_cases hk:i∈(sl.map fun p=>p.1.toNat)
 ·simp[hk]
 ·cases hd:x.done with
  |true=>simp[hk,hin hd]
  |false=>
   have:=h.non i x hx hd (fun hm=>hk (hmem.2 hm))
   subst this
   simp[hk,hz]
theorem buf_split{α:Type}{gaps piece:Int}{l:List aO}{sl:List (Int×α)}(hi:∀x∈l,StrInv gaps x)(h:MapS piece l sl):bufS l=bw (atS (fun x=>(fp x.bytes:Int)) l) sl:=by
 refine sum_split (fun x=>(fp x.bytes:Int)) (fun x hx hd=>?_) (by simp[aV,fp]) h
 have:=((hi x hx).dn hd).1
 simp[this,fp]
theorem tBuffered_any{U:Nat->Prop}(sb:Nat)(lv:Value)(piece:Int)(x:aO)(w:World)(h:StrAt U w sb lv piece x){gaps:Int}(hi:StrInv gaps x)(hg:gaps<=8):
  Calls Tryz.prog 71 #[.pointer (some ⟨sb,0,none⟩)] w fun e w'=>e=.returned (.int .i64 (fp x.bytes:Nat))/\Below w.heap.size w w':=by
 obtain⟨vs,hr,_⟩:=h.runs
 have c0:w.cell? ⟨sb,0,none⟩= some lv:=h.cell 0
 have HS:=ae (x_Size_any vs _ lv sb 0 w c0 hr.own hr.sh (hi.fit hg))
 rw[sizeR_runsOf]at HS
 clear h hr
 go_enter Tryz.func71,Tryz.ntmps71
 go_wp2_with fail
 refine HS.out.mono ?_
 rintro e w1 ⟨rfl,hb1⟩
 have HB:=ae hb1
 clear hb1 HS
 go_wp2_with fail
 go_ret
 exact⟨rfl,HB.out⟩
theorem csumB_any(cb sm n:Nat)(sl:List (Int×Nat))(hi:Int->Int)(w:World)(hc:w.cell? ⟨cb,21,none⟩= some (.map (some sm)))(hm:MapIs cK Tryz.prog 3 w sm n sl)(hs:∀p∈sl,∀W,Below w.heap.size w W->Calls Tryz.prog 71 #[.pointer (some ⟨p.2,0,none⟩)] W fun e w'=>e=.returned (.int .i64 (hi p.1))/\Below W.heap.size W w')(hr:∀p∈sl,0<=hi p.1/\hi p.1<=1073741823)(hl:sl.length<=1073741823):
  Calls Tryz.prog 70 #[.pointer (some ⟨cb,0,none⟩),.func (.func 71) #[] #[]] w fun e w'=>e=.returned (.int .i64 (bw hi sl))/\Below w.heap.size w w':=by
 have hS:bw hi sl<=1152921504606846976:=by
  have:=sumK_le (B:=1073741823) fun p hp=>(hr p hp).2
  omega
 have HM:=ae hm
 have HS:=ae hs
 have HR:=ae hr
 clear hm hs hr
 go_enter Tryz.func70,Tryz.ntmps70
 go_wp2_with (first
  |(at_range;refine eX _ rfl _ 134 rfl 140 Tryz.underlying3 Tryz.underlying134 sm n sl rfl HM.out ?_;intro w0 hrg0 hg0 hs0))
 have hb0:Below w.heap.size w w0:=ec hg0
 have H0:=ae (And.intro hrg0 hb0)
 clear hrg0 hg0 hs0 hb0 hc
 go_frame
 go_loopw [5] (fun s wr=>∃(rest:List (Int×Nat)) (cnt:Nat),RangeIs cK Tryz.prog 3 wr sm w.heap.size n sl rest cnt/\s=.int .i64 (bw hi sl-bw hi rest)/\Hid (∀p∈rest,p∈sl)/\Hid (bw hi rest<=bw hi sl)/\Below w.heap.size w wr) (fun _ wr=>wr.rangeLeft sm w.heap.size)
 case atStart=>exact⟨sl,_,H0.out.1,by rw[Int.sub_self],fun p hp=>hp,ae (Int.le_refl _),H0.out.2⟩
 case round=>
  obtain⟨rest,cnt,hrg,rfl,hsub,hsm,hbw⟩:=hrel
  have HBw:=ae hbw
  have HRg:=ae hrg
  clear hbw
  go_wp2_with (first
   |(at_next;refine fD _ rfl _ rfl Tryz.underlying3 sm w.heap.size n sl rest cnt rfl hrg ?_ ?_))
  ·intro hnil
   subst hnil
   go_wp2_with fail
   go_ret
   exact⟨by simp[bw],HBw.out⟩
  ·intro k y r1 r2 w1 cnt1 hre hwk hat hrg1 hlt hg1 hs1 hen
   have hky:(k,y)∈sl:=hsub.out _ (by rw[hre];simp)
   have hb1:Below w.heap.size w w1:=HBw.out.grown hg1 HBw.out.size (fun g hg=>by cases hg;exact Nat.le_refl _)
   have hmid:=sumK_mid (f:=hi) r1 r2 k y
   rw[<-hre]at hmid
   have hn1:0<=bw hi (r1++r2):=dy fun p hp=>(HR.out p (hsub.out p (by rw[hre];simp at hp⊢;rcases hp with h|h<;>simp[h]))).1
   have hsb:Hid (∀p∈r1++r2,p∈sl):=fun p hp=>hsub.out p (by rw[hre];simp at hp⊢;rcases hp with h|h<;>simp[h])
   have hk:0<=hi k/\hi k<=1073741823:=HR.out (k,y) hky
   obtain⟨hk0,hk1⟩:=hk
   have hn2:=hsm.out
   have hw:IntKind.i64.wrap (bw hi sl-bw hi rest+hi k)=bw hi sl-bw hi (r1++r2):=by
    rw[IntKind.wrap_i64]
    omega
   have HM2:=ae hmid
   have HE:=ae (HS.out (k,y) hky w1 hb1)
   have H1:=ae (And.intro hrg1 (And.intro hb1 (And.intro hlt hsb)))
   have HN:=ae (show bw hi (r1++r2)<=bw hi sl from by omega)
   generalize bw hi rest=Sr at hw HM2⊢
   clear hmid hn1 hb1 hky hrg1 hlt hsb hn2 hg1 hs1 hat
   go_wp2_with fail
   refine HE.out.mono ?_
   rintro e w2 ⟨rfl,hb2⟩
   have H2:Hid (RangeIs cK Tryz.prog 3 w2 sm w.heap.size n sl (r1++r2) cnt1/\Below w.heap.size w w2):=⟨H1.out.1.kept (hb2.block _ H1.out.1.map.lt) (hb2.block _ H1.out.1.iter.1),ai H1.out.2.1 hb2⟩
   clear HE hb2
   go_wp2_with fail
   go_roundw
   case rel=>exact⟨r1++r2,cnt1,H2.out.1,rfl,H1.out.2.2.2,HN,H2.out.2⟩
   case measure=>
    have h1:=H2.out.1.left_eq
    have h2:=HRg.out.left_eq
    have h3:=H1.out.2.2.1
    rw[h1,h2]
    exact h3
theorem cbuf_any(N cb:Nat)(g:Cfg)(c:aq)(a:aD)(w:World)(h:ConAt N w cb g c a)(hi:ConInv g c){M:Int}(hok:ConOk M c)(hg:cO g):
  Calls Tryz.prog 70 #[.pointer (some ⟨cb,0,none⟩),.func (.func 71) #[] #[]] w fun e w'=>e=.returned (.int .i64 (bufS c.streams))/\Below w.heap.size w w':=by
 obtain⟨n,hn,hm⟩:=h.smap
 have c21:w.cell? ⟨cb,21,none⟩= some (.map (some a.sm)):=h.blk.cell 21
 rw[buf_split hi.str h.mp]
 have hg4:=hg.c4
 refine csumB_any cb a.sm n a.sl _ w c21 hm (fun p hp W hW=>?_) (fun p hp=>?_) ?_
 ·obtain⟨_,x,hx,_⟩:=h.mp.str p hp
  have hsx:=(h.str p hp x hx).below hW
  have e:atS (fun x=>(fp x.bytes:Int)) c.streams p.1=(fp x.bytes:Int):=by simp[atS,hx]
  rw[e]
  exact tBuffered_any p.2 _ g.c2 x W hsx (hi.str x (List.mem_of_getElem? hx)) (by omega)
 ·obtain⟨_,x,hx,_⟩:=h.mp.str p hp
  have e:atS (fun x=>(fp x.bytes:Int)) c.streams p.1=(fp x.bytes:Int):=by simp[atS,hx]
  rw[e]
  have h1:=hi.str x (List.mem_of_getElem? hx)
  have h2:fp x.bytes<=x.bytes.length:=List.countP_le_length
  have h3:=h1.len
  have h4:=h1.cred
  have h5:=h1.read
  omega
 ·have h2:=hok.slen
  have h3:=h.mp.len
  omega
def lookC(c:aq):Array Value:=#[.bool c.proven,.int .i64 c.got,.int .i64 c.sent,.int .i64 c.credit,.int .i64 (c.streams.length:Int),.int .i64 (bufS c.streams)]
def zeroLook:Array Value:=#[.bool false,.int .i64 0,.int .i64 0,.int .i64 0,.int .i64 0,.int .i64 0]
def lookS(s:ay)(cid:Int):Array Value×Int:=
 match fC s.conns cid with
 |none=>(zeroLook,3)
 |some k=>match s.conns[k]? with
  |none=>(zeroLook,3)
  |some c=>(lookC c,0)
theorem upon_skip{P:Program}{o:Oper}{a:Act}{K:Act->World->Prop}{Q:Exit->Act->World->Prop}{w:World}(h:K (a.put o.dst undef) w):Oper.upon P o a K Q (.ok .skip w):=h
theorem upon_id{P:Program}{o:Oper}{a:Act}{K:Act->World->Prop}{Q:Exit->Act->World->Prop}{r:Result Next}(h:Oper.upon P o a K Q r):Oper.upon P o a K Q r:=h
theorem cLook_any(N cb:Nat)(g:Cfg)(c:aq)(a:aD)(w:World)(h:ConAt N w cb g c a)(hi:ConInv g c){M:Int}(hok:ConOk M c)(hg:cO g):
  Calls Tryz.prog 41 #[.pointer (some ⟨cb,0,none⟩)] w fun e w'=>e=.returned (.agg (lookC c))/\Below w.heap.size w w':=by
 have hcl:cb<w.heap.size:=h.blk.lt
 have HBu:Hid (∀W,Below w.heap.size w W->Calls Tryz.prog 70 #[.pointer (some ⟨cb,0,none⟩),.func (.func 71) #[] #[]] W fun e w'=>e=.returned (.int .i64 (bufS c.streams))/\Below W.heap.size W w'):=fun W hW=>cbuf_any N cb g c a W (h.below hW) hi hok hg
 have HK:=ae (fun W=>gO c.credit g.c1 W)
 have HI0:Hid (∀W,Below w.heap.size w W->W.heap[w.heap.size]? =some (.cells #[.bool false,.int .i64 0,.int .i64 0,.int .i64 0,.int .i64 0,.int .i64 0] 34 (0,0))->W.cell? ⟨cb,12,none⟩= some (.bool c.proven)/\W.cell? ⟨cb,13,none⟩= some (.int .i64 c.got)/\W.cell? ⟨cb,14,none⟩= some (.int .i64 c.sent)/\W.cell? ⟨cb,18,none⟩= some (.int .i64 c.credit)/\W.cell? ⟨cb,19,none⟩= some (.int .i64 g.c1)/\W.cell? ⟨cb,20,none⟩= some (.int .i64 (c.streams.length:Int))/\W.heap[w.heap.size]? =some (.cells #[.bool false,.int .i64 0,.int .i64 0,.int .i64 0,.int .i64 0,.int .i64 0] 34 (0,0))):=fun W hW hx=>⟨(h.blk.below hW).cell 12,(h.blk.below hW).cell 13,(h.blk.below hW).cell 14,(h.blk.below hW).cell 18,(h.blk.below hW).cell 19,(h.blk.below hW).cell 20,hx⟩
 have hb0:Below w.heap.size w (w.alloc (.cells #[.bool false,.int .i64 0,.int .i64 0,.int .i64 0,.int .i64 0,.int .i64 0] 34)):=ag w _
 have hS0:=HI0.out _ hb0 (heap_alloc_new w _)
 have HB0:=ae hb0
 have HZ0:Hid (w.heap.size<(w.alloc (.cells #[.bool false,.int .i64 0,.int .i64 0,.int .i64 0,.int .i64 0,.int .i64 0] 34)).heap.size):=by show _<_;simp
 unfold lookC
 generalize bufS c.streams=B at HBu⊢
 generalize hW0:(w.alloc (.cells #[.bool false,.int .i64 0,.int .i64 0,.int .i64 0,.int .i64 0,.int .i64 0] 34))=w0 at *
 have HW0:=ae hW0
 clear h hi hok hg hb0 hW0
 go_enter Tryz.func41,Tryz.ntmps41
 go_wp2_with fail
 rw[HW0.out]
 obtain⟨i12,i13,i14,i18,i19,i20,ix⟩:=id hS0
 have HRs:Hid (∀W:World,Below w0.heap.size w0 W->(W.cell? ⟨w.heap.size,0,none⟩= some (.bool false)/\W.frozen? ⟨w.heap.size,0,none⟩= false/\(W.setCell ⟨w.heap.size,0,none⟩ (.bool c.proven)).cell? ⟨w.heap.size,1,none⟩= some (.int .i64 0)/\(W.setCell ⟨w.heap.size,0,none⟩ (.bool c.proven)).frozen? ⟨w.heap.size,1,none⟩= false/\((W.setCell ⟨w.heap.size,0,none⟩ (.bool c.proven)).setCell ⟨w.heap.size,1,none⟩ (.int .i64 c.got)).cell? ⟨w.heap.size,2,none⟩= some (.int .i64 0)/\((W.setCell ⟨w.heap.size,0,none⟩ (.bool c.proven)).setCell ⟨w.heap.size,1,none⟩ (.int .i64 c.got)).frozen? ⟨w.heap.size,2,none⟩= false/\(((W.setCell ⟨w.heap.size,0,none⟩ (.bool c.proven)).setCell ⟨w.heap.size,1,none⟩ (.int .i64 c.got)).setCell ⟨w.heap.size,2,none⟩ (.int .i64 c.sent)).cell? ⟨w.heap.size,3,none⟩= some (.int .i64 0)/\(((W.setCell ⟨w.heap.size,0,none⟩ (.bool c.proven)).setCell ⟨w.heap.size,1,none⟩ (.int .i64 c.got)).setCell ⟨w.heap.size,2,none⟩ (.int .i64 c.sent)).frozen? ⟨w.heap.size,3,none⟩= false/\((((W.setCell ⟨w.heap.size,0,none⟩ (.bool c.proven)).setCell ⟨w.heap.size,1,none⟩ (.int .i64 c.got)).setCell ⟨w.heap.size,2,none⟩ (.int .i64 c.sent)).setCell ⟨w.heap.size,3,none⟩ (.int .i64 c.credit)).cell? ⟨w.heap.size,4,none⟩= some (.int .i64 0)/\((((W.setCell ⟨w.heap.size,0,none⟩ (.bool c.proven)).setCell ⟨w.heap.size,1,none⟩ (.int .i64 c.got)).setCell ⟨w.heap.size,2,none⟩ (.int .i64 c.sent)).setCell ⟨w.heap.size,3,none⟩ (.int .i64 c.credit)).frozen? ⟨w.heap.size,4,none⟩= false/\(((((W.setCell ⟨w.heap.size,0,none⟩ (.bool c.proven)).setCell ⟨w.heap.size,1,none⟩ (.int .i64 c.got)).setCell ⟨w.heap.size,2,none⟩ (.int .i64 c.sent)).setCell ⟨w.heap.size,3,none⟩ (.int .i64 c.credit)).setCell ⟨w.heap.size,4,none⟩ (.int .i64 (c.streams.length:Int))).cell? ⟨w.heap.size,5,none⟩= some (.int .i64 0)/\(((((W.setCell ⟨w.heap.size,0,none⟩ (.bool c.proven)).setCell ⟨w.heap.size,1,none⟩ (.int .i64 c.got)).setCell ⟨w.heap.size,2,none⟩ (.int .i64 c.sent)).setCell ⟨w.heap.size,3,none⟩ (.int .i64 c.credit)).setCell ⟨w.heap.size,4,none⟩ (.int .i64 (c.streams.length:Int))).frozen? ⟨w.heap.size,5,none⟩= false/\((((((W.setCell ⟨w.heap.size,0,none⟩ (.bool c.proven)).setCell ⟨w.heap.size,1,none⟩ (.int .i64 c.got)).setCell ⟨w.heap.size,2,none⟩ (.int .i64 c.sent)).setCell ⟨w.heap.size,3,none⟩ (.int .i64 c.credit)).setCell ⟨w.heap.size,4,none⟩ (.int .i64 (c.streams.length:Int))).setCell ⟨w.heap.size,5,none⟩ (.int .i64 B)).heap[w.heap.size]? =some (.cells #[.bool c.proven,.int .i64 c.got,.int .i64 c.sent,.int .i64 c.credit,.int .i64 (c.streams.length:Int),.int .i64 B] 34 (0,0)))):=by
  intro W hb
  have x0:=(hb.block w.heap.size HZ0.out).trans ix
  have x1:=ak x0 0 (.bool c.proven)
  have x2:=ak x1 1 (.int .i64 c.got)
  have x3:=ak x2 2 (.int .i64 c.sent)
  have x4:=ak x3 3 (.int .i64 c.credit)
  have x5:=ak x4 4 (.int .i64 (c.streams.length:Int))
  have x6:=ak x5 5 (.int .i64 B)
  refine⟨by simp only[World.cell?,x0];rfl,frozen_of_row _ _ _ _ _ x0,by simp only[World.cell?,x1];rfl,frozen_of_row _ _ _ _ _ x1,by simp only[World.cell?,x2];rfl,frozen_of_row _ _ _ _ _ x2,by simp only[World.cell?,x3];rfl,frozen_of_row _ _ _ _ _ x3,by simp only[World.cell?,x4];rfl,frozen_of_row _ _ _ _ _ x4,by simp only[World.cell?,x5];rfl,frozen_of_row _ _ _ _ _ x5,x6⟩
 have hne:cb≠w.heap.size:=by omega
 have hc6:∀(W:World) (u0 u1 u2 u3 u4 u5:Value) (q:Nat),((((((W.setCell ⟨w.heap.size,0,none⟩ u0).setCell ⟨w.heap.size,1,none⟩ u1).setCell ⟨w.heap.size,2,none⟩ u2).setCell ⟨w.heap.size,3,none⟩ u3).setCell ⟨w.heap.size,4,none⟩ u4).setCell ⟨w.heap.size,5,none⟩ u5).cell? ⟨cb,q,none⟩= W.cell? ⟨cb,q,none⟩:=by
  intro W u0 u1 u2 u3 u4 u5 q
  simp only[World.cell?]
  rw[heap_setCell_other _ _ _ _ hne,heap_setCell_other _ _ _ _ hne,heap_setCell_other _ _ _ _ hne,heap_setCell_other _ _ _ _ hne,heap_setCell_other _ _ _ _ hne,heap_setCell_other _ _ _ _ hne]
 have HKs:Hid (∀(W:World) (u0 u1 u2 u3 u4 u5:Value),(W.cell? ⟨cb,12,none⟩= some (.bool c.proven)/\W.cell? ⟨cb,13,none⟩= some (.int .i64 c.got)/\W.cell? ⟨cb,14,none⟩= some (.int .i64 c.sent)/\W.cell? ⟨cb,18,none⟩= some (.int .i64 c.credit)/\W.cell? ⟨cb,19,none⟩= some (.int .i64 g.c1)/\W.cell? ⟨cb,20,none⟩= some (.int .i64 (c.streams.length:Int)))->(((((((W.setCell ⟨w.heap.size,0,none⟩ u0).setCell ⟨w.heap.size,1,none⟩ u1).setCell ⟨w.heap.size,2,none⟩ u2).setCell ⟨w.heap.size,3,none⟩ u3).setCell ⟨w.heap.size,4,none⟩ u4).setCell ⟨w.heap.size,5,none⟩ u5).cell? ⟨cb,12,none⟩= some (.bool c.proven)/\((((((W.setCell ⟨w.heap.size,0,none⟩ u0).setCell ⟨w.heap.size,1,none⟩ u1).setCell ⟨w.heap.size,2,none⟩ u2).setCell ⟨w.heap.size,3,none⟩ u3).setCell ⟨w.heap.size,4,none⟩ u4).setCell ⟨w.heap.size,5,none⟩ u5).cell? ⟨cb,13,none⟩= some (.int .i64 c.got)/\((((((W.setCell ⟨w.heap.size,0,none⟩ u0).setCell ⟨w.heap.size,1,none⟩ u1).setCell ⟨w.heap.size,2,none⟩ u2).setCell ⟨w.heap.size,3,none⟩ u3).setCell ⟨w.heap.size,4,none⟩ u4).setCell ⟨w.heap.size,5,none⟩ u5).cell? ⟨cb,14,none⟩= some (.int .i64 c.sent)/\((((((W.setCell ⟨w.heap.size,0,none⟩ u0).setCell ⟨w.heap.size,1,none⟩ u1).setCell ⟨w.heap.size,2,none⟩ u2).setCell ⟨w.heap.size,3,none⟩ u3).setCell ⟨w.heap.size,4,none⟩ u4).setCell ⟨w.heap.size,5,none⟩ u5).cell? ⟨cb,18,none⟩= some (.int .i64 c.credit)/\((((((W.setCell ⟨w.heap.size,0,none⟩ u0).setCell ⟨w.heap.size,1,none⟩ u1).setCell ⟨w.heap.size,2,none⟩ u2).setCell ⟨w.heap.size,3,none⟩ u3).setCell ⟨w.heap.size,4,none⟩ u4).setCell ⟨w.heap.size,5,none⟩ u5).cell? ⟨cb,19,none⟩= some (.int .i64 g.c1)/\((((((W.setCell ⟨w.heap.size,0,none⟩ u0).setCell ⟨w.heap.size,1,none⟩ u1).setCell ⟨w.heap.size,2,none⟩ u2).setCell ⟨w.heap.size,3,none⟩ u3).setCell ⟨w.heap.size,4,none⟩ u4).setCell ⟨w.heap.size,5,none⟩ u5).cell? ⟨cb,20,none⟩= some (.int .i64 (c.streams.length:Int)))):=by
  intro W u0 u1 u2 u3 u4 u5 h
  simp only[hc6]
  exact h
 clear hc6
 have HK1:Hid (∀W W':World,Below W.heap.size W W'->(W.cell? ⟨cb,12,none⟩= some (.bool c.proven)/\W.cell? ⟨cb,13,none⟩= some (.int .i64 c.got)/\W.cell? ⟨cb,14,none⟩= some (.int .i64 c.sent)/\W.cell? ⟨cb,18,none⟩= some (.int .i64 c.credit)/\W.cell? ⟨cb,19,none⟩= some (.int .i64 g.c1)/\W.cell? ⟨cb,20,none⟩= some (.int .i64 (c.streams.length:Int)))->(W'.cell? ⟨cb,12,none⟩= some (.bool c.proven)/\W'.cell? ⟨cb,13,none⟩= some (.int .i64 c.got)/\W'.cell? ⟨cb,14,none⟩= some (.int .i64 c.sent)/\W'.cell? ⟨cb,18,none⟩= some (.int .i64 c.credit)/\W'.cell? ⟨cb,19,none⟩= some (.int .i64 g.c1)/\W'.cell? ⟨cb,20,none⟩= some (.int .i64 (c.streams.length:Int)))):=fun W W' hb h=>⟨af h.1 hb,af h.2.1 hb,af h.2.2.1 hb,af h.2.2.2.1 hb,af h.2.2.2.2.1 hb,af h.2.2.2.2.2 hb⟩
 have hSd:w0.drew.cell? ⟨cb,12,none⟩= some (.bool c.proven)/\w0.drew.cell? ⟨cb,13,none⟩= some (.int .i64 c.got)/\w0.drew.cell? ⟨cb,14,none⟩= some (.int .i64 c.sent)/\w0.drew.cell? ⟨cb,18,none⟩= some (.int .i64 c.credit)/\w0.drew.cell? ⟨cb,19,none⟩= some (.int .i64 g.c1)/\w0.drew.cell? ⟨cb,20,none⟩= some (.int .i64 (c.streams.length:Int)):=⟨i12,i13,i14,i18,i19,i20⟩
 go_region_held3 (fun w'=>w'.cell? ⟨cb,12,none⟩= some (.bool c.proven)/\w'.cell? ⟨cb,13,none⟩= some (.int .i64 c.got)/\w'.cell? ⟨cb,14,none⟩= some (.int .i64 c.sent)/\w'.cell? ⟨cb,18,none⟩= some (.int .i64 c.credit)/\w'.cell? ⟨cb,19,none⟩= some (.int .i64 g.c1)/\w'.cell? ⟨cb,20,none⟩= some (.int .i64 (c.streams.length:Int))) (first|with_reducible assumption|with_reducible exact HKs.out _ _ _ _ _ _ _ (by with_reducible assumption)) (first
  |(go_at_call 69;refine(HK.out _).mono ?_;rintro e w1 ⟨rfl,hb1⟩;have hS1:=HK1.out _ _ hb1 (by first|assumption|exact⟨i12,i13,i14,i18,i19,i20⟩))
  |(go_at_call 70;refine(HBu.out w1 (ai (aj HB0.out 1) hb1)).mono ?_;rintro e w2 ⟨rfl,hb2⟩;have hS2:=HK1.out _ _ hb2 (by first|assumption|exact⟨i12,i13,i14,i18,i19,i20⟩))
  |(refine upon_id ?_;obtain⟨e0,f0,e1,f1,e2,f2,e3,f3,e4,f4,e5,f5,hfin⟩:=HRs.out w2 (ai (aw hb1) hb2);simp only[e0,f0,e1,f1,e2,f2,e3,f3,e4,f4,e5,f5,Result.andThen_ok,Bool.false_eq_true,if_false];refine upon_skip ?_))
 have HB2:=ae (ai (ai HB0.out (aw hb1)) hb2)
 have HFn:=ae hfin
 clear hfin e0 f0 e1 f1 e2 f2 e3 f3 e4 f4 e5 f5 hS1 hS2 hb1 hb2 HKs HRs HK1 HBu HK hSd hS0 i12 i13 i14 i18 i19 i20
 go_wp2_with fail
 refine bodyPost_ret (results_cell_row (P:=Tryz.prog) Tryz.results41 _ _ w.heap.size 34 #[.bool c.proven,.int .i64 c.got,.int .i64 c.sent,.int .i64 c.credit,.int .i64 (c.streams.length:Int),.int .i64 B] (0,0) _ rfl HFn.out Tryz.underlying34 rfl (by kernel_rfl)) rfl ?_
 exact⟨rfl,((((((HB2.out.setCell (Nat.le_refl _) _).setCell (Nat.le_refl _) _).setCell (Nat.le_refl _) _).setCell (Nat.le_refl _) _).setCell (Nat.le_refl _) _).setCell (Nat.le_refl _) _)⟩
theorem kT{α:Type}{gaps piece:Int}{l:List aO}{sl:List (Int×α)}(hi:∀x∈l,StrInv gaps x)(h:MapS piece l sl):readAll l=bf l+bw (atS (·.read) l) sl:=by
 have h1:=sum_split (fun x=>if x.done then 0 else x.read) (fun x _ hd=>by simp[hd]) (by simp[aV]) h
 have h2:bw (atS (fun x=>if x.done then 0 else x.read) l) sl=bw (atS (·.read) l) sl:=by
  unfold bw
  congr 1
  refine List.map_congr_left fun p hp=>?_
  obtain⟨_,x,hx,hd⟩:=h.str p hp
  simp[atS,hx,hd]
 rw[<-h2,<-h1]
 unfold readAll bf
 rw[sum_filter,<-sum_add]
 congr 1
 refine List.map_congr_left fun x hx=>?_
 have hx1:=hi x hx
 unfold cN
 cases hd:x.done with
 |false=>simp
 |true=>
  cases hr:x.reset with
  |true=>simp
  |false=>
   have:=(hx1.dn hd).2.2 hr
   simp[this]
theorem csumR_any(cb sm n:Nat)(sl:List (Int×Nat))(hi:Int->Int)(w:World)(hc:w.cell? ⟨cb,21,none⟩= some (.map (some sm)))(hm:MapIs cK Tryz.prog 3 w sm n sl)(hs:∀p∈sl,w.cell? ⟨p.2,1,none⟩= some (.int .i64 (hi p.1)))(hr:∀p∈sl,0<=hi p.1/\hi p.1<=1073741823)(hl:sl.length<=1073741823):
  Calls Tryz.prog 70 #[.pointer (some ⟨cb,0,none⟩),.func (.func 134) #[] #[]] w fun e w'=>e=.returned (.int .i64 (bw hi sl))/\Below w.heap.size w w':=by
 have hS:bw hi sl<=1152921504606846976:=by
  have:=sumK_le (B:=1073741823) fun p hp=>(hr p hp).2
  omega
 have HM:=ae hm
 have HS:=ae hs
 have HR:=ae hr
 clear hm hs hr
 go_enter Tryz.func70,Tryz.ntmps70
 go_wp2_with (first
  |(at_range;refine eX _ rfl _ 134 rfl 140 Tryz.underlying3 Tryz.underlying134 sm n sl rfl HM.out ?_;intro w0 hrg0 hg0 hs0))
 have hb0:Below w.heap.size w w0:=ec hg0
 have H0:=ae (And.intro hrg0 hb0)
 clear hrg0 hg0 hs0 hb0 hc
 go_frame
 go_loopw [5] (fun s wr=>∃(rest:List (Int×Nat)) (cnt:Nat),RangeIs cK Tryz.prog 3 wr sm w.heap.size n sl rest cnt/\s=.int .i64 (bw hi sl-bw hi rest)/\Hid (∀p∈rest,p∈sl)/\Hid (bw hi rest<=bw hi sl)/\Below w.heap.size w wr) (fun _ wr=>wr.rangeLeft sm w.heap.size)
 case atStart=>exact⟨sl,_,H0.out.1,by rw[Int.sub_self],fun p hp=>hp,ae (Int.le_refl _),H0.out.2⟩
 case round=>
  obtain⟨rest,cnt,hrg,rfl,hsub,hsm,hbw⟩:=hrel
  have HBw:=ae hbw
  have HRg:=ae hrg
  clear hbw
  go_wp2_with (first
   |(at_next;refine fD _ rfl _ rfl Tryz.underlying3 sm w.heap.size n sl rest cnt rfl hrg ?_ ?_))
  ·intro hnil
   subst hnil
   go_wp2_with fail
   go_ret
   exact⟨by simp[bw],HBw.out⟩
  ·intro k y r1 r2 w1 cnt1 hre hwk hat hrg1 hlt hg1 hs1 hen
   have hky:(k,y)∈sl:=hsub.out _ (by rw[hre];simp)
   have hb1:Below w.heap.size w w1:=HBw.out.grown hg1 HBw.out.size (fun g hg=>by cases hg;exact Nat.le_refl _)
   have hcell:w1.cell? ⟨y,1,none⟩= some (.int .i64 (hi k)):=af (HS.out (k,y) hky) hb1
   have hmid:=sumK_mid (f:=hi) r1 r2 k y
   rw[<-hre]at hmid
   have hn1:0<=bw hi (r1++r2):=dy fun p hp=>(HR.out p (hsub.out p (by rw[hre];simp at hp⊢;rcases hp with h|h<;>simp[h]))).1
   have hsb:Hid (∀p∈r1++r2,p∈sl):=fun p hp=>hsub.out p (by rw[hre];simp at hp⊢;rcases hp with h|h<;>simp[h])
   have hk:0<=hi k/\hi k<=1073741823:=HR.out (k,y) hky
   obtain⟨hk0,hk1⟩:=hk
   have hn2:=hsm.out
   have hw:IntKind.i64.wrap (bw hi sl-bw hi rest+hi k)=bw hi sl-bw hi (r1++r2):=by
    rw[IntKind.wrap_i64]
    omega
   have HM2:=ae hmid
   have HE:=ae (tBytesRead_any y (hi k) w1 hcell)
   have H1:=ae (And.intro hrg1 (And.intro hb1 (And.intro hlt hsb)))
   have HN:=ae (show bw hi (r1++r2)<=bw hi sl from by omega)
   generalize bw hi rest=Sr at hw HM2⊢
   clear hmid hn1 hb1 hcell hky hrg1 hlt hsb hn2 hg1 hs1 hat
   go_wp2_with fail
   refine HE.out.mono ?_
   rintro e w2 ⟨rfl,rfl⟩
   clear HE
   go_wp2_with fail
   go_roundw
   case rel=>exact⟨r1++r2,cnt1,H1.out.1,rfl,H1.out.2.2.2,HN,H1.out.2.1⟩
   case measure=>
    have h1:=H1.out.1.left_eq
    have h2:=HRg.out.left_eq
    have h3:=H1.out.2.2.1
    rw[h1,h2]
    exact h3
theorem cbytesRead_any(cb sm n:Nat)(sl:List (Int×Nat))(hi:Int->Int)(past:Int)(w:World)(hc:w.cell? ⟨cb,21,none⟩= some (.map (some sm)))(hp:w.cell? ⟨cb,23,none⟩= some (.int .i64 past))(hm:MapIs cK Tryz.prog 3 w sm n sl)(hs:∀p∈sl,w.cell? ⟨p.2,1,none⟩= some (.int .i64 (hi p.1)))(hr:∀p∈sl,0<=hi p.1/\hi p.1<=1073741823)(hl:sl.length<=1073741823)(hpr:0<=past/\past<=1152921504606846976):
  Calls Tryz.prog 81 #[.pointer (some ⟨cb,0,none⟩)] w fun e w'=>e=.returned (.int .i64 (past+bw hi sl))/\Below w.heap.size w w':=by
 have h1:0<=bw hi sl:=dy fun p hp=>(hr p hp).1
 have h2:bw hi sl<=1152921504606846976:=by
  have:=sumK_le (B:=1073741823) fun p hp=>(hr p hp).2
  omega
 have HS:=ae (fun W (hW:Below w.heap.size w W)=>csumR_any cb sm n sl hi W (af hc hW) (hm.same (hW.block sm hm.lt)) (fun p hp=>af (hs p hp) hW) hr hl)
 have hw:IntKind.i64.wrap (past+bw hi sl)=past+bw hi sl:=by rw[IntKind.wrap_i64];omega
 generalize bw hi sl=S at HS hw⊢
 clear hc hm hs hr hl hpr h1 h2
 go_enter Tryz.func81,Tryz.ntmps81
 go_wp2_with fail
 go_region_held3 (fun w'=>w'.cell? ⟨cb,23,none⟩= some (.int .i64 past)) (first|assumption|go_keep) (first
  |(go_at_call 70;refine(HS.out _ (aj (Below.refl _ w) 1)).mono ?_;rintro e w1 ⟨rfl,hb1⟩;have k23:=af hp (aw hb1)))
 have HB:=ae (aw hb1)
 clear hb1 HS k23
 go_wp2_with fail
 go_ret
 exact⟨rfl,HB.out⟩
theorem jT(bytes ahead read:Int)(ha:0<=ahead):decide (bytes<cS bytes ahead read)=(decide (bytes<read+ahead/2)&&decide (bytes<1073741823)):=by
 unfold cS
 by_cases h:bytes<read+ahead/2
 ·rw[if_pos h]
  simp only[h,decide_true,Bool.true_and]
  congr 1
  apply propext
  omega
 ·rw[if_neg h]
  simp[h]
theorem follow_is(bytes ahead read:Int)(hb:bytes<=1073741823)(ha:0<=ahead):cS bytes ahead read=if decide (bytes<read+ahead/2)&&decide (bytes<1073741823) then bN read ahead else bytes:=by
 unfold cS bN
 by_cases h:bytes<read+ahead/2
 ·rw[if_pos h]
  by_cases h2:bytes<1073741823
  ·rw[if_pos (by simp[h,h2])]
   split<;>omega
  ·rw[if_neg (by simp[h,h2])]
   omega
 ·rw[if_neg h,if_neg (by simp[h])]
theorem tRaise_at(U:Nat->Prop)(b:Nat)(lv:Value)(g:Cfg)(x:aO)(gaps:Int)(w:World)(h:StrAt U w b lv g.c2 x)(hI:StrInv gaps x)(hp:0<=g.c2/\g.c2<=4096):
  Calls Tryz.prog 77 #[.pointer (some ⟨b,0,none⟩)] w fun e w'=>e=.returned (.bool (fE g x))/\StrAt U w' b lv g.c2 (if fE g x then {x with credit:=bN x.read g.c2} else x)/\Chg (· = b) w w'/\(0<=x.final->Below w.heap.size w w'):=by
 have h1:=hI.len
 have h2:=hI.cred
 have h3:=hI.read
 have c6:w.cell? ⟨b,6,none⟩= some (.bool (decide (0<=x.final))):=h.cell 6
 have c1:w.cell? ⟨b,1,none⟩= some (.int .i64 x.read):=h.cell 1
 by_cases hk:0<=x.final
 ·have hm:fE g x=false:=by
   unfold fE
   rw[decide_eq_false (by omega:¬x.final<0)]
   rfl
  rw[hm]
  simp only[Bool.false_eq_true,if_false]
  rw[show decide (0<=x.final)=true from decide_eq_true hk]at c6
  have HE:Hid (∀n,StrAt U (w.drewN n) b lv g.c2 x/\Chg (· = b) w (w.drewN n)):=fun n=>⟨h.below (aj (Below.refl _ w) n),Chg.of_below (aj (Below.refl _ w) n)⟩
  clear h hI
  go_enter Tryz.func77,Tryz.ntmps77
  go_wp2_with fail
  go_quiet (fail)
  go_wp2_with fail
  go_ret
  exact⟨rfl,(HE.out _).1,(HE.out _).2,fun _=>aj (Below.refl _ w) _⟩
 ·have hm:fE g x=decide (x.credit<cS x.credit g.c2 x.read):=by
   rw[jT _ _ _ hp.1]
   unfold fE
   rw[decide_eq_true (by omega:x.final<0)]
   rfl
  have hcr:(if fE g x then {x with credit:=bN x.read g.c2} else x) = {x with credit:=cS x.credit g.c2 x.read}:=by
   rw[hm,jT _ _ _ hp.1,follow_is _ _ _ h2.2 hp.1]
   split<;>rfl
  rw[hcr,hm]
  rw[show decide (0<=x.final)=false from decide_eq_false hk]at c6
  have HF:Hid (∀W:World,Below w.heap.size w W->Calls Tryz.prog 80 #[.pointer (some ⟨b,3,none⟩),.int .i64 x.read] W fun e w'=>e=.returned (.bool (decide (x.credit<cS x.credit g.c2 x.read)))/\StrAt U w' b lv g.c2 {x with credit:=cS x.credit g.c2 x.read}/\Chg (· = b) w w'):=by
   intro W hW
   have hw:=h.below hW
   refine(kFollow_any x.credit g.c2 x.read b 3 _ 204 W hw.blk rfl rfl (by omega) (by omega)).mono ?_
   rintro e w' ⟨rfl,hw'⟩
   refine⟨rfl,?_⟩
   by_cases hl:x.credit<x.read+g.c2/2
   ·rw[if_pos hl]at hw'
    subst hw'
    obtain⟨vs,hr,hc⟩:=hw.runs
    refine⟨⟨(ak hw.blk 3 _).trans (by simp),vs,hr.setB hw.blk 3 _,hc⟩,(Chg.of_below hW).trans (aF (Below.refl _ _) 3 _)⟩
   ·rw[if_neg hl]at hw'
    subst hw'
    have e:cS x.credit g.c2 x.read=x.credit:=by unfold cS;rw[if_neg hl]
    rw[e]
    exact⟨hw,Chg.of_below hW⟩
  generalize decide (x.credit<cS x.credit g.c2 x.read)=more at HF⊢
  clear h hI hcr hm
  go_enter Tryz.func77,Tryz.ntmps77
  go_wp2_with fail
  go_region_with (first
   |(go_at_call 80;refine(HF.out _ (aj (Below.refl _ w) 1)).mono ?_;rintro e w1 ⟨rfl,hS,hC⟩))
  have HS:=ae (And.intro hS hC)
  clear HF hS hC
  go_wp2_with fail
  go_ret
  exact⟨rfl,HS.out.1,HS.out.2,fun h=>by omega⟩
theorem dRead_any(fi:Int)(rs:Bool)(w:World):
  Calls Tryz.prog 72 #[.agg #[.int .i64 fi,.bool rs]] w fun e w'=>e=.returned (.agg #[.slice none 0 0,.bool (!rs),.bool rs])/\Below w.heap.size w w':=by
 have hb:=ai (ag w (.cells #[.int .i64 fi,.bool rs] 142)) (ag (w.alloc (.cells #[.int .i64 fi,.bool rs] 142)) (.cells #[.slice none 0 0,.bool (!rs),.bool rs] 46))
 have HX:=ae (heap_alloc_new (w.alloc (.cells #[.int .i64 fi,.bool rs] 142)) (.cells #[.slice none 0 0,.bool (!rs),.bool rs] 46))
 go_enter Tryz.func72,Tryz.ntmps72
 go_wp2_with fail
 refine bodyPost_ret (results_cell_row (P:=Tryz.prog) Tryz.results72 _ _ (w.alloc (.cells #[.int .i64 fi,.bool rs] 142)).heap.size 46 #[.slice none 0 0,.bool (!rs),.bool rs] (0,0) _ (by simp) (by simpa using HX.out) Tryz.underlying46 rfl (by kernel_rfl)) rfl ?_
 exact⟨rfl,hb⟩
theorem tDone_any{U:Nat->Prop}(b:Nat)(lv:Value)(piece:Int)(x:aO)(w:World)(h:StrAt U w b lv piece x):
  Calls Tryz.prog 76 #[.pointer (some ⟨b,0,none⟩)] w fun e w'=>e=.returned (.agg #[.int .i64 (max x.final 0),.bool x.reset])/\Below w.heap.size w w':=by
 have hb0:=ag w (.cells #[.int .i64 0,.bool false] 142)
 have hbl:=h.lt
 have h0:=h.below hb0
 have c5:(w.alloc (.cells #[.int .i64 0,.bool false] 142)).cell? ⟨b,5,none⟩= some (.int .i64 (max x.final 0)):=h0.cell 5
 have c7:(w.alloc (.cells #[.int .i64 0,.bool false] 142)).cell? ⟨b,7,none⟩= some (.bool x.reset):=h0.cell 7
 have x0:(w.alloc (.cells #[.int .i64 0,.bool false] 142)).heap[w.heap.size]? =some (.cells #[.int .i64 0,.bool false] 142 (0,0)):=heap_alloc_new w _
 have q0:(w.alloc (.cells #[.int .i64 0,.bool false] 142)).cell? ⟨w.heap.size,0,none⟩= some (.int .i64 0):=by simp
 have q1:(w.alloc (.cells #[.int .i64 0,.bool false] 142)).cell? ⟨w.heap.size,1,none⟩= some (.bool false):=by simp
 have z0:(w.alloc (.cells #[.int .i64 0,.bool false] 142)).frozen? ⟨w.heap.size,0,none⟩= false:=frozen_of_row _ _ 0 _ _ x0
 have z1:(w.alloc (.cells #[.int .i64 0,.bool false] 142)).frozen? ⟨w.heap.size,1,none⟩= false:=frozen_of_row _ _ 1 _ _ x0
 clear h h0 x0 hb0
 go_enter Tryz.func76,Tryz.ntmps76
 go_wp2_with fail
 go_region
 go_wp2_with fail
 refine bodyPost_ret (results_cell_row (P:=Tryz.prog) Tryz.results76 _ _ w.heap.size 142 #[.int .i64 (max x.final 0),.bool x.reset] (0,0) _ rfl (heap_alloc_new w _) Tryz.underlying142 rfl (by kernel_rfl)) rfl ?_
 exact⟨rfl,aj (ag w _) 1⟩
theorem craise_any(cb:Nat)(g:Cfg)(c:aq)(plv:Value)(sm dm:Nat)(past:Int)(w:World)(h:ConBlk w cb g c plv sm dm past)(hl:c.streams.length<=1073741823):
  Calls Tryz.prog 82 #[.pointer (some ⟨cb,0,none⟩)] w fun e w'=>e=.returned (.bool (decide (c.streams.length<1073741823)))/\w'=(if c.streams.length<1073741823 then w.setCell ⟨cb,20,none⟩ (.int .i64 ((c.streams.length+1:Nat):Int)) else w):=by
 have c20:w.cell? ⟨cb,20,none⟩= some (.int .i64 c.streams.length):=h.cell 20
 have z20:=h.free 20
 clear h
 by_cases hm:c.streams.length<1073741823
 ·rw[decide_eq_true hm,if_pos hm]
  have hb:((c.streams.length:Int)==1073741823)=false:=beq_eq_false_iff_ne.2 (by omega)
  have hw:IntKind.i64.wrap ((c.streams.length:Int)+1)=((c.streams.length+1:Nat):Int):=by rw[IntKind.wrap_i64];omega
  generalize c.streams.length=n at *
  go_enter Tryz.func82,Tryz.ntmps82
  go_wp2_with fail
  go_ret
  exact⟨rfl,by simp⟩
 ·rw[decide_eq_false hm,if_neg hm]
  have hb:((c.streams.length:Int)==1073741823)=true:=beq_iff_eq.2 (by omega)
  generalize c.streams.length=n at *
  go_enter Tryz.func82,Tryz.ntmps82
  go_wp2_with fail
  go_ret
  exact⟨rfl,rfl⟩
theorem cread_any(N cb:Nat)(g:Cfg)(c:aq)(a:aD)(w:World)(h:ConAt N w cb g c a)(hi:∀x∈c.streams,StrInv g.c4 x){M:Int}(hok:ConOk M c)(hpr:0<=bf c.streams/\bf c.streams<=1152921504606846976):
  Calls Tryz.prog 81 #[.pointer (some ⟨cb,0,none⟩)] w fun e w'=>e=.returned (.int .i64 (readAll c.streams))/\Below w.heap.size w w':=by
 obtain⟨n,hn,hm⟩:=h.smap
 rw[kT hi h.mp]
 refine cbytesRead_any cb a.sm n a.sl _ (bf c.streams) w (h.blk.cell 21) (h.blk.cell 23) hm (fun p hp=>?_) (fun p hp=>?_) ?_ hpr
 ·obtain⟨_,x,hx,_⟩:=h.mp.str p hp
  have e:atS (·.read) c.streams p.1=x.read:=by simp[atS,hx]
  rw[e]
  exact(h.str p hp x hx).cell 1
 ·obtain⟨_,x,hx,_⟩:=h.mp.str p hp
  have e:atS (·.read) c.streams p.1=x.read:=by simp[atS,hx]
  rw[e]
  have h1:=hi x (List.mem_of_getElem? hx)
  have h3:=h1.len
  have h4:=h1.cred
  have h5:=h1.read
  omega
 ·have h2:=hok.slen
  have h3:=h.mp.len
  omega
theorem dFinal_any(fi:Int)(rs:Bool)(w:World):
  Calls Tryz.prog 132 #[.agg #[.int .i64 fi,.bool rs]] w fun e w'=>e=.returned (.int .i64 fi)/\Below w.heap.size w w':=by
 have hb:=ag w (.cells #[.int .i64 fi,.bool rs] 142)
 go_enter Tryz.func132,Tryz.ntmps132
 go_wp2_with fail
 go_ret
 exact⟨rfl,hb⟩
structure ko(w:World)(cb:Nat)(g:Cfg)(c:aq)(plv:Value)(sm dm:Nat)(past:Int)(n1 n2:Nat)(sl:List (Int×Nat))(dl:List (Int×(Int×Bool)))(e:Ending)(w':World):Prop where
 ret:e=.returned (.tuple #[])
 blk:ConBlk w' cb g c plv sm dm past
 smap:MapIs cK Tryz.prog 3 w' sm n1 sl
 dmap:MapIs ij Tryz.prog 3 w' dm n2 dl
 chg:Chg (fun k=>k=cb\/k=sm\/k=dm) w w'
theorem cfinish_any(cb:Nat)(g:Cfg)(c:aq)(plv:Value)(sm dm:Nat)(past id fi:Int)(rs:Bool)(n1 n2 b:Nat)(sl:List (Int×Nat))(dl:List (Int×(Int×Bool)))(w:World)(h:ConBlk w cb g c plv sm dm past)(hm:MapIs cK Tryz.prog 3 w sm n1 sl)(hd:MapIs ij Tryz.prog 3 w dm n2 dl)(hne:sm≠dm)(hid:0<=id/\id<=1073741823)(hy:atK sl id=some b)(hno:atK dl id=none)(hp:0<=past/\past<=1152921504606846976)(hf:0<=fi/\fi<=1073741823)(hn2:n2<=1125899906842624):
  Calls Tryz.prog 75 #[.pointer (some ⟨cb,0,none⟩),.int .i64 id,.agg #[.int .i64 fi,.bool rs]] w fun e w'=>ko w cb g c plv sm dm (past+fi) n1 (n2+1) (fA sl id) (dl++[(id,(fi,rs))]) e w':=by
 have hb0:=ag w (.cells #[.int .i64 fi,.bool rs] 142)
 have hx0:(w.alloc (.cells #[.int .i64 fi,.bool rs] 142)).heap[w.heap.size]? =some (.cells #[.int .i64 fi,.bool rs] 142 (0,0)):=heap_alloc_new w _
 have h0:=h.below hb0
 have hsl:sm<w.heap.size:=hm.lt
 have hdl:dm<w.heap.size:=hd.lt
 have hcl:cb<w.heap.size:=h.lt
 have hm0:=hm.same (hb0.block sm hsl)
 have hd0:=hd.same (hb0.block dm hdl)
 have c21:(w.alloc (.cells #[.int .i64 fi,.bool rs] 142)).cell? ⟨cb,21,none⟩= some (.map (some sm)):=h0.cell 21
 have hwf:(Lit.int .i64 id).wf=true:=gV (k:=id) (by omega)
 have hcs:cb≠sm:=fun e=>by
  obtain⟨es,ck,q⟩:=hm.is_map
  rw[<-e,h]at q
  cases q
 have hcd:cb≠dm:=fun e=>by
  obtain⟨es,ck,q⟩:=hd.is_map
  rw[<-e,h]at q
  cases q
 have HM:=ae hm0
 have HD:=ae hd0
 have H0:=ae h0
 have HB:=ae hb0
 have HX:=ae hx0
 have HWf:=ae hwf
 have HNo:=ae hno
 clear h hm hd h0 hm0 hd0 hb0 hx0
 go_enter Tryz.func75,Tryz.ntmps75
 go_wp2_with (first
  |(at_delete;refine wpList_mdel (C:=cK) (K:=3) _ rfl (.tmp 9) (.tmp 10) 134 rfl 140 Tryz.underlying3 Tryz.underlying134 sm n1 sl (by kernel_rfl) HM.out id b (by kernel_rfl) HWf.out hy ?_;intro w1 hm1 hg1 hs1))
 have k1:w1.heap[w.heap.size]? =some (.cells #[.int .i64 fi,.bool rs] 142 (0,0)):=(hg1.block w.heap.size (by simp) (fun e=>by injection e with e;omega)).trans HX.out
 have hc1:ConBlk w1 cb g c plv sm dm past:=(hg1.block cb (by simp;omega) (fun e=>by injection e with e;exact hcs e)).trans H0.out
 have hd1:MapIs ij Tryz.prog 3 w1 dm n2 dl:=HD.out.same (hg1.block dm (by simp;omega) (fun e=>by injection e with e;exact hne e.symm))
 have hC1:Chg (· = sm) (w.alloc (.cells #[.int .i64 fi,.bool rs] 142)) w1:=⟨hg1.os,hg1.tape,hg1.output,hg1.size,fun q hq hn=>hg1.block q hq (fun e=>by injection e with e;exact hn e)⟩
 have c22:w1.cell? ⟨cb,22,none⟩= some (.map (some dm)):=hc1.cell 22
 have b0:w1.cell? ⟨w.heap.size,0,none⟩= some (.int .i64 fi):=by simp only[World.cell?,k1];rfl
 have b1:w1.cell? ⟨w.heap.size,1,none⟩= some (.bool rs):=by simp only[World.cell?,k1];rfl
 have hdd:MapIs ij Tryz.prog 3 w1.drew dm n2 dl:=hd1
 obtain⟨w2,hput,hm2,hg2⟩:=run_mput (C:=ij) (e:=142) Tryz.underlying3 Tryz.underlying135 hdd (by unfold maxLen;omega) HWf.out (y:=(fi,rs)) HNo.out
 replace hput:(Instr.mapUpdate 135 (.map (some dm)) (.int .i64 id) (.agg #[.int .i64 fi,.bool rs])).run Tryz.prog w1.drew=.ok () w2:=hput
 have k2:w2.heap[w.heap.size]? =some (.cells #[.int .i64 fi,.bool rs] 142 (0,0)):=(hg2.block w.heap.size ((Array.getElem?_eq_some_iff.1 k1).1) (fun e=>by injection e with e;omega)).trans k1
 have hc2:ConBlk w2 cb g c plv sm dm past:=(hg2.block cb hc1.lt (fun e=>by injection e with e;exact hcd e)).trans hc1
 have hm2':MapIs cK Tryz.prog 3 w2 sm n1 (fA sl id):=hm1.same (hg2.block sm hm1.lt (fun e=>by injection e with e;exact hne e))
 have hC2:Chg (· = dm) w1 w2:=⟨hg2.os,hg2.tape,hg2.output,hg2.size,fun q hq hn=>hg2.block q hq (fun e=>by injection e with e;exact hn e)⟩
 have c23:w2.cell? ⟨cb,23,none⟩= some (.int .i64 past):=hc2.cell 23
 have d0:w2.cell? ⟨w.heap.size,0,none⟩= some (.int .i64 fi):=by simp only[World.cell?,k2];rfl
 have d1:w2.cell? ⟨w.heap.size,1,none⟩= some (.bool rs):=by simp only[World.cell?,k2];rfl
 have hwp:IntKind.i64.wrap (past+fi)=past+fi:=by rw[IntKind.wrap_i64];omega
 have HEnd:Hid (∀W,Below w2.heap.size w2 W->W.cell? ⟨cb,23,none⟩= some (.int .i64 past)/\W.frozen? ⟨cb,23,none⟩= false/\ko w cb g c plv sm dm (past+fi) n1 (n2+1) (fA sl id) (dl++[(id,(fi,rs))]) (.returned (.tuple #[])) (W.setCell ⟨cb,23,none⟩ (.int .i64 (past+fi)))):=by
  intro W hW
  have hcW:=hc2.below hW
  refine⟨hcW.cell 23,hcW.free 23,rfl,(ak hcW 23 _).trans (by simp[jG]),?_,?_,?_⟩
  ·exact(hm2'.same (hW.block sm hm2'.lt)).same (heap_setCell_other _ _ _ _ (Ne.symm hcs))
  ·exact(hm2.same (hW.block dm hm2.lt)).same (heap_setCell_other _ _ _ _ (Ne.symm hcd))
  ·refine(((Chg.of_below HB.out).trans (hC1.mono fun q _ e=>Or.inr (Or.inl e))).trans (hC2.mono fun q _ e=>Or.inr (Or.inr e))).trans ((Chg.of_below hW).trans ((aF (Below.refl _ _) 23 _).mono fun q _ e=>Or.inl e))
 have HPut:=ae hput
 have HDf:Hid (∀W,Calls Tryz.prog 132 #[.agg #[.int .i64 fi,.bool rs]] W fun e w'=>e=.returned (.int .i64 fi)/\Below W.heap.size W w'):=fun W=>dFinal_any fi rs W
 clear hm1 hg1 hs1 k1 hc1 hd1 hC1 hdd hm2 hg2 k2 hc2 hm2' hC2 HM HD H0 HB HX HPut
 go_wp2_with fail
 go_region
 all_goals (
  go_wp2_with fail
  go_region_with (first
   |(go_at_call 132;refine(HDf.out _).mono ?_;rintro e w3 ⟨rfl,hb3⟩;obtain⟨y1,y2,hfo⟩:=HEnd.out w3 (ai (aj (Below.refl _ w2) 1) hb3)))
  all_goals (
   have HFo:=ae hfo
   clear hfo y1 y2 hb3
   go_wp2_with fail
   go_end0
   exact HFo.out))
end Go.Proofs.YthmdjhlhodpbhaaGreatDoor
