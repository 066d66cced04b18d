/- InOrder, 20 -/
import Derived.Test.YthmdjhlhodpbhaaGreatDoorI10
import Derived.Test.YthmdjhlhodpbhaaGreatDoorI11
import Derived.Test.YthmdjhlhodpbhaaGreatDoorI18
import Derived.Test.YthmdjhlhodpbhaaGreatDoorI19
set_option maxHeartbeats 16000000
set_option maxRecDepth 8000
namespace Go.Proofs.YthmdjhlhodpbhaaGreatDoor
open Go.RowKit
theorem info_unit:(Tryz.prog.info? 230).map (fun i=>(i.zero,i.size,i.bytes))=some (some (.agg #[]),0,0):=by kernel_rfl
theorem make_unit(n:Nat)(hn:n<=4611686018427)(u:World):(Instr.makeSlice 232 (.int .i64 (n:Int)) (.int .i64 (n:Int))).run Tryz.prog u=.ok (.slice (some ⟨u.heap.size,0,none⟩) n n) (u.alloc (.cells #[] 230)):=by
 obtain⟨i0,hi0,hz0,hz1,hz2⟩:=info_parts info_unit
 have h:=run_make (P:=Tryz.prog) u 232 230 i0 (.agg #[]) Tryz.underlying232 hi0 hz0 .i64 .i64 (n:Int) (n:Int) (by omega) (Int.le_refl _) (by rw[hz2];omega) (by omega)
 have e:((n:Nat):Int).toNat=n:=by omega
 have e3:madeCells (Value.agg #[]).cells 0=#[]:=Array.eq_empty_of_size_eq_zero (by simp[madeCells])
 rw[e,hz1,Nat.mul_zero,e3]at h
 exact h
theorem copy_unit(d s:Option Addr)(dl dc sl sc:Nat)(ty:TypeId)(W:World):(Builtin.copy_ #[232,232] ty #[.slice d dl dc,.slice s sl sc]).run Tryz.prog W=.ok (goInt (Nat.min sl dl)) W:=by
 obtain⟨i0,hi0,hz0,hz1,hz2⟩:=info_parts info_unit
 have hf:(Builtin.firstCells i0.size (Nat.min sl dl) (.slice s sl sc)).run Tryz.prog W=.ok #[] W:=by
  cases s with
  |none=>exact run_firstCells_none (P:=Tryz.prog) W i0.size _ sl sc
  |some a=>exact run_firstCells_some (P:=Tryz.prog) W i0.size _ a sl sc [] (by rw[hz1];simp) (fun j v h=>by simp at h)
 cases d with
 |none=>simp[Builtin.copy_,run_underlying Tryz.underlying232,Builtin.lenOf,sizeOf,typeInfo,hi0,hf]
 |some a=>simp[Builtin.copy_,run_underlying Tryz.underlying232,Builtin.lenOf,sizeOf,typeInfo,hi0,hf,storeCells]
theorem u_join_any(a:aL)(av tv:Value)(vs:List bm)(M:List aL)(w:World)(ha:∃aa ac,av=.slice aa a.2.length ac)(ha0:0<a.2.length)(hp:Part w tv vs)(hsh:Shape vs M)(hpos:∀r∈M,0<r.2.length)
  (hb:∀r∈a::M,0<=r.1/\aq r<=1099511627776) (hn:vs.length<=1000):
  Calls Tryz.prog 179 #[.agg #[.int .i64 a.1,av],tv] w fun e w'=>∃J n,e=.returned (.agg #[.int .i64 (eh a M).1,.slice (some ⟨J,0,none⟩) n n])/\n=(eh a M).2.length/\w.heap.size<=J/\Below w.heap.size w w':=by
 obtain⟨ta,tc,rfl,hpk⟩:=hp
 obtain⟨aa,ac,rfl⟩:=ha
 have hA:=hb a (by simp)
 have hAb:aq a=a.1+a.2.length:=rfl
 have HX:Hid (∀W,Calls Tryz.prog 176 #[.agg #[.int .i64 a.1,.slice aa a.2.length ac]] W fun e w'=>e=.returned (.int .i64 (a.1+a.2.length))/\Below W.heap.size W w'):=fun W=>eZ a.1 a.2.length ac aa W (by omega) (by omega)
 have HA:Hid (∀W w':World,Below W.heap.size W w'->(W.cell? ⟨w.heap.size,0,none⟩= some (.int .i64 a.1)/\W.cell? ⟨w.heap.size,1,none⟩= some (.slice aa a.2.length ac))->(w'.cell? ⟨w.heap.size,0,none⟩= some (.int .i64 a.1)/\w'.cell? ⟨w.heap.size,1,none⟩= some (.slice aa a.2.length ac))):=
  fun W w' hb h=>⟨ae h.1 hb,ae h.2 hb⟩
 go_enter Tryz.func179,Tryz.ntmps179
 go_wp2_with fail
 go_region_held3 (fun w'=>w'.cell? ⟨w.heap.size,0,none⟩= some (.int .i64 a.1)/\w'.cell? ⟨w.heap.size,1,none⟩= some (.slice aa a.2.length ac)) (first|assumption|go_keep) (first
  |(go_at_call 176;refine(HX.out _).mono ?_;rintro e wq ⟨rfl,hbq⟩;have hSq:=HA.out _ _ hbq (by assumption)))
 have hBq:Below w.heap.size w wq:=ag ((af w _).alloc (by simp) _) (al hbq)
 have hR:wq.heap[w.heap.size+1]? =some (.cells #[.int .i64 0,.slice none 0 0] 279 (0,0)):=by
  rw[hbq.block (w.heap.size+1) (by simp[World.drew])]
  have:=heap_alloc_new (w.alloc (.cells #[.int .i64 a.1,.slice aa a.2.length ac] 279)) (.cells #[.int .i64 0,.slice none 0 0] 279)
  simpa[World.drew] using this
 obtain⟨s0,s1⟩:=hSq
 have hWs:w.heap.size+2<=wq.heap.size:=by have:=hbq.size;simpa[World.drew] using this
 have HBq:=ab hBq
 have HR:=ab hR
 have HS0:=ab s0
 have HS1:=ab s1
 have HK:Hid (∀(k:Nat) (wr:World),k<vs.length->Below wq.heap.size wq wr->∃g o r rv rc,ta=some ⟨g,o,none⟩/\M[k]? =some r/\wr.cell? ⟨g,o+k*2,none⟩= some (.int .i64 r.1)/\wr.cell? ⟨g,o+k*2+1,none⟩= some (.slice rv r.2.length rc)/\0<=r.1/\aq r<=1099511627776/\0<r.2.length):=by
  intro k wr hk hbr
  have hbw:Below w.heap.size w wr:=ag HBq.out hbr
  obtain⟨v,hv⟩:∃v,vs[k]? =some v:=⟨_,List.getElem?_eq_getElem hk⟩
  obtain⟨r,hr⟩:∃r,M[k]? =some r:=⟨_,List.getElem?_eq_getElem (by rw[<-hsh.1];exact hk)⟩
  obtain⟨e1,ao2,cap2,e2,_⟩:=hsh.2 k v r hv hr
  obtain⟨g,o,e3,c1,c2⟩:=hpk k v hv
  have h5:=hb r (by simp[List.mem_of_getElem? hr])
  rw[e2]at c2
  rw[e1]at c1
  exact⟨g,o,r,ao2,cap2,e3,hr,ae c1 hbw,ae c2 hbw,h5.1,h5.2,hpos r (List.mem_of_getElem? hr)⟩
 have HLen:=ab hsh.1
 have HLo:Hid (∀k,0<=loR a (M.take k)/\loR a (M.take k)<=a.1/\aq a<=hiR a (M.take k)/\hiR a (M.take k)<=1099511627776):=by
  intro k
  have h1:=loR_le (M:=M.take k) a
  have h2:=hiR_ge (M:=M.take k) a
  refine⟨?_,h1.1,h2.1,?_⟩
  ·rcases loR_is (M:=M.take k) a with h|⟨q,hq,h⟩
   ·rw[h];exact hA.1
   ·rw[h];exact(hb q (by simp[List.mem_of_mem_take hq])).1
  ·rcases hiR_is (M:=M.take k) a with h|⟨q,hq,h⟩
   ·rw[h];exact hA.2
   ·rw[h];exact(hb q (by simp[List.mem_of_mem_take hq])).2
 clear hpk hsh hpos hb hbq hBq hR s0 s1 HX HA
 go_wp2_with fail
 go_loopw [5,6,18] (fun s5 s6 i wr=>∃k:Nat,k<=vs.length/\i=.int .i64 k/\s5=.int .i64 (loR a (M.take k))/\s6=.int .i64 (hiR a (M.take k))/\Below wq.heap.size wq wr) (fun _ _ i _=>vs.length-(intOf i).toNat)
 case atStart=>exact⟨0,Nat.zero_le _,rfl,rfl,rfl,Below.refl _ _⟩
 case round=>
  obtain⟨k,hk,rfl,rfl,rfl,hbr⟩:=hrel
  have hL:=HLo.out k
  by_cases hkl:k<vs.length
  ·obtain⟨g,o,r,rv,rc,rfl,hr,c1,c2,hr0,hr1,hr2⟩:=HK.out k wr hkl hbr
   have hrb:aq r=r.1+r.2.length:=rfl
   have HX:Hid (∀W,Calls Tryz.prog 176 #[.agg #[.int .i64 r.1,.slice rv r.2.length rc]] W fun e w'=>e=.returned (.int .i64 (r.1+r.2.length))/\Below W.heap.size W w'):=fun W=>eZ r.1 r.2.length rc rv W (by omega) (by omega)
   have HA:Hid (∀W w':World,Below W.heap.size W w'->(W.cell? ⟨wr.heap.size,0,none⟩= some (.int .i64 r.1)/\W.cell? ⟨wr.heap.size,1,none⟩= some (.slice rv r.2.length rc))->(w'.cell? ⟨wr.heap.size,0,none⟩= some (.int .i64 r.1)/\w'.cell? ⟨wr.heap.size,1,none⟩= some (.slice rv r.2.length rc))):=
    fun W w' hb h=>⟨ae h.1 hb,ae h.2 hb⟩
   have HT:Hid (M.take (k+1)=M.take k++[r]):=fM hr
   have HBR:=ab hbr
   clear hbr hr
   generalize hlo:loR a (M.take k)=lo at hL
   generalize hhi:hiR a (M.take k)=hi at hL
   have HLO:=ab hlo
   have HHI:=ab hhi
   clear hlo hhi
   obtain⟨l1,l2,l3,l4⟩:=hL
   go_wp2_with fail
   rcases Int.lt_or_le r.1 lo with hm1|hm1<;>rcases Int.lt_or_le hi (r.1+(r.2.length:Int)) with hm2|hm2
   all_goals go_region_held3 (fun w'=>w'.cell? ⟨wr.heap.size,0,none⟩= some (.int .i64 r.1)/\w'.cell? ⟨wr.heap.size,1,none⟩= some (.slice rv r.2.length rc)) (first|assumption|go_keep) (first
    |(go_at_call 176;refine(HX.out _).mono ?_;rintro e wz ⟨rfl,hbz⟩;have hSz:=HA.out _ _ hbz (by assumption)))
   all_goals
    have hBz:Below wq.heap.size wq wz:=ag HBR.out (ag (af wr _) (al hbz))
    replace hBz:=ab hBz
    clear hbz hSz HX HA
    go_wp2_with fail
    go_roundw
    case rel=>
     refine⟨k+1,by omega,by go_num,congrArg (Value.int .i64) ?_,congrArg (Value.int .i64) ?_,hBz.out⟩
     ·rw[HT.out,loR_snoc,HLO.out]<;>omega
     ·rw[HT.out,hiR_snoc,HHI.out];unfold aq;omega
    case measure=>simp[intOf];omega
  ·obtain rfl:k=vs.length:=by omega
   have hMt:M.take vs.length=M:=List.take_of_length_le (by rw[HLen.out];exact Nat.le_refl _)
   rw[hMt]at hL⊢
   have s0r:=ae HS0.out hbr
   have s1r:=ae HS1.out hbr
   have HBR:=ab hbr
   have hlt:loR a M<hiR a M:=by omega
   have HJ1:Hid ((eh a M).1=loR a M):=rfl
   have HJ2:Hid ((eh a M).2=layR (loR a M) (cz (List.replicate (hiR a M-loR a M).toNat 0) (a.1-loR a M).toNat a.2) M):=rfl
   have HIn:Hid (∀r∈M,loR a M<=r.1/\aq r<=hiR a M):=fun r hr=>⟨(loR_le (M:=M) a).2 r hr,(hiR_ge (M:=M) a).2 r hr⟩
   clear hbr hMt
   generalize loR a M=lo at hL hlt HJ1 HJ2 HIn⊢
   generalize hiR a M=hi at hL hlt HJ2 HIn⊢
   obtain⟨l1,l2,l3,l4⟩:=hL
   obtain⟨n,hn2⟩:∃n:Nat,hi-lo=n:=⟨(hi-lo).toNat,by omega⟩
   have hw1:IntKind.i64.wrap (hi-lo)=(n:Int):=by rw[IntKind.wrap_i64];omega
   have hsz:(hi-lo).toNat=n:=by omega
   have HJl:Hid ((eh a M).2.length=n):=by
    show _=_
    rw[HJ2.out,layR_length,dO]
    ·simp[hsz]
    ·simp only[List.length_replicate];omega
    ·intro q hq
     have h5:=HIn.out q hq
     unfold aq at h5
     rw[dO (by simp only[List.length_replicate];omega)]
     simp only[List.length_replicate]
     omega
   have hmk:=make_unit n (by omega)
   have hcu:=copy_unit
   have s0m:((wr.alloc (.cells #[] 230)).alloc (.cells #[.int .i64 lo,.slice (some ⟨wr.heap.size,0,none⟩) n n] 279)).cell? ⟨w.heap.size,0,none⟩= some (.int .i64 a.1):=ae s0r ((af wr _).alloc (by simp) _)
   have s1m:((wr.alloc (.cells #[] 230)).alloc (.cells #[.int .i64 lo,.slice (some ⟨wr.heap.size,0,none⟩) n n] 279)).cell? ⟨w.heap.size,1,none⟩= some (.slice aa a.2.length ac):=ae s1r ((af wr _).alloc (by simp) _)
   clear s0r s1r
   replace hcu:=ab hcu
   go_wp2_with fail
   have hBW:Below wr.heap.size wr ((wr.alloc (.cells #[] 230)).alloc (.cells #[.int .i64 lo,.slice (some ⟨wr.heap.size,0,none⟩) n n] 279)):=(af wr _).alloc (by simp) _
   have h9:((wr.alloc (.cells #[] 230)).alloc (.cells #[.int .i64 lo,.slice (some ⟨wr.heap.size,0,none⟩) n n] 279)).heap[wr.heap.size+1]? =some (.cells #[.int .i64 lo,.slice (some ⟨wr.heap.size,0,none⟩) n n] 279 (0,0)):=by
    have:=heap_alloc_new (wr.alloc (.cells #[] 230)) (.cells #[.int .i64 lo,.slice (some ⟨wr.heap.size,0,none⟩) n n] 279)
    simpa using this
   generalize (wr.alloc (.cells #[] 230)).alloc (.cells #[.int .i64 lo,.slice (some ⟨wr.heap.size,0,none⟩) n n] 279)=W2 at hBW h9 s0m s1m⊢
   have c91:W2.cell? ⟨wr.heap.size+1,1,none⟩= some (.slice (some ⟨wr.heap.size,0,none⟩) n n):=by simp[World.cell?,h9]
   obtain⟨d,hd⟩:∃d:Nat,a.1-lo=d:=⟨(a.1-lo).toNat,by omega⟩
   have hw2:IntKind.i64.wrap (a.1-lo)=(d:Int):=by rw[IntKind.wrap_i64];omega
   have hw3:IntKind.i64.wrap (d:Int)=(d:Int):=by rw[IntKind.wrap_i64];omega
   have hdn1:(d:Int)<=(n:Int):=by omega
   have hdn2:¬(n=d):=by omega
   have H9:=ab h9
   have HBW:=ab hBW
   clear h9 hBW hmk
   go_region_held3 (fun w'=>w'.cell? ⟨wr.heap.size+1,1,none⟩= some (.slice (some ⟨wr.heap.size,0,none⟩) n n)/\w'.cell? ⟨w.heap.size,0,none⟩= some (.int .i64 a.1)/\w'.cell? ⟨w.heap.size,1,none⟩= some (.slice aa a.2.length ac)) (first|assumption|go_keep) (first
    |(refine ch rfl (.tmp 43) (.tmp 45) 232 232 rfl (.slice (some ⟨wr.heap.size,0,none⟩) (n-d) (n-d)) (.slice aa a.2.length ac) (by kernel_rfl) (by kernel_rfl) (hcu.out _ _ _ _ _ _ _ _) ?_))
   have hb3:Below wq.heap.size wq W2.drew:=aj (ag HBR.out HBW.out) 1
   have h93:W2.drew.heap[wr.heap.size+1]? =some (.cells #[.int .i64 lo,.slice (some ⟨wr.heap.size,0,none⟩) n n] 279 (0,0)):=H9.out
   have hJw:wq.heap.size<=wr.heap.size:=HBR.out.size
   generalize W2.drew=W3 at *
   generalize wr.heap.size=J at *
   have H3:=ab (And.intro hb3 h93)
   clear H9 HBW s0m s1m c91 hb3 h93 HBR
   go_wp2_with fail
   go_loopw [49] (fun i wr=>∃k:Nat,k<=vs.length/\i=.int .i64 k/\Hid (Below wq.heap.size wq wr/\wr.heap[J+1]? =some (.cells #[.int .i64 lo,.slice (some ⟨J,0,none⟩) n n] 279 (0,0)))) (fun i _=>vs.length-(intOf i).toNat)
   case atStart=>exact⟨0,Nat.zero_le _,rfl,H3.out⟩
   case round=>
    obtain⟨k,hk,rfl,hI⟩:=hrel
    obtain⟨hbr,h9r⟩:=hI.out
    have c91:wr.cell? ⟨J+1,1,none⟩= some (.slice (some ⟨J,0,none⟩) n n):=by simp[World.cell?,h9r]
    by_cases hkl:k<vs.length
    ·obtain⟨g,o,r,rv,rc,rfl,hr,c1,c2,hr0,hr1,hr2⟩:=HK.out k wr hkl hbr
     have hin:=HIn.out r (List.mem_of_getElem? hr)
     have hrb:aq r=r.1+r.2.length:=rfl
     obtain⟨d2,hd2⟩:∃d2:Nat,r.1-lo=d2:=⟨(r.1-lo).toNat,by omega⟩
     have hx1:IntKind.i64.wrap (r.1-lo)=(d2:Int):=by rw[IntKind.wrap_i64];omega
     have hx2:IntKind.i64.wrap (d2:Int)=(d2:Int):=by rw[IntKind.wrap_i64];omega
     have hx4:(d2:Int)<=(n:Int):=by omega
     have hx5:¬(n=d2):=by omega
     have hbx:Below wr.heap.size wr (wr.alloc (.cells #[.int .i64 r.1,.slice rv r.2.length rc] 279)):=af wr _
     have h9l:J+1<wr.heap.size:=(Array.getElem?_eq_some_iff.1 h9r).1
     have c91x:(wr.alloc (.cells #[.int .i64 r.1,.slice rv r.2.length rc] 279)).cell? ⟨J+1,1,none⟩= some (.slice (some ⟨J,0,none⟩) n n):=ae c91 hbx
     have H4:Hid (Below wq.heap.size wq (wr.alloc (.cells #[.int .i64 r.1,.slice rv r.2.length rc] 279)).drew/\(wr.alloc (.cells #[.int .i64 r.1,.slice rv r.2.length rc] 279)).drew.heap[J+1]? =some (.cells #[.int .i64 lo,.slice (some ⟨J,0,none⟩) n n] 279 (0,0))):=
      ⟨aj (ag hbr hbx) 1,(hbx.block _ h9l).trans h9r⟩
     clear hI hbr h9r hr hbx
     go_wp2_with fail
     go_region_held3 (fun w'=>w'.cell? ⟨J+1,1,none⟩= some (.slice (some ⟨J,0,none⟩) n n)/\w'.cell? ⟨wr.heap.size,0,none⟩= some (.int .i64 r.1)/\w'.cell? ⟨wr.heap.size,1,none⟩= some (.slice rv r.2.length rc)) (first|assumption|go_keep) (first
      |(refine ch rfl (.tmp 59) (.tmp 61) 232 232 rfl (.slice (some ⟨J,0,none⟩) (n-d2) (n-d2)) (.slice rv r.2.length rc) (by kernel_rfl) (by kernel_rfl) (hcu.out _ _ _ _ _ _ _ _) ?_))
     go_wp2_with fail
     go_roundw
     case rel=>exact⟨k+1,by omega,by go_num,H4.out⟩
     case measure=>simp[intOf];omega
    ·obtain rfl:k=vs.length:=by omega
     have hbw:=ag HBq.out hbr
     have hRr:wr.heap[w.heap.size+1]? =some (.cells #[.int .i64 0,.slice none 0 0] 279 (0,0)):=by rw[hbr.block _ (by omega)];exact HR.out
     have c90:wr.cell? ⟨J+1,0,none⟩= some (.int .i64 lo):=by simp[World.cell?,h9r]
     have r0:wr.cell? ⟨w.heap.size+1,0,none⟩= some (.int .i64 0):=by simp[World.cell?,hRr]
     have r1:wr.cell? ⟨w.heap.size+1,1,none⟩= some (.slice none 0 0):=by simp[World.cell?,hRr]
     have f0:wr.frozen? ⟨w.heap.size+1,0,none⟩= false:=frozen_of_row wr _ _ _ _ hRr
     have f1:wr.frozen? ⟨w.heap.size+1,1,none⟩= false:=frozen_of_row wr _ _ _ _ hRr
     have HF:=ab (And.intro hbw hRr)
     clear hI hbr h9r hbw hRr
     go_wp2_with fail
     obtain⟨hbw,hRr⟩:=HF.out
     have hgF:((wr.setCell ⟨w.heap.size+1,0,none⟩ (.int .i64 lo)).setCell ⟨w.heap.size+1,1,none⟩ (.slice (some ⟨J,0,none⟩) n n)).heap[w.heap.size+1]? =some (.cells #[.int .i64 lo,.slice (some ⟨J,0,none⟩) n n] 279 (0,0)):=
      (ak (ak hRr 0 _) 1 _).trans rfl
     refine bodyPost_ret (results_cell_row (P:=Tryz.prog) Tryz.results179 _ _ (w.heap.size+1) 279 #[.int .i64 lo,.slice (some ⟨J,0,none⟩) n n] (0,0) _ rfl hgF Tryz.underlying279 rfl u_size) rfl ?_
     refine⟨J,n,by rw[HJ1.out],HJl.out.symm,by omega,?_⟩
     refine⟨hbw.os,hbw.tape,hbw.output,(by rw[World.size_setCell,World.size_setCell];exact hbw.size),fun q hq=>?_⟩
     rw[heap_setCell_other _ _ _ _ (show q≠w.heap.size+1 by omega),heap_setCell_other _ _ _ _ (show q≠w.heap.size+1 by omega)]
     exact hbw.block q hq
structure u_RunsAt(w:World)(lv:Value)(vs:List bm)(rl:List aL):Prop where
 own:w.ownsRow 0 279 2 lv vs.length (ay vs)
 sh:Shape vs rl
theorem u_RunsAt.part{w:World}{vs:List bm}{rl:List aL}{ao:Option Addr}{cap:Nat}(h:u_RunsAt w (.slice ao vs.length cap) vs rl){i j:Nat}(hij:i<=j)(hj:j<=vs.length)(tv:Value)(htv:(i=j/\∃ta tc,tv=.slice ta 0 tc)\/∃g,ao=some ⟨g,0,none⟩/\tv=.slice (some ⟨g,i*2,none⟩) (j-i) (cap-i)):
  Part w tv ((vs.drop i).take (j-i)):=by
 have hl:((vs.drop i).take (j-i)).length=j-i:=by simp;omega
 rcases htv with⟨rfl,ta,tc,rfl⟩|⟨g,rfl,rfl⟩
 ·refine⟨ta,tc,by rw[hl,Nat.sub_self],fun k v hv=>?_⟩
  simp at hv
 ·refine⟨_,_,by rw[hl],fun k v hv=>⟨g,i*2,rfl,?_⟩⟩
  have hk:=(List.getElem?_eq_some_iff.1 hv).1
  rw[hl]at hk
  rw[List.getElem?_take_of_lt hk,List.getElem?_drop]at hv
  obtain⟨q1,q2⟩:=eC hv
  have e1:i*2+k*2=(i+k)*2:=by omega
  rw[e1]
  refine⟨?_,?_⟩
  ·rw[h.own.cellAt _ (by omega)];exact q1
  ·rw[h.own.cellAt _ (by omega)];exact q2
structure dR(w:World)(rb off:Nat)(cs:Array Value)(t:TypeId)(lv:Value)(vs:List bm)(rl':List aL)(w':World)(lv':Value)(vs':List bm):Prop where
 blk:w'.heap[rb]? =some (.cells (cs.setIfInBounds off lv') t (0,0))
 runs:u_RunsAt w' lv' vs' rl'
 chg:Chg (fun k=>k=rb\/lv.ownBlock=some k) w w'
 at_:lv'.ownBlock=lv.ownBlock\/∀g,lv'.ownBlock=some g->w.heap.size<=g
theorem u_RunsAt.below{w w':World}{lv:Value}{vs:List bm}{rl:List aL}(h:u_RunsAt w lv vs rl)(hb:Below w.heap.size w w'):u_RunsAt w' lv vs rl:=⟨aD h.own hb,h.sh⟩
theorem u_fill_close{w w2 w3:World}{rb off:Nat}{cs:Array Value}{t:TypeId}{lv lv':Value}{vs:List bm}{rl:List aL}{i j:Nat}{x:bm}{r:aL}{X:Obj}(h:u_RunsAt w lv vs rl)(hblk:w.heap[rb]? =some (.cells cs t (0,0)))(ht1:t≠279)
  (hb2:Below w.heap.size w w2) (hx:x.1=r.1/\∃g n,x.2=.slice (some ⟨g,0,none⟩) r.2.length n/\r.2.length<=n)
  (hown:w3.ownsRow 0 279 2 lv' (vs.take i++x::vs.drop j).length (ay (vs.take i++x::vs.drop j))) (hg:(w2.alloc X).grownBy w3 lv.ownBlock) (hat:lv'.ownBlock=lv.ownBlock\/∀g,lv'.ownBlock=some g->(w2.alloc X).heap.size<=g):
  w3.heap[rb]? =some (.cells cs t (0,0))/\dR w rb off cs t lv vs (rl.take i++r::rl.drop j) (w3.setCell ⟨rb,off,none⟩ lv') lv' (vs.take i++x::vs.drop j):=by
 have hrl:rb<w.heap.size:=(Array.getElem?_eq_some_iff.1 hblk).1
 have hnb:lv.ownBlock≠some rb:=ar h.own hblk (fun e=>ht1 e.symm)
 have hg2:w2.grownBy w3 lv.ownBlock:=bt hg
 have hrb3:w3.heap[rb]? =some (.cells cs t (0,0)):=by rw[hg2.block rb (Nat.lt_of_lt_of_le hrl hb2.size) (Ne.symm hnb),hb2.block rb hrl];exact hblk
 refine⟨hrb3,?_⟩
 have hch:Chg (fun k=>k=rb\/lv.ownBlock=some k) w (w3.setCell ⟨rb,off,none⟩ lv'):=by
  refine⟨hg2.os.trans hb2.os,hg2.tape.trans hb2.tape,hg2.output.trans hb2.output,by rw[World.size_setCell];exact Nat.le_trans hb2.size hg2.size,fun k hk hn=>?_⟩
  rw[heap_setCell_other _ _ _ _ (show k≠rb from fun e=>hn (Or.inl e)),hg2.block k (Nat.lt_of_lt_of_le hk hb2.size) (fun e=>hn (Or.inr e.symm)),hb2.block k hk]
 obtain⟨hx1,g,n,hx2,hx3⟩:=hx
 refine⟨(ak hrb3 off lv').trans rfl,⟨?_,h.sh.put i j ⟨hx1,_,n,hx2,hx3⟩⟩,hch,?_⟩
 ·exact ownsRow_setCell_other hown (ar hown hrb3 (fun e=>ht1 e.symm)) _
 ·rcases hat with h1|h1
  ·exact Or.inl h1
  ·refine Or.inr fun k hk=>?_
   have:=h1 k hk
   simp at this
   have:=hb2.size
   omega
theorem u_Fill_any(first:Int)(items:List Int)(iv lv:Value)(vs:List bm)(rl:List aL)(rb off:Nat)(cs:Array Value)(t:TypeId)(w:World)(hblk:w.heap[rb]? =some (.cells cs t (0,0)))(hcell:cs[off]? =some lv)(ht1:t≠279)(h:u_RunsAt w lv vs rl)(hf:RunsFit rl)
  (hiv:∃ia ic,iv=.slice ia items.length ic) (hi0:items≠[]) (hfar:0<=first/\first+items.length<=1099511627776):
  Calls Tryz.prog 149 #[.pointer (some ⟨rb,off,none⟩),.int .i64 first,iv] w fun e w'=>e=.returned (.tuple #[])/\∃lv' vs',dR w rb off cs t lv vs (dI rl first items) w' lv' vs':=by
 have hil:0<items.length:=List.length_pos_iff.2 hi0
 obtain⟨ia,ic,rfl⟩:=hiv
 have hc0:w.cell? ⟨rb,off,none⟩= some lv:=by simp only[World.cell?,hblk];exact hcell
 have hlen:vs.length=rl.length:=h.sh.1
 have hfew:=hf.few
 have hrlt:=cS hc0
 have hneb:((items.length:Int)==0)=false:=beq_eq_false_iff_ne.2 (by omega)
 have hbx:Below w.heap.size w (w.alloc (.cells #[.int .i64 first,.slice ia items.length ic] 279)):=af w _
 have HT:=ab (u_touching_any vs rl lv (first,items) ia ic rb off (w.alloc (.cells #[.int .i64 first,.slice ia items.length ic] 279)) (ae hc0 hbx) (aD h.own hbx) h.sh hf.wide (by omega) (by simp only;omega))
 have hft:=from_le rl (first,items)
 have HF:Hid (dI rl first items=rl.take (dV rl (first,items))++eh (first,items) ((rl.drop (dV rl (first,items))).take (toR rl (first,items)-dV rl (first,items)))::rl.drop (toR rl (first,items))):=by
  show _=_
  unfold dI
  rw[if_neg hi0]
 generalize dV rl (first,items)=i at HT HF hft
 generalize toR rl (first,items)=j at HT HF hft
 obtain⟨hij,hjl⟩:=hft
 have hjv:j<=vs.length:=by omega
 have hvn:vs.length<=100:=by omega
 replace hlen:=ab hlen
 have HH:=ab h
 have HB:=ab hblk
 clear hblk h
 go_enter Tryz.func149,Tryz.ntmps149
 go_wp2_with fail
 refine HT.out.mono ?_
 rintro e w1 ⟨rfl,hb1⟩
 have hb1':=hb1
 replace hb1:=ag hbx hb1
 have hc1:w1.cell? ⟨rb,off,none⟩= some lv:=ae hc0 hb1
 have q0:w1.cell? ⟨w.heap.size,0,none⟩= some (.int .i64 first):=ae (by simp) hb1'
 have q1:w1.cell? ⟨w.heap.size,1,none⟩= some (.slice ia items.length ic):=ae (by simp) hb1'
 obtain⟨ao,cap,rfl⟩:=aY HH.out.own
 have HJ:Hid (∀(W:World) (tv:Value),Below w.heap.size w W->((i=j/\∃ta tc,tv=.slice ta 0 tc)\/∃g,ao=some ⟨g,0,none⟩/\tv=.slice (some ⟨g,i*2,none⟩) (j-i) (cap-i))->Calls Tryz.prog 179 #[.agg #[.int .i64 first,.slice ia items.length ic],tv] W fun e w'=>∃J n,e=.returned (.agg #[.int .i64 (eh (first,items) ((rl.drop i).take (j-i))).1,.slice (some ⟨J,0,none⟩) n n])/\n=(eh (first,items) ((rl.drop i).take (j-i))).2.length/\W.heap.size<=J/\Below W.heap.size W w'):=by
  intro W tv hW htv
  have hR:=HH.out.below hW
  refine u_join_any (first,items) (.slice ia items.length ic) tv ((vs.drop i).take (j-i)) ((rl.drop i).take (j-i)) W ⟨ia,ic,rfl⟩ hil (hR.part hij (by omega) tv htv) (hR.sh.sub i (j-i)) ?_ ?_ ?_
  ·intro r hr
   exact runsWf_mem hf.wf (List.mem_of_mem_drop (List.mem_of_mem_take hr))
  ·intro r hr
   rcases List.mem_cons.1 hr with rfl|hr
   ·exact hfar
   ·exact hf.far r (List.mem_of_mem_drop (List.mem_of_mem_take hr))
  ·simp;omega
 generalize hjo:eh (first,items) ((rl.drop i).take (j-i))=jr at HJ HF
 have HR:Hid (∀(w2:World) (J n:Nat),Below w.heap.size w w2->Calls Tryz.prog 178 #[.slice ao vs.length cap,.int .i64 i,.int .i64 j,.slice (some ⟨w2.heap.size,0,none⟩) 1 1] (w2.alloc (.cells #[.int .i64 jr.1,.slice (some ⟨J,0,none⟩) n n] 279)) fun e w'=>∃lv' m,e=.returned lv'/\Hid (m=(vs.take i++(jr.1,.slice (some ⟨J,0,none⟩) n n)::vs.drop j).length)/\w'.ownsRow 0 279 2 lv' m (ay (vs.take i++(jr.1,.slice (some ⟨J,0,none⟩) n n)::vs.drop j))/\
   (w2.alloc (.cells #[.int .i64 jr.1,.slice (some ⟨J,0,none⟩) n n] 279)).grownBy w' (Value.slice ao vs.length cap).ownBlock/\(lv'.ownBlock=(Value.slice ao vs.length cap).ownBlock\/∀g,lv'.ownBlock=some g->(w2.alloc (.cells #[.int .i64 jr.1,.slice (some ⟨J,0,none⟩) n n] 279)).heap.size<=g)):=by
  intro w2 J n hw2
  refine(u_Replace_any vs (jr.1,.slice (some ⟨J,0,none⟩) n n) i j w2.heap.size 1 _ _ ((aD HH.out.own hw2).alloc _) (heap_alloc_new w2 _) (fun e=>?_) hij (by omega) (by omega) HH.out.sh.one rfl).mono (fun e w' ⟨lv',h1,h2,h3,h4⟩=>⟨lv',_,h1,rfl,h2,h3,h4⟩)
  have:=((aD HH.out.own hw2).lt _ e).2
  omega
 have HS:Hid (∀W X:World,Below W.heap.size W X->(W.cell? ⟨rb,off,none⟩= some (.slice ao vs.length cap)/\W.cell? ⟨w.heap.size,0,none⟩= some (.int .i64 first)/\W.cell? ⟨w.heap.size,1,none⟩= some (.slice ia items.length ic))->(X.cell? ⟨rb,off,none⟩= some (.slice ao vs.length cap)/\X.cell? ⟨w.heap.size,0,none⟩= some (.int .i64 first)/\X.cell? ⟨w.heap.size,1,none⟩= some (.slice ia items.length ic))):=fun W X hb h=>⟨ae h.1 hb,ae h.2.1 hb,ae h.2.2 hb⟩
 have HS3:Hid (∀(w2 w3:World) (O:Obj),Below w.heap.size w w2->(w2.alloc O).grownBy w3 (Value.slice ao vs.length cap).ownBlock->(w2.cell? ⟨rb,off,none⟩= some (.slice ao vs.length cap)/\w2.cell? ⟨w.heap.size,0,none⟩= some (.int .i64 first)/\w2.cell? ⟨w.heap.size,1,none⟩= some (.slice ia items.length ic))->(w3.cell? ⟨rb,off,none⟩= some (.slice ao vs.length cap)/\w3.cell? ⟨w.heap.size,0,none⟩= some (.int .i64 first)/\w3.cell? ⟨w.heap.size,1,none⟩= some (.slice ia items.length ic))/\w3.frozen? ⟨rb,off,none⟩= false):=by
  intro w2 w3 O hw2 hg h
  have hg2:=bt hg
  have hnb:(Value.slice ao vs.length cap).ownBlock≠some rb:=ar HH.out.own HB.out (fun e=>ht1 e.symm)
  have hnw:(Value.slice ao vs.length cap).ownBlock≠some w.heap.size:=fun e=>by
   have:=(HH.out.own.lt _ e).2
   omega
  have e1:w3.heap[rb]? =w2.heap[rb]?:=hg2.block rb (Nat.lt_of_lt_of_le hrlt hw2.size) (Ne.symm hnb)
  have e2:w3.heap[w.heap.size]? =w2.heap[w.heap.size]?:=hg2.block _ (cS h.2.1) (Ne.symm hnw)
  refine⟨⟨?_,?_,?_⟩,?_⟩
  ·rw[World.cell?_of_block (a:=⟨rb,off,none⟩) e1];exact h.1
  ·rw[World.cell?_of_block (a:=⟨w.heap.size,0,none⟩) e2];exact h.2.1
  ·rw[World.cell?_of_block (a:=⟨w.heap.size,1,none⟩) e2];exact h.2.2
  ·exact frozen_of_row w3 rb off _ _ (e1.trans ((hw2.block rb hrlt).trans HB.out))
 have HBw:Hid (Below w.heap.size w w1.drew):=aj hb1 1
 have HE:Hid (∀(w2 w3:World) (J n m:Nat) (lv':Value),Below w.heap.size w w2->n=jr.2.length->w3.ownsRow 0 279 2 lv' m (ay (vs.take i++(jr.1,.slice (some ⟨J,0,none⟩) n n)::vs.drop j))->Hid (m=(vs.take i++(jr.1,.slice (some ⟨J,0,none⟩) n n)::vs.drop j).length)->
   (w2.alloc (.cells #[.int .i64 jr.1,.slice (some ⟨J,0,none⟩) n n] 279)).grownBy w3 (Value.slice ao vs.length cap).ownBlock->(lv'.ownBlock=(Value.slice ao vs.length cap).ownBlock\/∀g,lv'.ownBlock=some g->(w2.alloc (.cells #[.int .i64 jr.1,.slice (some ⟨J,0,none⟩) n n] 279)).heap.size<=g)->
   ∃vs',dR w rb off cs t (.slice ao vs.length cap) vs (dI rl first items) (w3.setCell ⟨rb,off,none⟩ lv') lv' vs'):=by
  intro w2 w3 J n m lv' hw2 hoJ ho hm hg ha
  rw[hm.out]at ho
  subst hoJ
  rw[HF.out]
  exact⟨_,(u_fill_close (x:=(jr.1,.slice (some ⟨J,0,none⟩) jr.2.length jr.2.length)) (r:=jr) HH.out HB.out ht1 hw2 ⟨rfl,J,_,rfl,Nat.le_refl _⟩ ho hg ha).2⟩
 have hcl:ao≠none->vs.length<=cap:=by
  intro hne
  rcases HH.out.own.2 with⟨e,_⟩|⟨g,c,cur,e,_,_,h1,_⟩
  ·simp only[Value.slice.injEq]at e;exact absurd e.1 hne
  ·simp only[Value.slice.injEq]at e;omega
 have hnz:ao=none->vs.length=0/\cap=0:=by
  intro hne
  rcases HH.out.own.2 with⟨e,h0⟩|⟨g,c,cur,e,_,_,h1,_⟩
  ·simp only[Value.slice.injEq]at e;omega
  ·simp only[Value.slice.injEq]at e;rw[hne]at e;cases e.1
 have hg0:∀A,ao=some A->∃g,A =⟨g,0,none⟩:=by
  intro A hA
  rcases HH.out.own.2 with⟨e,h0⟩|⟨g,c,cur,e,_,_,h1,_⟩
  ·simp only[Value.slice.injEq]at e;rw[hA]at e;cases e.1
  ·simp only[Value.slice.injEq]at e;rw[hA]at e;exact⟨g,Option.some.inj e.1⟩
 have u1:=run_underlying Tryz.underlying129
 have z1:=fu
 have hbij:(i:Int)<=(j:Int):=by omega
 have hmax:cap<=maxLen:=by
  rcases HH.out.own.2 with⟨e,h0⟩|⟨g,c,cur,e,_,_,h1,h2,_⟩
  ·simp only[Value.slice.injEq]at e;unfold maxLen;omega
  ·simp only[Value.slice.injEq]at e;omega
 unfold maxLen at hmax
 clear hbx hc0 hb1' HT hjo
 obtain⟨tv,htv,htc,hsl⟩:∃tv,((i=j/\∃ta tc,tv=.slice ta 0 tc)\/∃g,ao=some ⟨g,0,none⟩/\tv=.slice (some ⟨g,i*2,none⟩) (j-i) (cap-i))/\True/\∀W:World,(Instr.slice 129 (.slice ao vs.length cap) (some (.int .i64 i)) (some (.int .i64 j)) none).run Tryz.prog W=.ok tv W:=by
  cases ao with
  |none=>
   obtain⟨h0,rfl⟩:=hnz rfl
   obtain rfl:j=0:=by omega
   obtain rfl:i=0:=by omega
   refine⟨.slice none 0 0,Or.inl ⟨rfl,none,0,rfl⟩,trivial,fun W=>?_⟩
   rw[h0]
   kernel_rfl
  |some A=>
   obtain⟨g,rfl⟩:=hg0 A rfl
   have hvc:=hcl (by simp)
   have hbj:(j:Int)<=(cap:Int):=by omega
   by_cases hci:cap=i
   ·obtain rfl:j=i:=by omega
    refine⟨.slice (some ⟨g,0,none⟩) 0 0,Or.inl ⟨rfl,_,0,rfl⟩,trivial,fun W=>?_⟩
    rw[run_slice_two W Tryz.underlying129 (fu W) (Nat.le_refl _) (by omega),if_pos hci,Nat.sub_self,hci,Nat.sub_self]
   ·refine⟨.slice (some ⟨g,i*2,none⟩) (j-i) (cap-i),Or.inr ⟨g,rfl,rfl⟩,trivial,fun W=>?_⟩
    rw[run_slice_two W Tryz.underlying129 (fu W) hij (by omega),if_neg hci]
    simp[Addr.add_lit]
 clear hcl hnz hg0 htc
 have HTV:=ab htv
 clear htv
 go_wp2_with fail
 go_region_with (first
  |(go_at_call 179;refine(HJ.out _ tv HBw.out HTV.out).mono ?_;rintro e w2 ⟨J,n,rfl,hoJ,_,hb2⟩;replace hoJ:=ab hoJ;have hS2:=HS.out _ _ hb2 ⟨hc1,q0,q1⟩;obtain⟨hc2,p0,p1⟩:=id hS2;have hc2a:=fun(o:Obj)=>Lib.cell?_alloc_some o hc2)
  |(go_at_call 178;refine(HR.out w2 J n (ag HBw.out hb2)).mono ?_;rintro e w3 ⟨lv',m3,rfl,hm3,ho3,hg3,ha3⟩;obtain⟨la3,lc3,rfl⟩:=aY ho3;have hS3:=HS3.out w2 w3 _ (ag HBw.out hb2) hg3 hS2;obtain⟨⟨hc3,hS3⟩,z3⟩:=hS3;replace ho3:=ab ho3;replace hg3:=ab hg3;replace ha3:=ab ha3))
 all_goals
  have HB2:=ab (HE.out w2 w3 J n m3 _ (ag HBw.out hb2) hoJ.out ho3.out hm3 hg3.out ha3.out)
  clear HE HJ HR HS HS3
  go_wp2_with fail
  go_end0
  exact⟨rfl,_,HB2.out⟩
def fg{α:Type}(C:MCode α)(l:List (Int×α))(k:Int):Value:=match atK l k with
 |some y=>C.V y
 |none=>C.z
theorem run_look_ok{α:Type}{C:MCode α}{P:Program}{K t e:TypeId}(hK:P.underlying K=some (.int .i64))(ht:P.underlying t=some (.map K e))(hz:∀W,(zeroValue e).run P W=.ok C.z W){w:World}{b n:Nat}{l:List (Int×α)}(h:MapIs C P K w b n l){k:Int}(hk:(Lit.int .i64 k).wf=true):
  (Instr.lookup t (.map (some b)) (.int .i64 k) true).run P w=.ok (.tuple #[fg C l k,.bool (atK l k).isSome]) w:=by
 obtain⟨D,hown,ok⟩:=h
 obtain⟨v,ps,hrun,hv⟩:=hown.look_ok (Maps.int_keyed hK) ht (hz w) C.zer (Maps.keyOf_int_mk hK hk)
 rw[ok.has k]at hrun
 have:v=fg C l k:=by
  unfold fg
  cases hy:atK l k with
  |some y=>rw[ok.at_ k y hy]at hv;exact(C.inv hv).1 y rfl
  |none=>
   have h2:=ok.has k
   rw[hy]at h2
   rw[Maps.atKey_of_not_has (by simpa using h2)]at hv
   exact(C.inv hv).2 rfl
 rw[<-this]
 exact hrun
theorem run_look{α:Type}{C:MCode α}{P:Program}{K t e:TypeId}(hK:P.underlying K=some (.int .i64))(ht:P.underlying t=some (.map K e))(hz:∀W,(zeroValue e).run P W=.ok C.z W){w:World}{b n:Nat}{l:List (Int×α)}(h:MapIs C P K w b n l){k:Int}(hk:(Lit.int .i64 k).wf=true):
  (Instr.lookup t (.map (some b)) (.int .i64 k) false).run P w=.ok (fg C l k) w:=by
 obtain⟨D,hown,ok⟩:=h
 obtain⟨v,ps,hrun,hv⟩:=hown.lookup (Maps.int_keyed hK) ht (hz w) C.zer (Maps.keyOf_int_mk hK hk)
 have:v=fg C l k:=by
  unfold fg
  cases hy:atK l k with
  |some y=>rw[ok.at_ k y hy]at hv;exact(C.inv hv).1 y rfl
  |none=>
   have h2:=ok.has k
   rw[hy]at h2
   rw[Maps.atKey_of_not_has (by simpa using h2)]at hv
   exact(C.inv hv).2 rfl
 rw[<-this]
 exact hrun
structure aH where
 plv:Value
 sm:Nat
 dm:Nat
 sl:List (Int×Nat)
 dl:List (Int×(Int×Bool))
 lv:Int->Value
 u:Nat->Prop
def fh(l:List aQ)(id:Int):Option (Int×Bool):=if 0<=id then(l[id.toNat]?).bind fun x=>if x.done then some (x.final,x.reset) else none else none
structure ConAt(N:Nat)(w:World)(cb:Nat)(g:Cfg)(c:au)(a:aH):Prop where
 blk:ConBlk w cb g c a.plv a.sm a.dm (bk c.streams)
 pk:∃vs,u_RunsAt w a.plv vs (cT c.runs)
 smap:∃n,n<=N/\MapIs ej Tryz.prog 3 w a.sm n a.sl
 dmap:∃n,n<=N/\MapIs doneC Tryz.prog 3 w a.dm n a.dl
 mp:MapS g.c2 c.streams a.sl
 str:∀p∈a.sl,∀x,c.streams[p.1.toNat]? =some x->StrAt a.u w p.2 (a.lv p.1) g.c2 x
 don:∀id,atK a.dl id=fh c.streams id
 ne:a.sm≠a.dm
 apart:∀p∈a.sl,∀q∈a.sl,p.1≠q.1->p.2≠q.2/\∀k,(a.lv p.1).ownBlock=some k->(a.lv q.1).ownBlock≠some k
 ul:∀k,a.u k->k<w.heap.size
def UIn(B:Nat)(a a':aH):Prop:=∀k,a'.u k->a.u k\/B<=k
def bg(cb:Nat)(a:aH)(k:Nat):Prop:=k=cb\/a.plv.ownBlock=some k\/k=a.sm\/k=a.dm\/∃p∈a.sl,k=p.2\/(a.lv p.1).ownBlock=some k
theorem ConAt.chg{F:Nat->Prop}{N:Nat}{w w':World}{cb:Nat}{g:Cfg}{c:au}{a:aH}(h:ConAt N w cb g c a)(hc:Chg F w w')(hF:∀k,bg cb a k->¬F k)(h8:∀k cur fr,w.heap[k]? =some (.cells cur 5 fr)->¬F k):ConAt N w' cb g c a:=by
 obtain⟨vs,hvs⟩:=h.pk
 obtain⟨n1,hn1,hm1⟩:=h.smap
 obtain⟨n2,hn2,hm2⟩:=h.dmap
 refine⟨h.blk.chg hc (hF _ (Or.inl rfl)),⟨vs,?_⟩,⟨n1,hn1,hm1.same (hc.block _ hm1.lt (hF _ (Or.inr (Or.inr (Or.inl rfl)))))⟩,⟨n2,hn2,hm2.same (hc.block _ hm2.lt (hF _ (Or.inr (Or.inr (Or.inr (Or.inl rfl))))))⟩,h.mp,fun p hp x hx=>?_,h.don,h.ne,h.apart,fun k hk=>Nat.lt_of_lt_of_le (h.ul k hk) hc.size⟩
 ·exact⟨bW hvs.own hc (fun k hk=>hF k (Or.inr (Or.inl hk))),hvs.sh⟩
 ·exact(h.str p hp x hx).chg hc (hF _ (Or.inr (Or.inr (Or.inr (Or.inr ⟨p,hp,Or.inl rfl⟩))))) (fun k hk=>hF k (Or.inr (Or.inr (Or.inr (Or.inr ⟨p,hp,Or.inr hk⟩))))) h8
theorem ConAt.below{N:Nat}{w w':World}{cb:Nat}{g:Cfg}{c:au}{a:aH}(h:ConAt N w cb g c a)(hb:Below w.heap.size w w'):ConAt N w' cb g c a:=
 h.chg (F:=fun _=>False) (Chg.of_below hb) (fun _ _ h=>h) (fun _ _ _ _ h=>h)
theorem ConAt.mono{N N':Nat}{w:World}{cb:Nat}{g:Cfg}{c:au}{a:aH}(h:ConAt N w cb g c a)(hn:N<=N'):ConAt N' w cb g c a:=by
 obtain⟨n1,hn1,hm1⟩:=h.smap
 obtain⟨n2,hn2,hm2⟩:=h.dmap
 exact⟨h.blk,h.pk,⟨n1,Nat.le_trans hn1 hn,hm1⟩,⟨n2,Nat.le_trans hn2 hn,hm2⟩,h.mp,h.str,h.don,h.ne,h.apart,h.ul⟩
theorem atK_key{α:Type}{l:List (Int×α)}{k:Int}(h:atK l k=none):k∉l.map (·.1):=atK_none.1 h
structure StreamOut(N:Nat)(w:World)(cb:Nat)(g:Cfg)(c:au)(a:aH)(sid:Int)(e:Ending)(w':World)(b:Nat)(a':aH):Prop where
 ret:e=.returned (.pointer (some ⟨b,0,none⟩))
 con:ConAt (N+1) w' cb g c a'
 mem:(sid,b)∈a'.sl
 chg:Chg (fun k=>k=a.sm) w w'
 inn:∀k,bg cb a' k->bg cb a k\/w.heap.size<=k
 sub:∀k,bg cb a k->bg cb a' k
 u:a'.u=a.u
theorem ConAt.made{N:Nat}{w w1 w2:World}{cb:Nat}{g:Cfg}{c:au}{a:aH}{sid:Int}{x:aQ}{b n:Nat}(h:ConAt N w cb g c a)(h0:0<=sid)(hx:c.streams[sid.toNat]? =some x)(hd:x.done=false)(hno:atK a.sl sid=none)(hb:w.heap.size<=b)(hb1:Below w.heap.size w w1)(hs1:StrAt a.u w1 b (.slice none 0 0) g.c2 (aX g.c2))(hn:n<=N)(hm2:MapIs ej Tryz.prog 3 w2 a.sm (n+1) (a.sl++[(sid,b)]))(hg2:w1.grownBy w2 (some a.sm)):
  StreamOut N w cb g c a sid (.returned (.pointer (some ⟨b,0,none⟩))) w2 b {a with sl:=a.sl++[(sid,b)],lv:=fun k=>if k=sid then .slice none 0 0 else a.lv k}:=by
 obtain⟨n1,hn1,hm1⟩:=h.smap
 have hsm:=hm1.lt
 obtain⟨es,ck,hsb⟩:=hm1.is_map
 have hc12:Chg (fun k=>k=a.sm) w1 w2:=⟨hg2.os,hg2.tape,hg2.output,hg2.size,fun k hk hne=>hg2.block k hk (fun e=>by injection e with e;exact hne e)⟩
 have hch:Chg (fun k=>k=a.sm) w w2:=(Chg.of_below hb1).trans hc12
 have hnot:∀k cur e fr,w.heap[k]? =some (.cells cur e fr)->¬k=a.sm:=by
  intro k cur e fr hk e1
  subst e1
  rw[hsb]at hk
  cases hk
 have hkey:=atK_key hno
 have hxn:x=aX g.c2:=h.mp.non sid.toNat x hx hd (by rw[Int.toNat_of_nonneg h0];exact hkey)
 have hsb1:w1.heap[a.sm]? =some (.map es ck):=by rw[hb1.block _ hsm];exact hsb
 have hne:∀p∈a.sl,p.1≠sid:=fun p hp e=>hkey (List.mem_map.2 ⟨p,hp,e⟩)
 obtain⟨n2,hn2,hm2'⟩:=h.dmap
 obtain⟨es2,ck2,hdb⟩:=hm2'.is_map
 obtain⟨vs,hvs⟩:=h.pk
 refine⟨rfl,⟨h.blk.chg hch (hnot _ _ _ _ h.blk),⟨vs,bW hvs.own hch (fun k hk e=>?_),hvs.sh⟩,⟨n+1,by omega,hm2⟩,⟨n2,by omega,?_⟩,?_,?_,h.don,h.ne,?_,fun k hk=>Nat.lt_of_lt_of_le (h.ul k hk) hch.size⟩,by simp,hch,?_,?_,rfl⟩
 ·subst e
  obtain⟨c1,e1⟩:=aO hvs.own hk
  rw[hsb]at e1
  cases e1
 ·exact hm2'.same (hch.block _ hm2'.lt fun e=>h.ne e.symm)
 ·refine⟨?_,fun p hp=>?_,fun i y hy hyd hk=>?_⟩
  ·simp only[List.map_append,List.map_cons,List.map_nil]
   rw[List.nodup_append]
   refine⟨h.mp.nd,by simp,fun k hk q hq e=>hkey ?_⟩
   rw[<-List.mem_singleton.1 hq,<-e]
   exact hk
  ·rcases List.mem_append.1 hp with hp|hp
   ·exact h.mp.str p hp
   ·rw[List.mem_singleton.1 hp]
    exact⟨h0,x,hx,hd⟩
  ·refine h.mp.non i y hy hyd fun hm=>hk ?_
   simp only[List.map_append,List.mem_append]
   exact Or.inl hm
 ·intro p hp y hy
  rcases List.mem_append.1 hp with hp|hp
  ·have h1:=(h.str p hp y hy).below hb1
   simp only[if_neg (hne p hp)]
   refine h1.chg hc12 (fun e=>?_) (fun k hk e=>?_) (fun k cur fr hk e=>?_)
   ·have:=h1.blk;rw[e,hsb1]at this;cases this
   ·obtain⟨vs1,ho1⟩:=h1.own
    subst e
    obtain⟨c1,e1⟩:=aO ho1 hk
    rw[hsb1]at e1
    cases e1
   ·subst e;rw[hsb1]at hk;cases hk
  ·rw[List.mem_singleton.1 hp]at hy⊢
   simp only at hy⊢
   rw[hx]at hy
   simp only[Option.some.injEq]at hy
   subst hy
   simp only[if_true]
   rw[hxn]
   refine hs1.chg hc12 (fun e=>?_) (fun k hk e=>?_) (fun k cur fr hk e=>?_)
   ·have:=hs1.blk;rw[e,hsb1]at this;cases this
   ·simp[Value.ownBlock]at hk
   ·subst e;rw[hsb1]at hk;cases hk
 ·intro p hp q hq hpq
  rcases List.mem_append.1 hp with hp|hp<;>rcases List.mem_append.1 hq with hq|hq
  ·simp only[if_neg (hne p hp),if_neg (hne q hq)]
   exact h.apart p hp q hq hpq
  ·rw[List.mem_singleton.1 hq]
   obtain⟨hp0,y,hy,_⟩:=h.mp.str p hp
   have:=(h.str p hp y hy).lt
   refine⟨by simp only;omega,fun k hk=>?_⟩
   simp[Value.ownBlock]
  ·rw[List.mem_singleton.1 hp]
   obtain⟨hp0,y,hy,_⟩:=h.mp.str q hq
   have:=(h.str q hq y hy).lt
   refine⟨by simp only;omega,fun k hk=>?_⟩
   simp[Value.ownBlock]at hk
  ·rw[List.mem_singleton.1 hp,List.mem_singleton.1 hq]at hpq
   exact absurd rfl hpq
 ·rintro k (e|e|e|e|⟨p,hp,e⟩)
  ·exact Or.inl (Or.inl e)
  ·exact Or.inl (Or.inr (Or.inl e))
  ·exact Or.inl (Or.inr (Or.inr (Or.inl e)))
  ·exact Or.inl (Or.inr (Or.inr (Or.inr (Or.inl e))))
  ·rcases List.mem_append.1 hp with hp|hp
   ·simp only[if_neg (hne p hp)]at e
    exact Or.inl (Or.inr (Or.inr (Or.inr (Or.inr ⟨p,hp,e⟩))))
   ·rw[List.mem_singleton.1 hp]at e
    simp only[if_true]at e
    rcases e with e|e
    ·exact Or.inr (by rw[e];exact hb)
    ·simp[Value.ownBlock]at e
 ·rintro k (e|e|e|e|⟨p,hp,e⟩)
  ·exact Or.inl e
  ·exact Or.inr (Or.inl e)
  ·exact Or.inr (Or.inr (Or.inl e))
  ·exact Or.inr (Or.inr (Or.inr (Or.inl e)))
  ·refine Or.inr (Or.inr (Or.inr (Or.inr ⟨p,by simp[hp],?_⟩)))
   simp only[if_neg (hne p hp)]
   exact e
theorem cstream_any(N cb:Nat)(g:Cfg)(c:au)(a:aH)(sid:Int)(x:aQ)(w:World)(h:ConAt N w cb g c a)(hN:N<1125899906842624)(h0:0<=sid/\sid<=1073741823)(hx:c.streams[sid.toNat]? =some x)(hd:x.done=false):
  Calls Tryz.prog 73 #[.pointer (some ⟨cb,0,none⟩),.int .i64 sid] w fun e w'=>∃b a',StreamOut N w cb g c a sid e w' b a':=by
 obtain⟨n,hn,hm⟩:=h.smap
 have hwf:(Lit.int .i64 sid).wf=true:=wf_key (by omega)
 have hlook:=run_look (C:=ej) (e:=140) Tryz.underlying3 Tryz.underlying134 (fun W=>by kernel_rfl) hm hwf
 have c21:w.cell? ⟨cb,21,none⟩= some (.map (some a.sm)):=h.blk.cell 21
 have c2:w.cell? ⟨cb,2,none⟩= some (.int .i64 g.c2):=h.blk.cell 2
 cases hy:atK a.sl sid with
 |some b=>
  have hv:fg ej a.sl sid=.pointer (some ⟨b,0,none⟩):=by unfold fg;rw[hy];rfl
  rw[hv]at hlook
  have HE:Hid (StreamOut N w cb g c a sid (.returned (.pointer (some ⟨b,0,none⟩))) w b a):=⟨rfl,h.mono (Nat.le_succ _),mem_atK hy,Chg.refl _ _,fun k hk=>Or.inl hk,fun k hk=>hk,rfl⟩
  clear h hm hv hy hx hd
  go_enter Tryz.func73,Tryz.ntmps73
  go_wp2_with fail
  go_ret
  exact⟨b,a,HE.out⟩
 |none=>
  have hv:fg ej a.sl sid=.pointer none:=by unfold fg;rw[hy];rfl
  rw[hv]at hlook
  have HT:=ab (tNew_any g.c2 w)
  have HM:=ab hm
  have HH:=ab h
  have HY:=ab hy
  have HX:=ab hx
  clear h hm hv hy hx
  go_enter Tryz.func73,Tryz.ntmps73
  go_wp2_with fail
  refine HT.out.mono ?_
  rintro e w1 ⟨b,hb,rfl,hs1,hb1⟩
  have d21:=ae c21 hb1
  have HS1:=ab hs1
  have HB1:=ab hb1
  clear hs1 hb1 HT c21 c2 hlook
  go_wp2_with (first
   |(at_mapUpdate;refine wpList_mput (C:=ej) _ rfl _ _ _ 134 rfl 140 Tryz.underlying3 Tryz.underlying134 a.sm n a.sl rfl (HM.out.same (HB1.out.block a.sm HM.out.lt)) (by unfold maxLen;omega) sid b rfl rfl hwf HY.out ?_;intro w2 hm2 hg2 hs2))
  have HE:=ab (HH.out.made h0.1 HX.out hd HY.out hb HB1.out (HS1.out _) hn hm2 hg2)
  clear hm2 hg2
  go_ret
  exact⟨b,_,HE.out⟩
end Go.Proofs.YthmdjhlhodpbhaaGreatDoor
