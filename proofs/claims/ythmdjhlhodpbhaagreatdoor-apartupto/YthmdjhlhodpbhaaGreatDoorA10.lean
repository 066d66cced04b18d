/- Apart, 10 -/
import Derived.Lib.SliceRun
import Derived.Test.YthmdjhlhodpbhaaGreatDoorA09
set_option maxHeartbeats 16000000
set_option maxRecDepth 8000
namespace Go.Proofs.YthmdjhlhodpbhaaGreatDoor
open Go.RowKit
theorem vm(l:List Int)(o:Nat)(c:List Int):ar (U8 l) o (U8 c)=U8 (cC l o c):=by
 unfold ar cC U8
 simp
theorem p7{w:World}{e:TypeId}{ao:Option Addr}{n cap:Nat}{cs:List Value}(h:Ro w e (.slice ao n cap) n cs)(hn:0<n):∃g o,ao=some ⟨g,o,none⟩/\∀j v,cs[j]? =some v->w.cell? ⟨g,o+j,none⟩= some v:=by
 obtain⟨ao',cap',e1,hp,_⟩:=h
 simp only[Value.slice.injEq]at e1
 obtain⟨rfl,_,rfl⟩:=e1
 obtain⟨b,off,cur,fr,e2,hb,hcs⟩:=hp hn
 refine⟨b,off,e2,fun j v hj=>?_⟩
 rw[<-hj,<-hcs j (lLt hj)]
 simp[World.cell?,hb]
theorem vJ{w:World}{ao:Option Addr}{n cap:Nat}{cs:List Value}(h:Rx w (.slice ao n cap) n cs)(hn:0<n):∃g o,ao=some ⟨g,o,none⟩/\∀j v,cs[j]? =some v->w.cell? ⟨g,o+j,none⟩= some v:=by
 obtain⟨ao',cap',e1,hp,_⟩:=h
 simp only[Value.slice.injEq]at e1
 obtain⟨rfl,_,rfl⟩:=e1
 obtain⟨b,off,cur,t,fr,e2,hb,hcs⟩:=hp hn
 refine⟨b,off,e2,fun j v hj=>?_⟩
 rw[<-hj,<-hcs j (lLt hj)]
 simp[World.cell?,hb]
theorem x_size1:(Tryz.prog.info? 5).map (·.size)=some 1:=by kernel_rfl
theorem made_u8(n:Nat):madeCells #[.int .u8 0] n=(List.replicate n (Value.int .u8 0)).toArray:=by
 apply Array.ext
 ·simp[madeCells]
 ·intro i h1 h2
  simp[madeCells,Nat.mod_one]
theorem make_u8(n:Nat)(hn:n<=4611686018427)(u:World):(Instr.makeSlice 44 (.int .i64 (n:Int)) (.int .i64 (n:Int))).run Tryz.prog u =
  .ok (.slice (some ⟨u.heap.size,0,none⟩) n n) (u.alloc (.cells (U8 (List.replicate n 0)).toArray 5)):=by
 obtain⟨i0,hi0,hz0,hz1,hz2⟩:=info_parts gn
 have h:=run_make (P:=Tryz.prog) u 44 5 i0 (.int .u8 0) Tryz.underlying44 hi0 hz0 .i64 .i64 (n:Int) (n:Int) (by omega) (Int.le_refl _) (by rw[hz2];omega) (by omega)
 have e:((n:Nat):Int).toNat=n:=by omega
 have e2:(Value.int .u8 0).cells=#[.int .u8 0]:=rfl
 rw[e,hz1,e2,Nat.mul_one,made_u8]at h
 rw[h]
 simp[U8]
theorem x_join_any(a:aO)(av tv:Value)(vs:List bn)(M:List aO)(w:World)(ha:Rx w av a.2.length (U8 a.2))(ha0:0<a.2.length)(hp:Part w tv vs)(hsh:Shape vs M)(hro:∀(i:Nat) v r,vs[i]? =some v->M[i]? =some r->Ro w 5 v.2 r.2.length (U8 r.2))(hpos:∀r∈M,0<r.2.length)
  (hb:∀r∈a::M,0<=r.1/\au r<=1099511627776) (hn:vs.length<=1000):
  Calls Tryz.prog 240 #[.agg #[.int .i64 a.1,av],tv] w fun e w'=>∃J n,e=.returned (.agg #[.int .i64 (ew a M).1,.slice (some ⟨J,0,none⟩) n n])/\w'.ownsRow w.heap.size 5 1 (.slice (some ⟨J,0,none⟩) n n) n (U8 (ew a M).2)/\Below w.heap.size w w':=by
 obtain⟨ta,tc,rfl,hpk⟩:=hp
 obtain⟨aa,ac,rfl,hac,_⟩:=id ha
 have hA:=hb a (by simp)
 have hAb:au a=a.1+a.2.length:=rfl
 have HX:Hid (∀W,Calls Tryz.prog 197 #[.agg #[.int .i64 a.1,.slice aa a.2.length ac]] W fun e w'=>e=.returned (.int .i64 (a.1+a.2.length))/\Below W.heap.size W w'):=fun W=>fj a.1 a.2.length ac aa W (by omega) (by omega)
 have HA:Hid (∀W w':World,Below W.heap.size W w'->(W.cell? ⟨w.heap.size,0,none⟩= some (.int .i64 a.1)/\W.cell? ⟨w.heap.size,1,none⟩= some (.slice aa a.2.length ac))->(w'.cell? ⟨w.heap.size,0,none⟩= some (.int .i64 a.1)/\w'.cell? ⟨w.heap.size,1,none⟩= some (.slice aa a.2.length ac))):=
  fun W w' hb h=>⟨ae h.1 hb,ae h.2 hb⟩
 go_enter Tryz.func240,Tryz.ntmps240
 go_wp2_with fail
 go_region_held3 (fun w'=>w'.cell? ⟨w.heap.size,0,none⟩= some (.int .i64 a.1)/\w'.cell? ⟨w.heap.size,1,none⟩= some (.slice aa a.2.length ac)) (first|assumption|go_keep) (first
  |(go_at_call 197;refine(HX.out _).mono ?_;rintro e wq ⟨rfl,hbq⟩;have hSq:=HA.out _ _ hbq (by assumption)))
 have hBq:Below w.heap.size w wq:=ai ((ag w _).alloc (by simp) _) (aq hbq)
 have hR:wq.heap[w.heap.size+1]? =some (.cells #[.int .i64 0,.slice none 0 0] 259 (0,0)):=by
  rw[hbq.block (w.heap.size+1) (by simp[World.drew])]
  have:=heap_alloc_new (w.alloc (.cells #[.int .i64 a.1,.slice aa a.2.length ac] 259)) (.cells #[.int .i64 0,.slice none 0 0] 259)
  simpa[World.drew] using this
 obtain⟨s0,s1⟩:=hSq
 have hWs:w.heap.size+2<=wq.heap.size:=by have:=hbq.size;simpa[World.drew] using this
 have HBq:=ab hBq
 have HR:=ab hR
 have HS0:=ab s0
 have HS1:=ab s1
 have HK:Hid (∀(k:Nat) (wr:World),k<vs.length->Below wq.heap.size wq wr->∃g o r rv rc,ta=some ⟨g,o,none⟩/\M[k]? =some r/\wr.cell? ⟨g,o+k*2,none⟩= some (.int .i64 r.1)/\wr.cell? ⟨g,o+k*2+1,none⟩= some (.slice rv r.2.length rc)/\Ro wr 5 (.slice rv r.2.length rc) r.2.length (U8 r.2)/\0<=r.1/\au r<=1099511627776/\0<r.2.length):=by
  intro k wr hk hbr
  have hbw:Below w.heap.size w wr:=ai HBq.out hbr
  obtain⟨v,hv⟩:∃v,vs[k]? =some v:=⟨_,lGe hk⟩
  obtain⟨r,hr⟩:∃r,M[k]? =some r:=⟨_,lGe (by rw[<-hsh.1];exact hk)⟩
  obtain⟨e1,ao2,cap2,e2,_⟩:=hsh.2 k v r hv hr
  obtain⟨g,o,e3,c1,c2⟩:=hpk k v hv
  have h4:=hro k v r hv hr
  have h5:=hb r (by simp[lMm hr])
  rw[e2]at h4 c2
  rw[e1]at c1
  exact⟨g,o,r,ao2,cap2,e3,hr,ae c1 hbw,ae c2 hbw,h4.below hbw,h5.1,h5.2,hpos r (lMm hr)⟩
 have HAr:=ab (ha.below hBq)
 have HLen:=ab hsh.1
 have HLo:Hid (∀k,0<=loR a (M.take k)/\loR a (M.take k)<=a.1/\au a<=hiR a (M.take k)/\hiR a (M.take k)<=1099511627776):=by
  intro k
  have h1:=nE (M:=M.take k) a
  have h2:=nz (M:=M.take k) a
  refine⟨?_,h1.1,h2.1,?_⟩
  ·rcases tj (M:=M.take k) a with h|⟨q,hq,h⟩
   ·rw[h];exact hA.1
   ·rw[h];exact(hb q (by simp[List.mem_of_mem_take hq])).1
  ·rcases sZ (M:=M.take k) a with h|⟨q,hq,h⟩
   ·rw[h];exact hA.2
   ·rw[h];exact(hb q (by simp[List.mem_of_mem_take hq])).2
 clear hpk hsh hro hpos hb ha hbq hBq hR s0 s1 HX HA hac
 go_wp2_with fail
 go_loopw [5,6,18] (fun s5 s6 i wr=>∃k:Nat,k<=vs.length/\i=.int .i64 k/\s5=.int .i64 (loR a (M.take k))/\s6=.int .i64 (hiR a (M.take k))/\Below wq.heap.size wq wr) (fun _ _ i _=>vs.length-(intOf i).toNat)
 case atStart=>exact⟨0,Nat.zero_le _,rfl,rfl,rfl,Below.refl _ _⟩
 case round=>
  obtain⟨k,hk,rfl,rfl,rfl,hbr⟩:=hrel
  have hL:=HLo.out k
  by_cases hkl:k<vs.length
  ·obtain⟨g,o,r,rv,rc,rfl,hr,c1,c2,hRo,hr0,hr1,hr2⟩:=HK.out k wr hkl hbr
   have hrb:au r=r.1+r.2.length:=rfl
   have HX:Hid (∀W,Calls Tryz.prog 197 #[.agg #[.int .i64 r.1,.slice rv r.2.length rc]] W fun e w'=>e=.returned (.int .i64 (r.1+r.2.length))/\Below W.heap.size W w'):=fun W=>fj r.1 r.2.length rc rv W (by omega) (by omega)
   have HA:Hid (∀W w':World,Below W.heap.size W w'->(W.cell? ⟨wr.heap.size,0,none⟩= some (.int .i64 r.1)/\W.cell? ⟨wr.heap.size,1,none⟩= some (.slice rv r.2.length rc))->(w'.cell? ⟨wr.heap.size,0,none⟩= some (.int .i64 r.1)/\w'.cell? ⟨wr.heap.size,1,none⟩= some (.slice rv r.2.length rc))):=
    fun W w' hb h=>⟨ae h.1 hb,ae h.2 hb⟩
   have HT:Hid (M.take (k+1)=M.take k++[r]):=fP hr
   have HBR:=ab hbr
   clear hbr hr hRo
   generalize hlo:loR a (M.take k)=lo at hL
   generalize hhi:hiR a (M.take k)=hi at hL
   have HLO:=ab hlo
   have HHI:=ab hhi
   clear hlo hhi
   obtain⟨l1,l2,l3,l4⟩:=hL
   go_wp2_with fail
   rcases Int.lt_or_le r.1 lo with hm1|hm1<;>rcases Int.lt_or_le hi (r.1+(r.2.length:Int)) with hm2|hm2
   all_goals go_region_held3 (fun w'=>w'.cell? ⟨wr.heap.size,0,none⟩= some (.int .i64 r.1)/\w'.cell? ⟨wr.heap.size,1,none⟩= some (.slice rv r.2.length rc)) (first|assumption|go_keep) (first
    |(go_at_call 197;refine(HX.out _).mono ?_;rintro e wz ⟨rfl,hbz⟩;have hSz:=HA.out _ _ hbz (by assumption)))
   all_goals
    have hBz:Below wq.heap.size wq wz:=ai HBR.out (ai (ag wr _) (aq hbz))
    replace hBz:=ab hBz
    clear hbz hSz HX HA
    go_wp2_with fail
    go_roundw
    case rel=>
     refine⟨k+1,by omega,by go_num,congrArg (Value.int .i64) ?_,congrArg (Value.int .i64) ?_,hBz.out⟩
     ·rw[HT.out,vg,HLO.out]<;>omega
     ·rw[HT.out,uX,HHI.out];unfold au;omega
    case measure=>simp[intOf];omega
  ·obtain rfl:k=vs.length:=by omega
   have hMt:M.take vs.length=M:=List.take_of_length_le (by rw[HLen.out];exact Nat.le_refl _)
   rw[hMt]at hL⊢
   have s0r:=ae HS0.out hbr
   have s1r:=ae HS1.out hbr
   have HBR:=ab hbr
   obtain⟨i0,hi0,hz0,hz1,hz2⟩:=info_parts gn
   have hlt:loR a M<hiR a M:=by omega
   have HJ1:Hid ((ew a M).1=loR a M):=rfl
   have HJ2:Hid ((ew a M).2=jA (loR a M) (cC (List.replicate (hiR a M-loR a M).toNat 0) (a.1-loR a M).toNat a.2) M):=rfl
   have HIn:Hid (∀r∈M,loR a M<=r.1/\au r<=hiR a M):=fun r hr=>⟨(nE (M:=M) a).2 r hr,(nz (M:=M) a).2 r hr⟩
   clear hbr hMt
   generalize loR a M=lo at hL hlt HJ1 HJ2 HIn⊢
   generalize hiR a M=hi at hL hlt HJ2 HIn⊢
   obtain⟨l1,l2,l3,l4⟩:=hL
   obtain⟨n,hn2⟩:∃n:Nat,hi-lo=n:=⟨(hi-lo).toNat,by omega⟩
   have hw1:IntKind.i64.wrap (hi-lo)=(n:Int):=by rw[IntKind.wrap_i64];omega
   have hsz:(hi-lo).toNat=n:=by omega
   rw[hsz]at HJ2
   have hmk:=make_u8 n (by omega)
   obtain⟨Z,hZ⟩:∃Z,Z=(U8 (List.replicate n 0)).toArray:=⟨_,rfl⟩
   rw[<-hZ]at hmk
   have hZs:Z.size=n:=by rw[hZ];simp[U8]
   replace hZ:=ab hZ
   have s0m:((wr.alloc (.cells Z 5)).alloc (.cells #[.int .i64 lo,.slice (some ⟨wr.heap.size,0,none⟩) n n] 259)).cell? ⟨w.heap.size,0,none⟩= some (.int .i64 a.1):=ae s0r ((ag wr _).alloc (by simp) _)
   have s1m:((wr.alloc (.cells Z 5)).alloc (.cells #[.int .i64 lo,.slice (some ⟨wr.heap.size,0,none⟩) n n] 259)).cell? ⟨w.heap.size,1,none⟩= some (.slice aa a.2.length ac):=ae s1r ((ag wr _).alloc (by simp) _)
   clear s0r s1r hi0 hz0 hz1 hz2
   go_wp2_with fail
   have hBW:Below wr.heap.size wr ((wr.alloc (.cells Z 5)).alloc (.cells #[.int .i64 lo,.slice (some ⟨wr.heap.size,0,none⟩) n n] 259)):=(ag wr _).alloc (by simp) _
   have hJb:((wr.alloc (.cells Z 5)).alloc (.cells #[.int .i64 lo,.slice (some ⟨wr.heap.size,0,none⟩) n n] 259)).heap[wr.heap.size]? =some (.cells Z 5 (0,0)):=by
    rw[Below.heap_alloc _ _ _ (by simp)];exact heap_alloc_new wr _
   have h9:((wr.alloc (.cells Z 5)).alloc (.cells #[.int .i64 lo,.slice (some ⟨wr.heap.size,0,none⟩) n n] 259)).heap[wr.heap.size+1]? =some (.cells #[.int .i64 lo,.slice (some ⟨wr.heap.size,0,none⟩) n n] 259 (0,0)):=by
    have:=heap_alloc_new (wr.alloc (.cells Z 5)) (.cells #[.int .i64 lo,.slice (some ⟨wr.heap.size,0,none⟩) n n] 259)
    simpa using this
   generalize (wr.alloc (.cells Z 5)).alloc (.cells #[.int .i64 lo,.slice (some ⟨wr.heap.size,0,none⟩) n n] 259)=W2 at hBW hJb h9 s0m s1m⊢
   have c91:W2.cell? ⟨wr.heap.size+1,1,none⟩= some (.slice (some ⟨wr.heap.size,0,none⟩) n n):=by simp[World.cell?,h9]
   obtain⟨d,hd⟩:∃d:Nat,a.1-lo=d:=⟨(a.1-lo).toNat,by omega⟩
   have hw2:IntKind.i64.wrap (a.1-lo)=(d:Int):=by rw[IntKind.wrap_i64];omega
   have hw3:IntKind.i64.wrap (d:Int)=(d:Int):=by rw[IntKind.wrap_i64];omega
   have hdn:d+a.2.length<=n:=by omega
   have hdn1:(d:Int)<=(n:Int):=by omega
   have hdn2:¬(n=d):=by omega
   have HAr2:=ab ((HAr.out.below HBR.out).below hBW)
   have H9:=ab h9
   have HJb:=ab hJb
   have HBW:=ab hBW
   clear h9 hJb hBW hmk
   have HC1:Hid (∀(W:World) (ty:TypeId),W.heap=W2.heap->(Builtin.copy_ #[44,44] ty #[.slice (some ⟨wr.heap.size,d,none⟩) (n-d) (n-d),.slice aa a.2.length ac]).run Tryz.prog W
     = .ok (goInt a.2.length) (W.setRow wr.heap.size (U8 (cC (List.replicate n 0) d a.2)).toArray)):=by
    intro W ty hW
    obtain⟨g,o,e,hcell⟩:=vJ HAr2.out ha0
    subst e
    have e2:Nat.min a.2.length (n-d)=a.2.length:=by simp only[Nat.min_def];split<;>omega
    have h2:=bB W 44 44 ty 5 wr.heap.size d (n-d) (n-d) ⟨g,o,none⟩ a.2.length ac Z 5 (U8 a.2) 1 Tryz.underlying44 x_size1 (by rw[hW];exact HJb.out) (by rw[e2,bP,Nat.mul_one]) (fun j v hj=>by
     rw[Addr.add_lit,<-hcell j v hj]
     simp only[World.cell?,hW]) (by rw[bP,hZs];exact hdn) (gW a.2)
    rw[e2,hZ.out,show(U8 (List.replicate n 0)).toArray.toList=U8 (List.replicate n 0) from rfl,vm]at h2
    exact h2
   have HS3:Hid (∀(m X:World) (R:Array Value),m.heap=W2.heap->m.setRow wr.heap.size R=X->X.cell? ⟨wr.heap.size+1,1,none⟩= some (.slice (some ⟨wr.heap.size,0,none⟩) n n)/\X.cell? ⟨w.heap.size,0,none⟩= some (.int .i64 a.1)/\X.cell? ⟨w.heap.size,1,none⟩= some (.slice aa a.2.length ac)):=by
    intro m X R hm hX
    subst hX
    have key:∀q i,q≠wr.heap.size->(m.setRow wr.heap.size R).cell? ⟨q,i,none⟩= W2.cell? ⟨q,i,none⟩:=fun q i hq=>by
     simp only[World.cell?,setRow_other m wr.heap.size q R hq,hm]
    have hq:=HBR.out.size
    exact⟨by rw[key _ _ (by omega)];exact c91,by rw[key _ _ (by omega)];exact s0m,by rw[key _ _ (by omega)];exact s1m⟩
   go_region_held3 (fun w'=>w'.cell? ⟨wr.heap.size+1,1,none⟩= some (.slice (some ⟨wr.heap.size,0,none⟩) n n)/\w'.cell? ⟨w.heap.size,0,none⟩= some (.int .i64 a.1)/\w'.cell? ⟨w.heap.size,1,none⟩= some (.slice aa a.2.length ac)) (first|assumption|go_keep) (first
    |(refine cq rfl (.tmp 43) (.tmp 45) 44 44 rfl (.slice (some ⟨wr.heap.size,d,none⟩) (n-d) (n-d)) (.slice aa a.2.length ac) (by kernel_rfl) (by kernel_rfl) (HC1.out _ _ rfl) ?_;generalize hW3:World.setRow _ wr.heap.size _=W3;have hS3:=HS3.out _ _ _ (by rfl) hW3;replace hW3:=ab hW3))
   have hb3:Below wq.heap.size wq W3:=by
    rw[<-hW3.out]
    have h1:=ai HBR.out HBW.out
    refine⟨h1.os,h1.tape,h1.output,(by simp only[World.setRow,Array.size_modify];exact h1.size),fun k hk=>?_⟩
    rw[setRow_other _ _ _ _ (by have:=HBR.out.size;omega)]
    exact h1.block k hk
   have hJ3:W3.heap[wr.heap.size]? =some (.cells (U8 (jA lo (cC (List.replicate n 0) d a.2) (M.take 0))).toArray 5 (0,0)):=by
    rw[<-hW3.out]
    exact setRow_heap _ _ Z _ _ _ HJb.out
   have h93:W3.heap[wr.heap.size+1]? =some (.cells #[.int .i64 lo,.slice (some ⟨wr.heap.size,0,none⟩) n n] 259 (0,0)):=by
    rw[<-hW3.out,setRow_other _ _ _ _ (by omega)]
    exact H9.out
   have hL0:(cC (List.replicate n 0) d a.2).length=n:=by rw[dP (by simp;omega)];simp
   have hdl:(a.1-lo).toNat=d:=by omega
   rw[hdl]at HJ2
   have hJw:wq.heap.size<=wr.heap.size:=HBR.out.size
   generalize cC (List.replicate n 0) d a.2=L0 at HJ2 hJ3 hL0
   generalize wr.heap.size=J at *
   have H3:=ab (And.intro hb3 (And.intro hJ3 h93))
   clear hS3 HS3 hW3 HC1 H9 HJb HBW HAr2 HAr s0m s1m c91 hb3 hJ3 h93 hZ hZs HBR
   go_wp2_with fail
   go_loopw [49] (fun i wr=>∃k:Nat,k<=vs.length/\i=.int .i64 k/\Hid (Below wq.heap.size wq wr/\wr.heap[J]? =some (.cells (U8 (jA lo L0 (M.take k))).toArray 5 (0,0))/\wr.heap[J+1]? =some (.cells #[.int .i64 lo,.slice (some ⟨J,0,none⟩) n n] 259 (0,0)))) (fun i _=>vs.length-(intOf i).toNat)
   case atStart=>exact⟨0,Nat.zero_le _,rfl,H3.out⟩
   case round=>
    obtain⟨k,hk,rfl,hI⟩:=hrel
    obtain⟨hbr,hJr,h9r⟩:=hI.out
    have c91:wr.cell? ⟨J+1,1,none⟩= some (.slice (some ⟨J,0,none⟩) n n):=by simp[World.cell?,h9r]
    have HLk:Hid (∀k,(jA lo L0 (M.take k)).length=n):=by
     intro k
     rw[kN (fun q hq=>?_),hL0]
     have h5:=HIn.out q (List.mem_of_mem_take hq)
     unfold au at h5
     rw[hL0]
     omega
    by_cases hkl:k<vs.length
    ·obtain⟨g,o,r,rv,rc,rfl,hr,c1,c2,hRo,hr0,hr1,hr2⟩:=HK.out k wr hkl hbr
     have hin:=HIn.out r (lMm hr)
     have hrb:au r=r.1+r.2.length:=rfl
     obtain⟨d2,hd2⟩:∃d2:Nat,r.1-lo=d2:=⟨(r.1-lo).toNat,by omega⟩
     have hx1:IntKind.i64.wrap (r.1-lo)=(d2:Int):=by rw[IntKind.wrap_i64];omega
     have hx2:IntKind.i64.wrap (d2:Int)=(d2:Int):=by rw[IntKind.wrap_i64];omega
     have hx3:d2+r.2.length<=n:=by omega
     have hx4:(d2:Int)<=(n:Int):=by omega
     have hx5:¬(n=d2):=by omega
     have hlen:=HLk.out k
     have HT:Hid (jA lo L0 (M.take (k+1))=cC (jA lo L0 (M.take k)) d2 r.2):=by
      show _=_
      rw[fP hr,layR_snoc,hd2]
      rfl
     generalize jA lo L0 (M.take k)=Lk at hlen HT hJr
     have hbx:Below wr.heap.size wr (wr.alloc (.cells #[.int .i64 r.1,.slice rv r.2.length rc] 259)):=ag wr _
     have hJl:J<wr.heap.size:=(aLt hJr)
     have h9l:J+1<wr.heap.size:=(aLt h9r)
     have c91x:(wr.alloc (.cells #[.int .i64 r.1,.slice rv r.2.length rc] 259)).cell? ⟨J+1,1,none⟩= some (.slice (some ⟨J,0,none⟩) n n):=ae c91 hbx
     have HC2:Hid (∀(W:World) (ty:TypeId),W.heap=(wr.alloc (.cells #[.int .i64 r.1,.slice rv r.2.length rc] 259)).heap->(Builtin.copy_ #[44,44] ty #[.slice (some ⟨J,d2,none⟩) (n-d2) (n-d2),.slice rv r.2.length rc]).run Tryz.prog W
       = .ok (goInt r.2.length) (W.setRow J (U8 (cC Lk d2 r.2)).toArray)):=by
      intro W ty hW
      obtain⟨g',o',e,hcell⟩:=p7 (hRo.below hbx) hr2
      subst e
      have e2:Nat.min r.2.length (n-d2)=r.2.length:=by simp only[Nat.min_def];split<;>omega
      have h2:=bB W 44 44 ty 5 J d2 (n-d2) (n-d2) ⟨g',o',none⟩ r.2.length rc (U8 Lk).toArray 5 (U8 r.2) 1 Tryz.underlying44 x_size1 (by rw[hW,Below.heap_alloc _ _ _ hJl];exact hJr) (by rw[e2,bP,Nat.mul_one]) (fun j v hj=>by
       rw[Addr.add_lit,<-hcell j v hj]
       simp only[World.cell?,hW]) (by rw[bP,List.size_toArray,bP,hlen];exact hx3) (gW r.2)
      rw[e2,show(U8 Lk).toArray.toList=U8 Lk from rfl,vm]at h2
      exact h2
     have HS4:Hid (∀(m X:World) (R:Array Value),m.heap=(wr.alloc (.cells #[.int .i64 r.1,.slice rv r.2.length rc] 259)).heap->m.setRow J R=X->X.cell? ⟨J+1,1,none⟩= some (.slice (some ⟨J,0,none⟩) n n)/\X.cell? ⟨wr.heap.size,0,none⟩= some (.int .i64 r.1)/\X.cell? ⟨wr.heap.size,1,none⟩= some (.slice rv r.2.length rc)):=by
      intro m X R hm hX
      subst hX
      have key:∀q i,q≠J->(m.setRow J R).cell? ⟨q,i,none⟩=(wr.alloc (.cells #[.int .i64 r.1,.slice rv r.2.length rc] 259)).cell? ⟨q,i,none⟩:=fun q i hq=>by
       simp only[World.cell?,setRow_other m J q R hq,hm]
      exact⟨by rw[key _ _ (by omega)];exact c91x,by rw[key _ _ (by omega)];simp,by rw[key _ _ (by omega)];simp⟩
     have HB4:Hid (∀(m X:World),Below wr.heap.size wr m->m.setRow J (U8 (cC Lk d2 r.2)).toArray=X->Below wq.heap.size wq X/\X.heap[J]? =some (.cells (U8 (jA lo L0 (M.take (k+1)))).toArray 5 (0,0))/\X.heap[J+1]? =some (.cells #[.int .i64 lo,.slice (some ⟨J,0,none⟩) n n] 259 (0,0))):=by
      intro m X hm hX
      subst hX
      have h1:=ai hbr hm
      refine⟨⟨h1.os,h1.tape,h1.output,(by simp only[World.setRow,Array.size_modify];exact h1.size),fun q hq=>?_⟩,?_,?_⟩
      ·rw[setRow_other _ _ _ _ (by omega)];exact h1.block q hq
      ·rw[HT.out];exact setRow_heap _ _ (U8 Lk).toArray _ _ _ (by rw[hm.block J hJl];exact hJr)
      ·rw[setRow_other _ _ _ _ (by omega),hm.block (J+1) h9l];exact h9r
     clear hI hbr hJr h9r hr hRo
     go_wp2_with fail
     go_region_held3 (fun w'=>w'.cell? ⟨J+1,1,none⟩= some (.slice (some ⟨J,0,none⟩) n n)/\w'.cell? ⟨wr.heap.size,0,none⟩= some (.int .i64 r.1)/\w'.cell? ⟨wr.heap.size,1,none⟩= some (.slice rv r.2.length rc)) (first|assumption|go_keep) (first
      |(refine cq rfl (.tmp 59) (.tmp 61) 44 44 rfl (.slice (some ⟨J,d2,none⟩) (n-d2) (n-d2)) (.slice rv r.2.length rc) (by kernel_rfl) (by kernel_rfl) (HC2.out _ _ rfl) ?_;generalize hW4:World.setRow _ J _=W4;have hS4:=HS4.out _ _ _ (by rfl) hW4;replace hW4:=ab hW4))
     have H4:=ab (HB4.out _ _ (ak hbx 1) hW4.out)
     clear hS4 HS4 HC2 HB4 hW4 hbx c91x
     go_wp2_with fail
     go_roundw
     case rel=>exact⟨k+1,by omega,by go_num,H4.out⟩
     case measure=>simp[intOf];omega
    ·obtain rfl:k=vs.length:=by omega
     have hMt:M.take vs.length=M:=List.take_of_length_le (by rw[HLen.out];exact Nat.le_refl _)
     have hlen:=HLk.out vs.length
     rw[hMt]at hJr hlen
     have hbw:=ai HBq.out hbr
     have hRr:wr.heap[w.heap.size+1]? =some (.cells #[.int .i64 0,.slice none 0 0] 259 (0,0)):=by rw[hbr.block _ (by omega)];exact HR.out
     have c90:wr.cell? ⟨J+1,0,none⟩= some (.int .i64 lo):=by simp[World.cell?,h9r]
     have r0:wr.cell? ⟨w.heap.size+1,0,none⟩= some (.int .i64 0):=by simp[World.cell?,hRr]
     have r1:wr.cell? ⟨w.heap.size+1,1,none⟩= some (.slice none 0 0):=by simp[World.cell?,hRr]
     have f0:wr.frozen? ⟨w.heap.size+1,0,none⟩= false:=frozen_of_row wr _ _ _ _ hRr
     have f1:wr.frozen? ⟨w.heap.size+1,1,none⟩= false:=frozen_of_row wr _ _ _ _ hRr
     have HF:=ab (And.intro hbw (And.intro hJr hRr))
     clear hI hbr hJr h9r hbw hRr
     go_wp2_with fail
     obtain⟨hbw,hJr,hRr⟩:=HF.out
     have hgF:((wr.setCell ⟨w.heap.size+1,0,none⟩ (.int .i64 lo)).setCell ⟨w.heap.size+1,1,none⟩ (.slice (some ⟨J,0,none⟩) n n)).heap[w.heap.size+1]? =some (.cells #[.int .i64 lo,.slice (some ⟨J,0,none⟩) n n] 259 (0,0)):=
      (al (al hRr 0 _) 1 _).trans rfl
     refine bodyPost_ret (results_cell_row (P:=Tryz.prog) Tryz.results240 _ _ (w.heap.size+1) 259 #[.int .i64 lo,.slice (some ⟨J,0,none⟩) n n] (0,0) _ rfl hgF Tryz.underlying259 rfl mg) rfl ?_
     refine⟨J,n,by rw[HJ1.out],?_,?_⟩
     ·refine⟨by rw[HJ2.out,bP,hlen,Nat.mul_one],.inr ⟨J,n,(U8 (jA lo L0 M)).toArray,rfl,by omega,?_,Nat.le_refl _,by unfold maxLen;omega,by rw[List.size_toArray,bP,hlen,Nat.mul_one],?_⟩⟩
      ·rw[heap_setCell_other _ _ _ _ (show J≠w.heap.size+1 by omega),heap_setCell_other _ _ _ _ (show J≠w.heap.size+1 by omega)];exact hJr
      ·rw[HJ2.out]
       exact List.take_of_length_le (by rw[bP,hlen];omega)
     ·refine⟨hbw.os,hbw.tape,hbw.output,(by rw[World.size_setCell,World.size_setCell];exact hbw.size),fun q hq=>?_⟩
      rw[heap_setCell_other _ _ _ _ (show q≠w.heap.size+1 by omega),heap_setCell_other _ _ _ _ (show q≠w.heap.size+1 by omega)]
      exact hbw.block q hq
structure x_RunsAt(w:World)(lv:Value)(vs:List bn)(rl:List aO):Prop where
 own:w.ownsRow 0 259 2 lv vs.length (aC vs)
 sh:Shape vs rl
 ro:∀(i:Nat) v r,vs[i]? =some v->rl[i]? =some r->Ro w 5 v.2 r.2.length (U8 r.2)
structure RunsFit(rl:List aO):Prop where
 wf:cY rl
 few:rl.length<=100
 far:∀r∈rl,0<=r.1/\au r<=1099511627776
theorem RunsFit.wide{rl:List aO}(h:RunsFit rl):∀r∈rl,-4611686018427387904<=r.1/\r.1<=4611686018427387904/\r.2.length<=4611686018427387:=by
 intro r hr
 have:=h.far r hr
 unfold au at this
 omega
theorem Shape.one{vs:List bn}{rl:List aO}(h:Shape vs rl):∀r∈vs,r.2.oneCell'=true:=by
 intro v hv
 obtain⟨i,hi,rfl⟩:=List.getElem_of_mem hv
 obtain⟨_,ao,cap,e,_⟩:=h.2 i vs[i] (rl[i]'(by rw[<-h.1];exact hi)) (lGe hi) (lGe _)
 rw[e]
 rfl
theorem x_RunsAt.part{w:World}{vs:List bn}{rl:List aO}{ao:Option Addr}{cap:Nat}(h:x_RunsAt w (.slice ao vs.length cap) vs rl){i j:Nat}(hij:i<=j)(hj:j<=vs.length)(tv:Value)(htv:(i=j/\∃ta tc,tv=.slice ta 0 tc)\/∃g,ao=some ⟨g,0,none⟩/\tv=.slice (some ⟨g,i*2,none⟩) (j-i) (cap-i)):
  Part w tv ((vs.drop i).take (j-i)):=by
 have hl:((vs.drop i).take (j-i)).length=j-i:=by simp;omega
 rcases htv with⟨rfl,ta,tc,rfl⟩|⟨g,rfl,rfl⟩
 ·refine⟨ta,tc,by rw[hl,Nat.sub_self],fun k v hv=>?_⟩
  simp at hv
 ·refine⟨_,_,by rw[hl],fun k v hv=>⟨g,i*2,rfl,?_⟩⟩
  have hk:=(lLt hv)
  rw[hl]at hk
  rw[List.getElem?_take_of_lt hk,List.getElem?_drop]at hv
  obtain⟨q1,q2⟩:=eH hv
  have e1:i*2+k*2=(i+k)*2:=by omega
  rw[e1]
  refine⟨?_,?_⟩
  ·rw[h.own.cellAt _ (by omega)];exact q1
  ·rw[h.own.cellAt _ (by omega)];exact q2
theorem Shape.sub{vs:List bn}{rl:List aO}(h:Shape vs rl)(i m:Nat):Shape ((vs.drop i).take m) ((rl.drop i).take m):=by
 refine⟨by simp[h.1],fun k v r hv hr=>?_⟩
 have hk:=(lLt hv)
 have hk2:k<m:=by simp at hk;omega
 rw[List.getElem?_take_of_lt hk2,List.getElem?_drop]at hv hr
 exact h.2 (i+k) v r hv hr
theorem x_RunsAt.sub_ro{w:World}{lv:Value}{vs:List bn}{rl:List aO}(h:x_RunsAt w lv vs rl)(i m:Nat):∀(k:Nat) v r,((vs.drop i).take m)[k]? =some v->((rl.drop i).take m)[k]? =some r->Ro w 5 v.2 r.2.length (U8 r.2):=by
 intro k v r hv hr
 have hk:=(lLt hv)
 have hk2:k<m:=by simp at hk;omega
 rw[List.getElem?_take_of_lt hk2,List.getElem?_drop]at hv hr
 exact h.ro (i+k) v r hv hr
theorem Shape.put{vs:List bn}{rl:List aO}(h:Shape vs rl)(i j:Nat){x:bn}{r:aO}(hx:x.1=r.1/\∃ao cap,x.2=.slice ao r.2.length cap/\r.2.length<=cap):Shape (vs.take i++x::vs.drop j) (rl.take i++r::rl.drop j):=by
 have hl:(vs.take i).length=(rl.take i).length:=by simp[h.1]
 refine⟨by simp[h.1],fun k v q hv hq=>?_⟩
 rcases Nat.lt_trichotomy k (vs.take i).length with hk|hk|hk
 ·rw[List.getElem?_append_left hk]at hv
  rw[List.getElem?_append_left (by rw[<-hl];exact hk)]at hq
  have hki:k<i:=by simp at hk;omega
  rw[List.getElem?_take_of_lt hki]at hv hq
  exact h.2 k v q hv hq
 ·rw[List.getElem?_append_right (by omega),show k-(vs.take i).length=0 from by omega]at hv
  rw[List.getElem?_append_right (by omega),show k-(rl.take i).length=0 from by omega]at hq
  simp at hv hq
  subst hv hq
  exact hx
 ·obtain⟨m,hm⟩:∃m,k-(vs.take i).length=m+1:=⟨k-(vs.take i).length-1,by omega⟩
  rw[List.getElem?_append_right (by omega),hm,List.getElem?_cons_succ,List.getElem?_drop]at hv
  rw[List.getElem?_append_right (by omega),<-hl,hm,List.getElem?_cons_succ,List.getElem?_drop]at hq
  exact h.2 (j+m) v q hv hq
theorem x_put_ro{w:World}{vs:List bn}{rl:List aO}(hl0:vs.length=rl.length)(h:∀(i:Nat) v r,vs[i]? =some v->rl[i]? =some r->Ro w 5 v.2 r.2.length (U8 r.2))(i j:Nat){x:bn}{r:aO}(hx:Ro w 5 x.2 r.2.length (U8 r.2)):∀(k:Nat) v q,(vs.take i++x::vs.drop j)[k]? =some v->(rl.take i++r::rl.drop j)[k]? =some q->Ro w 5 v.2 q.2.length (U8 q.2):=by
 have hl:(vs.take i).length=(rl.take i).length:=by simp[hl0]
 intro k v q hv hq
 rcases Nat.lt_trichotomy k (vs.take i).length with hk|hk|hk
 ·rw[List.getElem?_append_left hk]at hv
  rw[List.getElem?_append_left (by rw[<-hl];exact hk)]at hq
  have hki:k<i:=by simp at hk;omega
  rw[List.getElem?_take_of_lt hki]at hv hq
  exact h k v q hv hq
 ·rw[List.getElem?_append_right (by omega),show k-(vs.take i).length=0 from by omega]at hv
  rw[List.getElem?_append_right (by omega),show k-(rl.take i).length=0 from by omega]at hq
  simp at hv hq
  subst hv hq
  exact hx
 ·obtain⟨m,hm⟩:∃m,k-(vs.take i).length=m+1:=⟨k-(vs.take i).length-1,by omega⟩
  rw[List.getElem?_append_right (by omega),hm,List.getElem?_cons_succ,List.getElem?_drop]at hv
  rw[List.getElem?_append_right (by omega),<-hl,hm,List.getElem?_cons_succ,List.getElem?_drop]at hq
  exact h (j+m) v q hv hq
theorem from_le(rl:List aO)(a:aO):dX rl a<=toR rl a/\toR rl a<=rl.length:=by
 unfold toR
 have h1:dX rl a<=rl.length:=(List.takeWhile_sublist _).length_le
 have h2:=(List.takeWhile_sublist (fun q:aO=>decide (q.1<=au a)) (l:=rl.drop (dX rl a))).length_le
 rw[List.length_drop]at h2
 omega
theorem rF(w:World)(a b:Nat):(w.drewN a).drewN b=w.drewN (a+b):=by simp[World.drewN,Nat.add_assoc]
theorem wm(l r:List Int)(b1 o1 c1 b2 o2 c2:Nat)(w:World)(hl:l.length=r.length)(hm:l.length<=4611686018427387)(h1:∀(j:Nat) u,(U8 l)[j]? =some u->w.cell? ⟨b1,o1+j,none⟩= some u)(h2:∀(j:Nat) u,(U8 r)[j]? =some u->w.cell? ⟨b2,o2+j,none⟩= some u):
  Calls Tryz.prog 237 #[.slice (some ⟨b1,o1,none⟩) l.length c1,.slice (some ⟨b2,o2,none⟩) l.length c2] w fun e w'=>e=.returned (.bool (decide (l=r)))/\∃q,w'=w.drewN q:=by
 have H1:=ab h1
 have H2:=ab h2
 have HL:=ab hl
 clear h1 h2 hl
 obtain⟨n,hn⟩:∃n,n=l.length:=⟨_,rfl⟩
 rw[<-hn]at hm⊢
 have HN:=ab hn
 clear hn
 go_enter Tryz.func237,Tryz.ntmps237
 go_wp2_with fail
 go_loopw [13] (fun i wr=>∃k q:Nat,k<=n/\i=.int .i64 k/\wr=w.drewN q/\Hid (l.take k=r.take k)) (fun i _=>n-(intOf i).toNat)
 case atStart=>exact⟨0,0,Nat.zero_le _,rfl,rfl,rfl⟩
 case round=>
  obtain⟨k,q,hk,rfl,rfl,hT⟩:=hrel
  by_cases hkn:k<n
  ·obtain⟨x,hx⟩:∃x,l[k]? =some x:=⟨_,lGe (by rw[<-HN.out];exact hkn)⟩
   obtain⟨y,hy⟩:∃y,r[k]? =some y:=⟨_,lGe (by rw[<-HL.out,<-HN.out];exact hkn)⟩
   have hki:(k:Int)<(n:Int):=by omega
   have cx:w.cell? ⟨b1,o1+k,none⟩= some (.int .u8 x):=H1.out k _ (by simp[U8,hx])
   have cy:w.cell? ⟨b2,o2+k,none⟩= some (.int .u8 y):=H2.out k _ (by simp[U8,hy])
   have HX:=ab hx
   have HY:=ab hy
   clear hx hy
   cases hxy:(x != y)
   ·have hxy':x=y:=by simpa using hxy
    go_wp2_with fail
    go_quiet (fail)
    go_wp2_with fail
    go_roundw
    case rel=>exact⟨k+1,q+nq,by omega,by go_num,(by first|rfl|exact rF w q nq),by show _=_;rw[fP HX.out,fP HY.out,hT.out,hxy']⟩
    case measure=>simp[intOf];omega
   ·have hne:x≠y:=by simpa using hxy
    go_wp2_with fail
    go_quiet (fail)
    go_wp2_with fail
    go_ret
    refine⟨?_,q+nq,by first|rfl|exact rF w q nq⟩
    have:decide (l=r)=false:=by
     simp only[decide_eq_false_iff_not]
     intro e
     rw[e]at HX
     exact hne (Option.some.inj (HX.out.symm.trans HY.out))
    rw[this]
    rfl
  ·obtain rfl:k=n:=by omega
   have he:decide (l=r)=true:=by
    have:=hT.out
    rw[List.take_of_length_le (by rw[HN.out];exact Nat.le_refl _),List.take_of_length_le (by rw[HN.out,HL.out];exact Nat.le_refl _)]at this
    simpa using this
   replace he:=ab he
   go_wp2_with fail
   go_ret
   exact⟨by rw[he.out];rfl,q,rfl⟩
theorem oS(l:List Int)(b o c:Nat)(w:World)(hm:l.length<=1099511627776)(h1:∀(j:Nat) u,(U8 l)[j]? =some u->w.cell? ⟨b,o+j,none⟩= some u)(hl0:0<l.length):
  Calls Tryz.prog 167 #[.slice (some ⟨b,o,none⟩) l.length c] w fun e w'=>∃v,e=.returned v/\w'.ownsRow w.heap.size 5 1 v l.length (U8 l)/\Below w.heap.size w w':=by
 obtain⟨i0,hi,hz0,hz1,hz2⟩:=info_parts gn
 have hne:=Lib.run_eql_slice_nil (P:=Tryz.prog) w 44 5 (some ⟨b,o,none⟩) l.length c 0 0 Tryz.underlying44
 have H1:=ab h1
 have HO:Hid ((w.alloc (.cells #[] 5)).ownsRow w.heap.size 5 1 (.slice (some ⟨w.heap.size,0,none⟩) 0 0) 0 []):=by
  exact⟨rfl,.inr ⟨w.heap.size,0,#[],rfl,Nat.le_refl _,heap_alloc_new w _,Nat.le_refl _,Nat.zero_le _,rfl,rfl⟩⟩
 clear h1
 go_enter Tryz.func167,Tryz.ntmps167
 go_wp2_with (at_builtin;refine wpList_append_own _ rfl _ _ 44 rfl w.heap.size 5 i0 (.int .u8 0) 1 1 Tryz.underlying44 hi hz0 hz1 hz2 rfl (by decide) (.slice (some ⟨w.heap.size,0,none⟩) 0 0) 0 [] rfl HO.out ⟨b,o,none⟩ l.length c (U8 l) rfl (by rw[bP,Nat.mul_one]) (fun j u hj=>by rw[Addr.add_lit];exact ae (H1.out j u hj) (ag w _)) (gW l) (by unfold maxLen;omega) (by omega) (by simp) ?_;intro v' w' ho hg _;refine Hid.out ?_)
 refine ab ?_
 have hb:Below w.heap.size w w':=(ag w _).grown hg (by simp) (fun g hgg=>by simp[Value.ownBlock]at hgg;omega)
 rw[List.nil_append,Nat.zero_add]at ho
 obtain⟨va,vc,rfl⟩:=aH ho
 have HH:=ab (And.intro ho hb)
 clear ho hg hb HO
 go_wp2_with fail
 go_ret
 exact⟨_,rfl,HH.out.1,HH.out.2⟩
theorem wg(vs:List bn)(ao:Option Addr)(cap rb off:Nat)(w:World)(hc:w.cell? ⟨rb,off,none⟩= some (.slice ao vs.length cap)):
  Calls Tryz.prog 236 #[.pointer (some ⟨rb,off,none⟩)] w fun e w'=>e=.returned (.int .i64 vs.length)/\w=w':=by
 go_enter Tryz.func236,Tryz.ntmps236
 go_wp2
 go_ret
 exact⟨rfl,rfl⟩
theorem vW(vs:List bn)(ao:Option Addr)(cap rb off:Nat)(w:World)(hc:w.cell? ⟨rb,off,none⟩= some (.slice ao vs.length cap)):
  Calls Tryz.prog 150 #[.pointer (some ⟨rb,off,none⟩)] w fun e w'=>e=.returned (.int .i64 vs.length)/\w=w':=by
 go_enter Tryz.func150,Tryz.ntmps150
 go_wp2
 go_ret
 exact⟨rfl,rfl⟩
theorem qb(l:List aO)(r:aO):jI (l++[r])=jI l+r.2.length:=by simp[jI]
theorem qK(l:List aO)(B:Nat)(h:∀r∈l,r.2.length<=B):∀k,jI (l.take k)<=k*B:=by
 intro k
 induction k with
 |zero=>simp[jI]
 |succ k ih=>
  rcases Nat.lt_or_ge k l.length with hk|hk
  ·rw[fP (lGe hk),qb,Nat.add_mul]
   have:=h _ (List.getElem_mem hk)
   omega
  ·rw[List.take_of_length_le (by omega)]at ih⊢
   rw[Nat.add_mul]
   omega
theorem x_Size_any(vs:List bn)(rl:List aO)(lv:Value)(rb off:Nat)(w:World)(hc:w.cell? ⟨rb,off,none⟩= some lv)(hown:w.ownsRow 0 259 2 lv vs.length (aC vs))(hsh:Shape vs rl)(hf:RunsFit rl):
  Calls Tryz.prog 129 #[.pointer (some ⟨rb,off,none⟩)] w fun e w'=>e=.returned (.int .i64 (jI rl))/\Below w.heap.size w w':=by
 obtain⟨ao,cap,rfl⟩:=bd hown
 have hn:vs.length<=100:=by rw[hsh.1];exact hf.few
 have HZ:Hid (∀k,k<=100->jI (rl.take k)<=109951162777600):=by
  intro k hk
  have:=qK rl 1099511627776 (fun r hr=>by have:=hf.far r hr;unfold au at this;omega) k
  omega
 have HO:=ab hown
 have HS:=ab hsh
 clear hown hsh
 go_enter Tryz.func129,Tryz.ntmps129
 go_wp2_with fail
 go_loopw [3,11] (fun s i wr=>∃k:Nat,k<=vs.length/\i=.int .i64 k/\s=.int .i64 (jI (rl.take k))/\Below w.heap.size w wr) (fun _ i _=>vs.length-(intOf i).toNat)
 case atStart=>exact⟨0,Nat.zero_le _,rfl,rfl,Below.refl _ _⟩
 case round=>
  obtain⟨k,hk,rfl,rfl,hbr⟩:=hrel
  have hz:=HZ.out k (by omega)
  by_cases hlt:k<vs.length
  ·obtain⟨v,hv⟩:∃v,vs[k]? =some v:=⟨_,lGe hlt⟩
   obtain⟨r,hr⟩:∃r,rl[k]? =some r:=⟨_,lGe (by rw[<-HS.out.1];exact hlt)⟩
   obtain⟨e1,ao2,cap2,e2,hcap2⟩:=HS.out.2 k v r hv hr
   obtain⟨v1,v2⟩:=v
   simp only at e1 e2
   subst e1 e2
   have hown:=aF HO.out hbr
   rcases hown.2 with⟨_,h0⟩|⟨g,cap',cur,e3,_,hg,hnc,hcm,hcs,htk⟩
   ·omega
   simp only[Value.slice.injEq]at e3
   obtain⟨rfl,_,rfl⟩:=e3
   obtain⟨q1,q2⟩:=eH hv
   have c1:wr.cell? ⟨g,k*2,none⟩= some (.int .i64 r.1):=by rw[hown.cellAt (k*2) (by omega)];exact q1
   have c2:wr.cell? ⟨g,k*2+1,none⟩= some (.slice ao2 r.2.length cap2):=by rw[hown.cellAt (k*2+1) (by omega)];exact q2
   have hrl:r.2.length<=1099511627776:=by have:=hf.far r (lMm hr);unfold au at this;omega
   have HT:Hid (jI (rl.take (k+1))=jI (rl.take k)+r.2.length):=by show _=_;rw[fP hr,qb]
   have HBR:=ab hbr
   clear hown hg htk hcs hcm q1 q2 hr hv hbr
   generalize jI (rl.take k)=S at hz HT
   go_wp2_with fail
   go_roundw
   case rel=>exact⟨k+1,by omega,by go_num,by rw[HT.out];rfl,ai HBR.out (ag wr _)⟩
   case measure=>simp[intOf];omega
  ·obtain rfl:k=vs.length:=by omega
   have hMt:rl.take vs.length=rl:=List.take_of_length_le (by rw[HS.out.1];exact Nat.le_refl _)
   rw[hMt]
   have HBR:=ab hbr
   clear hbr
   go_wp2_with fail
   go_ret
   exact⟨rfl,HBR.out⟩
end Go.Proofs.YthmdjhlhodpbhaaGreatDoor
