import Derived.Test.YthmdjhlhodpbhaaGreatDoorM07
set_option maxHeartbeats 16000000
set_option maxRecDepth 8000
set_option linter.all false
namespace Go.Proofs.YthmdjhlhodpbhaaGreatDoor
open Go.RowKit
open _root_.List renaming getElem?_eq_some_iff → bo, getElem?_take_of_lt → bp, getElem?_eq_getElem → ap, size_toArray → dr, mem_of_mem_drop → dv, mem_of_getElem? → bS, getElem?_drop → cG, getElem?_append_left → aZ, mem_of_mem_take → ck, append_assoc → bq, length_replicate → aV, length_drop → dx, length_take → dB, getElem?_append_right → bN, not_mem_nil → dH, getElem?_eq_none → cJ, mem_cons → cF
open _root_.Array renaming getElem?_eq_some_iff → bn
open Go.World renaming cell? → aD, setRow → du, size_setCell → bQ, cell?_of_block → cn
open Go.IntKind renaming wrap_i64 → dq
open Go.Addr renaming add_lit → dt
open _root_.Nat renaming lt_of_lt_of_le → ca, zero_le → be, lt_or_ge → ay, le_refl → ar, lt_or_eq_of_le → dC, min_def → dz, zero_add → aw, sub_self → dD, min → dK
open Go.Builtin renaming copy_ → bD, clear_ → bE, append_ → bB, firstCells → dY, zeroCells → bj
open Go.Value renaming slice → aJ, int → bh, agg → dL
open _root_.Or renaming inl → bg
open _root_.Go renaming World → aK, run_underlying → dM, Calls → aL, Value → aM, setRow_setRow → dP, maxLen → aO, setRow_heap → dO, TypeId → bG, heap_alloc_new → cA, frozen_of_row → cx, heap_setCell_other → cy, info_parts → aP, setRow_other → dN
open Go.RowKit renaming intOf → aQ
open _root_.Go.Proofs.Tryz
open _root_.Go.Proofs.Tryz renaming prog → ab
open Go.Value renaming slice → ai, pointer → ag
attribute [local simp] CV CI Bw mc lq io
variable {b w z5:World}{a d f i n z7 A cap w2:Nat}{e h:Value}{D:Array Value}{z:TypeId}{first c g:Int}{o y:List Value}{R:Option Addr}
theorem CJ:(ab.info? 279).map (fun i=>(i.zero,i.size,i.bytes))=some (some (.agg C'),2,32):=by kernel_rfl
theorem um:(ab.info? 279).map (·.size)=some 2:=by kernel_rfl
theorem mR(a:aK):(Go.sizeOf 279).run ab a=.ok 2 a:=by kernel_rfl
theorem G3{c1:Nat}{x7:Array aM}{y8:bG}(j:d≠a)(h:b.heap[a]? =some (.cells D z (0,0)))(c:b.heap[d]? =some (.cells x7 y8 (0,0)))(g:D.size≠0):
  (callFunc 201 #[ai (some (Ad d 0)) n c1,ai (some (Ad a f)) z7 w2]).run ab b=.ok (.value (.bool false)) b:=by
 rw[run_callFunc_extern func201 (by kernel_rfl) (by kernel_rfl) (by kernel_rfl) (e:=Extern.SlicesOverlaps.overlaps #[129,129] #[4]) (by kernel_rfl),
  Lib.run_overlaps_apart b 129 4 279 underlying129 2 mR _ (Ad a f) n c1 z7 w2 j y8 z x7.size D.size (by simp[World.shape?,c]) (by simp[World.shape?,h]) g (cx b d _ _ _ c) (cx b d _ _ _ c)]
 rfl
theorem zN(n:b.heap[a]? =some (.cells D 279 (0,0)))(p:b.heap[A]? =some (.cells o.toArray 279 (0,0)))(x:A≠a)
  (P:y.length=d*2) (z:o.length=2) (U:D.toList.take (d*2)=y) (hi:i<d) (a6:d+1<=f) (Q:D.size=f*2) (S:f<=aO) (M:∀e∈y,e.oneCell'=true) (N:∀e∈o,e.oneCell'=true):
  aL ab 200 #[ai (some (Ad a 0)) d f,II i,ai (some (Ad A 0)) 1 z7] b fun K X=>
   K=.returned (ai (some (Ad a 0)) (d+1) f)/\∃W,X=(b.drewN W).setRow a (f_ (f_ D.toList ((i+1)*2) (y.drop (i*2))) (i*2) o).toArray:=by
 have T:=fun t B c1 C u=>G3 (f:=t) (n:=B) (c1:=c1) (z7:=C) (w2:=u) x n p (by omega);unfold aO at S;have a8:IntKind.i64.wrap ((i:Int)+1)=(i:Int)+1:=by rw[dq];omega
 have Z:(0:Int)<=(i:Int)+1:=by omega
 have a4:i<=d:=by omega
 have a7:((i:Int)+1).toNat=i+1:=by omega
 have a0:¬(f=i+1):=by omega
 have a1:(i:Int)<=(d:Int)+1:=by omega
 have a2:¬(f=i):=by omega
 have a9:=dM underlying129;have b0:=mR;have a3:d*2<=D.toList.length:=by simp;omega
 have s:(y.drop (i*2)).length=(d-i)*2:=by rw[dx,P];omega
 have v:∀(c:aK) (h:bG) (g E:Nat),c.heap=b.heap->(bD #[129,129] h #[ai (some (Ad a ((i+1)*2))) (d-i) g,ai (some (Ad a (i*2))) (d+1-i) E]).run ab c
   = .ok (goInt (dK (d+1-i) (d-i))) (c.setRow a (f_ D.toList ((i+1)*2) (y.drop (i*2))).toArray):=by
  intro c h g E j;refine iK _ _ _ _ _ _ _ _ _ _ _ _ _ _ _ _ underlying129 um (by rw[j];exact n) ?_ ?_ ?_ ?_
  ·rw[s];simp only[dz];split<;>omega
  ·intro V e k;have a5:=(bo.1 k).1;rw[cG,<-U,bp (by omega)]at k;rw[dt];simp only[aD,j,n];simpa using k
  ·rw[s,Q];omega
  ·exact fun e p=>M e (dv p)
 have w:∀(c:aK) (h:bG) (g:Nat),c.heap=(b.setRow a (f_ D.toList ((i+1)*2) (y.drop (i*2))).toArray).heap->(bD #[129,129] h #[ai (some (Ad a (i*2))) (d+1-i) g,ai (some (Ad A 0)) 1 z7]).run ab c
   = .ok (goInt (dK 1 (d+1-i))) (c.setRow a (f_ (f_ D.toList ((i+1)*2) (y.drop (i*2))) (i*2) o).toArray):=by
  intro c h g j;have L:=gA (o:=D.toList) (a:=(i+1)*2) (y:=y.drop (i*2)) (by rw[s];simp;omega);have R:c.heap[a]? =some (.cells (f_ D.toList ((i+1)*2) (y.drop (i*2))).toArray 279 (0,0)):=by rw[j];exact dO b a D _ _ _ n
  have O:=iK _ _ 129 h _ _ (i*2) (d+1-i) g (Ad A 0) 1 z7 _ _ _ _ underlying129 um R (by rw[z];simp only[dz];split<;>omega) ?_ ?_ N
  ·simpa using O
  ·intro V e k;rw[dt];have:c.heap[A]? =b.heap[A]?:=by rw[j];exact dN b a A _ x
   simp only[aD,this,p];simpa using k
  ·simp only[dr];rw[L,z];simp;omega
 have G:=fK v;have H:=fK w;clear v w;go_enter func200,ntmps200;go_wp2_with (simp only[T]);go_region_law (refine jy rfl (.tmp 73) (.tmp 76) 129 129 rfl (ai (some (Ad a ((i+1)*2))) (d-i) (f-(i+1))) (ai (some (Ad a (i*2))) (d+1-i) (f-i)) (by kernel_rfl) (by kernel_rfl) (G.out _ _ _ _ rfl) ?_;generalize m:du _ a _=J;replace m:=fK m;refine Hid.out ?_;refine fK ?_);have I:Hid (J.heap=(b.setRow a (f_ D.toList ((i+1)*2) (y.drop (i*2))).toArray).heap):=by show _=_;rw[<-m.out];rfl
 go_wp2_with (refine kS rfl _ _ _ _ rfl _ _ rfl rfl (H.out _ _ _ I.out) ?_;generalize q:du _ a _=Y;replace q:=fK q);go_ret;refine⟨rfl,1,?_⟩;rw[<-q.out,<-m.out,dP];rfl
theorem CF(g:b.ownsRow 0 279 2 e a o)(s:b.heap[d]? =some (.cells y.toArray 279 (0,0)))(K:y.length=2)(x:∀E∈y,E.oneCell'=true)(J:a<=1000):
  aL ab 200 #[e,II a,ai (some (Ad d 0)) 1 f] b fun w j=>
   ∃c,w=.returned c/\j.ownsRow 0 279 2 c (a+1) (o++y)/\b.grownBy j e.ownBlock/\(c.ownBlock=e.ownBlock\/∀p,c.ownBlock=some p->b.heap.size<=p):=by
 obtain⟨D,hi,A,B,C⟩:=aP CJ;obtain⟨c,j,q,h,t,u⟩:=jR (P:=ab) b 0 129 129 279 D _ 2 32 underlying129 hi A B C rfl (by decide) e a o g (Ad d 0) 1 f y (by omega) (fun L M z=>by rw[dt];simp only[aD,s];simpa using z) x (by unfold aO;omega) (by omega) (be _);have k:=fK q;have l:=fK h;have m:=fK t;have n:=fK u;obtain⟨v,cap,rfl⟩:=gr g;obtain⟨H,I,rfl⟩:=gr h;clear q h t u g s;cases v with
 |none=>go_enter func200,ntmps200;go_wp2_with (at_builtin;refine gJ rfl _ _ _ _ rfl _ _ rfl rfl k.out ?_;refine Hid.out ?_);refine fK ?_;go_wp2;go_ret;exact⟨_,rfl,l.out,m.out,n.out⟩
 |some G=>
  go_enter func200,ntmps200;go_wp2_with (at_builtin;refine gJ rfl _ _ _ _ rfl _ _ rfl rfl k.out ?_;refine Hid.out ?_);all_goals
   refine fK ?_;go_wp2;go_ret;exact⟨_,rfl,l.out,m.out,n.out⟩
theorem zM{g c vb vc:Nat}{cur:Array aM}{xc cs:List aM}(hg:w.heap[g]? =some (.cells cur 279 (0,0)))(hv:w.heap[vb]? =some (.cells xc.toArray 279 (0,0)))
  (KZ:cs.length=n*2) (N0:xc.length=2) (Rk:cur.toList.take (n*2)=cs) (hi:i<n) (qG:c<n+1) (SN:n<=c) (hn:n<=1000) (h1:∀v∈cs,v.oneCell'=true) (QK:∀v∈xc,v.oneCell'=true):
  aL ab 200 #[ai (some (Ad g 0)) n c,II i,ai (some (Ad vb 0)) 1 vc] w fun e w'=>
   ∃rY,e=.returned rY/\w'.ownsRow w.heap.size 279 2 rY (n+1) (cs.take (i*2)++xc++cs.drop (i*2))/\Bw w w':=by
 obtain⟨i0,MB,MI,MJ,K6⟩:=aP CJ;have Q2:g<w.heap.size:=(bn.1 hg).1;have Rm:vb<w.heap.size:=(bn.1 hv).1;have NQ:∀j v,cs[j]? =some v->w.cell? (Ad g j)=some v:=fun j v hj=>by have SG:=(bo.1 hj).1;rw[<-Rk,bp (by omega)]at hj;simp only[aD,hg];simpa using hj
 have MA:∀j v,xc[j]? =some v->w.cell? (Ad vb j)=some v:=fun j v hj=>by simp only[aD,hv];simpa using hj
 have hold:(dY i0.size i (ai (some (Ad g 0)) i c)).run ab w.drew=.ok (cs.take (i*2)).toArray w.drew:=by
  rw[MJ];exact run_firstCells_some w.drew 2 i (Ad g 0) i c (cs.take (i*2)) (by rw[dB];omega) (fun j v hj=>by
   rw[dt,aw];rw[List.getElem?_take]at hj;split at hj
   ·exact NQ j v hj
   ·cases hj)
 obtain⟨G,hG⟩:∃G,G=grownCap w (n+1) c 279:=⟨_,rfl⟩;have QN:n+1<=G:=by rw[hG];exact grownCap_ge w _ _ _
 have QM:G<=aO:=by rw[hG];exact grownCap_le_maxLen w (n+1) c 279 (by unfold aO;omega)
 obtain⟨ol,BO⟩:∃ol:Array aM,ol=(cs.take (i*2)).toArray++bj (dL #[II 0,ai none 0 0]).cells (n+1-i)++bj (dL #[II 0,ai none 0 0]).cells (G-(n+1)):=⟨_,rfl⟩;have OH:ol.size=G*2:=by rw[BO];simp only[Array.size_append,dr,size_zeroCells,dB,KZ];rw[show(dL #[II 0,ai none 0 0]:aM).cells.size=2 from rfl];omega
 have O_:∀j,j<i*2->ol.toList[j]? =cs[j]?:=fun j hj=>by rw[BO];simp only[Array.toList_append,bq];rw[aZ (by simp;omega),bp hj]
 have Pg:(n:Int)+1-(i:Int)=((n+1-i:Nat):Int):=by omega
 have NV:i+(n+1-i)=n+1:=by omega
 have Ps:∀ty,(bB #[129,3] ty #[ai (some (Ad g 0)) i c,II ((n:Int)+1-(i:Int))]).run ab w=.ok (ai (some (gf w 0)) (n+1) G) (w.drew.alloc (.cells ol 279)):=fun ty=>by have h:=Lib.run_append_grow_zeros w 129 3 ty 279 i0 _ .i64 .i64 underlying129 underlying3 MB MI (some (Ad g 0)) i c (cs.take (i*2)) hold (n+1-i) (by omega) (by omega) (by omega) (by omega) (by rw[K6];omega) (by rw[K6,NV];exact growslice_fits qG (by omega));rw[NV,<-hG,<-BO]at h;rw[Pg];exact h
 have FM:(cs.drop (i*2)).length=(n-i)*2:=by rw[dx,KZ];omega
 have HA:=fK Ps;have OB:Hid (∀(W:aK) (ty:bG) (dc:Nat),W.heap=(w.alloc (.cells ol 279)).heap->(bD #[129,129] ty #[ai (some (gf w (i*2))) (n+1-i) dc,ai (some (Ad vb 0)) 1 vc]).run ab W
   = .ok (goInt (dK 1 (n+1-i))) (W.setRow w.heap.size (f_ ol.toList (i*2) xc).toArray)):=by
  intro W ty dc hW;refine iK _ _ _ _ _ _ _ _ _ _ _ _ _ _ _ _ underlying129 um (by rw[hW];exact cA w _) (by rw[N0];simp only[dz];split<;>omega) ?_ ?_ QK
  ·intro j v hj;rw[dt,aw];have:W.heap[vb]? =w.heap[vb]?:=by rw[hW];exact Below.heap_alloc _ _ _ Rm
   rw[<-MA j v hj];simp only[aD,this]
  ·rw[N0,OH];omega
 have e1:=gA (o:=ol.toList) (a:=i*2) (y:=xc) (by simp;omega);have OC:Hid (∀(W:aK) (ty:bG) (dc sc:Nat),W.heap=((w.alloc (.cells ol 279)).setRow w.heap.size (f_ ol.toList (i*2) xc).toArray).heap->(bD #[129,129] ty #[ai (some (gf w ((i+1)*2))) (n-i) dc,ai (some (Ad g (i*2))) (n-i) sc]).run ab W
   = .ok (goInt (dK (n-i) (n-i))) (W.setRow w.heap.size (f_ (f_ ol.toList (i*2) xc) ((i+1)*2) (cs.drop (i*2))).toArray)):=by
  intro W ty dc sc hW;have NT:W.heap[w.heap.size]? =some (.cells (f_ ol.toList (i*2) xc).toArray 279 (0,0)):=by rw[hW];exact dO _ _ ol _ _ _ (cA w _)
  have h2:=iK _ _ 129 ty _ _ ((i+1)*2) (n-i) dc (Ad g (i*2)) (n-i) sc _ _ (cs.drop (i*2)) _ underlying129 um NT (by rw[FM];simp only[dz];split<;>omega) ?_ ?_ (fun v hv=>h1 v (dv hv))
  ·simpa using h2
  ·intro j v hj;rw[cG]at hj;rw[dt];have:W.heap[g]? =w.heap[g]?:=by rw[hW,dN _ _ _ _ (by omega)];exact Below.heap_alloc _ _ _ Q2
   rw[<-NQ _ v hj];simp only[aD,this]
  ·simp only[dr];rw[e1,FM];simp;omega
 have FP:(f_ (f_ ol.toList (i*2) xc) ((i+1)*2) (cs.drop (i*2))).take ((n+1)*2)=cs.take (i*2)++xc++cs.drop (i*2):=by
  apply List.ext_getElem?;intro j;rcases ay j ((n+1)*2) with hj|hj
  ·rw[bp hj,ku (by rw[e1,FM];simp;omega),ku (by simp;omega),bq];rcases ay j (i*2) with h1|h1
   ·rw[if_neg (by omega),if_neg (by omega),aZ (by simp;omega),bp h1];exact O_ j h1
   ·rw[bN (by simp;omega),dB,Nat.min_eq_left (by omega)];rcases ay j ((i+1)*2) with h2|h2
    ·rw[if_neg (by omega),if_pos (by omega),aZ (by omega)]
    ·rw[if_pos (by rw[FM];omega),bN (by omega)];congr 1;omega
  ·rw[cJ (by simp;omega),cJ (by simp;omega)]
 have wC:(f_ (f_ ol.toList (i*2) xc) ((i+1)*2) (cs.drop (i*2))).length=G*2:=by rw[gA (by rw[e1,FM];simp;omega),e1];simp;omega
 have HF:=fK FP;have HL:=fK wC;unfold aO at QM;have P8:IntKind.i64.wrap ((i:Int)+1)=(i:Int)+1:=by rw[dq];omega
 have Na:(0:Int)<=(i:Int)+1:=by omega
 have Q3:i<=n:=by omega
 have SS:((i:Int)+1).toNat=i+1:=by omega
 have wB:¬(G=i+1):=by omega
 have DH:(i:Int)<=(n:Int)+1:=by omega
 have Sw:¬(c=i):=by omega
 have Sx:¬(G=i):=by omega
 have Sy:(c:Int)<(n:Int)+1:=by omega
 have Sz:(i:Int)<=(n:Int):=by omega
 have u1:=dM underlying129;have z1:=mR;clear hold BO Ps Pg NV NQ MA O_ FP wC e1 hG;go_enter func200,ntmps200;go_wp2_with (first |(at_builtin;refine gJ rfl _ _ _ _ rfl _ _ rfl rfl (HA.out _) ?_;refine Hid.out ?_));refine fK ?_;generalize KT:(w.alloc (.cells ol 279)).drew=W1;have HQ:Hid (W1.heap=(w.alloc (.cells ol 279)).heap):=by show _=_;rw[<-KT];rfl
 replace KT:=fK KT;go_wp2_with (refine kS rfl _ _ _ _ rfl _ _ (by kernel_rfl) (by kernel_rfl) (OB.out W1 3 (G-i) HQ.out) ?_;refine Hid.out ?_);refine fK ?_;generalize Mx:du _ w.heap.size _=W2;replace Mx:=fK Mx;have Qn:Hid (∀m:aK,m.heap=W2.heap->m.heap=((w.alloc (.cells ol 279)).setRow w.heap.size (f_ ol.toList (i*2) xc).toArray).heap):=by intro m hm;rw[hm,<-Mx.out,<-KT.out];rfl
 go_wp2_with fail;go_region_law (refine jy rfl (.tmp 50) (.tmp 53) 129 129 rfl (ai (some (gf w ((i+1)*2))) (n-i) (G-(i+1))) (ai (some (Ad g (i*2))) (n-i) (c-i)) (by kernel_rfl) (by kernel_rfl) (OC.out _ _ _ _ (Qn.out _ rfl)) ?_;generalize FI:du _ w.heap.size _=W3;replace FI:=fK FI;refine Hid.out ?_;refine fK ?_);go_wp2_with fail;go_ret;have KU:W3=(w.alloc (.cells ol 279)).drew.drew.setRow w.heap.size (f_ (f_ ol.toList (i*2) xc) ((i+1)*2) (cs.drop (i*2))).toArray:=by rw[<-FI.out,<-Mx.out,<-KT.out];exact dP (w.alloc (.cells ol 279)).drew.drew w.heap.size (f_ ol.toList (i*2) xc).toArray _
 have NT:W3.heap[w.heap.size]? =some (.cells (f_ (f_ ol.toList (i*2) xc) ((i+1)*2) (cs.drop (i*2))).toArray 279 (0,0)):=by rw[KU];exact dO _ _ ol _ _ _ (show(w.alloc (.cells ol 279)).drew.drew.heap[w.heap.size]? =_ from cA w _)
 refine⟨_,rfl,⟨by simp only[List.length_append,dB,FM,N0,KZ];omega,.inr ⟨w.heap.size,G,_,rfl,ar _,NT,QN,by unfold aO;omega,?_,HF.out⟩⟩,?_⟩
 ·rw[dr];exact HL.out
 ·rw[KU];refine⟨rfl,rfl,rfl,by simp[du],fun k hk=>?_⟩;rw[dN _ _ _ _ (by omega)];exact Below.heap_alloc w _ _ hk
theorem CE{K:List iw}{w1:iw}(y:b.ownsRow 0 279 2 e K.length (gy K))(j:b.heap[d]? =some (.cells #[II w1.1,w1.2] 279 (0,0)))(I:e.ownBlock≠some d)(hi:i<=K.length)(x:K.length<=1000)
  (t:∀r∈K,r.2.oneCell'=true) (L:w1.2.oneCell'=true):
  aL ab 200 #[e,II i,ai (some (Ad d 0)) 1 f] b fun c m=>
   ∃g,c=.returned g/\m.ownsRow 0 279 2 g (K.length+1) (gy (K.take i++w1::K.drop i))/\b.grownBy m e.ownBlock/\(g.ownBlock=e.ownBlock\/∀h,g.ownBlock=some h->b.heap.size<=h):=by
 have q:∀C∈[bh .i64 w1.1,w1.2],C.oneCell'=true:=by
  intro C j;simp only[cF,dH,or_false]at j;rcases j with rfl|rfl
  ·rfl
  ·exact L
 have v:gy (K.take i++w1::K.drop i)=(gy K).take (i*2)++[II w1.1,w1.2]++(gy K).drop (i*2):=by rw[lQ,ko,pN,pM,bq]
 rcases dC hi with w|rfl
 ·rcases y.2 with⟨_,O⟩|⟨h,cap,k,rfl,_,l,H,u,G,A⟩
  ·omega
  ·have J:d≠h:=fun c=>I (by simp[Value.ownBlock,c]);by_cases z:K.length+1<=cap
   ·refine(zN l j J (ic _) rfl A w z G u (mg t) q).mono ?_;rintro c m ⟨rfl,B,rfl⟩;have M:=gA (o:=k.toList) (a:=(i+1)*2) (y:=(gy K).drop (i*2)) (by grind);have N:=gA (o:=f_ k.toList ((i+1)*2) ((gy K).drop (i*2))) (a:=i*2) (y:=[II w1.1,w1.2]) (by grind);refine⟨_,rfl,⟨by grind,.inr ⟨h,cap,_,rfl,be _,dO (b.drewN B) h k _ _ _ l,z,u,?_,?_⟩⟩,⟨rfl,rfl,rfl,by simp_all,fun s _ p=>dN (b.drewN B) h s _ (fun c=>p (by simp[c,Value.ownBlock]))⟩,bg rfl⟩
    ·grind
    ·rw[v];have P:=DN (b:=k.toList) (y:=gy K) (w0:=[II w1.1,w1.2]) (a:=i*2) (by grind) (by grind) (by grind);grind
   ·refine(zM l j (ic _) rfl A w (by omega) H x (mg t) q).mono ?_;rintro c m ⟨g,rfl,n,E⟩;exact⟨g,rfl,by rw[v];exact gq n (be _),mf E,Or.inr fun s p=>(n.lt s p).1⟩
 ·refine(CF y j rfl q x).mono ?_;rintro c m ⟨g,rfl,n,l,D⟩;refine⟨g,rfl,?_,l,D⟩;rw[List.take_length,List.drop_length,lQ];exact n
theorem Ov:(zeroValue 279).run ab b=.ok (.agg C') b:=by kernel_rfl
theorem CG(b d c f:Nat)(a:aK)(g:a.heap[b]? =some (.cells D 279 (0,0)))(l:d+c*2<=D.size)(j:bG):
  ∃e,(bE #[129] j #[ai (some (Ad b d)) c f]).run ab a=.ok (.tuple #[]) e/\e=a.setRow b (f_ D.toList d (qq c)).toArray:=by
 rcases Nat.eq_zero_or_pos c with rfl|m
 ·refine⟨a,?_,?_⟩
  ·simp[bE,dM underlying129]
  ·have:f_ D.toList d (qq 0)=D.toList:=by simp[f_,qq]
   rw[this];exact(setRow_self a b D _ _ g).symm
 ·refine⟨_,?_,rfl⟩;have k:=pw (P:=ab) a 129 279 j _ underlying129 (Ov (b:=a)) b d c f m D 279 g (by rw[show(dL C':aM).cells.size=2 from rfl];exact l) (by intro o n;have h:o∈[bh .i64 0,ai none 0 0]:=n;simp only[cF,dH,or_false]at h;rcases h with rfl|rfl<;>rfl);exact k
set_option maxRecDepth 100000 in
theorem zQ(I:b.heap[a]? =some (.cells D 279 (0,0)))(J:b.heap[z7]? =some (.cells o.toArray 279 (0,0)))
  (Y:y.length=d*2) (P:o.length=2) (a2:D.toList.take (d*2)=y) (c2:i<A) (c3:A<d) (c6:d<=f) (Z:D.size=f*2) (c5:d<=1000) (h:f<=aO) (G:∀m∈y,m.oneCell'=true) (W:∀m∈o,m.oneCell'=true):
  aL ab 178 #[ai (some (Ad a 0)) d f,II i,II A,ai (some (Ad z7 0)) 1 w2] b fun k a3=>
   k=.returned (ai (some (Ad a 0)) (i+1+(d-A)) f)/\∃p,a3=(b.drewN p).setRow a (f_ (f_ (f_ D.toList (i*2) o) ((i+1)*2) (y.drop (A*2))) ((i+1+(d-A))*2) (qq (d-(i+1+(d-A))))).toArray:=by
 have H:(y.drop (A*2)).length=(d-A)*2:=by rw[dx,Y];omega
 have w:=gA (o:=D.toList) (a:=i*2) (y:=o) (by simp;omega);have O:=gA (o:=f_ D.toList (i*2) o) (a:=(i+1)*2) (y:=y.drop (A*2)) (by rw[w,H];simp;omega);have Q:Hid (∀(e:aK) (j:bG) (c g:Nat),1<=c->e.heap=b.heap->(bD #[129,129] j #[ai (some (Ad a (i*2))) c g,ai (some (Ad z7 0)) 1 w2]).run ab e
   = .ok (goInt 1) (e.setRow a (f_ D.toList (i*2) o).toArray)):=by
  intro e j c g h n;have k:dK 1 c=1:=by simp only[dz];split<;>omega
  have q:=iK e _ 129 j _ a (i*2) c g (Ad z7 0) 1 w2 D 279 _ _ underlying129 um (by rw[n];exact I) (by rw[P,k]) ?_ ?_ W
  ·rw[k]at q;exact q
  ·intro K m t;rw[dt,aw];simp only[aD,n,J];simpa using t
  ·rw[P,Z];omega
 have R:Hid (∀(e:aK) (j:bG) (c g L:Nat),c=d-A->e.heap=(b.setRow a (f_ D.toList (i*2) o).toArray).heap->(bD #[129,129] j #[ai (some (Ad a ((i+1)*2))) c g,ai (some (Ad a (A*2))) (d-A) L]).run ab e
   = .ok (goInt (d-A:Nat)) (e.setRow a (f_ (f_ D.toList (i*2) o) ((i+1)*2) (y.drop (A*2))).toArray)):=by
  intro e j c g L h n;have k:dK (d-A) c=d-A:=by rw[h];exact Nat.min_self _
  have s:e.heap[a]? =some (.cells (f_ D.toList (i*2) o).toArray 279 (0,0)):=by rw[n];exact dO _ _ D _ _ _ I
  have q:=iK _ _ 129 j _ _ ((i+1)*2) c g (Ad a (A*2)) (d-A) L _ _ (y.drop (A*2)) _ underlying129 um s (by rw[H,k]) ?_ ?_ (fun m J=>G m (dv J))
  ·rw[k]at q;simpa using q
  ·intro K m t;have c4:=(bo.1 t).1;rw[cG,<-a2,bp (by omega)]at t;rw[dt];simp only[aD,s];rw[List.getElem?_toArray,ku (by simp;omega),if_neg (show ¬(i*2<=A*2+K/\A*2+K<i*2+o.length) from by omega)];exact t
  ·simp only[dr];rw[w,H];simp;omega
 have S:Hid (∀(e:aK) (j:bG) (v c g:Nat),(v=(i+1+(d-A))*2\/c=0)->c=d-(i+1+(d-A))->e.heap=(b.setRow a (f_ (f_ D.toList (i*2) o) ((i+1)*2) (y.drop (A*2))).toArray).heap->(bE #[129] j #[ai (some (Ad a v)) c g]).run ab e
   = .ok (.tuple #[]) (e.setRow a (f_ (f_ (f_ D.toList (i*2) o) ((i+1)*2) (y.drop (A*2))) ((i+1+(d-A))*2) (qq (d-(i+1+(d-A))))).toArray)):=by
  intro e j v c g u h n;have s:e.heap[a]? =some (.cells (f_ (f_ D.toList (i*2) o) ((i+1)*2) (y.drop (A*2))).toArray 279 (0,0)):=by rw[n];exact dO _ _ D _ _ _ I
  rcases u with u|u
  ·subst u h;obtain⟨a4,G,rfl⟩:=CG _ ((i+1+(d-A))*2) (d-(i+1+(d-A))) g _ s (by rw[dr,O,w];simp;omega) j;exact G
  ·subst u;have V:f_ (f_ (f_ D.toList (i*2) o) ((i+1)*2) (y.drop (A*2))) ((i+1+(d-A))*2) (qq (d-(i+1+(d-A))))=f_ (f_ D.toList (i*2) o) ((i+1)*2) (y.drop (A*2)):=by rw[<-h];generalize f_ (f_ D.toList (i*2) o) ((i+1)*2) (y.drop (A*2))=p;simp[f_,qq]
   rw[V,setRow_self e a _ _ _ s];simp[bE,dM underlying129]
 unfold aO at h;have c8:IntKind.i64.wrap ((i:Int)+1)=(i:Int)+1:=by rw[dq];omega
 have a8:(0:Int)<=(i:Int)+1:=by omega
 have c7:((i:Int)+1).toNat=i+1:=by omega
 have a9:¬(f=i+1):=by omega
 have b0:¬(f=i):=by omega
 have b1:¬(f=A):=by omega
 have b7:((i:Int)==(A:Int))=false:=beq_eq_false_iff_ne.2 (by omega);have b9:((A:Int)==(d:Int))=false:=beq_eq_false_iff_ne.2 (by omega);have c9:IntKind.i64.wrap ((i:Int)+1+((d-A:Nat):Int))=(i:Int)+1+((d-A:Nat):Int):=by rw[dq];omega
 have a5:¬((f:Int)<(i:Int)+1+((d-A:Nat):Int)):=by omega
 have a6:(i:Int)+1+((d-A:Nat):Int)<=(f:Int):=by omega
 have a7:(i:Int)+1+((d-A:Nat):Int)<=(d:Int):=by omega
 have b2:(i:Int)<=(f:Int):=by omega
 have b5:(A:Int)<=(d:Int):=by omega
 have b4:(i:Int)<=(A:Int):=by omega
 have b6:(A:Int)<=(f:Int):=by omega
 have b8:(i:Int)+1<=(i:Int)+1+((d-A:Nat):Int):=by omega
 have b3:(i:Int)+1<=(A:Int):=by omega
 have d0:=dM underlying129;have d1:=mR;clear w O;go_enter func178,ntmps178;go_wp2_with fail;go_quiet (fail);generalize x:b.drewN _=C;have M:Hid (C.heap=b.heap):=by show _=_;rw[<-x];rfl
 replace x:=fK x;go_wp2_with (refine kS rfl _ _ _ _ rfl _ _ rfl rfl (Q.out C _ _ _ (by omega) M.out) ?_;refine Hid.out ?_);refine fK ?_;generalize z:du C a _=U;have N:Hid (∀c:aK,c.heap=U.heap->c.heap=(b.setRow a (f_ D.toList (i*2) o).toArray).heap):=by intro c h;rw[h,<-z];simp only[du,M.out]
 replace z:=fK z;go_wp2_with fail;go_region_law (refine jy rfl (.tmp 103) (.tmp 106) 129 129 rfl (ai (some (Ad a ((i+1)*2))) (d-A) (f-(i+1))) (ai (some (Ad a (A*2))) (d-A) (f-A)) (by kernel_rfl) (by kernel_rfl) (R.out _ _ _ _ _ rfl (N.out _ rfl)) ?_;generalize B:du _ a _=E;replace B:=fK B;refine Hid.out ?_;refine fK ?_);have T:Hid (∀c:aK,c.heap=E.heap->c.heap=(b.setRow a (f_ (f_ D.toList (i*2) o) ((i+1)*2) (y.drop (A*2))).toArray).heap):=by intro c h;rw[h,<-B.out];exact(sN (N.out _ rfl) _ _).trans (congrArg World.heap (dP b a _ _))
 have a0:Hid (∃p,E.setRow a (f_ (f_ (f_ D.toList (i*2) o) ((i+1)*2) (y.drop (A*2))) ((i+1+(d-A))*2) (qq (d-(i+1+(d-A))))).toArray=(b.drewN p).setRow a (f_ (f_ (f_ D.toList (i*2) o) ((i+1)*2) (y.drop (A*2))) ((i+1+(d-A))*2) (qq (d-(i+1+(d-A))))).toArray):=by refine⟨nq+1,?_⟩;rw[<-B.out,<-z.out,<-x.out,dP];exact dP (b.drewN (nq+1)) a (f_ D.toList (i*2) o).toArray _
 by_cases X:f=i+1+(d-A);all_goals
  go_wp2_with (refine jd rfl _ _ rfl _ rfl (S.out E _ _ _ _ (by omega) (by omega) (T.out _ rfl)) ?_;refine Hid.out ?_);refine fK ?_;go_wp2_with fail;go_ret;obtain⟨p,a1⟩:=a0.out;exact⟨by first|rfl |(rw[X];rfl),p,a1⟩
set_option maxRecDepth 100000 in
theorem yV{c:List aM}(u:b.heap[a]? =some (.cells D 279 (0,0)))(K:b.heap[A]? =some (.cells c.toArray 279 (0,0)))
  (w:c.length=2) (Y:i<d) (a1:d<=f) (G:D.size=f*2) (a0:d<=1000) (J:f<=aO) (B:∀M∈c,M.oneCell'=true):
  aL ab 178 #[ai (some (Ad a 0)) d f,II i,II d,ai (some (Ad A 0)) 1 z7] b fun y N=>
   y=.returned (ai (some (Ad a 0)) (i+1) f)/\N=b.setRow a (f_ (f_ D.toList (i*2) c) ((i+1)*2) (qq (d-(i+1)))).toArray:=by
 obtain⟨L,H,a4,n,a5⟩:=aP CJ;have s:=gA (o:=D.toList) (a:=i*2) (y:=c) (by simp;omega);have p:Hid (∀g,(bB #[129,129] g #[ai (some (Ad a 0)) i f,ai (some (Ad A 0)) 1 z7]).run ab b=.ok (ai (some (Ad a 0)) (i+1) f) (b.setRow a (f_ D.toList (i*2) c).toArray)):=by intro g;have j:=run_append_room (P:=ab) b 129 g 279 L underlying129 H a i f D u (Ad A 0) 1 z7 c (by rw[n,w]) (fun a6 a8 I=>by rw[dt];simp only[aD,K];simpa using I) B (by omega) (by rw[n,w,G];omega);rw[n]at j;exact j
 have v:(b.setRow a (f_ D.toList (i*2) c).toArray).heap[a]? =some (.cells (f_ D.toList (i*2) c).toArray 279 (0,0)):=dO _ _ D _ _ _ u;have x:Hid (∀(h:aK) (g:bG) (k:Nat),h=b.setRow a (f_ D.toList (i*2) c).toArray->(bE #[129] g #[ai (some (Ad a ((i+1)*2))) (d-(i+1)) k]).run ab h
   = .ok (.tuple #[]) (b.setRow a (f_ (f_ D.toList (i*2) c) ((i+1)*2) (qq (d-(i+1)))).toArray)):=by
  intro h g k t;obtain⟨O,z,C⟩:=CG a ((i+1)*2) (d-(i+1)) k h (by rw[t];exact v) (by rw[dr,s];simp;omega) g;rw[z,C,t,dP]
 have m:i+1=d->b.setRow a (f_ D.toList (i*2) c).toArray=b.setRow a (f_ (f_ D.toList (i*2) c) ((i+1)*2) (qq (d-(i+1)))).toArray:=by intro j;congr 2;rw[<-j];generalize f_ D.toList (i*2) c=a7;simp[f_,qq]
 replace m:=fK m;unfold aO at J;have X:((i:Int)==(d:Int))=false:=beq_eq_false_iff_ne.2 (by omega);have S:¬(f=i):=by omega
 have U:(i:Int)<=(f:Int):=by omega
 have V:(i:Int)<=(d:Int):=by omega
 have W:(d:Int)<=(f:Int):=by omega
 have a3:IntKind.i64.wrap ((i:Int)+1)=(i:Int)+1:=by rw[dq];omega
 have Q:(0:Int)<=(i:Int)+1:=by omega
 have a2:((i:Int)+1).toNat=i+1:=by omega
 have a9:=dM underlying129;have b0:=mR;clear s v;by_cases Z:i+1<d
 ·have R:¬(f=i+1):=by omega
  have E:(i:Int)+1<(d:Int):=by omega
  have T:(i:Int)+1<=(d:Int):=by omega
  go_enter func178,ntmps178;go_wp2_with (at_builtin;refine gJ rfl _ _ _ _ rfl _ _ rfl rfl (p.out _) ?_;refine Hid.out ?_);refine fK ?_;generalize e:du b a _=q;replace e:=fK e;go_wp2_with (refine jd rfl _ _ rfl _ rfl (x.out q _ _ e.out.symm) ?_;refine Hid.out ?_);refine fK ?_;go_wp2_with fail;go_ret;exact⟨rfl,rfl⟩
 ·have E:¬((i:Int)+1<(d:Int)):=by omega
  go_enter func178,ntmps178;go_wp2_with (at_builtin;refine gJ rfl _ _ _ _ rfl _ _ rfl rfl (p.out _) ?_;refine Hid.out ?_);refine fK ?_;generalize e:du b a _=q;replace e:=fK e;go_wp2_with fail;go_ret;exact⟨rfl,by rw[<-e.out];exact m.out (by omega)⟩
set_option maxRecDepth 100000 in
theorem zP{n:aM->aK->Prop}(w:∃k cap,h=.slice k a cap/\i<=a/\a<=cap/\cap<=9223372036854775807/\(k=none->a=0/\cap=0)/\∀m,k=some m->∃s,m=Ad s 0)
  (q:aL ab 200 #[h,II i,e] b fun c g=>∃f,c=.returned f/\n f g):aL ab 178 #[h,II i,II i,e] b fun c g=>∃f,c=.returned f/\n f g:=by
 obtain⟨k,cap,rfl,hi,z,y,o,p⟩:=w;have l:=fK q;clear q;have A:=dM underlying129;have B:=mR;cases k with
 |none=>
  obtain⟨rfl,rfl⟩:=o rfl;obtain rfl:i=0:=by omega
  clear o p;have u:Hid (aL ab 200 #[ai none 0 0,II 0,e] b fun c g=>∃f,c=.returned f/\n f g):=l.out;clear l;go_enter func178,ntmps178;go_wp2_with fail;refine u.out.mono ?_;rintro c g ⟨t,rfl,d⟩;have j:=fK d;clear d;go_wp2_with fail;go_ret;exact⟨_,rfl,j.out⟩
 |some m=>
  obtain⟨s,rfl⟩:=p m rfl;clear o p;have x:(i:Int)<=(cap:Int):=by omega
  by_cases v:cap=i
  ·subst v;go_enter func178,ntmps178;go_wp2_with fail;refine l.out.mono ?_;rintro c g ⟨t,rfl,d⟩;have j:=fK d;clear d;go_wp2_with fail;go_ret;exact⟨_,rfl,j.out⟩
  ·go_enter func178,ntmps178;go_wp2_with fail;refine l.out.mono ?_;rintro c g ⟨t,rfl,d⟩;have j:=fK d;clear d;go_wp2_with fail;go_ret;exact⟨_,rfl,j.out⟩
theorem zO{K:List iw}{w1:iw}{W:Nat}{g:aK}(C:g.ownsRow 0 279 2 e K.length (gy K))(j:g.heap[f]? =some (.cells #[II w1.1,w1.2] 279 (0,0)))(V:e.ownBlock≠some f)(T:i<=d)(A:d<=K.length)(B:K.length<=1000)
  (H:∀r∈K,r.2.oneCell'=true) (J:w1.2.oneCell'=true):
  aL ab 178 #[e,II i,II d,ai (some (Ad f 0)) 1 W] g fun z y=>
   ∃w,z=.returned w/\y.ownsRow 0 279 2 w (K.take i++w1::K.drop d).length (gy (K.take i++w1::K.drop d))/\g.grownBy y e.ownBlock/\(w.ownBlock=e.ownBlock\/∀k,w.ownBlock=some k->g.heap.size<=k):=by
 have L:∀M∈[bh .i64 w1.1,w1.2],M.oneCell'=true:=by
  intro M j;simp only[cF,dH,or_false]at j;rcases j with rfl|rfl
  ·rfl
  ·exact J
 rcases dC T with I|rfl
 ·rcases C.2 with⟨_,Q⟩|⟨k,cap,a,rfl,_,s,v,h,q,D⟩
  ·omega
  ·have S:gy (K.take i++w1::K.drop d)=(gy K).take (i*2)++[II w1.1,w1.2]++(gy K).drop (d*2):=by rw[lQ,ko,pN,pM,bq]
   have t:(K.take i++w1::K.drop d).length=i+1+(K.length-d):=by simp;omega
   have l:=Es (b:=a.toList) (y:=gy K) (w0:=[II w1.1,w1.2]) (t4:=qq (K.length-(i+1+(K.length-d)))) (a:=i*2) (d:=d*2) (by rw[ic];exact D) (by simp;omega) (by rw[ic];omega) (by grind) (by rw[k_];simp;omega);rw[ic,<-S,show i*2+[bh .i64 w1.1,w1.2].length=(i+1)*2 from by simp;omega]at l;have u:=gA (o:=a.toList) (a:=i*2) (y:=[II w1.1,w1.2]) (by simp;omega);have E:=gA (o:=f_ a.toList (i*2) [II w1.1,w1.2]) (a:=(i+1)*2) (y:=(gy K).drop (d*2)) (by grind);rcases dC A with U|rfl
   ·refine(zQ s j (ic _) rfl D I U v q B h (mg H) L).mono ?_;rintro z y ⟨rfl,x,rfl⟩;rw[t];have p:=qO (b:=g) (d:=K.length) (f:=i+1+(K.length-d)) (n:=cap) (A:=x) (o:=f_ (f_ (f_ a.toList (i*2) [II w1.1,w1.2]) ((i+1)*2) ((gy K).drop (d*2))) ((i+1+(K.length-d))*2) (qq (K.length-(i+1+(K.length-d))))) s
     (by rw[gA (by rw[E,u,k_];simp;omega),E,u];simpa using q) (by omega) h t (by grind)
    exact⟨_,rfl,p.1,p.2,bg rfl⟩
   ·refine(yV s j rfl I v q B h L).mono ?_;rintro z y ⟨rfl,rfl⟩;have O:(gy K).drop (K.length*2)=[]:=List.drop_eq_nil_of_le (by rw[ic];omega);have P:f_ (f_ a.toList (i*2) [II w1.1,w1.2]) ((i+1)*2) []=f_ a.toList (i*2) [II w1.1,w1.2]:=by generalize f_ a.toList (i*2) [II w1.1,w1.2]=x;simp[f_]
    rw[O,P]at l;rw[dD,Nat.add_zero]at l t;rw[dD,Nat.add_zero]at l;rw[t];have p:=qO (b:=g) (d:=K.length) (f:=i+1) (n:=cap) (A:=0) (o:=f_ (f_ a.toList (i*2) [II w1.1,w1.2]) ((i+1)*2) (qq (K.length-(i+1)))) s
     (by rw[gA (by rw[u,k_];simp;omega),u];simpa using q) (by omega) h t l
    exact⟨_,rfl,p.1,p.2,bg rfl⟩
 ·refine zP (a:=K.length) ?_ ((CE C j V A B H J).mono ?_)
  ·rcases C.2 with⟨rfl,Q⟩|⟨k,cap,a,rfl,_,s,v,h,q,D⟩
   ·grind
   ·refine⟨_,cap,rfl,A,v,by unfold aO at h;omega,fun G=>(by cases G),fun N G=>⟨k,?_⟩⟩;grind
  grind
theorem CD(B:b.heap[a]? =some (.cells D 279 (0,0)))(G:o.length=d*2)(K:D.toList.take (d*2)=o)(a0:0<d)(a1:d<=f)(H:D.size=f*2)(Z:d<=1000)(n:f<=aO)(s:∀w∈o,w.oneCell'=true):
  aL ab 180 #[ai (some (Ad a 0)) d f,II 0,II 1] b fun q Q=>
   q=.returned (ai (some (Ad a 0)) (d-1) f)/\∃O,Q=(b.drewN O).setRow a (f_ (f_ D.toList 0 (o.drop 2)) ((d-1)*2) (qq 1)).toArray:=by
 obtain⟨N,I,a3,M,a4⟩:=aP CJ;have u:(o.drop 2).length=(d-1)*2:=by rw[dx,G];omega
 have z:=gA (o:=D.toList) (a:=0) (y:=o.drop 2) (by rw[u];simp;omega);have x:Hid (∀(c:aK) (j:bG) (k g:Nat),c.heap=b.heap->(k=2\/d=1)->(bB #[129,129] j #[ai (some (Ad a 0)) 0 f,ai (some (Ad a k)) (d-1) g]).run ab c=.ok (ai (some (Ad a 0)) (d-1) f) (c.setRow a (f_ D.toList 0 (o.drop 2)).toArray)):=by
  intro c j k g t a2;have C:c.heap[a]? =some (.cells D 279 (0,0)):=by rw[t];exact B
  have A:=run_append_room (P:=ab) c 129 j 279 N underlying129 I a 0 f D C (Ad a k) (d-1) g (o.drop 2) (by rw[M,u]) (fun a5 a6 v=>by
   have Y:=(bo.1 v).1;have J:k=2:=by omega
   subst J;rw[cG,<-K,bp (by omega)]at v;rw[dt];simp only[aD,C];simpa using v) (fun w L=>s w (dv L)) (by omega) (by rw[u,H];omega)
  rw[Nat.zero_mul,aw]at A;exact A
 have y:Hid (∀(c:aK) (j:bG) (g:Nat),c.heap=(b.setRow a (f_ D.toList 0 (o.drop 2)).toArray).heap->(bE #[129] j #[ai (some (Ad a ((d-1)*2))) (d-(d-1)) g]).run ab c
   = .ok (.tuple #[]) (c.setRow a (f_ (f_ D.toList 0 (o.drop 2)) ((d-1)*2) (qq 1)).toArray)):=by
  intro c j g t;have q:d-(d-1)=1:=by omega
  rw[q];obtain⟨R,s,rfl⟩:=CG a ((d-1)*2) 1 g c (by rw[t];exact dO _ _ D _ _ _ B) (by rw[dr,z];simp;omega) j;exact s
 unfold aO at n;have S:(1:Int)<=(d:Int):=by omega
 have T:(1:Int)<=(f:Int):=by omega
 have U:(d:Int)<=(f:Int):=by omega
 have V:¬(f=d-1):=by omega
 have W:((d-1:Nat):Int)<=(d:Int):=by omega
 have X:¬(f=0):=by omega
 have a7:=dM underlying129;have a8:=mR;clear z;by_cases E:f=1
 ·obtain rfl:d=1:=by omega
  subst E;go_enter func180,ntmps180;go_wp2_with fail;go_region_law (refine mX rfl (.tmp 22) (.tmp 25) _ _ rfl _ _ (by kernel_rfl) (by kernel_rfl) (x.out _ _ 0 0 rfl (by simp)) ?_;generalize e:du _ a _=m;replace e:=fK e;refine Hid.out ?_;refine fK ?_);have p:Hid (∀h:aK,h.heap=m.heap->h.heap=(b.setRow a (f_ D.toList 0 (o.drop 2)).toArray).heap):=by intro h n;rw[n,<-e.out];rfl
  go_wp2_with (refine jd rfl _ _ rfl _ rfl (y.out m _ _ (p.out _ rfl)) ?_;refine Hid.out ?_);refine fK ?_;go_wp2_with fail;go_ret;refine⟨rfl,1,?_⟩;rw[<-e.out];exact dP (b.drewN 1) a (f_ D.toList 0 (o.drop 2)).toArray _
 ·go_enter func180,ntmps180;go_wp2_with fail;go_region_law (refine mX rfl (.tmp 22) (.tmp 25) _ _ rfl _ _ (by kernel_rfl) (by kernel_rfl) (x.out _ _ 2 (f-1) rfl (bg rfl)) ?_;generalize e:du _ a _=m;replace e:=fK e;refine Hid.out ?_;refine fK ?_);have p:Hid (∀h:aK,h.heap=m.heap->h.heap=(b.setRow a (f_ D.toList 0 (o.drop 2)).toArray).heap):=by intro h n;rw[n,<-e.out];rfl
  go_wp2_with (refine jd rfl _ _ rfl _ rfl (y.out m _ _ (p.out _ rfl)) ?_;refine Hid.out ?_);refine fK ?_;go_wp2_with fail;go_ret;refine⟨rfl,1,?_⟩;rw[<-e.out];exact dP (b.drewN 1) a (f_ D.toList 0 (o.drop 2)).toArray _
theorem CC{r:iw}{K:List iw}(A:b.ownsRow 0 279 2 e (r::K).length (gy (r::K)))(z:(r::K).length<=1000)(x:∀d∈r::K,d.2.oneCell'=true):
  aL ab 180 #[e,II 0,II 1] b fun h g=>
   ∃f,h=.returned f/\g.ownsRow 0 279 2 f K.length (gy K)/\b.grownBy g e.ownBlock/\f.ownBlock=e.ownBlock:=by
 rcases A.2 with⟨_,w⟩|⟨C,cap,a,rfl,_,t,v,p,q,B⟩
 ·simp at w
 ·have u:=ic (r::K);refine(CD t u B (by simp) v q z p (mg x)).mono ?_;rintro h g ⟨rfl,d,rfl⟩;have s:(gy (r::K)).drop 2=gy K:=by rw[ko];rfl
  have k:=Dr (a:=a.toList) (y:=gy (r::K)) (w0:=qq 1) (by grind) (by grind) (by rw[k_]);have y:(r::K).length-1=K.length:=by simp
  rw[u,show(r::K).length*2-2=K.length*2 from by simp;omega,s]at k;rw[y,s];have D:=ic K;have E:K.length+1<=cap:=by simpa using v
  have j:=gA (o:=a.toList) (a:=0) (y:=gy K) (by grind);have l:=qO (b:=b) (d:=(r::K).length) (f:=K.length) (n:=cap) (A:=d) (o:=f_ (f_ a.toList 0 (gy K)) (K.length*2) (qq 1)) t (by rw[gA (by rw[j,k_];simp;omega),j];simpa using q) (by omega) p rfl k;exact⟨_,rfl,l.1,l.2,rfl⟩
theorem mA(e:-4611686018427387904<=c/\c<=4611686018427387904)(j:a<=4611686018427387):
  aL ab 176 #[.agg #[II c,.slice R a cap]] b fun d f=>d=.returned (II (c+a))/\Bw b f:=by
 obtain⟨g,h⟩:=e;go_enter func176,ntmps176;go_wp2;go_ret;exact⟨rfl,fO _ _⟩
theorem zL{l:Int}(u:-4611686018427387904<=c/\c<=4611686018427387904)(v:a<=4611686018427387)(s:CI b f 0 first)(t:CI b n 0 l):
  aL ab 175 #[.agg #[II c,.slice R a cap],Pt f,Pt n] b fun g d=>g=.returned (.bool (decide (c<=first)&&decide (l<=c+a)))/\Bw b d:=by
 have x:=hK s;have y:=hK t;have q:Hid (∀e,aL ab 176 #[.agg #[II c,.slice R a cap]] e fun g d=>g=.returned (II (c+a))/\Bw e d):=fun e=>mA u v;have p:Hid (∀e d:aK,Bw e d->(CI e f 0 first/\CI e n 0 l/\io e b 0 c/\lq e b 1 (.slice R a cap))->
   (CI d f 0 first/\CI d n 0 l/\io d b 0 c/\lq d b 1 (.slice R a cap))):=
  fun e d j h=>⟨fL h.1 j,fL h.2.1 j,fL h.2.2.1 j,fL h.2.2.2 j⟩
 by_cases o:c<=first
 ·have k:decide (c<=first)=true:=by simpa using o
  go_enter func175,ntmps175;go_wp2_with fail;go_region_held3 (fun d=>d.cell? (Ad f 0)=some (II first)/\d.cell? (Ad n 0)=some (II l)/\d.cell? (gf b 0)=some (II c)/\d.cell? (gf b 1)=some (.slice R a cap)) (first|assumption|go_keep) (first
   |(go_at_call 176;refine(q.out _).mono ?_;rintro g z ⟨rfl,m⟩;have w:=p.out _ _ m (by assumption)))
  go_wp2_with fail;go_ret;exact⟨by rw[k];rfl,fP (fO _ _) (gc m)⟩
 ·have k:decide (c<=first)=false:=by simpa using o
  go_enter func175,ntmps175;go_wp2_with fail;go_quiet (fail);go_wp2_with fail;go_ret;refine⟨by rw[k];rfl,?_⟩;exact fQ (fO _ _) _
theorem xk{K:List iw}{C:List gH}(j:b.ownsRow 0 279 2 e K.length (gy K))(P:md K C)(I:∀r∈C,-4611686018427387904<=r.1/\r.1<=4611686018427387904/\r.2.length<=4611686018427387)(a9:K.length<=1000)
  (W:CI b a 0 first) (X:CI b d 0 g):
  aL ab 199 #[e,.func (.func 175) #[] #[Pt a,Pt d]] b fun B a3=>
   (∃c:Int,B=.returned (II c)/\(0<=c↔(C.any fun r=>decide (r.1<=first)&&decide (g<=gi r))=true))/\Bw b a3:=by
 obtain⟨U,cap,rfl⟩:=gr j;have T:=fK j;have u:=fK P;have S:=fK I;clear j P I;go_enter func199,ntmps199;go_wp2_with fail;go_loopw [8] (fun i wr=>∃c:Nat,c<=K.length/\i=II c/\Bw b wr/\Hid (∀(h:Nat) r,h<c->C[h]? =some r->(decide (r.1<=first)&&decide (g<=gi r))=false)) (fun i _=>K.length-(aQ i).toNat);case atStart=>exact⟨0,be _,rfl,Below.refl _ _,fun h r p=>by omega⟩
 case round=>
  obtain⟨c,a8,rfl,k,q⟩:=hrel;by_cases N:c<K.length
  ·obtain⟨s,w⟩:∃s,K[c]? =some s:=⟨_,ap N⟩;obtain⟨r,l⟩:∃r,C[c]? =some r:=⟨_,ap (by rw[<-u.out.1];exact N)⟩;obtain⟨D,z,A,E,a7⟩:=u.out.2 c s r w l;obtain⟨b1,b2⟩:=s;simp only at D E;subst D E;have j:=gp T.out k;rcases j.2 with⟨_,a6⟩|⟨H,a4,a5,G,_,a0,b0,Y,Z,a1⟩
   ·omega
   simp only[Value.slice.injEq]at G;obtain⟨rfl,_,rfl⟩:=G;obtain⟨Q,R⟩:=lR w;have c1:wr.cell? (Ad H (c*2))=some (II r.1):=by rw[j.cellAt (c*2) (by omega)];exact Q
   have V:wr.cell? (Ad H (c*2+1))=some (.slice z r.2.length A):=by rw[j.cellAt (c*2+1) (by omega)];exact R
   have o:=S.out r (bS l);have x:=fK (zL (c:=r.1) (cap:=A) (R:=z) ⟨o.1,o.2.1⟩ o.2.2 (fL W k) (fL X k));have y:=fK l;have n:=fK k;have t:=fK q;clear j a0 a1 Z Y Q R o l w q;go_wp2_with fail;refine x.out.mono ?_;rintro B b3 ⟨rfl,J⟩;have L:=fK (fP n.out J);clear J x n k c1 V;cases M:(decide (r.1<=first)&&decide (g<=r.1+(r.2.length:Int)))
   ·go_wp2_with fail;go_roundw;case rel=>
     refine⟨c+1,by omega,by go_num,L.out,fun h a2 p O=>?_⟩;rcases ay h c with m|m
     ·exact t.out h a2 m O
     ·obtain rfl:h=c:=by omega
      obtain rfl:=Option.some.inj (y.out.symm.trans O);exact M
    case measure=>simp[aQ];omega
   ·go_wp2_with fail;go_ret;refine⟨⟨c,rfl,?_⟩,L.out⟩;refine⟨fun _=>?_,fun _=>by omega⟩;rw[List.any_eq_true];exact⟨r,bS y.out,M⟩
  ·obtain rfl:c=K.length:=by omega
   have t:=fK q;have n:=fK k;clear q k;go_wp2_with fail;go_ret;refine⟨⟨-1,rfl,?_⟩,n.out⟩;refine⟨fun v=>by omega,fun v=>?_⟩;rw[List.any_eq_true]at v;obtain⟨r,l,m⟩:=v;obtain⟨h,p,rfl⟩:=List.getElem_of_mem l;have:=t.out h C[h] (by rw[u.out.1];exact p) (ap p);rw[this]at m;cases m
theorem yU{K:List iw}{C:List gH}(o:b.ownsRow 0 279 2 e K.length (gy K))(p:md K C)(l:∀r∈C,-4611686018427387904<=r.1/\r.1<=4611686018427387904/\r.2.length<=4611686018427387)(n:K.length<=1000)
  (j:CI b a 0 first) (k:CI b d 0 g):
  aL ab 174 #[e,.func (.func 175) #[] #[Pt a,Pt d]] b fun h u=>
   h=.returned (.bool (C.any fun r=>decide (r.1<=first)&&decide (g<=gi r)))/\Bw b u:=by
 have f:=fK (xk o p l n j k);clear o p l n j k;go_enter func174,ntmps174;go_wp2_with fail;refine f.out.mono ?_;rintro h v ⟨⟨t,rfl,m⟩,s⟩;have q:=fK m;clear m f;have c:decide (0<=t)=(C.any fun r=>decide (r.1<=first)&&decide (g<=gi r)):=by rw[Bool.eq_iff_iff,decide_eq_true_iff];exact q.out
 replace c:=fK c;go_wp2_with fail;go_ret;refine⟨?_,s⟩;rw[<-c.out];rfl
theorem CB{K:List iw}{C:List gH}(s:CV b a d e)(j:b.ownsRow 0 279 2 e K.length (gy K))(q:md K C)(m:∀r∈C,-4611686018427387904<=r.1/\r.1<=4611686018427387904/\r.2.length<=4611686018427387)(p:K.length<=1000):
  aL ab 148 #[ag (some (Ad a d)),II first,II g] b fun l t=>l=.returned (.bool (iJ C first g))/\Bw b t:=by
 have v:=hK s;obtain⟨u,cap,rfl⟩:=gr j;have c:Bw b ((b.alloc (.cells #[II first] 3)).alloc (.cells #[II g] 3)):=(fO _ _).alloc (by simp) _;have k:=fK (yU (first:=first) (g:=g) (a:=b.heap.size) (d:=b.heap.size+1) (gp j c) q m p (by simp) (by simp));have f:=fK c;clear j q m p c;by_cases o:g<=first
 ·have h:decide (g<=first)=true:=by simpa using o
  go_enter func148,ntmps148;go_wp2_with fail;go_ret;exact⟨by unfold iJ;rw[h];rfl,f.out⟩
 ·have h:decide (g<=first)=false:=by simpa using o
  go_enter func148,ntmps148;go_wp2_with fail;refine k.out.mono ?_;rintro l w ⟨rfl,n⟩;have c:=fK (fP f.out n);clear n k f;go_wp2_with fail;go_ret;exact⟨by unfold iJ;rw[h,Bool.false_or];rfl,c.out⟩
abbrev qX(rb off g b0 k:Nat)(lv:aM)(f:Int)(iv:aM)(a:Int)(av:aM)(w:aK):Prop:=
 w.cell? (Ad rb off)=some lv/\w.cell? (Ad g (k*2))=some (II f)/\w.cell? (Ad g (k*2+1))=some iv/\w.cell? (Ad b0 0)=some (II a)/\w.cell? (Ad b0 1)=some av
theorem qX.below{l k:Nat}{j:aM}{a:Int}{q:aM}(h:qX l d f n k e c j a q w)(g:Bw w b):qX l d f n k e c j a q b:=
 ⟨fL h.1 g,fL h.2.1 g,fL h.2.2.1 g,fL h.2.2.2.1 g,fL h.2.2.2.2 g⟩
theorem yW{K:List iw}{C:List gH}{x9:gH}(E:CV b d f e)(Y:b.ownsRow 0 279 2 e K.length (gy K))(a0:md K C)(b6:∀r∈C,-4611686018427387904<=r.1/\r.1<=4611686018427387904/\r.2.length<=4611686018427387)(g1:K.length<=1000)
  (b5:-4611686018427387904<=x9.1/\x9.1<=4611686018427387904/\x9.2.length<=4611686018427387):
  aL ab 177 #[ag (some (Ad d f)),.agg #[II x9.1,.slice R x9.2.length a]] b fun t j=>t=.returned (.tuple #[II (lx C x9),II (xw C x9)])/\Bw b j:=by
 obtain⟨T,cap,rfl⟩:=gr Y;have g0:=hK E;have D:Bw b (b.alloc (.cells #[II x9.1,.slice R x9.2.length a] 279)):=fO _ _;have X:=a0.1;have a5:Hid (∀(c:Nat) (wr:aK),c<K.length->Below (b.heap.size+1) (b.alloc (.cells #[II x9.1,.slice R x9.2.length a] 279)) wr->∃m r L J,T=some (Ad m 0)/\C[c]? =some r/\qX d f m b.heap.size c (.slice T K.length cap) r.1 (.slice L r.2.length J) x9.1 (.slice R x9.2.length a) wr/\-4611686018427387904<=r.1/\r.1<=4611686018427387904/\r.2.length<=4611686018427387):=by
  intro c wr u l;have b7:Bw b wr:=fP D (by simpa using l);obtain⟨M,c4⟩:∃M,K[c]? =some M:=⟨_,ap u⟩;obtain⟨r,w⟩:∃r,C[c]? =some r:=⟨_,ap (by rw[<-X];exact u)⟩;obtain⟨b0,c5,c6,z,_⟩:=a0.2 c M r c4 w;obtain⟨g7,g8⟩:=M;simp only at b0 z;subst b0 z;have Z:=gp Y b7;rcases Z.2 with⟨_,f5⟩|⟨m,f2,f3,b1,_,f8,g2,f6,f7,g6⟩
  ·omega
  simp only[Value.slice.injEq]at b1;obtain⟨rfl,_,rfl⟩:=b1;obtain⟨d8,d9⟩:=lR c4;have c9:=b6 r (bS w);refine⟨m,r,c5,c6,rfl,w,⟨fL E b7,?_,?_,?_,?_⟩,c9⟩
  ·rw[Z.cellAt (c*2) (by omega)];exact d8
  ·rw[Z.cellAt (c*2+1) (by omega)];exact d9
  ·rw[l.cell (by simp)];simp
  ·rw[l.cell (by simp)];simp
 have P:Hid (∀wr,Below (b.heap.size+1) (b.alloc (.cells #[II x9.1,.slice R x9.2.length a] 279)) wr->wr.cell? (Ad d f)=some (.slice T K.length cap)):=by intro wr l;exact fL E (fP D (by simpa using l))
 have O:=fK b5;have o:=fK X;have N:=fK D;clear Y a0 b6 E X D b5;go_enter func177,ntmps177;go_wp2_with fail;go_loopw [6] (fun i wr=>∃c:Nat,c<=K.length/\i=II c/\Below (b.heap.size+1) (b.alloc (.cells #[II x9.1,.slice R x9.2.length a] 279)) wr/\Hid (∀(h:Nat) r,h<c->C[h]? =some r->decide (gi r<x9.1)=true)) (fun i _=>K.length-(aQ i).toNat);case atStart=>exact⟨0,be _,rfl,Below.refl _ _,fun h r d1=>by omega⟩
 case round=>
  obtain⟨c,u,rfl,l,I⟩:=hrel;by_cases d2:c<K.length
  ·obtain⟨m,r,L,J,rfl,w,b3,d5,d6,d7⟩:=a5.out c wr d2 l;have d0:decide ((c:Int)<(K.length:Int))=true:=by simp;omega
   have a8:Hid (∀s,aL ab 176 #[.agg #[II r.1,.slice L r.2.length J]] s fun t j=>t=.returned (II (r.1+r.2.length))/\Bw s j):=fun s=>mA ⟨d5,d6⟩ d7;obtain⟨e2,e3,e4,e5,e6⟩:=id b3;have a3:=fK l;have Q:=fK I;have S:=fK w;clear l I w;go_wp2_with fail;go_region_held3 (fun j=>j.cell? (Ad d f)=some (ai (some (Ad m 0)) K.length cap)/\j.cell? (Ad m (c*2))=some (II r.1)/\j.cell? (Ad m (c*2+1))=some (.slice L r.2.length J)/\j.cell? (gf b 0)=some (II x9.1)/\j.cell? (gf b 1)=some (.slice R x9.2.length a)) (first|assumption|go_keep) (first
    |(go_at_call 176;refine(a8.out _).mono ?_;rintro t g9 ⟨rfl,V⟩;have c7:=qX.below (by assumption) V))
   have B:=fK (rj a3.out V);clear V c7 b3 e2 e3 e4 e5 e6 a8 a3;by_cases b8:r.1+(r.2.length:Int)<x9.1
   ·go_wp2_with fail;go_roundw;case rel=>
     refine⟨c+1,by omega,by go_num,B.out,fun h p d1 k=>?_⟩;rcases ay h c with A|A
     ·exact Q.out h p A k
     ·obtain rfl:h=c:=by omega
      obtain rfl:=Option.some.inj (S.out.symm.trans k);exact decide_eq_true b8
    case measure=>simp[aQ];omega
   ·have q:Hid (lx C x9=c):=pd (by rw[<-o.out];exact u) Q.out (fun p k=>by obtain rfl:=Option.some.inj (S.out.symm.trans k);exact decide_eq_false (by unfold gi;exact b8));clear Q S;go_wp2_with fail;go_loopw [7] (fun i wr=>∃g:Nat,c<=g/\g<=K.length/\i=II g/\Below (b.heap.size+1) (b.alloc (.cells #[II x9.1,.slice R x9.2.length a] 279)) wr/\Hid (∀(h:Nat) r,c<=h->h<g->C[h]? =some r->decide (r.1<=gi x9)=true)) (fun i _=>K.length-(aQ i).toNat);case atStart=>exact⟨c,ar _,u,rfl,B.out,fun h r U b2=>by omega⟩
    case round=>
     obtain⟨g,G,H,rfl,n,v⟩:=hrel;by_cases d4:g<K.length
     ·obtain⟨f4,a1,e1,e0,z,c3,b4,g3,g4,g5⟩:=a5.out g wr d4 n;first|subst z |(obtain rfl:=Addr.mk.inj (Option.some.inj z) |>.1)
      have c2:decide ((g:Int)<(K.length:Int))=true:=(by simp;omega);have a9:Hid (∀s,aL ab 176 #[.agg #[II x9.1,.slice R x9.2.length a]] s fun t j=>t=.returned (II (x9.1+x9.2.length))/\Bw s j):=fun s=>mA ⟨O.out.1,O.out.2.1⟩ O.out.2.2;obtain⟨e7,e8,e9,f0,f1⟩:=id b4;have x:=fK n;have a6:=fK v;have a7:=fK c3;clear n v c3;go_wp2_with fail;go_region_held3 (fun j=>j.cell? (Ad d f)=some (ai (some (Ad m 0)) K.length cap)/\j.cell? (Ad m (g*2))=some (II a1.1)/\j.cell? (Ad m (g*2+1))=some (.slice e1 a1.2.length e0)/\j.cell? (gf b 0)=some (II x9.1)/\j.cell? (gf b 1)=some (.slice R x9.2.length a)) (first|assumption|go_keep) (first
       |(go_at_call 176;refine(a9.out _).mono ?_;rintro t h0 ⟨rfl,W⟩;have c8:=qX.below (by assumption) W))
      have a2:=fK (rj x.out W);clear W c8 b4 e7 e8 e9 f0 f1 a9;by_cases b9:a1.1<=x9.1+(x9.2.length:Int)
      ·go_wp2_with fail;go_roundw;case rel=>
        refine⟨g+1,by omega,by omega,by go_num,a2.out,fun h p U b2 k=>?_⟩;rcases ay h g with A|A
        ·exact a6.out h p U A k
        ·obtain rfl:h=g:=by omega
         obtain rfl:=Option.some.inj (a7.out.symm.trans k);exact decide_eq_true b9
       case measure=>simp[aQ];omega
      ·have y:Hid (xw C x9=g):=Be q.out G (by rw[<-o.out];exact H) a6.out (fun p k=>by obtain rfl:=Option.some.inj (a7.out.symm.trans k);exact decide_eq_false (by unfold gi;exact b9));go_wp2_with fail;go_ret2;exact⟨by rw[q.out,y.out];rfl,fP N.out (by simpa using a2.out)⟩
     ·obtain rfl:g=K.length:=by omega
      have c2:decide (((K.length:Nat):Int)<(K.length:Int))=false:=by simp
      have d3:=P.out wr n;have x:=fK n;have y:Hid (xw C x9=K.length):=Be q.out G (by rw[<-o.out];exact H) v (fun p k=>by have:=(bo.1 k).1;have:=o.out;omega);clear n v;go_wp2_with fail;go_quiet (fail);go_wp2_with fail;go_ret2;exact⟨by rw[q.out,y.out];rfl,fP N.out (by simpa using fQ x.out _)⟩
  ·obtain rfl:c=K.length:=by omega
   have d0:decide (((K.length:Nat):Int)<(K.length:Int))=false:=by simp
   have f9:=P.out wr l;have q:Hid (lx C x9=K.length):=pd (by rw[<-o.out];exact u) I (fun p k=>by have:=(bo.1 k).1;have:=o.out;omega);have a4:=fK l;clear l I;go_wp2_with fail;go_quiet (fail);have B:=fK (fQ a4.out nq);clear a4;go_wp2_with fail;go_loopw [7] (fun i wr=>∃g:Nat,K.length<=g/\g<=K.length/\i=II g/\Below (b.heap.size+1) (b.alloc (.cells #[II x9.1,.slice R x9.2.length a] 279)) wr/\Hid (∀(h:Nat) r,K.length<=h->h<g->C[h]? =some r->decide (r.1<=gi x9)=true)) (fun i _=>K.length-(aQ i).toNat);case atStart=>exact⟨K.length,ar _,u,rfl,B.out,fun h r U b2=>by omega⟩
   case round=>
    obtain⟨g,G,H,rfl,n,v⟩:=hrel;obtain rfl:g=K.length:=by omega
    have c2:decide (((K.length:Nat):Int)<(K.length:Int))=false:=by simp
    have d3:=P.out wr n;have x:=fK n;have y:Hid (xw C x9=K.length):=Be q.out G (by rw[<-o.out];exact H) v (fun p k=>by have:=(bo.1 k).1;have:=o.out;omega);clear n v;go_wp2_with fail;go_quiet (fail);go_wp2_with fail;go_ret2;exact⟨by rw[q.out,y.out];rfl,fP N.out (by simpa using fQ x.out _)⟩
theorem Ax:(ab.info? 230).map (fun i=>(i.zero,i.size,i.bytes))=some (some (.agg #[]),0,0):=by kernel_rfl
theorem Ja(k:a<=4611686018427)(b:aK):(Instr.makeSlice 232 (II (a:Int)) (II (a:Int))).run ab b=.ok (ai (some (gf b 0)) a a) (b.alloc (.cells #[] 230)):=by
 obtain⟨f,c,d,l,e⟩:=aP Ax;have j:=run_make (P:=ab) b 232 230 f (.agg #[]) underlying232 c d .i64 .i64 (a:Int) (a:Int) (by omega) (Int.le_refl _) (by rw[e];omega) (by omega);have g:((a:Nat):Int).toNat=a:=by omega
 have h:madeCells (dL #[]).cells 0=#[]:=Array.eq_empty_of_size_eq_zero (by simp[madeCells]);grind
theorem Ip(h f:Option Addr)(d l b c:Nat)(o:bG)(a:aK):(bD #[232,232] o #[.slice h d l,.slice f b c]).run ab a=.ok (goInt (dK b d)) a:=by
 obtain⟨e,k,p,n,q⟩:=aP Ax;have j:(dY e.size (dK b d) (.slice f b c)).run ab a=.ok #[] a:=by
  cases f with
  |none=>exact run_firstCells_none (P:=ab) a e.size _ b c
  |some g=>exact run_firstCells_some (P:=ab) a e.size _ g b c [] (by rw[n];simp) (fun s t m=>by simp at m)
 cases h with
 |none=>simp[bD,dM underlying232,Builtin.lenOf,sizeOf,typeInfo,k,j]
 |some g=>simp[bD,dM underlying232,Builtin.lenOf,sizeOf,typeInfo,k,j,storeCells]
theorem G2{a:gH}{av tv:aM}{vs:List iw}{M:List gH}(ha:∃aa ac,av=.slice aa a.2.length ac)(RQ:0<a.2.length)(hp:Me w tv vs)(MH:md vs M)(K4:∀r∈M,0<r.2.length)
  (hb:∀r∈a::M,0<=r.1/\gi r<=1099511627776) (hn:vs.length<=1000):
  aL ab 179 #[.agg #[II a.1,av],tv] w fun e w'=>∃J n,e=.returned (.agg #[II (lN a M).1,ai (some (Ad J 0)) n n])/\n=(lN a M).2.length/\w.heap.size<=J/\Bw w w':=by
 obtain⟨ta,tc,rfl,Pp⟩:=hp;obtain⟨aa,ac,rfl⟩:=ha;have hA:=hb a (by simp);have Sn:gi a=a.1+a.2.length:=rfl;have HX:Hid (∀W,aL ab 176 #[.agg #[II a.1,.slice aa a.2.length ac]] W fun e w'=>e=.returned (II (a.1+a.2.length))/\Bw W w'):=fun W=>mA (c:=a.1) (a:=a.2.length) (cap:=ac) (R:=aa) (b:=W) (by omega) (by omega);have HA:Hid (∀W w':aK,Bw W w'->(CI W w.heap.size 0 a.1/\CV W w.heap.size 1 (.slice aa a.2.length ac))->(CI w' w.heap.size 0 a.1/\CV w' w.heap.size 1 (.slice aa a.2.length ac))):=
  fun W w' hb h=>⟨fL h.1 hb,fL h.2 hb⟩
 go_enter func179,ntmps179;go_wp2_with fail;go_region_held3 (fun w'=>w'.cell? (Ad w.heap.size 0)=some (II a.1)/\w'.cell? (Ad w.heap.size 1)=some (.slice aa a.2.length ac)) (first|assumption|go_keep) (first
  |(go_at_call 176;refine(HX.out _).mono ?_;rintro e wq ⟨rfl,KW⟩;have QR:=HA.out _ _ KW (by assumption)))
 have OG:Bw w wq:=fP ((fO w _).alloc (by simp) _) (gc KW);have hR:wq.heap[w.heap.size+1]? =some (.cells #[II 0,ai none 0 0] 279 (0,0)):=by rw[KW.block (w.heap.size+1) (by simp[World.drew])];have:=cA (w.alloc (.cells #[II a.1,.slice aa a.2.length ac] 279)) (.cells #[II 0,ai none 0 0] 279);simpa[World.drew] using this
 obtain⟨s0,s1⟩:=QR;have Su:w.heap.size+2<=wq.heap.size:=by have:=KW.size;simpa[World.drew] using this
 have OR:=fK OG;have HR:=fK hR;have Qq:=fK s0;have OD:=fK s1;have HK:Hid (∀(k:Nat) (wr:aK),k<vs.length->Bw wq wr->∃g o r rv rc,ta=some (Ad g o)/\M[k]? =some r/\wr.cell? (Ad g (o+k*2))=some (II r.1)/\wr.cell? (Ad g (o+k*2+1))=some (.slice rv r.2.length rc)/\0<=r.1/\gi r<=1099511627776/\0<r.2.length):=by intro k wr hk tl;have xr:Bw w wr:=fP OR.out tl;obtain⟨v,hv⟩:∃v,vs[k]? =some v:=⟨_,ap hk⟩;obtain⟨r,hr⟩:∃r,M[k]? =some r:=⟨_,ap (by rw[<-MH.1];exact hk)⟩;obtain⟨e1,ND,NG,e2,_⟩:=MH.2 k v r hv hr;obtain⟨g,o,e3,c1,c2⟩:=Pp k v hv;have h5:=hb r (by simp[bS hr]);rw[e2]at c2;rw[e1]at c1;exact⟨g,o,r,ND,NG,e3,hr,fL c1 xr,fL c2 xr,h5.1,h5.2,K4 r (bS hr)⟩
 have Mb:=fK MH.1;have Qi:Hid (∀k,0<=nt a (M.take k)/\nt a (M.take k)<=a.1/\gi a<=rX a (M.take k)/\rX a (M.take k)<=1099511627776):=by
  intro k;have h1:=vK (C:=M.take k) a;have h2:=vH (C:=M.take k) a;refine⟨?_,h1.1,h2.1,?_⟩
  ·rcases BW (C:=M.take k) a with h|⟨q,hq,h⟩
   ·rw[h];exact hA.1
   ·rw[h];exact(hb q (by simp[ck hq])).1
  ·rcases BR (C:=M.take k) a with h|⟨q,hq,h⟩
   ·rw[h];exact hA.2
   ·rw[h];exact(hb q (by simp[ck hq])).2
 clear Pp MH K4 hb KW OG hR s0 s1 HX HA;go_wp2_with fail;go_loopw [5,6,18] (fun s5 s6 i wr=>∃k:Nat,k<=vs.length/\i=II k/\s5=II (nt a (M.take k))/\s6=II (rX a (M.take k))/\Bw wq wr) (fun _ _ i _=>vs.length-(aQ i).toNat);case atStart=>exact⟨0,be _,rfl,rfl,rfl,Below.refl _ _⟩
 case round=>
  obtain⟨k,hk,rfl,rfl,rfl,tl⟩:=hrel;have hL:=Qi.out k;by_cases Nf:k<vs.length
  ·obtain⟨g,o,r,rv,rc,rfl,hr,c1,c2,Q9,Q',P7⟩:=HK.out k wr Nf tl;have Q_:gi r=r.1+r.2.length:=rfl;have HX:Hid (∀W,aL ab 176 #[.agg #[II r.1,.slice rv r.2.length rc]] W fun e w'=>e=.returned (II (r.1+r.2.length))/\Bw W w'):=fun W=>mA (c:=r.1) (a:=r.2.length) (cap:=rc) (R:=rv) (b:=W) (by omega) (by omega);have HA:Hid (∀W w':aK,Bw W w'->(CI W wr.heap.size 0 r.1/\CV W wr.heap.size 1 (.slice rv r.2.length rc))->(CI w' wr.heap.size 0 r.1/\CV w' wr.heap.size 1 (.slice rv r.2.length rc))):=
    fun W w' hb h=>⟨fL h.1 hb,fL h.2 hb⟩
   have HT:Hid (M.take (k+1)=M.take k++[r]):=nf hr;have Ha:=fK tl;clear tl hr;generalize Pj:nt a (M.take k)=lo at hL;generalize Pf:rX a (M.take k)=hi at hL;have Qh:=fK Pj;have Qf:=fK Pf;clear Pj Pf;obtain⟨l1,l2,l3,l4⟩:=hL;go_wp2_with fail;rcases Int.lt_or_le r.1 lo with Q5|Q5<;>rcases Int.lt_or_le hi (r.1+(r.2.length:Int)) with hm2|hm2
   all_goals go_region_held3 (fun w'=>w'.cell? (Ad wr.heap.size 0)=some (II r.1)/\w'.cell? (Ad wr.heap.size 1)=some (.slice rv r.2.length rc)) (first|assumption|go_keep) (first
    |(go_at_call 176;refine(HX.out _).mono ?_;rintro e wz ⟨rfl,NO⟩;have QS:=HA.out _ _ NO (by assumption)))
   all_goals
    have NL:Bw wq wz:=fP Ha.out (fP (fO wr _) (gc NO));replace NL:=fK NL;clear NO QS HX HA;go_wp2_with fail;go_roundw;case rel=>
     refine⟨k+1,by omega,by go_num,congrArg (bh .i64) ?_,congrArg (bh .i64) ?_,NL.out⟩
     ·rw[HT.out,DS,Qh.out]<;>omega
     ·rw[HT.out,DJ,Qf.out];unfold gi;omega
    case measure=>simp[aQ];omega
  ·obtain rfl:k=vs.length:=by omega
   have NM:M.take vs.length=M:=List.take_of_length_le (by rw[Mb.out];exact ar _);rw[NM]at hL⊢;have PS:=fL Qq.out tl;have PT:=fL OD.out tl;have Ha:=fK tl;have ME:nt a M<rX a M:=by omega
   have OV:Hid ((lN a M).1=nt a M):=rfl;have Kb:Hid ((lN a M).2=qJ (nt a M) (jA (List.replicate (rX a M-nt a M).toNat 0) (a.1-nt a M).toNat a.2) M):=rfl;have Ma:Hid (∀r∈M,nt a M<=r.1/\gi r<=rX a M):=fun r hr=>⟨(vK (C:=M) a).2 r hr,(vH (C:=M) a).2 r hr⟩;clear tl NM;generalize nt a M=lo at hL ME OV Kb Ma⊢;generalize rX a M=hi at hL ME Kb Ma⊢;obtain⟨l1,l2,l3,l4⟩:=hL;obtain⟨n,Q8⟩:∃n:Nat,hi-lo=n:=⟨(hi-lo).toNat,by omega⟩;have P8:IntKind.i64.wrap (hi-lo)=(n:Int):=by rw[dq];omega
   have IK:(hi-lo).toNat=n:=by omega
   have R8:Hid ((lN a M).2.length=n):=by
    show _=_;rw[Kb.out,sB,lk]
    ·simp[IK]
    ·simp only[aV];omega
    ·intro q hq;have h5:=Ma.out q hq;unfold gi at h5;rw[lk (by simp only[aV];omega)];simp only[aV];omega
   have P6:=Ja (a:=n) (by omega);have P5:=Ip;have OK:CI ((wr.alloc (.cells #[] 230)).alloc (.cells #[II lo,ai (some (Ad wr.heap.size 0)) n n] 279)) w.heap.size 0 a.1:=fL PS ((fO wr _).alloc (by simp) _);have OL:CV ((wr.alloc (.cells #[] 230)).alloc (.cells #[II lo,ai (some (Ad wr.heap.size 0)) n n] 279)) w.heap.size 1 (.slice aa a.2.length ac):=fL PT ((fO wr _).alloc (by simp) _);clear PS PT;replace P5:=fK P5;go_wp2_with fail;have M_:Bw wr ((wr.alloc (.cells #[] 230)).alloc (.cells #[II lo,ai (some (Ad wr.heap.size 0)) n n] 279)):=(fO wr _).alloc (by simp) _;have h9:((wr.alloc (.cells #[] 230)).alloc (.cells #[II lo,ai (some (Ad wr.heap.size 0)) n n] 279)).heap[wr.heap.size+1]? =some (.cells #[II lo,ai (some (Ad wr.heap.size 0)) n n] 279 (0,0)):=by have:=cA (wr.alloc (.cells #[] 230)) (.cells #[II lo,ai (some (Ad wr.heap.size 0)) n n] 279);simpa using this
   generalize (wr.alloc (.cells #[] 230)).alloc (.cells #[II lo,ai (some (Ad wr.heap.size 0)) n n] 279)=W2 at M_ h9 OK OL⊢;have M8:W2.cell? (Ad (wr.heap.size+1) 1)=some (ai (some (Ad wr.heap.size 0)) n n):=by simp[aD,h9]
   obtain⟨d,hd⟩:∃d:Nat,a.1-lo=d:=⟨(a.1-lo).toNat,by omega⟩;have SU:IntKind.i64.wrap (a.1-lo)=(d:Int):=by rw[dq];omega
   have SV:IntKind.i64.wrap (d:Int)=(d:Int):=by rw[dq];omega
   have QX:(d:Int)<=(n:Int):=by omega
   have QY:¬(n=d):=by omega
   have H9:=fK h9;have OQ:=fK M_;clear h9 M_ P6;go_region_held3 (fun w'=>w'.cell? (Ad (wr.heap.size+1) 1)=some (ai (some (Ad wr.heap.size 0)) n n)/\w'.cell? (Ad w.heap.size 0)=some (II a.1)/\w'.cell? (Ad w.heap.size 1)=some (.slice aa a.2.length ac)) (first|assumption|go_keep) (first
    |(refine jy rfl (.tmp 43) (.tmp 45) 232 232 rfl (ai (some (Ad wr.heap.size 0)) (n-d) (n-d)) (.slice aa a.2.length ac) (by kernel_rfl) (by kernel_rfl) (P5.out _ _ _ _ _ _ _ _) ?_))
   have DH:Bw wq W2.drew:=fQ (fP Ha.out OQ.out) 1;have O':W2.drew.heap[wr.heap.size+1]? =some (.cells #[II lo,ai (some (Ad wr.heap.size 0)) n n] 279 (0,0)):=H9.out;have So:wq.heap.size<=wr.heap.size:=Ha.out.size;generalize W2.drew=W3 at *
   generalize wr.heap.size=J at *
   have H3:=fK (And.intro DH O');clear H9 OQ OK OL M8 DH O' Ha;go_wp2_with fail;go_loopw [49] (fun i wr=>∃k:Nat,k<=vs.length/\i=II k/\Hid (Bw wq wr/\wr.heap[J+1]? =some (.cells #[II lo,ai (some (Ad J 0)) n n] 279 (0,0)))) (fun i _=>vs.length-(aQ i).toNat);case atStart=>exact⟨0,be _,rfl,H3.out⟩
   case round=>
    obtain⟨k,hk,rfl,hI⟩:=hrel;obtain⟨tl,ID⟩:=hI.out;have M8:wr.cell? (Ad (J+1) 1)=some (ai (some (Ad J 0)) n n):=by simp[aD,ID]
    by_cases Nf:k<vs.length
    ·obtain⟨g,o,r,rv,rc,rfl,hr,c1,c2,Q9,Q',P7⟩:=HK.out k wr Nf tl;have Q3:=Ma.out r (bS hr);have Q_:gi r=r.1+r.2.length:=rfl;obtain⟨d2,RT⟩:∃d2:Nat,r.1-lo=d2:=⟨(r.1-lo).toNat,by omega⟩;have Rn:IntKind.i64.wrap (r.1-lo)=(d2:Int):=by rw[dq];omega
     have SY:IntKind.i64.wrap (d2:Int)=(d2:Int):=by rw[dq];omega
     have S0:(d2:Int)<=(n:Int):=by omega
     have S1:¬(n=d2):=by omega
     have My:Bw wr (wr.alloc (.cells #[II r.1,.slice rv r.2.length rc] 279)):=fO wr _;have QL:J+1<wr.heap.size:=(bn.1 ID).1;have NE:CV (wr.alloc (.cells #[II r.1,.slice rv r.2.length rc] 279)) (J+1) 1 (ai (some (Ad J 0)) n n):=fL M8 My;have H4:Hid (Bw wq (wr.alloc (.cells #[II r.1,.slice rv r.2.length rc] 279)).drew/\(wr.alloc (.cells #[II r.1,.slice rv r.2.length rc] 279)).drew.heap[J+1]? =some (.cells #[II lo,ai (some (Ad J 0)) n n] 279 (0,0))):=
      ⟨fQ (fP tl My) 1,(My.block _ QL).trans ID⟩
     clear hI tl ID hr My;go_wp2_with fail;go_region_held3 (fun w'=>w'.cell? (Ad (J+1) 1)=some (ai (some (Ad J 0)) n n)/\w'.cell? (Ad wr.heap.size 0)=some (II r.1)/\w'.cell? (Ad wr.heap.size 1)=some (.slice rv r.2.length rc)) (first|assumption|go_keep) (first
      |(refine jy rfl (.tmp 59) (.tmp 61) 232 232 rfl (ai (some (Ad J 0)) (n-d2) (n-d2)) (.slice rv r.2.length rc) (by kernel_rfl) (by kernel_rfl) (P5.out _ _ _ _ _ _ _ _) ?_))
     go_wp2_with fail;go_roundw;case rel=>exact⟨k+1,by omega,by go_num,H4.out⟩
     case measure=>simp[aQ];omega
    ·obtain rfl:k=vs.length:=by omega
     have xr:=fP OR.out tl;have DG:wr.heap[w.heap.size+1]? =some (.cells #[II 0,ai none 0 0] 279 (0,0)):=by rw[tl.block _ (by omega)];exact HR.out
     have Sh:wr.cell? (Ad (J+1) 0)=some (II lo):=by simp[aD,ID]
     have r0:wr.cell? (Ad (w.heap.size+1) 0)=some (II 0):=by simp[aD,DG]
     have r1:wr.cell? (Ad (w.heap.size+1) 1)=some (ai none 0 0):=by simp[aD,DG]
     have f0:wr.frozen? (Ad (w.heap.size+1) 0)=false:=cx wr _ _ _ _ DG;have f1:wr.frozen? (Ad (w.heap.size+1) 1)=false:=cx wr _ _ _ _ DG;have HF:=fK (And.intro xr DG);clear hI tl ID xr DG;go_wp2_with fail;obtain⟨xr,DG⟩:=HF.out;have Q1:((wr.setCell (Ad (w.heap.size+1) 0) (II lo)).setCell (Ad (w.heap.size+1) 1) (ai (some (Ad J 0)) n n)).heap[w.heap.size+1]? =some (.cells #[II lo,ai (some (Ad J 0)) n n] 279 (0,0)):=
      (fT (fT DG 0 _) 1 _).trans rfl
     refine bodyPost_ret (results_cell_row (P:=ab) Tryz.results179 _ _ (w.heap.size+1) 279 #[II lo,ai (some (Ad J 0)) n n] (0,0) _ rfl Q1 underlying279 rfl um) rfl ?_;refine⟨J,n,by rw[OV.out],R8.out.symm,by omega,?_⟩;refine⟨xr.os,xr.tape,xr.output,(by rw[bQ,bQ];exact xr.size),fun q hq=>?_⟩;rw[cy _ _ _ _ (show q≠w.heap.size+1 by omega),cy _ _ _ _ (show q≠w.heap.size+1 by omega)];exact xr.block q hq
structure kC(w:aK)(lv:aM)(vs:List iw)(rl:List gH):Prop where
 own:w.ownsRow 0 279 2 lv vs.length (gy vs)
 sh:md vs rl
theorem kC.part{K:List iw}{C:List gH}(h:kC w (.slice R K.length cap) K C){j:Nat}(q:i<=j)(s:j<=K.length)(f:aM)(m:(i=j/\∃d e,f=.slice d 0 e)\/∃b,R=some (Ad b 0)/\f=ai (some (Ad b (i*2))) (j-i) (cap-i)):
  Me w f ((K.drop i).take (j-i)):=by
 have k:((K.drop i).take (j-i)).length=j-i:=by simp;omega
 rcases m with⟨rfl,d,e,rfl⟩|⟨b,rfl,rfl⟩
 ·refine⟨d,e,by grind,fun c p a=>?_⟩;simp at a
 ·refine⟨_,_,by rw[k],fun c p a=>⟨b,i*2,rfl,?_⟩⟩;have g:=(bo.1 a).1;rw[k]at g;rw[bp g,cG]at a;obtain⟨n,o⟩:=lR a;have l:i*2+c*2=(i+c)*2:=by omega
  rw[l];refine⟨?_,?_⟩
  ·rw[h.own.cellAt _ (by omega)];exact n
  ·rw[h.own.cellAt _ (by omega)];exact o
structure lp(w:aK)(rb off:Nat)(cs:Array aM)(t:bG)(lv:aM)(vs:List iw)(LF:List gH)(w':aK)(rY:aM)(CU:List iw):Prop where
 gK:w'.heap[rb]? =some (.cells (cs.setIfInBounds off rY) t (0,0))
 runs:kC w' rY CU LF
 gx:gm (fun k=>k=rb\/lv.ownBlock=some k) w w'
 at_:rY.ownBlock=lv.ownBlock\/∀g,rY.ownBlock=some g->w.heap.size<=g
theorem kC.below{K:List iw}{C:List gH}(h:kC w e K C)(a:Bw w b):kC b e K C:=⟨gp h.own a,h.sh⟩
theorem CH{K:List iw}{C:List gH}{w1:iw}{r:gH}{u9:Obj}(s:kC b e K C)(p:b.heap[a]? =some (.cells D z (0,0)))(x:z≠279)
  (c:Bw b w) (G:w1.1=r.1/\∃k m,w1.2=ai (some (Ad k 0)) r.2.length m/\r.2.length<=m)
  (u:z5.ownsRow 0 279 2 h (K.take i++w1::K.drop n).length (gy (K.take i++w1::K.drop n))) (B:(w.alloc u9).grownBy z5 e.ownBlock) (y:h.ownBlock=e.ownBlock\/∀k,h.ownBlock=some k->(w.alloc u9).heap.size<=k):
  z5.heap[a]? =some (.cells D z (0,0))/\lp b a d D z e K (C.take i++r::C.drop n) (z5.setCell (Ad a d) h) h (K.take i++w1::K.drop n):=by
 have v:a<b.heap.size:=(bn.1 p).1;have E:e.ownBlock≠some a:=fR s.own p (fun g=>x g.symm);have j:w.grownBy z5 e.ownBlock:=ga B;have q:z5.heap[a]? =some (.cells D z (0,0)):=by rw[j.block a (ca v c.size) (Ne.symm E),c.block a v];exact p
 refine⟨q,?_⟩;have A:gm (fun f=>f=a\/e.ownBlock=some f) b (z5.setCell (Ad a d) h):=by refine⟨j.os.trans c.os,j.tape.trans c.tape,j.output.trans c.output,by rw[bQ];exact Nat.le_trans c.size j.size,fun f l t=>?_⟩;rw[cy _ _ _ _ (show f≠a from fun g=>t (bg g)),j.block f (ca l c.size) (fun g=>t (Or.inr g.symm)),c.block f l]
 obtain⟨H,k,m,I,J⟩:=G;refine⟨(fT q _ _).trans rfl,⟨?_,s.sh.put i n ⟨H,_,m,I,J⟩⟩,A,?_⟩
 ·exact ownsRow_setCell_other u (fR u q (fun g=>x g.symm)) _
 ·rcases y with o|o
  ·exact bg o
  ·refine Or.inr fun f l=>?_;have:=o f l;simp at this;have:=c.size;omega
theorem G1{k:List Int}{K:List iw}{C:List gH}{o:Nat}(a8:b.heap[o]? =some (.cells D z (0,0)))(e8:D[d]? =some h)(d9:z≠279)(v:kC b h K C)(W:kE C)
  (f1:∃y A,e=.slice y k.length A) (d4:k≠[]) (e9:0<=first/\first+k.length<=1099511627776):
  aL ab 149 #[ag (some (Ad o d)),II first,e] b fun c G=>c=.returned (.tuple #[])/\∃t b6,lp b o d D z h K (kU C first k) G t b6:=by
 have f0:0<k.length:=List.length_pos_iff.2 d4;obtain⟨y,A,rfl⟩:=f1;have V:b.cell? (Ad o d)=some h:=by simp only[aD,a8];exact e8
 have d5:K.length=C.length:=v.sh.1;have g7:=W.tz;have d8:=hK V;have h0:((k.length:Int)==0)=false:=beq_eq_false_iff_ne.2 (by omega);have U:Bw b (b.alloc (.cells #[II first,.slice y k.length A] 279)):=fO _ _;have R:=fK (yW (K:=K) (C:=C) (e:=h) (x9:=(first,k)) (R:=y) (a:=A) (d:=o) (f:=d) (b:=b.alloc (.cells #[II first,.slice y k.length A] 279)) (fL V U) (gp v.own U) v.sh W.wide (by omega) (by simp only;omega));have b0:=Hk C (first,k);have Q:Hid (kU C first k=C.take (lx C (first,k))++lN (first,k) ((C.drop (lx C (first,k))).take (xw C (first,k)-lx C (first,k)))::C.drop (xw C (first,k))):=by show _=_;unfold kU;rw[if_neg d4]
 generalize lx C (first,k)=i at R Q b0;generalize xw C (first,k)=m at R Q b0;obtain⟨b2,g8⟩:=b0;have g9:m<=K.length:=by omega
 have h3:K.length<=100:=by omega
 replace d5:=fK d5;have w:=fK v;have a1:=fK a8;clear a8 v;go_enter func149,ntmps149;go_wp2_with fail;refine R.out.mono ?_;rintro c a0 ⟨rfl,M⟩;have a7:=M;replace M:=fP U M;have e6:CV a0 o d h:=fL V M;have g1:io a0 b 0 first:=fL (by simp) a7
 have g2:lq a0 b 1 (.slice y k.length A):=fL (by simp) a7;obtain⟨p,cap,rfl⟩:=gr w.out.own;have a2:Hid (∀(q:aK) (B:aM),Bw b q->((i=m/\∃b4 b5,B=.slice b4 0 b5)\/∃j,p=some (Ad j 0)/\B=ai (some (Ad j (i*2))) (m-i) (cap-i))->aL ab 179 #[.agg #[II first,.slice y k.length A],B] q fun c G=>∃n f,c=.returned (.agg #[II (lN (first,k) ((C.drop i).take (m-i))).1,ai (some (Ad n 0)) f f])/\f=(lN (first,k) ((C.drop i).take (m-i))).2.length/\q.heap.size<=n/\Bw q G):=by
  intro q B e4 Z;have c8:=w.out.below e4;refine G2 ⟨y,A,rfl⟩ f0 (c8.part b2 (by omega) B Z) (c8.sh.sub i (m-i)) ?_ ?_ ?_
  ·intro r O;exact px W.wf (dv (ck O))
  ·intro r O;rcases cF.1 O with rfl|O
   ·exact e9
   ·exact W.L5 r (dv (ck O))
  ·simp;omega
 generalize f2:lN (first,k) ((C.drop i).take (m-i))=u at a2 Q;have b8:Hid (∀(g:aK) (n f:Nat),Bw b g->aL ab 178 #[.slice p K.length cap,II i,II m,ai (some (gf g 0)) 1 1] (g.alloc (.cells #[II u.1,ai (some (Ad n 0)) f f] 279)) fun c G=>∃t H,c=.returned t/\Hid (H=(K.take i++(u.1,ai (some (Ad n 0)) f f)::K.drop m).length)/\G.ownsRow 0 279 2 t H (gy (K.take i++(u.1,ai (some (Ad n 0)) f f)::K.drop m))/\
   (g.alloc (.cells #[II u.1,ai (some (Ad n 0)) f f] 279)).grownBy G (aJ p K.length cap).ownBlock/\(t.ownBlock=(aJ p K.length cap).ownBlock\/∀j,t.ownBlock=some j->(g.alloc (.cells #[II u.1,ai (some (Ad n 0)) f f] 279)).heap.size<=j)):=by
  intro g n f E;refine(zO (K:=K) (w1:=(u.1,ai (some (Ad n 0)) f f)) (i:=i) (d:=m) (f:=g.heap.size) (W:=1) ((gp w.out.own E).alloc _) (cA g _) (fun c=>?_) b2 (by omega) (by omega) w.out.sh.one rfl).mono (fun c G ⟨t,L,c6,e2,e3⟩=>⟨t,_,L,rfl,c6,e2,e3⟩);have:=((gp w.out.own E).lt _ c).2;omega
 have b9:Hid (∀q J:aK,Bw q J->(CV q o d (.slice p K.length cap)/\io q b 0 first/\lq q b 1 (.slice y k.length A))->(CV J o d (.slice p K.length cap)/\io J b 0 first/\lq J b 1 (.slice y k.length A))):=fun q J a6 v=>⟨fL v.1 a6,fL v.2.1 a6,fL v.2.2 a6⟩;have c2:Hid (∀(g s:aK) (c3:Obj),Bw b g->(g.alloc c3).grownBy s (aJ p K.length cap).ownBlock->(g.cell? (Ad o d)=some (.slice p K.length cap)/\g.cell? (gf b 0)=some (II first)/\g.cell? (gf b 1)=some (.slice y k.length A))->(s.cell? (Ad o d)=some (.slice p K.length cap)/\s.cell? (gf b 0)=some (II first)/\s.cell? (gf b 1)=some (.slice y k.length A))/\s.frozen? (Ad o d)=false):=by
  intro g s c3 E b1 v;have d3:=ga b1;have f6:(aJ p K.length cap).ownBlock≠some o:=fR w.out.own a1.out (fun c=>d9 c.symm);have f7:(aJ p K.length cap).ownBlock≠some b.heap.size:=fun c=>by have:=(w.out.own.lt _ c).2;omega
  have c4:s.heap[o]? =g.heap[o]?:=d3.block o (ca d8 E.size) (Ne.symm f6);have c5:s.heap[b.heap.size]? =g.heap[b.heap.size]?:=d3.block _ (hK v.2.1) (Ne.symm f7);refine⟨⟨?_,?_,?_⟩,?_⟩
  ·rw[cn (a:=Ad o d) c4];exact v.1
  ·rw[cn (a:=gf b 0) c5];exact v.2.1
  ·rw[cn (a:=gf b 1) c5];exact v.2.2
  ·exact cx s o d _ _ (c4.trans ((E.block o d8).trans a1.out))
 have P:Hid (Bw b a0.drew):=fQ M _;have b7:Hid (∀(g s:aK) (n f H:Nat) (t:aM),Bw b g->f=u.2.length->s.ownsRow 0 279 2 t H (gy (K.take i++(u.1,ai (some (Ad n 0)) f f)::K.drop m))->Hid (H=(K.take i++(u.1,ai (some (Ad n 0)) f f)::K.drop m).length)->
   (g.alloc (.cells #[II u.1,ai (some (Ad n 0)) f f] 279)).grownBy s (aJ p K.length cap).ownBlock->(t.ownBlock=(aJ p K.length cap).ownBlock\/∀j,t.ownBlock=some j->(g.alloc (.cells #[II u.1,ai (some (Ad n 0)) f f] 279)).heap.size<=j)->
   ∃b6,lp b o d D z (.slice p K.length cap) K (kU C first k) (s.setCell (Ad o d) t) t b6):=by
  intro g s n f H t E N d7 f3 b1 e5;rw[f3.out]at d7;subst N;rw[Q.out];exact⟨_,(CH (w1:=(u.1,ai (some (Ad n 0)) u.2.length u.2.length)) (r:=u) w.out a1.out d9 E ⟨rfl,n,_,rfl,ar _⟩ d7 b1 e5).2⟩
 have d1:p≠none->K.length<=cap:=by
  intro b3;rcases w.out.own.2 with⟨c,_⟩|⟨j,a3,a4,c,_,_,L,_⟩
  ·simp only[Value.slice.injEq]at c;exact absurd c.1 b3
  ·simp only[Value.slice.injEq]at c;omega
 have d6:p=none->K.length=0/\cap=0:=by
  intro b3;rcases w.out.own.2 with⟨c,S⟩|⟨j,a3,a4,c,_,_,L,_⟩
  ·simp only[Value.slice.injEq]at c;omega
  ·simp only[Value.slice.injEq]at c;rw[b3]at c;cases c.1
 have d2:∀I,p=some I->∃j,I=(Ad j 0):=by
  intro I c7;rcases w.out.own.2 with⟨c,S⟩|⟨j,a3,a4,c,_,_,L,_⟩
  ·simp only[Value.slice.injEq]at c;rw[c7]at c;cases c.1
  ·simp only[Value.slice.injEq]at c;rw[c7]at c;exact⟨j,Option.some.inj c.1⟩
 have h8:=dM underlying129;have h9:=mR;have g3:(i:Int)<=(m:Int):=by omega
 have f5:cap<=aO:=by
  rcases w.out.own.2 with⟨c,S⟩|⟨j,a3,a4,c,_,_,L,c6,_⟩
  ·simp only[Value.slice.injEq]at c;unfold aO;omega
  ·simp only[Value.slice.injEq]at c;omega
 unfold aO at f5;clear U V a7 R f2;obtain⟨B,Z,f8,h1⟩:∃B,((i=m/\∃b4 b5,B=.slice b4 0 b5)\/∃j,p=some (Ad j 0)/\B=ai (some (Ad j (i*2))) (m-i) (cap-i))/\True/\∀q:aK,(Instr.slice 129 (.slice p K.length cap) (some (II i)) (some (II m)) none).run ab q=.ok B q:=by
  cases p with
  |none=>
   obtain⟨S,rfl⟩:=d6 rfl;obtain rfl:m=0:=by omega
   obtain rfl:i=0:=by omega
   refine⟨ai none 0 0,bg ⟨rfl,none,0,rfl⟩,trivial,fun q=>?_⟩;rw[S];kernel_rfl
  |some I=>
   obtain⟨j,rfl⟩:=d2 I rfl;have h2:=d1 (by simp);have g4:(m:Int)<=(cap:Int):=by omega
   by_cases a9:cap=i
   ·obtain rfl:m=i:=by omega
    refine⟨ai (some (Ad j 0)) 0 0,bg ⟨rfl,_,0,rfl⟩,trivial,fun q=>?_⟩;rw[oh underlying129 (mR _) (ar _) (by omega),if_pos a9,dD,a9,dD]
   ·refine⟨ai (some (Ad j (i*2))) (m-i) (cap-i),Or.inr ⟨j,rfl,rfl⟩,trivial,fun q=>?_⟩;rw[oh underlying129 (mR _) b2 (by omega),if_neg a9];simp[dt]
 clear d1 d6 d2 f8;have e1:=fK Z;clear Z;go_wp2_with fail;go_region_with (first
  |(go_at_call 179;refine(a2.out _ B P.out e1.out).mono ?_;rintro c g ⟨n,f,rfl,N,_,T⟩;replace N:=fK N;have c9:=b9.out _ _ T ⟨e6,g1,g2⟩;obtain⟨e7,h6,h7⟩:=id c9;have g5:=fun(g0:Obj)=>Lib.cell?_alloc_some g0 e7)
  |(go_at_call 178;refine(b8.out g n f (fP P.out T)).mono ?_;rintro c s ⟨t,f9,rfl,f4,Y,X,a5⟩;obtain⟨h4,h5,rfl⟩:=gr Y;have d0:=c2.out g s _ (fP P.out T) X c9;obtain⟨⟨g6,d0⟩,i0⟩:=d0;replace Y:=fK Y;replace X:=fK X;replace a5:=fK a5))
 all_goals
  have e0:=fK (b7.out g s n f f9 _ (fP P.out T) N.out Y.out f4 X.out a5.out);clear b7 a2 b8 b9 c2;go_wp2_with fail;go_end0;exact⟨rfl,_,e0.out⟩
theorem M1{K s7:List iw}{C t9:List gH}(s:kC b e K C)(k:b.heap[a]? =some (.cells D z (0,0)))(q:z≠279)(c:Bw b w)(x:md s7 t9)
  (o:z5.ownsRow 0 279 2 h s7.length (gy s7)) (g:w.grownBy z5 e.ownBlock) (t:h.ownBlock=e.ownBlock):
  z5.heap[a]? =some (.cells D z (0,0))/\lp b a d D z e K t9 (z5.setCell (Ad a d) h) h s7:=by
 have p:a<b.heap.size:=(bn.1 k).1;have v:e.ownBlock≠some a:=fR s.own k (fun f=>q f.symm);have l:z5.heap[a]? =some (.cells D z (0,0)):=by rw[g.block a (ca p c.size) (Ne.symm v),c.block a p];exact k
 refine⟨l,?_⟩;have u:gm (fun j=>j=a\/e.ownBlock=some j) b (z5.setCell (Ad a d) h):=by refine⟨g.os.trans c.os,g.tape.trans c.tape,g.output.trans c.output,by rw[bQ];exact Nat.le_trans c.size g.size,fun j m n=>?_⟩;rw[cy _ _ _ _ (show j≠a from fun f=>n (bg f)),g.block j (ca m c.size) (fun f=>n (Or.inr f.symm)),c.block j m]
 refine⟨(fT l _ _).trans rfl,⟨?_,x⟩,u,bg t⟩;exact ownsRow_setCell_other o (fR o l (fun f=>q f.symm)) _
theorem wh{r:gH}{rest:List gH}{K:List iw}(B:b.heap[a]? =some (.cells D z (0,0)))(E:D[d]? =some e)(b4:z≠279)(f:kC b e K (r::rest))(G:kE (r::rest)):
  aL ab 151 #[ag (some (Ad a d))] b fun n s=>n=.returned (II (gi r))/\∃c b8,lp b a d D z e K rest s c b8:=by
 have C:b.cell? (Ad a d)=some e:=by simp only[aD,B];exact E
 have c9:=G.L5 r (by simp);have c7:gi r=r.1+r.2.length:=rfl;have L:K.length=rest.length+1:=by rw[f.sh.1];rfl
 have a8:=G.tz;obtain⟨y,h,rfl⟩:∃y h,K=y::h:=by
  cases K with
  |nil=>simp at L
  |cons W X=>exact⟨W,X,rfl⟩
 obtain⟨P,u,v,Q,a9⟩:=f.sh.2 0 y r rfl rfl;obtain⟨c6,d1⟩:=y;simp only at P Q a9;subst P Q;rcases f.own.2 with⟨_,a0⟩|⟨j,cap,c2,Z,_,I,b2,c8,a7,b5⟩
 ·simp at a0
 subst Z;obtain⟨g,q⟩:∃g,g=((r.1,aJ u r.2.length v)::h:List iw).length:=⟨_,rfl⟩;have w:=lR (K:=(r.1,aJ u r.2.length v)::h) (a:=0) rfl;have c3:b.cell? (Ad j 0)=some (II r.1):=by rw[f.own.cellAt 0 (by simp)];exact w.1
 have c4:b.cell? (Ad j 1)=some (.slice u r.2.length v):=by rw[f.own.cellAt 1 (by simp;omega)];exact w.2
 have d0:0<g:=by rw[q];simp
 have V:Hid (∀A,aL ab 176 #[.agg #[II r.1,.slice u r.2.length v]] A fun n s=>n=.returned (II (r.1+r.2.length))/\Bw A s):=fun A=>mA (by omega) (by omega);have N:Hid (∀p:aK,Bw b p->aL ab 180 #[ai (some (Ad j 0)) g cap,II 0,II 1] p fun n s=>∃c o,n=.returned c/\Hid (o=h.length)/\s.ownsRow 0 279 2 c o (gy h)/\p.grownBy s (zq j g cap).ownBlock/\c.ownBlock=(zq j g cap).ownBlock):=by intro p M;rw[q];exact(CC (gp f.own M) (by simp at L a8⊢;omega) f.sh.one).mono (fun n s ⟨c,a1,a2,a3,a4⟩=>⟨c,_,a1,rfl,a2,a3,a4⟩)
 have O:Hid (∀(p m:aK) (c:aM) (o:Nat),Bw b p->Hid (o=h.length)->m.ownsRow 0 279 2 c o (gy h)->p.grownBy m (zq j g cap).ownBlock->c.ownBlock=(zq j g cap).ownBlock->
   m.heap[a]? =some (.cells D z (0,0))/\lp b a d D z (nr j g cap) ((r.1,.slice u r.2.length v)::h) rest (m.setCell (Ad a d) c) c h):=by
  intro p m c o M b0 t I a5;rw[b0.out]at t;have T:=f.sh;rw[<-q]at f;exact M1 f B b4 M ⟨by have:=T.1;simpa using this,fun i b7 w b6 b3=>T.2 (i+1) b7 w b6 b3⟩ t I a5
 have a6:D[d]? =some (nr j g cap):=by rw[q];exact E
 rw[<-q]at C⊢;have b9:=fK q;clear f B I b2 a7 b5 L q w G E;go_enter func151,ntmps151;go_wp2_with fail;refine(V.out b).mono ?_;rintro n U ⟨rfl,x⟩;have Y:=fL C x;go_wp2_with fail;refine(N.out U x).mono ?_;rintro n m ⟨c,o,rfl,b1,t,S,R⟩;obtain⟨J,H⟩:=O.out U m c o x b1 t S R;obtain⟨d2,d3,rfl⟩:=gr t;have c5:m.cell? (Ad a d)=some (nr j g cap):=(by simp only[aD,J];exact a6);have d4:mc m a d:=cx m a d _ _ J;replace H:=fK H;clear J t S R N O Y C x;go_wp2_with fail;go_ret;exact⟨rfl,_,h,H.out⟩
end Go.Proofs.YthmdjhlhodpbhaaGreatDoor
