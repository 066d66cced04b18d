import Derived.Lib.Overlaps
import Derived.Lib.AppendZeros
import Derived.Lib.AppendZerosOnto
import Derived.Laws.Externs
import Derived.Deep.DeepFit
import Derived.Lib.SliceRun
import Derived.Test.YthmdjhlhodpbhaaGreatDoorM04
set_option maxHeartbeats 16000000
set_option maxRecDepth 8000
set_option linter.all false
namespace Go.Proofs.YthmdjhlhodpbhaaGreatDoor
open Go.RowKit
open _root_.List renaming getElem?_eq_getElem → ap, getElem?_take_of_lt → bp, getElem?_eq_some_iff → bo, getElem?_drop → cG, getElem?_append_right → bN, mem_of_getElem? → bS, take_of_length_le → bP, getElem?_append_left → aZ, size_toArray → dr, replicate → aT, mem_of_mem_drop → dv, mem_of_mem_take → ck, getElem?_cons_succ → cf, getElem?_eq_none → cJ, mem_cons → cF, getElem_of_mem → dw, length_drop → dx, drop_eq_nil_of_le → dy, append_assoc → bq, getElem?_map → dA, length_take → dB, foldl_append → dE, getElem?_cons_zero → ce, takeWhile_sublist → dG, not_mem_nil → dH
open _root_.Array renaming getElem?_eq_some_iff → bn
open Go.IntKind renaming wrap_i64 → dq
open Go.World renaming cell? → aD, size_setCell → bQ, setRow → du, cell?_of_block → cn
open _root_.Nat renaming le_refl → ar, lt_or_ge → ay, zero_le → be, lt_of_lt_of_le → ca, min_def → dz, lt_or_eq_of_le → dC, mul_one → ba, zero_add → aw, sub_self → dD, add_assoc → dF, le_trans → bZ, min → dK
open Go.Addr renaming add_lit → dt
open Go.Value renaming slice → aJ, ownBlock → aq, int → bh, agg → dL
open _root_.Or renaming inl → bg, inr → bf
open _root_.Int renaming lt_or_le → bO
open Go.Builtin renaming copy_ → bD, clear_ → bE, append_ → bB, zeroCells → bj
open _root_.And renaming intro → co
open Go.Instr renaming slice → dI
open _root_.Go renaming sizeOf → dJ, heap_setCell_other → cy, World → aK, Calls → aL, run_underlying → dM, Value → aM, setRow_other → dN, maxLen → aO, ownsRow_setCell_other → cC, setRow_heap → dO, frozen_of_row → cx, heap_alloc_new → cA, setRow_setRow → dP, TypeId → bG, info_parts → aP
open Go.RowKit renaming intOf → aQ
open _root_.Go.Proofs.Tryz
open _root_.Go.Proofs.Tryz renaming prog → ab
open Go.Value renaming slice → ai, pointer → ag
attribute [local simp] CV CI Bw mc lq io
variable {b w z5:World}{a d f i cap n A z7 c1 w2 len:Nat}{e h:Value}{D:Array Value}{z y8:TypeId}{R:Option Addr}{o y:List Value}{first g c:Int}{k:List Int}{y5:Program}
def qq(n:Nat):List aM:=(aT n [bh .i64 0,ai none 0 0]).flatten
theorem k_(a:Nat):(qq a).length=a*2:=by simp[qq]
theorem qO{K:List iw}(g:b.heap[a]? =some (.cells D z (0,0)))(p:o.length=n*2)(k:f<=n)(e:n<=aO)(j:K.length=f)(l:o.take (f*2)=gy K):
  ((b.drewN A).setRow a o.toArray).ownsRow 0 z 2 (nr a f n) f (gy K)/\b.grownBy ((b.drewN A).setRow a o.toArray) (zq a d n).ownBlock:=
 ⟨⟨by rw[ic,j],.inr ⟨a,n,_,rfl,be _,dO (b.drewN A) a D _ _ _ g,k,e,by omega,l⟩⟩,
  ⟨rfl,rfl,rfl,by simp_all,fun m _ h=>dN (b.drewN A) a m _ (fun c=>h (by simp[c,aq]))⟩⟩
theorem Dr{a w0:List aM}(e:y.length<=a.length)(c:2<=y.length)(f:w0.length=2):(f_ (f_ a 0 (y.drop 2)) (y.length-2) w0).take (y.length-2)=y.drop 2:=by
 have d:(y.drop 2).length=y.length-2:=dx;have b:=gA (o:=a) (a:=0) (y:=y.drop 2) (by omega);apply List.ext_getElem?;intro i;rcases ay i (y.length-2) with hi|hi
 ·rw[bp hi,ku (by omega),if_neg (by omega),ku (by omega),if_pos (by omega),Nat.sub_zero]
 grind
def md(vs:List iw)(rl:List gH):Prop:=vs.length=rl.length/\∀(i:Nat) v r,vs[i]? =some v->rl[i]? =some r->v.1=r.1/\∃ao cap,v.2=.slice ao r.2.length cap/\r.2.length<=cap
theorem pd{α:Type}{p:α->Bool}:∀{l:List α} {k:Nat},k<=l.length->(∀(j:Nat) a,j<k->l[j]? =some a->p a=true)->(∀a,l[k]? =some a->p a=false)->(l.takeWhile p).length=k
 |[],k,hk,_,_=>by simp at hk;simp[hk]
 |a::l,0,_,_,h=>by have:=h a rfl;simp[this]
 |a::l,k+1,hk,h1,h2=>by have h0:=h1 0 a (by omega) rfl;rw[List.takeWhile_cons,h0];simp only[if_true,List.length_cons];rw[pd (by simpa using hk) (fun j b hj hb=>h1 (j+1) b (by omega) hb) (fun b hb=>h2 b hb)]
theorem rj(c:Below a b w)(e:Below w.drew.heap.size w.drew z5)(d:a<=b.heap.size:=by simp):Below a b z5:=
 c.trans ((gc e).mono (bZ d c.size))
theorem Be{C:List gH}{x9:gH}(g:lx C x9=a)(j:a<=d)(k:d<=C.length)(e:∀(b:Nat) r,a<=b->b<d->C[b]? =some r->decide (r.1<=gi x9)=true)(f:∀r,C[d]? =some r->decide (r.1<=gi x9)=false):xw C x9=d:=by unfold xw;rw[g,pd (k:=d-a) (by simp;omega) (fun b r h c=>e (a+b) r (by omega) (by omega) (by rwa [cG]at c)) (fun r c=>f r (by grind))];omega
theorem CR:(ab.info? 259).map (fun i=>(i.zero,i.size,i.bytes))=some (some (.agg C'),2,32):=by kernel_rfl
theorem uq:(ab.info? 259).map (·.size)=some 2:=by kernel_rfl
theorem mT(a:aK):(dJ 259).run ab a=.ok 2 a:=by kernel_rfl
theorem G'{x7:Array aM}(j:d≠a)(h:b.heap[a]? =some (.cells D z (0,0)))(c:b.heap[d]? =some (.cells x7 y8 (0,0)))(g:D.size≠0):
  (callFunc 242 #[ai (some (Ad d 0)) n c1,ai (some (Ad a f)) z7 w2]).run ab b=.ok (.value (.bool false)) b:=by
 rw[run_callFunc_extern func242 (by kernel_rfl) (by kernel_rfl) (by kernel_rfl) (e:=Extern.SlicesOverlaps.overlaps #[200,200] #[4]) (by kernel_rfl),
  Lib.run_overlaps_apart b 200 4 259 underlying200 2 mT _ (Ad a f) n c1 z7 w2 j y8 z x7.size D.size (by simp[World.shape?,c]) (by simp[World.shape?,h]) g (cx b d _ _ _ c) (cx b d _ _ _ c)]
 rfl
theorem zW(n:b.heap[a]? =some (.cells D 259 (0,0)))(p:b.heap[A]? =some (.cells o.toArray 259 (0,0)))(x:A≠a)
  (P:y.length=d*2) (z:o.length=2) (U:D.toList.take (d*2)=y) (hi:i<d) (a6:d+1<=f) (Q:D.size=f*2) (S:f<=aO) (M:∀e∈y,e.oneCell'=true) (N:∀e∈o,e.oneCell'=true):
  aL ab 241 #[ai (some (Ad a 0)) d f,II i,ai (some (Ad A 0)) 1 z7] b fun K X=>
   K=.returned (ai (some (Ad a 0)) (d+1) f)/\∃W,X=(b.drewN W).setRow a (f_ (f_ D.toList ((i+1)*2) (y.drop (i*2))) (i*2) o).toArray:=by
 have T:=fun t B c1 C u=>G' (f:=t) (n:=B) (c1:=c1) (z7:=C) (w2:=u) x n p (by omega);unfold aO at S;have a8:IntKind.i64.wrap ((i:Int)+1)=(i:Int)+1:=by rw[dq];omega
 have Z:(0:Int)<=(i:Int)+1:=by omega
 have a4:i<=d:=by omega
 have a7:((i:Int)+1).toNat=i+1:=by omega
 have a0:¬(f=i+1):=by omega
 have a1:(i:Int)<=(d:Int)+1:=by omega
 have a2:¬(f=i):=by omega
 have a9:=dM underlying200;have b0:=mT;have a3:d*2<=D.toList.length:=by simp;omega
 have s:(y.drop (i*2)).length=(d-i)*2:=by rw[dx,P];omega
 have v:∀(c:aK) (h:bG) (g E:Nat),c.heap=b.heap->(bD #[200,200] h #[ai (some (Ad a ((i+1)*2))) (d-i) g,ai (some (Ad a (i*2))) (d+1-i) E]).run ab c
   = .ok (goInt (dK (d+1-i) (d-i))) (c.setRow a (f_ D.toList ((i+1)*2) (y.drop (i*2))).toArray):=by
  intro c h g E j;refine iK _ _ _ _ _ _ _ _ _ _ _ _ _ _ _ _ underlying200 uq (by rw[j];exact n) ?_ ?_ ?_ ?_
  ·rw[s];simp only[dz];split<;>omega
  ·intro V e k;have a5:=(bo.1 k).1;rw[cG,<-U,bp (by omega)]at k;rw[dt];simp only[aD,j,n];simpa using k
  ·rw[s,Q];omega
  ·exact fun e p=>M e (dv p)
 have w:∀(c:aK) (h:bG) (g:Nat),c.heap=(b.setRow a (f_ D.toList ((i+1)*2) (y.drop (i*2))).toArray).heap->(bD #[200,200] h #[ai (some (Ad a (i*2))) (d+1-i) g,ai (some (Ad A 0)) 1 z7]).run ab c
   = .ok (goInt (dK 1 (d+1-i))) (c.setRow a (f_ (f_ D.toList ((i+1)*2) (y.drop (i*2))) (i*2) o).toArray):=by
  intro c h g j;have L:=gA (o:=D.toList) (a:=(i+1)*2) (y:=y.drop (i*2)) (by rw[s];simp;omega);have R:c.heap[a]? =some (.cells (f_ D.toList ((i+1)*2) (y.drop (i*2))).toArray 259 (0,0)):=by rw[j];exact dO b a D _ _ _ n
  have O:=iK _ _ 200 h _ _ (i*2) (d+1-i) g (Ad A 0) 1 z7 _ _ _ _ underlying200 uq R (by rw[z];simp only[dz];split<;>omega) ?_ ?_ N
  ·simpa using O
  ·intro V e k;rw[dt];have:c.heap[A]? =b.heap[A]?:=by rw[j];exact dN b a A _ x
   simp only[aD,this,p];simpa using k
  ·simp only[dr];rw[L,z];simp;omega
 have G:=fK v;have H:=fK w;clear v w;go_enter func241,ntmps241;go_wp2_with (simp only[T]);go_region_law (refine jy rfl (.tmp 73) (.tmp 76) 200 200 rfl (ai (some (Ad a ((i+1)*2))) (d-i) (f-(i+1))) (ai (some (Ad a (i*2))) (d+1-i) (f-i)) (by kernel_rfl) (by kernel_rfl) (G.out _ _ _ _ rfl) ?_;generalize m:du _ a _=J;replace m:=fK m;refine Hid.out ?_;refine fK ?_);have I:Hid (J.heap=(b.setRow a (f_ D.toList ((i+1)*2) (y.drop (i*2))).toArray).heap):=by show _=_;rw[<-m.out];rfl
 go_wp2_with (refine kS rfl _ _ _ _ rfl _ _ rfl rfl (H.out _ _ _ I.out) ?_;generalize q:du _ a _=Y;replace q:=fK q);go_ret;refine⟨rfl,1,?_⟩;rw[<-q.out,<-m.out,dP];rfl
theorem CO(g:b.ownsRow 0 259 2 e a o)(s:b.heap[d]? =some (.cells y.toArray 259 (0,0)))(K:y.length=2)(x:∀E∈y,E.oneCell'=true)(J:a<=1000):
  aL ab 241 #[e,II a,ai (some (Ad d 0)) 1 f] b fun w j=>
   ∃c,w=.returned c/\j.ownsRow 0 259 2 c (a+1) (o++y)/\b.grownBy j e.ownBlock/\(c.ownBlock=e.ownBlock\/∀p,c.ownBlock=some p->b.heap.size<=p):=by
 obtain⟨D,hi,A,B,C⟩:=aP CR;obtain⟨c,j,q,h,t,u⟩:=jR (P:=ab) b 0 200 200 259 D _ 2 32 underlying200 hi A B C rfl (by decide) e a o g (Ad d 0) 1 f y (by omega) (fun L M z=>by rw[dt];simp only[aD,s];simpa using z) x (by unfold aO;omega) (by omega) (be _);have k:=fK q;have l:=fK h;have m:=fK t;have n:=fK u;obtain⟨v,cap,rfl⟩:=gr g;obtain⟨H,I,rfl⟩:=gr h;clear q h t u g s;cases v with
 |none=>go_enter func241,ntmps241;go_wp2_with (at_builtin;refine gJ rfl _ _ _ _ rfl _ _ rfl rfl k.out ?_;refine Hid.out ?_);refine fK ?_;go_wp2;go_ret;exact⟨_,rfl,l.out,m.out,n.out⟩
 |some G=>
  go_enter func241,ntmps241;go_wp2_with (at_builtin;refine gJ rfl _ _ _ _ rfl _ _ rfl rfl k.out ?_;refine Hid.out ?_);all_goals
   refine fK ?_;go_wp2;go_ret;exact⟨_,rfl,l.out,m.out,n.out⟩
theorem zV{g c vb vc:Nat}{cur:Array aM}{xc cs:List aM}(hg:w.heap[g]? =some (.cells cur 259 (0,0)))(hv:w.heap[vb]? =some (.cells xc.toArray 259 (0,0)))
  (KZ:cs.length=n*2) (N0:xc.length=2) (Rk:cur.toList.take (n*2)=cs) (hi:i<n) (qG:c<n+1) (SN:n<=c) (hn:n<=1000) (h1:∀v∈cs,v.oneCell'=true) (QK:∀v∈xc,v.oneCell'=true):
  aL ab 241 #[ai (some (Ad g 0)) n c,II i,ai (some (Ad vb 0)) 1 vc] w fun e w'=>
   ∃rY,e=.returned rY/\w'.ownsRow w.heap.size 259 2 rY (n+1) (cs.take (i*2)++xc++cs.drop (i*2))/\Bw w w':=by
 obtain⟨i0,MB,MI,MJ,K6⟩:=aP CR;have Q2:g<w.heap.size:=(bn.1 hg).1;have Rm:vb<w.heap.size:=(bn.1 hv).1;have NQ:∀j v,cs[j]? =some v->w.cell? (Ad g j)=some v:=fun j v hj=>by have SG:=(bo.1 hj).1;rw[<-Rk,bp (by omega)]at hj;simp only[aD,hg];simpa using hj
 have MA:∀j v,xc[j]? =some v->w.cell? (Ad vb j)=some v:=fun j v hj=>by simp only[aD,hv];simpa using hj
 have hold:(Builtin.firstCells i0.size i (ai (some (Ad g 0)) i c)).run ab w.drew=.ok (cs.take (i*2)).toArray w.drew:=by
  rw[MJ];exact run_firstCells_some w.drew 2 i (Ad g 0) i c (cs.take (i*2)) (by rw[dB];omega) (fun j v hj=>by
   rw[dt,aw];rw[List.getElem?_take]at hj;split at hj
   ·exact NQ j v hj
   ·cases hj)
 obtain⟨G,hG⟩:∃G,G=grownCap w (n+1) c 259:=⟨_,rfl⟩;have QN:n+1<=G:=by rw[hG];exact grownCap_ge w _ _ _
 have QM:G<=aO:=by rw[hG];exact grownCap_le_maxLen w (n+1) c 259 (by unfold aO;omega)
 obtain⟨ol,BO⟩:∃ol:Array aM,ol=(cs.take (i*2)).toArray++bj (dL #[II 0,ai none 0 0]).cells (n+1-i)++bj (dL #[II 0,ai none 0 0]).cells (G-(n+1)):=⟨_,rfl⟩;have OH:ol.size=G*2:=by rw[BO];simp only[Array.size_append,dr,size_zeroCells,dB,KZ];rw[show(dL #[II 0,ai none 0 0]:aM).cells.size=2 from rfl];omega
 have O_:∀j,j<i*2->ol.toList[j]? =cs[j]?:=fun j hj=>by rw[BO];simp only[Array.toList_append,bq];rw[aZ (by simp;omega),bp hj]
 have Pg:(n:Int)+1-(i:Int)=((n+1-i:Nat):Int):=by omega
 have NV:i+(n+1-i)=n+1:=by omega
 have Ps:∀ty,(bB #[200,3] ty #[ai (some (Ad g 0)) i c,II ((n:Int)+1-(i:Int))]).run ab w=.ok (ai (some (gf w 0)) (n+1) G) (w.drew.alloc (.cells ol 259)):=fun ty=>by have h:=Lib.run_append_grow_zeros w 200 3 ty 259 i0 _ .i64 .i64 underlying200 underlying3 MB MI (some (Ad g 0)) i c (cs.take (i*2)) hold (n+1-i) (by omega) (by omega) (by omega) (by omega) (by rw[K6];omega) (by rw[K6,NV];exact growslice_fits qG (by omega));rw[NV,<-hG,<-BO]at h;rw[Pg];exact h
 have FM:(cs.drop (i*2)).length=(n-i)*2:=by rw[dx,KZ];omega
 have HA:=fK Ps;have OB:Hid (∀(W:aK) (ty:bG) (dc:Nat),W.heap=(w.alloc (.cells ol 259)).heap->(bD #[200,200] ty #[ai (some (gf w (i*2))) (n+1-i) dc,ai (some (Ad vb 0)) 1 vc]).run ab W
   = .ok (goInt (dK 1 (n+1-i))) (W.setRow w.heap.size (f_ ol.toList (i*2) xc).toArray)):=by
  intro W ty dc hW;refine iK _ _ _ _ _ _ _ _ _ _ _ _ _ _ _ _ underlying200 uq (by rw[hW];exact cA w _) (by rw[N0];simp only[dz];split<;>omega) ?_ ?_ QK
  ·intro j v hj;rw[dt,aw];have:W.heap[vb]? =w.heap[vb]?:=by rw[hW];exact Below.heap_alloc _ _ _ Rm
   rw[<-MA j v hj];simp only[aD,this]
  ·rw[N0,OH];omega
 have e1:=gA (o:=ol.toList) (a:=i*2) (y:=xc) (by simp;omega);have OC:Hid (∀(W:aK) (ty:bG) (dc sc:Nat),W.heap=((w.alloc (.cells ol 259)).setRow w.heap.size (f_ ol.toList (i*2) xc).toArray).heap->(bD #[200,200] ty #[ai (some (gf w ((i+1)*2))) (n-i) dc,ai (some (Ad g (i*2))) (n-i) sc]).run ab W
   = .ok (goInt (dK (n-i) (n-i))) (W.setRow w.heap.size (f_ (f_ ol.toList (i*2) xc) ((i+1)*2) (cs.drop (i*2))).toArray)):=by
  intro W ty dc sc hW;have NT:W.heap[w.heap.size]? =some (.cells (f_ ol.toList (i*2) xc).toArray 259 (0,0)):=by rw[hW];exact dO _ _ ol _ _ _ (cA w _)
  have h2:=iK _ _ 200 ty _ _ ((i+1)*2) (n-i) dc (Ad g (i*2)) (n-i) sc _ _ (cs.drop (i*2)) _ underlying200 uq NT (by rw[FM];simp only[dz];split<;>omega) ?_ ?_ (fun v hv=>h1 v (dv hv))
  ·simpa using h2
  ·intro j v hj;rw[cG]at hj;rw[dt];have:W.heap[g]? =w.heap[g]?:=by rw[hW,dN _ _ _ _ (by omega)];exact Below.heap_alloc _ _ _ Q2
   rw[<-NQ _ v hj];simp only[aD,this]
  ·simp only[dr];rw[e1,FM];simp;omega
 have FP:(f_ (f_ ol.toList (i*2) xc) ((i+1)*2) (cs.drop (i*2))).take ((n+1)*2)=cs.take (i*2)++xc++cs.drop (i*2):=by
  apply List.ext_getElem?;intro j;rcases ay j ((n+1)*2) with hj|hj
  ·rw[bp hj,ku (by rw[e1,FM];simp;omega),ku (by simp;omega),bq];rcases ay j (i*2) with h1|h1
   ·rw[if_neg (by omega),if_neg (by omega),aZ (by simp;omega),bp h1];exact O_ j h1
   ·rw[bN (by simp;omega),dB,Nat.min_eq_left (by omega)];rcases ay j ((i+1)*2) with h2|h2
    ·rw[if_neg (by omega),if_pos (by omega),aZ (by omega)]
    ·rw[if_pos (by rw[FM];omega),bN (by omega)];congr 1;omega
  ·rw[cJ (by simp;omega),cJ (by simp;omega)]
 have wC:(f_ (f_ ol.toList (i*2) xc) ((i+1)*2) (cs.drop (i*2))).length=G*2:=by rw[gA (by rw[e1,FM];simp;omega),e1];simp;omega
 have HF:=fK FP;have HL:=fK wC;unfold aO at QM;have P8:IntKind.i64.wrap ((i:Int)+1)=(i:Int)+1:=by rw[dq];omega
 have Na:(0:Int)<=(i:Int)+1:=by omega
 have Q3:i<=n:=by omega
 have SS:((i:Int)+1).toNat=i+1:=by omega
 have wB:¬(G=i+1):=by omega
 have DH:(i:Int)<=(n:Int)+1:=by omega
 have Sw:¬(c=i):=by omega
 have Sx:¬(G=i):=by omega
 have Sy:(c:Int)<(n:Int)+1:=by omega
 have Sz:(i:Int)<=(n:Int):=by omega
 have u1:=dM underlying200;have z1:=mT;clear hold BO Ps Pg NV NQ MA O_ FP wC e1 hG;go_enter func241,ntmps241;go_wp2_with (first |(at_builtin;refine gJ rfl _ _ _ _ rfl _ _ rfl rfl (HA.out _) ?_;refine Hid.out ?_));refine fK ?_;generalize KT:(w.alloc (.cells ol 259)).drew=W1;have HQ:Hid (W1.heap=(w.alloc (.cells ol 259)).heap):=by show _=_;rw[<-KT];rfl
 replace KT:=fK KT;go_wp2_with (refine kS rfl _ _ _ _ rfl _ _ (by kernel_rfl) (by kernel_rfl) (OB.out W1 3 (G-i) HQ.out) ?_;refine Hid.out ?_);refine fK ?_;generalize Mx:du _ w.heap.size _=W2;replace Mx:=fK Mx;have Qn:Hid (∀m:aK,m.heap=W2.heap->m.heap=((w.alloc (.cells ol 259)).setRow w.heap.size (f_ ol.toList (i*2) xc).toArray).heap):=by intro m hm;rw[hm,<-Mx.out,<-KT.out];rfl
 go_wp2_with fail;go_region_law (refine jy rfl (.tmp 50) (.tmp 53) 200 200 rfl (ai (some (gf w ((i+1)*2))) (n-i) (G-(i+1))) (ai (some (Ad g (i*2))) (n-i) (c-i)) (by kernel_rfl) (by kernel_rfl) (OC.out _ _ _ _ (Qn.out _ rfl)) ?_;generalize FI:du _ w.heap.size _=W3;replace FI:=fK FI;refine Hid.out ?_;refine fK ?_);go_wp2_with fail;go_ret;have KU:W3=(w.alloc (.cells ol 259)).drew.drew.setRow w.heap.size (f_ (f_ ol.toList (i*2) xc) ((i+1)*2) (cs.drop (i*2))).toArray:=by rw[<-FI.out,<-Mx.out,<-KT.out];exact dP (w.alloc (.cells ol 259)).drew.drew w.heap.size (f_ ol.toList (i*2) xc).toArray _
 have NT:W3.heap[w.heap.size]? =some (.cells (f_ (f_ ol.toList (i*2) xc) ((i+1)*2) (cs.drop (i*2))).toArray 259 (0,0)):=by rw[KU];exact dO _ _ ol _ _ _ (show(w.alloc (.cells ol 259)).drew.drew.heap[w.heap.size]? =_ from cA w _)
 refine⟨_,rfl,⟨by simp only[List.length_append,dB,FM,N0,KZ];omega,.inr ⟨w.heap.size,G,_,rfl,ar _,NT,QN,by unfold aO;omega,?_,HF.out⟩⟩,?_⟩
 ·rw[dr];exact HL.out
 ·rw[KU];refine⟨rfl,rfl,rfl,by simp[du],fun k hk=>?_⟩;rw[dN _ _ _ _ (by omega)];exact Below.heap_alloc w _ _ hk
theorem CN{K:List iw}{w1:iw}(y:b.ownsRow 0 259 2 e K.length (gy K))(j:b.heap[d]? =some (.cells #[II w1.1,w1.2] 259 (0,0)))(I:e.ownBlock≠some d)(hi:i<=K.length)(x:K.length<=1000)
  (t:∀r∈K,r.2.oneCell'=true) (L:w1.2.oneCell'=true):
  aL ab 241 #[e,II i,ai (some (Ad d 0)) 1 f] b fun c m=>
   ∃g,c=.returned g/\m.ownsRow 0 259 2 g (K.length+1) (gy (K.take i++w1::K.drop i))/\b.grownBy m e.ownBlock/\(g.ownBlock=e.ownBlock\/∀h,g.ownBlock=some h->b.heap.size<=h):=by
 have q:∀C∈[bh .i64 w1.1,w1.2],C.oneCell'=true:=by
  intro C j;simp only[cF,dH,or_false]at j;rcases j with rfl|rfl
  ·rfl
  ·exact L
 have v:gy (K.take i++w1::K.drop i)=(gy K).take (i*2)++[II w1.1,w1.2]++(gy K).drop (i*2):=by rw[lQ,ko,pN,pM,bq]
 rcases dC hi with w|rfl
 ·rcases y.2 with⟨_,O⟩|⟨h,cap,k,rfl,_,l,H,u,G,A⟩
  ·omega
  ·have J:d≠h:=fun c=>I (by simp[aq,c]);by_cases z:K.length+1<=cap
   ·refine(zW l j J (ic _) rfl A w z G u (mg t) q).mono ?_;rintro c m ⟨rfl,B,rfl⟩;have M:=gA (o:=k.toList) (a:=(i+1)*2) (y:=(gy K).drop (i*2)) (by grind);have N:=gA (o:=f_ k.toList ((i+1)*2) ((gy K).drop (i*2))) (a:=i*2) (y:=[II w1.1,w1.2]) (by grind);refine⟨_,rfl,⟨by grind,.inr ⟨h,cap,_,rfl,be _,dO (b.drewN B) h k _ _ _ l,z,u,?_,?_⟩⟩,⟨rfl,rfl,rfl,by simp_all,fun s _ p=>dN (b.drewN B) h s _ (fun c=>p (by simp[c,aq]))⟩,bg rfl⟩
    ·grind
    ·rw[v];have P:=DN (b:=k.toList) (y:=gy K) (w0:=[II w1.1,w1.2]) (a:=i*2) (by grind) (by grind) (by grind);grind
   ·refine(zV l j (ic _) rfl A w (by omega) H x (mg t) q).mono ?_;rintro c m ⟨g,rfl,n,E⟩;exact⟨g,rfl,by rw[v];exact gq n (be _),mf E,bf fun s p=>(n.lt s p).1⟩
 ·refine(CO y j rfl q x).mono ?_;rintro c m ⟨g,rfl,n,l,D⟩;refine⟨g,rfl,?_,l,D⟩;rw[List.take_length,List.drop_length,lQ];exact n
theorem Oy:(zeroValue 259).run ab b=.ok (.agg C') b:=by kernel_rfl
theorem CP(b d c f:Nat)(a:aK)(g:a.heap[b]? =some (.cells D 259 (0,0)))(l:d+c*2<=D.size)(j:bG):
  ∃e,(bE #[200] j #[ai (some (Ad b d)) c f]).run ab a=.ok (.tuple #[]) e/\e=a.setRow b (f_ D.toList d (qq c)).toArray:=by
 rcases Nat.eq_zero_or_pos c with rfl|m
 ·refine⟨a,?_,?_⟩
  ·simp[bE,dM underlying200]
  ·have:f_ D.toList d (qq 0)=D.toList:=by simp[f_,qq]
   rw[this];exact(setRow_self a b D _ _ g).symm
 ·refine⟨_,?_,rfl⟩;have k:=pw (P:=ab) a 200 259 j _ underlying200 (Oy (b:=a)) b d c f m D 259 g (by rw[show(dL C':aM).cells.size=2 from rfl];exact l) (by intro o n;have h:o∈[bh .i64 0,ai none 0 0]:=n;simp only[cF,dH,or_false]at h;rcases h with rfl|rfl<;>rfl);exact k
set_option maxRecDepth 100000 in
theorem zZ(I:b.heap[a]? =some (.cells D 259 (0,0)))(J:b.heap[z7]? =some (.cells o.toArray 259 (0,0)))
  (Y:y.length=d*2) (P:o.length=2) (a2:D.toList.take (d*2)=y) (c2:i<A) (c3:A<d) (c6:d<=f) (Z:D.size=f*2) (c5:d<=1000) (h:f<=aO) (G:∀m∈y,m.oneCell'=true) (W:∀m∈o,m.oneCell'=true):
  aL ab 239 #[ai (some (Ad a 0)) d f,II i,II A,ai (some (Ad z7 0)) 1 w2] b fun k a3=>
   k=.returned (ai (some (Ad a 0)) (i+1+(d-A)) f)/\∃p,a3=(b.drewN p).setRow a (f_ (f_ (f_ D.toList (i*2) o) ((i+1)*2) (y.drop (A*2))) ((i+1+(d-A))*2) (qq (d-(i+1+(d-A))))).toArray:=by
 have H:(y.drop (A*2)).length=(d-A)*2:=by rw[dx,Y];omega
 have w:=gA (o:=D.toList) (a:=i*2) (y:=o) (by simp;omega);have O:=gA (o:=f_ D.toList (i*2) o) (a:=(i+1)*2) (y:=y.drop (A*2)) (by rw[w,H];simp;omega);have Q:Hid (∀(e:aK) (j:bG) (c g:Nat),1<=c->e.heap=b.heap->(bD #[200,200] j #[ai (some (Ad a (i*2))) c g,ai (some (Ad z7 0)) 1 w2]).run ab e
   = .ok (goInt 1) (e.setRow a (f_ D.toList (i*2) o).toArray)):=by
  intro e j c g h n;have k:dK 1 c=1:=by simp only[dz];split<;>omega
  have q:=iK e _ 200 j _ a (i*2) c g (Ad z7 0) 1 w2 D 259 _ _ underlying200 uq (by rw[n];exact I) (by rw[P,k]) ?_ ?_ W
  ·rw[k]at q;exact q
  ·intro K m t;rw[dt,aw];simp only[aD,n,J];simpa using t
  ·rw[P,Z];omega
 have R:Hid (∀(e:aK) (j:bG) (c g L:Nat),c=d-A->e.heap=(b.setRow a (f_ D.toList (i*2) o).toArray).heap->(bD #[200,200] j #[ai (some (Ad a ((i+1)*2))) c g,ai (some (Ad a (A*2))) (d-A) L]).run ab e
   = .ok (goInt (d-A:Nat)) (e.setRow a (f_ (f_ D.toList (i*2) o) ((i+1)*2) (y.drop (A*2))).toArray)):=by
  intro e j c g L h n;have k:dK (d-A) c=d-A:=by rw[h];exact Nat.min_self _
  have s:e.heap[a]? =some (.cells (f_ D.toList (i*2) o).toArray 259 (0,0)):=by rw[n];exact dO _ _ D _ _ _ I
  have q:=iK _ _ 200 j _ _ ((i+1)*2) c g (Ad a (A*2)) (d-A) L _ _ (y.drop (A*2)) _ underlying200 uq s (by rw[H,k]) ?_ ?_ (fun m J=>G m (dv J))
  ·rw[k]at q;simpa using q
  ·intro K m t;have c4:=(bo.1 t).1;rw[cG,<-a2,bp (by omega)]at t;rw[dt];simp only[aD,s];rw[List.getElem?_toArray,ku (by simp;omega),if_neg (show ¬(i*2<=A*2+K/\A*2+K<i*2+o.length) from by omega)];exact t
  ·simp only[dr];rw[w,H];simp;omega
 have S:Hid (∀(e:aK) (j:bG) (v c g:Nat),(v=(i+1+(d-A))*2\/c=0)->c=d-(i+1+(d-A))->e.heap=(b.setRow a (f_ (f_ D.toList (i*2) o) ((i+1)*2) (y.drop (A*2))).toArray).heap->(bE #[200] j #[ai (some (Ad a v)) c g]).run ab e
   = .ok (.tuple #[]) (e.setRow a (f_ (f_ (f_ D.toList (i*2) o) ((i+1)*2) (y.drop (A*2))) ((i+1+(d-A))*2) (qq (d-(i+1+(d-A))))).toArray)):=by
  intro e j v c g u h n;have s:e.heap[a]? =some (.cells (f_ (f_ D.toList (i*2) o) ((i+1)*2) (y.drop (A*2))).toArray 259 (0,0)):=by rw[n];exact dO _ _ D _ _ _ I
  rcases u with u|u
  ·subst u h;obtain⟨a4,G,rfl⟩:=CP _ ((i+1+(d-A))*2) (d-(i+1+(d-A))) g _ s (by rw[dr,O,w];simp;omega) j;exact G
  ·subst u;have V:f_ (f_ (f_ D.toList (i*2) o) ((i+1)*2) (y.drop (A*2))) ((i+1+(d-A))*2) (qq (d-(i+1+(d-A))))=f_ (f_ D.toList (i*2) o) ((i+1)*2) (y.drop (A*2)):=by rw[<-h];generalize f_ (f_ D.toList (i*2) o) ((i+1)*2) (y.drop (A*2))=p;simp[f_,qq]
   rw[V,setRow_self e a _ _ _ s];simp[bE,dM underlying200]
 unfold aO at h;have c8:IntKind.i64.wrap ((i:Int)+1)=(i:Int)+1:=by rw[dq];omega
 have a8:(0:Int)<=(i:Int)+1:=by omega
 have c7:((i:Int)+1).toNat=i+1:=by omega
 have a9:¬(f=i+1):=by omega
 have b0:¬(f=i):=by omega
 have b1:¬(f=A):=by omega
 have b7:((i:Int)==(A:Int))=false:=beq_eq_false_iff_ne.2 (by omega);have b9:((A:Int)==(d:Int))=false:=beq_eq_false_iff_ne.2 (by omega);have c9:IntKind.i64.wrap ((i:Int)+1+((d-A:Nat):Int))=(i:Int)+1+((d-A:Nat):Int):=by rw[dq];omega
 have a5:¬((f:Int)<(i:Int)+1+((d-A:Nat):Int)):=by omega
 have a6:(i:Int)+1+((d-A:Nat):Int)<=(f:Int):=by omega
 have a7:(i:Int)+1+((d-A:Nat):Int)<=(d:Int):=by omega
 have b2:(i:Int)<=(f:Int):=by omega
 have b5:(A:Int)<=(d:Int):=by omega
 have b4:(i:Int)<=(A:Int):=by omega
 have b6:(A:Int)<=(f:Int):=by omega
 have b8:(i:Int)+1<=(i:Int)+1+((d-A:Nat):Int):=by omega
 have b3:(i:Int)+1<=(A:Int):=by omega
 have d0:=dM underlying200;have d1:=mT;clear w O;go_enter func239,ntmps239;go_wp2_with fail;go_quiet (fail);generalize x:b.drewN _=C;have M:Hid (C.heap=b.heap):=by show _=_;rw[<-x];rfl
 replace x:=fK x;go_wp2_with (refine kS rfl _ _ _ _ rfl _ _ rfl rfl (Q.out C _ _ _ (by omega) M.out) ?_;refine Hid.out ?_);refine fK ?_;generalize z:du C a _=U;have N:Hid (∀c:aK,c.heap=U.heap->c.heap=(b.setRow a (f_ D.toList (i*2) o).toArray).heap):=by intro c h;rw[h,<-z];simp only[du,M.out]
 replace z:=fK z;go_wp2_with fail;go_region_law (refine jy rfl (.tmp 103) (.tmp 106) 200 200 rfl (ai (some (Ad a ((i+1)*2))) (d-A) (f-(i+1))) (ai (some (Ad a (A*2))) (d-A) (f-A)) (by kernel_rfl) (by kernel_rfl) (R.out _ _ _ _ _ rfl (N.out _ rfl)) ?_;generalize B:du _ a _=E;replace B:=fK B;refine Hid.out ?_;refine fK ?_);have T:Hid (∀c:aK,c.heap=E.heap->c.heap=(b.setRow a (f_ (f_ D.toList (i*2) o) ((i+1)*2) (y.drop (A*2))).toArray).heap):=by intro c h;rw[h,<-B.out];exact(sN (N.out _ rfl) _ _).trans (congrArg World.heap (dP b a _ _))
 have a0:Hid (∃p,E.setRow a (f_ (f_ (f_ D.toList (i*2) o) ((i+1)*2) (y.drop (A*2))) ((i+1+(d-A))*2) (qq (d-(i+1+(d-A))))).toArray=(b.drewN p).setRow a (f_ (f_ (f_ D.toList (i*2) o) ((i+1)*2) (y.drop (A*2))) ((i+1+(d-A))*2) (qq (d-(i+1+(d-A))))).toArray):=by refine⟨nq+1,?_⟩;rw[<-B.out,<-z.out,<-x.out,dP];exact dP (b.drewN (nq+1)) a (f_ D.toList (i*2) o).toArray _
 by_cases X:f=i+1+(d-A);all_goals
  go_wp2_with (refine jd rfl _ _ rfl _ rfl (S.out E _ _ _ _ (by omega) (by omega) (T.out _ rfl)) ?_;refine Hid.out ?_);refine fK ?_;go_wp2_with fail;go_ret;obtain⟨p,a1⟩:=a0.out;exact⟨by first|rfl |(rw[X];rfl),p,a1⟩
set_option maxRecDepth 100000 in
theorem za{c:List aM}(u:b.heap[a]? =some (.cells D 259 (0,0)))(K:b.heap[A]? =some (.cells c.toArray 259 (0,0)))
  (w:c.length=2) (Y:i<d) (a1:d<=f) (G:D.size=f*2) (a0:d<=1000) (J:f<=aO) (B:∀M∈c,M.oneCell'=true):
  aL ab 239 #[ai (some (Ad a 0)) d f,II i,II d,ai (some (Ad A 0)) 1 z7] b fun y N=>
   y=.returned (ai (some (Ad a 0)) (i+1) f)/\N=b.setRow a (f_ (f_ D.toList (i*2) c) ((i+1)*2) (qq (d-(i+1)))).toArray:=by
 obtain⟨L,H,a4,n,a5⟩:=aP CR;have s:=gA (o:=D.toList) (a:=i*2) (y:=c) (by simp;omega);have p:Hid (∀g,(bB #[200,200] g #[ai (some (Ad a 0)) i f,ai (some (Ad A 0)) 1 z7]).run ab b=.ok (ai (some (Ad a 0)) (i+1) f) (b.setRow a (f_ D.toList (i*2) c).toArray)):=by intro g;have j:=run_append_room (P:=ab) b 200 g 259 L underlying200 H a i f D u (Ad A 0) 1 z7 c (by rw[n,w]) (fun a6 a8 I=>by rw[dt];simp only[aD,K];simpa using I) B (by omega) (by rw[n,w,G];omega);rw[n]at j;exact j
 have v:(b.setRow a (f_ D.toList (i*2) c).toArray).heap[a]? =some (.cells (f_ D.toList (i*2) c).toArray 259 (0,0)):=dO _ _ D _ _ _ u;have x:Hid (∀(h:aK) (g:bG) (k:Nat),h=b.setRow a (f_ D.toList (i*2) c).toArray->(bE #[200] g #[ai (some (Ad a ((i+1)*2))) (d-(i+1)) k]).run ab h
   = .ok (.tuple #[]) (b.setRow a (f_ (f_ D.toList (i*2) c) ((i+1)*2) (qq (d-(i+1)))).toArray)):=by
  intro h g k t;obtain⟨O,z,C⟩:=CP a ((i+1)*2) (d-(i+1)) k h (by rw[t];exact v) (by rw[dr,s];simp;omega) g;rw[z,C,t,dP]
 have m:i+1=d->b.setRow a (f_ D.toList (i*2) c).toArray=b.setRow a (f_ (f_ D.toList (i*2) c) ((i+1)*2) (qq (d-(i+1)))).toArray:=by intro j;congr 2;rw[<-j];generalize f_ D.toList (i*2) c=a7;simp[f_,qq]
 replace m:=fK m;unfold aO at J;have X:((i:Int)==(d:Int))=false:=beq_eq_false_iff_ne.2 (by omega);have S:¬(f=i):=by omega
 have U:(i:Int)<=(f:Int):=by omega
 have V:(i:Int)<=(d:Int):=by omega
 have W:(d:Int)<=(f:Int):=by omega
 have a3:IntKind.i64.wrap ((i:Int)+1)=(i:Int)+1:=by rw[dq];omega
 have Q:(0:Int)<=(i:Int)+1:=by omega
 have a2:((i:Int)+1).toNat=i+1:=by omega
 have a9:=dM underlying200;have b0:=mT;clear s v;by_cases Z:i+1<d
 ·have R:¬(f=i+1):=by omega
  have E:(i:Int)+1<(d:Int):=by omega
  have T:(i:Int)+1<=(d:Int):=by omega
  go_enter func239,ntmps239;go_wp2_with (at_builtin;refine gJ rfl _ _ _ _ rfl _ _ rfl rfl (p.out _) ?_;refine Hid.out ?_);refine fK ?_;generalize e:du b a _=q;replace e:=fK e;go_wp2_with (refine jd rfl _ _ rfl _ rfl (x.out q _ _ e.out.symm) ?_;refine Hid.out ?_);refine fK ?_;go_wp2_with fail;go_ret;exact⟨rfl,rfl⟩
 ·have E:¬((i:Int)+1<(d:Int)):=by omega
  go_enter func239,ntmps239;go_wp2_with (at_builtin;refine gJ rfl _ _ _ _ rfl _ _ rfl rfl (p.out _) ?_;refine Hid.out ?_);refine fK ?_;generalize e:du b a _=q;replace e:=fK e;go_wp2_with fail;go_ret;exact⟨rfl,by rw[<-e.out];exact m.out (by omega)⟩
set_option maxRecDepth 100000 in
theorem zY{n:aM->aK->Prop}(w:∃k cap,h=.slice k a cap/\i<=a/\a<=cap/\cap<=9223372036854775807/\(k=none->a=0/\cap=0)/\∀m,k=some m->∃s,m=Ad s 0)
  (q:aL ab 241 #[h,II i,e] b fun c g=>∃f,c=.returned f/\n f g):aL ab 239 #[h,II i,II i,e] b fun c g=>∃f,c=.returned f/\n f g:=by
 obtain⟨k,cap,rfl,hi,z,y,o,p⟩:=w;have l:=fK q;clear q;have A:=dM underlying200;have B:=mT;cases k with
 |none=>
  obtain⟨rfl,rfl⟩:=o rfl;obtain rfl:i=0:=by omega
  clear o p;have u:Hid (aL ab 241 #[ai none 0 0,II 0,e] b fun c g=>∃f,c=.returned f/\n f g):=l.out;clear l;go_enter func239,ntmps239;go_wp2_with fail;refine u.out.mono ?_;rintro c g ⟨t,rfl,d⟩;have j:=fK d;clear d;go_wp2_with fail;go_ret;exact⟨_,rfl,j.out⟩
 |some m=>
  obtain⟨s,rfl⟩:=p m rfl;clear o p;have x:(i:Int)<=(cap:Int):=by omega
  by_cases v:cap=i
  ·subst v;go_enter func239,ntmps239;go_wp2_with fail;refine l.out.mono ?_;rintro c g ⟨t,rfl,d⟩;have j:=fK d;clear d;go_wp2_with fail;go_ret;exact⟨_,rfl,j.out⟩
  ·go_enter func239,ntmps239;go_wp2_with fail;refine l.out.mono ?_;rintro c g ⟨t,rfl,d⟩;have j:=fK d;clear d;go_wp2_with fail;go_ret;exact⟨_,rfl,j.out⟩
theorem zX{K:List iw}{w1:iw}{W:Nat}{g:aK}(C:g.ownsRow 0 259 2 e K.length (gy K))(j:g.heap[f]? =some (.cells #[II w1.1,w1.2] 259 (0,0)))(V:e.ownBlock≠some f)(T:i<=d)(A:d<=K.length)(B:K.length<=1000)
  (H:∀r∈K,r.2.oneCell'=true) (J:w1.2.oneCell'=true):
  aL ab 239 #[e,II i,II d,ai (some (Ad f 0)) 1 W] g fun z y=>
   ∃w,z=.returned w/\y.ownsRow 0 259 2 w (K.take i++w1::K.drop d).length (gy (K.take i++w1::K.drop d))/\g.grownBy y e.ownBlock/\(w.ownBlock=e.ownBlock\/∀k,w.ownBlock=some k->g.heap.size<=k):=by
 have L:∀M∈[bh .i64 w1.1,w1.2],M.oneCell'=true:=by
  intro M j;simp only[cF,dH,or_false]at j;rcases j with rfl|rfl
  ·rfl
  ·exact J
 rcases dC T with I|rfl
 ·rcases C.2 with⟨_,Q⟩|⟨k,cap,a,rfl,_,s,v,h,q,D⟩
  ·omega
  ·have S:gy (K.take i++w1::K.drop d)=(gy K).take (i*2)++[II w1.1,w1.2]++(gy K).drop (d*2):=by rw[lQ,ko,pN,pM,bq]
   have t:(K.take i++w1::K.drop d).length=i+1+(K.length-d):=by simp;omega
   have l:=Es (b:=a.toList) (y:=gy K) (w0:=[II w1.1,w1.2]) (t4:=qq (K.length-(i+1+(K.length-d)))) (a:=i*2) (d:=d*2) (by rw[ic];exact D) (by simp;omega) (by rw[ic];omega) (by grind) (by rw[k_];simp;omega);rw[ic,<-S,show i*2+[bh .i64 w1.1,w1.2].length=(i+1)*2 from by simp;omega]at l;have u:=gA (o:=a.toList) (a:=i*2) (y:=[II w1.1,w1.2]) (by simp;omega);have E:=gA (o:=f_ a.toList (i*2) [II w1.1,w1.2]) (a:=(i+1)*2) (y:=(gy K).drop (d*2)) (by grind);rcases dC A with U|rfl
   ·refine(zZ s j (ic _) rfl D I U v q B h (mg H) L).mono ?_;rintro z y ⟨rfl,x,rfl⟩;rw[t];have p:=qO (b:=g) (d:=K.length) (f:=i+1+(K.length-d)) (n:=cap) (A:=x) (o:=f_ (f_ (f_ a.toList (i*2) [II w1.1,w1.2]) ((i+1)*2) ((gy K).drop (d*2))) ((i+1+(K.length-d))*2) (qq (K.length-(i+1+(K.length-d))))) s
     (by rw[gA (by rw[E,u,k_];simp;omega),E,u];simpa using q) (by omega) h t (by grind)
    exact⟨_,rfl,p.1,p.2,bg rfl⟩
   ·refine(za s j rfl I v q B h L).mono ?_;rintro z y ⟨rfl,rfl⟩;have O:(gy K).drop (K.length*2)=[]:=dy (by rw[ic];omega);have P:f_ (f_ a.toList (i*2) [II w1.1,w1.2]) ((i+1)*2) []=f_ a.toList (i*2) [II w1.1,w1.2]:=by generalize f_ a.toList (i*2) [II w1.1,w1.2]=x;simp[f_]
    rw[O,P]at l;rw[dD,Nat.add_zero]at l t;rw[dD,Nat.add_zero]at l;rw[t];have p:=qO (b:=g) (d:=K.length) (f:=i+1) (n:=cap) (A:=0) (o:=f_ (f_ a.toList (i*2) [II w1.1,w1.2]) ((i+1)*2) (qq (K.length-(i+1)))) s
     (by rw[gA (by rw[u,k_];simp;omega),u];simpa using q) (by omega) h t l
    exact⟨_,rfl,p.1,p.2,bg rfl⟩
 ·refine zY (a:=K.length) ?_ ((CN C j V A B H J).mono ?_)
  ·rcases C.2 with⟨rfl,Q⟩|⟨k,cap,a,rfl,_,s,v,h,q,D⟩
   ·grind
   ·refine⟨_,cap,rfl,A,v,by unfold aO at h;omega,fun G=>(by cases G),fun N G=>⟨k,?_⟩⟩;grind
  grind
theorem CM(B:b.heap[a]? =some (.cells D 259 (0,0)))(G:o.length=d*2)(K:D.toList.take (d*2)=o)(a0:0<d)(a1:d<=f)(H:D.size=f*2)(Z:d<=1000)(n:f<=aO)(s:∀w∈o,w.oneCell'=true):
  aL ab 168 #[ai (some (Ad a 0)) d f,II 0,II 1] b fun q Q=>
   q=.returned (ai (some (Ad a 0)) (d-1) f)/\∃O,Q=(b.drewN O).setRow a (f_ (f_ D.toList 0 (o.drop 2)) ((d-1)*2) (qq 1)).toArray:=by
 obtain⟨N,I,a3,M,a4⟩:=aP CR;have u:(o.drop 2).length=(d-1)*2:=by rw[dx,G];omega
 have z:=gA (o:=D.toList) (a:=0) (y:=o.drop 2) (by rw[u];simp;omega);have x:Hid (∀(c:aK) (j:bG) (k g:Nat),c.heap=b.heap->(k=2\/d=1)->(bB #[200,200] j #[ai (some (Ad a 0)) 0 f,ai (some (Ad a k)) (d-1) g]).run ab c=.ok (ai (some (Ad a 0)) (d-1) f) (c.setRow a (f_ D.toList 0 (o.drop 2)).toArray)):=by
  intro c j k g t a2;have C:c.heap[a]? =some (.cells D 259 (0,0)):=by rw[t];exact B
  have A:=run_append_room (P:=ab) c 200 j 259 N underlying200 I a 0 f D C (Ad a k) (d-1) g (o.drop 2) (by rw[M,u]) (fun a5 a6 v=>by
   have Y:=(bo.1 v).1;have J:k=2:=by omega
   subst J;rw[cG,<-K,bp (by omega)]at v;rw[dt];simp only[aD,C];simpa using v) (fun w L=>s w (dv L)) (by omega) (by rw[u,H];omega)
  rw[Nat.zero_mul,aw]at A;exact A
 have y:Hid (∀(c:aK) (j:bG) (g:Nat),c.heap=(b.setRow a (f_ D.toList 0 (o.drop 2)).toArray).heap->(bE #[200] j #[ai (some (Ad a ((d-1)*2))) (d-(d-1)) g]).run ab c
   = .ok (.tuple #[]) (c.setRow a (f_ (f_ D.toList 0 (o.drop 2)) ((d-1)*2) (qq 1)).toArray)):=by
  intro c j g t;have q:d-(d-1)=1:=by omega
  rw[q];obtain⟨R,s,rfl⟩:=CP a ((d-1)*2) 1 g c (by rw[t];exact dO _ _ D _ _ _ B) (by rw[dr,z];simp;omega) j;exact s
 unfold aO at n;have S:(1:Int)<=(d:Int):=by omega
 have T:(1:Int)<=(f:Int):=by omega
 have U:(d:Int)<=(f:Int):=by omega
 have V:¬(f=d-1):=by omega
 have W:((d-1:Nat):Int)<=(d:Int):=by omega
 have X:¬(f=0):=by omega
 have a7:=dM underlying200;have a8:=mT;clear z;by_cases E:f=1
 ·obtain rfl:d=1:=by omega
  subst E;go_enter func168,ntmps168;go_wp2_with fail;go_region_law (refine mX rfl (.tmp 22) (.tmp 25) _ _ rfl _ _ (by kernel_rfl) (by kernel_rfl) (x.out _ _ 0 0 rfl (by simp)) ?_;generalize e:du _ a _=m;replace e:=fK e;refine Hid.out ?_;refine fK ?_);have p:Hid (∀h:aK,h.heap=m.heap->h.heap=(b.setRow a (f_ D.toList 0 (o.drop 2)).toArray).heap):=by intro h n;rw[n,<-e.out];rfl
  go_wp2_with (refine jd rfl _ _ rfl _ rfl (y.out m _ _ (p.out _ rfl)) ?_;refine Hid.out ?_);refine fK ?_;go_wp2_with fail;go_ret;refine⟨rfl,1,?_⟩;rw[<-e.out];exact dP (b.drewN 1) a (f_ D.toList 0 (o.drop 2)).toArray _
 ·go_enter func168,ntmps168;go_wp2_with fail;go_region_law (refine mX rfl (.tmp 22) (.tmp 25) _ _ rfl _ _ (by kernel_rfl) (by kernel_rfl) (x.out _ _ 2 (f-1) rfl (bg rfl)) ?_;generalize e:du _ a _=m;replace e:=fK e;refine Hid.out ?_;refine fK ?_);have p:Hid (∀h:aK,h.heap=m.heap->h.heap=(b.setRow a (f_ D.toList 0 (o.drop 2)).toArray).heap):=by intro h n;rw[n,<-e.out];rfl
  go_wp2_with (refine jd rfl _ _ rfl _ rfl (y.out m _ _ (p.out _ rfl)) ?_;refine Hid.out ?_);refine fK ?_;go_wp2_with fail;go_ret;refine⟨rfl,1,?_⟩;rw[<-e.out];exact dP (b.drewN 1) a (f_ D.toList 0 (o.drop 2)).toArray _
theorem CL{r:iw}{K:List iw}(A:b.ownsRow 0 259 2 e (r::K).length (gy (r::K)))(z:(r::K).length<=1000)(x:∀d∈r::K,d.2.oneCell'=true):
  aL ab 168 #[e,II 0,II 1] b fun h g=>
   ∃f,h=.returned f/\g.ownsRow 0 259 2 f K.length (gy K)/\b.grownBy g e.ownBlock/\f.ownBlock=e.ownBlock:=by
 rcases A.2 with⟨_,w⟩|⟨C,cap,a,rfl,_,t,v,p,q,B⟩
 ·simp at w
 ·have u:=ic (r::K);refine(CM t u B (by simp) v q z p (mg x)).mono ?_;rintro h g ⟨rfl,d,rfl⟩;have s:(gy (r::K)).drop 2=gy K:=by rw[ko];rfl
  have k:=Dr (a:=a.toList) (y:=gy (r::K)) (w0:=qq 1) (by grind) (by grind) (by rw[k_]);have y:(r::K).length-1=K.length:=by simp
  rw[u,show(r::K).length*2-2=K.length*2 from by simp;omega,s]at k;rw[y,s];have D:=ic K;have E:K.length+1<=cap:=by simpa using v
  have j:=gA (o:=a.toList) (a:=0) (y:=gy K) (by grind);have l:=qO (b:=b) (d:=(r::K).length) (f:=K.length) (n:=cap) (A:=d) (o:=f_ (f_ a.toList 0 (gy K)) (K.length*2) (qq 1)) t (by rw[gA (by rw[j,k_];simp;omega),j];simpa using q) (by omega) p rfl k;exact⟨_,rfl,l.1,l.2,rfl⟩
theorem mB(e:-4611686018427387904<=c/\c<=4611686018427387904)(j:a<=4611686018427387):
  aL ab 197 #[.agg #[II c,.slice R a cap]] b fun d f=>d=.returned (II (c+a))/\Bw b f:=by
 obtain⟨g,h⟩:=e;go_enter func197,ntmps197;go_wp2;go_ret;exact⟨rfl,fO _ _⟩
theorem zU{l:Int}(u:-4611686018427387904<=c/\c<=4611686018427387904)(v:a<=4611686018427387)(s:CI b f 0 first)(t:CI b n 0 l):
  aL ab 196 #[.agg #[II c,.slice R a cap],Pt f,Pt n] b fun g d=>g=.returned (.bool (decide (c<=first)&&decide (l<=c+a)))/\Bw b d:=by
 have x:=hK s;have y:=hK t;have q:Hid (∀e,aL ab 197 #[.agg #[II c,.slice R a cap]] e fun g d=>g=.returned (II (c+a))/\Bw e d):=fun e=>mB u v;have p:Hid (∀e d:aK,Bw e d->(CI e f 0 first/\CI e n 0 l/\io e b 0 c/\lq e b 1 (.slice R a cap))->
   (CI d f 0 first/\CI d n 0 l/\io d b 0 c/\lq d b 1 (.slice R a cap))):=
  fun e d j h=>⟨fL h.1 j,fL h.2.1 j,fL h.2.2.1 j,fL h.2.2.2 j⟩
 by_cases o:c<=first
 ·have k:decide (c<=first)=true:=by simpa using o
  go_enter func196,ntmps196;go_wp2_with fail;go_region_held3 (fun d=>d.cell? (Ad f 0)=some (II first)/\d.cell? (Ad n 0)=some (II l)/\d.cell? (gf b 0)=some (II c)/\d.cell? (gf b 1)=some (.slice R a cap)) (first|assumption|go_keep) (first
   |(go_at_call 197;refine(q.out _).mono ?_;rintro g z ⟨rfl,m⟩;have w:=p.out _ _ m (by assumption)))
  go_wp2_with fail;go_ret;exact⟨by rw[k];rfl,fP (fO _ _) (gc m)⟩
 ·have k:decide (c<=first)=false:=by simpa using o
  go_enter func196,ntmps196;go_wp2_with fail;go_quiet (fail);go_wp2_with fail;go_ret;refine⟨by rw[k];rfl,?_⟩;exact fQ (fO _ _) _
theorem xn{K:List iw}{C:List gH}(j:b.ownsRow 0 259 2 e K.length (gy K))(P:md K C)(I:∀r∈C,-4611686018427387904<=r.1/\r.1<=4611686018427387904/\r.2.length<=4611686018427387)(a9:K.length<=1000)
  (W:CI b a 0 first) (X:CI b d 0 g):
  aL ab 209 #[e,.func (.func 196) #[] #[Pt a,Pt d]] b fun B a3=>
   (∃c:Int,B=.returned (II c)/\(0<=c↔(C.any fun r=>decide (r.1<=first)&&decide (g<=gi r))=true))/\Bw b a3:=by
 obtain⟨U,cap,rfl⟩:=gr j;have T:=fK j;have u:=fK P;have S:=fK I;clear j P I;go_enter func209,ntmps209;go_wp2_with fail;go_loopw [8] (fun i wr=>∃c:Nat,c<=K.length/\i=II c/\Bw b wr/\Hid (∀(h:Nat) r,h<c->C[h]? =some r->(decide (r.1<=first)&&decide (g<=gi r))=false)) (fun i _=>K.length-(aQ i).toNat);case atStart=>exact⟨0,be _,rfl,Below.refl _ _,fun h r p=>by omega⟩
 case round=>
  obtain⟨c,a8,rfl,k,q⟩:=hrel;by_cases N:c<K.length
  ·obtain⟨s,w⟩:∃s,K[c]? =some s:=⟨_,ap N⟩;obtain⟨r,l⟩:∃r,C[c]? =some r:=⟨_,ap (by rw[<-u.out.1];exact N)⟩;obtain⟨D,z,A,E,a7⟩:=u.out.2 c s r w l;obtain⟨b1,b2⟩:=s;simp only at D E;subst D E;have j:=gp T.out k;rcases j.2 with⟨_,a6⟩|⟨H,a4,a5,G,_,a0,b0,Y,Z,a1⟩
   ·omega
   simp only[Value.slice.injEq]at G;obtain⟨rfl,_,rfl⟩:=G;obtain⟨Q,R⟩:=lR w;have c1:wr.cell? (Ad H (c*2))=some (II r.1):=by rw[j.cellAt (c*2) (by omega)];exact Q
   have V:wr.cell? (Ad H (c*2+1))=some (.slice z r.2.length A):=by rw[j.cellAt (c*2+1) (by omega)];exact R
   have o:=S.out r (bS l);have x:=fK (zU (c:=r.1) (cap:=A) (R:=z) ⟨o.1,o.2.1⟩ o.2.2 (fL W k) (fL X k));have y:=fK l;have n:=fK k;have t:=fK q;clear j a0 a1 Z Y Q R o l w q;go_wp2_with fail;refine x.out.mono ?_;rintro B b3 ⟨rfl,J⟩;have L:=fK (fP n.out J);clear J x n k c1 V;cases M:(decide (r.1<=first)&&decide (g<=r.1+(r.2.length:Int)))
   ·go_wp2_with fail;go_roundw;case rel=>
     refine⟨c+1,by omega,by go_num,L.out,fun h a2 p O=>?_⟩;rcases ay h c with m|m
     ·exact t.out h a2 m O
     ·obtain rfl:h=c:=by omega
      obtain rfl:=Option.some.inj (y.out.symm.trans O);exact M
    case measure=>simp[aQ];omega
   ·go_wp2_with fail;go_ret;refine⟨⟨c,rfl,?_⟩,L.out⟩;refine⟨fun _=>?_,fun _=>by omega⟩;rw[List.any_eq_true];exact⟨r,bS y.out,M⟩
  ·obtain rfl:c=K.length:=by omega
   have t:=fK q;have n:=fK k;clear q k;go_wp2_with fail;go_ret;refine⟨⟨-1,rfl,?_⟩,n.out⟩;refine⟨fun v=>by omega,fun v=>?_⟩;rw[List.any_eq_true]at v;obtain⟨r,l,m⟩:=v;obtain⟨h,p,rfl⟩:=dw l;have:=t.out h C[h] (by rw[u.out.1];exact p) (ap p);rw[this]at m;cases m
theorem y_{K:List iw}{C:List gH}(o:b.ownsRow 0 259 2 e K.length (gy K))(p:md K C)(l:∀r∈C,-4611686018427387904<=r.1/\r.1<=4611686018427387904/\r.2.length<=4611686018427387)(n:K.length<=1000)
  (j:CI b a 0 first) (k:CI b d 0 g):
  aL ab 195 #[e,.func (.func 196) #[] #[Pt a,Pt d]] b fun h u=>
   h=.returned (.bool (C.any fun r=>decide (r.1<=first)&&decide (g<=gi r)))/\Bw b u:=by
 have f:=fK (xn o p l n j k);clear o p l n j k;go_enter func195,ntmps195;go_wp2_with fail;refine f.out.mono ?_;rintro h v ⟨⟨t,rfl,m⟩,s⟩;have q:=fK m;clear m f;have c:decide (0<=t)=(C.any fun r=>decide (r.1<=first)&&decide (g<=gi r)):=by rw[Bool.eq_iff_iff,decide_eq_true_iff];exact q.out
 replace c:=fK c;go_wp2_with fail;go_ret;refine⟨?_,s⟩;rw[<-c.out];rfl
theorem rH{K:List iw}{C:List gH}(first c:Int)(s:CV b a d e)(j:b.ownsRow 0 259 2 e K.length (gy K))(q:md K C)(m:∀r∈C,-4611686018427387904<=r.1/\r.1<=4611686018427387904/\r.2.length<=4611686018427387)(p:K.length<=1000):
  aL ab 166 #[ag (some (Ad a d)),II first,II c] b fun l t=>l=.returned (.bool (iJ C first c))/\Bw b t:=by
 have v:=hK s;obtain⟨u,cap,rfl⟩:=gr j;have f:Bw b ((b.alloc (.cells #[II first] 3)).alloc (.cells #[II c] 3)):=(fO _ _).alloc (by simp) _;have k:=fK (y_ (first:=first) (g:=c) (a:=b.heap.size) (d:=b.heap.size+1) (gp j f) q m p (by simp) (by simp));have g:=fK f;clear j q m p f;by_cases o:c<=first
 ·have h:decide (c<=first)=true:=by simpa using o
  go_enter func166,ntmps166;go_wp2_with fail;go_ret;exact⟨by unfold iJ;rw[h];rfl,g.out⟩
 ·have h:decide (c<=first)=false:=by simpa using o
  go_enter func166,ntmps166;go_wp2_with fail;refine k.out.mono ?_;rintro l w ⟨rfl,n⟩;have f:=fK (fP g.out n);clear n k g;go_wp2_with fail;go_ret;exact⟨by unfold iJ;rw[h,Bool.false_or];rfl,f.out⟩
abbrev qY(rb off g b0 k:Nat)(lv:aM)(f:Int)(iv:aM)(a:Int)(av:aM)(w:aK):Prop:=
 w.cell? (Ad rb off)=some lv/\w.cell? (Ad g (k*2))=some (II f)/\w.cell? (Ad g (k*2+1))=some iv/\w.cell? (Ad b0 0)=some (II a)/\w.cell? (Ad b0 1)=some av
theorem qY.below{l k:Nat}{j:aM}{a:Int}{q:aM}(h:qY l d f n k e c j a q w)(g:Bw w b):qY l d f n k e c j a q b:=
 ⟨fL h.1 g,fL h.2.1 g,fL h.2.2.1 g,fL h.2.2.2.1 g,fL h.2.2.2.2 g⟩
theorem zb{K:List iw}{C:List gH}{x9:gH}(E:CV b d f e)(Y:b.ownsRow 0 259 2 e K.length (gy K))(a0:md K C)(b6:∀r∈C,-4611686018427387904<=r.1/\r.1<=4611686018427387904/\r.2.length<=4611686018427387)(g1:K.length<=1000)
  (b5:-4611686018427387904<=x9.1/\x9.1<=4611686018427387904/\x9.2.length<=4611686018427387):
  aL ab 238 #[ag (some (Ad d f)),.agg #[II x9.1,.slice R x9.2.length a]] b fun t j=>t=.returned (.tuple #[II (lx C x9),II (xw C x9)])/\Bw b j:=by
 obtain⟨T,cap,rfl⟩:=gr Y;have g0:=hK E;have D:Bw b (b.alloc (.cells #[II x9.1,.slice R x9.2.length a] 259)):=fO _ _;have X:=a0.1;have a5:Hid (∀(c:Nat) (wr:aK),c<K.length->Below (b.heap.size+1) (b.alloc (.cells #[II x9.1,.slice R x9.2.length a] 259)) wr->∃m r L J,T=some (Ad m 0)/\C[c]? =some r/\qY d f m b.heap.size c (.slice T K.length cap) r.1 (.slice L r.2.length J) x9.1 (.slice R x9.2.length a) wr/\-4611686018427387904<=r.1/\r.1<=4611686018427387904/\r.2.length<=4611686018427387):=by
  intro c wr u l;have b7:Bw b wr:=fP D (by simpa using l);obtain⟨M,c4⟩:∃M,K[c]? =some M:=⟨_,ap u⟩;obtain⟨r,w⟩:∃r,C[c]? =some r:=⟨_,ap (by rw[<-X];exact u)⟩;obtain⟨b0,c5,c6,z,_⟩:=a0.2 c M r c4 w;obtain⟨g7,g8⟩:=M;simp only at b0 z;subst b0 z;have Z:=gp Y b7;rcases Z.2 with⟨_,f5⟩|⟨m,f2,f3,b1,_,f8,g2,f6,f7,g6⟩
  ·omega
  simp only[Value.slice.injEq]at b1;obtain⟨rfl,_,rfl⟩:=b1;obtain⟨d8,d9⟩:=lR c4;have c9:=b6 r (bS w);refine⟨m,r,c5,c6,rfl,w,⟨fL E b7,?_,?_,?_,?_⟩,c9⟩
  ·rw[Z.cellAt (c*2) (by omega)];exact d8
  ·rw[Z.cellAt (c*2+1) (by omega)];exact d9
  ·rw[l.cell (by simp)];simp
  ·rw[l.cell (by simp)];simp
 have P:Hid (∀wr,Below (b.heap.size+1) (b.alloc (.cells #[II x9.1,.slice R x9.2.length a] 259)) wr->wr.cell? (Ad d f)=some (.slice T K.length cap)):=by intro wr l;exact fL E (fP D (by simpa using l))
 have O:=fK b5;have o:=fK X;have N:=fK D;clear Y a0 b6 E X D b5;go_enter func238,ntmps238;go_wp2_with fail;go_loopw [6] (fun i wr=>∃c:Nat,c<=K.length/\i=II c/\Below (b.heap.size+1) (b.alloc (.cells #[II x9.1,.slice R x9.2.length a] 259)) wr/\Hid (∀(h:Nat) r,h<c->C[h]? =some r->decide (gi r<x9.1)=true)) (fun i _=>K.length-(aQ i).toNat);case atStart=>exact⟨0,be _,rfl,Below.refl _ _,fun h r d1=>by omega⟩
 case round=>
  obtain⟨c,u,rfl,l,I⟩:=hrel;by_cases d2:c<K.length
  ·obtain⟨m,r,L,J,rfl,w,b3,d5,d6,d7⟩:=a5.out c wr d2 l;have d0:decide ((c:Int)<(K.length:Int))=true:=by simp;omega
   have a8:Hid (∀s,aL ab 197 #[.agg #[II r.1,.slice L r.2.length J]] s fun t j=>t=.returned (II (r.1+r.2.length))/\Bw s j):=fun s=>mB ⟨d5,d6⟩ d7;obtain⟨e2,e3,e4,e5,e6⟩:=id b3;have a3:=fK l;have Q:=fK I;have S:=fK w;clear l I w;go_wp2_with fail;go_region_held3 (fun j=>j.cell? (Ad d f)=some (ai (some (Ad m 0)) K.length cap)/\j.cell? (Ad m (c*2))=some (II r.1)/\j.cell? (Ad m (c*2+1))=some (.slice L r.2.length J)/\j.cell? (gf b 0)=some (II x9.1)/\j.cell? (gf b 1)=some (.slice R x9.2.length a)) (first|assumption|go_keep) (first
    |(go_at_call 197;refine(a8.out _).mono ?_;rintro t g9 ⟨rfl,V⟩;have c7:=qY.below (by assumption) V))
   have B:=fK (rj a3.out V);clear V c7 b3 e2 e3 e4 e5 e6 a8 a3;by_cases b8:r.1+(r.2.length:Int)<x9.1
   ·go_wp2_with fail;go_roundw;case rel=>
     refine⟨c+1,by omega,by go_num,B.out,fun h p d1 k=>?_⟩;rcases ay h c with A|A
     ·exact Q.out h p A k
     ·obtain rfl:h=c:=by omega
      obtain rfl:=Option.some.inj (S.out.symm.trans k);exact decide_eq_true b8
    case measure=>simp[aQ];omega
   ·have q:Hid (lx C x9=c):=pd (by rw[<-o.out];exact u) Q.out (fun p k=>by obtain rfl:=Option.some.inj (S.out.symm.trans k);exact decide_eq_false (by unfold gi;exact b8));clear Q S;go_wp2_with fail;go_loopw [7] (fun i wr=>∃g:Nat,c<=g/\g<=K.length/\i=II g/\Below (b.heap.size+1) (b.alloc (.cells #[II x9.1,.slice R x9.2.length a] 259)) wr/\Hid (∀(h:Nat) r,c<=h->h<g->C[h]? =some r->decide (r.1<=gi x9)=true)) (fun i _=>K.length-(aQ i).toNat);case atStart=>exact⟨c,ar _,u,rfl,B.out,fun h r U b2=>by omega⟩
    case round=>
     obtain⟨g,G,H,rfl,n,v⟩:=hrel;by_cases d4:g<K.length
     ·obtain⟨f4,a1,e1,e0,z,c3,b4,g3,g4,g5⟩:=a5.out g wr d4 n;first|subst z |(obtain rfl:=Addr.mk.inj (Option.some.inj z) |>.1)
      have c2:decide ((g:Int)<(K.length:Int))=true:=(by simp;omega);have a9:Hid (∀s,aL ab 197 #[.agg #[II x9.1,.slice R x9.2.length a]] s fun t j=>t=.returned (II (x9.1+x9.2.length))/\Bw s j):=fun s=>mB ⟨O.out.1,O.out.2.1⟩ O.out.2.2;obtain⟨e7,e8,e9,f0,f1⟩:=id b4;have x:=fK n;have a6:=fK v;have a7:=fK c3;clear n v c3;go_wp2_with fail;go_region_held3 (fun j=>j.cell? (Ad d f)=some (ai (some (Ad m 0)) K.length cap)/\j.cell? (Ad m (g*2))=some (II a1.1)/\j.cell? (Ad m (g*2+1))=some (.slice e1 a1.2.length e0)/\j.cell? (gf b 0)=some (II x9.1)/\j.cell? (gf b 1)=some (.slice R x9.2.length a)) (first|assumption|go_keep) (first
       |(go_at_call 197;refine(a9.out _).mono ?_;rintro t h0 ⟨rfl,W⟩;have c8:=qY.below (by assumption) W))
      have a2:=fK (rj x.out W);clear W c8 b4 e7 e8 e9 f0 f1 a9;by_cases b9:a1.1<=x9.1+(x9.2.length:Int)
      ·go_wp2_with fail;go_roundw;case rel=>
        refine⟨g+1,by omega,by omega,by go_num,a2.out,fun h p U b2 k=>?_⟩;rcases ay h g with A|A
        ·exact a6.out h p U A k
        ·obtain rfl:h=g:=by omega
         obtain rfl:=Option.some.inj (a7.out.symm.trans k);exact decide_eq_true b9
       case measure=>simp[aQ];omega
      ·have y:Hid (xw C x9=g):=Be q.out G (by rw[<-o.out];exact H) a6.out (fun p k=>by obtain rfl:=Option.some.inj (a7.out.symm.trans k);exact decide_eq_false (by unfold gi;exact b9));go_wp2_with fail;go_ret2;exact⟨by rw[q.out,y.out];rfl,fP N.out (by simpa using a2.out)⟩
     ·obtain rfl:g=K.length:=by omega
      have c2:decide (((K.length:Nat):Int)<(K.length:Int))=false:=by simp
      have d3:=P.out wr n;have x:=fK n;have y:Hid (xw C x9=K.length):=Be q.out G (by rw[<-o.out];exact H) v (fun p k=>by have:=(bo.1 k).1;have:=o.out;omega);clear n v;go_wp2_with fail;go_quiet (fail);go_wp2_with fail;go_ret2;exact⟨by rw[q.out,y.out];rfl,fP N.out (by simpa using fQ x.out _)⟩
  ·obtain rfl:c=K.length:=by omega
   have d0:decide (((K.length:Nat):Int)<(K.length:Int))=false:=by simp
   have f9:=P.out wr l;have q:Hid (lx C x9=K.length):=pd (by rw[<-o.out];exact u) I (fun p k=>by have:=(bo.1 k).1;have:=o.out;omega);have a4:=fK l;clear l I;go_wp2_with fail;go_quiet (fail);have B:=fK (fQ a4.out nq);clear a4;go_wp2_with fail;go_loopw [7] (fun i wr=>∃g:Nat,K.length<=g/\g<=K.length/\i=II g/\Below (b.heap.size+1) (b.alloc (.cells #[II x9.1,.slice R x9.2.length a] 259)) wr/\Hid (∀(h:Nat) r,K.length<=h->h<g->C[h]? =some r->decide (r.1<=gi x9)=true)) (fun i _=>K.length-(aQ i).toNat);case atStart=>exact⟨K.length,ar _,u,rfl,B.out,fun h r U b2=>by omega⟩
   case round=>
    obtain⟨g,G,H,rfl,n,v⟩:=hrel;obtain rfl:g=K.length:=by omega
    have c2:decide (((K.length:Nat):Int)<(K.length:Int))=false:=by simp
    have d3:=P.out wr n;have x:=fK n;have y:Hid (xw C x9=K.length):=Be q.out G (by rw[<-o.out];exact H) v (fun p k=>by have:=(bo.1 k).1;have:=o.out;omega);clear n v;go_wp2_with fail;go_quiet (fail);go_wp2_with fail;go_ret2;exact⟨by rw[q.out,y.out];rfl,fP N.out (by simpa using fQ x.out _)⟩
def Me(w:aK)(tv:aM)(vs:List iw):Prop:=
 ∃ao cap,tv=.slice ao vs.length cap/\∀(k:Nat) v,vs[k]? =some v->∃g o,ao=some (Ad g o)/\w.cell? (Ad g (o+k*2))=some (II v.1)/\w.cell? (Ad g (o+k*2+1))=some v.2
theorem nf{α:Type}{x2:List α}{x0:α}(b:x2[a]? =some x0):x2.take (a+1)=x2.take a++[x0]:=by rw[List.take_add_one,b];rfl
theorem DS(b:gH)(a:List gH)(r:gH):nt b (a++[r])=min (nt b a) r.1:=by simp[nt,dE]
theorem DJ(b:gH)(a:List gH)(r:gH):rX b (a++[r])=max (rX b a) (gi r):=by simp[rX,dE]
theorem I9(a:Int)(b:List Int)(c:List gH)(r:gH):qJ a b (c++[r])=jA (qJ a b c) (r.1-a).toNat r.2:=by simp[qJ,dE]
theorem Eb(b:List Int)(c:Nat)(a:List Int):f_ (U8 b) c (U8 a)=U8 (jA b c a):=by unfold f_ jA U8;simp
theorem sJ(l:Ro b z (.slice R a cap) a o)(p:0<a):∃f h,R=some (Ad f h)/\∀c d,o[c]? =some d->b.cell? (Ad f (h+c))=some d:=by obtain⟨t,u,e,q,_⟩:=l;simp only[Value.slice.injEq]at e;obtain⟨rfl,_,rfl⟩:=e;obtain⟨j,s,v,w,k,m,n⟩:=q p;refine⟨j,s,k,fun c d g=>?_⟩;rw[<-g,<-n c (bo.1 g).1];simp[aD,m]
theorem Hz:(ab.info? 5).map (·.size)=some 1:=by kernel_rfl
theorem MM(a:Nat):madeCells #[.int .u8 0] a=(aT a (bh .u8 0)).toArray:=by
 apply Array.ext
 ·simp[madeCells]
 ·intro i b c;simp[madeCells,Nat.mod_one]
theorem MN(l:a<=4611686018427)(b:aK):(Instr.makeSlice 44 (II (a:Int)) (II (a:Int))).run ab b =
  .ok (ai (some (gf b 0)) a a) (b.alloc (.cells (U8 (aT a 0)).toArray 5)):=by
 obtain⟨k,f,g,h,j⟩:=aP lE;have c:=run_make (P:=ab) b 44 5 k (.int .u8 0) underlying44 f g .i64 .i64 (a:Int) (a:Int) (by omega) (Int.le_refl _) (by rw[j];omega) (by omega);have d:((a:Nat):Int).toNat=a:=by omega
 have e:(bh .u8 0).cells=#[.int .u8 0]:=rfl;rw[d,h,e,ba,MM]at c;rw[c];simp[U8]
theorem G9{a:gH}{av tv:aM}{vs:List iw}{M:List gH}(ha:Ro w 5 av a.2.length (U8 a.2))(RQ:0<a.2.length)(hp:Me w tv vs)(MH:md vs M)(RY:∀(i:Nat) v r,vs[i]? =some v->M[i]? =some r->Ro w 5 v.2 r.2.length (U8 r.2))(K4:∀r∈M,0<r.2.length)
  (hb:∀r∈a::M,0<=r.1/\gi r<=1099511627776) (hn:vs.length<=1000):
  aL ab 240 #[.agg #[II a.1,av],tv] w fun e w'=>∃J n,e=.returned (.agg #[II (lN a M).1,ai (some (Ad J 0)) n n])/\w'.ownsRow w.heap.size 5 1 (ai (some (Ad J 0)) n n) n (U8 (lN a M).2)/\Bw w w':=by
 obtain⟨ta,tc,rfl,Pp⟩:=hp;obtain⟨aa,ac,rfl,Sv,_⟩:=id ha;have hA:=hb a (by simp);have Sn:gi a=a.1+a.2.length:=rfl;have HX:Hid (∀W,aL ab 197 #[.agg #[II a.1,.slice aa a.2.length ac]] W fun e w'=>e=.returned (II (a.1+a.2.length))/\Bw W w'):=fun W=>mB (by omega) (by omega);have HA:Hid (∀W w':aK,Bw W w'->(CI W w.heap.size 0 a.1/\CV W w.heap.size 1 (.slice aa a.2.length ac))->(CI w' w.heap.size 0 a.1/\CV w' w.heap.size 1 (.slice aa a.2.length ac))):=
  fun W w' hb h=>⟨fL h.1 hb,fL h.2 hb⟩
 go_enter func240,ntmps240;go_wp2_with fail;go_region_held3 (fun w'=>w'.cell? (Ad w.heap.size 0)=some (II a.1)/\w'.cell? (Ad w.heap.size 1)=some (.slice aa a.2.length ac)) (first|assumption|go_keep) (first
  |(go_at_call 197;refine(HX.out _).mono ?_;rintro e wq ⟨rfl,KW⟩;have QR:=HA.out _ _ KW (by assumption)))
 have OG:Bw w wq:=fP ((fO _ _).alloc (by simp) _) (gc KW);have hR:wq.heap[w.heap.size+1]? =some (.cells #[II 0,ai none 0 0] 259 (0,0)):=by rw[KW.block (w.heap.size+1) (by simp[World.drew])];have:=cA (w.alloc (.cells #[II a.1,.slice aa a.2.length ac] 259)) (.cells #[II 0,ai none 0 0] 259);simpa[World.drew] using this
 obtain⟨s0,s1⟩:=QR;have Su:w.heap.size+2<=wq.heap.size:=by have:=KW.size;simpa[World.drew] using this
 have OR:=fK OG;have HR:=fK hR;have Qq:=fK s0;have OD:=fK s1;have HK:Hid (∀(k:Nat) (wr:aK),k<vs.length->Bw wq wr->∃g o r rv rc,ta=some (Ad g o)/\M[k]? =some r/\wr.cell? (Ad g (o+k*2))=some (II r.1)/\wr.cell? (Ad g (o+k*2+1))=some (.slice rv r.2.length rc)/\Ro wr 5 (.slice rv r.2.length rc) r.2.length (U8 r.2)/\0<=r.1/\gi r<=1099511627776/\0<r.2.length):=by intro k wr hk tl;have xr:Bw w wr:=fP OR.out tl;obtain⟨v,hv⟩:∃v,vs[k]? =some v:=⟨_,ap hk⟩;obtain⟨r,hr⟩:∃r,M[k]? =some r:=⟨_,ap (by rw[<-MH.1];exact hk)⟩;obtain⟨e1,ND,NG,e2,_⟩:=MH.2 k v r hv hr;obtain⟨g,o,e3,c1,c2⟩:=Pp k v hv;have h4:=RY k v r hv hr;have h5:=hb r (by simp[bS hr]);rw[e2]at h4 c2;rw[e1]at c1;exact⟨g,o,r,ND,NG,e3,hr,fL c1 xr,fL c2 xr,h4.below xr,h5.1,h5.2,K4 r (bS hr)⟩
 have Rz:=fK (ha.below OG);have Mb:=fK MH.1;have Qi:Hid (∀k,0<=nt a (M.take k)/\nt a (M.take k)<=a.1/\gi a<=rX a (M.take k)/\rX a (M.take k)<=1099511627776):=by
  intro k;have h1:=vK (C:=M.take k) a;have h2:=vH (C:=M.take k) a;refine⟨?_,h1.1,h2.1,?_⟩
  ·rcases BW (C:=M.take k) a with h|⟨q,hq,h⟩
   ·rw[h];exact hA.1
   ·rw[h];exact(hb q (by simp[ck hq])).1
  ·rcases BR (C:=M.take k) a with h|⟨q,hq,h⟩
   ·rw[h];exact hA.2
   ·rw[h];exact(hb q (by simp[ck hq])).2
 clear Pp MH RY K4 hb ha KW OG hR s0 s1 HX HA Sv;go_wp2_with fail;go_loopw [5,6,18] (fun s5 s6 i wr=>∃k:Nat,k<=vs.length/\i=II k/\s5=II (nt a (M.take k))/\s6=II (rX a (M.take k))/\Bw wq wr) (fun _ _ i _=>vs.length-(aQ i).toNat);case atStart=>exact⟨0,be _,rfl,rfl,rfl,Below.refl _ _⟩
 case round=>
  obtain⟨k,hk,rfl,rfl,rfl,tl⟩:=hrel;have hL:=Qi.out k;by_cases Nf:k<vs.length
  ·obtain⟨g,o,r,rv,rc,rfl,hr,c1,c2,P2,Q9,Q',P7⟩:=HK.out k wr Nf tl;have Q_:gi r=r.1+r.2.length:=rfl;have HX:Hid (∀W,aL ab 197 #[.agg #[II r.1,.slice rv r.2.length rc]] W fun e w'=>e=.returned (II (r.1+r.2.length))/\Bw W w'):=fun W=>mB (by omega) (by omega);have HA:Hid (∀W w':aK,Bw W w'->(CI W wr.heap.size 0 r.1/\CV W wr.heap.size 1 (.slice rv r.2.length rc))->(CI w' wr.heap.size 0 r.1/\CV w' wr.heap.size 1 (.slice rv r.2.length rc))):=
    fun W w' hb h=>⟨fL h.1 hb,fL h.2 hb⟩
   have HT:Hid (M.take (k+1)=M.take k++[r]):=nf hr;have Ha:=fK tl;clear tl hr P2;generalize Pj:nt a (M.take k)=lo at hL;generalize Pf:rX a (M.take k)=hi at hL;have Qh:=fK Pj;have Qf:=fK Pf;clear Pj Pf;obtain⟨l1,l2,l3,l4⟩:=hL;go_wp2_with fail;rcases bO r.1 lo with Q5|Q5<;>rcases bO hi (r.1+(r.2.length:Int)) with hm2|hm2
   all_goals go_region_held3 (fun w'=>w'.cell? (Ad wr.heap.size 0)=some (II r.1)/\w'.cell? (Ad wr.heap.size 1)=some (.slice rv r.2.length rc)) (first|assumption|go_keep) (first
    |(go_at_call 197;refine(HX.out _).mono ?_;rintro e wz ⟨rfl,NO⟩;have QS:=HA.out _ _ NO (by assumption)))
   all_goals
    have NL:Bw wq wz:=fP Ha.out (fP (fO _ _) (gc NO));replace NL:=fK NL;clear NO QS HX HA;go_wp2_with fail;go_roundw;case rel=>
     refine⟨k+1,by omega,by go_num,congrArg (bh .i64) ?_,congrArg (bh .i64) ?_,NL.out⟩
     ·rw[HT.out,DS,Qh.out]<;>omega
     ·rw[HT.out,DJ,Qf.out];unfold gi;omega
    case measure=>simp[aQ];omega
  ·obtain rfl:k=vs.length:=by omega
   have NM:M.take vs.length=M:=bP (by rw[Mb.out];exact ar _);rw[NM]at hL⊢;have PS:=fL Qq.out tl;have PT:=fL OD.out tl;have Ha:=fK tl;obtain⟨i0,MB,MI,MJ,K6⟩:=aP lE;have ME:nt a M<rX a M:=by omega
   have OV:Hid ((lN a M).1=nt a M):=rfl;have Kb:Hid ((lN a M).2=qJ (nt a M) (jA (aT (rX a M-nt a M).toNat 0) (a.1-nt a M).toNat a.2) M):=rfl;have Ma:Hid (∀r∈M,nt a M<=r.1/\gi r<=rX a M):=fun r hr=>⟨(vK (C:=M) a).2 r hr,(vH (C:=M) a).2 r hr⟩;clear tl NM;generalize nt a M=lo at hL ME OV Kb Ma⊢;generalize rX a M=hi at hL ME Kb Ma⊢;obtain⟨l1,l2,l3,l4⟩:=hL;obtain⟨n,Q8⟩:∃n:Nat,hi-lo=n:=⟨(hi-lo).toNat,by omega⟩;have P8:IntKind.i64.wrap (hi-lo)=(n:Int):=by rw[dq];omega
   have IK:(hi-lo).toNat=n:=by omega
   rw[IK]at Kb;have P6:=MN (a:=n) (by omega);obtain⟨Z,hZ⟩:∃Z,Z=(U8 (aT n 0)).toArray:=⟨_,rfl⟩;rw[<-hZ]at P6;have RP:Z.size=n:=by rw[hZ];simp[U8]
   replace hZ:=fK hZ;have OK:CI ((wr.alloc (.cells Z 5)).alloc (.cells #[II lo,ai (some (Ad wr.heap.size 0)) n n] 259)) w.heap.size 0 a.1:=fL PS ((fO _ _).alloc (by simp) _);have OL:CV ((wr.alloc (.cells Z 5)).alloc (.cells #[II lo,ai (some (Ad wr.heap.size 0)) n n] 259)) w.heap.size 1 (.slice aa a.2.length ac):=fL PT ((fO _ _).alloc (by simp) _);clear PS PT MB MI MJ K6;go_wp2_with fail;have M_:Bw wr ((wr.alloc (.cells Z 5)).alloc (.cells #[II lo,ai (some (Ad wr.heap.size 0)) n n] 259)):=(fO wr _).alloc (by simp) _;have QP:((wr.alloc (.cells Z 5)).alloc (.cells #[II lo,ai (some (Ad wr.heap.size 0)) n n] 259)).heap[wr.heap.size]? =some (.cells Z 5 (0,0)):=by rw[Below.heap_alloc _ _ _ (by simp)];exact cA wr _
   have h9:((wr.alloc (.cells Z 5)).alloc (.cells #[II lo,ai (some (Ad wr.heap.size 0)) n n] 259)).heap[wr.heap.size+1]? =some (.cells #[II lo,ai (some (Ad wr.heap.size 0)) n n] 259 (0,0)):=by have:=cA (wr.alloc (.cells Z 5)) (.cells #[II lo,ai (some (Ad wr.heap.size 0)) n n] 259);simpa using this
   generalize (wr.alloc (.cells Z 5)).alloc (.cells #[II lo,ai (some (Ad wr.heap.size 0)) n n] 259)=W2 at M_ QP h9 OK OL⊢;have M8:W2.cell? (Ad (wr.heap.size+1) 1)=some (ai (some (Ad wr.heap.size 0)) n n):=by simp[aD,h9]
   obtain⟨d,hd⟩:∃d:Nat,a.1-lo=d:=⟨(a.1-lo).toNat,by omega⟩;have SU:IntKind.i64.wrap (a.1-lo)=(d:Int):=by rw[dq];omega
   have SV:IntKind.i64.wrap (d:Int)=(d:Int):=by rw[dq];omega
   have SC:d+a.2.length<=n:=by omega
   have QX:(d:Int)<=(n:Int):=by omega
   have QY:¬(n=d):=by omega
   have OP:=fK ((Rz.out.below Ha.out).below M_);have H9:=fK h9;have Qg:=fK QP;have OQ:=fK M_;clear h9 QP M_ P6;have OB:Hid (∀(W:aK) (ty:bG),W.heap=W2.heap->(bD #[44,44] ty #[ai (some (Ad wr.heap.size d)) (n-d) (n-d),.slice aa a.2.length ac]).run ab W
     = .ok (goInt a.2.length) (W.setRow wr.heap.size (U8 (jA (aT n 0) d a.2)).toArray)):=by
    intro W ty hW;obtain⟨g,o,e,Hn⟩:=sJ OP.out RQ;subst e;have e2:dK a.2.length (n-d)=a.2.length:=by simp only[dz];split<;>omega
    have h2:=iK W _ 44 ty _ wr.heap.size d (n-d) (n-d) (Ad g o) a.2.length ac Z 5 _ _ underlying44 Hz (by rw[hW];exact Qg.out) (by rw[e2,ir,ba]) (fun j v hj=>by rw[dt,<-Hn j v hj];simp only[aD,hW]) (by rw[ir,RP];exact SC) (ms);rw[e2,hZ.out,show(U8 (aT n 0)).toArray.toList=U8 (aT n 0) from rfl,Eb]at h2;exact h2
   have L3:Hid (∀(m X:aK) (R:Array aM),m.heap=W2.heap->m.setRow wr.heap.size R=X->X.cell? (Ad (wr.heap.size+1) 1)=some (ai (some (Ad wr.heap.size 0)) n n)/\X.cell? (Ad w.heap.size 0)=some (II a.1)/\X.cell? (Ad w.heap.size 1)=some (.slice aa a.2.length ac)):=by
    intro m X R hm hX;subst hX;have L8:∀q i,q≠wr.heap.size->(m.setRow wr.heap.size R).cell? (Ad q i)=W2.cell? (Ad q i):=fun q i hq=>by simp only[aD,dN m wr.heap.size q R hq,hm]
    have hq:=Ha.out.size;exact⟨by rw[L8 _ _ (by omega)];exact M8,by rw[L8 _ _ (by omega)];exact OK,by rw[L8 _ _ (by omega)];exact OL⟩
   go_region_held3 (fun w'=>w'.cell? (Ad (wr.heap.size+1) 1)=some (ai (some (Ad wr.heap.size 0)) n n)/\w'.cell? (Ad w.heap.size 0)=some (II a.1)/\w'.cell? (Ad w.heap.size 1)=some (.slice aa a.2.length ac)) (first|assumption|go_keep) (first
    |(refine jy rfl (.tmp 43) (.tmp 45) _ _ rfl _ _ (by kernel_rfl) (by kernel_rfl) (OB.out _ _ rfl) ?_;generalize FI:du _ wr.heap.size _=W3;have KS:=L3.out _ _ _ (by rfl) FI;replace FI:=fK FI))
   have DH:Bw wq W3:=by rw[<-FI.out];have h1:=fP Ha.out OQ.out;refine⟨h1.os,h1.tape,h1.output,(by simp only[du,Array.size_modify];exact h1.size),fun k hk=>?_⟩;rw[dN _ _ _ _ (by have:=Ha.out.size;omega)];exact h1.block k hk
   have QO:W3.heap[wr.heap.size]? =some (.cells (U8 (qJ lo (jA (aT n 0) d a.2) (M.take 0))).toArray 5 (0,0)):=by rw[<-FI.out];exact dO _ _ Z _ _ _ Qg.out
   have O':W3.heap[wr.heap.size+1]? =some (.cells #[II lo,ai (some (Ad wr.heap.size 0)) n n] 259 (0,0)):=by rw[<-FI.out,dN _ _ _ _ (by omega)];exact H9.out
   have QQ:(jA (aT n 0) d a.2).length=n:=by rw[lk (by simp;omega)];simp
   have FM:(a.1-lo).toNat=d:=by omega
   rw[FM]at Kb;have So:wq.heap.size<=wr.heap.size:=Ha.out.size;generalize jA (aT n 0) d a.2=L0 at Kb QO QQ;generalize wr.heap.size=J at *
   have H3:=fK (co DH (co QO O'));clear KS L3 FI OB H9 Qg OQ OP Rz OK OL M8 DH QO O' hZ RP Ha;go_wp2_with fail;go_loopw [49] (fun i wr=>∃k:Nat,k<=vs.length/\i=II k/\Hid (Bw wq wr/\wr.heap[J]? =some (.cells (U8 (qJ lo L0 (M.take k))).toArray 5 (0,0))/\wr.heap[J+1]? =some (.cells #[II lo,ai (some (Ad J 0)) n n] 259 (0,0)))) (fun i _=>vs.length-(aQ i).toNat);case atStart=>exact⟨0,be _,rfl,H3.out⟩
   case round=>
    obtain⟨k,hk,rfl,hI⟩:=hrel;obtain⟨tl,L6,ID⟩:=hI.out;have M8:wr.cell? (Ad (J+1) 1)=some (ai (some (Ad J 0)) n n):=by simp[aD,ID]
    have RF:Hid (∀k,(qJ lo L0 (M.take k)).length=n):=by intro k;rw[sB (fun q hq=>?_),QQ];have h5:=Ma.out q (ck hq);unfold gi at h5;rw[QQ];omega
    by_cases Nf:k<vs.length
    ·obtain⟨g,o,r,rv,rc,rfl,hr,c1,c2,P2,Q9,Q',P7⟩:=HK.out k wr Nf tl;have Q3:=Ma.out r (bS hr);have Q_:gi r=r.1+r.2.length:=rfl;obtain⟨d2,RT⟩:∃d2:Nat,r.1-lo=d2:=⟨(r.1-lo).toNat,by omega⟩;have Rn:IntKind.i64.wrap (r.1-lo)=(d2:Int):=by rw[dq];omega
     have SY:IntKind.i64.wrap (d2:Int)=(d2:Int):=by rw[dq];omega
     have SZ:d2+r.2.length<=n:=by omega
     have S0:(d2:Int)<=(n:Int):=by omega
     have S1:¬(n=d2):=by omega
     have tX:=RF.out k;have HT:Hid (qJ lo L0 (M.take (k+1))=jA (qJ lo L0 (M.take k)) d2 r.2):=by show _=_;rw[nf hr,I9,RT];rfl
     generalize qJ lo L0 (M.take k)=Lk at tX HT L6;have My:Bw wr (wr.alloc (.cells #[II r.1,.slice rv r.2.length rc] 259)):=fO _ _;have RM:J<wr.heap.size:=(bn.1 L6).1;have QL:J+1<wr.heap.size:=(bn.1 ID).1;have NE:CV (wr.alloc (.cells #[II r.1,.slice rv r.2.length rc] 259)) (J+1) 1 (ai (some (Ad J 0)) n n):=fL M8 My;have OC:Hid (∀(W:aK) (ty:bG),W.heap=(wr.alloc (.cells #[II r.1,.slice rv r.2.length rc] 259)).heap->(bD #[44,44] ty #[ai (some (Ad J d2)) (n-d2) (n-d2),.slice rv r.2.length rc]).run ab W
       = .ok (goInt r.2.length) (W.setRow J (U8 (jA Lk d2 r.2)).toArray)):=by
      intro W ty hW;obtain⟨g',o',e,Hn⟩:=sJ (P2.below My) P7;subst e;have e2:dK r.2.length (n-d2)=r.2.length:=by simp only[dz];split<;>omega
      have h2:=iK W _ 44 ty _ J d2 (n-d2) (n-d2) (Ad g' o') r.2.length rc (U8 Lk).toArray 5 _ _ underlying44 Hz (by rw[hW,Below.heap_alloc _ _ _ RM];exact L6) (by rw[e2,ir,ba]) (fun j v hj=>by rw[dt,<-Hn j v hj];simp only[aD,hW]) (by rw[ir,dr,ir,tX];exact SZ) (ms);rw[e2,show(U8 Lk).toArray.toList=U8 Lk from rfl,Eb]at h2;exact h2
     have RJ:Hid (∀(m X:aK) (R:Array aM),m.heap=(wr.alloc (.cells #[II r.1,.slice rv r.2.length rc] 259)).heap->m.setRow J R=X->X.cell? (Ad (J+1) 1)=some (ai (some (Ad J 0)) n n)/\X.cell? (Ad wr.heap.size 0)=some (II r.1)/\X.cell? (Ad wr.heap.size 1)=some (.slice rv r.2.length rc)):=by
      intro m X R hm hX;subst hX;have L8:∀q i,q≠J->(m.setRow J R).cell? (Ad q i)=(wr.alloc (.cells #[II r.1,.slice rv r.2.length rc] 259)).cell? (Ad q i):=fun q i hq=>by simp only[aD,dN m J q R hq,hm]
      exact⟨by rw[L8 _ _ (by omega)];exact NE,by rw[L8 _ _ (by omega)];simp,by rw[L8 _ _ (by omega)];simp⟩
     have RA:Hid (∀(m X:aK),Bw wr m->m.setRow J (U8 (jA Lk d2 r.2)).toArray=X->Bw wq X/\X.heap[J]? =some (.cells (U8 (qJ lo L0 (M.take (k+1)))).toArray 5 (0,0))/\X.heap[J+1]? =some (.cells #[II lo,ai (some (Ad J 0)) n n] 259 (0,0))):=by
      intro m X hm hX;subst hX;have h1:=fP tl hm;refine⟨⟨h1.os,h1.tape,h1.output,(by simp only[du,Array.size_modify];exact h1.size),fun q hq=>?_⟩,?_,?_⟩
      ·rw[dN _ _ _ _ (by omega)];exact h1.block q hq
      ·rw[HT.out];exact dO _ _ (U8 Lk).toArray _ _ _ (by rw[hm.block J RM];exact L6)
      ·rw[dN _ _ _ _ (by omega),hm.block (J+1) QL];exact ID
     clear hI tl L6 ID hr P2;go_wp2_with fail;go_region_held3 (fun w'=>w'.cell? (Ad (J+1) 1)=some (ai (some (Ad J 0)) n n)/\w'.cell? (Ad wr.heap.size 0)=some (II r.1)/\w'.cell? (Ad wr.heap.size 1)=some (.slice rv r.2.length rc)) (first|assumption|go_keep) (first
      |(refine jy rfl (.tmp 59) (.tmp 61) _ _ rfl _ _ (by kernel_rfl) (by kernel_rfl) (OC.out _ _ rfl) ?_;generalize Pb:du _ J _=W4;have Sq:=RJ.out _ _ _ (by rfl) Pb;replace Pb:=fK Pb))
     have H4:=fK (RA.out _ _ (fQ My _) Pb.out);clear Sq RJ OC RA Pb My NE;go_wp2_with fail;go_roundw;case rel=>exact⟨k+1,by omega,by go_num,H4.out⟩
     case measure=>simp[aQ];omega
    ·obtain rfl:k=vs.length:=by omega
     have NM:M.take vs.length=M:=bP (by rw[Mb.out];exact ar _);have tX:=RF.out vs.length;rw[NM]at L6 tX;have xr:=fP OR.out tl;have DG:wr.heap[w.heap.size+1]? =some (.cells #[II 0,ai none 0 0] 259 (0,0)):=by rw[tl.block _ (by omega)];exact HR.out
     have Sh:wr.cell? (Ad (J+1) 0)=some (II lo):=by simp[aD,ID]
     have r0:wr.cell? (Ad (w.heap.size+1) 0)=some (II 0):=by simp[aD,DG]
     have r1:wr.cell? (Ad (w.heap.size+1) 1)=some (ai none 0 0):=by simp[aD,DG]
     have f0:wr.frozen? (Ad (w.heap.size+1) 0)=false:=cx wr _ _ _ _ DG;have f1:wr.frozen? (Ad (w.heap.size+1) 1)=false:=cx wr _ _ _ _ DG;have HF:=fK (co xr (co L6 DG));clear hI tl L6 ID xr DG;go_wp2_with fail;obtain⟨xr,L6,DG⟩:=HF.out;have Q1:((wr.setCell (Ad (w.heap.size+1) 0) (II lo)).setCell (Ad (w.heap.size+1) 1) (ai (some (Ad J 0)) n n)).heap[w.heap.size+1]? =some (.cells #[II lo,ai (some (Ad J 0)) n n] 259 (0,0)):=
      (fT (fT DG _ _) 1 _).trans rfl
     refine bodyPost_ret (results_cell_row (P:=ab) Tryz.results240 _ _ (w.heap.size+1) 259 #[II lo,ai (some (Ad J 0)) n n] (0,0) _ rfl Q1 underlying259 rfl uq) rfl ?_;refine⟨J,n,by rw[OV.out],?_,?_⟩
     ·refine⟨by rw[Kb.out,ir,tX,ba],.inr ⟨J,n,(U8 (qJ lo L0 M)).toArray,rfl,by omega,?_,ar _,by unfold aO;omega,by rw[dr,ir,tX,ba],?_⟩⟩
      ·rw[cy _ _ _ _ (show J≠w.heap.size+1 by omega),cy _ _ _ _ (show J≠w.heap.size+1 by omega)];exact L6
      ·rw[Kb.out];exact bP (by rw[ir,tX];omega)
     ·refine⟨xr.os,xr.tape,xr.output,(by rw[bQ,bQ];exact xr.size),fun q hq=>?_⟩;rw[cy _ _ _ _ (show q≠w.heap.size+1 by omega),cy _ _ _ _ (show q≠w.heap.size+1 by omega)];exact xr.block q hq
structure iy(w:aK)(lv:aM)(vs:List iw)(rl:List gH):Prop where
 own:w.ownsRow 0 259 2 lv vs.length (gy vs)
 sh:md vs rl
 ro:∀(i:Nat) v r,vs[i]? =some v->rl[i]? =some r->Ro w 5 v.2 r.2.length (U8 r.2)
structure kE(rl:List gH):Prop where
 wf:kf rl
 tz:rl.length<=100
 L5:∀r∈rl,0<=r.1/\gi r<=1099511627776
theorem kE.wide{C:List gH}(h:kE C):∀r∈C,-4611686018427387904<=r.1/\r.1<=4611686018427387904/\r.2.length<=4611686018427387:=by intro r a;have:=h.L5 r a;unfold gi at this;omega
theorem md.one{K:List iw}{C:List gH}(h:md K C):∀r∈K,r.2.oneCell'=true:=by intro d b;obtain⟨i,hi,rfl⟩:=dw b;obtain⟨_,c,cap,a,_⟩:=h.2 i K[i] (C[i]'(by rw[<-h.1];exact hi)) (ap hi) (ap _);rw[a];rfl
theorem iy.part{K:List iw}{C:List gH}(h:iy w (.slice R K.length cap) K C){j:Nat}(q:i<=j)(s:j<=K.length)(f:aM)(m:(i=j/\∃d e,f=.slice d 0 e)\/∃b,R=some (Ad b 0)/\f=ai (some (Ad b (i*2))) (j-i) (cap-i)):
  Me w f ((K.drop i).take (j-i)):=by
 have k:((K.drop i).take (j-i)).length=j-i:=by simp;omega
 rcases m with⟨rfl,d,e,rfl⟩|⟨b,rfl,rfl⟩
 ·refine⟨d,e,by grind,fun c p a=>?_⟩;simp at a
 ·refine⟨_,_,by rw[k],fun c p a=>⟨b,i*2,rfl,?_⟩⟩;have g:=(bo.1 a).1;rw[k]at g;rw[bp g,cG]at a;obtain⟨n,o⟩:=lR a;have l:i*2+c*2=(i+c)*2:=by omega
  rw[l];refine⟨?_,?_⟩
  ·rw[h.own.cellAt _ (by omega)];exact n
  ·rw[h.own.cellAt _ (by omega)];exact o
theorem md.sub{K:List iw}{C:List gH}(h:md K C)(i m:Nat):md ((K.drop i).take m) ((C.drop i).take m):=by
 refine⟨by simp[h.1],fun c f r a b=>?_⟩;have d:=(bo.1 a).1;have e:c<m:=by simp at d;omega
 rw[bp e,cG]at a b;exact h.2 (i+c) f r a b
theorem iy.Oq{K:List iw}{C:List gH}(h:iy w e K C){m:Nat}:∀(a:Nat) b r,((K.drop i).take m)[a]? =some b->((C.drop i).take m)[a]? =some r->Ro w 5 b.2 r.2.length (U8 r.2):=by
 intro a b r c d;have f:=(bo.1 c).1;have g:a<m:=by simp at f;omega
 rw[bp g,cG]at c d;exact h.ro (i+a) b r c d
theorem md.put{K:List iw}{C:List gH}(h:md K C)(i j:Nat){x:iw}{r:gH}(o:x.1=r.1/\∃l cap,x.2=.slice l r.2.length cap/\r.2.length<=cap):md (K.take i++x::K.drop j) (C.take i++r::C.drop j):=by
 have n:(K.take i).length=(C.take i).length:=by simp[h.1]
 refine⟨by simp[h.1],fun c k g b a=>?_⟩;rcases Nat.lt_trichotomy c (K.take i).length with d|d|d
 ·rw[aZ d]at b;rw[aZ (by omega)]at a;have m:c<i:=by simp at d;omega
  rw[bp m]at b a;exact h.2 c k g b a
 ·grind
 ·obtain⟨e,f⟩:∃e,c-(K.take i).length=e+1:=⟨c-(K.take i).length-1,by omega⟩;rw[bN (by omega),f,cf,cG]at b;rw[bN (by omega),<-n,f,cf,cG]at a;exact h.2 (j+e) k g b a
theorem L2{K:List iw}{C:List gH}(o:K.length=C.length)(k:∀(i:Nat) f r,K[i]? =some f->C[i]? =some r->Ro b 5 f.2 r.2.length (U8 r.2)){w1:iw}{r:gH}(p:Ro b 5 w1.2 r.2.length (U8 r.2)):∀(a:Nat) f g,(K.take i++w1::K.drop d)[a]? =some f->(C.take i++r::C.drop d)[a]? =some g->Ro b 5 f.2 g.2.length (U8 g.2):=by
 have n:(K.take i).length=(C.take i).length:=by simp[o]
 intro a f g e c;rcases Nat.lt_trichotomy a (K.take i).length with h|h|h
 ·rw[aZ h]at e;rw[aZ (by omega)]at c;have m:a<i:=by simp at h;omega
  rw[bp m]at e c;exact k a f g e c
 ·rw[bN (by omega),show a-(K.take i).length=0 from by omega]at e;rw[bN (by omega),show a-(C.take i).length=0 from by omega]at c;simp at e c;subst e c;exact p
 ·obtain⟨j,l⟩:∃j,a-(K.take i).length=j+1:=⟨a-(K.take i).length-1,by omega⟩;rw[bN (by omega),l,cf,cG]at e;rw[bN (by omega),<-n,l,cf,cG]at c;exact k (d+j) f g e c
theorem Hk(a:List gH)(b:gH):lx a b<=xw a b/\xw a b<=a.length:=by unfold xw;have d:lx a b<=a.length:=(dG _).length_le;have e:=(dG (fun c:gH=>decide (c.1<=gi b)) (l:=a.drop (lx a b))).length_le;grind
theorem Am:(b.drewN a).drewN d=b.drewN (a+d):=by simp[World.drewN,dF]
theorem E2{r:List Int}(C:k.length=r.length)(H:k.length<=4611686018427387)(x:∀(j:Nat) u,(U8 k)[j]? =some u->CV b a (d+j) u)(y:∀(j:Nat) u,(U8 r)[j]? =some u->CV b n (A+j) u):
  aL ab 237 #[ai (some (Ad a d)) k.length c1,ai (some (Ad n A)) k.length z7] b fun o K=>o=.returned (.bool (decide (k=r)))/\∃f,K=b.drewN f:=by
 have E:=fK x;have G:=fK y;have v:=fK C;clear x y C;obtain⟨e,q⟩:∃e,e=k.length:=⟨_,rfl⟩;rw[<-q]at H⊢;have l:=fK q;clear q;go_enter func237,ntmps237;go_wp2_with fail;go_loopw [13] (fun i L=>∃c f:Nat,c<=e/\i=II c/\L=b.drewN f/\Hid (k.take c=r.take c)) (fun i _=>e-(aQ i).toNat);case atStart=>exact⟨0,0,be _,rfl,rfl,rfl⟩
 case round=>
  obtain⟨c,f,O,rfl,rfl,z⟩:=hrel;by_cases B:c<e
  ·obtain⟨g,s⟩:∃g,k[c]? =some g:=⟨_,ap (by rw[<-l.out];exact B)⟩;obtain⟨h,t⟩:∃h,r[c]? =some h:=⟨_,ap (by rw[<-v.out,<-l.out];exact B)⟩;have P:(c:Int)<(e:Int):=by omega
   have M:CV b a (d+c) (.int .u8 g):=E.out c _ (by simp[U8,s]);have N:CV b n (A+c) (.int .u8 h):=G.out c _ (by simp[U8,t]);have m:=fK s;have w:=fK t;clear s t;cases D:(g != h)
   ·have J:g=h:=by simpa using D
    go_wp2_with fail;go_quiet (fail);go_wp2_with fail;go_roundw;case rel=>exact⟨c+1,f+nq,by omega,by go_num,(by first|rfl|exact Am),by show _=_;rw[nf m.out,nf w.out,z.out,J]⟩
    case measure=>simp[aQ];omega
   ·have I:g≠h:=by simpa using D
    go_wp2_with fail;go_quiet (fail);go_wp2_with fail;go_ret;refine⟨?_,f+nq,by first|rfl|exact Am⟩;have:decide (k=r)=false:=by simp only[decide_eq_false_iff_not];intro o;rw[o]at m;exact I (Option.some.inj (m.out.symm.trans w.out))
    rw[this];rfl
  ·obtain rfl:c=e:=by omega
   have p:decide (k=r)=true:=by have:=z.out;rw[bP (by rw[l.out];exact ar _),bP (by rw[l.out,v.out];exact ar _)]at this;simpa using this
   replace p:=fK p;go_wp2_with fail;go_ret;exact⟨by rw[p.out];rfl,f,rfl⟩
theorem xz(b:List Int)(c f j:Nat)(a:aK)(B:b.length<=1099511627776)(m:∀(e:Nat) g,(U8 b)[e]? =some g->CV a c (f+e) g)(A:0<b.length):
  aL ab 167 #[ai (some (Ad c f)) b.length j] a fun s h=>∃p,s=.returned p/\h.ownsRow a.heap.size 5 1 p b.length (U8 b)/\Bw a h:=by
 obtain⟨y,hi,v,w,x⟩:=aP lE;have C:=Lib.run_eql_slice_nil (P:=ab) a 44 5 (some (Ad c f)) b.length j 0 0 underlying44;have q:=fK m;have l:Hid ((a.alloc (.cells #[] 5)).ownsRow a.heap.size 5 1 (ai (some (gf a 0)) 0 0) 0 []):=by exact⟨rfl,.inr ⟨a.heap.size,0,#[],rfl,ar _,cA a _,ar _,be _,rfl,rfl⟩⟩
 clear m;go_enter func167,ntmps167;go_wp2_with (at_builtin;refine wpList_append_own _ rfl _ _ 44 rfl a.heap.size 5 y (.int .u8 0) 1 1 underlying44 hi v w x rfl (by decide) (ai (some (gf a 0)) 0 0) 0 [] rfl l.out (Ad c f) b.length j (U8 b) rfl (by rw[ir,ba]) (fun e g u=>by rw[dt];exact fL (q.out e g u) (fO _ _)) (ms) (by unfold aO;omega) (by omega) (by simp) ?_;intro D h d o _;refine Hid.out ?_);refine fK ?_;have n:Bw a h:=(fO _ _).grown o (by simp) (fun z t=>by simp[aq]at t;omega);rw[List.nil_append,aw]at d;obtain⟨E,G,rfl⟩:=gB d;have k:=fK (co d n);clear d o n l;go_wp2_with fail;go_ret;exact⟨_,rfl,k.out.1,k.out.2⟩
theorem ET{K:List iw}(e:CV b d f (.slice R K.length cap)):
  aL ab 236 #[ag (some (Ad d f))] b fun a c=>a=.returned (II K.length)/\b=c:=by
 go_enter func236,ntmps236;go_wp2;go_ret;exact⟨rfl,rfl⟩
theorem EM{K:List iw}(e:CV b d f (.slice R K.length cap)):
  aL ab 150 #[ag (some (Ad d f))] b fun a c=>a=.returned (II K.length)/\b=c:=by
 go_enter func150,ntmps150;go_wp2;go_ret;exact⟨rfl,rfl⟩
theorem yK(a:List gH)(r:gH):qV (a++[r])=qV a+r.2.length:=by simp[qV]
theorem zF{C:List gH}(e:∀r∈C,r.2.length<=a):∀b,qV (C.take b)<=b*a:=by
 intro b;induction b with
 |zero=>simp[qV]
 |succ b d=>
  rcases ay b C.length with c|c
  ·rw[nf (ap c),yK,Nat.add_mul];grind
  ·rw[bP (by omega)]at d⊢;rw[Nat.add_mul];omega
theorem G8{K:List iw}{C:List gH}(X:CV b a d e)(f:b.ownsRow 0 259 2 e K.length (gy K))(o:md K C)(n:kE C):
  aL ab 129 #[ag (some (Ad a d))] b fun G Q=>G=.returned (II (qV C))/\Bw b Q:=by
 obtain⟨S,cap,rfl⟩:=gr f;have Z:K.length<=100:=by rw[o.1];exact n.tz
 have A:Hid (∀c,c<=100->qV (C.take c)<=109951162777600):=by intro c M;have:=zF (C:=C) (a:=1099511627776) (fun r g=>by have:=n.L5 r g;unfold gi at this;omega) c;omega
 have z:=fK f;have m:=fK o;clear f o;go_enter func129,ntmps129;go_wp2_with fail;go_loopw [3,11] (fun P i wr=>∃c:Nat,c<=K.length/\i=II c/\P=II (qV (C.take c))/\Bw b wr) (fun _ i _=>K.length-(aQ i).toNat);case atStart=>exact⟨0,be _,rfl,rfl,Below.refl _ _⟩
 case round=>
  obtain⟨c,M,rfl,rfl,h⟩:=hrel;have O:=A.out c (by omega);by_cases w:c<K.length
  ·obtain⟨j,p⟩:∃j,K[c]? =some j:=⟨_,ap w⟩;obtain⟨r,g⟩:∃r,C[c]? =some r:=⟨_,ap (by rw[<-m.out.1];exact w)⟩;obtain⟨s,D,E,t,Y⟩:=m.out.2 c j r p g;obtain⟨a2,a3⟩:=j;simp only at s t;subst s t;have f:=gp z.out h;rcases f.2 with⟨_,W⟩|⟨v,U,V,u,_,L,a0,I,J,N⟩
   ·omega
   simp only[Value.slice.injEq]at u;obtain⟨rfl,_,rfl⟩:=u;obtain⟨x,y⟩:=lR p;have c1:wr.cell? (Ad v (c*2))=some (II r.1):=by rw[f.cellAt (c*2) (by omega)];exact x
   have T:wr.cell? (Ad v (c*2+1))=some (.slice D r.2.length E):=by rw[f.cellAt (c*2+1) (by omega)];exact y
   have a1:r.2.length<=1099511627776:=by have:=n.L5 r (bS g);unfold gi at this;omega
   have q:Hid (qV (C.take (c+1))=qV (C.take c)+r.2.length):=by show _=_;rw[nf g,yK]
   have k:=fK h;clear f L N J I x y g p h;generalize qV (C.take c)=R at O q;go_wp2_with fail;go_roundw;case rel=>exact⟨c+1,by omega,by go_num,by rw[q.out];rfl,fP k.out (fO _ _)⟩
   case measure=>simp[aQ];omega
  ·obtain rfl:c=K.length:=by omega
   have H:C.take K.length=C:=bP (by rw[m.out.1];exact ar _);rw[H];have k:=fK h;clear h;go_wp2_with fail;go_ret;exact⟨rfl,k.out⟩
theorem CK{K:List iw}{C:List gH}(g3:CV b a d h)(g:iy b h K C)(V:kE C)(a2:Ro b 5 e k.length (U8 k))(c3:∀I cap,e=.slice I k.length cap->k.length<=cap/\cap<=9223372036854775807)(c8:∀A∈K,∀I m cap,A.2=.slice I m cap->cap<=9223372036854775807)(e5:0<=first/\first+k.length<=1099511627776):
  aL ab 234 #[ag (some (Ad a d)),II first,e] b fun E s=>E=.returned (.bool (lC C first k))/\Bw b s:=by
 obtain⟨f0,N,rfl,_,_⟩:=id a2;obtain⟨a1,g9⟩:=c3 f0 N rfl;obtain⟨I,cap,rfl⟩:=gr g.own;have h0:K.length<=100:=by rw[g.sh.1];exact V.tz
 have d5:Hid (∀(c:Nat) (wr:aK),c<K.length->Bw b wr->∃G r z p,I=some (Ad G 0)/\C[c]? =some r/\wr.cell? (Ad G (c*2))=some (II r.1)/\wr.cell? (Ad G (c*2+1))=some (.slice z r.2.length p)/\Ro wr 5 (.slice z r.2.length p) r.2.length (U8 r.2)/\0<=r.1/\r.1+r.2.length<=1099511627776/\0<r.2.length/\r.2.length<=p/\p<=9223372036854775807):=by
  intro c wr a4 y;obtain⟨A,Y⟩:∃A,K[c]? =some A:=⟨_,ap a4⟩;obtain⟨r,v⟩:∃r,C[c]? =some r:=⟨_,ap (by rw[<-g.sh.1];exact a4)⟩;obtain⟨T,d8,e1,J,e3⟩:=g.sh.2 c A r Y v;have b4:=(g.ro c A r Y v).below y;have b5:=V.L5 r (bS v);have e2:=c8 A (bS Y) _ _ _ J;obtain⟨i6,i7⟩:=A;simp only at T J b4;subst T J;have a5:=gp g.own y;rcases a5.2 with⟨_,g2⟩|⟨G,f8,f9,U,_,g8,h1,g4,g5,i0⟩
  ·omega
  simp only[Value.slice.injEq]at U;obtain⟨rfl,_,rfl⟩:=U;obtain⟨j,x⟩:=lR Y;exact⟨G,r,d8,e1,rfl,v,by rw[a5.cellAt (c*2) (by omega)];exact j,by rw[a5.cellAt (c*2+1) (by omega)];exact x,b4,b5.1,b5.2,px V.wf (bS v),e3,e2⟩
 obtain⟨g6,g7⟩:=e5;have i1:IntKind.i64.wrap (first+(k.length:Int))=first+(k.length:Int):=by rw[dq];omega
 have d3:=fK a2;have d6:=fK g.sh.1;clear g a2 c8 c3 V;go_enter func234,ntmps234;go_wp2_with fail;go_loopw [16] (fun i wr=>∃c:Nat,c<=K.length/\i=II c/\Bw b wr/\Hid (∀(f:Nat) r,f<c->C[f]? =some r->om first k r=true)) (fun i _=>K.length-(aQ i).toNat);case atStart=>exact⟨0,be _,rfl,Below.refl _ _,fun f r n=>by omega⟩
 case round=>
  obtain⟨c,a4,rfl,y,X⟩:=hrel;by_cases e6:c<K.length
  ·obtain⟨G,r,z,p,rfl,v,c1,b3,b7,h6,h7,e9,h8,h9⟩:=d5.out c wr e6 y;have b2:Hid (∀q,aL ab 197 #[.agg #[II r.1,.slice z r.2.length p]] q fun E s=>E=.returned (II (r.1+r.2.length))/\Bw q s):=fun q=>mB (by omega) (by omega);have b0:Hid (∀q s:aK,Bw q s->(io q wr 0 r.1/\lq q wr 1 (.slice z r.2.length p))->(io s wr 0 r.1/\lq s wr 1 (.slice z r.2.length p))):=
    fun q s b9 g=>⟨fL g.1 b9,fL g.2 b9⟩
   have Z:=fK v;have b1:=fK b7;have P:=fK y;have S:=fK X;clear v b7 y X;go_upto_region 4 with fail;go_cut [9,10] from 20 to 30 (fun f3 f2 a9=>f3=II (max first r.1)/\f2=II (min (first+k.length) (r.1+r.2.length))/\Bw wr a9/\a9.cell? (gf wr 0)=some (II r.1)/\a9.cell? (gf wr 1)=some (.slice z r.2.length p));case first=>
    rcases bO first r.1 with e7|e7<;>rcases bO (r.1+(r.2.length:Int)) (first+(k.length:Int)) with e8|e8
    all_goals
     go_region_held3 (fun s=>s.cell? (gf wr 0)=some (II r.1)/\s.cell? (gf wr 1)=some (.slice z r.2.length p)) (first|assumption|go_keep) (first
      |(go_at_call 197;refine(b2.out _).mono ?_;rintro E j6 ⟨rfl,c2⟩;have b8:=b0.out _ _ c2 (by assumption)))
     all_goals
      go_wp2_with fail;go_meet;exact⟨congrArg (bh .i64) (by omega),congrArg (bh .i64) (by omega),fP (fO _ _) (gc c2),b8.1,b8.2⟩
   case rest=>
    obtain⟨rfl,rfl,a0,g0,g1⟩:=hcut;have Q:=fK (fP P.out a0);have d7:=fK (b1.out.below a0);have d4:=fK (d3.out.below Q.out);have H:Hid (om first k r=if max first r.1<min (first+k.length) (r.1+r.2.length) then
      decide ((r.2.drop (max first r.1-r.1).toNat).take (min (first+k.length) (r.1+r.2.length)-max first r.1).toNat=(k.drop (max first r.1-first).toNat).take (min (first+k.length) (r.1+r.2.length)-max first r.1).toNat) else true):=rfl
    clear a0 P b1 b2 b0 c1 b3;have c5:first<=max first r.1/\r.1<=max first r.1:=by omega
    have c4:min (first+(k.length:Int)) (r.1+(r.2.length:Int))<=first+k.length/\min (first+(k.length:Int)) (r.1+(r.2.length:Int))<=r.1+r.2.length:=by omega
    generalize max first r.1=t at c5 H
    generalize min (first+(k.length:Int)) (r.1+(r.2.length:Int))=w at c4 H;obtain⟨i2,i3⟩:=c5;obtain⟨i4,i5⟩:=c4;by_cases W:t<w
    ·obtain⟨o,h2⟩:∃B:Nat,t-r.1=B:=⟨(t-r.1).toNat,by omega⟩;obtain⟨D,h3⟩:∃B:Nat,w-r.1=B:=⟨(w-r.1).toNat,by omega⟩;obtain⟨j,h4⟩:∃B:Nat,t-first=B:=⟨(t-first).toNat,by omega⟩
     obtain⟨x,h5⟩:∃B:Nat,w-first=B:=⟨(w-first).toNat,by omega⟩
     have e4:decide (t<w)=true:=by simpa using W
     have i8:IntKind.i64.wrap (t-r.1)=(o:Int):=by rw[dq];omega
     have i9:IntKind.i64.wrap (w-r.1)=(D:Int):=by rw[dq];omega
     have j0:IntKind.i64.wrap (t-first)=(j:Int):=by rw[dq];omega
     have j1:IntKind.i64.wrap (w-first)=(x:Int):=by rw[dq];omega
     have j2:IntKind.i64.wrap (o:Int)=(o:Int):=by rw[dq];omega
     have j3:IntKind.i64.wrap (D:Int)=(D:Int):=by rw[dq];omega
     have j4:IntKind.i64.wrap (j:Int)=(j:Int):=by rw[dq];omega
     have j5:IntKind.i64.wrap (x:Int)=(x:Int):=by rw[dq];omega
     have d9:(o:Int)<=(D:Int):=by omega
     have e0:(D:Int)<=(p:Int):=by omega
     have f4:(j:Int)<=(x:Int):=by omega
     have f5:(x:Int)<=(N:Int):=by omega
     have f6:¬(p=o):=by omega
     have f7:¬(N=j):=by omega
     obtain⟨d2,ro,T,c7⟩:=sJ d7.out e9;subst T;obtain⟨c9,d0,J,a1⟩:=sJ d4.out (by omega);subst J;obtain⟨m,c6⟩:∃m,m=D-o:=⟨_,rfl⟩;have R:Hid (∀q,(∃O,q=wc.drewN O)->aL ab 237 #[ai (some (Ad d2 (ro+o))) (D-o) (p-o),ai (some (Ad c9 (d0+j))) (x-j) (N-j)] q fun E s=>E=.returned (.bool (om first k r))/\∃O,s=q.drewN O):=by
      rintro q ⟨O,rfl⟩;have d1:((r.2.drop o).take m).length=m:=by simp;omega
      have f1:((k.drop j).take m).length=m:=by simp;omega
      have b6:=E2 (k:=(r.2.drop o).take m) (r:=(k.drop j).take m) (a:=d2) (d:=ro+o) (c1:=p-o) (n:=c9) (A:=d0+j) (z7:=N-j) (b:=wc.drewN O) (by rw[d1,f1]) (by omega) (fun f a8 n=>by
       show wc.cell? _=_;rw[dF];refine c7 (o+f) a8 ?_;simp only[U8,dA]at n⊢;have a3:f<m:=by
        rcases ay f m with g|g
        ·exact g
        ·rw[cJ (by omega)]at n;cases n
       rwa [bp a3,cG]at n) (fun f a8 n=>by
       show wc.cell? _=_;rw[dF];refine a1 (j+f) a8 ?_;simp only[U8,dA]at n⊢;have a3:f<m:=by
        rcases ay f m with g|g
        ·exact g
        ·rw[cJ (by omega)]at n;cases n
       rwa [bp a3,cG]at n)
      rw[d1]at b6;have U:x-j=m:=by omega
      rw[U,<-c6,H.out,if_pos W,show(t-r.1).toNat=o from by omega,show(t-first).toNat=j from by omega,show(w-t).toNat=m from by omega];exact b6
     clear c7 a1 H c6;cases u:om first k r
     ·rw[u]at R;have a6:lC C first k=false:=by unfold lC;rw[List.all_eq_false];exact⟨r,bS Z.out,by rw[u];decide⟩
      replace a6:=fK a6;go_wp2_with fail;go_quiet ((go_at_call 237;exact Calls.quiet_of (R.out _ ⟨_,rfl⟩)));go_wp2_with fail;go_ret;exact⟨by rw[a6.out];rfl,fQ Q.out _⟩
     ·rw[u]at R;go_wp2_with fail;go_quiet ((go_at_call 237;exact Calls.quiet_of (R.out _ ⟨_,rfl⟩)));go_wp2_with fail;go_roundw;case rel=>
       refine⟨c+1,by omega,by go_num,fQ Q.out _,fun f a7 n M=>?_⟩;rcases ay f c with L|L
       ·exact S.out f a7 L M
       ·obtain rfl:f=c:=by omega
        obtain rfl:=Option.some.inj (Z.out.symm.trans M);exact u
      case measure=>simp[aQ];omega
    ·have e4:decide (t<w)=false:=by simpa using W
     have u:om first k r=true:=by rw[H.out,if_neg W]
     go_wp2_with fail;go_quiet (fail);go_wp2_with fail;go_roundw;case rel=>
      refine⟨c+1,by omega,by go_num,fQ Q.out _,fun f a7 n M=>?_⟩;rcases ay f c with L|L
      ·exact S.out f a7 L M
      ·obtain rfl:f=c:=by omega
       obtain rfl:=Option.some.inj (Z.out.symm.trans M);exact u
     case measure=>simp[aQ];omega
  ·obtain rfl:c=K.length:=by omega
   have S:=fK X;have P:=fK y;clear X y;have u:lC C first k=true:=by unfold lC;rw[List.all_eq_true];intro r v;obtain⟨f,n,rfl⟩:=dw v;exact S.out f _ (by rw[d6.out];exact n) (ap n)
   replace u:=fK u;go_wp2_with fail;go_ret;exact⟨by rw[u.out];rfl,P.out⟩
def rI(v:aM):Prop:=∀ao n cap,v=.slice ao n cap->cap<=9223372036854775807
theorem Ai(h:b.ownsRow a z f e d o):rI e:=by
 intro k p cap c;rcases h.2 with⟨g,_⟩|⟨n,l,m,g,_,_,_,j,_⟩
 ·grind
 ·rw[g]at c;simp only[Value.slice.injEq]at c;unfold aO at j;omega
structure iZ(w:aK)(rb off:Nat)(cs:Array aM)(t:bG)(lv:aM)(vs:List iw)(LF:List gH)(w':aK)(rY:aM)(CU:List iw):Prop where
 gK:w'.heap[rb]? =some (.cells (cs.setIfInBounds off rY) t (0,0))
 runs:iy w' rY CU LF
 gx:gm (fun k=>k=rb\/lv.ownBlock=some k) w w'
 at_:rY.ownBlock=lv.ownBlock\/∀g,rY.ownBlock=some g->w.heap.size<=g
 items:∀v∈CU,v∈vs\/(rI v.2/\∀g,v.2.ownBlock=some g->w.heap.size<=g)
theorem oh(f:y5.underlying z=some (.slice y8))(e:(dJ y8).run y5 b=.ok a b)(c:i<=A)(d:A<=cap):
  (dI z (.slice R len cap) (some (II (i:Int))) (some (II (A:Int))) none).run y5 b=.ok (.slice (if cap=i then R else R.map (·.add (i*a))) (A-i) (cap-i)) b:=by
 simp[dI,Instr.sliceBounds,Instr.sliceBound,asIntOf,dM f,e,c,d]
theorem iy.below{K:List iw}{C:List gH}(h:iy w e K C)(a:Bw w b):iy b e K C:=⟨gp h.own a,h.sh,fun i f r d c=>(h.ro i f r d c).below a⟩
theorem CQ{K:List iw}{C:List gH}{w1:iw}{r:gH}{u9:Obj}(q:iy b e K C)(t:b.heap[a]? =some (.cells D z (0,0)))(G:z≠259)(X:z≠5)
  (g:Bw b w) (Q:w1.1=r.1/\∃o m,w1.2=ai (some (Ad o 0)) r.2.length m/\r.2.length<=m/\b.heap.size<=o/\m<=9223372036854775807) (P:Ro w 5 w1.2 r.2.length (U8 r.2))
  (B:z5.ownsRow 0 259 2 h (K.take i++w1::K.drop n).length (gy (K.take i++w1::K.drop n))) (M:(w.alloc u9).grownBy z5 e.ownBlock) (I:h.ownBlock=e.ownBlock\/∀o,h.ownBlock=some o->(w.alloc u9).heap.size<=o):
  z5.heap[a]? =some (.cells D z (0,0))/\iZ b a d D z e K (C.take i++r::C.drop n) (z5.setCell (Ad a d) h) h (K.take i++w1::K.drop n):=by
 have y:a<b.heap.size:=(bn.1 t).1;have N:e.ownBlock≠some a:=fR q.own t (fun f=>G f.symm);have k:w.grownBy z5 e.ownBlock:=ga M;have x:z5.heap[a]? =some (.cells D z (0,0)):=by rw[k.block a (ca y g.size) (Ne.symm N),g.block a y];exact t
 refine⟨x,?_⟩;have L:gm (fun c=>c=a\/e.ownBlock=some c) b (z5.setCell (Ad a d) h):=by refine⟨k.os.trans g.os,k.tape.trans g.tape,k.output.trans g.output,by rw[bQ];exact bZ g.size k.size,fun c j s=>?_⟩;rw[cy _ _ _ _ (show c≠a from fun f=>s (bg f)),k.block c (ca j g.size) (fun f=>s (bf f.symm)),g.block c j]
 have E:∀p m A,Ro w 5 p m A->Ro (z5.setCell (Ad a d) h) 5 p m A:=by
  intro p m A l;have J:gm (fun c=>c=a\/e.ownBlock=some c) w (z5.setCell (Ad a d) h):=by refine⟨k.os,k.tape,k.output,by rw[bQ];exact k.size,fun c j s=>?_⟩;rw[cy _ _ _ _ (show c≠a from fun f=>s (bg f)),k.block c j (fun f=>s (bf f.symm))]
  refine l.gx J fun c V W j v=>?_;rcases v with rfl|v
  ·rw[g.block c y,t]at j;grind
  ·exact fR (gp q.own g) j (by decide) v
 obtain⟨R,o,m,H,S,Y,Z⟩:=Q;refine⟨(fT x _ _).trans rfl,⟨?_,q.sh.put i n ⟨R,_,m,H,S⟩,?_⟩,L,?_,?_⟩
 ·exact cC B (fR B x (fun f=>G f.symm)) _
 ·exact L2 q.sh.1 (fun c p T l O=>E _ _ _ ((q.ro c p T l O).below g)) (E _ _ _ P)
 ·rcases I with u|u
  ·exact bg u
  ·refine bf fun c j=>?_;have:=u c j;simp at this;have:=g.size;omega
 ·intro p l;rcases List.mem_append.1 l with l|l
  ·grind
  ·rcases cF.1 l with rfl|l
   ·refine bf ⟨fun U a0 cap f=>by grind,fun c j=>?_⟩;rw[H]at j;simp only[aq,Option.some.injEq]at j;omega
   grind
theorem G6{K:List iw}{C:List gH}{o:Nat}(a9:b.heap[o]? =some (.cells D z (0,0)))(f0:D[d]? =some h)(e1:z≠259)(g0:z≠5)(v:iy b h K C)(W:kE C)
  (b4:Ro b 5 e k.length (U8 k)) (d6:k≠[]) (f1:0<=first/\first+k.length<=1099511627776):
  aL ab 235 #[ag (some (Ad o d)),II first,e] b fun c E=>c=.returned (.tuple #[])/\∃u b8,iZ b o d D z h K (kU C first k) E u b8:=by
 have f2:0<k.length:=List.length_pos_iff.2 d6;obtain⟨A,B,rfl,_,_⟩:=id b4;have V:b.cell? (Ad o d)=some h:=by simp only[aD,a9];exact f0
 have d7:K.length=C.length:=v.sh.1;have h0:=W.tz;have e0:=hK V;have h3:((k.length:Int)==0)=false:=beq_eq_false_iff_ne.2 (by omega);have U:Bw b (b.alloc (.cells #[II first,.slice A k.length B] 259)):=fO _ _;have R:=fK (zb (K:=K) (C:=C) (e:=h) (x9:=(first,k)) (R:=A) (a:=B) (d:=o) (f:=d) (b:=b.alloc (.cells #[II first,.slice A k.length B] 259)) (fL V U) (gp v.own U) v.sh W.wide (by omega) (by simp only;omega));have b1:=Hk C (first,k);have Q:Hid (kU C first k=C.take (lx C (first,k))++lN (first,k) ((C.drop (lx C (first,k))).take (xw C (first,k)-lx C (first,k)))::C.drop (xw C (first,k))):=by show _=_;unfold kU;rw[if_neg d6]
 generalize lx C (first,k)=i at R Q b1;generalize xw C (first,k)=n at R Q b1;obtain⟨b3,h1⟩:=b1;have h2:n<=K.length:=by omega
 have h6:K.length<=100:=by omega
 replace d7:=fK d7;have w:=fK v;have a1:=fK a9;clear a9 v;go_enter func235,ntmps235;go_wp2_with fail;refine R.out.mono ?_;rintro c a0 ⟨rfl,O⟩;have a8:=O;replace O:=fP U O;have e8:CV a0 o d h:=fL V O;have g4:io a0 b 0 first:=fL (by simp) a8
 have g5:lq a0 b 1 (.slice A k.length B):=fL (by simp) a8;obtain⟨p,cap,rfl⟩:=gr w.out.own;have a2:Hid (∀(q:aK) (y:aM),Bw b q->((i=n/\∃b6 b7,y=.slice b6 0 b7)\/∃m,p=some (Ad m 0)/\y=ai (some (Ad m (i*2))) (n-i) (cap-i))->aL ab 240 #[.agg #[II first,.slice A k.length B],y] q fun c E=>∃j f,c=.returned (.agg #[II (lN (first,k) ((C.drop i).take (n-i))).1,ai (some (Ad j 0)) f f])/\E.ownsRow q.heap.size 5 1 (O5 j f) f (U8 (lN (first,k) ((C.drop i).take (n-i))).2)/\Bw q E):=by
  intro q y d2 Z;have a5:=w.out.below d2;refine G9 (b4.below d2) f2 (a5.part b3 (by omega) y Z) (a5.sh.sub i (n-i)) (a5.Oq) ?_ ?_ ?_
  ·intro r P;exact px W.wf (dv (ck P))
  ·intro r P;rcases cF.1 P with rfl|P
   ·exact f1
   ·exact W.L5 r (dv (ck P))
  ·simp;omega
 generalize f3:lN (first,k) ((C.drop i).take (n-i))=t at a2 Q;have c2:Hid (∀(g:aK) (j f:Nat),Bw b g->aL ab 239 #[.slice p K.length cap,II i,II n,ai (some (gf g 0)) 1 1] (g.alloc (.cells #[II t.1,ai (some (Ad j 0)) f f] 259)) fun c E=>∃u I,c=.returned u/\Hid (I=(K.take i++(t.1,ai (some (Ad j 0)) f f)::K.drop n).length)/\E.ownsRow 0 259 2 u I (gy (K.take i++(t.1,ai (some (Ad j 0)) f f)::K.drop n))/\
   (g.alloc (.cells #[II t.1,ai (some (Ad j 0)) f f] 259)).grownBy E (aJ p K.length cap).ownBlock/\(u.ownBlock=(aJ p K.length cap).ownBlock\/∀m,u.ownBlock=some m->(g.alloc (.cells #[II t.1,ai (some (Ad j 0)) f f] 259)).heap.size<=m)):=by
  intro g j f G;refine(zX (K:=K) (w1:=(t.1,ai (some (Ad j 0)) f f)) (i:=i) (d:=n) (f:=g.heap.size) (W:=1) ((gp w.out.own G).alloc _) (cA g _) (fun c=>?_) b3 (by omega) (by omega) w.out.sh.one rfl).mono (fun c E ⟨u,N,c8,e4,e5⟩=>⟨u,_,N,rfl,c8,e4,e5⟩);have:=((gp w.out.own G).lt _ c).2;omega
 have c3:Hid (∀q M:aK,Bw q M->(CV q o d (.slice p K.length cap)/\io q b 0 first/\lq q b 1 (.slice A k.length B))->(CV M o d (.slice p K.length cap)/\io M b 0 first/\lq M b 1 (.slice A k.length B))):=fun q M a7 v=>⟨fL v.1 a7,fL v.2.1 a7,fL v.2.2 a7⟩;have c4:Hid (∀(g s:aK) (c5:Obj),Bw b g->(g.alloc c5).grownBy s (aJ p K.length cap).ownBlock->(g.cell? (Ad o d)=some (.slice p K.length cap)/\g.cell? (gf b 0)=some (II first)/\g.cell? (gf b 1)=some (.slice A k.length B))->(s.cell? (Ad o d)=some (.slice p K.length cap)/\s.cell? (gf b 0)=some (II first)/\s.cell? (gf b 1)=some (.slice A k.length B))/\s.frozen? (Ad o d)=false):=by
  intro g s c5 G b2 v;have d5:=ga b2;have f8:(aJ p K.length cap).ownBlock≠some o:=fR w.out.own a1.out (fun c=>e1 c.symm);have f9:(aJ p K.length cap).ownBlock≠some b.heap.size:=fun c=>by have:=(w.out.own.lt _ c).2;omega
  have c6:s.heap[o]? =g.heap[o]?:=d5.block o (ca e0 G.size) (Ne.symm f8);have c7:s.heap[b.heap.size]? =g.heap[b.heap.size]?:=d5.block _ (hK v.2.1) (Ne.symm f9);refine⟨⟨?_,?_,?_⟩,?_⟩
  ·rw[cn (a:=Ad o d) c6];exact v.1
  ·rw[cn (a:=gf b 0) c7];exact v.2.1
  ·rw[cn (a:=gf b 1) c7];exact v.2.2
  ·exact cx s o d _ _ (c6.trans ((G.block o e0).trans a1.out))
 have L:Hid (Bw b a0.drew):=fQ O _;have b9:Hid (∀(g s:aK) (j f I:Nat) (u:aM),Bw b g->g.ownsRow b.heap.size 5 1 (O5 j f) f (U8 t.2)->s.ownsRow 0 259 2 u I (gy (K.take i++(t.1,ai (some (Ad j 0)) f f)::K.drop n))->Hid (I=(K.take i++(t.1,ai (some (Ad j 0)) f f)::K.drop n).length)->
   (g.alloc (.cells #[II t.1,ai (some (Ad j 0)) f f] 259)).grownBy s (aJ p K.length cap).ownBlock->(u.ownBlock=(aJ p K.length cap).ownBlock\/∀m,u.ownBlock=some m->(g.alloc (.cells #[II t.1,ai (some (Ad j 0)) f f] 259)).heap.size<=m)->
   ∃b8,iZ b o d D z (.slice p K.length cap) K (kU C first k) (s.setCell (Ad o d) u) u b8):=by
  intro g s j f I u G H d9 f4 b2 e7;rw[f4.out]at d9;have f7:f=t.2.length:=by have:=H.1;rw[ir]at this;omega
  subst f7;have e6:=(H.lt j rfl).1;rw[Q.out];exact⟨_,(CQ (w1:=(t.1,ai (some (Ad j 0)) t.2.length t.2.length)) (r:=t) w.out a1.out e1 g0 G ⟨rfl,j,_,rfl,ar _,e6,Ai H _ _ _ rfl⟩ (Ro.qf H) d9 b2 e7).2⟩
 have d3:p≠none->K.length<=cap:=by
  intro b5;rcases w.out.own.2 with⟨c,_⟩|⟨m,a3,a4,c,_,_,N,_⟩
  ·simp only[Value.slice.injEq]at c;exact absurd c.1 b5
  ·simp only[Value.slice.injEq]at c;omega
 have d8:p=none->K.length=0/\cap=0:=by
  intro b5;rcases w.out.own.2 with⟨c,S⟩|⟨m,a3,a4,c,_,_,N,_⟩
  ·simp only[Value.slice.injEq]at c;omega
  ·simp only[Value.slice.injEq]at c;rw[b5]at c;cases c.1
 have d4:∀J,p=some J->∃m,J=(Ad m 0):=by
  intro J c9;rcases w.out.own.2 with⟨c,S⟩|⟨m,a3,a4,c,_,_,N,_⟩
  ·simp only[Value.slice.injEq]at c;rw[c9]at c;cases c.1
  ·simp only[Value.slice.injEq]at c;rw[c9]at c;exact⟨m,Option.some.inj c.1⟩
 have i1:=dM underlying200;have i2:=mT;have g6:(i:Int)<=(n:Int):=by omega
 have f6:cap<=aO:=by
  rcases w.out.own.2 with⟨c,S⟩|⟨m,a3,a4,c,_,_,N,c8,_⟩
  ·simp only[Value.slice.injEq]at c;unfold aO;omega
  ·simp only[Value.slice.injEq]at c;omega
 unfold aO at f6;clear U V a8 R f3 b4;obtain⟨y,Z,g1,h4⟩:∃y,((i=n/\∃b6 b7,y=.slice b6 0 b7)\/∃m,p=some (Ad m 0)/\y=ai (some (Ad m (i*2))) (n-i) (cap-i))/\True/\∀q:aK,(dI 200 (.slice p K.length cap) (some (II i)) (some (II n)) none).run ab q=.ok y q:=by
  cases p with
  |none=>
   obtain⟨S,rfl⟩:=d8 rfl;obtain rfl:n=0:=by omega
   obtain rfl:i=0:=by omega
   refine⟨ai none 0 0,bg ⟨rfl,none,0,rfl⟩,trivial,fun q=>?_⟩;rw[S];kernel_rfl
  |some J=>
   obtain⟨m,rfl⟩:=d4 J rfl;have h5:=d3 (by simp);have g7:(n:Int)<=(cap:Int):=by omega
   by_cases b0:cap=i
   ·obtain rfl:n=i:=by omega
    refine⟨ai (some (Ad m 0)) 0 0,bg ⟨rfl,_,0,rfl⟩,trivial,fun q=>?_⟩;rw[oh underlying200 (mT _) (ar _) (by omega),if_pos b0,dD,b0,dD]
   ·refine⟨ai (some (Ad m (i*2))) (n-i) (cap-i),bf ⟨m,rfl,rfl⟩,trivial,fun q=>?_⟩;rw[oh underlying200 (mT _) b3 (by omega),if_neg b0];simp[dt]
 clear d3 d8 d4 g1;have e3:=fK Z;clear Z;go_wp2_with fail;go_region_with (first
  |(go_at_call 240;refine(a2.out _ y L.out e3.out).mono ?_;rintro c g ⟨j,f,rfl,H,T⟩;have d0:=c3.out _ _ T ⟨e8,g4,g5⟩;obtain⟨e9,h9,i0⟩:=id d0;have g8:=fun(g3:Obj)=>Lib.cell?_alloc_some g3 e9)
  |(go_at_call 239;refine(c2.out g j f (fP L.out T)).mono ?_;rintro c s ⟨u,g2,rfl,f5,Y,X,a6⟩;obtain⟨h7,h8,rfl⟩:=gr Y;have d1:=c4.out g s _ (fP L.out T) X d0;obtain⟨⟨g9,d1⟩,i3⟩:=d1;replace Y:=fK Y;replace X:=fK X;replace a6:=fK a6))
 all_goals
  have e2:=fK (b9.out g s j f g2 _ (fP L.out T) (gq H L.out.size) Y.out f5 X.out a6.out);clear b9 a2 c2 c3 c4;go_wp2_with fail;go_end0;exact⟨rfl,_,e2.out⟩
theorem iZ.same{K:List iw}{C:List gH}(h:iy w e K C)(f:w.heap[a]? =some (.cells D z (0,0)))(j:D[d]? =some e)(c:Bw w b):iZ w a d D z e K C b e K:=by refine⟨?_,h.below c,gm.fU c,bg rfl,fun k g=>bg g⟩;rw[c.block a (bn.1 f).1,f];congr 2;grind
theorem EU{K:List iw}{C:List gH}(o:b.heap[a]? =some (.cells D z (0,0)))(p:D[d]? =some e)(c:iy b e K C)(k:kE C)(y:0<=first/\first<=1099511627776)(s:g=0\/iJ C first (first+1)=false):
  aL ab 131 #[ag (some (Ad a d)),II first,II g] b fun m f=>m=.returned (ai none 0 0)/\iZ b a d D z e K C f e K:=by
 have v:b.cell? (Ad a d)=some e:=by simp only[aD,o];exact p
 have A:K.length<=100:=by rw[c.sh.1];exact k.tz
 have h:=fK (rH first (first+1) v c.own c.sh k.wide (by omega));have j:Hid (∀f,Bw b f->iZ b a d D z e K C f e K):=fun f u=>iZ.same c o p u;clear c k;have B:IntKind.i64.wrap (first+1)=first+1:=by rw[dq];omega
 by_cases l:g=0
 ·have w:(g==0)=true:=by simpa using l
  go_enter func131,ntmps131;go_wp2_with fail;go_ret;exact⟨rfl,j.out _ (Below.refl _ _)⟩
 ·have w:(g==0)=false:=by simpa using l
  have q:iJ C first (first+1)=false:=by
   rcases s with c|c
   ·exact absurd c l
   ·exact c
  rw[q]at h;clear s q;go_enter func131,ntmps131;go_wp2_with fail;refine h.out.mono ?_;rintro m x ⟨rfl,n⟩;have t:=fK (j.out x n);clear n h j;go_wp2_with fail;go_ret;exact⟨rfl,t.out⟩
theorem ql(d:y5.underlying z=some (.slice y8))(c:(dJ y8).run y5 b=.ok a b)(hi:i<=len):
  (dI z (.slice R len cap) (some (II (i:Int))) none none).run y5 b=.ok (.slice (if cap=i then R else R.map (·.add (i*a))) (len-i) (cap-i)) b:=by
 simp[dI,Instr.sliceBounds,Instr.sliceBound,asIntOf,dM d,c,hi]
theorem AX:(dJ 5).run ab b=.ok 1 b:=by kernel_rfl
theorem M4{K s7:List iw}{C t9:List gH}(u:iy b e K C)(m:b.heap[a]? =some (.cells D z (0,0)))(x:z≠259)(O:z≠5)(f:Bw b w)(I:md s7 t9)
  (H:∀(i:Nat) j r,s7[i]? =some j->t9[i]? =some r->Ro w 5 j.2 r.2.length (U8 r.2)) (v:z5.ownsRow 0 259 2 h s7.length (gy s7)) (g:w.grownBy z5 e.ownBlock) (y:h.ownBlock=e.ownBlock) (B:∀j∈s7,j∈K\/(rI j.2/\∀t,j.2.ownBlock=some t->b.heap.size<=t)):
  z5.heap[a]? =some (.cells D z (0,0))/\iZ b a d D z e K t9 (z5.setCell (Ad a d) h) h s7:=by
 have s:a<b.heap.size:=(bn.1 m).1;have E:e.ownBlock≠some a:=fR u.own m (fun k=>x k.symm);have q:z5.heap[a]? =some (.cells D z (0,0)):=by rw[g.block a (ca s f.size) (Ne.symm E),f.block a s];exact m
 refine⟨q,?_⟩;have p:gm (fun c=>c=a\/e.ownBlock=some c) w (z5.setCell (Ad a d) h):=by refine⟨g.os,g.tape,g.output,by rw[bQ];exact g.size,fun c l n=>?_⟩;rw[cy _ _ _ _ (show c≠a from fun k=>n (bg k)),g.block c l (fun k=>n (bf k.symm))]
 have A:gm (fun c=>c=a\/e.ownBlock=some c) b (z5.setCell (Ad a d) h):=by refine⟨g.os.trans f.os,g.tape.trans f.tape,g.output.trans f.output,bZ f.size p.size,fun c l n=>?_⟩;rw[p.block c (ca l f.size) n,f.block c l]
 refine⟨(fT q _ _).trans rfl,⟨?_,I,fun c j L J G=>(H c j L J G).gx p fun c M N l o=>?_⟩,A,bg y,B⟩
 ·exact cC v (fR v q (fun k=>x k.symm)) _
 ·rcases o with rfl|o
  ·rw[f.block c s,m]at l;grind
  ·exact fR (gp u.own f) l (by decide) o
theorem iy.pT{K:List iw}{C:List gH}(h:iy w e K C)(m:kf C):∀d∈K,∀a,d.2.ownBlock=some a->a<w.heap.size:=by
 intro d l a b;obtain⟨i,hi,rfl⟩:=dw l;have c:i<C.length:=by rw[<-h.sh.1];exact hi
 have k:=h.ro i K[i] C[i] (ap hi) (ap c);have j:=px m (List.getElem_mem c);obtain⟨n,cap,f,g,_⟩:=k;obtain⟨o,t,p,q,rfl,s,_⟩:=g j;rw[f]at b;simp only[aq,Option.some.injEq]at b;grind
theorem EV{rest:List gH}{K:List iw}{o:Nat}(c9:w.heap[o]? =some (.cells D z (0,0)))(b3:D[d]? =some e)(h4:z≠259)(e6:z≠5)(P:iy w e K ((first,k)::rest))(Z:kE ((first,k)::rest))(g9:0<g)(n6:g<=9223372036854775807):
  aL ab 131 #[ag (some (Ad o d)),II first,II g] w fun f y=>∃a7 t i1,f=.returned a7/\y.ownsRow w.heap.size 5 1 a7 (k.take g.toNat).length (U8 (k.take g.toNat))/\
   iZ w o d D z e K (if k.drop g.toNat=[] then rest else(first+min g k.length,k.drop g.toNat)::rest) y t i1/\∀h∈i1,h.2.ownBlock=none\/h.2.ownBlock≠a7.ownBlock:=by
 have d0:w.cell? (Ad o d)=some e:=by simp only[aD,c9];exact b3
 have n3:=Z.L5 (first,k) (by simp);have k6:0<k.length:=Z.wf.1;have m4:gi (first,k)=first+k.length:=rfl
 have e7:K.length=rest.length+1:=by rw[P.sh.1];rfl
 have d2:=Z.tz;obtain⟨b9,s,rfl⟩:∃b9 s,K=b9::s:=by
  cases K with
  |nil=>simp at e7
  |cons a x=>exact⟨a,x,rfl⟩
 obtain⟨c8,o0,v,f8,k1⟩:=P.sh.2 0 b9 (first,k) rfl rfl;have e2:=P.ro 0 b9 (first,k) rfl rfl;obtain⟨m0,o1⟩:=b9;simp only at c8 f8 e2 k1;replace c8:=c8.symm;subst c8 f8;obtain⟨x,G,i9,g6⟩:=sJ e2 k6;subst i9;rcases P.own.2 with⟨_,g2⟩|⟨c,cap,f6,j0,_,d3,h1,n1,g4,h5⟩
 ·simp at g2
 subst j0;have g3:iJ ((first,k)::rest) first (first+1)=true:=by unfold iJ;simp[gi];omega
 have a8:=fK (rH first (first+1) d0 P.own P.sh Z.wide (by simp at d2 e7⊢;omega));rw[g3]at a8;have n9:IntKind.i64.wrap (first+1)=first+1:=by rw[dq];omega
 have n2:(g==0)=false:=beq_eq_false_iff_ne.2 (by omega);obtain⟨b,l0⟩:∃b:Nat,min g (k.length:Int)=b:=⟨(min g (k.length:Int)).toNat,by omega⟩;have n7:1<=b/\b<=k.length:=by omega
 have l1:k.take g.toNat=k.take b:=by
  rcases bO g k.length with B|B
  ·congr 1;omega
  ·rw[bP (by omega),bP (by omega)]
 have j8:k.drop g.toNat=k.drop b:=by
  rcases bO g k.length with B|B
  ·congr 1;omega
  ·rw[dy (by omega),dy (by omega)]
 have b6:(k.take b).length=b:=by simp;omega
 have a2:(k.drop b).length=k.length-b:=by simp
 rw[l1,j8,l0,b6];have k7:o<w.heap.size:=hK d0;have k3:(aJ (some (Ad c 0)) (((first,aJ (some (Ad x G)) k.length v)::s:List iw).length) cap).ownBlock≠some o:=fR P.own c9 (fun f=>h4 f.symm);obtain⟨p,d7⟩:∃p,p=((first,aJ (some (Ad x G)) k.length v)::s:List iw).length:=⟨_,rfl⟩;have u:=fK P;have f1:=fK c9;have a4:=fK d3;have l8:=fK (co h1 (co g4 h5));have n4:0<p:=by rw[d7];simp
 have c1:∀j:aK,Bw w j->j.cell? (Ad o d)=some (nr c p cap)/\j.cell? (Ad c 0)=some (II first)/\j.cell? (Ad c 1)=some (ai (some (Ad x G)) k.length v):=by
  intro j M;have C:=gp u.out.own M;have n:=lR (K:=(first,aJ (some (Ad x G)) k.length v)::s) (a:=0) rfl;rw[d7];refine⟨fL d0 M,?_,?_⟩
  ·rw[C.cellAt 0 (by simp)];exact n.1
  ·rw[C.cellAt 1 (by simp;omega)];exact n.2
 replace c1:=fK c1;have a3:Hid (∀j:aK,Bw w j->aL ab 167 #[ai (some (Ad x G)) b v] j fun f y=>∃h,f=.returned h/\y.ownsRow j.heap.size 5 1 h b (U8 (k.take b))/\Bw j y):=by
  intro j M;have b0:=xz (k.take b) x G v j (by rw[b6];omega) (fun e8 f0 a5=>?_) (by rw[b6];omega)
  ·rw[b6]at b0;exact b0
  ·have g7:=(bo.1 a5).1;rw[ir,b6]at g7;refine fL (g6 e8 f0 ?_) M;simp only[U8,dA]at a5⊢;rwa [bp g7]at a5
 have V:=fK d7;clear P c9 d3 h1 g4 h5 e7 g3 d0 e2 d7;have m5:(k.length:Int)<=(v:Int):=by omega
 have o2:=dM underlying44;by_cases j5:(k.length:Int)<=g
 ·obtain rfl:b=k.length:=by omega
  have e4:k.drop k.length=[]:=List.drop_length;rw[e4,if_pos rfl];have c3:Hid (∀q:aK,Bw w q->aL ab 168 #[ai (some (Ad c 0)) p cap,II 0,II 1] q fun f y=>∃t O,f=.returned t/\Hid (O=s.length)/\y.ownsRow 0 259 2 t O (gy s)/\q.grownBy y (zq c p cap).ownBlock/\t.ownBlock=(zq c p cap).ownBlock):=by intro q b8;rw[V.out];exact(CL (gp u.out.own b8) (by have:=u.out.sh.1;simp at this d2⊢;omega) u.out.sh.one).mono (fun f y ⟨t,B,X,j1,j2⟩=>⟨t,_,B,rfl,X,j1,j2⟩)
  have a0:Hid (∀(q m:aK) (t:aM) (O:Nat),Bw w q->Hid (O=s.length)->m.ownsRow 0 259 2 t O (gy s)->q.grownBy m (zq c p cap).ownBlock->t.ownBlock=(zq c p cap).ownBlock->
    m.heap[o]? =some (.cells D z (0,0))/\iZ w o d D z (nr c p cap) ((first,ai (some (Ad x G)) k.length v)::s) rest (m.setCell (Ad o d) t) t s):=by
   intro q m t O b8 g9 C d3 j4;rw[g9.out]at C;have b7:=u.out.sh;rw[<-V.out]at u;refine M4 u.out f1.out h4 e6 b8 ⟨by have:=b7.1;simpa using this,fun i h r l L=>b7.2 (i+1) h r l L⟩ (fun i h r l L=>(u.out.ro (i+1) h r l L).below b8) C d3 j4 (fun h l=>bg (by simp[l]))
  have c4:Hid (∀h∈s,∀n,h.2.ownBlock=some n->n<w.heap.size):=fun h l=>u.out.pT Z.wf h (by simp[l]);have f4:Hid (w.ownsRow 0 259 2 (nr c p cap) p (gy ((first,ai (some (Ad x G)) k.length v)::s))):=by show World.ownsRow _ _ _ _ _ _ _;rw[V.out];exact u.out.own
  have d1:D[d]? =some (nr c p cap):=by rw[V.out];exact b3
  clear u d2 Z b3;rw[<-V.out];go_enter func131,ntmps131;go_wp2_with fail;refine a8.out.mono ?_;rintro f c2 ⟨rfl,Q⟩;obtain⟨c5,c6,c7⟩:=c1.out c2 Q;have i2:=fK Q;have A:Hid (Bw w c2.drew):=fQ Q _;clear Q a8;obtain⟨h6,h7,h3⟩:∃h6 h7,∀j:aK,(dI 44 (ai (some (Ad x G)) k.length v) (some (II (k.length:Int))) none none).run ab j=.ok (.slice h6 0 h7) j:=
   ⟨_,_,fun j=>by rw[ql underlying44 (AX) (ar _),dD]⟩
  rcases Int.lt_or_eq_of_le j5 with h0|h0
  ·go_wp2_with fail;go_region_with (first
    |(go_at_call 167;refine(a3.out _ A.out).mono ?_;rintro f q ⟨a7,rfl,I,Y⟩;obtain⟨h9,i0,rfl⟩:=gB I))
   have E:=fP A.out Y;have f7:=(c1.out q E).1;have H:=fK (gq I A.out.size);have U:=fK E;clear I Y E c5 c6 c7 a3 h3 A;go_wp2_with fail;refine(c3.out q U.out).mono ?_;rintro f m ⟨t,O,rfl,e5,C,a1,b1⟩;obtain⟨R,b4⟩:=a0.out q m t O U.out e5 C a1 b1;obtain⟨l2,l3,rfl⟩:=gr C;have e1:m.cell? (Ad o d)=some (nr c p cap):=(by simp only[aD,R];exact d1);have l5:mc m o d:=cx m o d _ _ R;have a9:=fK b4;have W:=fK (H.out.kept a1 (pq H.out (gp f4.out U.out) (by decide)));have e0:=fK R;clear R b4 C a1 b1 c3 a0;go_wp2_with fail;go_ret;refine⟨_,_,s,rfl,?_,a9.out,fun h l=>?_⟩
   ·exact cC W.out (fR W.out e0.out (fun f=>e6 f.symm)) _
   ·cases J:h.2.ownBlock with
    |none=>exact bg rfl
    |some n=>refine bf fun f=>?_;have B:=c4.out h l n J;have X:=(H.out.lt n f.symm).1;omega
  ·subst h0;go_wp2_with fail;go_region_with (first
    |(go_at_call 167;refine(a3.out _ A.out).mono ?_;rintro f q ⟨a7,rfl,I,Y⟩;obtain⟨h9,i0,rfl⟩:=gB I))
   have E:=fP A.out Y;have f7:=(c1.out q E).1;have H:=fK (gq I A.out.size);have U:=fK E;clear I Y E c5 c6 c7 a3 h3 A;go_wp2_with fail;refine(c3.out q U.out).mono ?_;rintro f m ⟨t,O,rfl,e5,C,a1,b1⟩;obtain⟨R,b4⟩:=a0.out q m t O U.out e5 C a1 b1;obtain⟨l2,l3,rfl⟩:=gr C;have e1:m.cell? (Ad o d)=some (nr c p cap):=(by simp only[aD,R];exact d1);have l5:mc m o d:=cx m o d _ _ R;have a9:=fK b4;have W:=fK (H.out.kept a1 (pq H.out (gp f4.out U.out) (by decide)));have e0:=fK R;clear R b4 C a1 b1 c3 a0;go_wp2_with fail;go_ret;refine⟨_,_,s,rfl,?_,a9.out,fun h l=>?_⟩
   ·exact cC W.out (fR W.out e0.out (fun f=>e6 f.symm)) _
   ·cases J:h.2.ownBlock with
    |none=>exact bg rfl
    |some n=>refine bf fun f=>?_;have B:=c4.out h l n J;have X:=(H.out.lt n f.symm).1;omega
 ·obtain rfl:g=(b:Int):=by omega
  have n8:b<k.length:=by omega
  have e4:¬k.drop b=[]:=by intro f;have:=congrArg List.length f;rw[a2]at this;simp at this;omega
  rw[if_neg e4];have m6:(b:Int)<=(k.length:Int):=by omega
  have m7:(b:Int)<=(v:Int):=by omega
  have m8:¬(v=b):=by omega
  have m9:(((k.length-b:Nat):Int)==0)=false:=beq_eq_false_iff_ne.2 (by omega);have n0:¬((k.length:Int)<(b:Int)):=by omega
  have b8:IntKind.i64.wrap (first+(b:Int))=first+(b:Int):=by rw[dq];omega
  have d1:D[d]? =some (nr c p cap):=by rw[V.out];exact b3
  have d6:o≠c:=fun f=>k3 (by simp[aq,f]);have f2:Hid (∀j:aK,Bw w j->aL ab 167 #[ai (some (Ad x (G+b))) (k.length-b) (v-b)] j fun f y=>∃h,f=.returned h/\y.ownsRow j.heap.size 5 1 h (k.length-b) (U8 (k.drop b))/\Bw j y):=by
   intro j M;have b0:=xz (k.drop b) x (G+b) (v-b) j (by rw[a2];omega) (fun e8 f0 a5=>?_) (by rw[a2];omega)
   ·rw[a2]at b0;exact b0
   ·rw[dF];refine fL (g6 (b+e8) f0 ?_) M;simp only[U8,dA]at a5⊢;rwa [cG]at a5
  have i3:Hid (∀j:aK,Bw w j->j.frozen? (Ad c 0)=false/\j.frozen? (Ad c 1)=false):=by
   intro j M;have g5:j.heap[c]? =some (.cells f6 259 (0,0)):=by rw[M.block c (bn.1 a4.out).1];exact a4.out
   exact⟨cx j c _ _ _ g5,cx j c _ _ _ g5⟩
  have a0:Hid (∀(m:aK) (T:aM),Bw w m->m.ownsRow w.heap.size 5 1 T (k.length-b) (U8 (k.drop b))->
    iZ w o d D z (nr c p cap) ((first,ai (some (Ad x G)) k.length v)::s) ((first+b,k.drop b)::rest) ((m.setCell (Ad c 0) (II (first+b))).setCell (Ad c 1) T) (nr c p cap) ((first+b,T)::s)):=by
   intro m T S b5;have b7:=u.out.sh;have k0:c<w.heap.size:=(bn.1 a4.out).1;have k5:=gp u.out.own S;have k8:=k5.stored 0 (II (first+b));have k9:=k8.1.stored 1 T;have j7:gm (fun N=>N=o\/(zq c p cap).ownBlock=some N) w ((m.setCell (Ad c 0) (II (first+b))).setCell (Ad c 1) T):=by refine⟨S.os,S.tape,S.output,by rw[bQ,bQ];exact S.size,fun N a6 d4=>?_⟩;have g8:N≠c:=fun f=>d4 (bf (by simp[aq,f]));rw[cy _ _ _ _ g8,cy _ _ _ _ g8,S.block N a6]
   have h2:∀h e9 d8,Ro m 5 h e9 d8->Ro ((m.setCell (Ad c 0) (II (first+b))).setCell (Ad c 1) T) 5 h e9 d8:=by
    intro h e9 d8 l;have j6:gm (fun N=>N=c) m ((m.setCell (Ad c 0) (II (first+b))).setCell (Ad c 1) T):=by refine⟨rfl,rfl,rfl,by rw[bQ,bQ];exact ar _,fun N a6 d4=>?_⟩;rw[cy _ _ _ _ d4,cy _ _ _ _ d4]
    refine l.gx j6 fun N i6 m1 a6 j3=>?_;subst j3;rw[S.block _ k0,a4.out]at a6;simp only[Option.some.injEq,Obj.cells.injEq]at a6;exact absurd a6.2.1 (by decide)
   obtain⟨l4,h8,f9⟩:=gB b5;have k2:k.length-b<=h8:=by
    rcases b5.2 with⟨f,g2⟩|⟨m2,l9,i6,f,_,_,m3,_⟩
    ·omega
    ·rw[f9]at f;simp only[Value.slice.injEq]at f;omega
   refine⟨?_,⟨?_,?_,?_⟩,j7,bg rfl,?_⟩
   ·rw[cy _ _ _ _ d6,cy _ _ _ _ d6,S.block o k7,f1.out];congr 2;obtain⟨n5,j9⟩:=bn.1 d1;apply Array.ext
    ·simp
    ·intro i B X;rw[Array.getElem_setIfInBounds];split
     ·rename_i f;subst f;exact j9
     ·rfl
   ·rw[V.out];exact k9.1
   ·refine⟨by have:=b7.1;simpa using this,fun i h r l L=>?_⟩;cases i with
    |zero=>simp only[ce,Option.some.injEq]at l L;subst l L;exact⟨rfl,l4,h8,by rw[f9,a2],by rw[a2];exact k2⟩
    |succ i=>exact b7.2 (i+1) h r l L
   ·intro i h r l L;cases i with
    |zero=>simp only[ce,Option.some.injEq]at l L;subst l L;refine h2 _ _ _ ?_;simp only;rw[a2];exact Ro.qf b5
    |succ i=>exact h2 _ _ _ ((u.out.ro (i+1) h r l L).below S)
   ·intro h l;rcases cF.1 l with rfl|l
    ·exact bf ⟨Ai b5,fun n J=>(b5.lt n J).1⟩
    ·exact bg (by simp[l])
  have c4:Hid (∀h∈s,∀n,h.2.ownBlock=some n->n<w.heap.size):=fun h l=>u.out.pT Z.wf h (by simp[l]);have i4:Hid (∀(j:aK) (a f5:aM),j.cell? (Ad o d)=some (nr c p cap)->((j.setCell (Ad c 0) a).setCell (Ad c 1) f5).cell? (Ad o d)=some (nr c p cap)):=by intro j a f5 M;rw[cn (w:=j) (a:=Ad o d) (by rw[cy _ _ _ _ d6,cy _ _ _ _ d6])];exact M
  clear u d2 Z b3;rw[<-V.out];go_enter func131,ntmps131;go_wp2_with fail;refine a8.out.mono ?_;rintro f c2 ⟨rfl,Q⟩;obtain⟨c5,c6,c7⟩:=c1.out c2 Q;have i2:=fK Q;have A:Hid (Bw w c2.drew):=fQ Q _;clear Q a8;go_wp2_with fail;go_region_with (first
   |(go_at_call 167;refine(a3.out _ A.out).mono ?_;rintro f q ⟨a7,rfl,I,Y⟩;obtain⟨h9,i0,rfl⟩:=gB I))
  have E:=fP A.out Y;have f7:=(c1.out q E).1;have H:=fK (gq I A.out.size);have U:=fK E;have d9:Hid (Bw w q.drew):=fQ E _;clear I Y E c5 c6 c7 a3 A;go_wp2_with fail;go_region_held3 (fun y=>y.cell? (Ad o d)=some (nr c p cap)) (first|assumption|exact i4.out _ _ _ (by assumption)|go_keep) (first
   |(go_at_call 167;refine(f2.out _ d9.out).mono ?_;rintro f m ⟨T,rfl,d5,e3⟩;obtain⟨g0,g1,rfl⟩:=gB d5;have b2:=fP d9.out e3;obtain⟨e1,i7,i8⟩:=c1.out m b2;obtain⟨l6,l7⟩:=i3.out m b2))
  have a9:=fK (a0.out m _ b2 (gq d5 d9.out.size));have W:=fK (gp H.out (gc e3));have f3:Hid (m.heap[c]? =some (.cells f6 259 (0,0))):=by show _=_;rw[b2.block c (bn.1 a4.out).1];exact a4.out
  have i5:Hid (∀n,(aJ g0 (k.length-b) g1).ownBlock=some n->q.heap.size<=n):=fun n J=>(d5.lt n J).1;clear a0 f2 d5 e3 b2 e1 i7 i8 l6 l7;go_wp2_with fail;go_ret;refine⟨_,_,_,rfl,?_,a9.out,fun h l=>?_⟩
  ·have k4:=fR W.out f3.out (by decide);have B:=cC (a:=Ad c 0) W.out k4 (II (first+b));have X:=fR B (n:=c) ((fT f3.out _ _).trans rfl) (by decide);exact cC B X _
  ·rcases cF.1 l with rfl|l
   ·cases J:(aJ g0 (k.length-b) g1).ownBlock with
    |none=>exact bg rfl
    |some n=>refine bf fun f=>?_;have B:=i5.out n J;have X:=(H.out.lt n f.symm).2;omega
   ·cases J:h.2.ownBlock with
    |none=>exact bg rfl
    |some n=>refine bf fun f=>?_;have B:=c4.out h l n J;have X:=(H.out.lt n f.symm).1;omega
end Go.Proofs.YthmdjhlhodpbhaaGreatDoor
