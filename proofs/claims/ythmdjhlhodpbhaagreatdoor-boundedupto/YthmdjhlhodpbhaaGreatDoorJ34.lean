/- Bounded, 34 -/
import Derived.BigRegion
import Derived.Deep.RegionHeld3
import Derived.Deep.CutRange
import Derived.BigQuiet
import Derived.Deep.LoopGhost
import Derived.Deep.CutBlock
import Derived.Deep.DeepFit
import Derived.Laws.StructEq
import Derived.Test.YthmdjhlhodpbhaaGreatDoorJ02
import Derived.Test.YthmdjhlhodpbhaaGreatDoorJ03
import Derived.Test.YthmdjhlhodpbhaaGreatDoorJ04
import Derived.Test.YthmdjhlhodpbhaaGreatDoorJ07
import Derived.Test.YthmdjhlhodpbhaaGreatDoorJ31
import Derived.Test.YthmdjhlhodpbhaaGreatDoorJ33
import Derived.Test.YthmdjhlhodpbhaaGreatDoorRows
set_option maxHeartbeats 16000000
set_option maxRecDepth 8000
namespace Go.Proofs.YthmdjhlhodpbhaaGreatDoor
open Go.RowKit
theorem OutsAt.sf{w0 w w':World}{b:Nat}{v:Value}{o:List (Int×List Int)}(h:OutsAt w b v o)(hc:Chg (SF w0 w) w w'):OutsAt w' b v o:=
 h.chg hc (fun k cur fr hk=>SF.not hk (by simp[eQ])) (fun k cur fr hk=>SF.not hk (by simp[eQ]))
theorem box_sf{w0 w w':World}{k:Nat}{cur:Array Value}{T:TypeId}{fr:Nat×Nat}(h:w.heap[k]? =some (.cells cur T fr))(hT:¬eQ T)(hc:Chg (SF w0 w) w w'):w'.heap[k]? =some (.cells cur T fr):=
 (hc.block k (Array.getElem?_eq_some_iff.1 h).1 (SF.not h hT)).trans h
theorem dq{w w':World}{k:Nat}{o:Obj}(h:w.heap[k]? =some o)(hb:Below w.heap.size w w'):w'.heap[k]? =some o:=
 (hb.block k (Array.getElem?_eq_some_iff.1 h).1).trans h
theorem OutsAt.below{w w':World}{b:Nat}{v:Value}{o:List (Int×List Int)}(h:OutsAt w b v o)(hb:Below w.heap.size w w'):OutsAt w' b v o:=
 h.chg (F:=fun _=>False) (Chg.of_below hb) (fun _ _ _ _ h=>h) (fun _ _ _ _ h=>h)
theorem outs_one{w:World}{base:Nat}{v:Value}{a:Int}{B:List Int}(h:OutsAt w base v [(a,B)]):∃g cap bv,v=.slice (some ⟨g,0,none⟩) 1 cap/\w.cell? ⟨g,0,none⟩= some (.int .i64 a)/\w.cell? ⟨g,1,none⟩= some bv/\w.ownsRow base 5 1 bv B.length (U8 B):=by
 obtain⟨out,h1,h2⟩:=h
 have hl:out.length=1:=h2.1
 match out,hl with
 |[x],_=>
  obtain⟨e1,e2⟩:=h2.2.1 0 x (a,B) rfl rfl
  rcases h1.2 with⟨_,e⟩|⟨g,cap,cur,hv,hg,hb,hc⟩
  ·simp at e
  ·subst hv
   have c0:=h1.cellAt 0 (by simp)
   have c1:=h1.cellAt 1 (by simp)
   refine⟨g,cap,x.2,rfl,?_,?_,e2⟩
   ·rw[c0,show a=x.1 from e1.symm]
    rfl
   ·rw[c1]
    rfl
def awakeG:Cfg:=⟨1,16,8,1,2,0,10,5,1000,0⟩
def aw1:ay×List (Int×List Int):=bt (dk awakeG) 7 (iA 5 (bM 0 7 3) [])
def aw2:Int×Int×ay:=bg aw1.1
def aw3:ay×List (Int×List Int):=bt aw2.2.2 7 (jA 5 1 [4,0,2,1,99])
def aw4:ay×List (Int×List Int):=bt aw3.1 7 (jA 5 0 [3,0,0,2,97,98])
def aw5:Int×gr×ay×List (Int×List Int):=cI aw4.1 5 0 9
theorem aw1_out:aw1.2=[(7,[4,5,20,131,19,76,254,16,8,1])]:=by kernel_rfl
theorem aw_rest:(aw2.1,aw2.2.1,aw5.1,aw5.2.1.bytes,aw5.2.1.fin,aw5.2.1.rst)=(5,0,0,[97,98,99],true,false):=by kernel_rfl
theorem aw_right:awakeG.right=true:=by kernel_rfl
theorem aw_tok:tokE 1 16 8 1 2 0 10 5 1000 0 7 3=0:=by kernel_rfl
theorem aw_hello:(iA 5 (bM 0 7 3) []).length=12:=by kernel_rfl
theorem aw_abc:strOfNums [97,98,99] = {data:=#[97,98,99]}:=by kernel_rfl
theorem kawake_any [LoM] (w:World)(hE:Env w):Calls Tryz.prog 24 #[] w fun e w'=>e=.returned (.bool true)/\Below w.heap.size w w':=by
 have hb0:Below w.heap.size w (w.alloc (.cells #[.int .i64 1,.int .i64 16,.int .i64 8,.int .i64 1,.int .i64 2,.int .i64 0,.int .i64 10,.int .i64 5,.int .i64 1000,.int .i64 0] 26)):=ag w _
 have HX:Hid ((w.alloc (.cells #[.int .i64 1,.int .i64 16,.int .i64 8,.int .i64 1,.int .i64 2,.int .i64 0,.int .i64 10,.int .i64 5,.int .i64 1000,.int .i64 0] 26)).heap[w.heap.size]? =some (.cells #[.int .i64 1,.int .i64 16,.int .i64 8,.int .i64 1,.int .i64 2,.int .i64 0,.int .i64 10,.int .i64 5,.int .i64 1000,.int .i64 0] 26 (0,0))):=heap_alloc_new w _
 have HNew:=ae (live_new w awakeG aw_right _ hb0)
 have HTk:=ae (fun W=>Token_any 1 16 8 1 2 0 10 5 1000 0 7 3 W)
 rw[aw_tok]at HTk
 have E0:∀(sb:Nat) (W:World),(binOp .eql 37 (.pointer (some ⟨sb,0,none⟩)) (.pointer none)).run Tryz.prog W=.ok (.bool false) W:=fun sb W=>by kernel_rfl
 have HE:=ae hE
 clear hE hb0
 go_enter Tryz.func24,Tryz.ntmps24
 go_wp2_with fail
 refine HNew.out.mono ?_
 rintro e w2 ⟨⟨sb,rfl,hL⟩,hb2⟩
 have HL:=ae hL
 have x2:=dq HX.out hb2
 have HX2:=ae x2
 clear hL hb2 HX HNew
 have c0:w2.cell? ⟨w.heap.size,0,none⟩= some (.int .i64 1):=ax x2 0
 have c1:w2.cell? ⟨w.heap.size,1,none⟩= some (.int .i64 16):=ax x2 1
 have c2:w2.cell? ⟨w.heap.size,2,none⟩= some (.int .i64 8):=ax x2 2
 have c3:w2.cell? ⟨w.heap.size,3,none⟩= some (.int .i64 1):=ax x2 3
 have c4:w2.cell? ⟨w.heap.size,4,none⟩= some (.int .i64 2):=ax x2 4
 have c5:w2.cell? ⟨w.heap.size,5,none⟩= some (.int .i64 0):=ax x2 5
 have c6:w2.cell? ⟨w.heap.size,6,none⟩= some (.int .i64 10):=ax x2 6
 have c7:w2.cell? ⟨w.heap.size,7,none⟩= some (.int .i64 5):=ax x2 7
 have c8:w2.cell? ⟨w.heap.size,8,none⟩= some (.int .i64 1000):=ax x2 8
 have c9:w2.cell? ⟨w.heap.size,9,none⟩= some (.int .i64 0):=ax x2 9
 clear x2
 go_wp2_with fail
 refine(HTk.out w2).mono ?_
 rintro e w3 ⟨tv,rfl,ht,hb3⟩
 obtain⟨t1,t2,rfl⟩:=be ht
 rw[show tokM 1 16 8 1 2 0 10 5 1000 0 7 3=bM 0 7 3 by unfold tokM;rw[aw_tok];rfl]at ht⊢
 rw[show(bM 0 7 3).length=9 by kernel_rfl]at ht⊢
 have HHe:=ae (khello_any 5 (bM 0 7 3) [] (.slice t1 9 t2) (.slice none 0 0) w3 (by decide) (RdB.of_own ht (gH _ _ _ (by decide) (by decide)) (by decide)) (RdB.nil _) (by decide) (by decide))
 have HL3:=ae (HL.out.below hb3)
 clear c0 c1 c2 c3 c4 c5 c6 c7 c8 c9 ht hb3 HTk HX2 HL
 go_wp2_with fail
 refine HHe.out.mono ?_
 rintro e w4 ⟨hv,rfl,ho,hb4⟩
 obtain⟨h1,h2,rfl⟩:=be ho
 rw[aw_hello]at ho⊢
 have HRc:=ae ((HL3.out.below hb4).receive HE.out 7 (RdB.of_own ho (helloL_bytes (by decide) (gH _ _ _ (by decide) (by decide)) Bytes.nil (by decide)) (by decide)) (by decide) (by decide) (by decide) (by decide))
 clear ho hb4 HHe HL3
 go_wp2_with fail
 refine HRc.out.mono ?_
 rintro e w5 ⟨⟨v5,rfl,ho5⟩,hL5,_⟩
 have HO5:Hid (OutsAt w5 w4.heap.size v5 [(7,[4,5,20,131,19,76,254,16,8,1])]):=by
  show OutsAt _ _ _ _
  rw[<-aw1_out]
  exact ho5
 obtain⟨l1,l2,rfl⟩:=HO5.out.form
 rw[show([(7,[4,5,20,131,19,76,254,16,8,1])]:List (Int×List Int)).length=1 from rfl]at HO5
 have HL5:Hid (Live w 20 1000 10 w5 sb aw1.1):=hL5.mono (by decide) (by decide) (by decide)
 clear ho5 hL5 HRc
 have hrest:=aw_rest
 simp only[Prod.mk.injEq]at hrest
 obtain⟨r1,r2,r3,r4,r5,r6⟩:=hrest
 have HAc:=ae HL5.out.accept
 rw[show(bg aw1.1).1=5 from r1,show(bg aw1.1).2.1=0 from r2]at HAc
 have HR5:=ae (And.intro r3 (And.intro r4 (And.intro r5 r6)))
 clear r1 r2 r3 r4 r5 r6
 go_wp2_with fail
 refine HAc.out.mono ?_
 rintro e w6 ⟨rfl,hL6,hc6⟩
 have HL6:Hid (Live w 20 1000 10 w6 sb aw2.2.2):=hL6
 have HO6:=ae (HO5.out.sf hc6)
 clear hL6 hc6 HO5 HL5 HAc
 have hb7:Below w6.heap.size w6 (w6.alloc (.cells #[.int .u8 4,.int .u8 0,.int .u8 2,.int .u8 1,.int .u8 99] 5)):=ag w6 _
 have HD1:=ae (kdata_any 5 1 [4,0,2,1,99] (.slice (some ⟨w6.heap.size,0,none⟩) 5 5) (w6.alloc (.cells #[.int .u8 4,.int .u8 0,.int .u8 2,.int .u8 1,.int .u8 99] 5)) (by decide) (by decide) (RdB.lit w6 [4,0,2,1,99] (by unfold Bytes;decide) (by decide) (by decide)) (by decide))
 have HL7:=ae (HL6.out.below hb7)
 have HO7:=ae (HO6.out.below hb7)
 clear hb7 HL6 HO6
 go_wp2_with fail
 refine HD1.out.mono ?_
 rintro e w8 ⟨dv,rfl,hd,hb8⟩
 obtain⟨d1,d2,rfl⟩:=be hd
 rw[show(jA 5 1 [4,0,2,1,99]).length=8 by kernel_rfl]at hd⊢
 have HRc:=ae ((HL7.out.below hb8).receive HE.out 7 (RdB.of_own hd (dataL_bytes (by decide) (by decide) (by unfold Bytes;decide)) (by decide)) (by decide) (by decide) (by decide) (by decide))
 have HO8:=ae (HO7.out.below hb8)
 clear hd hb8 HD1 HL7 HO7
 go_wp2_with fail
 refine HRc.out.mono ?_
 rintro e w9 ⟨⟨v9,rfl,_⟩,hL9,hc9⟩
 have HL9:Hid (Live w 50 2000 20 w9 sb aw3.1):=hL9.mono (by decide) (by decide) (by decide)
 have HO9:=ae (HO8.out.sf hc9)
 clear hL9 hc9 HRc HO8
 have hb10:Below w9.heap.size w9 (w9.alloc (.cells #[.int .u8 3,.int .u8 0,.int .u8 0,.int .u8 2,.int .u8 97,.int .u8 98] 5)):=ag w9 _
 have HD2:=ae (kdata_any 5 0 [3,0,0,2,97,98] (.slice (some ⟨w9.heap.size,0,none⟩) 6 6) (w9.alloc (.cells #[.int .u8 3,.int .u8 0,.int .u8 0,.int .u8 2,.int .u8 97,.int .u8 98] 5)) (by decide) (by decide) (RdB.lit w9 [3,0,0,2,97,98] (by unfold Bytes;decide) (by decide) (by decide)) (by decide))
 have HL10:=ae (HL9.out.below hb10)
 have HO10:=ae (HO9.out.below hb10)
 clear hb10 HL9 HO9
 go_wp2_with fail
 refine HD2.out.mono ?_
 rintro e w11 ⟨dv,rfl,hd,hb11⟩
 obtain⟨d3,d4,rfl⟩:=be hd
 rw[show(jA 5 0 [3,0,0,2,97,98]).length=9 by kernel_rfl]at hd⊢
 have HRc:=ae ((HL10.out.below hb11).receive HE.out 7 (RdB.of_own hd (dataL_bytes (by decide) (by decide) (by unfold Bytes;decide)) (by decide)) (by decide) (by decide) (by decide) (by decide))
 have HO11:=ae (HO10.out.below hb11)
 clear hd hb11 HD2 HL10 HO10
 go_wp2_with fail
 refine HRc.out.mono ?_
 rintro e w12 ⟨⟨v12,rfl,_⟩,hL12,hc12⟩
 have HL12:Hid (Live w 100 3000 30 w12 sb aw4.1):=hL12.mono (by decide) (by decide) (by decide)
 have HO12:=ae (HO11.out.sf hc12)
 clear hL12 hc12 HRc HO11
 have HRd:=ae (HL12.out.read 5 0 9 (by decide) (by decide) (by decide) (by decide))
 clear HL12
 go_wp2_with fail
 refine HRd.out.mono ?_
 rintro e w13 ⟨⟨gv,v13,rfl,hg,ho13⟩,hL13,hc13⟩
 have HB13:=ae hL13.bel
 have HO13:=ae (HO12.out.sf hc13)
 obtain⟨g1,g2,rfl⟩:=be hg
 obtain⟨s1,s2,rfl⟩:=ho13.form
 have q1:(cI aw4.1 5 0 9).1=0:=HR5.out.1
 have q2:(cI aw4.1 5 0 9).2.1.bytes=[97,98,99]:=HR5.out.2.1
 have q3:(cI aw4.1 5 0 9).2.1.fin=true:=HR5.out.2.2.1
 have q4:(cI aw4.1 5 0 9).2.1.rst=false:=HR5.out.2.2.2
 rw[q2]at hg
 rw[q1,q2,q3,q4]
 generalize (cI aw4.1 5 0 9).2.2.2.length=nl
 have HG:=ae hg
 clear hg ho13 hL13 hc13 HRd HO12 q1 q2 q3 q4 HR5
 rw[show([97,98,99]:List Int).length=3 from rfl]at HG⊢
 have hb14:Below w13.heap.size w13 (w13.alloc (.cells #[.slice g1 3 g2,.bool true,.bool false] 46)):=ag w13 _
 obtain⟨ga,gc,bv,e1,k0,k1,hbv⟩:=outs_one (HO13.out.below hb14)
 obtain⟨bb,bc,e2,_,_,_⟩:=gQ hbv (by decide)
 have m0:=kb (e2▸hbv) 0 (by decide)
 have m2:=kb (e2▸hbv) 2 (by decide)
 simp only[Value.slice.injEq]at e1
 obtain⟨rfl,_,rfl⟩:=e1
 subst e2
 have kc:=conv_own (l:=[97,98,99]) (aP HG.out hb14)
 rw[aw_abc]at kc
 have HBf:=ae (ai HB13.out hb14)
 clear HG HO13 hbv hb14 HB13
 go_wp2_with fail
 go_ret
 exact⟨rfl,HBf.out⟩
theorem sentCells_get(l:List (Int×Value)):∀(k:Nat) (x:Int×Value),l[k]? =some x->(bF l)[2*k]? =some (.int .i64 x.1)/\(bF l)[2*k+1]? =some x.2:=by
 induction l with
 |nil=>intro k x h;simp at h
 |cons a t ih=>
  intro k x h
  have e:bF (a::t)=.int .i64 a.1::a.2::bF t:=by simp[bF]
  rw[e]
  cases k with
  |zero=>
   simp only[List.getElem?_cons_zero,Option.some.injEq]at h
   subst h
   simp
  |succ k=>
   simp only[List.getElem?_cons_succ]at h
   obtain⟨h1,h2⟩:=ih k x h
   rw[show 2*(k+1)=2*k+1+1 by omega,show 2*k+1+1+1=(2*k+1)+1+1 by omega]
   simp only[List.getElem?_cons_succ]
   exact⟨h1,h2⟩
theorem outs_at{w:World}{base:Nat}{ao:Option Addr}{n cap:Nat}{outs:List (Int×List Int)}(h:OutsAt w base (.slice ao n cap) outs){k:Nat}{a:Int}{B:List Int}(hk:outs[k]? =some (a,B)):∃ga bv,ao=some ⟨ga,0,none⟩/\w.cell? ⟨ga,k*2,none⟩= some (.int .i64 a)/\w.cell? ⟨ga,k*2+1,none⟩= some bv/\w.ownsRow base 5 1 bv B.length (U8 B):=by
 obtain⟨out,h1,h2⟩:=h
 have hlt:k<out.length:=by rw[h2.1];exact(List.getElem?_eq_some_iff.1 hk).1
 obtain⟨e1,e2⟩:=h2.2.1 k _ _ (List.getElem?_eq_getElem hlt) hk
 obtain⟨q1,q2⟩:=sentCells_get out k _ (List.getElem?_eq_getElem hlt)
 rw[Nat.mul_comm]at q1 q2
 have hl2:=ja out
 obtain⟨_,⟨_,h0⟩|⟨g,cap',cur,e,_,hg,_,_,_,ht⟩⟩:=h1
 ·omega
 ·simp only[Value.slice.injEq]at e
  obtain⟨rfl,_,rfl⟩:=e
  refine⟨g,out[k].2,rfl,?_,?_,e2⟩
  ·have q:=q1
   rw[<-ht,List.getElem?_take,if_pos (by omega),Array.getElem?_toList]at q
   simp only[World.cell?,hg]
   rw[e1]at q
   simpa using q
  ·have q:=q2
   rw[<-ht,List.getElem?_take,if_pos (by omega),Array.getElem?_toList]at q
   simp only[World.cell?,hg]
   simpa using q
theorem kpick_q(c n:Int)(w:World)(hc:-9223372036854775808<=c/\c<=9223372036854775807)(hn:0<n/\n<=1000000000000):
  Calls Tryz.prog 19 #[.int .i64 c,.int .i64 n] w fun e w'=>e=.returned (.int .i64 (br c n))/\w'=w:=by
 refine(kpick_any c n w hc hn).mono ?_
 rintro e w' ⟨rfl,rfl⟩
 exact⟨rfl,rfl⟩
end Go.Proofs.YthmdjhlhodpbhaaGreatDoor
namespace Go.Proofs.YthmdjhlhodpbhaaGreatDoor
open Go.RowKit Go.Deep Go.ChangeShapes Go.WideShapes Go.ChangeAt
theorem kbulk_pos{H:Type}(d:DataW H):1<=Rows.uptoBulk d:=by
 unfold Rows.uptoBulk
 split<;>omega
theorem kbulk_len{H:Type}:∀l:List (DataW H),l.length<=Rows.uptoBulkAll l
 |[]=>Nat.zero_le _
 |d::r=>by
  have h1:=kbulk_pos d
  have h2:=kbulk_len r
  simp only[Rows.uptoBulkAll,List.length_cons]
  omega
theorem kbulk_mem{H:Type}{d:DataW H}:∀{l:List (DataW H)},d∈l->Rows.uptoBulk d<=Rows.uptoBulkAll l
 |x::l,hd=>by
  simp only[Rows.uptoBulkAll]
  rcases List.mem_cons.1 hd with rfl|h
  ·omega
  ·have:=kbulk_mem h
   omega
theorem kchoose{α:Type} [Inhabited α] {n:Nat}{p:Nat->α->Prop}(h:∀i,i<n->∃x,p i x):∃f:Nat->α,∀i,i<n->p i (f i):=by
 refine⟨fun i=>if hi:i<n then Classical.choose (h i hi) else default,fun i hi=>?_⟩
 simp only[dif_pos hi]
 exact Classical.choose_spec (h i hi)
section
variable {H : Type} {enc : TypeId × Value -> H} {w : World} {spare : Nat -> Bool} {held : Bool}
theorem fS{n:Nat}{x:Value}{xs:List (DataW H×List MemPlace)}{i:Nat}(hi:i<xs.length)(h:DataW.trod enc Tryz.prog w 0 spare held n 3 [x]=xs[i]?):∃c,x=.int .i64 c/\(-9223372036854775808<=c/\c<=9223372036854775807):=by
 rw[List.getElem?_eq_getElem hi]at h
 obtain⟨c,e,_,hwf⟩:=DataW.trod_int Tryz.underlying3 h
 simp only[List.cons.injEq,and_true]at e
 exact⟨c,e,bounds_i64 hwf⟩
end
abbrev jm(w:World):LoM:=⟨⟨w.heap.size,fun k=>w.heap[k]?⟩⟩
theorem kcells_u8:Tryz.prog.cellsOf 5=1:=by kernel_rfl
theorem kcells_bytes:Tryz.prog.cellsOf 44=1:=by kernel_rfl
theorem kcells_grm:Tryz.prog.cellsOf 55=5:=by kernel_rfl
theorem klen5{l:List Value}(h:l.length=5):∃a b c d e,l=[a,b,c,d,e]:=by
 match l,h with
 |[a,b,c,d,e],_=>exact⟨a,b,c,d,e,rfl⟩
theorem cell_block{w:World}{b off:Nat}{v:Value}(h:w.cell? ⟨b,off,none⟩= some v):∃cur e fr,w.heap[b]? =some (.cells cur e fr)/\∀j,w.cell? ⟨b,j,none⟩= cur[j]?:=by
 cases hb:w.heap[b]? with
 |none=>simp[World.cell?,hb]at h
 |some o=>
  cases o with
  |cells cur e fr=>exact⟨cur,e,fr,rfl,fun j=>by simp[World.cell?,hb]⟩
  |_=>simp[World.cell?,hb]at h
section
variable {H : Type} {enc : TypeId × Value -> H} {w : World} {spare : Nat -> Bool} {held : Bool}
theorem kbytes_of_trod{n:Nat}{v:Value}{y:DataW H×List MemPlace}(h:DataW.trod enc Tryz.prog w 0 spare held n 44 [v]=some y)(hw:Rows.uptoBulk y.1<=1048576):∃bs:List Int,@RdB (jm w) w v bs/\bs.length<=1048576:=by
 rcases open_ints Tryz.underlying44 Tryz.underlying5 kcells_u8 h with⟨hcs,_⟩|⟨a,len,cap,zs,hcs,_,hl,hmx,hz,hx,hcell,hwz⟩
 ·simp only[List.cons.injEq,and_true]at hcs
  subst hcs
  exact⟨[],@RdB.nil (jm w) w,by simp⟩
 ·simp only[List.cons.injEq,and_true]at hcs
  subst hcs
  have hlz:len<=zs.length:=by rw[hz];split<;>omega
  have hlen:(zs.take len).length=len:=by rw[List.length_take];omega
  have hle:len<=1048576:=by
   rw[hx]at hw
   simp only[Rows.uptoBulk]at hw
   have:=kbulk_len (lits (H:=H) .u8 (zs.take len))
   simp only[lits,List.length_map,hlen]at this hw
   omega
  refine⟨zs.take len,⟨fun x hx'=>?_,by rw[hlen];omega,some a,cap,by rw[hlen],by rw[hlen];exact hl,by unfold maxLen at hmx;omega,fun h=>(by cases h),fun hp=>?_⟩,by rw[hlen];exact hle⟩
  ·have:=bounds_u8 (hwz x (List.mem_of_mem_take hx'))
   omega
  ·rw[hlen]at hp
   obtain⟨b,off,rfl,hc⟩:=ints_at hcell (by omega)
   obtain⟨cur,e,fr,hb,hall⟩:=cell_block (hc 0 (by omega))
   refine⟨b,off,cur,e,fr,rfl,hb,Or.inr (Array.getElem?_eq_some_iff.1 hb).1,fun j hj=>?_⟩
   rw[hlen]at hj
   rw[<-hall,hc j (by omega)]
   simp[List.getD,hj]
end
end Go.Proofs.YthmdjhlhodpbhaaGreatDoor
namespace Go.Proofs.YthmdjhlhodpbhaaGreatDoor
open Go.RowKit
def gy(c:aq):Int:=3*c.got-c.sent
def kP(a:Int)(c:aq):Int:=if c.addr=a then gy c else 0
def gj(a:Int)(l:List aq):Int:=(l.map (kP a)).sum
def lens(l:List (Int×List Int)):Int:=(l.map fun o=>(o.2.length:Int)).sum
structure Fair(g:Cfg)(c:aq):Prop where
 few:c.proven=false->c.sent<=3*c.got
 lim:g.c3<=(c.streams.length:Int)
 cre:g.c1<=c.credit
 crx:c.credit<=readAll c.streams+g.c1
structure FairS(s:ay):Prop where
 con:∀c∈s.conns,Fair s.c c
 mem:iB s<=s.c.c8
theorem fq(a:Int)(l r:List aq):gj a (l++r)=gj a l+gj a r:=by simp[gj]
theorem gL(a:Int)(c:aq)(l:List aq):gj a (c::l)=kP a c+gj a l:=by simp[gj]
theorem owed_set{a:Int}{l:List aq}{i:Nat}{c c':aq}(h:l[i]? =some c):gj a (l.set i c')=gj a l-kP a c+kP a c':=by
 rw[kv h]
 conv=>rhs;rw[jd h]
 rw[fq,fq,gL,gL]
 omega
theorem owed_erase{a:Int}{l:List aq}{i:Nat}{c:aq}(h:l[i]? =some c):gj a (l.eraseIdx i)=gj a l-kP a c:=by
 rw[erase_split h]
 conv=>rhs;rw[jd h]
 rw[fq,fq,gL]
 omega
theorem owed_nn{a:Int}{g:Cfg}:∀{l:List aq},(∀c∈l,Fair g c)->(∀c∈l,c.addr=a->c.proven=false)->0<=gj a l
 |[],_,_=>by simp[gj]
 |c::l,h,hp=>by
  have h1:=owed_nn (a:=a) (l:=l) (fun x hx=>h x (List.mem_cons_of_mem _ hx)) (fun x hx=>hp x (List.mem_cons_of_mem _ hx))
  have h2:=(h c List.mem_cons_self).few
  have h3:=hp c List.mem_cons_self
  rw[gL]
  unfold kP gy
  split
  ·next ha=>have:=h2 (h3 ha);omega
  ·omega
theorem owed_filter{a:Int}{g:Cfg}(p:aq->Bool):∀{l:List aq},(∀c∈l,Fair g c)->(∀c∈l,c.addr=a->c.proven=false)->gj a (l.filter p)<=gj a l
 |[],_,_=>by simp[gj]
 |c::l,h,hp=>by
  have h1:=owed_filter (a:=a) p (l:=l) (fun x hx=>h x (List.mem_cons_of_mem _ hx)) (fun x hx=>hp x (List.mem_cons_of_mem _ hx))
  have h2:=(h c List.mem_cons_self).few
  have h3:=hp c List.mem_cons_self
  have h4:0<=kP a c:=by
   unfold kP gy
   split
   ·next ha=>have:=h2 (h3 ha);omega
   ·omega
  rw[gL,List.filter_cons]
  split
  ·rw[gL];omega
  ·omega
theorem j6(l r:List (Int×List Int)):lens (l++r)=lens l+lens r:=by simp[lens]
theorem lens_one(a:Int)(b:List Int):lens [(a,b)]=b.length:=by simp[lens]
def showsT(g:Cfg)(a:Int)(b:List Int):Prop:=∃i,i+9<=b.length/\bM g.c9 a (fs (b.drop i))=(b.drop i).take 9
def showsP(g:Cfg)(a:Int)(b:List Int):Prop:=1<b.length/\gsz (b.drop 1)≠0/\∃i,i<b.length/\gsz (b.drop i)≠0/\cg (b.drop i)=bA g.c9 a (cg (b.drop 1))
def kC(g:Cfg)(a:Int)(b:List Int):Prop:=showsT g a b\/showsP g a b
def NumIn(b:List Int)(p:Int):Prop:=∃i,i<b.length/\gsz (b.drop i)≠0/\cg (b.drop i)=p
theorem NumIn.drop{b:List Int}{p:Int}{k:Nat}(h:NumIn (b.drop k) p):NumIn b p:=by
 obtain⟨i,h1,h2,h3⟩:=h
 rw[List.drop_drop]at h2 h3
 rw[List.length_drop]at h1
 exact⟨k+i,by omega,h2,h3⟩
theorem frameS_code{b:List Int}{f:da}{size:Nat}(h:bT b=some (f,size))(h7:f.type=7):NumIn b f.code:=by
 unfold bT at h
 cases hc:dd (b.getD 0 0) with
 |none=>rw[hc]at h;cases h
 |some n=>
  rw[hc]at h
  simp only at h
  have ht:f.type=b.getD 0 0:=by
   split at h
   ·cases h
   ·simp only[Option.some.injEq,Prod.mk.injEq]at h;rw[<-h.1]
   ·simp only[Option.some.injEq,Prod.mk.injEq]at h;rw[<-h.1]
   ·simp only[Option.some.injEq,Prod.mk.injEq]at h;rw[<-h.1]
   ·split at h
    ·cases h
    ·simp only[Option.some.injEq,Prod.mk.injEq]at h;rw[<-h.1]
  have h0:b.getD 0 0=7:=by omega
  rw[h0]at hc
  have hn:n=1:=by
   have:dd 7=some 1:=rfl
   rw[this]at hc
   exact(Option.some.inj hc).symm
  subst hn
  have hnum:bE b 1=if gsz (b.drop 1)=0 then none else some ([cg (b.drop 1)],1+(gsz (b.drop 1)).toNat):=rfl
  rw[hnum]at h
  by_cases hg:gsz (b.drop 1)=0
  ·rw[if_pos hg]at h
   cases h
  ·rw[if_neg hg]at h
   simp only[Option.some.injEq,Prod.mk.injEq]at h
   refine⟨1,?_,hg,?_⟩
   ·rcases Nat.lt_or_ge 1 b.length with hl|hl
    ·exact hl
    ·exact absurd (by rw[List.drop_eq_nil_of_le hl];rfl) hg
   ·rw[<-h.1]
    rfl
theorem conStep_proves{g:Cfg}{lw:Int}{c:aq}{f:da}(h:(aR g lw c f).2.proven=true):c.proven=true\/(f.type=7/\f.code=bA g.c9 c.addr c.cid):=by
 unfold aR at h
 split at h
 ·exact Or.inl h
 ·split at h
  ·next h7=>
   split at h
   ·exact Or.inl h
   ·next hc=>exact Or.inr ⟨h7,Classical.not_not.1 hc⟩
  ·rw[jP.1]at h
   exact Or.inl h
theorem conStep_same{g:Cfg}{lw:Int}{c:aq}{f:da}:(aR g lw c f).2.addr=c.addr/\(aR g lw c f).2.cid=c.cid/\readAll (aR g lw c f).2.streams=readAll c.streams:=by
 unfold aR
 split
 ·exact⟨rfl,rfl,rfl⟩
 ·split
  ·split
   ·exact⟨rfl,rfl,rfl⟩
   ·split<;>exact⟨rfl,rfl,rfl⟩
  ·unfold bz
   split
   ·exact⟨rfl,rfl,rfl⟩
   ·next x hx=>
    refine⟨rfl,rfl,?_⟩
    simp only
    rw[ir hx,kk]
    omega
theorem iP{g:Cfg}{lw:Int}:∀(n:Nat) {c:aq} {b:List Int},(aG g lw c b n).con.proven=true->c.proven=true\/NumIn b (bA g.c9 c.addr c.cid)
 |0,c,b,h=>Or.inl h
 |n+1,c,b,h=>by
  unfold aG at h
  split at h
  ·exact Or.inl h
  ·split at h
   ·exact Or.inl h
   ·next f size hf=>
    split at h
    ·exact Or.inl h
    ·split at h
     ·exact Or.inl h
     ·have hs:=conStep_same (g:=g) (lw:=lw) (c:=c) (f:=f)
      rcases iP n h with h1|h1
      ·rcases conStep_proves h1 with h2|⟨h7,h2⟩
       ·exact Or.inl h2
       ·rw[<-h2]
        exact Or.inr (frameS_code hf h7)
      ·rw[hs.1,hs.2.1]at h1
       exact Or.inr h1.drop
theorem jS{g:Cfg}{lw:Int}:∀(n:Nat) {c:aq} {b:List Int},readAll (aG g lw c b n).con.streams=readAll c.streams
 |0,c,b=>rfl
 |n+1,c,b=>by
  unfold aG
  split
  ·rfl
  ·split
   ·rfl
   ·split
    ·rfl
    ·split
     ·rfl
     ·rw[jS n,conStep_same.2.2]
theorem Fair.frames{M:Int}{g:Cfg}{lw:Int}{c:aq}{b:List Int}{n:Nat}(h:Fair g c)(h1:ConOk M c)(h2:ConInv g c)(hb:Bytes b)(hg:0<=g.c4):Fair g (aG g lw c b n).con:=by
 have k:=dY (lw:=lw) hg n h1 h2 hb
 refine⟨fun hp=>?_,by rw[k.slen];exact h.lim,by rw[k.credit];exact h.cre,by rw[k.credit,jS];exact h.crx⟩
 rw[k.sent,k.got]
 refine h.few ?_
 cases hc:c.proven with
 |false=>rfl
 |true=>rw[k.stay hc]at hp;cases hp
theorem Fair.news{g:Cfg}{c:aq}(h:Fair g c)(f:List Int):Fair g (aZ c f):=by
 unfold aZ
 split
 ·next hm=>
  refine⟨fun hp=>?_,h.lim,h.cre,h.crx⟩
  unfold fT at hm
  simp only at hp
  rw[hp,Bool.false_or]at hm
  exact of_decide_eq_true hm
 ·exact h
theorem news_owe{c:aq}(f:List Int)(hp:c.proven=false)(h:c.sent<=3*c.got)(outs:List (Int×List Int)):∃x,bI c f outs=outs++x/\(∀o∈x,o.1=c.addr/\o.2≠[])/\lens x+gy (aZ c f)=gy c/\0<=gy (aZ c f):=by
 unfold bI aZ
 split
 ·next hm=>
  refine⟨_,rfl,fun o ho=>?_,?_,?_⟩
  ·obtain rfl:=List.mem_singleton.1 ho
   exact⟨rfl,by simp[cG]⟩
  ·rw[lens_one]
   simp only[gy]
   omega
  ·unfold fT at hm
   rw[hp,Bool.false_or]at hm
   have:=of_decide_eq_true hm
   simp only[gy]
   omega
 ·refine⟨[],by simp,fun o ho=>(by cases ho),by simp[lens],?_⟩
  unfold gy
  omega
theorem news_to{c:aq}(f:List Int)(outs:List (Int×List Int)):∃x,bI c f outs=outs++x/\(∀o∈x,o.1=c.addr/\o.2≠[]):=by
 unfold bI
 split
 ·refine⟨_,rfl,fun o ho=>?_⟩
  obtain rfl:=List.mem_singleton.1 ho
  exact⟨rfl,by simp[cG]⟩
 ·exact⟨[],by simp,fun o ho=>(by cases ho)⟩
structure Moved(s s':ay)(a:Int)(x:List (Int×List Int))(sz:Int)(P:Prop):Prop where
 fair:FairS s'
 cfg:s'.c=s.c
 dst:∀o∈x,o.1=a/\o.2≠[]
 oth:∀k,k≠a->(∀d∈s'.conns,d.addr=k->d∈s.conns)/\gj k s'.conns=gj k s.conns
 own:¬P->(∀d∈s.conns,d.addr=a->d.proven=false)->(∀d∈s'.conns,d.addr=a->d.proven=false)/\lens x+gj a s'.conns<=gj a s.conns+3*sz
theorem Moved.then{s s1 s2:ay}{a:Int}{x y:List (Int×List Int)}{m n:Int}{P Q R:Prop}(h:Moved s s1 a x m P)(k:Moved s1 s2 a y n Q)(hR:P\/Q->R):Moved s s2 a (x++y) (m+n) R where
 fair:=k.fair
 cfg:=k.cfg.trans h.cfg
 dst:=fun o ho=>(List.mem_append.1 ho).elim (h.dst o) (k.dst o)
 oth:=fun j hj=>⟨fun d hd ha=>(h.oth j hj).1 d ((k.oth j hj).1 d hd ha) ha,(k.oth j hj).2.trans (h.oth j hj).2⟩
 own:=fun hn hp=>by
  obtain⟨h1,h2⟩:=h.own (fun p=>hn (hR (Or.inl p))) hp
  obtain⟨h3,h4⟩:=k.own (fun q=>hn (hR (Or.inr q))) h1
  refine⟨h3,?_⟩
  rw[j6]
  omega
theorem Moved.stay{s:ay}{a:Int}{P:Prop}{n:Int}(h:FairS s)(hn:0<=n):Moved s s a [] n P:=
 ⟨h,rfl,fun o ho=>(by cases ho),fun k _=>⟨fun d hd _=>hd,rfl⟩,fun _ hp=>⟨hp,by simp[lens];omega⟩⟩
theorem Moved.send{s:ay}{a:Int}{P:Prop}{n:Int}{l:List Int}(h:FairS s)(hl:(l.length:Int)<=3*n)(h0:l≠[]):Moved s s a [(a,l)] n P:=
 ⟨h,rfl,fun o ho=>by obtain rfl:=List.mem_singleton.1 ho;exact⟨rfl,h0⟩,fun k _=>⟨fun d hd _=>hd,rfl⟩,fun _ hp=>⟨hp,by rw[lens_one];omega⟩⟩
theorem oweA_not{a k:Int}{c:aq}(h:c.addr=a)(hk:k≠a):kP k c=0:=by
 unfold kP
 rw[if_neg (by rw[h];exact fun e=>hk e.symm)]
theorem oweA_is{a:Int}{c:aq}(h:c.addr=a):kP a c=gy c:=by
 unfold kP
 rw[if_pos h]
theorem Moved.set{s s':ay}{i:Nat}{c c':aq}{a:Int}{x:List (Int×List Int)}{n:Int}{P:Prop}(hF:FairS s)(hi:s.conns[i]? =some c)(ha:c.addr=a)(ha':c'.addr=a)(hc:Fair s.c c')(e1:s'.c=s.c)(e2:s'.conns=s.conns.set i c')
  (hx:∀o∈x,o.1=a/\o.2≠[]) (hp:¬P->c.proven=false->c.sent<=3*c.got->c'.proven=false/\lens x+gy c'<=gy c+3*n):Moved s s' a x n P where
 fair:=⟨fun d hd=>by
  rw[e2]at hd
  rw[e1]
  rcases List.mem_or_eq_of_mem_set hd with hd|rfl
  ·exact hF.con d hd
  ·exact hc,by
  have:=hF.mem
  unfold iB at this⊢
  rw[e1,e2,List.length_set]
  exact this⟩
 cfg:=e1
 dst:=hx
 oth:=fun k hk=>⟨fun d hd hdk=>by
  rw[e2]at hd
  rcases List.mem_or_eq_of_mem_set hd with hd|rfl
  ·exact hd
  ·exact absurd (hdk.symm.trans ha') hk,by
  rw[e2,owed_set hi,oweA_not ha hk,oweA_not ha' hk]
  omega⟩
 own:=fun hn hq=>by
  have hm:=List.mem_of_getElem? hi
  obtain⟨h1,h2⟩:=hp hn (hq c hm ha) ((hF.con c hm).few (hq c hm ha))
  refine⟨fun d hd hda=>?_,?_⟩
  ·rw[e2]at hd
   rcases List.mem_or_eq_of_mem_set hd with hd|rfl
   ·exact hq d hd hda
   ·exact h1
  ·rw[e2,owed_set hi,oweA_is ha,oweA_is ha']
   omega
theorem cost_pos{g:Cfg}(h:cO g):0<cJ g:=by
 have h1:=h.c1
 have h3:=h.c3
 unfold cJ
 omega
theorem FairS.sub{s s':ay}{l:List aq}(hg:cO s.c)(hF:FairS s)(e1:s'.c=s.c)(e2:s'.conns=l)(hs:l.Sublist s.conns):FairS s':=
 ⟨fun d hd=>by
  rw[e2]at hd
  rw[e1]
  exact hF.con d (hs.subset hd),by
  have h1:=hF.mem
  have h2:=hs.length_le
  have h3:=cost_pos hg
  unfold iB at h1⊢
  rw[e1,e2]
  have h4:(l.length:Int)*cJ s.c<=(s.conns.length:Int)*cJ s.c:=Int.mul_le_mul_of_nonneg_right (by omega) (by omega)
  omega⟩
theorem Moved.erase{s s':ay}{i:Nat}{c:aq}{a:Int}{x:List (Int×List Int)}{n:Int}{P:Prop}(hg:cO s.c)(hF:FairS s)(hi:s.conns[i]? =some c)(ha:c.addr=a)(e1:s'.c=s.c)(e2:s'.conns=s.conns.eraseIdx i)
  (hx:∀o∈x,o.1=a/\o.2≠[]) (hp:¬P->c.proven=false->c.sent<=3*c.got->lens x<=gy c+3*n):Moved s s' a x n P where
 fair:=FairS.sub hg hF e1 e2 (List.eraseIdx_sublist _ _)
 cfg:=e1
 dst:=hx
 oth:=fun k hk=>⟨fun d hd _=>by
  rw[e2]at hd
  exact(List.eraseIdx_sublist _ _).subset hd,by
  rw[e2,owed_erase hi,oweA_not ha hk]
  omega⟩
 own:=fun hn hq=>by
  have hm:=List.mem_of_getElem? hi
  have h2:=hp hn (hq c hm ha) ((hF.con c hm).few (hq c hm ha))
  refine⟨fun d hd hda=>?_,?_⟩
  ·rw[e2]at hd
   exact hq d ((List.eraseIdx_sublist _ _).subset hd) hda
  ·rw[e2,owed_erase hi,oweA_is ha]
   omega
theorem Moved.snoc{s s':ay}{c:aq}{a:Int}{x:List (Int×List Int)}{n:Int}{P:Prop}(hF:FairS s)(ha:c.addr=a)(hc:Fair s.c c)(hf:eG s=false)(e1:s'.c=s.c)(e2:s'.conns=s.conns++[c])
  (hx:∀o∈x,o.1=a/\o.2≠[]) (hp:¬P->c.proven=false/\lens x+gy c<=3*n):Moved s s' a x n P where
 fair:=⟨fun d hd=>by
  rw[e2]at hd
  rw[e1]
  rcases List.mem_append.1 hd with hd|hd
  ·exact hF.con d hd
  ·obtain rfl:=List.mem_singleton.1 hd
   exact hc,by
  unfold eG at hf
  rw[Bool.or_eq_false_iff]at hf
  have h2:=of_decide_eq_false hf.2
  unfold iB at h2⊢
  rw[e1,e2,List.length_append,List.length_singleton]
  have h3:((s.conns.length+1:Nat):Int)*cJ s.c=(s.conns.length:Int)*cJ s.c+cJ s.c:=by
   rw[Int.natCast_add,Int.add_mul]
   simp
  omega⟩
 cfg:=e1
 dst:=hx
 oth:=fun k hk=>⟨fun d hd hdk=>by
  rw[e2]at hd
  rcases List.mem_append.1 hd with hd|hd
  ·exact hd
  ·obtain rfl:=List.mem_singleton.1 hd
   exact absurd (hdk.symm.trans ha) hk,by
  rw[e2,fq]
  have:gj k [c]=0:=by
   unfold gj
   simp[oweA_not ha hk]
  omega⟩
 own:=fun hn hq=>by
  obtain⟨h1,h2⟩:=hp hn
  refine⟨fun d hd hda=>?_,?_⟩
  ·rw[e2]at hd
   rcases List.mem_append.1 hd with hd|hd
   ·exact hq d hd hda
   ·obtain rfl:=List.mem_singleton.1 hd
    exact h1
  ·rw[e2,fq]
   have:gj a [c]=gy c:=by
    unfold gj
    simp[oweA_is ha]
   omega
theorem jR{g:Cfg}{lw:Int}:∀(n:Nat) {c:aq} {b:List Int},(aG g lw c b n).gone=false->(aG g lw c b n).closed=none
 |0,c,b,h=>rfl
 |n+1,c,b,h=>by
  unfold aG at h⊢
  split
  ·rfl
  ·next hb=>
   rw[if_neg hb]at h
   split
   ·next hf=>rw[hf]at h;cases h
   ·next f size hf=>
    rw[hf]at h
    simp only at h
    split
    ·rfl
    ·next h6=>
     rw[if_neg h6]at h
     split
     ·next hc=>rw[if_pos hc]at h;cases h
     ·next hc=>
      rw[if_neg hc]at h
      exact jR n h
theorem jl{M L:Int}{s:ay}{i:Nat}{c:aq}{b:List Int}{a:Int}(n:Nat)(outs:List (Int×List Int))(hS:SrvInv M L s)(hF:FairS s)(hi:s.conns[i]? =some c)(ha:c.addr=a)(hb:Bytes b):
  ∃x,(bU s i b outs n).2=outs++x/\Moved s (bU s i b outs n).1 a x 0 (NumIn b (bA s.c.c9 a c.cid)):=by
 have hm:=List.mem_of_getElem? hi
 have hg:=hS.cfg
 have hg4:0<=s.c.c4:=by have:=hg.c4;omega
 have hk:=dY (lw:=s.last+1) hg4 n (hS.ok c hm) (hS.inv c hm) hb
 have hfr:=(hF.con c hm).frames (lw:=s.last+1) (n:=n) (hS.ok c hm) (hS.inv c hm) hb hg4
 have hpr:=iP (g:=s.c) (lw:=s.last+1) n (c:=c) (b:=b)
 have hgo:=jR (g:=s.c) (lw:=s.last+1) n (c:=c) (b:=b)
 rw[dC n b outs hi]
 generalize aG s.c (s.last+1) c b n=r at hk hfr hpr hgo
 have hra:r.con.addr=a:=hk.addr.trans ha
 have hnp:¬NumIn b (bA s.c.c9 a c.cid)->c.proven=false->r.con.proven=false:=by
  intro h1 h2
  cases h3:r.con.proven with
  |false=>rfl
  |true=>
   rcases hpr h3 with h4|h4
   ·rw[h2]at h4;cases h4
   ·rw[ha]at h4;exact absurd h4 h1
 cases hgn:r.gone with
 |false=>
  refine⟨[],by unfold cE;rw[hgo hgn];simp,Moved.set hF hi ha hra hfr rfl (by simp[fy,hgn]) (fun o ho=>(by cases ho)) fun h1 h2 _=>⟨hnp h1 h2,?_⟩⟩
  simp only[lens,List.map_nil,List.sum_nil,gy,hk.got,hk.sent]
  omega
 |true=>
  have he:(fy s i c r).conns=s.conns.eraseIdx i:=by simp[fy,hgn]
  unfold cE
  cases hcl:r.closed with
  |none=>
   refine⟨[],by simp,Moved.erase hg hF hi ha rfl he (fun o ho=>(by cases ho)) fun _ _ h3=>?_⟩
   simp only[lens,List.map_nil,List.sum_nil,gy]
   omega
  |some k=>
   simp only
   obtain⟨x,hx,hto⟩:=news_to (c:=r.con) ([19]++aT k) outs
   refine⟨x,hx,Moved.erase hg hF hi ha rfl he (fun o ho=>⟨(hto o ho).1.trans hra,(hto o ho).2⟩) fun h1 h2 h3=>?_⟩
   obtain⟨y,hy,_,hl,h0⟩:=news_owe ([19]++aT k) (hnp h1 h2) (by rw[hk.got,hk.sent];exact h3) outs
   have hxy:x=y:=List.append_cancel_left (hx.symm.trans hy)
   subst hxy
   simp only[gy,hk.got,hk.sent]at hl h0⊢
   omega
end Go.Proofs.YthmdjhlhodpbhaaGreatDoor
