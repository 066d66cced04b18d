/- Apart, 34 -/
import Derived.Test.YthmdjhlhodpbhaaGreatDoorA03
import Derived.Test.YthmdjhlhodpbhaaGreatDoorA04
import Derived.Test.YthmdjhlhodpbhaaGreatDoorA21
import Derived.Test.YthmdjhlhodpbhaaGreatDoorA29
import Derived.Test.YthmdjhlhodpbhaaGreatDoorA30
import Derived.Test.YthmdjhlhodpbhaaGreatDoorA33
set_option maxHeartbeats 16000000
set_option maxRecDepth 8000
namespace Go.Proofs.YthmdjhlhodpbhaaGreatDoor
def br(raw:Cfg):Cfg:={wJ raw with c8:=100000}
theorem pz(raw:Cfg):bM (br raw):=by
 have r0:=aT raw.c0 (n:=8) (by decide)
 have r1:=aT raw.c1 (n:=60) (by decide)
 have r2:=aT raw.c2 (n:=8+aP raw.c1 60-8+1) (by omega)
 have r3:=aT raw.c3 (n:=8) (by decide)
 have r4:=aT raw.c4 (n:=8) (by decide)
 have r5:=aT raw.c5 (n:=9) (by decide)
 have r6:=aT raw.c6 (n:=1000) (by decide)
 have r7:=aT raw.c7 (n:=1000) (by decide)
 have r9:=aT raw.c9 (n:=4294967296) (by decide)
 unfold br wJ
 refine⟨?_,?_,?_,?_,?_,?_,?_,?_,?_,?_⟩<;>simp only<;>omega
theorem vd(raw:Cfg):(br raw).right=true:=by
 have h:=pz raw
 have h0:=h.c0
 have h1:=h.c1
 have h2:=h.c2
 have h3:=h.c3
 have h4:=h.c4
 have h5:=h.c5
 have h6:=h.c6
 have h7:=h.c7
 have h8:=h.c8
 have h9:=h.c9
 unfold Cfg.right gT pU pV eL
 simp only[Bool.and_eq_true,decide_eq_true_eq]
 refine⟨⟨?_,?_,?_,?_⟩,⟨?_,?_,?_,?_⟩,?_,?_⟩<;>omega
def lL(g:Cfg)(got sent:Int)(runs:List (Int×Int))(l:List aR):aw:=⟨300,1,true,got,sent,0,0,runs,g.c1,l,1⟩
def l0(g:Cfg)(c:aw):ay:=⟨g,0,[c],1⟩
theorem tok_time(k:Int):kY (bF k 1 0)=0:=by simp[kY,bF,gw,bZ]
theorem iZ(k a t:Int):(bF k a t).length=9:=by simp[bF,gw,bZ]
theorem hello300{g:Cfg}(hg:bM g)(h8:g.c8=100000):∃n sent B,bg (cK g) 1 (dA 300 (bF g.c9 1 0) [])=(l0 g (lL g n sent [] (List.replicate g.c3.toNat (aU g.c2))),[(1,B)]):=by
 have h0:=hg.c0
 have h1:=hg.c1
 have h3:=hg.c3
 obtain⟨m,hm⟩:∃m:Nat,(dA 300 (bF g.c9 1 0) []).length=m+1:=⟨(dA 300 (bF g.c9 1 0) []).length-1,by simp[dA]⟩
 have hgood:kK g 0 1 (bF g.c9 1 0)=true:=by
  unfold kK
  rw[tok_time,iZ]
  simp
 have hfull:fz (cK g)=false:=by
  have q1:¬(cK g).c.c0<=((cK g).conns.length:Int):=by simp[cK];omega
  have q2:¬(cK g).c.c8<mL (cK g)+dW (cK g).c:=by simp[cK,mL,dW];omega
  unfold fz
  rw[decide_eq_false q1,decide_eq_false q2]
  rfl
 refine⟨((m+1:Nat):Int),((cg 300 (bj g (bA ⟨g,0,[],0⟩ 300 1 ((m+1:Nat):Int) true))).length:Int),cg 300 (bj g (bA ⟨g,0,[],0⟩ 300 1 ((m+1:Nat):Int) true)),?_⟩
 rw[show cK g =⟨g,0,[],0⟩ from rfl]
 unfold bg
 rw[if_neg (by decide),uG (by decide) (by rw[iZ];decide)]
 simp only[if_true,hm]
 unfold fM
 simp only[ei,List.findIdx?_nil]
 rw[if_pos (by rw[iZ];decide),if_pos hgood,if_neg (by rw[show fz ⟨g,0,[],0⟩= false from hfull];decide)]
 unfold kQ cG
 simp only[if_true]
 have hn:∀f,bt (bA ⟨g,0,[],0⟩ 300 1 ((m+1:Nat):Int) true) f = {bA ⟨g,0,[],0⟩ 300 1 ((m+1:Nat):Int) true with sent:=(cg 300 f).length}:=by
  intro f
  unfold bt
  rw[if_pos (by simp[fH,bA,fo])]
  simp[bA,fo]
 rw[hn]
 unfold ca
 rw[if_pos (by simp[fH,bA,fo])]
 simp[pO,oe,bA,fo,lD,l0,lL]
theorem pd{g:Cfg}{lw:Int}{c:aw}{f:dx}{size:Nat}{b:List Int}{m:Nat}(hb:b≠[])(hf:bR b=some (f,size))(h6:f.type≠6):aL g lw c b (m+1)=if(be g lw c f).1≠0 then⟨c,some (be g lw c f).1,true⟩ else aL g lw (be g lw c f).2 (b.drop size) m:=by
 conv=>lhs;unfold aL
 rw[if_neg hb,hf]
 simp only
 rw[if_neg h6]
theorem nD{b:List Int}(h:∀x∈b,0<=x):bC b=b.length:=by
 unfold bC
 induction b with
 |nil=>rfl
 |cons a t ih=>
  have h0:=h a (List.mem_cons_self ..)
  rw[List.takeWhile_cons,if_pos (by simpa using h0),List.length_cons,ih fun x hx=>h x (List.mem_cons_of_mem _ hx),List.length_cons]
theorem runsTo_one{b:List Int}(h:∀x∈b,0<=x):dS b b.length<=1:=by
 rw[<-df b 0]
 have hl:=nD h
 rcases Nat.eq_zero_or_pos b.length with h0|h0
 ·obtain rfl:=List.eq_nil_of_length_eq_zero h0
  simp[aX]
 ·rw[gP b 0 (by omega),hl]
  simp[aX]
theorem iE(st fr:Int)(n:Nat):∀x∈aV st fr n,0<=x:=by
 intro x hx
 obtain⟨i,_,rfl⟩:=List.mem_map.1 hx
 exact jY.1
theorem srvA_found(g:Cfg)(c:aw)(h:c.cid=300):ei (l0 g c).conns 300=some 0:=by
 simp[ei,l0,h]
end Go.Proofs.YthmdjhlhodpbhaaGreatDoor
namespace Go.Proofs.YthmdjhlhodpbhaaGreatDoor
open Go.RowKit
theorem OutsAt.sf{w0 w w':World}{b:Nat}{v:Value}{o:List (Int×List Int)}(h:OutsAt w b v o)(hc:Chg (SF w0 w) w w'):OutsAt w' b v o:=
 h.chg hc (fun k cur fr hk=>SF.not hk (by simp[gf])) (fun k cur fr hk=>SF.not hk (by simp[gf]))
theorem box_sf{w0 w w':World}{k:Nat}{cur:Array Value}{T:TypeId}{fr:Nat×Nat}(h:w.heap[k]? =some (.cells cur T fr))(hT:¬gf T)(hc:Chg (SF w0 w) w w'):w'.heap[k]? =some (.cells cur T fr):=
 (hc.block k (aLt h) (SF.not h hT)).trans h
theorem dh{w w':World}{k:Nat}{o:Obj}(h:w.heap[k]? =some o)(hb:Below w.heap.size w w'):w'.heap[k]? =some o:=
 (hb.block k (aLt h)).trans h
theorem OutsAt.below{w w':World}{b:Nat}{v:Value}{o:List (Int×List Int)}(h:OutsAt w b v o)(hb:Below w.heap.size w w'):OutsAt w' b v o:=
 h.chg (F:=fun _=>False) (Chg.of_below hb) (fun _ _ _ _ h=>h) (fun _ _ _ _ h=>h)
theorem outs_one{w:World}{base:Nat}{v:Value}{a:Int}{B:List Int}(h:OutsAt w base v [(a,B)]):∃g cap bv,v=.slice (some ⟨g,0,none⟩) 1 cap/\w.cell? ⟨g,0,none⟩= some (.int .i64 a)/\w.cell? ⟨g,1,none⟩= some bv/\w.ownsRow base 5 1 bv B.length (U8 B):=by
 obtain⟨out,h1,h2⟩:=h
 have hl:out.length=1:=h2.1
 match out,hl with
 |[x],_=>
  obtain⟨e1,e2⟩:=h2.2.1 0 x (a,B) rfl rfl
  rcases h1.2 with⟨_,e⟩|⟨g,cap,cur,hv,hg,hb,hc⟩
  ·simp at e
  ·subst hv
   have c0:=h1.cellAt 0 (by simp)
   have c1:=h1.cellAt 1 (by simp)
   refine⟨g,cap,x.2,rfl,?_,?_,e2⟩
   ·rw[c0,show a=x.1 from e1.symm]
    rfl
   ·rw[c1]
    rfl
def wD:Cfg:=⟨1,16,8,1,2,0,10,5,1000,0⟩
def aw1:ay×List (Int×List Int):=bg (cK wD) 7 (dA 5 (bF 0 7 3) [])
def aw2:Int×Int×ay:=bW aw1.1
def aw3:ay×List (Int×List Int):=bg aw2.2.2 7 (bK 5 1 [4,0,2,1,99])
def aw4:ay×List (Int×List Int):=bg aw3.1 7 (bK 5 0 [3,0,0,2,97,98])
def aw5:Int×ir×ay×List (Int×List Int):=cR aw4.1 5 0 9
theorem aw1_out:aw1.2=[(7,[4,5,20,131,19,76,254,16,8,1])]:=by kernel_rfl
theorem aw_rest:(aw2.1,aw2.2.1,aw5.1,aw5.2.1.bytes,aw5.2.1.fin,aw5.2.1.rst)=(5,0,0,[97,98,99],true,false):=by kernel_rfl
theorem aw_right:wD.right=true:=by kernel_rfl
theorem aw_tok:oG 1 16 8 1 2 0 10 5 1000 0 7 3=0:=by kernel_rfl
theorem aw_hello:(dA 5 (bF 0 7 3) []).length=12:=by kernel_rfl
theorem aw_abc:strOfNums [97,98,99] = {data:=#[97,98,99]}:=by kernel_rfl
theorem kawake_any [LoM] (w:World)(hE:Env w):Calls Tryz.prog 24 #[] w fun e w'=>e=.returned (.bool true)/\Below w.heap.size w w':=by
 have hb0:Below w.heap.size w (w.alloc (.cells #[.int .i64 1,.int .i64 16,.int .i64 8,.int .i64 1,.int .i64 2,.int .i64 0,.int .i64 10,.int .i64 5,.int .i64 1000,.int .i64 0] 26)):=ag w _
 have HX:Hid ((w.alloc (.cells #[.int .i64 1,.int .i64 16,.int .i64 8,.int .i64 1,.int .i64 2,.int .i64 0,.int .i64 10,.int .i64 5,.int .i64 1000,.int .i64 0] 26)).heap[w.heap.size]? =some (.cells #[.int .i64 1,.int .i64 16,.int .i64 8,.int .i64 1,.int .i64 2,.int .i64 0,.int .i64 10,.int .i64 5,.int .i64 1000,.int .i64 0] 26 (0,0))):=heap_alloc_new w _
 have HNew:=ab (vf w wD aw_right _ hb0)
 have HTk:=ab (fun W=>ru 1 16 8 1 2 0 10 5 1000 0 7 3 W)
 rw[aw_tok]at HTk
 have E0:∀(sb:Nat) (W:World),(binOp .eql 37 (.pointer (some ⟨sb,0,none⟩)) (.pointer none)).run Tryz.prog W=.ok (.bool false) W:=fun sb W=>by kernel_rfl
 have HE:=ab hE
 clear hE hb0
 go_enter Tryz.func24,Tryz.ntmps24
 go_wp2_with fail
 refine HNew.out.mono ?_
 rintro e w2 ⟨⟨sb,rfl,hL⟩,hb2⟩
 have HL:=ab hL
 have x2:=dh HX.out hb2
 have HX2:=ab x2
 clear hL hb2 HX HNew
 have c0:w2.cell? ⟨w.heap.size,0,none⟩= some (.int .i64 1):=aj x2 0
 have c1:w2.cell? ⟨w.heap.size,1,none⟩= some (.int .i64 16):=aj x2 1
 have c2:w2.cell? ⟨w.heap.size,2,none⟩= some (.int .i64 8):=aj x2 2
 have c3:w2.cell? ⟨w.heap.size,3,none⟩= some (.int .i64 1):=aj x2 3
 have c4:w2.cell? ⟨w.heap.size,4,none⟩= some (.int .i64 2):=aj x2 4
 have c5:w2.cell? ⟨w.heap.size,5,none⟩= some (.int .i64 0):=aj x2 5
 have c6:w2.cell? ⟨w.heap.size,6,none⟩= some (.int .i64 10):=aj x2 6
 have c7:w2.cell? ⟨w.heap.size,7,none⟩= some (.int .i64 5):=aj x2 7
 have c8:w2.cell? ⟨w.heap.size,8,none⟩= some (.int .i64 1000):=aj x2 8
 have c9:w2.cell? ⟨w.heap.size,9,none⟩= some (.int .i64 0):=aj x2 9
 clear x2
 go_wp2_with fail
 refine(HTk.out w2).mono ?_
 rintro e w3 ⟨tv,rfl,ht,hb3⟩
 obtain⟨t1,t2,rfl⟩:=aH ht
 rw[show qT 1 16 8 1 2 0 10 5 1000 0 7 3=bF 0 7 3 by unfold qT;rw[aw_tok];rfl]at ht⊢
 rw[show(bF 0 7 3).length=9 by kernel_rfl]at ht⊢
 have HHe:=ab (pA 5 (bF 0 7 3) [] (.slice t1 9 t2) (.slice none 0 0) w3 (by decide) (RdB.of_own ht (fg _ _ _ (by decide) (by decide)) (by decide)) (RdB.nil _) (by decide) (by decide))
 have HL3:=ab (HL.out.below hb3)
 clear c0 c1 c2 c3 c4 c5 c6 c7 c8 c9 ht hb3 HTk HX2 HL
 go_wp2_with fail
 refine HHe.out.mono ?_
 rintro e w4 ⟨hv,rfl,ho,hb4⟩
 obtain⟨h1,h2,rfl⟩:=aH ho
 rw[aw_hello]at ho⊢
 have HRc:=ab ((HL3.out.below hb4).receive HE.out 7 (RdB.of_own ho (mC (by decide) (fg _ _ _ (by decide) (by decide)) Bytes.nil (by decide)) (by decide)) (by decide) (by decide) (by decide) (by decide))
 clear ho hb4 HHe HL3
 go_wp2_with fail
 refine HRc.out.mono ?_
 rintro e w5 ⟨⟨v5,rfl,ho5⟩,hL5,_⟩
 have HO5:Hid (OutsAt w5 w4.heap.size v5 [(7,[4,5,20,131,19,76,254,16,8,1])]):=by
  show OutsAt _ _ _ _
  rw[<-aw1_out]
  exact ho5
 obtain⟨l1,l2,rfl⟩:=HO5.out.form
 rw[show([(7,[4,5,20,131,19,76,254,16,8,1])]:List (Int×List Int)).length=1 from rfl]at HO5
 have HL5:Hid (Live w 20 1000 10 w5 sb aw1.1):=hL5.mono (by decide) (by decide) (by decide)
 clear ho5 hL5 HRc
 have hrest:=aw_rest
 simp only[Prod.mk.injEq]at hrest
 obtain⟨r1,r2,r3,r4,r5,r6⟩:=hrest
 have HAc:=ab HL5.out.accept
 rw[show(bW aw1.1).1=5 from r1,show(bW aw1.1).2.1=0 from r2]at HAc
 have HR5:=ab (And.intro r3 (And.intro r4 (And.intro r5 r6)))
 clear r1 r2 r3 r4 r5 r6
 go_wp2_with fail
 refine HAc.out.mono ?_
 rintro e w6 ⟨rfl,hL6,hc6⟩
 have HL6:Hid (Live w 20 1000 10 w6 sb aw2.2.2):=hL6
 have HO6:=ab (HO5.out.sf hc6)
 clear hL6 hc6 HO5 HL5 HAc
 have hb7:Below w6.heap.size w6 (w6.alloc (.cells #[.int .u8 4,.int .u8 0,.int .u8 2,.int .u8 1,.int .u8 99] 5)):=ag w6 _
 have HD1:=ab (nC 5 1 [4,0,2,1,99] (.slice (some ⟨w6.heap.size,0,none⟩) 5 5) (w6.alloc (.cells #[.int .u8 4,.int .u8 0,.int .u8 2,.int .u8 1,.int .u8 99] 5)) (by decide) (by decide) (RdB.lit w6 [4,0,2,1,99] (by unfold Bytes;decide) (by decide) (by decide)) (by decide))
 have HL7:=ab (HL6.out.below hb7)
 have HO7:=ab (HO6.out.below hb7)
 clear hb7 HL6 HO6
 go_wp2_with fail
 refine HD1.out.mono ?_
 rintro e w8 ⟨dv,rfl,hd,hb8⟩
 obtain⟨d1,d2,rfl⟩:=aH hd
 rw[show(bK 5 1 [4,0,2,1,99]).length=8 by kernel_rfl]at hd⊢
 have HRc:=ab ((HL7.out.below hb8).receive HE.out 7 (RdB.of_own hd (kF (by decide) (by decide) (by unfold Bytes;decide)) (by decide)) (by decide) (by decide) (by decide) (by decide))
 have HO8:=ab (HO7.out.below hb8)
 clear hd hb8 HD1 HL7 HO7
 go_wp2_with fail
 refine HRc.out.mono ?_
 rintro e w9 ⟨⟨v9,rfl,_⟩,hL9,hc9⟩
 have HL9:Hid (Live w 50 2000 20 w9 sb aw3.1):=hL9.mono (by decide) (by decide) (by decide)
 have HO9:=ab (HO8.out.sf hc9)
 clear hL9 hc9 HRc HO8
 have hb10:Below w9.heap.size w9 (w9.alloc (.cells #[.int .u8 3,.int .u8 0,.int .u8 0,.int .u8 2,.int .u8 97,.int .u8 98] 5)):=ag w9 _
 have HD2:=ab (nC 5 0 [3,0,0,2,97,98] (.slice (some ⟨w9.heap.size,0,none⟩) 6 6) (w9.alloc (.cells #[.int .u8 3,.int .u8 0,.int .u8 0,.int .u8 2,.int .u8 97,.int .u8 98] 5)) (by decide) (by decide) (RdB.lit w9 [3,0,0,2,97,98] (by unfold Bytes;decide) (by decide) (by decide)) (by decide))
 have HL10:=ab (HL9.out.below hb10)
 have HO10:=ab (HO9.out.below hb10)
 clear hb10 HL9 HO9
 go_wp2_with fail
 refine HD2.out.mono ?_
 rintro e w11 ⟨dv,rfl,hd,hb11⟩
 obtain⟨d3,d4,rfl⟩:=aH hd
 rw[show(bK 5 0 [3,0,0,2,97,98]).length=9 by kernel_rfl]at hd⊢
 have HRc:=ab ((HL10.out.below hb11).receive HE.out 7 (RdB.of_own hd (kF (by decide) (by decide) (by unfold Bytes;decide)) (by decide)) (by decide) (by decide) (by decide) (by decide))
 have HO11:=ab (HO10.out.below hb11)
 clear hd hb11 HD2 HL10 HO10
 go_wp2_with fail
 refine HRc.out.mono ?_
 rintro e w12 ⟨⟨v12,rfl,_⟩,hL12,hc12⟩
 have HL12:Hid (Live w 100 3000 30 w12 sb aw4.1):=hL12.mono (by decide) (by decide) (by decide)
 have HO12:=ab (HO11.out.sf hc12)
 clear hL12 hc12 HRc HO11
 have HRd:=ab (HL12.out.read 5 0 9 (by decide) (by decide) (by decide) (by decide))
 clear HL12
 go_wp2_with fail
 refine HRd.out.mono ?_
 rintro e w13 ⟨⟨gv,v13,rfl,hg,ho13⟩,hL13,hc13⟩
 have HB13:=ab hL13.bel
 have HO13:=ab (HO12.out.sf hc13)
 obtain⟨g1,g2,rfl⟩:=aH hg
 obtain⟨s1,s2,rfl⟩:=ho13.form
 have q1:(cR aw4.1 5 0 9).1=0:=HR5.out.1
 have q2:(cR aw4.1 5 0 9).2.1.bytes=[97,98,99]:=HR5.out.2.1
 have q3:(cR aw4.1 5 0 9).2.1.fin=true:=HR5.out.2.2.1
 have q4:(cR aw4.1 5 0 9).2.1.rst=false:=HR5.out.2.2.2
 rw[q2]at hg
 rw[q1,q2,q3,q4]
 generalize (cR aw4.1 5 0 9).2.2.2.length=nl
 have HG:=ab hg
 clear hg ho13 hL13 hc13 HRd HO12 q1 q2 q3 q4 HR5
 rw[show([97,98,99]:List Int).length=3 from rfl]at HG⊢
 have hb14:Below w13.heap.size w13 (w13.alloc (.cells #[.slice g1 3 g2,.bool true,.bool false] 46)):=ag w13 _
 obtain⟨ga,gc,bv,e1,k0,k1,hbv⟩:=outs_one (HO13.out.below hb14)
 obtain⟨bb,bc,e2,_,_,_⟩:=dp hbv (by decide)
 have m0:=dQ (e2▸hbv) 0 (by decide)
 have m2:=dQ (e2▸hbv) 2 (by decide)
 simp only[Value.slice.injEq]at e1
 obtain⟨rfl,_,rfl⟩:=e1
 subst e2
 have kc:=conv_own (l:=[97,98,99]) (aF HG.out hb14)
 rw[aw_abc]at kc
 have HBf:=ab (ai HB13.out hb14)
 clear HG HO13 hbv hb14 HB13
 go_wp2_with fail
 go_ret
 exact⟨rfl,HBf.out⟩
def iQ(sb:Nat)(g:Cfg):Array Value:=#[.pointer (some ⟨sb,0,none⟩),.int .i64 g.c0,.int .i64 g.c1,.int .i64 g.c2,.int .i64 g.c3,.int .i64 g.c4,.int .i64 g.c5,.int .i64 g.c6,.int .i64 g.c7,.int .i64 g.c8,.int .i64 g.c9,.bool true,.int .i64 g.c1,.slice none 0 0,.int .i64 g.c3,.slice none 0 0,.slice none 0 0,.slice none 0 0,.slice none 0 0,.slice none 0 0,.int .i64 0,.slice none 0 0]
theorem right_tok{g:Cfg}(h:g.right=true)(a t:Int)(ha:eL a 0 255=true)(ht:eL t 0 4294967295=true):oG g.c0 g.c1 g.c2 g.c3 g.c4 g.c5 g.c6 g.c7 g.c8 g.c9 a t=0:=by
 have hc:nt g.c0 g.c1 g.c2 g.c3 g.c4 g.c5 g.c6 g.c7 g.c8 g.c9=0:=by
  unfold nt
  rw[if_pos (show gT g.c0 g.c1 g.c2 g.c3 g.c4 g.c5 g.c6 g.c7 g.c8 g.c9=true from h)]
 unfold oG orE
 rw[hc,kv ha,kv ht]
 rfl
structure ConnOut(w:World)(raw:Cfg)(e:Ending)(w':World):Prop where
 ex:∃sb xb got sent,e=.returned (.pointer (some ⟨xb,0,none⟩))/\Live w 100 1000 100 w' sb (l0 (br raw) (lL (br raw) got sent [] (List.replicate (br raw).c3.toNat (aU (br raw).c2))))/\w'.heap[xb]? =some (.cells (iQ sb (br raw)) 42 (0,0))/\w.heap.size<=xb/\l0 (br raw) (lL (br raw) got sent [] (List.replicate (br raw).c3.toNat (aU (br raw).c2)))=(bg (cK (br raw)) 1 (dA 300 (bF (br raw).c9 1 0) [])).1
 bel:Below w.heap.size w w'
theorem kL [LoM] (raw:Cfg)(w:World)(hE:Env w)(hraw:sD raw):Calls Tryz.prog 13 #[.agg (jQ raw)] w fun e w'=>ConnOut w raw e w':=by
 have hb0:Below w.heap.size w (w.alloc (.cells (jQ raw) 26)):=ag w _
 have HX:Hid ((w.alloc (.cells (jQ raw) 26)).heap[w.heap.size]? =some (.cells (jQ raw) 26 (0,0))):=heap_alloc_new w _
 have HAw:=ab (kawake_any _ (hE.below hb0))
 have HCf:=ab (fun W=>u9 raw W hraw)
 have hright:=vd raw
 have hok:=pz raw
 have h8:(br raw).c8=100000:=rfl
 obtain⟨got,sent,B,h300⟩:=hello300 hok h8
 have HNew:=ab (fun W (hW:Below w.heap.size w W)=>vf w (br raw) hright W hW)
 have HTk:=ab (fun W=>ru (br raw).c0 (br raw).c1 (br raw).c2 (br raw).c3 (br raw).c4 (br raw).c5 (br raw).c6 (br raw).c7 (br raw).c8 (br raw).c9 1 0 W)
 have htk:=right_tok hright 1 0 (by decide) (by decide)
 have htm:qT (br raw).c0 (br raw).c1 (br raw).c2 (br raw).c3 (br raw).c4 (br raw).c5 (br raw).c6 (br raw).c7 (br raw).c8 (br raw).c9 1 0=bF (br raw).c9 1 0:=by
  unfold qT
  rw[htk]
  rfl
 rw[htk,htm,iZ]at HTk
 have E0:∀(sb:Nat) (W:World),(binOp .eql 37 (.pointer (some ⟨sb,0,none⟩)) (.pointer none)).run Tryz.prog W=.ok (.bool false) W:=fun sb W=>by kernel_rfl
 have HE:=ab hE
 have HB0:=ab hb0
 have hcfg:jQ (wJ raw)=#[.int .i64 (br raw).c0,.int .i64 (br raw).c1,.int .i64 (br raw).c2,.int .i64 (br raw).c3,.int .i64 (br raw).c4,.int .i64 (br raw).c5,.int .i64 (br raw).c6,.int .i64 (br raw).c7,.int .i64 (wJ raw).c8,.int .i64 (br raw).c9]:=rfl
 rw[hcfg]at HCf
 have hlen:(dA 300 (bF (br raw).c9 1 0) []).length=13:=by simp[dA,iZ,az]
 have H300:=ab h300
 generalize hk8:(wJ raw).c8=k8 at *
 clear hk8
 have HFin:Hid (∀(w':World) (sb xb:Nat),Live w 100 1000 100 w' sb (bg (cK (br raw)) 1 (dA 300 (bF (br raw).c9 1 0) [])).1->w'.heap[xb]? =some (.cells (iQ sb (br raw)) 42 (0,0))->w.heap.size<=xb->ConnOut w raw (.returned (.pointer (some ⟨xb,0,none⟩))) w'):=by
  intro w' sb xb hL hx hxb
  rw[H300.out]at hL
  exact⟨⟨sb,xb,got,sent,rfl,hL,hx,hxb,by rw[H300.out]⟩,hL.bel⟩
 have HOut:Hid (∀(w':World) (b:Nat) (v:Value),OutsAt w' b v (bg (cK (br raw)) 1 (dA 300 (bF (br raw).c9 1 0) [])).2->∃ao cap,v=.slice ao 1 cap):=by
  intro w' b v ho
  rw[H300.out]at ho
  exact ho.form
 unfold iQ at HFin
 generalize hG:br raw=G at *
 obtain⟨G0,G1,G2,G3,G4,G5,G6,G7,G8,G9⟩:=G
 simp only at *
 subst h8
 have HHe:=ab (fun W (tv:Value) (ht:RdB W tv (bF G9 1 0))=>pA 300 (bF G9 1 0) [] tv (.slice none 0 0) W (by decide) ht (RdB.nil _) (by rw[iZ];decide) (by decide))
 clear hE hb0 hright hok h300 htk htm hcfg H300 hG hraw
 unfold jQ at HX HCf⊢
 go_enter Tryz.func13,Tryz.ntmps13
 go_wp2_with fail
 refine HAw.out.mono ?_
 rintro e w1 ⟨rfl,hb1⟩
 have x1:=dh HX.out hb1
 have r0:w1.cell? ⟨w.heap.size,0,none⟩= some (.int .i64 raw.c0):=aj x1 0
 have r1:w1.cell? ⟨w.heap.size,1,none⟩= some (.int .i64 raw.c1):=aj x1 1
 have r2:w1.cell? ⟨w.heap.size,2,none⟩= some (.int .i64 raw.c2):=aj x1 2
 have r3:w1.cell? ⟨w.heap.size,3,none⟩= some (.int .i64 raw.c3):=aj x1 3
 have r4:w1.cell? ⟨w.heap.size,4,none⟩= some (.int .i64 raw.c4):=aj x1 4
 have r5:w1.cell? ⟨w.heap.size,5,none⟩= some (.int .i64 raw.c5):=aj x1 5
 have r6:w1.cell? ⟨w.heap.size,6,none⟩= some (.int .i64 raw.c6):=aj x1 6
 have r7:w1.cell? ⟨w.heap.size,7,none⟩= some (.int .i64 raw.c7):=aj x1 7
 have r8:w1.cell? ⟨w.heap.size,8,none⟩= some (.int .i64 raw.c8):=aj x1 8
 have r9:w1.cell? ⟨w.heap.size,9,none⟩= some (.int .i64 raw.c9):=aj x1 9
 have HB1:=ab (ai HB0.out hb1)
 clear x1 hb1 HB0 HX HAw
 go_wp2_with fail
 refine(HCf.out w1).mono ?_
 rintro e w2 ⟨rfl,hb2⟩
 have HB2:=ab (ai HB1.out hb2)
 clear hb2 HB1 HCf r0 r1 r2 r3 r4 r5 r6 r7 r8 r9
 go_wp2_with fail
 have hb3:Below w2.heap.size w2 (w2.alloc (.cells #[.int .i64 G0,.int .i64 G1,.int .i64 G2,.int .i64 G3,.int .i64 G4,.int .i64 G5,.int .i64 G6,.int .i64 G7,.int .i64 100000,.int .i64 G9] 26)):=ag w2 _
 have x3:(w2.alloc (.cells #[.int .i64 G0,.int .i64 G1,.int .i64 G2,.int .i64 G3,.int .i64 G4,.int .i64 G5,.int .i64 G6,.int .i64 G7,.int .i64 100000,.int .i64 G9] 26)).heap[w2.heap.size]? =some (.cells #[.int .i64 G0,.int .i64 G1,.int .i64 G2,.int .i64 G3,.int .i64 G4,.int .i64 G5,.int .i64 G6,.int .i64 G7,.int .i64 100000,.int .i64 G9] 26 (0,0)):=heap_alloc_new w2 _
 refine(HNew.out _ (ai HB2.out hb3)).mono ?_
 rintro e w4 ⟨⟨sb,rfl,hL4⟩,hb4⟩
 have x4:=dh x3 hb4
 have HL4:=ab hL4
 have c0:w4.cell? ⟨w2.heap.size,0,none⟩= some (.int .i64 G0):=aj x4 0
 have c1:w4.cell? ⟨w2.heap.size,1,none⟩= some (.int .i64 G1):=aj x4 1
 have c2:w4.cell? ⟨w2.heap.size,2,none⟩= some (.int .i64 G2):=aj x4 2
 have c3:w4.cell? ⟨w2.heap.size,3,none⟩= some (.int .i64 G3):=aj x4 3
 have c4:w4.cell? ⟨w2.heap.size,4,none⟩= some (.int .i64 G4):=aj x4 4
 have c5:w4.cell? ⟨w2.heap.size,5,none⟩= some (.int .i64 G5):=aj x4 5
 have c6:w4.cell? ⟨w2.heap.size,6,none⟩= some (.int .i64 G6):=aj x4 6
 have c7:w4.cell? ⟨w2.heap.size,7,none⟩= some (.int .i64 G7):=aj x4 7
 have c8:w4.cell? ⟨w2.heap.size,8,none⟩= some (.int .i64 100000):=aj x4 8
 have c9:w4.cell? ⟨w2.heap.size,9,none⟩= some (.int .i64 G9):=aj x4 9
 have HX4:=ab x4
 clear hb3 x3 hL4 hb4 x4 HNew HB2
 go_wp2_with fail
 refine(HTk.out w4).mono ?_
 rintro e w5 ⟨tv,rfl,ht,hb5⟩
 obtain⟨t1,t2,rfl⟩:=aH ht
 have x5:=dh HX4.out hb5
 have HL5:=ab (HL4.out.below hb5)
 have HT5:=ab ht
 clear ht hb5 HTk HX4 HL4 c0 c1 c2 c3 c4 c5 c6 c7 c8 c9
 have c0:w5.cell? ⟨w2.heap.size,0,none⟩= some (.int .i64 G0):=aj x5 0
 have c1:w5.cell? ⟨w2.heap.size,1,none⟩= some (.int .i64 G1):=aj x5 1
 have c2:w5.cell? ⟨w2.heap.size,2,none⟩= some (.int .i64 G2):=aj x5 2
 have c3:w5.cell? ⟨w2.heap.size,3,none⟩= some (.int .i64 G3):=aj x5 3
 have c4:w5.cell? ⟨w2.heap.size,4,none⟩= some (.int .i64 G4):=aj x5 4
 have c5:w5.cell? ⟨w2.heap.size,5,none⟩= some (.int .i64 G5):=aj x5 5
 have c6:w5.cell? ⟨w2.heap.size,6,none⟩= some (.int .i64 G6):=aj x5 6
 have c7:w5.cell? ⟨w2.heap.size,7,none⟩= some (.int .i64 G7):=aj x5 7
 have c8:w5.cell? ⟨w2.heap.size,8,none⟩= some (.int .i64 100000):=aj x5 8
 have c9:w5.cell? ⟨w2.heap.size,9,none⟩= some (.int .i64 G9):=aj x5 9
 clear x5
 have hb6:Below w5.heap.size w5 (w5.alloc (.cells #[.pointer (some ⟨sb,0,none⟩),.int .i64 G0,.int .i64 G1,.int .i64 G2,.int .i64 G3,.int .i64 G4,.int .i64 G5,.int .i64 G6,.int .i64 G7,.int .i64 100000,.int .i64 G9,.bool true,.int .i64 G1,.slice none 0 0,.int .i64 G3,.slice none 0 0,.slice none 0 0,.slice none 0 0,.slice none 0 0,.slice none 0 0,.int .i64 0,.slice none 0 0] 42)):=ag w5 _
 have x6:(w5.alloc (.cells #[.pointer (some ⟨sb,0,none⟩),.int .i64 G0,.int .i64 G1,.int .i64 G2,.int .i64 G3,.int .i64 G4,.int .i64 G5,.int .i64 G6,.int .i64 G7,.int .i64 100000,.int .i64 G9,.bool true,.int .i64 G1,.slice none 0 0,.int .i64 G3,.slice none 0 0,.slice none 0 0,.slice none 0 0,.slice none 0 0,.slice none 0 0,.int .i64 0,.slice none 0 0] 42)).heap[w5.heap.size]? =some (.cells #[.pointer (some ⟨sb,0,none⟩),.int .i64 G0,.int .i64 G1,.int .i64 G2,.int .i64 G3,.int .i64 G4,.int .i64 G5,.int .i64 G6,.int .i64 G7,.int .i64 100000,.int .i64 G9,.bool true,.int .i64 G1,.slice none 0 0,.int .i64 G3,.slice none 0 0,.slice none 0 0,.slice none 0 0,.slice none 0 0,.slice none 0 0,.int .i64 0,.slice none 0 0] 42 (0,0)):=heap_alloc_new w5 _
 have HX6:=ab x6
 have HH6:=ab (HHe.out (w5.alloc (.cells #[.pointer (some ⟨sb,0,none⟩),.int .i64 G0,.int .i64 G1,.int .i64 G2,.int .i64 G3,.int .i64 G4,.int .i64 G5,.int .i64 G6,.int .i64 G7,.int .i64 100000,.int .i64 G9,.bool true,.int .i64 G1,.slice none 0 0,.int .i64 G3,.slice none 0 0,.slice none 0 0,.slice none 0 0,.slice none 0 0,.slice none 0 0,.int .i64 0,.slice none 0 0] 42)) (.slice t1 9 t2) (RdB.of_own (aF HT5.out hb6) (fg _ _ _ (by decide) (by decide)) (by rw[iZ];decide)))
 have HL6:=ab (HL5.out.below hb6)
 have HS5:=ab (HL5.out.bel.size)
 clear hb6 x6 HHe HT5 HL5
 go_wp2_with fail
 refine HH6.out.mono ?_
 rintro e w7 ⟨hv,rfl,hh,hb7⟩
 obtain⟨h1,h2,rfl⟩:=aH hh
 rw[hlen]at hh⊢
 have HRc:=ab ((HL6.out.below hb7).receive HE.out 1 (RdB.of_own hh (mC (by decide) (fg _ _ _ (by decide) (by decide)) Bytes.nil (by rw[iZ];decide)) (by rw[hlen];decide)) (by rw[hlen];decide) (by decide) (by rw[hlen];decide) (by rw[hlen];decide))
 have HX7:=ab (dh HX6.out hb7)
 clear hh hb7 HH6 HL6 HX6 c0 c1 c2 c3 c4 c5 c6 c7 c8 c9
 go_wp2_with fail
 refine HRc.out.mono ?_
 rintro e w8 ⟨⟨v8,rfl,ho8⟩,hL8,hc8⟩
 obtain⟨o1,o2,rfl⟩:=HOut.out _ _ _ ho8
 have HF:=ab (HFin.out w8 sb w5.heap.size (hL8.mono (by rw[hlen];decide) (by rw[hlen];decide) (by decide)) (box_sf HX7.out (by simp[gf]) hc8) HS5.out)
 clear ho8 hL8 hc8 HRc HX7 HFin HOut HE HS5
 go_wp2_with fail
 go_ret
 exact HF.out
end Go.Proofs.YthmdjhlhodpbhaaGreatDoor
namespace Go.Proofs.YthmdjhlhodpbhaaGreatDoor
def Lett(st rd:Int)(l:List Int):Prop:=∀i:Nat,l.getD i (-1) = -1\/l.getD i (-1)=dO st (rd+i)
theorem pt(l:List Int)(p i:Nat):(dJ l p).getD i (-1)=l.getD i (-1):=by
 unfold dJ
 simp only[List.getD_eq_getElem?_getD]
 rcases Nat.lt_or_ge i l.length with h|h
 ·rw[List.getElem?_append_left h]
 ·rw[List.getElem?_append_right h,List.getElem?_eq_none h,List.getElem?_replicate]
  split<;>rfl
theorem grown_len(l:List Int)(p:Nat):(dJ l p).length=max l.length (p+1):=by
 unfold dJ
 simp only[List.length_append,List.length_replicate]
 omega
theorem set_getD(l:List Int)(p i:Nat)(x:Int)(h:p<l.length):(l.set p x).getD i (-1)=if i=p then x else l.getD i (-1):=by
 simp only[List.getD_eq_getElem?_getD]
 by_cases e:i=p
 ·subst e
  rw[if_pos rfl,List.getElem?_set_self h]
  rfl
 ·rw[if_neg e,List.getElem?_set_ne (Ne.symm e)]
theorem mG(st fr:Int)(n k:Nat)(h:k<n):(aV st fr n).getD k 0=dO st (fr+k):=by
 have hl:=cz st fr n
 rw[List.getD_eq_getElem?_getD,lGe (by omega)]
 simp[aV]
theorem kS{st rd fr:Int}{l:List Int}(h:Lett st rd l)(n:Nat):∀k,k<=n->∃m,eg l (fr-rd) (aV st fr n) k=some m/\(∀i:Nat,m.getD i (-1)=if fr-rd<=i/\(i:Int)<fr-rd+k then dO st (rd+i) else l.getD i (-1))/\l.length<=m.length/\(m.length:Int)<=max (l.length:Int) (fr-rd+k)/\(0<k->fr-rd+k<=m.length)
 |0,_=>⟨l,rfl,fun i=>by rw[if_neg (by omega)],Nat.le_refl _,by omega,fun h=>by omega⟩
 |k+1,hk=>by
  obtain⟨m,h1,h2,h3,h4,h5⟩:=kS h n k (by omega)
  rw[eg,h1]
  simp only[Option.bind_some]
  by_cases hd:fr-rd+(k:Int)<0
  ·rw[if_pos hd]
   refine⟨m,rfl,fun i=>?_,h3,by omega,fun _=>by omega⟩
   rw[h2 i,if_neg (by omega),if_neg (by omega)]
  ·rw[if_neg hd]
   obtain⟨p,hp⟩:∃p:Nat,fr-rd+(k:Int)=p:=⟨(fr-rd+(k:Int)).toNat,by omega⟩
   have hx:(aV st fr n).getD k 0=dO st (rd+p):=by
    rw[mG st fr n k (by omega),<-hp,show fr+(k:Int)=rd+(fr-rd+k) by omega]
   have hv:=h2 p
   rw[if_neg (by omega)]at hv
   have hgl:=grown_len m p
   refine⟨(dJ m p).set p (dO st (rd+p)),?_,fun i=>?_,?_,?_,fun _=>?_⟩
   ·rw[hp,Int.toNat_natCast,hx]
    unfold me
    rw[if_neg]
    rw[pt,hv]
    rcases h p with e|e
    ·rw[e];simp
    ·rw[e];simp
   ·rw[set_getD _ _ _ _ (by omega),pt,h2 i]
    by_cases e:i=p
    ·subst e
     rw[if_pos rfl,if_pos (by omega)]
    ·rw[if_neg e]
     by_cases e2:fr-rd<=(i:Int)/\(i:Int)<fr-rd+k
     ·rw[if_pos e2,if_pos (by omega)]
     ·rw[if_neg e2,if_neg (by omega)]
   ·rw[List.length_set];omega
   ·rw[List.length_set];omega
   ·rw[List.length_set];omega
structure KS where
 piece:Int
 high:Int
 fin:Int
 read:Int
 done:Bool
structure aY where
 credit:Int
 strs:List KS
 old:List (List Int)
def dk(piece:Int):KS:=⟨piece,0,-1,0,false⟩
def cn(i:Nat)(k:KS):aR:=⟨aV i k.read (k.high-k.read).toNat,k.read,k.high,k.piece,k.fin,false,k.done⟩
def cX(l:List KS):List aR:=l.mapIdx cn
def rU(p:Nat):List (Int×Int):=if p=0 then [] else [(0,(p:Int)-1)]
def bq(c:aY)(got sent waits:Int):aw:=⟨300,1,true,got,sent,0,0,rU c.old.length,c.credit,cX c.strs,waits⟩
def bN(l:List KS):Int:=(l.map (·.high)).sum
def readK(l:List KS):Int:=(l.map (·.read)).sum
structure oW(g:Cfg)(k:KS):Prop where
 read:0<=k.read/\k.read<=k.high
 piece:k.high<=k.piece/\k.piece<=k.read+g.c2
 fin:k.fin = -1\/k.fin=k.high
 done:k.done=true->k.fin=k.high/\k.read=k.high
structure KInv(g:Cfg)(Z:Int)(c:aY):Prop where
 str:∀k∈c.strs,oW g k
 sum:bN c.strs<=c.credit
 fol:c.credit<=readK c.strs+g.c1
 low:g.c1<=c.credit
 high:bN c.strs<=Z
theorem jJ(l:List KS)(i:Nat):(cX l)[i]? =(l[i]?).map (cn i):=by
 unfold cX
 rw[List.getElem?_mapIdx]
theorem gD(l:List KS):(cX l).length=l.length:=by simp[cX]
theorem nO(l:List KS)(i:Nat)(k:KS):cX (l.set i k)=(cX l).set i (cn i k):=by
 apply List.ext_getElem?
 intro j
 rw[jJ,List.getElem?_set,List.getElem?_set,gD,jJ]
 by_cases e:i=j
 ·subst e
  rw[if_pos rfl,if_pos rfl]
  by_cases h:i<l.length
  ·rw[if_pos h,if_pos h];rfl
  ·rw[if_neg h,if_neg h];rfl
 ·rw[if_neg e,if_neg e]
theorem strsK_snoc(l:List KS)(k:KS):cX (l++[k])=cX l++[cn l.length k]:=by
 simp[cX,List.mapIdx_append]
theorem vQ(i:Nat)(piece:Int):cn i (dk piece)=aU piece:=by
 simp[cn,dk,aU,aV]
theorem highS_K(l:List KS):cV (cX l)=bN l:=by
 unfold cV bN cX
 congr 1
 apply List.ext_getElem?
 intro i
 simp only[List.getElem?_map,List.getElem?_mapIdx]
 cases l[i]? <;>rfl
theorem readAll_K{l:List KS}:readAll (cX l)=readK l:=by
 unfold readAll readK cX
 congr 1
 apply List.ext_getElem?
 intro i
 simp only[List.getElem?_map,List.getElem?_mapIdx]
 cases l[i]? with
 |none=>rfl
 |some k=>simp[eZ,cn]
theorem ie{α:Type}(f:α->Int){l:List α}:∀{i:Nat} {x y:α},l[i]? =some x->((l.set i y).map f).sum=(l.map f).sum-f x+f y:=by
 induction l with
 |nil=>intro i x y h;simp at h
 |cons a t ih=>
  intro i x y h
  cases i with
  |zero=>
   simp only[List.getElem?_cons_zero,Option.some.injEq]at h
   subst h
   simp
   omega
  |succ i=>
   simp only[List.getElem?_cons_succ]at h
   have:=ih (y:=y) h
   simp only[List.set_cons_succ,List.map_cons,List.sum_cons]
   omega
theorem iY{α:Type}(f:α->Int){l:List α}(h:∀x∈l,0<=f x){x:α}(hx:x∈l):f x<=(l.map f).sum:=by
 induction l with
 |nil=>cases hx
 |cons a t ih=>
  have h0:=h a (List.mem_cons_self ..)
  have ht:0<=(t.map f).sum:=by
   clear ih hx
   have h':∀x∈t,0<=f x:=fun x hx=>h x (List.mem_cons_of_mem _ hx)
   clear h h0
   induction t with
   |nil=>simp
   |cons b u ihu=>
    have:=h' b (List.mem_cons_self ..)
    have:=ihu (fun x hx=>h' x (List.mem_cons_of_mem _ hx))
    simp only[List.map_cons,List.sum_cons]
    omega
  simp only[List.map_cons,List.sum_cons]
  rcases List.mem_cons.1 hx with rfl|hx
  ·omega
  ·have:=ih (fun x hx=>h x (List.mem_cons_of_mem _ hx)) hx
   omega
theorem fV(st fr:Int)(n i:Nat):(aV st fr n)[i]? =if i<n then some (dO st (fr+i)) else none:=by
 unfold aV
 rw[List.getElem?_map]
 by_cases h:i<n
 ·rw[if_pos h,List.getElem?_range h]
  rfl
 ·rw[if_neg h,List.getElem?_eq_none (by simpa using h)]
  rfl
theorem mH(st fr:Int)(n i:Nat):(aV st fr n).getD i (-1)=if i<n then dO st (fr+i) else -1:=by
 rw[List.getD_eq_getElem?_getD,fV]
 split<;>rfl
theorem tg(st fr:Int)(n:Nat):Lett st fr (aV st fr n):=by
 intro i
 rw[mH]
 split
 ·exact Or.inr rfl
 ·exact Or.inl rfl
theorem pT{g:Cfg}(hg:bM g){i:Nat}{k:KS}(h:oW g k){fr tt:Int}(hf:0<=fr/\fr<=tt/\fr<=k.high):
  dt g.c4 (cn i k) fr (aV i fr (tt-fr).toNat)=(0,{cn i k with bytes:=aV i k.read (max k.high tt-k.read).toNat}):=by
 have hr:=h.read
 have h4:=hg.c4
 have hl:=cz i fr (tt-fr).toNat
 have hl2:=cz i k.read (k.high-k.read).toNat
 obtain⟨m,h1,h2,h3,h4',h5⟩:=kS (st:=i) (rd:=k.read) (fr:=fr) (tg i k.read (k.high-k.read).toNat) (tt-fr).toNat (tt-fr).toNat (Nat.le_refl _)
 have hml:m.length=(max k.high tt-k.read).toNat:=by
  rw[hl2]at h3 h4'
  rcases Nat.eq_zero_or_pos (tt-fr).toNat with e|e
  ·omega
  ·have:=h5 e
   omega
 have hm:m=aV i k.read (max k.high tt-k.read).toNat:=by
  apply List.ext_getElem?
  intro q
  rw[fV]
  by_cases hq:q<(max k.high tt-k.read).toNat
  ·rw[if_pos hq]
   have e:=h2 q
   rw[List.getD_eq_getElem?_getD,lGe (by omega),mH]at e
   rw[lGe (by omega)]
   simp only[Option.getD_some]at e
   rw[e]
   by_cases c1:fr-k.read<=(q:Int)/\(q:Int)<fr-k.read+(((tt-fr).toNat:Nat):Int)
   ·rw[if_pos c1]
   ·rw[if_neg c1,if_pos (by omega)]
  ·rw[if_neg hq,List.getElem?_eq_none (by omega)]
 unfold dt
 simp only[cn,hl,h1]
 have hru:dS m m.length<=1:=by
  rw[hm]
  exact runsTo_one (iE _ _ _)
 rw[if_neg (by omega),hm]
theorem wY{g:Cfg}(hg:bM g){i:Nat}{k:KS}(h:oW g k){fr tt credit H:Int}(hf:0<=fr/\fr<=tt/\fr<=k.high)(hp:tt<=k.piece)(he:0<=k.fin->tt<=k.fin)(hc:H+(tt-k.high)<=credit)(hH:H<=credit):
  bf g.c4 credit H ⟨3,i,fr,0,aV i fr (tt-fr).toNat⟩ (cn i k)=(0,cn i {k with high:=max k.high tt}):=by
 have hr:=h.read
 have hl:=cz i fr (tt-fr).toNat
 have hee:fr+(((tt-fr).toNat:Nat):Int)=tt:=by omega
 have hbad:lI (cn i k) tt (decide ((3:Int)≠3))=false:=by
  unfold lI
  rw[show decide ((3:Int)≠3)=false from rfl,Bool.false_and,Bool.and_false,Bool.false_and,Bool.or_false,Bool.or_false]
  by_cases h0:0<=k.fin
  ·have:=he h0
   rw[decide_eq_false (p:=(cn i k).final<tt) (show ¬k.fin<tt by omega),Bool.and_false]
  ·rw[decide_eq_false (p:=0<=(cn i k).final) h0,Bool.false_and]
 have hov:gY (cn i k) tt credit H=false:=by
  unfold gY fW
  rw[decide_eq_false (p:=(cn i k).credit<tt) (show ¬k.piece<tt by omega),decide_eq_false (p:=credit<H+(if(cn i k).highest<tt then tt-(cn i k).highest else 0)) (show ¬credit<H+(if k.high<tt then tt-k.high else 0) by split<;>omega)]
  rfl
 unfold bf
 simp only[hl,hee,hbad,hov]
 rw[if_neg (by decide)]
 by_cases hd:k.done=true
 ·obtain⟨d1,d2⟩:=h.done hd
  have:=he (by omega)
  rw[if_pos (by simp[cn,hd])]
  have e:max k.high tt=k.high:=by omega
  rw[e]
 ·rw[if_neg (by simp[cn,hd]),if_neg (by decide),if_pos ⟨by decide,rfl⟩,pT hg h hf]
  simp only[ne_eq,not_true_eq_false,if_false]
  unfold fB fW
  simp only[cn,hl,hee]
  rw[if_neg (fun e=>by simp at e)]
  simp only[ne_eq,not_true_eq_false,if_false]
  congr 2
  split<;>omega
theorem deal_end{g:Cfg}(hg:bM g){i:Nat}{k:KS}(h:oW g k){credit H:Int}(hn:k.fin = -1)(hH:H<=credit):
  bf g.c4 credit H ⟨4,i,k.high,0,aV i k.high (k.high-k.high).toNat⟩ (cn i k)=(0,cn i {k with fin:=k.high}):=by
 have hr:=h.read
 have hp:=h.piece
 have hd:k.done=false:=by
  cases e:k.done with
  |false=>rfl
  |true=>have:=(h.done e).1;omega
 have hl:=cz i k.high (k.high-k.high).toNat
 have hee:k.high+(((k.high-k.high).toNat:Nat):Int)=k.high:=by omega
 have hbad:lI (cn i k) k.high (decide ((4:Int)≠3))=false:=by
  unfold lI
  rw[decide_eq_false (p:=0<=(cn i k).final) (show ¬0<=k.fin by omega),decide_eq_false (p:=k.high<(cn i k).highest) (show ¬k.high<k.high by omega),Bool.false_and,Bool.and_false]
  rfl
 have hov:gY (cn i k) k.high credit H=false:=by
  unfold gY fW
  rw[decide_eq_false (p:=(cn i k).credit<k.high) (show ¬k.piece<k.high by omega),decide_eq_false (p:=credit<H+(if(cn i k).highest<k.high then k.high-(cn i k).highest else 0)) (show ¬credit<H+(if k.high<k.high then k.high-k.high else 0) by split<;>omega)]
  rfl
 unfold bf
 simp only[hl,hee,hbad,hov]
 rw[if_neg (by decide),if_neg (by simp[cn,hd]),if_neg (by decide),if_pos ⟨by decide,rfl⟩,pT hg h ⟨by omega,by omega,by omega⟩]
 simp only[ne_eq,not_true_eq_false,if_false]
 unfold fB fW
 simp only[cn,hl,hee]
 rw[if_neg (fun e=>by simp at e)]
 have em:max k.high k.high=k.high:=by omega
 simp[em]
theorem wZ{g:Cfg}{i:Nat}{k:KS}(h:oW g k){credit H:Int}(hn:k.fin = -1)(hH:H<=credit):
  bf g.c4 credit H ⟨5,i,k.high,0,[]⟩ (cn i k)=(0,cn i {k with fin:=k.high}):=by
 have hr:=h.read
 have hp:=h.piece
 have hd:k.done=false:=by
  cases e:k.done with
  |false=>rfl
  |true=>have:=(h.done e).1;omega
 have hee:k.high+((([]:List Int).length:Nat):Int)=k.high:=by simp
 have hbad:lI (cn i k) k.high (decide ((5:Int)≠3))=false:=by
  unfold lI
  rw[decide_eq_false (p:=0<=(cn i k).final) (show ¬0<=k.fin by omega),decide_eq_false (p:=k.high<(cn i k).highest) (show ¬k.high<k.high by omega),Bool.false_and,Bool.and_false]
  rfl
 have hov:gY (cn i k) k.high credit H=false:=by
  unfold gY fW
  rw[decide_eq_false (p:=(cn i k).credit<k.high) (show ¬k.piece<k.high by omega),decide_eq_false (p:=credit<H+(if(cn i k).highest<k.high then k.high-(cn i k).highest else 0)) (show ¬credit<H+(if k.high<k.high then k.high-k.high else 0) by split<;>omega)]
  rfl
 unfold bf
 simp only[hee,hbad,hov]
 rw[if_neg (by decide),if_neg (by simp[cn,hd]),if_neg (by decide),if_neg (fun e=>e.1 rfl)]
 unfold fB fW
 simp only[cn,hee]
 have hal:wC {bytes:=aV i k.read (k.high-k.read).toNat,read:=k.read,highest:=k.high+0,credit:=k.piece,final:=k.high,reset:=false,done:=k.done}=true:=by
  unfold wC
  simp only
  rw[nD (iE _ _ _),cz,decide_eq_true (by omega),decide_eq_true (by omega)]
  rfl
 simp only[Int.lt_irrefl,if_false,ne_eq,show ¬(5:Int)=3 by decide,not_false_eq_true,if_true,hal]
 rw[if_neg (fun e=>by simp at e)]
 simp
end Go.Proofs.YthmdjhlhodpbhaaGreatDoor
