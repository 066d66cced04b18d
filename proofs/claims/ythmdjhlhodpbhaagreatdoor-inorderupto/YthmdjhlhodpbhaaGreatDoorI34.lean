/- InOrder, 34 -/
import Derived.Test.YthmdjhlhodpbhaaGreatDoorI03
import Derived.Test.YthmdjhlhodpbhaaGreatDoorI04
import Derived.Test.YthmdjhlhodpbhaaGreatDoorI21
import Derived.Test.YthmdjhlhodpbhaaGreatDoorI29
import Derived.Test.YthmdjhlhodpbhaaGreatDoorI30
import Derived.Test.YthmdjhlhodpbhaaGreatDoorI33
set_option maxHeartbeats 16000000
set_option maxRecDepth 8000
namespace Go.Proofs.YthmdjhlhodpbhaaGreatDoor
def bJ(raw:Cfg):Cfg:={cfgN raw with c8:=100000}
theorem keepC_ok(raw:Cfg):bN (bJ raw):=by
 have r0:=aS raw.c0 (n:=8) (by decide)
 have r1:=aS raw.c1 (n:=60) (by decide)
 have r2:=aS raw.c2 (n:=8+aM raw.c1 60-8+1) (by omega)
 have r3:=aS raw.c3 (n:=8) (by decide)
 have r4:=aS raw.c4 (n:=8) (by decide)
 have r5:=aS raw.c5 (n:=9) (by decide)
 have r6:=aS raw.c6 (n:=1000) (by decide)
 have r7:=aS raw.c7 (n:=1000) (by decide)
 have r9:=aS raw.c9 (n:=4294967296) (by decide)
 unfold bJ cfgN
 refine⟨?_,?_,?_,?_,?_,?_,?_,?_,?_,?_⟩<;>simp only<;>omega
theorem keepC_right(raw:Cfg):(bJ raw).right=true:=by
 have h:=keepC_ok raw
 have h0:=h.c0
 have h1:=h.c1
 have h2:=h.c2
 have h3:=h.c3
 have h4:=h.c4
 have h5:=h.c5
 have h6:=h.c6
 have h7:=h.c7
 have h8:=h.c8
 have h9:=h.c9
 unfold Cfg.right rightB rightA rightC eF
 simp only[Bool.and_eq_true,decide_eq_true_eq]
 refine⟨⟨?_,?_,?_,?_⟩,⟨?_,?_,?_,?_⟩,?_,?_⟩<;>omega
def conA(g:Cfg)(got sent:Int)(runs:List (Int×Int))(l:List aQ):au:=⟨300,1,true,got,sent,0,0,runs,g.c1,l,1⟩
def srvA(g:Cfg)(c:au):ax:=⟨g,0,[c],1⟩
theorem tok_time(k:Int):timeL (bD k 1 0)=0:=by simp[timeL,bD,frontL,bX]
theorem tok_len(k a t:Int):(bD k a t).length=9:=by simp[bD,frontL,bX]
theorem hello300{g:Cfg}(hg:bN g)(h8:g.c8=100000):∃n sent B,bj (cK g) 1 (dN 300 (bD g.c9 1 0) [])=(srvA g (conA g n sent [] (List.replicate g.c3.toNat (aX g.c2))),[(1,B)]):=by
 have h0:=hg.c0
 have h1:=hg.c1
 have h3:=hg.c3
 obtain⟨m,hm⟩:∃m:Nat,(dN 300 (bD g.c9 1 0) []).length=m+1:=⟨(dN 300 (bD g.c9 1 0) []).length-1,by simp[dN]⟩
 have hgood:goodS g 0 1 (bD g.c9 1 0)=true:=by
  unfold goodS
  rw[tok_time,tok_len]
  simp
 have hfull:fz (cK g)=false:=by
  have q1:¬(cK g).c.c0<=((cK g).conns.length:Int):=by simp[cK];omega
  have q2:¬(cK g).c.c8<memS (cK g)+dS (cK g).c:=by simp[cK,memS,dS];omega
  unfold fz
  rw[decide_eq_false q1,decide_eq_false q2]
  rfl
 refine⟨((m+1:Nat):Int),((cd 300 (bh g (bA ⟨g,0,[],0⟩ 300 1 ((m+1:Nat):Int) true))).length:Int),cd 300 (bh g (bA ⟨g,0,[],0⟩ 300 1 ((m+1:Nat):Int) true)),?_⟩
 rw[show cK g =⟨g,0,[],0⟩ from rfl]
 unfold bj
 rw[if_neg (by decide),dgram_hello (by decide) (by rw[tok_len];decide)]
 simp only[if_true,hm]
 unfold fZ
 simp only[eI,List.findIdx?_nil]
 rw[if_pos (by rw[tok_len];decide),if_pos hgood,if_neg (by rw[show fz ⟨g,0,[],0⟩= false from hfull];decide)]
 unfold openP cU
 simp only[if_true]
 have hn:∀f,bu (bA ⟨g,0,[],0⟩ 300 1 ((m+1:Nat):Int) true) f = {bA ⟨g,0,[],0⟩ 300 1 ((m+1:Nat):Int) true with sent:=(cd 300 f).length}:=by
  intro f
  unfold bu
  rw[if_pos (by simp[fD,bA,fo])]
  simp[bA,fo]
 rw[hn]
 unfold cf
 rw[if_pos (by simp[fD,bA,fo])]
 simp[provS,provC,bA,fo,growS,srvA,conA]
theorem conFrames_step{g:Cfg}{lw:Int}{c:au}{f:dM}{size:Nat}{b:List Int}{m:Nat}(hb:b≠[])(hf:bS b=some (f,size))(h6:f.type≠6):aJ g lw c b (m+1)=if(aZ g lw c f).1≠0 then⟨c,some (aZ g lw c f).1,true⟩ else aJ g lw (aZ g lw c f).2 (b.drop size) m:=by
 conv=>lhs;unfold aJ
 rw[if_neg hb,hf]
 simp only
 rw[if_neg h6]
theorem leadS_all{b:List Int}(h:∀x∈b,0<=x):bz b=b.length:=by
 unfold bz
 induction b with
 |nil=>rfl
 |cons a t ih=>
  have h0:=h a (List.mem_cons_self ..)
  rw[List.takeWhile_cons,if_pos (by simpa using h0),List.length_cons,ih fun x hx=>h x (List.mem_cons_of_mem _ hx),List.length_cons]
theorem runsTo_one{b:List Int}(h:∀x∈b,0<=x):dQ b b.length<=1:=by
 rw[<-de b 0]
 have hl:=leadS_all h
 rcases Nat.eq_zero_or_pos b.length with h0|h0
 ·obtain rfl:=List.eq_nil_of_length_eq_zero h0
  simp[aU]
 ·rw[runsOf_lead b 0 (by omega),hl]
  simp[aU]
theorem fX(st fr:Int)(n:Nat):∀x∈aP st fr n,0<=x:=by
 intro x hx
 obtain⟨i,_,rfl⟩:=List.mem_map.1 hx
 exact letterN_byte.1
theorem srvA_found(g:Cfg)(c:au)(h:c.cid=300):eI (srvA g c).conns 300=some 0:=by
 simp[eI,srvA,h]
end Go.Proofs.YthmdjhlhodpbhaaGreatDoor
namespace Go.Proofs.YthmdjhlhodpbhaaGreatDoor
open Go.RowKit
theorem OutsAt.sf{w0 w w':World}{b:Nat}{v:Value}{o:List (Int×List Int)}(h:OutsAt w b v o)(hc:Chg (SF w0 w) w w'):OutsAt w' b v o:=
 h.chg hc (fun k cur fr hk=>SF.not hk (by simp[SrvT])) (fun k cur fr hk=>SF.not hk (by simp[SrvT]))
theorem box_sf{w0 w w':World}{k:Nat}{cur:Array Value}{T:TypeId}{fr:Nat×Nat}(h:w.heap[k]? =some (.cells cur T fr))(hT:¬SrvT T)(hc:Chg (SF w0 w) w w'):w'.heap[k]? =some (.cells cur T fr):=
 (hc.block k (Array.getElem?_eq_some_iff.1 h).1 (SF.not h hT)).trans h
theorem eE{w w':World}{k:Nat}{o:Obj}(h:w.heap[k]? =some o)(hb:Below w.heap.size w w'):w'.heap[k]? =some o:=
 (hb.block k (Array.getElem?_eq_some_iff.1 h).1).trans h
theorem OutsAt.below{w w':World}{b:Nat}{v:Value}{o:List (Int×List Int)}(h:OutsAt w b v o)(hb:Below w.heap.size w w'):OutsAt w' b v o:=
 h.chg (F:=fun _=>False) (Chg.of_below hb) (fun _ _ _ _ h=>h) (fun _ _ _ _ h=>h)
theorem outs_one{w:World}{base:Nat}{v:Value}{a:Int}{B:List Int}(h:OutsAt w base v [(a,B)]):∃g cap bv,v=.slice (some ⟨g,0,none⟩) 1 cap/\w.cell? ⟨g,0,none⟩= some (.int .i64 a)/\w.cell? ⟨g,1,none⟩= some bv/\w.ownsRow base 5 1 bv B.length (U8 B):=by
 obtain⟨out,h1,h2⟩:=h
 have hl:out.length=1:=h2.1
 match out,hl with
 |[x],_=>
  obtain⟨e1,e2⟩:=h2.2.1 0 x (a,B) rfl rfl
  rcases h1.2 with⟨_,e⟩|⟨g,cap,cur,hv,hg,hb,hc⟩
  ·simp at e
  ·subst hv
   have c0:=h1.cellAt 0 (by simp)
   have c1:=h1.cellAt 1 (by simp)
   refine⟨g,cap,x.2,rfl,?_,?_,e2⟩
   ·rw[c0,show a=x.1 from e1.symm]
    rfl
   ·rw[c1]
    rfl
def awakeG:Cfg:=⟨1,16,8,1,2,0,10,5,1000,0⟩
def aw1:ax×List (Int×List Int):=bj (cK awakeG) 7 (dN 5 (bD 0 7 3) [])
def aw2:Int×Int×ax:=dG aw1.1
def aw3:ax×List (Int×List Int):=bj aw2.2.2 7 (bL 5 1 [4,0,2,1,99])
def aw4:ax×List (Int×List Int):=bj aw3.1 7 (bL 5 0 [3,0,0,2,97,98])
def aw5:Int×GotS×ax×List (Int×List Int):=cL aw4.1 5 0 9
theorem aw1_out:aw1.2=[(7,[4,5,20,131,19,76,254,16,8,1])]:=by kernel_rfl
theorem aw_rest:(aw2.1,aw2.2.1,aw5.1,aw5.2.1.bytes,aw5.2.1.fin,aw5.2.1.rst)=(5,0,0,[97,98,99],true,false):=by kernel_rfl
theorem aw_right:awakeG.right=true:=by kernel_rfl
theorem aw_tok:tokE 1 16 8 1 2 0 10 5 1000 0 7 3=0:=by kernel_rfl
theorem aw_hello:(dN 5 (bD 0 7 3) []).length=12:=by kernel_rfl
theorem aw_abc:strOfNums [97,98,99] = {data:=#[97,98,99]}:=by kernel_rfl
theorem kawake_any(w:World)(hE:Env w):Calls Tryz.prog 24 #[] w fun e w'=>e=.returned (.bool true)/\Below w.heap.size w w':=by
 have hb0:Below w.heap.size w (w.alloc (.cells #[.int .i64 1,.int .i64 16,.int .i64 8,.int .i64 1,.int .i64 2,.int .i64 0,.int .i64 10,.int .i64 5,.int .i64 1000,.int .i64 0] 26)):=af w _
 have HX:Hid ((w.alloc (.cells #[.int .i64 1,.int .i64 16,.int .i64 8,.int .i64 1,.int .i64 2,.int .i64 0,.int .i64 10,.int .i64 5,.int .i64 1000,.int .i64 0] 26)).heap[w.heap.size]? =some (.cells #[.int .i64 1,.int .i64 16,.int .i64 8,.int .i64 1,.int .i64 2,.int .i64 0,.int .i64 10,.int .i64 5,.int .i64 1000,.int .i64 0] 26 (0,0))):=heap_alloc_new w _
 have HNew:=ab (live_new w awakeG aw_right _ hb0)
 have HTk:=ab (fun W=>Token_any 1 16 8 1 2 0 10 5 1000 0 7 3 W)
 rw[aw_tok]at HTk
 have E0:∀(sb:Nat) (W:World),(binOp .eql 37 (.pointer (some ⟨sb,0,none⟩)) (.pointer none)).run Tryz.prog W=.ok (.bool false) W:=fun sb W=>by kernel_rfl
 have HE:=ab hE
 clear hE hb0
 go_enter Tryz.func24,Tryz.ntmps24
 go_wp2_with fail
 refine HNew.out.mono ?_
 rintro e w2 ⟨⟨sb,rfl,hL⟩,hb2⟩
 have HL:=ab hL
 have x2:=eE HX.out hb2
 have HX2:=ab x2
 clear hL hb2 HX HNew
 have c0:w2.cell? ⟨w.heap.size,0,none⟩= some (.int .i64 1):=ai x2 0
 have c1:w2.cell? ⟨w.heap.size,1,none⟩= some (.int .i64 16):=ai x2 1
 have c2:w2.cell? ⟨w.heap.size,2,none⟩= some (.int .i64 8):=ai x2 2
 have c3:w2.cell? ⟨w.heap.size,3,none⟩= some (.int .i64 1):=ai x2 3
 have c4:w2.cell? ⟨w.heap.size,4,none⟩= some (.int .i64 2):=ai x2 4
 have c5:w2.cell? ⟨w.heap.size,5,none⟩= some (.int .i64 0):=ai x2 5
 have c6:w2.cell? ⟨w.heap.size,6,none⟩= some (.int .i64 10):=ai x2 6
 have c7:w2.cell? ⟨w.heap.size,7,none⟩= some (.int .i64 5):=ai x2 7
 have c8:w2.cell? ⟨w.heap.size,8,none⟩= some (.int .i64 1000):=ai x2 8
 have c9:w2.cell? ⟨w.heap.size,9,none⟩= some (.int .i64 0):=ai x2 9
 clear x2
 go_wp2_with fail
 refine(HTk.out w2).mono ?_
 rintro e w3 ⟨tv,rfl,ht,hb3⟩
 obtain⟨t1,t2,rfl⟩:=aF ht
 rw[show tokM 1 16 8 1 2 0 10 5 1000 0 7 3=bD 0 7 3 by unfold tokM;rw[aw_tok];rfl]at ht⊢
 rw[show(bD 0 7 3).length=9 by kernel_rfl]at ht⊢
 have HHe:=ab (khello_any 5 (bD 0 7 3) [] (.slice t1 9 t2) (.slice none 0 0) w3 (by decide) (RdB.of_own ht (eY _ _ _ (by decide) (by decide)) (by decide)) (RdB.nil _) (by decide) (by decide))
 have HL3:=ab (HL.out.below hb3)
 clear c0 c1 c2 c3 c4 c5 c6 c7 c8 c9 ht hb3 HTk HX2 HL
 go_wp2_with fail
 refine HHe.out.mono ?_
 rintro e w4 ⟨hv,rfl,ho,hb4⟩
 obtain⟨h1,h2,rfl⟩:=aF ho
 rw[aw_hello]at ho⊢
 have HRc:=ab ((HL3.out.below hb4).receive HE.out 7 (RdB.of_own ho (helloL_bytes (by decide) (eY _ _ _ (by decide) (by decide)) Bytes.nil (by decide)) (by decide)) (by decide) (by decide) (by decide) (by decide))
 clear ho hb4 HHe HL3
 go_wp2_with fail
 refine HRc.out.mono ?_
 rintro e w5 ⟨⟨v5,rfl,ho5⟩,hL5,_⟩
 have HO5:Hid (OutsAt w5 w4.heap.size v5 [(7,[4,5,20,131,19,76,254,16,8,1])]):=by
  show OutsAt _ _ _ _
  rw[<-aw1_out]
  exact ho5
 obtain⟨l1,l2,rfl⟩:=HO5.out.form
 rw[show([(7,[4,5,20,131,19,76,254,16,8,1])]:List (Int×List Int)).length=1 from rfl]at HO5
 have HL5:Hid (Live w 20 1000 10 w5 sb aw1.1):=hL5.mono (by decide) (by decide) (by decide)
 clear ho5 hL5 HRc
 have hrest:=aw_rest
 simp only[Prod.mk.injEq]at hrest
 obtain⟨r1,r2,r3,r4,r5,r6⟩:=hrest
 have HAc:=ab HL5.out.accept
 rw[show(dG aw1.1).1=5 from r1,show(dG aw1.1).2.1=0 from r2]at HAc
 have HR5:=ab (And.intro r3 (And.intro r4 (And.intro r5 r6)))
 clear r1 r2 r3 r4 r5 r6
 go_wp2_with fail
 refine HAc.out.mono ?_
 rintro e w6 ⟨rfl,hL6,hc6⟩
 have HL6:Hid (Live w 20 1000 10 w6 sb aw2.2.2):=hL6
 have HO6:=ab (HO5.out.sf hc6)
 clear hL6 hc6 HO5 HL5 HAc
 have hb7:Below w6.heap.size w6 (w6.alloc (.cells #[.int .u8 4,.int .u8 0,.int .u8 2,.int .u8 1,.int .u8 99] 5)):=af w6 _
 have HD1:=ab (kdata_any 5 1 [4,0,2,1,99] (.slice (some ⟨w6.heap.size,0,none⟩) 5 5) (w6.alloc (.cells #[.int .u8 4,.int .u8 0,.int .u8 2,.int .u8 1,.int .u8 99] 5)) (by decide) (by decide) (RdB.lit w6 [4,0,2,1,99] (by unfold Bytes;decide) (by decide) (by decide)) (by decide))
 have HL7:=ab (HL6.out.below hb7)
 have HO7:=ab (HO6.out.below hb7)
 clear hb7 HL6 HO6
 go_wp2_with fail
 refine HD1.out.mono ?_
 rintro e w8 ⟨dv,rfl,hd,hb8⟩
 obtain⟨d1,d2,rfl⟩:=aF hd
 rw[show(bL 5 1 [4,0,2,1,99]).length=8 by kernel_rfl]at hd⊢
 have HRc:=ab ((HL7.out.below hb8).receive HE.out 7 (RdB.of_own hd (dataL_bytes (by decide) (by decide) (by unfold Bytes;decide)) (by decide)) (by decide) (by decide) (by decide) (by decide))
 have HO8:=ab (HO7.out.below hb8)
 clear hd hb8 HD1 HL7 HO7
 go_wp2_with fail
 refine HRc.out.mono ?_
 rintro e w9 ⟨⟨v9,rfl,_⟩,hL9,hc9⟩
 have HL9:Hid (Live w 50 2000 20 w9 sb aw3.1):=hL9.mono (by decide) (by decide) (by decide)
 have HO9:=ab (HO8.out.sf hc9)
 clear hL9 hc9 HRc HO8
 have hb10:Below w9.heap.size w9 (w9.alloc (.cells #[.int .u8 3,.int .u8 0,.int .u8 0,.int .u8 2,.int .u8 97,.int .u8 98] 5)):=af w9 _
 have HD2:=ab (kdata_any 5 0 [3,0,0,2,97,98] (.slice (some ⟨w9.heap.size,0,none⟩) 6 6) (w9.alloc (.cells #[.int .u8 3,.int .u8 0,.int .u8 0,.int .u8 2,.int .u8 97,.int .u8 98] 5)) (by decide) (by decide) (RdB.lit w9 [3,0,0,2,97,98] (by unfold Bytes;decide) (by decide) (by decide)) (by decide))
 have HL10:=ab (HL9.out.below hb10)
 have HO10:=ab (HO9.out.below hb10)
 clear hb10 HL9 HO9
 go_wp2_with fail
 refine HD2.out.mono ?_
 rintro e w11 ⟨dv,rfl,hd,hb11⟩
 obtain⟨d3,d4,rfl⟩:=aF hd
 rw[show(bL 5 0 [3,0,0,2,97,98]).length=9 by kernel_rfl]at hd⊢
 have HRc:=ab ((HL10.out.below hb11).receive HE.out 7 (RdB.of_own hd (dataL_bytes (by decide) (by decide) (by unfold Bytes;decide)) (by decide)) (by decide) (by decide) (by decide) (by decide))
 have HO11:=ab (HO10.out.below hb11)
 clear hd hb11 HD2 HL10 HO10
 go_wp2_with fail
 refine HRc.out.mono ?_
 rintro e w12 ⟨⟨v12,rfl,_⟩,hL12,hc12⟩
 have HL12:Hid (Live w 100 3000 30 w12 sb aw4.1):=hL12.mono (by decide) (by decide) (by decide)
 have HO12:=ab (HO11.out.sf hc12)
 clear hL12 hc12 HRc HO11
 have HRd:=ab (HL12.out.read 5 0 9 (by decide) (by decide) (by decide) (by decide))
 clear HL12
 go_wp2_with fail
 refine HRd.out.mono ?_
 rintro e w13 ⟨⟨gv,v13,rfl,hg,ho13⟩,hL13,hc13⟩
 have HB13:=ab hL13.bel
 have HO13:=ab (HO12.out.sf hc13)
 obtain⟨g1,g2,rfl⟩:=aF hg
 obtain⟨s1,s2,rfl⟩:=ho13.form
 have q1:(cL aw4.1 5 0 9).1=0:=HR5.out.1
 have q2:(cL aw4.1 5 0 9).2.1.bytes=[97,98,99]:=HR5.out.2.1
 have q3:(cL aw4.1 5 0 9).2.1.fin=true:=HR5.out.2.2.1
 have q4:(cL aw4.1 5 0 9).2.1.rst=false:=HR5.out.2.2.2
 rw[q2]at hg
 rw[q1,q2,q3,q4]
 generalize (cL aw4.1 5 0 9).2.2.2.length=nl
 have HG:=ab hg
 clear hg ho13 hL13 hc13 HRd HO12 q1 q2 q3 q4 HR5
 rw[show([97,98,99]:List Int).length=3 from rfl]at HG⊢
 have hb14:Below w13.heap.size w13 (w13.alloc (.cells #[.slice g1 3 g2,.bool true,.bool false] 46)):=af w13 _
 obtain⟨ga,gc,bv,e1,k0,k1,hbv⟩:=outs_one (HO13.out.below hb14)
 obtain⟨bb,bc,e2,_,_,_⟩:=cV hbv (by decide)
 have m0:=dF (e2▸hbv) 0 (by decide)
 have m2:=dF (e2▸hbv) 2 (by decide)
 simp only[Value.slice.injEq]at e1
 obtain⟨rfl,_,rfl⟩:=e1
 subst e2
 have kc:=conv_own (l:=[97,98,99]) (aD HG.out hb14)
 rw[aw_abc]at kc
 have HBf:=ab (ag HB13.out hb14)
 clear HG HO13 hbv hb14 HB13
 go_wp2_with fail
 go_ret
 exact⟨rfl,HBf.out⟩
def clientC(sb:Nat)(g:Cfg):Array Value:=#[.pointer (some ⟨sb,0,none⟩),.int .i64 g.c0,.int .i64 g.c1,.int .i64 g.c2,.int .i64 g.c3,.int .i64 g.c4,.int .i64 g.c5,.int .i64 g.c6,.int .i64 g.c7,.int .i64 g.c8,.int .i64 g.c9,.bool true,.int .i64 g.c1,.slice none 0 0,.int .i64 g.c3,.slice none 0 0,.slice none 0 0,.slice none 0 0,.slice none 0 0,.slice none 0 0,.int .i64 0,.slice none 0 0]
theorem right_tok{g:Cfg}(h:g.right=true)(a t:Int)(ha:eF a 0 255=true)(ht:eF t 0 4294967295=true):tokE g.c0 g.c1 g.c2 g.c3 g.c4 g.c5 g.c6 g.c7 g.c8 g.c9 a t=0:=by
 have hc:cfgE g.c0 g.c1 g.c2 g.c3 g.c4 g.c5 g.c6 g.c7 g.c8 g.c9=0:=by
  unfold cfgE
  rw[if_pos (show rightB g.c0 g.c1 g.c2 g.c3 g.c4 g.c5 g.c6 g.c7 g.c8 g.c9=true from h)]
 unfold tokE orE
 rw[hc,argE_yes ha,argE_yes ht]
 rfl
structure ConnOut(w:World)(raw:Cfg)(e:Ending)(w':World):Prop where
 ex:∃sb xb got sent,e=.returned (.pointer (some ⟨xb,0,none⟩))/\Live w 100 1000 100 w' sb (srvA (bJ raw) (conA (bJ raw) got sent [] (List.replicate (bJ raw).c3.toNat (aX (bJ raw).c2))))/\w'.heap[xb]? =some (.cells (clientC sb (bJ raw)) 42 (0,0))/\w.heap.size<=xb
 bel:Below w.heap.size w w'
theorem kconnected_any(raw:Cfg)(w:World)(hE:Env w)(hraw:CfgRaw raw):Calls Tryz.prog 13 #[.agg (cfgC raw)] w fun e w'=>ConnOut w raw e w':=by
 have hb0:Below w.heap.size w (w.alloc (.cells (cfgC raw) 26)):=af w _
 have HX:Hid ((w.alloc (.cells (cfgC raw) 26)).heap[w.heap.size]? =some (.cells (cfgC raw) 26 (0,0))):=heap_alloc_new w _
 have HAw:=ab (kawake_any _ (hE.below hb0))
 have HCf:=ab (fun W=>kconfig_any raw W hraw)
 have hright:=keepC_right raw
 have hok:=keepC_ok raw
 have h8:(bJ raw).c8=100000:=rfl
 obtain⟨got,sent,B,h300⟩:=hello300 hok h8
 have HNew:=ab (fun W (hW:Below w.heap.size w W)=>live_new w (bJ raw) hright W hW)
 have HTk:=ab (fun W=>Token_any (bJ raw).c0 (bJ raw).c1 (bJ raw).c2 (bJ raw).c3 (bJ raw).c4 (bJ raw).c5 (bJ raw).c6 (bJ raw).c7 (bJ raw).c8 (bJ raw).c9 1 0 W)
 have htk:=right_tok hright 1 0 (by decide) (by decide)
 have htm:tokM (bJ raw).c0 (bJ raw).c1 (bJ raw).c2 (bJ raw).c3 (bJ raw).c4 (bJ raw).c5 (bJ raw).c6 (bJ raw).c7 (bJ raw).c8 (bJ raw).c9 1 0=bD (bJ raw).c9 1 0:=by
  unfold tokM
  rw[htk]
  rfl
 rw[htk,htm,tok_len]at HTk
 have E0:∀(sb:Nat) (W:World),(binOp .eql 37 (.pointer (some ⟨sb,0,none⟩)) (.pointer none)).run Tryz.prog W=.ok (.bool false) W:=fun sb W=>by kernel_rfl
 have HE:=ab hE
 have HB0:=ab hb0
 have hcfg:cfgC (cfgN raw)=#[.int .i64 (bJ raw).c0,.int .i64 (bJ raw).c1,.int .i64 (bJ raw).c2,.int .i64 (bJ raw).c3,.int .i64 (bJ raw).c4,.int .i64 (bJ raw).c5,.int .i64 (bJ raw).c6,.int .i64 (bJ raw).c7,.int .i64 (cfgN raw).c8,.int .i64 (bJ raw).c9]:=rfl
 rw[hcfg]at HCf
 have hlen:(dN 300 (bD (bJ raw).c9 1 0) []).length=13:=by simp[dN,tok_len,aw]
 have H300:=ab h300
 generalize hk8:(cfgN raw).c8=k8 at *
 clear hk8
 have HFin:Hid (∀(w':World) (sb xb:Nat),Live w 100 1000 100 w' sb (bj (cK (bJ raw)) 1 (dN 300 (bD (bJ raw).c9 1 0) [])).1->w'.heap[xb]? =some (.cells (clientC sb (bJ raw)) 42 (0,0))->w.heap.size<=xb->ConnOut w raw (.returned (.pointer (some ⟨xb,0,none⟩))) w'):=by
  intro w' sb xb hL hx hxb
  rw[H300.out]at hL
  exact⟨⟨sb,xb,got,sent,rfl,hL,hx,hxb⟩,hL.bel⟩
 have HOut:Hid (∀(w':World) (b:Nat) (v:Value),OutsAt w' b v (bj (cK (bJ raw)) 1 (dN 300 (bD (bJ raw).c9 1 0) [])).2->∃ao cap,v=.slice ao 1 cap):=by
  intro w' b v ho
  rw[H300.out]at ho
  exact ho.form
 unfold clientC at HFin
 generalize hG:bJ raw=G at *
 obtain⟨G0,G1,G2,G3,G4,G5,G6,G7,G8,G9⟩:=G
 simp only at *
 subst h8
 have HHe:=ab (fun W (tv:Value) (ht:RdB W tv (bD G9 1 0))=>khello_any 300 (bD G9 1 0) [] tv (.slice none 0 0) W (by decide) ht (RdB.nil _) (by rw[tok_len];decide) (by decide))
 clear hE hb0 hright hok h300 htk htm hcfg H300 hG hraw
 unfold cfgC at HX HCf⊢
 go_enter Tryz.func13,Tryz.ntmps13
 go_wp2_with fail
 refine HAw.out.mono ?_
 rintro e w1 ⟨rfl,hb1⟩
 have x1:=eE HX.out hb1
 have r0:w1.cell? ⟨w.heap.size,0,none⟩= some (.int .i64 raw.c0):=ai x1 0
 have r1:w1.cell? ⟨w.heap.size,1,none⟩= some (.int .i64 raw.c1):=ai x1 1
 have r2:w1.cell? ⟨w.heap.size,2,none⟩= some (.int .i64 raw.c2):=ai x1 2
 have r3:w1.cell? ⟨w.heap.size,3,none⟩= some (.int .i64 raw.c3):=ai x1 3
 have r4:w1.cell? ⟨w.heap.size,4,none⟩= some (.int .i64 raw.c4):=ai x1 4
 have r5:w1.cell? ⟨w.heap.size,5,none⟩= some (.int .i64 raw.c5):=ai x1 5
 have r6:w1.cell? ⟨w.heap.size,6,none⟩= some (.int .i64 raw.c6):=ai x1 6
 have r7:w1.cell? ⟨w.heap.size,7,none⟩= some (.int .i64 raw.c7):=ai x1 7
 have r8:w1.cell? ⟨w.heap.size,8,none⟩= some (.int .i64 raw.c8):=ai x1 8
 have r9:w1.cell? ⟨w.heap.size,9,none⟩= some (.int .i64 raw.c9):=ai x1 9
 have HB1:=ab (ag HB0.out hb1)
 clear x1 hb1 HB0 HX HAw
 go_wp2_with fail
 refine(HCf.out w1).mono ?_
 rintro e w2 ⟨rfl,hb2⟩
 have HB2:=ab (ag HB1.out hb2)
 clear hb2 HB1 HCf r0 r1 r2 r3 r4 r5 r6 r7 r8 r9
 go_wp2_with fail
 have hb3:Below w2.heap.size w2 (w2.alloc (.cells #[.int .i64 G0,.int .i64 G1,.int .i64 G2,.int .i64 G3,.int .i64 G4,.int .i64 G5,.int .i64 G6,.int .i64 G7,.int .i64 100000,.int .i64 G9] 26)):=af w2 _
 have x3:(w2.alloc (.cells #[.int .i64 G0,.int .i64 G1,.int .i64 G2,.int .i64 G3,.int .i64 G4,.int .i64 G5,.int .i64 G6,.int .i64 G7,.int .i64 100000,.int .i64 G9] 26)).heap[w2.heap.size]? =some (.cells #[.int .i64 G0,.int .i64 G1,.int .i64 G2,.int .i64 G3,.int .i64 G4,.int .i64 G5,.int .i64 G6,.int .i64 G7,.int .i64 100000,.int .i64 G9] 26 (0,0)):=heap_alloc_new w2 _
 refine(HNew.out _ (ag HB2.out hb3)).mono ?_
 rintro e w4 ⟨⟨sb,rfl,hL4⟩,hb4⟩
 have x4:=eE x3 hb4
 have HL4:=ab hL4
 have c0:w4.cell? ⟨w2.heap.size,0,none⟩= some (.int .i64 G0):=ai x4 0
 have c1:w4.cell? ⟨w2.heap.size,1,none⟩= some (.int .i64 G1):=ai x4 1
 have c2:w4.cell? ⟨w2.heap.size,2,none⟩= some (.int .i64 G2):=ai x4 2
 have c3:w4.cell? ⟨w2.heap.size,3,none⟩= some (.int .i64 G3):=ai x4 3
 have c4:w4.cell? ⟨w2.heap.size,4,none⟩= some (.int .i64 G4):=ai x4 4
 have c5:w4.cell? ⟨w2.heap.size,5,none⟩= some (.int .i64 G5):=ai x4 5
 have c6:w4.cell? ⟨w2.heap.size,6,none⟩= some (.int .i64 G6):=ai x4 6
 have c7:w4.cell? ⟨w2.heap.size,7,none⟩= some (.int .i64 G7):=ai x4 7
 have c8:w4.cell? ⟨w2.heap.size,8,none⟩= some (.int .i64 100000):=ai x4 8
 have c9:w4.cell? ⟨w2.heap.size,9,none⟩= some (.int .i64 G9):=ai x4 9
 have HX4:=ab x4
 clear hb3 x3 hL4 hb4 x4 HNew HB2
 go_wp2_with fail
 refine(HTk.out w4).mono ?_
 rintro e w5 ⟨tv,rfl,ht,hb5⟩
 obtain⟨t1,t2,rfl⟩:=aF ht
 have x5:=eE HX4.out hb5
 have HL5:=ab (HL4.out.below hb5)
 have HT5:=ab ht
 clear ht hb5 HTk HX4 HL4 c0 c1 c2 c3 c4 c5 c6 c7 c8 c9
 have c0:w5.cell? ⟨w2.heap.size,0,none⟩= some (.int .i64 G0):=ai x5 0
 have c1:w5.cell? ⟨w2.heap.size,1,none⟩= some (.int .i64 G1):=ai x5 1
 have c2:w5.cell? ⟨w2.heap.size,2,none⟩= some (.int .i64 G2):=ai x5 2
 have c3:w5.cell? ⟨w2.heap.size,3,none⟩= some (.int .i64 G3):=ai x5 3
 have c4:w5.cell? ⟨w2.heap.size,4,none⟩= some (.int .i64 G4):=ai x5 4
 have c5:w5.cell? ⟨w2.heap.size,5,none⟩= some (.int .i64 G5):=ai x5 5
 have c6:w5.cell? ⟨w2.heap.size,6,none⟩= some (.int .i64 G6):=ai x5 6
 have c7:w5.cell? ⟨w2.heap.size,7,none⟩= some (.int .i64 G7):=ai x5 7
 have c8:w5.cell? ⟨w2.heap.size,8,none⟩= some (.int .i64 100000):=ai x5 8
 have c9:w5.cell? ⟨w2.heap.size,9,none⟩= some (.int .i64 G9):=ai x5 9
 clear x5
 have hb6:Below w5.heap.size w5 (w5.alloc (.cells #[.pointer (some ⟨sb,0,none⟩),.int .i64 G0,.int .i64 G1,.int .i64 G2,.int .i64 G3,.int .i64 G4,.int .i64 G5,.int .i64 G6,.int .i64 G7,.int .i64 100000,.int .i64 G9,.bool true,.int .i64 G1,.slice none 0 0,.int .i64 G3,.slice none 0 0,.slice none 0 0,.slice none 0 0,.slice none 0 0,.slice none 0 0,.int .i64 0,.slice none 0 0] 42)):=af w5 _
 have x6:(w5.alloc (.cells #[.pointer (some ⟨sb,0,none⟩),.int .i64 G0,.int .i64 G1,.int .i64 G2,.int .i64 G3,.int .i64 G4,.int .i64 G5,.int .i64 G6,.int .i64 G7,.int .i64 100000,.int .i64 G9,.bool true,.int .i64 G1,.slice none 0 0,.int .i64 G3,.slice none 0 0,.slice none 0 0,.slice none 0 0,.slice none 0 0,.slice none 0 0,.int .i64 0,.slice none 0 0] 42)).heap[w5.heap.size]? =some (.cells #[.pointer (some ⟨sb,0,none⟩),.int .i64 G0,.int .i64 G1,.int .i64 G2,.int .i64 G3,.int .i64 G4,.int .i64 G5,.int .i64 G6,.int .i64 G7,.int .i64 100000,.int .i64 G9,.bool true,.int .i64 G1,.slice none 0 0,.int .i64 G3,.slice none 0 0,.slice none 0 0,.slice none 0 0,.slice none 0 0,.slice none 0 0,.int .i64 0,.slice none 0 0] 42 (0,0)):=heap_alloc_new w5 _
 have HX6:=ab x6
 have HH6:=ab (HHe.out (w5.alloc (.cells #[.pointer (some ⟨sb,0,none⟩),.int .i64 G0,.int .i64 G1,.int .i64 G2,.int .i64 G3,.int .i64 G4,.int .i64 G5,.int .i64 G6,.int .i64 G7,.int .i64 100000,.int .i64 G9,.bool true,.int .i64 G1,.slice none 0 0,.int .i64 G3,.slice none 0 0,.slice none 0 0,.slice none 0 0,.slice none 0 0,.slice none 0 0,.int .i64 0,.slice none 0 0] 42)) (.slice t1 9 t2) (RdB.of_own (aD HT5.out hb6) (eY _ _ _ (by decide) (by decide)) (by rw[tok_len];decide)))
 have HL6:=ab (HL5.out.below hb6)
 have HS5:=ab (HL5.out.bel.size)
 clear hb6 x6 HHe HT5 HL5
 go_wp2_with fail
 refine HH6.out.mono ?_
 rintro e w7 ⟨hv,rfl,hh,hb7⟩
 obtain⟨h1,h2,rfl⟩:=aF hh
 rw[hlen]at hh⊢
 have HRc:=ab ((HL6.out.below hb7).receive HE.out 1 (RdB.of_own hh (helloL_bytes (by decide) (eY _ _ _ (by decide) (by decide)) Bytes.nil (by rw[tok_len];decide)) (by rw[hlen];decide)) (by rw[hlen];decide) (by decide) (by rw[hlen];decide) (by rw[hlen];decide))
 have HX7:=ab (eE HX6.out hb7)
 clear hh hb7 HH6 HL6 HX6 c0 c1 c2 c3 c4 c5 c6 c7 c8 c9
 go_wp2_with fail
 refine HRc.out.mono ?_
 rintro e w8 ⟨⟨v8,rfl,ho8⟩,hL8,hc8⟩
 obtain⟨o1,o2,rfl⟩:=HOut.out _ _ _ ho8
 have HF:=ab (HFin.out w8 sb w5.heap.size (hL8.mono (by rw[hlen];decide) (by rw[hlen];decide) (by decide)) (box_sf HX7.out (by simp[SrvT]) hc8) HS5.out)
 clear ho8 hL8 hc8 HRc HX7 HFin HOut HE HS5
 go_wp2_with fail
 go_ret
 exact HF.out
end Go.Proofs.YthmdjhlhodpbhaaGreatDoor
namespace Go.Proofs.YthmdjhlhodpbhaaGreatDoor
def Lett(st rd:Int)(l:List Int):Prop:=∀i:Nat,l.getD i (-1) = -1\/l.getD i (-1)=cY st (rd+i)
theorem grown_getD(l:List Int)(p i:Nat):(dH l p).getD i (-1)=l.getD i (-1):=by
 unfold dH
 simp only[List.getD_eq_getElem?_getD]
 rcases Nat.lt_or_ge i l.length with h|h
 ·rw[List.getElem?_append_left h]
 ·rw[List.getElem?_append_right h,List.getElem?_eq_none h,List.getElem?_replicate]
  split<;>rfl
theorem grown_len(l:List Int)(p:Nat):(dH l p).length=max l.length (p+1):=by
 unfold dH
 simp only[List.length_append,List.length_replicate]
 omega
theorem set_getD(l:List Int)(p i:Nat)(x:Int)(h:p<l.length):(l.set p x).getD i (-1)=if i=p then x else l.getD i (-1):=by
 simp only[List.getD_eq_getElem?_getD]
 by_cases e:i=p
 ·subst e
  rw[if_pos rfl,List.getElem?_set_self h]
  rfl
 ·rw[if_neg e,List.getElem?_set_ne (Ne.symm e)]
theorem letters_getD(st fr:Int)(n k:Nat)(h:k<n):(aP st fr n).getD k 0=cY st (fr+k):=by
 have hl:=bH st fr n
 rw[List.getD_eq_getElem?_getD,List.getElem?_eq_getElem (by omega)]
 simp[aP]
theorem recvTo_letters{st rd fr:Int}{l:List Int}(h:Lett st rd l)(n:Nat):∀k,k<=n->∃m,eb l (fr-rd) (aP st fr n) k=some m/\(∀i:Nat,m.getD i (-1)=if fr-rd<=i/\(i:Int)<fr-rd+k then cY st (rd+i) else l.getD i (-1))/\l.length<=m.length/\(m.length:Int)<=max (l.length:Int) (fr-rd+k)/\(0<k->fr-rd+k<=m.length)
 |0,_=>⟨l,rfl,fun i=>by rw[if_neg (by omega)],Nat.le_refl _,by omega,fun h=>by omega⟩
 |k+1,hk=>by
  obtain⟨m,h1,h2,h3,h4,h5⟩:=recvTo_letters h n k (by omega)
  rw[eb,h1]
  simp only[Option.bind_some]
  by_cases hd:fr-rd+(k:Int)<0
  ·rw[if_pos hd]
   refine⟨m,rfl,fun i=>?_,h3,by omega,fun _=>by omega⟩
   rw[h2 i,if_neg (by omega),if_neg (by omega)]
  ·rw[if_neg hd]
   obtain⟨p,hp⟩:∃p:Nat,fr-rd+(k:Int)=p:=⟨(fr-rd+(k:Int)).toNat,by omega⟩
   have hx:(aP st fr n).getD k 0=cY st (rd+p):=by
    rw[letters_getD st fr n k (by omega),<-hp,show fr+(k:Int)=rd+(fr-rd+k) by omega]
   have hv:=h2 p
   rw[if_neg (by omega)]at hv
   have hgl:=grown_len m p
   refine⟨(dH m p).set p (cY st (rd+p)),?_,fun i=>?_,?_,?_,fun _=>?_⟩
   ·rw[hp,Int.toNat_natCast,hx]
    unfold writeS
    rw[if_neg]
    rw[grown_getD,hv]
    rcases h p with e|e
    ·rw[e];simp
    ·rw[e];simp
   ·rw[set_getD _ _ _ _ (by omega),grown_getD,h2 i]
    by_cases e:i=p
    ·subst e
     rw[if_pos rfl,if_pos (by omega)]
    ·rw[if_neg e]
     by_cases e2:fr-rd<=(i:Int)/\(i:Int)<fr-rd+k
     ·rw[if_pos e2,if_pos (by omega)]
     ·rw[if_neg e2,if_neg (by omega)]
   ·rw[List.length_set];omega
   ·rw[List.length_set];omega
   ·rw[List.length_set];omega
structure KS where
 piece:Int
 high:Int
 fin:Int
 read:Int
 done:Bool
structure aT where
 credit:Int
 strs:List KS
 old:List (List Int)
def di(piece:Int):KS:=⟨piece,0,-1,0,false⟩
def bZ(i:Nat)(k:KS):aQ:=⟨aP i k.read (k.high-k.read).toNat,k.read,k.high,k.piece,k.fin,false,k.done⟩
def du(l:List KS):List aQ:=l.mapIdx bZ
def numsK(p:Nat):List (Int×Int):=if p=0 then [] else [(0,(p:Int)-1)]
def bp(c:aT)(got sent waits:Int):au:=⟨300,1,true,got,sent,0,0,numsK c.old.length,c.credit,du c.strs,waits⟩
def bE(l:List KS):Int:=(l.map (·.high)).sum
def readK(l:List KS):Int:=(l.map (·.read)).sum
structure KsOk(g:Cfg)(k:KS):Prop where
 read:0<=k.read/\k.read<=k.high
 piece:k.high<=k.piece/\k.piece<=k.read+g.c2
 fin:k.fin = -1\/k.fin=k.high
 done:k.done=true->k.fin=k.high/\k.read=k.high
structure KInv(g:Cfg)(Z:Int)(c:aT):Prop where
 str:∀k∈c.strs,KsOk g k
 sum:bE c.strs<=c.credit
 fol:c.credit<=readK c.strs+g.c1
 low:g.c1<=c.credit
 high:bE c.strs<=Z
theorem strsK_get(l:List KS)(i:Nat):(du l)[i]? =(l[i]?).map (bZ i):=by
 unfold du
 rw[List.getElem?_mapIdx]
theorem strsK_len(l:List KS):(du l).length=l.length:=by simp[du]
theorem strsK_set(l:List KS)(i:Nat)(k:KS):du (l.set i k)=(du l).set i (bZ i k):=by
 apply List.ext_getElem?
 intro j
 rw[strsK_get,List.getElem?_set,List.getElem?_set,strsK_len,strsK_get]
 by_cases e:i=j
 ·subst e
  rw[if_pos rfl,if_pos rfl]
  by_cases h:i<l.length
  ·rw[if_pos h,if_pos h];rfl
  ·rw[if_neg h,if_neg h];rfl
 ·rw[if_neg e,if_neg e]
theorem strsK_snoc(l:List KS)(k:KS):du (l++[k])=du l++[bZ l.length k]:=by
 simp[du,List.mapIdx_append]
theorem strK_new(i:Nat)(piece:Int):bZ i (di piece)=aX piece:=by
 simp[bZ,di,aX,aP]
theorem highS_K(l:List KS):cR (du l)=bE l:=by
 unfold cR bE du
 congr 1
 apply List.ext_getElem?
 intro i
 simp only[List.getElem?_map,List.getElem?_mapIdx]
 cases l[i]? <;>rfl
theorem readAll_K{l:List KS}:readAll (du l)=readK l:=by
 unfold readAll readK du
 congr 1
 apply List.ext_getElem?
 intro i
 simp only[List.getElem?_map,List.getElem?_mapIdx]
 cases l[i]? with
 |none=>rfl
 |some k=>simp[eP,bZ]
theorem sum_set{α:Type}(f:α->Int){l:List α}:∀{i:Nat} {x y:α},l[i]? =some x->((l.set i y).map f).sum=(l.map f).sum-f x+f y:=by
 induction l with
 |nil=>intro i x y h;simp at h
 |cons a t ih=>
  intro i x y h
  cases i with
  |zero=>
   simp only[List.getElem?_cons_zero,Option.some.injEq]at h
   subst h
   simp
   omega
  |succ i=>
   simp only[List.getElem?_cons_succ]at h
   have:=ih (y:=y) h
   simp only[List.set_cons_succ,List.map_cons,List.sum_cons]
   omega
theorem sum_mem{α:Type}(f:α->Int){l:List α}(h:∀x∈l,0<=f x){x:α}(hx:x∈l):f x<=(l.map f).sum:=by
 induction l with
 |nil=>cases hx
 |cons a t ih=>
  have h0:=h a (List.mem_cons_self ..)
  have ht:0<=(t.map f).sum:=by
   clear ih hx
   have h':∀x∈t,0<=f x:=fun x hx=>h x (List.mem_cons_of_mem _ hx)
   clear h h0
   induction t with
   |nil=>simp
   |cons b u ihu=>
    have:=h' b (List.mem_cons_self ..)
    have:=ihu (fun x hx=>h' x (List.mem_cons_of_mem _ hx))
    simp only[List.map_cons,List.sum_cons]
    omega
  simp only[List.map_cons,List.sum_cons]
  rcases List.mem_cons.1 hx with rfl|hx
  ·omega
  ·have:=ih (fun x hx=>h x (List.mem_cons_of_mem _ hx)) hx
   omega
theorem fO(st fr:Int)(n i:Nat):(aP st fr n)[i]? =if i<n then some (cY st (fr+i)) else none:=by
 unfold aP
 rw[List.getElem?_map]
 by_cases h:i<n
 ·rw[if_pos h,List.getElem?_range h]
  rfl
 ·rw[if_neg h,List.getElem?_eq_none (by simpa using h)]
  rfl
theorem letters_getM(st fr:Int)(n i:Nat):(aP st fr n).getD i (-1)=if i<n then cY st (fr+i) else -1:=by
 rw[List.getD_eq_getElem?_getD,fO]
 split<;>rfl
theorem lett_letters(st fr:Int)(n:Nat):Lett st fr (aP st fr n):=by
 intro i
 rw[letters_getM]
 split
 ·exact Or.inr rfl
 ·exact Or.inl rfl
theorem recv_piece{g:Cfg}(hg:bN g){i:Nat}{k:KS}(h:KsOk g k){fr tt:Int}(hf:0<=fr/\fr<=tt/\fr<=k.high):
  dk g.c4 (bZ i k) fr (aP i fr (tt-fr).toNat)=(0,{bZ i k with bytes:=aP i k.read (max k.high tt-k.read).toNat}):=by
 have hr:=h.read
 have h4:=hg.c4
 have hl:=bH i fr (tt-fr).toNat
 have hl2:=bH i k.read (k.high-k.read).toNat
 obtain⟨m,h1,h2,h3,h4',h5⟩:=recvTo_letters (st:=i) (rd:=k.read) (fr:=fr) (lett_letters i k.read (k.high-k.read).toNat) (tt-fr).toNat (tt-fr).toNat (Nat.le_refl _)
 have hml:m.length=(max k.high tt-k.read).toNat:=by
  rw[hl2]at h3 h4'
  rcases Nat.eq_zero_or_pos (tt-fr).toNat with e|e
  ·omega
  ·have:=h5 e
   omega
 have hm:m=aP i k.read (max k.high tt-k.read).toNat:=by
  apply List.ext_getElem?
  intro q
  rw[fO]
  by_cases hq:q<(max k.high tt-k.read).toNat
  ·rw[if_pos hq]
   have e:=h2 q
   rw[List.getD_eq_getElem?_getD,List.getElem?_eq_getElem (by omega),letters_getM]at e
   rw[List.getElem?_eq_getElem (by omega)]
   simp only[Option.getD_some]at e
   rw[e]
   by_cases c1:fr-k.read<=(q:Int)/\(q:Int)<fr-k.read+(((tt-fr).toNat:Nat):Int)
   ·rw[if_pos c1]
   ·rw[if_neg c1,if_pos (by omega)]
  ·rw[if_neg hq,List.getElem?_eq_none (by omega)]
 unfold dk
 simp only[bZ,hl,h1]
 have hru:dQ m m.length<=1:=by
  rw[hm]
  exact runsTo_one (fX _ _ _)
 rw[if_neg (by omega),hm]
theorem deal_piece{g:Cfg}(hg:bN g){i:Nat}{k:KS}(h:KsOk g k){fr tt credit H:Int}(hf:0<=fr/\fr<=tt/\fr<=k.high)(hp:tt<=k.piece)(he:0<=k.fin->tt<=k.fin)(hc:H+(tt-k.high)<=credit)(hH:H<=credit):
  be g.c4 credit H ⟨3,i,fr,0,aP i fr (tt-fr).toNat⟩ (bZ i k)=(0,bZ i {k with high:=max k.high tt}):=by
 have hr:=h.read
 have hl:=bH i fr (tt-fr).toNat
 have hee:fr+(((tt-fr).toNat:Nat):Int)=tt:=by omega
 have hbad:badF (bZ i k) tt (decide ((3:Int)≠3))=false:=by
  unfold badF
  rw[show decide ((3:Int)≠3)=false from rfl,Bool.false_and,Bool.and_false,Bool.false_and,Bool.or_false,Bool.or_false]
  by_cases h0:0<=k.fin
  ·have:=he h0
   rw[decide_eq_false (p:=(bZ i k).final<tt) (show ¬k.fin<tt by omega),Bool.and_false]
  ·rw[decide_eq_false (p:=0<=(bZ i k).final) h0,Bool.false_and]
 have hov:overS (bZ i k) tt credit H=false:=by
  unfold overS fR
  rw[decide_eq_false (p:=(bZ i k).credit<tt) (show ¬k.piece<tt by omega),decide_eq_false (p:=credit<H+(if(bZ i k).highest<tt then tt-(bZ i k).highest else 0)) (show ¬credit<H+(if k.high<tt then tt-k.high else 0) by split<;>omega)]
  rfl
 unfold be
 simp only[hl,hee,hbad,hov]
 rw[if_neg (by decide)]
 by_cases hd:k.done=true
 ·obtain⟨d1,d2⟩:=h.done hd
  have:=he (by omega)
  rw[if_pos (by simp[bZ,hd])]
  have e:max k.high tt=k.high:=by omega
  rw[e]
 ·rw[if_neg (by simp[bZ,hd]),if_neg (by decide),if_pos ⟨by decide,rfl⟩,recv_piece hg h hf]
  simp only[ne_eq,not_true_eq_false,if_false]
  unfold ft fR
  simp only[bZ,hl,hee]
  rw[if_neg (fun e=>by simp at e)]
  simp only[ne_eq,not_true_eq_false,if_false]
  congr 2
  split<;>omega
theorem deal_end{g:Cfg}(hg:bN g){i:Nat}{k:KS}(h:KsOk g k){credit H:Int}(hn:k.fin = -1)(hH:H<=credit):
  be g.c4 credit H ⟨4,i,k.high,0,aP i k.high (k.high-k.high).toNat⟩ (bZ i k)=(0,bZ i {k with fin:=k.high}):=by
 have hr:=h.read
 have hp:=h.piece
 have hd:k.done=false:=by
  cases e:k.done with
  |false=>rfl
  |true=>have:=(h.done e).1;omega
 have hl:=bH i k.high (k.high-k.high).toNat
 have hee:k.high+(((k.high-k.high).toNat:Nat):Int)=k.high:=by omega
 have hbad:badF (bZ i k) k.high (decide ((4:Int)≠3))=false:=by
  unfold badF
  rw[decide_eq_false (p:=0<=(bZ i k).final) (show ¬0<=k.fin by omega),decide_eq_false (p:=k.high<(bZ i k).highest) (show ¬k.high<k.high by omega),Bool.false_and,Bool.and_false]
  rfl
 have hov:overS (bZ i k) k.high credit H=false:=by
  unfold overS fR
  rw[decide_eq_false (p:=(bZ i k).credit<k.high) (show ¬k.piece<k.high by omega),decide_eq_false (p:=credit<H+(if(bZ i k).highest<k.high then k.high-(bZ i k).highest else 0)) (show ¬credit<H+(if k.high<k.high then k.high-k.high else 0) by split<;>omega)]
  rfl
 unfold be
 simp only[hl,hee,hbad,hov]
 rw[if_neg (by decide),if_neg (by simp[bZ,hd]),if_neg (by decide),if_pos ⟨by decide,rfl⟩,recv_piece hg h ⟨by omega,by omega,by omega⟩]
 simp only[ne_eq,not_true_eq_false,if_false]
 unfold ft fR
 simp only[bZ,hl,hee]
 rw[if_neg (fun e=>by simp at e)]
 have em:max k.high k.high=k.high:=by omega
 simp[em]
theorem deal_reset{g:Cfg}{i:Nat}{k:KS}(h:KsOk g k){credit H:Int}(hn:k.fin = -1)(hH:H<=credit):
  be g.c4 credit H ⟨5,i,k.high,0,[]⟩ (bZ i k)=(0,bZ i {k with fin:=k.high}):=by
 have hr:=h.read
 have hp:=h.piece
 have hd:k.done=false:=by
  cases e:k.done with
  |false=>rfl
  |true=>have:=(h.done e).1;omega
 have hee:k.high+((([]:List Int).length:Nat):Int)=k.high:=by simp
 have hbad:badF (bZ i k) k.high (decide ((5:Int)≠3))=false:=by
  unfold badF
  rw[decide_eq_false (p:=0<=(bZ i k).final) (show ¬0<=k.fin by omega),decide_eq_false (p:=k.high<(bZ i k).highest) (show ¬k.high<k.high by omega),Bool.false_and,Bool.and_false]
  rfl
 have hov:overS (bZ i k) k.high credit H=false:=by
  unfold overS fR
  rw[decide_eq_false (p:=(bZ i k).credit<k.high) (show ¬k.piece<k.high by omega),decide_eq_false (p:=credit<H+(if(bZ i k).highest<k.high then k.high-(bZ i k).highest else 0)) (show ¬credit<H+(if k.high<k.high then k.high-k.high else 0) by split<;>omega)]
  rfl
 unfold be
 simp only[hee,hbad,hov]
 rw[if_neg (by decide),if_neg (by simp[bZ,hd]),if_neg (by decide),if_neg (fun e=>e.1 rfl)]
 unfold ft fR
 simp only[bZ,hee]
 have hal:allS {bytes:=aP i k.read (k.high-k.read).toNat,read:=k.read,highest:=k.high+0,credit:=k.piece,final:=k.high,reset:=false,done:=k.done}=true:=by
  unfold allS
  simp only
  rw[leadS_all (fX _ _ _),bH,decide_eq_true (by omega),decide_eq_true (by omega)]
  rfl
 simp only[Int.lt_irrefl,if_false,ne_eq,show ¬(5:Int)=3 by decide,not_false_eq_true,if_true,hal]
 rw[if_neg (fun e=>by simp at e)]
 simp
end Go.Proofs.YthmdjhlhodpbhaaGreatDoor
