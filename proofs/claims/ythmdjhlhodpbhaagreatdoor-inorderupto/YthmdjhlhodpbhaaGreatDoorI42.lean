/- InOrder, 42 -/
import Derived.Test.YthmdjhlhodpbhaaGreatDoorI04
import Derived.Test.YthmdjhlhodpbhaaGreatDoorI41
import Derived.Test.YthmdjhlhodpbhaaGreatDoorRows
set_option maxHeartbeats 16000000
set_option maxRecDepth 8000
namespace Go.Proofs.YthmdjhlhodpbhaaGreatDoor
open Go.RowKit
structure StpD where
 kd:Int
 aa:Int
 bb:Int
 cc:Int
structure StepsIn(w:World)(ao:Option Addr)(l:List StpD):Prop where
 at_:∀(k:Nat) (o:StpD),l[k]? =some o->∃b off,ao=some ⟨b,off,none⟩/\w.cell? ⟨b,off+k*4,none⟩= some (.int .i64 o.kd)/\w.cell? ⟨b,off+k*4+1,none⟩= some (.int .i64 o.aa)/\w.cell? ⟨b,off+k*4+2,none⟩= some (.int .i64 o.bb)/\w.cell? ⟨b,off+k*4+3,none⟩= some (.int .i64 o.cc)
 rng:∀o∈l,(-9223372036854775808<=o.aa/\o.aa<=9223372036854775807)/\(-9223372036854775808<=o.bb/\o.bb<=9223372036854775807)/\(-9223372036854775808<=o.cc/\o.cc<=9223372036854775807)
theorem StepsIn.below{w w':World}{ao:Option Addr}{l:List StpD}(h:StepsIn w ao l)(hb:Below w.heap.size w w'):StepsIn w' ao l:=⟨fun k o hk=>by
 obtain⟨b,off,h1,h2,h3,h4,h5⟩:=h.at_ k o hk
 exact⟨b,off,h1,ae h2 hb,ae h3 hb,ae h4 hb,ae h5 hb⟩,h.rng⟩
theorem kletter_q(s p:Int)(w:World)(hs:0<=s/\s<=2000000000)(hp:0<=p/\p<=2000000000):Calls Tryz.prog 18 #[.int .i64 s,.int .i64 p] w fun e w'=>e=.returned (.int .u8 (cY s p))/\w'=w:=by
 refine(kletter_any s p w hs hp).mono ?_
 rintro e w' ⟨rfl,rfl⟩
 exact⟨rfl,rfl⟩
theorem kinorder_any(raw:Cfg)(ops:List StpD)(sa:Option Addr)(cap:Nat)(w:World)(hE:Env w)(hraw:CfgRaw raw)(hS:StepsIn w sa ops)(hn:ops.length<=1048576):
  Calls Tryz.prog 6 #[.agg (cfgC raw),.slice sa ops.length cap] w fun e w'=>e=.returned (.bool true)/\Below w.heap.size w w':=by
 have hb0:Below w.heap.size w (w.alloc (.cells (cfgC raw) 26)):=af w _
 have HCn:=ab (kconnected_any raw (w.alloc (.cells (cfgC raw) 26)) (hE.below hb0) hraw)
 have E0:∀(xb:Nat) (W:World),(binOp .eql 28 (.pointer (some ⟨xb,0,none⟩)) (.pointer none)).run Tryz.prog W=.ok (.bool false) W:=fun xb W=>by kernel_rfl
 have hok:=keepC_ok raw
 have HE:=ab (hE.below hb0)
 have HS:=ab (hS.below hb0)
 have HB0:=ab hb0
 have HOk:=ab hok
 clear hE hb0 hraw hS hok
 unfold cfgC at HCn HE HB0 HS⊢
 go_enter Tryz.func6,Tryz.ntmps6
 go_wp2_with fail
 generalize w.alloc (.cells #[.int .i64 raw.c0,.int .i64 raw.c1,.int .i64 raw.c2,.int .i64 raw.c3,.int .i64 raw.c4,.int .i64 raw.c5,.int .i64 raw.c6,.int .i64 raw.c7,.int .i64 raw.c8,.int .i64 raw.c9] 26)=wa at *
 refine HCn.out.mono ?_
 intro e w1 hC
 obtain⟨sb,xb,got,sent,rfl,hL,hx,hxb⟩:=hC.ex
 have hsz1:wa.heap.size<=w1.heap.size:=hC.bel.size
 have HSt:=ab (kstreams_0 HOk.out wa.heap.size hxb hsz1 hx)
 have HMd:=ab (cli_made HOk.out wa.heap.size hxb hx)
 have HL:=ab hL
 clear hC hL hx HCn
 generalize bJ raw=G at *
 go_wp2_with fail
 refine HSt.out.mono ?_
 rintro e w2 ⟨rfl,u0,u1,u2,u3,u4,u5,hcl,hch,hin⟩
 have HIn:Hid (InAt wa wa.heap.size w2 xb sb G 0 (cli0 G)):=by
  obtain⟨F,hF⟩:=HL.out.f
  have g3:=HOk.out.c3
  exact⟨⟨u0,u1,u2,u3,u4,u5,_,F,_,got,sent,hcl,hF.cli HMd.out (hch.mono (fun _ _ h=>Or.inl h)) (Nat.le_refl _),at0 G got sent,rfl⟩,inv0 HOk.out,by simp[cli0];omega,by simp[cli0]⟩
 have HW0:=ab hsz1
 clear hcl hch hin HSt HMd HL hsz1 hxb
 go_wp2_with fail
 go_loopg [6] ops.length (fun gk iv wr=>∃k:Nat,iv=.int .i64 k/\k<=ops.length/\gk=ops.length-k/\Hid (∃c,InAt wa wa.heap.size wr xb sb G k c))
 case atStart=>exact⟨0,rfl,by omega,rfl,⟨_,HIn.out⟩⟩
 case round=>
  obtain⟨k,rfl,hk,rfl,HU⟩:=hrel
  obtain⟨c,hc⟩:=HU.out
  have HC:=ab hc
  clear HU hc HIn
  by_cases hlt:k<ops.length
  ·have hlt':(k:Int)<(ops.length:Int):=by omega
   obtain⟨o,ho⟩:∃o,ops[k]? =some o:=⟨_,List.getElem?_eq_getElem hlt⟩
   obtain⟨ob,off,rfl,p0,p1,p2,p3⟩:=(HS.out.below HC.out.bel).at_ k o ho
   obtain⟨r1,r2,r3⟩:=HS.out.rng o (List.mem_of_getElem? ho)
   have HSp:=ab (HC.out.step HE.out (Nat.le_refl _) HOk.out (by omega) o.kd o.aa o.bb o.cc r1 r2 r3)
   obtain⟨kd,aa,bb,cc⟩:=o
   simp only at p0 p1 p2 p3 HSp
   clear r1 r2 r3 ho
   go_wp2_with fail
   refine HSp.out.mono ?_
   rintro e w3 ⟨rfl,hc3⟩
   have HC3:=ab hc3
   clear hc3 HSp p0 p1 p2 p3 HC
   generalize fA G c kd aa bb cc=c3 at *
   obtain⟨x0,x2,x11,x12,x14⟩:=HC3.out.cells
   have HLk:=ab HC3.out.look
   clear x2 x11 x12 x14
   go_wp2_with fail
   refine HLk.out.mono ?_
   rintro e w4 ⟨lg,ls,bf,rfl,hbf,hb4⟩
   have HB4:=ab hb4
   have hbg:=af w4 (.cells #[.bool true,.int .i64 lg,.int .i64 ls,.int .i64 c3.credit,.int .i64 (c3.strs.length:Int),.int .i64 bf] 34)
   have HC5:=ab (HC3.out.below (ag hb4 hbg))
   have hgx:(w4.alloc (.cells #[.bool true,.int .i64 lg,.int .i64 ls,.int .i64 c3.credit,.int .i64 (c3.strs.length:Int),.int .i64 bf] 34)).heap[w4.heap.size]? =some (.cells #[.bool true,.int .i64 lg,.int .i64 ls,.int .i64 c3.credit,.int .i64 (c3.strs.length:Int),.int .i64 bf] 34 (0,0)):=heap_alloc_new w4 _
   obtain⟨x0,x2,x11,x12,x14⟩:=HC5.out.cells
   have l3:(w4.alloc (.cells #[.bool true,.int .i64 lg,.int .i64 ls,.int .i64 c3.credit,.int .i64 (c3.strs.length:Int),.int .i64 bf] 34)).cell? ⟨w4.heap.size,3,none⟩= some (.int .i64 c3.credit):=ai hgx 3
   have l4:(w4.alloc (.cells #[.bool true,.int .i64 lg,.int .i64 ls,.int .i64 c3.credit,.int .i64 (c3.strs.length:Int),.int .i64 bf] 34)).cell? ⟨w4.heap.size,4,none⟩= some (.int .i64 (c3.strs.length:Int)):=ai hgx 4
   have l5:(w4.alloc (.cells #[.bool true,.int .i64 lg,.int .i64 ls,.int .i64 c3.credit,.int .i64 (c3.strs.length:Int),.int .i64 bf] 34)).cell? ⟨w4.heap.size,5,none⟩= some (.int .i64 bf):=ai hgx 5
   clear hb4 hbg hgx HLk HC3
   have e3:¬G.c1<bf:=by omega
   have e4:decide (G.c1<bf)=false:=decide_eq_false e3
   go_wp2_with fail
   generalize w4.alloc (.cells #[.bool true,.int .i64 lg,.int .i64 ls,.int .i64 c3.credit,.int .i64 (c3.strs.length:Int),.int .i64 bf] 34)=w5 at *
   go_quiet (fail)
   go_wp2_with fail
   go_roundg (ops.length-(k+1))
   case measure=>omega
   case rel=>exact⟨k+1,by go_num,by omega,rfl,⟨c3,HC5.out.below (aj (Below.refl _ _) _)⟩⟩
  ·have hlt':¬(k:Int)<(ops.length:Int):=by omega
   have HLa:=ab HC.out.last
   have hk2:k<=1048576:=by omega
   clear HC
   go_wp2_with fail
   go_loopg [9] c.strs.length (fun gk iv wr2=>∃q:Nat,iv=.int .i64 q/\q<=c.strs.length/\gk=c.strs.length-q/\Hid (LastAt wa wa.heap.size wr2 xb sb G k q c))
   case atStart=>exact⟨0,rfl,by omega,rfl,HLa⟩
   case round=>
    obtain⟨q,rfl,hq,rfl,HL⟩:=hrel
    clear HLa
    obtain⟨w6,hw6⟩:∃w6,w6=wr:=⟨_,rfl⟩
    subst hw6
    have hlen:=HL.out.len
    by_cases hql:q<c.strs.length
    ·obtain⟨ks,hks⟩:∃ks,c.strs[q]? =some ks:=⟨_,List.getElem?_eq_getElem hql⟩
     have hql':(q:Int)<(c.strs.length:Int):=by omega
     obtain⟨b1,c1,b4,c4,x0,x15,x18,p1,p4⟩:=HL.out.cells hks
     by_cases h40:q<40
     ·have h40':(q:Int)<40:=by omega
      obtain⟨n,⟨r0,r1,r2⟩,hrd⟩:=HL.out.read HOk.out hk2 (by omega) hks
      have HRd:=ab hrd
      have HLt:=ab (fun(p:Nat) (hp:p<n) (W:World)=>kletter_q q (ks.read+p) W (by omega) (by omega))
      have HLe:Hid (∀p:Nat,p<n->(aP q ks.read n).getD p 0=cY q (ks.read+p)/\p<(aP q ks.read n).length):=by
       intro p hp
       exact⟨letters_getD _ _ _ _ hp,by rw[bH];exact hp⟩
      have HKs:=ab hks
      clear hrd hks
      generalize aP (q:Int) ks.read n=LL at *
      go_wp2_with fail
      refine HRd.out.mono ?_
      rintro e w7 ⟨ta,tc,va,vn,vc,fn,rfl,⟨bo,hto⟩,hL7⟩
      have hbg:=af w7 (.cells #[.slice ta n tc,.bool fn,.bool false] 46)
      have hgx:(w7.alloc (.cells #[.slice ta n tc,.bool fn,.bool false] 46)).heap[w7.heap.size]? =some (.cells #[.slice ta n tc,.bool fn,.bool false] 46 (0,0)):=heap_alloc_new w7 _
      have HTg:=ab (aD hto hbg)
      have HL8:=ab (hL7.below hbg)
      have HGx:=ab hgx
      have g0:(w7.alloc (.cells #[.slice ta n tc,.bool fn,.bool false] 46)).cell? ⟨w7.heap.size,0,none⟩= some (.slice ta n tc):=ai hgx 0
      clear hto hL7 hbg hgx HRd x0 x15 x18 p1 p4 HL
      obtain⟨b1,c1,b4,c4,x0,x15,x18,p1,p4⟩:=HL8.out.cells HKs.out
      have hwr:IntKind.i64.wrap (ks.read+(n:Int))=ks.high:=by rw[IntKind.wrap_i64];omega
      have hne:(ks.high != ks.high)=false:=by simp
      go_wp2_with fail
      generalize w7.alloc (.cells #[.slice ta n tc,.bool fn,.bool false] 46)=w8 at *
      go_quiet (fail)
      have HL9:=ab (HL8.out.below (aj (Below.refl _ _) nq))
      have HT9:=ab (aD HTg.out (aj (Below.refl _ _) nq))
      have HG9:Hid ((w8.drewN nq).heap[w7.heap.size]? =some (.cells #[.slice ta n tc,.bool fn,.bool false] 46 (0,0))):=HGx.out
      clear HL8 HTg HGx g0 x0 x15 x18 p1 p4
      generalize w8.drewN nq=w9 at *
      go_wp2_with fail
      go_loopg [14] n (fun gk pv wx=>∃p:Nat,pv=.int .i64 p/\p<=n/\gk=n-p/\Below w9.heap.size w9 wx)
      case atStart=>exact⟨0,rfl,by omega,rfl,Below.refl _ _⟩
      case round=>
       obtain⟨p,rfl,hpn,rfl,hbp⟩:=hrel
       have HBp:=ab hbp
       have gx:=eE HG9.out hbp
       have g0:wr.cell? ⟨w7.heap.size,0,none⟩= some (.slice ta n tc):=ai gx 0
       have hto:=aD HT9.out hbp
       clear gx hbp
       by_cases hpl:p<n
       ·have hpl':(p:Int)<(n:Int):=by omega
        obtain⟨tb,tc',e1,_,_,_⟩:=cV hto (by omega)
        simp only[Value.slice.injEq,true_and]at e1
        obtain⟨rfl,rfl⟩:=e1
        have hbyte:=dF hto p (HLe.out p hpl).2
        rw[(HLe.out p hpl).1,Nat.zero_add]at hbyte
        have HLq:=ab (HLt.out p hpl)
        have hwp:IntKind.i64.wrap (ks.read+(p:Int))=ks.read+p:=by rw[IntKind.wrap_i64];omega
        clear hto
        generalize cY (q:Int) (ks.read+(p:Int))=Lq at *
        go_wp2_with fail
        go_quiet ((go_at_call 18;exact Calls.quiet_of_same (HLq.out _)))
        go_wp2_with fail
        go_roundg (n-(p+1))
        case measure=>omega
        case rel=>exact⟨p+1,by go_num,by omega,rfl,aj HBp.out _⟩
       ·have hpl':¬(p:Int)<(n:Int):=by omega
        clear hto
        go_wp2_with fail
        go_roundg (c.strs.length-(q+1))
        case measure=>omega
        case rel=>exact⟨q+1,by go_num,by omega,rfl,HL9.out.below HBp.out⟩
     ·have h40':¬(q:Int)<40:=by omega
      go_wp2_with fail
      go_ret
      exact⟨rfl,ag HB0.out HL.out.bel⟩
    ·have hql':¬(q:Int)<(c.strs.length:Int):=by omega
     obtain⟨ha,hcp,x15⟩:=HL.out.high
     go_wp2_with fail
     go_ret
     exact⟨rfl,ag HB0.out HL.out.bel⟩
end Go.Proofs.YthmdjhlhodpbhaaGreatDoor
namespace Go.Proofs.YthmdjhlhodpbhaaGreatDoor
open Go.RowKit Go.Deep Go.ChangeShapes Go.WideShapes Go.ChangeAt
theorem kbulk_pos{H:Type}(d:DataW H):1<=Rows.uptoBulk d:=by
 unfold Rows.uptoBulk
 split<;>omega
theorem kbulk_len{H:Type}:∀l:List (DataW H),l.length<=Rows.uptoBulkAll l
 |[]=>Nat.zero_le _
 |d::r=>by
  have h1:=kbulk_pos d
  have h2:=kbulk_len r
  simp only[Rows.uptoBulkAll,List.length_cons]
  omega
theorem kcells_stp:Tryz.prog.cellsOf 32=4:=by kernel_rfl
theorem klen4{l:List Value}(h:l.length=4):∃a b c d,l=[a,b,c,d]:=by
 match l,h with
 |[a,b,c,d],_=>exact⟨a,b,c,d,rfl⟩
theorem kchoose{α:Type} [Inhabited α] {n:Nat}{p:Nat->α->Prop}(h:∀i,i<n->∃x,p i x):∃f:Nat->α,∀i,i<n->p i (f i):=by
 refine⟨fun i=>if hi:i<n then Classical.choose (h i hi) else default,fun i hi=>?_⟩
 simp only[dif_pos hi]
 exact Classical.choose_spec (h i hi)
section
variable {H : Type} {enc : TypeId × Value -> H} {w : World} {spare : Nat -> Bool} {held : Bool}
theorem ksint_of_trod{n:Nat}{x:Value}{xs:List (DataW H×List MemPlace)}{i:Nat}(hi:i<xs.length)(h:DataW.trod enc Tryz.prog w 0 spare held n 3 [x]=xs[i]?):∃c,x=.int .i64 c/\(-9223372036854775808<=c/\c<=9223372036854775807):=by
 rw[List.getElem?_eq_getElem hi]at h
 obtain⟨c,e,_,hwf⟩:=DataW.trod_int Tryz.underlying3 h
 simp only[List.cons.injEq,and_true]at e
 exact⟨c,e,bounds_i64 hwf⟩
theorem stp_of_trod{n:Nat}{cs:List Value}{x:DataW H×List MemPlace}(h:DataW.trod enc Tryz.prog w 0 spare held n 32 cs=some x):
  ∃o:StpD,cs=[.int .i64 o.kd,.int .i64 o.aa,.int .i64 o.bb,.int .i64 o.cc]/\(-9223372036854775808<=o.aa/\o.aa<=9223372036854775807)/\(-9223372036854775808<=o.bb/\o.bb<=9223372036854775807)/\(-9223372036854775808<=o.cc/\o.cc<=9223372036854775807):=by
 obtain⟨xs,m,_,rfl,hl,hlen,hf⟩:=DataW.trod_struct Tryz.underlying32 h
 have hlen':xs.length=4:=hlen
 rw[kcells_stp]at hl
 obtain⟨x0,x1,x2,x3,rfl⟩:=klen4 hl
 have g0:DataW.trod enc Tryz.prog w 0 spare held m 3 ((List.drop 0 [x0,x1,x2,x3]).take (Tryz.prog.cellsOf 3))=xs[0]?:=hf 0 _ rfl
 rw[cw]at g0
 obtain⟨c0,rfl,_⟩:=ksint_of_trod (xs:=xs) (i:=0) (by omega) (by simpa using g0)
 have g1:DataW.trod enc Tryz.prog w 0 spare held m 3 ((List.drop 1 [.int .i64 c0,x1,x2,x3]).take (Tryz.prog.cellsOf 3))=xs[1]?:=hf 1 _ rfl
 rw[cw]at g1
 obtain⟨c1,rfl,r1⟩:=ksint_of_trod (xs:=xs) (i:=1) (by omega) (by simpa using g1)
 have g2:DataW.trod enc Tryz.prog w 0 spare held m 3 ((List.drop 2 [.int .i64 c0,.int .i64 c1,x2,x3]).take (Tryz.prog.cellsOf 3))=xs[2]?:=hf 2 _ rfl
 rw[cw]at g2
 obtain⟨c2,rfl,r2⟩:=ksint_of_trod (xs:=xs) (i:=2) (by omega) (by simpa using g2)
 have g3:DataW.trod enc Tryz.prog w 0 spare held m 3 ((List.drop 3 [.int .i64 c0,.int .i64 c1,.int .i64 c2,x3]).take (Tryz.prog.cellsOf 3))=xs[3]?:=hf 3 _ rfl
 rw[cw]at g3
 obtain⟨c3,rfl,r3⟩:=ksint_of_trod (xs:=xs) (i:=3) (by omega) (by simpa using g3)
 exact⟨⟨c0,c1,c2,c3⟩,rfl,r1,r2,r3⟩
theorem steps_of_trod{n:Nat}{v:Value}{x:DataW H×List MemPlace}(h:DataW.trod enc Tryz.prog w 0 spare held n 27 [v]=some x)(hw:Rows.uptoBulk x.1<=1048576):
  ∃(ao:Option Addr) (cap:Nat) (l:List StpD),v=.slice ao l.length cap/\StepsIn w ao l/\l.length<=1048576:=by
 rcases open_slice Tryz.underlying27 h with⟨hcs,_⟩|⟨a,len,cap,m,n',D,Pl,hcs,_,hl,_,hm,hx,hel⟩
 ·simp only[List.cons.injEq,and_true]at hcs
  subst hcs
  exact⟨none,0,[],rfl,⟨fun k o hk=>by simp at hk,fun o ho=>by cases ho⟩,by simp⟩
 ·simp only[List.cons.injEq,and_true]at hcs
  subst hcs
  have hlm:len<=m:=by rw[hm];split<;>omega
  rw[hx]at hw
  simp only[Rows.uptoBulk]at hw
  have hlen:len<=1048576:=by
   have:=kbulk_len ((List.range len).map D)
   rw[List.length_map,List.length_range]at this
   omega
  rw[kcells_stp]at hel
  have hops:∀i,i<len->∃o:StpD,w.cells? 0 (a.add (i*4)) 4=some [.int .i64 o.kd,.int .i64 o.aa,.int .i64 o.bb,.int .i64 o.cc]/\(-9223372036854775808<=o.aa/\o.aa<=9223372036854775807)/\(-9223372036854775808<=o.bb/\o.bb<=9223372036854775807)/\(-9223372036854775808<=o.cc/\o.cc<=9223372036854775807):=by
   intro i hi
   obtain⟨cs,h1,h2⟩:=hel i (by omega)
   obtain⟨o,rfl,ho⟩:=stp_of_trod h2
   exact⟨o,h1,ho⟩
  haveI:Inhabited StpD:=⟨⟨0,0,0,0⟩⟩
  obtain⟨f,hf⟩:=kchoose hops
  have hol:((List.range len).map f).length=len:=by simp
  refine⟨some a,cap,(List.range len).map f,by rw[hol],⟨fun k o hk=>?_,fun o ho=>?_⟩,by rw[hol];exact hlen⟩
  ·have hkl:k<len:=by
    have:=(List.getElem?_eq_some_iff.1 hk).1
    rw[hol]at this
    exact this
   have ho:o=f k:=by
    simp only[List.getElem?_map,List.getElem?_range hkl,Option.map_some,Option.some.injEq]at hk
    exact hk.symm
   subst ho
   obtain⟨_,_,hr⟩:=World.cells?_some (hf k hkl).1
   have c0:=hr 0 (by decide)
   have c1:=hr 1 (by decide)
   have c2:=hr 2 (by decide)
   have c3:=hr 3 (by decide)
   have z0:=(World.cells?_some (hf 0 (by omega)).1).2.2 0 (by decide)
   obtain⟨b,off,spot⟩:=a
   have hspot:spot=none:=by simpa[Addr.add] using World.cell?_spot z0
   subst hspot
   rw[add_plain,add_plain]at c0 c1 c2 c3
   exact⟨b,off,rfl,by simpa using c0,by simpa using c1,by simpa using c2,by simpa using c3⟩
  ·obtain⟨i,hi,rfl⟩:=List.mem_map.1 ho
   exact(hf i (List.mem_range.1 hi)).2
end
end Go.Proofs.YthmdjhlhodpbhaaGreatDoor
