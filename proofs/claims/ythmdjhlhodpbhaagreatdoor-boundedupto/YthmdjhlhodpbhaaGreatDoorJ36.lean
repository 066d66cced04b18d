/- Bounded, 36 -/
import Derived.BigRegion
import Derived.Deep.RegionHeld3
import Derived.Deep.CutRange
import Derived.Test.YthmdjhlhodpbhaaGreatDoorJ03
import Derived.Test.YthmdjhlhodpbhaaGreatDoorJ04
import Derived.Test.YthmdjhlhodpbhaaGreatDoorJ34
import Derived.Test.YthmdjhlhodpbhaaGreatDoorJ35
set_option maxHeartbeats 16000000
set_option maxRecDepth 8000
namespace Go.Proofs.YthmdjhlhodpbhaaGreatDoor
open Go.RowKit
def HitT(g:Cfg)(a:Int)(b:List Int)(i:Nat):Prop:=i+9<=b.length/\bM g.c9 a (fs (b.drop i))=(b.drop i).take 9
def HitP(g:Cfg)(a:Int)(b:List Int)(i:Nat):Prop:=1<b.length/\gsz (b.drop 1)≠0/\i<b.length/\gsz (b.drop i)≠0/\cg (b.drop i)=bA g.c9 a (cg (b.drop 1))
theorem no_shows{g:Cfg}{a:Int}{b:List Int}(h1:∀j,j<b.length->¬HitT g a b j)(h2:∀j,j<b.length->¬HitP g a b j):¬kC g a b:=by
 rintro(⟨i,h3,h4⟩|⟨h3,h4,i,h5,h6,h7⟩)
 ·exact h1 i (by omega) ⟨h3,h4⟩
 ·exact h2 i h5 ⟨h3,h4,h5,h6,h7⟩
theorem wslice_mid{P:Program}(W:World){t e:TypeId}{size:Nat}{b off len cap i j:Nat}(ht:P.underlying t=some (.slice e))(hs:(Go.sizeOf e).run P W=.ok size W)(hi:i<=j)(hj:j<=len)(hc:len<=cap)(hn:i<cap):
  (Instr.slice t (.slice (some ⟨b,off,none⟩) len cap) (some (.int .i64 (i:Int))) (some (.int .i64 (j:Int))) none).run P W=.ok (.slice (some ⟨b,off+i*size,none⟩) (j-i) (cap-i)) W:=by
 have h1:j<=cap:=by omega
 have h2:cap≠i:=by omega
 simp[Instr.slice,Instr.sliceBounds,Instr.sliceBound,asIntOf,run_underlying ht,hs,hi,h1,h2,Addr.add]
structure ShowsOut(g:Cfg)(a:Int)(b:List Int)(e:Ending):Prop where
 ex:∃r,e=.returned (.bool r)/\(r=false->¬kC g a b)
theorem sh_below{w w':World}{k:Nat}{o:Obj}(h:w.heap[k]? =some o)(hb:Below w.heap.size w w'):w'.heap[k]? =some o:=
 (hb.block k (Array.getElem?_eq_some_iff.1 h).1).trans h
theorem bQ{w:World}{gb:Nat}{cs:Array Value}{t:TypeId}{fr:Nat×Nat}(h:w.heap[gb]? =some (.cells cs t fr))(i:Nat):w.cell? ⟨gb,i,none⟩= cs[i]?:=by
 simp only[World.cell?,h]
 rfl
theorem sh_tok{g:Cfg}(h:g.right=true){a t:Int}(ha:0<=a/\a<256)(ht:0<=t/\t<4294967296):tokE g.c0 g.c1 g.c2 g.c3 g.c4 g.c5 g.c6 g.c7 g.c8 g.c9 a t=0:=by
 have h1:fh g.c0 g.c1 g.c2 g.c3 g.c4 g.c5 g.c6 g.c7 g.c8 g.c9=true:=h
 simp[tokE,orE,jK,fu,h1,betw_mk (show 0<=a/\a<=255 by omega),betw_mk (show 0<=t/\t<=4294967295 by omega)]
theorem sh_prf{g:Cfg}(h:g.right=true){a t:Int}(ha:0<=a/\a<256)(ht:0<=t/\t<=1073741823):prfE g.c0 g.c1 g.c2 g.c3 g.c4 g.c5 g.c6 g.c7 g.c8 g.c9 a t=0:=by
 have h1:fh g.c0 g.c1 g.c2 g.c3 g.c4 g.c5 g.c6 g.c7 g.c8 g.c9=true:=h
 simp[prfE,orE,jK,fu,h1,betw_mk (show 0<=a/\a<=255 by omega),betw_mk ht]
theorem kshows_any [LoM] (g:Cfg)(hr:g.right=true)(a:Int)(ha:0<=a/\a<256)(b:List Int)(bv:Value)(w:World)(hE:Env w)(hb:RdB w bv b)(hl:b.length<=1048576):
  Calls Tryz.prog 29 #[.agg (ez g),.int .i64 a,bv] w fun e w'=>ShowsOut g a b e/\Below w.heap.size w w':=by
 have hb0:Below w.heap.size w (w.alloc (.cells (ez g) 26)):=ag w _
 have hbx:(w.alloc (.cells (ez g) 26)).heap[w.heap.size]? =some (.cells (ez g) 26 (0,0)):=heap_alloc_new w _
 have HE:=ae (hE.below hb0)
 have HB:=ae (hb.below hb0)
 have HB0:=ae hb0
 have HX:=ae hbx
 obtain⟨hby,_,ao,cap,rfl,hcap,hcm,hnil,hpos⟩:=hb
 clear hE hb0 hbx
 unfold ez at HE HB HB0 HX⊢
 go_enter Tryz.func29,Tryz.ntmps29
 go_wp2_with fail
 generalize w.alloc (.cells #[.int .i64 g.c0,.int .i64 g.c1,.int .i64 g.c2,.int .i64 g.c3,.int .i64 g.c4,.int .i64 g.c5,.int .i64 g.c6,.int .i64 g.c7,.int .i64 g.c8,.int .i64 g.c9] 26)=wa at *
 obtain⟨n,hn⟩:∃n,b.length=n:=⟨_,rfl⟩
 rw[hn]at hl hcap hpos HB⊢
 have HN:=ae hn
 clear hn
 go_loopg [7] n (fun gk iv wr=>∃k:Nat,iv=.int .i64 k/\k<=n/\gk=n-k/\Hid (Below wa.heap.size wa wr/\∀j,j<k->¬HitT g a b j))
 case atStart=>exact⟨0,rfl,by omega,rfl,⟨Below.refl _ _,fun j hj=>absurd hj (by omega)⟩⟩
 case round=>
  obtain⟨k,rfl,hk,rfl,HU⟩:=hrel
  by_cases hlt:k+9<=n
  ·have hlt':(k:Int)+9<=(n:Int):=by omega
   obtain⟨gb,off,cur,ty,fr,rfl,hgb,_,hj⟩:=hpos (by omega)
   have hbr:=HB.out.below HU.out.1
   have hlen:=HN.out
   have hc:∀j,j<n->wr.cell? ⟨gb,off+j,none⟩= some (.int .u8 (b.getD j 0)):=fun j hj=>by
    have:=(RdB.cell (b:=gb) (off:=off) (cap:=cap) (l:=b) (by rw[hlen];exact hbr) j (by omega))
    exact this
   have c1:=hc (k+1) (by omega)
   have c2:=hc (k+2) (by omega)
   have c3:=hc (k+3) (by omega)
   have c4:=hc (k+4) (by omega)
   have hT:fs (b.drop k)=b.getD (k+1) 0+256*b.getD (k+2) 0+65536*b.getD (k+3) 0+16777216*b.getD (k+4) 0:=by
    unfold fs
    simp[List.getD,List.getElem?_drop]
   have r1:=bK hby (k+1)
   have r2:=bK hby (k+2)
   have r3:=bK hby (k+3)
   have r4:=bK hby (k+4)
   have HT:=ae hT
   clear hT hc
   generalize b.getD (k+1) 0=t1 at *
   generalize b.getD (k+2) 0=t2 at *
   generalize b.getD (k+3) 0=t3 at *
   generalize b.getD (k+4) 0=t4 at *
   have i1:(k:Int)+1<(n:Int):=by omega
   have i2:(k:Int)+2<(n:Int):=by omega
   have i3:(k:Int)+3<(n:Int):=by omega
   have i4:(k:Int)+4<(n:Int):=by omega
   clear hj hgb hpos hbr hlen
   have HX1:=sh_below HX.out HU.out.1
   have d0:wr.cell? ⟨w.heap.size,0,none⟩= some (.int .i64 g.c0):=bQ HX1 0
   have d1:wr.cell? ⟨w.heap.size,1,none⟩= some (.int .i64 g.c1):=bQ HX1 1
   have d2:wr.cell? ⟨w.heap.size,2,none⟩= some (.int .i64 g.c2):=bQ HX1 2
   have d3:wr.cell? ⟨w.heap.size,3,none⟩= some (.int .i64 g.c3):=bQ HX1 3
   have d4:wr.cell? ⟨w.heap.size,4,none⟩= some (.int .i64 g.c4):=bQ HX1 4
   have d5:wr.cell? ⟨w.heap.size,5,none⟩= some (.int .i64 g.c5):=bQ HX1 5
   have d6:wr.cell? ⟨w.heap.size,6,none⟩= some (.int .i64 g.c6):=bQ HX1 6
   have d7:wr.cell? ⟨w.heap.size,7,none⟩= some (.int .i64 g.c7):=bQ HX1 7
   have d8:wr.cell? ⟨w.heap.size,8,none⟩= some (.int .i64 g.c8):=bQ HX1 8
   have d9:wr.cell? ⟨w.heap.size,9,none⟩= some (.int .i64 g.c9):=bQ HX1 9
   have htr:0<=t1+256*t2+65536*t3+16777216*t4/\t1+256*t2+65536*t3+16777216*t4<4294967296:=by omega
   have HTk:Hid (∀W,Calls Tryz.prog 37 #[.agg #[.int .i64 g.c0,.int .i64 g.c1,.int .i64 g.c2,.int .i64 g.c3,.int .i64 g.c4,.int .i64 g.c5,.int .i64 g.c6,.int .i64 g.c7,.int .i64 g.c8,.int .i64 g.c9],.int .i64 a,.int .i64 (t1+256*t2+65536*t3+16777216*t4)] W
    fun e w'=>∃ta tc,e=.returned (.tuple #[.slice ta 9 tc,.int .i64 0])/\Hid (w'.ownsRow W.heap.size 5 1 (.slice ta 9 tc) 9 (U8 (bM g.c9 a (fs (b.drop k)))))/\Hid (Below W.heap.size W w')):=by
    intro W
    refine(Token_any g.c0 g.c1 g.c2 g.c3 g.c4 g.c5 g.c6 g.c7 g.c8 g.c9 a (t1+256*t2+65536*t3+16777216*t4) W).mono ?_
    rintro e w' ⟨v,rfl,h1,h2⟩
    have e0:=sh_tok hr ha htr
    unfold tokM at h1
    rw[e0,if_pos rfl,tok9,<-HT.out]at h1
    rw[e0]
    obtain⟨ta,tc,rfl⟩:=be h1
    exact⟨ta,tc,rfl,h1,h2⟩
   clear HX1 htr
   go_wp2_with fail
   go_quiet (fail)
   clear c1 c2 c3 c4 i1 i2 i3 i4
   go_wp2_with fail
   refine(HTk.out _).mono ?_
   rintro e w2 ⟨ta,tc,rfl,HO,HBl⟩
   have hbq:Below wr.heap.size wr w2:=ai (aj (Below.refl _ wr) _) HBl.out
   have hbw:Below wa.heap.size wa w2:=ai HU.out.1 hbq
   have hb2:=HB.out.below hbw
   have hlen:=HN.out
   have k1:∀p,(convert 44 9 (.slice ta 9 tc)).run Tryz.prog (w2.drewN p)=.ok (.string (strOfNums (bM g.c9 a (fs (b.drop k))))) (w2.drewN p):=fun p=>conv_own (by rw[tok9];exact aP HO.out (aj (Below.refl _ _) p))
   have hcell:∀j,j<((b.drop k).take 9).length->w2.cell? ⟨gb,off+k+j,none⟩= some (.int .u8 (((b.drop k).take 9).getD j 0)):=fun j hj=>by
    have hj9:j<9/\k+j<n:=by
     rw[List.length_take,List.length_drop]at hj
     omega
    have:=(RdB.cell (b:=gb) (off:=off) (cap:=cap) (l:=b) (by rw[hlen];exact hb2) (k+j) (by omega))
    rw[Nat.add_assoc,this]
    simp[List.getD,List.getElem?_drop,hj9.1]
   have k2:∀p,(convert 44 9 (.slice (some ⟨gb,off+k,none⟩) 9 (cap-k))).run Tryz.prog (w2.drewN p)=.ok (.string (strOfNums ((b.drop k).take 9))) (w2.drewN p):=fun p=>
    run_convert_bytes_arg (P:=Tryz.prog) (w2.drewN p) 44 5 Tryz.underlying44 Tryz.underlying5 gb (off+k) 9 (cap-k) ((b.drop k).take 9) (by rw[List.length_take,List.length_drop];omega) (fun i hi=>hcell i (by rw[List.length_take,List.length_drop];omega)) 9 Tryz.underlying9
   have k3:∀W,(Instr.slice 44 (.slice (some ⟨gb,off,none⟩) n cap) (some (.int .i64 (k:Int))) (some (.int .i64 ((k:Int)+9))) none).run Tryz.prog W=.ok (.slice (some ⟨gb,off+k,none⟩) 9 (cap-k)) W:=fun W=>by
    have:=wslice_mid W (b:=gb) (off:=off) (len:=n) (cap:=cap) (i:=k) (j:=k+9) Tryz.underlying44 (jw W) (by omega) (by omega) hcap (by omega)
    rw[Nat.mul_one,show k+9-k=9 by omega]at this
    exact this
   have HHit:Hid (strOfNums (bM g.c9 a (fs (b.drop k)))≠strOfNums ((b.drop k).take 9)->¬HitT g a b k):=fun h1 h2=>h1 (by rw[h2.2])
   have HU2:=ae (And.intro hbw HU.out.2)
   clear hcell HO HBl hbw hb2 hbq HTk HU HT
   generalize strOfNums (bM g.c9 a (fs (b.drop k)))=sa at *
   generalize strOfNums ((b.drop k).take 9)=sb at *
   by_cases hs:sa=sb
   ·subst hs
    go_wp2_with fail
    go_quiet (fail)
    go_wp2_with fail
    go_ret
    exact⟨⟨⟨true,rfl,fun h=>(by cases h)⟩⟩,ai HB0.out (ai HU2.out.1 (aj (Below.refl _ _) _))⟩
   ·have HD:decide (sa=sb)=false:=by simpa using hs
    have HEl:¬sa.toList=sb.toList:=fun h=>hs (by
     rw[ByteArray.toList_eq,ByteArray.toList_eq]at h
     exact ByteArray.ext (Array.toList_inj.mp h))
    have HEb:(sa.toList==sb.toList)=false:=by simpa using HEl
    have HNo:=ae (HHit.out hs)
    clear hs
    go_wp2_with fail
    go_quiet (fail)
    go_wp2_with fail
    go_roundg (n-(k+1))
    case measure=>omega
    case rel=>exact⟨k+1,by go_num,by omega,rfl,⟨ai HU2.out.1 (aj (Below.refl _ _) _),fun j hj=>if h:j=k then h▸HNo.out else HU2.out.2 j (by omega)⟩⟩
  ·have hlt':¬(k:Int)+9<=(n:Int):=by omega
   have HNT:Hid (∀j,j<b.length->¬HitT g a b j):=fun j _ hj=>by
    have h1:=HN.out
    have h2:=hj.1
    exact HU.out.2 j (by omega) hj
   have HBr:=ae HU.out.1
   clear HU
   go_wp2_with fail
   go_loopg [11] n (fun gk iv wr=>∃q:Nat,iv=.int .i64 q/\q<=n/\gk=n-q/\Hid (Below wa.heap.size wa wr/\∀j,j<q->¬HitP g a b j))
   case atStart=>exact⟨0,rfl,by omega,rfl,⟨HBr.out,fun j hj=>absurd hj (by omega)⟩⟩
   case round=>
    clear hlt hlt' hk
    obtain⟨q,rfl,hq,rfl,HU⟩:=hrel
    have hlen:=HN.out
    by_cases hql:q<n
    ·have hql':(q:Int)<(n:Int):=by omega
     have hbx:=HB.out.below HU.out.1
     obtain⟨tv,hrd,⟨ta,tc,rfl⟩,hsl⟩:=hbx.drop (k:=q) (by omega)
     have hgr:=fL (hby.drop q)
     have HG:Hid (∀W,Below wr.heap.size wr W->Calls Tryz.prog 56 #[.slice ta (b.length-q) tc] W fun e w'=>e=.returned (.tuple #[.int .i64 (cg (b.drop q)),.int .i64 (gsz (b.drop q)),.int .i64 (gerr (b.drop q))])/\Below W.heap.size W w'):=
      fun W hW=>kB _ _ _ (HE.out.below (ai HU.out.1 hW)) (hrd.below hW).reads
     have HNext:Hid (¬HitP g a b q->∀W,Below wr.heap.size wr W->Below wa.heap.size wa W/\∀j,j<q+1->¬HitP g a b j):=fun h W hW=>⟨ai HU.out.1 hW,fun j hj=>if e:j=q then e▸h else HU.out.2 j (by omega)⟩
     have HBx:=ae hbx
     have HBw:=ae HU.out.1
     clear hbx hrd HU
     rw[hlen]at hsl HG
     by_cases hz:gsz (b.drop q)=0
     ·have hge:gerr (b.drop q)=2:=by unfold gerr;rw[if_pos hz]
      have HNo:=ae (HNext.out (fun h=>h.2.2.2.1 hz))
      rw[hge]at HG
      generalize cg (b.drop q)=gv at *
      generalize gsz (b.drop q)=gs at *
      go_wp2_with fail
      refine(HG.out _ (Below.refl _ _)).mono ?_
      rintro e w2 ⟨rfl,hb2⟩
      have HX2:=ae (HNo.out w2 hb2)
      clear hb2 HG HNo HNext
      go_wp2_with fail
      go_roundg (n-(q+1))
      case measure=>omega
      case rel=>exact⟨q+1,by go_num,by omega,rfl,HX2⟩
     ·have hge:gerr (b.drop q)=0:=by unfold gerr;rw[if_neg hz]
      rw[hge]at HG
      obtain⟨gs,hgs⟩:∃gs,gsz (b.drop q)=gs:=⟨_,rfl⟩
      obtain⟨gv,hgv⟩:∃gv,cg (b.drop q)=gv:=⟨_,rfl⟩
      rw[hgs,hgv]at HG
      rw[hgv]at hgr
      have HGv:=ae hgv
      clear hgs hgv hge
      go_wp2_with fail
      refine(HG.out _ (Below.refl _ _)).mono ?_
      rintro e w2 ⟨rfl,hb2⟩
      have HB2:=ae hb2
      clear hb2 HG
      by_cases h1n:1<n
      ·have h1n':(1:Int)<(n:Int):=by omega
       obtain⟨sv,hrd2,⟨sa,sc,rfl⟩,hsl2⟩:=(HBx.out.below HB2.out).drop (k:=1) (by omega)
       have hcr:=fL (hby.drop 1)
       have HG2:Hid (Calls Tryz.prog 56 #[.slice sa (b.length-1) sc] w2 fun e w'=>e=.returned (.tuple #[.int .i64 (cg (b.drop 1)),.int .i64 (gsz (b.drop 1)),.int .i64 (gerr (b.drop 1))])/\Below w2.heap.size w2 w'):=
        kB _ _ _ (HE.out.below (ai HBw.out HB2.out)) hrd2.reads
       have HPr:Hid (∀W,Calls Tryz.prog 57 #[.agg #[.int .i64 g.c0,.int .i64 g.c1,.int .i64 g.c2,.int .i64 g.c3,.int .i64 g.c4,.int .i64 g.c5,.int .i64 g.c6,.int .i64 g.c7,.int .i64 g.c8,.int .i64 g.c9],.int .i64 a,.int .i64 (cg (b.drop 1))] W fun e w'=>e=.returned (.tuple #[.int .i64 (bA g.c9 a (cg (b.drop 1))),.int .i64 0])/\Below W.heap.size W w'):=by
        intro W
        refine(Proof_any g.c0 g.c1 g.c2 g.c3 g.c4 g.c5 g.c6 g.c7 g.c8 g.c9 a (cg (b.drop 1)) W).mono ?_
        rintro e w' ⟨rfl,h2⟩
        have e0:=sh_prf hr ha (t:=cg (b.drop 1)) (by omega)
        unfold prfM
        rw[e0,if_pos rfl]
        exact⟨rfl,h2⟩
       rw[hlen]at hsl2 HG2
       have hsl3:∀W,(Instr.slice 44 (.slice ao n cap) (some (.int .i64 1)) none none).run Tryz.prog W=.ok (.slice sa (n-1) sc) W:=hsl2
       have HHit:Hid (gsz (b.drop 1)=0\/gv≠bA g.c9 a (cg (b.drop 1))->¬HitP g a b q):=fun h1 h2=>by
        rcases h1 with h1|h1
        ·exact h2.2.1 h1
        ·exact h1 (HGv.out.symm.trans h2.2.2.2.2)
       obtain⟨pn,hpn⟩:∃pn,bA g.c9 a (cg (b.drop 1))=pn:=⟨_,rfl⟩
       obtain⟨cd,hcd⟩:∃cd,cg (b.drop 1)=cd:=⟨_,rfl⟩
       obtain⟨cz,hcz⟩:∃cz,gsz (b.drop 1)=cz:=⟨_,rfl⟩
       obtain⟨ce,hce⟩:∃ce,gerr (b.drop 1)=ce:=⟨_,rfl⟩
       have HCe:Hid (ce=if cz=0 then 2 else 0):=by
        show _=_
        rw[<-hce,<-hcz]
        rfl
       rw[hpn,hcd]at HPr
       rw[hcz,hpn]at HHit
       rw[hcd,hcz,hce]at HG2
       rw[hcd]at hcr
       clear hpn hcd hcz hce hrd2
       go_wp2_with fail
       refine HG2.out.mono ?_
       rintro e w3 ⟨rfl,hb3⟩
       have HB3:=ae (ai HB2.out hb3)
       have HX1:=sh_below HX.out (ai HBw.out HB3.out)
       have d0:w3.cell? ⟨w.heap.size,0,none⟩= some (.int .i64 g.c0):=bQ HX1 0
       have d1:w3.cell? ⟨w.heap.size,1,none⟩= some (.int .i64 g.c1):=bQ HX1 1
       have d2:w3.cell? ⟨w.heap.size,2,none⟩= some (.int .i64 g.c2):=bQ HX1 2
       have d3:w3.cell? ⟨w.heap.size,3,none⟩= some (.int .i64 g.c3):=bQ HX1 3
       have d4:w3.cell? ⟨w.heap.size,4,none⟩= some (.int .i64 g.c4):=bQ HX1 4
       have d5:w3.cell? ⟨w.heap.size,5,none⟩= some (.int .i64 g.c5):=bQ HX1 5
       have d6:w3.cell? ⟨w.heap.size,6,none⟩= some (.int .i64 g.c6):=bQ HX1 6
       have d7:w3.cell? ⟨w.heap.size,7,none⟩= some (.int .i64 g.c7):=bQ HX1 7
       have d8:w3.cell? ⟨w.heap.size,8,none⟩= some (.int .i64 g.c8):=bQ HX1 8
       have d9:w3.cell? ⟨w.heap.size,9,none⟩= some (.int .i64 g.c9):=bQ HX1 9
       clear hb3 HX1 HG2
       go_wp2_with fail
       refine(HPr.out _).mono ?_
       rintro e w4 ⟨rfl,hb4⟩
       have HB4:=ae (ai HB3.out hb4)
       clear hb4 HPr d0 d1 d2 d3 d4 d5 d6 d7 d8 d9
       by_cases hcz:cz=0
       ·have hce:=HCe.out
        rw[if_pos hcz]at hce
        subst hce
        have HX2:=ae (HNext.out (HHit.out (Or.inl hcz)) w4 HB4.out)
        go_wp2_with fail
        go_roundg (n-(q+1))
        case measure=>omega
        case rel=>exact⟨q+1,by go_num,by omega,rfl,HX2⟩
       ·have hce:=HCe.out
        rw[if_neg hcz]at hce
        subst hce
        by_cases hpe:gv=pn
        ·subst hpe
         go_wp2_with fail
         go_ret
         exact⟨⟨⟨true,rfl,fun h=>(by cases h)⟩⟩,ai HB0.out (ai HBw.out HB4.out)⟩
        ·have hpe':(gv==pn)=false:=by simpa using hpe
         have HX2:=ae (HNext.out (HHit.out (Or.inr hpe)) w4 HB4.out)
         go_wp2_with fail
         go_roundg (n-(q+1))
         case measure=>omega
         case rel=>exact⟨q+1,by go_num,by omega,rfl,HX2⟩
      ·have h1n':¬(1:Int)<(n:Int):=by omega
       have HX2:=ae (HNext.out (fun h=>by have:=h.1;omega) w2 HB2.out)
       go_wp2_with fail
       go_roundg (n-(q+1))
       case measure=>omega
       case rel=>exact⟨q+1,by go_num,by omega,rfl,HX2⟩
    ·have hql':¬(q:Int)<(n:Int):=by omega
     have HF:=ae (no_shows HNT.out (fun j hj=>HU.out.2 j (by omega)))
     have HBf:=ae HU.out.1
     go_wp2_with fail
     go_ret
     exact⟨⟨⟨false,rfl,fun _=>HF.out⟩⟩,ai HB0.out HBf.out⟩
def ArrAt(T:TypeId)(w:World)(tb:Nat)(f:Nat->Value):Prop:=∃cur,w.heap[tb]? =some (.cells cur T (0,0))/\∀p,p<256->cur[p]? =some (f p)
theorem ArrAt.chg{T:TypeId}{F:Nat->Prop}{w w':World}{tb:Nat}{f:Nat->Value}(h:ArrAt T w tb f)(hc:Chg F w w')(hF:¬F tb):ArrAt T w' tb f:=by
 obtain⟨cur,h1,h2⟩:=h
 exact⟨cur,by rw[hc.block tb (Array.getElem?_eq_some_iff.1 h1).1 hF];exact h1,h2⟩
theorem ArrAt.below{T:TypeId}{w w':World}{tb:Nat}{f:Nat->Value}(h:ArrAt T w tb f)(hb:Below w.heap.size w w'):ArrAt T w' tb f:=h.chg (F:=fun _=>False) (Chg.of_below hb) id
theorem ArrAt.sf{T:TypeId}{w0 w w':World}{tb:Nat}{f:Nat->Value}(h:ArrAt T w tb f)(hT:¬eQ T)(hc:Chg (SF w0 w) w w'):ArrAt T w' tb f:=by
 obtain⟨cur,h1,h2⟩:=h
 exact⟨cur,box_sf h1 hT hc,h2⟩
theorem ArrAt.cell{T:TypeId}{w:World}{tb:Nat}{f:Nat->Value}(h:ArrAt T w tb f)(p:Nat)(hp:p<256):w.cell? ⟨tb,p,none⟩= some (f p):=by
 obtain⟨cur,h1,h2⟩:=h
 simp[World.cell?,h1,h2 p hp]
theorem ArrAt.frozen{T:TypeId}{w:World}{tb:Nat}{f:Nat->Value}(h:ArrAt T w tb f)(q:Nat):w.frozen? ⟨tb,q,none⟩= false:=by
 obtain⟨cur,h1,_⟩:=h
 exact frozen_of_row w tb q _ _ h1
theorem ArrAt.set{T:TypeId}{w:World}{tb:Nat}{f f':Nat->Value}(h:ArrAt T w tb f)(p:Nat)(v:Value)(hT:∀i,f' i=if i=p then v else f i):ArrAt T (w.setCell ⟨tb,p,none⟩ v) tb f':=by
 obtain⟨cur,h1,h2⟩:=h
 refine⟨_,ak h1 p _,fun i hi=>?_⟩
 rw[Array.getElem?_setIfInBounds,h2 i hi,hT i]
 by_cases e:i=p
 ·subst e
  rw[if_pos rfl,if_pos rfl,if_pos (by have:=(Array.getElem?_eq_some_iff.1 (h2 i hi)).1;omega)]
 ·rw[if_neg (Ne.symm e),if_neg e]
structure BdP where
 wi:World
 wc:World
 cb:Nat
 ab:Nat
 eb:Nat
 pb:Nat
 sb:Nat
 g:Cfg
structure Bd(p:BdP)(N:Nat)(M L:Int)(s:ay)(came went:Nat->Int)(pv:Nat->Bool)(w:World):Prop where
 live:Live p.wc N M L w p.sb s
 fair:FairS s
 cfg:s.c=p.g
 cfgB:w.heap[p.cb]? =some (.cells (ez p.g) 26 (0,0))
 ca:ArrAt 70 w p.ab (fun i=>.int .i64 (came i))
 wa:ArrAt 70 w p.eb (fun i=>.int .i64 (went i))
 pa:ArrAt 71 w p.pb (fun i=>.bool (pv i))
 bel:Below p.wi.heap.size p.wi w
 lay:p.wi.heap.size<=p.wc.heap.size/\p.wc.heap.size<=p.ab/\p.wc.heap.size<=p.eb/\p.wc.heap.size<=p.pb/\p.ab≠p.eb
theorem Bd.below{p:BdP}{N:Nat}{M L:Int}{s:ay}{came went:Nat->Int}{pv:Nat->Bool}{w w':World}(h:Bd p N M L s came went pv w)(hb:Below w.heap.size w w'):Bd p N M L s came went pv w':=
 ⟨h.live.below hb,h.fair,h.cfg,dq h.cfgB hb,h.ca.below hb,h.wa.below hb,h.pa.below hb,ai h.bel hb,h.lay⟩
theorem Bd.mono{p:BdP}{N N':Nat}{M M' L L':Int}{s:ay}{came went:Nat->Int}{pv:Nat->Bool}{w:World}(h:Bd p N M L s came went pv w)(hN:N<=N')(hM:M<=M')(hL:L<=L'):Bd p N' M' L' s came went pv w:=
 ⟨h.live.mono hN hM hL,h.fair,h.cfg,h.cfgB,h.ca,h.wa,h.pa,h.bel,h.lay⟩
theorem Bd.srv{p:BdP}{N N':Nat}{M M' L L':Int}{s s':ay}{came went:Nat->Int}{pv:Nat->Bool}{w w':World}(h:Bd p N M L s came went pv w)(hl:Live p.wc N' M' L' w' p.sb s')(hc:Chg (SF p.wc w) w w')(hf:FairS s')(hg:s'.c=s.c):Bd p N' M' L' s' came went pv w':=by
 have hlay:=h.lay
 refine⟨hl,hf,hg.trans h.cfg,box_sf h.cfgB (by simp[eQ]) hc,h.ca.sf (by simp[eQ]) hc,h.wa.sf (by simp[eQ]) hc,h.pa.sf (by simp[eQ]) hc,⟨hc.os.trans h.bel.os,hc.tape.trans h.bel.tape,hc.output.trans h.bel.output,Nat.le_trans h.bel.size hc.size,fun k hk=>?_⟩,h.lay⟩
 rw[hc.block k (Nat.lt_of_lt_of_le hk h.bel.size) (fun e=>by have:=e.1;omega),h.bel.block k hk]
theorem jL(w:World)(tb q:Nat)(v:Value):Chg (fun k=>k=tb) w (w.setCell ⟨tb,q,none⟩ v):=by
 refine⟨rfl,rfl,rfl,by simp[World.setCell],fun j _ hj=>?_⟩
 simp only[World.setCell]
 rw[Array.getElem?_modify]
 rw[if_neg (fun e=>hj e.symm)]
theorem Bd.at{p:BdP}{N:Nat}{M L:Int}{s:ay}{came went:Nat->Int}{pv:Nat->Bool}{w:World}(h:Bd p N M L s came went pv w){T:TypeId}(hT:¬eQ T/\T≠5){tb:Nat}{f:Nat->Value}(ha:ArrAt T w tb f)(hb:p.wc.heap.size<=tb)(q:Nat)(v:Value):
  Live p.wc N M L (w.setCell ⟨tb,q,none⟩ v) p.sb s/\Below p.wi.heap.size p.wi (w.setCell ⟨tb,q,none⟩ v)/\Chg (fun k=>k=tb) w (w.setCell ⟨tb,q,none⟩ v):=by
 have hc:=jL w tb q v
 obtain⟨cur,h1,_⟩:=ha
 have hlay:=h.lay
 refine⟨h.live.other (T:=T) hT hc (fun k hk=>by subst hk;exact⟨hb,cur,(0,0),h1⟩),⟨hc.os.trans h.bel.os,hc.tape.trans h.bel.tape,hc.output.trans h.bel.output,Nat.le_trans h.bel.size hc.size,fun k hk=>?_⟩,hc⟩
 rw[hc.block k (Nat.lt_of_lt_of_le hk h.bel.size) (fun e=>by omega),h.bel.block k hk]
theorem eK{w:World}{a b:Nat}{ca cb:Array Value}{ta tb:TypeId}{fa fb:Nat×Nat}(h1:w.heap[a]? =some (.cells ca ta fa))(h2:w.heap[b]? =some (.cells cb tb fb))(h:ta≠tb):a≠b:=fun e=>by
 subst e
 rw[h1]at h2
 simp only[Option.some.injEq,Obj.cells.injEq]at h2
 exact h h2.2.1
theorem Bd.came{p:BdP}{N:Nat}{M L:Int}{s:ay}{came came' went:Nat->Int}{pv:Nat->Bool}{w:World}(h:Bd p N M L s came went pv w)(q:Nat)(v:Int)(hf:∀i,came' i=if i=q then v else came i):Bd p N M L s came' went pv (w.setCell ⟨p.ab,q,none⟩ (.int .i64 v)):=by
 have hlay:=h.lay
 obtain⟨h1,h2,hc⟩:=h.at (T:=70) (by simp[eQ]) h.ca hlay.2.1 q (.int .i64 v)
 obtain⟨ca,hca,_⟩:=id h.ca
 obtain⟨pa,hpa,_⟩:=id h.pa
 refine⟨h1,h.fair,h.cfg,?_,h.ca.set q _ (fun i=>by rw[hf i];split<;>rfl),h.wa.chg hc (fun e=>hlay.2.2.2.2 e.symm),h.pa.chg hc (eK hpa hca (by decide)),h2,h.lay⟩
 rw[hc.block p.cb (Array.getElem?_eq_some_iff.1 h.cfgB).1 (eK h.cfgB hca (by decide))]
 exact h.cfgB
theorem Bd.went{p:BdP}{N:Nat}{M L:Int}{s:ay}{came went went':Nat->Int}{pv:Nat->Bool}{w:World}(h:Bd p N M L s came went pv w)(q:Nat)(v:Int)(hf:∀i,went' i=if i=q then v else went i):Bd p N M L s came went' pv (w.setCell ⟨p.eb,q,none⟩ (.int .i64 v)):=by
 have hlay:=h.lay
 obtain⟨h1,h2,hc⟩:=h.at (T:=70) (by simp[eQ]) h.wa hlay.2.2.1 q (.int .i64 v)
 obtain⟨wa,hwa,_⟩:=id h.wa
 obtain⟨pa,hpa,_⟩:=id h.pa
 refine⟨h1,h.fair,h.cfg,?_,h.ca.chg hc (fun e=>hlay.2.2.2.2 e),h.wa.set q _ (fun i=>by rw[hf i];split<;>rfl),h.pa.chg hc (eK hpa hwa (by decide)),h2,h.lay⟩
 rw[hc.block p.cb (Array.getElem?_eq_some_iff.1 h.cfgB).1 (eK h.cfgB hwa (by decide))]
 exact h.cfgB
theorem Bd.pv{p:BdP}{N:Nat}{M L:Int}{s:ay}{came went:Nat->Int}{pv pv':Nat->Bool}{w:World}(h:Bd p N M L s came went pv w)(q:Nat)(v:Bool)(hf:∀i,pv' i=if i=q then v else pv i):Bd p N M L s came went pv' (w.setCell ⟨p.pb,q,none⟩ (.bool v)):=by
 have hlay:=h.lay
 obtain⟨h1,h2,hc⟩:=h.at (T:=71) (by simp[eQ]) h.pa hlay.2.2.2.1 q (.bool v)
 obtain⟨ca,hca,_⟩:=id h.ca
 obtain⟨wa,hwa,_⟩:=id h.wa
 obtain⟨pa,hpa,_⟩:=id h.pa
 refine⟨h1,h.fair,h.cfg,?_,h.ca.chg hc (eK hca hpa (by decide)),h.wa.chg hc (eK hwa hpa (by decide)),h.pa.set q _ (fun i=>by rw[hf i];split<;>rfl),h2,h.lay⟩
 rw[hc.block p.cb (Array.getElem?_eq_some_iff.1 h.cfgB).1 (eK h.cfgB hpa (by decide))]
 exact h.cfgB
structure GrmE where
 addr:Int
 tick:Int
 cid:Int
 str:Int
 bv:Value
 bs:List Int
def kH(x:Int):Prop:=-9223372036854775808<=x/\x<=9223372036854775807
structure GramsAt [LoM] (w:World)(ao:Option Addr)(l:List GrmE):Prop where
 at_:∀(k:Nat) (o:GrmE),l[k]? =some o->∃b off,ao=some ⟨b,off,none⟩/\w.cell? ⟨b,off+k*5,none⟩= some (.int .i64 o.addr)/\w.cell? ⟨b,off+k*5+1,none⟩= some (.int .i64 o.tick)/\w.cell? ⟨b,off+k*5+2,none⟩= some (.int .i64 o.cid)/\w.cell? ⟨b,off+k*5+3,none⟩= some (.int .i64 o.str)/\w.cell? ⟨b,off+k*5+4,none⟩= some o.bv/\RdB w o.bv o.bs
 rng:∀o∈l,kH o.addr/\kH o.tick/\kH o.cid/\kH o.str/\o.bs.length<=1048576
end Go.Proofs.YthmdjhlhodpbhaaGreatDoor
namespace Go.Proofs.YthmdjhlhodpbhaaGreatDoor
open Go.RowKit Go.Deep Go.ChangeShapes Go.WideShapes Go.ChangeAt
section
variable {H : Type} {enc : TypeId × Value -> H} {w : World} {spare : Nat -> Bool} {held : Bool}
theorem grmE_of_trod{n:Nat}{cs:List Value}{x:DataW H×List MemPlace}(h:DataW.trod enc Tryz.prog w 0 spare held n 55 cs=some x)(hw:Rows.uptoBulk x.1<=1048576):
  ∃o:GrmE,cs=[.int .i64 o.addr,.int .i64 o.tick,.int .i64 o.cid,.int .i64 o.str,o.bv]/\@RdB (jm w) w o.bv o.bs/\kH o.addr/\kH o.tick/\kH o.cid/\kH o.str/\o.bs.length<=1048576:=by
 obtain⟨xs,m,_,rfl,hl,hlen,hf⟩:=DataW.trod_struct Tryz.underlying55 h
 have hlen':xs.length=5:=hlen
 rw[kcells_grm]at hl
 obtain⟨x0,x1,x2,x3,x4,rfl⟩:=klen5 hl
 have g0:DataW.trod enc Tryz.prog w 0 spare held m 3 ((List.drop 0 [x0,x1,x2,x3,x4]).take (Tryz.prog.cellsOf 3))=xs[0]?:=hf 0 _ rfl
 rw[bV]at g0
 obtain⟨c0,rfl,r0⟩:=fS (xs:=xs) (i:=0) (by omega) (by simpa using g0)
 have g1:DataW.trod enc Tryz.prog w 0 spare held m 3 ((List.drop 1 [.int .i64 c0,x1,x2,x3,x4]).take (Tryz.prog.cellsOf 3))=xs[1]?:=hf 1 _ rfl
 rw[bV]at g1
 obtain⟨c1,rfl,r1⟩:=fS (xs:=xs) (i:=1) (by omega) (by simpa using g1)
 have g2:DataW.trod enc Tryz.prog w 0 spare held m 3 ((List.drop 2 [.int .i64 c0,.int .i64 c1,x2,x3,x4]).take (Tryz.prog.cellsOf 3))=xs[2]?:=hf 2 _ rfl
 rw[bV]at g2
 obtain⟨c2,rfl,r2⟩:=fS (xs:=xs) (i:=2) (by omega) (by simpa using g2)
 have g3:DataW.trod enc Tryz.prog w 0 spare held m 3 ((List.drop 3 [.int .i64 c0,.int .i64 c1,.int .i64 c2,x3,x4]).take (Tryz.prog.cellsOf 3))=xs[3]?:=hf 3 _ rfl
 rw[bV]at g3
 obtain⟨c3,rfl,r3⟩:=fS (xs:=xs) (i:=3) (by omega) (by simpa using g3)
 have g4:DataW.trod enc Tryz.prog w 0 spare held m 44 ((List.drop 4 [.int .i64 c0,.int .i64 c1,.int .i64 c2,.int .i64 c3,x4]).take (Tryz.prog.cellsOf 44))=xs[4]?:=hf 4 _ rfl
 rw[kcells_bytes,List.getElem?_eq_getElem (by omega)]at g4
 have g4':DataW.trod enc Tryz.prog w 0 spare held m 44 [x4]=some xs[4]:=by simpa using g4
 obtain⟨bs,hb,hbl⟩:=kbytes_of_trod g4' (Nat.le_trans (kbulk_mem (List.mem_map.2 ⟨xs[4],List.getElem_mem _,rfl⟩)) (by
  simp only[Rows.uptoBulk]at hw
  exact Nat.le_of_succ_le hw))
 exact⟨⟨c0,c1,c2,c3,x4,bs⟩,rfl,hb,r0,r1,r2,r3,hbl⟩
theorem gramsE_of_trod{n:Nat}{v:Value}{x:DataW H×List MemPlace}(h:DataW.trod enc Tryz.prog w 0 spare held n 52 [v]=some x)(hw:Rows.uptoBulk x.1<=1048576):
  ∃(ao:Option Addr) (cap:Nat) (l:List GrmE),v=.slice ao l.length cap/\@GramsAt (jm w) w ao l/\l.length<=1048576:=by
 letI:LoM:=jm w
 rcases open_slice Tryz.underlying52 h with⟨hcs,_⟩|⟨a,len,cap,m,n',D,Pl,hcs,_,hl,_,hm,hx,hel⟩
 ·simp only[List.cons.injEq,and_true]at hcs
  subst hcs
  exact⟨none,0,[],rfl,⟨fun k o hk=>by simp at hk,fun o ho=>by cases ho⟩,by simp⟩
 ·simp only[List.cons.injEq,and_true]at hcs
  subst hcs
  have hlm:len<=m:=by rw[hm];split<;>omega
  rw[hx]at hw
  simp only[Rows.uptoBulk]at hw
  have hlen:len<=1048576:=by
   have:=kbulk_len ((List.range len).map D)
   rw[List.length_map,List.length_range]at this
   omega
  have hdw:∀i,i<len->Rows.uptoBulk (D i)<=1048576:=by
   intro i hi
   have:=kbulk_mem (d:=D i) (l:=(List.range len).map D) (List.mem_map.2 ⟨i,List.mem_range.2 hi,rfl⟩)
   omega
  rw[kcells_grm]at hel
  have hops:∀i,i<len->∃o:GrmE,w.cells? 0 (a.add (i*5)) 5=some [.int .i64 o.addr,.int .i64 o.tick,.int .i64 o.cid,.int .i64 o.str,o.bv]/\@RdB (jm w) w o.bv o.bs/\kH o.addr/\kH o.tick/\kH o.cid/\kH o.str/\o.bs.length<=1048576:=by
   intro i hi
   obtain⟨cs,h1,h2⟩:=hel i (by omega)
   obtain⟨o,rfl,ho⟩:=grmE_of_trod h2 (hdw i hi)
   exact⟨o,h1,ho⟩
  haveI:Inhabited GrmE:=⟨⟨0,0,0,0,.slice none 0 0,[]⟩⟩
  obtain⟨f,hf⟩:=kchoose hops
  have hol:((List.range len).map f).length=len:=by simp
  refine⟨some a,cap,(List.range len).map f,by rw[hol],⟨fun k o hk=>?_,fun o ho=>?_⟩,by rw[hol];exact hlen⟩
  ·have hkl:k<len:=by
    have:=(List.getElem?_eq_some_iff.1 hk).1
    rw[hol]at this
    exact this
   have ho:o=f k:=by
    simp only[List.getElem?_map,List.getElem?_range hkl,Option.map_some,Option.some.injEq]at hk
    exact hk.symm
   subst ho
   obtain⟨hcs,hrd,_⟩:=hf k hkl
   obtain⟨_,_,hr⟩:=World.cells?_some hcs
   have c0:=hr 0 (by decide)
   have c1:=hr 1 (by decide)
   have c2:=hr 2 (by decide)
   have c3:=hr 3 (by decide)
   have c4:=hr 4 (by decide)
   have z0:=(World.cells?_some (hf 0 (by omega)).1).2.2 0 (by decide)
   obtain⟨b,off,spot⟩:=a
   have hspot:spot=none:=by simpa[Addr.add] using World.cell?_spot z0
   subst hspot
   rw[add_plain,add_plain]at c0 c1 c2 c3 c4
   exact⟨b,off,rfl,by simpa using c0,by simpa using c1,by simpa using c2,by simpa using c3,by simpa using c4,hrd⟩
  ·obtain⟨i,hi,rfl⟩:=List.mem_map.1 ho
   exact(hf i (List.mem_range.1 hi)).2.2
end
end Go.Proofs.YthmdjhlhodpbhaaGreatDoor
