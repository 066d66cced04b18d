/- Apart, 38 -/
import Derived.BigQuiet
import Derived.Deep.CutBlock
import Derived.Test.YthmdjhlhodpbhaaGreatDoorA37
set_option maxHeartbeats 16000000
set_option maxRecDepth 8000
namespace Go.Proofs.YthmdjhlhodpbhaaGreatDoor
open Go.RowKit
theorem ve [LoM] (kind st fr tt:Int)(w:World)(hk:0<=kind/\kind<256)(hs:0<=st/\st<=1073741823)(hf:0<=fr/\fr<=tt)(ht:tt<=1073741823)(hd:tt-fr<=1000):
  Calls Tryz.prog 23 #[.int .i64 kind,.int .i64 st,.int .i64 fr,.int .i64 tt] w fun e w'=>∃v,e=.returned v/\w'.ownsRow w.heap.size 5 1 v (cQ kind st fr tt).length (U8 (cQ kind st fr tt))/\Below w.heap.size w w':=by
 obtain⟨i0,hi,hz0,hz1,hz2⟩:=info_parts gn
 have hb0:Below w.heap.size w (w.alloc (.cells #[.int .u8 kind] 5)):=ag w _
 have HL:=ab (RdB.lit w [kind] (fun x hx=>by rw[List.mem_singleton.1 hx];exact hk) (by simp) (by simp))
 have HN1:=ab (dY st (w.alloc (.cells #[.int .u8 kind] 5)) hs)
 have HN2:=ab (fun W=>dY fr W (by omega))
 have HN3:=ab (fun W=>dY (tt-fr) W (by omega))
 have HB0:=ab hb0
 have HJ:Hid (∀(W:World) (v1 v2 v3:Value) (base1 base2 base3:Nat),Below w.heap.size w W->RdB W (.slice (some ⟨w.heap.size,0,none⟩) 1 1) [kind]->W.ownsRow base1 5 1 v1 (az st).length (U8 (az st))->W.ownsRow base2 5 1 v2 (az fr).length (U8 (az fr))->W.ownsRow base3 5 1 v3 (az (tt-fr)).length (U8 (az (tt-fr)))->
   Calls Tryz.prog 32 #[.slice (some ⟨W.heap.size,0,none⟩) 4 4] (W.alloc (.cells #[.slice (some ⟨w.heap.size,0,none⟩) 1 1,v1,v2,v3] 44)) fun e w'=>∃v,e=.returned v/\w'.ownsRow w.heap.size 5 1 v ([kind]++az st++az fr++az (tt-fr)).length (U8 ([kind]++az st++az fr++az (tt-fr)))/\Below w.heap.size w w'):=by
  intro W v1 v2 v3 base1 base2 base3 hW hA hv1 hv2 hv3
  have hb:=ag W (.cells #[.slice (some ⟨w.heap.size,0,none⟩) 1 1,v1,v2,v3] 44)
  have e:ej [(.slice (some ⟨w.heap.size,0,none⟩) 1 1,[kind]),(v1,az st),(v2,az fr),(v3,az (tt-fr))]=[kind]++az st++az fr++az (tt-fr):=by simp[ej]
  have k1:=aZ st
  have k2:=aZ fr
  have k3:=aZ (tt-fr)
  have h9:=iT [(.slice (some ⟨w.heap.size,0,none⟩) 1 1,[kind]),(v1,az st),(v2,az fr),(v3,az (tt-fr))] W.heap.size 4 (W.alloc (.cells #[.slice (some ⟨w.heap.size,0,none⟩) 1 1,v1,v2,v3] 44)) (fun j p hj=>?_) (fun p hp=>?_) (by simp) (by rw[e];simp only[List.length_append,List.length_cons,List.length_nil];omega)
  ·rw[e]at h9
   refine h9.mono ?_
   rintro e' w' ⟨v,rfl,ho,hbl⟩
   exact⟨v,rfl,ch ho (Nat.le_trans hW.size hb.size),ai (ai hW hb) hbl⟩
  ·match j with
   |0=>simp only[List.getElem?_cons_zero,Option.some.injEq]at hj;subst hj;simp
   |1=>simp only[List.getElem?_cons_succ,List.getElem?_cons_zero,Option.some.injEq]at hj;subst hj;simp
   |2=>simp only[List.getElem?_cons_succ,List.getElem?_cons_zero,Option.some.injEq]at hj;subst hj;simp
   |3=>simp only[List.getElem?_cons_succ,List.getElem?_cons_zero,Option.some.injEq]at hj;subst hj;simp
   |j+4=>simp at hj
  ·simp only[List.mem_cons,List.not_mem_nil,or_false]at hp
   rcases hp with rfl|rfl|rfl|rfl
   ·exact hA.below hb
   ·exact(RdB.of_own hv1 (bw _ hs.1 hs.2) (by omega)).below hb
   ·exact(RdB.of_own hv2 (bw _ (by omega) (by omega)) (by omega)).below hb
   ·exact(RdB.of_own hv3 (bw _ (by omega) (by omega)) (by omega)).below hb
 have HLt:=ab (fun(p:Int) (W:World) (hp:0<=p/\p<=2000000000)=>n7 st p W (by omega) (by omega))
 obtain⟨n,hn⟩:∃n:Nat,tt-fr=n:=⟨(tt-fr).toNat,by omega⟩
 have hPl:(az st).length+(az fr).length+(az (tt-fr)).length<=12:=by
  have k1:=aZ st
  have k2:=aZ fr
  have k3:=aZ (tt-fr)
  omega
 have HPc:Hid (cQ kind st fr tt=([kind]++az st++az fr++az (tt-fr))++aV st fr n):=by
  show _=_
  unfold cQ
  rw[show(tt-fr).toNat=n by omega]
 have hll:([kind]++az st++az fr++az (tt-fr)).length<=13:=by simp only[List.length_append,List.length_cons,List.length_nil];omega
 have HTo:=ab (show tt=fr+(n:Int) by omega)
 have HHl:=ab hll
 obtain⟨hk0,hk1⟩:=hk
 clear hb0 hPl hn hll
 generalize [kind]++az st++az fr++az (tt-fr)=P at HJ HPc HHl
 go_enter Tryz.func23,Tryz.ntmps23
 go_wp2_with fail
 refine HN1.out.mono ?_
 rintro e w1 ⟨v1,rfl,ho1,hb1⟩
 obtain⟨a1,c1,rfl⟩:=aH ho1
 have HO1:=ab ho1
 have HB1:=ab hb1
 clear ho1 hb1 HN1
 go_wp2_with fail
 refine(HN2.out w1).mono ?_
 rintro e w2 ⟨v2,rfl,ho2,hb2⟩
 obtain⟨a2,c2,rfl⟩:=aH ho2
 have HO2:=ab ho2
 have HB2:=ab hb2
 clear ho2 hb2 HN2
 go_wp2_with fail
 refine(HN3.out w2).mono ?_
 rintro e w3 ⟨v3,rfl,ho3,hb3⟩
 obtain⟨a3,c3,rfl⟩:=aH ho3
 have HJ2:=ab (HJ.out w3 _ _ _ _ _ _ (ai (ai (ai HB0.out HB1.out) HB2.out) hb3) (((HL.out.below HB1.out).below HB2.out).below hb3) (aF (aF HO1.out HB2.out) hb3) (aF HO2.out hb3) ho3)
 clear ho3 hb3 HN3 HJ HO1 HO2 HB0 HB1 HB2 HL
 go_wp2_with fail
 refine HJ2.out.mono ?_
 rintro e w4 ⟨v4,rfl,ho4,hb4⟩
 obtain⟨a4,c4,rfl⟩:=aH ho4
 have HO4:=ab (And.intro ho4 hb4)
 clear ho4 hb4 HJ2
 obtain⟨pl,hpl⟩:∃pl,P.length=pl:=⟨_,rfl⟩
 have hll:=HHl.out
 rw[hpl]at HO4 hll⊢
 have HPl:=ab hpl
 clear hpl
 go_wp2_with fail
 go_loopw [9,10] (fun o i wr=>∃(k:Nat) (ao:Option Addr) (m cp:Nat),k<=n/\i=.int .i64 (fr+(k:Int))/\o=.slice ao m cp/\m=pl+k/\Hid (wr.ownsRow w.heap.size 5 1 (.slice ao m cp) m (U8 (P++aV st fr k)))/\Below w.heap.size w wr) (fun _ i _=>n-(intOf i-fr).toNat)
 case atStart=>exact⟨0,a4,pl,c4,Nat.zero_le _,by simp,rfl,rfl,ab (by simpa[aV] using HO4.out.1),HO4.out.2⟩
 case round=>
  obtain⟨k,ao,m,cp,hk,rfl,rfl,rfl,hO,hbw⟩:=hrel
  have HB:=ab hbw
  have hsz:=hbw.size
  by_cases hlt:k<n
  ·have hlt2:fr+(k:Int)<tt:=by have:=HTo.out;omega
   have HLk:=ab (HLt.out (fr+(k:Int)) wr (by omega))
   have hkb:pl+k<=2000000:=by have:=HTo.out;omega
   have HSn:=ab (qE st fr k)
   have hby:=jY (st:=st) (p:=fr+(k:Int))
   generalize dO st (fr+(k:Int))=L at HLk HSn hby
   clear hbw
   go_wp2_with fail
   refine HLk.out.mono ?_
   rintro e w5 ⟨rfl,rfl⟩
   clear HLk
   have HLc:=ab (cJ wr 5 [.int .u8 L] (by simp[maxLen]))
   have HOa:=ab (aF hO.out (ag wr (.cells #[.int .u8 L] 5)))
   have hsz2:w.heap.size<=(wr.alloc (.cells #[.int .u8 L] 5)).heap.size:=by simp;omega
   go_wp2_with (first
    |(at_builtin;refine wpList_append_own _ rfl _ _ 44 rfl w.heap.size 5 i0 (.int .u8 0) 1 1 Tryz.underlying44 hi hz0 hz1 hz2 rfl (by decide) (.slice ao (pl+k) cp) (pl+k) (U8 (P++aV st fr k)) rfl HOa.out ⟨wr.heap.size,0,none⟩ 1 1 [.int .u8 L] rfl rfl HLc.out (by simp[Value.oneCell']) (by unfold maxLen;omega) (by omega) hsz2 ?_;intro v1 w6 hown1 hgrow1 _))
   obtain⟨b1,d1,rfl⟩:=aH hown1
   have HO1:=ab (And.intro hown1 hgrow1)
   clear hown1 hgrow1
   go_wp2_with fail
   go_roundw
   case rel=>
    refine⟨k+1,b1,pl+k+1,d1,by omega,by go_num,rfl,by omega,?_,?_⟩
    ·show World.ownsRow _ _ _ _ _ _ _
     rw[HSn.out,<-List.append_assoc,lj]
     exact HO1.out.1
    ·exact(ai HB.out (ag wr _)).grown HO1.out.2 (by simp;omega) (fun q hq=>(hO.out.lt q hq).1)
   case measure=>simp[intOf];omega
  ·obtain rfl:k=n:=by omega
   have hlt2:¬fr+(k:Int)<tt:=by have:=HTo.out;omega
   go_wp2_with fail
   go_ret
   refine⟨_,rfl,?_,HB.out⟩
   rw[HPc.out,List.length_append,cz,HPl.out]
   exact hO.out
theorem tq{k st fr tt:Int}(hk:0<=k/\k<256)(hs:0<=st/\st<=1073741823)(hf:0<=fr/\fr<=tt)(ht:tt<=1073741823):Bytes (cQ k st fr tt):=by
 refine((((Bytes.cons hk Bytes.nil).append (bw _ hs.1 hs.2)).append (bw _ (by omega) (by omega))).append (bw _ (by omega) (by omega))).append ?_
 intro x hx
 obtain⟨i,_,rfl⟩:=List.mem_map.1 hx
 exact jY
theorem lR{k st fr tt:Int}(hf:0<=fr/\fr<=tt):((cQ k st fr tt).length:Int)<=13+(tt-fr):=by
 have k1:=aZ st
 have k2:=aZ fr
 have k3:=aZ (tt-fr)
 simp only[cQ,List.length_append,List.length_cons,List.length_nil,cz]
 omega
theorem pB [LoM] (k st fr tt:Int)(w:World)(hk:0<=k/\k<256)(hs:0<=st/\st<=1073741823)(hf:0<=fr/\fr<=tt)(ht:tt<=1073741823)(hd:tt-fr<=900):
  Calls Tryz.prog 23 #[.int .i64 k,.int .i64 st,.int .i64 fr,.int .i64 tt] w fun e w'=>∃ao l cap,e=.returned (.slice ao l cap)/\RdB w' (.slice ao l cap) (cQ k st fr tt)/\Below w.heap.size w w':=by
 refine(ve k st fr tt w hk hs hf ht (by omega)).mono ?_
 rintro e w' ⟨v,rfl,ho,hb⟩
 obtain⟨ao,cap,rfl⟩:=aH ho
 have hl:=lR (k:=k) (st:=st) hf
 exact⟨ao,_,cap,rfl,RdB.of_own ho (tq hk hs hf ht) (by omega),hb⟩
theorem mx{k st fr tt:Int}(hk:k=3\/k=4)(hs:0<=st/\st<=1073741823)(hf:0<=fr/\fr<=tt)(ht:tt<=1073741823):
  bR (cQ k st fr tt)=some (⟨k,st,fr,0,aV st fr (tt-fr).toNat⟩,(cQ k st fr tt).length)/\cQ k st fr tt≠[]:=by
 have hl:=cz st fr (tt-fr).toNat
 have e:((aV st fr (tt-fr).toNat).length:Int)=tt-fr:=by rw[hl];omega
 have h:=uR (k:=k) (id:=st) (ofs:=fr) (bs:=aV st fr (tt-fr).toNat) (r:=[]) hk hs (by omega) (by rw[hl];omega)
 rw[e,List.append_nil]at h
 exact⟨h,by simp[cQ]⟩
def fO(st n:Int):List Int:=[5]++az st++az n
theorem uS{st n:Int}(hs:0<=st/\st<=1073741823)(hn:0<=n/\n<=1073741823):bR (fO st n)=some (⟨5,st,n,0,[]⟩,(fO st n).length)/\fO st n≠[]:=by
 have e:fO st n=5::(([st,n].map az).flatten++[]):=by simp[fO]
 have h:=pI 5 [st,n] [] (by
  intro x hx
  simp only[List.mem_cons,List.not_mem_nil,or_false]at hx
  rcases hx with rfl|rfl<;>omega) 2 (by simp)
 refine⟨?_,by simp[fO]⟩
 rw[e]
 unfold bR
 simp only[List.getD_cons_zero,show dj 5=some 2 from rfl]
 rw[h]
 simp only[List.take_succ_cons,List.take_zero,List.getD_cons_zero,List.getD_cons_succ,Option.some.injEq,Prod.mk.injEq,true_and]
 simp
 omega
def toK(c:aY)(k:KS)(fr cc:Int):Int:=if lB c k<fr+aP cc 12 then lB c k else fr+aP cc 12
def eE(g:Cfg)(c:aY)(kd aa bb cc:Int):aY:=
 match c.strs[(aP aa c.strs.length).toNat]? with
 |none=>c
 |some k=>
  if kd=0 then
   if toK c k (aP bb (k.high+1)) cc<aP bb (k.high+1) then c
   else {c with strs:=c.strs.set (aP aa c.strs.length).toNat {k with high:=max k.high (toK c k (aP bb (k.high+1)) cc)},old:=c.old++[cQ 3 (aP aa c.strs.length).toNat (aP bb (k.high+1)) (toK c k (aP bb (k.high+1)) cc)]}
  else if kd=1 then
   if k.fin<0 then {c with strs:=c.strs.set (aP aa c.strs.length).toNat {k with fin:=k.high},old:=c.old++[cQ 4 (aP aa c.strs.length).toNat k.high k.high]} else c
  else if kd=2 then c
  else if kd=3 then
   if k.fin<0/\k.read<k.high then {c with strs:=c.strs.set (aP aa c.strs.length).toNat {k with fin:=k.high},old:=c.old++[fO (aP aa c.strs.length).toNat k.high]} else c
  else kj g c (aP aa c.strs.length).toNat k (aP bb 40)
theorem may_le{c:aY}{k:KS}:lB c k<=k.piece/\lB c k<=k.high+c.credit-bN c.strs/\(0<=k.fin->lB c k<=k.fin):=by
 unfold lB qF
 refine⟨?_,?_,fun h=>?_⟩<;>(repeat' split)<;>omega
theorem to_le{c:aY}{k:KS}{fr cc:Int}:toK c k fr cc<=lB c k/\toK c k fr cc<=fr+11:=by
 have:=aT cc (n:=12) (by decide)
 unfold toK
 split<;>omega
theorem high_inv{g:Cfg}{Z:Int}{c:aY}(h:KInv g Z c){i:Nat}{k:KS}(hk:c.strs[i]? =some k){tt:Int}(h1:tt<=k.piece)(h2:tt<=k.high+c.credit-bN c.strs)(h3:0<=k.fin->tt<=k.fin)(h4:tt<=k.high+11)(o:List (List Int)):KInv g (Z+11) {c with strs:=c.strs.set i {k with high:=max k.high tt},old:=o}:=by
 have hko:=h.str k (lMm hk)
 have hr:=hko.read
 have hp:=hko.piece
 have e1:bN (c.strs.set i {k with high:=max k.high tt})=bN c.strs-k.high+max k.high tt:=by
  unfold bN
  rw[ie _ hk]
 have e2:readK (c.strs.set i {k with high:=max k.high tt})=readK c.strs:=by
  unfold readK
  rw[ie _ hk]
  simp
 have hs:=h.sum
 have hz:=h.high
 refine⟨fun k' hk'=>?_,?_,?_,h.low,?_⟩
 ·rcases j6 hk' with hk'|rfl
  ·exact h.str k' hk'
  ·refine⟨by simp only;omega,by simp only;omega,?_,fun hd=>?_⟩
   ·rcases hko.fin with e|e
    ·exact Or.inl e
    ·have:=h3 (by omega)
     exact Or.inr (by simp only;omega)
   ·obtain⟨d1,d2⟩:=hko.done hd
    have:=h3 (by omega)
    exact⟨by simp only;omega,by simp only;omega⟩
 ·simp only[e1];omega
 ·simp only[e2];exact h.fol
 ·simp only[e1];omega
theorem fin_inv{g:Cfg}{Z:Int}{c:aY}(h:KInv g Z c){i:Nat}{k:KS}(hk:c.strs[i]? =some k)(hf:k.fin<0)(o:List (List Int)):KInv g (Z+11) {c with strs:=c.strs.set i {k with fin:=k.high},old:=o}:=by
 have hko:=h.str k (lMm hk)
 have hr:=hko.read
 have e1:bN (c.strs.set i {k with fin:=k.high})=bN c.strs:=by
  unfold bN
  rw[ie _ hk]
  simp
 have e2:readK (c.strs.set i {k with fin:=k.high})=readK c.strs:=by
  unfold readK
  rw[ie _ hk]
  simp
 refine⟨fun k' hk'=>?_,?_,?_,h.low,?_⟩
 ·rcases j6 hk' with hk'|rfl
  ·exact h.str k' hk'
  ·refine⟨hko.read,hko.piece,Or.inr rfl,fun hd=>?_⟩
   have:=(hko.done hd).1
   omega
 ·simp only[e1];exact h.sum
 ·simp only[e2];exact h.fol
 ·simp only[e1];have:=h.high;omega
theorem hear_len(g:Cfg)(c:aY)(e:Ev):c.strs.length<=(bk g c e).strs.length:=by
 cases e using evCas with
 |piece i m=>simp only[bk];split<;>simp
 |data m=>simp[bk]
 |streams m=>simp[bk]
theorem rK(g:Cfg):∀(l:List Ev) (c:aY),c.strs.length<=(l.foldl (bk g) c).strs.length
 |[],_=>Nat.le_refl _
 |e::r,c=>Nat.le_trans (hear_len g c e) (rK g r _)
theorem gots_len{g:Cfg}{c:aY}{i:Nat}{k:KS}{most:Int}:c.strs.length<=(kj g c i k most).strs.length:=by
 have:=rK g (iB g c i k most) {c with strs:=c.strs.set i (bT k most)}
 simp only[List.length_set]at this
 exact this
theorem KInv.mono{g:Cfg}{Z Z':Int}{c:aY}(h:KInv g Z c)(hz:Z<=Z'):KInv g Z' c:=⟨h.str,h.sum,h.fol,h.low,by have:=h.high;omega⟩
theorem vM{g:Cfg}(hg:bM g){Z:Int}{c:aY}(h:KInv g Z c)(hZ:Z<=500000000)(hl:c.strs.length<=500000000)(kd aa bb cc:Int):KInv g (Z+11) (eE g c kd aa bb cc)/\(eE g c kd aa bb cc).strs.length<=c.strs.length+1/\c.strs.length<=(eE g c kd aa bb cc).strs.length/\(eE g c kd aa bb cc).old.length<=c.old.length+1:=by
 have h0:KInv g (Z+11) c:=h.mono (by omega)
 unfold eE
 split
 ·exact⟨h0,by omega,by omega,by omega⟩
 ·rename_i k hk
  have hko:=h.str k (lMm hk)
  have hr:=hko.read
  have hrb:=aT bb (n:=k.high+1) (by omega)
  split
  ·split
   ·exact⟨h0,by omega,by omega,by omega⟩
   ·have t1:=to_le (c:=c) (k:=k) (fr:=aP bb (k.high+1)) (cc:=cc)
    obtain⟨m1,m2,m3⟩:=may_le (c:=c) (k:=k)
    refine⟨high_inv h hk (by omega) (by omega) (fun hf=>by have:=m3 hf;omega) (by omega) _,by simp,by simp,by simp⟩
  ·split
   ·split
    ·rename_i hf
     exact⟨fin_inv h hk hf _,by simp,by simp,by simp⟩
    ·exact⟨h0,by omega,by omega,by omega⟩
   ·split
    ·exact⟨h0,by omega,by omega,by omega⟩
    ·split
     ·split
      ·rename_i hf
       exact⟨fin_inv h hk hf.1 _,by simp,by simp,by simp⟩
      ·exact⟨h0,by omega,by omega,by omega⟩
     ·obtain⟨e1,e2,e3,e4⟩:=evsK_ok hg h hZ hl hk (most:=aP bb 40) (aT bb (n:=40) (by decide)).1
      refine⟨e2.mono (by omega),e3,?_,by rw[e4];omega⟩
      exact gots_len
theorem gG(c n:Int)(w:World)(hc:-9223372036854775808<=c/\c<=9223372036854775807)(hn:0<n/\n<=1000000000000):
  Calls Tryz.prog 19 #[.int .i64 c,.int .i64 n] w fun e w'=>e=.returned (.int .i64 (aP c n))/\w'=w:=by
 refine(rP c n w hc hn).mono ?_
 rintro e w' ⟨rfl,rfl⟩
 exact⟨rfl,rfl⟩
def gQ(c c':aY):Int:=((c'.old.drop c.old.length).map fun fr=>((bK 300 c.old.length fr).length:Int)).sum
def eK(c:aY)(kd bb:Int):Int:=if kd=2 then(match c.old[(aP bb c.old.length).toNat]? with|some fq=>((bK 300 (aP bb c.old.length).toNat fq).length:Int)|none=>0) else 0
def gy(g:Cfg)(c:aY)(kd aa bb:Int):Int:=if kd=0\/kd=1\/kd=2\/kd=3 then 0 else(match c.strs[(aP aa c.strs.length).toNat]? with|some k=>fs (iB g c (aP aa c.strs.length).toNat k (aP bb 40))|none=>0)
theorem lZ{c c':aY}(h:c'.old=c.old):gQ c c'=0:=by simp[gQ,h]
theorem oM{c c':aY}{kd bb got:Int}(h:kd≠2)(h2:c'.old=c.old):got=got+gQ c c'+eK c kd bb:=by
 rw[lZ h2,eK,if_neg h]
 omega
theorem oN{c c':aY}{kd bb got got1:Int}{fr:List Int}(h:kd≠2)(h1:got1=got+((bK 300 c.old.length fr).length:Int))(h2:c'.old=c.old++[fr]):got1=got+gQ c c'+eK c kd bb:=by
 rw[eK,if_neg h,gQ,h2,List.drop_left,h1]
 simp
theorem gs_again{c c':aY}{bb got got1:Int}{q:Nat}{fq:List Int}(hq:aP bb c.old.length=q)(hf:c.old[q]? =some fq)(h1:got1=got+((bK 300 q fq).length:Int))(h2:c'.old=c.old):got1=got+gQ c c'+eK c 2 bb:=by
 rw[lZ h2,eK,if_pos rfl,hq,Int.toNat_natCast,hf,h1]
 simp
theorem gs_none{c c':aY}{bb got:Int}(h:¬0<c.old.length)(h2:c'.old=c.old):got=got+gQ c c'+eK c 2 bb:=by
 have e:c.old=[]:=List.eq_nil_of_length_eq_zero (by omega)
 rw[lZ h2,eK,if_pos rfl,e]
 simp
theorem gm{g:Cfg}{c:aY}{kd aa bb sent:Int}(h:kd=0\/kd=1\/kd=2\/kd=3):sent=sent+gy g c kd aa bb:=by
 rw[gy,if_pos h]
 omega
theorem hs_heard{g:Cfg}{c:aY}{kd aa bb sent sent1:Int}{i:Nat}{k:KS}(h:¬(kd=0\/kd=1\/kd=2\/kd=3))(hi:aP aa c.strs.length=i)(hk:c.strs[i]? =some k)(h1:sent1=sent+fs (iB g c i k (aP bb 40))):sent1=sent+gy g c kd aa bb:=by
 rw[gy,if_neg h,hi,Int.toNat_natCast,hk,h1]
structure lh(w0:World)(B:Nat)(xb sb:Nat)(g:Cfg)(H:Nat->Prop)(w w':World)(c':aY)(N:Nat)(M L:Int)(j:Nat)(waits G S:Int):Prop where
 ex:∃s' got' sent',DuoOut w0 B xb sb g H w w' c' N M L s'/\AtK s' j (bq c' got' sent' waits)/\s'.c=g/\got'=G/\sent'=S
theorem DuoOut.base{w0:World}{B:Nat}{xb sb:Nat}{g:Cfg}{H:Nat->Prop}{w w1 w':World}{c':aY}{N:Nat}{M L:Int}{s':ay}(h:DuoOut w0 B xb sb g H w1 w' c' N M L s')(hb:Below w.heap.size w w1):DuoOut w0 B xb sb g H w w' c' N M L s':=by
 obtain⟨v0,v1,v2,v3,v4,v5,v6,F,h1,h2,h3⟩:=h.ex
 have hs:=hb.size
 refine⟨⟨v0,v1,v2,v3,v4,v5,v6,F,h1,h2,fun k hk=>(h3 k hk).imp id (fun h=>by omega)⟩,⟨h.chg.os.trans hb.os,h.chg.tape.trans hb.tape,h.chg.output.trans hb.output,Nat.le_trans hs h.chg.size,fun k hk hn=>?_⟩⟩
 rw[h.chg.block k (by omega) hn,hb.block k hk]
theorem DuoOut.same{w0:World}{F:Nat->Prop}{N:Nat}{M L:Int}{B:Nat}{w w':World}{xb sb:Nat}{g:Cfg}{c:aY}{v0 v1 v2 v3 v4 v5 v6:Value}{s:ay}(hCl:ClAt B w xb sb g c v0 v1 v2 v3 v4 v5 v6)(hLv:LiveF w0 F N M L w sb s)(hb:Below w.heap.size w w'):DuoOut w0 B xb sb g (fun k=>F k\/bO xb v0 v1 v2 v3 v4 v5 v6 k) w w' c N M L s:=
 ⟨⟨v0,v1,v2,v3,v4,v5,v6,F,hCl.below hb,hLv.below hb,fun _ hk=>Or.inl hk⟩,Chg.of_below hb⟩
theorem DuoOut.mono{w0:World}{B:Nat}{xb sb:Nat}{g:Cfg}{H:Nat->Prop}{w w':World}{c':aY}{N N':Nat}{M M' L L':Int}{s':ay}(h:DuoOut w0 B xb sb g H w w' c' N M L s')(h1:N<=N')(h2:M<=M')(h3:L<=L'):DuoOut w0 B xb sb g H w w' c' N' M' L' s':=by
 obtain⟨v0,v1,v2,v3,v4,v5,v6,F,q1,q2,q3⟩:=h.ex
 exact⟨⟨v0,v1,v2,v3,v4,v5,v6,F,q1,q2.mono h1 h2 h3,q3⟩,h.chg⟩
theorem uH{w0:World}{B:Nat}{xb sb:Nat}{g:Cfg}{H:Nat->Prop}{w W W':World}{c c2:aY}{N:Nat}{M L:Int}{s:ay}{v0 v1 v2 v3 v4 v5 v6 u0 u1 u2 u3 u4 u5 u6:Value}{F:Nat->Prop}(hCl:ClAt B W xb sb g c v0 v1 v2 v3 v4 v5 v6)(hLv:LiveF w0 F N M L W sb s)(hi:∀k,F k\/bO xb v0 v1 v2 v3 v4 v5 v6 k->H k\/w.heap.size<=k)(hch:Chg H w W)(hB0:w0.heap.size<=B)(hC2:ClAt B W' xb sb g c2 u0 u1 u2 u3 u4 u5 u6)(hc:Chg (bO xb v0 v1 v2 v3 v4 v5 v6) W W')(hin:∀k,bO xb u0 u1 u2 u3 u4 u5 u6 k->bO xb v0 v1 v2 v3 v4 v5 v6 k\/W.heap.size<=k):DuoOut w0 B xb sb g H w W' c2 N M L s:=by
 obtain⟨os,hC,_,_⟩:=hCl.ex
 have hs:=hch.size
 refine⟨⟨u0,u1,u2,u3,u4,u5,u6,F,hC2,hLv.cli hC hc hB0,fun k hk=>?_⟩,⟨hc.os.trans hch.os,hc.tape.trans hch.tape,hc.output.trans hch.output,Nat.le_trans hs hc.size,fun k hk hn=>?_⟩⟩
 ·rcases hk with hk|hk
  ·exact hi k (Or.inl hk)
  ·rcases hin k hk with h1|h1
   ·exact hi k (Or.inr h1)
   ·exact Or.inr (by omega)
 ·rw[hc.block k (by omega) (fun e=>(hi k (Or.inr e)).elim hn (fun h=>by omega)),hch.block k hk hn]
theorem rowsK_high{l:List KS}{i:Nat}{k:KS}{os:List Value}{m:Int}(hk:l[i]? =some k):(bJ l os).set 1 ((KI (l.map (·.high))).1,(KI (l.map (·.high))).2.set i (.int .i64 m))=bJ (l.set i {k with high:=m}) os:=by
 unfold bJ
 rw[bH (k':={k with high:=m}) (·.piece) hk rfl,bH (k':={k with high:=m}) (·.fin) hk rfl,cZ (k':={k with high:=m}) (fun _=>false) hk rfl,bH (k':={k with high:=m}) (·.read) hk rfl,cZ (k':={k with high:=m}) (·.done) hk rfl]
 simp only[List.set_cons_succ,List.set_cons_zero,KI,List.map_set,mj]
theorem sj{l:List KS}{i:Nat}{k:KS}{os:List Value}{m:Int}(hk:l[i]? =some k):(bJ l os).set 2 ((KI (l.map (·.fin))).1,(KI (l.map (·.fin))).2.set i (.int .i64 m))=bJ (l.set i {k with fin:=m}) os:=by
 unfold bJ
 rw[bH (k':={k with fin:=m}) (·.piece) hk rfl,bH (k':={k with fin:=m}) (·.high) hk rfl,cZ (k':={k with fin:=m}) (fun _=>false) hk rfl,bH (k':={k with fin:=m}) (·.read) hk rfl,cZ (k':={k with fin:=m}) (·.done) hk rfl]
 simp only[List.set_cons_succ,List.set_cons_zero,KI,List.map_set,mj]
theorem ClAt.put{B:Nat}{w:World}{xb sb:Nat}{g:Cfg}{c:aY}{v0 v1 v2 v3 v4 v5 v6:Value}(h:ClAt B w xb sb g c v0 v1 v2 v3 v4 v5 v6){i gb n cap j:Nat}{k':KS}{f:KS->Int}{m:Int}(hv:[v0,v1,v2,v3,v4,v5,v6][j]? =some (.slice (some ⟨gb,0,none⟩) n cap))(ht:∀os,(bJ c.strs os)[j]? =some (KI (c.strs.map f)))(hs:∀os,(bJ c.strs os).set j ((KI (c.strs.map f)).1,(KI (c.strs.map f)).2.set i (.int .i64 m))=bJ (c.strs.set i k') os):ClAt B (w.setCell ⟨gb,i,none⟩ (.int .i64 m)) xb sb g {c with strs:=c.strs.set i k'} v0 v1 v2 v3 v4 v5 v6/\Chg (bO xb v0 v1 v2 v3 v4 v5 v6) w (w.setCell ⟨gb,i,none⟩ (.int .i64 m)):=by
 obtain⟨os,hC,h1,h2⟩:=h.ex
 have hc:Chg (bO xb v0 v1 v2 v3 v4 v5 v6) w (w.setCell ⟨gb,i,none⟩ (.int .i64 m)):=(eS w gb i _).mono (fun q _ e=>Or.inr ⟨_,lMm hv,by rw[e];rfl⟩)
 refine⟨⟨os,?_,h1,fun q v fr hq hf=>⟨(h2 q v fr hq hf).1.cli hC hc,(h2 q v fr hq hf).2⟩⟩,hc⟩
 have hq:=hC.put hv (ht os) i (.int .i64 m)
 rw[hs os]at hq
 simp only[List.length_set]
 exact hq
theorem ClB.bool{B:Nat}{w:World}{xb sb:Nat}{g:Cfg}{ok:Bool}{credit lim packet:Int}{v0 v1 v2 v3 v4 v5 v6:Value}{l:List KS}{os:List Value}(h:ClB B w xb sb g ok credit lim packet v0 v1 v2 v3 v4 v5 v6 (bJ l os)){i:Nat}{k:KS}(hk:l[i]? =some k)(j:Nat){v:Value}{f:KS->Bool}(hv:[v0,v1,v2,v3,v4,v5,v6][j]? =some v)(ht:(bJ l os)[j]? =some (KB (l.map f))):∃b cap,v=.slice (some ⟨b,0,none⟩) l.length cap/\w.cell? ⟨b,i,none⟩= some (.bool (f k))/\∀q,w.frozen? ⟨b,q,none⟩= false:=by
 have ho:=h.rows.own j v (KB (l.map f)) hv ht
 have hi:=(lLt hk)
 simp only[KB,List.length_map]at ho
 obtain⟨b,cap,rfl,_,_,_⟩:=dp ho (by omega)
 refine⟨b,cap,rfl,?_,pL ho⟩
 rw[ho.cellAt i (by omega)]
 simp[List.getElem?_map,hk]
theorem may_low{g:Cfg}{Z:Int}{c:aY}{i:Nat}{k:KS}(hI:KInv g Z c)(hk:c.strs[i]? =some k):-1000000000<=lB c k:=by
 have hko:=hI.str k (lMm hk)
 have hr:=hko.read
 have hp:=hko.piece
 have hs:=hI.sum
 unfold lB qF
 (repeat' split)<;>omega
theorem mZ{g:Cfg}{c:aY}{kd aa bb cc:Int}{i:Nat}{k:KS}(hi:aP aa c.strs.length=i)(hk:c.strs[i]? =some k):eE g c kd aa bb cc =
  if kd=0 then
   if toK c k (aP bb (k.high+1)) cc<aP bb (k.high+1) then c
   else {c with strs:=c.strs.set i {k with high:=max k.high (toK c k (aP bb (k.high+1)) cc)},old:=c.old++[cQ 3 i (aP bb (k.high+1)) (toK c k (aP bb (k.high+1)) cc)]}
  else if kd=1 then
   if k.fin<0 then {c with strs:=c.strs.set i {k with fin:=k.high},old:=c.old++[cQ 4 i k.high k.high]} else c
  else if kd=2 then c
  else if kd=3 then
   if k.fin<0/\k.read<k.high then {c with strs:=c.strs.set i {k with fin:=k.high},old:=c.old++[fO i k.high]} else c
  else kj g c i k (aP bb 40):=by
 unfold eE
 rw[hi,Int.toNat_natCast,hk]
theorem kstep_0 [LoM] {w0:World}{F:Nat->Prop}{N:Nat}{M L:Int}{B:Nat}{w:World}{xb sb:Nat}{g:Cfg}{c:aY}{v0 v1 v2 v3 v4 v5 v6:Value}{s:ay}{j:Nat}{got sent waits Z:Int}(hE:Env w0)(hCl:ClAt B w xb sb g c v0 v1 v2 v3 v4 v5 v6)(hLv:LiveF w0 F N M L w sb s)(hB0:w0.heap.size<=B)(hB:B<=w.heap.size)(hg:bM g)(hsc:s.c=g)(hAt:AtK s j (bq c got sent waits))(hI:KInv g Z c)(hZ:Z<=400000000)(hsl:c.strs.length<=400000000)(hs0:0<c.strs.length)(hol:c.old.length<=900000000)(hM0:0<=M)(hM:M<=90000000000000)(hN:N<=90000000000000)(aa bb cc:Int)(ha:-9223372036854775808<=aa/\aa<=9223372036854775807)(hb:-9223372036854775808<=bb/\bb<=9223372036854775807)(hc:-9223372036854775808<=cc/\cc<=9223372036854775807):
  Calls Tryz.prog 15 #[.pointer (some ⟨xb,0,none⟩),.agg #[.int .i64 0,.int .i64 aa,.int .i64 bb,.int .i64 cc]] w fun e w'=>e=.returned (.tuple #[])/\lh w0 B xb sb g (fun k=>F k\/bO xb v0 v1 v2 v3 v4 v5 v6 k) w w' (eE g c 0 aa bb cc) (N+1200) (M+1200) (L+2) j waits (got+gQ c (eE g c 0 aa bb cc)+eK c 0 bb) (sent+gy g c 0 aa bb):=by
 have hr:=aT aa (n:=(c.strs.length:Int)) (by omega)
 obtain⟨i,hi⟩:∃i:Nat,aP aa c.strs.length=i:=⟨(aP aa c.strs.length).toNat,by omega⟩
 rw[hi]at hr
 obtain⟨k,hk⟩:∃k,c.strs[i]? =some k:=⟨_,lGe (by omega)⟩
 have hko:=hI.str k (lMm hk)
 have hrd:=hko.read
 have hpp:=hko.piece
 have g1:=hg.c1
 have g2:=hg.c2
 have hkh:k.high<=bN c.strs:=iY (fun k:KS=>k.high) (l:=c.strs) (fun x hx=>by have:=(hI.str x hx).read;omega) (lMm hk)
 have hhi:=hI.high
 have hba:=ag w (.cells #[.int .i64 0,.int .i64 aa,.int .i64 bb,.int .i64 cc] 32)
 have hbx:(w.alloc (.cells #[.int .i64 0,.int .i64 aa,.int .i64 bb,.int .i64 cc] 32)).heap[w.heap.size]? =some (.cells #[.int .i64 0,.int .i64 aa,.int .i64 bb,.int .i64 cc] 32 (0,0)):=heap_alloc_new w _
 have HPa:=ab (fun W=>gG aa c.strs.length W ha (by omega))
 rw[hi]at HPa
 have HPb:=ab (fun W=>gG bb (k.high+1) W hb (by omega))
 have HPc:=ab (fun W=>gG cc 12 W hc (by decide))
 have hrb:=aT bb (n:=k.high+1) (by omega)
 have hrc:=aT cc (n:=12) (by decide)
 have HSt:=ab (mZ (g:=g) (kd:=0) (bb:=bb) (cc:=cc) hi hk)
 simp only[if_true]at HSt
 have HTo:Hid (toK c k (aP bb (k.high+1)) cc=if lB c k<aP bb (k.high+1)+aP cc 12 then lB c k else aP bb (k.high+1)+aP cc 12):=rfl
 obtain⟨y1,y2,y3⟩:=may_le (c:=c) (k:=k)
 have y4:-1000000000<=lB c k:=may_low hI hk
 generalize hW0:w.alloc (.cells #[.int .i64 0,.int .i64 aa,.int .i64 bb,.int .i64 cc] 32)=W0 at *
 have HW0:=ab hba
 have HC0:=ab (hCl.below hba)
 have HL0:=ab (hLv.below hba)
 have hB2:B<=W0.heap.size:=by have:=hba.size;omega
 have HMy:=ab (fun W (hW:Below W0.heap.size W0 W)=>kmay_any (w:=W) hI hg (by omega) (by omega) (HC0.out.below hW) hk)
 obtain⟨os,hC,hos,_⟩:=HC0.out.ex
 obtain⟨b1,c1,rfl,p1,_⟩:=hC.at hk 1 (v:=v1) (f:=(·.high)) rfl rfl
 have x14:W0.cell? ⟨xb,14,none⟩= some (.int .i64 (c.strs.length:Int)):=aj hC.blk 14
 have x15:W0.cell? ⟨xb,15,none⟩= some (.slice (some ⟨b1,0,none⟩) c.strs.length c1):=aj hC.blk 15
 have s0:W0.cell? ⟨w.heap.size,0,none⟩= some (.int .i64 0):=aj hbx 0
 have s1:W0.cell? ⟨w.heap.size,1,none⟩= some (.int .i64 aa):=aj hbx 1
 have s2:W0.cell? ⟨w.heap.size,2,none⟩= some (.int .i64 bb):=aj hbx 2
 have s3:W0.cell? ⟨w.heap.size,3,none⟩= some (.int .i64 cc):=aj hbx 3
 have HI:=ab (And.intro hI hk)
 obtain⟨hik0,hik⟩:=hr
 obtain⟨hrd0,hrd1⟩:=hrd
 have hh1:k.high<=400000000:=by omega
 have hwr:IntKind.i64.wrap (k.high+1)=k.high+1:=by rw[IntKind.wrap_i64];omega
 have hwr2:wrap64 (k.high+1)=k.high+1:=by unfold wrap64;omega
 obtain⟨hrb0,hrb1⟩:=hrb
 obtain⟨hrc0,hrc1⟩:=hrc
 clear hC hos hbx hba hko
 go_enter Tryz.func15,Tryz.ntmps15
 go_wp2_with fail
 go_quiet ((go_at_call 19;exact Calls.quiet_of_same (HPa.out _)))
 clear HPa
 go_wp2_with fail
 have hbW1:Below W0.heap.size W0 (W0.drewN nq):=ak (Below.refl _ _) nq
 have t15:=ae x15 hbW1
 have t1:=ae p1 hbW1
 have t2:=ae s2 hbW1
 have t3:=ae s3 hbW1
 have HB1:=ab hbW1
 clear hbW1 s0 s1 s2 s3 x14 x15 p1
 generalize W0.drewN nq=W1 at *
 go_quiet ((go_at_call 19;exact Calls.quiet_of_same (HPb.out _)))
 clear HPb
 have hbW2:Below W1.heap.size W1 (W1.drewN nq):=ak (Below.refl _ _) nq
 have r3:=ae t3 hbW2
 have HB2:=ab (ai HB1.out hbW2)
 clear hbW2 t15 t1 t2 t3 HB1
 generalize W1.drewN nq=W2 at *
 go_wp2_with fail
 refine(HPc.out _).mono ?_
 rintro e w1 ⟨rfl,rfl⟩
 clear HPc
 go_wp2_with fail
 refine(HMy.out _ HB2.out).mono ?_
 rintro e W3 ⟨rfl,hb3⟩
 have HB3:=ab (ai HB2.out hb3)
 clear hb3 HB2 HMy r3
 have HC3:=ab (HC0.out.below HB3.out)
 have HL3:=ab (HL0.out.below HB3.out)
 obtain⟨os,hC,hos,_⟩:=HC3.out.ex
 obtain⟨b3,c3,rfl,p3,_⟩:=hC.bool hk 3 (v:=v3) (f:=fun _=>false) rfl rfl
 have x17:W3.cell? ⟨xb,17,none⟩= some (.slice (some ⟨b3,0,none⟩) c.strs.length c3):=aj hC.blk 17
 clear hC hos HC0 HL0
 have HMay:=ab (And.intro y1 (And.intro y2 y3))
 clear y2 y3
 generalize aP bb (k.high+1)=f at *
 generalize aP cc 12=pc at *
 generalize lB c k=my at *
 generalize toK c k f cc=tt at *
 go_upto_if 198 with fail
 go_cut [6] from 198 to 199 (fun s6 wx=>s6=.int .i64 tt/\W3=wx)
 case first=>
  rcases Int.lt_or_le my (f+pc) with hlt|hlt
  ·have HE1:Hid (tt=my):=ab (by rw[HTo.out,if_pos hlt])
   go_wp2_with fail
   go_meet
   exact⟨by rw[HE1.out],rfl⟩
  ·have HE1:Hid (tt=f+pc):=ab (by rw[HTo.out,if_neg (by omega)])
   go_wp2_with fail
   go_meet
   exact⟨by rw[HE1.out],rfl⟩
 case rest=>
  obtain⟨rfl,rfl⟩:=hcut
  have ht1:tt<=my/\tt<=f+pc:=by
   rw[HTo.out]
   split<;>omega
  by_cases hlt:tt<f
  ·have HS2:=HSt.out
   rw[if_pos hlt]at HS2
   have HS3:=ab HS2
   clear HS2
   go_wp2_with fail
   refine bodyPost_ret (results_none rfl _ _ _) rfl ?_
   rw[HS3.out]
   exact⟨rfl,s,got,sent,((DuoOut.same hCl hLv (ai HW0.out HB3.out)).mono (by omega) (by omega) (by omega)),hAt,hsc,oM (by decide) rfl,gm (by decide)⟩
  ·have HS2:=HSt.out
   rw[if_neg hlt]at HS2
   have HS3:=ab HS2
   obtain⟨z1,z2,z3⟩:=HMay.out
   obtain⟨q1,q2⟩:=mx (k:=3) (st:=i) (fr:=f) (tt:=tt) (Or.inl rfl) (by omega) (by omega) (by omega)
   have hd:=wY hg (HI.out.1.str k (lMm HI.out.2)) (i:=i) (fr:=f) (tt:=tt) (credit:=c.credit) (H:=bN c.strs) (by omega) (by omega) (fun h=>by have:=z3 h;omega) (by omega) HI.out.1.sum
   rw[<-hsc]at hd
   obtain⟨got1,hgot,hrecv⟩:=lY hAt q1 q2 (Or.inl rfl) (i:=i) (k:=k) rfl HI.out.2 hd (by omega)
   have HRv:=ab hrecv
   have HGt:=ab hgot
   clear hgot
   have HPi:=ab (pB 3 i f tt W3 (by decide) (by omega) (by omega) (by omega) (by omega))
   have hpl:=lR (k:=3) (st:=i) (fr:=f) (tt:=tt) (by omega)
   have HSe:=ab (fun W (hW:Below W3.heap.size W3 W) fa fl fc (hfv:RdB W (.slice fa fl fc) (cQ 3 i f tt))=>ksends_any (w:=W) hE (HC3.out.below hW) (HL3.out.below hW) hB0 (by have:=hW.size;have:=HB3.out.size;omega) hfv (by omega) (by omega) (by rw[HRv.out]) hM0 (by omega) (by omega))
   have HAt:=ab hAt
   have HSc:=ab hsc
   clear HS2 q1 q2 hd hrecv hAt hsc hpl hCl hLv HL3 z1 z2 z3
   have hlt2:¬tt<f:=hlt
   go_wp2_with fail
   refine HPi.out.mono ?_
   rintro e W4 ⟨pa,pl,pc2,rfl,hpo,hb4⟩
   have HSx:=ab (HSe.out W4 hb4 _ _ _ hpo)
   have HB4:=ab (ai HB3.out hb4)
   clear hpo hb4 HSe HPi HC3
   go_wp2_with fail
   refine HSx.out.mono ?_
   rintro e W5 ⟨rfl,hduo⟩
   obtain⟨u0,u1,u2,u3,u4,u5,u6,F5,hC5,hL5,hin5⟩:=hduo.ex
   obtain⟨os5,hCb5,_,_⟩:=hC5.ex
   obtain⟨b5,c5,rfl,p5,z5⟩:=hCb5.at (i:=i) (k:=k) HI.out.2 1 (v:=u1) (f:=(·.high)) rfl rfl
   have x5:W5.cell? ⟨xb,15,none⟩= some (.slice (some ⟨b5,0,none⟩) c.strs.length c5):=aj hCb5.blk 15
   have HD5:=ab (And.intro hC5 (And.intro hL5 (And.intro hin5 hduo.chg)))
   have HDu:=ab hduo
   clear hduo hC5 hL5 hin5 hCb5 HSx
   by_cases hgt:k.high<tt
   ·go_wp2_with fail
    go_end0
    obtain⟨d1,d2,d3,d4⟩:=HD5.out
    have em:max k.high tt=tt:=by omega
    obtain⟨e1,e2⟩:=d1.put (j:=1) (i:=i) (f:=(·.high)) (k':={k with high:=max k.high tt}) (m:=tt) rfl (fun _=>rfl) (fun _=>by rw[em];exact rowsK_high HI.out.2)
    have e3:=uH d1 d2 d3 d4 hB0 e1 e2 (fun _ h=>Or.inl h)
    rw[HS3.out]
    rw[HRv.out]at e3
    have h9:=HAt.out.set (c':=bq {c with strs:=c.strs.set i {k with high:=max k.high tt},old:=c.old++[cQ 3 i f tt]} got1 sent waits) rfl
    exact⟨rfl,{s with conns:=s.conns.set j (bq {c with strs:=c.strs.set i {k with high:=max k.high tt},old:=c.old++[cQ 3 i f tt]} got1 sent waits)},got1,sent,(e3.base (ai HW0.out HB4.out)),h9,HSc.out,oN (by decide) HGt.out rfl,gm (by decide)⟩
   ·go_wp2_with fail
    go_end0
    have e3:=HDu.out
    rw[HS3.out]
    rw[HRv.out]at e3
    have em:max k.high tt=k.high:=by omega
    have es:c.strs.set i {k with high:=max k.high tt}=c.strs:=by
     rw[em]
     exact e7 HI.out.2
    have h9:=HAt.out.set (c':=bq {c with strs:=c.strs.set i {k with high:=max k.high tt},old:=c.old++[cQ 3 i f tt]} got1 sent waits) rfl
    refine⟨rfl,{s with conns:=s.conns.set j (bq {c with strs:=c.strs.set i {k with high:=max k.high tt},old:=c.old++[cQ 3 i f tt]} got1 sent waits)},got1,sent,?_,h9,HSc.out,oN (by decide) HGt.out rfl,gm (by decide)⟩
    rw[es]at e3⊢
    exact e3.base (ai HW0.out HB4.out)
end Go.Proofs.YthmdjhlhodpbhaaGreatDoor
