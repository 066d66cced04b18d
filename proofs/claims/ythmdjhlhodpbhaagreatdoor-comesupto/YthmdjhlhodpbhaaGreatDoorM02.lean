/- Comes, part 2 -/
import Derived.Test.YthmdjhlhodpbhaaGreatDoorM01
set_option maxHeartbeats 16000000
set_option maxRecDepth 8000
namespace Go.Proofs.YthmdjhlhodpbhaaGreatDoor
open Go.RowKit
open _root_.List renaming getElem?_eq_getElem → am, getElem?_append_right → aF, length_append → aT, take_of_length_le → bL, getElem?_append_left → aw, getElem?_eq_some_iff → bm, getD → aQ, length_take_le → bO, mem_singleton → bP, filter_append → bQ, mem_append → bR, map_append → bS, mem_of_getElem? → bT, take_add_one → bV, length_filter_le → bY, mem_of_mem_take → bZ, length_set → b8
open Go.World renaming cell? → aX, ownsRow_nil → aq, size_setCell → bN, size_alloc → aB
open _root_.Array renaming getElem?_eq_some_iff → aO
open _root_.Nat renaming zero_le → aI, le_refl → ay, add_zero → bd, lt_or_ge → aD, add_sub_cancel_left → bU
open Go.Value renaming oneCell' → bK, int → a8, ownBlock → ax
open _root_.Int renaming lt_or_le → bM, eq_ofNat_of_zero_le → aU, natCast_add → bW
open _root_.Option renaming bind_eq_some_iff → bX, map_eq_some_iff → b9, map_some → cf
open Go.Op renaming equalIn → b_
open _root_.And renaming intro → ce
open _root_.True renaming intro → cg
open _root_.Or renaming inl → a_
open Go.ByteArray renaming toList_eq → ch
open _root_.Prod renaming snd → ci
open _root_.Go.Proofs.Tryz
open _root_.Go.Proofs.Tryz renaming prog → ae
open Go.Value renaming int → af, slice → aj, pointer → ai
open Go.IntKind renaming i64 → ag
variable {w wr:World}{k base j a sb cb g p:Nat}{l b ns m:List Int}{n x y d:Int}{L rs:List (Int×Int)}{f:Int×Int->Int×Int}{s:ik}{gP:List Nat}{e:TypeId}{v:Value}{xs:List Value}
theorem om(l:List Int):0<=kz l/\kz l<=4/\kz l<=l.length:=by
 unfold kz
 split
 ·omega
 ·split
  ·omega
  ·unfold mo at *
   repeat' split
   all_goals (repeat' split at *)
   all_goals omega
theorem qD(hl:iF l):0<=ly l/\ly l<1073741824:=by
 unfold ly
 split
 ·omega
 ·have h:=Bq hl;have g:=om l;have:(kz l).toNat=1\/(kz l).toNat=2\/(kz l).toNat=3\/(kz l).toNat=4:=by omega
  rcases this with e|e|e|e<;>rw[e]<;>omega
theorem iF.drop(h:iF l)(n:Nat):iF (l.drop n):=fun x hx=>h x (List.mem_of_mem_drop hx)
theorem iF.take(h:iF l)(n:Nat):iF (l.take n):=fun x hx=>h x (bZ hx)
theorem nf(hb:iF b)(hp:0<b.length):∀(k:Nat) {ns:List Int} {a:Nat},jF b k=some (ns,a)->ns.length=k/\1<=a/\a<=b.length/\∀n∈ns,0<=n/\n<1073741824
 |0,ns,a,h=>by
  simp only[jF,Option.some.injEq,Prod.mk.injEq]at h;obtain⟨rfl,rfl⟩:=h;exact⟨rfl,ay _,hp,fun n hn=>by cases hn⟩
 |k+1,ns,a,h=>by
  simp only[jF]at h
  cases hk:jF b k with
  |none=>rw[hk]at h;cases h
  |some x=>
   obtain⟨ns',a'⟩:=x;rw[hk]at h;simp only at h
   split at h
   ·cases h
   ·simp only[Option.some.injEq,Prod.mk.injEq]at h;obtain⟨rfl,rfl⟩:=h;obtain⟨h1,h2,h3,h4⟩:=nf hb hp k hk;have g:=om (b.drop a');have gl:(b.drop a').length=b.length-a':=by simp
    refine⟨by simp[h1],by omega,by omega,fun n hn=>?_⟩;rcases bR.1 hn with hn|hn
    ·exact h4 n hn
    ·rw[bP.1 hn];exact qD (hb.drop a')
def qc(w:World)(r:Option (lL×Nat))(e:Ending):Prop:=
 match r with
 |none=>∃x0 x1 x2 x3 bv,e=.returned (.tuple #[.agg #[af ag x0,af ag x1,af ag x2,af ag x3,bv],af ag 0])/\∃ao n c,bv=.slice ao n c
 |some (f,size)=>∃bv,e=.returned (.tuple #[.agg #[af ag f.type,af ag f.id,af ag f.iC,af ag f.code,bv],af ag size])/\kv w bv f.bytes
theorem uE:(ae.info? 3).map (fun i=>(i.zero,i.size,i.bytes))=some (some (af ag 0),1,8):=by kernel_rfl
theorem P7(b:List Int)(ao:Option Addr)(cap:Nat)(w:World)(hr:kv w (.slice ao b.length cap) b)(hp:0<b.length)(ht:b.getD 0 0=0):
  Calls ae 189 #[.slice ao b.length cap] w fun e w'=>qc w (iV b) e/\Below w.heap.size w w':=by
 have hs:iV b=some (⟨0,0,0,0,[]⟩,1):=by unfold iV;rw[ht];rfl
 rw[hs];obtain⟨hl,hm,⟨rfl,_⟩|⟨_,bb,off,n_,e,nH,hc⟩⟩:=hr
 ·simp at hp
 ·simp only[Value.slice.injEq]at e;obtain⟨rfl,_,rfl⟩:=e;have h0:=hc 0 hp;rw[ht,bd]at h0;clear hc;have jp:=jh h0;simp only at jp;go_enter func189,ntmps189
  go_wp2
  refine bodyPost_ret (v:=.tuple #[.agg #[af ag 0,af ag 0,af ag 0,af ag 0,aj none 0 0],af ag 1]) (by simp[results,Tryz.results189,go_sem]) rfl ⟨⟨_,rfl,iF.nil,by simp,a_ ⟨rfl,none,0,rfl⟩⟩,?_⟩;exact(gH w _).alloc (by simp) _
theorem P8(b:List Int)(ao:Option Addr)(cap:Nat)(w:World)(hr:kv w (.slice ao b.length cap) b)(hp:0<b.length)(ht:b.getD 0 0=1):
  Calls ae 189 #[.slice ao b.length cap] w fun e w'=>qc w (iV b) e/\Below w.heap.size w w':=by
 have hs:iV b=some (⟨1,0,0,0,[]⟩,1):=by unfold iV;rw[ht];rfl
 rw[hs];obtain⟨hl,hm,⟨rfl,_⟩|⟨_,bb,off,n_,e,nH,hc⟩⟩:=hr
 ·simp at hp
 ·simp only[Value.slice.injEq]at e;obtain⟨rfl,_,rfl⟩:=e;have h0:=hc 0 hp;rw[ht,bd]at h0;clear hc;have jp:=jh h0;simp only at jp;go_enter func189,ntmps189
  go_wp2
  refine bodyPost_ret (v:=.tuple #[.agg #[af ag 1,af ag 0,af ag 0,af ag 0,aj none 0 0],af ag 1]) (by simp[results,Tryz.results189,go_sem]) rfl ⟨⟨_,rfl,iF.nil,by simp,a_ ⟨rfl,none,0,rfl⟩⟩,?_⟩;exact(gH w _).alloc (by simp) _
theorem Bg(h:jF b k=none):∀c,k<=c->jF b c=none
 |0,hc=>by
  obtain rfl:k=0:=by omega
  exact h
 |c+1,hc=>by
  rcases aD c k with h1|h1
  ·obtain rfl:k=c+1:=by omega
   exact h
  ·simp only[jF,Bg h c h1]
theorem sH{c:Nat}(hc:kO (b.getD 0 0)=some c)(hk:k<c)(h:jF b k=some (ns,a))(hz:kz (b.drop a)=0):iV b=none:=by
 have h1:jF b (k+1)=none:=by simp only[jF,h];rw[if_pos hz]
 unfold iV;rw[hc];simp only[Bg h1 c (by omega)]
theorem ru(h:jF b k=some (ns,a))(hz:¬kz (b.drop a)=0):jF b (k+1)=some (ns++[ly (b.drop a)],a+(kz (b.drop a)).toNat):=by
 simp only[jF,h];rw[if_neg hz]
theorem ko(h:Below w.heap.size w wr)(hg:w.heap.size<=g)(j:Nat)(u:Value):Below w.heap.size w (wr.setCell ⟨g,j,none⟩ u):=h.setCell (p:=⟨g,j,none⟩) hg u
theorem lX(h:Below w.heap.size w wr)(a b c d e:Value):Below w.heap.size w (((((wr.setCell ⟨w.heap.size,0,none⟩ a).setCell ⟨w.heap.size,1,none⟩ b).setCell ⟨w.heap.size,2,none⟩ c).setCell ⟨w.heap.size,3,none⟩ d).setCell ⟨w.heap.size,4,none⟩ e):=
 ko (ko (ko (ko (ko h (ay _) 0 a) (ay _) 1 b) (ay _) 2 c) (ay _) 3 d) (ay _) 4 e
abbrev uA:Obj:=.cells #[af ag 0,af ag 0,af ag 0,af ag 0,aj none 0 0] 296
theorem Qa(b:List Int)(ao:Option Addr)(cap:Nat)(w:World)(hr:kv w (.slice ao b.length cap) b)(hp:0<b.length)(ht:b.getD 0 0=6):
  Calls ae 189 #[.slice ao b.length cap] w fun e w'=>qc w (iV b) e/\Below w.heap.size w w':=by
 obtain⟨i0,hi,mB,kS,ln⟩:=info_parts uE;have HR:=gE hr;have HC:Hid (kO (b.getD 0 0)=some 1):=by rw[ht];rfl
 obtain⟨hl,hm,⟨rfl,_⟩|⟨_,bb,off,n_,e,nH,hc⟩⟩:=hr
 ·simp at hp
 ·simp only[Value.slice.injEq]at e;obtain⟨rfl,_,rfl⟩:=e;have h0:=hc 0 hp;rw[ht,bd]at h0;have HT:=gE ht;clear hc ht;have jp:=jh h0;simp only at jp
  have HF:Hid (∀W:World,W=(w.alloc uA).alloc (.cells #[af ag 6,af ag 0,af ag 0,af ag 0,aj none 0 0] 296)->W.heap[w.heap.size]? =some uA/\W.heap[w.heap.size+1]? =some (.cells #[af ag 6,af ag 0,af ag 0,af ag 0,aj none 0 0] 296)/\Below w.heap.size w W):=by
   rintro W rfl;refine⟨?_,?_,(gH w _).alloc (by simp) _⟩
   ·rw[Below.heap_alloc _ _ _ (by simp)];exact heap_alloc_new w _
   ·have:=heap_alloc_new (w.alloc uA) (.cells #[af ag 6,af ag 0,af ag 0,af ag 0,aj none 0 0] 296)
    rwa [aB]at this
  go_enter func189,ntmps189;go_wp2_with fail
  go_loopw [6,7,8] (fun l Ow i wr=>∃(k:Nat) (ns:List Int) (a:Nat),k<=1/\i=af ag k/\jF b k=some (ns,a)/\Ow=af ag a/\wr.ownsRow (w.heap.size+2) 3 1 l k (ns.map (a8 .i64))/\wr.heap[w.heap.size]? =some uA/\wr.heap[w.heap.size+1]? =some (.cells #[af ag 6,af ag 0,af ag 0,af ag 0,aj none 0 0] 296)/\Below w.heap.size w wr) (fun _ _ i _=>1-(intOf i).toNat)
  case atStart=>
   obtain⟨f1,f2,f3⟩:=HF.out _ rfl;exact⟨0,[],1,aI _,rfl,rfl,rfl,aq _ _ _ _,f1,f2,f3⟩
  case round=>
   obtain⟨k,ns,a,hk,rfl,rr,rfl,gY,hR,hF,jz⟩:=hrel;obtain⟨Vk,Wh,KN,Pr⟩:=nf hl hp k rr;have hR2:=(aO.1 hF).1;have c0:wr.cell? ⟨w.heap.size+1,0,none⟩= some (af ag 6):=by simp[aX,hF]
   have c1:wr.cell? ⟨w.heap.size+1,1,none⟩= some (af ag 0):=by simp[aX,hF]
   have c2:wr.cell? ⟨w.heap.size+1,2,none⟩= some (af ag 0):=by simp[aX,hF]
   have c3:wr.cell? ⟨w.heap.size+1,3,none⟩= some (af ag 0):=by simp[aX,hF]
   have c4:wr.cell? ⟨w.heap.size+1,4,none⟩= some (aj none 0 0):=by simp[aX,hF]
   have d0:wr.cell? ⟨w.heap.size,0,none⟩= some (af ag 0):=by simp[aX,hR]
   have d1:wr.cell? ⟨w.heap.size,1,none⟩= some (af ag 0):=by simp[aX,hR]
   have d2:wr.cell? ⟨w.heap.size,2,none⟩= some (af ag 0):=by simp[aX,hR]
   have d3:wr.cell? ⟨w.heap.size,3,none⟩= some (af ag 0):=by simp[aX,hR]
   have d4:wr.cell? ⟨w.heap.size,4,none⟩= some (aj none 0 0):=by simp[aX,hR]
   have g0:∀j,wr.frozen? ⟨w.heap.size,j,none⟩= false:=fun j=>frozen_of_row wr w.heap.size j _ _ hR
   have g1:∀j,wr.frozen? ⟨w.heap.size+1,j,none⟩= false:=fun j=>frozen_of_row wr (w.heap.size+1) j _ _ hF
   have nm:=gE rr;have B0:=gE (ce hR hF);have HB:=gE jz;have HO:=gE gY;clear rr hR hF jz gY;by_cases Ad:k<1
   ·have hcut:=sx (some ⟨bb,off,none⟩) b.length cap a KN
    have Ig:Hid (kv wr (sliced (some ⟨bb,off,none⟩) a b.length cap 1) (b.drop a)):=by
     have:=(pR HR.out nH a b.length KN (ay _)).below HB.out
     rwa [bL (by simp)]at this
    generalize sliced (some ⟨bb,off,none⟩) a b.length cap 1=vc at hcut Ig;go_wp2_with fail;refine(ld (b.drop a) vc wr Ig.out).mono ?_;rintro e w1 ⟨rfl,rfl⟩;clear hcut;by_cases hz:kz (b.drop a)=0
    ·have hn:iV b=none:=sH HC.out Ad nm.out hz;obtain⟨e1,e2⟩:=tM hz;rw[e1,e2,hz];have HN:=gE hn;clear hn e1 e2 hz;go_wp2_with fail;refine bodyPost_ret (v:=.tuple #[.agg #[af ag 6,af ag 0,af ag 0,af ag 0,aj none 0 0],af ag 0]) (by simp[results,Tryz.results189,go_sem,d0,d1,d2,d3,d4]) rfl ⟨?_,?_⟩
     ·rw[HN.out];exact⟨_,_,_,_,_,rfl,_,_,_,rfl⟩
     ·exact lX HB.out _ _ _ _ _
    ·have tB:=ru nm.out hz;have e2:qh (b.drop a)=0:=by simp[qh,hz]
     rw[e2];have gr:=om (b.drop a);have gl:(b.drop a).length=b.length-a:=by simp
     have HG:Hid ((kz (b.drop a):Int)=((kz (b.drop a)).toNat:Int)):=by show _=_;omega
     have HZ:=gE hz;have hO:=HO.out;have ku:=HB.out.size;have tH:=gE tB;clear hz e2 tB;generalize ly (b.drop a)=gv at tH⊢;generalize kz (b.drop a)=gs at tH HG gr⊢;go_wp2_with (at_builtin;refine wpList_append_own _ rfl _ _ 38 rfl (w.heap.size+2) 3 i0 (af ag 0) 1 8 underlying38 hi mB kS ln rfl (by decide) _ k (ns.map (a8 .i64)) rfl (hO.alloc _) ⟨wr.heap.size,0,none⟩ 1 1 [af ag gv] rfl rfl (iZ wr 3 [af ag gv] (by simp[maxLen])) (by simp[bK]) (by unfold maxLen;omega) (by omega) (by simp;omega) ?_;intro v' w1 j8 jA _)
     go_roundw
     case rel=>
      have pY:=gU jA;have js:∀q,q<w.heap.size+2->some q≠u6.ownBlock:=fun q hq e=>by have:=(hO.lt q e.symm).1;omega
      refine⟨k+1,ns++[gv],a+gs.toNat,by omega,by go_num,tH.out,?_,by rw[bS];exact j8,?_,?_,?_⟩
      ·have:=HG.out
       congr 1
       omega
      ·rw[pY.block _ (by omega) (js _ (by omega))];exact B0.out.1
      ·rw[pY.block _ (by omega) (js _ (by omega))];exact B0.out.2
      ·exact HB.out.grown pY ku (fun g hg=>by have:=(hO.lt g hg).1;omega)
     case measure=>simp[intOf];omega
   ·obtain rfl:k=1:=by omega
    obtain⟨n0,rfl⟩:∃n0,ns=[n0]:=by
     match ns,Vk with
     |[n0],_=>exact⟨n0,rfl⟩
    obtain⟨gl,cl,rfl,Pd,Pe,_⟩:=jP HO.out (by decide);have e0:wr.cell? ⟨gl,0,none⟩= some (af ag n0):=by rw[HO.out.cellAt 0 (by decide)];rfl
    have HS:Hid (iV b=some (⟨6,0,0,n0,[]⟩,a)):=by
     show _=_;unfold iV;rw[HC.out];simp only[nm.out];rw[HT.out]
     rfl
    go_wp2_with fail;refine bodyPost_ret (v:=.tuple #[.agg #[af ag 6,af ag 0,af ag 0,af ag n0,aj none 0 0],af ag a]) (by simp[results,Tryz.results189,go_sem,d0,d1,d2,d3,d4]) rfl ⟨?_,?_⟩
    ·rw[HS.out];exact⟨_,rfl,iF.nil,by simp,a_ ⟨rfl,none,0,rfl⟩⟩
    ·exact lX (ko HB.out (by omega) 3 _) _ _ _ _ _
theorem Qb(b:List Int)(ao:Option Addr)(cap:Nat)(w:World)(hr:kv w (.slice ao b.length cap) b)(hp:0<b.length)(ht:b.getD 0 0=7):
  Calls ae 189 #[.slice ao b.length cap] w fun e w'=>qc w (iV b) e/\Below w.heap.size w w':=by
 obtain⟨i0,hi,mB,kS,ln⟩:=info_parts uE;have HR:=gE hr;have HC:Hid (kO (b.getD 0 0)=some 1):=by rw[ht];rfl
 obtain⟨hl,hm,⟨rfl,_⟩|⟨_,bb,off,n_,e,nH,hc⟩⟩:=hr
 ·simp at hp
 ·simp only[Value.slice.injEq]at e;obtain⟨rfl,_,rfl⟩:=e;have h0:=hc 0 hp;rw[ht,bd]at h0;have HT:=gE ht;clear hc ht;have jp:=jh h0;simp only at jp
  have HF:Hid (∀W:World,W=(w.alloc uA).alloc (.cells #[af ag 7,af ag 0,af ag 0,af ag 0,aj none 0 0] 296)->W.heap[w.heap.size]? =some uA/\W.heap[w.heap.size+1]? =some (.cells #[af ag 7,af ag 0,af ag 0,af ag 0,aj none 0 0] 296)/\Below w.heap.size w W):=by
   rintro W rfl;refine⟨?_,?_,(gH w _).alloc (by simp) _⟩
   ·rw[Below.heap_alloc _ _ _ (by simp)];exact heap_alloc_new w _
   ·have:=heap_alloc_new (w.alloc uA) (.cells #[af ag 7,af ag 0,af ag 0,af ag 0,aj none 0 0] 296)
    rwa [aB]at this
  go_enter func189,ntmps189;go_wp2_with fail
  go_loopw [6,7,8] (fun l Ow i wr=>∃(k:Nat) (ns:List Int) (a:Nat),k<=1/\i=af ag k/\jF b k=some (ns,a)/\Ow=af ag a/\wr.ownsRow (w.heap.size+2) 3 1 l k (ns.map (a8 .i64))/\wr.heap[w.heap.size]? =some uA/\wr.heap[w.heap.size+1]? =some (.cells #[af ag 7,af ag 0,af ag 0,af ag 0,aj none 0 0] 296)/\Below w.heap.size w wr) (fun _ _ i _=>1-(intOf i).toNat)
  case atStart=>
   obtain⟨f1,f2,f3⟩:=HF.out _ rfl;exact⟨0,[],1,aI _,rfl,rfl,rfl,aq _ _ _ _,f1,f2,f3⟩
  case round=>
   obtain⟨k,ns,a,hk,rfl,rr,rfl,gY,hR,hF,jz⟩:=hrel;obtain⟨Vk,Wh,KN,Pr⟩:=nf hl hp k rr;have hR2:=(aO.1 hF).1;have c0:wr.cell? ⟨w.heap.size+1,0,none⟩= some (af ag 7):=by simp[aX,hF]
   have c1:wr.cell? ⟨w.heap.size+1,1,none⟩= some (af ag 0):=by simp[aX,hF]
   have c2:wr.cell? ⟨w.heap.size+1,2,none⟩= some (af ag 0):=by simp[aX,hF]
   have c3:wr.cell? ⟨w.heap.size+1,3,none⟩= some (af ag 0):=by simp[aX,hF]
   have c4:wr.cell? ⟨w.heap.size+1,4,none⟩= some (aj none 0 0):=by simp[aX,hF]
   have d0:wr.cell? ⟨w.heap.size,0,none⟩= some (af ag 0):=by simp[aX,hR]
   have d1:wr.cell? ⟨w.heap.size,1,none⟩= some (af ag 0):=by simp[aX,hR]
   have d2:wr.cell? ⟨w.heap.size,2,none⟩= some (af ag 0):=by simp[aX,hR]
   have d3:wr.cell? ⟨w.heap.size,3,none⟩= some (af ag 0):=by simp[aX,hR]
   have d4:wr.cell? ⟨w.heap.size,4,none⟩= some (aj none 0 0):=by simp[aX,hR]
   have g0:∀j,wr.frozen? ⟨w.heap.size,j,none⟩= false:=fun j=>frozen_of_row wr w.heap.size j _ _ hR
   have g1:∀j,wr.frozen? ⟨w.heap.size+1,j,none⟩= false:=fun j=>frozen_of_row wr (w.heap.size+1) j _ _ hF
   have nm:=gE rr;have B0:=gE (ce hR hF);have HB:=gE jz;have HO:=gE gY;clear rr hR hF jz gY;by_cases Ad:k<1
   ·have hcut:=sx (some ⟨bb,off,none⟩) b.length cap a KN
    have Ig:Hid (kv wr (sliced (some ⟨bb,off,none⟩) a b.length cap 1) (b.drop a)):=by
     have:=(pR HR.out nH a b.length KN (ay _)).below HB.out
     rwa [bL (by simp)]at this
    generalize sliced (some ⟨bb,off,none⟩) a b.length cap 1=vc at hcut Ig;go_wp2_with fail;refine(ld (b.drop a) vc wr Ig.out).mono ?_;rintro e w1 ⟨rfl,rfl⟩;clear hcut;by_cases hz:kz (b.drop a)=0
    ·have hn:iV b=none:=sH HC.out Ad nm.out hz;obtain⟨e1,e2⟩:=tM hz;rw[e1,e2,hz];have HN:=gE hn;clear hn e1 e2 hz;go_wp2_with fail;refine bodyPost_ret (v:=.tuple #[.agg #[af ag 7,af ag 0,af ag 0,af ag 0,aj none 0 0],af ag 0]) (by simp[results,Tryz.results189,go_sem,d0,d1,d2,d3,d4]) rfl ⟨?_,?_⟩
     ·rw[HN.out];exact⟨_,_,_,_,_,rfl,_,_,_,rfl⟩
     ·exact lX HB.out _ _ _ _ _
    ·have tB:=ru nm.out hz;have e2:qh (b.drop a)=0:=by simp[qh,hz]
     rw[e2];have gr:=om (b.drop a);have gl:(b.drop a).length=b.length-a:=by simp
     have HG:Hid ((kz (b.drop a):Int)=((kz (b.drop a)).toNat:Int)):=by show _=_;omega
     have HZ:=gE hz;have hO:=HO.out;have ku:=HB.out.size;have tH:=gE tB;clear hz e2 tB;generalize ly (b.drop a)=gv at tH⊢;generalize kz (b.drop a)=gs at tH HG gr⊢;go_wp2_with (at_builtin;refine wpList_append_own _ rfl _ _ 38 rfl (w.heap.size+2) 3 i0 (af ag 0) 1 8 underlying38 hi mB kS ln rfl (by decide) _ k (ns.map (a8 .i64)) rfl (hO.alloc _) ⟨wr.heap.size,0,none⟩ 1 1 [af ag gv] rfl rfl (iZ wr 3 [af ag gv] (by simp[maxLen])) (by simp[bK]) (by unfold maxLen;omega) (by omega) (by simp;omega) ?_;intro v' w1 j8 jA _)
     go_roundw
     case rel=>
      have pY:=gU jA;have js:∀q,q<w.heap.size+2->some q≠u6.ownBlock:=fun q hq e=>by have:=(hO.lt q e.symm).1;omega
      refine⟨k+1,ns++[gv],a+gs.toNat,by omega,by go_num,tH.out,?_,by rw[bS];exact j8,?_,?_,?_⟩
      ·have:=HG.out
       congr 1
       omega
      ·rw[pY.block _ (by omega) (js _ (by omega))];exact B0.out.1
      ·rw[pY.block _ (by omega) (js _ (by omega))];exact B0.out.2
      ·exact HB.out.grown pY ku (fun g hg=>by have:=(hO.lt g hg).1;omega)
     case measure=>simp[intOf];omega
   ·obtain rfl:k=1:=by omega
    obtain⟨n0,rfl⟩:∃n0,ns=[n0]:=by
     match ns,Vk with
     |[n0],_=>exact⟨n0,rfl⟩
    obtain⟨gl,cl,rfl,Pd,Pe,_⟩:=jP HO.out (by decide);have e0:wr.cell? ⟨gl,0,none⟩= some (af ag n0):=by rw[HO.out.cellAt 0 (by decide)];rfl
    have HS:Hid (iV b=some (⟨7,0,0,n0,[]⟩,a)):=by
     show _=_;unfold iV;rw[HC.out];simp only[nm.out];rw[HT.out]
     rfl
    go_wp2_with fail;refine bodyPost_ret (v:=.tuple #[.agg #[af ag 7,af ag 0,af ag 0,af ag n0,aj none 0 0],af ag a]) (by simp[results,Tryz.results189,go_sem,d0,d1,d2,d3,d4]) rfl ⟨?_,?_⟩
    ·rw[HS.out];exact⟨_,rfl,iF.nil,by simp,a_ ⟨rfl,none,0,rfl⟩⟩
    ·exact lX (ko HB.out (by omega) 3 _) _ _ _ _ _
theorem P_(b:List Int)(ao:Option Addr)(cap:Nat)(w:World)(hr:kv w (.slice ao b.length cap) b)(hp:0<b.length)(ht:b.getD 0 0=5):
  Calls ae 189 #[.slice ao b.length cap] w fun e w'=>qc w (iV b) e/\Below w.heap.size w w':=by
 obtain⟨i0,hi,mB,kS,ln⟩:=info_parts uE;have HR:=gE hr;have HC:Hid (kO (b.getD 0 0)=some 2):=by rw[ht];rfl
 obtain⟨hl,hm,⟨rfl,_⟩|⟨_,bb,off,n_,e,nH,hc⟩⟩:=hr
 ·simp at hp
 ·simp only[Value.slice.injEq]at e;obtain⟨rfl,_,rfl⟩:=e;have h0:=hc 0 hp;rw[ht,bd]at h0;have HT:=gE ht;clear hc ht;have jp:=jh h0;simp only at jp
  have HF:Hid (∀W:World,W=(w.alloc uA).alloc (.cells #[af ag 5,af ag 0,af ag 0,af ag 0,aj none 0 0] 296)->W.heap[w.heap.size]? =some uA/\W.heap[w.heap.size+1]? =some (.cells #[af ag 5,af ag 0,af ag 0,af ag 0,aj none 0 0] 296)/\Below w.heap.size w W):=by
   rintro W rfl;refine⟨?_,?_,(gH w _).alloc (by simp) _⟩
   ·rw[Below.heap_alloc _ _ _ (by simp)];exact heap_alloc_new w _
   ·have:=heap_alloc_new (w.alloc uA) (.cells #[af ag 5,af ag 0,af ag 0,af ag 0,aj none 0 0] 296)
    rwa [aB]at this
  go_enter func189,ntmps189;go_wp2_with fail
  go_loopw [6,7,8] (fun l Ow i wr=>∃(k:Nat) (ns:List Int) (a:Nat),k<=2/\i=af ag k/\jF b k=some (ns,a)/\Ow=af ag a/\wr.ownsRow (w.heap.size+2) 3 1 l k (ns.map (a8 .i64))/\wr.heap[w.heap.size]? =some uA/\wr.heap[w.heap.size+1]? =some (.cells #[af ag 5,af ag 0,af ag 0,af ag 0,aj none 0 0] 296)/\Below w.heap.size w wr) (fun _ _ i _=>2-(intOf i).toNat)
  case atStart=>
   obtain⟨f1,f2,f3⟩:=HF.out _ rfl;exact⟨0,[],1,aI _,rfl,rfl,rfl,aq _ _ _ _,f1,f2,f3⟩
  case round=>
   obtain⟨k,ns,a,hk,rfl,rr,rfl,gY,hR,hF,jz⟩:=hrel;obtain⟨Vk,Wh,KN,Pr⟩:=nf hl hp k rr;have hR2:=(aO.1 hF).1;have c0:wr.cell? ⟨w.heap.size+1,0,none⟩= some (af ag 5):=by simp[aX,hF]
   have c1:wr.cell? ⟨w.heap.size+1,1,none⟩= some (af ag 0):=by simp[aX,hF]
   have c2:wr.cell? ⟨w.heap.size+1,2,none⟩= some (af ag 0):=by simp[aX,hF]
   have c3:wr.cell? ⟨w.heap.size+1,3,none⟩= some (af ag 0):=by simp[aX,hF]
   have c4:wr.cell? ⟨w.heap.size+1,4,none⟩= some (aj none 0 0):=by simp[aX,hF]
   have d0:wr.cell? ⟨w.heap.size,0,none⟩= some (af ag 0):=by simp[aX,hR]
   have d1:wr.cell? ⟨w.heap.size,1,none⟩= some (af ag 0):=by simp[aX,hR]
   have d2:wr.cell? ⟨w.heap.size,2,none⟩= some (af ag 0):=by simp[aX,hR]
   have d3:wr.cell? ⟨w.heap.size,3,none⟩= some (af ag 0):=by simp[aX,hR]
   have d4:wr.cell? ⟨w.heap.size,4,none⟩= some (aj none 0 0):=by simp[aX,hR]
   have g0:∀j,wr.frozen? ⟨w.heap.size,j,none⟩= false:=fun j=>frozen_of_row wr w.heap.size j _ _ hR
   have g1:∀j,wr.frozen? ⟨w.heap.size+1,j,none⟩= false:=fun j=>frozen_of_row wr (w.heap.size+1) j _ _ hF
   have nm:=gE rr;have B0:=gE (ce hR hF);have HB:=gE jz;have HO:=gE gY;clear rr hR hF jz gY;by_cases Ad:k<2
   ·have hcut:=sx (some ⟨bb,off,none⟩) b.length cap a KN
    have Ig:Hid (kv wr (sliced (some ⟨bb,off,none⟩) a b.length cap 1) (b.drop a)):=by
     have:=(pR HR.out nH a b.length KN (ay _)).below HB.out
     rwa [bL (by simp)]at this
    generalize sliced (some ⟨bb,off,none⟩) a b.length cap 1=vc at hcut Ig;go_wp2_with fail;refine(ld (b.drop a) vc wr Ig.out).mono ?_;rintro e w1 ⟨rfl,rfl⟩;clear hcut;by_cases hz:kz (b.drop a)=0
    ·have hn:iV b=none:=sH HC.out Ad nm.out hz;obtain⟨e1,e2⟩:=tM hz;rw[e1,e2,hz];have HN:=gE hn;clear hn e1 e2 hz;go_wp2_with fail;refine bodyPost_ret (v:=.tuple #[.agg #[af ag 5,af ag 0,af ag 0,af ag 0,aj none 0 0],af ag 0]) (by simp[results,Tryz.results189,go_sem,d0,d1,d2,d3,d4]) rfl ⟨?_,?_⟩
     ·rw[HN.out];exact⟨_,_,_,_,_,rfl,_,_,_,rfl⟩
     ·exact lX HB.out _ _ _ _ _
    ·have tB:=ru nm.out hz;have e2:qh (b.drop a)=0:=by simp[qh,hz]
     rw[e2];have gr:=om (b.drop a);have gl:(b.drop a).length=b.length-a:=by simp
     have HG:Hid ((kz (b.drop a):Int)=((kz (b.drop a)).toNat:Int)):=by show _=_;omega
     have HZ:=gE hz;have hO:=HO.out;have ku:=HB.out.size;have tH:=gE tB;clear hz e2 tB;generalize ly (b.drop a)=gv at tH⊢;generalize kz (b.drop a)=gs at tH HG gr⊢;go_wp2_with (at_builtin;refine wpList_append_own _ rfl _ _ 38 rfl (w.heap.size+2) 3 i0 (af ag 0) 1 8 underlying38 hi mB kS ln rfl (by decide) _ k (ns.map (a8 .i64)) rfl (hO.alloc _) ⟨wr.heap.size,0,none⟩ 1 1 [af ag gv] rfl rfl (iZ wr 3 [af ag gv] (by simp[maxLen])) (by simp[bK]) (by unfold maxLen;omega) (by omega) (by simp;omega) ?_;intro v' w1 j8 jA _)
     go_roundw
     case rel=>
      have pY:=gU jA;have js:∀q,q<w.heap.size+2->some q≠u6.ownBlock:=fun q hq e=>by have:=(hO.lt q e.symm).1;omega
      refine⟨k+1,ns++[gv],a+gs.toNat,by omega,by go_num,tH.out,?_,by rw[bS];exact j8,?_,?_,?_⟩
      ·have:=HG.out
       congr 1
       omega
      ·rw[pY.block _ (by omega) (js _ (by omega))];exact B0.out.1
      ·rw[pY.block _ (by omega) (js _ (by omega))];exact B0.out.2
      ·exact HB.out.grown pY ku (fun g hg=>by have:=(hO.lt g hg).1;omega)
     case measure=>simp[intOf];omega
   ·obtain rfl:k=2:=by omega
    obtain⟨n0,n1,rfl⟩:∃n0 n1,ns=[n0,n1]:=by
     match ns,Vk with
     |[n0,n1],_=>exact⟨n0,n1,rfl⟩
    obtain⟨gl,cl,rfl,Pd,Pe,_⟩:=jP HO.out (by decide);have e0:wr.cell? ⟨gl,0,none⟩= some (af ag n0):=by rw[HO.out.cellAt 0 (by decide)];rfl
    have e1:wr.cell? ⟨gl,1,none⟩= some (af ag n1):=by rw[HO.out.cellAt 1 (by decide)];rfl
    have hgn:gl≠w.heap.size+1:=by omega
    have HS:Hid (iV b=some (⟨5,n0,n1,0,[]⟩,a)):=by
     show _=_;unfold iV;rw[HC.out];simp only[nm.out];rw[HT.out]
     rfl
    go_wp2_with fail;refine bodyPost_ret (v:=.tuple #[.agg #[af ag 5,af ag n0,af ag n1,af ag 0,aj none 0 0],af ag a]) (by simp[results,Tryz.results189,go_sem,d0,d1,d2,d3,d4]) rfl ⟨?_,?_⟩
    ·rw[HS.out];exact⟨_,rfl,iF.nil,by simp,a_ ⟨rfl,none,0,rfl⟩⟩
    ·exact lX (ko (ko HB.out (by omega) 1 _) (by omega) 2 _) _ _ _ _ _
theorem P9(b:List Int)(ao:Option Addr)(cap:Nat)(w:World)(hr:kv w (.slice ao b.length cap) b)(hp:0<b.length)(ht:b.getD 0 0=3):
  Calls ae 189 #[.slice ao b.length cap] w fun e w'=>qc w (iV b) e/\Below w.heap.size w w':=by
 obtain⟨i0,hi,mB,kS,ln⟩:=info_parts uE;have HR:=gE hr;have HC:Hid (kO (b.getD 0 0)=some 3):=by rw[ht];rfl
 obtain⟨hl,hm,⟨rfl,_⟩|⟨_,bb,off,n_,e,nH,hc⟩⟩:=hr
 ·simp at hp
 ·simp only[Value.slice.injEq]at e;obtain⟨rfl,_,rfl⟩:=e;have h0:=hc 0 hp;rw[ht,bd]at h0;have HT:=gE ht;clear hc ht;have jp:=jh h0;simp only at jp
  have HF:Hid (∀W:World,W=(w.alloc uA).alloc (.cells #[af ag 3,af ag 0,af ag 0,af ag 0,aj none 0 0] 296)->W.heap[w.heap.size]? =some uA/\W.heap[w.heap.size+1]? =some (.cells #[af ag 3,af ag 0,af ag 0,af ag 0,aj none 0 0] 296)/\Below w.heap.size w W):=by
   rintro W rfl;refine⟨?_,?_,(gH w _).alloc (by simp) _⟩
   ·rw[Below.heap_alloc _ _ _ (by simp)];exact heap_alloc_new w _
   ·have:=heap_alloc_new (w.alloc uA) (.cells #[af ag 3,af ag 0,af ag 0,af ag 0,aj none 0 0] 296)
    rwa [aB]at this
  go_enter func189,ntmps189;go_wp2_with fail
  go_loopw [6,7,8] (fun l Ow i wr=>∃(k:Nat) (ns:List Int) (a:Nat),k<=3/\i=af ag k/\jF b k=some (ns,a)/\Ow=af ag a/\wr.ownsRow (w.heap.size+2) 3 1 l k (ns.map (a8 .i64))/\wr.heap[w.heap.size]? =some uA/\wr.heap[w.heap.size+1]? =some (.cells #[af ag 3,af ag 0,af ag 0,af ag 0,aj none 0 0] 296)/\Below w.heap.size w wr) (fun _ _ i _=>3-(intOf i).toNat)
  case atStart=>
   obtain⟨f1,f2,f3⟩:=HF.out _ rfl;exact⟨0,[],1,aI _,rfl,rfl,rfl,aq _ _ _ _,f1,f2,f3⟩
  case round=>
   obtain⟨k,ns,a,hk,rfl,rr,rfl,gY,hR,hF,jz⟩:=hrel;obtain⟨Vk,Wh,KN,Pr⟩:=nf hl hp k rr;have hR2:=(aO.1 hF).1;have c0:wr.cell? ⟨w.heap.size+1,0,none⟩= some (af ag 3):=by simp[aX,hF]
   have c1:wr.cell? ⟨w.heap.size+1,1,none⟩= some (af ag 0):=by simp[aX,hF]
   have c2:wr.cell? ⟨w.heap.size+1,2,none⟩= some (af ag 0):=by simp[aX,hF]
   have c3:wr.cell? ⟨w.heap.size+1,3,none⟩= some (af ag 0):=by simp[aX,hF]
   have c4:wr.cell? ⟨w.heap.size+1,4,none⟩= some (aj none 0 0):=by simp[aX,hF]
   have d0:wr.cell? ⟨w.heap.size,0,none⟩= some (af ag 0):=by simp[aX,hR]
   have d1:wr.cell? ⟨w.heap.size,1,none⟩= some (af ag 0):=by simp[aX,hR]
   have d2:wr.cell? ⟨w.heap.size,2,none⟩= some (af ag 0):=by simp[aX,hR]
   have d3:wr.cell? ⟨w.heap.size,3,none⟩= some (af ag 0):=by simp[aX,hR]
   have d4:wr.cell? ⟨w.heap.size,4,none⟩= some (aj none 0 0):=by simp[aX,hR]
   have g0:∀j,wr.frozen? ⟨w.heap.size,j,none⟩= false:=fun j=>frozen_of_row wr w.heap.size j _ _ hR
   have g1:∀j,wr.frozen? ⟨w.heap.size+1,j,none⟩= false:=fun j=>frozen_of_row wr (w.heap.size+1) j _ _ hF
   have nm:=gE rr;have B0:=gE (ce hR hF);have HB:=gE jz;have HO:=gE gY;clear rr hR hF jz gY;by_cases Ad:k<3
   ·have hcut:=sx (some ⟨bb,off,none⟩) b.length cap a KN
    have Ig:Hid (kv wr (sliced (some ⟨bb,off,none⟩) a b.length cap 1) (b.drop a)):=by
     have:=(pR HR.out nH a b.length KN (ay _)).below HB.out
     rwa [bL (by simp)]at this
    generalize sliced (some ⟨bb,off,none⟩) a b.length cap 1=vc at hcut Ig;go_wp2_with fail;refine(ld (b.drop a) vc wr Ig.out).mono ?_;rintro e w1 ⟨rfl,rfl⟩;clear hcut;by_cases hz:kz (b.drop a)=0
    ·have hn:iV b=none:=sH HC.out Ad nm.out hz;obtain⟨e1,e2⟩:=tM hz;rw[e1,e2,hz];have HN:=gE hn;clear hn e1 e2 hz;go_wp2_with fail;refine bodyPost_ret (v:=.tuple #[.agg #[af ag 3,af ag 0,af ag 0,af ag 0,aj none 0 0],af ag 0]) (by simp[results,Tryz.results189,go_sem,d0,d1,d2,d3,d4]) rfl ⟨?_,?_⟩
     ·rw[HN.out];exact⟨_,_,_,_,_,rfl,_,_,_,rfl⟩
     ·exact lX HB.out _ _ _ _ _
    ·have tB:=ru nm.out hz;have e2:qh (b.drop a)=0:=by simp[qh,hz]
     rw[e2];have gr:=om (b.drop a);have gl:(b.drop a).length=b.length-a:=by simp
     have HG:Hid ((kz (b.drop a):Int)=((kz (b.drop a)).toNat:Int)):=by show _=_;omega
     have HZ:=gE hz;have hO:=HO.out;have ku:=HB.out.size;have tH:=gE tB;clear hz e2 tB;generalize ly (b.drop a)=gv at tH⊢;generalize kz (b.drop a)=gs at tH HG gr⊢;go_wp2_with (at_builtin;refine wpList_append_own _ rfl _ _ 38 rfl (w.heap.size+2) 3 i0 (af ag 0) 1 8 underlying38 hi mB kS ln rfl (by decide) _ k (ns.map (a8 .i64)) rfl (hO.alloc _) ⟨wr.heap.size,0,none⟩ 1 1 [af ag gv] rfl rfl (iZ wr 3 [af ag gv] (by simp[maxLen])) (by simp[bK]) (by unfold maxLen;omega) (by omega) (by simp;omega) ?_;intro v' w1 j8 jA _)
     go_roundw
     case rel=>
      have pY:=gU jA;have js:∀q,q<w.heap.size+2->some q≠u6.ownBlock:=fun q hq e=>by have:=(hO.lt q e.symm).1;omega
      refine⟨k+1,ns++[gv],a+gs.toNat,by omega,by go_num,tH.out,?_,by rw[bS];exact j8,?_,?_,?_⟩
      ·have:=HG.out
       congr 1
       omega
      ·rw[pY.block _ (by omega) (js _ (by omega))];exact B0.out.1
      ·rw[pY.block _ (by omega) (js _ (by omega))];exact B0.out.2
      ·exact HB.out.grown pY ku (fun g hg=>by have:=(hO.lt g hg).1;omega)
     case measure=>simp[intOf];omega
   ·obtain rfl:k=3:=by omega
    obtain⟨n0,n1,n2,rfl⟩:∃n0 n1 n2,ns=[n0,n1,n2]:=by
     match ns,Vk with
     |[n0,n1,n2],_=>exact⟨n0,n1,n2,rfl⟩
    obtain⟨gl,cl,rfl,Pd,Pe,_⟩:=jP HO.out (by decide);have e0:wr.cell? ⟨gl,0,none⟩= some (af ag n0):=by rw[HO.out.cellAt 0 (by decide)];rfl
    have e1:wr.cell? ⟨gl,1,none⟩= some (af ag n1):=by rw[HO.out.cellAt 1 (by decide)];rfl
    have e2:wr.cell? ⟨gl,2,none⟩= some (af ag n2):=by rw[HO.out.cellAt 2 (by decide)];rfl
    have hgn:gl≠w.heap.size+1:=by omega
    have acG:gl≠w.heap.size:=by omega
    obtain⟨Yq,acW⟩:=Pr n2 (by simp)
    have DZ:Hid (iV b=if(b.length:Int)<a+n2 then none else some (⟨3,n0,n1,0,(b.drop a).take n2.toNat⟩,a+n2.toNat)):=by
     show _=_;unfold iV;rw[HC.out];simp only[nm.out];rw[HT.out]
     rfl
    by_cases Jv:(b.length:Int)<a+n2
    ·have HS:Hid (iV b=none):=by show _=_;rw[DZ.out,if_pos Jv]
     go_wp2_with fail;refine bodyPost_ret (v:=.tuple #[.agg #[af ag 3,af ag n0,af ag n1,af ag 0,aj none 0 0],af ag 0]) (by simp[results,Tryz.results189,go_sem,d0,d1,d2,d3,d4]) rfl ⟨?_,?_⟩
     ·rw[HS.out];exact⟨_,_,_,_,_,rfl,_,_,_,rfl⟩
     ·exact lX (ko (ko HB.out (by omega) 1 _) (by omega) 2 _) _ _ _ _ _
    ·have HS:Hid (iV b=some (⟨3,n0,n1,0,(b.drop a).take n2.toNat⟩,a+n2.toNat)):=by show _=_;rw[DZ.out,if_neg Jv]
     obtain⟨m2,rfl⟩:=aU Yq;have hcut:=Dv (some ⟨bb,off,none⟩) b.length cap a (a+m2) (by omega) (by omega);rw[bW]at hcut;have Ig:=gE (pR HR.out nH a (a+m2) (by omega) (by omega));have Bb:∃so sn sc,sliced (some ⟨bb,off,none⟩) a (a+m2) cap 1=.slice so sn sc:=⟨_,_,_,rfl⟩;obtain⟨so,sn,sc,hf⟩:=Bb;rw[hf]at hcut;have HFm:=gE hf;clear hf;go_wp2_with fail
     go_region
     all_goals (try go_wp2)
     refine bodyPost_ret (v:=.tuple #[.agg #[af ag 3,af ag n0,af ag n1,af ag 0,.slice so sn sc],af ag (a+m2)]) (by simp[results,Tryz.results189,go_sem,d0,d1,d2,d3,d4]) rfl ⟨?_,?_⟩
     ·rw[HS.out];refine⟨.slice so sn sc,by simp,?_⟩;have:=Ig.out;rw[HFm.out,bU]at this;simpa using this
     ·exact(lX (ko (ko (ko HB.out (by omega) 1 _) (by omega) 2 _) (by omega) 4 _) _ _ _ _ _).drew
theorem P'(b:List Int)(ao:Option Addr)(cap:Nat)(w:World)(hr:kv w (.slice ao b.length cap) b)(hp:0<b.length)(ht:b.getD 0 0=4):
  Calls ae 189 #[.slice ao b.length cap] w fun e w'=>qc w (iV b) e/\Below w.heap.size w w':=by
 obtain⟨i0,hi,mB,kS,ln⟩:=info_parts uE;have HR:=gE hr;have HC:Hid (kO (b.getD 0 0)=some 3):=by rw[ht];rfl
 obtain⟨hl,hm,⟨rfl,_⟩|⟨_,bb,off,n_,e,nH,hc⟩⟩:=hr
 ·simp at hp
 ·simp only[Value.slice.injEq]at e;obtain⟨rfl,_,rfl⟩:=e;have h0:=hc 0 hp;rw[ht,bd]at h0;have HT:=gE ht;clear hc ht;have jp:=jh h0;simp only at jp
  have HF:Hid (∀W:World,W=(w.alloc uA).alloc (.cells #[af ag 4,af ag 0,af ag 0,af ag 0,aj none 0 0] 296)->W.heap[w.heap.size]? =some uA/\W.heap[w.heap.size+1]? =some (.cells #[af ag 4,af ag 0,af ag 0,af ag 0,aj none 0 0] 296)/\Below w.heap.size w W):=by
   rintro W rfl;refine⟨?_,?_,(gH w _).alloc (by simp) _⟩
   ·rw[Below.heap_alloc _ _ _ (by simp)];exact heap_alloc_new w _
   ·have:=heap_alloc_new (w.alloc uA) (.cells #[af ag 4,af ag 0,af ag 0,af ag 0,aj none 0 0] 296)
    rwa [aB]at this
  go_enter func189,ntmps189;go_wp2_with fail
  go_loopw [6,7,8] (fun l Ow i wr=>∃(k:Nat) (ns:List Int) (a:Nat),k<=3/\i=af ag k/\jF b k=some (ns,a)/\Ow=af ag a/\wr.ownsRow (w.heap.size+2) 3 1 l k (ns.map (a8 .i64))/\wr.heap[w.heap.size]? =some uA/\wr.heap[w.heap.size+1]? =some (.cells #[af ag 4,af ag 0,af ag 0,af ag 0,aj none 0 0] 296)/\Below w.heap.size w wr) (fun _ _ i _=>3-(intOf i).toNat)
  case atStart=>
   obtain⟨f1,f2,f3⟩:=HF.out _ rfl;exact⟨0,[],1,aI _,rfl,rfl,rfl,aq _ _ _ _,f1,f2,f3⟩
  case round=>
   obtain⟨k,ns,a,hk,rfl,rr,rfl,gY,hR,hF,jz⟩:=hrel;obtain⟨Vk,Wh,KN,Pr⟩:=nf hl hp k rr;have hR2:=(aO.1 hF).1;have c0:wr.cell? ⟨w.heap.size+1,0,none⟩= some (af ag 4):=by simp[aX,hF]
   have c1:wr.cell? ⟨w.heap.size+1,1,none⟩= some (af ag 0):=by simp[aX,hF]
   have c2:wr.cell? ⟨w.heap.size+1,2,none⟩= some (af ag 0):=by simp[aX,hF]
   have c3:wr.cell? ⟨w.heap.size+1,3,none⟩= some (af ag 0):=by simp[aX,hF]
   have c4:wr.cell? ⟨w.heap.size+1,4,none⟩= some (aj none 0 0):=by simp[aX,hF]
   have d0:wr.cell? ⟨w.heap.size,0,none⟩= some (af ag 0):=by simp[aX,hR]
   have d1:wr.cell? ⟨w.heap.size,1,none⟩= some (af ag 0):=by simp[aX,hR]
   have d2:wr.cell? ⟨w.heap.size,2,none⟩= some (af ag 0):=by simp[aX,hR]
   have d3:wr.cell? ⟨w.heap.size,3,none⟩= some (af ag 0):=by simp[aX,hR]
   have d4:wr.cell? ⟨w.heap.size,4,none⟩= some (aj none 0 0):=by simp[aX,hR]
   have g0:∀j,wr.frozen? ⟨w.heap.size,j,none⟩= false:=fun j=>frozen_of_row wr w.heap.size j _ _ hR
   have g1:∀j,wr.frozen? ⟨w.heap.size+1,j,none⟩= false:=fun j=>frozen_of_row wr (w.heap.size+1) j _ _ hF
   have nm:=gE rr;have B0:=gE (ce hR hF);have HB:=gE jz;have HO:=gE gY;clear rr hR hF jz gY;by_cases Ad:k<3
   ·have hcut:=sx (some ⟨bb,off,none⟩) b.length cap a KN
    have Ig:Hid (kv wr (sliced (some ⟨bb,off,none⟩) a b.length cap 1) (b.drop a)):=by
     have:=(pR HR.out nH a b.length KN (ay _)).below HB.out
     rwa [bL (by simp)]at this
    generalize sliced (some ⟨bb,off,none⟩) a b.length cap 1=vc at hcut Ig;go_wp2_with fail;refine(ld (b.drop a) vc wr Ig.out).mono ?_;rintro e w1 ⟨rfl,rfl⟩;clear hcut;by_cases hz:kz (b.drop a)=0
    ·have hn:iV b=none:=sH HC.out Ad nm.out hz;obtain⟨e1,e2⟩:=tM hz;rw[e1,e2,hz];have HN:=gE hn;clear hn e1 e2 hz;go_wp2_with fail;refine bodyPost_ret (v:=.tuple #[.agg #[af ag 4,af ag 0,af ag 0,af ag 0,aj none 0 0],af ag 0]) (by simp[results,Tryz.results189,go_sem,d0,d1,d2,d3,d4]) rfl ⟨?_,?_⟩
     ·rw[HN.out];exact⟨_,_,_,_,_,rfl,_,_,_,rfl⟩
     ·exact lX HB.out _ _ _ _ _
    ·have tB:=ru nm.out hz;have e2:qh (b.drop a)=0:=by simp[qh,hz]
     rw[e2];have gr:=om (b.drop a);have gl:(b.drop a).length=b.length-a:=by simp
     have HG:Hid ((kz (b.drop a):Int)=((kz (b.drop a)).toNat:Int)):=by show _=_;omega
     have HZ:=gE hz;have hO:=HO.out;have ku:=HB.out.size;have tH:=gE tB;clear hz e2 tB;generalize ly (b.drop a)=gv at tH⊢;generalize kz (b.drop a)=gs at tH HG gr⊢;go_wp2_with (at_builtin;refine wpList_append_own _ rfl _ _ 38 rfl (w.heap.size+2) 3 i0 (af ag 0) 1 8 underlying38 hi mB kS ln rfl (by decide) _ k (ns.map (a8 .i64)) rfl (hO.alloc _) ⟨wr.heap.size,0,none⟩ 1 1 [af ag gv] rfl rfl (iZ wr 3 [af ag gv] (by simp[maxLen])) (by simp[bK]) (by unfold maxLen;omega) (by omega) (by simp;omega) ?_;intro v' w1 j8 jA _)
     go_roundw
     case rel=>
      have pY:=gU jA;have js:∀q,q<w.heap.size+2->some q≠u6.ownBlock:=fun q hq e=>by have:=(hO.lt q e.symm).1;omega
      refine⟨k+1,ns++[gv],a+gs.toNat,by omega,by go_num,tH.out,?_,by rw[bS];exact j8,?_,?_,?_⟩
      ·have:=HG.out
       congr 1
       omega
      ·rw[pY.block _ (by omega) (js _ (by omega))];exact B0.out.1
      ·rw[pY.block _ (by omega) (js _ (by omega))];exact B0.out.2
      ·exact HB.out.grown pY ku (fun g hg=>by have:=(hO.lt g hg).1;omega)
     case measure=>simp[intOf];omega
   ·obtain rfl:k=3:=by omega
    obtain⟨n0,n1,n2,rfl⟩:∃n0 n1 n2,ns=[n0,n1,n2]:=by
     match ns,Vk with
     |[n0,n1,n2],_=>exact⟨n0,n1,n2,rfl⟩
    obtain⟨gl,cl,rfl,Pd,Pe,_⟩:=jP HO.out (by decide);have e0:wr.cell? ⟨gl,0,none⟩= some (af ag n0):=by rw[HO.out.cellAt 0 (by decide)];rfl
    have e1:wr.cell? ⟨gl,1,none⟩= some (af ag n1):=by rw[HO.out.cellAt 1 (by decide)];rfl
    have e2:wr.cell? ⟨gl,2,none⟩= some (af ag n2):=by rw[HO.out.cellAt 2 (by decide)];rfl
    have hgn:gl≠w.heap.size+1:=by omega
    have acG:gl≠w.heap.size:=by omega
    obtain⟨Yq,acW⟩:=Pr n2 (by simp)
    have DZ:Hid (iV b=if(b.length:Int)<a+n2 then none else some (⟨4,n0,n1,0,(b.drop a).take n2.toNat⟩,a+n2.toNat)):=by
     show _=_;unfold iV;rw[HC.out];simp only[nm.out];rw[HT.out]
     rfl
    by_cases Jv:(b.length:Int)<a+n2
    ·have HS:Hid (iV b=none):=by show _=_;rw[DZ.out,if_pos Jv]
     go_wp2_with fail;refine bodyPost_ret (v:=.tuple #[.agg #[af ag 4,af ag n0,af ag n1,af ag 0,aj none 0 0],af ag 0]) (by simp[results,Tryz.results189,go_sem,d0,d1,d2,d3,d4]) rfl ⟨?_,?_⟩
     ·rw[HS.out];exact⟨_,_,_,_,_,rfl,_,_,_,rfl⟩
     ·exact lX (ko (ko HB.out (by omega) 1 _) (by omega) 2 _) _ _ _ _ _
    ·have HS:Hid (iV b=some (⟨4,n0,n1,0,(b.drop a).take n2.toNat⟩,a+n2.toNat)):=by show _=_;rw[DZ.out,if_neg Jv]
     obtain⟨m2,rfl⟩:=aU Yq;have hcut:=Dv (some ⟨bb,off,none⟩) b.length cap a (a+m2) (by omega) (by omega);rw[bW]at hcut;have Ig:=gE (pR HR.out nH a (a+m2) (by omega) (by omega));have Bb:∃so sn sc,sliced (some ⟨bb,off,none⟩) a (a+m2) cap 1=.slice so sn sc:=⟨_,_,_,rfl⟩;obtain⟨so,sn,sc,hf⟩:=Bb;rw[hf]at hcut;have HFm:=gE hf;clear hf;go_wp2_with fail
     go_region
     all_goals (try go_wp2)
     refine bodyPost_ret (v:=.tuple #[.agg #[af ag 4,af ag n0,af ag n1,af ag 0,.slice so sn sc],af ag (a+m2)]) (by simp[results,Tryz.results189,go_sem,d0,d1,d2,d3,d4]) rfl ⟨?_,?_⟩
     ·rw[HS.out];refine⟨.slice so sn sc,by simp,?_⟩;have:=Ig.out;rw[HFm.out,bU]at this;simpa using this
     ·exact(lX (ko (ko (ko HB.out (by omega) 1 _) (by omega) 2 _) (by omega) 4 _) _ _ _ _ _).drew
theorem G5(b:List Int)(ao:Option Addr)(cap:Nat)(w:World)(hr:kv w (.slice ao b.length cap) b)(hp:0<b.length)(n0:¬b.getD 0 0=0)(n1:¬b.getD 0 0=1)(n3:¬b.getD 0 0=3)(n4:¬b.getD 0 0=4)(n5:¬b.getD 0 0=5)(n6:¬b.getD 0 0=6)(n7:¬b.getD 0 0=7):
  Calls ae 189 #[.slice ao b.length cap] w fun e w'=>qc w (iV b) e/\Below w.heap.size w w':=by
 have hs:iV b=none:=by
  unfold iV
  have:kO (b.getD 0 0)=none:=by
   unfold kO;rw[if_neg (by omega),if_neg (by omega),if_neg n5,if_neg (by omega)]
  rw[this]
 rw[hs];clear hs;have mH:=j9 hr.1 0;obtain⟨hl,hm,⟨rfl,_⟩|⟨_,bb,off,n_,e,nH,hc⟩⟩:=hr
 ·simp at hp
 ·simp only[Value.slice.injEq]at e;obtain⟨rfl,_,rfl⟩:=e;have h0:=hc 0 hp;rw[bd]at h0;clear hc;generalize b.getD 0 0=t at *
  obtain⟨SL,JH⟩:=mH;have jp:=jh h0;simp only at jp;have b0:(t==0)=false:=beq_eq_false_iff_ne.2 n0;have b1:(t==1)=false:=beq_eq_false_iff_ne.2 n1;have b3:(t==3)=false:=beq_eq_false_iff_ne.2 n3;have b4:(t==4)=false:=beq_eq_false_iff_ne.2 n4;have b5:(t==5)=false:=beq_eq_false_iff_ne.2 n5;have b6:(t==6)=false:=beq_eq_false_iff_ne.2 n6;have b7:(t==7)=false:=beq_eq_false_iff_ne.2 n7;clear n0 n1 n3 n4 n5 n6 n7;go_enter func189,ntmps189
  go_wp2
  refine bodyPost_ret (v:=.tuple #[.agg #[af ag t,af ag 0,af ag 0,af ag 0,aj none 0 0],af ag 0]) (by simp[results,Tryz.results189,go_sem]) rfl ⟨⟨_,_,_,_,_,rfl,_,_,_,rfl⟩,?_⟩;exact(gH w _).alloc (by simp) _
theorem MH(b:List Int)(v:Value)(w:World)(hr:kv w v b)(hp:0<b.length):
  Calls ae 189 #[v] w fun e w'=>qc w (iV b) e/\Below w.heap.size w w':=by
 obtain⟨ao,cap,rfl⟩:=hr.form;by_cases n0:b.getD 0 0=0
 ·exact P7 b ao cap w hr hp n0
 by_cases n1:b.getD 0 0=1
 ·exact P8 b ao cap w hr hp n1
 by_cases n3:b.getD 0 0=3
 ·exact P9 b ao cap w hr hp n3
 by_cases n4:b.getD 0 0=4
 ·exact P' b ao cap w hr hp n4
 by_cases n5:b.getD 0 0=5
 ·exact P_ b ao cap w hr hp n5
 by_cases n6:b.getD 0 0=6
 ·exact Qa b ao cap w hr hp n6
 by_cases n7:b.getD 0 0=7
 ·exact Qb b ao cap w hr hp n7
 exact G5 b ao cap w hr hp n0 n1 n3 n4 n5 n6 n7
def jf.cells(s:jf)(bv:Value):List Value:=[bv,af ag s.read,af ag s.gR,af ag s.gM,af ag s.final,.bool s.reset,.bool s.done]
def lO:List jf->List Value->List Value
 |s::r,bv::nk=>s.cells bv++lO r nk
 |_,_=>[]
def iU(l:List (Int×Int)):List Value:=l.flatMap fun r=>[af ag r.1,af ag r.2]
def jC(l:List Int):List Value:=l.map (a8 .i64)
def il(c:gZ)(rv sv:Value):Array Value:=
 #[af ag c.gL,af ag c.addr,.bool c.gT,af ag c.jc,af ag c.jb,af ag c.heard,af ag c.mark,rv,af ag c.gM,sv,af ag c.waits]
def nC(w:World)(base:Nat)(c:gZ)(cb sr:Nat):Prop:=
 ∃rv kN nk,w.heap[cb]? =some (.cells (il c rv (aj (some ⟨sr,0,none⟩) c.gJ.length kN)) 249 (0,0))/\Ro w 294 rv c.runs.length (iU c.runs)/\
  nk.length=c.gJ.length/\w.ownsRow base 252 7 (aj (some ⟨sr,0,none⟩) c.gJ.length kN) c.gJ.length (lO c.gJ nk)/\
  ∀(i:Nat) s bv,c.gJ[i]? =some s->nk[i]? =some bv->Ro w 3 bv s.bytes.length (jC s.bytes)
def ij(s:ik)(cv ov:Value):Array Value:=(s.c.cells++[af ag s.now,cv,af ag s.last,ov]).toArray
def Lb(w:World)(base:Nat)(s:ik)(sb:Nat)(gP iJ:List Nat):Prop:=
 ∃cv ov,w.heap[sb]? =some (.cells (ij s cv ov) 242 (0,0))/\w.ownsRow base 244 1 cv s.gG.length (gP.map fun b=>ai (some ⟨b,0,none⟩))/\
  gP.length=s.gG.length/\iJ.length=s.gG.length/\gP.Nodup/\iJ.Nodup/\
  ∀(i:Nat) c cb sr,s.gG[i]? =some c->gP[i]? =some cb->iJ[i]? =some sr->nC w base c cb sr
structure rU(w:World)(s:ik)(sb:Nat)(gP:List Nat)(ao:Option Addr)(li:Nat):Prop where
 cfg:∀j,j<10->w.cell? ⟨sb,j,none⟩= s.c.cells[j]?
 now:w.cell? ⟨sb,10,none⟩= some (af ag s.now)
 cv:w.cell? ⟨sb,11,none⟩= some (.slice ao s.gG.length li)
 last:w.cell? ⟨sb,12,none⟩= some (af ag s.last)
 len:gP.length=s.gG.length
 row:∀(i:Nat) cb,gP[i]? =some cb->∃g,ao=some ⟨g,0,none⟩/\w.cell? ⟨g,i,none⟩= some (ai (some ⟨cb,0,none⟩))
 kH:∀(i:Nat) c cb,s.gG[i]? =some c->gP[i]? =some cb->∃rv sv,∀j,w.cell? ⟨cb,j,none⟩=(il c rv sv)[j]?
theorem Lb.view{iJ:List Nat}(h:Lb w base s sb gP iJ):∃ao li,rU w s sb gP ao li:=by
 obtain⟨cv,ov,hs,zy,sj,rC,_,_,hc⟩:=h;obtain⟨ao,li,rfl⟩:=i7 zy;refine⟨ao,li,⟨fun j hj=>?_,?_,?_,?_,sj,fun i cb hi=>?_,fun i c cb hi hb=>?_⟩⟩
 ·simp only[aX,hs,ij,List.getElem?_toArray];rw[aw (by simpa[jG.cells] using hj)]
  rfl
 ·simp[aX,hs,ij,jG.cells]
 ·simp[aX,hs,ij,jG.cells]
 ·simp[aX,hs,ij,jG.cells]
 ·have jp:=(bm.1 hi).1;obtain⟨g,n_,e,_,_,_⟩:=jP zy (by omega);simp only[Value.slice.injEq]at e;obtain⟨rfl,_,rfl⟩:=e;refine⟨g,rfl,?_⟩;rw[zy.cellAt i (by omega),List.getElem?_map,hi]
  rfl
 ·have jp:=(bm.1 hb).1;obtain⟨rv,kN,nk,hh,_⟩:=hc i c cb (iJ[i]'(by omega)) hi hb (am (by omega));exact⟨rv,aj (some ⟨iJ[i]'(by omega),0,none⟩) c.gJ.length kN,fun j=>by simp[aX,hh]⟩
def pT(gP:List Nat):Option Nat->Value
 |none=>ai none
 |some k=>ai (some ⟨gP.getD k 0,0,none⟩)
theorem nK(s:ik)(sb:Nat)(gP:List Nat)(ao:Option Addr)(li:Nat)(gL:Int)(w:World)(hv:rU w s sb gP ao li)(hn:s.gG.length<=1000):
  Calls ae 158 #[ai (some ⟨sb,0,none⟩),af ag gL] w fun e w'=>e=.returned (pT gP (kR s.gG gL))/\w=w':=by
 have HV:=gE hv;have ZH:=hv.cv;clear hv;go_enter func158,ntmps158
 go_wp2
 go_loop [5] (fun i=>∃k:Nat,k<=s.gG.length/\i=af ag k/\Hid (∀(j:Nat) c,j<k->s.gG[j]? =some c->(c.gL==gL)=false)) (fun i=>s.gG.length-(intOf i).toNat)
 case atStart=>exact⟨0,aI _,rfl,fun j c hj=>by omega⟩
 case round=>
  obtain⟨k,hk,rfl,ka⟩:=hrel;by_cases jp:k<s.gG.length
  ·obtain⟨c,hc⟩:∃c,s.gG[k]? =some c:=⟨_,am jp⟩;obtain⟨cb,jJ⟩:∃cb,gP[k]? =some cb:=⟨_,am (by rw[HV.out.len];exact jp)⟩;obtain⟨g,rfl,hp⟩:=HV.out.row k cb jJ;obtain⟨rv,sv,jk⟩:=HV.out.kH k c cb hc jJ;have h0:=jk 0;simp only[il]at h0;have h0':w.cell? ⟨cb,0,none⟩= some (af ag c.gL):=h0;clear h0 jk;have HC:=gE hc;have HCb:=gE jJ;clear hc jJ
   cases zx:(c.gL==gL)
   ·go_wp2
    go_round
    case rel=>
     refine⟨k+1,by omega,by go_num,fun j c' hj xQ=>?_⟩;rcases aD j k with h1|h1
     ·exact ka.out j c' h1 xQ
     ·obtain rfl:j=k:=by omega
      obtain rfl:=Option.some.inj (HC.out.symm.trans xQ);exact zx
    case measure=>simp[intOf];omega
   ·have HF:Hid (kR s.gG gL=some k):=by
     show _=_;unfold kR;rw[List.findIdx?_eq_some_iff_getElem];refine⟨jp,?_,fun j hj=>?_⟩
     ·rw[am jp]at HC;rw[Option.some.inj HC.out];exact zx
     ·simp[ka.out j _ hj (am (by omega))]
    go_wp2
    go_ret;refine⟨?_,rfl⟩;rw[HF.out];simp only[pT,aQ,HCb.out,Option.getD_some]
    rfl
  ·obtain rfl:k=s.gG.length:=by omega
   have HF:Hid (kR s.gG gL=none):=by
    show _=_;unfold kR;rw[List.findIdx?_eq_none_iff];intro c hc;obtain⟨j,hj,rfl⟩:=List.getElem_of_mem hc;exact ka.out j _ hj (am hj)
   go_wp2
   go_ret;refine⟨?_,rfl⟩;rw[HF.out]
   rfl
theorem rU.drewN{ao:Option Addr}{li:Nat}(h:rU w s sb gP ao li)(n:Nat):rU (w.drewN n) s sb gP ao li:=⟨h.cfg,h.now,h.cv,h.last,h.len,h.row,h.kH⟩
theorem uN(s:ik)(sb:Nat)(gP:List Nat)(ao:Option Addr)(li:Nat)(w:World)(hv:rU w s sb gP ao li)(h1:0<=s.c.c1/\s.c.c1<=4096)(h3:0<=s.c.c3/\s.c.c3<=8):
  Calls ae 161 #[ai (some ⟨sb,0,none⟩)] w fun e w'=>e=.returned (af ag (jZ s.c))/\∃n,w'=w.drewN n:=by
 have c1:w.cell? ⟨sb,1,none⟩= some (af ag s.c.c1):=hv.cfg 1 (by decide);have c3:w.cell? ⟨sb,3,none⟩= some (af ag s.c.c3):=hv.cfg 3 (by decide);clear hv;have HE:Hid (jZ s.c=64+s.c.c1+32*s.c.c3):=rfl;generalize s.c.c1=x1 at *
 generalize s.c.c3=x3 at *
 obtain⟨a1,b1⟩:=h1;obtain⟨a3,b3⟩:=h3;go_enter func161,ntmps161
 go_wp2
 go_quiet (fail)
 go_wp2
 go_ret;exact⟨by rw[HE.out];rfl,_,rfl⟩
theorem ry(s:ik)(sb:Nat)(gP:List Nat)(ao:Option Addr)(li:Nat)(w:World)(hv:rU w s sb gP ao li)(h1:0<=s.c.c1/\s.c.c1<=4096)(h3:0<=s.c.c3/\s.c.c3<=8)(hn:s.gG.length<=1000):
  Calls ae 121 #[ai (some ⟨sb,0,none⟩)] w fun e w'=>e=.returned (af ag (nP s))/\∃n,w'=w.drewN n:=by
 have ZH:=hv.cv;have HV:=gE hv;clear hv;have mH:0<=jZ s.c/\jZ s.c<=5000:=by unfold jZ;omega
 have HE:Hid (nP s=s.gG.length*jZ s.c):=rfl
 have HQ:Hid (∀W,(∃n,W=w.drewN n)->Calls ae 161 #[ai (some ⟨sb,0,none⟩)] W fun e w'=>e=.returned (af ag (jZ s.c))/\∃n,w'=W.drewN n):=by
  rintro W ⟨n,rfl⟩;exact uN s sb gP ao li _ (HV.out.drewN n) h1 h3
 generalize jZ s.c=x at *
 clear h1 h3;obtain⟨Vt,Q0⟩:=mH
 have adI:0<=(s.gG.length:Int)*x/\(s.gG.length:Int)*x<=5000000:=by
  have h1:(s.gG.length:Int)<=1000:=by omega
  constructor
  ·exact Int.mul_nonneg (by omega) Vt
  ·calc (s.gG.length:Int)*x<=1000*5000:=Int.mul_le_mul h1 Q0 Vt (by omega)
    _<=5000000:=by decide
 go_enter func121,ntmps121
 go_wp2
 go_quiet ((go_at_call 161;exact Calls.quiet_of (HQ.out _ ⟨_,rfl⟩)))
 go_wp2
 go_ret;exact⟨by rw[HE.out];rfl,_,rfl⟩
theorem Qx(l:List gZ)(c:gZ):r_ (l++[c])=r_ l+if c.gT then 0 else 1:=by
 unfold r_;rw[List.countP_append]
 cases h:c.gT<;>simp[h]
theorem vG{α:Type}{l:List α}{c:α}(h:l[k]? =some c):l.take (k+1)=l.take k++[c]:=by
 rw[bV,h];rfl
theorem tZ(s:ik)(sb:Nat)(gP:List Nat)(ao:Option Addr)(li:Nat)(w:World)(hv:rU w s sb gP ao li)(hn:s.gG.length<=1000):
  Calls ae 186 #[ai (some ⟨sb,0,none⟩)] w fun e w'=>e=.returned (af ag (r_ s.gG))/\w=w':=by
 have HV:=gE hv;have ZH:=hv.cv;clear hv;go_enter func186,ntmps186
 go_wp2
 go_loop [3,4] (fun n i=>∃k:Nat,k<=s.gG.length/\i=af ag k/\n=af ag (r_ (s.gG.take k))) (fun _ i=>s.gG.length-(intOf i).toNat)
 case atStart=>exact⟨0,aI _,rfl,rfl⟩
 case round=>
  obtain⟨k,hk,rfl,rfl⟩:=hrel
  have hub:0<=r_ (s.gG.take k)/\r_ (s.gG.take k)<=1000:=by
   unfold r_;have h1:=List.countP_le_length (p:=fun c:gZ=>!c.gT) (l:=s.gG.take k);have h2:(s.gG.take k).length<=k:=bO _ _;omega
  by_cases jp:k<s.gG.length
  ·obtain⟨c,hc⟩:∃c,s.gG[k]? =some c:=⟨_,am jp⟩;obtain⟨cb,jJ⟩:∃cb,gP[k]? =some cb:=⟨_,am (by rw[HV.out.len];exact jp)⟩;obtain⟨g,rfl,hp⟩:=HV.out.row k cb jJ;obtain⟨rv,sv,jk⟩:=HV.out.kH k c cb hc jJ;have h2:w.cell? ⟨cb,2,none⟩= some (.bool c.gT):=jk 2
   have HU:Hid (r_ (s.gG.take (k+1))=r_ (s.gG.take k)+if c.gT then 0 else 1):=by
    show _=_;rw[vG hc,Qx]
   clear jk hc jJ;generalize r_ (s.gG.take k)=u at HU hub⊢;obtain⟨hu0,hu1⟩:=hub
   cases JA:c.gT
   ·rw[JA]at h2 HU
    go_wp2
    go_round
    case rel=>exact⟨k+1,by omega,by go_num,by rw[HU.out];rfl⟩
    case measure=>simp[intOf];omega
   ·rw[JA]at h2 HU
    go_wp2
    go_round
    case rel=>exact⟨k+1,by omega,by go_num,by rw[HU.out];simp⟩
    case measure=>simp[intOf];omega
  ·obtain rfl:k=s.gG.length:=by omega
   go_wp2
   go_ret;exact⟨rfl,rfl⟩
theorem j_:∀(ss:List jf) (nk:List Value) (i:Nat) (s:jf) (bv:Value),ss[i]? =some s->nk[i]? =some bv->∀j,j<7->(lO ss nk)[i*7+j]? =(s.cells bv)[j]?
 |[],_,i,s,bv,h,_,_,_=>by simp at h
 |s0::r,[],i,s,bv,_,h,_,_=>by simp at h
 |s0::r,b0::nk,0,s,bv,h,hb,j,hj=>by
  simp only[List.getElem?_cons_zero,Option.some.injEq]at h hb;subst h hb;simp only[lO];rw[aw (by simp[jf.cells];omega)];simp
 |s0::r,b0::nk,i+1,s,bv,h,hb,j,hj=>by
  simp only[List.getElem?_cons_succ]at h hb;have hl:(s0.cells b0).length=7:=rfl;simp only[lO];rw[aF (by omega),hl,show(i+1)*7+j-7=i*7+j from by omega];exact j_ r nk i s bv h hb j hj
structure Ng(w:World)(c:gZ)(cb sr kN:Nat)(rv:Value)(nk:List Value):Prop where
 cell:∀j,w.cell? ⟨cb,j,none⟩=(il c rv (aj (some ⟨sr,0,none⟩) c.gJ.length kN))[j]?
 len:nk.length=c.gJ.length
 str:∀(i:Nat) s bv,c.gJ[i]? =some s->nk[i]? =some bv->∀j,j<7->w.cell? ⟨sr,i*7+j,none⟩=(s.cells bv)[j]?
 runs:Ro w 294 rv c.runs.length (iU c.runs)
 bytes:∀(i:Nat) s bv,c.gJ[i]? =some s->nk[i]? =some bv->Ro w 3 bv s.bytes.length (jC s.bytes)
theorem nC.view{c:gZ}{sr:Nat}(h:nC w base c cb sr):∃kN rv nk,Ng w c cb sr kN rv nk:=by
 obtain⟨rv,kN,nk,hh,hr,hl,ho,hb⟩:=h;refine⟨kN,rv,nk,⟨fun j=>by simp[aX,hh],hl,fun i s bv hs kI j hj=>?_,hr,hb⟩⟩;have jp:=(bm.1 hs).1;rw[ho.cellAt (i*7+j) (by omega)];exact j_ _ _ i s bv hs kI j hj
theorem LS(l:List jf)(s:jf):jO (l++[s])=jO l+s.gR:=by simp[jO]
theorem tw{l:List jf}{B:Int}(h:∀s∈l,0<=s.gR/\s.gR<=B):0<=jO l/\jO l<=l.length*B:=by
 induction l with
 |nil=>simp[jO]
 |cons s r ih=>
  have h1:=h s (by simp);have h2:=ih (fun x hx=>h x (by simp[hx]));simp only[jO,List.map_cons,List.sum_cons,List.length_cons]at h2⊢;rw[show((r.length+1:Nat):Int)*B=r.length*B+B from by rw[bW,Int.add_mul];simp];omega
theorem vE(c:gZ)(cb sr kN:Nat)(rv:Value)(nk:List Value)(w:World)(hv:Ng w c cb sr kN rv nk)(hn:c.gJ.length<=1073741823)(hb:∀s∈c.gJ,0<=s.gR/\s.gR<=2147483647):
  Calls ae 206 #[ai (some ⟨cb,0,none⟩)] w fun e w'=>e=.returned (af ag (jO c.gJ))/\w=w':=by
 have c9:w.cell? ⟨cb,9,none⟩= some (aj (some ⟨sr,0,none⟩) c.gJ.length kN):=hv.cell 9;have HV:=gE hv;have HB:=gE hb;clear hv hb;go_enter func206,ntmps206
 go_wp2
 go_loop [3,4] (fun n i=>∃k:Nat,k<=c.gJ.length/\i=af ag k/\n=af ag (jO (c.gJ.take k))) (fun _ i=>c.gJ.length-(intOf i).toNat)
 case atStart=>exact⟨0,aI _,rfl,rfl⟩
 case round=>
  obtain⟨k,hk,rfl,rfl⟩:=hrel
  have zE:0<=jO (c.gJ.take k)/\jO (c.gJ.take k)<=2305843009213693952:=by
   have h1:=tw (l:=c.gJ.take k) (B:=2147483647) (fun s hs=>HB.out s (bZ hs));have h2:(c.gJ.take k).length<=k:=bO _ _;omega
  by_cases jp:k<c.gJ.length
  ·obtain⟨s,hs⟩:∃s,c.gJ[k]? =some s:=⟨_,am jp⟩;obtain⟨bv,kI⟩:∃bv,nk[k]? =some bv:=⟨_,am (by rw[HV.out.len];exact jp)⟩;have h2:w.cell? ⟨sr,k*7+2,none⟩= some (af ag s.gR):=HV.out.str k s bv hs kI 2 (by decide);have lj:=HB.out s (bT hs)
   have HU:Hid (jO (c.gJ.take (k+1))=jO (c.gJ.take k)+s.gR):=by
    show _=_;rw[vG hs,LS]
   clear hs kI;generalize jO (c.gJ.take k)=u at HU zE⊢;generalize s.gR=x at HU lj h2;obtain⟨hu0,hu1⟩:=zE;obtain⟨Vt,Q0⟩:=lj
   go_wp2
   go_round
   case rel=>exact⟨k+1,by omega,by go_num,by rw[HU.out]⟩
   case measure=>simp[intOf];omega
  ·obtain rfl:k=c.gJ.length:=by omega
   go_wp2
   go_ret;exact⟨rfl,rfl⟩
theorem SW(hk:k<=l.length)(SN:∀(j:Nat) x,j<k->l[j]? =some x->0<=x)(ka:∀x,l[k]? =some x->x<0):pB l=k:=by
 unfold pB
 induction l generalizing k with
 |nil=>simp at hk⊢;omega
 |cons a r ih=>
  cases k with
  |zero=>
   have:=ka a (by simp);simp[List.takeWhile,show ¬0<=a by omega]
  |succ k=>
   have h0:=SN 0 a (by omega) (by simp);simp only[List.takeWhile,h0,decide_true,List.length_cons];rw[ih (k:=k) (by simpa using hk) (fun j x hj hx=>SN (j+1) x (by omega) (by simpa using hx)) (fun x hx=>ka x (by simpa using hx))]
theorem Tj(s:jf)(b o:Nat)(bv:Value)(w:World)(hc:∀j,j<7->w.cell? ⟨b,o+j,none⟩=(s.cells bv)[j]?)(hb:Ro w 3 bv s.bytes.length (jC s.bytes))(hn:s.bytes.length<=1073741823)(hr:0<=s.read/\s.read<=2147483647):
  Calls ae 208 #[ai (some ⟨b,o,none⟩)] w fun e w'=>e=.returned (.bool (Bv s))/\∃n,w'=w.drewN n:=by
 have q0:w.cell? ⟨b,o,none⟩= some bv:=hc 0 (by decide);have q1:w.cell? ⟨b,o+1,none⟩= some (af ag s.read):=hc 1 (by decide);have q4:w.cell? ⟨b,o+4,none⟩= some (af ag s.final):=hc 4 (by decide);obtain⟨ao,cap,rfl,hp,_⟩:=hb;have HP:=gE hp;clear hp hc;obtain⟨rG,ue⟩:=hr;go_enter func208,ntmps208
 go_wp2
 go_loop [3] (fun n=>∃k:Nat,k<=s.bytes.length/\n=af ag k/\Hid (∀(j:Nat) x,j<k->s.bytes[j]? =some x->0<=x)) (fun n=>s.bytes.length-(intOf n).toNat)
 case atStart=>exact⟨0,aI _,rfl,fun j x hj=>by omega⟩
 case round=>
  obtain⟨k,hk,rfl,SN⟩:=hrel
  have fin:Hid ((∀x,s.bytes[k]? =some x->x<0)->Bv s=(decide (0<=s.final)&&decide (s.final<=s.read+k))):=by
   intro h;unfold Bv;rw[SW hk SN.out h]
  by_cases jp:k<s.bytes.length
  ·obtain⟨x,hx⟩:∃x,s.bytes[k]? =some x:=⟨_,am jp⟩;obtain⟨bb,off,cur,fr,rfl,hh,lF⟩:=HP.out (by omega)
   have jk:w.cell? ⟨bb,off+k,none⟩= some (af ag x):=by
    have:=lF k (by simpa[jC] using jp);simp only[jC,List.getElem?_map,hx,cf]at this;simp[aX,hh,this]
   clear lF hh;by_cases Vt:0<=x
   ·go_wp2
    go_round
    case rel=>
     refine⟨k+1,by omega,by go_num,fun j y hj hy=>?_⟩;rcases aD j k with h1|h1
     ·exact SN.out j y h1 hy
     ·obtain rfl:j=k:=by omega
      rw[hx]at hy;obtain rfl:=Option.some.inj hy;exact Vt
    case measure=>simp[intOf];omega
   ·have lI:=fin.out (fun y hy=>by rw[hx]at hy;obtain rfl:=Option.some.inj hy;omega);have nZ:=gE lI;clear lI fin hx;by_cases hf:0<=s.final
    ·have hd:decide (0<=s.final)=true:=by simpa using hf
     go_wp2
     go_quiet (fail)
     go_wp2
     go_ret;exact⟨by rw[nZ.out,hd];simp,_,rfl⟩
    ·have hd:decide (0<=s.final)=false:=by simpa using hf
     go_wp2
     go_quiet (fail)
     go_wp2
     go_ret;exact⟨by rw[nZ.out,hd];simp,_,rfl⟩
  ·obtain rfl:k=s.bytes.length:=by omega
   have lI:=fin.out (fun y hy=>by simp at hy);have nZ:=gE lI;clear lI fin;by_cases hf:0<=s.final
   ·have hd:decide (0<=s.final)=true:=by simpa using hf
    go_wp2
    go_quiet (fail)
    go_wp2
    go_ret;exact⟨by rw[nZ.out,hd];simp,_,rfl⟩
   ·have hd:decide (0<=s.final)=false:=by simpa using hf
    go_wp2
    go_quiet (fail)
    go_wp2
    go_ret;exact⟨by rw[nZ.out,hd];simp,_,rfl⟩
theorem wF(l:List Int)(p:Nat):(kD l p).length=max l.length (p+1):=by
 unfold kD;rw[aT,List.length_replicate];omega
theorem EM(h:ub l p x=some m):m.length=max l.length (p+1):=by
 unfold ub at h
 split at h
 ·simp at h
 ·obtain rfl:=Option.some.inj h;rw[b8,wF]
theorem wY(h:lN l d b k=none):∀c,k<=c->lN l d b c=none
 |0,hc=>by
  obtain rfl:k=0:=by omega
  exact h
 |c+1,hc=>by
  rcases aD c k with h1|h1
  ·obtain rfl:k=c+1:=by omega
   exact h
  ·simp[lN,wY h c h1]
theorem xY:∀{k:Nat} {m:List Int},lN l d b k=some m->l.length<=m.length/\(m.length:Int)<=max (l.length:Int) (d+k)
 |0,m,h=>by obtain rfl:=Option.some.inj h;omega
 |k+1,m,h=>by
  simp only[lN,bX]at h;obtain⟨m0,h0,h1⟩:=h;have ih:=xY h0
  split at h1
  ·obtain rfl:=Option.some.inj h1;omega
  ·have:=EM h1;omega
theorem zU(l:List Int):∀k:Nat,0<=l_ l k/\l_ l k<=k
 |0=>by simp[l_]
 |k+1=>by
  have:=zU l k;simp only[l_]
  split<;>omega
theorem BK(a b:List Int):jC (a++b)=jC a++jC b:=by simp[jC]
theorem GK(l:List Int):∀u∈jC l,u.oneCell'=true:=by
 intro u hu;simp only[jC,List.mem_map]at hu;obtain⟨x,_,rfl⟩:=hu
 rfl
theorem zI(l:List Int)(p:Nat)(x:Int):jC (l.set p x)=(jC l).set p (af ag x):=by simp[jC,List.map_set]
theorem vm(h:k<l.length):(jC l)[k]? =some (af ag (l.getD k (-1))):=by
 simp[jC,aQ,am h]
theorem A4{P:Program}{lZ:Array Oper}{rest:List Oper}{o:Oper}{a:Act}{Q:Exit->Act->World->Prop}(sJ:o.guard=none)(s x:Operand)(t:TypeId)
  (ho:o.op=.call {callee:=.builtin .append,args:=#[s,x],argTypes:=#[t,t]})
  (base:Nat) (e:TypeId) (i:TypeInfo) (z:Value) (size bytes:Nat) (ht:P.underlying t=some (.slice e)) (hi:P.info? e=some i) (hz:i.zero=some z)
  (nI:i.size=size) (rm:i.bytes=bytes) (Fv:z.cells.size=size) (ku:0<size)
  (v:Value) (n:Nat) (xs:List Value) (hs:a.eval s=v) (gY:w.ownsRow base e size v n xs)
  (sv:Value) (m:Nat) (news:List Value) (hx:a.eval x=sv) (Ej:Ro w e sv m news) (hl:news.length=m*size) (h1:∀u∈news,u.oneCell'=true)
  (Fj:n+m<=maxLen) (nG:(n+m)*bytes<=140737488355328) (lE:base<=w.heap.size)
  (h:∀v' w',w'.ownsRow base e size v' (n+m) (xs++news)->w.grownBy w' v.ownBlock->wpList P lZ Q rest (a.put o.dst v') w'):wpList P lZ Q (o::rest) a w:=by
 obtain⟨ao,cap,rfl,hp,mB⟩:=Ej
 match ao,mB,hx,hp with
 |none,mB,hx,hp=>
  obtain rfl:m=0:=by
   rcases Nat.eq_zero_or_pos m with h0|h0
   ·exact h0
   ·obtain⟨_,_,_,_,h2,_⟩:=hp h0;simp at h2
  obtain rfl:=mB rfl;obtain rfl:news=[]:=List.length_eq_zero_iff.1 (by simpa using hl);refine wpList_append_own_none sJ s x t ho base e i size ht hi v n xs hs gY hx (h v w (by simpa using gY) (oG (Below.refl _ _) _))
 |some ad,mB,hx,hp=>
  refine wpList_append_own w sJ s x t ho base e i z size bytes ht hi hz nI rm Fv ku v n xs hs gY ad m cap news hx hl (fun j u hu=>?_) h1 Fj nG lE (fun v' w' h1 h2 _=>h v' w' h1 h2);have hj:=(bm.1 hu).1
  have hm:0<m:=by
   rcases Nat.eq_zero_or_pos m with h0|h0
   ·subst h0;simp at hl;subst hl;simp at hj
   ·exact h0
  obtain⟨b,off,cur,fr,h2,hb,lF⟩:=hp hm;obtain rfl:=Option.some.inj h2;have:=lF j hj;rw[hu]at this
  have acj:(⟨b,off,none⟩:Addr).add j =⟨b,off+j,none⟩:=by
   unfold Addr.add
   split
   ·next h0=>subst h0;rfl
   ·rfl
  rw[acj];simp[aX,hb,this]
def rA:Value->Nat
 |.slice _ n _=>n
 |_=>0
def F'(w:World)(b o:Nat)(r:Int×jf)(e:Ending)(w':World):Prop:=
 e=.returned (af ag r.1)/\if r.1=0 then ∃w1 v',Below w.heap.size w w1/\w1.ownsRow w.heap.size 3 1 v' r.2.bytes.length (jC r.2.bytes)/\w'=w1.setCell ⟨b,o,none⟩ v' else Below w.heap.size w w'
theorem zS(s:jf)(iI ft fid iC code:Int)(fb:List Int)(fv:Value)(sb b o:Nat)(bv:Value)(w:World)(hg:w.cell? ⟨sb,4,none⟩= some (af ag iI))(hc:∀j,j<7->w.cell? ⟨b,o+j,none⟩=(s.cells bv)[j]?)(hb:Ro w 3 bv s.bytes.length (jC s.bytes))
  (hf:kv w fv fb) (hfz:w.frozen? ⟨b,o,none⟩= false) (hn:s.bytes.length<=1073741823) (hr:0<=s.read/\s.read<=2147483647) (ho:0<=iC/\iC<=2147483647) (hfn:fb.length<=1073741823):
  Calls ae 207 #[ai (some ⟨sb,0,none⟩),ai (some ⟨b,o,none⟩),.agg #[af ag ft,af ag fid,af ag iC,af ag code,fv]] w fun e w'=>F' w b o (jD iI s iC fb) e w':=by
 obtain⟨i0,hi,mB,kS,ln⟩:=info_parts uE;have q0:w.cell? ⟨b,o,none⟩= some bv:=hc 0 (by decide);have q1:w.cell? ⟨b,o+1,none⟩= some (af ag s.read):=hc 1 (by decide);have qQ:b<w.heap.size:=jh q0;have yY:sb<w.heap.size:=jh hg;have TN:=gE hb;have HF:=gE hf;obtain⟨fo,fc,rfl⟩:=hf.form;clear hc hb hf;go_enter func207,ntmps207;go_wp2_with (at_builtin;refine A4 rfl _ _ 38 rfl (w.heap.size+1) 3 i0 (af ag 0) 1 8 underlying38 hi mB kS ln rfl (by decide) (aj none 0 0) 0 [] rfl (aq _ _ _ _) bv s.bytes.length (jC s.bytes) rfl (TN.out.below (gH w _)) (by simp[jC]) (GK _) (by unfold maxLen;omega) (by omega) (by simp) ?_;intro v1 w1 kJ pr;refine Hid.out ?_);refine gE ?_;simp only[Nat.zero_add,List.nil_append]at kJ;have pW:Below w.heap.size w w1:=(gH w _).grown pr (by simp) (fun g hg=>by simp[ax]at hg)
 have hf1:w1.heap[w.heap.size]? =some (.cells #[af ag ft,af ag fid,af ag iC,af ag code,.slice fo fb.length fc] 296):=by
  rw[pr.block _ (by simp) (by simp[ax])];exact heap_alloc_new w _
 have Uv:=gE kJ;have nB:=gE pW;have Ok:=gE hf1;clear kJ pr pW hf1;go_wp2_with fail
 go_loopw [7,8] (fun lv i wr=>∃(k:Nat) (m:List Int),k<=fb.length/\i=af ag k/\lN s.bytes (iC-s.read) fb k=some m/\wr.ownsRow (w.heap.size+1) 3 1 lv m.length (jC m)/\wr.heap[w.heap.size]? =some (.cells #[af ag ft,af ag fid,af ag iC,af ag code,.slice fo fb.length fc] 296)/\Below w.heap.size w wr) (fun _ i _=>fb.length-(intOf i).toNat)
 case atStart=>exact⟨0,s.bytes,aI _,rfl,rfl,Uv.out,Ok.out,nB.out⟩
 case round=>
  obtain⟨k,m,hk,rfl,Pt,gY,oM,jz⟩:=hrel;have B_:=xY Pt;have q1r:=gF q1 jz;have f2:wr.cell? ⟨w.heap.size,2,none⟩= some (af ag iC):=by simp[aX,oM]
  have f4:wr.cell? ⟨w.heap.size,4,none⟩= some (.slice fo fb.length fc):=by simp[aX,oM]
  have F6:=gE Pt;have HO:=gE gY;have sg:=gE oM;have HB:=gE jz;clear Pt gY oM jz;by_cases jp:k<fb.length
  ·by_cases Ys:iC+k-s.read<0
   ·go_wp2_with fail
    go_quiet (fail)
    go_wp2_with fail
    go_roundw
    case rel=>
     refine⟨k+1,m,by omega,by go_num,?_,HO.out,sg.out,gK HB.out _⟩;have h1:iC-s.read+(k:Int)<0:=by omega
     simp[lN,F6.out,h1]
    case measure=>simp[intOf];omega
   ·obtain⟨p,hp⟩:∃p:Nat,iC+(k:Int)-s.read=p:=⟨(iC+(k:Int)-s.read).toNat,by omega⟩;go_wp2_with fail
    go_quiet (fail)
    go_wp2_with fail;have JA:(p:Int)<=4294967296:=by omega
    have HN:Hid (lN s.bytes (iC-s.read) fb (k+1)=ub m p (fb.getD k 0)):=by
     have h1:¬iC-s.read+(k:Int)<0:=by omega
     have h2:(iC-s.read+(k:Int)).toNat=p:=by omega
     show _=_;simp[lN,F6.out,h1,h2]
    have hmb:m.length<=4294967296:=by omega
    clear Ys q1r f2 f4 B_ F6;have HP:=gE hp;clear hp
    go_loopw [7] (fun lv wr=>∃j:Nat,j<=p+1-m.length/\wr.ownsRow (w.heap.size+1) 3 1 lv (m.length+j) (jC (m++List.replicate j (-1)))/\wr.heap[w.heap.size]? =some (.cells #[af ag ft,af ag fid,af ag iC,af ag code,.slice fo fb.length fc] 296)/\Below w.heap.size w wr) (fun lv _=>p+1-rA lv)
    case atStart=>
     refine⟨0,aI _,?_,sg.out,gK HB.out _⟩;rw[List.replicate_zero,List.append_nil];exact HO.out
    case round=>
     clear HO sg HB;obtain⟨j,hj,gY,oM,jz⟩:=hrel;obtain⟨la,lc,rfl⟩:=i7 gY;have ku:=jz.size;have BF:=(aO.1 oM).1;by_cases adH:m.length+j<=p
     ·have sg:=gE oM;have HB:=gE jz;clear oM jz;go_wp2_with (at_builtin;refine wpList_append_own _ rfl _ _ 38 rfl (w.heap.size+1) 3 i0 (af ag 0) 1 8 underlying38 hi mB kS ln rfl (by decide) (.slice la (m.length+j) lc) (m.length+j) (jC (m++List.replicate j (-1))) rfl (gY.alloc _) ⟨wr.heap.size,0,none⟩ 1 1 [af ag (-1)] rfl rfl (iZ wr 3 [af ag (-1)] (by simp[maxLen])) (by simp[bK]) (by unfold maxLen;omega) (by omega) (by have:=HB.out.size;simp;omega) ?_;intro v' w2 j8 jA _)
      go_roundw
      case rel=>
       have pY:=gU jA;refine⟨j+1,by omega,?_,?_,?_⟩
       ·rw[List.replicate_succ',<-List.append_assoc,BK];exact j8
       ·rw[pY.block _ (by omega) (fun e=>by have:=(gY.lt _ e.symm).1;omega)];exact sg.out
       ·exact HB.out.grown pY ku (fun g hg=>by have:=(gY.lt g hg).1;omega)
      case measure=>
       obtain⟨la',YV,rfl⟩:=i7 j8;simp[rA];omega
     ·obtain rfl:j=p+1-m.length:=by omega
      have Fq:=wF m p
      have je:wr.ownsRow (w.heap.size+1) 3 1 (.slice la (kD m p).length lc) (kD m p).length (jC (kD m p)):=by
       rw[Fq,show max m.length (p+1)=m.length+(p+1-m.length) from by omega];exact gY
      have hLe:m.length+(p+1-m.length)=(kD m p).length:=by omega
      rw[hLe];clear gY hLe;have HW:Hid (ub m p (fb.getD k 0)=if decide (0<=(kD m p).getD p (-1))&&decide ((kD m p).getD p (-1)≠fb.getD k 0) then none else some ((kD m p).set p (fb.getD k 0))):=rfl;have xt:p<(kD m p).length:=by omega
      have Wn:(jC (kD m p))[p]? =some (af ag ((kD m p).getD p (-1))):=vm xt;generalize kD m p=g at je HW xt Wn Fq⊢;obtain⟨gl,YV,e1,Pd,Pe,_⟩:=jP je (by omega);simp only[Value.slice.injEq]at e1;obtain⟨rfl,_,rfl⟩:=e1;have cp:wr.cell? ⟨gl,p,none⟩= some (af ag (g.getD p (-1))):=by rw[je.cellAt p (by omega)];exact Wn
      have fzp:=je.frozenAt p;have f4:wr.cell? ⟨w.heap.size,4,none⟩= some (.slice fo fb.length fc):=by simp[aX,oM]
      obtain⟨NJ,_,⟨Ef,_⟩|⟨_,fbb,adO,aaE,e2,_,hfc⟩⟩:=HF.out
      ·rw[Ef]at jp;simp at jp
      ·simp only[Value.slice.injEq]at e2;obtain⟨rfl,_,rfl⟩:=e2;have cx:=gF (hfc k jp) jz;have hxr:0<=fb.getD k 0/\fb.getD k 0<256:=NJ _ (by simp[aQ,am jp]);have HO:=gE je;have tH:=gE (fun x=>je.stored p (af ag x));have sg:=gE oM;have HB:=gE jz;clear je oM jz NJ hfc Wn;generalize fb.getD k 0=x at cx hxr HW HN;generalize hy:g.getD p (-1)=y at cp HW;clear hy;obtain⟨Vt,Q0⟩:=hxr;rcases bM y 0 with KR|KR
       ·have HD:(decide (0<=y)&&decide (y≠x))=false:=by simp;omega
        have hd:decide (0<=y)=false:=by simpa using KR
        go_wp2_with fail
        go_quiet (fail)
        go_wp2_with fail
        go_roundw
        case rel=>
         have xG:=tH.out x;refine⟨k+1,g.set p x,by omega,by go_num,by rw[HN.out,HW.out,HD];rfl,?_,?_,?_⟩
         ·rw[b8,zI];exact xG.1
         ·have:=xG.2.block w.heap.size BF (fun e=>by have:=Option.some.inj e;omega);exact this.trans sg.out
         ·have:=HB.out.grown xG.2 ku (fun q hq=>by have:=Option.some.inj hq;omega);exact⟨this.os,this.tape,this.output,this.size,this.block⟩
        case measure=>simp[intOf];omega
       ·have hd:decide (0<=y)=true:=by simpa using KR
        rcases Int.lt_trichotomy y x with hyx|hyx|hyx
        ·have HD:(decide (0<=y)&&decide (y≠x))=true:=by simp;omega
         go_wp2_with fail
         go_quiet (fail)
         go_wp2_with fail;go_ret
         have vP:jD iI s iC fb=(9,s):=by
          unfold jD;rw[wY (k:=k+1) (by rw[HN.out,HW.out,HD];rfl) fb.length (by omega)]
         rw[vP];exact⟨rfl,by simpa using gK HB.out _⟩
        ·have HD:(decide (0<=y)&&decide (y≠x))=false:=by simp;omega
         go_wp2_with fail
         go_quiet (fail)
         go_wp2_with fail
         go_roundw
         case rel=>
          have xG:=tH.out x;refine⟨k+1,g.set p x,by omega,by go_num,by rw[HN.out,HW.out,HD];rfl,?_,?_,?_⟩
          ·rw[b8,zI];exact xG.1
          ·have:=xG.2.block w.heap.size BF (fun e=>by have:=Option.some.inj e;omega);exact this.trans sg.out
          ·have:=HB.out.grown xG.2 ku (fun q hq=>by have:=Option.some.inj hq;omega);exact⟨this.os,this.tape,this.output,this.size,this.block⟩
         case measure=>simp[intOf];omega
        ·have HD:(decide (0<=y)&&decide (y≠x))=true:=by simp;omega
         go_wp2_with fail
         go_quiet (fail)
         go_wp2_with fail;go_ret
         have vP:jD iI s iC fb=(9,s):=by
          unfold jD;rw[wY (k:=k+1) (by rw[HN.out,HW.out,HD];rfl) fb.length (by omega)]
         rw[vP];exact⟨rfl,by simpa using gK HB.out _⟩
  ·obtain rfl:k=fb.length:=by omega
   go_wp2_with fail;obtain⟨la,lc,rfl⟩:=i7 HO.out;have ad0:m.length<=4294967296:=by omega
   have HM:=gE B_;clear B_ q1r f2 f4
   go_loop [10,11] (fun r i=>∃j:Nat,j<=m.length/\i=af ag j/\r=af ag (l_ m j)) (fun _ i=>m.length-(intOf i).toNat)
   case atStart=>exact⟨0,aI _,rfl,rfl⟩
   case round=>
    obtain⟨j,hj,rfl,rfl⟩:=hrel;have vO:=zU m j;by_cases qp:j<m.length
    ·obtain⟨gl,YV,e1,Pd,Pe,_⟩:=jP HO.out (by omega);simp only[Value.slice.injEq]at e1;obtain⟨rfl,_,rfl⟩:=e1;have cj:wr.cell? ⟨gl,j,none⟩= some (af ag (m.getD j (-1))):=by rw[HO.out.cellAt j (by omega)];exact vm qp
     have HU:Hid (l_ m (j+1)=l_ m j+if pG m j then 1 else 0):=rfl;have ZC:Hid (pG m j=(decide (0<=m.getD j (-1))&&(decide (j=0) || decide (m.getD (j-1) (-1)<0)))):=rfl;generalize l_ m j=r at HU vO⊢;generalize m.getD j (-1)=y at cj ZC;by_cases hy:0<=y
     ·by_cases hj0:j=0
      ·have HD:pG m j=true:=by rw[ZC.out];simp[hy,hj0]
       subst hj0;go_wp2_with fail
       go_round
       case rel=>exact⟨1,by omega,by go_num,by rw[HU.out,HD];simp⟩
       case measure=>simp[intOf];omega
      ·have cj1:wr.cell? ⟨gl,j-1,none⟩= some (af ag (m.getD (j-1) (-1))):=by rw[HO.out.cellAt (j-1) (by omega)];exact vm (by omega)
       generalize m.getD (j-1) (-1)=z at cj1 ZC;by_cases hz:z<0
       ·have HD:pG m j=true:=by rw[ZC.out];simp[hy,hz]
        go_wp2_with fail
        go_round
        case rel=>exact⟨j+1,by omega,by go_num,by rw[HU.out,HD];simp⟩
        case measure=>simp[intOf];omega
       ·have HD:pG m j=false:=by rw[ZC.out];simp[hj0,hz]
        go_wp2_with fail
        go_round
        case rel=>exact⟨j+1,by omega,by go_num,by rw[HU.out,HD];simp⟩
        case measure=>simp[intOf];omega
     ·have HD:pG m j=false:=by rw[ZC.out];simp[hy]
      go_wp2_with fail
      go_round
      case rel=>exact⟨j+1,by omega,by go_num,by rw[HU.out,HD];simp⟩
      case measure=>simp[intOf];omega
    ·obtain rfl:j=m.length:=by omega
     have DU:=gF hg HB.out;have q0r:=gF q0 HB.out
     have fzr:wr.frozen? ⟨b,o,none⟩= false:=by
      rw[<-hfz];simp only[World.frozen?];rw[HB.out.block b qQ]
     by_cases ZV:iI<l_ m m.length
     ·have vP:jD iI s iC fb=(8,s):=by
       unfold jD;rw[F6.out];simp[ZV]
      have B4:=gE vP;clear vP;go_wp2_with fail;go_ret;rw[B4.out];exact⟨rfl,by simpa using HB.out⟩
     ·have vP:jD iI s iC fb=(0,{s with bytes:=m}):=by
       unfold jD;rw[F6.out];simp[ZV]
      have B4:=gE vP;clear vP;go_wp2_with fail;go_ret;rw[B4.out];refine⟨rfl,?_⟩;rw[if_pos rfl];exact⟨_,_,HB.out,iE HO.out (by omega),rfl⟩
theorem x_:∀{a b:List Int},iF a->iF b->strOfNums a=strOfNums b->a=b:=by
 intro a b ha hb h
 have h1:a.map (fun n=>UInt8.ofNat n.toNat)=b.map (fun n=>UInt8.ofNat n.toNat):=by
  have:=congrArg (fun s=>s.data.toList) h;simpa[strOfNums_data] using this
 clear h
 induction a generalizing b with
 |nil=>cases b with
  |nil=>rfl
  |cons y r=>simp at h1
 |cons x q ih=>cases b with
  |nil=>simp at h1
  |cons y r=>
   simp only[List.map_cons,List.cons.injEq]at h1;have hx:=ha x (by simp);have hy:=hb y (by simp);have h2:=congrArg UInt8.toNat h1.1;simp only[UInt8.toNat_ofNat']at h2;rw[ih (fun z hz=>ha z (by simp[hz])) (fun z hz=>hb z (by simp[hz])) h1.2]
   congr 1
   omega
theorem rZ(k a t:Int)(a0:0<=a)(a1:a<256):iF (kr k a t):=by
 intro x hx;rcases bR.1 hx with h|h
 ·rcases List.mem_cons.1 h with rfl|h
  ·exact⟨a0,a1⟩
  ·exact ml _ x h
 ·exact ml _ x h
theorem AO(c:jG)(now addr:Int)(sb:Nat)(t:List Int)(tv:Value)(w:World)(yp:∀j,j<10->w.cell? ⟨sb,j,none⟩= c.cells[j]?)(td:w.cell? ⟨sb,10,none⟩= some (af ag now))(ht:kv w tv t)(ha:0<=addr/\addr<256)(hk:0<=c.c9/\c.c9<4294967296):
  Calls ae 185 #[ai (some ⟨sb,0,none⟩),af ag addr,tv] w fun e w'=>e=.returned (.bool (qi c now addr t))/\Below w.heap.size w w':=by
 have k0:w.cell? ⟨sb,0,none⟩= some (af ag c.c0):=yp 0 (by decide);have k1:w.cell? ⟨sb,1,none⟩= some (af ag c.c1):=yp 1 (by decide);have k2:w.cell? ⟨sb,2,none⟩= some (af ag c.c2):=yp 2 (by decide);have k3:w.cell? ⟨sb,3,none⟩= some (af ag c.c3):=yp 3 (by decide);have k4:w.cell? ⟨sb,4,none⟩= some (af ag c.c4):=yp 4 (by decide);have k5:w.cell? ⟨sb,5,none⟩= some (af ag c.c5):=yp 5 (by decide);have k6:w.cell? ⟨sb,6,none⟩= some (af ag c.c6):=yp 6 (by decide);have k7:w.cell? ⟨sb,7,none⟩= some (af ag c.c7):=yp 7 (by decide);have k8:w.cell? ⟨sb,8,none⟩= some (af ag c.c8):=yp 8 (by decide);have k9:w.cell? ⟨sb,9,none⟩= some (af ag c.c9):=yp 9 (by decide);clear yp;obtain⟨tto,tc,rfl⟩:=ht.form;have HT:=gE ht;by_cases h9:t.length=9
 ·obtain⟨B8,_,⟨rfl,_⟩|⟨_,b,off,n_,e,_,hc⟩⟩:=ht
  ·simp at h9
  ·simp only[Value.slice.injEq]at e;obtain⟨rfl,_,rfl⟩:=e;have c1:=hc 1 (by omega);have c2:=hc 2 (by omega);have c3:=hc 3 (by omega);have c4:=hc 4 (by omega);have r1:0<=t.getD 1 0/\t.getD 1 0<256:=B8 _ (by simp[aQ,am (show 1<t.length by omega)]);have r2:0<=t.getD 2 0/\t.getD 2 0<256:=B8 _ (by simp[aQ,am (show 2<t.length by omega)]);have r3:0<=t.getD 3 0/\t.getD 3 0<256:=B8 _ (by simp[aQ,am (show 3<t.length by omega)]);have r4:0<=t.getD 4 0/\t.getD 4 0<256:=B8 _ (by simp[aQ,am (show 4<t.length by omega)])
   have HG:Hid (qi c now addr t=(decide (kr c.c9 addr (vV t)=t)&&decide (now<=vV t))):=by
    show _=_;simp[qi,h9]
   have ZE:Hid (vV t=t.getD 1 0+256*t.getD 2 0+65536*t.getD 3 0+16777216*t.getD 4 0):=rfl;rw[h9]at HT⊢;have HC:=gE hc;clear hc;generalize t.getD 1 0=t1 at c1 r1 ZE;generalize t.getD 2 0=t2 at c2 r2 ZE;generalize t.getD 3 0=t3 at c3 r3 ZE;generalize t.getD 4 0=t4 at c4 r4 ZE;go_enter func185,ntmps185;go_wp2_with fail
   go_quiet (fail)
   go_wp2_with fail;have Z6:0<=t1+256*t2+65536*t3+16777216*t4/\t1+256*t2+65536*t3+16777216*t4<4294967296:=by omega
   generalize t1+256*t2+65536*t3+16777216*t4=tm at Z6 ZE⊢;refine(yJ c.c0 c.c1 c.c2 c.c3 c.c4 c.c5 c.c6 c.c7 c.c8 c.c9 addr tm (w.drewN nq) hk.1 hk.2 ha.1 ha.2 Z6.1 Z6.2).mono ?_;rintro e w1 ⟨v,rfl,gY,jz⟩;have hB:Below w.heap.size w w1:=⟨jz.os,jz.tape,jz.output,jz.size,jz.block⟩;have rQ:=gF td hB;obtain⟨gv,vc,rfl,_,_,_⟩:=jP gY (by decide)
   have v1:=run_convert_bytes_arg w1 44 5 underlying44 underlying5 gv 0 9 vc (kr c.c9 addr tm) rfl (fun i hi=>by
    rw[Nat.zero_add,gY.cellAt i (by omega)];simp[U8,aQ,am (show i<(kr c.c9 addr tm).length from hi)]) 9 underlying9
   have v2:=run_convert_bytes_arg w1 44 5 underlying44 underlying5 b off 9 tc t h9 (fun i hi=>gF (HC.out i (by omega)) hB) 9 underlying9
   have sJ:qi c now addr t=(decide (strOfNums (kr c.c9 addr tm)=strOfNums t)&&decide (now<=tm)):=by
    rw[HG.out,ZE.out]
    congr 1
    exact decide_eq_decide.2 ⟨fun h=>by rw[h],fun h=>x_ (rZ _ _ _ ha.1 ha.2) B8 h⟩
   have Rc:=gE sJ;clear sJ HG gY jz k0 k1 k2 k3 k4 k5 k6 k7 k8 k9 c1 c2 c3 c4;generalize strOfNums (kr c.c9 addr tm)=sa at v1 Rc;generalize strOfNums t=sb' at v2 Rc;by_cases T_:sa=sb'
   ·have HD:decide (sa=sb')=true:=by simpa using T_
    go_wp2_with fail;go_ret;exact⟨by rw[Rc.out,HD];rfl,hB⟩
   ·have HD:decide (sa=sb')=false:=by simpa using T_
    have HE:¬sa.toList=sb'.toList:=fun h=>T_ (by
     rw[ch,ch]at h;exact ByteArray.ext (Array.toList_inj.mp h))
    go_wp2_with fail;go_ret;exact⟨by rw[Rc.out,HD];rfl,hB⟩
 ·have HG:Hid (qi c now addr t=false):=by
   show _=_;simp[qi,h9]
  clear ht;go_enter func185,ntmps185;go_wp2_with fail;go_ret;exact⟨by rw[HG.out];rfl,Below.refl _ _⟩
theorem CJ(h:rO n rs k=none):∀c,k<=c->rO n rs c=none
 |0,hc=>by
  obtain rfl:k=0:=by omega
  exact h
 |c+1,hc=>by
  rcases aD c k with h1|h1
  ·obtain rfl:k=c+1:=by omega
   exact h
  ·simp[rO,CJ h c h1]
theorem A'(hr:∀r∈rs,0<=r.1/\r.1<=r.2/\r.2<=1073741823)(hn:0<=n/\n<=1073741823):∀{k:Nat} {st:sX},k<=rs.length->rO n rs k=some st->
  st.all.length<=2*k/\0<=st.lo/\st.lo<=n/\n<=st.hi/\st.hi<=1073741823/\∀r∈st.all,0<=r.1/\r.1<=r.2/\r.2<=1073741823
 |0,st,_,h=>by obtain rfl:=Option.some.inj h;simp;omega
 |k+1,st,hk,h=>by
  simp only[rO,bX]at h;obtain⟨s0,h0,h1⟩:=h;obtain⟨i1,i2,i3,i4,i5,i6⟩:=A' hr hn (by omega) h0;have hrk:rs.getD k (0,0)∈rs:=by simp[aQ,am (show k<rs.length by omega)]
  have hb:=hr _ hrk;generalize rs.getD k (0,0)=r at hb h1;obtain⟨b1,b2,b3⟩:=hb;unfold jU at h1
  split at h1
  ·simp at h1
  ·split at h1
   ·obtain rfl:=Option.some.inj h1;exact⟨by simp;omega,b1,by simp;omega,i4,i5,i6⟩
   ·split at h1
    ·obtain rfl:=Option.some.inj h1;exact⟨by simp;omega,i2,i3,by simp;omega,b3,i6⟩
    ·split at h1
     ·obtain rfl:=Option.some.inj h1;refine⟨by simp;omega,i2,i3,i4,i5,fun x hx=>?_⟩;simp only[bR,bP]at hx;rcases hx with(hx|rfl)|rfl
      ·exact i6 x hx
      ·exact⟨i2,by simp;omega,i5⟩
      ·exact⟨b1,b2,b3⟩
     ·obtain rfl:=Option.some.inj h1;refine⟨by simp;omega,i2,i3,i4,i5,fun x hx=>?_⟩;simp only[bR,bP]at hx;rcases hx with hx|rfl
      ·exact i6 x hx
      ·exact⟨b1,b2,b3⟩
theorem VJ(st:sX)(h1:x<=n)(h2:n<=y):jU n st (x,y)=none:=by simp[jU,h1,h2]
theorem MZ(st:sX)(h2:y=n-1):jU n st (x,y)=some {st with lo:=x}:=by
 simp only[jU];rw[if_neg (by omega),if_pos h2]
theorem MY(st:sX)(h1:x<=y)(h2:x=n+1):jU n st (x,y)=some {st with hi:=y}:=by
 simp only[jU];rw[if_neg (by omega),if_neg (by omega),if_pos h2]
theorem M0(st:sX)(h1:x<=y)(h2:n+1<x)(h3:st.xH=false):jU n st (x,y)=some {st with all:=st.all++[(st.lo,st.hi)]++[(x,y)],xH:=true}:=by
 simp only[jU];rw[if_neg (by omega),if_neg (by omega),if_neg (by omega),if_pos ⟨by omega,h3⟩]
theorem M1(st:sX)(h1:x<=y)(h2:n+1<x)(h3:st.xH=true):jU n st (x,y)=some {st with all:=st.all++[(x,y)]}:=by
 simp only[jU];rw[if_neg (by omega),if_neg (by omega),if_neg (by omega),if_neg (by simp[h3])]
theorem Qq(st:sX)(h1:x<=y)(h2:y<n-1):jU n st (x,y)=some {st with all:=st.all++[(x,y)]}:=by
 simp only[jU];rw[if_neg (by omega),if_neg (by omega),if_neg (by omega),if_neg (by omega)]
theorem vo(w:World)(g:Nat)(hg:g=w.heap.size)(e:TypeId)(cs:List Value)(hm:cs.length<=maxLen):∀(j:Nat) u,cs[j]? =some u->(w.alloc (.cells cs.toArray e)).cell? ((⟨g,0,none⟩:Addr).add j)=some u:=by
 subst hg;exact iZ w e cs hm
theorem pF(l:List (Int×Int)):(iU l).length=l.length*2:=by
 induction l with
 |nil=>rfl
 |cons a r ih=>simp only[iU,List.flatMap_cons,aT]at ih⊢;rw[ih];simp;omega
theorem mS(a b:List (Int×Int)):iU (a++b)=iU a++iU b:=by simp[iU]
theorem pU:∀{l:List (Int×Int)} {k:Nat},k<l.length->(iU l)[k*2]? =some (af ag (l.getD k (0,0)).1)/\(iU l)[k*2+1]? =some (af ag (l.getD k (0,0)).2)
 |a::r,0,_=>by simp[iU]
 |a::r,k+1,h=>by
  have ih:=pU (l:=r) (k:=k) (by simpa using h);have e:iU (a::r)=[af ag a.1,af ag a.2]++iU r:=by simp[iU]
  rw[e,show(k+1)*2=2+k*2 from by omega,show 2+k*2+1=2+(k*2+1) from by omega];rw[aF (by simp),aF (by simp)];simpa using ih
theorem sw{n:Nat}(h:w.ownsRow base e 2 v n xs)(hn:0<n):∃g cap,v=aj (some ⟨g,0,none⟩) n cap/\base<=g/\g<w.heap.size/\n<=cap:=by
 rcases h.2 with⟨_,h0⟩|⟨g,cap,cur,rfl,hb,hg,s_,_⟩
 ·omega
 ·exact⟨g,cap,rfl,hb,(aO.1 hg).1,s_⟩
theorem AL{n:Nat}(h:w.ownsRow base e 2 v n xs):∃ao cap,v=.slice ao n cap:=by
 rcases h.2 with⟨rfl,rfl⟩|⟨g,cap,cur,rfl,_⟩
 ·exact⟨none,0,rfl⟩
 ·exact⟨_,_,rfl⟩
theorem SQ:(ae.info? 294).map (fun i=>(i.zero,i.size,i.bytes))=some (some (.agg #[af ag 0,af ag 0]),2,16):=by kernel_rfl
theorem tC(f:Int×Int->Int×Int)(L:List (Int×Int))(j:Nat):(tT f L j).length=L.length:=by
 simp[tT];omega
theorem De(h:j<L.length):(tT f L j).getD j (0,0)=L.getD j (0,0):=by
 simp only[tT,aQ];rw[aF (by simp;omega)];simp[Nat.min_eq_left (Nat.le_of_lt h)]
theorem Df(h:j<L.length):(tT f L j).set j (f (L.getD j (0,0)))=tT f L (j+1):=by
 apply List.ext_getElem?
 intro i;rw[List.getElem?_set];rcases Nat.lt_trichotomy i j with h1|h1|h1
 ·rw[if_neg (by omega)];simp only[tT];rw[aw (by simp;omega),aw (by simp;omega)];simp[h1,show i<j+1 by omega]
 ·subst h1;rw[if_pos rfl,if_pos (by rw[tC];exact h)];simp only[tT];rw[aw (by simp;omega)];simp[aQ,am h]
 ·rw[if_neg (by omega)];simp only[tT];rw[aF (by simp;omega),aF (by simp;omega)];simp only[List.length_map,List.length_take,List.getElem?_drop]
  congr 1
  omega
theorem Ex(h:j<L.length):L.set j (L.getD j (0,0))=L:=by
 apply List.ext_getElem?
 intro i;rw[List.getElem?_set]
 split
 ·next e=>subst e;simp[aQ,h]
 ·rfl
theorem FB(h:j<L.length)(hf:f (L.getD j (0,0))=L.getD j (0,0)):tT f L (j+1)=tT f L j:=by
 rw[<-Df h,hf,<-De (f:=f) h];exact Ex (by rw[tC];exact h)
theorem JS(f:Int×Int->Int×Int)(L:List (Int×Int)):tT f L L.length=L.map f:=by simp[tT]
theorem vF:∀(l:List (Int×Int)) (j:Nat) (a b:Int),j<l.length->((iU l).set (j*2) (af ag a)).set (j*2+1) (af ag b)=iU (l.set j (a,b))
 |x::r,0,a,b,_=>by simp[iU]
 |x::r,j+1,a,b,h=>by
  have ih:=vF r j a b (by simpa using h);have e:∀(y:Int×Int) q,iU (y::q)=af ag y.1::af ag y.2::iU q:=fun y q=>by simp[iU]
  rw[List.set_cons_succ,e,e,<-ih,show(j+1)*2=j*2+1+1 from by omega,show j*2+1+1+1=(j*2+1)+1+1 from by omega];simp only[List.set_cons_succ]
theorem Ro.tail{l:List (Int×Int)}{cap:Nat}(h:w.ownsRow base 294 2 (aj (some ⟨g,0,none⟩) l.length cap) l.length (iU l))(hl:1<l.length):Ro w 294 (aj (some ⟨g,2,none⟩) (l.length-1) (cap-1)) (l.drop 1).length (iU (l.drop 1)):=by
 obtain⟨_,⟨_,h0⟩|⟨g',n_,cur,e,_,hg,_,_,_,ht⟩⟩:=h
 ·omega
 ·simp only[Value.slice.injEq,Option.some.injEq,Addr.mk.injEq,and_true,true_and]at e;obtain⟨rfl,rfl⟩:=e;refine⟨_,cap-1,by simp,fun _=>⟨g,2,cur,_,rfl,hg,fun j hj=>?_⟩,fun h=>by simp at h⟩;have e2:iU l=(iU (l.take 1))++iU (l.drop 1):=by rw[<-mS,List.take_append_drop]
  have e3:(iU (l.take 1)).length=2:=by rw[pF,List.length_take];omega
  have DV:2+j<(iU l).length:=by rw[e2,aT,e3];omega
  have:(iU l)[2+j]? =(iU (l.drop 1))[j]?:=by
   rw[e2,aF (by omega),e3,show 2+j-2=j from by omega]
  rw[<-this,<-ht,List.getElem?_take,if_pos (by rw[pF]at DV;omega)];simp
theorem Fa:ae.underlying 246=some (.slice (ae.elem 246)):=by kernel_rfl
theorem Tu(w:World):(sizeOf (ae.elem 246)).run ae w=.ok 2 w:=by kernel_rfl
theorem Bm(g n cap:Nat)(h:1<=n)(nr:1<cap)(w:World):(Instr.sliceAt 246 (aj (some ⟨g,0,none⟩) n cap) (some (af ag 1)) none none).run ae w=.ok (aj (some ⟨g,2,none⟩) (n-1) (cap-1)) w:=by
 rw[run_sliceAt_slice (h:=Fa),run_slice_l (ht:=Fa) (h0:=by omega) (h1:=by omega),Tu];simp[Result.andThen,sliced,Addr.add_lit];omega
theorem CG(h:Below w.heap.size w wr)(o o':Nat)(v v':Value):ip (· = cb) w ((wr.setCell ⟨cb,o,none⟩ v).setCell ⟨cb,o',none⟩ v'):=
 ⟨h.os,h.tape,h.output,by rw[bN,bN];exact h.size,fun k hk js=>by rw[Below.heap_setCell _ _ _ _ js,Below.heap_setCell _ _ _ _ js];exact h.block k hk⟩
def Q5(w:World)(c:gZ)(cb:Nat)(sv:Value)(r:Option (Int×List (Int×Int)))(e:Ending)(w':World):Prop:=
 match r with
 |none=>e=.returned (.bool false)/\Below w.heap.size w w'
 |some (mark,runs)=>e=.returned (.bool true)/\ip (· = cb) w w'/\∃rv,w'.heap[cb]? =some (.cells (il {c with mark:=mark,runs:=runs} rv sv) 249 (0,0))/\Ro w' 294 rv runs.length (iU runs)
theorem MB(c:gZ)(n:Int)(cb:Nat)(rv sv:Value)(w:World)(hc:w.heap[cb]? =some (.cells (il c rv sv) 249 (0,0)))(L1:Ro w 294 rv c.runs.length (iU c.runs))(hn:0<=n/\n<=1073741823)(hl:c.runs.length<=4)
  (hr:∀r∈c.runs,0<=r.1/\r.1<=r.2/\r.2<=1073741823):
  Calls ae 159 #[ai (some ⟨cb,0,none⟩),af ag n] w fun e w'=>Q5 w c cb sv (qf c.mark c.runs n) e w':=by
 obtain⟨i0,hi,mB,kS,ln⟩:=info_parts SQ;have c6:w.cell? ⟨cb,6,none⟩= some (af ag c.mark):=by simp[aX,hc,il]
 have c7:w.cell? ⟨cb,7,none⟩= some rv:=by simp[aX,hc,il]
 obtain⟨ro,rc,rfl,hp,_⟩:=L1;have HC:=gE hc;have HP:=gE hp;have HR:=gE hr;clear hc hp hr;by_cases hm:n<c.mark
 ·have HS:Hid (qf c.mark c.runs n=none):=by
   show _=_;simp[qf,hm]
  go_enter func159,ntmps159;go_wp2_with fail;go_ret;rw[HS.out];exact⟨rfl,Below.refl _ _⟩
 ·have HS:Hid (qf c.mark c.runs n=(rO n c.runs c.runs.length).map fun st=>if 4<((ky st).map (ja n st.lo st.hi)).length then((((ky st).map (ja n st.lo st.hi)).getD 0 (0,0)).2+1,((ky st).map (ja n st.lo st.hi)).drop 1) else(c.mark,(ky st).map (ja n st.lo st.hi))):=by
   show _=_;unfold qf;rw[if_neg hm]
  go_enter func159,ntmps159;go_wp2_with fail
  go_loopw [5,6,7,8,9] (fun av lo hi xH i wr=>∃(k:Nat) (st:sX),k<=c.runs.length/\i=af ag k/\rO n c.runs k=some st/\lo=af ag st.lo/\hi=af ag st.hi/\xH=.bool st.xH/\wr.ownsRow w.heap.size 294 2 av st.all.length (iU st.all)/\Below w.heap.size w wr) (fun _ _ _ _ i _=>c.runs.length-(intOf i).toNat)
  case atStart=>exact⟨0,⟨[],n,n,false⟩,aI _,rfl,rfl,rfl,rfl,rfl,aq _ _ _ _,Below.refl _ _⟩
  case round=>
   obtain⟨k,st,hk,rfl,hto,rfl,rfl,rfl,gY,jz⟩:=hrel;obtain⟨f1,f2,f3,f4,f5,f6⟩:=A' HR.out hn hk hto;have ku:=jz.size;have c7r:=gF c7 jz;have HTo:=gE hto;have HF6:=gE f6;clear hto f6;by_cases jp:k<c.runs.length
   ·obtain⟨rb,off,cur,fr,rfl,hh,lF⟩:=HP.out (by omega);have hb:=HR.out (c.runs.getD k (0,0)) (by simp[aQ,am jp]);have kP:=pU jp
    have Rg:Hid (rO n c.runs (k+1)=jU n st (c.runs.getD k (0,0))):=by
     show _=_;simp[rO,HTo.out]
    generalize c.runs.getD k (0,0)=r at hb kP Rg;obtain⟨x,y⟩:=r;obtain⟨b1,b2,b3⟩:=hb;simp only at b1 b2 b3
    have d0:wr.cell? ⟨rb,off+k*2,none⟩= some (af ag x):=gF (by
     have:=lF (k*2) (by rw[pF];omega);rw[kP.1]at this;simp[aX,hh,this]) jz
    have d1:wr.cell? ⟨rb,off+k*2+1,none⟩= some (af ag y):=gF (by
     have:=lF (k*2+1) (by rw[pF];omega);rw[kP.2]at this;simp[aX,hh,Nat.add_assoc,this]) jz
    have pZ:=jh d0;simp only at pZ;clear kP lF hh;have HO:=gE gY;have HB:=gE jz;clear gY jz;obtain⟨la,lc,rfl⟩:=AL HO.out;have HA:Hid (∀o,(wr.alloc o).ownsRow w.heap.size 294 2 (.slice la st.all.length lc) st.all.length (iU st.all)):=fun o=>HO.out.alloc o
    have HBA:Hid (∀o,Below w.heap.size w (wr.alloc o)):=fun o=>HB.out.alloc ku o
    rcases bM y n with e1|e1
    ·rcases Int.lt_trichotomy y (n-1) with e2|e2|e2
     ·have tH:=gE (Qq st b2 e2);go_wp2_with (at_builtin;refine wpList_append_own _ rfl _ _ 246 rfl w.heap.size 294 i0 (.agg #[af ag 0,af ag 0]) 2 16 underlying246 hi mB kS ln rfl (by decide) (.slice la st.all.length lc) st.all.length (iU st.all) rfl ((HO.out.alloc _).alloc _) ⟨wr.heap.size+1,0,none⟩ 1 1 [af ag x,af ag y] rfl rfl (vo (wr.alloc (.cells #[af ag x,af ag y] 294)) (wr.heap.size+1) (by simp) 294 [af ag x,af ag y] (by simp[maxLen])) (by simp[bK]) (by unfold maxLen;omega) (by omega) (by simp;omega) ?_;intro v' w2 j8 jA _;refine Hid.out ?_);refine gE ?_;have pY:=gU (gU jA);have HG:=gE pY;clear jA pY;go_wp2_with fail
      go_roundw
      case rel=>
       refine⟨k+1,{st with all:=st.all++[(x,y)]},by omega,by go_num,by rw[Rg.out];exact tH.out,rfl,rfl,rfl,?_,HB.out.grown HG.out ku (fun g hg=>(HO.out.lt g hg).1)⟩;rw[mS,aT];exact j8
      case measure=>simp[intOf];omega
     ·have tH:=gE (MZ (x:=x) st e2);go_wp2_with fail
      go_roundw
      case rel=>exact⟨k+1,{st with lo:=x},by omega,by go_num,by rw[Rg.out];exact tH.out,rfl,rfl,rfl,HA.out _,HBA.out _⟩
      case measure=>simp[intOf];omega
     ·omega
    ·rcases bM n x with e3|e3
     ·rcases bM (n+1) x with e4|e4
      ·cases Ee:st.xH with
       |false=>
        have tH:=gE (M0 st b2 e4 Ee);clear Ee;go_wp2_with (at_builtin;refine wpList_append_own _ rfl _ _ 246 rfl w.heap.size 294 i0 (.agg #[af ag 0,af ag 0]) 2 16 underlying246 hi mB kS ln rfl (by decide) (.slice la st.all.length lc) st.all.length (iU st.all) rfl ((HO.out.alloc _).alloc _) ⟨wr.heap.size+1,0,none⟩ 1 1 [af ag st.lo,af ag st.hi] rfl rfl (vo (wr.alloc (.cells #[af ag x,af ag y] 294)) (wr.heap.size+1) (by simp) 294 [af ag st.lo,af ag st.hi] (by simp[maxLen])) (by simp[bK]) (by unfold maxLen;omega) (by omega) (by simp;omega) ?_;intro v' w2 j8 jA _;refine Hid.out ?_);refine gE ?_
        have kE:w2.heap[wr.heap.size]? =some (.cells #[af ag x,af ag y] 294):=by
         rw[jA.block _ (by simp;omega) (fun e=>by have:=(HO.out.lt _ e.symm).2;omega)];rw[Below.heap_alloc _ _ _ (by simp)];exact heap_alloc_new wr _
        have pY:=gU (gU jA);have g0:w2.cell? ⟨wr.heap.size,0,none⟩= some (af ag x):=by simp[aX,kE]
        have g1:w2.cell? ⟨wr.heap.size,1,none⟩= some (af ag y):=by simp[aX,kE]
        have mc:Hid (Below w.heap.size w w2):=HB.out.grown pY ku (fun g hg=>(HO.out.lt g hg).1);have Cd:=mc.out.size;have Cq:=gE j8;have YI:=pY.size;clear jA pY kE j8;go_wp2_with (at_builtin;refine wpList_append_own _ rfl _ _ 246 rfl w.heap.size 294 i0 (.agg #[af ag 0,af ag 0]) 2 16 underlying246 hi mB kS ln rfl (by decide) v' (st.all.length+1) (iU st.all++[af ag st.lo,af ag st.hi]) rfl (Cq.out.alloc _) ⟨w2.heap.size,0,none⟩ 1 1 [af ag x,af ag y] rfl rfl (iZ w2 294 [af ag x,af ag y] (by simp[maxLen])) (by simp[bK]) (by unfold maxLen;omega) (by omega) (by simp;omega) ?_;intro v3 w3 lk jA _;refine Hid.out ?_);refine gE ?_;have pY:=gU jA;have HG:=gE pY;clear jA pY;go_wp2_with fail
        go_roundw
        case rel=>
         refine⟨k+1,{st with all:=st.all++[(st.lo,st.hi)]++[(x,y)],xH:=true},by omega,by go_num,by rw[Rg.out];exact tH.out,rfl,rfl,rfl,?_,mc.out.grown HG.out Cd (fun g hg=>(Cq.out.lt g hg).1)⟩;rw[mS,mS,aT,aT];exact lk
        case measure=>simp[intOf];omega
       |true=>
        have tH:=gE (M1 st b2 e4 Ee);have HI:=gE Ee;clear Ee;go_wp2_with (at_builtin;refine wpList_append_own _ rfl _ _ 246 rfl w.heap.size 294 i0 (.agg #[af ag 0,af ag 0]) 2 16 underlying246 hi mB kS ln rfl (by decide) (.slice la st.all.length lc) st.all.length (iU st.all) rfl ((HO.out.alloc _).alloc _) ⟨wr.heap.size+1,0,none⟩ 1 1 [af ag x,af ag y] rfl rfl (vo (wr.alloc (.cells #[af ag x,af ag y] 294)) (wr.heap.size+1) (by simp) 294 [af ag x,af ag y] (by simp[maxLen])) (by simp[bK]) (by unfold maxLen;omega) (by omega) (by simp;omega) ?_;intro v' w2 j8 jA _;refine Hid.out ?_);refine gE ?_;have pY:=gU (gU jA);have HG:=gE pY;clear jA pY;go_wp2_with fail
        go_roundw
        case rel=>
         refine⟨k+1,{st with all:=st.all++[(x,y)]},by omega,by go_num,by rw[Rg.out];exact tH.out,rfl,rfl,by rw[HI.out],?_,HB.out.grown HG.out ku (fun g hg=>(HO.out.lt g hg).1)⟩;rw[mS,aT];exact j8
        case measure=>simp[intOf];omega
      ·have e5:x=n+1:=by omega
       have tH:=gE (MY st b2 e5);go_wp2_with fail
       go_roundw
       case rel=>exact⟨k+1,{st with hi:=y},by omega,by go_num,by rw[Rg.out];exact tH.out,rfl,rfl,rfl,HA.out _,HBA.out _⟩
       case measure=>simp[intOf];omega
     ·have tH:=gE (VJ st e3 e1);go_wp2_with fail;go_ret
      have Im:qf c.mark c.runs n=none:=by
       rw[HS.out,CJ (k:=k+1) (by rw[Rg.out];exact tH.out) _ (by omega)]
       rfl
      rw[Im];exact⟨rfl,HBA.out _⟩
   ·obtain rfl:k=c.runs.length:=by omega
    cases Ee:st.xH with
    |true=>
     have HL:Hid (ky st=st.all):=by
      show _=_;simp[ky,Ee]
     have Xk:Hid (∀r∈ky st,0<=r.1/\r.1<=r.2/\r.2<=1073741823):=by
      intro r hr;rw[HL.out]at hr;exact HF6.out r hr
     have nZ:Hid (qf c.mark c.runs n=if 4<((ky st).map (ja n st.lo st.hi)).length then some ((((ky st).map (ja n st.lo st.hi)).getD 0 (0,0)).2+1,((ky st).map (ja n st.lo st.hi)).drop 1) else some (c.mark,(ky st).map (ja n st.lo st.hi))):=by
      show _=_;rw[HS.out,HTo.out];simp only[cf]
      split<;>rfl
     have hLl:(ky st).length<=9:=by rw[HL.out];omega
     have Uw:Hid (wr.ownsRow w.heap.size 294 2 u5 (ky st).length (iU (ky st))):=by
      rw[HL.out];exact gY
     have HBL:=gE jz;clear HL Ee gY jz;have HO:=cg;have HB:=cg;generalize ky st=L at Uw hLl Xk nZ⊢;clear HTo HF6 HO HB;obtain⟨Db,yy,rfl⟩:=AL Uw.out;go_wp2_with fail
     go_loopw [11] (fun i wr=>∃j:Nat,j<=L.length/\i=af ag j/\wr.ownsRow w.heap.size 294 2 (.slice Db L.length yy) L.length (iU (tT (ja n st.lo st.hi) L j))/\Below w.heap.size w wr) (fun i _=>L.length-(intOf i).toNat)
     case atStart=>exact⟨0,aI _,rfl,Uw.out,HBL.out⟩
     case round=>
      clear Uw HBL;obtain⟨j,hj,rfl,gY,jz⟩:=hrel;have ku:=jz.size;by_cases qp:j<L.length
      ·obtain⟨g,YV,e1,pr,mZ,qa⟩:=sw gY (by omega);simp only[Value.slice.injEq]at e1;obtain⟨rfl,_,rfl⟩:=e1;have B_:j<(tT (ja n st.lo st.hi) L j).length:=by rw[tC];exact qp
       have kP:=pU B_;rw[De qp]at kP;have m0:wr.cell? ⟨g,j*2,none⟩= some (af ag (L.getD j (0,0)).1):=by rw[gY.cellAt (j*2) (by omega)];exact kP.1
       have m1:wr.cell? ⟨g,j*2+1,none⟩= some (af ag (L.getD j (0,0)).2):=by rw[gY.cellAt (j*2+1) (by omega)];exact kP.2
       have hb:=Xk.out (L.getD j (0,0)) (by simp[aQ,am qp]);have z0:=gY.frozenAt (j*2);have z1:=gY.frozenAt (j*2+1);have lD:Hid (ja n st.lo st.hi (L.getD j (0,0))=L.getD j (0,0)->tT (ja n st.lo st.hi) L (j+1)=tT (ja n st.lo st.hi) L j):=FB qp;have Iv:=gE (Df (f:=ja n st.lo st.hi) qp);generalize L.getD j (0,0)=r at hb m0 m1 lD Iv;obtain⟨x,y⟩:=r;obtain⟨b1,b2,b3⟩:=hb;simp only at b1 b2 b3 m0 m1;have HO:=gE gY;have HB:=gE jz;clear gY jz kP;rcases bM n x with e1|e1
       ·have Fm:ja n st.lo st.hi (x,y)=(x,y):=by simp only[ja];rw[if_neg (by omega)]
        have HM:=gE (lD.out Fm);clear Fm lD;go_wp2_with fail
        go_roundw
        case rel=>exact⟨j+1,by omega,by go_num,by rw[HM.out];exact HO.out,HB.out⟩
        case measure=>simp[intOf];omega
       ·rcases bM y n with e2|e2
        ·have Fm:ja n st.lo st.hi (x,y)=(x,y):=by simp only[ja];rw[if_neg (by omega)]
         have HM:=gE (lD.out Fm);clear Fm lD;go_wp2_with fail
         go_roundw
         case rel=>exact⟨j+1,by omega,by go_num,by rw[HM.out];exact HO.out,HB.out⟩
         case measure=>simp[intOf];omega
        ·have Fm:ja n st.lo st.hi (x,y)=(st.lo,st.hi):=by simp only[ja];rw[if_pos ⟨e1,e2⟩]
         have L3:=Iv.out;rw[Fm]at L3;have HM:=gE L3;clear L3 Fm lD;go_wp2_with fail
         go_roundw
         case rel=>
          have s1:=HO.out.stored (j*2) (af ag st.lo);have s2:=s1.1.stored (j*2+1) (af ag st.hi);refine⟨j+1,by omega,by go_num,?_,?_⟩
          ·rw[<-HM.out,<-vF _ _ _ _ B_];exact s2.1
          ·exact(HB.out.grown s1.2 ku (fun q hq=>by have:=Option.some.inj hq;omega)).grown s2.2 (by rw[bN];exact ku) (fun q hq=>by have:=Option.some.inj hq;omega)
         case measure=>simp[intOf];omega
      ·obtain rfl:j=L.length:=by omega
       rw[JS]at gY;have UW:(L.map (ja n st.lo st.hi)).length=L.length:=by simp
       have mH:wr.heap[cb]? =some (.cells (il c (.slice ro c.runs.length rc) sv) 249 (0,0)):=by
        rw[jz.block cb (aO.1 HC.out).1];exact HC.out
       have c6r:=gF c6 jz;have c7r:=gF c7 jz;have z6:∀q,wr.frozen? ⟨cb,q,none⟩= false:=fun q=>frozen_of_row wr cb q _ _ mH
       have mx:cb<w.heap.size:=(aO.1 HC.out).1;rw[UW]at nZ;by_cases h4:4<L.length
       ·obtain⟨g,YV,e1,pr,mZ,qa⟩:=sw gY (by omega);simp only[Value.slice.injEq]at e1;obtain⟨rfl,_,rfl⟩:=e1;have lI:=nZ.out;rw[if_pos h4]at lI;have kP:=pU (l:=L.map (ja n st.lo st.hi)) (k:=0) (by omega);have m1:wr.cell? ⟨g,1,none⟩= some (af ag ((L.map (ja n st.lo st.hi)).getD 0 (0,0)).2):=by rw[gY.cellAt 1 (by omega)];exact kP.2
        have yS:0<=((L.map (ja n st.lo st.hi)).getD 0 (0,0)).2/\((L.map (ja n st.lo st.hi)).getD 0 (0,0)).2<=1073741823:=by
         have hb:=Xk.out (L.getD 0 (0,0)) (by simp[aQ,am (show 0<L.length by omega)]);have hx:(L.map (ja n st.lo st.hi)).getD 0 (0,0)=ja n st.lo st.hi (L.getD 0 (0,0)):=by simp[aQ,am (show 0<L.length by omega)]
         rw[hx];unfold ja
         split
         ·simp;omega
         ·omega
        have hcut:=Bm g L.length yy (by omega) (by omega);have wi:=gE lI;have HO:=gE gY;have HB:=gE jz;have KF:=gE mH;clear lI gY jz mH kP nZ;generalize hM:L.map (ja n st.lo st.hi)=M at HO wi m1 yS UW;generalize QT:(M.getD 0 (0,0)).2=mk at m1 yS wi;clear hM QT;go_wp2_with fail;go_ret;rw[wi.out];have iT:=gQ (gQ KF.out 6 (af ag (mk+1))) 7 (aj (some ⟨g,2,none⟩) (L.length-1) (yy-1));refine⟨rfl,CG HB.out 6 7 _ _,aj (some ⟨g,2,none⟩) (L.length-1) (yy-1),iT.trans ?_,?_⟩
        ·rfl
        ·have je:=ownsRow_setCell_below (ownsRow_setCell_below HO.out (a:=⟨cb,6,none⟩) mx (af ag (mk+1))) (a:=⟨cb,7,none⟩) mx (aj (some ⟨g,2,none⟩) (L.length-1) (yy-1));rw[<-UW]at je⊢;exact Ro.tail je (by omega)
       ·have lI:=nZ.out;rw[if_neg h4]at lI;have wi:=gE lI;have HO:=gE gY;have HB:=gE jz;have KF:=gE mH;clear lI gY jz mH nZ;go_wp2_with fail;go_ret;rw[wi.out];have iT:=gQ KF.out 7 (.slice Db L.length yy);refine⟨rfl,iu HB.out 7 _,.slice Db L.length yy,iT.trans ?_,?_⟩
        ·rfl
        ·rw[UW];exact Ro.vw (ownsRow_setCell_below HO.out (a:=⟨cb,7,none⟩) mx _)
    |false=>
     have HL:Hid (ky st=st.all++[(st.lo,st.hi)]):=by
      show _=_;simp[ky,Ee]
     have Xk:Hid (∀r∈ky st,0<=r.1/\r.1<=r.2/\r.2<=1073741823):=by
      intro r hr;rw[HL.out]at hr;simp only[bR,bP]at hr;rcases hr with hr|rfl
      ·exact HF6.out r hr
      ·exact⟨f2,by simp;omega,f5⟩
     have nZ:Hid (qf c.mark c.runs n=if 4<((ky st).map (ja n st.lo st.hi)).length then some ((((ky st).map (ja n st.lo st.hi)).getD 0 (0,0)).2+1,((ky st).map (ja n st.lo st.hi)).drop 1) else some (c.mark,(ky st).map (ja n st.lo st.hi))):=by
      show _=_;rw[HS.out,HTo.out];simp only[cf]
      split<;>rfl
     have hLl:(ky st).length<=9:=by rw[HL.out];simp;omega
     go_wp2_with (at_builtin;refine wpList_append_own _ rfl _ _ 246 rfl w.heap.size 294 i0 (.agg #[af ag 0,af ag 0]) 2 16 underlying246 hi mB kS ln rfl (by decide) u5 st.all.length (iU st.all) rfl (gY.alloc _) ⟨wr.heap.size,0,none⟩ 1 1 [af ag st.lo,af ag st.hi] rfl rfl (iZ wr 294 [af ag st.lo,af ag st.hi] (by simp[maxLen])) (by simp[bK]) (by unfold maxLen;omega) (by omega) (by simp;omega) ?_;intro v' w2 j8 jA _;refine Hid.out ?_);refine gE ?_
     have Uw:Hid (w2.ownsRow w.heap.size 294 2 v' (ky st).length (iU (ky st))):=by
      rw[HL.out,mS,aT];exact j8
     have HBL:Hid (Below w.heap.size w w2):=jz.grown (gU jA) ku (fun g hg=>(gY.lt g hg).1);clear HL Ee gY jz j8 jA;have HO:=cg;have HB:=cg;generalize ky st=L at Uw hLl Xk nZ⊢;clear HTo HF6 HO HB;obtain⟨Db,yy,rfl⟩:=AL Uw.out;go_wp2_with fail
     go_loopw [11] (fun i wr=>∃j:Nat,j<=L.length/\i=af ag j/\wr.ownsRow w.heap.size 294 2 (.slice Db L.length yy) L.length (iU (tT (ja n st.lo st.hi) L j))/\Below w.heap.size w wr) (fun i _=>L.length-(intOf i).toNat)
     case atStart=>exact⟨0,aI _,rfl,Uw.out,HBL.out⟩
     case round=>
      clear Uw HBL;obtain⟨j,hj,rfl,gY,jz⟩:=hrel;have ku:=jz.size;by_cases qp:j<L.length
      ·obtain⟨g,YV,e1,pr,mZ,qa⟩:=sw gY (by omega);simp only[Value.slice.injEq]at e1;obtain⟨rfl,_,rfl⟩:=e1;have B_:j<(tT (ja n st.lo st.hi) L j).length:=by rw[tC];exact qp
       have kP:=pU B_;rw[De qp]at kP;have m0:wr.cell? ⟨g,j*2,none⟩= some (af ag (L.getD j (0,0)).1):=by rw[gY.cellAt (j*2) (by omega)];exact kP.1
       have m1:wr.cell? ⟨g,j*2+1,none⟩= some (af ag (L.getD j (0,0)).2):=by rw[gY.cellAt (j*2+1) (by omega)];exact kP.2
       have hb:=Xk.out (L.getD j (0,0)) (by simp[aQ,am qp]);have z0:=gY.frozenAt (j*2);have z1:=gY.frozenAt (j*2+1);have lD:Hid (ja n st.lo st.hi (L.getD j (0,0))=L.getD j (0,0)->tT (ja n st.lo st.hi) L (j+1)=tT (ja n st.lo st.hi) L j):=FB qp;have Iv:=gE (Df (f:=ja n st.lo st.hi) qp);generalize L.getD j (0,0)=r at hb m0 m1 lD Iv;obtain⟨x,y⟩:=r;obtain⟨b1,b2,b3⟩:=hb;simp only at b1 b2 b3 m0 m1;have HO:=gE gY;have HB:=gE jz;clear gY jz kP;rcases bM n x with e1|e1
       ·have Fm:ja n st.lo st.hi (x,y)=(x,y):=by simp only[ja];rw[if_neg (by omega)]
        have HM:=gE (lD.out Fm);clear Fm lD;go_wp2_with fail
        go_roundw
        case rel=>exact⟨j+1,by omega,by go_num,by rw[HM.out];exact HO.out,HB.out⟩
        case measure=>simp[intOf];omega
       ·rcases bM y n with e2|e2
        ·have Fm:ja n st.lo st.hi (x,y)=(x,y):=by simp only[ja];rw[if_neg (by omega)]
         have HM:=gE (lD.out Fm);clear Fm lD;go_wp2_with fail
         go_roundw
         case rel=>exact⟨j+1,by omega,by go_num,by rw[HM.out];exact HO.out,HB.out⟩
         case measure=>simp[intOf];omega
        ·have Fm:ja n st.lo st.hi (x,y)=(st.lo,st.hi):=by simp only[ja];rw[if_pos ⟨e1,e2⟩]
         have L3:=Iv.out;rw[Fm]at L3;have HM:=gE L3;clear L3 Fm lD;go_wp2_with fail
         go_roundw
         case rel=>
          have s1:=HO.out.stored (j*2) (af ag st.lo);have s2:=s1.1.stored (j*2+1) (af ag st.hi);refine⟨j+1,by omega,by go_num,?_,?_⟩
          ·rw[<-HM.out,<-vF _ _ _ _ B_];exact s2.1
          ·exact(HB.out.grown s1.2 ku (fun q hq=>by have:=Option.some.inj hq;omega)).grown s2.2 (by rw[bN];exact ku) (fun q hq=>by have:=Option.some.inj hq;omega)
         case measure=>simp[intOf];omega
      ·obtain rfl:j=L.length:=by omega
       rw[JS]at gY;have UW:(L.map (ja n st.lo st.hi)).length=L.length:=by simp
       have mH:wr.heap[cb]? =some (.cells (il c (.slice ro c.runs.length rc) sv) 249 (0,0)):=by
        rw[jz.block cb (aO.1 HC.out).1];exact HC.out
       have c6r:=gF c6 jz;have c7r:=gF c7 jz;have z6:∀q,wr.frozen? ⟨cb,q,none⟩= false:=fun q=>frozen_of_row wr cb q _ _ mH
       have mx:cb<w.heap.size:=(aO.1 HC.out).1;rw[UW]at nZ;by_cases h4:4<L.length
       ·obtain⟨g,YV,e1,pr,mZ,qa⟩:=sw gY (by omega);simp only[Value.slice.injEq]at e1;obtain⟨rfl,_,rfl⟩:=e1;have lI:=nZ.out;rw[if_pos h4]at lI;have kP:=pU (l:=L.map (ja n st.lo st.hi)) (k:=0) (by omega);have m1:wr.cell? ⟨g,1,none⟩= some (af ag ((L.map (ja n st.lo st.hi)).getD 0 (0,0)).2):=by rw[gY.cellAt 1 (by omega)];exact kP.2
        have yS:0<=((L.map (ja n st.lo st.hi)).getD 0 (0,0)).2/\((L.map (ja n st.lo st.hi)).getD 0 (0,0)).2<=1073741823:=by
         have hb:=Xk.out (L.getD 0 (0,0)) (by simp[aQ,am (show 0<L.length by omega)]);have hx:(L.map (ja n st.lo st.hi)).getD 0 (0,0)=ja n st.lo st.hi (L.getD 0 (0,0)):=by simp[aQ,am (show 0<L.length by omega)]
         rw[hx];unfold ja
         split
         ·simp;omega
         ·omega
        have hcut:=Bm g L.length yy (by omega) (by omega);have wi:=gE lI;have HO:=gE gY;have HB:=gE jz;have KF:=gE mH;clear lI gY jz mH kP nZ;generalize hM:L.map (ja n st.lo st.hi)=M at HO wi m1 yS UW;generalize QT:(M.getD 0 (0,0)).2=mk at m1 yS wi;clear hM QT;go_wp2_with fail;go_ret;rw[wi.out];have iT:=gQ (gQ KF.out 6 (af ag (mk+1))) 7 (aj (some ⟨g,2,none⟩) (L.length-1) (yy-1));refine⟨rfl,CG HB.out 6 7 _ _,aj (some ⟨g,2,none⟩) (L.length-1) (yy-1),iT.trans ?_,?_⟩
        ·rfl
        ·have je:=ownsRow_setCell_below (ownsRow_setCell_below HO.out (a:=⟨cb,6,none⟩) mx (af ag (mk+1))) (a:=⟨cb,7,none⟩) mx (aj (some ⟨g,2,none⟩) (L.length-1) (yy-1));rw[<-UW]at je⊢;exact Ro.tail je (by omega)
       ·have lI:=nZ.out;rw[if_neg h4]at lI;have wi:=gE lI;have HO:=gE gY;have HB:=gE jz;have KF:=gE mH;clear lI gY jz mH nZ;go_wp2_with fail;go_ret;rw[wi.out];have iT:=gQ KF.out 7 (.slice Db L.length yy);refine⟨rfl,iu HB.out 7 _,.slice Db L.length yy,iT.trans ?_,?_⟩
        ·rfl
        ·rw[UW];exact Ro.vw (ownsRow_setCell_below HO.out (a:=⟨cb,7,none⟩) mx _)
theorem oV{a b:Array Value}(hs:w.heap[sb]? =some (.cells a 242 (0,0)))(hc:w.heap[cb]? =some (.cells b 249 (0,0))):sb≠cb:=by
 rintro rfl;rw[hs]at hc;simp at hc
theorem Bl(s:ik)(c:gZ)(sb cb:Nat)(cv ov rv sv:Value)(w:World)(hs:w.heap[sb]? =some (.cells (ij s cv ov) 242 (0,0)))(hc:w.heap[cb]? =some (.cells (il c rv sv) 249 (0,0)))(hl:0<=s.last/\s.last<=1125899906842624):
  Calls ae 188 #[ai (some ⟨sb,0,none⟩),ai (some ⟨cb,0,none⟩)] w fun e w'=>e=.returned (.tuple #[])/\ip (fun k=>k=sb\/k=cb) w w'/\
   w'.heap[sb]? =some (.cells (ij {s with last:=s.last+1} cv ov) 242 (0,0))/\w'.heap[cb]? =some (.cells (il {c with gT:=true,waits:=s.last+1} rv sv) 249 (0,0)):=by
 have js:=oV hs hc;have s12:w.cell? ⟨sb,12,none⟩= some (af ag s.last):=by simp[aX,hs,ij,jG.cells]
 have c2:w.cell? ⟨cb,2,none⟩= some (.bool c.gT):=by simp[aX,hc,il]
 have XE:w.cell? ⟨cb,10,none⟩= some (af ag c.waits):=by simp[aX,hc,il]
 have zs:∀q,w.frozen? ⟨sb,q,none⟩= false:=fun q=>frozen_of_row w sb q _ _ hs
 have zc:∀q,w.frozen? ⟨cb,q,none⟩= false:=fun q=>frozen_of_row w cb q _ _ hc
 have HS:=gE hs;have HC:=gE hc;clear hs hc;go_enter func188,ntmps188;go_wp2_with fail
 go_end0
 refine⟨rfl,⟨rfl,rfl,rfl,by simp,fun k hk hn=>?_⟩,?_,?_⟩
 ·have h1:k≠sb:=fun e=>hn (a_ e)
  have h2:k≠cb:=fun e=>hn (Or.inr e)
  rw[heap_setCell_other _ _ _ _ h2,heap_setCell_other _ _ _ _ h1,heap_setCell_other _ _ _ _ h2]
 ·rw[heap_setCell_other _ _ _ _ js];refine(gQ ((heap_setCell_other w ⟨cb,2,none⟩ sb _ js).trans HS.out) 12 _).trans ?_
  rfl
 ·refine(gQ ((heap_setCell_other _ ⟨sb,12,none⟩ cb _ (Ne.symm js)).trans (gQ HC.out 2 _)) 10 _).trans ?_
  rfl
def AN(b:Nat):Value:=ai (some ⟨b,0,none⟩)
def kF(l:List Nat):List Value:=l.map AN
theorem Bj(l:List Nat):(kF l).length=l.length:=by simp[kF]
theorem vk:(ae.info? 244).map (fun i=>(i.zero,i.size,i.bytes))=some (some (ai none),1,8):=by kernel_rfl
theorem En{q:Nat}{a b:Array Value}{ta tb:TypeId}(js:p≠q)(hp:w.heap[p]? =some (.cells a ta (0,0)))(hq:w.heap[q]? =some (.cells b tb (0,0))):
  (binOp .neq 244 (ai (some ⟨p,0,none⟩)) (ai (some ⟨q,0,none⟩))).run ae w=.ok (.bool true) w:=by
 have YN:∃j,ae.info? 249=some j/\j.size=11:=by
  have h:(ae.info? 249).map (fun i=>i.size)=some 11:=by kernel_rfl
  obtain⟨j,h1,h2⟩:=b9.1 h;exact⟨j,h1,h2⟩
 obtain⟨j,YN,ku⟩:=YN;have hu:ae.underlying 244=some (.pointer 249):=by kernel_rfl
 have h:∀d:Nat,(b_ (d+1) 244 (ai (some ⟨p,0,none⟩)) (ai (some ⟨q,0,none⟩))).run ae w=.ok false w:=fun d=>by
  simp[b_,run_underlying hu,sizeOf,typeInfo,YN,ku,run_sameAddr_other w (show(⟨p,0,none⟩:Addr)≠⟨q,0,none⟩ from fun h=>js (by exact congrArg Addr.block h)) hp hq]
 simp only[binOp];simp[Op.equal,Op.maxDepth,h 9999]
theorem GO(w:World)(p:Nat):(binOp .neq 244 (ai (some ⟨p,0,none⟩)) (ai (some ⟨p,0,none⟩))).run ae w=.ok (.bool false) w:=by
 have YN:∃j,ae.info? 249=some j/\j.size=11:=by
  have h:(ae.info? 249).map (fun i=>i.size)=some 11:=by kernel_rfl
  obtain⟨j,h1,h2⟩:=b9.1 h;exact⟨j,h1,h2⟩
 obtain⟨j,YN,_⟩:=YN;have hu:ae.underlying 244=some (.pointer 249):=by kernel_rfl
 have h:∀d:Nat,(b_ (d+1) 244 (ai (some ⟨p,0,none⟩)) (ai (some ⟨p,0,none⟩))).run ae w=.ok true w:=fun d=>by
  simp[b_,run_underlying hu,sizeOf,typeInfo,YN,run_sameAddr_same]
 simp only[binOp];simp[Op.equal,Op.maxDepth,h 9999]
def Rr(w:World)(b:Nat):Prop:=∃cs,w.heap[b]? =some (.cells cs 249 (0,0))
theorem FI(s:ik)(sb cb base:Nat)(gP:List Nat)(cv ov:Value)(w:World)(hs:w.heap[sb]? =some (.cells (ij s cv ov) 242 (0,0)))(kE:w.ownsRow base 244 1 cv gP.length (kF gP))(hn:gP.length<=1000)(jJ:Rr w cb)(aa4:∀p∈gP,Rr w p):
  Calls ae 194 #[ai (some ⟨sb,0,none⟩),ai (some ⟨cb,0,none⟩)] w fun e w'=>e=.returned (.tuple #[])/\ip (· = sb) w w'/\
   ∃ou,w'.heap[sb]? =some (.cells (ij s ou ov) 242 (0,0))/\w'.ownsRow w.heap.size 244 1 ou (gP.filter (· != cb)).length (kF (gP.filter (· != cb))):=by
 obtain⟨i0,hi,mB,kS,ln⟩:=info_parts vk;have s11:w.cell? ⟨sb,11,none⟩= some cv:=by simp[aX,hs,ij,jG.cells]
 have yY:sb<w.heap.size:=jh s11;obtain⟨co,cc,rfl⟩:=i7 kE;have HS:=gE hs;have HR:=gE kE;have HCb:=gE jJ;have ab4:=gE aa4;clear hs kE jJ aa4;go_enter func194,ntmps194;go_wp2_with fail
 go_loopw [4,5] (fun lv i wr=>∃k:Nat,k<=gP.length/\i=af ag k/\wr.ownsRow w.heap.size 244 1 lv ((gP.take k).filter (· != cb)).length (kF ((gP.take k).filter (· != cb)))/\Below w.heap.size w wr) (fun _ i _=>gP.length-(intOf i).toNat)
 case atStart=>exact⟨0,aI _,rfl,aq _ _ _ _,Below.refl _ _⟩
 case round=>
  obtain⟨k,hk,rfl,gY,jz⟩:=hrel;have ku:=jz.size;have abV:=gF s11 jz;by_cases jp:k<gP.length
  ·obtain⟨g,cc',e1,_,mZ,_⟩:=jP HR.out (by omega);simp only[Value.slice.injEq]at e1;obtain⟨rfl,_,rfl⟩:=e1;obtain⟨p,hp⟩:∃p,gP[k]? =some p:=⟨_,am jp⟩
   have m0:wr.cell? ⟨g,k,none⟩= some (ai (some ⟨p,0,none⟩)):=gF (by
    rw[HR.out.cellAt k (by omega)];simp[kF,AN,hp]) jz
   have pd:gP.take (k+1)=gP.take k++[p]:=by
    rw[bV,hp];rfl
   have BF:((gP.take k).filter (· != cb)).length<=1000:=by
    have h1:=bY (· != cb) (gP.take k);have h2:=bO k gP;omega
   by_cases hpc:p=cb
   ·have HT:Hid ((gP.take (k+1)).filter (· != cb)=(gP.take k).filter (· != cb)):=by
     show _=_;rw[pd,bQ];simp[hpc]
    have HO:=gE gY;have HB:=gE jz;clear gY jz pd;subst hpc;have X2:=GO wr p;go_wp2_with fail
    go_roundw
    case rel=>exact⟨k+1,by omega,by go_num,by rw[HT.out];exact HO.out,HB.out⟩
    case measure=>simp[intOf];omega
   ·have HT:Hid ((gP.take (k+1)).filter (· != cb)=(gP.take k).filter (· != cb)++[p]):=by
     show _=_;rw[pd,bQ];simp[hpc]
    have HO:=gE gY;have HB:=gE jz;clear gY jz pd;generalize (gP.take k).filter (· != cb)=l at HO HT BF;have hO:=HO.out
    have X2:(binOp .neq 244 (ai (some ⟨p,0,none⟩)) (ai (some ⟨cb,0,none⟩))).run ae wr=.ok (.bool true) wr:=by
     obtain⟨a1,h1⟩:=ab4.out p (bT hp);obtain⟨a2,h2⟩:=HCb.out;exact En hpc (by rw[HB.out.block p (aO.1 h1).1];exact h1) (by rw[HB.out.block cb (aO.1 h2).1];exact h2)
    go_wp2_with (at_builtin;refine wpList_append_own _ rfl _ _ 240 rfl w.heap.size 244 i0 (ai none) 1 8 underlying240 hi mB kS ln rfl (by decide) u4 l.length (kF l) rfl (hO.alloc _) ⟨wr.heap.size,0,none⟩ 1 1 [ai (some ⟨p,0,none⟩)] rfl rfl (iZ wr 244 [ai (some ⟨p,0,none⟩)] (by simp[maxLen])) (by simp[bK]) (by unfold maxLen;omega) (by omega) (by simp;omega) ?_;intro v' w2 j8 jA _)
    go_roundw
    case rel=>
     refine⟨k+1,by omega,by go_num,?_,HB.out.grown (gU jA) ku (fun g hg=>(hO.lt g hg).1)⟩;rw[HT.out,aT];have:kF (l++[p])=kF l++[ai (some ⟨p,0,none⟩)]:=by simp[kF,AN]
     rw[this];exact j8
    case measure=>simp[intOf];omega
  ·obtain rfl:k=gP.length:=by omega
   rw[List.take_length]at gY;obtain⟨la,lc,rfl⟩:=i7 gY
   have lj:wr.heap[sb]? =some (.cells (ij s (.slice co gP.length cc) ov) 242 (0,0)):=by
    rw[jz.block sb yY];exact HS.out
   have zs:∀q,wr.frozen? ⟨sb,q,none⟩= false:=fun q=>frozen_of_row wr sb q _ _ lj
   have HO:=gE gY;have HB:=gE jz;have HSr:=gE lj;clear gY jz lj;go_wp2_with fail
   go_end0
   refine⟨rfl,iu HB.out 11 _,_,(gQ HSr.out 11 _).trans ?_,ownsRow_setCell_below HO.out (a:=⟨sb,11,none⟩) yY _⟩
   rfl
def sS(adu now:Int)(l:List (gZ×Nat)):List (gZ×Nat):=l.filter fun x=>decide (now-x.1.heard<adu)
theorem My(s:ik)(now:Int)(sb:Nat)(w:World)(Q2:w.cell? ⟨sb,10,none⟩= some (af ag s.now))(qE:now<s.now\/1000000000<now):
  Calls ae 120 #[ai (some ⟨sb,0,none⟩),af ag now] w fun e w'=>e=.returned (af ag 2)/\w=w':=by
 rcases bM now s.now with h1|h1
 ·clear qE;go_enter func120,ntmps120;go_wp2_with fail;go_ret;exact⟨rfl,rfl⟩
 ·have h2:1000000000<now:=by omega
  clear qE;go_enter func120,ntmps120;go_wp2_with fail;go_ret;exact⟨rfl,rfl⟩
theorem P2(s:ik)(now:Int)(sb base:Nat)(gP:List Nat)(cv ov:Value)(w:World)(hs:w.heap[sb]? =some (.cells (ij s cv ov) 242 (0,0)))(kE:w.ownsRow base 244 1 cv gP.length (kF gP))(i8:gP.length=s.gG.length)(hn:gP.length<=1000)
  (sZ:∀(i:Nat) c cb,s.gG[i]? =some c->gP[i]? =some cb->∃rv sv,w.heap[cb]? =some (.cells (il c rv sv) 249 (0,0))) (hhd:∀c∈s.gG,0<=c.heard/\c.heard<=1000000000) (h0:0<=s.now) (h1:s.now<=now) (h2:now<=1000000000):
  Calls ae 120 #[ai (some ⟨sb,0,none⟩),af ag now] w fun e w'=>
   e=.returned (af ag 0)/\ip (· = sb) w w'/\∃ou,w'.heap[sb]? =some (.cells (ij {s with now:=now} ou ov) 242 (0,0))/\
    w'.ownsRow w.heap.size 244 1 ou (sS s.c.c6 now (s.gG.zip gP)).length (kF ((sS s.c.c6 now (s.gG.zip gP)).map ci)):=by
 obtain⟨i0,hi,mB,kS,ln⟩:=info_parts vk;have Q2:w.cell? ⟨sb,10,none⟩= some (af ag s.now):=by simp[aX,hs,ij,jG.cells]
 have yY:sb<w.heap.size:=jh Q2;have zs:∀q,w.frozen? ⟨sb,q,none⟩= false:=fun q=>frozen_of_row w sb q _ _ hs
 obtain⟨co,cc,rfl⟩:=i7 kE;have yX:(w.setCell ⟨sb,10,none⟩ (af ag now)).heap[sb]? =some (.cells (ij {s with now:=now} (.slice co gP.length cc) ov) 242 (0,0)):=gQ hs 10 (af ag now);have hz:(w.setCell ⟨sb,10,none⟩ (af ag now)).heap.size=w.heap.size:=bN ..
 have WG:(w.setCell ⟨sb,10,none⟩ (af ag now)).ownsRow base 244 1 (.slice co gP.length cc) gP.length (kF gP):=by
  refine ownsRow_setCell_other kE (fun e=>?_) _;obtain⟨_,⟨h,_⟩|⟨g,cap,cur,h,_,hg,_⟩⟩:=kE
  ·rw[h]at e;simp[ax]at e
  ·rw[h]at e;simp only[ax,Option.some.injEq]at e;subst e;rw[hs]at hg;simp at hg
 have Wm:∀(i:Nat) c cb,s.gG[i]? =some c->gP[i]? =some cb->(w.setCell ⟨sb,10,none⟩ (af ag now)).cell? ⟨cb,5,none⟩= some (af ag c.heard):=by
  intro i c cb hc hb;obtain⟨rv,sv,h⟩:=sZ i c cb hc hb;have js:=oV hs h;have h':(w.setCell ⟨sb,10,none⟩ (af ag now)).heap[cb]? =some (.cells (il c rv sv) 249 (0,0)):=(Below.heap_setCell w ⟨sb,10,none⟩ _ cb (Ne.symm js)).trans h;simp[aX,h',il]
 have Iv:Hid (∀(wr:World) v,Below w.heap.size (w.setCell ⟨sb,10,none⟩ (af ag now)) wr->ip (· = sb) w (wr.setCell ⟨sb,11,none⟩ v)):=by
  intro wr v hb;refine⟨hb.os,hb.tape,hb.output,by rw[bN,<-hz];exact Nat.le_trans (ay _) (hz▸hb.size),fun k hk js=>?_⟩;rw[Below.heap_setCell _ _ _ _ js,hb.block k hk,Below.heap_setCell _ _ _ _ js]
 have DZ:=gE yX;have E3:=gE WG;have HC0:=gE Wm;have HH:=gE hhd;clear hs kE sZ hhd yX WG Wm;go_enter func120,ntmps120;go_wp2_with fail;generalize w.setCell ⟨sb,10,none⟩ (af ag now)=w0 at DZ E3 HC0 Iv hz⊢
 go_loopw [5,6] (fun lv i wr=>∃k:Nat,k<=gP.length/\i=af ag k/\wr.ownsRow w.heap.size 244 1 lv (sS s.c.c6 now ((s.gG.zip gP).take k)).length (kF ((sS s.c.c6 now ((s.gG.zip gP).take k)).map ci))/\Below w.heap.size w0 wr) (fun _ i _=>gP.length-(intOf i).toNat)
 case atStart=>exact⟨0,aI _,rfl,aq _ _ _ _,Below.refl _ _⟩
 case round=>
  obtain⟨k,hk,rfl,gY,jz⟩:=hrel;have ku:w.heap.size<=wr.heap.size:=hz▸jz.size;have NF:Below w0.heap.size w0 wr:=hz▸jz
  have lj:wr.heap[sb]? =some (.cells (ij {s with now:=now} (.slice co gP.length cc) ov) 242 (0,0)):=by
   rw[jz.block sb yY];exact DZ.out
  have abV:wr.cell? ⟨sb,11,none⟩= some (.slice co gP.length cc):=by simp[aX,lj,ij,jG.cells]
  have s6r:wr.cell? ⟨sb,6,none⟩= some (af ag s.c.c6):=by simp[aX,lj,ij,jG.cells]
  by_cases jp:k<gP.length
  ·obtain⟨g,cc',e1,_,mZ,_⟩:=jP E3.out (by omega);simp only[Value.slice.injEq]at e1;obtain⟨rfl,_,rfl⟩:=e1;obtain⟨p,hp⟩:∃p,gP[k]? =some p:=⟨_,am jp⟩;obtain⟨c,hc⟩:∃c,s.gG[k]? =some c:=⟨_,am (by omega)⟩
   have m0:wr.cell? ⟨g,k,none⟩= some (ai (some ⟨p,0,none⟩)):=gF (by
    rw[E3.out.cellAt k (by omega)];simp[kF,AN,hp]) NF
   have m5:wr.cell? ⟨p,5,none⟩= some (af ag c.heard):=gF (HC0.out k c p hc hp) NF;have hhd:=HH.out c (bT hc)
   have pd:(s.gG.zip gP).take (k+1)=(s.gG.zip gP).take k++[(c,p)]:=by
    rw[bV,show(s.gG.zip gP)[k]? =some (c,p) from List.getElem?_zip_eq_some.2 ⟨hc,hp⟩];rfl
   have BF:(sS s.c.c6 now ((s.gG.zip gP).take k)).length<=1000:=by
    have h1:=bY (fun x:gZ×Nat=>decide (now-x.1.heard<s.c.c6)) ((s.gG.zip gP).take k);have h2:=bO k (s.gG.zip gP);unfold sS;omega
   have HO:=gE gY;have HB:=gE jz;clear gY jz NF lj;by_cases xG:now-c.heard<s.c.c6
   ·have HT:Hid (sS s.c.c6 now ((s.gG.zip gP).take (k+1))=sS s.c.c6 now ((s.gG.zip gP).take k)++[(c,p)]):=by
     show _=_;rw[pd];unfold sS;rw[bQ];simp[xG]
    clear pd;generalize sS s.c.c6 now ((s.gG.zip gP).take k)=l at HO HT BF;have hO:=HO.out;go_wp2_with fail
    go_quiet (fail)
    go_wp2_with (at_builtin;refine wpList_append_own _ rfl _ _ 240 rfl w.heap.size 244 i0 (ai none) 1 8 underlying240 hi mB kS ln rfl (by decide) u5 l.length (kF (l.map ci)) rfl (World.ownsRow.alloc (show(wr.drewN nq).ownsRow w.heap.size 244 1 u5 l.length (kF (l.map ci)) from hO) _) ⟨wr.heap.size,0,none⟩ 1 1 [ai (some ⟨p,0,none⟩)] rfl rfl (iZ (wr.drewN nq) 244 [ai (some ⟨p,0,none⟩)] (by simp[maxLen])) (by simp[bK]) (by unfold maxLen;omega) (by omega) (by simp;omega) ?_;intro v' w2 j8 jA _)
    go_roundw
    case rel=>
     refine⟨k+1,by omega,by go_num,?_,(gK HB.out nq).grown (gU jA) ku (fun g hg=>(hO.lt g hg).1)⟩;rw[HT.out,aT];have:kF ((l++[(c,p)]).map ci)=kF (l.map ci)++[ai (some ⟨p,0,none⟩)]:=by simp[kF,AN]
     rw[this];exact j8
    case measure=>simp[intOf];omega
   ·have HT:Hid (sS s.c.c6 now ((s.gG.zip gP).take (k+1))=sS s.c.c6 now ((s.gG.zip gP).take k)):=by
     show _=_;rw[pd];unfold sS;rw[bQ];simp[xG]
    clear pd;go_wp2_with fail
    go_quiet (fail)
    go_wp2_with fail
    go_roundw
    case rel=>exact⟨k+1,by omega,by go_num,by rw[HT.out];exact HO.out,gK HB.out _⟩
    case measure=>simp[intOf];omega
  ·obtain rfl:k=gP.length:=by omega
   rw[bL (by rw[List.length_zip];omega)]at gY;obtain⟨la,lc,rfl⟩:=i7 gY;have zr:∀q,wr.frozen? ⟨sb,q,none⟩= false:=fun q=>frozen_of_row wr sb q _ _ lj
   have HO:=gE gY;have HB:=gE jz;have HSr:=gE lj;clear gY jz NF lj;go_wp2_with fail;go_ret;refine⟨rfl,Iv.out _ _ HB.out,_,(gQ HSr.out 11 _).trans ?_,ownsRow_setCell_below HO.out (a:=⟨sb,11,none⟩) yY _⟩
   rfl
end Go.Proofs.YthmdjhlhodpbhaaGreatDoor
