import Derived.Test.YthmdjhlhodpbhaaGreatDoorM02
set_option maxHeartbeats 16000000
set_option maxRecDepth 8000
set_option linter.all false
namespace Go.Proofs.YthmdjhlhodpbhaaGreatDoor
open Go.RowKit
open _root_.List renaming getElem?_eq_getElem → ap, length_append → bL, getElem?_eq_some_iff → bo, getElem?_append_right → bN, take_of_length_le → bP, getElem?_append_left → aZ, getD → bR, mem_of_getElem? → bS, length_set → bT, length_take_le → bU, replicate → aT, mem_singleton → bV, filter_append → bW, mem_append → bX, map_append → bY, replicate_succ' → b_, take_add_one → cd, getElem?_cons_zero → ce, getElem?_cons_succ → cf, length_filter_le → ci, mem_iff_getElem? → cj, mem_of_mem_take → ck
open Go.World renaming cell? → aD, ownsRow_nil → ak, size_setCell → bQ, size_alloc → az, cell?_of_block → cn, drew → cq
open _root_.Array renaming getElem?_eq_some_iff → bn
open _root_.Nat renaming zero_le → be, le_refl → ar, add_zero → aF, le_trans → bZ, lt_of_lt_of_le → ca, lt_or_ge → ay, add_sub_cancel_left → cc
open Go.Value renaming oneCell' → bM, ownBlock → aq, int → bh
open _root_.Int renaming lt_or_le → bO, eq_ofNat_of_zero_le → aB
open _root_.Or renaming inl → bg, inr → bf
open _root_.Option renaming bind_eq_some_iff → cg, map_some → cp
open _root_.Ne renaming symm → ch
open Go.Op renaming equalIn → cl
open _root_.And renaming intro → co
open _root_.True renaming intro → ct
open Go.ByteArray renaming toList_eq → cu
open _root_.Prod renaming snd → cw
open _root_.Go renaming Value → aM, frozen_of_row → cx, wpList_append_own → aN, maxLen → aO, World → aK, heap_setCell_other → cy, bodyPost_ret → cz, heap_alloc_new → cA, Calls → aL, ownsRow_setCell_other → cC, info_parts → aP, results → cD, TypeId → bG
open Go.RowKit renaming intOf → aQ, ownsRow_setCell_below → cB, Below → cE
open _root_.Go.Proofs.Tryz
open _root_.Go.Proofs.Tryz renaming prog → ab
open Go.Value renaming int → ae, slice → ai, pointer → ag
open Go.IntKind renaming i64 → af
attribute [local simp] CV CI Bw mc lq io
variable {b w:World}{a d cap base f i n A:Nat}{e h q M w9:Value}{k z2:List Int}{m v:List Nat}{c g l:Int}{R:Option Addr}{p s:gg}{j:fV}{out:List (Int×Value)}{t:List (Int×List Int)}{z:TypeId}{x6 rs:List (Int×Int)}{o:List Value}{t3:Int×Int->Int×Int}{D x7:Array Value}{N:gs}{F:Nat->Prop}{w7:Prop}
theorem lT(a:List Int):0<=jk a/\jk a<=4/\jk a<=a.length:=by
 unfold jk;split
 ·omega
 ·split
  ·omega
  ·unfold kt at *
   omega
theorem nU(b:gG k):0<=jL k/\jL k<1073741824:=by
 unfold jL;split
 ·omega
 ·have d:=wR b;have c:=lT k;have:(jk k).toNat=1\/(jk k).toNat=2\/(jk k).toNat=3\/(jk k).toNat=4:=by omega
  rcases this with a|a|a|a<;>rw[a]<;>omega
theorem gG.drop{l:List Int}(h:gG l)(n:Nat):gG (l.drop n):=fun b a=>h b (List.mem_of_mem_drop a)
theorem gG.take{l:List Int}(h:gG l)(n:Nat):gG (l.take n):=fun b a=>h b (ck a)
theorem kV{b:List Int}(hb:gG b)(hp:0<b.length):∀(k:Nat) {ns:List Int} {a:Nat},iE b k=some (ns,a)->ns.length=k/\1<=a/\a<=b.length/\∀n∈ns,0<=n/\n<1073741824
 |0,ns,a,h=>by simp only[iE,Option.some.injEq,Prod.mk.injEq]at h;obtain⟨rfl,rfl⟩:=h;exact⟨rfl,ar _,hp,fun n hn=>by cases hn⟩
 |k+1,ns,a,h=>by
  simp only[iE]at h;cases hk:iE b k with
  |none=>rw[hk]at h;cases h
  |some x=>
   obtain⟨Tu,a'⟩:=x;rw[hk]at h;simp only at h;split at h
   ·cases h
   ·simp only[Option.some.injEq,Prod.mk.injEq]at h;obtain⟨rfl,rfl⟩:=h;obtain⟨h1,h2,h3,h4⟩:=kV hb hp k hk;have g:=lT (b.drop a');have gl:(b.drop a').length=b.length-a':=by simp
    refine⟨by simp[h1],by omega,by omega,fun n hn=>?_⟩;rcases bX.1 hn with hn|hn
    ·exact h4 n hn
    ·rw[bV.1 hn];exact nU (hb.drop a')
def nw(w:aK)(r:Option (jJ×Nat))(e:Ending):Prop:=
 match r with
 |none=>∃x0 x1 x2 x3 bv,e=.returned (.tuple #[.agg #[ae af x0,ae af x1,ae af x2,ae af x3,bv],ae af 0])/\∃ao n c,bv=.slice ao n c
 |some (f,size)=>∃bv,e=.returned (.tuple #[.agg #[ae af f.type,ae af f.id,ae af f.iP,ae af f.code,bv],ae af size])/\je w bv f.bytes
theorem qH:(ab.info? 3).map (fun i=>(i.zero,i.size,i.bytes))=some (some (II 0),1,8):=by kernel_rfl
theorem Jr(h:je b (.slice R k.length cap) k)(e:0<k.length)(f:k.getD 0 0=0):
  aL ab 189 #[.slice R k.length cap] b fun a l=>nw b (gW k) a/\Bw b l:=by
 have j:gW k=some (⟨0,0,0,0,[]⟩,1):=by unfold gW;rw[f];rfl
 rw[j];obtain⟨p,q,⟨rfl,_⟩|⟨_,m,s,n,a,o,d⟩⟩:=h
 ·simp at e
 ·simp only[Value.slice.injEq]at a;obtain⟨rfl,_,rfl⟩:=a;have c:=d 0 e;rw[f,aF]at c;clear d;have g:=hK c;simp only at g;go_enter func189,ntmps189;go_wp2;refine cz (v:=.tuple #[.agg #[II 0,II 0,II 0,II 0,ai none 0 0],II 1]) (by simp[cD,Tryz.results189,go_sem]) rfl ⟨⟨_,rfl,gG.nil,by simp,bg ⟨rfl,none,0,rfl⟩⟩,?_⟩;exact(fO _ _).alloc (by simp) _
theorem Js(h:je b (.slice R k.length cap) k)(e:0<k.length)(f:k.getD 0 0=1):
  aL ab 189 #[.slice R k.length cap] b fun a l=>nw b (gW k) a/\Bw b l:=by
 have j:gW k=some (⟨1,0,0,0,[]⟩,1):=by unfold gW;rw[f];rfl
 rw[j];obtain⟨p,q,⟨rfl,_⟩|⟨_,m,s,n,a,o,d⟩⟩:=h
 ·simp at e
 ·simp only[Value.slice.injEq]at a;obtain⟨rfl,_,rfl⟩:=a;have c:=d 0 e;rw[f,aF]at c;clear d;have g:=hK c;simp only at g;go_enter func189,ntmps189;go_wp2;refine cz (v:=.tuple #[.agg #[II 1,II 0,II 0,II 0,ai none 0 0],II 1]) (by simp[cD,Tryz.results189,go_sem]) rfl ⟨⟨_,rfl,gG.nil,by simp,bg ⟨rfl,none,0,rfl⟩⟩,?_⟩;exact(fO _ _).alloc (by simp) _
theorem wG{b:List Int}{k:Nat}(h:iE b k=none):∀c,k<=c->iE b c=none
 |0,hc=>by
  obtain rfl:k=0:=by omega
  exact h
 |c+1,hc=>by
  rcases ay c k with h1|h1
  ·obtain rfl:k=c+1:=by omega
   exact h
  ·simp only[iE,wG h c h1]
theorem pn(e:ju (k.getD 0 0)=some a)(h:d<a)(b:iE k d=some (z2,f))(g:jk (k.drop f)=0):gW k=none:=by
 have c:iE k (d+1)=none:=by simp only[iE,b];rw[if_pos g]
 unfold gW;rw[e];simp only[wG c a (by omega)]
theorem ou(b:iE k a=some (z2,d))(c:¬jk (k.drop d)=0):iE k (a+1)=some (z2++[jL (k.drop d)],d+(jk (k.drop d)).toNat):=by simp only[iE,b];rw[if_neg c]
theorem jb(c:Bw b w)(f:b.heap.size<=a):Bw b (w.setCell (Ad a d) e):=c.setCell (p:=Ad a d) f e
theorem jZ(a:Bw b w):Bw b (((((w.setCell (gf b 0) e).setCell (gf b 1) h).setCell (gf b 2) q).setCell (gf b 3) M).setCell (gf b 4) w9):=
 jb (jb (jb (jb (jb a (ar _)) (ar _)) (ar _)) (ar _)) (ar _)
abbrev qD:Obj:=.cells #[II 0,II 0,II 0,II 0,ai none 0 0] 296
theorem Jw(X:je b (.slice R k.length cap) k)(A:0<k.length)(p:k.getD 0 0=6):
  aL ab 189 #[.slice R k.length cap] b fun g c7=>nw b (gW k) g/\Bw b c7:=by
 obtain⟨c5,hi,c2,c3,c4⟩:=aP qH;have a1:=fK X;have C:Hid (ju (k.getD 0 0)=some 1):=by rw[p];rfl
 obtain⟨b5,e3,⟨rfl,_⟩|⟨_,w,B,d3,g,b1,T⟩⟩:=X
 ·simp at A
 ·simp only[Value.slice.injEq]at g;obtain⟨rfl,_,rfl⟩:=g;have P:=T 0 A;rw[p,aF]at P;have a3:=fK p;clear T p;have b6:=hK P;simp only at b6;have Z:Hid (∀n:aK,n=(b.alloc qD).alloc (.cells Ko 296)->n.heap[b.heap.size]? =some qD/\n.heap[b.heap.size+1]? =some (.cells Ko 296)/\Bw b n):=by
   rintro n rfl;refine⟨?_,?_,(fO b _).alloc (by simp) _⟩
   ·rw[Below.heap_alloc _ _ _ (by simp)];exact cA b _
   ·have:=cA (b.alloc qD) (.cells Ko 296);rwa [az]at this
  go_enter func189,ntmps189;go_wp2_with fail;go_loopw [6,7,8] (fun c6 a4 i wr=>∃(c:Nat) (l:List Int) (a:Nat),c<=1/\i=II c/\iE k c=some (l,a)/\a4=II a/\wr.ownsRow (b.heap.size+2) 3 1 c6 c (l.map (bh .i64))/\wr.heap[b.heap.size]? =some qD/\wr.heap[b.heap.size+1]? =some (.cells Ko 296)/\Bw b wr) (fun _ _ i _=>1-(aQ i).toNat);case atStart=>obtain⟨a5,a6,a7⟩:=Z.out _ rfl;exact⟨0,[],1,be _,rfl,rfl,rfl,ak _ _ _ _,a5,a6,a7⟩
  case round=>
   obtain⟨c,l,a,e2,rfl,z,rfl,W,e,d,S⟩:=hrel;obtain⟨b7,d9,Q,e4⟩:=kV b5 A c z;have d8:=(bn.1 d).1;have c0:wr.cell? (xG b)=some (II 6):=by simp[aD,d]
   have c1:wr.cell? (Kk b)=some (II 0):=by simp[aD,d]
   have d0:CI wr (b.heap.size+1) 2 0:=by simp[aD,d]
   have d1:CI wr (b.heap.size+1) 3 0:=by simp[aD,d]
   have d2:CV wr (b.heap.size+1) 4 (ai none 0 0):=by simp[aD,d]
   have H:io wr b 0 0:=by simp[aD,e]
   have I:io wr b 1 0:=by simp[aD,e]
   have J:io wr b 2 0:=by simp[aD,e]
   have K:io wr b 3 0:=by simp[aD,e]
   have L:lq wr b 4 (ai none 0 0):=by simp[aD,e]
   have d6:∀h,mc wr b.heap.size h:=fun h=>cx wr b.heap.size h _ _ e;have d7:∀h,mc wr (b.heap.size+1) h:=fun h=>cx wr (b.heap.size+1) h _ _ d;have s:=fK z;have G:=fK (co e d);have m:=fK S;have t:=fK W;clear z e d S W;by_cases b4:c<1
   ·have hcut:=pb (some (Ad w B)) cap Q;have D:Hid (je wr (sliced (some (Ad w B)) a k.length cap 1) (k.drop a)):=by have:=(nj a1.out b1 Q (ar _)).below m.out;rwa [bP (by simp)]at this
    generalize sliced (some (Ad w B)) a k.length cap 1=e7 at hcut D;go_wp2_with fail;refine(jB D.out).mono ?_;rintro g c8 ⟨rfl,rfl⟩;clear hcut;by_cases f:jk (k.drop a)=0
    ·have U:gW k=none:=pn C.out b4 s.out f;obtain⟨M,o⟩:=qa f;rw[M,o,f];have a0:=fK U;clear U M o f;go_wp2_with fail;refine cz (v:=.tuple #[.agg Ko,II 0]) (by simp[cD,Tryz.results189,go_sem,H,I,J,K,L]) rfl ⟨?_,?_⟩
     ·rw[a0.out];exact⟨_,_,_,_,_,rfl,_,_,_,rfl⟩
     ·exact jZ m.out
    ·have Y:=ou s.out f;have o:nE (k.drop a)=0:=by simp[nE,f]
     rw[o];have a9:=lT (k.drop a);have N:(k.drop a).length=k.length-a:=by simp
     have E:Hid ((jk (k.drop a):Int)=((jk (k.drop a)).toNat:Int)):=by show _=_;omega
     have c9:=fK f;have x:=t.out;have b9:=m.out.size;have u:=fK Y;clear f o Y;generalize jL (k.drop a)=O at u⊢;generalize jk (k.drop a)=b0 at u E a9⊢;go_wp2_with (at_builtin;refine aN _ rfl _ _ 38 rfl (b.heap.size+2) 3 c5 (II 0) 1 8 underlying38 hi c2 c3 c4 rfl (by decide) _ c (l.map (bh .i64)) rfl (x.alloc _) (gf wr 0) 1 1 [II O] rfl rfl (gY (by simp[aO])) (by simp[bM]) (by unfold aO;omega) (by omega) (by simp;omega) ?_;intro e6 c8 b8 b3 _);go_roundw;case rel=>
      have y:=ga b3;have V:∀q,q<b.heap.size+2->some q≠u6.ownBlock:=fun q e5 g=>by have:=(x.lt q g.symm).1;omega
      refine⟨c+1,l++[O],a+b0.toNat,by omega,by go_num,u.out,?_,by rw[bY];exact b8,?_,?_,?_⟩
      ·have:=E.out;congr 1;omega
      ·rw[y.block _ (by omega) (V _ (by omega))];exact G.out.1
      ·rw[y.block _ (by omega) (V _ (by omega))];exact G.out.2
      ·exact m.out.grown y b9 (fun a8 b2=>by have:=(x.lt a8 b2).1;omega)
     case measure=>simp[aQ];omega
   ·obtain rfl:c=1:=by omega
    obtain⟨j,rfl⟩:∃j,l=[j]:=by
     match l,b7 with
     |[j],_=>exact⟨j,rfl⟩
    obtain⟨N,d4,rfl,e0,e1,_⟩:=iC t.out (by decide);have d5:wr.cell? (Ad N 0)=some (II j):=by rw[t.out.cellAt 0 (by decide)];rfl
    have a2:Hid (gW k=some (⟨6,0,0,j,[]⟩,a)):=by show _=_;unfold gW;rw[C.out];simp only[s.out];rw[a3.out];rfl
    go_wp2_with fail;refine cz (v:=.tuple #[.agg #[II 6,II 0,II 0,II j,ai none 0 0],II a]) (by simp[cD,Tryz.results189,go_sem,H,I,J,K,L]) rfl ⟨?_,?_⟩
    ·rw[a2.out];exact⟨_,rfl,gG.nil,by simp,bg ⟨rfl,none,0,rfl⟩⟩
    ·exact jZ (jb m.out (by omega))
theorem Jx(X:je b (.slice R k.length cap) k)(A:0<k.length)(p:k.getD 0 0=7):
  aL ab 189 #[.slice R k.length cap] b fun g c7=>nw b (gW k) g/\Bw b c7:=by
 obtain⟨c5,hi,c2,c3,c4⟩:=aP qH;have a1:=fK X;have C:Hid (ju (k.getD 0 0)=some 1):=by rw[p];rfl
 obtain⟨b5,e3,⟨rfl,_⟩|⟨_,w,B,d3,g,b1,T⟩⟩:=X
 ·simp at A
 ·simp only[Value.slice.injEq]at g;obtain⟨rfl,_,rfl⟩:=g;have P:=T 0 A;rw[p,aF]at P;have a3:=fK p;clear T p;have b6:=hK P;simp only at b6;have Z:Hid (∀n:aK,n=(b.alloc qD).alloc (.cells Kn 296)->n.heap[b.heap.size]? =some qD/\n.heap[b.heap.size+1]? =some (.cells Kn 296)/\Bw b n):=by
   rintro n rfl;refine⟨?_,?_,(fO b _).alloc (by simp) _⟩
   ·rw[Below.heap_alloc _ _ _ (by simp)];exact cA b _
   ·have:=cA (b.alloc qD) (.cells Kn 296);rwa [az]at this
  go_enter func189,ntmps189;go_wp2_with fail;go_loopw [6,7,8] (fun c6 a4 i wr=>∃(c:Nat) (l:List Int) (a:Nat),c<=1/\i=II c/\iE k c=some (l,a)/\a4=II a/\wr.ownsRow (b.heap.size+2) 3 1 c6 c (l.map (bh .i64))/\wr.heap[b.heap.size]? =some qD/\wr.heap[b.heap.size+1]? =some (.cells Kn 296)/\Bw b wr) (fun _ _ i _=>1-(aQ i).toNat);case atStart=>obtain⟨a5,a6,a7⟩:=Z.out _ rfl;exact⟨0,[],1,be _,rfl,rfl,rfl,ak _ _ _ _,a5,a6,a7⟩
  case round=>
   obtain⟨c,l,a,e2,rfl,z,rfl,W,e,d,S⟩:=hrel;obtain⟨b7,d9,Q,e4⟩:=kV b5 A c z;have d8:=(bn.1 d).1;have c0:wr.cell? (xG b)=some (II 7):=by simp[aD,d]
   have c1:wr.cell? (Kk b)=some (II 0):=by simp[aD,d]
   have d0:CI wr (b.heap.size+1) 2 0:=by simp[aD,d]
   have d1:CI wr (b.heap.size+1) 3 0:=by simp[aD,d]
   have d2:CV wr (b.heap.size+1) 4 (ai none 0 0):=by simp[aD,d]
   have H:io wr b 0 0:=by simp[aD,e]
   have I:io wr b 1 0:=by simp[aD,e]
   have J:io wr b 2 0:=by simp[aD,e]
   have K:io wr b 3 0:=by simp[aD,e]
   have L:lq wr b 4 (ai none 0 0):=by simp[aD,e]
   have d6:∀h,mc wr b.heap.size h:=fun h=>cx wr b.heap.size h _ _ e;have d7:∀h,mc wr (b.heap.size+1) h:=fun h=>cx wr (b.heap.size+1) h _ _ d;have s:=fK z;have G:=fK (co e d);have m:=fK S;have t:=fK W;clear z e d S W;by_cases b4:c<1
   ·have hcut:=pb (some (Ad w B)) cap Q;have D:Hid (je wr (sliced (some (Ad w B)) a k.length cap 1) (k.drop a)):=by have:=(nj a1.out b1 Q (ar _)).below m.out;rwa [bP (by simp)]at this
    generalize sliced (some (Ad w B)) a k.length cap 1=e7 at hcut D;go_wp2_with fail;refine(jB D.out).mono ?_;rintro g c8 ⟨rfl,rfl⟩;clear hcut;by_cases f:jk (k.drop a)=0
    ·have U:gW k=none:=pn C.out b4 s.out f;obtain⟨M,o⟩:=qa f;rw[M,o,f];have a0:=fK U;clear U M o f;go_wp2_with fail;refine cz (v:=.tuple #[.agg Kn,II 0]) (by simp[cD,Tryz.results189,go_sem,H,I,J,K,L]) rfl ⟨?_,?_⟩
     ·rw[a0.out];exact⟨_,_,_,_,_,rfl,_,_,_,rfl⟩
     ·exact jZ m.out
    ·have Y:=ou s.out f;have o:nE (k.drop a)=0:=by simp[nE,f]
     rw[o];have a9:=lT (k.drop a);have N:(k.drop a).length=k.length-a:=by simp
     have E:Hid ((jk (k.drop a):Int)=((jk (k.drop a)).toNat:Int)):=by show _=_;omega
     have c9:=fK f;have x:=t.out;have b9:=m.out.size;have u:=fK Y;clear f o Y;generalize jL (k.drop a)=O at u⊢;generalize jk (k.drop a)=b0 at u E a9⊢;go_wp2_with (at_builtin;refine aN _ rfl _ _ 38 rfl (b.heap.size+2) 3 c5 (II 0) 1 8 underlying38 hi c2 c3 c4 rfl (by decide) _ c (l.map (bh .i64)) rfl (x.alloc _) (gf wr 0) 1 1 [II O] rfl rfl (gY (by simp[aO])) (by simp[bM]) (by unfold aO;omega) (by omega) (by simp;omega) ?_;intro e6 c8 b8 b3 _);go_roundw;case rel=>
      have y:=ga b3;have V:∀q,q<b.heap.size+2->some q≠u6.ownBlock:=fun q e5 g=>by have:=(x.lt q g.symm).1;omega
      refine⟨c+1,l++[O],a+b0.toNat,by omega,by go_num,u.out,?_,by rw[bY];exact b8,?_,?_,?_⟩
      ·have:=E.out;congr 1;omega
      ·rw[y.block _ (by omega) (V _ (by omega))];exact G.out.1
      ·rw[y.block _ (by omega) (V _ (by omega))];exact G.out.2
      ·exact m.out.grown y b9 (fun a8 b2=>by have:=(x.lt a8 b2).1;omega)
     case measure=>simp[aQ];omega
   ·obtain rfl:c=1:=by omega
    obtain⟨j,rfl⟩:∃j,l=[j]:=by
     match l,b7 with
     |[j],_=>exact⟨j,rfl⟩
    obtain⟨N,d4,rfl,e0,e1,_⟩:=iC t.out (by decide);have d5:wr.cell? (Ad N 0)=some (II j):=by rw[t.out.cellAt 0 (by decide)];rfl
    have a2:Hid (gW k=some (⟨7,0,0,j,[]⟩,a)):=by show _=_;unfold gW;rw[C.out];simp only[s.out];rw[a3.out];rfl
    go_wp2_with fail;refine cz (v:=.tuple #[.agg #[II 7,II 0,II 0,II j,ai none 0 0],II a]) (by simp[cD,Tryz.results189,go_sem,H,I,J,K,L]) rfl ⟨?_,?_⟩
    ·rw[a2.out];exact⟨_,rfl,gG.nil,by simp,bg ⟨rfl,none,0,rfl⟩⟩
    ·exact jZ (jb m.out (by omega))
theorem Jv(Y:je b (.slice R k.length cap) k)(D:0<k.length)(t:k.getD 0 0=5):
  aL ab 189 #[.slice R k.length cap] b fun g c8=>nw b (gW k) g/\Bw b c8:=by
 obtain⟨c6,hi,c3,c4,c5⟩:=aP qH;have a2:=fK Y;have G:Hid (ju (k.getD 0 0)=some 2):=by rw[t];rfl
 obtain⟨b6,e5,⟨rfl,_⟩|⟨_,y,E,d4,g,b2,U⟩⟩:=Y
 ·simp at D
 ·simp only[Value.slice.injEq]at g;obtain⟨rfl,_,rfl⟩:=g;have Q:=U 0 D;rw[t,aF]at Q;have a4:=fK t;clear U t;have b7:=hK Q;simp only at b7;have a0:Hid (∀o:aK,o=(b.alloc qD).alloc (.cells Kp 296)->o.heap[b.heap.size]? =some qD/\o.heap[b.heap.size+1]? =some (.cells Kp 296)/\Bw b o):=by
   rintro o rfl;refine⟨?_,?_,(fO b _).alloc (by simp) _⟩
   ·rw[Below.heap_alloc _ _ _ (by simp)];exact cA b _
   ·have:=cA (b.alloc qD) (.cells Kp 296);rwa [az]at this
  go_enter func189,ntmps189;go_wp2_with fail;go_loopw [6,7,8] (fun c7 a5 i wr=>∃(c:Nat) (m:List Int) (a:Nat),c<=2/\i=II c/\iE k c=some (m,a)/\a5=II a/\wr.ownsRow (b.heap.size+2) 3 1 c7 c (m.map (bh .i64))/\wr.heap[b.heap.size]? =some qD/\wr.heap[b.heap.size+1]? =some (.cells Kp 296)/\Bw b wr) (fun _ _ i _=>2-(aQ i).toNat);case atStart=>obtain⟨a6,a7,a8⟩:=a0.out _ rfl;exact⟨0,[],1,be _,rfl,rfl,rfl,ak _ _ _ _,a6,a7,a8⟩
  case round=>
   obtain⟨c,m,a,e4,rfl,C,rfl,X,e,d,T⟩:=hrel;obtain⟨b8,e0,S,e6⟩:=kV b6 D c C;have d9:=(bn.1 d).1;have c0:wr.cell? (xG b)=some (II 5):=by simp[aD,d]
   have c1:wr.cell? (Kk b)=some (II 0):=by simp[aD,d]
   have d1:CI wr (b.heap.size+1) 2 0:=by simp[aD,d]
   have d2:CI wr (b.heap.size+1) 3 0:=by simp[aD,d]
   have d3:CV wr (b.heap.size+1) 4 (ai none 0 0):=by simp[aD,d]
   have K:io wr b 0 0:=by simp[aD,e]
   have L:io wr b 1 0:=by simp[aD,e]
   have M:io wr b 2 0:=by simp[aD,e]
   have N:io wr b 3 0:=by simp[aD,e]
   have O:lq wr b 4 (ai none 0 0):=by simp[aD,e]
   have d7:∀h,mc wr b.heap.size h:=fun h=>cx wr b.heap.size h _ _ e;have d8:∀h,mc wr (b.heap.size+1) h:=fun h=>cx wr (b.heap.size+1) h _ _ d;have w:=fK C;have J:=fK (co e d);have n:=fK T;have q:=fK X;clear C e d T X;by_cases b5:c<2
   ·have hcut:=pb (some (Ad y E)) cap S;have H:Hid (je wr (sliced (some (Ad y E)) a k.length cap 1) (k.drop a)):=by have:=(nj a2.out b2 S (ar _)).below n.out;rwa [bP (by simp)]at this
    generalize sliced (some (Ad y E)) a k.length cap 1=e9 at hcut H;go_wp2_with fail;refine(jB H.out).mono ?_;rintro g c9 ⟨rfl,rfl⟩;clear hcut;by_cases f:jk (k.drop a)=0
    ·have V:gW k=none:=pn G.out b5 w.out f;obtain⟨z,p⟩:=qa f;rw[z,p,f];have a1:=fK V;clear V z p f;go_wp2_with fail;refine cz (v:=.tuple #[.agg Kp,II 0]) (by simp[cD,Tryz.results189,go_sem,K,L,M,N,O]) rfl ⟨?_,?_⟩
     ·rw[a1.out];exact⟨_,_,_,_,_,rfl,_,_,_,rfl⟩
     ·exact jZ n.out
    ·have Z:=ou w.out f;have p:nE (k.drop a)=0:=by simp[nE,f]
     rw[p];have b0:=lT (k.drop a);have s:(k.drop a).length=k.length-a:=by simp
     have I:Hid ((jk (k.drop a):Int)=((jk (k.drop a)).toNat:Int)):=by show _=_;omega
     have d0:=fK f;have A:=q.out;have c2:=n.out.size;have x:=fK Z;clear f p Z;generalize jL (k.drop a)=P at x⊢;generalize jk (k.drop a)=b1 at x I b0⊢;go_wp2_with (at_builtin;refine aN _ rfl _ _ 38 rfl (b.heap.size+2) 3 c6 (II 0) 1 8 underlying38 hi c3 c4 c5 rfl (by decide) _ c (m.map (bh .i64)) rfl (A.alloc _) (gf wr 0) 1 1 [II P] rfl rfl (gY (by simp[aO])) (by simp[bM]) (by unfold aO;omega) (by omega) (by simp;omega) ?_;intro e8 c9 b9 b4 _);go_roundw;case rel=>
      have B:=ga b4;have W:∀u,u<b.heap.size+2->some u≠u6.ownBlock:=fun u e7 g=>by have:=(A.lt u g.symm).1;omega
      refine⟨c+1,m++[P],a+b1.toNat,by omega,by go_num,x.out,?_,by rw[bY];exact b9,?_,?_,?_⟩
      ·have:=I.out;congr 1;omega
      ·rw[B.block _ (by omega) (W _ (by omega))];exact J.out.1
      ·rw[B.block _ (by omega) (W _ (by omega))];exact J.out.2
      ·exact n.out.grown B c2 (fun a9 b3=>by have:=(A.lt a9 b3).1;omega)
     case measure=>simp[aQ];omega
   ·obtain rfl:c=2:=by omega
    obtain⟨j,l,rfl⟩:∃j l,m=[j,l]:=by
     match m,b8 with
     |[j,l],_=>exact⟨j,l,rfl⟩
    obtain⟨s,d5,rfl,e1,e2,_⟩:=iC q.out (by decide);have d6:wr.cell? (Ad s 0)=some (II j):=by rw[q.out.cellAt 0 (by decide)];rfl
    have z:wr.cell? (Ad s 1)=some (II l):=by rw[q.out.cellAt 1 (by decide)];rfl
    have e3:s≠b.heap.size+1:=by omega
    have a3:Hid (gW k=some (⟨5,j,l,0,[]⟩,a)):=by show _=_;unfold gW;rw[G.out];simp only[w.out];rw[a4.out];rfl
    go_wp2_with fail;refine cz (v:=.tuple #[.agg #[II 5,II j,II l,II 0,ai none 0 0],II a]) (by simp[cD,Tryz.results189,go_sem,K,L,M,N,O]) rfl ⟨?_,?_⟩
    ·rw[a3.out];exact⟨_,rfl,gG.nil,by simp,bg ⟨rfl,none,0,rfl⟩⟩
    ·exact jZ (jb (jb n.out (by omega)) (by omega))
theorem Jt(a9:je b (.slice R k.length cap) k)(T:0<k.length)(y:k.getD 0 0=3):
  aL ab 189 #[.slice R k.length cap] b fun l e0=>nw b (gW k) l/\Bw b e0:=by
 obtain⟨d8,hi,d5,d6,d7⟩:=aP qH;have W:=fK a9;have U:Hid (ju (k.getD 0 0)=some 3):=by rw[y];rfl
 obtain⟨c8,f8,⟨rfl,_⟩|⟨_,u,w,e6,l,a4,a3⟩⟩:=a9
 ·simp at T
 ·simp only[Value.slice.injEq]at l;obtain⟨rfl,_,rfl⟩:=l;have a0:=a3 0 T;rw[y,aF]at a0;have b4:=fK y;clear a3 y;have c9:=hK a0;simp only at c9;have b1:Hid (∀t:aK,t=(b.alloc qD).alloc (.cells Kr 296)->t.heap[b.heap.size]? =some qD/\t.heap[b.heap.size+1]? =some (.cells Kr 296)/\Bw b t):=by
   rintro t rfl;refine⟨?_,?_,(fO b _).alloc (by simp) _⟩
   ·rw[Below.heap_alloc _ _ _ (by simp)];exact cA b _
   ·have:=cA (b.alloc qD) (.cells Kr 296);rwa [az]at this
  go_enter func189,ntmps189;go_wp2_with fail;go_loopw [6,7,8] (fun d9 b5 i wr=>∃(d:Nat) (n:List Int) (a:Nat),d<=3/\i=II d/\iE k d=some (n,a)/\b5=II a/\wr.ownsRow (b.heap.size+2) 3 1 d9 d (n.map (bh .i64))/\wr.heap[b.heap.size]? =some qD/\wr.heap[b.heap.size+1]? =some (.cells Kr 296)/\Bw b wr) (fun _ _ i _=>3-(aQ i).toNat);case atStart=>obtain⟨b6,b7,b8⟩:=b1.out _ rfl;exact⟨0,[],1,be _,rfl,rfl,rfl,ak _ _ _ _,b6,b7,b8⟩
  case round=>
   obtain⟨d,n,a,f7,rfl,S,rfl,a8,h,e,a2⟩:=hrel;obtain⟨d1,f2,a1,d2⟩:=kV c8 T d S;have f1:=(bn.1 e).1;have c0:wr.cell? (xG b)=some (II 3):=by simp[aD,e]
   have c1:wr.cell? (Kk b)=some (II 0):=by simp[aD,e]
   have e3:CI wr (b.heap.size+1) 2 0:=by simp[aD,e]
   have e4:CI wr (b.heap.size+1) 3 0:=by simp[aD,e]
   have e5:CV wr (b.heap.size+1) 4 (ai none 0 0):=by simp[aD,e]
   have I:io wr b 0 0:=by simp[aD,h]
   have J:io wr b 1 0:=by simp[aD,h]
   have K:io wr b 2 0:=by simp[aD,h]
   have L:io wr b 3 0:=by simp[aD,h]
   have M:lq wr b 4 (ai none 0 0):=by simp[aD,h]
   have e9:∀m,mc wr b.heap.size m:=fun m=>cx wr b.heap.size m _ _ h;have f0:∀m,mc wr (b.heap.size+1) m:=fun m=>cx wr (b.heap.size+1) m _ _ e;have E:=fK S;have X:=fK (co h e);have o:=fK a2;have s:=fK a8;clear S h e a2 a8;by_cases c7:d<3
   ·have hcut:=pb (some (Ad u w)) cap a1;have x:Hid (je wr (sliced (some (Ad u w)) a k.length cap 1) (k.drop a)):=by have:=(nj W.out a4 a1 (ar _)).below o.out;rwa [bP (by simp)]at this
    generalize sliced (some (Ad u w)) a k.length cap 1=g2 at hcut x;go_wp2_with fail;refine(jB x.out).mono ?_;rintro l e1 ⟨rfl,rfl⟩;clear hcut;by_cases j:jk (k.drop a)=0
    ·have a6:gW k=none:=pn U.out c7 E.out j;obtain⟨N,p⟩:=qa j;rw[N,p,j];have b3:=fK a6;clear a6 N p j;go_wp2_with fail;refine cz (v:=.tuple #[.agg Kr,II 0]) (by simp[cD,Tryz.results189,go_sem,I,J,K,L,M]) rfl ⟨?_,?_⟩
     ·rw[b3.out];exact⟨_,_,_,_,_,rfl,_,_,_,rfl⟩
     ·exact jZ o.out
    ·have b0:=ou E.out j;have p:nE (k.drop a)=0:=by simp[nE,j]
     rw[p];have c2:=lT (k.drop a);have q:(k.drop a).length=k.length-a:=by simp
     have V:Hid ((jk (k.drop a):Int)=((jk (k.drop a)).toNat:Int)):=by show _=_;omega
     have e2:=fK j;have O:=s.out;have d4:=o.out.size;have H:=fK b0;clear j p b0;generalize jL (k.drop a)=Z at H⊢;generalize jk (k.drop a)=c3 at H V c2⊢;go_wp2_with (at_builtin;refine aN _ rfl _ _ 38 rfl (b.heap.size+2) 3 d8 (II 0) 1 8 underlying38 hi d5 d6 d7 rfl (by decide) _ d (n.map (bh .i64)) rfl (O.alloc _) (gf wr 0) 1 1 [II Z] rfl rfl (gY (by simp[aO])) (by simp[bM]) (by unfold aO;omega) (by omega) (by simp;omega) ?_;intro g1 e1 d3 c6 _);go_roundw;case rel=>
      have Q:=ga c6;have a7:∀A,A<b.heap.size+2->some A≠u6.ownBlock:=fun A g0 l=>by have:=(O.lt A l.symm).1;omega
      refine⟨d+1,n++[Z],a+c3.toNat,by omega,by go_num,H.out,?_,by rw[bY];exact d3,?_,?_,?_⟩
      ·have:=V.out;congr 1;omega
      ·rw[Q.block _ (by omega) (a7 _ (by omega))];exact X.out.1
      ·rw[Q.block _ (by omega) (a7 _ (by omega))];exact X.out.2
      ·exact o.out.grown Q d4 (fun b9 c5=>by have:=(O.lt b9 c5).1;omega)
     case measure=>simp[aQ];omega
   ·obtain rfl:d=3:=by omega
    obtain⟨f,g,c,rfl⟩:∃f g c,n=[f,g,c]:=by
     match n,d1 with
     |[f,g,c],_=>exact⟨f,g,c,rfl⟩
    obtain⟨q,e7,rfl,f3,f4,_⟩:=iC s.out (by decide);have e8:wr.cell? (Ad q 0)=some (II f):=by rw[s.out.cellAt 0 (by decide)];rfl
    have N:wr.cell? (Ad q 1)=some (II g):=by rw[s.out.cellAt 1 (by decide)];rfl
    have p:wr.cell? (Ad q 2)=some (II c):=by rw[s.out.cellAt 2 (by decide)];rfl
    have f5:q≠b.heap.size+1:=by omega
    have f6:q≠b.heap.size:=by omega
    obtain⟨d0,f9⟩:=d2 c (by simp);have Y:Hid (gW k=if(k.length:Int)<a+c then none else some (⟨3,f,g,0,(k.drop a).take c.toNat⟩,a+c.toNat)):=by show _=_;unfold gW;rw[U.out];simp only[E.out];rw[b4.out];rfl
    by_cases a5:(k.length:Int)<a+c
    ·have G:Hid (gW k=none):=by show _=_;rw[Y.out,if_pos a5]
     go_wp2_with fail;refine cz (v:=.tuple #[.agg #[II 3,II f,II g,II 0,ai none 0 0],II 0]) (by simp[cD,Tryz.results189,go_sem,I,J,K,L,M]) rfl ⟨?_,?_⟩
     ·rw[G.out];exact⟨_,_,_,_,_,rfl,_,_,_,rfl⟩
     ·exact jZ (jb (jb o.out (by omega)) (by omega))
    ·have G:Hid (gW k=some (⟨3,f,g,0,(k.drop a).take c.toNat⟩,a+c.toNat)):=by show _=_;rw[Y.out,if_neg a5]
     obtain⟨z,rfl⟩:=aB d0;have hcut:=yH (some (Ad u w)) k.length cap a (a+z) (by omega) (by omega);rw[Int.natCast_add]at hcut;have x:=fK (nj W.out a4 (d:=a) (hi:=a+z) (by omega) (by omega));have c4:∃D C B,sliced (some (Ad u w)) a (a+z) cap 1=.slice D C B:=⟨_,_,_,rfl⟩;obtain⟨D,C,B,P⟩:=c4;rw[P]at hcut;have b2:=fK P;clear P;go_wp2_with fail;go_region;all_goals (try go_wp2)
     refine cz (v:=.tuple #[.agg #[II 3,II f,II g,II 0,.slice D C B],II (a+z)]) (by simp[cD,Tryz.results189,go_sem,I,J,K,L,M]) rfl ⟨?_,?_⟩
     ·rw[G.out];refine⟨.slice D C B,by simp,?_⟩;have:=x.out;rw[b2.out,cc]at this;simpa using this
     ·exact(jZ (jb (jb (jb o.out (by omega)) (by omega)) (by omega))).drew
theorem Ju(a9:je b (.slice R k.length cap) k)(T:0<k.length)(y:k.getD 0 0=4):
  aL ab 189 #[.slice R k.length cap] b fun l e0=>nw b (gW k) l/\Bw b e0:=by
 obtain⟨d8,hi,d5,d6,d7⟩:=aP qH;have W:=fK a9;have U:Hid (ju (k.getD 0 0)=some 3):=by rw[y];rfl
 obtain⟨c8,f8,⟨rfl,_⟩|⟨_,u,w,e6,l,a4,a3⟩⟩:=a9
 ·simp at T
 ·simp only[Value.slice.injEq]at l;obtain⟨rfl,_,rfl⟩:=l;have a0:=a3 0 T;rw[y,aF]at a0;have b4:=fK y;clear a3 y;have c9:=hK a0;simp only at c9;have b1:Hid (∀t:aK,t=(b.alloc qD).alloc (.cells Kq 296)->t.heap[b.heap.size]? =some qD/\t.heap[b.heap.size+1]? =some (.cells Kq 296)/\Bw b t):=by
   rintro t rfl;refine⟨?_,?_,(fO b _).alloc (by simp) _⟩
   ·rw[Below.heap_alloc _ _ _ (by simp)];exact cA b _
   ·have:=cA (b.alloc qD) (.cells Kq 296);rwa [az]at this
  go_enter func189,ntmps189;go_wp2_with fail;go_loopw [6,7,8] (fun d9 b5 i wr=>∃(d:Nat) (n:List Int) (a:Nat),d<=3/\i=II d/\iE k d=some (n,a)/\b5=II a/\wr.ownsRow (b.heap.size+2) 3 1 d9 d (n.map (bh .i64))/\wr.heap[b.heap.size]? =some qD/\wr.heap[b.heap.size+1]? =some (.cells Kq 296)/\Bw b wr) (fun _ _ i _=>3-(aQ i).toNat);case atStart=>obtain⟨b6,b7,b8⟩:=b1.out _ rfl;exact⟨0,[],1,be _,rfl,rfl,rfl,ak _ _ _ _,b6,b7,b8⟩
  case round=>
   obtain⟨d,n,a,f7,rfl,S,rfl,a8,h,e,a2⟩:=hrel;obtain⟨d1,f2,a1,d2⟩:=kV c8 T d S;have f1:=(bn.1 e).1;have c0:wr.cell? (xG b)=some (II 4):=by simp[aD,e]
   have c1:wr.cell? (Kk b)=some (II 0):=by simp[aD,e]
   have e3:CI wr (b.heap.size+1) 2 0:=by simp[aD,e]
   have e4:CI wr (b.heap.size+1) 3 0:=by simp[aD,e]
   have e5:CV wr (b.heap.size+1) 4 (ai none 0 0):=by simp[aD,e]
   have I:io wr b 0 0:=by simp[aD,h]
   have J:io wr b 1 0:=by simp[aD,h]
   have K:io wr b 2 0:=by simp[aD,h]
   have L:io wr b 3 0:=by simp[aD,h]
   have M:lq wr b 4 (ai none 0 0):=by simp[aD,h]
   have e9:∀m,mc wr b.heap.size m:=fun m=>cx wr b.heap.size m _ _ h;have f0:∀m,mc wr (b.heap.size+1) m:=fun m=>cx wr (b.heap.size+1) m _ _ e;have E:=fK S;have X:=fK (co h e);have o:=fK a2;have s:=fK a8;clear S h e a2 a8;by_cases c7:d<3
   ·have hcut:=pb (some (Ad u w)) cap a1;have x:Hid (je wr (sliced (some (Ad u w)) a k.length cap 1) (k.drop a)):=by have:=(nj W.out a4 a1 (ar _)).below o.out;rwa [bP (by simp)]at this
    generalize sliced (some (Ad u w)) a k.length cap 1=g2 at hcut x;go_wp2_with fail;refine(jB x.out).mono ?_;rintro l e1 ⟨rfl,rfl⟩;clear hcut;by_cases j:jk (k.drop a)=0
    ·have a6:gW k=none:=pn U.out c7 E.out j;obtain⟨N,p⟩:=qa j;rw[N,p,j];have b3:=fK a6;clear a6 N p j;go_wp2_with fail;refine cz (v:=.tuple #[.agg Kq,II 0]) (by simp[cD,Tryz.results189,go_sem,I,J,K,L,M]) rfl ⟨?_,?_⟩
     ·rw[b3.out];exact⟨_,_,_,_,_,rfl,_,_,_,rfl⟩
     ·exact jZ o.out
    ·have b0:=ou E.out j;have p:nE (k.drop a)=0:=by simp[nE,j]
     rw[p];have c2:=lT (k.drop a);have q:(k.drop a).length=k.length-a:=by simp
     have V:Hid ((jk (k.drop a):Int)=((jk (k.drop a)).toNat:Int)):=by show _=_;omega
     have e2:=fK j;have O:=s.out;have d4:=o.out.size;have H:=fK b0;clear j p b0;generalize jL (k.drop a)=Z at H⊢;generalize jk (k.drop a)=c3 at H V c2⊢;go_wp2_with (at_builtin;refine aN _ rfl _ _ 38 rfl (b.heap.size+2) 3 d8 (II 0) 1 8 underlying38 hi d5 d6 d7 rfl (by decide) _ d (n.map (bh .i64)) rfl (O.alloc _) (gf wr 0) 1 1 [II Z] rfl rfl (gY (by simp[aO])) (by simp[bM]) (by unfold aO;omega) (by omega) (by simp;omega) ?_;intro g1 e1 d3 c6 _);go_roundw;case rel=>
      have Q:=ga c6;have a7:∀A,A<b.heap.size+2->some A≠u6.ownBlock:=fun A g0 l=>by have:=(O.lt A l.symm).1;omega
      refine⟨d+1,n++[Z],a+c3.toNat,by omega,by go_num,H.out,?_,by rw[bY];exact d3,?_,?_,?_⟩
      ·have:=V.out;congr 1;omega
      ·rw[Q.block _ (by omega) (a7 _ (by omega))];exact X.out.1
      ·rw[Q.block _ (by omega) (a7 _ (by omega))];exact X.out.2
      ·exact o.out.grown Q d4 (fun b9 c5=>by have:=(O.lt b9 c5).1;omega)
     case measure=>simp[aQ];omega
   ·obtain rfl:d=3:=by omega
    obtain⟨f,g,c,rfl⟩:∃f g c,n=[f,g,c]:=by
     match n,d1 with
     |[f,g,c],_=>exact⟨f,g,c,rfl⟩
    obtain⟨q,e7,rfl,f3,f4,_⟩:=iC s.out (by decide);have e8:wr.cell? (Ad q 0)=some (II f):=by rw[s.out.cellAt 0 (by decide)];rfl
    have N:wr.cell? (Ad q 1)=some (II g):=by rw[s.out.cellAt 1 (by decide)];rfl
    have p:wr.cell? (Ad q 2)=some (II c):=by rw[s.out.cellAt 2 (by decide)];rfl
    have f5:q≠b.heap.size+1:=by omega
    have f6:q≠b.heap.size:=by omega
    obtain⟨d0,f9⟩:=d2 c (by simp);have Y:Hid (gW k=if(k.length:Int)<a+c then none else some (⟨4,f,g,0,(k.drop a).take c.toNat⟩,a+c.toNat)):=by show _=_;unfold gW;rw[U.out];simp only[E.out];rw[b4.out];rfl
    by_cases a5:(k.length:Int)<a+c
    ·have G:Hid (gW k=none):=by show _=_;rw[Y.out,if_pos a5]
     go_wp2_with fail;refine cz (v:=.tuple #[.agg #[II 4,II f,II g,II 0,ai none 0 0],II 0]) (by simp[cD,Tryz.results189,go_sem,I,J,K,L,M]) rfl ⟨?_,?_⟩
     ·rw[G.out];exact⟨_,_,_,_,_,rfl,_,_,_,rfl⟩
     ·exact jZ (jb (jb o.out (by omega)) (by omega))
    ·have G:Hid (gW k=some (⟨4,f,g,0,(k.drop a).take c.toNat⟩,a+c.toNat)):=by show _=_;rw[Y.out,if_neg a5]
     obtain⟨z,rfl⟩:=aB d0;have hcut:=yH (some (Ad u w)) k.length cap a (a+z) (by omega) (by omega);rw[Int.natCast_add]at hcut;have x:=fK (nj W.out a4 (d:=a) (hi:=a+z) (by omega) (by omega));have c4:∃D C B,sliced (some (Ad u w)) a (a+z) cap 1=.slice D C B:=⟨_,_,_,rfl⟩;obtain⟨D,C,B,P⟩:=c4;rw[P]at hcut;have b2:=fK P;clear P;go_wp2_with fail;go_region;all_goals (try go_wp2)
     refine cz (v:=.tuple #[.agg #[II 4,II f,II g,II 0,.slice D C B],II (a+z)]) (by simp[cD,Tryz.results189,go_sem,I,J,K,L,M]) rfl ⟨?_,?_⟩
     ·rw[G.out];refine⟨.slice D C B,by simp,?_⟩;have:=x.out;rw[b2.out,cc]at this;simpa using this
     ·exact(jZ (jb (jb (jb o.out (by omega)) (by omega)) (by omega))).drew
theorem Ck(h:je b (.slice R k.length cap) k)(g:0<k.length)(l:¬k.getD 0 0=0)(m:¬k.getD 0 0=1)(n:¬k.getD 0 0=3)(o:¬k.getD 0 0=4)(d:¬k.getD 0 0=5)(p:¬k.getD 0 0=6)(q:¬k.getD 0 0=7):
  aL ab 189 #[.slice R k.length cap] b fun c u=>nw b (gW k) c/\Bw b u:=by
 have j:gW k=none:=by
  unfold gW;have:ju (k.getD 0 0)=none:=by unfold ju;rw[if_neg (by omega),if_neg (by omega),if_neg d,if_neg (by omega)]
  rw[this]
 rw[j];clear j;have s:=iY h.1 0;obtain⟨H,I,⟨rfl,_⟩|⟨_,D,L,E,c,G,f⟩⟩:=h
 ·simp at g
 ·simp only[Value.slice.injEq]at c;obtain⟨rfl,_,rfl⟩:=c;have e:=f 0 g;rw[aF]at e;clear f;generalize k.getD 0 0=a at *
  obtain⟨J,K⟩:=s;have t:=hK e;simp only at t;have w:(a==0)=false:=beq_eq_false_iff_ne.2 l;have x:(a==1)=false:=beq_eq_false_iff_ne.2 m;have y:(a==3)=false:=beq_eq_false_iff_ne.2 n;have z:(a==4)=false:=beq_eq_false_iff_ne.2 o;have A:(a==5)=false:=beq_eq_false_iff_ne.2 d;have B:(a==6)=false:=beq_eq_false_iff_ne.2 p;have C:(a==7)=false:=beq_eq_false_iff_ne.2 q;clear l m n o d p q;go_enter func189,ntmps189;go_wp2;refine cz (v:=.tuple #[.agg #[II a,II 0,II 0,II 0,ai none 0 0],II 0]) (by simp[cD,Tryz.results189,go_sem]) rfl ⟨⟨_,_,_,_,_,rfl,_,_,_,rfl⟩,?_⟩;exact(fO _ _).alloc (by simp) _
theorem GB(a:je b e k)(c:0<k.length):
  aL ab 189 #[e] b fun n o=>nw b (gW k) n/\Bw b o:=by
 obtain⟨p,cap,rfl⟩:=a.form;by_cases d:k.getD 0 0=0
 ·exact Jr a c d
 by_cases f:k.getD 0 0=1
 ·exact Js a c f
 by_cases g:k.getD 0 0=3
 ·exact Jt a c g
 by_cases h:k.getD 0 0=4
 ·exact Ju a c h
 by_cases j:k.getD 0 0=5
 ·exact Jv a c j
 by_cases l:k.getD 0 0=6
 ·exact Jw a c l
 by_cases m:k.getD 0 0=7
 ·exact Jx a c m
 exact Ck a c d f g h j l m
def gs.cells(s:gs)(bv:aM):List aM:=[bv,II s.read,II s.fW,II s.fS,II s.final,.bool s.reset,.bool s.done]
def kc:List gs->List aM->List aM
 |s::r,bv::rT=>s.cells bv++kc r rT
 |_,_=>[]
def gT(l:List (Int×Int)):List aM:=l.flatMap fun r=>[II r.1,II r.2]
def hP(l:List Int):List aM:=l.map (bh .i64)
def gn(c:fV)(rv sv:aM):Array aM:=
 #[II c.fZ,II c.addr,.bool c.fY,II c.gR,II c.gS,II c.heard,II c.mark,rv,II c.fS,sv,II c.waits]
def lf(w:aK)(base:Nat)(c:fV)(cb sr:Nat):Prop:=
 ∃rv xf rT,w.heap[cb]? =some (.cells (gn c rv (ai (some (Ad sr 0)) c.fM.length xf)) 249 (0,0))/\Ro w 294 rv c.runs.length (gT c.runs)/\
  rT.length=c.fM.length/\w.ownsRow base 252 7 (ai (some (Ad sr 0)) c.fM.length xf) c.fM.length (kc c.fM rT)/\
  ∀(i:Nat) s bv,c.fM[i]? =some s->rT[i]? =some bv->Ro w 3 bv s.bytes.length (hP s.bytes)
def gh(s:gg)(cv ov:aM):Array aM:=(s.c.cells++[II s.now,cv,II s.last,ov]).toArray
def E8(w:aK)(base:Nat)(s:gg)(sb:Nat)(jf ke:List Nat):Prop:=
 ∃cv ov,w.heap[sb]? =some (.cells (gh s cv ov) 242 (0,0))/\w.ownsRow base 244 1 cv s.fN.length (jf.map fun b=>Pt b)/\
  jf.length=s.fN.length/\ke.length=s.fN.length/\jf.Nodup/\ke.Nodup/\
  ∀(i:Nat) c cb sr,s.fN[i]? =some c->jf[i]? =some cb->ke[i]? =some sr->lf w base c cb sr
structure oS(w:aK)(s:gg)(sb:Nat)(jf:List Nat)(ao:Option Addr)(tj:Nat):Prop where
 cfg:∀j,j<10->w.cell? (Ad sb j)=s.c.cells[j]?
 now:w.cell? (Ad sb 10)=some (II s.now)
 cv:w.cell? (Ad sb 11)=some (.slice ao s.fN.length tj)
 last:w.cell? (Ad sb 12)=some (II s.last)
 len:jf.length=s.fN.length
 row:∀(i:Nat) cb,jf[i]? =some cb->∃g,ao=some (Ad g 0)/\w.cell? (Ad g i)=some (Pt cb)
 iq:∀(i:Nat) c cb,s.fN[i]? =some c->jf[i]? =some cb->∃rv sv,∀j,w.cell? (Ad cb j)=(gn c rv sv)[j]?
theorem E8.view(h:E8 w base s a m v):∃c d,oS w s a m c d:=by
 obtain⟨A,C,b,e,p,B,_,_,l⟩:=h;obtain⟨c,d,rfl⟩:=gB e;refine⟨c,d,⟨fun t o=>?_,?_,?_,?_,p,fun i cb hi=>?_,fun i f cb hi j=>?_⟩⟩
 ·simp only[aD,b,gh,List.getElem?_toArray];rw[aZ (by simpa[g_.cells] using o)];rfl
 ·simp[aD,b,gh,g_.cells]
 ·simp[aD,b,gh,g_.cells]
 ·simp[aD,b,gh,g_.cells]
 ·have q:=(bo.1 hi).1;obtain⟨k,z,g,_,_,_⟩:=iC e (by omega);simp only[Value.slice.injEq]at g;obtain⟨rfl,_,rfl⟩:=g;refine⟨k,rfl,?_⟩;rw[e.cellAt i (by omega),List.getElem?_map,hi];rfl
 ·have q:=(bo.1 j).1;obtain⟨u,x,y,n,_⟩:=l i f cb (v[i]'(by omega)) hi j (ap (by omega));exact⟨u,ai (some (Ad (v[i]'(by omega)) 0)) f.fM.length x,fun t=>by simp[aD,n]⟩
def ld(jf:List Nat):Option Nat->aM
 |none=>ag none
 |some k=>ag (some ⟨jf.getD k 0,0,none⟩)
theorem jY(g:Int)(u:oS b p a m R d)(I:p.fN.length<=1000):
  aL ab 158 #[Pt a,II g] b fun B C=>B=.returned (ld m (ja p.fN g))/\b=C:=by
 have q:=fK u;have D:=u.cv;clear u;go_enter func158,ntmps158;go_wp2;go_loop [5] (fun i=>∃c:Nat,c<=p.fN.length/\i=II c/\Hid (∀(e:Nat) f,e<c->p.fN[e]? =some f->(f.fZ==g)=false)) (fun i=>p.fN.length-(aQ i).toNat);case atStart=>exact⟨0,be _,rfl,fun e f h=>by omega⟩
 case round=>
  obtain⟨c,H,rfl,t⟩:=hrel;by_cases l:c<p.fN.length
  ·obtain⟨f,j⟩:∃f,p.fN[c]? =some f:=⟨_,ap l⟩;obtain⟨cb,k⟩:∃cb,m[c]? =some cb:=⟨_,ap (by rw[q.out.len];exact l)⟩;obtain⟨E,rfl,J⟩:=q.out.row c cb k;obtain⟨K,L,y⟩:=q.out.iq c f cb j k;have s:=y 0;simp only[gn]at s;have G:CI b cb 0 f.fZ:=s;clear s y;have n:=fK j;have z:=fK k;clear j k;cases x:(f.fZ==g)
   ·go_wp2;go_round;case rel=>
     refine⟨c+1,by omega,by go_num,fun e A h w=>?_⟩;rcases ay e c with v|v
     ·exact t.out e A v w
     ·obtain rfl:e=c:=by omega
      obtain rfl:=Option.some.inj (n.out.symm.trans w);exact x
    case measure=>simp[aQ];omega
   ·have o:Hid (ja p.fN g=some c):=by
     show _=_;unfold ja;rw[List.findIdx?_eq_some_iff_getElem];refine⟨l,?_,fun e h=>?_⟩
     ·rw[ap l]at n;rw[Option.some.inj n.out];exact x
     ·simp[t.out e _ h (ap (by omega))]
    go_wp2;go_ret;refine⟨?_,rfl⟩;rw[o.out];simp only[ld,bR,z.out,Option.getD_some];rfl
  ·obtain rfl:c=p.fN.length:=by omega
   have o:Hid (ja p.fN g=none):=by show _=_;unfold ja;rw[List.findIdx?_eq_none_iff];intro f j;obtain⟨e,h,rfl⟩:=List.getElem_of_mem j;exact t.out e _ h (ap h)
   go_wp2;go_ret;refine⟨?_,rfl⟩;rw[o.out];rfl
theorem oS.drewN(h:oS w s a m R d)(n:Nat):oS (w.drewN n) s a m R d:=⟨h.cfg,h.now,h.cv,h.last,h.len,h.row,h.iq⟩
theorem qR(e:oS b p a m R d)(h:0<=p.c.c1/\p.c.c1<=4096)(j:0<=p.c.c3/\p.c.c3<=8):
  aL ab 161 #[Pt a] b fun g l=>g=.returned (II (iT p.c))/\∃k,l=b.drewN k:=by
 have c1:CI b a 1 p.c.c1:=e.cfg 1 (by decide);have t:CI b a 3 p.c.c3:=e.cfg 3 (by decide);clear e;have f:Hid (iT p.c=64+p.c.c1+32*p.c.c3):=rfl;generalize p.c.c1=u at *
 generalize p.c.c3=v at *
 obtain⟨n,q⟩:=h;obtain⟨o,s⟩:=j;go_enter func161,ntmps161;go_wp2;go_quiet (fail);go_wp2;go_ret;exact⟨by rw[f.out];rfl,_,rfl⟩
theorem oy(j:oS b p a m R d)(g:0<=p.c.c1/\p.c.c1<=4096)(n:0<=p.c.c3/\p.c.c3<=8)(x:p.fN.length<=1000):
  aL ab 121 #[Pt a] b fun h k=>h=.returned (II (ls p))/\∃e,k=b.drewN e:=by
 have w:=j.cv;have t:=fK j;clear j;have u:0<=iT p.c/\iT p.c<=5000:=by unfold iT;omega
 have q:Hid (ls p=p.fN.length*iT p.c):=rfl;have s:Hid (∀f,(∃e,f=b.drewN e)->aL ab 161 #[Pt a] f fun h k=>h=.returned (II (iT p.c))/\∃e,k=f.drewN e):=by rintro f ⟨e,rfl⟩;exact qR (t.out.drewN e) g n
 generalize iT p.c=l at *
 clear g n;obtain⟨o,v⟩:=u;have y:0<=(p.fN.length:Int)*l/\(p.fN.length:Int)*l<=5000000:=by
  have g:(p.fN.length:Int)<=1000:=by omega
  constructor
  ·exact Int.mul_nonneg (by omega) o
  ·calc (p.fN.length:Int)*l<=1000*5000:=Int.mul_le_mul g v o (by omega)
    _<=5000000:=by decide
 go_enter func121,ntmps121;go_wp2;go_quiet ((go_at_call 161;exact Calls.quiet_of (s.out _ ⟨_,rfl⟩)));go_wp2;go_ret;exact⟨by rw[q.out];rfl,_,rfl⟩
theorem JU(b:List fV)(a:fV):oX (b++[a])=oX b+if a.fY then 0 else 1:=by unfold oX;grind
theorem pA{α:Type}{x2:List α}{x0:α}(b:x2[a]? =some x0):x2.take (a+1)=x2.take a++[x0]:=by rw[cd,b];rfl
theorem qm{e:gg}(o:oS b e a m R d)(C:e.fN.length<=1000):
  aL ab 186 #[Pt a] b fun v x=>v=.returned (II (oX e.fN))/\b=x:=by
 have h:=fK o;have y:=o.cv;clear o;go_enter func186,ntmps186;go_wp2;go_loop [3,4] (fun w i=>∃c:Nat,c<=e.fN.length/\i=II c/\w=II (oX (e.fN.take c))) (fun _ i=>e.fN.length-(aQ i).toNat);case atStart=>exact⟨0,be _,rfl,rfl⟩
 case round=>
  obtain⟨c,B,rfl,rfl⟩:=hrel;have u:0<=oX (e.fN.take c)/\oX (e.fN.take c)<=1000:=by unfold oX;have A:=List.countP_le_length (p:=fun f:fV=>!f.fY) (l:=e.fN.take c);have j:(e.fN.take c).length<=c:=bU _ _;omega
  by_cases s:c<e.fN.length
  ·obtain⟨f,k⟩:∃f,e.fN[c]? =some f:=⟨_,ap s⟩;obtain⟨cb,n⟩:∃cb,m[c]? =some cb:=⟨_,ap (by rw[h.out.len];exact s)⟩;obtain⟨z,rfl,D⟩:=h.out.row c cb n;obtain⟨H,I,q⟩:=h.out.iq c f cb k n;have j:CV b cb 2 (.bool f.fY):=q 2;have g:Hid (oX (e.fN.take (c+1))=oX (e.fN.take c)+if f.fY then 0 else 1):=by show _=_;rw[pA k,JU]
   clear q k n;generalize oX (e.fN.take c)=J at g u⊢;obtain⟨E,G⟩:=u;cases t:f.fY
   ·rw[t]at j g;go_wp2;go_round;case rel=>exact⟨c+1,by omega,by go_num,by rw[g.out];rfl⟩
    case measure=>simp[aQ];omega
   ·rw[t]at j g;go_wp2;go_round;case rel=>exact⟨c+1,by omega,by go_num,by rw[g.out];simp⟩
    case measure=>simp[aQ];omega
  ·obtain rfl:c=e.fN.length:=by omega
   go_wp2;go_ret;exact⟨rfl,rfl⟩
theorem iQ:∀(ss:List gs) (rT:List aM) (i:Nat) (s:gs) (bv:aM),ss[i]? =some s->rT[i]? =some bv->∀j,j<7->(kc ss rT)[i*7+j]? =(s.cells bv)[j]?
 |[],_,i,s,bv,h,_,_,_=>by simp at h
 |s0::r,[],i,s,bv,_,h,_,_=>by simp at h
 |s0::r,b0::rT,0,s,bv,h,hb,j,hj=>by simp only[ce,Option.some.injEq]at h hb;subst h hb;simp only[kc];rw[aZ (by simp[gs.cells];omega)];simp
 |s0::r,b0::rT,i+1,s,bv,h,hb,j,hj=>by simp only[cf]at h hb;have hl:(s0.cells b0).length=7:=rfl;simp only[kc];rw[bN (by omega),hl,show(i+1)*7+j-7=i*7+j from by omega];exact iQ r rT i s bv h hb j hj
structure xo(w:aK)(c:fV)(cb sr xf:Nat)(rv:aM)(rT:List aM):Prop where
 cell:∀j,w.cell? (Ad cb j)=(gn c rv (ai (some (Ad sr 0)) c.fM.length xf))[j]?
 len:rT.length=c.fM.length
 str:∀(i:Nat) s bv,c.fM[i]? =some s->rT[i]? =some bv->∀j,j<7->w.cell? (Ad sr (i*7+j))=(s.cells bv)[j]?
 runs:Ro w 294 rv c.runs.length (gT c.runs)
 bytes:∀(i:Nat) s bv,c.fM[i]? =some s->rT[i]? =some bv->Ro w 3 bv s.bytes.length (hP s.bytes)
theorem lf.view{cb sr:Nat}(h:lf w base j cb sr):∃d c a,xo w j cb sr d c a:=by obtain⟨c,d,a,l,p,n,o,g⟩:=h;refine⟨d,c,a,⟨fun b=>by simp[aD,l],n,fun i q f e k b m=>?_,p,g⟩⟩;have s:=(bo.1 e).1;rw[o.cellAt (i*7+b) (by omega)];exact iQ _ _ i q f e k b m
theorem FQ(a:List gs)(b:gs):im (a++[b])=im a+b.fW:=by simp[im]
theorem pR{y0:List gs}(b:∀a∈y0,0<=a.fW/\a.fW<=c):0<=im y0/\im y0<=y0.length*c:=by
 induction y0 with
 |nil=>simp[im]
 |cons a r f=>have h:=b a (by simp);have d:=f (fun g e=>b g (by simp[e]));simp only[im,List.map_cons,List.sum_cons,List.length_cons]at d⊢;rw[show((r.length+1:Nat):Int)*c=r.length*c+c from by grind];omega
theorem rF{cb:Nat}(sr u:Nat)(x:aM)(m:List aM)(g:xo b j cb sr u x m)(D:j.fM.length<=1073741823)(o:∀c∈j.fM,0<=c.fW/\c.fW<=2147483647):
  aL ab 206 #[Pt cb] b fun v y=>v=.returned (II (im j.fM))/\b=y:=by
 have z:CV b cb 9 (ai (some (Ad sr 0)) j.fM.length u):=g.cell 9;have k:=fK g;have h:=fK o;clear g o;go_enter func206,ntmps206;go_wp2;go_loop [3,4] (fun w i=>∃a:Nat,a<=j.fM.length/\i=II a/\w=II (im (j.fM.take a))) (fun _ i=>j.fM.length-(aQ i).toNat);case atStart=>exact⟨0,be _,rfl,rfl⟩
 case round=>
  obtain⟨a,C,rfl,rfl⟩:=hrel;have s:0<=im (j.fM.take a)/\im (j.fM.take a)<=2305843009213693952:=by have A:=pR (y0:=j.fM.take a) (c:=2147483647) (fun c d=>h.out c (ck d));have n:(j.fM.take a).length<=a:=bU _ _;omega
  by_cases q:a<j.fM.length
  ·obtain⟨c,d⟩:∃c,j.fM[a]? =some c:=⟨_,ap q⟩;obtain⟨f,p⟩:∃f,m[a]? =some f:=⟨_,ap (by rw[k.out.len];exact q)⟩;have n:CI b sr (a*7+2) c.fW:=k.out.str a c f d p 2 (by decide);have t:=h.out c (bS d);have e:Hid (im (j.fM.take (a+1))=im (j.fM.take a)+c.fW):=by show _=_;rw[pA d,FQ]
   clear d p;generalize im (j.fM.take a)=J at e s⊢;generalize c.fW=K at e t n;obtain⟨E,G⟩:=s;obtain⟨H,I⟩:=t;go_wp2;go_round;case rel=>exact⟨a+1,by omega,by go_num,by rw[e.out]⟩
   case measure=>simp[aQ];omega
  ·obtain rfl:a=j.fM.length:=by omega
   go_wp2;go_ret;exact⟨rfl,rfl⟩
theorem Lc{b:List Int}{k:Nat}(h:k<=b.length)(e:∀(c:Nat) a,c<k->b[c]? =some a->0<=a)(j:∀a,b[k]? =some a->a<0):iX b=k:=by
 unfold iX;induction b generalizing k with
 |nil=>simp_all
 |cons f r l=>
  cases k with
  |zero=>simp_all
  |succ k=>have g:=e 0 f (by omega) (by simp);simp only[List.takeWhile,g,decide_true,List.length_cons];rw[l (k:=k) (by simpa using h) (fun c a m d=>e (c+1) a (by omega) (by simpa using d)) (fun a d=>j a (by simpa using d))]
theorem Lw(o:∀f,f<7->b.cell? (Ad a (d+f))=(N.cells e)[f]?)(C:Ro b 3 e N.bytes.length (hP N.bytes))(P:N.bytes.length<=1073741823)(G:0<=N.read/\N.read<=2147483647):
  aL ab 208 #[ag (some (Ad a d))] b fun A J=>A=.returned (.bool (wX N))/\∃n,J=b.drewN n:=by
 have S:CV b a d e:=o 0 (by decide);have T:CI b a (d+1) N.read:=o 1 (by decide);have U:CI b a (d+4) N.final:=o 4 (by decide);obtain⟨K,cap,rfl,w,_⟩:=C;have y:=fK w;clear w o;obtain⟨Q,R⟩:=G;go_enter func208,ntmps208;go_wp2;go_loop [3] (fun n=>∃c:Nat,c<=N.bytes.length/\n=II c/\Hid (∀(f:Nat) g,f<c->N.bytes[f]? =some g->0<=g)) (fun n=>N.bytes.length-(aQ n).toNat);case atStart=>exact⟨0,be _,rfl,fun f g D=>by omega⟩
 case round=>
  obtain⟨c,E,rfl,x⟩:=hrel;have fin:Hid ((∀g,N.bytes[c]? =some g->g<0)->wX N=(decide (0<=N.final)&&decide (N.final<=N.read+c))):=by intro B;unfold wX;rw[Lc E x.out B]
  by_cases v:c<N.bytes.length
  ·obtain⟨g,p⟩:∃g,N.bytes[c]? =some g:=⟨_,ap v⟩;obtain⟨z,I,L,M,rfl,u,t⟩:=y.out (by omega);have O:b.cell? (Ad z (I+c))=some (II g):=by have:=t c (by simpa[hP] using v);simp only[hP,List.getElem?_map,p,cp]at this;simp[aD,u,this]
   clear t u;by_cases H:0<=g
   ·go_wp2;go_round;case rel=>
     refine⟨c+1,by omega,by go_num,fun f q D h=>?_⟩;rcases ay f c with s|s
     ·exact x.out f q s h
     ·obtain rfl:f=c:=by omega
      rw[p]at h;obtain rfl:=Option.some.inj h;exact H
    case measure=>simp[aQ];omega
   ·have m:=fin.out (fun q h=>by rw[p]at h;obtain rfl:=Option.some.inj h;omega);have k:=fK m;clear m fin p;by_cases l:0<=N.final
    ·have j:decide (0<=N.final)=true:=by simpa using l
     go_wp2;go_quiet (fail);go_wp2;go_ret;exact⟨by rw[k.out,j];simp,_,rfl⟩
    ·have j:decide (0<=N.final)=false:=by simpa using l
     go_wp2;go_quiet (fail);go_wp2;go_ret;exact⟨by rw[k.out,j];simp,_,rfl⟩
  ·obtain rfl:c=N.bytes.length:=by omega
   have m:=fin.out (fun q h=>by simp at h);have k:=fK m;clear m fin;by_cases l:0<=N.final
   ·have j:decide (0<=N.final)=true:=by simpa using l
    go_wp2;go_quiet (fail);go_wp2;go_ret;exact⟨by rw[k.out,j];simp,_,rfl⟩
   ·have j:decide (0<=N.final)=false:=by simpa using l
    go_wp2;go_quiet (fail);go_wp2;go_ret;exact⟨by rw[k.out,j];simp,_,rfl⟩
theorem sz:(jl k a).length=max k.length (a+1):=by unfold jl;rw[bL,List.length_replicate];omega
theorem zT(b:qp k a c=some z2):z2.length=max k.length (a+1):=by
 unfold qp at b;split at b
 ·simp at b
 ·obtain rfl:=Option.some.inj b;rw[bT,sz]
theorem sH{l:List Int}{d:Int}{b:List Int}{k:Nat}(h:jT l d b k=none):∀c,k<=c->jT l d b c=none
 |0,hc=>by
  obtain rfl:k=0:=by omega
  exact h
 |c+1,hc=>by
  rcases ay c k with h1|h1
  ·obtain rfl:k=c+1:=by omega
   exact h
  ·simp[jT,sH h c h1]
theorem tC{l:List Int}{d:Int}{b:List Int}:∀{k:Nat} {m:List Int},jT l d b k=some m->l.length<=m.length/\(m.length:Int)<=max (l.length:Int) (d+k)
 |0,m,h=>by obtain rfl:=Option.some.inj h;omega
 |k+1,m,h=>by
  simp only[jT,cg]at h;obtain⟨m0,h0,h1⟩:=h;have ih:=tC h0;split at h1
  ·obtain rfl:=Option.some.inj h1;omega
  ·have:=zT h1;omega
theorem vg(l:List Int):∀k:Nat,0<=jP l k/\jP l k<=k
 |0=>by simp[jP]
 |k+1=>by have:=vg l k;simp only[jP];split<;>omega
theorem rM(a:List Int):(hP a).length=a.length:=by simp[hP]
theorem wZ(a b:List Int):hP (a++b)=hP a++hP b:=by simp[hP]
theorem BV:∀b∈hP k,b.oneCell'=true:=by intro b a;simp only[hP,List.mem_map]at a;obtain⟨c,_,rfl⟩:=a;rfl
theorem uO(a:List Int)(b:Nat)(c:Int):hP (a.set b c)=(hP a).set b (II c):=by simp[hP,List.map_set]
theorem rr(b:a<k.length):(hP k)[a]? =some (II (k.getD a (-1))):=by simp[hP,bR,ap b]
theorem wj{y5:Program}{x8:Array Oper}{rest:List Oper}{y2:Oper}{y1:Act}{z1:Exit->Act->aK->Prop}(y:y2.guard=none)(l p:Operand)
  (C:y2.op=.call {callee:=.builtin .append,args:=#[l,p],argTypes:=#[z,z]})
  {a:Nat} {y8:bG} (i:TypeInfo) {e:aM} {d f:Nat} (E:y5.underlying z=some (.slice y8)) (hi:y5.info? y8=some i) (X:i.zero=some e)
  (U:i.size=d) (P:i.bytes=f) (Y:e.cells.size=d) (W:0<d)
  {h:aM} {n:Nat} {o:List aM} (D:y1.eval l=h) (u:b.ownsRow a y8 d h n o)
  {q:aM} {A:Nat} {news:List aM} (c:y1.eval p=q) (V:Ro b y8 q A news) (B:news.length=A*d) (s:∀I∈news,I.oneCell'=true)
  (L:n+A<=aO) (Q:(n+A)*f<=140737488355328) (O:a<=b.heap.size)
  (x:∀m g,g.ownsRow a y8 d m (n+A) (o++news)->b.grownBy g h.ownBlock->wpList y5 x8 z1 rest (y1.put y2.dst m) g):wpList y5 x8 z1 (y2::rest) y1 b:=by
 obtain⟨K,cap,rfl,j,k⟩:=V;match K,k,c,j with
 |none,k,c,j=>
  obtain rfl:A=0:=by grind
  obtain rfl:=k.1 rfl;obtain rfl:news=[]:=List.length_eq_zero_iff.1 (by simpa using B);refine wpList_append_own_none y l p z C a y8 i d E hi h n o D u c (x h b (by simpa using u) (mf (Below.refl _ _)))
 |some J,k,c,j=>
  refine aN b y l p z C a y8 i e d f E hi X U P Y W h n o D u J A cap news c B (fun v I G=>?_) s L Q O (fun m g s t _=>x m g s t);have S:=(bo.1 G).1;have T:0<A:=by grind
  obtain⟨w,H,Z,a0,t,N,R⟩:=j T;obtain rfl:=Option.some.inj t;have:=R v S;rw[G]at this;have M:((Ad w H):Addr).add v=(Ad w (H+v)):=by unfold Addr.add;grind
  rw[M];simp[aD,N,this]
def oB:aM->Nat
 |.slice _ n _=>n
 |_=>0
def Bt(w:aK)(b o:Nat)(r:Int×gs)(e:Ending)(w':aK):Prop:=
 e=.returned (II r.1)/\if r.1=0 then ∃w1 v',Bw w w1/\w1.ownsRow w.heap.size 3 1 v' r.2.bytes.length (hP r.2.bytes)/\w'=w1.setCell (Ad b o) v' else Bw w w'
theorem ve{W u x:Int}(M:CI b a 4 c)(a2:∀m,m<7->b.cell? (Ad d (f+m))=(N.cells h)[m]?)(c2:Ro b 3 h N.bytes.length (hP N.bytes))
  (a4:je b e k) (f7:mc b d f) (i2:N.bytes.length<=1073741823) (i5:0<=N.read/\N.read<=2147483647) (i3:0<=u/\u<=2147483647) (h6:k.length<=1073741823):
  aL ab 207 #[Pt a,ag (some (Ad d f)),.agg #[II g,II W,II u,II x,e]] b fun C g8=>Bt b d f (ij c N u k) C g8:=by
 obtain⟨d9,hi,d6,d7,d8⟩:=aP qH;have e1:CV b d f h:=a2 0 (by decide);have g7:CI b d (f+1) N.read:=a2 1 (by decide);have f5:d<b.heap.size:=hK e1;have i6:a<b.heap.size:=hK M;have e9:=fK c2;have e6:=fK a4;obtain⟨T,S,rfl⟩:=a4.form;clear a2 c2 a4;go_enter func207,ntmps207;go_wp2_with (at_builtin;refine wj rfl _ _ (z:=38) rfl (a:=b.heap.size+1) (y8:=3) d9 (e:=II 0) (d:=1) (f:=8) underlying38 hi d6 d7 d8 rfl (by decide) (h:=ai none 0 0) (n:=0) (o:=[]) rfl (ak _ _ _ _) (q:=h) (A:=N.bytes.length) (news:=hP N.bytes) rfl (e9.out.below (fO b _)) (by simp[hP]) (BV) (by unfold aO;omega) (by omega) (by simp) ?_;intro j2 e3 a8 a5;refine Hid.out ?_);refine fK ?_;simp only[Nat.zero_add,List.nil_append]at a8;have b8:Bw b e3:=(fO b _).grown a5 (by simp) (fun I M=>by simp[aq]at M);have c3:e3.heap[b.heap.size]? =some (.cells #[II g,II W,II u,II x,.slice T k.length S] 296):=by rw[a5.block _ (by simp) (by simp[aq])];exact cA b _
 have e8:=fK a8;have e5:=fK b8;have e7:=fK c3;clear a8 a5 b8 c3;go_wp2_with fail;go_loopw [7,8] (fun V i wr=>∃(p:Nat) (j:List Int),p<=k.length/\i=II p/\jT N.bytes (u-N.read) k p=some j/\wr.ownsRow (b.heap.size+1) 3 1 V j.length (hP j)/\wr.heap[b.heap.size]? =some (.cells #[II g,II W,II u,II x,.slice T k.length S] 296)/\Bw b wr) (fun _ i _=>k.length-(aQ i).toNat);case atStart=>exact⟨0,N.bytes,be _,rfl,rfl,e8.out,e7.out,e5.out⟩
 case round=>
  obtain⟨p,j,h8,rfl,b0,D,y,A⟩:=hrel;have a7:=tC b0;have e2:=fL g7 A;have b7:io wr b 2 u:=by simp[aD,y]
  have a0:lq wr b 4 (.slice T k.length S):=by simp[aD,y]
  have P:=fK b0;have B:=fK D;have G:=fK y;have q:=fK A;clear b0 D y A;by_cases Y:p<k.length
  ·by_cases g3:u+p-N.read<0
   ·go_wp2_with fail;go_quiet (fail);go_wp2_with fail;go_roundw;case rel=>
     refine⟨p+1,j,by omega,by go_num,?_,B.out,G.out,fQ q.out _⟩;have a1:u-N.read+(p:Int)<0:=by omega
     simp[jT,P.out,a1]
    case measure=>simp[aQ];omega
   ·obtain⟨o,d1⟩:∃o:Nat,u+(p:Int)-N.read=o:=⟨(u+(p:Int)-N.read).toNat,by omega⟩;go_wp2_with fail;go_quiet (fail);go_wp2_with fail;have i4:(o:Int)<=4294967296:=by omega
    have O:Hid (jT N.bytes (u-N.read) k (p+1)=qp j o (k.getD p 0)):=by
     have a1:¬u-N.read+(p:Int)<0:=by omega
     have f4:(u-N.read+(p:Int)).toNat=o:=by omega
     show _=_;simp[jT,P.out,a1,f4]
    have h9:j.length<=4294967296:=by omega
    clear g3 e2 b7 a0 a7 P;have h0:=fK d1;clear d1;go_loopw [7] (fun V wr=>∃m:Nat,m<=o+1-j.length/\wr.ownsRow (b.heap.size+1) 3 1 V (j.length+m) (hP (j++aT m (-1)))/\wr.heap[b.heap.size]? =some (.cells #[II g,II W,II u,II x,.slice T k.length S] 296)/\Bw b wr) (fun V _=>o+1-oB V);case atStart=>refine⟨0,be _,?_,G.out,fQ q.out _⟩;rw[List.replicate_zero,List.append_nil];exact B.out
    case round=>
     clear B G q;obtain⟨m,g1,D,y,A⟩:=hrel;obtain⟨b3,b4,rfl⟩:=gB D;have b1:=A.size;have c6:=(bn.1 y).1;by_cases i1:j.length+m<=o
     ·have G:=fK y;have q:=fK A;clear y A;go_wp2_with (at_builtin;refine aN _ rfl _ _ 38 rfl (b.heap.size+1) 3 d9 (II 0) 1 8 underlying38 hi d6 d7 d8 rfl (by decide) (.slice b3 (j.length+m) b4) (j.length+m) (hP (j++aT m (-1))) rfl (D.alloc _) (gf wr 0) 1 1 [II (-1)] rfl rfl (gY (b:=wr) (z:=3) (o:=[II (-1)]) (by simp[aO])) (by simp[bM]) (by unfold aO;omega) (by omega) (by have:=q.out.size;simp;omega) ?_;intro j1 j3 d0 g0 _);go_roundw;case rel=>
       have c9:=ga g0;refine⟨m+1,by omega,?_,?_,?_⟩
       ·rw[b_,<-List.append_assoc,wZ];exact d0
       ·rw[c9.block _ (by omega) (fun C=>by have:=(D.lt _ C.symm).1;omega)];exact G.out
       ·exact q.out.grown c9 b1 (fun I M=>by have:=(D.lt I M).1;omega)
      case measure=>obtain⟨i9,e0,rfl⟩:=gB d0;simp[oB];omega
     ·obtain rfl:m=o+1-j.length:=by omega
      have c7:=sz (k:=j) (a:=o);have J:wr.ownsRow (b.heap.size+1) 3 1 (.slice b3 (jl j o).length b4) (jl j o).length (hP (jl j o)):=by rw[c7,show max j.length (o+1)=j.length+(o+1-j.length) from by omega];exact D
      have b9:j.length+(o+1-j.length)=(jl j o).length:=by omega
      rw[b9];clear D b9;have H:Hid (qp j o (k.getD p 0)=if decide (0<=(jl j o).getD o (-1))&&decide ((jl j o).getD o (-1)≠k.getD p 0) then none else some ((jl j o).set o (k.getD p 0))):=rfl;have d2:o<(jl j o).length:=by omega
      have a3:(hP (jl j o))[o]? =some (II ((jl j o).getD o (-1))):=rr d2;generalize jl j o=I at J H d2 a3 c7⊢;obtain⟨X,e0,R,f8,f9,_⟩:=iC J (by omega);simp only[Value.slice.injEq]at R;obtain⟨rfl,_,rfl⟩:=R;have f2:wr.cell? (Ad X o)=some (II (I.getD o (-1))):=by rw[J.cellAt o (by omega)];exact a3
      have h4:=J.frozenAt o;have a0:lq wr b 4 (.slice T k.length S):=by simp[aD,y]
      obtain⟨c4,_,⟨g4,_⟩|⟨_,h1,h3,h2,b6,_,c5⟩⟩:=e6.out
      ·rw[g4]at Y;simp at Y
      ·simp only[Value.slice.injEq]at b6;obtain⟨rfl,_,rfl⟩:=b6;have f3:=fL (c5 p Y) A;have d3:0<=k.getD p 0/\k.getD p 0<256:=c4 _ (by simp[bR,ap Y]);have B:=fK J;have b5:=fK (fun z=>J.stored o (II z));have G:=fK y;have q:=fK A;clear J y A c4 c5 a3;generalize k.getD p 0=z at f3 d3 H O;generalize U:I.getD o (-1)=w at f2 H;clear U;obtain⟨i7,i8⟩:=d3;rcases bO w 0 with b2|b2
       ·have s:(decide (0<=w)&&decide (w≠z))=false:=by simp;omega
        have f6:decide (0<=w)=false:=by simpa using b2
        go_wp2_with fail;go_quiet (fail);go_wp2_with fail;go_roundw;case rel=>
         have K:=b5.out z;refine⟨p+1,I.set o z,by omega,by go_num,by rw[O.out,H.out,s];rfl,?_,?_,?_⟩
         ·rw[bT,uO];exact K.1
         ·have:=K.2.block b.heap.size c6 (fun C=>by have:=Option.some.inj C;omega);exact this.trans G.out
         ·have:=q.out.grown K.2 b1 (fun g6 a9=>by have:=Option.some.inj a9;omega);exact⟨this.os,this.tape,this.output,this.size,this.block⟩
        case measure=>simp[aQ];omega
       ·have f6:decide (0<=w)=true:=by simpa using b2
        rcases Int.lt_trichotomy w z with d4|d4|d4
        ·have s:(decide (0<=w)&&decide (w≠z))=true:=by simp;omega
         go_wp2_with fail;go_quiet (fail);go_wp2_with fail;go_ret;have E:ij c N u k=(9,N):=by unfold ij;rw[sH (k:=p+1) (by rw[O.out,H.out,s];rfl) k.length (by omega)]
         rw[E];exact⟨rfl,by simpa using fQ q.out _⟩
        ·have s:(decide (0<=w)&&decide (w≠z))=false:=by simp;omega
         go_wp2_with fail;go_quiet (fail);go_wp2_with fail;go_roundw;case rel=>
          have K:=b5.out z;refine⟨p+1,I.set o z,by omega,by go_num,by rw[O.out,H.out,s];rfl,?_,?_,?_⟩
          ·rw[bT,uO];exact K.1
          ·have:=K.2.block b.heap.size c6 (fun C=>by have:=Option.some.inj C;omega);exact this.trans G.out
          ·have:=q.out.grown K.2 b1 (fun g6 a9=>by have:=Option.some.inj a9;omega);exact⟨this.os,this.tape,this.output,this.size,this.block⟩
         case measure=>simp[aQ];omega
        ·have s:(decide (0<=w)&&decide (w≠z))=true:=by simp;omega
         go_wp2_with fail;go_quiet (fail);go_wp2_with fail;go_ret;have E:ij c N u k=(9,N):=by unfold ij;rw[sH (k:=p+1) (by rw[O.out,H.out,s];rfl) k.length (by omega)]
         rw[E];exact⟨rfl,by simpa using fQ q.out _⟩
  ·obtain rfl:p=k.length:=by omega
   go_wp2_with fail;obtain⟨b3,b4,rfl⟩:=gB B.out;have i0:j.length<=4294967296:=by omega
   have g9:=fK a7;clear a7 e2 b7 a0;go_loop [10,11] (fun r i=>∃m:Nat,m<=j.length/\i=II m/\r=II (jP j m)) (fun _ i=>j.length-(aQ i).toNat);case atStart=>exact⟨0,be _,rfl,rfl⟩
   case round=>
    obtain⟨m,g1,rfl,rfl⟩:=hrel;have g5:=vg j m;by_cases g2:m<j.length
    ·obtain⟨X,e0,R,f8,f9,_⟩:=iC B.out (by omega);simp only[Value.slice.injEq]at R;obtain⟨rfl,_,rfl⟩:=R;have f0:wr.cell? (Ad X m)=some (II (j.getD m (-1))):=by rw[B.out.cellAt m (by omega)];exact rr g2
     have Q:Hid (jP j (m+1)=jP j m+if mV j m then 1 else 0):=rfl;have L:Hid (mV j m=(decide (0<=j.getD m (-1))&&(decide (m=0) || decide (j.getD (m-1) (-1)<0)))):=rfl;generalize jP j m=r at Q g5⊢;generalize j.getD m (-1)=w at f0 L;by_cases U:0<=w
     ·by_cases a6:m=0
      ·have s:mV j m=true:=by rw[L.out];simp[U,a6]
       subst a6;go_wp2_with fail;go_round;case rel=>exact⟨1,by omega,by go_num,by rw[Q.out,s];simp⟩
       case measure=>simp[aQ];omega
      ·have f1:wr.cell? (Ad X (m-1))=some (II (j.getD (m-1) (-1))):=by rw[B.out.cellAt (m-1) (by omega)];exact rr (by omega)
       generalize j.getD (m-1) (-1)=e4 at f1 L;by_cases d5:e4<0
       ·have s:mV j m=true:=by rw[L.out];simp[U,d5]
        go_wp2_with fail;go_round;case rel=>exact⟨m+1,by omega,by go_num,by rw[Q.out,s];simp⟩
        case measure=>simp[aQ];omega
       ·have s:mV j m=false:=by rw[L.out];simp[a6,d5]
        go_wp2_with fail;go_round;case rel=>exact⟨m+1,by omega,by go_num,by rw[Q.out,s];simp⟩
        case measure=>simp[aQ];omega
     ·have s:mV j m=false:=by rw[L.out];simp[U]
      go_wp2_with fail;go_round;case rel=>exact⟨m+1,by omega,by go_num,by rw[Q.out,s];simp⟩
      case measure=>simp[aQ];omega
    ·obtain rfl:m=j.length:=by omega
     have h7:=fL M q.out;have j0:=fL e1 q.out;have h5:wr.frozen? (Ad d f)=false:=by rw[<-f7];simp only[World.frozen?];rw[q.out.block d f5]
     by_cases c8:c<jP j j.length
     ·have E:ij c N u k=(8,N):=by unfold ij;rw[P.out];simp[c8]
      have Z:=fK E;clear E;go_wp2_with fail;go_ret;rw[Z.out];exact⟨rfl,by simpa using q.out⟩
     ·have E:ij c N u k=(0,{N with bytes:=j}):=by unfold ij;rw[P.out];simp[c8]
      have Z:=fK E;clear E;go_wp2_with fail;go_ret;rw[Z.out];refine⟨rfl,?_⟩;rw[if_pos rfl];exact⟨_,_,q.out,gq B.out (by omega),rfl⟩
theorem tE:∀{b a:List Int},gG b->gG a->strOfNums b=strOfNums a->b=a:=by
 intro b a h j g;have c:b.map (fun e=>UInt8.ofNat e.toNat)=a.map (fun e=>UInt8.ofNat e.toNat):=by have:=congrArg (fun m=>m.data.toList) g;simpa[strOfNums_data] using this
 clear g;induction b generalizing a with
 |nil=>simp_all
 |cons n s l=>cases a with
  |nil=>simp at c
  |cons o r=>simp only[List.map_cons,List.cons.injEq]at c;have p:=h n (by simp);have q:=j o (by simp);have k:=congrArg UInt8.toNat c.1;simp only[UInt8.toNat_ofNat']at k;rw[l (fun f d=>h f (by simp[d])) (fun f d=>j f (by simp[d])) c.2];grind
theorem oW(e:0<=g)(f:g<256):gG (jg c g l):=by
 intro b d;rcases bX.1 d with a|a
 ·rcases List.mem_cons.1 a with rfl|a
  ·omega
  ·exact kp b a
 ·exact kp b a
theorem vT{s:g_}(d:∀D,D<10->b.cell? (Ad a D)=s.cells[D]?)(T:CI b a 10 c)(w:je b e k)(v:0<=g/\g<256)(O:0<=s.c9/\s.c9<4294967296):
  aL ab 185 #[Pt a,II g,e] b fun m b3=>m=.returned (.bool (nF s c g k))/\Bw b b3:=by
 have U:CI b a 0 s.c0:=d 0 (by decide);have V:CI b a 1 s.c1:=d 1 (by decide);have W:CI b a 2 s.c2:=d 2 (by decide);have X:CI b a 3 s.c3:=d 3 (by decide);have Y:CI b a 4 s.c4:=d 4 (by decide);have Z:CI b a 5 s.c5:=d 5 (by decide);have a0:CI b a 6 s.c6:=d 6 (by decide);have a1:CI b a 7 s.c7:=d 7 (by decide);have a2:CI b a 8 s.c8:=d 8 (by decide);have a3:CI b a 9 s.c9:=d 9 (by decide);clear d;obtain⟨b7,a9,rfl⟩:=w.form;have Q:=fK w;by_cases n:k.length=9
 ·obtain⟨o,_,⟨rfl,_⟩|⟨_,R,a4,b5,m,_,l⟩⟩:=w
  ·simp at n
  ·simp only[Value.slice.injEq]at m;obtain⟨rfl,_,rfl⟩:=m;have c1:=l 1 (by omega);have K:=l 2 (by omega);have L:=l 3 (by omega);have M:=l 4 (by omega);have a5:0<=k.getD 1 0/\k.getD 1 0<256:=o _ (by simp[bR,ap (show 1<k.length by omega)]);have a6:0<=k.getD 2 0/\k.getD 2 0<256:=o _ (by simp[bR,ap (show 2<k.length by omega)]);have a7:0<=k.getD 3 0/\k.getD 3 0<256:=o _ (by simp[bR,ap (show 3<k.length by omega)]);have a8:0<=k.getD 4 0/\k.getD 4 0<256:=o _ (by simp[bR,ap (show 4<k.length by omega)]);have q:Hid (nF s c g k=(decide (jg s.c9 g (rQ k)=k)&&decide (c<=rQ k))):=by show _=_;simp[nF,n]
   have f:Hid (rQ k=k.getD 1 0+256*k.getD 2 0+65536*k.getD 3 0+16777216*k.getD 4 0):=rfl;rw[n]at Q⊢;have P:=fK l;clear l;generalize k.getD 1 0=E at c1 a5 f;generalize k.getD 2 0=G at K a6 f;generalize k.getD 3 0=H at L a7 f;generalize k.getD 4 0=I at M a8 f;go_enter func185,ntmps185;go_wp2_with fail;go_quiet (fail);go_wp2_with fail;have C:0<=E+256*G+65536*H+16777216*I/\E+256*G+65536*H+16777216*I<4294967296:=by omega
   generalize E+256*G+65536*H+16777216*I=p at C f⊢;refine(uh O.1 O.2 v.1 v.2 C.1 C.2).mono ?_;rintro m J ⟨b8,rfl,A,j⟩;have u:Bw b J:=⟨j.os,j.tape,j.output,j.size,j.block⟩;have b6:=fL T u;obtain⟨S,b2,rfl,_,_,_⟩:=iC A (by decide);have b0:=run_convert_bytes_arg J 44 5 underlying44 underlying5 S 0 9 b2 (jg s.c9 g p) rfl (fun i hi=>by rw[Nat.zero_add,A.cellAt i (by omega)];simp[U8,bR,ap (show i<(jg s.c9 g p).length from hi)]) 9 underlying9;have b1:=run_convert_bytes_arg J 44 5 underlying44 underlying5 R a4 9 a9 k n (fun i hi=>fL (P.out i (by omega)) u) 9 underlying9;have N:nF s c g k=(decide (strOfNums (jg s.c9 g p)=strOfNums k)&&decide (c<=p)):=by rw[q.out,f.out];congr 1;exact decide_eq_decide.2 ⟨fun h=>by rw[h],fun h=>tE (oW v.1 v.2) o h⟩
   have t:=fK N;clear N q A j U V W X Y Z a0 a1 a2 a3 c1 K L M;generalize strOfNums (jg s.c9 g p)=x at b0 t;generalize strOfNums k=y at b1 t;by_cases B:x=y
   ·have z:decide (x=y)=true:=by simpa using B
    go_wp2_with fail;go_ret;exact⟨by rw[t.out,z];rfl,u⟩
   ·have z:decide (x=y)=false:=by simpa using B
    have b4:¬x.toList=y.toList:=fun h=>B (by rw[cu,cu]at h;exact ByteArray.ext (Array.toList_inj.mp h));go_wp2_with fail;go_ret;exact⟨by rw[t.out,z];rfl,u⟩
 ·have q:Hid (nF s c g k=false):=by show _=_;simp[nF,n]
  clear w;go_enter func185,ntmps185;go_wp2_with fail;go_ret;exact⟨by rw[q.out];rfl,Below.refl _ _⟩
theorem xV{n:Int}{rs:List (Int×Int)}{k:Nat}(h:oN n rs k=none):∀c,k<=c->oN n rs c=none
 |0,hc=>by
  obtain rfl:k=0:=by omega
  exact h
 |c+1,hc=>by
  rcases ay c k with h1|h1
  ·obtain rfl:k=c+1:=by omega
   exact h
  ·simp[oN,xV h c h1]
theorem wu{n:Int}{rs:List (Int×Int)}(hr:∀r∈rs,0<=r.1/\r.1<=r.2/\r.2<=1073741823)(hn:0<=n/\n<=1073741823):∀{k:Nat} {st:pE},k<=rs.length->oN n rs k=some st->
  st.all.length<=2*k/\0<=st.lo/\st.lo<=n/\n<=st.hi/\st.hi<=1073741823/\∀r∈st.all,0<=r.1/\r.1<=r.2/\r.2<=1073741823
 |0,st,_,h=>by obtain rfl:=Option.some.inj h;simp;omega
 |k+1,st,hk,h=>by
  simp only[oN,cg]at h;obtain⟨s0,h0,h1⟩:=h;obtain⟨i1,i2,i3,i4,i5,i6⟩:=wu hr hn (by omega) h0;have SR:rs.getD k (0,0)∈rs:=by simp[bR,ap (show k<rs.length by omega)]
  have hb:=hr _ SR;generalize rs.getD k (0,0)=r at hb h1;obtain⟨b1,b2,b3⟩:=hb;unfold iI at h1;split at h1
  ·simp at h1
  ·split at h1
   ·obtain rfl:=Option.some.inj h1;exact⟨by simp;omega,b1,by simp;omega,i4,i5,i6⟩
   ·split at h1
    ·obtain rfl:=Option.some.inj h1;exact⟨by simp;omega,i2,i3,by simp;omega,b3,i6⟩
    ·split at h1
     ·obtain rfl:=Option.some.inj h1;refine⟨by simp;omega,i2,i3,i4,i5,fun x hx=>?_⟩;simp only[bX,bV]at hx;rcases hx with(hx|rfl)|rfl
      ·exact i6 x hx
      ·exact⟨i2,by simp;omega,i5⟩
      ·exact⟨b1,b2,b3⟩
     ·obtain rfl:=Option.some.inj h1;refine⟨by simp;omega,i2,i3,i4,i5,fun x hx=>?_⟩;simp only[bX,bV]at hx;rcases hx with hx|rfl
      ·exact i6 x hx
      ·exact⟨b1,b2,b3⟩
theorem M0{v8:pE}(a:g<=c)(b:c<=l):iI c v8 (g,l)=none:=by simp[iI,a,b]
theorem GW{v8:pE}(a:l=c-1):iI c v8 (g,l)=some {v8 with lo:=g}:=by simp only[iI];grind
theorem GU{v8:pE}(a:g<=l)(b:g=c+1):iI c v8 (g,l)=some {v8 with hi:=l}:=by simp only[iI];grind
theorem GX{v8:pE}(a:g<=l)(b:c+1<g)(d:v8.qc=false):iI c v8 (g,l)=some {v8 with all:=v8.all++[(v8.lo,v8.hi)]++[(g,l)],qc:=true}:=by simp only[iI];grind
theorem GY{v8:pE}(a:g<=l)(b:c+1<g)(d:v8.qc=true):iI c v8 (g,l)=some {v8 with all:=v8.all++[(g,l)]}:=by simp only[iI];grind
theorem JM{v8:pE}(a:g<=l)(b:l<c-1):iI c v8 (g,l)=some {v8 with all:=v8.all++[(g,l)]}:=by simp only[iI];grind
theorem ru(d:aK)(b:Nat)(f:b=d.heap.size)(e:bG)(a:List aM)(g:a.length<=aO):∀(c:Nat) u,a[c]? =some u->(d.alloc (.cells a.toArray e)).cell? (((Ad b 0):Addr).add c)=some u:=by subst f;exact gY g
theorem oG(a:List (Int×Int)):(gT a).length=a.length*2:=by
 induction a with
 |nil=>rfl
 |cons c r b=>simp only[gT,List.flatMap_cons,bL]at b⊢;grind
theorem kR(a b:List (Int×Int)):gT (a++b)=gT a++gT b:=by simp[gT]
theorem nl:∀{l:List (Int×Int)} {k:Nat},k<l.length->(gT l)[k*2]? =some (ae af (l.getD k (0,0)).1)/\(gT l)[k*2+1]? =some (ae af (l.getD k (0,0)).2)
 |a::r,0,_=>by simp[gT]
 |a::r,k+1,h=>by
  have ih:=nl (l:=r) (k:=k) (by simpa using h);have e:gT (a::r)=[ae af a.1,ae af a.2]++gT r:=by simp[gT]
  rw[e,show(k+1)*2=2+k*2 from by omega,show 2+k*2+1=2+(k*2+1) from by omega];rw[bN (by simp),bN (by simp)];simpa using ih
theorem o_(f:b.ownsRow a z 2 e d o)(l:0<d):∃c cap,e=ai (some (Ad c 0)) d cap/\a<=c/\c<b.heap.size/\d<=cap:=by
 rcases f.2 with⟨_,h⟩|⟨c,cap,g,rfl,j,k,m,_⟩
 ·omega
 grind
theorem vP(f:b.ownsRow a z 2 e d o):∃c cap,e=.slice c d cap:=by
 rcases f.2 with⟨rfl,rfl⟩|⟨h,cap,g,rfl,_⟩
 ·grind
 grind
theorem K9:(ab.info? 294).map (fun i=>(i.zero,i.size,i.bytes))=some (some (.agg #[II 0,II 0]),2,16):=by kernel_rfl
theorem pS(b:Int×Int->Int×Int)(a:List (Int×Int))(c:Nat):(qe b a c).length=a.length:=by simp[qe];omega
theorem yl(b:a<x6.length):(qe t3 x6 a).getD a (0,0)=x6.getD a (0,0):=by simp only[qe,bR];grind
theorem ym(c:a<x6.length):(qe t3 x6 a).set a (t3 (x6.getD a (0,0)))=qe t3 x6 (a+1):=by
 apply List.ext_getElem?;intro i;rw[List.getElem?_set];rcases Nat.lt_trichotomy i a with b|b|b
 ·rw[if_neg (by omega)];simp only[qe];grind
 ·subst b;rw[if_pos rfl,if_pos (by rw[pS];exact c)];simp only[qe];grind
 ·rw[if_neg (by omega)];simp only[qe];grind
theorem zE(b:a<x6.length):x6.set a (x6.getD a (0,0))=x6:=by simp_all
theorem AC(b:a<x6.length)(c:t3 (x6.getD a (0,0))=x6.getD a (0,0)):qe t3 x6 (a+1)=qe t3 x6 a:=by rw[<-ym b,c,<-yl (t3:=t3) b];exact zE (by rw[pS];exact b)
theorem DV(b:Int×Int->Int×Int)(a:List (Int×Int)):qe b a a.length=a.map b:=by simp[qe]
theorem rG:∀(l:List (Int×Int)) (j:Nat) (a b:Int),j<l.length->((gT l).set (j*2) (ae af a)).set (j*2+1) (ae af b)=gT (l.set j (a,b))
 |x::r,0,a,b,_=>by simp[gT]
 |x::r,j+1,a,b,h=>by
  have ih:=rG r j a b (by simpa using h);have e:∀(y:Int×Int) q,gT (y::q)=ae af y.1::ae af y.2::gT q:=fun y q=>by simp[gT]
  rw[List.set_cons_succ,e,e,<-ih,show(j+1)*2=j*2+1+1 from by omega,show j*2+1+1+1=(j*2+1)+1+1 from by omega];simp only[List.set_cons_succ]
theorem Ro.tail{l:List (Int×Int)}(h:w.ownsRow base 294 2 (ai (some (Ad a 0)) l.length cap) l.length (gT l))(p:1<l.length):Ro w 294 (ai (some (Ad a 2)) (l.length-1) (cap-1)) (l.drop 1).length (gT (l.drop 1)):=by
 obtain⟨_,⟨_,m⟩|⟨k,j,d,c,_,g,q,_,_,s⟩⟩:=h
 ·omega
 ·simp only[Value.slice.injEq,Option.some.injEq,Addr.mk.injEq,and_true,true_and]at c;obtain⟨rfl,rfl⟩:=c;refine⟨_,cap-1,by simp,fun _=>⟨a,2,d,_,rfl,g,fun b n=>?_⟩,fun h=>by simp at h,by grind⟩;have e:gT l=(gT (l.take 1))++gT (l.drop 1):=by rw[<-kR,List.take_append_drop]
  have f:(gT (l.take 1)).length=2:=by rw[oG,List.length_take];omega
  have o:2+b<(gT l).length:=by rw[e,bL,f];omega
  have:(gT l)[2+b]? =(gT (l.drop 1))[b]?:=by grind
  grind
theorem An:ab.underlying 246=some (.slice (ab.elem 246)):=by kernel_rfl
theorem LI(a:aK):(sizeOf (ab.elem 246)).run ab a=.ok 2 a:=by kernel_rfl
theorem wN(b a cap:Nat)(h:1<=a)(d:1<cap)(c:aK):(Instr.sliceAt 246 (nr b a cap) (some (II 1)) none none).run ab c=.ok (ai (some (Ad b 2)) (a-1) (cap-1)) c:=by rw[run_sliceAt_slice (h:=An),run_slice_l (ht:=An) (h0:=by omega) (h1:=by omega),LI];simp[Result.andThen,sliced,Addr.add_lit];omega
theorem xS{cb:Nat}(a:Bw b w)(g j:Nat):gm (· = cb) b ((w.setCell (Ad cb g) e).setCell (Ad cb j) h):=
 ⟨a.os,a.tape,a.output,by rw[bQ,bQ];exact a.size,fun f d c=>by rw[Below.heap_setCell _ _ _ _ c,Below.heap_setCell _ _ _ _ c];exact a.block f d⟩
def J7(w:aK)(c:fV)(cb:Nat)(sv:aM)(r:Option (Int×List (Int×Int)))(e:Ending)(w':aK):Prop:=
 match r with
 |none=>e=.returned (.bool false)/\cE w.heap.size w w'
 |some (mark,runs)=>e=.returned (.bool true)/\gm (· = cb) w w'/\∃rv,w'.heap[cb]? =some (.cells (gn {c with mark:=mark,runs:=runs} rv sv) 249 (0,0))/\Ro w' 294 rv runs.length (gT runs)
theorem Gt{cb:Nat}(d1:b.heap[cb]? =some (.cells (gn j e h) 249 (0,0)))(h8:Ro b 294 e j.runs.length (gT j.runs))(h4:0<=c/\c<=1073741823)(j2:j.runs.length<=4)
  (K:∀r∈j.runs,0<=r.1/\r.1<=r.2/\r.2<=1073741823):
  aL ab 159 #[Pt cb,II c] b fun b5 i0=>J7 b j cb h (nA j.mark j.runs c) b5 i0:=by
 obtain⟨c5,hi,c2,c3,c4⟩:=aP K9;have f4:CI b cb 6 j.mark:=by simp[aD,d1,gn]
 have d6:CV b cb 7 e:=by simp[aD,d1,gn]
 obtain⟨ro,g3,rfl,g0,_⟩:=h8;have a7:=fK d1;have g5:=fK g0;have f3:=fK K;clear d1 g0 K;by_cases f9:c<j.mark
 ·have b0:Hid (nA j.mark j.runs c=none):=by show _=_;simp[nA,f9]
  go_enter func159,ntmps159;go_wp2_with fail;go_ret;rw[b0.out];exact⟨rfl,Below.refl _ _⟩
 ·have b0:Hid (nA j.mark j.runs c=(oN c j.runs j.runs.length).map fun d=>if 4<((jj d).map (hD c d.lo d.hi)).length then((((jj d).map (hD c d.lo d.hi)).getD 0 (0,0)).2+1,((jj d).map (hD c d.lo d.hi)).drop 1) else(j.mark,(jj d).map (hD c d.lo d.hi))):=by show _=_;unfold nA;rw[if_neg f9]
  go_enter func159,ntmps159;go_wp2_with fail;go_loopw [5,6,7,8,9] (fun g6 lo hi qc i wr=>∃(u:Nat) (d:pE),u<=j.runs.length/\i=II u/\oN c j.runs u=some d/\lo=II d.lo/\hi=II d.hi/\qc=.bool d.qc/\wr.ownsRow b.heap.size 294 2 g6 d.all.length (gT d.all)/\Bw b wr) (fun _ _ _ _ i _=>j.runs.length-(aQ i).toNat);case atStart=>exact⟨0,⟨[],c,c,false⟩,be _,rfl,rfl,rfl,rfl,rfl,ak _ _ _ _,Below.refl _ _⟩
  case round=>
   obtain⟨u,d,h3,rfl,e7,rfl,rfl,rfl,m,o⟩:=hrel;obtain⟨i6,h0,i7,i8,h1,f7⟩:=wu f3.out h4 h3 e7;have L:=o.size;have f5:=fL d6 o;have b2:=fK e7;have d0:=fK f7;clear e7 f7;by_cases f8:u<j.runs.length
   ·obtain⟨g2,g1,i4,i9,rfl,e4,e0⟩:=g5.out (by omega);have Q:=f3.out (j.runs.getD u (0,0)) (by simp[bR,ap f8]);have w:=nl f8;have a0:Hid (oN c j.runs (u+1)=iI c d (j.runs.getD u (0,0))):=by show _=_;simp[oN,b2.out]
    generalize j.runs.getD u (0,0)=r at Q w a0;obtain⟨n,p⟩:=r;obtain⟨b3,U,b4⟩:=Q;simp only at b3 U b4;have g8:CI wr g2 (g1+u*2) n:=fL (by have:=e0 (u*2) (by rw[oG];omega);rw[w.1]at this;simp[aD,e4,this]) o;have i5:CI wr g2 (g1+u*2+1) p:=fL (by have:=e0 (u*2+1) (by rw[oG];omega);rw[w.2]at this;simp[aD,e4,Nat.add_assoc,this]) o;have h7:=hK g8;simp only at h7;clear w e0 e4;have q:=fK m;have t:=fK o;clear m o;obtain⟨d2,d3,rfl⟩:=vP q.out;have f0:Hid (∀a6,(wr.alloc a6).ownsRow b.heap.size 294 2 (.slice d2 d.all.length d3) d.all.length (gT d.all)):=fun a6=>q.out.alloc a6;have d4:Hid (∀a6,Bw b (wr.alloc a6)):=fun a6=>t.out.alloc L a6;rcases bO p c with v|v
    ·rcases Int.lt_trichotomy p (c-1) with P|P|P
     ·have H:=fK (JM (v8:=d) U P);go_wp2_with (at_builtin;refine aN _ rfl _ _ 246 rfl b.heap.size 294 c5 (.agg #[II 0,II 0]) 2 16 underlying246 hi c2 c3 c4 rfl (by decide) (.slice d2 d.all.length d3) d.all.length (gT d.all) rfl ((q.out.alloc _).alloc _) (xG wr) 1 1 [II n,II p] rfl rfl (ru (wr.alloc (.cells #[II n,II p] 294)) (wr.heap.size+1) (by simp) 294 [II n,II p] (by simp[aO])) (by simp[bM]) (by unfold aO;omega) (by omega) (by simp;omega) ?_;intro c9 O X z _;refine Hid.out ?_);refine fK ?_;have D:=ga (ga z);have a9:=fK D;clear z D;go_wp2_with fail;go_roundw;case rel=>refine⟨u+1,{d with all:=d.all++[(n,p)]},by omega,by go_num,by rw[a0.out];exact H.out,rfl,rfl,rfl,?_,t.out.grown a9.out L (fun s W=>(q.out.lt s W).1)⟩;rw[kR,bL];exact X
      case measure=>simp[aQ];omega
     ·have H:=fK (GW (g:=n) (v8:=d) P);go_wp2_with fail;go_roundw;case rel=>exact⟨u+1,{d with lo:=n},by omega,by go_num,by rw[a0.out];exact H.out,rfl,rfl,rfl,f0.out _,d4.out _⟩
      case measure=>simp[aQ];omega
     ·omega
    ·rcases bO c n with f6|f6
     ·rcases bO (c+1) n with d7|d7
      ·cases R:d.qc with
       |false=>
        have H:=fK (GX (v8:=d) U d7 R);clear R;go_wp2_with (at_builtin;refine aN _ rfl _ _ 246 rfl b.heap.size 294 c5 (.agg #[II 0,II 0]) 2 16 underlying246 hi c2 c3 c4 rfl (by decide) (.slice d2 d.all.length d3) d.all.length (gT d.all) rfl ((q.out.alloc _).alloc _) (xG wr) 1 1 [II d.lo,II d.hi] rfl rfl (ru (wr.alloc (.cells #[II n,II p] 294)) (wr.heap.size+1) (by simp) 294 [II d.lo,II d.hi] (by simp[aO])) (by simp[bM]) (by unfold aO;omega) (by omega) (by simp;omega) ?_;intro c9 O X z _;refine Hid.out ?_);refine fK ?_;have e6:O.heap[wr.heap.size]? =some (.cells #[II n,II p] 294):=by rw[z.block _ (by simp;omega) (fun b5=>by have:=(q.out.lt _ b5.symm).2;omega)];rw[Below.heap_alloc _ _ _ (by simp)];exact cA wr _
        have D:=ga (ga z);have j0:io O wr 0 n:=by simp[aD,e6]
        have j1:io O wr 1 p:=by simp[aD,e6]
        have f1:Hid (Bw b O):=t.out.grown D L (fun s W=>(q.out.lt s W).1);have h9:=f1.out.size;have f2:=fK X;have j3:=D.size;clear z D e6 X;go_wp2_with (at_builtin;refine aN _ rfl _ _ 246 rfl b.heap.size 294 c5 (.agg #[II 0,II 0]) 2 16 underlying246 hi c2 c3 c4 rfl (by decide) c9 (d.all.length+1) (gT d.all++[II d.lo,II d.hi]) rfl (f2.out.alloc _) (gf O 0) 1 1 [II n,II p] rfl rfl (gY (b:=O) (z:=294) (o:=[II n,II p]) (by simp[aO])) (by simp[bM]) (by unfold aO;omega) (by omega) (by simp;omega) ?_;intro j4 j5 h6 z _;refine Hid.out ?_);refine fK ?_;have D:=ga z;have a9:=fK D;clear z D;go_wp2_with fail;go_roundw;case rel=>refine⟨u+1,{d with all:=d.all++[(d.lo,d.hi)]++[(n,p)],qc:=true},by omega,by go_num,by rw[a0.out];exact H.out,rfl,rfl,rfl,?_,f1.out.grown a9.out h9 (fun s W=>(f2.out.lt s W).1)⟩;rw[kR,kR,bL,bL];exact h6
        case measure=>simp[aQ];omega
       |true=>
        have H:=fK (GY (v8:=d) U d7 R);have g4:=fK R;clear R;go_wp2_with (at_builtin;refine aN _ rfl _ _ 246 rfl b.heap.size 294 c5 (.agg #[II 0,II 0]) 2 16 underlying246 hi c2 c3 c4 rfl (by decide) (.slice d2 d.all.length d3) d.all.length (gT d.all) rfl ((q.out.alloc _).alloc _) (xG wr) 1 1 [II n,II p] rfl rfl (ru (wr.alloc (.cells #[II n,II p] 294)) (wr.heap.size+1) (by simp) 294 [II n,II p] (by simp[aO])) (by simp[bM]) (by unfold aO;omega) (by omega) (by simp;omega) ?_;intro c9 O X z _;refine Hid.out ?_);refine fK ?_;have D:=ga (ga z);have a9:=fK D;clear z D;go_wp2_with fail;go_roundw;case rel=>refine⟨u+1,{d with all:=d.all++[(n,p)]},by omega,by go_num,by rw[a0.out];exact H.out,rfl,rfl,by rw[g4.out],?_,t.out.grown a9.out L (fun s W=>(q.out.lt s W).1)⟩;rw[kR,bL];exact X
        case measure=>simp[aQ];omega
      ·have g9:n=c+1:=by omega
       have H:=fK (GU (v8:=d) U g9);go_wp2_with fail;go_roundw;case rel=>exact⟨u+1,{d with hi:=p},by omega,by go_num,by rw[a0.out];exact H.out,rfl,rfl,rfl,f0.out _,d4.out _⟩
       case measure=>simp[aQ];omega
     ·have H:=fK (M0 (v8:=d) f6 v);go_wp2_with fail;go_ret;have h5:nA j.mark j.runs c=none:=by rw[b0.out,xV (k:=u+1) (by rw[a0.out];exact H.out) _ (by omega)];rfl
      rw[h5];exact⟨rfl,d4.out _⟩
   ·obtain rfl:u=j.runs.length:=by omega
    cases R:d.qc with
    |true=>
     have S:Hid (jj d=d.all):=by show _=_;simp[jj,R]
     have Z:Hid (∀r∈jj d,0<=r.1/\r.1<=r.2/\r.2<=1073741823):=by intro r K;rw[S.out]at K;exact d0.out r K
     have B:Hid (nA j.mark j.runs c=if 4<((jj d).map (hD c d.lo d.hi)).length then some ((((jj d).map (hD c d.lo d.hi)).getD 0 (0,0)).2+1,((jj d).map (hD c d.lo d.hi)).drop 1) else some (j.mark,(jj d).map (hD c d.lo d.hi))):=by show _=_;rw[b0.out,b2.out];simp only[cp];split<;>rfl
     have d8:(jj d).length<=9:=by rw[S.out];omega
     have T:Hid (wr.ownsRow b.heap.size 294 2 u5 (jj d).length (gT (jj d))):=by rw[S.out];exact m
     have a8:=fK o;clear S R m o;have q:=ct;have t:=ct;generalize jj d=g at T d8 Z B⊢;clear b2 d0 q t;obtain⟨a5,A,rfl⟩:=vP T.out;go_wp2_with fail;go_loopw [11] (fun i wr=>∃k:Nat,k<=g.length/\i=II k/\wr.ownsRow b.heap.size 294 2 (.slice a5 g.length A) g.length (gT (qe (hD c d.lo d.hi) g k))/\Bw b wr) (fun i _=>g.length-(aQ i).toNat);case atStart=>exact⟨0,be _,rfl,T.out,a8.out⟩
     case round=>
      clear T a8;obtain⟨k,h2,rfl,m,o⟩:=hrel;have L:=o.size;by_cases J:k<g.length
      ·obtain⟨s,e9,v,e1,e2,e3⟩:=o_ m (by omega);simp only[Value.slice.injEq]at v;obtain⟨rfl,_,rfl⟩:=v;have b8:k<(qe (hD c d.lo d.hi) g k).length:=by rw[pS];exact J
       have w:=nl b8;rw[yl J]at w;have c6:wr.cell? (Ad s (k*2))=some (II (g.getD k (0,0)).1):=by rw[m.cellAt (k*2) (by omega)];exact w.1
       have M:wr.cell? (Ad s (k*2+1))=some (II (g.getD k (0,0)).2):=by rw[m.cellAt (k*2+1) (by omega)];exact w.2
       have Q:=Z.out (g.getD k (0,0)) (by simp[bR,ap J]);have i1:=m.frozenAt (k*2);have i2:=m.frozenAt (k*2+1);have C:Hid (hD c d.lo d.hi (g.getD k (0,0))=g.getD k (0,0)->qe (hD c d.lo d.hi) g (k+1)=qe (hD c d.lo d.hi) g k):=AC J;have b1:=fK (ym (t3:=hD c d.lo d.hi) J);generalize g.getD k (0,0)=r at Q c6 M C b1;obtain⟨n,p⟩:=r;obtain⟨b3,U,b4⟩:=Q;simp only at b3 U b4 c6 M;have q:=fK m;have t:=fK o;clear m o w;rcases bO c n with v|v
       ·have x:hD c d.lo d.hi (n,p)=(n,p):=by simp only[hD];rw[if_neg (by omega)]
        have G:=fK (C.out x);clear x C;go_wp2_with fail;go_roundw;case rel=>exact⟨k+1,by omega,by go_num,by rw[G.out];exact q.out,t.out⟩
        case measure=>simp[aQ];omega
       ·rcases bO p c with P|P
        ·have x:hD c d.lo d.hi (n,p)=(n,p):=by simp only[hD];rw[if_neg (by omega)]
         have G:=fK (C.out x);clear x C;go_wp2_with fail;go_roundw;case rel=>exact⟨k+1,by omega,by go_num,by rw[G.out];exact q.out,t.out⟩
         case measure=>simp[aQ];omega
        ·have x:hD c d.lo d.hi (n,p)=(d.lo,d.hi):=by simp only[hD];rw[if_pos ⟨v,P⟩]
         have a4:=b1.out;rw[x]at a4;have G:=fK a4;clear a4 x C;go_wp2_with fail;go_roundw;case rel=>
          have c7:=q.out.stored (k*2) (II d.lo);have c8:=c7.1.stored (k*2+1) (II d.hi);refine⟨k+1,by omega,by go_num,?_,?_⟩
          ·rw[<-G.out,<-rG _ _ _ _ b8];exact c8.1
          ·exact(t.out.grown c7.2 L (fun N a3=>by have:=Option.some.inj a3;omega)).grown c8.2 (by rw[bQ];exact L) (fun N a3=>by have:=Option.some.inj a3;omega)
         case measure=>simp[aQ];omega
      ·obtain rfl:k=g.length:=by omega
       rw[DV]at m;have V:(g.map (hD c d.lo d.hi)).length=g.length:=by simp
       have I:wr.heap[cb]? =some (.cells (gn j (.slice ro j.runs.length g3) h) 249 (0,0)):=by rw[o.block cb (bn.1 a7.out).1];exact a7.out
       have g7:=fL f4 o;have f5:=fL d6 o;have i3:∀N,mc wr cb N:=fun N=>cx wr cb N _ _ I;have a2:cb<b.heap.size:=(bn.1 a7.out).1;rw[V]at B;by_cases b6:4<g.length
       ·obtain⟨s,e9,v,e1,e2,e3⟩:=o_ m (by omega);simp only[Value.slice.injEq]at v;obtain⟨rfl,_,rfl⟩:=v;have y:=B.out;rw[if_pos b6]at y;have w:=nl (l:=g.map (hD c d.lo d.hi)) (k:=0) (by omega);have M:wr.cell? (Ad s 1)=some (II ((g.map (hD c d.lo d.hi)).getD 0 (0,0)).2):=by rw[m.cellAt 1 (by omega)];exact w.2
        have b7:0<=((g.map (hD c d.lo d.hi)).getD 0 (0,0)).2/\((g.map (hD c d.lo d.hi)).getD 0 (0,0)).2<=1073741823:=by
         have Q:=Z.out (g.getD 0 (0,0)) (by simp[bR,ap (show 0<g.length by omega)]);have e8:(g.map (hD c d.lo d.hi)).getD 0 (0,0)=hD c d.lo d.hi (g.getD 0 (0,0)):=by simp[bR,ap (show 0<g.length by omega)]
         rw[e8];unfold hD;split
         ·simp;omega
         ·omega
        have hcut:=wN s g.length A (by omega) (by omega);have E:=fK y;have q:=fK m;have t:=fK o;have Y:=fK I;clear y m o I w B;generalize d9:g.map (hD c d.lo d.hi)=d5 at q E M b7 V;generalize e5:(d5.getD 0 (0,0)).2=mk at M b7 E;clear d9 e5;go_wp2_with fail;go_ret;rw[E.out];have a1:=fT (fT Y.out 6 (II (mk+1))) 7 (ai (some (Ad s 2)) (g.length-1) (A-1));refine⟨rfl,xS t.out 6 7,ai (some (Ad s 2)) (g.length-1) (A-1),a1.trans ?_,?_⟩
        ·rfl
        ·have b9:=cB (cB q.out (a:=Ad cb 6) a2 (II (mk+1))) (a:=Ad cb 7) a2 (ai (some (Ad s 2)) (g.length-1) (A-1));rw[<-V]at b9⊢;exact Ro.tail b9 (by omega)
       ·have y:=B.out;rw[if_neg b6]at y;have E:=fK y;have q:=fK m;have t:=fK o;have Y:=fK I;clear y m o I B;go_wp2_with fail;go_ret;rw[E.out];have a1:=fT Y.out 7 (.slice a5 g.length A);refine⟨rfl,go t.out 7 _,.slice a5 g.length A,a1.trans ?_,?_⟩
        ·rfl
        ·rw[V];exact Ro.qf (cB q.out (a:=Ad cb 7) a2 _)
    |false=>
     have S:Hid (jj d=d.all++[(d.lo,d.hi)]):=by show _=_;simp[jj,R]
     have Z:Hid (∀r∈jj d,0<=r.1/\r.1<=r.2/\r.2<=1073741823):=by
      intro r K;rw[S.out]at K;simp only[bX,bV]at K;rcases K with K|rfl
      ·exact d0.out r K
      ·exact⟨h0,by simp;omega,h1⟩
     have B:Hid (nA j.mark j.runs c=if 4<((jj d).map (hD c d.lo d.hi)).length then some ((((jj d).map (hD c d.lo d.hi)).getD 0 (0,0)).2+1,((jj d).map (hD c d.lo d.hi)).drop 1) else some (j.mark,(jj d).map (hD c d.lo d.hi))):=by show _=_;rw[b0.out,b2.out];simp only[cp];split<;>rfl
     have d8:(jj d).length<=9:=by rw[S.out];simp;omega
     go_wp2_with (at_builtin;refine aN _ rfl _ _ 246 rfl b.heap.size 294 c5 (.agg #[II 0,II 0]) 2 16 underlying246 hi c2 c3 c4 rfl (by decide) u5 d.all.length (gT d.all) rfl (m.alloc _) (gf wr 0) 1 1 [II d.lo,II d.hi] rfl rfl (gY (b:=wr) (z:=294) (o:=[II d.lo,II d.hi]) (by simp[aO])) (by simp[bM]) (by unfold aO;omega) (by omega) (by simp;omega) ?_;intro c9 O X z _;refine Hid.out ?_);refine fK ?_;have T:Hid (O.ownsRow b.heap.size 294 2 c9 (jj d).length (gT (jj d))):=by rw[S.out,kR,bL];exact X
     have a8:Hid (Bw b O):=o.grown (ga z) L (fun s W=>(m.lt s W).1);clear S R m o X z;have q:=ct;have t:=ct;generalize jj d=g at T d8 Z B⊢;clear b2 d0 q t;obtain⟨a5,A,rfl⟩:=vP T.out;go_wp2_with fail;go_loopw [11] (fun i wr=>∃k:Nat,k<=g.length/\i=II k/\wr.ownsRow b.heap.size 294 2 (.slice a5 g.length A) g.length (gT (qe (hD c d.lo d.hi) g k))/\Bw b wr) (fun i _=>g.length-(aQ i).toNat);case atStart=>exact⟨0,be _,rfl,T.out,a8.out⟩
     case round=>
      clear T a8;obtain⟨k,h2,rfl,m,o⟩:=hrel;have L:=o.size;by_cases J:k<g.length
      ·obtain⟨s,e9,v,e1,e2,e3⟩:=o_ m (by omega);simp only[Value.slice.injEq]at v;obtain⟨rfl,_,rfl⟩:=v;have b8:k<(qe (hD c d.lo d.hi) g k).length:=by rw[pS];exact J
       have w:=nl b8;rw[yl J]at w;have c6:wr.cell? (Ad s (k*2))=some (II (g.getD k (0,0)).1):=by rw[m.cellAt (k*2) (by omega)];exact w.1
       have M:wr.cell? (Ad s (k*2+1))=some (II (g.getD k (0,0)).2):=by rw[m.cellAt (k*2+1) (by omega)];exact w.2
       have Q:=Z.out (g.getD k (0,0)) (by simp[bR,ap J]);have i1:=m.frozenAt (k*2);have i2:=m.frozenAt (k*2+1);have C:Hid (hD c d.lo d.hi (g.getD k (0,0))=g.getD k (0,0)->qe (hD c d.lo d.hi) g (k+1)=qe (hD c d.lo d.hi) g k):=AC J;have b1:=fK (ym (t3:=hD c d.lo d.hi) J);generalize g.getD k (0,0)=r at Q c6 M C b1;obtain⟨n,p⟩:=r;obtain⟨b3,U,b4⟩:=Q;simp only at b3 U b4 c6 M;have q:=fK m;have t:=fK o;clear m o w;rcases bO c n with v|v
       ·have x:hD c d.lo d.hi (n,p)=(n,p):=by simp only[hD];rw[if_neg (by omega)]
        have G:=fK (C.out x);clear x C;go_wp2_with fail;go_roundw;case rel=>exact⟨k+1,by omega,by go_num,by rw[G.out];exact q.out,t.out⟩
        case measure=>simp[aQ];omega
       ·rcases bO p c with P|P
        ·have x:hD c d.lo d.hi (n,p)=(n,p):=by simp only[hD];rw[if_neg (by omega)]
         have G:=fK (C.out x);clear x C;go_wp2_with fail;go_roundw;case rel=>exact⟨k+1,by omega,by go_num,by rw[G.out];exact q.out,t.out⟩
         case measure=>simp[aQ];omega
        ·have x:hD c d.lo d.hi (n,p)=(d.lo,d.hi):=by simp only[hD];rw[if_pos ⟨v,P⟩]
         have a4:=b1.out;rw[x]at a4;have G:=fK a4;clear a4 x C;go_wp2_with fail;go_roundw;case rel=>
          have c7:=q.out.stored (k*2) (II d.lo);have c8:=c7.1.stored (k*2+1) (II d.hi);refine⟨k+1,by omega,by go_num,?_,?_⟩
          ·rw[<-G.out,<-rG _ _ _ _ b8];exact c8.1
          ·exact(t.out.grown c7.2 L (fun N a3=>by have:=Option.some.inj a3;omega)).grown c8.2 (by rw[bQ];exact L) (fun N a3=>by have:=Option.some.inj a3;omega)
         case measure=>simp[aQ];omega
      ·obtain rfl:k=g.length:=by omega
       rw[DV]at m;have V:(g.map (hD c d.lo d.hi)).length=g.length:=by simp
       have I:wr.heap[cb]? =some (.cells (gn j (.slice ro j.runs.length g3) h) 249 (0,0)):=by rw[o.block cb (bn.1 a7.out).1];exact a7.out
       have g7:=fL f4 o;have f5:=fL d6 o;have i3:∀N,mc wr cb N:=fun N=>cx wr cb N _ _ I;have a2:cb<b.heap.size:=(bn.1 a7.out).1;rw[V]at B;by_cases b6:4<g.length
       ·obtain⟨s,e9,v,e1,e2,e3⟩:=o_ m (by omega);simp only[Value.slice.injEq]at v;obtain⟨rfl,_,rfl⟩:=v;have y:=B.out;rw[if_pos b6]at y;have w:=nl (l:=g.map (hD c d.lo d.hi)) (k:=0) (by omega);have M:wr.cell? (Ad s 1)=some (II ((g.map (hD c d.lo d.hi)).getD 0 (0,0)).2):=by rw[m.cellAt 1 (by omega)];exact w.2
        have b7:0<=((g.map (hD c d.lo d.hi)).getD 0 (0,0)).2/\((g.map (hD c d.lo d.hi)).getD 0 (0,0)).2<=1073741823:=by
         have Q:=Z.out (g.getD 0 (0,0)) (by simp[bR,ap (show 0<g.length by omega)]);have e8:(g.map (hD c d.lo d.hi)).getD 0 (0,0)=hD c d.lo d.hi (g.getD 0 (0,0)):=by simp[bR,ap (show 0<g.length by omega)]
         rw[e8];unfold hD;split
         ·simp;omega
         ·omega
        have hcut:=wN s g.length A (by omega) (by omega);have E:=fK y;have q:=fK m;have t:=fK o;have Y:=fK I;clear y m o I w B;generalize d9:g.map (hD c d.lo d.hi)=d5 at q E M b7 V;generalize e5:(d5.getD 0 (0,0)).2=mk at M b7 E;clear d9 e5;go_wp2_with fail;go_ret;rw[E.out];have a1:=fT (fT Y.out 6 (II (mk+1))) 7 (ai (some (Ad s 2)) (g.length-1) (A-1));refine⟨rfl,xS t.out 6 7,ai (some (Ad s 2)) (g.length-1) (A-1),a1.trans ?_,?_⟩
        ·rfl
        ·have b9:=cB (cB q.out (a:=Ad cb 6) a2 (II (mk+1))) (a:=Ad cb 7) a2 (ai (some (Ad s 2)) (g.length-1) (A-1));rw[<-V]at b9⊢;exact Ro.tail b9 (by omega)
       ·have y:=B.out;rw[if_neg b6]at y;have E:=fK y;have q:=fK m;have t:=fK o;have Y:=fK I;clear y m o I B;go_wp2_with fail;go_ret;rw[E.out];have a1:=fT Y.out 7 (.slice a5 g.length A);refine⟨rfl,go t.out 7 _,.slice a5 g.length A,a1.trans ?_,?_⟩
        ·rfl
        ·rw[V];exact Ro.qf (cB q.out (a:=Ad cb 7) a2 _)
theorem lH{cb:Nat}(d:b.heap[a]? =some (.cells D 242 (0,0)))(c:b.heap[cb]? =some (.cells x7 249 (0,0))):a≠cb:=by grind
theorem wL{cb:Nat}(g:b.heap[a]? =some (.cells (gh p e h) 242 (0,0)))(d:b.heap[cb]? =some (.cells (gn j q M) 249 (0,0)))(y:0<=p.last/\p.last<=1125899906842624):
  aL ab 188 #[Pt a,Pt cb] b fun f m=>f=.returned (.tuple #[])/\gm (fun k=>k=a\/k=cb) b m/\
   m.heap[a]? =some (.cells (gh {p with last:=p.last+1} e h) 242 (0,0))/\m.heap[cb]? =some (.cells (gn {j with fY:=true,waits:=p.last+1} q M) 249 (0,0)):=by
 have l:=lH g d;have z:CI b a 12 p.last:=by simp[aD,g,gh,g_.cells]
 have w:CV b cb 2 (.bool j.fY):=by simp[aD,d,gn]
 have v:CI b cb 10 j.waits:=by simp[aD,d,gn]
 have B:∀c,mc b a c:=fun c=>cx b a c _ _ g;have A:∀c,mc b cb c:=fun c=>cx b cb c _ _ d;have t:=fK g;have s:=fK d;clear g d;go_enter func188,ntmps188;go_wp2_with fail;go_end0;refine⟨rfl,⟨rfl,rfl,rfl,by simp,fun k x o=>?_⟩,?_,?_⟩
 ·have u:k≠a:=fun f=>o (bg f);have n:k≠cb:=fun f=>o (bf f);rw[cy _ _ _ _ n,cy _ _ _ _ u,cy _ _ _ _ n]
 ·rw[cy _ _ _ _ l];refine(fT ((cy b (Ad cb 2) a _ l).trans t.out) _ _).trans ?_;rfl
 ·refine(fT ((cy _ (Ad a 12) cb _ (ch l)).trans (fT s.out _ _)) _ _).trans ?_;rfl
def vR(b:Nat):aM:=Pt b
def jm(l:List Nat):List aM:=l.map vR
theorem wI(a:List Nat):(jm a).length=a.length:=by simp[jm]
theorem rq:(ab.info? 244).map (fun i=>(i.zero,i.size,i.bytes))=some (some (ag none),1,8):=by kernel_rfl
theorem zw{y8:bG}(h:a≠d)(j:b.heap[a]? =some (.cells D z (0,0)))(k:b.heap[d]? =some (.cells x7 y8 (0,0))):
  (binOp .neq 244 (Pt a) (Pt d)).run ab b=.ok (.bool true) b:=by
 have e:∃f,ab.info? 249=some f/\f.size=11:=by
  have c:(ab.info? 249).map (fun i=>i.size)=some 11:=by kernel_rfl
  simp_all
 obtain⟨f,e,l⟩:=e;have m:ab.underlying 244=some (.pointer 249):=by kernel_rfl
 have c:∀g:Nat,(cl (g+1) 244 (Pt a) (Pt d)).run ab b=.ok false b:=fun g=>by simp[cl,run_underlying m,sizeOf,typeInfo,e,l,run_sameAddr_other b (show((Ad a 0):Addr)≠(Ad d 0) from fun c=>h (by grind)) j k]
 simp only[binOp];simp[Op.equal,Op.maxDepth,c 9999]
theorem BX:(binOp .neq 244 (Pt a) (Pt a)).run ab b=.ok (.bool false) b:=by
 have c:∃d,ab.info? 249=some d/\d.size=11:=by
  have f:(ab.info? 249).map (fun i=>i.size)=some 11:=by kernel_rfl
  simp_all
 obtain⟨d,c,_⟩:=c;have g:ab.underlying 244=some (.pointer 249):=by kernel_rfl
 have f:∀e:Nat,(cl (e+1) 244 (Pt a) (Pt a)).run ab b=.ok true b:=fun e=>by simp[cl,run_underlying g,sizeOf,typeInfo,c,run_sameAddr_same]
 simp only[binOp];simp[Op.equal,Op.maxDepth,f 9999]
def Kf(w:aK)(b:Nat):Prop:=∃cs,w.heap[b]? =some (.cells cs 249 (0,0))
theorem AP{g cb:Nat}(z:b.heap[g]? =some (.cells (gh p e h) 242 (0,0)))(y:b.ownsRow f 244 1 e m.length (jm m))(b0:m.length<=1000)(I:Kf b cb)(J:∀d∈m,Kf b d):
  aL ab 194 #[Pt g,Pt cb] b fun S C=>S=.returned (.tuple #[])/\gm (· = g) b C/\
   ∃E,C.heap[g]? =some (.cells (gh p E h) 242 (0,0))/\C.ownsRow b.heap.size 244 1 E (m.filter (· != cb)).length (jm (m.filter (· != cb))):=by
 obtain⟨a3,hi,a0,a1,a2⟩:=aP rq;have L:CV b g 11 e:=by simp[aD,z,gh,g_.cells]
 have K:g<b.heap.size:=hK L;obtain⟨R,Q,rfl⟩:=gB y;have O:=fK z;have D:=fK y;have M:=fK I;have N:=fK J;clear z y I J;go_enter func194,ntmps194;go_wp2_with fail;go_loopw [4,5] (fun a4 i wr=>∃c:Nat,c<=m.length/\i=II c/\wr.ownsRow b.heap.size 244 1 a4 ((m.take c).filter (· != cb)).length (jm ((m.take c).filter (· != cb)))/\Bw b wr) (fun _ i _=>m.length-(aQ i).toNat);case atStart=>exact⟨0,be _,rfl,ak _ _ _ _,Below.refl _ _⟩
 case round=>
  obtain⟨c,a9,rfl,k,j⟩:=hrel;have Z:=j.size;have b4:=fL L j;by_cases X:c<m.length
  ·obtain⟨u,a7,G,_,a8,_⟩:=iC D.out (by omega);simp only[Value.slice.injEq]at G;obtain⟨rfl,_,rfl⟩:=G;obtain⟨d,x⟩:∃d,m[c]? =some d:=⟨_,ap X⟩;have b3:CV wr u c (Pt d):=fL (by rw[D.out.cellAt c (by omega)];simp[jm,vR,x]) j;have t:m.take (c+1)=m.take c++[d]:=by rw[cd,x];rfl
   have U:((m.take c).filter (· != cb)).length<=1000:=by have v:=ci (· != cb) (m.take c);have w:=bU c m;omega
   by_cases s:d=cb
   ·have q:Hid ((m.take (c+1)).filter (· != cb)=(m.take c).filter (· != cb)):=by show _=_;rw[t,bW];simp[s]
    have o:=fK k;have n:=fK j;clear k j t;subst s;have T:=BX (b:=wr) (a:=d);go_wp2_with fail;go_roundw;case rel=>exact⟨c+1,by omega,by go_num,by rw[q.out];exact o.out,n.out⟩
    case measure=>simp[aQ];omega
   ·have q:Hid ((m.take (c+1)).filter (· != cb)=(m.take c).filter (· != cb)++[d]):=by show _=_;rw[t,bW];simp[s]
    have o:=fK k;have n:=fK j;clear k j t;generalize (m.take c).filter (· != cb)=l at o q U;have H:=o.out;have T:(binOp .neq 244 (Pt d) (Pt cb)).run ab wr=.ok (.bool true) wr:=by obtain⟨a5,v⟩:=N.out d (bS x);obtain⟨a6,w⟩:=M.out;exact zw s (by rw[n.out.block d (bn.1 v).1];exact v) (by rw[n.out.block cb (bn.1 w).1];exact w)
    go_wp2_with (at_builtin;refine aN _ rfl _ _ 240 rfl b.heap.size 244 a3 (ag none) 1 8 underlying240 hi a0 a1 a2 rfl (by decide) u4 l.length (jm l) rfl (H.alloc _) (gf wr 0) 1 1 [Pt d] rfl rfl (gY (by simp[aO])) (by simp[bM]) (by unfold aO;omega) (by omega) (by simp;omega) ?_;intro b5 b6 Y W _);go_roundw;case rel=>
     refine⟨c+1,by omega,by go_num,?_,n.out.grown (ga W) Z (fun u V=>(H.lt u V).1)⟩;rw[q.out,bL];have:jm (l++[d])=jm l++[Pt d]:=by simp[jm,vR]
     rw[this];exact Y
    case measure=>simp[aQ];omega
  ·obtain rfl:c=m.length:=by omega
   rw[List.take_length]at k;obtain⟨b1,b2,rfl⟩:=gB k;have A:wr.heap[g]? =some (.cells (gh p (.slice R m.length Q) h) 242 (0,0)):=by rw[j.block g K];exact O.out
   have b7:∀B,mc wr g B:=fun B=>cx wr g B _ _ A;have o:=fK k;have n:=fK j;have P:=fK A;clear k j A;go_wp2_with fail;go_end0;refine⟨rfl,go n.out _ _,_,(fT P.out _ _).trans ?_,cB o.out (a:=Ad g 11) K _⟩;rfl
def pz(Rp now:Int)(l:List (fV×Nat)):List (fV×Nat):=l.filter fun x=>decide (now-x.1.heard<Rp)
theorem Gq(j:CI b a 10 p.now)(d:c<p.now\/1000000000<c):
  aL ab 120 #[Pt a,II c] b fun e g=>e=.returned (II 2)/\b=g:=by
 rcases bO c p.now with f|f
 ·clear d;go_enter func120,ntmps120;go_wp2_with fail;go_ret;exact⟨rfl,rfl⟩
 ·have h:1000000000<c:=by omega
  clear d;go_enter func120,ntmps120;go_wp2_with fail;go_ret;exact⟨rfl,rfl⟩
theorem Jl{now:Int}(t:b.heap[f]? =some (.cells (gh p e h) 242 (0,0)))(I:b.ownsRow d 244 1 e m.length (jm m))(c9:m.length=p.fN.length)(d0:m.length<=1000)
  (X:∀(i:Nat) g cb,p.fN[i]? =some g->m[i]? =some cb->∃N O,b.heap[cb]? =some (.cells (gn g N O) 249 (0,0))) (L:∀g∈p.fN,0<=g.heard/\g.heard<=1000000000) (c7:0<=p.now) (a8:p.now<=now) (a9:now<=1000000000):
  aL ab 120 #[Pt f,II now] b fun k P=>
   k=.returned (II 0)/\gm (· = f) b P/\∃U,P.heap[f]? =some (.cells (gh {p with now:=now} U h) 242 (0,0))/\
    P.ownsRow b.heap.size 244 1 U (pz p.c.c6 now (p.fN.zip m)).length (jm ((pz p.c.c6 now (p.fN.zip m)).map cw)):=by
 obtain⟨b8,hi,b5,b6,b7⟩:=aP rq;have c2:b.cell? ⟨f,10,none⟩= some (ae af p.now):=by simp[aD,t,gh,g_.cells]
 have a2:f<b.heap.size:=hK c2;have e0:∀o,b.frozen? ⟨f,o,none⟩= false:=fun o=>cx b f o _ _ t;obtain⟨C,B,rfl⟩:=gB I;have a1:(b.setCell ⟨f,10,none⟩ (ae af now)).heap[f]? =some (.cells (gh {p with now:=now} (.slice C m.length B) h) 242 (0,0)):=fT t _ _;have y:(b.setCell ⟨f,10,none⟩ (ae af now)).heap.size=b.heap.size:=bQ ..;have a0:(b.setCell ⟨f,10,none⟩ (ae af now)).ownsRow d 244 1 (.slice C m.length B) m.length (jm m):=by
  refine cC I (fun k=>?_) _;obtain⟨_,⟨q,_⟩|⟨D,cap,c5,q,_,G,_⟩⟩:=I
  ·rw[q]at k;simp[aq]at k
  ·rw[q]at k;simp only[aq,Option.some.injEq]at k;subst k;rw[t]at G;simp at G
 have Y:∀(i:Nat) g cb,p.fN[i]? =some g->m[i]? =some cb->(b.setCell ⟨f,10,none⟩ (ae af now)).cell? ⟨cb,5,none⟩= some (ae af g.heard):=by intro i g cb x l;obtain⟨N,O,q⟩:=X i g cb x l;have H:=lH t q;have a7:(b.setCell ⟨f,10,none⟩ (ae af now)).heap[cb]? =some (.cells (gn g N O) 249 (0,0)):=(Below.heap_setCell b ⟨f,10,none⟩ _ cb (ch H)).trans q;simp[aD,a7,gn]
 have T:Hid (∀(wr:aK) a4,cE b.heap.size (b.setCell ⟨f,10,none⟩ (ae af now)) wr->gm (· = f) b (wr.setCell ⟨f,11,none⟩ a4)):=by intro wr a4 l;refine⟨l.os,l.tape,l.output,by rw[bQ,<-y];exact bZ (ar _) (y▸l.size),fun c Z H=>?_⟩;rw[Below.heap_setCell _ _ _ _ H,l.block c Z,Below.heap_setCell _ _ _ _ H]
 have S:=fK a1;have K:=fK a0;have R:=fK Y;have a5:=fK L;clear t I X L a1 a0 Y;go_enter func120,ntmps120;go_wp2_with fail;generalize b.setCell ⟨f,10,none⟩ (ae af now)=Q at S K R T y⊢;go_loopw [5,6] (fun b9 i wr=>∃c:Nat,c<=m.length/\i=ae af c/\wr.ownsRow b.heap.size 244 1 b9 (pz p.c.c6 now ((p.fN.zip m).take c)).length (jm ((pz p.c.c6 now ((p.fN.zip m).take c)).map cw))/\cE b.heap.size Q wr) (fun _ i _=>m.length-(aQ i).toNat);case atStart=>exact⟨0,be _,rfl,ak _ _ _ _,Below.refl _ _⟩
 case round=>
  obtain⟨c,Z,rfl,s,n⟩:=hrel;have b4:b.heap.size<=wr.heap.size:=y▸n.size;have E:cE Q.heap.size Q wr:=y▸n;have u:wr.heap[f]? =some (.cells (gh {p with now:=now} (.slice C m.length B) h) 242 (0,0)):=by rw[n.block f a2];exact S.out
  have d5:wr.cell? ⟨f,11,none⟩= some (.slice C m.length B):=by simp[aD,u,gh,g_.cells]
  have d6:wr.cell? ⟨f,6,none⟩= some (ae af p.c.c6):=by simp[aD,u,gh,g_.cells]
  by_cases b2:c<m.length
  ·obtain⟨D,c4,V,_,c8,_⟩:=iC K.out (by omega);simp only[Value.slice.injEq]at V;obtain⟨rfl,_,rfl⟩:=V;obtain⟨j,M⟩:∃j,m[c]? =some j:=⟨_,ap b2⟩;obtain⟨g,x⟩:∃g,p.fN[c]? =some g:=⟨_,ap (by omega)⟩;have d3:wr.cell? ⟨D,c,none⟩= some (ag (some ⟨j,0,none⟩)):=fL (by rw[K.out.cellAt c (by omega)];simp[jm,vR,M]) E;have d4:wr.cell? ⟨j,5,none⟩= some (ae af g.heard):=fL (R.out c g j x M) E;have L:=a5.out g (bS x);have J:(p.fN.zip m).take (c+1)=(p.fN.zip m).take c++[(g,j)]:=by rw[cd,show(p.fN.zip m)[c]? =some (g,j) from List.getElem?_zip_eq_some.2 ⟨x,M⟩];rfl
   have b0:(pz p.c.c6 now ((p.fN.zip m).take c)).length<=1000:=by have a8:=ci (fun c3:fV×Nat=>decide (now-c3.1.heard<p.c.c6)) ((p.fN.zip m).take c);have a9:=bU c (p.fN.zip m);unfold pz;omega
   have w:=fK s;have z:=fK n;clear s n E u;by_cases a3:now-g.heard<p.c.c6
   ·have A:Hid (pz p.c.c6 now ((p.fN.zip m).take (c+1))=pz p.c.c6 now ((p.fN.zip m).take c)++[(g,j)]):=by show _=_;rw[J];unfold pz;rw[bW];simp[a3]
    clear J;generalize pz p.c.c6 now ((p.fN.zip m).take c)=v at w A b0;have W:=w.out;go_wp2_with fail;go_quiet (fail);go_wp2_with (at_builtin;refine aN _ rfl _ _ 240 rfl b.heap.size 244 b8 (ag none) 1 8 underlying240 hi b5 b6 b7 rfl (by decide) u5 v.length (jm (v.map cw)) rfl (World.ownsRow.alloc (show(wr.drewN nq).ownsRow b.heap.size 244 1 u5 v.length (jm (v.map cw)) from W) _) ⟨wr.heap.size,0,none⟩ 1 1 [ag (some ⟨j,0,none⟩)] rfl rfl (gY (by simp[aO])) (by simp[bM]) (by unfold aO;omega) (by omega) (by simp;omega) ?_;intro d7 d8 b3 b1 _);go_roundw;case rel=>
     refine⟨c+1,by omega,by go_num,?_,(fQ z.out _).grown (ga b1) b4 (fun D G=>(W.lt D G).1)⟩;rw[A.out,bL];have:jm ((v++[(g,j)]).map cw)=jm (v.map cw)++[ag (some ⟨j,0,none⟩)]:=by simp[jm,vR]
     rw[this];exact b3
    case measure=>simp[aQ];omega
   ·have A:Hid (pz p.c.c6 now ((p.fN.zip m).take (c+1))=pz p.c.c6 now ((p.fN.zip m).take c)):=by show _=_;rw[J];unfold pz;rw[bW];simp[a3]
    clear J;go_wp2_with fail;go_quiet (fail);go_wp2_with fail;go_roundw;case rel=>exact⟨c+1,by omega,by go_num,by rw[A.out];exact w.out,fQ z.out _⟩
    case measure=>simp[aQ];omega
  ·obtain rfl:c=m.length:=by omega
   rw[bP (by rw[List.length_zip];omega)]at s;obtain⟨d1,d2,rfl⟩:=gB s;have d9:∀o,wr.frozen? ⟨f,o,none⟩= false:=fun o=>cx wr f o _ _ u;have w:=fK s;have z:=fK n;have a6:=fK u;clear s n E u;go_wp2_with fail;go_ret;refine⟨rfl,T.out _ _ z.out,_,(fT a6.out _ _).trans ?_,cB w.out (a:=⟨f,11,none⟩) a2 _⟩;rfl
theorem tS{l:List fV}:∀{k j:Nat},kF l k=some j->j<k
 |0,j,h=>by simp[kF]at h
 |k+1,j,h=>by
  simp only[kF]at h;split at h
  ·split at h
   ·obtain rfl:=Option.some.inj h;omega
   ·simp at h
  ·next i hi=>
   have:=tS hi;split at h
   ·obtain rfl:=Option.some.inj h;omega
   ·obtain rfl:=Option.some.inj h;omega
def HD(w:aK)(l:List fV)(jf:List Nat)(r:Option Nat)(e:Ending)(w':aK):Prop:=
 match r with
 |none=>e=.returned (.tuple #[ae af 0,ae af 4])/\cE w.heap.size w w'
 |some j=>∃c cb rv sv,l[j]? =some c/\jf[j]? =some cb/\e=.returned (.tuple #[ae af c.fZ,ae af 0])/\gm (· = cb) w w'/\
   w.heap[cb]? =some (.cells (gn c rv sv) 249 (0,0))/\w'.heap[cb]? =some (.cells (gn {c with waits:=0} rv sv) 249 (0,0))
theorem nB:ab.underlying 244=some (.pointer (ab.pointee 244)):=by kernel_rfl
theorem BZ(a:aK):(binOp .eql 244 (ag none) (ag none)).run ab a=.ok (.bool true) a:=run_eql_pointer_nil a 244 none nB
theorem ED(a:aK)(b:Nat):(binOp .eql 244 (Pt b) (ag none)).run ab a=.ok (.bool false) a:=run_eql_pointer_nil a 244 (some (Ad b 0)) nB
theorem Ei(U:b.heap[a]? =some (.cells (gh p e h) 242 (0,0)))(G:b.ownsRow d 244 1 e m.length (jm m))(a4:m.length=p.fN.length)(b4:m.length<=1000)
  (S:∀(i:Nat) c cb,p.fN[i]? =some c->m[i]? =some cb->∃V W,b.heap[cb]? =some (.cells (gn c V W) 249 (0,0))):
  aL ab 122 #[Pt a] b fun Z a8=>HD b p.fN m (kF p.fN p.fN.length) Z a8:=by
 have a7:CV b a 11 e:=by simp[aD,U,gh,g_.cells]
 obtain⟨b1,a9,rfl⟩:=gB G;have O:=fK G;have z:=fK S;clear U G S;go_enter func122,ntmps122;go_wp2_with fail;go_loopw [4,5] (fun a0 i wr=>∃f:Nat,f<=m.length/\i=II f/\a0=ld m (kF p.fN f)/\Bw b wr) (fun _ i _=>m.length-(aQ i).toNat);case atStart=>exact⟨0,be _,rfl,rfl,Below.refl _ _⟩
 case round=>
  obtain⟨f,b3,rfl,rfl,B⟩:=hrel;have c2:=fL a7 B;have j:=fK B;clear B;by_cases a5:f<m.length
  ·obtain⟨a1,b0,P,_,b2,_⟩:=iC O.out (by omega);simp only[Value.slice.injEq]at P;obtain⟨rfl,_,rfl⟩:=P;obtain⟨o,E⟩:∃o,m[f]? =some o:=⟨_,ap a5⟩;obtain⟨c,Q⟩:∃c,p.fN[f]? =some c:=⟨_,ap (by omega)⟩;obtain⟨V,W,R⟩:=z.out f c o Q E;have b5:CV wr a1 f (Pt o):=fL (by rw[O.out.cellAt f (by omega)];simp[jm,vR,E]) j.out;have b6:CI wr o 10 c.waits:=fL (by simp[aD,R,gn]) j.out;have y:km p.fN f=c.waits:=by simp[km,Q]
   have T:ld m (some f)=Pt o:=by simp[ld,bR,E]
   have L:=fK T;clear T R;cases l:kF p.fN f with
   |none=>
    have t:Hid (kF p.fN (f+1)=if 0<c.waits then some f else none):=by show _=_;simp only[kF,l,y]
    clear l y;rcases bO 0 c.waits with s|s
    ·have D:decide (0<c.waits)=true:=by simpa using s
     simp only[ld];have K:=BZ wr;go_wp2_with fail;go_quiet (fail);go_wp2_with fail;go_roundw;case rel=>exact⟨f+1,by omega,by go_num,by rw[t.out,if_pos s];exact L.out.symm,fQ j.out _⟩
     case measure=>simp[aQ];omega
    ·have D:decide (0<c.waits)=false:=by simpa using s
     simp only[ld];have K:=BZ wr;go_wp2_with fail;go_quiet (fail);go_wp2_with fail;go_roundw;case rel=>exact⟨f+1,by omega,by go_num,by rw[t.out,if_neg (by omega)],fQ j.out _⟩
     case measure=>simp[aQ];omega
   |some n=>
    have a3:=tS l;obtain⟨g,v⟩:∃o,m[n]? =some o:=⟨_,ap (by omega)⟩;obtain⟨k,w⟩:∃c,p.fN[n]? =some c:=⟨_,ap (by omega)⟩;obtain⟨I,J,q⟩:=z.out n k g w v;have b7:CI wr g 10 k.waits:=fL (by simp[aD,q,gn]) j.out;have u:ld m (some n)=Pt g:=by simp[ld,bR,v]
    have t:Hid (kF p.fN (f+1)=if 0<c.waits/\c.waits<k.waits then some f else some n):=by
     show _=_;have a6:km p.fN n=k.waits:=by simp[km,w]
     simp only[kF,l,y,a6]
    clear l y q;rw[u];have K:=ED wr g;have M:=fK u;clear u;rcases bO 0 c.waits with s|s
    ·have D:decide (0<c.waits)=true:=by simpa using s
     rcases bO c.waits k.waits with x|x
     ·have a2:decide (c.waits<k.waits)=true:=by simpa using x
      go_wp2_with fail;go_quiet (fail);go_wp2_with fail;go_roundw;case rel=>exact⟨f+1,by omega,by go_num,by rw[t.out,if_pos ⟨s,x⟩,L.out],fQ j.out _⟩
      case measure=>simp[aQ];omega
     ·have a2:decide (c.waits<k.waits)=false:=by simpa using x
      go_wp2_with fail;go_quiet (fail);go_wp2_with fail;go_roundw;case rel=>exact⟨f+1,by omega,by go_num,by rw[t.out,if_neg (by omega),M.out],fQ j.out _⟩
      case measure=>simp[aQ];omega
    ·have D:decide (0<c.waits)=false:=by simpa using s
     go_wp2_with fail;go_quiet (fail);go_wp2_with fail;go_roundw;case rel=>exact⟨f+1,by omega,by go_num,by rw[t.out,if_neg (by omega),M.out],fQ j.out _⟩
     case measure=>simp[aQ];omega
  ·obtain rfl:f=m.length:=by omega
   have N:=fK a4;cases l:kF p.fN m.length with
   |none=>have A:=fK l;clear l;simp only[ld];go_wp2_with fail;go_ret2;rw[<-N.out,A.out];exact⟨rfl,j.out⟩
   |some n=>
    have a3:=tS l;obtain⟨g,v⟩:∃o,m[n]? =some o:=⟨_,ap (by omega)⟩;obtain⟨k,w⟩:∃c,p.fN[n]? =some c:=⟨_,ap (by omega)⟩;obtain⟨I,J,q⟩:=z.out n k g w v;have b9:CI wr g 10 k.waits:=fL (by simp[aD,q,gn]) j.out;have b8:CI wr g 0 k.fZ:=fL (by simp[aD,q,gn]) j.out;have C:wr.heap[g]? =some (.cells (gn k I J) 249 (0,0)):=by rw[j.out.block g (bn.1 q).1];exact q
    have c3:∀H,mc wr g H:=fun H=>cx wr g H _ _ C;have Y:=fK C;clear C;have u:ld m (some n)=Pt g:=by simp[ld,bR,v]
    rw[u];have A:=fK l;have X:=fK q;clear l q u;go_wp2_with fail;go_ret2;rw[<-N.out,A.out];exact⟨k,g,I,J,w,v,rfl,go j.out _ _,X.out,(fT Y.out _ _).trans rfl⟩
theorem tD{s:gs}{bv:aM}:∀(l:List gs) (rT:List aM),rT.length=l.length->kc (l++[s]) (rT++[bv])=kc l rT++s.cells bv
 |[],[],_=>by simp[kc]
 |a::l,b::rT,h=>by have ih:=tD (s:=s) (bv:=bv) l rT (by simpa using h);simp[kc,ih]
 |[],b::rT,h=>by simp at h
 |a::l,[],h=>by simp at h
theorem BU:(ab.info? 252).map (fun i=>(i.zero,i.size,i.bytes))=some (some (.agg #[ai none 0 0,II 0,II 0,II 0,II 0,.bool false,.bool false]),7,64):=by kernel_rfl
def OO(cb:Nat)(sv:aM)(k:Nat):Prop:=k=cb\/sv.ownBlock=some k
structure Bm(w:aK)(base:Nat)(c:fV)(cb:Nat)(rv sv:aM)(rT:List aM)(l:List gs)(w':aK)(PX:aM)(Kt:List aM):Prop where
 gx:gm (OO cb sv) w w'
 iq:w'.heap[cb]? =some (.cells (gn {c with fM:=l} rv PX) 249 (0,0))
 row:w'.ownsRow base 252 7 PX l.length (kc l Kt)
 len:Kt.length=l.length
 news:Kt=rT++aT (l.length-c.fM.length) (ai none 0 0)
 pT:∀g,PX.ownBlock=some g->g<w.heap.size->sv.ownBlock=some g
def Hp(w:aK)(a:Addr):Nat:=oB ((w.cell? a).getD (ag none))
theorem vU(b:fV)(n:Int)(g:Nat)(e cb w:Nat)(L q:aM)(s:List aM)(f:aK)(T:CI f e 2 n)(O:f.heap[cb]? =some (.cells (gn b L q) 249 (0,0)))
  (m:f.ownsRow w 252 7 q b.fM.length (kc b.fM s)) (Z:s.length=b.fM.length) (b4:w<=f.heap.size) (b7:g<=1073741823) (a3:e≠cb) (a5:q.ownBlock≠some e) (b5:b.fM.length<=g):
  aL ab 187 #[Pt e,Pt cb,II g] f fun j b2=>j=.returned (.tuple #[])/\
   ∃B o,Bm f w b cb L q s (jH n b.fM g) b2 B o:=by
 obtain⟨b0,hi,a7,a8,a9⟩:=aP BU;have a4:e<f.heap.size:=hK T;have U:=fK O;have W:=fK m;clear O m;go_enter func187,ntmps187;go_wp2_with fail;go_loopw [] (fun wr=>∃(c:Nat) (B:aM) (o:List aM),b.fM.length+c<=g/\Bm f w b cb L q s (b.fM++aT c (gP n)) wr B o/\wr.cell? (Ad e 2)=some (II n)) (fun wr=>g-Hp wr (Ad cb 9));case atStart=>
  refine⟨0,q,s,by omega,⟨gm.refl _ _,?_,?_,?_,?_,fun D t _=>t⟩,T⟩
  ·simpa using U.out
  ·simpa using W.out
  ·simpa using Z
  ·simp
 case round=>
  obtain⟨c,B,o,b6,x,b1⟩:=hrel;obtain⟨H,J,rfl⟩:=gr x.row;have u:=x.iq;have z:(b.fM++aT c (gP n)).length=b.fM.length+c:=by simp
  have d:=fK x;clear x;rw[z]at u d;have N:CV wr cb 9 (.slice H (b.fM.length+c) J):=by simp[aD,u,gn]
  have c3:∀h,mc wr cb h:=fun h=>cx wr cb h _ _ u;have M:=fK u;clear u;by_cases b8:b.fM.length+c<g
  ·have m:=d.out.row;rw[z]at m;have a1:=fR m M.out (by decide);have a0:cb<wr.heap.size:=hK N;have a6:=d.out.gx.size;have V:=fK m;clear m;go_wp2_with fail;go_region_law (refine mW rfl (.tmp 17) (.tmp 24) rfl b0 underlying247 hi a7 a8 a9 rfl (by decide) rfl (V.out.alloc _) rfl rfl (gY (by simp[aO,gs.cells])) (by simp[gs.cells,gP,bM]) (by unfold aO;omega) (by omega) (by simp[cq];omega) ?_;intro b9 C A l E;obtain⟨I,K,rfl⟩:=gr A;have v:=ga (b:=wr) (World.grownBy.mk l.os l.tape l.output l.size l.block);have k:=(v.block cb a0 (ch a1)).trans M.out;have b3:CV C cb 9 (.slice H (b.fM.length+c) J):=(by simp[aD,k,gn]);have c2:mc C cb 9:=cx C cb 9 _ _ k;replace A:=fK A;replace l:=fK v;replace E:=fK E;replace k:=fK k;clear v;refine Hid.out ?_;refine fK ?_);all_goals
    go_roundw;case rel=>
     have y:=d.out.gx;have R:=A.out;have p:=l.out;have a2:=fR R k.out (by decide);have Q:=d.out.len;refine⟨_,_,_,_,_,_,_,_,_,_,_,_,_,_,_,_,_,_,_,_,_,_,?_,rfl⟩;refine⟨c+1,.slice I (b.fM.length+c+1) K,o++[ai none 0 0],by omega,⟨?_,?_,?_,?_,?_,?_⟩,?_⟩
     ·refine⟨p.os.trans y.os,p.tape.trans y.tape,p.output.trans y.output,?_,fun h S G=>?_⟩
      ·rw[bQ];exact bZ a6 p.size
      ·have Y:h≠cb:=fun j=>G (bg j);rw[cy _ _ _ _ Y,p.block h (by omega) (fun j=>G (bf (d.out.pT h j.symm S))),y.block h S G]
     ·exact(fT k.out _ _).trans rfl
     ·rw[b_,<-List.append_assoc,tD _ _ Q,bL,z];exact cC R a2 _
     ·rw[bL,Q,z];simp;omega
     ·rw[d.out.news];simp;rw[show c+1=c+1 from rfl,b_]
     ·intro D P v;rcases E.out with t|t
      ·exact d.out.pT D (t.symm.trans P) v
      ·have:=t D P;simp[cq]at this;omega
     ·exact(cn (a:=Ad e 2) (cy _ _ _ _ a3)).trans <|(cn (a:=Ad e 2) (p.block e (by omega) (fun j=>a5 (d.out.pT e j.symm a4)))).trans b1
    case measure=>
     have X:(C.setCell (Ad cb 9) (.slice I (b.fM.length+c+1) K)).cell? (Ad cb 9)=some (.slice I (b.fM.length+c+1) K):=by simp only[aD,fT k.out _ _];rfl
     simp only[Hp,X,N,Option.getD_some,oB];omega
  ·obtain rfl:g=b.fM.length+c:=by omega
   go_wp2_with fail;go_end0;refine⟨rfl,.slice H (b.fM.length+c) J,o,?_⟩;have:jH n b.fM (b.fM.length+c)=b.fM++aT c (gP n):=by simp[jH]
   rw[this];exact d.out
def gj(l:List (Int×aM)):List aM:=l.flatMap fun x=>[II x.1,x.2]
theorem ln{B:List (Int×aM)}:(gj B).length=B.length*2:=by
 induction B with
 |nil=>rfl
 |cons b r a=>simp only[gj,List.flatMap_cons,bL]at a⊢;grind
theorem kv(a b:List (Int×aM)):gj (a++b)=gj a++gj b:=by simp[gj]
theorem sZ:(ab.info? 60).map (fun i=>(i.zero,i.size,i.bytes))=some (some (.agg C'),2,32):=by kernel_rfl
def O3(sb cb:Nat)(ov:aM)(k:Nat):Prop:=k=sb\/k=cb\/ov.ownBlock=some k
structure CX(w:aK)(s:gg)(c:fV)(sb cb ob:Nat)(cv ov rv sv:aM)(out:List (Int×aM))(b:List Int)(w':aK)(bv uV:aM):Prop where
 gx:gm (O3 sb cb ov) w w'
 iN:w'.heap[sb]? =some (.cells (gh s cv uV) 242 (0,0))
 iq:w'.heap[cb]? =some (.cells (gn {c with gS:=c.gS+b.length} rv sv) 249 (0,0))
 row:w'.ownsRow ob 60 2 uV (out.length+1) (gj (out++[(c.addr,bv)]))
 bytes:w'.ownsRow w.heap.size 5 1 bv b.length (U8 b)
 pT:∀g,uV.ownBlock=some g->g<w.heap.size->ov.ownBlock=some g
def uv(w:aK)(s:gg)(c:fV)(sb cb ob:Nat)(cv ov rv sv:aM)(out:List (Int×aM))(b:List Int)(w':aK):Prop:=
 if l' c b.length then ∃bv uV,CX w s c sb cb ob cv ov rv sv out b w' bv uV else Bw w w'
theorem JC{cb:Nat}(X:b.heap[a]? =some (.cells (gh p e h) 242 (0,0)))(Q:b.heap[cb]? =some (.cells (gn j q M) 249 (0,0)))
  (b4:b.ownsRow f 60 2 h out.length (gj out)) (b0:b.ownsRow n 5 1 w9 k.length (U8 k)) (h1:0<k.length/\k.length<=900) (i8:f<=b.heap.size) (d2:0<=j.fZ/\j.fZ<=1073741823) (h2:0<=j.gR/\j.gR<=1125899906842624) (h6:0<=j.gS/\j.gS<=1125899906842624) (i9:out.length<=1000000):
  aL ab 192 #[Pt a,Pt cb,w9] b fun w i1=>w=.returned (.tuple #[])/\uv b p j a cb f e h q M out (jn j.fZ k) i1:=by
 obtain⟨f2,hi,e9,f0,f1⟩:=aP sZ;have e0:=lH X Q;have e8:a<b.heap.size:=(bn.1 X).1;have d3:cb<b.heap.size:=(bn.1 Q).1;have c0:CI b cb 0 j.fZ:=by simp[aD,Q,gn]
 obtain⟨g5,g4,rfl⟩:=gB b0;obtain⟨s,o,rfl⟩:=gr b4;have h5:=hJ j.fZ;have g1:=fK X;have f8:=fK Q;have g0:=fK b4;have c4:Hid (∀c:aK,c=b.alloc (.cells #[.int .u8 4] 5)->c.ownsRow 0 5 1 (ai (some (gf b 0)) 1 1) 1 (U8 [4])/\c.ownsRow 0 5 1 (.slice g5 k.length g4) k.length (U8 k)/\Bw b c):=by rintro c rfl;exact⟨gq (mw _ _ _ (by simp[U8,aO])) (be _),(gq b0 (be _)).alloc _,fO _ _⟩
 clear X Q b4 b0;go_enter func192,ntmps192;go_wp2_with fail;obtain⟨d8,d4,c7⟩:=c4.out _ rfl;clear c4;refine(lm d2.1 d2.2).mono ?_;rintro w j5 ⟨j3,rfl,e2,V⟩;have d9:=gp d8 V;have d5:=gp d4 V;have c9:=fP c7 V;have e5:=gq e2 (be _);clear d8 d4 V e2 c7;go_wp2_with fail;refine(jO d9 e5 (by simp) h5.2 (by simp) (by omega)).mono ?_;rintro w g ⟨j4,rfl,e3,a7⟩;have d6:=gp d5 a7;have a8:=fP c9 a7;have e6:=gq e3 (be _);clear d9 d5 e5 a7 c9 e3;go_wp2_with fail;refine(jO e6 d6 (by simp) h1.1 (by simp;omega) (by omega)).mono ?_;rintro w l ⟨i0,rfl,e4,c8⟩;have W:=fP a8 c8;have U:l.ownsRow b.heap.size 5 1 i0 (jn j.fZ k).length (U8 (jn j.fZ k)):=gq e4 a8.size;have g8:(jn j.fZ k).length<=1000:=by simp[jn];omega
 clear d6 e6 c8 a8 e4;obtain⟨d,a9⟩:∃d,jn j.fZ k=d:=⟨_,rfl⟩;rw[a9]at U g8;have a0:=fK a9;clear a9;obtain⟨P,O,rfl⟩:=gB U;have b6:l.heap[a]? =some (.cells (gh p e (.slice s out.length o)) 242 (0,0)):=by rw[W.block a e8];exact g1.out
 have H:l.heap[cb]? =some (.cells (gn j q M) 249 (0,0)):=by rw[W.block cb d3];exact f8.out
 have b7:CV l cb 2 (.bool j.fY):=by simp[aD,H,gn]
 have f5:CI l cb 3 j.gR:=by simp[aD,H,gn]
 have f6:CI l cb 4 j.gS:=by simp[aD,H,gn]
 have f4:CI l cb 1 j.addr:=by simp[aD,H,gn]
 have f7:mc l cb 4:=cx l cb 4 _ _ H;have f3:CV l a 13 (.slice s out.length o):=by simp[aD,b6,gh,g_.cells]
 have b9:=fK U;have Z:=fK W;have g2:=fK b6;have a1:=fK H;clear U W b6 H;obtain⟨i3,i4⟩:=h2;obtain⟨j1,j2⟩:=h6;have S:Hid (l' j d.length=(j.fY || decide (j.gS+d.length<=3*j.gR))):=rfl;have c2:=fK (gp g0.out Z.out);have T:Hid (∀(R:Nat) (c:aK),c=(l.drewN R).setCell (Ad cb 4) (II (j.gS+d.length))->c.heap[a]? =some (.cells (gh p e (.slice s out.length o)) 242 (0,0))/\c.heap[cb]? =some (.cells (gn {j with gS:=j.gS+d.length} q M) 249 (0,0))/\
   c.ownsRow f 60 2 (.slice s out.length o) out.length (gj out)/\c.ownsRow b.heap.size 5 1 (.slice P d.length O) d.length (U8 d)/\gm (· = cb) b c):=by
  rintro R c rfl;refine⟨?_,?_,?_,?_,?_⟩
  ·rw[cy _ _ _ _ e0];exact g2.out
  ·exact(fT (show(l.drewN R).heap[cb]? =_ from a1.out) _ _).trans rfl
  ·exact cC (show(l.drewN R).ownsRow f 60 2 (.slice s out.length o) out.length (gj out) from c2.out) (fR c2.out a1.out (by decide)) _
  ·exact cC (show(l.drewN R).ownsRow b.heap.size 5 1 (.slice P d.length O) d.length (U8 d) from b9.out) (fR b9.out a1.out (by decide)) _
  ·exact go (fQ Z.out _) _ _
 have c3:Hid (∀(c g:aK) (x:Option Addr) (y:Nat),gm (· = cb) b c->c.heap[a]? =some (.cells (gh p e (.slice s out.length o)) 242 (0,0))->c.heap[cb]? =some (.cells (gn {j with gS:=j.gS+d.length} q M) 249 (0,0))->
   c.ownsRow b.heap.size 5 1 (.slice P d.length O) d.length (U8 d)->c.ownsRow f 60 2 (.slice s out.length o) out.length (gj out)->
   g.ownsRow f 60 2 (.slice x (out.length+1) y) (out.length+1) (gj out++[II j.addr,.slice P d.length O])->c.grownBy g (.slice s out.length o:aM).ownBlock->((.slice x (out.length+1) y:aM).ownBlock=(.slice s out.length o:aM).ownBlock\/∀G,(.slice x (out.length+1) y:aM).ownBlock=some G->c.heap.size<=G)->
   CX b p j a cb f e (.slice s out.length o) q M out d (g.setCell (Ad a 13) (.slice x (out.length+1) y)) (.slice P d.length O) (.slice x (out.length+1) y)):=by
  intro c g x y A c6 c5 d0 b3 e1 t z;have h3:=fR b3 c6 (by decide);have h4:=fR b3 c5 (by decide);have a6:g.heap[a]? =_:=(t.block a (ca e8 A.size) (ch h3)).trans c6;have g9:g.heap[cb]? =_:=(t.block cb (ca d3 A.size) (ch h4)).trans c5;have d1:=d0.kept t (pq d0 b3 (by decide));refine⟨⟨t.os.trans A.os,t.tape.trans A.tape,t.output.trans A.output,?_,fun Y e7 b1=>?_⟩,?_,?_,?_,?_,?_⟩
  ·rw[bQ];exact bZ A.size t.size
  ·have g6:Y≠a:=fun w=>b1 (bg w);have g7:Y≠cb:=fun w=>b1 (bf (bg w));rw[cy _ _ _ _ g6,t.block Y (ca e7 A.size) (fun w=>b1 (bf (bf w.symm))),A.block Y e7 g7]
  ·exact(fT a6 _ _).trans rfl
  ·rw[cy _ _ _ _ (ch e0)];exact g9
  ·rw[kv];exact cC e1 (fR e1 a6 (by decide)) _
  ·exact cC d1 (fR d1 a6 (by decide)) _
  ·intro G d7 i7;rcases z with u|u
   ·exact u.symm.trans d7
   ·have:=u G d7;have:=A.size;omega
 generalize j0:j.fY=h7 at b7 S;cases h7
 ·rcases bO (3*j.gR) (j.gS+d.length) with i5|i6
  ·have f9:l' j d.length=false:=by rw[S.out];simp;omega
   go_wp2_with fail;go_quiet (fail);go_wp2_with fail;refine cz (results_none rfl _ _ _) rfl ?_;refine⟨rfl,?_⟩;unfold uv;rw[a0.out,f9,if_neg (by decide)];exact fQ Z.out _
  ·have a2:l' j d.length=true:=by rw[S.out];simp;omega
   go_wp2_with fail;go_quiet (fail);go_wp2_with fail;obtain⟨v,C,D,K,E⟩:=T.out nq _ rfl;clear T;generalize (l.drewN nq).setCell (Ad cb 4) (II (j.gS+d.length))=c at v C D K E⊢;have b8:CV c a 13 (.slice s out.length o):=by simp[aD,v,gh,g_.cells]
   have h8:CI c cb 1 j.addr:=by simp[aD,C,gn]
   have b5:a<c.heap.size:=hK b8;have h0:=E.size;have b2:=fR D v (by decide);have L:=fK v;have a3:=fK C;have N:=fK D;have a4:=fK K;have a5:=fK E;clear v C D K E f4 b7 f5 f6 f7 f3;go_region_law (refine mW rfl (.tmp 50) (.tmp 57) rfl f2 underlying47 hi e9 f0 f1 rfl (by decide) rfl (N.out.alloc _) rfl rfl (gY (by simp[aO])) (by simp[bM]) (by unfold aO;omega) (by omega) (by simp[cq];omega) ?_;intro h9 g B m z;obtain⟨x,y,rfl⟩:=gr B;have J:=ga (b:=c) (World.grownBy.mk m.os m.tape m.output m.size m.block);have I:=(J.block a b5 (ch b2)).trans L.out;have g3:CV g a 13 (.slice s out.length o):=(by simp[aD,I,gh,g_.cells]);have i2:mc g a 13:=cx g a 13 _ _ I;replace B:=fK B;replace m:=fK J;replace z:=fK z;clear J I;refine Hid.out ?_;refine fK ?_);all_goals
    go_end0;refine⟨rfl,?_⟩;unfold uv;rw[a0.out,a2,if_pos rfl];refine⟨_,_,c3.out c g x y a5.out L.out a3.out a4.out N.out B.out m.out ?_⟩;rcases z.out with u|u
    ·exact bg u
    ·refine bf fun G t=>?_;have:=u G t;simp[cq]at this;omega
 ·have a2:l' j d.length=true:=by rw[S.out];simp
  go_wp2_with fail;go_quiet (fail);go_wp2_with fail;obtain⟨v,C,D,K,E⟩:=T.out nq _ rfl;clear T;generalize (l.drewN nq).setCell (Ad cb 4) (II (j.gS+d.length))=c at v C D K E⊢;have b8:CV c a 13 (.slice s out.length o):=by simp[aD,v,gh,g_.cells]
  have h8:CI c cb 1 j.addr:=by simp[aD,C,gn]
  have b5:a<c.heap.size:=hK b8;have h0:=E.size;have b2:=fR D v (by decide);have L:=fK v;have a3:=fK C;have N:=fK D;have a4:=fK K;have a5:=fK E;clear v C D K E f4 b7 f5 f6 f7 f3;go_region_law (refine mW rfl (.tmp 50) (.tmp 57) rfl f2 underlying47 hi e9 f0 f1 rfl (by decide) rfl (N.out.alloc _) rfl rfl (gY (by simp[aO])) (by simp[bM]) (by unfold aO;omega) (by omega) (by simp[cq];omega) ?_;intro h9 g B m z;obtain⟨x,y,rfl⟩:=gr B;have J:=ga (b:=c) (World.grownBy.mk m.os m.tape m.output m.size m.block);have I:=(J.block a b5 (ch b2)).trans L.out;have g3:CV g a 13 (.slice s out.length o):=(by simp[aD,I,gh,g_.cells]);have i2:mc g a 13:=cx g a 13 _ _ I;replace B:=fK B;replace m:=fK J;replace z:=fK z;clear J I;refine Hid.out ?_;refine fK ?_);all_goals
   go_end0;refine⟨rfl,?_⟩;unfold uv;rw[a0.out,a2,if_pos rfl];refine⟨_,_,c3.out c g x y a5.out L.out a3.out a4.out N.out B.out m.out ?_⟩;rcases z.out with u|u
   ·exact bg u
   ·refine bf fun G t=>?_;have:=u G t;simp[cq]at this;omega
def tt(sb cb sr:Nat)(ov:aM)(k:Nat):Prop:=k=sb\/k=cb\/k=sr\/ov.ownBlock=some k
def nM(sb cb sr ob:Nat)(k:Nat):Prop:=k=sb\/k=cb\/k=sr\/ob<=k
def nx(w:aK)(ob:Nat)(out:List (Int×aM))(ii:List (Int×List Int)):Prop:=
 out.length=ii.length/\∀(i:Nat) x y,out[i]? =some x->ii[i]? =some y->x.1=y.1/\w.ownsRow ob 5 1 x.2 y.2.length (U8 y.2)
theorem nx.gx(h:nx w a out t)(m:gm F w b)(l:∀e j k,w.heap[e]? =some (.cells j 5 k)->¬F e):nx b a out t:=
 ⟨h.1,fun i f g c d=>⟨(h.2 i f g c d).1,gI (h.2 i f g c d).2 m l⟩⟩
theorem nx.snoc{e:Nat}(h:nx w e out t){a:Int}{v:aM}{l:List Int}(j:w.ownsRow e 5 1 v l.length (U8 l)):nx w e (out++[(a,v)]) (t++[(a,l)]):=by
 refine⟨by simp[h.1],fun i f g c d=>?_⟩;rcases Nat.lt_trichotomy i out.length with b|b|b
 ·rw[aZ b]at c;rw[aZ (by rw[<-h.1];exact b)]at d;exact h.2 i f g c d
 ·subst b;rw[bN (ar _)]at c;rw[h.1,bN (ar _)]at d;grind
 grind
structure gF(w:aK)(s:gg)(sb:Nat)(jf ke:List Nat)(cv ov:aM)(ob:Nat)(out:List (Int×aM))(ii:List (Int×List Int)):Prop where
 iN:w.heap[sb]? =some (.cells (gh s cv ov) 242 (0,0))
 row:w.ownsRow 0 244 1 cv jf.length (jm jf)
 jN:w.ownsRow ob 60 2 ov out.length (gj out)
 mM:nx w ob out ii
 iD:jf.length=s.fN.length
 jv:ke.length=s.fN.length
 Ga:jf.Nodup
 Gb:ke.Nodup
 iq:∀(i:Nat) c cb sr,s.fN[i]? =some c->jf[i]? =some cb->ke[i]? =some sr->lf w 0 c cb sr
theorem lf.cb{cb sr:Nat}(h:lf w base j cb sr):∃a b,w.heap[cb]? =some (.cells (gn j a b) 249 (0,0)):=by obtain⟨a,e,c,d,_⟩:=h;grind
theorem lf.sr{cb sr:Nat}(h:lf w base j cb sr):∃a,w.heap[sr]? =some (.cells a 252 (0,0)):=by obtain⟨d,e,c,_,_,_,b,_⟩:=h;exact fX b rfl
theorem lf.gx{cb sr:Nat}(h:lf w base j cb sr)(c:gm F w b)(h1:¬F cb)(h2:¬F sr)(m:∀a d e,w.heap[a]? =some (.cells d 294 e)->¬F a)(l:∀a d e,w.heap[a]? =some (.cells d 3 e)->¬F a):lf b base j cb sr:=by
 obtain⟨v,y,k,f,t,q,s,n⟩:=h;refine⟨v,y,k,?_,t.gx c m,q,gM s c (fun z p=>?_),fun i x g u o=>(n i x g u o).gx c l⟩
 ·rw[c.block cb (bn.1 f).1 h1];exact f
 ·simp only[aq,Option.some.injEq]at p;grind
theorem nm{cb sr:Nat}{f:Array aM}(u:b.heap[a]? =some (.cells D 242 (0,0)))(s:b.heap[cb]? =some (.cells x7 249 (0,0)))(t:b.heap[sr]? =some (.cells f 252 (0,0)))(l:b.ownsRow n 60 2 e A o)
  {z:bG} (m:z≠242) (p:z≠249) (q:z≠252) (j:z≠60) (c:Nat) (d:Array aM) (g:Nat×Nat) (k:b.heap[c]? =some (.cells d z g)):¬tt a cb sr e c:=by
 rintro(rfl|rfl|rfl|h)
 ·grind
 ·grind
 ·grind
 ·exact fR l k (fun z=>j z.symm) h
theorem gF.LW{s':gg}{G:aM}(h:gF w s a m v e G d out t)
  {i:Nat} {j c':fV} {cb sr LJ:Nat} (hi:s.fN[i]? =some j) (q:m[i]? =some cb) (l:v[i]? =some sr) (C:gm (tt a cb sr G) w b) (u:s'.fN=s.fN.set i c')
  {uV:aM} {nX:List (Int×aM)} {pU:List (Int×List Int)} (R:b.heap[a]? =some (.cells (gh s' e uV) 242 (0,0))) (N:b.ownsRow d 60 2 uV nX.length (gj nX)) (K:nx b d nX pU)
  (J:lf b 0 c' cb LJ) (P:LJ=sr\/w.heap.size<=LJ):gF b s' a m (v.set i LJ) e uV d nX pU:=by
 have B:=h.iq i j cb sr hi q l;obtain⟨_,_,L⟩:=B.cb;obtain⟨_,O⟩:=B.sr;have z:=fun {A:bG} c g f h4=>nm (z:=A) h.iN L O h.jN c g f h4;refine⟨R,gI h.row C (z (by decide) (by decide) (by decide) (by decide)),N,K,by rw[h.iD,u,bT],by rw[u,bT,bT,h.jv],h.Ga,?_,?_⟩
 ·rcases P with rfl|c
  ·rw[ia l];exact h.Gb
  ·refine Jb h.Gb (fun M=>?_) i;obtain⟨n,D⟩:=cj.1 M;have E:=(bo.1 D).1;obtain⟨_,S⟩:=(h.iq n _ _ LJ (ap (by rw[<-h.jv];exact E)) (ap (by rw[h.iD,<-h.jv];exact E)) D).sr;grind
 ·intro n I H Q c g f;rw[u]at c;by_cases k:n=i
  ·subst k;rw[getElem?_set_at hi]at c;rw[getElem?_set_at l]at f;rw[q]at g;obtain rfl:=Option.some.inj c;obtain rfl:=Option.some.inj g;obtain rfl:=Option.some.inj f;exact J
  ·rw[getElem?_set_other k]at c f;have p:=h.iq n I H Q c g f;obtain⟨_,_,x⟩:=p.cb;obtain⟨_,y⟩:=p.sr;refine p.gx C ?_ ?_ (z (by decide) (by decide) (by decide) (by decide)) (z (by decide) (by decide) (by decide) (by decide))
   ·rintro(rfl|rfl|rfl|o)
    ·rw[h.iN]at x;simp at x
    ·exact DX h.Ga g q k rfl
    ·grind
    ·exact fR h.jN x (by decide) o
   ·rintro(rfl|rfl|rfl|o)
    ·rw[h.iN]at y;simp at y
    ·grind
    ·exact DX h.Gb f l k rfl
    ·exact fR h.jN y (by decide) o
theorem gF.below{k:aM}(h:gF w s a m v e k d out t)(g:Bw w b):gF b s a m v e k d out t:=by have f:gm (fun _=>False) w b:=gm.fU g;have c:∀{o:bG},∀j n p,w.heap[j]? =some (.cells n o p)->¬(fun _:Nat=>False) j:=fun _ _ _ _ h=>h;refine⟨by rw[g.block a (bn.1 h.iN).1];exact h.iN,gI h.row f c,gI h.jN f c,h.mM.gx f c,h.iD,h.jv,h.Ga,h.Gb,fun i l cb sr q u x=>(h.iq i l cb sr q u x).gx f (fun h=>h) (fun h=>h) c c⟩
theorem gm.call{cb sr c:Nat}{xs:List aM}(h:gm (tt a cb sr e) w b)(f:w.ownsRow c 60 2 e n xs):gm (nM a cb sr c) w b:=
 h.mono fun g _ d=>by
  rcases d with h|h|h|h
  ·exact bg h
  ·exact bf (bg h)
  ·exact bf (bf (bg h))
  ·exact bf (bf (bf (f.lt g h).1))
def lU(B:Nat)(cv zu:aM):Prop:=∀k,zu.ownBlock=some k->cv.ownBlock=some k\/B<=k
theorem lU.refl(b:Nat)(a:aM):lU b a a:=fun _ c=>bg c
theorem qK(b:w7/\lU a e h)(f:d<=a):w7/\lU d e h:=⟨b.1,fun j g=>(b.2 j g).imp id fun c=>bZ f c⟩
theorem oY{c:Prop}(j:w7/\lU a e h)(g:c/\lU d h q)(k:a<=d):c/\lU a e q:=⟨g.1,fun f l=>(g.2 f l).elim (fun b=>j.2 f b) (fun b=>bf (bZ k b))⟩
def Leaves(w:aK)(sb:Nat)(jf ke:List Nat)(Sj:aM)(cb sr ob:Nat)(s:gg)(ii:List (Int×List Int))(w':aK):Prop:=
 ∃cv ov out,gF w' s sb jf ke cv ov ob out ii/\gm (nM sb cb sr ob) w w'/\(out.length<=ii.length/\lU w.heap.size Sj cv)
theorem yG{cb sr z7:Nat}(a:gF b p d m v e h A out t)(hi:p.fN[i]? =some j)(E:m[i]? =some cb)(B:v[i]? =some sr)
  (N:b.ownsRow z7 5 1 q k.length (U8 k)) (O:0<k.length/\k.length<=900) (I:A<=b.heap.size) {c:Int} (z:hS c j) (a5:c<=1125899906842624) (S:t.length<=1000000):
  aL ab 192 #[Pt d,Pt cb,q] b fun n C=>n=.returned (.tuple #[])/\Leaves b d m v e cb sr A {p with fN:=p.fN.set i (hE j k)} (ig j k t) C:=by
 have D:=a.iq i j cb sr hi E B;obtain⟨a1,s⟩:=D.sr;obtain⟨Y,Z,J,H,T,Q,R,L⟩:=D;have a3:=z.gR;have a4:=z.gS;refine(JC a.iN H a.jN N O I z.fZ (by omega) (by omega) (by rw[a.mM.1];exact S)).mono ?_;rintro n C ⟨rfl,g⟩;refine⟨rfl,?_⟩;unfold uv at g;by_cases l:l' j (jn j.fZ k).length=true
 ·rw[if_pos l]at g;obtain⟨u,X,f⟩:=g;have o:gm (tt d cb sr h) b C:=f.gx.mono fun a6 _ P=>by
   rcases P with a|a|a
   ·exact bg a
   ·exact bf (bg a)
   ·exact bf (bf (bf a))
  have y:=fun {n:bG} h1 h2 h3 h4=>nm (z:=n) a.iN H s a.jN h1 h2 h3 h4;have w:hE j k = {j with gS:=j.gS+(jn j.fZ k).length}:=by unfold hE;rw[if_pos l]
  have x:ig j k t=t++[(j.addr,jn j.fZ k)]:=by unfold ig;rw[if_pos l]
  rw[w,x];refine⟨e,X,out++[(j.addr,u)],?_,o.call a.jN,by simp[a.mM.1],lU.refl _ _⟩;have U:v=v.set i sr:=(ia B).symm;rw[U];refine a.LW hi E B o rfl f.iN ?_ ((a.mM.gx o (y (by decide) (by decide) (by decide) (by decide))).snoc (gq f.bytes I)) ⟨Y,Z,J,f.iq,T.gx o (y (by decide) (by decide) (by decide) (by decide)),Q,gM R f.gx (fun a2 G=>?_),fun W a0 u V M=>(L W a0 u V M).gx o (y (by decide) (by decide) (by decide) (by decide))⟩ (bg rfl)
  ·rw[bL];exact f.row
  ·simp only[aq,Option.some.injEq]at G;subst G;rintro(rfl|rfl|K)
   ·rw[a.iN]at s;simp at s
   ·grind
   ·exact fR a.jN s (by decide) K
 ·rw[if_neg l]at g;have w:hE j k=j:=by unfold hE;rw[if_neg l]
  have x:ig j k t=t:=by unfold ig;rw[if_neg l]
  rw[w,x,ia hi];exact⟨e,h,out,a.below g,gm.fU g,Nat.le_of_eq a.mM.1,lU.refl _ _⟩
theorem uJ:∀{l:List Nat} {i:Nat} {a:Nat},l.Nodup->l[i]? =some a->l.filter (· != a)=l.eraseIdx i
 |[],i,a,_,hi=>by simp at hi
 |x::r,0,a,hn,hi=>by simp only[ce,Option.some.injEq]at hi;subst hi;simp only[List.nodup_cons]at hn;simp only[List.eraseIdx_cons_zero];rw[List.filter_cons_of_neg (by simp)];rw[List.filter_eq_self];intro y hy;simp only[bne_iff_ne,ne_eq];rintro rfl;exact hn.1 hy
 |x::r,i+1,a,hn,hi=>by simp only[cf]at hi;simp only[List.nodup_cons]at hn;simp only[List.eraseIdx_cons_succ];have J6:x≠a:=fun e=>hn.1 (e▸bS hi);rw[List.filter_cons_of_pos (by simpa using J6),uJ hn.2 hi]
theorem vE{α:Type}{x2:List α}:(x2.eraseIdx i)[d]? =x2[if d<i then d else d+1]?:=by grind
theorem gF.erase{f:aM}(h:gF w s a m v e q d out t){cb:Nat}(y:m[i]? =some cb)(k:gm (· = a) w b)
  (H:b.heap[a]? =some (.cells (gh s f q) 242 (0,0))) (z:b.ownsRow base 244 1 f (m.filter (· != cb)).length (jm (m.filter (· != cb)))):
  gF b {s with fN:=s.fN.eraseIdx i} a (m.eraseIdx i) (v.eraseIdx i) f q d out t:=by
 have c:∀{g:bG},g≠242->∀l n o,w.heap[l]? =some (.cells n g o)->¬l=a:=by rintro g I l n o E rfl;rw[h.iN]at E;grind
 have L:=(bo.1 y).1;have J:=h.iD;have K:=h.jv;rw[uJ h.Ga y]at z;refine⟨H,gq z (be _),gI h.jN k (c (by decide)),h.mM.gx k (c (by decide)),?_,?_,h.Ga.eraseIdx i,h.Gb.eraseIdx i,fun M A B G p u x=>?_⟩
 ·grind
 ·grind
 ·rw[vE]at p u x;have j:=h.iq _ A B G p u x;obtain⟨_,_,C⟩:=j.cb;obtain⟨_,D⟩:=j.sr;exact j.gx k (c (by decide) _ _ _ C) (c (by decide) _ _ _ D) (c (by decide)) (c (by decide))
theorem gF.DO{k:aM}(h:gF w s a m v e k d out t):∀b∈m,Kf w b:=by intro b f;obtain⟨j,c⟩:=cj.1 f;have n:=h.iD;have o:=h.jv;have l:=(bo.1 c).1;obtain⟨_,_,g⟩:=(h.iq j _ b _ (ap (by omega)) c (ap (by omega))).cb;exact⟨_,g⟩
theorem LC(b:gg)(i:Nat)(e cb sr n:Nat)(c q:List Nat)(g p:aM)(out:List (Int×aM))(o:List (Int×List Int))(f:aK)(a:gF f b e c q g p n out o)(j:c[i]? =some cb)(u:b.fN.length<=1000):
  aL ab 194 #[Pt e,Pt cb] f fun h s=>h=.returned (.tuple #[])/\Leaves f e (c.eraseIdx i) (q.eraseIdx i) g cb sr n {b with fN:=b.fN.eraseIdx i} o s:=by
 refine(AP a.iN a.row (by rw[a.iD];exact u) (a.DO _ (bS j)) a.DO).mono ?_;rintro h s ⟨rfl,k,t,v,l⟩;exact⟨rfl,t,p,out,a.erase j k v l,k.mono (fun m _ d=>bg d),Nat.le_of_eq a.mM.1,fun m d=>bf (l.lt m d).1⟩
theorem ua(a:gg)(i:Nat)(e:fV)(b:Int)(l cb sr k:Nat)(j m:List Nat)(t Z:aM)(out:List (Int×aM))(o:List (Int×List Int))(d:aK)(u:gF d a l j m t Z k out o)(hi:a.fN[i]? =some e)(B:j[i]? =some cb)(W:m[i]? =some sr)
  (D:0<=b/\b<=1073741823) (a4:k<=d.heap.size) {c:Int} (T:hS c e) (N:c<=1125899906842624) (U:o.length<=1000000) (S:a.fN.length<=1000):
  aL ab 164 #[Pt l,Pt cb,II b] d fun f a2=>f=.returned (.tuple #[])/\Leaves d l (j.eraseIdx i) (m.eraseIdx i) t cb sr k {a with fN:=a.fN.eraseIdx i} (ig e ([19]++gE b) o) a2:=by
 have V:=hJ b;have s:Hid (∀h:aK,h=d.alloc (.cells #[.int .u8 19] 5)->h.ownsRow 0 5 1 (ai (some (gf d 0)) 1 1) 1 (U8 [19])/\Bw d h):=by rintro h rfl;exact⟨gq (mw _ _ _ (by simp[U8,aO])) (be _),fO _ _⟩
 have K:=fK u;clear u;go_enter func164,ntmps164;go_wp2_with fail;obtain⟨E,y⟩:=s.out _ rfl;clear s;refine(lm D.1 D.2).mono ?_;rintro f a8 ⟨a6,rfl,H,n⟩;have G:=gp E n;have A:=fP y n;have J:=gq H (be _);clear E n H y;go_wp2_with fail;refine(jO G J (by simp) V.2 (by simp) (by omega)).mono ?_;rintro f a9 ⟨a7,rfl,I,z⟩;have g:=fP A z;have v:=K.out.below g;have a5:=g.size;clear G J z A;have q:=fK (yG v hi B W I (by simp;omega) (by omega) T N U);clear v I;go_wp2_with fail;refine q.out.mono ?_;rintro f a3 ⟨rfl,L,a0,X,w,C,Q⟩;clear q;have p:=fK (LC {a with fN:=a.fN.set i (hE e ([19]++gE b))} i l cb sr k j m L a0 X _ a3 w B (by simpa using S));clear w;go_wp2_with fail;refine p.out.mono ?_;rintro f b0 ⟨rfl,M,a1,Y,x,O,R⟩;clear p;go_wp2_with fail;go_end0;have P:(a.fN.set i (hE e ([19]++gE b))).eraseIdx i=a.fN.eraseIdx i:=List.eraseIdx_set_eq;rw[P]at x;exact⟨rfl,M,a1,Y,x,((gm.fU g).trans C).trans O,oY (qK Q g.size) R (bZ g.size C.size)⟩
theorem Cf:0<=i_ c g l/\i_ c g l<=1073741823:=by unfold i_;omega
theorem mz(b:Int)(a:List Int)(c h:aK)(o:cE (c.alloc (.cells #[.int .u8 b] 5)).heap.size (c.alloc (.cells #[.int .u8 b] 5)) h)(s:h.ownsRow 0 5 1 e a.length (U8 a))(m:0<a.length)(n:a.length<=1000):
  aL ab 106 #[ai (some (gf c 0)) 1 1,e] h fun k j=>∃f d g,k=.returned (nr f g d)/\Hid (g=([b]++a).length/\j.ownsRow 0 5 1 (nr f g d) g (U8 ([b]++a)))/\Bw h j:=by
 have q:(c.alloc (.cells #[.int .u8 b] 5)).ownsRow 0 5 1 (ai (some (gf c 0)) 1 1) 1 (U8 [b]):=gq (mw _ _ _ (by simp[U8,aO])) (be _);refine(jO (gp q o) s (by simp) m (by simp) n).mono ?_;rintro k j ⟨t,rfl,l,p⟩;obtain⟨f,d,rfl,_⟩:=iC l (by simp);exact⟨f,d,_,rfl,⟨rfl,gq l (be _)⟩,p⟩
theorem oa(a:gg)(e:fV)(c cb:Nat)(d:Bw b w)(f:CI b c 0 a.c.c0/\CI b c 1 a.c.c1/\CI b c 2 a.c.c2/\CI b c 3 a.c.c3/\CI b c 4 a.c.c4/\CI b c 5 a.c.c5/\CI b c 6 a.c.c6/\CI b c 7 a.c.c7/\CI b c 8 a.c.c8/\CI b c 9 a.c.c9/\CI b cb 0 e.fZ/\CI b cb 1 e.addr):w.cell? (Ad c 0)=some (II a.c.c0)/\w.cell? (Ad c 1)=some (II a.c.c1)/\w.cell? (Ad c 2)=some (II a.c.c2)/\w.cell? (Ad c 3)=some (II a.c.c3)/\w.cell? (Ad c 4)=some (II a.c.c4)/\w.cell? (Ad c 5)=some (II a.c.c5)/\w.cell? (Ad c 6)=some (II a.c.c6)/\w.cell? (Ad c 7)=some (II a.c.c7)/\w.cell? (Ad c 8)=some (II a.c.c8)/\w.cell? (Ad c 9)=some (II a.c.c9)/\w.cell? (Ad cb 0)=some (II e.fZ)/\w.cell? (Ad cb 1)=some (II e.addr):=by obtain⟨g,h,l,m,n,o,p,q,s,t,j,k⟩:=f;exact⟨fL g d,fL h d,fL l d,fL m d,fL n d,fL o d,fL p d,fL q d,fL s d,fL t d,fL j d,fL k d⟩
theorem sL(b:gg)(i:Nat)(d:fV)(e cb sr C:Nat)(z E:List Nat)(G a6:aM)(out:List (Int×aM))(D:List (Int×List Int))(f:aK)(H:gF f b e z E G a6 C out D)(hi:b.fN[i]? =some d)(d0:z[i]? =some cb)(e5:E[i]? =some sr)
  (d1:jF b.c) (k3:C<=f.heap.size) {c:Int} (e0:hS c d) (g2:c<=1125899906842624) (g7:D.length<=1000000):
  aL ab 184 #[Pt e,Pt cb] f fun h g=>h=.returned (.tuple #[])/\Leaves f e z E G cb sr C {b with fN:=b.fN.set i (hE d (gu b.c d))} (ig d (gu b.c d) D) g:=by
 have l:=H.iN;obtain⟨k6,k7,a2⟩:=(H.iq i d cb sr hi d0 e5).cb;have e7:CI f e 0 b.c.c0:=by simp[aD,l,gh,g_.cells]
 have e8:CI f e 1 b.c.c1:=by simp[aD,l,gh,g_.cells]
 have e9:CI f e 2 b.c.c2:=by simp[aD,l,gh,g_.cells]
 have f2:CI f e 3 b.c.c3:=by simp[aD,l,gh,g_.cells]
 have h8:CI f e 4 b.c.c4:=by simp[aD,l,gh,g_.cells]
 have h9:CI f e 5 b.c.c5:=by simp[aD,l,gh,g_.cells]
 have i0:CI f e 6 b.c.c6:=by simp[aD,l,gh,g_.cells]
 have i1:CI f e 7 b.c.c7:=by simp[aD,l,gh,g_.cells]
 have i2:CI f e 8 b.c.c8:=by simp[aD,l,gh,g_.cells]
 have i3:CI f e 9 b.c.c9:=by simp[aD,l,gh,g_.cells]
 have e6:CI f cb 0 d.fZ:=by simp[aD,a2,gn]
 have h4:CI f cb 1 d.addr:=by simp[aD,a2,gn]
 have k4:e<f.heap.size:=hK e7;have k2:cb<f.heap.size:=hK e6;have h1:=Cf (c:=b.c.c9) (g:=d.addr) (l:=d.fZ);have R:=hJ (i_ b.c.c9 d.addr d.fZ);have g8:=hJ b.c.c1;have g9:=hJ b.c.c2;have h0:=hJ b.c.c3;have x:=fK e0;have w:=fK d1;have g0:=fK H;have y:Hid (gu b.c d=[20]++gE (i_ b.c.c9 d.addr d.fZ)++gE b.c.c1++gE b.c.c2++gE b.c.c3):=rfl;clear H l a2 e0 d1;obtain⟨h2,h3⟩:=h1;go_enter func184,ntmps184;go_upto_region 0 with fail;go_cut [4] from 5 to 20 (fun i6 f8=>∃V U q,i6=ai (some (Ad V 0)) q U/\Hid (q=([20]++gE (i_ b.c.c9 d.addr d.fZ)).length/\f8.ownsRow 0 5 1 (nr V q U) q (U8 ([20]++gE (i_ b.c.c9 d.addr d.fZ))))/\Bw f f8);case first=>
  go_region_held3 (fun g=>g.cell? (Ad e 0)=some (II b.c.c0)/\g.cell? (Ad e 1)=some (II b.c.c1)/\g.cell? (Ad e 2)=some (II b.c.c2)/\g.cell? (Ad e 3)=some (II b.c.c3)/\g.cell? (Ad e 4)=some (II b.c.c4)/\g.cell? (Ad e 5)=some (II b.c.c5)/\g.cell? (Ad e 6)=some (II b.c.c6)/\g.cell? (Ad e 7)=some (II b.c.c7)/\g.cell? (Ad e 8)=some (II b.c.c8)/\g.cell? (Ad e 9)=some (II b.c.c9)/\g.cell? (Ad cb 0)=some (II d.fZ)/\g.cell? (Ad cb 1)=some (II d.addr)) (first|assumption|exact oa b d e cb (fO _ _) (by assumption)|go_keep) (first
   |(go_at_call 156;refine(ug b.c.c0 b.c.c1 b.c.c2 b.c.c3 b.c.c4 b.c.c5 b.c.c6 b.c.c7 b.c.c8 b.c.c9 d.addr d.fZ w.out.c9.1 w.out.c9.2 x.out.addr.1 x.out.addr.2 x.out.fZ.1 (by have:=x.out.fZ.2;omega)).mono ?_;rintro h t ⟨rfl,N⟩;have k1:=oa b d e cb N (by assumption))
   |(go_at_call 155;refine(lm h2 h3).mono ?_;rintro h s ⟨l4,rfl,a4,M⟩;have k0:=oa b d e cb M (by assumption))
   |(go_at_call 106;first
    |(have n:=N;with_reducible (change cE ((f.alloc (zp)).drew).heap.size (f.alloc (zp)).drew t at n);have J:cE (f.alloc (zp)).heap.size (f.alloc (zp)) s:=fP (gc n) M;have p:=fP (fO f (zp)) J;refine(mz 20 (gE (i_ b.c.c9 d.addr d.fZ)) f s J (gq a4 (be _)) R.2 (by omega)).mono ?_;rintro h f7 ⟨W,T,a5,rfl,a3,j⟩;have m:=fP p j;have b5:=oa b d e cb j (by assumption);replace m:=fK m;clear j p)
    |(have n:=M;with_reducible (change cE (t.alloc (zp)).heap.size (t.alloc (zp)) s at n);have Y:Bw f t:=gc N;have p:=fP Y (fP (fO t (zp)) n);refine(mz 20 (gE (i_ b.c.c9 d.addr d.fZ)) t s n (gq a4 (be _)) R.2 (by omega)).mono ?_;rintro h f7 ⟨W,T,a5,rfl,a3,j⟩;have m:=fP p j;have b5:=oa b d e cb j (by assumption);replace m:=fK m;clear j p)
    |(have n:=M;with_reducible (change Bw t s at n);have Y:Bw f t:=gc N;have p:=fP (fP Y n) (fO s (zp));refine(mz 20 (gE (i_ b.c.c9 d.addr d.fZ)) s (s.alloc (zp)) (Below.refl _ _) ((gq a4 (be _)).alloc _) R.2 (by omega)).mono ?_;rintro h f7 ⟨W,T,a5,rfl,a3,j⟩;have m:=fP p j;have b5:=oa b d e cb j (by assumption);replace m:=fK m;clear j p)))
  all_goals (go_wp2_with fail;go_meet;exact⟨W,T,a5,rfl,a3,m.out⟩)
 case rest=>
  obtain⟨V,U,q,rfl,X,A⟩:=hcut;have J:∃o,[20]++gE (i_ b.c.c9 d.addr d.fZ)=o:=⟨_,rfl⟩;obtain⟨o,Z⟩:=J;rw[Z]at X y;have g3:0<o.length/\o.length<=5:=by rw[<-Z,bL,show([20]:List Int).length=1 from rfl];omega
  clear Z;obtain⟨rfl,e1⟩:=X.out;clear X;have h5:=fL e8 A;have f0:=fL e9 A;have f4:=fL f2 A;clear e7 e8 e9 f2 h8 h9 i0 i1 i2 i3 e6 h4 R;have j7:=w.out.c1;have j8:=w.out.c2;have j9:=w.out.c3;go_wp2_with fail;refine(lm (c:=b.c.c1) (by omega) (by omega)).mono ?_;rintro h i7 ⟨k8,rfl,d4,B⟩;have e2:=gp e1 B;have f1:=fL f0 B;have f5:=fL f4 B;have b0:=fP A B;clear h5 f0 f4 e1 A B;go_wp2_with fail;refine(jO (k:=o) (z2:=gE b.c.c1) (a:=0) (b:=i7) e2 (gq d4 (be _)) g3.1 g8.2 (by omega) (by omega)).mono ?_;rintro h l5 ⟨k9,rfl,d5,K⟩;have h6:=fL f1 K;have f6:=fL f5 K;have b1:=fP b0 K;have O:=gq d5 (be _);have d2:(o++gE b.c.c1).length<=9/\0<(o++gE b.c.c1).length:=by rw[bL];omega
  obtain⟨u,b6⟩:∃u,o++gE b.c.c1=u:=⟨_,rfl⟩;rw[b6]at O d2 y;clear b6 d4 d5 f1 f5 K b0 e2;obtain⟨j4,j1,rfl⟩:=gB O;go_wp2_with fail;refine(lm (c:=b.c.c2) (by omega) (by omega)).mono ?_;rintro h i8 ⟨l0,rfl,d6,L⟩;have e3:=gp O L;have f3:=fL f6 L;have b2:=fP b1 L;clear h6 f6 O b1 L;go_wp2_with fail;refine(jO (k:=u) (z2:=gE b.c.c2) (a:=0) (b:=i8) e3 (gq d6 (be _)) d2.2 g9.2 (by omega) (by omega)).mono ?_;rintro h l6 ⟨l1,rfl,d7,a0⟩;have h7:=fL f3 a0;have b3:=fP b2 a0;have P:=gq d7 (be _);have d3:(u++gE b.c.c2).length<=13/\0<(u++gE b.c.c2).length:=by rw[bL];omega
  obtain⟨v,b7⟩:∃v,u++gE b.c.c2=v:=⟨_,rfl⟩;rw[b7]at P d3 y;clear b7 d6 d7 f3 a0 b2 e3;obtain⟨j5,j2,rfl⟩:=gB P;go_wp2_with fail;refine(lm (c:=b.c.c3) (by omega) (by omega)).mono ?_;rintro h i9 ⟨l2,rfl,d8,a1⟩;have e4:=gp P a1;have b4:=fP b3 a1;clear h7 P b3 a1;go_wp2_with fail;refine(jO (k:=v) (z2:=gE b.c.c3) (a:=0) (b:=i9) e4 (gq d8 (be _)) d3.2 h0.2 (by omega) (by omega)).mono ?_;rintro h j0 ⟨l3,rfl,d9,b8⟩;have I:=fP b4 b8;have Q:=gq d9 (be _);have g5:(v++gE b.c.c3).length<=17/\0<(v++gE b.c.c3).length:=by rw[bL];omega
  obtain⟨S,b9⟩:∃S,v++gE b.c.c3=S:=⟨_,rfl⟩;rw[b9]at Q g5 y;clear b9 d8 d9 b8 b4 e4;obtain⟨j6,j3,rfl⟩:=gB Q;have k5:=I.size;have a8:=fK (yG (p:=b) (i:=i) (j:=d) (k:=S) (d:=e) (cb:=cb) (sr:=sr) (A:=C) (z7:=0) (m:=z) (v:=E) (e:=G) (h:=a6) (out:=out) (t:=D) (b:=j0) (g0.out.below I) hi d0 e5 Q (by omega) (by omega) x.out g2 g7);have a7:=fK I;clear Q I;go_wp2_with fail;refine a8.out.mono ?_;rintro h l7 ⟨rfl,g1,i5,i4,a9,g4,g6⟩;clear a8;have f9:=fK a9;clear a9;go_wp2_with fail;go_end0;rw[y.out];exact⟨rfl,g1,i5,i4,f9.out,(gm.fU a7.out).trans g4,qK g6 a7.out.size⟩
end Go.Proofs.YthmdjhlhodpbhaaGreatDoor
