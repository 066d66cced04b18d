import Derived.Test.YthmdjhlhodpbhaaGreatDoorM04
set_option maxHeartbeats 16000000
set_option maxRecDepth 8000
set_option linter.all false
namespace Go.Proofs.YthmdjhlhodpbhaaGreatDoor
open Go.RowKit
open Go.World renaming cell? → aD
open _root_.Array renaming getElem?_eq_some_iff → bn
open _root_.List renaming getElem?_eq_getElem → ap, mem_of_getElem? → bS, length_append → bL, getElem?_eq_some_iff → bo, getElem?_eq_none → cJ, getElem?_append_right → bN, findIdx?_eq_some_iff_getElem → cQ, mem_iff_getElem? → cj, nodup_append → cR, set_set → cS, findIdx?_eq_none_iff → cT, getElem?_append_left → aZ, mem_replicate → cW, eraseIdx_sublist → cY, map_map → da
open _root_.Or renaming inr → bf, inl → bg
open _root_.Nat renaming le_of_eq → cM, zero_le → be, lt_of_lt_of_le → ca, le_trans → bZ, le_refl → ar, add_zero → aF
open Go.Calls renaming quiet_of_same → cN, quiet_of → cP
open _root_.Int renaming lt_or_le → bO, mul_le_mul_of_nonneg_right → cO, mul_nonneg → cU, mul_le_mul → cV, le_trans → cX
open Go.Value renaming ownBlock → aq, oneCell' → bM, slice → aJ
open _root_.Option renaming map_eq_some_iff → cZ
open _root_.Bool renaming or_eq_false_iff → c_
open _root_.Ne renaming symm → ch
open _root_.Prod renaming fst → db, snd → cw
open _root_.Go renaming Calls → aL, Value → aM, bodyPost_ret → cz, results_none → dd, frozen_of_row → cx, World → aK, heap_setCell_other → cy, heap_alloc_new → cA, ownsRow_setCell_other → cC, TypeId → bG
open _root_.Go.Proofs.Tryz
open _root_.Go.Proofs.Tryz renaming prog → ab
open Go.Value renaming slice → ai, pointer → ag
attribute [local simp] CV CI Bw mc lq io
variable {e h q M Ah fv cv ov:Value}{b w:World}{m v c8 jf ke:List Nat}{d a i cb sr f A cap z7 n sb ob:Nat}{out:List (Int×Value)}{t ii:List (Int×List Int)}{j c' w5:fV}{p s:gg}{c g l addr fZ size:Int}{P:jJ}{k:List Int}{R:Option Addr}{L:Nat->Prop}{N x y:gs}{y4:List fV}{o:List Value}
theorem tV(d:∀c∈k,0<=c/\c<1073741824)(a:Nat):0<=k.getD a 0/\k.getD a 0<=1073741823:=by
 rcases Nat.lt_or_ge a k.length with b|b
 ·have:=d _ (List.getElem_mem b);grind
 grind
theorem Do(b:ju c=some a):(c=0\/c=1\/c=3\/c=4\/c=5\/c=6\/c=7):=by unfold ju at b;grind
theorem vF{c:List Int}(n:gG c)(o:0<c.length)(b:gW c=some (P,a)):ut P/\0<a/\a<=c.length/\P.bytes.length<=c.length:=by
 unfold gW at b;cases l:ju (c.getD 0 0) with
 |none=>grind
 |some e=>
  rw[l]at b;simp only at b;have d:=Do l;cases m:iE c e with
  |none=>grind
  |some p=>
   obtain⟨v,q⟩:=p;obtain⟨t,u,f,g⟩:=kV n o e m;rw[m]at b;have h:=tV g 0;have j:=tV g 1;have s:=tV g 2;match e,b with
   |0,b=>simp only[Option.some.injEq,Prod.mk.injEq]at b;obtain⟨rfl,rfl⟩:=b;exact⟨⟨d,by simp,by simp⟩,by omega,f,by simp⟩
   |1,b=>simp only[Option.some.injEq,Prod.mk.injEq]at b;obtain⟨rfl,rfl⟩:=b;exact⟨⟨d,by simp,by simp⟩,by omega,f,by simp⟩
   |2,b=>simp only[Option.some.injEq,Prod.mk.injEq]at b;obtain⟨rfl,rfl⟩:=b;exact⟨⟨d,h,j⟩,by omega,f,by simp⟩
   |k+3,b=>
    simp only at b;split at b
    ·cases b
    ·simp only[Option.some.injEq,Prod.mk.injEq]at b;obtain⟨rfl,rfl⟩:=b;refine⟨⟨d,h,j⟩,by omega,by omega,?_⟩;grind
theorem LA(a:sk N)(d:0<=g)(e:g+k.length<=1073741823):sk (ij c N g k).2:=by
 unfold ij;split
 ·exact a
 ·next j b=>
  split
  ·exact a
  ·have:=rE b;have f:=a.bytes;have h:=a.read;exact⟨by simp only;omega,a.read,a.fW,a.fS,a.final⟩
theorem GZ(f:ut P)(a:sk N):sk (gt c g l P N).2:=by
 have h:∀r:gs,sk r->P.iP+(P.bytes.length:Int)<=N.fS->sk (jw P N r):=by
  intro r e s;have j:=a.fS;have p:=a.fW;have q:=f.iP;have m:0<=N.fW+jD N (P.iP+P.bytes.length)/\N.fW+jD N (P.iP+P.bytes.length)<=1073741823:=by unfold jD;split<;>omega
  have k:-1<=(if P.type≠3 then P.iP+(P.bytes.length:Int) else r.final)/\(if P.type≠3 then P.iP+(P.bytes.length:Int) else r.final)<=1073741823:=by have:=e.final;split<;>omega
  have b:∀d:gs,sk d->sk (if P.type=5/\wX d=false then {d with reset:=true,bytes:=[]} else d):=by
   intro d b;split
   ·exact⟨by simp,b.read,b.fW,b.fS,b.final⟩
   ·exact b
  exact b _ ⟨e.bytes,e.read,m,e.fS,k⟩
 unfold gt;simp only;split
 ·exact a
 ·split
  ·exact a
  ·split
   ·exact a
   ·next n=>
    have t:¬N.fS<P.iP+(P.bytes.length:Int):=by intro o;apply n;unfold kz;grind
    have j:=a.fS;split
    ·split
     ·exact a
     ·exact h _ (LA a f.iP.1 (by omega)) (by omega)
    ·exact h _ a (by omega)
theorem Cv(a:(gt c g l P N).1≠0):(gt c g l P N).2=N:=by unfold gt at a⊢;grind
theorem zG:0<=(gt c g l P N).1/\(gt c g l P N).1<=10:=by
 have a:0<=(ij c N P.iP P.bytes).1/\(ij c N P.iP P.bytes).1<=10:=by unfold ij;grind
 unfold gt;grind
theorem se.refl{M:Int}(hi:s.fN[i]? =some j)(b:hS M j):se M s j i s j:=⟨hi,rfl,rfl,rfl,rfl,b,by omega,fun a=>⟨rfl,a⟩,fun a=>⟨rfl,a⟩⟩
theorem se.trans{M:Int}{s':gg}(h:se M s j i s' c')(k:se M s' c' i p w5):se M s j i p w5:=by
 refine⟨k.at_,k.cfg.trans h.cfg,k.now.trans h.now,k.KC.trans h.KC,k.fZ.trans h.fZ,k.ok,?_,fun a=>?_,fun a=>?_⟩
 ·have b:=h.last;have c:=k.last;cases d:c'.fY
  ·have:=(h.Ol d).1;omega
  ·have:=(k.stay d).1;omega
 ·have c:=k.Ol a;have b:=h.Ol c.2;grind
 ·have b:=h.stay a;have c:=k.stay b.2;grind
theorem xX(e:ut P)(a:hS c j):hS c (gO g P j).2/\(gO g P j).2.fZ=j.fZ/\(gO g P j).2.fY=j.fY:=by
 unfold gO;split
 ·grind
 ·next h f=>
  refine⟨⟨a.fZ,a.addr,a.gR,a.gS,a.heard,a.runs,a.fS,by simpa using a.lu,fun k d=>?_⟩,rfl,rfl⟩;simp only at d;rcases List.mem_or_eq_of_mem_set d with b|b
  ·exact a.str k b
  ·rw[b];exact GZ e (a.str h (bS f))
theorem BF(a:(gO c P j).1≠0):(gO c P j).2=j:=by
 unfold gO at a⊢;split
 ·rfl
 ·next d b=>
  rw[b]at a;simp only at a⊢;rw[Cv a,ia b]
theorem tw:0<=(gO c P j).1/\(gO c P j).1<=10:=by
 unfold gO;split
 ·simp
 ·exact zG
theorem kr(b:y4[i]? =some j)(a:w5.fZ=j.fZ):(y4.set i w5).map (·.fZ)=y4.map (·.fZ):=by rw[List.map_set,a];exact ia (by grind)
theorem FB(hi:p.fN[i]? =some j)(h:ut P)(b:hS c j)(k:(iU p i j P).gone=false):∃f,se c p j i (iU p i j P).iN f:=by
 unfold iU at k⊢;split
 ·exact⟨j,hi,rfl,rfl,rfl,rfl,b,by simp only;omega,fun a=>⟨rfl,a⟩,fun a=>⟨rfl,a⟩⟩
 ·split
  ·grind
  ·split
   ·unfold mI;split
    ·exact⟨j,hi,rfl,rfl,rfl,rfl,b,by simp only;omega,fun a=>⟨rfl,a⟩,fun a=>⟨rfl,a⟩⟩
    ·split
     ·exact⟨j,hi,rfl,rfl,rfl,rfl,b,by simp only;omega,fun a=>⟨rfl,a⟩,fun a=>⟨rfl,a⟩⟩
     ·next l=>
      exact⟨_,getElem?_set_at hi,rfl,rfl,kr hi rfl,rfl,⟨b.fZ,b.addr,b.gR,b.gS,b.heard,b.runs,b.fS,b.lu,b.str⟩,by simp only;omega,fun a=>by simp at a,fun a=>absurd a l⟩
   ·obtain⟨g,d,e⟩:=xX (g:=p.c.c4) h b;exact⟨_,getElem?_set_at hi,rfl,rfl,kr hi d,d,g,by simp only;omega,fun a=>⟨rfl,by rw[<-e];exact a⟩,fun a=>⟨rfl,by rw[e];exact a⟩⟩
theorem FA(hi:p.fN[i]? =some j)(a:(iU p i j P).code≠0):(iU p i j P).iN=p/\(iU p i j P).gone=false:=by
 unfold iU at a⊢;split
 ·grind
 ·next c=>
  rw[if_neg c]at a;split
  ·grind
  ·next d=>
   rw[if_neg d]at a;split
   ·next b=>
    rw[if_pos b]at a;simp only at a⊢;unfold mI at a⊢;grind
   ·next b=>
    rw[if_neg b]at a;simp only at a⊢;rw[BF a,ia hi];grind
theorem Dp:0<=(iU p i j P).code/\(iU p i j P).code<=10:=by
 unfold iU;split
 ·simp
 ·split
  ·simp
  ·split
   ·unfold mI;grind
   ·exact tw
theorem AM(e:P.type=0\/P.type=1):
  aL ab 190 #[Pt a,Pt cb,.agg #[II P.type,II P.id,II P.iP,II P.code,.slice R f cap]] b fun d g=>d=.returned (II 0)/\Bw b g:=by
 rcases e with c|c;all_goals
  rw[c];clear c;go_enter func190,ntmps190;go_wp2_with fail;go_ret;exact⟨rfl,fO _ _⟩
theorem rC(a:gg)(f:fV)(d cb g:Nat)(e:Bw b w)(h:CI b d 0 a.c.c0/\CI b d 1 a.c.c1/\CI b d 2 a.c.c2/\CI b d 3 a.c.c3/\CI b d 4 a.c.c4/\CI b d 5 a.c.c5/\CI b d 6 a.c.c6/\CI b d 7 a.c.c7/\CI b d 8 a.c.c8/\CI b d 9 a.c.c9/\CI b cb 0 f.fZ/\CI b cb 1 f.addr/\CI b g 3 c):w.cell? (Ad d 0)=some (II a.c.c0)/\w.cell? (Ad d 1)=some (II a.c.c1)/\w.cell? (Ad d 2)=some (II a.c.c2)/\w.cell? (Ad d 3)=some (II a.c.c3)/\w.cell? (Ad d 4)=some (II a.c.c4)/\w.cell? (Ad d 5)=some (II a.c.c5)/\w.cell? (Ad d 6)=some (II a.c.c6)/\w.cell? (Ad d 7)=some (II a.c.c7)/\w.cell? (Ad d 8)=some (II a.c.c8)/\w.cell? (Ad d 9)=some (II a.c.c9)/\w.cell? (Ad cb 0)=some (II f.fZ)/\w.cell? (Ad cb 1)=some (II f.addr)/\w.cell? (Ad g 3)=some (II c):=by obtain⟨j,k,o,p,q,s,t,u,v,x,l,m,n⟩:=h;exact⟨fL j e,fL k e,fL o e,fL p e,fL q e,fL s e,fL t e,fL u e,fL v e,fL x e,fL l e,fL m e,fL n e⟩
theorem El(w:gF b p d m v e h A out t)(hi:p.fN[i]? =some j)(a5:m[i]? =some cb)(a3:v[i]? =some sr)
  (s:jF p.c) {c:Int} (a1:hS c j) (e5:0<=p.last/\p.last<=1125899906842624) (d3:P.type=7):
  aL ab 190 #[Pt d,Pt cb,.agg #[II P.type,II P.id,II P.iP,II P.code,.slice R z7 cap]] b fun n a=>n=.returned (II (mI p i j P.code).1)/\Leaves b d m v e cb sr A (mI p i j P.code).2 t a:=by
 rw[d3];clear d3;have o:=w.iN;obtain⟨f0,f8,a0⟩:=(w.iq i j cb sr hi a5 a3).cb;have z:CI b d 0 p.c.c0:=by simp[aD,o,gh,g_.cells]
 have H:CI b d 1 p.c.c1:=by simp[aD,o,gh,g_.cells]
 have I:CI b d 2 p.c.c2:=by simp[aD,o,gh,g_.cells]
 have J:CI b d 3 p.c.c3:=by simp[aD,o,gh,g_.cells]
 have K:CI b d 4 p.c.c4:=by simp[aD,o,gh,g_.cells]
 have L:CI b d 5 p.c.c5:=by simp[aD,o,gh,g_.cells]
 have M:CI b d 6 p.c.c6:=by simp[aD,o,gh,g_.cells]
 have N:CI b d 7 p.c.c7:=by simp[aD,o,gh,g_.cells]
 have O:CI b d 8 p.c.c8:=by simp[aD,o,gh,g_.cells]
 have Q:CI b d 9 p.c.c9:=by simp[aD,o,gh,g_.cells]
 have a8:CI b cb 0 j.fZ:=by simp[aD,a0,gn]
 have d4:CI b cb 1 j.addr:=by simp[aD,a0,gn]
 have a4:CV b cb 2 (.bool j.fY):=by simp[aD,a0,gn]
 have f7:d<b.heap.size:=hK z;have f4:cb<b.heap.size:=hK a8;obtain⟨V,a7⟩:∃V,i_ p.c.c9 j.addr j.fZ=V:=⟨_,rfl⟩;have S:Hid (mI p i j P.code=if P.code≠V then(10,p) else if j.fY then(0,p) else(0,{p with last:=p.last+1,fN:=p.fN.set i {j with fY:=true,waits:=p.last+1}})):=by show _=_;unfold mI;rw[a7]
 have Z:Hid (∀q,aL ab 156 #[.agg #[II p.c.c0,II p.c.c1,II p.c.c2,II p.c.c3,II p.c.c4,II p.c.c5,II p.c.c6,II p.c.c7,II p.c.c8,II p.c.c9],II j.addr,II j.fZ] q fun n a=>n=.returned (II V)/\Bw q a):=by intro q;have e2:=a1.fZ;have:=ug p.c.c0 p.c.c1 p.c.c2 p.c.c3 p.c.c4 p.c.c5 p.c.c6 p.c.c7 p.c.c8 p.c.c9 j.addr j.fZ (b:=q) s.c9.1 s.c9.2 a1.addr.1 a1.addr.2 e2.1 (by omega);rw[a7]at this;exact this
 have u:=fK w;clear w o a0 a1 s a7;have b3:Hid (∀q:aK,q=b.alloc (.cells #[II 7,II P.id,II P.iP,II P.code,.slice R z7 cap] 296)->Bw b q/\q.cell? (gf b 0)=some (II 7)/\q.cell? (gf b 3)=some (II P.code)):=by rintro q rfl;exact⟨fO b _,by simp,by simp⟩
 go_enter func190,ntmps190;go_upto_region 6 with fail;obtain⟨g,d9,b6⟩:=b3.out _ rfl;generalize b.alloc (.cells #[II 7,II P.id,II P.iP,II P.code,.slice R z7 cap] 296)=f9 at g d9 b6⊢;generalize d1:P.code=W at b6 S;replace z:=fL z g;replace H:=fL H g;replace I:=fL I g;replace J:=fL J g;replace K:=fL K g;replace L:=fL L g;replace M:=fL M g;replace N:=fL N g;replace O:=fL O g;replace Q:=fL Q g;replace a8:=fL a8 g;replace d4:=fL d4 g;replace a4:=fL a4 g;have X:=fK g;have Y:=fK d1;clear g b3 d1;rcases Int.lt_trichotomy W V with f6|e3|f5
 ·have x:Hid (mI p i j P.code=(10,p)):=by show _=_;rw[Y.out,S.out,if_pos (by omega)]
  go_region_held3 (fun a=>a.cell? (Ad d 0)=some (II p.c.c0)/\a.cell? (Ad d 1)=some (II p.c.c1)/\a.cell? (Ad d 2)=some (II p.c.c2)/\a.cell? (Ad d 3)=some (II p.c.c3)/\a.cell? (Ad d 4)=some (II p.c.c4)/\a.cell? (Ad d 5)=some (II p.c.c5)/\a.cell? (Ad d 6)=some (II p.c.c6)/\a.cell? (Ad d 7)=some (II p.c.c7)/\a.cell? (Ad d 8)=some (II p.c.c8)/\a.cell? (Ad d 9)=some (II p.c.c9)/\a.cell? (Ad cb 0)=some (II j.fZ)/\a.cell? (Ad cb 1)=some (II j.addr)/\a.cell? (gf b 3)=some (II W)) (first|assumption|go_keep) (first
  |(go_at_call 156;refine(Z.out _).mono ?_;rintro n B ⟨rfl,f⟩;have y:=rC p j d cb b.heap.size f (by assumption);replace f:=fK (gc f)))
  clear z H I J K L M N O Q y;go_wp2_with fail;go_ret;rw[x.out];have l:=fP X.out f.out;exact⟨rfl,e,h,out,u.out.below l,gm.fU l,cM u.out.mM.1,lU.refl _ _⟩
 ·subst e3;cases a2:j.fY
  ·have x:Hid (mI p i j P.code=(0,{p with last:=p.last+1,fN:=p.fN.set i {j with fY:=true,waits:=p.last+1}})):=by show _=_;rw[Y.out,S.out,if_neg (by simp),a2];simp
   go_region_held3 (fun a=>a.cell? (Ad d 0)=some (II p.c.c0)/\a.cell? (Ad d 1)=some (II p.c.c1)/\a.cell? (Ad d 2)=some (II p.c.c2)/\a.cell? (Ad d 3)=some (II p.c.c3)/\a.cell? (Ad d 4)=some (II p.c.c4)/\a.cell? (Ad d 5)=some (II p.c.c5)/\a.cell? (Ad d 6)=some (II p.c.c6)/\a.cell? (Ad d 7)=some (II p.c.c7)/\a.cell? (Ad d 8)=some (II p.c.c8)/\a.cell? (Ad d 9)=some (II p.c.c9)/\a.cell? (Ad cb 0)=some (II j.fZ)/\a.cell? (Ad cb 1)=some (II j.addr)/\a.cell? (gf b 3)=some (II W)) (first|assumption|go_keep) (first
   |(go_at_call 156;refine(Z.out _).mono ?_;rintro n B ⟨rfl,f⟩;have y:=rC p j d cb b.heap.size f (by assumption);replace f:=fK (gc f)))
   clear z H I J K L M N O Q y;have l:=fP X.out f.out;have k:=u.out.below l;have a9:=fL a4 f.out;rw[a2]at a9;have b7:=k.iq i j cb sr hi a5 a3;obtain⟨f3,G⟩:=b7.sr;obtain⟨b1,d5,d8,U,d2,e6,d0,b9⟩:=b7;have b2:=fK (wL (p:=p) (j:=j) (a:=d) (cb:=cb) (e:=e) (h:=h) (q:=b1) (b:=B) k.iN U e5);have b4:Hid (∀a,gm (fun b0=>b0=d\/b0=cb) B a->a.heap[d]? =some (.cells (gh {p with last:=p.last+1} e h) 242 (0,0))->a.heap[cb]? =some (.cells (gn {j with fY:=true,waits:=p.last+1} b1 (ai (some (Ad sr 0)) j.fM.length d5)) 249 (0,0))->
     gF a {p with last:=p.last+1,fN:=p.fN.set i {j with fY:=true,waits:=p.last+1}} d m v e h A out t/\gm (nM d cb sr A) B a):=by
    intro a E C D;have T:gm (tt d cb sr h) B a:=E.mono fun b0 _ e4=>by
     rcases e4 with w|w
     ·exact bg w
     ·exact bf (bg w)
    have a6:=fun {n:bG} C D h3 h4=>nm (z:=n) k.iN U G k.jN C D h3 h4;refine⟨?_,T.call k.jN⟩;have e7:v=v.set i sr:=(ia a3).symm;rw[e7];refine k.LW hi a5 a3 T rfl C (gM k.jN E (fun e0 s=>?_)) (k.mM.gx T (a6 (by decide) (by decide) (by decide) (by decide))) ⟨b1,d5,d8,D,d2.gx T (a6 (by decide) (by decide) (by decide) (by decide)),e6,gM d0 E (fun e0 s=>?_),fun e9 f2 d7 e8 e1=>(b9 e9 f2 d7 e8 e1).gx T (a6 (by decide) (by decide) (by decide) (by decide))⟩ (bg rfl)
    ·rintro(rfl|rfl)
     ·exact fR k.jN k.iN (by decide) s
     ·exact fR k.jN U (by decide) s
    ·simp only[aq,Option.some.injEq]at s;subst s;rintro(rfl|rfl)
     ·rw[k.iN]at G;simp at G
     ·rw[U]at G;simp at G
   have d6:=fK l;clear k l G d2 d0 b9 U;go_wp2_with fail;refine b2.out.mono ?_;rintro n f1 ⟨rfl,E,C,D⟩;clear b2;have b8:=b4.out f1 E C D;have b5:=fK b8;clear E C D b8 b4;go_wp2_with fail;go_ret;rw[x.out];exact⟨rfl,e,h,out,b5.out.1,(gm.fU d6.out).trans b5.out.2,cM u.out.mM.1,lU.refl _ _⟩
  ·have x:Hid (mI p i j P.code=(0,p)):=by show _=_;rw[Y.out,S.out,if_neg (by simp),a2];simp
   go_region_held3 (fun a=>a.cell? (Ad d 0)=some (II p.c.c0)/\a.cell? (Ad d 1)=some (II p.c.c1)/\a.cell? (Ad d 2)=some (II p.c.c2)/\a.cell? (Ad d 3)=some (II p.c.c3)/\a.cell? (Ad d 4)=some (II p.c.c4)/\a.cell? (Ad d 5)=some (II p.c.c5)/\a.cell? (Ad d 6)=some (II p.c.c6)/\a.cell? (Ad d 7)=some (II p.c.c7)/\a.cell? (Ad d 8)=some (II p.c.c8)/\a.cell? (Ad d 9)=some (II p.c.c9)/\a.cell? (Ad cb 0)=some (II j.fZ)/\a.cell? (Ad cb 1)=some (II j.addr)/\a.cell? (gf b 3)=some (II W)) (first|assumption|go_keep) (first
   |(go_at_call 156;refine(Z.out _).mono ?_;rintro n B ⟨rfl,f⟩;have y:=rC p j d cb b.heap.size f (by assumption);replace f:=fK (gc f)))
   clear z H I J K L M N O Q y;have a9:=fL a4 f.out;rw[a2]at a9;go_wp2_with fail;go_ret;rw[x.out];have l:=fP X.out f.out;exact⟨rfl,e,h,out,u.out.below l,gm.fU l,cM u.out.mM.1,lU.refl _ _⟩
 ·have x:Hid (mI p i j P.code=(10,p)):=by show _=_;rw[Y.out,S.out,if_pos (by omega)]
  go_region_held3 (fun a=>a.cell? (Ad d 0)=some (II p.c.c0)/\a.cell? (Ad d 1)=some (II p.c.c1)/\a.cell? (Ad d 2)=some (II p.c.c2)/\a.cell? (Ad d 3)=some (II p.c.c3)/\a.cell? (Ad d 4)=some (II p.c.c4)/\a.cell? (Ad d 5)=some (II p.c.c5)/\a.cell? (Ad d 6)=some (II p.c.c6)/\a.cell? (Ad d 7)=some (II p.c.c7)/\a.cell? (Ad d 8)=some (II p.c.c8)/\a.cell? (Ad d 9)=some (II p.c.c9)/\a.cell? (Ad cb 0)=some (II j.fZ)/\a.cell? (Ad cb 1)=some (II j.addr)/\a.cell? (gf b 3)=some (II W)) (first|assumption|go_keep) (first
  |(go_at_call 156;refine(Z.out _).mono ?_;rintro n B ⟨rfl,f⟩;have y:=rC p j d cb b.heap.size f (by assumption);replace f:=fK (gc f)))
  clear z H I J K L M N O Q y;go_wp2_with fail;go_ret;rw[x.out];have l:=fP X.out f.out;exact⟨rfl,e,h,out,u.out.below l,gm.fU l,cM u.out.mM.1,lU.refl _ _⟩
structure pY(w:aK)(c:fV)(cb sr:Nat)(rv:aM)(xf:Nat)(rT:List aM):Prop where
 cell:w.heap[cb]? =some (.cells (gn c rv (ai (some (Ad sr 0)) c.fM.length xf)) 249 (0,0))
 runs:Ro w 294 rv c.runs.length (gT c.runs)
 len:rT.length=c.fM.length
 row:w.ownsRow 0 252 7 (ai (some (Ad sr 0)) c.fM.length xf) c.fM.length (kc c.fM rT)
 bytes:∀(i:Nat) s bv,c.fM[i]? =some s->rT[i]? =some bv->Ro w 3 bv s.bytes.length (hP s.bytes)
theorem lf.EY(h:lf w 0 j cb sr):∃b c a,pY w j cb sr b c a:=by obtain⟨b,c,a,d,e,f,g,k⟩:=h;exact⟨b,c,a,⟨d,e,f,g,k⟩⟩
theorem pY.Nj(h:pY w j cb sr e f o):lf w 0 j cb sr:=⟨e,f,o,h.cell,h.runs,h.len,h.row,h.bytes⟩
theorem vl:∀{l:List gs} {rT:List aM} {i:Nat} {x y:gs} {bv Ah v:aM} {j:Nat},l[i]? =some x->rT[i]? =some bv->rT.length=l.length->j<7->y.cells Ah=(x.cells bv).set j v->(kc l rT).set (i*7+j) v=kc (l.set i y) (rT.set i Ah)
 |[],_,_,_,_,_,_,_,_,h,_,_,_,_=>by simp at h
 |a::l,[],_,_,_,_,_,_,_,_,h,_,_,_=>by simp at h
 |a::l,b::rT,0,x,y,bv,Ah,v,j,h1,h2,_,hj,hy=>by simp only[List.getElem?_cons_zero,Option.some.injEq]at h1 h2;subst h1;subst h2;simp only[kc,List.set_cons_zero,Nat.zero_mul,Nat.zero_add];rw[List.set_append_left _ _ (by simpa[gs.cells] using hj),hy]
 |a::l,b::rT,i+1,x,y,bv,Ah,v,j,h1,h2,hl,hj,hy=>by simp only[List.getElem?_cons_succ]at h1 h2;have ih:=vl h1 h2 (by simpa using hl) hj hy;simp only[kc,List.set_cons_succ];rw[List.set_append_right _ _ (by simp[gs.cells];omega),<-ih];congr 2;simp[gs.cells];omega
theorem pY.put{a:fV}(h:pY w a cb sr e f o){j:Nat}{l v:aM}(q:a.fM[i]? =some x)(n:o[i]? =some l)(z:j<7)(B:y.cells Ah=(x.cells l).set j v)(A:Ro w 3 Ah y.bytes.length (hP y.bytes)):
  pY (w.setCell (Ad sr (i*7+j)) v) {a with fM:=a.fM.set i y} cb sr e f (o.set i Ah)/\gm (· = sr) w (w.setCell (Ad sr (i*7+j)) v):=by
 have c:gm (· = sr) w (w.setCell (Ad sr (i*7+j)) v):=go (Below.refl _ _) _ _;obtain⟨D,E⟩:=fX h.row rfl;have k:∀{m:bG},m≠252->∀d t u,w.heap[d]? =some (.cells t m u)->¬d=sr:=by grind
 refine⟨⟨?_,h.runs.gx c (k (by decide)),by simp[h.len],?_,fun d C s b g=>?_⟩,c⟩
 ·rw[c.block cb (bn.1 h.cell).1 (k (by decide) _ _ _ h.cell)];show w.heap[cb]? =some (.cells (gn a e (ai (some (Ad sr 0)) (a.fM.set i y).length f)) 249 (0,0));rw[List.length_set];exact h.cell
 ·have:=(h.row.stored (i*7+j) v).1;rw[vl q n h.len z B]at this;simpa using this
 ·by_cases p:d=i
  ·subst p;simp only at b;rw[getElem?_set_at q]at b;rw[getElem?_set_at n]at g;obtain rfl:=Option.some.inj b;obtain rfl:=Option.some.inj g;exact A.gx c (k (by decide))
  ·simp only at b;rw[getElem?_set_other p]at b g;exact(h.bytes d C s b g).gx c (k (by decide))
theorem pY.below(h:pY w j cb sr e f o)(a:Bw w b):pY b j cb sr e f o:=
 ⟨by rw[a.block cb (bn.1 h.cell).1];exact h.cell,h.runs.below a,h.len,gp h.row a,fun i k c d g=>(h.bytes i k c d g).below a⟩
theorem gF.put{f:aK}{p:aM}(h:gF w s a m v e p d out t)(hi:s.fN[i]? =some j)(l:m[i]? =some cb)(k:v[i]? =some sr)
  (q:Bw w b) (n:gm (· = sr) b f) (x:lf f 0 c' cb sr):gF f {s with fN:=s.fN.set i c'} a m v e p d out t/\gm (nM a cb sr d) w f:=by
 have c:=h.below q;obtain⟨_,_,y⟩:=(c.iq i j cb sr hi l k).cb;obtain⟨_,u⟩:=(c.iq i j cb sr hi l k).sr;have o:gm (tt a cb sr p) b f:=n.mono fun G _ A=>bf (bf (bg A));have B:=fun {g:bG} h1 h2 h3 h4=>nm (z:=g) c.iN y u c.jN h1 h2 h3 h4;have C:a≠sr:=by rintro rfl;have:=c.iN;grind
 refine⟨?_,(gm.fU q).trans (o.call c.jN)⟩;have D:v=v.set i sr:=(ia k).symm;rw[D];refine c.LW hi l k o rfl ?_ (gM c.jN n (fun E z g=>?_)) (c.mM.gx o (B (by decide) (by decide) (by decide) (by decide))) x (bg rfl)
 ·rw[n.block a (bn.1 c.iN).1 C];exact c.iN
 ·subst g;exact fR c.jN u (by decide) z
def jU(W:aK)(fb:Nat)(f:jJ)(bv:aM):Prop:=W.heap[fb]? =some (.cells #[II f.type,II f.id,II f.iP,II f.code,bv] 296 (0,0))
theorem Em{k:fV}(X:gF b p d m c8 h q A out t)(hi:p.fN[i]? =some k)(i8:m[i]? =some cb)(k0:c8[i]? =some sr)
  {c:Int} (g2:hS c k) (f8:je b e P.bytes) (l4:P.bytes.length<=1073741823) (l5:0<=P.id/\P.id<=1073741823) (l7:0<=P.iP/\P.iP<=1073741823) (c5:P.type=3):
  aL ab 190 #[Pt d,Pt cb,.agg #[II P.type,II P.id,II P.iP,II P.code,e]] b fun o G=>o=.returned (II (gO p.c.c4 P k).1)/\Leaves b d m c8 h cb sr A {p with fN:=p.fN.set i (gO p.c.c4 P k).2} t G:=by
 have i7:=X.iq i k cb sr hi i8 k0;obtain⟨m4,k3,i3,g1⟩:=i7.EY;obtain⟨n,b9⟩:∃n:Nat,P.id=n:=⟨P.id.toNat,by omega⟩;obtain⟨E,D,rfl⟩:=f8.form;have j4:P.id.toNat=n:=by omega
 have a4:Hid (∀O,Bw b O->Leaves b d m c8 h cb sr A {p with fN:=p.fN.set i k} t O):=by intro O w;rw[ia hi];exact⟨h,q,out,X.below w,gm.fU w,cM X.mM.1,lU.refl _ _⟩
 have a3:Hid (∀l,Bw b l->jU l b.heap.size P (.slice E P.bytes.length D)->l.cell? (gf b 0)=some (II 3)/\l.cell? (gf b 1)=some (II n)/\l.cell? (gf b 2)=some (II P.iP)/\l.cell? (gf b 3)=some (II P.code)/\l.cell? (gf b 4)=some (.slice E P.bytes.length D)/\
   l.cell? (Ad cb 8)=some (II k.fS)/\l.cell? (Ad cb 9)=some (ai (some (Ad sr 0)) k.fM.length k3)):=by
  intro l w a7;have z:=g1.below w;unfold jU at a7;refine⟨?_,?_,?_,?_,?_,?_,?_⟩
  ·simp[aD,a7,c5]
  ·simp[aD,a7,b9]
  ·simp[aD,a7]
  ·simp[aD,a7]
  ·simp[aD,a7]
  ·simp[aD,z.cell,gn]
  ·simp[aD,z.cell,gn]
 have d1:Hid (∀O:aK,O=b.alloc (.cells #[II 3,II n,II P.iP,II P.code,.slice E P.bytes.length D] 296)->Bw b O/\jU O b.heap.size P (.slice E P.bytes.length D)):=by rintro O rfl;refine⟨fO _ _,?_⟩;unfold jU;rw[c5,b9];exact cA b _
 have l9:=g2.lu;have Z:=fK g1;have e5:=fK X;have b4:=fK g2;have k8:=fK f8;have d0:=fK c5;have h7:=fK j4;have m8:=fK b9;rw[c5,b9];clear X g1 i7 f8 c5 j4 b9 l5 g2;by_cases j5:n<k.fM.length
 ·obtain⟨f,C⟩:∃f,k.fM[n]? =some f:=⟨_,ap j5⟩;obtain⟨h0,a9⟩:∃h0,i3[n]? =some h0:=⟨_,ap (by rw[Z.out.len];exact j5)⟩;have H:Hid (gO p.c.c4 P k=((gt p.c.c4 k.fS (im k.fM) P f).1,{k with fM:=k.fM.set n (gt p.c.c4 k.fS (im k.fM) P f).2})):=by show _=_;unfold gO;rw[h7.out,C]
  have b0:=b4.out.str f (bS C);have m1:=Z.out.bytes n f h0 C a9;obtain⟨b3,b2,rfl,k1,k2⟩:=m1;have i2:Hid (Ro b 3 (.slice b3 f.bytes.length b2) f.bytes.length (hP f.bytes)):=⟨b3,b2,rfl,k1,k2⟩;clear k1 k2;obtain⟨o,f7⟩:∃o:Int,P.iP+(P.bytes.length:Int)=o:=⟨_,rfl⟩;have n6:0<=o/\o<=2147483646:=by omega
  have h5:Hid (∀l,Bw b l->l.cell? (Ad sr (n*7))=some (.slice b3 f.bytes.length b2)/\l.cell? (Ad sr (n*7+2))=some (II f.fW)/\l.cell? (Ad sr (n*7+3))=some (II f.fS)/\l.cell? (Ad sr (n*7+4))=some (II f.final)/\l.cell? (Ad sr (n*7+5))=some (.bool f.reset)/\l.cell? (Ad sr (n*7+6))=some (.bool f.done)):=by
   intro l w;have a8:∀j,j<7->l.cell? (Ad sr (n*7+j))=(f.cells (.slice b3 f.bytes.length b2))[j]?:=by intro j c2;have z:=Z.out.below w;rw[z.row.cellAt (n*7+j) (by omega)];exact iQ _ _ n f _ C a9 j c2
   exact⟨a8 0 (by decide),a8 2 (by decide),a8 3 (by decide),a8 4 (by decide),a8 5 (by decide),a8 6 (by decide)⟩
  obtain⟨l8,o5⟩:=b0.read;obtain⟨n7,n8⟩:=b0.fW;obtain⟨o1,o2⟩:=b0.fS;obtain⟨o6,o7⟩:=b0.final;have k9:=b0.bytes;clear b0;have i1:Hid (∀l,Bw b l->aL ab 207 #[Pt d,ag (some (Ad sr (n*7))),.agg #[II 3,II n,II P.iP,II P.code,.slice E P.bytes.length D]] l fun o G=>Bt l sr (n*7) (ij p.c.c4 f P.iP P.bytes) o G):=by intro l w;have z:=Z.out.below w;have m0:=(e5.out.below w).iN;obtain⟨m9,b8⟩:=fX z.row rfl;exact ve (by simp[aD,m0,gh,g_.cells]) (fun j c2=>by rw[z.row.cellAt (n*7+j) (by omega)];exact iQ _ _ n f _ C a9 j c2) (i2.out.below w) (k8.out.below w) (cx l sr _ _ _ b8) k9 ⟨l8,by omega⟩ ⟨l7.1,by omega⟩ l4
  have e6:Hid (∀l,Bw b l->aL ab 206 #[Pt cb] l fun o G=>o=.returned (II (im k.fM))/\G=l):=by intro l w;have z:=Z.out.below w;refine(rF sr k3 m4 i3 ⟨fun j=>by simp[aD,z.cell],z.len,fun i p e j9 l0 j c2=>?_,z.runs,z.bytes⟩ l9.2 (fun y e3=>⟨(b4.out.str y e3).fW.1,by have:=(b4.out.str y e3).fW.2;omega⟩)).mono (fun o G X=>⟨X.1,X.2.symm⟩);have:=(bo.1 j9).1;rw[z.row.cellAt (i*7+j) (by omega)];exact iQ _ _ i p e j9 l0 j c2
  have h6:Hid (∀(l G:aK) (f2:fV),Bw b l->gm (· = sr) l G->lf G 0 f2 cb sr->Leaves b d m c8 h cb sr A {p with fN:=p.fN.set i f2} t G):=by intro l G f2 w l2 l1;have:=e5.out.put hi i8 k0 w l2 l1;exact⟨h,q,out,this.1,this.2,cM e5.out.mM.1,lU.refl _ _⟩
  have j3:0<=im k.fM/\im k.fM<=4611686018427387904:=by have s:=pR (y0:=k.fM) (c:=1073741823) (fun y e3=>(b4.out.str y e3).fW);have i4:(k.fM.length:Int)*1073741823<=1073741823*1073741823:=cO (by omega) (by omega);omega
  obtain⟨u,j2⟩:∃M,im k.fM=M:=⟨_,rfl⟩;rw[j2]at e6 j3 H;clear j2;obtain⟨n9,o0⟩:=j3;obtain⟨n4,n5⟩:=b4.out.fS;go_enter func190,ntmps190;go_upto_region 1 with fail;obtain⟨L,Y⟩:=d1.out _ rfl;clear d1;generalize b.alloc (.cells #[II 3,II n,II P.iP,II P.code,.slice E P.bytes.length D] 296)=l at L Y⊢;obtain⟨S,T,U,V,W,Q,R⟩:=a3.out l L Y;have c9:=fK L;have h2:=fK Y;clear L Y;go_wp2_with fail;go_quiet (fail);have d3:=fQ c9.out nq;have d4:jU (l.drewN nq) b.heap.size P (.slice E P.bytes.length D):=h2.out;clear S T U V W Q R c9 h2;generalize l.drewN nq=f1 at d3 d4⊢;obtain⟨S,T,U,V,W,Q,R⟩:=a3.out f1 d3 d4;have h1:=fK d3;have h3:=fK d4;clear d3 d4;go_wp2_with fail;go_quiet (fail);have b6:=fQ h1.out nq;have d5:jU (f1.drewN nq) b.heap.size P (.slice E P.bytes.length D):=h3.out;clear S T U V W Q R h1 h3;generalize f1.drewN nq=a5 at b6 d5⊢;obtain⟨S,T,U,V,W,Q,R⟩:=a3.out a5 b6 d5;obtain⟨g5,g6,g7,g8,c7,b1⟩:=h5.out a5 b6;have N:=fK b6;have h4:=fK d5;clear b6 d5;go_upto_region 19 with fail;go_cut [113] from 48 to 113 (fun m6 g9=>m6=.bool (rS f o false)/\a5=g9);case first=>
   rcases(show f.final<0\/(0<=f.final/\f.final<o)\/(0<=f.final/\o<=f.final) from by omega) with s|⟨s,i4⟩|⟨s,i4⟩<;>cases a0:f.done
   all_goals
    rw[a0]at b1;go_wp2_with fail;go_meet;refine⟨?_,rfl⟩;congr 1;simp[rS,a0]<;>omega
  case rest=>
   obtain⟨rfl,rfl⟩:=hcut;cases f5:rS f o false
   ·have x:Hid (gt p.c.c4 k.fS u P f=if f.done then(0,f) else if kz f o k.fS u then(3,f) else
      if f.reset=false then if(ij p.c.c4 f P.iP P.bytes).1≠0 then((ij p.c.c4 f P.iP P.bytes).1,f) else(0,jw P f (ij p.c.c4 f P.iP P.bytes).2) else(0,jw P f f)):=by
     show _=_;unfold gt;simp only[f7,d0.out];rw[show(decide ((3:Int)≠3))=false from rfl,f5];simp
    have i0:Hid (∀r:gs,jw P f r = {r with fW:=f.fW+jD f o}):=by intro r;unfold jw;simp only[f7,d0.out];simp
    clear f5;cases a0:f.done
    ·rw[a0]at b1;replace x:Hid (gt p.c.c4 k.fS u P f=if kz f o k.fS u then(3,f) else
      if f.reset=false then if(ij p.c.c4 f P.iP P.bytes).1≠0 then((ij p.c.c4 f P.iP P.bytes).1,f) else(0,jw P f (ij p.c.c4 f P.iP P.bytes).2) else(0,jw P f f)):=by
      have:=x.out;rw[a0]at this;exact this
     go_upto_if 123 with fail;go_cut [10] from 114 to 129 (fun m5 g9=>m5=II (jD f o)/\a5=g9);case first=>
      rcases bO f.fW o with s|s
      ·go_wp2_with fail;go_meet;refine⟨?_,rfl⟩;unfold jD;rw[if_pos s]
      ·go_wp2_with fail;go_meet;refine⟨?_,rfl⟩;unfold jD;rw[if_neg (by omega)]
     case rest=>
     obtain⟨rfl,rfl⟩:=hcut;have j6:0<=jD f o/\jD f o<=2147483647:=by unfold jD;split<;>omega
     obtain⟨I,g0⟩:∃I,jD f o=I:=⟨_,rfl⟩;have e7:=fK g0;rw[g0]at j6⊢;clear g0;obtain⟨o3,o4⟩:=j6;have e8:Hid (kz f o k.fS u=(decide (f.fS<o) || decide (k.fS<u+I))):=by show _=_;unfold kz;rw[e7.out]
     rcases bO f.fS o with f6|f6
     ·have b5:Hid (kz f o k.fS u=true):=by show _=_;rw[e8.out,decide_eq_true f6];rfl
      have b8:decide (f.fS<o)=true:=decide_eq_true f6;go_wp2_with fail;go_quiet (fail);go_wp2_with fail;go_ret;rw[H.out,x.out];rw[b5.out,if_pos rfl,ia C];exact⟨rfl,a4.out _ (fQ N.out _)⟩
     ·have b8:decide (f.fS<o)=false:=decide_eq_false (by omega);rcases bO k.fS (u+I) with i9|i9
      ·have b5:Hid (kz f o k.fS u=true):=by show _=_;rw[e8.out,decide_eq_true i9];simp
       go_wp2_with fail;go_quiet ((go_at_call 206;exact cN (e6.out _ (fQ N.out _))));go_wp2_with fail;go_ret;rw[H.out,x.out];rw[b5.out,if_pos rfl,ia C];exact⟨rfl,a4.out _ (fQ N.out _)⟩
      ·have b5:Hid (kz f o k.fS u=false):=by show _=_;rw[e8.out,b8,decide_eq_false (by omega)];rfl
       replace x:Hid (gt p.c.c4 k.fS u P f=if f.reset=false then if(ij p.c.c4 f P.iP P.bytes).1≠0 then((ij p.c.c4 f P.iP P.bytes).1,f) else(0,jw P f (ij p.c.c4 f P.iP P.bytes).2) else(0,jw P f f)):=by have:=x.out;rw[b5.out,if_neg (by decide)]at this;exact this
       go_wp2_with fail;go_quiet ((go_at_call 206;exact cN (e6.out _ (fQ N.out _))));have b7:=fQ N.out nq;have d6:jU (a5.drewN nq) b.heap.size P (.slice E P.bytes.length D):=h4.out;clear S T U V W Q R g5 g6 g7 g8 c7 b1 N h4 b8;generalize a5.drewN nq=a6 at b7 d6⊢;obtain⟨S,T,U,V,W,Q,R⟩:=a3.out a6 b7 d6;obtain⟨g5,g6,g7,g8,c7,b1⟩:=h5.out a6 b7;have a2:=fK b7;have k6:=fK d6;clear b7 d6;have f9:=Z.out.below a2.out;obtain⟨n0,j0⟩:=fX f9.row rfl;have m7:∀M,mc a6 sr M:=fun M=>cx a6 sr M _ _ j0;have h8:=fK f9;clear f9 j0;cases e2:f.reset
       ·rw[e2]at c7;replace x:Hid (gt p.c.c4 k.fS u P f=if(ij p.c.c4 f P.iP P.bytes).1≠0 then((ij p.c.c4 f P.iP P.bytes).1,f) else(0,jw P f (ij p.c.c4 f P.iP P.bytes).2)):=by have:=x.out;rw[e2,if_pos rfl]at this;exact this
        have e9:=fK (i1.out a6 a2.out);obtain⟨r,g3⟩:∃r,ij p.c.c4 f P.iP P.bytes=r:=⟨_,rfl⟩;have f0:Hid (r.2=f\/∃c6,r.2 = {f with bytes:=c6}):=by
         rw[<-g3];unfold ij;split
         ·exact bg rfl
         ·split
          ·exact bg rfl
          ·exact bf ⟨_,rfl⟩
        rw[g3]at e9 x;clear g3 i1;go_wp2_with fail;refine e9.out.mono ?_;rintro n3 p0 ⟨rfl,c3⟩;clear e9;by_cases e1:r.1=0
        ·rw[if_pos e1]at c3;obtain⟨e4,J,d8,j7,rfl⟩:=c3;have i6:=fP a2.out d8;have f3:jU e4 b.heap.size P (.slice E P.bytes.length D):=by have s:=k6.out;unfold jU at s⊢;rw[d8.block _ (bn.1 s).1];exact s
         have m2:r.2.cells J=(f.cells (.slice b3 f.bytes.length b2)).set 0 J:=by rcases f0.out with s|⟨c6,s⟩<;>rw[s]<;>rfl
         have m3:r.2.fW=f.fW:=by rcases f0.out with s|⟨c6,s⟩<;>rw[s]
         have e0:=(h8.out.below d8).put (j:=0) (y:=r.2) (Ah:=J) (v:=J) C a9 (by decide) m2 (Ro.qf j7);obtain⟨a1,d9⟩:=e0;rw[aF]at a1 d9;have l6:b.heap.size≠sr:=by obtain⟨n2,l3⟩:=fX (n:=sr) Z.out.row rfl;have s:=(bn.1 l3).1;omega
         have d7:jU (e4.setCell (Ad sr (n*7)) J) b.heap.size P (.slice E P.bytes.length D):=by unfold jU at f3⊢;rw[cy _ _ _ _ l6];exact f3
         have K:Hid (gt p.c.c4 k.fS u P f=(0,{r.2 with fW:=f.fW+I})):=by have:=x.out;rw[if_neg (by simp[e1]),i0.out,e7.out]at this;exact this
         have g4:=getElem?_set_at (x0:=r.2) C;have f4:=getElem?_set_at (x0:=J) a9;generalize e4.setCell (Ad sr (n*7)) J=d2 at a1 d9 d7⊢;have o8:d2.cell? (gf b 0)=some (II 3):=by unfold jU at d7;simp[aD,d7,d0.out]
         have o9:d2.cell? (Ad sr (n*7+2))=some (II f.fW):=by rw[a1.row.cellAt (n*7+2) (by simp;omega)];refine(iQ _ _ n r.2 J g4 f4 2 (by decide)).trans ?_;rw[<-m3];rfl
         obtain⟨n1,j1⟩:=fX a1.row rfl;have p1:∀M,mc d2 sr M:=fun M=>cx d2 sr M _ _ j1;have j8:=a1.put (j:=2) (y:={r.2 with fW:=f.fW+I}) (Ah:=J) (v:=II (f.fW+I)) g4 f4 (by decide) (by rcases f0.out with s|⟨c6,s⟩<;>rw[s]<;>rfl) (a1.bytes n r.2 J g4 f4);have k4:=fK i6;have h9:=fK j8;have k5:=fK d9;clear i6 f3 j8 a1 d9 d7 j1 d8 j7 S T U V W Q R g5 g6 g7 g8 c7 b1 m7;go_wp2_with fail;go_ret;rw[H.out,K.out];have i5:=h9.out.1.Nj;simp only[cS]at i5;exact⟨rfl,h6.out e4 _ _ k4.out (k5.out.trans h9.out.2) i5⟩
        ·rw[if_neg e1]at c3;have k7:=fK c3;have K:Hid (gt p.c.c4 k.fS u P f=(r.1,f)):=by show _=_;rw[x.out,if_pos e1]
         clear c3;go_wp2_with fail;go_ret;rw[H.out,K.out,ia C];exact⟨rfl,a4.out _ (fP a2.out k7.out)⟩
       ·rw[e2]at c7;have K:Hid (gt p.c.c4 k.fS u P f=(0,{f with fW:=f.fW+I})):=by have:=x.out;rw[e2,if_neg (by decide),i0.out,e7.out]at this;exact this
        go_wp2_with fail;go_ret;rw[H.out,K.out];have e0:=h8.out.put (j:=2) (y:={f with fW:=f.fW+I}) (Ah:=.slice b3 f.bytes.length b2) (v:=II (f.fW+I)) C a9 (by decide) rfl (i2.out.below a2.out);exact⟨rfl,h6.out a6 _ _ a2.out e0.2 e0.1.Nj⟩
    ·rw[a0]at b1;have K:Hid (gt p.c.c4 k.fS u P f=(0,f)):=by show _=_;rw[x.out,a0];rfl
     go_wp2_with fail;go_ret;rw[H.out,K.out];refine⟨rfl,?_⟩;rw[ia C];exact a4.out _ N.out
   ·have K:Hid (gt p.c.c4 k.fS u P f=(6,f)):=by show _=_;unfold gt;simp only[f7,d0.out];rw[show(decide ((3:Int)≠3))=false from rfl,f5];rfl
    go_wp2_with fail;go_ret;rw[H.out,K.out];refine⟨rfl,?_⟩;rw[ia C];exact a4.out _ N.out
 ·have H:Hid (gO p.c.c4 P k=(4,k)):=by show _=_;unfold gO;rw[h7.out,cJ (by omega)]
  go_enter func190,ntmps190;go_upto_region 1 with fail;obtain⟨L,Y⟩:=d1.out _ rfl;clear d1;generalize b.alloc (.cells #[II 3,II n,II P.iP,II P.code,.slice E P.bytes.length D] 296)=l at L Y⊢;obtain⟨S,T,U,V,W,Q,R⟩:=a3.out l L Y;have c9:=fK L;clear L Y a3;go_wp2_with fail;go_quiet (fail);go_wp2_with fail;go_ret;rw[H.out];exact⟨rfl,a4.out _ (fQ c9.out _)⟩
def gs.hi(x:gs)(h:Int):gs:={x with fW:=h}
def gs.fi(x:gs)(e:Int):gs:={x with final:=e}
theorem Gw{k:fV}{d4:List Nat}(a0:gF b p d m d4 h q A out t)(hi:p.fN[i]? =some k)(j3:m[i]? =some cb)(k6:d4[i]? =some sr)
  {c:Int} (g9:hS c k) (g4:je b e P.bytes) (m0:P.bytes.length<=1073741823) (m1:0<=P.id/\P.id<=1073741823) (m3:0<=P.iP/\P.iP<=1073741823) (d1:P.type=4):
  aL ab 190 #[Pt d,Pt cb,.agg #[II P.type,II P.id,II P.iP,II P.code,e]] b fun n J=>n=.returned (II (gO p.c.c4 P k).1)/\Leaves b d m d4 h cb sr A {p with fN:=p.fN.set i (gO p.c.c4 P k).2} t J:=by
 have j2:=a0.iq i k cb sr hi j3 k6;obtain⟨n0,k9,j0,g8⟩:=j2.EY;obtain⟨o,c8⟩:∃o:Nat,P.id=o:=⟨P.id.toNat,by omega⟩;obtain⟨H,G,rfl⟩:=g4.form;have k0:P.id.toNat=o:=by omega
 have b0:Hid (∀S,Bw b S->Leaves b d m d4 h cb sr A {p with fN:=p.fN.set i k} t S):=by intro S x;rw[ia hi];exact⟨h,q,out,a0.below x,gm.fU x,cM a0.mM.1,lU.refl _ _⟩
 have a9:Hid (∀l,Bw b l->jU l b.heap.size P (.slice H P.bytes.length G)->l.cell? (gf b 0)=some (II 4)/\l.cell? (gf b 1)=some (II o)/\l.cell? (gf b 2)=some (II P.iP)/\l.cell? (gf b 3)=some (II P.code)/\l.cell? (gf b 4)=some (.slice H P.bytes.length G)/\
   l.cell? (Ad cb 8)=some (II k.fS)/\l.cell? (Ad cb 9)=some (ai (some (Ad sr 0)) k.fM.length k9)):=by
  intro l x b3;have E:=g8.below x;unfold jU at b3;refine⟨?_,?_,?_,?_,?_,?_,?_⟩
  ·simp[aD,b3,d1]
  ·simp[aD,b3,c8]
  ·simp[aD,b3]
  ·simp[aD,b3]
  ·simp[aD,b3]
  ·simp[aD,E.cell,gn]
  ·simp[aD,E.cell,gn]
 have d7:Hid (∀S:aK,S=b.alloc (.cells #[II 4,II o,II P.iP,II P.code,.slice H P.bytes.length G] 296)->Bw b S/\jU S b.heap.size P (.slice H P.bytes.length G)):=by rintro S rfl;refine⟨fO _ _,?_⟩;unfold jU;rw[d1,c8];exact cA b _
 have m5:=g9.lu;have a4:=fK g8;have f1:=fK a0;have b7:=fK g9;have l3:=fK g4;have d6:=fK d1;have i5:=fK k0;have n4:=fK c8;rw[d1,c8];clear a0 g8 j2 g4 d1 k0 c8 m1 g9;by_cases k1:o<k.fM.length
 ·obtain⟨f,z⟩:∃f,k.fM[o]? =some f:=⟨_,ap k1⟩;obtain⟨h8,a7⟩:∃h8,j0[o]? =some h8:=⟨_,ap (by rw[a4.out.len];exact k1)⟩;have K:Hid (gO p.c.c4 P k=((gt p.c.c4 k.fS (im k.fM) P f).1,{k with fM:=k.fM.set o (gt p.c.c4 k.fS (im k.fM) P f).2})):=by show _=_;unfold gO;rw[i5.out,z]
  have b5:=b7.out.str f (bS z);have m7:=a4.out.bytes o f h8 z a7;obtain⟨a3,a2,rfl,k7,k8⟩:=m7;have i9:Hid (Ro b 3 (.slice a3 f.bytes.length a2) f.bytes.length (hP f.bytes)):=⟨a3,a2,rfl,k7,k8⟩;clear k7 k8;obtain⟨n,g3⟩:∃n:Int,P.iP+(P.bytes.length:Int)=n:=⟨_,rfl⟩;have o2:0<=n/\n<=2147483646:=by omega
  have i3:Hid (∀l,Bw b l->l.cell? (Ad sr (o*7))=some (.slice a3 f.bytes.length a2)/\l.cell? (Ad sr (o*7+2))=some (II f.fW)/\l.cell? (Ad sr (o*7+3))=some (II f.fS)/\l.cell? (Ad sr (o*7+4))=some (II f.final)/\l.cell? (Ad sr (o*7+5))=some (.bool f.reset)/\l.cell? (Ad sr (o*7+6))=some (.bool f.done)):=by
   intro l x;have b4:∀j,j<7->l.cell? (Ad sr (o*7+j))=(f.cells (.slice a3 f.bytes.length a2))[j]?:=by intro j c9;have E:=a4.out.below x;rw[E.row.cellAt (o*7+j) (by omega)];exact iQ _ _ o f _ z a7 j c9
   exact⟨b4 0 (by decide),b4 2 (by decide),b4 3 (by decide),b4 4 (by decide),b4 5 (by decide),b4 6 (by decide)⟩
  obtain⟨m4,p1⟩:=b5.read;obtain⟨o3,o4⟩:=b5.fW;obtain⟨o7,o8⟩:=b5.fS;obtain⟨p2,p3⟩:=b5.final;have l5:=b5.bytes;clear b5;have i8:Hid (∀l,Bw b l->aL ab 207 #[Pt d,ag (some (Ad sr (o*7))),.agg #[II 4,II o,II P.iP,II P.code,.slice H P.bytes.length G]] l fun n J=>Bt l sr (o*7) (ij p.c.c4 f P.iP P.bytes) n J):=by intro l x;have E:=a4.out.below x;have m6:=(f1.out.below x).iN;obtain⟨n5,c7⟩:=fX E.row rfl;exact ve (b:=l) (by simp[aD,m6,gh,g_.cells]) (fun j c9=>by rw[E.row.cellAt (o*7+j) (by omega)];exact iQ _ _ o f _ z a7 j c9) (i9.out.below x) (l3.out.below x) (cx l sr _ _ _ c7) l5 ⟨m4,by omega⟩ ⟨m3.1,by omega⟩ m0
  have f2:Hid (∀l,Bw b l->aL ab 206 #[Pt cb] l fun n J=>n=.returned (II (im k.fM))/\J=l):=by intro l x;have E:=a4.out.below x;refine(rF (j:=k) (cb:=cb) sr k9 n0 j0 (b:=l) ⟨fun j=>by simp[aD,E.cell],E.len,fun i p e k5 l6 j c9=>?_,E.runs,E.bytes⟩ m5.2 (fun y e8=>⟨(b7.out.str y e8).fW.1,by have:=(b7.out.str y e8).fW.2;omega⟩)).mono (fun n J a0=>⟨a0.1,a0.2.symm⟩);have:=(bo.1 k5).1;rw[E.row.cellAt (i*7+j) (by omega)];exact iQ _ _ i p e k5 l6 j c9
  have i4:Hid (∀(l J:aK) (f8:fV),Bw b l->gm (· = sr) l J->lf J 0 f8 cb sr->Leaves b d m d4 h cb sr A {p with fN:=p.fN.set i f8} t J):=by intro l J f8 x l8 l7;have:=f1.out.put hi j3 k6 x l8 l7;exact⟨h,q,out,this.1,this.2,cM f1.out.mM.1,lU.refl _ _⟩
  have j9:0<=im k.fM/\im k.fM<=4611686018427387904:=by have s:=pR (y0:=k.fM) (c:=1073741823) (fun y e8=>(b7.out.str y e8).fW);have d8:(k.fM.length:Int)*1073741823<=1073741823*1073741823:=cO (by omega) (by omega);omega
  obtain⟨u,j8⟩:∃Q,im k.fM=Q:=⟨_,rfl⟩;rw[j8]at f2 j9 K;clear j8;obtain⟨o5,o6⟩:=j9;obtain⟨o0,o1⟩:=b7.out.fS;go_enter func190,ntmps190;go_upto_region 1 with fail;obtain⟨M,a1⟩:=d7.out _ rfl;clear d7;generalize b.alloc (.cells #[II 4,II o,II P.iP,II P.code,.slice H P.bytes.length G] 296)=l at M a1⊢;obtain⟨V,W,X,Y,Z,T,U⟩:=a9.out l M a1;have d5:=fK M;have i0:=fK a1;clear M a1;go_wp2_with fail;go_quiet (fail);have d9:=fQ d5.out nq;have e0:jU (l.drewN nq) b.heap.size P (.slice H P.bytes.length G):=i0.out;clear V W X Y Z T U d5 i0;generalize l.drewN nq=f7 at d9 e0⊢;obtain⟨V,W,X,Y,Z,T,U⟩:=a9.out f7 d9 e0;have h9:=fK d9;have i1:=fK e0;clear d9 e0;go_wp2_with fail;go_quiet (fail);have c5:=fQ h9.out nq;have e1:jU (f7.drewN nq) b.heap.size P (.slice H P.bytes.length G):=i1.out;clear V W X Y Z T U h9 i1;generalize f7.drewN nq=b1 at c5 e1⊢;obtain⟨V,W,X,Y,Z,T,U⟩:=a9.out b1 c5 e1;obtain⟨h3,h4,h5,h6,d3,b6⟩:=i3.out b1 c5;have R:=fK c5;have i2:=fK e1;clear c5 e1;go_upto_region 19 with fail;go_cut [113] from 48 to 113 (fun n2 h7=>n2=.bool (rS f n true)/\b1=h7);case first=>
   rcases(show f.final<0\/(0<=f.final/\f.final<n)\/(0<=f.final/\n<f.final)\/(0<=f.final/\n=f.final) from by omega) with s|⟨s,d8⟩|⟨s,d8⟩|⟨s,d8⟩<;>rcases bO n f.fW with l4|l4<;>cases a6:f.done
   all_goals
    rw[a6]at b6;try subst d8
    go_wp2_with fail;go_meet;refine⟨?_,rfl⟩;congr 1;unfold rS;rw[a6];simp;all_goals first
     |omega
     |(trace_state;omega)
  case rest=>
   obtain⟨rfl,rfl⟩:=hcut;cases g1:rS f n true
   ·have D:Hid (gt p.c.c4 k.fS u P f=if f.done then(0,f) else if kz f n k.fS u then(3,f) else
      if f.reset=false then if(ij p.c.c4 f P.iP P.bytes).1≠0 then((ij p.c.c4 f P.iP P.bytes).1,f) else(0,jw P f (ij p.c.c4 f P.iP P.bytes).2) else(0,jw P f f)):=by
     show _=_;unfold gt;simp only[g3,d6.out];rw[show(decide ((4:Int)≠3))=true from rfl,g1];simp
    have i7:Hid (∀r:gs,jw P f r=(r.hi (f.fW+jD f n)).fi n):=by intro r;unfold jw gs.hi gs.fi;simp only[g3,d6.out];simp
    clear g1;cases a6:f.done
    ·rw[a6]at b6;replace D:Hid (gt p.c.c4 k.fS u P f=if kz f n k.fS u then(3,f) else
      if f.reset=false then if(ij p.c.c4 f P.iP P.bytes).1≠0 then((ij p.c.c4 f P.iP P.bytes).1,f) else(0,jw P f (ij p.c.c4 f P.iP P.bytes).2) else(0,jw P f f)):=by
      have:=D.out;rw[a6]at this;exact this
     go_upto_if 123 with fail;go_cut [10] from 114 to 129 (fun n1 h7=>n1=II (jD f n)/\b1=h7);case first=>
      rcases bO f.fW n with s|s
      ·go_wp2_with fail;go_meet;refine⟨?_,rfl⟩;unfold jD;rw[if_pos s]
      ·go_wp2_with fail;go_meet;refine⟨?_,rfl⟩;unfold jD;rw[if_neg (by omega)]
     case rest=>
     obtain⟨rfl,rfl⟩:=hcut;have k2:0<=jD f n/\jD f n<=2147483647:=by unfold jD;split<;>omega
     obtain⟨w,g7⟩:∃w,jD f n=w:=⟨_,rfl⟩;have f3:=fK g7;rw[g7]at k2⊢;clear g7;obtain⟨o9,p0⟩:=k2;have f4:Hid (kz f n k.fS u=(decide (f.fS<n) || decide (k.fS<u+w))):=by show _=_;unfold kz;rw[f3.out]
     rcases bO f.fS n with g2|g2
     ·have b8:Hid (kz f n k.fS u=true):=by show _=_;rw[f4.out,decide_eq_true g2];rfl
      have c7:decide (f.fS<n)=true:=decide_eq_true g2;go_wp2_with fail;go_quiet (fail);go_wp2_with fail;go_ret;rw[K.out,D.out];rw[b8.out,if_pos rfl,ia z];exact⟨rfl,b0.out _ (fQ R.out _)⟩
     ·have c7:decide (f.fS<n)=false:=decide_eq_false (by omega);rcases bO k.fS (u+w) with j5|j5
      ·have b8:Hid (kz f n k.fS u=true):=by show _=_;rw[f4.out,decide_eq_true j5];simp
       go_wp2_with fail;go_quiet ((go_at_call 206;exact cN (f2.out _ (fQ R.out _))));go_wp2_with fail;go_ret;rw[K.out,D.out];rw[b8.out,if_pos rfl,ia z];exact⟨rfl,b0.out _ (fQ R.out _)⟩
      ·have b8:Hid (kz f n k.fS u=false):=by show _=_;rw[f4.out,c7,decide_eq_false (by omega)];rfl
       replace D:Hid (gt p.c.c4 k.fS u P f=if f.reset=false then if(ij p.c.c4 f P.iP P.bytes).1≠0 then((ij p.c.c4 f P.iP P.bytes).1,f) else(0,jw P f (ij p.c.c4 f P.iP P.bytes).2) else(0,jw P f f)):=by have:=D.out;rw[b8.out,if_neg (by decide)]at this;exact this
       go_wp2_with fail;go_quiet ((go_at_call 206;exact cN (f2.out _ (fQ R.out _))));have c6:=fQ R.out nq;have e2:jU (b1.drewN nq) b.heap.size P (.slice H P.bytes.length G):=i2.out;clear V W X Y Z T U h3 h4 h5 h6 d3 b6 R i2 c7;generalize b1.drewN nq=b2 at c6 e2⊢;obtain⟨V,W,X,Y,Z,T,U⟩:=a9.out b2 c6 e2;obtain⟨h3,h4,h5,h6,d3,b6⟩:=i3.out b2 c6;have a8:=fK c6;have l1:=fK e2;clear c6 e2;have g5:=a4.out.below a8.out;obtain⟨n6,j6⟩:=fX g5.row rfl;have n3:∀Q,mc b2 sr Q:=fun Q=>cx b2 sr Q _ _ j6;have i6:=fK g5;clear g5 j6;cases e7:f.reset
       ·rw[e7]at d3;replace D:Hid (gt p.c.c4 k.fS u P f=if(ij p.c.c4 f P.iP P.bytes).1≠0 then((ij p.c.c4 f P.iP P.bytes).1,f) else(0,jw P f (ij p.c.c4 f P.iP P.bytes).2)):=by have:=D.out;rw[e7,if_pos rfl]at this;exact this
        have f5:=fK (i8.out b2 a8.out);obtain⟨r,h1⟩:∃r,ij p.c.c4 f P.iP P.bytes=r:=⟨_,rfl⟩;have f6:Hid (r.2=f\/∃d2,r.2 = {f with bytes:=d2}):=by
         rw[<-h1];unfold ij;split
         ·exact bg rfl
         ·split
          ·exact bg rfl
          ·exact bf ⟨_,rfl⟩
        rw[h1]at f5 D;clear h1 i8;go_wp2_with fail;refine f5.out.mono ?_;rintro n9 p7 ⟨rfl,d0⟩;clear f5;by_cases e6:r.1=0
        ·rw[if_pos e6]at d0;obtain⟨e9,C,e4,k3,rfl⟩:=d0;have j1:=fP a8.out e4;have f9:jU e9 b.heap.size P (.slice H P.bytes.length G):=by have s:=l1.out;unfold jU at s⊢;rw[e4.block _ (bn.1 s).1];exact s
         have m8:r.2.cells C=(f.cells (.slice a3 f.bytes.length a2)).set 0 C:=by rcases f6.out with s|⟨d2,s⟩<;>rw[s]<;>rfl
         have m9:r.2.fW=f.fW:=by rcases f6.out with s|⟨d2,s⟩<;>rw[s]
         have h0:=(i6.out.below e4).put (j:=0) (y:=r.2) (Ah:=C) (v:=C) z a7 (by decide) m8 (Ro.qf k3);obtain⟨I,a5⟩:=h0;rw[aF]at I a5;have m2:b.heap.size≠sr:=by obtain⟨n8,l9⟩:=fX (n:=sr) a4.out.row rfl;have s:=(bn.1 l9).1;omega
         have e3:jU (e9.setCell (Ad sr (o*7)) C) b.heap.size P (.slice H P.bytes.length G):=by unfold jU at f9⊢;rw[cy _ _ _ _ m2];exact f9
         have L:Hid (gt p.c.c4 k.fS u P f=(0,(r.2.hi (f.fW+w)).fi n)):=by have:=D.out;rw[if_neg (by simp[e6]),i7.out,f3.out]at this;exact this
         have O:=getElem?_set_at (x0:=r.2) z;have N:=getElem?_set_at (x0:=C) a7;generalize e9.setCell (Ad sr (o*7)) C=c2 at I a5 e3⊢;have p4:c2.cell? (gf b 0)=some (II 4):=by unfold jU at e3;simp[aD,e3,d6.out]
         have p5:c2.cell? (Ad sr (o*7+2))=some (II f.fW):=by rw[I.row.cellAt (o*7+2) (by simp;omega)];refine(iQ _ _ o r.2 C O N 2 (by decide)).trans ?_;rw[<-m9];rfl
         obtain⟨n7,j7⟩:=fX I.row rfl;have p8:∀Q,mc c2 sr Q:=fun Q=>cx c2 sr Q _ _ j7;have e5:=I.put (j:=2) (y:=r.2.hi (f.fW+w)) (Ah:=C) (v:=II (f.fW+w)) O N (by decide) rfl (I.bytes o r.2 C O N);obtain⟨g6,j4⟩:=e5;have h2:=getElem?_set_at (x0:=r.2.hi (f.fW+w)) O;have g0:=getElem?_set_at (x0:=C) N;have k4:=g6.put (j:=4) (y:=(r.2.hi (f.fW+w)).fi n) (Ah:=C) (v:=II n) h2 g0 (by decide) rfl (g6.bytes o (r.2.hi (f.fW+w)) C h2 g0);have p6:c2.cell? (Ad sr (o*7+4))=some (II f.final):=by rw[I.row.cellAt (o*7+4) (by simp;omega)];refine(iQ _ _ o r.2 C O N 4 (by decide)).trans ?_;rcases f6.out with s|⟨d2,s⟩<;>rw[s]<;>rfl
         have l0:=fK j1;have b9:=fK k4;have f0:=fK (a5.trans j4);clear j1 f9 k4 I a5 g6 j4 h2 g0 e3 j7 e4 k3 V W X Y Z T U h3 h4 h5 h6 d3 b6 n3;go_wp2_with fail;go_ret;rw[K.out,L.out];have c3:=b9.out.1.Nj;simp only[cS]at c3;exact⟨rfl,i4.out e9 _ _ l0.out (f0.out.trans b9.out.2) c3⟩
        ·rw[if_neg e6]at d0;have l2:=fK d0;have L:Hid (gt p.c.c4 k.fS u P f=(r.1,f)):=by show _=_;rw[D.out,if_pos e6]
         clear d0;go_wp2_with fail;go_ret;rw[K.out,L.out,ia z];exact⟨rfl,b0.out _ (fP a8.out l2.out)⟩
       ·rw[e7]at d3;have L:Hid (gt p.c.c4 k.fS u P f=(0,(f.hi (f.fW+w)).fi n)):=by have:=D.out;rw[e7,if_neg (by decide),i7.out,f3.out]at this;exact this
        have h0:=i6.out.put (j:=2) (y:=f.hi (f.fW+w)) (Ah:=.slice a3 f.bytes.length a2) (v:=II (f.fW+w)) z a7 (by decide) rfl (i9.out.below a8.out);obtain⟨I,a5⟩:=h0;have O:=getElem?_set_at (x0:=f.hi (f.fW+w)) z;have N:=getElem?_set_at (x0:=aJ a3 f.bytes.length a2) a7;have e5:=I.put (j:=4) (y:=(f.hi (f.fW+w)).fi n) (Ah:=.slice a3 f.bytes.length a2) (v:=II n) O N (by decide) rfl (I.bytes o (f.hi (f.fW+w)) _ O N);have b9:=fK e5;have f0:=fK a5;clear I a5 e5 O N;go_wp2_with fail;go_ret;rw[K.out,L.out];have c3:=b9.out.1.Nj;simp only[cS]at c3;exact⟨rfl,i4.out b2 _ _ a8.out (f0.out.trans b9.out.2) c3⟩
    ·rw[a6]at b6;have L:Hid (gt p.c.c4 k.fS u P f=(0,f)):=by show _=_;rw[D.out,a6];rfl
     go_wp2_with fail;go_ret;rw[K.out,L.out];refine⟨rfl,?_⟩;rw[ia z];exact b0.out _ R.out
   ·have L:Hid (gt p.c.c4 k.fS u P f=(6,f)):=by show _=_;unfold gt;simp only[g3,d6.out];rw[show(decide ((4:Int)≠3))=true from rfl,g1];rfl
    go_wp2_with fail;go_ret;rw[K.out,L.out];refine⟨rfl,?_⟩;rw[ia z];exact b0.out _ R.out
 ·have K:Hid (gO p.c.c4 P k=(4,k)):=by show _=_;unfold gO;rw[i5.out,cJ (by omega)]
  go_enter func190,ntmps190;go_upto_region 1 with fail;obtain⟨M,a1⟩:=d7.out _ rfl;clear d7;generalize b.alloc (.cells #[II 4,II o,II P.iP,II P.code,.slice H P.bytes.length G] 296)=l at M a1⊢;obtain⟨V,W,X,Y,Z,T,U⟩:=a9.out l M a1;have d5:=fK M;clear M a1 a9;go_wp2_with fail;go_quiet (fail);go_wp2_with fail;go_ret;rw[K.out];exact⟨rfl,b0.out _ (fQ d5.out _)⟩
def gs.re(x:gs):gs:={x with reset:=true}
def gs.em(x:gs):gs:={x with bytes:=[]}
theorem Gv{n:fV}(a1:gF b p d m c8 h q A out t)(hi:p.fN[i]? =some n)(j7:m[i]? =some cb)(l3:c8[i]? =some sr)
  {c:Int} (h1:hS c n) (g4:je b e P.bytes) (p4:P.bytes.length<=1073741823) (n1:0<=P.id/\P.id<=1073741823) (q3:0<=P.iP/\P.iP<=1073741823) (c7:P.type=5):
  aL ab 190 #[Pt d,Pt cb,.agg #[II P.type,II P.id,II P.iP,II P.code,e]] b fun k E=>k=.returned (II (gO p.c.c4 P n).1)/\Leaves b d m c8 h cb sr A {p with fN:=p.fN.set i (gO p.c.c4 P n).2} t E:=by
 have j2:=a1.iq i n cb sr hi j7 l3;obtain⟨l7,h8,j1,h0⟩:=j2.EY;obtain⟨s,c5⟩:∃s:Nat,P.id=s:=⟨P.id.toNat,by omega⟩;obtain⟨H,G,rfl⟩:=g4.form;have k6:P.id.toNat=s:=by omega
 have b8:Hid (∀S,Bw b S->Leaves b d m c8 h cb sr A {p with fN:=p.fN.set i n} t S):=by intro S I;rw[ia hi];exact⟨h,q,out,a1.below I,gm.fU I,cM a1.mM.1,lU.refl _ _⟩
 have a4:Hid (∀o,Bw b o->jU o b.heap.size P (.slice H P.bytes.length G)->o.cell? (gf b 0)=some (II 5)/\o.cell? (gf b 1)=some (II s)/\o.cell? (gf b 2)=some (II P.iP)/\o.cell? (gf b 3)=some (II P.code)/\o.cell? (gf b 4)=some (.slice H P.bytes.length G)/\
   o.cell? (Ad cb 8)=some (II n.fS)/\o.cell? (Ad cb 9)=some (ai (some (Ad sr 0)) n.fM.length h8)):=by
  intro o I b1;have z:=h0.below I;unfold jU at b1;refine⟨?_,?_,?_,?_,?_,?_,?_⟩
  ·simp[aD,b1,c7]
  ·simp[aD,b1,c5]
  ·simp[aD,b1]
  ·simp[aD,b1]
  ·simp[aD,b1]
  ·simp[aD,z.cell,gn]
  ·simp[aD,z.cell,gn]
 have d3:Hid (∀S:aK,S=b.alloc (.cells #[II 5,II s,II P.iP,II P.code,.slice H P.bytes.length G] 296)->Bw b S/\jU S b.heap.size P (.slice H P.bytes.length G)):=by rintro S rfl;refine⟨fO _ _,?_⟩;unfold jU;rw[c7,c5];exact cA b _
 have n5:=h1.lu;have a8:=fK h0;have i7:=fK a1;have b5:=fK h1;have o5:=fK g4;have d2:=fK c7;have i8:=fK k6;have o4:=fK c5;rw[c7,c5];clear a1 h0 j2 g4 c7 k6 c5 n1 h1;by_cases k7:s<n.fM.length
 ·obtain⟨f,J⟩:∃f,n.fM[s]? =some f:=⟨_,ap k7⟩;obtain⟨i0,e3⟩:∃i0,j1[s]? =some i0:=⟨_,ap (by rw[a8.out.len];exact k7)⟩;have K:Hid (gO p.c.c4 P n=((gt p.c.c4 n.fS (im n.fM) P f).1,{n with fM:=n.fM.set s (gt p.c.c4 n.fS (im n.fM) P f).2})):=by show _=_;unfold gO;rw[i8.out,J]
  have b3:=b5.out.str f (bS J);have n6:=a8.out.bytes s f i0 J e3;obtain⟨D,C,rfl,l4,l5⟩:=n6;have m4:Hid (Ro b 3 (.slice D f.bytes.length C) f.bytes.length (hP f.bytes)):=⟨D,C,rfl,l4,l5⟩;clear l4 l5;obtain⟨k,g3⟩:∃k:Int,P.iP+(P.bytes.length:Int)=k:=⟨_,rfl⟩;have p3:0<=k/\k<=2147483646:=by omega
  have e8:Hid (∀o,Bw b o->o.cell? (Ad sr (s*7))=some (.slice D f.bytes.length C)/\o.cell? (Ad sr (s*7+2))=some (II f.fW)/\o.cell? (Ad sr (s*7+3))=some (II f.fS)/\o.cell? (Ad sr (s*7+4))=some (II f.final)/\o.cell? (Ad sr (s*7+5))=some (.bool f.reset)/\o.cell? (Ad sr (s*7+6))=some (.bool f.done)):=by
   intro o I;have b2:∀j,j<7->o.cell? (Ad sr (s*7+j))=(f.cells (.slice D f.bytes.length C))[j]?:=by intro j c6;have z:=a8.out.below I;rw[z.row.cellAt (s*7+j) (by omega)];exact iQ _ _ s f _ J e3 j c6
   exact⟨b2 0 (by decide),b2 2 (by decide),b2 3 (by decide),b2 4 (by decide),b2 5 (by decide),b2 6 (by decide)⟩
  obtain⟨n4,q4⟩:=b3.read;obtain⟨p5,p6⟩:=b3.fW;obtain⟨p9,q0⟩:=b3.fS;obtain⟨q5,q6⟩:=b3.final;have m6:=b3.bytes;clear b3;have i1:Hid (∀(o:aK) (y:gs) (T:fV) (f6:List aM),pY o T cb sr l7 h8 f6->T.fM[s]? =some y->f6[s]? =some (.slice D f.bytes.length C)->T.fM.length=n.fM.length->y.bytes=f.bytes->y.read=f.read->aL ab 208 #[ag (some (Ad sr (s*7)))] o fun k E=>k=.returned (.bool (wX y))/\∃n7,E=o.drewN n7):=by
   intro o y T f6 z a6 l6 n2 x b0;refine Lw (e:=.slice D f.bytes.length C) (fun j c6=>?_) ?_ (by rw[x];exact m6) (by rw[b0];exact⟨n4,by omega⟩)
   ·rw[z.row.cellAt (s*7+j) (by rw[n2];omega)];exact iQ _ _ s y _ a6 l6 j c6
   ·exact z.bytes s y _ a6 l6
  have e9:Hid (∀o,Bw b o->aL ab 206 #[Pt cb] o fun k E=>k=.returned (II (im n.fM))/\E=o):=by intro o I;have z:=a8.out.below I;refine(rF sr h8 l7 j1 ⟨fun j=>by simp[aD,z.cell],z.len,fun i p e l1 m7 j c6=>?_,z.runs,z.bytes⟩ n5.2 (fun y a6=>⟨(b5.out.str y a6).fW.1,by have:=(b5.out.str y a6).fW.2;omega⟩)).mono (fun k E a1=>⟨a1.1,a1.2.symm⟩);have:=(bo.1 l1).1;rw[z.row.cellAt (i*7+j) (by omega)];exact iQ _ _ i p e l1 m7 j c6
  have i6:Hid (∀(o E:aK) (T:fV),Bw b o->gm (· = sr) o E->lf E 0 T cb sr->Leaves b d m c8 h cb sr A {p with fN:=p.fN.set i T} t E):=by intro o E T I m9 m8;have:=i7.out.put hi j7 l3 I m9 m8;exact⟨h,q,out,this.1,this.2,cM i7.out.mM.1,lU.refl _ _⟩
  have k5:0<=im n.fM/\im n.fM<=4611686018427387904:=by have x:=pR (y0:=n.fM) (c:=1073741823) (fun y a6=>(b5.out.str y a6).fW);have b0:(n.fM.length:Int)*1073741823<=1073741823*1073741823:=cO (by omega) (by omega);omega
  obtain⟨w,k4⟩:∃Q,im n.fM=Q:=⟨_,rfl⟩;rw[k4]at e9 k5 K;clear k4;obtain⟨p7,p8⟩:=k5;obtain⟨p1,p2⟩:=b5.out.fS;go_enter func190,ntmps190;go_upto_region 1 with fail;obtain⟨O,a2⟩:=d3.out _ rfl;clear d3;generalize b.alloc (.cells #[II 5,II s,II P.iP,II P.code,.slice H P.bytes.length G] 296)=o at O a2⊢;obtain⟨W,X,Y,Z,a0,U,V⟩:=a4.out o O a2;have d0:=fK O;have i3:=fK a2;clear O a2;go_wp2_with fail;go_quiet (fail);have d4:=fQ d0.out nq;have d5:jU (o.drewN nq) b.heap.size P (.slice H P.bytes.length G):=i3.out;clear W X Y Z a0 U V d0 i3;generalize o.drewN nq=f4 at d4 d5⊢;obtain⟨W,X,Y,Z,a0,U,V⟩:=a4.out f4 d4 d5;have i2:=fK d4;have i4:=fK d5;clear d4 d5;go_wp2_with fail;go_quiet (fail);have c2:=fQ i2.out nq;have d6:jU (f4.drewN nq) b.heap.size P (.slice H P.bytes.length G):=i4.out;clear W X Y Z a0 U V i2 i4;generalize f4.drewN nq=a9 at c2 d6⊢;obtain⟨W,X,Y,Z,a0,U,V⟩:=a4.out a9 c2 d6;obtain⟨h3,h4,h5,h6,h7,b4⟩:=e8.out a9 c2;have R:=fK c2;have i5:=fK d6;clear c2 d6;go_upto_region 19 with fail;go_cut [113] from 48 to 113 (fun o1 h9=>o1=.bool (rS f k true)/\a9=h9);case first=>
   rcases(show f.final<0\/(0<=f.final/\f.final<k)\/(0<=f.final/\k<f.final)\/(0<=f.final/\k=f.final) from by omega) with x|⟨x,b0⟩|⟨x,b0⟩|⟨x,b0⟩<;>rcases bO k f.fW with m5|m5<;>cases a5:f.done
   all_goals
    rw[a5]at b4;try subst b0
    go_wp2_with fail;go_meet;refine⟨?_,rfl⟩;congr 1;unfold rS;rw[a5];simp;all_goals first
     |omega
     |(trace_state;omega)
  case rest=>
   obtain⟨rfl,rfl⟩:=hcut;cases f9:rS f k true
   ·have L:Hid (gt p.c.c4 n.fS w P f=if f.done then(0,f) else if kz f k n.fS w then(3,f) else(0,jw P f f)):=by show _=_;unfold gt;simp only[g3,d2.out];rw[show(decide ((5:Int)≠3))=true from rfl,f9];simp
    have j0:Hid (jw P f f=if wX ((f.hi (f.fW+jD f k)).fi k)=false then {(f.hi (f.fW+jD f k)).fi k with reset:=true,bytes:=[]} else(f.hi (f.fW+jD f k)).fi k):=by show _=_;unfold jw gs.hi gs.fi;simp only[g3,d2.out];simp
    clear f9;cases a5:f.done
    ·rw[a5]at b4;replace L:Hid (gt p.c.c4 n.fS w P f=if kz f k n.fS w then(3,f) else(0,jw P f f)):=by have:=L.out;rw[a5]at this;exact this
     go_upto_if 123 with fail;go_cut [10] from 114 to 129 (fun o0 h9=>o0=II (jD f k)/\a9=h9);case first=>
      rcases bO f.fW k with x|x
      ·go_wp2_with fail;go_meet;refine⟨?_,rfl⟩;unfold jD;rw[if_pos x]
      ·go_wp2_with fail;go_meet;refine⟨?_,rfl⟩;unfold jD;rw[if_neg (by omega)]
     case rest=>
     obtain⟨rfl,rfl⟩:=hcut;have k9:0<=jD f k/\jD f k<=2147483647:=by unfold jD;split<;>omega
     obtain⟨u,g9⟩:∃u,jD f k=u:=⟨_,rfl⟩;have i9:=fK g9;rw[g9]at k9⊢;clear g9;obtain⟨q1,q2⟩:=k9;have f1:Hid (kz f k n.fS w=(decide (f.fS<k) || decide (n.fS<w+u))):=by show _=_;unfold kz;rw[i9.out]
     rcases bO f.fS k with g0|g0
     ·have b6:Hid (kz f k n.fS w=true):=by show _=_;rw[f1.out,decide_eq_true g0];rfl
      have g2:decide (f.fS<k)=true:=decide_eq_true g0;go_wp2_with fail;go_quiet (fail);go_wp2_with fail;go_ret;rw[K.out,L.out];rw[b6.out,if_pos rfl,ia J];exact⟨rfl,b8.out _ (fQ R.out _)⟩
     ·have g2:decide (f.fS<k)=false:=decide_eq_false (by omega);rcases bO n.fS (w+u) with k1|k1
      ·have b6:Hid (kz f k n.fS w=true):=by show _=_;rw[f1.out,decide_eq_true k1];simp
       go_wp2_with fail;go_quiet ((go_at_call 206;exact cN (e9.out _ (fQ R.out _))));go_wp2_with fail;go_ret;rw[K.out,L.out];rw[b6.out,if_pos rfl,ia J];exact⟨rfl,b8.out _ (fQ R.out _)⟩
      ·have b6:Hid (kz f k n.fS w=false):=by show _=_;rw[f1.out,g2,decide_eq_false (by omega)];rfl
       replace L:Hid (gt p.c.c4 n.fS w P f=(0,jw P f f)):=by have:=L.out;rw[b6.out,if_neg (by decide)]at this;exact this
       go_wp2_with fail;go_quiet ((go_at_call 206;exact cN (e9.out _ (fQ R.out _))));have c3:=fQ R.out nq;have d7:jU (a9.drewN nq) b.heap.size P (.slice H P.bytes.length G):=i5.out;clear W X Y Z a0 U V h3 h4 h5 h6 h7 b4 R i5 g2;generalize a9.drewN nq=M at c3 d7⊢;obtain⟨W,X,Y,Z,a0,U,V⟩:=a4.out M c3 d7;obtain⟨h3,h4,h5,h6,h7,b4⟩:=e8.out M c3;have d1:=fK c3;have m0:=fK d7;clear c3 d7;have g6:=a8.out.below d1.out;obtain⟨o7,k2⟩:=fX g6.row rfl;have o2:∀Q,mc M sr Q:=fun Q=>cx M sr Q _ _ k2;have m2:=fK g6;clear g6 k2;have n3:=m2.out.put (j:=2) (y:=f.hi (f.fW+u)) (Ah:=.slice D f.bytes.length C) (v:=II (f.fW+u)) J e3 (by decide) rfl (m4.out.below d1.out);obtain⟨g7,j8⟩:=n3;have e1:=getElem?_set_at (x0:=f.hi (f.fW+u)) J;have d8:=getElem?_set_at (x0:=aJ D f.bytes.length C) e3;obtain⟨g8,j9⟩:=g7.put (j:=4) (y:=(f.hi (f.fW+u)).fi k) (Ah:=.slice D f.bytes.length C) (v:=II k) e1 d8 (by decide) rfl (g7.bytes s (f.hi (f.fW+u)) _ e1 d8);have h2:=getElem?_set_at (x0:=(f.hi (f.fW+u)).fi k) e1;have f7:=getElem?_set_at (x0:=aJ D f.bytes.length C) d8;have l0:b.heap.size≠sr:=by obtain⟨o9,n0⟩:=fX (n:=sr) a8.out.row rfl;have x:=(bn.1 n0).1;omega
       have j4:jU ((M.setCell (Ad sr (s*7+2)) (II (f.fW+u))).setCell (Ad sr (s*7+4)) (II k)) b.heap.size P (.slice H P.bytes.length G):=by have x:=m0.out;unfold jU at x⊢;rw[cy _ _ _ _ l0,cy _ _ _ _ l0];exact x
       have c9:=fK (i1.out _ _ _ _ g8 h2 f7 (by simp) rfl rfl);have f0:=fK g8;have e5:=fK (j8.trans j9);have e7:=fK j4;have f3:=fK h2;have e4:=fK f7;have b7:Hid (gt p.c.c4 n.fS w P f=(0,if wX ((f.hi (f.fW+u)).fi k)=false then {(f.hi (f.fW+u)).fi k with reset:=true,bytes:=[]} else(f.hi (f.fW+u)).fi k)):=by have:=L.out;rw[j0.out,i9.out]at this;exact this
       clear g7 j8 g8 j9 e1 d8 h2 f7 j4 i1 L j0;obtain⟨f5,j5⟩:∃f5,wX ((f.hi (f.fW+u)).fi k)=f5:=⟨_,rfl⟩;rw[j5]at c9 b7;clear j5;go_upto_region 35 with fail;generalize (M.setCell (Ad sr (s*7+2)) (II (f.fW+u))).setCell (Ad sr (s*7+4)) (II k)=N at c9 f0 e5 e7⊢;have q7:N.cell? (gf b 0)=some (II 5):=by have j3:=e7.out;unfold jU at j3;simp[aD,j3,d2.out]
       clear W X Y Z a0 U V h3 h4 h5 h6 h7 b4 o2 a4 e8 e7;go_wp2_with fail;refine c9.out.mono ?_;rintro p0 q8 ⟨rfl,a7,rfl⟩;clear c9;have f8:Bw N (N.drewN a7):=fQ (Below.refl _ _) _;have a3:=f0.out.below f8;have e0:gm (· = sr) M (N.drewN a7):=e5.out.trans (gm.fU f8);obtain⟨o8,k3⟩:=fX a3.row rfl;have o3:∀Q,mc (N.drewN a7) sr Q:=fun Q=>cx (N.drewN a7) sr Q _ _ k3;have n8:(N.drewN a7).cell? (Ad sr (s*7))=some (.slice D f.bytes.length C):=by have:=a3.row.cellAt (s*7+0) (by simp;omega);rw[aF]at this;rw[this];exact(iQ _ _ s _ _ f3.out e4.out 0 (by decide)).trans rfl
       have n9:(N.drewN a7).cell? (Ad sr (s*7+5))=some (.bool f.reset):=by rw[a3.row.cellAt (s*7+5) (by simp;omega)];exact(iQ _ _ s _ _ f3.out e4.out 5 (by decide)).trans rfl
       generalize N.drewN a7=o6 at a3 e0 o3 n8 n9⊢;have e2:=f3.out;have d9:=e4.out;obtain⟨k8,k0⟩:=a3.put (j:=5) (y:=((f.hi (f.fW+u)).fi k).re) (Ah:=.slice D f.bytes.length C) (v:=.bool true) e2 d9 (by decide) rfl (a3.bytes s ((f.hi (f.fW+u)).fi k) _ e2 d9);have l2:=getElem?_set_at (x0:=((f.hi (f.fW+u)).fi k).re) e2;have j6:=getElem?_set_at (x0:=aJ D f.bytes.length C) d9;obtain⟨g5,g1⟩:=k8.put (j:=0) (y:=((f.hi (f.fW+u)).fi k).re.em) (Ah:=ai none 0 0) (v:=ai none 0 0) l2 j6 (by decide) rfl (Ro.nil _ _);rw[aF]at g5 g1;have m3:=fK a3;have l9:=fK e0;have m1:=fK g5;have l8:=fK (e0.trans (k0.trans g1));clear a3 e0 k8 k0 g5 g1 e2 l2 j6 d9 k3 f8 f0 e5;cases f5
       ·have f2:Hid (gt p.c.c4 n.fS w P f=(0,((f.hi (f.fW+u)).fi k).re.em)):=by show _=_;rw[b7.out];rfl
        clear b7;go_wp2_with fail;go_ret;rw[K.out,f2.out];have b9:=m1.out.Nj;simp only[cS]at b9;exact⟨rfl,i6.out M _ _ d1.out l8.out b9⟩
       ·have f2:Hid (gt p.c.c4 n.fS w P f=(0,(f.hi (f.fW+u)).fi k)):=by show _=_;rw[b7.out];rfl
        clear b7;go_wp2_with fail;go_ret;rw[K.out,f2.out];have b9:=m3.out.Nj;simp only[cS]at b9;exact⟨rfl,i6.out M _ _ d1.out l9.out b9⟩
    ·rw[a5]at b4;have e6:Hid (gt p.c.c4 n.fS w P f=(0,f)):=by show _=_;rw[L.out,a5];rfl
     go_wp2_with fail;go_ret;rw[K.out,e6.out];refine⟨rfl,?_⟩;rw[ia J];exact b8.out _ R.out
   ·have e6:Hid (gt p.c.c4 n.fS w P f=(6,f)):=by show _=_;unfold gt;simp only[g3,d2.out];rw[show(decide ((5:Int)≠3))=true from rfl,f9];rfl
    go_wp2_with fail;go_ret;rw[K.out,e6.out];refine⟨rfl,?_⟩;rw[ia J];exact b8.out _ R.out
 ·have K:Hid (gO p.c.c4 P n=(4,n)):=by show _=_;unfold gO;rw[i8.out,cJ (by omega)]
  go_enter func190,ntmps190;go_upto_region 1 with fail;obtain⟨O,a2⟩:=d3.out _ rfl;clear d3;generalize b.alloc (.cells #[II 5,II s,II P.iP,II P.code,.slice H P.bytes.length G] 296)=o at O a2⊢;obtain⟨W,X,Y,Z,a0,U,V⟩:=a4.out o O a2;have d0:=fK O;clear O a2 a4;go_wp2_with fail;go_quiet (fail);go_wp2_with fail;go_ret;rw[K.out];exact⟨rfl,b8.out _ (fQ d0.out _)⟩
theorem Ch(k:gF b p d m v e h A out t)(hi:p.fN[i]? =some j)(l:m[i]? =some cb)(z:v[i]? =some sr)(L:p.fN.length<=1000)(B:P.type=6):
  aL ab 190 #[Pt d,Pt cb,.agg #[II P.type,II P.id,II P.iP,II P.code,.slice R z7 cap]] b fun f c=>f=.returned (II 0)/\Leaves b d (m.eraseIdx i) (v.eraseIdx i) e cb sr A {p with fN:=p.fN.eraseIdx i} t c/\c.cell? (Ad cb 0)=some (II j.fZ):=by
 rw[B];obtain⟨U,V,w⟩:=(k.iq i j cb sr hi l z).cb;have M:=lH k.iN w;have q:Hid (∀g,Bw b g->aL ab 194 #[Pt d,Pt cb] g fun f c=>f=.returned (.tuple #[])/\Leaves g d (m.eraseIdx i) (v.eraseIdx i) e cb sr A {p with fN:=p.fN.eraseIdx i} t c/\c.cell? (Ad cb 0)=some (II j.fZ)):=by
  intro g I;have a:=k.below I;refine(AP a.iN a.row (by rw[a.iD];exact L) (a.DO _ (bS l)) a.DO).mono ?_;rintro f c ⟨rfl,n,G,N,y⟩;obtain⟨S,T,u⟩:=(a.iq i j cb sr hi l z).cb;refine⟨rfl,⟨G,h,out,a.erase l n N y,n.mono (fun C _ o=>bg o),cM a.mM.1,fun C o=>bf (y.lt C o).1⟩,?_⟩;have:c.heap[cb]? =some (.cells (gn j S T) 249 (0,0)):=by rw[n.block cb (bn.1 u).1 (ch M)];exact u
  simp[aD,this,gn]
 clear B k w;go_enter func190,ntmps190;go_wp2_with fail;refine(q.out _ (fO _ _)).mono ?_;rintro f W ⟨rfl,⟨H,Q,O,s,J,K⟩,x⟩;clear q;have D:=fK s;have E:=fK x;clear s x;go_wp2_with fail;go_ret;exact⟨rfl,⟨H,Q,O,D.out,(gm.fU (fO _ _)).trans J,qK K (fO _ _).size⟩,E.out⟩
theorem Lx(g:gF b p d m v h q A out t)(hi:p.fN[i]? =some j)(n:m[i]? =some cb)(o:v[i]? =some sr)
  (C:jF p.c) {c:Int} (w:hS c j) (D:0<=p.last/\p.last<=1125899906842624) (E:p.fN.length<=1000) (k:ut P) (x:je b e P.bytes) (B:P.bytes.length<=1073741823):
  aL ab 190 #[Pt d,Pt cb,.agg #[II P.type,II P.id,II P.iP,II P.code,e]] b fun z s=>z=.returned (II (iU p i j P).code)/\
   if(iU p i j P).gone then Leaves b d (m.eraseIdx i) (v.eraseIdx i) h cb sr A (iU p i j P).iN t s/\s.cell? (Ad cb 0)=some (II j.fZ) else Leaves b d m v h cb sr A (iU p i j P).iN t s:=by
 have u:=x.form;rcases k.type with a|a|a|a|a|a|a
 ·obtain⟨y,cap,rfl⟩:=u;have f:iU p i j P =⟨0,p,false⟩:=by unfold iU;grind
  rw[f];refine(AM (bg a)).mono ?_;rintro z s ⟨rfl,l⟩;exact⟨rfl,h,q,out,g.below l,gm.fU l,cM g.mM.1,lU.refl _ _⟩
 ·obtain⟨y,cap,rfl⟩:=u;have f:iU p i j P =⟨0,p,false⟩:=by unfold iU;grind
  rw[f];refine(AM (bf a)).mono ?_;rintro z s ⟨rfl,l⟩;exact⟨rfl,h,q,out,g.below l,gm.fU l,cM g.mM.1,lU.refl _ _⟩
 ·have f:iU p i j P =⟨(gO p.c.c4 P j).1,{p with fN:=p.fN.set i (gO p.c.c4 P j).2},false⟩:=by unfold iU;grind
  rw[f];exact Em g hi n o w x B k.id k.iP a
 ·have f:iU p i j P =⟨(gO p.c.c4 P j).1,{p with fN:=p.fN.set i (gO p.c.c4 P j).2},false⟩:=by unfold iU;grind
  rw[f];exact Gw g hi n o w x B k.id k.iP a
 ·have f:iU p i j P =⟨(gO p.c.c4 P j).1,{p with fN:=p.fN.set i (gO p.c.c4 P j).2},false⟩:=by unfold iU;grind
  rw[f];exact Gv g hi n o w x B k.id k.iP a
 ·obtain⟨y,cap,rfl⟩:=u;have f:iU p i j P =⟨0,{p with fN:=p.fN.eraseIdx i},true⟩:=by unfold iU;grind
  rw[f];exact Ch g hi n o E a
 ·obtain⟨y,cap,rfl⟩:=u;have f:iU p i j P =⟨(mI p i j P.code).1,(mI p i j P.code).2,false⟩:=by unfold iU;grind
  rw[f];exact El g hi n o C w D a
def mC(Z:Nat->Prop)(w:aK)(v:aM)(l:List Int):Prop:=
 je w v l/\∃ao cap,v=.slice ao l.length cap/\l.length<=cap/\∀a,ao=some a->0<l.length->Z a.block
theorem mC.gx{F:Nat->Prop}{v:aM}{l:List Int}(h:mC L w v l)(y:gm F w b)(x:∀o,L o->¬F o):mC L b v l:=by
 obtain⟨⟨t,u,e⟩,p,cap,rfl,z,j⟩:=h;refine⟨⟨t,u,?_⟩,p,cap,rfl,z,j⟩;rcases e with e|⟨n,c,g,q,d,A,k⟩
 ·exact bg e
 ·refine bf ⟨n,c,g,q,d,A,fun f m=>?_⟩;simp only[Value.slice.injEq]at d;have B:c<w.heap.size:=by
   have s:=k f m;rcases Nat.lt_or_ge c w.heap.size with h|h
   ·exact h
   ·simp[aD,Array.getElem?_eq_none h]at s
  rw[<-k f m];exact World.cell?_of_block (a:=Ad c (g+f)) (y.block c B (x c (j (Ad c g) d.1 n)))
theorem mC.below{v:aM}{l:List Int}(h:mC L w v l)(a:Bw w b):mC L b v l:=h.gx (F:=fun _=>False) (gm.fU a) (fun _ _ h=>h)
theorem mC.cut{l:List Int}(h:mC L w (.slice R l.length cap) l)(k:Nat)(n:k<=l.length):mC L w (sliced R k l.length cap 1) (l.drop k):=by
 obtain⟨p,q,s,c,m,e⟩:=h;simp only[Value.slice.injEq,true_and]at c;obtain⟨rfl,rfl⟩:=c;have d:=nj p m (d:=k) (hi:=l.length) n (ar _);rw[List.take_of_length_le (by simp)]at d;refine⟨d,if cap=k then R else R.map (·.add (k*1)),cap-k,by simp[sliced],by simp;omega,fun g b o=>?_⟩;have f:0<l.length:=by rw[List.length_drop]at o;omega
 split at b
 ·exact e g b f
 ·obtain⟨a,j,rfl⟩:=cZ.1 b;have:(a.add (k*1)).block=a.block:=by unfold Addr.add;split<;>rfl
  rw[this];exact e a j f
def rZ(Z:Nat->Prop)(sb:Nat)(jf ke:List Nat)(ob:Nat):Prop:=∀k,Z k->k<ob/\k≠sb/\k∉jf/\k∉ke
theorem rZ.snoc(h:rZ L a m v d)(h1:d<=cb)(h2:d<=sr):rZ L a (m++[cb]) (v++[sr]) d:=by intro c b;obtain⟨e,f,g,j⟩:=h c b;grind
theorem sV(b:rZ L a m v d)(k:m[i]? =some cb)(l:v[i]? =some sr)(c:Nat)(f:L c):¬nM a cb sr d c:=by
 obtain⟨g,e,h,j⟩:=b c f;rintro(b|b|b|b)
 ·exact e b
 ·grind
 ·grind
 ·omega
theorem gF.view{c:aM}(h:gF w s a m v e c d out t):∃f g,oS w s a m f g:=by have b:=h.row;rw[h.iD]at b;exact E8.view (base:=0) (v:=v) ⟨e,c,h.iN,b,h.iD,h.jv,h.Ga,h.Gb,h.iq⟩
theorem FE(c:y4[i]? =some j):∃b,ja y4 j.fZ=some b/\b<y4.length:=by
 unfold ja;cases a:y4.findIdx? (fun d=>d.fZ==j.fZ) with
 |none=>rw[cT]at a;have:=a j (bS c);simp at this
 |some b=>rw[cQ]at a;grind
theorem Dz(l:y4[i]? =some j)(f:(y4.map (·.fZ)).Nodup):ja (y4.eraseIdx i) j.fZ=none:=by
 unfold ja;rw[cT];intro k h;obtain⟨a,e⟩:=cj.1 h;rw[vE]at e;simp only[beq_eq_false_iff_ne,ne_eq];intro d;have g:i≠(if a<i then a else a+1):=by split<;>omega
 have b:(y4.map (·.fZ))[i]? =some j.fZ:=by grind
 have c:(y4.map (·.fZ))[if a<i then a else a+1]? =some k.fZ:=by grind
 rw[d]at c;have hi:=(bo.1 b).1;exact g ((List.getElem?_inj hi f).1 (by rw[b,c]))
def sS(w:aK)(sb:Nat)(jf ke:List Nat)(cv:aM)(i cb sr ob:Nat)(r:gg×List (Int×List Int))(w':aK):Prop:=
 Leaves w sb jf ke cv cb sr ob r.1 r.2 w'\/Leaves w sb (jf.eraseIdx i) (ke.eraseIdx i) cv cb sr ob r.1 r.2 w'
theorem uc(k:gg)(i:Nat)(N:fV)(v:List Int)(C:Nat)(e cb sr l:Nat)(f1:aM)(j u:List Nat)(D e1:aM)(out:List (Int×aM))(d:List (Int×List Int))(m:aK)(f3:gF m k e j u D e1 l out d)(hi:k.fN[i]? =some N)(W:j[i]? =some cb)(a2:u[i]? =some sr)
  (g2:jF k.c) {c:Int} (g4:hS c N) (f5:c<=1125899906842624) (j6:0<=k.last/\k.last<=1125899906842000) (k0:k.fN.length<=1000) (g3:(k.fN.map (·.fZ)).Nodup) {L:Nat->Prop} (f7:rZ L e j u l) (d7:mC L m f1 v) (j1:v.length<=1073741823) (i3:v.length<=C) (k1:l<=m.heap.size) (g5:d.length<=1000000):
  aL ab 160 #[Pt e,Pt cb,f1] m fun g x=>g=.returned (.tuple #[])/\sS m e j u D i cb sr l (hY k i v d C) x:=by
 obtain⟨i9,j0,rfl,_⟩:=d7.2;have h6:=fK d7;have h8:=fK f7;have h3:=fK f3;have h4:=fK g4;have h2:=fK g2;have h5:=fK g3;clear f3 d7 g4 g2 g3 f7;go_enter func160,ntmps160;go_wp2_with fail;go_loopw [2] (fun e3 wr=>∃(h:List Int) (f:gg) (p:fV) (z a5:aM) (a4:List (Int×aM)) (s:Nat),h.length<=v.length/\h.length<=s/\Hid (mC L wr e3 h/\gF wr f e j u z a5 l a4 d/\se c k N i f p/\(gm (nM e cb sr l) m wr/\lU m.heap.size D z)/\hY f i h d s=hY k i v d C)) (fun e3 _=>oB e3);case atStart=>exact⟨v,k,N,D,e1,out,C,ar _,i3,h6.out,h3.out,se.refl hi h4.out,⟨gm.refl _ _,lU.refl _ _⟩,rfl⟩
 case round=>
  obtain⟨h,f,p,z,a5,a4,s,j8,j9,b⟩:=hrel;obtain⟨b1,cap,rfl,j2,_⟩:=b.out.1.2;by_cases d3:h.length=0
  ·go_wp2_with fail;go_end0;obtain⟨_,c8,_,⟨b7,d1⟩,c7⟩:=b.out;obtain rfl:h=[]:=List.length_eq_zero_iff.1 d3;have i2:hY f i [] d s=(f,d):=by cases s<;>simp[hY]
   rw[<-c7,i2];exact⟨rfl,bg ⟨z,a5,a4,c8,b7,cM c8.mM.1,d1⟩⟩
  ·have e7:=fK (GB (k:=h) (b:=wr) b.out.1.1 (by omega));obtain⟨s,rfl⟩:∃i8,s=i8+1:=⟨s-1,by omega⟩;have I:=b.out.2.2.1.at_;have d5:f.fN.length<=1000:=by have:=congrArg List.length b.out.2.2.1.KC;simp at this;omega
   have k5:=b.out.2.2.2.1.1.size;go_wp2_with fail;refine e7.out.mono ?_;rintro g b9 ⟨b8,b6⟩;clear e7;have a6:=fK b6;have k6:=b6.size;cases M:gW h with
   |none=>
    rw[M]at b8;obtain⟨l2,l3,l4,l5,h9,rfl,b2,k9,H,rfl⟩:=b8;have B:Hid (hY f i h d (s+1)=({f with fN:=f.fN.eraseIdx i},ig p ([19]++gE 7) d)):=by show _=_;simp only[hY];rw[if_neg (fun g=>d3 (by rw[g];rfl)),I,M]
    have T:Hid (∀o,Bw wr o->aL ab 164 #[Pt e,Pt cb,II 7] o fun g x=>g=.returned (.tuple #[])/\Leaves o e (j.eraseIdx i) (u.eraseIdx i) z cb sr l {f with fN:=f.fN.eraseIdx i} (ig p ([19]++gE 7) d) x):=by intro o b3;have:=b3.size;exact ua f i p 7 e cb sr l j u z a5 a4 d o (b.out.2.1.below b3) I W a2 (by omega) (by omega) b.out.2.2.1.ok f5 g5 d5
    clear M b6;go_wp2_with fail;refine(T.out _ (fP a6.out (fO b9 _))).mono ?_;rintro g e4 ⟨rfl,a1⟩;clear T;have c3:=fK a1;clear a1;go_wp2_with fail;refine cz (dd rfl _ _ _) rfl ?_;obtain⟨_,c8,_,⟨b7,d1⟩,c7⟩:=b.out;obtain⟨c6,e2,e0,c9,d0,d4⟩:=c3.out;rw[<-c7,B.out];exact⟨rfl,bf ⟨c6,e2,e0,c9,(b7.trans (gm.fU (fP a6.out (fO b9 _)))).trans d0,oY (w7:=True) ⟨trivial,d1⟩ d4 (b7.trans (gm.fU (F:=nM e cb sr l) (fP a6.out (fO b9 _)))).size⟩⟩
   |some i1=>
    obtain⟨q,t⟩:=i1;rw[M]at b8;obtain⟨h9,rfl,d8⟩:=b8;obtain⟨Y,k2,g6,k3⟩:=vF b.out.1.1.1 (by omega) M;obtain⟨b2,c5,rfl⟩:=d8.form;have k4:((t:Int)==0)=false:=beq_eq_false_iff_ne.2 (by omega);have b5:=b.out.1.cut t g6;have hcut:=fun o=>pb b1 (a:=h.length) cap (d:=t) g6 o;obtain⟨g8,d9⟩:∃g8,sliced b1 t h.length cap 1=g8:=⟨_,rfl⟩;rw[d9]at b5;simp only[d9]at hcut;clear d9;obtain⟨f0,f2,rfl,_⟩:=b5.2;have h7:=fK b5;have i6:(h.drop t).length=h.length-t:=by simp
    obtain⟨a,J⟩:∃a,iU f i p q=a:=⟨_,rfl⟩;have B:Hid (hY f i h d (s+1)=if a.code≠0 then({f with fN:=f.fN.eraseIdx i},ig p ([19]++gE a.code) d) else if a.gone then(a.iN,d) else hY a.iN i (h.drop t) d s):=by show _=_;simp only[hY];rw[if_neg (fun g=>d3 (by rw[g];rfl)),I,M];simp only[J]
    have c2:Hid (0<=a.code/\a.code<=10):=by rw[<-J];exact Dp
    have a7:Hid (a.code≠0->a.iN=f/\a.gone=false):=by rw[<-J];exact fun g=>FA I g
    have a8:Hid (a.gone=false->∃i0,se c f p i a.iN i0):=by rw[<-J];exact fun g=>FB I Y b.out.2.2.1.ok g
    have a9:Hid (a.gone=true->a.code=0/\a.iN = {f with fN:=f.fN.eraseIdx i}):=by
     show _->_;rw[<-J];unfold iU
     repeat' split
     all_goals simp
    have e6:Hid (∀o,Bw wr o->je o (.slice b2 q.bytes.length c5) q.bytes->aL ab 190 #[Pt e,Pt cb,.agg #[II q.type,II q.id,II q.iP,II q.code,.slice b2 q.bytes.length c5]] o fun g x=>g=.returned (II a.code)/\if a.gone then Leaves o e (j.eraseIdx i) (u.eraseIdx i) z cb sr l a.iN d x/\x.cell? (Ad cb 0)=some (II p.fZ) else Leaves o e j u z cb sr l a.iN d x):=by intro o b3 i4;have j7:=b.out.2.2.1.last;have:=Lx (p:=f) (i:=i) (j:=p) (P:=q) (d:=e) (cb:=cb) (sr:=sr) (A:=l) (m:=j) (v:=u) (h:=z) (q:=a5) (out:=a4) (t:=d) (b:=o) (b.out.2.1.below b3) I W a2 (by rw[b.out.2.2.1.cfg];exact h2.out) b.out.2.2.1.ok (by omega) d5 Y i4 (by omega);rw[J]at this;exact this
    have e8:=fK d8;have e9:=fK I;clear M b6 J d8 b5;go_wp2_with fail;have b4:=fP a6.out (fO b9 (.cells #[II q.type,II q.id,II q.iP,II q.code,.slice b2 q.bytes.length c5] 296));have A:=fK b4;refine(e6.out _ b4 (e8.out.below b4)).mono ?_;clear b4;rintro g n ⟨rfl,O⟩;clear e6 e8;by_cases X:a.code=0
    ·cases Q:a.gone
     ·rw[Q,if_neg (by decide)]at O;obtain⟨E,S,R,w,y,a0⟩:=O;obtain⟨H,Z⟩:=a8.out Q;obtain⟨c4,V,a3⟩:=w.view;obtain⟨l0,l1,f8⟩:=(w.iq i H cb sr Z.at_ W a2).cb;have i7:CI n cb 0 H.fZ:=by simp[aD,f8,gn]
      obtain⟨g7,i5,j5⟩:=FE Z.at_;have d6:a.iN.fN.length<=1000:=by have:=congrArg List.length Z.KC;simp at this;omega
      have K:=jY (p:=a.iN) (a:=e) (m:=j) (R:=c4) (d:=V) H.fZ (b:=n) a3 d6;rw[i5]at K;have U:Hid (aL ab 158 #[Pt e,II H.fZ] n fun g x=>g=.returned (Pt (j.getD g7 0))/\n=x):=K;have g9:=ED n (j.getD g7 0);have f6:mC L n (.slice f0 (h.drop t).length f2) (h.drop t):=(h7.out.below A.out).gx y (sV h8.out W a2);have f4:hY a.iN i (h.drop t) d s=hY k i v d C:=by have G:=B.out;rw[if_neg (by simp[X]),Q,if_neg (by decide)]at G;rw[<-G];exact b.out.2.2.2.2
      have b0:Hid (mC L n (.slice f0 (h.drop t).length f2) (h.drop t)/\gF n a.iN e j u E S l R d/\se c k N i a.iN H/\(gm (nM e cb sr l) m n/\lU m.heap.size D E)/\hY a.iN i (h.drop t) d s=hY k i v d C):=
       ⟨f6,w,b.out.2.2.1.trans Z,⟨(b.out.2.2.2.1.1.trans (gm.fU A.out)).trans y,(oY (w7:=True) ⟨trivial,b.out.2.2.2.1.2⟩ a0 (b.out.2.2.2.1.1.trans (gm.fU A.out)).size).2⟩,f4⟩
      clear K a3 f8 w y Z f6 f4 B c2 a7 a8 a9 hcut Y;go_wp2_with fail;refine U.out.mono ?_;rintro g e4 ⟨rfl,rfl⟩;clear U;go_wp2_with fail;go_roundw;case rel=>rw[i6]at b0;exact⟨h.drop t,a.iN,H,E,S,R,s,by omega,by omega,b0⟩
      case measure=>simp only[oB];omega
     ·rw[Q,if_pos rfl]at O;obtain⟨⟨E,S,R,w,y,a0⟩,i7⟩:=O;obtain⟨c4,V,a3⟩:=w.view;have d2:=(a9.out Q).2;have g1:ja a.iN.fN p.fZ=none:=by rw[d2];exact Dz e9.out (by rw[b.out.2.2.1.KC];exact h5.out)
      have d6:a.iN.fN.length<=1000:=by rw[d2];simp only[List.length_eraseIdx];split<;>omega
      have K:=jY (p:=a.iN) (a:=e) (m:=j.eraseIdx i) (R:=c4) (d:=V) p.fZ (b:=n) a3 d6;rw[g1]at K;have U:Hid (aL ab 158 #[Pt e,II p.fZ] n fun g x=>g=.returned (ag none)/\n=x):=K;have g9:=BZ n;have b0:Hid (sS m e j u D i cb sr l (hY k i v d C) n):=by have G:=B.out;rw[if_neg (by simp[X]),Q,if_pos rfl]at G;show sS _ _ _ _ _ _ _ _ _ _ _;rw[<-b.out.2.2.2.2,G];exact bf ⟨E,S,R,w,(b.out.2.2.2.1.1.trans (gm.fU A.out)).trans y,oY (w7:=True) ⟨trivial,b.out.2.2.2.1.2⟩ a0 (b.out.2.2.2.1.1.trans (gm.fU A.out)).size⟩
      clear K a3 w y g1 d2 B c2 a7 a8 a9 hcut Y;go_wp2_with fail;refine U.out.mono ?_;rintro g e4 ⟨rfl,rfl⟩;clear U;go_wp2_with fail;refine cz (dd rfl _ _ _) rfl ?_;exact⟨rfl,b0.out⟩
    ·obtain⟨g0,f9⟩:=a7.out X;rw[f9,if_neg (by decide),g0]at O;obtain⟨E,S,R,w,y,a0⟩:=O;have k7:=y.size;have k8:=A.out.size;have j4:=c2.out;have T:=fK (ua f i p a.code e cb sr l j u E S R d n w e9.out W a2 (by omega) (by omega) b.out.2.2.1.ok f5 g5 d5);have h0:Hid (True/\lU m.heap.size D E):=⟨trivial,(oY (w7:=True) ⟨trivial,b.out.2.2.2.1.2⟩ a0 (b.out.2.2.2.1.1.trans (gm.fU A.out)).size).2⟩;have e5:Hid (gm (nM e cb sr l) m n):=(b.out.2.2.2.1.1.trans (gm.fU A.out)).trans y;have h1:Hid (hY k i v d C=({f with fN:=f.fN.eraseIdx i},ig p ([19]++gE a.code) d)):=by have G:=B.out;rw[if_pos X]at G;show _=_;rw[<-b.out.2.2.2.2,G]
     have j3:(a.code==0)=false:=beq_eq_false_iff_ne.2 X;clear w y B a7 a8 a9 hcut Y g0 f9;go_wp2_with fail;refine T.out.mono ?_;rintro g e4 ⟨rfl,a1⟩;clear T;have c3:=fK a1;clear a1;go_wp2_with fail;refine cz (dd rfl _ _ _) rfl ?_;obtain⟨c6,e2,e0,c9,d0,d4⟩:=c3.out;rw[h1.out];exact⟨rfl,bf ⟨c6,e2,e0,c9,e5.out.trans d0,oY h0.out d4 e5.out.size⟩⟩
theorem uQ(a:aK)(b:Nat):(binOp .neq 244 (Pt b) (ag none)).run ab a=.ok (.bool true) a:=run_neq_pointer_nil a 244 (some (Ad b 0)) nB
theorem ml(a:aK):(binOp .neq 244 (ag none) (ag none)).run ab a=.ok (.bool false) a:=run_neq_pointer_nil a 244 none nB
theorem gF.Fw{u:aM}(h:gF w s a m v e u d out t)(hi:s.fN[i]? =some j)(y:m[i]? =some cb)(q:v[i]? =some sr)
  (n:c'.fM=j.fM) (O:c'.runs=j.runs) (g:gm (· = cb) w b) (M:∀f z,w.heap[cb]? =some (.cells (gn j f z) 249 (0,0))->b.heap[cb]? =some (.cells (gn c' f z) 249 (0,0))):
  gF b {s with fN:=s.fN.set i c'} a m v e u d out t:=by
 have x:=h.iq i j cb sr hi y q;obtain⟨V,P⟩:=x.sr;obtain⟨f,T,B,l,N,H,J,D⟩:=x;have k:gm (tt a cb sr u) w b:=g.mono fun W _ G=>bf (bg G);have p:=fun {c:bG} h1 h2 h3 h4=>nm (z:=c) h.iN l P h.jN h1 h2 h3 h4;have I:=lH h.iN l;have Q:v=v.set i sr:=(ia q).symm;rw[Q];have L:=M f _ l;have K:=gM J g (fun C o c=>by simp only[aq,Option.some.injEq]at o;grind);refine h.LW hi y q k rfl ?_ (gM h.jN g (fun C o c=>?_)) (h.mM.gx k (p (by decide) (by decide) (by decide) (by decide))) ⟨f,T,B,by rw[n];exact L,by rw[O];exact N.gx k (p (by decide) (by decide) (by decide) (by decide)),by rw[n];exact H,by rw[n];exact K,fun S U A R E=>(D S U A (by rw[<-n];exact R) E).gx k (p (by decide) (by decide) (by decide) (by decide))⟩ (bg rfl)
 ·rw[g.block a (bn.1 h.iN).1 I];exact h.iN
 ·subst c;exact fR h.jN l (by decide) o
theorem Cm{z:List Nat}(w:gF b p d m z q M A out t)(hi:p.fN[i]? =some j)(D:m[i]? =some cb)(L:z[i]? =some sr)(a7:ja p.fN g=some i)
  (S:jF p.c) {u:Int} (a:hS u j) (a4:u<=1125899906842624) (b5:0<=l/\j.gR+l<=u) (b3:0<=p.now/\p.now<=1000000000) (b2:p.fN.length<=1000) (d3:A<=b.heap.size) (b4:t.length<=1000000):
  aL ab 157 #[Pt d,II c,II g,e,h,II l] b fun x c5=>x=.returned (.tuple #[])/\Leaves b d m z q cb sr A (kh p i j c l t).1 (kh p i j c l t).2 c5:=by
 obtain⟨c8,c9,W⟩:=w.view;have E:=jY g W b2;rw[a7]at E;have T:ld m (some i)=Pt cb:=by simp[ld,List.getD,D]
 rw[T]at E;have s:=fK E;clear E W T;obtain⟨y,B,k⟩:=(w.iq i j cb sr hi D L).cb;have K:=w.iN;have d2:=lH K k;have Z:=uQ b cb;have b6:CI b cb 1 j.addr:=by simp[aD,k,gn]
 have b7:CV b cb 2 (.bool j.fY):=by simp[aD,k,gn]
 have b8:CI b cb 3 j.gR:=by simp[aD,k,gn]
 have b9:CI b cb 5 j.heard:=by simp[aD,k,gn]
 have c2:CI b d 10 p.now:=by simp[aD,K,gh,g_.cells]
 have c6:∀O,mc b cb O:=fun O=>cx b cb O _ _ k;have d1:=a.gR;have P:Hid (∀f,f=(b.setCell (Ad cb 3) (II (j.gR+l))).setCell (Ad cb 5) (II p.now)->gF f {p with fN:=p.fN.set i {j with gR:=j.gR+l,heard:=p.now}} d m z q M A out t/\gm (· = cb) b f/\f.cell? (Ad cb 2)=some (.bool j.fY)):=by
  rintro f rfl;have o:=xS (b:=b) (cb:=cb) (Below.refl _ _) 3 5 (e:=II (j.gR+l)) (h:=II p.now);have V:∀y B,b.heap[cb]? =some (.cells (gn j y B) 249 (0,0))->((b.setCell (Ad cb 3) (II (j.gR+l))).setCell (Ad cb 5) (II p.now)).heap[cb]? =some (.cells (gn {j with gR:=j.gR+l,heard:=p.now} y B) 249 (0,0)):=
   fun y B a8=>(fT (fT a8 _ _) _ _).trans rfl
  refine⟨w.Fw hi D L rfl rfl o V,o,?_⟩;simp[aD,V y B k,gn]
 have a2:Hid (hS u {j with gR:=j.gR+l,heard:=p.now}):=⟨a.fZ,a.addr,⟨by simp only;omega,b5.2⟩,a.gS,b3,a.runs,a.fS,a.lu,a.str⟩;have C:=fK w;have a0:=fK S;have c7:Hid (0<=j.gR+l):=by show _<=_;omega
 clear w a k K S;rcases Int.lt_trichotomy j.addr c with b1|a6|b1
 ·have n:Hid (kh p i j c l t=(p,t)):=by show _=_;unfold kh;rw[if_pos (by omega)]
  go_enter func157,ntmps157;go_wp2_with fail;refine s.out.mono ?_;rintro x Y ⟨rfl,rfl⟩;clear s;go_wp2_with fail;refine cz (dd rfl _ _ _) rfl ?_;rw[n.out];exact⟨rfl,q,M,out,C.out,gm.refl _ _,cM C.out.mM.1,lU.refl _ _⟩
 ·subst a6;go_enter func157,ntmps157;go_wp2_with fail;refine s.out.mono ?_;rintro x Y ⟨rfl,rfl⟩;clear s;go_upto_region 5 with fail;obtain⟨J,o,N⟩:=P.out _ rfl;generalize (b.setCell (Ad cb 3) (II (j.gR+l))).setCell (Ad cb 5) (II p.now)=f at J o N⊢;have d0:=o.size;have I:Hid (gm (nM d cb sr A) b f):=o.mono fun d4 _ a9=>bf (bg a9);clear P Z b6 b7 b8 b9 c2 c6;have H:=fK J;clear J o;cases G:j.fY
  ·rw[G]at N;have n:Hid (kh p i j j.addr l t=({p with fN:=p.fN.set i (hE {j with gR:=j.gR+l,heard:=p.now} (gu p.c {j with gR:=j.gR+l,heard:=p.now}))},ig {j with gR:=j.gR+l,heard:=p.now} (gu p.c {j with gR:=j.gR+l,heard:=p.now}) t)):=by show _=_;unfold kh;rw[if_neg (by simp),G];simp
   have X:=sL {p with fN:=p.fN.set i {j with gR:=j.gR+l,heard:=p.now}} i {j with gR:=j.gR+l,heard:=p.now} d cb sr A m z q M out t f H.out (getElem?_set_at hi) D L a0.out (by omega) a2.out a4 b4;have Q:=fK X;clear X;go_wp2_with fail;refine Q.out.mono ?_;rintro x d5 ⟨rfl,U⟩;have a1:=fK U;clear Q U;go_wp2_with fail;refine cz (dd rfl _ _ _) rfl ?_;obtain⟨a3,c4,c3,R,a5,b0⟩:=a1.out;simp only[cS]at R;rw[n.out];exact⟨rfl,a3,c4,c3,R,I.out.trans a5,qK b0 I.out.size⟩
  ·rw[G]at N;have n:Hid (kh p i j j.addr l t=({p with fN:=p.fN.set i {j with gR:=j.gR+l,heard:=p.now}},t)):=by show _=_;unfold kh;rw[if_neg (by simp),G];simp
   go_wp2_with fail;refine cz (dd rfl _ _ _) rfl ?_;rw[n.out];exact⟨rfl,q,M,out,H.out,I.out,cM H.out.mM.1,lU.refl _ _⟩
 ·have n:Hid (kh p i j c l t=(p,t)):=by show _=_;unfold kh;rw[if_pos (by omega)]
  go_enter func157,ntmps157;go_wp2_with fail;refine s.out.mono ?_;rintro x Y ⟨rfl,rfl⟩;clear s;go_wp2_with fail;refine cz (dd rfl _ _ _) rfl ?_;rw[n.out];exact⟨rfl,q,M,out,C.out,gm.refl _ _,cM C.out.mM.1,lU.refl _ _⟩
theorem gF.Py{l uV:aM}{nX:List (Int×aM)}{pU:List (Int×List Int)}(h:gF w s a m v e l d out t)(q:gm (fun c=>c=a\/l.ownBlock=some c) w b)
  (E:b.heap[a]? =some (.cells (gh s e uV) 242 (0,0))) (D:b.ownsRow d 60 2 uV nX.length (gj nX)) (A:nx b d nX pU):gF b s a m v e uV d nX pU:=by
 have g:∀{f:bG},f≠242->f≠60->∀c n o,w.heap[c]? =some (.cells n f o)->¬(c=a\/l.ownBlock=some c):=by
  rintro f p j c n o u (rfl|z)
  ·rw[h.iN]at u;grind
  ·exact fR h.jN u (fun f=>j f.symm) z
 refine⟨E,gI h.row q (g (by decide) (by decide)),D,A,h.iD,h.jv,h.Ga,h.Gb,fun i x cb sr p j y=>?_⟩;have k:=h.iq i x cb sr p j y;obtain⟨_,_,B⟩:=k.cb;obtain⟨_,C⟩:=k.sr;exact k.gx q (g (by decide) (by decide) _ _ _ B) (g (by decide) (by decide) _ _ _ C) (g (by decide) (by decide)) (g (by decide) (by decide))
theorem Gz(d:Bw b w)(e:CI b a 0 p.c.c0/\CI b a 1 p.c.c1/\CI b a 2 p.c.c2/\CI b a 3 p.c.c3/\CI b a 4 p.c.c4/\CI b a 5 p.c.c5/\CI b a 6 p.c.c6/\CI b a 7 p.c.c7/\CI b a 8 p.c.c8/\CI b a 9 p.c.c9/\CI b a 10 p.now):w.cell? (Ad a 0)=some (II p.c.c0)/\w.cell? (Ad a 1)=some (II p.c.c1)/\w.cell? (Ad a 2)=some (II p.c.c2)/\w.cell? (Ad a 3)=some (II p.c.c3)/\w.cell? (Ad a 4)=some (II p.c.c4)/\w.cell? (Ad a 5)=some (II p.c.c5)/\w.cell? (Ad a 6)=some (II p.c.c6)/\w.cell? (Ad a 7)=some (II p.c.c7)/\w.cell? (Ad a 8)=some (II p.c.c8)/\w.cell? (Ad a 9)=some (II p.c.c9)/\w.cell? (Ad a 10)=some (II p.now):=by obtain⟨f,g,j,k,l,m,n,o,q,s,h⟩:=e;exact⟨fL f d,fL g d,fL j d,fL k d,fL l d,fL m d,fL n d,fL o d,fL q d,fL s d,fL h d⟩
theorem Cl{n:Int}(s:gF b p a m v h q d out t)(h7:ja p.fN g=none)(h9:p.c.c5<=oX p.fN)
  (I:jF p.c) (f1:0<=n/\n<256) (f7:0<=g/\g<=1073741823) (l5:0<=l/\l<=1125899906842624) (l2:0<=p.now/\p.now<=1000000000) (J:p.fN.length<=1000) (i2:d<=b.heap.size) (i3:t.length<=1000000):
  aL ab 157 #[Pt a,II n,II g,.slice R 0 f,e,II l] b fun k j=>k=.returned (.tuple #[])/\Leaves b a m v h a a d p (nI p n g l t) j:=by
 obtain⟨k3,k4,d6⟩:=s.view;have d1:=jY g d6 J;rw[h7]at d1;have e2:Hid (aL ab 158 #[Pt a,II g] b fun k j=>k=.returned (ag none)/\b=j):=d1;obtain⟨d7,d5⟩:∃d7,oX p.fN=d7:=⟨_,rfl⟩;have e6:Hid (∀a6,aL ab 186 #[Pt a] (b.drewN a6) fun k j=>k=.returned (II d7)/\j=b.drewN a6):=by intro a6;have:=qm (d6.drewN a6) J;rw[d5]at this;exact this.mono fun k j s=>⟨s.1,s.2.symm⟩
 rw[d5]at h9;clear d1 d6 d5;have x:=s.iN;have h0:=ml b;have D:CI b a 0 p.c.c0:=by simp[aD,x,gh,g_.cells]
 have O:CI b a 1 p.c.c1:=by simp[aD,x,gh,g_.cells]
 have Q:CI b a 2 p.c.c2:=by simp[aD,x,gh,g_.cells]
 have S:CI b a 3 p.c.c3:=by simp[aD,x,gh,g_.cells]
 have T:CI b a 4 p.c.c4:=by simp[aD,x,gh,g_.cells]
 have U:CI b a 5 p.c.c5:=by simp[aD,x,gh,g_.cells]
 have V:CI b a 6 p.c.c6:=by simp[aD,x,gh,g_.cells]
 have W:CI b a 7 p.c.c7:=by simp[aD,x,gh,g_.cells]
 have X:CI b a 8 p.c.c8:=by simp[aD,x,gh,g_.cells]
 have Y:CI b a 9 p.c.c9:=by simp[aD,x,gh,g_.cells]
 have P:CI b a 10 p.now:=by simp[aD,x,gh,g_.cells]
 have l4:a<b.heap.size:=hK D;have b3:=fK s;have k1:=fK I;have l0:=I.c7;obtain⟨y,a5⟩:∃y,jg p.c.c9 n (p.now+p.c.c7)=y:=⟨_,rfl⟩;have h1:Hid (∀G a9,a9=p.now+p.c.c7->aL ab 61 #[.agg #[II p.c.c0,II p.c.c1,II p.c.c2,II p.c.c3,II p.c.c4,II p.c.c5,II p.c.c6,II p.c.c7,II p.c.c8,II p.c.c9],II n,II a9] G fun k j=>∃g9,k=.returned g9/\j.ownsRow G.heap.size 5 1 g9 9 (U8 y)/\Bw G j):=by rintro G a9 rfl;have:=uh (c0:=p.c.c0) (c1:=p.c.c1) (l:=p.c.c2) (u:=p.c.c3) (x:=p.c.c4) (E:=p.c.c5) (G:=p.c.c6) (H:=p.c.c7) (I:=p.c.c8) (z8:=p.now+p.c.c7) (b:=G) I.c9.1 I.c9.2 f1.1 f1.2 (by omega) (by omega);rw[a5]at this;exact this
 have i9:IntKind.i64.wrap (p.now+p.c.c7)=p.now+p.c.c7:=IntWalk.i64_in _ (by omega);have i4:=hJ g;have i8:y.length=9:=by rw[<-a5];simp[jg,gZ,kJ]
 have E:Hid (nI p n g l t=if(([3]++gE g++gE 9++y).length:Int)<=3*l then t++[(n,[3]++gE g++gE 9++y)] else t):=by show _=_;unfold nI qh;rw[a5]
 clear s x I a5;go_enter func157,ntmps157;go_wp2_with fail;refine e2.out.mono ?_;rintro k j8 ⟨rfl,rfl⟩;clear e2;go_wp2_with fail;go_quiet ((go_at_call 186;exact cN (e6.out _)));have o:Bw b (b.drewN nq):=fQ (Below.refl _ _) _;generalize b.drewN nq=j7 at o⊢;replace D:=fL D o;replace O:=fL O o;replace Q:=fL Q o;replace S:=fL S o;replace T:=fL T o;replace U:=fL U o;replace V:=fL V o;replace W:=fL W o;replace X:=fL X o;replace Y:=fL Y o;replace P:=fL P o;have d8:=fK o;clear o h0 e6;go_wp2_with fail;refine(lm f7.1 f7.2).mono ?_;rintro k j8 ⟨m0,rfl,g0,b7⟩;go_wp2_with fail;refine(mz _ _ _ _ b7 (gq g0 (be _)) i4.2 (by omega)).mono ?_;rintro k j9 ⟨k9,k5,l9,rfl,b6,f2⟩;have u:Bw j7 j9:=fP (fP (fO _ _) b7) f2;obtain⟨z,b8⟩:∃z,[3]++gE g=z:=⟨_,rfl⟩;have h6:0<z.length/\z.length<=5:=by rw[<-b8,bL,show([3]:List Int).length=1 from rfl];omega
 rw[b8]at b6 E;clear b8 g0 b7 f2;replace D:=fL D u;replace O:=fL O u;replace Q:=fL Q u;replace S:=fL S u;replace T:=fL T u;replace U:=fL U u;replace V:=fL V u;replace W:=fL W u;replace X:=fL X u;replace Y:=fL Y u;replace P:=fL P u;have d9:=fK (fP d8.out u);clear u d8;obtain⟨rfl,L⟩:=b6.out;have e3:=fK L;clear b6 L;go_upto_region 13 with fail;go_region_held3 (fun j=>j.cell? (Ad a 0)=some (II p.c.c0)/\j.cell? (Ad a 1)=some (II p.c.c1)/\j.cell? (Ad a 2)=some (II p.c.c2)/\j.cell? (Ad a 3)=some (II p.c.c3)/\j.cell? (Ad a 4)=some (II p.c.c4)/\j.cell? (Ad a 5)=some (II p.c.c5)/\j.cell? (Ad a 6)=some (II p.c.c6)/\j.cell? (Ad a 7)=some (II p.c.c7)/\j.cell? (Ad a 8)=some (II p.c.c8)/\j.cell? (Ad a 9)=some (II p.c.c9)/\j.cell? (Ad a 10)=some (II p.now)) (first|assumption|go_keep) (first
  |(go_at_call 61;refine(h1.out _ _ (by first|rfl|exact i9|omega)).mono ?_;rintro k m6 ⟨m1,rfl,K,C⟩;have h5:=Gz (p:=p) (a:=a) C (by assumption);replace C:=fK (gc C);replace K:=fK (gq K (be _))))
 clear D O Q S T U V W X Y P h5;obtain⟨h2,h3,rfl⟩:=gB K.out;have L:=gp e3.out C.out;have e9:=fP d9.out C.out;have M:=K.out;clear e3 d9 C K;have e0:=fK e9;clear e9;go_wp2_with fail;refine(lm (by decide) (by decide)).mono ?_;rintro k m7 ⟨m2,rfl,g1,a1⟩;have g4:=gp L a1;have g5:=gp M a1;have f0:=fP e0.out a1;have g7:=hJ 9;clear L M e0 a1;go_wp2_with fail;refine(jO g4 (gq g1 (be _)) h6.1 g7.2 (by omega) (by omega)).mono ?_;rintro k k0 ⟨m3,rfl,g2,b9⟩;have a2:=gq g2 (be _);have M:=gp g5 b9;have b5:=fP f0 b9;have f9:(z++gE 9).length<=9/\0<(z++gE 9).length:=by rw[bL];omega
 obtain⟨H,f3⟩:∃H,z++gE 9=H:=⟨_,rfl⟩;rw[f3]at a2 f9 E;clear f3 g1 g2 b9 f0 g4 g5 g7;obtain⟨k2,k6,rfl⟩:=gB a2;go_wp2_with fail;have g6:k0.ownsRow 0 5 1 (.slice h2 9 h3) y.length (U8 y):=by rw[i8];exact M
 refine(jO a2 g6 f9.2 (by omega) (by omega) (by omega)).mono ?_;rintro k b0 ⟨m4,rfl,g3,f4⟩;have Z:=fP b5 f4;have a3:=gq g3 b5.size;have h8:(H++y).length<=18/\0<(H++y).length:=by rw[bL];omega
 obtain⟨A,f5⟩:∃A,H++y=A:=⟨_,rfl⟩;rw[f5]at a3 h8 E;clear f5 g3 f4 b5 a2 M g6;obtain⟨e7,e8,rfl⟩:=gB a3;have a0:=b3.out.below Z;have l6:=Z.size;have i7:a<b0.heap.size:=by omega
 have g8:=a0.iN;obtain⟨a8,a7,rfl⟩:=gr a0.jN;have l7:CV b0 a 13 (.slice a8 out.length a7):=by simp[aD,g8,gh,g_.cells]
 have e1:=fK Z;have e4:=fK a3;have w:=fK a0;clear Z a3 a0 g8;rcases bO (3*l) A.length with l1|i0
 ·have b2:Hid (nI p n g l t=t):=by show _=_;rw[E.out,if_neg (by omega)]
  go_wp2_with fail;refine cz (dd rfl _ _ _) rfl ?_;rw[b2.out];exact⟨rfl,h,_,out,w.out,gm.fU e1.out,cM w.out.mM.1,lU.refl _ _⟩
 ·have b2:Hid (nI p n g l t=t++[(n,A)]):=by show _=_;rw[E.out,if_pos i0]
  obtain⟨j3,hi,j0,j1,j2⟩:=info_parts sZ;have l3:out.length<=1000000:=by rw[b3.out.mM.1];exact i3
  have i1:=fR w.out.jN w.out.iN (by decide);go_wp2_with (at_builtin;refine wpList_append_own _ rfl _ _ 47 rfl d 60 j3 (.agg C') 2 32 underlying47 hi j0 j1 j2 rfl (by decide) (.slice a8 out.length a7) out.length (gj out) rfl (w.out.jN.alloc _) (gf b0 0) 1 1 [II n,.slice e7 A.length e8] rfl rfl (gY (by simp[maxLen])) (by simp[bM]) (by unfold maxLen;omega) (by omega) (by simp;omega) ?_;intro m5 b1 d4 f8 _;refine Hid.out ?_);refine fK ?_;have d2:=ga f8;obtain⟨j4,j5,rfl⟩:=gr d4;have a4:=(d2.block a i7 (ch i1)).trans w.out.iN;have l8:CV b1 a 13 (.slice a8 out.length a7):=by simp[aD,a4,gh,g_.cells]
  have m8:mc b1 a 13:=cx b1 a 13 _ _ a4;have B:=fK d2;have e5:=fK d4;have b4:=fK a4;clear d2 f8 d4 a4;go_wp2_with fail;refine cz (dd rfl _ _ _) rfl ?_;have d0:gm (fun N=>N=a\/(.slice a8 out.length a7:aM).ownBlock=some N) b0 (b1.setCell (Ad a 13) (.slice j4 (out.length+1) j5)):=by refine⟨B.out.os,B.out.tape,B.out.output,by rw[World.size_setCell];exact B.out.size,fun j6 i6 J=>?_⟩;rw[cy _ _ _ _ (fun k=>J (bg k)),B.out.block j6 i6 (fun k=>J (bf k.symm))]
  have f6:=e4.out.kept B.out (pq e4.out w.out.jN (by decide));have i5:=w.out.Py (nX:=out++[(n,.slice e7 A.length e8)]) (pU:=t++[(n,A)]) d0 ((fT b4.out _ _).trans rfl) (by
   rw[kv,bL];exact cC e5.out (fR e5.out b4.out (by decide)) _) (by
   refine nx.snoc (w.out.mM.gx d0 ?_) (gq (cC f6 (fR f6 b4.out (by decide)) _) i2);rintro N k7 k8 d3 (rfl|h4)
   ·have:=w.out.iN;rw[d3]at this;simp at this
   ·exact fR w.out.jN d3 (by decide) h4)
  rw[b2.out];refine⟨rfl,h,_,_,i5,(gm.fU e1.out).trans (d0.mono fun N d3 s=>?_),by simp[b3.out.mM.1],lU.refl _ _⟩;rcases s with s|s
  ·exact bg s
  ·exact bf (bf (bf (w.out.jN.lt N s).1))
theorem g_.LD{s:g_}(h:s.right=true):jF s:=by unfold g_.right kB yA yB jx at h;simp only[Bool.and_eq_true,decide_eq_true_eq]at h;obtain⟨⟨a,b,c,d⟩,⟨e,f,g,j⟩,k,l⟩:=h;exact⟨by omega,by omega,by omega,by omega,by omega,by omega,by omega,by omega,by omega,by omega⟩
def Bp(w:aK)(g:g_)(e:Ending)(w':aK):Prop:=
 if g.right then ∃sb,e=.returned (.tuple #[Pt sb,II 0])/\w.heap.size<=sb/\Bw w w'/\w'.heap[sb]? =some (.cells (gh (mq g) (ai none 0 0) (ai none 0 0)) 242 (0,0))
 else e=.returned (.tuple #[ag none,II 1])/\Bw w w'
theorem Lt{s:g_}:
  aL ab 116 #[.agg #[II s.c0,II s.c1,II s.c2,II s.c3,II s.c4,II s.c5,II s.c6,II s.c7,II s.c8,II s.c9]] b fun e l=>Bp b s e l:=by
 have m:Hid (∀d:aK,d=b.alloc (.cells #[II s.c0,II s.c1,II s.c2,II s.c3,II s.c4,II s.c5,II s.c6,II s.c7,II s.c8,II s.c9] 26)->Bw b d/\d.heap[b.heap.size]? =some (.cells #[II s.c0,II s.c1,II s.c2,II s.c3,II s.c4,II s.c5,II s.c6,II s.c7,II s.c8,II s.c9] 26 (0,0))):=by rintro d rfl;exact⟨fO _ _,cA b _⟩
 obtain⟨r,k⟩:∃r,kB s.c0 s.c1 s.c2 s.c3 s.c4 s.c5 s.c6 s.c7 s.c8 s.c9=r:=⟨_,rfl⟩;have p:Hid (∀d,aL ab 59 #[.agg #[II s.c0,II s.c1,II s.c2,II s.c3,II s.c4,II s.c5,II s.c6,II s.c7,II s.c8,II s.c9]] d fun e l=>e=.returned (.bool r)/\Bw d l):=by intro d;have:=lG (c0:=s.c0) (c1:=s.c1) (l:=s.c2) (u:=s.c3) (x:=s.c4) (E:=s.c5) (G:=s.c6) (H:=s.c7) (I:=s.c8) (J:=s.c9) (b:=d);rw[k]at this;exact this
 have o:Hid (s.right=r):=k;clear k;go_enter func116,ntmps116;go_wp2_with fail;obtain⟨h,f⟩:=m.out _ rfl;clear m;generalize b.alloc (.cells #[II s.c0,II s.c1,II s.c2,II s.c3,II s.c4,II s.c5,II s.c6,II s.c7,II s.c8,II s.c9] 26)=t at h f⊢;refine(p.out t).mono ?_;rintro e a ⟨rfl,j⟩;clear p;have c:=(j.block _ (bn.1 f).1).trans f;have g:=fP h j;clear h j f;have u:io a b 0 s.c0:=by simp[aD,c]
 have v:io a b 1 s.c1:=by simp[aD,c]
 have w:io a b 2 s.c2:=by simp[aD,c]
 have x:io a b 3 s.c3:=by simp[aD,c]
 have y:io a b 4 s.c4:=by simp[aD,c]
 have z:io a b 5 s.c5:=by simp[aD,c]
 have A:io a b 6 s.c6:=by simp[aD,c]
 have B:io a b 7 s.c7:=by simp[aD,c]
 have C:io a b 8 s.c8:=by simp[aD,c]
 have D:io a b 9 s.c9:=by simp[aD,c]
 have n:=fK g;have q:=g.size;clear c g;cases r
 ·go_wp2_with fail;go_ret2;unfold Bp;rw[o.out,if_neg (by decide)];exact⟨rfl,n.out⟩
 ·go_wp2_with fail;go_ret2;unfold Bp;rw[o.out,if_pos rfl];exact⟨a.heap.size,rfl,q,n.out.alloc q _,cA a _⟩
theorem gF.cons{g:aM}(h:gF w s a m v e g d out t):∀(i:Nat) b cb,s.fN[i]? =some b->m[i]? =some cb->∃j k,w.heap[cb]? =some (.cells (gn b j k) 249 (0,0)):=by intro i b cb c f;have l:=h.iD;have n:=h.jv;have o:=(bo.1 c).1;exact(h.iq i b cb _ c f (ap (by omega))).cb
theorem BE(a:gn j e h=gn j q M):e=q/\h=M:=by unfold gn at a;grind
theorem Gp(c:gF b p a m v e h d out t)(x:p.fN.length<=1000):
  aL ab 122 #[Pt a] b fun l k=>l=.returned (.tuple #[II (jV p).1,II (jV p).2.1])/\gF k (jV p).2.2 a m v e h d out t/\gm (·∈m) b k:=by
 refine(Ei c.iN c.row c.iD (by rw[c.iD];exact x) c.cons).mono ?_;intro l k f;unfold jV;cases o:kF p.fN p.fN.length with
 |none=>rw[o]at f;exact⟨f.1,c.below f.2,gm.fU f.2⟩
 |some C=>rw[o]at f;obtain⟨y,cb,E,H,g,q,s,n,u,w⟩:=f;simp only[g];refine⟨s,?_,n.mono fun D _ z=>by grind⟩;have A:=c.jv;have B:=(bo.1 g).1;refine c.Fw g q (ap (by omega)) rfl rfl n (fun G I j=>?_);rw[u]at j;simp only[Option.some.injEq,Obj.cells.injEq,and_true]at j;obtain⟨rfl,rfl⟩:=BE j;exact w
theorem zip_fst{α β:Type}:∀{a:List α} {b:List β},a.length=b.length->(a.zip b).map db=a
 |[],[],_=>rfl
 |x::a,y::b,h=>by simp[zip_fst (a:=a) (b:=b) (by simpa using h)]
 |[],_::_,h=>by simp at h
 |_::_,[],h=>by simp at h
theorem CS{α β:Type}:∀{a:List α} {b:List β},a.length=b.length->(a.zip b).map cw=b
 |[],[],_=>rfl
 |x::a,y::b,h=>by simp[CS (a:=a) (b:=b) (by simpa using h)]
 |[],_::_,h=>by simp at h
 |_::_,[],h=>by simp at h
theorem FD{α β:Type}{b:α->Bool}{a:List (α×β)}:(a.filter fun c=>b c.1).map db=(a.map db).filter b:=by rw[List.filter_map];rfl
theorem HC{α β γ:Type}:∀{a:List α} {b:List β} {c:List γ},a.length=b.length->a.length=c.length->(a.zip (b.zip c)).map (fun x=>(x.1,x.2.1))=a.zip b
 |[],[],[],_,_=>rfl
 |x::a,y::b,u::c,h1,h2=>by simp[HC (a:=a) (b:=b) (c:=c) (by simpa using h1) (by simpa using h2)]
 |[],[],_::_,_,h2=>by simp at h2
 |[],_::_,_,h1,_=>by simp at h1
 |_::_,[],_,h1,_=>by simp at h1
 |_::_,_::_,[],_,h2=>by simp at h2
theorem Jk(g:gF b p a m v e h d out t)(W:p.fN.length<=1000)(T:∀q∈p.fN,0<=q.heard/\q.heard<=1000000000)(Q:0<=p.now)(R:p.now<=c)(S:c<=1000000000):
  aL ab 120 #[Pt a,II c] b fun n E=>n=.returned (II 0)/\∃G P w,gF E (vy p c) a G P w h d out t/\gm (· = a) b E/\(∀j∈G,j∈m)/\(∀j∈P,j∈v)/\lU b.heap.size e w:=by
 refine(Jl g.iN g.row g.iD (by rw[g.iD];exact W) g.cons T Q R S).mono ?_;rintro n E ⟨rfl,z,w,X,J⟩;refine⟨rfl,?_⟩;have a6:=g.iD;have a7:=g.jv;let O:fV->Bool:=fun q=>decide (c-q.heard<p.c.c6)
 let k:=p.fN.zip (m.zip v)
 have a8:(m.zip v).length=p.fN.length:=by rw[List.length_zip];omega
 have Z:k.map db=p.fN:=zip_fst (by omega);have L:k.map cw=m.zip v:=CS (by omega);have M:k.map (fun f=>f.2.1)=m:=by
  have:k.map (fun f=>f.2.1)=(k.map cw).map db:=by rw[da];rfl
  rw[this,L,zip_fst (by omega)]
 have N:k.map (fun f=>f.2.2)=v:=by
  have:k.map (fun f=>f.2.2)=(k.map cw).map cw:=by rw[da];rfl
  rw[this,L,CS (by omega)]
 have a0:k.map (fun f=>(f.1,f.2.1))=p.fN.zip m:=HC (by omega) (by omega);let u:=k.filter fun f=>O f.1
 have Y:pz p.c.c6 c (p.fN.zip m)=u.map fun f=>(f.1,f.2.1):=by unfold pz;rw[<-a0,List.filter_map];rfl
 have D:(vy p c).fN=u.map db:=by show p.fN.filter O=_;rw[<-Z];exact(FD).symm
 have s:u.Sublist k:=List.filter_sublist;have o:∀{n:bG},n≠242->∀j H I,b.heap[j]? =some (.cells H n I)->¬j=a:=by rintro n a4 j H I l rfl;rw[g.iN]at l;grind
 refine⟨u.map (fun f=>f.2.1),u.map (fun f=>f.2.2),w,⟨X,?_,gI g.jN z (o (by decide)),g.mM.gx z (o (by decide)),?_,?_,?_,?_,?_⟩,z,?_,?_,fun j l=>bf (J.lt j l).1⟩
 ·have:=gq J (be _);rw[Y]at this;simp only[da,List.length_map]at this⊢;exact this
 ·rw[D];simp
 ·rw[D];simp
 ·exact((s.map _).nodup (by rw[M];exact g.Ga))
 ·exact((s.map _).nodup (by rw[N];exact g.Gb))
 ·intro i q cb sr B x y;rw[D]at B;rw[List.getElem?_map]at B x y;obtain⟨f,K,rfl⟩:=cZ.1 B;rw[K]at x y;simp only[Option.map_some,Option.some.injEq]at x y;subst x;subst y;obtain⟨A,a5⟩:=cj.1 (s.subset (bS K));have a1:p.fN[A]? =some f.1:=by grind
  have a2:m[A]? =some f.2.1:=by grind
  have a3:v[A]? =some f.2.2:=by grind
  have C:=g.iq A _ _ _ a1 a2 a3;obtain⟨_,_,U⟩:=C.cb;obtain⟨_,V⟩:=C.sr;exact C.gx z (o (by decide) _ _ _ U) (o (by decide) _ _ _ V) (o (by decide)) (o (by decide))
 ·intro j l;rw[<-M];exact(s.map _).subset l
 ·intro j l;rw[<-N];exact(s.map _).subset l
theorem gF.snoc{o:aM}(h:gF w s a m v e q d out t)(u:gm (fun g=>g=a\/e.ownBlock=some g) w b)
  (O:b.heap[a]? =some (.cells (gh s o q) 242 (0,0))) (M:b.ownsRow 0 244 1 o (m.length+1) (jm (m++[cb]))) (P:cb∉m) (Q:sr∉v) (J:lf b 0 j cb sr):
  gF b {s with fN:=s.fN++[j]} a (m++[cb]) (v++[sr]) o q d out t:=by
 have l:∀{k:bG},k≠242->k≠244->∀g x y,w.heap[g]? =some (.cells x k y)->¬(g=a\/e.ownBlock=some g):=by
  rintro k c f g x y z (rfl|G)
  ·rw[h.iN]at z;grind
  ·exact fR h.row z (fun k=>f k.symm) G
 have A:=h.iD;have B:=h.jv;refine⟨O,by rw[bL];exact M,gI h.jN u (l (by decide) (by decide)),h.mM.gx u (l (by decide) (by decide)),by simp[A],by simp[B],?_,?_,fun i c1 E N c f n=>?_⟩
 ·rw[cR];exact⟨h.Ga,by simp,fun C H D I=>by grind⟩
 ·rw[cR];exact⟨h.Gb,by simp,fun C H D I=>by grind⟩
 ·simp only at c;rcases Nat.lt_trichotomy i s.fN.length with hi|hi|hi
  ·rw[aZ hi]at c;rw[aZ (by omega)]at f n;have p:=h.iq i c1 E N c f n;obtain⟨_,_,K⟩:=p.cb;obtain⟨_,L⟩:=p.sr;exact p.gx u (l (by decide) (by decide) _ _ _ K) (l (by decide) (by decide) _ _ _ L) (l (by decide) (by decide)) (l (by decide) (by decide))
  ·subst hi;rw[bN (ar _)]at c;rw[<-A,bN (ar _)]at f;rw[<-B,bN (ar _)]at n;simp at c f n;subst c;subst f;subst n;exact J
  ·rw[cJ (by simp;omega)]at c;cases c
theorem gF.fresh{j:aM}(h:gF w s a m v e j d out t):(∀b∈m,b<w.heap.size)/\(∀b∈v,b<w.heap.size):=by
 have n:=h.iD;have o:=h.jv;constructor
 ·intro b c;obtain⟨k,l⟩:=h.DO b c;grind
 ·intro b c;obtain⟨g,f⟩:=cj.1 c;have p:=(bo.1 f).1;obtain⟨_,q⟩:=(h.iq g _ _ b (ap (by omega)) (ap (by omega)) f).sr;grind
theorem Gr(j:gF b p a m v e h d out t)(l:jF p.c)(n:p.fN.length<=1000):
  aL ab 121 #[Pt a] b fun g f=>g=.returned (II (ls p))/\gF f p a m v e h d out t/\Bw b f:=by
 obtain⟨s,u,o⟩:=j.view;have w:=l.c1;have x:=l.c3;refine(oy o (by omega) (by omega) n).mono ?_;rintro g f ⟨rfl,q,rfl⟩;have k:Bw b (b.drewN q):=fQ (Below.refl _ _) _;exact⟨rfl,j.below k,k⟩
theorem GC{j:Int}(z:gF b p a m v q M d out t)(E:ja p.fN g=none)(n:je b e k)(K:0<k.length)(D:nF p.c p.now j k=false)
  (A:jF p.c) (B:0<=j/\j<256) (G:p.fN.length<=1000):
  aL ab 157 #[Pt a,II j,II g,e,h,II l] b fun f w=>f=.returned (.tuple #[])/\Bw b w:=by
 obtain⟨I,J,o⟩:=z.view;have s:=jY g o G;rw[E]at s;have x:Hid (aL ab 158 #[Pt a,II g] b fun f w=>f=.returned (ag none)/\b=w):=s;have u:=vT o.cfg o.now n B A.c9;rw[D]at u;have y:=fK u;obtain⟨N,O,rfl⟩:=n.form;have L:=n.2.1;have H:=ml b;clear s o u z A n;go_enter func157,ntmps157;go_wp2_with fail;refine x.out.mono ?_;rintro f P ⟨rfl,rfl⟩;clear x;go_wp2_with fail;refine y.out.mono ?_;rintro f Q ⟨rfl,C⟩;clear y;go_wp2_with fail;refine cz (dd rfl _ _ _) rfl ?_;exact⟨rfl,C⟩
theorem vV{Z:Int}(s:gF b p a m v h q d out t)(a2:ja p.fN g=none)(a4:oX p.fN<p.c.c5)(Q:ly p=true)
  (y:jF p.c) (E:p.fN.length<=1000):
  aL ab 157 #[Pt a,II Z,II g,.slice R 0 f,e,II l] b fun j k=>j=.returned (.tuple #[])/\Bw b k:=by
 obtain⟨a6,a7,w⟩:=s.view;have C:=jY g w E;rw[a2]at C;have L:Hid (aL ab 158 #[Pt a,II g] b fun j k=>j=.returned (ag none)/\b=k):=C;obtain⟨I,G⟩:∃I,oX p.fN=I:=⟨_,rfl⟩;have N:Hid (∀o,aL ab 186 #[Pt a] (b.drewN o) fun j k=>j=.returned (II I)/\k=b.drewN o):=by intro o;have:=qm (w.drewN o) E;rw[G]at this;exact this.mono fun j k s=>⟨s.1,s.2.symm⟩
 rw[G]at a4;have a9:=y.c1;have b0:=y.c3;have b1:=y.c8;have a8:=y.c0;have M:Hid (∀n,Bw b n->aL ab 121 #[Pt a] n fun j k=>j=.returned (II (ls p))/\∃o,k=n.drewN o):=by intro n A;obtain⟨a0,a1,H⟩:=(s.below A).view;exact oy H (by omega) (by omega) E
 have K:Hid (∀n,Bw b n->aL ab 161 #[Pt a] n fun j k=>j=.returned (II (iT p.c))/\∃o,k=n.drewN o):=by intro n A;obtain⟨a0,a1,H⟩:=(s.below A).view;exact qR H (by omega) (by omega)
 have x:0<=iT p.c/\iT p.c<=5000:=by unfold iT;omega
 have S:0<=ls p/\ls p<=5000000:=by
  unfold ls;have a3:(p.fN.length:Int)<=1000:=by omega
  constructor
  ·exact cU (by omega) x.1
  ·exact cX (cV a3 x.2 x.1 (by omega)) (by decide)
 have T:CI b a 0 p.c.c0:=w.cfg 0 (by decide);have V:CI b a 5 p.c.c5:=w.cfg 5 (by decide);have W:CI b a 8 p.c.c8:=w.cfg 8 (by decide);have U:=w.cv;have X:=ml b;obtain⟨O,B⟩:∃J,iT p.c=J:=⟨_,rfl⟩;obtain⟨mem,D⟩:∃J,ls p=J:=⟨_,rfl⟩;have Y:Hid ((decide (p.c.c0<=(p.fN.length:Int)) || decide (p.c.c8<mem+O))=true):=by rw[<-D,<-B];exact Q
 rw[B]at K x;rw[D]at M S;clear C w G s y B D Q;obtain⟨b2,b3⟩:=x;obtain⟨b6,b7⟩:=S;go_enter func157,ntmps157;go_wp2_with fail;refine L.out.mono ?_;rintro j b9 ⟨rfl,rfl⟩;clear L;go_wp2_with fail;go_quiet ((go_at_call 186;exact cN (N.out _)));have u:Bw b (b.drewN nq):=fQ (Below.refl _ _) _;generalize b.drewN nq=b8 at u⊢;replace T:=fL T u;replace V:=fL V u;replace W:=fL W u;replace U:=fL U u;have z:=fK u;clear u X N;rcases bO p.fN.length p.c.c0 with b4|a5
 ·have P:decide (p.c.c0<=(p.fN.length:Int))=false:=decide_eq_false (by omega);have b5:p.c.c8<mem+O:=by have:=Y.out;rw[P]at this;simpa using this
  go_wp2_with fail;go_quiet (first
   |(go_at_call 121;exact cP (M.out _ (fQ z.out _)))
   |(go_at_call 161;exact cP (K.out _ (fQ z.out _))))
  go_wp2_with fail;refine cz (dd rfl _ _ _) rfl ?_;exact⟨rfl,fQ z.out _⟩
 ·have P:decide (p.c.c0<=(p.fN.length:Int))=true:=decide_eq_true a5;go_wp2_with fail;go_quiet (fail);go_wp2_with fail;refine cz (dd rfl _ _ _) rfl ?_;exact⟨rfl,fQ z.out _⟩
theorem At(b:Int)(a:Nat):jH b [] a=List.replicate a (gP b):=by simp[jH]
def Bs(ob:Nat)(jf ke:List Nat)(cv:aM)(oF tq:List Nat)(zu:aM):Prop:=(∀k∈oF,k∈jf\/ob<=k)/\(∀k∈tq,k∈ke\/ob<=k)/\∀k,zu.ownBlock=some k->cv.ownBlock=some k\/ob<=k
theorem Bs.erase{w4 v5:List Nat}{d:aM}(h:Bs a m v e w4 v5 d)(i:Nat):Bs a m v e (w4.eraseIdx i) (v5.eraseIdx i) d:=
 ⟨fun c b=>h.1 c ((cY _ _).subset b),fun c b=>h.2.1 c ((cY _ _).subset b),h.2.2⟩
theorem Bs.refl(e:Nat)(b d:List Nat)(c:aM):Bs e b d c b d c:=⟨fun _ a=>bg a,fun _ a=>bg a,fun _ a=>bg a⟩
theorem vd{w7 k:Prop}(u:a<=cb)(w:a<=sr)(x:h.ownBlock=e.ownBlock\/∀j,h.ownBlock=some j->d<=j)(l:w7/\lU f h q)(o:k/\lU n q M)(p:a<=d)(s:a<=f)(t:a<=n):Bs a m v e (m++[cb]) (v++[sr]) M:=by
 refine⟨fun c g=>?_,fun c g=>?_,fun c g=>?_⟩
 ·grind
 ·grind
 ·rcases o.2 c g with b|b
  ·rcases l.2 c b with b|b
   ·grind
   omega
  omega
theorem D'{z5 t8:aK}{c0:fV}(G:gF b p a m v e q d out t)
  (n:Bw b w) (X:c0.runs=[]) (j:Bm w 0 c0 b.heap.size (ai none 0 0) (ai none 0 0) [] (jH c [] f) z5 M o) (a8:0<f)
  (s:z5.grownBy t8 e.ownBlock) (L:t8.ownsRow 0 244 1 h (m.length+1) (jm (m++[b.heap.size]))):
  ∃sr,b.heap.size<sr/\gF (t8.setCell (Ad a 11) h) {p with fN:=p.fN++[{c0 with fM:=jH c [] f}]} a (m++[b.heap.size]) (v++[sr]) h q d out t/\gm (fun g=>g=a\/e.ownBlock=some g) b (t8.setCell (Ad a 11) h):=by
 have a7:(jH c [] f).length=f:=by simp[jH]
 have D:=j.row;have z:=j.iq;obtain⟨b1,a2,rfl⟩:=gr D;obtain⟨_,⟨B,_⟩|⟨sr,a4,A,B,_,Z,_⟩⟩:=id D
 ·omega
 ·simp only[Value.slice.injEq]at B;obtain⟨rfl,_,rfl⟩:=B;have I:Bw b z5:=by refine⟨j.gx.os.trans n.os,j.gx.tape.trans n.tape,j.gx.output.trans n.output,bZ n.size j.gx.size,fun g x=>?_⟩;rw[j.gx.block g (ca x n.size) (by rintro(rfl|C);omega;simp[aq]at C)];exact n.block g x
  have l:=G.below I;have R:=(bn.1 z).1;have b0:=(bn.1 Z).1;have a0:b.heap.size<sr:=by
   rcases Nat.lt_trichotomy b.heap.size sr with u|u|u
   ·exact u
   ·grind
   ·have:=j.pT sr rfl (ca u n.size);simp[aq]at this
  have Y:a<z5.heap.size:=(bn.1 l.iN).1;have U:=fR l.row l.iN (by decide);have a9:=fR l.row z (by decide);have N:t8.heap[a]? =_:=(s.block a Y (ch U)).trans l.iN;have y:gm (fun g=>g=a\/e.ownBlock=some g) z5 (t8.setCell (Ad a 11) h):=by refine⟨s.os,s.tape,s.output,by rw[World.size_setCell];exact s.size,fun a1 W K=>?_⟩;rw[cy _ _ _ _ (fun k=>K (bg k)),s.block a1 W (fun k=>K (bf k.symm))]
  have V:∀{k:bG},k≠242->k≠244->∀g A E,z5.heap[g]? =some (.cells A k E)->¬(g=a\/e.ownBlock=some g):=by
   rintro k u Q g A E x (rfl|C)
   ·rw[l.iN]at x;grind
   ·exact fR l.row x (fun k=>Q k.symm) C
  have a6:=G.fresh;refine⟨sr,a0,l.snoc y ((fT N _ _).trans rfl) (cC L (fR L N (by decide)) _) (fun T=>by grind) (fun T=>by grind) ?_,?_⟩
  ·refine⟨ai none 0 0,a2,o,?_,?_,j.len,gM D y (fun a5 S=>?_),fun i b2 a3 O J=>?_⟩
   ·rw[y.block _ R (V (by decide) (by decide) _ _ _ z)];exact z
   ·show Ro _ _ _ c0.runs.length (gT c0.runs);rw[X];exact Ro.nil _ _
   ·simp only[aq,Option.some.injEq]at S;grind
   ·simp only[At]at O;have P:=bS O;rw[cW]at P;rw[j.news]at J;have H:=bS J;simp only[List.nil_append,cW]at H;rw[P.2,H.2];exact Ro.nil _ _
  ·exact(gm.fU I).trans y
theorem oL(a:g_)(b:fV):(gu a b).length<=17/\0<(gu a b).length:=by unfold gu;have c:=hJ (i_ a.c9 b.addr b.fZ);have d:=hJ a.c1;have e:=hJ a.c2;have f:=hJ a.c3;rw[bL,bL,bL,bL,show([20]:List Int).length=1 from rfl];omega
theorem DW(a:hS c j)(f:j.gS+5+k.length<=c):hS c (hE j k)/\(hE j k).fZ=j.fZ:=by
 unfold hE;split
 ·have b:=hJ j.fZ;have e:(jn j.fZ k).length<=5+k.length:=by unfold jn;rw[bL,bL,show([4]:List Int).length=1 from rfl];omega
  have d:=a.gS;exact⟨⟨a.fZ,a.addr,a.gR,⟨by simp only;omega,by simp only;omega⟩,a.heard,a.runs,a.fS,a.lu,a.str⟩,rfl⟩
 grind
theorem DZ{a:Int}{u:Int}{ok:Bool}(b:jF p.c)(e:0<=a)(f:0<=l/\l<256)(h:0<=g/\g<=1073741823)(m:0<=u/\u<=a)(j:0<=p.now/\p.now<=1000000000):hS a (iz p g l u ok):=by
 have n:=b.c1;have o:=b.c2;have q:=b.c3;have s:(jH p.c.c2 [] p.c.c3.toNat).length=p.c.c3.toNat:=by simp[jH]
 refine⟨h,f,m,⟨Int.le_refl _,e⟩,j,⟨by simp[iz,ki],fun r k=>by simp[iz,ki]at k⟩,⟨by simp only[iz,ki];omega,by simp only[iz,ki];omega⟩,⟨by simp only[iz];omega,by simp only[iz];omega⟩,fun t d=>?_⟩;simp only[iz,At]at d;rw[(cW.1 d).2];exact⟨by simp[gP],by simp[gP],by simp[gP],⟨by simp only[gP];omega,by simp only[gP];omega⟩,by simp[gP]⟩
theorem su(a:ja y4 c=none):c∉y4.map (·.fZ):=by unfold ja at a;grind
theorem vX{b:List Int}{N:Nat}{R3:Option Addr}{tc:Nat}(h:gF w s sb jf ke cv ov ob out ii)(Pd:ja s.fN fZ=none)(SK:oX s.fN<s.c.c5)(qG:ly s=false)
  (hg:jF s.c) (hn:s.fN.length<=990) {M:Int} (hM:M<=1125899906842624) (ha:0<=addr/\addr<256) (NR:0<=fZ/\fZ<=1073741823) (IK:0<=size/\size<=M) (IJ:0<=s.now/\s.now<=1000000000) (hl:0<=s.last/\s.last<=1125899906842000) (Pn:(s.fN.map (·.fZ)).Nodup) {Z:Nat->Prop} (hZ:rZ Z sb jf ke ob) (Pc:∀k,Z k->cv.ownBlock≠some k) (hr:mC Z w fv b) (Hm:b.length<=1073741823) (hN:b.length<=N) (SO:ob<=w.heap.size) (SP:ii.length<=999999) (Sp:1000<=M):
  aL ab 157 #[Pt sb,II addr,II fZ,.slice R3 0 tc,fv,II size] w fun e w'=>e=.returned (.tuple #[])/\∃oF tq zu uV nX,gF w' (qN s fZ addr size b N ii).1 sb oF tq zu uV ob nX (qN s fZ addr size b N ii).2/\gm (fun k=>k=sb\/cv.ownBlock=some k\/ob<=k) w w'/\Bs ob jf ke cv oF tq zu:=by
 obtain⟨He,tj,lb⟩:=h.view;have oO:=jY fZ lb (by omega);rw[Pd]at oO;have Ka:Hid (aL ab 158 #[Pt sb,II fZ] w fun e w'=>e=.returned (ag none)/\w=w'):=oO;obtain⟨u,hu⟩:∃u,oX s.fN=u:=⟨_,rfl⟩;have RK:Hid (∀n,aL ab 186 #[Pt sb] (w.drewN n) fun e w'=>e=.returned (II u)/\w'=w.drewN n):=by intro n;have:=qm (lb.drewN n) (by omega);rw[hu]at this;exact this.mono fun e w' h=>⟨h.1,h.2.symm⟩
 rw[hu]at SK;have h1:=hg.c1;have h3:=hg.c3;have h8:=hg.c8;have Sm:=hg.c0;have Nv:Hid (∀W,Bw w W->aL ab 121 #[Pt sb] W fun e w'=>e=.returned (II (ls s))/\∃n,w'=W.drewN n):=by intro W hb;obtain⟨ND,QA,L7⟩:=(h.below hb).view;exact oy L7 (by omega) (by omega) (by omega)
 have Nt:Hid (∀W,Bw w W->aL ab 161 #[Pt sb] W fun e w'=>e=.returned (II (iT s.c))/\∃n,w'=W.drewN n):=by intro W hb;obtain⟨ND,QA,L7⟩:=(h.below hb).view;exact qR L7 (by omega) (by omega)
 have K0:0<=iT s.c/\iT s.c<=5000:=by unfold iT;omega
 have Pl:0<=ls s/\ls s<=5000000:=by
  unfold ls;have hl:(s.fN.length:Int)<=1000:=by omega
  constructor
  ·exact cU (by omega) K0.1
  ·exact cX (cV hl K0.2 K0.1 (by omega)) (by decide)
 have k0:CI w sb 0 s.c.c0:=lb.cfg 0 (by decide);have k5:CI w sb 5 s.c.c5:=lb.cfg 5 (by decide);have k8:CI w sb 8 s.c.c8:=lb.cfg 8 (by decide);have DP:=lb.cv;have E0:=ml w;obtain⟨QC,FL⟩:∃x,iT s.c=x:=⟨_,rfl⟩;obtain⟨mem,yh⟩:∃x,ls s=x:=⟨_,rfl⟩;have FV:(s.fN.length:Int)<s.c.c0/\mem+QC<=s.c.c8:=by unfold ly at qG;rw[yh,FL]at qG;simp only[c_,decide_eq_false_iff_not]at qG;omega
 obtain⟨Rb,Rc⟩:=FV;have k1:CI w sb 1 s.c.c1:=lb.cfg 1 (by decide);have k2:CI w sb 2 s.c.c2:=lb.cfg 2 (by decide);have k3:CI w sb 3 s.c.c3:=lb.cfg 3 (by decide);have K':CI w sb 10 s.now:=lb.now;have HH:=fK h;have HG:=fK hg;have Bn:=fK hr;have HZ:=fK hZ;have Qv:=fK Pc;have Qj:=fK Pn;rw[FL]at Nt K0;rw[yh]at Nv Pl;clear oO lb hu h hg FL yh qG hr hZ Pc Pn;obtain⟨QV,QW⟩:=K0;obtain⟨Q6,Q7⟩:=Pl;go_enter func157,ntmps157;go_wp2_with fail;refine Ka.out.mono ?_;rintro e w1 ⟨rfl,rfl⟩;clear Ka;go_wp2_with fail;go_quiet ((go_at_call 186;exact cN (RK.out _)));have zg:Bw w (w.drewN nq):=fQ (Below.refl _ _) _;generalize w.drewN nq=w0 at zg⊢;replace k0:=fL k0 zg;replace k1:=fL k1 zg;replace k2:=fL k2 zg;replace k3:=fL k3 zg;replace K':=fL K' zg;replace k5:=fL k5 zg;replace k8:=fL k8 zg;replace DP:=fL DP zg;have J_:=fK zg;clear zg E0 RK;have hd:decide (s.c.c0<=(s.fN.length:Int))=false:=decide_eq_false (by omega);go_wp2_with fail;go_quiet (first
  |(go_at_call 121;exact cP (Nv.out _ (fQ J_.out _)))
  |(go_at_call 161;exact cP (Nt.out _ (fQ J_.out _))))
 have NK:=fQ J_.out nq;have tW:Bw w0 (w0.drewN nq):=fQ (Below.refl _ _) _;generalize w0.drewN nq=w1 at NK tW⊢;replace k1:=fL k1 tW;replace k2:=fL k2 tW;replace k3:=fL k3 tW;replace K':=fL K' tW;replace DP:=fL DP tW;have HI:=fK NK;clear NK tW J_ k0 k5 k8 hd Nv Nt;go_upto_region 18 with fail;go_region;have Nb:(w1.alloc (Mh fZ addr size s)).drew.heap[w1.heap.size]? =some (.cells (gn (ki fZ addr false size s.now s.c.c1) (ai none 0 0) (ai none 0 0)) 249 (0,0)):=cA w1 _;have wB:Bw w1 (w1.alloc (Mh fZ addr size s)).drew:=by have hx:=fO w1 (Mh fZ addr size s);exact⟨hx.os,hx.tape,hx.output,hx.size,hx.block⟩
 generalize (w1.alloc (Mh fZ addr size s)).drew=w2 at Nb wB⊢;obtain⟨I',FT⟩:∃I':Nat,s.c.c3=I':=⟨s.c.c3.toNat,by omega⟩;replace k2:=fL k2 wB;replace k3:=fL k3 wB;rw[FT]at k3;have Nu:=fK FT;have SL:1<=I'/\I'<=8:=by omega
 clear FT h3;have RZ:sb<w1.heap.size:=hK DP;have OU:=fK (vU (ki fZ addr false size s.now s.c.c1) s.c.c2 I' sb w1.heap.size 0 (ai none 0 0) (ai none 0 0) [] w2 k2 Nb (World.ownsRow_nil _ _ _ _) rfl (be _) (by omega) (by omega) (by simp[aq]) (be _));have wU:=fK wB;clear wB Nb;go_wp2_with fail;refine OU.out.mono ?_;rintro e w3 ⟨rfl,PX,Kt,G⟩;clear OU;have K5:=(HH.out.below HI.out).iN;have MA:cv=.slice He s.fN.length tj:=by
  have:w1.cell? (Ad sb 11)=some cv:=by simp[aD,K5,gh,g_.cells]
  rw[DP]at this;exact(Option.some.inj this).symm
 subst MA;have DH:Bw w1 w3:=by refine⟨G.gx.os.trans wU.out.os,G.gx.tape.trans wU.out.tape,G.gx.output.trans wU.out.output,bZ wU.out.size G.gx.size,fun k hk=>?_⟩;rw[G.gx.block k (ca hk wU.out.size) (by rintro(rfl|h5);omega;simp[aq]at h5)];exact wU.out.block k hk
 have Qu:=fK DH.size;have KS:=(HH.out.below HI.out).below DH;have N1:=fL DP DH;have tX:=HH.out.iD;have Pm:=fR KS.row KS.iN (by decide);have NZ:sb<w3.heap.size:=hK N1;obtain⟨i0,MB,MI,MJ,K6⟩:=info_parts rq;have OT:=fK G;have L3:=fK KS;clear G DH KS DP K' k1 k2 k3;obtain⟨v4,w4,DM,uN,yg,KV⟩:=jR (P:=ab) (w3.alloc (.cells #[Pt w1.heap.size] 244)) 0 240 240 244 i0 (ag none) 1 8 underlying240 MB MI MJ K6 rfl (by decide) (.slice He s.fN.length tj) jf.length (jm jf) (L3.out.row.alloc _) (gf w3 0) 1 1 [Pt w1.heap.size] rfl (gY (b:=w3) (z:=244) (o:=[Pt w1.heap.size]) (by simp[maxLen])) (by simp[bM]) (by unfold maxLen;omega) (by omega) (be _);have Kc:=fK DM;have J9:=fK KV;clear DM KV;go_wp2_with (first
  |(at_builtin;refine gJ rfl _ _ _ _ rfl _ _ rfl rfl Kc.out ?_;refine Hid.out ?_))
 refine fK ?_;have NU:=ga yg;obtain⟨N2,N3,rfl⟩:=gB uN;have NY:=(NU.block sb NZ (ch Pm)).trans L3.out.iN;have Sg:w4.cell? (Ad sb 11)=some (.slice He s.fN.length tj):=by simp[aD,NY,gh,g_.cells]
 have Tl:mc w4 sb 11:=cx w4 sb 11 _ _ NY;have Pq:jm jf++[Pt w1.heap.size]=jm (jf++[w1.heap.size]):=by simp[jm,vR]
 rw[Pq]at uN;have OX:=fK (D' (c0:=ki fZ addr false size s.now s.c.c1) (HH.out.below HI.out) wU.out rfl OT.out (by omega) NU uN);clear NU yg uN NY OT L3 Pm Pq;go_wp2_with fail;obtain⟨sr,Rj,FH,yf⟩:=OX.out;clear OX;rw[tX]at FH yf;generalize w4.setCell (Ad sb 11) (.slice N2 (s.fN.length+1) N3)=w5 at FH yf⊢;have Po:{ki fZ addr false size s.now s.c.c1 with fM:=jH s.c.c2 [] I'}=iz s fZ addr size false:=by unfold iz;rw[Nu.out];rfl
 rw[Po]at FH;have BS:=DZ (a:=M) (ok:=false) HG.out (by omega) ha NR IK IJ;obtain⟨c,KX⟩:∃c,iz s fZ addr size false=c:=⟨_,rfl⟩;have QU:c.fZ=fZ:=by rw[<-KX];rfl
 have Nc:c.gS=0:=by rw[<-KX];rfl
 rw[KX]at FH BS;have Ql:Hid (qN s fZ addr size b N ii=hY {s with fN:=(s.fN++[c]).set s.fN.length (hE c (gu s.c c))} s.fN.length b (ig c (gu s.c c) ii) N):=by show _=_;unfold qN;rw[KX]
 clear Po KX;have MC:(s.fN++[c])[s.fN.length]? =some c:=by simp
 have BP:(jf++[w1.heap.size])[s.fN.length]? =some w1.heap.size:=by rw[<-tX];simp
 have BT:(ke++[sr])[s.fN.length]? =some sr:=by rw[<-HH.out.jv];simp
 have Rf:=yf.size;have Re:=HI.out.size;have O1:=fK (sL {s with fN:=s.fN++[c]} s.fN.length c sb w1.heap.size sr ob _ _ _ ov out ii w5 FH MC BP BT HG.out (by omega) BS hM (by omega));have Qr:=fK FH;have Ns:=fK yf;clear FH yf;refine O1.out.mono ?_;rintro e w6 ⟨rfl,QD,Rs,Oj,Pa,BQ,Ph⟩;have OW:=fK Ph;have J':Hid ((.slice N2 (s.fN.length+1) N3:aM).ownBlock=(.slice He s.fN.length tj:aM).ownBlock\/∀g,(.slice N2 (s.fN.length+1) N3:aM).ownBlock=some g->w3.heap.size<=g):=by have h0:=J9.out;rw[tX]at h0;exact h0.imp id fun h g hg=>bZ (by simp) (h g hg)
 clear Ph J9;clear O1;have SW:=oL s.c c;obtain⟨vI,KY⟩:=DW (k:=gu s.c c) BS (by rw[Nc];omega);have NX:(ig c (gu s.c c) ii).length<=1000000:=by
  unfold ig;split
  ·rw[bL];simp;omega
  ·omega
 have K3:(((s.fN++[c]).set s.fN.length (hE c (gu s.c c))).map (·.fZ)).Nodup:=by rw[kr MC KY,List.map_append,cR];refine⟨Qj.out,by simp,fun x hx y hy=>?_⟩;simp at hy;subst hy;rintro rfl;rw[QU]at hx;exact su Pd hx
 have OI:rZ Z sb (jf++[w1.heap.size]) (ke++[sr]) ob:=HZ.out.snoc (by omega) (by omega);have Pr:mC Z w6 fv b:=by
  refine((Bn.out.below HI.out).gx Ns.out (fun k hk=>?_)).gx BQ (sV OI BP BT);rintro(h|h5)
  ·exact(HZ.out k hk).2.1 h
  ·exact Qv.out k hk h5
 have Rg:=BQ.size;have vu:=fK (uc {s with fN:=(s.fN++[c]).set s.fN.length (hE c (gu s.c c))} s.fN.length (hE c (gu s.c c)) b N sb w1.heap.size sr ob fv _ _ QD Rs Oj _ w6 Pa (getElem?_set_at MC) BP BT HG.out vI hM hl (by simp;omega) K3 OI Pr Hm hN (by omega) NX);have ye:∀k,nM sb w1.heap.size sr ob k->(k=sb\/(.slice He s.fN.length tj:aM).ownBlock=some k\/ob<=k):=by
  rintro k (h|h|h|h)
  ·exact bg h
  ·exact bf (bf (by omega))
  ·exact bf (bf (by omega))
  ·exact bf (bf h)
 have P1:Hid (gm (fun k=>k=sb\/(.slice He s.fN.length tj:aM).ownBlock=some k\/ob<=k) w w6):=by
  refine((gm.fU HI.out).trans (Ns.out.mono fun k _ hk=>?_)).trans (BQ.mono fun k _ hk=>ye k hk);rcases hk with h|h
  ·exact bg h
  ·exact bf (bg h)
 have Ac:=fK ye;clear Pa BQ Pr K3 ye vI BS Qr Ns;obtain⟨Sl,QI,rfl,_⟩:=Bn.out.2;go_wp2_with fail;refine vu.out.mono ?_;rintro e w7 ⟨rfl,Pe⟩;clear vu;have Qe:=fK Pe;clear Pe;go_wp2_with fail;go_end0;refine⟨rfl,?_⟩;rw[Ql.out];have S5:=Qu.out;rcases Qe.out with⟨NJ,Ok,Gf,NN,FJ,NW⟩|⟨NJ,Ok,Gf,NN,FJ,NW⟩
 ·exact⟨_,_,NJ,Ok,Gf,NN,P1.out.trans (FJ.mono fun k _ hk=>Ac.out k hk),vd (by omega) (by omega) J'.out OW.out NW (by omega) (by omega) (by omega)⟩
 ·exact⟨_,_,NJ,Ok,Gf,NN,P1.out.trans (FJ.mono fun k _ hk=>Ac.out k hk),(vd (by omega) (by omega) J'.out OW.out NW (by omega) (by omega) (by omega)).erase _⟩
theorem GF(e:gg)(i:Nat)(k:fV)(f cb sr v:Nat)(l g:List Nat)(x w:aM)(out:List (Int×aM))(A:List (Int×List Int))(h:aK)(a:gF h e f l g x w v out A)(hi:e.fN[i]? =some k)(z:l[i]? =some cb)(u:g[i]? =some sr)(I:0<=e.last/\e.last<=1125899906842624):
  aL ab 188 #[Pt f,Pt cb] h fun b j=>b=.returned (.tuple #[])/\gF j (sF e i k) f l g x w v out A/\gm (nM f cb sr v) h j:=by
 have y:=a.iq i k cb sr hi z u;obtain⟨S,t⟩:=y.sr;obtain⟨P,Q,C,q,L,J,K,E⟩:=y;refine(wL a.iN q I).mono ?_;rintro b j ⟨rfl,p,n,o⟩;have c:gm (tt f cb sr w) h j:=p.mono fun T _ H=>by
  rcases H with m|m
  ·exact bg m
  ·exact bf (bg m)
 have s:=fun {b:bG} n o h3 h4=>nm (z:=b) a.iN q t a.jN n o h3 h4;refine⟨rfl,?_,c.call a.jN⟩;have M:g=g.set i sr:=(ia u).symm;rw[M];refine a.LW hi z u c rfl n (gM a.jN p (fun D d=>?_)) (a.mM.gx c (s (by decide) (by decide) (by decide) (by decide))) ⟨P,Q,C,o,L.gx c (s (by decide) (by decide) (by decide) (by decide)),J,gM K p (fun D d=>?_),fun O R B N G=>(E O R B N G).gx c (s (by decide) (by decide) (by decide) (by decide))⟩ (bg rfl)
 ·rintro(rfl|rfl)
  ·exact fR a.jN a.iN (by decide) d
  ·exact fR a.jN q (by decide) d
 ·simp only[aq,Option.some.injEq]at d;subst d;rintro(rfl|rfl)
  ·rw[a.iN]at t;simp at t
  grind
theorem vY{b:List Int}{N:Nat}{tok:List Int}{tv:aM}(h:gF w s sb jf ke cv ov ob out ii)(Pd:ja s.fN fZ=none)(ht:je w tv tok)(hp:0<tok.length)(Nd:nF s.c s.now addr tok=true)(qG:ly s=false)
  (hg:jF s.c) (hn:s.fN.length<=990) {M:Int} (hM:M<=1125899906842624) (ha:0<=addr/\addr<256) (NR:0<=fZ/\fZ<=1073741823) (IK:0<=size/\size<=M) (IJ:0<=s.now/\s.now<=1000000000) (hl:0<=s.last/\s.last<=1125899906841000) (Pn:(s.fN.map (·.fZ)).Nodup) {Z:Nat->Prop} (hZ:rZ Z sb jf ke ob) (Pc:∀k,Z k->cv.ownBlock≠some k) (hr:mC Z w fv b) (Hm:b.length<=1073741823) (hN:b.length<=N) (SO:ob<=w.heap.size) (SP:ii.length<=999999) (Sp:1000<=M):
  aL ab 157 #[Pt sb,II addr,II fZ,tv,fv,II size] w fun e w'=>e=.returned (.tuple #[])/\∃oF tq zu uV nX,gF w' (qM s fZ addr size b N ii).1 sb oF tq zu uV ob nX (qM s fZ addr size b N ii).2/\gm (fun k=>k=sb\/cv.ownBlock=some k\/ob<=k) w w'/\Bs ob jf ke cv oF tq zu:=by
 obtain⟨He,tj,lb⟩:=h.view;have oO:=jY fZ lb (by omega);rw[Pd]at oO;have Ka:Hid (aL ab 158 #[Pt sb,II fZ] w fun e w'=>e=.returned (ag none)/\w=w'):=oO;have OJ:=vT lb.cfg lb.now ht ha hg.c9;rw[Nd]at OJ;have RD:=fK OJ;obtain⟨R3,tc,rfl⟩:=ht.form;have Tq:=ht.2.1;have h1:=hg.c1;have h3:=hg.c3;have h8:=hg.c8;have Sm:=hg.c0;have Nv:Hid (∀W,Bw w W->aL ab 121 #[Pt sb] W fun e w'=>e=.returned (II (ls s))/\∃n,w'=W.drewN n):=by intro W hb;obtain⟨ND,QA,L7⟩:=(h.below hb).view;exact oy L7 (by omega) (by omega) (by omega)
 have Nt:Hid (∀W,Bw w W->aL ab 161 #[Pt sb] W fun e w'=>e=.returned (II (iT s.c))/\∃n,w'=W.drewN n):=by intro W hb;obtain⟨ND,QA,L7⟩:=(h.below hb).view;exact qR L7 (by omega) (by omega)
 have K0:0<=iT s.c/\iT s.c<=5000:=by unfold iT;omega
 have Pl:0<=ls s/\ls s<=5000000:=by
  unfold ls;have hl:(s.fN.length:Int)<=1000:=by omega
  constructor
  ·exact cU (by omega) K0.1
  ·exact cX (cV hl K0.2 K0.1 (by omega)) (by decide)
 have k0:CI w sb 0 s.c.c0:=lb.cfg 0 (by decide);have k5:CI w sb 5 s.c.c5:=lb.cfg 5 (by decide);have k8:CI w sb 8 s.c.c8:=lb.cfg 8 (by decide);have DP:=lb.cv;have E0:=ml w;obtain⟨QC,FL⟩:∃x,iT s.c=x:=⟨_,rfl⟩;obtain⟨mem,yh⟩:∃x,ls s=x:=⟨_,rfl⟩;have FV:(s.fN.length:Int)<s.c.c0/\mem+QC<=s.c.c8:=by unfold ly at qG;rw[yh,FL]at qG;simp only[c_,decide_eq_false_iff_not]at qG;omega
 obtain⟨Rb,Rc⟩:=FV;have k1:CI w sb 1 s.c.c1:=lb.cfg 1 (by decide);have k2:CI w sb 2 s.c.c2:=lb.cfg 2 (by decide);have k3:CI w sb 3 s.c.c3:=lb.cfg 3 (by decide);have K':CI w sb 10 s.now:=lb.now;have HH:=fK h;have HG:=fK hg;have Bn:=fK hr;have HZ:=fK hZ;have Qv:=fK Pc;have Qj:=fK Pn;rw[FL]at Nt K0;rw[yh]at Nv Pl;clear oO lb OJ h hg FL yh qG hr hZ Pc Pn ht Nd;obtain⟨QV,QW⟩:=K0;obtain⟨Q6,Q7⟩:=Pl;go_enter func157,ntmps157;go_wp2_with fail;refine Ka.out.mono ?_;rintro e w1 ⟨rfl,rfl⟩;clear Ka;go_wp2_with fail;refine RD.out.mono ?_;rintro e w0 ⟨rfl,zg⟩;clear RD;replace k0:=fL k0 zg;replace k1:=fL k1 zg;replace k2:=fL k2 zg;replace k3:=fL k3 zg;replace K':=fL K' zg;replace k5:=fL k5 zg;replace k8:=fL k8 zg;replace DP:=fL DP zg;have J_:=fK zg;clear zg E0;have hd:decide (s.c.c0<=(s.fN.length:Int))=false:=decide_eq_false (by omega);go_wp2_with fail;go_quiet (first
  |(go_at_call 121;exact cP (Nv.out _ (fQ J_.out _)))
  |(go_at_call 161;exact cP (Nt.out _ (fQ J_.out _))))
 have NK:=fQ J_.out nq;have tW:Bw w0 (w0.drewN nq):=fQ (Below.refl _ _) _;generalize w0.drewN nq=w1 at NK tW⊢;replace k1:=fL k1 tW;replace k2:=fL k2 tW;replace k3:=fL k3 tW;replace K':=fL K' tW;replace DP:=fL DP tW;have HI:=fK NK;clear NK tW J_ k0 k5 k8 hd Nv Nt;go_upto_region 18 with fail;go_region;have Nb:(w1.alloc (Mi fZ addr size s)).drew.heap[w1.heap.size]? =some (.cells (gn (ki fZ addr true size s.now s.c.c1) (ai none 0 0) (ai none 0 0)) 249 (0,0)):=cA w1 _;have wB:Bw w1 (w1.alloc (Mi fZ addr size s)).drew:=by have hx:=fO w1 (Mi fZ addr size s);exact⟨hx.os,hx.tape,hx.output,hx.size,hx.block⟩
 generalize (w1.alloc (Mi fZ addr size s)).drew=w2 at Nb wB⊢;obtain⟨I',FT⟩:∃I':Nat,s.c.c3=I':=⟨s.c.c3.toNat,by omega⟩;replace k2:=fL k2 wB;replace k3:=fL k3 wB;rw[FT]at k3;have Nu:=fK FT;have SL:1<=I'/\I'<=8:=by omega
 clear FT h3;have RZ:sb<w1.heap.size:=hK DP;have OU:=fK (vU (ki fZ addr true size s.now s.c.c1) s.c.c2 I' sb w1.heap.size 0 (ai none 0 0) (ai none 0 0) [] w2 k2 Nb (World.ownsRow_nil _ _ _ _) rfl (be _) (by omega) (by omega) (by simp[aq]) (be _));have wU:=fK wB;clear wB Nb;go_wp2_with fail;refine OU.out.mono ?_;rintro e w3 ⟨rfl,PX,Kt,G⟩;clear OU;have K5:=(HH.out.below HI.out).iN;have MA:cv=.slice He s.fN.length tj:=by
  have:w1.cell? (Ad sb 11)=some cv:=by simp[aD,K5,gh,g_.cells]
  rw[DP]at this;exact(Option.some.inj this).symm
 subst MA;have DH:Bw w1 w3:=by refine⟨G.gx.os.trans wU.out.os,G.gx.tape.trans wU.out.tape,G.gx.output.trans wU.out.output,bZ wU.out.size G.gx.size,fun k hk=>?_⟩;rw[G.gx.block k (ca hk wU.out.size) (by rintro(rfl|h5);omega;simp[aq]at h5)];exact wU.out.block k hk
 have Qu:=fK DH.size;have KS:=(HH.out.below HI.out).below DH;have N1:=fL DP DH;have tX:=HH.out.iD;have Pm:=fR KS.row KS.iN (by decide);have NZ:sb<w3.heap.size:=hK N1;obtain⟨i0,MB,MI,MJ,K6⟩:=info_parts rq;have OT:=fK G;have L3:=fK KS;clear G DH KS DP K' k1 k2 k3;obtain⟨v4,w4,DM,uN,yg,KV⟩:=jR (P:=ab) (w3.alloc (.cells #[Pt w1.heap.size] 244)) 0 240 240 244 i0 (ag none) 1 8 underlying240 MB MI MJ K6 rfl (by decide) (.slice He s.fN.length tj) jf.length (jm jf) (L3.out.row.alloc _) (gf w3 0) 1 1 [Pt w1.heap.size] rfl (gY (b:=w3) (z:=244) (o:=[Pt w1.heap.size]) (by simp[maxLen])) (by simp[bM]) (by unfold maxLen;omega) (by omega) (be _);have Kc:=fK DM;have J9:=fK KV;clear DM KV;go_wp2_with (first
  |(at_builtin;refine gJ rfl _ _ _ _ rfl _ _ rfl rfl Kc.out ?_;refine Hid.out ?_))
 refine fK ?_;have NU:=ga yg;obtain⟨N2,N3,rfl⟩:=gB uN;have NY:=(NU.block sb NZ (ch Pm)).trans L3.out.iN;have Sg:w4.cell? (Ad sb 11)=some (.slice He s.fN.length tj):=by simp[aD,NY,gh,g_.cells]
 have Tl:mc w4 sb 11:=cx w4 sb 11 _ _ NY;have Pq:jm jf++[Pt w1.heap.size]=jm (jf++[w1.heap.size]):=by simp[jm,vR]
 rw[Pq]at uN;have OX:=fK (D' (c0:=ki fZ addr true size s.now s.c.c1) (HH.out.below HI.out) wU.out rfl OT.out (by omega) NU uN);clear NU yg uN NY OT L3 Pm Pq;go_wp2_with fail;obtain⟨sr,Rj,FH,yf⟩:=OX.out;clear OX;rw[tX]at FH yf;generalize w4.setCell (Ad sb 11) (.slice N2 (s.fN.length+1) N3)=w5 at FH yf⊢;have Po:{ki fZ addr true size s.now s.c.c1 with fM:=jH s.c.c2 [] I'}=iz s fZ addr size true:=by unfold iz;rw[Nu.out];rfl
 rw[Po]at FH;have BS:=DZ (a:=M) (ok:=true) HG.out (by omega) ha NR IK IJ;obtain⟨c,KX⟩:∃c,iz s fZ addr size true=c:=⟨_,rfl⟩;have QU:c.fZ=fZ:=by rw[<-KX];rfl
 have Nc:c.gS=0:=by rw[<-KX];rfl
 rw[KX]at FH BS;have Ql:Hid (qM s fZ addr size b N ii=hY (sF {s with fN:=(s.fN++[c]).set s.fN.length (hE c (gu s.c c))} s.fN.length (hE c (gu s.c c))) s.fN.length b (ig c (gu s.c c) ii) N):=by show _=_;unfold qM;rw[KX]
 clear Po KX;have MC:(s.fN++[c])[s.fN.length]? =some c:=by simp
 have BP:(jf++[w1.heap.size])[s.fN.length]? =some w1.heap.size:=by rw[<-tX];simp
 have BT:(ke++[sr])[s.fN.length]? =some sr:=by rw[<-HH.out.jv];simp
 have Rf:=yf.size;have Re:=HI.out.size;have O1:=fK (sL {s with fN:=s.fN++[c]} s.fN.length c sb w1.heap.size sr ob _ _ _ ov out ii w5 FH MC BP BT HG.out (by omega) BS hM (by omega));have Qr:=fK FH;have Ns:=fK yf;clear FH yf;refine O1.out.mono ?_;rintro e w6 ⟨rfl,QD,Rs,Oj,Pa,BQ,Ph⟩;have OW:=fK Ph;have J':Hid ((.slice N2 (s.fN.length+1) N3:aM).ownBlock=(.slice He s.fN.length tj:aM).ownBlock\/∀g,(.slice N2 (s.fN.length+1) N3:aM).ownBlock=some g->w3.heap.size<=g):=by have h0:=J9.out;rw[tX]at h0;exact h0.imp id fun h g hg=>bZ (by simp) (h g hg)
 clear Ph J9;clear O1;have SW:=oL s.c c;obtain⟨vI,KY⟩:=DW (k:=gu s.c c) BS (by rw[Nc];omega);have NX:(ig c (gu s.c c) ii).length<=1000000:=by
  unfold ig;split
  ·rw[bL];simp;omega
  ·omega
 have K3:(((s.fN++[c]).set s.fN.length (hE c (gu s.c c))).map (·.fZ)).Nodup:=by rw[kr MC KY,List.map_append,cR];refine⟨Qj.out,by simp,fun x hx y hy=>?_⟩;simp at hy;subst hy;rintro rfl;rw[QU]at hx;exact su Pd hx
 have RH:=fK (GF {s with fN:=(s.fN++[c]).set s.fN.length (hE c (gu s.c c))} s.fN.length (hE c (gu s.c c)) sb w1.heap.size sr ob _ _ QD Rs Oj _ w6 Pa (getElem?_set_at MC) BP BT (by simp only;omega));have OI:rZ Z sb (jf++[w1.heap.size]) (ke++[sr]) ob:=HZ.out.snoc (by omega) (by omega);have Pr:mC Z w6 fv b:=by
  refine((Bn.out.below HI.out).gx Ns.out (fun k hk=>?_)).gx BQ (sV OI BP BT);rintro(h|h5)
  ·exact(HZ.out k hk).2.1 h
  ·exact Qv.out k hk h5
 have Rg:=BQ.size;have vu:Hid (∀w8 QE R2 PC,gF w8 (sF {s with fN:=(s.fN++[c]).set s.fN.length (hE c (gu s.c c))} s.fN.length (hE c (gu s.c c))) sb (jf++[w1.heap.size]) (ke++[sr]) QE R2 ob PC (ig c (gu s.c c) ii)->gm (nM sb w1.heap.size sr ob) w6 w8->
   aL ab 160 #[Pt sb,Pt w1.heap.size,fv] w8 fun e w'=>e=.returned (.tuple #[])/\sS w8 sb (jf++[w1.heap.size]) (ke++[sr]) QE s.fN.length w1.heap.size sr ob (hY (sF {s with fN:=(s.fN++[c]).set s.fN.length (hE c (gu s.c c))} s.fN.length (hE c (gu s.c c))) s.fN.length b (ig c (gu s.c c) ii) N) w'):=by
  intro w8 QE R2 PC P3 FK;have Rh:=FK.size;refine uc _ _ _ _ _ _ _ _ _ _ _ _ _ _ _ _ _ P3 (getElem?_set_at (getElem?_set_at MC)) BP BT HG.out ⟨vI.fZ,vI.addr,vI.gR,vI.gS,vI.heard,vI.runs,vI.fS,vI.lu,vI.str⟩ hM (by simp only[sF];omega) (by simp[sF];omega) ?_ OI (Pr.gx FK (sV OI BP BT)) Hm hN (by omega) NX;simp only[sF];rw[kr (j:=hE c (gu s.c c)) (w5:=(yr (s.last+1) (hE c (gu s.c c)))) (getElem?_set_at MC) rfl];exact K3
 have ye:∀k,nM sb w1.heap.size sr ob k->(k=sb\/(.slice He s.fN.length tj:aM).ownBlock=some k\/ob<=k):=by
  rintro k (h|h|h|h)
  ·exact bg h
  ·exact bf (bf (by omega))
  ·exact bf (bf (by omega))
  ·exact bf (bf h)
 have P1:Hid (gm (fun k=>k=sb\/(.slice He s.fN.length tj:aM).ownBlock=some k\/ob<=k) w w6):=by
  refine((gm.fU HI.out).trans (Ns.out.mono fun k _ hk=>?_)).trans (BQ.mono fun k _ hk=>ye k hk);rcases hk with h|h
  ·exact bg h
  ·exact bf (bg h)
 have Ac:=fK ye;clear Pa BQ Pr K3 ye vI BS Qr Ns;obtain⟨Sl,QI,rfl,_⟩:=Bn.out.2;go_wp2_with fail;refine RH.out.mono ?_;rintro e w8 ⟨rfl,P3,FK⟩;clear RH;have RC:=fK (vu.out w8 _ _ _ P3 FK);have RB:=fK (P1.out.trans (FK.mono fun k _ hk=>Ac.out k hk));have Rh:=FK.size;clear vu P3 FK;go_wp2_with fail;refine RC.out.mono ?_;rintro e w7 ⟨rfl,Pe⟩;clear RC;have Qe:=fK Pe;clear Pe;go_wp2_with fail;go_end0;refine⟨rfl,?_⟩;rw[Ql.out];have S5:=Qu.out;rcases Qe.out with⟨NJ,Ok,Gf,NN,FJ,NW⟩|⟨NJ,Ok,Gf,NN,FJ,NW⟩
 ·exact⟨_,_,NJ,Ok,Gf,NN,RB.out.trans (FJ.mono fun k _ hk=>Ac.out k hk),vd (by omega) (by omega) J'.out OW.out NW (by omega) (by omega) (by omega)⟩
 ·exact⟨_,_,NJ,Ok,Gf,NN,RB.out.trans (FJ.mono fun k _ hk=>Ac.out k hk),(vd (by omega) (by omega) J'.out OW.out NW (by omega) (by omega) (by omega)).erase _⟩
theorem vW{y:Int}(z:gF b p a m v q M d out t)(a3:ja p.fN g=none)(A:je b e k)(b8:0<k.length)(S:nF p.c p.now y k=true)(a2:0<=y/\y<256)(R:ly p=true)
  (s:jF p.c) (U:p.fN.length<=1000):
  aL ab 157 #[Pt a,II y,II g,e,h,II l] b fun j o=>j=.returned (.tuple #[])/\Bw b o:=by
 obtain⟨a6,a7,n⟩:=z.view;have D:=jY g n U;rw[a3]at D;have L:Hid (aL ab 158 #[Pt a,II g] b fun j o=>j=.returned (ag none)/\b=o):=D;have E:=vT n.cfg n.now A a2 s.c9;rw[S]at E;have N:=fK E;obtain⟨c2,c4,rfl⟩:=A.form;have b9:=A.2.1;have a9:=s.c1;have b0:=s.c3;have b1:=s.c8;have a8:=s.c0;have O:Hid (∀f,Bw b f->aL ab 121 #[Pt a] f fun j o=>j=.returned (II (ls p))/\∃I,o=f.drewN I):=by intro f B;obtain⟨a0,a1,H⟩:=(z.below B).view;exact oy H (by omega) (by omega) U
 have K:Hid (∀f,Bw b f->aL ab 161 #[Pt a] f fun j o=>j=.returned (II (iT p.c))/\∃I,o=f.drewN I):=by intro f B;obtain⟨a0,a1,H⟩:=(z.below B).view;exact qR H (by omega) (by omega)
 have w:0<=iT p.c/\iT p.c<=5000:=by unfold iT;omega
 have T:0<=ls p/\ls p<=5000000:=by
  unfold ls;have a4:(p.fN.length:Int)<=1000:=by omega
  constructor
  ·exact cU (by omega) w.1
  ·exact cX (cV a4 w.2 w.1 (by omega)) (by decide)
 have V:CI b a 0 p.c.c0:=n.cfg 0 (by decide);have X:CI b a 8 p.c.c8:=n.cfg 8 (by decide);have W:=n.cv;have Y:=ml b;obtain⟨P,C⟩:∃J,iT p.c=J:=⟨_,rfl⟩;obtain⟨mem,G⟩:∃J,ls p=J:=⟨_,rfl⟩;have Z:Hid ((decide (p.c.c0<=(p.fN.length:Int)) || decide (p.c.c8<mem+P))=true):=by rw[<-G,<-C];exact R
 rw[C]at K w;rw[G]at O T;clear D n E z s C G R A S;obtain⟨b2,b3⟩:=w;obtain⟨b6,b7⟩:=T;go_enter func157,ntmps157;go_wp2_with fail;refine L.out.mono ?_;rintro j c6 ⟨rfl,rfl⟩;clear L;go_wp2_with fail;refine N.out.mono ?_;rintro j c5 ⟨rfl,u⟩;clear N;replace V:=fL V u;replace X:=fL X u;replace W:=fL W u;have x:=fK u;clear u Y;rcases bO p.fN.length p.c.c0 with b4|a5
 ·have Q:decide (p.c.c0<=(p.fN.length:Int))=false:=decide_eq_false (by omega);have b5:p.c.c8<mem+P:=by have:=Z.out;rw[Q]at this;simpa using this
  go_wp2_with fail;go_quiet (first
   |(go_at_call 121;exact cP (O.out _ (fQ x.out _)))
   |(go_at_call 161;exact cP (K.out _ (fQ x.out _))))
  go_wp2_with fail;refine cz (dd rfl _ _ _) rfl ?_;exact⟨rfl,fQ x.out _⟩
 ·have Q:decide (p.c.c0<=(p.fN.length:Int))=true:=decide_eq_true a5;go_wp2_with fail;go_quiet (fail);go_wp2_with fail;refine cz (dd rfl _ _ _) rfl ?_;exact⟨rfl,fQ x.out _⟩
def L_(w:aK)(s:gg)(i:Nat)(sb cb:Nat)(jf ke:List Nat)(cv ov:aM)(ob:Nat)(out:List (Int×aM))(ii:List (Int×List Int))(r:Option fV)(e:Ending)(w':aK):Prop:=
 match r with
 |none=>e=.returned (.bool false)/\Below w.heap.size w w'
 |some c'=>e=.returned (.bool true)/\gF w' {s with fN:=s.fN.set i c'} sb jf ke cv ov ob out ii/\gm (· = cb) w w'
theorem Jn(u:gg)(i:Nat)(d:fV)(f:Int)(k cb sr C:Nat)(m g:List Nat)(w t:aM)(out:List (Int×aM))(D:List (Int×List Int))(l:aK)(a:gF l u k m g w t C out D)(hi:u.fN[i]? =some d)(z:m[i]? =some cb)(s:g[i]? =some sr)(B:hS c d)(M:0<=f/\f<=1073741823):
  aL ab 159 #[Pt cb,II f] l fun b v=>L_ l u i k cb m g w t C out D (kI d f) b v:=by
 have x:=a.iq i d cb sr hi z s;obtain⟨X,Q⟩:=x.sr;obtain⟨a1,V,G,j,P,L,O,I⟩:=x;refine(Gt j P M B.runs.1 B.runs.2).mono ?_;intro b v h;unfold kI;cases y:nA d.mark d.runs f with
 |none=>rw[y]at h;exact h
 |some r=>
  obtain⟨Z,a0⟩:=r;rw[y]at h;obtain⟨rfl,e,U,n,o⟩:=h;have p:gm (tt k cb sr t) l v:=e.mono fun Y _ K=>bf (bg K);have A:=fun {b:bG} n o h3 h4=>nm (z:=b) a.iN j Q a.jN n o h3 h4;have N:=lH a.iN j;refine⟨rfl,?_,e⟩;have R:g=g.set i sr:=(ia s).symm;rw[R];refine a.LW hi z s p rfl ?_ (gM a.jN e (fun H q b=>?_)) (a.mM.gx p (A (by decide) (by decide) (by decide) (by decide))) ⟨U,V,G,n,o,L,gM O e (fun H q b=>?_),fun T W E S J=>(I T W E S J).gx p (A (by decide) (by decide) (by decide) (by decide))⟩ (bg rfl)
  ·rw[e.block k (bn.1 a.iN).1 N];exact a.iN
  ·subst b;exact fR a.jN j (by decide) q
  ·simp only[aq,Option.some.injEq]at q;grind
def Kg(sb:Nat)(jf ke:List Nat)(cv:aM)(ob:Nat)(k:Nat):Prop:=k=sb\/k∈jf\/k∈ke\/cv.ownBlock=some k\/ob<=k
def lg(w:aK)(sb:Nat)(jf ke:List Nat)(cv:aM)(ob:Nat)(r:gg×List (Int×List Int))(w':aK):Prop:=
 ∃oF tq zu uV nX,gF w' r.1 sb oF tq zu uV ob nX r.2/\gm (Kg sb jf ke cv ob) w w'/\Bs ob jf ke cv oF tq zu
theorem lg.same{f:aM}(h:gF w s a m v e f d out t)(c:Bw w b):lg w a m v e d (s,t) b:=
 ⟨m,v,e,f,out,h.below c,gm.fU c,Bs.refl _ _ _ _⟩
theorem lg.leaves(o:n<=w.heap.size)(h:Leaves w a m v e cb sr n s t b)(h1:cb∈m\/cb=a)(h2:sr∈v\/sr=a):lg w a m v e n (s,t) b:=by
 obtain⟨g,q,p,j,k,l⟩:=h;refine⟨m,v,g,q,p,j,k.mono fun f _ d=>?_,fun f d=>bg d,fun f d=>bg d,(qK l o).2⟩;rcases d with c|c|c|c
 ·exact bg c
 ·subst c;rcases h1 with h1|h1
  ·exact bf (bg h1)
  ·exact bg h1
 ·subst c;rcases h2 with h2|h2
  ·exact bf (bf (bg h2))
  ·exact bg h2
 ·exact bf (bf (bf (bf c)))
theorem Jy{z2:List Int}(n:gF b p d m v q M f out t)(J:je b e k)(Y:rZ L d m v f)(Z:∀o,L o->q.ownBlock≠some o)(a7:mC L b h z2)
  (x:jF p.c) (a4:p.fN.length<=990) {u:Int} (O:u<=1125899906842624) (W:1000<=u) (b3:∀y∈p.fN,hS u y/\y.gR+l<=u) (A:0<=c/\c<256) (Q:0<=g/\g<=1073741823) (I:0<=l/\l<=u) (H:0<=p.now/\p.now<=1000000000) (a3:0<=p.last/\p.last<=1125899906841000) (a5:(p.fN.map (·.fZ)).Nodup) (a0:z2.length<=1073741823) (X:z2.length<=a) (z:f<=b.heap.size) (a6:t.length<=999999):
  aL ab 157 #[Pt d,II c,II g,e,h,II l] b fun j s=>j=.returned (.tuple #[])/\lg b d m v q f (lW p c g l k z2 a t) s:=by
 have b8:∀{r:gg×List (Int×List Int)} {s:aK},(∃E K G V U,gF s r.1 d E K G V f U r.2/\gm (fun o=>o=d\/q.ownBlock=some o\/f<=o) b s/\Bs f m v q E K G)->lg b d m v q f r s:=by
  rintro r s ⟨E,K,G,V,U,a9,b0,b4⟩;refine⟨E,K,G,V,U,a9,b0.mono fun o _ b1=>?_,b4⟩;rcases b1 with j|j|j
  ·exact bg j
  ·exact bf (bf (bf (bg j)))
  ·exact bf (bf (bf (bf j)))
 unfold lW;cases w:ja p.fN g with
 |some o=>
  have b2:o<p.fN.length:=by have R:=w;unfold ja at R;rw[cQ]at R;exact R.1
  have b6:=n.iD;have b7:=n.jv;obtain⟨y,P⟩:∃y,p.fN[o]? =some y:=⟨_,ap b2⟩;obtain⟨cb,a1⟩:∃cb,m[o]? =some cb:=⟨_,ap (by omega)⟩;obtain⟨sr,a8⟩:∃sr,v[o]? =some sr:=⟨_,ap (by omega)⟩;have a2:=b3 y (bS P);simp only[P];refine(Cm n P a1 a8 w x a2.1 O ⟨I.1,a2.2⟩ H (by omega) z (by omega)).mono ?_;rintro j s ⟨rfl,N⟩;exact⟨rfl,lg.leaves z N (bg (bS a1)) (bg (bS a8))⟩
 |none=>
  simp only;by_cases D:0<k.length
  ·rw[if_pos D];cases S:nF p.c p.now c k
   ·rw[if_neg (by decide)];refine(GC n w J D S x A (by omega)).mono ?_;rintro j s ⟨rfl,B⟩;exact⟨rfl,lg.same n B⟩
   ·rw[if_pos rfl];cases C:ly p
    ·rw[if_neg (by decide)];refine(vY n w J D S C x a4 O A Q I H a3 a5 Y Z a7 a0 X z a6 W).mono ?_;grind
    ·rw[if_pos rfl];refine(vW n w J D S A C x (by omega)).mono ?_;rintro j s ⟨rfl,B⟩;exact⟨rfl,lg.same n B⟩
  ·rw[if_neg D];obtain⟨b9,c2,rfl⟩:=J.form;have b5:k.length=0:=by omega
   rw[b5];by_cases T:p.c.c5<=oX p.fN
   ·rw[if_pos T];refine(Cl n w T x A Q ⟨I.1,by omega⟩ H (by omega) z (by omega)).mono ?_;rintro j s ⟨rfl,N⟩;exact⟨rfl,lg.leaves z N (bf rfl) (bf rfl)⟩
   ·rw[if_neg T];cases C:ly p
    ·rw[if_neg (by decide)];refine(vX n w (by omega) C x a4 O A Q I H ⟨a3.1,by omega⟩ a5 Y Z a7 a0 X z a6 W).mono ?_;grind
    ·rw[if_pos rfl];refine(vV n w (by omega) C x (by omega)).mono ?_;rintro j s ⟨rfl,B⟩;exact⟨rfl,lg.same n B⟩
end Go.Proofs.YthmdjhlhodpbhaaGreatDoor
