/- Comes, part 14 -/
import Derived.LaidEqlPtr
import Derived.Test.YthmdjhlhodpbhaaGreatDoorM13
set_option maxHeartbeats 16000000
set_option maxRecDepth 8000
namespace Go.Proofs.YthmdjhlhodpbhaaGreatDoor
open Go.RowKit
open _root_.List renaming getElem?_eq_getElem → am, getElem?_eq_some_iff → bm, getElem?_append_left → aw, getElem?_append_right → aF, mem_of_getElem? → bT, getElem_of_mem → dr, findIdx?_eq_none_iff → cU, length_eraseIdx → cE, findIdx?_eq_some_iff_getElem → dR, length_eq_zero_iff → dI, filter_cons → dU, filter_eq_self → dV, append_nil → dW, getElem?_zip_eq_some → dX, mem_or_eq_of_mem_set → da, length_append → aT, drop_drop → dY, getElem?_cons_zero → cz, map_fst_zip → d', length_filter_le → bY
open _root_.Or renaming inl → a_, inr → aV
open _root_.Nat renaming le_trans → cw, lt_or_ge → aD, le_refl → ay, lt_of_lt_of_le → cq, le_of_lt → dS, le_add_right → dZ
open _root_.Array renaming getElem?_eq_some_iff → aO
open _root_.And renaming intro → ce
open Go.Builtin renaming append_ → bF, len_ → eh
open Go.IntKind renaming wrap_i64 → di
open Go.Value renaming slice → cX, cells → eg
open Go.Maps renaming int_keyed → dF
open Go.Calls renaming quiet_of → d_
open _root_.Int renaming mul_nonneg → ec, mul_le_mul → ef
open Go.World renaming cell? → aX
open Go.Region renaming wanted → bn
open Go.Instr renaming slice → dA
open _root_.Go.Proofs.Tryz
open _root_.Go.Proofs.Tryz renaming prog → ae
open Go.Value renaming int → af, slice → aj, pointer → ai
open Go.IntKind renaming i64 → ag
variable {w w':World}{sb cm N i cb k q b B base n j N' p N0 b1:Nat}{wv v kV:Value}{xs nl:List iP}{gP ws iW nS:List Nat}{s s':ik}{c:gZ}{a a':iP}{g:jG}{gN x:List (Int×List Int)}{M now L gL lw size addr:Int}{F A:Nat->Prop}{e K t:TypeId}{cur:Array Value}{fr:Nat×Nat}{P:Program}{ok:Bool}
def Cr(w:World)(b:Nat):Prop:=∃cs t,w.heap[b]? =some (.cells cs t (0,0))
theorem UQ(hp:Cr w p)(hq:Cr w q):(binOp .eql 97 (ai (some ⟨p,0,none⟩)) (ai (some ⟨q,0,none⟩))).run ae w=.ok (.bool (decide (p=q))) w:=by
 obtain⟨j,hj,hz⟩:∃j,ae.info? 137=some j/\j.size≠0:=by
  have h:(ae.info? 137).map (fun i=>i.size)=some 24:=by kernel_rfl
  cases hi:ae.info? 137 with
  |none=>rw[hi]at h;cases h
  |some j=>rw[hi]at h;simp at h;exact⟨j,rfl,by omega⟩
 by_cases h:p=q
 ·subst h;rw[decide_eq_true rfl];exact run_eql_ptr_same w ⟨p,0,none⟩ underlying97 hj
 ·rw[decide_eq_false h];obtain⟨c1,t1,h1⟩:=hp;obtain⟨c2,t2,h2⟩:=hq;exact run_eql_ptr_other w underlying97 hj hz (fun e=>h (by injection e)) h1 h2
theorem FR(p q pb:Nat)(w:World)(hp:Cr w p)(hq:Cr w q)(hc:w.cell? ⟨pb,0,none⟩= some (ai (some ⟨q,0,none⟩))):
  Calls ae 100 #[ai (some ⟨p,0,none⟩),ai (some ⟨pb,0,none⟩)] w fun e w'=>e=.returned (.bool (decide (p=q)))/\w=w':=by
 have he:=UQ hp hq;clear hp hq;generalize decide (p=q)=B at he⊢;go_enter func100,ntmps100;go_wp2_with fail;go_ret;exact⟨rfl,rfl⟩
def L6(l:List Nat)(q:Nat):Int:=match l.findIdx? fun b=>b==q with
 |some k=>k
 |none=>-1
theorem F8(ws:List Nat)(lv:Value)(q pb:Nat)(w:World)(gY:w.ownsRow 0 97 1 lv ws.length (kF ws))(hn:ws.length<=1000)(hb:∀b∈ws,Cr w b)(hq:Cr w q)(hc:w.cell? ⟨pb,0,none⟩= some (ai (some ⟨q,0,none⟩))):
  Calls ae 153 #[lv,.func (.func 100) #[] #[ai (some ⟨pb,0,none⟩)]] w fun e w'=>e=.returned (af ag (L6 ws q))/\w=w':=by
 obtain⟨ao,cap,rfl⟩:=iA gY;have HO:=gE gY;have HS:=gE (fun p hp=>FR p q pb w (hb p hp) hq hc);clear gY hb hq hc;go_enter func153,ntmps153;go_wp2_with fail
 go_loop [8] (fun i=>∃k:Nat,k<=ws.length/\i=af ag k/\Hid (∀(j:Nat) b,j<k->ws[j]? =some b->b≠q)) (fun i=>ws.length-(intOf i).toNat)
 case atStart=>exact⟨0,Nat.zero_le _,rfl,fun j b hj=>by omega⟩
 case round=>
  obtain⟨k,hk,rfl,ka⟩:=hrel;by_cases jp:k<ws.length
  ·obtain⟨p,hp⟩:∃p,ws[k]? =some p:=⟨_,am jp⟩;rcases HO.out.2 with⟨_,h0⟩|⟨g,n_,cur,e3,_,hg,s_,nN,lF,pd⟩
   ·omega
   simp only[Value.slice.injEq]at e3;obtain⟨rfl,_,rfl⟩:=e3
   have c1:w.cell? ⟨g,k,none⟩= some (ai (some ⟨p,0,none⟩)):=by
    rw[HO.out.cellAt k (by omega)];simp[kF,hp,AN]
   have HC:=gE (HS.out p (bT hp));have HP:=gE hp;have HN:=gE ka;clear hg pd lF nN hp ka;go_wp2_with fail;refine HC.out.mono ?_;rintro e w1 ⟨rfl,rfl⟩;clear HC c1;by_cases Ei:p=q
   ·rw[decide_eq_true Ei];go_wp2_with fail;go_ret;refine⟨?_,rfl⟩
    have hf:ws.findIdx? (fun b=>b==q)=some k:=by
     rw[dR];refine⟨jp,?_,fun j hj=>?_⟩
     ·have:=HP.out;rw[am jp]at this;simp only[Option.some.injEq]at this;simp[this,Ei]
     ·have:=HN.out j _ hj (am (Nat.lt_trans hj jp));simpa using this
    unfold L6;rw[hf]
    rfl
   ·rw[decide_eq_false Ei];go_wp2_with fail
    go_round
    case rel=>
     refine⟨k+1,by omega,by go_num,fun j b hj hb=>?_⟩;rcases aD j k with h3|h3
     ·exact HN.out j b h3 hb
     ·obtain rfl:j=k:=by omega
      obtain rfl:=Option.some.inj (HP.out.symm.trans hb);exact Ei
    case measure=>simp[intOf];omega
  ·obtain rfl:k=ws.length:=by omega
   have HN:=gE ka;clear ka;go_wp2_with fail;go_ret;refine⟨?_,rfl⟩
   have hf:ws.findIdx? (fun b=>b==q)=none:=by
    rw[cU];intro b hb;obtain⟨j,hj,rfl⟩:=dr hb;have:=HN.out j _ hj (am hj);simpa using this
   unfold L6;rw[hf]
   rfl
def lz(ws:List Nat)(q j:Nat):List Nat:=(ws.take j).filter fun b=>b != q
theorem wQ(h:ws[j]? =some p):lz ws q (j+1)=lz ws q j++if p=q then [] else [p]:=by
 unfold lz;rw[List.take_add_one,h,List.filter_append];by_cases e:p=q
 ·simp[e]
 ·simp[e]
theorem Mb(ws:List Nat)(q j:Nat):(lz ws q j).length<=j:=by
 unfold lz;have:=bY (fun b=>b != q) (ws.take j);simp at this;omega
theorem Fx(h:ws[k]? =some q)(hk:k<j)(hj:j<=ws.length):(lz ws q j).length<j:=by
 induction j with
 |zero=>omega
 |succ j ih=>
  obtain⟨p,hp⟩:∃p,ws[j]? =some p:=⟨_,am (by omega)⟩;rw[wQ hp];rcases aD k j with h1|h1
  ·have:=ih h1 (by omega)
   split<;>simp<;>omega
  ·obtain rfl:k=j:=by omega
   rw[h]at hp;simp only[Option.some.injEq]at hp;subst hp;simp;have:=Mb ws q k;omega
theorem Ma(ws:List Nat)(q:Nat):lz ws q ws.length=ws.filter fun b=>b != q:=by unfold lz;rw[List.take_length]
theorem Px(h:q∉ws):L6 ws q = -1/\(ws.filter fun b=>b != q)=ws:=by
 constructor
 ·unfold L6;rw[cU.2 (fun b hb=>by simp;intro e;exact h (e▸hb))]
 ·rw[dV];intro b hb;simp;intro e;exact h (e▸hb)
theorem Py(h:q∈ws):∃k,L6 ws q=(k:Nat)/\ws[k]? =some q/\lz ws q (k+1)=ws.take k:=by
 cases hf:ws.findIdx? (fun b=>b==q) with
 |none=>
  rw[cU]at hf;have:=hf q h;simp at this
 |some k=>
  obtain⟨hk,h1,h2⟩:=dR.1 hf;have hq:ws[k]? =some q:=by rw[am hk];simpa using h1
  refine⟨k,by unfold L6;rw[hf],hq,?_⟩;rw[wQ hq,if_pos rfl,dW];unfold lz;rw[dV];intro b hb;obtain⟨j,hj,rfl⟩:=dr hb;have DV:j<k:=by simp at hj;omega
  have:=h2 j DV;simp at this⊢;exact this
def ot(w:World)(b:Nat):Prop:=∃cs,w.heap[b]? =some (.cells cs 137 (0,0))
theorem ot.i_(h:ot w b):Cr w b:=by obtain⟨cs,h⟩:=h;exact⟨cs,_,h⟩
theorem ot.kept{g:Nat}(h:ot w b)(hg:w.heap[g]? =some (.cells cur 97 (0,0)))(hw:w.grownBy w' (some g)):ot w' b:=by
 obtain⟨cs,h⟩:=h;refine⟨cs,?_⟩;rw[hw.block b (aO.1 h).1 (fun e=>?_)]
 ·exact h
 ·injection e with e
  subst e;rw[h]at hg;simp only[Option.some.injEq,Obj.cells.injEq]at hg;exact absurd hg.2.1 (by decide)
theorem PJ:(ae.info? 97).map (fun i=>(i.zero,i.size,i.bytes))=some (some (ai none),1,8):=by kernel_rfl
theorem Bp(w:World):(Go.sizeOf 97).run ae w=.ok 1 w:=by kernel_rfl
theorem QF(w:World):(zeroValue 97).run ae w=.ok (ai none) w:=by kernel_rfl
theorem F1(ws:List Nat)(lv:Value)(q pb:Nat)(w:World)(gY:w.ownsRow 0 97 1 lv ws.length (kF ws))(hn:ws.length<=1000)(hb:∀b∈ws,ot w b)(hq:ot w q)(hc:w.cell? ⟨pb,0,none⟩= some (ai (some ⟨q,0,none⟩)))(Yz:lv.ownBlock≠some pb):
  Calls ae 99 #[lv,.func (.func 100) #[] #[ai (some ⟨pb,0,none⟩)]] w fun e w'=>∃iX,e=.returned iX/\w'.ownsRow 0 97 1 iX (ws.filter fun b=>b != q).length (kF (ws.filter fun b=>b != q))/\w.grownBy w' lv.ownBlock/\iX.ownBlock=lv.ownBlock:=by
 have HI:=gE (F8 ws lv q pb w gY hn (fun b h=>(hb b h).i_) hq.i_ hc);by_cases hm:q∈ws
 ·obtain⟨k,pJ,rp,NL⟩:=Py hm;rw[pJ]at HI;have yu:=(bm.1 rp).1;rcases gY.2 with⟨_,h0⟩|⟨g,cap,cur,rfl,_,hg,s_,nN,lF,pd⟩
  ·omega
  have ab5:Hid (∀(wr:World) (p:Nat),w.grownBy wr (some g)->p∈ws->Calls ae 100 #[ai (some ⟨p,0,none⟩),ai (some ⟨pb,0,none⟩)] wr fun e w'=>e=.returned (.bool (decide (p=q)))/\wr=w'):=by
   intro wr p hw hp;refine FR p q pb wr ((hb p hp).kept hg hw).i_ (hq.kept hg hw).i_ ?_;rw[World.cell?_of_block (a:=⟨pb,0,none⟩) (w:=w) (hw.block pb (jh hc) (fun e=>Yz e.symm))];exact hc
  obtain⟨n,Im⟩:∃n,ws.length=n:=⟨_,rfl⟩;have KI:=gE Im;have H0:Hid (w.ownsRow 0 97 1 (aj (some ⟨g,0,none⟩) n cap) n (kF ws)):=by rw[Im]at gY;exact gY
  rw[Im]at HI hn s_ yu⊢;have O8:cap<=9223372036854775807:=by unfold maxLen at nN;omega
  have HCm:=gE nN;have HK2:=gE rp;have HK3:=gE NL;have u1:=run_underlying underlying99;clear gY hb hq hc Yz hm pJ rp NL pd lF nN Im;go_enter func99,ntmps99;go_wp2_with fail;refine HI.out.mono ?_;rintro e w1 ⟨rfl,rfl⟩;clear HI;have Sk:((k:Int) == -1)=false:=beq_eq_false_iff_ne.2 (by omega);go_wp2_with fail
  go_loopw [5,6] (fun iv jv wr=>∃(j:Nat) (L:List Nat),k+1<=j/\j<=n/\jv=af ag j/\iv=af ag ((lz ws q j).length:Nat)/\Hid (wr.ownsRow 0 97 1 (aj (some ⟨g,0,none⟩) n cap) n (kF L)/\L.length=n/\L.take (lz ws q j).length=lz ws q j/\L.drop j=ws.drop j/\w.grownBy wr (some g))) (fun _ jv _=>n-(intOf jv).toNat)
  case atStart=>
   refine⟨k+1,ws,ay _,yu,by go_num,?_,H0.out,KI.out,?_,rfl,?_⟩
   ·rw[HK3.out];have:=KI.out
    congr 1
    simp;omega
   ·rw[HK3.out];simp
   ·exact⟨rfl,rfl,rfl,ay _,fun _ _ _=>rfl⟩
  case round=>
   obtain⟨j,L,NK,DV,rfl,rfl,HR⟩:=hrel;by_cases jp:j<n
   ·obtain⟨p,hp⟩:∃p,ws[j]? =some p:=⟨_,am (by rw[KI.out];exact jp)⟩
    have hLp:L[j]? =some p:=by
     have h1:(L.drop j)[0]? =(ws.drop j)[0]?:=by rw[HR.out.2.2.2.1]
     rw[List.getElem?_drop,List.getElem?_drop,Nat.add_zero]at h1;rw[h1,hp]
    have c1:wr.cell? ⟨g,j,none⟩= some (ai (some ⟨p,0,none⟩)):=by
     rw[HR.out.1.cellAt j (by omega)];simp[kF,hLp,AN]
    have HC:=gE (ab5.out wr p HR.out.2.2.2.2 (bT hp));have ZZ:(lz ws q j).length<j:=Fx HK2.out (by omega) (by rw[KI.out];omega);have HS:=gE (wQ (q:=q) hp);have HLp:=gE hLp;clear hLp hp;by_cases Ei:p=q
    ·rw[decide_eq_true Ei]at HC
     have K0:Hid (lz ws q (j+1)=lz ws q j):=by
      show _=_;rw[HS.out,if_pos Ei,dW]
     clear HS;have HPQ:=gE Ei;clear Ei;have HM:=gE ZZ;generalize Wt:(lz ws q j).length=m at *
     have HGm:=gE Wt;clear Wt ZZ;go_wp2_with fail;refine HC.out.mono ?_;rintro e w2 ⟨rfl,rfl⟩;clear HC;go_wp2_with fail
     go_roundw
     case rel=>
      obtain⟨r1,r2,r3,r4,r5⟩:=HR.out;refine⟨j+1,L,by omega,by omega,by go_num,by rw[K0.out,HGm.out],r1,r2,by rw[K0.out,HGm.out];exact r3,?_,r5⟩;rw[<-dY,<-dY,r4]
     case measure=>simp[intOf];omega
    ·rw[decide_eq_false Ei]at HC
     have K0:Hid (lz ws q (j+1)=lz ws q j++[p]):=by
      show _=_;rw[HS.out,if_neg Ei]
     obtain⟨r1,r2,r3,r4,r5⟩:=HR.out;have B_:(lz ws q j).length<L.length:=by omega
     have d1:∃yB,wr.cell? ⟨g,(lz ws q j).length,none⟩= some yB:=by
      rw[r1.cellAt _ (by omega)];exact⟨_,am (by rw[Bj];exact B_)⟩
     obtain⟨yB,d1⟩:=d1;obtain⟨Bx,pr⟩:=ii r1 rfl;have z1:wr.frozen? ⟨g,(lz ws q j).length,none⟩= false:=frozen_of_row wr g _ _ _ pr;have tH:=gE (r1.stored (lz ws q j).length (ai (some ⟨p,0,none⟩)));have HT3:=gE (ce r2 (ce r3 (ce r4 r5)));clear r1 r2 r3 r4 r5 HS pr Ei HR;have HMl:=gE B_;have HMj:=gE ZZ;generalize Wt:(lz ws q j).length=m at d1 z1 tH HT3 HMl HMj⊢;have HGm:=gE Wt;have hmn:(m:Int)<(n:Int):=by have:=HMj.out;omega
     clear Wt ZZ B_;go_wp2_with fail;refine HC.out.mono ?_;rintro e w2 ⟨rfl,rfl⟩;clear HC;go_wp2_with fail
     go_roundw
     case rel=>
      obtain⟨r2,r3,r4,r5⟩:=HT3.out;refine⟨j+1,L.set m p,by omega,by omega,by go_num,?_,?_,by simp[r2],?_,?_,?_⟩
      ·rw[K0.out,aT,HGm.out]
       go_num
      ·have h1:=tH.out.1;have h2:(kF L).set m (ai (some ⟨p,0,none⟩))=kF (L.set m p):=by simp[kF,AN,List.map_set]
       rw[h2]at h1;exact h1
      ·rw[K0.out,aT,HGm.out];simp only[List.length_cons,List.length_nil,Nat.zero_add];rw[List.take_add_one,List.take_set_of_le (ay _),r3,List.getElem?_set_self (by have:=HMl.out;omega)]
       rfl
      ·rw[List.drop_set_of_lt (by have:=HMj.out;omega),<-dY,<-dY,r4]
      ·refine mm r5 tH.out.2 (a_ rfl)
     case measure=>simp[intOf];omega
   ·obtain rfl:j=n:=by omega
    obtain⟨r1,r2,r3,r4,r5⟩:=HR.out;have ZZ:(lz ws q j).length<j:=Fx HK2.out (by omega) (by rw[KI.out];omega);rcases r1.2 with⟨e,_⟩|⟨g',n_,Bx,e,_,pr,ad1,acz,aa8,abB⟩
    ·cases e
    simp only[Value.slice.injEq,Option.some.injEq,Addr.mk.injEq,and_true,true_and]at e;obtain⟨rfl,rfl⟩:=e
    have Oh:Hid (lz ws q j=ws.filter fun b=>b != q):=by
     show _=_;rw[<-Ma,KI.out]
    obtain⟨m,Wt⟩:∃m,(lz ws q j).length=m:=⟨_,rfl⟩;rw[Wt]at r3 ZZ⊢
    have ad6:∀W:World,(dA 99 (aj (some ⟨g,0,none⟩) j cap) (some (af ag (m:Int))) none none).run ae W=.ok (aj (some ⟨g,m,none⟩) (j-m) (cap-m)) W:=fun W=>by
     rw[sU W underlying99 (Bp W) (by omega),if_neg (by omega)];simp[Addr.add_lit]
    have ad7:∀W:World,(dA 99 (aj (some ⟨g,0,none⟩) j cap) none (some (af ag (m:Int))) none).run ae W=.ok (aj (some ⟨g,0,none⟩) m cap) W:=fun W=>by
     have h1:m<=cap:=by omega
     simp[dA,Instr.sliceBounds,Instr.sliceBound,asIntOf,run_underlying underlying99,Bp W,h1,Addr.add]
    have aag:=gE (fun ty=>sQ (P:=ae) wr 99 97 ty (ai none) underlying99 (QF wr) g m (j-m) (cap-m) (by omega) Bx 97 pr (by simp[eg];omega) (by simp[eg,Value.oneCell']));have ZM:(List.replicate (j-m) (Value.pointer none).cells.toList).flatten.length=j-m:=by simp[eg]
    obtain⟨ZS,hZS⟩:∃ZS,(List.replicate (j-m) (Value.pointer none).cells.toList).flatten=ZS:=⟨_,rfl⟩;rw[hZS]at aag ZM
    have nZ:Hid ((wr.setRow g (gW Bx.toList m ZS).toArray).ownsRow 0 97 1 (aj (some ⟨g,0,none⟩) m cap) (ws.filter fun b=>b != q).length (kF (ws.filter fun b=>b != q))/\w.grownBy (wr.setRow g (gW Bx.toList m ZS).toArray) (some g)):=by
     have i8:(ws.filter fun b=>b != q).length=m:=by rw[<-Oh.out,Wt]
     rw[i8];have NS:(gW Bx.toList m ZS).length=Bx.toList.length:=iD (by rw[ZM];simp;omega);refine⟨⟨by rw[Bj,i8];omega,.inr ⟨g,cap,_,rfl,Nat.zero_le _,setRow_heap wr g Bx _ _ _ pr,by omega,HCm.out,by rw[List.size_toArray,NS];simpa using aa8,?_⟩⟩,?_⟩
     ·rw[Nat.mul_one]
      have h1:(gW Bx.toList m ZS).take m=Bx.toList.take m:=by
       unfold gW;rw[List.append_assoc,List.take_append_of_le_length (by simp;omega),List.take_take,Nat.min_self]
      have h2:Bx.toList.take m=(kF L).take m:=by
       rw[<-abB,List.take_take,Nat.mul_one,Nat.min_eq_left (by omega)]
      have h3:(kF L).take m=kF (L.take m):=by simp[kF]
      show(gW Bx.toList m ZS).toArray.toList.take m=_;rw[List.toList_toArray,h1,h2,h3,r3,Oh.out]
     ·refine mm r5 (w2:=wr.setRow g (gW Bx.toList m ZS).toArray) (G9:=some g) ⟨rfl,rfl,rfl,by simp[World.setRow],fun k _ hk=>setRow_other wr g k _ (fun e=>hk (by rw[e]))⟩ (a_ rfl)
    clear r1 r2 r3 r4 r5 pr aa8 abB acz ZM hZS HR Oh;go_wp2_with (refine lC rfl _ 99 rfl _ rfl (aag.out _) ?_;refine Hid.out ?_);refine gE ?_;go_wp2_with fail;go_ret;exact⟨_,rfl,nZ.out.1,nZ.out.2,rfl⟩
 ·obtain⟨e1,e2⟩:=Px hm;rw[e1]at HI;rw[e2];obtain⟨ao,cap,rfl⟩:=iA gY;have HO:=gE gY;clear gY hb hq hc Yz hm e1 e2;go_enter func99,ntmps99;go_wp2_with fail;refine HI.out.mono ?_;rintro e w1 ⟨rfl,rfl⟩;clear HI;go_wp2_with fail;go_ret;exact⟨_,rfl,HO.out,⟨rfl,rfl,rfl,ay _,fun _ _ _=>rfl⟩,rfl⟩
def sM(g:jG)(now:Int)(cm:Nat)(wv:Value):Array Value:=
 #[af ag g.c0,af ag g.c1,af ag g.c2,af ag g.c3,af ag g.c4,af ag g.c5,af ag g.c6,af ag g.c7,af ag g.c8,af ag g.c9,af ag now,.map (some cm),wv]
def pt(w:World)(sb:Nat)(g:jG)(now:Int)(cm:Nat)(wv:Value):Prop:=w.heap[sb]? =some (.cells (sM g now cm wv) 101 (0,0))
theorem pt.cell(h:pt w sb g now cm wv)(i:Nat):w.cell? ⟨sb,i,none⟩=(sM g now cm wv)[i]?:=by
 unfold pt at h;simp only[aX,h]
 rfl
theorem pt.free(h:pt w sb g now cm wv)(i:Nat):w.frozen? ⟨sb,i,none⟩= false:=frozen_of_row w sb i _ _ h
theorem pt.lt(h:pt w sb g now cm wv):sb<w.heap.size:=(aO.1 h).1
theorem pt.iO(h:pt w sb g now cm wv)(hc:ip F w w')(hF:¬F sb):pt w' sb g now cm wv:=by
 unfold pt;rw[hc.block sb h.lt hF];exact h
theorem pt.below(h:pt w sb g now cm wv)(hb:Below w.heap.size w w'):pt w' sb g now cm wv:=h.iO (F:=fun _=>False) (ip.gS hb) (fun h=>h)
theorem AY(sb:Nat)(g:jG)(now:Int)(cm:Nat)(wv:Value)(w:World)(h:pt w sb g now cm wv)(h1:0<=g.c1/\g.c1<=1073741823)(h3:0<=g.c3/\g.c3<=1073741823):
  Calls ae 55 #[ai (some ⟨sb,0,none⟩)] w fun e w'=>e=.returned (af ag (jZ g))/\∃q,w'=w.drewN q:=by
 have d1:w.cell? ⟨sb,1,none⟩= some (af ag g.c1):=h.cell 1;have d3:w.cell? ⟨sb,3,none⟩= some (af ag g.c3):=h.cell 3;have w1:IntKind.i64.wrap (64+g.c1)=64+g.c1:=by rw[di];omega
 have w2:IntKind.i64.wrap (32*g.c3)=32*g.c3:=by rw[di];omega
 have w3:IntKind.i64.wrap (64+g.c1+32*g.c3)=64+g.c1+32*g.c3:=by rw[di];omega
 clear h;unfold jZ;go_enter func55,ntmps55;go_wp2_with fail
 go_quiet (fail)
 go_wp2_with fail;go_ret;exact⟨rfl,_,rfl⟩
theorem xd(sb:Nat)(g:jG)(now:Int)(cm:Nat)(wv:Value)(n:Nat)(l:List (Int×Nat))(w:World)(h:pt w sb g now cm wv)(hm:kG nv ae 3 w cm n l)(hl:l.length<=1000)(h1:0<=g.c1/\g.c1<=4096)(h3:0<=g.c3/\g.c3<=8):
  Calls ae 28 #[ai (some ⟨sb,0,none⟩)] w fun e w'=>e=.returned (af ag (l.length*jZ g))/\∃q,w'=w.drewN q:=by
 have QM:w.cell? ⟨sb,11,none⟩= some (.map (some cm)):=h.cell 11;have HC:=gE (AY sb g now cm wv w h (by omega) (by omega));have mH:0<=jZ g/\jZ g<=5000:=by unfold jZ;omega
 have hw:IntKind.i64.wrap ((l.length:Int)*jZ g)=l.length*jZ g:=by
  have h4:0<=(l.length:Int)*jZ g:=ec (by omega) mH.1;have h5:(l.length:Int)*jZ g<=1000*5000:=ef (by omega) mH.2 mH.1 (by omega);rw[di];omega
 have HM:=gE hm;generalize jZ g=C at HC hw⊢;clear h hm mH;go_enter func28,ntmps28
 go_wp2_with (first
  |(at_len;refine KC _ rfl _ 98 rfl 97 underlying98 cm n l rfl HM.out ?_))
 refine HC.out.mono ?_;rintro e w1 ⟨rfl,q,rfl⟩;clear HC;go_wp2_with fail;go_ret;exact⟨rfl,q,rfl⟩
structure zd(w:World)(sb:Nat)(g:jG)(now:Int)(cm:Nat)(wv:Value)(nS:List Nat)(e:Ending)(w':World):Prop where
 ret:e=.returned (.tuple #[])
 ex:∃kV,pt w' sb g now cm kV/\w'.ownsRow 0 97 1 kV nS.length (kF nS)/\(kV.ownBlock=wv.ownBlock\/∀k,kV.ownBlock=some k->w.heap.size<=k)
 iO:ip (fun k=>k=sb\/wv.ownBlock=some k) w w'
theorem FQ(sb:Nat)(g:jG)(now:Int)(cm:Nat)(wv:Value)(ws:List Nat)(cb:Nat)(w:World)(h:pt w sb g now cm wv)(gY:w.ownsRow 0 97 1 wv ws.length (kF ws))(hn:ws.length<=1000):
  Calls ae 146 #[ai (some ⟨sb,0,none⟩),ai (some ⟨cb,0,none⟩)] w fun e w'=>zd w sb g now cm wv (ws++[cb]) e w':=by
 obtain⟨i0,hi,mB,kS,ln⟩:=info_parts PJ;obtain⟨ao,cap,rfl⟩:=iA gY;have Nz:w.cell? ⟨sb,12,none⟩= some (.slice ao ws.length cap):=h.cell 12;have ny:Below w.heap.size w (w.alloc (.cells #[ai (some ⟨cb,0,none⟩)] 97)):=gH w _
 have HAp:Hid (∀ty,∃v' w',(bF #[99,99] ty #[.slice ao ws.length cap,aj (some ⟨w.heap.size,0,none⟩) 1 1]).run ae (w.alloc (.cells #[ai (some ⟨cb,0,none⟩)] 97))=.ok v' w'/\w'.ownsRow 0 97 1 v' (ws.length+1) (kF ws++[ai (some ⟨cb,0,none⟩)])/\(w.alloc (.cells #[ai (some ⟨cb,0,none⟩)] 97)).grownBy w' (cX ao ws.length cap).ownBlock/\(v'.ownBlock=(cX ao ws.length cap).ownBlock\/∀g,v'.ownBlock=some g->(w.alloc (.cells #[ai (some ⟨cb,0,none⟩)] 97)).heap.size<=g)):=
  fun ty=>lJ (P:=ae) _ 0 99 ty 97 i0 (ai none) 1 8 underlying99 hi mB kS ln rfl (by decide) _ ws.length (kF ws) (iB gY ny) ⟨w.heap.size,0,none⟩ 1 1 [ai (some ⟨cb,0,none⟩)] rfl (iZ w 97 [ai (some ⟨cb,0,none⟩)] (by simp[maxLen])) (by simp[Value.oneCell']) (by unfold maxLen;omega) (by omega) (Nat.zero_le _)
 have HH:=gE h;have HO:=gE gY;obtain⟨n,Im⟩:∃n,ws.length=n:=⟨_,rfl⟩;have KI:=gE Im;rw[Im]at Nz HAp HH HO⊢;have KQ:(cX ao n cap).ownBlock≠some sb:=gO HO.out HH.out (by decide);clear h gY Im;obtain⟨v',w1,kk,tP,pr,aaM⟩:=HAp.out 99;obtain⟨va,vc,rfl⟩:=iA tP;have mZ:=gU pr
 have yT:pt w1 sb g now cm (.slice ao n cap):=by
  unfold pt;rw[mZ.block sb HH.out.lt (fun e=>KQ e.symm)];exact HH.out
 have e12:w1.cell? ⟨sb,12,none⟩= some (.slice ao n cap):=yT.cell 12;have z12:=yT.free 12
 have HE:Hid (zd w sb g now cm (.slice ao n cap) (ws++[cb]) (.returned (.tuple #[])) (w1.setCell ⟨sb,12,none⟩ (.slice va (n+1) vc))):=by
  have sk:pt (w1.setCell ⟨sb,12,none⟩ (.slice va (n+1) vc)) sb g now cm (.slice va (n+1) vc):=gQ yT 12 _;refine⟨rfl,⟨_,sk,?_,?_⟩,?_⟩
  ·have h2:kF ws++[ai (some ⟨cb,0,none⟩)]=kF (ws++[cb]):=by simp[kF,AN]
   rw[h2]at tP;have h3:(ws++[cb]).length=n+1:=by simp[KI.out]
   rw[h3];have hh:w1.heap[sb]? =some (.cells (sM g now cm (.slice ao n cap)) 101 (0,0)):=yT;exact ownsRow_setCell_other tP (gO tP hh (by decide)) _
  ·rcases aaM with h1|h1
   ·exact a_ h1
   ·exact aV fun k hk=>by have:=h1 k hk;simp at this;omega
  ·have km:ip (fun k=>k=sb\/(cX ao n cap).ownBlock=some k) w w1:=⟨mZ.os,mZ.tape,mZ.output,mZ.size,fun k hk js=>mZ.block k hk (fun e=>js (aV e.symm))⟩;exact km.trans ((iu (Below.refl _ _) 12 _).mono fun k _ e=>a_ e)
 have Rk:=gE kk;clear kk tP pr aaM mZ yT HAp HO HH ny KQ;go_enter func146,ntmps146
 go_wp2_with (first
  |(at_builtin;refine iY rfl _ _ 99 99 rfl _ _ rfl rfl Rk.out ?_;refine Hid.out ?_))
 refine gE ?_;go_wp2_with fail
 go_end0
 exact HE.out
theorem rJ(sb:Nat)(g:jG)(now:Int)(cm:Nat)(wv:Value)(ws:List Nat)(cb:Nat)(w:World)(h:pt w sb g now cm wv)(gY:w.ownsRow 0 97 1 wv ws.length (kF ws))(hn:ws.length<=1000)(hb:∀b∈ws,ot w b)(hq:ot w cb):
  Calls ae 50 #[ai (some ⟨sb,0,none⟩),ai (some ⟨cb,0,none⟩)] w fun e w'=>zd w sb g now cm wv (ws.filter fun b=>b != cb) e w':=by
 have ny:Below w.heap.size w (w.alloc (.cells #[ai (some ⟨cb,0,none⟩)] 97)):=gH w _
 have jz:∀b,ot w b->ot (w.alloc (.cells #[ai (some ⟨cb,0,none⟩)] 97)) b:=by
  rintro b ⟨cs,hc⟩;exact⟨cs,by rw[ny.block b (aO.1 hc).1];exact hc⟩
 have Yz:wv.ownBlock≠some w.heap.size:=fun e=>by have:=(gY.lt _ e).2;omega
 have HD:=gE (F1 ws wv cb w.heap.size _ (iB gY ny) hn (fun b DT=>jz b (hb b DT)) (jz cb hq) (by simp) Yz);obtain⟨ao,cap,rfl⟩:=iA gY;have rW:=h.below ny;have Nz:(w.alloc (.cells #[ai (some ⟨cb,0,none⟩)] 97)).cell? ⟨sb,12,none⟩= some (.slice ao ws.length cap):=rW.cell 12;have KQ:(cX ao ws.length cap).ownBlock≠some sb:=gO gY h (by decide)
 have oE:Hid (∀(w1:World) (kV:Value),w1.ownsRow 0 97 1 kV (ws.filter fun b=>b != cb).length (kF (ws.filter fun b=>b != cb))->(w.alloc (.cells #[ai (some ⟨cb,0,none⟩)] 97)).grownBy w1 (cX ao ws.length cap).ownBlock->kV.ownBlock=(cX ao ws.length cap).ownBlock->pt w1 sb g now cm (.slice ao ws.length cap)/\zd w sb g now cm (.slice ao ws.length cap) (ws.filter fun b=>b != cb) (.returned (.tuple #[])) (w1.setCell ⟨sb,12,none⟩ kV)):=by
  intro w1 kV ho hg kP;have mZ:=gU hg
  have yT:pt w1 sb g now cm (.slice ao ws.length cap):=by
   unfold pt;rw[mZ.block sb h.lt (fun e=>KQ e.symm)];exact h
  have hh:w1.heap[sb]? =some (.cells (sM g now cm (.slice ao ws.length cap)) 101 (0,0)):=yT;refine⟨yT,rfl,⟨_,gQ yT 12 _,ownsRow_setCell_other ho (gO ho hh (by decide)) _,a_ kP⟩,?_⟩;have km:ip (fun k=>k=sb\/(cX ao ws.length cap).ownBlock=some k) w w1:=⟨mZ.os,mZ.tape,mZ.output,mZ.size,fun k hk js=>mZ.block k hk (fun e=>js (aV e.symm))⟩;exact km.trans ((iu (Below.refl _ _) 12 _).mono fun k _ e=>a_ e)
 generalize ws.filter (fun b=>b != cb)=nS at HD oE⊢;obtain⟨n,Im⟩:∃n,ws.length=n:=⟨_,rfl⟩;rw[Im]at Nz HD oE⊢;clear h gY Im hb hq jz Yz rW KQ ny hn;go_enter func50,ntmps50;go_wp2_with fail;refine HD.out.mono ?_;rintro e w1 ⟨kV,rfl,ho,hg,kP⟩;obtain⟨yT,hwo⟩:=oE.out w1 kV ho hg kP;obtain⟨va,vc,rfl⟩:=iA ho;have e12:w1.cell? ⟨sb,12,none⟩= some (.slice ao n cap):=yT.cell 12;have z12:=yT.free 12;have HE:=gE hwo;clear ho hg kP yT hwo HD oE;go_wp2_with fail
 go_end0
 exact HE.out
theorem Gd(cb:Nat)(b:Bool)(w:World)(d:w.cell? ⟨cb,12,none⟩= some (.bool b)):
  Calls ae 42 #[ai (some ⟨cb,0,none⟩)] w fun e w'=>e=.returned (.bool b)/\w=w':=by
 go_enter func42,ntmps42;go_wp2_with fail;go_ret;exact⟨rfl,rfl⟩
def yf(pv:Nat->Bool)(l:List (Int×Nat)):Nat:=l.countP fun p=>!pv p.2
theorem RF(pv:Nat->Bool)(r1 r2:List (Int×Nat))(k:Int)(y:Nat):yf pv (r1++(k,y)::r2)=yf pv (r1++r2)+if pv y then 0 else 1:=by
 unfold yf;rw[List.countP_append,List.countP_cons,List.countP_append]
 cases pv y<;>simp<;>omega
theorem UK(pv:Nat->Bool)(l:List (Int×Nat)):yf pv l<=l.length:=List.countP_le_length
theorem EB(sb:Nat)(g:jG)(now:Int)(cm:Nat)(wv:Value)(n:Nat)(l:List (Int×Nat))(pv:Nat->Bool)(w:World)(h:pt w sb g now cm wv)(hm:kG nv ae 3 w cm n l)(hs:∀p∈l,w.cell? ⟨p.2,12,none⟩= some (.bool (pv p.2)))(hl:l.length<=1000):
  Calls ae 92 #[ai (some ⟨sb,0,none⟩)] w fun e w'=>e=.returned (af ag (yf pv l:Nat))/\Below w.heap.size w w':=by
 have QM:w.cell? ⟨sb,11,none⟩= some (.map (some cm)):=h.cell 11;have mx:=UK pv l;have HM:=gE hm;have HS:=gE hs;clear h hm hs;go_enter func92,ntmps92
 go_wp2_with (first
  |(at_range;refine qV _ rfl _ 98 rfl 97 underlying3 underlying98 cm n l rfl HM.out ?_;intro w0 BH Fo yX))
 have kf:Below w.heap.size w w0:=oK Fo;have H0:=gE (ce BH kf);clear BH Fo yX kf QM
 go_frame
 go_loopw [3] (fun s wr=>∃(rest:List (Int×Nat)) (rN c:Nat),jX nv ae 3 wr cm w.heap.size n l rest rN/\s=af ag (c:Nat)/\Hid (c+yf pv rest=yf pv l)/\Hid (∀p∈rest,p∈l)/\Below w.heap.size w wr) (fun _ wr=>wr.rangeLeft cm w.heap.size)
 case atStart=>exact⟨l,_,0,H0.out.1,rfl,gE (Nat.zero_add _),fun p hp=>hp,H0.out.2⟩
 case round=>
  obtain⟨rest,rN,c,zE,rfl,WM,vj,lS⟩:=hrel;have DQ:=gE lS;have TM:=gE zE;clear lS
  go_wp2_with (first
   |(at_next;refine sf _ rfl _ rfl underlying3 cm w.heap.size n l rest rN rfl zE ?_ ?_))
  ·intro Ef;subst Ef;have hc:c=yf pv l:=by have:=WM.out;simpa[yf] using this
   go_wp2_with fail;go_ret;exact⟨by rw[hc];rfl,DQ.out⟩
  ·intro k y r1 r2 w1 zj BG Vs kP zF jp pr uD Jl;have Sl:(k,y)∈l:=vj.out _ (by rw[BG];simp);have im:Below w.heap.size w w1:=DQ.out.grown pr DQ.out.size (fun g hg=>by cases hg;exact ay _);have jk:w1.cell? ⟨y,12,none⟩= some (.bool (pv y)):=gF (HS.out (k,y) Sl) im;have qF:=RF pv r1 r2 k y;rw[<-BG]at qF;have xF:Hid (∀p∈r1++r2,p∈l):=fun p hp=>vj.out p (by rw[BG];simp at hp⊢;rcases hp with h|h<;>simp[h])
   have lF:=WM.out;have HE:=gE (Gd y (pv y) w1 jk);have H1:=gE (ce zF (ce im (ce jp xF)))
   cases hp:pv y with
   |true=>
    rw[hp]at HE
    have HN:Hid (c+yf pv (r1++r2)=yf pv l):=by
     show _=_;rw[hp]at qF;simp at qF;omega
    clear qF im jk Sl zF jp xF pr uD kP lF hp;go_wp2_with fail;refine HE.out.mono ?_;rintro e w2 ⟨rfl,rfl⟩;clear HE;go_wp2_with fail
    go_roundw
    case rel=>exact⟨r1++r2,zj,c,H1.out.1,rfl,HN,H1.out.2.2.2,H1.out.2.1⟩
    case measure=>
     have h1:=H1.out.1.left_eq;have h2:=TM.out.left_eq;have h3:=H1.out.2.2.1;rw[h1,h2];exact h3
   |false=>
    rw[hp]at HE
    have HN:Hid (c+1+yf pv (r1++r2)=yf pv l):=by
     show _=_;rw[hp]at qF;simp at qF;omega
    have jJ:(c:Int)<=1000:=by omega
    clear qF im jk Sl zF jp xF pr uD kP lF hp;go_wp2_with fail;refine HE.out.mono ?_;rintro e w2 ⟨rfl,rfl⟩;clear HE;go_wp2_with fail
    go_roundw
    case rel=>exact⟨r1++r2,zj,c+1,H1.out.1,by go_num,HN,H1.out.2.2.2,H1.out.2.1⟩
    case measure=>
     have h1:=H1.out.1.left_eq;have h2:=TM.out.left_eq;have h3:=H1.out.2.2.1;rw[h1,h2];exact h3
structure jt(N:Nat)(w:World)(sb:Nat)(s:ik)(cm:Nat)(wv:Value)(gP:List Nat)(xs:List iP)(ws:List Nat):Prop where
 i_:pt w sb s.c s.now cm wv
 map:∃n,n<=N/\kG nv ae 3 w cm n ((s.gG.map (·.gL)).zip gP)
 j7:gP.length=s.gG.length
 lA:xs.length=s.gG.length
 kH:∀(i:Nat) c cb a,s.gG[i]? =some c->gP[i]? =some cb->xs[i]? =some a->jE N w cb s.c c a
 row:w.ownsRow 0 97 1 wv ws.length (kF ws)
 wait:∃cs,mg s.gG cs/\ws.length=cs.length/\∀(j:Nat) b,ws[j]? =some b->∃(i:Nat) (c:gZ),s.gG[i]? =some c/\gP[i]? =some b/\cs[j]? =some c.gL
 apart:∀(i j:Nat) cb a OE a',i≠j->gP[i]? =some cb->xs[i]? =some a->gP[j]? =some OE->xs[j]? =some a'->∀k,jH cb a k->¬jH OE a' k
 GN:∀(i:Nat) cb a,gP[i]? =some cb->xs[i]? =some a->¬jH cb a cm
def lh(sb cm:Nat)(wv:Value)(gP:List Nat)(xs:List iP)(k:Nat):Prop:=k=sb\/k=cm\/wv.ownBlock=some k\/∃(i:Nat) (cb:Nat) (a:iP),gP[i]? =some cb/\xs[i]? =some a/\jH cb a k
theorem y7(h:jE N w cb g c a)(hk:jH cb a k):k<w.heap.size:=by
 obtain⟨vs,sW⟩:=h.pk;obtain⟨n1,_,qq⟩:=h.zW;obtain⟨n2,_,tx⟩:=h.Bz;rcases hk with rfl|e|rfl|rfl|⟨p,hp,e⟩
 ·exact h.i_.lt
 ·exact(sW.own.lt _ e).2
 ·exact qq.lt
 ·exact tx.lt
 ·obtain⟨_,x,hx,_⟩:=h.mp.str p hp;have hs:=h.str p hp x hx;rcases e with rfl|e
  ·exact hs.lt
  ·obtain⟨Uc,tP⟩:=hs.own;exact(tP.lt _ e).2
theorem mP(h:jE N w cb g c a)(hk:w.heap[k]? =some (.cells cur e fr))(h1:e≠137)(h2:e≠279)(h3:e≠204)(h4:e≠259):¬jH cb a k:=by
 obtain⟨vs,sW⟩:=h.pk;obtain⟨n1,_,qq⟩:=h.zW;obtain⟨n2,_,tx⟩:=h.Bz;rintro(rfl|e'|rfl|rfl|⟨p,hp,e'⟩)
 ·have h5:=h.i_;unfold iG at h5;rw[h5]at hk;simp only[Option.some.injEq,Obj.cells.injEq]at hk;exact h1 hk.2.1.symm
 ·exact gO sW.own hk (fun e=>h2 e.symm) e'
 ·obtain⟨es,ck,hb⟩:=qq.kY;rw[hb]at hk
  cases hk
 ·obtain⟨es,ck,hb⟩:=tx.kY;rw[hb]at hk
  cases hk
 ·obtain⟨_,x,hx,_⟩:=h.mp.str p hp;have hs:=h.str p hp x hx;rcases e' with rfl|e'
  ·rw[hs.i_]at hk;simp only[Option.some.injEq,Obj.cells.injEq]at hk;exact h3 hk.2.1.symm
  ·obtain⟨Uc,tP⟩:=hs.own;exact gO tP hk (fun e=>h4 e.symm) e'
theorem jt.step{c':gZ}(h:jt N w sb s cm wv gP xs ws)(hN:N<=N')(hi:s.gG[i]? =some c)(jJ:gP[i]? =some cb)(ha:xs[i]? =some a)
  (hc:ip (jH cb a) w w') (hA:jE N' w' cb s.c c' a') (nz:∀k,jH cb a' k->jH cb a k\/w.heap.size<=k) (kb:c'.gL=c.gL) (hw:c'.waits=c.waits):
  jt N' w' sb {s with gG:=s.gG.set i c'} cm wv gP (xs.set i a') ws:=by
 have hC:=h.kH i c cb a hi jJ ha;obtain⟨n,hn,hm⟩:=h.map;have xF:¬jH cb a sb:=mP hC h.i_ (by decide) (by decide) (by decide) (by decide);have LR:({s with gG:=s.gG.set i c'}:ik).gG.map (·.gL)=s.gG.map (·.gL):=mn hi kb;obtain⟨cs,sk,uf,vQ⟩:=h.wait;refine⟨h.i_.iO hc xF,⟨n,cw hn hN,?_⟩,by simp[h.j7],by simp[h.lA],fun j d db b hj zz hb=>?_,jg h.row hc (fun k hk hF=>?_),⟨cs,sk.same (QC hi hw kb),uf,fun j b hb=>?_⟩,fun j l TS a1 Wd a2 qp e1 e2 e3 e4 k pJ rp=>?_,fun j db b zz hb hF=>?_⟩
 ·rw[LR];exact hm.same (hc.block cm hm.lt (h.GN i cb a jJ ha))
 ·by_cases C2:j=i
  ·subst C2;simp only at hj;rw[getElem?_set_at hi]at hj;rw[getElem?_set_at ha]at hb;rw[jJ]at zz;simp only[Option.some.injEq]at hj hb zz;subst hj hb zz;exact hA
  ·simp only at hj;rw[getElem?_set_other C2]at hj;rw[getElem?_set_other C2]at hb;have hD:=h.kH j d db b hj zz hb;exact(hD.iO hc (fun k hk=>h.apart j i db b cb a C2 zz hb jJ ha k hk) (fun k cur fr hk=>Ah hC hk)).mono hN
 ·obtain⟨c1,e1⟩:=ii h.row hk;exact mP hC e1 (by decide) (by decide) (by decide) (by decide) hF
 ·obtain⟨l,d,h1,h2,h3⟩:=vQ j b hb;by_cases Ph:l=i
  ·subst Ph;rw[hi]at h1;simp only[Option.some.injEq]at h1;subst h1;exact⟨l,c',getElem?_set_at hi,h2,by rw[kb];exact h3⟩
  ·exact⟨l,d,by simp only;rw[getElem?_set_other Ph];exact h1,h2,h3⟩
 ·by_cases C2:j=i
  ·subst C2;rw[getElem?_set_at ha]at e2;simp only[Option.some.injEq]at e2;subst e2;have hlj:l≠j:=fun e=>qp e.symm
   rw[getElem?_set_other hlj]at e4;rw[jJ]at e1;simp only[Option.some.injEq]at e1;subst e1;rcases nz k pJ with h1|h1
   ·exact h.apart j l cb a Wd a2 qp jJ ha e3 e4 k h1 rp
   ·obtain⟨d,hd⟩:∃d,s.gG[l]? =some d:=⟨_,am (by rw[<-h.j7];exact(bm.1 e3).1)⟩;have:=y7 (h.kH l d Wd a2 hd e3 e4) rp;omega
  ·rw[getElem?_set_other C2]at e2;by_cases Ph:l=i
   ·subst Ph;rw[getElem?_set_at ha]at e4;simp only[Option.some.injEq]at e4;subst e4;rw[jJ]at e3;simp only[Option.some.injEq]at e3;subst e3;rcases nz k rp with h1|h1
    ·exact h.apart j l TS a1 cb a qp e1 e2 jJ ha k pJ h1
    ·obtain⟨d,hd⟩:∃d,s.gG[j]? =some d:=⟨_,am (by rw[<-h.j7];exact(bm.1 e1).1)⟩;have:=y7 (h.kH j d TS a1 hd e1 e2) pJ;omega
   ·rw[getElem?_set_other Ph]at e4;exact h.apart j l TS a1 Wd a2 qp e1 e2 e3 e4 k pJ rp
 ·by_cases C2:j=i
  ·subst C2;rw[getElem?_set_at ha]at hb;simp only[Option.some.injEq]at hb;subst hb;rw[jJ]at zz;simp only[Option.some.injEq]at zz;subst zz;rcases nz cm hF with h1|h1
   ·exact h.GN j cb a jJ ha h1
   ·have:=hm.lt;omega
  ·rw[getElem?_set_other C2]at hb;exact h.GN j db b zz hb hF
theorem jt.below(h:jt N w sb s cm wv gP xs ws)(hb:Below w.heap.size w w'):jt N w' sb s cm wv gP xs ws:=by
 obtain⟨n,hn,hm⟩:=h.map;exact⟨h.i_.below hb,⟨n,hn,hm.same (hb.block cm hm.lt)⟩,h.j7,h.lA,fun i c cb a h1 h2 h3=>(h.kH i c cb a h1 h2 h3).below hb,iB h.row hb,h.wait,h.apart,h.GN⟩
theorem jt.look(h:jt N w sb s cm wv gP xs ws)(tz:(s.gG.map (·.gL)).Nodup)(gL:Int):
  (gL∉s.gG.map (·.gL)/\rV ((s.gG.map (·.gL)).zip gP) gL=none)\/∃(i:Nat) (c:gZ) (cb:Nat) (a:iP),s.gG[i]? =some c/\c.gL=gL/\gP[i]? =some cb/\xs[i]? =some a/\rV ((s.gG.map (·.gL)).zip gP) gL=some cb:=by
 have hk:((s.gG.map (·.gL)).zip gP).map (·.1)=s.gG.map (·.gL):=by
  rw[d'];simp[h.j7]
 by_cases hm:gL∈s.gG.map (·.gL)
 ·right
  obtain⟨c,hc,e⟩:=List.mem_map.1 hm;obtain⟨i,yt,rfl⟩:=dr hc;have h1:i<gP.length:=by rw[h.j7];exact yt
  have h2:i<xs.length:=by rw[h.lA];exact yt
  refine⟨i,s.gG[i],gP[i],xs[i],am yt,e,am h1,am h2,?_⟩;refine u9 (by rw[hk];exact tz) ?_;refine bT (i:=i) ?_;rw[dX];exact⟨by simp[am yt,e],am h1⟩
 ·left
  refine⟨hm,un.2 ?_⟩;rw[hk];exact hm
def qz(xs:List iP)(k:Nat):Prop:=∃a∈xs,a.u k
theorem Ga(h:jt N w sb s cm wv gP xs ws)(hk:qz xs k):k<w.heap.size:=by
 obtain⟨a,ha,hu⟩:=hk;obtain⟨i,hi,rfl⟩:=dr ha;have h1:i<s.gG.length:=by rw[<-h.lA];exact hi
 have h2:i<gP.length:=by rw[h.j7];exact h1
 exact(h.kH i _ _ _ (am h1) (am h2) (am hi)).ul k hu
theorem za(ha:xs[i]? =some a)(hu:Ou B a a'):∀k,qz (xs.set i a') k->qz xs k\/B<=k:=by
 rintro k ⟨d,hd,hk⟩;rcases da hd with h1|rfl
 ·exact a_ ⟨d,h1,hk⟩
 ·exact(hu k hk).imp (fun h2=>⟨a,bT ha,h2⟩) id
theorem Cw:∀k,qz (xs.eraseIdx i) k->qz xs k:=by
 rintro k ⟨d,hd,hk⟩;exact⟨d,(List.eraseIdx_sublist xs i).subset hd,hk⟩
def tg(A:Nat->Prop)(w:World)(base:Nat)(v:Value)(gN:List (Int×List Int)):Prop:=∃out,w.ownsRow base 60 2 v out.length (g_ out)/\mV w base out gN/\∀(i:Nat) x k,out[i]? =some x->x.2.ownBlock=some k->¬A k
theorem mV.ge{out:List (Int×Value)}(h:mV w base out gN){x:Int×Value}(hx:out[i]? =some x)(hk:x.2.ownBlock=some k):base<=k/\k<w.heap.size:=by
 have yt:i<gN.length:=by rw[<-h.1];exact(bm.1 hx).1
 exact(h.2.1 i x gN[i] hx (am yt)).2.lt k hk
theorem tg.of(h:jW w base v gN)(hA:∀k,base<=k->¬A k):tg A w base v gN:=by
 obtain⟨out,h1,h2⟩:=h;exact⟨out,h1,h2,fun i x k hx hk=>hA k (h2.ge hx hk).1⟩
theorem tg.none(h:jW w base v gN)(h0:gN=[]):tg A w base v gN:=by
 obtain⟨out,h1,h2⟩:=h;subst h0;obtain rfl:out=[]:=dI.1 h2.1;exact⟨[],h1,h2,fun i x k hx=>(by simp at hx)⟩
theorem tg.at(h:tg A w base v gN):jW w base v gN:=by
 obtain⟨out,h1,h2,_⟩:=h;exact⟨out,h1,h2⟩
theorem tg.mono{b':Nat}(h:tg A w b v gN)(hb:b'<=b):tg A w b' v gN:=by
 obtain⟨out,h1,h2,h3⟩:=h;exact⟨out,iE h1 hb,h2.mono hb,h3⟩
structure kw(N:Nat)(w:World)(sb cm:Nat)(wv:Value)(gP:List Nat)(xs:List iP)(r:ik×List (Int×List Int))(e:Ending)(w':World):Prop where
 ex:∃v kV iW nl nS,e=.returned v/\tg (qz nl) w' w.heap.size v r.2/\jt N w' sb r.1 cm kV iW nl nS/\(∀k,lh sb cm kV iW nl k->lh sb cm wv gP xs k\/w.heap.size<=k)/\∀k,qz nl k->qz xs k\/w.heap.size<=k
 iO:ip (lh sb cm wv gP xs) w w'
theorem kw.ret{r:ik×List (Int×List Int)}{e:Ending}(h:kw N w sb cm wv gP xs r e w'):∃v,e=.returned v/\jW w' w.heap.size v r.2:=by
 obtain⟨v,_,_,_,_,e,ho,_⟩:=h.ex;exact⟨v,e,ho.at⟩
theorem kw.WX(h0:jt N0 w sb s cm wv gP xs ws)(ho:jW w' w.heap.size v gN)(hP:jt N w' sb s' cm kV iW nl nS)(nz:∀k,lh sb cm kV iW nl k->lh sb cm wv gP xs k\/w.heap.size<=k)(hu:∀k,qz nl k->qz xs k)(hc:ip (lh sb cm wv gP xs) w w'):kw N w sb cm wv gP xs (s',gN) (.returned v) w':=
 ⟨⟨v,kV,iW,nl,nS,rfl,tg.of ho (fun k hk hA=>by have:=Ga h0 (hu k hA);omega),hP,nz,fun k hk=>a_ (hu k hk)⟩,hc⟩
theorem kw.mk0(ho:jW w' w.heap.size v gN)(h0:gN=[])(hP:jt N w' sb s' cm kV iW nl nS)(nz:∀k,lh sb cm kV iW nl k->lh sb cm wv gP xs k\/w.heap.size<=k)(hu:∀k,qz nl k->qz xs k\/w.heap.size<=k)(hc:ip (lh sb cm wv gP xs) w w'):kw N w sb cm wv gP xs (s',gN) (.returned v) w':=
 ⟨⟨v,kV,iW,nl,nS,rfl,tg.none ho h0,hP,nz,hu⟩,hc⟩
theorem pu(h1:gP[i]? =some cb)(h2:xs[i]? =some a)(hk:jH cb a k):lh sb cm wv gP xs k:=aV (aV (aV ⟨i,cb,a,h1,h2,hk⟩))
theorem y_(h1:gP[i]? =some cb)(h2:xs[i]? =some a)(nz:∀k,jH cb a' k->jH cb a k\/B<=k):∀k,lh sb cm wv gP (xs.set i a') k->lh sb cm wv gP xs k\/B<=k:=by
 rintro k (e|e|e|⟨j,db,b,e1,e2,e3⟩)
 ·exact a_ (a_ e)
 ·exact a_ (aV (a_ e))
 ·exact a_ (aV (aV (a_ e)))
 ·by_cases C2:j=i
  ·subst C2;rw[getElem?_set_at h2]at e2;simp only[Option.some.injEq]at e2;subst e2;rw[h1]at e1;simp only[Option.some.injEq]at e1;subst e1;rcases nz k e3 with h3|h3
   ·exact a_ (pu h1 h2 h3)
   ·exact aV h3
  ·rw[getElem?_set_other C2]at e2;exact a_ (pu e1 e2 e3)
theorem BR(N:Nat)(sb:Nat)(s:ik)(cm:Nat)(wv:Value)(gP:List Nat)(xs:List iP)(ws:List Nat)(i cb:Nat)(c:gZ)(a:iP)(addr size:Int)(d:EX)(tv fv:Value)(w:World)(h:jt N w sb s cm wv gP xs ws)(hi:s.gG[i]? =some c)(jJ:gP[i]? =some cb)(ha:xs[i]? =some a)(hg:nx s.c)(jR:ke M c)(hM:M+size<=1125899906842624)(ku:0<=size)(Cb:∃ta tl tc,tv=.slice ta tl tc)(Yu:∃ta tl tc,fv=.slice ta tl tc):
  Calls ae 89 #[ai (some ⟨sb,0,none⟩),ai (some ⟨cb,0,none⟩),af ag addr,.agg (xq d size tv fv)] w fun e w'=>kw N w sb cm wv gP xs (mh s i c addr size []) e w':=by
 obtain⟨t1,t2,t3,rfl⟩:=Cb;obtain⟨f1,f2,f3,rfl⟩:=Yu;have hC:=h.kH i c cb a hi jJ ha;have zB:=jR.jc;have C8:=jR.jb;have kb:=jR.gL;have pX:=jR.addr;have ny:Below w.heap.size w (w.alloc (.cells #[af ag d.kind,af ag size,af ag d.gL,.slice t1 t2 t3,af ag d.num,.slice f1 f2 f3] 107)):=gH w _;have lY:=hC.i_.below ny;have Uj:=gE (zh cb s.c c _ _ _ _ _ lY)
 have hsc:sb≠cb:=by
  intro e;have h1:=h.i_;have h2:=hC.i_;unfold pt at h1;unfold iG at h2;rw[e,h2]at h1;simp only[Option.some.injEq,Obj.cells.injEq]at h1;exact absurd h1.2.1 (by decide)
 have Re:Hid (∀(W:World) (c':gZ),iG W cb s.c c' a.k_ a.sm a.dm (kU c.gJ)->ip (· = cb) w W->c'.gJ=c.gJ->c'.runs=c.runs->c'.gL=c.gL->c'.waits=c.waits->jt N W sb {s with gG:=s.gG.set i c'} cm wv gP (xs.set i a) ws/\ip (lh sb cm wv gP xs) w W):=by
  intro W c' hb hc hs hr LL hw;have nr:ip (jH cb a) w W:=hc.mono fun k _ e=>a_ e
  exact⟨h.step (ay _) hi jJ ha nr (hC.Kd hc hb hs hr) (fun k hk=>a_ hk) LL hw,nr.mono fun k _ hk=>pu jJ ha hk⟩
 have Cf:xs.set i a=xs:=jw ha
 have Uz:Hid (∀(W:World) (c':gZ) (gN:List (Int×List Int)) (v:Value),iG W cb s.c c' a.k_ a.sm a.dm (kU c.gJ)->ip (· = cb) w W->c'.gJ=c.gJ->c'.runs=c.runs->c'.gL=c.gL->c'.waits=c.waits->jW W w.heap.size v gN->kw N w sb cm wv gP xs ({s with gG:=s.gG.set i c'},gN) (.returned v) W):=by
  intro W c' gN v hb hc hs hr LL hw ho;obtain⟨q1,q2⟩:=Re.out W c' hb hc hs hr LL hw;rw[Cf]at q1;exact kw.WX h ho q1 (fun k hk=>a_ hk) (fun k hk=>hk) q2
 unfold xq;by_cases js:c.addr=addr
 ·have rW:=h.i_.below ny;have HGt:=gE (CD cb s.c c _ _ _ _ size _ lY ⟨zB.1,by omega⟩ ⟨ku,by omega⟩);have VX:=gE (fun(W:World) (hb:iG W cb s.c {c with jc:=c.jc+size} a.k_ a.sm a.dm (kU c.gJ))=>An cb s.c _ _ _ _ _ s.now W hb);have E2:=gE (fun(W:World) (hb:iG W cb s.c {c with jc:=c.jc+size,heard:=s.now} a.k_ a.sm a.dm (kU c.gJ))=>wn cb s.c _ _ _ _ _ W hb);have QJ:=gE (fun(W:World) (hb:iG W cb s.c {c with jc:=c.jc+size,heard:=s.now} a.k_ a.sm a.dm (kU c.gJ))=>zi cb s.c _ _ _ _ _ W hb hg pX kb ⟨by simp only;omega,by simp only;omega⟩ ⟨C8.1,by simp only;omega⟩)
  have EY:Hid (mh s i c addr size []=if c.gT then({s with gG:=s.gG.set i {c with jc:=c.jc+size,heard:=s.now}},[]) else({s with gG:=s.gG.set i (jK {c with jc:=c.jc+size,heard:=s.now} (ir s.c {c with jc:=c.jc+size,heard:=s.now}))},kB {c with jc:=c.jc+size,heard:=s.now} (ir s.c {c with jc:=c.jc+size,heard:=s.now}) [])):=by
   show _=_;unfold mh;rw[if_neg (by simp[js])]
  obtain⟨R,hR⟩:∃R,mh s i c addr size []=R:=⟨_,rfl⟩;rw[hR]at EY⊢;have DZ:=gE rW;have pQ:=gE ny;clear hR h hC jR hg zB C8 kb pX lY rW Re Cf;go_enter func89,ntmps89;go_wp2_with fail;refine Uj.out.mono ?_;rintro e w1 ⟨rfl,rfl⟩;clear Uj ny;go_wp2_with fail;refine HGt.out.mono ?_;rintro e w2 ⟨rfl,iT,nr⟩;have mc:=gE iT;have Ai:=gE nr;have d10:w2.cell? ⟨sb,10,none⟩= some (af ag s.now):=(DZ.out.iO nr hsc).cell 10;clear iT nr HGt;go_wp2_with fail;refine(VX.out w2 mc.out).mono ?_;rintro e w3 ⟨rfl,mw,rE⟩;have ya:=gE mw;have Cp:Hid (ip (· = cb) w w3):=((ip.gS pQ.out).trans Ai.out).trans rE;clear mw rE VX mc d10 DZ Ai;go_wp2_with fail;refine(E2.out w3 ya.out).mono ?_;rintro e w4 ⟨rfl,rfl⟩;clear E2
  cases hp:c.gT with
  |true=>
   have HE:Hid (kw N w sb cm wv gP xs R (.returned (aj none 0 0)) w3):=by
    rw[EY.out,if_pos hp];exact Uz.out w3 _ [] _ ya.out Cp.out rfl rfl rfl rfl (jW.nil _ _)
   clear Uz EY QJ;go_wp2_with fail;go_ret;exact HE.out
  |false=>
   have HT:=gE (QJ.out w3 ya.out)
   have aad:Hid (R=({s with gG:=s.gG.set i (jK {c with jc:=c.jc+size,heard:=s.now} (ir s.c {c with jc:=c.jc+size,heard:=s.now}))},kB {c with jc:=c.jc+size,heard:=s.now} (ir s.c {c with jc:=c.jc+size,heard:=s.now}) [])):=by
    show _=_;rw[EY.out,if_neg (by rw[hp];decide)]
   clear EY QJ;go_wp2_with fail;refine HT.out.mono ?_;intro e w5 ho;obtain⟨v,rfl,hv⟩:=ho.ret;have hfm:∃va vl vc,v=.slice va vl vc:=by obtain⟨x,y,e⟩:=hv.form;exact⟨_,_,_,e⟩
   have HE:Hid (kw N w sb cm wv gP xs R (.returned v) w5):=by
    rw[aad.out];have KQ:=qH {c with jc:=c.jc+size,heard:=s.now} (ir s.c {c with jc:=c.jc+size,heard:=s.now})
    have Pr:(jK {c with jc:=c.jc+size,heard:=s.now} (ir s.c {c with jc:=c.jc+size,heard:=s.now})).gJ=c.gJ/\(jK {c with jc:=c.jc+size,heard:=s.now} (ir s.c {c with jc:=c.jc+size,heard:=s.now})).runs=c.runs:=by
     unfold jK
     split<;>exact⟨rfl,rfl⟩
    exact Uz.out w5 _ _ v ho.i_ (Cp.out.trans ho.iO) Pr.1 Pr.2 KQ.1 KQ.2.1 (hv.mono Cp.out.size)
   obtain⟨va,vl,vc,rfl⟩:=hfm;clear ho hv HT Uz aad;go_wp2_with fail;go_ret;exact HE.out
 ·have EY:Hid (mh s i c addr size []=(s,[])):=by
   show _=_;unfold mh;rw[if_pos js]
  have HE:Hid (∀W,Below w.heap.size w W->kw N w sb cm wv gP xs (s,[]) (.returned (aj none 0 0)) W):=fun W hW=>kw.WX h (jW.nil _ _) (h.below hW) (fun k hk=>a_ hk) (fun k hk=>hk) (ip.gS hW)
  rw[EY.out];have yV:(c.addr==addr)=false:=beq_eq_false_iff_ne.2 js;have pQ:=gE ny;clear h hC jR hg zB C8 kb pX lY Re Cf Uz ny;go_enter func89,ntmps89;go_wp2_with fail;refine Uj.out.mono ?_;rintro e w1 ⟨rfl,rfl⟩;clear Uj;go_wp2_with fail;go_ret;exact HE.out _ pQ.out
theorem MV(N:Nat)(sb:Nat)(s:ik)(cm:Nat)(wv:Value)(gP:List Nat)(xs:List iP)(ws:List Nat)(addr size:Int)(d:EX)(tv fv:Value)(w:World)(h:jt N w sb s cm wv gP xs ws)(hg:nx s.c)(td:0<=s.now/\s.now<=1000000000)(ha:0<=addr/\addr<256)(kb:0<=d.gL/\d.gL<=1073741823)(ku:0<=size/\size<=1125899906842624)(Cb:∃ta tl tc,tv=.slice ta tl tc)(Yu:∃ta tl tc,fv=.slice ta tl tc):
  Calls ae 93 #[ai (some ⟨sb,0,none⟩),af ag addr,.agg (xq d size tv fv)] w fun e w'=>kw N w sb cm wv gP xs (s,ql s addr d.gL size []) e w':=by
 obtain⟨t1,t2,t3,rfl⟩:=Cb;obtain⟨f1,f2,f3,rfl⟩:=Yu;have k7:=hg.c7;have k9:=hg.c9;have ny:Below w.heap.size w (w.alloc (.cells #[af ag d.kind,af ag size,af ag d.gL,.slice t1 t2 t3,af ag d.num,.slice f1 f2 f3] 107)):=gH w _;have rW:=h.i_.below ny;have c7:(w.alloc (.cells #[af ag d.kind,af ag size,af ag d.gL,.slice t1 t2 t3,af ag d.num,.slice f1 f2 f3] 107)).cell? ⟨sb,7,none⟩= some (af ag s.c.c7):=rW.cell 7;have c9:(w.alloc (.cells #[af ag d.kind,af ag size,af ag d.gL,.slice t1 t2 t3,af ag d.num,.slice f1 f2 f3] 107)).cell? ⟨sb,9,none⟩= some (af ag s.c.c9):=rW.cell 9;have XE:(w.alloc (.cells #[af ag d.kind,af ag size,af ag d.gL,.slice t1 t2 t3,af ag d.num,.slice f1 f2 f3] 107)).cell? ⟨sb,10,none⟩= some (af ag s.now):=rW.cell 10;have b1:(w.alloc (.cells #[af ag d.kind,af ag size,af ag d.gL,.slice t1 t2 t3,af ag d.num,.slice f1 f2 f3] 107)).cell? ⟨w.heap.size,1,none⟩= some (af ag size):=by simp
 have b2:(w.alloc (.cells #[af ag d.kind,af ag size,af ag d.gL,.slice t1 t2 t3,af ag d.num,.slice f1 f2 f3] 107)).cell? ⟨w.heap.size,2,none⟩= some (af ag d.gL):=by simp
 have sk:IntKind.i64.wrap (s.now+s.c.c7)=s.now+s.c.c7:=by rw[di];omega
 have uf:IntKind.i64.wrap (3*size)=3*size:=by rw[di];omega
 have Rp:=gE (fun W=>yN s.c.c9 addr (s.now+s.c.c7) W k9.1 k9.2 ha.1 ha.2 (by omega) (by omega));have HTb:=gE (rZ s.c.c9 addr (s.now+s.c.c7) ha.1 ha.2);have Xw:Hid (ql s addr d.gL size []=if((tU s addr d.gL).length:Int)<=3*size then [(addr,tU s addr d.gL)] else []):=rfl;have HRL:Hid (tU s addr d.gL=[3]++jn d.gL++jn 9++kr s.c.c9 addr (s.now+s.c.c7)):=rfl
 have TO:Hid (∀(W:World) (v:Value),W.ownsRow W.heap.size 5 1 v 9 (U8 (kr s.c.c9 addr (s.now+s.c.c7)))\/(∃B,W.ownsRow B 5 1 v 9 (U8 (kr s.c.c9 addr (s.now+s.c.c7))))->Calls ae 147 #[af ag d.gL,v] W fun e w'=>∃v',e=.returned v'/\w'.ownsRow W.heap.size 5 1 v' (tU s addr d.gL).length (U8 (tU s addr d.gL))/\Below W.heap.size W w'):=by
  intro W v hv;obtain⟨B,hv⟩:∃B,W.ownsRow B 5 1 v 9 (U8 (kr s.c.c9 addr (s.now+s.c.c7))):=hv.elim (fun h=>⟨_,h⟩) id;have ZY:(kr s.c.c9 addr (s.now+s.c.c7)).length=9:=by have:=hv.1;rw[jM]at this;omega
  rw[HRL.out];exact M9 d.gL _ v W kb (me.vw hv HTb.out (by rw[ZY];decide)) ZY
 have HE:Hid (∀(W:World) (v:Value) (gN:List (Int×List Int)),Below w.heap.size w W->jW W w.heap.size v gN->kw N w sb cm wv gP xs (s,gN) (.returned v) W):=fun W v gN hW ho=>kw.WX h ho (h.below hW) (fun k hk=>a_ hk) (fun k hk=>hk) (ip.gS hW)
 generalize tU s addr d.gL=L at Xw TO;generalize kr s.c.c9 addr (s.now+s.c.c7)=T at Rp TO HTb;obtain⟨O,hO⟩:∃O,ql s addr d.gL size []=O:=⟨_,rfl⟩;rw[hO]at Xw⊢;have xL:=gE ny;unfold xq;clear h hg hO rW HRL HTb ny k7 k9 kb td;go_enter func93,ntmps93;go_wp2_with fail
 go_region_held3 (fun w'=>w'.cell? ⟨sb,7,none⟩= some (af ag s.c.c7)/\w'.cell? ⟨sb,9,none⟩= some (af ag s.c.c9)/\w'.cell? ⟨sb,10,none⟩= some (af ag s.now)/\w'.cell? ⟨w.heap.size,1,none⟩= some (af ag size)/\w'.cell? ⟨w.heap.size,2,none⟩= some (af ag d.gL)) (first|assumption|go_keep) (first
  |(go_at_call 67;refine(Rp.out _).mono ?_;rintro e w1 ⟨v1,rfl,tP,im⟩;have g7:=gF c7 (ib im);have g9:=gF c9 (ib im);have g10:=gF XE (ib im);have g1:=gF b1 (ib im);have g2:=gF b2 (ib im);have yT:=ce g7 (ce g9 (ce g10 (ce g1 g2)));obtain⟨va,vc,rfl⟩:=i7 tP)
  |(go_at_call 147;refine(TO.out w1 _ (aV ⟨_,tP⟩)).mono ?_;rintro e w2 ⟨v2,rfl,yW,iT⟩;have l7:=gF g7 iT;have l9:=gF g9 iT;have l10:=gF g10 iT;have l1:=gF g1 iT;have l2:=gF g2 iT;have sI:=ce l7 (ce l9 (ce l10 (ce l1 l2)));obtain⟨ua,uc,rfl⟩:=i7 yW))
 have mc:=gE (gI (gI xL.out (ib im)) iT);have Cq:=gE yW;obtain⟨n,hn⟩:∃n,L.length=n:=⟨_,rfl⟩;rw[hn]at Cq Xw⊢;have HNl:=gE hn;have HZ:Hid (w.heap.size<=w1.heap.size):=cw xL.out.size (ib im).size;clear tP im yW iT yT sI g7 g9 g10 g2 g1 l7 l9 l10 l2 c7 c9 XE b1 b2 Rp TO hn;by_cases uV:(n:Int)<=3*size
 ·have Ol:Hid (O=[(addr,L)]):=by
   show _=_;rw[Xw.out,if_pos uV]
  have HF:Hid (kw N w sb cm wv gP xs (s,O) (.returned (aj (some ⟨w2.heap.size,0,none⟩) 1 1)) (w2.alloc (.cells #[af ag addr,.slice ua n uc] 60))):=by
   rw[Ol.out];refine HE.out _ _ _ (gI mc.out (gH _ _)) ⟨[(addr,.slice ua n uc)],J3 w2 w.heap.size addr _ mc.out.size,mV.one ?_⟩;rw[HNl.out];exact iE (iB Cq.out (gH _ _)) HZ.out
  clear HE Xw;go_wp2_with fail;go_ret;exact HF.out
 ·have Ol:Hid (O=[]):=by
   show _=_;rw[Xw.out,if_neg uV]
  have HF:Hid (kw N w sb cm wv gP xs (s,O) (.returned (aj none 0 0)) w2):=by
   rw[Ol.out];exact HE.out _ _ _ mc.out (jW.nil _ _)
  clear HE Xw;go_wp2_with fail;go_ret;exact HF.out
theorem A6:∀(ks:List Int) (bs:List Nat) (i:Nat) (k:Int),ks.Nodup->ks.length=bs.length->ks[i]? =some k->(ks.eraseIdx i).zip (bs.eraseIdx i)=wB (ks.zip bs) k
 |[],_,_,_,_,_,h=>by simp at h
 |_::_,[],_,_,_,h,_=>by simp at h
 |a::ks,b::bs,0,k,hn,_,h=>by
  simp only[cz,Option.some.injEq]at h;subst h;obtain⟨h1,_⟩:=List.nodup_cons.1 hn;simp only[List.eraseIdx_zero,List.tail_cons,List.zip_cons_cons,wB,dU,beq_self_eq_true,Bool.not_true];rw[if_neg (by simp)]
  symm
  rw[dV];rintro⟨x,y⟩ hxy;have hx:x∈ks:=(List.of_mem_zip hxy).1;have:x≠a:=fun e=>h1 (e▸hx)
  simp[this]
 |a::ks,b::bs,i+1,k,hn,hl,h=>by
  simp only[List.getElem?_cons_succ]at h;obtain⟨h1,h2⟩:=List.nodup_cons.1 hn;have hk:a≠k:=fun e=>h1 (e▸bT h)
  have ih:=A6 ks bs i k h2 (by simpa using hl) h;simp only[List.eraseIdx_cons_succ,List.zip_cons_cons,wB,dU];rw[if_pos (by simp[hk]),ih]
  rfl
theorem AG{α β:Type}(f:α->β):∀(l:List α) (i:Nat),(l.eraseIdx i).map f=(l.map f).eraseIdx i
 |[],_=>rfl
 |_::_,0=>rfl
 |a::l,i+1=>by simp[AG f l i]
theorem Dh{R:Nat->Int->Prop}{p:Nat->Bool}{q:Int->Bool}:∀(ws:List Nat) (cs:List Int),ws.length=cs.length->(∀(j:Nat) b x,ws[j]? =some b->cs[j]? =some x->R b x/\p b=q x)->
  (ws.filter p).length=(cs.filter q).length/\∀(j:Nat) b x,(ws.filter p)[j]? =some b->(cs.filter q)[j]? =some x->R b x
 |[],[],_,_=>by simp
 |[],_::_,h,_=>by simp at h
 |_::_,[],h,_=>by simp at h
 |b::ws,x::cs,hl,h=>by
  obtain⟨h1,h2⟩:=h 0 b x rfl rfl;have ih:=Dh (R:=R) (p:=p) (q:=q) ws cs (by simpa using hl) (fun j b' x' e1 e2=>h (j+1) b' x' (by simpa using e1) (by simpa using e2));rw[dU,dU]
  cases hp:p b with
  |false=>
   rw[<-h2,hp,if_neg (by simp),if_neg (by simp)];exact ih
  |true=>
   rw[<-h2,hp,if_pos rfl,if_pos rfl];refine⟨by simp[ih.1],fun j b' x' e1 e2=>?_⟩
   cases j with
   |zero=>
    simp only[cz,Option.some.injEq]at e1 e2;subst e1 e2;exact h1
   |succ j=>exact ih.2 j b' x' (by simpa using e1) (by simpa using e2)
def EK(i j:Nat):Nat:=if j<i then j else j+1
theorem uz{α:Type}(l:List α)(i j:Nat):(l.eraseIdx i)[j]? =l[EK i j]?:=by
 rw[List.getElem?_eraseIdx];unfold EK
 split<;>rfl
theorem VM(i j:Nat):EK i j≠i:=by
 unfold EK
 split<;>omega
theorem TD(h:EK i j=EK i k):j=k:=by
 unfold EK at h
 split at h<;>split at h<;>omega
theorem VN(h:k≠i):∃j,EK i j=k:=by
 rcases aD k i with h1|h1
 ·exact⟨k,by unfold EK;rw[if_pos h1]⟩
 ·exact⟨k-1,by unfold EK;rw[if_neg (by omega)];omega⟩
structure K9(N:Nat)(w:World)(sb:Nat)(s:ik)(cm:Nat)(wv:Value)(gP:List Nat)(xs:List iP)(ws:List Nat)(i:Nat)(cb:Nat)(gL:Int):Prop where
 i_:pt w sb s.c s.now cm wv
 map:∃n,n<=N/\kG nv ae 3 w cm n ((s.gG.map (·.gL)).zip gP)
 j7:gP.length=s.gG.length
 lA:xs.length=s.gG.length
 ZF:gP[i]? =some cb
 at2:∃c,s.gG[i]? =some c/\c.gL=gL
 one:∃c k_ sm dm jQ,iG w cb s.c c k_ sm dm jQ/\c.gL=gL
 kH:∀(j:Nat) c cb a,j≠i->s.gG[j]? =some c->gP[j]? =some cb->xs[j]? =some a->jE N w cb s.c c a
 row:w.ownsRow 0 97 1 wv ws.length (kF ws)
 wait:∃cs,mg s.gG cs/\ws.length=cs.length/\∀(j:Nat) b,ws[j]? =some b->∃(i:Nat) (c:gZ),s.gG[i]? =some c/\gP[i]? =some b/\cs[j]? =some c.gL
 apart:∀(i j:Nat) cb a OE a',i≠j->gP[i]? =some cb->xs[i]? =some a->gP[j]? =some OE->xs[j]? =some a'->∀k,jH cb a k->¬jH OE a' k
 GN:∀(i:Nat) cb a,gP[i]? =some cb->xs[i]? =some a->¬jH cb a cm
theorem jt.but(h:jt N w sb s cm wv gP xs ws)(hN:N<=N')(hi:s.gG[i]? =some c)(jJ:gP[i]? =some cb)(ha:xs[i]? =some a)
  (hc:ip (jH cb a) w w') (hb:∃c2 k_ sm dm jQ,iG w' cb s.c c2 k_ sm dm jQ/\c2.gL=c.gL):K9 N' w' sb s cm wv gP xs ws i cb c.gL:=by
 have hC:=h.kH i c cb a hi jJ ha;obtain⟨n,hn,hm⟩:=h.map;have xF:¬jH cb a sb:=mP hC h.i_ (by decide) (by decide) (by decide) (by decide);refine⟨h.i_.iO hc xF,⟨n,cw hn hN,hm.same (hc.block cm hm.lt (h.GN i cb a jJ ha))⟩,h.j7,h.lA,jJ,⟨c,hi,rfl⟩,hb,fun j d db b C2 hj zz DT=>?_,jg h.row hc (fun k hk hF=>?_),h.wait,h.apart,h.GN⟩
 ·exact((h.kH j d db b hj zz DT).iO hc (fun k hk=>h.apart j i db b cb a C2 zz DT jJ ha k hk) (fun k cur fr hk=>Ah hC hk)).mono hN
 ·obtain⟨c1,e1⟩:=ii h.row hk;exact mP hC e1 (by decide) (by decide) (by decide) (by decide) hF
theorem K9.isb(h:K9 N w sb s cm wv gP xs ws i cb gL):ot w cb/\∀b∈ws,ot w b:=by
 obtain⟨c1,k_,sm,dm,jQ,vh,_⟩:=h.one;have h0:ot w cb:=⟨_,vh⟩;refine⟨h0,fun b hb=>?_⟩;obtain⟨j,hj,e⟩:=dr hb;obtain⟨_,_,_,hw⟩:=h.wait;obtain⟨l,d,h1,h2,_⟩:=hw j b (by rw[am hj,e]);by_cases Ph:l=i
 ·subst Ph;rw[h.ZF]at h2
  cases h2
  exact h0
 ·have xV:l<xs.length:=by rw[h.lA];exact(bm.1 h1).1
  have:=(h.kH l d b _ Ph h1 h2 (am xV)).i_;exact⟨_,this⟩
theorem K9.gone(h:K9 N w sb s cm wv gP xs ws i cb gL)(tz:(s.gG.map (·.gL)).Nodup)
  (hc:ip (fun k=>k=sb\/k=cm\/wv.ownBlock=some k) w w') (hS:pt w' sb s.c s.now cm kV) (hn:n<=N) (hm:kG nv ae 3 w' cm n (wB ((s.gG.map (·.gL)).zip gP) gL))
  (ho:w'.ownsRow 0 97 1 kV (ws.filter fun b=>b != cb).length (kF (ws.filter fun b=>b != cb))):
  jt N w' sb {s with gG:=s.gG.eraseIdx i} cm kV (gP.eraseIdx i) (xs.eraseIdx i) (ws.filter fun b=>b != cb):=by
 obtain⟨c,hi,kb⟩:=h.at2;have yt:i<s.gG.length:=(bm.1 hi).1;obtain⟨cs,sk,uf,vQ⟩:=h.wait;obtain⟨n0,_,So⟩:=h.map
 have Ye:∀(j l:Nat) b,gP[j]? =some b->gP[l]? =some b->j=l:=by
  intro j l b e1 e2;by_cases qp:j=l
  ·exact qp
  ·have h1:j<xs.length:=by rw[h.lA,<-h.j7];exact(bm.1 e1).1
   have h2:l<xs.length:=by rw[h.lA,<-h.j7];exact(bm.1 e2).1
   exact absurd (a_ rfl) (h.apart j l b _ b _ qp e1 (am h1) e2 (am h2) b (a_ rfl))
 have Yy:=Dh (R:=fun b x=>∃(l:Nat) (d:gZ),s.gG[l]? =some d/\gP[l]? =some b/\d.gL=x) (p:=fun b=>b != cb) (q:=fun x=>x != c.gL) ws cs uf (fun j b x e1 e2=>by
  obtain⟨l,d,h1,h2,h3⟩:=vQ j b e1;rw[h3]at e2
  cases e2
  refine⟨⟨l,d,h1,h2,rfl⟩,?_⟩;by_cases NE:b=cb
  ·subst NE;have:=Ye l i b h2 h.ZF;subst this;rw[hi]at h1
   cases h1
   simp
  ·have O9:d.gL≠c.gL:=by
    intro e;have e3:(s.gG.map (·.gL))[l]? =some d.gL:=by simp[h1]
    have e4:(s.gG.map (·.gL))[i]? =some d.gL:=by simp[hi,e]
    have:=(List.getElem?_inj (by simpa using(bm.1 h1).1) tz).1 (e3.trans e4.symm);subst this;rw[h.ZF]at h2
    cases h2
    exact NE rfl
   rw[bne_iff_ne.2 NE,bne_iff_ne.2 O9])
 refine⟨hS,⟨n,hn,?_⟩,?_,?_,fun j d db b hj zz hb=>?_,ho,⟨cs.filter fun x=>x != c.gL,sk.erase tz hi,Yy.1,fun j b hb=>?_⟩,fun j l TS a1 Wd a2 qp e1 e2 e3 e4 k=>?_,fun j db b zz hb=>?_⟩
 ·have e1:(s.gG.eraseIdx i).map (·.gL)=(s.gG.map (·.gL)).eraseIdx i:=AG _ _ _;show kG nv ae 3 w' cm n (((s.gG.eraseIdx i).map (·.gL)).zip (gP.eraseIdx i));rw[e1,A6 _ _ i gL tz (by simp[h.j7]) (by simp[hi,kb])];exact hm
 ·rw[cE,cE,h.j7]
 ·rw[cE,cE,h.lA]
 ·simp only[uz]at hj zz hb;have hD:=h.kH _ d db b (VM i j) hj zz hb;refine hD.iO hc (fun k hk=>?_) (fun k cur fr hk=>?_)
  ·rintro(e|e|e)
   ·subst e;exact mP hD h.i_ (by decide) (by decide) (by decide) (by decide) hk
   ·subst e;exact h.GN _ db b zz hb hk
   ·obtain⟨c1,e1⟩:=ii h.row e;exact mP hD e1 (by decide) (by decide) (by decide) (by decide) hk
  ·rintro(e|e|e)
   ·subst e;have h2:w.heap[k]? =some (.cells (sM s.c s.now cm wv) 101 (0,0)):=h.i_;rw[h2]at hk;simp only[Option.some.injEq,Obj.cells.injEq]at hk;exact absurd hk.2.1 (by decide)
   ·subst e;obtain⟨es,ck,hb⟩:=So.kY;rw[hb]at hk
    cases hk
   ·exact gO h.row hk (by decide) e
 ·have hbm:b≠cb:=by
   have:=(List.mem_filter.1 (bT hb)).2;simpa using this
  have qp:j<(cs.filter fun x=>x != c.gL).length:=by rw[<-Yy.1];exact(bm.1 hb).1
  obtain⟨l,d,h1,h2,h3⟩:=Yy.2 j b _ hb (am qp)
  have Ph:l≠i:=fun e=>by
   subst e;rw[h.ZF]at h2
   cases h2
   exact hbm rfl
  obtain⟨m,hm⟩:=VN Ph;refine⟨m,d,?_,?_,?_⟩
  ·simp only[uz,hm,h1]
  ·simp only[uz,hm,h2]
  ·rw[am qp,h3]
 ·rw[uz]at e1 e2 e3 e4;exact h.apart _ _ TS a1 Wd a2 (fun e=>qp (TD e)) e1 e2 e3 e4 k
 ·rw[uz]at zz hb;exact h.GN _ db b zz hb
section
variable {α:Type}{C:vH α}{P:Program}{K:TypeId}
theorem Qo{lZ:Array Oper}{o:Oper}{a:Act}{w:World}{J:Act->World->Prop}{Q:Exit->Act->World->Prop}{E:Prop}
  (hg:o.guard=none) (m x:Operand) (t:TypeId) (AB:o.op=Op.call {callee:=Callee.builtin Builtin.delete,args:=#[m,x],argTypes:=#[t,K]}) (e:TypeId) (hK:P.underlying K=some (.int .i64)) (ht:P.underlying t=some (.map K e))
  (b n:Nat) (l:List (Int×α)) (hm:a.eval m=.map (some b)) (gY:kG C P K w b n l) (k:Int) (y:α) (hx:a.eval x=af ag k) (hk:(Lit.int .i64 k).wf=true) (hy:rV l k=some y)
  (UV:∀w',kG C P K w' b n (wB l k)->w.grownBy w' (some b)->w'.heap.size=w.heap.size->J (a.put o.dst (.tuple #[])) w'):
  if bn o (yielded lZ a.tmps)=true then Oper.wp P o a w J Q else E:=by
 have hw:bn o (yielded lZ a.tmps)=true:=by simp[bn,hg]
 rw[if_pos hw];obtain⟨D,gY,ok⟩:=gY;obtain⟨w',hr,h1,h2⟩:=gY.drop (dF hK) ht (Maps.keyOf_int_mk hK hk) o.type;unfold Oper.wp;simp[execOp,AB,resolve,invoke,builtin,hm,hx,hr,Result.andThen];refine UV w' ⟨_,h1,ok.del (gY.tidy (dF hK)) hy⟩ h2.grown ?_;obtain⟨es,clock,es',RE,hb,rfl⟩:=h2;simp[ChangeMaps.setBlock]
end
structure y8(N:Nat)(w:World)(sb:Nat)(s:ik)(cm:Nat)(wv:Value)(gP:List Nat)(xs:List iP)(ws:List Nat)(e:Ending)(w':World):Prop where
 ret:e=.returned (.tuple #[])
 ex:∃kV,jt N w' sb s cm kV gP xs ws/\(kV.ownBlock=wv.ownBlock\/∀k,kV.ownBlock=some k->w.heap.size<=k)
 iO:ip (fun k=>k=sb\/k=cm\/wv.ownBlock=some k) w w'
theorem Qk(N sb:Nat)(s:ik)(cm:Nat)(wv:Value)(gP:List Nat)(xs:List iP)(ws:List Nat)(i cb:Nat)(gL:Int)(w:World)(h:K9 N w sb s cm wv gP xs ws i cb gL)(tz:(s.gG.map (·.gL)).Nodup)(hn:ws.length<=1000)(kb:-9223372036854775808<=gL/\gL<=9223372036854775807):
  Calls ae 54 #[ai (some ⟨sb,0,none⟩),ai (some ⟨cb,0,none⟩)] w fun e w'=>y8 N w sb {s with gG:=s.gG.eraseIdx i} cm wv (gP.eraseIdx i) (xs.eraseIdx i) (ws.filter fun b=>b != cb) e w':=by
 obtain⟨n,QU,hm⟩:=h.map;obtain⟨c1,k_,sm,dm,jQ,vh,Su⟩:=h.one;obtain⟨c,hi,zx⟩:=h.at2;have KY:=gE (fun W (hW:W.heap=w.heap)=>CC cb s.c c1 k_ sm dm jQ W (by unfold iG at vh⊢;rw[hW];exact vh));rw[Su]at KY;have QM:w.cell? ⟨sb,11,none⟩= some (.map (some cm)):=h.i_.cell 11
 have kP:rV ((s.gG.map (·.gL)).zip gP) gL=some cb:=by
  refine u9 (by rw[d' (by simp[h.j7])];exact tz) (bT (i:=i) ?_);rw[dX];exact⟨by simp[hi,zx],h.ZF⟩
 have HM:Hid (∀W:World,W.heap=w.heap->kG nv ae 3 W cm n ((s.gG.map (·.gL)).zip gP)):=fun W hW=>hm.same (by rw[hW])
 have V':=gE (xi kb);have QG:=gE kP;have C1:=h.isb
 have GD:cm≠sb:=fun e=>by
  obtain⟨es,ck,hb⟩:=hm.kY;have h2:w.heap[sb]? =some (.cells (sM s.c s.now cm wv) 101 (0,0)):=h.i_;rw[<-e,hb]at h2
  cases h2
 have C4:wv.ownBlock≠some cm:=fun e=>by
  obtain⟨es,ck,hb⟩:=hm.kY;obtain⟨c2,e2⟩:=ii h.row e;rw[hb]at e2
  cases e2
 have oE:Hid (∀w1:World,kG nv ae 3 w1 cm n (wB ((s.gG.map (·.gL)).zip gP) gL)->ip (fun k=>k=cm) w w1->Calls ae 50 #[ai (some ⟨sb,0,none⟩),ai (some ⟨cb,0,none⟩)] w1 fun e w'=>y8 N w sb {s with gG:=s.gG.eraseIdx i} cm wv (gP.eraseIdx i) (xs.eraseIdx i) (ws.filter fun b=>b != cb) e w'):=by
  intro w1 qq km
  have jJ:∀b,ot w b->ot w1 b:=by
   rintro b ⟨cs,hb⟩;refine⟨cs,?_⟩;rw[km.block b (aO.1 hb).1 (fun e=>?_)]
   ·exact hb
   ·obtain⟨es,ck,h2⟩:=hm.kY;rw[e,h2]at hb
    cases hb
  refine(rJ sb s.c s.now cm wv ws cb w1 (h.i_.iO km (fun e=>GD e.symm)) (jg h.row km (fun k hk e=>C4 (e▸hk))) hn (fun b hb=>jJ b (C1.2 b hb)) (jJ cb C1.1)).mono ?_;rintro e w2 ⟨rfl,⟨kV,sI,yW,RX⟩,nr⟩;have rE:ip (fun k=>k=sb\/k=cm\/wv.ownBlock=some k) w w2:=(km.mono fun k _ e=>aV (a_ e)).trans (nr.mono fun k _ e=>e.elim a_ (fun e=>aV (aV e)));refine⟨rfl,⟨kV,h.gone tz rE sI QU ?_ yW,?_⟩,rE⟩
  ·refine qq.same (nr.block cm qq.lt ?_);rintro(e|e)
   ·exact GD e
   ·exact C4 e
  ·rcases RX with e|e
   ·exact a_ e
   ·exact aV fun k hk=>cw km.size (e k hk)
 have KX:Hid (∀w1:World,w.drew.grownBy w1 (some cm)->ip (fun k=>k=cm) w w1/\w1.cell? ⟨sb,11,none⟩= some (.map (some cm))):=by
  intro w1 hg;have hc:ip (fun k=>k=cm) w w1:=⟨hg.os,hg.tape,hg.output,hg.size,fun k hk js=>hg.block k hk (fun e=>js (Option.some.inj e))⟩;exact⟨hc,(h.i_.iO hc (fun e=>GD e.symm)).cell 11⟩
 generalize ({s with gG:=s.gG.eraseIdx i}:ik)=s' at oE⊢;generalize gP.eraseIdx i=iW at oE⊢;generalize xs.eraseIdx i=nl at oE⊢;generalize ws.filter (fun b=>b != cb)=nS at oE⊢;generalize (s.gG.map (·.gL)).zip gP=L at oE HM QG;clear h hm vh Su hi zx kP C1 GD C4 tz hn kb QU;go_enter func54,ntmps54;go_wp2_with fail
 go_region_held3 (fun w'=>w'.cell? ⟨sb,11,none⟩= some (.map (some cm))) (first|assumption|go_keep) (first
  |(go_at_call 51;refine(KY.out w.drew rfl).mono ?_;rintro e w1 ⟨rfl,rfl⟩)
  |(refine Qo (C:=nv) rfl (.tmp 7) (.tmp 9) 98 rfl 97 underlying3 underlying98 cm n L (by kernel_rfl) (HM.out w.drew rfl) gL cb (by kernel_rfl) V'.out QG.out ?_;intro w1 qq pr _;have pJ:=(KX.out w1 pr).2))
 have Ac:=oE.out w1 qq (KX.out w1 pr).1;replace Ac:=gE Ac;clear qq pr pJ KX oE HM QG V' KY QM;go_wp2_with fail;refine Ac.out.mono ?_;intro e w2 h2;have h3:=h2.ret;subst h3;replace h2:=gE h2;clear Ac;go_wp2_with fail
 go_end0
 exact h2.out
theorem jW.iO(h:jW w base v gN)(hc:ip F w w')(h1:∀k cur fr,w.heap[k]? =some (.cells cur 60 fr)->¬F k)(h2:∀k cur fr,w.heap[k]? =some (.cells cur 5 fr)->¬F k):jW w' base v gN:=by
 obtain⟨out,ho,hb⟩:=h;refine⟨out,jg ho hc (fun g hg=>?_),hb.iO hc h2⟩;obtain⟨cs,e⟩:=ii ho hg;exact h1 g cs _ e
theorem jE.waits(h:jE N w cb g c a)(x:Int):jE N w cb g {c with waits:=x} a:=⟨h.i_,h.pk,h.zW,h.Bz,h.mp,h.str,h.UO,h.ne,h.apart,h.ul⟩
theorem jt.last(h:jt N w sb s cm wv gP xs ws)(x:Int):jt N w sb {s with last:=x} cm wv gP xs ws:=⟨h.i_,h.map,h.j7,h.lA,h.kH,h.row,h.wait,h.apart,h.GN⟩
theorem jt.mono(h:jt N w sb s cm wv gP xs ws)(hN:N<=N'):jt N' w sb s cm wv gP xs ws:=by
 obtain⟨n,hn,hm⟩:=h.map;exact⟨h.i_,⟨n,cw hn hN,hm⟩,h.j7,h.lA,fun i c cb a h1 h2 h3=>(h.kH i c cb a h1 h2 h3).mono hN,h.row,h.wait,h.apart,h.GN⟩
def Ct(sb cm:Nat)(wv:Value)(k:Nat):Prop:=k=sb\/k=cm\/wv.ownBlock=some k
theorem oF(h:jt N w sb s cm wv gP xs ws)(hk:w.heap[k]? =some (.cells cur e fr))(h1:e≠101)(h2:e≠97):¬Ct sb cm wv k:=by
 obtain⟨n0,_,So⟩:=h.map;rintro(e'|e'|e')
 ·subst e';have h3:w.heap[k]? =some (.cells (sM s.c s.now cm wv) 101 (0,0)):=h.i_;rw[h3]at hk;simp only[Option.some.injEq,Obj.cells.injEq]at hk;exact h1 hk.2.1.symm
 ·subst e';obtain⟨es,ck,hb⟩:=So.kY;rw[hb]at hk
  cases hk
 ·exact gO h.row hk (fun e=>h2 e.symm) e'
theorem jt.cons(h:jt N w sb s cm wv gP xs ws)(hc:ip (Ct sb cm wv) w w')(hi:s.gG[i]? =some c)(jJ:gP[i]? =some cb)(ha:xs[i]? =some a):jE N w' cb s.c c a:=by
 have hD:=h.kH i c cb a hi jJ ha;refine hD.iO hc (fun k hk=>?_) (fun k cur fr hk=>oF h hk (by decide) (by decide));rintro(e|e|e)
 ·subst e;exact mP hD h.i_ (by decide) (by decide) (by decide) (by decide) hk
 ·subst e;exact h.GN i cb a jJ ha hk
 ·obtain⟨c1,e1⟩:=ii h.row e;exact mP hD e1 (by decide) (by decide) (by decide) (by decide) hk
theorem jt.VO(h:jt N w sb s cm wv gP xs ws):ws.length<=s.gG.length:=by
 obtain⟨cs,⟨ks,h1,_,h3⟩,h4,_⟩:=h.wait;rw[h4,h3,List.length_map,h1.length_eq];unfold kL;rw[List.length_map];exact bY _ _
theorem jt.more(h:jt N w sb s cm wv gP xs ws)(hi:s.gG[i]? =some c)(jJ:gP[i]? =some cb)(h0:c.waits<=0)(hl:∀d∈s.gG,d.waits<lw)(hlw:0<lw)
  (hS:pt w' sb s.c s.now cm kV) (ho:w'.ownsRow 0 97 1 kV (ws++[cb]).length (kF (ws++[cb]))) (hc:ip (fun k=>k=sb\/wv.ownBlock=some k) w w'):
  jt N w' sb {s with gG:=s.gG.set i {c with waits:=lw}} cm kV gP xs (ws++[cb]):=by
 obtain⟨n,hn,hm⟩:=h.map;have Jg:ip (Ct sb cm wv) w w':=hc.mono fun k _ e=>e.elim a_ (fun e=>aV (aV e))
 obtain⟨cs,sk,uf,vQ⟩:=h.wait;have LR:({s with gG:=s.gG.set i {c with waits:=lw}}:ik).gG.map (·.gL)=s.gG.map (·.gL):=mn hi rfl;refine⟨hS,⟨n,hn,?_⟩,by simp[h.j7],by simp[h.lA],fun j d db b hj zz hb=>?_,ho,⟨cs++[c.gL],sk.more (DM (c':={c with waits:=lw}) hi h0 rfl hlw) hl,by simp[uf],fun j b hb=>?_⟩,h.apart,h.GN⟩
 ·rw[LR];refine hm.same (hc.block cm hm.lt ?_);obtain⟨es,ck,hb⟩:=hm.kY;rintro(e|e)
  ·have h3:w.heap[sb]? =some (.cells (sM s.c s.now cm wv) 101 (0,0)):=h.i_;rw[<-e,hb]at h3
   cases h3
  ·obtain⟨c2,e2⟩:=ii h.row e;rw[hb]at e2
   cases e2
 ·by_cases C2:j=i
  ·subst C2;simp only at hj;rw[getElem?_set_at hi]at hj
   cases hj
   exact(h.cons Jg hi zz hb).waits _
  ·simp only at hj;rw[getElem?_set_other C2]at hj;exact h.cons Jg hj zz hb
 ·rcases aD j ws.length with hj|hj
  ·rw[aw hj]at hb;obtain⟨l,d,h1,h2,h3⟩:=vQ j b hb;have mx:(cs++[c.gL])[j]? =cs[j]?:=aw (by rw[<-uf];exact hj);by_cases Ph:l=i
   ·subst Ph;rw[hi]at h1
    cases h1
    exact⟨l,_,getElem?_set_at hi,h2,by rw[mx];exact h3⟩
   ·exact⟨l,d,by simp only;rw[getElem?_set_other Ph];exact h1,h2,by rw[mx];exact h3⟩
  ·have DV:j=ws.length:=by
    have:=(bm.1 hb).1;simp at this;omega
   subst DV;rw[aF (ay _)]at hb;simp at hb;subst hb;exact⟨i,_,getElem?_set_at hi,jJ,by rw[uf,aF (ay _)];simp⟩
theorem Cv(hwv:kV.ownBlock=wv.ownBlock\/∀k,kV.ownBlock=some k->B<=k):∀k,lh sb cm kV (gP.eraseIdx i) (xs.eraseIdx i) k->lh sb cm wv gP xs k\/B<=k:=by
 rintro k (e|e|e|⟨j,db,b,e1,e2,e3⟩)
 ·exact a_ (a_ e)
 ·exact a_ (aV (a_ e))
 ·rcases hwv with h|h
  ·rw[h]at e;exact a_ (aV (aV (a_ e)))
  ·exact aV (h k e)
 ·rw[uz]at e1 e2;exact a_ (pu e1 e2 e3)
theorem Ns(hwv:kV.ownBlock=wv.ownBlock\/∀k,kV.ownBlock=some k->B<=k):∀k,lh sb cm kV gP xs k->lh sb cm wv gP xs k\/B<=k:=by
 rintro k (e|e|e|e)
 ·exact a_ (a_ e)
 ·exact a_ (aV (a_ e))
 ·rcases hwv with h|h
  ·rw[h]at e;exact a_ (aV (aV (a_ e)))
  ·exact aV (h k e)
 ·exact a_ (aV (aV (aV e)))
theorem ui(h:Ct sb cm wv k):lh sb cm wv gP xs k:=h.elim a_ (fun h=>h.elim (fun h=>aV (a_ h)) (fun h=>aV (aV (a_ h))))
theorem OL{R:FY}(hg:R.gone=true):rj s i c R = {({s with gG:=s.gG.eraseIdx i}:ik) with last:=if R.kH.gT=true/\c.gT=false then s.last+1 else s.last}:=by simp[rj,hg]
theorem OM{R:FY}(hg:R.gone=false)(hp:R.kH.gT=c.gT):rj s i c R = {s with gG:=s.gG.set i R.kH}:=by
 have:¬(R.kH.gT=true/\c.gT=false):=by rw[hp];rintro⟨e1,e2⟩;rw[e1]at e2;cases e2
 unfold rj;rw[if_neg this,hg];simp
theorem RI{R:FY}{x:Int}(hg:R.gone=false)(hp:R.kH.gT=true)(we:c.gT=false)(hw:R.kH.waits=s.last+1):rj s i c R = {({s with gG:=(s.gG.set i {R.kH with waits:=x}).set i {R.kH with waits:=s.last+1}}:ik) with last:=s.last+1}:=by
 have h1:s.gG.set i R.kH=(s.gG.set i {R.kH with waits:=x}).set i {R.kH with waits:=s.last+1}:=by rw[List.set_set,<-hw]
 rw[<-h1];simp[rj,hg,hp,we]
theorem ww{g:jG}{lw:Int}:∀(n:Nat) {c:gZ} {b:List Int},(iR g lw c b n).gone=false->mX (iR g lw c b n) []=[]
 |0,c,b,_=>rfl
 |n+1,c,b,h=>by
  unfold iR at h⊢
  split at h
  ·next h1=>rw[if_pos h1];rfl
  ·next h1=>
   rw[if_neg h1]
   split at h
   ·cases h
   ·next f size hf=>
    split at h
    ·cases h
    ·next h2=>
     rw[if_neg h2]
     split at h
     ·cases h
     ·next h3=>
      rw[if_neg h3];exact ww n h
theorem FL(N sb:Nat)(s:ik)(cm:Nat)(wv:Value)(gP:List Nat)(xs:List iP)(ws:List Nat)(i cb:Nat)(c:gZ)(a:iP)(b:List Int)(n:Nat)(bv:Value)(w:World)(h:jt N w sb s cm wv gP xs ws)(hi:s.gG[i]? =some c)(jJ:gP[i]? =some cb)(ha:xs[i]? =some a)(hI:iQ M L s)(hM:M<=1125899906842624)
  (kI:me w bv b) (rm:iF b) (hl:b.length<=1073741823) (hn:b.length<=n) (hN:N+b.length<1125899906842624) (hE:∀W,ip (jH cb a) w W->Env W):
  Calls ae 98 #[ai (some ⟨sb,0,none⟩),ai (some ⟨cb,0,none⟩),bv] w fun e w'=>kw (N+b.length) w sb cm wv gP xs (ji s i b [] n) e w':=by
 have hC:=h.kH i c cb a hi jJ ha;have kx:=bT hi;have jR:=hI.ok c kx;have Sb:=hI.inv c kx;have ud:=hI.cfg.c4;have hK:=sE (M:=M) (lw:=s.last+1) (by omega:0<=s.c.c4) n jR Sb rm;have HP:=gE (wn cb s.c c _ _ _ _ w hC.i_);have HD:=gE (OA N cb s.c c a (s.last+1) b n bv w hC Sb hI.cfg jR hM kI hl hn hN hE)
 have L5:ws.length<=1000:=by
  have h1:=h.VO;have h2:=hI.BA;have h3:=hI.cfg.c0;omega
 rw[qC n b [] hi];have R7:=ww (g:=s.c) (lw:=s.last+1) (c:=c) (b:=b) n;generalize iR s.c (s.last+1) c b n=R at HD hK R7⊢;have kb:-9223372036854775808<=c.gL/\c.gL<=9223372036854775807:=by have:=jR.gL;omega
 have Vn:∀w1,ip (jH cb a) w w1->ip (lh sb cm wv gP xs) w w1:=fun w1 hc=>hc.mono fun k _ hk=>pu jJ ha hk
 have HG:Hid (R.gone=true->∀(w1:World) (sv:Value),jW w1 w.heap.size sv (mX R [])->ip (jH cb a) w w1->(∃c2 k_ sm dm jQ,iG w1 cb s.c c2 k_ sm dm jQ/\c2.gL=c.gL)->Calls ae 54 #[ai (some ⟨sb,0,none⟩),ai (some ⟨cb,0,none⟩)] w1 fun e w2=>e=.returned (.tuple #[])/\kw (N+b.length) w sb cm wv gP xs (rj s i c R,mX R []) (.returned sv) w2):=by
  intro hg w1 sv ho hc hb;have hB:=h.but (dZ N b.length) hi jJ ha hc hb;have QR:jt N w sb s cm wv gP xs ws:=h;refine(Qk _ sb s cm wv gP xs ws i cb c.gL w1 hB hI.nd L5 kb).mono ?_;rintro e w2 ⟨rfl,⟨kV,sI,kP⟩,nr⟩
  have UY:jW w2 w.heap.size sv (mX R []):=by
   refine ho.iO nr (fun k cur fr hk=>?_) (fun k cur fr hk=>?_)
   ·rintro(e|e|e)
    ·subst e;have h3:w1.heap[k]? =some (.cells (sM s.c s.now cm wv) 101 (0,0)):=hB.i_;rw[h3]at hk;simp only[Option.some.injEq,Obj.cells.injEq]at hk;exact absurd hk.2.1 (by decide)
    ·subst e;obtain⟨n0,_,So⟩:=hB.map;obtain⟨es,ck,hb⟩:=So.kY;rw[hb]at hk
     cases hk
    ·exact gO hB.row hk (by decide) e
   ·rintro(e|e|e)
    ·subst e;have h3:w1.heap[k]? =some (.cells (sM s.c s.now cm wv) 101 (0,0)):=hB.i_;rw[h3]at hk;simp only[Option.some.injEq,Obj.cells.injEq]at hk;exact absurd hk.2.1 (by decide)
    ·subst e;obtain⟨n0,_,So⟩:=hB.map;obtain⟨es,ck,hb⟩:=So.kY;rw[hb]at hk
     cases hk
    ·exact gO hB.row hk (by decide) e
  refine⟨rfl,kw.WX (iW:=gP.eraseIdx i) (nl:=xs.eraseIdx i) (nS:=ws.filter fun b=>b != cb) QR UY ?_ (Cv (kP.imp id fun h k hk=>cw hc.size (h k hk))) Cw ((Vn w1 hc).trans (nr.mono fun k _ hk=>ui hk))⟩;show jt _ _ _ (rj s i c R) _ _ _ _ _;rw[OL hg];exact sI.last _
 have HS:Hid (R.gone=false->R.kH.gT=c.gT->∀(w1:World) (sv:Value) (a':iP),jW w1 w.heap.size sv (mX R [])->ip (jH cb a) w w1->jE (N+b.length) w1 cb s.c R.kH a'->(∀k,jH cb a' k->jH cb a k\/w.heap.size<=k)->Ou w.heap.size a a'->kw (N+b.length) w sb cm wv gP xs (rj s i c R,mX R []) (.returned sv) w1):=by
  intro hg hp w1 sv a' ho hc hA nz Ir;refine kw.mk0 (nS:=ws) ho (R7 hg) ?_ (y_ jJ ha nz) (za ha Ir) (Vn w1 hc);show jt _ _ _ (rj s i c R) _ _ _ _ _;rw[OM hg hp];exact h.step (dZ _ _) hi jJ ha hc hA nz hK.gL (hK.same hp)
 have HW:Hid (R.gone=false->R.kH.gT=true->c.gT=false->∀(w1:World) (sv:Value) (a':iP),jW w1 w.heap.size sv (mX R [])->ip (jH cb a) w w1->jE (N+b.length) w1 cb s.c R.kH a'->(∀k,jH cb a' k->jH cb a k\/w.heap.size<=k)->Ou w.heap.size a a'->Calls ae 146 #[ai (some ⟨sb,0,none⟩),ai (some ⟨cb,0,none⟩)] w1 fun e w2=>e=.returned (.tuple #[])/\kw (N+b.length) w sb cm wv gP xs (rj s i c R,mX R []) (.returned sv) w2):=by
  intro hg hp we w1 sv a' ho hc hA nz Ir;have QR:=h.step (c':={R.kH with waits:=c.waits}) (dZ _ _) hi jJ ha hc (hA.waits _) nz hK.gL rfl;have Ji:=hI.waits c kx;have hlw:R.kH.waits=s.last+1:=hK.new we hp;refine(FQ sb s.c s.now cm wv ws cb w1 QR.i_ QR.row L5).mono ?_;rintro e w2 ⟨rfl,⟨kV,sI,yW,kP⟩,nr⟩;have hi1:({s with gG:=s.gG.set i {R.kH with waits:=c.waits}}:ik).gG[i]? =some {R.kH with waits:=c.waits}:=getElem?_set_at hi
  have hP2:=QR.more (lw:=s.last+1) hi1 jJ (by have:=Ji.2.2 we;show c.waits<=0;omega) (fun d hd=>by
   rcases da hd with h1|h1
   ·have:=hI.waits d h1;omega
   ·rw[h1];show c.waits<_;omega) (by have:=hI.last;omega) sI yW nr
  have Jg:ip (Ct sb cm wv) w1 w2:=nr.mono fun k _ e=>e.elim a_ (fun e=>aV (aV e))
  refine⟨rfl,kw.mk0 (kV:=kV) (iW:=gP) (nS:=ws++[cb]) (ho.iO Jg (fun k cur fr hk=>oF QR hk (by decide) (by decide)) (fun k cur fr hk=>oF QR hk (by decide) (by decide))) (R7 hg) ?_ (fun k hk=>?_) (za ha Ir) ((Vn w1 hc).trans (Jg.mono fun k _ hk=>ui hk))⟩
  ·show jt _ _ _ (rj s i c R) _ _ _ _ _;rw[RI (x:=c.waits) hg hp we hlw];exact hP2.last _
  ·rcases Ns (kP.imp id fun h k hk=>cw hc.size (h k hk)) k hk with h1|h1
   ·exact y_ jJ ha nz k h1
   ·exact aV h1
 have Zx:=gE hK;obtain⟨_,_,ba,bc,rfl,_⟩:=id kI;generalize (rj s i c R,mX R [])=RES at HG HS HW⊢;generalize N+b.length=NN at HD HG HS HW⊢;clear hK h hi jJ ha hI kI rm hE hC kx jR Sb ud L5 kb Vn hM hl hn hN;go_enter func98,ntmps98;go_wp2_with fail;refine HP.out.mono ?_;rintro e w1 ⟨rfl,rfl⟩;clear HP;go_wp2_with fail;refine HD.out.mono ?_;rintro e w1 ⟨⟨sv,rfl,ho⟩,km,sZ,kA⟩;obtain⟨sa,kN,rfl⟩:=ho.form;replace ho:=gE ho;replace km:=gE km;replace sZ:=gE sZ;replace kA:=gE kA;clear HD;generalize (mX R []).length=sl at ho
 cases hg:R.gone with
 |true=>
  have F4:=gE (HG.out hg w1 _ ho.out km.out kA.out);clear HG HS HW ho km sZ kA;go_wp2_with fail;refine F4.out.mono ?_;rintro e w2 ⟨rfl,hS⟩;replace hS:=gE hS;clear F4;go_wp2_with fail;go_ret;exact hS.out
 |false=>
  obtain⟨a',hA,nz,Ir⟩:=sZ.out hg;have V4:=gE (wn cb s.c R.kH _ _ _ _ w1 hA.i_);have HA:=gE hA;have BZ:=gE nz;have F7:=gE Ir;clear HG sZ kA hA nz Ir
  cases hp:R.kH.gT with
  |false=>
   have we:c.gT=false:=by
    cases hc:c.gT with
    |false=>rfl
    |true=>have:=Zx.out.stay hc;rw[hp]at this;cases this
   have HF:=gE (HS.out hg (by rw[hp,we]) w1 _ a' ho.out km.out HA.out BZ.out F7.out);rw[hp]at V4;clear HS HW ho km HA BZ Zx;go_wp2_with fail;refine V4.out.mono ?_;rintro e w2 ⟨rfl,rfl⟩;clear V4;go_wp2_with fail;go_ret;exact HF.out
  |true=>
   rw[hp]at V4
   cases we:c.gT with
   |true=>
    have HF:=gE (HS.out hg (by rw[hp,we]) w1 _ a' ho.out km.out HA.out BZ.out F7.out);clear HS HW ho km HA BZ Zx;go_wp2_with fail;refine V4.out.mono ?_;rintro e w2 ⟨rfl,rfl⟩;clear V4;go_wp2_with fail;go_ret;exact HF.out
   |false=>
    have HF:=gE (HW.out hg hp we w1 _ a' ho.out km.out HA.out BZ.out F7.out);clear HS HW ho km HA BZ Zx;go_wp2_with fail;refine V4.out.mono ?_;rintro e w2 ⟨rfl,rfl⟩;clear V4;go_wp2_with fail;refine HF.out.mono ?_;rintro e w2 ⟨rfl,hS⟩;replace hS:=gE hS;clear HF;go_wp2_with fail;go_ret;exact hS.out
theorem BP(w:World)(t ty e:TypeId)(i:TypeInfo)(ht:P.underlying t=some (.slice e))(hi:P.info? e=some i)(ao:Option Addr)(n c:Nat)(h:n<=c):
  (bF #[t,t] ty #[.slice ao n c,aj none 0 0]).run P w=.ok (.slice ao n c) w:=by
 cases ao with
 |none=>simp[bF,run_underlying ht,sizeOf,typeInfo,hi,Builtin.lenOf,h,run_firstCells_none]
 |some a=>simp[bF,run_underlying ht,sizeOf,typeInfo,hi,Builtin.lenOf,h,run_firstCells_none,storeCells]
theorem mV.append{b2:Nat}{a b:List (Int×Value)}{y:List (Int×List Int)}(h:mV w b1 a x)(k:mV w b2 b y)(hb:b1<=b2)(jp:∀(i:Nat) p g,a[i]? =some p->p.2.ownBlock=some g->g<b2):mV w b1 (a++b) (x++y):=by
 obtain⟨h1,h2,h3⟩:=h;obtain⟨k1,k2,k3⟩:=k
 have Va:∀(i:Nat) p g,b[i]? =some p->p.2.ownBlock=some g->b2<=g:=by
  intro i p g hp hg;have yt:i<y.length:=by rw[<-k1];exact(bm.1 hp).1
  exact((k2 i p y[i] hp (am yt)).2.lt g hg).1
 refine⟨by simp[h1,k1],fun i p q hp hq=>?_,fun i j p q g xU hp hq hg=>?_⟩
 ·rcases aD i a.length with hi|hi
  ·rw[aw hi]at hp;rw[aw (by omega)]at hq;exact h2 i p q hp hq
  ·rw[aF hi]at hp;rw[aF (by omega),<-h1]at hq;have:=k2 _ p q hp hq;exact⟨this.1,iE this.2 hb⟩
 ·rcases aD i a.length with hi|hi
  ·rw[aw hi]at hp;rcases aD j a.length with hj|hj
   ·rw[aw hj]at hq;exact h3 i j p q g xU hp hq hg
   ·rw[aF hj]at hq;intro e;have q1:=jp i p g hp hg;have q2:=Va _ q g hq e;omega
  ·rw[aF hi]at hp;rcases aD j a.length with hj|hj
   ·rw[aw hj]at hq;intro e;have q1:=jp j q g hq e;have q2:=Va _ p g hp hg;omega
   ·rw[aF hj]at hq;exact k3 _ _ p q g (by omega) hp hq hg
theorem qZ.S5{ob:Nat}{a:List (Int×Value)}(h:qZ w ob a x):∀u∈g_ a,u.oneCell'=true:=by
 intro u hu;unfold g_ at hu;obtain⟨p,hp,hpu⟩:=List.mem_flatMap.1 hu;obtain⟨j,hj,e⟩:=dr hp;have xV:j<x.length:=by rw[<-h.1];exact hj
 obtain⟨ao,cap,e2⟩:=i7 (h.2 j p x[j] (by rw[am hj,e]) (am xV)).2;simp only[List.mem_cons,List.not_mem_nil,or_false]at hpu;rcases hpu with rfl|rfl
 ·rfl
 ·rw[e2]
  rfl
theorem J1(w0 w:World)(b1:Nat)(v1 v2:Value)(o1 o2:List (Int×List Int))(h0:jW w0 b1 v1 o1)(kq:ip F w0 w)(KM:∀k cur fr,w0.heap[k]? =some (.cells cur 60 fr)->¬F k)(Ij:∀k cur fr,w0.heap[k]? =some (.cells cur 5 fr)->¬F k)(h2:tg A w w0.heap.size v2 o2)(hA:∀k,b1<=k->k<w0.heap.size->¬A k)(hl:o1.length+o2.length<=1000)(hb:b1<=w0.heap.size)(ty:TypeId):
  ∃v' w',(bF #[47,47] ty #[v1,v2]).run ae w=.ok v' w'/\tg A w' b1 v' (o1++o2)/\w.grownBy w' v1.ownBlock:=by
 obtain⟨i0,hi,mB,kS,ln⟩:=info_parts xu;obtain⟨a,ho0,kf⟩:=h0
 have jp:∀(i:Nat) p g,a[i]? =some p->p.2.ownBlock=some g->g<w0.heap.size:=by
  intro i p g hp hg;have yt:i<o1.length:=by rw[<-kf.1];exact(bm.1 hp).1
  exact((kf.2.1 i p o1[i] hp (am yt)).2.lt g hg).2
 have tP:=jy ho0 kq KM;have im:=kf.iO kq Ij;have pg:=hb;replace hb:=cw hb kq.size;obtain⟨b,yW,iT,acZ⟩:=h2;have abm:∀(i:Nat) p g,a[i]? =some p->p.2.ownBlock=some g->¬A g:=fun i p g hp hg=>hA g (kf.ge hp hg).1 (jp i p g hp hg)
 have KP:=im.1;have T6:=iT.1;obtain⟨_,⟨e2,e2'⟩|⟨g,cap,cur,e2,WF⟩⟩:=id yW
 ·subst e2;obtain rfl:b=[]:=dI.1 e2';obtain rfl:o2=[]:=dI.1 (by rw[<-T6];rfl);obtain⟨ao,cp,rfl⟩:=iA tP
  have Wn:a.length<=cp:=by
   rcases tP.2 with⟨e,e'⟩|⟨g,cap,cur,e,_,_,hc,_⟩
   ·simp only[Value.slice.injEq]at e;omega
   ·simp only[Value.slice.injEq]at e;omega
  exact⟨_,w,BP w _ ty 60 i0 underlying47 hi ao a.length cp Wn,⟨a,tP,by rw[dW];exact im,abm⟩,rfl,rfl,rfl,ay _,fun _ _ _=>rfl⟩
 ·subst e2;obtain⟨v',w',kk,r1,r2,_⟩:=lJ (P:=ae) w b1 47 ty 60 i0 _ 2 32 underlying47 hi mB kS ln rfl (by decide) v1 a.length (g_ a) tP ⟨g,0,none⟩ b.length cap (g_ b) (nL b) (yW.cells rfl) iT.by.S5 (by unfold maxLen;omega) (by omega) hb;refine⟨v',w',kk,⟨a++b,?_,?_,fun i p g hp hg=>?_⟩,r2⟩
  ·rw[aT,mu];exact r1
  ·have hc:ip (fun k=>v1.ownBlock=some k) w w':=⟨r2.os,r2.tape,r2.output,r2.size,fun k hk js=>r2.block k hk (fun e=>js e.symm)⟩;exact(im.append iT pg jp).iO hc (fun k cur fr hk e=>gO tP hk (by decide) e)
  ·rcases aD i a.length with hi|hi
   ·rw[aw hi]at hp;exact abm i p g hp hg
   ·rw[aF hi]at hp;exact acZ _ p g hp hg
theorem jt.other(h:jt N w sb s cm wv gP xs ws)(hc:ip F w w')(hF:∀k,F k->∃cur fr,w.heap[k]? =some (.cells cur 60 fr)):jt N w' sb s cm wv gP xs ws:=by
 obtain⟨n,hn,hm⟩:=h.map;refine⟨h.i_.iO hc (fun hf=>?_),⟨n,hn,hm.same (hc.block cm hm.lt (fun hf=>?_))⟩,h.j7,h.lA,fun i c cb a h1 h2 h3=>?_,jg h.row hc (fun k hk hf=>?_),h.wait,h.apart,h.GN⟩
 ·obtain⟨cur,fr,e⟩:=hF _ hf;have h3:w.heap[sb]? =some (.cells (sM s.c s.now cm wv) 101 (0,0)):=h.i_;rw[h3]at e;simp only[Option.some.injEq,Obj.cells.injEq]at e;exact absurd e.2.1 (by decide)
 ·obtain⟨cur,fr,e⟩:=hF _ hf;obtain⟨es,ck,hb⟩:=hm.kY;rw[hb]at e
  cases e
 ·have hC:=h.kH i c cb a h1 h2 h3;refine hC.iO hc (fun k hk hf=>?_) (fun k cur fr hk hf=>?_)
  ·obtain⟨cur,fr,e⟩:=hF _ hf;exact mP hC e (by decide) (by decide) (by decide) (by decide) hk
  ·obtain⟨Lt,fr',e⟩:=hF _ hf;rw[hk]at e;simp only[Option.some.injEq,Obj.cells.injEq]at e;exact absurd e.2.1 (by decide)
 ·obtain⟨cur,fr,e⟩:=hF _ hf;exact gO h.row e (by decide) hk
theorem jt.snoc{w1 w2:World}(h:jt N w sb s cm wv gP xs ws)(hb:Below w.heap.size w w1)(hA:jE 0 w1 cb s.c c a)(C5:∀k,jH cb a k->w.heap.size<=k)(WQ:c.waits<=0)
  (hn:n<=N+1) (hm:kG nv ae 3 w2 cm n ((s.gG.map (·.gL)).zip gP++[(c.gL,cb)])) (hg:w1.grownBy w2 (some cm)):
  jt (N+1) w2 sb {s with gG:=s.gG++[c]} cm wv (gP++[cb]) (xs++[a]) ws:=by
 have h1:=h.below hb;obtain⟨n0,NP,So⟩:=h.map;have hc:ip (fun k=>k=cm) w1 w2:=⟨hg.os,hg.tape,hg.output,hg.size,fun k hk js=>hg.block k hk (fun e=>js (Option.some.inj e))⟩;have Jg:ip (Ct sb cm wv) w1 w2:=hc.mono fun k _ e=>aV (a_ e)
 obtain⟨es,ck,hmb⟩:=So.kY;have acT:w1.heap[cm]? =some (.map es ck):=by rw[hb.block cm So.lt];exact hmb
 have js:∀k cur e fr,w1.heap[k]? =some (.cells cur e fr)->k≠cm:=by
  intro k cur e fr hk e';rw[e',acT]at hk
  cases hk
 have nN:¬jH cb a cm:=fun hF=>by have:=C5 cm hF;have:=So.lt;omega
 have jp:∀(i:Nat) OE a',gP[i]? =some OE->xs[i]? =some a'->∀k,jH OE a' k->k<w.heap.size:=by
  intro i OE a' e1 e2 k hk;obtain⟨d,hd⟩:∃d,s.gG[i]? =some d:=⟨_,am (by rw[<-h.j7];exact(bm.1 e1).1)⟩;exact y7 (h.kH i d OE a' hd e1 e2) hk
 have kP:∀{α:Type} (l:List α) (x y:α) (i:Nat),l.length=s.gG.length->(l++[x])[i]? =some y->(i<s.gG.length/\l[i]? =some y)\/(i=s.gG.length/\y=x):=by
  intro α l x y i hl hy;rcases aD i s.gG.length with hi|hi
  ·rw[aw (by omega)]at hy;exact a_ ⟨hi,hy⟩
  ·have:=(bm.1 hy).1;simp at this;have e:i=s.gG.length:=by omega
   rw[aF (by omega),e,hl]at hy;simp at hy;exact aV ⟨e,hy.symm⟩
 have KL:jE (N+1) w2 cb s.c c a:=(hA.iO hc (fun k hk e=>nN (e▸hk)) (fun k cur fr hk=>js k cur _ fr hk)).mono (by omega);obtain⟨cs,sk,uf,vQ⟩:=h.wait;refine⟨h1.i_.iO hc (js _ _ _ _ h1.i_),⟨n,hn,?_⟩,by simp[h.j7],by simp[h.lA],fun i d db b hd zz DT=>?_,jg h1.row hc (fun k hk e=>?_),⟨cs,sk.same ?_,uf,fun j b DT=>?_⟩,fun i j TS a1 Wd a2 xU e1 e2 e3 e4 k pJ rp=>?_,fun i db b zz DT hF=>?_⟩
 ·show kG nv ae 3 w2 cm n (((s.gG++[c]).map (·.gL)).zip (gP++[cb]));rw[List.map_append,List.zip_append (by simp[h.j7])];exact hm
 ·rcases kP _ _ _ _ rfl hd with⟨h3,h4⟩|⟨h3,h4⟩
  ·rcases kP _ _ _ _ h.j7 zz with⟨_,h5⟩|⟨h5,_⟩
   ·rcases kP _ _ _ _ h.lA DT with⟨_,h6⟩|⟨h6,_⟩
    ·exact(h1.cons Jg h4 h5 h6).mono (by omega)
    ·omega
   ·omega
  ·rcases kP _ _ _ _ h.j7 zz with⟨h5,_⟩|⟨_,h5⟩
   ·omega
   ·rcases kP _ _ _ _ h.lA DT with⟨h6,_⟩|⟨_,h6⟩
    ·omega
    ·subst h4 h5 h6;exact KL
 ·obtain⟨c1,e1⟩:=ii h1.row hk;exact js _ _ _ _ e1 e
 ·show kL (s.gG++[c])=_;rw[lK,pV,if_neg (by omega),dW]
 ·obtain⟨l,d,h3,h4,h5⟩:=vQ j b DT;exact⟨l,d,by show(s.gG++[c])[l]? =_;rw[aw (bm.1 h3).1];exact h3,by rw[aw (bm.1 h4).1];exact h4,h5⟩
 ·rcases kP _ _ _ _ h.j7 e1 with⟨f1,g1⟩|⟨f1,g1⟩<;>rcases kP _ _ _ _ h.lA e2 with⟨f2,g2⟩|⟨f2,g2⟩<;>rcases kP _ _ _ _ h.j7 e3 with⟨f3,g3⟩|⟨f3,g3⟩<;>rcases kP _ _ _ _ h.lA e4 with⟨f4,g4⟩|⟨f4,g4⟩<;>first
   |omega
   |exact h.apart i j TS a1 Wd a2 xU g1 g2 g3 g4 k pJ rp
   |(subst g3 g4;have:=C5 k rp;have:=jp i TS a1 g1 g2 k pJ;omega)
   |(subst g1 g2;have:=C5 k pJ;have:=jp j Wd a2 g3 g4 k rp;omega)
 ·rcases kP _ _ _ _ h.j7 zz with⟨f1,g1⟩|⟨f1,g1⟩<;>rcases kP _ _ _ _ h.lA DT with⟨f2,g2⟩|⟨f2,g2⟩<;>first
   |omega
   |exact h.GN i db b g1 g2 hF
   |(subst g1 g2;exact nN hF)
theorem Kl{α:Type}{C:vH α}(ht:P.underlying t=some (.map K e)){l:List (Int×α)}(h:kG C P K w b n l)(ty:TypeId):
  (eh #[t] ty #[.map (some b)]).run P w=.ok (af ag l.length) w:=by
 obtain⟨D,gY,ok⟩:=h;have:=gY.len ht ty;rw[ok.size]at this;exact this
theorem MU(N:Nat)(sb:Nat)(s:ik)(cm:Nat)(wv:Value)(gP:List Nat)(xs:List iP)(ws:List Nat)(addr size:Int)(d:EX)(tv fv:Value)(ok:Bool)(w:World)(h:jt N w sb s cm wv gP xs ws)(hI:iQ M L s)(Cb:∃ta tl tc,tv=.slice ta tl tc)(Yu:∃ta tl tc,fv=.slice ta tl tc)(pw:nR s=true):
  Calls ae 91 #[ai (some ⟨sb,0,none⟩),af ag addr,.agg (xq d size tv fv),.bool ok] w fun e w'=>kw N w sb cm wv gP xs (s,[]) e w':=by
 obtain⟨t1,t2,t3,rfl⟩:=Cb;obtain⟨f1,f2,f3,rfl⟩:=Yu;have Fl:=hI.cfg;have h0:=Fl.c0;have h1:=Fl.c1;have h3:=Fl.c3;have h8:=Fl.c8;have wK:=hI.BA;obtain⟨n,hn,hm⟩:=h.map;have hL:((s.gG.map (·.gL)).zip gP).length=s.gG.length:=by simp[h.j7]
 have HE:Hid (∀(W:World),Below w.heap.size w W->kw N w sb cm wv gP xs (s,[]) (.returned (aj none 0 0)) W):=fun W hW=>kw.WX h (jW.nil _ _) (h.below hW) (fun k hk=>a_ hk) (fun k hk=>hk) (ip.gS hW)
 have yd:Hid (∀W,Below w.heap.size w W->Calls ae 28 #[ai (some ⟨sb,0,none⟩)] W fun e w'=>e=.returned (af ag (nP s))/\∃n,w'=W.drewN n):=by
  intro W hb;have h2:=xd sb s.c s.now cm wv n _ W (h.i_.below hb) (hm.same (hb.block cm hm.lt)) (by omega) (by omega) (by omega);rw[hL]at h2;exact h2
 have Aj:Hid (∀W,Below w.heap.size w W->Calls ae 55 #[ai (some ⟨sb,0,none⟩)] W fun e w'=>e=.returned (af ag (jZ s.c))/\∃n,w'=W.drewN n):=by
  intro W hb;exact AY sb s.c s.now cm wv W (h.i_.below hb) (by omega) (by omega)
 have mH:0<=jZ s.c/\jZ s.c<=5000:=by unfold jZ;omega
 have Az:0<=nP s/\nP s<=5000000:=by
  unfold nP;have hl:(s.gG.length:Int)<=1000:=by omega
  constructor
  ·exact ec (by omega) mH.1
  ·exact Int.le_trans (ef hl mH.2 mH.1 (by omega)) (by decide)
 have ny:Below w.heap.size w (w.alloc (.cells #[af ag d.kind,af ag size,af ag d.gL,.slice t1 t2 t3,af ag d.num,.slice f1 f2 f3] 107)):=gH w _;have rW:=h.i_.below ny;have k0:(w.alloc (.cells #[af ag d.kind,af ag size,af ag d.gL,.slice t1 t2 t3,af ag d.num,.slice f1 f2 f3] 107)).cell? ⟨sb,0,none⟩= some (af ag s.c.c0):=rW.cell 0;have k8:(w.alloc (.cells #[af ag d.kind,af ag size,af ag d.gL,.slice t1 t2 t3,af ag d.num,.slice f1 f2 f3] 107)).cell? ⟨sb,8,none⟩= some (af ag s.c.c8):=rW.cell 8;have tS:(w.alloc (.cells #[af ag d.kind,af ag size,af ag d.gL,.slice t1 t2 t3,af ag d.num,.slice f1 f2 f3] 107)).cell? ⟨sb,11,none⟩= some (.map (some cm)):=rW.cell 11
 have abJ:∀(q:Nat) (ty:TypeId),(eh #[98] ty #[.map (some cm)]).run ae ((w.alloc (.cells #[af ag d.kind,af ag size,af ag d.gL,.slice t1 t2 t3,af ag d.num,.slice f1 f2 f3] 107)).drewN q)=.ok (af ag s.gG.length) ((w.alloc (.cells #[af ag d.kind,af ag size,af ag d.gL,.slice t1 t2 t3,af ag d.num,.slice f1 f2 f3] 107)).drewN q):=by
  intro q ty;have h2:=Kl (e:=97) underlying98 (hm.same ((gK ny q).block cm hm.lt)) ty;rw[hL]at h2;exact h2
 obtain⟨OP,s8⟩:∃x,jZ s.c=x:=⟨_,rfl⟩;obtain⟨mem,kx⟩:∃x,nP s=x:=⟨_,rfl⟩
 have HFu:Hid ((decide (s.c.c0<=(s.gG.length:Int)) || decide (s.c.c8<mem+OP))=true):=by
  rw[<-kx,<-s8];exact pw
 rw[s8]at Aj mH;rw[kx]at yd Az;have xL:=gE ny;unfold xq;clear h hI Fl rW ny s8 kx pw hm hL hn;obtain⟨Gx,Gy⟩:=mH;obtain⟨Pn,Po⟩:=Az;generalize tu:w.alloc (.cells #[af ag d.kind,af ag size,af ag d.gL,.slice t1 t2 t3,af ag d.num,.slice f1 f2 f3] 107)=w0 at *
 have A8:=gE tu;clear tu;rcases Int.lt_or_le s.gG.length s.c.c0 with jp|uV
 ·have hd:decide (s.c.c0<=(s.gG.length:Int))=false:=decide_eq_false (by omega)
  have hm:s.c.c8<mem+OP:=by
   have:=HFu.out;rw[hd]at this;simpa using this
  go_enter func91,ntmps91;go_wp2_with fail;rw[A8.out]
  go_quiet (first
   |(go_at_call 28;exact d_ (yd.out _ (gK xL.out _)))
   |(go_at_call 55;exact d_ (Aj.out _ (gK xL.out _))))
  go_wp2_with fail;go_ret;exact HE.out _ (gK xL.out _)
 ·have hd:decide (s.c.c0<=(s.gG.length:Int))=true:=decide_eq_true uV;go_enter func91,ntmps91;go_wp2_with fail;rw[A8.out]
  go_quiet (fail)
  go_wp2_with fail;go_ret;exact HE.out _ (gK xL.out _)
section
variable {α:Type}{C:vH α}{P:Program}{K:TypeId}
end
theorem GP(c:gZ)(f:List Int)(gN:List (Int×List Int)):kB c f gN=gN++kB c f []:=by
 unfold kB
 split<;>simp
theorem CH(r:FY)(gN:List (Int×List Int)):mX r gN=gN++mX r []:=by
 unfold mX
 split
 ·simp
 ·exact GP _ _ _
theorem I_(hi:s.gG[i]? =some c)(b:List Int)(gN:List (Int×List Int))(n:Nat):ji s i b gN n=((ji s i b [] n).1,gN++(ji s i b [] n).2):=by
 rw[qC n b gN hi,qC n b [] hi,CH]
theorem LC(hi:s.gG[i]? =some c)(b:List Int)(n:Nat):(ji s i b [] n).2.length<=1:=by
 rw[qC n b [] hi];simp only;unfold mX kB
 split
 ·simp
 ·split<;>simp
theorem PS(c:gZ)(f:List Int):(kB c f []).length<=1:=by
 unfold kB
 split<;>simp
def mi(s:ik)(gL addr size:Int)(ok:Bool):gZ:=jK (jL s gL addr size ok) (ir s.c (jL s gL addr size ok))
def nX(s:ik)(gL addr size:Int)(ok:Bool):ik:=
 if ok then {s with last:=s.last+1,gG:=s.gG++[{mi s gL addr size ok with waits:=s.last+1}]} else {s with gG:=s.gG++[mi s gL addr size ok]}
def xW(s:ik)(gL addr size:Int)(ok:Bool):List (Int×List Int):=kB (jL s gL addr size ok) (ir s.c (jL s gL addr size ok)) []
theorem vy(s:ik)(gL addr size:Int)(ok:Bool):(mi s gL addr size ok).gL=gL/\(mi s gL addr size ok).waits=0/\(mi s gL addr size ok).gT=ok:=by
 have h:=qH (jL s gL addr size ok) (ir s.c (jL s gL addr size ok));exact⟨h.1,h.2.1,h.2.2.1⟩
theorem S7(s:ik)(gL addr size:Int)(b:List Int)(N:Nat):uK s gL addr size b N []=ji (nX s gL addr size false) s.gG.length b (xW s gL addr size false) N:=by
 unfold uK nX;simp only;rw[og]
 rfl
theorem S6(s:ik)(gL addr size:Int)(b:List Int)(N:Nat):uJ s gL addr size b N []=ji (nX s gL addr size true) s.gG.length b (xW s gL addr size true) N:=by
 have h:=(vy s gL addr size true).2.2
 have h1:Bi (s.last+1) (mi s gL addr size true) = {mi s gL addr size true with waits:=s.last+1}:=by
  generalize mi s gL addr size true=X at h⊢
  cases X
  cases h
  rfl
 unfold uJ nX wV;simp only;rw[og,og,if_pos trivial,<-h1]
 rfl
theorem JZ(h:iQ M L s)(hc:0<=gL/\gL<=1073741823)(ha:0<=addr/\addr<256)(hs:0<=size)(hM:0<=M)(ka:gL∉s.gG.map (·.gL))(hf:¬nR s=true):iQ (M+size+100) (L+1) (nX s gL addr size ok):=by
 have KP:=h.last
 have pw:(s.gG.length:Int)<s.c.c0:=by
  unfold nR at hf;simp at hf;omega
 obtain⟨k1,k2⟩:=AK ok h hc ha hs hM;have hn:=vy s gL addr size ok;unfold nX
 split
 ·refine iQ.snoc (h.mono (by omega) (by omega)) ?_ ?_ (by rw[show({mi s gL addr size ok with waits:=s.last+1}:gZ).gL=gL from hn.1];exact ka) ⟨by simp only;omega,by simp,fun e=>?_⟩ (by omega) (by omega) pw
  ·exact⟨k1.gL,k1.addr,k1.jc,k1.jb,k1.heard,k1.runs,k1.gM,k1.p_,k1.str⟩
  ·exact⟨k2.str,k2.high,k2.runs⟩
  ·next jR=>
   have:ok=false:=hn.2.2.symm.trans e;rw[this]at jR
   cases jR
 ·refine iQ.snoc (last:=s.last) (h.mono (by omega) (by omega)) k1 k2 (by rw[hn.1];exact ka) ?_ (Int.le_refl _) (by omega) pw;refine⟨by rw[hn.2.1];omega,by rw[hn.2.1];omega,fun _=>hn.2.1⟩
theorem Mm(s:ik)(gL addr size:Int)(ok:Bool):∃c,(nX s gL addr size ok).gG[s.gG.length]? =some c:=by
 unfold nX
 split
 ·exact⟨_,oJ _ _⟩
 ·exact⟨_,oJ _ _⟩
theorem uh(h:jt N w sb s cm wv gP xs ws)(hk:w.heap[k]? =some (.cells cur e fr))(he:e=60\/e=5):¬lh sb cm wv gP xs k:=by
 rintro(e'|e'|e'|⟨j,db,b,e1,e2,e3⟩)
 ·exact oF h hk (by rcases he with rfl|rfl<;>decide) (by rcases he with rfl|rfl<;>decide) (a_ e')
 ·exact oF h hk (by rcases he with rfl|rfl<;>decide) (by rcases he with rfl|rfl<;>decide) (aV (a_ e'))
 ·exact oF h hk (by rcases he with rfl|rfl<;>decide) (by rcases he with rfl|rfl<;>decide) (aV (aV e'))
 ·obtain⟨d,hd⟩:∃d,s.gG[j]? =some d:=⟨_,am (by rw[<-h.j7];exact(bm.1 e1).1)⟩;have hC:=h.kH j d db b hd e1 e2;exact mP hC hk (by rcases he with rfl|rfl<;>decide) (by rcases he with rfl|rfl<;>decide) (by rcases he with rfl|rfl<;>decide) (by rcases he with rfl|rfl<;>decide) e3
theorem oj{G:Nat->Prop}{a b c:World}(h:ip F a b)(k:ip G b c)(hG:∀x,G x->F x\/a.heap.size<=x):ip F a c:=
 ⟨k.os.trans h.os,k.tape.trans h.tape,k.output.trans h.output,cw h.size k.size,fun x hx hn=>by
  rw[k.block x (cq hx h.size) (fun hg=>(hG x hg).elim hn (fun h2=>by omega)),h.block x hx hn]⟩
theorem Y8{w3 w6:World}(sj:gP.length=s.gG.length)(rC:xs.length=s.gG.length)
  (hP:jt N w3 sb {s with gG:=s.gG++[jN s.c gL addr ok]} cm wv (gP++[cb]) (xs++[a]) ws) (hc:ip (lh sb cm wv gP xs) w w3) (C5:∀k,jH cb a k->w.heap.size<=k)
  (hb:iG w6 cb s.c (mi s gL addr size ok) a.k_ a.sm a.dm (kU (jN s.c gL addr ok).gJ)) (Eb:ip (· = cb) w3 w6):
  jt N w6 sb {s with gG:=s.gG++[mi s gL addr size ok]} cm wv (gP++[cb]) (xs++[a]) ws/\ip (lh sb cm wv gP xs) w w6/\jE N w6 cb s.c (mi s gL addr size ok) a:=by
 have g0:(s.gG++[jN s.c gL addr ok])[s.gG.length]? =some (jN s.c gL addr ok):=oJ _ _;have g1:(gP++[cb])[s.gG.length]? =some cb:=by rw[<-sj];exact oJ _ _
 have g2:(xs++[a])[s.gG.length]? =some a:=by rw[<-rC];exact oJ _ _
 have hA:=hP.kH s.gG.length _ cb a g0 g1 g2;have hn:=qH (jL s gL addr size ok) (ir s.c (jL s gL addr size ok))
 have xG:(mi s gL addr size ok).gJ=(jN s.c gL addr ok).gJ:=by
  unfold mi jK
  split<;>rfl
 have hru:(mi s gL addr size ok).runs=(jN s.c gL addr ok).runs:=by
  unfold mi jK
  split<;>rfl
 have hA6:jE N w6 cb s.c (mi s gL addr size ok) a:=hA.Kd Eb hb xG hru;have h1:=hP.step (ay _) g0 g1 g2 (Eb.mono fun k _ e=>a_ e) hA6 (fun k hk=>a_ hk) hn.1 hn.2.1;have e1:(s.gG++[jN s.c gL addr ok]).set s.gG.length (mi s gL addr size ok)=s.gG++[mi s gL addr size ok]:=og _ _ _;have e2:(xs++[a]).set s.gG.length a=xs++[a]:=by rw[<-rC];exact og _ _ _
 rw[e2]at h1;simp only[e1]at h1;exact⟨h1,oj hc Eb (fun x hx=>aV (by subst hx;exact C5 _ (a_ rfl))),hA6⟩
theorem Y9{w7:World}{s7:ik}{TH:Value}{UH:List Nat}{xs7:List iP}{ws7:List Nat}{b:List Int}{fv v1:Value}{o1:List (Int×List Int)}{s0:ik}{ws0:List Nat}(h0:jt N0 w sb s0 cm wv gP xs ws0)(hu7:∀k,qz xs7 k->qz xs k)
  (hP:jt N w7 sb s7 cm TH UH xs7 ws7) (hi:s7.gG[i]? =some c) (g1:UH[i]? =some cb) (g2:xs7[i]? =some a) (hI:iQ M L s7) (hM:M<=1125899906842624) (kI:me w7 fv b) (rm:iF b) (hl:b.length<=1073741823) (hn:b.length<=n) (hN:N+b.length<1125899906842624) (hE:∀W,ip (jH cb a) w7 W->Env W)
  (hc:ip (lh sb cm wv gP xs) w w7) (nz:∀k,lh sb cm TH UH xs7 k->lh sb cm wv gP xs k\/w.heap.size<=k) (ho:jW w7 b1 v1 o1) (im:w.heap.size<=b1) (iT:b1<=w7.heap.size) (wK:o1.length<=1):
  Calls ae 98 #[ai (some ⟨sb,0,none⟩),ai (some ⟨cb,0,none⟩),fv] w7 fun e w8=>∃v2,e=.returned v2/\(∃ao l c,v2=.slice ao l c)/\∀ty,∃v' w9,(bF #[47,47] ty #[v1,v2]).run ae w8=.ok v' w9/\(∃ao l c,v'=.slice ao l c)/\kw (N+b.length) w sb cm wv gP xs (ji s7 i b o1 n) (.returned v') w9:=by
 refine(FL N sb s7 cm TH UH xs7 ws7 i cb c a b n fv w7 hP hi g1 g2 hI hM kI rm hl hn hN hE).mono ?_;rintro e w8 ⟨⟨v2,wv8,acb,xs8,ws8,rfl,yW,hP8,acL,hu8⟩,hc8⟩;have ho':=ho.iO hc8 (fun k cur fr hk=>uh hP hk (a_ rfl)) (fun k cur fr hk=>uh hP hk (aV rfl));have X7:=LC hi b n;obtain⟨a2,c2,e2⟩:=yW.at.form;refine⟨v2,rfl,⟨_,_,_,e2⟩,fun ty=>?_⟩
 obtain⟨v',w9,kk,ho9,hg9⟩:=J1 w7 w8 b1 v1 v2 o1 _ ho hc8 (fun k cur fr hk=>uh hP hk (a_ rfl)) (fun k cur fr hk=>uh hP hk (aV rfl)) yW (fun k k1 k2 hA=>by
  rcases hu8 k hA with h1|h1
  ·have:=Ga h0 (hu7 k h1);omega
  ·omega) (by omega) iT ty
 obtain⟨a3,c3,e3⟩:=ho9.at.form;obtain⟨out,gY,_⟩:=ho';have hc9:ip (fun k=>v1.ownBlock=some k) w8 w9:=⟨hg9.os,hg9.tape,hg9.output,hg9.size,fun k hk js=>hg9.block k hk (fun e=>js e.symm)⟩;have hP9:=hP8.other hc9 (fun k hk=>by obtain⟨cs,e⟩:=ii gY hk;exact⟨cs,_,e⟩);refine⟨v',w9,kk,⟨_,_,_,e3⟩,?_⟩;rw[I_ hi b o1 n];refine⟨⟨v',wv8,acb,xs8,ws8,rfl,ho9.mono im,hP9,fun k hk=>?_,fun k hk=>(hu8 k hk).imp (hu7 k) (fun h1=>cw hc.size h1)⟩,?_⟩
 ·rcases acL k hk with h1|h1
  ·exact nz k h1
  ·exact aV (cw hc.size h1)
 ·refine oj (oj hc hc8 nz) hc9 (fun k hk=>aV ?_);have:=(gY.lt k hk).1;omega
theorem Gq(s:ik)(gL addr size:Int)(ok:Bool):{jN s.c gL addr ok with jc:=(jN s.c gL addr ok).jc+size,heard:=s.now}=jL s gL addr size ok:=by
 simp[jN,jL,my]
theorem Tq{α:Type}{C:vH α}(hK:P.underlying K=some (.int .i64))(ht:P.underlying t=some (.map K e)){l:List (Int×α)}(h:kG C P K w b n l)(hn:n<maxLen){k:Int}(hk:(Lit.int .i64 k).wf=true){y:α}(ka:rV l k=none):
  ∃w',(Instr.mapUpdate t (.map (some b)) (af ag k) (C.V y)).run P w=.ok () w'/\kG C P K w' b (n+1) (l++[(k,y)])/\w.grownBy w' (some b):=by
 obtain⟨D,gY,ok⟩:=h;obtain⟨w',hr,h1,h2⟩:=gY.store (dF hK) ht hn (Maps.keyOf_int_mk hK hk) (C.val y);exact⟨w',hr,⟨_,h1,ok.put (gY.tidy (dF hK)) y ka⟩,h2.grown⟩
theorem CQ{sm dm:Nat}(h1:B<=cb)(h2:B<=sm)(h3:B<=dm):∀k,jH cb (kp sm dm) k->B<=k:=by
 rintro k (e|e|e|e|⟨p,hp,_⟩)
 ·omega
 ·simp[kp,Value.ownBlock]at e
 ·simp only[kp]at e;omega
 ·simp only[kp]at e;omega
 ·simp[kp]at hp
theorem MT(N:Nat)(sb:Nat)(s:ik)(cm:Nat)(wv:Value)(gP:List Nat)(xs:List iP)(ws:List Nat)(addr size:Int)(d:EX)(tv fv:Value)(ok:Bool)(b:List Int)(nn:Nat)(w:World)(h:jt N w sb s cm wv gP xs ws)(hI:iQ M L s)(Cb:∃ta tl tc,tv=.slice ta tl tc)(pw:nR s=false)(ka:d.gL∉s.gG.map (·.gL))(kb:0<=d.gL/\d.gL<=1073741823)(pX:0<=addr/\addr<256)(ku:0<=size/\size<=1125899906842624)(yS:0<=M)(hM:M+size+100<=1125899906842624)
  (kI:me w fv b) (rm:iF b) (hl:b.length<=1073741823) (hn:b.length<=nn) (hN:N+1+b.length<1125899906842624) (hE:∀W,ip (lh sb cm wv gP xs) w W->Env W):
  Calls ae 91 #[ai (some ⟨sb,0,none⟩),af ag addr,.agg (xq d size tv fv),.bool ok] w fun e w'=>kw (N+1+b.length) w sb cm wv gP xs (ji (nX s d.gL addr size ok) s.gG.length b (xW s d.gL addr size ok) nn) e w':=by
 obtain⟨t1,t2,t3,rfl⟩:=Cb;obtain⟨_,_,f1,f3,rfl,_⟩:=id kI;generalize X7:b.length=f2 at *
 have Fl:=hI.cfg;have h0:=Fl.c0;have h1:=Fl.c1;have h3:=Fl.c3;have h8:=Fl.c8;have wK:=hI.BA;obtain⟨n,QU,hm⟩:=h.map;have hL:((s.gG.map (·.gL)).zip gP).length=s.gG.length:=by simp[h.j7]
 have hmL:=hm.le;rw[hL]at hmL
 have yd:Hid (∀W,Below w.heap.size w W->Calls ae 28 #[ai (some ⟨sb,0,none⟩)] W fun e w'=>e=.returned (af ag (nP s))/\∃n,w'=W.drewN n):=by
  intro W hb;have h2:=xd sb s.c s.now cm wv n _ W (h.i_.below hb) (hm.same (hb.block cm hm.lt)) (by omega) (by omega) (by omega);rw[hL]at h2;exact h2
 have Aj:Hid (∀W,Below w.heap.size w W->Calls ae 55 #[ai (some ⟨sb,0,none⟩)] W fun e w'=>e=.returned (af ag (jZ s.c))/\∃n,w'=W.drewN n):=by
  intro W hb;exact AY sb s.c s.now cm wv W (h.i_.below hb) (by omega) (by omega)
 have mH:0<=jZ s.c/\jZ s.c<=5000:=by unfold jZ;omega
 have Az:0<=nP s/\nP s<=5000000:=by
  unfold nP;have hl:(s.gG.length:Int)<=1000:=by omega
  constructor
  ·exact ec (by omega) mH.1
  ·exact Int.le_trans (ef hl mH.2 mH.1 (by omega)) (by decide)
 have ny:Below w.heap.size w (w.alloc (.cells #[af ag d.kind,af ag size,af ag d.gL,.slice t1 t2 t3,af ag d.num,.slice f1 f2 f3] 107)):=gH w _;have rW:=h.i_.below ny
 have abJ:∀(q:Nat) (ty:TypeId),(eh #[98] ty #[.map (some cm)]).run ae ((w.alloc (.cells #[af ag d.kind,af ag size,af ag d.gL,.slice t1 t2 t3,af ag d.num,.slice f1 f2 f3] 107)).drewN q)=.ok (af ag s.gG.length) ((w.alloc (.cells #[af ag d.kind,af ag size,af ag d.gL,.slice t1 t2 t3,af ag d.num,.slice f1 f2 f3] 107)).drewN q):=by
  intro q ty;have h2:=Kl (e:=97) underlying98 (hm.same ((gK ny q).block cm hm.lt)) ty;rw[hL]at h2;exact h2
 have hd:decide (s.c.c0<=(s.gG.length:Int))=false:=by
  unfold nR at pw;simp at pw;exact decide_eq_false (by omega)
 have hmm:¬s.c.c8<nP s+jZ s.c:=by
  unfold nR at pw;simp at pw;omega
 have yb:Hid ((w.alloc (.cells #[af ag d.kind,af ag size,af ag d.gL,.slice t1 t2 t3,af ag d.num,.slice f1 f2 f3] 107)).heap[w.heap.size]? =some (.cells #[af ag d.kind,af ag size,af ag d.gL,.slice t1 t2 t3,af ag d.num,.slice f1 f2 f3] 107 (0,0))):=heap_alloc_new w _;have HZ:Hid (w.heap.size<(w.alloc (.cells #[af ag d.kind,af ag size,af ag d.gL,.slice t1 t2 t3,af ag d.num,.slice f1 f2 f3] 107)).heap.size):=by show _<_;simp
 have k0:(w.alloc (.cells #[af ag d.kind,af ag size,af ag d.gL,.slice t1 t2 t3,af ag d.num,.slice f1 f2 f3] 107)).cell? ⟨sb,0,none⟩= some (af ag s.c.c0):=rW.cell 0;have k1:(w.alloc (.cells #[af ag d.kind,af ag size,af ag d.gL,.slice t1 t2 t3,af ag d.num,.slice f1 f2 f3] 107)).cell? ⟨sb,1,none⟩= some (af ag s.c.c1):=rW.cell 1;have k2:(w.alloc (.cells #[af ag d.kind,af ag size,af ag d.gL,.slice t1 t2 t3,af ag d.num,.slice f1 f2 f3] 107)).cell? ⟨sb,2,none⟩= some (af ag s.c.c2):=rW.cell 2;have k3:(w.alloc (.cells #[af ag d.kind,af ag size,af ag d.gL,.slice t1 t2 t3,af ag d.num,.slice f1 f2 f3] 107)).cell? ⟨sb,3,none⟩= some (af ag s.c.c3):=rW.cell 3;have k4:(w.alloc (.cells #[af ag d.kind,af ag size,af ag d.gL,.slice t1 t2 t3,af ag d.num,.slice f1 f2 f3] 107)).cell? ⟨sb,4,none⟩= some (af ag s.c.c4):=rW.cell 4;have k5:(w.alloc (.cells #[af ag d.kind,af ag size,af ag d.gL,.slice t1 t2 t3,af ag d.num,.slice f1 f2 f3] 107)).cell? ⟨sb,5,none⟩= some (af ag s.c.c5):=rW.cell 5;have k6:(w.alloc (.cells #[af ag d.kind,af ag size,af ag d.gL,.slice t1 t2 t3,af ag d.num,.slice f1 f2 f3] 107)).cell? ⟨sb,6,none⟩= some (af ag s.c.c6):=rW.cell 6;have k7:(w.alloc (.cells #[af ag d.kind,af ag size,af ag d.gL,.slice t1 t2 t3,af ag d.num,.slice f1 f2 f3] 107)).cell? ⟨sb,7,none⟩= some (af ag s.c.c7):=rW.cell 7;have k8:(w.alloc (.cells #[af ag d.kind,af ag size,af ag d.gL,.slice t1 t2 t3,af ag d.num,.slice f1 f2 f3] 107)).cell? ⟨sb,8,none⟩= some (af ag s.c.c8):=rW.cell 8;have k9:(w.alloc (.cells #[af ag d.kind,af ag size,af ag d.gL,.slice t1 t2 t3,af ag d.num,.slice f1 f2 f3] 107)).cell? ⟨sb,9,none⟩= some (af ag s.c.c9):=rW.cell 9;have yZ:(w.alloc (.cells #[af ag d.kind,af ag size,af ag d.gL,.slice t1 t2 t3,af ag d.num,.slice f1 f2 f3] 107)).cell? ⟨sb,10,none⟩= some (af ag s.now):=rW.cell 10;have tS:(w.alloc (.cells #[af ag d.kind,af ag size,af ag d.gL,.slice t1 t2 t3,af ag d.num,.slice f1 f2 f3] 107)).cell? ⟨sb,11,none⟩= some (.map (some cm)):=rW.cell 11;have b2:(w.alloc (.cells #[af ag d.kind,af ag size,af ag d.gL,.slice t1 t2 t3,af ag d.num,.slice f1 f2 f3] 107)).cell? ⟨w.heap.size,2,none⟩= some (af ag d.gL):=by simp
 have HA:Hid (∀W W':World,Below W.heap.size W W'->(W.cell? ⟨sb,0,none⟩= some (af ag s.c.c0)/\W.cell? ⟨sb,1,none⟩= some (af ag s.c.c1)/\W.cell? ⟨sb,2,none⟩= some (af ag s.c.c2)/\W.cell? ⟨sb,3,none⟩= some (af ag s.c.c3)/\W.cell? ⟨sb,4,none⟩= some (af ag s.c.c4)/\W.cell? ⟨sb,5,none⟩= some (af ag s.c.c5)/\W.cell? ⟨sb,6,none⟩= some (af ag s.c.c6)/\W.cell? ⟨sb,7,none⟩= some (af ag s.c.c7)/\W.cell? ⟨sb,8,none⟩= some (af ag s.c.c8)/\W.cell? ⟨sb,9,none⟩= some (af ag s.c.c9)/\W.cell? ⟨w.heap.size,2,none⟩= some (af ag d.gL))->(W'.cell? ⟨sb,0,none⟩= some (af ag s.c.c0)/\W'.cell? ⟨sb,1,none⟩= some (af ag s.c.c1)/\W'.cell? ⟨sb,2,none⟩= some (af ag s.c.c2)/\W'.cell? ⟨sb,3,none⟩= some (af ag s.c.c3)/\W'.cell? ⟨sb,4,none⟩= some (af ag s.c.c4)/\W'.cell? ⟨sb,5,none⟩= some (af ag s.c.c5)/\W'.cell? ⟨sb,6,none⟩= some (af ag s.c.c6)/\W'.cell? ⟨sb,7,none⟩= some (af ag s.c.c7)/\W'.cell? ⟨sb,8,none⟩= some (af ag s.c.c8)/\W'.cell? ⟨sb,9,none⟩= some (af ag s.c.c9)/\W'.cell? ⟨w.heap.size,2,none⟩= some (af ag d.gL))):=fun W W' hb h=>⟨gF h.1 hb,gF h.2.1 hb,gF h.2.2.1 hb,gF h.2.2.2.1 hb,gF h.2.2.2.2.1 hb,gF h.2.2.2.2.2.1 hb,gF h.2.2.2.2.2.2.1 hb,gF h.2.2.2.2.2.2.2.1 hb,gF h.2.2.2.2.2.2.2.2.1 hb,gF h.2.2.2.2.2.2.2.2.2.1 hb,gF h.2.2.2.2.2.2.2.2.2.2 hb⟩
 have QH:=gE (fun W=>Rv s.c d.gL addr ok W (by omega));have V':=gE (xi (k:=d.gL) (by omega))
 have HNo:Hid (rV ((s.gG.map (·.gL)).zip gP) d.gL=none):=by
  refine un.2 ?_;rw[d' (by simp[h.j7])];exact ka
 have HH:=gE h;have HI:=gE hI;have HMp:=gE hm;have hMa:n<maxLen:=by unfold maxLen;omega
 obtain⟨OP,s8⟩:∃x,jZ s.c=x:=⟨_,rfl⟩;obtain⟨mem,kx⟩:∃x,nP s=x:=⟨_,rfl⟩;rw[s8]at Aj mH hmm;rw[kx]at yd Az hmm;obtain⟨Gx,Gy⟩:=mH;obtain⟨Pn,Po⟩:=Az;have xL:=gE ny;have HBv:=gE kI;have HBy:=gE rm;have HEv:=gE hE;have HN:=gE ka;have HF:=gE pw;unfold xq Ll at *
 clear h hI Fl rW ny s8 kx pw hm hL kI rm hE ka;generalize tu:(w.alloc (.cells #[af ag d.kind,af ag size,af ag d.gL,.slice t1 t2 t3,af ag d.num,.slice f1 f2 f3] 107))=w0 at *
 have A8:=gE tu;clear tu;go_enter func91,ntmps91;go_wp2_with fail;rw[A8.out]
 go_quiet (first
  |(go_at_call 28;exact d_ (yd.out _ (gK xL.out _)))
  |(go_at_call 55;exact d_ (Aj.out _ (gK xL.out _))))
 have pW:=gK xL.out nq;have kj:Below w0.heap.size w0 (w0.drewN nq):=gK (Below.refl _ _) _;generalize w0.drewN nq=w1 at pW kj⊢;replace k0:=gF k0 kj;replace k1:=gF k1 kj;replace k2:=gF k2 kj;replace k3:=gF k3 kj;replace k4:=gF k4 kj;replace k5:=gF k5 kj;replace k6:=gF k6 kj;replace k7:=gF k7 kj;replace k8:=gF k8 kj;replace k9:=gF k9 kj;replace yZ:=gF yZ kj;replace tS:=gF tS kj;replace b2:=gF b2 kj;replace yb:=gE ((kj.block w.heap.size HZ.out).trans yb.out);replace HZ:=gE (cq HZ.out kj.size);have nB:=gE pW;clear pW kj yd Aj abJ A8 xL;go_wp2_with fail
 go_region_held3 (fun w'=>w'.cell? ⟨sb,0,none⟩= some (af ag s.c.c0)/\w'.cell? ⟨sb,1,none⟩= some (af ag s.c.c1)/\w'.cell? ⟨sb,2,none⟩= some (af ag s.c.c2)/\w'.cell? ⟨sb,3,none⟩= some (af ag s.c.c3)/\w'.cell? ⟨sb,4,none⟩= some (af ag s.c.c4)/\w'.cell? ⟨sb,5,none⟩= some (af ag s.c.c5)/\w'.cell? ⟨sb,6,none⟩= some (af ag s.c.c6)/\w'.cell? ⟨sb,7,none⟩= some (af ag s.c.c7)/\w'.cell? ⟨sb,8,none⟩= some (af ag s.c.c8)/\w'.cell? ⟨sb,9,none⟩= some (af ag s.c.c9)/\w'.cell? ⟨w.heap.size,2,none⟩= some (af ag d.gL)) (first|assumption|exact HA.out _ _ (gH _ _) (by assumption)|go_keep) (first
  |(go_at_call 145;refine(QH.out _).mono ?_;rintro e w2 ⟨⟨cb,sm,dm,rfl,KL,kS,ln,JK⟩,iT⟩;have yU:=HA.out _ _ iT (by assumption)))
 have At:=gI nB.out (ib iT);have CR:=ib iT;have e11:=gF tS CR;have e2:=gF b2 CR;have Q_:=gE ((CR.block w.heap.size HZ.out).trans yb.out);have Ym:w.heap.size<w1.heap.size:=HZ.out
 have hz:w.heap.size<cb/\w.heap.size<sm/\w.heap.size<dm:=by
  have e:w1.drew.heap.size=w1.heap.size:=rfl;omega
 have aat:Hid (∀w3:World,kG nv ae 3 w3 cm (n+1) ((s.gG.map (·.gL)).zip gP++[(d.gL,cb)])->w2.drew.grownBy w3 (some cm)->jt (N+1) w3 sb {s with gG:=s.gG++[jN s.c d.gL addr ok]} cm wv (gP++[cb]) (xs++[kp sm dm]) ws/\ip (lh sb cm wv gP xs) w w3/\w3.heap[w.heap.size]? =w2.heap[w.heap.size]?/\w2.heap.size<=w3.heap.size):=by
  intro w3 DW qa;have Jn:w2.grownBy w3 (some cm):=⟨qa.os,qa.tape,qa.output,qa.size,fun k hk js=>qa.block k hk js⟩;have jp:=HMp.out.lt;refine⟨HH.out.snoc At KL (fun k hk=>CQ (dS hz.1) (dS hz.2.1) (dS hz.2.2) k hk) (Int.le_refl _) (by omega) DW Jn,?_,?_,Jn.size⟩
  ·exact oj (ip.gS At) (⟨Jn.os,Jn.tape,Jn.output,Jn.size,fun k hk js=>Jn.block k hk (fun e=>js (Option.some.inj e))⟩:ip (fun k=>k=cm) w2 w3) (fun k hk=>a_ (aV (a_ hk)))
  ·exact Jn.block _ (cq Ym CR.size) (fun e=>by have:=Option.some.inj e;omega)
 have Zy:Hid (kG nv ae 3 w2.drew cm n ((s.gG.map (·.gL)).zip gP)):=HMp.out.same (At.block cm HMp.out.lt);have abG:w.heap.size<w2.heap.size:=cq Ym CR.size;have TQ:=gE abG;have HZc:=gE hz;clear yU iT KL kS ln JK At CR hz Ym abG k0 k1 k2 k3 k4 k5 k6 k7 k8 k9 yZ tS b2 HA QH yb HZ nB HMp hd hmm Gx Gy Pn Po h0 h1 h3 h8 hmL wK QU;go_wp2_with fail;obtain⟨w3,tQ,DW,qa⟩:=Tq (C:=nv) (e:=97) underlying3 underlying98 Zy.out hMa V'.out (y:=cb) HNo.out;replace tQ:(Instr.mapUpdate 98 (.map (some cm)) (af ag d.gL) (ai (some ⟨cb,0,none⟩))).run ae w2.drew=.ok () w3:=tQ
 go_region
 obtain⟨hP3,rE,WR,JK⟩:=aat.out w3 DW qa;have sj:=HH.out.j7;have rC:=HH.out.lA;have g0:(s.gG++[jN s.c d.gL addr ok])[s.gG.length]? =some (jN s.c d.gL addr ok):=oJ _ _;have g1:(gP++[cb])[s.gG.length]? =some cb:=by rw[<-sj];exact oJ _ _
 have g2:(xs++[kp sm dm])[s.gG.length]? =some (kp sm dm):=by rw[<-rC];exact oJ _ _
 have CU:iG w3 cb s.c (jN s.c d.gL addr ok) (aj none 0 0) sm dm (kU (jN s.c d.gL addr ok).gJ):=(hP3.kH s.gG.length _ cb _ g0 g1 g2).i_;have NR:=CQ (B:=w.heap.size) (dS HZc.out.1) (dS HZc.out.2.1) (dS HZc.out.2.2)
 have adi:sb≠cb:=by
  have h1:=HH.out.i_.lt;have h2:=HZc.out.1;omega
 have O5:=WR.trans Q_.out;have abH:w.heap.size<w3.heap.size:=cq TQ.out JK
 have Nk:Hid (∀(w7:World) (TH:Value) (ws7:List Nat) (v1:Value) (b1:Nat),jt (N+1) w7 sb (nX s d.gL addr size ok) cm TH (gP++[cb]) (xs++[kp sm dm]) ws7->ip (lh sb cm wv gP xs) w w7->(TH.ownBlock=wv.ownBlock\/∀k,TH.ownBlock=some k->w.heap.size<=k)->jW w7 b1 v1 (xW s d.gL addr size ok)->w.heap.size<=b1->b1<=w7.heap.size->
   Calls ae 98 #[ai (some ⟨sb,0,none⟩),ai (some ⟨cb,0,none⟩),.slice f1 f2 f3] w7 fun e w8=>∃v2,e=.returned v2/\(∃ao l c,v2=.slice ao l c)/\∀ty,∃v' w9,(bF #[47,47] ty #[v1,v2]).run ae w8=.ok v' w9/\(∃ao l c,v'=.slice ao l c)/\kw (N+1+f2) w sb cm wv gP xs (ji (nX s d.gL addr size ok) s.gG.length b (xW s d.gL addr size ok) nn) (.returned v') w9):=by
  intro w7 TH ws7 v1 b1 XN T1 U1 ho7 im iT;obtain⟨c7,acy⟩:=Mm s d.gL addr size ok;have hI7:=JZ (ok:=ok) HI.out kb pX ku.1 yS HN.out (by rw[HF.out];simp);subst X7
  have hu7:∀k,qz (xs++[kp sm dm]) k->qz xs k:=by
   rintro k ⟨a,ha,hk⟩;rcases List.mem_append.1 ha with h1|h1
   ·exact⟨a,h1,hk⟩
   ·rw[List.mem_singleton.1 h1]at hk;exact hk.elim
  refine Y9 HH.out hu7 XN acy g1 g2 hI7 hM (HBv.out.iO T1 (fun k cur fr hk=>uh HH.out hk (aV rfl))) HBy.out hl hn hN (fun W hW=>HEv.out W (oj T1 hW (fun x hx=>aV (NR x hx)))) T1 (fun k hk=>?_) ho7 im iT (PS _ _);rcases hk with e|e|e|⟨j,db,bb,e1,e2,e3⟩
  ·exact a_ (a_ e)
  ·exact a_ (aV (a_ e))
  ·rcases U1 with h|h
   ·rw[h]at e;exact a_ (aV (aV (a_ e)))
   ·exact aV (h k e)
  ·rcases aD j s.gG.length with hj|hj
   ·rw[aw (by omega)]at e1 e2;exact a_ (pu e1 e2 e3)
   ·have DV:j=s.gG.length:=by
     have:=(bm.1 e1).1;simp at this;omega
    subst DV;rw[g1]at e1;rw[g2]at e2
    cases e1
    cases e2
    exact aV (NR k e3)
 have HGe:=gE (CD cb s.c (jN s.c d.gL addr ok) (aj none 0 0) sm dm _ size w3 CU (by simp[jN,my]) ku);have HP3:=gE hP3;have Cp:=gE rE;have HNX:=gE NR;have HL1:=gE sj;have HL2:=gE rC;have F4:=gE g1;have q1:w3.cell? ⟨w.heap.size,1,none⟩= some (af ag size):=by simp only[aX,O5];rfl
 have Ra:=gE O5;have QK:=gE abH;clear hP3 rE WR JK g0 g2 CU NR O5 abH DW qa tQ aat Zy Q_ e11 e2 HNo V' hMa sj rC g1 HBv HBy HEv;go_wp2_with fail;refine HGe.out.mono ?_;rintro e w4 ⟨rfl,vK,ud⟩;have RT:=HP3.out.i_.iO ud adi;have Mw:w4.cell? ⟨sb,10,none⟩= some (af ag s.now):=RT.cell 10;have VX:=gE (An cb s.c _ (aj none 0 0) sm dm _ s.now w4 vK);have Xf:=gE ud;clear vK ud RT HGe q1;go_wp2_with fail;refine VX.out.mono ?_;rintro e w5 ⟨rfl,wG,Fk⟩
 have aaO:iG w5 cb s.c (jL s d.gL addr size ok) (aj none 0 0) sm dm (kU (jN s.c d.gL addr ok).gJ):=by
  rw[<-Gq];exact wG
 have QJ:=gE (zi cb s.c (jL s d.gL addr size ok) (aj none 0 0) sm dm _ w5 aaO HI.out.cfg pX kb ku (by simp[jL,my]));have Oj:=gE (Xf.out.trans Fk);clear wG aaO Fk VX Mw Xf;go_wp2_with fail;refine QJ.out.mono ?_;rintro e w6 ⟨⟨v1,rfl,St⟩,wb,Eb⟩;obtain⟨va,vc,rfl⟩:=St.form;obtain⟨hP6,aa9,hA6⟩:=Y8 HL1.out HL2.out HP3.out Cp.out HNX.out wb (Oj.out.trans Eb);have hz6:=(Oj.out.trans Eb).size;have aaX:w6.heap[w.heap.size]? =_:=((Oj.out.trans Eb).block w.heap.size QK.out (fun e=>by have:=HZc.out.1;omega)).trans Ra.out;have hz5:=Oj.out.size;have JK:=QK.out;have abI:=Eb.size;have V0:Hid (jW w6 w5.heap.size (.slice va (xW s d.gL addr size ok).length vc) (xW s d.gL addr size ok)):=St;have V6:=gE hP6;have Uo:=gE aa9;have Un:=gE aaX;have im:w.heap.size<=w5.heap.size:=by omega
 have Uk:=gE im;have aav:=gE abI;have HZ6:Hid (w.heap.size<w6.heap.size):=by show _<_;omega
 replace St:jW w6 w5.heap.size (.slice va (xW s d.gL addr size ok).length vc) (xW s d.gL addr size ok):=St;clear St hP6 aa9 hA6 aaX wb Eb hz6 hz5 JK abI im QJ HP3 Cp Oj HNX Ra QK TQ;obtain⟨ol,NS⟩:∃l,(xW s d.gL addr size ok).length=l:=⟨_,rfl⟩;have abn:(kB (jL s d.gL addr size ok) (ir s.c (jL s d.gL addr size ok)) []).length=ol:=NS;rw[abn];rw[NS]at V0;clear NS abn
 cases ok with
 |false=>
  have XN:jt (N+1) w6 sb (nX s d.gL addr size false) cm wv (gP++[cb]) (xs++[kp sm dm]) ws:=by
   have h:=V6.out;unfold nX;rw[if_neg (by simp)];exact h
  have HD:=gE (Nk.out w6 wv ws _ _ XN Uo.out (a_ rfl) V0.out Uk.out aav.out);have q5:w6.cell? ⟨w.heap.size,5,none⟩= some (.slice f1 f2 f3):=by simp only[aX,Un.out];rfl
  clear XN Nk V6 Uo V0 Un Uk;go_wp2_with fail;refine HD.out.mono ?_;rintro e w8 ⟨v2,rfl,⟨a2,l2,c2,rfl⟩,RW⟩;obtain⟨v',w9,kk,⟨a9,l9,c9,rfl⟩,hS⟩:=RW 47;have HS:=gE hS;have Rk:=gE kk;clear hS kk RW HD q5
  go_wp2_with (first
   |(at_builtin;refine iY rfl _ _ 47 47 rfl _ _ rfl rfl Rk.out ?_;refine Hid.out ?_))
  refine gE ?_;go_wp2_with fail;go_ret;exact HS.out
 |true=>
  have QZ:ws.length<=1000:=by
   have h1:=HH.out.VO;have h2:=HI.out.BA;have h3:=HI.out.cfg.c0;omega
  have HWa:=gE (FQ sb s.c s.now cm wv ws cb w6 V6.out.i_ V6.out.row QZ);clear QZ;go_wp2_with fail;refine HWa.out.mono ?_;rintro e w7 ⟨rfl,⟨TH,TX,ho7,U1⟩,T1⟩;have NP:=vy s d.gL addr size true;have KP:=HI.out.last
  have XN:jt (N+1) w7 sb (nX s d.gL addr size true) cm TH (gP++[cb]) (xs++[kp sm dm]) (ws++[cb]):=by
   have h:=(V6.out.more (i:=s.gG.length) (lw:=s.last+1) (oJ _ _) F4.out (by rw[NP.2.1];omega) (fun e he=>by
    rcases List.mem_append.1 he with h1|h1
    ·have:=HI.out.waits e h1;omega
    ·rw[List.mem_singleton.1 h1,NP.2.1];omega) (by omega) TX ho7 T1).last (s.last+1)
   unfold nX;rw[if_pos rfl];simp only[og]at h;exact h
  have Jg:ip (Ct sb cm wv) w6 w7:=T1.mono fun k _ e=>e.elim a_ (fun e=>aV (aV e))
  have aa1:=oj Uo.out Jg (fun k hk=>a_ (ui hk));have hO7:=V0.out.iO Jg (fun k cur fr hk=>oF V6.out hk (by decide) (by decide)) (fun k cur fr hk=>oF V6.out hk (by decide) (by decide));have HD:=gE (Nk.out w7 TH _ _ _ XN aa1 (U1.imp id fun h k hk=>by have:=h k hk;have:=HZ6.out;omega) hO7 Uk.out (cw aav.out T1.size))
  have aaY:w7.heap[w.heap.size]? =_:=(T1.block w.heap.size HZ6.out (fun e=>by
   rcases e with e|e
   ·have:=HH.out.i_.lt;omega
   ·have:=(HH.out.row.lt _ e).2;omega)).trans Un.out
  have q5:w7.cell? ⟨w.heap.size,5,none⟩= some (.slice f1 f2 f3):=by simp only[aX,aaY];rfl
  clear XN Nk V6 Uo V0 Un Uk TX ho7 U1 T1 Jg aa1 hO7 aaY NP KP HWa;go_wp2_with fail;refine HD.out.mono ?_;rintro e w8 ⟨v2,rfl,⟨a2,l2,c2,rfl⟩,RW⟩;obtain⟨v',w9,kk,⟨a9,l9,c9,rfl⟩,hS⟩:=RW 47;have HS:=gE hS;have Rk:=gE kk;clear hS kk RW HD q5
  go_wp2_with (first
   |(at_builtin;refine iY rfl _ _ 47 47 rfl _ _ rfl rfl Rk.out ?_;refine Hid.out ?_))
  refine gE ?_;go_wp2_with fail;go_ret;exact HS.out
end Go.Proofs.YthmdjhlhodpbhaaGreatDoor
