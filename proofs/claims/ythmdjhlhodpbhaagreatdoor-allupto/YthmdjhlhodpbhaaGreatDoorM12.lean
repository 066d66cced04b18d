import Derived.LaidEqlPtr
import Derived.Test.YthmdjhlhodpbhaaGreatDoorM11
set_option maxHeartbeats 16000000
set_option maxRecDepth 8000
set_option linter.all false
namespace Go.Proofs.YthmdjhlhodpbhaaGreatDoor
open Go.RowKit
open _root_.List renaming getElem?_eq_getElem → ap, mem_of_getElem? → bS, getElem?_eq_some_iff → bo, getElem_of_mem → dw, length_eraseIdx → eg, findIdx?_eq_some_iff_getElem → cQ, map_fst_zip → ei, length_eq_zero_iff → d', filter_cons → el, filter_eq_self → eo, getElem?_append_right → bN, append_nil → ep, mem_or_eq_of_mem_set → dh, getElem?_zip_eq_some → eq, length_append → bL, zip_cons_cons → er, drop_drop → es, getElem?_cons_zero → ce
open _root_.Or renaming inl → bg, inr → bf
open _root_.Nat renaming lt_of_lt_of_le → ca, le_trans → bZ, le_refl → ar, le_add_right → eh, le_of_lt → ej, lt_or_ge → ay
open _root_.Array renaming getElem?_eq_some_iff → bn
open _root_.And renaming intro → co
open Go.Builtin renaming append_ → bB, len_ → eu
open Go.Instr renaming lookup → dZ, slice → dI
open Go.IntKind renaming wrap_i64 → dq
open Go.Value renaming slice → aJ, cells → et
open Go.Maps renaming int_keyed → dQ
open Go.Calls renaming quiet_of → cP
open _root_.Int renaming mul_nonneg → cU, mul_le_mul → cV, le_refl → de
open Go.Region renaming wanted → bk
open _root_.Go renaming World → aK, Value → aM, Calls → aL, run_underlying → dM, Ending → ed, maxLen → aO, TypeId → bG, heap_alloc_new → cA
open _root_.Go.Proofs.Tryz
open _root_.Go.Proofs.Tryz renaming prog → ab
open Go.Value renaming slice → ai, pointer → ag
attribute [local simp] CV CI Bw mc lq io
variable {a d f i cb n N' base A:Nat}{b w o z5:World}{m v w4 v5:List Nat}{e h q:Value}{c g u l num lw:Int}{p s s':gg}{Q xs:List gw}{j:fV}{t x t6:List (Int×List Int)}{k z2:List Int}{x1:zh}{z6 u4:gw}{z y8 u5:TypeId}{F L u7:Nat->Prop}{r:gg×List (Int×List Int)}{ok:Bool}{D:Array Value}{w8:List (Int×Nat)}{u8:Nat->Bool}{x3:Nat×Nat}{y5:Program}
def xB(w:aK)(b:Nat):Prop:=∃cs t,w.heap[b]? =some (.cells cs t (0,0))
theorem Mv(k:xB b a)(l:xB b d):(binOp .eql 97 (Pt a) (Pt d)).run ab b=.ok (.bool (decide (a=d))) b:=by
 obtain⟨e,f,m⟩:∃e,ab.info? 137=some e/\e.size≠0:=by
  have c:(ab.info? 137).map (fun i=>i.size)=some 24:=by kernel_rfl
  cases hi:ab.info? 137 with
  |none=>grind
  |some e=>grind
 by_cases c:a=d
 ·subst c;rw[decide_eq_true rfl];exact run_eql_ptr_same b (Ad a 0) underlying97 f
 ·rw[decide_eq_false c];obtain⟨c1,o,h⟩:=k;obtain⟨n,p,j⟩:=l;exact run_eql_ptr_other b underlying97 f m (fun g=>c (by injection g)) h j
theorem Bc(c:xB b a)(e:xB b d)(k:CV b f 0 (Pt d)):
  aL ab 100 #[Pt a,Pt f] b fun g j=>g=.returned (.bool (decide (a=d)))/\b=j:=by
 have h:=Mv c e;clear c e;generalize decide (a=d)=B at h⊢;go_enter func100,ntmps100;go_wp2_with fail;go_ret;exact⟨rfl,rfl⟩
def FW(l:List Nat)(q:Nat):Int:=match l.findIdx? fun b=>b==q with
 |some k=>k
 |none=>-1
theorem Bo(t:b.ownsRow 0 97 1 e m.length (jm m))(P:m.length<=1000)(h:∀f∈m,xB b f)(B:xB b a)(A:CV b d 0 (Pt a)):
  aL ab 153 #[e,.func (.func 100) #[] #[Pt d]] b fun x J=>x=.returned (II (FW m a))/\b=J:=by
 obtain⟨K,cap,rfl⟩:=gr t;have v:=fK t;have C:=fK (fun k l=>Bc (h k l) B A);clear t h B A;go_enter func153,ntmps153;go_wp2_with fail;go_loop [8] (fun i=>∃c:Nat,c<=m.length/\i=II c/\Hid (∀(g:Nat) f,g<c->m[g]? =some f->f≠a)) (fun i=>m.length-(intOf i).toNat);case atStart=>exact⟨0,Nat.zero_le _,rfl,fun g f j=>by omega⟩
 case round=>
  obtain⟨c,O,rfl,p⟩:=hrel;by_cases o:c<m.length
  ·obtain⟨k,l⟩:∃k,m[c]? =some k:=⟨_,ap o⟩;rcases v.out.2 with⟨_,N⟩|⟨D,L,M,y,_,H,Q,E,G,I⟩
   ·omega
   simp only[Value.slice.injEq]at y;obtain⟨rfl,_,rfl⟩:=y;have c1:b.cell? (Ad D c)=some (Pt k):=by rw[v.out.cellAt c (by omega)];simp[jm,l,vR]
   have u:=fK (C.out k (bS l));have w:=fK l;have n:=fK p;clear H I G E l p;go_wp2_with fail;refine u.out.mono ?_;rintro x R ⟨rfl,rfl⟩;clear u c1;by_cases q:k=a
   ·rw[decide_eq_true q];go_wp2_with fail;go_ret;refine⟨?_,rfl⟩;have s:m.findIdx? (fun f=>f==a)=some c:=by
     rw[cQ];refine⟨o,?_,fun g j=>?_⟩
     ·have:=w.out;rw[ap o]at this;simp only[Option.some.injEq]at this;simp[this,q]
     ·have:=n.out g _ j (ap (Nat.lt_trans j o));simpa using this
    unfold FW;rw[s];rfl
   ·rw[decide_eq_false q];go_wp2_with fail;go_round;case rel=>
     refine⟨c+1,by omega,by go_num,fun g f j h=>?_⟩;rcases ay g c with z|z
     ·exact n.out g f z h
     ·obtain rfl:g=c:=by omega
      obtain rfl:=Option.some.inj (w.out.symm.trans h);exact q
    case measure=>simp[intOf];omega
  ·obtain rfl:c=m.length:=by omega
   have n:=fK p;clear p;go_wp2_with fail;go_ret;refine⟨?_,rfl⟩;have s:m.findIdx? (fun f=>f==a)=none:=by rw[List.findIdx?_eq_none_iff];intro f h;obtain⟨g,j,rfl⟩:=dw h;have:=n.out g _ j (ap j);simpa using this
   unfold FW;rw[s];rfl
def jM(ws:List Nat)(q j:Nat):List Nat:=(ws.take j).filter fun b=>b != q
theorem sA(b:m[d]? =some f):jM m a (d+1)=jM m a d++if f=a then [] else [f]:=by unfold jM;rw[List.take_add_one,b,List.filter_append];grind
theorem F2:(jM m a d).length<=d:=by unfold jM;grind
theorem Ay(e:m[d]? =some a)(j:d<f)(h:f<=m.length):(jM m a f).length<f:=by
 induction f with
 |zero=>omega
 |succ f k=>
  obtain⟨c,b⟩:∃c,m[f]? =some c:=⟨_,ap (by omega)⟩;rw[sA b];rcases ay d f with g|g
  ·grind
  ·obtain rfl:d=f:=by omega
   rw[e]at b;simp only[Option.some.injEq]at b;subst b;simp;have:=F2 (m:=m) (a:=a) (d:=d);omega
theorem F1(a:List Nat)(b:Nat):jM a b a.length=a.filter fun c=>c != b:=by unfold jM;grind
theorem IL(c:a∉m):FW m a = -1/\(m.filter fun b=>b != a)=m:=by
 constructor
 ·unfold FW;grind
 ·rw[eo];grind
theorem IM(g:a∈m):∃b,FW m a=(b:Nat)/\m[b]? =some a/\jM m a (b+1)=m.take b:=by
 cases d:m.findIdx? (fun c=>c==a) with
 |none=>grind
 |some b=>
  obtain⟨l,h,j⟩:=cQ.1 d;have e:m[b]? =some a:=by grind
  refine⟨b,by unfold FW;rw[d],e,?_⟩;rw[sA e,if_pos rfl,ep];unfold jM;rw[eo];intro c f;obtain⟨n,k,rfl⟩:=dw f;grind
def lV(w:aK)(b:Nat):Prop:=∃cs,w.heap[b]? =some (.cells cs 137 (0,0))
theorem lV.gK(h:lV w a):xB w a:=by obtain⟨b,h⟩:=h;exact⟨b,_,h⟩
theorem lV.kept(h:lV w a)(g:w.heap[d]? =some (.cells D 97 (0,0)))(e:w.grownBy b (some d)):lV b a:=by
 obtain⟨c,h⟩:=h;refine⟨c,?_⟩;rw[e.block a (bn.1 h).1 (fun f=>?_)]
 ·exact h
 grind
theorem I2:(ab.info? 97).map (fun i=>(i.zero,i.size,i.bytes))=some (some (ag none),1,8):=by kernel_rfl
theorem wQ:(Go.sizeOf 97).run ab b=.ok 1 b:=by kernel_rfl
theorem J2:(zeroValue 97).run ab b=.ok (ag none) b:=by kernel_rfl
theorem Bl(y:w.ownsRow 0 97 1 e m.length (jm m))(c6:m.length<=1000)(Q:∀l∈m,lV w l)(T:lV w f)(M:CV w d 0 (Pt f))(a5:e.ownBlock≠some d):
  aL ab 99 #[e,.func (.func 100) #[] #[Pt d]] w fun j U=>∃a8,j=.returned a8/\U.ownsRow 0 97 1 a8 (m.filter fun l=>l != f).length (jm (m.filter fun l=>l != f))/\w.grownBy U e.ownBlock/\a8.ownBlock=e.ownBlock:=by
 have B:=fK (Bo y c6 (fun l d3=>(Q l d3).gK) T.gK M);by_cases R:f∈m
 ·obtain⟨N,c2,a3,c3⟩:=IM R;rw[c2]at B;have c4:=(bo.1 a3).1;rcases y.2 with⟨_,f3⟩|⟨g,cap,f1,rfl,_,b9,d9,a2,d6,e1⟩
  ·omega
  have d0:Hid (∀(wr:aK) (h:Nat),w.grownBy wr (some g)->h∈m->aL ab 100 #[Pt h,Pt d] wr fun j U=>j=.returned (.bool (decide (h=f)))/\wr=U):=by intro wr h a6 J;refine Bc ((Q h J).kept b9 a6).gK (T.kept b9 a6).gK ?_;show wr.cell? _=_;rw[World.cell?_of_block (a:=Ad d 0) (w:=w) (a6.block d (hK M) (fun j=>a5 j.symm))];exact M
  obtain⟨o,S⟩:∃o,m.length=o:=⟨_,rfl⟩;have G:=fK S;have c9:Hid (w.ownsRow 0 97 1 (nr g o cap) o (jm m)):=by rw[S]at y;exact y
  rw[S]at B c6 d9 c4⊢;have f4:cap<=9223372036854775807:=by unfold aO at a2;omega
  have d1:=fK a2;have b1:=fK a3;have b2:=fK c3;have g2:=dM underlying99;clear y Q T M a5 R c2 a3 c3 e1 d6 a2 S;go_enter func99,ntmps99;go_wp2_with fail;refine B.out.mono ?_;rintro j e4 ⟨rfl,rfl⟩;clear B;have f7:((N:Int) == -1)=false:=beq_eq_false_iff_ne.2 (by omega);go_wp2_with fail;go_loopw [5,6] (fun e2 a7 wr=>∃(b:Nat) (k:List Nat),N+1<=b/\b<=o/\a7=II b/\e2=II ((jM m f b).length:Nat)/\Hid (wr.ownsRow 0 97 1 (nr g o cap) o (jm k)/\k.length=o/\k.take (jM m f b).length=jM m f b/\k.drop b=m.drop b/\w.grownBy wr (some g))) (fun _ a7 _=>o-(intOf a7).toNat);case atStart=>
   refine⟨N+1,m,ar _,c4,by go_num,?_,c9.out,G.out,?_,rfl,?_⟩
   ·rw[b2.out];have:=G.out;congr 1;simp;omega
   ·rw[b2.out];simp
   ·exact⟨rfl,rfl,rfl,ar _,fun _ _ _=>rfl⟩
  case round=>
   obtain⟨b,k,f5,f6,rfl,rfl,u⟩:=hrel;by_cases d8:b<o
   ·obtain⟨h,J⟩:∃h,m[b]? =some h:=⟨_,ap (by rw[G.out];exact d8)⟩;have a0:k[b]? =some h:=by
     have q:(k.drop b)[0]? =(m.drop b)[0]?:=by rw[u.out.2.2.2.1]
     rw[List.getElem?_drop,List.getElem?_drop,Nat.add_zero]at q;rw[q,J]
    have c1:wr.cell? (Ad g b)=some (Pt h):=by rw[u.out.1.cellAt b (by omega)];simp[jm,a0,vR]
    have E:=fK (d0.out wr h u.out.2.2.2.2 (bS J));have I:(jM m f b).length<b:=Ay b1.out (by omega) (by rw[G.out];omega);have O:=fK (sA (a:=f) J);have e6:=fK a0;clear a0 J;by_cases D:h=f
    ·rw[decide_eq_true D]at E;have L:Hid (jM m f (b+1)=jM m f b):=by show _=_;rw[O.out,if_pos D,ep]
     clear O;have e8:=fK D;clear D;have e7:=fK I;generalize x:(jM m f b).length=c at *
     have K:=fK x;clear x I;go_wp2_with fail;refine E.out.mono ?_;rintro j c8 ⟨rfl,rfl⟩;clear E;go_wp2_with fail;go_roundw;case rel=>obtain⟨s,z,p,A,t⟩:=u.out;refine⟨b+1,k,by omega,by omega,by go_num,by rw[L.out,K.out],s,z,by rw[L.out,K.out];exact p,?_,t⟩;rw[<-es,<-es,A]
     case measure=>simp[intOf];omega
    ·rw[decide_eq_false D]at E;have L:Hid (jM m f (b+1)=jM m f b++[h]):=by show _=_;rw[O.out,if_neg D]
     obtain⟨s,z,p,A,t⟩:=u.out;have a4:(jM m f b).length<k.length:=by omega
     have Y:∃pT,wr.cell? (Ad g (jM m f b).length)=some pT:=by rw[s.cellAt _ (by omega)];exact⟨_,ap (by rw[wI];exact a4)⟩
     obtain⟨pT,Y⟩:=Y;obtain⟨n,H⟩:=fX s rfl;have e5:mc wr g (jM m f b).length:=frozen_of_row wr g _ _ _ H;have X:=fK (s.stored (jM m f b).length (Pt h));have b4:=fK (co z (co p (co A t)));clear s z p A t O H D u;have b3:=fK a4;have W:=fK I;generalize x:(jM m f b).length=c at Y e5 X b4 b3 W⊢;have K:=fK x;have f8:(c:Int)<(o:Int):=by have:=W.out;omega
     clear x I a4;go_wp2_with fail;refine E.out.mono ?_;rintro j c8 ⟨rfl,rfl⟩;clear E;go_wp2_with fail;go_roundw;case rel=>
      obtain⟨z,p,A,t⟩:=b4.out;refine⟨b+1,k.set c h,by omega,by omega,by go_num,?_,?_,by simp[z],?_,?_,?_⟩
      ·rw[L.out,bL,K.out];go_num
      ·have q:=X.out.1;have Z:(jm k).set c (Pt h)=jm (k.set c h):=by simp[jm,vR,List.map_set]
       rw[Z]at q;exact q
      ·rw[L.out,bL,K.out];simp only[List.length_cons,List.length_nil,Nat.zero_add];rw[List.take_add_one,List.take_set_of_le (ar _),p,List.getElem?_set_self (by have:=b3.out;omega)];rfl
      ·rw[List.drop_set_of_lt (by have:=W.out;omega),<-es,<-es,A]
      ·refine kq t X.out.2 (bg rfl)
     case measure=>simp[intOf];omega
   ·obtain rfl:b=o:=by omega
    obtain⟨s,z,p,A,t⟩:=u.out;have I:(jM m f b).length<b:=Ay b1.out (by omega) (by rw[G.out];omega);rcases s.2 with⟨j,_⟩|⟨f2,f0,n,j,_,H,f9,d5,b8,c7⟩
    ·cases j
    simp only[Value.slice.injEq,Option.some.injEq,Addr.mk.injEq,and_true,true_and]at j;obtain⟨rfl,rfl⟩:=j;have V:Hid (jM m f b=m.filter fun l=>l != f):=by show _=_;rw[<-F1,G.out]
    obtain⟨c,x⟩:∃c,(jM m f b).length=c:=⟨_,rfl⟩;rw[x]at p I⊢;have g0:∀C:aK,(dI 99 (nr g b cap) (some (II (c:Int))) none none).run ab C=.ok (ai (some (Ad g c)) (b-c) (cap-c)) C:=fun C=>by rw[pD underlying99 (wQ) (by omega),if_neg (by omega)];simp[Addr.add_lit]
    have g1:∀C:aK,(dI 99 (nr g b cap) none (some (II (c:Int))) none).run ab C=.ok (nr g c cap) C:=fun C=>by
     have q:c<=cap:=by omega
     simp[dI,Instr.sliceBounds,Instr.sliceBound,asIntOf,dM underlying99,wQ,q,Addr.add]
    have a9:=fK (fun e3=>pw (P:=ab) wr 99 97 e3 (ag none) underlying99 (J2 (b:=wr)) g c (b-c) (cap-c) (by omega) n 97 H (by simp[et];omega) (by simp[et,Value.oneCell']));have a1:(List.replicate (b-c) (Value.pointer none).cells.toList).flatten.length=b-c:=by simp[et]
    obtain⟨v,b7⟩:∃v,(List.replicate (b-c) (Value.pointer none).cells.toList).flatten=v:=⟨_,rfl⟩;rw[b7]at a9 a1;have b0:Hid ((wr.setRow g (f_ n.toList c v).toArray).ownsRow 0 97 1 (nr g c cap) (m.filter fun l=>l != f).length (jm (m.filter fun l=>l != f))/\w.grownBy (wr.setRow g (f_ n.toList c v).toArray) (some g)):=by
     have c5:(m.filter fun l=>l != f).length=c:=by rw[<-V.out,x]
     rw[c5];have e0:(f_ n.toList c v).length=n.toList.length:=gA (by rw[a1];simp;omega);refine⟨⟨by rw[wI,c5];omega,.inr ⟨g,cap,_,rfl,Nat.zero_le _,setRow_heap wr g n _ _ _ H,by omega,d1.out,by rw[List.size_toArray,e0];simpa using b8,?_⟩⟩,?_⟩
     ·rw[Nat.mul_one];have q:(f_ n.toList c v).take c=n.toList.take c:=by unfold f_;rw[List.append_assoc,List.take_append_of_le_length (by simp;omega),List.take_take,Nat.min_self]
      have Z:n.toList.take c=(jm k).take c:=by rw[<-c7,List.take_take,Nat.mul_one,Nat.min_eq_left (by omega)]
      have d4:(jm k).take c=jm (k.take c):=by simp[jm]
      show(f_ n.toList c v).toArray.toList.take c=_;rw[List.toList_toArray,q,Z,d4,p,V.out]
     ·refine kq t (z5:=wr.setRow g (f_ n.toList c v).toArray) (e:=some g) ⟨rfl,rfl,rfl,by simp[World.setRow],fun N _ d7=>setRow_other wr g N _ (fun j=>d7 (by rw[j]))⟩ (bg rfl)
    clear s z p A t H b8 c7 d5 a1 b7 u V;go_wp2_with (refine jd rfl _ _ rfl _ rfl (a9.out _) ?_;refine Hid.out ?_);refine fK ?_;go_wp2_with fail;go_ret;exact⟨_,rfl,b0.out.1,b0.out.2,rfl⟩
 ·obtain⟨b5,b6⟩:=IL R;rw[b5]at B;rw[b6];obtain⟨e9,cap,rfl⟩:=gr y;have d2:=fK y;clear y Q T M a5 R b5 b6;go_enter func99,ntmps99;go_wp2_with fail;refine B.out.mono ?_;rintro j e4 ⟨rfl,rfl⟩;clear B;go_wp2_with fail;go_ret;exact⟨_,rfl,d2.out,⟨rfl,rfl,rfl,ar _,fun _ _ _=>rfl⟩,rfl⟩
def oP(g:g_)(now:Int)(cm:Nat)(wv:aM):Array aM:=
 #[II g.c0,II g.c1,II g.c2,II g.c3,II g.c4,II g.c5,II g.c6,II g.c7,II g.c8,II g.c9,II now,.map (some cm),wv]
def mN(w:aK)(sb:Nat)(g:g_)(now:Int)(cm:Nat)(wv:aM):Prop:=w.heap[sb]? =some (.cells (oP g now cm wv) 101 (0,0))
theorem mN.cell{s:g_}(h:mN w a s c d e)(i:Nat):w.cell? (Ad a i)=(oP s c d e)[i]?:=by unfold mN at h;simp only[World.cell?,h];rfl
theorem mN.free{s:g_}(h:mN w a s c d e)(i:Nat):w.frozen? (Ad a i)=false:=frozen_of_row w a i _ _ h
theorem mN.lt{s:g_}(h:mN w a s c d e):a<w.heap.size:=(bn.1 h).1
theorem mN.gx{s:g_}(h:mN w a s c d e)(g:gm F w b)(f:¬F a):mN b a s c d e:=by unfold mN;rw[g.block a h.lt f];exact h
theorem mN.below{s:g_}(h:mN w a s c d e)(f:Bw w b):mN b a s c d e:=h.gx (F:=fun _=>False) (gm.fU f) (fun h=>h)
theorem wb{s:g_}(f:mN b a s c d e)(m:0<=s.c1/\s.c1<=1073741823)(n:0<=s.c3/\s.c3<=1073741823):
  aL ab 55 #[Pt a] b fun g j=>g=.returned (II (iT s))/\∃h,j=b.drewN h:=by
 have k:CI b a 1 s.c1:=f.cell 1;have l:CI b a 3 s.c3:=f.cell 3;have o:IntKind.i64.wrap (64+s.c1)=64+s.c1:=by rw[dq];omega
 have p:IntKind.i64.wrap (32*s.c3)=32*s.c3:=by rw[dq];omega
 have q:IntKind.i64.wrap (64+s.c1+32*s.c3)=64+s.c1+32*s.c3:=by rw[dq];omega
 clear f;unfold iT;go_enter func55,ntmps55;go_wp2_with fail;go_quiet (fail);go_wp2_with fail;go_ret;exact⟨rfl,_,rfl⟩
theorem sM{s:g_}(j:mN b a s c d e)(m:iO kb ab 3 b d f w8)(y:w8.length<=1000)(u:0<=s.c1/\s.c1<=4096)(v:0<=s.c3/\s.c3<=8):
  aL ab 28 #[Pt a] b fun l p=>l=.returned (II (w8.length*iT s))/\∃k,p=b.drewN k:=by
 have t:CV b a 11 (.map (some d)):=j.cell 11;have h:=fK (wb (a:=a) (s:=s) (c:=c) (d:=d) (e:=e) (b:=b) j (by omega) (by omega));have g:0<=iT s/\iT s<=5000:=by unfold iT;omega
 have o:IntKind.i64.wrap ((w8.length:Int)*iT s)=w8.length*iT s:=by have w:0<=(w8.length:Int)*iT s:=cU (by omega) g.1;have x:(w8.length:Int)*iT s<=1000*5000:=cV (by omega) g.2 g.1 (by omega);rw[dq];omega
 have n:=fK m;generalize iT s=q at h o⊢;clear j m g;go_enter func28,ntmps28;go_wp2_with (first
  |(at_len;refine EQ _ rfl _ 98 rfl 97 underlying98 d f w8 rfl n.out ?_))
 refine h.out.mono ?_;rintro l z ⟨rfl,k,rfl⟩;clear h;go_wp2_with fail;go_ret;exact⟨rfl,k,rfl⟩
structure uy(w:aK)(sb:Nat)(g:g_)(now:Int)(cm:Nat)(wv:aM)(J1:List Nat)(e:ed)(w':aK):Prop where
 ret:e=.returned (.tuple #[])
 ex:∃ES,mN w' sb g now cm ES/\w'.ownsRow 0 97 1 ES J1.length (jm J1)/\(ES.ownBlock=wv.ownBlock\/∀k,ES.ownBlock=some k->w.heap.size<=k)
 gx:gm (fun k=>k=sb\/wv.ownBlock=some k) w w'
theorem Bb{s:g_}(x:mN b a s c d e)(u:b.ownsRow 0 97 1 e m.length (jm m))(a0:m.length<=1000):
  aL ab 146 #[Pt a,Pt cb] b fun h t=>uy b a s c d e (m++[cb]) h t:=by
 obtain⟨Y,hi,V,W,X⟩:=info_parts I2;obtain⟨g,cap,rfl⟩:=gr u;have N:CV b a 12 (.slice g m.length cap):=x.cell 12;have G:Bw b (b.alloc (.cells #[Pt cb] 97)):=fO _ _;have v:Hid (∀B,∃q t,(bB #[99,99] B #[.slice g m.length cap,ai (some (gf b 0)) 1 1]).run ab (b.alloc (.cells #[Pt cb] 97))=.ok q t/\t.ownsRow 0 97 1 q (m.length+1) (jm m++[Pt cb])/\(b.alloc (.cells #[Pt cb] 97)).grownBy t (aJ g m.length cap).ownBlock/\(q.ownBlock=(aJ g m.length cap).ownBlock\/∀s,q.ownBlock=some s->(b.alloc (.cells #[Pt cb] 97)).heap.size<=s)):=
  fun B=>jR (P:=ab) _ 0 99 B 97 Y (ag none) 1 8 underlying99 hi V W X rfl (by decide) _ m.length (jm m) (gp u G) (gf b 0) 1 1 [Pt cb] rfl (gY (b:=b) (z:=97) (o:=[Pt cb]) (by simp[aO])) (by simp[Value.oneCell']) (by unfold aO;omega) (by omega) (Nat.zero_le _)
 have n:=fK x;have w:=fK u;obtain⟨f,A⟩:∃f,m.length=f:=⟨_,rfl⟩;have L:=fK A;rw[A]at N v n w⊢;have I:(aJ g f cap).ownBlock≠some a:=fR w.out n.out (by decide);clear x u A;obtain⟨q,l,J,p,H,E⟩:=v.out 99;obtain⟨C,D,rfl⟩:=gr p;have j:=ga H;have o:mN l a s c d (.slice g f cap):=by unfold mN;rw[j.block a n.out.lt (fun h=>I h.symm)];exact n.out
 have Z:CV l a 12 (.slice g f cap):=o.cell 12;have a1:=o.free 12;have K:Hid (uy b a s c d (.slice g f cap) (m++[cb]) (.returned (.tuple #[])) (l.setCell (Ad a 12) (.slice C (f+1) D))):=by
  have U:mN (l.setCell (Ad a 12) (.slice C (f+1) D)) a s c d (.slice C (f+1) D):=fT o _ _;refine⟨rfl,⟨_,U,?_,?_⟩,?_⟩
  ·have O:jm m++[Pt cb]=jm (m++[cb]):=by simp[jm,vR]
   rw[O]at p;have Q:(m++[cb]).length=f+1:=by simp[L.out]
   rw[Q];have S:l.heap[a]? =some (.cells (oP s c d (.slice g f cap)) 101 (0,0)):=o;exact ownsRow_setCell_other p (fR p S (by decide)) _
  ·rcases E with y|y
   ·exact bg y
   ·exact bf fun k z=>by have:=y k z;simp at this;omega
  ·have R:gm (fun k=>k=a\/(aJ g f cap).ownBlock=some k) b l:=⟨j.os,j.tape,j.output,j.size,fun k z T=>j.block k z (fun h=>T (bf h.symm))⟩;exact R.trans ((go (Below.refl _ _) _ _).mono fun k _ h=>bg h)
 have M:=fK J;clear J p H E j o v w n G I;go_enter func146,ntmps146;go_wp2_with (first
  |(at_builtin;refine gJ rfl _ _ _ _ rfl _ _ rfl rfl M.out ?_;refine Hid.out ?_))
 refine fK ?_;go_wp2_with fail;go_end0;exact K.out
theorem oI(d:Nat)(k:g_)(n:Int)(j:Nat)(y:aM)(b:List Nat)(cb:Nat)(c:aK)(p:mN c d k n j y)(q:c.ownsRow 0 97 1 y b.length (jm b))(E:b.length<=1000)(C:∀a∈b,lV c a)(J:lV c cb):
  aL ab 50 #[Pt d,Pt cb] c fun g T=>uy c d k n j y (b.filter fun a=>a != cb) g T:=by
 have w:Bw c (c.alloc (.cells #[Pt cb] 97)):=fO _ _;have z:∀a,lV c a->lV (c.alloc (.cells #[Pt cb] 97)) a:=by rintro a ⟨M,D⟩;exact⟨M,by rw[w.block a (bn.1 D).1];exact D⟩
 have I:y.ownBlock≠some c.heap.size:=fun g=>by have:=(q.lt _ g).2;omega
 have t:=fK (Bl (gp q w) E (fun a O=>z a (C a O)) (z cb J) (by simp) I);obtain⟨f,cap,rfl⟩:=gr q;have B:=p.below w;have N:CV (c.alloc (.cells #[Pt cb] 97)) d 12 (.slice f b.length cap):=B.cell 12;have H:(aJ f b.length cap).ownBlock≠some d:=fR q p (by decide);have u:Hid (∀(e:aK) (o:aM),e.ownsRow 0 97 1 o (b.filter fun a=>a != cb).length (jm (b.filter fun a=>a != cb))->(c.alloc (.cells #[Pt cb] 97)).grownBy e (aJ f b.length cap).ownBlock->o.ownBlock=(aJ f b.length cap).ownBlock->mN e d k n j (.slice f b.length cap)/\uy c d k n j (.slice f b.length cap) (b.filter fun a=>a != cb) (.returned (.tuple #[])) (e.setCell (Ad d 12) o)):=by
  intro e o m x v;have l:=ga x;have h:mN e d k n j (.slice f b.length cap):=by unfold mN;rw[l.block d p.lt (fun g=>H g.symm)];exact p
  have Q:e.heap[d]? =some (.cells (oP k n j (.slice f b.length cap)) 101 (0,0)):=h;refine⟨h,rfl,⟨_,fT h _ _,ownsRow_setCell_other m (fR m Q (by decide)) _,bg v⟩,?_⟩;have P:gm (fun s=>s=d\/(aJ f b.length cap).ownBlock=some s) c e:=⟨l.os,l.tape,l.output,l.size,fun s R S=>l.block s R (fun g=>S (bf g.symm))⟩;exact P.trans ((go (Below.refl _ _) _ _).mono fun s _ g=>bg g)
 generalize b.filter (fun a=>a != cb)=J1 at t u⊢;obtain⟨A,G⟩:∃A,b.length=A:=⟨_,rfl⟩;rw[G]at N t u⊢;clear p q G C J z I B H w E;go_enter func50,ntmps50;go_wp2_with fail;refine t.out.mono ?_;rintro g e ⟨o,rfl,m,x,v⟩;obtain⟨h,K⟩:=u.out e o m x v;obtain⟨V,W,rfl⟩:=gr m;have U:CV e d 12 (.slice f A cap):=h.cell 12;have X:=h.free 12;have L:=fK K;clear m x v h K t u;go_wp2_with fail;go_end0;exact L.out
theorem BA{O:Bool}(d:CV b cb 12 (.bool O)):
  aL ab 42 #[Pt cb] b fun a c=>a=.returned (.bool O)/\b=c:=by
 go_enter func42,ntmps42;go_wp2_with fail;go_ret;exact⟨rfl,rfl⟩
def tP(pv:Nat->Bool)(l:List (Int×Nat)):Nat:=l.countP fun p=>!pv p.2
theorem KD{b:List (Int×Nat)}:tP u8 (w8++(c,a)::b)=tP u8 (w8++b)+if u8 a then 0 else 1:=by unfold tP;grind
theorem Mt:tP u8 w8<=w8.length:=List.countP_le_length
theorem zI{s:g_}{g:aK}(t:mN g a s c d e)(V:iO kb ab 3 g d f w8)(Y:∀l∈w8,CV g l.2 12 (.bool (u8 l.2)))(b6:w8.length<=1000):
  aL ab 92 #[Pt a] g fun A b0=>A=.returned (II (tP u8 w8:Nat))/\Bw g b0:=by
 have a4:CV g a 11 (.map (some d)):=t.cell 11;have b4:=Mt (u8:=u8) (w8:=w8);have a2:=fK V;have a3:=fK Y;clear t V Y;go_enter func92,ntmps92;go_wp2_with (first
  |(at_range;refine mS _ rfl _ 98 rfl 97 underlying3 underlying98 d f w8 rfl a2.out ?_;intro b1 X U a8))
 have R:Bw g b1:=lz U;have N:=fK (co X R);clear X U a8 R a4;go_frame;go_loopw [3] (fun a9 w=>∃(rest:List (Int×Nat)) (z k:Nat),iH kb ab 3 w d g.heap.size f w8 rest z/\a9=II (k:Nat)/\Hid (k+tP u8 rest=tP u8 w8)/\Hid (∀l∈rest,l∈w8)/\Bw g w) (fun _ w=>w.rangeLeft d g.heap.size);case atStart=>exact⟨w8,_,0,N.out.1,rfl,fK (Nat.zero_add _),fun l h=>h,N.out.2⟩
 case round=>
  obtain⟨rest,z,k,W,rfl,a0,a1,S⟩:=hrel;have x:=fK S;have O:=fK W;clear S;go_wp2_with (first
   |(at_next;refine nK _ rfl _ rfl underlying3 d g.heap.size f w8 rest z rfl W ?_ ?_))
  ·intro a7;subst a7;have a5:k=tP u8 w8:=by have:=a0.out;simpa[tP] using this
   go_wp2_with fail;go_ret;exact⟨by rw[a5];rfl,x.out⟩
  ·intro v m o p M P J b7 Q K I G Z b5;have H:(v,m)∈w8:=a1.out _ (by rw[J];simp);have u:Bw g M:=x.out.grown G x.out.size (fun s a6=>by cases a6;exact ar _);have E:CV M m 12 (.bool (u8 m)):=fL (a3.out (v,m) H) u;have n:=KD (u8:=u8) (w8:=o) (b:=p) (c:=v) (a:=m);rw[<-J]at n;have L:Hid (∀l∈o++p,l∈w8):=fun l h=>a1.out l (by rw[J];simp at h⊢;rcases h with t|t<;>simp[t]);have T:=a0.out;have q:=fK (BA (cb:=m) (O:=u8 m) (b:=M) E);have j:=fK (co K (co u (co I L)));cases h:u8 m with
   |true=>
    rw[h]at q;have y:Hid (k+tP u8 (o++p)=tP u8 w8):=by show _=_;rw[h]at n;simp at n;omega
    clear n u E H K I L G Z Q T h;go_wp2_with fail;refine q.out.mono ?_;rintro A b2 ⟨rfl,rfl⟩;clear q;go_wp2_with fail;go_roundw;case rel=>exact⟨o++p,P,k,j.out.1,rfl,y,j.out.2.2.2,j.out.2.1⟩
    case measure=>have B:=j.out.1.left_eq;have C:=O.out.left_eq;have D:=j.out.2.2.1;rw[B,C];exact D
   |false=>
    rw[h]at q;have y:Hid (k+1+tP u8 (o++p)=tP u8 w8):=by show _=_;rw[h]at n;simp at n;omega
    have b3:(k:Int)<=1000:=by omega
    clear n u E H K I L G Z Q T h;go_wp2_with fail;refine q.out.mono ?_;rintro A b2 ⟨rfl,rfl⟩;clear q;go_wp2_with fail;go_roundw;case rel=>exact⟨o++p,P,k+1,j.out.1,by go_num,y,j.out.2.2.2,j.out.2.1⟩
    case measure=>have B:=j.out.1.left_eq;have C:=O.out.left_eq;have D:=j.out.2.2.1;rw[B,C];exact D
structure hU(N:Nat)(w:aK)(sb:Nat)(s:gg)(cm:Nat)(wv:aM)(jf:List Nat)(xs:List gw)(ws:List Nat):Prop where
 gK:mN w sb s.c s.now cm wv
 map:∃n,n<=N/\iO kb ab 3 w cm n ((s.fN.map (·.fZ)).zip jf)
 iD:jf.length=s.fN.length
 jv:xs.length=s.fN.length
 iq:∀(i:Nat) c cb a,s.fN[i]? =some c->jf[i]? =some cb->xs[i]? =some a->hC N w cb s.c c a
 row:w.ownsRow 0 97 1 wv ws.length (jm ws)
 wait:∃cs,kg s.fN cs/\ws.length=cs.length/\∀(j:Nat) b,ws[j]? =some b->∃(i:Nat) (c:fV),s.fN[i]? =some c/\jf[i]? =some b/\cs[j]? =some c.fZ
 apart:∀(i j:Nat) cb a cb' a',i≠j->jf[i]? =some cb->xs[i]? =some a->jf[j]? =some cb'->xs[j]? =some a'->∀k,ie cb a k->¬ie cb' a' k
 AD:∀(i:Nat) cb a,jf[i]? =some cb->xs[i]? =some a->¬ie cb a cm
def js(sb cm:Nat)(wv:aM)(jf:List Nat)(xs:List gw)(k:Nat):Prop:=k=sb\/k=cm\/wv.ownBlock=some k\/∃(i:Nat) (cb:Nat) (a:gw),jf[i]? =some cb/\xs[i]? =some a/\ie cb a k
theorem ur{s:g_}(c:hC a b cb s j z6)(k:ie cb z6 f):f<b.heap.size:=by
 obtain⟨v,o⟩:=c.pk;obtain⟨t,_,l⟩:=c.py;obtain⟨u,_,m⟩:=c.p_;rcases k with rfl|d|rfl|rfl|⟨h,e,d⟩
 ·exact c.gK.lt
 ·exact(o.own.lt _ d).2
 ·exact l.lt
 ·exact m.lt
 ·obtain⟨_,q,p,_⟩:=c.mp.str h e;have g:=c.str h e q p;rcases d with rfl|d
  ·exact g.lt
  ·obtain⟨w,n⟩:=g.own;exact(n.lt _ d).2
theorem jr{s:g_}(c:hC a b cb s j z6)(e:b.heap[f]? =some (.cells D z x3))(A:z≠137)(n:z≠279)(B:z≠204)(o:z≠259):¬ie cb z6 f:=by
 obtain⟨G,w⟩:=c.pk;obtain⟨C,_,t⟩:=c.py;obtain⟨E,_,u⟩:=c.p_;rintro(rfl|d|rfl|rfl|⟨k,g,d⟩)
 ·have p:=c.gK;unfold gC at p;grind
 ·exact fR w.own e (fun z=>n z.symm) d
 ·obtain⟨m,l,q⟩:=t.iM;grind
 ·obtain⟨m,l,q⟩:=u.iM;grind
 ·obtain⟨_,y,x,_⟩:=c.mp.str k g;have h:=c.str k g y x;rcases d with rfl|d
  ·rw[h.gK]at e;grind
  ·obtain⟨H,v⟩:=h.own;exact fR v e (fun z=>o z.symm) d
theorem hU.step{T:Nat}{c':fV}{a:gw}(h:hU T w d s f e m xs v)(U:T<=N')(hi:s.fN[i]? =some j)(n:m[i]? =some cb)(l:xs[i]? =some a)
  (H:gm (ie cb a) w b) (Z:hC N' b cb s.c c' z6) (R:∀k,ie cb z6 k->ie cb a k\/w.heap.size<=k) (V:c'.fZ=j.fZ) (a5:c'.waits=j.waits):
  hU N' b d {s with fN:=s.fN.set i c'} f e m (xs.set i z6) v:=by
 have P:=h.iq i j cb a hi n l;obtain⟨a8,a3,S⟩:=h.map;have a4:¬ie cb a d:=jr P h.gK (by decide) (by decide) (by decide) (by decide);have a1:({s with fN:=s.fN.set i c'}:gg).fN.map (·.fZ)=s.fN.map (·.fZ):=kr hi V;obtain⟨X,a6,a7,b1⟩:=h.wait;refine⟨h.gK.gx H a4,⟨a8,bZ a3 U,?_⟩,by simp[h.iD],by simp[h.jv],fun c q E C z o g=>?_,gM h.row H (fun k D G=>?_),⟨X,a6.same (JZ hi a5 V),a7,fun c C g=>?_⟩,fun c A N L O M I t y B u k J K=>?_,fun c E C o g G=>?_⟩
 ·rw[a1];exact S.same (H.block f S.lt (h.AD i cb a n l))
 ·by_cases p:c=i
  ·subst p;simp only at z;rw[getElem?_set_at hi]at z;rw[getElem?_set_at l]at g;rw[n]at o;simp only[Option.some.injEq]at z g o;subst z g o;exact Z
  ·simp only at z;rw[getElem?_set_other p]at z;rw[getElem?_set_other p]at g;have a0:=h.iq c q E C z o g;exact(a0.gx H (fun k D=>h.apart c i E C cb a p o g n l k D) (fun k a9 b0 D=>vt P D)).mono U
 ·obtain⟨c1,t⟩:=fX h.row D;exact jr P t (by decide) (by decide) (by decide) (by decide) G
 ·grind
 ·by_cases p:c=i
  ·subst p;rw[getElem?_set_at l]at y;simp only[Option.some.injEq]at y;subst y;have a2:A≠c:=fun Y=>I Y.symm;rw[getElem?_set_other a2]at u;rw[n]at t;simp only[Option.some.injEq]at t;subst t;rcases R k J with x|x
   ·exact h.apart c A cb a O M I n l B u k x K
   ·obtain⟨q,Q⟩:∃q,s.fN[A]? =some q:=⟨_,ap (by rw[<-h.iD];grind)⟩;have:=ur (h.iq A q O M Q B u) K;omega
  ·rw[getElem?_set_other p]at y;by_cases W:A=i
   ·subst W;rw[getElem?_set_at l]at u;simp only[Option.some.injEq]at u;subst u;rw[n]at B;simp only[Option.some.injEq]at B;subst B;rcases R k K with x|x
    ·exact h.apart c A N L cb a I t y n l k J x
    ·obtain⟨q,Q⟩:∃q,s.fN[c]? =some q:=⟨_,ap (by rw[<-h.iD];grind)⟩;have:=ur (h.iq c q N L Q t y) J;omega
   ·rw[getElem?_set_other W]at u;exact h.apart c A N L O M I t y B u k J K
 ·by_cases p:c=i
  ·subst p;rw[getElem?_set_at l]at g;simp only[Option.some.injEq]at g;subst g;rw[n]at o;simp only[Option.some.injEq]at o;subst o;rcases R f G with x|x
   ·exact h.AD c cb a n l x
   ·have:=S.lt;omega
  ·rw[getElem?_set_other p]at g;exact h.AD c E C o g G
theorem hU.below(h:hU a w d s f e m xs v)(c:Bw w b):hU a b d s f e m xs v:=by obtain⟨q,p,g⟩:=h.map;exact⟨h.gK.below c,⟨q,p,g.same (c.block f g.lt)⟩,h.iD,h.jv,fun i k cb j l n o=>(h.iq i k cb j l n o).below c,gp h.row c,h.wait,h.apart,h.AD⟩
theorem hU.look(h:hU a w d s f e m xs v)(t:(s.fN.map (·.fZ)).Nodup)(b:Int):
  (b∉s.fN.map (·.fZ)/\nR ((s.fN.map (·.fZ)).zip m) b=none)\/∃(i:Nat) (c:fV) (cb:Nat) (k:gw),s.fN[i]? =some c/\c.fZ=b/\m[i]? =some cb/\xs[i]? =some k/\nR ((s.fN.map (·.fZ)).zip m) b=some cb:=by
 have q:((s.fN.map (·.fZ)).zip m).map (·.1)=s.fN.map (·.fZ):=by rw[ei];simp[h.iD]
 by_cases j:b∈s.fN.map (·.fZ)
 ·right;obtain⟨c,p,l⟩:=List.mem_map.1 j;obtain⟨i,g,rfl⟩:=dw p;have n:i<m.length:=by rw[h.iD];exact g
  have o:i<xs.length:=by rw[h.jv];exact g
  refine⟨i,s.fN[i],m[i],xs[i],ap g,l,ap n,ap o,?_⟩;refine oe (by rw[q];exact t) ?_;refine bS (i:=i) ?_;grind
 ·left;refine⟨j,qw.2 ?_⟩;grind
def me(xs:List gw)(k:Nat):Prop:=∃a∈xs,a.u k
theorem sU(c:hU a b d p f e m Q v)(k:me Q n):n<b.heap.size:=by
 obtain⟨o,j,l⟩:=k;obtain⟨i,hi,rfl⟩:=dw j;have g:i<p.fN.length:=by rw[<-c.jv];exact hi
 have h:i<m.length:=by rw[c.iD];exact g
 exact(c.iq i _ _ _ (ap g) (ap h) (ap hi)).ul n l
theorem sj(g:Q[i]? =some z6)(j:E9 d z6 u4):∀a,me (Q.set i u4) a->me Q a\/d<=a:=by
 rintro a ⟨c,h,b⟩;rcases dh h with e|rfl
 ·exact bg ⟨c,e,b⟩
 ·exact(j a b).imp (fun f=>⟨z6,bS g,f⟩) id
theorem tJ:∀a,me (Q.eraseIdx i) a->me Q a:=by rintro a ⟨b,c,d⟩;exact⟨b,(List.eraseIdx_sublist Q i).subset c,d⟩
def la(A:Nat->Prop)(w:aK)(base:Nat)(v:aM)(ii:List (Int×List Int)):Prop:=∃out,w.ownsRow base 60 2 v out.length (gj out)/\kw w base out ii/\∀(i:Nat) x k,out[i]? =some x->x.2.ownBlock=some k->¬A k
theorem kw.ge{out:List (Int×aM)}(h:kw w base out t){x:Int×aM}{k:Nat}(c:out[i]? =some x)(b:x.2.ownBlock=some k):base<=k/\k<w.heap.size:=by
 have a:i<t.length:=by rw[<-h.1];grind
 exact(h.2.1 i x t[i] c (ap a)).2.lt k b
theorem la.of{v:aM}(h:ix w base v t)(d:∀a,base<=a->¬L a):la L w base v t:=by obtain⟨out,c,b⟩:=h;exact⟨out,c,b,fun i g a f e=>d a (b.ge f e).1⟩
theorem la.none{v:aM}(h:ix w base v t)(h0:t=[]):la L w base v t:=by obtain⟨out,b,a⟩:=h;subst h0;obtain rfl:out=[]:=d'.1 a.1;exact⟨[],b,a,fun i e d c=>(by simp at c)⟩
theorem la.at{v:aM}(h:la L w base v t):ix w base v t:=by obtain⟨out,a,b,_⟩:=h;exact⟨out,a,b⟩
theorem la.mono{v:aM}(h:la L w a v t)(b:d<=a):la L w d v t:=by obtain⟨out,c,e,f⟩:=h;exact⟨out,gq c b,e.mono b,f⟩
structure i'(N:Nat)(w:aK)(sb cm:Nat)(wv:aM)(jf:List Nat)(xs:List gw)(r:gg×List (Int×List Int))(e:ed)(w':aK):Prop where
 ex:∃v ES oF CW J1,e=.returned v/\la (me CW) w' w.heap.size v r.2/\hU N w' sb r.1 cm ES oF CW J1/\(∀k,js sb cm ES oF CW k->js sb cm wv jf xs k\/w.heap.size<=k)/\∀k,me CW k->me xs k\/w.heap.size<=k
 gx:gm (js sb cm wv jf xs) w w'
theorem i'.ret{j:aM}{e:ed}(h:i' a w d f j m xs r e b):∃c,e=.returned c/\ix b w.heap.size c r.2:=by obtain⟨c,_,_,_,_,e,g,_⟩:=h.ex;exact⟨c,e,g.at⟩
theorem i'.MO{g:List Nat}{v:aM}(h0:hU d w f s n e m xs w4)(u:ix b w.heap.size v t)(o:hU a b f s' n h g Q v5)(q:∀c,js f n h g Q c->js f n e m xs c\/w.heap.size<=c)(k:∀c,me Q c->me xs c)(p:gm (js f n e m xs) w b):i' a w f n e m xs (s',t) (.returned v) b:=
 ⟨⟨v,h,g,Q,v5,rfl,la.of u (fun c j l=>by have:=sU h0 (k c l);omega),o,q,fun c j=>bg (k c j)⟩,p⟩
theorem i'.P_{g:List Nat}{v:aM}(n:ix b w.heap.size v t)(h0:t=[])(j:hU a b d s' f h g Q w4)(l:∀c,js d f h g Q c->js d f e m xs c\/w.heap.size<=c)(o:∀c,me Q c->me xs c\/w.heap.size<=c)(k:gm (js d f e m xs) w b):i' a w d f e m xs (s',t) (.returned v) b:=
 ⟨⟨v,h,g,Q,w4,rfl,la.none n h0,j,l,o⟩,k⟩
theorem lJ(b:m[i]? =some cb)(c:Q[i]? =some z6)(f:ie cb z6 A):js a d e m Q A:=bf (bf (bf ⟨i,cb,z6,b,c,f⟩))
theorem si(j:m[i]? =some cb)(k:Q[i]? =some z6)(o:∀b,ie cb u4 b->ie cb z6 b\/A<=b):∀b,js a d e m (Q.set i u4) b->js a d e m Q b\/A<=b:=by
 rintro b (c|c|c|⟨p,s,q,g,f,h⟩)
 ·exact bg (bg c)
 ·exact bg (bf (bg c))
 ·exact bg (bf (bf (bg c)))
 ·by_cases n:p=i
  ·subst n;rw[getElem?_set_at k]at f;simp only[Option.some.injEq]at f;subst f;rw[j]at g;simp only[Option.some.injEq]at g;subst g;rcases o b h with l|l
   ·exact bg (lJ j k l)
   omega
  ·rw[getElem?_set_other n]at f;exact bg (lJ g f h)
theorem xh{k:Int}(u:hU a b d p f e m Q v)(hi:p.fN[i]? =some j)(W:m[i]? =some cb)(N:Q[i]? =some z6)(Z:jF p.c)(C:hS l j)(f3:l+k<=1125899906842624)(e6:0<=k)(e4:∃a9 b1 b0,h=.slice a9 b1 b0)(e3:∃a9 b1 b0,q=.slice a9 b1 b0):
  aL ab 89 #[Pt d,Pt cb,II c,.agg (sX x1 k h q)] b fun s f1=>i' a b d f e m Q (kh p i j c k []) s f1:=by
 obtain⟨e8,e9,f0,rfl⟩:=e4;obtain⟨d9,e0,e1,rfl⟩:=e3;have I:=u.iq i j cb z6 hi W N;have a0:=C.gR;have a4:=C.gS;have Y:=C.fZ;have V:=C.addr;have z:Bw b (Nw b x1 k e8 e9 f0 d9 e0 e1):=fO _ _;have M:=I.gK.below z;have K:=fK (uC M);have e5:d≠cb:=by intro s;have L:=u.gK;have c2:=I.gK;unfold mN at L;unfold gC at c2;rw[s,c2]at L;simp only[Option.some.injEq,Obj.cells.injEq]at L;exact absurd L.2.1 (by decide)
 have T:Hid (∀(n:aK) (o:fV),gC n cb p.c o z6.mx z6.sm z6.dm (il j.fM)->gm (· = cb) b n->o.fM=j.fM->o.runs=j.runs->o.fZ=j.fZ->o.waits=j.waits->hU a n d {p with fN:=p.fN.set i o} f e m (Q.set i z6) v/\gm (js d f e m Q) b n):=by intro n o w O a3 a2 X a6;have A:gm (ie cb z6) b n:=O.mono fun D _ s=>bg s;exact⟨u.step (ar _) hi W N A (I.yx O w a3 a2) (fun D t=>bg t) X a6,A.mono fun D _ t=>lJ W N t⟩
 have a7:Q.set i z6=Q:=ia N;have G:Hid (∀(n:aK) (o:fV) (a8:List (Int×List Int)) (y:aM),gC n cb p.c o z6.mx z6.sm z6.dm (il j.fM)->gm (· = cb) b n->o.fM=j.fM->o.runs=j.runs->o.fZ=j.fZ->o.waits=j.waits->ix n b.heap.size y a8->i' a b d f e m Q ({p with fN:=p.fN.set i o},a8) (.returned y) n):=by intro n o a8 y w O a3 a2 X a6 B;obtain⟨d2,e7⟩:=T.out n o w O a3 a2 X a6;rw[a7]at d2;exact i'.MO u B d2 (fun D t=>bg t) (fun D t=>t) e7
 unfold sX;by_cases a1:j.addr=c
 ·have c4:=u.gK.below z;have b5:=fK (xO M ⟨a0.1,by omega⟩ ⟨e6,by omega⟩);have b6:=fK (fun(n:aK) (w:gC n cb p.c {j with gR:=j.gR+k} z6.mx z6.sm z6.dm (il j.fM))=>vx (cb:=cb) (s:=p.c) p.now w);have b7:=fK (fun(n:aK) (w:gC n cb p.c {j with gR:=j.gR+k,heard:=p.now} z6.mx z6.sm z6.dm (il j.fM))=>pL w);have U:=fK (fun(n:aK) (w:gC n cb p.c {j with gR:=j.gR+k,heard:=p.now} z6.mx z6.sm z6.dm (il j.fM))=>uD w Z V Y ⟨by simp only;omega,by simp only;omega⟩ ⟨a4.1,by simp only;omega⟩);have x:Hid (kh p i j c k []=if j.fY then({p with fN:=p.fN.set i {j with gR:=j.gR+k,heard:=p.now}},[]) else({p with fN:=p.fN.set i (hE {j with gR:=j.gR+k,heard:=p.now} (gu p.c {j with gR:=j.gR+k,heard:=p.now}))},ig {j with gR:=j.gR+k,heard:=p.now} (gu p.c {j with gR:=j.gR+k,heard:=p.now}) [])):=by show _=_;unfold kh;rw[if_neg (by simp[a1])]
  obtain⟨H,c3⟩:∃H,kh p i j c k []=H:=⟨_,rfl⟩;rw[c3]at x⊢;have b8:=fK c4;have P:=fK z;clear c3 u I C Z a0 a4 Y V M c4 T a7;go_enter func89,ntmps89;go_wp2_with fail;refine K.out.mono ?_;rintro s f2 ⟨rfl,rfl⟩;clear K z;go_wp2_with fail;refine b5.out.mono ?_;rintro s d6 ⟨rfl,c6,A⟩;have b3:=fK c6;have b4:=fK A;have d8:CI d6 d 10 p.now:=(b8.out.gx A e5).cell 10;clear c6 A b5;go_wp2_with fail;refine(b6.out d6 b3.out).mono ?_;rintro s J ⟨rfl,c7,c8⟩;have R:=fK c7;have S:Hid (gm (· = cb) b J):=((gm.fU P.out).trans b4.out).trans c8;clear c7 c8 b6 b3 d8 b8 b4;go_wp2_with fail;refine(b7.out J R.out).mono ?_;rintro s f5 ⟨rfl,rfl⟩;clear b7;cases d1:j.fY with
  |true=>
   have E:Hid (i' a b d f e m Q H (.returned (ai none 0 0)) J):=by rw[x.out,if_pos d1];exact G.out J _ [] _ R.out S.out rfl rfl rfl rfl (ix.nil _ _)
   clear G x U;go_wp2_with fail;go_ret;exact E.out
  |false=>
   have b9:=fK (U.out J R.out);have b2:Hid (H=({p with fN:=p.fN.set i (hE {j with gR:=j.gR+k,heard:=p.now} (gu p.c {j with gR:=j.gR+k,heard:=p.now}))},ig {j with gR:=j.gR+k,heard:=p.now} (gu p.c {j with gR:=j.gR+k,heard:=p.now}) [])):=by show _=_;rw[x.out,if_neg (by rw[d1];decide)]
   clear x U;go_wp2_with fail;refine b9.out.mono ?_;intro s d7 B;obtain⟨y,rfl,a5⟩:=B.ret;have e2:∃d3 d5 d4,y=.slice d3 d5 d4:=by obtain⟨f6,f7,s⟩:=a5.form;exact⟨_,_,_,s⟩
   have E:Hid (i' a b d f e m Q H (.returned y) d7):=by
    rw[b2.out];have d0:=nW {j with gR:=j.gR+k,heard:=p.now} (gu p.c {j with gR:=j.gR+k,heard:=p.now});have c9:(hE {j with gR:=j.gR+k,heard:=p.now} (gu p.c {j with gR:=j.gR+k,heard:=p.now})).fM=j.fM/\(hE {j with gR:=j.gR+k,heard:=p.now} (gu p.c {j with gR:=j.gR+k,heard:=p.now})).runs=j.runs:=by unfold hE;split<;>exact⟨rfl,rfl⟩
    exact G.out d7 _ _ y B.gK (S.out.trans B.gx) c9.1 c9.2 d0.1 d0.2.1 (a5.mono S.out.size)
   obtain⟨d3,d5,d4,rfl⟩:=e2;clear B a5 b9 G b2;go_wp2_with fail;go_ret;exact E.out
 ·have x:Hid (kh p i j c k []=(p,[])):=by show _=_;unfold kh;rw[if_pos a1]
  have E:Hid (∀n,Bw b n->i' a b d f e m Q (p,[]) (.returned (ai none 0 0)) n):=fun n c5=>i'.MO u (ix.nil _ _) (u.below c5) (fun D t=>bg t) (fun D t=>t) (gm.fU c5);rw[x.out];have f4:(j.addr==c)=false:=beq_eq_false_iff_ne.2 a1;have P:=fK z;clear u I C Z a0 a4 Y V M T a7 G z;go_enter func89,ntmps89;go_wp2_with fail;refine K.out.mono ?_;rintro s f2 ⟨rfl,rfl⟩;clear K;go_wp2_with fail;go_ret;exact E.out _ P.out
theorem GR{j:Int}(A:hU a b d p f e m Q v)(Z:jF p.c)(d9:0<=p.now/\p.now<=1000000000)(L:0<=j/\j<256)(c3:0<=x1.fZ/\x1.fZ<=1073741823)(e6:0<=g/\g<=1125899906842624)(e2:∃a6 a8 a7,h=.slice a6 a8 a7)(e1:∃a6 a8 a7,q=.slice a6 a8 a7):
  aL ab 93 #[Pt d,II j,.agg (sX x1 g h q)] b fun E l=>i' a b d f e m Q (p,nI p j x1.fZ g []) E l:=by
 obtain⟨B,C,D,rfl⟩:=e2;obtain⟨x,y,z,rfl⟩:=e1;have e3:=Z.c7;have a4:=Z.c9;have Y:Bw b (Nw b x1 g B C D x y z):=fO _ _;have K:=A.gK.below Y;have b7:CI (Nw b x1 g B C D x y z) d 7 p.c.c7:=K.cell 7;have b8:CI (Nw b x1 g B C D x y z) d 9 p.c.c9:=K.cell 9;have b6:CI (Nw b x1 g B C D x y z) d 10 p.now:=K.cell 10;have b4:io (Nw b x1 g B C D x y z) b 1 g:=by simp
 have b5:io (Nw b x1 g B C D x y z) b 2 x1.fZ:=by simp
 have e7:IntKind.i64.wrap (p.now+p.c.c7)=p.now+p.c.c7:=by rw[dq];omega
 have e8:IntKind.i64.wrap (3*g)=3*g:=by rw[dq];omega
 have S:=fK (fun k=>un p.c.c9 j (p.now+p.c.c7) k a4.1 a4.2 L.1 L.2 (by omega) (by omega));have R:=fK (oW (c:=p.c.c9) (l:=p.now+p.c.c7) L.1 L.2);have s:Hid (nI p j x1.fZ g []=if((qh p j x1.fZ).length:Int)<=3*g then [(j,qh p j x1.fZ)] else []):=rfl;have b2:Hid (qh p j x1.fZ=[3]++gE x1.fZ++gE 9++jg p.c.c9 j (p.now+p.c.c7)):=rfl;have J:Hid (∀(k:aK) (n:aM),k.ownsRow k.heap.size 5 1 n 9 (U8 (jg p.c.c9 j (p.now+p.c.c7)))\/(∃H,k.ownsRow H 5 1 n 9 (U8 (jg p.c.c9 j (p.now+p.c.c7))))->aL ab 147 #[II x1.fZ,n] k fun E l=>∃d3,E=.returned d3/\l.ownsRow k.heap.size 5 1 d3 (qh p j x1.fZ).length (U8 (qh p j x1.fZ))/\Bw k l):=by
  intro k n M;obtain⟨H,M⟩:∃H,k.ownsRow H 5 1 n 9 (U8 (jg p.c.c9 j (p.now+p.c.c7))):=M.elim (fun A=>⟨_,A⟩) id;have c4:(jg p.c.c9 j (p.now+p.c.c7)).length=9:=by have:=M.1;rw[ir]at this;omega
  rw[b2.out];exact G5 c3 (ka.qf M R.out (by rw[c4];decide)) c4
 have I:Hid (∀(k:aK) (n:aM) (a5:List (Int×List Int)),Bw b k->ix k b.heap.size n a5->i' a b d f e m Q (p,a5) (.returned n) k):=fun k n a5 c2 e0=>i'.MO A e0 (A.below c2) (fun c6 a0=>bg a0) (fun c6 a0=>a0) (gm.fU c2);generalize qh p j x1.fZ=b3 at s J;generalize jg p.c.c9 j (p.now+p.c.c7)=e5 at S J R;obtain⟨w,b9⟩:∃w,nI p j x1.fZ g []=w:=⟨_,rfl⟩;rw[b9]at s⊢;have b0:=fK Y;unfold sX;clear A Z b9 K b2 R Y e3 a4 c3 d9;go_enter func93,ntmps93;go_wp2_with fail;go_region_held3 (fun l=>l.cell? (Ad d 7)=some (II p.c.c7)/\l.cell? (Ad d 9)=some (II p.c.c9)/\l.cell? (Ad d 10)=some (II p.now)/\l.cell? (gf b 1)=some (II g)/\l.cell? (gf b 2)=some (II x1.fZ)) (first|assumption|go_keep) (first
  |(go_at_call 67;refine(S.out _).mono ?_;rintro E d4 ⟨e9,rfl,a2,o⟩;have W:=fL b7 (gc o);have X:=fL b8 (gc o);have U:=fL b6 (gc o);have T:=fL b4 (gc o);have V:=fL b5 (gc o);have d7:=co W (co X (co U (co T V)));obtain⟨f1,f2,rfl⟩:=gB a2)
  |(go_at_call 147;refine(J.out d4 _ (bf ⟨_,a2⟩)).mono ?_;rintro E a9 ⟨f0,rfl,a3,u⟩;have c9:=fL W u;have d0:=fL X u;have c7:=fL U u;have e4:=fL T u;have c8:=fL V u;have d8:=co c9 (co d0 (co c7 (co e4 c8)));obtain⟨d1,d2,rfl⟩:=gB a3))
 have N:=fK (fP (fP b0.out (gc o)) u);have b1:=fK a3;obtain⟨G,a1⟩:∃G,b3.length=G:=⟨_,rfl⟩;rw[a1]at b1 s⊢;have d5:=fK a1;have d6:Hid (b.heap.size<=d4.heap.size):=bZ b0.out.size (gc o).size;clear a2 o a3 u d7 d8 W X U V T c9 d0 c7 c8 b7 b8 b6 b4 b5 S J a1;by_cases c5:(G:Int)<=3*g
 ·have P:Hid (w=[(j,b3)]):=by show _=_;rw[s.out,if_pos c5]
  have O:Hid (i' a b d f e m Q (p,w) (.returned (ai (some (gf a9 0)) 1 1)) (a9.alloc (.cells #[II j,.slice d1 G d2] 60))):=by rw[P.out];refine I.out _ _ _ (fP N.out (fO _ _)) ⟨[(j,.slice d1 G d2)],Ec N.out.size,kw.one ?_⟩;rw[d5.out];exact gq (gp b1.out (fO _ _)) d6.out
  clear I s;go_wp2_with fail;go_ret;exact O.out
 ·have P:Hid (w=[]):=by show _=_;rw[s.out,if_neg c5]
  have O:Hid (i' a b d f e m Q (p,w) (.returned (ai none 0 0)) a9):=by rw[P.out];exact I.out _ _ _ N.out (ix.nil _ _)
  clear I s;go_wp2_with fail;go_ret;exact O.out
theorem wm:∀(ks:List Int) (bs:List Nat) (i:Nat) (k:Int),ks.Nodup->ks.length=bs.length->ks[i]? =some k->(ks.eraseIdx i).zip (bs.eraseIdx i)=nC (ks.zip bs) k
 |[],_,_,_,_,_,h=>by simp at h
 |_::_,[],_,_,_,h,_=>by simp at h
 |a::ks,b::bs,0,k,hn,_,h=>by simp only[ce,Option.some.injEq]at h;subst h;obtain⟨h1,_⟩:=List.nodup_cons.1 hn;simp only[List.eraseIdx_zero,List.tail_cons,er,nC,el,beq_self_eq_true,Bool.not_true];rw[if_neg (by simp)];symm;rw[eo];rintro⟨x,y⟩ S2;have hx:x∈ks:=(List.of_mem_zip S2).1;have:x≠a:=fun e=>h1 (e▸hx);simp[this]
 |a::ks,b::bs,i+1,k,hn,hl,h=>by simp only[List.getElem?_cons_succ]at h;obtain⟨h1,h2⟩:=List.nodup_cons.1 hn;have hk:a≠k:=fun e=>h1 (e▸bS h);have ih:=wm ks bs i k h2 (by simpa using hl) h;simp only[List.eraseIdx_cons_succ,er,nC,el];rw[if_pos (by simp[hk]),ih];rfl
theorem vL{α β:Type}(f:α->β):∀(l:List α) (i:Nat),(l.eraseIdx i).map f=(l.map f).eraseIdx i
 |[],_=>rfl
 |_::_,0=>rfl
 |a::l,i+1=>by simp[vL f l i]
theorem yp{R:Nat->Int->Prop}{p:Nat->Bool}{q:Int->Bool}:∀(ws:List Nat) (cs:List Int),ws.length=cs.length->(∀(j:Nat) b x,ws[j]? =some b->cs[j]? =some x->R b x/\p b=q x)->
  (ws.filter p).length=(cs.filter q).length/\∀(j:Nat) b x,(ws.filter p)[j]? =some b->(cs.filter q)[j]? =some x->R b x
 |[],[],_,_=>by simp
 |[],_::_,h,_=>by simp at h
 |_::_,[],h,_=>by simp at h
 |b::ws,x::cs,hl,h=>by
  obtain⟨h1,h2⟩:=h 0 b x rfl rfl;have ih:=yp (R:=R) (p:=p) (q:=q) ws cs (by simpa using hl) (fun j b' x' e1 e2=>h (j+1) b' x' (by simpa using e1) (by simpa using e2));rw[el,el];cases hp:p b with
  |false=>rw[<-h2,hp,if_neg (by simp),if_neg (by simp)];exact ih
  |true=>
   rw[<-h2,hp,if_pos rfl,if_pos rfl];refine⟨by simp[ih.1],fun j b' x' e1 e2=>?_⟩;cases j with
   |zero=>simp only[ce,Option.some.injEq]at e1 e2;subst e1 e2;exact h1
   |succ j=>exact ih.2 j b' x' (by simpa using e1) (by simpa using e2)
def zR(i j:Nat):Nat:=if j<i then j else j+1
theorem qC{α:Type}(b:List α)(i a:Nat):(b.eraseIdx i)[a]? =b[zR i a]?:=by rw[List.getElem?_eraseIdx];unfold zR;split<;>rfl
theorem M2:zR i d≠i:=by unfold zR;split<;>omega
theorem LV(a:zR i d=zR i f):d=f:=by unfold zR at a;split at a<;>split at a<;>omega
theorem M3(c:d≠i):∃b,zR i b=d:=by
 rcases ay d i with a|a
 ·exact⟨d,by unfold zR;rw[if_pos a]⟩
 ·exact⟨d-1,by unfold zR;rw[if_neg (by omega)];omega⟩
structure E6(N:Nat)(w:aK)(sb:Nat)(s:gg)(cm:Nat)(wv:aM)(jf:List Nat)(xs:List gw)(ws:List Nat)(i:Nat)(cb:Nat)(fZ:Int):Prop where
 gK:mN w sb s.c s.now cm wv
 map:∃n,n<=N/\iO kb ab 3 w cm n ((s.fN.map (·.fZ)).zip jf)
 iD:jf.length=s.fN.length
 jv:xs.length=s.fN.length
 O6:jf[i]? =some cb
 Qz:∃c,s.fN[i]? =some c/\c.fZ=fZ
 one:∃c mx sm dm uX,gC w cb s.c c mx sm dm uX/\c.fZ=fZ
 iq:∀(j:Nat) c cb a,j≠i->s.fN[j]? =some c->jf[j]? =some cb->xs[j]? =some a->hC N w cb s.c c a
 row:w.ownsRow 0 97 1 wv ws.length (jm ws)
 wait:∃cs,kg s.fN cs/\ws.length=cs.length/\∀(j:Nat) b,ws[j]? =some b->∃(i:Nat) (c:fV),s.fN[i]? =some c/\jf[i]? =some b/\cs[j]? =some c.fZ
 apart:∀(i j:Nat) cb a cb' a',i≠j->jf[i]? =some cb->xs[i]? =some a->jf[j]? =some cb'->xs[j]? =some a'->∀k,ie cb a k->¬ie cb' a' k
 AD:∀(i:Nat) cb a,jf[i]? =some cb->xs[i]? =some a->¬ie cb a cm
theorem hU.but{p:Nat}{a:gw}(h:hU p w d s f e m xs v)(x:p<=N')(hi:s.fN[i]? =some j)(k:m[i]? =some cb)(n:xs[i]? =some a)
  (g:gm (ie cb a) w b) (H:∃t O P D N,gC b cb s.c t O P D N/\t.fZ=j.fZ):E6 N' b d s f e m xs v i cb j.fZ:=by
 have l:=h.iq i j cb a hi k n;obtain⟨M,K,A⟩:=h.map;have L:¬ie cb a d:=jr l h.gK (by decide) (by decide) (by decide) (by decide);refine⟨h.gK.gx g L,⟨M,bZ K x,A.same (g.block f A.lt (h.AD i cb a k n))⟩,h.iD,h.jv,k,⟨j,hi,rfl⟩,H,fun B C u q J I z y=>?_,gM h.row g (fun o c G=>?_),h.wait,h.apart,h.AD⟩
 ·exact((h.iq B C u q I z y).gx g (fun o c=>h.apart B i u q cb a J z y k n o c) (fun o Q R c=>vt l c)).mono x
 ·obtain⟨c1,E⟩:=fX h.row c;exact jr l E (by decide) (by decide) (by decide) (by decide) G
theorem E6.Rq(h:E6 a w d s f e m xs v i cb c):lV w cb/\∀b∈v,lV w b:=by
 obtain⟨c1,C,D,y,B,q,_⟩:=h.one;have k:lV w cb:=⟨_,q⟩;refine⟨k,fun b p=>?_⟩;obtain⟨x,A,z⟩:=dw p;obtain⟨_,_,_,t⟩:=h.wait;obtain⟨j,n,o,g,_⟩:=t x b (by grind);by_cases l:j=i
 ·subst l;rw[h.O6]at g;cases g;exact k
 ·have u:j<xs.length:=by rw[h.jv];grind
  have:=(h.iq j n b _ l o g (ap u)).gK;exact⟨_,this⟩
theorem E6.gone{O:aM}(h:E6 a w d s f e m xs v i cb c)(N:(s.fN.map (·.fZ)).Nodup)
  (Z:gm (fun y=>y=d\/y=f\/e.ownBlock=some y) w b) (X:mN b d s.c s.now f O) (a4:n<=a) (K:iO kb ab 3 b f n (nC ((s.fN.map (·.fZ)).zip m) c))
  (a5:b.ownsRow 0 97 1 O (v.filter fun g=>g != cb).length (jm (v.filter fun g=>g != cb))):
  hU a b d {s with fN:=s.fN.eraseIdx i} f O (m.eraseIdx i) (xs.eraseIdx i) (v.filter fun g=>g != cb):=by
 obtain⟨G,hi,a0⟩:=h.Qz;have b6:i<s.fN.length:=(bo.1 hi).1;obtain⟨L,a6,a7,a8⟩:=h.wait;obtain⟨b7,_,a3⟩:=h.map;have a1:∀(l k:Nat) g,m[l]? =some g->m[k]? =some g->l=k:=by
  intro l k g t A;by_cases D:l=k
  ·exact D
  ·have B:l<xs.length:=by rw[h.jv,<-h.iD];grind
   have x:k<xs.length:=by rw[h.jv,<-h.iD];grind
   exact absurd (bg rfl) (h.apart l k g _ g _ D t (ap B) A (ap x) g (bg rfl))
 have S:=yp (R:=fun g z=>∃(k:Nat) (o:fV),s.fN[k]? =some o/\m[k]? =some g/\o.fZ=z) (p:=fun g=>g != cb) (q:=fun z=>z != G.fZ) v L a7 (fun l g z t A=>by
  obtain⟨k,o,B,x,P⟩:=a8 l g t;rw[P]at A;cases A;refine⟨⟨k,o,B,x,rfl⟩,?_⟩;by_cases Y:g=cb
  ·subst Y;have:=a1 k i g x h.O6;grind
  ·have b5:o.fZ≠G.fZ:=by
    intro j;have I:(s.fN.map (·.fZ))[k]? =some o.fZ:=by simp[B]
    have J:(s.fN.map (·.fZ))[i]? =some o.fZ:=by simp[hi,j]
    have:=(List.getElem?_inj (by grind) N).1 (I.trans J.symm);subst this;rw[h.O6]at x;grind
   grind)
 refine⟨X,⟨n,a4,?_⟩,?_,?_,fun l o H g Q C u=>?_,a5,⟨L.filter fun z=>z != G.fZ,a6.erase N hi,S.1,fun l g u=>?_⟩,fun l k V T W U D t A I J y=>?_,fun l H g C u=>?_⟩
 ·have t:(s.fN.eraseIdx i).map (·.fZ)=(s.fN.map (·.fZ)).eraseIdx i:=vL _ _ _;show iO kb ab 3 b f n (((s.fN.eraseIdx i).map (·.fZ)).zip (m.eraseIdx i));rw[t,wm _ _ i c N (by simp[h.iD]) (by simp[hi,a0])];exact K
 ·rw[eg,eg,h.iD]
 ·rw[eg,eg,h.jv]
 ·simp only[qC]at Q C u;have M:=h.iq _ o H g (M2) Q C u;refine M.gx Z (fun y E=>?_) (fun y b1 b3 E=>?_)
  ·rintro(j|j|j)
   ·subst j;exact jr M h.gK (by decide) (by decide) (by decide) (by decide) E
   ·subst j;exact h.AD _ H g C u E
   ·obtain⟨c1,t⟩:=fX h.row j;exact jr M t (by decide) (by decide) (by decide) (by decide) E
  ·rintro(j|j|j)
   ·subst j;have x:w.heap[y]? =some (.cells (oP s.c s.now f e) 101 (0,0)):=h.gK;grind
   ·subst j;obtain⟨b2,b0,u⟩:=a3.iM;grind
   ·exact fR h.row E (by decide) j
 ·have b4:g≠cb:=by grind
  have D:l<(L.filter fun z=>z != G.fZ).length:=by grind
  obtain⟨k,o,B,x,P⟩:=S.2 l g _ u (ap D);have a2:k≠i:=fun j=>by grind
  obtain⟨a9,K⟩:=M3 a2;refine⟨a9,o,?_,?_,?_⟩
  ·simp only[qC,K,B]
  ·simp only[qC,K,x]
  grind
 ·rw[qC]at t A I J;exact h.apart _ _ V T W U (fun j=>D (LV j)) t A I J y
 ·rw[qC]at C u;exact h.AD _ H g C u
section
variable {α:Type}{C:rJ α}{P:Program}{K:bG}
theorem JK{x8:Array Oper}{y2:Oper}{y1:Act}{b:aK}{v9:Act->aK->Prop}{z1:Exit->Act->aK->Prop}{w7:Prop}
  (q:y2.guard=none) (j m:Operand) (l:bG) (u:y2.op=Op.call {callee:=Callee.builtin Builtin.delete,args:=#[j,m],argTypes:=#[l,K]}) (n:bG) (f:P.underlying K=some (.int .i64)) (w:P.underlying l=some (.map K n))
  (c k:Nat) (g:List (Int×α)) (t:y1.eval j=.map (some c)) (d:iO C P K b c k g) (e:Int) (A:α) (y:y1.eval m=II e) (s:(Lit.int .i64 e).wf=true) (z:nR g e=some A)
  (p:∀a,iO C P K a c k (nC g e)->b.grownBy a (some c)->a.heap.size=b.heap.size->v9 (y1.put y2.dst (.tuple #[])) a):
  if bk y2 (yielded x8 y1.tmps)=true then Oper.wp P y2 y1 b v9 z1 else w7:=by
 have x:bk y2 (yielded x8 y1.tmps)=true:=by simp[bk,q]
 rw[if_pos x];obtain⟨B,d,ok⟩:=d;obtain⟨a,v,o,h⟩:=d.drop (dQ f) w (Maps.keyOf_int_mk f s) y2.type;unfold Oper.wp;simp[execOp,u,resolve,invoke,builtin,t,y,v,Result.andThen];refine p a ⟨_,o,ok.del (d.tidy (dQ f)) z⟩ h.grown ?_;obtain⟨E,clock,G,D,H,rfl⟩:=h;simp[ChangeMaps.setBlock]
end
structure us(N:Nat)(w:aK)(sb:Nat)(s:gg)(cm:Nat)(wv:aM)(jf:List Nat)(xs:List gw)(ws:List Nat)(e:ed)(w':aK):Prop where
 ret:e=.returned (.tuple #[])
 ex:∃ES,hU N w' sb s cm ES jf xs ws/\(ES.ownBlock=wv.ownBlock\/∀k,ES.ownBlock=some k->w.heap.size<=k)
 gx:gm (fun k=>k=sb\/k=cm\/wv.ownBlock=some k) w w'
theorem AV(I j:Nat)(c:gg)(b:Nat)(o:aM)(m:List Nat)(B:List gw)(s:List Nat)(i cb:Nat)(q:Int)(f:aK)(g:E6 I f j c b o m B s i cb q)(N:(c.fN.map (·.fZ)).Nodup)(a1:s.length<=1000)(a0:-9223372036854775808<=q/\q<=9223372036854775807):
  aL ab 54 #[Pt j,Pt cb] f fun a y=>us I f j {c with fN:=c.fN.eraseIdx i} b o (m.eraseIdx i) (B.eraseIdx i) (s.filter fun h=>h != cb) a y:=by
 obtain⟨P,a2,w⟩:=g.map;obtain⟨c1,b6,b7,a8,b5,O,a3⟩:=g.one;obtain⟨b9,hi,Z⟩:=g.Qz;have G:=fK (fun p (J:p.heap=f.heap)=>xN cb c.c c1 b6 b7 a8 b5 p (by unfold gC at O⊢;rw[J];exact O));rw[a3]at G;have a7:CV f j 11 (.map (some b)):=g.gK.cell 11;have U:nR ((c.fN.map (·.fZ)).zip m) q=some cb:=by refine oe (by rw[ei (by simp[g.iD])];exact N) (bS (i:=i) ?_);rw[eq];exact⟨by simp[hi,Z],g.O6⟩
 have H:Hid (∀p:aK,p.heap=f.heap->iO kb ab 3 p b P ((c.fN.map (·.fZ)).zip m)):=fun p J=>w.same (by rw[J]);have Q:=fK (pC a0);have D:=fK U;have L:=g.Rq;have A:b≠j:=fun a=>by obtain⟨T,R,k⟩:=w.iM;have l:f.heap[j]? =some (.cells (oP c.c c.now b o) 101 (0,0)):=g.gK;rw[<-a,k]at l;cases l
 have M:o.ownBlock≠some b:=fun a=>by obtain⟨T,R,k⟩:=w.iM;obtain⟨c2,S⟩:=fX g.row a;rw[k]at S;cases S
 have n:Hid (∀d:aK,iO kb ab 3 d b P (nC ((c.fN.map (·.fZ)).zip m) q)->gm (fun e=>e=b) f d->aL ab 50 #[Pt j,Pt cb] d fun a y=>us I f j {c with fN:=c.fN.eraseIdx i} b o (m.eraseIdx i) (B.eraseIdx i) (s.filter fun h=>h != cb) a y):=by
  intro d x t;have Y:∀h,lV f h->lV d h:=by
   rintro h ⟨a6,k⟩;refine⟨a6,?_⟩;rw[t.block h (bn.1 k).1 (fun a=>?_)]
   ·exact k
   ·obtain⟨T,R,l⟩:=w.iM;rw[a,l]at k;cases k
  refine(oI j c.c c.now b o s cb d (g.gK.gx t (fun a=>A a.symm)) (gM g.row t (fun e v a=>M (a▸v))) a1 (fun h k=>Y h (L.2 h k)) (Y cb L.1)).mono ?_;rintro a a4 ⟨rfl,⟨b8,b0,b4,b1⟩,W⟩;have X:gm (fun e=>e=j\/e=b\/o.ownBlock=some e) f a4:=(t.mono fun e _ a=>bf (bg a)).trans (W.mono fun e _ a=>a.elim bg (fun a=>bf (bf a)));refine⟨rfl,⟨b8,g.gone N X b0 a2 ?_ b4,?_⟩,X⟩
  ·refine x.same (W.block b x.lt ?_);rintro(a|a)
   ·exact A a
   ·exact M a
  ·rcases b1 with a|a
   ·exact bg a
   ·exact bf fun e v=>bZ t.size (a e v)
 have E:Hid (∀d:aK,f.drew.grownBy d (some b)->gm (fun e=>e=b) f d/\d.cell? (Ad j 11)=some (.map (some b))):=by intro d u;have V:gm (fun e=>e=b) f d:=⟨u.os,u.tape,u.output,u.size,fun e v b3=>u.block e v (fun a=>b3 (Option.some.inj a))⟩;exact⟨V,(g.gK.gx V (fun a=>A a.symm)).cell 11⟩
 generalize ({c with fN:=c.fN.eraseIdx i}:gg)=s' at n⊢;generalize m.eraseIdx i=c3 at n⊢;generalize B.eraseIdx i=c4 at n⊢;generalize s.filter (fun h=>h != cb)=J1 at n⊢;generalize (c.fN.map (·.fZ)).zip m=a5 at n H D;clear g w O a3 hi Z U L A M N a1 a0 a2;go_enter func54,ntmps54;go_wp2_with fail;go_region_held3 (fun y=>y.cell? (Ad j 11)=some (.map (some b))) (first|assumption|go_keep) (first
  |(go_at_call 51;refine(G.out f.drew rfl).mono ?_;rintro a d ⟨rfl,rfl⟩)
  |(refine JK (C:=kb) rfl (.tmp 7) (.tmp 9) 98 rfl 97 underlying3 underlying98 b P a5 (by kernel_rfl) (H.out f.drew rfl) q cb (by kernel_rfl) Q.out D.out ?_;intro d x K _;have b2:=(E.out d K).2))
 have z:=n.out d x (E.out d K).1;replace z:=fK z;clear x K b2 E n H D Q G a7;go_wp2_with fail;refine z.out.mono ?_;intro a a4 l;have a9:=l.ret;subst a9;replace l:=fK l;clear z;go_wp2_with fail;go_end0;exact l.out
theorem ix.gx{v:aM}(h:ix w base v t)(e:gm F w b)(h1:∀a c d,w.heap[a]? =some (.cells c 60 d)->¬F a)(h2:∀a c d,w.heap[a]? =some (.cells c 5 d)->¬F a):ix b base v t:=by obtain⟨out,f,l⟩:=h;refine⟨out,gM f e (fun k m=>?_),l.gx e h2⟩;obtain⟨g,j⟩:=fX f m;exact h1 k g _ j
theorem hC.waits{b:Nat}{s:g_}{a:gw}(h:hC b w cb s j a)(x:Int):hC b w cb s {j with waits:=x} a:=⟨h.gK,h.pk,h.py,h.p_,h.mp,h.str,h.EW,h.ne,h.apart,h.ul⟩
theorem hU.last(h:hU a w d s f e m xs v)(x:Int):hU a w d {s with last:=x} f e m xs v:=⟨h.gK,h.map,h.iD,h.jv,h.iq,h.row,h.wait,h.apart,h.AD⟩
theorem hU.mono(h:hU a w d s f e m xs v)(b:a<=N'):hU N' w d s f e m xs v:=by obtain⟨p,o,n⟩:=h.map;exact⟨h.gK,⟨p,bZ o b,n⟩,h.iD,h.jv,fun i g cb c j k l=>(h.iq i g cb c j k l).mono b,h.row,h.wait,h.apart,h.AD⟩
def xD(sb cm:Nat)(wv:aM)(k:Nat):Prop:=k=sb\/k=cm\/wv.ownBlock=some k
theorem j'(h:hU a b d p f e m Q v)(k:b.heap[n]? =some (.cells D z x3))(s:z≠101)(j:z≠97):¬xD d f e n:=by
 obtain⟨w,_,l⟩:=h.map;rintro(g|g|g)
 ·subst g;have t:b.heap[n]? =some (.cells (oP p.c p.now f e) 101 (0,0)):=h.gK;grind
 ·subst g;obtain⟨q,o,u⟩:=l.iM;grind
 ·exact fR h.row k (fun z=>j z.symm) g
theorem hU.cons{l:Nat}(h:hU l w d s f e m xs v)(q:gm (xD d f e) w b){a:gw}(hi:s.fN[i]? =some j)(o:m[i]? =some cb)(n:xs[i]? =some a):hC l b cb s.c j a:=by
 have k:=h.iq i j cb a hi o n;refine k.gx q (fun t g=>?_) (fun t u x g=>j' h g (by decide) (by decide));rintro(c|c|c)
 ·subst c;exact jr k h.gK (by decide) (by decide) (by decide) (by decide) g
 ·subst c;exact h.AD i cb a o n g
 ·obtain⟨c1,p⟩:=fX h.row c;exact jr k p (by decide) (by decide) (by decide) (by decide) g
theorem hU.LZ(h:hU a w d s f e m xs v):v.length<=s.fN.length:=by obtain⟨j,⟨k,b,_,c⟩,g,_⟩:=h.wait;rw[g,c,List.length_map,b.length_eq];unfold jp;grind
theorem hU.more{o:aM}(h:hU a w d s f e m xs v)(hi:s.fN[i]? =some j)(R:m[i]? =some cb)(h0:j.waits<=0)(D:∀p∈s.fN,p.waits<lw)(E:0<lw)
  (B:mN b d s.c s.now f o) (H:b.ownsRow 0 97 1 o (v++[cb]).length (jm (v++[cb]))) (q:gm (fun n=>n=d\/e.ownBlock=some n) w b):
  hU a b d {s with fN:=s.fN.set i {j with waits:=lw}} f o m xs (v++[cb]):=by
 obtain⟨K,G,l⟩:=h.map;have t:gm (xD d f e) w b:=q.mono fun n _ c=>c.elim bg (fun c=>bf (bf c));obtain⟨A,I,J,S⟩:=h.wait;have C:({s with fN:=s.fN.set i {j with waits:=lw}}:gg).fN.map (·.fZ)=s.fN.map (·.fZ):=kr hi rfl;refine⟨B,⟨K,G,?_⟩,by simp[h.iD],by simp[h.jv],fun y p N z g u k=>?_,H,⟨A++[j.fZ],I.more (y' (w5:={j with waits:=lw}) hi h0 rfl E) D,by simp[J],fun y z k=>?_⟩,h.apart,h.AD⟩
 ·rw[C];refine l.same (q.block f l.lt ?_);obtain⟨P,M,k⟩:=l.iM;rintro(c|c)
  ·have Q:w.heap[d]? =some (.cells (oP s.c s.now f e) 101 (0,0)):=h.gK;grind
  ·obtain⟨L,O⟩:=fX h.row c;grind
 ·by_cases x:y=i
  ·subst x;simp only at g;rw[getElem?_set_at hi]at g;cases g;exact(h.cons t hi u k).waits _
  ·simp only at g;rw[getElem?_set_other x]at g;exact h.cons t g u k
 grind
theorem tI(l:h.ownBlock=e.ownBlock\/∀b,h.ownBlock=some b->n<=b):∀b,js a d h (m.eraseIdx i) (Q.eraseIdx i) b->js a d e m Q b\/n<=b:=by
 rintro b (c|c|c|⟨q,p,o,f,g,k⟩)
 ·exact bg (bg c)
 ·exact bg (bf (bg c))
 ·rcases l with j|j
  ·rw[j]at c;exact bg (bf (bf (bg c)))
  grind
 ·rw[qC]at f g;exact bg (lJ f g k)
theorem Hc(j:h.ownBlock=e.ownBlock\/∀c,h.ownBlock=some c->f<=c):∀c,js a d h m Q c->js a d e m Q c\/f<=c:=by
 rintro c (b|b|b|b)
 ·exact bg (bg b)
 ·exact bg (bf (bg b))
 ·rcases j with g|g
  ·rw[g]at b;exact bg (bf (bf (bg b)))
  grind
 ·exact bg (bf (bf (bf b)))
theorem pg(b:xD a d e f):js a d e m Q f:=b.elim bg (fun b=>b.elim (fun b=>bf (bg b)) (fun b=>bf (bf (bg b))))
theorem Il{t7:Bj}(a:t7.gone=true):oq p i j t7 = {({p with fN:=p.fN.eraseIdx i}:gg) with last:=if t7.iq.fY=true/\j.fY=false then p.last+1 else p.last}:=by simp[oq,a]
theorem Im{t7:Bj}(a:t7.gone=false)(b:t7.iq.fY=j.fY):oq p i j t7 = {p with fN:=p.fN.set i t7.iq}:=by
 have:¬(t7.iq.fY=true/\j.fY=false):=by grind
 unfold oq;grind
theorem KG{t7:Bj}(b:t7.gone=false)(d:t7.iq.fY=true)(e:j.fY=false)(f:t7.iq.waits=p.last+1):oq p i j t7 = {({p with fN:=(p.fN.set i {t7.iq with waits:=c}).set i {t7.iq with waits:=p.last+1}}:gg) with last:=p.last+1}:=by
 have a:p.fN.set i t7.iq=(p.fN.set i {t7.iq with waits:=c}).set i {t7.iq with waits:=p.last+1}:=by rw[List.set_set,<-f]
 rw[<-a];simp[oq,b,d,e]
theorem sq{g:g_}{lw:Int}:∀(n:Nat) {c:fV} {b:List Int},(gQ g lw c b n).gone=false->kT (gQ g lw c b n) []=[]
 |0,c,b,_=>rfl
 |n+1,c,b,h=>by
  unfold gQ at h⊢;split at h
  ·next h1=>rw[if_pos h1];rfl
  ·next h1=>
   rw[if_neg h1];split at h
   ·cases h
   ·next f size hf=>
    split at h
    ·cases h
    ·next h2=>
     rw[if_neg h2];split at h
     ·cases h
     ·next h3=>
      rw[if_neg h3];exact sq n h
theorem AU(k:fV)(B:gw)(q:List Int)(Y:Nat)(c8:aM)(o:aK)(C:hU a o d p f e m Q v)(hi:p.fN[i]? =some k)(H:m[i]? =some cb)(E:Q[i]? =some B){d8:Int}(D:gD c d8 p)(d1:c<=1125899906842624)
  (b6:ka o c8 q) (d3:gG q) (d6:q.length<=1073741823) (d7:q.length<=Y) (d2:a+q.length<1125899906842624) (d0:∀c7,gm (ie cb B) o c7->Env c7):
  aL ab 98 #[Pt d,Pt cb,c8] o fun h f5=>i' (a+q.length) o d f e m Q (hY p i q [] Y) h f5:=by
 have b3:=C.iq i k cb B hi H E;have a7:=bS hi;have a8:=D.ok k a7;have b8:=D.inv k a7;have e5:=D.cfg.c4;have R:=pj (M:=c) (lw:=p.last+1) (by omega:0<=p.c.c4) Y a8 b8 d3;have c6:=fK (pL b3.gK);have a4:=fK (H_ (c:=p.last+1) b3 b8 D.cfg a8 d1 b6 d6 d7 d2 d0);have c2:v.length<=1000:=by have K:=C.LZ;have g0:=D.tz;have a6:=D.cfg.c0;omega
 rw[nT Y q [] hi];have b7:=sq (g:=p.c) (lw:=p.last+1) (c:=k) (b:=q) Y;generalize gQ p.c (p.last+1) k q Y=j at a4 R b7⊢;have d5:-9223372036854775808<=k.fZ/\k.fZ<=9223372036854775807:=by have:=a8.fZ;omega
 have a9:∀b,gm (ie cb B) o b->gm (js d f e m Q) o b:=fun b t=>t.mono fun n _ l=>lJ H E l;have Z:Hid (j.gone=true->∀(b:aK) (y:aM),ix b o.heap.size y (kT j [])->gm (ie cb B) o b->(∃c9 f3 f4 e1 f2,gC b cb p.c c9 f3 f4 e1 f2/\c9.fZ=k.fZ)->aL ab 54 #[Pt d,Pt cb] b fun h A=>h=.returned (.tuple #[])/\i' (a+q.length) o d f e m Q (oq p i k j,kT j []) (.returned y) A):=by
  intro w b y s t a0;have P:=C.but (eh a q.length) hi H E t a0;have S:hU a o d p f e m Q v:=C;refine(AV _ _ _ _ _ _ _ _ _ _ _ _ P D.nd c2 d5).mono ?_;rintro h A ⟨rfl,⟨c3,b4,b5⟩,a2⟩;have e3:ix A o.heap.size y (kT j []):=by
   refine s.gx a2 (fun n b1 b2 l=>?_) (fun n b1 b2 l=>?_)
   ·rintro(h|h|h)
    ·subst h;have a6:b.heap[n]? =some (.cells (oP p.c p.now f e) 101 (0,0)):=P.gK;rw[a6]at l;simp only[Option.some.injEq,Obj.cells.injEq]at l;exact absurd l.2.1 (by decide)
    ·subst h;obtain⟨f1,_,b9⟩:=P.map;obtain⟨e2,d9,a0⟩:=b9.iM;rw[a0]at l;cases l
    ·exact fR P.row l (by decide) h
   ·rintro(h|h|h)
    ·subst h;have a6:b.heap[n]? =some (.cells (oP p.c p.now f e) 101 (0,0)):=P.gK;rw[a6]at l;simp only[Option.some.injEq,Obj.cells.injEq]at l;exact absurd l.2.1 (by decide)
    ·subst h;obtain⟨f1,_,b9⟩:=P.map;obtain⟨e2,d9,a0⟩:=b9.iM;rw[a0]at l;cases l
    ·exact fR P.row l (by decide) h
  refine⟨rfl,i'.MO (g:=m.eraseIdx i) (Q:=Q.eraseIdx i) (v5:=v.filter fun q=>q != cb) S e3 ?_ (tI (b5.imp id fun C n l=>bZ t.size (C n l))) tJ ((a9 b t).trans (a2.mono fun n _ l=>pg l))⟩;show hU _ _ _ (oq p i k j) _ _ _ _ _;rw[Il w];exact b4.last _
 have J:Hid (j.gone=false->j.iq.fY=k.fY->∀(b:aK) (y:aM) (u:gw),ix b o.heap.size y (kT j [])->gm (ie cb B) o b->hC (a+q.length) b cb p.c j.iq u->(∀n,ie cb u n->ie cb B n\/o.heap.size<=n)->E9 o.heap.size B u->i' (a+q.length) o d f e m Q (oq p i k j,kT j []) (.returned y) b):=by intro w z b y u s t O L X;refine i'.P_ (w4:=v) s (b7 w) ?_ (si H E L) (sj E X) (a9 b t);show hU _ _ _ (oq p i k j) _ _ _ _ _;rw[Im w z];exact C.step (eh _ _) hi H E t O L R.fZ (R.same z)
 have N:Hid (j.gone=false->j.iq.fY=true->k.fY=false->∀(b:aK) (y:aM) (u:gw),ix b o.heap.size y (kT j [])->gm (ie cb B) o b->hC (a+q.length) b cb p.c j.iq u->(∀n,ie cb u n->ie cb B n\/o.heap.size<=n)->E9 o.heap.size B u->aL ab 146 #[Pt d,Pt cb] b fun h A=>h=.returned (.tuple #[])/\i' (a+q.length) o d f e m Q (oq p i k j,kT j []) (.returned y) A):=by
  intro w z M b y u s t O L X;have S:=C.step (c':={j.iq with waits:=k.waits}) (eh _ _) hi H E t (O.waits _) L R.fZ rfl;have e6:=D.waits k a7;have e9:j.iq.waits=p.last+1:=R.new M z;refine(Bb S.gK S.row c2).mono ?_;rintro h A ⟨rfl,⟨c3,b4,f0,b5⟩,a2⟩;have e8:({p with fN:=p.fN.set i {j.iq with waits:=k.waits}}:gg).fN[i]? =some {j.iq with waits:=k.waits}:=getElem?_set_at hi;have e4:=S.more (lw:=p.last+1) e8 H (by have:=e6.2.2 M;show k.waits<=0;omega) (fun e0 e7=>by
   rcases dh e7 with K|K
   ·have:=D.waits e0 K;omega
   ·rw[K];show k.waits<_;omega) (by have:=D.last;omega) b4 f0 a2
  have d4:gm (xD d f e) b A:=a2.mono fun n _ h=>h.elim bg (fun h=>bf (bf h));refine⟨rfl,i'.P_ (h:=c3) (g:=m) (w4:=v++[cb]) (s.gx d4 (fun n b1 b2 l=>j' S l (by decide) (by decide)) (fun n b1 b2 l=>j' S l (by decide) (by decide))) (b7 w) ?_ (fun n l=>?_) (sj E X) ((a9 b t).trans (d4.mono fun n _ l=>pg l))⟩
  ·show hU _ _ _ (oq p i k j) _ _ _ _ _;rw[KG (c:=k.waits) w z M e9];exact e4.last _
  ·rcases Hc (b5.imp id fun C n l=>bZ t.size (C n l)) n l with K|K
   ·exact si H E L n K
   ·exact bf K
 have a5:=fK R;obtain⟨_,_,f8,f9,rfl,_⟩:=id b6;generalize (oq p i k j,kT j [])=f7 at Z J N⊢;generalize a+q.length=f6 at a4 Z J N⊢;clear R C hi H E D b6 d3 d0 b3 a7 a8 b8 e5 c2 d5 a9 d1 d6 d7 d2;go_enter func98,ntmps98;go_wp2_with fail;refine c6.out.mono ?_;rintro h b ⟨rfl,rfl⟩;clear c6;go_wp2_with fail;refine a4.out.mono ?_;rintro h b ⟨⟨y,rfl,s⟩,G,a3,a1⟩;obtain⟨g1,g2,rfl⟩:=s.form;replace s:=fK s;replace G:=fK G;replace a3:=fK a3;replace a1:=fK a1;clear a4;generalize (kT j []).length=g3 at s;cases w:j.gone with
 |true=>have c5:=fK (Z.out w b _ s.out G.out a1.out);clear Z J N s G a3 a1;go_wp2_with fail;refine c5.out.mono ?_;rintro h A ⟨rfl,T⟩;replace T:=fK T;clear c5;go_wp2_with fail;go_ret;exact T.out
 |false=>
  obtain⟨u,O,L,X⟩:=a3.out w;have I:=fK (pL O.gK);have U:=fK O;have W:=fK L;have b0:=fK X;clear Z a3 a1 O L X;cases z:j.iq.fY with
  |false=>
   have M:k.fY=false:=by
    cases t:k.fY with
    |false=>rfl
    |true=>have:=a5.out.stay t;rw[z]at this;cases this
   have V:=fK (J.out w (by rw[z,M]) b _ u s.out G.out U.out W.out b0.out);rw[z]at I;clear J N s G U W a5;go_wp2_with fail;refine I.out.mono ?_;rintro h A ⟨rfl,rfl⟩;clear I;go_wp2_with fail;go_ret;exact V.out
  |true=>
   rw[z]at I;cases M:k.fY with
   |true=>have V:=fK (J.out w (by rw[z,M]) b _ u s.out G.out U.out W.out b0.out);clear J N s G U W a5;go_wp2_with fail;refine I.out.mono ?_;rintro h A ⟨rfl,rfl⟩;clear I;go_wp2_with fail;go_ret;exact V.out
   |false=>have V:=fK (N.out w z M b _ u s.out G.out U.out W.out b0.out);clear J N s G U W a5;go_wp2_with fail;refine I.out.mono ?_;rintro h A ⟨rfl,rfl⟩;clear I;go_wp2_with fail;refine V.out.mono ?_;rintro h A ⟨rfl,T⟩;replace T:=fK T;clear V;go_wp2_with fail;go_ret;exact T.out
theorem xe(i:TypeInfo)(e:y5.underlying z=some (.slice u5))(hi:y5.info? u5=some i){R:Option Addr}(c:a<=d):
  (bB #[z,z] y8 #[.slice R a d,ai none 0 0]).run y5 b=.ok (.slice R a d) b:=by
 cases R with
 |none=>simp[bB,dM e,sizeOf,typeInfo,hi,Builtin.lenOf,c,run_firstCells_none]
 |some f=>simp[bB,dM e,sizeOf,typeInfo,hi,Builtin.lenOf,c,run_firstCells_none,storeCells]
theorem kw.append{a B:List (Int×aM)}{y:List (Int×List Int)}(h:kw w f a x)(k:kw w d B y)(o:f<=d)(z:∀(i:Nat) b c,a[i]? =some b->b.2.ownBlock=some c->c<d):kw w f (a++B) (x++y):=by
 obtain⟨j,s,t⟩:=h;obtain⟨q,m,C⟩:=k;have u:∀(i:Nat) b c,B[i]? =some b->b.2.ownBlock=some c->d<=c:=by
  intro i b c e l;have p:i<y.length:=by grind
  exact((m i b y[i] e (ap p)).2.lt c l).1
 refine⟨by simp[j,q],fun i b n e g=>?_,fun i A b n c v e g l=>?_⟩
 ·rcases ay i a.length with hi|hi
  ·grind
  ·rw[bN hi]at e;rw[bN (by omega),<-j]at g;have:=m _ b n e g;exact⟨this.1,gq this.2 o⟩
 grind
theorem nx.Lh{l:Nat}{a:List (Int×aM)}(h:nx w l a x):∀e∈gj a,e.oneCell'=true:=by
 intro e d;unfold gj at d;obtain⟨m,j,c⟩:=List.mem_flatMap.1 d;obtain⟨b,g,o⟩:=dw j;have k:b<x.length:=by rw[<-h.1];exact g
 obtain⟨n,cap,f⟩:=gB (h.2 b m x[b] (by grind) (ap k)).2;simp only[List.mem_cons,List.not_mem_nil,or_false]at c;rcases c with rfl|rfl
 ·rfl
 ·rw[f];rfl
theorem uU(L:la u7 b a e t)(B:gm F b w)(N:∀c g q,b.heap[c]? =some (.cells g 60 q)->¬F c)(O:∀c g q,b.heap[c]? =some (.cells g 5 q)->¬F c)(M:la u7 w b.heap.size h t6)(a5:t.length+t6.length<=1000)(s:a<=b.heap.size):
  ∃u k,(bB #[47,47] z #[e,h]).run ab w=.ok u k/\la u7 k a u (t++t6)/\w.grownBy k e.ownBlock:=by
 obtain⟨I,hi,Z,a0,a1⟩:=info_parts sZ;obtain⟨f,W,x,X⟩:=L;have U:∀(i:Nat) p d,f[i]? =some p->p.2.ownBlock=some d->d<b.heap.size:=by
  intro i p d H E;have S:i<t.length:=by rw[<-x.1];grind
  exact((x.2.1 i p t[i] H (ap S)).2.lt d E).2
 have o:=gI W B N;have y:=x.gx B O;have Q:=s;replace s:=bZ s B.size;obtain⟨m,G,A,a7⟩:=M;have a6:=y.1;have T:=A.1;obtain⟨_,⟨v,K⟩|⟨d,cap,g,v,a8⟩⟩:=id G
 ·subst v;obtain rfl:m=[]:=d'.1 K;obtain rfl:t6=[]:=d'.1 (by rw[<-T];rfl);obtain⟨a3,J,rfl⟩:=gr o;have R:f.length<=J:=by
   rcases o.2 with⟨n,a4⟩|⟨d,cap,g,n,_,_,D,_⟩
   ·omega
   grind
  exact⟨_,w,xe I underlying47 hi R,⟨f,o,by rw[ep];exact y,X⟩,rfl,rfl,rfl,ar _,fun _ _ _=>rfl⟩
 ·subst v;obtain⟨u,k,Y,a2,j,_⟩:=jR (P:=ab) w a 47 z 60 I _ 2 32 underlying47 hi Z a0 a1 rfl (by decide) e f.length (gj f) o (Ad d 0) m.length cap (gj m) (ln (B:=m)) (G.cells rfl) A.by.Lh (by unfold aO;omega) (by omega) s;refine⟨u,k,Y,⟨f++m,?_,?_,fun i p d H E=>?_⟩,j⟩
  ·rw[bL,kv];exact a2
  ·have D:gm (fun c=>e.ownBlock=some c) w k:=⟨j.os,j.tape,j.output,j.size,fun c C V=>j.block c C (fun n=>V n.symm)⟩;exact(y.append A Q U).gx D (fun c g q C n=>fR o C (by decide) n)
  grind
theorem Ea(p:ix b a e t)(y:gm F b w)(u:∀c d f,b.heap[c]? =some (.cells d 60 f)->¬F c)(v:∀c d f,b.heap[c]? =some (.cells d 5 f)->¬F c)(q:la u7 w b.heap.size h t6)(s:∀c,a<=c->c<b.heap.size->¬u7 c)(A:t.length+t6.length<=1000)(x:a<=b.heap.size):
  ∃m j,(bB #[47,47] z #[e,h]).run ab w=.ok m j/\la u7 j a m (t++t6)/\w.grownBy j e.ownBlock:=
 uU (by obtain⟨n,B,g⟩:=p;exact⟨n,B,g,fun i C o l k=>s o (g.ge l k).1 (g.ge l k).2⟩) y u v q A x
theorem hU.other(h:hU a w d s f e m xs v)(o:gm F w b)(n:∀l,F l->∃g j,w.heap[l]? =some (.cells g 60 j)):hU a b d s f e m xs v:=by
 obtain⟨C,B,q⟩:=h.map;refine⟨h.gK.gx o (fun c=>?_),⟨C,B,q.same (o.block f q.lt (fun c=>?_))⟩,h.iD,h.jv,fun i y cb x z A t=>?_,gM h.row o (fun l p c=>?_),h.wait,h.apart,h.AD⟩
 ·obtain⟨g,j,k⟩:=n _ c;have t:w.heap[d]? =some (.cells (oP s.c s.now f e) 101 (0,0)):=h.gK;grind
 ·obtain⟨g,j,k⟩:=n _ c;obtain⟨E,D,G⟩:=q.iM;grind
 ·have u:=h.iq i y cb x z A t;refine u.gx o (fun l p c=>?_) (fun l g j p c=>?_)
  ·obtain⟨g,j,k⟩:=n _ c;exact jr u k (by decide) (by decide) (by decide) (by decide) p
  grind
 ·obtain⟨g,j,k⟩:=n _ c;exact fR h.row k (by decide) p
theorem hU.snoc{a:gw}(h:hU A w d s f e m xs v)(X:Bw w b)(b3:hC 0 b cb s.c j a)(d0:∀c,ie cb a c->w.heap.size<=c)(d1:j.waits<=0)
  (c4:n<=A+1) (c2:iO kb ab 3 o f n ((s.fN.map (·.fZ)).zip m++[(j.fZ,cb)])) (z:b.grownBy o (some f)):
  hU (A+1) o d {s with fN:=s.fN++[j]} f e (m++[cb]) (xs++[a]) v:=by
 have t:=h.below X;obtain⟨d3,c9,Y⟩:=h.map;have G:gm (fun c=>c=f) b o:=⟨z.os,z.tape,z.output,z.size,fun c k I=>z.block c k (fun l=>I (Option.some.inj l))⟩;have b5:gm (xD d f e) b o:=G.mono fun c _ l=>bf (bg l);obtain⟨a9,a5,c3⟩:=Y.iM;have c8:b.heap[f]? =some (.map a9 a5):=by rw[X.block f Y.lt];exact c3
 have I:∀c K l O,b.heap[c]? =some (.cells K l O)->c≠f:=by grind
 have b6:¬ie cb a f:=fun W=>by grind
 have c7:∀(i:Nat) C B,m[i]? =some C->xs[i]? =some B->∀c,ie C B c->c<w.heap.size:=by intro i C B E L c k;obtain⟨D,Q⟩:∃D,s.fN[i]? =some D:=⟨_,ap (by rw[<-h.iD];grind)⟩;exact ur (h.iq i D C B Q E L) k
 have g:∀{α:Type} (R:List α) (a0 S:α) (i:Nat),R.length=s.fN.length->(R++[a0])[i]? =some S->(i<s.fN.length/\R[i]? =some S)\/(i=s.fN.length/\S=a0):=by grind
 have b4:hC (A+1) o cb s.c j a:=(b3.gx G (fun c k l=>b6 (l▸k)) (fun c K O k=>I c K _ O k)).mono (by omega);obtain⟨a6,c5,c6,d2⟩:=h.wait;refine⟨t.gK.gx G (I _ _ _ _ t.gK),⟨n,c4,?_⟩,by simp[h.iD],by simp[h.jv],fun i D T J Q H y=>?_,gM t.row G (fun c k l=>?_),⟨a6,c5.same ?_,c6,fun Z J y=>?_⟩,fun i Z a3 a1 a4 a2 b7 E L a7 a8 c b8 b9=>?_,fun i T J H y W=>?_⟩
 ·show iO kb ab 3 o f n (((s.fN++[j]).map (·.fZ)).zip (m++[cb]));rw[List.map_append,List.zip_append (by simp[h.iD])];exact c2
 ·rcases g _ _ _ _ rfl Q with⟨b2,P⟩|⟨b2,P⟩
  ·rcases g _ _ _ _ h.iD H with⟨_,u⟩|⟨u,_⟩
   ·rcases g _ _ _ _ h.jv y with⟨_,x⟩|⟨x,_⟩
    ·exact(t.cons b5 P u x).mono (by omega)
    ·omega
   ·omega
  ·rcases g _ _ _ _ h.iD H with⟨u,_⟩|⟨_,u⟩
   ·omega
   ·rcases g _ _ _ _ h.jv y with⟨x,_⟩|⟨_,x⟩
    ·omega
    ·subst P u x;exact b4
 ·obtain⟨c1,E⟩:=fX t.row k;grind
 ·show jp (s.fN++[j])=_;rw[jS,np,if_neg (by omega),ep]
 ·grind
 ·rcases g _ _ _ _ h.iD E with⟨M,p⟩|⟨M,p⟩<;>rcases g _ _ _ _ h.jv L with⟨N,q⟩|⟨N,q⟩<;>rcases g _ _ _ _ h.iD a7 with⟨b0,U⟩|⟨b0,U⟩<;>rcases g _ _ _ _ h.jv a8 with⟨b1,V⟩|⟨b1,V⟩<;>first
   |omega
   |exact h.apart i Z a3 a1 a4 a2 b7 p q U V c b8 b9
   |grind
   |grind
 ·rcases g _ _ _ _ h.iD H with⟨M,p⟩|⟨M,p⟩<;>rcases g _ _ _ _ h.jv y with⟨N,q⟩|⟨N,q⟩<;>first
   |omega
   |exact h.AD i T J p q W
   |grind
theorem Ev{α:Type}{u6:rJ α}(g:y5.underlying y8=some (.map z u5)){y9:List (Int×α)}(e:iO u6 y5 z b a d y9)(c:bG):
  (eu #[y8] c #[.map (some a)]).run y5 b=.ok (II y9.length) b:=by
 obtain⟨h,f,ok⟩:=e;have:=f.len g c;rw[ok.size]at this;exact this
theorem GQ{a7:Int}(k:hU a b d p f e m Q v)(L:gD l u p)(b2:∃R T S,h=.slice R T S)(b1:∃R T S,q=.slice R T S)(a4:ly p=true):
  aL ab 91 #[Pt d,II a7,.agg (sX x1 g h q),.bool ok] b fun y D=>i' a b d f e m Q (p,[]) y D:=by
 obtain⟨t,w,x,rfl⟩:=b2;obtain⟨n,o,s,rfl⟩:=b1;have B:=L.cfg;have b4:=B.c0;have b5:=B.c1;have b6:=B.c3;have b7:=B.c8;have c2:=L.tz;obtain⟨J,b0,z⟩:=k.map;have M:((p.fN.map (·.fZ)).zip m).length=p.fN.length:=by simp[k.iD]
 have X:Hid (∀(j:aK),Bw b j->i' a b d f e m Q (p,[]) (.returned (ai none 0 0)) j):=fun j a1=>i'.MO k (ix.nil _ _) (k.below a1) (fun b3 O=>bg O) (fun b3 O=>O) (gm.fU a1);have Y:Hid (∀j,Bw b j->aL ab 28 #[Pt d] j fun y D=>y=.returned (II (ls p))/\∃J,D=j.drewN J):=by intro j H;have A:=sM (k.gK.below H) (z.same (H.block f z.lt)) (by omega) (by omega) (by omega);rw[M]at A;exact A
 have W:Hid (∀j,Bw b j->aL ab 55 #[Pt d] j fun y D=>y=.returned (II (iT p.c))/\∃J,D=j.drewN J):=by intro j H;exact wb (k.gK.below H) (by omega) (by omega)
 have C:0<=iT p.c/\iT p.c<=5000:=by unfold iT;omega
 have a5:0<=ls p/\ls p<=5000000:=by
  unfold ls;have a8:(p.fN.length:Int)<=1000:=by omega
  constructor
  ·exact cU (by omega) C.1
  ·exact Int.le_trans (cV a8 C.2 C.1 (by omega)) (by decide)
 have I:Bw b (b.alloc (.cells #[II x1.kind,II g,II x1.fZ,.slice t w x,II x1.num,.slice n o s] 107)):=fO _ _;have G:=k.gK.below I;have c7:CI (b.alloc (.cells #[II x1.kind,II g,II x1.fZ,.slice t w x,II x1.num,.slice n o s] 107)) d 0 p.c.c0:=G.cell 0;have d0:CI (b.alloc (.cells #[II x1.kind,II g,II x1.fZ,.slice t w x,II x1.num,.slice n o s] 107)) d 8 p.c.c8:=G.cell 8;have c9:CV (b.alloc (.cells #[II x1.kind,II g,II x1.fZ,.slice t w x,II x1.num,.slice n o s] 107)) d 11 (.map (some f)):=G.cell 11;have d1:∀(K:Nat) (U:bG),(eu #[98] U #[.map (some f)]).run ab ((b.alloc (.cells #[II x1.kind,II g,II x1.fZ,.slice t w x,II x1.num,.slice n o s] 107)).drewN K)=.ok (II p.fN.length) ((b.alloc (.cells #[II x1.kind,II g,II x1.fZ,.slice t w x,II x1.num,.slice n o s] 107)).drewN K):=by intro K U;have A:=Ev (u5:=97) underlying98 (z.same ((fQ I K).block f z.lt)) U;rw[M]at A;exact A
 obtain⟨a0,N⟩:∃V,iT p.c=V:=⟨_,rfl⟩;obtain⟨mem,P⟩:∃V,ls p=V:=⟨_,rfl⟩;have a6:Hid ((decide (p.c.c0<=(p.fN.length:Int)) || decide (p.c.c8<mem+a0))=true):=by rw[<-P,<-N];exact a4
 rw[N]at W C;rw[P]at Y a5;have E:=fK I;unfold sX;clear k L B G I N P a4 z M b0;obtain⟨b8,b9⟩:=C;obtain⟨c5,c6⟩:=a5;generalize a2:b.alloc (.cells #[II x1.kind,II g,II x1.fZ,.slice t w x,II x1.num,.slice n o s] 107)=d2 at *
 have Z:=fK a2;clear a2;rcases Int.lt_or_le p.fN.length p.c.c0 with c4|a9
 ·have a3:decide (p.c.c0<=(p.fN.length:Int))=false:=decide_eq_false (by omega);have z:p.c.c8<mem+a0:=by have:=a6.out;rw[a3]at this;simpa using this
  go_enter func91,ntmps91;go_wp2_with fail;rw[Z.out];go_quiet (first
   |(go_at_call 28;exact cP (Y.out _ (fQ E.out _)))
   |(go_at_call 55;exact cP (W.out _ (fQ E.out _))))
  go_wp2_with fail;go_ret;exact X.out _ (fQ E.out _)
 ·have a3:decide (p.c.c0<=(p.fN.length:Int))=true:=decide_eq_true a9;go_enter func91,ntmps91;go_wp2_with fail;rw[Z.out];go_quiet (fail);go_wp2_with fail;go_ret;exact X.out _ (fQ E.out _)
section
variable {α:Type}{C:rJ α}{P:Program}{K:bG}
end
theorem uR(a:fV)(b:List Int)(c:List (Int×List Int)):ig a b c=c++ig a b []:=by unfold ig;split<;>simp
theorem xU(r:Bj)(a:List (Int×List Int)):kT r a=a++kT r []:=by
 unfold kT;split
 ·simp
 ·exact uR _ _ _
theorem DD(hi:p.fN[i]? =some j)(a:List Int)(c:List (Int×List Int))(b:Nat):hY p i a c b=((hY p i a [] b).1,c++(hY p i a [] b).2):=by rw[nT b a c hi,nT b a [] hi,xU]
theorem FF(hi:p.fN[i]? =some j)(a:List Int)(b:Nat):(hY p i a [] b).2.length<=1:=by rw[nT b a [] hi];simp only;unfold kT ig;grind
theorem AE(a:fV)(b:List Int):(ig a b []).length<=1:=by unfold ig;split<;>simp
def kk(s:gg)(fZ addr size:Int)(ok:Bool):fV:=hE (iz s fZ addr size ok) (gu s.c (iz s fZ addr size ok))
def lF(s:gg)(fZ addr size:Int)(ok:Bool):gg:=
 if ok then {s with last:=s.last+1,fN:=s.fN++[{kk s fZ addr size ok with waits:=s.last+1}]} else {s with fN:=s.fN++[kk s fZ addr size ok]}
def tA(s:gg)(fZ addr size:Int)(ok:Bool):List (Int×List Int):=ig (iz s fZ addr size ok) (gu s.c (iz s fZ addr size ok)) []
theorem rz(b:gg)(a d e:Int)(ok:Bool):(kk b a d e ok).fZ=a/\(kk b a d e ok).waits=0/\(kk b a d e ok).fY=ok:=by have f:=nW (iz b a d e ok) (gu b.c (iz b a d e ok));exact⟨f.1,f.2.1,f.2.2.1⟩
theorem Lj(a:gg)(c b d:Int)(f:List Int)(e:Nat):qN a c b d f e []=hY (lF a c b d false) a.fN.length f (tA a c b d false) e:=by unfold qN lF;simp only;rw[oA];rfl
theorem Li(a:gg)(c b d:Int)(f:List Int)(e:Nat):qM a c b d f e []=hY (lF a c b d true) a.fN.length f (tA a c b d true) e:=by
 have g:=(rz a c b d true).2.2;have j:yr (a.last+1) (kk a c b d true) = {kk a c b d true with waits:=a.last+1}:=by generalize kk a c b d true=h at g⊢;cases h;cases g;rfl
 unfold qM lF sF;simp only;rw[oA,oA,if_pos trivial,<-j];rfl
theorem D9{e:Int}{x:Int}(d:gD e g p)(k:0<=u/\u<=1073741823)(j:0<=x/\x<256)(q:0<=l)(h:0<=e)(o:u∉p.fN.map (·.fZ))(m:¬ly p=true):gD (e+l+100) (g+1) (lF p u x l ok):=by
 have t:=d.last;have f:(p.fN.length:Int)<p.c.c0:=by unfold ly at m;grind
 obtain⟨a,b⟩:=vO d k j q h;have n:=rz p u x l ok;unfold lF;split
 ·refine gD.snoc (d.mono (by omega) (by omega)) ?_ ?_ (by rw[show({kk p u x l ok with waits:=p.last+1}:fV).fZ=u from n.1];exact o) ⟨by simp only;omega,by simp,fun s=>?_⟩ (by omega) (by omega) f
  ·exact⟨a.fZ,a.addr,a.gR,a.gS,a.heard,a.runs,a.fS,a.lu,a.str⟩
  ·exact⟨b.str,b.high,b.runs,b.EX⟩
  grind
 ·refine gD.snoc (last:=p.last) (d.mono (by omega) (by omega)) a b (by grind) ?_ (de _) (by omega) f;omega
theorem Gd(a:gg)(d b e:Int)(ok:Bool):∃c,(lF a d b e ok).fN[a.fN.length]? =some c:=by
 unfold lF;split
 ·simp_all
 simp_all
theorem qr(h:hU a b d p f e m Q v)(j:b.heap[n]? =some (.cells D z x3))(c:z=60\/z=5):¬js d f e m Q n:=by
 rintro(g|g|g|⟨l,q,o,s,t,u⟩)
 ·exact j' h j (by rcases c with rfl|rfl<;>decide) (by rcases c with rfl|rfl<;>decide) (bg g)
 ·exact j' h j (by rcases c with rfl|rfl<;>decide) (by rcases c with rfl|rfl<;>decide) (bf (bg g))
 ·exact j' h j (by rcases c with rfl|rfl<;>decide) (by rcases c with rfl|rfl<;>decide) (bf (bf g))
 ·obtain⟨k,x⟩:∃k,p.fN[l]? =some k:=⟨_,ap (by rw[<-h.iD];grind)⟩;have w:=h.iq l k q o x s t;exact jr w j (by rcases c with rfl|rfl<;>decide) (by rcases c with rfl|rfl<;>decide) (by rcases c with rfl|rfl<;>decide) (by rcases c with rfl|rfl<;>decide) u
theorem lS(c:gm F b w)(d:gm u7 w z5)(g:∀a,u7 a->F a\/b.heap.size<=a):gm F b z5:=
 ⟨d.os.trans c.os,d.tape.trans c.tape,d.output.trans c.output,bZ c.size d.size,fun a f e=>by rw[d.block a (ca f c.size) (fun h=>(g a h).elim e (fun j=>by omega)),c.block a f e]⟩
theorem Oe{h:Int}(K:m.length=p.fN.length)(L:Q.length=p.fN.length)
  (u:hU a w d {p with fN:=p.fN++[iG p.c h g ok]} f e (m++[cb]) (Q++[z6]) v) (D:gm (js d f e m Q) b w) (G:∀j,ie cb z6 j->b.heap.size<=j)
  (C:gC z5 cb p.c (kk p h g l ok) z6.mx z6.sm z6.dm (il (iG p.c h g ok).fM)) (n:gm (· = cb) w z5):
  hU a z5 d {p with fN:=p.fN++[kk p h g l ok]} f e (m++[cb]) (Q++[z6]) v/\gm (js d f e m Q) b z5/\hC a z5 cb p.c (kk p h g l ok) z6:=by
 have o:(p.fN++[iG p.c h g ok])[p.fN.length]? =some (iG p.c h g ok):=yd _;have q:(m++[cb])[p.fN.length]? =some cb:=by grind
 have s:(Q++[z6])[p.fN.length]? =some z6:=by grind
 have B:=u.iq p.fN.length _ cb z6 o q s;have x:=nW (iz p h g l ok) (gu p.c (iz p h g l ok));have I:(kk p h g l ok).fM=(iG p.c h g ok).fM:=by unfold kk hE;split<;>rfl
 have H:(kk p h g l ok).runs=(iG p.c h g ok).runs:=by unfold kk hE;split<;>rfl
 have t:hC a z5 cb p.c (kk p h g l ok) z6:=B.yx n C I H;have k:=u.step (ar _) o q s (n.mono fun j _ y=>bg y) t (fun j E=>bg E) x.1 x.2.1;have z:(p.fN++[iG p.c h g ok]).set p.fN.length (kk p h g l ok)=p.fN++[kk p h g l ok]:=oA _ _;have A:(Q++[z6]).set p.fN.length z6=Q++[z6]:=by grind
 rw[A]at k;simp only[z]at k;exact⟨k,lS D n (fun M J=>bf (by subst J;exact G _ (bg rfl))),t⟩
theorem Of{B:List gw}{z7:Nat}{M:aM}{w2:Nat}{V:Nat}{b9:gg}(a1:hU V b d b9 f e m Q v5)(S:∀l,me B l->me Q l)
  (u:hU a w d p f h v B w4) (hi:p.fN[i]? =some j) (Z:v[i]? =some cb) (a0:B[i]? =some z6) (a4:gD c g p) (a5:c<=1125899906842624) (b1:ka w q k) (b2:gG k) (b4:k.length<=1073741823) (b5:k.length<=z7) (a6:a+k.length<1125899906842624) (a3:∀J,gm (ie cb z6) w J->Env J)
  (K:gm (js d f e m Q) b w) (b3:∀l,js d f h v B l->js d f e m Q l\/b.heap.size<=l) (N:ix w w2 M t) (a9:b.heap.size<=w2) (b0:w2<=w.heap.size) (d1:t.length<=1):
  aL ab 98 #[Pt d,Pt cb,q] w fun s I=>∃y,s=.returned y/\(∃C H j,y=.slice C H j)/\∀U,∃o z,(bB #[47,47] U #[M,y]).run ab I=.ok o z/\(∃C H j,o=.slice C H j)/\i' (a+k.length) b d f e m Q (hY p i k t z7) (.returned o) z:=by
 refine(AU _ _ _ _ _ _ u hi Z a0 a4 a5 b1 b2 b4 b5 a6 a3).mono ?_;rintro s I ⟨⟨y,c3,W,c4,c2,rfl,O,a7,d2,T⟩,G⟩;have b7:=N.gx G (fun l D E n=>qr u n (bg rfl)) (fun l D E n=>qr u n (bf rfl));have d0:=FF hi k z7;obtain⟨c5,c7,X⟩:=O.at.form;refine⟨y,rfl,⟨_,_,_,X⟩,fun U=>?_⟩;obtain⟨o,z,b8,P,x⟩:=Ea N G (fun l D E n=>qr u n (bg rfl)) (fun l D E n=>qr u n (bf rfl)) O (fun l d3 d4 a2=>by
  rcases T l a2 with A|A
  ·have:=sU a1 (S l A);omega
  ·omega) (by omega) b0
 obtain⟨c6,c8,Y⟩:=P.at.form;obtain⟨out,R,_⟩:=b7;have L:gm (fun l=>M.ownBlock=some l) I z:=⟨x.os,x.tape,x.output,x.size,fun l n b6=>x.block l n (fun s=>b6 s.symm)⟩;have a8:=a7.other L (fun l n=>by obtain⟨c9,s⟩:=fX R n;grind);refine⟨o,z,b8,⟨_,_,_,Y⟩,?_⟩;rw[DD hi _ _ _];refine⟨⟨o,c3,W,c4,c2,rfl,P.mono a9,a8,fun l n=>?_,fun l n=>(T l n).imp (S l) (fun A=>bZ K.size A)⟩,?_⟩
 ·grind
 ·refine lS (lS K G b3) L (fun l n=>bf ?_);have:=(R.lt l n).1;omega
theorem BL(a:gg)(d b e:Int)(ok:Bool):{iG a.c d b ok with gR:=(iG a.c d b ok).gR+e,heard:=a.now}=iz a d b e ok:=by simp[iG,iz,ki]
theorem Ew{α:Type}{u6:rJ α}(f:y5.underlying z=some (.int .i64))(p:y5.underlying y8=some (.map z u5)){y9:List (Int×α)}(h:iO u6 y5 z b a d y9)(m:d<aO)(l:(Lit.int .i64 c).wf=true){x0:α}(n:nR y9 c=none):
  ∃e,(Instr.mapUpdate y8 (.map (some a)) (II c) (u6.V x0)).run y5 b=.ok () e/\iO u6 y5 z e a (d+1) (y9++[(c,x0)])/\b.grownBy e (some a):=by
 obtain⟨q,g,ok⟩:=h;obtain⟨e,o,j,k⟩:=g.store (dQ f) p m (Maps.keyOf_int_mk f l) (u6.val x0);exact⟨e,o,⟨_,j,ok.put (g.tidy (dQ f)) x0 n⟩,k.grown⟩
theorem yc(e:n<=cb)(g:n<=d)(h:n<=f):∀b,ie cb (jc d f) b->n<=b:=by
 rintro b (a|a|a|a|⟨j,c,_⟩)
 ·omega
 ·simp[jc,Value.ownBlock]at a
 ·simp only[jc]at a;omega
 ·simp only[jc]at a;omega
 ·simp[jc]at c
theorem GP{j:Int}(t:hU a b d p f e m Q v)(e6:gD l u p)(B5:∃D0 D2 D1,h=.slice D0 D2 D1)(f1:ly p=false)(h9:x1.fZ∉p.fN.map (·.fZ))(o6:0<=x1.fZ/\x1.fZ<=1073741823)(n4:0<=c/\c<256)(i2:0<=j/\j<=1125899906842624)(s0:0<=l)(r9:l+j+100<=1125899906842624)
  (h0:ka b q k) (o2:gG k) (h4:k.length<=1073741823) (B2:k.length<=n) (s1:a+1+k.length<1125899906842624) (m7:∀s,gm (js d f e m Q) b s->Env s):
  aL ab 91 #[Pt d,II c,.agg (sX x1 j h q),.bool ok] b fun o J=>i' (a+1+k.length) b d f e m Q (hY (lF p x1.fZ c j ok) p.fN.length k (tA p x1.fZ c j ok) n) o J:=by
 obtain⟨E,G,H,rfl⟩:=B5;obtain⟨_,_,z,A,rfl,_⟩:=id h0;generalize A6:k.length=w at *
 have b7:=e6.cfg;have r5:=b7.c0;have R:=b7.c1;have m5:=b7.c3;have r6:=b7.c8;have A7:=e6.tz;obtain⟨a3,B4,a2⟩:=t.map;have e7:((p.fN.map (·.fZ)).zip m).length=p.fN.length:=by simp[t.iD]
 have p1:=a2.le;rw[e7]at p1;have g0:Hid (∀s,Bw b s->aL ab 28 #[Pt d] s fun o J=>o=.returned (II (ls p))/\∃a3,J=s.drewN a3):=by intro s K;have a0:=sM (t.gK.below K) (a2.same (K.block f a2.lt)) (by omega) (by omega) (by omega);rw[e7]at a0;exact a0
 have f9:Hid (∀s,Bw b s->aL ab 55 #[Pt d] s fun o J=>o=.returned (II (iT p.c))/\∃a3,J=s.drewN a3):=by intro s K;exact wb (t.gK.below K) (by omega) (by omega)
 have b8:0<=iT p.c/\iT p.c<=5000:=by unfold iT;omega
 have p3:0<=ls p/\ls p<=5000000:=by
  unfold ls;have h4:(p.fN.length:Int)<=1000:=by omega
  constructor
  ·exact cU (by omega) b8.1
  ·exact Int.le_trans (cV h4 b8.2 b8.1 (by omega)) (by decide)
 have f0:Bw b (b.alloc (.cells #[II x1.kind,II j,II x1.fZ,.slice E G H,II x1.num,.slice z w A] 107)):=fO _ _;have N:=t.gK.below f0;have C4:∀(f5:Nat) (d0:bG),(eu #[98] d0 #[.map (some f)]).run ab ((b.alloc (.cells #[II x1.kind,II j,II x1.fZ,.slice E G H,II x1.num,.slice z w A] 107)).drewN f5)=.ok (II p.fN.length) ((b.alloc (.cells #[II x1.kind,II j,II x1.fZ,.slice E G H,II x1.num,.slice z w A] 107)).drewN f5):=by intro f5 d0;have a0:=Ev (u5:=97) underlying98 (a2.same ((fQ f0 f5).block f a2.lt)) d0;rw[e7]at a0;exact a0
 have A4:decide (p.c.c0<=(p.fN.length:Int))=false:=by unfold ly at f1;grind
 have h6:¬p.c.c8<ls p+iT p.c:=by unfold ly at f1;grind
 have d6:Hid ((b.alloc (.cells #[II x1.kind,II j,II x1.fZ,.slice E G H,II x1.num,.slice z w A] 107)).heap[b.heap.size]? =some (.cells #[II x1.kind,II j,II x1.fZ,.slice E G H,II x1.num,.slice z w A] 107 (0,0))):=cA b _;have a6:Hid (b.heap.size<(b.alloc (.cells #[II x1.kind,II j,II x1.fZ,.slice E G H,II x1.num,.slice z w A] 107)).heap.size):=by show _<_;simp
 have i3:CI (b.alloc (.cells #[II x1.kind,II j,II x1.fZ,.slice E G H,II x1.num,.slice z w A] 107)) d 0 p.c.c0:=N.cell 0;have i4:CI (b.alloc (.cells #[II x1.kind,II j,II x1.fZ,.slice E G H,II x1.num,.slice z w A] 107)) d 1 p.c.c1:=N.cell 1;have i6:CI (b.alloc (.cells #[II x1.kind,II j,II x1.fZ,.slice E G H,II x1.num,.slice z w A] 107)) d 2 p.c.c2:=N.cell 2;have i7:CI (b.alloc (.cells #[II x1.kind,II j,II x1.fZ,.slice E G H,II x1.num,.slice z w A] 107)) d 3 p.c.c3:=N.cell 3;have i8:CI (b.alloc (.cells #[II x1.kind,II j,II x1.fZ,.slice E G H,II x1.num,.slice z w A] 107)) d 4 p.c.c4:=N.cell 4;have i9:CI (b.alloc (.cells #[II x1.kind,II j,II x1.fZ,.slice E G H,II x1.num,.slice z w A] 107)) d 5 p.c.c5:=N.cell 5;have j0:CI (b.alloc (.cells #[II x1.kind,II j,II x1.fZ,.slice E G H,II x1.num,.slice z w A] 107)) d 6 p.c.c6:=N.cell 6;have j1:CI (b.alloc (.cells #[II x1.kind,II j,II x1.fZ,.slice E G H,II x1.num,.slice z w A] 107)) d 7 p.c.c7:=N.cell 7;have j2:CI (b.alloc (.cells #[II x1.kind,II j,II x1.fZ,.slice E G H,II x1.num,.slice z w A] 107)) d 8 p.c.c8:=N.cell 8;have j3:CI (b.alloc (.cells #[II x1.kind,II j,II x1.fZ,.slice E G H,II x1.num,.slice z w A] 107)) d 9 p.c.c9:=N.cell 9;have i5:CI (b.alloc (.cells #[II x1.kind,II j,II x1.fZ,.slice E G H,II x1.num,.slice z w A] 107)) d 10 p.now:=N.cell 10;have f4:CV (b.alloc (.cells #[II x1.kind,II j,II x1.fZ,.slice E G H,II x1.num,.slice z w A] 107)) d 11 (.map (some f)):=N.cell 11;have e2:io (b.alloc (.cells #[II x1.kind,II j,II x1.fZ,.slice E G H,II x1.num,.slice z w A] 107)) b 2 x1.fZ:=by simp
 have j8:Hid (∀s M:aK,Bw s M->(CI s d 0 p.c.c0/\CI s d 1 p.c.c1/\CI s d 2 p.c.c2/\CI s d 3 p.c.c3/\CI s d 4 p.c.c4/\CI s d 5 p.c.c5/\CI s d 6 p.c.c6/\CI s d 7 p.c.c7/\CI s d 8 p.c.c8/\CI s d 9 p.c.c9/\io s b 2 x1.fZ)->(CI M d 0 p.c.c0/\CI M d 1 p.c.c1/\CI M d 2 p.c.c2/\CI M d 3 p.c.c3/\CI M d 4 p.c.c4/\CI M d 5 p.c.c5/\CI M d 6 p.c.c6/\CI M d 7 p.c.c7/\CI M d 8 p.c.c8/\CI M d 9 p.c.c9/\io M b 2 x1.fZ)):=fun s M K t=>⟨fL t.1 K,fL t.2.1 K,fL t.2.2.1 K,fL t.2.2.2.1 K,fL t.2.2.2.2.1 K,fL t.2.2.2.2.2.1 K,fL t.2.2.2.2.2.2.1 K,fL t.2.2.2.2.2.2.2.1 K,fL t.2.2.2.2.2.2.2.2.1 K,fL t.2.2.2.2.2.2.2.2.2.1 K,fL t.2.2.2.2.2.2.2.2.2.2 K⟩;have l2:=fK (fun s=>Ku (s:=p.c) (c:=x1.fZ) (g:=c) (ok:=ok) (b:=s) (by omega));have l6:=fK (pC (c:=x1.fZ) (by omega));have l1:Hid (nR ((p.fN.map (·.fZ)).zip m) x1.fZ=none):=by refine qw.2 ?_;rw[ei (by simp[t.iD])];exact h9
 have T:=fK t;have a5:=fK e6;have e0:=fK a2;have m8:a3<aO:=by unfold aO;omega
 obtain⟨D6,o7⟩:∃d3,iT p.c=d3:=⟨_,rfl⟩;obtain⟨mem,p2⟩:∃d3,ls p=d3:=⟨_,rfl⟩;rw[o7]at f9 b8 h6;rw[p2]at g0 p3 h6;obtain⟨A2,A3⟩:=b8;obtain⟨B0,B1⟩:=p3;have d5:=fK f0;have k0:=fK h0;have k3:=fK o2;have k6:=fK m7;have q7:=fK h9;have q3:=fK f1;unfold sX Fp at *
 clear t e6 b7 N f0 o7 p2 f1 a2 e7 h0 o2 m7 h9;generalize n3:(b.alloc (.cells #[II x1.kind,II j,II x1.fZ,.slice E G H,II x1.num,.slice z w A] 107))=j5 at *
 have l4:=fK n3;clear n3;go_enter func91,ntmps91;go_wp2_with fail;rw[l4.out];go_quiet (first
  |(go_at_call 28;exact cP (g0.out _ (fQ d5.out _)))
  |(go_at_call 55;exact cP (f9.out _ (fQ d5.out _))))
 have g8:=fQ d5.out nq;have I:Bw j5 (j5.drewN nq):=fQ (Below.refl _ _) _;generalize j5.drewN nq=j6 at g8 I⊢;replace i3:=fL i3 I;replace i4:=fL i4 I;replace i6:=fL i6 I;replace i7:=fL i7 I;replace i8:=fL i8 I;replace i9:=fL i9 I;replace j0:=fL j0 I;replace j1:=fL j1 I;replace j2:=fL j2 I;replace j3:=fL j3 I;replace i5:=fL i5 I;replace f4:=fL f4 I;replace e2:=fL e2 I;replace d6:=fK ((I.block b.heap.size a6.out).trans d6.out);replace a6:=fK (ca a6.out I.size);have j9:=fK g8;clear g8 I g0 f9 C4 l4 d5;go_wp2_with fail;go_region_held3 (fun J=>J.cell? (Ad d 0)=some (II p.c.c0)/\J.cell? (Ad d 1)=some (II p.c.c1)/\J.cell? (Ad d 2)=some (II p.c.c2)/\J.cell? (Ad d 3)=some (II p.c.c3)/\J.cell? (Ad d 4)=some (II p.c.c4)/\J.cell? (Ad d 5)=some (II p.c.c5)/\J.cell? (Ad d 6)=some (II p.c.c6)/\J.cell? (Ad d 7)=some (II p.c.c7)/\J.cell? (Ad d 8)=some (II p.c.c8)/\J.cell? (Ad d 9)=some (II p.c.c9)/\J.cell? (gf b 2)=some (II x1.fZ)) (first|assumption|simp_all|go_keep) (first
  |(go_at_call 145;refine(l2.out _).mono ?_;rintro o Y ⟨⟨cb,S,P,rfl,m6,B9,C0,a9⟩,a8⟩;have s2:=j8.out _ _ a8 (by assumption)))
 have e5:=fP j9.out (gc a8);have a7:=gc a8;have r3:=fL f4 a7;have e3:=fL e2 a7;have k1:=fK ((a7.block b.heap.size a6.out).trans d6.out);have h5:b.heap.size<j6.heap.size:=a6.out;have c7:b.heap.size<cb/\b.heap.size<S/\b.heap.size<P:=by have o:j6.drew.heap.size=j6.heap.size:=rfl;omega
 have l3:Hid (∀L:aK,iO kb ab 3 L f (a3+1) ((p.fN.map (·.fZ)).zip m++[(x1.fZ,cb)])->Y.drew.grownBy L (some f)->hU (a+1) L d {p with fN:=p.fN++[iG p.c x1.fZ c ok]} f e (m++[cb]) (Q++[jc S P]) v/\gm (js d f e m Q) b L/\L.heap[b.heap.size]? =Y.heap[b.heap.size]?/\Y.heap.size<=L.heap.size):=by
  intro L f2 W;have X:Y.grownBy L (some f):=⟨W.os,W.tape,W.output,W.size,fun x D h7=>W.block x D h7⟩;have D8:=e0.out.lt;refine⟨T.out.snoc e5 m6 (fun x D=>yc (ej c7.1) (ej c7.2.1) (ej c7.2.2) x D) (de _) (by omega) f2 X,?_,?_,X.size⟩
  ·exact lS (gm.fU e5) (⟨X.os,X.tape,X.output,X.size,fun x D h7=>X.block x D (fun o=>h7 (Option.some.inj o))⟩:gm (fun x=>x=f) Y L) (fun x D=>bg (bf (bg D)))
  ·exact X.block _ (ca h5 a7.size) (fun o=>by grind)
 have k9:Hid (iO kb ab 3 Y.drew f a3 ((p.fN.map (·.fZ)).zip m)):=e0.out.same (e5.block f e0.out.lt);have p5:b.heap.size<Y.heap.size:=ca h5 a7.size;have l8:=fK p5;have b3:=fK c7;clear s2 a8 m6 B9 C0 a9 e5 a7 c7 h5 p5 i3 i4 i6 i7 i8 i9 j0 j1 j2 j3 i5 f4 e2 j8 l2 d6 a6 j9 e0 A4 h6 A2 A3 B0 B1 r5 R m5 r6 p1 A7 B4;go_wp2_with fail;obtain⟨L,i1,f2,W⟩:=Ew (u6:=kb) (u5:=97) underlying3 underlying98 k9.out m8 l6.out (x0:=cb) l1.out;replace i1:(Instr.mapUpdate 98 (.map (some f)) (II x1.fZ) (Pt cb)).run ab Y.drew=.ok () L:=i1;go_region;obtain⟨g9,o4,p8,a9⟩:=l3.out L f2 W;have o9:=T.out.iD;have p0:=T.out.jv;have m4:(p.fN++[iG p.c x1.fZ c ok])[p.fN.length]? =some (iG p.c x1.fZ c ok):=yd _;have e4:(m++[cb])[p.fN.length]? =some cb:=by grind
 have g7:(Q++[jc S P])[p.fN.length]? =some (jc S P):=by grind
 have n9:gC L cb p.c (iG p.c x1.fZ c ok) (ai none 0 0) S P (il (iG p.c x1.fZ c ok).fM):=(g9.iq p.fN.length _ cb _ m4 e4 g7).gK;have h8:=yc (n:=b.heap.size) (ej b3.out.1) (ej b3.out.2.1) (ej b3.out.2.2);have B6:d≠cb:=by have R:=T.out.gK.lt;have a0:=b3.out.1;omega
 have h1:=p8.trans k1.out;have p6:b.heap.size<L.heap.size:=ca l8.out a9;have d9:Hid (∀(O:aK) (a4:aM) (q2:List Nat) (f6:aM) (e1:Nat),hU (a+1) O d (lF p x1.fZ c j ok) f a4 (m++[cb]) (Q++[jc S P]) q2->gm (js d f e m Q) b O->(a4.ownBlock=e.ownBlock\/∀x,a4.ownBlock=some x->b.heap.size<=x)->ix O e1 f6 (tA p x1.fZ c j ok)->b.heap.size<=e1->e1<=O.heap.size->
   aL ab 98 #[Pt d,Pt cb,.slice z w A] O fun o j7=>∃d2,o=.returned d2/\(∃g5 c9 g6,d2=.slice g5 c9 g6)/\∀d0,∃d1 f8,(bB #[47,47] d0 #[f6,d2]).run ab j7=.ok d1 f8/\(∃g5 c9 g6,d1=.slice g5 c9 g6)/\i' (a+1+w) b d f e m Q (hY (lF p x1.fZ c j ok) p.fN.length k (tA p x1.fZ c j ok) n) (.returned d1) f8):=by
  intro O a4 q2 f6 e1 a1 U e8 f3 e9 a8;obtain⟨D5,A1⟩:=Gd p x1.fZ c j ok;have r8:=D9 (ok:=ok) a5.out o6 n4 i2.1 s0 q7.out (by rw[q3.out];simp);subst A6;have B7:∀x,me (Q++[jc S P]) x->me Q x:=by
   rintro x ⟨q8,A0,D⟩;rcases List.mem_append.1 A0 with R|R
   ·exact⟨q8,R,D⟩
   ·rw[List.mem_singleton.1 R]at D;exact D.elim
  refine Of T.out B7 a1 A1 e4 g7 r8 r9 (k0.out.gx U (fun x m1 m3 D=>qr T.out D (bf rfl))) k3.out h4 B2 s1 (fun s s3=>k6.out s (lS U s3 (fun d3 B8=>bf (h8 d3 B8)))) U (fun x D=>?_) f3 e9 a8 (AE _ _);rcases D with o|o|o|⟨C3,D7,D4,m2,e3,r4⟩
  ·exact bg (bg o)
  ·exact bg (bf (bg o))
  ·rcases e8 with t|t
   ·rw[t]at o;exact bg (bf (bf (bg o)))
   grind
  ·rcases ay C3 p.fN.length with A8|A8
   ·rw[List.getElem?_append_left (by omega)]at m2 e3;exact bg (lJ m2 e3 r4)
   grind
 have k7:=fK (xO n9 (by simp[iG,ki]) i2);have g1:=fK g9;have k4:=fK o4;have l0:=fK h8;have q5:=fK o9;have q6:=fK p0;have q4:=fK e4;have C8:io L b 1 j:=iL h1 rfl;have k2:=fK h1;have g4:=fK p6;clear g9 o4 p8 a9 m4 g7 n9 h8 h1 p6 f2 W i1 l3 k9 k1 r3 e3 l1 l6 m8 o9 p0 e4 k0 k3 k6;go_wp2_with fail;refine k7.out.mono ?_;rintro o D3 ⟨rfl,n5,h2⟩;have n1:=g1.out.gK.gx h2 B6;have C9:CI D3 d 10 p.now:=n1.cell 10;have k8:=fK (vx p.now n5);have k5:=fK h2;clear n5 h2 n1 k7 C8;go_wp2_with fail;refine k8.out.mono ?_;rintro o f7 ⟨rfl,n6,o5⟩;have n7:gC f7 cb p.c (iz p x1.fZ c j ok) (ai none 0 0) S P (il (iG p.c x1.fZ c ok).fM):=by rw[<-BL];exact n6
 have l7:=fK (uD n7 a5.out.cfg n4 o6 i2 (by simp[iz,ki]));have b0:=fK (k5.out.trans o5);clear n6 n7 o5 k8 C9 k5;go_wp2_with fail;refine l7.out.mono ?_;rintro o Z ⟨⟨f6,rfl,b9⟩,n8,b6⟩;obtain⟨q0,q1,rfl⟩:=b9.form;obtain⟨n0,o8,r7⟩:=Oe q5.out q6.out g1.out k4.out l0.out n8 (b0.out.trans b6);have C2:=(b0.out.trans b6).size;have o0:Z.heap[b.heap.size]? =_:=((b0.out.trans b6).block b.heap.size g4.out (fun o=>by have:=b3.out.1;omega)).trans k2.out;have C1:=b0.out.size;have a9:=g4.out;have p9:=b6.size;have b2:Hid (ix Z f7.heap.size (.slice q0 (tA p x1.fZ c j ok).length q1) (tA p x1.fZ c j ok)):=b9;have V:=fK n0;have d8:=fK o8;have d7:=fK o0;have e9:b.heap.size<=f7.heap.size:=by omega
 have d4:=fK e9;have m0:=fK p9;have l9:Hid (b.heap.size<Z.heap.size):=by show _<_;omega
 replace b9:ix Z f7.heap.size (.slice q0 (tA p x1.fZ c j ok).length q1) (tA p x1.fZ c j ok):=b9;clear b9 n0 o8 r7 o0 n8 b6 C2 C1 a9 p9 e9 l7 g1 k4 b0 l0 k2 g4 l8;obtain⟨C7,i0⟩:∃c9,(tA p x1.fZ c j ok).length=c9:=⟨_,rfl⟩;have p4:(ig (iz p x1.fZ c j ok) (gu p.c (iz p x1.fZ c j ok)) []).length=C7:=i0;rw[p4];rw[i0]at b2;clear i0 p4;cases ok with
 |false=>
  have a1:hU (a+1) Z d (lF p x1.fZ c j false) f e (m++[cb]) (Q++[jc S P]) v:=by have t:=V.out;unfold lF;rw[if_neg (by simp)];exact t
  have b1:=fK (d9.out Z e v _ _ a1 d8.out (bg rfl) b2.out d4.out m0.out);have j4:lq Z b 5 (.slice z w A):=iL d7.out rfl;clear a1 d9 V d8 b2 d7 d4;go_wp2_with fail;refine b1.out.mono ?_;rintro o j7 ⟨d2,rfl,⟨q9,C5,r1,rfl⟩,b5⟩;obtain⟨d1,f8,c2,⟨r0,C6,r2,rfl⟩,b4⟩:=b5 47;have g3:=fK b4;have g2:=fK c2;clear b4 c2 b5 b1 j4;go_wp2_with (first
   |(at_builtin;refine gJ rfl _ _ _ _ rfl _ _ rfl rfl g2.out ?_;refine Hid.out ?_))
  refine fK ?_;go_wp2_with fail;go_ret;exact g3.out
 |true=>
  have p7:v.length<=1000:=by have R:=T.out.LZ;have a0:=a5.out.tz;have m5:=a5.out.cfg.c0;omega
  have l5:=fK (Bb (cb:=cb) V.out.gK V.out.row p7);clear p7;go_wp2_with fail;refine l5.out.mono ?_;rintro o O ⟨rfl,⟨a4,n2,f3,e8⟩,U⟩;have B3:=rz p x1.fZ c j true;have A9:=a5.out.last;have a1:hU (a+1) O d (lF p x1.fZ c j true) f a4 (m++[cb]) (Q++[jc S P]) (v++[cb]):=by
   have t:=(V.out.more (i:=p.fN.length) (lw:=p.last+1) (yd _) q4.out (by omega) (fun o A5=>by
    rcases List.mem_append.1 A5 with R|R
    ·have:=a5.out.waits o R;omega
    grind) (by omega) n2 f3 U).last (p.last+1)
   unfold lF;rw[if_pos rfl];simp only[oA]at t;exact t
  have h3:gm (xD d f e) Z O:=U.mono fun x _ o=>o.elim bg (fun o=>bf (bf o));have o3:=lS d8.out h3 (fun x D=>bg (pg D));have m9:=b2.out.gx h3 (fun x m1 m3 D=>j' V.out D (by decide) (by decide)) (fun x m1 m3 D=>j' V.out D (by decide) (by decide));have b1:=fK (d9.out O a4 _ _ _ a1 o3 (e8.imp id fun t x D=>by have:=t x D;have:=l9.out;omega) m9 d4.out (bZ m0.out U.size));have o1:O.heap[b.heap.size]? =_:=(U.block b.heap.size l9.out (fun o=>by
   rcases o with o|o
   ·have:=T.out.gK.lt;omega
   ·have:=(T.out.row.lt _ o).2;omega)).trans d7.out
  have j4:lq O b 5 (.slice z w A):=iL o1 rfl;clear a1 d9 V d8 b2 d7 d4 n2 f3 e8 U h3 o3 m9 o1 B3 A9 l5;go_wp2_with fail;refine b1.out.mono ?_;rintro o j7 ⟨d2,rfl,⟨q9,C5,r1,rfl⟩,b5⟩;obtain⟨d1,f8,c2,⟨r0,C6,r2,rfl⟩,b4⟩:=b5 47;have g3:=fK b4;have g2:=fK c2;clear b4 c2 b5 b1 j4;go_wp2_with (first
   |(at_builtin;refine gJ rfl _ _ _ _ rfl _ _ rfl rfl g2.out ?_;refine Hid.out ?_))
  refine fK ?_;go_wp2_with fail;go_ret;exact g3.out
theorem hU.found(h:hU a w d s f e m xs v)(o:(s.fN.map (·.fZ)).Nodup){k:Nat}(n:s.fN[k]? =some j):∃cb c,m[k]? =some cb/\xs[k]? =some c/\nR ((s.fN.map (·.fZ)).zip m) j.fZ=some cb:=by
 have b:=(bo.1 n).1;have g:k<m.length:=by rw[h.iD];exact b
 have l:k<xs.length:=by rw[h.jv];exact b
 refine⟨m[k],xs[k],ap g,ap l,?_⟩;refine oe (by rw[ei (by simp[h.iD])];exact o) (bS (i:=k) ?_);grind
theorem hU.Le{n:aM}(h:hU a w d s f n m xs v)(p:0<=c/\c<=1073741823)(l:c∉s.fN.map (·.fZ)):(dZ 98 (.map (some f)) (II c) false).run ab w=.ok (ag none) w:=by
 obtain⟨q,_,j⟩:=h.map;have b:=vf (u6:=kb) (u5:=97) underlying3 underlying98 (fun o=>by kernel_rfl) j (pC (c:=c) (by omega));have g:nR ((s.fN.map (·.fZ)).zip m) c=none:=by refine qw.2 ?_;rw[ei (by simp[h.iD])];exact l
 unfold mD at b;rw[g]at b;exact b
theorem hU.lO{l:aM}(h:hU a w d s f l m xs v)(o:0<=c/\c<=1073741823)(g:nR ((s.fN.map (·.fZ)).zip m) c=some cb):(dZ 98 (.map (some f)) (II c) false).run ab w=.ok (Pt cb) w:=by obtain⟨p,_,j⟩:=h.map;have b:=vf (u6:=kb) (u5:=97) underlying3 underlying98 (fun n=>by kernel_rfl) j (pC (c:=c) (by omega));unfold mD at b;rw[g]at b;exact b
theorem Iy(b:ja p.fN g=none):li p c g num u k a t=(p,t):=by unfold li;rw[b]
theorem Fz(e:ja p.fN g=some d)(f:p.fN[d]? =some j)(b:j.addr≠c):li p c g num u k a t=(p,t):=by unfold li;grind
theorem KL(f:ja p.fN g=some d)(h:p.fN[d]? =some j)(b:j.addr=c)(e:kI {j with gR:=j.gR+u} num=none):li p c g num u k a t=({p with fN:=p.fN.set d {j with gR:=j.gR+u}},t):=by unfold li;grind
theorem KK{w5:fV}(f:ja p.fN g=some d)(h:p.fN[d]? =some j)(b:j.addr=c)(e:kI {j with gR:=j.gR+u} num=some w5):li p c g num u k a t=hY {p with fN:=p.fN.set d {w5 with heard:=p.now}} d k t a:=by unfold li;grind
theorem i'.pre{l p:aM}{e:ed}(h:i' a b d f p v Q r e o)(j:gm (js d f l m xs) w b)(n:∀c,js d f p v Q c->js d f l m xs c\/w.heap.size<=c)(A:∀c,me Q c->me xs c\/w.heap.size<=c):i' a w d f l m xs r e o:=by
 obtain⟨⟨B,D,q,E,C,s,z,u,t,x⟩,y⟩:=h;refine⟨⟨B,D,q,E,C,s,z.mono j.size,u,fun c k=>?_,fun c k=>?_⟩,lS j y n⟩
 ·rcases t c k with g|g
  ·exact n c g
  ·exact bf (bZ j.size g)
 ·rcases x c k with g|g
  ·exact A c g
  ·exact bf (bZ j.size g)
theorem JH(y:hU a b d p f e m Q v){b4:Int}(O:gD b4 u p)(j3:∃j7 j9 j8,h=.slice j7 j9 j8)(h4:0<=x1.fZ/\x1.fZ<=1073741823)(h7:0<=x1.num/\x1.num<=1073741823)(j4:0<=g/\g<=1125899906842624)(k4:0<=b4)(d0:b4+g+100<=1125899906842624)
  (b6:ka b q k) (d4:gG k) (d6:k.length<=1073741823) (d7:k.length<=n) (d1:a+k.length<1125899906842624) (c9:∀t,gm (js d f e m Q) b t->Env t):
  aL ab 49 #[Pt d,II c,.agg (sX x1 g h q)] b fun o K=>i' (a+k.length) b d f e m Q (li p c x1.fZ x1.num g k n []) o K:=by
 obtain⟨E,G,H,rfl⟩:=j3;obtain⟨_,_,B,C,rfl,_⟩:=id b6;generalize j1:k.length=w at *
 have U:Bw b (b.alloc (.cells #[II x1.kind,II g,II x1.fZ,.slice E G H,II x1.num,.slice B w C] 107)):=fO _ _;have d2:=y.gK.below U;have i1:CV (b.alloc (.cells #[II x1.kind,II g,II x1.fZ,.slice E G H,II x1.num,.slice B w C] 107)) d 11 (.map (some f)):=d2.cell 11;have g7:io (b.alloc (.cells #[II x1.kind,II g,II x1.fZ,.slice E G H,II x1.num,.slice B w C] 107)) b 2 x1.fZ:=by simp
 have a4:Hid ((b.alloc (.cells #[II x1.kind,II g,II x1.fZ,.slice E G H,II x1.num,.slice B w C] 107)).heap[b.heap.size]? =some (.cells #[II x1.kind,II g,II x1.fZ,.slice E G H,II x1.num,.slice B w C] 107 (0,0))):=cA b _;have Y:Hid (b.heap.size<(b.alloc (.cells #[II x1.kind,II g,II x1.fZ,.slice E G H,II x1.num,.slice B w C] 107)).heap.size):=by show _<_;simp
 have e3:Hid (∀(t:aK),Bw b t->i' (a+w) b d f e m Q (p,[]) (.returned (ai none 0 0)) t):=fun t T=>i'.MO y (ix.nil _ _) ((y.below T).mono (eh _ _)) (fun d9 A=>bg A) (fun d9 A=>A) (gm.fU T);rcases lL (y4:=p.fN) (c:=x1.fZ) with⟨a1,h6⟩|⟨d9,j,a1,A,f1⟩
 ·have f2:∀a7,(dZ 98 (.map (some f)) (II x1.fZ) false).run ab ((b.alloc (.cells #[II x1.kind,II g,II x1.fZ,.slice E G H,II x1.num,.slice B w C] 107)).drewN a7)=.ok (ag none) ((b.alloc (.cells #[II x1.kind,II g,II x1.fZ,.slice E G H,II x1.num,.slice B w C] 107)).drewN a7):=fun a7=>(y.below (fQ U _)).Le h4 h6;rw[Iy a1];unfold sX;have a3:=fK U;clear y O d2 U b6 d4 c9 a1 h6 d0 d1 d7 d6 a4 Y;generalize a0:(b.alloc (.cells #[II x1.kind,II g,II x1.fZ,.slice E G H,II x1.num,.slice B w C] 107))=b1 at *
  have a5:=fK a0;clear a0;go_enter func49,ntmps49;go_wp2_with fail;rw[a5.out];go_quiet (fail);go_wp2_with fail;go_ret;exact e3.out _ (fQ a3.out _)
 ·obtain⟨cb,z,P,J,d3⟩:=y.found O.nd A;rw[f1]at d3;have f2:∀a7,(dZ 98 (.map (some f)) (II x1.fZ) false).run ab ((b.alloc (.cells #[II x1.kind,II g,II x1.fZ,.slice E G H,II x1.num,.slice B w C] 107)).drewN a7)=.ok (Pt cb) ((b.alloc (.cells #[II x1.kind,II g,II x1.fZ,.slice E G H,II x1.num,.slice B w C] 107)).drewN a7):=fun a7=>(y.below (fQ U _)).lO h4 d3;have Z:=y.iq d9 j cb z A P J;have b7:=bS A;have N:=O.ok j b7;have a9:=O.inv j b7;have f0:=N.gR;have e9:cb<b.heap.size:=Z.gK.lt;have b9:Hid (∀t,Bw b t->aL ab 94 #[Pt cb] t fun o K=>o=.returned (II j.addr)/\t=K):=fun t T=>uC (Z.gK.below T);by_cases d8:j.addr=c
  ·have e7:hS (b4+g+100) {j with gR:=j.gR+g}:=⟨N.fZ,N.addr,by simp only;omega,by have:=N.gS;simp only;omega,N.heard,N.runs,N.fS,N.lu,N.str⟩;have e6:iV p.c {j with gR:=j.gR+g}:=⟨a9.str,a9.high,a9.runs,a9.EX⟩;have b8:∀X,gm (ie cb z) b X->gm (js d f e m Q) b X:=fun X j0=>j0.mono fun s _ M=>lJ P J M;have g1:Hid (∀t,Bw b t->aL ab 95 #[Pt cb,II g] t fun o K=>o=.returned (.tuple #[])/\hC a K cb p.c {j with gR:=j.gR+g} z/\gm (· = cb) t K):=by intro t T;refine(xO (Z.gK.below T) ⟨f0.1,by omega⟩ j4).mono ?_;rintro o K ⟨i5,i6,g8⟩;exact⟨i5,(Z.below T).yx g8 i6 rfl rfl,g8⟩
   have g3:Hid (∀t,hC a t cb p.c {j with gR:=j.gR+g} z->aL ab 96 #[Pt cb,II x1.num] t fun o K=>vv a t cb p.c {j with gR:=j.gR+g} z (kI {j with gR:=j.gR+g} x1.num) o K):=fun t i7=>Di i7 e6 e7 h7;have c5:Hid (kI {j with gR:=j.gR+g} x1.num=none->∀(I:aK) (x:gw),gm (ie cb z) b I->hC a I cb p.c {j with gR:=j.gR+g} x->(∀s,ie cb x s->ie cb z s\/b.heap.size<=s)->E9 b.heap.size z x->i' (a+w) b d f e m Q (li p c x1.fZ x1.num g k n []) (.returned (ai none 0 0)) I):=by intro L I x V c6 a2 b0;rw[KL a1 A d8 L];exact i'.P_ (ix.nil _ _) rfl ((y.step (ar _) A P J V c6 a2 rfl rfl).mono (eh _ _)) (si P J a2) (sj J b0) (b8 _ V)
   have c3:Hid (∀D,kI {j with gR:=j.gR+g} x1.num=some D->∀(S:aK) (x:gw),gm (ie cb z) b S->hC a S cb p.c {D with heard:=p.now} x->(∀s,ie cb x s->ie cb z s\/b.heap.size<=s)->E9 b.heap.size z x->aL ab 98 #[Pt d,Pt cb,.slice B w C] S fun o K=>i' (a+w) b d f e m Q (li p c x1.fZ x1.num g k n []) o K):=by intro D L S x W c7 a2 b0;rw[KK a1 A d8 L];obtain⟨R,e0,i2,f3,f4,k6,k7⟩:=sp e7 e6 h7 L;have i9:=y.step (c':={D with heard:=p.now}) (ar _) A P J W c7 a2 i2 f3;have j5:=O.waits j b7;have j2:=O.last;have i8:gD (b4+g+100) u {p with fN:=p.fN.set d9 {D with heard:=p.now}}:=(O.mono (by omega) (de _)).set (last:=p.last) A ⟨R.fZ,R.addr,R.gR,R.gS,O.now,R.runs,R.fS,R.lu,R.str⟩ ⟨e0.str,e0.high,e0.runs,e0.EX⟩ i2 (by show 0<=D.waits/\D.waits<=_/\(D.fY=false->D.waits=0);rw[f3,f4];exact j5) (de _) j2.2;have h0:=si (a:=d) (d:=f) (e:=e) P J a2;subst j1;refine(AU {D with heard:=p.now} x k n _ S i9 (getElem?_set_at A) P (getElem?_set_at J) i8 d0 (b6.gx (b8 _ W) (fun s k2 k3 M=>qr y M (bf rfl))) d4 d6 d7 d1 (fun t T=>c9 t (lS (b8 _ W) T (fun s M=>h0 s (lJ P (getElem?_set_at J) M))))).mono ?_;intro o K b5;exact b5.pre (b8 _ W) h0 (sj J b0)
   have e5:Hid (∀I,gm (ie cb z) b I->CI I d 10 p.now):=fun I V=>(y.gK.gx V (jr Z y.gK (by decide) (by decide) (by decide) (by decide))).cell 10;have e4:Hid (∀s,ie cb z s->s<b.heap.size):=fun s M=>ur Z M;generalize li p c x1.fZ x1.num g k n []=k1 at c5 c3⊢;unfold sX;have a3:=fK U;have f8:=fK e9;clear y O d2 U b6 d4 c9 a1 A P J d3 Z b7 N a9 f0 e7 e6 b8 d0 d1 d7 d6 e9 f1 e3;generalize a0:(b.alloc (.cells #[II x1.kind,II g,II x1.fZ,.slice E G H,II x1.num,.slice B w C] 107))=b1 at *
   have a5:=fK a0;clear a0;go_enter func49,ntmps49;go_wp2_with fail;rw[a5.out];go_quiet (fail);have a6:=fQ a3.out nq;have c8:Bw b1 (b1.drewN nq):=fQ (Below.refl _ _) _;generalize b1.drewN nq=X at a6 c8⊢;replace a4:=fK ((c8.block b.heap.size Y.out).trans a4.out);replace Y:=fK (ca Y.out c8.size);have c2:=fK a6;clear a6 c8 f2 a5 a3 i1 g7;go_wp2_with fail;refine(b9.out X c2.out).mono ?_;rintro o k0 ⟨rfl,rfl⟩;have R:io X b 1 g:=iL a4.out rfl;clear b9;go_wp2_with fail;refine(g1.out X c2.out).mono ?_;rintro o e1 ⟨rfl,g9,d5⟩;have e8:e1.heap[b.heap.size]? =_:=(d5.block b.heap.size Y.out (fun o=>by have:=f8.out;omega)).trans a4.out;have h9:=ca Y.out d5.size;have f3:io e1 b 4 x1.num:=iL e8 rfl;have f7:Hid (gm (ie cb z) b e1):=(gm.fU c2.out).trans (d5.mono fun s _ o=>bg o);have g4:=fK (g3.out e1 g9);have f5:=fK e8;have b3:=fK h9;clear g9 d5 e8 h9 R g1 g3 a4 Y c2;go_wp2_with fail;refine g4.out.mono ?_;rintro o I ⟨rfl,V,x,c6,a2,b0⟩;have h2:I.heap[b.heap.size]? =_:=(V.block b.heap.size b3.out (fun o=>by have:=e4.out _ o;omega)).trans f5.out;have i0:=ca b3.out V.size;have h5:∀s,ie cb x s->ie cb z s\/b.heap.size<=s:=fun s M=>(a2 s M).imp id (fun y=>by have:=b3.out;omega);have b2:=fK (f7.out.trans V);have f6:=fK h2;have g6:=fK i0;have c4:=fK h5;have g5:Hid (E9 b.heap.size z x):=fun s M=>(b0 s M).imp id (fun y=>by have:=b3.out;omega);have a8:=fK c6;clear V c6 a2 b0 h2 i0 h5 g4 f7 f5 b3;cases L:kI {j with gR:=j.gR+g} x1.num with
   |none=>rw[L]at a8;have i3:=fK (c5.out L I x b2.out a8.out c4.out g5.out);clear c5 c3 a8 c4 b2 e5 e4 L;go_wp2_with fail;go_ret;exact i3.out
   |some D=>rw[L]at a8;have j6:=e5.out I b2.out;have e2:Hid (hC a I cb p.c D x):=a8.out;have g2:=fK (vx p.now e2.out.gK);have g0:=fK (c3.out D L);clear c5 c3 e5 a8 L;go_wp2_with fail;refine g2.out.mono ?_;rintro o S ⟨rfl,h1,W⟩;have c7:hC a S cb p.c {D with heard:=p.now} x:=e2.out.yx W h1 rfl rfl;have h3:S.heap[b.heap.size]? =_:=(W.block b.heap.size g6.out (fun o=>by have:=f8.out;omega)).trans f6.out;have f4:lq S b 5 (.slice B w C):=iL h3 rfl;have f9:=fK (g0.out S x (b2.out.trans (W.mono fun s _ o=>bg o)) c7 c4.out g5.out);clear h1 W c7 h3 j6 g2 g0 e2 b2 f6 g6 c4 e4;go_wp2_with fail;refine f9.out.mono ?_;intro o l1 b5;obtain⟨k8,rfl,h8⟩:=b5.ret;obtain⟨k9,l0,rfl⟩:=h8.form;have i4:=fK b5;clear b5 h8 f9 f4;go_wp2_with fail;go_ret;exact i4.out
  ·have k5:(j.addr==c)=false:=beq_eq_false_iff_ne.2 d8;rw[Fz a1 A d8];unfold sX;have a3:=fK U;clear y O d2 U b6 d4 c9 a1 A P J d3 Z b7 N a9 f0 d0 d1 d7 d6 a4 Y e9 f1;generalize a0:(b.alloc (.cells #[II x1.kind,II g,II x1.fZ,.slice E G H,II x1.num,.slice B w C] 107))=b1 at *
   have a5:=fK a0;clear a0;go_enter func49,ntmps49;go_wp2_with fail;rw[a5.out];go_quiet (fail);have a6:=fK (fQ a3.out nq);generalize b1.drewN nq=X at a6⊢;clear f2 a5 a3 i1 g7;go_wp2_with fail;refine(b9.out X a6.out).mono ?_;rintro o k0 ⟨rfl,rfl⟩;clear b9;go_wp2_with fail;go_ret;exact e3.out _ a6.out
theorem Bu(c:hU a b d p f e m Q v)(u:js d f e m Q n):n<b.heap.size:=by
 rcases u with rfl|rfl|l|⟨h,k,j,o,q,s⟩
 ·exact c.gK.lt
 ·obtain⟨x,_,w⟩:=c.map;exact w.lt
 ·exact(c.row.lt _ l).2
 ·obtain⟨g,t⟩:∃g,p.fN[h]? =some g:=⟨_,ap (by rw[<-c.iD];grind)⟩;exact ur (c.iq h g k j t o q) s
theorem i'.mono{c:aM}{e:ed}(h:i' a w d f c m xs r e b)(n:a<=N'):i' N' w d f c m xs r e b:=by obtain⟨⟨s,u,g,v,t,j,q,o,l,p⟩,k⟩:=h;exact⟨⟨s,u,g,v,t,j,q,o.mono n,l,p⟩,k⟩
theorem i'.after{j:aM}{e:ed}{g:aK}(k:Bw w b)(h:i' a b d f j m xs r e g):i' a w d f j m xs r e g:=h.pre (gm.fU k) (fun _ c=>bg c) (fun _ c=>bg c)
theorem i'.box{g:aM}{e:ed}{c:aK}(k:hU a w d s f g m xs v)(h:i' N' b d f g m xs r e c)(l:w.heap.size<b.heap.size):c.heap[w.heap.size]? =b.heap[w.heap.size]?:=by refine h.gx.block _ l fun j=>?_;have:=Bu k j;omega
theorem i'.Rx{g:aM}{e:ed}(h:i' a w d f g m xs r e b):b.cell? (Ad d 11)=some (.map (some f)):=by obtain⟨k,n,j,o,l,_,_,c,_⟩:=h.ex;exact c.gK.cell 11
theorem LU{pv:Nat->Bool}:∀(l:List fV) (bs:List Nat),bs.length=l.length->(∀(i:Nat) c b,l[i]? =some c->bs[i]? =some b->pv b=c.fY)->(tP pv ((l.map (·.fZ)).zip bs):Int)=oX l
 |[],[],_,_=>rfl
 |[],_::_,h,_=>by simp at h
 |_::_,[],h,_=>by simp at h
 |c::l,b::bs,hl,h=>by have ih:=LU (pv:=pv) l bs (by simpa using hl) (fun i c' b' e1 e2=>h (i+1) c' b' (by simpa using e1) (by simpa using e2));have h0:=h 0 c b rfl rfl;unfold tP oX at ih⊢;simp only[List.map_cons,er,List.countP_cons,h0];split<;>omega
theorem AZ(s:hU a b d p f e m Q v)(w:gD l u p)(z:∃O R P,h=.slice O R P)(M:x1.fZ∉p.fN.map (·.fZ))(J:0<=x1.fZ/\x1.fZ<=1073741823)(H:0<=c/\c<256)(N:0<=g/\g<=1125899906842624)(D:0<=l)(C:l+g+100<=1125899906842624)
  (x:ka b q k) (I:gG k) (K:k.length<=1073741823) (L:k.length<=n) (E:a+1+k.length<1125899906842624) (B:∀j,gm (js d f e m Q) b j->Env j):
  aL ab 91 #[Pt d,II c,.agg (sX x1 g h q),.bool ok] b fun o A=>i' (a+1+k.length) b d f e m Q (if ly p then(p,[]) else if ok then qM p x1.fZ c g k n [] else qN p x1.fZ c g k n []) o A:=by
 cases y:ly p with
 |true=>rw[if_pos rfl];obtain⟨_,_,S,T,rfl,_⟩:=id x;exact(GQ s w z ⟨_,_,_,rfl⟩ y).mono fun o A G=>G.mono (by omega)
 |false=>
  rw[if_neg (by simp)];have t:=GP (ok:=ok) s w z y M J H N D C x I K L E B;cases ok with
  |true=>rw[if_pos rfl,Li];exact t
  |false=>rw[if_neg (by simp),Lj];exact t
theorem Cs(B:hU a b d p f e m Q v)(I:gD l u p)(c2:∃X Z Y,h=.slice X Z Y)(b9:∃X Z Y,q=.slice X Z Y)(M:p.fN[n]? =some j)(b0:j.fZ=x1.fZ)(a9:0<=x1.fZ/\x1.fZ<=1073741823)(c3:0<=g)(a4:l+g<=1125899906842624):
  aL ab 48 #[Pt d,II c,.agg (sX x1 g h q)] b fun G k=>i' a b d f e m Q (kh p n j c g []) G k:=by
 obtain⟨w,x,y,rfl⟩:=c2;obtain⟨o,s,t,rfl⟩:=b9;have L:Bw b (b.alloc (.cells #[II x1.kind,II g,II x1.fZ,.slice w x y,II x1.num,.slice o s t] 107)):=fO _ _;obtain⟨cb,c7,a8,a7,K⟩:=B.found I.nd M;rw[b0]at K;have c5:∀W,(dZ 98 (.map (some f)) (II x1.fZ) false).run ab ((b.alloc (.cells #[II x1.kind,II g,II x1.fZ,.slice w x y,II x1.num,.slice o s t] 107)).drewN W)=.ok (Pt cb) ((b.alloc (.cells #[II x1.kind,II g,II x1.fZ,.slice w x y,II x1.num,.slice o s t] 107)).drewN W):=fun W=>(B.below (fQ L _)).lO a9 K;have a2:Hid (∀z,Bw b z->(dZ 98 (.map (some f)) (II x1.fZ) false).run ab z=.ok (Pt cb) z):=fun z J=>(B.below J).lO a9 K;have b2:=I.ok j (bS M);have N:Hid (∀z,Bw b z->b.heap.size<z.heap.size->(z.cell? (gf b 0)=some (II x1.kind)/\z.cell? (gf b 1)=some (II g)/\z.cell? (gf b 2)=some (II x1.fZ)/\z.cell? (gf b 3)=some (.slice w x y)/\z.cell? (gf b 4)=some (II x1.num)/\z.cell? (gf b 5)=some (.slice o s t))->aL ab 89 #[Pt d,Pt cb,II c,.agg #[II x1.kind,II g,II x1.fZ,.slice w x y,II x1.num,.slice o s t]] z fun G k=>i' a b d f e m Q (kh p n j c g []) G k/\(k.cell? (Ad d 11)=some (.map (some f))/\k.cell? (gf b 0)=some (II x1.kind)/\k.cell? (gf b 1)=some (II g)/\k.cell? (gf b 2)=some (II x1.fZ)/\k.cell? (gf b 3)=some (.slice w x y)/\k.cell? (gf b 4)=some (II x1.num)/\k.cell? (gf b 5)=some (.slice o s t))):=by
  intro z J c4 E;refine(xh (B.below J) M a8 a7 I.cfg b2 a4 c3 ⟨_,_,_,rfl⟩ ⟨_,_,_,rfl⟩).mono ?_;intro G k C;have b8:=i'.box B C c4;have D:∀i,k.cell? (gf b i)=z.cell? (gf b i):=fun i=>by simp only[World.cell?,b8]
  exact⟨C.after J,C.Rx,by rw[D];exact E.1,by rw[D];exact E.2.1,by rw[D];exact E.2.2.1,by rw[D];exact E.2.2.2.1,by rw[D];exact E.2.2.2.2.1,by rw[D];exact E.2.2.2.2.2⟩
 have O:Hid (b.heap.size<(b.alloc (.cells #[II x1.kind,II g,II x1.fZ,.slice w x y,II x1.num,.slice o s t] 107)).heap.size):=by show _<_;simp
 have a5:=B.gK.below L;have b3:CV (b.alloc (.cells #[II x1.kind,II g,II x1.fZ,.slice w x y,II x1.num,.slice o s t] 107)) d 11 (.map (some f)):=a5.cell 11;have P:io (b.alloc (.cells #[II x1.kind,II g,II x1.fZ,.slice w x y,II x1.num,.slice o s t] 107)) b 0 x1.kind:=by simp
 have R:io (b.alloc (.cells #[II x1.kind,II g,II x1.fZ,.slice w x y,II x1.num,.slice o s t] 107)) b 1 g:=by simp
 have S:io (b.alloc (.cells #[II x1.kind,II g,II x1.fZ,.slice w x y,II x1.num,.slice o s t] 107)) b 2 x1.fZ:=by simp
 have T:lq (b.alloc (.cells #[II x1.kind,II g,II x1.fZ,.slice w x y,II x1.num,.slice o s t] 107)) b 3 (.slice w x y):=by simp
 have U:io (b.alloc (.cells #[II x1.kind,II g,II x1.fZ,.slice w x y,II x1.num,.slice o s t] 107)) b 4 x1.num:=by simp
 have V:lq (b.alloc (.cells #[II x1.kind,II g,II x1.fZ,.slice w x y,II x1.num,.slice o s t] 107)) b 5 (.slice o s t):=by simp
 generalize kh p n j c g []=c6 at N⊢;unfold sX;have a1:=fK L;clear B I L M a8 a7 K b0 b2 a5 a4;generalize a6:(b.alloc (.cells #[II x1.kind,II g,II x1.fZ,.slice w x y,II x1.num,.slice o s t] 107))=a0 at *
 have a3:=fK a6;clear a6;go_enter func48,ntmps48;go_wp2_with fail;rw[a3.out];go_quiet (fail);have H:=fQ a1.out nq;have A:Bw a0 (a0.drewN nq):=fQ (Below.refl _ _) _;generalize a0.drewN nq=b4 at H A⊢;replace b3:=fL b3 A;replace P:=fL P A;replace R:=fL R A;replace S:=fL S A;replace T:=fL T A;replace U:=fL U A;replace V:=fL V A;replace O:=fK (ca O.out A.size);have b5:=fK H;have c8:(dZ 98 (.map (some f)) (II x1.fZ) false).run ab b4.drew=.ok (Pt cb) b4.drew:=a2.out _ (fQ H _);clear H A c5 a3 a1 a2;go_wp2_with fail;go_region_held3 (fun k=>k.cell? (Ad d 11)=some (.map (some f))/\k.cell? (gf b 0)=some (II x1.kind)/\k.cell? (gf b 1)=some (II g)/\k.cell? (gf b 2)=some (II x1.fZ)/\k.cell? (gf b 3)=some (.slice w x y)/\k.cell? (gf b 4)=some (II x1.num)/\k.cell? (gf b 5)=some (.slice o s t)) (first|assumption|go_keep) (first
  |(go_at_call 89;refine(N.out _ (fQ b5.out _) O.out (by first|assumption|exact⟨P,R,S,T,U,V⟩)).mono ?_;rintro G d2 ⟨C,b7⟩;obtain⟨c9,rfl,b1⟩:=C.ret;obtain⟨d0,d1,rfl⟩:=b1.form))
 have b6:=fK C;clear C b1 b7 N;go_wp2_with fail;go_ret;exact b6.out
theorem IG{b:Int}(d:ja p.fN g=none)(e:0<k.length):lW p b g l k z2 a t=if nF p.c p.now b k then if ly p then(p,t) else qM p g b l z2 a t else(p,t):=by unfold lW;grind
theorem FO{b:Int}(d:ja p.fN g=none)(e:¬0<k.length):lW p b g l k z2 a t=if p.c.c5<=oX p.fN then(p,nI p b g l t) else if ly p then(p,t) else qN p g b l z2 a t:=by unfold lW;grind
theorem DI(b:ja p.fN g=some d)(e:p.fN[d]? =some j):lW p c g l k z2 a t=kh p d j c l t:=by unfold lW;grind
theorem kQ(d:ka b e k):∃a c,e=.slice a k.length c:=by obtain⟨_,_,a,c,f,_⟩:=d;grind
theorem GM{A:Int}(x:hU a b d p f e m Q v)(a3:gD l u p)(a8:ka b h x1.tok)(d5:0<x1.tok.length)(c6:ja p.fN x1.fZ=none)(a7:x1.fZ∉p.fN.map (·.fZ))(c5:0<=x1.fZ/\x1.fZ<=1073741823)(c3:0<=A/\A<256)(d6:0<=g/\g<=1125899906842624)(d2:0<=l)(b8:l+g+100<=1125899906842624)
  (a5:ka b q k) (c4:gG k) (c7:k.length<=1073741823) (c8:k.length<=n) (b9:a+1+k.length<1125899906842624) (b7:∀j,gm (js d f e m Q) b j->Env j):
  aL ab 48 #[Pt d,II A,.agg (sX x1 g h q)] b fun D y=>i' (a+1+k.length) b d f e m Q (lW p A x1.fZ g x1.tok k n []) D y:=by
 obtain⟨o,s,rfl⟩:=kQ a8;obtain⟨t,w,rfl⟩:=kQ a5;rw[IG c6 d5];have U:Bw b (b.alloc (.cells #[II x1.kind,II g,II x1.fZ,.slice o x1.tok.length s,II x1.num,.slice t k.length w] 107)):=fO _ _;have d9:∀a9,(dZ 98 (.map (some f)) (II x1.fZ) false).run ab ((b.alloc (.cells #[II x1.kind,II g,II x1.fZ,.slice o x1.tok.length s,II x1.num,.slice t k.length w] 107)).drewN a9)=.ok (ag none) ((b.alloc (.cells #[II x1.kind,II g,II x1.fZ,.slice o x1.tok.length s,II x1.num,.slice t k.length w] 107)).drewN a9):=fun a9=>(x.below (fQ U _)).Le c5 a7;have a0:Hid (∀j,Bw b j->aL ab 90 #[II p.c.c9,II A,II p.now,.slice o x1.tok.length s] j fun D y=>D=.returned (.bool (nF p.c p.now A x1.tok))/\Bw j y):=fun j C=>xl (a8.below C) c3 (by have:=a3.cfg.c9;omega);have H:Hid (∀j,Bw b j->aL ab 91 #[Pt d,II A,.agg #[II x1.kind,II g,II x1.fZ,.slice o x1.tok.length s,II x1.num,.slice t k.length w],.bool true] j fun D y=>i' (a+1+k.length) b d f e m Q (if ly p then(p,[]) else qM p x1.fZ A g k n []) D y):=by intro j C;refine(AZ (x.below C) a3 ⟨_,_,_,rfl⟩ a7 c5 c3 d6 d2 b8 (a5.below C) c4 c7 c8 b9 (fun z d4=>b7 z ((gm.fU C).trans d4))).mono ?_;intro D y G;rw[if_pos rfl]at G;exact G.after C
 have Y:Hid (∀(j:aK),Bw b j->i' (a+1+k.length) b d f e m Q (p,[]) (.returned (ai none 0 0)) j):=fun j C=>i'.MO x (ix.nil _ _) ((x.below C).mono (by omega)) (fun d7 a6=>bg a6) (fun d7 a6=>a6) (gm.fU C);generalize (if ly p then((p,[]):gg×List (Int×List Int)) else qM p x1.fZ A g k n [])=b6 at H⊢;have T:=x.gK.below U;have d8:CV (b.alloc (.cells #[II x1.kind,II g,II x1.fZ,.slice o x1.tok.length s,II x1.num,.slice t k.length w] 107)) d 11 (.map (some f)):=T.cell 11;have W:CI (b.alloc (.cells #[II x1.kind,II g,II x1.fZ,.slice o x1.tok.length s,II x1.num,.slice t k.length w] 107)) d 9 p.c.c9:=T.cell 9;have V:CI (b.alloc (.cells #[II x1.kind,II g,II x1.fZ,.slice o x1.tok.length s,II x1.num,.slice t k.length w] 107)) d 10 p.now:=T.cell 10;have L:io (b.alloc (.cells #[II x1.kind,II g,II x1.fZ,.slice o x1.tok.length s,II x1.num,.slice t k.length w] 107)) b 0 x1.kind:=by simp
 have M:io (b.alloc (.cells #[II x1.kind,II g,II x1.fZ,.slice o x1.tok.length s,II x1.num,.slice t k.length w] 107)) b 1 g:=by simp
 have N:io (b.alloc (.cells #[II x1.kind,II g,II x1.fZ,.slice o x1.tok.length s,II x1.num,.slice t k.length w] 107)) b 2 x1.fZ:=by simp
 have O:lq (b.alloc (.cells #[II x1.kind,II g,II x1.fZ,.slice o x1.tok.length s,II x1.num,.slice t k.length w] 107)) b 3 (.slice o x1.tok.length s):=by simp
 have P:io (b.alloc (.cells #[II x1.kind,II g,II x1.fZ,.slice o x1.tok.length s,II x1.num,.slice t k.length w] 107)) b 4 x1.num:=by simp
 have R:lq (b.alloc (.cells #[II x1.kind,II g,II x1.fZ,.slice o x1.tok.length s,II x1.num,.slice t k.length w] 107)) b 5 (.slice t k.length w):=by simp
 generalize nF p.c p.now A x1.tok=b1 at a0⊢;obtain⟨F,a2⟩:∃F:gg×List (Int×List Int),(if b1=true then b6 else(p,[]))=F:=⟨_,rfl⟩;rw[a2];have J:=fK a2;clear a2;generalize a+1+k.length=e1 at H Y⊢;generalize k.length=S at *
 generalize x1.tok.length=I at *
 unfold sX;have e6:(0:Int)<(I:Int):=by omega
 have b4:=fK U;clear x a3 U c6 a7 a5 a8 c4 T b8 b7 b9 c8 c7;generalize c2:(b.alloc (.cells #[II x1.kind,II g,II x1.fZ,.slice o I s,II x1.num,.slice t S w] 107))=b0 at *
 have b5:=fK c2;clear c2;go_enter func48,ntmps48;go_wp2_with fail;rw[b5.out];go_quiet (fail);have a1:=fQ b4.out nq;have B:Bw b0 (b0.drewN nq):=fQ (Below.refl _ _) _;generalize b0.drewN nq=f0 at a1 B⊢;replace W:=fL W B;replace V:=fL V B;replace L:=fL L B;replace M:=fL M B;replace N:=fL N B;replace O:=fL O B;replace P:=fL P B;replace R:=fL R B;have X:=fK a1;clear a1 B d9 b5 b4 d8;have b2:Hid (∀j z:aK,Bw j z->(CI j d 9 p.c.c9/\CI j d 10 p.now/\io j b 0 x1.kind/\io j b 1 g/\io j b 2 x1.fZ/\lq j b 3 (.slice o I s)/\io j b 4 x1.num/\lq j b 5 (.slice t S w))->(CI z d 9 p.c.c9/\CI z d 10 p.now/\io z b 0 x1.kind/\io z b 1 g/\io z b 2 x1.fZ/\lq z b 3 (.slice o I s)/\io z b 4 x1.num/\lq z b 5 (.slice t S w))):=fun j z E x=>⟨fL x.1 E,fL x.2.1 E,fL x.2.2.1 E,fL x.2.2.2.1 E,fL x.2.2.2.2.1 E,fL x.2.2.2.2.2.1 E,fL x.2.2.2.2.2.2.1 E,fL x.2.2.2.2.2.2.2 E⟩;go_wp2_with fail;go_region_held3 (fun y=>y.cell? (Ad d 9)=some (II p.c.c9)/\y.cell? (Ad d 10)=some (II p.now)/\y.cell? (gf b 0)=some (II x1.kind)/\y.cell? (gf b 1)=some (II g)/\y.cell? (gf b 2)=some (II x1.fZ)/\y.cell? (gf b 3)=some (.slice o I s)/\y.cell? (gf b 4)=some (II x1.num)/\y.cell? (gf b 5)=some (.slice t S w)) (first|assumption|go_keep) (first
  |(go_at_call 90;refine(a0.out _ (fQ X.out _)).mono ?_;rintro D e0 ⟨rfl,a4⟩;have d3:=b2.out _ _ a4 (by first|assumption|exact⟨W,V,L,M,N,O,P,R⟩)))
 obtain⟨-,-,c0,c1,e2,e3,e4,e5⟩:=d3;have b3:=fK (fP X.out (gc a4));clear a4 a0 W V L M N O P R b2 X;cases b1 with
 |false=>
  have K:Hid (F=(p,[])):=by show _=_;rw[<-J.out];rfl
  clear J H;go_wp2_with fail;go_ret;rw[K.out];exact Y.out _ b3.out
 |true=>
  have K:Hid (F=b6):=by show _=_;rw[<-J.out];rfl
  have Z:=fK (H.out e0 b3.out);rw[<-K.out]at Z;clear H Y J K;go_wp2_with fail;refine Z.out.mono ?_;intro D f1 G;obtain⟨e7,rfl,d0⟩:=G.ret;obtain⟨e8,e9,rfl⟩:=d0.form;have d1:=fK G;clear G d0 Z;go_wp2_with fail;go_ret;exact d1.out
theorem EC(t:hU a b d p f e m Q v)(L:gD l u p)(e2:ka b h x1.tok)(d9:x1.tok.length=0)(d5:ja p.fN x1.fZ=none)(b5:x1.fZ∉p.fN.map (·.fZ))(b4:0<=x1.fZ/\x1.fZ<=1073741823)(d3:0<=c/\c<256)(e1:0<=g/\g<=1125899906842624)(e4:0<=l)(c9:l+g+100<=1125899906842624)
  (b2:ka b q k) (d4:gG k) (d6:k.length<=1073741823) (d8:k.length<=n) (d0:a+1+k.length<1125899906842624) (c8:∀j,gm (js d f e m Q) b j->Env j):
  aL ab 48 #[Pt d,II c,.agg (sX x1 g h q)] b fun z y=>i' (a+1+k.length) b d f e m Q (lW p c x1.fZ g x1.tok k n []) z y:=by
 obtain⟨w,x,rfl⟩:=kQ e2;obtain⟨o,s,rfl⟩:=kQ b2;rw[FO d5 (by omega)];rw[d9];have a2:Bw b (b.alloc (.cells #[II x1.kind,II g,II x1.fZ,.slice w 0 x,II x1.num,.slice o k.length s] 107)):=fO _ _;have f1:∀b6,(dZ 98 (.map (some f)) (II x1.fZ) false).run ab ((b.alloc (.cells #[II x1.kind,II g,II x1.fZ,.slice w 0 x,II x1.num,.slice o k.length s] 107)).drewN b6)=.ok (ag none) ((b.alloc (.cells #[II x1.kind,II g,II x1.fZ,.slice w 0 x,II x1.num,.slice o k.length s] 107)).drewN b6):=fun b6=>(t.below (fQ a2 _)).Le b4 b5;have a6:Hid (∀j,Bw b j->aL ab 92 #[Pt d] j fun z y=>z=.returned (II (oX p.fN))/\Bw j y):=by
  intro j G;have a1:=t.below G;obtain⟨g2,g1,e6⟩:=a1.map
  classical
  have e0:∀(i:Nat) C J,p.fN[i]? =some C->m[i]? =some J->(decide (j.cell? (Ad J 12)=some (.bool true)))=C.fY:=by intro i C J D Z;obtain⟨I,b0⟩:∃I,Q[i]? =some I:=⟨_,ap (by rw[t.jv];exact(bo.1 D).1)⟩;have b3:CV j J 12 (.bool C.fY):=(a1.iq i C J I D Z b0).gK.cell 12;rw[b3];cases C.fY<;>simp
  have e8:=LU p.fN m t.iD e0;have c7:=zI (u8:=(fun J=>decide (j.cell? (Ad J 12)=some (.bool true)))) a1.gK e6 (by rintro⟨g3,R⟩ e7;obtain⟨i,hi⟩:=List.getElem?_of_mem e7;rw[eq]at hi;obtain⟨D,Z⟩:=hi;simp only[List.getElem?_map,Option.map_eq_some_iff]at D;obtain⟨C,D,_⟩:=D;obtain⟨I,b0⟩:∃I,Q[i]? =some I:=⟨_,ap (by rw[t.jv];exact(bo.1 D).1)⟩;have b3:CV j R 12 (.bool C.fY):=(a1.iq i C R I D Z b0).gK.cell 12;show j.cell? (Ad R 12)=some (.bool (decide (j.cell? (Ad R 12)=some (.bool true))));rw[e0 i C R D Z,b3]) (by simp[t.iD];have:=L.tz;have:=L.cfg.c0;omega);rw[e8]at c7;exact c7
 have O:Hid (∀j,Bw b j->aL ab 93 #[Pt d,II c,.agg #[II x1.kind,II g,II x1.fZ,.slice w 0 x,II x1.num,.slice o k.length s]] j fun z y=>i' (a+1+k.length) b d f e m Q (p,nI p c x1.fZ g []) z y):=fun j G=>(GR (t.below G) L.cfg L.now d3 b4 e1 ⟨_,_,_,rfl⟩ ⟨_,_,_,rfl⟩).mono fun z y A=>(A.after G).mono (by omega);have N:Hid (∀j,Bw b j->aL ab 91 #[Pt d,II c,.agg #[II x1.kind,II g,II x1.fZ,.slice w 0 x,II x1.num,.slice o k.length s],.bool false] j fun z y=>i' (a+1+k.length) b d f e m Q (if ly p then(p,[]) else qN p x1.fZ c g k n []) z y):=by intro j G;refine(AZ (t.below G) L ⟨_,_,_,rfl⟩ b5 b4 d3 e1 e4 c9 (b2.below G) d4 d6 d8 d0 (fun B e5=>c8 B ((gm.fU G).trans e5))).mono ?_;intro z y A;simp only[Bool.false_eq_true,if_false]at A;exact A.after G
 generalize (if ly p then((p,[]):gg×List (Int×List Int)) else qN p x1.fZ c g k n [])=c4 at N⊢;generalize ((p,nI p c x1.fZ g []):gg×List (Int×List Int))=c5 at O⊢;have a9:=t.gK.below a2;have e9:CV (b.alloc (.cells #[II x1.kind,II g,II x1.fZ,.slice w 0 x,II x1.num,.slice o k.length s] 107)) d 11 (.map (some f)):=a9.cell 11;have a3:CI (b.alloc (.cells #[II x1.kind,II g,II x1.fZ,.slice w 0 x,II x1.num,.slice o k.length s] 107)) d 5 p.c.c5:=a9.cell 5;have T:io (b.alloc (.cells #[II x1.kind,II g,II x1.fZ,.slice w 0 x,II x1.num,.slice o k.length s] 107)) b 0 x1.kind:=by simp
 have U:io (b.alloc (.cells #[II x1.kind,II g,II x1.fZ,.slice w 0 x,II x1.num,.slice o k.length s] 107)) b 1 g:=by simp
 have V:io (b.alloc (.cells #[II x1.kind,II g,II x1.fZ,.slice w 0 x,II x1.num,.slice o k.length s] 107)) b 2 x1.fZ:=by simp
 have W:lq (b.alloc (.cells #[II x1.kind,II g,II x1.fZ,.slice w 0 x,II x1.num,.slice o k.length s] 107)) b 3 (.slice w 0 x):=by simp
 have X:io (b.alloc (.cells #[II x1.kind,II g,II x1.fZ,.slice w 0 x,II x1.num,.slice o k.length s] 107)) b 4 x1.num:=by simp
 have Y:lq (b.alloc (.cells #[II x1.kind,II g,II x1.fZ,.slice w 0 x,II x1.num,.slice o k.length s] 107)) b 5 (.slice o k.length s):=by simp
 generalize oX p.fN=c6 at a6⊢;obtain⟨F,a8⟩:∃F:gg×List (Int×List Int),(if p.c.c5<=c6 then c5 else c4)=F:=⟨_,rfl⟩;rw[a8];have S:=fK a8;clear a8;generalize a+1+k.length=f6 at N O⊢;generalize k.length=a0 at *
 unfold sX;have c2:=fK a2;clear t L a2 d5 b5 b2 e2 d4 a9 c9 c8 d0 d8 d6 d9;generalize d2:(b.alloc (.cells #[II x1.kind,II g,II x1.fZ,.slice w 0 x,II x1.num,.slice o a0 s] 107))=b7 at *
 have c3:=fK d2;clear d2;go_enter func48,ntmps48;go_wp2_with fail;rw[c3.out];go_quiet (fail);have a7:=fQ c2.out nq;have E:Bw b7 (b7.drewN nq):=fQ (Below.refl _ _) _;generalize b7.drewN nq=g4 at a7 E⊢;replace a3:=fL a3 E;replace T:=fL T E;replace U:=fL U E;replace V:=fL V E;replace W:=fL W E;replace X:=fL X E;replace Y:=fL Y E;have a4:=fK a7;clear a7 E f1 c3 c2 e9;have b8:Hid (∀j B:aK,Bw j B->(CI j d 5 p.c.c5/\io j b 0 x1.kind/\io j b 1 g/\io j b 2 x1.fZ/\lq j b 3 (.slice w 0 x)/\io j b 4 x1.num/\lq j b 5 (.slice o a0 s))->(CI B d 5 p.c.c5/\io B b 0 x1.kind/\io B b 1 g/\io B b 2 x1.fZ/\lq B b 3 (.slice w 0 x)/\io B b 4 x1.num/\lq B b 5 (.slice o a0 s))):=fun j B K t=>⟨fL t.1 K,fL t.2.1 K,fL t.2.2.1 K,fL t.2.2.2.1 K,fL t.2.2.2.2.1 K,fL t.2.2.2.2.2.1 K,fL t.2.2.2.2.2.2 K⟩;go_wp2_with fail;go_region_held3 (fun y=>y.cell? (Ad d 5)=some (II p.c.c5)/\y.cell? (gf b 0)=some (II x1.kind)/\y.cell? (gf b 1)=some (II g)/\y.cell? (gf b 2)=some (II x1.fZ)/\y.cell? (gf b 3)=some (.slice w 0 x)/\y.cell? (gf b 4)=some (II x1.num)/\y.cell? (gf b 5)=some (.slice o a0 s)) (first|assumption|go_keep) (first
  |(go_at_call 92;refine(a6.out _ (fQ a4.out _)).mono ?_;rintro z e3 ⟨rfl,b1⟩;have d1:=b8.out _ _ b1 (by first|assumption|exact⟨a3,T,U,V,W,X,Y⟩);have f0:=d1.1))
 obtain⟨-,c0,c1,f7,f8,f9,g0⟩:=d1;have b9:=fK (fP a4.out (gc b1));clear b1 a6 a3 f0 T U V W X Y b8 a4;by_cases d7:p.c.c5<=c6
 ·have M:Hid (F=c5):=by show _=_;rw[<-S.out,if_pos d7]
  have H:=fK (O.out e3 b9.out);rw[<-M.out]at H;clear N O S M;go_wp2_with fail;refine H.out.mono ?_;intro z f5 A;obtain⟨f2,rfl,P⟩:=A.ret;obtain⟨f3,f4,rfl⟩:=P.form;have a5:=fK A;clear A P H;go_wp2_with fail;go_ret;exact a5.out
 ·have M:Hid (F=c4):=by show _=_;rw[<-S.out,if_neg d7]
  have H:=fK (N.out e3 b9.out);rw[<-M.out]at H;clear N O S M;go_wp2_with fail;refine H.out.mono ?_;intro z f5 A;obtain⟨f2,rfl,P⟩:=A.ret;obtain⟨f3,f4,rfl⟩:=P.form;have a5:=fK A;clear A P H;go_wp2_with fail;go_ret;exact a5.out
theorem GL(s:hU a b d p f e m Q v){o:Int}(t:gD o u p)(z:ka b h x1.tok)(x:0<=x1.fZ/\x1.fZ<=1073741823)(H:0<=c/\c<256)(y:0<=g/\g<=1125899906842624)(E:0<=o)(D:o+g+100<=1125899906842624)
  (w:ka b q k) (I:gG k) (K:k.length<=1073741823) (L:k.length<=n) (G:a+1+k.length<1125899906842624) (C:∀A,gm (js d f e m Q) b A->Env A):
  aL ab 48 #[Pt d,II c,.agg (sX x1 g h q)] b fun B N=>i' (a+1+k.length) b d f e m Q (lW p c x1.fZ g x1.tok k n []) B N:=by
 rcases lL (y4:=p.fN) (c:=x1.fZ) with⟨j,M⟩|⟨X,U,j,J,S⟩
 ·by_cases T:0<x1.tok.length
  ·exact GM s t z T j M x H y E D w I K L G C
  ·exact EC s t z (by omega) j M x H y E D w I K L G C
 ·obtain⟨Y,Z,O⟩:=kQ z;obtain⟨V,W,P⟩:=kQ w;rw[DI j J];exact(Cs s t ⟨_,_,_,O⟩ ⟨_,_,_,P⟩ J S x y.1 (by omega)).mono fun B N R=>R.mono (by omega)
theorem Cj(a:lD k=none\/¬(0<=c/\c<=255)):ib p c k=(p,[]):=by unfold ib;grind
theorem zA(a:lD k=some x1)(b:0<=c/\c<=255)(d:x1.kind=1):ib p c k=lW p c x1.fZ k.length x1.tok x1.ky k.length []:=by unfold ib;grind
theorem Ci(a:lD k=some x1)(b:0<=c/\c<=255)(d:x1.kind≠1):ib p c k=li p c x1.fZ x1.num k.length x1.ky k.length []:=by unfold ib;grind
theorem Mn{hi:Int}:lr c hi=if 0<=c/\c<=hi then 0 else 2:=by unfold lr jx;grind
theorem vh(t:Nat)(o:Nat)(q:gg)(A:Nat)(E:aM)(z:List Nat)(G:List gw)(Z:List Nat)(e:Int)(b:List Int)(c3:aM)(f:aK)(S:hU t f o q A E z G Z)(a4:gD c g q)(X:ka f c3 b)(d0:b.length<=1073741823)(c4:0<=c)(a5:c+b.length+100<=1125899906842624)(c5:t+1+b.length<1125899906842624)(T:∀d,gm (js o A E z G) f d->Env d):
  aL ab 20 #[Pt o,II e,c3] f fun j P=>i' (t+1+b.length) f o A E z G (ib q e b) j P:=by
 obtain⟨e7,e8,rfl⟩:=kQ X;have R:=fK (vo (b:=b) (w:=f) (T f (gm.refl _ _)) X);have a3:∀d,Bw f d->Env d:=fun d l=>T d (gm.fU l);have J:Hid (∀(d:aK),Bw f d->(lD b=none\/¬(0<=e/\e<=255))->i' (t+1+b.length) f o A E z G (ib q e b) (.returned (ai none 0 0)) d):=by intro d l d8;rw[Cj d8];exact i'.MO S (ix.nil _ _) ((S.below l).mono (by omega)) (fun a8 a7=>bg a7) (fun a8 a7=>a7) (gm.fU l)
 have c6:gG b:=X.1;rcases Iz (k:=b) with⟨Y,a6⟩|⟨a,Y,c8,a6⟩
 ·have a0:=fK (fun d l=>J.out d l (bg Y));have c2:=fK a3;clear S a4 X T a3 J c5 a5 d0;generalize ib q e b=d3 at a0⊢;go_enter func20,ntmps20;go_wp2_with fail;refine R.out.mono ?_;intro j h k;obtain⟨a8,f4,rfl,a7,b9⟩:=k.bad a6;obtain⟨f6,e9,rfl⟩:=b9.BK;have U:=fP k.wo (fO h (.cells kO 107));have b1:=fK (xC (a:=a8) (b:=h.alloc (.cells kO 107)) (c2.out _ U) (by omega) (b9.below (fO _ _)));have L:=fK U;unfold kO at b1 L;clear k U R b9;unfold kO;go_wp2_with fail;refine b1.out.mono ?_;rintro j s ⟨rfl,v⟩;have Q:=fK (fP L.out v);clear v L b1;go_wp2_with fail;go_ret;exact a0.out _ Q.out
 ·obtain⟨c9,c7,d9,d6,b8,f5,d1⟩:=Al c6 Y;have N:Hid (a.kind=1->(0<=e/\e<=255)->∀(d:aK) (p m:aM),Bw f d->ka d p a.tok->ka d m a.ky->aL ab 48 #[Pt o,II e,.agg (sX a b.length p m)] d fun j P=>i' (t+1+b.length) f o A E z G (ib q e b) j P):=by intro x B d p m l y w;rw[zA Y B x];refine(GL (a:=t) (d:=o) (p:=q) (f:=A) (e:=E) (m:=z) (Q:=G) (v:=Z) (c:=e) (g:=b.length) (x1:=a) (h:=p) (q:=m) (k:=a.ky) (n:=b.length) (b:=d) (S.below l) a4 y c7 ⟨B.1,by omega⟩ ⟨by omega,by omega⟩ c4 a5 w b8 (by omega) d1 (by omega) (fun b5 b7=>T b5 ((gm.fU l).trans b7))).mono ?_;intro j P u;exact(u.after l).mono (by omega)
  have M:Hid (a.kind≠1->(0<=e/\e<=255)->∀(d:aK) (p m:aM),Bw f d->ka d p a.tok->ka d m a.ky->aL ab 49 #[Pt o,II e,.agg (sX a b.length p m)] d fun j P=>i' (t+1+b.length) f o A E z G (ib q e b) j P):=by intro x B d p m l y w;rw[Ci Y B x];obtain⟨C,D,b6⟩:=kQ y;refine(JH (a:=t) (d:=o) (p:=q) (f:=A) (e:=E) (m:=z) (Q:=G) (v:=Z) (c:=e) (g:=b.length) (x1:=a) (h:=p) (q:=m) (k:=a.ky) (n:=b.length) (b:=d) (S.below l) a4 ⟨_,_,_,b6⟩ c7 d9 ⟨by omega,by omega⟩ c4 a5 w b8 (by omega) d1 (by omega) (fun b5 b7=>T b5 ((gm.fU l).trans b7))).mono ?_;intro j P u;exact(u.after l).mono (by omega)
  have K:=fK (fun d=>nz (c:=e) (b:=d));rw[Mn]at K;have c2:=fK a3;clear S a4 X T a3 c5 a5 d0 d6 b8 c6;generalize ib q e b=d3 at J N M⊢;generalize t+1+b.length=e6 at J N M⊢;by_cases B:0<=e/\e<=255
  ·rw[if_pos B]at K;go_enter func20,ntmps20;go_wp2_with fail;refine R.out.mono ?_;intro j h k;obtain⟨p,m,rfl,y,w⟩:=k.ok a6;rw[c8]at y w;rw[c8];have W:=k.wo;obtain⟨C,D,b6⟩:=kQ y;obtain⟨H,I,d4⟩:=kQ w;subst b6;subst d4;have U:=fP W (fO h (.cells (sX a b.length (.slice C a.tok.length D) (.slice H a.ky.length I)) 107));have b3:=fK (y.below (fO h (.cells (sX a b.length (.slice C a.tok.length D) (.slice H a.ky.length I)) 107)));have b0:=fK (w.below (fO h (.cells (sX a b.length (.slice C a.tok.length D) (.slice H a.ky.length I)) 107)));have L:=fK U;have a9:Hid ((h.alloc (.cells (sX a b.length (.slice C a.tok.length D) (.slice H a.ky.length I)) 107)).heap[h.heap.size]? =some (.cells (sX a b.length (.slice C a.tok.length D) (.slice H a.ky.length I)) 107 (0,0))):=cA h _;have b4:Hid (h.heap.size<(h.alloc (.cells (sX a b.length (.slice C a.tok.length D) (.slice H a.ky.length I)) 107)).heap.size):=by show _<_;simp
   clear k U R y w W;unfold sX at b3 b0 L a9 b4 N M⊢;go_wp2_with fail;generalize d5:(h.alloc (.cells #[II a.kind,II (b.length:Int),II a.fZ,.slice C a.tok.length D,II a.num,.slice H a.ky.length I] 107))=e3 at *
   refine(q_ (b:=e3)).mono ?_;rintro j s ⟨rfl,v⟩;have a2:=fK (b3.out.below v);have a1:=fK (b0.out.below v);have Q:=fK (fP L.out v);have O:=(v.block _ b4.out).trans a9.out;have c0:io s h 0 a.kind:=iL O rfl;have c1:io s h 1 (b.length:Int):=iL O rfl;have f0:io s h 2 a.fZ:=iL O rfl;have f1:lq s h 3 (.slice C a.tok.length D):=iL O rfl;have f2:io s h 4 a.num:=iL O rfl;have f3:lq s h 5 (.slice H a.ky.length I):=iL O rfl;clear v O b3 b0 L a9 b4 d5;go_wp2_with fail;refine(K.out s).mono ?_;rintro j e4 ⟨rfl,rfl⟩;clear K;rcases Classical.em (a.kind=1) with x|x
   ·have V:=fK (N.out x B s _ _ Q.out a2.out a1.out);have d7:(a.kind==1)=true:=beq_iff_eq.2 x;clear N M J a2 a1 x c9;go_wp2_with fail;refine V.out.mono ?_;intro j e5 u;obtain⟨e0,rfl,k⟩:=u.ret;obtain⟨e1,e2,rfl⟩:=k.form;have b2:=fK u;clear u k V;go_wp2_with fail;go_ret;exact b2.out
   ·have V:=fK (M.out x B s _ _ Q.out a2.out a1.out);have d7:(a.kind==1)=false:=beq_eq_false_iff_ne.2 x;clear N M J a2 a1 x c9;go_wp2_with fail;refine V.out.mono ?_;intro j e5 u;obtain⟨e0,rfl,k⟩:=u.ret;obtain⟨e1,e2,rfl⟩:=k.form;have b2:=fK u;clear u k V;go_wp2_with fail;go_ret;exact b2.out
  ·rw[if_neg B]at K;have a0:=fK (fun d l=>J.out d l (bf B));clear N M J;go_enter func20,ntmps20;go_wp2_with fail;refine R.out.mono ?_;intro j h k;obtain⟨p,m,rfl,y,w⟩:=k.ok a6;have W:=k.wo;obtain⟨C,D,rfl⟩:=kQ y;obtain⟨H,I,rfl⟩:=kQ w;have d2:=fK W;clear k R y w W;unfold sX;go_wp2_with fail;refine(q_).mono ?_;rintro j s ⟨rfl,v⟩;have Q:=fK (fP (fP d2.out (fO _ _)) v);clear v;go_wp2_with fail;refine(K.out s).mono ?_;rintro j e4 ⟨rfl,rfl⟩;clear K;go_wp2_with fail;go_ret;exact a0.out _ Q.out
end Go.Proofs.YthmdjhlhodpbhaaGreatDoor
