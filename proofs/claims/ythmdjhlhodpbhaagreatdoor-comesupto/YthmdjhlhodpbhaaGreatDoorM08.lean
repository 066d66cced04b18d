/- Comes, part 8 -/
import Derived.Maps.OwnSet
import Derived.Maps.OwnOps
import Derived.Maps.RangeWalk
import Derived.Test.YthmdjhlhodpbhaaGreatDoorM07
set_option maxHeartbeats 16000000
set_option maxRecDepth 8000
namespace Go.Proofs.YthmdjhlhodpbhaaGreatDoor
open Go.RowKit
open Go.Maps (Keyed)
open _root_.Array renaming getElem?_eq_some_iff → aO
open Go.World renaming cell? → aX
open _root_.Nat renaming le_trans → cw
open _root_.List renaming nodup_cons → bB, mem_map → cZ, map_cons → bD
open Go.Maps renaming int_keyed → dF
open _root_.Option renaming map_eq_none_iff → dG
open _root_.Or renaming inl → a_, inr → aV
open Go.IntKind renaming wrap_i64 → di
open Go.Lit renaming int → dH
open _root_.Go.Proofs.Tryz
open _root_.Go.Proofs.Tryz renaming prog → ae
open Go.Value renaming int → af, slice → aj, pointer → ai
open Go.IntKind renaming i64 → ag
variable {w wx w':World}{b n bx r rN:Nat}{cs fc:Array Value}{lv iX:Value}{U:Nat->Prop}{k:Int}
theorem yx(bytes ahead:Int)(w:World):
  Calls ae 69 #[.agg #[af ag bytes,af ag ahead]] w fun e w'=>e=.returned (af ag bytes)/\Below w.heap.size w w':=by
 go_enter func69,ntmps69;go_wp2_with fail;go_ret;exact⟨rfl,gH _ _⟩
theorem JN(ahead:Int)(w:World):
  Calls ae 165 #[af ag ahead] w fun e w'=>e=.returned (.agg #[af ag ahead,af ag ahead])/\Below w.heap.size w w':=by
 go_enter func165,ntmps165;go_wp2_with fail;refine bodyPost_ret (results_cell_row (P:=ae) Tryz.results165 _ _ w.heap.size 133 #[af ag ahead,af ag ahead] (0,0) _ rfl (heap_alloc_new _ _) underlying133 rfl (by kernel_rfl)) rfl ?_;exact⟨rfl,gH _ _⟩
def rx(ty id iC:Int)(bv:Value)(en pf:Int):Value:=.agg #[af ag ty,af ag id,af ag iC,bv,af ag en,af ag pf]
theorem rL(ty id iC:Int)(bv:Value)(en pf:Int)(w:World):
  Calls ae 230 #[rx ty id iC bv en pf] w fun e w'=>e=.returned (.bool (mN ty))/\Below w.heap.size w w':=by
 unfold rx mN;by_cases h4:ty=4
 ·subst h4;go_enter func230,ntmps230;go_wp2_with fail;go_ret;exact⟨rfl,gH _ _⟩
 ·have NH:(ty==4)=false:=by simpa using h4
  rw[NH];go_enter func230,ntmps230;go_wp2_with fail;go_ret;exact⟨by simp,gH _ _⟩
theorem Ho(b:Nat)(hi:Int)(w:World)(hc:w.cell? ⟨b,2,none⟩= some (af ag hi)):
  Calls ae 225 #[ai (some ⟨b,0,none⟩)] w fun e w'=>e=.returned (af ag hi)/\w'=w:=by
 go_enter func225,ntmps225;go_wp2_with fail;go_ret;exact⟨rfl,rfl⟩
theorem vU(ty id iC:Int)(bv:Value)(en pf fi:Int)(w:World):
  Calls ae 224 #[rx ty id iC bv en pf,af ag fi] w fun e w'=>e=.returned (af ag (pe ty en fi))/\Below w.heap.size w w':=by
 have HX:Hid (∀W,Calls ae 230 #[.agg #[af ag ty,af ag id,af ag iC,bv,af ag en,af ag pf]] W fun e w'=>e=.returned (.bool (mN ty))/\Below W.heap.size W w'):=fun W=>rL ty id iC bv en pf W
 unfold rx pe;by_cases h1:fi<en
 ·rw[if_pos (a_ h1)];have hd:decide (fi<en)=true:=by simpa using h1
  go_enter func224,ntmps224;go_wp2_with fail;go_ret;exact⟨rfl,gH _ _⟩
 ·have hd:decide (fi<en)=false:=by simpa using h1
  have rP:∀t:Bool,mN ty=t->(if fi<en\/(mN ty=true/\en≠fi) then(6:Int) else 0)=if(t&&(en != fi))=true then 6 else 0:=by
   intro t ht;rw[ht]
   cases t<;>simp[h1,bne]
  replace rP:=gE rP
  have HC:Hid (∀W:World,Below (w.alloc (.cells #[af ag ty,af ag id,af ag iC,bv,af ag en,af ag pf] 286)).heap.size (w.alloc (.cells #[af ag ty,af ag id,af ag iC,bv,af ag en,af ag pf] 286)) W->W.cell? ⟨w.heap.size,4,none⟩= some (af ag en)/\Below w.heap.size w W):=by
   intro W hW;refine⟨gF ?_ hW,gI (gH _ _) hW⟩;simp only[aX,heap_alloc_new]
   rfl
  cases ht:mN ty with
  |false=>
   have hc:=gE (rP.out _ ht);rw[ht]at HX hc;rw[hc.out];go_enter func224,ntmps224;go_wp2_with fail;refine(HX.out _).mono ?_;rintro e w1 ⟨rfl,im⟩;obtain⟨c4,lS⟩:=HC.out w1 im;clear im HC HX hc rP;go_wp2_with fail;go_ret;exact⟨rfl,lS⟩
  |true=>
   have hc:=gE (rP.out _ ht);rw[ht]at HX hc;rw[hc.out];by_cases hn:en=fi
   ·subst hn;rw[if_neg (by simp)];have js:(en != en)=false:=by simp
    go_enter func224,ntmps224;go_wp2_with fail;refine(HX.out _).mono ?_;rintro e w1 ⟨rfl,im⟩;obtain⟨c4,lS⟩:=HC.out w1 im;clear im HC HX hc rP;go_wp2_with fail;go_ret;exact⟨rfl,lS⟩
   ·have js:(en != fi)=true:=by simpa using hn
    have ad2:(en==fi)=false:=by simpa using hn
    rw[js,if_pos (by decide)];go_enter func224,ntmps224;go_wp2_with fail;refine(HX.out _).mono ?_;rintro e w1 ⟨rfl,im⟩;obtain⟨c4,lS⟩:=HC.out w1 im;clear im HC HX hc rP;go_wp2_with fail;go_ret;exact⟨rfl,lS⟩
structure vH(α:Type) where
 V:α->Value
 z:Value
 zc:Int
 enc:α->Int
 R:Value->Option (DataW Unit×List MemPlace)
 val:∀a,R (V a)=some (.lit (.int .i64 (enc a)),[])
 zer:R z=some (.lit (.int .i64 zc),[])
 inv:∀{v c ps},R v=some (.lit (.int .i64 c),ps)->(∀a,enc a=c->v=V a)/\(c=zc->v=z)
def abS:Value->Option (DataW Unit×List MemPlace)
 |ai none=>some (.lit (.int .i64 (-1)),[])
 |ai (some ⟨b,0,none⟩)=>some (.lit (.int .i64 b),[])
 |_=>none
def nv:vH Nat where
 V b:=ai (some ⟨b,0,none⟩)
 z:=ai none
 zc:=-1
 enc b:=b
 R:=abS
 val a:=rfl
 zer:=rfl
 inv:=by
  intro v c ps h;unfold abS at h
  split at h
  ·simp at h;exact⟨fun a ha=>by omega,fun _=>rfl⟩
  ·simp at h;refine⟨fun a ha=>?_,fun hc=>by omega⟩;obtain⟨h1,_⟩:=h;have:a=_:=Int.ofNat.inj (ha.trans h1.symm);rw[this]
  ·cases h
def Wf:Value->Option (DataW Unit×List MemPlace)
 |.agg cs=>match cs.toList with
  |[.int .i64 f,.bool r]=>some (.lit (.int .i64 (2*f+if r then 1 else 0)),[])
  |_=>none
 |_=>none
def I2:vH (Int×Bool) where
 V d:=.agg #[.int .i64 d.1,.bool d.2]
 z:=.agg #[.int .i64 0,.bool false]
 zc:=0
 enc d:=2*d.1+if d.2 then 1 else 0
 R:=Wf
 val a:=rfl
 zer:=rfl
 inv:=by
  intro v c ps h;unfold Wf at h
  split at h
  ·rename_i cs
   split at h
   ·rename_i f r he
    have lF:cs=#[.int .i64 f,.bool r]:=by rw[<-Array.toArray_toList (xs:=cs),he]
    subst lF;simp at h;obtain⟨h1,_⟩:=h
    have Ag:∀a:Int×Bool,(2*a.1+if a.2 then 1 else 0)=c->a=(f,r):=by
     rintro⟨f',r'⟩ ha
     cases r<;>cases r'<;>simp at h1 ha<;>first |(exact(Prod.ext (by simp only;omega) rfl))|omega
    refine⟨fun a ha=>by rw[Ag a ha],fun hc=>?_⟩;have:=Ag (0,false) (by simp[hc])
    cases this
    rfl
   ·cases h
  ·cases h
def rV{α:Type}(l:List (Int×α))(k:Int):Option α:=(l.find? fun e=>e.1==k).map (·.2)
def wB{α:Type}(l:List (Int×α))(k:Int):List (Int×α):=l.filter fun e=>!(e.1==k)
theorem u9{α:Type}{l:List (Int×α)}(hn:(l.map (·.1)).Nodup){a:α}(h:(k,a)∈l):rV l k=some a:=by
 unfold rV
 induction l with
 |nil=>cases h
 |cons e t ih=>
  rw[List.find?_cons];rcases List.mem_cons.1 h with rfl|h
  ·simp
  ·have:e.1≠k:=fun he=>by
    simp only[bD,bB]at hn;exact hn.1 (cZ.2 ⟨(k,a),h,he.symm⟩)
   simp only[beq_eq_false_iff_ne.2 this];simp only[bD,bB]at hn;exact ih hn.2 h
theorem N1{α:Type}{l:List (Int×α)}{a:α}(h:rV l k=some a):(k,a)∈l:=by
 unfold rV at h
 cases hf:l.find? (fun e=>e.1==k) with
 |none=>rw[hf]at h;cases h
 |some e=>
  rw[hf]at h;simp at h;have h1:=List.mem_of_find?_eq_some hf;have h2:=List.find?_some hf;simp at h2;subst h h2;exact h1
theorem un{α:Type}{l:List (Int×α)}:rV l k=none↔k∉l.map (·.1):=by
 unfold rV;simp only[dG,List.find?_eq_none,cZ,not_exists,not_and,beq_iff_eq]
theorem IE{α:Type}(l:List (Int×α))(k:Int)(a:α)(hk:rV l k=none)(k':Int):rV (l++[(k,a)]) k'=if k'=k then some a else rV l k':=by
 by_cases h:k'=k
 ·subst h;rw[if_pos rfl];unfold rV at hk⊢;rw[List.find?_append];simp only[dG]at hk;rw[hk];simp
 ·rw[if_neg h];unfold rV;rw[List.find?_append];have:(k==k')=false:=by simpa using fun e:k=k'=>h e.symm
  simp[this]
theorem Cy{α:Type}(l:List (Int×α))(k k':Int):rV (wB l k) k'=if k'=k then none else rV l k':=by
 unfold rV wB;by_cases h:k'=k
 ·subst h;rw[if_pos rfl];simp[List.find?_eq_none]
 ·rw[if_neg h,List.find?_filter]
  congr 2
  funext e
  by_cases h1:e.1=k'
  ·simp[h1,h]
  ·simp[h1]
theorem Ly{α:Type}{l:List (Int×α)}(hn:(l.map (·.1)).Nodup)(k:Int):((wB l k).map (·.1)).Nodup:=
 (List.filter_sublist.map _).nodup hn
theorem IZ{α:Type}{l:List (Int×α)}(hn:(l.map (·.1)).Nodup){a:α}(h:rV l k=some a):(wB l k).length+1=l.length:=by
 induction l with
 |nil=>cases h
 |cons e t ih=>
  simp only[bD,bB]at hn;unfold wB;by_cases he:e.1=k
  ·subst he
   have:t.filter (fun x=>!(x.1==e.1))=t:=List.filter_eq_self.2 fun x hx=>by
    have:x.1≠e.1:=fun h1=>hn.1 (cZ.2 ⟨x,hx,h1⟩)
    simpa using this
   simp[this]
  ·have h2:rV t k=some a:=by
    unfold rV at h⊢;rw[List.find?_cons]at h;simpa[beq_eq_false_iff_ne.2 he] using h
   have h1:=ih hn.2 h2;unfold wB at h1;simp[he];omega
section
variable {α:Type}(C:vH α)(P:Program)(K:TypeId)
structure A9(D:DataW Unit)(l:List (Int×α)):Prop where
 has:∀k,Maps.has D (.int .i64 k)=(rV l k).isSome
 at_:∀k a,rV l k=some a->∀z,D.atKey (.int .i64 k) z=.lit (.int .i64 (C.enc a))
 size:Maps.size D=l.length
 nd:(l.map (·.1)).Nodup
def kG(w:World)(b n:Nat)(l:List (Int×α)):Prop:=∃D,w.ownsMap P K C.R b n D/\A9 C D l
def jX(w:World)(b r n:Nat)(l rest:List (Int×α))(rN:Nat):Prop:=
 ∃D left,w.ranges P K C.R b r n D left rN/\A9 C D l/\rest=l.filter (fun e=>left (.int .i64 e.1))/\∀k,left (.int .i64 k)=true->(rV l k).isSome
variable {C P K}
theorem kG.lt{w:World}{b n:Nat}{l:List (Int×α)}(h:kG C P K w b n l):b<w.heap.size:=by obtain⟨D,h,_⟩:=h;exact h.lt
theorem kG.le{w:World}{b n:Nat}{l:List (Int×α)}(h:kG C P K w b n l):l.length<=n:=by obtain⟨D,h,k⟩:=h;rw[<-k.size];exact h.size_le
theorem kG.kY{w:World}{b n:Nat}{l:List (Int×α)}(h:kG C P K w b n l):∃es clock,w.heap[b]? =some (.map es clock):=by
 obtain⟨D,⟨es,clock,hb,_⟩,_⟩:=h;exact⟨es,clock,hb⟩
theorem kG.same{w w':World}{b n:Nat}{l:List (Int×α)}(h:kG C P K w b n l)(hb:w'.heap[b]? =w.heap[b]?):kG C P K w' b n l:=by
 obtain⟨D,⟨es,clock,h1,h2⟩,k⟩:=h;exact⟨D,⟨es,clock,hb.trans h1,h2⟩,k⟩
theorem Mi(w:World):kG C P K (w.alloc (.map #[] 0)) w.heap.size 0 []:=
 ⟨.map [],World.ownsMap_made w P K C.R,⟨fun k=>rfl,fun k a h=>(by simp[rV]at h),rfl,List.nodup_nil⟩⟩
theorem A9.put{D:DataW Unit}{l:List (Int×α)}(h:A9 C D l)(ht:Maps.Tidy D){k:Int}(a:α)(hk:rV l k=none):A9 C (D.put (.int .i64 k) (.lit (.int .i64 (C.enc a)))) (l++[(k,a)]) where
 has k':=by
  rw[IE l k a hk];by_cases e:k'=k
  ·subst e;rw[if_pos rfl,Maps.has_put_same ht.isMap (k:=.int .i64 k') trivial]
   rfl
  ·rw[if_neg e,Maps.has_put_other (by simpa using e),h.has]
 at_ k' a' h' z:=by
  rw[IE l k a hk]at h';by_cases e:k'=k
  ·subst e;rw[if_pos rfl]at h'
   cases h'
   rw[Maps.atKey_put_same ht.isMap (k:=.int .i64 k') trivial]
  ·rw[if_neg e]at h';rw[Maps.atKey_put_other (by simpa using e)];exact h.at_ k' a' h' z
 size:=by
  rw[Maps.size_put ht,h.has,hk,h.size];simp
 nd:=by
  rw[List.map_append,List.nodup_append];refine⟨h.nd,by simp,fun x hx y hy=>?_⟩;simp at hy;subst hy;exact fun e=>(un.1 hk) (e▸hx)
theorem A9.del{D:DataW Unit}{l:List (Int×α)}(h:A9 C D l)(ht:Maps.Tidy D){k:Int}{a:α}(hk:rV l k=some a):A9 C (D.del (.int .i64 k)) (wB l k) where
 has k':=by
  rw[Cy];by_cases e:k'=k
  ·subst e;rw[if_pos rfl,Maps.has_del_same]
   rfl
  ·rw[if_neg e,Maps.has_del_other (by simpa using e),h.has]
 at_ k' a' h' z:=by
  rw[Cy]at h';by_cases e:k'=k
  ·rw[if_pos e]at h';cases h'
  ·rw[if_neg e]at h';rw[Maps.atKey_del_other (by simpa using e)];exact h.at_ k' a' h' z
 size:=by
  have h1:=Maps.size_del (k:=.int .i64 k) ht;rw[h.has,hk,h.size]at h1;have h2:=IZ h.nd hk;simp at h1;omega
 nd:=Ly h.nd k
section
variable (w:World){lZ:Array Oper}{rest:List Oper}{o:Oper}{a:Act}{Q:Exit->Act->World->Prop}
theorem xi{k:Int}(h:-9223372036854775808<=k/\k<=9223372036854775807):(dH .i64 k).wf=true:=WalkArith.wf_i64 h
theorem KC(hg:o.guard=none)(m:Operand)(t:TypeId)(AB:o.op=Op.call {callee:=Callee.builtin Builtin.len,args:=#[m],argTypes:=#[t]})
  (e:TypeId) (ht:P.underlying t=some (.map K e)) (b n:Nat) (l:List (Int×α)) (hm:a.eval m=.map (some b)) (gY:kG C P K w b n l)
  (UV:wpList P lZ Q rest (a.put o.dst (.int .i64 l.length)) w):
  wpList P lZ Q (o::rest) a w:=by
 obtain⟨D,gY,ok⟩:=gY;exact wpList_len_own w hg m t AB K e ht C.R b n D hm gY (by rw[ok.size];exact UV)
theorem KD(hg:o.guard=none)(m x v:Operand)(t:TypeId)(AB:o.op=Op.mapUpdate t m x v)(e:TypeId)(hK:P.underlying K=some (.int .i64))(ht:P.underlying t=some (.map K e))
  (b n:Nat) (l:List (Int×α)) (hm:a.eval m=.map (some b)) (gY:kG C P K w b n l) (hn:n<maxLen) (k:Int) (y:α) (hx:a.eval x=.int .i64 k) (hv:a.eval v=C.V y) (hk:(dH .i64 k).wf=true) (ka:rV l k=none)
  (UV:∀w',kG C P K w' b (n+1) (l++[(k,y)])->w.grownBy w' (some b)->w'.heap.size=w.heap.size->wpList P lZ Q rest (a.put o.dst undef) w'):
  wpList P lZ Q (o::rest) a w:=by
 obtain⟨D,gY,ok⟩:=gY;refine wpList_mapUpdate_in w hg m x v t AB K e (dF hK) ht C.R b n D hm gY hn _ _ _ hx hv (Maps.keyOf_int_mk hK hk) _ _ (C.val y) fun w' h1 h2=>?_
 refine UV w' ⟨_,h1,ok.put (gY.tidy (dF hK)) y ka⟩ h2.grown ?_;obtain⟨es,clock,es',RE,hb,rfl⟩:=h2;simp[ChangeMaps.setBlock]
theorem jX.map{w:World}{b r n:Nat}{l rs:List (Int×α)}{rN:Nat}(h:jX C P K w b r n l rs rN):kG C P K w b n l:=by
 obtain⟨D,left,h1,h2,_⟩:=h;exact⟨D,h1.owns,h2⟩
theorem jX.left_eq{w:World}{b r n:Nat}{l rs:List (Int×α)}{rN:Nat}(h:jX C P K w b r n l rs rN):w.rangeLeft b r=rN:=by
 obtain⟨D,left,h1,_⟩:=h;exact h1.left_eq
theorem jX.kept{w w':World}{b r n:Nat}{l rs:List (Int×α)}{rN:Nat}(h:jX C P K w b r n l rs rN)(hb:w'.heap[b]? =w.heap[b]?)(hr:w'.heap[r]? =w.heap[r]?):jX C P K w' b r n l rs rN:=by
 obtain⟨D,left,⟨es,clock,W_,seen,c0,h1,h2,h3,h4,h5,h6⟩,k⟩:=h;exact⟨D,left,⟨es,clock,W_,seen,c0,hb.trans h1,h2,h3,h4,hr.trans h5,h6⟩,k⟩
theorem jX.iter{w:World}{b r n:Nat}{l rs:List (Int×α)}{rN:Nat}(h:jX C P K w b r n l rs rN):r<w.heap.size/\∃x y z u,w.heap[r]? =some (.mapIter x y z u):=by
 obtain⟨D,left,h1,_⟩:=h;refine⟨h1.lt,?_⟩;obtain⟨es,clock,W_,seen,c0,_,_,_,_,h5,_⟩:=h1;exact⟨_,_,_,_,h5⟩
theorem qV(hg:o.guard=none)(m:Operand)(t:TypeId)(AB:o.op=Op.range t m)(e:TypeId)(hK:P.underlying K=some (.int .i64))(ht:P.underlying t=some (.map K e))
  (b n:Nat) (l:List (Int×α)) (hm:a.eval m=.map (some b)) (gY:kG C P K w b n l)
  (UV:∀w',jX C P K w' b w.heap.size n l l l.length->w.grownBy w' none->w'.heap.size=w.heap.size+1->wpList P lZ Q rest (a.put o.dst (ai (some ⟨w.heap.size,0,none⟩))) w'):
  wpList P lZ Q (o::rest) a w:=by
 obtain⟨D,gY,ok⟩:=gY;refine wpList_range_own w hg m t AB K e (dF hK) ht C.R b n D hm gY fun w' h1 h2 h3=>UV w' ?_ h2 h3
 refine⟨D,Maps.has D,by rw[<-ok.size];exact h1,ok,?_,fun k hk=>by rw[<-ok.has];exact hk⟩
 symm
 rw[List.filter_eq_self];intro e he;rw[ok.has,u9 ok.nd (show(e.1,e.2)∈l from he)]
 rfl
theorem sf(hg:o.guard=none)(it:Operand)(AB:o.op=Op.next it false)(hK:P.underlying K=some (.int .i64))
  (b r n:Nat) (l rs:List (Int×α)) (rN:Nat) (hit:a.eval it=ai (some ⟨r,0,none⟩)) (h:jX C P K w b r n l rs rN)
  (aaJ:rs=[]->wpList P lZ Q rest (a.put o.dst (.tuple #[.bool false])) w)
  (aaK:∀(k:Int) (y:α) (r1 r2:List (Int×α)) (w':World) (ut:Nat),rs=r1++(k,y)::r2->(dH .i64 k).wf=true->rV l k=some y->jX C P K w' b r n l (r1++r2) ut->ut<rN->
   w.grownBy w' (some r)->w'.heap.size=w.heap.size->(Instr.entry (ai (some ⟨r,0,none⟩))).run P w'=.ok (.tuple #[.int .i64 k,C.V y]) w'->wpList P lZ Q rest (a.put o.dst (.tuple #[.bool true,.int .i64 k,C.V y])) w'):
  wpList P lZ Q (o::rest) a w:=by
 obtain⟨D,left,hr,ok,rfl,hl⟩:=h;refine wpList_plain hg fun K' hK'=>?_
 unfold Oper.wp;rcases hr.next (dF hK) o.type with⟨h0,C3,kk⟩|⟨Ag,v,kl,y,w',ut,zC,LV,hv,kP,kk,zE,jp,DU,ku,Jl⟩
 ·simp[execOp,AB,hit,kk,Result.andThen];refine hK' _ _ (aaJ ?_);rw[List.filter_eq_nil_iff];intro e _;rw[C3];simp
 ·obtain⟨x,rfl,rfl,hwx⟩:=Maps.keyOf_int_inv hK zC
  cases ha:rV l x with
  |none=>have:=hl x LV;rw[ha]at this;cases this
  |some c=>
   have Da:v=C.V c:=by
    have h1:=ok.at_ x c ha (.lit (.int .i64 0));rw[kP]at h1;obtain⟨y1,y2⟩:=y;simp only at h1;subst h1;exact(C.inv hv).1 c rfl
   subst Da;simp[execOp,AB,hit,kk,Result.andThen];have kx:=N1 ha;obtain⟨l1,l2,Yk⟩:=List.append_of_mem kx;have tz:=ok.nd;rw[Yk,List.map_append,bD,List.nodup_append]at tz;obtain⟨n1,n2,n3⟩:=tz;rw[bB]at n2;refine hK' _ _ (aaK x c (l1.filter fun e=>left (.int .i64 e.1)) (l2.filter fun e=>left (.int .i64 e.1)) w' ut ?_ hwx ha ⟨D,_,zE,ok,?_,?_⟩ jp DU ku Jl)
   ·rw[Yk,List.filter_append,List.filter_cons];simp only[LV,if_true]
   ·rw[Yk,List.filter_append,List.filter_cons];have e0:(left (.int .i64 x) && !(dH .i64 x).sameKey (.int .i64 x))=false:=by simp[Lit.sameKey]
    have e0':¬((left (.int .i64 x) && !(dH .i64 x).sameKey (.int .i64 x))=true):=by simp[e0]
    rw[if_neg e0']
    congr 1
    ·refine List.filter_congr fun e he=>?_
     have:e.1≠x:=fun h1=>n3 e.1 (cZ.2 ⟨e,he,rfl⟩) x (by simp) h1
     simp[Lit.sameKey,this]
    ·refine List.filter_congr fun e he=>?_
     have:e.1≠x:=fun h1=>n2.1 (cZ.2 ⟨e,he,h1⟩)
     simp[Lit.sameKey,this]
   ·intro k hk;simp at hk;exact hl k hk.1
end
end
theorem A1(b:Nat)(hi cr ah en Es:Int)(w:World)(h2:w.cell? ⟨b,2,none⟩= some (af ag hi))(h3:w.cell? ⟨b,3,none⟩= some (af ag cr))(h4:w.cell? ⟨b,4,none⟩= some (af ag ah))
  (hh:0<=hi/\hi<=1073741823) (he:0<=en/\en<=1099511627776):
  Calls ae 228 #[ai (some ⟨b,0,none⟩),af ag en,af ag Es] w fun e w'=>e=.returned (af ag (tr hi cr en Es))/\Below w.heap.size w w':=by
 have HX:=gE (yx cr ah w);have hw:IntKind.i64.wrap (en-hi)=en-hi:=by rw[di];omega
 unfold tr;by_cases h1:cr<en
 ·rw[if_pos (a_ h1)];have hd:decide (cr<en)=true:=by simpa using h1
  go_enter func228,ntmps228;go_wp2_with fail;refine HX.out.mono ?_;rintro e w1 ⟨rfl,im⟩;have c2:=gF h2 im;clear HX;go_wp2_with fail;go_ret;exact⟨rfl,im⟩
 ·have hd:decide (cr<en)=false:=by simpa using h1
  by_cases h5:Es<en-hi
  ·rw[if_pos (aV h5)];go_enter func228,ntmps228;go_wp2_with fail;refine HX.out.mono ?_;rintro e w1 ⟨rfl,im⟩;have c2:=gF h2 im;clear HX;go_wp2_with fail;go_ret;exact⟨rfl,im⟩
  ·rw[if_neg (by omega)];go_enter func228,ntmps228;go_wp2_with fail;refine HX.out.mono ?_;rintro e w1 ⟨rfl,im⟩;have c2:=gF h2 im;clear HX;go_wp2_with fail;go_ret;exact⟨rfl,im⟩
theorem ED(b:Nat)(hi fi:Int)(kn:Bool)(ty id iC:Int)(bv:Value)(en pf:Int)(w:World)(h2:w.cell? ⟨b,2,none⟩= some (af ag hi))(h5:w.cell? ⟨b,5,none⟩= some (af ag fi))(h6:w.cell? ⟨b,6,none⟩= some (.bool kn)):
  Calls ae 227 #[ai (some ⟨b,0,none⟩),rx ty id iC bv en pf] w fun e w'=>e=.returned (af ag (I3 kn ty en hi fi))/\Below w.heap.size w w':=by
 have HX:Hid (∀W,Calls ae 230 #[.agg #[af ag ty,af ag id,af ag iC,bv,af ag en,af ag pf]] W fun e w'=>e=.returned (.bool (mN ty))/\Below W.heap.size W w'):=fun W=>rL ty id iC bv en pf W
 have HF:Hid (∀W,Calls ae 224 #[.agg #[af ag ty,af ag id,af ag iC,bv,af ag en,af ag pf],af ag fi] W fun e w'=>e=.returned (af ag (pe ty en fi))/\Below W.heap.size W w'):=fun W=>vU ty id iC bv en pf fi W
 have js:b≠w.heap.size:=Nat.ne_of_lt (jh h2)
 have HC:Hid (∀W:World,Below (w.alloc (.cells #[af ag ty,af ag id,af ag iC,bv,af ag en,af ag pf] 286)).heap.size (w.alloc (.cells #[af ag ty,af ag id,af ag iC,bv,af ag en,af ag pf] 286)) W->W.cell? ⟨w.heap.size,4,none⟩= some (af ag en)/\W.cell? ⟨b,2,none⟩= some (af ag hi)/\Below w.heap.size w W):=by
  intro W hW;refine⟨gF ?_ hW,gF h2 (gI (gH _ _) hW),gI (gH _ _) hW⟩;simp only[aX,heap_alloc_new]
  rfl
 have q2:=gF h2 (gH w (.cells #[af ag ty,af ag id,af ag iC,bv,af ag en,af ag pf] 286));have q5:=gF h5 (gH w (.cells #[af ag ty,af ag id,af ag iC,bv,af ag en,af ag pf] 286));have q6:=gF h6 (gH w (.cells #[af ag ty,af ag id,af ag iC,bv,af ag en,af ag pf] 286))
 have HA:Hid (∀W w':World,Below W.heap.size W w'->(W.cell? ⟨b,2,none⟩= some (af ag hi)/\W.cell? ⟨w.heap.size,0,none⟩= some (af ag ty)/\W.cell? ⟨w.heap.size,1,none⟩= some (af ag id)/\W.cell? ⟨w.heap.size,2,none⟩= some (af ag iC)/\W.cell? ⟨w.heap.size,3,none⟩= some (bv)/\W.cell? ⟨w.heap.size,4,none⟩= some (af ag en)/\W.cell? ⟨w.heap.size,5,none⟩= some (af ag pf))->(w'.cell? ⟨b,2,none⟩= some (af ag hi)/\w'.cell? ⟨w.heap.size,0,none⟩= some (af ag ty)/\w'.cell? ⟨w.heap.size,1,none⟩= some (af ag id)/\w'.cell? ⟨w.heap.size,2,none⟩= some (af ag iC)/\w'.cell? ⟨w.heap.size,3,none⟩= some (bv)/\w'.cell? ⟨w.heap.size,4,none⟩= some (af ag en)/\w'.cell? ⟨w.heap.size,5,none⟩= some (af ag pf))):=
  fun W w' hb h=>⟨gF h.1 hb,gF h.2.1 hb,gF h.2.2.1 hb,gF h.2.2.2.1 hb,gF h.2.2.2.2.1 hb,gF h.2.2.2.2.2.1 hb,gF h.2.2.2.2.2.2 hb⟩
 unfold rx I3
 cases kn with
 |true=>
  rw[if_pos rfl];go_enter func227,ntmps227;go_wp2_with fail
  go_region_with (first
   |(go_at_call 224;refine(HF.out _).mono ?_;rintro e w1 ⟨rfl,im⟩))
  all_goals (
   have lS:=(HC.out w1 (ib im)).2.2;clear im HC HX HF q2 q5 q6;go_wp2_with fail;go_ret;exact⟨rfl,lS⟩)
 |false=>
  rw[if_neg (by decide)]
  cases ht:mN ty with
  |false=>
   rw[ht]at HX;rw[if_neg (by simp)];go_enter func227,ntmps227;go_wp2_with fail
   first
    |(go_region_with (first
      |(go_at_call 230;refine(HX.out _).mono ?_;rintro e w1 ⟨rfl,im⟩)))
    |fail
   all_goals (
    have lS:=gI (gH w _) (ib im);clear im HC HX HF q2 q5 q6 HA;go_wp2_with fail;go_ret;exact⟨rfl,lS⟩)
  |true=>
   rw[ht]at HX;by_cases hl:en<hi
   ·rw[if_pos ⟨rfl,hl⟩];go_enter func227,ntmps227;go_wp2_with fail
    go_region_held3 (fun w'=>w'.cell? ⟨b,2,none⟩= some (af ag hi)/\w'.cell? ⟨w.heap.size,0,none⟩= some (af ag ty)/\w'.cell? ⟨w.heap.size,1,none⟩= some (af ag id)/\w'.cell? ⟨w.heap.size,2,none⟩= some (af ag iC)/\w'.cell? ⟨w.heap.size,3,none⟩= some (bv)/\w'.cell? ⟨w.heap.size,4,none⟩= some (af ag en)/\w'.cell? ⟨w.heap.size,5,none⟩= some (af ag pf)) (first|assumption|go_keep) (first
     |(go_at_call 230;refine(HX.out _).mono ?_;rintro e w1 ⟨rfl,im⟩;have yU:=HA.out _ _ im (by assumption)))
    all_goals (
     have lS:=gI (gH w _) (ib im);clear im HC HX HF q2 q5 q6 HA;go_wp2_with fail;go_ret;exact⟨rfl,lS⟩)
   ·rw[if_neg (fun h=>hl h.2)];go_enter func227,ntmps227;go_wp2_with fail
    go_region_held3 (fun w'=>w'.cell? ⟨b,2,none⟩= some (af ag hi)/\w'.cell? ⟨w.heap.size,0,none⟩= some (af ag ty)/\w'.cell? ⟨w.heap.size,1,none⟩= some (af ag id)/\w'.cell? ⟨w.heap.size,2,none⟩= some (af ag iC)/\w'.cell? ⟨w.heap.size,3,none⟩= some (bv)/\w'.cell? ⟨w.heap.size,4,none⟩= some (af ag en)/\w'.cell? ⟨w.heap.size,5,none⟩= some (af ag pf)) (first|assumption|go_keep) (first
     |(go_at_call 230;refine(HX.out _).mono ?_;rintro e w1 ⟨rfl,im⟩;have yU:=HA.out _ _ im (by assumption)))
    all_goals (
     have lS:=gI (gH w _) (ib im);clear im HC HX HF q2 q5 q6 HA;go_wp2_with fail;go_ret;exact⟨rfl,lS⟩)
theorem Na(first:Int)(ia:Option Addr)(ic:Nat)(rb off:Nat)(w:World):
  Calls ae 235 #[ai (some ⟨rb,off,none⟩),af ag first,.slice ia 0 ic] w fun e w'=>e=.returned (.tuple #[])/\w'=w:=by
 go_enter func235,ntmps235;go_wp2_with fail;refine bodyPost_ret (results_none rfl _ _ _) rfl ?_;exact⟨rfl,rfl⟩
theorem Hp(b:Nat)(cs:Array Value)(lv:Value)(vs:List jT)(rl:List iK)(rd:Int)(rs:Bool)(ty mv iC:Int)(bv:Value)(en pf iI:Int)(items:List Int)(w:World)
  (kA:w.heap[b]? =some (.cells cs 204 (0,0))) (h0:cs[0]? =some lv) (h1:cs[1]? =some (af ag rd)) (h7:cs[7]? =some (.bool rs)) (h:kC w lv vs rl) (hf:nT rl) (nH:∀v∈vs,Cl v.2)
  (kI:Ro w 5 bv items.length (U8 items)) (NE:∀ao cap,bv=.slice ao items.length cap->items.length<=cap/\cap<=9223372036854775807) (Ip:0<=rd/\rd<=1073741823) (ho:0<=iC/\iC<=1073741823) (hl:items.length<=1073741823):
  Calls ae 229 #[ai (some ⟨b,0,none⟩),rx ty mv iC bv en pf,af ag iI] w fun e w'=>∃r,r=yD rs rl (iC+oT rd iC items) (items.drop (oT rd iC items)) iI/\e=.returned (af ag r.1)/\∃iX lm,lW w b 0 cs 204 lv vs r.2 w' iX lm:=by
 obtain⟨ba,bc,rfl,TZ,O4⟩:=id kI;obtain⟨qQ,sY⟩:=NE _ _ rfl;have U3:b<w.heap.size:=(aO.1 kA).1;have c0:w.cell? ⟨b,0,none⟩= some lv:=by simp only[aX,kA];exact h0
 have c1:w.cell? ⟨b,1,none⟩= some (af ag rd):=by simp only[aX,kA];exact h1
 have c7:w.cell? ⟨b,7,none⟩= some (.bool rs):=by simp only[aX,kA];exact h7
 have ny:Below w.heap.size w (w.alloc (.cells #[af ag ty,af ag mv,af ag iC,.slice ba items.length bc,af ag en,af ag pf] 286)):=gH w _;have q1:=gF c1 ny;have q7:=gF c7 ny;unfold rx
 cases rs with
 |true=>
  have HE:=gE (lW.same h kA h0 ny);clear kI TZ O4 NE kA h h0 h1 h7 hf nH c0 c1 c7;go_enter func229,ntmps229;go_wp2_with fail;go_ret;exact⟨_,rfl,rfl,lv,vs,HE.out⟩
 |false=>
  obtain⟨k,hk⟩:∃k,oT rd iC items=k:=⟨_,rfl⟩;have hkv:(k:Int)=min (max (rd-iC) 0) items.length:=by rw[<-hk];unfold oT;omega
  have yu:k<=items.length:=by omega
  rw[hk];have hwd:IntKind.i64.wrap (rd-iC)=rd-iC:=by rw[di];omega
  have Vs:IntKind.i64.wrap (iC+(k:Int))=iC+k:=by rw[di];omega
  obtain⟨tv,qR,WN,kk⟩:∃tv,Ro w 5 tv (items.drop k).length (U8 (items.drop k))/\(∃ao cap,tv=.slice ao (items.drop k).length cap/\(items.drop k).length<=cap/\cap<=9223372036854775807)/\∀W:World,(Instr.slice 44 (.slice ba items.length bc) (some (af ag (k:Int))) none none).run ae W=.ok tv W:=by
   have rX:(items.drop k).length=items.length-k:=by simp
   refine⟨.slice (if bc=k then ba else ba.map (·.add (k*1))) (items.length-k) (bc-k),?_,⟨_,_,by rw[rX],by omega,by omega⟩,fun W=>Et W underlying44 (Qm W) yu⟩;refine⟨_,_,by rw[rX],fun hp=>?_,fun hn=>?_⟩
   ·obtain⟨bb,off,cur,fr,rfl,pg,zx⟩:=TZ (by omega);refine⟨bb,off+k,cur,fr,?_,pg,fun j hj=>?_⟩
    ·rw[if_neg (by omega)];simp[Addr.add_lit]
    ·rw[jM]at hj;rw[Nat.add_assoc,zx (k+j) (by rw[jM];omega)];simp[U8,List.getElem?_drop]
   ·by_cases CY:bc=k
    ·omega
    ·rw[if_neg CY]at hn
     cases ba with
     |none=>have:=O4 rfl;omega
     |some a=>simp at hn
  have Ec:0<=iC+(k:Int)/\iC+(k:Int)+(items.drop k).length<=1099511627776:=by simp;omega
  have EY:Hid (∀W:World,Below w.heap.size w W->Calls ae 234 #[ai (some ⟨b,0,none⟩),af ag (iC+k),tv] W fun e w'=>e=.returned (.bool (nV rl (iC+k) (items.drop k)))/\Below W.heap.size W w'):=by
   intro W hW;obtain⟨ao,cap,e,km,nr⟩:=WN;refine Hz (iC+k) (items.drop k) tv lv vs rl b 0 W (gF c0 hW) (h.below hW) hf (qR.below hW) (fun ao' n_ e'=>?_) (fun v hv=>nH v hv) Ec;rw[e]at e';simp only[Value.slice.injEq]at e';omega
  have tu:∀W:World,Below w.heap.size w W->W.heap[b]? =some (.cells cs 204 (0,0)):=fun W hW=>by rw[hW.block b U3];exact kA
  have VW:Hid (∀W:World,Below w.heap.size w W->Calls ae 235 #[ai (some ⟨b,0,none⟩),af ag (iC+k),tv] W fun e w'=>e=.returned (.tuple #[])/\∃iX lm,lW w b 0 cs 204 lv vs (mY rl (iC+k) (items.drop k)) w' iX lm):=by
   intro W hW;by_cases hn:items.drop k=[]
   ·obtain⟨ao,cap,e,km,nr⟩:=WN;rw[hn,Fc];rw[hn]at e;rw[e];refine(Na _ ao cap b 0 W).mono ?_;rintro e w' ⟨rfl,rfl⟩;exact⟨rfl,lv,vs,lW.same h kA h0 hW⟩
   ·refine(M_ (iC+k) (items.drop k) tv lv vs rl b 0 cs 204 W (tu W hW) h0 (by decide) (by decide) (h.below hW) hf (qR.below hW) hn Ec).mono ?_;rintro e w' ⟨rfl,iX,lm,ho⟩;refine⟨rfl,iX,lm,ho.i_,ho.runs,?_,?_,fun v hv=>?_⟩
    ·exact⟨ho.iO.os.trans hW.os,ho.iO.tape.trans hW.tape,ho.iO.output.trans hW.output,cw hW.size ho.iO.size,fun q hq hn=>by rw[ho.iO.block q (Nat.lt_of_lt_of_le hq hW.size) hn,hW.block q hq]⟩
    ·rcases ho.at_ with e|e
     ·exact a_ e
     ·exact aV fun g hg=>cw hW.size (e g hg)
    ·rcases ho.items v hv with e|e
     ·exact a_ e
     ·exact aV ⟨e.1,fun g hg=>cw hW.size (e.2 g hg)⟩
  have lD:Hid (∀W:World,Below w.heap.size w W->lW w b 0 cs 204 lv vs rl W lv vs):=fun W hW=>lW.same h kA h0 hW
  have qX:Hid ((b<cs.size\/True)/\0<cs.size):=⟨aV trivial,(aO.1 h0).1⟩
  have F6:Hid (yD false rl (iC+k) (items.drop k) iI=if nV rl (iC+k) (items.drop k)=false then(9,rl) else(if iI<(mY rl (iC+k) (items.drop k)).length then 8 else 0,mY rl (iC+k) (items.drop k))):=by
   show _=_;unfold yD;rw[if_neg (by decide)]
  obtain⟨tl,BI⟩:∃tl,(items.drop k).length=tl:=⟨_,rfl⟩;rw[BI]at WN;clear BI qR;obtain⟨ta,tc,rfl,_,_⟩:=WN;have xL:=gE ny;generalize oM:items.drop k=fresh at *
  clear kI TZ O4 NE kA h h0 h1 h7 hf nH c0 c1 c7 Ec tu ny oM hk;have HKv:=gE hkv;clear hkv;go_enter func229,ntmps229
  go_upto_region 3 with fail
  go_cut [7] from 14 to 25 (fun s7 wx=>s7=af ag (k:Int)/\Below w.heap.size w wx/\wx.cell? ⟨w.heap.size,2,none⟩= some (af ag iC)/\wx.cell? ⟨w.heap.size,3,none⟩= some (.slice ba items.length bc))
  case first=>
   go_region
   go_wp2_with fail
   all_goals
    go_meet
    refine⟨?_,?_,by simp,by simp⟩
    ·have:=HKv.out
     congr 1
     omega
    ·first|exact xL.out|exact gK xL.out 1
  case rest=>
   obtain⟨rfl,lS,p2,p3⟩:=hcut;go_wp2_with fail
   go_quiet (fail)
   have U4:=gK lS nq;clear p2 p3 lS;generalize wc.drewN nq=W1 at U4⊢;have aac:=gE (EY.out W1 U4);have Nq:=gE U4;clear U4 EY kk;go_wp2_with fail;refine aac.out.mono ?_;rintro e w1 ⟨rfl,im⟩;have TP:=gE (gI Nq.out im);clear im aac Nq
   cases B7:nV rl (iC+k) fresh with
   |false=>
    have KJ:Hid (yD false rl (iC+k) fresh iI=(9,rl)):=by
     show _=_;rw[F6.out,if_pos B7]
    go_wp2_with fail;go_ret;refine⟨(9,rl),KJ.out.symm,rfl,lv,vs,lD.out _ TP.out⟩
   |true=>
    have KJ:Hid (yD false rl (iC+k) fresh iI=(if iI<(mY rl (iC+k) fresh).length then 8 else 0,mY rl (iC+k) fresh)):=by
     show _=_;rw[F6.out,if_neg (by rw[B7];decide)]
    have Ok:=gE (VW.out w1 TP.out);clear VW lD F6 B7;go_wp2_with fail;refine Ok.out.mono ?_;rintro e w2 ⟨rfl,iX,lm,si⟩;have Zu:=gE si;obtain⟨la,lc,rfl⟩:=iA si.runs.own
    have jk:w2.cell? ⟨b,0,none⟩= some (.slice la lm.length lc):=(by
     simp only[aX,si.i_];have:=qX.out.2;simp[this])
    have HCt:=gE (KE lm la lc b 0 w2 jk);have i8:lm.length=(mY rl (iC+k) fresh).length:=si.runs.sh.1;have HLn:=gE i8;clear si jk i8 Ok;go_wp2_with fail;refine HCt.out.mono ?_;rintro e w3 ⟨rfl,rfl⟩;clear HCt;by_cases hg:iI<(lm.length:Int)
    ·go_wp2_with fail;go_ret;refine⟨(8,mY rl (iC+k) fresh),?_,rfl,_,lm,Zu.out⟩;rw[KJ.out,<-HLn.out,if_pos hg]
    ·go_wp2_with fail;go_ret;refine⟨(0,mY rl (iC+k) fresh),?_,rfl,_,lm,Zu.out⟩;rw[KJ.out,<-HLn.out,if_neg (by omega)]
def VC(x y:Int):Int:=if x≠0 then x else y
theorem Lm(x y:Int)(b:Nat)(w:World)(hx:w.cell? ⟨b,0,none⟩= some (af ag x))(hy:w.cell? ⟨b,1,none⟩= some (af ag y)):
  Calls ae 226 #[aj (some ⟨b,0,none⟩) 2 2] w fun e w'=>e=.returned (af ag (VC x y))/\w=w':=by
 unfold VC;by_cases h0:x=0
 ·subst h0;rw[if_neg (by simp)];by_cases h1:y=0
  ·subst h1;go_enter func226,ntmps226
   go_wp2
   refine wp_loop_rounds 3 ?_;rw[rounds_succ]
   go_wp2
   rw[rounds_succ]
   go_wp2
   rw[rounds_succ]
   go_wp2
   go_ret;exact⟨rfl,rfl⟩
  ·go_enter func226,ntmps226
   go_wp2
   refine wp_loop_rounds 2 ?_;rw[rounds_succ]
   go_wp2
   rw[rounds_succ]
   go_wp2
   go_ret;exact⟨rfl,rfl⟩
 ·rw[if_pos h0];go_enter func226,ntmps226
  go_wp2
  refine wp_loop_rounds 1 ?_;rw[rounds_succ]
  go_wp2
  go_ret;exact⟨rfl,rfl⟩
theorem lW.pre{W:World}{rb off:Nat}{t:TypeId}{vs lm:List jT}{rl:List iK}(hW:Below w.heap.size w W)(ho:lW W rb off cs t lv vs rl w' iX lm):lW w rb off cs t lv vs rl w' iX lm:=by
 refine⟨ho.i_,ho.runs,?_,?_,fun v hv=>?_⟩
 ·exact⟨ho.iO.os.trans hW.os,ho.iO.tape.trans hW.tape,ho.iO.output.trans hW.output,cw hW.size ho.iO.size,fun q hq hn=>by rw[ho.iO.block q (Nat.lt_of_lt_of_le hq hW.size) hn,hW.block q hq]⟩
 ·rcases ho.at_ with e|e
  ·exact a_ e
  ·exact aV fun g hg=>cw hW.size (e g hg)
 ·rcases ho.items v hv with e|e
  ·exact a_ e
  ·exact aV ⟨e.1,fun g hg=>cw hW.size (e.2 g hg)⟩
structure DS(U:Nat->Prop)(w:World)(b:Nat)(lv:Value)(bx:Nat)(fc cs:Array Value)(iX:Value)(lm:List jT)(DY:List iK)(wx:World):Prop where
 i_:wx.heap[b]? =some (.cells cs 204 (0,0))
 box:wx.heap[bx]? =some (.cells fc 286 (0,0))
 runs:kC wx iX lm DY
 Rw:∀v∈lm,Cl v.2/\∀g,v.2.ownBlock=some g->U g\/w.heap.size<=g
 iO:ip (fun k=>k=b\/lv.ownBlock=some k) w wx
 at_:iX.ownBlock=lv.ownBlock\/∀g,iX.ownBlock=some g->w.heap.size<=g
theorem DS.below{lm:List jT}{DY:List iK}{wy:World}(h:DS U w b lv bx fc cs iX lm DY wx)(hb:Below wx.heap.size wx wy):DS U w b lv bx fc cs iX lm DY wy where
 i_:=by rw[hb.block b (aO.1 h.i_).1];exact h.i_
 box:=by rw[hb.block bx (aO.1 h.box).1];exact h.box
 runs:=h.runs.below hb
 Rw:=h.Rw
 iO:=h.iO.trans (ip.gS hb)
 at_:=h.at_
theorem kC.MO{vs:List jT}{rl:List iK}(h:kC w lv vs rl)(hb:w.heap[b]? =some (.cells cs 204 (0,0)))(i:Nat)(v:Value):kC (w.setCell ⟨b,i,none⟩ v) lv vs rl:=by
 have hc:ip (fun k=>k=b) w (w.setCell ⟨b,i,none⟩ v):=iu (Below.refl _ w) i v;refine⟨jg h.own hc fun g hg e=>?_,h.sh,fun k u r hu hr=>(h.ro k u r hu hr).iO hc fun q cur fr hq e=>?_⟩
 ·subst e;exact gO h.own hb (by decide) hg
 ·subst e;rw[hb]at hq;simp only[Option.some.injEq,Obj.cells.injEq]at hq;exact absurd hq.2.1 (by decide)
theorem DS.MO{lm:List jT}{DY:List iK}(h:DS U w b lv bx fc cs iX lm DY wx)(i:Nat)(v:Value):DS U w b lv bx fc (cs.setIfInBounds i v) iX lm DY (wx.setCell ⟨b,i,none⟩ v) where
 i_:=gQ h.i_ i v
 box:=by
  have js:bx≠b:=by
   intro e;subst e;have h1:=h.box;rw[h.i_]at h1;simp only[Option.some.injEq,Obj.cells.injEq]at h1;exact absurd h1.2.1 (by decide)
  rw[heap_setCell_other _ _ _ _ js];exact h.box
 runs:=h.runs.MO h.i_ i v
 Rw:=h.Rw
 iO:=h.iO.trans ((iu (Below.refl _ wx) i v).mono fun k _ e=>a_ e)
 at_:=h.at_
theorem DS.cell{lm:List jT}{DY:List iK}(h:DS U w b lv bx fc cs iX lm DY wx)(i:Nat):wx.cell? ⟨b,i,none⟩= cs[i]?:=by
 simp only[aX,h.i_]
 rfl
theorem DS.xO{lm:List jT}{DY:List iK}(h:DS U w b lv bx fc cs iX lm DY wx)(i:Nat):wx.cell? ⟨bx,i,none⟩= fc[i]?:=by
 simp only[aX,h.box]
 rfl
theorem DS.free{lm:List jT}{DY:List iK}(h:DS U w b lv bx fc cs iX lm DY wx)(i:Nat):wx.frozen? ⟨b,i,none⟩= false:=frozen_of_row wx b i _ _ h.i_
theorem DS.clear{lm:List jT}{DY:List iK}(h:DS U w b lv bx fc cs iX lm DY wx):DS U w b lv bx fc (cs.setIfInBounds 0 (aj none 0 0)) (aj none 0 0) [] [] (wx.setCell ⟨b,0,none⟩ (aj none 0 0)):=by
 have h1:=h.MO 0 (aj none 0 0);refine⟨h1.i_,h1.box,⟨⟨rfl,a_ ⟨rfl,rfl⟩⟩,⟨rfl,fun i v r hv=>(by simp at hv)⟩,fun i v r hv=>(by simp at hv)⟩,fun v hv=>(by cases hv),h1.iO,aV fun g hg=>(by simp[Value.ownBlock]at hg)⟩
theorem Kv(b:Nat)(lv0:Value)(bx:Nat)(fc:Array Value)(rd hi cr ah fi:Int)(kn rs:Bool)(lv:Value)(vs:List jT)(rl:List iK)(w0 w:World)
  (h:DS U w0 b lv0 bx fc #[lv,af ag rd,af ag hi,af ag cr,af ag ah,af ag fi,.bool kn,.bool rs] lv vs rl w) (hf:nT rl):
  Calls ae 231 #[ai (some ⟨b,0,none⟩)] w fun e w'=>e=.returned (.tuple #[])/\∃iX lm,
   DS U w0 b lv0 bx fc #[iX,af ag rd,af ag hi,af ag cr,af ag ah,af ag fi,.bool kn,.bool (if kh rl rd fi then rs else true)] iX lm (if kh rl rd fi then rl else []) w':=by
 have HC:=gE (fun W (hW:Below w.heap.size w W)=>H' vs rl lv rd fi b 0 W (gF (h.cell 0) hW) (iB h.runs.own hW) h.runs.sh hf.wide (by have:=hf.BA;have:=h.runs.sh.1;omega));have c1:w.cell? ⟨b,1,none⟩= some (af ag rd):=h.cell 1;have c5:w.cell? ⟨b,5,none⟩= some (af ag fi):=h.cell 5;have HH:=gE h;clear h
 cases zy:kh rl rd fi with
 |true=>
  rw[zy]at HC;simp only[if_true];go_enter func231,ntmps231;go_wp2_with fail
  go_region_held3 (fun w'=>w'.cell? ⟨b,1,none⟩= some (af ag rd)/\w'.cell? ⟨b,5,none⟩= some (af ag fi)) (first|assumption|go_keep) (first
   |(go_at_call 166;refine(HC.out _ (gK (Below.refl _ w) 1)).mono ?_;rintro e w1 ⟨rfl,im⟩;have pJ:=gF c1 (ib im);have Yf:=gF c5 (ib im)))
  have HB:=gE (ib im);clear im HC pJ Yf;go_wp2_with fail;refine bodyPost_ret (results_none rfl _ _ _) rfl ?_;exact⟨rfl,lv,vs,HH.out.below HB.out⟩
 |false=>
  rw[zy]at HC;simp only[Bool.false_eq_true,if_false];go_enter func231,ntmps231;go_wp2_with fail
  go_region_held3 (fun w'=>w'.cell? ⟨b,1,none⟩= some (af ag rd)/\w'.cell? ⟨b,5,none⟩= some (af ag fi)) (first|assumption|go_keep) (first
   |(go_at_call 166;refine(HC.out _ (gK (Below.refl _ w) 1)).mono ?_;rintro e w1 ⟨rfl,im⟩;have pJ:=gF c1 (ib im);have Yf:=gF c5 (ib im)))
  have HB:=gE (ib im);clear im HC pJ Yf;have H1:=gE (HH.out.below HB.out);have H2:=gE (H1.out.MO 7 (.bool true));have z7:=H1.out.free 7;have z0:=H2.out.free 0;have d7:w1.cell? ⟨b,7,none⟩= some (.bool rs):=H1.out.cell 7;have d0:(w1.setCell ⟨b,7,none⟩ (.bool true)).cell? ⟨b,0,none⟩= some lv:=H2.out.cell 0;have H3:=gE H2.out.clear;clear HH H1 H2 c1 c5;go_wp2_with fail
  go_end0
  exact⟨rfl,_,[],H3.out⟩
def UD(U:Nat->Prop)(w:World)(b:Nat)(lv:Value)(fc:Array Value)(rd hi cr ah fi:Int)(kn rs:Bool)(ty en c1 c2:Int)(r:Int×List iK)(e:Ending)(w':World):Prop:=
 e=.returned (af ag (if c1≠0 then c1 else if c2≠0 then c2 else r.1))/\ip (fun k=>k=b\/lv.ownBlock=some k) w w'/\
   (c1=0->c2=0->r.1=0->∃iX lm,DS U w b lv w.heap.size fc #[iX,af ag rd,af ag (max hi en),af ag cr,af ag ah,af ag (if mN ty=true then en else fi),.bool (if mN ty=true then true else kn),.bool (if ty=5/\kh r.2 rd en=false then true else rs)] iX lm (if ty=5/\kh r.2 rd en=false then [] else r.2) w')
theorem Qt(b:Nat)(lv:Value)(vs:List jT)(rl:List iK)(rd hi cr ah fi:Int)(kn rs:Bool)(ty mv iC:Int)(bv:Value)(en pf Es iI:Int)(items:List Int)(c1 c2:Int)(r:Int×List iK)(w:World)
  (kA:w.heap[b]? =some (.cells #[lv,af ag rd,af ag hi,af ag cr,af ag ah,af ag fi,.bool kn,.bool rs] 204 (0,0))) (h:kC w lv vs rl) (hf:nT rl) (nH:∀v∈vs,Cl v.2/\∀g,v.2.ownBlock=some g->U g)
  (kI:Ro w 5 bv items.length (U8 items)) (NE:∀ao cap,bv=.slice ao items.length cap->items.length<=cap/\cap<=9223372036854775807) (Ip:0<=rd/\rd<=1073741823) (ho:0<=iC/\iC<=1073741823) (hl:items.length<=1073741823) (hh:0<=hi/\hi<=1073741823) (Jl:0<=en/\en<=1099511627776)
  (km:c1=I3 kn ty en hi fi) (nr:c2=tr hi cr en Es) (hr:r=yD rs rl (iC+oT rd iC items) (items.drop (oT rd iC items)) iI) (oM:r.1=0->nT r.2):
  Calls ae 217 #[ai (some ⟨b,0,none⟩),rx ty mv iC bv en pf,af ag Es,af ag iI] w fun e w'=>UD U w b lv #[af ag ty,af ag mv,af ag iC,bv,af ag en,af ag pf] rd hi cr ah fi kn rs ty en c1 c2 r e w':=by
 have U3:b<w.heap.size:=(aO.1 kA).1
 have cc:∀(W:World),Below w.heap.size w W->∀i v,(#[lv,af ag rd,af ag hi,af ag cr,af ag ah,af ag fi,.bool kn,.bool rs]:Array Value)[i]? =some v->W.cell? ⟨b,i,none⟩= some v:=by
  intro W hW i v hv;refine gF ?_ hW;simp only[aX,kA];exact hv
 have HCE:Hid (∀W:World,(Below w.heap.size w W/\W.cell? ⟨w.heap.size,0,none⟩= some (af ag ty)/\W.cell? ⟨w.heap.size,1,none⟩= some (af ag mv)/\W.cell? ⟨w.heap.size,2,none⟩= some (af ag iC)/\W.cell? ⟨w.heap.size,3,none⟩= some (bv)/\W.cell? ⟨w.heap.size,4,none⟩= some (af ag en)/\W.cell? ⟨w.heap.size,5,none⟩= some (af ag pf))->Calls ae 227 #[ai (some ⟨b,0,none⟩),.agg #[af ag ty,af ag mv,af ag iC,bv,af ag en,af ag pf]] W fun e w'=>e=.returned (af ag c1)/\Below W.heap.size W w'):=by
  intro W Je;have hW:=Je.1;rw[km];exact ED b hi fi kn ty mv iC bv en pf W (cc W hW 2 _ rfl) (cc W hW 5 _ rfl) (cc W hW 6 _ rfl)
 have HCC:Hid (∀W:World,(Below w.heap.size w W/\W.cell? ⟨w.heap.size,0,none⟩= some (af ag ty)/\W.cell? ⟨w.heap.size,1,none⟩= some (af ag mv)/\W.cell? ⟨w.heap.size,2,none⟩= some (af ag iC)/\W.cell? ⟨w.heap.size,3,none⟩= some (bv)/\W.cell? ⟨w.heap.size,4,none⟩= some (af ag en)/\W.cell? ⟨w.heap.size,5,none⟩= some (af ag pf))->Calls ae 228 #[ai (some ⟨b,0,none⟩),af ag en,af ag Es] W fun e w'=>e=.returned (af ag c2)/\Below W.heap.size W w'):=by
  intro W Je;have hW:=Je.1;rw[nr];exact A1 b hi cr ah en Es W (cc W hW 2 _ rfl) (cc W hW 3 _ rfl) (cc W hW 4 _ rfl) hh Jl
 have HRc:Hid (∀W:World,Below w.heap.size w W->W.heap[w.heap.size]? =some (.cells #[af ag ty,af ag mv,af ag iC,bv,af ag en,af ag pf] 286 (0,0))->Calls ae 229 #[ai (some ⟨b,0,none⟩),.agg #[af ag ty,af ag mv,af ag iC,bv,af ag en,af ag pf],af ag iI] W fun e w'=>e=.returned (af ag r.1)/\∃iX lm,DS U w b lv w.heap.size #[af ag ty,af ag mv,af ag iC,bv,af ag en,af ag pf] #[iX,af ag rd,af ag hi,af ag cr,af ag ah,af ag fi,.bool kn,.bool rs] iX lm r.2 w'):=by
  intro W hW sY;refine(Hp b _ lv vs rl rd rs ty mv iC bv en pf iI items W (by rw[hW.block b U3];exact kA) rfl rfl rfl (h.below hW) hf (fun v hv=>(nH v hv).1) (kI.below hW) NE Ip ho hl).mono ?_;rintro e w' ⟨r',oq,rfl,iX,lm,si⟩;rw[<-hr]at oq;subst oq;have hp:=si.pre hW;refine⟨rfl,iX,lm,hp.i_,?_,hp.runs,fun v hv=>?_,hp.iO,hp.at_⟩
  ·rw[si.iO.block _ (aO.1 sY).1 (fun hF=>?_)]
   ·exact sY
   ·rcases hF with e|e
    ·omega
    ·have:=(h.own.lt _ e).2;omega
  ·rcases hp.items v hv with e|e
   ·exact⟨(nH v e).1,fun g hg=>a_ ((nH v e).2 g hg)⟩
   ·exact⟨e.1,fun g hg=>aV (e.2 g hg)⟩
 have HGu:Hid (∀(W:World) (iX:Value) (lm:List jT) (ZJ:Int) (kn':Bool),r.1=0->DS U w b lv w.heap.size #[af ag ty,af ag mv,af ag iC,bv,af ag en,af ag pf] #[iX,af ag rd,af ag (max hi en),af ag cr,af ag ah,af ag ZJ,.bool kn',.bool rs] iX lm r.2 W->Calls ae 231 #[ai (some ⟨b,0,none⟩)] W fun e w'=>e=.returned (.tuple #[])/\∃iX lm,DS U w b lv w.heap.size #[af ag ty,af ag mv,af ag iC,bv,af ag en,af ag pf] #[iX,af ag rd,af ag (max hi en),af ag cr,af ag ah,af ag ZJ,.bool kn',.bool (if kh r.2 rd ZJ then rs else true)] iX lm (if kh r.2 rd ZJ then r.2 else []) w'):=
  fun W iX lm ZJ kn' h0 hT=>Kv b lv _ _ rd (max hi en) cr ah ZJ kn' rs iX lm r.2 w W hT (oM h0)
 have HX:Hid (∀W,Calls ae 230 #[.agg #[af ag ty,af ag mv,af ag iC,bv,af ag en,af ag pf]] W fun e w'=>e=.returned (.bool (mN ty))/\Below W.heap.size W w'):=fun W=>rL ty mv iC bv en pf W
 have HK:Hid (∀W W':World,Below W.heap.size W W'->(Below w.heap.size w W/\W.cell? ⟨w.heap.size,0,none⟩= some (af ag ty)/\W.cell? ⟨w.heap.size,1,none⟩= some (af ag mv)/\W.cell? ⟨w.heap.size,2,none⟩= some (af ag iC)/\W.cell? ⟨w.heap.size,3,none⟩= some (bv)/\W.cell? ⟨w.heap.size,4,none⟩= some (af ag en)/\W.cell? ⟨w.heap.size,5,none⟩= some (af ag pf))->(Below w.heap.size w W'/\W'.cell? ⟨w.heap.size,0,none⟩= some (af ag ty)/\W'.cell? ⟨w.heap.size,1,none⟩= some (af ag mv)/\W'.cell? ⟨w.heap.size,2,none⟩= some (af ag iC)/\W'.cell? ⟨w.heap.size,3,none⟩= some (bv)/\W'.cell? ⟨w.heap.size,4,none⟩= some (af ag en)/\W'.cell? ⟨w.heap.size,5,none⟩= some (af ag pf))):=
  fun W W' hb h=>⟨gI h.1 hb,gF h.2.1 hb,gF h.2.2.1 hb,gF h.2.2.2.1 hb,gF h.2.2.2.2.1 hb,gF h.2.2.2.2.2.1 hb,gF h.2.2.2.2.2.2 hb⟩
 have ny:Below w.heap.size w (w.alloc (.cells #[af ag ty,af ag mv,af ag iC,bv,af ag en,af ag pf] 286)):=gH w _;have Zr:Hid ((w.alloc (.cells #[af ag ty,af ag mv,af ag iC,bv,af ag en,af ag pf] 286)).heap[w.heap.size]? =some (.cells #[af ag ty,af ag mv,af ag iC,bv,af ag en,af ag pf] 286 (0,0))):=heap_alloc_new w _;have HSB:Hid (∀W:World,Below (w.alloc (.cells #[af ag ty,af ag mv,af ag iC,bv,af ag en,af ag pf] 286)).heap.size (w.alloc (.cells #[af ag ty,af ag mv,af ag iC,bv,af ag en,af ag pf] 286)) W->Below w.heap.size w W/\W.heap[w.heap.size]? =some (.cells #[af ag ty,af ag mv,af ag iC,bv,af ag en,af ag pf] 286 (0,0))):=fun W hW=>⟨gI ny hW,by rw[hW.block _ (by simp)];exact Zr.out⟩
 have S0:Below w.heap.size w (w.alloc (.cells #[af ag ty,af ag mv,af ag iC,bv,af ag en,af ag pf] 286)).drew/\(w.alloc (.cells #[af ag ty,af ag mv,af ag iC,bv,af ag en,af ag pf] 286)).drew.cell? ⟨w.heap.size,0,none⟩= some (af ag ty)/\(w.alloc (.cells #[af ag ty,af ag mv,af ag iC,bv,af ag en,af ag pf] 286)).drew.cell? ⟨w.heap.size,1,none⟩= some (af ag mv)/\(w.alloc (.cells #[af ag ty,af ag mv,af ag iC,bv,af ag en,af ag pf] 286)).drew.cell? ⟨w.heap.size,2,none⟩= some (af ag iC)/\(w.alloc (.cells #[af ag ty,af ag mv,af ag iC,bv,af ag en,af ag pf] 286)).drew.cell? ⟨w.heap.size,3,none⟩= some (bv)/\(w.alloc (.cells #[af ag ty,af ag mv,af ag iC,bv,af ag en,af ag pf] 286)).drew.cell? ⟨w.heap.size,4,none⟩= some (af ag en)/\(w.alloc (.cells #[af ag ty,af ag mv,af ag iC,bv,af ag en,af ag pf] 286)).drew.cell? ⟨w.heap.size,5,none⟩= some (af ag pf):=⟨gK ny 1,by simp,by simp,by simp,by simp,by simp,by simp⟩;obtain⟨ba,bc,rfl,_,_⟩:=id kI;clear kA h hf nH kI NE cc km nr hr oM;unfold rx;have DZ:=gE S0;clear S0;go_enter func217,ntmps217
 go_upto_region 1 with fail
 go_cut [9] from 11 to 20 (fun s9 wx=>s9=af ag (VC c1 c2)/\Below w.heap.size w wx/\wx.heap[w.heap.size]? =some (.cells #[af ag ty,af ag mv,af ag iC,.slice ba items.length bc,af ag en,af ag pf] 286 (0,0)))
 case first=>
  have S1:=DZ.out
  go_region_held3 (fun w'=>Below w.heap.size w w'/\w'.cell? ⟨w.heap.size,0,none⟩= some (af ag ty)/\w'.cell? ⟨w.heap.size,1,none⟩= some (af ag mv)/\w'.cell? ⟨w.heap.size,2,none⟩= some (af ag iC)/\w'.cell? ⟨w.heap.size,3,none⟩= some (.slice ba items.length bc)/\w'.cell? ⟨w.heap.size,4,none⟩= some (af ag en)/\w'.cell? ⟨w.heap.size,5,none⟩= some (af ag pf)) (first|assumption|exact HK.out _ _ (gH _ _) (by assumption)|go_keep) (first
   |(go_at_call 227;refine(HCE.out _ (by assumption)).mono ?_;rintro e w1 ⟨rfl,im⟩;have yT:=HK.out _ _ im (by assumption))
   |(go_at_call 228;refine(HCC.out _ (by assumption)).mono ?_;rintro e w2 ⟨rfl,iT⟩;have sI:=HK.out _ _ iT (by assumption))
   |(go_at_call 226;refine(Lm c1 c2 _ _ (by simp) (by simp)).mono ?_;rintro e w3 ⟨rfl,rfl⟩))
  all_goals
   go_wp2_with fail
   go_meet
   refine⟨rfl,HSB.out _ ?_⟩
   first
    |exact gI (gI (ib im) iT) (gH _ _)
    |exact gI (gI (ib iT) im) (gH _ _)
 case rest=>
  obtain⟨rfl,lS,sY⟩:=hcut;by_cases Io:VC c1 c2=0
  ·have UT:c1=0/\c2=0:=by
    unfold VC at Io
    split at Io
    ·contradiction
    ·next h=>exact⟨Classical.byContradiction h,Io⟩
   obtain⟨rfl,rfl⟩:=UT;have abo:VC 0 0=0:=rfl;rw[abo];clear Io abo HCE HCC HK HSB DZ Zr ny;have KJ:=gE (HRc.out wc lS sY);have e0:wc.cell? ⟨w.heap.size,0,none⟩= some (af ag ty):=by simp only[aX,sY];rfl
   have e1:wc.cell? ⟨w.heap.size,1,none⟩= some (af ag mv):=by simp only[aX,sY];rfl
   have e2:wc.cell? ⟨w.heap.size,2,none⟩= some (af ag iC):=by simp only[aX,sY];rfl
   have e3:wc.cell? ⟨w.heap.size,3,none⟩= some (.slice ba items.length bc):=by simp only[aX,sY];rfl
   have e4:wc.cell? ⟨w.heap.size,4,none⟩= some (af ag en):=by simp only[aX,sY];rfl
   have e5:wc.cell? ⟨w.heap.size,5,none⟩= some (af ag pf):=by simp only[aX,sY];rfl
   clear HRc lS sY;go_wp2_with fail;refine KJ.out.mono ?_;rintro e w2 ⟨rfl,iX,lm,hT⟩;have HT:=gE hT;clear KJ e0 e1 e2 e3 e4 e5 hT;by_cases rG:r.1=0
   ·have T3:w2.cell? ⟨b,2,none⟩= some (af ag hi):=HT.out.cell 2;have z2:=HT.out.free 2;have f4:w2.cell? ⟨w.heap.size,4,none⟩= some (af ag en):=HT.out.xO 4
    go_upto_region 7 with fail
    go_cut [10] from 31 to 40 (fun Q2 wx=>Q2=af ag 0/\DS U w b lv w.heap.size #[af ag ty,af ag mv,af ag iC,.slice ba items.length bc,af ag en,af ag pf] #[iX,af ag rd,af ag (max hi en),af ag cr,af ag ah,af ag fi,.bool kn,.bool rs] iX lm r.2 wx)
    case first=>
     have HM:=gE (HT.out.MO 2 (af ag (max hi en)));rcases Int.lt_or_le hi en with jp|uV
     ·have T8:max hi en=en:=by omega
      rw[T8]at HM
      go_region
      go_wp2_with fail
      go_meet
      rw[T8];exact⟨rfl,HM.out.below (gK (Below.refl _ _) 1)⟩
     ·have T8:max hi en=hi:=by omega
      rw[T8]at HM
      go_region
      go_wp2_with fail
      go_meet
      rw[T8];exact⟨rfl,HM.out.below (gK (Below.refl _ _) 1)⟩
    case rest=>
     obtain⟨rfl,Wg⟩:=hcut;have HT1:=gE Wg;clear T3 z2 f4 HT;have g0:wc.cell? ⟨w.heap.size,0,none⟩= some (af ag ty):=Wg.xO 0;have g1:wc.cell? ⟨w.heap.size,1,none⟩= some (af ag mv):=Wg.xO 1;have g2:wc.cell? ⟨w.heap.size,2,none⟩= some (af ag iC):=Wg.xO 2;have g3:wc.cell? ⟨w.heap.size,3,none⟩= some (.slice ba items.length bc):=Wg.xO 3;have g4:wc.cell? ⟨w.heap.size,4,none⟩= some (af ag en):=Wg.xO 4;have g5:wc.cell? ⟨w.heap.size,5,none⟩= some (af ag pf):=Wg.xO 5;clear Wg;go_wp2_with fail;refine(HX.out _).mono ?_;rintro e w3 ⟨rfl,mw⟩;have H3:=gE (HT1.out.below mw);have E3:=gE rG;clear g0 g1 g2 g3 g4 g5 mw HT1 HX rG
     cases ht:mN ty with
     |false=>
      have hn5:ty≠5:=fun e=>by rw[e]at ht;exact absurd ht (by decide)
      have wG:(ty==5)=false:=beq_eq_false_iff_ne.2 hn5;have k0:w3.cell? ⟨w.heap.size,0,none⟩= some (af ag ty):=H3.out.xO 0;go_wp2_with fail;go_ret;refine⟨by rw[E3.out];rfl,H3.out.iO,fun _ _ _=>⟨iX,lm,?_⟩⟩;rw[if_neg (by rw[ht];decide),if_neg (by rw[ht];decide),if_neg (fun h=>hn5 h.1),if_neg (fun h=>hn5 h.1)];exact H3.out
     |true=>
      have d4:w3.cell? ⟨w.heap.size,4,none⟩= some (af ag en):=H3.out.xO 4;have d5:w3.cell? ⟨b,5,none⟩= some (af ag fi):=H3.out.cell 5;have z5:=H3.out.free 5;have H4:=gE (H3.out.MO 5 (af ag en));have d6:(w3.setCell ⟨b,5,none⟩ (af ag en)).cell? ⟨b,6,none⟩= some (.bool kn):=H4.out.cell 6;have z6:=H4.out.free 6;have H5:=gE (H4.out.MO 6 (.bool true));have k0:((w3.setCell ⟨b,5,none⟩ (af ag en)).setCell ⟨b,6,none⟩ (.bool true)).cell? ⟨w.heap.size,0,none⟩= some (af ag ty):=H5.out.xO 0;by_cases h5:ty=5
      ·have HG:=gE (HGu.out _ iX lm en true E3.out H5.out);have HT5:=gE ht;clear H3 H4 H5 HGu ht;have wG:(ty==5)=true:=by rw[h5];rfl
       replace h5:=gE h5;go_wp2_with fail;refine HG.out.mono ?_;rintro e w6 ⟨rfl,NZ,Q4,hT6⟩;have H6:=gE hT6;clear hT6 HG d4 d5 z5 d6 z6 k0;go_wp2_with fail;go_ret;refine⟨by rw[E3.out];rfl,H6.out.iO,fun _ _ _=>⟨NZ,Q4,?_⟩⟩;have h6:=H6.out;rw[if_pos HT5.out,if_pos HT5.out]
       cases zy:kh r.2 rd en with
       |true=>
        rw[zy]at h6;rw[if_neg (fun h=>by simp at h),if_neg (fun h=>by simp at h)];exact h6
       |false=>
        rw[zy]at h6;rw[if_pos ⟨h5.out,rfl⟩,if_pos ⟨h5.out,rfl⟩];exact h6
      ·have wG:(ty==5)=false:=beq_eq_false_iff_ne.2 h5;go_wp2_with fail;go_ret;refine⟨by rw[E3.out];rfl,H5.out.iO,fun _ _ _=>⟨iX,lm,?_⟩⟩;rw[if_pos ht,if_pos ht,if_neg (fun h=>h5 h.1),if_neg (fun h=>h5 h.1)];exact H5.out
   ·have Ae:(r.1==0)=false:=beq_eq_false_iff_ne.2 rG;go_wp2_with fail;go_ret;exact⟨by rfl,HT.out.iO,fun _ _ h=>absurd h rG⟩
  ·have Eh:(VC c1 c2==0)=false:=beq_eq_false_iff_ne.2 Io;go_wp2_with fail;go_ret;refine⟨?_,ip.gS lS,fun h1 h2=>absurd (by rw[h1,h2];rfl) Io⟩
   have hcd:VC c1 c2=if c1≠0 then c1 else if c2≠0 then c2 else r.1:=by
    unfold VC at Io⊢;by_cases h1:c1≠0
    ·rw[if_pos h1,if_pos h1]
    ·rw[if_neg h1]at Io;rw[if_neg h1,if_neg h1,if_pos Io]
   rw[<-hcd]
   rfl
end Go.Proofs.YthmdjhlhodpbhaaGreatDoor
