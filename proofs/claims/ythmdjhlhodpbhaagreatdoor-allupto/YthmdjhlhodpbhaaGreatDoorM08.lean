import Derived.Maps.OwnSet
import Derived.Maps.OwnOps
import Derived.Maps.RangeWalk
import Derived.Test.YthmdjhlhodpbhaaGreatDoorM07
set_option maxHeartbeats 16000000
set_option maxRecDepth 8000
set_option linter.all false
namespace Go.Proofs.YthmdjhlhodpbhaaGreatDoor
open Go.RowKit
open Go.Maps (Keyed)
open _root_.Array renaming getElem?_eq_some_iff → bn
open Go.World renaming cell? → aD
open Go.Maps renaming int_keyed → dQ
open Go.IntKind renaming wrap_i64 → dq
open _root_.Nat renaming le_trans → bZ
open _root_.Or renaming inl → bg, inr → bf
open _root_.List renaming mem_map → df
open Go.Lit renaming int → dR
open Go.ChangeMaps renaming setBlock → dS
open _root_.Go renaming World → aK, Calls → aL, Value → aM, wpList → dT, rounds_succ → aR, heap_alloc_new → cA, TypeId → bG, wp_loop_rounds → aS
open _root_.Go.Proofs.Tryz
open _root_.Go.Proofs.Tryz renaming prog → ab
open Go.Value renaming slice → ai, pointer → ag
attribute [local simp] CV CI Bw mc lq io
variable {a d n r bx:Nat}{b w wx:World}{e h lv rY:Value}{c g l u x hi rd fi E G k:Int}{D x7 fc cs:Array Value}{L U:Nat->Prop}{O z0:Bool}{z:TypeId}
def kG(bytes ahead read:Int):Int:=if bytes<read+ahead/2 then min (read+ahead) 1073741823 else bytes
theorem po(a c:Int)(b:aK):
  aL ab 69 #[.agg #[II a,II c]] b fun d e=>d=.returned (II a)/\Bw b e:=by
 go_enter func69,ntmps69;go_wp2_with fail;go_ret;exact⟨rfl,fO _ _⟩
theorem wE{read:Int}(e:b.heap[a]? =some (.cells D z (0,0)))(h:D[d]? =some (II c))(j:D[d+1]? =some (II g))
  (l:0<=g/\g<=1073741823) (o:0<=read/\read<=1099511627776):
  aL ab 80 #[ag (some (Ad a d)),II read] b fun k m=>k=.returned (.bool (decide (c<kG c g read)))/\m=(if c<read+g/2 then b.setCell (Ad a d) (II (kG c g read)) else b):=by
 have c0:b.cell? (Ad a d)=some (II c):=by simp only[aD,e];exact h
 have c1:b.cell? (Ad a (d+1))=some (II g):=by simp only[aD,e];exact j
 have t:mc b a d:=frozen_of_row b a d _ _ e;have n:Int.tdiv g 2=g/2:=Int.tdiv_eq_ediv_of_nonneg l.1;have p:IntKind.i64.wrap (g/2)=g/2:=by rw[dq];omega
 have q:IntKind.i64.wrap (read+g/2)=read+g/2:=by rw[dq];omega
 have s:IntKind.i64.wrap (read+g)=read+g:=by rw[dq];omega
 unfold kG;clear e h j;by_cases f:c<read+g/2
 ·rw[if_pos f,if_pos f];go_enter func80,ntmps80;go_wp2_with fail;all_goals
   go_ret;first
   |exact⟨rfl,rfl⟩
   |(rw[Int.min_eq_right (by omega)];exact⟨rfl,rfl⟩)
   |(rw[Int.min_eq_left (by omega)];exact⟨rfl,rfl⟩)
 ·rw[if_neg f,if_neg f];go_enter func80,ntmps80;go_wp2_with fail;go_ret;exact⟨by simp,rfl⟩
theorem DQ(a:Int)(b:aK):
  aL ab 165 #[II a] b fun c d=>c=.returned (.agg #[II a,II a])/\Bw b d:=by
 go_enter func165,ntmps165;go_wp2_with fail;refine bodyPost_ret (results_cell_row (P:=ab) Tryz.results165 _ _ b.heap.size 133 #[II a,II a] (0,0) _ rfl (cA _ _) underlying133 rfl (by kernel_rfl)) rfl ?_;exact⟨rfl,fO _ _⟩
def ox(ty id iP:Int)(bv:aM)(en pf:Int):aM:=.agg (rf ty id iP bv en pf)
theorem oK:
  aL ab 230 #[ox c g l e u x] b fun d h=>d=.returned (.bool (kN c))/\Bw b h:=by
 unfold ox kN;by_cases a:c=4
 ·subst a;go_enter func230,ntmps230;go_wp2_with fail;go_ret;exact⟨rfl,fO _ _⟩
 ·have f:(c==4)=false:=by simpa using a
  rw[f];go_enter func230,ntmps230;go_wp2_with fail;go_ret;exact⟨by simp,fO _ _⟩
theorem yQ(e:CI b a 1 rd):
  aL ab 134 #[Pt a] b fun c d=>c=.returned (II rd)/\d=b:=by
 go_enter func134,ntmps134;go_wp2_with fail;go_ret;exact⟨rfl,rfl⟩
theorem Cz(e:CI b a 2 hi):
  aL ab 225 #[Pt a] b fun c d=>c=.returned (II hi)/\d=b:=by
 go_enter func225,ntmps225;go_wp2_with fail;go_ret;exact⟨rfl,rfl⟩
theorem EH(j:CI b a 3 c)(k:CI b a 4 g):
  aL ab 79 #[Pt a] b fun d h=>d=.returned (II c)/\Bw b h:=by
 have e:=fK (po c g b);go_enter func79,ntmps79;go_wp2_with fail;refine e.out.mono ?_;rintro d l ⟨rfl,f⟩;go_wp2_with fail;go_ret;exact⟨rfl,f⟩
theorem rP:
  aL ab 224 #[ox c g l e u x,II fi] b fun m v=>m=.returned (II (mH c u fi))/\Bw b v:=by
 have a:Hid (∀d,aL ab 230 #[.agg (rf c g l e u x)] d fun m v=>m=.returned (.bool (kN c))/\Bw d v):=fun d=>oK;unfold ox mH;by_cases q:fi<u
 ·rw[if_pos (bg q)];have A:decide (fi<u)=true:=by simpa using q
  go_enter func224,ntmps224;go_wp2_with fail;go_ret;exact⟨rfl,fO _ _⟩
 ·have A:decide (fi<u)=false:=by simpa using q
  have j:∀s:Bool,kN c=s->(if fi<u\/(kN c=true/\u≠fi) then(6:Int) else 0)=if(s&&(u != fi))=true then 6 else 0:=by intro s n;rw[n];cases s<;>simp[q,bne]
  replace j:=fK j;have k:Hid (∀d:aK,Below (tL b c g l e u x).heap.size (tL b c g l e u x) d->d.cell? (gf b 4)=some (II u)/\Bw b d):=by intro d y;refine⟨fL ?_ y,fP (fO _ _) y⟩;simp only[aD,cA];rfl
  cases n:kN c with
  |false=>have h:=fK (j.out _ n);rw[n]at a h;rw[h.out];go_enter func224,ntmps224;go_wp2_with fail;refine(a.out _).mono ?_;rintro m p ⟨rfl,f⟩;obtain⟨w,o⟩:=k.out p f;clear f k a h j;go_wp2_with fail;go_ret;exact⟨rfl,o⟩
  |true=>
   have h:=fK (j.out _ n);rw[n]at a h;rw[h.out];by_cases t:u=fi
   ·subst t;rw[if_neg (by simp)];have z:(u != u)=false:=by simp
    go_enter func224,ntmps224;go_wp2_with fail;refine(a.out _).mono ?_;rintro m p ⟨rfl,f⟩;obtain⟨w,o⟩:=k.out p f;clear f k a h j;go_wp2_with fail;go_ret;exact⟨rfl,o⟩
   ·have z:(u != fi)=true:=by simpa using t
    have B:(u==fi)=false:=by simpa using t
    rw[z,if_pos (by decide)];go_enter func224,ntmps224;go_wp2_with fail;refine(a.out _).mono ?_;rintro m p ⟨rfl,f⟩;obtain⟨w,o⟩:=k.out p f;clear f k a h j;go_wp2_with fail;go_ret;exact⟨rfl,o⟩
structure rJ(α:Type) where
 V:α->aM
 z:aM
 zc:Int
 enc:α->Int
 R:aM->Option (DataW Unit×List MemPlace)
 val:∀a,R (V a)=some (.lit (.int .i64 (enc a)),[])
 Qc:R z=some (.lit (.int .i64 zc),[])
 inv:∀{v c ps},R v=some (.lit (.int .i64 c),ps)->(∀a,enc a=c->v=V a)/\(c=zc->v=z)
def PD:aM->Option (DataW Unit×List MemPlace)
 |ag none=>some (.lit (.int .i64 (-1)),[])
 |ag (some ⟨b,0,none⟩)=>some (.lit (.int .i64 b),[])
 |_=>none
def kb:rJ Nat where
 V b:=ag (some ⟨b,0,none⟩)
 z:=ag none
 zc:=-1
 enc b:=b
 R:=PD
 val a:=rfl
 Qc:=rfl
 inv:=by
  intro v c ps h;unfold PD at h;split at h
  ·simp at h;exact⟨fun a ha=>by omega,fun _=>rfl⟩
  ·simp at h;refine⟨fun a ha=>?_,fun hc=>by omega⟩;obtain⟨h1,_⟩:=h;have:a=_:=Int.ofNat.inj (ha.trans h1.symm);rw[this]
  ·cases h
def M9:aM->Option (DataW Unit×List MemPlace)
 |.agg cs=>match cs.toList with
  |[.int .i64 f,.bool r]=>some (.lit (.int .i64 (2*f+if r then 1 else 0)),[])
  |_=>none
 |_=>none
def pP:rJ (Int×Bool) where
 V d:=.agg #[.int .i64 d.1,.bool d.2]
 z:=.agg #[.int .i64 0,.bool false]
 zc:=0
 enc d:=2*d.1+if d.2 then 1 else 0
 R:=M9
 val a:=rfl
 Qc:=rfl
 inv:=by
  intro v c ps h;unfold M9 at h;split at h
  ·rename_i cs;split at h
   ·rename_i f r he;have Nc:cs=#[.int .i64 f,.bool r]:=by rw[<-Array.toArray_toList (xs:=cs),he]
    subst Nc;simp at h;obtain⟨h1,_⟩:=h;have L8:∀a:Int×Bool,(2*a.1+if a.2 then 1 else 0)=c->a=(f,r):=by rintro⟨f',r'⟩ ha;cases r<;>cases r'<;>simp at h1 ha<;>first |(exact(Prod.ext (by simp only;omega) rfl))|omega
    refine⟨fun a ha=>by rw[L8 a ha],fun hc=>?_⟩;have:=L8 (0,false) (by simp[hc]);cases this;rfl
   ·cases h
  ·cases h
def nR{α:Type}(l:List (Int×α))(k:Int):Option α:=(l.find? fun e=>e.1==k).map (·.2)
def nC{α:Type}(l:List (Int×α))(k:Int):List (Int×α):=l.filter fun e=>!(e.1==k)
theorem oe{α:Type}{y9:List (Int×α)}(e:(y9.map (·.1)).Nodup){a:α}(b:(c,a)∈y9):nR y9 c=some a:=by
 unfold nR;induction y9 with
 |nil=>cases b
 |cons d g f=>grind
theorem Hq{α:Type}{y9:List (Int×α)}{a:α}(d:nR y9 c=some a):(c,a)∈y9:=by
 unfold nR at d;cases e:y9.find? (fun b=>b.1==c) with
 |none=>grind
 |some b=>grind
theorem qw{α:Type}{y9:List (Int×α)}:nR y9 c=none↔c∉y9.map (·.1):=by unfold nR;simp only[Option.map_eq_none_iff,List.find?_eq_none,df,not_exists,not_and,beq_iff_eq]
theorem xJ{α:Type}(d:List (Int×α))(b:Int)(a:α)(f:nR d b=none)(c:Int):nR (d++[(b,a)]) c=if c=b then some a else nR d c:=by
 by_cases e:c=b
 ·subst e;rw[if_pos rfl];unfold nR at f⊢;grind
 ·rw[if_neg e];unfold nR;grind
theorem xI{α:Type}(c:List (Int×α))(b a:Int):nR (nC c b) a=if a=b then none else nR c a:=by unfold nR nC;grind
theorem ya{α:Type}{y9:List (Int×α)}(a:(y9.map (·.1)).Nodup)(b:Int):((nC y9 b).map (·.1)).Nodup:=
 (List.filter_sublist.map _).nodup a
theorem Dq{α:Type}{y9:List (Int×α)}(f:(y9.map (·.1)).Nodup){a:α}(e:nR y9 c=some a):(nC y9 c).length+1=y9.length:=by
 induction y9 with
 |nil=>cases e
 |cons d b l=>
  simp only[List.map_cons,List.nodup_cons]at f;unfold nC;by_cases k:d.1=c
  ·subst k;have:b.filter (fun g=>!(g.1==d.1))=b:=List.filter_eq_self.2 fun g m=>by grind
   simp[this]
  ·have j:nR b c=some a:=by unfold nR at e⊢;grind
   have h:=l f.2 j;unfold nC at h;grind
section
variable {α:Type}(C:rJ α)(P:Program)(K:bG)
structure wn(D:DataW Unit)(l:List (Int×α)):Prop where
 has:∀k,Maps.has D (.int .i64 k)=(nR l k).isSome
 at_:∀k a,nR l k=some a->∀z,D.atKey (.int .i64 k) z=.lit (.int .i64 (C.enc a))
 size:Maps.size D=l.length
 nd:(l.map (·.1)).Nodup
def iO(w:aK)(b n:Nat)(l:List (Int×α)):Prop:=∃D,w.ownsMap P K C.R b n D/\wn C D l
def iH(w:aK)(b r n:Nat)(l rest:List (Int×α))(Si:Nat):Prop:=
 ∃D left,w.ranges P K C.R b r n D left Si/\wn C D l/\rest=l.filter (fun e=>left (.int .i64 e.1))/\∀k,left (.int .i64 k)=true->(nR l k).isSome
variable {C P K}
theorem iO.lt{w:aK}{a n:Nat}{l:List (Int×α)}(h:iO C P K w a n l):a<w.heap.size:=by obtain⟨b,h,_⟩:=h;exact h.lt
theorem iO.le{w:aK}{a n:Nat}{l:List (Int×α)}(h:iO C P K w a n l):l.length<=n:=by obtain⟨c,h,b⟩:=h;rw[<-b.size];exact h.size_le
theorem iO.iM{w:aK}{a n:Nat}{l:List (Int×α)}(h:iO C P K w a n l):∃b clock,w.heap[a]? =some (.map b clock):=by obtain⟨c,⟨b,clock,d,_⟩,_⟩:=h;grind
theorem iO.same{w b:aK}{a n:Nat}{l:List (Int×α)}(h:iO C P K w a n l)(g:b.heap[a]? =w.heap[a]?):iO C P K b a n l:=by obtain⟨c,⟨d,clock,e,f⟩,j⟩:=h;exact⟨c,⟨d,clock,g.trans e,f⟩,j⟩
theorem F'(w:aK):iO C P K (w.alloc (.map #[] 0)) w.heap.size 0 []:=
 ⟨.map [],World.ownsMap_made w P K C.R,⟨fun c=>rfl,fun c a b=>(by simp[nR]at b),rfl,List.nodup_nil⟩⟩
theorem wn.put{D:DataW Unit}{l:List (Int×α)}(h:wn C D l)(ht:Maps.Tidy D){k:Int}(a:α)(hk:nR l k=none):wn C (D.put (.int .i64 k) (.lit (.int .i64 (C.enc a)))) (l++[(k,a)]) where
 has k':=by
  rw[xJ l k a hk];by_cases e:k'=k
  ·subst e;rw[if_pos rfl,Maps.has_put_same ht.isMap (k:=.int .i64 k') trivial];rfl
  ·rw[if_neg e,Maps.has_put_other (by simpa using e),h.has]
 at_ k' a' h' z:=by
  rw[xJ l k a hk]at h';by_cases e:k'=k
  ·subst e;rw[if_pos rfl]at h';cases h';rw[Maps.atKey_put_same ht.isMap (k:=.int .i64 k') trivial]
  ·rw[if_neg e]at h';rw[Maps.atKey_put_other (by simpa using e)];exact h.at_ k' a' h' z
 size:=by rw[Maps.size_put ht,h.has,hk,h.size];simp
 nd:=by rw[List.map_append,List.nodup_append];refine⟨h.nd,by simp,fun x hx y hy=>?_⟩;simp at hy;subst hy;exact fun e=>(qw.1 hk) (e▸hx)
theorem wn.del{D:DataW Unit}{l:List (Int×α)}(h:wn C D l)(ht:Maps.Tidy D){k:Int}{a:α}(hk:nR l k=some a):wn C (D.del (.int .i64 k)) (nC l k) where
 has k':=by
  rw[xI];by_cases e:k'=k
  ·subst e;rw[if_pos rfl,Maps.has_del_same];rfl
  ·rw[if_neg e,Maps.has_del_other (by simpa using e),h.has]
 at_ k' a' h' z:=by
  rw[xI]at h';by_cases e:k'=k
  ·rw[if_pos e]at h';cases h'
  ·rw[if_neg e]at h';rw[Maps.atKey_del_other (by simpa using e)];exact h.at_ k' a' h' z
 size:=by have h1:=Maps.size_del (k:=.int .i64 k) ht;rw[h.has,hk,h.size]at h1;have h2:=Dq h.nd hk;simp at h1;omega
 nd:=ya h.nd k
section
variable (w:aK){D_:Array Oper}{rest:List Oper}{o:Oper}{a:Act}{Q:Exit->Act->aK->Prop}
theorem pC{c:Int}(a:-9223372036854775808<=c/\c<=9223372036854775807):(dR .i64 c).wf=true:=WalkArith.wf_i64 a
theorem EQ(l:o.guard=none)(d:Operand)(e:bG)(n:o.op=Op.call {callee:=Callee.builtin Builtin.len,args:=#[d],argTypes:=#[e]})
  (f:bG) (p:P.underlying e=some (.map K f)) (b h:Nat) (g:List (Int×α)) (m:a.eval d=.map (some b)) (c:iO C P K w b h g)
  (k:dT P D_ Q rest (a.put o.dst (.int .i64 g.length)) w):
  dT P D_ Q (o::rest) a w:=by
 obtain⟨j,c,ok⟩:=c;exact wpList_len_own w l d e n K f p C.R b h j m c (by rw[ok.size];exact k)
theorem ER(v:o.guard=none)(k n m:Operand)(l:bG)(B:o.op=Op.mapUpdate l k n m)(p:bG)(h:P.underlying K=some (.int .i64))(D:P.underlying l=some (.map K p))
  (c f:Nat) (j:List (Int×α)) (y:a.eval k=.map (some c)) (d:iO C P K w c f j) (z:f<maxLen) (e:Int) (g:α) (G:a.eval n=.int .i64 e) (E:a.eval m=C.V g) (x:(dR .i64 e).wf=true) (A:nR j e=none)
  (u:∀b,iO C P K b c (f+1) (j++[(e,g)])->w.grownBy b (some c)->b.heap.size=w.heap.size->dT P D_ Q rest (a.put o.dst undef) b):
  dT P D_ Q (o::rest) a w:=by
 obtain⟨s,d,ok⟩:=d;refine wpList_mapUpdate_in w v k n m l B K p (dQ h) D C.R c f s y d z _ _ _ G E (Maps.keyOf_int_mk h x) _ _ (C.val g) fun b t q=>?_;refine u b ⟨_,t,ok.put (d.tidy (dQ h)) g A⟩ q.grown ?_;obtain⟨I,clock,J,H,L,rfl⟩:=q;simp[dS]
theorem EP(t:o.guard=none)(h l:Operand)(k:bG)(x:o.op=Op.call {callee:=Callee.builtin Builtin.delete,args:=#[h,l],argTypes:=#[k,K]})(m:bG)(f:P.underlying K=some (.int .i64))(y:P.underlying k=some (.map K m))
  (c j:Nat) (g:List (Int×α)) (v:a.eval h=.map (some c)) (d:iO C P K w c j g) (e:Int) (B:α) (z:a.eval l=.int .i64 e) (u:(dR .i64 e).wf=true) (A:nR g e=some B)
  (s:∀b,iO C P K b c j (nC g e)->w.grownBy b (some c)->b.heap.size=w.heap.size->dT P D_ Q rest (a.put o.dst (.tuple #[])) b):
  dT P D_ Q (o::rest) a w:=by
 obtain⟨p,d,ok⟩:=d;refine wpList_delete_own w t h l k K x m (dQ f) y C.R c j p v d _ _ z (Maps.keyOf_int_mk f u) fun b q n=>?_;refine s b ⟨_,q,ok.del (d.tidy (dQ f)) A⟩ n.grown ?_;obtain⟨E,clock,G,D,H,rfl⟩:=n;simp[dS]
theorem iH.map{w:aK}{a r n:Nat}{l y9:List (Int×α)}{d:Nat}(h:iH C P K w a r n l y9 d):iO C P K w a n l:=by obtain⟨b,left,c,e,_⟩:=h;exact⟨b,c.owns,e⟩
theorem iH.left_eq{w:aK}{a r n:Nat}{l y9:List (Int×α)}{d:Nat}(h:iH C P K w a r n l y9 d):w.rangeLeft a r=d:=by obtain⟨c,left,b,_⟩:=h;exact b.left_eq
theorem iH.kept{w b:aK}{a r n:Nat}{l y9:List (Int×α)}{d:Nat}(h:iH C P K w a r n l y9 d)(p:b.heap[a]? =w.heap[a]?)(q:b.heap[r]? =w.heap[r]?):iH C P K b a r n l y9 d:=by obtain⟨c,left,⟨e,clock,u,t,c0,f,g,j,k,m,o⟩,s⟩:=h;exact⟨c,left,⟨e,clock,u,t,c0,p.trans f,g,j,k,q.trans m,o⟩,s⟩
theorem iH.iter{w:aK}{a r n:Nat}{l y9:List (Int×α)}{d:Nat}(h:iH C P K w a r n l y9 d):r<w.heap.size/\∃e f g c,w.heap[r]? =some (.mapIter e f g c):=by obtain⟨j,left,b,_⟩:=h;refine⟨b.lt,?_⟩;obtain⟨k,clock,p,o,c0,_,_,_,_,m,_⟩:=b;grind
theorem mS(t:o.guard=none)(h:Operand)(k:bG)(x:o.op=Op.range k h)(c:bG)(q:P.underlying K=some (.int .i64))(y:P.underlying k=some (.map K c))
  (e j:Nat) (d:List (Int×α)) (v:a.eval h=.map (some e)) (g:iO C P K w e j d)
  (p:∀b,iH C P K b e w.heap.size j d d d.length->w.grownBy b none->b.heap.size=w.heap.size+1->dT P D_ Q rest (a.put o.dst (ag (some ⟨w.heap.size,0,none⟩))) b):
  dT P D_ Q (o::rest) a w:=by
 obtain⟨f,g,ok⟩:=g;refine wpList_range_own w t h k x K c (dQ q) y C.R e j f v g fun b l m n=>p b ?_ m n;refine⟨f,Maps.has f,by rw[<-ok.size];exact l,ok,?_,fun z u=>by rw[<-ok.has];exact u⟩;symm;rw[List.filter_eq_self];intro c s;rw[ok.has,oe ok.nd (show(c.1,c.2)∈d from s)];rfl
theorem nK(S:o.guard=none)(A:Operand)(z:o.op=Op.next A false)(t:P.underlying K=some (.int .i64))
  (q r B:Nat) (l p:List (Int×α)) (s:Nat) (v:a.eval A=ag (some ⟨r,0,none⟩)) (L:iH C P K w q r B l p s)
  (M:p=[]->dT P D_ Q rest (a.put o.dst (.tuple #[.bool false])) w)
  (N:∀(g:Int) (f:α) (E G:List (Int×α)) (d:aK) (j:Nat),p=E++(g,f)::G->(dR .i64 g).wf=true->nR l g=some f->iH C P K d q r B l (E++G) j->j<s->
   w.grownBy d (some r)->d.heap.size=w.heap.size->(Instr.entry (ag (some ⟨r,0,none⟩))).run P d=.ok (.tuple #[.int .i64 g,C.V f]) d->dT P D_ Q rest (a.put o.dst (.tuple #[.bool true,.int .i64 g,C.V f])) d):
  dT P D_ Q (o::rest) a w:=by
 obtain⟨H,left,a0,ok,rfl,W⟩:=L;refine wpList_plain S fun b0 u=>?_;unfold Oper.wp;rcases a0.next (dQ t) o.type with⟨b1,b2,n⟩|⟨b3,a9,b4,f,d,j,U,X,a3,O,n,a1,Y,T,a2,R⟩
 ·simp[execOp,z,v,n,Result.andThen];refine u _ _ (M ?_);rw[List.filter_eq_nil_iff];grind
 ·obtain⟨b,rfl,rfl,a5⟩:=Maps.keyOf_int_inv t U;cases k:nR l b with
  |none=>have:=W b X;rw[k]at this;cases this
  |some h=>
   have a4:a9=C.V h:=by have e:=ok.at_ b h k (.lit (.int .i64 0));rw[O]at e;obtain⟨b6,b7⟩:=f;simp only at e;subst e;exact(C.inv a3).1 h rfl
   subst a4;simp[execOp,z,v,n,Result.andThen];have Z:=Hq k;obtain⟨a6,a7,x⟩:=List.append_of_mem Z;have y:=ok.nd;rw[x,List.map_append,List.map_cons,List.nodup_append]at y;obtain⟨b5,D,a8⟩:=y;rw[List.nodup_cons]at D;refine u _ _ (N b h (a6.filter fun c=>left (.int .i64 c.1)) (a7.filter fun c=>left (.int .i64 c.1)) d j ?_ a5 k ⟨H,_,a1,ok,?_,?_⟩ Y T a2 R)
   ·grind
   ·rw[x,List.filter_append,List.filter_cons];have I:(left (.int .i64 b) && !(dR .i64 b).sameKey (.int .i64 b))=false:=by simp[Lit.sameKey]
    have J:¬((left (.int .i64 b) && !(dR .i64 b).sameKey (.int .i64 b))=true):=by simp[I]
    rw[if_neg J];congr 1
    ·refine List.filter_congr fun c m=>?_;have:c.1≠b:=fun e=>a8 c.1 (df.2 ⟨c,m,rfl⟩) b (by simp) e;simp[Lit.sameKey,this]
    ·refine List.filter_congr fun c m=>?_;have:c.1≠b:=fun e=>D.1 (df.2 ⟨c,m,e⟩);simp[Lit.sameKey,this]
   grind
end
end
theorem wg(h:CI b a 2 hi)(p:CI b a 3 g)(q:CI b a 4 l)
  (t:0<=hi/\hi<=1073741823) (s:0<=u/\u<=1099511627776):
  aL ab 228 #[Pt a,II u,II x] b fun e o=>e=.returned (II (pO hi g u x))/\Bw b o:=by
 have d:=fK (po g l b);have v:IntKind.i64.wrap (u-hi)=u-hi:=by rw[dq];omega
 unfold pO;by_cases f:g<u
 ·rw[if_pos (bg f)];have n:decide (g<u)=true:=by simpa using f
  go_enter func228,ntmps228;go_wp2_with fail;refine d.out.mono ?_;rintro e k ⟨rfl,c⟩;have j:=fL h c;clear d;go_wp2_with fail;go_ret;exact⟨rfl,c⟩
 ·have n:decide (g<u)=false:=by simpa using f
  by_cases m:x<u-hi
  ·rw[if_pos (bf m)];go_enter func228,ntmps228;go_wp2_with fail;refine d.out.mono ?_;rintro e k ⟨rfl,c⟩;have j:=fL h c;clear d;go_wp2_with fail;go_ret;exact⟨rfl,c⟩
  ·rw[if_neg (by omega)];go_enter func228,ntmps228;go_wp2_with fail;refine d.out.mono ?_;rintro e k ⟨rfl,c⟩;have j:=fL h c;clear d;go_wp2_with fail;go_ret;exact⟨rfl,c⟩
theorem zK(w:CI b a 2 hi)(B:CI b a 5 fi)(C:CV b a 6 (.bool O)):
  aL ab 227 #[Pt a,ox l u x e E G] b fun h c=>h=.returned (II (Du O l E hi fi))/\Bw b c:=by
 have g:Hid (∀d,aL ab 230 #[.agg (rf l u x e E G)] d fun h c=>h=.returned (.bool (kN l))/\Bw d c):=fun d=>oK;have p:Hid (∀d,aL ab 224 #[.agg (rf l u x e E G),II fi] d fun h c=>h=.returned (II (mH l E fi))/\Bw d c):=fun d=>rP;have H:a≠b.heap.size:=Nat.ne_of_lt (hK w);have o:Hid (∀d:aK,Below (tL b l u x e E G).heap.size (tL b l u x e E G) d->d.cell? (gf b 4)=some (II E)/\d.cell? (Ad a 2)=some (II hi)/\Bw b d):=by intro d y;refine⟨fL ?_ y,fL w (fP (fO _ _) y),fP (fO _ _) y⟩;simp only[aD,cA];rfl
 have q:=fL w (fO b (.cells (rf l u x e E G) 286));have s:=fL B (fO b (.cells (rf l u x e E G) 286));have t:=fL C (fO b (.cells (rf l u x e E G) 286));have n:Hid (∀d c:aK,Bw d c->(CI d a 2 hi/\io d b 0 l/\io d b 1 u/\io d b 2 x/\lq d b 3 (e)/\io d b 4 E/\io d b 5 G)->(CI c a 2 hi/\io c b 0 l/\io c b 1 u/\io c b 2 x/\lq c b 3 (e)/\io c b 4 E/\io c b 5 G)):=
  fun d c k j=>⟨fL j.1 k,fL j.2.1 k,fL j.2.2.1 k,fL j.2.2.2.1 k,fL j.2.2.2.2.1 k,fL j.2.2.2.2.2.1 k,fL j.2.2.2.2.2.2 k⟩
 unfold ox Du;cases O with
 |true=>
  rw[if_pos rfl];go_enter func227,ntmps227;go_wp2_with fail;go_region_with (first
   |(go_at_call 224;refine(p.out _).mono ?_;rintro h v ⟨rfl,f⟩))
  all_goals (
   have m:=(o.out v (gc f)).2.2;clear f o g p q s t;go_wp2_with fail;go_ret;exact⟨rfl,m⟩)
 |false=>
  rw[if_neg (by decide)];cases A:kN l with
  |false=>
   rw[A]at g;rw[if_neg (by simp)];go_enter func227,ntmps227;go_wp2_with fail;first
    |(go_region_with (first
      |(go_at_call 230;refine(g.out _).mono ?_;rintro h v ⟨rfl,f⟩)))
    |fail
   all_goals (
    have m:=fP (fO _ _) (gc f);clear f o g p q s t n;go_wp2_with fail;go_ret;exact⟨rfl,m⟩)
  |true=>
   rw[A]at g;by_cases z:E<hi
   ·rw[if_pos ⟨rfl,z⟩];go_enter func227,ntmps227;go_wp2_with fail;go_region_held3 (fun c=>c.cell? (Ad a 2)=some (II hi)/\c.cell? (gf b 0)=some (II l)/\c.cell? (gf b 1)=some (II u)/\c.cell? (gf b 2)=some (II x)/\c.cell? (gf b 3)=some (e)/\c.cell? (gf b 4)=some (II E)/\c.cell? (gf b 5)=some (II G)) (first|assumption|go_keep) (first
     |(go_at_call 230;refine(g.out _).mono ?_;rintro h v ⟨rfl,f⟩;have D:=n.out _ _ f (by assumption)))
    all_goals (
     have m:=fP (fO _ _) (gc f);clear f o g p q s t n;go_wp2_with fail;go_ret;exact⟨rfl,m⟩)
   ·rw[if_neg (fun j=>z j.2)];go_enter func227,ntmps227;go_wp2_with fail;go_region_held3 (fun c=>c.cell? (Ad a 2)=some (II hi)/\c.cell? (gf b 0)=some (II l)/\c.cell? (gf b 1)=some (II u)/\c.cell? (gf b 2)=some (II x)/\c.cell? (gf b 3)=some (e)/\c.cell? (gf b 4)=some (II E)/\c.cell? (gf b 5)=some (II G)) (first|assumption|go_keep) (first
     |(go_at_call 230;refine(g.out _).mono ?_;rintro h v ⟨rfl,f⟩;have D:=n.out _ _ f (by assumption)))
    all_goals (
     have m:=fP (fO _ _) (gc f);clear f o g p q s t n;go_wp2_with fail;go_ret;exact⟨rfl,m⟩)
theorem G7{first:Int}{R:Option Addr}{f:Nat}:
  aL ab 235 #[ag (some (Ad d f)),II first,.slice R 0 a] b fun c e=>c=.returned (.tuple #[])/\e=b:=by
 go_enter func235,ntmps235;go_wp2_with fail;refine bodyPost_ret (results_none rfl _ _ _) rfl ?_;exact⟨rfl,rfl⟩
theorem CA{K:List iw}{C:List gH}{k:List Int}
  (n:b.heap[a]? =some (.cells D 204 (0,0))) (p:D[0]? =some e) (T:D[1]? =some (II rd)) (U:D[7]? =some (.bool O)) (s:iy b e K C) (N:kE C) (a0:∀J∈K,rI J.2)
  (Z:Ro b 5 h k.length (U8 k)) (W:∀A cap,h=.slice A k.length cap->k.length<=cap/\cap<=9223372036854775807) (g4:0<=rd/\rd<=1073741823) (o:0<=u/\u<=1073741823) (g2:k.length<=1073741823):
  aL ab 229 #[Pt a,ox g l u h x E,II G] b fun d t=>∃r,r=u' O C (u+mQ rd u k) (k.drop (mQ rd u k)) G/\d=.returned (II r.1)/\∃y m,iZ b a 0 D 204 e K r.2 t y m:=by
 obtain⟨v,w,rfl,Y,X⟩:=id Z;obtain⟨g0,g1⟩:=W _ _ rfl;have d9:a<b.heap.size:=(bn.1 n).1;have c0:b.cell? (Ad a 0)=some e:=by simp only[aD,n];exact p
 have c1:b.cell? (Ad a 1)=some (II rd):=by simp only[aD,n];exact T
 have R:b.cell? (Ad a 7)=some (.bool O):=by simp only[aD,n];exact U
 have B:Bw b (b.alloc (.cells #[II g,II l,II u,.slice v k.length w,II x,II E] 286)):=fO _ _;have g7:=fL c1 B;have g8:=fL R B;unfold ox;cases O with
 |true=>have d1:=fK (iZ.same s n p B);clear Z Y X W n s p T U N a0 c0 c1 R;go_enter func229,ntmps229;go_wp2_with fail;go_ret;exact⟨_,rfl,rfl,e,K,d1.out⟩
 |false=>
  obtain⟨c,a2⟩:∃c,mQ rd u k=c:=⟨_,rfl⟩;have c5:(c:Int)=min (max (rd-u) 0) k.length:=by rw[<-a2];unfold mQ;omega
  have e6:c<=k.length:=by omega
  rw[a2];have g5:IntKind.i64.wrap (rd-u)=rd-u:=by rw[dq];omega
  have g6:IntKind.i64.wrap (u+(c:Int))=u+c:=by rw[dq];omega
  obtain⟨z,a3,P,e7⟩:∃z,Ro b 5 z (k.drop c).length (U8 (k.drop c))/\(∃A cap,z=.slice A (k.drop c).length cap/\(k.drop c).length<=cap/\cap<=9223372036854775807)/\∀f:aK,(Instr.slice 44 (.slice v k.length w) (some (II (c:Int))) none none).run ab f=.ok z f:=by
   have c4:(k.drop c).length=k.length-c:=by simp
   refine⟨.slice (if w=c then v else v.map (·.add (c*1))) (k.length-c) (w-c),?_,⟨_,_,by rw[c4],by omega,by omega⟩,fun f=>ql underlying44 (AX) e6⟩;refine⟨_,_,by rw[c4],fun g3=>?_,fun q=>?_,by omega⟩
   ·obtain⟨d5,f1,d6,d7,rfl,d8,e2⟩:=Y (by omega);refine⟨d5,f1+c,d6,d7,?_,d8,fun e8 e5=>?_⟩
    ·rw[if_neg (by omega)];simp[Addr.add_lit]
    ·rw[ir]at e5;rw[Nat.add_assoc,e2 (c+e8) (by rw[ir];omega)];simp[U8,List.getElem?_drop]
   ·by_cases e3:w=c
    ·omega
    ·rw[if_neg e3]at q;cases v with
     |none=>have:=X.1 rfl;omega
     |some f7=>simp at q
  have a1:0<=u+(c:Int)/\u+(c:Int)+(k.drop c).length<=1099511627776:=by simp;omega
  have a6:Hid (∀f:aK,Bw b f->aL ab 234 #[Pt a,II (u+c),z] f fun d t=>d=.returned (.bool (lC C (u+c) (k.drop c)))/\Bw f t):=by intro f j;obtain⟨A,cap,d,e0,e1⟩:=P;refine CK (fL c0 j) (s.below j) N (a3.below j) (fun f8 f9 b7=>?_) (fun J a4=>a0 J a4) a1;rw[d]at b7;simp only[Value.slice.injEq]at b7;omega
  have b8:∀f:aK,Bw b f->f.heap[a]? =some (.cells D 204 (0,0)):=fun f j=>by rw[j.block a d9];exact n
  have b1:Hid (∀f:aK,Bw b f->aL ab 235 #[Pt a,II (u+c),z] f fun d t=>d=.returned (.tuple #[])/\∃y m,iZ b a 0 D 204 e K (kU C (u+c) (k.drop c)) t y m):=by
   intro f j;by_cases q:k.drop c=[]
   ·obtain⟨A,cap,d,e0,e1⟩:=P;rw[q,Ao];rw[q]at d;rw[d];refine(G7).mono ?_;rintro d t ⟨rfl,rfl⟩;exact⟨rfl,e,K,iZ.same s n p j⟩
   ·refine(G6 (b8 f j) p (by decide) (by decide) (s.below j) N (a3.below j) q a1).mono ?_;rintro d t ⟨rfl,y,m,o⟩;refine⟨rfl,y,m,o.gK,o.runs,?_,?_,fun J a4=>?_⟩
    ·exact⟨o.gx.os.trans j.os,o.gx.tape.trans j.tape,o.gx.output.trans j.output,bZ j.size o.gx.size,fun c9 c7 q=>by rw[o.gx.block c9 (Nat.lt_of_lt_of_le c7 j.size) q,j.block c9 c7]⟩
    ·rcases o.at_ with d|d
     ·exact bg d
     ·exact bf fun S I=>bZ j.size (d S I)
    ·rcases o.items J a4 with d|d
     ·exact bg d
     ·exact bf ⟨d.1,fun S I=>bZ j.size (d.2 S I)⟩
  have b4:Hid (∀f:aK,Bw b f->iZ b a 0 D 204 e K C f e K):=fun f j=>iZ.same s n p j;have d3:Hid ((a<D.size\/True)/\0<D.size):=⟨bf trivial,(bn.1 p).1⟩;have Q:Hid (u' false C (u+c) (k.drop c) G=if lC C (u+c) (k.drop c)=false then(9,C) else(if G<(kU C (u+c) (k.drop c)).length then 8 else 0,kU C (u+c) (k.drop c))):=by show _=_;unfold u';rw[if_neg (by decide)]
  obtain⟨d0,c8⟩:∃d0,(k.drop c).length=d0:=⟨_,rfl⟩;rw[c8]at P;clear c8 a3;obtain⟨g9,h0,rfl,_,_⟩:=P;have a8:=fK B;generalize e4:k.drop c=fresh at *
  clear Z Y X W n s p T U N a0 c0 c1 R a1 b8 B e4 a2;have d2:=fK c5;clear c5;go_enter func229,ntmps229;go_upto_region 3 with fail;go_cut [7] from 14 to 25 (fun f4 a5=>f4=II (c:Int)/\Bw b a5/\a5.cell? (gf b 2)=some (II u)/\a5.cell? (gf b 3)=some (.slice v k.length w));case first=>
   go_region;go_wp2_with fail;all_goals
    go_meet;refine⟨?_,?_,by simp,by simp⟩
    ·have:=d2.out;congr 1;omega
    ·first|exact a8.out|exact fQ a8.out _
  case rest=>
   obtain⟨rfl,c2,f2,f3⟩:=hcut;go_wp2_with fail;go_quiet (fail);have M:=fQ c2 nq;clear f2 f3 c2;generalize wc.drewN nq=d4 at M⊢;have a7:=fK (a6.out d4 M);have b5:=fK M;clear M a6 e7;go_wp2_with fail;refine a7.out.mono ?_;rintro d f5 ⟨rfl,b9⟩;have b6:=fK (fP b5.out b9);clear b9 a7 b5;cases V:lC C (u+c) fresh with
   |false=>
    have L:Hid (u' false C (u+c) fresh G=(9,C)):=by show _=_;rw[Q.out,if_pos V]
    go_wp2_with fail;go_ret;refine⟨(9,C),L.out.symm,rfl,e,K,b4.out _ b6.out⟩
   |true=>
    have L:Hid (u' false C (u+c) fresh G=(if G<(kU C (u+c) fresh).length then 8 else 0,kU C (u+c) fresh)):=by show _=_;rw[Q.out,if_neg (by rw[V];decide)]
    have b0:=fK (b1.out f5 b6.out);clear b1 b4 Q V;go_wp2_with fail;refine b0.out.mono ?_;rintro d f6 ⟨rfl,y,m,H⟩;have b2:=fK H;obtain⟨e9,f0,rfl⟩:=gr H.runs.own;have c3:f6.cell? (Ad a 0)=some (.slice e9 m.length f0):=(by simp only[aD,H.gK];have:=d3.out.2;simp[this]);have a9:=fK (ET c3);have c6:m.length=(kU C (u+c) fresh).length:=H.runs.sh.1;have b3:=fK c6;clear H c3 c6 b0;go_wp2_with fail;refine a9.out.mono ?_;rintro d h1 ⟨rfl,rfl⟩;clear a9;by_cases I:G<(m.length:Int)
    ·go_wp2_with fail;go_ret;refine⟨(8,kU C (u+c) fresh),?_,rfl,_,m,b2.out⟩;rw[L.out,<-b3.out,if_pos I]
    ·go_wp2_with fail;go_ret;refine⟨(0,kU C (u+c) fresh),?_,rfl,_,m,b2.out⟩;rw[L.out,<-b3.out,if_neg (by omega)]
def MS(x y:Int):Int:=if x≠0 then x else y
theorem Fq(j:CI b a 0 c)(k:CI b a 1 g):
  aL ab 226 #[ai (some (Ad a 0)) 2 2] b fun e h=>e=.returned (II (MS c g))/\b=h:=by
 unfold MS;by_cases d:c=0
 ·subst d;rw[if_neg (by simp)];by_cases f:g=0
  ·subst f;go_enter func226,ntmps226;go_wp2;refine aS 3 ?_;rw[aR];go_wp2;rw[aR];go_wp2;rw[aR];go_wp2;go_ret;exact⟨rfl,rfl⟩
  ·go_enter func226,ntmps226;go_wp2;refine aS 2 ?_;rw[aR];go_wp2;rw[aR];go_wp2;go_ret;exact⟨rfl,rfl⟩
 ·rw[if_pos d];go_enter func226,ntmps226;go_wp2;refine aS 1 ?_;rw[aR];go_wp2;go_ret;exact⟨rfl,rfl⟩
theorem iZ.pre{n:aK}{K s7:List iw}{C:List gH}(g:Bw w b)(c:iZ b a d D z e K C n h s7):iZ w a d D z e K C n h s7:=by
 refine⟨c.gK,c.runs,?_,?_,fun q p=>?_⟩
 ·exact⟨c.gx.os.trans g.os,c.gx.tape.trans g.tape,c.gx.output.trans g.output,bZ g.size c.gx.size,fun m l o=>by rw[c.gx.block m (Nat.lt_of_lt_of_le l g.size) o,g.block m l]⟩
 ·rcases c.at_ with f|f
  ·exact bg f
  ·exact bf fun j k=>bZ g.size (f j k)
 ·rcases c.items q p with f|f
  ·exact bg f
  ·exact bf ⟨f.1,fun j k=>bZ g.size (f.2 j k)⟩
structure ze(U:Nat->Prop)(w:aK)(b:Nat)(lv:aM)(bx:Nat)(fc cs:Array aM)(rY:aM)(CU:List iw)(LF:List gH)(wx:aK):Prop where
 gK:wx.heap[b]? =some (.cells cs 204 (0,0))
 box:wx.heap[bx]? =some (.cells fc 286 (0,0))
 runs:iy wx rY CU LF
 Kv:∀v∈CU,rI v.2/\∀g,v.2.ownBlock=some g->U g\/w.heap.size<=g
 gx:gm (fun k=>k=b\/lv.ownBlock=some k) w wx
 at_:rY.ownBlock=lv.ownBlock\/∀g,rY.ownBlock=some g->w.heap.size<=g
theorem ze.below{b:Nat}{CU:List iw}{LF:List gH}{wy:aK}(h:ze U w b lv bx fc cs rY CU LF wx)(hb:Below wx.heap.size wx wy):ze U w b lv bx fc cs rY CU LF wy where
 gK:=by rw[hb.block b (bn.1 h.gK).1];exact h.gK
 box:=by rw[hb.block bx (bn.1 h.box).1];exact h.box
 runs:=h.runs.below hb
 Kv:=h.Kv
 gx:=h.gx.trans (gm.fU hb)
 at_:=h.at_
theorem iy.EB{K:List iw}{C:List gH}(h:iy w e K C)(f:w.heap[a]? =some (.cells D 204 (0,0)))(i:Nat)(v:aM):iy (w.setCell (Ad a i) v) e K C:=by
 have d:gm (fun b=>b=a) w (w.setCell (Ad a i) v):=go (Below.refl _ w) _ _;refine⟨gM h.own d fun o g c=>?_,h.sh,fun b l r k j=>(h.ro b l r k j).gx d fun q m n p c=>?_⟩
 ·subst c;exact fR h.own f (by decide) g
 grind
theorem ze.EB{b:Nat}{CU:List iw}{LF:List gH}(h:ze U w b lv bx fc cs rY CU LF wx)(i:Nat)(v:aM):ze U w b lv bx fc (cs.setIfInBounds i v) rY CU LF (wx.setCell ⟨b,i,none⟩ v) where
 gK:=fT h.gK i v
 box:=by
  have J6:bx≠b:=by intro e;subst e;have h1:=h.box;rw[h.gK]at h1;simp only[Option.some.injEq,Obj.cells.injEq]at h1;exact absurd h1.2.1 (by decide)
  rw[heap_setCell_other _ _ _ _ J6];exact h.box
 runs:=h.runs.EB h.gK i v
 Kv:=h.Kv
 gx:=h.gx.trans ((go (Below.refl _ wx) i v).mono fun k _ e=>bg e)
 at_:=h.at_
theorem ze.cell{c:aM}{K:List iw}{C:List gH}(h:ze L w a e d D x7 c K C b)(i:Nat):b.cell? (Ad a i)=x7[i]?:=by simp only[aD,h.gK];rfl
theorem ze.tu{c:aM}{K:List iw}{C:List gH}(h:ze L w a e d D x7 c K C b)(i:Nat):b.cell? (Ad d i)=D[i]?:=by simp only[aD,h.box];rfl
theorem ze.free{c:aM}{K:List iw}{C:List gH}(h:ze L w a e d D x7 c K C b)(i:Nat):b.frozen? (Ad a i)=false:=frozen_of_row b a i _ _ h.gK
theorem ze.clear{k:aM}{K:List iw}{C:List gH}(h:ze L w a e d D x7 k K C b):ze L w a e d D (x7.setIfInBounds 0 (ai none 0 0)) (ai none 0 0) [] [] (b.setCell (Ad a 0) (ai none 0 0)):=by have f:=h.EB 0 (ai none 0 0);refine⟨f.gK,f.box,⟨⟨rfl,bg ⟨rfl,rfl⟩⟩,⟨rfl,fun i g r c=>(by simp at c)⟩,fun i g r c=>(by simp at c)⟩,fun g c=>(by cases c),f.gx,bf fun l j=>(by simp[Value.ownBlock]at j)⟩
theorem EJ{K:List iw}{C:List gH}
  (f:ze L b a e d D #[h,II rd,II hi,II l,II u,II fi,.bool O,.bool z0] h K C w) (A:kE C):
  aL ab 231 #[Pt a] w fun q g=>q=.returned (.tuple #[])/\∃B G,
   ze L b a e d D #[B,II rd,II hi,II l,II u,II fi,.bool O,.bool (if iJ C rd fi then z0 else true)] B G (if iJ C rd fi then C else []) g:=by
 have j:=fK (fun x (y:Bw w x)=>rH (K:=K) (C:=C) (e:=h) rd fi (a:=a) (d:=0) (b:=x) (fL (f.cell 0) y) (gp f.runs.own y) f.runs.sh A.wide (by have:=A.tz;have:=f.runs.sh.1;omega));have c1:CI w a 1 rd:=f.cell 1;have p:CI w a 5 fi:=f.cell 5;have o:=fK f;clear f;cases z:iJ C rd fi with
 |true=>
  rw[z]at j;simp only[if_true];go_enter func231,ntmps231;go_wp2_with fail;go_region_held3 (fun g=>g.cell? (Ad a 1)=some (II rd)/\g.cell? (Ad a 5)=some (II fi)) (first|assumption|go_keep) (first
   |(go_at_call 166;refine(j.out _ (fQ (Below.refl _ w) _)).mono ?_;rintro q v ⟨rfl,c⟩;have s:=fL c1 (gc c);have t:=fL p (gc c)))
  have n:=fK (gc c);clear c j s t;go_wp2_with fail;refine bodyPost_ret (results_none rfl _ _ _) rfl ?_;exact⟨rfl,h,K,o.out.below n.out⟩
 |false=>
  rw[z]at j;simp only[Bool.false_eq_true,if_false];go_enter func231,ntmps231;go_wp2_with fail;go_region_held3 (fun g=>g.cell? (Ad a 1)=some (II rd)/\g.cell? (Ad a 5)=some (II fi)) (first|assumption|go_keep) (first
   |(go_at_call 166;refine(j.out _ (fQ (Below.refl _ w) _)).mono ?_;rintro q v ⟨rfl,c⟩;have s:=fL c1 (gc c);have t:=fL p (gc c)))
  have n:=fK (gc c);clear c j s t;have k:=fK (o.out.below n.out);have m:=fK (k.out.EB 7 (.bool true));have M:=k.out.free 7;have J:=m.out.free 0;have I:CV v a 7 (.bool z0):=k.out.cell 7;have H:CV (v.setCell (Ad a 7) (.bool true)) a 0 h:=m.out.cell 0;have E:=fK m.out.clear;clear o k m c1 p;go_wp2_with fail;go_end0;exact⟨rfl,_,[],E.out⟩
def Mf(U:Nat->Prop)(w:aK)(b:Nat)(lv:aM)(fc:Array aM)(rd hi cr ah fi:Int)(kn rs:Bool)(ty en c1 c2:Int)(r:Int×List gH)(e:Ending)(w':aK):Prop:=
 e=.returned (II (if c1≠0 then c1 else if c2≠0 then c2 else r.1))/\gm (fun k=>k=b\/lv.ownBlock=some k) w w'/\
   (c1=0->c2=0->r.1=0->∃rY CU,ze U w b lv w.heap.size fc #[rY,II rd,II (max hi en),II cr,II ah,II (if kN ty=true then en else fi),.bool (if kN ty=true then true else kn),.bool (if ty=5/\iJ r.2 rd en=false then true else rs)] rY CU (if ty=5/\iJ r.2 rd en=false then [] else r.2) w')
theorem JP{K:List iw}{C:List gH}{H:Int}{I J z9 z8:Int}{k:List Int}{c1 y6:Int}{r:Int×List gH}
  (a3:b.heap[a]? =some (.cells #[e,II rd,II hi,II l,II u,II fi,.bool O,.bool z0] 204 (0,0))) (f:iy b e K C) (e0:kE C) (a4:∀o∈K,rI o.2/\∀P,o.2.ownBlock=some P->L P)
  (b2:Ro b 5 h k.length (U8 k)) (d6:∀e7 cap,h=.slice e7 k.length cap->k.length<=cap/\cap<=9223372036854775807) (h5:0<=rd/\rd<=1073741823) (h4:0<=H/\H<=1073741823) (h3:k.length<=1073741823) (h1:0<=hi/\hi<=1073741823) (h0:0<=I/\I<=1099511627776)
  (d7:c1=Du O E I hi fi) (d8:y6=pO hi l I z9) (e4:r=u' z0 C (H+mQ rd H k) (k.drop (mQ rd H k)) z8) (e2:r.1=0->kE r.2):
  aL ab 217 #[Pt a,ox E G H h I J,II z9,II z8] b fun d g=>Mf L b a e (rf E G H h I J) rd hi l u fi O z0 E I c1 y6 r d g:=by
 have g8:a<b.heap.size:=(bn.1 a3).1;have A:∀(c:aK),Bw b c->∀i o,(#[e,II rd,II hi,II l,II u,II fi,.bool O,.bool z0]:Array aM)[i]? =some o->c.cell? (Ad a i)=some o:=by intro c m i o W;refine fL ?_ m;simp only[aD,a3];exact W
 have c2:Hid (∀c:aK,(Bw b c/\c.cell? (gf b 0)=some (II E)/\c.cell? (gf b 1)=some (II G)/\c.cell? (gf b 2)=some (II H)/\c.cell? (gf b 3)=some (h)/\c.cell? (gf b 4)=some (II I)/\c.cell? (gf b 5)=some (II J))->aL ab 227 #[Pt a,.agg (rf E G H h I J)] c fun d g=>d=.returned (II c1)/\Bw c g):=by intro c a8;have m:=a8.1;rw[d7];exact zK (a:=a) (hi:=hi) (fi:=fi) (O:=O) (l:=E) (u:=G) (x:=H) (e:=h) (E:=I) (G:=J) (b:=c) (A c m 2 _ rfl) (A c m 5 _ rfl) (A c m 6 _ rfl)
 have b9:Hid (∀c:aK,(Bw b c/\c.cell? (gf b 0)=some (II E)/\c.cell? (gf b 1)=some (II G)/\c.cell? (gf b 2)=some (II H)/\c.cell? (gf b 3)=some (h)/\c.cell? (gf b 4)=some (II I)/\c.cell? (gf b 5)=some (II J))->aL ab 228 #[Pt a,II I,II z9] c fun d g=>d=.returned (II y6)/\Bw c g):=by intro c a8;have m:=a8.1;rw[d8];exact wg (a:=a) (hi:=hi) (g:=l) (l:=u) (u:=I) (x:=z9) (b:=c) (A c m 2 _ rfl) (A c m 3 _ rfl) (A c m 4 _ rfl) h1 h0
 have c6:Hid (∀c:aK,Bw b c->c.heap[b.heap.size]? =some (.cells (rf E G H h I J) 286 (0,0))->aL ab 229 #[Pt a,.agg (rf E G H h I J),II z8] c fun d g=>d=.returned (II r.1)/\∃j n,ze L b a e b.heap.size (rf E G H h I J) #[j,II rd,II hi,II l,II u,II fi,.bool O,.bool z0] j n r.2 g):=by
  intro c m p;refine(CA (a:=a) (e:=e) (K:=K) (C:=C) (rd:=rd) (O:=z0) (g:=E) (l:=G) (u:=H) (h:=h) (x:=I) (E:=J) (G:=z8) (k:=k) (b:=c) (by rw[m.block a g8];exact a3) rfl rfl rfl (f.below m) e0 (fun o W=>(a4 o W).1) (b2.below m) d6 h5 h4 h3).mono ?_;rintro d g ⟨j0,e5,rfl,j,n,e1⟩;rw[<-e4]at e5;subst e5;have V:=e1.pre m;refine⟨rfl,j,n,V.gK,?_,V.runs,fun o W=>?_,V.gx,V.at_⟩
  ·rw[e1.gx.block _ (bn.1 p).1 (fun g7=>?_)]
   ·exact p
   ·rcases g7 with d|d
    ·omega
    ·have:=(f.own.lt _ d).2;omega
  ·rcases V.items o W with d|d
   ·exact⟨(a4 o d).1,fun P b4=>bg ((a4 o d).2 P b4)⟩
   ·exact⟨d.1,fun P b4=>bf (d.2 P b4)⟩
 have c4:Hid (∀(c:aK) (j:aM) (n:List iw) (N:Int) (a6:Bool),r.1=0->ze L b a e b.heap.size (rf E G H h I J) #[j,II rd,II (max hi I),II l,II u,II N,.bool a6,.bool z0] j n r.2 c->aL ab 231 #[Pt a] c fun d g=>d=.returned (.tuple #[])/\∃j n,ze L b a e b.heap.size (rf E G H h I J) #[j,II rd,II (max hi I),II l,II u,II N,.bool a6,.bool (if iJ r.2 rd N then z0 else true)] j n (if iJ r.2 rd N then r.2 else []) g):=
  fun c j n N a6 g4 a2=>EJ (a:=a) (e:=e) (rd:=rd) (hi:=max hi I) (l:=l) (u:=u) (fi:=N) (O:=a6) (z0:=z0) (h:=j) (K:=n) (C:=r.2) (b:=b) (w:=c) a2 (e2 g4)
 have d1:Hid (∀c,aL ab 230 #[.agg (rf E G H h I J)] c fun d g=>d=.returned (.bool (kN E))/\Bw c g):=fun c=>oK (c:=E) (g:=G) (l:=H) (e:=h) (u:=I) (x:=J) (b:=c);have Y:Hid (∀c q:aK,Bw c q->(Bw b c/\io c b 0 E/\io c b 1 G/\io c b 2 H/\lq c b 3 (h)/\io c b 4 I/\io c b 5 J)->(Bw b q/\io q b 0 E/\io q b 1 G/\io q b 2 H/\lq q b 3 (h)/\io q b 4 I/\io q b 5 J)):=
  fun c q D f=>⟨fP f.1 D,fL f.2.1 D,fL f.2.2.1 D,fL f.2.2.2.1 D,fL f.2.2.2.2.1 D,fL f.2.2.2.2.2.1 D,fL f.2.2.2.2.2.2 D⟩
 have b1:Bw b (tL b E G H h I J):=fO b _;have b8:Hid ((tL b E G H h I J).heap[b.heap.size]? =some (.cells (rf E G H h I J) 286 (0,0))):=cA b _;have c8:Hid (∀c:aK,Below (tL b E G H h I J).heap.size (tL b E G H h I J) c->Bw b c/\c.heap[b.heap.size]? =some (.cells (rf E G H h I J) 286 (0,0))):=fun c m=>⟨fP b1 m,by rw[m.block _ (by simp)];exact b8.out⟩;have d2:Bw b (tL b E G H h I J).drew/\CI (tL b E G H h I J).drew b.heap.size 0 E/\CI (tL b E G H h I J).drew b.heap.size 1 G/\CI (tL b E G H h I J).drew b.heap.size 2 H/\CV (tL b E G H h I J).drew b.heap.size 3 (h)/\CI (tL b E G H h I J).drew b.heap.size 4 I/\CI (tL b E G H h I J).drew b.heap.size 5 J:=⟨fQ b1 1,by simp,by simp,by simp,by simp,by simp,by simp⟩;obtain⟨S,T,rfl,_,_⟩:=id b2;clear a3 f e0 a4 b2 d6 A d7 d8 e4 e2;unfold ox;have c7:=fK d2;clear d2;go_enter func217,ntmps217;go_upto_region 1 with fail;go_cut [9] from 11 to 20 (fun h8 a7=>h8=II (MS c1 y6)/\Bw b a7/\a7.heap[b.heap.size]? =some (.cells #[II E,II G,II H,.slice S k.length T,II I,II J] 286 (0,0)));case first=>
  have i3:=c7.out;go_region_held3 (fun g=>Bw b g/\g.cell? (gf b 0)=some (II E)/\g.cell? (gf b 1)=some (II G)/\g.cell? (gf b 2)=some (II H)/\g.cell? (gf b 3)=some (.slice S k.length T)/\g.cell? (gf b 4)=some (II I)/\g.cell? (gf b 5)=some (II J)) (first|assumption|exact Y.out _ _ (fO _ _) (by assumption)|go_keep) (first
   |(go_at_call 227;refine(c2.out _ (by assumption)).mono ?_;rintro d j1 ⟨rfl,a9⟩;have i4:=Y.out _ _ a9 (by assumption))
   |(go_at_call 228;refine(b9.out _ (by assumption)).mono ?_;rintro d b6 ⟨rfl,b0⟩;have i5:=Y.out _ _ b0 (by assumption))
   |(go_at_call 226;refine(Fq (c:=c1) (g:=y6) (by simp) (by simp)).mono ?_;rintro d Q ⟨rfl,rfl⟩))
  all_goals
   go_wp2_with fail;go_meet;refine⟨rfl,c8.out _ ?_⟩;first
    |exact fP (fP (gc a9) b0) (fO _ _)
    |exact fP (fP (gc b0) a9) (fO _ _)
 case rest=>
  obtain⟨rfl,b3,p⟩:=hcut;by_cases s:MS c1 y6=0
  ·have g5:c1=0/\y6=0:=by
    unfold MS at s;split at s
    ·contradiction
    ·next f=>exact⟨Classical.byContradiction f,s⟩
   obtain⟨rfl,rfl⟩:=g5;have e3:MS 0 0=0:=rfl;rw[e3];clear s e3 c2 b9 Y c8 c7 b8 b1;have c5:=fK (c6.out wc b3 p);have f1:io wc b 0 E:=iL p rfl;have f2:io wc b 1 G:=iL p rfl;have f3:io wc b 2 H:=iL p rfl;have f4:lq wc b 3 (.slice S k.length T):=iL p rfl;have f5:io wc b 4 I:=iL p rfl;have f6:io wc b 5 J:=iL p rfl;clear c6 b3 p;go_wp2_with fail;refine c5.out.mono ?_;rintro d b6 ⟨rfl,j,n,a2⟩;have M:=fK a2;clear c5 f1 f2 f3 f4 f5 f6 a2;by_cases a5:r.1=0
   ·have h2:CI b6 a 2 hi:=M.out.cell 2;have i0:=M.out.free 2;have f7:io b6 b 4 I:=M.out.tu 4;go_upto_region 7 with fail;go_cut [10] from 31 to 40 (fun h7 a7=>h7=II 0/\ze L b a e b.heap.size #[II E,II G,II H,.slice S k.length T,II I,II J] #[j,II rd,II (max hi I),II l,II u,II fi,.bool O,.bool z0] j n r.2 a7);case first=>
     have Z:=fK (M.out.EB 2 (II (max hi I)));rcases Int.lt_or_le hi I with i7|i6
     ·have U:max hi I=I:=by omega
      rw[U]at Z;go_region;go_wp2_with fail;go_meet;rw[U];exact⟨rfl,Z.out.below (fQ (Below.refl _ _) 1)⟩
     ·have U:max hi I=hi:=by omega
      rw[U]at Z;go_region;go_wp2_with fail;go_meet;rw[U];exact⟨rfl,Z.out.below (fQ (Below.refl _ _) 1)⟩
    case rest=>
     obtain⟨rfl,w⟩:=hcut;have c9:=fK w;clear h2 i0 f7 M;have f8:io wc b 0 E:=w.tu 0;have f9:io wc b 1 G:=w.tu 1;have g0:io wc b 2 H:=w.tu 2;have g1:lq wc b 3 (.slice S k.length T):=w.tu 3;have g2:io wc b 4 I:=w.tu 4;have g3:io wc b 5 J:=w.tu 5;clear w;go_wp2_with fail;refine(d1.out _).mono ?_;rintro d Q ⟨rfl,d4⟩;have t:=fK (c9.out.below d4);have a0:=fK a5;clear f8 f9 g0 g1 g2 g3 d4 c9 d1 a5;cases z:kN E with
     |false=>
      have b5:E≠5:=fun d=>by rw[d]at z;exact absurd z (by decide)
      have d5:(E==5)=false:=beq_eq_false_iff_ne.2 b5;have e6:io Q b 0 E:=t.out.tu 0;go_wp2_with fail;go_ret;refine⟨by rw[a0.out];rfl,t.out.gx,fun _ _ _=>⟨j,n,?_⟩⟩;rw[if_neg (by rw[z];decide),if_neg (by rw[z];decide),if_neg (fun f=>b5 f.1),if_neg (fun f=>b5 f.1)];exact t.out
     |true=>
      have e8:io Q b 4 I:=t.out.tu 4;have e9:CI Q a 5 fi:=t.out.cell 5;have i1:=t.out.free 5;have X:=fK (t.out.EB 5 (II I));have f0:CV (Q.setCell (Ad a 5) (II I)) a 6 (.bool O):=X.out.cell 6;have i2:=X.out.free 6;have R:=fK (X.out.EB 6 (.bool true));have e6:io ((Q.setCell (Ad a 5) (II I)).setCell (Ad a 6) (.bool true)) b 0 E:=R.out.tu 0;by_cases v:E=5
      ·have c3:=fK (c4.out _ j n I true a0.out R.out);have d0:=fK z;clear t X R c4 z;have d5:(E==5)=true:=by rw[v];rfl
       replace v:=fK v;go_wp2_with fail;refine c3.out.mono ?_;rintro d j2 ⟨rfl,h6,h9,d3⟩;have b7:=fK d3;clear d3 c3 e8 e9 i1 f0 i2 e6;go_wp2_with fail;go_ret;refine⟨by rw[a0.out];rfl,b7.out.gx,fun _ _ _=>⟨h6,h9,?_⟩⟩;have a1:=b7.out;rw[if_pos d0.out,if_pos d0.out];cases d9:iJ r.2 rd I with
       |true=>rw[d9]at a1;rw[if_neg (fun f=>by simp at f),if_neg (fun f=>by simp at f)];exact a1
       |false=>rw[d9]at a1;rw[if_pos ⟨v.out,rfl⟩,if_pos ⟨v.out,rfl⟩];exact a1
      ·have d5:(E==5)=false:=beq_eq_false_iff_ne.2 v;go_wp2_with fail;go_ret;refine⟨by rw[a0.out];rfl,R.out.gx,fun _ _ _=>⟨j,n,?_⟩⟩;rw[if_pos z,if_pos z,if_neg (fun f=>v f.1),if_neg (fun f=>v f.1)];exact R.out
   ·have i9:(r.1==0)=false:=beq_eq_false_iff_ne.2 a5;go_wp2_with fail;go_ret;exact⟨by rfl,M.out.gx,fun _ _ f=>absurd f a5⟩
  ·have i8:(MS c1 y6==0)=false:=beq_eq_false_iff_ne.2 s;go_wp2_with fail;go_ret;refine⟨?_,gm.fU b3,fun B g6=>absurd (by rw[B,g6];rfl) s⟩;have g9:MS c1 y6=if c1≠0 then c1 else if y6≠0 then y6 else r.1:=by
    unfold MS at s⊢;by_cases B:c1≠0
    ·rw[if_pos B,if_pos B]
    ·rw[if_neg B]at s;rw[if_neg B,if_neg B,if_pos s]
   rw[<-g9];rfl
end Go.Proofs.YthmdjhlhodpbhaaGreatDoor
